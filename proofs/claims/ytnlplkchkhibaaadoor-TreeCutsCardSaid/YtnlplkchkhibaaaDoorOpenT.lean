/-
  TreeParses: the forms that tokens say, or the error, and where.
-/
import Derived.Test.YtnlplkchkhibaaaDoorRParse7
import Derived.Test.YtnlplkchkhibaaaDoorSameF
import Derived.ProofKit
import Derived.OpenShut
import Derived.SizedLaws
import Derived.Deep.SlicePairs
namespace Go.Proofs.YtnlplkchkhibaaaDoor
open Go.RowKit Go.Deep Go.MapKept
theorem flatT_take (ts : List Tok) (n : Nat) : flatT (ts.take n) = (flatT ts).take (n * 4) := by
  induction ts generalizing n with
  | nil => simp [flatT]
  | cons t r ih =>
    cases n with
    | zero => simp [flatT]
    | succ n =>
      have e : (n + 1) * 4 = n * 4 + 4 := by omega
      have := ih n
      unfold flatT at this ⊢
      simp only [List.take_succ_cons, List.flatMap_cons]
      rw [this, List.take_append, e]
      have h4 : t.cells.length = 4 := rfl
      rw [h4, show n * 4 + 4 - 4 = n * 4 by omega, List.take_of_length_le (l := t.cells) (by rw [h4]; omega)]
theorem sees_take {w : World} {a : Option Addr} {cap : Nat} {ts : List Tok} (h : SeesC w (.slice a ts.length cap) ts.length 4 (flatT ts)) (m : Nat) (hm : m ≤ ts.length) : SeesC w (.slice a m cap) (ts.take m).length 4 (flatT (ts.take m)) := by
  obtain ⟨hl, a', cap', he, h⟩ := h
  cases he
  have hlen : (ts.take m).length = m := by rw [List.length_take]; omega
  refine ⟨by rw [flatT_length], a, cap, by rw [hlen], ?_⟩
  rcases h with h0 | ⟨b, off, rfl, hc⟩
  · exact .inl (by omega)
  · refine .inr ⟨b, off, rfl, fun j c hj => hc j c ?_⟩
    rw [flatT_take] at hj
    have hlt : j < m * 4 := by
      have := (List.getElem?_eq_some_iff.1 hj).1
      rw [List.length_take] at this
      omega
    rwa [List.getElem?_take_of_lt hlt] at hj
theorem few_any (ts : List Tok) (a : Option Addr) (cap : Nat) (hcap : ts.length ≤ cap) (w : World) (hv : SeesC w (.slice a ts.length cap) ts.length 4 (flatT ts)) :
    ∃ v, SeesC w v (ts.take 700).length 4 (flatT (ts.take 700)) ∧ ∀ W, Calls Tryd.prog 10 #[.slice a ts.length cap] W fun e w' => e = .returned v ∧ W = w' := by
  by_cases h : 700 < ts.length
  · refine ⟨.slice a 700 cap, sees_take hv 700 (by omega), fun W => ?_⟩
    have e1 : (700 : Int) < (ts.length : Int) := by omega
    have e2 : (700 : Int) ≤ (cap : Int) := by omega
    have e3 : 700 ≤ cap := by omega
    obtain ⟨b, off, rfl⟩ : ∃ b off, a = some ⟨b, off, none⟩ := by
      obtain ⟨_, a', cap', he, h0 | ⟨b, off, rfl, _⟩⟩ := hv
      · omega
      · cases he; exact ⟨b, off, rfl⟩
    clear hv
    go_enter Tryd.func10, Tryd.ntmps10
    go_wp2
    go_ret
    exact ⟨rfl, rfl⟩
  · have et : ts.take 700 = ts := List.take_of_length_le (by omega)
    rw [et]
    refine ⟨.slice a ts.length cap, hv, fun W => ?_⟩
    have e1 : ¬ (700 : Int) < (ts.length : Int) := by omega
    clear hv et
    go_enter Tryd.func10, Tryd.ntmps10
    go_wp2
    go_ret
    exact ⟨rfl, rfl⟩
theorem parse_good {l : List Tok} {σ : St} (h : parse l = .ok σ) : Good σ := by
  unfold parse at h
  cases hs : steps l begin0 with
  | error e => rw [hs] at h; cases h
  | ok σ1 =>
    rw [hs] at h
    simp only at h
    unfold finish at h
    split at h
    · cases h; exact steps_good_at hs
    · cases h
theorem seesM_nil (w : World) : SeesM w (.slice none 0 0) [] := ⟨⟨rfl, none, 0, rfl, .inl rfl⟩, fun i x hx => by simp at hx⟩
theorem seesI_nil (w : World) : SeesC w (.slice none 0 0) ([] : List Int).length 1 (intsI []) := ⟨rfl, none, 0, rfl, .inl rfl⟩
theorem sees_ints {w : World} {v : Value} {l : List Nat} (h : SeesC w v l.length 1 (ints l)) : SeesC w v (l.map fun (n : Nat) => (n : Int)).length 1 (intsI (l.map fun (n : Nat) => (n : Int))) := by
  have e : intsI (l.map fun (n : Nat) => (n : Int)) = ints l := by simp [intsI, ints]
  rw [e, List.length_map]
  exact h
/-- What both Parse tell, together: values that are the same. -/
theorem both_same {r : Except (Int × Int) St} (hr : ∀ σ, r = .ok σ → Good σ) {w w1 : World} {e1 : Ending} (h1 : PRes w r e1 w1) : ∃ fv tv i er, e1 = .returned (.tuple #[fv, tv, .int .i64 i, .int .i64 er]) ∧ Below w.heap.size w w1 ∧
    ∀ w2 w3 e3, PRes w2 r e3 w3 → ∃ fv' tv', e3 = .returned (.tuple #[fv', tv', .int .i64 i, .int .i64 er]) ∧ Below w2.heap.size w2 w3 ∧ (Below w1.heap.size w1 w3 → ∀ W, Below w3.heap.size w3 W →
      (Calls Tryd.prog 13 #[fv, fv'] W fun e w' => e = .returned (.bool true) ∧ Below W.heap.size W w') ∧ (Calls Tryd.prog 14 #[tv, tv'] W fun e w' => e = .returned (.bool true) ∧ Below W.heap.size W w')) := by
  cases r with
  | error q =>
    obtain ⟨rfl, hb⟩ := h1
    refine ⟨_, _, _, _, rfl, hb, ?_⟩
    rintro w2 w3 e3 ⟨rfl, hb3⟩
    refine ⟨_, _, rfl, hb3, fun _ W hW => ⟨same_eq _ _ [] [] rfl (by simp) (by simp) W (seesM_nil W) (seesM_nil W), (sameInts_eq _ _ [] (by simp) W (seesI_nil W) (seesI_nil W)).mono ?_⟩⟩
    rintro e w' ⟨rfl, n, rfl⟩
    exact ⟨rfl, below_drawn (Below.refl _ _) n⟩
  | ok σ =>
    have hG := hr σ rfl
    obtain ⟨fv, tv, rfl, hf, ht, hb⟩ := h1
    refine ⟨_, _, _, _, rfl, hb, ?_⟩
    rintro w2 w3 e3 ⟨fv', tv', rfl, hf', ht', hb3⟩
    refine ⟨_, _, rfl, hb3, fun h13 W hW => ?_⟩
    obtain ⟨ms, hms, hsm⟩ := seesM_of hf
    obtain ⟨ms', hms', hsm'⟩ := seesM_of hf'
    have hB : Below w1.heap.size w1 W := h13.trans (hW.mono h13.size)
    have hml : ms.length = σ.forms.length := by have := congrArg List.length hms; simpa using this
    have hlen := hG.len
    refine ⟨same_eq _ _ ms ms' (hms.trans hms'.symm) (by omega) (fun x hx => ?_) W (hsm.below hB (Nat.le_refl _)) (hsm'.below hW (Nat.le_refl _)), (sameInts_eq _ _ _ (by have := hG.top_len; simp; omega) W ((sees_ints ht).below hB (Nat.le_refl _)) ((sees_ints ht').below hW (Nat.le_refl _))).mono ?_⟩
    · have : x.1 ∈ ms.map Prod.fst := List.mem_map.2 ⟨x, hx, rfl⟩
      rw [hms] at this
      obtain ⟨f, hf1, hf2⟩ := List.mem_map.1 this
      have := hG.kid_len f hf1
      rw [← hf2]
      simp [toFm]
      omega
    · rintro e w' ⟨rfl, n, rfl⟩
      exact ⟨rfl, below_drawn (Below.refl _ _) n⟩
set_option maxHeartbeats 2000000 in
theorem treeParses_law (ts : List Tok) (a : Option Addr) (cap : Nat) (hcap : ts.length ≤ cap) (hs : ∀ t ∈ ts, t.s.size ≤ 140737488355328) (w : World) (hv : SeesC w (.slice a ts.length cap) ts.length 4 (flatT ts)) (hL : Laid w) :
    Calls Tryd.prog 3 #[.slice a ts.length cap] w fun e w' => e = .returned (.bool true) ∧ Below w.heap.size w w' := by
  obtain ⟨v, hsv, hfew⟩ := few_any ts a cap hcap w hv
  have hs7 : ∀ t ∈ ts.take 700, t.s.size ≤ 140737488355328 := fun t ht => hs t (List.mem_of_mem_take ht)
  have hl7 : (ts.take 700).length ≤ 700 := by rw [List.length_take]; omega
  have CF := hidI hfew
  have CP : Hid (∀ W, Below w.heap.size w W → Calls Tryd.prog 9 #[v] W fun e w' => PRes W (parse (ts.take 700)) e w') := hidI fun W hW => tparse_any _ v W (hsv.below hW (Nat.le_refl _)) hs7 (by omega)
  have CR : Hid (∀ W, Below w.heap.size w W → Calls Tryd.prog 11 #[v] W fun e w' => PRes W (parse (ts.take 700)) e w') := hidI fun W hW => rtparse_any _ v W (hsv.below hW (Nat.le_refl _)) (by omega)
  have HG : Hid (∀ σ, parse (ts.take 700) = .ok σ → Good σ) := hidI fun σ h => parse_good h
  have HL := hidI hL
  clear hv hsv hfew hs7 hL hs
  go_enter Tryd.func3, Tryd.ntmps3
  go_wp2_with (first
    | (go_at_call 10; refine (CF.out _).mono ?_; rintro e w' ⟨rfl, rfl⟩)
    | (go_at_call 9; refine (CP.out _ (Below.refl _ _)).mono ?_; intro e1 w1 h1; obtain ⟨fv, tv, i, er, rfl, hb1, hrest⟩ := both_same HG.out h1; have HB1 := hidI hb1; have HR := hidI hrest; clear hb1 hrest h1)
    | (go_at_call 11; refine (CR.out _ HB1.out).mono ?_; intro e2 w3 h2; obtain ⟨fv', tv', rfl, hb3, hcs⟩ := HR.out _ _ _ h2; have HB3 := hidI (HB1.out.trans (hb3.mono HB1.out.size)); have HCS := hidI (hcs hb3); clear hb3 hcs h2)
    | (go_at_call 12; refine (tlive_any _ (HL.out.on HB3.out)).mono ?_; rintro e w4 ⟨rfl, hb4⟩; have HB4 := hidI hb4; clear hb4)
    | (go_at_call 13; refine ((HCS.out _ HB4.out).1).mono ?_; rintro e w5 ⟨rfl, hb5⟩; have HB5 := hidI (HB4.out.trans (hb5.mono HB4.out.size)); clear hb5)
    | (go_at_call 14; refine ((HCS.out _ HB5.out).2).mono ?_; rintro e w6 ⟨rfl, hb6⟩; have HB6 := hidI (HB5.out.trans (hb6.mono HB5.out.size)); clear hb6))
  go_ret
  exact ⟨rfl, HB3.out.trans (HB6.out.mono HB3.out.size)⟩
end Go.Proofs.YtnlplkchkhibaaaDoor
/-
  Tokens as the laws take them.
-/
namespace Go.Proofs.YtnlplkchkhibaaaDoor
open Go.ChangeShapes Go.WideShapes Go.ChangeAt Go.RowKit Go.Deep
instance : Inhabited Tok := ⟨⟨0, ⟨#[]⟩, 0, 0⟩⟩
theorem len4 {α : Type} : ∀ {l : List α}, l.length = 4 → ∃ a b c d, l = [a, b, c, d]
  | [a, b, c, d], _ => ⟨a, b, c, d, rfl⟩
theorem open_tok {H : Type} {enc : TypeId × Value → H} {W : World} {fuel : Nat} {cs : List Value} {x : DataW H × List MemPlace} (hl : cs.length = 4) (h : DataW.trod enc Tryd.prog W 0 (fun _ => true) true fuel 37 cs = some x) :
    ∃ y : Tok, cs = y.cells ∧ ∀ b, (∀ n ∈ x.1.weights Tryd.prog 37, n ≤ b) → y.s.size ≤ b := by
  obtain ⟨xs, k, _, rfl, _, hxl, hf⟩ := DataW.trod_struct Tryd.underlying37 h
  have g0 := hf 0 { name := "Kind", type := 34, offset := 0, embedded := false, tag := "", pkgPath := "", byteOffset := 0 } rfl
  have g1 := hf 1 { name := "Text", type := 9, offset := 1, embedded := false, tag := "", pkgPath := "", byteOffset := 8 } rfl
  have g2 := hf 2 { name := "Num", type := 35, offset := 2, embedded := false, tag := "", pkgPath := "", byteOffset := 24 } rfl
  have g3 := hf 3 { name := "At", type := 3, offset := 3, embedded := false, tag := "", pkgPath := "", byteOffset := 32 } rfl
  rw [show Tryd.prog.cellsOf 34 = 1 by kernel_rfl] at g0
  rw [show Tryd.prog.cellsOf 9 = 1 by kernel_rfl] at g1
  rw [show Tryd.prog.cellsOf 35 = 1 by kernel_rfl] at g2
  rw [show Tryd.prog.cellsOf 3 = 1 by kernel_rfl] at g3
  obtain ⟨y0, y1, y2, y3, rfl⟩ := len4 (show xs.length = 4 from hxl)
  obtain ⟨c0, c1, c2, c3, rfl⟩ := len4 hl
  simp at g0 g1 g2 g3
  obtain ⟨kk, h0, _, _⟩ := DataW.trod_int Tryd.underlying34 g0
  obtain ⟨s, h1, hy1, _⟩ := DataW.trod_string Tryd.underlying9 g1
  obtain ⟨o, h2, _, _⟩ := DataW.trod_int Tryd.underlying35 g2
  obtain ⟨i, h3, _, _⟩ := DataW.trod_int Tryd.underlying3 g3
  simp at h0 h1 h2 h3
  subst h0 h1 h2 h3
  refine ⟨⟨kk, s, o, i⟩, rfl, fun b hb => ?_⟩
  have := hb s.data.toList.length (by
    simp only [DataW.weights, Tryd.underlying37, List.map_cons, List.map_nil]
    refine DataW.weights_mem_each (j := 1) (t := 9) (d := y1.1) rfl rfl _ ?_
    rw [hy1]
    simp [DataW.weights])
  simpa using this
theorem weights_all {H : Type} {P : Program} {e : TypeId} : ∀ {ds : List (DataW H)} {d : DataW H}, d ∈ ds → ∀ n ∈ d.weights P e, n ∈ DataW.weightsAll P e ds
  | d0 :: r, d, hd, n, hn => by
    simp only [DataW.weightsAll, List.mem_append]
    rcases List.mem_cons.1 hd with rfl | hd
    · exact .inl hn
    · exact .inr (weights_all hd n hn)
set_option maxRecDepth 100000 in
theorem open_toks {H : Type} {enc : TypeId × Value → H} {W : World} {base : Nat} {v : Value} {d : DataW H} {p : List MemPlace} (hv : Value.okWide Tryd.prog W .any base 22 v)
    (h1 : DataW.Trod enc Tryd.prog W 0 (fun _ => true) true 22 v d p) (hw : ∀ n ∈ d.weights Tryd.prog 22, n ≤ reachBytes) : ∃ (a : Option Addr) (cap : Nat) (ts : List Tok), v = .slice a ts.length cap ∧ ts.length ≤ cap ∧ SeesC W (.slice a ts.length cap) ts.length 4 (flatT ts) ∧ ∀ t ∈ ts, t.s.size ≤ 140737488355328 := by
  obtain ⟨ad, len, cap, rfl⟩ := okWide_slice Tryd.underlying22 hv
  obtain ⟨fuel, hf⟩ := h1
  rcases open_slice Tryd.underlying22 hf with ⟨hcs, _⟩ | ⟨x, l, c, m, n, D, Pl, hcs, _, hl, hm, hmm, hd, hx⟩
  · simp [Value.cells] at hcs
    obtain ⟨rfl, rfl, rfl⟩ := hcs
    exact ⟨none, 0, [], rfl, Nat.le_refl _, ⟨rfl, none, 0, rfl, .inl rfl⟩, fun x hx => by simp at hx⟩
  · simp [Value.cells] at hcs
    obtain ⟨rfl, rfl, rfl⟩ := hcs
    have hmc : m = cap := by simpa using hmm
    subst hmc
    have c4 : Tryd.prog.cellsOf 37 = 4 := by kernel_rfl
    rw [c4] at hx
    simp only [Prod.mk.injEq] at hd
    obtain ⟨rfl, _⟩ := hd
    have each : ∀ i, i < m → ∃ y : Tok, (∀ j c, y.cells[j]? = some c → W.cell? (x.add (i * 4 + j)) = some c) ∧ (i < len → y.s.size ≤ reachBytes) := by
      intro i hi
      obtain ⟨cs', h1, h2⟩ := hx i hi
      obtain ⟨_, hlen, hcell⟩ := World.cells?_some h1
      obtain ⟨y, rfl, hok⟩ := open_tok hlen h2
      refine ⟨y, fun j c hj => ?_, fun hil => hok _ fun n hn => hw n ?_⟩
      · have hj4 := (List.getElem?_eq_some_iff.1 hj).1
        have := hcell j (by simpa [Tok.cells] using hj4)
        rw [add_add] at this
        rw [this, ← hj]
      · simp only [DataW.weights, Tryd.underlying22, List.mem_cons, List.mem_append]
        refine .inr (.inl (weights_all ?_ n hn))
        exact List.mem_map.2 ⟨i, List.mem_range.2 hil, rfl⟩
    obtain ⟨f, hf'⟩ := choose_lt each
    have hlf : ((List.range len).map f).length = len := by simp
    refine ⟨some x, m, (List.range len).map f, by rw [hlf], by rw [hlf]; omega, ⟨by rw [flatT_length], some x, m, by rw [hlf], ?_⟩, fun y hy => ?_⟩
    · rw [hlf]
      by_cases h0 : len = 0
      · exact .inl h0
      right
      obtain ⟨b, off, spot⟩ := x
      have hc := (hf' 0 (by omega)).1 0 _ rfl
      have hspot : spot = none := by simpa [Addr.add] using World.cell?_spot hc
      subst hspot
      refine ⟨b, off, rfl, fun j y hy => ?_⟩
      have hj : j < len * 4 := by have := (List.getElem?_eq_some_iff.1 hy).1; rw [flatT_length, hlf] at this; exact this
      have hg : ((List.range len).map f)[j / 4]? = some (f (j / 4)) := by
        rw [List.getElem?_map, List.getElem?_range (by omega)]
        rfl
      have h2 := flatT_get _ (j / 4) (j % 4) (f (j / 4)) hg (by omega)
      rw [show j / 4 * 4 + j % 4 = j by omega, hy] at h2
      have e := (hf' (j / 4) (by omega)).1 (j % 4) y h2.symm
      rw [Addr.add_lit, show j / 4 * 4 + j % 4 = j by omega] at e
      exact e
    · obtain ⟨j, hj, rfl⟩ := List.mem_map.1 hy
      have hjl := List.mem_range.1 hj
      have := (hf' j (by omega)).2 hjl
      have h2 := reachBytes_lt
      have e3 : (2 : Nat) ^ 47 = 140737488355328 := by decide
      omega
end Go.Proofs.YtnlplkchkhibaaaDoor
