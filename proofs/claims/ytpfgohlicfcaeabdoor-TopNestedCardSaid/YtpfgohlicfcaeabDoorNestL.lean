/-
  Brackets within brackets: their tokens, their forms, and how long their text is.
-/
import Derived.Test.YtpfgohlicfcaeabDoorReadM
namespace Go.Proofs.YtpfgohlicfcaeabDoor
open Go.RowKit Go.Deep Go.MapKept Go.Shelf
def unit3 : Txt := [40, 97, 32]
def rep3 (n : Nat) : Txt := (List.replicate n unit3).flatten
theorem rep3_succ (n : Nat) : rep3 (n + 1) = rep3 n ++ unit3 := by
  unfold rep3
  rw [List.replicate_succ', List.flatten_append]
  simp
theorem rep3_len (n : Nat) : (rep3 n).length = 3 * n := by
  induction n with
  | zero => rfl
  | succ n ih => rw [rep3_succ, List.length_append, ih]; simp [unit3]; omega
def nest (n k : Nat) : Txt := rep3 n ++ List.replicate k 41
theorem nest_succ (n k : Nat) : nest n (k + 1) = nest n k ++ [41] := by
  unfold nest
  rw [List.replicate_succ', List.append_assoc]
theorem nest_len (n k : Nat) : (nest n k).length = 3 * n + k := by unfold nest; rw [List.length_append, rep3_len, List.length_replicate]
def ka (l : Txt) : Int := if l = [40] then 1 else if l = [41] then 2 else 3
def toka (q : Piece) : Tok := ⟨ka q.2, bytesOf q.2, 0, (q.1 : Int)⟩
def three (l : Txt) : Bool := l == [40] || l == [41] || l == [97]
theorem kpa : kindP [97] = 3 := by
  unfold kindP
  rw [if_neg (by decide), if_neg (by decide)]
  exact kwa
theorem three_cases {l : Txt} (h : three l = true) : l = [40] ∨ l = [41] ∨ l = [97] := by
  unfold three at h
  simp only [Bool.or_eq_true, beq_iff_eq] at h
  rcases h with (h | h) | h
  · exact .inl h
  · exact .inr (.inl h)
  · exact .inr (.inr h)
theorem tok_three {q : Piece} (h : three q.2 = true) : tok q = toka q := by
  obtain ⟨i, l⟩ := q
  rcases three_cases h with e | e | e <;> simp only at e <;> subst e
  · simp [tok, toka, numP, kp40, ka]
  · simp [tok, toka, numP, kp41, ka]
  · simp [tok, toka, numP, kpa, ka]
theorem kind_three {l : Txt} (h : three l = true) : kindP l ≠ 0 := by
  rcases three_cases h with e | e | e <;> subst e
  · rw [kp40]; decide
  · rw [kp41]; decide
  · rw [kpa]; decide
theorem bad_three : ∀ (ps : List Piece) (c : Nat), (∀ q ∈ ps, three q.2 = true) → c + ps.length ≤ 600 → bad c ps = none
  | [], _, _, _ => rfl
  | q :: r, c, h, hl => by
    simp only [List.length_cons] at hl
    unfold bad
    rw [if_neg (kind_three (h q (by simp))), if_neg (by omega)]
    exact bad_three r (c + 1) (fun x hx => h x (by simp [hx])) (by omega)
def checkN (n : Nat) : Bool := ((pieces (nest n n)).all fun q => three q.2) && decide ((pieces (nest n n)).length ≤ 60) && (match parse ((pieces (nest n n)).map toka) with
  | .ok σ => decide (n ≤ 12) && decide (σ.forms.length = 2 * n) && decide (depthOf (σ.forms.map fun f => (toFm f, Value.slice none 0 0)) (castI σ.top) = (n : Int)) && decide ((prn (σ.forms.map toFm) gapB (castI σ.top)).length = 4 * n)
  | .error q => decide (12 < n) && (q == (36, 4)))
theorem checkN_all : ((List.range 20).all fun n => checkN (n + 1)) = true := by decide +kernel
theorem dval_same {ms ms' : List MV} (h : ms.map Prod.fst = ms'.map Prod.fst) (ds : List Int) (k : Nat) : dval ms ds k = dval ms' ds k := by
  have hk : (ms[k]?).map Prod.fst = (ms'[k]?).map Prod.fst := by rw [← List.getElem?_map, ← List.getElem?_map, h]
  unfold dval
  cases h1 : ms[k]? with
  | none =>
    rw [h1] at hk
    cases h2 : ms'[k]? with
    | none => rfl
    | some y => rw [h2] at hk; simp at hk
  | some x =>
    rw [h1] at hk
    cases h2 : ms'[k]? with
    | none => rw [h2] at hk; simp at hk
    | some y =>
      rw [h2] at hk
      simp only [Option.map_some, Option.some.injEq] at hk
      simp only [hk]
theorem dall_same {ms ms' : List MV} (h : ms.map Prod.fst = ms'.map Prod.fst) : ∀ k, dall ms k = dall ms' k := by
  have hl : ms.length = ms'.length := by have := congrArg List.length h; simpa using this
  intro k
  induction k with
  | zero => simp [dall, hl]
  | succ k ih => rw [dall, dall, ih, hl, dval_same h]
theorem depth_same {ms ms' : List MV} (h : ms.map Prod.fst = ms'.map Prod.fst) (top : List Int) : depthOf ms top = depthOf ms' top := by
  have hl : ms.length = ms'.length := by have := congrArg List.length h; simpa using this
  unfold depthOf
  rw [dall_same h, hl]
/-- What Tokens and Parse tell of brackets within brackets. -/
theorem lex_nest {n : Nat} (h1 : 1 ≤ n) (h20 : n ≤ 20) : ∃ ts, lexRes (bytesOf (nest n n)) = (ts, 0, 0) ∧ ts.length ≤ 60 ∧ (∀ t ∈ ts, t.s.size ≤ 140737488355328) ∧
    ((12 < n ∧ parse ts = .error (36, 4)) ∨ (n ≤ 12 ∧ ∃ σ, parse ts = .ok σ ∧ σ.forms.length = 2 * n ∧ depthOf (σ.forms.map fun f => (toFm f, Value.slice none 0 0)) (castI σ.top) = (n : Int) ∧ (prn (σ.forms.map toFm) gapB (castI σ.top)).length = 4 * n)) := by
  have hc : checkN n = true := by
    have := List.all_eq_true.1 checkN_all (n - 1) (by simp; omega)
    rwa [show n - 1 + 1 = n by omega] at this
  unfold checkN at hc
  rw [Bool.and_eq_true, Bool.and_eq_true] at hc
  obtain ⟨⟨ha, hb⟩, hd⟩ := hc
  have ha' : ∀ q ∈ pieces (nest n n), three q.2 = true := List.all_eq_true.1 ha
  have hb' := of_decide_eq_true hb
  have hbd := bad_three (pieces (nest n n)) 0 ha' (by omega)
  have hm : (pieces (nest n n)).map tok = (pieces (nest n n)).map toka := List.map_congr_left fun q hq => tok_three (ha' q hq)
  refine ⟨(pieces (nest n n)).map tok, ?_, by simpa using hb', ?_, ?_⟩
  · unfold lexRes
    have hd : (bytesOf (nest n n)).data.toList = nest n n := by simp [bytesOf]
    rw [if_neg (by rw [bytes_size, nest_len]; omega), hd, hbd]
  · intro t ht
    obtain ⟨q, hq, rfl⟩ := List.mem_map.1 ht
    show (bytesOf q.2).size ≤ _
    rw [bytes_size]
    rcases three_cases (ha' q hq) with e | e | e <;> rw [e] <;> decide
  · rw [hm]
    cases hp : parse ((pieces (nest n n)).map toka) with
    | error q =>
      rw [hp] at hd
      simp only [Bool.and_eq_true, decide_eq_true_eq, beq_iff_eq] at hd
      exact .inl ⟨hd.1, by rw [hd.2]⟩
    | ok σ =>
      rw [hp] at hd
      simp only [Bool.and_eq_true, decide_eq_true_eq] at hd
      exact .inr ⟨hd.1.1.1, σ, rfl, hd.1.1.2, hd.1.2, hd.2⟩
end Go.Proofs.YtpfgohlicfcaeabDoor
/-
  TopNested: brackets within brackets are read up to MaxDepth, and no further.
-/
namespace Go.Proofs.YtpfgohlicfcaeabDoor
open Go.RowKit Go.Deep Go.MapKept Go.Shelf
theorem mod20 (a : Int) (h0 : 0 ≤ a) : ∃ m : Nat, m < 20 ∧ a.tmod 20 = (m : Int) := ⟨(a.tmod 20).toNat, by have := Int.tmod_lt_of_pos a (show (0 : Int) < 20 by decide); have := Int.tmod_nonneg 20 h0; omega, by have := Int.tmod_nonneg 20 h0; omega⟩
theorem add_b (a b : Txt) (h : a.length + b.length ≤ 1000) (w : World) : (Op.stringOp .add (bytesOf a) ⟨b.toArray⟩).run Tryd.prog w = .ok (.string (bytesOf (a ++ b))) w := add_run a b (by omega) w
set_option maxRecDepth 100000 in
set_option maxHeartbeats 1600000 in
theorem topNested_law (a : Int) (ha0 : 0 ≤ a) (ha1 : a ≤ 255) (w : World) (hL : Laid w) : Calls Tryd.prog 5 #[.int .u8 a] w fun e w' => e = .returned (.bool true) ∧ Below w.heap.size w w' := by
  obtain ⟨m, hm, em⟩ := mod20 a ha0
  have HL := hidI hL
  clear hL
  have w1 : IntKind.i64.wrap a = a := by rw [IntKind.wrap_i64]; omega
  have w2 : IntKind.i64.wrap ((m : Int) + 1) = (m : Int) + 1 := by rw [IntKind.wrap_i64]; omega
  go_enter Tryd.func5, Tryd.ntmps5
  go_wp2
  go_loopg [4, 5] (m + 1) (fun g s4 s5 wx => ∃ i : Nat, i + g = m + 1 ∧ s5 = .int .i64 (i : Int) ∧ s4 = .string (bytesOf (rep3 i)) ∧ w = wx)
  case atStart => exact ⟨0, by omega, rfl, rfl, rfl⟩
  case round =>
    obtain ⟨i, hi, rfl, rfl, rfl⟩ := hrel
    cases gk with
    | succ g =>
      have e1 : (i : Int) < (m : Int) + 1 := by omega
      have sa : ∀ w : World, (Op.stringOp .add (bytesOf (rep3 i)) { data := #[40, 97, 32] }).run Tryd.prog w = .ok (.string (bytesOf (rep3 (i + 1)))) w := fun w => by
        rw [rep3_succ]
        exact add_b (rep3 i) unit3 (by rw [rep3_len]; simp [unit3]; omega) w
      go_wp2
      go_roundg g
      case measure => omega
      case rel => exact ⟨i + 1, by omega, by go_num, rfl, rfl⟩
    | zero =>
      obtain rfl : i = m + 1 := by omega
      have e1 : ¬ (((m + 1 : Nat) : Int) < (m : Int) + 1) := by omega
      have n0 : bytesOf (rep3 (m + 1)) = bytesOf (nest (m + 1) 0) := by unfold nest; simp
      rw [n0]
      clear n0
      go_wp2
      go_loopg [4, 6] (m + 1) (fun g s4 s6 wx => ∃ i : Nat, i + g = m + 1 ∧ s6 = .int .i64 (i : Int) ∧ s4 = .string (bytesOf (nest (m + 1) i)) ∧ w = wx)
      case atStart => exact ⟨0, by omega, rfl, rfl, rfl⟩
      case round =>
        obtain ⟨i, hi, rfl, rfl, rfl⟩ := hrel
        cases gk with
        | succ g =>
          have e2 : (i : Int) < (m : Int) + 1 := by omega
          have sa : ∀ w : World, (Op.stringOp .add (bytesOf (nest (m + 1) i)) { data := #[41] }).run Tryd.prog w = .ok (.string (bytesOf (nest (m + 1) (i + 1)))) w := fun w => by
            rw [nest_succ]
            exact add_b (nest (m + 1) i) [41] (by rw [nest_len]; simp; omega) w
          go_wp2
          go_roundg g
          case measure => omega
          case rel => exact ⟨i + 1, by omega, by go_num, rfl, rfl⟩
        | zero =>
          obtain rfl : i = m + 1 := by omega
          obtain ⟨ts, hlex, htl, hts, hcase⟩ := lex_nest (n := m + 1) (by omega) (by omega)
          obtain ⟨s1, hs1⟩ : ∃ s1, bytesOf (nest (m + 1) (m + 1)) = s1 := ⟨_, rfl⟩
          have hsz : s1.size ≤ 2000 := by rw [← hs1, bytes_size, nest_len]; omega
          rw [hs1] at hlex ⊢
          have CT0 := toks_any s1 w HL.out
          have CT : Hid (Calls Tryd.prog 13 #[.string s1] w fun e w' => ∃ v, e = .returned (.tuple #[v, .int .i64 0, .int .i64 0]) ∧ SeesC w' v ts.length 4 (flatT ts) ∧ Below w.heap.size w w') := hidI (CT0.mono fun e w' ⟨v, he, v', hv, hs, hb⟩ => by rw [hlex] at hv hs; exact ⟨v', by rw [he, hv], hs, hb⟩)
          have CP := hidI fun (v : Value) (y : World) (hv : SeesC y v ts.length 4 (flatT ts)) => tparse_any ts v y hv hts (by omega)
          clear CT0 hs1 hts
          have e3 : ¬ (((m + 1 : Nat) : Int) < (m : Int) + 1) := by omega
          rcases hcase with ⟨h12, hp⟩ | ⟨h12, σ, hp, hf2, hdp, hpl⟩
          · rw [hp] at CP
            have e4 : (12 : Int) < (m : Int) + 1 := by omega
            clear hp hlex
            go_wp2_with (go_at_call 13; refine CT.out.mono ?_; rintro e w3 ⟨v, rfl, hv, hb3⟩; have HV := hidI hv; have HB3 := hidI hb3; clear hv hb3 CT; refine Hid.out ?_)
            refine hidI ?_
            go_wp2_with (go_at_call 14; refine (CP.out _ _ HV.out).mono ?_; rintro e w4 ⟨rfl, hb4⟩; have HB4 := hidI (HB3.out.trans (hb4.mono HB3.out.size)); clear hb4)
            go_ret
            exact ⟨rfl, HB4.out⟩
          · have e4 : ¬ (12 : Int) < (m : Int) + 1 := by omega
            have hrd : readR s1 = some σ := by unfold readR; rw [hlex]; simp only [if_true]; rw [hp]
            obtain ⟨lv, hR⟩ := rd_of hsz hrd
            have HRd := hidI hR
            rw [hp] at CP
            clear hp hlex hrd hR
            go_wp2_with (go_at_call 13; refine CT.out.mono ?_; rintro e w3 ⟨v, rfl, hv, hb3⟩; have HV := hidI hv; have HB3 := hidI hb3; clear hv hb3 CT; refine Hid.out ?_)
            refine hidI ?_
            go_wp2_with (go_at_call 14; refine (CP.out _ _ HV.out).mono ?_; rintro e w4 ⟨fv, tv, rfl, hf, ht, hb4⟩; have HF := hidI hf; have HT0 := hidI ht; have HB4 := hidI (HB3.out.trans (hb4.mono HB3.out.size)); clear hf ht hb4 CP; refine Hid.out ?_)
            refine hidI ?_
            obtain ⟨ms, hms, hsm, _⟩ := seesM_of HF.out
            have hti : SeesC w4 tv (castI σ.top).length 1 (intsI (castI σ.top)) := sees_ints HT0.out
            have hlen := len_same hms
            have htl2 := HRd.out.good.top_len
            have hct : (castI σ.top).length = σ.top.length := by simp [castI]
            obtain ⟨_, fa, fc, hfv, _⟩ := hsm.row
            obtain ⟨_, ta, tc, htv, _⟩ := id hti
            rw [hct] at htv
            rw [hlen, hf2] at hfv
            subst hfv
            subst htv
            have hfo : formsOf ms = σ.forms.map toFm := hms
            have CPr : Hid (∀ y, Below w4.heap.size w4 y → Calls Tryd.prog 9 #[.slice fa (2 * (m + 1)) fc, .slice ta σ.top.length tc] y fun e w' => e = .returned (.tuple #[.string ⟨(prn (σ.forms.map toFm) gapB (castI σ.top)).toArray⟩, .int .i64 0]) ∧ Below y.heap.size y w') := hidI fun y hy => by
              have := print_any _ _ ms (castI σ.top) y (hsm.below hy (Nat.le_refl _)) (hti.below hy (Nat.le_refl _)) ((HRd.out.right hms (HL.out.on HB4.out) hsm hti).on hy) (HRd.out.tellable hms) (by omega) ((HL.out.on HB4.out).tab.on hy) (HRd.out.tops hms) (by omega) (by rw [hfo]; omega)
              rw [hfo] at this
              exact this
            have CD : Hid (∀ y, Below w4.heap.size w4 y → Calls Tryd.prog 15 #[.slice fa (2 * (m + 1)) fc, .slice ta σ.top.length tc] y fun e w' => e = .returned (.int .i64 ((m : Int) + 1)) ∧ Below y.heap.size y w') := hidI fun y hy => by
              have := depth_any _ _ ms (castI σ.top) y (hsm.below hy (Nat.le_refl _)) (hti.below hy (Nat.le_refl _)) (by omega) (HRd.out.tellable hms).few (by omega)
              rw [depth_same (ms' := σ.forms.map fun f => (toFm f, Value.slice none 0 0)) (by rw [hms]; simp), hdp] at this
              have e9 : (((m + 1 : Nat) : Int)) = (m : Int) + 1 := by omega
              rw [e9] at this
              exact this
            obtain ⟨PB, hPB⟩ : ∃ PB, prn (σ.forms.map toFm) gapB (castI σ.top) = PB := ⟨_, rfl⟩
            rw [hPB] at CPr hpl
            obtain ⟨S, hS⟩ : ∃ S, (⟨PB.toArray⟩ : ByteArray) = S := ⟨_, rfl⟩
            have hSs : S.size = 4 * (m + 1) := by rw [← hS]; show PB.toArray.size = _; simpa using hpl
            rw [hS] at CPr
            have ql : ∀ w, (Builtin.len_ #[9] 3 #[.string S]).run Tryd.prog w = .ok (.int .i64 (4 * ((m : Int) + 1))) w := fun w => by rw [run_len_string w 9 3 S Tryd.underlying9, hSs]; congr 2
            obtain ⟨K, hK⟩ : ∃ K, σ.top.length = K := ⟨_, rfl⟩
            rw [hK] at CPr CD ⊢
            have x1 : (((2 * (m + 1) : Nat)) : Int) = 2 * ((m : Int) + 1) := by omega
            have x2 : IntKind.i64.wrap (2 * ((m : Int) + 1)) = 2 * ((m : Int) + 1) := by rw [IntKind.wrap_i64]; omega
            have x3 : IntKind.i64.wrap (4 * ((m : Int) + 1)) = 4 * ((m : Int) + 1) := by rw [IntKind.wrap_i64]; omega
            clear hPB hS hSs hpl hdp hf2 hfo hct hlen hsm hti hms hK HF HT0 htl2 em
            go_wp2_with (go_at_call 9; refine (CPr.out _ (Below.refl _ _)).mono ?_; rintro e w5 ⟨rfl, hb5⟩; have HB5 := hidI hb5; clear hb5 CPr; refine Hid.out ?_)
            refine hidI ?_
            go_wp2_with (go_at_call 15; refine (CD.out _ HB5.out).mono ?_; rintro e w6 ⟨rfl, hb6⟩; have HB6 := hidI (HB5.out.trans (hb6.mono HB5.out.size)); clear hb6 CD)
            go_ret
            exact ⟨by simp, HB4.out.trans (HB6.out.mono HB4.out.size)⟩
end Go.Proofs.YtpfgohlicfcaeabDoor
