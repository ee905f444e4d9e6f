/-
  Nodes hang together just if ways lead between them, each edge both ways: the law TopHang, walked.
-/
import Derived.Test.YtbjoljokdjgbnacApp
import Derived.Test.YtbjoljokdjgbnacHang
namespace Go.Proofs.Ytbjoljokdjgbnac
open Go.RowKit Go.Deep
theorem check_cases (n : Int) (es : Edges) : (check n es).2 = 11 ∨ (1 ≤ n ∧ n ≤ 12 ∧ es.length ≤ 30 ∧ ∀ x ∈ es, good n x = true) := by
  unfold check
  split
  · exact .inl rfl
  · rename_i h
    cases hf : es.findIdx? (fun x => !good n x) with
    | some i => exact .inl rfl
    | none =>
      rw [List.findIdx?_eq_none_iff] at hf
      exact .inr ⟨by omega, by omega, by omega, fun x hx => by simpa using hf x hx⟩
/-- A node has a level in the graph with each edge both ways just if it hangs together with the root. -/
theorem hang_iff {N a b : Nat} {es : Edges} (hg : ∀ x ∈ es, good N x = true) (ha : a < N) (hb : b < N) : 0 ≤ (levels N (es ++ es.map swap) a).getD b 0 ↔ (joined N es).getD a 0 = (joined N es).getD b 0 := by
  have hm : ∀ x, x ∈ es ++ es.map swap ↔ x ∈ ways2 es := fun x => by
    rw [List.mem_append, mem_ways2, List.mem_map]
    constructor
    · rintro (h | ⟨y, hy, rfl⟩)
      · exact .inl h
      · exact .inr (by simpa [swap] using hy)
    · rintro (h | h)
      · exact .inl h
      · exact .inr ⟨_, h, by simp [swap]⟩
  have hg2 : ∀ x ∈ es ++ es.map swap, good N x = true := fun x hx => good_ways2 hg x ((hm x).1 hx)
  rw [levels_way ha hb hg2, joined_iff hg ha hb]
  exact ⟨fun h => h.mono fun x hx => (hm x).1 hx, fun h => h.mono fun x hx => (hm x).2 hx⟩
theorem below_dn {n : Nat} {w V : World} (h : Below n w V) (k : Nat) : Below n w (V.drewN k) := ⟨h.os, h.tape, h.output, h.size, h.block⟩
/-- The two graphs, and the numbers, as they stand. -/
def Tri (w0 w : World) (gp hp : Option Addr) (N : Nat) (fs : Edges) (lv : Value) : Prop := IsG w gp (N : Int) fs ∧ IsG w hp (N : Int) (fs ++ fs.map swap) ∧ Sees w lv (joined N fs) ∧ Below w0.heap.size w0 w
theorem Tri.below {w0 w w' : World} {gp hp : Option Addr} {N : Nat} {fs : Edges} {lv : Value} (h : Tri w0 w gp hp N fs lv) (hb : Below w.heap.size w w') : Tri w0 w' gp hp N fs lv :=
  ⟨h.1.below hb (Nat.le_refl _), h.2.1.below hb (Nat.le_refl _), h.2.2.1.below hb (Nat.le_refl _), h.2.2.2.trans (hb.mono h.2.2.2.size)⟩
set_option maxRecDepth 100000 in
set_option maxHeartbeats 8000000 in
theorem hang_in (n : Int) (lvv : Value) (fs : Edges) (w : World) (hs : SeesE w lvv fs) (h15 : fs.length ≤ 15) :
    Calls Try.prog 6 #[.int .i64 n, lvv] w fun e w' => e = .returned (.bool true) ∧ Below w.heap.size w w' := by
  obtain ⟨i0, hi, hz0, hz1, hz2⟩ := info_parts Try.info69
  have HS := hidI hs
  obtain ⟨m, hm⟩ : ∃ m, fs.length = m := ⟨_, rfl⟩
  have hlv : ∃ la lcap, lvv = .slice la m lcap := by obtain ⟨a, c, h, _⟩ := hs; exact ⟨a, c, by rw [← hm]; exact h⟩
  obtain ⟨la, lcap, rfl⟩ := hlv
  have hd : decide ((15 : Int) < (m : Int)) = false := by simp; omega
  rw [hm] at h15
  have HM := hidI hm
  clear hs hm
  rcases check_cases n fs with hbad | ⟨h1, h2, h3, hgd⟩
  · have C2 := hidI (new_nil n _ fs w HS.out hbad)
    clear hbad
    go_enter Try.func6, Try.ntmps6
    go_wp2_with (go_at_call 27; refine Calls.mono C2.out ?_; rintro e w1 ⟨rfl, hb1⟩; refine Hid.out ?_)
    refine hidI ?_
    have C3 := hidI (new_ok 1 (.slice none 0 0) [] w1 ⟨none, 0, rfl, .inl rfl⟩ (by omega) (by omega) (by simp) (by simp))
    have HB1 := hidI hb1
    clear C2 hb1 HS
    go_wp2_with (go_at_call 27; refine Calls.mono C3.out ?_; rintro e w2 ⟨gb, rfl, hg2, hb2⟩; refine Hid.out ?_)
    refine hidI ?_
    have HB2 := hidI (HB1.out.trans (hb2.mono HB1.out.size))
    clear C3 hb2 HB1 hg2
    go_wp2
    go_ret
    exact ⟨rfl, HB2.out⟩
  · obtain ⟨N, rfl⟩ : ∃ N : Nat, n = N := ⟨n.toNat, by omega⟩
    have HG := hidI hgd
    have C2 := hidI (new_ok N _ fs w HS.out h1 h2 h3 hgd)
    clear hgd
    go_enter Try.func6, Try.ntmps6
    go_wp2_with (go_at_call 27; refine Calls.mono C2.out ?_; rintro e w1 ⟨gb, rfl, hg1, hb1⟩; refine Hid.out ?_)
    refine hidI ?_
    have HG1 := hidI hg1
    have HB1 := hidI hb1
    have HS1 := HS.out.below hb1 (Nat.le_refl _)
    have HV := hidI (HS1.below ((Below.refl _ w1).alloc (Nat.le_refl _) (.cells #[] 69)) (Nat.le_refl _))
    have HO := hidI (World.ownsRow_made (base := w1.heap.size) (e := 69) (size := 2) w1 #[] 0 (Nat.le_refl _) (by unfold maxLen; omega) rfl)
    have HL1 := hidI HS1
    have QN : Hid (0 + fs.length ≤ 1000000) := hidI (by omega)
    clear C2 hg1 hb1 HS HS1
    go_wp2_with (at_builtin; refine wpList_append_seesE rfl _ _ rfl w1.heap.size _ 0 [] rfl HO.out _ fs rfl HV.out QN.out (by simp) ?_; intro v' w2 hown' hgrow' hat'; refine Hid.out ?_)
    refine hidI ?_
    have b12 : Below w1.heap.size w1 w2 := ((Below.refl _ w1).alloc (Nat.le_refl _) _).grown hgrow' (by simp) (fun k hk => (HO.out.lt k hk).1)
    have O2 : Hid (w2.ownsRow w1.heap.size 69 2 v' (m + 0) (flat (fs ++ (fs.take 0).map swap))) := by
      refine hidI ?_
      have := hown'; rw [HM.out] at this; simpa [Nat.zero_add] using this
    have B12 := hidI b12
    clear HV HO QN hown' hgrow' hat' b12
    go_wp2
    go_loopg [6, 7] m (fun g s6 s7 wx => ∃ (i : Nat), i + g = m ∧ s7 = .int .i64 i ∧ wx.ownsRow w1.heap.size 69 2 s6 (m + i) (flat (fs ++ (fs.take i).map swap)) ∧ Below w1.heap.size w1 wx)
    case atStart => exact ⟨0, by omega, rfl, O2.out, B12.out⟩
    case round =>
      obtain ⟨i, hig, rfl, ho, hbl⟩ := hrel
      have HO := hidI ho
      have HB := hidI hbl
      have hsz := hbl.size
      clear ho hbl O2 B12
      cases gk with
      | zero =>
        have hil : m = i := by omega
        subst hil
        have hsee : SeesE wr u6 (fs ++ fs.map swap) := by
          have := HO.out
          rw [List.take_of_length_le (by rw [HM.out]; exact Nat.le_refl _)] at this
          exact seesE_of_owns (base := w1.heap.size) (by rw [List.length_append, List.length_map, HM.out]; exact this)
        have C3 := hidI (new_ok N u6 (fs ++ fs.map swap) wr hsee h1 h2 (by rw [List.length_append, List.length_map, HM.out]; omega) (fun x hx => by
          rcases List.mem_append.1 hx with h | h
          · exact HG.out x h
          · obtain ⟨y, hy, rfl⟩ := List.mem_map.1 h
            exact good_swap (HG.out y hy)))
        have HG2 := hidI (HG1.out.below HB.out (Nat.le_refl _))
        have HB2 := hidI (HB1.out.trans (HB.out.mono HB1.out.size))
        clear hsee HO HB
        go_wp2_with (go_at_call 27; refine Calls.mono C3.out ?_; rintro e w3 ⟨hb', rfl, hg3, hb3⟩; refine Hid.out ?_)
        refine hidI ?_
        have HG3 := hidI (HG2.out.below hb3 (Nat.le_refl _))
        have HH3 := hidI hg3
        have HB3 := hidI (HB2.out.trans (hb3.mono HB2.out.size))
        have C4 := hidI (joined_walk gb N fs w3 HG3.out)
        clear C3 hg3 hb3 HG2 HB2
        go_wp2_with (go_at_call 33; refine Calls.mono C4.out ?_; rintro e w4 ⟨jv, rfl, hj, hb4⟩; refine Hid.out ?_)
        refine hidI ?_
        have TR : Hid (Tri w w4 (some ⟨gb, 0, none⟩) (some ⟨hb', 0, none⟩) N fs jv) := ⟨HG3.out.below hb4 (Nat.le_refl _), HH3.out.below hb4 (Nat.le_refl _), hj, HB3.out.trans (hb4.mono HB3.out.size)⟩
        have hlj : (joined N fs).length = N := by unfold joined; rw [jfold_length, selfs_length]
        clear C4 HG3 HH3 HB3 hb4
        obtain ⟨ja, jcap, rfl, hjc⟩ := hj
        rw [hlj] at hjc TR ⊢
        rcases hjc with hjc | ⟨jb, jo, rfl, hjc⟩
        · rw [hjc] at hlj; simp at hlj; omega
        have HLJ := hidI hlj
        clear hjc hlj
        go_wp2
        go_loopg [10] N (fun g s10 wx => ∃ (v : Nat), v + g = N ∧ s10 = .int .i64 v ∧ Tri w wx (some ⟨gb, 0, none⟩) (some ⟨hb', 0, none⟩) N fs (.slice (some ⟨jb, jo, none⟩) N jcap))
        case atStart => exact ⟨0, by omega, rfl, TR.out⟩
        case round =>
          obtain ⟨v, hvg, rfl, tr⟩ := hrel
          have CN := hidI (n_any _ _ _ wr tr.1)
          have TX := hidI tr
          clear tr TR
          cases gk with
          | zero =>
            have hvN : v = N := by omega
            subst hvN
            go_wp2_with (go_at_call 29; refine Calls.mono CN.out ?_; rintro e w' ⟨rfl, rfl⟩)
            go_ret
            exact ⟨by simp, TX.out.2.2.2⟩
          | succ g =>
            have hvN : v < N := by omega
            have hvN2 : (v : Int) < (N : Int) := by omega
            have CL := hidI (levels_any (some ⟨hb', 0, none⟩) N (v : Int) (fs ++ fs.map swap) wr TX.out.2.1 (by omega))
            go_wp2_with (first | (go_at_call 29; refine Calls.mono CN.out ?_; rintro e w' ⟨rfl, rfl⟩) | (go_at_call 34; refine Calls.mono CL.out ?_; rintro e w5 ⟨ku, rfl, hk, hb5⟩; refine Hid.out ?_))
            refine hidI ?_
            have T5 := hidI (TX.out.below hb5)
            have hlk := levels_length N (fs ++ fs.map swap) (v : Int)
            obtain ⟨ka, kcap, rfl, hkc⟩ := hk
            rw [hlk] at hkc ⊢
            rcases hkc with hkc | ⟨kb, ko, rfl, hkc⟩
            · rw [hkc] at hlk; simp at hlk; omega
            have hjc : ∀ j, j < N → w5.cell? ⟨jb, jo + j, none⟩ = some (.int .i64 ((joined N fs).getD j 0)) := by
              obtain ⟨a', c', he, hh⟩ := T5.out.2.2.1
              rw [HLJ.out] at he hh
              cases he
              rcases hh with hh | ⟨_, _, he, hh⟩
              · have := HLJ.out; rw [hh] at this; simp at this; omega
              · cases he; exact hh
            have HKC := hidI hkc
            have HJC := hidI hjc
            have HIFF := hidI (fun (u : Nat) (hu : u < N) => hang_iff (N := N) (a := v) (b := u) HG.out hvN hu)
            obtain ⟨kk, hkk⟩ : ∃ kk, levels N (fs ++ fs.map swap) (v : Int) = kk := ⟨_, rfl⟩
            obtain ⟨lb, hlb⟩ : ∃ lb, joined N fs = lb := ⟨_, rfl⟩
            rw [hkk] at HKC HIFF
            rw [hlb] at HJC HIFF
            clear hkc hjc hlk CL CN hb5 TX hkk hlb
            go_wp2
            go_loopg [12] N (fun gh s12 wy => ∃ (u : Nat), u + gh = N ∧ s12 = .int .i64 u ∧ ∃ n1, w5.drewN n1 = wy)
            case atStart => exact ⟨0, by omega, rfl, 0, rfl⟩
            case round =>
              obtain ⟨u, hug, rfl, n1, rfl⟩ := hrel
              have T6 := T5.out.below (below_dn (Below.refl w5.heap.size w5) n1)
              have CN := hidI (n_any _ _ _ _ T6.1)
              have HT6 := hidI T6
              clear T6
              cases gk with
              | zero =>
                have huN : N = u := by omega
                subst huN
                go_wp2_with (go_at_call 29; refine Calls.mono CN.out ?_; rintro e w' ⟨rfl, rfl⟩)
                go_roundg g
                case measure => omega
                case rel => exact ⟨v + 1, by omega, by go_num, HT6.out⟩
              | succ gh =>
                have huN : u < N := by omega
                have huN2 : (u : Int) < (N : Int) := by omega
                have c1 := HKC.out u huN
                have c2 := HJC.out v hvN
                have c3 := HJC.out u huN
                have F := HIFF.out u huN
                obtain ⟨a, ha⟩ : ∃ a, kk.getD u 0 = a := ⟨_, rfl⟩
                obtain ⟨c, hc⟩ : ∃ c, lb.getD v 0 = c := ⟨_, rfl⟩
                obtain ⟨d, hd⟩ : ∃ d, lb.getD u 0 = d := ⟨_, rfl⟩
                rw [ha] at c1 F
                rw [hc] at c2 F
                rw [hd] at c3 F
                clear ha hc hd
                by_cases h0 : 0 ≤ a
                · have hcd : c = d := F.1 h0
                  subst hcd
                  clear F
                  go_wp2_with (go_at_call 29; refine Calls.mono CN.out ?_; rintro e w' ⟨rfl, rfl⟩; refine Hid.out ?_)
                  refine hidI ?_
                  go_wp2
                  go_quiet (fail)
                  generalize nq = n2
                  go_wp2
                  go_roundg gh
                  case measure => omega
                  case rel => exact ⟨u + 1, by omega, by go_num, _, rfl⟩
                · have h0' : decide (0 ≤ a) = false := by simpa using h0
                  have hcd : ¬ c = d := fun e => h0 (F.2 e)
                  have q1 : (c == d) = false := by simpa using hcd
                  have q2 : decide (c = d) = false := by simpa using hcd
                  clear F hcd
                  go_wp2_with (go_at_call 29; refine Calls.mono CN.out ?_; rintro e w' ⟨rfl, rfl⟩; refine Hid.out ?_)
                  refine hidI ?_
                  go_wp2
                  go_quiet (fail)
                  generalize nq = n2
                  go_wp2
                  go_roundg gh
                  case measure => omega
                  case rel => exact ⟨u + 1, by omega, by go_num, _, rfl⟩
      | succ g =>
        have hlt : i < m := by omega
        have k3 : (i : Int) < (m : Int) := by omega
        obtain ⟨x, hx⟩ : ∃ x, fs[i]? = some x := ⟨fs[i]'(by have := HM.out; omega), List.getElem?_eq_getElem _⟩
        have HX := hidI hx
        obtain ⟨la', lcap', he, hlc⟩ := HL1.out
        rw [HM.out] at he
        cases he
        rcases hlc with h0 | ⟨b, off, rfl, hl⟩
        · have := HM.out; rw [h0] at this; simp at this; omega
        have hbw : b < w1.heap.size := World.block_lt_of_cell? w1 _ (hl i x hx).1
        have e1 : wr.cell? ⟨b, off + i * 2, none⟩ = some (.int .i64 x.1) := (HB.out.cell (p := ⟨b, off + i * 2, none⟩) hbw).trans (hl i x hx).1
        have e2 : wr.cell? ⟨b, off + i * 2 + 1, none⟩ = some (.int .i64 x.2) := (HB.out.cell (p := ⟨b, off + i * 2 + 1, none⟩) hbw).trans (hl i x hx).2
        clear hx hl
        have hnw : ∀ (j : Nat) (u : Value), [Value.int .i64 x.2, .int .i64 x.1][j]? = some u → (wr.alloc (.cells #[.int .i64 x.2, .int .i64 x.1] 69)).drew.cell? ((⟨wr.heap.size, 0, none⟩ : Addr).add j) = some u := pair_new wr (.int .i64 x.2) (.int .i64 x.1) 69
        have hne : some b ≠ u6.ownBlock := fun hk => by have := (HO.out.lt b hk.symm).1; omega
        have D1 : Hid ((wr.alloc (.cells #[.int .i64 x.2, .int .i64 x.1] 69)).drew.cell? ⟨b, off + i * 2, none⟩ = some (.int .i64 x.1)) := cell_al _ e1
        have D2 : Hid ((wr.alloc (.cells #[.int .i64 x.2, .int .i64 x.1] 69)).drew.cell? ⟨b, off + i * 2 + 1, none⟩ = some (.int .i64 x.2)) := cell_al _ e2
        have HOD : Hid ((wr.alloc (.cells #[.int .i64 x.2, .int .i64 x.1] 69)).drew.ownsRow w1.heap.size 69 2 u6 (m + i) (flat (fs ++ (fs.take i).map swap))) := HO.out.alloc _
        have HNW := hidI hnw
        have HNE := hidI hne
        have Q1 : Hid (m + i + 1 ≤ maxLen) := hidI (by unfold maxLen; omega)
        have Q2 : Hid ((m + i + 1) * 16 ≤ 140737488355328) := hidI (by omega)
        have Q3 : Hid (w1.heap.size ≤ (wr.alloc (.cells #[.int .i64 x.2, .int .i64 x.1] 69)).drew.heap.size) := hidI (by simp; omega)
        clear hne hnw
        go_wp2
        go_region_held_law (fun w' => w'.cell? ⟨b, off + i * 2, none⟩ = some (.int .i64 x.1) ∧ w'.cell? ⟨b, off + i * 2 + 1, none⟩ = some (.int .i64 x.2))
          (first | assumption | exact ⟨D1.out, D2.out⟩ | exact ⟨kept_cell hgrow D1.out HNE.out, kept_cell hgrow D2.out HNE.out⟩ | go_keep)
          ((refine step_append_lies _ rfl _ _ 62 rfl w1.heap.size 69 i0 (.agg #[.int .i64 0, .int .i64 0]) 2 16 Try.underlying62 hi hz0 hz1 hz2 rfl (by decide) u6 (m + i) _ rfl HOD.out ⟨wr.heap.size, 0, none⟩ 1 1 [.int .i64 x.2, .int .i64 x.1] rfl rfl HNW.out (by simp [Value.oneCell']) (by decide) Q1.out Q2.out Q3.out _ rfl ?_; intro gq capq wq hown' hgrow _ _))
        have HO4 := hidI hown'
        have HR4 := hidI hgrow
        clear hown' hgrow
        go_wp2
        go_roundg g
        case measure => omega
        case rel =>
          have f1 : flat (fs ++ (fs.take (i + 1)).map swap) = flat (fs ++ (fs.take i).map swap) ++ [.int .i64 x.2, .int .i64 x.1] := by
            rw [List.take_add_one, HX.out]; simp [flat_append, flat, swap]
          refine ⟨i + 1, by omega, by go_num, ?_, ?_⟩
          · rw [f1]; exact HO4.out
          · exact ((HB.out.alloc hsz _).drew).grown HR4.out (by simp; omega) (fun k hk => (HO.out.lt k hk).1)
set_option maxRecDepth 100000 in
set_option maxHeartbeats 8000000 in
theorem hang_over (n : Int) (ux : Addr) (len lcap : Nat) (fs : Edges) (w : World) (hs : SeesE w (.slice (some ux) 15 lcap) fs) (hlen : 15 < len) (hcap : len ≤ lcap) (hmx : lcap ≤ 9223372036854775807) :
    Calls Try.prog 6 #[.int .i64 n, .slice (some ux) len lcap] w fun e w' => e = .returned (.bool true) ∧ Below w.heap.size w w' := by
  obtain ⟨i0, hi, hz0, hz1, hz2⟩ := info_parts Try.info69
  have HS := hidI hs
  have hm : fs.length = 15 := by obtain ⟨a, c, h, _⟩ := hs; simp only [Value.slice.injEq] at h; omega
  have h100 : (15 : Int) < (len : Int) := by omega
  have HM := hidI hm
  clear hs hm
  rcases check_cases n fs with hbad | ⟨h1, h2, h3, hgd⟩
  · have C2 := hidI (new_nil n _ fs w HS.out hbad)
    clear hbad
    go_enter Try.func6, Try.ntmps6
    go_wp2_with (go_at_call 27; refine Calls.mono C2.out ?_; rintro e w1 ⟨rfl, hb1⟩; refine Hid.out ?_)
    refine hidI ?_
    have C3 := hidI (new_ok 1 (.slice none 0 0) [] w1 ⟨none, 0, rfl, .inl rfl⟩ (by omega) (by omega) (by simp) (by simp))
    have HB1 := hidI hb1
    clear C2 hb1 HS
    go_wp2_with (go_at_call 27; refine Calls.mono C3.out ?_; rintro e w2 ⟨gb, rfl, hg2, hb2⟩; refine Hid.out ?_)
    refine hidI ?_
    have HB2 := hidI (HB1.out.trans (hb2.mono HB1.out.size))
    clear C3 hb2 HB1 hg2
    go_wp2
    go_ret
    exact ⟨rfl, HB2.out⟩
  · obtain ⟨N, rfl⟩ : ∃ N : Nat, n = N := ⟨n.toNat, by omega⟩
    have HG := hidI hgd
    have C2 := hidI (new_ok N _ fs w HS.out h1 h2 h3 hgd)
    clear hgd
    go_enter Try.func6, Try.ntmps6
    go_wp2_with (go_at_call 27; refine Calls.mono C2.out ?_; rintro e w1 ⟨gb, rfl, hg1, hb1⟩; refine Hid.out ?_)
    refine hidI ?_
    have HG1 := hidI hg1
    have HB1 := hidI hb1
    have HS1 := HS.out.below hb1 (Nat.le_refl _)
    have HV := hidI (HS1.below ((Below.refl _ w1).alloc (Nat.le_refl _) (.cells #[] 69)) (Nat.le_refl _))
    have HO := hidI (World.ownsRow_made (base := w1.heap.size) (e := 69) (size := 2) w1 #[] 0 (Nat.le_refl _) (by unfold maxLen; omega) rfl)
    have HL1 := hidI HS1
    have QN : Hid (0 + fs.length ≤ 1000000) := hidI (by omega)
    clear C2 hg1 hb1 HS HS1
    go_wp2_with (at_builtin; refine wpList_append_seesE rfl _ _ rfl w1.heap.size _ 0 [] rfl HO.out _ fs rfl HV.out QN.out (by simp) ?_; intro v' w2 hown' hgrow' hat'; refine Hid.out ?_)
    refine hidI ?_
    have b12 : Below w1.heap.size w1 w2 := ((Below.refl _ w1).alloc (Nat.le_refl _) _).grown hgrow' (by simp) (fun k hk => (HO.out.lt k hk).1)
    have O2 : Hid (w2.ownsRow w1.heap.size 69 2 v' (15 + 0) (flat (fs ++ (fs.take 0).map swap))) := by
      refine hidI ?_
      have := hown'; rw [HM.out] at this; simpa [Nat.zero_add] using this
    have B12 := hidI b12
    clear HV HO QN hown' hgrow' hat' b12
    go_wp2
    go_loopg [6, 7] 15 (fun g s6 s7 wx => ∃ (i : Nat), i + g = 15 ∧ s7 = .int .i64 i ∧ wx.ownsRow w1.heap.size 69 2 s6 (15 + i) (flat (fs ++ (fs.take i).map swap)) ∧ Below w1.heap.size w1 wx)
    case atStart => exact ⟨0, by omega, rfl, O2.out, B12.out⟩
    case round =>
      obtain ⟨i, hig, rfl, ho, hbl⟩ := hrel
      have HO := hidI ho
      have HB := hidI hbl
      have hsz := hbl.size
      clear ho hbl O2 B12
      cases gk with
      | zero =>
        have hil : 15 = i := by omega
        subst hil
        have hsee : SeesE wr u6 (fs ++ fs.map swap) := by
          have := HO.out
          rw [List.take_of_length_le (by rw [HM.out]; exact Nat.le_refl _)] at this
          exact seesE_of_owns (base := w1.heap.size) (by rw [List.length_append, List.length_map, HM.out]; exact this)
        have C3 := hidI (new_ok N u6 (fs ++ fs.map swap) wr hsee h1 h2 (by rw [List.length_append, List.length_map, HM.out]; omega) (fun x hx => by
          rcases List.mem_append.1 hx with h | h
          · exact HG.out x h
          · obtain ⟨y, hy, rfl⟩ := List.mem_map.1 h
            exact good_swap (HG.out y hy)))
        have HG2 := hidI (HG1.out.below HB.out (Nat.le_refl _))
        have HB2 := hidI (HB1.out.trans (HB.out.mono HB1.out.size))
        clear hsee HO HB
        go_wp2_with (go_at_call 27; refine Calls.mono C3.out ?_; rintro e w3 ⟨hb', rfl, hg3, hb3⟩; refine Hid.out ?_)
        refine hidI ?_
        have HG3 := hidI (HG2.out.below hb3 (Nat.le_refl _))
        have HH3 := hidI hg3
        have HB3 := hidI (HB2.out.trans (hb3.mono HB2.out.size))
        have C4 := hidI (joined_walk gb N fs w3 HG3.out)
        clear C3 hg3 hb3 HG2 HB2
        go_wp2_with (go_at_call 33; refine Calls.mono C4.out ?_; rintro e w4 ⟨jv, rfl, hj, hb4⟩; refine Hid.out ?_)
        refine hidI ?_
        have TR : Hid (Tri w w4 (some ⟨gb, 0, none⟩) (some ⟨hb', 0, none⟩) N fs jv) := ⟨HG3.out.below hb4 (Nat.le_refl _), HH3.out.below hb4 (Nat.le_refl _), hj, HB3.out.trans (hb4.mono HB3.out.size)⟩
        have hlj : (joined N fs).length = N := by unfold joined; rw [jfold_length, selfs_length]
        clear C4 HG3 HH3 HB3 hb4
        obtain ⟨ja, jcap, rfl, hjc⟩ := hj
        rw [hlj] at hjc TR ⊢
        rcases hjc with hjc | ⟨jb, jo, rfl, hjc⟩
        · rw [hjc] at hlj; simp at hlj; omega
        have HLJ := hidI hlj
        clear hjc hlj
        go_wp2
        go_loopg [10] N (fun g s10 wx => ∃ (v : Nat), v + g = N ∧ s10 = .int .i64 v ∧ Tri w wx (some ⟨gb, 0, none⟩) (some ⟨hb', 0, none⟩) N fs (.slice (some ⟨jb, jo, none⟩) N jcap))
        case atStart => exact ⟨0, by omega, rfl, TR.out⟩
        case round =>
          obtain ⟨v, hvg, rfl, tr⟩ := hrel
          have CN := hidI (n_any _ _ _ wr tr.1)
          have TX := hidI tr
          clear tr TR
          cases gk with
          | zero =>
            have hvN : v = N := by omega
            subst hvN
            go_wp2_with (go_at_call 29; refine Calls.mono CN.out ?_; rintro e w' ⟨rfl, rfl⟩)
            go_ret
            exact ⟨by simp, TX.out.2.2.2⟩
          | succ g =>
            have hvN : v < N := by omega
            have hvN2 : (v : Int) < (N : Int) := by omega
            have CL := hidI (levels_any (some ⟨hb', 0, none⟩) N (v : Int) (fs ++ fs.map swap) wr TX.out.2.1 (by omega))
            go_wp2_with (first | (go_at_call 29; refine Calls.mono CN.out ?_; rintro e w' ⟨rfl, rfl⟩) | (go_at_call 34; refine Calls.mono CL.out ?_; rintro e w5 ⟨ku, rfl, hk, hb5⟩; refine Hid.out ?_))
            refine hidI ?_
            have T5 := hidI (TX.out.below hb5)
            have hlk := levels_length N (fs ++ fs.map swap) (v : Int)
            obtain ⟨ka, kcap, rfl, hkc⟩ := hk
            rw [hlk] at hkc ⊢
            rcases hkc with hkc | ⟨kb, ko, rfl, hkc⟩
            · rw [hkc] at hlk; simp at hlk; omega
            have hjc : ∀ j, j < N → w5.cell? ⟨jb, jo + j, none⟩ = some (.int .i64 ((joined N fs).getD j 0)) := by
              obtain ⟨a', c', he, hh⟩ := T5.out.2.2.1
              rw [HLJ.out] at he hh
              cases he
              rcases hh with hh | ⟨_, _, he, hh⟩
              · have := HLJ.out; rw [hh] at this; simp at this; omega
              · cases he; exact hh
            have HKC := hidI hkc
            have HJC := hidI hjc
            have HIFF := hidI (fun (u : Nat) (hu : u < N) => hang_iff (N := N) (a := v) (b := u) HG.out hvN hu)
            obtain ⟨kk, hkk⟩ : ∃ kk, levels N (fs ++ fs.map swap) (v : Int) = kk := ⟨_, rfl⟩
            obtain ⟨lb, hlb⟩ : ∃ lb, joined N fs = lb := ⟨_, rfl⟩
            rw [hkk] at HKC HIFF
            rw [hlb] at HJC HIFF
            clear hkc hjc hlk CL CN hb5 TX hkk hlb
            go_wp2
            go_loopg [12] N (fun gh s12 wy => ∃ (u : Nat), u + gh = N ∧ s12 = .int .i64 u ∧ ∃ n1, w5.drewN n1 = wy)
            case atStart => exact ⟨0, by omega, rfl, 0, rfl⟩
            case round =>
              obtain ⟨u, hug, rfl, n1, rfl⟩ := hrel
              have T6 := T5.out.below (below_dn (Below.refl w5.heap.size w5) n1)
              have CN := hidI (n_any _ _ _ _ T6.1)
              have HT6 := hidI T6
              clear T6
              cases gk with
              | zero =>
                have huN : N = u := by omega
                subst huN
                go_wp2_with (go_at_call 29; refine Calls.mono CN.out ?_; rintro e w' ⟨rfl, rfl⟩)
                go_roundg g
                case measure => omega
                case rel => exact ⟨v + 1, by omega, by go_num, HT6.out⟩
              | succ gh =>
                have huN : u < N := by omega
                have huN2 : (u : Int) < (N : Int) := by omega
                have c1 := HKC.out u huN
                have c2 := HJC.out v hvN
                have c3 := HJC.out u huN
                have F := HIFF.out u huN
                obtain ⟨a, ha⟩ : ∃ a, kk.getD u 0 = a := ⟨_, rfl⟩
                obtain ⟨c, hc⟩ : ∃ c, lb.getD v 0 = c := ⟨_, rfl⟩
                obtain ⟨d, hd⟩ : ∃ d, lb.getD u 0 = d := ⟨_, rfl⟩
                rw [ha] at c1 F
                rw [hc] at c2 F
                rw [hd] at c3 F
                clear ha hc hd
                by_cases h0 : 0 ≤ a
                · have hcd : c = d := F.1 h0
                  subst hcd
                  clear F
                  go_wp2_with (go_at_call 29; refine Calls.mono CN.out ?_; rintro e w' ⟨rfl, rfl⟩; refine Hid.out ?_)
                  refine hidI ?_
                  go_wp2
                  go_quiet (fail)
                  generalize nq = n2
                  go_wp2
                  go_roundg gh
                  case measure => omega
                  case rel => exact ⟨u + 1, by omega, by go_num, _, rfl⟩
                · have h0' : decide (0 ≤ a) = false := by simpa using h0
                  have hcd : ¬ c = d := fun e => h0 (F.2 e)
                  have q1 : (c == d) = false := by simpa using hcd
                  have q2 : decide (c = d) = false := by simpa using hcd
                  clear F hcd
                  go_wp2_with (go_at_call 29; refine Calls.mono CN.out ?_; rintro e w' ⟨rfl, rfl⟩; refine Hid.out ?_)
                  refine hidI ?_
                  go_wp2
                  go_quiet (fail)
                  generalize nq = n2
                  go_wp2
                  go_roundg gh
                  case measure => omega
                  case rel => exact ⟨u + 1, by omega, by go_num, _, rfl⟩
      | succ g =>
        have hlt : i < 15 := by omega
        have k3 : (i : Int) < (15 : Int) := by omega
        obtain ⟨x, hx⟩ : ∃ x, fs[i]? = some x := ⟨fs[i]'(by have := HM.out; omega), List.getElem?_eq_getElem _⟩
        have HX := hidI hx
        obtain ⟨la', lcap', he, hlc⟩ := HL1.out
        rw [HM.out] at he
        cases he
        rcases hlc with h0 | ⟨b, off, hux, hl⟩
        · have := HM.out; rw [h0] at this; simp at this
        cases hux
        have hbw : b < w1.heap.size := World.block_lt_of_cell? w1 _ (hl i x hx).1
        have e1 : wr.cell? ⟨b, off + i * 2, none⟩ = some (.int .i64 x.1) := (HB.out.cell (p := ⟨b, off + i * 2, none⟩) hbw).trans (hl i x hx).1
        have e2 : wr.cell? ⟨b, off + i * 2 + 1, none⟩ = some (.int .i64 x.2) := (HB.out.cell (p := ⟨b, off + i * 2 + 1, none⟩) hbw).trans (hl i x hx).2
        clear hx hl
        have hnw : ∀ (j : Nat) (u : Value), [Value.int .i64 x.2, .int .i64 x.1][j]? = some u → (wr.alloc (.cells #[.int .i64 x.2, .int .i64 x.1] 69)).drew.cell? ((⟨wr.heap.size, 0, none⟩ : Addr).add j) = some u := pair_new wr (.int .i64 x.2) (.int .i64 x.1) 69
        have hne : some b ≠ u6.ownBlock := fun hk => by have := (HO.out.lt b hk.symm).1; omega
        have D1 : Hid ((wr.alloc (.cells #[.int .i64 x.2, .int .i64 x.1] 69)).drew.cell? ⟨b, off + i * 2, none⟩ = some (.int .i64 x.1)) := cell_al _ e1
        have D2 : Hid ((wr.alloc (.cells #[.int .i64 x.2, .int .i64 x.1] 69)).drew.cell? ⟨b, off + i * 2 + 1, none⟩ = some (.int .i64 x.2)) := cell_al _ e2
        have HOD : Hid ((wr.alloc (.cells #[.int .i64 x.2, .int .i64 x.1] 69)).drew.ownsRow w1.heap.size 69 2 u6 (15 + i) (flat (fs ++ (fs.take i).map swap))) := HO.out.alloc _
        have HNW := hidI hnw
        have HNE := hidI hne
        have Q1 : Hid (15 + i + 1 ≤ maxLen) := hidI (by unfold maxLen; omega)
        have Q2 : Hid ((15 + i + 1) * 16 ≤ 140737488355328) := hidI (by omega)
        have Q3 : Hid (w1.heap.size ≤ (wr.alloc (.cells #[.int .i64 x.2, .int .i64 x.1] 69)).drew.heap.size) := hidI (by simp; omega)
        clear hne hnw
        go_wp2
        go_region_held_law (fun w' => w'.cell? ⟨b, off + i * 2, none⟩ = some (.int .i64 x.1) ∧ w'.cell? ⟨b, off + i * 2 + 1, none⟩ = some (.int .i64 x.2))
          (first | assumption | exact ⟨D1.out, D2.out⟩ | exact ⟨kept_cell hgrow D1.out HNE.out, kept_cell hgrow D2.out HNE.out⟩ | go_keep)
          ((refine step_append_lies _ rfl _ _ 62 rfl w1.heap.size 69 i0 (.agg #[.int .i64 0, .int .i64 0]) 2 16 Try.underlying62 hi hz0 hz1 hz2 rfl (by decide) u6 (15 + i) _ rfl HOD.out ⟨wr.heap.size, 0, none⟩ 1 1 [.int .i64 x.2, .int .i64 x.1] rfl rfl HNW.out (by simp [Value.oneCell']) (by decide) Q1.out Q2.out Q3.out _ rfl ?_; intro gq capq wq hown' hgrow _ _))
        have HO4 := hidI hown'
        have HR4 := hidI hgrow
        clear hown' hgrow
        go_wp2
        go_roundg g
        case measure => omega
        case rel =>
          have f1 : flat (fs ++ (fs.take (i + 1)).map swap) = flat (fs ++ (fs.take i).map swap) ++ [.int .i64 x.2, .int .i64 x.1] := by
            rw [List.take_add_one, HX.out]; simp [flat_append, flat, swap]
          refine ⟨i + 1, by omega, by go_num, ?_, ?_⟩
          · rw [f1]; exact HO4.out
          · exact ((HB.out.alloc hsz _).drew).grown HR4.out (by simp; omega) (fun k hk => (HO.out.lt k hk).1)
/-- As the statement has its arguments. -/
theorem topHang_any (n : Int) (_ : -9223372036854775808 ≤ n ∧ n ≤ 9223372036854775807) {W : World} (v : Value) (es : Edges) (hv : ArgE W v es) (_ : ∀ x ∈ es, Wf x.1 ∧ Wf x.2) :
    Calls Try.prog 6 #[.int .i64 n, v] W fun e w' => e = .returned (.bool true) ∧ Below W.heap.size W w' := by
  by_cases hl : es.length ≤ 15
  · exact hang_in n v es W hv.1 hl
  · obtain ⟨⟨a, cap, rfl, hs⟩, a', len', cap', he, q1, q2⟩ := hv
    cases he
    rcases hs with h0 | ⟨b, off, rfl, hc⟩
    · subst h0; simp at hl
    have e15 : (es.take 15).length = 15 := by rw [List.length_take]; omega
    refine hang_over n _ _ _ (es.take 15) W ⟨some ⟨b, off, none⟩, cap, by rw [e15], .inr ⟨b, off, rfl, fun j x hx => hc j x ?_⟩⟩ (by omega) q1 q2
    rw [List.getElem?_take] at hx
    split at hx
    · exact hx
    · cases hx

end Go.Proofs.Ytbjoljokdjgbnac
