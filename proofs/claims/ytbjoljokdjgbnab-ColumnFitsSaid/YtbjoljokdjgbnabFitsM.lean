/-
  ColumnFits, walked.
-/
import Derived.Test.YtbjoljokdjgbnabGG
namespace Go.Proofs.Ytbjoljokdjgbnab
open Go.RowKit Go.Deep Go.MapKept
set_option maxRecDepth 100000 in
set_option maxHeartbeats 1500000 in
theorem fits_walk (w : World) (v : Value) (xs : List Deed) (hv : SeesD w v xs) (hok : ∀ x ∈ xs, x.ok w.heap.size w) :
    Calls Try.prog 7 #[v] w fun e w' => e = .returned (.bool true) ∧ Below w.heap.size w w' := by
  have CP := hidI (play_any w v xs hv hok)
  have CV := hidI liveC_any
  clear hv hok
  go_enter Try.func7, Try.ntmps7
  go_wp2_with (go_at_call 16; refine Calls.mono CP.out ?_; rintro e w1 ⟨tb, mb, rb, cs, os, rfl, hB1, hb1⟩; refine Hid.out ?_)
  refine hidI ?_
  have HB1 := hidI hB1
  have HW1 := hidI hb1
  clear hB1 hb1 CP
  go_wp2_with (go_at_call 17; refine Calls.mono (CV.out _) ?_; rintro e w2 ⟨rfl, hb2⟩; refine Hid.out ?_)
  refine hidI ?_
  have HB2 := hidI (HB1.out.below hb2 (Nat.le_refl _))
  have HW2 : Hid (Below w.heap.size w w2) := hidI (HW1.out.trans (hb2.mono HW1.out.size))
  clear hb2 HB1 HW1 CV
  have CK := hidI (tkeys_any HB2.out)
  go_wp2_with (go_at_call 25; refine Calls.mono CK.out ?_; rintro e w3 ⟨kv, rfl, hk3, hb3⟩; refine Hid.out ?_)
  refine hidI ?_
  have HB3 := hidI (HB2.out.below hb3 (Nat.le_refl _))
  have HW3 : Hid (Below w.heap.size w w3) := hidI (HW2.out.trans (hb3.mono HW2.out.size))
  have HK3 := hidI hk3
  have h24 : os.length ≤ 24 := HB3.out.2.2.1.few HB3.out.1
  obtain ⟨ka, kcap, rfl, _⟩ := hk3
  clear hb3 HB2 HW2 CK
  rw [List.length_map]
  obtain ⟨k, hk⟩ : ∃ k, os.length = k := ⟨_, rfl⟩
  have HKL := hidI hk
  rw [hk] at h24 ⊢
  clear hk
  go_wp2
  go_loopg [8, 9, 7] k (fun g s8 s9 s7 wx => ∃ (i : Nat) (v8 v9 : Value), v8 = s8 ∧ v9 = s9 ∧ i + g = k ∧ s7 = .int .i64 i ∧ Hid (Below w3.heap.size w3 wx))
  case atStart => exact ⟨0, _, _, rfl, rfl, by omega, rfl, hidI (Below.refl _ _)⟩
  case round =>
    obtain ⟨i, v8, v9, rfl, rfl, hig, rfl, HX⟩ := hrel
    have hwr := HX.out.size
    have hw3 := HW3.out.size
    cases gk with
    | zero =>
      obtain rfl : k = i := by omega
      have k1 : decide ((k : Int) < (k : Int)) = false := by simp
      have k2 : (k : Int) ≤ 24 := by omega
      go_wp2
      go_ret
      exact ⟨by first | rfl | (simp; omega) | (simp [k2]; done), HW3.out.trans (HX.out.mono hw3)⟩
    | succ g =>
      have k1 : (i : Int) < (k : Int) := by omega
      obtain ⟨ky, hky⟩ : ∃ ky, (os.map One.ky)[i]? = some ky := ⟨_, List.getElem?_eq_getElem (by have := HKL.out; simp; omega)⟩
      have HBr := hidI (HB3.out.below HX.out (Nat.le_refl _))
      obtain ⟨c, hc, rfl, hf⟩ := HB3.out.2.2.1.nth HB3.out.1.2.2.2.2.2.1 hky
      obtain ⟨o1, o2, o3, o4, o5, o6, o7, o8⟩ := (HB3.out.1.2.2.2.2.1 c hc).1
      have hkr := HK3.out.below HX.out (Nat.le_refl _)
      obtain ⟨_, _, hke, hkl⟩ := hkr
      simp only [Value.slice.injEq] at hke
      obtain ⟨rfl, _, rfl⟩ := hke
      rcases hkl with hnil | ⟨b, off, rfl, hkl⟩
      · rw [hnil] at hky; simp at hky
      obtain ⟨c0, c1⟩ := hkl i _ hky
      simp only at c0 c1
      clear hkl
      have CL : Hid (∀ u, Below wr.heap.size wr u → Calls Try.prog 26 #[.pointer (some ⟨tb, 0, none⟩), ke c.name c.side] u fun e w' => ∃ v, e = .returned v ∧ Sees w' v c.vals ∧ Below u.heap.size u w') := hidI fun u hu => by
        have := whole_list ((HBr.out.below hu (Nat.le_refl _)).1) o2 o3
        rwa [show listE cs c.name c.side = c.vals by simp only [listE, hf]] at this
      have CN : Hid (∀ u, Below wr.heap.size wr u → Calls Try.prog 27 #[.pointer (some ⟨tb, 0, none⟩), .int .u8 c.side] u fun e w' => e = .returned (.int .i64 (c.vals.length : Int)) ∧ u = w') := hidI fun u hu => by
        have hU := (HBr.out.below hu (Nat.le_refl _)).1
        rw [o6]
        exact len_any tb 3 2 c.side u hU.1 hU.2.1
      have CT : Hid (∀ u, Below wr.heap.size wr u → Calls Try.prog 28 #[.pointer (some ⟨tb, 0, none⟩), ke c.name c.side] u fun e w' => e = .returned (.int .u8 c.kind) ∧ Below u.heap.size u w') := hidI fun u hu => by
        have := whole_kind ((HBr.out.below hu (Nat.le_refl _)).1) o2 o3
        rwa [show kindE cs c.name c.side = c.kind by simp only [kindE, hf]] at this
      have HO := hidI (And.intro o5 o8)
      obtain ⟨L, hL⟩ : ∃ L, c.vals.length = L := ⟨_, rfl⟩
      have HLL := hidI hL
      rw [hL] at CN o7
      clear o1 o2 o3 o4 o5 o6 o8 hf hc hky hL
      go_wp2_with (go_at_call 26; refine Calls.mono (CL.out _ (by (repeat (first | exact Below.refl _ _ | assumption | refine Below.drew ?_ | refine Below.alloc ?_ (by first | omega | (simp; done) | (simp; omega)) _ | refine Below.setCell ?_ (by first | omega | (simp; done) | (simp; omega)) _)))) ?_; rintro e w4 ⟨lv, rfl, hs4, hb4⟩; refine Hid.out ?_)
      refine hidI ?_
      have HS4 := hidI hs4
      have HW4 := hidI hb4
      have kk : ∀ {p : Addr} {v : Value}, wr.cell? p = some v → w4.cell? p = some v := fun {p v} hc => (HW4.out.cell (World.block_lt_of_cell? wr _ hc)).trans hc
      have d0 := kk c0
      have d1 := kk c1
      obtain ⟨la, lc, rfl, _⟩ := hs4
      rw [HLL.out]
      clear hb4 kk CL
      go_wp2_with (go_at_call 27; refine Calls.mono (CN.out _ HW4.out) ?_; rintro e w5 ⟨rfl, rfl⟩)
      have CT4 : Hid (∀ u, Below w4.heap.size w4 u → Calls Try.prog 28 #[.pointer (some ⟨tb, 0, none⟩), ke c.name c.side] u fun e w' => e = .returned (.int .u8 c.kind) ∧ Below u.heap.size u w') := hidI fun u hu => CT.out u (HW4.out.trans (hu.mono HW4.out.size))
      have HX4 : Hid (Below w3.heap.size w3 w4) := hidI (HX.out.trans (HW4.out.mono hwr))
      clear CT CN c0 c1 HBr
      go_loopg [9] L (fun g s9 wx => ∃ j : Nat, j + g = L ∧ s9 = .int .i64 j ∧ Hid (Below w4.heap.size w4 wx))
      case atStart => exact ⟨0, by omega, rfl, hidI (Below.refl _ _)⟩
      case round =>
        obtain ⟨j, hjg, rfl, HY⟩ := hrel
        have hw4 := HX4.out.size
        have hy4 := HY.out.size
        cases gk with
        | zero =>
          obtain rfl : L = j := by omega
          have k3 : decide ((L : Int) < (L : Int)) = false := by simp
          go_wp2
          go_roundg g
          case measure => omega
          case rel => exact ⟨i + 1, _, _, rfl, rfl, by omega, by go_num, hidI (HX4.out.trans (HY.out.mono hw4))⟩
        | succ g' =>
          have k3 : (j : Int) < (L : Int) := by omega
          have kk : ∀ {p : Addr} {v : Value}, w4.cell? p = some v → wr.cell? p = some v := fun {p v} hc => (HY.out.cell (World.block_lt_of_cell? w4 _ hc)).trans hc
          have e0 := kk d0
          have e1 := kk d1
          obtain ⟨_, _, hse, hsl⟩ := HS4.out
          simp only [Value.slice.injEq] at hse
          obtain ⟨rfl, _, rfl⟩ := hse
          rcases hsl with hnil | ⟨b', off', rfl, hsl⟩
          · have := HLL.out; rw [hnil] at this; simp at this; omega
          have e2 := kk (hsl j (by have := HLL.out; omega))
          clear hsl kk
          have hfit : fit c.kind (c.vals.getD j 0) = true := by
            have hall := HO.out.2
            rw [List.all_eq_true] at hall
            refine hall _ ?_
            have hjl : j < c.vals.length := by have := HLL.out; omega
            rw [show c.vals.getD j 0 = c.vals[j] by simp [List.getD, hjl]]
            exact List.getElem_mem hjl
          obtain ⟨z, hz⟩ : ∃ z, c.vals.getD j 0 = z := ⟨_, rfl⟩
          rw [hz] at e2 hfit
          have hkq : c.kind = 1 ∨ c.kind = 2 := by have := HO.out.1; simpa [kind] using this
          obtain ⟨q, hq⟩ : ∃ q, c.kind = q := ⟨_, rfl⟩
          rw [hq] at hkq hfit
          have CT5 := hidI (CT4.out wr HY.out)
          rw [hq] at CT5
          have hcase : q = 1 ∨ (q = 2 ∧ z = 0) ∨ (q = 2 ∧ z = 1) := by
            rcases hkq with rfl | rfl
            · exact .inl rfl
            · simp [fit] at hfit
              rcases hfit with h | h
              · exact .inr (.inl ⟨rfl, h⟩)
              · exact .inr (.inr ⟨rfl, h⟩)
          clear hkq hfit hz hq
          rcases hcase with rfl | ⟨rfl, rfl⟩ | ⟨rfl, rfl⟩
          all_goals
            go_wp2_with (go_at_call 28; refine Calls.mono CT5.out ?_; rintro e w6 ⟨rfl, hb6⟩; refine Hid.out ?_)
            refine hidI ?_
            have HY6 : Hid (Below w4.heap.size w4 w6) := hidI (HY.out.trans (hb6.mono hy4))
            have e3 := (hb6.cell (World.block_lt_of_cell? wr _ e2)).trans e2
            clear hb6 e2 e0 e1 CT5
            go_wp2
            go_roundg g'
            case measure => omega
            case rel => exact ⟨j + 1, by omega, by go_num, HY6⟩
theorem fits_args {w : World} (v : Value) (xs : List Deed) (hv : SeesD w v xs) (hok : ∀ x ∈ xs, x.ok w.heap.size w) : Calls Try.prog 7 #[v] w fun e w' => e = .returned (.bool true) ∧ Below w.heap.size w w' := fits_walk w v xs hv hok
end Go.Proofs.Ytbjoljokdjgbnab
