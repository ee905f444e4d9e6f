/-
  Whether two lists of words are the same: the document's, and the program's.
-/
import Derived.Test.YtbjoljokdjgbnabSameKWM
namespace Go.Proofs.Ytbjoljokdjgbnab
open Go.RowKit Go.Deep Go.MapKept

set_option maxRecDepth 100000 in
set_option maxHeartbeats 1000000 in
theorem words_any {w : World} {u v : Value} {zs ys : List Int} (hu : Sees w u zs) (hv : Sees w v ys) (hl : zs.length ≤ 100000) (hl' : ys.length ≤ 100000) :
    Calls Try.prog 46 #[u, v] w fun e w' => e = .returned (.bool (decide (zs = ys))) ∧ Below w.heap.size w w' := by
  obtain ⟨r, hr⟩ : ∃ r, decide (zs = ys) = r := ⟨_, rfl⟩
  rw [hr]
  have HR := hidI hr
  clear hr
  obtain ⟨a, ac, rfl, hA⟩ := hu
  obtain ⟨b, bc, rfl, hB⟩ := hv
  have HA := hidI hA
  have HB := hidI hB
  obtain ⟨k, hk⟩ : ∃ k, zs.length = k := ⟨_, rfl⟩
  obtain ⟨k', hk'⟩ : ∃ k', ys.length = k' := ⟨_, rfl⟩
  have HK := hidI (And.intro hk hk')
  rw [hk] at hl ⊢
  rw [hk'] at hl' ⊢
  clear hA hB hk hk'
  by_cases hkk : ¬ k = k'
  · have k1 : ((k : Int) == (k' : Int)) = false := by simp only [beq_eq_false_iff_ne, ne_eq]; omega
    obtain rfl : false = r := by
      rw [← HR.out]
      refine (decide_eq_false fun e => hkk ?_).symm
      obtain ⟨h1, h2⟩ := HK.out
      rw [← h1, ← h2, e]
    go_enter Try.func46, Try.ntmps46
    go_wp2
    go_ret
    exact ⟨rfl, Below.refl _ _⟩
  replace hkk : k = k' := Classical.not_not.1 hkk
  subst hkk
  go_enter Try.func46, Try.ntmps46
  go_wp2
  go_loopg [5] k (fun g s5 wx => ∃ i : Nat, i + g = k ∧ s5 = .int .i64 i ∧ Hid (zs.take i = ys.take i) ∧ Hid (Below w.heap.size w wx))
  case atStart => exact ⟨0, by omega, rfl, hidI rfl, hidI (Below.refl _ _)⟩
  case round =>
    obtain ⟨i, hig, rfl, HT, HX⟩ := hrel
    cases gk with
    | zero =>
      obtain rfl : k = i := by omega
      have k1 : decide ((k : Int) < (k : Int)) = false := by simp
      obtain rfl : true = r := by
        obtain ⟨h1, h2⟩ := HK.out
        have := HT.out
        rw [List.take_of_length_le (by omega), List.take_of_length_le (by omega)] at this
        rw [← HR.out]; simpa using this
      go_wp2
      go_ret
      exact ⟨rfl, HX.out⟩
    | succ g =>
      have k1 : (i : Int) < (k : Int) := by omega
      have hik : i < zs.length := by have := HK.out.1; omega
      have hik' : i < ys.length := by have := HK.out.2; omega
      have kk : ∀ {p : Addr} {v : Value}, w.cell? p = some v → wr.cell? p = some v := fun {p v} hc => (HX.out.cell (World.block_lt_of_cell? w _ hc)).trans hc
      rcases HA.out with hnil | ⟨ab, ao, rfl, hA⟩
      · subst hnil; simp at hik
      rcases HB.out with hnil | ⟨bb, bo, rfl, hB⟩
      · subst hnil; simp at hik'
      have e0 := kk (hA i hik)
      have f0 := kk (hB i hik')
      obtain ⟨x, hx⟩ : ∃ x, zs.getD i 0 = x := ⟨_, rfl⟩
      obtain ⟨y, hy⟩ : ∃ y, ys.getD i 0 = y := ⟨_, rfl⟩
      rw [hx] at e0
      rw [hy] at f0
      have HXY := hidI (And.intro hx hy)
      clear hA hB kk hx hy
      by_cases hxy : x = y
      · subst hxy
        have k3 : (x == x) = true := by simp
        go_wp2
        go_region
        all_goals
          go_wp2
          go_roundg g
          case measure => omega
          case rel =>
            refine ⟨i + 1, by omega, by go_num, hidI ?_, hidI (by have := HX.out; (repeat (first | exact Below.refl _ _ | assumption | refine Below.drew ?_)))⟩
            obtain ⟨h1, h2⟩ := HXY.out
            rw [List.take_add_one, List.take_add_one, HT.out, List.getElem?_eq_getElem hik, List.getElem?_eq_getElem hik']
            simp only [List.getD, List.getElem?_eq_getElem hik, List.getElem?_eq_getElem hik', Option.getD_some] at h1 h2
            rw [h1, h2]
      · have k3 : (x == y) = false := by simpa using hxy
        obtain rfl : false = r := by
          rw [← HR.out]
          refine (decide_eq_false fun e => hxy ?_).symm
          obtain ⟨h1, h2⟩ := HXY.out
          rw [← h1, ← h2, e]
        go_wp2
        go_region
        all_goals
          go_wp2
          go_ret
          exact ⟨rfl, by have := HX.out; (repeat (first | exact Below.refl _ _ | assumption | refine Below.drew ?_))⟩

set_option maxRecDepth 100000 in
set_option maxHeartbeats 1000000 in
theorem equal_any {w : World} {u v : Value} {zs ys : List Int} (hu : Sees w u zs) (hv : Sees w v ys) (hl : zs.length ≤ 100000) (hl' : ys.length ≤ 100000) :
    Calls Try.prog 50 #[u, v] w fun e w' => e = .returned (.bool (decide (zs = ys))) ∧ Below w.heap.size w w' := by
  obtain ⟨r, hr⟩ : ∃ r, decide (zs = ys) = r := ⟨_, rfl⟩
  rw [hr]
  have HR := hidI hr
  clear hr
  obtain ⟨a, ac, rfl, hA⟩ := hu
  obtain ⟨b, bc, rfl, hB⟩ := hv
  have HA := hidI hA
  have HB := hidI hB
  obtain ⟨k, hk⟩ : ∃ k, zs.length = k := ⟨_, rfl⟩
  obtain ⟨k', hk'⟩ : ∃ k', ys.length = k' := ⟨_, rfl⟩
  have HK := hidI (And.intro hk hk')
  rw [hk] at hl ⊢
  rw [hk'] at hl' ⊢
  clear hA hB hk hk'
  by_cases hkk : ¬ k = k'
  · have k1 : ((k : Int) == (k' : Int)) = false := by simp only [beq_eq_false_iff_ne, ne_eq]; omega
    obtain rfl : false = r := by
      rw [← HR.out]
      refine (decide_eq_false fun e => hkk ?_).symm
      obtain ⟨h1, h2⟩ := HK.out
      rw [← h1, ← h2, e]
    go_enter Try.func50, Try.ntmps50
    go_wp2
    go_ret
    exact ⟨rfl, Below.refl _ _⟩
  replace hkk : k = k' := Classical.not_not.1 hkk
  subst hkk
  go_enter Try.func50, Try.ntmps50
  go_wp2
  go_loopg [5, 13] k (fun g s5 s13 wx => ∃ (i : Nat) (v5 : Value), v5 = s5 ∧ i + g = k ∧ s13 = .int .i64 i ∧ Hid (zs.take i = ys.take i) ∧ Hid (Below w.heap.size w wx))
  case atStart => exact ⟨0, _, rfl, by omega, rfl, hidI rfl, hidI (Below.refl _ _)⟩
  case round =>
    obtain ⟨i, v5, rfl, hig, rfl, HT, HX⟩ := hrel
    cases gk with
    | zero =>
      obtain rfl : k = i := by omega
      have k1 : decide ((k : Int) < (k : Int)) = false := by simp
      obtain rfl : true = r := by
        obtain ⟨h1, h2⟩ := HK.out
        have := HT.out
        rw [List.take_of_length_le (by omega), List.take_of_length_le (by omega)] at this
        rw [← HR.out]; simpa using this
      go_wp2
      go_ret
      exact ⟨rfl, HX.out⟩
    | succ g =>
      have k1 : (i : Int) < (k : Int) := by omega
      have hik : i < zs.length := by have := HK.out.1; omega
      have hik' : i < ys.length := by have := HK.out.2; omega
      have kk : ∀ {p : Addr} {v : Value}, w.cell? p = some v → wr.cell? p = some v := fun {p v} hc => (HX.out.cell (World.block_lt_of_cell? w _ hc)).trans hc
      rcases HA.out with hnil | ⟨ab, ao, rfl, hA⟩
      · subst hnil; simp at hik
      rcases HB.out with hnil | ⟨bb, bo, rfl, hB⟩
      · subst hnil; simp at hik'
      have e0 := kk (hA i hik)
      have f0 := kk (hB i hik')
      obtain ⟨x, hx⟩ : ∃ x, zs.getD i 0 = x := ⟨_, rfl⟩
      obtain ⟨y, hy⟩ : ∃ y, ys.getD i 0 = y := ⟨_, rfl⟩
      rw [hx] at e0
      rw [hy] at f0
      have HXY := hidI (And.intro hx hy)
      clear hA hB kk hx hy
      by_cases hxy : x = y
      · subst hxy
        have k3 : (x == x) = true := by simp
        go_wp2
        go_region
        all_goals
          go_wp2
          go_roundg g
          case measure => omega
          case rel =>
            refine ⟨i + 1, _, rfl, by omega, by go_num, hidI ?_, hidI (by have := HX.out; (repeat (first | exact Below.refl _ _ | assumption | refine Below.drew ?_)))⟩
            obtain ⟨h1, h2⟩ := HXY.out
            rw [List.take_add_one, List.take_add_one, HT.out, List.getElem?_eq_getElem hik, List.getElem?_eq_getElem hik']
            simp only [List.getD, List.getElem?_eq_getElem hik, List.getElem?_eq_getElem hik', Option.getD_some] at h1 h2
            rw [h1, h2]
      · have k3 : (x == y) = false := by simpa using hxy
        obtain rfl : false = r := by
          rw [← HR.out]
          refine (decide_eq_false fun e => hxy ?_).symm
          obtain ⟨h1, h2⟩ := HXY.out
          rw [← h1, ← h2, e]
        go_wp2
        go_region
        all_goals
          go_wp2
          go_ret
          exact ⟨rfl, by have := HX.out; (repeat (first | exact Below.refl _ _ | assumption | refine Below.drew ?_))⟩
end Go.Proofs.Ytbjoljokdjgbnab
