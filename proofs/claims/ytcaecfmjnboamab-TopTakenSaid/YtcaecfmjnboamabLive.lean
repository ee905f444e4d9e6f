/-
  What must be whatever is asked: the call of the law's own 'live'.
-/
import Derived.Test.YtcaecfmjnboamabGroups
import Derived.Test.YtcaecfmjnboamabNumber
namespace Go.Proofs.Ytcaecfmjnboamab
open Go.RowKit Go.Deep
theorem sees_own {w : World} {base n : Nat} {v : Value} {zs : List Int} (h : w.ownsRow base 3 1 v n (zs.map (Value.int .i64))) (hl : n ≤ 1000000) : Sees w v zs := by
  have hn : zs.length = n := by have := h.1; simpa using this
  rcases Joins.ownsRow_forms h with ⟨rfl, h0⟩ | ⟨g, cap, rfl⟩
  · have : zs = [] := List.eq_nil_of_length_eq_zero (by omega)
    subst this
    exact ⟨none, 0, rfl, by simp, .inl rfl⟩
  · refine ⟨some ⟨g, 0, none⟩, cap, by rw [hn], by omega, .inr ⟨g, 0, rfl, fun j hj => ?_⟩⟩
    have := World.ownsRow.cells h rfl j (.int .i64 (zs.getD j 0)) (by simp [List.getD, hj])
    rw [Nat.zero_add]
    rw [show (⟨g, 0, none⟩ : Addr).add j = ⟨g, j, none⟩ by unfold Addr.add; split <;> simp_all] at this
    exact this
theorem sees_three (w : World) (a b c : Int) : Sees (w.alloc (.cells #[.int .i64 a, .int .i64 b, .int .i64 c] 3)) (.slice (some ⟨w.heap.size, 0, none⟩) 3 3) [a, b, c] := by
  have h := World.rowIs_alloc w #[.int .i64 a, .int .i64 b, .int .i64 c] 3 (fun j => .int .i64 ([a, b, c].getD j 0)) (by
    intro i hi
    match i, hi with
    | 0, _ | 1, _ | 2, _ => rfl
    | n + 3, h => exact absurd h (by simp))
  refine ⟨some ⟨w.heap.size, 0, none⟩, 3, rfl, by simp, .inr ⟨w.heap.size, 0, rfl, fun j hj => ?_⟩⟩
  rw [Nat.zero_add]
  exact World.rowIs.cell h hj
theorem steps_live : Steps 3 none16 (1 % fac 3) [0, 2, 1] := by
  refine ⟨0, rfl, by decide, by decide, by decide, 2, rfl, by decide, by decide, by decide, 1, rfl, by decide, by decide, by decide, trivial⟩
theorem numW_live : numW [2, 1, 0] = 5 := by decide
theorem numE_live : numE [2, 1, 0] = 0 := by decide
theorem groups_live : groupsL 1 0 [] [5, 6, 7] = [[5], [6, 7]] := by decide
set_option maxHeartbeats 1000000 in
theorem live_any (w : World) : Calls Try.prog 14 #[] w fun e w' => e = .returned (.bool true) ∧ Below w.heap.size w w' := by
  have CF : Hid (∀ w : World, _) := fun w => from_walk 3 1 w (by decide) (by decide)
  have CN : Hid (∀ w : World, _) := fun w => number_any _ _ _ (sees_three w 2 1 0)
  have CG : Hid (∀ w : World, _) := fun w => groups_any _ _ 1 (by decide) _ (sees_three w 5 6 7) (by decide)
  go_enter Try.func14, Try.ntmps14
  go_wp2_with (go_at_call 9; refine Calls.mono (CF.out _) ?_; rintro e w1 ⟨g1, ps, rfl, hp, hs, ho1, hb1⟩; refine Hid.out ?_)
  refine hidI ?_
  obtain rfl : ps = [0, 2, 1] := steps_same (by rw [hp]; rfl) hs steps_live
  clear hp hs
  have hc1 : w1.cell? ⟨g1, 1, none⟩ = some (.int .i64 2) := World.ownsRow.cells ho1 rfl 1 _ rfl
  have hg1 := (ho1.lt g1 rfl).2
  clear ho1
  go_wp2_with (go_at_call 11; refine Calls.mono (CN.out _) ?_; rintro e w2 ⟨rfl, hb2⟩; refine Hid.out ?_)
  refine hidI ?_
  rw [numW_live, numE_live]
  go_wp2_with (go_at_call 27; refine Calls.mono (CG.out _) ?_; rintro e w3 ⟨u, rfl, ⟨vs, ho3, hr3⟩, hb3⟩; refine Hid.out ?_)
  refine hidI ?_
  rw [groups_live] at ho3 hr3
  obtain ⟨g3, c3, rfl⟩ := Joins.ownsRow_form ho3 (by decide)
  obtain ⟨v0, v1, rfl⟩ : ∃ v0 v1, vs = [v0, v1] := by
    have := hr3.1
    match vs, this with
    | [a, b], _ => exact ⟨a, b, rfl⟩
  have hv1 := (hr3.2 1 v1 [6, 7] rfl rfl).2
  obtain ⟨g4, c4, rfl⟩ := Joins.ownsRow_form hv1 (by decide)
  have hc3 : w3.cell? ⟨g3, 1, none⟩ = some (.slice (some ⟨g4, 0, none⟩) [6, 7].length c4) := World.ownsRow.cells ho3 rfl 1 _ rfl
  clear hr3 hv1 ho3 CF CN CG
  have hs1 := hb1.size
  have hs2 := hb2.size
  have hs3 := hb3.size
  simp only [World.size_alloc] at hs2 hs3
  have hb13 : Below w1.heap.size w1 w3 := (((Below.refl _ w1).alloc (Nat.le_refl _) _).trans (hb2.mono (by simp only [World.size_alloc]; omega))).trans (((Below.refl _ w2).alloc (by omega) _).trans (hb3.mono (by simp only [World.size_alloc]; omega)))
  have hc1' : w3.cell? ⟨g1, 1, none⟩ = some (.int .i64 2) := by
    rw [hb13.cell (p := ⟨g1, 1, none⟩) hg1]
    exact hc1
  have hbb : Below w.heap.size w w3 := hb1.trans (hb13.mono hs1)
  clear hb13
  clear hb1 hb2 hb3 hc1
  go_wp2_with (go_at_call 18; refine (many_in 4 _ (by decide)).mono ?_; rintro e w' ⟨rfl, rfl⟩)
  go_ret
  exact ⟨rfl, hbb⟩
end Go.Proofs.Ytcaecfmjnboamab
