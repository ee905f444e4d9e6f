/-
  Messages, held against each other, as the program does it.
-/
import Derived.Test.YtdfieflcclbgjaaSortM
import Derived.Deep.RegionHeld3
import Derived.Sort.Walk0
namespace Go.Proofs.Ytdfieflcclbgjaa
open Go.RowKit Go.MapKept Go.Sort
theorem nan_int (x : Int) (w : World) : Calls Try.prog 61 #[.int .i64 x] w fun e w' => e = .returned (.bool false) ∧ w = w' := by
  go_enter Try.func61, Try.ntmps61
  go_wp2
  go_ret
  exact ⟨by simp, rfl⟩
theorem nan_word (x : Int) (w : World) : Calls Try.prog 62 #[.int .i64 x] w fun e w' => e = .returned (.bool false) ∧ w = w' := by
  go_enter Try.func62, Try.ntmps62
  go_wp2
  go_ret
  exact ⟨by simp, rfl⟩
/-- Which of two numbers is less. -/
def cmpI (x y : Int) : Int := if x < y then -1 else if y < x then 1 else 0
theorem cmp_int (x y : Int) (w : World) : Calls Try.prog 34 #[.int .i64 x, .int .i64 y] w fun e w' => e = .returned (.int .i64 (cmpI x y)) ∧ w = w' := by
  have N := hidI nan_int
  unfold cmpI
  by_cases h1 : x < y
  · go_enter Try.func34, Try.ntmps34
    go_wp2_with (go_at_call 61; refine Calls.mono (N.out _ _) ?_; rintro e w' ⟨rfl, rfl⟩)
    go_ret
    exact ⟨by simp, rfl⟩
  · by_cases h2 : y < x
    · go_enter Try.func34, Try.ntmps34
      go_wp2_with (go_at_call 61; refine Calls.mono (N.out _ _) ?_; rintro e w' ⟨rfl, rfl⟩)
      go_ret
      exact ⟨by simp, rfl⟩
    · go_enter Try.func34, Try.ntmps34
      go_wp2_with (go_at_call 61; refine Calls.mono (N.out _ _) ?_; rintro e w' ⟨rfl, rfl⟩)
      go_ret
      exact ⟨by simp, rfl⟩
theorem cmp_word (x y : Int) (w : World) : Calls Try.prog 35 #[.int .i64 x, .int .i64 y] w fun e w' => e = .returned (.int .i64 (cmpI x y)) ∧ w = w' := by
  have N := hidI nan_word
  unfold cmpI
  by_cases h1 : x < y
  · go_enter Try.func35, Try.ntmps35
    go_wp2_with (go_at_call 62; refine Calls.mono (N.out _ _) ?_; rintro e w' ⟨rfl, rfl⟩)
    go_ret
    exact ⟨by simp, rfl⟩
  · by_cases h2 : y < x
    · go_enter Try.func35, Try.ntmps35
      go_wp2_with (go_at_call 62; refine Calls.mono (N.out _ _) ?_; rintro e w' ⟨rfl, rfl⟩)
      go_ret
      exact ⟨by simp, rfl⟩
    · go_enter Try.func35, Try.ntmps35
      go_wp2_with (go_at_call 62; refine Calls.mono (N.out _ _) ?_; rintro e w' ⟨rfl, rfl⟩)
      go_ret
      exact ⟨by simp, rfl⟩
def orI (x y z : Int) : Int := if x = 0 then (if y = 0 then z else y) else x
set_option maxRecDepth 100000 in
/-- The first that is not 0, of three. -/
theorem or_three (b : Nat) (x y z : Int) (w : World) (h0 : w.cell? ⟨b, 0, none⟩ = some (.int .i64 x)) (h1 : w.cell? ⟨b, 1, none⟩ = some (.int .i64 y)) (h2 : w.cell? ⟨b, 2, none⟩ = some (.int .i64 z)) :
    Calls Try.prog 33 #[.slice (some ⟨b, 0, none⟩) 3 3] w fun e w' => e = .returned (.int .i64 (orI x y z)) ∧ w = w' := by
  unfold orI
  go_enter Try.func33, Try.ntmps33
  go_wp2
  go_loopg [8] 3 (fun g s8 wx => ∃ i : Nat, i + g = 3 ∧ s8 = .int .i64 i ∧ (1 ≤ i → x = 0) ∧ (2 ≤ i → y = 0) ∧ (i = 3 → z = 0) ∧ w = wx)
  case atStart => exact ⟨0, by omega, rfl, by omega, by omega, by omega, rfl⟩
  case round =>
    obtain ⟨i, hig, rfl, q1, q2, q3, rfl⟩ := hrel
    obtain rfl | rfl | rfl | rfl : i = 0 ∨ i = 1 ∨ i = 2 ∨ i = 3 := by omega
    · by_cases hx : x = 0
      · subst hx
        clear q1 q2 q3
        go_wp2
        go_roundg 2
        case measure => omega
        case rel => exact ⟨1, by omega, by go_num, by simp, by omega, by omega, rfl⟩
      · have e1 : (x == 0) = false := by simpa using hx
        clear q1 q2 q3
        go_wp2
        go_ret
        exact ⟨by simp, rfl⟩
    · obtain rfl := q1 (by omega)
      by_cases hy : y = 0
      · subst hy
        clear q1 q2 q3
        go_wp2
        go_roundg 1
        case measure => omega
        case rel => exact ⟨2, by omega, by go_num, by simp, by simp, by omega, rfl⟩
      · have e1 : (y == 0) = false := by simpa using hy
        clear q1 q2 q3
        go_wp2
        go_ret
        exact ⟨by simp, rfl⟩
    · obtain rfl := q1 (by omega)
      obtain rfl := q2 (by omega)
      by_cases hz : z = 0
      · subst hz
        clear q1 q2 q3
        go_wp2
        go_roundg 0
        case measure => omega
        case rel => exact ⟨3, by omega, by go_num, by simp, by simp, by simp, rfl⟩
      · have e1 : (z == 0) = false := by simpa using hz
        clear q1 q2 q3
        go_wp2
        go_ret
        exact ⟨by simp, rfl⟩
    · obtain rfl := q1 (by omega)
      obtain rfl := q2 (by omega)
      obtain rfl := q3 rfl
      clear q1 q2 q3
      go_wp2
      go_ret
      exact ⟨by simp, rfl⟩
/-- Blocks were laid, orders drawn; nothing else. -/
def Lays (w w' : World) : Prop := ∃ q os', w' = grow (w.drewN q) os'
theorem Lays.refl (w : World) : Lays w w := ⟨0, #[], by rw [grow_empty]; rfl⟩
theorem Lays.alloc {w w' : World} (h : Lays w w') (o : Obj) : Lays w (w'.alloc o) := by
  obtain ⟨q, os, rfl⟩ := h
  exact ⟨q, os ++ #[o], by rw [alloc_eq_grow, grow_grow]⟩
theorem Lays.drew {w w' : World} (h : Lays w w') : Lays w w'.drew := by
  obtain ⟨q, os, rfl⟩ := h
  exact ⟨q + 1, os, by rw [drew_grow]; rfl⟩
/-- How two messages stand to each other. -/
def cmpM (x y : Msg) : Int := orI (cmpI x.to y.to) (cmpI x.tag y.tag) (cmpI x.val y.val)
set_option maxRecDepth 100000 in
set_option maxHeartbeats 4000000 in
theorem cmp_msgs (x y : Msg) (w : World) : Calls Try.prog 32 #[x.value, y.value] w fun e w' => e = .returned (.int .i64 (cmpM x y)) ∧ Lays w w' := by
  obtain ⟨a, b, c⟩ := x
  obtain ⟨d, e, f⟩ := y
  unfold Msg.value cmpM
  simp only
  have C1 := hidI cmp_int
  have C2 := hidI (cmp_word c f)
  have C3 := hidI (fun q => or_three q (cmpI a d) (cmpI b e) (cmpI c f))
  go_enter Try.func32, Try.ntmps32
  go_wp2
  go_region_held3 (fun w' => w'.cell? ⟨w.heap.size, 0, none⟩ = some (.int .i64 a) ∧ w'.cell? ⟨w.heap.size, 1, none⟩ = some (.int .i64 b) ∧ w'.cell? ⟨w.heap.size, 2, none⟩ = some (.int .i64 c) ∧ w'.cell? ⟨w.heap.size + 1, 0, none⟩ = some (.int .i64 d) ∧ w'.cell? ⟨w.heap.size + 1, 1, none⟩ = some (.int .i64 e) ∧ w'.cell? ⟨w.heap.size + 1, 2, none⟩ = some (.int .i64 f))
    (exact ⟨by go_keep, by go_keep, by go_keep, by go_keep, by go_keep, by go_keep⟩)
    ((first | (go_at_call 34; refine Calls.mono (C1.out _ _ _) ?_; rintro e w' ⟨rfl, rfl⟩) | (go_at_call 35; refine Calls.mono (C2.out _) ?_; rintro e w' ⟨rfl, rfl⟩) | (go_at_call 33; refine Calls.mono (C3.out _ _ (by go_simp) (by go_simp) (by go_simp)) ?_; rintro e w' ⟨rfl, rfl⟩)))
  all_goals
    go_wp2
    go_ret
    refine ⟨rfl, ?_⟩
    repeat (first | exact Lays.refl _ | refine Lays.drew ?_ | refine Lays.alloc ?_ _)
end Go.Proofs.Ytdfieflcclbgjaa
