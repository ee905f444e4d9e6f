/-
  Keys, held against each other: by side, then by name.
-/
import Derived.Test.YtbjoljokdjgbnacDeclare
namespace Go.Proofs.Ytbjoljokdjgbnac
open Go.RowKit Go.MapKept
theorem nan_side (x : Int) (w : World) : Calls Try.prog 74 #[.int .u8 x] w fun e w' => e = .returned (.bool false) ∧ w = w' := by
  go_enter Try.func74, Try.ntmps74
  go_wp2
  go_ret
  exact ⟨by simp, rfl⟩
theorem nan_name (x : ByteArray) (w : World) : Calls Try.prog 75 #[.string x] w fun e w' => e = .returned (.bool false) ∧ w = w' := by
  go_enter Try.func75, Try.ntmps75
  go_wp2
  go_ret
  exact ⟨by simp, rfl⟩
/-- Which of two numbers is less. -/
def cmpI (x y : Int) : Int := if x < y then -1 else if y < x then 1 else 0
theorem cmp_side (x y : Int) (w : World) : Calls Try.prog 57 #[.int .u8 x, .int .u8 y] w fun e w' => e = .returned (.int .i64 (cmpI x y)) ∧ w = w' := by
  have N := hidI nan_side
  unfold cmpI
  by_cases h1 : x < y
  · go_enter Try.func57, Try.ntmps57
    go_wp2_with (go_at_call 74; refine Calls.mono (N.out _ _) ?_; rintro e w' ⟨rfl, rfl⟩)
    go_ret
    exact ⟨by simp, rfl⟩
  · by_cases h2 : y < x
    · go_enter Try.func57, Try.ntmps57
      go_wp2_with (go_at_call 74; refine Calls.mono (N.out _ _) ?_; rintro e w' ⟨rfl, rfl⟩)
      go_ret
      exact ⟨by simp, rfl⟩
    · go_enter Try.func57, Try.ntmps57
      go_wp2_with (go_at_call 74; refine Calls.mono (N.out _ _) ?_; rintro e w' ⟨rfl, rfl⟩)
      go_ret
      exact ⟨by simp, rfl⟩
/-- Which of two texts is less. -/
def cmpS (x y : ByteArray) : Int := if Op.bytesLess x.toList y.toList = true then -1 else if (x.toList == y.toList) = true then 0 else 1
theorem cmp_name (x y : ByteArray) (w : World) : Calls Try.prog 58 #[.string x, .string y] w fun e w' => e = .returned (.int .i64 (cmpS x y)) ∧ w = w' := by
  have N := hidI nan_name
  unfold cmpS
  cases h1 : Op.bytesLess x.toList y.toList with
  | true =>
    go_enter Try.func58, Try.ntmps58
    go_wp2_with (go_at_call 75; refine Calls.mono (N.out _ _) ?_; rintro e w' ⟨rfl, rfl⟩)
    go_ret
    exact ⟨rfl, rfl⟩
  | false =>
    cases h2 : (x.toList == y.toList) with
    | true =>
      go_enter Try.func58, Try.ntmps58
      go_wp2_with (go_at_call 75; refine Calls.mono (N.out _ _) ?_; rintro e w' ⟨rfl, rfl⟩)
      go_ret
      exact ⟨rfl, rfl⟩
    | false =>
      go_enter Try.func58, Try.ntmps58
      go_wp2_with (go_at_call 75; refine Calls.mono (N.out _ _) ?_; rintro e w' ⟨rfl, rfl⟩)
      go_ret
      exact ⟨rfl, rfl⟩
set_option maxRecDepth 100000 in
/-- The first that is not 0, of two. -/
theorem or_two (b : Nat) (x y : Int) (w : World) (h0 : w.cell? ⟨b, 0, none⟩ = some (.int .i64 x)) (h1 : w.cell? ⟨b, 1, none⟩ = some (.int .i64 y)) :
    Calls Try.prog 56 #[.slice (some ⟨b, 0, none⟩) 2 2] w fun e w' => e = .returned (.int .i64 (if x = 0 then y else x)) ∧ w = w' := by
  go_enter Try.func56, Try.ntmps56
  go_wp2
  go_loopg [8] 2 (fun g s8 wx => ∃ i : Nat, i + g = 2 ∧ s8 = .int .i64 i ∧ (1 ≤ i → x = 0) ∧ (i = 2 → y = 0) ∧ w = wx)
  case atStart => exact ⟨0, by omega, rfl, by omega, by omega, rfl⟩
  case round =>
    obtain ⟨i, hig, rfl, q1, q2, rfl⟩ := hrel
    obtain rfl | rfl | rfl : i = 0 ∨ i = 1 ∨ i = 2 := by omega
    · by_cases hx : x = 0
      · subst hx
        go_wp2
        go_roundg 1
        case measure => omega
        case rel => exact ⟨1, by omega, by go_num, by simp, by omega, rfl⟩
      · have e1 : (x == 0) = false := by simpa using hx
        go_wp2
        go_ret
        exact ⟨by simp, rfl⟩
    · obtain rfl := q1 (by omega)
      by_cases hy : y = 0
      · subst hy
        go_wp2
        go_roundg 0
        case measure => omega
        case rel => exact ⟨2, by omega, by go_num, by simp, by simp, rfl⟩
      · have e1 : (y == 0) = false := by simpa using hy
        go_wp2
        go_ret
        exact ⟨by simp, rfl⟩
    · obtain rfl := q1 (by omega)
      obtain rfl := q2 rfl
      go_wp2
      go_ret
      exact ⟨by simp, rfl⟩
/-- How two keys stand to each other. -/
def cmpK (s s' : ByteArray) (d d' : Int) : Int := if cmpI d d' = 0 then cmpS s s' else cmpI d d'
set_option maxRecDepth 100000 in
set_option maxHeartbeats 2000000 in
theorem cmp_keys (s s' : ByteArray) (d d' : Int) (w : World) : Calls Try.prog 55 #[ke s d, ke s' d'] w fun e w' => e = .returned (.int .i64 (cmpK s s' d d')) ∧ Below w.heap.size w w' := by
  have C1 := hidI (cmp_side d d')
  have C2 := hidI (cmp_name s s')
  obtain ⟨x, hx⟩ : ∃ x, cmpI d d' = x := ⟨_, rfl⟩
  obtain ⟨y, hy⟩ : ∃ y, cmpS s s' = y := ⟨_, rfl⟩
  unfold cmpK
  rw [hx] at C1 ⊢
  rw [hy] at C2 ⊢
  have C3 := hidI (fun b => or_two b x y)
  obtain ⟨z, hz⟩ : ∃ z, (if x = 0 then y else x) = z := ⟨_, rfl⟩
  rw [hz] at C3 ⊢
  go_enter Try.func55, Try.ntmps55
  go_wp2
  go_region_held3 (fun w' => w'.cell? ⟨w.heap.size, 0, none⟩ = some (.string s) ∧ w'.cell? ⟨w.heap.size, 1, none⟩ = some (.int .u8 d) ∧ w'.cell? ⟨w.heap.size + 1, 0, none⟩ = some (.string s') ∧ w'.cell? ⟨w.heap.size + 1, 1, none⟩ = some (.int .u8 d'))
    (exact ⟨by go_keep, by go_keep, by go_keep, by go_keep⟩)
    ((first | (go_at_call 57; refine Calls.mono (C1.out _) ?_; rintro e w' ⟨rfl, rfl⟩) | (go_at_call 58; refine Calls.mono (C2.out _) ?_; rintro e w' ⟨rfl, rfl⟩) | (go_at_call 56; refine Calls.mono (C3.out _ _ (by go_simp) (by go_simp)) ?_; rintro e w' ⟨rfl, rfl⟩)))
  all_goals
    go_wp2
    go_ret
    exact ⟨rfl, by (repeat (first | exact Below.refl _ _ | assumption | refine Below.drew ?_ | refine Below.alloc ?_ (by first | omega | (simp; done) | (simp; omega)) _ | refine Below.setCell ?_ (by first | omega | (simp; done) | (simp; omega)) _))⟩
end Go.Proofs.Ytbjoljokdjgbnac
