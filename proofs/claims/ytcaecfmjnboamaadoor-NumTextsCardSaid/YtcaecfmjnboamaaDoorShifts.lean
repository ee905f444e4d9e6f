/-
  The calls of the two Shl and of the two Shr: what they come to.
-/
import Derived.Test.YtcaecfmjnboamaaDoorArith
import Derived.Test.YtcaecfmjnboamaaDoorChecked
import Derived.WalkKit
import Derived.WalkSpells
import Derived.WalkLawsBesides
namespace Go.Proofs.YtcaecfmjnboamaaDoor
open Go.RowKit
theorem u64mod64 (n : Int) : (IntKind.u64.wrap n).tmod 64 = n % 64 := by
  rw [IntKind.wrap_u64, Int.tmod_eq_emod_of_nonneg (by omega)]; omega
theorem half (x : Int) : (x - x % 2).tdiv 2 = x / 2 := by
  rw [show x - x % 2 = 2 * (x / 2) by omega, Int.mul_tdiv_cancel_left _ (by decide)]
set_option maxHeartbeats 400000 in
theorem shl_any (a n : Int) (w : World) :
    Calls Tryd.prog 20 #[.int .i64 a, .int .i64 n] w fun e w' => e = .returned (.int .i64 (up a (n % 64).toNat)) ∧ w = w' := by
  have e1 := and63 n
  obtain ⟨m, hm⟩ : ∃ m : Nat, (n % 64) = (m : Int) := ⟨(n % 64).toNat, by omega⟩
  have hlt : m < 64 := by omega
  rw [hm] at e1
  rw [hm]
  clear hm
  go_enter Tryd.func20, Tryd.ntmps20
  go_wp2
  go_loop [0, 7] (fun x i => ∃ k : Nat, k ≤ m ∧ i = .int .i64 k ∧ x = .int .i64 (up a k)) (fun _ i => m - (intOf i).toNat)
  case atStart => exact ⟨0, Nat.zero_le _, rfl, rfl⟩
  case round =>
    obtain ⟨k, hk, rfl, rfl⟩ := hrel
    by_cases hkm : k < m
    · go_wp2
      go_round
      case rel => exact ⟨k + 1, by omega, by go_num, rfl⟩
      case measure => simp [intOf]; omega
    · go_wp2
      obtain rfl : k = m := by omega
      go_ret
      exact ⟨rfl, rfl⟩
set_option maxHeartbeats 400000 in
theorem shr_any (a n : Int) (w : World) :
    Calls Tryd.prog 22 #[.int .i64 a, .int .i64 n] w fun e w' => e = .returned (.int .i64 (dn a (n % 64).toNat)) ∧ w = w' := by
  have e1 := and63 n
  obtain ⟨m, hm⟩ : ∃ m : Nat, (n % 64) = (m : Int) := ⟨(n % 64).toNat, by omega⟩
  have hlt : m < 64 := by omega
  rw [hm] at e1
  rw [hm]
  clear hm
  go_enter Tryd.func22, Tryd.ntmps22
  go_wp2
  go_loop [0, 7] (fun x i => ∃ k : Nat, k ≤ m ∧ i = .int .i64 k ∧ x = .int .i64 (dn a k)) (fun _ i => m - (intOf i).toNat)
  case atStart => exact ⟨0, Nat.zero_le _, rfl, rfl⟩
  case round =>
    obtain ⟨k, hk, rfl, rfl⟩ := hrel
    by_cases hkm : k < m
    · go_wp2
      go_round
      case rel => exact ⟨k + 1, by omega, by go_num, rfl⟩
      case measure => simp [intOf]; omega
    · go_wp2
      obtain rfl : k = m := by omega
      go_ret
      exact ⟨rfl, rfl⟩
theorem addR_any (a b : Int) (w : World) :
    Calls Tryd.prog 11 #[.int .i64 a, .int .i64 b] w fun e w' => e = .returned (.int .i64 (wrap64 (a + b))) ∧ w = w' := by
  have e : IntKind.i64.wrap (IntKind.u64.wrap (IntKind.u64.wrap a + IntKind.u64.wrap b)) = wrap64 (a + b) := by
    rw [IntKind.wrap_i64, IntKind.wrap_u64, IntKind.wrap_u64, IntKind.wrap_u64]; unfold wrap64; omega
  go_enter Tryd.func11, Tryd.ntmps11
  go_wp2
  go_ret
  exact ⟨rfl, rfl⟩
set_option maxHeartbeats 400000 in
theorem shlR_any (a n : Int) (w : World) :
    Calls Tryd.prog 21 #[.int .i64 a, .int .i64 n] w fun e w' => e = .returned (.int .i64 (up a (n % 64).toNat)) ∧ w = w' := by
  have e1 : (IntKind.u64.wrap n).tmod 64 = n % 64 := u64mod64 n
  obtain ⟨m, hm⟩ : ∃ m : Nat, (n % 64) = (m : Int) := ⟨(n % 64).toNat, by omega⟩
  have hlt : m < 64 := by omega
  rw [hm] at e1
  rw [hm]
  clear hm
  go_enter Tryd.func21, Tryd.ntmps21
  go_wp2
  go_loop [0, 5] (fun x i => ∃ k j : Nat, k + j = m ∧ i = .int .u64 j ∧ x = .int .i64 (up a k)) (fun _ i => (intOf i).toNat)
  case atStart => exact ⟨0, m, Nat.zero_add _, rfl, rfl⟩
  case round =>
    obtain ⟨k, j, hk, rfl, rfl⟩ := hrel
    by_cases hkm : 0 < j
    · have hk' : (0 : Int) < (j : Int) := by omega
      go_wp2_with (go_at_call 11; refine (addR_any _ _ _).mono ?_; rintro e w' ⟨rfl, rfl⟩)
      go_round
      case rel => exact ⟨k + 1, j - 1, by omega, by go_num, by rw [up, show up a k * 2 = up a k + up a k by omega]⟩
      case measure => simp [intOf]; omega
    · have hk' : ¬ (0 : Int) < (j : Int) := by omega
      go_wp2
      obtain rfl : k = m := by omega
      go_ret
      exact ⟨rfl, rfl⟩
set_option maxHeartbeats 400000 in
theorem shrR_any (a n : Int) (w : World) (ha : In64 a) :
    Calls Tryd.prog 23 #[.int .i64 a, .int .i64 n] w fun e w' => e = .returned (.int .i64 (dn a (n % 64).toNat)) ∧ w = w' := by
  have e1 : (IntKind.u64.wrap n).tmod 64 = n % 64 := u64mod64 n
  obtain ⟨m, hm⟩ : ∃ m : Nat, (n % 64) = (m : Int) := ⟨(n % 64).toNat, by omega⟩
  have hlt : m < 64 := by omega
  rw [hm] at e1
  rw [hm]
  clear hm
  go_enter Tryd.func23, Tryd.ntmps23
  go_wp2
  go_loop [0, 5] (fun x i => ∃ k j : Nat, k + j = m ∧ i = .int .u64 j ∧ x = .int .i64 (dn a k)) (fun _ i => (intOf i).toNat)
  case atStart => exact ⟨0, m, Nat.zero_add _, rfl, rfl⟩
  case round =>
    obtain ⟨k, j, hk, rfl, rfl⟩ := hrel
    have hd := dn_in ha k
    unfold In64 at hd
    have h2 : dn a (k + 1) = dn a k / 2 := rfl
    have H2 : Hid _ := h2
    clear h2
    have e2 := and1 (dn a k)
    by_cases hkm : 0 < j
    · have hk' : (0 : Int) < (j : Int) := by omega
      go_wp2
      go_round
      case rel => exact ⟨k + 1, j - 1, by omega, by go_num, by rw [H2.out, half]⟩
      case measure => simp [intOf]; omega
    · have hk' : ¬ (0 : Int) < (j : Int) := by omega
      go_wp2
      obtain rfl : k = m := by omega
      go_ret
      exact ⟨rfl, rfl⟩
end Go.Proofs.YtcaecfmjnboamaaDoor
