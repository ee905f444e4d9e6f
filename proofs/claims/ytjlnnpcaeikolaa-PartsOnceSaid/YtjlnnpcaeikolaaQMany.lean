/-
  The calls of perm.fits and of the two Many: what they come to.
-/
import Derived.Test.YtjlnnpcaeikolaaQMath
import Derived.Test.YtjlnnpcaeikolaaChecked
import Derived.WalkKit
import Derived.WalkSpells
import Derived.WalkLawsBesides
namespace Go.Proofs.Ytjlnnpcaeikolaa.Perm
open Go.RowKit
theorem wrap_fac {k : Nat} (h : k < 16) : IntKind.u64.wrap ((fac k : Int) * ((k : Int) + 1)) = (fac (k + 1) : Int) := by
  have e : (fac k : Int) * ((k : Int) + 1) = ((fac (k + 1) : Nat) : Int) := by
    show _ = (((k + 1) * fac k : Nat) : Int)
    rw [Nat.mul_comm]; simp
  have b := fac_le (k + 1) (by omega)
  rw [e, IntKind.wrap_u64]; omega

theorem fits_any (n : Int) (w : World) (h0 : 0 ≤ n) (h1 : n ≤ 16) :
    Calls Try.prog 38 #[.int .i64 n] w fun e w' => e = .returned (.bool true) ∧ w = w' := by
  go_enter Try.func38, Try.ntmps38
  go_wp2
  go_ret
  exact ⟨rfl, rfl⟩
theorem fits_not (n : Int) (w : World) (h : n < 0 ∨ 16 < n) :
    Calls Try.prog 38 #[.int .i64 n] w fun e w' => e = .returned (.bool false) ∧ w = w' := by
  rcases h with h | h
  · go_enter Try.func38, Try.ntmps38
    go_wp2
    go_ret
    exact ⟨rfl, rfl⟩
  · have h0 : 0 ≤ n := by omega
    have hd : decide (n ≤ 16) = false := by simp; omega
    go_enter Try.func38, Try.ntmps38
    go_wp2
    go_ret
    exact ⟨rfl, rfl⟩
theorem many_out (n : Int) (w : World) (h : n < 0 ∨ 16 < n) :
    Calls Try.prog 39 #[.int .i64 n] w fun e w' => e = .returned (.int .u64 0) ∧ w = w' := by
  go_enter Try.func39, Try.ntmps39
  go_wp2_with (go_at_call 38; refine (fits_not _ _ h).mono ?_; rintro e w' ⟨rfl, rfl⟩)
  go_ret
  exact ⟨rfl, rfl⟩
set_option maxHeartbeats 400000 in
theorem many_in (n : Nat) (w : World) (h : n ≤ 16) :
    Calls Try.prog 39 #[.int .i64 n] w fun e w' => e = .returned (.int .u64 (fac n)) ∧ w = w' := by
  go_enter Try.func39, Try.ntmps39
  go_wp2_with (go_at_call 38; refine (fits_any _ _ (by omega) (by omega)).mono ?_; rintro e w' ⟨rfl, rfl⟩)
  go_loop [3, 9] (fun m i => ∃ k : Nat, k ≤ n ∧ i = .int .i64 k ∧ m = .int .u64 (fac k)) (fun _ i => n - (intOf i).toNat)
  case atStart => exact ⟨0, Nat.zero_le _, rfl, rfl⟩
  case round =>
    obtain ⟨k, hk, rfl, rfl⟩ := hrel
    by_cases hlt : k < n
    · have hb := fac_le k (by omega)
      have hs := fac_le (k + 1) (by omega)
      go_wp2
      go_round
      case rel => exact ⟨k + 1, by omega, by go_num, by rw [wrap_fac (by omega)]⟩
      case measure => simp [intOf]; omega
    · go_wp2
      obtain rfl : k = n := by omega
      go_ret
      exact ⟨rfl, rfl⟩
theorem manyR_out (n : Int) (w : World) (h : n < 0 ∨ 16 < n) :
    Calls Try.prog 41 #[.int .i64 n] w fun e w' => e = .returned (.int .u64 0) ∧ w = w' := by
  rcases h with h | h
  · go_enter Try.func41, Try.ntmps41
    go_wp2
    go_ret
    exact ⟨rfl, rfl⟩
  · have h0 : 0 ≤ n := by omega
    go_enter Try.func41, Try.ntmps41
    go_wp2
    go_ret
    exact ⟨rfl, rfl⟩
set_option maxHeartbeats 400000 in
theorem manyR_in (n : Nat) (w : World) (h : n ≤ 16) :
    Calls Try.prog 41 #[.int .i64 n] w fun e w' => e = .returned (.int .u64 (fac n)) ∧ w = w' := by
  go_enter Try.func41, Try.ntmps41
  go_wp2
  go_loop [3, 4] (fun m i => ∃ j : Nat, (j + 1 ≤ n ∨ j = 0) ∧ i = .int .i64 ((j : Int) + 2) ∧ m = .int .u64 (fac (j + 1))) (fun _ i => n + 1 - (intOf i).toNat)
  case atStart => exact ⟨0, Or.inr rfl, rfl, rfl⟩
  case round =>
    obtain ⟨j, hj, rfl, rfl⟩ := hrel
    by_cases hlt : j + 2 ≤ n
    · have hlt' : (j : Int) + 2 ≤ (n : Int) := by omega
      have hw : IntKind.u64.wrap ((fac (j + 1) : Int) * ((j : Int) + 2)) = (fac (j + 1 + 1) : Int) := by
        have := wrap_fac (k := j + 1) (by omega)
        rw [← this, show ((j + 1 : Nat) : Int) + 1 = (j : Int) + 2 by omega]
      go_wp2
      go_round
      case rel => exact ⟨j + 1, by omega, by go_num, rfl⟩
      case measure => simp [intOf]; omega
    · have hge : ¬ (j : Int) + 2 ≤ (n : Int) := by omega
      have e : fac (j + 1) = fac n := by
        rcases hj with hj | rfl
        · rw [show n = j + 1 by omega]
        · rcases (show n = 0 ∨ n = 1 by omega) with rfl | rfl <;> rfl
      go_wp2
      go_ret
      exact ⟨rfl, rfl⟩
end Go.Proofs.Ytjlnnpcaeikolaa.Perm
