/-
  The statement NumReckons: its function comes to true at every two numbers of 64 bits.
-/
import Derived.Test.YtcaecfmjnboamaaDoorBack
namespace Go.Proofs.YtcaecfmjnboamaaDoor
open Go.RowKit
theorem subR_any (a b : Int) (w : World) :
    Calls Tryd.prog 13 #[.int .i64 a, .int .i64 b] w fun e w' => e = .returned (.int .i64 (wrap64 (a - b))) ∧ w = w' := by
  have e : IntKind.i64.wrap (IntKind.u64.wrap (IntKind.u64.wrap a - IntKind.u64.wrap b)) = wrap64 (a - b) := by
    rw [IntKind.wrap_i64, IntKind.wrap_u64, IntKind.wrap_u64, IntKind.wrap_u64]; unfold wrap64; omega
  go_enter Tryd.func13, Tryd.ntmps13
  go_wp2
  go_ret
  exact ⟨rfl, rfl⟩
theorem mulR_eq (a b : Int) : IntKind.i64.wrap (IntKind.u64.wrap (IntKind.u64.wrap a * IntKind.u64.wrap b)) = wrap64 (a * b) := by
  rw [IntKind.wrap_i64, IntKind.wrap_u64, IntKind.wrap_u64, IntKind.wrap_u64]
  have ea : a % 18446744073709551616 = a - 18446744073709551616 * (a / 18446744073709551616) := by omega
  have eb : b % 18446744073709551616 = b - 18446744073709551616 * (b / 18446744073709551616) := by omega
  rw [ea, eb]
  generalize a / 18446744073709551616 = p
  generalize b / 18446744073709551616 = q
  have e : (a - 18446744073709551616 * p) * (b - 18446744073709551616 * q) = a * b - 18446744073709551616 * (p * b + a * q - 18446744073709551616 * (p * q)) := by
    simp only [Int.sub_mul, Int.mul_sub, Int.mul_add, Int.mul_assoc]
    rw [Int.mul_left_comm a 18446744073709551616 q, Int.mul_left_comm p 18446744073709551616 q]
    omega
  rw [e]
  generalize p * b + a * q - 18446744073709551616 * (p * q) = r
  unfold wrap64
  omega
theorem mulR_any (a b : Int) (w : World) :
    Calls Tryd.prog 15 #[.int .i64 a, .int .i64 b] w fun e w' => e = .returned (.int .i64 (wrap64 (a * b))) ∧ w = w' := by
  have e := mulR_eq a b
  go_enter Tryd.func15, Tryd.ntmps15
  go_wp2
  go_ret
  exact ⟨rfl, rfl⟩
theorem divR_any (a b : Int) (w : World) :
    Calls Tryd.prog 17 #[.int .i64 a, .int .i64 b] w fun e w' => e = .returned (.int .i64 (dv a b)) ∧ w = w' := by
  unfold dv
  by_cases hb : b = 0
  · subst hb
    go_enter Tryd.func17, Tryd.ntmps17
    go_wp2
    go_ret
    exact ⟨rfl, rfl⟩
  · have hq : (b == 0) = false := by simpa using hb
    rw [if_neg hb]
    by_cases h1 : b = -1
    · subst h1
      have e : a.tdiv (-1) = -a := by rw [Int.tdiv_neg, Int.tdiv_one]
      rw [e]
      go_enter Tryd.func17, Tryd.ntmps17
      go_wp2_with (go_at_call 13; refine (subR_any _ _ _).mono ?_; rintro e w' ⟨rfl, rfl⟩)
      go_ret
      exact ⟨rfl, rfl⟩
    · have hq1 : (b == -1) = false := by simpa using h1
      go_enter Tryd.func17, Tryd.ntmps17
      go_wp2
      go_ret
      exact ⟨rfl, rfl⟩
theorem tmod_in {a : Int} (b : Int) (h : In64 a) : In64 (a.tmod b) := by
  have h1 : (a.tmod b).natAbs ≤ a.natAbs := by rw [Int.natAbs_tmod]; exact Nat.mod_le _ _
  have h2 : 0 ≤ a → 0 ≤ a.tmod b := fun h => Int.tmod_nonneg b h
  have h3 : a < 0 → a.tmod b ≤ 0 := fun h => by
    have := Int.tmod_nonneg b (show 0 ≤ -a by omega)
    rw [Int.neg_tmod] at this
    omega
  unfold In64 at *
  omega
theorem modR_eq {a b : Int} (ha : In64 a) (hb : ¬ b = 0) : wrap64 (a - wrap64 (b * dv a b)) = a.tmod b := by
  rw [dv, if_neg hb, Int.mul_comm, wrap64_mul, Int.mul_comm]
  have e : a - b * a.tdiv b = a.tmod b := by have := Int.mul_tdiv_add_tmod a b; omega
  have e2 : wrap64 (a - wrap64 (b * a.tdiv b)) = wrap64 (a - b * a.tdiv b) := by unfold wrap64; omega
  rw [e2, e, wrap64_self (tmod_in b ha)]
theorem modR_any (a b : Int) (w : World) (ha : In64 a) :
    Calls Tryd.prog 19 #[.int .i64 a, .int .i64 b] w fun e w' => e = .returned (.int .i64 (md a b)) ∧ w = w' := by
  unfold md
  by_cases hb : b = 0
  · subst hb
    go_enter Tryd.func19, Tryd.ntmps19
    go_wp2
    go_ret
    exact ⟨rfl, rfl⟩
  · have hq : (b == 0) = false := by simpa using hb
    rw [if_neg hb]
    have e := modR_eq ha hb
    go_enter Tryd.func19, Tryd.ntmps19
    go_wp2_with (first | (go_at_call 13; refine (subR_any _ _ _).mono ?_; rintro e w' ⟨rfl, rfl⟩) | (go_at_call 15; refine (mulR_any _ _ _).mono ?_; rintro e w' ⟨rfl, rfl⟩) | (go_at_call 17; refine (divR_any _ _ _).mono ?_; rintro e w' ⟨rfl, rfl⟩))
    go_ret
    exact ⟨rfl, rfl⟩
set_option maxHeartbeats 1000000 in
theorem numReckons_walk (a b : Int) (w : World) (ha : In64 a) (ht : Tab w) :
    Calls Tryd.prog 3 #[.int .i64 a, .int .i64 b] w fun e w' => e = .returned (.bool true) ∧ Below w.heap.size w w' := by
  go_enter Tryd.func3, Tryd.ntmps3
  go_wp2_with (first | (go_at_call 9; refine (live_any _ ht).mono ?_; rintro e w1 ⟨rfl, hb1⟩) | (go_at_call 11; refine (addR_any _ _ _).mono ?_; rintro e w' ⟨rfl, rfl⟩) | (go_at_call 13; refine (subR_any _ _ _).mono ?_; rintro e w' ⟨rfl, rfl⟩) | (go_at_call 15; refine (mulR_any _ _ _).mono ?_; rintro e w' ⟨rfl, rfl⟩) | (go_at_call 17; refine (divR_any _ _ _).mono ?_; rintro e w' ⟨rfl, rfl⟩) | (go_at_call 16; refine (div_any _ _ _).mono ?_; rintro e w' ⟨rfl, rfl⟩) | (go_at_call 18; refine (mod_any _ _ _).mono ?_; rintro e w' ⟨rfl, rfl⟩) | (go_at_call 19; refine (modR_any _ _ _ ha).mono ?_; rintro e w' ⟨rfl, rfl⟩) | go_in)
  go_ret
  exact ⟨rfl, hb1⟩
end Go.Proofs.YtcaecfmjnboamaaDoor
