/-
  The statement NumBack: its function comes to true at every two numbers of 64 bits.
-/
import Derived.Test.YtcaecfmjnboamaaDoorBase
namespace Go.Proofs.YtcaecfmjnboamaaDoor
open Go.RowKit
theorem back_add {a : Int} (b : Int) (h : In64 a) : wrap64 (wrap64 (a + b) - b) = a := by unfold In64 at h; unfold wrap64; omega
theorem wrap64_self {a : Int} (h : In64 a) : wrap64 a = a := by unfold In64 at h; unfold wrap64; omega
theorem wrap64_mul (x y : Int) : wrap64 (wrap64 x * y) = wrap64 (x * y) := by
  have e : wrap64 x = x - 18446744073709551616 * ((x + 9223372036854775808) / 18446744073709551616) := by unfold wrap64; omega
  rw [e, Int.sub_mul, Int.mul_assoc]
  unfold wrap64
  omega
theorem wrap64_add (x y : Int) : wrap64 (wrap64 x + y) = wrap64 (x + y) := by unfold wrap64; omega
theorem back_div {a b : Int} (ha : In64 a) (hb : ¬ b = 0) : wrap64 (wrap64 (dv a b * b) + md a b) = a := by
  rw [dv, md, if_neg hb, if_neg hb, wrap64_mul, wrap64_add, Int.mul_comm, Int.mul_tdiv_add_tmod, wrap64_self ha]
theorem md_sign (a b : Int) : md a b = 0 ∨ decide (md a b < 0) = decide (a < 0) := by
  unfold md
  split
  · exact .inl rfl
  · by_cases ha : 0 ≤ a
    · have := Int.tmod_nonneg b ha
      right; simp; omega
    · have h1 := Int.tmod_nonneg b (show 0 ≤ -a by omega)
      rw [Int.neg_tmod] at h1
      by_cases h0 : a.tmod b = 0
      · exact .inl h0
      · right; simp; omega
set_option maxHeartbeats 1000000 in
theorem numBack_walk (a b : Int) (w : World) (ha : In64 a) (ht : Tab w) :
    Calls Tryd.prog 7 #[.int .i64 a, .int .i64 b] w fun e w' => e = .returned (.bool true) ∧ Below w.heap.size w w' := by
  have q1 : (wrap64 (wrap64 (a + b) - b) == a) = true := by rw [back_add b ha]; simp
  by_cases hb : b = 0
  · subst hb
    clear q1
    have q0 : (wrap64 (wrap64 a) == a) = true := by rw [wrap64_self ha, wrap64_self ha]; simp
    have d0 : dv a 0 = 0 := rfl
    have m0 : md a 0 = 0 := rfl
    go_enter Tryd.func7, Tryd.ntmps7
    go_wp2_with (first | (go_at_call 16; refine (div_any _ _ _).mono ?_; rintro e w' ⟨rfl, rfl⟩) | (go_at_call 18; refine (mod_any _ _ _).mono ?_; rintro e w' ⟨rfl, rfl⟩) | (go_at_call 9; refine (live_any _ ht).mono ?_; rintro e w1 ⟨rfl, hb1⟩) | go_in)
    go_ret
    exact ⟨rfl, hb1⟩
  · have qb : (b == 0) = false := by simpa using hb
    have q2 : (wrap64 (wrap64 (dv a b * b) + md a b) == a) = true := by rw [back_div ha hb]; simp
    by_cases hm : md a b = 0
    · have q3 : (md a b == 0) = true := by simpa using hm
      clear hm
      go_enter Tryd.func7, Tryd.ntmps7
      go_wp2_with (first | (go_at_call 16; refine (div_any _ _ _).mono ?_; rintro e w' ⟨rfl, rfl⟩) | (go_at_call 18; refine (mod_any _ _ _).mono ?_; rintro e w' ⟨rfl, rfl⟩) | (go_at_call 9; refine (live_any _ ht).mono ?_; rintro e w1 ⟨rfl, hb1⟩) | go_in)
      go_ret
      exact ⟨rfl, hb1⟩
    · have q3 : (md a b == 0) = false := by simpa using hm
      have hs : decide (md a b < 0) = decide (a < 0) := (md_sign a b).resolve_left hm
      clear hm
      have hq : (decide (md a b < 0) == decide (a < 0)) = true := by rw [hs]; simp
      clear hs
      go_enter Tryd.func7, Tryd.ntmps7
      go_wp2_with (first | (go_at_call 16; refine (div_any _ _ _).mono ?_; rintro e w' ⟨rfl, rfl⟩) | (go_at_call 18; refine (mod_any _ _ _).mono ?_; rintro e w' ⟨rfl, rfl⟩) | (go_at_call 9; refine (live_any _ ht).mono ?_; rintro e w1 ⟨rfl, hb1⟩) | go_in)
      go_ret
      exact ⟨rfl, hb1⟩
end Go.Proofs.YtcaecfmjnboamaaDoor
