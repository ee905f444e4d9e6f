/-
  The statement NumBits: its function comes to true at every two numbers of 64 bits.
-/
import Derived.Test.YtcaecfmjnboamaaDoorBack
namespace Go.Proofs.YtcaecfmjnboamaaDoor
open Go.RowKit
theorem nar8 {a : Int} (h : In64 a) : nar 8 a = if 128 ≤ a % 256 then a % 256 - 256 else a % 256 := by
  have e : nar 8 a = dn (up a 56) 56 := rfl
  rw [e, dn_eq, up_eq h]
  unfold wrap64
  split <;> omega
theorem nar16 {a : Int} (h : In64 a) : nar 16 a = if 32768 ≤ a % 65536 then a % 65536 - 65536 else a % 65536 := by
  have e : nar 16 a = dn (up a 48) 48 := rfl
  rw [e, dn_eq, up_eq h]
  unfold wrap64
  split <;> omega
theorem nar32 {a : Int} (h : In64 a) : nar 32 a = if 2147483648 ≤ a % 4294967296 then a % 4294967296 - 4294967296 else a % 4294967296 := by
  have e : nar 32 a = dn (up a 32) 32 := rfl
  rw [e, dn_eq, up_eq h]
  unfold wrap64
  split <;> omega
theorem umod (a : Int) (m : Int) (h : 18446744073709551616 % m = 0) : (IntKind.u64.wrap a).tmod m = a % m := by
  rw [IntKind.wrap_u64, Int.tmod_eq_emod_of_nonneg (by omega), Int.emod_emod_of_dvd _ (Int.dvd_of_emod_eq_zero h)]
set_option maxHeartbeats 1000000 in
theorem narrowR8 (a : Int) (w : World) (ha : In64 a) :
    Calls Tryd.prog 25 #[.int .i64 8, .int .i64 a] w fun e w' => e = .returned (.int .i64 (nar 8 a)) ∧ w = w' := by
  have hu := umod a 256 (by decide)
  have hl0 : 0 ≤ a % 256 := by omega
  have hl1 : a % 256 < 256 := by omega
  have hn := nar8 ha
  obtain ⟨l, hl⟩ : ∃ l, l = a % 256 := ⟨_, rfl⟩
  rw [← hl] at hu hl0 hl1 hn
  clear hl
  by_cases hc : 128 ≤ l
  all_goals
    first | rw [if_pos hc] at hn | rw [if_neg hc] at hn
    rw [hn]
    clear hn
    go_enter Tryd.func25, Tryd.ntmps25
    go_wp2
    go_loop [5, 6] (fun x i => ∃ k : Nat, k ≤ 8 ∧ i = .int .i64 k ∧ x = .int .u64 ((2 ^ k : Nat) : Int)) (fun _ i => 8 - (intOf i).toNat)
    case atStart => exact ⟨0, by omega, rfl, rfl⟩
    case round =>
      obtain ⟨k, hk, rfl, rfl⟩ := hrel
      by_cases hk8 : k < 8
      · have hp : IntKind.u64.wrap (((2 ^ k : Nat) : Int) * 2) = ((2 ^ (k + 1) : Nat) : Int) := by
          have h1 : 2 ^ (k + 1) ≤ 2 ^ 8 := Nat.pow_le_pow_right (by decide) (by omega)
          rw [IntKind.wrap_u64, Nat.pow_succ] at *
          omega
        obtain ⟨p, hpp⟩ : ∃ p : Int, p = ((2 ^ k : Nat) : Int) := ⟨_, rfl⟩
        rw [← hpp] at hp ⊢
        clear hpp
        go_wp2
        go_round
        case rel => exact ⟨k + 1, by omega, by go_num, rfl⟩
        case measure => simp [intOf]; omega
      · obtain rfl : k = 8 := by omega
        go_wp2
        go_ret
        exact ⟨rfl, rfl⟩
set_option maxHeartbeats 1000000 in
theorem narrowR16 (a : Int) (w : World) (ha : In64 a) :
    Calls Tryd.prog 25 #[.int .i64 16, .int .i64 a] w fun e w' => e = .returned (.int .i64 (nar 16 a)) ∧ w = w' := by
  have hu := umod a 65536 (by decide)
  have hl0 : 0 ≤ a % 65536 := by omega
  have hl1 : a % 65536 < 65536 := by omega
  have hn := nar16 ha
  obtain ⟨l, hl⟩ : ∃ l, l = a % 65536 := ⟨_, rfl⟩
  rw [← hl] at hu hl0 hl1 hn
  clear hl
  by_cases hc : 32768 ≤ l
  all_goals
    first | rw [if_pos hc] at hn | rw [if_neg hc] at hn
    rw [hn]
    clear hn
    go_enter Tryd.func25, Tryd.ntmps25
    go_wp2
    go_loop [5, 6] (fun x i => ∃ k : Nat, k ≤ 16 ∧ i = .int .i64 k ∧ x = .int .u64 ((2 ^ k : Nat) : Int)) (fun _ i => 16 - (intOf i).toNat)
    case atStart => exact ⟨0, by omega, rfl, rfl⟩
    case round =>
      obtain ⟨k, hk, rfl, rfl⟩ := hrel
      by_cases hk8 : k < 16
      · have hp : IntKind.u64.wrap (((2 ^ k : Nat) : Int) * 2) = ((2 ^ (k + 1) : Nat) : Int) := by
          have h1 : 2 ^ (k + 1) ≤ 2 ^ 16 := Nat.pow_le_pow_right (by decide) (by omega)
          rw [IntKind.wrap_u64, Nat.pow_succ] at *
          omega
        obtain ⟨p, hpp⟩ : ∃ p : Int, p = ((2 ^ k : Nat) : Int) := ⟨_, rfl⟩
        rw [← hpp] at hp ⊢
        clear hpp
        go_wp2
        go_round
        case rel => exact ⟨k + 1, by omega, by go_num, rfl⟩
        case measure => simp [intOf]; omega
      · obtain rfl : k = 16 := by omega
        go_wp2
        go_ret
        exact ⟨rfl, rfl⟩
set_option maxHeartbeats 1000000 in
theorem narrowR32 (a : Int) (w : World) (ha : In64 a) :
    Calls Tryd.prog 25 #[.int .i64 32, .int .i64 a] w fun e w' => e = .returned (.int .i64 (nar 32 a)) ∧ w = w' := by
  have hu := umod a 4294967296 (by decide)
  have hl0 : 0 ≤ a % 4294967296 := by omega
  have hl1 : a % 4294967296 < 4294967296 := by omega
  have hn := nar32 ha
  obtain ⟨l, hl⟩ : ∃ l, l = a % 4294967296 := ⟨_, rfl⟩
  rw [← hl] at hu hl0 hl1 hn
  clear hl
  by_cases hc : 2147483648 ≤ l
  all_goals
    first | rw [if_pos hc] at hn | rw [if_neg hc] at hn
    rw [hn]
    clear hn
    go_enter Tryd.func25, Tryd.ntmps25
    go_wp2
    go_loop [5, 6] (fun x i => ∃ k : Nat, k ≤ 32 ∧ i = .int .i64 k ∧ x = .int .u64 ((2 ^ k : Nat) : Int)) (fun _ i => 32 - (intOf i).toNat)
    case atStart => exact ⟨0, by omega, rfl, rfl⟩
    case round =>
      obtain ⟨k, hk, rfl, rfl⟩ := hrel
      by_cases hk8 : k < 32
      · have hp : IntKind.u64.wrap (((2 ^ k : Nat) : Int) * 2) = ((2 ^ (k + 1) : Nat) : Int) := by
          have h1 : 2 ^ (k + 1) ≤ 2 ^ 32 := Nat.pow_le_pow_right (by decide) (by omega)
          rw [IntKind.wrap_u64, Nat.pow_succ] at *
          omega
        obtain ⟨p, hpp⟩ : ∃ p : Int, p = ((2 ^ k : Nat) : Int) := ⟨_, rfl⟩
        rw [← hpp] at hp ⊢
        clear hpp
        go_wp2
        go_round
        case rel => exact ⟨k + 1, by omega, by go_num, rfl⟩
        case measure => simp [intOf]; omega
      · obtain rfl : k = 32 := by omega
        go_wp2
        go_ret
        exact ⟨rfl, rfl⟩
theorem narrowR_any (k a : Int) (w : World) (ha : In64 a) :
    Calls Tryd.prog 25 #[.int .i64 k, .int .i64 a] w fun e w' => e = .returned (.int .i64 (nar k a)) ∧ w = w' := by
  by_cases h8 : k = 8
  · subst h8; exact narrowR8 a w ha
  by_cases h16 : k = 16
  · subst h16; exact narrowR16 a w ha
  by_cases h32 : k = 32
  · subst h32; exact narrowR32 a w ha
  have e : nar k a = a := if_neg (by omega)
  rw [e]
  clear e
  have h1 : (k != 8) = true := by simpa using h8
  have h2 : (k != 16) = true := by simpa using h16
  have h3 : (k != 32) = true := by simpa using h32
  go_enter Tryd.func25, Tryd.ntmps25
  go_wp2
  go_ret
  exact ⟨rfl, rfl⟩
set_option maxHeartbeats 1000000 in
theorem numBits_walk (a b : Int) (w : World) (ha : In64 a) (hb : In64 b) (ht : Tab w) :
    Calls Tryd.prog 4 #[.int .i64 a, .int .i64 b] w fun e w' => e = .returned (.bool true) ∧ Below w.heap.size w w' := by
  go_enter Tryd.func4, Tryd.ntmps4
  go_wp2_with (first | (go_at_call 9; refine (live_any _ ht).mono ?_; rintro e w1 ⟨rfl, hb1⟩) | (go_at_call 20; refine (shl_any _ _ _).mono ?_; rintro e w' ⟨rfl, rfl⟩) | (go_at_call 21; refine (shlR_any _ _ _).mono ?_; rintro e w' ⟨rfl, rfl⟩) | (go_at_call 22; refine (shr_any _ _ _).mono ?_; rintro e w' ⟨rfl, rfl⟩) | (go_at_call 23; refine (shrR_any _ _ _ ha).mono ?_; rintro e w' ⟨rfl, rfl⟩) | (go_at_call 24; refine (narrow_any _ _ _).mono ?_; rintro e w' ⟨rfl, rfl⟩) | (go_at_call 25; refine (narrowR_any _ _ _ hb).mono ?_; rintro e w' ⟨rfl, rfl⟩))
  go_ret
  exact ⟨rfl, hb1⟩
end Go.Proofs.YtcaecfmjnboamaaDoor
