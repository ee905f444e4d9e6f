/-
  Plain facts on numbers of 64 bits that go round.
-/
import Derived.WalkKit
import Derived.Laws.Bits128
namespace Go.Proofs.YtcaecfmjnboamacDoor
open Go.RowKit
theorem and63 (n : Int) : bits .and .i64 n 63 = n % 64 := by
  have h63 : (BitVec.ofInt 64 63).toNat = 2 ^ 6 - 1 := by decide
  have key : (BitVec.ofInt 64 n &&& BitVec.ofInt 64 63).toNat = (n % ((2 ^ 64 : Nat) : Int)).toNat % 2 ^ 6 := by
    rw [BitVec.toNat_and, BitVec.toNat_ofInt, h63, Nat.and_two_pow_sub_one_eq_mod]
  show IntKind.i64.wrap ((BitVec.ofInt 64 n &&& BitVec.ofInt 64 63).toNat : Nat) = n % 64
  rw [key, IntKind.wrap_i64]
  omega
theorem and1 (n : Int) : bits .and .i64 n 1 = n % 2 := by
  have h1 : (BitVec.ofInt 64 1).toNat = 2 ^ 1 - 1 := by decide
  have key : (BitVec.ofInt 64 n &&& BitVec.ofInt 64 1).toNat = (n % ((2 ^ 64 : Nat) : Int)).toNat % 2 ^ 1 := by
    rw [BitVec.toNat_and, BitVec.toNat_ofInt, h1, Nat.and_two_pow_sub_one_eq_mod]
  show IntKind.i64.wrap ((BitVec.ofInt 64 n &&& BitVec.ofInt 64 1).toNat : Nat) = n % 2
  rw [key, IntKind.wrap_i64]
  omega
/-- Bits moved up k times by one. -/
def up (a : Int) : Nat → Int
  | 0 => a
  | k + 1 => wrap64 (up a k * 2)
/-- Bits moved down k times by one. -/
def dn (a : Int) : Nat → Int
  | 0 => a
  | k + 1 => dn a k / 2
def In64 (a : Int) : Prop := -9223372036854775808 ≤ a ∧ a ≤ 9223372036854775807
theorem wrap64_in (n : Int) : In64 (wrap64 n) := by unfold In64 wrap64; omega
theorem up_in {a : Int} (h : In64 a) : ∀ k, In64 (up a k)
  | 0 => h
  | _ + 1 => wrap64_in _
theorem dn_in {a : Int} (h : In64 a) : ∀ k, In64 (dn a k)
  | 0 => h
  | k + 1 => by have := dn_in h k; unfold In64 at *; show _ ≤ dn a k / 2 ∧ dn a k / 2 ≤ _; omega
theorem up_eq {a : Int} (h : In64 a) : ∀ k, up a k = wrap64 (a * 2 ^ k)
  | 0 => by unfold In64 at h; simp [up]; unfold wrap64; omega
  | k + 1 => by
    show wrap64 (up a k * 2) = _
    rw [up_eq h k, Int.pow_succ, ← Int.mul_assoc]
    unfold wrap64
    omega
theorem dn_eq (a : Int) : ∀ k, dn a k = a / 2 ^ k
  | 0 => by simp [dn]
  | k + 1 => by
    show dn a k / 2 = _
    rw [dn_eq a k, Int.pow_succ, Int.ediv_ediv_of_nonneg (Int.pow_nonneg (by decide))]
end Go.Proofs.YtcaecfmjnboamacDoor
