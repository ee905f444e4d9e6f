/-
  The calls of both Bytes and of both Join: what they come to.
-/
import Derived.Test.YtcaecfmjnboamaaDoorBack
namespace Go.Proofs.YtcaecfmjnboamaaDoor
open Go.RowKit
/-- The bytes of a number, the highest first. -/
def by8 (a : Int) : Array Value := #[.int .u8 (a / 256 / 256 / 256 / 256 / 256 / 256 / 256 % 256), .int .u8 (a / 256 / 256 / 256 / 256 / 256 / 256 % 256), .int .u8 (a / 256 / 256 / 256 / 256 / 256 % 256), .int .u8 (a / 256 / 256 / 256 / 256 % 256), .int .u8 (a / 256 / 256 / 256 % 256), .int .u8 (a / 256 / 256 % 256), .int .u8 (a / 256 % 256), .int .u8 (a % 256)]
set_option maxHeartbeats 2000000 in
theorem bytes_any (a : Int) (w : World) :
    Calls Tryd.prog 38 #[.int .i64 a] w fun e w' => e = .returned (.agg (by8 a)) ∧ Below w.heap.size w w' := by
  go_enter Tryd.func38, Tryd.ntmps38
  go_wp2
  refine wp_loop_rounds 9 ?_
  rw [rounds_succ]
  go_wp2
  rw [rounds_succ]
  go_wp2
  rw [rounds_succ]
  go_wp2
  rw [rounds_succ]
  go_wp2
  rw [rounds_succ]
  go_wp2
  rw [rounds_succ]
  go_wp2
  rw [rounds_succ]
  go_wp2
  rw [rounds_succ]
  go_wp2
  rw [rounds_succ]
  go_wp2
  exact bodyPost_ret (v := .agg #[.int .u8 (a / 256 / 256 / 256 / 256 / 256 / 256 / 256 % 256), .int .u8 (a / 256 / 256 / 256 / 256 / 256 / 256 % 256), .int .u8 (a / 256 / 256 / 256 / 256 / 256 % 256), .int .u8 (a / 256 / 256 / 256 / 256 % 256), .int .u8 (a / 256 / 256 / 256 % 256), .int .u8 (a / 256 / 256 % 256), .int .u8 (a / 256 % 256), .int .u8 (a % 256)]) (by simp [results, Tryd.results38, go_sem]) rfl ⟨rfl, ((Below.refl _ _).alloc (Nat.le_refl _) _).alloc (by simp) _⟩
theorem by8_wrap (a : Int) : by8 (IntKind.u64.wrap a) = by8 a := by
  unfold by8
  rw [IntKind.wrap_u64]
  rw [show a % 18446744073709551616 / 256 / 256 / 256 / 256 / 256 / 256 / 256 % 256 = a / 256 / 256 / 256 / 256 / 256 / 256 / 256 % 256 by omega]
  rw [show a % 18446744073709551616 / 256 / 256 / 256 / 256 / 256 / 256 % 256 = a / 256 / 256 / 256 / 256 / 256 / 256 % 256 by omega]
  rw [show a % 18446744073709551616 / 256 / 256 / 256 / 256 / 256 % 256 = a / 256 / 256 / 256 / 256 / 256 % 256 by omega]
  rw [show a % 18446744073709551616 / 256 / 256 / 256 / 256 % 256 = a / 256 / 256 / 256 / 256 % 256 by omega]
  rw [show a % 18446744073709551616 / 256 / 256 / 256 % 256 = a / 256 / 256 / 256 % 256 by omega]
  rw [show a % 18446744073709551616 / 256 / 256 % 256 = a / 256 / 256 % 256 by omega]
  rw [show a % 18446744073709551616 / 256 % 256 = a / 256 % 256 by omega]
  rw [show a % 18446744073709551616 % 256 = a % 256 by omega]
set_option maxHeartbeats 2000000 in
theorem bytesR_any (a : Int) (w : World) :
    Calls Tryd.prog 39 #[.int .i64 a] w fun e w' => e = .returned (.agg (by8 a)) ∧ Below w.heap.size w w' := by
  rw [← by8_wrap a]
  have hu0 : 0 ≤ IntKind.u64.wrap a := by rw [IntKind.wrap_u64]; omega
  have hu1 : IntKind.u64.wrap a ≤ 18446744073709551615 := by rw [IntKind.wrap_u64]; omega
  obtain ⟨u, hu⟩ : ∃ u, IntKind.u64.wrap a = u := ⟨_, rfl⟩
  rw [hu] at hu0 hu1 ⊢
  go_enter Tryd.func39, Tryd.ntmps39
  go_wp2
  refine wp_loop_rounds 9 ?_
  rw [rounds_succ]
  go_wp2
  rw [rounds_succ]
  go_wp2
  rw [rounds_succ]
  go_wp2
  rw [rounds_succ]
  go_wp2
  rw [rounds_succ]
  go_wp2
  rw [rounds_succ]
  go_wp2
  rw [rounds_succ]
  go_wp2
  rw [rounds_succ]
  go_wp2
  rw [rounds_succ]
  go_wp2
  exact bodyPost_ret (v := .agg #[.int .u8 (u / 256 / 256 / 256 / 256 / 256 / 256 / 256 % 256), .int .u8 (u / 256 / 256 / 256 / 256 / 256 / 256 % 256), .int .u8 (u / 256 / 256 / 256 / 256 / 256 % 256), .int .u8 (u / 256 / 256 / 256 / 256 % 256), .int .u8 (u / 256 / 256 / 256 % 256), .int .u8 (u / 256 / 256 % 256), .int .u8 (u / 256 % 256), .int .u8 (u % 256)]) (by simp [results, Tryd.results39, go_sem]) rfl ⟨rfl, ((Below.refl _ _).alloc (Nat.le_refl _) _).alloc (by simp) _⟩
/-- The number whose bytes these are. -/
def jn (b0 b1 b2 b3 b4 b5 b6 b7 : Int) : Int := wrap64 (b0 * 72057594037927936 + b1 * 281474976710656 + b2 * 1099511627776 + b3 * 4294967296 + b4 * 16777216 + b5 * 65536 + b6 * 256 + b7)
theorem or8 (x b : Int) (h : 0 ≤ b ∧ b ≤ 255) : bits .or .i64 (wrap64 (x * 256)) b = wrap64 (x * 256 + b) := by
  have key : (BitVec.ofInt 64 (wrap64 (x * 256)) ||| BitVec.ofInt 64 b).toNat = ((x * 256) % 18446744073709551616).toNat + b.toNat := by
    rw [BitVec.toNat_or, BitVec.toNat_ofInt, BitVec.toNat_ofInt]
    have e1 : (wrap64 (x * 256) % ((2 ^ 64 : Nat) : Int)).toNat = 2 ^ 8 * ((x * 256) % 18446744073709551616 / 256).toNat := by unfold wrap64; omega
    have e2 : (b % ((2 ^ 64 : Nat) : Int)).toNat = b.toNat := by omega
    rw [e1, e2, ← Nat.two_pow_add_eq_or_of_lt (by omega)]
    omega
  show IntKind.i64.wrap ((BitVec.ofInt 64 (wrap64 (x * 256)) ||| BitVec.ofInt 64 b).toNat : Nat) = wrap64 (x * 256 + b)
  rw [key, IntKind.wrap_i64]
  unfold wrap64
  omega
theorem or0 (b : Int) (h : 0 ≤ b ∧ b ≤ 255) : bits .or .i64 0 b = b := by
  have h1 := or8 0 b h
  rw [show wrap64 (0 * 256) = 0 by decide +kernel, Int.zero_mul, Int.zero_add] at h1
  rw [h1]; unfold wrap64; omega
theorem wrap_step (y b : Int) : wrap64 (wrap64 y * 256 + b) = wrap64 (y * 256 + b) := by unfold wrap64; omega
theorem join_eq (b0 b1 b2 b3 b4 b5 b6 b7 : Int) (h0 : 0 ≤ b0 ∧ b0 ≤ 255) (h1 : 0 ≤ b1 ∧ b1 ≤ 255) (h2 : 0 ≤ b2 ∧ b2 ≤ 255) (h3 : 0 ≤ b3 ∧ b3 ≤ 255) (h4 : 0 ≤ b4 ∧ b4 ≤ 255) (h5 : 0 ≤ b5 ∧ b5 ≤ 255) (h6 : 0 ≤ b6 ∧ b6 ≤ 255) (h7 : 0 ≤ b7 ∧ b7 ≤ 255) : (bits .or .i64 (wrap64 ((bits .or .i64 (wrap64 ((bits .or .i64 (wrap64 ((bits .or .i64 (wrap64 ((bits .or .i64 (wrap64 ((bits .or .i64 (wrap64 ((bits .or .i64 (wrap64 ((bits .or .i64 0 b0) * 256)) b1) * 256)) b2) * 256)) b3) * 256)) b4) * 256)) b5) * 256)) b6) * 256)) b7) = jn b0 b1 b2 b3 b4 b5 b6 b7 := by
  rw [or0 b0 h0, or8 _ b1 h1, or8 _ b2 h2, or8 _ b3 h3, or8 _ b4 h4, or8 _ b5 h5, or8 _ b6 h6, or8 _ b7 h7]
  rw [wrap_step (b0 * 256 + b1) b2, wrap_step ((b0 * 256 + b1) * 256 + b2) b3, wrap_step (((b0 * 256 + b1) * 256 + b2) * 256 + b3) b4, wrap_step ((((b0 * 256 + b1) * 256 + b2) * 256 + b3) * 256 + b4) b5, wrap_step (((((b0 * 256 + b1) * 256 + b2) * 256 + b3) * 256 + b4) * 256 + b5) b6, wrap_step ((((((b0 * 256 + b1) * 256 + b2) * 256 + b3) * 256 + b4) * 256 + b5) * 256 + b6) b7]
  unfold jn
  exact congrArg wrap64 (by omega)
set_option maxHeartbeats 2000000 in
theorem join_any (b0 b1 b2 b3 b4 b5 b6 b7 : Int) (h0 : 0 ≤ b0 ∧ b0 ≤ 255) (h1 : 0 ≤ b1 ∧ b1 ≤ 255) (h2 : 0 ≤ b2 ∧ b2 ≤ 255) (h3 : 0 ≤ b3 ∧ b3 ≤ 255) (h4 : 0 ≤ b4 ∧ b4 ≤ 255) (h5 : 0 ≤ b5 ∧ b5 ≤ 255) (h6 : 0 ≤ b6 ∧ b6 ≤ 255) (h7 : 0 ≤ b7 ∧ b7 ≤ 255) (w : World) :
    Calls Tryd.prog 40 #[.agg #[.int .u8 b0, .int .u8 b1, .int .u8 b2, .int .u8 b3, .int .u8 b4, .int .u8 b5, .int .u8 b6, .int .u8 b7]] w fun e w' => e = .returned (.int .i64 (jn b0 b1 b2 b3 b4 b5 b6 b7)) ∧ Below w.heap.size w w' := by
  have e := join_eq b0 b1 b2 b3 b4 b5 b6 b7 h0 h1 h2 h3 h4 h5 h6 h7
  have E : Hid _ := e
  clear e
  go_enter Tryd.func40, Tryd.ntmps40
  go_wp2
  refine wp_loop_rounds 9 ?_
  rw [rounds_succ]
  go_wp2
  rw [rounds_succ]
  go_wp2
  rw [rounds_succ]
  go_wp2
  rw [rounds_succ]
  go_wp2
  rw [rounds_succ]
  go_wp2
  rw [rounds_succ]
  go_wp2
  rw [rounds_succ]
  go_wp2
  rw [rounds_succ]
  go_wp2
  rw [rounds_succ]
  go_wp2
  go_ret
  exact ⟨congrArg (fun z => Ending.returned (Value.int .i64 z)) E.out, (Below.refl _ _).alloc (Nat.le_refl _) _⟩
set_option maxHeartbeats 2000000 in
theorem joinR_any (b0 b1 b2 b3 b4 b5 b6 b7 : Int) (h0 : 0 ≤ b0 ∧ b0 ≤ 255) (h1 : 0 ≤ b1 ∧ b1 ≤ 255) (h2 : 0 ≤ b2 ∧ b2 ≤ 255) (h3 : 0 ≤ b3 ∧ b3 ≤ 255) (h4 : 0 ≤ b4 ∧ b4 ≤ 255) (h5 : 0 ≤ b5 ∧ b5 ≤ 255) (h6 : 0 ≤ b6 ∧ b6 ≤ 255) (h7 : 0 ≤ b7 ∧ b7 ≤ 255) (w : World) :
    Calls Tryd.prog 41 #[.agg #[.int .u8 b0, .int .u8 b1, .int .u8 b2, .int .u8 b3, .int .u8 b4, .int .u8 b5, .int .u8 b6, .int .u8 b7]] w fun e w' => e = .returned (.int .i64 (jn b0 b1 b2 b3 b4 b5 b6 b7)) ∧ Below w.heap.size w w' := by
  go_enter Tryd.func41, Tryd.ntmps41
  go_wp2
  refine wp_loop_rounds 9 ?_
  rw [rounds_succ]
  go_wp2
  rw [rounds_succ]
  go_wp2
  rw [rounds_succ]
  go_wp2
  rw [rounds_succ]
  go_wp2
  rw [rounds_succ]
  go_wp2
  rw [rounds_succ]
  go_wp2
  rw [rounds_succ]
  go_wp2
  rw [rounds_succ]
  go_wp2
  rw [rounds_succ]
  go_wp2
  go_ret
  exact ⟨congrArg (fun z => Ending.returned (Value.int .i64 z)) (by unfold jn; exact congrArg wrap64 (by omega)), (Below.refl _ _).alloc (Nat.le_refl _) _⟩
theorem jn_by8 {a : Int} (h : In64 a) : jn (a / 256 / 256 / 256 / 256 / 256 / 256 / 256 % 256) (a / 256 / 256 / 256 / 256 / 256 / 256 % 256) (a / 256 / 256 / 256 / 256 / 256 % 256) (a / 256 / 256 / 256 / 256 % 256) (a / 256 / 256 / 256 % 256) (a / 256 / 256 % 256) (a / 256 % 256) (a % 256) = a := by
  unfold In64 at h
  unfold jn wrap64
  omega
theorem by8_jn (b0 b1 b2 b3 b4 b5 b6 b7 : Int) (h0 : 0 ≤ b0 ∧ b0 ≤ 255) (h1 : 0 ≤ b1 ∧ b1 ≤ 255) (h2 : 0 ≤ b2 ∧ b2 ≤ 255) (h3 : 0 ≤ b3 ∧ b3 ≤ 255) (h4 : 0 ≤ b4 ∧ b4 ≤ 255) (h5 : 0 ≤ b5 ∧ b5 ≤ 255) (h6 : 0 ≤ b6 ∧ b6 ≤ 255) (h7 : 0 ≤ b7 ∧ b7 ≤ 255) : by8 (jn b0 b1 b2 b3 b4 b5 b6 b7) = #[.int .u8 b0, .int .u8 b1, .int .u8 b2, .int .u8 b3, .int .u8 b4, .int .u8 b5, .int .u8 b6, .int .u8 b7] := by
  have e : ∃ q, jn b0 b1 b2 b3 b4 b5 b6 b7 = b0 * 72057594037927936 + b1 * 281474976710656 + b2 * 1099511627776 + b3 * 4294967296 + b4 * 16777216 + b5 * 65536 + b6 * 256 + b7 + 18446744073709551616 * q := by
    unfold jn wrap64
    exact ⟨-((b0 * 72057594037927936 + b1 * 281474976710656 + b2 * 1099511627776 + b3 * 4294967296 + b4 * 16777216 + b5 * 65536 + b6 * 256 + b7 + 9223372036854775808) / 18446744073709551616), by omega⟩
  obtain ⟨q, hq⟩ := e
  unfold by8
  rw [show jn b0 b1 b2 b3 b4 b5 b6 b7 / 256 / 256 / 256 / 256 / 256 / 256 / 256 % 256 = b0 by rw [hq]; omega]
  rw [show jn b0 b1 b2 b3 b4 b5 b6 b7 / 256 / 256 / 256 / 256 / 256 / 256 % 256 = b1 by rw [hq]; omega]
  rw [show jn b0 b1 b2 b3 b4 b5 b6 b7 / 256 / 256 / 256 / 256 / 256 % 256 = b2 by rw [hq]; omega]
  rw [show jn b0 b1 b2 b3 b4 b5 b6 b7 / 256 / 256 / 256 / 256 % 256 = b3 by rw [hq]; omega]
  rw [show jn b0 b1 b2 b3 b4 b5 b6 b7 / 256 / 256 / 256 % 256 = b4 by rw [hq]; omega]
  rw [show jn b0 b1 b2 b3 b4 b5 b6 b7 / 256 / 256 % 256 = b5 by rw [hq]; omega]
  rw [show jn b0 b1 b2 b3 b4 b5 b6 b7 / 256 % 256 = b6 by rw [hq]; omega]
  rw [show jn b0 b1 b2 b3 b4 b5 b6 b7 % 256 = b7 by rw [hq]; omega]
end Go.Proofs.YtcaecfmjnboamaaDoor
