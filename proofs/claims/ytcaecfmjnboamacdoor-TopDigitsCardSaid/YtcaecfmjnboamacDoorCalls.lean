/-
  The calls under the statement TopDigits: what they come to.
-/
import Derived.Test.YtcaecfmjnboamacDoorArith
import Derived.Test.YtcaecfmjnboamacDoorDigits
import Derived.Test.YtcaecfmjnboamacDoorShelf
import Derived.Test.YtcaecfmjnboamacDoorChecked
import Derived.WalkKit
import Derived.WalkSpells
import Derived.WalkLawsBesides
import Derived.Lib.SmallJoins
import Derived.Lib.AtoiErrMem
namespace Go.Proofs.YtcaecfmjnboamacDoor
open Go.RowKit
set_option maxHeartbeats 400000 in
theorem shl_any (a n : Int) (w : World) :
    Calls Tryd.prog 11 #[.int .i64 a, .int .i64 n] w fun e w' => e = .returned (.int .i64 (up a (n % 64).toNat)) ∧ w = w' := by
  have e1 := and63 n
  obtain ⟨m, hm⟩ : ∃ m : Nat, (n % 64) = (m : Int) := ⟨(n % 64).toNat, by omega⟩
  have hlt : m < 64 := by omega
  rw [hm] at e1
  rw [hm]
  clear hm
  go_enter Tryd.func11, Tryd.ntmps11
  go_wp2
  go_loop [0, 7] (fun x i => ∃ k : Nat, k ≤ m ∧ i = .int .i64 k ∧ x = .int .i64 (up a k)) (fun _ i => m - (intOf i).toNat)
  case atStart => exact ⟨0, Nat.zero_le _, rfl, rfl⟩
  case round =>
    obtain ⟨k, hk, rfl, rfl⟩ := hrel
    by_cases hkm : k < m
    · go_wp2
      go_round
      case rel => exact ⟨k + 1, by omega, by go_num, rfl⟩
      case measure => simp [intOf]; omega
    · go_wp2
      obtain rfl : k = m := by omega
      go_ret
      exact ⟨rfl, rfl⟩
set_option maxHeartbeats 400000 in
theorem shr_any (a n : Int) (w : World) :
    Calls Tryd.prog 9 #[.int .i64 a, .int .i64 n] w fun e w' => e = .returned (.int .i64 (dn a (n % 64).toNat)) ∧ w = w' := by
  have e1 := and63 n
  obtain ⟨m, hm⟩ : ∃ m : Nat, (n % 64) = (m : Int) := ⟨(n % 64).toNat, by omega⟩
  have hlt : m < 64 := by omega
  rw [hm] at e1
  rw [hm]
  clear hm
  go_enter Tryd.func9, Tryd.ntmps9
  go_wp2
  go_loop [0, 7] (fun x i => ∃ k : Nat, k ≤ m ∧ i = .int .i64 k ∧ x = .int .i64 (dn a k)) (fun _ i => m - (intOf i).toNat)
  case atStart => exact ⟨0, Nat.zero_le _, rfl, rfl⟩
  case round =>
    obtain ⟨k, hk, rfl, rfl⟩ := hrel
    by_cases hkm : k < m
    · go_wp2
      go_round
      case rel => exact ⟨k + 1, by omega, by go_num, rfl⟩
      case measure => simp [intOf]; omega
    · go_wp2
      obtain rfl : k = m := by omega
      go_ret
      exact ⟨rfl, rfl⟩
def nar (k a : Int) : Int := if k = 8 ∨ k = 16 ∨ k = 32 then dn (up a (64 - k).toNat) (64 - k).toNat else a
theorem narrow_any (k a : Int) (w : World) :
    Calls Tryd.prog 8 #[.int .i64 k, .int .i64 a] w fun e w' => e = .returned (.int .i64 (nar k a)) ∧ w = w' := by
  unfold nar
  by_cases hk : k = 8 ∨ k = 16 ∨ k = 32
  · rw [if_pos hk]
    rcases hk with rfl | rfl | rfl
    all_goals
      go_enter Tryd.func8, Tryd.ntmps8
      go_wp2_with (first | (go_at_call 11; refine (shl_any _ _ _).mono ?_; rintro e w' ⟨rfl, rfl⟩) | (go_at_call 9; refine (shr_any _ _ _).mono ?_; rintro e w' ⟨rfl, rfl⟩))
      go_ret
      exact ⟨rfl, rfl⟩
  · rw [if_neg hk]
    have h1 : (k == 8) = false := by simp; omega
    have h2 : (k == 16) = false := by simp; omega
    have h3 : (k == 32) = false := by simp; omega
    go_enter Tryd.func8, Tryd.ntmps8
    go_wp2
    go_ret
    exact ⟨rfl, rfl⟩
theorem wrap64_self {a : Int} (h : In64 a) : wrap64 a = a := by unfold In64 at h; unfold wrap64; omega
theorem nar8 {a : Int} (h : In64 a) : nar 8 a = if 128 ≤ a % 256 then a % 256 - 256 else a % 256 := by
  have e : nar 8 a = dn (up a 56) 56 := rfl
  rw [e, dn_eq, up_eq h]
  unfold wrap64
  split <;> omega
theorem nar32 {a : Int} (h : In64 a) : nar 32 a = if 2147483648 ≤ a % 4294967296 then a % 4294967296 - 4294967296 else a % 4294967296 := by
  have e : nar 32 a = dn (up a 32) 32 := rfl
  rw [e, dn_eq, up_eq h]
  unfold wrap64
  split <;> omega
/-- The library's table of powers of ten is laid. -/
def Tab (w : World) : Prop := Lib.TabIs Tryd.prog w "internal/strconv.uint64pow10" .u64 Lib.pow10Tab
theorem gTab : Tryd.prog.globalNamed "internal/strconv.uint64pow10" = some 2 := by kernel_rfl
theorem Tab.on {w w' : World} (h : Tab w) (hb : Below w.heap.size w w') : Tab w' := Joins.tab_stays gTab h hb (Nat.le_refl _)
theorem below_grow (w : World) (k : Nat) (os : Array Obj) : Below w.heap.size w (Sort.grow (w.drewN k) os) :=
  ⟨rfl, rfl, rfl, by simp [Sort.grow], fun i hi => by show (w.heap ++ os)[i]? = _; rw [Array.getElem?_append_left hi]⟩
theorem digits_any (n : Int) (w : World) (hn : In64 n) (ht : Tab w) :
    Calls Tryd.prog 6 #[.int .i64 n] w fun e w' => e = .returned (.string ⟨(Lib.itoa n).toArray⟩) ∧ Below w.heap.size w w' := by
  go_enter Tryd.func6, Tryd.ntmps6
  go_wp2_with (go_at_call 14; refine (Tryd.strconv_FormatInt_10 n hn.1 hn.2 w ht).mono ?_; rintro e w' ⟨rfl, k, os, rfl⟩)
  go_ret
  exact ⟨rfl, below_grow _ _ _⟩
theorem parseInt_ok (s : ByteArray) (hl : s.size ≤ 281474976710656) (v : Int) (h : Lib.parseIntB 64 s.data.toList = .ok v) (w : World) :
    Calls Tryd.prog 13 #[.string s, .int .i64 10, .int .i64 64] w fun e w' => e = .returned (.tuple #[.int .i64 v, .nilIface]) ∧ Below w.heap.size w w' := by
  refine (Tryd.strconv_ParseInt_10_at64_ok s (by omega) v h w).mono ?_
  rintro e w1 ⟨rfl, rfl | ⟨t, rfl⟩⟩
  · exact ⟨rfl, Below.refl _ _⟩
  · exact ⟨rfl, Lib.bytesWorld_below _ _ _⟩
set_option maxHeartbeats 400000 in
theorem parse_ok (s : ByteArray) (hl : s.size ≤ 281474976710656) (v : Int) (hv : In64 v) (h : Lib.parseIntB 64 s.data.toList = .ok v) (w : World) (ht : Tab w) :
    Calls Tryd.prog 5 #[.string s] w fun e w' => e = .returned (.tuple #[.int .i64 (if (Lib.itoa v == s.toList) = true then v else 0), .int .i64 (if (Lib.itoa v == s.toList) = true then 0 else 3)]) ∧ Below w.heap.size w w' := by
  cases hq : (Lib.itoa v == s.toList)
  all_goals
    go_enter Tryd.func5, Tryd.ntmps5
    go_wp2_with (first | (go_at_call 13; refine (parseInt_ok s hl v h w).mono ?_; rintro e w1 ⟨rfl, hb1⟩; have ht1 := ht.on hb1) | (go_at_call 6; refine (digits_any v _ hv (by assumption)).mono ?_; rintro e w2 ⟨rfl, hb2⟩))
    go_ret2
    exact ⟨rfl, hb1.trans (hb2.mono hb1.size)⟩
theorem parse_yes (s : ByteArray) (hl : s.size ≤ 281474976710656) (v : Int) (hv : In64 v) (h : s.data.toList = Lib.itoa v) (w : World) (ht : Tab w) :
    Calls Tryd.prog 5 #[.string s] w fun e w' => e = .returned (.tuple #[.int .i64 v, .int .i64 0]) ∧ Below w.heap.size w w' := by
  have q : (Lib.itoa v == s.toList) = true := by rw [ByteArray.toList_eq, h]; simp
  have := parse_ok s hl v hv (by rw [h]; exact parse_itoa v hv.1 hv.2) w ht
  rw [if_pos q, if_pos q] at this
  exact this
/-- The bytes of a number, the highest first. -/
def by8 (a : Int) : Array Value := #[.int .u8 (a / 256 / 256 / 256 / 256 / 256 / 256 / 256 % 256), .int .u8 (a / 256 / 256 / 256 / 256 / 256 / 256 % 256), .int .u8 (a / 256 / 256 / 256 / 256 / 256 % 256), .int .u8 (a / 256 / 256 / 256 / 256 % 256), .int .u8 (a / 256 / 256 / 256 % 256), .int .u8 (a / 256 / 256 % 256), .int .u8 (a / 256 % 256), .int .u8 (a % 256)]
set_option maxHeartbeats 2000000 in
theorem bytes_any (a : Int) (w : World) :
    Calls Tryd.prog 4 #[.int .i64 a] w fun e w' => e = .returned (.agg (by8 a)) ∧ Below w.heap.size w w' := by
  go_enter Tryd.func4, Tryd.ntmps4
  go_wp2
  refine wp_loop_rounds 9 ?_
  rw [rounds_succ]
  go_wp2
  rw [rounds_succ]
  go_wp2
  rw [rounds_succ]
  go_wp2
  rw [rounds_succ]
  go_wp2
  rw [rounds_succ]
  go_wp2
  rw [rounds_succ]
  go_wp2
  rw [rounds_succ]
  go_wp2
  rw [rounds_succ]
  go_wp2
  rw [rounds_succ]
  go_wp2
  exact bodyPost_ret (v := .agg #[.int .u8 (a / 256 / 256 / 256 / 256 / 256 / 256 / 256 % 256), .int .u8 (a / 256 / 256 / 256 / 256 / 256 / 256 % 256), .int .u8 (a / 256 / 256 / 256 / 256 / 256 % 256), .int .u8 (a / 256 / 256 / 256 / 256 % 256), .int .u8 (a / 256 / 256 / 256 % 256), .int .u8 (a / 256 / 256 % 256), .int .u8 (a / 256 % 256), .int .u8 (a % 256)]) (by simp [results, Tryd.results4, go_sem]) rfl ⟨rfl, ((Below.refl _ _).alloc (Nat.le_refl _) _).alloc (by simp) _⟩
/-- The number whose bytes these are. -/
def jn (b0 b1 b2 b3 b4 b5 b6 b7 : Int) : Int := wrap64 (b0 * 72057594037927936 + b1 * 281474976710656 + b2 * 1099511627776 + b3 * 4294967296 + b4 * 16777216 + b5 * 65536 + b6 * 256 + b7)
theorem or8 (x b : Int) (h : 0 ≤ b ∧ b ≤ 255) : bits .or .i64 (wrap64 (x * 256)) b = wrap64 (x * 256 + b) := by
  have key : (BitVec.ofInt 64 (wrap64 (x * 256)) ||| BitVec.ofInt 64 b).toNat = ((x * 256) % 18446744073709551616).toNat + b.toNat := by
    rw [BitVec.toNat_or, BitVec.toNat_ofInt, BitVec.toNat_ofInt]
    have e1 : (wrap64 (x * 256) % ((2 ^ 64 : Nat) : Int)).toNat = 2 ^ 8 * ((x * 256) % 18446744073709551616 / 256).toNat := by unfold wrap64; omega
    have e2 : (b % ((2 ^ 64 : Nat) : Int)).toNat = b.toNat := by omega
    rw [e1, e2, ← Nat.two_pow_add_eq_or_of_lt (by omega)]
    omega
  show IntKind.i64.wrap ((BitVec.ofInt 64 (wrap64 (x * 256)) ||| BitVec.ofInt 64 b).toNat : Nat) = wrap64 (x * 256 + b)
  rw [key, IntKind.wrap_i64]
  unfold wrap64
  omega
theorem or0 (b : Int) (h : 0 ≤ b ∧ b ≤ 255) : bits .or .i64 0 b = b := by
  have h1 := or8 0 b h
  rw [show wrap64 (0 * 256) = 0 by decide +kernel, Int.zero_mul, Int.zero_add] at h1
  rw [h1]; unfold wrap64; omega
theorem wrap_step (y b : Int) : wrap64 (wrap64 y * 256 + b) = wrap64 (y * 256 + b) := by unfold wrap64; omega
theorem join_eq (b0 b1 b2 b3 b4 b5 b6 b7 : Int) (h0 : 0 ≤ b0 ∧ b0 ≤ 255) (h1 : 0 ≤ b1 ∧ b1 ≤ 255) (h2 : 0 ≤ b2 ∧ b2 ≤ 255) (h3 : 0 ≤ b3 ∧ b3 ≤ 255) (h4 : 0 ≤ b4 ∧ b4 ≤ 255) (h5 : 0 ≤ b5 ∧ b5 ≤ 255) (h6 : 0 ≤ b6 ∧ b6 ≤ 255) (h7 : 0 ≤ b7 ∧ b7 ≤ 255) : (bits .or .i64 (wrap64 ((bits .or .i64 (wrap64 ((bits .or .i64 (wrap64 ((bits .or .i64 (wrap64 ((bits .or .i64 (wrap64 ((bits .or .i64 (wrap64 ((bits .or .i64 (wrap64 ((bits .or .i64 0 b0) * 256)) b1) * 256)) b2) * 256)) b3) * 256)) b4) * 256)) b5) * 256)) b6) * 256)) b7) = jn b0 b1 b2 b3 b4 b5 b6 b7 := by
  rw [or0 b0 h0, or8 _ b1 h1, or8 _ b2 h2, or8 _ b3 h3, or8 _ b4 h4, or8 _ b5 h5, or8 _ b6 h6, or8 _ b7 h7]
  rw [wrap_step (b0 * 256 + b1) b2, wrap_step ((b0 * 256 + b1) * 256 + b2) b3, wrap_step (((b0 * 256 + b1) * 256 + b2) * 256 + b3) b4, wrap_step ((((b0 * 256 + b1) * 256 + b2) * 256 + b3) * 256 + b4) b5, wrap_step (((((b0 * 256 + b1) * 256 + b2) * 256 + b3) * 256 + b4) * 256 + b5) b6, wrap_step ((((((b0 * 256 + b1) * 256 + b2) * 256 + b3) * 256 + b4) * 256 + b5) * 256 + b6) b7]
  unfold jn
  exact congrArg wrap64 (by omega)
set_option maxHeartbeats 2000000 in
theorem join_any (b0 b1 b2 b3 b4 b5 b6 b7 : Int) (h0 : 0 ≤ b0 ∧ b0 ≤ 255) (h1 : 0 ≤ b1 ∧ b1 ≤ 255) (h2 : 0 ≤ b2 ∧ b2 ≤ 255) (h3 : 0 ≤ b3 ∧ b3 ≤ 255) (h4 : 0 ≤ b4 ∧ b4 ≤ 255) (h5 : 0 ≤ b5 ∧ b5 ≤ 255) (h6 : 0 ≤ b6 ∧ b6 ≤ 255) (h7 : 0 ≤ b7 ∧ b7 ≤ 255) (w : World) :
    Calls Tryd.prog 7 #[.agg #[.int .u8 b0, .int .u8 b1, .int .u8 b2, .int .u8 b3, .int .u8 b4, .int .u8 b5, .int .u8 b6, .int .u8 b7]] w fun e w' => e = .returned (.int .i64 (jn b0 b1 b2 b3 b4 b5 b6 b7)) ∧ Below w.heap.size w w' := by
  have e := join_eq b0 b1 b2 b3 b4 b5 b6 b7 h0 h1 h2 h3 h4 h5 h6 h7
  have E : Hid _ := e
  clear e
  go_enter Tryd.func7, Tryd.ntmps7
  go_wp2
  refine wp_loop_rounds 9 ?_
  rw [rounds_succ]
  go_wp2
  rw [rounds_succ]
  go_wp2
  rw [rounds_succ]
  go_wp2
  rw [rounds_succ]
  go_wp2
  rw [rounds_succ]
  go_wp2
  rw [rounds_succ]
  go_wp2
  rw [rounds_succ]
  go_wp2
  rw [rounds_succ]
  go_wp2
  rw [rounds_succ]
  go_wp2
  go_ret
  exact ⟨congrArg (fun z => Ending.returned (Value.int .i64 z)) E.out, (Below.refl _ _).alloc (Nat.le_refl _) _⟩
theorem jn_by8 {a : Int} (h : In64 a) : jn (a / 256 / 256 / 256 / 256 / 256 / 256 / 256 % 256) (a / 256 / 256 / 256 / 256 / 256 / 256 % 256) (a / 256 / 256 / 256 / 256 / 256 % 256) (a / 256 / 256 / 256 / 256 % 256) (a / 256 / 256 / 256 % 256) (a / 256 / 256 % 256) (a / 256 % 256) (a % 256) = a := by
  unfold In64 at h
  unfold jn wrap64
  omega
end Go.Proofs.YtcaecfmjnboamacDoor
