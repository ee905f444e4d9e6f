/-
  The document's operations that take in many: how many numbers they are of, their first number, what they come to.
-/
import Derived.Test.YtdfieflcclbgjaaMBase
import Derived.Deep.QuietTactic
namespace Go.Proofs.Ytdfieflcclbgjaa
open Go.RowKit
theorem below_drewN {B : Nat} {a w : World} (h : Below B a w) (n : Nat) : Below B a (w.drewN n) := h.trans ⟨rfl, rfl, rfl, Nat.le_refl _, fun _ _ => rfl⟩
def opTwo : Nat → Int → Int → Int
  | 1, a, b => wrap64 (a + b)
  | 6, a, b => if b < a then b else a
  | 7, a, b => if a < b then b else a
  | 16, a, b => if ¬ a = 0 ∧ ¬ b = 0 then 1 else 0
  | 17, a, b => if ¬ a = 0 ∨ ¬ b = 0 then 1 else 0
  | _, _, _ => 0
def arity (o : Int) : Int := if o = 15 then 1 else if o = 18 then 3 else if 1 ≤ o ∧ o ≤ 19 then 2 else 0
theorem arityR_any (o : Int) (h0 : 0 ≤ o) (w : World) : Calls Try.prog 67 #[.int .u8 o] w fun e w' => e = .returned (.int .i64 (arity o)) ∧ w = w' := by
  unfold arity
  by_cases h15 : o = 15
  · subst h15
    rw [if_pos rfl]
    go_enter Try.func67, Try.ntmps67
    go_wp2
    go_ret
    exact ⟨rfl, rfl⟩
  rw [if_neg h15]
  have q15 : (o == 15) = false := by simpa using h15
  by_cases h18 : o = 18
  · subst h18
    rw [if_pos rfl]
    go_enter Try.func67, Try.ntmps67
    go_wp2
    go_ret
    exact ⟨rfl, rfl⟩
  rw [if_neg h18]
  have q18 : (o == 18) = false := by simpa using h18
  by_cases h1 : o = 0
  · subst h1
    rw [if_neg (by omega)]
    go_enter Try.func67, Try.ntmps67
    go_wp2
    go_ret
    exact ⟨rfl, rfl⟩
  · have q1 : (o == 0) = false := by simpa using h1
    by_cases h2 : 19 < o
    · rw [if_neg (by omega)]
      go_enter Try.func67, Try.ntmps67
      go_wp2
      go_ret
      exact ⟨rfl, rfl⟩
    · rw [if_pos (by omega)]
      have q2 : decide (19 < o) = false := by simpa using h2
      go_enter Try.func67, Try.ntmps67
      go_wp2
      go_ret
      exact ⟨rfl, rfl⟩
def redW (o : Int) : Int := if o = 6 then 9223372036854775807 else if o = 7 then -9223372036854775808 else if o = 16 then 1 else 0
def redB (o : Int) : Bool := decide (o = 1 ∨ o = 17 ∨ o = 6 ∨ o = 7 ∨ o = 16)
theorem reducesR_any (o : Int) (w : World) : Calls Try.prog 43 #[.int .u8 o] w fun e w' => e = .returned (.tuple #[.int .i64 (redW o), .bool (redB o)]) ∧ w = w' := by
  by_cases h : o = 1 ∨ o = 17 ∨ o = 6 ∨ o = 7 ∨ o = 16
  · rcases h with rfl | rfl | rfl | rfl | rfl
    all_goals
      go_enter Try.func43, Try.ntmps43
      go_wp2
      go_ret2
      exact ⟨rfl, rfl⟩
  · have e1 : redW o = 0 := by unfold redW; rw [if_neg (by omega), if_neg (by omega), if_neg (by omega)]
    have e2 : redB o = false := decide_eq_false h
    rw [e1, e2]
    have q1 : (o == 1) = false := by simp; omega
    have q2 : (o == 17) = false := by simp; omega
    have q3 : (o == 6) = false := by simp; omega
    have q4 : (o == 7) = false := by simp; omega
    have q5 : (o == 16) = false := by simp; omega
    go_enter Try.func43, Try.ntmps43
    go_wp2
    go_ret2
    exact ⟨rfl, rfl⟩
theorem addR_any (a b : Int) (w : World) :
    Calls Try.prog 68 #[.int .i64 a, .int .i64 b] w fun e w' => e = .returned (.int .i64 (wrap64 (a + b))) ∧ w = w' := by
  have e : IntKind.i64.wrap (IntKind.u64.wrap (IntKind.u64.wrap a + IntKind.u64.wrap b)) = wrap64 (a + b) := by
    rw [IntKind.wrap_i64, IntKind.wrap_u64, IntKind.wrap_u64, IntKind.wrap_u64]; unfold wrap64; omega
  go_enter Try.func68, Try.ntmps68
  go_wp2
  go_ret
  exact ⟨rfl, rfl⟩
theorem tr16 (w : World) (x y : Int) (b off c : Nat) (h0 : w.cell? ⟨b, off, none⟩ = some (.int .i64 x)) (h1 : w.cell? ⟨b, off + 1, none⟩ = some (.int .i64 y)) :
    Calls Try.prog 76 #[.int .u8 16, .slice (some ⟨b, off, none⟩) 2 c] w fun e w' => e = .returned (.int .i64 (opTwo 16 x y)) ∧ Below w.heap.size w w' := by
  by_cases hx : x = 0 <;> by_cases hy : y = 0
  · subst hx
    subst hy
    have e : opTwo 16 0 0 = 0 := by
      show (if ¬ (0 : Int) = 0 ∧ ¬ (0 : Int) = 0 then (1 : Int) else 0) = 0
      split <;> omega
    rw [e]
    clear e
    go_enter Try.func76, Try.ntmps76
    go_wp2
    go_quiet ((fail))
    go_wp2
    go_ret
    exact ⟨rfl, below_drewN (Below.refl _ _) nq⟩
  · subst hx
    have qy : (y != 0) = true := by simpa using hy
    have e : opTwo 16 0 y = 0 := by
      show (if ¬ (0 : Int) = 0 ∧ ¬ (y : Int) = 0 then (1 : Int) else 0) = 0
      split <;> omega
    rw [e]
    clear e
    go_enter Try.func76, Try.ntmps76
    go_wp2
    go_quiet ((fail))
    go_wp2
    go_ret
    exact ⟨rfl, below_drewN (Below.refl _ _) nq⟩
  · have qx : (x != 0) = true := by simpa using hx
    subst hy
    have e : opTwo 16 x 0 = 0 := by
      show (if ¬ (x : Int) = 0 ∧ ¬ (0 : Int) = 0 then (1 : Int) else 0) = 0
      split <;> omega
    rw [e]
    clear e
    go_enter Try.func76, Try.ntmps76
    go_wp2
    go_quiet ((fail))
    go_wp2
    go_ret
    exact ⟨rfl, below_drewN (Below.refl _ _) nq⟩
  · have qx : (x != 0) = true := by simpa using hx
    have qy : (y != 0) = true := by simpa using hy
    have e : opTwo 16 x y = 1 := by
      show (if ¬ (x : Int) = 0 ∧ ¬ (y : Int) = 0 then (1 : Int) else 0) = 1
      split <;> omega
    rw [e]
    clear e
    go_enter Try.func76, Try.ntmps76
    go_wp2
    go_quiet ((fail))
    go_wp2
    go_ret
    exact ⟨rfl, below_drewN (Below.refl _ _) nq⟩
theorem tr17 (w : World) (x y : Int) (b off c : Nat) (h0 : w.cell? ⟨b, off, none⟩ = some (.int .i64 x)) (h1 : w.cell? ⟨b, off + 1, none⟩ = some (.int .i64 y)) :
    Calls Try.prog 76 #[.int .u8 17, .slice (some ⟨b, off, none⟩) 2 c] w fun e w' => e = .returned (.int .i64 (opTwo 17 x y)) ∧ Below w.heap.size w w' := by
  by_cases hx : x = 0 <;> by_cases hy : y = 0
  · subst hx
    subst hy
    have e : opTwo 17 0 0 = 0 := by
      show (if ¬ (0 : Int) = 0 ∨ ¬ (0 : Int) = 0 then (1 : Int) else 0) = 0
      split <;> omega
    rw [e]
    clear e
    go_enter Try.func76, Try.ntmps76
    go_wp2
    go_quiet ((fail))
    go_wp2
    go_ret
    exact ⟨rfl, below_drewN (Below.refl _ _) nq⟩
  · subst hx
    have qy : (y != 0) = true := by simpa using hy
    have e : opTwo 17 0 y = 1 := by
      show (if ¬ (0 : Int) = 0 ∨ ¬ (y : Int) = 0 then (1 : Int) else 0) = 1
      split <;> omega
    rw [e]
    clear e
    go_enter Try.func76, Try.ntmps76
    go_wp2
    go_quiet ((fail))
    go_wp2
    go_ret
    exact ⟨rfl, below_drewN (Below.refl _ _) nq⟩
  · have qx : (x != 0) = true := by simpa using hx
    subst hy
    have e : opTwo 17 x 0 = 1 := by
      show (if ¬ (x : Int) = 0 ∨ ¬ (0 : Int) = 0 then (1 : Int) else 0) = 1
      split <;> omega
    rw [e]
    clear e
    go_enter Try.func76, Try.ntmps76
    go_wp2
    go_quiet ((fail))
    go_wp2
    go_ret
    exact ⟨rfl, below_drewN (Below.refl _ _) nq⟩
  · have qx : (x != 0) = true := by simpa using hx
    have qy : (y != 0) = true := by simpa using hy
    have e : opTwo 17 x y = 1 := by
      show (if ¬ (x : Int) = 0 ∨ ¬ (y : Int) = 0 then (1 : Int) else 0) = 1
      split <;> omega
    rw [e]
    clear e
    go_enter Try.func76, Try.ntmps76
    go_wp2
    go_quiet ((fail))
    go_wp2
    go_ret
    exact ⟨rfl, below_drewN (Below.refl _ _) nq⟩
theorem doR1 (w : World) (x y : Int) (b off c : Nat) (h0 : w.cell? ⟨b, off, none⟩ = some (.int .i64 x)) (h1 : w.cell? ⟨b, off + 1, none⟩ = some (.int .i64 y)) :
    Calls Try.prog 44 #[.int .u8 1, .slice (some ⟨b, off, none⟩) 2 c] w fun e w' => e = .returned (.tuple #[.int .i64 (opTwo 1 x y), .int .i64 0]) ∧ Below w.heap.size w w' := by
  go_enter Try.func44, Try.ntmps44
  go_wp2
  go_quiet ((fail))
  go_wp2_with (first | (go_at_call 67; refine (arityR_any _ (by omega) _).mono ?_; rintro e w' ⟨rfl, rfl⟩) | (go_at_call 68; refine (addR_any _ _ _).mono ?_; rintro e w' ⟨rfl, rfl⟩))
  go_ret2
  exact ⟨rfl, below_drewN (Below.refl _ _) nq⟩
theorem doR6 (w : World) (x y : Int) (b off c : Nat) (h0 : w.cell? ⟨b, off, none⟩ = some (.int .i64 x)) (h1 : w.cell? ⟨b, off + 1, none⟩ = some (.int .i64 y)) :
    Calls Try.prog 44 #[.int .u8 6, .slice (some ⟨b, off, none⟩) 2 c] w fun e w' => e = .returned (.tuple #[.int .i64 (opTwo 6 x y), .int .i64 0]) ∧ Below w.heap.size w w' := by
  by_cases h : y < x
  · have e : opTwo 6 x y = y := if_pos h
    rw [e]
    clear e
    go_enter Try.func44, Try.ntmps44
    go_wp2
    go_quiet ((fail))
    go_wp2
    go_ret2
    exact ⟨rfl, below_drewN (Below.refl _ _) nq⟩
  · have e : opTwo 6 x y = x := if_neg h
    rw [e]
    clear e
    go_enter Try.func44, Try.ntmps44
    go_wp2
    go_quiet ((fail))
    go_wp2
    go_ret2
    exact ⟨rfl, below_drewN (Below.refl _ _) nq⟩
theorem doR7 (w : World) (x y : Int) (b off c : Nat) (h0 : w.cell? ⟨b, off, none⟩ = some (.int .i64 x)) (h1 : w.cell? ⟨b, off + 1, none⟩ = some (.int .i64 y)) :
    Calls Try.prog 44 #[.int .u8 7, .slice (some ⟨b, off, none⟩) 2 c] w fun e w' => e = .returned (.tuple #[.int .i64 (opTwo 7 x y), .int .i64 0]) ∧ Below w.heap.size w w' := by
  by_cases h : x < y
  · have e : opTwo 7 x y = y := if_pos h
    rw [e]
    clear e
    go_enter Try.func44, Try.ntmps44
    go_wp2
    go_quiet ((fail))
    go_wp2
    go_ret2
    exact ⟨rfl, below_drewN (Below.refl _ _) nq⟩
  · have e : opTwo 7 x y = x := if_neg h
    rw [e]
    clear e
    go_enter Try.func44, Try.ntmps44
    go_wp2
    go_quiet ((fail))
    go_wp2
    go_ret2
    exact ⟨rfl, below_drewN (Below.refl _ _) nq⟩
theorem doR16 (w : World) (x y : Int) (b off c : Nat) (h0 : w.cell? ⟨b, off, none⟩ = some (.int .i64 x)) (h1 : w.cell? ⟨b, off + 1, none⟩ = some (.int .i64 y)) :
    Calls Try.prog 44 #[.int .u8 16, .slice (some ⟨b, off, none⟩) 2 c] w fun e w' => e = .returned (.tuple #[.int .i64 (opTwo 16 x y), .int .i64 0]) ∧ Below w.heap.size w w' := by
  go_enter Try.func44, Try.ntmps44
  go_wp2
  go_quiet ((fail))
  go_wp2_with (go_at_call 76; refine (tr16 _ x y _ _ _ (by simpa using h0) (by simpa using h1)).mono ?_; rintro e w1 ⟨rfl, hb1⟩)
  go_ret2
  exact ⟨rfl, (below_drewN (Below.refl _ _) nq).trans hb1⟩
theorem doR17 (w : World) (x y : Int) (b off c : Nat) (h0 : w.cell? ⟨b, off, none⟩ = some (.int .i64 x)) (h1 : w.cell? ⟨b, off + 1, none⟩ = some (.int .i64 y)) :
    Calls Try.prog 44 #[.int .u8 17, .slice (some ⟨b, off, none⟩) 2 c] w fun e w' => e = .returned (.tuple #[.int .i64 (opTwo 17 x y), .int .i64 0]) ∧ Below w.heap.size w w' := by
  go_enter Try.func44, Try.ntmps44
  go_wp2
  go_quiet ((fail))
  go_wp2_with (go_at_call 76; refine (tr17 _ x y _ _ _ (by simpa using h0) (by simpa using h1)).mono ?_; rintro e w1 ⟨rfl, hb1⟩)
  go_ret2
  exact ⟨rfl, (below_drewN (Below.refl _ _) nq).trans hb1⟩
def many5 (o : Nat) : Prop := o = 1 ∨ o = 6 ∨ o = 7 ∨ o = 16 ∨ o = 17
theorem doR_many (o : Nat) (ho : many5 o) (w : World) (x y : Int) (b off c : Nat) (h0 : w.cell? ⟨b, off, none⟩ = some (.int .i64 x)) (h1 : w.cell? ⟨b, off + 1, none⟩ = some (.int .i64 y)) :
    Calls Try.prog 44 #[.int .u8 (o : Int), .slice (some ⟨b, off, none⟩) 2 c] w fun e w' => e = .returned (.tuple #[.int .i64 (opTwo o x y), .int .i64 0]) ∧ Below w.heap.size w w' := by
  rcases ho with rfl | rfl | rfl | rfl | rfl
  · exact doR1 w x y b off c h0 h1
  · exact doR6 w x y b off c h0 h1
  · exact doR7 w x y b off c h0 h1
  · exact doR16 w x y b off c h0 h1
  · exact doR17 w x y b off c h0 h1
end Go.Proofs.Ytdfieflcclbgjaa
