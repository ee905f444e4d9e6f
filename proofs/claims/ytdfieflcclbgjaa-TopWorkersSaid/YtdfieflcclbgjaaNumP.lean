/-
  The program's operations that take in many: their first number, what they come to of two numbers.
-/
import Derived.Test.YtdfieflcclbgjaaNumR
import Derived.Deep.QuietTactic
import Derived.BigQuiet
namespace Go.Proofs.Ytdfieflcclbgjaa
open Go.RowKit
def opFirst : Nat → Int
  | 6 => 9223372036854775807
  | 7 => -9223372036854775808
  | 16 => 1
  | _ => 0
theorem two1 (a b : Int) (w : World) :
    Calls Try.prog 93 #[.int .u8 1, .int .i64 a, .int .i64 b] w fun e w' => e = .returned (.int .i64 (wrap64 (a + b))) ∧ w = w' := by
  go_enter Try.func93, Try.ntmps93
  go_wp2
  go_ret
  exact ⟨rfl, rfl⟩
theorem two6 (a b : Int) (w : World) :
    Calls Try.prog 93 #[.int .u8 6, .int .i64 a, .int .i64 b] w fun e w' => e = .returned (.int .i64 (if b < a then b else a)) ∧ w = w' := by
  by_cases h : b < a
  · rw [if_pos h]
    go_enter Try.func93, Try.ntmps93
    go_wp2
    go_ret
    exact ⟨rfl, rfl⟩
  · rw [if_neg h]
    go_enter Try.func93, Try.ntmps93
    go_wp2
    go_ret
    exact ⟨rfl, rfl⟩
theorem two7 (a b : Int) (w : World) :
    Calls Try.prog 93 #[.int .u8 7, .int .i64 a, .int .i64 b] w fun e w' => e = .returned (.int .i64 (if a < b then b else a)) ∧ w = w' := by
  by_cases h : a < b
  · rw [if_pos h]
    go_enter Try.func93, Try.ntmps93
    go_wp2
    go_ret
    exact ⟨rfl, rfl⟩
  · rw [if_neg h]
    go_enter Try.func93, Try.ntmps93
    go_wp2
    go_ret
    exact ⟨rfl, rfl⟩
theorem two16 (a b : Int) (w : World) :
    Calls Try.prog 93 #[.int .u8 16, .int .i64 a, .int .i64 b] w fun e w' => e = .returned (.int .i64 (if ¬ a = 0 ∧ ¬ b = 0 then 1 else 0)) ∧ w = w' := by
  by_cases h1 : a = 0
  · subst h1
    by_cases h2 : b = 0
    · subst h2
      rw [if_neg (by simp)]
      go_enter Try.func93, Try.ntmps93
      go_wp2
      go_ret
      exact ⟨rfl, rfl⟩
    · have q2 : (b != 0) = true := by simpa using h2
      rw [if_neg (by simp)]
      go_enter Try.func93, Try.ntmps93
      go_wp2
      go_ret
      exact ⟨rfl, rfl⟩
  · have q1 : (a != 0) = true := by simpa using h1
    by_cases h2 : b = 0
    · subst h2
      rw [if_neg (by simp)]
      go_enter Try.func93, Try.ntmps93
      go_wp2
      go_ret
      exact ⟨rfl, rfl⟩
    · have q2 : (b != 0) = true := by simpa using h2
      rw [if_pos (And.intro h1 h2)]
      go_enter Try.func93, Try.ntmps93
      go_wp2
      go_ret
      exact ⟨rfl, rfl⟩
theorem two17 (a b : Int) (w : World) :
    Calls Try.prog 93 #[.int .u8 17, .int .i64 a, .int .i64 b] w fun e w' => e = .returned (.int .i64 (if ¬ a = 0 ∨ ¬ b = 0 then 1 else 0)) ∧ w = w' := by
  by_cases h1 : a = 0
  · subst h1
    by_cases h2 : b = 0
    · subst h2
      rw [if_neg (by simp)]
      go_enter Try.func93, Try.ntmps93
      go_wp2
      go_ret
      exact ⟨rfl, rfl⟩
    · have q2 : (b != 0) = true := by simpa using h2
      rw [if_pos (Or.inr h2)]
      go_enter Try.func93, Try.ntmps93
      go_wp2
      go_ret
      exact ⟨rfl, rfl⟩
  · have q1 : (a != 0) = true := by simpa using h1
    by_cases h2 : b = 0
    · subst h2
      rw [if_pos (Or.inl h1)]
      go_enter Try.func93, Try.ntmps93
      go_wp2
      go_ret
      exact ⟨rfl, rfl⟩
    · have q2 : (b != 0) = true := by simpa using h2
      rw [if_pos (Or.inl h1)]
      go_enter Try.func93, Try.ntmps93
      go_wp2
      go_ret
      exact ⟨rfl, rfl⟩
theorem pair1 (a b : Int) (w : World) : Calls Try.prog 93 #[.int .u8 1, .int .i64 a, .int .i64 b] w fun e w' => e = .returned (.int .i64 (opTwo 1 a b)) ∧ w' = w := (two1 a b w).mono fun _ _ h => ⟨h.1, h.2.symm⟩
theorem do1 (w : World) (x y : Int) (b off c : Nat) (h0 : w.cell? ⟨b, off, none⟩ = some (.int .i64 x)) (h1 : w.cell? ⟨b, off + 1, none⟩ = some (.int .i64 y)) :
    Calls Try.prog 66 #[.int .u8 1, .slice (some ⟨b, off, none⟩) 2 c] w fun e w' => e = .returned (.tuple #[.int .i64 (opTwo 1 x y), .int .i64 0]) ∧ ∃ n, w' = w.drewN n := by
  go_enter Try.func66, Try.ntmps66
  go_wp2
  go_quiet ((go_at_call 93; exact Calls.quiet_of_same (pair1 _ _ _)))
  go_wp2
  go_ret2
  exact ⟨rfl, nq, rfl⟩
theorem red1 (w : World) : Calls Try.prog 53 #[.int .u8 1] w fun e w' => e = .returned (.tuple #[.int .i64 (opFirst 1), .bool true]) ∧ w = w' := by
  go_enter Try.func53, Try.ntmps53
  go_wp2
  go_ret2
  exact ⟨rfl, rfl⟩
theorem pair6 (a b : Int) (w : World) : Calls Try.prog 93 #[.int .u8 6, .int .i64 a, .int .i64 b] w fun e w' => e = .returned (.int .i64 (opTwo 6 a b)) ∧ w' = w := (two6 a b w).mono fun _ _ h => ⟨h.1, h.2.symm⟩
theorem do6 (w : World) (x y : Int) (b off c : Nat) (h0 : w.cell? ⟨b, off, none⟩ = some (.int .i64 x)) (h1 : w.cell? ⟨b, off + 1, none⟩ = some (.int .i64 y)) :
    Calls Try.prog 66 #[.int .u8 6, .slice (some ⟨b, off, none⟩) 2 c] w fun e w' => e = .returned (.tuple #[.int .i64 (opTwo 6 x y), .int .i64 0]) ∧ ∃ n, w' = w.drewN n := by
  go_enter Try.func66, Try.ntmps66
  go_wp2
  go_quiet ((go_at_call 93; exact Calls.quiet_of_same (pair6 _ _ _)))
  go_wp2
  go_ret2
  exact ⟨rfl, nq, rfl⟩
theorem red6 (w : World) : Calls Try.prog 53 #[.int .u8 6] w fun e w' => e = .returned (.tuple #[.int .i64 (opFirst 6), .bool true]) ∧ w = w' := by
  go_enter Try.func53, Try.ntmps53
  go_wp2
  go_ret2
  exact ⟨rfl, rfl⟩
theorem pair7 (a b : Int) (w : World) : Calls Try.prog 93 #[.int .u8 7, .int .i64 a, .int .i64 b] w fun e w' => e = .returned (.int .i64 (opTwo 7 a b)) ∧ w' = w := (two7 a b w).mono fun _ _ h => ⟨h.1, h.2.symm⟩
theorem do7 (w : World) (x y : Int) (b off c : Nat) (h0 : w.cell? ⟨b, off, none⟩ = some (.int .i64 x)) (h1 : w.cell? ⟨b, off + 1, none⟩ = some (.int .i64 y)) :
    Calls Try.prog 66 #[.int .u8 7, .slice (some ⟨b, off, none⟩) 2 c] w fun e w' => e = .returned (.tuple #[.int .i64 (opTwo 7 x y), .int .i64 0]) ∧ ∃ n, w' = w.drewN n := by
  go_enter Try.func66, Try.ntmps66
  go_wp2
  go_quiet ((go_at_call 93; exact Calls.quiet_of_same (pair7 _ _ _)))
  go_wp2
  go_ret2
  exact ⟨rfl, nq, rfl⟩
theorem red7 (w : World) : Calls Try.prog 53 #[.int .u8 7] w fun e w' => e = .returned (.tuple #[.int .i64 (opFirst 7), .bool true]) ∧ w = w' := by
  go_enter Try.func53, Try.ntmps53
  go_wp2
  go_ret2
  exact ⟨rfl, rfl⟩
theorem pair16 (a b : Int) (w : World) : Calls Try.prog 93 #[.int .u8 16, .int .i64 a, .int .i64 b] w fun e w' => e = .returned (.int .i64 (opTwo 16 a b)) ∧ w' = w := (two16 a b w).mono fun _ _ h => ⟨h.1, h.2.symm⟩
theorem do16 (w : World) (x y : Int) (b off c : Nat) (h0 : w.cell? ⟨b, off, none⟩ = some (.int .i64 x)) (h1 : w.cell? ⟨b, off + 1, none⟩ = some (.int .i64 y)) :
    Calls Try.prog 66 #[.int .u8 16, .slice (some ⟨b, off, none⟩) 2 c] w fun e w' => e = .returned (.tuple #[.int .i64 (opTwo 16 x y), .int .i64 0]) ∧ ∃ n, w' = w.drewN n := by
  go_enter Try.func66, Try.ntmps66
  go_wp2
  go_quiet ((go_at_call 93; exact Calls.quiet_of_same (pair16 _ _ _)))
  go_wp2
  go_ret2
  exact ⟨rfl, nq, rfl⟩
theorem red16 (w : World) : Calls Try.prog 53 #[.int .u8 16] w fun e w' => e = .returned (.tuple #[.int .i64 (opFirst 16), .bool true]) ∧ w = w' := by
  go_enter Try.func53, Try.ntmps53
  go_wp2
  go_ret2
  exact ⟨rfl, rfl⟩
theorem pair17 (a b : Int) (w : World) : Calls Try.prog 93 #[.int .u8 17, .int .i64 a, .int .i64 b] w fun e w' => e = .returned (.int .i64 (opTwo 17 a b)) ∧ w' = w := (two17 a b w).mono fun _ _ h => ⟨h.1, h.2.symm⟩
theorem do17 (w : World) (x y : Int) (b off c : Nat) (h0 : w.cell? ⟨b, off, none⟩ = some (.int .i64 x)) (h1 : w.cell? ⟨b, off + 1, none⟩ = some (.int .i64 y)) :
    Calls Try.prog 66 #[.int .u8 17, .slice (some ⟨b, off, none⟩) 2 c] w fun e w' => e = .returned (.tuple #[.int .i64 (opTwo 17 x y), .int .i64 0]) ∧ ∃ n, w' = w.drewN n := by
  go_enter Try.func66, Try.ntmps66
  go_wp2
  go_quiet ((go_at_call 93; exact Calls.quiet_of_same (pair17 _ _ _)))
  go_wp2
  go_ret2
  exact ⟨rfl, nq, rfl⟩
theorem red17 (w : World) : Calls Try.prog 53 #[.int .u8 17] w fun e w' => e = .returned (.tuple #[.int .i64 (opFirst 17), .bool true]) ∧ w = w' := by
  go_enter Try.func53, Try.ntmps53
  go_wp2
  go_ret2
  exact ⟨rfl, rfl⟩
theorem do_many (o : Nat) (ho : many5 o) (w : World) (x y : Int) (b off c : Nat) (h0 : w.cell? ⟨b, off, none⟩ = some (.int .i64 x)) (h1 : w.cell? ⟨b, off + 1, none⟩ = some (.int .i64 y)) :
    Calls Try.prog 66 #[.int .u8 o, .slice (some ⟨b, off, none⟩) 2 c] w fun e w' => e = .returned (.tuple #[.int .i64 (opTwo o x y), .int .i64 0]) ∧ ∃ n, w' = w.drewN n := by
  rcases ho with rfl | rfl | rfl | rfl | rfl
  · exact do1 w x y b off c h0 h1
  · exact do6 w x y b off c h0 h1
  · exact do7 w x y b off c h0 h1
  · exact do16 w x y b off c h0 h1
  · exact do17 w x y b off c h0 h1
theorem red_many (o : Nat) (ho : many5 o) (w : World) : Calls Try.prog 53 #[.int .u8 o] w fun e w' => e = .returned (.tuple #[.int .i64 (opFirst o), .bool true]) ∧ w = w' := by
  rcases ho with rfl | rfl | rfl | rfl | rfl
  · exact red1 w
  · exact red6 w
  · exact red7 w
  · exact red16 w
  · exact red17 w
theorem red_none (o : Nat) (ho : ¬ many5 o) (w : World) : Calls Try.prog 53 #[.int .u8 o] w fun e w' => e = .returned (.tuple #[.int .i64 0, .bool false]) ∧ w = w' := by
  unfold many5 at ho
  have h1 : ((o : Int) == 1) = false := by simp; omega
  have h6 : ((o : Int) == 6) = false := by simp; omega
  have h7 : ((o : Int) == 7) = false := by simp; omega
  have h16 : ((o : Int) == 16) = false := by simp; omega
  have h17 : ((o : Int) == 17) = false := by simp; omega
  go_enter Try.func53, Try.ntmps53
  go_wp2
  go_ret2
  exact ⟨rfl, rfl⟩
theorem redP_any (o : Nat) (w : World) : Calls Try.prog 53 #[.int .u8 (o : Int)] w fun e w' => e = .returned (.tuple #[.int .i64 (redW (o : Int)), .bool (redB (o : Int))]) ∧ w = w' := by
  by_cases ho : many5 o
  · have h := red_many o ho w
    have e1 : opFirst o = redW (o : Int) := by rcases ho with rfl | rfl | rfl | rfl | rfl <;> rfl
    have e2 : redB (o : Int) = true := by rcases ho with rfl | rfl | rfl | rfl | rfl <;> rfl
    rw [e1] at h
    rw [e2]
    exact h
  · have h := red_none o ho w
    unfold many5 at ho
    have e1 : redW (o : Int) = 0 := by unfold redW; rw [if_neg (by omega), if_neg (by omega), if_neg (by omega)]
    have e2 : redB (o : Int) = false := by unfold redB; rw [decide_eq_false_iff_not]; omega
    rw [e1, e2]
    exact h
theorem redB_of {o : Nat} (h : many5 o) : redB (o : Int) = true := by rcases h with rfl | rfl | rfl | rfl | rfl <;> rfl
theorem doB_many (o : Nat) (ho : many5 o) (w : World) (x y : Int) (b off c : Nat) (h0 : w.cell? ⟨b, off, none⟩ = some (.int .i64 x)) (h1 : w.cell? ⟨b, off + 1, none⟩ = some (.int .i64 y)) :
    Calls Try.prog 66 #[.int .u8 (o : Int), .slice (some ⟨b, off, none⟩) 2 c] w fun e w' => e = .returned (.tuple #[.int .i64 (opTwo o x y), .int .i64 0]) ∧ Below w.heap.size w w' := by
  refine (do_many o ho w x y b off c h0 h1).mono ?_
  rintro e w' ⟨rfl, n, rfl⟩
  exact ⟨rfl, below_drewN (Below.refl _ _) n⟩
end Go.Proofs.Ytdfieflcclbgjaa
