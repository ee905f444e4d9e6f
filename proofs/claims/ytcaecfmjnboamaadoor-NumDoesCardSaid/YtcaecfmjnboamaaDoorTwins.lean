/-
  The calls of both Do, both Arity and both Reduces: what they come to, at every operation and every numbers.
-/
import Derived.Test.YtcaecfmjnboamaaDoorReckons
import Derived.Test.YtcaecfmjnboamaaDoorBits
namespace Go.Proofs.YtcaecfmjnboamaaDoor
open Go.RowKit
def arity (o : Int) : Int := if o = 15 then 1 else if o = 18 then 3 else if 1 ≤ o ∧ o ≤ 19 then 2 else 0
theorem arity_any (o : Int) (w : World) : Calls Tryd.prog 31 #[.int .u8 o] w fun e w' => e = .returned (.int .i64 (arity o)) ∧ w = w' := by
  unfold arity
  by_cases h15 : o = 15
  · subst h15
    rw [if_pos rfl]
    go_enter Tryd.func31, Tryd.ntmps31
    go_wp2
    go_ret
    exact ⟨rfl, rfl⟩
  rw [if_neg h15]
  have q15 : (o == 15) = false := by simpa using h15
  by_cases h18 : o = 18
  · subst h18
    rw [if_pos rfl]
    go_enter Tryd.func31, Tryd.ntmps31
    go_wp2
    go_ret
    exact ⟨rfl, rfl⟩
  rw [if_neg h18]
  have q18 : (o == 18) = false := by simpa using h18
  by_cases h1 : 1 ≤ o
  · by_cases h2 : o ≤ 19
    · rw [if_pos ⟨h1, h2⟩]
      go_enter Tryd.func31, Tryd.ntmps31
      go_wp2
      go_ret
      exact ⟨rfl, rfl⟩
    · rw [if_neg (fun h => h2 h.2)]
      have q2 : decide (o ≤ 19) = false := by simpa using h2
      go_enter Tryd.func31, Tryd.ntmps31
      go_wp2
      go_ret
      exact ⟨rfl, rfl⟩
  · rw [if_neg (fun h => h1 h.1)]
    have q1 : decide (1 ≤ o) = false := by simpa using h1
    go_enter Tryd.func31, Tryd.ntmps31
    go_wp2
    go_ret
    exact ⟨rfl, rfl⟩
theorem arityR_any (o : Int) (h0 : 0 ≤ o) (w : World) : Calls Tryd.prog 32 #[.int .u8 o] w fun e w' => e = .returned (.int .i64 (arity o)) ∧ w = w' := by
  unfold arity
  by_cases h15 : o = 15
  · subst h15
    rw [if_pos rfl]
    go_enter Tryd.func32, Tryd.ntmps32
    go_wp2
    go_ret
    exact ⟨rfl, rfl⟩
  rw [if_neg h15]
  have q15 : (o == 15) = false := by simpa using h15
  by_cases h18 : o = 18
  · subst h18
    rw [if_pos rfl]
    go_enter Tryd.func32, Tryd.ntmps32
    go_wp2
    go_ret
    exact ⟨rfl, rfl⟩
  rw [if_neg h18]
  have q18 : (o == 18) = false := by simpa using h18
  by_cases h1 : o = 0
  · subst h1
    rw [if_neg (by omega)]
    go_enter Tryd.func32, Tryd.ntmps32
    go_wp2
    go_ret
    exact ⟨rfl, rfl⟩
  · have q1 : (o == 0) = false := by simpa using h1
    by_cases h2 : 19 < o
    · rw [if_neg (by omega)]
      go_enter Tryd.func32, Tryd.ntmps32
      go_wp2
      go_ret
      exact ⟨rfl, rfl⟩
    · rw [if_pos (by omega)]
      have q2 : decide (19 < o) = false := by simpa using h2
      go_enter Tryd.func32, Tryd.ntmps32
      go_wp2
      go_ret
      exact ⟨rfl, rfl⟩
def redW (o : Int) : Int := if o = 6 then 9223372036854775807 else if o = 7 then -9223372036854775808 else if o = 16 then 1 else 0
def redB (o : Int) : Bool := decide (o = 1 ∨ o = 17 ∨ o = 6 ∨ o = 7 ∨ o = 16)
theorem reduces_any (o : Int) (w : World) : Calls Tryd.prog 29 #[.int .u8 o] w fun e w' => e = .returned (.tuple #[.int .i64 (redW o), .bool (redB o)]) ∧ w = w' := by
  by_cases h : o = 1 ∨ o = 17 ∨ o = 6 ∨ o = 7 ∨ o = 16
  · rcases h with rfl | rfl | rfl | rfl | rfl
    all_goals
      go_enter Tryd.func29, Tryd.ntmps29
      go_wp2
      go_ret2
      exact ⟨rfl, rfl⟩
  · have e1 : redW o = 0 := by unfold redW; rw [if_neg (by omega), if_neg (by omega), if_neg (by omega)]
    have e2 : redB o = false := decide_eq_false h
    rw [e1, e2]
    have q1 : (o == 1) = false := by simp; omega
    have q2 : (o == 17) = false := by simp; omega
    have q3 : (o == 6) = false := by simp; omega
    have q4 : (o == 7) = false := by simp; omega
    have q5 : (o == 16) = false := by simp; omega
    go_enter Tryd.func29, Tryd.ntmps29
    go_wp2
    go_ret2
    exact ⟨rfl, rfl⟩
theorem reducesR_any (o : Int) (w : World) : Calls Tryd.prog 30 #[.int .u8 o] w fun e w' => e = .returned (.tuple #[.int .i64 (redW o), .bool (redB o)]) ∧ w = w' := by
  by_cases h : o = 1 ∨ o = 17 ∨ o = 6 ∨ o = 7 ∨ o = 16
  · rcases h with rfl | rfl | rfl | rfl | rfl
    all_goals
      go_enter Tryd.func30, Tryd.ntmps30
      go_wp2
      go_ret2
      exact ⟨rfl, rfl⟩
  · have e1 : redW o = 0 := by unfold redW; rw [if_neg (by omega), if_neg (by omega), if_neg (by omega)]
    have e2 : redB o = false := decide_eq_false h
    rw [e1, e2]
    have q1 : (o == 1) = false := by simp; omega
    have q2 : (o == 17) = false := by simp; omega
    have q3 : (o == 6) = false := by simp; omega
    have q4 : (o == 7) = false := by simp; omega
    have q5 : (o == 16) = false := by simp; omega
    go_enter Tryd.func30, Tryd.ntmps30
    go_wp2
    go_ret2
    exact ⟨rfl, rfl⟩
theorem do_none (o : Int) (_h0 : 0 ≤ o) (a : Option Addr) (n c : Nat) (w : World) (h : arity o = 0) :
    Calls Tryd.prog 27 #[.int .u8 o, .slice a n c] w fun e w' => e = .returned (.tuple #[.int .i64 0, .int .i64 2]) ∧ w = w' := by
  go_enter Tryd.func27, Tryd.ntmps27
  go_wp2_with (go_at_call 31; refine (arity_any _ _).mono ?_; rintro e w' ⟨rfl, rfl⟩)
  go_ret2
  exact ⟨rfl, rfl⟩
theorem do_len (o : Int) (_h0 : 0 ≤ o) (a : Option Addr) (n c : Nat) (w : World) (h : (arity o == 0) = false) (hn : ((n : Int) != arity o) = true) :
    Calls Tryd.prog 27 #[.int .u8 o, .slice a n c] w fun e w' => e = .returned (.tuple #[.int .i64 0, .int .i64 3]) ∧ w = w' := by
  go_enter Tryd.func27, Tryd.ntmps27
  go_wp2_with (go_at_call 31; refine (arity_any _ _).mono ?_; rintro e w' ⟨rfl, rfl⟩)
  go_ret2
  exact ⟨rfl, rfl⟩
theorem doR_none (o : Int) (h0 : 0 ≤ o) (a : Option Addr) (n c : Nat) (w : World) (h : arity o = 0) :
    Calls Tryd.prog 28 #[.int .u8 o, .slice a n c] w fun e w' => e = .returned (.tuple #[.int .i64 0, .int .i64 2]) ∧ w = w' := by
  go_enter Tryd.func28, Tryd.ntmps28
  go_wp2_with (go_at_call 32; refine (arityR_any _ h0 _).mono ?_; rintro e w' ⟨rfl, rfl⟩)
  go_ret2
  exact ⟨rfl, rfl⟩
theorem doR_len (o : Int) (h0 : 0 ≤ o) (a : Option Addr) (n c : Nat) (w : World) (h : (arity o == 0) = false) (hn : ((n : Int) != arity o) = true) :
    Calls Tryd.prog 28 #[.int .u8 o, .slice a n c] w fun e w' => e = .returned (.tuple #[.int .i64 0, .int .i64 3]) ∧ w = w' := by
  go_enter Tryd.func28, Tryd.ntmps28
  go_wp2_with (go_at_call 32; refine (arityR_any _ h0 _).mono ?_; rintro e w' ⟨rfl, rfl⟩)
  go_ret2
  exact ⟨rfl, rfl⟩
def opNot (x : Int) : Int := if x = 0 then 1 else 0
def opIf (x y z : Int) : Int := if x = 0 then z else y
theorem do15 (w : World) (x : Int) (b off c : Nat) (h0 : w.cell? ⟨b, off, none⟩ = some (.int .i64 x)) :
    Calls Tryd.prog 27 #[.int .u8 15, .slice (some ⟨b, off, none⟩) 1 c] w fun e w' => e = .returned (.tuple #[.int .i64 (opNot x), .int .i64 0]) ∧ Below w.heap.size w w' := by
  unfold opNot
  by_cases hx : x = 0
  · subst hx
    go_enter Tryd.func27, Tryd.ntmps27
    go_wp2
    go_ret2
    exact ⟨rfl, Below.refl _ _⟩
  · rw [if_neg hx]
    have q : (x != 0) = true := by simpa using hx
    go_enter Tryd.func27, Tryd.ntmps27
    go_wp2
    go_ret2
    exact ⟨rfl, Below.refl _ _⟩
theorem choose_any (x y z : Int) (w : World) : Calls Tryd.prog 43 #[.int .i64 x, .int .i64 y, .int .i64 z] w fun e w' => e = .returned (.int .i64 (opIf x y z)) ∧ w' = w := by
  unfold opIf
  by_cases hx : x = 0
  · subst hx
    rw [if_pos rfl]
    go_enter Tryd.func43, Tryd.ntmps43
    go_wp2
    go_ret
    exact ⟨rfl, rfl⟩
  · rw [if_neg hx]
    have q : (x != 0) = true := by simpa using hx
    go_enter Tryd.func43, Tryd.ntmps43
    go_wp2
    go_ret
    exact ⟨rfl, rfl⟩
theorem do18 (w : World) (x y z : Int) (b off c : Nat) (h0 : w.cell? ⟨b, off, none⟩ = some (.int .i64 x)) (h1 : w.cell? ⟨b, off + 1, none⟩ = some (.int .i64 y)) (h2 : w.cell? ⟨b, off + 2, none⟩ = some (.int .i64 z)) :
    Calls Tryd.prog 27 #[.int .u8 18, .slice (some ⟨b, off, none⟩) 3 c] w fun e w' => e = .returned (.tuple #[.int .i64 (opIf x y z), .int .i64 0]) ∧ Below w.heap.size w w' := by
  go_enter Tryd.func27, Tryd.ntmps27
  go_wp2
  go_quiet ((go_at_call 43; exact Calls.quiet_of_same (choose_any _ _ _ _)))
  go_wp2
  go_ret2
  exact ⟨rfl, below_drewN (Below.refl _ _) nq⟩
theorem tr10 (w : World) (x y : Int) (b off c : Nat) (h0 : w.cell? ⟨b, off, none⟩ = some (.int .i64 x)) (h1 : w.cell? ⟨b, off + 1, none⟩ = some (.int .i64 y)) :
    Calls Tryd.prog 45 #[.int .u8 10, .slice (some ⟨b, off, none⟩) 2 c] w fun e w' => e = .returned (.int .i64 (opTwo 10 x y)) ∧ Below w.heap.size w w' := by
  go_enter Tryd.func45, Tryd.ntmps45
  go_wp2
  go_quiet ((fail))
  go_wp2
  go_ret
  exact ⟨rfl, below_drewN (Below.refl _ _) nq⟩
theorem tr11 (w : World) (x y : Int) (b off c : Nat) (h0 : w.cell? ⟨b, off, none⟩ = some (.int .i64 x)) (h1 : w.cell? ⟨b, off + 1, none⟩ = some (.int .i64 y)) :
    Calls Tryd.prog 45 #[.int .u8 11, .slice (some ⟨b, off, none⟩) 2 c] w fun e w' => e = .returned (.int .i64 (opTwo 11 x y)) ∧ Below w.heap.size w w' := by
  go_enter Tryd.func45, Tryd.ntmps45
  go_wp2
  go_quiet ((fail))
  go_wp2
  go_ret
  exact ⟨rfl, below_drewN (Below.refl _ _) nq⟩
theorem tr12 (w : World) (x y : Int) (b off c : Nat) (h0 : w.cell? ⟨b, off, none⟩ = some (.int .i64 x)) (h1 : w.cell? ⟨b, off + 1, none⟩ = some (.int .i64 y)) :
    Calls Tryd.prog 45 #[.int .u8 12, .slice (some ⟨b, off, none⟩) 2 c] w fun e w' => e = .returned (.int .i64 (opTwo 12 x y)) ∧ Below w.heap.size w w' := by
  go_enter Tryd.func45, Tryd.ntmps45
  go_wp2
  go_quiet ((fail))
  go_wp2
  go_ret
  exact ⟨rfl, below_drewN (Below.refl _ _) nq⟩
theorem tr13 (w : World) (x y : Int) (b off c : Nat) (h0 : w.cell? ⟨b, off, none⟩ = some (.int .i64 x)) (h1 : w.cell? ⟨b, off + 1, none⟩ = some (.int .i64 y)) :
    Calls Tryd.prog 45 #[.int .u8 13, .slice (some ⟨b, off, none⟩) 2 c] w fun e w' => e = .returned (.int .i64 (opTwo 13 x y)) ∧ Below w.heap.size w w' := by
  by_cases h : x = y
  · have e : opTwo 13 x y = 1 := if_pos h
    rw [e]
    have q : (x == y) = true := by simpa using h
    clear e h
    go_enter Tryd.func45, Tryd.ntmps45
    go_wp2
    go_quiet ((fail))
    go_wp2
    go_ret
    exact ⟨rfl, below_drewN (Below.refl _ _) nq⟩
  · have e : opTwo 13 x y = 0 := if_neg h
    rw [e]
    have q : (x == y) = false := by simpa using h
    clear e h
    go_enter Tryd.func45, Tryd.ntmps45
    go_wp2
    go_quiet ((fail))
    go_wp2
    go_ret
    exact ⟨rfl, below_drewN (Below.refl _ _) nq⟩
theorem tr14 (w : World) (x y : Int) (b off c : Nat) (h0 : w.cell? ⟨b, off, none⟩ = some (.int .i64 x)) (h1 : w.cell? ⟨b, off + 1, none⟩ = some (.int .i64 y)) :
    Calls Tryd.prog 45 #[.int .u8 14, .slice (some ⟨b, off, none⟩) 2 c] w fun e w' => e = .returned (.int .i64 (opTwo 14 x y)) ∧ Below w.heap.size w w' := by
  by_cases h : x < y
  · have e : opTwo 14 x y = 1 := if_pos h
    rw [e]
    have q : decide (x < y) = true := by simpa using h
    clear e h
    go_enter Tryd.func45, Tryd.ntmps45
    go_wp2
    go_quiet ((fail))
    go_wp2
    go_ret
    exact ⟨rfl, below_drewN (Below.refl _ _) nq⟩
  · have e : opTwo 14 x y = 0 := if_neg h
    rw [e]
    have q : decide (x < y) = false := by simpa using h
    clear e h
    go_enter Tryd.func45, Tryd.ntmps45
    go_wp2
    go_quiet ((fail))
    go_wp2
    go_ret
    exact ⟨rfl, below_drewN (Below.refl _ _) nq⟩
theorem tr16 (w : World) (x y : Int) (b off c : Nat) (h0 : w.cell? ⟨b, off, none⟩ = some (.int .i64 x)) (h1 : w.cell? ⟨b, off + 1, none⟩ = some (.int .i64 y)) :
    Calls Tryd.prog 45 #[.int .u8 16, .slice (some ⟨b, off, none⟩) 2 c] w fun e w' => e = .returned (.int .i64 (opTwo 16 x y)) ∧ Below w.heap.size w w' := by
  by_cases hx : x = 0 <;> by_cases hy : y = 0
  · subst hx
    subst hy
    have e : opTwo 16 0 0 = 0 := by
      show (if ¬ (0 : Int) = 0 ∧ ¬ (0 : Int) = 0 then (1 : Int) else 0) = 0
      split <;> omega
    rw [e]
    clear e
    go_enter Tryd.func45, Tryd.ntmps45
    go_wp2
    go_quiet ((fail))
    go_wp2
    go_ret
    exact ⟨rfl, below_drewN (Below.refl _ _) nq⟩
  · subst hx
    have qy : (y != 0) = true := by simpa using hy
    have e : opTwo 16 0 y = 0 := by
      show (if ¬ (0 : Int) = 0 ∧ ¬ (y : Int) = 0 then (1 : Int) else 0) = 0
      split <;> omega
    rw [e]
    clear e
    go_enter Tryd.func45, Tryd.ntmps45
    go_wp2
    go_quiet ((fail))
    go_wp2
    go_ret
    exact ⟨rfl, below_drewN (Below.refl _ _) nq⟩
  · have qx : (x != 0) = true := by simpa using hx
    subst hy
    have e : opTwo 16 x 0 = 0 := by
      show (if ¬ (x : Int) = 0 ∧ ¬ (0 : Int) = 0 then (1 : Int) else 0) = 0
      split <;> omega
    rw [e]
    clear e
    go_enter Tryd.func45, Tryd.ntmps45
    go_wp2
    go_quiet ((fail))
    go_wp2
    go_ret
    exact ⟨rfl, below_drewN (Below.refl _ _) nq⟩
  · have qx : (x != 0) = true := by simpa using hx
    have qy : (y != 0) = true := by simpa using hy
    have e : opTwo 16 x y = 1 := by
      show (if ¬ (x : Int) = 0 ∧ ¬ (y : Int) = 0 then (1 : Int) else 0) = 1
      split <;> omega
    rw [e]
    clear e
    go_enter Tryd.func45, Tryd.ntmps45
    go_wp2
    go_quiet ((fail))
    go_wp2
    go_ret
    exact ⟨rfl, below_drewN (Below.refl _ _) nq⟩
theorem tr17 (w : World) (x y : Int) (b off c : Nat) (h0 : w.cell? ⟨b, off, none⟩ = some (.int .i64 x)) (h1 : w.cell? ⟨b, off + 1, none⟩ = some (.int .i64 y)) :
    Calls Tryd.prog 45 #[.int .u8 17, .slice (some ⟨b, off, none⟩) 2 c] w fun e w' => e = .returned (.int .i64 (opTwo 17 x y)) ∧ Below w.heap.size w w' := by
  by_cases hx : x = 0 <;> by_cases hy : y = 0
  · subst hx
    subst hy
    have e : opTwo 17 0 0 = 0 := by
      show (if ¬ (0 : Int) = 0 ∨ ¬ (0 : Int) = 0 then (1 : Int) else 0) = 0
      split <;> omega
    rw [e]
    clear e
    go_enter Tryd.func45, Tryd.ntmps45
    go_wp2
    go_quiet ((fail))
    go_wp2
    go_ret
    exact ⟨rfl, below_drewN (Below.refl _ _) nq⟩
  · subst hx
    have qy : (y != 0) = true := by simpa using hy
    have e : opTwo 17 0 y = 1 := by
      show (if ¬ (0 : Int) = 0 ∨ ¬ (y : Int) = 0 then (1 : Int) else 0) = 1
      split <;> omega
    rw [e]
    clear e
    go_enter Tryd.func45, Tryd.ntmps45
    go_wp2
    go_quiet ((fail))
    go_wp2
    go_ret
    exact ⟨rfl, below_drewN (Below.refl _ _) nq⟩
  · have qx : (x != 0) = true := by simpa using hx
    subst hy
    have e : opTwo 17 x 0 = 1 := by
      show (if ¬ (x : Int) = 0 ∨ ¬ (0 : Int) = 0 then (1 : Int) else 0) = 1
      split <;> omega
    rw [e]
    clear e
    go_enter Tryd.func45, Tryd.ntmps45
    go_wp2
    go_quiet ((fail))
    go_wp2
    go_ret
    exact ⟨rfl, below_drewN (Below.refl _ _) nq⟩
  · have qx : (x != 0) = true := by simpa using hx
    have qy : (y != 0) = true := by simpa using hy
    have e : opTwo 17 x y = 1 := by
      show (if ¬ (x : Int) = 0 ∨ ¬ (y : Int) = 0 then (1 : Int) else 0) = 1
      split <;> omega
    rw [e]
    clear e
    go_enter Tryd.func45, Tryd.ntmps45
    go_wp2
    go_quiet ((fail))
    go_wp2
    go_ret
    exact ⟨rfl, below_drewN (Below.refl _ _) nq⟩
theorem tr15 (w : World) (x : Int) (b off c : Nat) (h0 : w.cell? ⟨b, off, none⟩ = some (.int .i64 x)) :
    Calls Tryd.prog 45 #[.int .u8 15, .slice (some ⟨b, off, none⟩) 1 c] w fun e w' => e = .returned (.int .i64 (opNot x)) ∧ Below w.heap.size w w' := by
  unfold opNot
  by_cases hx : x = 0
  · subst hx
    rw [if_pos rfl]
    go_enter Tryd.func45, Tryd.ntmps45
    go_wp2
    go_quiet ((fail))
    go_wp2
    go_ret
    exact ⟨rfl, below_drewN (Below.refl _ _) nq⟩
  · rw [if_neg hx]
    have q : (x != 0) = true := by simpa using hx
    go_enter Tryd.func45, Tryd.ntmps45
    go_wp2
    go_quiet ((fail))
    go_wp2
    go_ret
    exact ⟨rfl, below_drewN (Below.refl _ _) nq⟩
theorem tr18 (w : World) (x y z : Int) (b off c : Nat) (h0 : w.cell? ⟨b, off, none⟩ = some (.int .i64 x)) (h1 : w.cell? ⟨b, off + 1, none⟩ = some (.int .i64 y)) (h2 : w.cell? ⟨b, off + 2, none⟩ = some (.int .i64 z)) :
    Calls Tryd.prog 45 #[.int .u8 18, .slice (some ⟨b, off, none⟩) 3 c] w fun e w' => e = .returned (.int .i64 (opIf x y z)) ∧ Below w.heap.size w w' := by
  unfold opIf
  by_cases hx : x = 0
  · subst hx
    rw [if_pos rfl]
    go_enter Tryd.func45, Tryd.ntmps45
    go_wp2
    go_quiet ((fail))
    go_wp2
    go_ret
    exact ⟨rfl, below_drewN (Below.refl _ _) nq⟩
  · rw [if_neg hx]
    have q : (x != 0) = true := by simpa using hx
    go_enter Tryd.func45, Tryd.ntmps45
    go_wp2
    go_quiet ((fail))
    go_wp2
    go_ret
    exact ⟨rfl, below_drewN (Below.refl _ _) nq⟩
end Go.Proofs.YtcaecfmjnboamaaDoor
