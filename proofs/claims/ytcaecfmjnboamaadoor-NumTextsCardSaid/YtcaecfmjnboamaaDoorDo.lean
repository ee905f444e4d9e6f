/-
  The calls of num.Do: what they come to.
-/
import Derived.Test.YtcaecfmjnboamaaDoorOps
import Derived.Deep.QuietTactic
import Derived.BigQuiet
namespace Go.Proofs.YtcaecfmjnboamaaDoor
open Go.RowKit
def opTwo : Nat → Int → Int → Int
  | 1, a, b => wrap64 (a + b)
  | 2, a, b => wrap64 (a - b)
  | 3, a, b => wrap64 (a * b)
  | 4, a, b => dv a b
  | 5, a, b => md a b
  | 6, a, b => if b < a then b else a
  | 7, a, b => if a < b then b else a
  | 8, a, b => up a (b % 64).toNat
  | 9, a, b => dn a (b % 64).toNat
  | 10, a, b => bits .and .i64 a b
  | 11, a, b => bits .or .i64 a b
  | 12, a, b => bits .xor .i64 a b
  | 13, a, b => if a = b then 1 else 0
  | 14, a, b => if a < b then 1 else 0
  | 16, a, b => if ¬ a = 0 ∧ ¬ b = 0 then 1 else 0
  | 17, a, b => if ¬ a = 0 ∨ ¬ b = 0 then 1 else 0
  | 19, a, b => nar a b
  | _, _, _ => 0
theorem pair1 (a b : Int) (w : World) : Calls Tryd.prog 44 #[.int .u8 1, .int .i64 a, .int .i64 b] w fun e w' => e = .returned (.int .i64 (opTwo 1 a b)) ∧ w' = w := (two1 a b w).mono fun _ _ h => ⟨h.1, h.2.symm⟩
theorem do1 (w : World) (x y : Int) (b off c : Nat) (h0 : w.cell? ⟨b, off, none⟩ = some (.int .i64 x)) (h1 : w.cell? ⟨b, off + 1, none⟩ = some (.int .i64 y)) :
    Calls Tryd.prog 27 #[.int .u8 1, .slice (some ⟨b, off, none⟩) 2 c] w fun e w' => e = .returned (.tuple #[.int .i64 (opTwo 1 x y), .int .i64 0]) ∧ ∃ n, w' = w.drewN n := by
  go_enter Tryd.func27, Tryd.ntmps27
  go_wp2
  go_quiet ((go_at_call 44; exact Calls.quiet_of_same (pair1 _ _ _)))
  go_wp2
  go_ret2
  exact ⟨rfl, nq, rfl⟩
theorem pair2 (a b : Int) (w : World) : Calls Tryd.prog 44 #[.int .u8 2, .int .i64 a, .int .i64 b] w fun e w' => e = .returned (.int .i64 (opTwo 2 a b)) ∧ w' = w := (two2 a b w).mono fun _ _ h => ⟨h.1, h.2.symm⟩
theorem do2 (w : World) (x y : Int) (b off c : Nat) (h0 : w.cell? ⟨b, off, none⟩ = some (.int .i64 x)) (h1 : w.cell? ⟨b, off + 1, none⟩ = some (.int .i64 y)) :
    Calls Tryd.prog 27 #[.int .u8 2, .slice (some ⟨b, off, none⟩) 2 c] w fun e w' => e = .returned (.tuple #[.int .i64 (opTwo 2 x y), .int .i64 0]) ∧ ∃ n, w' = w.drewN n := by
  go_enter Tryd.func27, Tryd.ntmps27
  go_wp2
  go_quiet ((go_at_call 44; exact Calls.quiet_of_same (pair2 _ _ _)))
  go_wp2
  go_ret2
  exact ⟨rfl, nq, rfl⟩
theorem pair3 (a b : Int) (w : World) : Calls Tryd.prog 44 #[.int .u8 3, .int .i64 a, .int .i64 b] w fun e w' => e = .returned (.int .i64 (opTwo 3 a b)) ∧ w' = w := (two3 a b w).mono fun _ _ h => ⟨h.1, h.2.symm⟩
theorem do3 (w : World) (x y : Int) (b off c : Nat) (h0 : w.cell? ⟨b, off, none⟩ = some (.int .i64 x)) (h1 : w.cell? ⟨b, off + 1, none⟩ = some (.int .i64 y)) :
    Calls Tryd.prog 27 #[.int .u8 3, .slice (some ⟨b, off, none⟩) 2 c] w fun e w' => e = .returned (.tuple #[.int .i64 (opTwo 3 x y), .int .i64 0]) ∧ ∃ n, w' = w.drewN n := by
  go_enter Tryd.func27, Tryd.ntmps27
  go_wp2
  go_quiet ((go_at_call 44; exact Calls.quiet_of_same (pair3 _ _ _)))
  go_wp2
  go_ret2
  exact ⟨rfl, nq, rfl⟩
theorem pair4 (a b : Int) (w : World) : Calls Tryd.prog 44 #[.int .u8 4, .int .i64 a, .int .i64 b] w fun e w' => e = .returned (.int .i64 (opTwo 4 a b)) ∧ w' = w := (two4 a b w).mono fun _ _ h => ⟨h.1, h.2.symm⟩
theorem do4 (w : World) (x y : Int) (b off c : Nat) (h0 : w.cell? ⟨b, off, none⟩ = some (.int .i64 x)) (h1 : w.cell? ⟨b, off + 1, none⟩ = some (.int .i64 y)) :
    Calls Tryd.prog 27 #[.int .u8 4, .slice (some ⟨b, off, none⟩) 2 c] w fun e w' => e = .returned (.tuple #[.int .i64 (opTwo 4 x y), .int .i64 0]) ∧ ∃ n, w' = w.drewN n := by
  go_enter Tryd.func27, Tryd.ntmps27
  go_wp2
  go_quiet ((go_at_call 44; exact Calls.quiet_of_same (pair4 _ _ _)))
  go_wp2
  go_ret2
  exact ⟨rfl, nq, rfl⟩
theorem pair5 (a b : Int) (w : World) : Calls Tryd.prog 44 #[.int .u8 5, .int .i64 a, .int .i64 b] w fun e w' => e = .returned (.int .i64 (opTwo 5 a b)) ∧ w' = w := (two5 a b w).mono fun _ _ h => ⟨h.1, h.2.symm⟩
theorem do5 (w : World) (x y : Int) (b off c : Nat) (h0 : w.cell? ⟨b, off, none⟩ = some (.int .i64 x)) (h1 : w.cell? ⟨b, off + 1, none⟩ = some (.int .i64 y)) :
    Calls Tryd.prog 27 #[.int .u8 5, .slice (some ⟨b, off, none⟩) 2 c] w fun e w' => e = .returned (.tuple #[.int .i64 (opTwo 5 x y), .int .i64 0]) ∧ ∃ n, w' = w.drewN n := by
  go_enter Tryd.func27, Tryd.ntmps27
  go_wp2
  go_quiet ((go_at_call 44; exact Calls.quiet_of_same (pair5 _ _ _)))
  go_wp2
  go_ret2
  exact ⟨rfl, nq, rfl⟩
theorem pair6 (a b : Int) (w : World) : Calls Tryd.prog 44 #[.int .u8 6, .int .i64 a, .int .i64 b] w fun e w' => e = .returned (.int .i64 (opTwo 6 a b)) ∧ w' = w := (two6 a b w).mono fun _ _ h => ⟨h.1, h.2.symm⟩
theorem do6 (w : World) (x y : Int) (b off c : Nat) (h0 : w.cell? ⟨b, off, none⟩ = some (.int .i64 x)) (h1 : w.cell? ⟨b, off + 1, none⟩ = some (.int .i64 y)) :
    Calls Tryd.prog 27 #[.int .u8 6, .slice (some ⟨b, off, none⟩) 2 c] w fun e w' => e = .returned (.tuple #[.int .i64 (opTwo 6 x y), .int .i64 0]) ∧ ∃ n, w' = w.drewN n := by
  go_enter Tryd.func27, Tryd.ntmps27
  go_wp2
  go_quiet ((go_at_call 44; exact Calls.quiet_of_same (pair6 _ _ _)))
  go_wp2
  go_ret2
  exact ⟨rfl, nq, rfl⟩
theorem pair7 (a b : Int) (w : World) : Calls Tryd.prog 44 #[.int .u8 7, .int .i64 a, .int .i64 b] w fun e w' => e = .returned (.int .i64 (opTwo 7 a b)) ∧ w' = w := (two7 a b w).mono fun _ _ h => ⟨h.1, h.2.symm⟩
theorem do7 (w : World) (x y : Int) (b off c : Nat) (h0 : w.cell? ⟨b, off, none⟩ = some (.int .i64 x)) (h1 : w.cell? ⟨b, off + 1, none⟩ = some (.int .i64 y)) :
    Calls Tryd.prog 27 #[.int .u8 7, .slice (some ⟨b, off, none⟩) 2 c] w fun e w' => e = .returned (.tuple #[.int .i64 (opTwo 7 x y), .int .i64 0]) ∧ ∃ n, w' = w.drewN n := by
  go_enter Tryd.func27, Tryd.ntmps27
  go_wp2
  go_quiet ((go_at_call 44; exact Calls.quiet_of_same (pair7 _ _ _)))
  go_wp2
  go_ret2
  exact ⟨rfl, nq, rfl⟩
theorem pair8 (a b : Int) (w : World) : Calls Tryd.prog 44 #[.int .u8 8, .int .i64 a, .int .i64 b] w fun e w' => e = .returned (.int .i64 (opTwo 8 a b)) ∧ w' = w := (two8 a b w).mono fun _ _ h => ⟨h.1, h.2.symm⟩
theorem do8 (w : World) (x y : Int) (b off c : Nat) (h0 : w.cell? ⟨b, off, none⟩ = some (.int .i64 x)) (h1 : w.cell? ⟨b, off + 1, none⟩ = some (.int .i64 y)) :
    Calls Tryd.prog 27 #[.int .u8 8, .slice (some ⟨b, off, none⟩) 2 c] w fun e w' => e = .returned (.tuple #[.int .i64 (opTwo 8 x y), .int .i64 0]) ∧ ∃ n, w' = w.drewN n := by
  go_enter Tryd.func27, Tryd.ntmps27
  go_wp2
  go_quiet ((go_at_call 44; exact Calls.quiet_of_same (pair8 _ _ _)))
  go_wp2
  go_ret2
  exact ⟨rfl, nq, rfl⟩
theorem pair9 (a b : Int) (w : World) : Calls Tryd.prog 44 #[.int .u8 9, .int .i64 a, .int .i64 b] w fun e w' => e = .returned (.int .i64 (opTwo 9 a b)) ∧ w' = w := (two9 a b w).mono fun _ _ h => ⟨h.1, h.2.symm⟩
theorem do9 (w : World) (x y : Int) (b off c : Nat) (h0 : w.cell? ⟨b, off, none⟩ = some (.int .i64 x)) (h1 : w.cell? ⟨b, off + 1, none⟩ = some (.int .i64 y)) :
    Calls Tryd.prog 27 #[.int .u8 9, .slice (some ⟨b, off, none⟩) 2 c] w fun e w' => e = .returned (.tuple #[.int .i64 (opTwo 9 x y), .int .i64 0]) ∧ ∃ n, w' = w.drewN n := by
  go_enter Tryd.func27, Tryd.ntmps27
  go_wp2
  go_quiet ((go_at_call 44; exact Calls.quiet_of_same (pair9 _ _ _)))
  go_wp2
  go_ret2
  exact ⟨rfl, nq, rfl⟩
theorem pair10 (a b : Int) (w : World) : Calls Tryd.prog 44 #[.int .u8 10, .int .i64 a, .int .i64 b] w fun e w' => e = .returned (.int .i64 (opTwo 10 a b)) ∧ w' = w := (two10 a b w).mono fun _ _ h => ⟨h.1, h.2.symm⟩
theorem do10 (w : World) (x y : Int) (b off c : Nat) (h0 : w.cell? ⟨b, off, none⟩ = some (.int .i64 x)) (h1 : w.cell? ⟨b, off + 1, none⟩ = some (.int .i64 y)) :
    Calls Tryd.prog 27 #[.int .u8 10, .slice (some ⟨b, off, none⟩) 2 c] w fun e w' => e = .returned (.tuple #[.int .i64 (opTwo 10 x y), .int .i64 0]) ∧ ∃ n, w' = w.drewN n := by
  go_enter Tryd.func27, Tryd.ntmps27
  go_wp2
  go_quiet ((go_at_call 44; exact Calls.quiet_of_same (pair10 _ _ _)))
  go_wp2
  go_ret2
  exact ⟨rfl, nq, rfl⟩
theorem pair11 (a b : Int) (w : World) : Calls Tryd.prog 44 #[.int .u8 11, .int .i64 a, .int .i64 b] w fun e w' => e = .returned (.int .i64 (opTwo 11 a b)) ∧ w' = w := (two11 a b w).mono fun _ _ h => ⟨h.1, h.2.symm⟩
theorem do11 (w : World) (x y : Int) (b off c : Nat) (h0 : w.cell? ⟨b, off, none⟩ = some (.int .i64 x)) (h1 : w.cell? ⟨b, off + 1, none⟩ = some (.int .i64 y)) :
    Calls Tryd.prog 27 #[.int .u8 11, .slice (some ⟨b, off, none⟩) 2 c] w fun e w' => e = .returned (.tuple #[.int .i64 (opTwo 11 x y), .int .i64 0]) ∧ ∃ n, w' = w.drewN n := by
  go_enter Tryd.func27, Tryd.ntmps27
  go_wp2
  go_quiet ((go_at_call 44; exact Calls.quiet_of_same (pair11 _ _ _)))
  go_wp2
  go_ret2
  exact ⟨rfl, nq, rfl⟩
theorem pair12 (a b : Int) (w : World) : Calls Tryd.prog 44 #[.int .u8 12, .int .i64 a, .int .i64 b] w fun e w' => e = .returned (.int .i64 (opTwo 12 a b)) ∧ w' = w := (two12 a b w).mono fun _ _ h => ⟨h.1, h.2.symm⟩
theorem do12 (w : World) (x y : Int) (b off c : Nat) (h0 : w.cell? ⟨b, off, none⟩ = some (.int .i64 x)) (h1 : w.cell? ⟨b, off + 1, none⟩ = some (.int .i64 y)) :
    Calls Tryd.prog 27 #[.int .u8 12, .slice (some ⟨b, off, none⟩) 2 c] w fun e w' => e = .returned (.tuple #[.int .i64 (opTwo 12 x y), .int .i64 0]) ∧ ∃ n, w' = w.drewN n := by
  go_enter Tryd.func27, Tryd.ntmps27
  go_wp2
  go_quiet ((go_at_call 44; exact Calls.quiet_of_same (pair12 _ _ _)))
  go_wp2
  go_ret2
  exact ⟨rfl, nq, rfl⟩
theorem pair13 (a b : Int) (w : World) : Calls Tryd.prog 44 #[.int .u8 13, .int .i64 a, .int .i64 b] w fun e w' => e = .returned (.int .i64 (opTwo 13 a b)) ∧ w' = w := (two13 a b w).mono fun _ _ h => ⟨h.1, h.2.symm⟩
theorem do13 (w : World) (x y : Int) (b off c : Nat) (h0 : w.cell? ⟨b, off, none⟩ = some (.int .i64 x)) (h1 : w.cell? ⟨b, off + 1, none⟩ = some (.int .i64 y)) :
    Calls Tryd.prog 27 #[.int .u8 13, .slice (some ⟨b, off, none⟩) 2 c] w fun e w' => e = .returned (.tuple #[.int .i64 (opTwo 13 x y), .int .i64 0]) ∧ ∃ n, w' = w.drewN n := by
  go_enter Tryd.func27, Tryd.ntmps27
  go_wp2
  go_quiet ((go_at_call 44; exact Calls.quiet_of_same (pair13 _ _ _)))
  go_wp2
  go_ret2
  exact ⟨rfl, nq, rfl⟩
theorem pair14 (a b : Int) (w : World) : Calls Tryd.prog 44 #[.int .u8 14, .int .i64 a, .int .i64 b] w fun e w' => e = .returned (.int .i64 (opTwo 14 a b)) ∧ w' = w := (two14 a b w).mono fun _ _ h => ⟨h.1, h.2.symm⟩
theorem do14 (w : World) (x y : Int) (b off c : Nat) (h0 : w.cell? ⟨b, off, none⟩ = some (.int .i64 x)) (h1 : w.cell? ⟨b, off + 1, none⟩ = some (.int .i64 y)) :
    Calls Tryd.prog 27 #[.int .u8 14, .slice (some ⟨b, off, none⟩) 2 c] w fun e w' => e = .returned (.tuple #[.int .i64 (opTwo 14 x y), .int .i64 0]) ∧ ∃ n, w' = w.drewN n := by
  go_enter Tryd.func27, Tryd.ntmps27
  go_wp2
  go_quiet ((go_at_call 44; exact Calls.quiet_of_same (pair14 _ _ _)))
  go_wp2
  go_ret2
  exact ⟨rfl, nq, rfl⟩
theorem pair16 (a b : Int) (w : World) : Calls Tryd.prog 44 #[.int .u8 16, .int .i64 a, .int .i64 b] w fun e w' => e = .returned (.int .i64 (opTwo 16 a b)) ∧ w' = w := (two16 a b w).mono fun _ _ h => ⟨h.1, h.2.symm⟩
theorem do16 (w : World) (x y : Int) (b off c : Nat) (h0 : w.cell? ⟨b, off, none⟩ = some (.int .i64 x)) (h1 : w.cell? ⟨b, off + 1, none⟩ = some (.int .i64 y)) :
    Calls Tryd.prog 27 #[.int .u8 16, .slice (some ⟨b, off, none⟩) 2 c] w fun e w' => e = .returned (.tuple #[.int .i64 (opTwo 16 x y), .int .i64 0]) ∧ ∃ n, w' = w.drewN n := by
  go_enter Tryd.func27, Tryd.ntmps27
  go_wp2
  go_quiet ((go_at_call 44; exact Calls.quiet_of_same (pair16 _ _ _)))
  go_wp2
  go_ret2
  exact ⟨rfl, nq, rfl⟩
theorem pair17 (a b : Int) (w : World) : Calls Tryd.prog 44 #[.int .u8 17, .int .i64 a, .int .i64 b] w fun e w' => e = .returned (.int .i64 (opTwo 17 a b)) ∧ w' = w := (two17 a b w).mono fun _ _ h => ⟨h.1, h.2.symm⟩
theorem do17 (w : World) (x y : Int) (b off c : Nat) (h0 : w.cell? ⟨b, off, none⟩ = some (.int .i64 x)) (h1 : w.cell? ⟨b, off + 1, none⟩ = some (.int .i64 y)) :
    Calls Tryd.prog 27 #[.int .u8 17, .slice (some ⟨b, off, none⟩) 2 c] w fun e w' => e = .returned (.tuple #[.int .i64 (opTwo 17 x y), .int .i64 0]) ∧ ∃ n, w' = w.drewN n := by
  go_enter Tryd.func27, Tryd.ntmps27
  go_wp2
  go_quiet ((go_at_call 44; exact Calls.quiet_of_same (pair17 _ _ _)))
  go_wp2
  go_ret2
  exact ⟨rfl, nq, rfl⟩
theorem pair19 (a b : Int) (w : World) : Calls Tryd.prog 44 #[.int .u8 19, .int .i64 a, .int .i64 b] w fun e w' => e = .returned (.int .i64 (opTwo 19 a b)) ∧ w' = w := (two19 a b w).mono fun _ _ h => ⟨h.1, h.2.symm⟩
theorem do19 (w : World) (x y : Int) (b off c : Nat) (h0 : w.cell? ⟨b, off, none⟩ = some (.int .i64 x)) (h1 : w.cell? ⟨b, off + 1, none⟩ = some (.int .i64 y)) :
    Calls Tryd.prog 27 #[.int .u8 19, .slice (some ⟨b, off, none⟩) 2 c] w fun e w' => e = .returned (.tuple #[.int .i64 (opTwo 19 x y), .int .i64 0]) ∧ ∃ n, w' = w.drewN n := by
  go_enter Tryd.func27, Tryd.ntmps27
  go_wp2
  go_quiet ((go_at_call 44; exact Calls.quiet_of_same (pair19 _ _ _)))
  go_wp2
  go_ret2
  exact ⟨rfl, nq, rfl⟩
def two (o : Nat) : Prop := (1 ≤ o ∧ o ≤ 14) ∨ o = 16 ∨ o = 17 ∨ o = 19
theorem do_two (o : Nat) (ho : two o) (w : World) (x y : Int) (b off c : Nat) (h0 : w.cell? ⟨b, off, none⟩ = some (.int .i64 x)) (h1 : w.cell? ⟨b, off + 1, none⟩ = some (.int .i64 y)) :
    Calls Tryd.prog 27 #[.int .u8 o, .slice (some ⟨b, off, none⟩) 2 c] w fun e w' => e = .returned (.tuple #[.int .i64 (opTwo o x y), .int .i64 0]) ∧ ∃ n, w' = w.drewN n := by
  have h : o = 1 ∨ o = 2 ∨ o = 3 ∨ o = 4 ∨ o = 5 ∨ o = 6 ∨ o = 7 ∨ o = 8 ∨ o = 9 ∨ o = 10 ∨ o = 11 ∨ o = 12 ∨ o = 13 ∨ o = 14 ∨ o = 16 ∨ o = 17 ∨ o = 19 := by unfold two at ho; omega
  rcases h with rfl | rfl | rfl | rfl | rfl | rfl | rfl | rfl | rfl | rfl | rfl | rfl | rfl | rfl | rfl | rfl | rfl
  · exact do1 w x y b off c h0 h1
  · exact do2 w x y b off c h0 h1
  · exact do3 w x y b off c h0 h1
  · exact do4 w x y b off c h0 h1
  · exact do5 w x y b off c h0 h1
  · exact do6 w x y b off c h0 h1
  · exact do7 w x y b off c h0 h1
  · exact do8 w x y b off c h0 h1
  · exact do9 w x y b off c h0 h1
  · exact do10 w x y b off c h0 h1
  · exact do11 w x y b off c h0 h1
  · exact do12 w x y b off c h0 h1
  · exact do13 w x y b off c h0 h1
  · exact do14 w x y b off c h0 h1
  · exact do16 w x y b off c h0 h1
  · exact do17 w x y b off c h0 h1
  · exact do19 w x y b off c h0 h1
end Go.Proofs.YtcaecfmjnboamaaDoor
