/-
  Rows of truths, made.
-/
import Derived.Test.YtbjoljokdjgbnabMat
namespace Go.Proofs.Ytbjoljokdjgbnab
open Go.RowKit Go.Deep
theorem Try.info35 : (Try.prog.info? 35).map (fun i => (i.zero, i.size, i.bytes)) = some (some (.slice none 0 0), 1, 24) := by kernel_rfl
theorem Try.info4 : (Try.prog.info? 4).map (fun i => (i.zero, i.size, i.bytes)) = some (some (.bool false), 1, 1) := by kernel_rfl
theorem make69 (c : Nat) (hc : c ≤ 1000) (W : World) : (Instr.makeSlice 35 (.int .i64 (c : Int)) (.int .i64 (c : Int))).run Try.prog W = .ok (.slice (some ⟨W.heap.size, 0, none⟩) c c) (W.alloc (.cells (madeCells #[.bool false] c) 4)) := by
  obtain ⟨i0, hi, hz0, hz1, hz2⟩ := info_parts Try.info4
  have := run_make (P := Try.prog) W 35 4 i0 (.bool false) Try.underlying35 hi hz0 .i64 .i64 (c : Int) (c : Int) (by omega) (by omega) (by rw [hz2]; omega) (by omega)
  rw [hz1] at this
  simp only [Int.toNat_natCast, Nat.mul_one] at this
  exact this
/-- The slices of the rows. -/
def rowsAt (N : Nat) (gs : Nat → Nat) (k : Nat) : List Value := (List.range k).map fun i => .slice (some ⟨gs i, 0, none⟩) N N
theorem rowsAt_succ (N : Nat) (gs : Nat → Nat) (k r : Nat) : rowsAt N (fun i => if i = k then r else gs i) (k + 1) = rowsAt N gs k ++ [.slice (some ⟨r, 0, none⟩) N N] := by
  simp only [rowsAt, List.range_succ, List.map_append, List.map_cons, List.map_nil, if_true]
  congr 1
  apply List.map_congr_left
  intro i hi
  have : i < k := by simpa using hi
  rw [if_neg (by omega)]
end Go.Proofs.Ytbjoljokdjgbnab
