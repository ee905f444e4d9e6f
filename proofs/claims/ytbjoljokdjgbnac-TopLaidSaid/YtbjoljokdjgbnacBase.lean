/-
  Small things: rows, and numbers that are set.
-/
import Derived.Test.YtbjoljokdjgbnacWide
import Derived.Test.YtbjoljokdjgbnacSame
import Derived.Deep.AppendLies
namespace Go.Proofs.Ytbjoljokdjgbnac
open Go.RowKit Go.Deep
theorem kept_cell {W W' : World} {row : Option Nat} {p : Addr} {x : Value} (hg : W.grownBy W' row) (hc : W.cell? p = some x) (hne : some p.block ≠ row) : W'.cell? p = some x :=
  (hg.cell_far p (World.block_lt_of_cell? W _ hc) hne).trans hc
theorem getD_set (ls : List Int) (i j : Nat) (z : Int) (hj : j < ls.length) : (ls.set i z).getD j 0 = if i = j then z else ls.getD j 0 := by
  simp only [List.getD, List.getElem?_set]
  by_cases h : i = j
  · subst h; simp [hj]
  · simp [h]
theorem gtrans {W W1 W2 : World} {row : Option Nat} (h : W.grownBy W1 row) (k : W1.grownBy W2 row) : W.grownBy W2 row :=
  ⟨k.1.trans h.1, k.2.trans h.2, k.3.trans h.3, Nat.le_trans h.4 k.4, fun i hi hne => (k.block i (Nat.lt_of_lt_of_le hi h.size) hne).trans (h.block i hi hne)⟩
theorem lstep_nat (k : Int) (L : List Int) (p q : Nat) : lstep k L ((p : Int), (q : Int)) = if L.getD p 0 = k ∧ L.getD q 0 < 0 then L.set q (k + 1) else L := by
  unfold lstep; simp only [Int.toNat_natCast]
theorem levels_length (N : Nat) (es : Edges) (root : Int) : (levels N es root).length = N := by
  unfold levels; split
  · rw [fold_length]; simp
  · simp
theorem make1 (c : Nat) (hc : c ≤ 1000) (W : World) : (Instr.makeSlice 70 (.int .i64 (c : Int)) (.int .i64 (c : Int))).run Try.prog W = .ok (.slice (some ⟨W.heap.size, 0, none⟩) c c) (W.alloc (.cells (madeCells #[.int .i64 0] c) 3)) := by
  obtain ⟨i0, hi, hz0, hz1, hz2⟩ := info_parts Try.info3
  have := run_make (P := Try.prog) W 70 3 i0 (.int .i64 0) Try.underlying70 hi hz0 .i64 .i64 (c : Int) (c : Int) (by omega) (by omega) (by rw [hz2]; omega) (by omega)
  rw [hz1] at this
  simp only [Int.toNat_natCast, Nat.mul_one] at this
  exact this
end Go.Proofs.Ytbjoljokdjgbnac
