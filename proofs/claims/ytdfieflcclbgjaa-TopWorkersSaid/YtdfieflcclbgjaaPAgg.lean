/-
  The program's Agg: an operation, so many workers, a count, a part of each worker; what its calls come to.
-/
import Derived.Test.YtdfieflcclbgjaaRegAg
import Derived.Test.YtdfieflcclbgjaaAgD
import Derived.Test.YtdfieflcclbgjaaPFrom
namespace Go.Proofs.Ytdfieflcclbgjaa
open Go.RowKit Go.Deep Go.MapKept
def aggV (o n : Nat) (c : Int) (ps : List Int) : Array Value := (.int .u8 (o : Int) :: .int .i64 (n : Int) :: .int .i64 c :: ps.map (Value.int .i64)).toArray
/-- The program's Agg at p. -/
structure PAg (w : World) (p o n : Nat) (c : Int) (ps : List Int) : Prop where
  len : ps.length = 4
  blk : w.heap[p]? = some (.cells (aggV o n c ps) 84 (0, 0))
theorem PAg.lt {w : World} {p o n : Nat} {c : Int} {ps : List Int} (h : PAg w p o n c ps) : p < w.heap.size := (Array.getElem?_eq_some_iff.1 h.blk).1
theorem PAg.c0 {w : World} {p o n : Nat} {c : Int} {ps : List Int} (h : PAg w p o n c ps) : w.cell? ⟨p, 0, none⟩ = some (.int .u8 (o : Int)) := by rw [Lib.cell_of_heap h.blk]; rfl
theorem PAg.c1 {w : World} {p o n : Nat} {c : Int} {ps : List Int} (h : PAg w p o n c ps) : w.cell? ⟨p, 1, none⟩ = some (.int .i64 (n : Int)) := by rw [Lib.cell_of_heap h.blk]; rfl
theorem PAg.c2 {w : World} {p o n : Nat} {c : Int} {ps : List Int} (h : PAg w p o n c ps) : w.cell? ⟨p, 2, none⟩ = some (.int .i64 c) := by rw [Lib.cell_of_heap h.blk]; rfl
theorem PAg.c3 {w : World} {p o n : Nat} {c : Int} {ps : List Int} (h : PAg w p o n c ps) {j : Nat} {x : Int} (hx : ps[j]? = some x) : w.cell? ⟨p, 3 + j, none⟩ = some (.int .i64 x) := by
  rw [Lib.cell_of_heap h.blk]
  simp only [aggV, List.getElem?_toArray]
  rw [show 3 + j = j + 1 + 1 + 1 by omega]
  simp [hx]
theorem PAg.fz {w : World} {p o n : Nat} {c : Int} {ps : List Int} (h : PAg w p o n c ps) (j : Nat) : w.frozen? ⟨p, j, none⟩ = false := by simp [World.frozen?, h.blk]
theorem PAg.grown {w w' : World} {p o n : Nat} {c : Int} {ps : List Int} {row : Option Nat} (h : PAg w p o n c ps) (hg : w.grownBy w' row) (hr : row ≠ some p) : PAg w' p o n c ps := ⟨h.len, (hg.block p h.lt (Ne.symm hr)).trans h.blk⟩
theorem PAg.below {w w' : World} {B p o n : Nat} {c : Int} {ps : List Int} (h : PAg w p o n c ps) (hb : Below B w w') (hB : w.heap.size ≤ B) : PAg w' p o n c ps := ⟨h.len, (hb.block p (Nat.lt_of_lt_of_le h.lt hB)).trans h.blk⟩
theorem PAg.part {w : World} {p o n : Nat} {c : Int} {ps : List Int} (h : PAg w p o n c ps) (j : Nat) (x : Int) : PAg (w.setCell ⟨p, 3 + j, none⟩ (.int .i64 x)) p o n c (ps.set j x) := by
  refine ⟨by rw [List.length_set]; exact h.len, ?_⟩
  rw [heap_setCell_same _ _ _ _ _ _ h.blk]
  congr 2
  unfold aggV
  apply Array.ext'
  rw [Array.toList_setIfInBounds]
  simp only [show 3 + j = j + 1 + 1 + 1 by omega, List.set_cons_succ, List.map_set]
theorem PAg.count {w : World} {p o n : Nat} {c : Int} {ps : List Int} (h : PAg w p o n c ps) (x : Int) : PAg (w.setCell ⟨p, 2, none⟩ (.int .i64 x)) p o n x ps := by
  refine ⟨h.len, ?_⟩
  rw [heap_setCell_same _ _ _ _ _ _ h.blk]
  rfl
theorem set_grown (w : World) (p j : Nat) (u : Value) : w.grownBy (w.setCell ⟨p, j, none⟩ u) (some p) :=
  ⟨rfl, rfl, rfl, by simp, fun k _ hk => heap_setCell_other w ⟨p, j, none⟩ k u (fun e => hk (by simp [e]))⟩
theorem grown_tr {a b c : World} {p : Nat} (h : a.grownBy b (some p)) (k : b.grownBy c (some p)) : a.grownBy c (some p) :=
  ⟨k.1.trans h.1, k.2.trans h.2, k.3.trans h.3, Nat.le_trans h.4 k.4, fun i hi hne => (k.5 i (Nat.lt_of_lt_of_le hi h.4) hne).trans (h.5 i hi hne)⟩
theorem below_grown {w w' : World} {B p : Nat} (h : Below B w w') (hB : w.heap.size ≤ B) : w.grownBy w' (some p) := ⟨h.os, h.tape, h.output, h.size, fun k hk _ => h.block k (Nat.lt_of_lt_of_le hk hB)⟩
theorem check_nil (k : Int) (w : World) : Calls Try.prog 55 #[.pointer none, .int .i64 k] w fun e w' => e = .returned (.int .i64 1) ∧ w = w' := by
  go_enter Try.func55, Try.ntmps55
  go_wp2
  go_ret
  exact ⟨rfl, rfl⟩
theorem check_any {w : World} {p o n : Nat} {c : Int} {ps : List Int} (h : PAg w p o n c ps) (k : Int) : Calls Try.prog 55 #[.pointer (some ⟨p, 0, none⟩), .int .i64 k] w fun e w' => e = .returned (.int .i64 (mayE n k)) ∧ w = w' := by
  have k1 := h.c1
  clear h
  by_cases h0 : k < 0
  · have e : mayE n k = 2 := if_neg (by omega)
    rw [e]
    clear e
    go_enter Try.func55, Try.ntmps55
    go_wp2
    go_ret
    exact ⟨rfl, rfl⟩
  · have q0 : decide (k < 0) = false := by simpa using h0
    by_cases h1 : (n : Int) ≤ k
    · have e : mayE n k = 2 := if_neg (by omega)
      rw [e]
      clear e
      go_enter Try.func55, Try.ntmps55
      go_wp2
      go_ret
      exact ⟨rfl, rfl⟩
    · have q1 : decide ((n : Int) ≤ k) = false := by simpa using h1
      have e : mayE n k = 0 := if_pos (by omega)
      rw [e]
      clear e
      go_enter Try.func55, Try.ntmps55
      go_wp2
      go_ret
      exact ⟨rfl, rfl⟩
/-- The function that takes a number in: its boxes. -/
def Takes (w : World) (p ba bw : Nat) (z : Int) : Prop := w.cell? ⟨ba, 0, none⟩ = some (.pointer (some ⟨p, 0, none⟩)) ∧ w.cell? ⟨bw, 0, none⟩ = some (.int .i64 z)
theorem Takes.below {w w' : World} {B p ba bw : Nat} {z : Int} (h : Takes w p ba bw z) (hb : Below B w w') (hB : w.heap.size ≤ B) : Takes w' p ba bw z :=
  ⟨(hb.cell (Nat.lt_of_lt_of_le (World.block_lt_of_cell? w _ h.1) hB)).trans h.1, (hb.cell (Nat.lt_of_lt_of_le (World.block_lt_of_cell? w _ h.2) hB)).trans h.2⟩
theorem taking_any (w : World) (p : Nat) (z : Int) : Calls Try.prog 57 #[.pointer (some ⟨p, 0, none⟩), .int .i64 z] w fun e w' => ∃ ba bw, e = .returned (.func (.func 78) #[] #[.pointer (some ⟨ba, 0, none⟩), .pointer (some ⟨bw, 0, none⟩)]) ∧ Takes w' p ba bw z ∧ Below w.heap.size w w' := by
  have HB : Hid (Below w.heap.size w ((w.alloc (.cells #[.pointer (some ⟨p, 0, none⟩)] 50)).alloc (.cells #[.int .i64 z] 31))) := hidI (by (repeat (first | exact Below.refl _ _ | assumption | refine Below.drew ?_ | refine Below.alloc ?_ (by first | omega | (simp; done) | (simp; omega)) _ | refine Below.setCell ?_ (by first | omega | (simp; done) | (simp; omega)) _)))
  have HT : Hid (Takes ((w.alloc (.cells #[.pointer (some ⟨p, 0, none⟩)] 50)).alloc (.cells #[.int .i64 z] 31)) p w.heap.size (w.heap.size + 1) z) := hidI ⟨by go_simp, by go_simp⟩
  go_enter Try.func57, Try.ntmps57
  go_wp2
  go_ret
  exact ⟨_, _, rfl, HT.out, HB.out⟩
set_option maxRecDepth 100000 in
set_option maxHeartbeats 1000000 in
theorem took_any {w : World} {p o n : Nat} {c : Int} {ps : List Int} (h : PAg w p o n c ps) (ho : many5 o) {ba bw : Nat} {z : Int} (ht : Takes w p ba bw z) (x : Int) :
    Calls Try.prog 78 #[.int .i64 x, .pointer (some ⟨ba, 0, none⟩), .pointer (some ⟨bw, 0, none⟩)] w fun e w' => e = .returned (.int .i64 (opTwo o x z)) ∧ Below w.heap.size w w' := by
  have HS : Hid (w.drew.cell? ⟨ba, 0, none⟩ = some (.pointer (some ⟨p, 0, none⟩)) ∧ w.drew.cell? ⟨bw, 0, none⟩ = some (.int .i64 z) ∧ w.drew.cell? ⟨p, 0, none⟩ = some (.int .u8 (o : Int))) := hidI ⟨ht.1, ht.2, h.c0⟩
  clear h ht
  obtain ⟨R, hR⟩ : ∃ R, opTwo o x z = R := ⟨_, rfl⟩
  have HR := hidI hR
  rw [hR]
  clear hR
  go_enter Try.func78, Try.ntmps78
  go_wp2
  refine regG (p := p) (o := o) (x := x) (z := z) HS.out ho (fun _ _ _ _ _ h => h) ?_
  intro W t7 t8 t9 t10 t11 t12 t13 t14 t15 t16 t17 hb
  have HB := hidI ((Below.refl _ w).drew.trans hb)
  rw [HR.out]
  clear hb
  go_wp2
  go_ret
  exact ⟨rfl, HB.out⟩
theorem first_any (w : World) (ba : Nat) (f x : Int) (h : w.cell? ⟨ba, 0, none⟩ = some (.int .i64 f)) : Calls Try.prog 77 #[.int .i64 x, .pointer (some ⟨ba, 0, none⟩)] w fun e w' => e = .returned (.int .i64 f) ∧ w = w' := by
  go_enter Try.func77, Try.ntmps77
  go_wp2
  go_ret
  exact ⟨rfl, rfl⟩
def ChPost (w : World) (p o n : Nat) (c : Int) (ps : List Int) (e : Ending) (w' : World) : Prop := e = .returned (.tuple #[]) ∧ PAg w' p o n c ps ∧ w.grownBy w' (some p)
set_option maxRecDepth 100000 in
set_option maxHeartbeats 1000000 in
theorem change_take {w : World} {p o n : Nat} {c : Int} {ps : List Int} (h : PAg w p o n c ps) (ho : many5 o) {ba bw : Nat} {z : Int} (ht : Takes w p ba bw z) (wk : Nat) (x : Int) (hx : ps[wk]? = some x) :
    Calls Try.prog 56 #[.pointer (some ⟨p, 0, none⟩), .int .i64 (wk : Int), .func (.func 78) #[] #[.pointer (some ⟨ba, 0, none⟩), .pointer (some ⟨bw, 0, none⟩)]] w (ChPost w p o n c (ps.set wk (opTwo o x z))) := by
  have hw : wk < 4 := by have := (List.getElem?_eq_some_iff.1 hx).1; rw [h.len] at this; exact this
  have HS : Hid (w.drew.cell? ⟨p, 3 + wk, none⟩ = some (.int .i64 x)) := hidI (h.c3 hx)
  have HF : Hid (w.drew.frozen? ⟨p, 3 + wk, none⟩ = false) := hidI (h.fz _)
  have HA := hidI (h.below (Below.refl _ w).drew (Nat.le_refl _))
  have HC : Hid (∀ W, Below w.drew.heap.size w.drew W → Calls Try.prog 78 #[.int .i64 x, .pointer (some ⟨ba, 0, none⟩), .pointer (some ⟨bw, 0, none⟩)] W fun e w' => e = .returned (.int .i64 (opTwo o x z)) ∧ Below W.heap.size W w') := hidI fun W hW =>
    took_any (HA.out.below hW (Nat.le_refl _)) ho ((ht.below (Below.refl _ w).drew (Nat.le_refl _)).below hW (Nat.le_refl _)) x
  clear h ht hx
  go_enter Try.func56, Try.ntmps56
  go_wp2
  refine regCt (p := p) (wk := wk) (x := x) (y := opTwo o x z) HS.out hw HF.out HC.out (fun _ _ _ _ _ h => h) ?_
  intro W t6 t7 t8 t9 t10 t11 t12 t13 t14 t15 t16 t17 t18 hb
  have HP : Hid (ChPost w p o n c (ps.set wk (opTwo o x z)) (.returned (.tuple #[])) (W.setCell ⟨p, 3 + wk, none⟩ (.int .i64 (opTwo o x z)))) := hidI ⟨rfl, (HA.out.below hb (Nat.le_refl _)).part wk _, grown_tr (below_grown ((Below.refl _ w).drew.trans hb) (Nat.le_refl _)) (set_grown _ _ _ _)⟩
  clear hb HS HF HC HA
  generalize W.setCell ⟨p, 3 + wk, none⟩ (.int .i64 (opTwo o x z)) = W2 at *
  go_wp2
  go_end0
  exact HP.out
set_option maxRecDepth 100000 in
set_option maxHeartbeats 1000000 in
theorem change_clear {w : World} {p o n : Nat} {c : Int} {ps : List Int} (h : PAg w p o n c ps) {ba : Nat} {f : Int} (ht : w.cell? ⟨ba, 0, none⟩ = some (.int .i64 f)) (wk : Nat) (x : Int) (hx : ps[wk]? = some x) :
    Calls Try.prog 56 #[.pointer (some ⟨p, 0, none⟩), .int .i64 (wk : Int), .func (.func 77) #[] #[.pointer (some ⟨ba, 0, none⟩)]] w (ChPost w p o n c (ps.set wk f)) := by
  have hw : wk < 4 := by have := (List.getElem?_eq_some_iff.1 hx).1; rw [h.len] at this; exact this
  have HS : Hid (w.drew.cell? ⟨p, 3 + wk, none⟩ = some (.int .i64 x)) := hidI (h.c3 hx)
  have HF : Hid (w.drew.frozen? ⟨p, 3 + wk, none⟩ = false) := hidI (h.fz _)
  have HA := hidI (h.below (Below.refl _ w).drew (Nat.le_refl _))
  have HC : Hid (∀ W, Below w.drew.heap.size w.drew W → Calls Try.prog 77 #[.int .i64 x, .pointer (some ⟨ba, 0, none⟩)] W fun e w' => e = .returned (.int .i64 f) ∧ Below W.heap.size W w') := hidI fun W hW => by
    refine (first_any W ba f x ((hW.cell (p := ⟨ba, 0, none⟩) (World.block_lt_of_cell? w _ ht)).trans ht)).mono ?_
    rintro e w' ⟨rfl, rfl⟩
    exact ⟨rfl, Below.refl _ _⟩
  clear h ht hx
  go_enter Try.func56, Try.ntmps56
  go_wp2
  refine regCc (p := p) (wk := wk) (x := x) (y := f) HS.out hw HF.out HC.out (fun _ _ _ _ _ h => h) ?_
  intro W t6 t7 t8 t9 t10 t11 t12 t13 t14 t15 t16 t17 t18 hb
  have HP : Hid (ChPost w p o n c (ps.set wk f) (.returned (.tuple #[])) (W.setCell ⟨p, 3 + wk, none⟩ (.int .i64 f))) := hidI ⟨rfl, (HA.out.below hb (Nat.le_refl _)).part wk _, grown_tr (below_grown ((Below.refl _ w).drew.trans hb) (Nat.le_refl _)) (set_grown _ _ _ _)⟩
  clear hb HS HF HC HA
  generalize W.setCell ⟨p, 3 + wk, none⟩ (.int .i64 f) = W2 at *
  go_wp2
  go_end0
  exact HP.out
end Go.Proofs.Ytdfieflcclbgjaa
