/-
  What stands in memory while workers take messages: two sums, a box with two rows, and all messages.
-/
import Derived.Test.YtdfieflcclbgjaaAgW
import Derived.Test.YtdfieflcclbgjaaMBase
import Derived.Laws.Bits128
namespace Go.Proofs.Ytdfieflcclbgjaa
open Go.RowKit Go.Deep Go.MapKept
theorem grown_in {w x w' : World} {row : Option Nat} (h : Below w.heap.size w x) (g : x.grownBy w' row) : w.grownBy w' row :=
  ⟨g.os.trans h.os, g.tape.trans h.tape, g.output.trans h.output, Nat.le_trans h.size g.size, fun k hk hr => (g.block k (Nat.lt_of_lt_of_le hk h.size) hr).trans (h.block k hk)⟩
theorem grown_none {w x : World} {B : Nat} (row : Option Nat) (h : Below B w x) (hB : w.heap.size ≤ B) : w.grownBy x row := ⟨h.os, h.tape, h.output, h.size, fun k hk _ => h.block k (Nat.lt_of_lt_of_le hk hB)⟩
/-- A sum that has taken numbers in. -/
def Tk (w : World) (p n : Nat) (c : Int) (ws : List Int) : Prop := ∃ ps rows, PAg w p 1 n c ps ∧ Parts 1 n ps rows ∧ rows.flatten.Perm ws
theorem Tk.grown {w w' : World} {p n : Nat} {c : Int} {ws : List Int} {row : Option Nat} (h : Tk w p n c ws) (hg : w.grownBy w' row) (hr : row ≠ some p) : Tk w' p n c ws := by
  obtain ⟨ps, rows, h1, h2, h3⟩ := h
  exact ⟨ps, rows, h1.grown hg hr, h2, h3⟩
def upV (V : Nat → Value) (q : Nat) (v : Value) : Nat → Value := fun j => if j = q then v else V j
def upR (R : Nat → List Msg) (q : Nat) (m : Msg) : Nat → List Msg := fun j => if j = q then R j ++ [m] else R j
structure TW (w : World) (B pA pB bx : Nat) (V : Nat → Value) (va : Value) (R : Nat → List Msg) (xs : List Msg) (c d : Nat) (ca cb : List Int) : Prop where
  a : Tk w pA 2 (c : Int) ca
  b : Tk w pB 1 (d : Int) cb
  box : w.heap[bx]? = some (.cells #[V 0, V 1] 52 (0, 0))
  rows : ∀ q, q < 2 → w.ownsRow B 48 3 (V q) (R q).length (flatM (R q))
  all : w.ownsRow B 48 3 va xs.length (flatM xs)
  d01 : ∀ k, (V 0).ownBlock = some k → (V 1).ownBlock ≠ some k
  da : ∀ q, q < 2 → ∀ k, (V q).ownBlock = some k → va.ownBlock ≠ some k
  lo : pA < B ∧ pB < B ∧ bx < B ∧ B ≤ w.heap.size
  ne : pA ≠ pB ∧ bx ≠ pA ∧ bx ≠ pB
variable {w w' : World} {B pA pB bx : Nat} {V : Nat → Value} {va : Value} {R : Nat → List Msg} {xs : List Msg} {c d : Nat} {ca cb : List Int}
theorem TW.low (h : TW w B pA pB bx V va R xs c d ca cb) {k : Nat} (hk : k < B) : (∀ q, q < 2 → (V q).ownBlock ≠ some k) ∧ va.ownBlock ≠ some k :=
  ⟨fun q hq e => by have := ((h.rows q hq).lt k e).1; omega, fun e => by have := (h.all.lt k e).1; omega⟩
theorem TW.dd (h : TW w B pA pB bx V va R xs c d ca cb) {q j : Nat} (hq : q < 2) (hj : j < 2) (hne : j ≠ q) {k : Nat} (hk : (V q).ownBlock = some k) : (V j).ownBlock ≠ some k := by
  have : (q = 0 ∧ j = 1) ∨ (q = 1 ∧ j = 0) := by omega
  rcases this with ⟨rfl, rfl⟩ | ⟨rfl, rfl⟩
  · exact h.d01 k hk
  · exact fun e => h.d01 k e hk
theorem TW.below (h : TW w B pA pB bx V va R xs c d ca cb) (hb : Below w.heap.size w w') : TW w' B pA pB bx V va R xs c d ca cb := by
  have hg := grown_none none hb (Nat.le_refl _)
  exact ⟨h.a.grown hg (by simp), h.b.grown hg (by simp), (hg.block bx (by have := h.lo; omega) (by simp)).trans h.box, fun q hq => (h.rows q hq).kept hg (by cases (V q).ownBlock <;> simp), h.all.kept hg (by cases va.ownBlock <;> simp), h.d01, h.da, ⟨h.lo.1, h.lo.2.1, h.lo.2.2.1, Nat.le_trans h.lo.2.2.2 hg.size⟩, h.ne⟩
theorem ne_of {v : Value} {row : Option Nat} (h : ∀ k, v.ownBlock = some k → row ≠ some k) : v.ownBlock = none ∨ v.ownBlock ≠ row := by
  cases hv : v.ownBlock with
  | none => exact .inl rfl
  | some k => exact .inr fun e => h k hv e.symm
theorem set_box {V : Nat → Value} {q : Nat} (hq : q < 2) (v : Value) : (#[V 0, V 1] : Array Value).setIfInBounds q v = #[upV V q v 0, upV V q v 1] := by
  have : q = 0 ∨ q = 1 := by omega
  rcases this with rfl | rfl <;> simp [upV]
/-- A row of the box that takes a message. -/
theorem TW.push (h : TW w B pA pB bx V va R xs c d ca cb) {q : Nat} (hq : q < 2) (m : Msg) {v : Value} (hg : w.grownBy w' (V q).ownBlock) (ho : w'.ownsRow B 48 3 v ((R q).length + 1) (flatM (R q) ++ m.cells)) (hat : v.ownBlock = (V q).ownBlock ∨ ∃ k, v.ownBlock = some k ∧ w.heap.size ≤ k) :
    TW (w'.setCell ⟨bx, q, none⟩ v) B pA pB bx (upV V q v) va (upR R q m) xs c d ca cb := by
  have hs := set_grown w' bx q v
  have lA := h.low h.lo.1
  have lB := h.low h.lo.2.1
  have lX := h.low h.lo.2.2.1
  have hx : w'.heap[bx]? = some (.cells #[V 0, V 1] 52 (0, 0)) := (hg.block bx (by have := h.lo; omega) (fun e => lX.1 q hq e.symm)).trans h.box
  refine ⟨(h.a.grown hg (lA.1 q hq)).grown hs (by have := h.ne; simpa using this.2.1), (h.b.grown hg (lB.1 q hq)).grown hs (by have := h.ne; simpa using this.2.2), ?_, fun j hj => ?_, ?_, fun k hk => ?_, fun j hj k hk => ?_, ⟨h.lo.1, h.lo.2.1, h.lo.2.2.1, Nat.le_trans h.lo.2.2.2 (Nat.le_trans hg.size hs.size)⟩, h.ne⟩
  · rw [← set_box hq]
    exact heap_setCell_same _ _ _ _ _ _ hx
  · by_cases e : j = q
    · subst e
      have e1 : upV V j v j = v := if_pos rfl
      have e2 : upR R j m j = R j ++ [m] := if_pos rfl
      rw [e1, e2, List.length_append, List.length_singleton, flatM_append, flatM_one]
      exact ho.kept hs (ne_of fun k hk he => by have := (ho.lt k hk).1; have := h.lo; simp at he; omega)
    · have e1 : upV V q v j = V j := if_neg e
      have e2 : upR R q m j = R j := if_neg e
      rw [e1, e2]
      refine ((h.rows j hj).kept hg (ne_of fun k hk he => h.dd hq hj e he hk)).kept hs (ne_of fun k hk he => lX.1 j hj ?_)
      rw [hk, ← he]
  · exact (h.all.kept hg (ne_of fun k hk he => h.da q hq k he hk)).kept hs (ne_of fun k hk he => lX.2 (by rw [hk, ← he]))
  · have old : ∀ j, j < 2 → ∀ k, (V j).ownBlock = some k → k < w.heap.size := fun j hj k hk => ((h.rows j hj).lt k hk).2
    have key : ∀ j, j < 2 → j ≠ q → ∀ k, v.ownBlock = some k → (V j).ownBlock ≠ some k := fun j hj hne k hv he => by
      rcases hat with e | ⟨k', e, hk'⟩
      · rw [e] at hv; exact h.dd hq hj hne hv he
      · rw [e] at hv; cases hv; have := old j hj k he; omega
    have : q = 0 ∨ q = 1 := by omega
    rcases this with rfl | rfl
    · simp only [upV] at hk ⊢
      exact key 1 (by omega) (by omega) k hk
    · simp only [upV] at hk ⊢
      exact fun e => key 0 (by omega) (by omega) k e hk
  · by_cases e : j = q
    · subst e
      have e1 : upV V j v j = v := if_pos rfl
      rw [e1] at hk
      rcases hat with e | ⟨k', e, hk'⟩
      · rw [e] at hk; exact h.da j hj k hk
      · rw [e] at hk; cases hk; exact fun he => by have := (h.all.lt k he).2; omega
    · have e1 : upV V q v j = V j := if_neg e
      rw [e1] at hk
      exact h.da j hj k hk
/-- All messages take one more. -/
theorem TW.more (h : TW w B pA pB bx V va R xs c d ca cb) (m : Msg) {v : Value} (hg : w.grownBy w' va.ownBlock) (ho : w'.ownsRow B 48 3 v (xs.length + 1) (flatM xs ++ m.cells)) (hat : v.ownBlock = va.ownBlock ∨ ∃ k, v.ownBlock = some k ∧ w.heap.size ≤ k) :
    TW w' B pA pB bx V v R (xs ++ [m]) c d ca cb := by
  have lA := h.low h.lo.1
  have lB := h.low h.lo.2.1
  have lX := h.low h.lo.2.2.1
  refine ⟨h.a.grown hg lA.2, h.b.grown hg lB.2, (hg.block bx (by have := h.lo; omega) (fun e => lX.2 e.symm)).trans h.box, fun j hj => (h.rows j hj).kept hg (ne_of fun k hk he => h.da j hj k hk he), ?_, h.d01, fun j hj k hk => ?_, ⟨h.lo.1, h.lo.2.1, h.lo.2.2.1, Nat.le_trans h.lo.2.2.2 hg.size⟩, h.ne⟩
  · rw [List.length_append, List.length_singleton, flatM_append, flatM_one]
    exact ho
  · rcases hat with e | ⟨k', e, hk'⟩
    · rw [e]; exact h.da j hj k hk
    · rw [e]; exact fun he => by cases he; have := ((h.rows j hj).lt k hk).2; omega
theorem TW.takeA (h : TW w B pA pB bx V va R xs c d ca cb) {e : Ending} {z : Int} (ht : TwPost w pA 1 2 ((c : Int) + 1) (ca ++ [z]) e w') : e = .returned (.int .i64 0) ∧ TW w' B pA pB bx V va R xs (c + 1) d (ca ++ [z]) cb ∧ w.grownBy w' (some pA) := by
  obtain ⟨he, hn, hg⟩ := ht
  have l := h.low h.lo.1
  refine ⟨he, ⟨?_, h.b.grown hg (by have := h.ne; simpa using this.1), (hg.block bx (by have := h.lo; omega) (by have := h.ne; simpa using this.2.1)).trans h.box, fun j hj => (h.rows j hj).kept hg (ne_of fun k hk e' => l.1 j hj (by rw [hk, ← e'])), h.all.kept hg (ne_of fun k hk e' => l.2 (by rw [hk, ← e'])), h.d01, h.da, ⟨h.lo.1, h.lo.2.1, h.lo.2.2.1, Nat.le_trans h.lo.2.2.2 hg.size⟩, h.ne⟩, hg⟩
  rw [show ((c + 1 : Nat) : Int) = (c : Int) + 1 by omega]
  exact hn
theorem TW.takeB (h : TW w B pA pB bx V va R xs c d ca cb) {e : Ending} {z : Int} (ht : TwPost w pB 1 1 ((d : Int) + 1) (cb ++ [z]) e w') : e = .returned (.int .i64 0) ∧ TW w' B pA pB bx V va R xs c (d + 1) ca (cb ++ [z]) ∧ w.grownBy w' (some pB) := by
  obtain ⟨he, hn, hg⟩ := ht
  have l := h.low h.lo.2.1
  refine ⟨he, ⟨h.a.grown hg (by have := h.ne; simpa using fun e => this.1 e.symm), ?_, (hg.block bx (by have := h.lo; omega) (by have := h.ne; simpa using this.2.2)).trans h.box, fun j hj => (h.rows j hj).kept hg (ne_of fun k hk e' => l.1 j hj (by rw [hk, ← e'])), h.all.kept hg (ne_of fun k hk e' => l.2 (by rw [hk, ← e'])), h.d01, h.da, ⟨h.lo.1, h.lo.2.1, h.lo.2.2.1, Nat.le_trans h.lo.2.2.2 hg.size⟩, h.ne⟩, hg⟩
  rw [show ((d + 1 : Nat) : Int) = (d : Int) + 1 by omega]
  exact hn
theorem many1 : many5 1 := .inl rfl
theorem TW.callA (h : TW w B pA pB bx V va R xs c d ca cb) (q : Nat) (hq : q < 2) (z : Int) (hc : c ≤ 100) : Calls Try.prog 28 #[.pointer (some ⟨pA, 0, none⟩), .int .i64 (q : Int), .int .i64 z] w fun e w' => e = .returned (.int .i64 0) ∧ TW w' B pA pB bx V va R xs (c + 1) d (ca ++ [z]) cb ∧ w.grownBy w' (some pA) := by
  obtain ⟨ps, rows, h1, h2, h3⟩ := h.a
  exact (takew_any h1 h2 h3 many1 q hq z (by omega) (by omega)).mono fun e w' ht => h.takeA ht
theorem TW.callB (h : TW w B pA pB bx V va R xs c d ca cb) (z : Int) (hc : d ≤ 100) : Calls Try.prog 28 #[.pointer (some ⟨pB, 0, none⟩), .int .i64 0, .int .i64 z] w fun e w' => e = .returned (.int .i64 0) ∧ TW w' B pA pB bx V va R xs c (d + 1) ca (cb ++ [z]) ∧ w.grownBy w' (some pB) := by
  obtain ⟨ps, rows, h1, h2, h3⟩ := h.b
  exact (takew_any h1 h2 h3 many1 0 (by omega) z (by omega) (by omega)).mono fun e w' ht => h.takeB ht
theorem Tk.whole {w : World} {p n : Nat} {c : Int} {ws : List Int} (h : Tk w p n c ws) (hw : ∀ z ∈ ws, In64 z) (k : Nat) (hk : k < 18446744073709551616) : Calls Try.prog 29 #[.pointer (some ⟨p, 0, none⟩), .int .u64 (k : Int)] w fun e w' => e = .returned (.tuple #[.int .i64 (partR 1 ws), .int .i64 0]) ∧ Below w.heap.size w w' := by
  obtain ⟨ps, rows, h1, h2, h3⟩ := h
  have := pwhole_any h1 many1 h2.2.2.1 k hk
  rw [whole_eq many1 h2 h3 (fun z hz => by unfold DW; simpa using hw z hz) k] at this
  exact this
theorem TW.spot (h : TW w B pA pB bx V va R xs c d ca cb) {q : Nat} (hq : q < 2) : w.cell? ⟨bx, q, none⟩ = some (V q) := by
  rw [Lib.cell_of_heap h.box]
  have : q = 0 ∨ q = 1 := by omega
  rcases this with rfl | rfl <;> rfl
theorem perm_up {R : Nat → List Msg} {l : List Msg} {q : Nat} (hq : q < 2) (m : Msg) (h : (R 0 ++ R 1).Perm l) : (upR R q m 0 ++ upR R q m 1).Perm (l ++ [m]) := by
  have : q = 0 ∨ q = 1 := by omega
  rcases this with rfl | rfl
  · have e : upR R 0 m 0 ++ upR R 0 m 1 = R 0 ++ [m] ++ R 1 := rfl
    rw [e, List.append_assoc]
    refine List.Perm.trans ?_ (h.append_right [m])
    rw [List.append_assoc]
    exact List.perm_append_comm.append_left (R 0)
  · have e : upR R 1 m 0 ++ upR R 1 m 1 = R 0 ++ (R 1 ++ [m]) := rfl
    rw [e, ← List.append_assoc]
    exact h.append_right [m]
theorem and1u (n : Int) : bits .and .u64 n 1 = n % 2 := by
  have h1 : (BitVec.ofInt 64 1).toNat = 2 ^ 1 - 1 := by decide
  have key : (BitVec.ofInt 64 n &&& BitVec.ofInt 64 1).toNat = (n % ((2 ^ 64 : Nat) : Int)).toNat % 2 ^ 1 := by
    rw [BitVec.toNat_and, BitVec.toNat_ofInt, h1, Nat.and_two_pow_sub_one_eq_mod]
  show IntKind.u64.wrap ((BitVec.ofInt 64 n &&& BitVec.ofInt 64 1).toNat : Nat) = n % 2
  rw [key, IntKind.wrap_u64]
  omega
end Go.Proofs.Ytdfieflcclbgjaa
