/-
  What has been put together so far: a row of bytes of one's own, and blocks that stay.
-/
import Derived.Test.YtdfieflcclbgjaaMByte
import Derived.Lib.Builder
import Derived.RangeFuncBox
namespace Go.Proofs.Ytdfieflcclbgjaa
open Go.RowKit Go.Deep Go.MapKept
abbrev OwnB (w : World) (base : Nat) (v : Value) (bs : List Int) : Prop := w.ownsRow base 5 1 v bs.length (cellsB bs)
theorem cellsB_append (a b : List Int) : cellsB (a ++ b) = cellsB a ++ cellsB b := by simp [cellsB]
theorem own_built (w : World) (z : Int) : OwnB (w.alloc (.cells #[.int .u8 z] 5)) w.heap.size (.slice (some ⟨w.heap.size, 0, none⟩) 1 1) [z] :=
  ⟨rfl, .inr ⟨w.heap.size, 1, #[.int .u8 z], rfl, Nat.le_refl _, (MapKept.heap_alloc w _).1, Nat.le_refl _, by decide, rfl, rfl⟩⟩
theorem sees_built (w : World) (bs : List Int) : SeesC (w.alloc (.cells (cellsB bs).toArray 5)) (.slice (some ⟨w.heap.size, 0, none⟩) bs.length bs.length) bs.length 1 (cellsB bs) := by
  refine ⟨by simp [cellsB], _, _, rfl, .inr ⟨w.heap.size, 0, rfl, fun j c hc => ?_⟩⟩
  rw [Lib.cell_of_heap (MapKept.heap_alloc w _).1]
  simpa using hc
theorem OwnB.more {w : World} {base : Nat} {v : Value} {a b : List Int} (h : w.ownsRow base 5 1 v (a.length + b.length) (cellsB a ++ cellsB b)) : OwnB w base v (a ++ b) := by
  show w.ownsRow base 5 1 v (a ++ b).length (cellsB (a ++ b))
  rw [List.length_append, cellsB_append]
  exact h
theorem OwnB.grow {w0 w w' : World} {v : Value} {bs : List Int} (h : OwnB w w0.heap.size v bs) (hb : Below w0.heap.size w0 w) (hg : w.grownBy w' v.ownBlock) : Below w0.heap.size w0 w' := Below.grown hb hg hb.size (fun k hk => (h.lt k hk).1)
def Room (u : Value) : Prop := ∃ a m c, u = .slice a m c ∧ m ≤ c
theorem own_room {w : World} {base : Nat} {v : Value} {bs : List Int} (h : OwnB w base v bs) : Room v := by
  rcases h.2 with ⟨rfl, h0⟩ | ⟨g, cap, cur, rfl, _, _, hle, _⟩
  · exact ⟨none, 0, 0, rfl, Nat.le_refl _⟩
  · exact ⟨_, _, cap, rfl, hle⟩
def EncPost (w : World) (bs : List Int) (e : Ending) (w' : World) : Prop := ∃ u, e = .returned (.tuple #[u, .int .i64 0]) ∧ SeesC w' u bs.length 1 (cellsB bs) ∧ Below w.heap.size w w' ∧ Room u
theorem own_slice {w : World} {base : Nat} {v : Value} {bs : List Int} (h : OwnB w base v bs) : ∃ a c, v = .slice a bs.length c := by
  rcases h.2 with ⟨rfl, h0⟩ | ⟨g, cap, cur, rfl, _⟩
  · exact ⟨none, 0, by rw [h0]⟩
  · exact ⟨_, cap, rfl⟩
def notB (o : Obj) : Prop := ∀ cs f, o ≠ .cells cs 5 f
structure Keep (w0 W : World) (v : Value) (pre : List Int) (X : List (Nat × Obj)) : Prop where
  own : OwnB W w0.heap.size v pre
  low : Below w0.heap.size w0 W
  obj : ∀ p ∈ X, W.heap[p.1]? = some p.2 ∧ notB p.2
theorem Keep.ne {w0 W : World} {v : Value} {pre : List Int} {X : List (Nat × Obj)} (h : Keep w0 W v pre X) {p : Nat × Obj} (hp : p ∈ X) : v.ownBlock ≠ some p.1 := by
  intro e
  obtain ⟨h1, h2⟩ := h.obj p hp
  rcases h.own.2 with ⟨rfl, _⟩ | ⟨g, cap, cur, rfl, _, hg, _⟩
  · simp [Value.ownBlock] at e
  · simp [Value.ownBlock] at e
    subst e
    rw [h1] at hg
    exact h2 cur _ (Option.some.inj hg)
theorem Keep.alloc {w0 W : World} {v : Value} {pre : List Int} {X : List (Nat × Obj)} (h : Keep w0 W v pre X) (o : Obj) : Keep w0 (W.alloc o) v pre X :=
  ⟨World.ownsRow.alloc h.own o, h.low.alloc h.low.size _, fun p hp => ⟨(Lib.alloc_old W o p.1 (Array.getElem?_eq_some_iff.1 (h.obj p hp).1).1).trans (h.obj p hp).1, (h.obj p hp).2⟩⟩
theorem Keep.add {w0 W : World} {v : Value} {pre : List Int} {X : List (Nat × Obj)} (h : Keep w0 W v pre X) (o : Obj) (ho : notB o) : Keep w0 (W.alloc o) v pre ((W.heap.size, o) :: X) := by
  refine ⟨(h.alloc o).own, (h.alloc o).low, fun p hp => ?_⟩
  rcases List.mem_cons.1 hp with rfl | hp
  · exact ⟨World.alloc_heap_new W o, ho⟩
  · exact (h.alloc o).obj p hp
theorem Keep.below {w0 W W' : World} {v : Value} {pre : List Int} {X : List (Nat × Obj)} (h : Keep w0 W v pre X) (hb : Below W.heap.size W W') : Keep w0 W' v pre X := by
  refine ⟨h.own.kept (row := none) ⟨hb.os, hb.tape, hb.output, hb.size, fun k hk _ => hb.block k hk⟩ (by cases hv : v.ownBlock <;> simp), h.low.trans (hb.mono h.low.size), fun p hp => ⟨(hb.block p.1 (Array.getElem?_eq_some_iff.1 (h.obj p hp).1).1).trans (h.obj p hp).1, (h.obj p hp).2⟩⟩
theorem Keep.app {w0 W W' : World} {v v' : Value} {pre bs : List Int} {X : List (Nat × Obj)} (h : Keep w0 W v pre X) (ho : W'.ownsRow w0.heap.size 5 1 v' (pre.length + bs.length) (cellsB pre ++ cellsB bs)) (hg : W.grownBy W' v.ownBlock) : Keep w0 W' v' (pre ++ bs) X := by
  refine ⟨OwnB.more ho, h.own.grow h.low hg, fun p hp => ?_⟩
  obtain ⟨h1, h2⟩ := h.obj p hp
  have hlt := (Array.getElem?_eq_some_iff.1 h1).1
  exact ⟨(hg.block p.1 hlt (fun e => h.ne hp e.symm)).trans h1, h2⟩
theorem notB_cells (cs : Array Value) (t : TypeId) (f : Nat × Nat) (h : t ≠ 5) : notB (.cells cs t f) := by
  intro cs' f' e
  injection e with e1 e2 e3
  exact h e2
theorem Keep.few {w0 W : World} {v : Value} {pre : List Int} {X Y : List (Nat × Obj)} (h : Keep w0 W v pre X) (hY : ∀ p ∈ Y, p ∈ X) : Keep w0 W v pre Y := ⟨h.own, h.low, fun p hp => h.obj p (hY p hp)⟩
theorem Keep.slice {w0 W : World} {v : Value} {pre : List Int} {X : List (Nat × Obj)} (h : Keep w0 W v pre X) : ∃ a c, v = .slice a pre.length c := own_slice h.own
theorem obj_cell {w : World} {k j : Nat} {cs : Array Value} {t : TypeId} {v : Value} (h : w.heap[k]? = some (.cells cs t (0, 0))) (hv : cs[j]? = some v) : w.cell? ⟨k, j, none⟩ = some v := by rw [Lib.cell_of_heap h]; exact hv
theorem by8_get {z : Int} {j : Nat} (hj : j < 8) : ∃ y, (by8 z)[j]? = some (.int .u8 y) ∧ (encW z)[j]? = some y := by
  have hm : j = 0 ∨ j = 1 ∨ j = 2 ∨ j = 3 ∨ j = 4 ∨ j = 5 ∨ j = 6 ∨ j = 7 := by omega
  rcases hm with rfl | rfl | rfl | rfl | rfl | rfl | rfl | rfl <;> exact ⟨_, rfl, rfl⟩
end Go.Proofs.Ytdfieflcclbgjaa
