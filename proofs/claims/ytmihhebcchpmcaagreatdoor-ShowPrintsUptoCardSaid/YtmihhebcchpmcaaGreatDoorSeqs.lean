/-
  What a function that yields promises; slices of numbers, and of edges, as they are read.
-/
import Derived.Test.YtmihhebcchpmcaaGreatDoorRound
import Derived.Maps.AppendAt
import Derived.Lib.SmallJoins
import Derived.WalkSpells
import Derived.WalkLawsBesides
import Derived.Deep.LoopGhost
import Derived.Lib.SliceRun
import Derived.Deep.RegionHeldLaw
import Derived.Deep.AppendLies
import Derived.Deep.RegionHeld3
namespace Go.Proofs.YtmihhebcchpmcaaGreatDoor
open Go.RowKit Go.Shelf
attribute [local go_sem] Oper.semAt_some
/-- What T tells of stays. -/
def Keeps (T : Nat → Obj → Prop) (W W' : World) : Prop := W.heap.size ≤ W'.heap.size ∧ ∀ k o, T k o → W.heap[k]? = some o → W'.heap[k]? = some o
theorem Keeps.refl (T : Nat → Obj → Prop) (W : World) : Keeps T W W := ⟨Nat.le_refl _, fun _ _ _ h => h⟩
theorem Keeps.trans {T : Nat → Obj → Prop} {X Y Z : World} (h : Keeps T X Y) (k : Keeps T Y Z) : Keeps T X Z := ⟨Nat.le_trans h.1 k.1, fun i o ht hi => k.2 i o ht (h.2 i o ht hi)⟩
theorem Keeps.mono {T T' : Nat → Obj → Prop} {X Y : World} (h : Keeps T X Y) (ht : ∀ k o, T' k o → T k o) : Keeps T' X Y := ⟨h.1, fun k o hk => h.2 k o (ht k o hk)⟩
theorem Keeps.grown {T : Nat → Obj → Prop} {X Y : World} {row : Option Nat} (hg : X.grownBy Y row) (hr : ∀ k o, row = some k → X.heap[k]? = some o → ¬ T k o) : Keeps T X Y :=
  ⟨hg.size, fun k o ht hk => (hg.block k (Array.getElem?_eq_some_iff.1 hk).1 fun e => hr k o e.symm hk ht).trans hk⟩
theorem Keeps.alloc (T : Nat → Obj → Prop) (W : World) (o : Obj) : Keeps T W (W.alloc o) := Keeps.grown (World.grownBy_alloc W o none) fun _ _ e => by cases e
theorem Keeps.drew (T : Nat → Obj → Prop) (W : World) : Keeps T W W.drew := ⟨Nat.le_refl _, fun _ _ _ h => h⟩
theorem Keeps.cell {T : Nat → Obj → Prop} {W W' : World} {p : Addr} {v : Value} (h : Keeps T W W') (ht : ∀ o, T p.block o) (hc : W.cell? p = some v) : W'.cell? p = some v := by
  obtain ⟨o, ho, _⟩ := cells_of_cell hc
  have := h.2 p.block o (ht o) ho
  unfold World.cell? at hc ⊢
  rw [this]; rw [ho] at hc; exact hc
theorem keeps_of_below {n : Nat} {T : Nat → Obj → Prop} {W W' : World} (h : Below n W W') (hT : ∀ k o, T k o → W.heap[k]? = some o → k < n) : Keeps T W W' :=
  ⟨h.size, fun k o ht hk => (h.block k (hT k o ht hk)).trans hk⟩
/-- The function g with the captured lb yields things of which S tells, each x behind pre as R tells, to whatever loop leaves alone what T tells of; it may lay and turn blocks that are no cells, from the heap's end on. -/
def Seq {α : Type} (g : Nat) (lb : Array Value) (encs : α → Array Value) (T : Nat → Obj → Prop) (S : List α → Prop) (R : List α → α → Prop) (w : World) : Prop :=
  ∀ (l : Nat) (J Jx : List α → World → Prop) (W : World), Below w.heap.size w W → OwnFrom W.heap.size J → OwnFrom W.heap.size Jx →
    (∀ pre x W1, J pre W1 → R pre x → YieldAt Fence.wide 0 Tryz.prog l (encs x) W1 fun e W' =>
      KeepsFrom W.heap.size W1 W' ∧ ((e = .returned (.bool true) ∧ J (pre ++ [x]) W' ∧ Keeps T W1 W') ∨ (e = .returned (.bool false) ∧ Jx (pre ++ [x]) W'))) →
    J [] W →
    CallsIn Fence.wide 0 Tryz.prog g (#[.func (.yield l) #[] #[]] ++ lb) W fun e W' => (∃ v, e = .returned v) ∧ ((∃ xs, S xs ∧ J xs W') ∨ (∃ pre, Jx pre W'))
theorem cell_pair0 (W : World) (u v : Value) (t : TypeId) : (W.alloc (.cells #[u, v] t)).cell? ⟨W.heap.size, 0, none⟩ = some u := by
  unfold World.cell?; rw [World.alloc_heap_new]; rfl
theorem cell_pair1 (W : World) (u v : Value) (t : TypeId) : (W.alloc (.cells #[u, v] t)).cell? ⟨W.heap.size, 1, none⟩ = some v := by
  unfold World.cell?; rw [World.alloc_heap_new]; rfl
theorem cell_al {W : World} {p : Addr} {v : Value} (o : Obj) (h : W.cell? p = some v) : (W.alloc o).cell? p = some v :=
  (((Below.refl _ W).alloc (Nat.le_refl _) o).cell (World.block_lt_of_cell? W _ h)).trans h
theorem ownFrom_size {β : Type} (B n : Nat) : OwnFrom B (fun (_ : β) (W : World) => n ≤ W.heap.size) := fun _ _ _ _ hs hg _ => Nat.le_trans hs hg.size
/-- The slice v, if it lies anywhere, lies from n on. -/
def Fresh (n : Nat) (v : Value) : Prop := ∀ k, v.ownBlock = some k → n ≤ k
theorem kept_cell {W W' : World} {row : Option Nat} {p : Addr} {x : Value} (hg : W.grownBy W' row) (hc : W.cell? p = some x) (hne : some p.block ≠ row) : W'.cell? p = some x :=
  (hg.cell_far p (World.block_lt_of_cell? W _ hc) hne).trans hc
end Go.Proofs.YtmihhebcchpmcaaGreatDoor
