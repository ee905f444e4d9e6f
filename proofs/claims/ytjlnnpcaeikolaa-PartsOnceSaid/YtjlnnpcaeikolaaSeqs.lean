/-
  What a function that yields promises; slices of numbers, and of edges, as they are read.
-/
import Derived.Test.YtjlnnpcaeikolaaRound
import Derived.Maps.AppendAt
import Derived.Lib.SmallJoins
import Derived.WalkSpells
import Derived.WalkLawsBesides
import Derived.Deep.LoopGhost
import Derived.Lib.SliceRun
import Derived.Deep.RegionHeldLaw
import Derived.Deep.AppendLies
import Derived.Deep.RegionHeld3
namespace Go.Proofs.Ytjlnnpcaeikolaa
open Go.RowKit Go.Shelf
attribute [local go_sem] Oper.semAt_some
abbrev Edges := List (Int × Int)
/-- What T tells of stays. -/
def Keeps (T : Nat → Obj → Prop) (W W' : World) : Prop := W.heap.size ≤ W'.heap.size ∧ ∀ k o, T k o → W.heap[k]? = some o → W'.heap[k]? = some o
theorem Keeps.refl (T : Nat → Obj → Prop) (W : World) : Keeps T W W := ⟨Nat.le_refl _, fun _ _ _ h => h⟩
theorem Keeps.trans {T : Nat → Obj → Prop} {X Y Z : World} (h : Keeps T X Y) (k : Keeps T Y Z) : Keeps T X Z := ⟨Nat.le_trans h.1 k.1, fun i o ht hi => k.2 i o ht (h.2 i o ht hi)⟩
theorem Keeps.mono {T T' : Nat → Obj → Prop} {X Y : World} (h : Keeps T X Y) (ht : ∀ k o, T' k o → T k o) : Keeps T' X Y := ⟨h.1, fun k o hk => h.2 k o (ht k o hk)⟩
theorem Keeps.grown {T : Nat → Obj → Prop} {X Y : World} {row : Option Nat} (hg : X.grownBy Y row) (hr : ∀ k o, row = some k → X.heap[k]? = some o → ¬ T k o) : Keeps T X Y :=
  ⟨hg.size, fun k o ht hk => (hg.block k (Array.getElem?_eq_some_iff.1 hk).1 fun e => hr k o e.symm hk ht).trans hk⟩
theorem Keeps.alloc (T : Nat → Obj → Prop) (W : World) (o : Obj) : Keeps T W (W.alloc o) := Keeps.grown (World.grownBy_alloc W o none) fun _ _ e => by cases e
theorem Keeps.drew (T : Nat → Obj → Prop) (W : World) : Keeps T W W.drew := ⟨Nat.le_refl _, fun _ _ _ h => h⟩
theorem Keeps.cell {T : Nat → Obj → Prop} {W W' : World} {p : Addr} {v : Value} (h : Keeps T W W') (ht : ∀ o, T p.block o) (hc : W.cell? p = some v) : W'.cell? p = some v := by
  obtain ⟨o, ho, _⟩ := cells_of_cell hc
  have := h.2 p.block o (ht o) ho
  unfold World.cell? at hc ⊢
  rw [this]; rw [ho] at hc; exact hc
theorem keeps_of_below {n : Nat} {T : Nat → Obj → Prop} {W W' : World} (h : Below n W W') (hT : ∀ k o, T k o → W.heap[k]? = some o → k < n) : Keeps T W W' :=
  ⟨h.size, fun k o ht hk => (h.block k (hT k o ht hk)).trans hk⟩
/-- The edges lie at b from off on. -/
def Lie (w : World) (b off : Nat) (es : Edges) : Prop :=
  ∀ (j : Nat) (x : Int × Int), es[j]? = some x → w.cell? ⟨b, off + j * 2, none⟩ = some (.int .i64 x.1) ∧ w.cell? ⟨b, off + j * 2 + 1, none⟩ = some (.int .i64 x.2)
/-- The value v reads as the edges es. -/
def SeesE (w : World) (v : Value) (es : Edges) : Prop :=
  ∃ (a : Option Addr) (cap : Nat), v = .slice a es.length cap ∧ (es = [] ∨ ∃ b off, a = some ⟨b, off, none⟩ ∧ Lie w b off es)
theorem Lie.block_lt {w : World} {b off : Nat} {es : Edges} (h : Lie w b off es) (h0 : es ≠ []) : b < w.heap.size := by
  cases es with
  | nil => exact absurd rfl h0
  | cons x r => exact World.block_lt_of_cell? w _ (h 0 x rfl).1
theorem Lie.below {w w' : World} {b off B : Nat} {es : Edges} (h : Lie w b off es) (hb : Below B w w') (hB : b < B) : Lie w' b off es :=
  fun j x hx => ⟨(hb.cell (p := ⟨b, off + j * 2, none⟩) hB).trans (h j x hx).1, (hb.cell (p := ⟨b, off + j * 2 + 1, none⟩) hB).trans (h j x hx).2⟩
theorem SeesE.below {w w' : World} {v : Value} {es : Edges} {B : Nat} (h : SeesE w v es) (hb : Below B w w') (hB : w.heap.size ≤ B) : SeesE w' v es := by
  obtain ⟨a, cap, rfl, h⟩ := h
  refine ⟨a, cap, rfl, ?_⟩
  rcases h with h | ⟨b, off, rfl, hc⟩
  · exact .inl h
  · by_cases h0 : es = []
    · exact .inl h0
    · exact .inr ⟨b, off, rfl, hc.below hb (Nat.lt_of_lt_of_le (hc.block_lt h0) hB)⟩
/-- The function g with the captured lb yields things of which S tells, N at most, to whatever loop leaves alone what T tells of; it may lay and turn blocks that are no cells, from the heap's end on. -/
def Seq {α : Type} (g : Nat) (lb : Array Value) (encs : α → Array Value) (T : Nat → Obj → Prop) (S : List α → Prop) (N : Nat) (w : World) : Prop :=
  ∀ (l : Nat) (J Jx : List α → World → Prop) (W : World), Below w.heap.size w W → OwnFrom W.heap.size J → OwnFrom W.heap.size Jx →
    (∀ pre x W1, J pre W1 → pre.length < N → YieldAt Fence.wide 0 Try.prog l (encs x) W1 fun e W' =>
      KeepsFrom W.heap.size W1 W' ∧ ((e = .returned (.bool true) ∧ J (pre ++ [x]) W' ∧ Keeps T W1 W') ∨ (e = .returned (.bool false) ∧ Jx (pre ++ [x]) W'))) →
    J [] W →
    CallsIn Fence.wide 0 Try.prog g (#[.func (.yield l) #[] #[]] ++ lb) W fun e W' => (∃ v, e = .returned v) ∧ ((∃ xs, S xs ∧ J xs W') ∨ (∃ pre, Jx pre W'))
theorem cell_pair0 (W : World) (u v : Value) (t : TypeId) : (W.alloc (.cells #[u, v] t)).cell? ⟨W.heap.size, 0, none⟩ = some u := by
  unfold World.cell?; rw [World.alloc_heap_new]; rfl
theorem cell_pair1 (W : World) (u v : Value) (t : TypeId) : (W.alloc (.cells #[u, v] t)).cell? ⟨W.heap.size, 1, none⟩ = some v := by
  unfold World.cell?; rw [World.alloc_heap_new]; rfl
theorem cell_al {W : World} {p : Addr} {v : Value} (o : Obj) (h : W.cell? p = some v) : (W.alloc o).cell? p = some v :=
  (((Below.refl _ W).alloc (Nat.le_refl _) o).cell (World.block_lt_of_cell? W _ h)).trans h
theorem hidI {p : Prop} (h : p) : Hid p := h
/-- The value v reads as the numbers zs in the world w. -/
def Sees (w : World) (v : Value) (zs : List Int) : Prop :=
  ∃ (a : Option Addr) (cap : Nat), v = .slice a zs.length cap ∧ (zs = [] ∨ ∃ b off, a = some ⟨b, off, none⟩ ∧ ∀ j, j < zs.length → w.cell? ⟨b, off + j, none⟩ = some (.int .i64 (zs.getD j 0)))
theorem Sees.below {w w' : World} {v : Value} {zs : List Int} {B : Nat} (h : Sees w v zs) (hb : Below B w w') (hB : w.heap.size ≤ B) : Sees w' v zs := by
  obtain ⟨a, cap, rfl, h⟩ := h
  refine ⟨a, cap, rfl, ?_⟩
  rcases h with h | ⟨b, off, rfl, hc⟩
  · exact .inl h
  · exact .inr ⟨b, off, rfl, fun j hj => (hb.cell (p := ⟨b, off + j, none⟩) (Nat.lt_of_lt_of_le (World.block_lt_of_cell? w _ (hc j hj)) hB)).trans (hc j hj)⟩
theorem add_at (g j : Nat) : (⟨g, 0, none⟩ : Addr).add j = ⟨g, j, none⟩ := by unfold Addr.add; split <;> simp_all
theorem sees_of_owns {w : World} {base e : Nat} {v : Value} {zs : List Int} (h : w.ownsRow base e 1 v zs.length (zs.map (Value.int .i64))) : Sees w v zs := by
  rcases Joins.ownsRow_forms h with ⟨rfl, h0⟩ | ⟨g, cap, rfl⟩
  · exact ⟨none, 0, by rw [h0], .inl (List.eq_nil_of_length_eq_zero h0)⟩
  · refine ⟨_, cap, rfl, .inr ⟨g, 0, rfl, fun j hj => ?_⟩⟩
    rw [Nat.zero_add, ← add_at]
    exact World.ownsRow.cells h rfl j _ (by simp [List.getD, hj])
theorem ownFrom_size {β : Type} (B n : Nat) : OwnFrom B (fun (_ : β) (W : World) => n ≤ W.heap.size) := fun _ _ _ _ hs hg _ => Nat.le_trans hs hg.size
theorem Try.info3 : (Try.prog.info? 3).map (fun i => (i.zero, i.size, i.bytes)) = some (some (.int .i64 0), 1, 8) := by kernel_rfl
/-- The slice v, if it lies anywhere, lies from n on. -/
def Fresh (n : Nat) (v : Value) : Prop := ∀ k, v.ownBlock = some k → n ≤ k
theorem kept_cell {W W' : World} {row : Option Nat} {p : Addr} {x : Value} (hg : W.grownBy W' row) (hc : W.cell? p = some x) (hne : some p.block ≠ row) : W'.cell? p = some x :=
  (hg.cell_far p (World.block_lt_of_cell? W _ hc) hne).trans hc
end Go.Proofs.Ytjlnnpcaeikolaa
