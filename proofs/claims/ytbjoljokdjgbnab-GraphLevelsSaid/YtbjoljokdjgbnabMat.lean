/-
  Rows of truths.
-/
import Derived.Test.YtbjoljokdjgbnabClos
namespace Go.Proofs.Ytbjoljokdjgbnab
open Go.RowKit Go.Deep
/-- A row of truths. -/
def brow (N : Nat) (S : Nat → Bool) : List Bool := (List.range N).map S
theorem brow_length (N : Nat) (S : Nat → Bool) : (brow N S).length = N := by simp [brow]
theorem brow_get {N : Nat} {S : Nat → Bool} {t : Nat} (h : t < N) : (brow N S).getD t false = S t := by simp [brow, List.getD, h]
theorem brow_congr {N : Nat} {S T : Nat → Bool} (h : ∀ t, t < N → S t = T t) : brow N S = brow N T := by
  unfold brow
  exact List.map_congr_left fun t ht => h t (by simpa using ht)
theorem brow_set {N : Nat} {S : Nat → Bool} {t : Nat} : (brow N S).set t true = brow N (fun u => decide (u = t) || S u) := by
  apply List.ext_getElem
  · simp [brow]
  · intro i h1 h2
    simp only [brow, List.getElem_set, List.getElem_map, List.getElem_range]
    by_cases e : t = i
    · subst e; simp
    · have : ¬ i = t := fun h => e h.symm
      simp [e, this]
/-- Block b is a row of the truths ls. -/
def BRow (W : World) (b : Nat) (ls : List Bool) : Prop := W.heap[b]? = some (.cells (ls.map Value.bool).toArray 4 (0, 0))
theorem BRow.lt {W : World} {b : Nat} {ls : List Bool} (h : BRow W b ls) : b < W.heap.size := (Array.getElem?_eq_some_iff.1 h).1
theorem BRow.cell {W : World} {b : Nat} {ls : List Bool} (h : BRow W b ls) {j : Nat} (hj : j < ls.length) : W.cell? ⟨b, j, none⟩ = some (.bool (ls.getD j false)) := by
  simp [World.cell?, show W.heap[b]? = _ from h, hj, List.getD]
theorem BRow.frozen {W : World} {b : Nat} {ls : List Bool} (h : BRow W b ls) (j : Nat) : W.frozen? ⟨b, j, none⟩ = false := by
  simp [World.frozen?, show W.heap[b]? = _ from h]
theorem BRow.kept {W W' : World} {row : Option Nat} {b : Nat} {ls : List Bool} (h : BRow W b ls) (hg : W.grownBy W' row) (hne : some b ≠ row) : BRow W' b ls := (hg.block b h.lt hne).trans h
theorem BRow.set {W : World} {b : Nat} {ls : List Bool} (h : BRow W b ls) (j : Nat) (z : Bool) : BRow (W.setCell ⟨b, j, none⟩ (.bool z)) b (ls.set j z) := by
  obtain ⟨hlt, hk⟩ := Array.getElem?_eq_some_iff.1 h
  show (W.heap.modify b _)[b]? = _
  rw [Array.getElem?_eq_getElem (by rw [Array.size_modify]; exact hlt), Array.getElem_modify_self, hk]
  simp [List.map_set]
theorem made_brow (w : World) (N : Nat) : BRow (w.alloc (.cells (madeCells #[.bool false] N) 4)) w.heap.size (brow N (fun _ => false)) := by
  have := World.alloc_heap_new w (.cells (madeCells #[.bool false] N) 4)
  unfold BRow
  rw [this, made_cells]
  congr 2
  simp [brow, List.map_const']
/-- Row i of the k rows that lie at g is at gs i, with the truths R i. -/
structure Mat (W : World) (base g N k : Nat) (gs : Nat → Nat) (R : Nat → Nat → Bool) : Prop where
  outer : ∀ i, i < k → W.cell? ⟨g, i, none⟩ = some (.slice (some ⟨gs i, 0, none⟩) N N)
  inner : ∀ i, i < k → BRow W (gs i) (brow N (R i))
  inj : ∀ i j, i < k → j < k → gs i = gs j → i = j
  far : ∀ i, i < k → gs i ≠ g ∧ base ≤ gs i
theorem Mat.cell {W : World} {base g N k : Nat} {gs : Nat → Nat} {R : Nat → Nat → Bool} (h : Mat W base g N k gs R) {i t : Nat} (hi : i < k) (ht : t < N) : W.cell? ⟨gs i, t, none⟩ = some (.bool (R i t)) := by
  have := (h.inner i hi).cell (j := t) (by rw [brow_length]; exact ht)
  rwa [brow_get ht] at this
theorem Mat.congr {W : World} {base g N k : Nat} {gs : Nat → Nat} {R R' : Nat → Nat → Bool} (h : Mat W base g N k gs R) (e : ∀ i, i < k → ∀ t, t < N → R i t = R' i t) : Mat W base g N k gs R' :=
  ⟨h.outer, fun i hi => by rw [← brow_congr (e i hi)]; exact h.inner i hi, h.inj, h.far⟩
theorem Mat.drewN {W : World} {base g N k : Nat} {gs : Nat → Nat} {R : Nat → Nat → Bool} (h : Mat W base g N k gs R) (n : Nat) : Mat (W.drewN n) base g N k gs R := ⟨h.outer, h.inner, h.inj, h.far⟩
theorem Mat.grown {W W' : World} {base g N k : Nat} {gs : Nat → Nat} {R : Nat → Nat → Bool} {row : Option Nat} (h : Mat W base g N k gs R) (hg : W.grownBy W' row) (h1 : some g ≠ row) (h2 : ∀ i, i < k → some (gs i) ≠ row) : Mat W' base g N k gs R :=
  ⟨fun i hi => kept_cell hg (h.outer i hi) h1, fun i hi => (h.inner i hi).kept hg (h2 i hi), h.inj, h.far⟩
/-- One truth more. -/
theorem Mat.set {W : World} {base g N k : Nat} {gs : Nat → Nat} {R : Nat → Nat → Bool} (h : Mat W base g N k gs R) {a : Nat} (ha : a < k) (t : Nat) :
    Mat (W.setCell ⟨gs a, t, none⟩ (.bool true)) base g N k gs (fun i => if i = a then (fun u => decide (u = t) || R a u) else R i) := by
  have hg := grownBy_set W (gs a) t (.bool true)
  refine ⟨fun i hi => kept_cell hg (h.outer i hi) (by have := (h.far a ha).1; simp; exact fun e => this e.symm), fun i hi => ?_, h.inj, h.far⟩
  by_cases e : i = a
  · subst e
    rw [if_pos rfl, ← brow_set]
    exact (h.inner i hi).set t true
  · rw [if_neg e]
    exact (h.inner i hi).kept hg (by simp; exact fun e' => e (h.inj i a hi ha e'))
/-- The value v reads as N rows of N truths. -/
def SeesM (w : World) (v : Value) (N : Nat) (R : Nat → Nat → Bool) : Prop :=
  ∃ (a : Option Addr) (cap : Nat), v = .slice a N cap ∧ (N = 0 ∨ ∃ b, a = some ⟨b, 0, none⟩ ∧ ∀ i, i < N → ∃ r, w.cell? ⟨b, i, none⟩ = some (.slice (some ⟨r, 0, none⟩) N N) ∧ ∀ t, t < N → w.cell? ⟨r, t, none⟩ = some (.bool (R i t)))
theorem SeesM.below {w w' : World} {v : Value} {N B : Nat} {R : Nat → Nat → Bool} (h : SeesM w v N R) (hb : Below B w w') (hB : w.heap.size ≤ B) : SeesM w' v N R := by
  obtain ⟨a, cap, rfl, h⟩ := h
  refine ⟨a, cap, rfl, ?_⟩
  rcases h with h | ⟨b, rfl, hc⟩
  · exact .inl h
  · refine .inr ⟨b, rfl, fun i hi => ?_⟩
    obtain ⟨r, h1, h2⟩ := hc i hi
    exact ⟨r, (hb.cell (p := ⟨b, i, none⟩) (Nat.lt_of_lt_of_le (World.block_lt_of_cell? w _ h1) hB)).trans h1, fun t ht => (hb.cell (p := ⟨r, t, none⟩) (Nat.lt_of_lt_of_le (World.block_lt_of_cell? w _ (h2 t ht)) hB)).trans (h2 t ht)⟩
theorem Mat.sees {W : World} {base g N cap : Nat} {gs : Nat → Nat} {R : Nat → Nat → Bool} (h : Mat W base g N N gs R) : SeesM W (.slice (some ⟨g, 0, none⟩) N cap) N R :=
  ⟨_, cap, rfl, .inr ⟨g, rfl, fun i hi => ⟨gs i, h.outer i hi, fun _ ht => h.cell hi ht⟩⟩⟩
theorem SeesM.congr {w : World} {v : Value} {N : Nat} {R R' : Nat → Nat → Bool} (h : SeesM w v N R) (e : ∀ i, i < N → ∀ t, t < N → R i t = R' i t) : SeesM w v N R' := by
  obtain ⟨a, cap, rfl, h⟩ := h
  refine ⟨a, cap, rfl, ?_⟩
  rcases h with h | ⟨b, rfl, hc⟩
  · exact .inl h
  · refine .inr ⟨b, rfl, fun i hi => ?_⟩
    obtain ⟨r, h1, h2⟩ := hc i hi
    exact ⟨r, h1, fun t ht => by rw [h2 t ht, e i hi t ht]⟩
end Go.Proofs.Ytbjoljokdjgbnab
