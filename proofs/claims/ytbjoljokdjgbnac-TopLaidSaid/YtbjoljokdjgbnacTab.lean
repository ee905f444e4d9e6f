/-
  A table with one column, as it stands.
-/
import Derived.Test.YtbjoljokdjgbnacWords
namespace Go.Proofs.Ytbjoljokdjgbnac
open Go.RowKit Go.MapKept
open Go.ChangeMaps (setBlock)
/-- The table at tb has the column of the key (s, d), of kind k, with the values zs, in the row b. -/
def Tab (w : World) (tb mb b : Nat) (s : ByteArray) (d k : Int) (zs : List Int) : Prop :=
  w.cell? ⟨tb, 2, none⟩ = some (.map (some mb)) ∧ mb < w.heap.size ∧ Look w mb s d (.agg #[.int .u8 k, .slice (some ⟨b, 0, none⟩) zs.length zs.length]) true ∧
    (∀ j, j < zs.length → w.cell? ⟨b, j, none⟩ = some (.int .i64 (zs.getD j 0)) ∧ w.frozen? ⟨b, j, none⟩ = false) ∧ b ≠ tb ∧ b ≠ mb
theorem Tab.below {w w' : World} {tb mb b n : Nat} {s : ByteArray} {d k : Int} {zs : List Int} (h : Tab w tb mb b s d k zs) (hb : Below n w w') (hn : w.heap.size ≤ n) : Tab w' tb mb b s d k zs := by
  obtain ⟨h1, h2, h3, h4, h5, h6⟩ := h
  have l1 := World.block_lt_of_cell? w _ h1
  refine ⟨(hb.cell (p := ⟨tb, 2, none⟩) (Nat.lt_of_lt_of_le l1 hn)).trans h1, Nat.lt_of_lt_of_le h2 hb.size, fun u hu => h3 u (hu.trans (hb.block mb (Nat.lt_of_lt_of_le h2 hn))), fun j hj => ?_, h5, h6⟩
  have l2 := World.block_lt_of_cell? w _ (h4 j hj).1
  exact ⟨(hb.cell (p := ⟨b, j, none⟩) (Nat.lt_of_lt_of_le l2 hn)).trans (h4 j hj).1, (hb.frozen (p := ⟨b, j, none⟩) (Nat.lt_of_lt_of_le l2 hn)).trans (h4 j hj).2⟩
theorem Tab.get {w : World} {tb mb b : Nat} {s : ByteArray} {d k : Int} {zs : List Int} (h : Tab w tb mb b s d k zs) {i : Nat} (hi : i < zs.length) :
    Calls Try.prog 13 #[.pointer (some ⟨tb, 0, none⟩), ke s d, .int .i64 (i : Int)] w fun e w' => e = .returned (.tuple #[.int .i64 (zs.getD i 0), .int .i64 0]) ∧ Below w.heap.size w w' := by
  obtain ⟨h1, h2, h3, h4, _⟩ := h
  exact get_some tb mb s d k b 0 _ _ i _ w h1 h2 h3 hi (by rw [Nat.zero_add]; exact (h4 i hi).1)
theorem Tab.list {w : World} {tb mb b : Nat} {s : ByteArray} {d k : Int} {zs : List Int} (h : Tab w tb mb b s d k zs) (hl : zs.length ≤ 100000) :
    Calls Try.prog 20 #[.pointer (some ⟨tb, 0, none⟩), ke s d] w fun e w' => ∃ u, e = .returned u ∧ Sees w' u zs ∧ Below w.heap.size w w' := by
  obtain ⟨h1, h2, h3, h4, _⟩ := h
  exact list_some tb mb s d k ⟨b, 0, none⟩ _ zs w h1 h2 h3 hl ⟨some ⟨b, 0, none⟩, _, rfl, .inr ⟨b, 0, rfl, fun j hj => by rw [Nat.zero_add]; exact (h4 j hj).1⟩⟩
theorem Tab.setCell {w : World} {tb mb b : Nat} {s : ByteArray} {d k : Int} {zs : List Int} (h : Tab w tb mb b s d k zs) {i : Nat} (hi : i < zs.length) (x : Int) : Tab (w.setCell ⟨b, i, none⟩ (.int .i64 x)) tb mb b s d k (zs.set i x) := by
  obtain ⟨h1, h2, h3, h4, h5, h6⟩ := h
  have hsz : (w.setCell ⟨b, i, none⟩ (.int .i64 x)).heap.size = w.heap.size := by simp
  refine ⟨(World.cell?_setCell_far w ⟨b, i, none⟩ ⟨tb, 2, none⟩ _ h5).trans h1, by omega, ?_, fun j hj => ?_, h5, h6⟩
  · rw [List.length_set]
    exact fun u hu => h3 u (hu.trans (Below.heap_setCell w ⟨b, i, none⟩ _ mb (Ne.symm h6)))
  · rw [List.length_set] at hj
    rw [World.frozen?_setCell]
    refine ⟨?_, (h4 j hj).2⟩
    rw [getD_set _ _ _ _ hj]
    by_cases e : i = j
    · subst e
      rw [if_pos rfl]
      exact World.cell?_setCell_same _ _ _ (h4 i hi).1
    · rw [if_neg e]
      exact (World.cell?_setCell_other _ _ _ _ (by intro h; cases h; exact e rfl)).trans (h4 j hj).1
theorem Tab.put {w : World} {tb mb b : Nat} {s : ByteArray} {d k : Int} {zs : List Int} (h : Tab w tb mb b s d k zs) {i : Nat} (hi : i < zs.length) (x : Int) (hx : fit k x = true) :
    Calls Try.prog 16 #[.pointer (some ⟨tb, 0, none⟩), ke s d, .int .i64 (i : Int), .int .i64 x] w fun e w' => e = .returned (.int .i64 0) ∧ Tab w' tb mb b s d k (zs.set i x) ∧ ∃ w1, Below w.heap.size w w1 ∧ w' = w1.setCell ⟨b, i, none⟩ (.int .i64 x) := by
  have h' := h
  obtain ⟨h1, h2, h3, h4, _⟩ := h
  refine (set_fit tb mb s d k x _ b 0 _ _ i w h1 h2 h3 hi hx (by rw [Nat.zero_add]; exact (h4 i hi).1) (by rw [Nat.zero_add]; exact (h4 i hi).2)).mono ?_
  rintro e w' ⟨rfl, w1, hb, rfl⟩
  rw [Nat.zero_add]
  exact ⟨rfl, (h'.below hb (Nat.le_refl _)).setCell hi x, w1, hb, rfl⟩
end Go.Proofs.Ytbjoljokdjgbnac
