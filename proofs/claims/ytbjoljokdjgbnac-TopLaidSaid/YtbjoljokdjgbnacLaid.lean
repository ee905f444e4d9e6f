/-
  A table that is laid over a graph's edges: what stands where, and how it is kept.
-/
import Derived.Test.YtbjoljokdjgbnacFresh
import Derived.Test.YtbjoljokdjgbnacSum
import Derived.Test.YtbjoljokdjgbnacEdge
namespace Go.Proofs.Ytbjoljokdjgbnac
open Go.RowKit Go.MapKept
open Go.ChangeMaps (setBlock)
theorem check_parts (n : Int) (es : Edges) : (check n es).2 = 11 ∨ (1 ≤ n ∧ n ≤ 12 ∧ es.length ≤ 30 ∧ ∀ x ∈ es, good n x = true) := by
  unfold check
  split
  · exact .inl rfl
  · rename_i h
    cases hf : es.findIdx? (fun x => !good n x) with
    | some i => exact .inl rfl
    | none =>
      rw [List.findIdx?_eq_none_iff] at hf
      exact .inr ⟨by omega, by omega, by omega, fun x hx => by simpa using hf x hx⟩
/-- The first column of a table that has none yet; all other blocks stay. -/
theorem declare_lay (tb mb : Nat) (n m : Int) (W : World) (s : ByteArray) (d q : Int) (c0 : W.cell? ⟨tb, 0, none⟩ = some (.int .i64 n)) (c1 : W.cell? ⟨tb, 1, none⟩ = some (.int .i64 m)) (c2 : W.cell? ⟨tb, 2, none⟩ = some (.map (some mb))) (hb : W.heap[mb]? = some (.map #[] 0)) (hmt : mb < tb)
    (hs : s.size ≤ maxLen) (hwd : Wf8 d) (hn : isName s = true) (hd : side d = true) (hq : kind q = true) (L : Nat) (hL : sideLen n m d = L) (hL30 : L ≤ 30) :
    Calls Try.prog 15 #[.pointer (some ⟨tb, 0, none⟩), ke s d, .int .u8 q] W fun e w' => e = .returned (.int .i64 0) ∧ ∃ b, Tab w' tb mb b s d q (List.replicate L 0) ∧ W.heap.size ≤ b ∧ Below mb W w' ∧ ∀ k i, k < W.heap.size → k ≠ mb → w'.cell? ⟨k, i, none⟩ = W.cell? ⟨k, i, none⟩ := by
  have htb := World.block_lt_of_cell? W _ c2
  simp only at htb
  refine (declare_ok tb mb n m s d q #[] 0 W c0 c1 c2 hb (by intro e he; simp at he) hs hwd (by intro e he; simp at he) L hL hL30 hn hd hq (by simp)).mono ?_
  rintro e w' ⟨rfl, w3, r, hb3, hr, hrow, rfl⟩
  have hsz3 := hb3.size
  have hrl : r < w3.heap.size := (Array.getElem?_eq_some_iff.1 hrow).1
  have hlen : (List.replicate L (0 : Int)).length = L := by simp
  refine ⟨rfl, r, ⟨(sb_cell (by omega)).trans ((hb3.cell (p := ⟨tb, 2, none⟩) (by simp only; omega)).trans c2), ?_, ?_, fun j hj => ?_, by omega, by omega⟩, by omega, ?_, fun k i hk hne => (sb_cell hne).trans (hb3.cell (p := ⟨k, i, none⟩) hk)⟩
  · simp [setBlock]; omega
  · rw [hlen]
    obtain ⟨kl, hkey⟩ := keyOf_ke hs hwd
    obtain ⟨X, hX⟩ : ∃ X : MapEntry, X = { key := ke s d, val := .agg #[.int .u8 q, .slice (some ⟨r, 0, none⟩) L L], born := 0 } := ⟨_, rfl⟩
    have hv : X.val = .agg #[.int .u8 q, .slice (some ⟨r, 0, none⟩) L L] := by rw [hX]
    have hk : X.key = ke s d := by rw [hX]
    have hbn : X.born = 0 := by rw [hX]
    rw [← hX, ← hv]
    have hl : ((#[] : Array MapEntry).push X).toList = [X] := rfl
    exact look_some (j := 0) (clock := 1) (es := (#[] : Array MapEntry).push X) (e0 := X) (sb_same (by omega)) ⟨by rw [hl]; simp [hbn], by rw [hl]; simp, by rw [hl]; simp⟩ (by intro e he; rw [hl, List.mem_singleton] at he; subst he; rw [hk]; exact ⟨kl, hkey⟩) hs hwd (by rw [hl]; rfl) hk
  · rw [hlen] at hj
    have := cell_of_row hrow hj
    refine ⟨(sb_cell (by omega)).trans ?_, ?_⟩
    · rw [this.1]; simp [List.getD, hj]
    · rw [← this.2]; exact World.frozen?_of_block (by simp [setBlock, show mb ≠ r by omega])
  · exact (hb3.mono (by omega)).trans ⟨rfl, rfl, rfl, by simp [setBlock], fun k hk => by simp [setBlock, show mb ≠ k by omega]⟩
/-- The table, the key's own block, and all that stood ahead of them. -/
def LaidAt (w1 w : World) (kb tb mb b : Nat) (s : ByteArray) (zs : List Int) : Prop :=
  Below w1.heap.size w1 w ∧ Tab w tb mb b s 3 1 zs ∧ w.cell? ⟨kb, 0, none⟩ = some (.string s) ∧ w.cell? ⟨kb, 1, none⟩ = some (.int .u8 3) ∧ w1.heap.size ≤ b ∧ b ≠ kb
theorem LaidAt.below {w1 w w' : World} {kb tb mb b : Nat} {s : ByteArray} {zs : List Int} (h : LaidAt w1 w kb tb mb b s zs) (hb : Below w.heap.size w w') : LaidAt w1 w' kb tb mb b s zs := by
  obtain ⟨h1, h2, h3, h4, h5, h6⟩ := h
  have l3 := World.block_lt_of_cell? w _ h3
  exact ⟨h1.trans (hb.mono h1.size), h2.below hb (Nat.le_refl _), (hb.cell (p := ⟨kb, 0, none⟩) l3).trans h3, (hb.cell (p := ⟨kb, 1, none⟩) l3).trans h4, h5, h6⟩
theorem LaidAt.put {w1 w w' wa : World} {kb tb mb b i : Nat} {s : ByteArray} {x : Int} {zs zs' : List Int} (h : LaidAt w1 w kb tb mb b s zs) (ht : Tab w' tb mb b s 3 1 zs') (ha : Below w.heap.size w wa) (hw : w' = wa.setCell ⟨b, i, none⟩ (.int .i64 x)) : LaidAt w1 w' kb tb mb b s zs' := by
  obtain ⟨h1, h2, h3, h4, h5, h6⟩ := h.below ha
  subst hw
  refine ⟨h1.trans ⟨rfl, rfl, rfl, by simp, fun k hk => Below.heap_setCell wa ⟨b, i, none⟩ _ k (by simp only; omega)⟩, ht, ?_, ?_, h5, h6⟩
  · exact (World.cell?_setCell_far wa ⟨b, i, none⟩ ⟨kb, 0, none⟩ _ h6).trans h3
  · exact (World.cell?_setCell_far wa ⟨b, i, none⟩ ⟨kb, 1, none⟩ _ h6).trans h4
/-- The numbers that are laid. -/
def nums (fs : Edges) : List Int := fs.map fun x => x.1 * 100 + x.2
theorem nums_length (fs : Edges) : (nums fs).length = fs.length := by simp [nums]
def laidUp (fs : Edges) (i : Nat) : List Int := (nums fs).take i ++ List.replicate (fs.length - i) 0
theorem laidUp_length (fs : Edges) {i : Nat} (h : i ≤ fs.length) : (laidUp fs i).length = fs.length := by simp [laidUp, nums_length]; omega
theorem laidUp_all (fs : Edges) : laidUp fs fs.length = nums fs := by
  have : (nums fs).take fs.length = nums fs := List.take_of_length_le (by rw [nums_length]; exact Nat.le_refl _)
  simp [laidUp, this]
theorem laidUp_next (fs : Edges) {i : Nat} {x : Int × Int} (h : fs[i]? = some x) : (laidUp fs i).set i (x.1 * 100 + x.2) = laidUp fs (i + 1) := by
  have hi := (List.getElem?_eq_some_iff.1 h).1
  have hn : (nums fs)[i]? = some (x.1 * 100 + x.2) := by simp [nums, h]
  have e1 : fs.length - i = (fs.length - (i + 1)) + 1 := by omega
  unfold laidUp
  rw [List.take_add_one, hn, e1, List.replicate_succ]
  have hl : ((nums fs).take i).length = i := by rw [List.length_take, nums_length]; omega
  rw [List.set_append_right _ _ (by omega)]
  simp [hl]
theorem nums_at (fs : Edges) {i : Nat} {x : Int × Int} (h : fs[i]? = some x) : (nums fs).getD i 0 = x.1 * 100 + x.2 := by simp [nums, List.getD, h]
theorem cols_le (es : Edges) (v : Nat) : (cols es v).length ≤ es.length := by rw [cols_count]; exact List.countP_le_length
end Go.Proofs.Ytbjoljokdjgbnac
