/-
  A new table, and its first column declared.
-/
import Derived.Test.YtbjoljokdjgbnacTab
import Derived.Test.YtbjoljokdjgbnacLevels
namespace Go.Proofs.Ytbjoljokdjgbnac
open Go.RowKit Go.MapKept
open Go.ChangeMaps (setBlock)
theorem cell_of_row {w : World} {r L : Nat} (h : w.heap[r]? = some (.cells (madeCells #[.int .i64 0] L) 35)) {j : Nat} (hj : j < L) : w.cell? ⟨r, j, none⟩ = some (.int .i64 0) ∧ w.frozen? ⟨r, j, none⟩ = false := by
  rw [made_cells] at h
  constructor
  · simp [World.cell?, h, hj]
  · simp [World.frozen?, h]
/-- The first column of a table that has none yet. -/
theorem declare_tab (tb mb : Nat) (n m : Int) (W : World) (s : ByteArray) (d q : Int) (c0 : W.cell? ⟨tb, 0, none⟩ = some (.int .i64 n)) (c1 : W.cell? ⟨tb, 1, none⟩ = some (.int .i64 m)) (c2 : W.cell? ⟨tb, 2, none⟩ = some (.map (some mb))) (hb : W.heap[mb]? = some (.map #[] 0)) (hmt : mb < tb)
    (hs : s.size ≤ maxLen) (hwd : Wf8 d) (hn : isName s = true) (hd : side d = true) (hq : kind q = true) (L : Nat) (hL : sideLen n m d = L) (hL30 : L ≤ 30) :
    Calls Try.prog 15 #[.pointer (some ⟨tb, 0, none⟩), ke s d, .int .u8 q] W fun e w' => e = .returned (.int .i64 0) ∧ ∃ b, Tab w' tb mb b s d q (List.replicate L 0) ∧ W.heap.size ≤ b ∧ Below mb W w' := by
  have htb := World.block_lt_of_cell? W _ c2
  simp only at htb
  refine (declare_ok tb mb n m s d q #[] 0 W c0 c1 c2 hb (by intro e he; simp at he) hs hwd (by intro e he; simp at he) L hL hL30 hn hd hq (by simp)).mono ?_
  rintro e w' ⟨rfl, w3, r, hb3, hr, hrow, rfl⟩
  have hsz3 := hb3.size
  have hrl : r < w3.heap.size := (Array.getElem?_eq_some_iff.1 hrow).1
  have hlen : (List.replicate L (0 : Int)).length = L := by simp
  refine ⟨rfl, r, ⟨(sb_cell (by omega)).trans ((hb3.cell (p := ⟨tb, 2, none⟩) (by simp only; omega)).trans c2), ?_, ?_, fun j hj => ?_, by omega, by omega⟩, by omega, ?_⟩
  · simp [setBlock]; omega
  · rw [hlen]
    obtain ⟨kl, hkey⟩ := keyOf_ke hs hwd
    obtain ⟨X, hX⟩ : ∃ X : MapEntry, X = { key := ke s d, val := .agg #[.int .u8 q, .slice (some ⟨r, 0, none⟩) L L], born := 0 } := ⟨_, rfl⟩
    have hv : X.val = .agg #[.int .u8 q, .slice (some ⟨r, 0, none⟩) L L] := by rw [hX]
    have hk : X.key = ke s d := by rw [hX]
    have hbn : X.born = 0 := by rw [hX]
    rw [← hX, ← hv]
    have hl : ((#[] : Array MapEntry).push X).toList = [X] := rfl
    exact look_some (j := 0) (clock := 1) (es := (#[] : Array MapEntry).push X) (e0 := X) (sb_same (by omega)) ⟨by rw [hl]; simp [hbn], by rw [hl]; simp, by rw [hl]; simp⟩ (by intro e he; rw [hl, List.mem_singleton] at he; subst he; rw [hk]; exact ⟨kl, hkey⟩) hs hwd (by rw [hl]; rfl) hk
  · rw [hlen] at hj
    have := cell_of_row hrow hj
    refine ⟨(sb_cell (by omega)).trans ?_, ?_⟩
    · rw [this.1]; simp [List.getD, hj]
    · rw [← this.2]; exact World.frozen?_of_block (by simp [setBlock, show mb ≠ r by omega])
  · exact (hb3.mono (by omega)).trans ⟨rfl, rfl, rfl, by simp [setBlock], fun k hk => by simp [setBlock, show mb ≠ k by omega]⟩
theorem declare_first (n m : Int) (w : World) (s : ByteArray) (d q : Int) (hs : s.size ≤ maxLen) (hwd : Wf8 d) (hn : isName s = true) (hd : side d = true) (hq : kind q = true) (L : Nat) (hL : sideLen n m d = L) (hL30 : L ≤ 30) :
    Calls Try.prog 15 #[.pointer (some ⟨w.heap.size + 1, 0, none⟩), ke s d, .int .u8 q] ((w.alloc (.map #[] 0)).alloc (.cells #[.int .i64 n, .int .i64 m, .map (some w.heap.size)] 78)) fun e w' => e = .returned (.int .i64 0) ∧ ∃ b, Tab w' (w.heap.size + 1) w.heap.size b s d q (List.replicate L 0) ∧ w.heap.size ≤ b ∧ Below w.heap.size w w' := by
  have c0 : ((w.alloc (.map #[] 0)).alloc (.cells #[.int .i64 n, .int .i64 m, .map (some w.heap.size)] 78)).cell? ⟨w.heap.size + 1, 0, none⟩ = some (.int .i64 n) := by go_simp
  have c1 : ((w.alloc (.map #[] 0)).alloc (.cells #[.int .i64 n, .int .i64 m, .map (some w.heap.size)] 78)).cell? ⟨w.heap.size + 1, 1, none⟩ = some (.int .i64 m) := by go_simp
  have c2 : ((w.alloc (.map #[] 0)).alloc (.cells #[.int .i64 n, .int .i64 m, .map (some w.heap.size)] 78)).cell? ⟨w.heap.size + 1, 2, none⟩ = some (.map (some w.heap.size)) := by go_simp
  have hb : ((w.alloc (.map #[] 0)).alloc (.cells #[.int .i64 n, .int .i64 m, .map (some w.heap.size)] 78)).heap[w.heap.size]? = some (.map #[] 0) := by
    rw [Below.heap_alloc _ _ _ (by simp)]
    exact (MapKept.heap_alloc w _).1
  have hB : Below w.heap.size w ((w.alloc (.map #[] 0)).alloc (.cells #[.int .i64 n, .int .i64 m, .map (some w.heap.size)] 78)) := by (repeat (first | exact Below.refl _ _ | assumption | refine Below.drew ?_ | refine Below.alloc ?_ (by first | omega | (simp; done) | (simp; omega)) _ | refine Below.setCell ?_ (by first | omega | (simp; done) | (simp; omega)) _))
  have hsz : ((w.alloc (.map #[] 0)).alloc (.cells #[.int .i64 n, .int .i64 m, .map (some w.heap.size)] 78)).heap.size = w.heap.size + 2 := by simp
  obtain ⟨W, hW⟩ : ∃ W, ((w.alloc (.map #[] 0)).alloc (.cells #[.int .i64 n, .int .i64 m, .map (some w.heap.size)] 78)) = W := ⟨_, rfl⟩
  rw [hW] at c0 c1 c2 hb hB hsz ⊢
  clear hW
  refine (declare_ok (w.heap.size + 1) w.heap.size n m s d q #[] 0 W c0 c1 c2 hb (by intro e he; simp at he) hs hwd (by intro e he; simp at he) L hL hL30 hn hd hq (by simp)).mono ?_
  rintro e w' ⟨rfl, w3, r, hb3, hr, hrow, rfl⟩
  have hsz3 := hb3.size
  have hrl : r < w3.heap.size := (Array.getElem?_eq_some_iff.1 hrow).1
  have hlen : (List.replicate L (0 : Int)).length = L := by simp
  refine ⟨rfl, r, ⟨(sb_cell (by omega)).trans ((hb3.cell (p := ⟨w.heap.size + 1, 2, none⟩) (by simp only; omega)).trans c2), ?_, ?_, fun j hj => ?_, by omega, by omega⟩, by omega, ?_⟩
  · simp [setBlock]; omega
  · rw [hlen]
    obtain ⟨kl, hkey⟩ := keyOf_ke hs hwd
    obtain ⟨X, hX⟩ : ∃ X : MapEntry, X = { key := ke s d, val := .agg #[.int .u8 q, .slice (some ⟨r, 0, none⟩) L L], born := 0 } := ⟨_, rfl⟩
    have hv : X.val = .agg #[.int .u8 q, .slice (some ⟨r, 0, none⟩) L L] := by rw [hX]
    have hk : X.key = ke s d := by rw [hX]
    have hbn : X.born = 0 := by rw [hX]
    rw [← hX, ← hv]
    have hl : ((#[] : Array MapEntry).push X).toList = [X] := rfl
    exact look_some (j := 0) (clock := 1) (es := (#[] : Array MapEntry).push X) (e0 := X) (sb_same (by omega)) ⟨by rw [hl]; simp [hbn], by rw [hl]; simp, by rw [hl]; simp⟩ (by intro e he; rw [hl, List.mem_singleton] at he; subst he; rw [hk]; exact ⟨kl, hkey⟩) hs hwd (by rw [hl]; rfl) hk
  · rw [hlen] at hj
    have := cell_of_row hrow hj
    refine ⟨(sb_cell (by omega)).trans ?_, ?_⟩
    · rw [this.1]; simp [List.getD, hj]
    · rw [← this.2]; exact World.frozen?_of_block (by simp [setBlock, show w.heap.size ≠ r by omega])
  · exact (hB.trans (hb3.mono (by omega))).trans ⟨rfl, rfl, rfl, by simp [setBlock], fun k hk => by simp [setBlock, show w.heap.size ≠ k by omega]⟩
end Go.Proofs.Ytbjoljokdjgbnac
