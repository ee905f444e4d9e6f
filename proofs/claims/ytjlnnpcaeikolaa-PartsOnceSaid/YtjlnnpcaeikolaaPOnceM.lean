/-
  Each node is one worker's: counts.
-/
import Derived.Test.YtjlnnpcaeikolaaPOwn
namespace Go.Proofs.Ytjlnnpcaeikolaa
open Go.RowKit Go.Deep
theorem turnL_perm {ps l : List Int} (h : Perm.rightB ps = true) (hl : l.length = ps.length) : (Perm.turnL ps l).Perm l := by
  have h1 : (Perm.turnL ps l).Perm (((List.range ps.length).map (fun j : Nat => (j : Int))).map fun j => l.getD j.toNat 0) := (perm_range h).map _
  have h2 : (((List.range ps.length).map (fun j : Nat => (j : Int))).map fun j => l.getD j.toNat 0) = l := by
    rw [List.map_map, ← hl]
    exact (map_get (l := l)).symm
  rw [h2] at h1
  exact h1
theorem mem_pairwise (n : Nat) (wk : Nat → Nat) (u : Nat) : (mem n wk u).Pairwise (· < ·) := by
  unfold mem
  rw [List.pairwise_map]
  exact List.Pairwise.imp (fun h => by omega) (List.Pairwise.filter _ List.pairwise_lt_range)
theorem mem_rise {n : Nat} {wk : Nat → Nat} {u i : Nat} (h : i + 1 < (mem n wk u).length) : (mem n wk u).getD i 0 < (mem n wk u).getD (i + 1) 0 := by
  have := List.pairwise_iff_getElem.1 (mem_pairwise n wk u) i (i + 1) (by omega) h (by omega)
  simpa [List.getD, h, show i < (mem n wk u).length by omega] using this
theorem mem_nodup (n : Nat) (wk : Nat → Nat) (u : Nat) : (mem n wk u).Nodup := List.Pairwise.imp (fun h => by omega) (mem_pairwise n wk u)
theorem mem_count1 {n : Nat} {wk : Nat → Nat} {u j : Nat} (hj : j < n) : (mem n wk u).count (j : Int) = if wk j = u then 1 else 0 := by
  rw [List.Nodup.count (mem_nodup n wk u)]
  congr 1
  rw [eq_iff_iff, mem_mem]
  constructor
  · rintro ⟨v, hv, _, h⟩
    have : v = j := by omega
    subst this; exact h
  · intro h; exact ⟨j, rfl, hj, h⟩
/-- How often the node j was met: by the workers ahead of u, and among the first i of o. -/
def sf (wk : Nat → Nat) (u : Nat) (o : List Int) (i : Nat) (j : Nat) : Int := (if wk j < u then 1 else 0) + ((o.take i).count (j : Int) : Int)
theorem sf_zero (wk : Nat → Nat) (u : Nat) (o : List Int) (j : Nat) : sf wk u o 0 j = if wk j < u then 1 else 0 := by simp [sf]
theorem sf_done {n : Nat} {wk : Nat → Nat} {u : Nat} {o : List Int} (h : o.Perm (mem n wk u)) {j : Nat} (hj : j < n) : sf wk u o o.length j = if wk j < u + 1 then 1 else 0 := by
  unfold sf
  rw [List.take_length, List.Perm.count_eq h, mem_count1 hj]
  by_cases h1 : wk j < u
  · rw [if_pos h1, if_neg (by omega), if_pos (by omega)]; rfl
  · by_cases h2 : wk j = u
    · rw [if_neg h1, if_pos h2, if_pos (by omega)]; rfl
    · rw [if_neg h1, if_neg h2, if_neg (by omega)]; rfl
theorem sf_next (wk : Nat → Nat) (u : Nat) {o : List Int} {i z : Nat} (h : o[i]? = some (z : Int)) (j : Nat) : sf wk u o (i + 1) j = if j = z then sf wk u o i z + 1 else sf wk u o i j := by
  unfold sf
  rw [List.take_add_one, h, List.count_append]
  by_cases e : j = z
  · subst e
    rw [if_pos rfl]
    simp
    omega
  · rw [if_neg e]
    have : ¬ ((z : Int) = (j : Int)) := by omega
    simp [this]
theorem sf_range (wk : Nat → Nat) (u : Nat) (o : List Int) (i j : Nat) (h : o.length ≤ 12) : 0 ≤ sf wk u o i j ∧ sf wk u o i j ≤ 13 := by
  unfold sf
  have h1 : (o.take i).count (j : Int) ≤ (o.take i).length := List.count_le_length
  rw [List.length_take] at h1
  split <;> omega
theorem Row.below {w w' : World} {g n B : Nat} {f : Nat → Int} (h : Perm.Row w g n f) (hb : Below B w w') (hg : g < B) : Perm.Row w' g n f := by
  obtain ⟨cs, h1, h2⟩ := h
  exact ⟨cs, (hb.block g hg).trans h1, h2⟩
theorem Row.congr {w : World} {g n : Nat} {f f' : Nat → Int} (h : Perm.Row w g n f) (e : ∀ j, j < n → f' j = f j) : Perm.Row w g n f' := by
  refine World.rowIs.congr h ?_
  intro j hj
  rw [e j hj]
end Go.Proofs.Ytjlnnpcaeikolaa
