/-
  Nodes that are spread are even; all workers' nodes are all nodes.
-/
import Derived.Test.YtjlnnpcaeikolaaPOrder
namespace Go.Proofs.Ytjlnnpcaeikolaa
theorem perm_range {p : List Int} (h : Perm.rightB p = true) : p.Perm ((List.range p.length).map (fun j : Nat => (j : Int))) := by
  obtain ⟨h16, hf⟩ := Perm.rightB_parts h
  have hnd := (Perm.right_free (by decide) h16 hf).2
  have hnd2 : ((List.range p.length).map (fun j : Nat => (j : Int))).Nodup := by
    unfold List.Nodup
    rw [List.pairwise_map]
    exact List.Pairwise.imp (fun hne e => hne (by omega)) List.nodup_range
  rw [List.perm_ext_iff_of_nodup hnd hnd2]
  intro a
  constructor
  · intro ha
    obtain ⟨i, hi, rfl⟩ := List.getElem_of_mem ha
    obtain ⟨q, hq, hql⟩ := Perm.rightB_range h i hi
    have e : p.getD i 0 = p[i] := by simp [List.getD, hi]
    rw [List.mem_map]
    exact ⟨q, List.mem_range.2 hql, by rw [← e, hq]⟩
  · intro ha
    obtain ⟨j, hj, rfl⟩ := List.mem_map.1 ha
    obtain ⟨i, hi, he⟩ := Perm.all_of h (List.mem_range.1 hj)
    have e : p.getD i 0 = p[i] := by simp [List.getD, hi]
    rw [← he, e]
    exact List.getElem_mem hi
theorem spr_at {ps : List Int} (h : Perm.rightB ps = true) (k : Nat) : ∀ (m : Nat), m ≤ ps.length → ∀ i, i < m → spr ps k m (ps.getD i 0).toNat = ((i % k : Nat) : Int)
  | 0, _, i, hi => absurd hi (by omega)
  | m + 1, hm, i, hi => by
    simp only [spr]
    by_cases e : i = m
    · subst e; rw [if_pos rfl]
    · rw [if_neg, spr_at h k m (by omega) i (by omega)]
      intro e2
      obtain ⟨q, hq, _⟩ := Perm.rightB_range h i (by omega)
      obtain ⟨r, hr, _⟩ := Perm.rightB_range h m (by omega)
      rw [hq, hr] at e2
      simp at e2
      exact e (Perm.inj_of h (by omega) (by omega) (by rw [hq, hr, e2]))
/-- The numbers that Spread hands back. -/
def sprL (ps : List Int) (k n : Nat) : List Int := (List.range n).map (spr ps k n)
theorem sprL_wk {ps : List Int} (h : Perm.rightB ps = true) {k n : Nat} (hk : 1 ≤ k) (hn : ps.length = n) {i : Nat} (hi : i < n) : wkOf k (sprL ps k n) (ps.getD i 0).toNat = i % k := by
  obtain ⟨q, hq, hql⟩ := Perm.rightB_range h i (by omega)
  have hs := spr_at h k n (by omega) i hi
  rw [hq] at hs ⊢
  simp only [Int.toNat_natCast] at hs ⊢
  have hg : (sprL ps k n).getD q 0 = ((i % k : Nat) : Int) := by
    rw [← hs]
    simp [sprL, List.getD, show q < n by omega]
  unfold wkOf
  rw [if_pos (by simp [sprL]; omega), hg]
  have := Nat.mod_lt i (show 0 < k by omega)
  rw [Int.emod_eq_of_lt (by omega) (by omega)]
  exact Int.toNat_natCast _
theorem mem_count (n : Nat) (wk : Nat → Nat) (u : Nat) : (mem n wk u).length = (List.range n).countP fun v => decide (wk v = u) := by
  unfold mem
  rw [List.length_map, List.countP_eq_length_filter]
theorem map_get {l : List Int} : l = (List.range l.length).map fun i => l.getD i 0 := by
  apply List.ext_getElem
  · simp
  · intro i h1 h2
    simp [List.getD, h1]
theorem sprL_count {ps : List Int} (h : Perm.rightB ps = true) {k n : Nat} (hk : 1 ≤ k) (hn : ps.length = n) (u : Nat) : (mem n (wkOf k (sprL ps k n)) u).length = (List.range n).countP fun i => decide (i % k = u) := by
  rw [mem_count]
  have h1 : ((List.range n).countP fun v => decide (wkOf k (sprL ps k n) v = u)) = ((List.range n).map (fun j : Nat => (j : Int))).countP fun z => decide (wkOf k (sprL ps k n) z.toNat = u) := by
    rw [List.countP_map]
    congr 1
  have hp := perm_range h
  rw [hn] at hp
  rw [h1, ← List.Perm.countP_eq _ hp]
  have h2 : ps = (List.range n).map fun i => ps.getD i 0 := by rw [← hn]; exact map_get
  rw [show List.countP (fun z : Int => decide (wkOf k (sprL ps k n) z.toNat = u)) ps = List.countP (fun z : Int => decide (wkOf k (sprL ps k n) z.toNat = u)) ((List.range n).map fun i => ps.getD i 0) by rw [← h2], List.countP_map]
  apply List.countP_congr
  intro i hi
  simp only [Function.comp, decide_eq_true_eq]
  rw [sprL_wk h hk hn (List.mem_range.1 hi)]
set_option maxRecDepth 100000 in
theorem even_mod : ∀ n, n < 13 → ∀ k, k < 5 → ∀ u, u < k → ∀ u', u' < k → ((List.range n).countP fun i => decide (i % k = u)) < ((List.range n).countP fun i => decide (i % k = u')) + 2 := by decide +kernel
theorem sprL_even {ps : List Int} (h : Perm.rightB ps = true) {k n : Nat} (hk : 1 ≤ k) (hk4 : k ≤ 4) (hn : ps.length = n) (hn12 : n ≤ 12) : evenB n k (wkOf k (sprL ps k n)) = true := by
  refine evenB_true fun a b ha hb => ?_
  rw [sprL_count h hk hn, sprL_count h hk hn]
  exact even_mod n (by omega) k (by omega) a ha b hb
/-- How many nodes the first u workers have. -/
def lens (n : Nat) (wk : Nat → Nat) : Nat → Nat
  | 0 => 0
  | u + 1 => lens n wk u + (mem n wk u).length
theorem countP_lt (wk : Nat → Nat) (u : Nat) : ∀ l : List Nat, (l.countP fun v => decide (wk v < u + 1)) = (l.countP fun v => decide (wk v < u)) + l.countP fun v => decide (wk v = u)
  | [] => rfl
  | x :: r => by
    have ih := countP_lt wk u r
    simp only [List.countP_cons, ih]
    by_cases a1 : wk x < u
    · have a2 : ¬ wk x = u := by omega
      have a3 : wk x < u + 1 := by omega
      rw [decide_eq_true a1, decide_eq_false a2, decide_eq_true a3]; simp only [if_true, if_false, Bool.false_eq_true]; omega
    · by_cases a2 : wk x = u
      · have a3 : wk x < u + 1 := by omega
        rw [decide_eq_false a1, decide_eq_true a2, decide_eq_true a3]; simp only [if_true, if_false, Bool.false_eq_true]; omega
      · have a3 : ¬ wk x < u + 1 := by omega
        rw [decide_eq_false a1, decide_eq_false a2, decide_eq_false a3]; simp only [if_false, Bool.false_eq_true]; omega
theorem lens_count (n : Nat) (wk : Nat → Nat) : ∀ u, lens n wk u = (List.range n).countP fun v => decide (wk v < u)
  | 0 => by
    have : (fun v : Nat => decide (wk v < 0)) = fun _ => false := by funext v; simp
    rw [this]; simp [lens]
  | u + 1 => by rw [lens, lens_count n wk u, mem_count, countP_lt]
theorem lens_le (n : Nat) (wk : Nat → Nat) (u : Nat) : lens n wk u ≤ n := by
  rw [lens_count]
  exact Nat.le_trans List.countP_le_length (by simp)
theorem lens_all {n k : Nat} {wk : Nat → Nat} (h : ∀ v, v < n → wk v < k) : lens n wk k = n := by
  rw [lens_count, List.countP_eq_length.2 (fun v hv => by simpa using h v (List.mem_range.1 hv))]
  simp
theorem memI_nat {n k : Nat} {wk : Nat → Nat} {u : Nat} (h : u < k) : memI n k wk (u : Int) = mem n wk u := by
  unfold memI
  rw [if_pos (by omega)]
  simp
end Go.Proofs.Ytjlnnpcaeikolaa
