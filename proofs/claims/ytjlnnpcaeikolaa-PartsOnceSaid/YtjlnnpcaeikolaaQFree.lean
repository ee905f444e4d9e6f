/-
  Plain facts on the numbers that are not met yet, in their order.
-/
import Derived.Test.YtjlnnpcaeikolaaQSteps
namespace Go.Proofs.Ytjlnnpcaeikolaa.Perm
/-- The numbers below n that were not met. -/
def free (sn : List Bool) : Nat → List Int
  | 0 => []
  | n + 1 => free sn n ++ (if sn.getD n false = true then [] else [(n : Int)])
theorem free_len (sn : List Bool) : ∀ n, (free sn n).length = below sn n
  | 0 => rfl
  | n + 1 => by
    simp only [free, below, List.length_append, free_len sn n]
    split <;> rfl
theorem free_get {sn : List Bool} : ∀ {n i : Nat}, i < below sn n → ∃ v : Nat, (free sn n).getD i 0 = (v : Int) ∧ v < n ∧ sn.getD v false = false ∧ below sn v = i
  | 0, i, h => by simp [below] at h
  | n + 1, i, h => by
    cases hx : sn.getD n false
    · have hf : free sn (n + 1) = free sn n ++ [(n : Int)] := by simp only [free, hx]; rfl
      rw [below_free hx] at h
      by_cases hi : i < below sn n
      · obtain ⟨v, h1, h2, h3, h4⟩ := free_get hi
        refine ⟨v, ?_, by omega, h3, h4⟩
        rw [hf, ← h1]
        simp only [List.getD]
        rw [List.getElem?_append_left (by rw [free_len]; exact hi)]
      · have hi' : i = (free sn n).length := by rw [free_len]; omega
        refine ⟨n, ?_, by omega, hx, by rw [hi', free_len]⟩
        rw [hf, hi']
        simp [List.getD]
    · have hf : free sn (n + 1) = free sn n := by simp only [free, hx]; simp
      rw [below_seen hx] at h
      obtain ⟨v, h1, h2, h3, h4⟩ := free_get h
      exact ⟨v, by rw [hf]; exact h1, by omega, h3, h4⟩
theorem free_same {sn : List Bool} {v : Nat} (hl : v < sn.length) : ∀ {n : Nat}, n ≤ v → free (sn.set v true) n = free sn n
  | 0, _ => rfl
  | n + 1, h => by
    have e : (sn.set v true).getD n false = sn.getD n false := by rw [getD_set hl, if_neg (by omega)]
    simp only [free]
    rw [free_same hl (by omega), e]
theorem free_set {sn : List Bool} {v : Nat} (hl : v < sn.length) (hf : sn.getD v false = false) : ∀ {n : Nat}, v < n → free (sn.set v true) n = (free sn n).eraseIdx (below sn v)
  | 0, h => by omega
  | n + 1, h => by
    by_cases e : v = n
    · subst e
      have h1 : free (sn.set v true) (v + 1) = free sn v := by
        simp only [free]
        rw [free_same hl (Nat.le_refl _), getD_set hl, if_pos rfl]
        simp
      have h2 : free sn (v + 1) = free sn v ++ [(v : Int)] := by simp only [free, hf]; rfl
      rw [h1, h2, ← free_len, List.eraseIdx_append_of_length_le (Nat.le_refl _)]
      simp
    · have hb : below sn v < (free sn n).length := by rw [free_len]; exact below_lt (by omega) hf
      have ih := free_set hl hf (n := n) (by omega)
      have e2 : (sn.set v true).getD n false = sn.getD n false := by rw [getD_set hl, if_neg (by omega)]
      simp only [free]
      rw [ih, e2, List.eraseIdx_append_of_lt_length hb]
theorem free_none : ∀ n, free none16 n = (List.range n).map (fun j : Nat => (j : Int))
  | 0 => rfl
  | n + 1 => by
    have : none16.getD n false = false := by
      simp only [none16, List.getD, List.getElem?_replicate]
      split <;> rfl
    simp only [free, this]
    rw [free_none n, List.range_succ, List.map_append]
    rfl
theorem erase_parts {l : List Int} {i : Nat} : l.eraseIdx i = l.take i ++ l.drop (i + 1) := List.eraseIdx_eq_take_drop_succ l i
end Go.Proofs.Ytjlnnpcaeikolaa.Perm
