/-
  Orders and their numbers: mathematics alone.
-/
import Derived.Test.YtdfieflcclbgjaaMBase
namespace Go.Proofs.Ytdfieflcclbgjaa.Perm
def fac : Nat → Nat
  | 0 => 1
  | n + 1 => (n + 1) * fac n
theorem fac_pos (n : Nat) : 0 < fac n := by
  induction n with
  | zero => decide
  | succ n ih => exact Nat.mul_pos (Nat.succ_pos n) ih
theorem fac_mono {a b : Nat} (h : a ≤ b) : fac a ≤ fac b := by
  induction b with
  | zero => have : a = 0 := by omega
            subst this; exact Nat.le_refl _
  | succ b ih =>
    by_cases e : a = b + 1
    · subst e; exact Nat.le_refl _
    · have h1 := ih (by omega)
      have h2 : fac b ≤ (b + 1) * fac b := Nat.le_mul_of_pos_left _ (Nat.succ_pos b)
      exact Nat.le_trans h1 h2
theorem fac_le (n : Nat) (h : n ≤ 16) : fac n ≤ 20922789888000 := Nat.le_trans (fac_mono h) (by decide)
def manyN (n : Int) : Nat := if 0 ≤ n ∧ n ≤ 16 then fac n.toNat else 0
def fitB (n : Int) : Bool := decide (0 ≤ n ∧ n ≤ 16)
/-- Does a list have each number from 0 to 'len' less 1 at most once, and none else? 'sn': the numbers that were met. -/
def rightF (len : Nat) : List Bool → List Int → Bool
  | _, [] => true
  | sn, v :: r => if v < 0 ∨ (len : Int) ≤ v ∨ sn.getD v.toNat false = true then false else rightF len (sn.set v.toNat true) r
def none16 : List Bool := List.replicate 16 false
def rightB (zs : List Int) : Bool := decide (zs.length ≤ 16) && rightF zs.length none16 zs
theorem rightF_drop {len : Nat} {zs : List Int} {k : Nat} (hk : k < zs.length) (sn : List Bool) :
    rightF len sn (zs.drop k) = if zs.getD k 0 < 0 ∨ (len : Int) ≤ zs.getD k 0 ∨ sn.getD (zs.getD k 0).toNat false = true then false else rightF len (sn.set (zs.getD k 0).toNat true) (zs.drop (k + 1)) := by
  have e : zs.getD k 0 = zs[k] := by simp [List.getD, hk]
  rw [List.drop_eq_getElem_cons hk, rightF, e]
/-- How many numbers below v were not met. -/
def below (sn : List Bool) : Nat → Nat
  | 0 => 0
  | v + 1 => below sn v + (if sn.getD v false = true then 0 else 1)
theorem below_seen {sn : List Bool} {v : Nat} (h : sn.getD v false = true) : below sn (v + 1) = below sn v := by simp only [below, if_pos h]; omega
theorem below_free {sn : List Bool} {v : Nat} (h : sn.getD v false = false) : below sn (v + 1) = below sn v + 1 := by simp only [below, h]; rfl
theorem below_mono (sn : List Bool) {a b : Nat} (h : a ≤ b) : below sn a ≤ below sn b := by
  induction b with
  | zero => have : a = 0 := by omega
            subst this; exact Nat.le_refl _
  | succ b ih =>
    by_cases e : a = b + 1
    · subst e; exact Nat.le_refl _
    · have := ih (by omega)
      simp only [below]; omega
theorem below_lt {sn : List Bool} {a b : Nat} (h : a < b) (ha : sn.getD a false = false) : below sn a < below sn b := by
  have h1 := below_free ha
  have h2 := below_mono sn (show a + 1 ≤ b by omega)
  omega
theorem below_le (sn : List Bool) (v : Nat) : below sn v ≤ v := by
  induction v with
  | zero => exact Nat.le_refl _
  | succ v ih => simp only [below]; split <;> omega
theorem below_none (v : Nat) : below none16 v = v := by
  induction v with
  | zero => rfl
  | succ v ih =>
    have : none16.getD v false = false := by
      simp only [none16, List.getD, List.getElem?_replicate]
      split <;> rfl
    rw [below_free this, ih]
theorem getD_set {sn : List Bool} {j : Nat} (hj : j < sn.length) (i : Nat) : (sn.set j true).getD i false = if i = j then true else sn.getD i false := by
  simp only [List.getD, List.getElem?_set]
  by_cases e : j = i
  · subst e; simp [hj]
  · rw [if_neg e, if_neg (fun h => e h.symm)]
theorem below_set {sn : List Bool} {j : Nat} (hj : j < sn.length) (hf : sn.getD j false = false) : ∀ v, below (sn.set j true) v = if j < v then below sn v - 1 else below sn v
  | 0 => by simp [below]
  | v + 1 => by
    have ih := below_set hj hf v
    simp only [below, ih, getD_set hj]
    by_cases e : v = j
    · subst e
      rw [if_pos rfl, if_pos rfl, if_neg (by omega), if_pos (by omega), if_neg (by rw [hf]; decide)]
      omega
    · rw [if_neg e]
      by_cases h : j < v
      · have := below_lt h hf
        rw [if_pos h, if_pos (show j < v + 1 by omega)]
        split <;> omega
      · rw [if_neg h, if_neg (show ¬ j < v + 1 by omega)]
/-- The order of the number k: at each place the number that as many stand ahead of as k says. -/
def Steps (n : Nat) : List Bool → Nat → List Int → Prop
  | _, _, [] => True
  | sn, k, v :: r => ∃ j : Nat, v = (j : Int) ∧ j < n ∧ sn.getD j false = false ∧ below sn j = k / fac r.length ∧ Steps n (sn.set j true) (k % fac r.length) r
theorem steps_same {n : Nat} : ∀ {l m : List Int} {sn : List Bool} {k : Nat}, l.length = m.length → Steps n sn k l → Steps n sn k m → l = m
  | [], [], _, _, _, _, _ => rfl
  | [], _ :: _, _, _, h, _, _ => by simp at h
  | _ :: _, [], _, _, h, _, _ => by simp at h
  | v :: r, u :: s, sn, k, h, ⟨j, hv, _, hj, hb, hr⟩, ⟨i, hu, _, hi, hc, hs⟩ => by
    have hl : r.length = s.length := by simpa using h
    rw [← hl] at hc hs
    have e : j = i := by
      rcases Nat.lt_trichotomy j i with hlt | he | hlt
      · have := below_lt hlt hj; omega
      · exact he
      · have := below_lt hlt hi; omega
    subst e
    rw [hv, hu, steps_same hl hr hs]
def numL : List Bool → List Int → Nat
  | _, [] => 0
  | sn, v :: r => below sn v.toNat * fac r.length + numL (sn.set v.toNat true) r
theorem numL_steps {n : Nat} : ∀ {l : List Int} {sn : List Bool} {k : Nat}, Steps n sn k l → k < fac l.length → numL sn l = k
  | [], _, k, _, hk => by
    have : fac 0 = 1 := rfl
    simp only [numL, List.length_nil] at *
    omega
  | v :: r, sn, k, ⟨j, hv, _, _, hb, hr⟩, _ => by
    subst hv
    have ih := numL_steps hr (Nat.mod_lt _ (fac_pos _))
    simp only [numL, Int.toNat_natCast]
    rw [hb, ih, Nat.mul_comm]
    exact Nat.div_add_mod _ _
theorem right_steps {n : Nat} : ∀ {l : List Int} {sn : List Bool} {k : Nat}, Steps n sn k l → rightF n sn l = true
  | [], _, _, _ => rfl
  | v :: r, sn, k, ⟨j, hv, hj, hs, _, hr⟩ => by
    subst hv
    have ih := right_steps hr
    simp only [rightF]
    rw [if_neg (by simp only [Int.toNat_natCast]; rintro (h | h | h) <;> first | omega | (rw [hs] at h; cases h))]
    exact ih
/-- The numbers below n that were not met. -/
def free (sn : List Bool) : Nat → List Int
  | 0 => []
  | n + 1 => free sn n ++ (if sn.getD n false = true then [] else [(n : Int)])
theorem free_len (sn : List Bool) : ∀ n, (free sn n).length = below sn n
  | 0 => rfl
  | n + 1 => by
    simp only [free, below, List.length_append, free_len sn n]
    split <;> rfl
theorem free_get {sn : List Bool} : ∀ {n i : Nat}, i < below sn n → ∃ v : Nat, (free sn n).getD i 0 = (v : Int) ∧ v < n ∧ sn.getD v false = false ∧ below sn v = i
  | 0, i, h => by simp [below] at h
  | n + 1, i, h => by
    cases hx : sn.getD n false
    · have hf : free sn (n + 1) = free sn n ++ [(n : Int)] := by simp only [free, hx]; rfl
      rw [below_free hx] at h
      by_cases hi : i < below sn n
      · obtain ⟨v, h1, h2, h3, h4⟩ := free_get hi
        refine ⟨v, ?_, by omega, h3, h4⟩
        rw [hf, ← h1]
        simp only [List.getD]
        rw [List.getElem?_append_left (by rw [free_len]; exact hi)]
      · have hi' : i = (free sn n).length := by rw [free_len]; omega
        refine ⟨n, ?_, by omega, hx, by rw [hi', free_len]⟩
        rw [hf, hi']
        simp [List.getD]
    · have hf : free sn (n + 1) = free sn n := by simp only [free, hx]; simp
      rw [below_seen hx] at h
      obtain ⟨v, h1, h2, h3, h4⟩ := free_get h
      exact ⟨v, by rw [hf]; exact h1, by omega, h3, h4⟩
theorem free_same {sn : List Bool} {v : Nat} (hl : v < sn.length) : ∀ {n : Nat}, n ≤ v → free (sn.set v true) n = free sn n
  | 0, _ => rfl
  | n + 1, h => by
    have e : (sn.set v true).getD n false = sn.getD n false := by rw [getD_set hl, if_neg (by omega)]
    simp only [free]
    rw [free_same hl (by omega), e]
theorem free_set {sn : List Bool} {v : Nat} (hl : v < sn.length) (hf : sn.getD v false = false) : ∀ {n : Nat}, v < n → free (sn.set v true) n = (free sn n).eraseIdx (below sn v)
  | 0, h => by omega
  | n + 1, h => by
    by_cases e : v = n
    · subst e
      have h1 : free (sn.set v true) (v + 1) = free sn v := by
        simp only [free]
        rw [free_same hl (Nat.le_refl _), getD_set hl, if_pos rfl]
        simp
      have h2 : free sn (v + 1) = free sn v ++ [(v : Int)] := by simp only [free, hf]; rfl
      rw [h1, h2, ← free_len, List.eraseIdx_append_of_length_le (Nat.le_refl _)]
      simp
    · have hb : below sn v < (free sn n).length := by rw [free_len]; exact below_lt (by omega) hf
      have ih := free_set hl hf (n := n) (by omega)
      have e2 : (sn.set v true).getD n false = sn.getD n false := by rw [getD_set hl, if_neg (by omega)]
      simp only [free]
      rw [ih, e2, List.eraseIdx_append_of_lt_length hb]
theorem free_none : ∀ n, free none16 n = (List.range n).map (fun j : Nat => (j : Int))
  | 0 => rfl
  | n + 1 => by
    have : none16.getD n false = false := by
      simp only [none16, List.getD, List.getElem?_replicate]
      split <;> rfl
    simp only [free, this]
    rw [free_none n, List.range_succ, List.map_append]
    rfl
theorem erase_parts {l : List Int} {i : Nat} : l.eraseIdx i = l.take i ++ l.drop (i + 1) := List.eraseIdx_eq_take_drop_succ l i
end Go.Proofs.Ytdfieflcclbgjaa.Perm
