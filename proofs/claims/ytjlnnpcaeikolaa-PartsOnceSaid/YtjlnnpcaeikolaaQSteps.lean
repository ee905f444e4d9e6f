/-
  Plain facts on orders: the order of a number, step by step; the number of an order; both take one another back.
-/
import Derived.Test.YtjlnnpcaeikolaaQMath
namespace Go.Proofs.Ytjlnnpcaeikolaa.Perm
/-- How many numbers below v were not met. -/
def below (sn : List Bool) : Nat → Nat
  | 0 => 0
  | v + 1 => below sn v + (if sn.getD v false = true then 0 else 1)
theorem below_seen {sn : List Bool} {v : Nat} (h : sn.getD v false = true) : below sn (v + 1) = below sn v := by simp only [below, if_pos h]; omega
theorem below_free {sn : List Bool} {v : Nat} (h : sn.getD v false = false) : below sn (v + 1) = below sn v + 1 := by simp only [below, h]; rfl
theorem below_mono (sn : List Bool) {a b : Nat} (h : a ≤ b) : below sn a ≤ below sn b := by
  induction b with
  | zero => have : a = 0 := by omega
            subst this; exact Nat.le_refl _
  | succ b ih =>
    by_cases e : a = b + 1
    · subst e; exact Nat.le_refl _
    · have := ih (by omega)
      simp only [below]; omega
theorem below_lt {sn : List Bool} {a b : Nat} (h : a < b) (ha : sn.getD a false = false) : below sn a < below sn b := by
  have h1 := below_free ha
  have h2 := below_mono sn (show a + 1 ≤ b by omega)
  omega
theorem below_le (sn : List Bool) (v : Nat) : below sn v ≤ v := by
  induction v with
  | zero => exact Nat.le_refl _
  | succ v ih => simp only [below]; split <;> omega
theorem below_none (v : Nat) : below none16 v = v := by
  induction v with
  | zero => rfl
  | succ v ih =>
    have : none16.getD v false = false := by
      simp only [none16, List.getD, List.getElem?_replicate]
      split <;> rfl
    rw [below_free this, ih]
theorem getD_set {sn : List Bool} {j : Nat} (hj : j < sn.length) (i : Nat) : (sn.set j true).getD i false = if i = j then true else sn.getD i false := by
  simp only [List.getD, List.getElem?_set]
  by_cases e : j = i
  · subst e; simp [hj]
  · rw [if_neg e, if_neg (fun h => e h.symm)]
theorem below_set {sn : List Bool} {j : Nat} (hj : j < sn.length) (hf : sn.getD j false = false) : ∀ v, below (sn.set j true) v = if j < v then below sn v - 1 else below sn v
  | 0 => by simp [below]
  | v + 1 => by
    have ih := below_set hj hf v
    simp only [below, ih, getD_set hj]
    by_cases e : v = j
    · subst e
      rw [if_pos rfl, if_pos rfl, if_neg (by omega), if_pos (by omega), if_neg (by rw [hf]; decide)]
      omega
    · rw [if_neg e]
      by_cases h : j < v
      · have := below_lt h hf
        rw [if_pos h, if_pos (show j < v + 1 by omega)]
        split <;> omega
      · rw [if_neg h, if_neg (show ¬ j < v + 1 by omega)]
/-- The order of the number k: at each place the number that as many stand ahead of as k says. -/
def Steps (n : Nat) : List Bool → Nat → List Int → Prop
  | _, _, [] => True
  | sn, k, v :: r => ∃ j : Nat, v = (j : Int) ∧ j < n ∧ sn.getD j false = false ∧ below sn j = k / fac r.length ∧ Steps n (sn.set j true) (k % fac r.length) r
theorem steps_same {n : Nat} : ∀ {l m : List Int} {sn : List Bool} {k : Nat}, l.length = m.length → Steps n sn k l → Steps n sn k m → l = m
  | [], [], _, _, _, _, _ => rfl
  | [], _ :: _, _, _, h, _, _ => by simp at h
  | _ :: _, [], _, _, h, _, _ => by simp at h
  | v :: r, u :: s, sn, k, h, ⟨j, hv, _, hj, hb, hr⟩, ⟨i, hu, _, hi, hc, hs⟩ => by
    have hl : r.length = s.length := by simpa using h
    rw [← hl] at hc hs
    have e : j = i := by
      rcases Nat.lt_trichotomy j i with hlt | he | hlt
      · have := below_lt hlt hj; omega
      · exact he
      · have := below_lt hlt hi; omega
    subst e
    rw [hv, hu, steps_same hl hr hs]
def numL : List Bool → List Int → Nat
  | _, [] => 0
  | sn, v :: r => below sn v.toNat * fac r.length + numL (sn.set v.toNat true) r
theorem numL_steps {n : Nat} : ∀ {l : List Int} {sn : List Bool} {k : Nat}, Steps n sn k l → k < fac l.length → numL sn l = k
  | [], _, k, _, hk => by
    have : fac 0 = 1 := rfl
    simp only [numL, List.length_nil] at *
    omega
  | v :: r, sn, k, ⟨j, hv, _, _, hb, hr⟩, _ => by
    subst hv
    have ih := numL_steps hr (Nat.mod_lt _ (fac_pos _))
    simp only [numL, Int.toNat_natCast]
    rw [hb, ih, Nat.mul_comm]
    exact Nat.div_add_mod _ _
theorem right_steps {n : Nat} : ∀ {l : List Int} {sn : List Bool} {k : Nat}, Steps n sn k l → rightF n sn l = true
  | [], _, _, _ => rfl
  | v :: r, sn, k, ⟨j, hv, hj, hs, _, hr⟩ => by
    subst hv
    have ih := right_steps hr
    simp only [rightF]
    rw [if_neg (by simp only [Int.toNat_natCast]; rintro (h | h | h) <;> first | omega | (rw [hs] at h; cases h))]
    exact ih
end Go.Proofs.Ytjlnnpcaeikolaa.Perm
