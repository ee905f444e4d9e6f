/-
  Plain facts: which texts the document's Parse takes, and that they are just the digits of the numbers of 64 bits.
-/
import Derived.Test.YtmihhebcchpmcaaGreatDoorDigits
namespace Go.Proofs.YtmihhebcchpmcaaGreatDoor
open Go.Lib
/-- The digits 'ds' behind a '-' or not, of the text l. -/
def Ok (l ds : List UInt8) (below : Bool) : Prop :=
  ds ≠ [] ∧ ds.length ≤ 19 ∧ (ds.head? = some 48 → l = [48]) ∧ (∀ c ∈ ds, Dig c) ∧ (if below = true then val 0 ds ≤ 9223372036854775808 else val 0 ds ≤ 9223372036854775807)
theorem ok_pos {l : List UInt8} (h : Ok l l false) : l = itoa (val 0 l : Int) := by
  obtain ⟨h1, h2, h3, h4, _⟩ := h
  have := dec_val l.length l rfl h1 h4 h3
  unfold itoa
  rw [if_neg (by omega)]
  simpa using this
theorem ok_neg {ds : List UInt8} (h : Ok (45 :: ds) ds true) : 45 :: ds = itoa (-(val 0 ds : Int)) ∧ 0 < val 0 ds := by
  obtain ⟨h1, h2, h3, h4, _⟩ := h
  have h3' : ds.head? ≠ some 48 := fun h => by
    have := h3 h
    simp at this
  have e := dec_val ds.length ds rfl h1 h4 (fun h => absurd h h3')
  have hpos : 0 < val 0 ds := by
    rcases Nat.eq_zero_or_pos (val 0 ds) with h | h
    · rw [h] at e
      exact absurd (by rw [e, dec_small (by decide)]; rfl) h3'
    · exact h
  refine ⟨?_, hpos⟩
  unfold itoa
  rw [if_pos (by omega)]
  simpa using e
theorem nd_le : ∀ (k u : Nat), u < 10 ^ (k + 1) → nDigits u ≤ k + 1
  | 0, u, h => by rw [nDigits_small (by simpa using h)]; exact Nat.le_refl _
  | k + 1, u, h => by
    by_cases h10 : u < 10
    · rw [nDigits_small h10]; omega
    · rw [nDigits_big h10]
      have := nd_le k (u / 10) (by rw [Nat.pow_succ] at h; omega)
      omega
theorem dec_len (u : Nat) (h : u ≤ 9223372036854775808) : (decDigits u).length ≤ 19 := by
  rw [decDigits_length]
  refine nd_le 18 u (Nat.lt_of_le_of_lt h (by decide))
theorem ok_dec (u : Nat) (h : u ≤ 9223372036854775807) : Ok (decDigits u) (decDigits u) false := by
  obtain ⟨a, b, c, d⟩ := dec_facts u
  refine ⟨c, dec_len u (by omega), fun h0 => ?_, a, ?_⟩
  · have := d h0
    subst this
    rw [dec_small (by decide)]; rfl
  · rw [if_neg (by decide), b]; exact h
theorem ok_dec_neg (u : Nat) (h0 : 0 < u) (h : u ≤ 9223372036854775808) : Ok (45 :: decDigits u) (decDigits u) true := by
  obtain ⟨a, b, c, d⟩ := dec_facts u
  refine ⟨c, dec_len u h, fun h1 => ?_, a, ?_⟩
  · have := d h1
    omega
  · rw [if_pos rfl, b]; exact h
/-- The digits of the text l, and whether a '-' stands ahead. -/
theorem ok_itoa {v : Int} (h0 : -9223372036854775808 ≤ v) (h1 : v ≤ 9223372036854775807) :
    (0 ≤ v ∧ Ok (itoa v) (itoa v) false ∧ (val 0 (itoa v) : Int) = v) ∨ (v < 0 ∧ ∃ ds, itoa v = 45 :: ds ∧ Ok (45 :: ds) ds true ∧ -(val 0 ds : Int) = v) := by
  by_cases h : v < 0
  · right
    refine ⟨h, decDigits v.natAbs, by unfold itoa; rw [if_pos h], ok_dec_neg _ (by omega) (by omega), ?_⟩
    rw [(dec_facts v.natAbs).2.1]; omega
  · left
    have e : itoa v = decDigits v.toNat := by unfold itoa; rw [if_neg h]
    rw [e]
    refine ⟨by omega, ok_dec _ (by omega), ?_⟩
    rw [(dec_facts v.toNat).2.1]; omega
end Go.Proofs.YtmihhebcchpmcaaGreatDoor
