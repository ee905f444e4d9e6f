/-
  Plain facts on decimal digits: a number's digits, what digits say, and back.
-/
import Derived.Lib.ItoaNum
import Derived.Lib.ItoaLen
import Derived.Lib.ItoaMem
import Derived.Lib.ParseIntB
namespace Go.Proofs.YtmihhebcchpmcaaGreatDoor
open Go.Lib
def Dig (c : UInt8) : Prop := 48 ≤ c.toNat ∧ c.toNat ≤ 57
/-- What the digits say, behind a number. -/
def val (acc : Nat) : List UInt8 → Nat
  | [] => acc
  | c :: r => val (acc * 10 + (c.toNat - 48)) r
theorem val_append (l r : List UInt8) : ∀ acc, val acc (l ++ r) = val (val acc l) r := by
  induction l with
  | nil => intro acc; rfl
  | cons c l ih => intro acc; exact ih _
theorem le_val (l : List UInt8) : ∀ acc, acc ≤ val acc l := by
  induction l with
  | nil => intro acc; exact Nat.le_refl _
  | cons c l ih =>
    intro acc
    have h := ih (acc * 10 + (c.toNat - 48))
    show acc ≤ val (acc * 10 + (c.toNat - 48)) l
    generalize val (acc * 10 + (c.toNat - 48)) l = z at h ⊢
    omega
theorem step_lt {a d p v : Nat} (hd : d ≤ 9) (h : v < (a * 10 + d + 1) * p) : v < (a + 1) * (p * 10) := by
  have h1 : (a * 10 + d + 1) * p ≤ ((a + 1) * 10) * p := Nat.mul_le_mul_right _ (by omega)
  have h2 : ((a + 1) * 10) * p = (a + 1) * (p * 10) := by rw [Nat.mul_assoc, Nat.mul_comm 10 p]
  omega
theorem val_lt (l : List UInt8) : (∀ c ∈ l, Dig c) → ∀ acc, val acc l < (acc + 1) * 10 ^ l.length := by
  induction l with
  | nil =>
    intro _ acc
    rw [List.length_nil, Nat.pow_zero, Nat.mul_one]
    exact Nat.lt_succ_self acc
  | cons c l ih =>
    intro h acc
    have hc := h c (List.mem_cons_self ..)
    have h1 := ih (fun d hd => h d (List.mem_cons_of_mem _ hd)) (acc * 10 + (c.toNat - 48))
    rw [List.length_cons, Nat.pow_succ]
    exact step_lt (by unfold Dig at hc; omega) h1
theorem ofNat48 {d : Nat} (h : d < 10) : (UInt8.ofNat (48 + d)).toNat = 48 + d := by
  rw [UInt8.toNat_ofNat']; omega
theorem dec_small {u : Nat} (h : u < 10) : decDigits u = [UInt8.ofNat (48 + u)] := by rw [decDigits, dif_pos h]
theorem dec_big {u : Nat} (h : ¬ u < 10) : decDigits u = decDigits (u / 10) ++ [UInt8.ofNat (48 + u % 10)] := by rw [decDigits, dif_neg h]
theorem head_app {l : List UInt8} (r : List UInt8) (h : l ≠ []) : (l ++ r).head? = l.head? := by
  cases l with
  | nil => exact absurd rfl h
  | cons a l => rfl
theorem dec_facts (u : Nat) : (∀ c ∈ decDigits u, Dig c) ∧ val 0 (decDigits u) = u ∧ decDigits u ≠ [] ∧ ((decDigits u).head? = some 48 → u = 0) := by
  induction u using Nat.strongRecOn with
  | _ u ih =>
    by_cases h : u < 10
    · rw [dec_small h]
      refine ⟨?_, ?_, by simp, ?_⟩
      · intro c hc
        rw [List.mem_singleton] at hc
        subst hc
        unfold Dig
        rw [ofNat48 h]; omega
      · show 0 * 10 + ((UInt8.ofNat (48 + u)).toNat - 48) = u
        rw [ofNat48 h, Nat.zero_mul, Nat.zero_add, Nat.add_sub_cancel_left]
      · intro h0
        have := congrArg UInt8.toNat (Option.some.inj h0)
        rw [ofNat48 h] at this
        have e : (48 : UInt8).toNat = 48 := rfl
        omega
    · obtain ⟨a, b, c, d⟩ := ih (u / 10) (by omega)
      rw [dec_big h]
      refine ⟨?_, ?_, by simp, ?_⟩
      · intro x hx
        rcases List.mem_append.1 hx with hx | hx
        · exact a x hx
        · rw [List.mem_singleton] at hx
          subst hx
          unfold Dig
          rw [ofNat48 (Nat.mod_lt _ (by decide))]; omega
      · rw [val_append, b]
        show u / 10 * 10 + ((UInt8.ofNat (48 + u % 10)).toNat - 48) = u
        rw [ofNat48 (Nat.mod_lt _ (by decide)), Nat.add_sub_cancel_left]
        omega
      · intro h0
        rw [head_app _ c] at h0
        have := d h0
        omega
theorem dec_val : ∀ (n : Nat) (l : List UInt8), l.length = n → l ≠ [] → (∀ c ∈ l, Dig c) → (l.head? = some 48 → l = [48]) → l = decDigits (val 0 l) := by
  intro n
  induction n with
  | zero => intro l hl hne _ _; exact absurd (List.eq_nil_of_length_eq_zero hl) hne
  | succ n ih =>
    intro l hl hne hd h0
    obtain ⟨r, c, rfl⟩ : ∃ r c, l = r ++ [c] := ⟨l.dropLast, l.getLast hne, (List.dropLast_concat_getLast hne).symm⟩
    have hc := hd c (by simp)
    unfold Dig at hc
    have e1 : val 0 (r ++ [c]) = val 0 r * 10 + (c.toNat - 48) := by rw [val_append]; rfl
    have ec : UInt8.ofNat (48 + (c.toNat - 48)) = c := by
      apply UInt8.toNat_inj.1
      rw [ofNat48 (by omega)]; omega
    by_cases hr : r = []
    · subst hr
      have e2 : val 0 ([] ++ [c]) = c.toNat - 48 := by rw [e1]; show 0 * 10 + (c.toNat - 48) = _; rw [Nat.zero_mul, Nat.zero_add]
      rw [e2, dec_small (by omega), ec]; rfl
    · have hhead : r.head? ≠ some 48 := fun h => by
        have := h0 (by rw [head_app _ hr]; exact h)
        have hlen := congrArg List.length this
        have : r.length ≠ 0 := fun h => hr (List.eq_nil_of_length_eq_zero h)
        simp at hlen
        exact hr hlen
      have hrr := ih r (by simpa using hl) hr (fun d hdd => hd d (by simp [hdd])) (fun h => absurd h hhead)
      have hpos : 0 < val 0 r := by
        rcases Nat.eq_zero_or_pos (val 0 r) with h | h
        · rw [h] at hrr
          exact absurd (by rw [hrr, dec_small (by decide)]; rfl) hhead
        · exact h
      rw [e1, dec_big (by omega)]
      have e3 : (val 0 r * 10 + (c.toNat - 48)) / 10 = val 0 r := by omega
      have e4 : (val 0 r * 10 + (c.toNat - 48)) % 10 = c.toNat - 48 := by omega
      rw [e3, e4, ← hrr, ec]
theorem parseM_ok (l : List UInt8) (h : ∀ c ∈ l, Dig c) : ∀ acc, val acc l ≤ 18446744073709551615 → parseUintM 18446744073709551615 acc l = .ok (val acc l) := by
  induction l with
  | nil => intro acc _; rfl
  | cons c l ih =>
    intro acc hv
    have hc := h c (by simp)
    have h1 := le_val l (acc * 10 + (c.toNat - 48))
    have hv : val (acc * 10 + (c.toNat - 48)) l ≤ 18446744073709551615 := hv
    show parseUintM 18446744073709551615 acc (c :: l) = .ok (val (acc * 10 + (c.toNat - 48)) l)
    rw [parseUintM, if_pos (show 48 ≤ c.toNat ∧ c.toNat ≤ 57 from hc), if_neg (by omega), if_neg (by omega)]
    exact ih (fun d hd => h d (by simp [hd])) _ hv
theorem parseB_ok (u : Nat) (h : u ≤ 18446744073709551615) : parseUintB 64 (decDigits u) = .ok u := by
  obtain ⟨a, b, c, _⟩ := dec_facts u
  unfold parseUintB
  rw [if_neg c]
  have := parseM_ok _ a 0 (by rw [b]; exact h)
  rw [b] at this
  exact this
theorem parse_itoa (v : Int) (h0 : -9223372036854775808 ≤ v) (h1 : v ≤ 9223372036854775807) : parseIntB 64 (itoa v) = .ok v := by
  have e63 : (2 : Nat) ^ (64 - 1) = 9223372036854775808 := by decide
  unfold itoa
  split
  · rename_i hneg
    simp only [parseIntB]
    rw [if_pos (by right; decide), parseB_ok _ (by omega)]
    simp only [e63]
    rw [if_neg (by intro h; exact h.1 (by decide)), if_neg (by omega), if_pos (by decide)]
    exact congrArg NumEnd.ok (by omega)
  · rename_i hneg
    obtain ⟨a, b, c, _⟩ := dec_facts v.toNat
    have hp := parseB_ok v.toNat (by omega)
    obtain ⟨d, r, hdr⟩ : ∃ d r, decDigits v.toNat = d :: r := by
      cases hx : decDigits v.toNat with
      | nil => exact absurd hx c
      | cons d r => exact ⟨d, r, rfl⟩
    have hd := a d (by rw [hdr]; simp)
    unfold Dig at hd
    rw [hdr] at hp ⊢
    simp only [parseIntB]
    rw [if_neg (by omega), hp]
    simp only [e63]
    rw [if_neg (by omega), if_neg (by omega), if_neg (by omega)]
    exact congrArg NumEnd.ok (by omega)
end Go.Proofs.YtmihhebcchpmcaaGreatDoor
