/-
  Plain facts on numbers and lists: factorials, the order of a number, the number of an order. No program is in sight here.
-/
namespace Go.Proofs.Ytjlnnpcaeikolaa.Perm
def fac : Nat → Nat
  | 0 => 1
  | n + 1 => (n + 1) * fac n
theorem fac_pos (n : Nat) : 0 < fac n := by
  induction n with
  | zero => decide
  | succ n ih => exact Nat.mul_pos (Nat.succ_pos n) ih
theorem fac_mono {a b : Nat} (h : a ≤ b) : fac a ≤ fac b := by
  induction b with
  | zero => have : a = 0 := by omega
            subst this; exact Nat.le_refl _
  | succ b ih =>
    by_cases e : a = b + 1
    · subst e; exact Nat.le_refl _
    · have h1 := ih (by omega)
      have h2 : fac b ≤ (b + 1) * fac b := Nat.le_mul_of_pos_left _ (Nat.succ_pos b)
      exact Nat.le_trans h1 h2
theorem fac_le (n : Nat) (h : n ≤ 16) : fac n ≤ 20922789888000 := Nat.le_trans (fac_mono h) (by decide)
def manyN (n : Int) : Nat := if 0 ≤ n ∧ n ≤ 16 then fac n.toNat else 0
def fitB (n : Int) : Bool := decide (0 ≤ n ∧ n ≤ 16)
/-- Does a list have each number from 0 to 'len' less 1 at most once, and none else? 'sn': the numbers that were met. -/
def rightF (len : Nat) : List Bool → List Int → Bool
  | _, [] => true
  | sn, v :: r => if v < 0 ∨ (len : Int) ≤ v ∨ sn.getD v.toNat false = true then false else rightF len (sn.set v.toNat true) r
def none16 : List Bool := List.replicate 16 false
def rightB (zs : List Int) : Bool := decide (zs.length ≤ 16) && rightF zs.length none16 zs
theorem rightF_drop {len : Nat} {zs : List Int} {k : Nat} (hk : k < zs.length) (sn : List Bool) :
    rightF len sn (zs.drop k) = if zs.getD k 0 < 0 ∨ (len : Int) ≤ zs.getD k 0 ∨ sn.getD (zs.getD k 0).toNat false = true then false else rightF len (sn.set (zs.getD k 0).toNat true) (zs.drop (k + 1)) := by
  have e : zs.getD k 0 = zs[k] := by simp [List.getD, hk]
  rw [List.drop_eq_getElem_cons hk, rightF, e]
end Go.Proofs.Ytjlnnpcaeikolaa.Perm
