/-
  The document's operations that take in many: how many numbers they are of, their first number, what they come to.
-/
import Derived.Test.YtdfieflcclbgjabMBase
import Derived.Deep.QuietTactic
namespace Go.Proofs.Ytdfieflcclbgjab
open Go.RowKit
theorem below_drewN {B : Nat} {a w : World} (h : Below B a w) (n : Nat) : Below B a (w.drewN n) := h.trans ⟨rfl, rfl, rfl, Nat.le_refl _, fun _ _ => rfl⟩
def opTwo : Nat → Int → Int → Int
  | 1, a, b => wrap64 (a + b)
  | 6, a, b => if b < a then b else a
  | 7, a, b => if a < b then b else a
  | 16, a, b => if ¬ a = 0 ∧ ¬ b = 0 then 1 else 0
  | 17, a, b => if ¬ a = 0 ∨ ¬ b = 0 then 1 else 0
  | _, _, _ => 0
def arity (o : Int) : Int := if o = 15 then 1 else if o = 18 then 3 else if 1 ≤ o ∧ o ≤ 19 then 2 else 0
def redW (o : Int) : Int := if o = 6 then 9223372036854775807 else if o = 7 then -9223372036854775808 else if o = 16 then 1 else 0
def redB (o : Int) : Bool := decide (o = 1 ∨ o = 17 ∨ o = 6 ∨ o = 7 ∨ o = 16)
def many5 (o : Nat) : Prop := o = 1 ∨ o = 6 ∨ o = 7 ∨ o = 16 ∨ o = 17
end Go.Proofs.Ytdfieflcclbgjab
