/-
  The program's operations that take in many: their first number, what they come to of two numbers.
-/
import Derived.Test.YtdfieflcclbgjabNumR
import Derived.Deep.QuietTactic
import Derived.BigQuiet
namespace Go.Proofs.Ytdfieflcclbgjab
open Go.RowKit
def opFirst : Nat → Int
  | 6 => 9223372036854775807
  | 7 => -9223372036854775808
  | 16 => 1
  | _ => 0
theorem redB_of {o : Nat} (h : many5 o) : redB (o : Int) = true := by rcases h with rfl | rfl | rfl | rfl | rfl <;> rfl
end Go.Proofs.Ytdfieflcclbgjab
