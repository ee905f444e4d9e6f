/-
  What ints are, as a list of numbers.
-/
import Derived.Test.YtmihhebcchpmcaaGreatDoorRParse7
namespace Go.Proofs.YtmihhebcchpmcaaGreatDoor
open Go.RowKit Go.Deep Go.MapKept
theorem sees_ints {w : World} {v : Value} {l : List Nat} (h : SeesC w v l.length 1 (ints l)) : SeesC w v (l.map fun (n : Nat) => (n : Int)).length 1 (intsI (l.map fun (n : Nat) => (n : Int))) := by
  have e : intsI (l.map fun (n : Nat) => (n : Int)) = ints l := by simp [intsI, ints]
  rw [e, List.length_map]
  exact h
end Go.Proofs.YtmihhebcchpmcaaGreatDoor
