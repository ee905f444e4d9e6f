/-
  The document's Taken.
-/
import Derived.Test.YtdfieflcclbgjabRSort
import Derived.Test.YtdfieflcclbgjabNumR
namespace Go.Proofs.Ytdfieflcclbgjab
open Go.RowKit Go.Deep Go.MapKept Go.Sort
/-- A value that takes in a tag's messages, as they stand. -/
def takeM (o : Nat) (tag : Int) (x : Int) (xs : List Msg) : Int := xs.foldl (fun a m => if m.tag = tag then opTwo o a m.val else a) x
theorem redB_many {o : Nat} (h : redB (o : Int) = true) : many5 o := by
  unfold redB at h
  have := of_decide_eq_true h
  unfold many5
  omega
end Go.Proofs.Ytdfieflcclbgjab
