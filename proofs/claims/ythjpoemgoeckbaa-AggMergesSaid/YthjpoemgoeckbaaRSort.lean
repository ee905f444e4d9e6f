/-
  The document's order of messages, whether messages are the same, those to a node.
-/
import Derived.Test.YthjpoemgoeckbaaMBase
namespace Go.Proofs.Ythjpoemgoeckbaa
open Go.RowKit Go.Deep Go.MapKept Go.Sort
def bef (x y : Msg) : Bool := if x.to = y.to then (if x.tag = y.tag then decide (x.val < y.val) else decide (x.tag < y.tag)) else decide (x.to < y.to)
end Go.Proofs.Ythjpoemgoeckbaa
