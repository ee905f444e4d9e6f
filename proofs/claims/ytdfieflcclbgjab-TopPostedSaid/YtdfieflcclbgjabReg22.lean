/-
  A message's value taken in by another one's, in whatever order.
-/
import Derived.Test.YtdfieflcclbgjabZed
import Derived.Test.YtdfieflcclbgjabNumR
namespace Go.Proofs.Ytdfieflcclbgjab
open Go.RowKit Go.Deep Go.MapKept
end Go.Proofs.Ytdfieflcclbgjab
