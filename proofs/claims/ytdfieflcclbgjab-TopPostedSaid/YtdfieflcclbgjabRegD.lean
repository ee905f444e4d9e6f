/-
  A message out of bytes, put behind others in whatever order.
-/
import Derived.Test.YtdfieflcclbgjabZed
import Derived.Test.YtdfieflcclbgjabMKeep
namespace Go.Proofs.Ytdfieflcclbgjab
open Go.RowKit Go.Deep Go.MapKept
end Go.Proofs.Ytdfieflcclbgjab
