/-
  The document's Encode of messages.
-/
import Derived.Test.YtdfieflcclbgjabRegE
import Derived.Test.YtdfieflcclbgjabRSort
namespace Go.Proofs.Ytdfieflcclbgjab
open Go.RowKit Go.Deep Go.MapKept Go.Sort
def okM (x : Msg) : Bool := decide (0 ≤ x.to ∧ x.to < 12 ∧ 0 ≤ x.tag ∧ x.tag < 6)
def encM (x : Msg) : List Int := x.to :: x.tag :: encW x.val
def encMs (xs : List Msg) : List Int := xs.flatMap encM
theorem encMs_len : ∀ xs : List Msg, (encMs xs).length = xs.length * 10
  | [] => rfl
  | x :: r => by
    have := encMs_len r
    unfold encMs at this ⊢
    simp only [List.flatMap_cons, List.length_append, this, encM, List.length_cons, encW_len]
    omega
def REncPost (w : World) (xs : List Msg) (e : Ending) (w' : World) : Prop :=
  (xs.all okM = false ∧ e = .returned (.tuple #[.slice none 0 0, .int .i64 2]) ∧ Below w.heap.size w w') ∨ (xs.all okM = true ∧ EncPost w (encMs xs) e w')
end Go.Proofs.Ytdfieflcclbgjab
