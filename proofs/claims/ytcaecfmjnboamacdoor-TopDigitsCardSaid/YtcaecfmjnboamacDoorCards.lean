/-
  DERIVED. GIVEN WITH THE SEED: THE CARDS: each row of YtcaecfmjnboamacDoorRows.lean that lists a variable, with what it lists TIED to the program's text (the seventh form; the later family's looks); each row that meets fmt, with fmt's text TOLD by the authors' own Lean function (tested against real Go, not proved from fmt's source: count such statements apart). THE CARD IS WHAT COUNTS. Prove the row's statement (the work); the ties are given (YtcaecfmjnboamacDoorTie.lean); close each card by the builder's one call (the guide's Derived/Test/ToyasCard.lean, 'card_holds'). Laid BY PROGRAM, IN A SANDBOX (cutbox-door.mjs). By AI agents, Wed Nov 11 2026. No macro, syntax, notation, axiom, sorry.
-/
import Derived.Test.YtcaecfmjnboamacDoorRows
import GoSem.ClaimSeven
namespace Go.Proofs.YtcaecfmjnboamacDoor
namespace Rows

/-- THE TIED CARD OF 'reticuletop.TopDigits'. -/
def topDigitsCard : Claim7 := { stood := { row := topDigitsRow, standIns := [], harness := (true, "52bb9ec92f64e17cda3b6c69aa633d74c3cf66ef0aa5f16854d8302ecca19d7b"), looks := true }, kinds := [], alts := [], laidByText := true, laidKinds := [.data, .data, .data, .sentinel, .sentinel], laidTests := true, laidLooks := .later }
def TopDigitsCardSaid : Prop := Claim7.holds Tryd.pinned (.plain (OpenSpec.ofChange topDigitsSpec)) topDigitsCard

/-- THE SECOND FORM's CARD OF 'reticuletop.TopDigits'. -/
def topDigitsUptoCard : Claim7 := { stood := { row := topDigitsUptoRow, standIns := [], harness := (true, "52bb9ec92f64e17cda3b6c69aa633d74c3cf66ef0aa5f16854d8302ecca19d7b"), looks := true }, kinds := [], alts := [], laidByText := true, laidKinds := [.data, .data, .data, .sentinel, .sentinel], laidTests := true, laidLooks := .later }
def TopDigitsUptoCardSaid : Prop := Claim7.holds Tryd.pinned (.plain (OpenSpec.upto topDigitsSpec)) topDigitsUptoCard
end Rows
end Go.Proofs.YtcaecfmjnboamacDoor
