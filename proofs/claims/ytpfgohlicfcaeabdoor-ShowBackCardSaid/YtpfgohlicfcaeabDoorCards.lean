/-
  DERIVED. GIVEN WITH THE SEED: THE CARDS: each row of YtpfgohlicfcaeabDoorRows.lean that lists a variable, with what it lists TIED to the program's text (the seventh form; the later family's looks); each row that meets fmt, with fmt's text TOLD by the authors' own Lean function (tested against real Go, not proved from fmt's source: count such statements apart). THE CARD IS WHAT COUNTS. Prove the row's statement (the work); the ties are given (YtpfgohlicfcaeabDoorTie.lean); close each card by the builder's one call (the guide's Derived/Test/ToyasCard.lean, 'card_holds'). Laid BY PROGRAM, IN A SANDBOX (cutbox-door.mjs). By AI agents, Wed Nov 11 2026. No macro, syntax, notation, axiom, sorry.
-/
import Derived.Test.YtpfgohlicfcaeabDoorRows
import GoSem.ClaimSeven
namespace Go.Proofs.YtpfgohlicfcaeabDoor
namespace Rows

/-- THE TIED CARD OF 'reticulelaw08.ShowBack'. -/
def showBackCard : Claim7 := { stood := { row := showBackRow, standIns := [], harness := (true, "8bf53c8b5e4daf52b41d0a4d75f16c4459df93133fcd324adfa7fda1fc5b6bcb"), looks := true }, kinds := [], alts := [], laidByText := true, laidKinds := [.data, .data, .data, .sentinel, .sentinel], laidTests := true, laidLooks := .later }
def ShowBackCardSaid : Prop := Claim7.holds Tryd.pinned (.plain (OpenSpec.ofChange showBackSpec)) showBackCard

/-- THE TIED CARD OF 'reticulelaw08.ShowLines'. -/
def showLinesCard : Claim7 := { stood := { row := showLinesRow, standIns := [], harness := (true, "8bf53c8b5e4daf52b41d0a4d75f16c4459df93133fcd324adfa7fda1fc5b6bcb"), looks := true }, kinds := [], alts := [], laidByText := true, laidKinds := [.data, .data, .data, .sentinel, .sentinel], laidTests := true, laidLooks := .later }
def ShowLinesCardSaid : Prop := Claim7.holds Tryd.pinned (.plain (OpenSpec.ofChange showLinesSpec)) showLinesCard

/-- THE TIED CARD OF 'reticuletop.TopNested'. -/
def topNestedCard : Claim7 := { stood := { row := topNestedRow, standIns := [], harness := (true, "8bf53c8b5e4daf52b41d0a4d75f16c4459df93133fcd324adfa7fda1fc5b6bcb"), looks := true }, kinds := [], alts := [], laidByText := true, laidKinds := [.data, .data, .data, .sentinel, .sentinel], laidTests := true, laidLooks := .later }
def TopNestedCardSaid : Prop := Claim7.holds Tryd.pinned (.plain (OpenSpec.ofChange topNestedSpec)) topNestedCard

/-- THE TIED CARD OF 'reticuletop.TopOpen'. -/
def topOpenCard : Claim7 := { stood := { row := topOpenRow, standIns := [], harness := (true, "8bf53c8b5e4daf52b41d0a4d75f16c4459df93133fcd324adfa7fda1fc5b6bcb"), looks := true }, kinds := [], alts := [], laidByText := true, laidKinds := [.data, .data, .data, .sentinel, .sentinel], laidTests := true, laidLooks := .later }
def TopOpenCardSaid : Prop := Claim7.holds Tryd.pinned (.plain (OpenSpec.ofChange topOpenSpec)) topOpenCard

/-- THE SECOND FORM's CARD OF 'reticulelaw08.ShowBack'. -/
def showBackUptoCard : Claim7 := { stood := { row := showBackUptoRow, standIns := [], harness := (true, "8bf53c8b5e4daf52b41d0a4d75f16c4459df93133fcd324adfa7fda1fc5b6bcb"), looks := true }, kinds := [], alts := [], laidByText := true, laidKinds := [.data, .data, .data, .sentinel, .sentinel], laidTests := true, laidLooks := .later }
def ShowBackUptoCardSaid : Prop := Claim7.holds Tryd.pinned (.plain (OpenSpec.upto showBackSpec)) showBackUptoCard

/-- THE SECOND FORM's CARD OF 'reticulelaw08.ShowLines'. -/
def showLinesUptoCard : Claim7 := { stood := { row := showLinesUptoRow, standIns := [], harness := (true, "8bf53c8b5e4daf52b41d0a4d75f16c4459df93133fcd324adfa7fda1fc5b6bcb"), looks := true }, kinds := [], alts := [], laidByText := true, laidKinds := [.data, .data, .data, .sentinel, .sentinel], laidTests := true, laidLooks := .later }
def ShowLinesUptoCardSaid : Prop := Claim7.holds Tryd.pinned (.plain (OpenSpec.upto showLinesSpec)) showLinesUptoCard

/-- THE SECOND FORM's CARD OF 'reticuletop.TopNested'. -/
def topNestedUptoCard : Claim7 := { stood := { row := topNestedUptoRow, standIns := [], harness := (true, "8bf53c8b5e4daf52b41d0a4d75f16c4459df93133fcd324adfa7fda1fc5b6bcb"), looks := true }, kinds := [], alts := [], laidByText := true, laidKinds := [.data, .data, .data, .sentinel, .sentinel], laidTests := true, laidLooks := .later }
def TopNestedUptoCardSaid : Prop := Claim7.holds Tryd.pinned (.plain (OpenSpec.upto topNestedSpec)) topNestedUptoCard

/-- THE SECOND FORM's CARD OF 'reticuletop.TopOpen'. -/
def topOpenUptoCard : Claim7 := { stood := { row := topOpenUptoRow, standIns := [], harness := (true, "8bf53c8b5e4daf52b41d0a4d75f16c4459df93133fcd324adfa7fda1fc5b6bcb"), looks := true }, kinds := [], alts := [], laidByText := true, laidKinds := [.data, .data, .data, .sentinel, .sentinel], laidTests := true, laidLooks := .later }
def TopOpenUptoCardSaid : Prop := Claim7.holds Tryd.pinned (.plain (OpenSpec.upto topOpenSpec)) topOpenUptoCard
end Rows
end Go.Proofs.YtpfgohlicfcaeabDoor
