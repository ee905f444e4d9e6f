/-
  DERIVED. GIVEN WITH THE SEED: THE CARDS: each row of YtfljimpgnlfipaaGreatDoorRows.lean that lists a variable, with what it lists TIED to the program's text (the seventh form; the later family's looks); each row that meets fmt, with fmt's text TOLD by the authors' own Lean function (tested against real Go, not proved from fmt's source: count such statements apart). THE CARD IS WHAT COUNTS. Prove the row's statement (the work); the ties are given (YtfljimpgnlfipaaGreatDoorTie.lean); close each card by the builder's one call (the guide's Derived/Test/ToyasCard.lean, 'card_holds'). Laid BY PROGRAM, IN A SANDBOX (cutbox-door.mjs). By AI agents, Wed Nov 11 2026. No macro, syntax, notation, axiom, sorry.
-/
import Derived.Test.YtfljimpgnlfipaaGreatDoorRows
import GoSem.ClaimSeven
namespace Go.Proofs.YtfljimpgnlfipaaGreatDoor
namespace Rows

/-- THE TIED CARD OF 'reticulelaw11.TypedChecks'. -/
def typedChecksCard : Claim7 := { stood := { row := typedChecksRow, standIns := [], harness := (true, "2ca1d10eaca5efedc8b43187334a4284b7ba2be4da1c22f2d21101f3574be2a8"), looks := true }, kinds := [], alts := [], laidByText := true, laidKinds := [.data, .data, .data, .sentinel, .sentinel], laidTests := true, laidLooks := .later }
def TypedChecksCardSaid : Prop := Claim7.holds Tryz.pinned (.plain (OpenSpec.ofChange typedChecksSpec)) typedChecksCard

/-- THE TIED CARD OF 'reticulelaw11.TypedKinds'. -/
def typedKindsCard : Claim7 := { stood := { row := typedKindsRow, standIns := [], harness := (true, "2ca1d10eaca5efedc8b43187334a4284b7ba2be4da1c22f2d21101f3574be2a8"), looks := true }, kinds := [], alts := [], laidByText := true, laidKinds := [.data, .data, .data, .sentinel, .sentinel], laidTests := true, laidLooks := .later }
def TypedKindsCardSaid : Prop := Claim7.holds Tryz.pinned (.plain (OpenSpec.ofChange typedKindsSpec)) typedKindsCard

/-- THE TIED CARD OF 'reticulelaw11.TypedRaw'. -/
def typedRawCard : Claim7 := { stood := { row := typedRawRow, standIns := [], harness := (true, "2ca1d10eaca5efedc8b43187334a4284b7ba2be4da1c22f2d21101f3574be2a8"), looks := true }, kinds := [], alts := [], laidByText := true, laidKinds := [.data, .data, .data, .sentinel, .sentinel], laidTests := true, laidLooks := .later }
def TypedRawCardSaid : Prop := Claim7.holds Tryz.pinned (.plain (OpenSpec.ofChange typedRawSpec)) typedRawCard

/-- THE TIED CARD OF 'reticulelaw11.TypedEverywhere'. -/
def typedEverywhereCard : Claim7 := { stood := { row := typedEverywhereRow, standIns := [], harness := (true, "2ca1d10eaca5efedc8b43187334a4284b7ba2be4da1c22f2d21101f3574be2a8"), looks := true }, kinds := [], alts := [], laidByText := true, laidKinds := [.data, .data, .data, .sentinel, .sentinel], laidTests := true, laidLooks := .later }
def TypedEverywhereCardSaid : Prop := Claim7.holds Tryz.pinned (.plain (OpenSpec.ofChange typedEverywhereSpec)) typedEverywhereCard

/-- THE TIED CARD OF 'reticulelaw12.ClashChecks'. -/
def clashChecksCard : Claim7 := { stood := { row := clashChecksRow, standIns := [], harness := (true, "2ca1d10eaca5efedc8b43187334a4284b7ba2be4da1c22f2d21101f3574be2a8"), looks := true }, kinds := [], alts := [], laidByText := true, laidKinds := [.data, .data, .data, .sentinel, .sentinel], laidTests := true, laidLooks := .later }
def ClashChecksCardSaid : Prop := Claim7.holds Tryz.pinned (.plain (OpenSpec.ofChange clashChecksSpec)) clashChecksCard

/-- THE TIED CARD OF 'reticuletop.TopMeets'. -/
def topMeetsCard : Claim7 := { stood := { row := topMeetsRow, standIns := [], harness := (true, "2ca1d10eaca5efedc8b43187334a4284b7ba2be4da1c22f2d21101f3574be2a8"), looks := true }, kinds := [], alts := [], laidByText := true, laidKinds := [.data, .data, .data, .sentinel, .sentinel], laidTests := true, laidLooks := .later }
def TopMeetsCardSaid : Prop := Claim7.holds Tryz.pinned (.plain (OpenSpec.ofChange topMeetsSpec)) topMeetsCard

/-- THE SECOND FORM's CARD OF 'reticulelaw11.TypedChecks'. -/
def typedChecksUptoCard : Claim7 := { stood := { row := typedChecksUptoRow, standIns := [], harness := (true, "2ca1d10eaca5efedc8b43187334a4284b7ba2be4da1c22f2d21101f3574be2a8"), looks := true }, kinds := [], alts := [], laidByText := true, laidKinds := [.data, .data, .data, .sentinel, .sentinel], laidTests := true, laidLooks := .later }
def TypedChecksUptoCardSaid : Prop := Claim7.holds Tryz.pinned (.plain (OpenSpec.upto typedChecksSpec)) typedChecksUptoCard

/-- THE SECOND FORM's CARD OF 'reticulelaw11.TypedKinds'. -/
def typedKindsUptoCard : Claim7 := { stood := { row := typedKindsUptoRow, standIns := [], harness := (true, "2ca1d10eaca5efedc8b43187334a4284b7ba2be4da1c22f2d21101f3574be2a8"), looks := true }, kinds := [], alts := [], laidByText := true, laidKinds := [.data, .data, .data, .sentinel, .sentinel], laidTests := true, laidLooks := .later }
def TypedKindsUptoCardSaid : Prop := Claim7.holds Tryz.pinned (.plain (OpenSpec.upto typedKindsSpec)) typedKindsUptoCard

/-- THE SECOND FORM's CARD OF 'reticulelaw11.TypedRaw'. -/
def typedRawUptoCard : Claim7 := { stood := { row := typedRawUptoRow, standIns := [], harness := (true, "2ca1d10eaca5efedc8b43187334a4284b7ba2be4da1c22f2d21101f3574be2a8"), looks := true }, kinds := [], alts := [], laidByText := true, laidKinds := [.data, .data, .data, .sentinel, .sentinel], laidTests := true, laidLooks := .later }
def TypedRawUptoCardSaid : Prop := Claim7.holds Tryz.pinned (.plain (OpenSpec.upto typedRawSpec)) typedRawUptoCard

/-- THE SECOND FORM's CARD OF 'reticulelaw11.TypedEverywhere'. -/
def typedEverywhereUptoCard : Claim7 := { stood := { row := typedEverywhereUptoRow, standIns := [], harness := (true, "2ca1d10eaca5efedc8b43187334a4284b7ba2be4da1c22f2d21101f3574be2a8"), looks := true }, kinds := [], alts := [], laidByText := true, laidKinds := [.data, .data, .data, .sentinel, .sentinel], laidTests := true, laidLooks := .later }
def TypedEverywhereUptoCardSaid : Prop := Claim7.holds Tryz.pinned (.plain (OpenSpec.upto typedEverywhereSpec)) typedEverywhereUptoCard

/-- THE SECOND FORM's CARD OF 'reticulelaw12.ClashChecks'. -/
def clashChecksUptoCard : Claim7 := { stood := { row := clashChecksUptoRow, standIns := [], harness := (true, "2ca1d10eaca5efedc8b43187334a4284b7ba2be4da1c22f2d21101f3574be2a8"), looks := true }, kinds := [], alts := [], laidByText := true, laidKinds := [.data, .data, .data, .sentinel, .sentinel], laidTests := true, laidLooks := .later }
def ClashChecksUptoCardSaid : Prop := Claim7.holds Tryz.pinned (.plain (OpenSpec.upto clashChecksSpec)) clashChecksUptoCard

/-- THE SECOND FORM's CARD OF 'reticuletop.TopMeets'. -/
def topMeetsUptoCard : Claim7 := { stood := { row := topMeetsUptoRow, standIns := [], harness := (true, "2ca1d10eaca5efedc8b43187334a4284b7ba2be4da1c22f2d21101f3574be2a8"), looks := true }, kinds := [], alts := [], laidByText := true, laidKinds := [.data, .data, .data, .sentinel, .sentinel], laidTests := true, laidLooks := .later }
def TopMeetsUptoCardSaid : Prop := Claim7.holds Tryz.pinned (.plain (OpenSpec.upto topMeetsSpec)) topMeetsUptoCard
end Rows
end Go.Proofs.YtfljimpgnlfipaaGreatDoor
