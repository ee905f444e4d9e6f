/-
  DERIVED. GIVEN WITH THE SEED: THE CARDS: each row of YtmekkhfohmfjkaaGreatDoorRows.lean that lists a variable, with what it lists TIED to the program's text (the seventh form; the later family's looks); each row that meets fmt, with fmt's text TOLD by the authors' own Lean function (tested against real Go, not proved from fmt's source: count such statements apart). THE CARD IS WHAT COUNTS. Prove the row's statement (the work); the ties are given (YtmekkhfohmfjkaaGreatDoorTie.lean); close each card by the builder's one call (the guide's Derived/Test/ToyasCard.lean, 'card_holds'). Laid BY PROGRAM, IN A SANDBOX (cutbox-door.mjs). By AI agents, Wed Nov 11 2026. No macro, syntax, notation, axiom, sorry.
-/
import Derived.Test.YtmekkhfohmfjkaaGreatDoorRows
import GoSem.ClaimSeven
namespace Go.Proofs.YtmekkhfohmfjkaaGreatDoor
namespace Rows

/-- THE TIED CARD OF 'reticulelaw10.ScopeDeclared'. -/
def scopeDeclaredCard : Claim7 := { stood := { row := scopeDeclaredRow, standIns := [], harness := (true, "4e6b19e6fa485c1fda77b23bf21636ee9fa19b6aa2817a1e1d7d82623a5e3f8d"), looks := true }, kinds := [], alts := [], laidByText := true, laidKinds := [.data, .data, .data, .sentinel, .sentinel], laidTests := true, laidLooks := .later }
def ScopeDeclaredCardSaid : Prop := Claim7.holds Tryz.pinned (.plain (OpenSpec.ofChange scopeDeclaredSpec)) scopeDeclaredCard

/-- THE TIED CARD OF 'reticulelaw10.ScopeFresh'. -/
def scopeFreshCard : Claim7 := { stood := { row := scopeFreshRow, standIns := [], harness := (true, "4e6b19e6fa485c1fda77b23bf21636ee9fa19b6aa2817a1e1d7d82623a5e3f8d"), looks := true }, kinds := [], alts := [], laidByText := true, laidKinds := [.data, .data, .data, .sentinel, .sentinel], laidTests := true, laidLooks := .later }
def ScopeFreshCardSaid : Prop := Claim7.holds Tryz.pinned (.plain (OpenSpec.ofChange scopeFreshSpec)) scopeFreshCard

/-- THE TIED CARD OF 'reticuletop.TopFits'. -/
def topFitsCard : Claim7 := { stood := { row := topFitsRow, standIns := [], harness := (true, "4e6b19e6fa485c1fda77b23bf21636ee9fa19b6aa2817a1e1d7d82623a5e3f8d"), looks := true }, kinds := [], alts := [], laidByText := true, laidKinds := [.data, .data, .data, .sentinel, .sentinel], laidTests := true, laidLooks := .later }
def TopFitsCardSaid : Prop := Claim7.holds Tryz.pinned (.plain (OpenSpec.ofChange topFitsSpec)) topFitsCard

/-- THE TIED CARD OF 'reticuletop.TopMeets'. -/
def topMeetsCard : Claim7 := { stood := { row := topMeetsRow, standIns := [], harness := (true, "4e6b19e6fa485c1fda77b23bf21636ee9fa19b6aa2817a1e1d7d82623a5e3f8d"), looks := true }, kinds := [], alts := [], laidByText := true, laidKinds := [.data, .data, .data, .sentinel, .sentinel], laidTests := true, laidLooks := .later }
def TopMeetsCardSaid : Prop := Claim7.holds Tryz.pinned (.plain (OpenSpec.ofChange topMeetsSpec)) topMeetsCard

/-- THE SECOND FORM's CARD OF 'reticulelaw10.ScopeDeclared'. -/
def scopeDeclaredUptoCard : Claim7 := { stood := { row := scopeDeclaredUptoRow, standIns := [], harness := (true, "4e6b19e6fa485c1fda77b23bf21636ee9fa19b6aa2817a1e1d7d82623a5e3f8d"), looks := true }, kinds := [], alts := [], laidByText := true, laidKinds := [.data, .data, .data, .sentinel, .sentinel], laidTests := true, laidLooks := .later }
def ScopeDeclaredUptoCardSaid : Prop := Claim7.holds Tryz.pinned (.plain (OpenSpec.upto scopeDeclaredSpec)) scopeDeclaredUptoCard

/-- THE SECOND FORM's CARD OF 'reticulelaw10.ScopeFresh'. -/
def scopeFreshUptoCard : Claim7 := { stood := { row := scopeFreshUptoRow, standIns := [], harness := (true, "4e6b19e6fa485c1fda77b23bf21636ee9fa19b6aa2817a1e1d7d82623a5e3f8d"), looks := true }, kinds := [], alts := [], laidByText := true, laidKinds := [.data, .data, .data, .sentinel, .sentinel], laidTests := true, laidLooks := .later }
def ScopeFreshUptoCardSaid : Prop := Claim7.holds Tryz.pinned (.plain (OpenSpec.upto scopeFreshSpec)) scopeFreshUptoCard

/-- THE SECOND FORM's CARD OF 'reticuletop.TopFits'. -/
def topFitsUptoCard : Claim7 := { stood := { row := topFitsUptoRow, standIns := [], harness := (true, "4e6b19e6fa485c1fda77b23bf21636ee9fa19b6aa2817a1e1d7d82623a5e3f8d"), looks := true }, kinds := [], alts := [], laidByText := true, laidKinds := [.data, .data, .data, .sentinel, .sentinel], laidTests := true, laidLooks := .later }
def TopFitsUptoCardSaid : Prop := Claim7.holds Tryz.pinned (.plain (OpenSpec.upto topFitsSpec)) topFitsUptoCard

/-- THE SECOND FORM's CARD OF 'reticuletop.TopMeets'. -/
def topMeetsUptoCard : Claim7 := { stood := { row := topMeetsUptoRow, standIns := [], harness := (true, "4e6b19e6fa485c1fda77b23bf21636ee9fa19b6aa2817a1e1d7d82623a5e3f8d"), looks := true }, kinds := [], alts := [], laidByText := true, laidKinds := [.data, .data, .data, .sentinel, .sentinel], laidTests := true, laidLooks := .later }
def TopMeetsUptoCardSaid : Prop := Claim7.holds Tryz.pinned (.plain (OpenSpec.upto topMeetsSpec)) topMeetsUptoCard
end Rows
end Go.Proofs.YtmekkhfohmfjkaaGreatDoor
