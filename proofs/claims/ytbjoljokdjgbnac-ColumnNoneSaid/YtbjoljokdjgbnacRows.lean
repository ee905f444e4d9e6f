/-
  No cell of these rows narrows 'for every input' (looked for: loops, veiled, ifaces, maps, wideKeys, modest, calm, conditions, laid).
  DERIVED. THE GIVEN ROWS OF THIS SEAT. 4 by the template 'for every input the law returns true; each argument reads behind the call as it read before'; 0 by the template 'total and deterministic' (their statements: YtbjoljokdjgbnacTotals.lean).
  GIVEN WITH THE SEED: the statements are not yours to turn. If you find one false, say at which input.
  Laid BY PROGRAM, IN A SANDBOX (cutbox-rows.mjs): the forced cells as the released guide's own fill.sh prints them over the translation 5e341380538c9190… (all of the seat's roots in one cut). By AI agents, Wed Nov 11 2026. No macro, syntax, notation, axiom, sorry.
-/
import Derived.Test.YtbjoljokdjgbnacChecked
import GoSem.Claim
import GoSem.ClaimJoined
import GoSem.ClaimMapViews
import Derived.JoinedTies
import Derived.KernelRfl
namespace Go.Proofs.Ytbjoljokdjgbnac
/- THE CELL 'sum', in the pinned program and in every row, IS THE sha256 OF THE DUMP (.gsa) THAT YtbjoljokdjgbnacProg.lean LOADS. Nothing in Lean hashes anything: it is a label: what it is worth is what the hold of that sum in a sandbox is worth. -/
noncomputable def Try.pinned : Pinned := { name := "ytbjoljokdjgbnac", sum := "5e341380538c91907f401e805bf9c09b67800c587a91aca35cb712a2a7f46672", checked := Try.checked }
namespace Rows
def none {H : Type} : Left H := { results := [], args := [] }

/-- 'reticulelaw04.ColumnForks': WHATEVER THE INPUT: true; the input reads as it did. -/
def columnForksSpec : ChangeSpec := { name := "columnForks", fn := fun _ => fun
  | [d1, d2] => { results := [.lit (.bool true)], args := [d1, d2] }
  | _ => none }
def columnForksRow : OpenClaim := { program := "ytbjoljokdjgbnac", sum := "5e341380538c91907f401e805bf9c09b67800c587a91aca35cb712a2a7f46672", func := "reticule/reticulelaw04.ColumnForks", spec := "columnForks", unfollowed := true, recurses := true, plainKeys := false, apart := false }
def ColumnForksSaid : Prop := columnForksRow.holds Try.pinned (OpenSpec.ofChange columnForksSpec)

/-- ITS FALSE NEIGHBOUR: 'it returns false'. Refute it at one input. -/
def columnForksWrong : ChangeSpec := { name := "columnForks", fn := fun _ => fun
  | [d1, d2] => { results := [.lit (.bool false)], args := [d1, d2] }
  | _ => none }
def ColumnForksWrongFalsely : Prop := columnForksRow.holds Try.pinned (OpenSpec.ofChange columnForksWrong)

/-- 'reticulelaw04.ColumnNone': WHATEVER THE INPUT: true; the input reads as it did. -/
def columnNoneSpec : ChangeSpec := { name := "columnNone", fn := fun _ => fun
  | [d1, d2] => { results := [.lit (.bool true)], args := [d1, d2] }
  | _ => none }
def columnNoneRow : OpenClaim := { program := "ytbjoljokdjgbnac", sum := "5e341380538c91907f401e805bf9c09b67800c587a91aca35cb712a2a7f46672", func := "reticule/reticulelaw04.ColumnNone", spec := "columnNone", unfollowed := true, recurses := true, plainKeys := false, apart := false }
def ColumnNoneSaid : Prop := columnNoneRow.holds Try.pinned (OpenSpec.ofChange columnNoneSpec)

/-- ITS FALSE NEIGHBOUR: 'it returns false'. Refute it at one input. -/
def columnNoneWrong : ChangeSpec := { name := "columnNone", fn := fun _ => fun
  | [d1, d2] => { results := [.lit (.bool false)], args := [d1, d2] }
  | _ => none }
def ColumnNoneWrongFalsely : Prop := columnNoneRow.holds Try.pinned (OpenSpec.ofChange columnNoneWrong)

/-- 'reticuletop.TopLaid': WHATEVER THE INPUT: true; the input reads as it did. -/
def topLaidSpec : ChangeSpec := { name := "topLaid", fn := fun _ => fun
  | [d1, d2] => { results := [.lit (.bool true)], args := [d1, d2] }
  | _ => none }
def topLaidRow : OpenClaim := { program := "ytbjoljokdjgbnac", sum := "5e341380538c91907f401e805bf9c09b67800c587a91aca35cb712a2a7f46672", func := "reticule/reticuletop.TopLaid", spec := "topLaid", unfollowed := true, recurses := true, plainKeys := false, apart := false }
def TopLaidSaid : Prop := topLaidRow.holds Try.pinned (OpenSpec.ofChange topLaidSpec)

/-- ITS FALSE NEIGHBOUR: 'it returns false'. Refute it at one input. -/
def topLaidWrong : ChangeSpec := { name := "topLaid", fn := fun _ => fun
  | [d1, d2] => { results := [.lit (.bool false)], args := [d1, d2] }
  | _ => none }
def TopLaidWrongFalsely : Prop := topLaidRow.holds Try.pinned (OpenSpec.ofChange topLaidWrong)

/-- 'reticuletop.TopHang': WHATEVER THE INPUT: true; the input reads as it did. -/
def topHangSpec : ChangeSpec := { name := "topHang", fn := fun _ => fun
  | [d1, d2] => { results := [.lit (.bool true)], args := [d1, d2] }
  | _ => none }
def topHangRow : OpenClaim := { program := "ytbjoljokdjgbnac", sum := "5e341380538c91907f401e805bf9c09b67800c587a91aca35cb712a2a7f46672", func := "reticule/reticuletop.TopHang", spec := "topHang", unfollowed := true, recurses := true, plainKeys := false, apart := false }
def TopHangSaid : Prop := topHangRow.holds Try.pinned (OpenSpec.ofChange topHangSpec)

/-- ITS FALSE NEIGHBOUR: 'it returns false'. Refute it at one input. -/
def topHangWrong : ChangeSpec := { name := "topHang", fn := fun _ => fun
  | [d1, d2] => { results := [.lit (.bool false)], args := [d1, d2] }
  | _ => none }
def TopHangWrongFalsely : Prop := topHangRow.holds Try.pinned (OpenSpec.ofChange topHangWrong)

/- THE SECOND FORM. 'bulk': how many values and letters a reading holds, each counted each time it is reached (what is shared counts as often as it is met; a slice's spare places count too). A statement '..UptoSaid' is the law's where the arguments, and the package variables that the reading takes, are together of bulk at most 1048576: NARROWER than '..Said'. Prove '..Said' where nothing that the law and all that it calls make is longer than what came in: it says more and counts as full. Else prove '..UptoSaid'. A law counts once. -/
mutual
def uptoBulk {H : Type} : DataW H → Nat
  | .lit (.string bytes) => bytes.length + 1
  | .lit _ => 1
  | .nil => 1
  | .ptr d => uptoBulk d + 1
  | .slice elems spare => uptoBulkAll elems + uptoBulkAll spare + 1
  | .agg parts => uptoBulkAll parts + 1
  | .iface _ d => uptoBulk d + 1
  | .map entries => uptoBulkEntries entries + 1
  | .held _ => 1
def uptoBulkAll {H : Type} : List (DataW H) → Nat
  | [] => 0
  | d :: r => uptoBulk d + uptoBulkAll r
def uptoBulkEntries {H : Type} : List (Lit × DataW H) → Nat
  | [] => 0
  | x :: r => uptoBulkEntry x + uptoBulkEntries r
def uptoBulkEntry {H : Type} : Lit × DataW H → Nat
  | (.string bytes, d) => bytes.length + uptoBulk d + 1
  | (_, d) => uptoBulk d + 1
 end
def uptoSmall : (H : Type) → List (DataW H) → Bool := fun _ ds => decide (uptoBulkAll ds ≤ 1048576)
def OpenSpec.upto (s : _root_.Go.ChangeSpec) : _root_.Go.OpenSpec := { _root_.Go.OpenSpec.ofChange s with cond := some uptoSmall }

/-- 'reticulelaw04.ColumnForks', WHERE WHAT IT READS IS OF BULK AT MOST 1048576: true; the input reads as it did. -/
def columnForksUptoRow : OpenClaim := { program := "ytbjoljokdjgbnac", sum := "5e341380538c91907f401e805bf9c09b67800c587a91aca35cb712a2a7f46672", func := "reticule/reticulelaw04.ColumnForks", spec := "columnForks", unfollowed := true, recurses := true, plainKeys := false, apart := false, narrowed := true }
def ColumnForksUptoSaid : Prop := columnForksUptoRow.holds Try.pinned (OpenSpec.upto columnForksSpec)

/-- 'reticulelaw04.ColumnNone', WHERE WHAT IT READS IS OF BULK AT MOST 1048576: true; the input reads as it did. -/
def columnNoneUptoRow : OpenClaim := { program := "ytbjoljokdjgbnac", sum := "5e341380538c91907f401e805bf9c09b67800c587a91aca35cb712a2a7f46672", func := "reticule/reticulelaw04.ColumnNone", spec := "columnNone", unfollowed := true, recurses := true, plainKeys := false, apart := false, narrowed := true }
def ColumnNoneUptoSaid : Prop := columnNoneUptoRow.holds Try.pinned (OpenSpec.upto columnNoneSpec)

/-- 'reticuletop.TopLaid', WHERE WHAT IT READS IS OF BULK AT MOST 1048576: true; the input reads as it did. -/
def topLaidUptoRow : OpenClaim := { program := "ytbjoljokdjgbnac", sum := "5e341380538c91907f401e805bf9c09b67800c587a91aca35cb712a2a7f46672", func := "reticule/reticuletop.TopLaid", spec := "topLaid", unfollowed := true, recurses := true, plainKeys := false, apart := false, narrowed := true }
def TopLaidUptoSaid : Prop := topLaidUptoRow.holds Try.pinned (OpenSpec.upto topLaidSpec)

/-- 'reticuletop.TopHang', WHERE WHAT IT READS IS OF BULK AT MOST 1048576: true; the input reads as it did. -/
def topHangUptoRow : OpenClaim := { program := "ytbjoljokdjgbnac", sum := "5e341380538c91907f401e805bf9c09b67800c587a91aca35cb712a2a7f46672", func := "reticule/reticuletop.TopHang", spec := "topHang", unfollowed := true, recurses := true, plainKeys := false, apart := false, narrowed := true }
def TopHangUptoSaid : Prop := topHangUptoRow.holds Try.pinned (OpenSpec.upto topHangSpec)

end Rows
end Go.Proofs.Ytbjoljokdjgbnac
