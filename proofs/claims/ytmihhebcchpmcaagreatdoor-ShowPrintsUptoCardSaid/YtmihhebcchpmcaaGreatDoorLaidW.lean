/-
  What the rows' list of laid variables gives: the library's table of powers of ten, and the two sentinels; and one world in which they lie so.
-/
import Derived.Test.YtmihhebcchpmcaaGreatDoorKinds
import Derived.Test.YtmihhebcchpmcaaGreatDoorRows
import Derived.LaidSub
import Derived.Lib.LaidTab
import Derived.Stop.LaidErr
import Derived.ProofKit
import Derived.LaidLaws
namespace Go.Proofs.YtmihhebcchpmcaaGreatDoor
open Go.RowKit
abbrev laid5 : List (String × DataW Unit) := Rows.showSameRow.laid
theorem gTabType : (Tryz.prog.globals[1]?).map (·.type) = some 115 := by kernel_rfl
theorem cells87 : Tryz.prog.cellsOf 115 = 20 := by kernel_rfl
theorem cells52 : Tryz.prog.cellsOf 99 = 1 := by kernel_rfl
theorem only_tab : laid5.filter (fun x => x.1 == "internal/strconv.uint64pow10") = [("internal/strconv.uint64pow10", Lib.tabData .u64 Lib.pow10Tab)] := by kernel_rfl
theorem tab_of {W : World} (h : laidMetH Tryz.prog laid5 W) : Tab W := by
  have h1 := laidMetH.filter (fun x => x.1 == "internal/strconv.uint64pow10") h
  rw [only_tab] at h1
  exact Lib.tabIs_of_head (rest := []) gTab gTabType Tryz.underlying115 Tryz.underlying99 cells52 cells87 h1
theorem gES : Tryz.prog.globalNamed "strconv.ErrSyntax" = some 2 := by kernel_rfl
theorem gESType : (Tryz.prog.globals[2]?).map (·.type) = some 70 := by kernel_rfl
theorem gER : Tryz.prog.globalNamed "strconv.ErrRange" = some 3 := by kernel_rfl
theorem gERType : (Tryz.prog.globals[3]?).map (·.type) = some 70 := by kernel_rfl
theorem cells85 : Tryz.prog.cellsOf 134 = 1 := by kernel_rfl
theorem cells9 : Tryz.prog.cellsOf 9 = 1 := by kernel_rfl
abbrev synS : ByteArray := { data := #[105, 110, 118, 97, 108, 105, 100, 32, 115, 121, 110, 116, 97, 120] }
abbrev rngS : ByteArray := { data := #[118, 97, 108, 117, 101, 32, 111, 117, 116, 32, 111, 102, 32, 114, 97, 110, 103, 101] }
/-- So many blocks has the settled world. -/
noncomputable def low : Nat := (World.holding Tryz.prog default ⟨#[], #[], []⟩).heap.size
def de32 : List Int := [0, 1, 28, 2, 29, 14, 24, 3, 30, 22, 20, 15, 25, 17, 4, 8, 31, 27, 13, 23, 21, 19, 16, 7, 26, 12, 18, 6, 11, 5, 10, 9]
def de64 : List Int := [0, 1, 56, 2, 57, 49, 28, 3, 61, 58, 42, 50, 38, 29, 17, 4, 62, 47, 59, 36, 45, 43, 51, 22, 53, 39, 33, 30, 24, 18, 12, 5, 63, 55, 48, 27, 60, 41, 37, 16, 46, 35, 44, 21, 52, 32, 23, 11, 54, 26, 40, 15, 34, 20, 31, 10, 25, 14, 19, 9, 13, 8, 7, 6]
def putAt (h : Array Obj) (g : Nat) (cs : Array Value) : Array Obj := h.modify g fun
  | .cells _ t frozen => .cells cs t frozen
  | o => o
/-- The settled world with two blocks more, each the struct of an error; the five variables hold what their initialisers lay. -/
noncomputable def laidWorld (os : Os) : World :=
  let w0 := World.holding Tryz.prog os ⟨#[.cells #[.string synS] 134, .cells #[.string rngS] 134], #[], []⟩
  { w0 with heap := putAt (putAt (putAt (putAt (putAt w0.heap 2 #[.iface 132 (.pointer (some ⟨low, 0, none⟩))]) 3 #[.iface 132 (.pointer (some ⟨low + 1, 0, none⟩))]) 1 (Lib.pow10Tab.map fun z => Value.int .u64 z).toArray) 4 (de32.map fun z => Value.int .u8 z).toArray) 5 (de64.map fun z => Value.int .u8 z).toArray }
theorem laid_met (os : Os) (args : Array Value) : laidMet Tryz.prog laid5 ((laidWorld os).forCall (fun _ _ => 0) ⟨#[], args, []⟩).memory :=
  laidMet_of_run' 8 (by kernel_rfl) (by kernel_rfl)
theorem star : "*" ++ "errors.errorString" = "*errors.errorString" := by decide
theorem row83 (u : TypeId) (h : Tryz.prog.typeName? 3 u = some "*errors.errorString") : u = 132 :=
  typeName_ptr_named (nm := "errors.errorString") (by rw [star]; kernel_rfl) (by kernel_rfl) (by decide) u (by rw [star]; exact h)
theorem only_syn : laid5.filter (fun x => x.1 == "strconv.ErrSyntax") = [("strconv.ErrSyntax", Rows.laid_strconv_ErrSyntax)] := by kernel_rfl
theorem only_rng : laid5.filter (fun x => x.1 == "strconv.ErrRange") = [("strconv.ErrRange", Rows.laid_strconv_ErrRange)] := by kernel_rfl
theorem sent_of {W : World} (h : laidMetH Tryz.prog laid5 W) : Sent W := by
  have h1 := laidMetH.filter (fun x => x.1 == "strconv.ErrSyntax") h
  have h2 := laidMetH.filter (fun x => x.1 == "strconv.ErrRange") h
  rw [only_syn] at h1
  rw [only_rng] at h2
  obtain ⟨a0, s0, hv0, -, -, -⟩ := laid_sentinel (r := []) h1 gES gESType Tryz.underlying70 row83 Tryz.underlying132 Tryz.underlying134 rfl rfl Tryz.underlying9 cells85 cells9
  obtain ⟨a1, s1, hv1, -, -, -⟩ := laid_sentinel (r := []) h2 gER gERType Tryz.underlying70 row83 Tryz.underlying132 Tryz.underlying134 rfl rfl Tryz.underlying9 cells85 cells9
  exact ⟨⟨_, _, hv0⟩, _, _, hv1⟩
theorem laid_of {W : World} (h : laidMetH Tryz.prog laid5 W) : Laid W := ⟨tab_of h, sent_of h⟩
end Go.Proofs.YtmihhebcchpmcaaGreatDoor
