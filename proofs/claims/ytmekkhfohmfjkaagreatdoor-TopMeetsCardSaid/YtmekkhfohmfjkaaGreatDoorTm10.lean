/-
  Part 10 of the proof: PMem.
-/
import Derived.Test.YtmekkhfohmfjkaaGreatDoorTm05
import Derived.Test.YtmekkhfohmfjkaaGreatDoorTm06
import Derived.Test.YtmekkhfohmfjkaaGreatDoorTm09
namespace Go.Proofs.YtmekkhfohmfjkaaGreatDoor
open Go.RowKit Go.Deep Go.MapKept
abbrev XV := Exp × Value
structure SV where
 s : Stm
 av : Value
 tv : Value
 ev : Value
def dcells (d : Dcl) : List Value := [.string d.name, .int .u8 (d.side : Int), .int .u8 (d.kind : Int)]
def xcells (x : XV) : List Value := [.int .u8 (x.1.k : Int), .int .u8 (x.1.of : Int), .int .u8 (x.1.op : Int), .string x.1.name, .int .i64 x.1.num, x.2]
def acells (a : Actn) : List Value := [.int .u8 (a.k : Int), .string a.name, .int .u8 (a.op : Int), .bool a.inn, .int .i64 a.e, .int .i64 a.cond]
def scells (s : SV) : List Value := [.int .u8 (s.s.k : Int), .string s.s.name, .int .u8 (s.s.op : Int), .int .i64 s.s.e, .int .i64 s.s.cond, s.av, s.tv, s.ev]
def flatD (l : List Dcl) : List Value := l.flatMap dcells
def flatX (l : List XV) : List Value := l.flatMap xcells
def flatAc (l : List Actn) : List Value := l.flatMap acells
def flatS (l : List SV) : List Value := l.flatMap scells
theorem flatD_snoc (l : List Dcl) (x : Dcl) : flatD (l ++ [x]) = flatD l ++ dcells x := by simp [flatD]
theorem flatX_snoc (l : List XV) (x : XV) : flatX (l ++ [x]) = flatX l ++ xcells x := by simp [flatX]
theorem flatAc_snoc (l : List Actn) (x : Actn) : flatAc (l ++ [x]) = flatAc l ++ acells x := by simp [flatAc]
theorem flatS_snoc (l : List SV) (x : SV) : flatS (l ++ [x]) = flatS l ++ scells x := by simp [flatS]
structure PV where
 ds : List Dcl
 xs : List XV
 ss : List SV
 ms : List Int
 dv : Value
 xv : Value
 sv : Value
 mv : Value
def PV.es (p : PV) : ES := (p.xs.map Prod.fst, p.ss.map SV.s)
def kRow (x : XV) : Rw := ⟨x.2, 3, 1, x.1.kids.length, intsI x.1.kids⟩
def sRows (s : SV) : List Rw := [⟨s.av, 126, 6, s.s.acts.length, flatAc s.s.acts⟩, ⟨s.tv, 3, 1, s.s.thn.length, intsI s.s.thn⟩, ⟨s.ev, 3, 1, s.s.els.length, intsI s.s.els⟩]
structure Cx where
 w0 : World
 B : Nat
 vo : Voc
 fv : Value
 fs : List FV
 sz : Nat → Nat
def Cx.l (c : Cx) : List Frm := c.fs.map Prod.fst
def boxRow (c : Cx) (p : PV) : Rw := ⟨bx c.B, 109, 10, 1, [.map (some c.vo.d), .map (some c.vo.s), .map (some c.vo.a), .map (some c.vo.x), .map (some c.vo.o), c.fv, p.dv, p.xv, p.sv, p.mv]⟩
def dRow (p : PV) : Rw := ⟨p.dv, 56, 3, p.ds.length, flatD p.ds⟩
def xRow (p : PV) : Rw := ⟨p.xv, 190, 6, p.xs.length, flatX p.xs⟩
def sRow (p : PV) : Rw := ⟨p.sv, 78, 8, p.ss.length, flatS p.ss⟩
def mRow (p : PV) : Rw := ⟨p.mv, 3, 1, p.ms.length, intsI p.ms⟩
def prows (c : Cx) (p : PV) : List Rw := boxRow c p :: dRow p :: xRow p :: sRow p :: mRow p :: (p.xs.map kRow ++ p.ss.flatMap sRows)
structure Cx.Ok (c : Cx) : Prop where
 row : SeesC c.w0 c.fv c.fs.length 5 (flatF c.fs)
 kid : ∀ (i : Nat) (x : FV), c.fs[i]? = some x → SeesC c.w0 x.2 x.1.kids.length 1 (ints x.1.kids) ∧ Roomy x.2
 voc : IsVoc c.w0 c.vo (decF 6)
 laid : Laid c.w0
 len : c.fs.length ≤ 400
 kidlt : ∀ (i : Nat) (x : FV), c.fs[i]? = some x → ∀ k ∈ x.1.kids, i < k ∧ k < c.fs.length
 kidlen : ∀ (i : Nat) (x : FV), c.fs[i]? = some x → x.1.kids.length ≤ 400
 txt : ∀ (i : Nat) (x : FV), c.fs[i]? = some x → x.1.s.size ≤ 140737488355328
 szk : ∀ (i : Nat) (x : FV), c.fs[i]? = some x → 1 + (x.1.kids.map c.sz).sum ≤ c.sz i
structure RdS (c : Cx) (p : PV) (X : List Rw) (w : World) : Prop where
 below : Below c.w0.heap.size c.w0 w
 rows : RowsP w c.w0.heap.size (prows c p ++ X)
section
variable {c : Cx} {p : PV} {X : List Rw} {w : World}
theorem RdS.on (h : RdS c p X w) {w' : World} (hb : Below w.heap.size w w') : RdS c p X w' := ⟨h.below.trans (hb.mono h.below.size), h.rows.below hb⟩
theorem RdS.drew (h : RdS c p X w) : RdS c p X w.drew := ⟨h.below.drew, h.rows.drew⟩
theorem RdS.alloc (h : RdS c p X w) (o : Obj) : RdS c p X (w.alloc o) := ⟨h.below.alloc h.below.size o, h.rows.alloc o⟩
theorem RdS.box (h : RdS c p X w) : w.ownsRow c.w0.heap.size 109 10 (bx c.B) 1 (boxRow c p).xs := RowsP.head (r := boxRow c p) h.rows
theorem RdS.cell (h : RdS c p X w) {j : Nat} {u : Value} (hj : (boxRow c p).xs[j]? = some u) : w.cell? ⟨c.B, j, none⟩ = some u := zaA h.box hj
theorem RdS.free (h : RdS c p X w) (j : Nat) : w.frozen? ⟨c.B, j, none⟩ = false := zaQ h.box j
theorem RdS.lt (h : RdS c p X w) : c.w0.heap.size ≤ c.B ∧ c.B < w.heap.size := h.box.lt c.B rfl
theorem RdS.size (h : RdS c p X w) : c.w0.heap.size ≤ w.heap.size := h.below.size
theorem RdS.more (h : RdS c p X w) {r : Rw} (hr : RowsP w c.w0.heap.size (r :: (prows c p ++ X))) : RdS c p (r :: X) w :=
 ⟨h.below, hr.perm (List.perm_middle.symm)⟩
theorem RdS.less {r : Rw} (h : RdS c p (r :: X) w) : RdS c p X w :=
 ⟨h.below, (h.rows.perm List.perm_middle).rest⟩
theorem RdS.first {r : Rw} (h : RdS c p (r :: X) w) : RowsP w c.w0.heap.size (r :: (prows c p ++ X)) := h.rows.perm List.perm_middle
end
theorem Cx.frm_at {c : Cx} {n : Nat} {x : FV} (hx : c.fs[n]? = some x) : frm c.l n = x.1 := by
 unfold frm Cx.l
 rw [List.getD_eq_getElem?_getD, List.getElem?_map, hx]
 rfl
theorem Cx.Ok.form {c : Cx} (h : c.Ok) {w : World} (hw : Below c.w0.heap.size c.w0 w) {n : Nat} {x : FV} (hx : c.fs[n]? = some x) :
  ∃ g o cap, c.fv = .slice (some ⟨g, o, none⟩) c.fs.length cap ∧ w.cell? ⟨g, o + n * 5, none⟩ = some (.int .u8 x.1.k) ∧ w.cell? ⟨g, o + n * 5 + 1, none⟩ = some (.string x.1.s) ∧ w.cell? ⟨g, o + n * 5 + 2, none⟩ = some (.int .i64 x.1.n) ∧ w.cell? ⟨g, o + n * 5 + 3, none⟩ = some x.2 ∧ w.cell? ⟨g, o + n * 5 + 4, none⟩ = some (.int .i64 x.1.p) := by
 have hn : n < c.fs.length := (List.getElem?_eq_some_iff.1 hx).1
 obtain ⟨_, a, cap, hv, h0⟩ := h.row.below hw (Nat.le_refl _)
 rcases h0 with h0 | ⟨g, o, rfl, hc⟩
 ·omega
 ·refine ⟨g, o, cap, hv, ?_, ?_, ?_, ?_, ?_⟩
  ·have := hc (n * 5 + 0) _ (by rw [zcG c.fs n 0 x hx (by omega)]; rfl); simpa [Nat.add_assoc] using this
  ·have := hc (n * 5 + 1) _ (by rw [zcG c.fs n 1 x hx (by omega)]; rfl); simpa [Nat.add_assoc] using this
  ·have := hc (n * 5 + 2) _ (by rw [zcG c.fs n 2 x hx (by omega)]; rfl); simpa [Nat.add_assoc] using this
  ·have := hc (n * 5 + 3) _ (by rw [zcG c.fs n 3 x hx (by omega)]; rfl); simpa [Nat.add_assoc] using this
  ·have := hc (n * 5 + 4) _ (by rw [zcG c.fs n 4 x hx (by omega)]; rfl); simpa [Nat.add_assoc] using this
def SeesK (w0 : World) (v : Value) (ks : List Nat) : Prop := SeesC w0 v ks.length 1 (ints ks)
abbrev flt2 (p : Int) : List PanicEntry := [{ v := .iface 111 (.agg #[.int .i64 p, .int .i64 8]), recovered := false }]
end Go.Proofs.YtmekkhfohmfjkaaGreatDoor
