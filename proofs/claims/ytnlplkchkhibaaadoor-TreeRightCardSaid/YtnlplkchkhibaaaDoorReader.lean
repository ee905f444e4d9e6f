/-
  The program's reader of tokens, as it lies in memory.
-/
import Derived.Test.YtnlplkchkhibaaaDoorRows2
namespace Go.Proofs.YtnlplkchkhibaaaDoor
open Go.RowKit Go.Deep Go.MapKept
/-- A form, and the value of its kids' row. -/
abbrev FV := Frm × Value
def fcells (x : FV) : List Value := [.int .u8 x.1.k, .string x.1.s, .int .i64 x.1.n, x.2, .int .i64 x.1.p]
def flatF (l : List FV) : List Value := l.flatMap fcells
theorem flatF_length : ∀ l : List FV, (flatF l).length = l.length * 5
  | [] => rfl
  | x :: r => by simp only [flatF, List.flatMap_cons, List.length_append, List.length_cons, fcells, List.length_nil]; have := flatF_length r; unfold flatF at this; omega
theorem flatF_append (a b : List FV) : flatF (a ++ b) = flatF a ++ flatF b := by simp [flatF]
theorem flatF_one (x : FV) : flatF [x] = fcells x := by simp [flatF]
theorem flatF_get : ∀ (l : List FV) (j i : Nat) (x : FV), l[j]? = some x → i < 5 → (flatF l)[j * 5 + i]? = (fcells x)[i]?
  | [], _, _, _, h, _ => by simp at h
  | y :: r, 0, i, x, h, hi => by
    obtain rfl : y = x := by simpa using h
    simp only [flatF, List.flatMap_cons, Nat.zero_mul, Nat.zero_add]
    rw [List.getElem?_append_left (by simpa [fcells] using hi)]
  | y :: r, j + 1, i, x, h, hi => by
    have := flatF_get r j i x (by simpa using h) hi
    rw [← this]
    simp only [flatF, List.flatMap_cons]
    rw [List.getElem?_append_right (by simp [fcells]; omega)]
    congr 1
    simp [fcells]; omega
theorem flatF_set : ∀ (l : List FV) (b : Nat) (g : Frm) (kv kv' : Value) (ks : List Nat), l[b]? = some (g, kv) → flatF (l.set b ({ g with kids := ks }, kv')) = (flatF l).set (b * 5 + 3) kv'
  | [], _, _, _, _, _, h => by simp at h
  | y :: r, 0, g, kv, kv', ks, h => by
    obtain rfl : y = (g, kv) := by simpa using h
    simp [flatF, fcells]
  | y :: r, b + 1, g, kv, kv', ks, h => by
    have ih := flatF_set r b g kv kv' ks (by simpa using h)
    unfold flatF at ih ⊢
    simp only [List.set_cons_succ, List.flatMap_cons]
    rw [ih]
    rw [show (b + 1) * 5 + 3 = (fcells y).length + (b * 5 + 3) by simp [fcells]; omega]
    rw [List.set_append_right _ _ (by omega)]
    congr 2
    omega
def ints (l : List Nat) : List Value := l.map fun (n : Nat) => Value.int .i64 (n : Int)
theorem ints_length (l : List Nat) : (ints l).length = l.length := by simp [ints]
theorem ints_get {l : List Nat} {j x : Nat} (h : l[j]? = some x) : (ints l)[j]? = some (.int .i64 (x : Int)) := by simp [ints, h]
theorem ints_append (a b : List Nat) : ints (a ++ b) = ints a ++ ints b := by simp [ints]
def bx (B : Nat) : Value := .slice (some ⟨B, 0, none⟩) 1 1
def kidRow (x : FV) : Rw := ⟨x.2, 3, 1, x.1.kids.length, ints x.1.kids⟩
/-- The rows of a reader: its own cells, the forms, the uppermost ones, those that are open, the fault behind it, each form's kids. -/
def rrows (B : Nat) (fs : List FV) (top opn : List Nat) (fv tv ov : Value) : List Rw :=
  ⟨bx B, 57, 3, 1, [fv, tv, ov]⟩ :: ⟨fv, 40, 5, fs.length, flatF fs⟩ :: ⟨tv, 3, 1, top.length, ints top⟩ :: ⟨ov, 3, 1, opn.length, ints opn⟩ :: ⟨bx (B + 1), 59, 2, 1, [.int .i64 0, .int .i64 0]⟩ :: fs.map kidRow
def RD (w : World) (base B : Nat) (fs : List FV) (top opn : List Nat) (fv tv ov : Value) : Prop := RowsOk w base (rrows B fs top opn fv tv ov)
section
variable {w : World} {base B : Nat} {fs : List FV} {top opn : List Nat} {fv tv ov : Value}
theorem bx_cell {w : World} {base B e n : Nat} {xs : List Value} {j : Nat} {u : Value} (h : w.ownsRow base e 3 (bx B) n xs) (hj : xs[j]? = some u) : w.cell? ⟨B, j, none⟩ = some u := by
  have := World.ownsRow.cells h (g := B) rfl j u hj
  rwa [show (⟨B, 0, none⟩ : Addr).add j = ⟨B, 0 + j, none⟩ from Addr.add_lit .., Nat.zero_add] at this
theorem RD.c0 (h : RD w base B fs top opn fv tv ov) : w.cell? ⟨B, 0, none⟩ = some fv := bx_cell (RowsOk.at (i := 0) h rfl) rfl
theorem RD.c1 (h : RD w base B fs top opn fv tv ov) : w.cell? ⟨B, 1, none⟩ = some tv := bx_cell (RowsOk.at (i := 0) h rfl) rfl
theorem RD.c2 (h : RD w base B fs top opn fv tv ov) : w.cell? ⟨B, 2, none⟩ = some ov := bx_cell (RowsOk.at (i := 0) h rfl) rfl
theorem own_free {w : World} {base e size n g cap : Nat} {xs : List Value} (h : w.ownsRow base e size (.slice (some ⟨g, 0, none⟩) n cap) n xs) (j : Nat) : w.frozen? ⟨g, j, none⟩ = false := by
  rcases h.2 with ⟨h0, _⟩ | ⟨g', cap', cur, he, hb, hh, h1, h2, h3, h4⟩
  · cases h0
  · simp only [Value.slice.injEq, Option.some.injEq, Addr.mk.injEq, and_true, true_and] at he
    obtain ⟨rfl, rfl⟩ := he
    unfold World.frozen?
    simp [hh]
theorem RD.free (h : RD w base B fs top opn fv tv ov) (j : Nat) : w.frozen? ⟨B, j, none⟩ = false := own_free (RowsOk.at (i := 0) h rfl) j
theorem RD.lt (h : RD w base B fs top opn fv tv ov) : base ≤ B ∧ B < w.heap.size := (RowsOk.at (i := 0) h rfl).lt B rfl
theorem RD.fo (h : RD w base B fs top opn fv tv ov) : w.ownsRow base 40 5 fv fs.length (flatF fs) := RowsOk.at (i := 1) h rfl
theorem RD.to (h : RD w base B fs top opn fv tv ov) : w.ownsRow base 3 1 tv top.length (ints top) := RowsOk.at (i := 2) h rfl
theorem RD.oo (h : RD w base B fs top opn fv tv ov) : w.ownsRow base 3 1 ov opn.length (ints opn) := RowsOk.at (i := 3) h rfl
theorem RD.eo (h : RD w base B fs top opn fv tv ov) : w.ownsRow base 59 2 (bx (B + 1)) 1 [.int .i64 0, .int .i64 0] := RowsOk.at (i := 4) h rfl
theorem RD.kat {b : Nat} {x : FV} (hx : fs[b]? = some x) : (rrows B fs top opn fv tv ov)[b + 5]? = some (kidRow x) := by simp [rrows, hx]
theorem RD.ko (h : RD w base B fs top opn fv tv ov) {b : Nat} {x : FV} (hx : fs[b]? = some x) : w.ownsRow base 3 1 x.2 x.1.kids.length (ints x.1.kids) := RowsOk.at (i := b + 5) h (RD.kat hx)
theorem RD.drew (h : RD w base B fs top opn fv tv ov) : RD w.drew base B fs top opn fv tv ov := RowsOk.drew h
theorem RD.alloc (h : RD w base B fs top opn fv tv ov) (o : Obj) : RD (w.alloc o) base B fs top opn fv tv ov := RowsOk.alloc h o
/-- Is a block one of the reader's? -/
def RB (B : Nat) (fs : List FV) (top opn : List Nat) (fv tv ov : Value) (k : Nat) : Prop := ∃ r ∈ rrows B fs top opn fv tv ov, r.v.ownBlock = some k
theorem RD.block (h : RD w base B fs top opn fv tv ov) {k : Nat} (hk : RB B fs top opn fv tv ov k) : base ≤ k ∧ k < w.heap.size := by
  obtain ⟨r, hr, e⟩ := hk
  exact (RowsOk.own h r hr).lt k e
/-- All but some blocks are as they were. -/
structure Chg (R : Nat → Prop) (w w' : World) : Prop where
  os : w'.os = w.os
  tape : w'.tape = w.tape
  output : w'.output = w.output
  size : w.heap.size ≤ w'.heap.size
  block : ∀ k, k < w.heap.size → ¬ R k → w'.heap[k]? = w.heap[k]?
theorem Chg.refl (R : Nat → Prop) (w : World) : Chg R w w := ⟨rfl, rfl, rfl, Nat.le_refl _, fun _ _ _ => rfl⟩
theorem Chg.trans {R : Nat → Prop} {a b c : World} (h : Chg R a b) (k : Chg R b c) : Chg R a c :=
  ⟨k.os.trans h.os, k.tape.trans h.tape, k.output.trans h.output, Nat.le_trans h.size k.size, fun i hi hr => (k.block i (Nat.lt_of_lt_of_le hi h.size) hr).trans (h.block i hi hr)⟩
theorem Chg.grown {R : Nat → Prop} {a b c : World} (h : Chg R a b) {row : Option Nat} (hg : b.grownBy c row) (hr : ∀ k, row = some k → k < a.heap.size → R k) : Chg R a c :=
  ⟨hg.os.trans h.os, hg.tape.trans h.tape, hg.output.trans h.output, Nat.le_trans h.size hg.size, fun i hi hn => (hg.block i (Nat.lt_of_lt_of_le hi h.size) (fun e => hn (hr i e.symm hi))).trans (h.block i hi hn)⟩
theorem Chg.alloc {R : Nat → Prop} {a b : World} (h : Chg R a b) (o : Obj) : Chg R a (b.alloc o) := h.grown (World.grownBy_alloc b o none) (fun _ e => by cases e)
theorem Chg.drew {R : Nat → Prop} {a b : World} (h : Chg R a b) : Chg R a b.drew := ⟨h.os, h.tape, h.output, h.size, h.block⟩
theorem Chg.setc {R : Nat → Prop} {a b : World} (h : Chg R a b) {g j : Nat} {u : Value} (hr : g < a.heap.size → R g) : Chg R a (b.setCell ⟨g, j, none⟩ u) := h.grown (grown_set b g j u) (fun k e hk => by cases e; exact hr hk)
theorem Chg.below {R : Nat → Prop} {n : Nat} {a b : World} (h : Chg R a b) (hn : n ≤ a.heap.size) (hR : ∀ k, k < n → ¬ R k) : Below n a b :=
  ⟨h.os, h.tape, h.output, h.size, fun k hk => h.block k (Nat.lt_of_lt_of_le hk hn) (hR k hk)⟩
theorem Chg.cell {R : Nat → Prop} {a b : World} (h : Chg R a b) {p : Addr} {u : Value} (hc : a.cell? p = some u) (hr : ¬ R p.block) : b.cell? p = some u :=
  (World.cell?_of_block (w := a) (h.block p.block (World.block_lt_of_cell? a _ hc) hr)).trans hc
/-- Those that are open, put behind: a row with one more. -/
theorem RD.putO (h : RD w base B fs top opn fv tv ov) {w' : World} {ov' : Value} {opn' : List Nat} (hg : w.grownBy w' ov.ownBlock) (ho : w'.ownsRow base 3 1 ov' opn'.length (ints opn')) (hb : ov'.ownBlock = none ∨ ov'.ownBlock = ov.ownBlock ∨ ov'.ownBlock = some w.heap.size) :
    RD (w'.setCell ⟨B, 2, none⟩ ov') base B fs top opn' fv tv ov' := by
  have h1 := RowsOk.put (i := 3) (r' := ⟨ov', 3, 1, opn'.length, ints opn'⟩) h rfl hg ho hb
  exact RowsOk.setc (i := 0) (g := B) (cap := 1) (j := 2) (r := ⟨bx B, 57, 3, 1, [fv, tv, ov]⟩) h1 rfl rfl ov'
theorem RD.putT (h : RD w base B fs top opn fv tv ov) {w' : World} {tv' : Value} {top' : List Nat} (hg : w.grownBy w' tv.ownBlock) (ho : w'.ownsRow base 3 1 tv' top'.length (ints top')) (hb : tv'.ownBlock = tv.ownBlock ∨ tv'.ownBlock = some w.heap.size) :
    RD (w'.setCell ⟨B, 1, none⟩ tv') base B fs top' opn fv tv' ov := by
  have h1 := RowsOk.put (i := 2) (r' := ⟨tv', 3, 1, top'.length, ints top'⟩) h rfl hg ho (.inr hb)
  exact RowsOk.setc (i := 0) (g := B) (cap := 1) (j := 1) (r := ⟨bx B, 57, 3, 1, [fv, tv, ov]⟩) h1 rfl rfl tv'
theorem RD.putF (h : RD w base B fs top opn fv tv ov) {w' : World} {fv' : Value} {f : Frm} (hf : f.kids = []) (hg : w.grownBy w' fv.ownBlock) (ho : w'.ownsRow base 40 5 fv' (fs.length + 1) (flatF fs ++ fcells (f, .slice none 0 0))) (hb : fv'.ownBlock = fv.ownBlock ∨ fv'.ownBlock = some w.heap.size) :
    RD (w'.setCell ⟨B, 0, none⟩ fv') base B (fs ++ [(f, Value.slice none 0 0)]) top opn fv' tv ov := by
  have ho' : w'.ownsRow base 40 5 fv' (fs ++ [(f, Value.slice none 0 0)]).length (flatF (fs ++ [(f, Value.slice none 0 0)])) := by
    rw [flatF_append, flatF_one, List.length_append]; exact ho
  have h1 := RowsOk.put (i := 1) (r' := ⟨fv', 40, 5, (fs ++ [(f, Value.slice none 0 0)]).length, flatF (fs ++ [(f, Value.slice none 0 0)])⟩) h rfl hg ho' (.inr hb)
  have h2 := RowsOk.setc (i := 0) (g := B) (cap := 1) (j := 0) (r := ⟨bx B, 57, 3, 1, [fv, tv, ov]⟩) h1 rfl rfl fv'
  have h3 := RowsOk.push h2 3 1
  unfold RD
  have e : rrows B (fs ++ [(f, Value.slice none 0 0)]) top opn fv' tv ov = ((((rrows B fs top opn fv tv ov).set 1 ⟨fv', 40, 5, (fs ++ [(f, Value.slice none 0 0)]).length, flatF (fs ++ [(f, Value.slice none 0 0)])⟩).set 0 ⟨bx B, 57, 3, 1, [fv', tv, ov]⟩) ++ [⟨.slice none 0 0, 3, 1, 0, []⟩]) := by
    simp [rrows, kidRow, hf, ints]
  rw [e]
  exact h3
/-- A kid put behind a form's others. -/
theorem RD.putK (h : RD w base B fs top opn fv tv ov) {w' : World} {b g cap : Nat} {x : FV} {kv' : Value} {n : Nat} (hx : fs[b]? = some x) (hv : fv = .slice (some ⟨g, 0, none⟩) fs.length cap) (hg : w.grownBy w' x.2.ownBlock) (ho : w'.ownsRow base 3 1 kv' (x.1.kids.length + 1) (ints x.1.kids ++ [.int .i64 (n : Int)])) (hb : kv'.ownBlock = x.2.ownBlock ∨ kv'.ownBlock = some w.heap.size) :
    RD (w'.setCell ⟨g, b * 5 + 3, none⟩ kv') base B (fs.set b (addKid n x.1, kv')) top opn fv tv ov := by
  have ho' : Own w' base (kidRow (addKid n x.1, kv')) := by
    unfold Own kidRow addKid
    show w'.ownsRow base 3 1 kv' (x.1.kids ++ [n]).length (ints (x.1.kids ++ [n]))
    rw [ints_append, List.length_append]
    exact ho
  have h1 := RowsOk.put (i := b + 5) h (RD.kat hx) hg ho' (.inr hb)
  have hlt : b < fs.length := (List.getElem?_eq_some_iff.1 hx).1
  have h2 := RowsOk.setc (i := 1) (g := g) (cap := cap) (j := b * 5 + 3) (r := ⟨fv, 40, 5, fs.length, flatF fs⟩) h1 (by simp [rrows]) hv kv'
  unfold RD
  have e : rrows B (fs.set b (addKid n x.1, kv')) top opn fv tv ov = ((rrows B fs top opn fv tv ov).set (b + 5) (kidRow (addKid n x.1, kv'))).set 1 ⟨fv, 40, 5, fs.length, (flatF fs).set (b * 5 + 3) kv'⟩ := by
    have e1 := flatF_set fs b x.1 x.2 kv' (x.1.kids ++ [n]) hx
    have e2 : flatF (fs.set b (addKid n x.1, kv')) = (flatF fs).set (b * 5 + 3) kv' := e1
    simp only [rrows, e2, List.length_set, List.map_set, List.set_cons_succ, List.set_cons_zero]
  rw [e]
  exact h2
end
end Go.Proofs.YtnlplkchkhibaaaDoor
