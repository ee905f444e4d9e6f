/-
  The document's rows of forms, as its Parse lays them.
-/
import Derived.Test.YtmihhebcchpmcaaGreatDoorSizeW
namespace Go.Proofs.YtmihhebcchpmcaaGreatDoor
open Go.RowKit Go.Deep Go.MapKept
/-- One row that becomes a new one; all others stay. -/
theorem RowsOk.fresh {w w' : World} {base : Nat} {l : List Rw} (h : RowsOk w base l) {i : Nat} {r r' : Rw} (hr : l[i]? = some r) (hg : w.grownBy w' none) (ho : Own w' base r') (hb : ∀ k, r'.v.ownBlock = some k → w.heap.size ≤ k) : RowsOk w' base (l.set i r') := by
  have hlt : i < l.length := (List.getElem?_eq_some_iff.1 hr).1
  have hnone : ∀ v : Value, v.ownBlock = none ∨ v.ownBlock ≠ none := fun v => by cases v.ownBlock <;> simp
  have hap : ∀ j b, l[j]? = some b → i ≠ j → Ap r'.v b.v := by
    intro j b hj hij
    cases hv : r'.v.ownBlock with
    | none => exact .inl hv
    | some k =>
      refine .inr ?_
      rw [hv]
      intro hk
      have := (h.at hj).lt _ hk.symm
      have := hb k hv
      omega
  constructor
  · intro x hx
    obtain ⟨j, hj⟩ := List.getElem?_of_mem hx
    rw [List.getElem?_set] at hj
    by_cases hij : i = j
    · subst hij
      simp only [if_true, hlt] at hj
      cases hj; exact ho
    · simp only [hij, if_false] at hj
      exact (h.at hj).kept hg (hnone _)
  · intro a b x y hx hy hab
    rw [List.getElem?_set] at hx hy
    by_cases ha : i = a
    · subst ha
      have hb' : ¬ i = b := hab
      simp only [if_true, hlt, Option.some.injEq] at hx
      simp only [hb', if_false] at hy
      subst hx
      exact hap b y hy hab
    · simp only [ha, if_false] at hx
      by_cases hbb : i = b
      · subst hbb
        simp only [if_true, hlt, Option.some.injEq] at hy
        subst hy
        exact (hap a x hx ha).symm
      · simp only [hbb, if_false] at hy
        exact h.apart a b x y hx hy hab
def frows (fs : List FV) (top opn : List Nat) (fv tv ov : Value) : List Rw :=
  ⟨fv, 56, 5, fs.length, flatF fs⟩ :: ⟨tv, 3, 1, top.length, ints top⟩ :: ⟨ov, 3, 1, opn.length, ints opn⟩ :: fs.map kidRow
def RF (w : World) (base : Nat) (fs : List FV) (top opn : List Nat) (fv tv ov : Value) : Prop := RowsOk w base (frows fs top opn fv tv ov)
section
variable {w w' : World} {base : Nat} {fs : List FV} {top opn : List Nat} {fv tv ov : Value}
theorem RF.fo (h : RF w base fs top opn fv tv ov) : w.ownsRow base 56 5 fv fs.length (flatF fs) := RowsOk.at (i := 0) h rfl
theorem RF.to (h : RF w base fs top opn fv tv ov) : w.ownsRow base 3 1 tv top.length (ints top) := RowsOk.at (i := 1) h rfl
theorem RF.oo (h : RF w base fs top opn fv tv ov) : w.ownsRow base 3 1 ov opn.length (ints opn) := RowsOk.at (i := 2) h rfl
theorem RF.kat {b : Nat} {x : FV} (hx : fs[b]? = some x) : (frows fs top opn fv tv ov)[b + 3]? = some (kidRow x) := by simp [frows, hx]
theorem RF.ko (h : RF w base fs top opn fv tv ov) {b : Nat} {x : FV} (hx : fs[b]? = some x) : w.ownsRow base 3 1 x.2 x.1.kids.length (ints x.1.kids) := RowsOk.at (i := b + 3) h (RF.kat hx)
theorem RF.down (h : RF w base fs top opn fv tv ov) (hb : Below w.heap.size w w') : RF w' base fs top opn fv tv ov :=
  RowsOk.far (row := none) h ⟨hb.os, hb.tape, hb.output, hb.size, fun k hk _ => hb.block k hk⟩ (fun r _ => by cases r.v.ownBlock <;> simp)
theorem RF.drewN (h : RF w base fs top opn fv tv ov) (n : Nat) : RF (w.drewN n) base fs top opn fv tv ov := ⟨fun r hr => (h.own r hr : Own w base r), h.apart⟩
theorem RF.alloc (h : RF w base fs top opn fv tv ov) (o : Obj) : RF (w.alloc o) base fs top opn fv tv ov := RowsOk.alloc h o
/-- Another row of those that are open. -/
theorem RF.newO (h : RF w base fs top opn fv tv ov) {ov' : Value} {opn' : List Nat} (hg : w.grownBy w' none) (ho : w'.ownsRow base 3 1 ov' opn'.length (ints opn')) (hb : ∀ k, ov'.ownBlock = some k → w.heap.size ≤ k) : RF w' base fs top opn' fv tv ov' :=
  RowsOk.fresh (i := 2) (r' := ⟨ov', 3, 1, opn'.length, ints opn'⟩) h rfl hg ho hb
theorem RF.putT (h : RF w base fs top opn fv tv ov) {tv' : Value} {top' : List Nat} (hg : w.grownBy w' tv.ownBlock) (ho : w'.ownsRow base 3 1 tv' top'.length (ints top')) (hb : tv'.ownBlock = tv.ownBlock ∨ tv'.ownBlock = some w.heap.size) : RF w' base fs top' opn fv tv' ov :=
  RowsOk.put (i := 1) (r' := ⟨tv', 3, 1, top'.length, ints top'⟩) h rfl hg ho (.inr hb)
theorem RF.putF (h : RF w base fs top opn fv tv ov) {fv' : Value} {f : Frm} (hf : f.kids = []) (hg : w.grownBy w' fv.ownBlock) (ho : w'.ownsRow base 56 5 fv' (fs.length + 1) (flatF fs ++ fcells (f, .slice none 0 0))) (hb : fv'.ownBlock = fv.ownBlock ∨ fv'.ownBlock = some w.heap.size) :
    RF w' base (fs ++ [(f, .slice none 0 0)]) top opn fv' tv ov := by
  have ho' : w'.ownsRow base 56 5 fv' (fs ++ [(f, Value.slice none 0 0)]).length (flatF (fs ++ [(f, Value.slice none 0 0)])) := by
    rw [flatF_append, flatF_one, List.length_append]; exact ho
  have h1 := RowsOk.put (i := 0) (r' := ⟨fv', 56, 5, (fs ++ [(f, Value.slice none 0 0)]).length, flatF (fs ++ [(f, Value.slice none 0 0)])⟩) h rfl hg ho' (.inr hb)
  have h3 := RowsOk.push h1 3 1
  unfold RF
  have e : frows (fs ++ [(f, Value.slice none 0 0)]) top opn fv' tv ov = (((frows fs top opn fv tv ov).set 0 ⟨fv', 56, 5, (fs ++ [(f, Value.slice none 0 0)]).length, flatF (fs ++ [(f, Value.slice none 0 0)])⟩) ++ [⟨.slice none 0 0, 3, 1, 0, []⟩]) := by
    simp [frows, kidRow, hf, ints]
  rw [e]
  exact h3
theorem RF.newK (h : RF w base fs top opn fv tv ov) {b g cap : Nat} {x : FV} {kv' : Value} {n : Nat} (hx : fs[b]? = some x) (hv : fv = .slice (some ⟨g, 0, none⟩) fs.length cap) (hg : w.grownBy w' none) (ho : w'.ownsRow base 3 1 kv' (x.1.kids.length + 1) (ints x.1.kids ++ [.int .i64 (n : Int)])) (hb : ∀ k, kv'.ownBlock = some k → w.heap.size ≤ k) :
    RF (w'.setCell ⟨g, b * 5 + 3, none⟩ kv') base (fs.set b (addKid n x.1, kv')) top opn fv tv ov := by
  have ho' : Own w' base (kidRow (addKid n x.1, kv')) := by
    unfold Own kidRow addKid
    show w'.ownsRow base 3 1 kv' (x.1.kids ++ [n]).length (ints (x.1.kids ++ [n]))
    rw [ints_append, List.length_append]
    exact ho
  have h1 := RowsOk.fresh (i := b + 3) h (RF.kat hx) hg ho' hb
  have h2 := RowsOk.setc (i := 0) (g := g) (cap := cap) (j := b * 5 + 3) (r := ⟨fv, 56, 5, fs.length, flatF fs⟩) h1 (by simp [frows]) hv kv'
  unfold RF
  have e : frows (fs.set b (addKid n x.1, kv')) top opn fv tv ov = ((frows fs top opn fv tv ov).set (b + 3) (kidRow (addKid n x.1, kv'))).set 0 ⟨fv, 56, 5, fs.length, (flatF fs).set (b * 5 + 3) kv'⟩ := by
    have e2 : flatF (fs.set b (addKid n x.1, kv')) = (flatF fs).set (b * 5 + 3) kv' := flatF_set fs b x.1 x.2 kv' (x.1.kids ++ [n]) hx
    simp only [frows, e2, List.length_set, List.map_set, List.set_cons_succ, List.set_cons_zero]
  rw [e]
  exact h2
theorem RF.sees (h : RF w base fs top opn fv tv ov) : SeesF w fv (fs.map Prod.fst) := ⟨fs, rfl, seesC_of_owns h.fo, fun _ _ hx => ⟨seesC_of_owns (h.ko hx), roomy_of (h.ko hx)⟩⟩
theorem rf_begin (w : World) (base : Nat) : RF w base [] [] [] (.slice none 0 0) (.slice none 0 0) (.slice none 0 0) := by
  have h0 : Value.ownBlock (.slice none 0 0) = none := rfl
  constructor
  · intro r hr
    simp only [frows, List.map_nil, List.mem_cons, List.mem_nil_iff, or_false] at hr
    rcases hr with rfl | rfl | rfl <;> exact World.ownsRow_nil _ _ _ _
  · intro i j x y hx hy hij
    have hi : i < 3 := (List.getElem?_eq_some_iff.1 hx).1
    have hii : i = 0 ∨ i = 1 ∨ i = 2 := by omega
    rcases hii with rfl | rfl | rfl <;> simp only [frows, List.getElem?_cons_zero, List.getElem?_cons_succ, Option.some.injEq] at hx <;> subst hx <;> exact .inl h0
theorem empty_row (w : World) (base : Nat) (hb : base ≤ w.heap.size) : (w.alloc (.cells #[] 3)).ownsRow base 3 1 (.slice (some ⟨w.heap.size, 0, none⟩) 0 0) 0 [] :=
  ⟨rfl, .inr ⟨w.heap.size, 0, #[], rfl, hb, World.alloc_heap_new w _, Nat.le_refl _, by decide, rfl, rfl⟩⟩
end
/-- How far the document has read. -/
def RJ (ts : List Tok) (w : World) (j : Nat) (fv tv ov : Value) (wy : World) : Prop :=
  ∃ fs top opn, steps (ts.take j) begin0 = .ok ⟨fs.map Prod.fst, top, opn⟩ ∧ Good ⟨fs.map Prod.fst, top, opn⟩ ∧ RF wy w.heap.size fs top opn fv tv ov ∧ Below w.heap.size w wy
end Go.Proofs.YtmihhebcchpmcaaGreatDoor
