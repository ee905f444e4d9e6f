/-
  Rows of one's own that lie apart: what becomes of all of them where one grows, is set, or is cut.
-/
import Derived.Test.YtmihhebcchpmcaaGreatDoorTreeM
namespace Go.Proofs.YtmihhebcchpmcaaGreatDoor
open Go.RowKit Go.Deep Go.MapKept
/-- A row: its value, its elements' type and size, how many it has, its cells. -/
structure Rw where
  v : Value
  e : Nat
  size : Nat
  n : Nat
  xs : List Value
def Ap (a b : Value) : Prop := a.ownBlock = none ∨ a.ownBlock ≠ b.ownBlock
theorem Ap.symm {a b : Value} (h : Ap a b) : Ap b a := by
  rcases h with h | h
  · cases hb : b.ownBlock with
    | none => exact .inl hb
    | some k => exact .inr (by rw [hb, h]; simp)
  · exact .inr (Ne.symm h)
def Own (w : World) (base : Nat) (r : Rw) : Prop := w.ownsRow base r.e r.size r.v r.n r.xs
structure RowsOk (w : World) (base : Nat) (l : List Rw) : Prop where
  own : ∀ r ∈ l, Own w base r
  apart : ∀ (i j : Nat) (a b : Rw), l[i]? = some a → l[j]? = some b → i ≠ j → Ap a.v b.v
theorem RowsOk.at {w : World} {base : Nat} {l : List Rw} (h : RowsOk w base l) {i : Nat} {r : Rw} (hr : l[i]? = some r) : w.ownsRow base r.e r.size r.v r.n r.xs := h.own r (List.mem_of_getElem? hr)
theorem RowsOk.far {w w' : World} {base : Nat} {l : List Rw} (h : RowsOk w base l) {row : Option Nat} (hg : w.grownBy w' row) (hne : ∀ r ∈ l, r.v.ownBlock = none ∨ r.v.ownBlock ≠ row) : RowsOk w' base l :=
  ⟨fun r hr => (h.own r hr).kept hg (hne r hr), h.apart⟩
theorem RowsOk.alloc {w : World} {base : Nat} {l : List Rw} (h : RowsOk w base l) (o : Obj) : RowsOk (w.alloc o) base l :=
  ⟨fun r hr => World.ownsRow.alloc (h.own r hr) o, h.apart⟩
theorem owns_drew {w : World} {base e size n : Nat} {v : Value} {xs : List Value} (h : w.ownsRow base e size v n xs) : w.drew.ownsRow base e size v n xs := h
theorem RowsOk.drew {w : World} {base : Nat} {l : List Rw} (h : RowsOk w base l) : RowsOk w.drew base l := ⟨fun r hr => owns_drew (h.own r hr), h.apart⟩
/-- One row that becomes another one; all others stay. -/
theorem RowsOk.put {w w' : World} {base : Nat} {l : List Rw} (h : RowsOk w base l) {i : Nat} {r r' : Rw} (hr : l[i]? = some r) (hg : w.grownBy w' r.v.ownBlock) (ho : Own w' base r') (hb : r'.v.ownBlock = none ∨ r'.v.ownBlock = r.v.ownBlock ∨ r'.v.ownBlock = some w.heap.size) : RowsOk w' base (l.set i r') := by
  have hap : ∀ j b, l[j]? = some b → i ≠ j → Ap r'.v b.v := by
    intro j b hj hij
    rcases hb with e | e | e
    · exact .inl e
    · have := h.apart i j r b hr hj hij
      unfold Ap at this ⊢
      rw [e]; exact this
    · refine .inr ?_
      rw [e]
      intro hk
      have := (h.at hj).lt _ hk.symm
      omega
  constructor
  · intro x hx
    obtain ⟨j, hj⟩ := List.getElem?_of_mem hx
    rw [List.getElem?_set] at hj
    by_cases hij : i = j
    · subst hij
      have hlt : i < l.length := (List.getElem?_eq_some_iff.1 hr).1
      simp only [if_true, hlt] at hj
      cases hj; exact ho
    · simp only [hij, if_false] at hj
      exact (h.at hj).kept hg ((h.apart i j r x hr hj hij).symm)
  · intro a b x y hx hy hab
    rw [List.getElem?_set] at hx hy
    have hlt : i < l.length := (List.getElem?_eq_some_iff.1 hr).1
    by_cases ha : i = a
    · subst ha
      have hb' : ¬ i = b := hab
      simp only [if_true, hlt, Option.some.injEq] at hx
      simp only [hb', if_false] at hy
      subst hx
      exact hap b y hy hab
    · simp only [ha, if_false] at hx
      by_cases hbb : i = b
      · subst hbb
        simp only [if_true, hlt, Option.some.injEq] at hy
        subst hy
        exact (hap a x hx ha).symm
      · simp only [hbb, if_false] at hy
        exact h.apart a b x y hx hy hab
/-- A row more, that is empty. -/
theorem RowsOk.push {w : World} {base : Nat} {l : List Rw} (h : RowsOk w base l) (e size : Nat) : RowsOk w base (l ++ [⟨.slice none 0 0, e, size, 0, []⟩]) := by
  constructor
  · intro r hr
    rcases List.mem_append.1 hr with hr | hr
    · exact h.own r hr
    · obtain rfl : r = _ := by simpa using hr
      exact World.ownsRow_nil _ _ _ _
  · intro i j a b ha hb hij
    have hn : Value.ownBlock (.slice none 0 0) = none := rfl
    by_cases hi : i < l.length
    · rw [List.getElem?_append_left hi] at ha
      by_cases hj : j < l.length
      · rw [List.getElem?_append_left hj] at hb; exact h.apart i j a b ha hb hij
      · rw [List.getElem?_append_right (by omega)] at hb
        obtain ⟨k, hk⟩ : ∃ k, j - l.length = k := ⟨_, rfl⟩
        rw [hk] at hb
        cases k with
        | zero => simp at hb; subst hb; exact Ap.symm (.inl hn)
        | succ k => simp at hb
    · rw [List.getElem?_append_right (by omega)] at ha
      obtain ⟨k, hk⟩ : ∃ k, i - l.length = k := ⟨_, rfl⟩
      rw [hk] at ha
      cases k with
      | zero => simp at ha; subst ha; exact .inl hn
      | succ k => simp at ha
theorem own_setG {w : World} {base e size n g cap j : Nat} {xs : List Value} (h : w.ownsRow base e size (.slice (some ⟨g, 0, none⟩) n cap) n xs) (u : Value) : (w.setCell ⟨g, j, none⟩ u).ownsRow base e size (.slice (some ⟨g, 0, none⟩) n cap) n (xs.set j u) := by
  refine ⟨by rw [List.length_set]; exact h.1, ?_⟩
  rcases h.2 with ⟨h0, _⟩ | ⟨g', cap', cur, he, hb, hh, h1, h2, h3, h4⟩
  · cases h0
  · simp only [Value.slice.injEq, Option.some.injEq, Addr.mk.injEq, and_true, true_and] at he
    obtain ⟨rfl, rfl⟩ := he
    refine .inr ⟨g, cap, cur.setIfInBounds j u, rfl, hb, heap_setCell_same _ _ _ _ _ _ hh, h1, h2, by simpa using h3, ?_⟩
    rw [Array.toList_setIfInBounds, List.take_set, h4]
theorem grown_set (w : World) (g j : Nat) (u : Value) : w.grownBy (w.setCell ⟨g, j, none⟩ u) (some g) := ⟨rfl, rfl, rfl, (Below.setCell (Below.refl 0 w) (Nat.zero_le _) u).size, fun k _ hne => Below.heap_setCell w ⟨g, j, none⟩ u k (fun e => hne (by rw [e]))⟩
theorem RowsOk.setc {w : World} {base : Nat} {l : List Rw} (h : RowsOk w base l) {i g cap j : Nat} {r : Rw} (hr : l[i]? = some r) (hv : r.v = .slice (some ⟨g, 0, none⟩) r.n cap) (u : Value) : RowsOk (w.setCell ⟨g, j, none⟩ u) base (l.set i { r with xs := r.xs.set j u }) := by
  have ho := h.at hr
  refine h.put hr (by rw [hv]; exact grown_set w g j u) ?_ (.inr (.inl rfl))
  unfold Own
  show (w.setCell ⟨g, j, none⟩ u).ownsRow base r.e r.size r.v r.n (r.xs.set j u)
  rw [hv] at ho ⊢
  exact own_setG ho u
theorem own_cut {w : World} {base e size n m : Nat} {a : Option Addr} {cap : Nat} {xs : List Value} (h : w.ownsRow base e size (.slice a n cap) n xs) (hm : m ≤ n) (ha : a ≠ none) : w.ownsRow base e size (.slice a m cap) m (xs.take (m * size)) := by
  have hmul : m * size ≤ n * size := Nat.mul_le_mul hm (Nat.le_refl _)
  refine ⟨by rw [List.length_take, h.1]; omega, ?_⟩
  rcases h.2 with ⟨h0, _⟩ | ⟨g', cap', cur, he, hb, hh, h1, h2, h3, h4⟩
  · cases h0; exact absurd rfl ha
  · cases he
    refine .inr ⟨g', cap, cur, rfl, hb, hh, by omega, h2, h3, ?_⟩
    rw [← h4, List.take_take]
    congr 1
    omega
end Go.Proofs.YtmihhebcchpmcaaGreatDoor
/-
  The program's reader of tokens, as it lies in memory.
-/
namespace Go.Proofs.YtmihhebcchpmcaaGreatDoor
open Go.RowKit Go.Deep Go.MapKept
/-- A form, and the value of its kids' row. -/
abbrev FV := Frm × Value
def fcells (x : FV) : List Value := [.int .u8 x.1.k, .string x.1.s, .int .i64 x.1.n, x.2, .int .i64 x.1.p]
def flatF (l : List FV) : List Value := l.flatMap fcells
theorem flatF_length : ∀ l : List FV, (flatF l).length = l.length * 5
  | [] => rfl
  | x :: r => by simp only [flatF, List.flatMap_cons, List.length_append, List.length_cons, fcells, List.length_nil]; have := flatF_length r; unfold flatF at this; omega
theorem flatF_append (a b : List FV) : flatF (a ++ b) = flatF a ++ flatF b := by simp [flatF]
theorem flatF_one (x : FV) : flatF [x] = fcells x := by simp [flatF]
theorem flatF_get : ∀ (l : List FV) (j i : Nat) (x : FV), l[j]? = some x → i < 5 → (flatF l)[j * 5 + i]? = (fcells x)[i]?
  | [], _, _, _, h, _ => by simp at h
  | y :: r, 0, i, x, h, hi => by
    obtain rfl : y = x := by simpa using h
    simp only [flatF, List.flatMap_cons, Nat.zero_mul, Nat.zero_add]
    rw [List.getElem?_append_left (by simpa [fcells] using hi)]
  | y :: r, j + 1, i, x, h, hi => by
    have := flatF_get r j i x (by simpa using h) hi
    rw [← this]
    simp only [flatF, List.flatMap_cons]
    rw [List.getElem?_append_right (by simp [fcells]; omega)]
    congr 1
    simp [fcells]; omega
theorem flatF_set : ∀ (l : List FV) (b : Nat) (g : Frm) (kv kv' : Value) (ks : List Nat), l[b]? = some (g, kv) → flatF (l.set b ({ g with kids := ks }, kv')) = (flatF l).set (b * 5 + 3) kv'
  | [], _, _, _, _, _, h => by simp at h
  | y :: r, 0, g, kv, kv', ks, h => by
    obtain rfl : y = (g, kv) := by simpa using h
    simp [flatF, fcells]
  | y :: r, b + 1, g, kv, kv', ks, h => by
    have ih := flatF_set r b g kv kv' ks (by simpa using h)
    unfold flatF at ih ⊢
    simp only [List.set_cons_succ, List.flatMap_cons]
    rw [ih]
    rw [show (b + 1) * 5 + 3 = (fcells y).length + (b * 5 + 3) by simp [fcells]; omega]
    rw [List.set_append_right _ _ (by omega)]
    congr 2
    omega
def ints (l : List Nat) : List Value := l.map fun (n : Nat) => Value.int .i64 (n : Int)
theorem ints_length (l : List Nat) : (ints l).length = l.length := by simp [ints]
theorem ints_get {l : List Nat} {j x : Nat} (h : l[j]? = some x) : (ints l)[j]? = some (.int .i64 (x : Int)) := by simp [ints, h]
theorem ints_append (a b : List Nat) : ints (a ++ b) = ints a ++ ints b := by simp [ints]
def bx (B : Nat) : Value := .slice (some ⟨B, 0, none⟩) 1 1
def kidRow (x : FV) : Rw := ⟨x.2, 3, 1, x.1.kids.length, ints x.1.kids⟩
section
variable {w : World} {base B : Nat} {fs : List FV} {top opn : List Nat} {fv tv ov : Value}
theorem bx_cell {w : World} {base B e n : Nat} {xs : List Value} {j : Nat} {u : Value} (h : w.ownsRow base e 3 (bx B) n xs) (hj : xs[j]? = some u) : w.cell? ⟨B, j, none⟩ = some u := by
  have := World.ownsRow.cells h (g := B) rfl j u hj
  rwa [show (⟨B, 0, none⟩ : Addr).add j = ⟨B, 0 + j, none⟩ from Addr.add_lit .., Nat.zero_add] at this
theorem own_free {w : World} {base e size n g cap : Nat} {xs : List Value} (h : w.ownsRow base e size (.slice (some ⟨g, 0, none⟩) n cap) n xs) (j : Nat) : w.frozen? ⟨g, j, none⟩ = false := by
  rcases h.2 with ⟨h0, _⟩ | ⟨g', cap', cur, he, hb, hh, h1, h2, h3, h4⟩
  · cases h0
  · simp only [Value.slice.injEq, Option.some.injEq, Addr.mk.injEq, and_true, true_and] at he
    obtain ⟨rfl, rfl⟩ := he
    unfold World.frozen?
    simp [hh]
/-- All but some blocks are as they were. -/
structure Chg (R : Nat → Prop) (w w' : World) : Prop where
  os : w'.os = w.os
  tape : w'.tape = w.tape
  output : w'.output = w.output
  size : w.heap.size ≤ w'.heap.size
  block : ∀ k, k < w.heap.size → ¬ R k → w'.heap[k]? = w.heap[k]?
theorem Chg.refl (R : Nat → Prop) (w : World) : Chg R w w := ⟨rfl, rfl, rfl, Nat.le_refl _, fun _ _ _ => rfl⟩
theorem Chg.trans {R : Nat → Prop} {a b c : World} (h : Chg R a b) (k : Chg R b c) : Chg R a c :=
  ⟨k.os.trans h.os, k.tape.trans h.tape, k.output.trans h.output, Nat.le_trans h.size k.size, fun i hi hr => (k.block i (Nat.lt_of_lt_of_le hi h.size) hr).trans (h.block i hi hr)⟩
theorem Chg.grown {R : Nat → Prop} {a b c : World} (h : Chg R a b) {row : Option Nat} (hg : b.grownBy c row) (hr : ∀ k, row = some k → k < a.heap.size → R k) : Chg R a c :=
  ⟨hg.os.trans h.os, hg.tape.trans h.tape, hg.output.trans h.output, Nat.le_trans h.size hg.size, fun i hi hn => (hg.block i (Nat.lt_of_lt_of_le hi h.size) (fun e => hn (hr i e.symm hi))).trans (h.block i hi hn)⟩
theorem Chg.alloc {R : Nat → Prop} {a b : World} (h : Chg R a b) (o : Obj) : Chg R a (b.alloc o) := h.grown (World.grownBy_alloc b o none) (fun _ e => by cases e)
theorem Chg.drew {R : Nat → Prop} {a b : World} (h : Chg R a b) : Chg R a b.drew := ⟨h.os, h.tape, h.output, h.size, h.block⟩
theorem Chg.setc {R : Nat → Prop} {a b : World} (h : Chg R a b) {g j : Nat} {u : Value} (hr : g < a.heap.size → R g) : Chg R a (b.setCell ⟨g, j, none⟩ u) := h.grown (grown_set b g j u) (fun k e hk => by cases e; exact hr hk)
theorem Chg.below {R : Nat → Prop} {n : Nat} {a b : World} (h : Chg R a b) (hn : n ≤ a.heap.size) (hR : ∀ k, k < n → ¬ R k) : Below n a b :=
  ⟨h.os, h.tape, h.output, h.size, fun k hk => h.block k (Nat.lt_of_lt_of_le hk hn) (hR k hk)⟩
theorem Chg.cell {R : Nat → Prop} {a b : World} (h : Chg R a b) {p : Addr} {u : Value} (hc : a.cell? p = some u) (hr : ¬ R p.block) : b.cell? p = some u :=
  (World.cell?_of_block (w := a) (h.block p.block (World.block_lt_of_cell? a _ hc) hr)).trans hc
end
end Go.Proofs.YtmihhebcchpmcaaGreatDoor
/-
  The innermost bracket that is open.
-/
namespace Go.Proofs.YtmihhebcchpmcaaGreatDoor
open Go.RowKit Go.Deep Go.MapKept
section
variable {w : World} {base B : Nat} {fs : List FV} {top opn : List Nat} {fv tv ov : Value}
theorem own_some {w : World} {base e size n : Nat} {v : Value} {xs : List Value} (h : w.ownsRow base e size v n xs) (hn : 0 < n) : ∃ g cap, v = .slice (some ⟨g, 0, none⟩) n cap ∧ base ≤ g ∧ g < w.heap.size := by
  have hl := h.lt
  rcases h.2 with ⟨_, h0⟩ | ⟨g, cap, cur, rfl, _⟩
  · omega
  · have := hl g rfl
    exact ⟨g, cap, rfl, this.1, this.2⟩
theorem own_cell {w : World} {base e size n g cap : Nat} {xs : List Value} (h : w.ownsRow base e size (.slice (some ⟨g, 0, none⟩) n cap) n xs) {j : Nat} {u : Value} (hj : xs[j]? = some u) : w.cell? ⟨g, j, none⟩ = some u := by
  have := World.ownsRow.cells h (g := g) rfl j u hj
  rwa [show (⟨g, 0, none⟩ : Addr).add j = ⟨g, 0 + j, none⟩ from Addr.add_lit .., Nat.zero_add] at this
end
end Go.Proofs.YtmihhebcchpmcaaGreatDoor
