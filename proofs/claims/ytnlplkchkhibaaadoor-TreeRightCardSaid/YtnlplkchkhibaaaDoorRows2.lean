/-
  Rows of one's own that lie apart: what becomes of all of them where one grows, is set, or is cut.
-/
import Derived.Test.YtnlplkchkhibaaaDoorTreeM
namespace Go.Proofs.YtnlplkchkhibaaaDoor
open Go.RowKit Go.Deep Go.MapKept
/-- A row: its value, its elements' type and size, how many it has, its cells. -/
structure Rw where
  v : Value
  e : Nat
  size : Nat
  n : Nat
  xs : List Value
def Ap (a b : Value) : Prop := a.ownBlock = none ∨ a.ownBlock ≠ b.ownBlock
theorem Ap.symm {a b : Value} (h : Ap a b) : Ap b a := by
  rcases h with h | h
  · cases hb : b.ownBlock with
    | none => exact .inl hb
    | some k => exact .inr (by rw [hb, h]; simp)
  · exact .inr (Ne.symm h)
def Own (w : World) (base : Nat) (r : Rw) : Prop := w.ownsRow base r.e r.size r.v r.n r.xs
structure RowsOk (w : World) (base : Nat) (l : List Rw) : Prop where
  own : ∀ r ∈ l, Own w base r
  apart : ∀ (i j : Nat) (a b : Rw), l[i]? = some a → l[j]? = some b → i ≠ j → Ap a.v b.v
theorem RowsOk.at {w : World} {base : Nat} {l : List Rw} (h : RowsOk w base l) {i : Nat} {r : Rw} (hr : l[i]? = some r) : w.ownsRow base r.e r.size r.v r.n r.xs := h.own r (List.mem_of_getElem? hr)
theorem RowsOk.far {w w' : World} {base : Nat} {l : List Rw} (h : RowsOk w base l) {row : Option Nat} (hg : w.grownBy w' row) (hne : ∀ r ∈ l, r.v.ownBlock = none ∨ r.v.ownBlock ≠ row) : RowsOk w' base l :=
  ⟨fun r hr => (h.own r hr).kept hg (hne r hr), h.apart⟩
theorem RowsOk.alloc {w : World} {base : Nat} {l : List Rw} (h : RowsOk w base l) (o : Obj) : RowsOk (w.alloc o) base l :=
  ⟨fun r hr => World.ownsRow.alloc (h.own r hr) o, h.apart⟩
theorem owns_drew {w : World} {base e size n : Nat} {v : Value} {xs : List Value} (h : w.ownsRow base e size v n xs) : w.drew.ownsRow base e size v n xs := h
theorem RowsOk.drew {w : World} {base : Nat} {l : List Rw} (h : RowsOk w base l) : RowsOk w.drew base l := ⟨fun r hr => owns_drew (h.own r hr), h.apart⟩
/-- One row that becomes another one; all others stay. -/
theorem RowsOk.put {w w' : World} {base : Nat} {l : List Rw} (h : RowsOk w base l) {i : Nat} {r r' : Rw} (hr : l[i]? = some r) (hg : w.grownBy w' r.v.ownBlock) (ho : Own w' base r') (hb : r'.v.ownBlock = none ∨ r'.v.ownBlock = r.v.ownBlock ∨ r'.v.ownBlock = some w.heap.size) : RowsOk w' base (l.set i r') := by
  have hap : ∀ j b, l[j]? = some b → i ≠ j → Ap r'.v b.v := by
    intro j b hj hij
    rcases hb with e | e | e
    · exact .inl e
    · have := h.apart i j r b hr hj hij
      unfold Ap at this ⊢
      rw [e]; exact this
    · refine .inr ?_
      rw [e]
      intro hk
      have := (h.at hj).lt _ hk.symm
      omega
  constructor
  · intro x hx
    obtain ⟨j, hj⟩ := List.getElem?_of_mem hx
    rw [List.getElem?_set] at hj
    by_cases hij : i = j
    · subst hij
      have hlt : i < l.length := (List.getElem?_eq_some_iff.1 hr).1
      simp only [if_true, hlt] at hj
      cases hj; exact ho
    · simp only [hij, if_false] at hj
      exact (h.at hj).kept hg ((h.apart i j r x hr hj hij).symm)
  · intro a b x y hx hy hab
    rw [List.getElem?_set] at hx hy
    have hlt : i < l.length := (List.getElem?_eq_some_iff.1 hr).1
    by_cases ha : i = a
    · subst ha
      have hb' : ¬ i = b := hab
      simp only [if_true, hlt, Option.some.injEq] at hx
      simp only [hb', if_false] at hy
      subst hx
      exact hap b y hy hab
    · simp only [ha, if_false] at hx
      by_cases hbb : i = b
      · subst hbb
        simp only [if_true, hlt, Option.some.injEq] at hy
        subst hy
        exact (hap a x hx ha).symm
      · simp only [hbb, if_false] at hy
        exact h.apart a b x y hx hy hab
/-- A row more, that is empty. -/
theorem RowsOk.push {w : World} {base : Nat} {l : List Rw} (h : RowsOk w base l) (e size : Nat) : RowsOk w base (l ++ [⟨.slice none 0 0, e, size, 0, []⟩]) := by
  constructor
  · intro r hr
    rcases List.mem_append.1 hr with hr | hr
    · exact h.own r hr
    · obtain rfl : r = _ := by simpa using hr
      exact World.ownsRow_nil _ _ _ _
  · intro i j a b ha hb hij
    have hn : Value.ownBlock (.slice none 0 0) = none := rfl
    by_cases hi : i < l.length
    · rw [List.getElem?_append_left hi] at ha
      by_cases hj : j < l.length
      · rw [List.getElem?_append_left hj] at hb; exact h.apart i j a b ha hb hij
      · rw [List.getElem?_append_right (by omega)] at hb
        obtain ⟨k, hk⟩ : ∃ k, j - l.length = k := ⟨_, rfl⟩
        rw [hk] at hb
        cases k with
        | zero => simp at hb; subst hb; exact Ap.symm (.inl hn)
        | succ k => simp at hb
    · rw [List.getElem?_append_right (by omega)] at ha
      obtain ⟨k, hk⟩ : ∃ k, i - l.length = k := ⟨_, rfl⟩
      rw [hk] at ha
      cases k with
      | zero => simp at ha; subst ha; exact .inl hn
      | succ k => simp at ha
theorem own_setG {w : World} {base e size n g cap j : Nat} {xs : List Value} (h : w.ownsRow base e size (.slice (some ⟨g, 0, none⟩) n cap) n xs) (u : Value) : (w.setCell ⟨g, j, none⟩ u).ownsRow base e size (.slice (some ⟨g, 0, none⟩) n cap) n (xs.set j u) := by
  refine ⟨by rw [List.length_set]; exact h.1, ?_⟩
  rcases h.2 with ⟨h0, _⟩ | ⟨g', cap', cur, he, hb, hh, h1, h2, h3, h4⟩
  · cases h0
  · simp only [Value.slice.injEq, Option.some.injEq, Addr.mk.injEq, and_true, true_and] at he
    obtain ⟨rfl, rfl⟩ := he
    refine .inr ⟨g, cap, cur.setIfInBounds j u, rfl, hb, heap_setCell_same _ _ _ _ _ _ hh, h1, h2, by simpa using h3, ?_⟩
    rw [Array.toList_setIfInBounds, List.take_set, h4]
theorem grown_set (w : World) (g j : Nat) (u : Value) : w.grownBy (w.setCell ⟨g, j, none⟩ u) (some g) := ⟨rfl, rfl, rfl, (Below.setCell (Below.refl 0 w) (Nat.zero_le _) u).size, fun k _ hne => Below.heap_setCell w ⟨g, j, none⟩ u k (fun e => hne (by rw [e]))⟩
theorem RowsOk.setc {w : World} {base : Nat} {l : List Rw} (h : RowsOk w base l) {i g cap j : Nat} {r : Rw} (hr : l[i]? = some r) (hv : r.v = .slice (some ⟨g, 0, none⟩) r.n cap) (u : Value) : RowsOk (w.setCell ⟨g, j, none⟩ u) base (l.set i { r with xs := r.xs.set j u }) := by
  have ho := h.at hr
  refine h.put hr (by rw [hv]; exact grown_set w g j u) ?_ (.inr (.inl rfl))
  unfold Own
  show (w.setCell ⟨g, j, none⟩ u).ownsRow base r.e r.size r.v r.n (r.xs.set j u)
  rw [hv] at ho ⊢
  exact own_setG ho u
theorem own_cut {w : World} {base e size n m : Nat} {a : Option Addr} {cap : Nat} {xs : List Value} (h : w.ownsRow base e size (.slice a n cap) n xs) (hm : m ≤ n) (ha : a ≠ none) : w.ownsRow base e size (.slice a m cap) m (xs.take (m * size)) := by
  have hmul : m * size ≤ n * size := Nat.mul_le_mul hm (Nat.le_refl _)
  refine ⟨by rw [List.length_take, h.1]; omega, ?_⟩
  rcases h.2 with ⟨h0, _⟩ | ⟨g', cap', cur, he, hb, hh, h1, h2, h3, h4⟩
  · cases h0; exact absurd rfl ha
  · cases he
    refine .inr ⟨g', cap, cur, rfl, hb, hh, by omega, h2, h3, ?_⟩
    rw [← h4, List.take_take]
    congr 1
    omega
end Go.Proofs.YtnlplkchkhibaaaDoor
