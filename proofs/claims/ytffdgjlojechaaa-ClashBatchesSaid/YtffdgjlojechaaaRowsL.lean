/-
  Rows of acts: a row more, an act more; what rows become.
-/
import Derived.Test.YtffdgjlojechaaaReg12
namespace Go.Proofs.Ytffdgjlojechaaa
open Go.RowKit Go.Deep Go.MapKept
theorem own_ne {w : World} {base e e' size size' n n' : Nat} {v u : Value} {xs ys : List Value} (h : w.ownsRow base e size v n xs) (k : w.ownsRow base e' size' u n' ys) (he : e ≠ e') {g : Nat} (hv : v.ownBlock = some g) : u.ownBlock ≠ some g := by
  intro hu
  rcases h.2 with ⟨rfl, _⟩ | ⟨g1, _, _, rfl, _, hh, _⟩
  · cases hv
  rcases k.2 with ⟨rfl, _⟩ | ⟨g2, _, _, rfl, _, hk, _⟩
  · cases hu
  simp only [Value.ownBlock, Option.some.injEq] at hv hu
  subst hv hu
  rw [hh] at hk
  simp at hk
  exact he hk.2
theorem own_grown {w w' : World} {base e size n : Nat} {v : Value} {xs : List Value} {row : Option Nat} (h : w.ownsRow base e size v n xs) (hg : w.grownBy w' row) (hne : ∀ k, v.ownBlock = some k → row ≠ some k) : w'.ownsRow base e size v n xs := by
  refine ⟨h.1, ?_⟩
  rcases h.2 with h0 | ⟨g, cap, cur, rfl, hb, hh, r⟩
  · exact .inl h0
  · exact .inr ⟨g, cap, cur, rfl, hb, (hg.block g (Array.getElem?_eq_some_iff.1 hh).1 (fun e => hne g rfl e.symm)).trans hh, r⟩
theorem own_map {w : World} {base e size n : Nat} {v : Value} {xs : List Value} {mb : Nat} {f : Fn} (h : w.ownsRow base e size v n xs) (hm : MapD w mb f) : v.ownBlock ≠ some mb := by
  intro hv
  rcases h.2 with ⟨rfl, _⟩ | ⟨g1, _, _, rfl, _, hh, _⟩
  · cases hv
  obtain ⟨es, clock, hb, _⟩ := hm
  simp only [Value.ownBlock, Option.some.injEq] at hv
  subst hv
  rw [hh] at hb
  cases hb
theorem MapD.grown {w w' : World} {mb : Nat} {f : Fn} {row : Option Nat} (h : MapD w mb f) (hg : w.grownBy w' row) (hne : row ≠ some mb) : MapD w' mb f := h.same (hg.block mb h.lt (fun e => hne e.symm))
theorem RowsAt.push {w w' : World} {base : Nat} {v v' : Value} {rows : List (List Deed)} {vs : List Value} (h : RowsAt w base v rows vs) (ho : w'.ownsRow base 22 1 v' (rows.length + 1) (vs ++ [.slice none 0 0])) (hg : w.grownBy w' v.ownBlock) : RowsAt w' base v' (rows ++ [[]]) (vs ++ [.slice none 0 0]) := by
  have hl := h.len
  refine ⟨by simpa using ho, fun j r u hr hu => ?_, fun i j a b g hi hj ha hb => ?_⟩
  · by_cases hj : j < rows.length
    · rw [List.getElem?_append_left hj] at hr
      rw [List.getElem?_append_left (by omega)] at hu
      have hk := h.each j r u hr hu
      exact own_grown hk hg fun k hk2 e => own_ne h.own hk (by decide) e hk2
    · have hjl := (List.getElem?_eq_some_iff.1 hr).1
      simp only [List.length_append, List.length_cons, List.length_nil] at hjl
      have hje : j = rows.length := by omega
      rw [hje, List.getElem?_append_right (Nat.le_refl _)] at hr
      rw [hje, ← hl, List.getElem?_append_right (Nat.le_refl _)] at hu
      simp at hr hu
      subst hr hu
      exact World.ownsRow_nil w' base 39 6
  · have key : ∀ (i : Nat) (a : Value) (g : Nat), (vs ++ [.slice none 0 0])[i]? = some a → a.ownBlock = some g → vs[i]? = some a := by
      intro i a g hi ha
      by_cases hlt : i < vs.length
      · rwa [List.getElem?_append_left hlt] at hi
      · have hil := (List.getElem?_eq_some_iff.1 hi).1
        simp only [List.length_append, List.length_cons, List.length_nil] at hil
        have : i = vs.length := by omega
        rw [this, List.getElem?_append_right (Nat.le_refl _)] at hi
        simp at hi
        subst hi
        cases ha
    exact h.apart i j a b g (key i a g hi ha) (key j b g hj hb) ha hb
/-- An act more in the last row: from V on, a block of the act, its row grown, the row's place set. -/
theorem RowsAt.add {V VA W5 : World} {base g last cap : Nat} {rows : List (List Deed)} {vs : List Value} {u u' : Value} {r : List Deed} {x : Deed}
    (h : RowsAt V base (.slice (some ⟨g, 0, none⟩) (last + 1) cap) rows vs) (hlen : rows.length = last + 1) (hr : rows[last]? = some r) (hu : vs[last]? = some u)
    (hA : Below V.heap.size V VA) (hg : VA.grownBy W5 u.ownBlock) (ho : W5.ownsRow base 39 6 u' (r.length + 1) (flatA (r ++ [x]))) (hat : u'.ownBlock = u.ownBlock ∨ u'.ownBlock = some (V.heap.size + 1)) :
    RowsAt (W5.setCell ⟨g, last, none⟩ u') base (.slice (some ⟨g, 0, none⟩) (last + 1) cap) (rows.set last (r ++ [x])) (vs.set last u') := by
  have hl := h.len
  have hown := h.own
  rw [hlen] at hown
  have hk := h.each last r u hr hu
  have hgl := hown.lt g rfl
  have hne : u.ownBlock ≠ some g := own_ne hown hk (by decide) rfl
  have hne' : u'.ownBlock ≠ some g := by
    rcases hat with e | e <;> rw [e]
    · exact hne
    · intro e2; have := hgl.2; simp only [Option.some.injEq] at e2; omega
  refine ⟨?_, fun j r2 u2 hr2 hu2 => ?_, fun i j a b k hi hj ha hb => ?_⟩
  · rw [List.length_set, hlen]
    exact own_set (own_grown (own_below hown hA (Nat.le_refl _)) hg fun k hk2 e => hne (by cases hk2; exact e)) u'
  · rw [List.getElem?_set] at hr2 hu2
    by_cases hj : last = j
    · subst hj
      rw [if_pos rfl, if_pos (by omega)] at hr2 hu2
      obtain rfl := Option.some.inj hr2
      obtain rfl := Option.some.inj hu2
      have := ownsRow_setCell_other ho (a := ⟨g, last, none⟩) hne' u'
      rw [List.length_append]
      exact this
    · rw [if_neg hj] at hr2 hu2
      have hk2 := h.each j r2 u2 hr2 hu2
      refine ownsRow_setCell_other (own_grown (own_below hk2 hA (Nat.le_refl _)) hg fun k e1 e2 => ?_) (a := ⟨g, last, none⟩) (own_ne hown hk2 (by decide) rfl) u'
      exact hj (h.apart last j u u2 k hu hu2 e2 e1)
  · rw [List.getElem?_set] at hi hj
    have old : ∀ (j : Nat) (b : Value), vs[j]? = some b → j ≠ last → b.ownBlock = some k → u'.ownBlock = some k → False := by
      intro j b hj hjl hb hu'
      obtain ⟨r3, hr3⟩ : ∃ r3, rows[j]? = some r3 := ⟨_, List.getElem?_eq_getElem (by have := (List.getElem?_eq_some_iff.1 hj).1; omega)⟩
      have hlt := ((h.each j r3 b hr3 hj).lt k hb).2
      rcases hat with e | e
      · exact hjl (h.apart j last b u k hj hu hb (by rw [← e]; exact hu'))
      · rw [hu'] at e; simp only [Option.some.injEq] at e; omega
    by_cases h1 : last = i <;> by_cases h2 : last = j
    · omega
    · exfalso
      subst h1
      rw [if_pos rfl, if_pos (by omega)] at hi
      rw [if_neg h2] at hj
      obtain rfl := Option.some.inj hi
      exact old j b hj (fun e => h2 e.symm) hb ha
    · exfalso
      subst h2
      rw [if_pos rfl, if_pos (by omega)] at hj
      rw [if_neg h1] at hi
      obtain rfl := Option.some.inj hj
      exact old i a hi (fun e => h1 e.symm) ha hb
    · rw [if_neg h1] at hi
      rw [if_neg h2] at hj
      exact h.apart i j a b k hi hj ha hb
/-- Whether an act begins a row. -/
def newRow (rows : List (List Deed)) (f : Fn) (x : Deed) : Bool := decide (rows.length = 0) || decide ((rows.getD (rows.length - 1) []).length = 6) || hits f x
def addTo (rows : List (List Deed)) (x : Deed) : List (List Deed) := rows.set (rows.length - 1) (rows.getD (rows.length - 1) [] ++ [x])
def none' : Fn := fun _ => none
def batch : List (List Deed) → Fn → List Deed → List (List Deed)
  | rows, _, [] => rows
  | rows, f, x :: r => if newRow rows f x then batch (addTo (rows ++ [[]]) x) (upd none' x.s x.does) r else batch (addTo rows x) (upd f x.s x.does) r
end Go.Proofs.Ytffdgjlojechaaa
