/-
  What the document's Parse comes to.
-/
import Derived.Test.YtmihhebcchpmcaaGreatDoorRPrs
namespace Go.Proofs.YtmihhebcchpmcaaGreatDoor
open Go.RowKit Go.Deep Go.MapKept
theorem cell_new (w : World) (cs : Array Value) (t : TypeId) (j : Nat) (c : Value) (h : cs.toList[j]? = some c) : (w.alloc (.cells cs t)).cell? ⟨w.heap.size, j, none⟩ = some c := by
  unfold World.cell?
  rw [World.alloc_heap_new]
  have : cs[j]? = some c := by rw [← Array.getElem?_toList]; exact h
  simpa using this
theorem below_drawn {B : Nat} {a w : World} (h : Below B a w) (n : Nat) : Below B a (w.drewN n) := ⟨h.os, h.tape, h.output, h.size, h.block⟩
theorem grown_two {W w4 : World} {o : Obj} (hg : (W.alloc o).grownBy w4 (some W.heap.size)) : W.grownBy w4 none :=
  ⟨hg.os, hg.tape, hg.output, by have := hg.size; simp at this; omega, fun k hk _ => (hg.block k (by simp; omega) (by simp; omega)).trans (Below.heap_alloc W o k hk)⟩
theorem ints_one (l : List Nat) : ∀ c ∈ ints l, c.oneCell' = true := by
  intro c hc
  simp only [ints, List.mem_map] at hc
  obtain ⟨n, _, rfl⟩ := hc
  rfl
theorem form_at {W : World} {b : Nat} (f : Frm) (h : b = W.heap.size) : SeesC (W.alloc (.cells #[.int .u8 f.k, .string f.s, .int .i64 f.n, .slice none 0 0, .int .i64 f.p] 56)) (.slice (some ⟨b, 0, none⟩) 1 1) 1 5 (fcells (f, .slice none 0 0)) := by subst h; exact form_seen f
theorem step_form {σ : St} {t : Tok} (hk : t.k = 1 ∨ t.k = 3 ∨ t.k = 4) (h1 : ¬ ((t.k = 1 ∧ σ.opn.length = 12) ∨ σ.forms.length = 400)) : step σ t = .ok (if t.k = 1 then { addF (formOf t) σ with opn := σ.opn ++ [σ.forms.length] } else addF (formOf t) σ) := by
  have h2 : ¬ t.k = 2 := by rcases hk with h | h | h <;> rw [h] <;> decide
  have hf : ¬ σ.forms.length = 400 := fun e => h1 (.inr e)
  unfold step
  rw [if_neg h2]
  by_cases hk1 : t.k = 1
  · rw [if_pos hk1, if_pos hk1, if_neg (fun e => h1 (.inl ⟨hk1, e⟩)), if_neg hf]
  · rw [if_neg hk1, if_neg hk1, if_pos (hk.resolve_left hk1), if_neg hf]
theorem grown_more {W W1 w2 : World} {o : Obj} {row : Option Nat} (h : W.grownBy W1 none) (hg : (W1.alloc o).grownBy w2 row) (hr : ∀ k, row = some k → W.heap.size ≤ k) : W.grownBy w2 none :=
  ⟨hg.os.trans h.os, hg.tape.trans h.tape, hg.output.trans h.output, by have := hg.size; have := h.size; simp at *; omega, fun k hk _ => (hg.block k (by have := h.size; simp; omega) (fun e => by have := hr k e.symm; omega)).trans ((Below.heap_alloc W1 o k (by have := h.size; omega)).trans (h.block k hk (by simp)))⟩
theorem steps_good : ∀ (l : List Tok) (σ σ' : St), Good σ → steps l σ = .ok σ' → Good σ'
  | [], σ, σ', h, e => by cases e; exact h
  | t :: r, σ, σ', h, e => by
    unfold steps at e
    cases hs : step σ t with
    | error q => rw [hs] at e; cases e
    | ok σ1 => rw [hs] at e; exact steps_good r σ1 σ' (step_good h hs) e
theorem steps_good_at {l : List Tok} {σ' : St} (e : steps l begin0 = .ok σ') : Good σ' := steps_good l _ _ good_begin e
theorem ints_take (l : List Nat) (m : Nat) : ints (l.take m) = (ints l).take m := by simp [ints, List.map_take]
end Go.Proofs.YtmihhebcchpmcaaGreatDoor
