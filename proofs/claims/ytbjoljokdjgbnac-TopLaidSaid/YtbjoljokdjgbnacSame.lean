/-
  Whether numbers, and edges, are the same: what SameInts and SameEdges come to where they are; arguments as the laws take them.
-/
import Derived.Test.YtbjoljokdjgbnacLive
import Derived.Deep.SlicePairs
import Derived.ProofKit
import Derived.OpenShut
namespace Go.Proofs.Ytbjoljokdjgbnac
open Go.RowKit Go.Deep Go.ChangeShapes Go.WideShapes Go.ChangeAt
theorem in64 {a : Int} (h : (Lit.int .i64 a).wf = true) : -9223372036854775808 ≤ a ∧ a ≤ 9223372036854775807 := by
  have e1 : IntKind.i64.min = -9223372036854775808 := rfl
  have e2 : IntKind.i64.max = 9223372036854775807 := rfl
  simp only [Lit.wf, e1, e2, Bool.and_eq_true, decide_eq_true_eq] at h
  exact h
set_option maxRecDepth 100000 in
theorem open_edges {H : Type} {enc : TypeId × Value → H} {W : World} {base : Nat} {v : Value} {d : DataW H} {p : List MemPlace} (hv : Value.okWide Try.prog W .any base 62 v)
    (h1 : DataW.Trod enc Try.prog W 0 (fun _ => true) true 62 v d p) : ∃ es : Edges, ArgE W v es ∧ ∀ x ∈ es, Wf x.1 ∧ Wf x.2 := by
  obtain ⟨ad, len, cap, rfl⟩ := okWide_slice Try.underlying62 hv
  obtain ⟨fuel, hf⟩ := h1
  rcases open_slice_pairs Try.underlying62 Try.underlying69 (by kernel_rfl) rfl rfl (by kernel_rfl) (by kernel_rfl) hf with ⟨hcs, _⟩ | ⟨x, l, c, m, n, V0, V1, D0, D1, P0, P1, hcs, _, hl, hm, hmm, _, hx⟩
  · simp [Value.cells] at hcs
    obtain ⟨rfl, rfl, rfl⟩ := hcs
    exact ⟨[], ⟨⟨none, 0, rfl, .inl rfl⟩, none, 0, 0, rfl, Nat.le_refl _, by omega⟩, by simp⟩
  · simp [Value.cells] at hcs
    obtain ⟨rfl, rfl, rfl⟩ := hcs
    have hmc : m = cap := by simpa using hmm
    subst hmc
    have hmx : m ≤ 9223372036854775807 := by unfold maxLen at hm; omega
    have each : ∀ i, i < m → ∃ y : Int × Int, W.cell? (x.add (i * 2)) = some (.int .i64 y.1) ∧ W.cell? (x.add (i * 2 + 1)) = some (.int .i64 y.2) ∧ Wf y.1 ∧ Wf y.2 := by
      intro i hi
      obtain ⟨a1, a2, a3, a4⟩ := hx i hi
      obtain ⟨p0, e0, _, w0⟩ := DataW.trod_int Try.underlying3 a3
      obtain ⟨q0, e1, _, w1⟩ := DataW.trod_int Try.underlying3 a4
      simp at e0 e1
      exact ⟨(p0, q0), by rw [a1, e0], by rw [a2, e1], w0, w1⟩
    obtain ⟨f, hf'⟩ := choose_lt each
    refine ⟨(List.range len).map f, ⟨⟨some x, m, by simp, ?_⟩, some x, len, m, rfl, hl, hmx⟩, fun y hy => ?_⟩
    · by_cases h0 : len = 0
      · left; rw [h0]; rfl
      right
      obtain ⟨b, off, spot⟩ := x
      have hc := (hf' 0 (by omega)).1
      have hspot : spot = none := by simpa [Addr.add] using World.cell?_spot hc
      subst hspot
      refine ⟨b, off, rfl, fun j y hy => ?_⟩
      have hj : j < len := by have := (List.getElem?_eq_some_iff.1 hy).1; simpa using this
      have hfj : y = f j := by rw [List.getElem?_map] at hy; simp [hj] at hy; exact hy.symm
      obtain ⟨b1, b2, _⟩ := hf' j (by omega)
      rw [Addr.add_lit] at b1 b2
      rw [hfj]
      exact ⟨b1, b2⟩
    · obtain ⟨j, hj, rfl⟩ := List.mem_map.1 hy
      obtain ⟨_, _, b3, b4⟩ := hf' j (by have := List.mem_range.1 hj; omega)
      exact ⟨b3, b4⟩
end Go.Proofs.Ytbjoljokdjgbnac
