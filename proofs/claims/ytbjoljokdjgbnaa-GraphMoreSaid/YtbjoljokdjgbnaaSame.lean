/-
  Whether numbers, and edges, are the same: what SameInts and SameEdges come to where they are; arguments as the laws take them.
-/
import Derived.Test.YtbjoljokdjgbnaaLive
import Derived.Deep.SlicePairs
import Derived.ProofKit
import Derived.OpenShut
namespace Go.Proofs.Ytbjoljokdjgbnaa
open Go.RowKit Go.Deep Go.ChangeShapes Go.WideShapes Go.ChangeAt
theorem same_walk (b off b' off' len cap cap' : Nat) (zs : List Int) (w : World) (h : len ≤ 1000000)
    (hc : ∀ j, j < len → w.cell? ⟨b, off + j, none⟩ = some (.int .i64 (zs.getD j 0)))
    (hc' : ∀ j, j < len → w.cell? ⟨b', off' + j, none⟩ = some (.int .i64 (zs.getD j 0))) :
    Calls Try.prog 16 #[.slice (some ⟨b, off, none⟩) len cap, .slice (some ⟨b', off', none⟩) len cap'] w fun e w' => e = .returned (.bool true) ∧ Below w.heap.size w w' := by
  have hb1 : 0 < len → b < w.heap.size := fun h0 => World.block_lt_of_cell? w _ (hc 0 h0)
  have hb2 : 0 < len → b' < w.heap.size := fun h0 => World.block_lt_of_cell? w _ (hc' 0 h0)
  have HC : Hid _ := hc
  have HC' : Hid _ := hc'
  clear hc hc'
  go_enter Try.func16, Try.ntmps16
  go_wp2
  go_loopg [5] len (fun g s5 wx => ∃ (i : Nat), i + g = len ∧ s5 = .int .i64 i ∧ Below w.heap.size w wx)
  case atStart => exact ⟨0, by omega, rfl, Below.refl _ _⟩
  case round =>
    obtain ⟨i, hig, rfl, hb⟩ := hrel
    cases gk with
    | zero =>
      have hil : i = len := by omega
      subst hil
      go_wp2
      go_ret
      exact ⟨rfl, hb⟩
    | succ g =>
      have hlt : i < len := by omega
      have hx : wr.cell? ⟨b, off + i, none⟩ = some (.int .i64 (zs.getD i 0)) := (hb.cell (p := ⟨b, off + i, none⟩) (hb1 (by omega))).trans (HC.out i hlt)
      have hy : wr.cell? ⟨b', off' + i, none⟩ = some (.int .i64 (zs.getD i 0)) := (hb.cell (p := ⟨b', off' + i, none⟩) (hb2 (by omega))).trans (HC'.out i hlt)
      go_wp2
      go_region
      go_wp2
      go_roundg g
      case measure => omega
      case rel => exact ⟨i + 1, by omega, by go_num, hb.drew⟩
theorem same_empty (a a' : Option Addr) (cap cap' : Nat) (w : World) :
    Calls Try.prog 16 #[.slice a 0 cap, .slice a' 0 cap'] w fun e w' => e = .returned (.bool true) ∧ Below w.heap.size w w' := by
  go_enter Try.func16, Try.ntmps16
  go_wp2
  refine wp_loop_rounds 1 ?_
  rw [rounds_succ]
  go_wp2
  go_ret
  exact ⟨rfl, Below.refl _ _⟩
theorem same_any (v u : Value) (zs : List Int) (w : World) (h : Sees w v zs) (h' : Sees w u zs) (hl : zs.length ≤ 1000000) :
    Calls Try.prog 16 #[v, u] w fun e w' => e = .returned (.bool true) ∧ Below w.heap.size w w' := by
  obtain ⟨a, cap, rfl, h⟩ := h
  obtain ⟨a', cap', rfl, h'⟩ := h'
  by_cases h0 : zs = []
  · subst h0
    exact same_empty a a' cap cap' w
  · rcases h with h1 | ⟨b, off, rfl, hc⟩
    · exact absurd h1 h0
    rcases h' with h1 | ⟨b', off', rfl, hc'⟩
    · exact absurd h1 h0
    exact same_walk b off b' off' zs.length cap cap' zs w hl hc hc'
theorem in64 {a : Int} (h : (Lit.int .i64 a).wf = true) : -9223372036854775808 ≤ a ∧ a ≤ 9223372036854775807 := by
  have e1 : IntKind.i64.min = -9223372036854775808 := rfl
  have e2 : IntKind.i64.max = 9223372036854775807 := rfl
  simp only [Lit.wf, e1, e2, Bool.and_eq_true, decide_eq_true_eq] at h
  exact h
theorem open_edges {H : Type} {enc : TypeId × Value → H} {W : World} {base : Nat} {v : Value} {d : DataW H} {p : List MemPlace} (hv : Value.okWide Try.prog W .any base 22 v)
    (h1 : DataW.Trod enc Try.prog W 0 (fun _ => true) true 22 v d p) : ∃ es : Edges, ArgE W v es ∧ ∀ x ∈ es, Wf x.1 ∧ Wf x.2 := by
  obtain ⟨ad, len, cap, rfl⟩ := okWide_slice Try.underlying22 hv
  obtain ⟨fuel, hf⟩ := h1
  rcases open_slice_pairs Try.underlying22 Try.underlying55 (by kernel_rfl) rfl rfl (by kernel_rfl) (by kernel_rfl) hf with ⟨hcs, _⟩ | ⟨x, l, c, m, n, V0, V1, D0, D1, P0, P1, hcs, _, hl, hm, hmm, _, hx⟩
  · simp [Value.cells] at hcs
    obtain ⟨rfl, rfl, rfl⟩ := hcs
    exact ⟨[], ⟨⟨none, 0, rfl, .inl rfl⟩, none, 0, 0, rfl, Nat.le_refl _, by omega⟩, by simp⟩
  · simp [Value.cells] at hcs
    obtain ⟨rfl, rfl, rfl⟩ := hcs
    have hmc : m = cap := by simpa using hmm
    subst hmc
    have hmx : m ≤ 9223372036854775807 := by unfold maxLen at hm; omega
    have each : ∀ i, i < m → ∃ y : Int × Int, W.cell? (x.add (i * 2)) = some (.int .i64 y.1) ∧ W.cell? (x.add (i * 2 + 1)) = some (.int .i64 y.2) ∧ Wf y.1 ∧ Wf y.2 := by
      intro i hi
      obtain ⟨a1, a2, a3, a4⟩ := hx i hi
      obtain ⟨p0, e0, _, w0⟩ := DataW.trod_int Try.underlying3 a3
      obtain ⟨q0, e1, _, w1⟩ := DataW.trod_int Try.underlying3 a4
      simp at e0 e1
      exact ⟨(p0, q0), by rw [a1, e0], by rw [a2, e1], w0, w1⟩
    obtain ⟨f, hf'⟩ := choose_lt each
    refine ⟨(List.range len).map f, ⟨⟨some x, m, by simp, ?_⟩, some x, len, m, rfl, hl, hmx⟩, fun y hy => ?_⟩
    · by_cases h0 : len = 0
      · left; rw [h0]; rfl
      right
      obtain ⟨b, off, spot⟩ := x
      have hc := (hf' 0 (by omega)).1
      have hspot : spot = none := by simpa [Addr.add] using World.cell?_spot hc
      subst hspot
      refine ⟨b, off, rfl, fun j y hy => ?_⟩
      have hj : j < len := by have := (List.getElem?_eq_some_iff.1 hy).1; simpa using this
      have hfj : y = f j := by rw [List.getElem?_map] at hy; simp [hj] at hy; exact hy.symm
      obtain ⟨b1, b2, _⟩ := hf' j (by omega)
      rw [Addr.add_lit] at b1 b2
      rw [hfj]
      exact ⟨b1, b2⟩
    · obtain ⟨j, hj, rfl⟩ := List.mem_map.1 hy
      obtain ⟨_, _, b3, b4⟩ := hf' j (by have := List.mem_range.1 hj; omega)
      exact ⟨b3, b4⟩
end Go.Proofs.Ytbjoljokdjgbnaa
