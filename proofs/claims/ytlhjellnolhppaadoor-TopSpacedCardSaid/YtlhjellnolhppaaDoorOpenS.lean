/-
  Texts in a row, as a law takes them.
-/
import Derived.Test.YtlhjellnolhppaaDoorTop
import Derived.ProofKit
import Derived.OpenShut
import Derived.SizedLaws
import Derived.Deep.SlicePairs
namespace Go.Proofs.YtlhjellnolhppaaDoor
open Go.ChangeShapes Go.WideShapes Go.ChangeAt Go.RowKit Go.Deep
theorem weights_all {H : Type} {P : Program} {e : TypeId} : ∀ {ds : List (DataW H)} {d : DataW H}, d ∈ ds → ∀ n ∈ d.weights P e, n ∈ DataW.weightsAll P e ds
  | d0 :: r, d, hd, n, hn => by
    simp only [DataW.weightsAll, List.mem_append]
    rcases List.mem_cons.1 hd with rfl | hd
    · exact .inl hn
    · exact .inr (weights_all hd n hn)
set_option maxRecDepth 100000 in
theorem open_words {H : Type} {enc : TypeId × Value → H} {W : World} {base : Nat} {v : Value} {d : DataW H} {p : List MemPlace} (hv : Value.okWide Tryd.prog W .any base 40 v)
    (h1 : DataW.Trod enc Tryd.prog W 0 (fun _ => true) true 40 v d p) (hw : ∀ n ∈ d.weights Tryd.prog 40, n ≤ reachBytes) : ∃ a n cap, ∃ ss : List ByteArray, v = .slice a n cap ∧ SeesC W (.slice a n cap) n 1 (ss.map Value.string) ∧ ∀ s ∈ ss, s.size ≤ 140737488355328 := by
  obtain ⟨ad, len, cap, rfl⟩ := okWide_slice Tryd.underlying40 hv
  obtain ⟨fuel, hf⟩ := h1
  rcases open_slice Tryd.underlying40 hf with ⟨hcs, _⟩ | ⟨x, l, c, m, n, D, Pl, hcs, _, hl, hm, hmm, hd, hx⟩
  · simp [Value.cells] at hcs
    obtain ⟨rfl, rfl, rfl⟩ := hcs
    exact ⟨none, 0, 0, [], rfl, ⟨rfl, none, 0, rfl, .inl rfl⟩, fun x hx => by simp at hx⟩
  · simp [Value.cells] at hcs
    obtain ⟨rfl, rfl, rfl⟩ := hcs
    have hmc : m = cap := by simpa using hmm
    subst hmc
    have c1 : Tryd.prog.cellsOf 9 = 1 := by kernel_rfl
    rw [c1] at hx
    simp only [Prod.mk.injEq] at hd
    obtain ⟨rfl, _⟩ := hd
    have each : ∀ i, i < m → ∃ s : ByteArray, W.cell? (x.add i) = some (.string s) ∧ (i < len → s.size ≤ reachBytes) := by
      intro i hi
      obtain ⟨cs', h1, h2⟩ := hx i hi
      rw [Nat.mul_one] at h1
      obtain ⟨s, rfl, hy, _⟩ := DataW.trod_string Tryd.underlying9 h2
      refine ⟨s, cell_of_cells?_one h1, fun hil => ?_⟩
      have := hw s.data.toList.length (by
        simp only [DataW.weights, Tryd.underlying40, List.mem_cons, List.mem_append]
        refine .inr (.inl (weights_all (List.mem_map.2 ⟨i, List.mem_range.2 hil, rfl⟩) _ ?_))
        rw [show D i = .lit (.string s.data.toList) from congrArg Prod.fst hy]
        simp [DataW.weights])
      simpa using this
    obtain ⟨f, hf'⟩ := choose_lt each
    refine ⟨some x, len, m, (List.range len).map f, rfl, ⟨by simp, some x, m, rfl, ?_⟩, fun y hy => ?_⟩
    · by_cases h0 : len = 0
      · exact .inl h0
      right
      obtain ⟨b, off, spot⟩ := x
      have hc := (hf' 0 (by omega)).1
      have hspot : spot = none := by simpa [Addr.add] using World.cell?_spot hc
      subst hspot
      refine ⟨b, off, rfl, fun j y hy => ?_⟩
      have hj : j < len := by have := (List.getElem?_eq_some_iff.1 hy).1; simpa using this
      have hfj : y = .string (f j) := by
        rw [List.getElem?_map, List.getElem?_map] at hy
        simp [hj] at hy
        exact hy.symm
      have e := (hf' j (by omega)).1
      rw [Addr.add_lit] at e
      rw [hfj]
      exact e
    · obtain ⟨j, hj, rfl⟩ := List.mem_map.1 hy
      have hjl := List.mem_range.1 hj
      have := (hf' j (by omega)).2 hjl
      have h2 := reachBytes_lt
      have e3 : (2 : Nat) ^ 47 = 140737488355328 := by decide
      omega
end Go.Proofs.YtlhjellnolhppaaDoor
