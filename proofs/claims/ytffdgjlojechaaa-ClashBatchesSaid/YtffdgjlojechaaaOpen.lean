/-
  Acts as the laws take them.
-/
import Derived.Test.YtffdgjlojechaaaApp
import Derived.ProofKit
import Derived.OpenShut
import Derived.SizedLaws
import Derived.Deep.SlicePairs
namespace Go.Proofs.Ytffdgjlojechaaa
open Go.ChangeShapes Go.WideShapes Go.ChangeAt Go.RowKit Go.Deep
instance : Inhabited Deed := ⟨⟨0, ⟨#[]⟩, 0, false, 0, 0⟩⟩
theorem len6 {α : Type} : ∀ {l : List α}, l.length = 6 → ∃ a b c d e f, l = [a, b, c, d, e, f]
  | [a, b, c, d, e, f], _ => ⟨a, b, c, d, e, f, rfl⟩
theorem open_act {H : Type} {enc : TypeId × Value → H} {W : World} {fuel : Nat} {cs : List Value} {x : DataW H × List MemPlace} (hl : cs.length = 6) (h : DataW.trod enc Try.prog W 0 (fun _ => true) true fuel 39 cs = some x) :
    ∃ y : Deed, cs = y.cells ∧ ∀ b, (∀ n ∈ x.1.weights Try.prog 39, n ≤ b) → y.s.size ≤ b := by
  obtain ⟨xs, k, _, rfl, _, hxl, hf⟩ := DataW.trod_struct Try.underlying39 h
  have g0 := hf 0 { name := "Kind", type := 36, offset := 0, embedded := false, tag := "", pkgPath := "", byteOffset := 0 } rfl
  have g1 := hf 1 { name := "Name", type := 9, offset := 1, embedded := false, tag := "", pkgPath := "", byteOffset := 8 } rfl
  have g2 := hf 2 { name := "Op", type := 37, offset := 2, embedded := false, tag := "", pkgPath := "", byteOffset := 24 } rfl
  have g3 := hf 3 { name := "In", type := 4, offset := 3, embedded := false, tag := "", pkgPath := "", byteOffset := 25 } rfl
  have g4 := hf 4 { name := "E", type := 3, offset := 4, embedded := false, tag := "", pkgPath := "", byteOffset := 32 } rfl
  have g5 := hf 5 { name := "Cond", type := 3, offset := 5, embedded := false, tag := "", pkgPath := "", byteOffset := 40 } rfl
  rw [show Try.prog.cellsOf 36 = 1 by kernel_rfl] at g0
  rw [show Try.prog.cellsOf 9 = 1 by kernel_rfl] at g1
  rw [show Try.prog.cellsOf 37 = 1 by kernel_rfl] at g2
  rw [show Try.prog.cellsOf 4 = 1 by kernel_rfl] at g3
  rw [show Try.prog.cellsOf 3 = 1 by kernel_rfl] at g4 g5
  obtain ⟨y0, y1, y2, y3, y4, y5, rfl⟩ := len6 (show xs.length = 6 from hxl)
  obtain ⟨c0, c1, c2, c3, c4, c5, rfl⟩ := len6 hl
  simp at g0 g1 g2 g3 g4 g5
  obtain ⟨kk, h0, _, _⟩ := DataW.trod_int Try.underlying36 g0
  obtain ⟨s, h1, hy1, _⟩ := DataW.trod_string Try.underlying9 g1
  obtain ⟨o, h2, _, _⟩ := DataW.trod_int Try.underlying37 g2
  obtain ⟨i, h3, _⟩ := DataW.trod_bool Try.underlying4 g3
  obtain ⟨e, h4, _, _⟩ := DataW.trod_int Try.underlying3 g4
  obtain ⟨c, h5, _, _⟩ := DataW.trod_int Try.underlying3 g5
  simp at h0 h1 h2 h3 h4 h5
  subst h0 h1 h2 h3 h4 h5
  refine ⟨⟨kk, s, o, i, e, c⟩, rfl, fun b hb => ?_⟩
  have := hb s.data.toList.length (by
    simp only [DataW.weights, Try.underlying39, List.map_cons, List.map_nil]
    refine DataW.weights_mem_each (j := 1) (t := 9) (d := y1.1) rfl rfl _ ?_
    rw [hy1]
    simp [DataW.weights])
  simpa using this
theorem weights_all {H : Type} {P : Program} {e : TypeId} : ∀ {ds : List (DataW H)} {d : DataW H}, d ∈ ds → ∀ n ∈ d.weights P e, n ∈ DataW.weightsAll P e ds
  | d0 :: r, d, hd, n, hn => by
    simp only [DataW.weightsAll, List.mem_append]
    rcases List.mem_cons.1 hd with rfl | hd
    · exact .inl hn
    · exact .inr (weights_all hd n hn)
set_option maxRecDepth 100000 in
theorem open_acts {H : Type} {enc : TypeId × Value → H} {W : World} {base : Nat} {v : Value} {d : DataW H} {p : List MemPlace} (hv : Value.okWide Try.prog W .any base 22 v)
    (h1 : DataW.Trod enc Try.prog W 0 (fun _ => true) true 22 v d p) (hw : ∀ n ∈ d.weights Try.prog 22, n ≤ reachBytes) : ∃ a n cap, ∃ xs : List Deed, v = .slice a n cap ∧ n ≤ cap ∧ SeesA W (.slice a n cap) xs ∧ okA xs := by
  obtain ⟨ad, len, cap, rfl⟩ := okWide_slice Try.underlying22 hv
  obtain ⟨fuel, hf⟩ := h1
  rcases open_slice Try.underlying22 hf with ⟨hcs, _⟩ | ⟨x, l, c, m, n, D, Pl, hcs, _, hl, hm, hmm, hd, hx⟩
  · simp [Value.cells] at hcs
    obtain ⟨rfl, rfl, rfl⟩ := hcs
    exact ⟨none, 0, 0, [], rfl, Nat.le_refl _, ⟨none, 0, rfl, .inl rfl⟩, fun x hx => by simp at hx⟩
  · simp [Value.cells] at hcs
    obtain ⟨rfl, rfl, rfl⟩ := hcs
    have hmc : m = cap := by simpa using hmm
    subst hmc
    have c6 : Try.prog.cellsOf 39 = 6 := by kernel_rfl
    rw [c6] at hx
    simp only [Prod.mk.injEq] at hd
    obtain ⟨rfl, _⟩ := hd
    have each : ∀ i, i < m → ∃ y : Deed, (∀ j c, y.cells[j]? = some c → W.cell? (x.add (i * 6 + j)) = some c) ∧ (i < len → y.s.size ≤ reachBytes) := by
      intro i hi
      obtain ⟨cs', h1, h2⟩ := hx i hi
      obtain ⟨_, hlen, hcell⟩ := World.cells?_some h1
      obtain ⟨y, rfl, hok⟩ := open_act hlen h2
      refine ⟨y, fun j c hj => ?_, fun hil => hok _ fun n hn => hw n ?_⟩
      · have hj6 := (List.getElem?_eq_some_iff.1 hj).1
        have := hcell j (by simpa [Deed.cells] using hj6)
        rw [add_add] at this
        rw [this, ← hj]
      · simp only [DataW.weights, Try.underlying22, List.mem_cons, List.mem_append]
        refine .inr (.inl (weights_all ?_ n hn))
        exact List.mem_map.2 ⟨i, List.mem_range.2 hil, rfl⟩
    obtain ⟨f, hf'⟩ := choose_lt each
    refine ⟨some x, len, m, (List.range len).map f, rfl, hl, ⟨some x, m, by simp, ?_⟩, fun y hy => ?_⟩
    · by_cases h0 : len = 0
      · left; rw [h0]; rfl
      right
      obtain ⟨b, off, spot⟩ := x
      have hc := (hf' 0 (by omega)).1 0 _ rfl
      have hspot : spot = none := by simpa [Addr.add] using World.cell?_spot hc
      subst hspot
      refine ⟨b, off, rfl, fun j y hy => ?_⟩
      have hj : j < len := by have := (List.getElem?_eq_some_iff.1 hy).1; simpa using this
      have hfj : y = f j := by rw [List.getElem?_map] at hy; simp [hj] at hy; exact hy.symm
      have e := (hf' j (by omega)).1
      simp only [Addr.add_lit, ← Nat.add_assoc] at e
      rw [hfj]
      exact ⟨e 0 _ rfl, e 1 _ rfl, e 2 _ rfl, e 3 _ rfl, e 4 _ rfl, e 5 _ rfl⟩
    · obtain ⟨j, hj, rfl⟩ := List.mem_map.1 hy
      have hjl := List.mem_range.1 hj
      have := (hf' j (by omega)).2 hjl
      have := reachBytes_lt
      omega
end Go.Proofs.Ytffdgjlojechaaa
