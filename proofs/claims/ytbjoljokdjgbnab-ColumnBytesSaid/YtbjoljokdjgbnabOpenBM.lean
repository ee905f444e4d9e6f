/-
  Arguments as ColumnBytes takes them: deeds whose numbers are of 64 bits, and bytes.
-/
import Derived.Test.YtbjoljokdjgbnabGG
import Derived.Test.YtbjoljokdjgbnabBeginM
namespace Go.Proofs.Ytbjoljokdjgbnab
open Go.ChangeShapes Go.WideShapes Go.ChangeAt Go.RowKit Go.Deep
theorem inB {a : Int} (h : (Lit.int .u8 a).wf = true) : IsB a := by
  have e1 : IntKind.u8.min = 0 := rfl
  have e2 : IntKind.u8.max = 255 := rfl
  simp only [Lit.wf, e1, e2, Bool.and_eq_true, decide_eq_true_eq] at h
  exact h
theorem open_wordsI {H : Type} {enc : TypeId × Value → H} {W : World} {fuel : Nat} {c : Value} {x : DataW H × List MemPlace} (h : DataW.trod enc Try.prog W 0 (fun _ => true) true fuel 60 [c] = some x) : ∃ (a : Option Addr) (n cap : Nat) (zs : List Int), c = .slice a n cap ∧ n ≤ cap ∧ Sees W (.slice a n cap) zs ∧ ∀ z ∈ zs, In64 z := by
  rcases open_ints Try.underlying60 Try.underlying51 (by kernel_rfl) h with ⟨hcs, _⟩ | ⟨x, len, cap, zs, hcs, _, hl, hm, hz, _, hcell, hwz⟩
  · obtain rfl : c = .slice none 0 0 := by simpa using hcs
    exact ⟨none, 0, 0, [], rfl, Nat.le_refl _, ⟨none, 0, rfl, .inl rfl⟩, by simp⟩
  · obtain rfl : c = .slice (some x) len cap := by simpa using hcs
    have hz' : zs.length = cap := by simpa using hz
    have htl : (zs.take len).length = len := by rw [List.length_take]; omega
    refine ⟨some x, len, cap, zs.take len, rfl, hl, ⟨some x, cap, by rw [htl], ?_⟩, fun z hz => in64 (hwz z (List.mem_of_mem_take hz))⟩
    by_cases h0 : len = 0
    · left; rw [h0]; rfl
    right
    obtain ⟨b, off, spot⟩ := x
    have hc := hcell 0 (by omega)
    have hspot : spot = none := by simpa [Addr.add] using World.cell?_spot hc
    subst hspot
    refine ⟨b, off, rfl, fun j hj => ?_⟩
    rw [htl] at hj
    have := hcell j (by omega)
    rw [show (zs.take len).getD j 0 = zs.getD j 0 by simp [List.getD, hj]]
    rw [Addr.add_lit] at this
    exact this
theorem open_deedI {H : Type} {enc : TypeId × Value → H} {W : World} {fuel : Nat} {cs : List Value} {x : DataW H × List MemPlace} (hl : cs.length = 7) (h : DataW.trod enc Try.prog W 0 (fun _ => true) true fuel 89 cs = some x) :
    ∃ y : Deed, cs = [.int .i64 y.k, .string y.s, .int .u8 y.d, .int .u8 y.q, .int .i64 y.i, .int .i64 y.x, .slice y.a y.n y.cap] ∧ (y.ok W.heap.size W ∧ y.inr) := by
  obtain ⟨xs, k, _, _, _, hxl, hf⟩ := DataW.trod_struct Try.underlying89 h
  have g0 := hf 0 { name := "Kind", type := 3, offset := 0, embedded := false, tag := "", pkgPath := "", byteOffset := 0 } rfl
  have g1 := hf 1 { name := "Key", type := 40, offset := 1, embedded := false, tag := "", pkgPath := "", byteOffset := 8 } rfl
  have g2 := hf 2 { name := "Of", type := 63, offset := 3, embedded := false, tag := "", pkgPath := "", byteOffset := 32 } rfl
  have g3 := hf 3 { name := "I", type := 3, offset := 4, embedded := false, tag := "", pkgPath := "", byteOffset := 40 } rfl
  have g4 := hf 4 { name := "W", type := 51, offset := 5, embedded := false, tag := "", pkgPath := "", byteOffset := 48 } rfl
  have g5 := hf 5 { name := "L", type := 60, offset := 6, embedded := false, tag := "", pkgPath := "", byteOffset := 56 } rfl

  rw [show Try.prog.cellsOf 3 = 1 by kernel_rfl] at g0 g3
  rw [show Try.prog.cellsOf 40 = 2 by kernel_rfl] at g1
  rw [show Try.prog.cellsOf 63 = 1 by kernel_rfl] at g2
  rw [show Try.prog.cellsOf 51 = 1 by kernel_rfl] at g4
  rw [show Try.prog.cellsOf 60 = 1 by kernel_rfl] at g5
  obtain ⟨y0, y1, y2, y3, y4, y5, rfl⟩ := len6 (show xs.length = 6 from hxl)
  obtain ⟨c0, c1, c2, c3, c4, c5, c6, rfl⟩ := len7 hl
  simp at g0 g1 g2 g3 g4 g5
  obtain ⟨kk, h0, _, _⟩ := DataW.trod_int Try.underlying3 g0
  obtain ⟨s, d, rfl, rfl, hs, hd⟩ := open_key g1
  obtain ⟨q, h2, _, hq⟩ := DataW.trod_int Try.underlying63 g2
  obtain ⟨i, h3, _, _⟩ := DataW.trod_int Try.underlying3 g3
  obtain ⟨xx, h4, _, hxi⟩ := DataW.trod_int Try.underlying51 g4
  obtain ⟨a, n, cap, zs, rfl, hc, hz, hzi⟩ := open_wordsI g5
  simp at h0 h2 h3 h4
  subst h0 h2 h3 h4
  exact ⟨⟨kk, s, d, q, i, xx, a, n, cap, zs⟩, rfl, ⟨hs, hd, wf8_pos hq, hc, fun u hu => hz.below hu (Nat.le_refl _)⟩, in64 hxi, hzi⟩
set_option maxRecDepth 100000 in
theorem open_deedsI {H : Type} {enc : TypeId × Value → H} {W : World} {base : Nat} {v : Value} {d : DataW H} {p : List MemPlace} (hv : Value.okWide Try.prog W .any base 37 v)
    (h1 : DataW.Trod enc Try.prog W 0 (fun _ => true) true 37 v d p) : ∃ xs : List Deed, SeesD W v xs ∧ ∀ x ∈ xs, x.ok W.heap.size W ∧ x.inr := by
  obtain ⟨ad, len, cap, rfl⟩ := okWide_slice Try.underlying37 hv
  obtain ⟨fuel, hf⟩ := h1
  rcases open_slice Try.underlying37 hf with ⟨hcs, _⟩ | ⟨x, l, c, m, n, D, Pl, hcs, _, hl, hm, hmm, _, hx⟩
  · simp [Value.cells] at hcs
    obtain ⟨rfl, rfl, rfl⟩ := hcs
    exact ⟨[], ⟨none, 0, rfl, .inl rfl⟩, by simp⟩
  · simp [Value.cells] at hcs
    obtain ⟨rfl, rfl, rfl⟩ := hcs
    have hmc : m = cap := by simpa using hmm
    subst hmc
    have c7 : Try.prog.cellsOf 89 = 7 := by kernel_rfl
    rw [c7] at hx
    have each : ∀ i, i < m → ∃ y : Deed, (W.cell? (x.add (i * 7)) = some (.int .i64 y.k) ∧ W.cell? (x.add (i * 7 + 1)) = some (.string y.s) ∧ W.cell? (x.add (i * 7 + 2)) = some (.int .u8 y.d) ∧ W.cell? (x.add (i * 7 + 3)) = some (.int .u8 y.q) ∧ W.cell? (x.add (i * 7 + 4)) = some (.int .i64 y.i) ∧ W.cell? (x.add (i * 7 + 5)) = some (.int .i64 y.x) ∧ W.cell? (x.add (i * 7 + 6)) = some (.slice y.a y.n y.cap)) ∧ (y.ok W.heap.size W ∧ y.inr) := by
      intro i hi
      obtain ⟨cs', h1, h2⟩ := hx i hi
      obtain ⟨_, hlen, hcell⟩ := World.cells?_some h1
      obtain ⟨y, rfl, hok⟩ := open_deedI hlen h2
      have e := fun j hj => hcell j hj
      simp only [add_add] at e
      exact ⟨y, ⟨e 0 (by omega), e 1 (by omega), e 2 (by omega), e 3 (by omega), e 4 (by omega), e 5 (by omega), e 6 (by omega)⟩, hok⟩
    obtain ⟨f, hf'⟩ := choose_lt each
    refine ⟨(List.range len).map f, ⟨some x, m, by simp, ?_⟩, fun y hy => ?_⟩
    · by_cases h0 : len = 0
      · left; rw [h0]; rfl
      right
      obtain ⟨b, off, spot⟩ := x
      have hc := (hf' 0 (by omega)).1.1
      have hspot : spot = none := by simpa [Addr.add] using World.cell?_spot hc
      subst hspot
      refine ⟨b, off, rfl, fun j y hy => ?_⟩
      have hj : j < len := by have := (List.getElem?_eq_some_iff.1 hy).1; simpa using this
      have hfj : y = f j := by rw [List.getElem?_map] at hy; simp [hj] at hy; exact hy.symm
      have e := (hf' j (by omega)).1
      simp only [Addr.add_lit, ← Nat.add_assoc] at e
      rw [hfj]
      exact e
    · obtain ⟨j, hj, rfl⟩ := List.mem_map.1 hy
      exact (hf' j (by have := List.mem_range.1 hj; omega)).2
set_option maxRecDepth 100000 in
theorem open_bytes {H : Type} {enc : TypeId × Value → H} {W : World} {base : Nat} {v : Value} {d : DataW H} {p : List MemPlace} (hv : Value.okWide Try.prog W .any base 66 v)
    (h1 : DataW.Trod enc Try.prog W 0 (fun _ => true) true 66 v d p) : ∃ zs : List Int, (∃ (a : Option Addr) (cap : Nat), v = .slice a zs.length cap ∧ SB W a cap zs) ∧ ∀ z ∈ zs, IsB z := by
  obtain ⟨ad, len, cap, rfl⟩ := okWide_slice Try.underlying66 hv
  obtain ⟨fuel, hf⟩ := h1
  rcases open_ints Try.underlying66 Try.underlying5 (by kernel_rfl) hf with ⟨hcs, _⟩ | ⟨x, l, c, zs, hcs, _, hl, hm, hz, _, hcell, hwz⟩
  · simp [Value.cells] at hcs
    obtain ⟨rfl, rfl, rfl⟩ := hcs
    exact ⟨[], ⟨none, 0, rfl, Nat.le_refl _, .inl rfl⟩, by simp⟩
  · simp [Value.cells] at hcs
    obtain ⟨rfl, rfl, rfl⟩ := hcs
    have hz' : zs.length = cap := by simpa using hz
    have htl : (zs.take len).length = len := by rw [List.length_take]; omega
    refine ⟨zs.take len, ⟨some x, cap, by rw [htl], by rw [htl]; exact hl, ?_⟩, fun z hz => inB (hwz z (List.mem_of_mem_take hz))⟩
    by_cases h0 : len = 0
    · left; rw [h0]; rfl
    right
    obtain ⟨b, off, spot⟩ := x
    have hc := hcell 0 (by omega)
    have hspot : spot = none := by simpa [Addr.add] using World.cell?_spot hc
    subst hspot
    refine ⟨b, off, rfl, fun j y hy => ?_⟩
    have hj : j < len := by have := (List.getElem?_eq_some_iff.1 hy).1; rw [htl] at this; exact this
    have := hcell j (by omega)
    rw [Addr.add_lit] at this
    rw [this]
    have hy2 := (List.getElem?_eq_some_iff.1 hy).2
    rw [List.getElem_take] at hy2
    simp [← hy2, List.getD, show j < zs.length by omega]
theorem colBytes_any {W : World} (v0 : Value) (xs : List Deed) (hs : SeesD W v0 xs) (hr : ∀ x ∈ xs, x.ok W.heap.size W ∧ x.inr) (v1 : Value) (zs : List Int) (hb : ∃ (a : Option Addr) (cap : Nat), v1 = .slice a zs.length cap ∧ SB W a cap zs) (hz : ∀ z ∈ zs, IsB z) :
    Calls Try.prog 8 #[v0, v1] W fun e w' => e = .returned (.bool true) ∧ Below W.heap.size W w' := by
  obtain ⟨a, cap, rfl, hS⟩ := hb
  exact bytes_law begin_any W v0 xs hs (fun x hx => (hr x hx).1) (fun x hx => (hr x hx).2) a cap zs hz hS
end Go.Proofs.Ytbjoljokdjgbnab
