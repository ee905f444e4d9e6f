/-
  Arguments as the laws take them: messages, operations, bytes, deeds.
-/
import Derived.Test.YtdfieflcclbgjaaRComb
import Derived.Test.YtdfieflcclbgjaaREnc
import Derived.ProofKit
import Derived.OpenShut
import Derived.Deep.SlicePairs
namespace Go.Proofs.Ytdfieflcclbgjaa
open Go.ChangeShapes Go.WideShapes Go.ChangeAt Go.RowKit Go.Deep
theorem in64 {a : Int} (h : (Lit.int .i64 a).wf = true) : In64 a := by
  have e1 : IntKind.i64.min = -9223372036854775808 := rfl
  have e2 : IntKind.i64.max = 9223372036854775807 := rfl
  simp only [Lit.wf, e1, e2, Bool.and_eq_true, decide_eq_true_eq] at h
  exact h
theorem in8 {a : Int} (h : (Lit.int .u8 a).wf = true) : 0 ≤ a ∧ a ≤ 255 := by
  have e1 : IntKind.u8.min = 0 := rfl
  have e2 : IntKind.u8.max = 255 := rfl
  simp only [Lit.wf, e1, e2, Bool.and_eq_true, decide_eq_true_eq] at h
  exact h
def Msg.inr (x : Msg) : Prop := In64 x.to ∧ In64 x.tag ∧ In64 x.val
theorem len3 {α : Type} : ∀ {l : List α}, l.length = 3 → ∃ a b c, l = [a, b, c]
  | [a, b, c], _ => ⟨a, b, c, rfl⟩
theorem open_msg {H : Type} {enc : TypeId × Value → H} {W : World} {fuel : Nat} {cs : List Value} {x : DataW H × List MemPlace} (hl : cs.length = 3) (h : DataW.trod enc Try.prog W 0 (fun _ => true) true fuel 48 cs = some x) :
    ∃ y : Msg, cs = y.cells ∧ y.inr := by
  obtain ⟨xs, k, _, _, _, hxl, hf⟩ := DataW.trod_struct Try.underlying48 h
  have g0 := hf 0 { name := "To", type := 3, offset := 0, embedded := false, tag := "", pkgPath := "", byteOffset := 0 } rfl
  have g1 := hf 1 { name := "Tag", type := 3, offset := 1, embedded := false, tag := "", pkgPath := "", byteOffset := 8 } rfl
  have g2 := hf 2 { name := "Val", type := 31, offset := 2, embedded := false, tag := "", pkgPath := "", byteOffset := 16 } rfl
  rw [show Try.prog.cellsOf 3 = 1 by kernel_rfl] at g0 g1
  rw [show Try.prog.cellsOf 31 = 1 by kernel_rfl] at g2
  obtain ⟨y0, y1, y2, rfl⟩ := len3 (show xs.length = 3 from hxl)
  obtain ⟨c0, c1, c2, rfl⟩ := len3 hl
  simp at g0 g1 g2
  obtain ⟨a, h0, _, w0⟩ := DataW.trod_int Try.underlying3 g0
  obtain ⟨b, h1, _, w1⟩ := DataW.trod_int Try.underlying3 g1
  obtain ⟨c, h2, _, w2⟩ := DataW.trod_int Try.underlying31 g2
  simp at h0 h1 h2
  subst h0 h1 h2
  exact ⟨⟨a, b, c⟩, rfl, in64 w0, in64 w1, in64 w2⟩
set_option maxRecDepth 100000 in
theorem open_msgs {H : Type} {enc : TypeId × Value → H} {W : World} {base : Nat} {v : Value} {d : DataW H} {p : List MemPlace} (hv : Value.okWide Try.prog W .any base 22 v)
    (h1 : DataW.Trod enc Try.prog W 0 (fun _ => true) true 22 v d p) : ∃ xs : List Msg, SeesM W v xs ∧ ∀ x ∈ xs, x.inr := by
  obtain ⟨ad, len, cap, rfl⟩ := okWide_slice Try.underlying22 hv
  obtain ⟨fuel, hf⟩ := h1
  rcases open_slice Try.underlying22 hf with ⟨hcs, _⟩ | ⟨x, l, c, m, n, D, Pl, hcs, _, hl, hm, hmm, _, hx⟩
  · simp [Value.cells] at hcs
    obtain ⟨rfl, rfl, rfl⟩ := hcs
    exact ⟨[], SeesM.nil, by simp⟩
  · simp [Value.cells] at hcs
    obtain ⟨rfl, rfl, rfl⟩ := hcs
    have hmc : m = cap := by simpa using hmm
    subst hmc
    have c3 : Try.prog.cellsOf 48 = 3 := by kernel_rfl
    rw [c3] at hx
    have each : ∀ i, i < m → ∃ y : Msg, (W.cell? (x.add (i * 3)) = some (.int .i64 y.to) ∧ W.cell? (x.add (i * 3 + 1)) = some (.int .i64 y.tag) ∧ W.cell? (x.add (i * 3 + 2)) = some (.int .i64 y.val)) ∧ y.inr := by
      intro i hi
      obtain ⟨cs', h1, h2⟩ := hx i hi
      obtain ⟨_, hlen, hcell⟩ := World.cells?_some h1
      obtain ⟨y, rfl, hok⟩ := open_msg hlen h2
      have e := fun j hj => hcell j hj
      simp only [add_add] at e
      exact ⟨y, ⟨e 0 (by omega), e 1 (by omega), e 2 (by omega)⟩, hok⟩
    obtain ⟨f, hf'⟩ := choose_lt each
    refine ⟨(List.range len).map f, ⟨some x, m, by simp, by simpa using hl, ?_⟩, fun y hy => ?_⟩
    · by_cases h0 : len = 0
      · left; rw [h0]; rfl
      right
      obtain ⟨b, off, spot⟩ := x
      have hc := (hf' 0 (by omega)).1.1
      have hspot : spot = none := by simpa [Addr.add] using World.cell?_spot hc
      subst hspot
      refine ⟨b, off, rfl, fun j y hy => ?_⟩
      have hj : j < len := by have := (List.getElem?_eq_some_iff.1 hy).1; simpa using this
      have hfj : y = f j := by rw [List.getElem?_map] at hy; simp [hj] at hy; exact hy.symm
      have e := (hf' j (by omega)).1
      simp only [Addr.add_lit, ← Nat.add_assoc] at e
      rw [hfj]
      exact e
    · obtain ⟨j, hj, rfl⟩ := List.mem_map.1 hy
      exact (hf' j (by have := List.mem_range.1 hj; omega)).2
set_option maxRecDepth 100000 in
theorem open_bytes {H : Type} {enc : TypeId × Value → H} {W : World} {base : Nat} {v : Value} {d : DataW H} {p : List MemPlace} (hv : Value.okWide Try.prog W .any base 40 v)
    (h1 : DataW.Trod enc Try.prog W 0 (fun _ => true) true 40 v d p) : ∃ zs : List Int, (∃ (a : Option Addr) (cap : Nat), v = .slice a zs.length cap ∧ SB W a cap zs) ∧ ∀ z ∈ zs, IsB z := by
  obtain ⟨ad, len, cap, rfl⟩ := okWide_slice Try.underlying40 hv
  obtain ⟨fuel, hf⟩ := h1
  rcases open_ints Try.underlying40 Try.underlying5 (by kernel_rfl) hf with ⟨hcs, _⟩ | ⟨x, l, c, zs, hcs, _, hl, hm, hz, _, hcell, hwz⟩
  · simp [Value.cells] at hcs
    obtain ⟨rfl, rfl, rfl⟩ := hcs
    exact ⟨[], ⟨none, 0, rfl, Nat.le_refl _, .inl rfl⟩, by simp⟩
  · simp [Value.cells] at hcs
    obtain ⟨rfl, rfl, rfl⟩ := hcs
    have hz' : zs.length = cap := by simpa using hz
    have htl : (zs.take len).length = len := by rw [List.length_take]; omega
    refine ⟨zs.take len, ⟨some x, cap, by rw [htl], by rw [htl]; exact hl, ?_⟩, fun z hz => in8 (hwz z (List.mem_of_mem_take hz))⟩
    by_cases h0 : len = 0
    · left; rw [h0]; rfl
    right
    obtain ⟨b, off, spot⟩ := x
    have hc := hcell 0 (by omega)
    have hspot : spot = none := by simpa [Addr.add] using World.cell?_spot hc
    subst hspot
    refine ⟨b, off, rfl, fun j y hy => ?_⟩
    have hj : j < len := by have := (List.getElem?_eq_some_iff.1 hy).1; rw [htl] at this; exact this
    have := hcell j (by omega)
    rw [Addr.add_lit] at this
    rw [this]
    have hy2 := (List.getElem?_eq_some_iff.1 hy).2
    rw [List.getElem_take] at hy2
    simp [← hy2, List.getD, show j < zs.length by omega]
set_option maxRecDepth 100000 in
theorem open_ops {H : Type} {enc : TypeId × Value → H} {W : World} {base : Nat} {v : Value} {d : DataW H} {p : List MemPlace} (hv : Value.okWide Try.prog W .any base 30 v)
    (h1 : DataW.Trod enc Try.prog W 0 (fun _ => true) true 30 v d p) : ∃ os : List Nat, SeesO W v os ∧ ∀ o ∈ os, o ≤ 255 := by
  obtain ⟨ad, len, cap, rfl⟩ := okWide_slice Try.underlying30 hv
  obtain ⟨fuel, hf⟩ := h1
  rcases open_ints Try.underlying30 Try.underlying38 (by kernel_rfl) hf with ⟨hcs, _⟩ | ⟨x, l, c, zs, hcs, _, hl, hm, hz, _, hcell, hwz⟩
  · simp [Value.cells] at hcs
    obtain ⟨rfl, rfl, rfl⟩ := hcs
    exact ⟨[], ⟨none, 0, rfl, .inl rfl⟩, by simp⟩
  · simp [Value.cells] at hcs
    obtain ⟨rfl, rfl, rfl⟩ := hcs
    have hz' : zs.length = cap := by simpa using hz
    have htl : ((zs.take len).map Int.toNat).length = len := by rw [List.length_map, List.length_take]; omega
    refine ⟨(zs.take len).map Int.toNat, ⟨some x, cap, by rw [htl], ?_⟩, fun o ho => ?_⟩
    · by_cases h0 : len = 0
      · left; rw [h0]; rfl
      right
      obtain ⟨b, off, spot⟩ := x
      have hc := hcell 0 (by omega)
      have hspot : spot = none := by simpa [Addr.add] using World.cell?_spot hc
      subst hspot
      refine ⟨b, off, rfl, fun j y hy => ?_⟩
      have hj : j < len := by have := (List.getElem?_eq_some_iff.1 hy).1; rw [htl] at this; exact this
      have := hcell j (by omega)
      rw [Addr.add_lit] at this
      rw [this]
      have hy2 := (List.getElem?_eq_some_iff.1 hy).2
      rw [List.getElem_map, List.getElem_take] at hy2
      have hr := in8 (hwz zs[j] (List.getElem_mem _))
      have e : ((zs[j]).toNat : Int) = zs[j] := by omega
      rw [← hy2, e]
      simp [List.getD, show j < zs.length by omega]
    · obtain ⟨z, hz1, rfl⟩ := List.mem_map.1 ho
      have hr := in8 (hwz z (List.mem_of_mem_take hz1))
      omega
end Go.Proofs.Ytdfieflcclbgjaa
