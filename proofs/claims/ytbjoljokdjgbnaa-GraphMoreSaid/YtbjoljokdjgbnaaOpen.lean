/-
  Arguments as the laws take them: bytes.
-/
import Derived.Test.YtbjoljokdjgbnaaEnc
import Derived.ProofKit
import Derived.OpenShut
namespace Go.Proofs.Ytbjoljokdjgbnaa
open Go.ChangeShapes Go.WideShapes Go.ChangeAt Go.RowKit
theorem in8 {a : Int} (h : (Lit.int .u8 a).wf = true) : 0 ≤ a ∧ a < 256 := by
  have e1 : IntKind.u8.min = 0 := rfl
  have e2 : IntKind.u8.max = 255 := rfl
  simp only [Lit.wf, e1, e2, Bool.and_eq_true, decide_eq_true_eq] at h
  omega
/-- An argument that reads as the bytes bs. -/
def ArgB (w : World) (v : Value) (bs : List Int) : Prop := SeesB w v bs ∧ ∃ a len cap, v = .slice a len cap ∧ len ≤ cap ∧ cap ≤ 9223372036854775807
theorem ArgB.short {w : World} {v : Value} {bs : List Int} (h : ArgB w v bs) : bs.length ≤ 9223372036854775807 := by
  obtain ⟨⟨a, cap, rfl, _⟩, a', len, cap', he, h1, h2⟩ := h
  cases he
  omega
theorem open_bytes {H : Type} {enc : TypeId × Value → H} {W : World} {base : Nat} {v : Value} {d : DataW H} {p : List MemPlace} (hv : Value.okWide Try.prog W .any base 41 v)
    (h1 : DataW.Trod enc Try.prog W 0 (fun _ => true) true 41 v d p) : ∃ zs : List Int, ArgB W v zs ∧ ∀ z ∈ zs, 0 ≤ z ∧ z < 256 := by
  obtain ⟨ad, len, cap, rfl⟩ := okWide_slice Try.underlying41 hv
  obtain ⟨fuel, hf⟩ := h1
  rcases open_ints Try.underlying41 Try.underlying5 (by kernel_rfl) hf with ⟨hcs, _⟩ | ⟨x, l, c, zs, hcs, _, hl, hm, hz, _, hcell, hwz⟩
  · simp [Value.cells] at hcs
    obtain ⟨rfl, rfl, rfl⟩ := hcs
    exact ⟨[], ⟨⟨none, 0, rfl, .inl rfl⟩, none, 0, 0, rfl, Nat.le_refl _, by omega⟩, by simp⟩
  · simp [Value.cells] at hcs
    obtain ⟨rfl, rfl, rfl⟩ := hcs
    have hz' : zs.length = cap := by simpa using hz
    have htl : (zs.take len).length = len := by rw [List.length_take]; omega
    have hmx : cap ≤ 9223372036854775807 := by unfold maxLen at hm; omega
    refine ⟨zs.take len, ⟨⟨some x, cap, by rw [htl], ?_⟩, some x, len, cap, rfl, hl, hmx⟩, fun z hz => in8 (hwz z (List.mem_of_mem_take hz))⟩
    by_cases h0 : len = 0
    · left; rw [h0]; rfl
    right
    obtain ⟨b, off, spot⟩ := x
    have hc := hcell 0 (by omega)
    have hspot : spot = none := by simpa [Addr.add] using World.cell?_spot hc
    subst hspot
    refine ⟨b, off, rfl, fun j hj => ?_⟩
    rw [htl] at hj
    have := hcell j (by omega)
    rw [show (zs.take len).getD j 0 = zs.getD j 0 by simp [List.getD, hj]]
    rw [Addr.add_lit] at this
    exact this
end Go.Proofs.Ytbjoljokdjgbnaa
