/-
  A list of numbers of 64 bits as the law TopTaken takes it; the law's call, at any operation.
-/
import Derived.Test.YtcaecfmjnboamabOpen
import Derived.Test.YtcaecfmjnboamabTaken
namespace Go.Proofs.Ytcaecfmjnboamab
open Go.ChangeShapes Go.WideShapes Go.ChangeAt Go.RowKit
theorem topTaken_any (o : Nat) (v : Value) (zs : List Int) (k : Nat) (hk : k < 18446744073709551616) (w : World) (hv : Sees w v zs) :
    Calls Try.prog 8 #[.int .u8 o, v, .int .u64 k] w fun e w' => e = .returned (.bool true) ∧ Below w.heap.size w w' := by
  by_cases ho : many5 o
  · exact taken_walk o ho v zs k hk w hv
  · exact taken_none o ho v k w
theorem open_words {H : Type} {enc : TypeId × Value → H} {W : World} {base : Nat} {v : Value} {d : DataW H} {p : List MemPlace} (hv : Value.okWide Try.prog W .any base 46 v)
    (h1 : DataW.Trod enc Try.prog W 0 (fun _ => true) true 46 v d p) : ∃ zs : List Int, Sees W v zs := by
  obtain ⟨ad, len, cap, rfl⟩ := okWide_slice Try.underlying46 hv
  obtain ⟨fuel, hf⟩ := h1
  rcases open_ints Try.underlying46 Try.underlying47 (by kernel_rfl) hf with ⟨hcs, _⟩ | ⟨x, l, c, zs, hcs, _, hl, hm, hz, _, hcell, hwz⟩
  · simp [Value.cells] at hcs
    obtain ⟨rfl, rfl, rfl⟩ := hcs
    exact ⟨[], none, 0, rfl, by simp, .inl rfl⟩
  · simp [Value.cells] at hcs
    obtain ⟨rfl, rfl, rfl⟩ := hcs
    have hz' : zs.length = cap := by simpa using hz
    have htl : (zs.take len).length = len := by rw [List.length_take]; omega
    have hmx : cap ≤ 9223372036854775807 := by unfold maxLen at hm; omega
    refine ⟨zs.take len, some x, cap, by rw [htl], by omega, ?_⟩
    by_cases h0 : len = 0
    · left; rw [h0]; rfl
    right
    obtain ⟨b, off, spot⟩ := x
    have hc := hcell 0 (by omega)
    have hspot : spot = none := by simpa [Addr.add] using World.cell?_spot hc
    subst hspot
    refine ⟨b, off, rfl, fun j hj => ?_⟩
    rw [htl] at hj
    have := hcell j (by omega)
    rw [show (zs.take len).getD j 0 = zs.getD j 0 by simp [List.getD, hj]]
    rw [Addr.add_lit] at this
    exact this
end Go.Proofs.Ytcaecfmjnboamab
