/-
  A slice cut: its first elements, and those from one on.
-/
import Derived.Test.YtdfieflcclbgjaaMBase
namespace Go.Proofs.Ytdfieflcclbgjaa
open Go.RowKit Go.Deep Go.MapKept
theorem cut_low {W : World} {a : Option Addr} {n cap size : Nat} {cs : List Value} (h : SeesC W (.slice a n cap) n size cs) (i : Nat) (hi : i ≤ n) : SeesC W (.slice a i cap) i size (cs.take (i * size)) := by
  obtain ⟨hl, a', cap', he, hs⟩ := h
  simp only [Value.slice.injEq] at he
  obtain ⟨rfl, _, rfl⟩ := he
  have hmul := Nat.mul_le_mul_right size hi
  refine ⟨by rw [List.length_take]; omega, _, cap, rfl, ?_⟩
  rcases hs with h0 | ⟨b, off, rfl, hs⟩
  · exact .inl (by omega)
  · refine .inr ⟨b, off, rfl, fun j u hu => hs j u ?_⟩
    rw [List.getElem?_take] at hu
    split at hu
    · exact hu
    · cases hu
theorem cut_high {W : World} {a : Option Addr} {n cap size : Nat} {cs : List Value} (h : SeesC W (.slice a n cap) n size cs) (hc : n ≤ cap) (i : Nat) (hi : i ≤ n) :
    SeesC W (.slice (if cap = i then a else a.map fun x => x.add (i * size)) (n - i) (cap - i)) (n - i) size (cs.drop (i * size)) := by
  obtain ⟨hl, a', cap', he, hs⟩ := h
  simp only [Value.slice.injEq] at he
  obtain ⟨rfl, _, rfl⟩ := he
  refine ⟨by rw [List.length_drop, hl, Nat.sub_mul], _, cap - i, rfl, ?_⟩
  by_cases hik : i = n
  · exact .inl (by omega)
  rcases hs with h0 | ⟨b, off, rfl, hs⟩
  · exact .inl (by omega)
  · refine .inr ⟨b, off + i * size, ?_, fun j u hu => ?_⟩
    · rw [if_neg (by omega)]
      simp [Addr.add_lit]
    · rw [List.getElem?_drop] at hu
      have := hs _ u hu
      rwa [← Nat.add_assoc] at this
end Go.Proofs.Ytdfieflcclbgjaa
