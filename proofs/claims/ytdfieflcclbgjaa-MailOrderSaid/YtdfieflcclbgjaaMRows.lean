/-
  The laws of mail, at the arguments of a row.
-/
import Derived.Test.YtdfieflcclbgjaaPLive
import Derived.Test.YtdfieflcclbgjaaMLaws2
namespace Go.Proofs.Ytdfieflcclbgjaa
open Go.ChangeShapes Go.WideShapes Go.ChangeAt Go.RowKit Go.Deep
theorem nat_u64 {a : Int} (h : (Lit.int .u64 a).wf = true) : ∃ n : Nat, a = (n : Int) ∧ n < 18446744073709551616 := by
  have e1 : IntKind.u64.min = 0 := rfl
  have e2 : IntKind.u64.max = 18446744073709551615 := rfl
  simp only [Lit.wf, e1, e2, Bool.and_eq_true, decide_eq_true_eq] at h
  exact ⟨a.toNat, by omega, by omega⟩
set_option maxRecDepth 100000 in
theorem open_opsr {H : Type} {enc : TypeId × Value → H} {W : World} {base : Nat} {v : Value} {d : DataW H} {p : List MemPlace} (hv : Value.okWide Try.prog W .any base 30 v)
    (h1 : DataW.Trod enc Try.prog W 0 (fun _ => true) true 30 v d p) : ∃ os : List Nat, (SeesO W v os ∧ ∃ a n c, v = .slice a n c ∧ n ≤ c) ∧ ∀ o ∈ os, o ≤ 255 := by
  obtain ⟨ad, len, cap, rfl⟩ := okWide_slice Try.underlying30 hv
  obtain ⟨fuel, hf⟩ := h1
  rcases open_ints Try.underlying30 Try.underlying38 (by kernel_rfl) hf with ⟨hcs, _⟩ | ⟨x, l, c, zs, hcs, _, hl, hm, hz, _, hcell, hwz⟩
  · simp [Value.cells] at hcs
    obtain ⟨rfl, rfl, rfl⟩ := hcs
    exact ⟨[], ⟨⟨none, 0, rfl, .inl rfl⟩, none, 0, 0, rfl, Nat.le_refl _⟩, by simp⟩
  · simp [Value.cells] at hcs
    obtain ⟨rfl, rfl, rfl⟩ := hcs
    have hz' : zs.length = cap := by simpa using hz
    have htl : ((zs.take len).map Int.toNat).length = len := by rw [List.length_map, List.length_take]; omega
    refine ⟨(zs.take len).map Int.toNat, ⟨⟨some x, cap, by rw [htl], ?_⟩, some x, len, cap, rfl, by omega⟩, fun o ho => ?_⟩
    · by_cases h0 : len = 0
      · left; rw [h0]; rfl
      right
      obtain ⟨b, off, spot⟩ := x
      have hc := hcell 0 (by omega)
      have hspot : spot = none := by simpa [Addr.add] using World.cell?_spot hc
      subst hspot
      refine ⟨b, off, rfl, fun j y hy => ?_⟩
      have hj : j < len := by have := (List.getElem?_eq_some_iff.1 hy).1; rw [htl] at this; exact this
      have := hcell j (by omega)
      rw [Addr.add_lit] at this
      rw [this]
      have hy2 := (List.getElem?_eq_some_iff.1 hy).2
      rw [List.getElem_map, List.getElem_take] at hy2
      have hr := in8 (hwz zs[j] (List.getElem_mem _))
      have e : ((zs[j]).toNat : Int) = zs[j] := by omega
      rw [← hy2, e]
      simp [List.getD, show j < zs.length by omega]
    · obtain ⟨z, hz1, rfl⟩ := List.mem_map.1 ho
      have hr := in8 (hwz z (List.mem_of_mem_take hz1))
      omega
theorem mailOnce_walk {w : World} (v : Value) (xs : List Msg) (hv : SeesM w v xs) (_ : ∀ x ∈ xs, x.inr) (k : Nat) (hk : k < 18446744073709551616) :
    Calls Try.prog 6 #[v, .int .u64 k] w fun e w' => e = .returned (.bool true) ∧ Below w.heap.size w w' := mailOnce_law pLive pSorted pTurned w v xs k hk hv
theorem mailPlays_walk {w : World} (v : Value) (xs : List Msg) (hv : SeesM w v xs) (_ : ∀ x ∈ xs, x.inr) (k : Nat) (hk : k < 18446744073709551616) (to : Int) (_ : In64 to) :
    Calls Try.prog 3 #[v, .int .u64 k, .int .i64 to] w fun e w' => e = .returned (.bool true) ∧ Below w.heap.size w w' := mailPlays_law pLive pSorted pTurned pFor w v xs k to hk hv
theorem mailSums_walk {w : World} (v : Value) (xs : List Msg) (hv : SeesM w v xs) (hi : ∀ x ∈ xs, x.inr) (u : Value) (os : List Nat) (hu : SeesO w u os ∧ ∃ a n c, u = .slice a n c ∧ n ≤ c) (_ : ∀ o ∈ os, o ≤ 255) (x : Int) (_ : In64 x) :
    Calls Try.prog 4 #[v, u, .int .i64 x] w fun e w' => e = .returned (.bool true) ∧ Below w.heap.size w w' :=
  mailSums_law pLive (fun w v u xs os hin hv hu hl _ => pcombined w v u xs os hin hv hu hl) pTaken w v u xs os x (fun x hx => ⟨(hi x hx).1, (hi x hx).2.1⟩) hv hu.1 hu.2
theorem mailBytes_walk {w : World} (v : Value) (xs : List Msg) (hv : SeesM w v xs) (hi : ∀ x ∈ xs, x.inr) (u : Value) (bs : List Int) (hu : ∃ (a : Option Addr) (cap : Nat), u = .slice a bs.length cap ∧ SB w a cap bs) (hb : ∀ z ∈ bs, IsB z) :
    Calls Try.prog 5 #[v, u] w fun e w' => e = .returned (.bool true) ∧ Below w.heap.size w w' := by
  obtain ⟨a, cap, rfl, hs⟩ := hu
  exact mailBytes_law pLive pEncode pDecode w v xs hv hi a cap bs hs hb
end Go.Proofs.Ytdfieflcclbgjaa
