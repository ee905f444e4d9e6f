/-
  SameKeys and SameWords, of equal lists.
-/
import Derived.Test.YtbjoljokdjgbnabKeysRM
namespace Go.Proofs.Ytbjoljokdjgbnab
open Go.RowKit Go.Deep Go.MapKept
set_option maxRecDepth 100000 in
set_option maxHeartbeats 1000000 in
theorem sameKeys_any {w : World} {u v : Value} {ks : List Ky} (hu : SeesK w u ks) (hv : SeesK w v ks) (hl : ks.length ≤ 1000) :
    Calls Try.prog 45 #[u, v] w fun e w' => e = .returned (.bool true) ∧ Below w.heap.size w w' := by
  obtain ⟨a, ac, rfl, hA⟩ := hu
  obtain ⟨b, bc, rfl, hB⟩ := hv
  have HA := hidI hA
  have HB := hidI hB
  obtain ⟨k, hk⟩ : ∃ k, ks.length = k := ⟨_, rfl⟩
  have HK := hidI hk
  rw [hk] at hl ⊢
  clear hA hB hk
  have hgt : Try.prog.eqGuardType Try.prog.depth 40 = false := by kernel_rfl
  go_enter Try.func45, Try.ntmps45
  go_wp2
  go_loopg [5] k (fun g s5 wx => ∃ i : Nat, i + g = k ∧ s5 = .int .i64 i ∧ Hid (Below w.heap.size w wx))
  case atStart => exact ⟨0, by omega, rfl, hidI (Below.refl _ _)⟩
  case round =>
    obtain ⟨i, hig, rfl, HX⟩ := hrel
    cases gk with
    | zero =>
      obtain rfl : k = i := by omega
      have k1 : decide ((k : Int) < (k : Int)) = false := by simp
      go_wp2
      go_ret
      exact ⟨rfl, HX.out⟩
    | succ g =>
      have k1 : (i : Int) < (k : Int) := by omega
      obtain ⟨⟨s, d⟩, hs⟩ : ∃ x, ks[i]? = some x := ⟨_, List.getElem?_eq_getElem (by have := HK.out; omega)⟩
      have kk : ∀ {p : Addr} {v : Value}, w.cell? p = some v → wr.cell? p = some v := fun {p v} hc => (HX.out.cell (World.block_lt_of_cell? w _ hc)).trans hc
      rcases HA.out with hnil | ⟨ab, ao, rfl, hA⟩
      · subst hnil; simp at hs
      rcases HB.out with hnil | ⟨bb, bo, rfl, hB⟩
      · subst hnil; simp at hs
      obtain ⟨e0, e1⟩ := hA i _ hs
      obtain ⟨f0, f1⟩ := hB i _ hs
      replace e0 := kk e0
      replace e1 := kk e1
      replace f0 := kk f0
      replace f1 := kk f1
      simp only at e0 e1 f0 f1
      clear hA hB kk hs
      go_wp2
      go_region
      all_goals
        go_wp2
        go_roundg g
        case measure => omega
        case rel => exact ⟨i + 1, by omega, by go_num, hidI (by have := HX.out; (repeat (first | exact Below.refl _ _ | assumption | refine Below.drew ?_)))⟩
set_option maxRecDepth 100000 in
set_option maxHeartbeats 1000000 in
theorem sameWords_any {w : World} {u v : Value} {zs : List Int} (hu : Sees w u zs) (hv : Sees w v zs) (hl : zs.length ≤ 100000) :
    Calls Try.prog 46 #[u, v] w fun e w' => e = .returned (.bool true) ∧ Below w.heap.size w w' := by
  obtain ⟨a, ac, rfl, hA⟩ := hu
  obtain ⟨b, bc, rfl, hB⟩ := hv
  have HA := hidI hA
  have HB := hidI hB
  obtain ⟨k, hk⟩ : ∃ k, zs.length = k := ⟨_, rfl⟩
  have HK := hidI hk
  rw [hk] at hl ⊢
  clear hA hB hk
  go_enter Try.func46, Try.ntmps46
  go_wp2
  go_loopg [5] k (fun g s5 wx => ∃ i : Nat, i + g = k ∧ s5 = .int .i64 i ∧ Hid (Below w.heap.size w wx))
  case atStart => exact ⟨0, by omega, rfl, hidI (Below.refl _ _)⟩
  case round =>
    obtain ⟨i, hig, rfl, HX⟩ := hrel
    cases gk with
    | zero =>
      obtain rfl : k = i := by omega
      have k1 : decide ((k : Int) < (k : Int)) = false := by simp
      go_wp2
      go_ret
      exact ⟨rfl, HX.out⟩
    | succ g =>
      have k1 : (i : Int) < (k : Int) := by omega
      have hik : i < zs.length := by have := HK.out; omega
      have kk : ∀ {p : Addr} {v : Value}, w.cell? p = some v → wr.cell? p = some v := fun {p v} hc => (HX.out.cell (World.block_lt_of_cell? w _ hc)).trans hc
      rcases HA.out with hnil | ⟨ab, ao, rfl, hA⟩
      · subst hnil; simp at hik
      rcases HB.out with hnil | ⟨bb, bo, rfl, hB⟩
      · subst hnil; simp at hik
      have e0 := kk (hA i hik)
      have f0 := kk (hB i hik)
      clear hA hB kk
      go_wp2
      go_region
      all_goals
        go_wp2
        go_roundg g
        case measure => omega
        case rel => exact ⟨i + 1, by omega, by go_num, hidI (by have := HX.out; (repeat (first | exact Below.refl _ _ | assumption | refine Below.drew ?_)))⟩
end Go.Proofs.Ytbjoljokdjgbnab
