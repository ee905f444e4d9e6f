/-
  The calls of 'few' and 'SameInts': what they come to.
-/
import Derived.Test.YtjlnnpcaeikolaaQFrom
namespace Go.Proofs.Ytjlnnpcaeikolaa.Perm
open Go.RowKit Go.Deep
theorem same_walk (b off b' off' len cap cap' : Nat) (zs : List Int) (w : World) (h : len ≤ 1000000)
    (hc : ∀ j, j < len → w.cell? ⟨b, off + j, none⟩ = some (.int .i64 (zs.getD j 0)))
    (hc' : ∀ j, j < len → w.cell? ⟨b', off' + j, none⟩ = some (.int .i64 (zs.getD j 0))) :
    Calls Try.prog 13 #[.slice (some ⟨b, off, none⟩) len cap, .slice (some ⟨b', off', none⟩) len cap'] w fun e w' => e = .returned (.bool true) ∧ Below w.heap.size w w' := by
  have hb1 : 0 < len → b < w.heap.size := fun h0 => World.block_lt_of_cell? w _ (hc 0 h0)
  have hb2 : 0 < len → b' < w.heap.size := fun h0 => World.block_lt_of_cell? w _ (hc' 0 h0)
  have HC : Hid _ := hc
  have HC' : Hid _ := hc'
  clear hc hc'
  go_enter Try.func13, Try.ntmps13
  go_wp2
  go_loopg [5] len (fun g s5 wx => ∃ (i : Nat), i + g = len ∧ s5 = .int .i64 i ∧ Below w.heap.size w wx)
  case atStart => exact ⟨0, by omega, rfl, Below.refl _ _⟩
  case round =>
    obtain ⟨i, hig, rfl, hb⟩ := hrel
    cases gk with
    | zero =>
      have hil : i = len := by omega
      subst hil
      go_wp2
      go_ret
      exact ⟨rfl, hb⟩
    | succ g =>
      have hlt : i < len := by omega
      have hx : wr.cell? ⟨b, off + i, none⟩ = some (.int .i64 (zs.getD i 0)) := (hb.cell (p := ⟨b, off + i, none⟩) (hb1 (by omega))).trans (HC.out i hlt)
      have hy : wr.cell? ⟨b', off' + i, none⟩ = some (.int .i64 (zs.getD i 0)) := (hb.cell (p := ⟨b', off' + i, none⟩) (hb2 (by omega))).trans (HC'.out i hlt)
      go_wp2
      go_region
      go_wp2
      go_roundg g
      case measure => omega
      case rel => exact ⟨i + 1, by omega, by go_num, hb.drew⟩
theorem same_empty (a a' : Option Addr) (cap cap' : Nat) (w : World) :
    Calls Try.prog 13 #[.slice a 0 cap, .slice a' 0 cap'] w fun e w' => e = .returned (.bool true) ∧ Below w.heap.size w w' := by
  go_enter Try.func13, Try.ntmps13
  go_wp2
  refine wp_loop_rounds 1 ?_
  rw [rounds_succ]
  go_wp2
  go_ret
  exact ⟨rfl, Below.refl _ _⟩
theorem same_any (v u : Value) (zs : List Int) (w : World) (h : Sees w v zs) (h' : Sees w u zs) (hl : zs.length ≤ 1000000) :
    Calls Try.prog 13 #[v, u] w fun e w' => e = .returned (.bool true) ∧ Below w.heap.size w w' := by
  obtain ⟨a, cap, rfl, _, h⟩ := h
  obtain ⟨a', cap', rfl, _, h'⟩ := h'
  by_cases h0 : zs = []
  · subst h0
    exact same_empty a a' cap cap' w
  · rcases h with h1 | ⟨b, off, rfl, hc⟩
    · exact absurd h1 h0
    rcases h' with h1 | ⟨b', off', rfl, hc'⟩
    · exact absurd h1 h0
    exact same_walk b off b' off' zs.length cap cap' zs w hl hc hc'
end Go.Proofs.Ytjlnnpcaeikolaa.Perm
