/-
  Whether edges are the same: what SameEdges comes to where they are.
-/
import Derived.Test.YtbjoljokdjgbnaaDec
namespace Go.Proofs.Ytbjoljokdjgbnaa
open Go.RowKit Go.Deep
set_option maxHeartbeats 1000000 in
theorem sameE_walk (b off b' off' len cap cap' : Nat) (es : Edges) (w : World) (h : es.length = len) (hl : len ≤ 1000000) (hc : Lie w b off es) (hc' : Lie w b' off' es) :
    Calls Try.prog 22 #[.slice (some ⟨b, off, none⟩) len cap, .slice (some ⟨b', off', none⟩) len cap'] w fun e w' => e = .returned (.bool true) ∧ Below w.heap.size w w' := by
  have HC := hidI hc
  have HC' := hidI hc'
  have HL := hidI h
  clear hc hc' h
  go_enter Try.func22, Try.ntmps22
  go_wp2
  go_loopg [5] len (fun g s5 wx => ∃ (i : Nat), i + g = len ∧ s5 = .int .i64 i ∧ Below w.heap.size w wx)
  case atStart => exact ⟨0, by omega, rfl, Below.refl _ _⟩
  case round =>
    obtain ⟨i, hig, rfl, hb⟩ := hrel
    cases gk with
    | zero =>
      have hil : i = len := by omega
      subst hil
      go_wp2
      go_ret
      exact ⟨rfl, hb⟩
    | succ g =>
      have hlt : i < len := by omega
      obtain ⟨x, hx⟩ : ∃ x, es[i]? = some x := ⟨es[i]'(by have := HL.out; omega), List.getElem?_eq_getElem _⟩
      obtain ⟨a1, a2⟩ := HC.out i x hx
      obtain ⟨a3, a4⟩ := HC'.out i x hx
      have b1 := World.block_lt_of_cell? w _ a1
      have b3 := World.block_lt_of_cell? w _ a3
      have c1 : wr.cell? ⟨b, off + i * 2, none⟩ = some (.int .i64 x.1) := (hb.cell (p := ⟨b, off + i * 2, none⟩) b1).trans a1
      have c2 : wr.cell? ⟨b, off + i * 2 + 1, none⟩ = some (.int .i64 x.2) := (hb.cell (p := ⟨b, off + i * 2 + 1, none⟩) b1).trans a2
      have c3 : wr.cell? ⟨b', off' + i * 2, none⟩ = some (.int .i64 x.1) := (hb.cell (p := ⟨b', off' + i * 2, none⟩) b3).trans a3
      have c4 : wr.cell? ⟨b', off' + i * 2 + 1, none⟩ = some (.int .i64 x.2) := (hb.cell (p := ⟨b', off' + i * 2 + 1, none⟩) b3).trans a4
      clear a1 a2 a3 a4 b1 b3 hx
      go_wp2
      go_region
      go_wp2
      go_roundg g
      case measure => omega
      case rel => exact ⟨i + 1, by omega, by go_num, hb.drew⟩
theorem sameE_empty (a a' : Option Addr) (cap cap' : Nat) (w : World) :
    Calls Try.prog 22 #[.slice a 0 cap, .slice a' 0 cap'] w fun e w' => e = .returned (.bool true) ∧ Below w.heap.size w w' := by
  go_enter Try.func22, Try.ntmps22
  go_wp2
  refine wp_loop_rounds 1 ?_
  rw [rounds_succ]
  go_wp2
  go_ret
  exact ⟨rfl, Below.refl _ _⟩
theorem sameE_any (v u : Value) (es : Edges) (w : World) (h : SeesE w v es) (h' : SeesE w u es) (hl : es.length ≤ 1000000) :
    Calls Try.prog 22 #[v, u] w fun e w' => e = .returned (.bool true) ∧ Below w.heap.size w w' := by
  obtain ⟨a, cap, rfl, h⟩ := h
  obtain ⟨a', cap', rfl, h'⟩ := h'
  by_cases h0 : es = []
  · subst h0
    exact sameE_empty a a' cap cap' w
  · rcases h with h1 | ⟨b, off, rfl, hc⟩
    · exact absurd h1 h0
    rcases h' with h1 | ⟨b', off', rfl, hc'⟩
    · exact absurd h1 h0
    exact sameE_walk b off b' off' _ cap cap' es w rfl hl hc hc'
end Go.Proofs.Ytbjoljokdjgbnaa
