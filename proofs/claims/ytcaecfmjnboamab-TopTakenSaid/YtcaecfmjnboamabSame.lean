/-
  The calls of 'few' and 'SameInts': what they come to.
-/
import Derived.Test.YtcaecfmjnboamabLive
namespace Go.Proofs.Ytcaecfmjnboamab
open Go.RowKit Go.Deep
theorem few_long (a : Option Addr) (len cap : Nat) (w : World) (hl : len ≤ cap) (h : 80 < len) (hm : len ≤ 9223372036854775807) (ha : ∃ x, a = some x) :
    Calls Try.prog 12 #[.slice a len cap] w fun e w' => e = .returned (.slice a 80 cap) ∧ w = w' := by
  obtain ⟨x, rfl⟩ := ha
  have h1 : (80 : Int) < (len : Int) := by omega
  go_enter Try.func12, Try.ntmps12
  go_wp2
  go_ret
  exact ⟨rfl, rfl⟩
theorem few_short (a : Option Addr) (len cap : Nat) (w : World) (h : len ≤ 80) :
    Calls Try.prog 12 #[.slice a len cap] w fun e w' => e = .returned (.slice a len cap) ∧ w = w' := by
  have h1 : decide ((80 : Int) < (len : Int)) = false := by simp; omega
  go_enter Try.func12, Try.ntmps12
  go_wp2
  go_ret
  exact ⟨rfl, rfl⟩
theorem same_walk (b off b' off' len cap cap' : Nat) (zs : List Int) (w : World) (h : len ≤ 1000000)
    (hc : ∀ j, j < len → w.cell? ⟨b, off + j, none⟩ = some (.int .i64 (zs.getD j 0)))
    (hc' : ∀ j, j < len → w.cell? ⟨b', off' + j, none⟩ = some (.int .i64 (zs.getD j 0))) :
    Calls Try.prog 15 #[.slice (some ⟨b, off, none⟩) len cap, .slice (some ⟨b', off', none⟩) len cap'] w fun e w' => e = .returned (.bool true) ∧ Below w.heap.size w w' := by
  have hb1 : 0 < len → b < w.heap.size := fun h0 => World.block_lt_of_cell? w _ (hc 0 h0)
  have hb2 : 0 < len → b' < w.heap.size := fun h0 => World.block_lt_of_cell? w _ (hc' 0 h0)
  have HC : Hid _ := hc
  have HC' : Hid _ := hc'
  clear hc hc'
  go_enter Try.func15, Try.ntmps15
  go_wp2
  go_loopg [5] len (fun g s5 wx => ∃ (i : Nat), i + g = len ∧ s5 = .int .i64 i ∧ Below w.heap.size w wx)
  case atStart => exact ⟨0, by omega, rfl, Below.refl _ _⟩
  case round =>
    obtain ⟨i, hig, rfl, hb⟩ := hrel
    cases gk with
    | zero =>
      have hil : i = len := by omega
      subst hil
      go_wp2
      go_ret
      exact ⟨rfl, hb⟩
    | succ g =>
      have hlt : i < len := by omega
      have hx : wr.cell? ⟨b, off + i, none⟩ = some (.int .i64 (zs.getD i 0)) := (hb.cell (p := ⟨b, off + i, none⟩) (hb1 (by omega))).trans (HC.out i hlt)
      have hy : wr.cell? ⟨b', off' + i, none⟩ = some (.int .i64 (zs.getD i 0)) := (hb.cell (p := ⟨b', off' + i, none⟩) (hb2 (by omega))).trans (HC'.out i hlt)
      go_wp2
      go_region
      go_wp2
      go_roundg g
      case measure => omega
      case rel => exact ⟨i + 1, by omega, by go_num, hb.drew⟩
theorem same_empty (a a' : Option Addr) (cap cap' : Nat) (w : World) :
    Calls Try.prog 15 #[.slice a 0 cap, .slice a' 0 cap'] w fun e w' => e = .returned (.bool true) ∧ Below w.heap.size w w' := by
  go_enter Try.func15, Try.ntmps15
  go_wp2
  refine wp_loop_rounds 1 ?_
  rw [rounds_succ]
  go_wp2
  go_ret
  exact ⟨rfl, Below.refl _ _⟩
theorem same_any (v u : Value) (zs : List Int) (w : World) (h : Sees w v zs) (h' : Sees w u zs) (hl : zs.length ≤ 1000000) :
    Calls Try.prog 15 #[v, u] w fun e w' => e = .returned (.bool true) ∧ Below w.heap.size w w' := by
  obtain ⟨a, cap, rfl, _, h⟩ := h
  obtain ⟨a', cap', rfl, _, h'⟩ := h'
  by_cases h0 : zs = []
  · subst h0
    exact same_empty a a' cap cap' w
  · rcases h with h1 | ⟨b, off, rfl, hc⟩
    · exact absurd h1 h0
    rcases h' with h1 | ⟨b', off', rfl, hc'⟩
    · exact absurd h1 h0
    exact same_walk b off b' off' zs.length cap cap' zs w hl hc hc'
/-- An argument that reads as the numbers zs. -/
def Arg (w : World) (v : Value) (zs : List Int) : Prop := Sees w v zs ∧ ∃ a len cap, v = .slice a len cap ∧ len ≤ cap
theorem few_any (v : Value) (zs : List Int) (w : World) (h : Arg w v zs) :
    Calls Try.prog 12 #[v] w fun e w' => ∃ u, e = .returned u ∧ Sees w u (zs.take 80) ∧ w = w' := by
  obtain ⟨⟨a, cap, rfl, hm, hs⟩, a', len', cap', he, hlc⟩ := h
  cases he
  by_cases hl : zs.length ≤ 80
  · refine (few_short a zs.length cap w hl).mono ?_
    rintro e w' ⟨rfl, rfl⟩
    rw [List.take_of_length_le hl]
    exact ⟨_, rfl, ⟨a, cap, rfl, hm, hs⟩, rfl⟩
  · rcases hs with h1 | ⟨b, off, rfl, hc⟩
    · subst h1; simp at hl
    refine (few_long _ zs.length cap w hlc (by omega) hm ⟨_, rfl⟩).mono ?_
    rintro e w' ⟨rfl, rfl⟩
    have e80 : (zs.take 80).length = 80 := by rw [List.length_take]; omega
    refine ⟨_, rfl, ⟨some ⟨b, off, none⟩, cap, by rw [e80], by omega, .inr ⟨b, off, rfl, fun j hj => ?_⟩⟩, rfl⟩
    rw [e80] at hj
    rw [hc j (by omega)]
    simp [List.getD, hj]
end Go.Proofs.Ytcaecfmjnboamab
