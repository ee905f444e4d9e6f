/-
  The call of 'SameRows' over the same rows: what it comes to.
-/
import Derived.Test.YtcaecfmjnboamabSame
namespace Go.Proofs.Ytcaecfmjnboamab
open Go.RowKit Go.Deep
/-- The value v reads as the rows ls in the world w; none is empty. -/
def SeesRows (w : World) (v : Value) (ls : List (List Int)) : Prop :=
  ∃ (a : Option Addr) (cap : Nat), v = .slice a ls.length cap ∧ (ls = [] ∨ ∃ g, a = some ⟨g, 0, none⟩ ∧ ∀ (t : Nat) (l : List Int), ls[t]? = some l → ∃ b off c, w.cell? ⟨g, t, none⟩ = some (.slice (some ⟨b, off, none⟩) l.length c) ∧ 0 < l.length ∧ ∀ j, j < l.length → w.cell? ⟨b, off + j, none⟩ = some (.int .i64 (l.getD j 0)))
theorem SeesRows.below {w w' : World} {v : Value} {ls : List (List Int)} {B : Nat} (h : SeesRows w v ls) (hb : Below B w w') (hB : w.heap.size ≤ B) : SeesRows w' v ls := by
  obtain ⟨a, cap, rfl, h⟩ := h
  refine ⟨a, cap, rfl, ?_⟩
  rcases h with h | ⟨g, rfl, hc⟩
  · exact .inl h
  · refine .inr ⟨g, rfl, fun t l hl => ?_⟩
    obtain ⟨b, off, c, h1, h2, h3⟩ := hc t l hl
    refine ⟨b, off, c, ?_, h2, fun j hj => ?_⟩
    · have := World.block_lt_of_cell? w _ h1
      exact (hb.cell (p := ⟨g, t, none⟩) (Nat.lt_of_lt_of_le this hB)).trans h1
    · have := World.block_lt_of_cell? w _ (h3 j hj)
      exact (hb.cell (p := ⟨b, off + j, none⟩) (Nat.lt_of_lt_of_le this hB)).trans (h3 j hj)
theorem add_at (g j : Nat) : (⟨g, 0, none⟩ : Addr).add j = ⟨g, j, none⟩ := by unfold Addr.add; split <;> simp_all
theorem RowsOut.sees {w w' : World} {v : Value} {ls : List (List Int)} (h : RowsOut w w' v ls) : SeesRows w' v ls := by
  obtain ⟨vs, ho, hr⟩ := h
  rcases Joins.ownsRow_forms ho with ⟨rfl, h0⟩ | ⟨g, cap, rfl⟩
  · have : ls = [] := List.eq_nil_of_length_eq_zero h0
    subst this
    exact ⟨none, 0, rfl, .inl rfl⟩
  · refine ⟨_, cap, rfl, .inr ⟨g, rfl, fun t l hl => ?_⟩⟩
    have ht : t < ls.length := (List.getElem?_eq_some_iff.1 hl).1
    have hv : t < vs.length := by rw [hr.1]; exact ht
    have hh := hr.2 t vs[t] l (List.getElem?_eq_getElem hv) hl
    have hp : 0 < l.length := List.length_pos_iff.2 hh.1
    obtain ⟨b, c, hf⟩ := Joins.ownsRow_form hh.2 hp
    refine ⟨b, 0, c, ?_, hp, fun j hj => ?_⟩
    · rw [← add_at, ← hf]
      exact World.ownsRow.cells ho rfl t _ (List.getElem?_eq_getElem hv)
    · rw [Nat.zero_add, ← add_at]
      exact World.ownsRow.cells hh.2 (by rw [hf]; rfl) j _ (by simp [List.getD, hj])
theorem sameRows_empty (a a' : Option Addr) (cap cap' : Nat) (w : World) :
    Calls Try.prog 26 #[.slice a 0 cap, .slice a' 0 cap'] w fun e w' => e = .returned (.bool true) ∧ Below w.heap.size w w' := by
  go_enter Try.func26, Try.ntmps26
  go_wp2
  refine wp_loop_rounds 1 ?_
  rw [rounds_succ]
  go_wp2
  go_ret
  exact ⟨rfl, Below.refl _ _⟩
set_option maxHeartbeats 2000000 in
theorem sameRows_walk (g g' n cap cap' : Nat) (ls : List (List Int)) (w : World) (hn : ls.length = n) (h80 : n ≤ 1000) (hl80 : ∀ l ∈ ls, l.length ≤ 1000) (hg : g < w.heap.size) (hg' : g' < w.heap.size)
    (hc : ∀ (t : Nat) (l : List Int), ls[t]? = some l → ∃ b off c, w.cell? ⟨g, t, none⟩ = some (.slice (some ⟨b, off, none⟩) l.length c) ∧ 0 < l.length ∧ ∀ j, j < l.length → w.cell? ⟨b, off + j, none⟩ = some (.int .i64 (l.getD j 0)))
    (hc' : ∀ (t : Nat) (l : List Int), ls[t]? = some l → ∃ b off c, w.cell? ⟨g', t, none⟩ = some (.slice (some ⟨b, off, none⟩) l.length c) ∧ 0 < l.length ∧ ∀ j, j < l.length → w.cell? ⟨b, off + j, none⟩ = some (.int .i64 (l.getD j 0))) :
    Calls Try.prog 26 #[.slice (some ⟨g, 0, none⟩) n cap, .slice (some ⟨g', 0, none⟩) n cap'] w fun e w' => e = .returned (.bool true) ∧ Below w.heap.size w w' := by
  have HC : Hid _ := hc
  have HC' : Hid _ := hc'
  have HL : Hid _ := hl80
  clear hc hc' hl80
  go_enter Try.func26, Try.ntmps26
  go_wp2
  go_loopg [5] n (fun k s5 wx => ∃ (i : Nat), i + k = n ∧ s5 = .int .i64 i ∧ Below w.heap.size w wx)
  case atStart => exact ⟨0, by omega, rfl, Below.refl _ _⟩
  case round =>
    obtain ⟨i, hig, rfl, hb⟩ := hrel
    cases gk with
    | zero =>
      have hil : i = n := by omega
      subst hil
      go_wp2
      go_ret
      exact ⟨rfl, hb⟩
    | succ k =>
      have hlt : (i : Int) < (n : Int) := by omega
      have hil : i < ls.length := by omega
      obtain ⟨l, hl⟩ : ∃ l, ls[i]? = some l := ⟨ls[i], List.getElem?_eq_getElem hil⟩
      have hl80 := HL.out l (List.mem_of_getElem? hl)
      obtain ⟨b, off, c, h1, hpos, h3⟩ := HC.out i l hl
      obtain ⟨b', off', c', h1', _, h3'⟩ := HC'.out i l hl
      have hr1 : wr.cell? ⟨g, i, none⟩ = some (.slice (some ⟨b, off, none⟩) l.length c) := (hb.cell (p := ⟨g, i, none⟩) hg).trans h1
      have hr2 : wr.cell? ⟨g', i, none⟩ = some (.slice (some ⟨b', off', none⟩) l.length c') := (hb.cell (p := ⟨g', i, none⟩) hg').trans h1'
      have hbl : b < w.heap.size := World.block_lt_of_cell? w _ (h3 0 hpos)
      have hbl' : b' < w.heap.size := World.block_lt_of_cell? w _ (h3' 0 hpos)
      have H3 : Hid _ := h3
      have H3' : Hid _ := h3'
      have H1 : Hid _ := h1
      have H1' : Hid _ := h1'
      clear h1 h1' h3 h3' hl
      obtain ⟨m, hm⟩ : ∃ m, l.length = m := ⟨_, rfl⟩
      rw [hm] at hr1 hr2 hpos hl80 H3 H3' H1 H1'
      clear hm
      go_wp2
      go_region
      go_wp2
      go_loopg [6] m (fun k2 s6 wy => ∃ (j : Nat), j + k2 = m ∧ s6 = .int .i64 j ∧ Below w.heap.size w wy)
      case atStart => exact ⟨0, by omega, rfl, hb.drew⟩
      case round =>
        clear hr1 hr2 hb
        obtain ⟨j, hjg, rfl, hb⟩ := hrel
        have hr1 : wr.cell? ⟨g, i, none⟩ = some (.slice (some ⟨b, off, none⟩) m c) := (hb.cell (p := ⟨g, i, none⟩) hg).trans H1.out
        have hr2 : wr.cell? ⟨g', i, none⟩ = some (.slice (some ⟨b', off', none⟩) m c') := (hb.cell (p := ⟨g', i, none⟩) hg').trans H1'.out
        cases gk with
        | zero =>
          have hjm : j = m := by omega
          subst hjm
          go_wp2
          go_roundg k
          case measure => omega
          case rel => exact ⟨i + 1, by omega, by go_num, hb⟩
        | succ k2 =>
          have hjl : (j : Int) < (m : Int) := by omega
          have hx : wr.cell? ⟨b, off + j, none⟩ = some (.int .i64 (l.getD j 0)) := (hb.cell (p := ⟨b, off + j, none⟩) hbl).trans (H3.out j (by omega))
          have hy : wr.cell? ⟨b', off' + j, none⟩ = some (.int .i64 (l.getD j 0)) := (hb.cell (p := ⟨b', off' + j, none⟩) hbl').trans (H3'.out j (by omega))
          obtain ⟨z, hz⟩ : ∃ z, l.getD j 0 = z := ⟨_, rfl⟩
          rw [hz] at hx hy
          clear hz
          go_wp2
          go_region
          go_wp2
          go_roundg k2
          case measure => omega
          case rel => exact ⟨j + 1, by omega, by go_num, hb.drew⟩
theorem sameRows_any (v u : Value) (ls : List (List Int)) (w : World) (hv : SeesRows w v ls) (hu : SeesRows w u ls) (h80 : ls.length ≤ 1000) (hl80 : ∀ l ∈ ls, l.length ≤ 1000) :
    Calls Try.prog 26 #[v, u] w fun e w' => e = .returned (.bool true) ∧ Below w.heap.size w w' := by
  obtain ⟨a, cap, rfl, h⟩ := hv
  obtain ⟨a', cap', rfl, h'⟩ := hu
  by_cases h0 : ls = []
  · subst h0
    exact sameRows_empty a a' cap cap' w
  · rcases h with h1 | ⟨g, rfl, hc⟩
    · exact absurd h1 h0
    rcases h' with h1 | ⟨g', rfl, hc'⟩
    · exact absurd h1 h0
    have hpos : 0 < ls.length := List.length_pos_iff.2 h0
    obtain ⟨_, _, _, h1, _⟩ := hc 0 ls[0] (List.getElem?_eq_getElem hpos)
    obtain ⟨_, _, _, h2, _⟩ := hc' 0 ls[0] (List.getElem?_eq_getElem hpos)
    exact sameRows_walk g g' ls.length cap cap' ls w rfl h80 hl80 (World.block_lt_of_cell? w _ h1) (World.block_lt_of_cell? w _ h2) hc hc'
end Go.Proofs.Ytcaecfmjnboamab
