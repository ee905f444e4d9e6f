/-
  What must be whatever is asked: the laws' 'live'; how many nodes and edges there are; at most so many edges.
-/
import Derived.Test.YtbjoljokdjgbnabLevels
namespace Go.Proofs.Ytbjoljokdjgbnab
open Go.RowKit Go.Deep
theorem n_any (gp : Option Addr) (n : Int) (es : Edges) (w : World) (hg : IsG w gp n es) : Calls Try.prog 12 #[.pointer gp] w fun e w' => e = .returned (.int .i64 n) ∧ w = w' := by
  rcases hg with ⟨rfl, rfl, _⟩ | ⟨gb, v, mb, base, rfl, h1, h2, h3, hgd, c0, c1, hse, c2, hm⟩
  · go_enter Try.func12, Try.ntmps12
    go_wp2
    go_ret
    exact ⟨rfl, rfl⟩
  · clear hm hse hgd
    go_enter Try.func12, Try.ntmps12
    go_wp2
    go_ret
    exact ⟨rfl, rfl⟩
theorem m_any (gp : Option Addr) (n : Int) (es : Edges) (w : World) (hg : IsG w gp n es) : Calls Try.prog 36 #[.pointer gp] w fun e w' => e = .returned (.int .i64 es.length) ∧ w = w' := by
  rcases hg with ⟨rfl, rfl, rfl⟩ | ⟨gb, v, mb, base, rfl, h1, h2, h3, hgd, c0, c1, hse, c2, hm⟩
  · go_enter Try.func36, Try.ntmps36
    go_wp2
    go_ret
    exact ⟨rfl, rfl⟩
  · obtain ⟨a, cap, rfl, _⟩ := hse
    clear hm hgd
    go_enter Try.func36, Try.ntmps36
    go_wp2
    go_ret
    exact ⟨rfl, rfl⟩
theorem levels_nil (root : Int) (w : World) : Calls Try.prog 13 #[.pointer none, .int .i64 root] w fun e w' => e = .returned (.slice none 0 0) ∧ w = w' := by
  go_enter Try.func13, Try.ntmps13
  go_wp2
  go_ret
  exact ⟨rfl, rfl⟩
theorem levels_any (gp : Option Addr) (N : Nat) (root : Int) (es : Edges) (w : World) (hg : IsG w gp (N : Int) es) (hroot : -9223372036854775808 ≤ root ∧ root ≤ 9223372036854775807) :
    Calls Try.prog 13 #[.pointer gp, .int .i64 root] w fun e w' => ∃ u, e = .returned u ∧ Sees w' u (levels N es root) ∧ Below w.heap.size w w' := by
  cases gp with
  | none =>
    rcases hg with ⟨_, h0, rfl⟩ | ⟨_, _, _, _, h, _⟩
    · obtain rfl : N = 0 := by omega
      refine (levels_nil root w).mono ?_
      rintro e w' ⟨rfl, rfl⟩
      refine ⟨_, rfl, ⟨none, 0, ?_, .inl ?_⟩, Below.refl _ _⟩
      · unfold levels; split <;> simp
      · unfold levels; split <;> simp
    · cases h
  | some p =>
    rcases hg with ⟨h, _⟩ | ⟨gb, v, mb, base, h, hr⟩
    · cases h
    · cases h
      exact levels_walk gb N root es w (.inr ⟨gb, v, mb, base, rfl, hr⟩) hroot
theorem few_long (x : Addr) (len cap : Nat) (w : World) (hl : len ≤ cap) (h : 32 < len) (hm : len ≤ 9223372036854775807) :
    Calls Try.prog 9 #[.slice (some x) len cap] w fun e w' => e = .returned (.slice (some x) 32 cap) ∧ w = w' := by
  have h1 : (32 : Int) < (len : Int) := by omega
  go_enter Try.func9, Try.ntmps9
  go_wp2
  go_ret
  exact ⟨rfl, rfl⟩
theorem few_short (a : Option Addr) (len cap : Nat) (w : World) (h : len ≤ 32) :
    Calls Try.prog 9 #[.slice a len cap] w fun e w' => e = .returned (.slice a len cap) ∧ w = w' := by
  have h1 : decide ((32 : Int) < (len : Int)) = false := by simp; omega
  go_enter Try.func9, Try.ntmps9
  go_wp2
  go_ret
  exact ⟨rfl, rfl⟩
/-- An argument that reads as the edges es. -/
def ArgE (w : World) (v : Value) (es : Edges) : Prop := SeesE w v es ∧ ∃ a len cap, v = .slice a len cap ∧ len ≤ cap ∧ cap ≤ 9223372036854775807
theorem few_any (v : Value) (es : Edges) (w : World) (h : ArgE w v es) :
    Calls Try.prog 9 #[v] w fun e w' => ∃ u, e = .returned u ∧ SeesE w u (es.take 32) ∧ w = w' := by
  obtain ⟨⟨a, cap, rfl, hs⟩, a', len', cap', he, hlc, hcm⟩ := h
  cases he
  by_cases hl : es.length ≤ 32
  · refine (few_short a es.length cap w hl).mono ?_
    rintro e w' ⟨rfl, rfl⟩
    rw [List.take_of_length_le hl]
    exact ⟨_, rfl, ⟨a, cap, rfl, hs⟩, rfl⟩
  · rcases hs with h1 | ⟨b, off, rfl, hc⟩
    · subst h1; simp at hl
    refine (few_long _ es.length cap w hlc (by omega) (by omega)).mono ?_
    rintro e w' ⟨rfl, rfl⟩
    have e32 : (es.take 32).length = 32 := by rw [List.length_take]; omega
    refine ⟨_, rfl, ⟨some ⟨b, off, none⟩, cap, by rw [e32], .inr ⟨b, off, rfl, fun j x hx => hc j x ?_⟩⟩, rfl⟩
    rw [List.getElem?_take] at hx
    split at hx
    · exact hx
    · cases hx
theorem sees3 (w : World) : SeesE (w.alloc (.cells #[.int .i64 0, .int .i64 1, .int .i64 0, .int .i64 1, .int .i64 1, .int .i64 2] 34)) (.slice (some ⟨w.heap.size, 0, none⟩) 3 3) [(0, 1), (0, 1), (1, 2)] := by
  refine ⟨_, 3, rfl, .inr ⟨w.heap.size, 0, rfl, fun j x hx => ?_⟩⟩
  have hn := World.alloc_heap_new w (.cells #[.int .i64 0, .int .i64 1, .int .i64 0, .int .i64 1, .int .i64 1, .int .i64 2] 34)
  match j, hx with
  | 0, hx => cases hx; constructor <;> (unfold World.cell?; rw [hn]; rfl)
  | 1, hx => cases hx; constructor <;> (unfold World.cell?; rw [hn]; rfl)
  | 2, hx => cases hx; constructor <;> (unfold World.cell?; rw [hn]; rfl)
theorem sees2 (w : World) : SeesE (w.alloc (.cells #[.int .i64 0, .int .i64 1, .int .i64 2, .int .i64 0] 34)) (.slice (some ⟨w.heap.size, 0, none⟩) 2 2) [(0, 1), (2, 0)] := by
  refine ⟨_, 2, rfl, .inr ⟨w.heap.size, 0, rfl, fun j x hx => ?_⟩⟩
  have hn := World.alloc_heap_new w (.cells #[.int .i64 0, .int .i64 1, .int .i64 2, .int .i64 0] 34)
  match j, hx with
  | 0, hx => cases hx; constructor <;> (unfold World.cell?; rw [hn]; rfl)
  | 1, hx => cases hx; constructor <;> (unfold World.cell?; rw [hn]; rfl)
theorem levels3 : levels 3 [(0, 1), (0, 1), (1, 2)] 0 = [0, 1, 2] := by decide
theorem check2 : check 2 [(0, 1), (2, 0)] = (1, 11) := by decide
theorem places3 : places [(0, 1), (0, 1), (1, 2)] 0 false = [0, 1] := by decide
set_option maxRecDepth 100000 in
set_option maxHeartbeats 4000000 in
theorem live_any (w : World) : Calls Try.prog 11 #[] w fun e w' => e = .returned (.bool true) ∧ Below w.heap.size w w' := by
  have C1 : Hid _ := new_ok 3 (.slice (some ⟨w.heap.size, 0, none⟩) 3 3) [(0, 1), (0, 1), (1, 2)] _ (sees3 w) (by decide) (by decide) (by decide) (by decide)
  go_enter Try.func11, Try.ntmps11
  go_wp2_with (go_at_call 10; refine Calls.mono C1.out ?_; rintro e w1 ⟨gb, rfl, hg1, hb1⟩; refine Hid.out ?_)
  refine hidI ?_
  have B1 : Below w.heap.size w w1 := ((Below.refl _ w).alloc (Nat.le_refl _) _).trans (hb1.mono (by simp))
  clear C1 hb1
  have C2 : Hid _ := levels_any _ 3 0 _ w1 hg1 (by decide)
  have G1 := hidI hg1
  have HB1 := hidI B1
  clear hg1 B1
  go_wp2_with (go_at_call 13; refine Calls.mono C2.out ?_; rintro e w2 ⟨u, rfl, hu, hb2⟩; refine Hid.out ?_)
  refine hidI ?_
  have B2 : Below w.heap.size w w2 := HB1.out.trans (hb2.mono HB1.out.size)
  have hg2 := G1.out.below hb2 (Nat.le_refl _)
  rw [levels3] at hu
  have hu3 := hu.below ((Below.refl _ w2).alloc (Nat.le_refl _) (.cells #[.int .i64 0, .int .i64 1, .int .i64 2, .int .i64 0] 34)) (Nat.le_refl _)
  clear C2 G1 HB1 hb2
  have C3 : Hid _ := check_any 2 (.slice (some ⟨w2.heap.size, 0, none⟩) 2 2) [(0, 1), (2, 0)] _ (sees2 w2)
  rw [check2] at C3
  obtain ⟨ua, ucap, rfl, huc⟩ := hu
  have G2 := hidI hg2
  have HB2 := hidI B2
  have HU3 := hidI hu3
  have hcx := hidI huc
  clear hg2 B2 hu3 huc
  go_wp2_with (go_at_call 33; refine Calls.mono C3.out ?_; rintro e w3 ⟨rfl, hb3⟩; refine Hid.out ?_)
  refine hidI ?_
  have b23 : Below w2.heap.size w2 w3 := ((Below.refl _ w2).alloc (Nat.le_refl _) _).trans (hb3.mono (by simp))
  have B3 : Below w.heap.size w w3 := HB2.out.trans (b23.mono HB2.out.size)
  have hg3 := G2.out.below b23 (Nat.le_refl _)
  have hu4 := HU3.out.below hb3 (Nat.le_refl _)
  clear C3 G2 HB2 HU3 hb3 b23
  have CN : Hid _ := n_any _ _ _ w3 hg3
  have CM : Hid _ := m_any _ _ _ w3 hg3
  have CO : Hid _ := out_any _ 0 _ (by decide) w3 hg3.walks
  rw [places3] at CO
  have HB3 := hidI B3
  clear hg3 B3
  obtain ⟨ua', ucap', he, hc⟩ := hu4
  cases he
  rcases hc with hc | ⟨ub, uo, rfl, hc⟩
  · cases hc
  have c2 := hc 2 (by decide)
  have c2' : Hid _ := c2
  have cbl := World.block_lt_of_cell? w3 _ c2
  clear hc c2 hcx
  go_wp2_with (first | (go_at_call 12; refine Calls.mono CN.out ?_; rintro e w' ⟨rfl, rfl⟩) | (go_at_call 36; refine Calls.mono CM.out ?_; rintro e w' ⟨rfl, rfl⟩) | (go_at_call 37; refine Calls.mono CO.out ?_; rintro e w4 ⟨o, rfl, ho, hb4⟩; refine Hid.out ?_))
  refine hidI ?_
  obtain ⟨oa, ocap, rfl, _⟩ := ho
  have c4 : w4.cell? ⟨ub, uo + 2, none⟩ = some (.int .i64 2) := (hb4.cell (p := ⟨ub, uo + 2, none⟩) cbl).trans c2'.out
  have B4 := hidI (HB3.out.trans (hb4.mono HB3.out.size))
  clear hb4 CN CM CO HB3 c2'
  go_wp2
  go_ret
  exact ⟨rfl, B4.out⟩
end Go.Proofs.Ytbjoljokdjgbnab
