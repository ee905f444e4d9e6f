/-
  ColumnPlays, walked.
-/
import Derived.Test.YtbjoljokdjgbnabSameTM
import Derived.Test.YtbjoljokdjgbnabGG
namespace Go.Proofs.Ytbjoljokdjgbnab
open Go.RowKit Go.Deep Go.MapKept
theorem Deed.ok.more {w w' : World} {x : Deed} (h : x.ok w.heap.size w) (hb : Below w.heap.size w w') : x.ok w'.heap.size w' := ⟨h.1, h.2.1, h.2.2.1, h.2.2.2.1, fun u hu => h.2.2.2.2 u (hb.trans (hu.mono hb.size))⟩
theorem SeesD.below {w w' : World} {v : Value} {xs : List Deed} (h : SeesD w v xs) (hb : Below w.heap.size w w') : SeesD w' v xs := by
  obtain ⟨a, cap, rfl, h⟩ := h
  refine ⟨a, cap, rfl, h.imp_right ?_⟩
  rintro ⟨b, off, rfl, hl⟩
  refine ⟨b, off, rfl, fun j x hx => ?_⟩
  have z : ∀ {p : Addr} {v : Value}, w.cell? p = some v → w'.cell? p = some v := fun {p v} hc => (hb.cell (World.block_lt_of_cell? w _ hc)).trans hc
  obtain ⟨h0, h1, h2, h3, h4, h5, h6⟩ := hl j x hx
  exact ⟨z h0, z h1, z h2, z h3, z h4, z h5, z h6⟩
set_option maxRecDepth 100000 in
set_option maxHeartbeats 1000000 in
theorem plays_walk {w : World} (v : Value) (xs : List Deed) (hv : SeesD w v xs) (hok : ∀ x ∈ xs, x.ok w.heap.size w) (s : ByteArray) (d : Int) (hs : s.size ≤ maxLen) (hd : Wf8 d) :
    Calls Try.prog 4 #[v, ke s d] w fun e w' => e = .returned (.bool true) ∧ Below w.heap.size w w' := by
  have hbW : Below w.heap.size w (w.alloc (.cells #[.string s, .int .u8 d] 40)) := (Below.refl _ w).alloc (Nat.le_refl _) _
  have CP := hidI (play_any (w.alloc (.cells #[.string s, .int .u8 d] 40)) v xs (hv.below hbW) fun x hx => (hok x hx).more hbW)
  have CV := hidI liveC_any
  have HBW := hidI hbW
  clear hv hok hbW
  go_enter Try.func4, Try.ntmps4
  go_wp2_with (go_at_call 16; refine Calls.mono CP.out ?_; rintro e w1 ⟨tb, mb, rb, cs, os, rfl, hB1, hb1⟩; refine Hid.out ?_)
  refine hidI ?_
  have g0 : w1.cell? ⟨w.heap.size, 0, none⟩ = some (.string s) := by
    refine (hb1.cell (p := ⟨w.heap.size, 0, none⟩) (by simp)).trans ?_
    go_simp
  have g1 : w1.cell? ⟨w.heap.size, 1, none⟩ = some (.int .u8 d) := by
    refine (hb1.cell (p := ⟨w.heap.size, 1, none⟩) (by simp)).trans ?_
    go_simp
  have HB1 := hidI hB1
  have HW1 : Hid (Below w.heap.size w w1) := hidI (HBW.out.trans (hb1.mono HBW.out.size))
  clear hB1 hb1 CP
  go_wp2_with (go_at_call 17; refine Calls.mono (CV.out _) ?_; rintro e w2 ⟨rfl, hb2⟩; refine Hid.out ?_)
  refine hidI ?_
  have HB2 := hidI (HB1.out.below hb2 (Nat.le_refl _))
  have HW2 : Hid (Below w.heap.size w w2) := hidI (HW1.out.trans (hb2.mono HW1.out.size))
  have g2 := (hb2.cell (World.block_lt_of_cell? w1 _ g0)).trans g0
  have g3 := (hb2.cell (World.block_lt_of_cell? w1 _ g1)).trans g1
  have CS := hidI (same_any HB2.out s d hs hd)
  clear hb2 HB1 HW1 CV g0 g1
  go_wp2_with (go_at_call 18; refine Calls.mono CS.out ?_; rintro e w3 ⟨rfl, hb3⟩; refine Hid.out ?_)
  refine hidI ?_
  have HW3 : Hid (Below w.heap.size w w3) := hidI (HW2.out.trans (hb3.mono HW2.out.size))
  clear hb3 CS
  go_wp2
  go_ret
  exact ⟨rfl, HW3.out⟩
end Go.Proofs.Ytbjoljokdjgbnab
