/-
  ColumnSame, walked.
-/
import Derived.Test.YtbjoljokdjgbnabSameL0M
import Derived.Test.YtbjoljokdjgbnabRSameM
import Derived.Test.YtbjoljokdjgbnabPlaysM
namespace Go.Proofs.Ytbjoljokdjgbnab
open Go.RowKit Go.Deep Go.MapKept
theorem tsame_nil (tb : Nat) (w : World) : Calls Try.prog 19 #[.pointer (some ⟨tb, 0, none⟩), .pointer none] w fun e w' => e = .returned (.bool false) ∧ w = w' := by
  go_enter Try.func19, Try.ntmps19
  go_wp2
  go_ret
  exact ⟨rfl, rfl⟩
theorem pos32 {w : World} {tb mb : Nat} {cs : List Column} (h : Whole w tb mb 3 2 cs) : ∀ c ∈ cs, 1 ≤ c.vals.length := fun c hc => by
  obtain ⟨_, _, _, hs, _, hl, _⟩ := (h.2.2.2.2.1 c hc).1
  simp only [side, Bool.or_eq_true, decide_eq_true_eq] at hs
  rcases hs with (hs | hs) | hs <;> rw [hs] at hl <;> simp [sideLen] at hl <;> omega
set_option maxRecDepth 100000 in
set_option maxHeartbeats 1000000 in
theorem same_walk {w : World} (v : Value) (xs : List Deed) (hv : SeesD w v xs) (hok : ∀ x ∈ xs, x.ok w.heap.size w) (u : Value) (ys : List Deed) (hu : SeesD w u ys) (hok' : ∀ x ∈ ys, x.ok w.heap.size w) :
    Calls Try.prog 5 #[v, u] w fun e w' => e = .returned (.bool true) ∧ Below w.heap.size w w' := by
  have CP := hidI (play_any w v xs hv hok)
  have CP2 : Hid (∀ y, Below w.heap.size w y → Calls Try.prog 16 #[u] y fun e w' => ∃ tb mb rb cs os, e = .returned (.tuple #[.pointer (some ⟨tb, 0, none⟩), .pointer (some ⟨rb, 0, none⟩), .bool true]) ∧ Both w' y.heap.size tb mb rb cs os ∧ Below y.heap.size y w') := hidI fun y hy => play_any y u ys (hu.below hy) fun x hx => (hok' x hx).more hy
  have CV := hidI liveC_any
  clear hv hok hu hok'
  go_enter Try.func5, Try.ntmps5
  go_wp2_with (go_at_call 16; refine Calls.mono CP.out ?_; rintro e w1 ⟨tb, mb, rb, cs, os, rfl, hB1, hb1⟩; refine Hid.out ?_)
  refine hidI ?_
  have HB1 := hidI hB1
  have HW1 := hidI hb1
  clear hB1 hb1 CP
  go_wp2_with (go_at_call 16; refine Calls.mono (CP2.out _ HW1.out) ?_; rintro e w2 ⟨ub, nb, qb, cs2, os2, rfl, hB2, hb2⟩; refine Hid.out ?_)
  refine hidI ?_
  have HB12 := hidI (HB1.out.below hb2 (Nat.le_refl _))
  have HB2 := hidI hB2
  have HW2 : Hid (Below w.heap.size w w2) := hidI (HW1.out.trans (hb2.mono HW1.out.size))
  clear hB2 hb2 CP2 HB1 HW1
  go_wp2_with (go_at_call 17; refine Calls.mono (CV.out _) ?_; rintro e w3 ⟨rfl, hb3⟩; refine Hid.out ?_)
  refine hidI ?_
  have HB13 := hidI (HB12.out.below hb3 (Nat.le_refl _))
  have HB23 := hidI (HB2.out.below hb3 (Nat.le_refl _))
  have HW3 : Hid (Below w.heap.size w w3) := hidI (HW2.out.trans (hb3.mono HW2.out.size))
  clear hb3 CV HB12 HB2 HW2
  obtain ⟨res, hres⟩ : ∃ res, sameB cs cs2 = res := ⟨_, rfl⟩
  have HRES : Hid (res = true ↔ os = os2) := hidI (by rw [← hres]; exact same_iff HB13.out.1 HB23.out.1 HB13.out.2.2.1 HB23.out.2.2.1)
  have CS := hidI (tsame_any HB13.out.1 HB23.out.1)
  rw [hres] at CS
  clear hres
  go_wp2_with (go_at_call 19; refine Calls.mono CS.out ?_; rintro e w4 ⟨rfl, hb4⟩; refine Hid.out ?_)
  refine hidI ?_
  have HB14 := hidI (HB13.out.below hb4 (Nat.le_refl _))
  have HB24 := hidI (HB23.out.below hb4 (Nat.le_refl _))
  have HW4 : Hid (Below w.heap.size w w4) := hidI (HW3.out.trans (hb4.mono HW3.out.size))
  clear hb4 CS HB13 HB23 HW3
  have CR := hidI (rsame_any HB14.out.2.1.of HB24.out.2.1.of (by have := HB14.out.2.2.1.few HB14.out.1; omega) (HB14.out.2.2.1.vals HB14.out.1) (HB24.out.2.2.1.vals HB24.out.1) res HRES.out)
  have kr : (res == res) = true := by simp
  go_wp2_with (go_at_call 20; refine Calls.mono CR.out ?_; rintro e w5 ⟨rfl, hb5⟩; refine Hid.out ?_)
  refine hidI ?_
  have HB15 := hidI (HB14.out.below hb5 (Nat.le_refl _))
  have HW5 : Hid (Below w.heap.size w w5) := hidI (HW4.out.trans (hb5.mono HW4.out.size))
  clear hb5 CR HB14 HB24 HW4
  have CF := hidI (fork_any HB15.out.1 (by unfold mayT; omega) (pos32 HB15.out.1))
  go_wp2_with (go_at_call 21; refine Calls.mono CF.out ?_; rintro e w6 ⟨tf, mf, csf, rfl, hWf, hpf, hb6, _, _, _⟩; refine Hid.out ?_)
  refine hidI ?_
  have HB16 := hidI (HB15.out.below hb6 (Nat.le_refl _))
  have HW6 : Hid (Below w.heap.size w w6) := hidI (HW5.out.trans (hb6.mono HW5.out.size))
  have CS2 := hidI (tsame_any HB16.out.1 hWf)
  have hA : Agree csf os := ⟨HB16.out.2.2.1.1.trans hpf.symm, HB16.out.2.2.1.2⟩
  rw [(same_iff HB16.out.1 hWf HB16.out.2.2.1 hA).2 rfl] at CS2
  clear hb6 CF HB15 HW5 hWf hpf hA
  go_wp2_with (go_at_call 19; refine Calls.mono CS2.out ?_; rintro e w7 ⟨rfl, hb7⟩; refine Hid.out ?_)
  refine hidI ?_
  have HW7 : Hid (Below w.heap.size w w7) := hidI (HW6.out.trans (hb7.mono HW6.out.size))
  clear hb7 CS2 HB16 HW6
  have CN := hidI (tsame_nil tb w7)
  go_wp2_with (go_at_call 19; refine Calls.mono CN.out ?_; rintro e w8 ⟨rfl, rfl⟩)
  go_ret
  exact ⟨rfl, HW7.out⟩
end Go.Proofs.Ytbjoljokdjgbnab
