/-
  What a graph tells is just what the document says: the law GraphPlays, walked.
-/
import Derived.Test.YtbjoljokdjgbnaaSameG
import Derived.Test.YtbjoljokdjgbnaaBack
namespace Go.Proofs.Ytbjoljokdjgbnaa
open Go.RowKit Go.Deep
set_option maxRecDepth 100000 in
set_option maxHeartbeats 4000000 in
theorem plays_any (n : Int) (v : Value) (es : Edges) (w : World) (hv : ArgE w v es) :
    Calls Try.prog 3 #[.int .i64 n, v] w fun e w' => e = .returned (.bool true) ∧ Below w.heap.size w w' := by
  have C1 := hidI (few_any v es w hv)
  obtain ⟨fs, hfs⟩ : ∃ fs, es.take 32 = fs := ⟨_, rfl⟩
  rw [hfs] at C1
  clear hv hfs
  go_enter Try.func3, Try.ntmps3
  go_wp2_with (go_at_call 9; refine Calls.mono C1.out ?_; rintro e w1 ⟨l, rfl, hs, rfl⟩; refine Hid.out ?_)
  refine hidI ?_
  have C2 := hidI (check_any n l fs w hs)
  have HS := hidI hs
  obtain ⟨c1, hc1⟩ : ∃ c, (check n fs).1 = c := ⟨_, rfl⟩
  obtain ⟨c2, hc2⟩ : ∃ c, (check n fs).2 = c := ⟨_, rfl⟩
  rw [hc1, hc2] at C2
  clear C1 hs
  go_wp2_with (go_at_call 10; refine Calls.mono C2.out ?_; rintro e w1 ⟨rfl, hb1⟩; refine Hid.out ?_)
  refine hidI ?_
  have hs1 := HS.out.below hb1 (Nat.le_refl _)
  have C3 := hidI (rcheck_any n l fs w1 hs1)
  rw [hc1, hc2] at C3
  have HS1 := hidI hs1
  have HB1 := hidI hb1
  have HC2 := hidI hc2
  clear C2 hs1 hb1 HS hc1 hc2
  go_wp2_with (go_at_call 11; refine Calls.mono C3.out ?_; rintro e w' ⟨rfl, rfl⟩; refine Hid.out ?_)
  refine hidI ?_
  clear C3
  rcases check_cases n fs with hbad | ⟨h1, h2, h3, hgd⟩
  · have C4 := hidI (new_nil n l fs w1 HS1.out hbad)
    go_wp2_with (go_at_call 12; refine Calls.mono C4.out ?_; rintro e w2 ⟨rfl, hb2⟩; refine Hid.out ?_)
    refine hidI ?_
    have C5 := hidI (rnew_nil n l fs w2 (HS1.out.below hb2 (Nat.le_refl _)) hbad)
    have HB2 := hidI (HB1.out.trans (hb2.mono HB1.out.size))
    clear C4 hb2 HS1 HB1 hbad
    go_wp2_with (go_at_call 13; refine Calls.mono C5.out ?_; rintro e w' ⟨rfl, rfl⟩; refine Hid.out ?_)
    refine hidI ?_
    have C6 := hidI (live_any w2)
    clear C5
    go_wp2_with (go_at_call 14; refine Calls.mono C6.out ?_; rintro e w3 ⟨rfl, hb3⟩; refine Hid.out ?_)
    refine hidI ?_
    have HB3 := hidI (HB2.out.trans (hb3.mono HB2.out.size))
    have C7 := hidI (same_graphs none none 0 [] w3 (.inl ⟨rfl, rfl, rfl⟩) (.inl ⟨rfl, rfl, rfl⟩) Iff.rfl)
    clear C6 hb3 HB2
    go_wp2_with (go_at_call 15; refine Calls.mono C7.out ?_; rintro e w4 ⟨rfl, hb4⟩)
    go_ret
    exact ⟨rfl, HB3.out.trans (hb4.mono HB3.out.size)⟩
  · obtain ⟨N, rfl⟩ : ∃ N : Nat, n = N := ⟨n.toNat, by omega⟩
    have HG := hidI hgd
    have C4 := hidI (new_ok N l fs w1 HS1.out h1 h2 h3 hgd)
    clear hgd
    go_wp2_with (go_at_call 12; refine Calls.mono C4.out ?_; rintro e w2 ⟨gb, rfl, hg2, hb2⟩; refine Hid.out ?_)
    refine hidI ?_
    have C5 := hidI (rnew_ok N l fs w2 (HS1.out.below hb2 (Nat.le_refl _)) h1 h2 h3 HG.out)
    have HB2 := hidI (HB1.out.trans (hb2.mono HB1.out.size))
    have HG2 := hidI hg2
    clear C4 hb2 HS1 HB1 hg2
    go_wp2_with (go_at_call 13; refine Calls.mono C5.out ?_; rintro e w3 ⟨rb, rfl, hr3, hb3⟩; refine Hid.out ?_)
    refine hidI ?_
    have HB3 := hidI (HB2.out.trans (hb3.mono HB2.out.size))
    have HG3 := hidI (HG2.out.below hb3 (Nat.le_refl _))
    have HR3 := hidI hr3
    have C6 := hidI (live_any w3)
    clear C5 hb3 HB2 HG2 hr3
    go_wp2_with (go_at_call 14; refine Calls.mono C6.out ?_; rintro e w4 ⟨rfl, hb4⟩; refine Hid.out ?_)
    refine hidI ?_
    have HB4 := hidI (HB3.out.trans (hb4.mono HB3.out.size))
    have C7 := hidI (same_graphs (some ⟨gb, 0, none⟩) (some ⟨rb, 0, none⟩) N fs w4 (HG3.out.below hb4 (Nat.le_refl _)) (HR3.out.below hb4 (Nat.le_refl _)) (by simp))
    clear C6 hb4 HB3 HG3 HR3
    go_wp2_with (go_at_call 15; refine Calls.mono C7.out ?_; rintro e w5 ⟨rfl, hb5⟩)
    go_ret
    exact ⟨rfl, HB4.out.trans (hb5.mono HB4.out.size)⟩
/-- As the statement has its arguments. -/
theorem graphPlays_any (n : Int) (_ : -9223372036854775808 ≤ n ∧ n ≤ 9223372036854775807) {W : World} (v : Value) (es : Edges) (hv : ArgE W v es) (_ : ∀ x ∈ es, Wf x.1 ∧ Wf x.2) :
    Calls Try.prog 3 #[.int .i64 n, v] W fun e w' => e = .returned (.bool true) ∧ Below W.heap.size W w' := plays_any n v es W hv
end Go.Proofs.Ytbjoljokdjgbnaa
