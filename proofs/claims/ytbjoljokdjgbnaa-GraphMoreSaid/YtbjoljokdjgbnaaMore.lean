/-
  The nodes that hang together, ways, distinct edges: the law GraphMore, walked.
-/
import Derived.Test.YtbjoljokdjgbnaaReach
import Derived.Test.YtbjoljokdjgbnaaRJoin
import Derived.Test.YtbjoljokdjgbnaaPlays
namespace Go.Proofs.Ytbjoljokdjgbnaa
open Go.RowKit Go.Deep
/-- Both graphs, and the edges, as they stand. -/
def All (w0 w : World) (gp rp : Option Addr) (N : Nat) (es fs : Edges) (l : Value) : Prop := Both w0 w gp rp N es ∧ SeesE w l fs
theorem All.below {w0 w w' : World} {gp rp : Option Addr} {N : Nat} {es fs : Edges} {l : Value} (h : All w0 w gp rp N es fs l) (hb : Below w.heap.size w w') : All w0 w' gp rp N es fs l := ⟨h.1.below hb, h.2.below hb (Nat.le_refl _)⟩
set_option maxRecDepth 100000 in
set_option maxHeartbeats 8000000 in
theorem more_any (n : Int) (v : Value) (es : Edges) (w : World) (hv : ArgE w v es) (hwf : ∀ x ∈ es, Wf x.1 ∧ Wf x.2) :
    Calls Try.prog 4 #[.int .i64 n, v] w fun e w' => e = .returned (.bool true) ∧ Below w.heap.size w w' := by
  have C1 := hidI (few_any v es w hv)
  have hl32 : (es.take 32).length ≤ 32 := by simp; omega
  have hwf2 : ∀ x ∈ es.take 32, Wf x.1 ∧ Wf x.2 := fun x hx => hwf x (List.mem_of_mem_take hx)
  obtain ⟨fs, hfs⟩ : ∃ fs, es.take 32 = fs := ⟨_, rfl⟩
  rw [hfs] at C1 hl32 hwf2
  have HW := hidI hwf2
  clear hv hfs hwf hwf2
  go_enter Try.func4, Try.ntmps4
  go_wp2_with (go_at_call 9; refine Calls.mono C1.out ?_; rintro e w1 ⟨l, rfl, hs, rfl⟩; refine Hid.out ?_)
  refine hidI ?_
  have HS := hidI hs
  clear C1 hs
  rcases check_cases n fs with hbad | ⟨h1, h2, h3, hgd⟩
  · have C4 := hidI (new_nil n l fs w HS.out hbad)
    go_wp2_with (go_at_call 12; refine Calls.mono C4.out ?_; rintro e w2 ⟨rfl, hb2⟩; refine Hid.out ?_)
    refine hidI ?_
    have C5 := hidI (rnew_nil n l fs w2 (HS.out.below hb2 (Nat.le_refl _)) hbad)
    have A2 : Hid (All w w2 none none 0 [] fs l) := ⟨⟨.inl ⟨rfl, rfl, rfl⟩, .inl ⟨rfl, rfl, rfl⟩, hb2⟩, HS.out.below hb2 (Nat.le_refl _)⟩
    clear C4 hb2 HS hbad
    go_wp2_with (go_at_call 13; refine Calls.mono C5.out ?_; rintro e w' ⟨rfl, rfl⟩; refine Hid.out ?_)
    refine hidI ?_
    clear C5
    have C := hidI (live_any w2)
    go_wp2_with (go_at_call 14; refine Calls.mono C.out ?_; rintro e w3 ⟨rfl, hb⟩; refine Hid.out ?_)
    refine hidI ?_
    have A3 := hidI (A2.out.below hb)
    clear C hb A2
    have C := hidI (joined_any none 0 [] w3 A3.out.1.1)
    go_wp2_with (go_at_call 17; refine Calls.mono C.out ?_; rintro e w4 ⟨u1, rfl, hs, hb⟩; refine Hid.out ?_)
    refine hidI ?_
    have A4 := hidI (A3.out.below hb)
    have S1 := hidI hs
    clear C hb hs A3
    have C := hidI (rjoined_any none 0 [] w4 A4.out.1.2.1)
    go_wp2_with (go_at_call 18; refine Calls.mono C.out ?_; rintro e w5 ⟨u2, rfl, hs, hb⟩; refine Hid.out ?_)
    refine hidI ?_
    have A5 := hidI (A4.out.below hb)
    have S2 := hidI hs
    have S3 := hidI (S1.out.below hb (Nat.le_refl _))
    clear C hb hs A4 S1
    have C := hidI (same_any u1 u2 _ w5 S3.out S2.out (by unfold joined; rw [jfold_length, selfs_length]; omega))
    go_wp2_with (go_at_call 16; refine Calls.mono C.out ?_; rintro e w6 ⟨rfl, hb⟩; refine Hid.out ?_)
    refine hidI ?_
    have A6 := hidI (A5.out.below hb)
    clear C hb A5 S2 S3
    have C := hidI (reaches_any none 0 [] w6 A6.out.1.1)
    go_wp2_with (go_at_call 20; refine Calls.mono C.out ?_; rintro e w7 ⟨u3, rfl, hs, hb⟩; refine Hid.out ?_)
    refine hidI ?_
    have A7 := hidI (A6.out.below hb)
    have S1 := hidI hs
    clear C hb hs A6
    have C := hidI (rreaches_any none 0 [] w7 A7.out.1.2.1)
    go_wp2_with (go_at_call 21; refine Calls.mono C.out ?_; rintro e w8 ⟨u4, rfl, hs, hb⟩; refine Hid.out ?_)
    refine hidI ?_
    have A8 := hidI (A7.out.below hb)
    have S2 := hidI hs
    have S3 := hidI (S1.out.below hb (Nat.le_refl _))
    clear C hb hs A7 S1
    have C := hidI (sameR_any u3 u4 _ _ w8 (by omega) S3.out S2.out)
    go_wp2_with (go_at_call 19; refine Calls.mono C.out ?_; rintro e w9 ⟨rfl, hb⟩; refine Hid.out ?_)
    refine hidI ?_
    have A9 := hidI (A8.out.below hb)
    clear C hb A8 S2 S3
    have C := hidI (distinct_any l fs w9 A9.out.2 hl32 HW.out)
    go_wp2_with (go_at_call 23; refine Calls.mono C.out ?_; rintro e w10 ⟨u5, rfl, hs, hb⟩; refine Hid.out ?_)
    refine hidI ?_
    have A10 := hidI (A9.out.below hb)
    have S1 := hidI hs
    clear C hb hs A9
    have C := hidI (rdistinct_any l fs w10 A10.out.2 hl32)
    go_wp2_with (go_at_call 24; refine Calls.mono C.out ?_; rintro e w11 ⟨u6, rfl, hs, hb⟩; refine Hid.out ?_)
    refine hidI ?_
    have A11 := hidI (A10.out.below hb)
    have S2 := hidI hs
    have S3 := hidI (S1.out.below hb (Nat.le_refl _))
    clear C hb hs A10 S1
    have C := hidI (sameE_any u5 u6 _ w11 S3.out S2.out (by have := dist_length fs fs.length; omega))
    go_wp2_with (go_at_call 22; refine Calls.mono C.out ?_; rintro e w12 ⟨rfl, hb⟩)
    go_ret
    exact ⟨rfl, (A11.out.below hb).1.2.2⟩
  · obtain ⟨N, rfl⟩ : ∃ N : Nat, n = N := ⟨n.toNat, by omega⟩
    have HG := hidI hgd
    have C4 := hidI (new_ok N l fs w HS.out h1 h2 h3 hgd)
    clear hgd
    go_wp2_with (go_at_call 12; refine Calls.mono C4.out ?_; rintro e w1 ⟨gb, rfl, hg2, hb2⟩; refine Hid.out ?_)
    refine hidI ?_
    have C5 := hidI (rnew_ok N l fs w1 (HS.out.below hb2 (Nat.le_refl _)) h1 h2 h3 HG.out)
    have HB2 := hidI hb2
    have HG2 := hidI hg2
    have HS2 := hidI (HS.out.below hb2 (Nat.le_refl _))
    clear C4 hb2 HS hg2
    go_wp2_with (go_at_call 13; refine Calls.mono C5.out ?_; rintro e w2 ⟨rb, rfl, hr3, hb3⟩; refine Hid.out ?_)
    refine hidI ?_
    have A2 : Hid (All w w2 (some ⟨gb, 0, none⟩) (some ⟨rb, 0, none⟩) N fs fs l) := ⟨⟨HG2.out.below hb3 (Nat.le_refl _), hr3, HB2.out.trans (hb3.mono HB2.out.size)⟩, HS2.out.below hb3 (Nat.le_refl _)⟩
    clear C5 hb3 HB2 HG2 HS2 hr3
    have C := hidI (live_any w2)
    go_wp2_with (go_at_call 14; refine Calls.mono C.out ?_; rintro e w3 ⟨rfl, hb⟩; refine Hid.out ?_)
    refine hidI ?_
    have A3 := hidI (A2.out.below hb)
    clear C hb A2
    have C := hidI (joined_any (some ⟨gb, 0, none⟩) N fs w3 A3.out.1.1)
    go_wp2_with (go_at_call 17; refine Calls.mono C.out ?_; rintro e w4 ⟨u1, rfl, hs, hb⟩; refine Hid.out ?_)
    refine hidI ?_
    have A4 := hidI (A3.out.below hb)
    have S1 := hidI hs
    clear C hb hs A3
    have C := hidI (rjoined_any (some ⟨rb, 0, none⟩) N fs w4 A4.out.1.2.1)
    go_wp2_with (go_at_call 18; refine Calls.mono C.out ?_; rintro e w5 ⟨u2, rfl, hs, hb⟩; refine Hid.out ?_)
    refine hidI ?_
    have A5 := hidI (A4.out.below hb)
    have S2 := hidI hs
    have S3 := hidI (S1.out.below hb (Nat.le_refl _))
    clear C hb hs A4 S1
    have C := hidI (same_any u1 u2 _ w5 S3.out S2.out (by unfold joined; rw [jfold_length, selfs_length]; omega))
    go_wp2_with (go_at_call 16; refine Calls.mono C.out ?_; rintro e w6 ⟨rfl, hb⟩; refine Hid.out ?_)
    refine hidI ?_
    have A6 := hidI (A5.out.below hb)
    clear C hb A5 S2 S3
    have C := hidI (reaches_any (some ⟨gb, 0, none⟩) N fs w6 A6.out.1.1)
    go_wp2_with (go_at_call 20; refine Calls.mono C.out ?_; rintro e w7 ⟨u3, rfl, hs, hb⟩; refine Hid.out ?_)
    refine hidI ?_
    have A7 := hidI (A6.out.below hb)
    have S1 := hidI hs
    clear C hb hs A6
    have C := hidI (rreaches_any (some ⟨rb, 0, none⟩) N fs w7 A7.out.1.2.1)
    go_wp2_with (go_at_call 21; refine Calls.mono C.out ?_; rintro e w8 ⟨u4, rfl, hs, hb⟩; refine Hid.out ?_)
    refine hidI ?_
    have A8 := hidI (A7.out.below hb)
    have S2 := hidI hs
    have S3 := hidI (S1.out.below hb (Nat.le_refl _))
    clear C hb hs A7 S1
    have C := hidI (sameR_any u3 u4 _ _ w8 (by omega) S3.out S2.out)
    go_wp2_with (go_at_call 19; refine Calls.mono C.out ?_; rintro e w9 ⟨rfl, hb⟩; refine Hid.out ?_)
    refine hidI ?_
    have A9 := hidI (A8.out.below hb)
    clear C hb A8 S2 S3
    have C := hidI (distinct_any l fs w9 A9.out.2 hl32 HW.out)
    go_wp2_with (go_at_call 23; refine Calls.mono C.out ?_; rintro e w10 ⟨u5, rfl, hs, hb⟩; refine Hid.out ?_)
    refine hidI ?_
    have A10 := hidI (A9.out.below hb)
    have S1 := hidI hs
    clear C hb hs A9
    have C := hidI (rdistinct_any l fs w10 A10.out.2 hl32)
    go_wp2_with (go_at_call 24; refine Calls.mono C.out ?_; rintro e w11 ⟨u6, rfl, hs, hb⟩; refine Hid.out ?_)
    refine hidI ?_
    have A11 := hidI (A10.out.below hb)
    have S2 := hidI hs
    have S3 := hidI (S1.out.below hb (Nat.le_refl _))
    clear C hb hs A10 S1
    have C := hidI (sameE_any u5 u6 _ w11 S3.out S2.out (by have := dist_length fs fs.length; omega))
    go_wp2_with (go_at_call 22; refine Calls.mono C.out ?_; rintro e w12 ⟨rfl, hb⟩)
    go_ret
    exact ⟨rfl, (A11.out.below hb).1.2.2⟩
/-- As the statement has its arguments. -/
theorem graphMore_any (n : Int) (_ : -9223372036854775808 ≤ n ∧ n ≤ 9223372036854775807) {W : World} (v : Value) (es : Edges) (hv : ArgE W v es) (hwf : ∀ x ∈ es, Wf x.1 ∧ Wf x.2) :
    Calls Try.prog 4 #[.int .i64 n, v] W fun e w' => e = .returned (.bool true) ∧ Below W.heap.size W w' := more_any n v es W hv hwf
end Go.Proofs.Ytbjoljokdjgbnaa
