/-
  The laws of mail, out of what the program's calls come to (premises): MailPlays.
-/
import Derived.Test.YtdfieflcclbgjaaMLaws
namespace Go.Proofs.Ytdfieflcclbgjaa
open Go.RowKit Go.Deep Go.MapKept Go.Sort
theorem filter_len {p : Msg → Bool} {xs : List Msg} {n : Nat} (h : xs.length ≤ n) : (xs.filter p).length ≤ n := Nat.le_trans (List.length_filter_le _ _) h
set_option maxRecDepth 100000 in
set_option maxHeartbeats 1000000 in
theorem mailPlays_law (hL : PLive) (h1 : PSorted) (h2 : PTurned) (h3 : PFor) (w : World) (v : Value) (xs0 : List Msg) (k : Nat) (to : Int) (hk : k < 18446744073709551616) (hv : SeesM w v xs0) :
    Calls Try.prog 3 #[v, .int .u64 k, .int .i64 to] w fun e w' => e = .returned (.bool true) ∧ Below w.heap.size w w' := by
  have C0 := hidI (few_any w v xs0 hv)
  obtain ⟨xs, hxs⟩ : ∃ xs, xs0.take 50 = xs := ⟨_, rfl⟩
  have hl : xs.length ≤ 50 := by rw [← hxs, List.length_take]; omega
  rw [hxs] at C0
  have HL := hidI hL
  have H1 := hidI h1
  have H2 := hidI h2
  have H3 := hidI h3
  clear hxs hv hL h1 h2 h3
  go_enter Try.func3, Try.ntmps3
  go_wp2_with (go_at_call 9; refine Calls.mono C0.out ?_; rintro e w1 ⟨v1, rfl, hs1, rfl⟩; refine Hid.out ?_)
  refine hidI ?_
  have HS : Hid (∀ y, Below w.heap.size w y → SeesM y v1 xs) := hidI fun y hy => hs1.below hy (Nat.le_refl _)
  clear hs1 C0
  have C := hidI (HL.out w)
  go_wp2_with (go_at_call 10; refine Calls.mono C.out ?_; rintro e w2 ⟨rfl, hb⟩; refine Hid.out ?_)
  refine hidI ?_
  have B2 := hidI hb
  clear hb C
  have C := hidI (H1.out w2 v1 xs (HS.out _ B2.out) (by omega))
  go_wp2_with (go_at_call 12; refine Calls.mono C.out ?_; rintro e w3 ⟨x3, rfl, hs, hb⟩; refine Hid.out ?_)
  refine hidI ?_
  have B3 := hidI (B2.out.trans (hb.mono B2.out.size))
  have S3 := hidI hs
  clear hs hb C
  have C := hidI (rsorted_any w3 v1 xs (HS.out _ B3.out) (by omega))
  go_wp2_with (go_at_call 13; refine Calls.mono C.out ?_; rintro e w4 ⟨x4, rfl, hs, hb⟩; refine Hid.out ?_)
  refine hidI ?_
  have B4 := hidI (B3.out.trans (hb.mono B3.out.size))
  have S4 := hidI hs
  have Q3 := hidI (S3.out.below hb (Nat.le_refl _))
  clear hs hb C S3
  have C := hidI (rsame_eq w4 x3 x4 (sortM xs) Q3.out S4.out (by rw [sortM_length]; omega))
  go_wp2_with (go_at_call 11; refine Calls.mono C.out ?_; rintro e w5 ⟨rfl, hb⟩; refine Hid.out ?_)
  refine hidI ?_
  have B5 := hidI (B4.out.trans (hb.mono B4.out.size))
  clear hb C Q3 S4
  have C := hidI (H2.out w5 v1 xs k hk (HS.out _ B5.out) (by omega))
  go_wp2_with (go_at_call 14; refine Calls.mono C.out ?_; rintro e w6 ⟨x6, rfl, hs, hb⟩; refine Hid.out ?_)
  refine hidI ?_
  have B6 := hidI (B5.out.trans (hb.mono B5.out.size))
  have S6 := hidI hs
  clear hs hb C
  have C := hidI (rturned_any w6 v1 xs k hk (HS.out _ B6.out) (by omega))
  go_wp2_with (go_at_call 15; refine Calls.mono C.out ?_; rintro e w7 ⟨x7, rfl, hs, hb⟩; refine Hid.out ?_)
  refine hidI ?_
  have B7 := hidI (B6.out.trans (hb.mono B6.out.size))
  have S7 := hidI hs
  have Q6 := hidI (S6.out.below hb (Nat.le_refl _))
  clear hs hb C S6
  have C := hidI (rsame_eq w7 x6 x7 (turnM k xs) Q6.out S7.out (by rw [turnM_length]; omega))
  go_wp2_with (go_at_call 11; refine Calls.mono C.out ?_; rintro e w8 ⟨rfl, hb⟩; refine Hid.out ?_)
  refine hidI ?_
  have B8 := hidI (B7.out.trans (hb.mono B7.out.size))
  clear hb C Q6 S7
  have C := hidI (H3.out w8 v1 xs to (HS.out _ B8.out) (by omega))
  go_wp2_with (go_at_call 16; refine Calls.mono C.out ?_; rintro e w9 ⟨x9, rfl, hs, hb⟩; refine Hid.out ?_)
  refine hidI ?_
  have B9 := hidI (B8.out.trans (hb.mono B8.out.size))
  have S9 := hidI hs
  clear hs hb C
  have C := hidI (rfor_any w9 v1 xs to (HS.out _ B9.out) (by omega))
  go_wp2_with (go_at_call 17; refine Calls.mono C.out ?_; rintro e w10 ⟨x10, rfl, hs, hb⟩; refine Hid.out ?_)
  refine hidI ?_
  have B10 := hidI (B9.out.trans (hb.mono B9.out.size))
  have S10 := hidI hs
  have Q9 := hidI (S9.out.below hb (Nat.le_refl _))
  clear hs hb C S9
  have C := hidI (rsame_eq w10 x9 x10 (xs.filter fun x => x.to == to) Q9.out S10.out (filter_len (by omega)))
  go_wp2_with (go_at_call 11; refine Calls.mono C.out ?_; rintro e w11 ⟨rfl, hb⟩; refine Hid.out ?_)
  refine hidI ?_
  have B11 := hidI (B10.out.trans (hb.mono B10.out.size))
  clear hb C Q9 S10
  go_wp2
  go_ret
  exact ⟨rfl, B11.out⟩
end Go.Proofs.Ytdfieflcclbgjaa
