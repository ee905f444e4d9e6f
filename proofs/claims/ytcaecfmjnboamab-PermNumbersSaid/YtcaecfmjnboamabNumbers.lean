/-
  The call of the law PermNumbers.
-/
import Derived.Test.YtcaecfmjnboamabRefFrom
import Derived.Test.YtcaecfmjnboamabRefNumber
import Derived.Test.YtcaecfmjnboamabUndo
namespace Go.Proofs.Ytcaecfmjnboamab
open Go.RowKit Go.Deep
theorem from_out (n : Int) (k : Nat) (w : World) (h : n < 0 ∨ 16 < n) :
    Calls Try.prog 9 #[.int .i64 n, .int .u64 k] w fun e w' => e = .returned (.tuple #[.slice none 0 0, .int .i64 2]) ∧ w = w' := by
  go_enter Try.func9, Try.ntmps9
  go_wp2
  go_step3
  go_wp2_with (go_at_call 31; refine (fits_not _ _ h).mono ?_; rintro e w' ⟨rfl, rfl⟩)
  rw [Exit.noGoto_ret]
  go_ret2
  exact ⟨rfl, rfl⟩
theorem refFrom_out (n : Int) (k : Nat) (w : World) (h : n < 0 ∨ 16 < n) :
    Calls Try.prog 10 #[.int .i64 n, .int .u64 k] w fun e w' => e = .returned (.tuple #[.slice none 0 0, .int .i64 2]) ∧ w = w' := by
  go_enter Try.func10, Try.ntmps10
  go_wp2_with (go_at_call 19; refine (manyR_out _ _ h).mono ?_; rintro e w' ⟨rfl, rfl⟩)
  go_ret2
  exact ⟨rfl, rfl⟩
/-- What From tells: the order of the number k. -/
def FromIs (n : Int) (k : Nat) (ps : List Int) : Prop := ps.length ≤ 16 ∧ (0 ≤ n ∧ n ≤ 16 → ps.length = n.toNat ∧ Steps n.toNat none16 (k % fac n.toNat) ps) ∧ (¬ (0 ≤ n ∧ n ≤ 16) → ps = [])
def fromE (n : Int) : Int := if 0 ≤ n ∧ n ≤ 16 then 0 else 2
theorem from_same {n : Int} {k : Nat} {ps qs : List Int} (h : FromIs n k ps) (h' : FromIs n k qs) : ps = qs := by
  by_cases hn : 0 ≤ n ∧ n ≤ 16
  · have h1 := h.2.1 hn
    have h2 := h'.2.1 hn
    exact steps_same (by rw [h1.1, h2.1]) h1.2 h2.2
  · rw [h.2.2 hn, h'.2.2 hn]
theorem from_any (n : Int) (k : Nat) (hk : k < 18446744073709551616) (w : World) :
    Calls Try.prog 9 #[.int .i64 n, .int .u64 k] w fun e w' => ∃ (x : Value) (ps : List Int), e = .returned (.tuple #[x, .int .i64 (fromE n)]) ∧ FromIs n k ps ∧ Sees w' x ps ∧ Below w.heap.size w w' := by
  by_cases hn : 0 ≤ n ∧ n ≤ 16
  · obtain ⟨m, rfl⟩ : ∃ m : Nat, n = (m : Int) := ⟨n.toNat, by omega⟩
    refine (from_walk m k w (by omega) hk).mono ?_
    rintro e w' ⟨g, ps, rfl, hp, hs, ho, hb⟩
    refine ⟨_, ps, by unfold fromE; rw [if_pos hn], ⟨by omega, fun _ => ⟨by simpa using hp, by simpa using hs⟩, fun h => absurd hn h⟩, sees_own ho (by omega), hb⟩
  · refine (from_out n k w (by omega)).mono ?_
    rintro e w' ⟨rfl, rfl⟩
    exact ⟨_, [], by unfold fromE; rw [if_neg hn], ⟨by simp, fun h => absurd h hn, fun _ => rfl⟩, sees_nil _, Below.refl _ _⟩
theorem refFrom_any (n : Int) (k : Nat) (hk : k < 18446744073709551616) (w : World) :
    Calls Try.prog 10 #[.int .i64 n, .int .u64 k] w fun e w' => ∃ (x : Value) (ps : List Int), e = .returned (.tuple #[x, .int .i64 (fromE n)]) ∧ FromIs n k ps ∧ Sees w' x ps ∧ Below w.heap.size w w' := by
  by_cases hn : 0 ≤ n ∧ n ≤ 16
  · obtain ⟨m, rfl⟩ : ∃ m : Nat, n = (m : Int) := ⟨n.toNat, by omega⟩
    refine (refFrom_walk m k w (by omega) hk).mono ?_
    rintro e w' ⟨x, ps, rfl, hp, hs, hS, hb⟩
    refine ⟨_, ps, by unfold fromE; rw [if_pos hn], ⟨by omega, fun _ => ⟨by simpa using hp, by simpa using hs⟩, fun h => absurd hn h⟩, hS, hb⟩
  · refine (refFrom_out n k w (by omega)).mono ?_
    rintro e w' ⟨rfl, rfl⟩
    exact ⟨_, [], by unfold fromE; rw [if_neg hn], ⟨by simp, fun h => absurd h hn, fun _ => rfl⟩, sees_nil _, Below.refl _ _⟩
theorem many_any (n : Int) (w : World) : Calls Try.prog 18 #[.int .i64 n] w fun e w' => e = .returned (.int .u64 (manyN n)) ∧ w = w' := by
  by_cases hn : 0 ≤ n ∧ n ≤ 16
  · obtain ⟨m, rfl⟩ : ∃ m : Nat, n = (m : Int) := ⟨n.toNat, by omega⟩
    have := many_in m w (by omega)
    unfold manyN
    rw [if_pos hn]
    simpa using this
  · have := many_out n w (by omega)
    unfold manyN
    rw [if_neg hn]
    exact this
theorem manyR_any (n : Int) (w : World) : Calls Try.prog 19 #[.int .i64 n] w fun e w' => e = .returned (.int .u64 (manyN n)) ∧ w = w' := by
  by_cases hn : 0 ≤ n ∧ n ≤ 16
  · obtain ⟨m, rfl⟩ : ∃ m : Nat, n = (m : Int) := ⟨n.toNat, by omega⟩
    have := manyR_in m w (by omega)
    unfold manyN
    rw [if_pos hn]
    simpa using this
  · have := manyR_out n w (by omega)
    unfold manyN
    rw [if_neg hn]
    exact this
theorem Arg.below {w w' : World} {v : Value} {zs : List Int} {B : Nat} (h : Arg w v zs) (hb : Below B w w') (hB : w.heap.size ≤ B) : Arg w' v zs := ⟨h.1.below hb hB, h.2⟩
set_option maxHeartbeats 2000000 in
theorem permNumbers_any (n : Int) (k : Nat) (hk : k < 18446744073709551616) (v : Value) (zs : List Int) (w : World) (hv : Arg w v zs) :
    Calls Try.prog 3 #[.int .i64 n, .int .u64 k, v] w fun e w' => e = .returned (.bool true) ∧ Below w.heap.size w w' := by
  have CL : Hid (∀ w : World, _) := fun w => live_any w
  have CF : Hid (∀ w : World, _) := fun w => from_any n k hk w
  have CF' : Hid (∀ w : World, _) := fun w => refFrom_any n k hk w
  have CM : Hid (∀ w : World, _) := fun w => many_any n w
  have CM' : Hid (∀ w : World, _) := fun w => manyR_any n w
  have CW : Hid (∀ w : World, Arg w v zs → _) := fun w h => few_any v zs w h
  obtain ⟨ys, hys⟩ : ∃ ys, zs.take 80 = ys := ⟨_, rfl⟩
  rw [hys] at CW
  obtain ⟨fe, hfe⟩ : ∃ fe, fromE n = fe := ⟨_, rfl⟩
  rw [hfe] at CF CF'
  obtain ⟨mn, hmn⟩ : ∃ mn, manyN n = mn := ⟨_, rfl⟩
  rw [hmn] at CM CM'
  obtain ⟨nw, hnw⟩ : ∃ nw, numW ys = nw := ⟨_, rfl⟩
  obtain ⟨ne, hne⟩ : ∃ ne, numE ys = ne := ⟨_, rfl⟩
  obtain ⟨rb, hrb⟩ : ∃ rb, rightB ys = rb := ⟨_, rfl⟩
  have CN : Hid (∀ (u : Value) (w : World), Sees w u ys → _) := fun u w h => number_any u ys w h
  have CN' : Hid (∀ (u : Value) (w : World), Sees w u ys → _) := fun u w h => refNumber_any u ys w h
  rw [hnw, hne] at CN CN'
  have CR : Hid (∀ (u : Value) (w : World), Sees w u ys → _) := fun u w h => right_any u ys w h
  have CR' : Hid (∀ (u : Value) (w : World), Sees w u ys → _) := fun u w h => refRight_any u ys w h
  rw [hrb] at CR CR'
  clear hys hfe hmn hnw hne hrb
  go_enter Try.func3, Try.ntmps3
  go_wp2_with (go_at_call 9; refine Calls.mono (CF.out _) ?_; rintro e w1 ⟨va, ps, rfl, hF1, hS1, hb1⟩; refine Hid.out ?_)
  refine hidI ?_
  have hv1 := hv.below hb1 (Nat.le_refl _)
  have hbw : Below w.heap.size w w1 := hb1
  clear hb1 hv CF
  go_wp2_with (go_at_call 10; refine Calls.mono (CF'.out _) ?_; rintro e w2 ⟨vb, qs, rfl, hF2, hS2, hb⟩; refine Hid.out ?_)
  refine hidI ?_
  obtain rfl := from_same hF1 hF2
  have hps : ps.length ≤ 16 := hF1.1
  have hv2 := hv1.below hb (Nat.le_refl _)
  have hbw : Below w.heap.size w w2 := hbw.trans (hb.mono hbw.size)
  have HA : Hid (SeesAll w2 [(va, ps), (vb, ps)]) := by
    intro z hz
    rcases List.mem_cons.1 hz with rfl | hz
    · exact hS1.below hb (Nat.le_refl _)
    · rcases List.mem_cons.1 hz with rfl | hz
      · exact hS2
      · cases hz
  clear hb hv1 hS1 hS2 hF1 hF2 CF'
  go_wp2_with (go_at_call 12; refine Calls.mono (CW.out _ hv2) ?_; rintro e w' ⟨u1, rfl, hSu, rfl⟩; refine Hid.out ?_)
  refine hidI ?_
  go_wp2_with (go_at_call 11; refine Calls.mono (CN.out _ _ hSu) ?_; rintro e w3 ⟨rfl, hb⟩; refine Hid.out ?_)
  refine hidI ?_
  have hv3 := hv2.below hb (Nat.le_refl _)
  have HA : Hid (SeesAll w3 _) := SeesAll.below HA.out hb (Nat.le_refl _)
  have hbw : Below w.heap.size w w3 := hbw.trans (hb.mono hbw.size)
  clear hb hv2 hSu CN
  go_wp2_with (go_at_call 12; refine Calls.mono (CW.out _ hv3) ?_; rintro e w' ⟨u2, rfl, hSu, rfl⟩; refine Hid.out ?_)
  refine hidI ?_
  go_wp2_with (go_at_call 13; refine Calls.mono (CN'.out _ _ hSu) ?_; rintro e w4 ⟨rfl, hb⟩; refine Hid.out ?_)
  refine hidI ?_
  have hv4 := hv3.below hb (Nat.le_refl _)
  have HA : Hid (SeesAll w4 _) := SeesAll.below HA.out hb (Nat.le_refl _)
  have hbw : Below w.heap.size w w4 := hbw.trans (hb.mono hbw.size)
  clear hb hv3 hSu CN'
  go_wp2_with (go_at_call 14; refine Calls.mono (CL.out _) ?_; rintro e w5 ⟨rfl, hb⟩; refine Hid.out ?_)
  refine hidI ?_
  have hv5 := hv4.below hb (Nat.le_refl _)
  have HA : Hid (SeesAll w5 _) := SeesAll.below HA.out hb (Nat.le_refl _)
  have hbw : Below w.heap.size w w5 := hbw.trans (hb.mono hbw.size)
  clear hb hv4 CL
  go_wp2_with (go_at_call 15; refine Calls.mono (same_any _ _ ps _ (HA.out (va, ps) (by simp)) (HA.out (vb, ps) (by simp)) (by omega)) ?_; rintro e w6 ⟨rfl, hb⟩; refine Hid.out ?_)
  refine hidI ?_
  have hv6 := hv5.below hb (Nat.le_refl _)
  have hbw : Below w.heap.size w w6 := hbw.trans (hb.mono hbw.size)
  clear hb hv5 HA
  go_wp2_with (go_at_call 12; refine Calls.mono (CW.out _ hv6) ?_; rintro e w' ⟨u3, rfl, hSu, rfl⟩; refine Hid.out ?_)
  refine hidI ?_
  go_wp2_with (go_at_call 16; refine Calls.mono (CR.out _ _ hSu) ?_; rintro e w7 ⟨rfl, hb⟩; refine Hid.out ?_)
  refine hidI ?_
  have hv7 := hv6.below hb (Nat.le_refl _)
  have hbw : Below w.heap.size w w7 := hbw.trans (hb.mono hbw.size)
  clear hb hv6 hSu CR
  go_wp2_with (go_at_call 12; refine Calls.mono (CW.out _ hv7) ?_; rintro e w' ⟨u4, rfl, hSu, rfl⟩; refine Hid.out ?_)
  refine hidI ?_
  go_wp2_with (go_at_call 17; refine Calls.mono (CR'.out _ _ hSu) ?_; rintro e w8 ⟨rfl, rfl⟩; refine Hid.out ?_)
  refine hidI ?_
  clear hv7 hSu CR' CW
  cases rb
  all_goals
    go_wp2_with (go_at_call 18; refine Calls.mono (CM.out _) ?_; rintro e w9 ⟨rfl, rfl⟩; refine Hid.out ?_)
    refine hidI ?_
    go_wp2_with (go_at_call 19; refine Calls.mono (CM'.out _) ?_; rintro e w9 ⟨rfl, rfl⟩; refine Hid.out ?_)
    refine hidI ?_
    go_wp2
    go_ret
    exact ⟨rfl, hbw⟩
end Go.Proofs.Ytcaecfmjnboamab
