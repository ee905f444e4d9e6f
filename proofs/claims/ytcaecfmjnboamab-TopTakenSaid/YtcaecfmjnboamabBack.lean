/-
  The call of the law PermBack.
-/
import Derived.Test.YtcaecfmjnboamabLive
namespace Go.Proofs.Ytcaecfmjnboamab
open Go.RowKit Go.Deep
theorem rightB_steps {l : List Int} {k : Nat} (hl : l.length ≤ 16) (h : Steps l.length none16 k l) : rightB l = true := by
  unfold rightB
  rw [right_steps h, decide_eq_true hl]
  rfl
set_option maxHeartbeats 1000000 in
theorem permBack_any (n k : Nat) (hn : n < 256) (hk : k < 18446744073709551616) (w : World) :
    Calls Try.prog 5 #[.int .u8 n, .int .u64 k] w fun e w' => e = .returned (.bool true) ∧ Below w.heap.size w w' := by
  obtain ⟨m, hm⟩ : ∃ m, n % 17 = m := ⟨_, rfl⟩
  have em : (n : Int).tmod 17 = (m : Int) := by rw [← hm]; rfl
  have hm16 : m ≤ 16 := by omega
  clear hm
  have hf := fac_pos m
  have hf0 : ((fac m : Int) == 0) = false := by simp; omega
  obtain ⟨k0, hk0⟩ : ∃ k0, k % fac m = k0 := ⟨_, rfl⟩
  have ek : (k : Int) % (fac m : Int) = (k0 : Int) := by rw [← hk0]; rfl
  have hkl : k0 < fac m := by rw [← hk0]; exact Nat.mod_lt _ hf
  have CF : Hid (∀ w : World, _) := fun w => from_walk m k w hm16 hk
  have CL : Hid (∀ w : World, _) := fun w => live_any w
  rw [hk0] at CF
  clear hk0
  go_enter Try.func5, Try.ntmps5
  go_wp2_with (go_at_call 9; refine Calls.mono (CF.out _) ?_; rintro e w1 ⟨g1, ps, rfl, hp, hs, ho1, hb1⟩; refine Hid.out ?_)
  refine hidI ?_
  have hS1 : Sees w1 (.slice (some ⟨g1, 0, none⟩) m m) ps := sees_own ho1 (by omega)
  have hnum : numL none16 ps = k0 := numL_steps hs (by rw [hp]; exact hkl)
  have hrt : rightB ps = true := rightB_steps (by omega) (by rw [hp]; exact hs)
  have hW : numW ps = k0 := by unfold numW; rw [if_pos hrt]; exact hnum
  have hE : numE ps = 0 := by unfold numE; rw [if_pos hrt]
  clear hs hp ho1 hnum
  go_wp2_with (go_at_call 11; refine Calls.mono (number_any _ _ _ hS1) ?_; rintro e w2 ⟨rfl, hb2⟩; refine Hid.out ?_)
  refine hidI ?_
  have hb12 : Below w.heap.size w w2 := hb1.trans (hb2.mono hb1.size)
  have hS2 := hS1.below hb2 (Nat.le_refl _)
  clear hb1 hb2 hS1
  go_wp2_with (go_at_call 14; refine Calls.mono (CL.out _) ?_; rintro e w3 ⟨rfl, hb3⟩; refine Hid.out ?_)
  refine hidI ?_
  have hb13 : Below w.heap.size w w3 := hb12.trans (hb3.mono hb12.size)
  have hS3 := hS2.below hb3 (Nat.le_refl _)
  clear hb12 hb3 hS2
  go_wp2_with (go_at_call 16; refine Calls.mono (right_any _ ps _ hS3) ?_; rintro e w4 ⟨rfl, hb4⟩; refine Hid.out ?_)
  refine hidI ?_
  have hb14 : Below w.heap.size w w4 := hb13.trans (hb4.mono hb13.size)
  clear hb13 hb4 hS3
  go_wp2_with (go_at_call 18; refine (many_in m _ (by omega)).mono ?_; rintro e w' ⟨rfl, rfl⟩)
  go_ret
  exact ⟨rfl, hb14⟩
end Go.Proofs.Ytcaecfmjnboamab
