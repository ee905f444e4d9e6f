/-
  The statement NumDoes: its function comes to true at every operation and every numbers.
-/
import Derived.Test.YtcaecfmjnboamaaDoorDoes
import Derived.Lib.QuietBelow
import Derived.BigQuiet
namespace Go.Proofs.YtcaecfmjnboamaaDoor
open Go.RowKit
open Go.Sort (grow)
set_option maxHeartbeats 2000000 in
theorem does_empty (o : Int) (h0 : 0 ≤ o) (a : Option Addr) (cap : Nat) (w : World) (ht : Tab w) :
    Calls Tryd.prog 5 #[.int .u8 o, .slice a 0 cap] w fun e w' => e = .returned (.bool true) ∧ Below w.heap.size w w' := by
  have hv : Words w (.slice a 0 cap) [] := ⟨a, cap, rfl, by simp, .inl rfl⟩
  have HB := Below.refl w.heap.size w
  go_enter Tryd.func5, Tryd.ntmps5
  go_wp2_with (first
    | (go_at_call 26; refine (few_short _ _ _ _ (by omega)).mono ?_; rintro e w' ⟨rfl, rfl⟩)
    | (go_at_call 27; refine (do_any o h0 _ [] _ (hv.on HB)).mono ?_; rintro e wn ⟨rfl, hbn⟩; have HB := HB.trans (hbn.mono HB.size); clear hbn)
    | (go_at_call 28; refine (doR_any o h0 _ [] _ (hv.on HB)).mono ?_; rintro e wn ⟨rfl, hbn⟩; have HB := HB.trans (hbn.mono HB.size); clear hbn)
    | (go_at_call 29; refine (reduces_any _ _).mono ?_; rintro e w' ⟨rfl, rfl⟩)
    | (go_at_call 30; refine (reducesR_any _ _).mono ?_; rintro e w' ⟨rfl, rfl⟩))
  have cL : ∀ d os, Calls Tryd.prog 9 #[] (grow (redrawn wn d) os) fun e w'' => e = .returned (.bool true) ∧ ∃ p : Regrown, w'' = grow (redrawn wn p.d) p.os := fun d os => Calls.regrown_of (live_any _ ((ht.on HB).on (below_regrown _ _ _)))
  have cA : ∀ d os, Calls Tryd.prog 31 #[.int .u8 o] (grow (redrawn wn d) os) fun e w'' => e = .returned (.int .i64 (arity o)) ∧ ∃ p : Regrown, w'' = grow (redrawn wn p.d) p.os := fun d os => Calls.regrown_of ((arity_any o _).mono (fun _ _ h => ⟨h.1, by rw [← h.2]; exact Below.refl _ _⟩))
  have cB : ∀ d os, Calls Tryd.prog 32 #[.int .u8 o] (grow (redrawn wn d) os) fun e w'' => e = .returned (.int .i64 (arity o)) ∧ ∃ p : Regrown, w'' = grow (redrawn wn p.d) p.os := fun d os => Calls.regrown_of ((arityR_any o h0 _).mono (fun _ _ h => ⟨h.1, by rw [← h.2]; exact Below.refl _ _⟩))
  refine wp_region_quiet_below (by kernel_rfl) (by kernel_rfl) ?_
  repeat (first | go_big_quiet_step ((first | exact cL _ _ | exact cA _ _ | exact cB _ _)) | quiet_step ((first | exact cL _ _ | exact cA _ _ | exact cB _ _)))
  refine wpQuiet_nil ?_
  intro _ hw'
  obtain ⟨⟨dq, osq⟩, hw''⟩ := hw'
  subst hw''
  go_wp2
  go_ret
  exact ⟨rfl, HB.trans ((below_regrown wn dq osq).mono HB.size)⟩
end Go.Proofs.YtcaecfmjnboamaaDoor
