/-
  The statement NumDoes: its function comes to true at every operation and every numbers.
-/
import Derived.Test.YtcaecfmjnboamaaDoorDoes
import Derived.Test.YtcaecfmjnboamaaDoorDoesNil
import Derived.Deep.RegionHeld3
import Derived.Deep.DrawnRows
namespace Go.Proofs.YtcaecfmjnboamaaDoor
open Go.RowKit
attribute [local go_sem ↓] Go.wp_at_zero Go.wp_at_succ
set_option maxHeartbeats 4000000 in
theorem does_some (o : Int) (h0 : 0 ≤ o) (b off N n cap : Nat) (hfew : ∀ w, Calls Tryd.prog 26 #[.slice (some ⟨b, off, none⟩) N cap] w fun e w' => e = .returned (.slice (some ⟨b, off, none⟩) n cap) ∧ w = w') (ls : List Int) (hl : ls.length = n) (hn : 0 < n) (x : Int) (hx : ls.getD 0 0 = x) (w : World) (ht : Tab w)
    (hv : Words w (.slice (some ⟨b, off, none⟩) n cap) ls) (hc : w.cell? ⟨b, off, none⟩ = some (.int .i64 x)) :
    Calls Tryd.prog 5 #[.int .u8 o, .slice (some ⟨b, off, none⟩) N cap] w fun e w' => e = .returned (.bool true) ∧ Below w.heap.size w w' := by
  have HB := Below.refl w.heap.size w
  have hbw : b < w.heap.size := World.block_lt_of_cell? w _ hc
  have q0 : ((n : Int) == 0) = false := by simp; omega
  have hp : (0 : Int) < (n : Int) := by omega
  have HX : Hid (ls.getD 0 0 = x) := hx
  have HL : Hid (ls.length = n) := hl
  clear hx hl
  go_enter Tryd.func5, Tryd.ntmps5
  go_wp2_with (first
    | (go_at_call 26; refine (hfew _).mono ?_; rintro e w' ⟨rfl, rfl⟩)
    | (go_at_call 27; refine (do_any o h0 _ ls _ (hv.on HB)).mono ?_; rintro e wn ⟨rfl, hbn⟩; have HB := HB.trans (hbn.mono HB.size); clear hbn)
    | (go_at_call 28; refine (doR_any o h0 _ ls _ (hv.on HB)).mono ?_; rintro e wn ⟨rfl, hbn⟩; have HB := HB.trans (hbn.mono HB.size); clear hbn)
    | (go_at_call 29; refine (reduces_any _ _).mono ?_; rintro e w' ⟨rfl, rfl⟩)
    | (go_at_call 30; refine (reducesR_any _ _).mono ?_; rintro e w' ⟨rfl, rfl⟩))
  have hcn := (HB.cell (p := ⟨b, off, none⟩) hbw).trans hc
  go_region_held3 (fun w' => w'.cell? ⟨b, off, none⟩ = some (.int .i64 x)) (first | assumption | go_keep)
    ((first
    | (go_at_call 9; refine (live_any _ (ht.on HB.drew)).mono ?_; rintro e wl ⟨rfl, hbl⟩; have hcl : wl.cell? ⟨b, off, none⟩ = some (.int .i64 x) := ((HB.drew.trans (hbl.mono HB.size)).cell (p := ⟨b, off, none⟩) hbw).trans hc)
    | (go_at_call 31; refine (arity_any _ _).mono ?_; rintro e w' ⟨rfl, rfl⟩)
    | (go_at_call 32; refine (arityR_any _ h0 _).mono ?_; rintro e w' ⟨rfl, rfl⟩)
    | (go_at_call 33; go_in)))
  go_wp2
  go_ret
  exact ⟨rfl, HB.drew.trans (hbl.mono HB.size)⟩
theorem numDoes_walk (o : Int) (h0 : 0 ≤ o) (a : Option Addr) (n cap : Nat) (zs : List Int) (w : World) (ht : Tab w) (hcap : n ≤ cap) (hz : zs.length = n) (hin : ∀ z ∈ zs, In64 z)
    (hs : n = 0 ∨ ∃ b off, a = some ⟨b, off, none⟩ ∧ ∀ j, j < n → w.cell? ⟨b, off + j, none⟩ = some (.int .i64 (zs.getD j 0))) :
    Calls Tryd.prog 5 #[.int .u8 o, .slice a n cap] w fun e w' => e = .returned (.bool true) ∧ Below w.heap.size w w' := by
  by_cases hn : n = 0
  · subst hn
    exact does_empty o h0 a cap w ht
  rcases hs with h | ⟨b, off, rfl, hc⟩
  · exact absurd h hn
  have c0 := hc 0 (by omega)
  by_cases h20 : n ≤ 20
  · exact does_some o h0 b off n n cap (fun w => few_short _ _ _ _ h20) zs hz (by omega) _ rfl w ht ⟨_, cap, by rw [hz], hin, .inr ⟨b, off, rfl, fun j hj => hc j (by omega)⟩⟩ c0
  · have e : ∀ j, j < 20 → (zs.take 20).getD j 0 = zs.getD j 0 := fun j hj => by simp [List.getD, hj]
    have el : (zs.take 20).length = 20 := by rw [List.length_take]; omega
    refine does_some o h0 b off n 20 cap (fun w => few_long b off n cap w (by omega) hcap) (zs.take 20) el (by omega) _ (e 0 (by omega)) w ht ?_ c0
    exact ⟨_, cap, by rw [el], fun z hz => hin z (List.mem_of_mem_take hz), .inr ⟨b, off, rfl, fun j hj => by rw [el] at hj; rw [e j hj]; exact hc j (by omega)⟩⟩
end Go.Proofs.YtcaecfmjnboamaaDoor
