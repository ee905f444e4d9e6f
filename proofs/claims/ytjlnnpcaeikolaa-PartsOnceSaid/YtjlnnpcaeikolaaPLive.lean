/-
  What must be whatever is asked: the laws' own live.
-/
import Derived.Test.YtjlnnpcaeikolaaPEven
namespace Go.Proofs.Ytjlnnpcaeikolaa
open Go.RowKit Go.Deep
set_option maxRecDepth 100000 in
set_option maxHeartbeats 4000000 in
theorem live_any (w : World) : Calls Try.prog 18 #[] w fun e w' => e = .returned (.bool true) ∧ Below w.heap.size w w' := by
  have HS : Hid (Sees (w.alloc (.cells #[.int .i64 0, .int .i64 1, .int .i64 (-1)] 3)) (.slice (some ⟨w.heap.size, 0, none⟩) 3 3) [0, 1, -1]) := by
    refine ⟨some ⟨w.heap.size, 0, none⟩, 3, rfl, .inr ⟨w.heap.size, 0, rfl, fun j hj => ?_⟩⟩
    have : j = 0 ∨ j = 1 ∨ j = 2 := by simp at hj; omega
    rcases this with rfl | rfl | rfl <;> go_simp
  have CN := hidI (new_ok 4 2 (by unfold mayP; omega) _ _ _ HS.out)
  have HB0 : Hid (Below w.heap.size w (w.alloc (.cells #[.int .i64 0, .int .i64 1, .int .i64 (-1)] 3))) := (Below.refl _ w).alloc (Nat.le_refl _) _
  clear HS
  go_enter Try.func18, Try.ntmps18
  go_wp2_with (go_at_call 8; refine Calls.mono CN.out ?_; rintro e w1 ⟨pb, rfl, hp1, hb1⟩; refine Hid.out ?_)
  refine hidI ?_
  have HP1 := hidI hp1
  have HB1 := hidI (HB0.out.trans (hb1.mono HB0.out.size))
  have CM : Hid (Calls Try.prog 14 #[.pointer (some ⟨pb, 0, none⟩), .int .i64 1] w1 fun e w' => ∃ v, e = .returned v ∧ Sees w' v [1, 2] ∧ Below w1.heap.size w1 w') := members_any _ _ _ _ 1 w1 hp1
  clear CN hp1 hb1 HB0
  go_wp2_with (go_at_call 14; refine Calls.mono CM.out ?_; rintro e w2 ⟨v, rfl, hs2, hb2⟩; refine Hid.out ?_)
  refine hidI ?_
  have HP2 := hidI (HP1.out.below hb2 (Nat.le_refl _))
  have HB2 := hidI (HB1.out.trans (hb2.mono HB1.out.size))
  obtain ⟨a, cap, rfl, hs2⟩ := hs2
  rcases hs2 with h | ⟨b, off, rfl, hc⟩
  · cases h
  have c1 : w2.cell? ⟨b, off + 1, none⟩ = some (.int .i64 2) := hc 1 (by decide)
  have CO : Hid (Calls Try.prog 11 #[.pointer (some ⟨pb, 0, none⟩), .int .i64 3] w2 fun e w' => e = .returned (.int .i64 0) ∧ Below w2.heap.size w2 w') := of_any _ _ _ _ 3 w2 HP2.out
  clear CM HP1 HB1 hb2 hc
  simp only [List.length_cons, List.length_nil]
  go_wp2_with (go_at_call 11; refine Calls.mono CO.out ?_; rintro e w3 ⟨rfl, hb3⟩; refine Hid.out ?_)
  refine hidI ?_
  have HP3 := hidI (HP2.out.below hb3 (Nat.le_refl _))
  have HB3 := hidI (HB2.out.trans (hb3.mono HB2.out.size))
  have HBA : Hid (Below w3.heap.size w3 (w3.alloc (.cells #[.int .i64 0, .int .i64 1, .int .i64 1, .int .i64 2] 44))) := (Below.refl _ w3).alloc (Nat.le_refl _) _
  have HSE : Hid (SeesE (w3.alloc (.cells #[.int .i64 0, .int .i64 1, .int .i64 1, .int .i64 2] 44)) (.slice (some ⟨w3.heap.size, 0, none⟩) 2 2) [(0, 1), (1, 2)]) := by
    refine ⟨some ⟨w3.heap.size, 0, none⟩, 2, rfl, .inr ⟨w3.heap.size, 0, rfl, fun j x hx => ?_⟩⟩
    have hj : j = 0 ∨ j = 1 := by have := (List.getElem?_eq_some_iff.1 hx).1; simp at this; omega
    rcases hj with rfl | rfl
    · simp at hx; subst hx; constructor <;> go_simp
    · simp at hx; subst hx; constructor <;> go_simp
  have CC : Hid (Calls Try.prog 23 #[.pointer (some ⟨pb, 0, none⟩), .slice (some ⟨w3.heap.size, 0, none⟩) 2 2] (w3.alloc (.cells #[.int .i64 0, .int .i64 1, .int .i64 1, .int .i64 2] 44)) fun e w' => e = .returned (.int .i64 1) ∧ Below (w3.alloc (.cells #[.int .i64 0, .int .i64 1, .int .i64 1, .int .i64 2] 44)).heap.size (w3.alloc (.cells #[.int .i64 0, .int .i64 1, .int .i64 1, .int .i64 2] 44)) w') := cut_any _ _ _ _ _ _ _ (HP3.out.below HBA.out (Nat.le_refl _)) HSE.out (by decide)
  clear CO HP2 HB2 hb3 HSE c1
  go_wp2_with (go_at_call 23; refine Calls.mono CC.out ?_; rintro e w4 ⟨rfl, hb4⟩; refine Hid.out ?_)
  refine hidI ?_
  have HB4' := hidI (HBA.out.trans (hb4.mono HBA.out.size))
  have HP4 := hidI (HP3.out.below HB4'.out (Nat.le_refl _))
  have HB4 := hidI (HB3.out.trans (HB4'.out.mono HB3.out.size))
  have CE : Hid (Calls Try.prog 25 #[.pointer (some ⟨pb, 0, none⟩)] w4 fun e w' => e = .returned (.bool true) ∧ Below w4.heap.size w4 w') := even_some pb _ _ _ w4 HP4.out
  clear CC HP3 HB3 hb4 HB4' HBA
  go_wp2_with (go_at_call 25; refine Calls.mono CE.out ?_; rintro e w5 ⟨rfl, hb5⟩; refine Hid.out ?_)
  refine hidI ?_
  have HB5 := hidI (HB4.out.trans (hb5.mono HB4.out.size))
  clear CE HP4 HB4 hb5
  go_wp2
  go_ret
  exact ⟨rfl, HB5.out⟩
end Go.Proofs.Ytjlnnpcaeikolaa
