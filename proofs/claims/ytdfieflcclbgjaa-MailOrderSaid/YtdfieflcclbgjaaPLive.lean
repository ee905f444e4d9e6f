/-
  What must be whatever is asked: the laws' live; what the program's calls come to, in the laws' words.
-/
import Derived.Test.YtdfieflcclbgjaaPComb
import Derived.Test.YtdfieflcclbgjaaPEnc
import Derived.Test.YtdfieflcclbgjaaPDec
import Derived.Test.YtdfieflcclbgjaaPTurn
import Derived.Test.YtdfieflcclbgjaaMLaws4
namespace Go.Proofs.Ytdfieflcclbgjaa
open Go.RowKit Go.Deep Go.MapKept
theorem seesM_lit (w : World) (xs : List Msg) : SeesM (w.alloc (.cells (flatM xs).toArray 48)) (.slice (some ⟨w.heap.size, 0, none⟩) xs.length xs.length) xs := by
  have hh := (MapKept.heap_alloc w (.cells (flatM xs).toArray 48)).1
  refine ⟨_, _, rfl, Nat.le_refl _, .inr ⟨w.heap.size, 0, rfl, fun j x hx => ?_⟩⟩
  have q : ∀ i, i < 3 → (w.alloc (.cells (flatM xs).toArray 48)).cell? ⟨w.heap.size, 0 + j * 3 + i, none⟩ = x.cells[i]? := fun i hi => by
    rw [Lib.cell_of_heap hh, Nat.zero_add]
    have := flatM_get xs j i x hx hi
    simpa using this
  exact ⟨q 0 (by omega), q 1 (by omega), q 2 (by omega)⟩
theorem seesO_lit (w : World) (os : List Nat) : SeesO (w.alloc (.cells (os.map fun o : Nat => Value.int .u8 (o : Int)).toArray 38)) (.slice (some ⟨w.heap.size, 0, none⟩) os.length os.length) os := by
  have hh := (MapKept.heap_alloc w (.cells (os.map fun o : Nat => Value.int .u8 (o : Int)).toArray 38)).1
  refine ⟨_, _, rfl, .inr ⟨w.heap.size, 0, rfl, fun j o ho => ?_⟩⟩
  rw [Lib.cell_of_heap hh, Nat.zero_add]
  simp [ho]
theorem pSorted : PSorted := fun w v xs h hl => psorted_any w v xs h (by omega)
theorem pTurned : PTurned := fun w v xs k hk h hl => pturned_any w v xs k hk h (by omega)
theorem pFor : PFor := fun w v xs t h hl => pfor_any w v xs t h (by omega)
theorem pTaken : PTaken := fun w v xs x tag o h hl => by
  unfold takeRes
  cases hr : redB (o : Int) with
  | true =>
    simp only [if_true]
    exact ptaken_any w v xs x tag o hr h (by omega)
  | false =>
    simp only [Bool.false_eq_true, if_false]
    refine (ptaken_bad x o tag v w hr).mono ?_
    rintro e w' ⟨rfl, rfl⟩
    exact ⟨rfl, Below.refl _ _⟩
theorem pcombined (w : World) (v u : Value) (xs : List Msg) (os : List Nat) (hin : ∀ x ∈ xs, In64 x.to ∧ In64 x.tag) (hv : SeesM w v xs) (hu : SeesO w u os) (hl : xs.length ≤ 500) :
    Calls Try.prog 19 #[v, u] w fun e w' => ∃ r, e = .returned (.tuple #[r, .int .i64 (combRes os xs).2]) ∧ SeesM w' r (combRes os xs).1 ∧ Below w.heap.size w w' := by
  unfold combRes
  by_cases h1 : xs.all (tagOk os) = false
  · have hm : mayC os xs = 2 := if_pos h1
    have h := comb_bad w v u xs os hv hu (by omega) (.inl hm)
    rw [hm] at h
    rw [if_pos h1]
    exact h
  · by_cases h2 : xs.all (opOk os) = false
    · have hm : mayC os xs = 3 := by unfold mayC; rw [if_neg h1, if_pos h2]
      have h := comb_bad w v u xs os hv hu (by omega) (.inr hm)
      rw [hm] at h
      rw [if_neg h1, if_pos h2]
      exact h
    · rw [if_neg h1, if_neg h2]
      exact comb_ok w v u xs os hin hv hu (by omega) (by simpa using h1) (by simpa using h2)
theorem pEncode : PEncode := fun w v xs hv hl => by
  refine (pencode_any w v xs hv hl).mono ?_
  rintro e w' (⟨h1, rfl, hb⟩ | ⟨h1, u, rfl, hs, hb, hr⟩)
  · unfold encRes
    rw [if_neg (by simp [h1])]
    exact ⟨none, 0, rfl, sb_nil _, hb⟩
  · unfold encRes
    rw [if_pos h1]
    obtain ⟨_, a, cap, rfl, hs⟩ := hs
    obtain ⟨_, _, _, he, hc⟩ := hr
    cases he
    refine ⟨a, cap, rfl, ⟨hc, ?_⟩, hb⟩
    rcases hs with h0 | ⟨b, off, rfl, hs⟩
    · exact .inl h0
    · exact .inr ⟨b, off, rfl, fun j z hz => hs j _ (cellsB_get hz)⟩
theorem pDecode : PDecode := fun w a cap bs hS hby hl => by
  refine (pdecode_any w a cap bs hS hby hl).mono ?_
  rintro e w' ⟨hb, h⟩
  unfold decRes
  cases hd : decs bs with
  | error p => rw [hd] at h; exact ⟨_, h, SeesM.nil, hb⟩
  | ok ms => rw [hd] at h; obtain ⟨v, he, hs⟩ := h; exact ⟨v, he, hs, hb⟩
def L3 : List Msg := [⟨1, 0, 3⟩, ⟨0, 0, 9⟩, ⟨1, 0, 4⟩]
theorem live_comb : combRes [1] L3 = ([⟨0, 0, 9⟩, ⟨1, 0, 7⟩], 0) := by decide +kernel
theorem live_take : takeRes 7 0 1 L3 = (9, 0) := by decide +kernel
theorem live_enc : (encRes (L3.take 1)).1.length = 10 ∧ (encRes (L3.take 1)).2 = 0 := by decide +kernel
theorem live_for : L3.filter (fun x => x.to == 1) = [⟨1, 0, 3⟩, ⟨1, 0, 4⟩] := by decide +kernel
theorem in64_small {a : Int} (h : 0 ≤ a ∧ a ≤ 100) : In64 a := by unfold In64; omega
theorem L3_in : ∀ x ∈ L3, In64 x.to ∧ In64 x.tag := by
  intro x hx
  simp only [L3, List.mem_cons, List.mem_nil_iff, or_false] at hx
  rcases hx with rfl | rfl | rfl <;> exact ⟨in64_small (by decide), in64_small (by decide)⟩
set_option maxRecDepth 100000 in
set_option maxHeartbeats 1000000 in
theorem live_any (w : World) : Calls Try.prog 10 #[] w fun e w' => e = .returned (.bool true) ∧ Below w.heap.size w w' := by
  have HS0 : Hid (SeesM (w.alloc (.cells #[.int .i64 1, .int .i64 0, .int .i64 3, .int .i64 0, .int .i64 0, .int .i64 9, .int .i64 1, .int .i64 0, .int .i64 4] 48)) (.slice (some ⟨w.heap.size, 0, none⟩) 3 3) L3) := hidI (seesM_lit w L3)
  have HB1 : Hid (Below w.heap.size w (w.alloc (.cells #[.int .i64 1, .int .i64 0, .int .i64 3, .int .i64 0, .int .i64 0, .int .i64 9, .int .i64 1, .int .i64 0, .int .i64 4] 48))) := hidI ((Below.refl _ w).alloc (Nat.le_refl _) _)
  have HO1 : Hid (SeesO ((w.alloc (.cells #[.int .i64 1, .int .i64 0, .int .i64 3, .int .i64 0, .int .i64 0, .int .i64 9, .int .i64 1, .int .i64 0, .int .i64 4] 48)).alloc (.cells #[.int .u8 1] 38)) (.slice (some ⟨w.heap.size + 1, 0, none⟩) 1 1) [1]) := hidI (by
    have h := seesO_lit (w.alloc (.cells #[.int .i64 1, .int .i64 0, .int .i64 3, .int .i64 0, .int .i64 0, .int .i64 9, .int .i64 1, .int .i64 0, .int .i64 4] 48)) [1]
    rw [World.size_alloc] at h
    exact h)
  have HS1 := hidI (HS0.out.below ((Below.refl _ (w.alloc (.cells #[.int .i64 1, .int .i64 0, .int .i64 3, .int .i64 0, .int .i64 0, .int .i64 9, .int .i64 1, .int .i64 0, .int .i64 4] 48))).alloc (Nat.le_refl _) (.cells #[.int .u8 1] 38)) (Nat.le_refl _))
  have HB2 := hidI (HB1.out.alloc HB1.out.size (.cells #[.int .u8 1] 38))
  have C1 := hidI (pcombined _ _ _ L3 [1] L3_in HS1.out HO1.out (by decide))
  rw [live_comb] at C1
  simp only at C1
  go_enter Try.func10, Try.ntmps10
  go_wp2_with (go_at_call 19; refine Calls.mono C1.out ?_; rintro e w3 ⟨c, rfl, hc, hb3⟩; refine Hid.out ?_)
  refine hidI ?_
  have HB3 := hidI (HB2.out.trans (hb3.mono HB2.out.size))
  have HS3 := hidI (HS1.out.below hb3 (Nat.le_refl _))
  have HC3 := hidI hc
  clear hb3 hc C1 HS1 HS0 HO1 HB1 HB2
  have C2 := hidI (pTaken w3 _ L3 1 0 7 HS3.out (by decide))
  rw [live_take] at C2
  simp only at C2
  go_wp2_with (go_at_call 21; refine Calls.mono C2.out ?_; rintro e w4 ⟨rfl, hb4⟩; refine Hid.out ?_)
  refine hidI ?_
  have HB4 := hidI (HB3.out.trans (hb4.mono HB3.out.size))
  have HS4 := hidI (HS3.out.below hb4 (Nat.le_refl _))
  have HC4 := hidI (HC3.out.below hb4 (Nat.le_refl _))
  clear hb4 C2 HS3 HC3 HB3
  have HS5 : Hid (SeesM w4 (.slice (some ⟨w.heap.size, 0, none⟩) 1 3) (L3.take 1)) := hidI (HS4.out.low 1 (by decide))
  have C3 := hidI (pEncode w4 _ (L3.take 1) HS5.out (by decide))
  unfold BytesOut at C3
  rw [live_enc.1, live_enc.2] at C3
  go_wp2_with (go_at_call 23; refine Calls.mono C3.out ?_; rintro e w5 ⟨ba, bc, rfl, _, hb5⟩; refine Hid.out ?_)
  refine hidI ?_
  have HB5 := hidI (HB4.out.trans (hb5.mono HB4.out.size))
  have HS6 := hidI (HS4.out.below hb5 (Nat.le_refl _))
  have HC5 := hidI (HC4.out.below hb5 (Nat.le_refl _))
  clear hb5 C3 HS4 HC4 HB4 HS5
  obtain ⟨cb, co, cc, hce, _, _, c7⟩ := HC5.out.cell (j := 1) (x := ⟨1, 0, 7⟩) rfl
  simp only [List.length_cons, List.length_nil, Nat.one_mul] at hce c7
  subst hce
  have C4 := hidI (pFor w5 _ L3 1 HS6.out (by decide))
  rw [live_for] at C4
  have c7' : w5.cell? ⟨cb, co + 3 + 2, none⟩ = some (.int .i64 7) := c7
  clear HC5 HS6
  go_wp2_with (go_at_call 16; refine Calls.mono C4.out ?_; rintro e w6 ⟨f, rfl, hf, hb6⟩; refine Hid.out ?_)
  refine hidI ?_
  have HB6 := hidI (HB5.out.trans (hb6.mono HB5.out.size))
  obtain ⟨fa, fc, hfe, _, _⟩ := hf
  simp only [List.length_cons, List.length_nil] at hfe
  subst hfe
  clear hb6 C4 c7 c7'
  go_wp2
  go_ret
  exact ⟨rfl, HB6.out⟩
theorem pLive : PLive := live_any
end Go.Proofs.Ytdfieflcclbgjaa
