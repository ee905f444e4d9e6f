/-
  The laws' live.
-/
import Derived.Test.YtffdgjlojechaaaBat
namespace Go.Proofs.Ytffdgjlojechaaa
open Go.RowKit Go.Deep Go.MapKept
def p1 : Deed := ⟨1, ⟨#[97]⟩, 0, false, 0, -1⟩
def p2 : Deed := ⟨2, ⟨#[97]⟩, 1, false, 0, -1⟩
theorem reg12' : reg (fun _ => none) 0 [p1, p2] = (1, 10) := by decide
theorem reg2' : reg (fun _ => none) 0 [p2] = (0, 0) := by decide
theorem bat2 : (batch [] none' [p1, p2]).length = 2 := by decide
theorem uniq2 : uniq ([p1, p2].map Deed.t) = [[97]] := by
  have h : ([p1, p2].map Deed.t) = [[97], [97]] := rfl
  rw [h]
  unfold uniq
  have : ([[97], [97]] : List Txt).mergeSort (fun x y => decide (x ≤ y)) = [[97], [97]] := by
    simp [List.mergeSort, List.MergeSort.Internal.splitInTwo]
  rw [this]
  decide
theorem two_seen (W : World) : SeesA (W.alloc (.cells #[.int .u8 1, .string ⟨#[97]⟩, .int .u8 0, .bool false, .int .i64 0, .int .i64 (-1), .int .u8 2, .string ⟨#[97]⟩, .int .u8 1, .bool false, .int .i64 0, .int .i64 (-1)] 39)) (.slice (some ⟨W.heap.size, 0, none⟩) 2 2) [p1, p2] := by
  refine ⟨_, 2, rfl, .inr ⟨W.heap.size, 0, rfl, fun j x hx => ?_⟩⟩
  have hj := (List.getElem?_eq_some_iff.1 hx).1
  have hm : j = 0 ∨ j = 1 := by simp at hj; omega
  rcases hm with rfl | rfl <;> simp only [List.getElem?_cons_zero, List.getElem?_cons_succ, Option.some.injEq] at hx <;> subst hx <;> simp only [p1, p2] <;> refine ⟨?_, ?_, ?_, ?_, ?_, ?_⟩ <;> go_simp
theorem one_seen (W : World) : SeesA (W.alloc (.cells #[.int .u8 1, .string ⟨#[97]⟩, .int .u8 0, .bool false, .int .i64 0, .int .i64 (-1), .int .u8 2, .string ⟨#[97]⟩, .int .u8 1, .bool false, .int .i64 0, .int .i64 (-1)] 39)) (.slice (some ⟨W.heap.size, 6, none⟩) 1 1) [p2] := by
  refine ⟨_, 1, rfl, .inr ⟨W.heap.size, 6, rfl, fun j x hx => ?_⟩⟩
  have hj := (List.getElem?_eq_some_iff.1 hx).1
  obtain rfl : j = 0 := by simpa using hj
  simp only [List.getElem?_cons_zero, Option.some.injEq] at hx
  subst hx
  simp only [p2]
  refine ⟨?_, ?_, ?_, ?_, ?_, ?_⟩ <;> go_simp
theorem ok2 : okA [p1, p2] := by intro x hx; simp only [List.mem_cons, List.mem_nil_iff, or_false] at hx; rcases hx with rfl | rfl <;> decide
theorem ok1 : okA [p2] := by intro x hx; simp only [List.mem_cons, List.mem_nil_iff, or_false] at hx; subst hx; decide
set_option maxRecDepth 100000 in
set_option maxHeartbeats 1000000 in
theorem live_any (w : World) : Calls Try.prog 10 #[] w fun e w' => e = .returned (.bool true) ∧ Below w.heap.size w w' := by
  obtain ⟨W, hW⟩ : ∃ W, w.alloc (.cells #[.int .u8 1, .string ⟨#[97]⟩, .int .u8 0, .bool false, .int .i64 0, .int .i64 (-1), .int .u8 2, .string ⟨#[97]⟩, .int .u8 1, .bool false, .int .i64 0, .int .i64 (-1)] 39) = W := ⟨_, rfl⟩
  have hS2 := two_seen w
  have hS1 := one_seen w
  have hbW : Below w.heap.size w (w.alloc (.cells #[.int .u8 1, .string ⟨#[97]⟩, .int .u8 0, .bool false, .int .i64 0, .int .i64 (-1), .int .u8 2, .string ⟨#[97]⟩, .int .u8 1, .bool false, .int .i64 0, .int .i64 (-1)] 39)) := by (repeat (first | exact Below.refl _ _ | assumption | refine Below.drew ?_ | refine Below.alloc ?_ (by first | omega | (simp; done) | (simp; omega)) _ | refine Below.setCell ?_ (by first | omega | (simp; done) | (simp; omega)) _))
  rw [hW] at hS2 hS1 hbW
  have C1 : Hid (∀ u : World, Below W.heap.size W u → Calls Try.prog 8 #[.slice (some ⟨w.heap.size, 0, none⟩) 2 2] u fun e w' => e = .returned (.tuple #[.int .i64 1, .int .i64 10]) ∧ Below u.heap.size u w') := hidI fun u hu => by
    have := region_any u _ _ (hS2.below hu (Nat.le_refl _)) ok2 (by simp)
    rwa [reg12'] at this
  have C2 : Hid (∀ u : World, Below W.heap.size W u → Calls Try.prog 8 #[.slice (some ⟨w.heap.size, 6, none⟩) 1 1] u fun e w' => e = .returned (.tuple #[.int .i64 0, .int .i64 0]) ∧ Below u.heap.size u w') := hidI fun u hu => by
    have := region_any u _ _ (hS1.below hu (Nat.le_refl _)) ok1 (by simp)
    rwa [reg2'] at this
  have C3 : Hid (∀ u : World, Below W.heap.size W u → Calls Try.prog 12 #[.slice (some ⟨w.heap.size, 0, none⟩) 2 2] u fun e w' => ∃ b off cap, e = .returned (.slice (some ⟨b, off, none⟩) 1 cap) ∧ w'.cell? ⟨b, off, none⟩ = some (.string ⟨#[97]⟩) ∧ Below u.heap.size u w') := hidI fun u hu => by
    refine Calls.mono (writes_any u _ _ (hS2.below hu (Nat.le_refl _)) ok2 (by simp)) ?_
    rintro e w' ⟨v', rfl, hs, hb⟩
    rw [uniq2] at hs
    obtain ⟨a, cap, rfl, _, hs⟩ := hs
    rcases hs with hs | ⟨b, off, rfl, hs⟩
    · simp at hs
    · have h0 := hs 0 [97] rfl
      exact ⟨b, off, cap, rfl, by simpa [bytesOf] using h0, hb⟩
  have C4 : Hid (∀ u : World, Below W.heap.size W u → Calls Try.prog 15 #[.slice (some ⟨w.heap.size, 0, none⟩) 2 2] u fun e w' => ∃ a cap, e = .returned (.slice a 2 cap) ∧ Below u.heap.size u w') := hidI fun u hu => by
    refine Calls.mono (batches_any u _ _ (hS2.below hu (Nat.le_refl _)) ok2 (by simp)) ?_
    rintro e w' ⟨v', vs, rfl, hR, hb⟩
    have ho := hR.own
    rw [bat2] at ho
    rcases ho.2 with ⟨_, h0⟩ | ⟨g, cap, _, rfl, _⟩
    · omega
    · exact ⟨_, _, rfl, hb⟩
  have HbW := hidI hbW
  clear hS1 hS2 hbW
  go_enter Try.func10, Try.ntmps10
  go_wp2_with (go_at_call 8; refine Calls.mono (C1.out _ (Below.refl _ _)) ?_; rintro e w1 ⟨rfl, hb1⟩; refine Hid.out ?_)
  refine hidI ?_
  have H1 := hidI hb1
  have hz1 := hb1.size
  clear hb1
  go_wp2_with (go_at_call 8; refine Calls.mono (C2.out _ H1.out) ?_; rintro e w2 ⟨rfl, hb2⟩; refine Hid.out ?_)
  refine hidI ?_
  have H2 := hidI (H1.out.trans (hb2.mono hz1))
  have hz2 := H2.out.size
  clear hb2
  go_wp2_with (go_at_call 12; refine Calls.mono (C3.out _ H2.out) ?_; rintro e w3 ⟨b, off, cap, rfl, hc, hb3⟩; refine Hid.out ?_)
  refine hidI ?_
  have H3 := hidI (H2.out.trans (hb3.mono hz2))
  have hz3 := H3.out.size
  clear hb3
  go_wp2_with (go_at_call 15; refine Calls.mono (C4.out _ H3.out) ?_; rintro e w4 ⟨a4, cap4, rfl, hb4⟩; refine Hid.out ?_)
  refine hidI ?_
  have H4 := hidI (H3.out.trans (hb4.mono hz3))
  clear hb4
  go_wp2
  go_ret
  exact ⟨rfl, HbW.out.trans (H4.out.mono HbW.out.size)⟩
end Go.Proofs.Ytffdgjlojechaaa
