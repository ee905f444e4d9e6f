/-
  What must be whatever is asked: the function live of the statements on numbers comes to true; the calls of Digits, Parse, Do under it.
-/
import Derived.Test.YtcaecfmjnboamaaDoorDo
import Derived.Test.YtcaecfmjnboamaaDoorShelf
import Derived.Lib.SmallJoins
import Derived.Lib.AtoiErrMem
namespace Go.Proofs.YtcaecfmjnboamaaDoor
open Go.RowKit
/-- The library's table of powers of ten is laid. -/
def Tab (w : World) : Prop := Lib.TabIs Tryd.prog w "internal/strconv.uint64pow10" .u64 Lib.pow10Tab
theorem gTab : Tryd.prog.globalNamed "internal/strconv.uint64pow10" = some 2 := by kernel_rfl
theorem Tab.on {w w' : World} (h : Tab w) (hb : Below w.heap.size w w') : Tab w' := Joins.tab_stays gTab h hb (Nat.le_refl _)
theorem below_grow (w : World) (k : Nat) (os : Array Obj) : Below w.heap.size w (Sort.grow (w.drewN k) os) :=
  ⟨rfl, rfl, rfl, by simp [Sort.grow], fun i hi => by show (w.heap ++ os)[i]? = _; rw [Array.getElem?_append_left hi]⟩
theorem digits_any (n : Int) (w : World) (hn : In64 n) (ht : Tab w) :
    Calls Tryd.prog 36 #[.int .i64 n] w fun e w' => e = .returned (.string ⟨(Lib.itoa n).toArray⟩) ∧ Below w.heap.size w w' := by
  go_enter Tryd.func36, Tryd.ntmps36
  go_wp2_with (go_at_call 47; refine (Tryd.strconv_FormatInt_10 n hn.1 hn.2 w ht).mono ?_; rintro e w' ⟨rfl, k, os, rfl⟩)
  go_ret
  exact ⟨rfl, below_grow _ _ _⟩
theorem parseInt_ok (s : ByteArray) (hl : s.size ≤ 281474976710656) (v : Int) (h : Lib.parseIntB 64 s.data.toList = .ok v) (w : World) :
    Calls Tryd.prog 46 #[.string s, .int .i64 10, .int .i64 64] w fun e w' => e = .returned (.tuple #[.int .i64 v, .nilIface]) ∧ Below w.heap.size w w' := by
  refine (Tryd.strconv_ParseInt_10_at64_ok s (by omega) v h w).mono ?_
  rintro e w1 ⟨rfl, rfl | ⟨t, rfl⟩⟩
  · exact ⟨rfl, Below.refl _ _⟩
  · exact ⟨rfl, Lib.bytesWorld_below _ _ _⟩
set_option maxHeartbeats 400000 in
theorem parse_ok (s : ByteArray) (hl : s.size ≤ 281474976710656) (v : Int) (hv : In64 v) (h : Lib.parseIntB 64 s.data.toList = .ok v) (w : World) (ht : Tab w) :
    Calls Tryd.prog 34 #[.string s] w fun e w' => e = .returned (.tuple #[.int .i64 (if (Lib.itoa v == s.toList) = true then v else 0), .int .i64 (if (Lib.itoa v == s.toList) = true then 0 else 3)]) ∧ Below w.heap.size w w' := by
  cases hq : (Lib.itoa v == s.toList)
  all_goals
    go_enter Tryd.func34, Tryd.ntmps34
    go_wp2_with (first | (go_at_call 46; refine (parseInt_ok s hl v h w).mono ?_; rintro e w1 ⟨rfl, hb1⟩; have ht1 := ht.on hb1) | (go_at_call 36; refine (digits_any v _ hv (by assumption)).mono ?_; rintro e w2 ⟨rfl, hb2⟩))
    go_ret2
    exact ⟨rfl, hb1.trans (hb2.mono hb1.size)⟩
theorem itoa17 : (Lib.itoa (-17) == (ByteArray.mk #[45, 49, 55]).toList) = true := by decide +kernel
theorem parse17 (w : World) (ht : Tab w) :
    Calls Tryd.prog 34 #[.string ⟨#[45, 49, 55]⟩] w fun e w' => e = .returned (.tuple #[.int .i64 (-17), .int .i64 0]) ∧ Below w.heap.size w w' := by
  have h := parse_ok ⟨#[45, 49, 55]⟩ (by decide) (-17) (by unfold In64; omega) rfl w ht
  rw [if_pos itoa17, if_pos itoa17] at h
  exact h
theorem reduces17 (w : World) : Calls Tryd.prog 29 #[.int .u8 17] w fun e w' => e = .returned (.tuple #[.int .i64 0, .bool true]) ∧ w = w' := by
  go_enter Tryd.func29, Tryd.ntmps29
  go_wp2
  go_ret2
  exact ⟨rfl, rfl⟩
theorem itoa9 : Lib.itoa (-9) = [45, 57] := by decide +kernel
theorem digits9 (w : World) (ht : Tab w) :
    Calls Tryd.prog 36 #[.int .i64 (-9)] w fun e w' => e = .returned (.string ⟨#[45, 57]⟩) ∧ Below w.heap.size w w' := by
  have h := digits_any (-9) w (by unfold In64; omega) ht
  rw [itoa9] at h
  exact h
theorem shr8 (w : World) : Calls Tryd.prog 22 #[.int .i64 (-8), .int .i64 1] w fun e w' => e = .returned (.int .i64 (-4)) ∧ w = w' :=
  shr_any (-8) 1 w
theorem do19live (w : World) (b off c : Nat) (h0 : w.cell? ⟨b, off, none⟩ = some (.int .i64 8)) (h1 : w.cell? ⟨b, off + 1, none⟩ = some (.int .i64 200)) :
    Calls Tryd.prog 27 #[.int .u8 19, .slice (some ⟨b, off, none⟩) 2 c] w fun e w' => e = .returned (.tuple #[.int .i64 (-56), .int .i64 0]) ∧ Below w.heap.size w w' := by
  refine (do19 w 8 200 b off c h0 h1).mono ?_
  rintro e w' ⟨rfl, n, rfl⟩
  exact ⟨by have h : opTwo 19 8 200 = -56 := by decide +kernel
            rw [h], below_drewN (Below.refl _ _) n⟩
set_option maxHeartbeats 1000000 in
theorem live_any (w : World) (ht : Tab w) : Calls Tryd.prog 9 #[] w fun e w' => e = .returned (.bool true) ∧ Below w.heap.size w w' := by
  go_enter Tryd.func9, Tryd.ntmps9
  go_wp2_with (first
    | (go_at_call 27; refine (do19live _ _ _ _ (by simp) (by simp)).mono ?_; rintro e w1 ⟨rfl, hb1⟩; have ht1 : Tab w1 := (ht.on ((Below.refl _ _).alloc (Nat.le_refl _) _)).on hb1)
    | (go_at_call 34; refine (parse17 _ (by assumption)).mono ?_; rintro e w2 ⟨rfl, hb2⟩; have ht2 := ht1.on hb2)
    | (go_at_call 29; refine (reduces17 _).mono ?_; rintro e w3 ⟨rfl, rfl⟩)
    | (go_at_call 36; refine (digits9 _ (by assumption)).mono ?_; rintro e w4 ⟨rfl, hb4⟩)
    | (go_at_call 22; refine (shr8 _).mono ?_; rintro e w5 ⟨rfl, rfl⟩))
  go_ret
  have hb0 : Below w.heap.size w w1 := ((Below.refl w.heap.size w).alloc (Nat.le_refl _) _).trans (hb1.mono (by simp))
  exact ⟨rfl, (hb0.trans (hb2.mono hb0.size)).trans (hb4.mono (Nat.le_trans hb0.size hb2.size))⟩
end Go.Proofs.YtcaecfmjnboamaaDoor
