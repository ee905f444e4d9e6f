/-
  The calls of both Parse at every text: what they come to.
-/
import Derived.Test.YtmihhebcchpmcaaGreatDoorRefParse
import Derived.Lib.ParseIntBTie
namespace Go.Proofs.YtmihhebcchpmcaaGreatDoor
open Go.RowKit Go.PlainAid
/-- The library's two sentinels are laid. -/
def Sent (w : World) : Prop := (∃ tp p, w.var? Tryz.prog "strconv.ErrSyntax" = some #[.iface tp p]) ∧ ∃ tp p, w.var? Tryz.prog "strconv.ErrRange" = some #[.iface tp p]
theorem gES0 : Tryz.prog.globalNamed "strconv.ErrSyntax" = some 2 := by kernel_rfl
theorem gER0 : Tryz.prog.globalNamed "strconv.ErrRange" = some 3 := by kernel_rfl
theorem Sent.on {w w' : World} (h : Sent w) (hb : Below w.heap.size w w') : Sent w' := by
  obtain ⟨⟨tp, p, h1⟩, tq, q, h2⟩ := h
  exact ⟨⟨tp, p, Joins.var_stays gES0 h1 hb (Nat.le_refl _)⟩, tq, q, Joins.var_stays gER0 h2 hb (Nat.le_refl _)⟩
theorem parse_yes (s : ByteArray) (hl : s.size ≤ 281474976710656) (v : Int) (hv : In64 v) (h : s.data.toList = Lib.itoa v) (w : World) (ht : Tab w) :
    Calls Tryz.prog 67 #[.string s] w fun e w' => e = .returned (.tuple #[.int .i64 v, .int .i64 0]) ∧ Below w.heap.size w w' := by
  have q : (Lib.itoa v == s.toList) = true := by rw [ByteArray.toList_eq, h]; simp
  have := parse_ok s hl v hv (by rw [h]; exact parse_itoa v hv.1 hv.2) w ht
  rw [if_pos q, if_pos q] at this
  exact this
theorem parse_err (s : ByteArray) (w : World) (r : Int) (hc : Calls Tryz.prog 82 #[.string s, .int .i64 10, .int .i64 64] w fun e w' => ∃ N, e = .returned (.tuple #[.int .i64 r, .iface 121 (.pointer (some ⟨N, 0, none⟩))]) ∧ Below w.heap.size w w') :
    Calls Tryz.prog 67 #[.string s] w fun e w' => e = .returned (.tuple #[.int .i64 0, .int .i64 3]) ∧ Below w.heap.size w w' := by
  go_enter Tryz.func67, Tryz.ntmps67
  go_wp2_with (go_at_call 82; refine hc.mono ?_; rintro e w1 ⟨N, rfl, hb1⟩)
  go_ret2
  exact ⟨rfl, hb1⟩
theorem parse_no (s : ByteArray) (hl : s.size ≤ 281474976710656) (h : ∀ v, In64 v → s.data.toList ≠ Lib.itoa v) (w : World) (ht : Tab w) (hs : Sent w) :
    Calls Tryz.prog 67 #[.string s] w fun e w' => e = .returned (.tuple #[.int .i64 0, .int .i64 3]) ∧ Below w.heap.size w w' := by
  obtain ⟨⟨tp, p, h1⟩, tq, q, h2⟩ := hs
  cases hp : Lib.parseIntB 64 s.data.toList with
  | ok v =>
    have hb := Lib.parseIntB_bounds hp
    have e63 : (2 : Nat) ^ (64 - 1) = 9223372036854775808 := by decide
    rw [e63] at hb
    have hv : In64 v := by unfold In64; omega
    have q : ¬ (Lib.itoa v == s.toList) = true := by
      rw [ByteArray.toList_eq]
      intro hh
      exact h v hv ((by simpa using hh : Lib.itoa v = s.data.toList)).symm
    have := parse_ok s hl v hv hp w ht
    rw [if_neg q, if_neg q] at this
    exact this
  | «syntax» => exact parse_err s w 0 ((Any.strconv_ParseInt_10_at64_syntax_var Tryz.laysC174 s hl hp tp p w h1).mono (by rintro e w' ⟨N, rfl, _, _, hb⟩; exact ⟨N, rfl, hb⟩))
  | range => exact parse_err s w _ ((Any.strconv_ParseInt_10_at64_range_var Tryz.laysC174 s hl hp tq q w h2).mono (by rintro e w' ⟨N, rfl, _, _, hb⟩; exact ⟨N, rfl, hb⟩))
theorem refParse_empty (s : ByteArray) (w : World) (hs : s.size = 0) :
    Calls Tryz.prog 70 #[.string s] w fun e w' => e = .returned (.tuple #[.int .i64 0, .int .i64 3]) ∧ w = w' := by
  have q : decide ((0 : Int) < (s.size : Int)) = false := by rw [hs]; rfl
  have q1 : ((s.size : Int) < 1) := by omega
  clear hs
  go_enter Tryz.func70, Tryz.ntmps70
  go_wp2
  go_ret2
  exact ⟨rfl, rfl⟩
theorem bt_head (s : ByteArray) {c : UInt8} {r : List UInt8} (h : s.data.toList = c :: r) : 0 < s.size ∧ bt s 0 = (c.toNat : Int) := by
  have hz := Lib.size_eq s
  have hs : 0 < s.size := by rw [hz, h]; simp
  obtain ⟨x, hx, hb⟩ := bt_get s 0 hs
  rw [h] at hx
  simp at hx
  subst hx
  exact ⟨hs, hb⟩
theorem refParse_yes (s : ByteArray) (hl : s.size ≤ 281474976710656) (v : Int) (hv : In64 v) (h : s.data.toList = Lib.itoa v) (w : World) :
    Calls Tryz.prog 70 #[.string s] w fun e w' => e = .returned (.tuple #[.int .i64 v, .int .i64 0]) ∧ w = w' := by
  rcases ok_itoa hv.1 hv.2 with ⟨_, hok, hval⟩ | ⟨_, ds, hds, hok, hval⟩
  · rw [← h] at hok hval
    have hne := hok.1
    obtain ⟨c, r, hcr⟩ : ∃ c r, s.data.toList = c :: r := by
      cases hx : s.data.toList with
      | nil => exact absurd hx hne
      | cons c r => exact ⟨c, r, rfl⟩
    obtain ⟨hs, hb⟩ := bt_head s hcr
    have hd := hok.2.2.2.1 c (by rw [hcr]; simp)
    unfold Dig at hd
    have q45 : (bt s 0 == 45) = false := by rw [hb]; simp; omega
    refine (refParse_pos s w hs hl q45).mono ?_
    rintro e w' (⟨rfl, _, rfl⟩ | ⟨_, hn, _⟩)
    · exact ⟨by rw [hval], rfl⟩
    · exact absurd hok hn
  · rw [← h] at hds
    obtain ⟨hs, hb⟩ := bt_head s hds
    have q45 : (bt s 0 == 45) = true := by rw [hb]; rfl
    have hcons := neg_cons s _ hs rfl q45
    have e : (s.extract 1 s.size).data.toList = ds := (List.cons.inj (hcons.symm.trans hds)).2
    refine (refParse_neg s _ w hs hl rfl q45).mono ?_
    rw [e]
    rintro e w' (⟨rfl, _, rfl⟩ | ⟨_, hn, _⟩)
    · exact ⟨by rw [hval], rfl⟩
    · exact absurd hok hn
theorem refParse_no (s : ByteArray) (hl : s.size ≤ 281474976710656) (h : ∀ v, In64 v → s.data.toList ≠ Lib.itoa v) (w : World) :
    Calls Tryz.prog 70 #[.string s] w fun e w' => e = .returned (.tuple #[.int .i64 0, .int .i64 3]) ∧ w = w' := by
  by_cases hs0 : s.size = 0
  · exact refParse_empty s w hs0
  have hs : 0 < s.size := by omega
  cases q45 : (bt s 0 == 45)
  · refine (refParse_pos s w hs hl q45).mono ?_
    rintro e w' (⟨rfl, hok, rfl⟩ | ⟨rfl, _, rfl⟩)
    · exfalso
      have hb := hok.2.2.2.2
      rw [if_neg (by decide)] at hb
      exact h _ (by unfold In64; omega) (ok_pos hok)
    · exact ⟨rfl, rfl⟩
  · have hcons := neg_cons s _ hs rfl q45
    refine (refParse_neg s _ w hs hl rfl q45).mono ?_
    rintro e w' (⟨rfl, hok, rfl⟩ | ⟨rfl, _, rfl⟩)
    · exfalso
      have hb := hok.2.2.2.2
      rw [if_pos rfl] at hb
      exact h _ (by unfold In64; omega) (hcons.trans (ok_neg hok).1)
    · exact ⟨rfl, rfl⟩
end Go.Proofs.YtmihhebcchpmcaaGreatDoor
