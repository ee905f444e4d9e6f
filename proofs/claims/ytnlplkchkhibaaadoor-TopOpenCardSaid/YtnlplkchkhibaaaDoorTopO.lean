/-
  A text with a bracket too few, or too many, is no forms: the walk.
-/
import Derived.Test.YtnlplkchkhibaaaDoorTopOM
namespace Go.Proofs.YtnlplkchkhibaaaDoor
open Go.RowKit Go.Deep Go.MapKept
theorem slice_upto (s : ByteArray) (j : Nat) (h : j ≤ s.size) (w : World) : (Instr.slice 9 (.string s) none (some (.int .i64 (j : Int))) none).run Tryd.prog w = .ok (.string (bytesOf (s.data.toList.take j))) w := by
  rw [run_slice_string_to_if w 9 s .i64 _ Tryd.underlying9, if_pos (by omega)]
  congr 2
  apply ByteArray.ext
  simp only [bytesOf, ByteArray.data_extract]
  apply Array.toList_inj.1
  rw [Array.toList_extract, List.extract_eq_take_drop, Int.toNat_natCast]
  simp
theorem bytes_cat (a b : Txt) : bytesOf a ++ bytesOf b = bytesOf (a ++ b) := by
  apply ByteArray.ext
  simp [bytesOf]
theorem rep_next (i : Nat) : bytesOf (rep i) ++ ({ data := #[40, 98, 32, 49, 41, 32] } : ByteArray) = bytesOf (rep (i + 1)) := by
  rw [rep_succ, ← bytes_cat]
  rfl
theorem cat_run (a b : Txt) (h : a.length + b.length ≤ 1000) (w : World) : (Op.stringOp .add (bytesOf a) (bytesOf b)).run Tryd.prog w = .ok (.string (bytesOf (a ++ b))) w := by
  rw [run_string_add_sum w _ _ (by rw [bytes_size, bytes_size]; omega), bytes_cat]
theorem cut_to (n k : Nat) (h : k ≤ n) (w : World) : (Instr.slice 9 (.string (bytesOf (rep n))) none (some (.int .i64 ((6 * k : Nat) : Int))) none).run Tryd.prog w = .ok (.string (bytesOf ((rep n).take (6 * k)))) w := by
  rw [slice_upto _ _ (by rw [bytes_size, rep_len]; omega)]
  simp [bytesOf]
theorem cut_from (n k : Nat) (h : k ≤ n) (w : World) : (Instr.slice 9 (.string (bytesOf (rep n))) (some (.int .i64 ((6 * k : Nat) : Int))) none none).run Tryd.prog w = .ok (.string (bytesOf ((rep n).drop (6 * k)))) w := by
  rw [slice_from _ _ (by rw [bytes_size, rep_len]; omega)]
  congr 2
  have hd : (bytesOf (rep n)).data.toList = rep n := by simp [bytesOf]
  rw [hd, bytes_size]
  congr 1
  rw [List.take_of_length_le (by simp)]
theorem withB_cat (n k : Nat) (c : UInt8) : bytesOf ((rep n).take (6 * k)) ++ ({ data := #[c] } : ByteArray) ++ bytesOf ((rep n).drop (6 * k)) = bytesOf (withB n k c) := by
  unfold withB
  rw [← bytes_cat, ← bytes_cat]
  rfl
theorem toks_withB {n k : Nat} (hn : n ≤ 10) (hk : k < n) {c : UInt8} (hc : c = 40 ∨ c = 41) :
    ∃ ts : List Tok, (∀ w, Laid w → Calls Tryd.prog 25 #[.string (bytesOf (withB n k c))] w fun e w' => ∃ v, e = .returned (.tuple #[v, .int .i64 0, .int .i64 0]) ∧ SeesC w' v ts.length 4 (flatT ts) ∧ Below w.heap.size w w') ∧
      ∀ w v, SeesC w v ts.length 4 (flatT ts) → Calls Tryd.prog 9 #[v] w fun e w' => e = .returned (.tuple #[.slice none 0 0, .slice none 0 0, .int .i64 (6 * (k : Int)), .int .i64 8]) ∧ Below w.heap.size w w' := by
  obtain ⟨ts, h1, h2, h3, h4⟩ := lex_withB hn hk hc
  refine ⟨ts, fun w hL => (toks_any _ w hL).mono ?_, fun w v hs => (tparse_any ts v w hs h4 (by omega)).mono ?_⟩
  · rintro e w' ⟨v, rfl, v', hv, hs, hb⟩
    rw [h1] at hv hs
    exact ⟨v', by rw [hv], hs, hb⟩
  · intro e w' hh
    rw [h2] at hh
    obtain ⟨rfl, hb⟩ := hh
    refine ⟨?_, hb⟩
    rw [show (6 * (k : Int)) = ((6 * k : Nat) : Int) by omega]
theorem Laid.drewN {w : World} (h : Laid w) (n : Nat) : Laid (w.drewN n) := h.on ⟨rfl, rfl, rfl, Nat.le_refl _, fun _ _ => rfl⟩
theorem below_drewN (w : World) (n : Nat) : Below w.heap.size w (w.drewN n) := ⟨rfl, rfl, rfl, Nat.le_refl _, fun _ _ => rfl⟩
theorem mod10 (a : Int) (h0 : 0 ≤ a) : ∃ m : Nat, m < 10 ∧ a.tmod 10 = (m : Int) := ⟨(a.tmod 10).toNat, by have := Int.tmod_lt_of_pos a (show (0 : Int) < 10 by decide); have := Int.tmod_nonneg 10 h0; omega, by have := Int.tmod_nonneg 10 h0; omega⟩
set_option maxHeartbeats 2000000 in
theorem topOpen_law (a b : Int) (ha0 : 0 ≤ a) (ha1 : a ≤ 255) (hb0 : 0 ≤ b) (hb1 : b ≤ 255) (w : World) (hL : Laid w) : Calls Tryd.prog 8 #[.int .u8 a, .int .u8 b] w fun e w' => e = .returned (.bool true) ∧ Below w.heap.size w w' := by
  obtain ⟨m, hm, em⟩ := mod10 a ha0
  obtain ⟨q, hq, eq⟩ := mod10 b hb0
  have HL := hidI hL
  clear hL
  have w1 : IntKind.i64.wrap a = a := by rw [IntKind.wrap_i64]; omega
  have w2 : IntKind.i64.wrap b = b := by rw [IntKind.wrap_i64]; omega
  go_enter Tryd.func8, Tryd.ntmps8
  go_wp2
  go_loopg [7, 8] (m + 1) (fun g s7 s8 wx => ∃ i : Nat, i + g = m + 1 ∧ s8 = .int .i64 (i : Int) ∧ s7 = .string (bytesOf (rep i)) ∧ w = wx)
  case atStart => exact ⟨0, by omega, rfl, rfl, rfl⟩
  case round =>
    obtain ⟨i, hi, rfl, rfl, rfl⟩ := hrel
    cases gk with
    | succ g =>
      have e1 : (i : Int) < (m : Int) + 1 := by omega
      have sa : ∀ w : World, (Op.stringOp .add (bytesOf (rep i)) { data := #[40, 98, 32, 49, 41, 32] }).run Tryd.prog w = .ok (.string (bytesOf (rep (i + 1)))) w := fun w => by
        rw [rep_succ]
        exact cat_run (rep i) unit6 (by rw [rep_len]; simp [unit6]; omega) w
      go_wp2
      go_roundg g
      case measure => omega
      case rel => exact ⟨i + 1, by omega, by go_num, rfl, rfl⟩
    | zero =>
      obtain rfl : i = m + 1 := by omega
      have e1 : ¬ (((m + 1 : Nat) : Int) < (m : Int) + 1) := by omega
      by_cases hge : m + 1 ≤ q
      · have e2 : (m : Int) + 1 ≤ (q : Int) := by omega
        have hK : m < m + 1 := by omega
        have s1 : ∀ w : World, (Instr.slice 9 (.string (bytesOf (rep (m + 1)))) none (some (.int .i64 (6 * (m : Int)))) none).run Tryd.prog w = .ok (.string (bytesOf ((rep (m + 1)).take (6 * m)))) w := fun w => by have := cut_to (m + 1) m (by omega) w; rwa [show ((6 * m : Nat) : Int) = 6 * (m : Int) by omega] at this
        have s2 : ∀ w : World, (Instr.slice 9 (.string (bytesOf (rep (m + 1)))) (some (.int .i64 (6 * (m : Int)))) none none).run Tryd.prog w = .ok (.string (bytesOf ((rep (m + 1)).drop (6 * m)))) w := fun w => by have := cut_from (m + 1) m (by omega) w; rwa [show ((6 * m : Nat) : Int) = 6 * (m : Int) by omega] at this
        have s3 : ∀ w : World, (Op.stringOp .add (bytesOf ((rep (m + 1)).take (6 * m))) { data := #[40] }).run Tryd.prog w = .ok (.string (bytesOf ((rep (m + 1)).take (6 * m) ++ [40]))) w := fun w => cat_run _ [40] (by simp [rep_len]; omega) w
        have s4 : ∀ w : World, (Op.stringOp .add (bytesOf ((rep (m + 1)).take (6 * m))) { data := #[41] }).run Tryd.prog w = .ok (.string (bytesOf ((rep (m + 1)).take (6 * m) ++ [41]))) w := fun w => cat_run _ [41] (by simp [rep_len]; omega) w
        have s5 : ∀ w : World, (Op.stringOp .add (bytesOf ((rep (m + 1)).take (6 * m) ++ [40])) (bytesOf ((rep (m + 1)).drop (6 * m)))).run Tryd.prog w = .ok (.string (bytesOf (withB (m + 1) m 40))) w := fun w => cat_run _ _ (by simp [rep_len]; omega) w
        have s6 : ∀ w : World, (Op.stringOp .add (bytesOf ((rep (m + 1)).take (6 * m) ++ [41])) (bytesOf ((rep (m + 1)).drop (6 * m)))).run Tryd.prog w = .ok (.string (bytesOf (withB (m + 1) m 41))) w := fun w => cat_run _ _ (by simp [rep_len]; omega) w
        have w6 : IntKind.i64.wrap (6 * (m : Int)) = 6 * (m : Int) := by rw [IntKind.wrap_i64]; omega
        go_wp2
        go_quiet (fail)
        generalize nq = n1
        go_wp2
        go_quiet (fail)
        generalize nq = n2
        clear s1 s2 s3 s4 s5 s6 w6 e1 e2 w1 w2 em eq
        obtain ⟨ts1, c1, p1⟩ := toks_withB (n := m + 1) (k := m) (by omega) hK (c := 40) (.inl rfl)
        obtain ⟨ts2, c2, p2⟩ := toks_withB (n := m + 1) (k := m) (by omega) hK (c := 41) (.inr rfl)
        have C1 := hidI c1
        have C2 := hidI c2
        have P1 := hidI p1
        have P2 := hidI p2
        have w6 : IntKind.i64.wrap (6 * (m : Int)) = 6 * (m : Int) := by rw [IntKind.wrap_i64]; omega
        clear c1 c2 p1 p2
        have hDB : Below w.heap.size w (w.drewN (n1 + n2)) := below_drewN w _
        have HLv : Hid (Laid (w.drewN (n1 + n2))) := hidI (HL.out.drewN _)
        have HB0 := hidI hDB
        obtain ⟨V, hV⟩ : ∃ V, w.drewN (n1 + n2) = V := ⟨_, rfl⟩
        (try simp only [World.drewN_drewN])
        rw [hV] at HLv HB0 ⊢
        clear hV hDB
        go_wp2_with (first
          | (go_at_call 25; have hh := C1.out; clear hh; refine (C1.out _ HLv.out).mono ?_; rintro e V1 ⟨v1, rfl, hs1, hb1⟩; have HS1 := hidI hs1; have HB1 := hidI hb1; have HL1 := hidI (HLv.out.on hb1); clear hs1 hb1 C1)
          | (go_at_call 25; refine (C2.out _ HL1.out).mono ?_; rintro e V2 ⟨v2, rfl, hs2, hb2⟩; have HS2 := hidI hs2; have HB2 := hidI hb2; have HS1b := hidI (HS1.out.below hb2 (Nat.le_refl _)); clear hs2 hb2)
          | (go_at_call 9; have hh := P1.out; clear hh; refine (P1.out _ _ HS1b.out).mono ?_; rintro e V3 ⟨rfl, hb3⟩; have HB3 := hidI hb3; have HS2b := hidI (HS2.out.below hb3 (Nat.le_refl _)); clear hb3 P1)
          | (go_at_call 9; refine (P2.out _ _ HS2b.out).mono ?_; rintro e V4 ⟨rfl, hb4⟩; have HB4 := hidI hb4; clear hb4))
        go_ret
        refine ⟨rfl, ?_⟩
        have q1 := HB0.out.trans (HB1.out.mono HB0.out.size)
        have q2 := q1.trans (HB2.out.mono q1.size)
        have q3 := q2.trans (HB3.out.mono q2.size)
        exact q3.trans (HB4.out.mono q3.size)
      · have e2 : ¬ ((m : Int) + 1 ≤ (q : Int)) := by omega
        have hK : q < m + 1 := by omega
        have s1 : ∀ w : World, (Instr.slice 9 (.string (bytesOf (rep (m + 1)))) none (some (.int .i64 (6 * (q : Int)))) none).run Tryd.prog w = .ok (.string (bytesOf ((rep (m + 1)).take (6 * q)))) w := fun w => by have := cut_to (m + 1) q (by omega) w; rwa [show ((6 * q : Nat) : Int) = 6 * (q : Int) by omega] at this
        have s2 : ∀ w : World, (Instr.slice 9 (.string (bytesOf (rep (m + 1)))) (some (.int .i64 (6 * (q : Int)))) none none).run Tryd.prog w = .ok (.string (bytesOf ((rep (m + 1)).drop (6 * q)))) w := fun w => by have := cut_from (m + 1) q (by omega) w; rwa [show ((6 * q : Nat) : Int) = 6 * (q : Int) by omega] at this
        have s3 : ∀ w : World, (Op.stringOp .add (bytesOf ((rep (m + 1)).take (6 * q))) { data := #[40] }).run Tryd.prog w = .ok (.string (bytesOf ((rep (m + 1)).take (6 * q) ++ [40]))) w := fun w => cat_run _ [40] (by simp [rep_len]; omega) w
        have s4 : ∀ w : World, (Op.stringOp .add (bytesOf ((rep (m + 1)).take (6 * q))) { data := #[41] }).run Tryd.prog w = .ok (.string (bytesOf ((rep (m + 1)).take (6 * q) ++ [41]))) w := fun w => cat_run _ [41] (by simp [rep_len]; omega) w
        have s5 : ∀ w : World, (Op.stringOp .add (bytesOf ((rep (m + 1)).take (6 * q) ++ [40])) (bytesOf ((rep (m + 1)).drop (6 * q)))).run Tryd.prog w = .ok (.string (bytesOf (withB (m + 1) q 40))) w := fun w => cat_run _ _ (by simp [rep_len]; omega) w
        have s6 : ∀ w : World, (Op.stringOp .add (bytesOf ((rep (m + 1)).take (6 * q) ++ [41])) (bytesOf ((rep (m + 1)).drop (6 * q)))).run Tryd.prog w = .ok (.string (bytesOf (withB (m + 1) q 41))) w := fun w => cat_run _ _ (by simp [rep_len]; omega) w
        have w6 : IntKind.i64.wrap (6 * (q : Int)) = 6 * (q : Int) := by rw [IntKind.wrap_i64]; omega
        go_wp2
        go_quiet (fail)
        generalize nq = n1
        go_wp2
        go_quiet (fail)
        generalize nq = n2
        clear s1 s2 s3 s4 s5 s6 w6 e1 e2 w1 w2 em eq
        obtain ⟨ts1, c1, p1⟩ := toks_withB (n := m + 1) (k := q) (by omega) hK (c := 40) (.inl rfl)
        obtain ⟨ts2, c2, p2⟩ := toks_withB (n := m + 1) (k := q) (by omega) hK (c := 41) (.inr rfl)
        have C1 := hidI c1
        have C2 := hidI c2
        have P1 := hidI p1
        have P2 := hidI p2
        have w6 : IntKind.i64.wrap (6 * (q : Int)) = 6 * (q : Int) := by rw [IntKind.wrap_i64]; omega
        clear c1 c2 p1 p2
        have hDB : Below w.heap.size w (w.drewN (n1 + n2)) := below_drewN w _
        have HLv : Hid (Laid (w.drewN (n1 + n2))) := hidI (HL.out.drewN _)
        have HB0 := hidI hDB
        obtain ⟨V, hV⟩ : ∃ V, w.drewN (n1 + n2) = V := ⟨_, rfl⟩
        (try simp only [World.drewN_drewN])
        rw [hV] at HLv HB0 ⊢
        clear hV hDB
        go_wp2_with (first
          | (go_at_call 25; have hh := C1.out; clear hh; refine (C1.out _ HLv.out).mono ?_; rintro e V1 ⟨v1, rfl, hs1, hb1⟩; have HS1 := hidI hs1; have HB1 := hidI hb1; have HL1 := hidI (HLv.out.on hb1); clear hs1 hb1 C1)
          | (go_at_call 25; refine (C2.out _ HL1.out).mono ?_; rintro e V2 ⟨v2, rfl, hs2, hb2⟩; have HS2 := hidI hs2; have HB2 := hidI hb2; have HS1b := hidI (HS1.out.below hb2 (Nat.le_refl _)); clear hs2 hb2)
          | (go_at_call 9; have hh := P1.out; clear hh; refine (P1.out _ _ HS1b.out).mono ?_; rintro e V3 ⟨rfl, hb3⟩; have HB3 := hidI hb3; have HS2b := hidI (HS2.out.below hb3 (Nat.le_refl _)); clear hb3 P1)
          | (go_at_call 9; refine (P2.out _ _ HS2b.out).mono ?_; rintro e V4 ⟨rfl, hb4⟩; have HB4 := hidI hb4; clear hb4))
        go_ret
        refine ⟨rfl, ?_⟩
        have q1 := HB0.out.trans (HB1.out.mono HB0.out.size)
        have q2 := q1.trans (HB2.out.mono q1.size)
        have q3 := q2.trans (HB3.out.mono q2.size)
        exact q3.trans (HB4.out.mono q3.size)
end Go.Proofs.YtnlplkchkhibaaaDoor
