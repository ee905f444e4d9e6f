/-
  LexTokens and LexWords: what the two laws come to.
-/
import Derived.Test.YtlhjellnolhppaaDoorLive
namespace Go.Proofs.YtlhjellnolhppaaDoor
open Go.RowKit Go.Deep Go.MapKept
theorem bad_len : ∀ (ps : List Piece) (c : Nat), c ≤ 600 → bad c ps = none → c + ps.length ≤ 600
  | [], c, h, _ => by simpa using h
  | q :: r, c, h, hb => by
    unfold bad at hb
    split at hb
    · cases hb
    · split at hb
      · cases hb
      · have := bad_len r (c + 1) (by omega) hb
        rw [List.length_cons]; omega
theorem lex_len (s : ByteArray) : (lexRes s).1.length ≤ 600 := by
  unfold lexRes
  split
  · simp
  · split
    · simp
    · rename_i hb
      have := bad_len _ 0 (by decide) hb
      simpa using this
/-- The program's and the document's tokens. -/
theorem toks_two (s : ByteArray) : ∃ (xs : List Tok) (p er : Int), xs.length ≤ 600 ∧ lexRes s = (xs, p, er) ∧
    (∀ w, Laid w → Calls Tryd.prog 8 #[.string s] w fun e w' => ∃ v, e = .returned (.tuple #[v, .int .i64 p, .int .i64 er]) ∧ SeesC w' v xs.length 4 (flatT xs) ∧ Below w.heap.size w w') ∧
    (∀ w, Calls Tryd.prog 10 #[.string s] w fun e w' => ∃ v, e = .returned (.tuple #[v, .int .i64 p, .int .i64 er]) ∧ SeesC w' v xs.length 4 (flatT xs) ∧ Below w.heap.size w w') := by
  refine ⟨(lexRes s).1, (lexRes s).2.1, (lexRes s).2.2, lex_len s, rfl, fun w h => (toks_any s w h).mono ?_, fun w => (rtoks_any s w).mono ?_⟩
  · rintro e w' ⟨_, rfl, v, rfl, hs, hb⟩
    exact ⟨v, rfl, hs, hb⟩
  · rintro e w' ⟨_, rfl, v, rfl, hs, hb⟩
    exact ⟨v, rfl, hs, hb⟩
set_option maxRecDepth 100000 in
set_option maxHeartbeats 1000000 in
theorem lexTokens_law (s : ByteArray) (w : World) (h : Laid w) : Calls Tryd.prog 3 #[.string s] w fun e w' => e = .returned (.bool true) ∧ Below w.heap.size w w' := by
  have CS := hidI (short_any s)
  obtain ⟨xs, p, er, hlen, _, C8, C10⟩ := toks_two (bytesOf (s.data.toList.take 3010))
  obtain ⟨tb, htb⟩ : ∃ tb, bytesOf (s.data.toList.take 3010) = tb := ⟨_, rfl⟩
  rw [htb] at CS C8 C10
  have CL := hidI live_any
  have H8 := hidI C8
  have H10 := hidI C10
  have HL := hidI h
  clear htb C8 C10 h
  go_enter Tryd.func3, Tryd.ntmps3
  go_wp2_with (first | (go_at_call 9; refine Calls.mono (CS.out _) ?_; rintro e w1 ⟨rfl, rfl⟩) | (go_at_call 8; refine Calls.mono (H8.out _ HL.out) ?_; rintro e w1 ⟨va, rfl, hsa, hb1⟩; have HA := hidI hsa; have H1 := hidI hb1; clear hsa hb1) | (go_at_call 10; refine Calls.mono (H10.out _) ?_; rintro e w2 ⟨vb, rfl, hsb, hb2⟩; have HB := hidI hsb; have H2 := hidI hb2; clear hsb hb2) | (go_at_call 11; refine Calls.mono (CL.out _ ((HL.out.on H1.out).on H2.out)) ?_; rintro e w3 ⟨rfl, hb3⟩; have H3 := hidI hb3; clear hb3) | (go_at_call 12; refine Calls.mono (rsame_eq _ _ _ xs ((HA.out.below H2.out (Nat.le_refl _)).below H3.out (Nat.le_refl _)) (HB.out.below H3.out (Nat.le_refl _)) hlen) ?_; rintro e w4 ⟨rfl, hb4⟩; have H4 := hidI hb4; clear hb4))
  go_ret
  refine ⟨rfl, ?_⟩
  have h2 := H1.out.trans (H2.out.mono H1.out.size)
  have h3 := h2.trans (H3.out.mono h2.size)
  exact h3.trans (H4.out.mono h3.size)
set_option maxRecDepth 100000 in
set_option maxHeartbeats 1000000 in
theorem lexWords_in (s : ByteArray) (hs : s.size ≤ 200) (c : Int) (h0 : 0 ≤ c) (h1 : c ≤ 255) (i : Int) (w : World) (h : Laid w) : Calls Tryd.prog 4 #[.string s, .int .u8 c, .int .i64 i] w fun e w' => e = .returned (.bool true) ∧ Below w.heap.size w w' := by
  have C13 := hidI (line_any s i (by omega))
  have C14 := hidI (rline_any s i (by omega))
  have C15 := hidI (kind_any s (by omega))
  have C16 := hidI (rkind_any s (by omega))
  have C17 := hidI (spacedB_any c h0 h1)
  have C18 := hidI (rspaced_any c)
  have CL := hidI live_any
  have HL := hidI h
  obtain ⟨n, hn⟩ : ∃ n, s.size = n := ⟨_, rfl⟩
  have ql : ∀ w, (Builtin.len_ #[9] 3 #[.string s]).run Tryd.prog w = .ok (.int .i64 (n : Int)) w := fun w => by rw [run_len_string w 9 3 s Tryd.underlying9, hn]; rfl
  rw [hn] at hs
  have k1 : decide (200 < (n : Int)) = false := by simp; omega
  obtain ⟨a, ha⟩ : ∃ a : Nat, (lineOf s i).1 = a := ⟨_, rfl⟩
  obtain ⟨b, hb⟩ : ∃ b : Nat, (lineOf s i).2 = b := ⟨_, rfl⟩
  obtain ⟨K, hK⟩ : ∃ K, kindW s = K := ⟨_, rfl⟩
  obtain ⟨sp, hsp⟩ : ∃ sp, spI c = sp := ⟨_, rfl⟩
  rw [ha, hb] at C13 C14
  rw [hK] at C15 C16
  rw [hsp] at C17 C18
  clear hn h ha hb hK hsp
  cases sp
  all_goals
    go_enter Tryd.func4, Tryd.ntmps4
    go_wp2_with (first | (go_at_call 13; refine Calls.mono (C13.out _) ?_; rintro e w1 ⟨rfl, rfl⟩) | (go_at_call 14; refine Calls.mono (C14.out _) ?_; rintro e w1 ⟨rfl, rfl⟩) | (go_at_call 11; refine Calls.mono (CL.out _ HL.out) ?_; rintro e w1 ⟨rfl, hb1⟩; have H1 := hidI hb1; clear hb1) | (go_at_call 15; refine Calls.mono (C15.out _ (HL.out.on H1.out)) ?_; rintro e w2 ⟨rfl, hb2⟩; have H2 := hidI hb2; clear hb2) | (go_at_call 16; refine Calls.mono (C16.out _) ?_; rintro e w3 ⟨rfl, hb3⟩; have H3 := hidI hb3; clear hb3) | (go_at_call 17; refine Calls.mono (C17.out _) ?_; rintro e w4 ⟨rfl, rfl⟩) | (go_at_call 18; refine Calls.mono (C18.out _) ?_; rintro e w5 ⟨rfl, rfl⟩))
    go_ret
    refine ⟨rfl, ?_⟩
    have h2 := H1.out.trans (H2.out.mono H1.out.size)
    exact h2.trans (H3.out.mono h2.size)
set_option maxRecDepth 100000 in
set_option maxHeartbeats 1000000 in
theorem lexWords_out (s : ByteArray) (hs : 200 < s.size) (c : Int) (h0 : 0 ≤ c) (h1 : c ≤ 255) (i : Int) (w : World) (h : Laid w) : Calls Tryd.prog 4 #[.string s, .int .u8 c, .int .i64 i] w fun e w' => e = .returned (.bool true) ∧ Below w.heap.size w w' := by
  have q1 : ∀ w, (Instr.slice 9 (.string s) none (some (.int .i64 200)) none).run Tryd.prog w = .ok (.string (bytesOf (s.data.toList.take 200))) w := slice_upto s 200 (by omega)
  have hsz : (bytesOf (s.data.toList.take 200)).size ≤ 200 := by rw [bytes_size, List.length_take]; omega
  obtain ⟨n, hn⟩ : ∃ n, s.size = n := ⟨_, rfl⟩
  have ql : ∀ w, (Builtin.len_ #[9] 3 #[.string s]).run Tryd.prog w = .ok (.int .i64 (n : Int)) w := fun w => by rw [run_len_string w 9 3 s Tryd.underlying9, hn]; rfl
  rw [hn] at hs
  have k1 : decide (200 < (n : Int)) = true := by simp; omega
  obtain ⟨t, ht⟩ : ∃ t, bytesOf (s.data.toList.take 200) = t := ⟨_, rfl⟩
  rw [ht] at q1 hsz
  have C13 := hidI (line_any t i (by omega))
  have C14 := hidI (rline_any t i (by omega))
  have C15 := hidI (kind_any t (by omega))
  have C16 := hidI (rkind_any t (by omega))
  have C17 := hidI (spacedB_any c h0 h1)
  have C18 := hidI (rspaced_any c)
  have CL := hidI live_any
  have HL := hidI h
  obtain ⟨a, ha⟩ : ∃ a : Nat, (lineOf t i).1 = a := ⟨_, rfl⟩
  obtain ⟨b, hb⟩ : ∃ b : Nat, (lineOf t i).2 = b := ⟨_, rfl⟩
  obtain ⟨K, hK⟩ : ∃ K, kindW t = K := ⟨_, rfl⟩
  obtain ⟨sp, hsp⟩ : ∃ sp, spI c = sp := ⟨_, rfl⟩
  rw [ha, hb] at C13 C14
  rw [hK] at C15 C16
  rw [hsp] at C17 C18
  clear hn h ha hb hK hsp ht hsz
  cases sp
  all_goals
    go_enter Tryd.func4, Tryd.ntmps4
    go_wp2_with (first | (go_at_call 13; refine Calls.mono (C13.out _) ?_; rintro e w1 ⟨rfl, rfl⟩) | (go_at_call 14; refine Calls.mono (C14.out _) ?_; rintro e w1 ⟨rfl, rfl⟩) | (go_at_call 11; refine Calls.mono (CL.out _ HL.out) ?_; rintro e w1 ⟨rfl, hb1⟩; have H1 := hidI hb1; clear hb1) | (go_at_call 15; refine Calls.mono (C15.out _ (HL.out.on H1.out)) ?_; rintro e w2 ⟨rfl, hb2⟩; have H2 := hidI hb2; clear hb2) | (go_at_call 16; refine Calls.mono (C16.out _) ?_; rintro e w3 ⟨rfl, hb3⟩; have H3 := hidI hb3; clear hb3) | (go_at_call 17; refine Calls.mono (C17.out _) ?_; rintro e w4 ⟨rfl, rfl⟩) | (go_at_call 18; refine Calls.mono (C18.out _) ?_; rintro e w5 ⟨rfl, rfl⟩))
    go_ret
    refine ⟨rfl, ?_⟩
    have h2 := H1.out.trans (H2.out.mono H1.out.size)
    exact h2.trans (H3.out.mono h2.size)
theorem lexWords_law (s : ByteArray) (c : Int) (h0 : 0 ≤ c) (h1 : c ≤ 255) (i : Int) (w : World) (h : Laid w) : Calls Tryd.prog 4 #[.string s, .int .u8 c, .int .i64 i] w fun e w' => e = .returned (.bool true) ∧ Below w.heap.size w w' := by
  rcases Nat.lt_or_ge 200 s.size with hs | hs
  · exact lexWords_out s hs c h0 h1 i w h
  · exact lexWords_in s hs c h0 h1 i w h
end Go.Proofs.YtlhjellnolhppaaDoor
