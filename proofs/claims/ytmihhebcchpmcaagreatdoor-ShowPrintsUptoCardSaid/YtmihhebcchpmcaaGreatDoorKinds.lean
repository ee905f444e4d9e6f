/-
  What kind of token a word is.
-/
import Derived.Test.YtmihhebcchpmcaaGreatDoorWords
namespace Go.Proofs.YtmihhebcchpmcaaGreatDoor
open Go.RowKit Go.Deep Go.MapKept
def opc (i : Nat) : UInt8 := ([43, 45, 42, 47, 37, 38, 124, 94, 61, 60] : List UInt8).getD i 0
/-- Is a text an operation's sign? -/
def opB (s : ByteArray) : Bool := (List.range 10).any fun i => s.toList == [opc i]
/-- Does a text say a number? -/
def isNum (s : ByteArray) : Prop := ∃ v, In64 v ∧ s.data.toList = Lib.itoa v
open Classical in
noncomputable def numV (s : ByteArray) : Int := if h : isNum s then h.choose else 0
open Classical in
/-- What kind of token a word is. -/
noncomputable def kindW (s : ByteArray) : Int := if isNum s then 4 else if opB s || nameB s then 3 else 0
theorem numV_in {s : ByteArray} (h : isNum s) : In64 (numV s) ∧ s.data.toList = Lib.itoa (numV s) := by
  unfold numV
  rw [dif_pos h]
  exact h.choose_spec
theorem numV_no {s : ByteArray} (h : ¬ isNum s) : numV s = 0 := by unfold numV; rw [dif_neg h]
open Classical in
/-- The error that a word's number has. -/
noncomputable def numE (s : ByteArray) : Int := if isNum s then 0 else 3
/-- What lies in the library's variables. -/
structure Laid (w : World) : Prop where
  tab : Tab w
  sent : Sent w
theorem Laid.on {w w' : World} (h : Laid w) (hb : Below w.heap.size w w') : Laid w' := ⟨h.tab.on hb, h.sent.on hb⟩
theorem parse_any (s : ByteArray) (hl : s.size ≤ 140737488355328) (w : World) (h : Laid w) : Calls Tryz.prog 67 #[.string s] w fun e w' => e = .returned (.tuple #[.int .i64 (numV s), .int .i64 (numE s)]) ∧ Below w.heap.size w w' := by
  by_cases hn : isNum s
  · obtain ⟨h1, h2⟩ := numV_in hn
    have := parse_yes s (by omega) (numV s) h1 h2 w h.tab
    unfold numE
    rw [if_pos hn]
    exact this
  · have := parse_no s (by omega) (fun v hv e => hn ⟨v, hv, e⟩) w h.tab h.sent
    unfold numE
    rw [if_neg hn, numV_no hn]
    exact this
theorem rparse_any (s : ByteArray) (hl : s.size ≤ 140737488355328) (w : World) : Calls Tryz.prog 70 #[.string s] w fun e w' => e = .returned (.tuple #[.int .i64 (numV s), .int .i64 (numE s)]) ∧ w = w' := by
  by_cases hn : isNum s
  · obtain ⟨h1, h2⟩ := numV_in hn
    have := refParse_yes s (by omega) (numV s) h1 h2 w
    unfold numE
    rw [if_pos hn]
    exact this
  · have := refParse_no s (by omega) (fun v hv e => hn ⟨v, hv, e⟩) w
    unfold numE
    rw [if_neg hn, numV_no hn]
    exact this
set_option maxRecDepth 100000 in
set_option maxHeartbeats 1000000 in
theorem op_any (s : ByteArray) (w : World) : Calls Tryz.prog 68 #[.string s] w fun e w' => e = .returned (.bool (opB s)) ∧ w = w' := by
  cases h0 : (s.toList == [43]) with
  | true =>
    have HRES : Hid (opB s = true) := hidI (by
      unfold opB
      rw [List.any_eq_true]
      exact ⟨0, by simp, by simpa [opc] using h0⟩)
    rw [HRES.out]
    go_enter Tryz.func68, Tryz.ntmps68
    go_wp2
    go_ret
    exact ⟨rfl, rfl⟩
  | false =>
    cases h1 : (s.toList == [45]) with
    | true =>
      have HRES : Hid (opB s = true) := hidI (by
        unfold opB
        rw [List.any_eq_true]
        exact ⟨1, by simp, by simpa [opc] using h1⟩)
      rw [HRES.out]
      go_enter Tryz.func68, Tryz.ntmps68
      go_wp2
      go_ret
      exact ⟨rfl, rfl⟩
    | false =>
      cases h2 : (s.toList == [42]) with
      | true =>
        have HRES : Hid (opB s = true) := hidI (by
          unfold opB
          rw [List.any_eq_true]
          exact ⟨2, by simp, by simpa [opc] using h2⟩)
        rw [HRES.out]
        go_enter Tryz.func68, Tryz.ntmps68
        go_wp2
        go_ret
        exact ⟨rfl, rfl⟩
      | false =>
        cases h3 : (s.toList == [47]) with
        | true =>
          have HRES : Hid (opB s = true) := hidI (by
            unfold opB
            rw [List.any_eq_true]
            exact ⟨3, by simp, by simpa [opc] using h3⟩)
          rw [HRES.out]
          go_enter Tryz.func68, Tryz.ntmps68
          go_wp2
          go_ret
          exact ⟨rfl, rfl⟩
        | false =>
          cases h4 : (s.toList == [37]) with
          | true =>
            have HRES : Hid (opB s = true) := hidI (by
              unfold opB
              rw [List.any_eq_true]
              exact ⟨4, by simp, by simpa [opc] using h4⟩)
            rw [HRES.out]
            go_enter Tryz.func68, Tryz.ntmps68
            go_wp2
            go_ret
            exact ⟨rfl, rfl⟩
          | false =>
            cases h5 : (s.toList == [38]) with
            | true =>
              have HRES : Hid (opB s = true) := hidI (by
                unfold opB
                rw [List.any_eq_true]
                exact ⟨5, by simp, by simpa [opc] using h5⟩)
              rw [HRES.out]
              go_enter Tryz.func68, Tryz.ntmps68
              go_wp2
              go_ret
              exact ⟨rfl, rfl⟩
            | false =>
              cases h6 : (s.toList == [124]) with
              | true =>
                have HRES : Hid (opB s = true) := hidI (by
                  unfold opB
                  rw [List.any_eq_true]
                  exact ⟨6, by simp, by simpa [opc] using h6⟩)
                rw [HRES.out]
                go_enter Tryz.func68, Tryz.ntmps68
                go_wp2
                go_ret
                exact ⟨rfl, rfl⟩
              | false =>
                cases h7 : (s.toList == [94]) with
                | true =>
                  have HRES : Hid (opB s = true) := hidI (by
                    unfold opB
                    rw [List.any_eq_true]
                    exact ⟨7, by simp, by simpa [opc] using h7⟩)
                  rw [HRES.out]
                  go_enter Tryz.func68, Tryz.ntmps68
                  go_wp2
                  go_ret
                  exact ⟨rfl, rfl⟩
                | false =>
                  cases h8 : (s.toList == [61]) with
                  | true =>
                    have HRES : Hid (opB s = true) := hidI (by
                      unfold opB
                      rw [List.any_eq_true]
                      exact ⟨8, by simp, by simpa [opc] using h8⟩)
                    rw [HRES.out]
                    go_enter Tryz.func68, Tryz.ntmps68
                    go_wp2
                    go_ret
                    exact ⟨rfl, rfl⟩
                  | false =>
                    cases h9 : (s.toList == [60]) with
                    | true =>
                      have HRES : Hid (opB s = true) := hidI (by
                        unfold opB
                        rw [List.any_eq_true]
                        exact ⟨9, by simp, by simpa [opc] using h9⟩)
                      rw [HRES.out]
                      go_enter Tryz.func68, Tryz.ntmps68
                      go_wp2
                      go_ret
                      exact ⟨rfl, rfl⟩
                    | false =>
                      have HRES : Hid (opB s = false) := hidI (by
                        unfold opB
                        rw [List.any_eq_false]
                        intro i hi
                        have hi' : i < 10 := List.mem_range.1 hi
                        have hc : i = 0 ∨ i = 1 ∨ i = 2 ∨ i = 3 ∨ i = 4 ∨ i = 5 ∨ i = 6 ∨ i = 7 ∨ i = 8 ∨ i = 9 := by omega
                        rcases hc with rfl | rfl | rfl | rfl | rfl | rfl | rfl | rfl | rfl | rfl <;> simp [opc, *])
                      rw [HRES.out]
                      go_enter Tryz.func68, Tryz.ntmps68
                      go_wp2
                      go_ret
                      exact ⟨rfl, rfl⟩
set_option maxHeartbeats 1000000 in
theorem kind_any (s : ByteArray) (hl : s.size ≤ 140737488355328) (w : World) (h : Laid w) : Calls Tryz.prog 53 #[.string s] w fun e w' => e = .returned (.int .u8 (kindW s)) ∧ Below w.heap.size w w' := by
  have C := hidI (parse_any s hl w h)
  have CO := hidI (op_any s)
  have CN := hidI (name_any s)
  obtain ⟨v, hv⟩ : ∃ v, numV s = v := ⟨_, rfl⟩
  rw [hv] at C
  by_cases hn : isNum s
  · have hk : kindW s = 4 := by unfold kindW; rw [if_pos hn]
    have he : numE s = 0 := by unfold numE; rw [if_pos hn]
    rw [hk]
    rw [he] at C
    clear hk he hn hv
    go_enter Tryz.func53, Tryz.ntmps53
    go_wp2_with (go_at_call 67; refine Calls.mono C.out ?_; rintro e w1 ⟨rfl, hb1⟩; have H1 := hidI hb1; clear hb1)
    go_ret
    exact ⟨rfl, H1.out⟩
  · have hk : kindW s = if opB s || nameB s then 3 else 0 := by unfold kindW; rw [if_neg hn]
    have he : numE s = 3 := by unfold numE; rw [if_neg hn]
    rw [hk]
    rw [he] at C
    clear hk he hn hv
    cases ho : opB s with
    | true =>
      rw [ho] at CO
      go_enter Tryz.func53, Tryz.ntmps53
      go_wp2_with (first | (go_at_call 67; refine Calls.mono C.out ?_; rintro e w1 ⟨rfl, hb1⟩; have H1 := hidI hb1; clear hb1) | (go_at_call 68; refine Calls.mono (CO.out _) ?_; rintro e w2 ⟨rfl, rfl⟩))
      go_ret
      exact ⟨by simp, H1.out⟩
    | false =>
      rw [ho] at CO
      cases hm : nameB s with
      | true =>
        rw [hm] at CN
        go_enter Tryz.func53, Tryz.ntmps53
        go_wp2_with (first | (go_at_call 67; refine Calls.mono C.out ?_; rintro e w1 ⟨rfl, hb1⟩; have H1 := hidI hb1; clear hb1) | (go_at_call 68; refine Calls.mono (CO.out _) ?_; rintro e w2 ⟨rfl, rfl⟩) | (go_at_call 69; refine Calls.mono (CN.out _) ?_; rintro e w3 ⟨rfl, hb3⟩; have H3 := hidI hb3; clear hb3))
        go_ret
        exact ⟨by simp, H1.out.trans (H3.out.mono H1.out.size)⟩
      | false =>
        rw [hm] at CN
        go_enter Tryz.func53, Tryz.ntmps53
        go_wp2_with (first | (go_at_call 67; refine Calls.mono C.out ?_; rintro e w1 ⟨rfl, hb1⟩; have H1 := hidI hb1; clear hb1) | (go_at_call 68; refine Calls.mono (CO.out _) ?_; rintro e w2 ⟨rfl, rfl⟩) | (go_at_call 69; refine Calls.mono (CN.out _) ?_; rintro e w3 ⟨rfl, hb3⟩; have H3 := hidI hb3; clear hb3))
        go_ret
        exact ⟨by simp, H1.out.trans (H3.out.mono H1.out.size)⟩
theorem sign_cells (W : World) : ∀ i, i < 10 → (W.alloc (.cells #[.string ⟨#[43]⟩, .string ⟨#[45]⟩, .string ⟨#[42]⟩, .string ⟨#[47]⟩, .string ⟨#[37]⟩, .string ⟨#[38]⟩, .string ⟨#[124]⟩, .string ⟨#[94]⟩, .string ⟨#[61]⟩, .string ⟨#[60]⟩] 9)).cell? ⟨W.heap.size, i, none⟩ = some (.string ⟨#[opc i]⟩) := by
  intro i hi
  have hc : i = 0 ∨ i = 1 ∨ i = 2 ∨ i = 3 ∨ i = 4 ∨ i = 5 ∨ i = 6 ∨ i = 7 ∨ i = 8 ∨ i = 9 := by omega
  rcases hc with rfl | rfl | rfl | rfl | rfl | rfl | rfl | rfl | rfl | rfl <;> go_simp <;> rfl
set_option maxRecDepth 100000 in
set_option maxHeartbeats 1000000 in
theorem rkind_any (s : ByteArray) (hl : s.size ≤ 140737488355328) (w : World) : Calls Tryz.prog 58 #[.string s] w fun e w' => e = .returned (.int .u8 (kindW s)) ∧ Below w.heap.size w w' := by
  have C := hidI (rparse_any s hl)
  have CN := hidI (rname_any s)
  obtain ⟨v, hv⟩ : ∃ v, numV s = v := ⟨_, rfl⟩
  rw [hv] at C
  by_cases hn : isNum s
  · have hk : kindW s = 4 := by unfold kindW; rw [if_pos hn]
    have he : numE s = 0 := by unfold numE; rw [if_pos hn]
    rw [hk]
    rw [he] at C
    clear hk he hn hv
    go_enter Tryz.func58, Tryz.ntmps58
    go_wp2_with (go_at_call 70; refine Calls.mono (C.out _) ?_; rintro e w1 ⟨rfl, rfl⟩)
    go_ret
    exact ⟨rfl, Below.refl _ _⟩
  · have he : numE s = 3 := by unfold numE; rw [if_neg hn]
    rw [he] at C
    cases hm : nameB s with
    | true =>
      have hk : kindW s = 3 := by unfold kindW; rw [if_neg hn, hm]; simp
      rw [hm] at CN
      rw [hk]
      clear hk he hn hv
      go_enter Tryz.func58, Tryz.ntmps58
      go_wp2_with (first | (go_at_call 70; refine Calls.mono (C.out _) ?_; rintro e w1 ⟨rfl, rfl⟩) | (go_at_call 71; refine Calls.mono (CN.out _) ?_; rintro e w1 ⟨rfl, rfl⟩))
      go_ret
      exact ⟨rfl, Below.refl _ _⟩
    | false =>
      have hk : kindW s = if opB s then 3 else 0 := by unfold kindW; rw [if_neg hn, hm]; simp
      rw [hm] at CN
      obtain ⟨K, hK⟩ : ∃ K, kindW s = K := ⟨_, rfl⟩
      rw [hK] at hk ⊢
      have HK := hidI hk
      obtain ⟨W, hW⟩ : ∃ W, w.alloc (.cells #[.string ⟨#[43]⟩, .string ⟨#[45]⟩, .string ⟨#[42]⟩, .string ⟨#[47]⟩, .string ⟨#[37]⟩, .string ⟨#[38]⟩, .string ⟨#[124]⟩, .string ⟨#[94]⟩, .string ⟨#[61]⟩, .string ⟨#[60]⟩] 9) = W := ⟨_, rfl⟩
      have hc := sign_cells w
      rw [hW] at hc
      have HC := hidI hc
      have HB : Hid (Below w.heap.size w W) := hidI (by rw [← hW]; (repeat (first | exact Below.refl _ _ | assumption | refine Below.drew ?_ | refine Below.alloc ?_ (by first | omega | (simp; done) | (simp; omega)) _ | refine Below.setCell ?_ (by first | omega | (simp; done) | (simp; omega)) _)))
      clear hk hK he hn hv hc hm
      go_enter Tryz.func58, Tryz.ntmps58
      go_wp2_with (first | (go_at_call 70; refine Calls.mono (C.out _) ?_; rintro e w1 ⟨rfl, rfl⟩) | (go_at_call 71; refine Calls.mono (CN.out _) ?_; rintro e w1 ⟨rfl, rfl⟩))
      go_loopg [6] 10 (fun g s6 wx => ∃ i : Nat, i + g = 10 ∧ s6 = .int .i64 i ∧ W = wx ∧ Hid (∀ j, j < i → (s.toList == [opc j]) = false))
      case atStart => exact ⟨0, by omega, rfl, rfl, hidI (by simp)⟩
      case round =>
        obtain ⟨i, hig, rfl, rfl, HA⟩ := hrel
        cases gk with
        | zero =>
          obtain rfl : i = 10 := by omega
          go_wp2
          go_ret
          refine ⟨?_, HB.out⟩
          have : opB s = false := by
            unfold opB
            rw [List.any_eq_false]
            intro j hj
            rw [HA.out j (List.mem_range.1 hj)]; decide
          rw [HK.out, this]; rfl
        | succ g =>
          have k1 : (i : Int) < 10 := by omega
          have c0 := HC.out i (by omega)
          obtain ⟨c, hcc⟩ : ∃ c, opc i = c := ⟨_, rfl⟩
          have HCC := hidI hcc
          rw [hcc] at c0
          cases he : (s.toList == [c]) with
          | true =>
            have hq : s.toList = [c] := by simpa using he
            have hq2 : s = ⟨#[c]⟩ := by
              rw [ByteArray.toList_eq] at hq
              apply ByteArray.ext
              apply Array.toList_inj.1
              rw [hq]
            have HRES : Hid (opB s = true) := hidI (by
              unfold opB
              rw [List.any_eq_true]
              exact ⟨i, List.mem_range.2 (by omega), by rw [HCC.out]; exact he⟩)
            rw [← hq2] at c0
            clear hcc hq hq2
            go_wp2
            go_ret
            refine ⟨?_, HB.out⟩
            rw [HK.out, HRES.out]; rfl
          | false =>
            have hne : ((ByteArray.mk #[c]).toList) = [c] := by rw [ByteArray.toList_eq]
            have he2 : (s.toList == (ByteArray.mk #[c]).toList) = false := by rw [hne]; exact he
            have he3 : ¬ s.toList = [c] := by simpa using he
            clear hcc
            go_wp2
            go_roundg g
            case measure => omega
            case rel =>
              refine ⟨i + 1, by omega, by go_num, rfl, hidI fun j hj => ?_⟩
              rcases Nat.lt_succ_iff_lt_or_eq.1 hj with h | rfl
              · exact HA.out j h
              · rw [HCC.out]; exact he
end Go.Proofs.YtmihhebcchpmcaaGreatDoor
