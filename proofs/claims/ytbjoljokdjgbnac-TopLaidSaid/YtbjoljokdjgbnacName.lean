/-
  What may be a name.
-/
import Derived.Test.YtbjoljokdjgbnacCol
namespace Go.Proofs.Ytbjoljokdjgbnac
open Go.RowKit Go.Deep
/-- A text's sign at a place, as a number. -/
def sign (s : ByteArray) (i : Nat) : Int := (s.data.getD i 0).toNat
/-- May a text be a name? -/
def isName (s : ByteArray) : Bool := decide (1 ≤ s.size) && decide (s.size ≤ 8) && letter (sign s 0) && (List.range s.size).all fun i => letter (sign s i) || digit (sign s i)
theorem sign_at (s : ByteArray) (i : Nat) (h : i < s.size) (w : World) : (Instr.index 9 (.string s) (.int .i64 (i : Int))).run Try.prog w = .ok (.int .u8 (sign s i)) w := by
  rw [run_index_string w 9 s .i64 _ Try.underlying9, dif_pos ⟨by omega, by omega⟩]
  congr 2
  unfold sign
  have h' : i < s.data.size := h
  simp only [Int.toNat_natCast]
  rw [Array.getD_eq_getD_getElem?, Array.getElem?_eq_getElem h']
  rfl
set_option maxRecDepth 100000 in
set_option maxHeartbeats 2000000 in
theorem name_in (s : ByteArray) (w : World) (h1 : 1 ≤ s.size) (h8 : s.size ≤ 8) (hl : letter (sign s 0) = true) :
    Calls Try.prog 49 #[.string s] w fun e w' => e = .returned (.bool ((List.range s.size).all fun i => letter (sign s i) || digit (sign s i))) ∧ Below w.heap.size w w' := by
  have CL := hidI (letter_any)
  have CD := hidI (digit_any)
  obtain ⟨m, hm⟩ : ∃ m, s.size = m := ⟨_, rfl⟩
  have q0 : ∀ w, (Instr.index 9 (.string s) (.int .i64 0)).run Try.prog w = .ok (.int .u8 (sign s 0)) w := sign_at s 0 (by omega)
  have ql : ∀ w, (Builtin.len_ #[9] 3 #[.string s]).run Try.prog w = .ok (.int .i64 (m : Int)) w := fun w => by rw [run_len_string w 9 3 s Try.underlying9, hm]; rfl
  have QI := hidI (sign_at s)
  rw [hm] at QI h1 h8 ⊢
  have k1 : decide ((m : Int) < 1) = false := by simp; omega
  have k2 : decide (8 < (m : Int)) = false := by simp; omega
  obtain ⟨f, hf⟩ : ∃ f : Nat → Int, ∀ i, sign s i = f i := ⟨_, fun _ => rfl⟩
  rw [hf] at q0 hl
  simp only [hf] at QI ⊢
  go_enter Try.func49, Try.ntmps49
  go_wp2_with (go_at_call 70; refine Calls.mono (CL.out _ _) ?_; rintro e w' ⟨rfl, rfl⟩; rw [hl]; refine Hid.out ?_)
  refine hidI ?_
  clear q0
  go_wp2
  go_loopg [20] m (fun g s20 wx => ∃ i : Nat, i + g = m ∧ s20 = .int .i64 i ∧ (∀ j, j < i → (letter (f j) || digit (f j)) = true) ∧ w = wx)
  case atStart => exact ⟨0, by omega, rfl, by simp, rfl⟩
  case round =>
    obtain ⟨i, hig, rfl, hall, rfl⟩ := hrel
    cases gk with
    | zero =>
      have him : m = i := by omega
      subst him
      go_wp2
      go_ret
      refine ⟨?_, Below.refl _ _⟩
      have : (List.range m).all (fun i => letter (f i) || digit (f i)) = true := by rw [List.all_eq_true]; intro j hj; exact hall j (List.mem_range.1 hj)
      rw [this]; rfl
    | succ g =>
      have him : i < m := by omega
      have k3 : (i : Int) < (m : Int) := by omega
      have q1 : ∀ w, (Instr.index 9 (.string s) (.int .i64 (i : Int))).run Try.prog w = .ok (.int .u8 (f i)) w := QI.out i him
      have A := hidI hall
      clear hall
      obtain ⟨c, hc⟩ : ∃ c, f i = c := ⟨_, rfl⟩
      rw [hc] at q1
      cases hL : letter c with
      | true =>
        go_wp2_with (go_at_call 70; refine Calls.mono (CL.out _ _) ?_; rintro e w' ⟨rfl, rfl⟩; rw [hL])
        go_roundg g
        case measure => omega
        case rel =>
          refine ⟨i + 1, by omega, by go_num, fun j hj => ?_, rfl⟩
          rcases Nat.lt_succ_iff_lt_or_eq.1 hj with h | rfl
          · exact A.out j h
          · rw [hc, hL]; rfl
      | false =>
        cases hD : digit c with
        | true =>
          go_wp2_with (first | (go_at_call 70; refine Calls.mono (CL.out _ _) ?_; rintro e w' ⟨rfl, rfl⟩; rw [hL]) | (go_at_call 71; refine Calls.mono (CD.out _ _) ?_; rintro e w' ⟨rfl, rfl⟩; rw [hD]))
          go_roundg g
          case measure => omega
          case rel =>
            refine ⟨i + 1, by omega, by go_num, fun j hj => ?_, rfl⟩
            rcases Nat.lt_succ_iff_lt_or_eq.1 hj with h | rfl
            · exact A.out j h
            · rw [hc, hD]; simp
        | false =>
          go_wp2_with (first | (go_at_call 70; refine Calls.mono (CL.out _ _) ?_; rintro e w' ⟨rfl, rfl⟩; rw [hL]) | (go_at_call 71; refine Calls.mono (CD.out _ _) ?_; rintro e w' ⟨rfl, rfl⟩; rw [hD]))
          go_ret
          refine ⟨?_, Below.refl _ _⟩
          have : (List.range m).all (fun i => letter (f i) || digit (f i)) = false := by
            rw [List.all_eq_false]
            exact ⟨i, List.mem_range.2 him, by rw [hc, hL, hD]; simp⟩
          rw [this]; rfl
set_option maxRecDepth 100000 in
set_option maxHeartbeats 2000000 in
theorem name_out (s : ByteArray) (w : World) (h : s.size < 1 ∨ 8 < s.size) : Calls Try.prog 49 #[.string s] w fun e w' => e = .returned (.bool false) ∧ Below w.heap.size w w' := by
  obtain ⟨m, hm⟩ : ∃ m, s.size = m := ⟨_, rfl⟩
  have ql : ∀ w, (Builtin.len_ #[9] 3 #[.string s]).run Try.prog w = .ok (.int .i64 (m : Int)) w := fun w => by rw [run_len_string w 9 3 s Try.underlying9, hm]; rfl
  rw [hm] at h
  clear hm
  rcases h with h | h
  · have k1 : decide ((m : Int) < 1) = true := by simp; omega
    go_enter Try.func49, Try.ntmps49
    go_wp2
    go_ret
    exact ⟨rfl, Below.refl _ _⟩
  · have k1 : decide ((m : Int) < 1) = false := by simp; omega
    have k2 : decide (8 < (m : Int)) = true := by simp; omega
    go_enter Try.func49, Try.ntmps49
    go_wp2
    go_ret
    exact ⟨rfl, Below.refl _ _⟩
set_option maxRecDepth 100000 in
set_option maxHeartbeats 2000000 in
theorem name_first (s : ByteArray) (w : World) (h1 : 1 ≤ s.size) (h8 : s.size ≤ 8) (hl : letter (sign s 0) = false) : Calls Try.prog 49 #[.string s] w fun e w' => e = .returned (.bool false) ∧ Below w.heap.size w w' := by
  have CL := hidI (letter_any)
  obtain ⟨m, hm⟩ : ∃ m, s.size = m := ⟨_, rfl⟩
  have q0 : ∀ w, (Instr.index 9 (.string s) (.int .i64 0)).run Try.prog w = .ok (.int .u8 (sign s 0)) w := sign_at s 0 (by omega)
  have ql : ∀ w, (Builtin.len_ #[9] 3 #[.string s]).run Try.prog w = .ok (.int .i64 (m : Int)) w := fun w => by rw [run_len_string w 9 3 s Try.underlying9, hm]; rfl
  rw [hm] at h1 h8
  clear hm
  have k1 : decide ((m : Int) < 1) = false := by simp; omega
  have k2 : decide (8 < (m : Int)) = false := by simp; omega
  obtain ⟨c, hc⟩ : ∃ c, sign s 0 = c := ⟨_, rfl⟩
  rw [hc] at q0 hl
  clear hc
  go_enter Try.func49, Try.ntmps49
  go_wp2_with (go_at_call 70; refine Calls.mono (CL.out _ _) ?_; rintro e w' ⟨rfl, rfl⟩; rw [hl])
  go_ret
  exact ⟨rfl, Below.refl _ _⟩
theorem name_any (s : ByteArray) (w : World) : Calls Try.prog 49 #[.string s] w fun e w' => e = .returned (.bool (isName s)) ∧ Below w.heap.size w w' := by
  unfold isName
  by_cases h : s.size < 1 ∨ 8 < s.size
  · have : (decide (1 ≤ s.size) && decide (s.size ≤ 8)) = false := by
      rcases h with h | h
      · rw [decide_eq_false (by omega : ¬ 1 ≤ s.size)]; rfl
      · rw [decide_eq_false (by omega : ¬ s.size ≤ 8)]; simp
    rw [this]
    simpa using name_out s w h
  · have e1 : decide (1 ≤ s.size) = true := decide_eq_true (by omega)
    have e2 : decide (s.size ≤ 8) = true := decide_eq_true (by omega)
    rw [e1, e2]
    cases hl : letter (sign s 0) with
    | true => simpa using name_in s w (by omega) (by omega) hl
    | false => simpa using name_first s w (by omega) (by omega) hl
end Go.Proofs.Ytbjoljokdjgbnac
