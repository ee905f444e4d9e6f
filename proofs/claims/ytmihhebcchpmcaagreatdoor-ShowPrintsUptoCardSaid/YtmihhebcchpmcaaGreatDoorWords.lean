/-
  Names, signs and words.
-/
import Derived.Test.YtmihhebcchpmcaaGreatDoorParse
import Derived.Test.YtmihhebcchpmcaaGreatDoorLexM
import Derived.Deep.LoopGhost
import Derived.Deep.OwnRows
import Derived.Deep.RegionHeld3
import Derived.WalkSpells
namespace Go.Proofs.YtmihhebcchpmcaaGreatDoor
open Go.RowKit Go.Deep Go.MapKept
def letter (c : Int) : Bool := decide (97 ≤ c) && decide (c ≤ 122)
def digit (c : Int) : Bool := decide (48 ≤ c) && decide (c ≤ 57)
/-- A text's sign at a place, as a number. -/
def sign (s : ByteArray) (i : Nat) : Int := (s.data.getD i 0).toNat
theorem sign_at (s : ByteArray) (i : Nat) (h : i < s.size) (w : World) : (Instr.index 9 (.string s) (.int .i64 (i : Int))).run Tryz.prog w = .ok (.int .u8 (sign s i)) w := by
  rw [run_index_string w 9 s .i64 _ Tryz.underlying9, dif_pos ⟨by omega, by omega⟩]
  congr 2
  unfold sign
  have h' : i < s.data.size := h
  simp only [Int.toNat_natCast]
  rw [Array.getD_eq_getD_getElem?, Array.getElem?_eq_getElem h']
  rfl
def goodAt (c : Int) (i : Nat) : Bool := letter c || (digit c && decide (i ≠ 0))
set_option maxRecDepth 100000 in
set_option maxHeartbeats 4000000 in
theorem rname_in (s : ByteArray) (w : World) (h1 : 1 ≤ s.size) (h8 : s.size ≤ 8) :
    Calls Tryz.prog 71 #[.string s] w fun e w' => e = .returned (.bool ((List.range s.size).all fun i => goodAt (sign s i) i)) ∧ w = w' := by
  obtain ⟨m, hm⟩ : ∃ m, s.size = m := ⟨_, rfl⟩
  have ql : ∀ w, (Builtin.len_ #[9] 3 #[.string s]).run Tryz.prog w = .ok (.int .i64 (m : Int)) w := fun w => by rw [run_len_string w 9 3 s Tryz.underlying9, hm]; rfl
  have QI := hidI (sign_at s)
  rw [hm] at QI h1 h8 ⊢
  have k1 : decide ((m : Int) < 1) = false := by simp; omega
  have k2 : decide (8 < (m : Int)) = false := by simp; omega
  obtain ⟨f, hf⟩ : ∃ f : Nat → Int, ∀ i, sign s i = f i := ⟨_, fun _ => rfl⟩
  simp only [hf] at QI ⊢
  go_enter Tryz.func71, Tryz.ntmps71
  go_wp2
  go_loopg [3] m (fun g s3 wx => ∃ i : Nat, i + g = m ∧ s3 = .int .i64 i ∧ (∀ j, j < i → goodAt (f j) j = true) ∧ w = wx)
  case atStart => exact ⟨0, by omega, rfl, by simp, rfl⟩
  case round =>
    obtain ⟨i, hig, rfl, hall, rfl⟩ := hrel
    cases gk with
    | zero =>
      have him : m = i := by omega
      subst him
      go_wp2
      go_ret
      refine ⟨?_, rfl⟩
      have : (List.range m).all (fun i => goodAt (f i) i) = true := by rw [List.all_eq_true]; intro j hj; exact hall j (List.mem_range.1 hj)
      rw [this]; rfl
    | succ g =>
      have him : i < m := by omega
      have k3 : (i : Int) < (m : Int) := by omega
      have q1 : ∀ w, (Instr.index 9 (.string s) (.int .i64 (i : Int))).run Tryz.prog w = .ok (.int .u8 (f i)) w := QI.out i him
      have A := hidI hall
      clear hall
      obtain ⟨c, hc⟩ : ∃ c, f i = c := ⟨_, rfl⟩
      rw [hc] at q1
      have hgood : goodAt c i = (decide (97 ≤ c) && decide (c ≤ 122) || (decide (48 ≤ c) && decide (c ≤ 57) && decide (i ≠ 0))) := rfl
      obtain ⟨b1, a1⟩ : ∃ b, decide (97 ≤ c) = b := ⟨_, rfl⟩
      obtain ⟨b2, a2⟩ : ∃ b, decide (c ≤ 122) = b := ⟨_, rfl⟩
      obtain ⟨b3, a3⟩ : ∃ b, decide (48 ≤ c) = b := ⟨_, rfl⟩
      obtain ⟨b4, a4⟩ : ∃ b, decide (c ≤ 57) = b := ⟨_, rfl⟩
      have a5 : decide (i ≠ 0) = !((i : Int) == 0) := by
        by_cases h : i = 0
        · subst h; rfl
        · rw [show ((i : Int) == 0) = false by simpa using h]; simpa using h
      obtain ⟨b5, a6⟩ : ∃ b, ((i : Int) == 0) = b := ⟨_, rfl⟩
      rw [a1, a2, a3, a4, a5, a6] at hgood
      clear a5
      cases b1 <;> cases b2 <;> cases b3 <;> cases b4 <;> cases b5
      all_goals first
        | (have hg : goodAt c i = true := hgood
           go_wp2
           go_roundg g
           case measure => omega
           case rel =>
             refine ⟨i + 1, by omega, by go_num, fun j hj => ?_, rfl⟩
             rcases Nat.lt_succ_iff_lt_or_eq.1 hj with h | rfl
             · exact A.out j h
             · rw [hc]; exact hg)
        | (have hg : goodAt c i = false := hgood
           go_wp2
           go_ret
           refine ⟨?_, rfl⟩
           have : (List.range m).all (fun i => goodAt (f i) i) = false := by
             rw [List.all_eq_false]
             exact ⟨i, List.mem_range.2 him, by rw [hc, hg]; simp⟩
           rw [this]; rfl)
set_option maxRecDepth 100000 in
theorem rname_out (s : ByteArray) (w : World) (h : s.size < 1 ∨ 8 < s.size) : Calls Tryz.prog 71 #[.string s] w fun e w' => e = .returned (.bool false) ∧ w = w' := by
  obtain ⟨m, hm⟩ : ∃ m, s.size = m := ⟨_, rfl⟩
  have ql : ∀ w, (Builtin.len_ #[9] 3 #[.string s]).run Tryz.prog w = .ok (.int .i64 (m : Int)) w := fun w => by rw [run_len_string w 9 3 s Tryz.underlying9, hm]; rfl
  rw [hm] at h
  clear hm
  rcases h with h | h
  · have k1 : decide ((m : Int) < 1) = true := by simp; omega
    go_enter Tryz.func71, Tryz.ntmps71
    go_wp2
    go_ret
    exact ⟨rfl, rfl⟩
  · have k1 : decide ((m : Int) < 1) = false := by simp; omega
    have k2 : decide (8 < (m : Int)) = true := by simp; omega
    go_enter Tryz.func71, Tryz.ntmps71
    go_wp2
    go_ret
    exact ⟨rfl, rfl⟩
/-- May a text be a name? -/
def nameB (s : ByteArray) : Bool := (List.range s.size).all (fun i => goodAt (sign s i) i) && (decide (1 ≤ s.size) && decide (s.size ≤ 8))
theorem rname_any (s : ByteArray) (w : World) : Calls Tryz.prog 71 #[.string s] w fun e w' => e = .returned (.bool (nameB s)) ∧ w = w' := by
  by_cases h : s.size < 1 ∨ 8 < s.size
  · have : nameB s = false := by
      unfold nameB
      have : (decide (1 ≤ s.size) && decide (s.size ≤ 8)) = false := by
        rcases h with h | h
        · rw [decide_eq_false (by omega : ¬ 1 ≤ s.size)]; rfl
        · rw [decide_eq_false (by omega : ¬ s.size ≤ 8)]; simp
      rw [this]; simp
    rw [this]
    exact rname_out s w h
  · have h1 : 1 ≤ s.size := by omega
    have h8 : s.size ≤ 8 := by omega
    have : nameB s = (List.range s.size).all (fun i => goodAt (sign s i) i) := by unfold nameB; simp [h1, h8]
    rw [this]
    exact rname_in s w h1 h8
theorem sign_get (s : ByteArray) (i : Nat) (h : i < s.size) : sign s i = ((s[i]'h).toNat : Int) := by
  unfold sign
  have h' : i < s.data.size := h
  rw [Array.getD_eq_getD_getElem?, Array.getElem?_eq_getElem h']
  rfl
set_option maxRecDepth 100000 in
set_option maxHeartbeats 4000000 in
theorem name_any (s : ByteArray) (w : World) : Calls Tryz.prog 69 #[.string s] w fun e w' => e = .returned (.bool (nameB s)) ∧ Below w.heap.size w w' := by
  obtain ⟨n, hn⟩ : ∃ n, s.size = n := ⟨_, rfl⟩
  have ql : ∀ w, (Builtin.len_ #[9] 3 #[.string s]).run Tryz.prog w = .ok (.int .i64 (n : Int)) w := fun w => by rw [run_len_string w 9 3 s Tryz.underlying9, hn]; rfl
  have HN := hidI hn
  have QE : Hid (∀ ty, (Instr.next (.pointer (some ⟨w.heap.size, 0, none⟩)) true ty).run Tryz.prog (w.iter s n) = .ok (.tuple #[.bool false]) (w.iter s n)) := hidI fun ty => run_next_end w s n ty (by omega)
  have QN : Hid (∀ pos ty, pos < n → (Instr.next (.pointer (some ⟨w.heap.size, 0, none⟩)) true ty).run Tryz.prog (w.iter s pos) = .ok (.tuple #[.bool true, .int .i64 pos, .int .i32 (Utf8.decode s pos).1]) (w.iter s (pos + (Utf8.decode s pos).2))) := hidI fun pos ty h => run_next_any w s pos ty (by omega)
  have HB : Hid (∀ pos, Below w.heap.size w (w.iter s pos)) := hidI fun pos => (Below.refl _ _).alloc (Nat.le_refl _) _
  obtain ⟨R, hR⟩ : ∃ R, nameB s = R := ⟨_, rfl⟩
  have HR := hidI hR
  rw [hR]
  clear hn hR
  go_enter Tryz.func69, Tryz.ntmps69
  go_wp2
  go_loopg [3] n (fun g s3 wx => ∃ pos : Nat, pos + g = n ∧ w.iter s pos = wx ∧ Hid (∀ j, j < pos → goodAt (sign s j) j = true))
  case atStart => exact ⟨0, by omega, rfl, hidI (by simp)⟩
  case round =>
    obtain ⟨pos, hpg, rfl, HA⟩ := hrel
    cases gk with
    | zero =>
      obtain rfl : n = pos := by omega
      have qe := QE.out
      have hres : nameB s = (decide (1 ≤ n) && decide (n ≤ 8)) := by
        unfold nameB
        rw [HN.out, List.all_eq_true.2 (fun j hj => HA.out j (List.mem_range.1 hj)), Bool.true_and]
      rw [HR.out] at hres
      obtain ⟨b1, h1⟩ : ∃ b, decide (1 ≤ n) = b := ⟨_, rfl⟩
      obtain ⟨b2, h2⟩ : ∃ b, decide (n ≤ 8) = b := ⟨_, rfl⟩
      have h1' : decide ((1 : Int) ≤ (n : Int)) = b1 := by rw [← h1]; congr 1; simp; omega
      have h2' : decide ((n : Int) ≤ 8) = b2 := by rw [← h2]; congr 1; simp; omega
      rw [h1, h2] at hres
      have HRES := hidI hres
      clear h1 h2 hres
      cases b1 <;> cases b2
      all_goals
        go_wp2
        go_ret
        exact ⟨by rw [HRES.out]; rfl, HB.out _⟩
    | succ g =>
      have hlt : pos < n := by omega
      have qn := fun ty => QN.out pos ty hlt
      have hlt' : pos < s.size := by have := HN.out; omega
      by_cases ha : (s[pos]'hlt').toNat < 128
      · have hd := decode_ascii s pos hlt' ha
        rw [hd] at qn
        have hc := sign_get s pos hlt'
        obtain ⟨c, hcc⟩ : ∃ c : Nat, (s[pos]'hlt').toNat = c := ⟨_, rfl⟩
        rw [hcc] at qn hc
        simp only at qn
        have hgood : goodAt (c : Int) pos = (decide ((97 : Int) ≤ c) && decide ((c : Int) ≤ 122) || (decide ((48 : Int) ≤ c) && decide ((c : Int) ≤ 57) && decide (pos ≠ 0))) := rfl
        obtain ⟨b1, a1⟩ : ∃ b, decide ((97 : Int) ≤ c) = b := ⟨_, rfl⟩
        obtain ⟨b2, a2⟩ : ∃ b, decide ((c : Int) ≤ 122) = b := ⟨_, rfl⟩
        obtain ⟨b3, a3⟩ : ∃ b, decide ((48 : Int) ≤ c) = b := ⟨_, rfl⟩
        obtain ⟨b4, a4⟩ : ∃ b, decide ((c : Int) ≤ 57) = b := ⟨_, rfl⟩
        have a5 : decide (pos ≠ 0) = !((pos : Int) == 0) := by
          by_cases h : pos = 0
          · subst h; rfl
          · rw [show ((pos : Int) == 0) = false by simpa using h]; simpa using h
        obtain ⟨b5, a6⟩ : ∃ b, ((pos : Int) == 0) = b := ⟨_, rfl⟩
        rw [a1, a2, a3, a4, a5, a6] at hgood
        have HC := hidI hc
        clear a5 hd hcc ha hc
        cases b1 <;> cases b2 <;> cases b3 <;> cases b4 <;> cases b5
        all_goals first
          | (have hg : goodAt (c : Int) pos = true := hgood
             go_wp2
             go_roundg g
             case measure => omega
             case rel =>
               refine ⟨pos + 1, by omega, rfl, hidI fun j hj => ?_⟩
               rcases Nat.lt_succ_iff_lt_or_eq.1 hj with h | rfl
               · exact HA.out j h
               · rw [HC.out]; exact hg)
          | (have hg : goodAt (c : Int) pos = false := hgood
             go_wp2
             go_ret
             refine ⟨?_, HB.out _⟩
             have : (List.range s.size).all (fun i => goodAt (sign s i) i) = false := by
               rw [List.all_eq_false]
               exact ⟨pos, List.mem_range.2 hlt', by rw [HC.out, hg]; simp⟩
             rw [← HR.out]
             unfold nameB
             rw [this]; rfl)
      · have hd := (decode_high s pos hlt' (by omega)).1
        obtain ⟨r, hr⟩ : ∃ r, (Utf8.decode s pos).1 = r := ⟨_, rfl⟩
        rw [hr] at qn hd
        have k1 : decide ((r : Int) ≤ 122) = false := by simp; omega
        have k2 : decide ((r : Int) ≤ 57) = false := by simp; omega
        have k3 : decide ((97 : Int) ≤ (r : Int)) = true := by simp; omega
        have k4 : decide ((48 : Int) ≤ (r : Int)) = true := by simp; omega
        have hres : nameB s = false := by
          have hg : goodAt (sign s pos) pos = false := by
            rw [sign_get s pos hlt']
            unfold goodAt letter digit
            have h1 : ¬ ((s[pos]'hlt').toNat : Int) ≤ 122 := by omega
            have h2 : ¬ ((s[pos]'hlt').toNat : Int) ≤ 57 := by omega
            simp [h1, h2]
          have : (List.range s.size).all (fun i => goodAt (sign s i) i) = false := by
            rw [List.all_eq_false]
            exact ⟨pos, List.mem_range.2 hlt', by rw [hg]; simp⟩
          unfold nameB
          rw [this]; rfl
        rw [HR.out] at hres
        have HRES := hidI hres
        clear ha hr hd hres
        go_wp2
        go_ret
        exact ⟨by rw [HRES.out]; rfl, HB.out _⟩
end Go.Proofs.YtmihhebcchpmcaaGreatDoor
