/-
  Where a place stands: lines ahead of it, and bytes behind the last of them.
-/
import Derived.Test.YtlhjellnolhppaaDoorPToks
namespace Go.Proofs.YtlhjellnolhppaaDoor
open Go.RowKit Go.Deep Go.MapKept
def lnF (p : Nat × Nat) (c : UInt8) : Nat × Nat := if c = 10 then (p.1 + 1, 0) else (p.1, p.2 + 1)
def lnOf (t : Txt) : Nat × Nat := t.foldl lnF (0, 0)
theorem lnOf_snoc (t : Txt) (c : UInt8) : lnOf (t ++ [c]) = lnF (lnOf t) c := by simp [lnOf]
theorem ln_count_from : ∀ (t : Txt) (a b : Nat), (t.foldl lnF (a, b)).1 = a + t.count 10
  | [], a, b => by simp
  | c :: t, a, b => by
    rw [List.foldl_cons]
    by_cases h : c = 10
    · rw [show lnF (a, b) c = (a + 1, 0) by simp [lnF, h], ln_count_from t, h, List.count_cons_self]; omega
    · rw [show lnF (a, b) c = (a, b + 1) by simp [lnF, h], ln_count_from t, List.count_cons_of_ne h]
theorem ln_count (t : Txt) : (lnOf t).1 = t.count 10 := by unfold lnOf; rw [ln_count_from]; omega
theorem byte_at (s : ByteArray) (k : Nat) : s.data[k]! = s.get! k := by
  simp [ByteArray.get!]
theorem ln_le (s : ByteArray) : ∀ k, k ≤ s.size → (lnOf (s.data.toList.take k)).1 ≤ k ∧ (lnOf (s.data.toList.take k)).2 ≤ k
  | 0, _ => by simp [lnOf]
  | k + 1, h => by
    obtain ⟨h1, h2⟩ := ln_le s k (by omega)
    have hk := get_byte s k (by omega)
    rw [List.take_add_one, hk, Option.toList_some, lnOf_snoc]
    unfold lnF
    split
    · exact ⟨by simp only; omega, by simp⟩
    · exact ⟨by simp only; omega, by simp only; omega⟩
theorem ln_last (s : ByteArray) : ∀ k, k ≤ s.size → ((lnOf (s.data.toList.take k)).2 : Int) = (k : Int) - 1 - Lib.lastIdx s 10 k
  | 0, _ => by simp [lnOf, Lib.lastIdx]
  | k + 1, h => by
    have h2 := ln_last s k (by omega)
    have hk := get_byte s k (by omega)
    rw [List.take_add_one, hk, Option.toList_some, lnOf_snoc]
    unfold lnF Lib.lastIdx
    rw [byte_at s k]
    have hc : (((s.get! k).toNat : Int) == 10) = (s.get! k == 10) := u8_eq (s.get! k) 10 (by decide)
    by_cases h10 : s.get! k = 10
    · rw [if_pos h10]
      have : ((s.get! k).toNat : Int) = 10 := by rw [h10]; rfl
      simp [this]
    · rw [if_neg h10]
      have : ¬ ((s.get! k).toNat : Int) = 10 := by
        intro e
        rw [show (((s.get! k).toNat : Int) == 10) = true by simpa using e] at hc
        exact h10 (by simpa using hc.symm)
      simp only [this, if_false]
      omega
def clamp (n : Nat) (i : Int) : Nat := if i < 0 then 0 else min i.toNat n
theorem clamp_le (n : Nat) (i : Int) : clamp n i ≤ n := by unfold clamp; split <;> omega
def lineOf (s : ByteArray) (i : Int) : Nat × Nat := lnOf (s.data.toList.take (clamp s.size i))
set_option maxRecDepth 100000 in
set_option maxHeartbeats 1000000 in
theorem rline_any (s : ByteArray) (i : Int) (hs : s.size ≤ 3000) (w : World) : Calls Tryd.prog 14 #[.string s, .int .i64 i] w fun e w' => e = .returned (.tuple #[.int .i64 (lineOf s i).1, .int .i64 (lineOf s i).2]) ∧ w = w' := by
  obtain ⟨n, hn⟩ : ∃ n, s.size = n := ⟨_, rfl⟩
  have ql : ∀ w, (Builtin.len_ #[9] 3 #[.string s]).run Tryd.prog w = .ok (.int .i64 (n : Int)) w := fun w => by rw [run_len_string w 9 3 s Tryd.underlying9, hn]; rfl
  have QI := hidI (sign_at s)
  have HLE := hidI (ln_le s)
  have HN := hidI hn
  unfold lineOf
  rw [hn] at QI hs HLE ⊢
  obtain ⟨m, hm⟩ : ∃ m, clamp n i = m := ⟨_, rfl⟩
  have hmn := clamp_le n i
  have hlt : ∀ j : Nat, j < m → (j : Int) < i := by
    intro j hj
    unfold clamp at hm
    split at hm <;> omega
  have hge : m < n → decide ((m : Int) < i) = false := by
    intro h
    unfold clamp at hm
    have : ¬ (m : Int) < i := by split at hm <;> omega
    simpa using this
  rw [hm] at hmn ⊢
  clear hn hm
  have HLT := hidI hlt
  have HGE := hidI hge
  clear hlt hge
  go_enter Tryd.func14, Tryd.ntmps14
  go_wp2
  go_loopg [6, 7, 8] m (fun g s6 s7 s8 wx => ∃ (k a b : Nat), k + g = m ∧ Hid (lnOf (s.data.toList.take k) = (a, b)) ∧ s6 = .int .i64 a ∧ s7 = .int .i64 b ∧ s8 = .int .i64 k ∧ w = wx)
  case atStart => exact ⟨0, 0, 0, by omega, hidI (by simp [lnOf]), rfl, rfl, rfl, rfl⟩
  case round =>
    obtain ⟨k, a, b, hkg, HK, rfl, rfl, rfl, rfl⟩ := hrel
    cases gk with
    | zero =>
      obtain rfl : m = k := by omega
      have hres := HK.out
      have HRES := hidI hres
      clear hres
      by_cases hmn' : m = n
      · subst hmn'
        obtain ⟨bq, hbq⟩ : ∃ bq, decide ((m : Int) < i) = bq := ⟨_, rfl⟩
        cases bq
        all_goals
          go_wp2
          go_ret2
          exact ⟨by rw [HRES.out]; rfl, rfl⟩
      · have k2 := HGE.out (by omega)
        go_wp2
        go_ret2
        exact ⟨by rw [HRES.out]; rfl, rfl⟩
    | succ g =>
      have k1 : decide ((k : Int) < i) = true := by simpa using HLT.out k (by omega)
      have k2 : decide ((k : Int) < (n : Int)) = true := by simp; omega
      have hle := HLE.out k (by omega)
      rw [HK.out] at hle
      obtain ⟨hla, hlb⟩ := hle
      simp only at hla hlb
      have q1 : ∀ w, (Instr.index 9 (.string s) (.int .i64 (k : Int))).run Tryd.prog w = .ok (.int .u8 (sign s k)) w := QI.out k (by omega)
      have hby := sign_byte s k (by have := HN.out; omega)
      obtain ⟨c, hc⟩ : ∃ c, s.get! k = c := ⟨_, rfl⟩
      rw [hc] at hby
      rw [hby] at q1
      have HT : Hid (lnOf (s.data.toList.take (k + 1)) = lnF (a, b) c) := hidI (by
        rw [List.take_add_one, get_byte s k (by have := HN.out; omega), hc, Option.toList_some, lnOf_snoc, HK.out])
      clear hby hc
      cases h10 : (c == 10) with
      | true =>
        have k10 : ((c.toNat : Int) == 10) = true := by rw [← h10]; exact u8_eq c 10 (by decide)
        have HC : Hid (c = 10) := hidI (by simpa using h10)
        clear h10
        go_wp2
        go_roundg g
        case measure => omega
        case rel =>
          refine ⟨k + 1, a + 1, 0, by omega, hidI (by rw [HT.out]; unfold lnF; rw [if_pos HC.out]), by go_num, by go_num, by go_num, rfl⟩
      | false =>
        have k10 : ((c.toNat : Int) == 10) = false := by rw [← h10]; exact u8_eq c 10 (by decide)
        have HC : Hid (¬ c = 10) := hidI (by simpa using h10)
        clear h10
        go_wp2
        go_roundg g
        case measure => omega
        case rel =>
          refine ⟨k + 1, a, b + 1, by omega, hidI (by rw [HT.out]; unfold lnF; rw [if_neg HC.out]), by go_num, by go_num, by go_num, rfl⟩
theorem slice_upto (s : ByteArray) (j : Nat) (h : j ≤ s.size) (w : World) : (Instr.slice 9 (.string s) none (some (.int .i64 (j : Int))) none).run Tryd.prog w = .ok (.string (bytesOf (s.data.toList.take j))) w := by
  rw [run_slice_string_to_if w 9 s .i64 _ Tryd.underlying9, if_pos (by omega)]
  congr 2
  apply ByteArray.ext
  simp only [bytesOf, ByteArray.data_extract]
  apply Array.toList_inj.1
  rw [Array.toList_extract, List.extract_eq_take_drop, Int.toNat_natCast]
  simp
set_option maxRecDepth 100000 in
theorem line_any (s : ByteArray) (i : Int) (hs : s.size ≤ 3000) (w : World) : Calls Tryd.prog 13 #[.string s, .int .i64 i] w fun e w' => e = .returned (.tuple #[.int .i64 (lineOf s i).1, .int .i64 (lineOf s i).2]) ∧ w = w' := by
  have hcl := clamp_le s.size i
  have hmm : min (max i 0) (s.size : Int) = (clamp s.size i : Int) := by unfold clamp; split <;> omega
  have hb : (bytesOf (s.data.toList.take (clamp s.size i))).data.toList = s.data.toList.take (clamp s.size i) := by simp [bytesOf]
  have hsz : (bytesOf (s.data.toList.take (clamp s.size i))).size = clamp s.size i := by
    rw [bytes_size, List.length_take, Array.length_toList]
    have : s.data.size = s.size := rfl
    omega
  have q1 := slice_upto s (clamp s.size i) hcl
  have hl1 : ((lineOf s i).1 : Int) = (Lib.countByte (s.data.toList.take (clamp s.size i)) 10 : Nat) := by unfold lineOf Lib.countByte; rw [ln_count]
  have hl2 : ((lineOf s i).2 : Int) = (clamp s.size i : Int) - 1 - Lib.lastIndexByte (bytesOf (s.data.toList.take (clamp s.size i))) 10 := by
    have h := ln_last (bytesOf (s.data.toList.take (clamp s.size i))) (clamp s.size i) (by rw [hsz]; exact Nat.le_refl _)
    rw [hb, List.take_take, Nat.min_self] at h
    unfold Lib.lastIndexByte lineOf
    rw [hsz, h]
  have C1 := fun w => Any.strings_Count_one Tryd.lays138 (bytesOf (s.data.toList.take (clamp s.size i))) 10 w
  have C2 := fun w => Any.strings_LastIndexByte Tryd.lays149 (bytesOf (s.data.toList.take (clamp s.size i))) 10 (by omega) w
  rw [hb] at C1
  have hbd : -1 ≤ Lib.lastIndexByte (bytesOf (s.data.toList.take (clamp s.size i))) 10 ∧ Lib.lastIndexByte (bytesOf (s.data.toList.take (clamp s.size i))) 10 ≤ (clamp s.size i : Int) := by
    have h := (ln_le s _ hcl).2
    unfold lineOf at hl2
    omega
  rw [hl1, hl2]
  obtain ⟨n, hn⟩ : ∃ n, s.size = n := ⟨_, rfl⟩
  have ql : ∀ w, (Builtin.len_ #[9] 3 #[.string s]).run Tryd.prog w = .ok (.int .i64 (n : Int)) w := fun w => by rw [run_len_string w 9 3 s Tryd.underlying9, hn]; rfl
  rw [hn] at hmm hcl q1 C1 C2 hsz hbd hs ⊢
  obtain ⟨m, hm⟩ : ∃ m, clamp n i = m := ⟨_, rfl⟩
  rw [hm] at hmm hcl q1 C1 C2 hsz hbd ⊢
  obtain ⟨tb, htb⟩ : ∃ tb, bytesOf (s.data.toList.take m) = tb := ⟨_, rfl⟩
  rw [htb] at q1 C1 C2 hbd hsz ⊢
  obtain ⟨cn, hcn⟩ : ∃ cn, Lib.countByte (s.data.toList.take m) 10 = cn := ⟨_, rfl⟩
  obtain ⟨li, hli⟩ : ∃ li, Lib.lastIndexByte tb 10 = li := ⟨_, rfl⟩
  rw [hcn] at C1 ⊢
  rw [hli] at C2 hbd ⊢
  have H1 := hidI C1
  have H2 := hidI C2
  clear C1 C2 hcn hli htb hm hn hl1 hl2 hb
  go_enter Tryd.func13, Tryd.ntmps13
  go_wp2_with (first | (go_at_call 24; refine Calls.mono (H1.out _) ?_; rintro e w' ⟨rfl, rfl⟩) | (go_at_call 25; refine Calls.mono (H2.out _) ?_; rintro e w' ⟨rfl, rfl⟩))
  go_ret2
  exact ⟨rfl, rfl⟩
theorem short_any (s : ByteArray) (w : World) : Calls Tryd.prog 9 #[.string s] w fun e w' => e = .returned (.string (bytesOf (s.data.toList.take 3010))) ∧ w = w' := by
  obtain ⟨n, hn⟩ : ∃ n, s.size = n := ⟨_, rfl⟩
  have ql : ∀ w, (Builtin.len_ #[9] 3 #[.string s]).run Tryd.prog w = .ok (.int .i64 (n : Int)) w := fun w => by rw [run_len_string w 9 3 s Tryd.underlying9, hn]; rfl
  by_cases h : 3010 < n
  · have k1 : decide (3010 < (n : Int)) = true := by simp; omega
    have q1 : ∀ w, (Instr.slice 9 (.string s) none (some (.int .i64 3010)) none).run Tryd.prog w = .ok (.string (bytesOf (s.data.toList.take 3010))) w := slice_upto s 3010 (by omega)
    obtain ⟨tb, htb⟩ : ∃ tb, bytesOf (s.data.toList.take 3010) = tb := ⟨_, rfl⟩
    rw [htb] at q1 ⊢
    clear hn h htb
    go_enter Tryd.func9, Tryd.ntmps9
    go_wp2
    go_ret
    exact ⟨rfl, rfl⟩
  · have k1 : decide (3010 < (n : Int)) = false := by simp; omega
    have ht : s.data.toList.take 3010 = s.data.toList := List.take_of_length_le (by rw [Array.length_toList]; show s.size ≤ 3010; omega)
    rw [ht, bytes_back]
    clear hn h ht
    go_enter Tryd.func9, Tryd.ntmps9
    go_wp2
    go_ret
    exact ⟨rfl, rfl⟩
theorem spacedB_any (c : Int) (h0 : 0 ≤ c) (h1 : c ≤ 255) (w : World) : Calls Tryd.prog 17 #[.int .u8 c] w fun e w' => e = .returned (.bool (spI c)) ∧ w = w' := by
  have C := hidI (spaced_any c)
  obtain ⟨b, hb⟩ : ∃ b, spI c = b := ⟨_, rfl⟩
  rw [hb] at C ⊢
  clear hb
  go_enter Tryd.func17, Tryd.ntmps17
  go_wp2_with (go_at_call 30; refine Calls.mono (C.out _) ?_; rintro e w' ⟨rfl, rfl⟩)
  go_ret
  exact ⟨rfl, rfl⟩
end Go.Proofs.YtlhjellnolhppaaDoor
