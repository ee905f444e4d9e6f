/-
  The call of the document's Parse: what it comes to.
-/
import Derived.Test.YtmihhebcchpmcaaGreatDoorRefOk
import Derived.Test.YtmihhebcchpmcaaGreatDoorNumB
import Derived.PlainAid
namespace Go.Proofs.YtmihhebcchpmcaaGreatDoor
open Go.RowKit Go.PlainAid
theorem bt_get (d : ByteArray) (k : Nat) (h : k < d.size) : ∃ c, d.data.toList[k]? = some c ∧ bt d k = (c.toNat : Int) := by
  refine ⟨d[k], ?_, ?_⟩
  · have : k < d.data.toList.length := by simpa using h
    rw [List.getElem?_eq_getElem this]; rfl
  · unfold bt; rw [dif_pos h]
theorem take_step {l : List UInt8} {k : Nat} {c : UInt8} (h : l[k]? = some c) : l.take (k + 1) = l.take k ++ [c] := by
  rw [List.take_add_one, h]; rfl
theorem head_bt (d : ByteArray) (h : 0 < d.size) (h48 : (bt d 0 == 48) = false) : d.data.toList.head? ≠ some 48 := by
  obtain ⟨c, hc, hb⟩ := bt_get d 0 h
  intro hh
  rw [List.head?_eq_getElem?, hc] at hh
  have e := Option.some.inj hh
  subst e
  rw [hb] at h48
  exact absurd h48 (by decide)
theorem head_bt' (d : ByteArray) (h : 0 < d.size) (h48 : (bt d 0 == 48) = true) : d.data.toList.head? = some 48 := by
  obtain ⟨c, hc, hb⟩ := bt_get d 0 h
  rw [List.head?_eq_getElem?, hc]
  rw [hb] at h48
  have e : c.toNat = 48 := by have := of_decide_eq_true h48; omega
  exact congrArg some (UInt8.toNat_inj.1 (by rw [e]; rfl))
theorem ne_nil_of_size {d : ByteArray} (h : 0 < d.size) : d.data.toList ≠ [] := by
  intro e
  have hz := Lib.size_eq d
  rw [e, List.length_nil] at hz
  omega
/-- A round's step, in the walk's own form. -/
theorem step_val {l : List UInt8} {k : Nat} {c : UInt8} (hk : k < 19) (h : l[k]? = some c) (hd : ∀ x ∈ l.take k, Dig x) (h0 : 48 ≤ (c.toNat : Int)) (h1 : (c.toNat : Int) ≤ 57) :
    IntKind.u64.wrap (IntKind.u64.wrap ((val 0 (l.take k) : Int) * 10) + ((c.toNat : Int) - 48)) = (val 0 (l.take (k + 1)) : Int) ∧ (∀ x ∈ l.take (k + 1), Dig x) := by
  have e : val 0 (l.take (k + 1)) = val 0 (l.take k) * 10 + (c.toNat - 48) := by rw [take_step h, val_append]; rfl
  have hl := val_lt (l.take k) hd 0
  have hk' : (l.take k).length ≤ k := List.length_take_le _ _
  have hp : 10 ^ (l.take k).length ≤ 10 ^ 18 := Nat.pow_le_pow_right (by decide) (by omega)
  have h18 : (10 : Nat) ^ 18 = 1000000000000000000 := by decide
  rw [h18] at hp
  refine ⟨?_, ?_⟩
  · rw [IntKind.wrap_u64, IntKind.wrap_u64, e]
    omega
  · intro x hx
    rw [take_step h] at hx
    rcases List.mem_append.1 hx with hx | hx
    · exact hd x hx
    · rw [List.mem_singleton] at hx
      subst hx
      exact ⟨by omega, by omega⟩
set_option maxHeartbeats 4000000 in
theorem refParse_pos (s : ByteArray) (w : World) (hs : 0 < s.size) (hbig : s.size ≤ 281474976710656) (q45 : (bt s 0 == 45) = false) :
    Calls Tryz.prog 70 #[.string s] w fun e w' => e = .returned (.tuple #[.int .i64 (val 0 s.data.toList : Int), .int .i64 0]) ∧ Ok s.data.toList s.data.toList false ∧ w = w' ∨ e = .returned (.tuple #[.int .i64 0, .int .i64 3]) ∧ ¬ Ok s.data.toList s.data.toList false ∧ w = w' := by
  have hb := get_bt s
  have hs' : (0 : Int) < (s.size : Int) := by omega
  by_cases h19 : 19 < s.size
  · have q19 : (19 : Int) < (s.size : Int) := by omega
    go_enter Tryz.func70, Tryz.ntmps70
    go_wp2
    go_ret2
    exact .inr ⟨rfl, fun h => by have := h.2.1; simp at this; omega, rfl⟩
  have q19 : decide ((19 : Int) < (s.size : Int)) = false := by simp; omega
  have q1 : decide ((s.size : Int) < 1) = false := by simp; omega
  by_cases h48 : (bt s 0 == 48) = true
  · cases hz : (s.toList == [48])
    · go_enter Tryz.func70, Tryz.ntmps70
      go_wp2
      go_ret2
      refine .inr ⟨rfl, fun h => ?_, rfl⟩
      have := h.2.2.1 (head_bt' s hs h48)
      rw [ByteArray.toList_eq, this] at hz
      exact absurd hz (by decide)
    have HH : Hid (s.data.toList.head? = some 48 → s.data.toList = [48]) := fun _ => by rw [ByteArray.toList_eq] at hz; simpa using hz
    go_enter Tryz.func70, Tryz.ntmps70
    go_wp2
    go_loop [6, 7] (fun m i => ∃ k : Nat, k ≤ s.size ∧ i = .int .i64 k ∧ m = .int .u64 (val 0 (s.data.toList.take k)) ∧ ∀ x ∈ s.data.toList.take k, Dig x) (fun _ i => s.size - (intOf i).toNat)
    case atStart => exact ⟨0, Nat.zero_le _, rfl, rfl, by simp⟩
    case round =>
      obtain ⟨k, hk, rfl, rfl, hdk⟩ := hrel
      have HD : Hid (∀ x ∈ s.data.toList.take k, Dig x) := hdk
      clear hdk
      by_cases hlt : k < s.size
      · obtain ⟨c, hc, hbc⟩ := bt_get s k hlt
        have HC : Hid (s.data.toList[k]? = some c) := hc
        have HBC : Hid (bt s k = (c.toNat : Int)) := hbc
        clear hc hbc
        have r0 := bt_nonneg s k
        have r1 := bt_le s k
        by_cases hc0 : bt s k < 48
        · go_wp2
          go_ret2
          refine .inr ⟨rfl, fun h => ?_, rfl⟩
          have := h.2.2.2.1 c (List.mem_of_getElem? HC.out)
          have hb := HBC.out
          unfold Dig at this
          omega
        by_cases hc1 : 57 < bt s k
        · have q0 : decide (bt s k < 48) = false := by simpa using hc0
          go_wp2
          go_ret2
          refine .inr ⟨rfl, fun h => ?_, rfl⟩
          have := h.2.2.2.1 c (List.mem_of_getElem? HC.out)
          have hb := HBC.out
          unfold Dig at this
          omega
        have q0 : decide (bt s k < 48) = false := by simpa using hc0
        have q57 : decide (57 < bt s k) = false := by simpa using hc1
        have hst := step_val (by omega) HC.out HD.out (by rw [← HBC.out]; omega) (by rw [← HBC.out]; omega)
        rw [← HBC.out] at hst
        obtain ⟨hst1, hst2⟩ := hst
        have HST : Hid (∀ x ∈ s.data.toList.take (k + 1), Dig x) := hst2
        clear hst2
        obtain ⟨vk, hvk⟩ : ∃ vk : Int, vk = (val 0 (s.data.toList.take k) : Int) := ⟨_, rfl⟩
        obtain ⟨vk1, hvk1⟩ : ∃ vk1 : Int, vk1 = (val 0 (s.data.toList.take (k + 1)) : Int) := ⟨_, rfl⟩
        rw [← hvk, ← hvk1] at hst1
        rw [← hvk]
        have HV1 : Hid _ := hvk1
        clear hvk hvk1
        go_wp2
        go_round
        case rel => exact ⟨k + 1, by omega, by go_num, by rw [← HV1.out], HST.out⟩
        case measure => simp [intOf]; omega
      · have hke : k = s.size := by omega
        subst hke
        have et : s.data.toList.take s.size = s.data.toList := List.take_of_length_le (by simp)
        have hd2 := HD.out
        rw [et] at hd2
        have HD2 : Hid (∀ x ∈ s.data.toList, Dig x) := hd2
        clear hd2 HD
        rw [et]
        clear et
        have hN := val_lt s.data.toList HD2.out 0
        have hp : 10 ^ s.data.toList.length ≤ 10 ^ 19 := Nat.pow_le_pow_right (by decide) (by rw [← Lib.size_eq]; omega)
        have h19' : (10 : Nat) ^ 19 = 10000000000000000000 := by decide
        rw [h19'] at hp
        clear h19'
        have hNN : val 0 s.data.toList < 10000000000000000000 := by omega
        clear hN hp
        obtain ⟨vn, hvn⟩ : ∃ vn : Int, vn = (val 0 s.data.toList : Int) := ⟨_, rfl⟩
        rw [← hvn]
        have hn0 : 0 ≤ vn := by omega
        have hn1 : vn < 10000000000000000000 := by omega
        have HVN : Hid (vn = (val 0 s.data.toList : Int)) := hvn
        clear hvn hNN
        by_cases hov : 9223372036854775807 < vn
        · go_wp2
          go_ret2
          refine .inr ⟨rfl, fun h => ?_, rfl⟩
          have h5 := h.2.2.2.2
          have hv := HVN.out
          rw [if_neg (by decide)] at h5
          omega
        · have qov : decide ((9223372036854775807 : Int) < vn) = false := by simpa using hov
          have OKK : Hid (Ok s.data.toList s.data.toList false) := ⟨ne_nil_of_size (by omega), by rw [← Lib.size_eq]; omega, HH.out, HD2.out, by have hv := HVN.out; rw [if_neg (by decide)]; omega⟩
          have EV : Hid (IntKind.i64.wrap vn = vn) := by show _ = _; rw [IntKind.wrap_i64]; omega
          have ev := EV.out
          go_wp2
          go_ret2
          exact .inl ⟨by rw [← HVN.out]; rfl, OKK.out, rfl⟩
  · have q48 : (bt s 0 == 48) = false := by simpa using h48
    clear h48
    have HH : Hid (s.data.toList.head? = some 48 → s.data.toList = [48]) := fun h => absurd h (head_bt s hs q48)
    go_enter Tryz.func70, Tryz.ntmps70
    go_wp2
    go_loop [6, 7] (fun m i => ∃ k : Nat, k ≤ s.size ∧ i = .int .i64 k ∧ m = .int .u64 (val 0 (s.data.toList.take k)) ∧ ∀ x ∈ s.data.toList.take k, Dig x) (fun _ i => s.size - (intOf i).toNat)
    case atStart => exact ⟨0, Nat.zero_le _, rfl, rfl, by simp⟩
    case round =>
      obtain ⟨k, hk, rfl, rfl, hdk⟩ := hrel
      have HD : Hid (∀ x ∈ s.data.toList.take k, Dig x) := hdk
      clear hdk
      by_cases hlt : k < s.size
      · obtain ⟨c, hc, hbc⟩ := bt_get s k hlt
        have HC : Hid (s.data.toList[k]? = some c) := hc
        have HBC : Hid (bt s k = (c.toNat : Int)) := hbc
        clear hc hbc
        have r0 := bt_nonneg s k
        have r1 := bt_le s k
        by_cases hc0 : bt s k < 48
        · go_wp2
          go_ret2
          refine .inr ⟨rfl, fun h => ?_, rfl⟩
          have := h.2.2.2.1 c (List.mem_of_getElem? HC.out)
          have hb := HBC.out
          unfold Dig at this
          omega
        by_cases hc1 : 57 < bt s k
        · have q0 : decide (bt s k < 48) = false := by simpa using hc0
          go_wp2
          go_ret2
          refine .inr ⟨rfl, fun h => ?_, rfl⟩
          have := h.2.2.2.1 c (List.mem_of_getElem? HC.out)
          have hb := HBC.out
          unfold Dig at this
          omega
        have q0 : decide (bt s k < 48) = false := by simpa using hc0
        have q57 : decide (57 < bt s k) = false := by simpa using hc1
        have hst := step_val (by omega) HC.out HD.out (by rw [← HBC.out]; omega) (by rw [← HBC.out]; omega)
        rw [← HBC.out] at hst
        obtain ⟨hst1, hst2⟩ := hst
        have HST : Hid (∀ x ∈ s.data.toList.take (k + 1), Dig x) := hst2
        clear hst2
        obtain ⟨vk, hvk⟩ : ∃ vk : Int, vk = (val 0 (s.data.toList.take k) : Int) := ⟨_, rfl⟩
        obtain ⟨vk1, hvk1⟩ : ∃ vk1 : Int, vk1 = (val 0 (s.data.toList.take (k + 1)) : Int) := ⟨_, rfl⟩
        rw [← hvk, ← hvk1] at hst1
        rw [← hvk]
        have HV1 : Hid _ := hvk1
        clear hvk hvk1
        go_wp2
        go_round
        case rel => exact ⟨k + 1, by omega, by go_num, by rw [← HV1.out], HST.out⟩
        case measure => simp [intOf]; omega
      · have hke : k = s.size := by omega
        subst hke
        have et : s.data.toList.take s.size = s.data.toList := List.take_of_length_le (by simp)
        have hd2 := HD.out
        rw [et] at hd2
        have HD2 : Hid (∀ x ∈ s.data.toList, Dig x) := hd2
        clear hd2 HD
        rw [et]
        clear et
        have hN := val_lt s.data.toList HD2.out 0
        have hp : 10 ^ s.data.toList.length ≤ 10 ^ 19 := Nat.pow_le_pow_right (by decide) (by rw [← Lib.size_eq]; omega)
        have h19' : (10 : Nat) ^ 19 = 10000000000000000000 := by decide
        rw [h19'] at hp
        clear h19'
        have hNN : val 0 s.data.toList < 10000000000000000000 := by omega
        clear hN hp
        obtain ⟨vn, hvn⟩ : ∃ vn : Int, vn = (val 0 s.data.toList : Int) := ⟨_, rfl⟩
        rw [← hvn]
        have hn0 : 0 ≤ vn := by omega
        have hn1 : vn < 10000000000000000000 := by omega
        have HVN : Hid (vn = (val 0 s.data.toList : Int)) := hvn
        clear hvn hNN
        by_cases hov : 9223372036854775807 < vn
        · go_wp2
          go_ret2
          refine .inr ⟨rfl, fun h => ?_, rfl⟩
          have h5 := h.2.2.2.2
          have hv := HVN.out
          rw [if_neg (by decide)] at h5
          omega
        · have qov : decide ((9223372036854775807 : Int) < vn) = false := by simpa using hov
          have OKK : Hid (Ok s.data.toList s.data.toList false) := ⟨ne_nil_of_size (by omega), by rw [← Lib.size_eq]; omega, HH.out, HD2.out, by have hv := HVN.out; rw [if_neg (by decide)]; omega⟩
          have EV : Hid (IntKind.i64.wrap vn = vn) := by show _ = _; rw [IntKind.wrap_i64]; omega
          have ev := EV.out
          go_wp2
          go_ret2
          exact .inl ⟨by rw [← HVN.out]; rfl, OKK.out, rfl⟩
theorem neg_cons (s d : ByteArray) (hs : 0 < s.size) (hd : s.extract 1 s.size = d) (q45 : (bt s 0 == 45) = true) : s.data.toList = 45 :: d.data.toList := by
  obtain ⟨c, hc, hb⟩ := bt_get s 0 hs
  rw [hb] at q45
  have ec : c.toNat = 45 := by have := of_decide_eq_true q45; omega
  have ec' : c = 45 := UInt8.toNat_inj.1 (by rw [ec]; rfl)
  rw [← hd, Lib.extract_data]
  have hz := Lib.size_eq s
  generalize s.data.toList = l at hc hz ⊢
  cases l with
  | nil => simp at hc
  | cons x r =>
    simp at hc
    rw [hc, ec']
    rw [List.drop_succ_cons, List.drop_zero, List.take_of_length_le (by rw [hz, List.length_cons]; omega)]
set_option maxHeartbeats 4000000 in
theorem refParse_neg (s d : ByteArray) (w : World) (hs : 0 < s.size) (hbig : s.size ≤ 281474976710656) (hd : s.extract 1 s.size = d) (q45 : (bt s 0 == 45) = true) :
    Calls Tryz.prog 70 #[.string s] w fun e w' => e = .returned (.tuple #[.int .i64 (-(val 0 d.data.toList : Int)), .int .i64 0]) ∧ Ok (45 :: d.data.toList) d.data.toList true ∧ w = w' ∨ e = .returned (.tuple #[.int .i64 0, .int .i64 3]) ∧ ¬ Ok (45 :: d.data.toList) d.data.toList true ∧ w = w' := by
  have hb := get_bt s
  have hbd := get_bt d
  have hs' : (0 : Int) < (s.size : Int) := by omega
  have hdz : d.size ≤ s.size := by rw [← hd]; simp
  have hcons := neg_cons s d hs hd q45
  have HCONS : Hid _ := hcons
  clear hcons
  by_cases hd0 : d.size = 0
  · have qd : ((d.size : Int) < 1) := by omega
    go_enter Tryz.func70, Tryz.ntmps70
    go_wp2
    go_ret2
    refine .inr ⟨rfl, fun h => ?_, rfl⟩
    have hz := Lib.size_eq d
    exact h.1 (List.eq_nil_of_length_eq_zero (by omega))
  have hdp : 0 < d.size := by omega
  have hdp' : (0 : Int) < (d.size : Int) := by omega
  have q1 : decide ((d.size : Int) < 1) = false := by simp; omega
  by_cases h19 : 19 < d.size
  · have q19 : (19 : Int) < (d.size : Int) := by omega
    go_enter Tryz.func70, Tryz.ntmps70
    go_wp2
    go_ret2
    exact .inr ⟨rfl, fun h => by have := h.2.1; rw [← Lib.size_eq] at this; omega, rfl⟩
  have q19 : decide ((19 : Int) < (d.size : Int)) = false := by simp; omega
  by_cases h48 : (bt d 0 == 48) = true
  · have hz : (s.toList == [48]) = false := by
      rw [ByteArray.toList_eq, HCONS.out]
      simp
    go_enter Tryz.func70, Tryz.ntmps70
    go_wp2
    go_ret2
    refine .inr ⟨rfl, fun h => ?_, rfl⟩
    have := h.2.2.1 (head_bt' d hdp h48)
    simp at this
  · have q48 : (bt d 0 == 48) = false := by simpa using h48
    clear h48
    have HH : Hid (d.data.toList.head? = some 48 → (45 :: d.data.toList) = [48]) := fun h => absurd h (head_bt d hdp q48)
    go_enter Tryz.func70, Tryz.ntmps70
    go_wp2
    go_loop [6, 7] (fun m i => ∃ k : Nat, k ≤ d.size ∧ i = .int .i64 k ∧ m = .int .u64 (val 0 (d.data.toList.take k)) ∧ ∀ x ∈ d.data.toList.take k, Dig x) (fun _ i => d.size - (intOf i).toNat)
    case atStart => exact ⟨0, Nat.zero_le _, rfl, rfl, by simp⟩
    case round =>
      obtain ⟨k, hk, rfl, rfl, hdk⟩ := hrel
      have HD : Hid (∀ x ∈ d.data.toList.take k, Dig x) := hdk
      clear hdk
      by_cases hlt : k < d.size
      · obtain ⟨c, hc, hbc⟩ := bt_get d k hlt
        have HC : Hid (d.data.toList[k]? = some c) := hc
        have HBC : Hid (bt d k = (c.toNat : Int)) := hbc
        clear hc hbc
        have r0 := bt_nonneg d k
        have r1 := bt_le d k
        by_cases hc0 : bt d k < 48
        · go_wp2
          go_ret2
          refine .inr ⟨rfl, fun h => ?_, rfl⟩
          have := h.2.2.2.1 c (List.mem_of_getElem? HC.out)
          have hb := HBC.out
          unfold Dig at this
          omega
        by_cases hc1 : 57 < bt d k
        · have q0 : decide (bt d k < 48) = false := by simpa using hc0
          go_wp2
          go_ret2
          refine .inr ⟨rfl, fun h => ?_, rfl⟩
          have := h.2.2.2.1 c (List.mem_of_getElem? HC.out)
          have hb := HBC.out
          unfold Dig at this
          omega
        have q0 : decide (bt d k < 48) = false := by simpa using hc0
        have q57 : decide (57 < bt d k) = false := by simpa using hc1
        have hst := step_val (by omega) HC.out HD.out (by rw [← HBC.out]; omega) (by rw [← HBC.out]; omega)
        rw [← HBC.out] at hst
        obtain ⟨hst1, hst2⟩ := hst
        have HST : Hid (∀ x ∈ d.data.toList.take (k + 1), Dig x) := hst2
        clear hst2
        obtain ⟨vk, hvk⟩ : ∃ vk : Int, vk = (val 0 (d.data.toList.take k) : Int) := ⟨_, rfl⟩
        obtain ⟨vk1, hvk1⟩ : ∃ vk1 : Int, vk1 = (val 0 (d.data.toList.take (k + 1)) : Int) := ⟨_, rfl⟩
        rw [← hvk, ← hvk1] at hst1
        rw [← hvk]
        have HV1 : Hid _ := hvk1
        clear hvk hvk1
        go_wp2
        go_round
        case rel => exact ⟨k + 1, by omega, by go_num, by rw [← HV1.out], HST.out⟩
        case measure => simp [intOf]; omega
      · have hke : k = d.size := by omega
        subst hke
        have et : d.data.toList.take d.size = d.data.toList := List.take_of_length_le (by simp)
        have hd2 := HD.out
        rw [et] at hd2
        have HD2 : Hid (∀ x ∈ d.data.toList, Dig x) := hd2
        clear hd2 HD
        rw [et]
        clear et
        have hN := val_lt d.data.toList HD2.out 0
        have hp : 10 ^ d.data.toList.length ≤ 10 ^ 19 := Nat.pow_le_pow_right (by decide) (by rw [← Lib.size_eq]; omega)
        have h19' : (10 : Nat) ^ 19 = 10000000000000000000 := by decide
        rw [h19'] at hp
        clear h19'
        have hNN : val 0 d.data.toList < 10000000000000000000 := by omega
        clear hN hp
        obtain ⟨vn, hvn⟩ : ∃ vn : Int, vn = (val 0 d.data.toList : Int) := ⟨_, rfl⟩
        rw [← hvn]
        have hn0 : 0 ≤ vn := by omega
        have hn1 : vn < 10000000000000000000 := by omega
        have HVN : Hid (vn = (val 0 d.data.toList : Int)) := hvn
        clear hvn hNN
        by_cases hov : 9223372036854775808 < vn
        · go_wp2
          go_ret2
          refine .inr ⟨rfl, fun h => ?_, rfl⟩
          have h5 := h.2.2.2.2
          have hv := HVN.out
          rw [if_pos rfl] at h5
          omega
        · have qov : decide ((9223372036854775808 : Int) < vn) = false := by simpa using hov
          have OKK : Hid (Ok (45 :: d.data.toList) d.data.toList true) := ⟨ne_nil_of_size (by omega), by rw [← Lib.size_eq]; omega, HH.out, HD2.out, by have hv := HVN.out; rw [if_pos rfl]; omega⟩
          have EV : Hid (IntKind.i64.wrap (IntKind.u64.wrap (-vn)) = -vn) := by show _ = _; rw [IntKind.wrap_i64, IntKind.wrap_u64]; have hnz := (ok_neg OKK.out).2; have hv := HVN.out; omega
          have ev := EV.out
          go_wp2
          go_ret2
          exact .inl ⟨by rw [← HVN.out]; rfl, OKK.out, rfl⟩
end Go.Proofs.YtmihhebcchpmcaaGreatDoor
