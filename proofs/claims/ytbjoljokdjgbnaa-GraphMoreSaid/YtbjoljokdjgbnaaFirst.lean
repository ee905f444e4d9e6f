/-
  The first byte that is wrong: what firstWrong comes to.
-/
import Derived.Test.YtbjoljokdjgbnaaEnc
namespace Go.Proofs.Ytbjoljokdjgbnaa
open Go.RowKit Go.Deep
/-- Is the byte at the place i wrong? -/
def wrongAt (bs : List Int) (i : Nat) : Bool :=
  if i = 0 then !(decide (1 ≤ bs.getD 0 0) && decide (bs.getD 0 0 ≤ 12)) else
  if i = 1 then decide (30 < bs.getD 1 0) else
  decide (2 + 2 * bs.getD 1 0 ≤ (i : Int)) || !(decide (0 ≤ bs.getD i 0) && decide (bs.getD i 0 < bs.getD 0 0))
def endAt (bs : List Int) (i : Nat) : Int := if i ≤ 1 then 2 else 2 + 2 * bs.getD 1 0
def fw (bs : List Int) : Int × Bool :=
  match (List.range bs.length).find? (wrongAt bs) with
  | some i => ((i : Int), false)
  | none => ((bs.length : Int), decide ((bs.length : Int) = endAt bs bs.length))
theorem fw_some {bs : List Int} {i : Nat} (hi : i < bs.length) (hw : wrongAt bs i = true) (h : ∀ j, j < i → wrongAt bs j = false) : fw bs = ((i : Int), false) := by
  have : (List.range bs.length).find? (wrongAt bs) = some i := by
    rw [List.find?_range_eq_some]
    exact ⟨hw, by simpa using hi, fun j hj => by simp [h j hj]⟩
  unfold fw; rw [this]
theorem fw_none {bs : List Int} (h : ∀ j, j < bs.length → wrongAt bs j = false) : fw bs = ((bs.length : Int), decide ((bs.length : Int) = endAt bs bs.length)) := by
  have : (List.range bs.length).find? (wrongAt bs) = none := by
    rw [List.find?_range_eq_none]
    exact fun j hj => by simp [h j hj]
  unfold fw; rw [this]
set_option maxRecDepth 100000 in
set_option maxHeartbeats 2000000 in
theorem first_any (v : Value) (bs : List Int) (w : World) (hv : SeesB w v bs) (hr : ∀ x ∈ bs, 0 ≤ x ∧ x < 256) (hl : bs.length ≤ 9223372036854775807) :
    Calls Try.prog 54 #[v] w fun e w' => e = .returned (.tuple #[.int .i64 (fw bs).1, .bool (fw bs).2]) ∧ w = w' := by
  obtain ⟨a, cap, rfl, hs⟩ := hv
  have HS := hidI hs
  have HR := hidI hr
  obtain ⟨m, hm⟩ : ∃ m, bs.length = m := ⟨_, rfl⟩
  rw [hm] at hl ⊢
  have HM := hidI hm
  clear hs hr hm
  go_enter Try.func54, Try.ntmps54
  go_wp2
  go_loopg [4, 9] m (fun g s4 s9 wx => ∃ (i : Nat), i + g = m ∧ s9 = .int .i64 i ∧ s4 = .int .i64 (endAt bs i) ∧ (∀ j, j < i → wrongAt bs j = false) ∧ w = wx)
  case atStart => exact ⟨0, by omega, rfl, rfl, fun j hj => absurd hj (by omega), rfl⟩
  case round =>
    obtain ⟨i, hig, rfl, rfl, hall, rfl⟩ := hrel
    have HA := hidI hall
    clear hall
    cases gk with
    | zero =>
      have hil : i = m := by omega
      subst hil
      have hf := fw_none (bs := bs) (fun j hj => HA.out j (by have := HM.out; omega))
      rw [HM.out] at hf
      have HF := hidI hf
      clear hf
      obtain ⟨en, hen⟩ : ∃ en, endAt bs i = en := ⟨_, rfl⟩
      rw [hen]
      have HE := hidI hen
      clear hen
      go_wp2
      go_ret2
      exact ⟨by rw [HF.out, HE.out]; rfl, rfl⟩
    | succ g =>
      have hlt : i < m := by omega
      rcases HS.out with h0 | ⟨b, off, rfl, hc⟩
      · have := HM.out; rw [h0] at this; simp at this; omega
      have hib : i < bs.length := by have := HM.out; omega
      have hci := hc i hib
      have hc0 := hc 0 (by omega)
      rw [Nat.add_zero] at hc0
      have hxr := HR.out (bs.getD i 0) (by simp [List.getD, hib])
      have h0r := HR.out (bs.getD 0 0) (by simp [List.getD, show 0 < bs.length by omega])
      obtain ⟨x, hx⟩ : ∃ x, bs.getD i 0 = x := ⟨_, rfl⟩
      obtain ⟨y, hy⟩ : ∃ y, bs.getD 0 0 = y := ⟨_, rfl⟩
      rw [hx] at hci hxr
      rw [hy] at hc0 h0r
      obtain ⟨x0, x1⟩ := hxr
      obtain ⟨y0, y1⟩ := h0r
      have wx : IntKind.i64.wrap x = x := by rw [IntKind.wrap_i64]; omega
      have wy : IntKind.i64.wrap y = y := by rw [IntKind.wrap_i64]; omega
      have HX := hidI hx
      have HY := hidI hy
      have HIB := hidI hib
      clear hx hy hc hib
      by_cases h0 : i = 0
      · subst h0
        have hxy : y = x := by rw [← HX.out, ← HY.out]
        subst hxy
        rw [Nat.add_zero] at hci
        have e2 : endAt bs 0 = 2 := rfl
        rw [e2]
        clear hci e2
        by_cases hd : (decide (1 ≤ y) && decide (y ≤ 12)) = true
        · go_wp2_with (go_at_call 35; refine (may_any _ _).mono ?_; rintro e w' ⟨rfl, rfl⟩; rw [hd])
          go_roundg g
          case measure => omega
          case rel =>
            refine ⟨1, by omega, by go_num, rfl, fun j hj => ?_, rfl⟩
            obtain rfl : j = 0 := by omega
            simp only [wrongAt, if_true, HY.out, hd]; rfl
        · have hd' : (decide (1 ≤ y) && decide (y ≤ 12)) = false := by simpa using hd
          have hf : fw bs = (((0 : Nat) : Int), false) := fw_some HIB.out (by simp only [wrongAt, if_true, HY.out, hd']; rfl) HA.out
          have HF := hidI hf
          clear hf hd
          go_wp2_with (go_at_call 35; refine (may_any _ _).mono ?_; rintro e w' ⟨rfl, rfl⟩; rw [hd'])
          go_ret2
          exact ⟨by rw [HF.out]; rfl, rfl⟩
      by_cases h1 : i = 1
      · subst h1
        have e2 : endAt bs 1 = 2 := rfl
        rw [e2]
        clear e2
        by_cases hd : 30 < x
        · have hf : fw bs = (((1 : Nat) : Int), false) := fw_some HIB.out (by unfold wrongAt; rw [if_neg (by decide), if_pos rfl, HX.out]; simp [hd]) HA.out
          have HF := hidI hf
          clear hf
          go_wp2
          go_ret2
          exact ⟨by rw [HF.out]; rfl, rfl⟩
        · have hd' : decide (30 < x) = false := by simpa using hd
          go_wp2
          go_roundg g
          case measure => omega
          case rel =>
            refine ⟨2, by omega, by go_num, ?_, fun j hj => ?_, rfl⟩
            · have : endAt bs 2 = 2 + 2 * x := by unfold endAt; rw [if_neg (by decide), HX.out]
              rw [this]
            · by_cases hj1 : j = 1
              · subst hj1
                unfold wrongAt; rw [if_neg (by decide), if_pos rfl, HX.out]; exact hd'
              · exact HA.out j (by omega)
      · have h2 : (2 : Int) ≤ (i : Int) := by omega
        have e2 : endAt bs i = 2 + 2 * bs.getD 1 0 := by unfold endAt; rw [if_neg (by omega)]
        rw [e2]
        have h1r := HR.out (bs.getD 1 0) (by have := HIB.out; simp [List.getD, show 1 < bs.length by omega])
        obtain ⟨z, hz⟩ : ∃ z, bs.getD 1 0 = z := ⟨_, rfl⟩
        rw [hz] at h1r e2 ⊢
        have HZ := hidI hz
        have HE := hidI e2
        have HN0 := hidI h0
        have HN1 := hidI h1
        clear hz e2 h0 h1
        obtain ⟨z0, z1⟩ := h1r
        have i0 : decide ((i : Int) = 0) = false := by simp; omega
        have i1 : decide ((i : Int) = 1) = false := by simp; omega
        have hw : wrongAt bs i = (decide (2 + 2 * z ≤ (i : Int)) || !(decide (0 ≤ x) && decide (x < y))) := by
          unfold wrongAt; rw [if_neg HN0.out, if_neg HN1.out, HX.out, HY.out, HZ.out]
        have HW := hidI hw
        clear hw
        by_cases hd : 2 + 2 * z ≤ (i : Int)
        · have hf : fw bs = ((i : Int), false) := fw_some HIB.out (by rw [HW.out]; simp [hd]) HA.out
          have HF := hidI hf
          clear hf
          go_wp2
          go_ret2
          exact ⟨by rw [HF.out]; rfl, rfl⟩
        · have hd' : decide (2 + 2 * z ≤ (i : Int)) = false := by simpa using hd
          by_cases hn : (decide (0 ≤ x) && decide (x < y)) = true
          · go_wp2_with (go_at_call 36; refine (isNode_any _ _ _).mono ?_; rintro e w' ⟨rfl, rfl⟩; rw [hn])
            go_roundg g
            case measure => omega
            case rel =>
              refine ⟨i + 1, by omega, by go_num, ?_, fun j hj => ?_, rfl⟩
              · have : endAt bs (i + 1) = 2 + 2 * z := by unfold endAt; rw [if_neg (by omega), HZ.out]
                rw [this]
              · by_cases hji : j = i
                · subst hji
                  rw [HW.out, hd', hn]; rfl
                · exact HA.out j (by omega)
          · have hn' : (decide (0 ≤ x) && decide (x < y)) = false := by simpa using hn
            have hf : fw bs = ((i : Int), false) := fw_some HIB.out (by rw [HW.out, hn']; simp) HA.out
            have HF := hidI hf
            clear hf hn
            go_wp2_with (go_at_call 36; refine (isNode_any _ _ _).mono ?_; rintro e w' ⟨rfl, rfl⟩; rw [hn'])
            go_ret2
            exact ⟨by rw [HF.out]; rfl, rfl⟩
end Go.Proofs.Ytbjoljokdjgbnaa
