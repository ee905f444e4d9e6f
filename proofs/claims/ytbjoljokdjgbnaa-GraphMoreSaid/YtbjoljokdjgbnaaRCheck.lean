/-
  The document's Check.
-/
import Derived.Test.YtbjoljokdjgbnaaSame
namespace Go.Proofs.Ytbjoljokdjgbnaa
open Go.RowKit Go.Deep
set_option maxHeartbeats 1000000 in
theorem rcheck_sizes (n : Int) (a : Option Addr) (len cap : Nat) (w : World) (h : n < 1 ∨ 12 < n ∨ 30 < len) :
    Calls Try.prog 11 #[.int .i64 n, .slice a len cap] w fun e w' => e = .returned (.tuple #[.int .i64 (-1), .int .i64 11]) ∧ w = w' := by
  by_cases h1 : n < 1
  · go_enter Try.func11, Try.ntmps11
    go_wp2
    go_ret2
    exact ⟨rfl, rfl⟩
  · have d1 : decide (n < 1) = false := by simpa using h1
    by_cases h2 : 12 < n
    · go_enter Try.func11, Try.ntmps11
      go_wp2
      go_ret2
      exact ⟨rfl, rfl⟩
    · have d2 : decide (12 < n) = false := by simpa using h2
      have h3 : (30 : Int) < (len : Int) := by omega
      go_enter Try.func11, Try.ntmps11
      go_wp2
      go_ret2
      exact ⟨rfl, rfl⟩
set_option maxRecDepth 100000 in
set_option maxHeartbeats 2000000 in
theorem rcheck_walk (n : Int) (a : Option Addr) (cap : Nat) (es : Edges) (w : World) (h1 : 1 ≤ n) (h2 : n ≤ 12) (h3 : es.length ≤ 30) (hs : es = [] ∨ ∃ b off, a = some ⟨b, off, none⟩ ∧ Lie w b off es) :
    Calls Try.prog 11 #[.int .i64 n, .slice a es.length cap] w fun e w' => e = .returned (.tuple #[.int .i64 (check n es).1, .int .i64 (check n es).2]) ∧ w = w' := by
  have hck : check n es = match es.findIdx? (fun x => !good n x) with | none => (0, 0) | some i => ((i : Int), 11) := by
    unfold check; rw [if_neg (by omega)]; rfl
  have HS := hidI hs
  have HK := hidI hck
  obtain ⟨m, hm⟩ : ∃ m, es.length = m := ⟨_, rfl⟩
  rw [hm] at h3 ⊢
  have HM := hidI hm
  have d1 : decide (n < 1) = false := by simp; omega
  have d2 : decide (12 < n) = false := by simp; omega
  have d3 : decide ((30 : Int) < (m : Int)) = false := by simp; omega
  clear hs hck hm
  go_enter Try.func11, Try.ntmps11
  go_wp2
  go_loopg [6] m (fun g s6 wx => ∃ (i : Nat), i + g = m ∧ s6 = .int .i64 i ∧ (∀ (j : Nat) (x : Int × Int), j < i → es[j]? = some x → good n x = true) ∧ w = wx)
  case atStart => exact ⟨0, by omega, rfl, fun j x hj => absurd hj (by omega), rfl⟩
  case round =>
    obtain ⟨i, hig, rfl, hall, rfl⟩ := hrel
    have HA := hidI hall
    clear hall
    cases gk with
    | zero =>
      have hil : i = m := by omega
      subst hil
      have hr : check n es = (0, 0) := by
        rw [HK.out, findIdx_none (fun j x hx => HA.out j x (by have := (List.getElem?_eq_some_iff.1 hx).1; have := HM.out; omega) hx)]
      have HR := hidI hr
      clear hr
      go_wp2
      go_ret2
      exact ⟨by rw [HR.out]; rfl, rfl⟩
    | succ g =>
      have hlt : i < m := by omega
      obtain ⟨x, hx⟩ : ∃ x, es[i]? = some x := ⟨es[i]'(by have := HM.out; omega), List.getElem?_eq_getElem _⟩
      rcases HS.out with h0 | ⟨b, off, rfl, hc⟩
      · have := HM.out; rw [h0] at this; simp at this; omega
      obtain ⟨c1, c2⟩ := hc i x hx
      have HX := hidI hx
      clear hx hc
      have bad : good n x = false → check n es = ((i : Int), 11) := fun hb => by
        rw [HK.out, findIdx_some HX.out hb HA.out]
      have BAD := hidI bad
      clear bad
      by_cases g1 : x.1 < 0
      · go_wp2
        go_ret2
        exact ⟨by rw [BAD.out (by simp [good]; omega)]; rfl, rfl⟩
      have e1 : decide (x.1 < 0) = false := by simpa using g1
      by_cases g2 : n ≤ x.1
      · go_wp2
        go_ret2
        exact ⟨by rw [BAD.out (by simp [good]; omega)]; rfl, rfl⟩
      have e2 : decide (n ≤ x.1) = false := by simpa using g2
      by_cases g3 : x.2 < 0
      · go_wp2
        go_ret2
        exact ⟨by rw [BAD.out (by simp [good]; omega)]; rfl, rfl⟩
      have e3 : decide (x.2 < 0) = false := by simpa using g3
      by_cases g4 : n ≤ x.2
      · go_wp2
        go_ret2
        exact ⟨by rw [BAD.out (by simp [good]; omega)]; rfl, rfl⟩
      have e4 : decide (n ≤ x.2) = false := by simpa using g4
      go_wp2
      go_roundg g
      case measure => omega
      case rel =>
        refine ⟨i + 1, by omega, by go_num, fun j y hj hy => ?_, rfl⟩
        by_cases hji : j = i
        · subst hji
          have := HX.out; rw [hy] at this; cases this
          simp [good]; omega
        · exact HA.out j y (by omega) hy
theorem rcheck_any (n : Int) (v : Value) (es : Edges) (w : World) (hv : SeesE w v es) :
    Calls Try.prog 11 #[.int .i64 n, v] w fun e w' => e = .returned (.tuple #[.int .i64 (check n es).1, .int .i64 (check n es).2]) ∧ w = w' := by
  obtain ⟨a, cap, rfl, hs⟩ := hv
  by_cases h : n < 1 ∨ 12 < n ∨ 30 < es.length
  · refine (rcheck_sizes n a es.length cap w h).mono ?_
    rintro e w' ⟨rfl, rfl⟩
    unfold check
    rw [if_pos h]
    exact ⟨rfl, rfl⟩
  · exact rcheck_walk n a cap es w (by omega) (by omega) (by omega) hs
end Go.Proofs.Ytbjoljokdjgbnaa
