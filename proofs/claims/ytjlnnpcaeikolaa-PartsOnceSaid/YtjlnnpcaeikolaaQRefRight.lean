/-
  The call of the document's Right: what it comes to.
-/
import Derived.Test.YtjlnnpcaeikolaaQPlain
namespace Go.Proofs.Ytjlnnpcaeikolaa.Perm
open Go.RowKit Go.Deep
theorem mem_take_succ {zs : List Int} {k : Nat} (hk : k < zs.length) (i : Int) : i ∈ zs.take (k + 1) ↔ i ∈ zs.take k ∨ zs.getD k 0 = i := by
  rw [List.take_succ_eq_append_getElem hk, List.mem_append, show zs.getD k 0 = zs[k] by simp [List.getD, hk]]
  constructor
  · rintro (h | h)
    · exact .inl h
    · simp at h; exact .inr h.symm
  · rintro (h | h)
    · exact .inl h
    · right; simp [h]
theorem refRight_long (a : Option Addr) (len cap : Nat) (w : World) (h : 16 < len) :
    Calls Try.prog 42 #[.slice a len cap] w fun e w' => e = .returned (.bool false) ∧ w = w' := by
  have h1 : (16 : Int) < (len : Int) := by omega
  go_enter Try.func42, Try.ntmps42
  go_wp2
  go_ret
  exact ⟨rfl, rfl⟩
theorem refRight_empty (a : Option Addr) (cap : Nat) (w : World) :
    Calls Try.prog 42 #[.slice a 0 cap] w fun e w' => e = .returned (.bool true) ∧ w = w' := by
  go_enter Try.func42, Try.ntmps42
  go_wp2
  refine wp_loop_rounds 1 ?_
  rw [rounds_succ]
  go_wp2
  go_ret
  exact ⟨rfl, rfl⟩
set_option maxHeartbeats 1000000 in
theorem refRight_walk (b off len cap : Nat) (zs : List Int) (w : World) (h : len ≤ 16) (hz : zs.length = len)
    (hc : ∀ j, j < len → w.cell? ⟨b, off + j, none⟩ = some (.int .i64 (zs.getD j 0))) :
    Calls Try.prog 42 #[.slice (some ⟨b, off, none⟩) len cap] w fun e w' => e = .returned (.bool (rightB zs)) ∧ w = w' := by
  have HC : Hid _ := hc
  clear hc
  have h1 : decide ((16 : Int) < (len : Int)) = false := by simp; omega
  go_enter Try.func42, Try.ntmps42
  go_wp2
  go_loopg [3] len (fun g s3 wx => ∃ (i : Nat), i + g = len ∧ s3 = .int .i64 i ∧ Aside (∀ j : Nat, j < i → (j : Int) ∈ zs) ∧ w = wx)
  case atStart => exact ⟨0, by omega, rfl, fun j hj => absurd hj (Nat.not_lt_zero _), rfl⟩
  case round =>
    obtain ⟨i, hig, rfl, HM, rfl⟩ := hrel
    cases gk with
    | zero =>
      have hil : i = len := by omega
      subst hil
      have hr : Aside (rightB zs = true) := cover_mk (by omega) (by rw [hz]; exact HM.out)
      go_wp2
      go_ret
      exact ⟨by rw [hr.out]; rfl, rfl⟩
    | succ g =>
      have hlt : (i : Int) < (len : Int) := by omega
      go_wp2
      go_loopg [4, 5] len (fun g2 s4 s5 wy => ∃ (k : Nat) (bb : Bool), k + g2 = len ∧ s5 = .int .i64 k ∧ s4 = .bool bb ∧ Aside (bb = true ↔ (i : Int) ∈ zs.take k) ∧ w = wy)
      case atStart => exact ⟨0, false, by omega, rfl, rfl, by show _ ↔ _; simp, rfl⟩
      case round =>
        obtain ⟨k, bb, hkg, rfl, rfl, HB, rfl⟩ := hrel
        cases gk with
        | zero =>
          have hkl : k = len := by omega
          have hB := HB.out
          rw [hkl, ← hz, List.take_length] at hB
          subst hkl
          clear HB
          cases bb with
          | false =>
            have hr : Aside (rightB zs = false) := by
              show _ = _
              cases hx : rightB zs
              · rfl
              · have := right_all rfl (rightB_parts hx).1 (rightB_parts hx).2 (below_none _) i (by omega) (none_free i)
                exact absurd (hB.2 this) (by decide)
            clear hB
            go_wp2
            go_ret
            exact ⟨by rw [hr.out]; rfl, rfl⟩
          | true =>
            have HM' : Aside (∀ j : Nat, j < i + 1 → (j : Int) ∈ zs) := fun j hj => by
              by_cases e : j = i
              · subst e; exact hB.1 rfl
              · exact HM.out j (by omega)
            clear hB
            go_wp2
            go_roundg g
            case measure => omega
            case rel => exact ⟨i + 1, by omega, by go_num, HM', rfl⟩
        | succ g2 =>
          have hkl : (k : Int) < (len : Int) := by omega
          have hcell := HC.out k (by omega)
          obtain ⟨z, hzz⟩ : ∃ z, zs.getD k 0 = z := ⟨_, rfl⟩
          have hs := mem_take_succ (zs := zs) (k := k) (by omega) (i : Int)
          rw [hzz] at hcell hs
          have HS : Aside _ := hs
          clear hzz hs
          cases bb with
          | true =>
            go_wp2
            go_roundg g2
            case measure => omega
            case rel => exact ⟨k + 1, true, by omega, by go_num, rfl, by show _ ↔ _; rw [HS.out, ← HB.out]; simp, rfl⟩
          | false =>
            by_cases e : z = (i : Int)
            · have q : (z == (i : Int)) = true := by simp [e]
              have E : Aside (z = (i : Int)) := e
              clear e
              go_wp2
              go_roundg g2
              case measure => omega
              case rel => exact ⟨k + 1, true, by omega, by go_num, rfl, by show _ ↔ _; rw [HS.out]; simp [E.out], rfl⟩
            · have q : (z == (i : Int)) = false := by simp [e]
              have E : Aside (¬ z = (i : Int)) := e
              clear e
              go_wp2
              go_roundg g2
              case measure => omega
              case rel => exact ⟨k + 1, false, by omega, by go_num, rfl, by show _ ↔ _; rw [HS.out, ← HB.out]; simp [E.out], rfl⟩
theorem refRight_any (v : Value) (zs : List Int) (w : World) (h : Sees w v zs) :
    Calls Try.prog 42 #[v] w fun e w' => e = .returned (.bool (rightB zs)) ∧ w = w' := by
  obtain ⟨a, cap, rfl, hl, h⟩ := h
  by_cases h16 : zs.length ≤ 16
  · rcases h with rfl | ⟨b, off, rfl, hc⟩
    · exact refRight_empty a cap w
    · exact refRight_walk b off zs.length cap zs w h16 rfl hc
  · have e : rightB zs = false := by simp [rightB, h16]
    rw [e]
    exact refRight_long a zs.length cap w (by omega)
end Go.Proofs.Ytjlnnpcaeikolaa.Perm
