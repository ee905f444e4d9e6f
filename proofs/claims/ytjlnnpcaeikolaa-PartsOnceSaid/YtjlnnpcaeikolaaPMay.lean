/-
  Whether there may be so many; numbers round; at most so many numbers.
-/
import Derived.Test.YtjlnnpcaeikolaaPOf
namespace Go.Proofs.Ytjlnnpcaeikolaa
open Go.RowKit Go.Deep
def mayP (n k : Int) : Prop := 1 ≤ n ∧ n ≤ 12 ∧ 1 ≤ k ∧ k ≤ 4
theorem may_yes (n k : Int) (w : World) (h : mayP n k) : Calls Try.prog 29 #[.int .i64 n, .int .i64 k] w fun e w' => e = .returned (.bool true) ∧ w = w' := by
  obtain ⟨h1, h2, h3, h4⟩ := h
  go_enter Try.func29, Try.ntmps29
  go_wp2
  go_ret
  exact ⟨rfl, rfl⟩
theorem may_no (n k : Int) (w : World) (h : ¬ mayP n k) : Calls Try.prog 29 #[.int .i64 n, .int .i64 k] w fun e w' => e = .returned (.bool false) ∧ w = w' := by
  unfold mayP at h
  by_cases h1 : 1 ≤ n
  · by_cases h2 : n ≤ 12
    · by_cases h3 : 1 ≤ k
      · have h4 : decide (k ≤ 4) = false := by simp; omega
        clear h
        go_enter Try.func29, Try.ntmps29
        go_wp2
        go_ret
        exact ⟨rfl, rfl⟩
      · have h4 : decide (1 ≤ k) = false := by simp; omega
        clear h
        go_enter Try.func29, Try.ntmps29
        go_wp2
        go_ret
        exact ⟨rfl, rfl⟩
    · have h4 : decide (n ≤ 12) = false := by simp; omega
      clear h
      go_enter Try.func29, Try.ntmps29
      go_wp2
      go_ret
      exact ⟨rfl, rfl⟩
  · have h4 : decide (1 ≤ n) = false := by simp; omega
    clear h
    go_enter Try.func29, Try.ntmps29
    go_wp2
    go_ret
    exact ⟨rfl, rfl⟩
theorem tmod_round (a k : Int) (hk : 0 < k) : (a.tmod k + k).tmod k = a % k := by
  have h1 := Int.lt_tmod_of_pos a hk
  rw [Int.tmod_eq_emod_of_nonneg (by omega), Int.add_emod_right, Int.tmod_def, Int.sub_mul_emod_self_left]
theorem wrap_small {a : Int} (h1 : -9223372036854775808 ≤ a) (h2 : a ≤ 9223372036854775807) : IntKind.i64.wrap a = a := by rw [IntKind.wrap_i64]; omega
theorem modulo_any (a : Int) (k : Nat) (hk : 1 ≤ k) (hk4 : k ≤ 4) (w : World) : Calls Try.prog 30 #[.int .i64 a, .int .i64 (k : Int)] w fun e w' => e = .returned (.int .i64 (a % k)) ∧ w = w' := by
  have hkp : (0 : Int) < (k : Int) := by omega
  have h1 := Int.lt_tmod_of_pos a hkp
  have h2 := Int.tmod_lt_of_pos a hkp
  have h3 := tmod_round a k hkp
  have h0 : (k : Int) ≠ 0 := by omega
  obtain ⟨t, ht⟩ : ∃ t, a.tmod (k : Int) = t := ⟨_, rfl⟩
  rw [ht] at h1 h2 h3
  have w1 : IntKind.i64.wrap t = t := wrap_small (by omega) (by omega)
  have w2 : IntKind.i64.wrap (t + k) = t + k := wrap_small (by omega) (by omega)
  obtain ⟨r, hr⟩ : ∃ r, a % (k : Int) = r := ⟨_, rfl⟩
  have hr1 := Int.emod_nonneg a h0
  have hr2 := Int.emod_lt_of_pos a hkp
  rw [hr] at h3 hr1 hr2 ⊢
  have w3 : IntKind.i64.wrap r = r := wrap_small (by omega) (by omega)
  clear hr
  go_enter Try.func30, Try.ntmps30
  go_wp2
  go_ret
  exact ⟨rfl, rfl⟩
theorem few_in (a : Option Addr) (l c : Nat) (w : World) (h : l ≤ 20) : Calls Try.prog 9 #[.slice a l c] w fun e w' => e = .returned (.slice a l c) ∧ w = w' := by
  have hd : decide ((20 : Int) < (l : Int)) = false := by simp; omega
  go_enter Try.func9, Try.ntmps9
  go_wp2
  go_ret
  exact ⟨rfl, rfl⟩
theorem few_over (x : Addr) (l c : Nat) (w : World) (h : 20 < l) (hc : l ≤ c) (hm : c ≤ 9223372036854775807) : Calls Try.prog 9 #[.slice (some x) l c] w fun e w' => e = .returned (.slice (some x) 20 c) ∧ w = w' := by
  have hd : (20 : Int) < (l : Int) := by omega
  go_enter Try.func9, Try.ntmps9
  go_wp2
  go_ret
  exact ⟨rfl, rfl⟩
/-- An argument that reads as the numbers zs. -/
def ArgI (w : World) (v : Value) (zs : List Int) : Prop := Sees w v zs ∧ ∃ a len cap, v = .slice a len cap ∧ len ≤ cap ∧ cap ≤ 9223372036854775807
theorem few_any (v : Value) (zs : List Int) (w : World) (h : ArgI w v zs) : Calls Try.prog 9 #[v] w fun e w' => ∃ u, e = .returned u ∧ Sees w u (zs.take 20) ∧ w = w' := by
  obtain ⟨⟨a, cap, rfl, hs⟩, a', len', cap', he, q1, q2⟩ := h
  cases he
  by_cases hl : zs.length ≤ 20
  · refine (few_in a zs.length cap w hl).mono ?_
    rintro e w' ⟨rfl, rfl⟩
    rw [List.take_of_length_le hl]
    exact ⟨_, rfl, ⟨a, cap, rfl, hs⟩, rfl⟩
  · rcases hs with h0 | ⟨b, off, rfl, hc⟩
    · subst h0; simp at hl
    · refine (few_over ⟨b, off, none⟩ zs.length cap w (by omega) q1 q2).mono ?_
      rintro e w' ⟨rfl, rfl⟩
      have e20 : (zs.take 20).length = 20 := by rw [List.length_take]; omega
      refine ⟨_, rfl, ⟨some ⟨b, off, none⟩, cap, by rw [e20], .inr ⟨b, off, rfl, fun j hj => ?_⟩⟩, rfl⟩
      rw [e20] at hj
      rw [hc j (by omega)]
      simp [List.getD, hj]
end Go.Proofs.Ytjlnnpcaeikolaa
