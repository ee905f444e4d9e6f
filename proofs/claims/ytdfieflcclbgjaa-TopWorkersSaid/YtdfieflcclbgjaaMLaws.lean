/-
  The laws of mail, out of what the program's calls come to (premises): MailPlays, MailOnce.
-/
import Derived.Test.YtdfieflcclbgjaaRSorted
import Derived.Test.YtdfieflcclbgjaaRTurned
import Derived.Test.YtdfieflcclbgjaaSortM
namespace Go.Proofs.Ytdfieflcclbgjaa
open Go.RowKit Go.Deep Go.MapKept Go.Sort
def PLive : Prop := ∀ w : World, Calls Try.prog 10 #[] w fun e w' => e = .returned (.bool true) ∧ Below w.heap.size w w'
def PSorted : Prop := ∀ (w : World) (v : Value) (xs : List Msg), SeesM w v xs → xs.length ≤ 500 → Calls Try.prog 12 #[v] w fun e w' => ∃ v', e = .returned v' ∧ SeesM w' v' (sortM xs) ∧ Below w.heap.size w w'
def PTurned : Prop := ∀ (w : World) (v : Value) (xs : List Msg) (k : Nat), k < 18446744073709551616 → SeesM w v xs → xs.length ≤ 500 → Calls Try.prog 14 #[v, .int .u64 k] w fun e w' => ∃ v', e = .returned v' ∧ SeesM w' v' (turnM k xs) ∧ Below w.heap.size w w'
def PFor : Prop := ∀ (w : World) (v : Value) (xs : List Msg) (t : Int), SeesM w v xs → xs.length ≤ 500 → Calls Try.prog 16 #[v, .int .i64 t] w fun e w' => ∃ v', e = .returned v' ∧ SeesM w' v' (xs.filter fun x => x.to == t) ∧ Below w.heap.size w w'
theorem few_any (w : World) (v : Value) (xs : List Msg) (hv : SeesM w v xs) : Calls Try.prog 9 #[v] w fun e w' => ∃ v', e = .returned v' ∧ SeesM w v' (xs.take 50) ∧ w = w' := by
  have HV := hidI hv
  obtain ⟨a, cap, rfl, hcap, hs⟩ := hv
  obtain ⟨n, hn⟩ : ∃ n, xs.length = n := ⟨_, rfl⟩
  by_cases h : 50 < n
  · have hne : xs ≠ [] := fun e => by rw [e] at hn; simp at hn; omega
    obtain ⟨b, off, rfl, hs2⟩ := hs.resolve_left hne
    have HR : Hid (SeesM w (.slice (some ⟨b, off, none⟩) 50 cap) (xs.take 50)) := hidI ⟨_, cap, by rw [List.length_take]; simp; omega, by rw [List.length_take]; omega, .inr ⟨b, off, rfl, fun j x hx => hs2 j x (by
      rw [List.getElem?_take] at hx
      split at hx
      · exact hx
      · cases hx)⟩⟩
    have k1 : (50 : Int) < (n : Int) := by omega
    have k2 : (50 : Int) ≤ (cap : Int) := by omega
    have k3 : 50 ≤ cap := by omega
    rw [hn]
    clear hs hs2 hcap hn HV hne
    go_enter Try.func9, Try.ntmps9
    go_wp2
    go_ret
    exact ⟨_, rfl, HR.out, rfl⟩
  · have HR : Hid (SeesM w (.slice a n cap) (xs.take 50)) := hidI (by rw [List.take_of_length_le (by omega), ← hn]; exact HV.out)
    have k1 : decide ((50 : Int) < (n : Int)) = false := by rw [decide_eq_false_iff_not]; omega
    have k2 : decide (50 < n) = false := by simpa using h
    rw [hn]
    clear hs hcap hn HV
    go_enter Try.func9, Try.ntmps9
    go_wp2
    go_ret
    exact ⟨_, rfl, HR.out, rfl⟩
set_option maxRecDepth 100000 in
set_option maxHeartbeats 1000000 in
theorem mailOnce_law (hL : PLive) (h1 : PSorted) (h2 : PTurned) (w : World) (v : Value) (xs0 : List Msg) (k : Nat) (hk : k < 18446744073709551616) (hv : SeesM w v xs0) :
    Calls Try.prog 6 #[v, .int .u64 k] w fun e w' => e = .returned (.bool true) ∧ Below w.heap.size w w' := by
  have C0 := hidI (few_any w v xs0 hv)
  obtain ⟨xs, hxs⟩ : ∃ xs, xs0.take 50 = xs := ⟨_, rfl⟩
  have hl : xs.length ≤ 500 := by rw [← hxs, List.length_take]; omega
  rw [hxs] at C0
  have HL := hidI hL
  have H1 := hidI h1
  have H2 := hidI h2
  clear hxs hv hL h1 h2
  go_enter Try.func6, Try.ntmps6
  go_wp2_with (go_at_call 9; refine Calls.mono C0.out ?_; rintro e w1 ⟨v1, rfl, hs1, rfl⟩; refine Hid.out ?_)
  refine hidI ?_
  have HS1 := hidI hs1
  clear hs1 C0
  have C1 := hidI (H2.out w v1 xs k hk HS1.out hl)
  go_wp2_with (go_at_call 14; refine Calls.mono C1.out ?_; rintro e w2 ⟨v2, rfl, hs2, hb2⟩; refine Hid.out ?_)
  refine hidI ?_
  have HS2 := hidI hs2
  have HB2 := hidI hb2
  clear hs2 hb2 C1
  have C2 := hidI (HL.out w2)
  go_wp2_with (go_at_call 10; refine Calls.mono C2.out ?_; rintro e w3 ⟨rfl, hb3⟩; refine Hid.out ?_)
  refine hidI ?_
  have HB3 := hidI (HB2.out.trans (hb3.mono HB2.out.size))
  have HS3 := hidI (HS2.out.below hb3 (Nat.le_refl _))
  have HT3 := hidI (HS1.out.below HB3.out (Nat.le_refl _))
  clear hb3 C2 HS2 HS1
  have HTL := hidI (turnM_length k xs)
  obtain ⟨a1, c1, e1, _, _⟩ := HS3.out
  obtain ⟨a2, c2, e2, _, _⟩ := HT3.out
  subst e1 e2
  rw [HTL.out]
  have C3 := hidI (H1.out w3 _ _ HS3.out (by rw [HTL.out]; exact hl))
  rw [HTL.out] at C3
  obtain ⟨n, hn⟩ : ∃ n, xs.length = n := ⟨_, rfl⟩
  have C4 : Hid (∀ y, Below w3.heap.size w3 y → Calls Try.prog 12 #[.slice a2 n c2] y fun e w' => ∃ v', e = .returned v' ∧ SeesM w' v' (sortM xs) ∧ Below y.heap.size y w') := hidI fun y hy => by
    rw [← hn]
    exact H1.out y _ xs (HT3.out.below hy (Nat.le_refl _)) hl
  rw [hn] at C3 ⊢
  have HN := hidI hn
  clear hn
  go_wp2_with (go_at_call 12; refine Calls.mono C3.out ?_; rintro e w4 ⟨v4, rfl, hs4, hb4⟩; refine Hid.out ?_)
  refine hidI ?_
  have HS4 := hidI hs4
  have HB4 := hidI hb4
  clear hs4 hb4 C3
  go_wp2_with (go_at_call 12; refine Calls.mono (C4.out _ HB4.out) ?_; rintro e w5 ⟨v5, rfl, hs5, hb5⟩; refine Hid.out ?_)
  refine hidI ?_
  have HS5 := hidI hs5
  have HS4' := hidI (HS4.out.below hb5 (Nat.le_refl _))
  have HB5 := hidI (HB3.out.trans ((HB4.out.trans (hb5.mono HB4.out.size)).mono HB3.out.size))
  clear hs5 hb5 C4
  have C5 := hidI (rsame_eq w5 v4 v5 (sortM xs) (by have := HS4'.out; rwa [sortM_eq (turnM_perm k xs)] at this) HS5.out (by rw [sortM_length]; omega))
  go_wp2_with (go_at_call 11; refine Calls.mono C5.out ?_; rintro e w6 ⟨rfl, hb6⟩; refine Hid.out ?_)
  refine hidI ?_
  have HB6 := hidI (HB5.out.trans (hb6.mono HB5.out.size))
  clear hb6 C5
  go_wp2
  go_ret
  exact ⟨rfl, HB6.out⟩
end Go.Proofs.Ytdfieflcclbgjaa
