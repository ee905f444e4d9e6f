/-
  The document's Taken.
-/
import Derived.Test.YtdfieflcclbgjaaRSort
import Derived.Test.YtdfieflcclbgjaaNumR
namespace Go.Proofs.Ytdfieflcclbgjaa
open Go.RowKit Go.Deep Go.MapKept Go.Sort
/-- A value that takes in a tag's messages, as they stand. -/
def takeM (o : Nat) (tag : Int) (x : Int) (xs : List Msg) : Int := xs.foldl (fun a m => if m.tag = tag then opTwo o a m.val else a) x
theorem redB_many {o : Nat} (h : redB (o : Int) = true) : many5 o := by
  unfold redB at h
  have := of_decide_eq_true h
  unfold many5
  omega
theorem rtaken_bad (w : World) (v : Value) (x tag : Int) (o : Int) (h : redB o = false) :
    Calls Try.prog 22 #[.int .i64 x, .int .u8 o, .int .i64 tag, v] w fun e w' => e = .returned (.tuple #[.int .i64 0, .int .i64 2]) ∧ w = w' := by
  go_enter Try.func22, Try.ntmps22
  go_wp2_with (go_at_call 43; refine (reducesR_any _ _).mono ?_; rintro e w' ⟨rfl, rfl⟩)
  go_ret2
  exact ⟨rfl, rfl⟩
set_option maxRecDepth 100000 in
set_option maxHeartbeats 1000000 in
theorem rtaken_any (w : World) (v : Value) (xs : List Msg) (x tag : Int) (o : Nat) (h : redB (o : Int) = true) (hv : SeesM w v xs) (hl : xs.length ≤ 10000) :
    Calls Try.prog 22 #[.int .i64 x, .int .u8 (o : Int), .int .i64 tag, v] w fun e w' => e = .returned (.tuple #[.int .i64 (takeM o tag x xs), .int .i64 0]) ∧ Below w.heap.size w w' := by
  obtain ⟨a, cap, rfl, hcap, hL⟩ := hv
  have HV : Hid (SeesM w (.slice a xs.length cap) xs) := hidI ⟨a, cap, rfl, hcap, hL⟩
  clear hL hcap
  obtain ⟨k, hk⟩ : ∃ k, xs.length = k := ⟨_, rfl⟩
  have HK := hidI hk
  have HM := hidI (redB_many h)
  rw [hk] at hl HV ⊢
  clear hk
  obtain ⟨R, hR⟩ : ∃ R, takeM o tag x xs = R := ⟨_, rfl⟩
  have HR := hidI hR
  rw [hR]
  clear hR
  go_enter Try.func22, Try.ntmps22
  go_wp2_with (go_at_call 43; refine (reducesR_any _ _).mono ?_; rintro e w' ⟨rfl, rfl⟩)
  go_loopg [0, 12] k (fun g s0 s12 wx => ∃ (i : Nat) (y : Int), i + g = k ∧ s0 = .int .i64 y ∧ Hid (y = takeM o tag x (xs.take i)) ∧ s12 = .int .i64 i ∧ Hid (Below w.heap.size w wx))
  case atStart => exact ⟨0, x, by omega, rfl, hidI rfl, rfl, hidI (Below.refl _ _)⟩
  case round =>
    obtain ⟨i, y, hig, rfl, HY, rfl, HB⟩ := hrel
    cases gk with
    | zero =>
      obtain rfl : k = i := by omega
      have k1 : decide ((k : Int) < (k : Int)) = false := by simp
      go_wp2
      go_ret2
      refine ⟨?_, HB.out⟩
      have hy := HY.out
      rw [List.take_of_length_le (by have := HK.out; omega), HR.out] at hy
      rw [hy]
      rfl
    | succ g =>
      have k1 : (i : Int) < (k : Int) := by omega
      obtain ⟨m, hm⟩ : ∃ m, xs[i]? = some m := ⟨_, List.getElem?_eq_getElem (by have := HK.out; omega)⟩
      obtain ⟨b1, o1, c1, e1, x0, x1, x2⟩ := HV.out.cell hm
      rw [HK.out] at e1
      cases e1
      have kk : ∀ {p : Addr} {v : Value}, w.cell? p = some v → wr.cell? p = some v := fun {p v} hc => (HB.out.cell (World.block_lt_of_cell? w _ hc)).trans hc
      replace x1 := kk x1
      replace x2 := kk x2
      clear kk x0
      have HTK : Hid (takeM o tag x (xs.take (i + 1)) = if m.tag = tag then opTwo o (takeM o tag x (xs.take i)) m.val else takeM o tag x (xs.take i)) := hidI (by unfold takeM; rw [List.take_add_one, hm]; simp)
      clear hm
      obtain ⟨mt, mg, mv⟩ := m
      simp only at x1 x2 HTK
      by_cases ht : mg = tag
      · subst ht
        have k2 : (mg == mg) = true := by simp
        have CD := hidI (doR_many o HM.out (wr.alloc (.cells #[.int .i64 y, .int .i64 mv] 31)) y mv wr.heap.size 0 2 (by go_simp) (by go_simp))
        go_wp2_with (go_at_call 44; refine Calls.mono CD.out ?_; rintro e w3 ⟨rfl, hb3⟩; refine Hid.out ?_)
        refine hidI ?_
        have HB3 : Hid (Below w.heap.size w w3) := hidI ((HB.out.alloc HB.out.size _).trans (hb3.mono (by have := HB.out.size; simp; omega)))
        clear hb3 CD
        go_wp2
        go_roundg g
        case measure => omega
        case rel => exact ⟨i + 1, opTwo o y mv, by omega, rfl, hidI (by rw [HTK.out, ← HY.out]; simp), by go_num, HB3⟩
      · have k2 : (mg == tag) = false := by simpa using ht
        go_wp2
        go_roundg g
        case measure => omega
        case rel => exact ⟨i + 1, y, by omega, rfl, hidI (by rw [HTK.out, if_neg ht, ← HY.out]), by go_num, HB⟩
end Go.Proofs.Ytdfieflcclbgjaa
