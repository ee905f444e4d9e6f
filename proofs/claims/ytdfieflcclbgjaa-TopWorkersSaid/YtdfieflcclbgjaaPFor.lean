/-
  The program's messages to a node; what a value is that takes messages in; both, takesMany.
-/
import Derived.Test.YtdfieflcclbgjaaNumP
import Derived.Test.YtdfieflcclbgjaaRSort
import Derived.Test.YtdfieflcclbgjaaRTaken
namespace Go.Proofs.Ytdfieflcclbgjaa
open Go.RowKit Go.Deep Go.MapKept Go.Sort
set_option maxRecDepth 100000 in
set_option maxHeartbeats 1000000 in
theorem pfor_any (w : World) (v : Value) (xs : List Msg) (t : Int) (hv : SeesM w v xs) (hl : xs.length ≤ 10000) :
    Calls Try.prog 16 #[v, .int .i64 t] w fun e w' => ∃ v', e = .returned v' ∧ SeesM w' v' (xs.filter fun x => x.to == t) ∧ Below w.heap.size w w' := by
  obtain ⟨a, cap, rfl, hcap, hL⟩ := hv
  have HV : Hid (SeesM w (.slice a xs.length cap) xs) := hidI ⟨a, cap, rfl, hcap, hL⟩
  clear hL hcap
  obtain ⟨k, hk⟩ : ∃ k, xs.length = k := ⟨_, rfl⟩
  have HK := hidI hk
  rw [hk] at hl HV ⊢
  clear hk
  go_enter Try.func16, Try.ntmps16
  go_wp2
  go_loopg [5, 10] k (fun g s5 s10 wx => ∃ (i n : Nat) (v3 : Value), v3 = s5 ∧ i + g = k ∧ n ≤ i ∧ s10 = .int .i64 i ∧ Hid (Below w.heap.size w wx) ∧ Hid (wx.ownsRow w.heap.size 48 3 v3 n (flatM ((xs.take i).filter fun x => x.to == t))))
  case atStart => exact ⟨0, 0, _, rfl, by omega, by omega, rfl, hidI (Below.refl _ _), hidI (World.ownsRow_nil _ _ _ _)⟩
  case round =>
    obtain ⟨i, n, v3, rfl, hig, hni, rfl, HB, HO⟩ := hrel
    cases gk with
    | zero =>
      obtain rfl : k = i := by omega
      have k1 : decide ((k : Int) < (k : Int)) = false := by simp
      go_wp2
      go_ret
      have h := HO.out
      rw [List.take_of_length_le (by have := HK.out; omega)] at h
      exact ⟨v3, rfl, seesM_of_owns h, HB.out⟩
    | succ g =>
      have k1 : (i : Int) < (k : Int) := by omega
      obtain ⟨x, hx⟩ : ∃ x, xs[i]? = some x := ⟨_, List.getElem?_eq_getElem (by have := HK.out; omega)⟩
      obtain ⟨b1, o1, c1, e1, x0, x1, x2⟩ := HV.out.cell hx
      rw [HK.out] at e1
      cases e1
      have kk : ∀ {p : Addr} {v : Value}, w.cell? p = some v → wr.cell? p = some v := fun {p v} hc => (HB.out.cell (World.block_lt_of_cell? w _ hc)).trans hc
      replace x0 := kk x0
      replace x1 := kk x1
      replace x2 := kk x2
      clear kk
      have HTK : Hid (xs.take (i + 1) = xs.take i ++ [x]) := hidI (by rw [List.take_add_one, hx]; rfl)
      clear hx
      have hsz := HB.out.size
      by_cases ht : x.to = t
      · obtain ⟨x1', x2', x3'⟩ := x
        simp only at ht
        subst ht
        simp only at x0 x1 x2
        have k2 : (x1' == x1') = true := by simp
        have HF : Hid (flatM ((xs.take (i + 1)).filter fun x => x.to == x1') = flatM ((xs.take i).filter fun x => x.to == x1') ++ Msg.cells ⟨x1', x2', x3'⟩) := hidI (by rw [HTK.out, List.filter_append, flatM_append]; simp [flatM_one])
        have HOA := hidI (World.ownsRow.alloc (World.ownsRow.alloc HO.out (.cells #[.int .i64 x1', .int .i64 x2', .int .i64 x3'] 48)) (.cells #[.int .i64 x1', .int .i64 x2', .int .i64 x3'] 48))
        have HSM := hidI (msg_seen (W := wr.alloc (.cells #[.int .i64 x1', .int .i64 x2', .int .i64 x3'] 48)) ⟨x1', x2', x3'⟩)
        simp only [World.size_alloc] at HSM
        go_wp2_with (at_builtin; go_must (refine wpList_append_any Try.underlying22 Try.info48 rfl (by decide) (by decide) rfl _ _ rfl w.heap.size _ n _ rfl HOA.out _ 1 (Msg.cells ⟨x1', x2', x3'⟩) rfl HSM.out (cells_one _) (by omega) (by simp; omega) ?_); intro v9 w9 hown9 hgrow9 _; refine Hid.out ?_)
        refine hidI ?_
        have HB9 : Hid (Below w.heap.size w w9) := hidI (Below.grown ((HB.out.alloc hsz _).alloc (by simp; omega) _) hgrow9 (by simp; omega) (fun k hk => (HOA.out.lt k hk).1))
        rw [← HF.out] at hown9
        have HO9 := hidI hown9
        clear hown9 hgrow9 HOA HSM
        go_wp2
        go_roundg g
        case measure => omega
        case rel => exact ⟨i + 1, n + 1, v9, rfl, by omega, by omega, by go_num, HB9, HO9⟩
      · have k2 : (x.to == t) = false := by simpa using ht
        have HF : Hid ((xs.take (i + 1)).filter (fun x => x.to == t) = (xs.take i).filter fun x => x.to == t) := hidI (by rw [HTK.out, List.filter_append]; simp [ht])
        have HBA := hidI (HB.out.alloc hsz (.cells #[.int .i64 x.to, .int .i64 x.tag, .int .i64 x.val] 48))
        have HOA := hidI (World.ownsRow.alloc HO.out (.cells #[.int .i64 x.to, .int .i64 x.tag, .int .i64 x.val] 48))
        go_wp2
        go_roundg g
        case measure => omega
        case rel => exact ⟨i + 1, n, v3, rfl, by omega, by omega, by go_num, HBA, hidI (by rw [HF.out]; exact HOA.out)⟩
theorem ptakes_any (o : Nat) (w : World) : Calls Try.prog 45 #[.int .u8 (o : Int)] w fun e w' => e = .returned (.bool (redB (o : Int))) ∧ w = w' := by
  have C := hidI (redP_any o)
  obtain ⟨r, hr⟩ : ∃ r, redB (o : Int) = r := ⟨_, rfl⟩
  obtain ⟨q, hq⟩ : ∃ q, redW (o : Int) = q := ⟨_, rfl⟩
  rw [hr, hq] at C
  rw [hr]
  clear hr hq
  go_enter Try.func45, Try.ntmps45
  go_wp2_with (go_at_call 53; refine Calls.mono (C.out _) ?_; rintro e w' ⟨rfl, rfl⟩)
  go_ret
  exact ⟨rfl, rfl⟩
theorem pboth_any (o : Nat) (ho : many5 o) (x y : Int) (w : World) : Calls Try.prog 42 #[.int .u8 (o : Int), .int .i64 x, .int .i64 y] w fun e w' => e = .returned (.int .i64 (opTwo o x y)) ∧ Below w.heap.size w w' := by
  have C : Hid (Calls Try.prog 66 #[.int .u8 (o : Int), .slice (some ⟨w.heap.size, 0, none⟩) 2 2] (w.alloc (.cells #[.int .i64 x, .int .i64 y] 31)) fun e w' => e = .returned (.tuple #[.int .i64 (opTwo o x y), .int .i64 0]) ∧ Below (w.heap.size + 1) (w.alloc (.cells #[.int .i64 x, .int .i64 y] 31)) w') := hidI ((doB_many o ho (w.alloc (.cells #[.int .i64 x, .int .i64 y] 31)) x y w.heap.size 0 2 (by simp) (by simp)).mono (fun e w' h => ⟨h.1, by have := h.2; simpa using this⟩))
  obtain ⟨z, hz⟩ : ∃ z, opTwo o x y = z := ⟨_, rfl⟩
  rw [hz] at C
  rw [hz]
  clear hz
  go_enter Try.func42, Try.ntmps42
  go_wp2_with (go_at_call 66; refine Calls.mono C.out ?_; rintro e w' ⟨rfl, hb⟩)
  go_ret
  exact ⟨rfl, ((Below.refl _ w).alloc (Nat.le_refl _) _).trans (hb.mono (by omega))⟩
theorem ptaken_bad (x : Int) (o : Nat) (tag : Int) (v : Value) (w : World) (h : redB (o : Int) = false) :
    Calls Try.prog 21 #[.int .i64 x, .int .u8 (o : Int), .int .i64 tag, v] w fun e w' => e = .returned (.tuple #[.int .i64 0, .int .i64 2]) ∧ w = w' := by
  have C := hidI (ptakes_any o)
  rw [h] at C
  clear h
  go_enter Try.func21, Try.ntmps21
  go_wp2_with (go_at_call 45; refine Calls.mono (C.out _) ?_; rintro e w' ⟨rfl, rfl⟩)
  go_ret2
  exact ⟨rfl, rfl⟩
set_option maxRecDepth 100000 in
set_option maxHeartbeats 1000000 in
theorem ptaken_any (w : World) (v : Value) (xs : List Msg) (x tag : Int) (o : Nat) (h : redB (o : Int) = true) (hv : SeesM w v xs) (hl : xs.length ≤ 10000) :
    Calls Try.prog 21 #[.int .i64 x, .int .u8 (o : Int), .int .i64 tag, v] w fun e w' => e = .returned (.tuple #[.int .i64 (takeM o tag x xs), .int .i64 0]) ∧ Below w.heap.size w w' := by
  obtain ⟨a, cap, rfl, hcap, hL⟩ := hv
  have HV : Hid (SeesM w (.slice a xs.length cap) xs) := hidI ⟨a, cap, rfl, hcap, hL⟩
  clear hL hcap
  obtain ⟨k, hk⟩ : ∃ k, xs.length = k := ⟨_, rfl⟩
  have HK := hidI hk
  have HM := hidI (redB_many h)
  have C := hidI (ptakes_any o)
  rw [h] at C
  clear h
  rw [hk] at hl HV ⊢
  clear hk
  obtain ⟨R, hR⟩ : ∃ R, takeM o tag x xs = R := ⟨_, rfl⟩
  have HR := hidI hR
  rw [hR]
  clear hR
  go_enter Try.func21, Try.ntmps21
  go_wp2_with (go_at_call 45; refine Calls.mono (C.out _) ?_; rintro e w' ⟨rfl, rfl⟩)
  clear C
  go_loopg [0, 17] k (fun g s0 s17 wx => ∃ (i : Nat) (y : Int), i + g = k ∧ s0 = .int .i64 y ∧ Hid (y = takeM o tag x (xs.take i)) ∧ s17 = .int .i64 i ∧ Hid (Below w.heap.size w wx))
  case atStart => exact ⟨0, x, by omega, rfl, hidI rfl, rfl, hidI (Below.refl _ _)⟩
  case round =>
    obtain ⟨i, y, hig, rfl, HY, rfl, HB⟩ := hrel
    cases gk with
    | zero =>
      obtain rfl : k = i := by omega
      have k1 : decide ((k : Int) < (k : Int)) = false := by simp
      go_wp2
      go_ret2
      refine ⟨?_, HB.out⟩
      have hy := HY.out
      rw [List.take_of_length_le (by have := HK.out; omega), HR.out] at hy
      rw [hy]
      rfl
    | succ g =>
      have k1 : (i : Int) < (k : Int) := by omega
      obtain ⟨m, hm⟩ : ∃ m, xs[i]? = some m := ⟨_, List.getElem?_eq_getElem (by have := HK.out; omega)⟩
      obtain ⟨b1, o1, c1, e1, x0, x1, x2⟩ := HV.out.cell hm
      rw [HK.out] at e1
      cases e1
      have kk : ∀ {p : Addr} {v : Value}, w.cell? p = some v → wr.cell? p = some v := fun {p v} hc => (HB.out.cell (World.block_lt_of_cell? w _ hc)).trans hc
      replace x0 := kk x0
      replace x1 := kk x1
      replace x2 := kk x2
      clear kk
      have HTK : Hid (takeM o tag x (xs.take (i + 1)) = if m.tag = tag then opTwo o (takeM o tag x (xs.take i)) m.val else takeM o tag x (xs.take i)) := hidI (by unfold takeM; rw [List.take_add_one, hm]; simp)
      clear hm
      obtain ⟨mt, mg, mv⟩ := m
      simp only at x0 x1 x2 HTK
      have HBA := hidI (HB.out.alloc HB.out.size (.cells #[.int .i64 mt, .int .i64 mg, .int .i64 mv] 48))
      by_cases ht : mg = tag
      · subst ht
        have k2 : (mg == mg) = true := by simp
        have CD := hidI (pboth_any o HM.out y mv)
        obtain ⟨z, hz⟩ : ∃ z, opTwo o y mv = z := ⟨_, rfl⟩
        rw [hz] at CD
        have HZ := hidI hz
        clear hz
        go_wp2_with (go_at_call 42; refine Calls.mono (CD.out _) ?_; rintro e w3 ⟨rfl, hb3⟩; refine Hid.out ?_)
        refine hidI ?_
        have HB3 : Hid (Below w.heap.size w w3) := hidI (HBA.out.trans (hb3.mono HBA.out.size))
        clear hb3 CD
        go_wp2
        go_roundg g
        case measure => omega
        case rel => exact ⟨i + 1, z, by omega, rfl, hidI (by rw [HTK.out, ← HY.out, ← HZ.out]; simp), by go_num, HB3⟩
      · have k2 : (mg == tag) = false := by simpa using ht
        go_wp2
        go_roundg g
        case measure => omega
        case rel => exact ⟨i + 1, y, by omega, rfl, hidI (by rw [HTK.out, if_neg ht, ← HY.out]), by go_num, HBA⟩
end Go.Proofs.Ytdfieflcclbgjaa
