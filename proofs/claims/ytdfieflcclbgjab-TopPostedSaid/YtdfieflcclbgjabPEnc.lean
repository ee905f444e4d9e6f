/-
  The program's Encode of messages.
-/
import Derived.Test.YtdfieflcclbgjabPByte
namespace Go.Proofs.Ytdfieflcclbgjab
open Go.RowKit Go.Deep Go.MapKept Go.Sort
theorem sees_arr {w : World} {k n : Nat} {cs : Array Value} {t : TypeId} (h : w.heap[k]? = some (.cells cs t (0, 0))) (hn : cs.size = n) : SeesC w (.slice (some ⟨k, 0, none⟩) n n) n 1 cs.toList := by
  refine ⟨by simp [hn], _, n, rfl, .inr ⟨k, 0, rfl, fun j c hc => ?_⟩⟩
  rw [Nat.zero_add]
  exact obj_cell h (by rw [← Array.getElem?_toList]; exact hc)
set_option maxRecDepth 100000 in
set_option maxHeartbeats 2000000 in
theorem pencode_any (w : World) (v : Value) (xs : List Msg) (hv : SeesM w v xs) (hl : xs.length ≤ 500) : Calls Try.prog 5 #[v] w (REncPost w xs) := by
  obtain ⟨a, cap, rfl, hcap, hL⟩ := hv
  have HV : Hid (SeesM w (.slice a xs.length cap) xs) := hidI ⟨a, cap, rfl, hcap, hL⟩
  clear hL hcap
  obtain ⟨k, hk⟩ : ∃ k, xs.length = k := ⟨_, rfl⟩
  have HK := hidI hk
  rw [hk] at hl HV ⊢
  clear hk
  obtain ⟨i0, hi, hz0, hz1, hz2⟩ := info_parts Try.info5
  go_enter Try.func5, Try.ntmps5
  go_wp2
  go_loopg [12] k (fun g s12 wx => ∃ i : Nat, i + g = k ∧ s12 = .int .i64 i ∧ Hid (Below w.heap.size w wx) ∧ Hid (∀ x ∈ xs.take i, okM x = true))
  case atStart => exact ⟨0, by omega, rfl, hidI (Below.refl _ _), hidI (by simp)⟩
  case round =>
    obtain ⟨i, hig, rfl, HB, HO⟩ := hrel
    have hszr := HB.out.size
    cases gk with
    | zero =>
      obtain rfl : k = i := by omega
      have k1 : decide ((k : Int) < (k : Int)) = false := by simp
      have HAll : Hid (∀ x ∈ xs, okM x = true) := hidI (by have := HO.out; rw [List.take_of_length_le (by have := HK.out; omega)] at this; exact this)
      clear HO
      obtain ⟨w0, hw0⟩ : ∃ w0, wr = w0 := ⟨_, rfl⟩
      subst hw0
      go_wp2_with (at_make; refine wpList_make_own _ rfl _ _ 28 rfl w.heap.size 5 i0 (.int .u8 0) 1 Try.underlying28 hi hz0 hz1 _ _ _ (k * 10) rfl rfl (by omega) (by rw [hz2]; omega) (by unfold maxLen; omega) hszr ?_; intro w1 hown1 hg1; refine Hid.out ?_)
      refine hidI ?_
      have HB1 : Hid (RowKit.Below w.heap.size w w1) := hidI (HB.out.grown hg1 hszr (fun _ e => by cases e))
      have HO1 := hidI hown1
      clear hown1 hg1
      go_wp2
      go_loopg [6, 33] k (fun g s6 s33 wx => ∃ (i : Nat) (pre : List Int) (a4 : Option Addr) (c4 : Nat), i + g = k ∧ s6 = .slice a4 pre.length c4 ∧ s33 = .int .i64 (i : Int) ∧ Hid (pre = encMs (xs.take i)) ∧ Hid (Keep w wx (.slice a4 pre.length c4) pre []))
      case atStart => exact ⟨0, [], _, _, by omega, rfl, rfl, hidI rfl, hidI ⟨HO1.out, HB1.out, by simp⟩⟩
      case round =>
        obtain ⟨i, pre, va4, vc4, hig, rfl, rfl, HP, HKe⟩ := hrel
        cases gk with
        | zero =>
          have hil : i = k := by omega
          have j1 : ¬ ((i : Int) < (k : Int)) := by omega
          have HF : Hid (SeesC wr (.slice va4 pre.length vc4) (encMs xs).length 1 (cellsB (encMs xs))) := hidI (by
            have e : encMs xs = pre := by rw [HP.out, hil, List.take_of_length_le (by have := HK.out; omega)]
            rw [e]
            exact seesC_of_owns HKe.out.own)
          clear hil
          go_wp2
          go_ret2
          exact .inr ⟨List.all_eq_true.2 HAll.out, _, rfl, HF.out, HKe.out.low, own_room HKe.out.own⟩
        | succ g =>
          have j1 : (i : Int) < (k : Int) := by omega
          obtain ⟨x, hx⟩ : ∃ x, xs[i]? = some x := ⟨_, List.getElem?_eq_getElem (by have := HK.out; omega)⟩
          obtain ⟨b1, o1, c1, e1, x0, x1, x2⟩ := HV.out.cell hx
          rw [HK.out] at e1
          cases e1
          have hbl : b1 < w.heap.size := World.block_lt_of_cell? w _ x0
          replace x0 := (HKe.out.low.cell (p := ⟨b1, o1 + i * 3, none⟩) hbl).trans x0
          replace x1 := (HKe.out.low.cell (p := ⟨b1, o1 + i * 3 + 1, none⟩) hbl).trans x1
          replace x2 := (HKe.out.low.cell (p := ⟨b1, o1 + i * 3 + 2, none⟩) hbl).trans x2
          have hok := of_decide_eq_true (HAll.out x (List.mem_of_getElem? hx))
          have HTK : Hid (encMs (xs.take (i + 1)) = encMs (xs.take i) ++ encM x) := hidI (by unfold encMs; rw [List.take_add_one, hx]; simp)
          have hpl : pre.length ≤ 5000 := by rw [HP.out, encMs_len, List.length_take]; omega
          clear hx
          obtain ⟨xt, xg, xv⟩ := x
          simp only at x0 x1 x2 hok
          have hw0 : IntKind.u8.wrap xt = xt := by rw [IntKind.wrap_u8]; omega
          have hw1 : IntKind.u8.wrap xg = xg := by rw [IntKind.wrap_u8]; omega
          have HKm := hidI (HKe.out.add (.cells #[.int .i64 xt, .int .i64 xg, .int .i64 xv] 26) (notB_cells _ _ _ (by decide)))
          have CB := hidI (bytes_any xv (wr.alloc (.cells #[.int .i64 xt, .int .i64 xg, .int .i64 xv] 26)))
          obtain ⟨y0, y1, y2, y3, y4, y5, y6, y7, hy8⟩ : ∃ y0 y1 y2 y3 y4 y5 y6 y7, by8 xv = #[Value.int .u8 y0, .int .u8 y1, .int .u8 y2, .int .u8 y3, .int .u8 y4, .int .u8 y5, .int .u8 y6, .int .u8 y7] := ⟨_, _, _, _, _, _, _, _, rfl⟩
          have HY8 := hidI hy8
          rw [hy8] at CB
          clear hy8
          go_wp2_with (go_at_call 14; refine CB.out.mono ?_; rintro e w5 ⟨rfl, hb5⟩; have HK5 := hidI (HKm.out.below hb5); clear hb5; refine Hid.out ?_)
          refine hidI ?_
          clear CB x0 x1 x2 HKm
          obtain ⟨bm, hbm⟩ : ∃ bm, wr.heap.size = bm := ⟨_, rfl⟩
          rw [hbm] at HK5 ⊢
          clear hbm
          have hM := (HK5.out.obj (bm, .cells #[.int .i64 xt, .int .i64 xg, .int .i64 xv] 26) (List.mem_cons.2 (.inl rfl))).1
          have hml : bm < w5.heap.size := (Array.getElem?_eq_some_iff.1 hM).1
          have m0 : w5.cell? ⟨bm, 0, none⟩ = some (.int .i64 xt) := obj_cell hM rfl
          have m1 : w5.cell? ⟨bm, 1, none⟩ = some (.int .i64 xg) := obj_cell hM rfl
          clear hM
          have HK6 := hidI ((HK5.out.add (.cells #[.int .u8 y0, .int .u8 y1, .int .u8 y2, .int .u8 y3, .int .u8 y4, .int .u8 y5, .int .u8 y6, .int .u8 y7] 44) (notB_cells _ _ _ (by decide))).alloc (.cells #[.int .u8 xt, .int .u8 xg] 5))
          have HV6 : Hid (SeesC ((w5.alloc (.cells #[.int .u8 y0, .int .u8 y1, .int .u8 y2, .int .u8 y3, .int .u8 y4, .int .u8 y5, .int .u8 y6, .int .u8 y7] 44)).alloc (.cells #[.int .u8 xt, .int .u8 xg] 5)) (.slice (some ⟨w5.heap.size + 1, 0, none⟩) 2 2) 2 1 (cellsB [xt, xg])) := hidI (by
            have := sees_built (w5.alloc (.cells #[.int .u8 y0, .int .u8 y1, .int .u8 y2, .int .u8 y3, .int .u8 y4, .int .u8 y5, .int .u8 y6, .int .u8 y7] 44)) [xt, xg]
            simpa [cellsB] using this)
          go_wp2_with (at_builtin; go_must (refine wpList_append_any Try.underlying28 Try.info5 rfl (by decide) (by decide) rfl _ _ rfl w.heap.size _ pre.length (cellsB pre) rfl HK6.out.own _ 2 (cellsB [xt, xg]) rfl HV6.out (cellsB_one _) (by omega) (by have := HK6.out.low.size; omega) ?_); intro v9 w9 hown9 hgrow9 _; refine Hid.out ?_)
          refine hidI ?_
          have HK9 := hidI (HK6.out.app (bs := [xt, xg]) hown9 hgrow9)
          clear hown9 hgrow9 HK6 HV6 m0 m1 HK5
          obtain ⟨va9, vc9, hs9⟩ := HK9.out.slice
          subst hs9
          obtain ⟨b8, hb8⟩ : ∃ b8, w5.heap.size = b8 := ⟨_, rfl⟩
          rw [hb8] at HK9 ⊢
          clear hb8
          obtain ⟨q, hq⟩ : ∃ q, pre ++ [xt, xg] = q := ⟨_, rfl⟩
          rw [hq] at HK9 ⊢
          have HQ := hidI hq
          have hql : q.length ≤ 5002 := by rw [← hq]; simp; omega
          clear hq
          have HV9 : Hid (SeesC w9 (.slice (some ⟨b8, 0, none⟩) 8 8) 8 1 (cellsB (encW xv))) := hidI (by
            have h1 := (HK9.out.obj (b8, .cells #[.int .u8 y0, .int .u8 y1, .int .u8 y2, .int .u8 y3, .int .u8 y4, .int .u8 y5, .int .u8 y6, .int .u8 y7] 44) (List.mem_cons.2 (.inl rfl))).1
            have h2 := sees_arr (n := 8) h1 rfl
            rw [← HY8.out, by8_enc] at h2
            simpa [cellsB] using h2)
          go_wp2_with (at_builtin; go_must (refine wpList_append_any Try.underlying28 Try.info5 rfl (by decide) (by decide) rfl _ _ rfl w.heap.size _ q.length (cellsB q) rfl HK9.out.own _ 8 (cellsB (encW xv)) rfl HV9.out (cellsB_one _) (by omega) (by have := HK9.out.low.size; omega) ?_); intro v7 w7 hown7 hgrow7 _; refine Hid.out ?_)
          refine hidI ?_
          have HK7 := hidI (HK9.out.app (bs := encW xv) hown7 hgrow7)
          clear hown7 hgrow7 HV9 HK9
          obtain ⟨va7, vc7, hs7⟩ := HK7.out.slice
          subst hs7
          have HN3 : Hid (q ++ encW xv = encMs (xs.take (i + 1))) := hidI (by
            rw [HTK.out, ← HQ.out, HP.out]
            simp [encM])
          go_wp2
          go_roundg g
          case measure => omega
          case rel => exact ⟨i + 1, q ++ encW xv, _, _, by omega, rfl, by go_num, HN3, hidI (HK7.out.few (by simp))⟩
    | succ g =>
      have k1 : (i : Int) < (k : Int) := by omega
      obtain ⟨x, hx⟩ : ∃ x, xs[i]? = some x := ⟨_, List.getElem?_eq_getElem (by have := HK.out; omega)⟩
      obtain ⟨b1, o1, c1, e1, x0, x1, x2⟩ := HV.out.cell hx
      rw [HK.out] at e1
      cases e1
      have kk : ∀ {p : Addr} {v : Value}, w.cell? p = some v → wr.cell? p = some v := fun {p v} hc => (HB.out.cell (World.block_lt_of_cell? w _ hc)).trans hc
      replace x0 := kk x0
      replace x1 := kk x1
      replace x2 := kk x2
      clear kk
      have HTK : Hid (xs.take (i + 1) = xs.take i ++ [x]) := hidI (by rw [List.take_add_one, hx]; rfl)
      have HBad : Hid (okM x = false → xs.all okM = false) := hidI fun h => by
        rw [List.all_eq_false]
        exact ⟨x, List.mem_of_getElem? hx, by simp [h]⟩
      clear hx
      obtain ⟨xt, xg, xv⟩ := x
      simp only at x0 x1 x2
      have HBA := hidI (HB.out.alloc hszr (.cells #[.int .i64 xt, .int .i64 xg, .int .i64 xv] 26))
      by_cases h1 : 0 ≤ xt ∧ xt < 12
      · have C1 := hidI (isTo_any xt)
        rw [decide_eq_true h1] at C1
        by_cases h2 : 0 ≤ xg ∧ xg < 6
        · have C2 := hidI (isTag_any xg)
          rw [decide_eq_true h2] at C2
          have HOk : Hid (okM ⟨xt, xg, xv⟩ = true) := hidI (decide_eq_true ⟨h1.1, h1.2, h2.1, h2.2⟩)
          clear h1 h2
          go_wp2_with (first | (go_at_call 12; refine Calls.mono (C1.out _) ?_; rintro e w' ⟨rfl, rfl⟩) | (go_at_call 13; refine Calls.mono (C2.out _) ?_; rintro e w' ⟨rfl, rfl⟩))
          go_roundg g
          case measure => omega
          case rel =>
            refine ⟨i + 1, by omega, by go_num, HBA, hidI fun y hy => ?_⟩
            rw [HTK.out] at hy
            rcases List.mem_append.1 hy with hy | hy
            · exact HO.out y hy
            · rw [List.mem_singleton.1 hy]; exact HOk.out
        · have C2 := hidI (isTag_any xg)
          rw [decide_eq_false h2] at C2
          have HF := hidI (HBad.out (decide_eq_false (by simp only; omega)))
          clear h1 h2
          go_wp2_with (first | (go_at_call 12; refine Calls.mono (C1.out _) ?_; rintro e w' ⟨rfl, rfl⟩) | (go_at_call 13; refine Calls.mono (C2.out _) ?_; rintro e w' ⟨rfl, rfl⟩))
          go_ret2
          exact .inl ⟨HF.out, rfl, HBA.out⟩
      · have C1 := hidI (isTo_any xt)
        rw [decide_eq_false h1] at C1
        have HF := hidI (HBad.out (decide_eq_false (by simp only; omega)))
        clear h1
        go_wp2_with (go_at_call 12; refine Calls.mono (C1.out _) ?_; rintro e w' ⟨rfl, rfl⟩)
        go_ret2
        exact .inl ⟨HF.out, rfl, HBA.out⟩
end Go.Proofs.Ytdfieflcclbgjab
