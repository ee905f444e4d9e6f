/-
  Messages in the order of a number: the program's Turned, whole.
-/
import Derived.Test.YtdfieflcclbgjaaPTurned
namespace Go.Proofs.Ytdfieflcclbgjaa
open Go.RowKit Go.Deep Go.MapKept
set_option maxRecDepth 100000 in
set_option maxHeartbeats 4000000 in
theorem pturned_any (w : World) (v : Value) (xs : List Msg) (k : Nat) (hk : k < 18446744073709551616) (hv : SeesM w v xs) (hl : xs.length ≤ 10000) :
    Calls Try.prog 14 #[v, .int .u64 k] w fun e w' => ∃ v', e = .returned v' ∧ SeesM w' v' (turnM k xs) ∧ Below w.heap.size w w' := by
  have CR := hidI (rows_any w v xs hv hl)
  obtain ⟨a, cap, rfl, hcap, hL⟩ := hv
  clear hL
  obtain ⟨i0, hi, hz0, hz1, hz2⟩ := info_parts Try.info48
  obtain ⟨n, hn⟩ : ∃ n, xs.length = n := ⟨_, rfl⟩
  have HN := hidI hn
  rw [hn] at hl hcap CR ⊢
  clear hn
  obtain ⟨K, hK⟩ : ∃ K, (n + 15) / 16 = K := ⟨_, rfl⟩
  have hK2 : 16 * K ≤ n + 15 := by omega
  have HKK : Hid ((xs.length + 15) / 16 = K) := hidI (by rw [HN.out]; exact hK)
  rw [hK] at CR
  clear hK
  have HT := hidI (turnM_rows k xs)
  go_enter Try.func14, Try.ntmps14
  go_wp2_with (go_at_call 37; refine Calls.mono CR.out ?_; rintro e w1 ⟨v1, rfl, vs, ho1, hr1, hb1⟩; refine Hid.out ?_)
  refine hidI ?_
  clear CR
  have HB1 := hidI hb1
  have HP1 : Hid (Pairs w vs (rowsL xs K)) := hidI (pairs_rows (own_one ho1) hr1)
  have HO1 := hidI ho1
  clear hb1 hr1 ho1
  by_cases hodd : k % 2 = 1
  · have o1 : (k : Int) % 2 = 1 := by omega
    have CV := hidI (prev_any w1 w.heap.size K v1 vs HO1.out (pairs_one HP1.out) (by omega))
    have HP2 : Hid (Pairs w vs.reverse (rowsK k xs)) := hidI (by
      unfold rowsK
      rw [if_pos hodd, HKK.out]
      exact HP1.out.reverse)
    clear HP1
    go_wp2_with (go_at_call 38; refine Calls.mono CV.out ?_; rintro e w2 ⟨rfl, ho2, hb2⟩; refine Hid.out ?_)
    refine hidI ?_
    have HB2 := hidI (HB1.out.trans hb2)
    have HO2 := hidI ho2
    clear CV ho2 hb2 HO1 HB1 o1 hodd
    generalize vs.reverse = us at *
    have hsz2 := HB2.out.size
    go_wp2_with (at_make; refine wpList_make_own _ rfl _ _ 22 rfl w.heap.size 48 i0 (.agg #[.int .i64 0, .int .i64 0, .int .i64 0]) 3 Try.underlying22 hi hz0 hz1 _ _ _ n rfl rfl rfl (by rw [hz2]; omega) (by unfold maxLen; omega) hsz2 ?_; intro w3 hown3 hg3; refine Hid.out ?_)
    refine hidI ?_
    have HB3 : Hid (Below w.heap.size w w3) := hidI (HB2.out.grown hg3 hsz2 (fun _ e => by cases e))
    have HO3 := hidI hown3
    have HU3 : Hid (w3.ownsRow w.heap.size 22 1 v1 K us) := hidI (HO2.out.kept hg3 (by cases v1.ownBlock <;> simp))
    clear hown3 hg3 HO2 HB2 hsz2
    obtain ⟨va, vc, hv1⟩ : ∃ va vc, v1 = .slice va K vc := by
      obtain ⟨a, c, h, _⟩ := own_cap HU3.out
      exact ⟨a, c, h⟩
    subst hv1
    go_wp2
    go_loopg [6, 25] K (fun g s6 s25 wx => ∃ (j no : Nat) (v6 : Value) (out : List Msg), j + g = K ∧ v6 = s6 ∧ s25 = .int .i64 (j : Int) ∧ no ≤ 16 * j ∧ Hid (out = ((rowsK k xs).take j).flatMap (turnRow k)) ∧ Hid (wx.ownsRow w.heap.size 48 3 v6 no (flatM out)) ∧ Hid (wx.ownsRow w.heap.size 22 1 (.slice va K vc) K us) ∧ Hid (Below w.heap.size w wx))
    case atStart => exact ⟨0, 0, _, [], by omega, rfl, rfl, by omega, hidI (by simp), HO3, HU3, HB3⟩
    case round =>
      obtain ⟨j, no, v6, out, hjg, rfl, rfl, hno, HOut, HO, HU, HB⟩ := hrel
      have hszr := HB.out.size
      cases gk with
      | zero =>
        obtain rfl : K = j := by omega
        have k1 : decide ((K : Int) < (K : Int)) = false := by simp
        have HF : Hid (out = turnM k xs) := hidI (by
          rw [HT.out, HOut.out, List.take_of_length_le (by rw [rowsK_length, HKK.out]; omega)])
        go_wp2
        go_ret
        refine ⟨_, rfl, ?_, HB.out⟩
        rw [← HF.out]
        exact seesM_of_owns HO.out
      | succ g =>
        have hj : j < K := by omega
        have k1 : (j : Int) < (K : Int) := by omega
        have hul := own_one HU.out
        obtain ⟨u, hu⟩ : ∃ u, us[j]? = some u := ⟨_, List.getElem?_eq_getElem (by omega)⟩
        obtain ⟨r, hr⟩ : ∃ r, (rowsK k xs)[j]? = some r := ⟨_, List.getElem?_eq_getElem (by rw [rowsK_length, HKK.out]; exact hj)⟩
        have hsr := HP2.out.2 j u r hu hr
        have hrl : r.length ≤ 16 := rowsK_len (List.mem_of_getElem? hr)
        obtain ⟨ra, rc, rfl, hrc, _⟩ := hsr
        have HSR := hidI (HP2.out.2 j _ r hu hr)
        have HTk : Hid (((rowsK k xs).take (j + 1)).flatMap (turnRow k) = ((rowsK k xs).take j).flatMap (turnRow k) ++ turnRow k r) := hidI (by rw [List.take_add_one, hr]; simp)
        obtain ⟨m, hm⟩ : ∃ m, r.length = m := ⟨_, rfl⟩
        have HM := hidI hm
        rw [hm] at hu hrl HSR
        obtain ⟨vb, vo, rfl, hcu⟩ : ∃ vb vo, va = some ⟨vb, vo, none⟩ ∧ wr.cell? ⟨vb, vo + j, none⟩ = some (.slice ra m rc) := by
          obtain ⟨_, a', c', he, hs⟩ := seesC_of_owns HU.out
          simp only [Value.slice.injEq] at he
          obtain ⟨rfl, _, rfl⟩ := he
          rcases hs with h0 | ⟨b, o, rfl, hc⟩
          · omega
          · exact ⟨b, o, rfl, hc j _ hu⟩
        have HTR : Hid (turnRow k r = (fromL m k).map fun q => r.getD q.toNat default) := hidI (by unfold turnRow; rw [HM.out])
        have CF := hidI (Perm.fromP_any m k wr hrl hk)
        clear hu hr hm hrc
        go_wp2_with (go_at_call 39; refine Calls.mono CF.out ?_; rintro e w4 ⟨og, rfl, ho4, hb4⟩; refine Hid.out ?_)
        refine hidI ?_
        have HB4 := hidI (HB.out.trans (hb4.mono hszr))
        have HO4 := hidI (own_below HO.out hb4 (Nat.le_refl _))
        have HU4 := hidI (own_below HU.out hb4 (Nat.le_refl _))
        have HQ4 : Hid (w4.ownsRow w.heap.size 3 1 (.slice (some ⟨og, 0, none⟩) m m) m ((fromL m k).map (Value.int .i64))) := hidI (Joins.ownsRow_le ho4 hszr)
        clear ho4 hb4 CF hcu
        go_wp2
        go_loopg [6, 38] m (fun g2 s6 s38 wz => ∃ (i : Nat) (v6 : Value), i + g2 = m ∧ v6 = s6 ∧ s38 = .int .i64 (i : Int) ∧ Hid (wz.ownsRow w.heap.size 48 3 v6 (no + i) (flatM (out ++ ((fromL m k).take i).map fun q => r.getD q.toNat default))) ∧ Hid (wz.ownsRow w.heap.size 22 1 (.slice (some ⟨vb, vo, none⟩) K vc) K us) ∧ Hid (wz.ownsRow w.heap.size 3 1 (.slice (some ⟨og, 0, none⟩) m m) m ((fromL m k).map (Value.int .i64))) ∧ Hid (Below w.heap.size w wz))
        case atStart => exact ⟨0, _, by omega, rfl, rfl, hidI (by simpa using HO4.out), HU4, HQ4, HB4⟩
        case round =>
          obtain ⟨i, v6, hig, rfl, rfl, HOz, HUz, HQz, HBz⟩ := hrel
          have hsz := HBz.out.size
          cases gk with
          | zero =>
            have him : i = m := by omega
            have k2 : decide ((i : Int) < (m : Int)) = false := by rw [decide_eq_false_iff_not]; omega
            have k3 : decide (i < m) = false := by rw [decide_eq_false_iff_not]; omega
            have HOn : Hid (wr.ownsRow w.heap.size 48 3 v6 (no + i) (flatM (out ++ turnRow k r))) := hidI (by
              have h := HOz.out
              rw [List.take_of_length_le (by rw [fromL_len m k hrl]; omega), ← HTR.out] at h
              exact h)
            clear HOz
            have HI9 := hidI him
            clear him
            go_wp2
            go_roundg g
            case measure => omega
            case rel => exact ⟨j + 1, no + i, v6, out ++ turnRow k r, by omega, rfl, by go_num, by have := HI9.out; omega, hidI (by rw [HTk.out, HOut.out]), HOn, HUz, HBz⟩
          | succ g2 =>
            have him : i < m := by omega
            have k2 : (i : Int) < (m : Int) := by omega
            obtain ⟨q, hqm, hq⟩ := fromL_get (k := k) hrl him
            have hcq : wr.cell? ⟨og, i, none⟩ = some (.int .i64 (q : Int)) := by
              have h := World.ownsRow.cells HQz.out rfl i (.int .i64 (q : Int)) (by rw [List.getElem?_map, hq]; rfl)
              rwa [Addr.add_lit, Nat.zero_add] at h
            have kq : (q : Int) < (m : Int) := by omega
            obtain ⟨x, hx⟩ : ∃ x, r[q]? = some x := ⟨_, List.getElem?_eq_getElem (by have := HM.out; omega)⟩
            obtain ⟨b1, o1, c1, e1, x0, x1, x2⟩ := (HSR.out.below HBz.out (Nat.le_refl _)).cell hx
            rw [HM.out] at e1
            cases e1
            have HTi : Hid (((fromL m k).take (i + 1)).map (fun q => r.getD q.toNat default) = ((fromL m k).take i).map (fun q => r.getD q.toNat default) ++ [x]) := hidI (by
              rw [List.take_add_one, hq]
              simp [List.getD, hx])
            obtain ⟨xt, xg, xv⟩ := x
            simp only at x0 x1 x2
            have HOA := hidI (World.ownsRow.alloc HOz.out (.cells #[.int .i64 xt, .int .i64 xg, .int .i64 xv] 48))
            have HUA := hidI (World.ownsRow.alloc HUz.out (.cells #[.int .i64 xt, .int .i64 xg, .int .i64 xv] 48))
            have HQA := hidI (World.ownsRow.alloc HQz.out (.cells #[.int .i64 xt, .int .i64 xg, .int .i64 xv] 48))
            have HSM := hidI (msg_seen (W := wr) ⟨xt, xg, xv⟩)
            clear hq hx
            go_wp2_with (at_builtin; go_must (refine wpList_append_any Try.underlying22 Try.info48 rfl (by decide) (by decide) rfl _ _ rfl w.heap.size _ (no + i) _ rfl HOA.out _ 1 (Msg.cells ⟨xt, xg, xv⟩) rfl HSM.out (cells_one _) (by omega) (by simp; omega) ?_); intro v9 w9 hown9 hgrow9 _; refine Hid.out ?_)
            refine hidI ?_
            have HB9 : Hid (Below w.heap.size w w9) := hidI (Below.grown (HBz.out.alloc hsz _) hgrow9 (by simp; omega) (fun k hk => (HOA.out.lt k hk).1))
            have HU9 := hidI (own_kept HUA.out HOA.out (by decide) hgrow9)
            have HQ9 := hidI (own_kept HQA.out HOA.out (by decide) hgrow9)
            have HO9 : Hid (w9.ownsRow w.heap.size 48 3 v9 (no + (i + 1)) (flatM (out ++ ((fromL m k).take (i + 1)).map fun q => r.getD q.toNat default))) := hidI (by
              rw [HTi.out, ← List.append_assoc, flatM_append _ [_], flatM_one]
              exact hown9)
            clear hown9 hgrow9 HOA HSM HUA HQA x0 x1 x2 hcq
            go_wp2
            go_roundg g2
            case measure => omega
            case rel => exact ⟨i + 1, v9, by omega, rfl, by go_num, HO9, HU9, HQ9, HB9⟩
  · have o1 : ¬ (k : Int) % 2 = 1 := by omega
    have o2 : ((k : Int) % 2 == 1) = false := by simpa using o1
    have HP2 : Hid (Pairs w vs (rowsK k xs)) := hidI (by
      unfold rowsK
      rw [if_neg hodd, HKK.out]
      exact HP1.out)
    clear HP1
    have HB2 := HB1
    have HO2 := HO1
    clear HB1 HO1
    generalize vs = us at *
    have hsz2 := HB2.out.size
    go_wp2_with (at_make; refine wpList_make_own _ rfl _ _ 22 rfl w.heap.size 48 i0 (.agg #[.int .i64 0, .int .i64 0, .int .i64 0]) 3 Try.underlying22 hi hz0 hz1 _ _ _ n rfl rfl rfl (by rw [hz2]; omega) (by unfold maxLen; omega) hsz2 ?_; intro w3 hown3 hg3; refine Hid.out ?_)
    refine hidI ?_
    have HB3 : Hid (Below w.heap.size w w3) := hidI (HB2.out.grown hg3 hsz2 (fun _ e => by cases e))
    have HO3 := hidI hown3
    have HU3 : Hid (w3.ownsRow w.heap.size 22 1 v1 K us) := hidI (HO2.out.kept hg3 (by cases v1.ownBlock <;> simp))
    clear hown3 hg3 HO2 HB2 hsz2
    obtain ⟨va, vc, hv1⟩ : ∃ va vc, v1 = .slice va K vc := by
      obtain ⟨a, c, h, _⟩ := own_cap HU3.out
      exact ⟨a, c, h⟩
    subst hv1
    go_wp2
    go_loopg [6, 25] K (fun g s6 s25 wx => ∃ (j no : Nat) (v6 : Value) (out : List Msg), j + g = K ∧ v6 = s6 ∧ s25 = .int .i64 (j : Int) ∧ no ≤ 16 * j ∧ Hid (out = ((rowsK k xs).take j).flatMap (turnRow k)) ∧ Hid (wx.ownsRow w.heap.size 48 3 v6 no (flatM out)) ∧ Hid (wx.ownsRow w.heap.size 22 1 (.slice va K vc) K us) ∧ Hid (Below w.heap.size w wx))
    case atStart => exact ⟨0, 0, _, [], by omega, rfl, rfl, by omega, hidI (by simp), HO3, HU3, HB3⟩
    case round =>
      obtain ⟨j, no, v6, out, hjg, rfl, rfl, hno, HOut, HO, HU, HB⟩ := hrel
      have hszr := HB.out.size
      cases gk with
      | zero =>
        obtain rfl : K = j := by omega
        have k1 : decide ((K : Int) < (K : Int)) = false := by simp
        have HF : Hid (out = turnM k xs) := hidI (by
          rw [HT.out, HOut.out, List.take_of_length_le (by rw [rowsK_length, HKK.out]; omega)])
        go_wp2
        go_ret
        refine ⟨_, rfl, ?_, HB.out⟩
        rw [← HF.out]
        exact seesM_of_owns HO.out
      | succ g =>
        have hj : j < K := by omega
        have k1 : (j : Int) < (K : Int) := by omega
        have hul := own_one HU.out
        obtain ⟨u, hu⟩ : ∃ u, us[j]? = some u := ⟨_, List.getElem?_eq_getElem (by omega)⟩
        obtain ⟨r, hr⟩ : ∃ r, (rowsK k xs)[j]? = some r := ⟨_, List.getElem?_eq_getElem (by rw [rowsK_length, HKK.out]; exact hj)⟩
        have hsr := HP2.out.2 j u r hu hr
        have hrl : r.length ≤ 16 := rowsK_len (List.mem_of_getElem? hr)
        obtain ⟨ra, rc, rfl, hrc, _⟩ := hsr
        have HSR := hidI (HP2.out.2 j _ r hu hr)
        have HTk : Hid (((rowsK k xs).take (j + 1)).flatMap (turnRow k) = ((rowsK k xs).take j).flatMap (turnRow k) ++ turnRow k r) := hidI (by rw [List.take_add_one, hr]; simp)
        obtain ⟨m, hm⟩ : ∃ m, r.length = m := ⟨_, rfl⟩
        have HM := hidI hm
        rw [hm] at hu hrl HSR
        obtain ⟨vb, vo, rfl, hcu⟩ : ∃ vb vo, va = some ⟨vb, vo, none⟩ ∧ wr.cell? ⟨vb, vo + j, none⟩ = some (.slice ra m rc) := by
          obtain ⟨_, a', c', he, hs⟩ := seesC_of_owns HU.out
          simp only [Value.slice.injEq] at he
          obtain ⟨rfl, _, rfl⟩ := he
          rcases hs with h0 | ⟨b, o, rfl, hc⟩
          · omega
          · exact ⟨b, o, rfl, hc j _ hu⟩
        have HTR : Hid (turnRow k r = (fromL m k).map fun q => r.getD q.toNat default) := hidI (by unfold turnRow; rw [HM.out])
        have CF := hidI (Perm.fromP_any m k wr hrl hk)
        clear hu hr hm hrc
        go_wp2_with (go_at_call 39; refine Calls.mono CF.out ?_; rintro e w4 ⟨og, rfl, ho4, hb4⟩; refine Hid.out ?_)
        refine hidI ?_
        have HB4 := hidI (HB.out.trans (hb4.mono hszr))
        have HO4 := hidI (own_below HO.out hb4 (Nat.le_refl _))
        have HU4 := hidI (own_below HU.out hb4 (Nat.le_refl _))
        have HQ4 : Hid (w4.ownsRow w.heap.size 3 1 (.slice (some ⟨og, 0, none⟩) m m) m ((fromL m k).map (Value.int .i64))) := hidI (Joins.ownsRow_le ho4 hszr)
        clear ho4 hb4 CF hcu
        go_wp2
        go_loopg [6, 38] m (fun g2 s6 s38 wz => ∃ (i : Nat) (v6 : Value), i + g2 = m ∧ v6 = s6 ∧ s38 = .int .i64 (i : Int) ∧ Hid (wz.ownsRow w.heap.size 48 3 v6 (no + i) (flatM (out ++ ((fromL m k).take i).map fun q => r.getD q.toNat default))) ∧ Hid (wz.ownsRow w.heap.size 22 1 (.slice (some ⟨vb, vo, none⟩) K vc) K us) ∧ Hid (wz.ownsRow w.heap.size 3 1 (.slice (some ⟨og, 0, none⟩) m m) m ((fromL m k).map (Value.int .i64))) ∧ Hid (Below w.heap.size w wz))
        case atStart => exact ⟨0, _, by omega, rfl, rfl, hidI (by simpa using HO4.out), HU4, HQ4, HB4⟩
        case round =>
          obtain ⟨i, v6, hig, rfl, rfl, HOz, HUz, HQz, HBz⟩ := hrel
          have hsz := HBz.out.size
          cases gk with
          | zero =>
            have him : i = m := by omega
            have k2 : decide ((i : Int) < (m : Int)) = false := by rw [decide_eq_false_iff_not]; omega
            have k3 : decide (i < m) = false := by rw [decide_eq_false_iff_not]; omega
            have HOn : Hid (wr.ownsRow w.heap.size 48 3 v6 (no + i) (flatM (out ++ turnRow k r))) := hidI (by
              have h := HOz.out
              rw [List.take_of_length_le (by rw [fromL_len m k hrl]; omega), ← HTR.out] at h
              exact h)
            clear HOz
            have HI9 := hidI him
            clear him
            go_wp2
            go_roundg g
            case measure => omega
            case rel => exact ⟨j + 1, no + i, v6, out ++ turnRow k r, by omega, rfl, by go_num, by have := HI9.out; omega, hidI (by rw [HTk.out, HOut.out]), HOn, HUz, HBz⟩
          | succ g2 =>
            have him : i < m := by omega
            have k2 : (i : Int) < (m : Int) := by omega
            obtain ⟨q, hqm, hq⟩ := fromL_get (k := k) hrl him
            have hcq : wr.cell? ⟨og, i, none⟩ = some (.int .i64 (q : Int)) := by
              have h := World.ownsRow.cells HQz.out rfl i (.int .i64 (q : Int)) (by rw [List.getElem?_map, hq]; rfl)
              rwa [Addr.add_lit, Nat.zero_add] at h
            have kq : (q : Int) < (m : Int) := by omega
            obtain ⟨x, hx⟩ : ∃ x, r[q]? = some x := ⟨_, List.getElem?_eq_getElem (by have := HM.out; omega)⟩
            obtain ⟨b1, o1, c1, e1, x0, x1, x2⟩ := (HSR.out.below HBz.out (Nat.le_refl _)).cell hx
            rw [HM.out] at e1
            cases e1
            have HTi : Hid (((fromL m k).take (i + 1)).map (fun q => r.getD q.toNat default) = ((fromL m k).take i).map (fun q => r.getD q.toNat default) ++ [x]) := hidI (by
              rw [List.take_add_one, hq]
              simp [List.getD, hx])
            obtain ⟨xt, xg, xv⟩ := x
            simp only at x0 x1 x2
            have HOA := hidI (World.ownsRow.alloc HOz.out (.cells #[.int .i64 xt, .int .i64 xg, .int .i64 xv] 48))
            have HUA := hidI (World.ownsRow.alloc HUz.out (.cells #[.int .i64 xt, .int .i64 xg, .int .i64 xv] 48))
            have HQA := hidI (World.ownsRow.alloc HQz.out (.cells #[.int .i64 xt, .int .i64 xg, .int .i64 xv] 48))
            have HSM := hidI (msg_seen (W := wr) ⟨xt, xg, xv⟩)
            clear hq hx
            go_wp2_with (at_builtin; go_must (refine wpList_append_any Try.underlying22 Try.info48 rfl (by decide) (by decide) rfl _ _ rfl w.heap.size _ (no + i) _ rfl HOA.out _ 1 (Msg.cells ⟨xt, xg, xv⟩) rfl HSM.out (cells_one _) (by omega) (by simp; omega) ?_); intro v9 w9 hown9 hgrow9 _; refine Hid.out ?_)
            refine hidI ?_
            have HB9 : Hid (Below w.heap.size w w9) := hidI (Below.grown (HBz.out.alloc hsz _) hgrow9 (by simp; omega) (fun k hk => (HOA.out.lt k hk).1))
            have HU9 := hidI (own_kept HUA.out HOA.out (by decide) hgrow9)
            have HQ9 := hidI (own_kept HQA.out HOA.out (by decide) hgrow9)
            have HO9 : Hid (w9.ownsRow w.heap.size 48 3 v9 (no + (i + 1)) (flatM (out ++ ((fromL m k).take (i + 1)).map fun q => r.getD q.toNat default))) := hidI (by
              rw [HTi.out, ← List.append_assoc, flatM_append _ [_], flatM_one]
              exact hown9)
            clear hown9 hgrow9 HOA HSM HUA HQA x0 x1 x2 hcq
            go_wp2
            go_roundg g2
            case measure => omega
            case rel => exact ⟨i + 1, v9, by omega, rfl, by go_num, HO9, HU9, HQ9, HB9⟩
end Go.Proofs.Ytdfieflcclbgjaa
