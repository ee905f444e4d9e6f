/-
  The law of MailOrder.
-/
import Derived.Test.YtdfieflcclbgjaaRegT
import Derived.Test.YtdfieflcclbgjaaOrdL
import Derived.Test.YtdfieflcclbgjaaMRows
namespace Go.Proofs.Ytdfieflcclbgjaa
open Go.RowKit Go.Deep Go.MapKept
set_option maxRecDepth 100000 in
set_option maxHeartbeats 4000000 in
theorem mailOrder_law (w : World) (v : Value) (xs0 : List Msg) (hv : SeesM w v xs0) (hi : ∀ x ∈ xs0, x.inr) (k : Nat) (hk : k < 18446744073709551616) (z : Int) :
    Calls Try.prog 7 #[v, .int .u64 k, .int .i64 z] w fun e w' => e = .returned (.bool true) ∧ Below w.heap.size w w' := by
  have C0 := hidI (few_any w v xs0 hv)
  obtain ⟨xs, hxs⟩ : ∃ xs, xs0.take 50 = xs := ⟨_, rfl⟩
  have hl : xs.length ≤ 50 := by rw [← hxs, List.length_take]; omega
  have HIn : Hid (∀ x ∈ xs, x.inr) := hidI fun x hx => hi x (by rw [← hxs] at hx; exact List.mem_of_mem_take hx)
  rw [hxs] at C0
  clear hxs hv hi
  go_enter Try.func7, Try.ntmps7
  go_wp2_with (go_at_call 9; refine Calls.mono C0.out ?_; rintro e w1 ⟨v1, rfl, hs1, rfl⟩; refine Hid.out ?_)
  refine hidI ?_
  obtain ⟨a, cap, he1, hcap, hL⟩ := hs1
  have HV : Hid (SeesM w v1 xs) := hidI ⟨a, cap, he1, hcap, hL⟩
  subst he1
  clear hL hcap C0
  obtain ⟨n, hn⟩ : ∃ n, xs.length = n := ⟨_, rfl⟩
  have HN := hidI hn
  rw [hn] at hl HV ⊢
  clear hn
  have HO1 : Hid (SeesO (w.alloc (.cells #[.int .u8 1, .int .u8 6, .int .u8 7, .int .u8 17, .int .u8 16] 38)) (.slice (some ⟨w.heap.size, 0, none⟩) 5 5) ops5) := hidI (seesO_lit w ops5)
  have HB1 : Hid (Below w.heap.size w (w.alloc (.cells #[.int .u8 1, .int .u8 6, .int .u8 7, .int .u8 17, .int .u8 16] 38))) := hidI ((Below.refl _ w).alloc (Nat.le_refl _) _)
  have HSz : Hid ((w.alloc (.cells #[.int .u8 1, .int .u8 6, .int .u8 7, .int .u8 17, .int .u8 16] 38)).heap.size = w.heap.size + 1) := hidI (by simp)
  go_wp2
  generalize w.alloc (.cells #[.int .u8 1, .int .u8 6, .int .u8 7, .int .u8 17, .int .u8 16] 38) = w1 at *
  obtain ⟨B, hB⟩ : ∃ B, w.heap.size = B := ⟨_, rfl⟩
  rw [hB] at HO1 HB1 HSz ⊢
  have HBB := hidI hB
  clear hB
  go_loopg [8, 9] n (fun g s8 s9 wx => ∃ (i : Nat) (v8 : Value), i + g = n ∧ v8 = s8 ∧ s9 = .int .i64 (i : Int) ∧ Hid (wx.ownsRow w1.heap.size 48 3 v8 i (flatM ((xs.take i).map nrm))) ∧ Hid (Below w1.heap.size w1 wx))
  case atStart => exact ⟨0, _, by omega, rfl, rfl, hidI (World.ownsRow_nil _ _ _ _), hidI (Below.refl _ _)⟩
  case round =>
    obtain ⟨i, v8, hig, rfl, rfl, HO, HBx⟩ := hrel
    have hszx := HBx.out.size
    cases gk with
    | zero =>
      obtain rfl : n = i := by omega
      have k1 : decide ((n : Int) < (n : Int)) = false := by simp
      have HM0 : Hid (SeesM wr v8 (xs.map nrm)) := hidI (by
        have h := HO.out
        rw [List.take_of_length_le (by have := HN.out; omega)] at h
        exact seesM_of_owns h)
      obtain ⟨ms, hms⟩ : ∃ ms, xs.map nrm = ms := ⟨_, rfl⟩
      have HMS := hidI hms
      have hml : ms.length ≤ 50 := by rw [← hms, List.length_map]; have := HN.out; omega
      have HMin : Hid (∀ x ∈ ms, In64 x.to ∧ In64 x.tag) := hidI fun x hx => by
        rw [← hms] at hx
        obtain ⟨y, hy, rfl⟩ := List.mem_map.1 hx
        exact nrm_in (HIn.out y hy).1
      have HAl : Hid (ms.all (tagOk ops5) = true ∧ ms.all (opOk ops5) = true) := hidI (by rw [← hms]; exact nrm_all xs)
      rw [hms] at HM0
      clear hms HO
      obtain ⟨w2, hw2⟩ : ∃ w2 : World, w2 = wr := ⟨wr, rfl⟩
      subst hw2
      have HU : Hid (∀ y, Below w1.heap.size w1 y → SeesO y (.slice (some ⟨B, 0, none⟩) 5 5) ops5) := hidI fun y hy => HO1.out.below hy (Nat.le_refl _)
      have C1 := hidI (pturned_any w2 v8 ms k hk HM0.out (by omega))
      go_wp2_with (go_at_call 14; refine Calls.mono C1.out ?_; rintro e w3 ⟨v3, rfl, hs3, hb3⟩; refine Hid.out ?_)
      refine hidI ?_
      have HB3 := hidI (HBx.out.trans (hb3.mono hszx))
      have HM3 := hidI (HM0.out.below hb3 (Nat.le_refl _))
      have HT3 := hidI hs3
      clear hb3 hs3 C1 HM0
      have C2 := hidI (pcombined w3 v8 _ ms ops5 HMin.out HM3.out (HU.out _ HB3.out) (by omega))
      rw [comb5 ms HAl.out.1 HAl.out.2] at C2
      simp only at C2
      go_wp2_with (go_at_call 19; refine Calls.mono C2.out ?_; rintro e w4 ⟨v4, rfl, hs4, hb4⟩; refine Hid.out ?_)
      refine hidI ?_
      have HB4 := hidI (HB3.out.trans (hb4.mono HB3.out.size))
      have HM4 := hidI (HM3.out.below hb4 (Nat.le_refl _))
      have HT4 := hidI (HT3.out.below hb4 (Nat.le_refl _))
      have HA4 := hidI hs4
      clear hb4 hs4 C2 HM3 HT3
      have hpm := turnM_perm k ms
      have C3 := hidI (pcombined w4 v3 _ (turnM k ms) ops5 (fun x hx => HMin.out x (hpm.mem_iff.1 hx)) HT4.out (HU.out _ HB4.out) (by rw [turnM_length]; omega))
      rw [comb5 _ (all_perm hpm HAl.out.1) (all_perm hpm HAl.out.2), comb_same ops5 hpm] at C3
      simp only at C3
      clear hpm
      go_wp2_with (go_at_call 19; refine Calls.mono C3.out ?_; rintro e w5 ⟨v5, rfl, hs5, hb5⟩; refine Hid.out ?_)
      refine hidI ?_
      have HB5 := hidI (HB4.out.trans (hb5.mono HB4.out.size))
      have HM5 := hidI (HM4.out.below hb5 (Nat.le_refl _))
      have HT5 := hidI (HT4.out.below hb5 (Nat.le_refl _))
      have HA5 := hidI (HA4.out.below hb5 (Nat.le_refl _))
      have HE5 := hidI hs5
      clear hb5 hs5 C3 HM4 HT4 HA4
      obtain ⟨cs, hcs⟩ : ∃ cs, sortM (combM ops5 ms) = cs := ⟨_, rfl⟩
      have HCS := hidI hcs
      have hcl : cs.length ≤ 500 := by
        rw [← hcs, sortM_length]
        have := combM_len ops5 ms []
        unfold combM
        simp only [List.length_nil] at this
        omega
      rw [hcs] at HA5 HE5
      clear hcs
      have C4 := hidI (rsame_eq w5 v4 v5 cs HA5.out HE5.out (by omega))
      go_wp2_with (go_at_call 11; refine Calls.mono C4.out ?_; rintro e w6 ⟨rfl, hb6⟩; refine Hid.out ?_)
      refine hidI ?_
      have HB6 := hidI (HB5.out.trans (hb6.mono HB5.out.size))
      have HM6 := hidI (HM5.out.below hb6 (Nat.le_refl _))
      have HT6 := hidI (HT5.out.below hb6 (Nat.le_refl _))
      have HA6 := hidI (HA5.out.below hb6 (Nat.le_refl _))
      clear hb6 C4 HM5 HT5 HA5 HE5
      go_wp2
      go_loopg [16] 4 (fun g s16 wx => ∃ (tg : Nat), tg + g = 4 ∧ s16 = .int .i64 (tg : Int) ∧ Hid (Below w6.heap.size w6 wx))
      case atStart => exact ⟨0, by omega, rfl, hidI (Below.refl _ _)⟩
      case round =>
        obtain ⟨tg, htg, rfl, HBt⟩ := hrel
        cases gk with
        | zero =>
          obtain rfl : tg = 4 := by omega
          have CL := hidI (live_any wr)
          have HBw := hidI (HB6.out.trans (HBt.out.mono HB6.out.size))
          go_wp2_with (go_at_call 10; refine Calls.mono CL.out ?_; rintro e w7 ⟨rfl, hb7⟩; refine Hid.out ?_)
          refine hidI ?_
          have HB7 := hidI (HBw.out.trans (hb7.mono HBw.out.size))
          clear hb7 CL
          go_wp2
          go_ret
          refine ⟨rfl, ?_⟩
          rw [HBB.out]
          exact HB1.out.trans (HB7.out.mono (by have := HSz.out; omega))
        | succ g =>
          have htg4 : tg < 4 := by omega
          have kt : (tg : Int) < 4 := by omega
          go_wp2
          go_loopg [17] 4 (fun g2 s17 wy => ∃ (t : Nat), t + g2 = 4 ∧ s17 = .int .i64 (t : Int) ∧ Hid (Below w6.heap.size w6 wy))
          case atStart => exact ⟨0, by omega, rfl, HBt⟩
          case round =>
            obtain ⟨t, ht, rfl, HBy⟩ := hrel
            cases gk with
            | zero =>
              obtain rfl : t = 4 := by omega
              go_wp2
              go_roundg g
              case measure => omega
              case rel => exact ⟨tg + 1, by omega, by go_num, HBy⟩
            | succ g2 =>
              have kt2 : (t : Int) < 4 := by omega
              have ht4 : t < 4 := by omega
              obtain ⟨o, ho⟩ : ∃ o, ops5[tg]? = some o := ⟨_, List.getElem?_eq_getElem (by simp [ops5]; omega)⟩
              have hred := ops5_red ho
              have hor := ops5_or htg4 ho
              have heq := order_eq xs k tg (t : Int) z o htg4 ho
              rw [HMS.out, HCS.out] at heq
              obtain ⟨T, hT⟩ : ∃ T, takeM o (tg : Int) (wasOf tg z) (ms.filter fun m => m.to == (t : Int)) = T := ⟨_, rfl⟩
              rw [hT] at heq
              have HBw := hidI (HB6.out.trans (HBy.out.mono HB6.out.size))
              obtain ⟨ob, oo, oc, eo, oc0⟩ := (HU.out _ HBw.out).cell ho
              simp only [ops5, List.length_cons, List.length_nil, Value.slice.injEq, Option.some.injEq, Addr.mk.injEq, and_true, true_and] at eo
              obtain ⟨⟨rfl, rfl⟩, rfl⟩ := eo
              have HF : Hid (∀ (lv : Value) (ys : List Msg), SeesM w6 lv ys → ys.length ≤ 500 → ∀ W, Below w6.heap.size w6 W → Calls Try.prog 16 #[lv, .int .i64 (t : Int)] W fun e w' => ∃ v', e = .returned v' ∧ SeesM w' v' (ys.filter fun m => m.to == (t : Int)) ∧ Below W.heap.size W w') := hidI fun lv ys hs hl W hW => pfor_any W lv ys (t : Int) (hs.below hW (Nat.le_refl _)) (by omega)
              have HTk : Hid (∀ (ys : List Msg), ys.length ≤ 500 → takeM o (tg : Int) (wasOf tg z) ys = T → ∀ W v', SeesM W v' ys → Calls Try.prog 21 #[.int .i64 (wasOf tg z), .int .u8 (o : Int), .int .i64 (tg : Int), v'] W fun e w' => e = .returned (.tuple #[.int .i64 T, .int .i64 0]) ∧ Below W.heap.size W w') := hidI fun ys hl hy W v' hs => by
                rw [← hy]
                exact ptaken_any W v' ys _ _ o hred hs (by omega)
              have HF1 := hidI (HF.out v8 ms HM6.out (by omega))
              have HF2 := hidI (HF.out v3 (turnM k ms) HT6.out (by rw [turnM_length]; omega))
              have HF3 := hidI (HF.out v4 cs HA6.out (by omega))
              have flt : ∀ (ys : List Msg), ys.length ≤ 500 → (ys.filter fun m => m.to == (t : Int)).length ≤ 500 := fun ys h => Nat.le_trans (List.length_filter_le _ _) h
              have HT1 := hidI (HTk.out _ (flt ms (by omega)) hT)
              have HT2 := hidI (HTk.out _ (flt (turnM k ms) (by rw [turnM_length]; omega)) heq.1)
              have HT3 := hidI (HTk.out _ (flt cs (by omega)) heq.2)
              have HCo : Hid (∀ W, Below wr.heap.size wr W → W.cell? ⟨B, 0 + tg, none⟩ = some (.int .u8 (o : Int))) := hidI fun W hW => (hW.cell (p := ⟨B, 0 + tg, none⟩) (World.block_lt_of_cell? wr _ oc0)).trans oc0
              have oc1 : wr.cell? ⟨B, tg, none⟩ = some (.int .u8 (o : Int)) := by rw [Nat.zero_add] at oc0; exact oc0
              have hO8 : (o : Int) ≤ 255 := by
                have hc : tg = 0 ∨ tg = 1 ∨ tg = 2 ∨ tg = 3 := by omega
                rcases hc with rfl | rfl | rfl | rfl <;> simp [ops5] at ho <;> subst ho <;> decide
              clear HF HTk flt ho hred heq hT oc0
              have a1 := and1 z
              obtain ⟨ws, hws⟩ : ∃ ws, wasOf tg z = ws := ⟨_, rfl⟩
              rw [hws] at HT1 HT2 HT3
              by_cases h3 : tg = 3
              · have ho17 := hor.2 h3
                have ko : ((o : Int) == 17) = true := by rw [ho17]; rfl
                have hwz : z % 2 = ws := by rw [← hws]; unfold wasOf; rw [if_pos h3]
                rw [hwz] at a1
                have H3 := hidI h3
                clear h3 hws hwz hor ho17
                go_wp2
                refine regT26 (ob := B) (oo := 0) (L := 5) (tg := tg) (o := o) (was := ws) (to := (t : Int)) (T := T) (E := 0) (lv := v8) (ys := ms.filter fun m => m.to == (t : Int)) (HCo.out _ (Below.refl _ wr).drew) (by omega) (fun W hW => HF1.out W (HBy.out.drew.trans (hW.mono HBy.out.size))) HT1.out (fun _ _ _ _ _ h => h) ?_
                intro W26 t99 t100 t101 t102 t103 t104 t105 t106 t107 t108 t109 t110 t111 hb26
                have HN26 := hidI (((Below.refl _ wr).drew).trans hb26)
                have HB26 := hidI (HBy.out.drew.trans (hb26.mono HBy.out.size))
                clear hb26
                go_wp2
                refine regT27 (ob := B) (oo := 0) (L := 5) (tg := tg) (o := o) (was := ws) (to := (t : Int)) (T := T) (E := 0) (lv := v3) (ys := (turnM k ms).filter fun m => m.to == (t : Int)) (HCo.out _ HN26.out.drew) (by omega) (fun W hW => HF2.out W (HB26.out.drew.trans (hW.mono HB26.out.size))) HT2.out (fun _ _ _ _ _ h => h) ?_
                intro W27 t112 t113 t114 t115 t116 t117 t118 t119 t120 t121 t122 t123 t124 hb27
                have HN27 := hidI (HN26.out.drew.trans (hb27.mono HN26.out.size))
                have HB27 := hidI (HB26.out.drew.trans (hb27.mono HB26.out.size))
                clear hb27
                go_wp2
                refine regT28 (ob := B) (oo := 0) (L := 5) (tg := tg) (o := o) (was := ws) (to := (t : Int)) (T := T) (E := 0) (lv := v4) (ys := cs.filter fun m => m.to == (t : Int)) (HCo.out _ HN27.out.drew) (by omega) (fun W hW => HF3.out W (HB27.out.drew.trans (hW.mono HB27.out.size))) HT3.out (fun _ _ _ _ _ h => h) ?_
                intro W28 t125 t126 t127 t128 t129 t130 t131 t132 t133 t134 t135 t136 t137 hb28
                have HB28 := hidI (HB27.out.drew.trans (hb28.mono HB27.out.size))
                clear hb28
                have kT : (T == T) = true := by simp
                have kT2 : (T != T) = false := by simp
                go_wp2
                go_roundg g2
                case measure => omega
                case rel => exact ⟨t + 1, by omega, by go_num, HB28⟩
              · have ho17 : ¬ o = 17 := fun h => h3 (hor.1 h)
                have ko : ((o : Int) == 17) = false := by simp; omega
                have hwz : z = ws := by rw [← hws]; unfold wasOf; rw [if_neg h3]
                subst hwz
                have H3 := hidI h3
                clear h3 hws hor ho17 a1
                go_wp2
                refine regT26 (ob := B) (oo := 0) (L := 5) (tg := tg) (o := o) (was := z) (to := (t : Int)) (T := T) (E := 0) (lv := v8) (ys := ms.filter fun m => m.to == (t : Int)) (HCo.out _ (Below.refl _ wr).drew) (by omega) (fun W hW => HF1.out W (HBy.out.drew.trans (hW.mono HBy.out.size))) HT1.out (fun _ _ _ _ _ h => h) ?_
                intro W26 t99 t100 t101 t102 t103 t104 t105 t106 t107 t108 t109 t110 t111 hb26
                have HN26 := hidI (((Below.refl _ wr).drew).trans hb26)
                have HB26 := hidI (HBy.out.drew.trans (hb26.mono HBy.out.size))
                clear hb26
                go_wp2
                refine regT27 (ob := B) (oo := 0) (L := 5) (tg := tg) (o := o) (was := z) (to := (t : Int)) (T := T) (E := 0) (lv := v3) (ys := (turnM k ms).filter fun m => m.to == (t : Int)) (HCo.out _ HN26.out.drew) (by omega) (fun W hW => HF2.out W (HB26.out.drew.trans (hW.mono HB26.out.size))) HT2.out (fun _ _ _ _ _ h => h) ?_
                intro W27 t112 t113 t114 t115 t116 t117 t118 t119 t120 t121 t122 t123 t124 hb27
                have HN27 := hidI (HN26.out.drew.trans (hb27.mono HN26.out.size))
                have HB27 := hidI (HB26.out.drew.trans (hb27.mono HB26.out.size))
                clear hb27
                go_wp2
                refine regT28 (ob := B) (oo := 0) (L := 5) (tg := tg) (o := o) (was := z) (to := (t : Int)) (T := T) (E := 0) (lv := v4) (ys := cs.filter fun m => m.to == (t : Int)) (HCo.out _ HN27.out.drew) (by omega) (fun W hW => HF3.out W (HB27.out.drew.trans (hW.mono HB27.out.size))) HT3.out (fun _ _ _ _ _ h => h) ?_
                intro W28 t125 t126 t127 t128 t129 t130 t131 t132 t133 t134 t135 t136 t137 hb28
                have HB28 := hidI (HB27.out.drew.trans (hb28.mono HB27.out.size))
                clear hb28
                have kT : (T == T) = true := by simp
                have kT2 : (T != T) = false := by simp
                go_wp2
                go_roundg g2
                case measure => omega
                case rel => exact ⟨t + 1, by omega, by go_num, HB28⟩
    | succ g =>
      have k1 : (i : Int) < (n : Int) := by omega
      obtain ⟨x, hx⟩ : ∃ x, xs[i]? = some x := ⟨_, List.getElem?_eq_getElem (by have := HN.out; omega)⟩
      have HBw := hidI (HB1.out.trans (HBx.out.mono (by have := HSz.out; omega)))
      obtain ⟨b1, o1, c1, e1, x0, x1, x2⟩ := HV.out.cell hx
      rw [HN.out] at e1
      cases e1
      have kk : ∀ {p : Addr} {v : Value}, w.cell? p = some v → wr.cell? p = some v := fun {p v} hc => (HBw.out.cell (by have := World.block_lt_of_cell? w _ hc; rw [HBB.out] at this; exact this)).trans hc
      replace x0 := kk x0
      replace x1 := kk x1
      replace x2 := kk x2
      clear kk
      have HTK : Hid ((xs.take (i + 1)).map nrm = (xs.take i).map nrm ++ [nrm x]) := hidI (by rw [List.take_add_one, hx]; simp)
      clear hx
      obtain ⟨xt, xg, xv⟩ := x
      simp only at x0 x1 x2
      obtain ⟨q, hq⟩ : ∃ q : Nat, xg % 4 = (q : Int) := ⟨(xg % 4).toNat, by omega⟩
      have hq4 : q < 4 := by omega
      have a3 : bits .and .i64 xg 3 = (q : Int) := by rw [and3, hq]
      have a1 := and1 xv
      obtain ⟨o, ho⟩ : ∃ o, ops5[q]? = some o := ⟨_, List.getElem?_eq_getElem (by simp [ops5]; omega)⟩
      have hor := ops5_or hq4 ho
      obtain ⟨ob, oo, oc, eo, oc0⟩ := (HO1.out.below HBx.out (Nat.le_refl _)).cell ho
      simp only [ops5, List.length_cons, List.length_nil, Value.slice.injEq, Option.some.injEq, Addr.mk.injEq, and_true, true_and] at eo
      obtain ⟨⟨rfl, rfl⟩, rfl⟩ := eo
      rw [Nat.zero_add] at oc0
      have hBlt : B < wr.heap.size := World.block_lt_of_cell? wr _ oc0
      have kq : (q : Int) < 5 := by omega
      by_cases h3 : q = 3
      · have ho17 := hor.2 h3
        have HNR : nrm ⟨xt, xg, xv⟩ = ⟨xt, 3, xv % 2⟩ := by unfold nrm; simp only [hq, h3]; rfl
        subst h3
        subst ho17
        have a3' : bits .and .i64 xg 3 = 3 := a3
        clear hor ho a3 hq kq
        have HNr : Hid (nrm ⟨xt, xg, xv⟩ = ⟨xt, 3, xv % 2⟩) := hidI HNR
        clear HNR
        have HOA := hidI (World.ownsRow.alloc (World.ownsRow.alloc HO.out (.cells #[.int .i64 xt, .int .i64 3, .int .i64 (xv % 2)] 48)) (.cells #[.int .i64 xt, .int .i64 3, .int .i64 (xv % 2)] 48))
        have HSM := hidI (msg_seen (W := wr.alloc (.cells #[.int .i64 xt, .int .i64 3, .int .i64 (xv % 2)] 48)) ⟨xt, 3, (xv % 2)⟩)
        simp only [World.size_alloc] at HSM
        go_wp2_with (at_builtin; go_must (refine wpList_append_any Try.underlying22 Try.info48 rfl (by decide) (by decide) rfl _ _ rfl w1.heap.size _ i _ rfl HOA.out _ 1 (Msg.cells ⟨xt, 3, (xv % 2)⟩) rfl HSM.out (cells_one _) (by omega) (by simp; omega) ?_); intro v9 w9 hown9 hgrow9 _; refine Hid.out ?_)
        refine hidI ?_
        have HB9 : Hid (Below w1.heap.size w1 w9) := hidI (Below.grown ((HBx.out.alloc hszx _).alloc (by simp; omega) _) hgrow9 (by simp; omega) (fun k hk => (HOA.out.lt k hk).1))
        have HO9 : Hid (w9.ownsRow w1.heap.size 48 3 v9 (i + 1) (flatM ((xs.take (i + 1)).map nrm))) := hidI (by
          rw [HTK.out, HNr.out, flatM_append, flatM_one]
          exact hown9)
        clear hown9 hgrow9 HOA HSM
        go_wp2
        go_roundg g
        case measure => omega
        case rel => exact ⟨i + 1, v9, by omega, rfl, by go_num, HO9, HB9⟩
      · have ho17 : ¬ o = 17 := fun h => h3 (hor.1 h)
        have ko : ((o : Int) == 17) = false := by simp; omega
        have HNR : nrm ⟨xt, xg, xv⟩ = ⟨xt, (q : Int), xv⟩ := by unfold nrm; simp only [hq]; rw [if_neg (by omega)]
        have H3 := hidI h3
        clear hor ho hq h3 ho17 a1
        have HNr : Hid (nrm ⟨xt, xg, xv⟩ = ⟨xt, (q : Int), xv⟩) := hidI HNR
        clear HNR
        have HOA := hidI (World.ownsRow.alloc (World.ownsRow.alloc HO.out (.cells #[.int .i64 xt, .int .i64 (q : Int), .int .i64 xv] 48)) (.cells #[.int .i64 xt, .int .i64 (q : Int), .int .i64 xv] 48))
        have HSM := hidI (msg_seen (W := wr.alloc (.cells #[.int .i64 xt, .int .i64 (q : Int), .int .i64 xv] 48)) ⟨xt, (q : Int), xv⟩)
        simp only [World.size_alloc] at HSM
        go_wp2_with (at_builtin; go_must (refine wpList_append_any Try.underlying22 Try.info48 rfl (by decide) (by decide) rfl _ _ rfl w1.heap.size _ i _ rfl HOA.out _ 1 (Msg.cells ⟨xt, (q : Int), xv⟩) rfl HSM.out (cells_one _) (by omega) (by simp; omega) ?_); intro v9 w9 hown9 hgrow9 _; refine Hid.out ?_)
        refine hidI ?_
        have HB9 : Hid (Below w1.heap.size w1 w9) := hidI (Below.grown ((HBx.out.alloc hszx _).alloc (by simp; omega) _) hgrow9 (by simp; omega) (fun k hk => (HOA.out.lt k hk).1))
        have HO9 : Hid (w9.ownsRow w1.heap.size 48 3 v9 (i + 1) (flatM ((xs.take (i + 1)).map nrm))) := hidI (by
          rw [HTK.out, HNr.out, flatM_append, flatM_one]
          exact hown9)
        clear hown9 hgrow9 HOA HSM
        go_wp2
        go_roundg g
        case measure => omega
        case rel => exact ⟨i + 1, v9, by omega, rfl, by go_num, HO9, HB9⟩
theorem mailOrder_walk {w : World} (v : Value) (xs : List Msg) (hv : SeesM w v xs) (hi : ∀ x ∈ xs, x.inr) (k : Nat) (hk : k < 18446744073709551616) (z : Int) (_ : In64 z) :
    Calls Try.prog 7 #[v, .int .u64 k, .int .i64 z] w fun e w' => e = .returned (.bool true) ∧ Below w.heap.size w w' := mailOrder_law w v xs hv hi k hk z
end Go.Proofs.Ytdfieflcclbgjaa
