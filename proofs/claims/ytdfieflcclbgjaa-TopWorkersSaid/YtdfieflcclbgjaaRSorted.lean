/-
  The document's Sorted.
-/
import Derived.Test.YtdfieflcclbgjaaRegS
import Derived.Test.YtdfieflcclbgjaaRSortP
namespace Go.Proofs.Ytdfieflcclbgjaa
open Go.RowKit Go.Deep Go.MapKept Go.Sort
set_option maxRecDepth 100000 in
set_option maxHeartbeats 2000000 in
theorem rsorted_any (w : World) (v : Value) (xs : List Msg) (hv : SeesM w v xs) (hl : xs.length ≤ 900) :
    Calls Try.prog 13 #[v] w fun e w' => ∃ v', e = .returned v' ∧ SeesM w' v' (sortM xs) ∧ Below w.heap.size w w' := by
  obtain ⟨a, cap, rfl, hcap, hL⟩ := hv
  have HV : Hid (SeesM w (.slice a xs.length cap) xs) := hidI ⟨a, cap, rfl, hcap, hL⟩
  clear hL hcap
  obtain ⟨k, hk⟩ : ∃ k, xs.length = k := ⟨_, rfl⟩
  have HK := hidI hk
  rw [hk] at hl HV ⊢
  clear hk
  go_enter Try.func13, Try.ntmps13
  go_wp2
  go_loopg [3, 4] k (fun g s3 s4 wx => ∃ (i : Nat) (oa : Option Addr) (oc : Nat), i + g = k ∧ s3 = .slice oa i oc ∧ s4 = .int .i64 i ∧ Hid (Below w.heap.size w wx) ∧ Hid (SeesM wx (.slice oa i oc) ((xs.take i).foldl insM [])))
  case atStart => exact ⟨0, none, 0, by omega, rfl, rfl, hidI (Below.refl _ _), hidI SeesM.nil⟩
  case round =>
    obtain ⟨i, oa, oc, hig, rfl, rfl, HB, HS⟩ := hrel
    cases gk with
    | zero =>
      obtain rfl : k = i := by omega
      have k1 : decide ((k : Int) < (k : Int)) = false := by simp
      go_wp2
      go_ret
      have h := HS.out
      rw [List.take_of_length_le (by have := HK.out; omega)] at h
      exact ⟨_, rfl, h, HB.out⟩
    | succ g =>
      have k1 : (i : Int) < (k : Int) := by omega
      obtain ⟨x, hx⟩ : ∃ x, xs[i]? = some x := ⟨_, List.getElem?_eq_getElem (by have := HK.out; omega)⟩
      obtain ⟨b1, o1, c1, e1, x0, x1, x2⟩ := HV.out.cell hx
      rw [HK.out] at e1
      cases e1
      have HX0 : Hid (∀ y, Below w.heap.size w y → y.cell? ⟨b1, o1 + i * 3, none⟩ = some (.int .i64 x.to) ∧ y.cell? ⟨b1, o1 + i * 3 + 1, none⟩ = some (.int .i64 x.tag) ∧ y.cell? ⟨b1, o1 + i * 3 + 2, none⟩ = some (.int .i64 x.val)) := hidI fun y hy => by
        have kk : ∀ {p : Addr} {v : Value}, w.cell? p = some v → y.cell? p = some v := fun {p v} hc => (hy.cell (World.block_lt_of_cell? w _ hc)).trans hc
        exact ⟨kk x0, kk x1, kk x2⟩
      have HTK : Hid ((xs.take (i + 1)).foldl insM [] = insM ((xs.take i).foldl insM []) x) := hidI (by rw [List.take_add_one, hx]; simp)
      clear hx x0 x1 x2
      obtain ⟨os, hos⟩ : ∃ os, (xs.take i).foldl insM [] = os := ⟨_, rfl⟩
      have hlen : os.length = i := by rw [← hos, sort_take_length, List.length_take]; have := HK.out; simp; omega
      have HLN := hidI hlen
      rw [hos] at HS HTK
      clear hos hlen
      obtain ⟨p, hp⟩ : ∃ p, placeM os x = p := ⟨_, rfl⟩
      have hpi : p ≤ i := by rw [← hp, ← HLN.out]; exact placeM_le os x
      have HLT : Hid (∀ j, j < p → ∃ u, os[j]? = some u ∧ bef x u = false) := hidI fun j hj => placeM_lt (by rw [hp]; exact hj)
      have HAT : Hid (∀ u, os[p]? = some u → bef x u = true) := hidI fun u hu => placeM_at (by rw [hp]; exact hu)
      have HIN : Hid (insM os x = os.take p ++ [x] ++ os.drop p) := hidI (by unfold insM; rw [hp])
      clear hp
      obtain ⟨wq, hwq⟩ : ∃ wq : World, wq = wr := ⟨wr, rfl⟩
      subst hwq
      have hoc : i ≤ oc := by obtain ⟨_, _, he, hc, _⟩ := HS.out; rw [HLN.out] at he hc; cases he; exact hc
      go_wp2
      go_loopg [5] p (fun g2 s5 wz => ∃ j : Nat, j + g2 = p ∧ s5 = .int .i64 j ∧ Hid (Below wq.heap.size wq wz))
      case atStart => exact ⟨0, by omega, rfl, hidI (Below.refl _ _)⟩
      case round =>
        obtain ⟨j, hjg, rfl, HZ⟩ := hrel
        have HWZ := hidI (HB.out.trans (HZ.out.mono HB.out.size))
        cases gk with
        | zero =>
          obtain rfl : p = j := by omega
          by_cases hpe : p = i
          · have k2 : decide ((p : Int) < (i : Int)) = false := by rw [decide_eq_false_iff_not]; omega
            have k3 : decide (p < i) = false := by rw [decide_eq_false_iff_not]; omega
            have HPE := hidI hpe
            clear hpe
            go_wp2
            refine wp_region_quiet_below (by kernel_rfl) (by kernel_rfl) ?_
            repeat (first | go_big_quiet_step (fail) | quiet_step (fail))
            refine wpQuiet_nil ?_
            intro _ hw'
            obtain ⟨⟨dq, osq⟩, hw''⟩ := hw'
            subst hw''
            have HW7 := hidI (HZ.out.trans ((below_regrown wr dq osq).mono HZ.out.size))
            generalize grow (redrawn wr dq) osq = w7 at *
            have HW8 := hidI (HB.out.trans (HW7.out.mono HB.out.size))
            have HC8 := hidI (seesC_of_M (HS.out.below HW7.out (Nat.le_refl _)))
            rw [HLN.out] at HC8
            go_wp2
            refine regS (x := x) (m := k) (n := i) (p := p) (cs := flatM os) (HX0.out _ HW8.out.drew) (by omega) hpi hoc (HC8.out.below (Below.refl _ _).drew (Nat.le_refl _)) flatM_cells (by omega) (fun _ _ _ _ _ h => h) ?_
            intro W v9 t30 t31 t32 t33 t34 t35 t36 t37 t38 t39 t40 t41 t42 t43 t44 hb9 ho9
            have e9 : flatM (insM os x) = (flatM os).take (p * 3) ++ x.cells ++ (flatM os).drop (p * 3) := by rw [HIN.out, flatM_append, flatM_append, flatM_one, flatM_take, flatM_drop]
            rw [← e9] at ho9
            have hs9 := seesM_of_owns ho9
            rw [← HTK.out] at hs9
            obtain ⟨a9, c9, hv9, _⟩ := own_cap ho9
            have hn9 : p + 1 + (i - p) = i + 1 := by omega
            rw [hn9] at hv9
            subst hv9
            have HS9 := hidI hs9
            have HB9 : Hid (Below w.heap.size w W) := hidI (HW8.out.trans (Below.trans (Below.mono (Below.refl _ _).drew HW8.out.size) (hb9.mono HW8.out.size)))
            clear hb9 ho9 e9 hs9 hn9 HC8
            go_wp2
            go_roundg g
            case measure => omega
            case rel => exact ⟨i + 1, a9, c9, by omega, rfl, by go_num, HB9, HS9⟩
          · have k2 : (p : Int) < (i : Int) := by omega
            obtain ⟨u, hu⟩ : ∃ u, os[p]? = some u := ⟨_, List.getElem?_eq_getElem (by have := HLN.out; omega)⟩
            have hbu := HAT.out u hu
            obtain ⟨b2, o2, c2, e2, y0, y1, y2⟩ := HS.out.cell hu
            rw [HLN.out] at e2
            cases e2
            have kk : ∀ {p : Addr} {v : Value}, wq.cell? p = some v → ∀ d os, (grow (redrawn wr d) os).cell? p = some v := fun {p v} hc d os => cell_regrown ((HZ.out.cell (World.block_lt_of_cell? wq _ hc)).trans hc) d os
            replace y0 := kk y0
            replace y1 := kk y1
            replace y2 := kk y2
            obtain ⟨x0, x1, x2⟩ := HX0.out wr HWZ.out
            replace x0 := fun d os => cell_regrown x0 d os
            replace x1 := fun d os => cell_regrown x1 d os
            replace x2 := fun d os => cell_regrown x2 d os
            have CC : Hid (∀ d os, Calls Try.prog 36 #[.agg #[.int .i64 x.to, .int .i64 x.tag, .int .i64 x.val], .agg #[.int .i64 u.to, .int .i64 u.tag, .int .i64 u.val]] (grow (redrawn wr d) os) fun ed w'' => ed = .returned (.bool true) ∧ ∃ p : Regrown, w'' = grow (redrawn wr p.d) p.os) := hidI fun d os => Calls.regrown_of (hbu ▸ before_any x u _)
            clear kk hu hbu
            go_wp2
            refine wp_region_quiet_below (by kernel_rfl) (by kernel_rfl) ?_
            repeat (first | go_big_quiet_step ((go_at_call 36; exact CC.out _ _)) | quiet_step ((go_at_call 36; exact CC.out _ _)))
            refine wpQuiet_nil ?_
            intro _ hw'
            obtain ⟨⟨dq, osq⟩, hw''⟩ := hw'
            subst hw''
            have HW7 := hidI (HZ.out.trans ((below_regrown wr dq osq).mono HZ.out.size))
            generalize grow (redrawn wr dq) osq = w7 at *
            clear x0 x1 x2 y0 y1 y2 CC
            have HW8 := hidI (HB.out.trans (HW7.out.mono HB.out.size))
            have HC8 := hidI (seesC_of_M (HS.out.below HW7.out (Nat.le_refl _)))
            rw [HLN.out] at HC8
            go_wp2
            refine regS (x := x) (m := k) (n := i) (p := p) (cs := flatM os) (HX0.out _ HW8.out.drew) (by omega) hpi hoc (HC8.out.below (Below.refl _ _).drew (Nat.le_refl _)) flatM_cells (by omega) (fun _ _ _ _ _ h => h) ?_
            intro W v9 t30 t31 t32 t33 t34 t35 t36 t37 t38 t39 t40 t41 t42 t43 t44 hb9 ho9
            have e9 : flatM (insM os x) = (flatM os).take (p * 3) ++ x.cells ++ (flatM os).drop (p * 3) := by rw [HIN.out, flatM_append, flatM_append, flatM_one, flatM_take, flatM_drop]
            rw [← e9] at ho9
            have hs9 := seesM_of_owns ho9
            rw [← HTK.out] at hs9
            obtain ⟨a9, c9, hv9, _⟩ := own_cap ho9
            have hn9 : p + 1 + (i - p) = i + 1 := by omega
            rw [hn9] at hv9
            subst hv9
            have HS9 := hidI hs9
            have HB9 : Hid (Below w.heap.size w W) := hidI (HW8.out.trans (Below.trans (Below.mono (Below.refl _ _).drew HW8.out.size) (hb9.mono HW8.out.size)))
            clear hb9 ho9 e9 hs9 hn9 HC8
            go_wp2
            go_roundg g
            case measure => omega
            case rel => exact ⟨i + 1, a9, c9, by omega, rfl, by go_num, HB9, HS9⟩
        | succ g2 =>
          have k2 : (j : Int) < (i : Int) := by omega
          obtain ⟨u, hu, hbu⟩ := HLT.out j (by omega)
          obtain ⟨b2, o2, c2, e2, y0, y1, y2⟩ := HS.out.cell hu
          rw [HLN.out] at e2
          cases e2
          have kk : ∀ {p : Addr} {v : Value}, wq.cell? p = some v → ∀ d os, (grow (redrawn wr d) os).cell? p = some v := fun {p v} hc d os => cell_regrown ((HZ.out.cell (World.block_lt_of_cell? wq _ hc)).trans hc) d os
          replace y0 := kk y0
          replace y1 := kk y1
          replace y2 := kk y2
          obtain ⟨x0, x1, x2⟩ := HX0.out wr HWZ.out
          replace x0 := fun d os => cell_regrown x0 d os
          replace x1 := fun d os => cell_regrown x1 d os
          replace x2 := fun d os => cell_regrown x2 d os
          have CC : Hid (∀ d os, Calls Try.prog 36 #[.agg #[.int .i64 x.to, .int .i64 x.tag, .int .i64 x.val], .agg #[.int .i64 u.to, .int .i64 u.tag, .int .i64 u.val]] (grow (redrawn wr d) os) fun ed w'' => ed = .returned (.bool false) ∧ ∃ p : Regrown, w'' = grow (redrawn wr p.d) p.os) := hidI fun d os => Calls.regrown_of (hbu ▸ before_any x u _)
          clear kk hu hbu
          go_wp2
          refine wp_region_quiet_below (by kernel_rfl) (by kernel_rfl) ?_
          repeat (first | go_big_quiet_step ((go_at_call 36; exact CC.out _ _)) | quiet_step ((go_at_call 36; exact CC.out _ _)))
          refine wpQuiet_nil ?_
          intro _ hw'
          obtain ⟨⟨dq, osq⟩, hw''⟩ := hw'
          subst hw''
          have HW7 := hidI (HZ.out.trans ((below_regrown wr dq osq).mono HZ.out.size))
          generalize grow (redrawn wr dq) osq = w7 at *
          clear x0 x1 x2 y0 y1 y2 CC
          go_wp2
          go_roundg g2
          case measure => omega
          case rel => exact ⟨j + 1, by omega, by go_num, HW7⟩
end Go.Proofs.Ytdfieflcclbgjaa
