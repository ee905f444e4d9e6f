/-
  The call of the law TopTaken.
-/
import Derived.Test.YtcaecfmjnboamabTakes
import Derived.Test.YtcaecfmjnboamabUndo
namespace Go.Proofs.Ytcaecfmjnboamab
open Go.RowKit Go.Deep
theorem taken_none (o : Nat) (ho : ¬ many5 o) (v : Value) (k : Nat) (w : World) :
    Calls Try.prog 8 #[.int .u8 o, v, .int .u64 k] w fun e w' => e = .returned (.bool true) ∧ Below w.heap.size w w' := by
  have C : Hid _ := red_none o ho w
  have C1 : Hid _ := red1 w
  go_enter Try.func8, Try.ntmps8
  go_wp2_with (go_at_call 29; refine Calls.mono C.out ?_; rintro e w1 ⟨rfl, rfl⟩; refine Hid.out ?_)
  refine hidI ?_
  go_wp2_with (go_at_call 29; refine Calls.mono C1.out ?_; rintro e w1 ⟨rfl, rfl⟩)
  go_ret
  exact ⟨rfl, Below.refl _ _⟩
def places (m : Nat) : List Int := (List.range m).map (fun j : Nat => (j : Int))
theorem places_len (m : Nat) : (places m).length = m := by simp [places]
theorem places_get {m j : Nat} (h : j < m) : (places m).getD j 0 = (j : Int) := by simp [places, List.getD, h]
theorem places_succ (m : Nat) : places (m + 1) = places m ++ [(m : Int)] := by unfold places; rw [List.range_succ, List.map_append]; rfl
theorem turn_places {p : List Int} (h : rightB p = true) : turnL p (places p.length) = p := by
  refine list_ext (turnL_length _ _) fun i hi => ?_
  rw [turnL_length] at hi
  obtain ⟨q, e, hq⟩ := rightB_range h i hi
  rw [turnL_get _ hi, e, Int.toNat_natCast, places_get hq]
theorem fold_take {f : Int → Int → Int} {l : List Int} {i : Nat} (h : i < l.length) (a : Int) : (l.take (i + 1)).foldl f a = f ((l.take i).foldl f a) (l.getD i 0) := by
  rw [List.take_succ_eq_append_getElem h, List.foldl_append, show l.getD i 0 = l[i] by simp [List.getD, h]]
  rfl
theorem sees_at {w : World} {v : Value} {zs : List Int} (h : Sees w v zs) (hp : 0 < zs.length) : ∃ b off c, v = .slice (some ⟨b, off, none⟩) zs.length c ∧ ∀ j, j < zs.length → w.cell? ⟨b, off + j, none⟩ = some (.int .i64 (zs.getD j 0)) := by
  obtain ⟨a, cap, rfl, _, h⟩ := h
  rcases h with rfl | ⟨b, off, rfl, hc⟩
  · simp at hp
  · exact ⟨b, off, cap, rfl, hc⟩
/-- The number at a place, as it is taken in. -/
def at1 (zs : List Int) (b : Bool) (j : Int) : Int := if b then bits .and .i64 (zs.getD j.toNat 0) 1 else zs.getD j.toNat 0
set_option maxHeartbeats 4000000 in
theorem taken_walk (o : Nat) (ho : many5 o) (v : Value) (zs : List Int) (k : Nat) (hk : k < 18446744073709551616) (w : World) (hv : Sees w v zs) :
    Calls Try.prog 8 #[.int .u8 o, v, .int .u64 k] w fun e w' => e = .returned (.bool true) ∧ Below w.heap.size w w' := by
  obtain ⟨i3, hi, hz0, hz1, hz2⟩ := info_parts info3
  obtain ⟨f0, hf0⟩ : ∃ f0, opFirst o = f0 := ⟨_, rfl⟩
  have C : Hid _ := red_many o ho w
  rw [hf0] at C
  clear hf0
  obtain ⟨op, hop⟩ : ∃ op : Int → Int → Int, opTwo o = op := ⟨_, rfl⟩
  have CD : Hid (∀ x y w, _) := fun x y w => do_new o ho x y w
  have HO : Hid _ := fun (F : Int → Int) (f0 : Int) {p q : List Int} (h : p.Perm q) => fold_turns o ho F f0 h
  rw [hop] at CD HO
  clear hop
  obtain ⟨bb, hbb⟩ : ∃ bb : Bool, (decide (o = 16) || decide (o = 17)) = bb := ⟨_, rfl⟩
  obtain ⟨ad, cap, rfl, hlen, hs⟩ := hv
  obtain ⟨m, hm⟩ : ∃ m, min zs.length 16 = m := ⟨_, rfl⟩
  have hml : m ≤ zs.length := by omega
  have hm16 : m ≤ 16 := by omega
  have HMM : Aside (m = zs.length ∨ m = 16) := by show _ ∨ _; omega
  have HBB : Aside _ := hbb
  have HS : Hid _ := hs
  clear hm hbb hs ho
  obtain ⟨n, hn⟩ : ∃ n, zs.length = n := ⟨_, rfl⟩
  have HN : Hid (zs.length = n) := hn
  rw [hn] at HMM hml hlen
  rw [hn]
  clear hn
  go_enter Try.func8, Try.ntmps8
  go_wp2_with (go_at_call 29; refine Calls.mono C.out ?_; rintro e w1 ⟨rfl, rfl⟩)
  clear C
  go_loopg [11, 12] m (fun g s11 s12 wx => ∃ (i : Nat), i + g = m ∧ s12 = .int .i64 i ∧ wx.ownsRow w.heap.size 3 1 s11 i ((places i).map (Value.int .i64)) ∧ Below w.heap.size w wx)
  case atStart => exact ⟨0, by omega, rfl, World.ownsRow_nil _ _ _ _, Below.refl _ _⟩
  case round =>
    obtain ⟨i, hig, rfl, hown, hb⟩ := hrel
    cases gk with
    | succ g =>
      have hlt : (i : Int) < (n : Int) := by omega
      have hlt' : (i : Int) < 16 := by omega
      have HT : Hid _ := places_succ i
      go_wp2_with (at_builtin; refine wpList_append_own _ rfl _ _ 23 rfl w.heap.size 3 i3 (.int .i64 0) 1 8 Try.underlying23 hi hz0 hz1 hz2 rfl (by decide) _ _ _ rfl (hown.alloc _) ⟨wr.heap.size, 0, none⟩ 1 1 [.int .i64 i] rfl rfl (cell_one_new _ _ _) (by intro u hu; simp at hu; subst hu; rfl) (by unfold maxLen; omega) (by omega) (by have := hb.size; simp; omega) ?_; intro v6 w6 hown6 hg6 hnl; clear hnl; refine Hid.out ?_)
      refine hidI ?_
      have hown6' : w6.ownsRow w.heap.size 3 1 v6 (i + 1) ((places (i + 1)).map (Value.int .i64)) := by rw [HT.out, List.map_append]; exact hown6
      have hb6 : Below w.heap.size w w6 := (hb.alloc hb.size _).grown hg6 (by have := hb.size; simp; omega) (fun q hq => (hown.lt q hq).1)
      clear hown hown6 hg6 hb
      go_wp2
      go_roundg g
      case measure => omega
      case rel => exact ⟨i + 1, by omega, by go_num, hown6', hb6⟩
    | zero =>
      have him : i = m := by omega
      subst him
      have hSp : Sees wr u11 (places i) := sees_own hown (by omega)
      clear hown
      obtain ⟨pa, pc, hue⟩ : ∃ pa pc, u11 = .slice pa i pc := by obtain ⟨a, c, h, _⟩ := hSp; rw [places_len] at h; exact ⟨a, c, h⟩
      subst hue
      have HSP : Hid (Sees wr (.slice pa i pc) (places i)) := hSp
      clear hSp
      have CF : Hid (∀ w : World, _) := fun w => from_ok i k w hm16 hk
      by_cases hil : i = n
      · subst hil
        go_wp2_with (go_at_call 9; refine Calls.mono (CF.out _) ?_; rintro e w1 ⟨vp, p, rfl, hpl, hpr, hSq, hb1⟩; refine Hid.out ?_)
        refine hidI ?_
        have HR : Hid (rightB p = true) := hpr
        have CT : Hid _ := turn_ok vp (.slice pa i pc) p (places i) w1 hSq (Sees.below HSP.out hb1 (Nat.le_refl _)) hpr (by rw [places_len, hpl])
        have HSP1 : Hid (Sees w1 (.slice pa i pc) (places i)) := Sees.below HSP.out hb1 (Nat.le_refl _)
        have hbw : Below w.heap.size w w1 := hb.trans (hb1.mono hb.size)
        have HTP : Hid (turnL p (places i) = p) := by show _ = _; rw [← hpl]; exact turn_places hpr
        clear hSq hb1 hpr hb HSP
        go_wp2_with (go_at_call 20; refine Calls.mono CT.out ?_; rintro e w2 ⟨vt, rfl, hSt, hb2⟩; refine Hid.out ?_)
        refine hidI ?_
        rw [HTP.out] at hSt
        have HSP2 : Hid (Sees w2 (.slice pa i pc) (places i)) := Sees.below HSP1.out hb2 (Nat.le_refl _)
        have hbw2 : Below w.heap.size w w2 := hbw.trans (hb2.mono hbw.size)
        obtain ⟨ta, tc, hte⟩ : ∃ ta tc, vt = .slice ta i tc := by obtain ⟨a, c, h, _⟩ := hSt; rw [hpl] at h; exact ⟨a, c, h⟩
        subst hte
        have HST : Hid (Sees w2 (.slice ta i tc) p) := hSt
        have HSZ : Hid (Sees w2 (.slice ad i cap) zs) := Sees.below (w := w) ⟨ad, cap, by rw [HN.out], by rw [HN.out]; exact hlen, HS.out⟩ hbw2 (Nat.le_refl _)
        clear hSt hb2 hbw CT HSP1 HTP CF HS
        go_wp2
        go_loopg [17, 18, 19] i (fun g s17 s18 s19 wx => ∃ (t : Nat) (a b : Int), t + g = i ∧ s19 = .int .i64 t ∧ s17 = .int .i64 a ∧ s18 = .int .i64 b ∧ Aside (a = ((places i).take t).foldl (fun a j => op a (at1 zs bb j)) f0) ∧ Aside (b = (p.take t).foldl (fun a j => op a (at1 zs bb j)) f0) ∧ Below w2.heap.size w2 wx)
        case atStart => exact ⟨0, f0, f0, by omega, rfl, rfl, rfl, rfl, rfl, Below.refl _ _⟩
        case round =>
          obtain ⟨t, a, b, htg, rfl, rfl, rfl, HA, HB, hb⟩ := hrel
          cases gk with
          | zero =>
            have hti : t = i := by omega
            have q : (a == b) = true := by
              have h1 := HA.out
              have h2 := HB.out
              rw [hti, List.take_of_length_le (by rw [places_len]; exact Nat.le_refl _)] at h1
              rw [hti, List.take_of_length_le (by omega)] at h2
              have h3 := HO.out (at1 zs bb) f0 (perm_range HR.out)
              rw [hpl] at h3
              rw [h1, h2]
              simp only [beq_iff_eq]
              exact h3.symm
            have hbf : Below w.heap.size w wr := hbw2.trans (hb.mono hbw2.size)
            subst hti
            go_wp2
            go_ret
            exact ⟨rfl, hbf⟩
          | succ g =>
            have hti : t < i := by omega
            have htI : (t : Int) < (i : Int) := by omega
            have htn : (t : Int) < (i : Int) := by omega
            obtain ⟨qn, hqe, hql⟩ := rightB_range HR.out t (by omega)
            rw [hpl] at hql
            have hqn : (qn : Int) < (i : Int) := by omega
            have hzl := HN.out
            have hZ := sees_at (Sees.below HSZ.out hb (Nat.le_refl _)) (show 0 < zs.length by omega)
            obtain ⟨zb, zoff, zc, hze, hzc⟩ := hZ
            have hP := sees_at (Sees.below HSP2.out hb (Nat.le_refl _)) (show 0 < (places i).length by rw [places_len]; omega)
            obtain ⟨pb, poff, pc', hpe, hpc⟩ := hP
            have hT := sees_at (Sees.below HST.out hb (Nat.le_refl _)) (show 0 < p.length by omega)
            obtain ⟨tb, toff, tc', hte, htc⟩ := hT
            rw [hzl] at hze
            rw [places_len] at hpe
            rw [hpl] at hte
            cases hze
            cases hpe
            cases hte
            have c1 : wr.cell? ⟨pb, poff + t, none⟩ = some (.int .i64 (t : Int)) := by rw [hpc t (by rw [places_len]; exact hti), places_get hti]
            have c2 : wr.cell? ⟨tb, toff + t, none⟩ = some (.int .i64 (qn : Int)) := by rw [htc t (by omega), hqe]
            obtain ⟨x, hx⟩ : ∃ x, zs.getD t 0 = x := ⟨_, rfl⟩
            obtain ⟨y, hy⟩ : ∃ y, zs.getD qn 0 = y := ⟨_, rfl⟩
            have c3 : wr.cell? ⟨zb, zoff + t, none⟩ = some (.int .i64 x) := by rw [hzc t (by omega), hx]
            have c4 : wr.cell? ⟨zb, zoff + qn, none⟩ = some (.int .i64 y) := by rw [hzc qn (by omega), hy]
            have HA' : Aside (((places i).take (t + 1)).foldl (fun a j => op a (at1 zs bb j)) f0 = op a (if bb then bits .and .i64 x 1 else x)) := by
              show _ = _
              rw [fold_take (by rw [places_len]; exact hti), ← HA.out, places_get hti, ← hx]
              rfl
            have HB' : Aside ((p.take (t + 1)).foldl (fun a j => op a (at1 zs bb j)) f0 = op b (if bb then bits .and .i64 y 1 else y)) := by
              show _ = _
              rw [fold_take (by omega), ← HB.out, hqe, ← hy]
              rfl
            clear hzc hpc htc hqe hx hy hzl HA HB
            go_wp2
            go_region
            have hbd := hb.drew
            generalize wr.drew = wd at hbd ⊢
            clear c1 c2 c3 c4 hb
            by_cases h16 : o = 16
            · have q16 : ((o : Int) == 16) = true := by simp [h16]
              have hbt : bb = true := by rw [← HBB.out, h16]; rfl
              subst hbt
              clear h16
              go_wp2_with (go_at_call 30; refine Calls.mono (CD.out _ _ wd) ?_; rintro e wn ⟨rfl, hbn⟩; refine Hid.out ?_)
              refine hidI ?_
              have hbe := hbd.trans (hbn.mono hbd.size)
              clear hbn
              go_wp2_with (go_at_call 30; refine Calls.mono (CD.out _ _ wn) ?_; rintro e wm ⟨rfl, hbn⟩; refine Hid.out ?_)
              refine hidI ?_
              have hbf := hbe.trans (hbn.mono hbe.size)
              clear hbn
              go_wp2
              go_roundg g
              case measure => omega
              case rel => exact ⟨t + 1, _, _, by omega, by go_num, rfl, rfl, HA'.out.symm, HB'.out.symm, hbf⟩
            · have q16 : ((o : Int) == 16) = false := by simp; omega
              by_cases h17 : o = 17
              · have q17 : ((o : Int) == 17) = true := by simp [h17]
                have hbt : bb = true := by rw [← HBB.out, h17]; rfl
                subst hbt
                clear h16 h17
                go_wp2_with (go_at_call 30; refine Calls.mono (CD.out _ _ wd) ?_; rintro e wn ⟨rfl, hbn⟩; refine Hid.out ?_)
                refine hidI ?_
                have hbe := hbd.trans (hbn.mono hbd.size)
                clear hbn
                go_wp2_with (go_at_call 30; refine Calls.mono (CD.out _ _ wn) ?_; rintro e wm ⟨rfl, hbn⟩; refine Hid.out ?_)
                refine hidI ?_
                have hbf := hbe.trans (hbn.mono hbe.size)
                clear hbn
                go_wp2
                go_roundg g
                case measure => omega
                case rel => exact ⟨t + 1, _, _, by omega, by go_num, rfl, rfl, HA'.out.symm, HB'.out.symm, hbf⟩
              · have q17 : ((o : Int) == 17) = false := by simp; omega
                have hbt : bb = false := by rw [← HBB.out, decide_eq_false h16, decide_eq_false h17]; rfl
                subst hbt
                clear h16 h17
                go_wp2_with (go_at_call 30; refine Calls.mono (CD.out _ _ wd) ?_; rintro e wn ⟨rfl, hbn⟩; refine Hid.out ?_)
                refine hidI ?_
                have hbe := hbd.trans (hbn.mono hbd.size)
                clear hbn
                go_wp2_with (go_at_call 30; refine Calls.mono (CD.out _ _ wn) ?_; rintro e wm ⟨rfl, hbn⟩; refine Hid.out ?_)
                refine hidI ?_
                have hbf := hbe.trans (hbn.mono hbe.size)
                clear hbn
                go_wp2
                go_roundg g
                case measure => omega
                case rel => exact ⟨t + 1, _, _, by omega, by go_num, rfl, rfl, HA'.out.symm, HB'.out.symm, hbf⟩
      · have q : (i : Int) < (n : Int) := by omega
        have h16i : i = 16 := by rcases HMM.out with h1 | h1; exact absurd h1 hil; exact h1
        have q2 : decide ((i : Int) < 16) = false := by simp; omega
        clear hil h16i
        go_wp2_with (go_at_call 9; refine Calls.mono (CF.out _) ?_; rintro e w1 ⟨vp, p, rfl, hpl, hpr, hSq, hb1⟩; refine Hid.out ?_)
        refine hidI ?_
        have HR : Hid (rightB p = true) := hpr
        have CT : Hid _ := turn_ok vp (.slice pa i pc) p (places i) w1 hSq (Sees.below HSP.out hb1 (Nat.le_refl _)) hpr (by rw [places_len, hpl])
        have HSP1 : Hid (Sees w1 (.slice pa i pc) (places i)) := Sees.below HSP.out hb1 (Nat.le_refl _)
        have hbw : Below w.heap.size w w1 := hb.trans (hb1.mono hb.size)
        have HTP : Hid (turnL p (places i) = p) := by show _ = _; rw [← hpl]; exact turn_places hpr
        clear hSq hb1 hpr hb HSP
        go_wp2_with (go_at_call 20; refine Calls.mono CT.out ?_; rintro e w2 ⟨vt, rfl, hSt, hb2⟩; refine Hid.out ?_)
        refine hidI ?_
        rw [HTP.out] at hSt
        have HSP2 : Hid (Sees w2 (.slice pa i pc) (places i)) := Sees.below HSP1.out hb2 (Nat.le_refl _)
        have hbw2 : Below w.heap.size w w2 := hbw.trans (hb2.mono hbw.size)
        obtain ⟨ta, tc, hte⟩ : ∃ ta tc, vt = .slice ta i tc := by obtain ⟨a, c, h, _⟩ := hSt; rw [hpl] at h; exact ⟨a, c, h⟩
        subst hte
        have HST : Hid (Sees w2 (.slice ta i tc) p) := hSt
        have HSZ : Hid (Sees w2 (.slice ad n cap) zs) := Sees.below (w := w) ⟨ad, cap, by rw [HN.out], by rw [HN.out]; exact hlen, HS.out⟩ hbw2 (Nat.le_refl _)
        clear hSt hb2 hbw CT HSP1 HTP CF HS
        go_wp2
        go_loopg [17, 18, 19] i (fun g s17 s18 s19 wx => ∃ (t : Nat) (a b : Int), t + g = i ∧ s19 = .int .i64 t ∧ s17 = .int .i64 a ∧ s18 = .int .i64 b ∧ Aside (a = ((places i).take t).foldl (fun a j => op a (at1 zs bb j)) f0) ∧ Aside (b = (p.take t).foldl (fun a j => op a (at1 zs bb j)) f0) ∧ Below w2.heap.size w2 wx)
        case atStart => exact ⟨0, f0, f0, by omega, rfl, rfl, rfl, rfl, rfl, Below.refl _ _⟩
        case round =>
          obtain ⟨t, a, b, htg, rfl, rfl, rfl, HA, HB, hb⟩ := hrel
          cases gk with
          | zero =>
            have hti : t = i := by omega
            have q : (a == b) = true := by
              have h1 := HA.out
              have h2 := HB.out
              rw [hti, List.take_of_length_le (by rw [places_len]; exact Nat.le_refl _)] at h1
              rw [hti, List.take_of_length_le (by omega)] at h2
              have h3 := HO.out (at1 zs bb) f0 (perm_range HR.out)
              rw [hpl] at h3
              rw [h1, h2]
              simp only [beq_iff_eq]
              exact h3.symm
            have hbf : Below w.heap.size w wr := hbw2.trans (hb.mono hbw2.size)
            subst hti
            go_wp2
            go_ret
            exact ⟨rfl, hbf⟩
          | succ g =>
            have hti : t < i := by omega
            have htI : (t : Int) < (i : Int) := by omega
            have htn : (t : Int) < (n : Int) := by omega
            obtain ⟨qn, hqe, hql⟩ := rightB_range HR.out t (by omega)
            rw [hpl] at hql
            have hqn : (qn : Int) < (n : Int) := by omega
            have hzl := HN.out
            have hZ := sees_at (Sees.below HSZ.out hb (Nat.le_refl _)) (show 0 < zs.length by omega)
            obtain ⟨zb, zoff, zc, hze, hzc⟩ := hZ
            have hP := sees_at (Sees.below HSP2.out hb (Nat.le_refl _)) (show 0 < (places i).length by rw [places_len]; omega)
            obtain ⟨pb, poff, pc', hpe, hpc⟩ := hP
            have hT := sees_at (Sees.below HST.out hb (Nat.le_refl _)) (show 0 < p.length by omega)
            obtain ⟨tb, toff, tc', hte, htc⟩ := hT
            rw [hzl] at hze
            rw [places_len] at hpe
            rw [hpl] at hte
            cases hze
            cases hpe
            cases hte
            have c1 : wr.cell? ⟨pb, poff + t, none⟩ = some (.int .i64 (t : Int)) := by rw [hpc t (by rw [places_len]; exact hti), places_get hti]
            have c2 : wr.cell? ⟨tb, toff + t, none⟩ = some (.int .i64 (qn : Int)) := by rw [htc t (by omega), hqe]
            obtain ⟨x, hx⟩ : ∃ x, zs.getD t 0 = x := ⟨_, rfl⟩
            obtain ⟨y, hy⟩ : ∃ y, zs.getD qn 0 = y := ⟨_, rfl⟩
            have c3 : wr.cell? ⟨zb, zoff + t, none⟩ = some (.int .i64 x) := by rw [hzc t (by omega), hx]
            have c4 : wr.cell? ⟨zb, zoff + qn, none⟩ = some (.int .i64 y) := by rw [hzc qn (by omega), hy]
            have HA' : Aside (((places i).take (t + 1)).foldl (fun a j => op a (at1 zs bb j)) f0 = op a (if bb then bits .and .i64 x 1 else x)) := by
              show _ = _
              rw [fold_take (by rw [places_len]; exact hti), ← HA.out, places_get hti, ← hx]
              rfl
            have HB' : Aside ((p.take (t + 1)).foldl (fun a j => op a (at1 zs bb j)) f0 = op b (if bb then bits .and .i64 y 1 else y)) := by
              show _ = _
              rw [fold_take (by omega), ← HB.out, hqe, ← hy]
              rfl
            clear hzc hpc htc hqe hx hy hzl HA HB
            go_wp2
            go_region
            have hbd := hb.drew
            generalize wr.drew = wd at hbd ⊢
            clear c1 c2 c3 c4 hb
            by_cases h16 : o = 16
            · have q16 : ((o : Int) == 16) = true := by simp [h16]
              have hbt : bb = true := by rw [← HBB.out, h16]; rfl
              subst hbt
              clear h16
              go_wp2_with (go_at_call 30; refine Calls.mono (CD.out _ _ wd) ?_; rintro e wn ⟨rfl, hbn⟩; refine Hid.out ?_)
              refine hidI ?_
              have hbe := hbd.trans (hbn.mono hbd.size)
              clear hbn
              go_wp2_with (go_at_call 30; refine Calls.mono (CD.out _ _ wn) ?_; rintro e wm ⟨rfl, hbn⟩; refine Hid.out ?_)
              refine hidI ?_
              have hbf := hbe.trans (hbn.mono hbe.size)
              clear hbn
              go_wp2
              go_roundg g
              case measure => omega
              case rel => exact ⟨t + 1, _, _, by omega, by go_num, rfl, rfl, HA'.out.symm, HB'.out.symm, hbf⟩
            · have q16 : ((o : Int) == 16) = false := by simp; omega
              by_cases h17 : o = 17
              · have q17 : ((o : Int) == 17) = true := by simp [h17]
                have hbt : bb = true := by rw [← HBB.out, h17]; rfl
                subst hbt
                clear h16 h17
                go_wp2_with (go_at_call 30; refine Calls.mono (CD.out _ _ wd) ?_; rintro e wn ⟨rfl, hbn⟩; refine Hid.out ?_)
                refine hidI ?_
                have hbe := hbd.trans (hbn.mono hbd.size)
                clear hbn
                go_wp2_with (go_at_call 30; refine Calls.mono (CD.out _ _ wn) ?_; rintro e wm ⟨rfl, hbn⟩; refine Hid.out ?_)
                refine hidI ?_
                have hbf := hbe.trans (hbn.mono hbe.size)
                clear hbn
                go_wp2
                go_roundg g
                case measure => omega
                case rel => exact ⟨t + 1, _, _, by omega, by go_num, rfl, rfl, HA'.out.symm, HB'.out.symm, hbf⟩
              · have q17 : ((o : Int) == 17) = false := by simp; omega
                have hbt : bb = false := by rw [← HBB.out, decide_eq_false h16, decide_eq_false h17]; rfl
                subst hbt
                clear h16 h17
                go_wp2_with (go_at_call 30; refine Calls.mono (CD.out _ _ wd) ?_; rintro e wn ⟨rfl, hbn⟩; refine Hid.out ?_)
                refine hidI ?_
                have hbe := hbd.trans (hbn.mono hbd.size)
                clear hbn
                go_wp2_with (go_at_call 30; refine Calls.mono (CD.out _ _ wn) ?_; rintro e wm ⟨rfl, hbn⟩; refine Hid.out ?_)
                refine hidI ?_
                have hbf := hbe.trans (hbn.mono hbe.size)
                clear hbn
                go_wp2
                go_roundg g
                case measure => omega
                case rel => exact ⟨t + 1, _, _, by omega, by go_num, rfl, rfl, HA'.out.symm, HB'.out.symm, hbf⟩
end Go.Proofs.Ytcaecfmjnboamab
