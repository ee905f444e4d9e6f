/-
  The document's Merge of an Agg.
-/
import Derived.Test.YthjpoemgoeckbaaRFork
namespace Go.Proofs.Ythjpoemgoeckbaa
open Go.RowKit Go.Deep Go.MapKept Go.Sort
theorem RAg.wide {w w' : World} {N N' : Nat → Prop} {p o : Nat} {rows : List (List Int)} (h : RAg w N p o rows) (hb : Below w.heap.size w w') (h1 : ∀ k, N' k → N k ∨ w.heap.size ≤ k) (h2 : ∀ k, N' k → k < w'.heap.size) (h3 : N' p) : RAg w' N' p o rows := by
  have hB := h.below hb (Nat.le_refl _)
  obtain ⟨lv, k1, vs, q1, q2, q3⟩ := h.c1
  have hNot : ∀ b, b < w.heap.size → ¬ N b → ¬ N' b := fun b hb hn hN => by
    rcases h1 b hN with h | h
    · exact hn h
    · omega
  have hs := hb.size
  refine ⟨hB.lt, h3, h2, hB.c0, ⟨lv, (hb.cell (p := ⟨p, 1, none⟩) h.lt).trans k1, vs, q1.below hb (Nat.le_refl _), fun b hb' => ?_, fun j v r hv hr => ?_⟩, hB.f1⟩
  · have := q2 b hb'
    exact ⟨by omega, hNot b this.1 this.2⟩
  · obtain ⟨g1, g2⟩ := q3 j v r hv hr
    exact ⟨g1.below hb (Nat.le_refl _), fun b hb' => ⟨by have := (g2 b hb').1; omega, hNot b (g2 b hb').1 (g2 b hb').2⟩⟩
theorem rmerge_nil (a b : Option Addr) (w : World) (h : a = none ∨ b = none) : Calls Try.prog 12 #[.pointer a, .pointer b] w fun e w' => e = .returned (.int .i64 1) ∧ w = w' := by
  cases a with
  | none =>
    go_enter Try.func12, Try.ntmps12
    go_wp2
    go_ret
    exact ⟨rfl, rfl⟩
  | some a =>
    obtain rfl : b = none := h.resolve_left (by simp)
    go_enter Try.func12, Try.ntmps12
    go_wp2
    go_ret
    exact ⟨rfl, rfl⟩
set_option maxRecDepth 100000 in
set_option maxHeartbeats 1000000 in
theorem rmerge_bad {w : World} {N M : Nat → Prop} {p q o u : Nat} {rows sows : List (List Int)} (h : RAg w N p o rows) (hh : RAg w M q u sows) (hne : o ≠ u ∨ rows.length ≠ sows.length) : Calls Try.prog 12 #[.pointer (some ⟨p, 0, none⟩), .pointer (some ⟨q, 0, none⟩)] w fun e w' => e = .returned (.int .i64 2) ∧ Below w.heap.size w w' := by
  obtain ⟨lv, k1, vs, ⟨_, a, cap, rfl, _⟩, _, _⟩ := h.c1
  obtain ⟨lu, k2, us, ⟨_, b, cbp, rfl, _⟩, _, _⟩ := hh.c1
  have d0 : ∀ d os, (grow (redrawn w d) os).cell? ⟨p, 0, none⟩ = some (.int .u8 (o : Int)) := fun d os => cell_regrown h.c0 d os
  have d1 : ∀ d os, (grow (redrawn w d) os).cell? ⟨q, 0, none⟩ = some (.int .u8 (u : Int)) := fun d os => cell_regrown hh.c0 d os
  have d2 : ∀ d os, (grow (redrawn w d) os).cell? ⟨p, 1, none⟩ = some (.slice a rows.length cap) := fun d os => cell_regrown k1 d os
  have d3 : ∀ d os, (grow (redrawn w d) os).cell? ⟨q, 1, none⟩ = some (.slice b sows.length cbp) := fun d os => cell_regrown k2 d os
  obtain ⟨n, hn⟩ : ∃ n, rows.length = n := ⟨_, rfl⟩
  obtain ⟨m, hm⟩ : ∃ m, sows.length = m := ⟨_, rfl⟩
  rw [hn] at d2 hne
  rw [hm] at d3 hne
  clear h hh k1 k2 hn hm
  by_cases ho : o = u
  · subst ho
    have hnm : n ≠ m := hne.resolve_left (by simp)
    have q1 : ((n : Int) == (m : Int)) = false := by simp; omega
    have q2 : (n == m) = false := by simpa using hnm
    go_enter Try.func12, Try.ntmps12
    go_wp2
    refine wp_region_quiet_below (by kernel_rfl) (by kernel_rfl) ?_
    repeat (first | go_big_quiet_step (fail) | quiet_step (fail))
    refine wpQuiet_nil ?_
    intro _ hw'
    obtain ⟨⟨dq, osq⟩, hw''⟩ := hw'
    subst hw''
    have HW := hidI (below_regrown w dq osq)
    generalize grow (redrawn w dq) osq = w7 at *
    clear d0 d1 d2 d3
    go_wp2
    go_ret
    exact ⟨rfl, HW.out⟩
  · have q1 : ((o : Int) == (u : Int)) = false := by simp; omega
    have q2 : (o == u) = false := by simpa using ho
    have q3 : ((o : Int) != (u : Int)) = true := by simp; omega
    have q4 : (o != u) = true := by simpa using ho
    go_enter Try.func12, Try.ntmps12
    go_wp2
    refine wp_region_quiet_below (by kernel_rfl) (by kernel_rfl) ?_
    repeat (first | go_big_quiet_step (fail) | quiet_step (fail))
    refine wpQuiet_nil ?_
    intro _ hw'
    obtain ⟨⟨dq, osq⟩, hw''⟩ := hw'
    subst hw''
    have HW := hidI (below_regrown w dq osq)
    generalize grow (redrawn w dq) osq = w7 at *
    clear d0 d1 d2 d3
    go_wp2
    go_ret
    exact ⟨rfl, HW.out⟩
theorem grown_le {a b c : World} {r : Nat} (h : a.grownBy b none) (k : b.grownBy c (some r)) : a.grownBy c (some r) :=
  ⟨k.1.trans h.1, k.2.trans h.2, k.3.trans h.3, Nat.le_trans h.4 k.4, fun i hi hne => (k.5 i (Nat.lt_of_lt_of_le hi h.4) hne).trans (h.5 i hi (by simp))⟩
theorem grown_two {a b c : World} {r : Nat} (h : a.grownBy b (some r)) (k : b.grownBy c (some r)) : a.grownBy c (some r) :=
  ⟨k.1.trans h.1, k.2.trans h.2, k.3.trans h.3, Nat.le_trans h.4 k.4, fun i hi hne => (k.5 i (Nat.lt_of_lt_of_le hi h.4) hne).trans (h.5 i hi hne)⟩
/-- What stands after the first rows, and so many numbers of the next one. -/
def Mid (A O : List (List Int)) (j i : Nat) (cur : List (List Int)) : Prop := cur.length = A.length ∧ ∀ t r s, A[t]? = some r → O[t]? = some s → cur[t]? = some (if t < j then r ++ s else if t = j then r ++ s.take i else r)
theorem Mid.done {A O cur : List (List Int)} {j : Nat} (hl : A.length = O.length) (h : Mid A O j 0 cur) (hj : A.length ≤ j) : cur = List.zipWith (· ++ ·) A O := by
  refine List.ext_getElem? fun t => ?_
  rw [List.getElem?_zipWith]
  cases hA : A[t]? with
  | none =>
    have := List.getElem?_eq_none_iff.1 hA
    rw [List.getElem?_eq_none (by have := h.1; omega)]
  | some r =>
    have ht := (List.getElem?_eq_some_iff.1 hA).1
    obtain ⟨s, hs⟩ : ∃ s, O[t]? = some s := ⟨_, List.getElem?_eq_getElem (by omega)⟩
    rw [h.2 t r s hA hs, if_pos (by omega), hs]
set_option maxRecDepth 100000 in
set_option maxHeartbeats 2000000 in
theorem rmerge_any {w : World} {N : Nat → Prop} {p q o : Nat} {A O : List (List Int)} (h : RAg w N p o A) (hh : RAg w N q o O) (hl : A.length = O.length) (hn4 : A.length ≤ 100) (hA : ∀ r ∈ A, r.length ≤ 1000) (hO : ∀ r ∈ O, r.length ≤ 1000) : Calls Try.prog 12 #[.pointer (some ⟨p, 0, none⟩), .pointer (some ⟨q, 0, none⟩)] w fun e w' => e = .returned (.int .i64 0) ∧ RAg w' N p o (List.zipWith (· ++ ·) A O) ∧ w.grownBy w' (some p) := by
  have H := hidI h
  have HQ := hidI hh
  obtain ⟨lv, k1, vs, ⟨_, a, cap, rfl, _⟩, _, _⟩ := h.c1
  obtain ⟨lu, k2, us, ⟨_, b, cbp, rfl, _⟩, _, _⟩ := hh.c1
  have d0 : ∀ d os, (grow (redrawn w d) os).cell? ⟨p, 0, none⟩ = some (.int .u8 (o : Int)) := fun d os => cell_regrown h.c0 d os
  have d1 : ∀ d os, (grow (redrawn w d) os).cell? ⟨q, 0, none⟩ = some (.int .u8 (o : Int)) := fun d os => cell_regrown hh.c0 d os
  have d2 : ∀ d os, (grow (redrawn w d) os).cell? ⟨p, 1, none⟩ = some (.slice a A.length cap) := fun d os => cell_regrown k1 d os
  have d3 : ∀ d os, (grow (redrawn w d) os).cell? ⟨q, 1, none⟩ = some (.slice b O.length cbp) := fun d os => cell_regrown k2 d os
  obtain ⟨n, hn⟩ : ∃ n, A.length = n := ⟨_, rfl⟩
  have hm : O.length = n := by omega
  have HNA := hidI hn
  have HNO := hidI hm
  rw [hn] at d2 hn4
  rw [hm] at d3
  have HA := hidI hA
  have HO := hidI hO
  clear h hh k1 k2 hn hm hA hO hl
  go_enter Try.func12, Try.ntmps12
  go_wp2
  refine wp_region_quiet_below (by kernel_rfl) (by kernel_rfl) ?_
  repeat (first | go_big_quiet_step (fail) | quiet_step (fail))
  refine wpQuiet_nil ?_
  intro _ hw'
  obtain ⟨⟨dq, osq⟩, hw''⟩ := hw'
  subst hw''
  have HW := hidI (below_regrown w dq osq)
  generalize grow (redrawn w dq) osq = w1 at *
  clear d0 d1 d2 d3
  have CF := hidI (rfork_any (HQ.out.below HW.out (Nat.le_refl _)) (by have := HNO.out; omega))
  go_wp2_with (go_at_call 20; refine Calls.mono CF.out ?_; rintro e w2 ⟨s, rfl, hs1, hb2, hsR⟩; refine Hid.out ?_)
  refine hidI ?_
  have hsz1 := HW.out.size
  have hsz2 := hb2.size
  have HB2 : Hid (Below w.heap.size w w2) := hidI (HW.out.trans (hb2.mono hsz1))
  have HS : Hid (RAg w2 (fun k => N k ∨ k = s) s o O) := hidI (hsR _ (fun k hk => hk) (.inr rfl))
  have HP : Hid (RAg w2 (fun k => N k ∨ k = s) p o A) := hidI (H.out.wide HB2.out (fun k hk => hk.imp_right (fun e => by omega)) (fun k hk => by
    rcases hk with h | h
    · have := H.out.few k h; omega
    · have := HS.out.lt; omega) (.inl H.out.mem))
  have hps : p ≠ s := by have := H.out.lt; omega
  clear hb2 hsR CF
  go_wp2
  go_loopg [6] n (fun g s6 wx => ∃ (j : Nat) (cur : List (List Int)), j + g = n ∧ s6 = .int .i64 (j : Int) ∧ Hid (Mid A O j 0 cur) ∧ Hid (RAg wx (fun k => N k ∨ k = s) p o cur) ∧ Hid (w2.grownBy wx (some p)))
  case atStart => exact ⟨0, A, by omega, rfl, hidI ⟨rfl, fun t r s hr hs => by rw [hr]; simp⟩, HP, hidI (World.grownBy.refl _ _)⟩
  case round =>
    obtain ⟨j, cur, hjg, rfl, HMid, HPx, HG⟩ := hrel
    have HSx : Hid (RAg wr (fun k => N k ∨ k = s) s o O) := hidI (HS.out.grown HG.out (fun b e => by cases e; exact .inl H.out.mem) (by intro e; cases e; exact hps rfl))
    obtain ⟨ls, c1, vs2, hsc, _, hrw⟩ := HSx.out.c1
    obtain ⟨hvl, sa, sc, rfl, hcs⟩ := hsc
    rw [HNO.out] at c1
    cases gk with
    | zero =>
      have hjn : j = n := by omega
      have k7 : decide ((j : Int) < (n : Int)) = false := by rw [decide_eq_false_iff_not]; omega
      have k8 : decide (j < n) = false := by rw [decide_eq_false_iff_not]; omega
      have HE : Hid (cur = List.zipWith (· ++ ·) A O) := hidI (HMid.out.done (by rw [HNA.out, HNO.out]) (by have := HNA.out; omega))
      clear hjn hcs hrw hvl
      go_wp2
      go_ret
      have hfin : RAg wr N p o (List.zipWith (· ++ ·) A O) := by
        rw [← HE.out]
        exact HPx.out.wide (Below.refl _ _) (fun k hk => .inl (.inl hk)) (fun k hk => HPx.out.few k (.inl hk)) H.out.mem
      exact ⟨rfl, hfin, grown_le (grown_of_below HB2.out (Nat.le_refl _)) HG.out⟩
    | succ g =>
      have k7 : (j : Int) < (n : Int) := by omega
      obtain ⟨r, hr⟩ : ∃ r, A[j]? = some r := ⟨_, List.getElem?_eq_getElem (by have := HNA.out; omega)⟩
      obtain ⟨t, ht⟩ : ∃ t, O[j]? = some t := ⟨_, List.getElem?_eq_getElem (by have := HNO.out; omega)⟩
      have hrl := HA.out r (List.mem_of_getElem? hr)
      have htl := HO.out t (List.mem_of_getElem? ht)
      have HRr := hidI hr
      have HTt := hidI ht
      obtain ⟨m, hm⟩ : ∃ m, t.length = m := ⟨_, rfl⟩
      have HTL := hidI hm
      rw [hm] at htl
      clear hr ht hm hcs hrw hvl
      obtain ⟨wq, hwq⟩ : ∃ wq : World, wq = wr := ⟨wr, rfl⟩
      subst hwq
      go_wp2
      clear c1
      go_loopg [7] m (fun g2 s7 wz => ∃ (i : Nat) (cur : List (List Int)), i + g2 = m ∧ s7 = .int .i64 (i : Int) ∧ Hid (Mid A O j i cur) ∧ Hid (RAg wz (fun k => N k ∨ k = s) p o cur) ∧ Hid (w2.grownBy wz (some p)))
      case atStart => exact ⟨0, cur, by omega, rfl, HMid, HPx, HG⟩
      case round =>
        obtain ⟨i, cur', hig, rfl, HMid2, HPz, HGz⟩ := hrel
        have HSz : Hid (RAg wr (fun k => N k ∨ k = s) s o O) := hidI (HS.out.grown HGz.out (fun b e => by cases e; exact .inl H.out.mem) (by intro e; cases e; exact hps rfl))
        obtain ⟨ls, c1, vs2, hsc, _, hrw⟩ := HSz.out.c1
        obtain ⟨hvl, sa, sc, rfl, hcs⟩ := hsc
        rw [HNO.out] at c1
        obtain ⟨v, hv⟩ : ∃ v, vs2[j]? = some v := ⟨_, List.getElem?_eq_getElem (by have := HNO.out; omega)⟩
        obtain ⟨⟨ta, tc, rfl, _, hts⟩, _⟩ := hrw j v t hv HTt.out
        obtain ⟨lb, lo, rfl, c2⟩ : ∃ lb lo, sa = some ⟨lb, lo, none⟩ ∧ wr.cell? ⟨lb, lo + j, none⟩ = some (.slice ta t.length tc) := by
          rcases hcs with h0 | ⟨lb, lo, rfl, hc⟩
          · have := HNO.out; omega
          · exact ⟨lb, lo, rfl, hc j _ hv⟩
        rw [HTL.out] at c2
        cases gk with
        | zero =>
          have him : i = m := by omega
          have k9 : decide ((i : Int) < (m : Int)) = false := by rw [decide_eq_false_iff_not]; omega
          have k10 : decide (i < m) = false := by rw [decide_eq_false_iff_not]; omega
          have HM3 : Hid (Mid A O (j + 1) 0 cur') := hidI ⟨HMid2.out.1, fun x r' s' hr' hs' => by
            rw [HMid2.out.2 x r' s' hr' hs']
            by_cases h1 : x < j
            · rw [if_pos h1, if_pos (by omega)]
            · rw [if_neg h1]
              by_cases h2 : x = j
              · rw [if_pos h2, if_pos (by omega)]
                subst h2
                have := HTt.out
                rw [hs'] at this
                cases this
                rw [List.take_of_length_le (by have := HTL.out; omega)]
              · rw [if_neg h2, if_neg (show ¬ x < j + 1 by omega)]
                split <;> simp⟩
          clear him hcs hrw hvl hv hts
          go_wp2
          go_roundg g
          case measure => omega
          case rel => exact ⟨j + 1, cur', by omega, by go_num, HM3, HPz, HGz⟩
        | succ g2 =>
          have k9 : (i : Int) < (m : Int) := by omega
          obtain ⟨x, hx⟩ : ∃ x, t[i]? = some x := ⟨_, List.getElem?_eq_getElem (by have := HTL.out; omega)⟩
          obtain ⟨tb, to, rfl, c3⟩ : ∃ tb to, ta = some ⟨tb, to, none⟩ ∧ wr.cell? ⟨tb, to + i, none⟩ = some (.int .i64 x) := by
            rcases hts with h0 | ⟨tb, to, rfl, hc⟩
            · rw [h0] at hx; simp at hx
            · exact ⟨tb, to, rfl, hc i x hx⟩
          have hcur : cur'[j]? = some (r ++ t.take i) := by
            rw [HMid2.out.2 j r t HRr.out HTt.out, if_neg (by omega), if_pos rfl]
          have CT := hidI (rtake_any HPz.out j (r ++ t.take i) x hcur (by rw [List.length_append, List.length_take]; omega) (by have := HMid2.out.1; have := HNA.out; omega))
          have HM3 : Hid (Mid A O j (i + 1) (cur'.set j (r ++ t.take i ++ [x]))) := hidI ⟨by rw [List.length_set]; exact HMid2.out.1, fun y r' s' hr' hs' => by
            by_cases h2 : j = y
            · subst h2
              have e1 := HRr.out
              have e2 := HTt.out
              rw [hr'] at e1
              rw [hs'] at e2
              cases e1
              cases e2
              rw [List.getElem?_set_self (by have := (List.getElem?_eq_some_iff.1 hcur).1; omega), if_neg (by omega), if_pos rfl, List.append_assoc, List.take_add_one, hx]
              rfl
            · rw [List.getElem?_set_ne h2, HMid2.out.2 y r' s' hr' hs']
              by_cases h1 : y < j
              · rw [if_pos h1, if_pos h1]
              · rw [if_neg h1, if_neg h1, if_neg (fun e => h2 e.symm), if_neg (fun e => h2 e.symm)]⟩
          clear hcs hrw hvl hv hts hcur hx
          go_wp2_with (go_at_call 30; refine Calls.mono CT.out ?_; rintro e w5 ⟨rfl, hR5, hG5⟩; refine Hid.out ?_)
          refine hidI ?_
          have HR5 := hidI hR5
          have HG5 := hidI (grown_two HGz.out hG5)
          clear hR5 hG5 CT c1 c2 c3
          go_wp2
          go_roundg g2
          case measure => omega
          case rel => exact ⟨i + 1, _, by omega, by go_num, HM3, HR5, HG5⟩
end Go.Proofs.Ythjpoemgoeckbaa
