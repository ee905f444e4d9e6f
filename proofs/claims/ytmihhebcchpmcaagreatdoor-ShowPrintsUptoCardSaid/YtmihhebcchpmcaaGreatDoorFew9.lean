/-
  At most so many forms, and places: what is cut off a slice.
-/
import Derived.Test.YtmihhebcchpmcaaGreatDoorRPrint
namespace Go.Proofs.YtmihhebcchpmcaaGreatDoor
open Go.RowKit Go.Deep Go.MapKept Go.Shelf
theorem sees_low {W : World} {a : Option Addr} {n cap size : Nat} {cs : List Value} (h : SeesC W (.slice a n cap) n size cs) (i : Nat) (hi : i ≤ n) : SeesC W (.slice a i cap) i size (cs.take (i * size)) := by
  obtain ⟨hl, a', cap', he, hs⟩ := h
  simp only [Value.slice.injEq] at he
  obtain ⟨rfl, _, rfl⟩ := he
  have hmul := Nat.mul_le_mul_right size hi
  refine ⟨by rw [List.length_take]; omega, _, cap, rfl, ?_⟩
  rcases hs with h0 | ⟨b, off, rfl, hs⟩
  · exact .inl (by omega)
  · refine .inr ⟨b, off, rfl, fun j u hu => hs j u ?_⟩
    rw [List.getElem?_take] at hu
    split at hu
    · exact hu
    · cases hu
theorem flatM_take : ∀ (ms : List MV) (i : Nat), flatM (ms.take i) = (flatM ms).take (i * 5)
  | [], i => by simp [flatM]
  | x :: r, 0 => by simp [flatM]
  | x :: r, i + 1 => by
    have := flatM_take r i
    rw [List.take_succ_cons]
    have e : ∀ l : List MV, flatM (x :: l) = mcells x ++ flatM l := fun l => by simp [flatM]
    rw [e, e, this, show (i + 1) * 5 = (mcells x).length + i * 5 by simp [mcells]; omega, List.take_length_add_append]
theorem SeesM.take {w : World} {a : Option Addr} {cap : Nat} {ms : List MV} (h : SeesM w (.slice a ms.length cap) ms) (i : Nat) (hi : i ≤ ms.length) : SeesM w (.slice a i cap) (ms.take i) := by
  refine ⟨?_, fun j x hx => h.kid j x ?_⟩
  · have := sees_low h.row i hi
    rw [flatM_take, List.length_take, show min i ms.length = i by omega]
    exact this
  · rw [List.getElem?_take] at hx
    split at hx
    · exact hx
    · cases hx
theorem forms_any (a : Option Addr) (cap : Nat) (ms : List MV) (hcap : ms.length ≤ cap) (w : World) (h : SeesM w (.slice a ms.length cap) ms) : ∃ v, SeesM w v (ms.take 405) ∧ ∀ W, Calls Tryz.prog 5 #[.slice a ms.length cap] W fun e w' => e = .returned v ∧ W = w' := by
  by_cases hl : ms.length ≤ 405
  · have e1 : ¬ (405 : Int) < (ms.length : Int) := by omega
    refine ⟨.slice a ms.length cap, by rw [List.take_of_length_le hl]; exact h, fun W => ?_⟩
    go_enter Tryz.func5, Tryz.ntmps5
    go_wp2
    go_ret
    exact ⟨rfl, rfl⟩
  · have e1 : (405 : Int) < (ms.length : Int) := by omega
    have e2 : (405 : Int) ≤ (cap : Int) := by omega
    refine ⟨.slice a 405 cap, h.take 405 (by omega), fun W => ?_⟩
    go_enter Tryz.func5, Tryz.ntmps5
    go_wp2
    go_ret
    exact ⟨rfl, rfl⟩
theorem places_any (a : Option Addr) (cap : Nat) (l : List Int) (hcap : l.length ≤ cap) (w : World) (h : SeesC w (.slice a l.length cap) l.length 1 (intsI l)) : ∃ v, SeesC w v (l.take 100).length 1 (intsI (l.take 100)) ∧ ∀ W, Calls Tryz.prog 6 #[.slice a l.length cap] W fun e w' => e = .returned v ∧ W = w' := by
  by_cases hl : l.length ≤ 100
  · have e1 : ¬ (100 : Int) < (l.length : Int) := by omega
    refine ⟨.slice a l.length cap, by rw [List.take_of_length_le hl]; exact h, fun W => ?_⟩
    go_enter Tryz.func6, Tryz.ntmps6
    go_wp2
    go_ret
    exact ⟨rfl, rfl⟩
  · have e1 : (100 : Int) < (l.length : Int) := by omega
    have e2 : (100 : Int) ≤ (cap : Int) := by omega
    refine ⟨.slice a 100 cap, ?_, fun W => ?_⟩
    · have := sees_low h 100 (by omega)
      rw [List.length_take, show min 100 l.length = 100 by omega, show intsI (l.take 100) = (intsI l).take (100 * 1) by simp [intsI, List.map_take]]
      exact this
    go_enter Tryz.func6, Tryz.ntmps6
    go_wp2
    go_ret
    exact ⟨rfl, rfl⟩
noncomputable def sameV (ms ns : List MV) (top : List Int) : Bool := isR ms top && (isR ns top && sameL ms ns)
set_option maxHeartbeats 2000000 in
theorem psame_any (fv gv tv : Value) (ms ns : List MV) (top : List Int) (w : World) (h : Ok9 w fv tv ms top) (h2 : Ok9 w gv tv ns top) :
    Calls Tryz.prog 16 #[fv, tv, gv, tv] w fun e w' => e = .returned (.bool (sameV ms ns top)) ∧ Below w.heap.size w w' := by
  have c1 := h.pright
  have c2 := fun W (hW : Below w.heap.size w W) => (h2.on hW).pright
  have C3 := hidI fun (y : World) (hy : Below w.heap.size w y) => equal_any tv tv top top y (h.tops.below hy (Nat.le_refl _)) (h.tops.below hy (Nat.le_refl _)) (by have := h.tlen; omega) (by have := h.tlen; omega)
  have C4 := hidI fun (y : World) (hy : Below w.heap.size w y) => equalFunc_any fv gv ms ns y (h.sees.below hy (Nat.le_refl _)) (h2.sees.below hy (Nat.le_refl _)) (by have := h.len; omega) h.few4 h2.few4
  rw [show (top == top) = true by simp] at C3
  unfold sameV
  obtain ⟨r1, hr1⟩ : ∃ r, isR ms top = r := ⟨_, rfl⟩
  obtain ⟨r2, hr2⟩ : ∃ r, isR ns top = r := ⟨_, rfl⟩
  obtain ⟨r3, hr3⟩ : ∃ r, sameL ms ns = r := ⟨_, rfl⟩
  rw [hr1] at c1 ⊢
  rw [hr2] at c2 ⊢
  rw [hr3] at C4 ⊢
  have C1 := hidI c1
  have C2 := hidI c2
  clear c1 c2 h h2 hr1 hr2 hr3
  cases r1 with
  | false =>
    go_enter Tryz.func16, Tryz.ntmps16
    go_wp2_with (have hh := C1.out; clear hh; go_at_call 18; refine C1.out.mono ?_; rintro e w1 ⟨rfl, hb1⟩; have HB1 := hidI hb1; clear hb1 C1)
    go_ret
    exact ⟨rfl, HB1.out⟩
  | true =>
    cases r2 with
    | false =>
      go_enter Tryz.func16, Tryz.ntmps16
      go_wp2_with (go_at_call 18; refine C1.out.mono ?_; rintro e w1 ⟨rfl, hb1⟩; have HB1 := hidI hb1; clear hb1 C1; refine Hid.out ?_)
      refine hidI ?_
      go_wp2_with (go_at_call 18; refine (C2.out _ HB1.out).mono ?_; rintro e w2 ⟨rfl, hb2⟩; have HB2 := hidI (HB1.out.trans (hb2.mono HB1.out.size)); clear hb2 C2)
      go_ret
      exact ⟨rfl, HB2.out⟩
    | true =>
      go_enter Tryz.func16, Tryz.ntmps16
      go_wp2_with (go_at_call 18; refine C1.out.mono ?_; rintro e w1 ⟨rfl, hb1⟩; have HB1 := hidI hb1; clear hb1 C1; refine Hid.out ?_)
      refine hidI ?_
      go_wp2_with (go_at_call 18; refine (C2.out _ HB1.out).mono ?_; rintro e w2 ⟨rfl, hb2⟩; have HB2 := hidI (HB1.out.trans (hb2.mono HB1.out.size)); clear hb2 C2; refine Hid.out ?_)
      refine hidI ?_
      go_wp2_with (first
        | (go_at_call 31; refine (C3.out _ HB2.out).mono ?_; rintro e w3 ⟨rfl, hb3⟩; have HB3 := hidI (HB2.out.trans (hb3.mono HB2.out.size)); clear hb3)
        | (go_at_call 32; refine (C4.out _ HB3.out).mono ?_; rintro e w4 ⟨rfl, hb4⟩; have HB4 := hidI (HB3.out.trans (hb4.mono HB3.out.size)); clear hb4))
      go_ret
      exact ⟨by simp, HB4.out⟩
theorem bytes_eq {a b : List UInt8} : ((bytesOf a).toList == (bytesOf b).toList) = decide (a = b) := by
  have e : ∀ l : List UInt8, (bytesOf l).toList = l := fun l => by rw [ByteArray.toList_eq]; simp [bytesOf]
  rw [e, e]
  by_cases h : a = b
  · subst h; simp
  · rw [decide_eq_false h, beq_eq_false_iff_ne]; exact h
set_option maxHeartbeats 2000000 in
theorem rsame_any (fv gv tv : Value) (ms ns : List MV) (top : List Int) (w : World) (h : Ok9 w fv tv ms top) (h2 : Ok9 w gv tv ns top) :
    Calls Tryz.prog 17 #[fv, tv, gv, tv] w fun e w' => e = .returned (.bool (sameV ms ns top)) ∧ Below w.heap.size w w' := by
  have c1 := rprint_any fv tv ms top w h
  have c2 := fun W (hW : Below w.heap.size w W) => rprint_any gv tv ns top W (h2.on hW)
  have hV : sameV ms ns top = (decide (prnE ms top = 0) && (decide (prnE ns top = 0) && ((bytesOf (prnR ms top)).toList == (bytesOf (prnR ns top)).toList))) := by
    rw [bytes_eq]
    unfold sameV prnE prnR
    cases hb : isR ms top with
    | false => simp
    | true =>
      cases hb2 : isR ns top with
      | false => simp
      | true =>
        simp only [Bool.true_and, if_true, decide_true]
        have hw := same_words (isR_iff.1 hb) (isR_iff.1 hb2) h.num h2.num
        by_cases hs : sameL ms ns = true
        · rw [hs]; exact (decide_eq_true (hw.2 ((sameL_iff ms ns).1 hs))).symm
        · have : sameL ms ns = false := by simpa using hs
          rw [this]
          exact (decide_eq_false (fun e => hs ((sameL_iff ms ns).2 (hw.1 e)))).symm
  rw [hV]
  obtain ⟨E1, hE1⟩ : ∃ e, prnE ms top = e := ⟨_, rfl⟩
  obtain ⟨E2, hE2⟩ : ∃ e, prnE ns top = e := ⟨_, rfl⟩
  obtain ⟨P1, hP1⟩ : ∃ e, prnR ms top = e := ⟨_, rfl⟩
  obtain ⟨P2, hP2⟩ : ∃ e, prnR ns top = e := ⟨_, rfl⟩
  rw [hE1, hP1] at c1
  rw [hE2, hP2] at c2
  rw [hE1, hP1, hE2, hP2]
  have C1 := hidI c1
  have C2 := hidI c2
  obtain ⟨q, hq⟩ : ∃ q, ((bytesOf P1).toList == (bytesOf P2).toList) = q := ⟨_, rfl⟩
  rw [hq]
  clear c1 c2 h h2 hE1 hE2 hP1 hP2 hV
  by_cases a1 : E1 = 0
  · subst a1
    by_cases a2 : E2 = 0
    · subst a2
      go_enter Tryz.func17, Tryz.ntmps17
      go_wp2_with (go_at_call 8; refine C1.out.mono ?_; rintro e w1 ⟨rfl, hb1⟩; have HB1 := hidI hb1; clear hb1 C1; refine Hid.out ?_)
      refine hidI ?_
      go_wp2_with (go_at_call 8; refine (C2.out _ HB1.out).mono ?_; rintro e w2 ⟨rfl, hb2⟩; have HB2 := hidI (HB1.out.trans (hb2.mono HB1.out.size)); clear hb2 C2)
      go_ret
      exact ⟨by simp, HB2.out⟩
    · have n2 : (E2 == 0) = false := by simp [a2]
      go_enter Tryz.func17, Tryz.ntmps17
      go_wp2_with (go_at_call 8; refine C1.out.mono ?_; rintro e w1 ⟨rfl, hb1⟩; have HB1 := hidI hb1; clear hb1 C1; refine Hid.out ?_)
      refine hidI ?_
      go_wp2_with (go_at_call 8; refine (C2.out _ HB1.out).mono ?_; rintro e w2 ⟨rfl, hb2⟩; have HB2 := hidI (HB1.out.trans (hb2.mono HB1.out.size)); clear hb2 C2)
      go_ret
      exact ⟨by simp [a2], HB2.out⟩
  · have n1 : (E1 == 0) = false := by simp [a1]
    go_enter Tryz.func17, Tryz.ntmps17
    go_wp2_with (go_at_call 8; refine C1.out.mono ?_; rintro e w1 ⟨rfl, hb1⟩; have HB1 := hidI hb1; clear hb1 C1; refine Hid.out ?_)
    refine hidI ?_
    go_wp2_with (go_at_call 8; refine (C2.out _ HB1.out).mono ?_; rintro e w2 ⟨rfl, hb2⟩; have HB2 := hidI (HB1.out.trans (hb2.mono HB1.out.size)); clear hb2 C2)
    go_ret
    exact ⟨by simp [a1], HB2.out⟩
theorem sameL_refl : ∀ l : List MV, sameL l l = true := fun l => (sameL_iff l l).2 rfl
set_option maxHeartbeats 2000000 in
theorem showSame_law (ms ns : List MV) (top : List Int) (a a' b : Option Addr) (cap cap' capt : Nat) (hc : ms.length ≤ cap) (hc' : ns.length ≤ cap') (hct : top.length ≤ capt) (w : World) (hL : Laid w) (hsm : SeesM w (.slice a ms.length cap) ms) (hsn : SeesM w (.slice a' ns.length cap') ns) (ht : SeesC w (.slice b top.length capt) top.length 1 (intsI top))
      (hn : ∀ x ∈ ms, In64 x.1.n) (hn' : ∀ x ∈ ns, In64 x.1.n) (hk : ∀ x ∈ ms, x.1.kids.length ≤ 17592186044416) (hk' : ∀ x ∈ ns, x.1.kids.length ≤ 17592186044416) (hs : ∀ x ∈ ms, x.1.s.size ≤ 140737488355328) (hs' : ∀ x ∈ ns, x.1.s.size ≤ 140737488355328) (hr : ∀ x ∈ ms, Roomy x.2) (hr' : ∀ x ∈ ns, Roomy x.2) :
    Calls Tryz.prog 4 #[.slice a ms.length cap, .slice a' ns.length cap', .slice b top.length capt] w fun e w' => e = .returned (.bool true) ∧ Below w.heap.size w w' := by
  obtain ⟨v, hv, cf⟩ := forms_any a cap ms hc w hsm
  obtain ⟨v', hv', cf'⟩ := forms_any a' cap' ns hc' w hsn
  obtain ⟨u, hu, cp⟩ := places_any b capt top hct w ht
  have o1 : Ok9 w v u (ms.take 405) (top.take 100) := ⟨hL, hv, hu, fun x hx => hn x (List.mem_of_mem_take hx), fun x hx => hk x (List.mem_of_mem_take hx), fun x hx => hs x (List.mem_of_mem_take hx), fun x hx => hr x (List.mem_of_mem_take hx), by rw [List.length_take]; omega, by rw [List.length_take]; omega⟩
  have o2 : Ok9 w v' u (ns.take 405) (top.take 100) := ⟨hL, hv', hu, fun x hx => hn' x (List.mem_of_mem_take hx), fun x hx => hk' x (List.mem_of_mem_take hx), fun x hx => hs' x (List.mem_of_mem_take hx), fun x hx => hr' x (List.mem_of_mem_take hx), by rw [List.length_take]; omega, by rw [List.length_take]; omega⟩
  have CF := hidI cf
  have CF' := hidI cf'
  have CP := hidI cp
  have CL := hidI (live8_any w hL)
  have C1 := hidI fun W (hW : Below w.heap.size w W) => psame_any v v' u _ _ _ W (o1.on hW) (o2.on hW)
  have C2 := hidI fun W (hW : Below w.heap.size w W) => rsame_any v v' u _ _ _ W (o1.on hW) (o2.on hW)
  have c3 := fun W (hW : Below w.heap.size w W) => psame_any v v u _ _ _ W (o1.on hW) (o1.on hW)
  have c4 := fun W (hW : Below w.heap.size w W) => (o1.on hW).pright
  have e3 : sameV (ms.take 405) (ms.take 405) (top.take 100) = isR (ms.take 405) (top.take 100) := by unfold sameV; rw [sameL_refl]; cases isR (ms.take 405) (top.take 100) <;> rfl
  rw [e3] at c3
  obtain ⟨r1, hr1⟩ : ∃ r, sameV (ms.take 405) (ns.take 405) (top.take 100) = r := ⟨_, rfl⟩
  obtain ⟨r2, hr2⟩ : ∃ r, isR (ms.take 405) (top.take 100) = r := ⟨_, rfl⟩
  rw [hr1] at C1 C2
  rw [hr2] at c3 c4
  have C3 := hidI c3
  have C4 := hidI c4
  clear hv hv' hu cf cf' cp o1 o2 c3 c4 e3 hr1 hr2 hsm hsn ht hn hn' hk hk' hs hs' hr hr' hc hc' hct hL
  go_enter Tryz.func4, Tryz.ntmps4
  go_wp2_with (have hh := CF.out; clear hh; go_at_call 5; refine (CF.out _).mono ?_; rintro e w' ⟨rfl, rfl⟩; clear CF; refine Hid.out ?_)
  refine hidI ?_
  go_wp2_with (have hh := CF'.out; clear hh; go_at_call 5; refine (CF'.out _).mono ?_; rintro e w' ⟨rfl, rfl⟩; clear CF'; refine Hid.out ?_)
  refine hidI ?_
  go_wp2_with (first
    | (go_at_call 6; refine (CP.out _).mono ?_; rintro e w' ⟨rfl, rfl⟩)
    | (go_at_call 13; refine CL.out.mono ?_; rintro e w1 ⟨rfl, hb⟩; have Q1 := hidI hb; clear hb; refine Hid.out ?_))
  refine hidI ?_
  go_wp2_with (go_at_call 16; refine (C1.out _ Q1.out).mono ?_; rintro e w2 ⟨rfl, hb⟩; have Q2 := hidI (Q1.out.trans (hb.mono Q1.out.size)); clear hb; refine Hid.out ?_)
  refine hidI ?_
  go_wp2_with (go_at_call 17; refine (C2.out _ Q2.out).mono ?_; rintro e w3 ⟨rfl, hb⟩; have Q3 := hidI (Q2.out.trans (hb.mono Q2.out.size)); clear hb; refine Hid.out ?_)
  refine hidI ?_
  go_wp2_with (go_at_call 16; refine (C3.out _ Q3.out).mono ?_; rintro e w4 ⟨rfl, hb⟩; have Q4 := hidI (Q3.out.trans (hb.mono Q3.out.size)); clear hb; refine Hid.out ?_)
  refine hidI ?_
  go_wp2_with (go_at_call 18; refine (C4.out _ Q4.out).mono ?_; rintro e w5 ⟨rfl, hb⟩; have Q5 := hidI (Q4.out.trans (hb.mono Q4.out.size)); clear hb)
  go_ret
  exact ⟨by simp, Q5.out⟩
end Go.Proofs.YtmihhebcchpmcaaGreatDoor
