/-
  Right where each form may be: the walk tells whether the places are in order.
-/
import Derived.Test.YtnlplkchkhibaaaDoorRightA
namespace Go.Proofs.YtnlplkchkhibaaaDoor
open Go.RowKit Go.Deep Go.MapKept
attribute [local go_sem] Oper.semAt_some
/-- Are the places those in order, as far as they are told? -/
def InOrd (ys : List (Int × Int)) : Prop := ∀ (i : Nat) (y : Int × Int), ys[i]? = some y → y.2 = (i : Int)
instance (ys : List (Int × Int)) : Decidable (InOrd ys) := decidable_of_iff ((List.range ys.length).all (fun i => match ys[i]? with | some y => y.2 == (i : Int) | none => true) = true) (by
  simp only [List.all_eq_true, List.mem_range]
  constructor
  · intro h i y hy
    have := h i (List.getElem?_eq_some_iff.1 hy).1
    rw [hy] at this
    simpa using this
  · intro h i _
    cases hy : ys[i]? with
    | none => rfl
    | some y => simpa using h i y hy)
def namedN (ms : List MV) (top : List Int) : Int := (ms.map fun x => (x.1.kids.length : Int)).foldl (· + ·) (top.length : Int)
theorem named_next (ms : List MV) (top : List Int) (i : Nat) (x : MV) (h : ms[i]? = some x) : namedN (ms.take (i + 1)) top = namedN (ms.take i) top + (x.1.kids.length : Int) := by
  unfold namedN
  rw [List.take_add_one, h]
  simp
def RgI (w : World) (N : Nat) (pre : List (Int × Int)) (W : World) : Prop := Boxed W w.heap.size 4 (.bool false) ∧ Boxed W N 3 (.int .i64 (pre.length : Int)) ∧ Below w.heap.size w W ∧ InOrd pre
def RgX (w : World) (all : List (Int × Int)) (_ : List (Int × Int)) (W : World) : Prop := Boxed W w.heap.size 4 (.bool false) ∧ Below w.heap.size w W ∧ ¬ InOrd all
theorem RgI.kept {w : World} {N B' : Nat} (hB : w.heap.size < B') (hl : N < B') : OwnFrom B' (RgI w N) := by
  rintro pre X Y row ⟨h0, h1, h2, h3⟩ hg hr
  refine ⟨h0.kept hg (fun e => ?_), h1.kept hg (fun e => ?_), h2.grown hg h2.size (fun k e => Nat.le_trans (Nat.le_of_lt hB) (hr k e).1), h3⟩
  · have := (hr _ e.symm).1; omega
  · have := (hr _ e.symm).1; omega
theorem RgX.kept {w : World} {B' : Nat} {all : List (Int × Int)} (hB : w.heap.size < B') : OwnFrom B' (RgX w all) := by
  rintro pre X Y row ⟨h0, h2, h3⟩ hg hr
  refine ⟨h0.kept hg (fun e => ?_), h2.grown hg h2.size (fun k e => Nat.le_trans (Nat.le_of_lt hB) (hr k e).1), h3⟩
  have := (hr _ e.symm).1; omega
theorem RgI.box {w : World} {N : Nat} {pre : List (Int × Int)} {X : World} (h : RgI w N pre X) {k : Nat} (u : Value) (hk : w.heap.size < k) (hne : N ≠ k) : RgI w N pre (X.setCell ⟨k, 0, none⟩ u) :=
  ⟨(Below.heap_setCell X ⟨k, 0, none⟩ u _ (by simp; omega)).trans h.1, (Below.heap_setCell X ⟨k, 0, none⟩ u N hne).trans h.2.1, h.2.2.1.setCell (by simp; omega) u, h.2.2.2⟩
theorem inOrd_next {pre : List (Int × Int)} {x : Int × Int} (h : InOrd pre) (hx : x.2 = (pre.length : Int)) : InOrd (pre ++ [x]) := by
  intro i y hy
  by_cases hi : i < pre.length
  · rw [List.getElem?_append_left hi] at hy; exact h i y hy
  · rw [List.getElem?_append_right (by omega)] at hy
    obtain ⟨j, hj⟩ : ∃ j, i - pre.length = j := ⟨_, rfl⟩
    rw [hj] at hy
    cases j with
    | zero => simp at hy; subst hy; rw [hx]; omega
    | succ j => simp at hy
theorem inOrd_not {pre all : List (Int × Int)} {x : Int × Int} (hp : (pre ++ [x]) <+: all) (hx : ¬ x.2 = (pre.length : Int)) : ¬ InOrd all := by
  intro h
  obtain ⟨r, hr⟩ := hp
  exact hx (h pre.length x (by rw [← hr]; simp))
set_option maxRecDepth 100000 in
set_option maxHeartbeats 8000000 in
theorem right_walk (fv tv : Value) (ms : List MV) (top : List Int) (w : World) (hL : Laid w) (hm : SeesM w fv ms) (ht : SeesC w tv top.length 1 (intsI top)) (hn : ms.length ≤ 400) (htl : top.length ≤ 281474976710656) (hkl : ∀ x ∈ ms, x.1.kids.length ≤ 281474976710656) (hsl : ∀ x ∈ ms, x.1.s.size ≤ 140737488355328)
    (hok : ∀ (i : Nat) (x : MV), ms[i]? = some x → okF x.1 = true) {t' : Int} {all : List (Int × Int)} {ok : Bool} (hW : WalkR (kidsOf ms) ms.length 0 (-1) (-1) top t' all ok) :
    Calls Tryd.prog 17 #[fv, tv] w fun e w' => e = .returned (.bool (decide (InOrd all) && (decide ((all.length : Int) = ms.length) && (decide (namedN ms top = ms.length) && decide (depthOf ms top ≤ 12))))) ∧ Below w.heap.size w w' := by
  obtain ⟨RR, hRR⟩ : ∃ b : Bool, (decide (InOrd all) && (decide ((all.length : Int) = ms.length) && (decide (namedN ms top = ms.length) && decide (depthOf ms top ≤ 12)))) = b := ⟨_, rfl⟩
  rw [hRR]
  have HRR := hidI hRR
  clear hRR
  have ht2 := ht
  obtain ⟨_, fa, fc, hfv, _⟩ := hm.row
  obtain ⟨_, ta, tc, htv, _⟩ := ht
  subst hfv
  subst htv
  have HM := hidI hm
  have HT := hidI ht2
  have HL := hidI hL
  have HOK := hidI hok
  have HKL := hidI hkl
  have HSL := hidI hsl
  have HW := hidI hW
  have e1 : ¬ (400 : Int) < (ms.length : Int) := by omega
  have g0 := Boxed.new w 4 (.bool false)
  have HG0 := hidI g0
  have HB0 : Hid (Below w.heap.size w (w.alloc (.cells #[.bool false] 4))) := hidI (by (repeat (first | exact Below.refl _ _ | assumption | refine Below.drew ?_ | refine Below.alloc ?_ (by first | omega | (simp; done) | (simp; omega)) _ | refine Below.setCell ?_ (by first | omega | (simp; done) | (simp; omega)) _)))
  clear hm ht2 hok hL hkl hsl g0 hW
  refine (callsIn_wide (n := 0)).1 ?_
  refine callsIn_of_wp_marks Tryd.func17 rfl trivial ?_ rfl
  simp only [Tryd.ntmps17, List.size_toArray, List.length_cons, List.length_nil, Nat.reduceAdd, Nat.reduceSub, Array.replicate_succ, Array.replicate_zero, List.push_toArray, List.append_toArray, List.nil_append, List.cons_append]
  gi_wp2
  gi_loopg [5, 18] ms.length (fun g s5 s18 wx => ∃ (i : Nat), i + g = ms.length ∧ s18 = .int .i64 (i : Int) ∧ s5 = .int .i64 (namedN (ms.take i) top) ∧ 0 ≤ namedN (ms.take i) top ∧ namedN (ms.take i) top ≤ 281474976710656 * ((i : Int) + 1) ∧ Hid (Boxed wx w.heap.size 4 (.bool false)) ∧ Hid (Below w.heap.size w wx))
  case atStart => exact ⟨0, by omega, rfl, by simp [namedN], by simp [namedN], by simp [namedN]; omega, HG0, HB0⟩
  case round =>
    obtain ⟨i, hi, rfl, rfl, hn0, hn1, HG, HB⟩ := hrel
    cases gk with
    | zero =>
      obtain rfl : i = ms.length := by omega
      have e2 : ¬ ((ms.length : Int) < (ms.length : Int)) := by omega
      rw [List.take_length] at hn0 hn1 ⊢
      have hG := HG.out
      gi_wp2_with (refine ⟨trivial, rfl, ?_⟩; gi_at_call 28; refine (callsIn_wide.2 (walk_any _ _ _ _ _ _ _)).mono ?_; rintro e w' ⟨rfl, rfl⟩)
      have hwl : w.heap.size < wr.heap.size := HG.out.lt
      have hb0 : Below wr.heap.size wr (((wr.alloc (.cells #[.int .i64 0] 3)).alloc (.cells #[.slice fa ms.length fc] 23)).alloc (.cells #[.slice ta top.length tc] 24)) := by (repeat (first | exact Below.refl _ _ | assumption | refine Below.drew ?_ | refine Below.alloc ?_ (by first | omega | (simp; done) | (simp; omega)) _ | refine Below.setCell ?_ (by first | omega | (simp; done) | (simp; omega)) _))
      have k0 := ((HG.out.alloc (.cells #[.int .i64 0] 3)).alloc (.cells #[.slice fa ms.length fc] 23)).alloc (.cells #[.slice ta top.length tc] 24)
      have k1 := ((Boxed.new wr 3 (.int .i64 0)).alloc (.cells #[.slice fa ms.length fc] 23)).alloc (.cells #[.slice ta top.length tc] 24)
      have k2 := (Boxed.new (wr.alloc (.cells #[.int .i64 0] 3)) 23 (.slice fa ms.length fc)).alloc (.cells #[.slice ta top.length tc] 24)
      have k3 := Boxed.new ((wr.alloc (.cells #[.int .i64 0] 3)).alloc (.cells #[.slice fa ms.length fc] 23)) 24 (.slice ta top.length tc)
      simp only [World.size_alloc] at k2 k3
      have hsz : (((wr.alloc (.cells #[.int .i64 0] 3)).alloc (.cells #[.slice fa ms.length fc] 23)).alloc (.cells #[.slice ta top.length tc] 24)).heap.size = wr.heap.size + 3 := by simp
      obtain ⟨W0, hW0⟩ : ∃ W0, ((wr.alloc (.cells #[.int .i64 0] 3)).alloc (.cells #[.slice fa ms.length fc] 23)).alloc (.cells #[.slice ta top.length tc] 24) = W0 := ⟨_, rfl⟩
      rw [hW0] at hb0 k0 k1 k2 k3 hsz ⊢
      clear hW0
      have hbw : Below w.heap.size w W0 := HB.out.trans (hb0.mono HB.out.size)
      have hsm0 := HM.out.below hbw (Nat.le_refl _)
      have htp0 := HT.out.below hbw (Nat.le_refl _)
      have hseq := walk_seq (.slice fa ms.length fc) (.slice ta top.length tc) ms top (wr.heap.size + 1) (wr.heap.size + 1 + 1) (fun k => k = w.heap.size ∨ k = wr.heap.size) W0 k2.cell k3.cell hsm0 htp0 (by omega) (fun k hk => by omega) (by
          rintro v n (⟨rfl, rfl⟩ | ⟨rfl, rfl⟩ | ⟨x, hx, rfl, rfl⟩) hn k hk
          · have := sees_lt HM.out.row (by decide) hn k hk; omega
          · have := sees_lt HT.out (by decide) hn k hk; omega
          · obtain ⟨i, hi⟩ := List.getElem?_of_mem hx
            have := sees_lt (HM.out.kid i x hi) (by decide) hn k hk; omega) (fun x hx => by have := HKL.out x hx; omega) (by omega) (by omega) HW.out
      have hmost := HW.out.most (by omega)
      have htold := HW.out.told
      refine range_walk (gf := 47) (lb := #[.pointer (some ⟨wr.heap.size + 1, 0, none⟩), .pointer (some ⟨wr.heap.size + 1 + 1, 0, none⟩)]) rfl (enters_of Tryd.func47 (by kernel_rfl) rfl) hseq rfl
        (RgI w wr.heap.size) (RgX w all) ?hI ?hIo ?hIx ?h0
        (fun st W => RgI w wr.heap.size st.1 W ∧ st.2.2 = { tmps := #[.slice fa ms.length fc, .slice ta top.length tc, undef, undef, .pointer (some ⟨w.heap.size, 0, none⟩), .int .i64 (namedN ms top), undef, u7, .pointer (some ⟨wr.heap.size, 0, none⟩), undef, .int .i64 st.2.1.2, .slice fa ms.length fc, .int .i64 (ms.length : Int), .bool false, .slice ta top.length tc, .int .i64 (top.length : Int), .slice fa ms.length fc, .int .i64 (ms.length : Int), .int .i64 (ms.length : Int), .bool false, u20, u21, u22, u23, u24, u25, u26, u27, u28, u29, u30, .slice fa ms.length fc, .slice ta top.length tc, .func (.func 47) #[] #[.pointer (some ⟨wr.heap.size + 1, 0, none⟩), .pointer (some ⟨wr.heap.size + 1 + 1, 0, none⟩)], .int .i64 st.2.1.1, .int .i64 st.2.1.2, undef, undef, undef, undef, undef, undef, undef, undef, undef, undef, undef, undef, undef, undef, undef, undef, undef, undef, undef, undef, undef], defers := [] })
        ?hAx ?assign ?body ?done ?stop
      case hI => exact RgI.kept (by omega) (by omega)
      case hIo => exact fun pre X u k h1 h2 h => h.box u (by omega) (by omega)
      case hIx => exact RgX.kept (by omega)
      case h0 => exact ⟨k0, k1, hbw, fun i y hy => by simp at hy⟩
      case hAx =>
        rintro st X Y row ⟨h1, ha⟩ hg hrow
        exact ⟨RgI.kept (B' := W0.heap.size) (by omega) (by omega) st.1 X Y row h1 hg hrow, ha⟩
      case assign =>
        rintro l pre x W K hi hK
        dsimp only [encP]
        gi_wp2
        exact hK _ _ (KeepsFrom.refl _ _) (Keeps.refl _ _) ⟨hi, rfl⟩
      case body =>
        rintro l pre ⟨xu, xp⟩ a' W hR ⟨hi, ha⟩
        dsimp only at ha
        subst ha
        obtain ⟨q0, q1, q2, q3⟩ := hi
        have hlen : pre.length < all.length := by have := hR.length_le; simp at this; omega
        have c0 := q0.cell
        have f0 := q0.frozen
        have c1 := q1.cell
        have f1 := q1.frozen
        have hw1 : IntKind.i64.wrap ((pre.length : Int) + 1) = (pre.length : Int) + 1 := by rw [IntKind.wrap_i64]; omega
        have Q0 := hidI q0
        have Q1 := hidI q1
        have Q2 := hidI q2
        have Q3 := hidI q3
        have HR := hidI hR
        clear q0 q1 q2 q3 hR
        by_cases hxp : xp = (pre.length : Int)
        · subst hxp
          gi_wp2
          refine ⟨(KeepsOthers.setCell _ _ _).from _, Keeps.grown (grownBy_setCell' W wr.heap.size _) (fun k o e _ ht => ?_), ?_, ?_, ?_, ?_⟩
          · cases e; exact ht.2.1 (.inr rfl)
          · exact (Below.heap_setCell W ⟨wr.heap.size, 0, none⟩ _ w.heap.size (by simp; omega)).trans Q0.out
          · have := Q1.out.set (.int .i64 ((pre.length : Int) + 1))
            rw [List.length_append]
            exact this
          · exact Q2.out.setCell (by simp; omega) _
          · exact inOrd_next Q3.out rfl
        · have HX := hidI (inOrd_not HR.out hxp)
          have qx : (xp == (pre.length : Int)) = false := by simp [hxp]
          gi_wp2
          refine ⟨(KeepsOthers.setCell _ _ _).from _, ?_, ?_, ?_⟩
          · exact Q0.out.set _
          · exact Q2.out.setCell (Nat.le_refl _) _
          · exact HX.out
      case done =>
        rintro D xs W hD rfl ⟨q0, q1, q2, q3⟩ hK
        have c0 := q0.cell
        have f0 := q0.frozen
        have c1 := q1.cell
        have hDl : D < W.heap.size := (Array.getElem?_eq_some_iff.1 hK).1
        have HD := hidI (depth_any (.slice fa ms.length fc) (.slice ta top.length tc) ms top W (HM.out.below q2 (Nat.le_refl _)) (HT.out.below q2 (Nat.le_refl _)) (by omega) (fun x hx => by have := HKL.out x hx; omega) (by omega))
        have Q0 := hidI q0
        have Q2 := hidI q2
        have hord : decide (InOrd xs) = true := by simp [q3]
        have hR2 := HRR.out
        rw [hord, Bool.true_and] at hR2
        clear q0 q1 q2 q3 hord k0 k1 k2 k3 hseq hsm0 htp0 hmost htold
        obtain ⟨dp, hdp⟩ : ∃ dp, depthOf ms top = dp := ⟨_, rfl⟩
        rw [hdp] at HD hR2
        obtain ⟨nm, hnm⟩ : ∃ nm, namedN ms top = nm := ⟨_, rfl⟩
        rw [hnm] at hR2 ⊢
        by_cases h1 : (xs.length : Int) = ms.length
        · have p1 : ((xs.length : Int) == (ms.length : Int)) = true := by simp [h1]
          rw [decide_eq_true h1, Bool.true_and] at hR2
          by_cases h2 : nm = ms.length
          · have p2 : (nm == (ms.length : Int)) = true := by simp [h2]
            rw [decide_eq_true h2, Bool.true_and] at hR2
            have hR3 := hidI hR2
            clear hR2 h1 h2 hdp hnm
            gi_wp2
            refine ⟨trivial, rfl, (callsIn_wide.2 HD.out).mono ?_⟩
            rintro e w1 ⟨rfl, hb1⟩
            have hz := box_below Q0.out hb1
            have hzc := hz.cell
            have hzf := hz.frozen
            have hK1 : w1.heap[D]? = some (.deferred (some [])) := (hb1.block D hDl).trans hK
            have hB1 := Q2.out.trans (hb1.mono Q2.out.size)
            have HB1 := hidI hB1
            have HZ := hidI hz
            have HK1 := hidI hK1
            obtain ⟨bb, hbb⟩ : ∃ bb, decide (dp ≤ 12) = bb := ⟨_, rfl⟩
            have hR4 := hR3.out
            rw [hbb] at hR4
            have HR4 := hidI hR4
            clear hb1 hz hB1 hK1 hK hR4 HD
            gi_wp2
            have hK' : (w1.setCell ⟨w.heap.size, 0, none⟩ (.bool bb)).heap[D]? = some (.deferred (some [])) := (Below.heap_setCell w1 ⟨w.heap.size, 0, none⟩ _ D (by simp; omega)).trans HK1.out
            have hbl := HB1.out.setCell (p := ⟨w.heap.size, 0, none⟩) (Nat.le_refl _) (.bool bb)
            have d0 : Boxed ((w1.setCell ⟨w.heap.size, 0, none⟩ (.bool bb)).putObj D (.deferred none)) w.heap.size 4 (.bool bb) := (World.putObj_heap_other (by omega)).trans (HZ.out.set _)
            have z0 := d0.cell
            refine ⟨by simp, .inl ⟨_, _, rfl, run_takeDeferred hK', ?_⟩⟩
            refine ⟨.bool bb, ?_, by rw [← HR4.out], hbl.trans (belowK_b (w := w) (Nat.le_refl _) _ D _ _ (by omega) hK' rfl rfl)⟩
            rw [results_one rfl]
            go_simp
          · have p2 : (nm == (ms.length : Int)) = false := by simp [h2]
            rw [decide_eq_false h2, Bool.false_and] at hR2
            have hR3 := hidI hR2
            clear hR2 h1 h2 hdp hnm
            gi_wp2
            refine ⟨trivial, ?_⟩
            gi_wp2
            have hzs := (Q0.out.set (.bool false)).cell
            have hK' : (W.setCell ⟨w.heap.size, 0, none⟩ (.bool false)).heap[D]? = some (.deferred (some [])) := (Below.heap_setCell W ⟨w.heap.size, 0, none⟩ _ D (by simp; omega)).trans hK
            have hbl := Q2.out.setCell (p := ⟨w.heap.size, 0, none⟩) (Nat.le_refl _) (.bool false)
            have d0 : Boxed ((W.setCell ⟨w.heap.size, 0, none⟩ (.bool false)).putObj D (.deferred none)) w.heap.size 4 (.bool false) := (World.putObj_heap_other (by omega)).trans (Q0.out.set _)
            have z0 := d0.cell
            refine ⟨by simp, .inl ⟨_, _, rfl, run_takeDeferred hK', ?_⟩⟩
            refine ⟨.bool false, ?_, by rw [← hR3.out], hbl.trans (belowK_b (w := w) (Nat.le_refl _) _ D _ _ (by omega) hK' rfl rfl)⟩
            rw [results_one rfl]
            go_simp
        · have p1 : ((xs.length : Int) == (ms.length : Int)) = false := by simp [h1]
          rw [decide_eq_false h1, Bool.false_and] at hR2
          have hR3 := hidI hR2
          clear hR2 h1 hdp hnm
          gi_wp2
          refine ⟨trivial, ?_⟩
          gi_wp2
          have hzs := (Q0.out.set (.bool false)).cell
          have hK' : (W.setCell ⟨w.heap.size, 0, none⟩ (.bool false)).heap[D]? = some (.deferred (some [])) := (Below.heap_setCell W ⟨w.heap.size, 0, none⟩ _ D (by simp; omega)).trans hK
          have hbl := Q2.out.setCell (p := ⟨w.heap.size, 0, none⟩) (Nat.le_refl _) (.bool false)
          have d0 : Boxed ((W.setCell ⟨w.heap.size, 0, none⟩ (.bool false)).putObj D (.deferred none)) w.heap.size 4 (.bool false) := (World.putObj_heap_other (by omega)).trans (Q0.out.set _)
          have z0 := d0.cell
          refine ⟨by simp, .inl ⟨_, _, rfl, run_takeDeferred hK', ?_⟩⟩
          refine ⟨.bool false, ?_, by rw [← hR3.out], hbl.trans (belowK_b (w := w) (Nat.le_refl _) _ D _ _ (by omega) hK' rfl rfl)⟩
          rw [results_one rfl]
          go_simp
      case stop =>
        rintro D pre W hD ⟨q0, q2, q3⟩ hK
        have d0 : Boxed (W.putObj D (.deferred none)) w.heap.size 4 (.bool false) := (World.putObj_heap_other (by omega)).trans q0
        have z0 := d0.cell
        have Q2 := hidI q2
        have hord : decide (InOrd all) = false := by simp [q3]
        have hR2 := HRR.out
        rw [hord, Bool.false_and] at hR2
        subst hR2
        clear q0 q2 q3 hord k0 k1 k2 k3 hseq hsm0 htp0
        gi_wp2
        refine ⟨by simp, .inl ⟨_, _, rfl, run_takeDeferred hK, ?_⟩⟩
        refine ⟨.bool false, ?_, rfl, Q2.out.trans (belowK_b (w := w) (Nat.le_refl _) W D _ _ (by omega) hK rfl rfl)⟩
        rw [results_one rfl]
        go_simp
    | succ g =>
      have hil : i < ms.length := by omega
      have hxn : ms[i]? = some ms[i] := List.getElem?_eq_getElem hil
      obtain ⟨x, hx⟩ : ∃ x, ms[i] = x := ⟨_, rfl⟩
      rw [hx] at hxn
      have hsm := HM.out.below HB.out (Nat.le_refl _)
      obtain ⟨fb, fo, fc', ka, kc, hfv, hkv, y0, y1, y2, y3, y4⟩ := hsm.load hxn
      cases hfv
      have e2 : (i : Int) < (ms.length : Int) := by omega
      have e3 : (0 : Int) ≤ (i : Int) := by omega
      have e4 : ((i : Int)).toNat = i := by omega
      have hkx := HKL.out x (List.mem_of_getElem? hxn)
      have hbA : Below wr.heap.size wr (wr.alloc (.cells #[.int .u8 x.1.k, .string x.1.s, .int .i64 x.1.n, .slice ka x.1.kids.length kc, .int .i64 x.1.p] 40)) := by (repeat (first | exact Below.refl _ _ | assumption | refine Below.drew ?_ | refine Below.alloc ?_ (by first | omega | (simp; done) | (simp; omega)) _ | refine Below.setCell ?_ (by first | omega | (simp; done) | (simp; omega)) _))
      have hLA := (HL.out.on HB.out).on hbA
      have HC := hidI (isRight_any x.1 ka kc (HSL.out x (List.mem_of_getElem? hxn)) _ hLA)
      have HBA := hidI (HB.out.trans (hbA.mono HB.out.size))
      have hGA := HG.out.alloc (.cells #[.int .u8 x.1.k, .string x.1.s, .int .i64 x.1.n, .slice ka x.1.kids.length kc, .int .i64 x.1.p] 40)
      have HGA := hidI hGA
      have hks : (wr.alloc (.cells #[.int .u8 x.1.k, .string x.1.s, .int .i64 x.1.n, .slice ka x.1.kids.length kc, .int .i64 x.1.p] 40)).cell? ⟨wr.heap.size, 3, none⟩ = some (.slice ka x.1.kids.length kc) := by go_simp
      have HKS := hidI hks
      have hszA : wr.heap.size < (wr.alloc (.cells #[.int .u8 x.1.k, .string x.1.s, .int .i64 x.1.n, .slice ka x.1.kids.length kc, .int .i64 x.1.p] 40)).heap.size := by simp
      have HNN := hidI (named_next ms top i x hxn)
      obtain ⟨nm, hnm⟩ : ∃ nm, namedN (ms.take i) top = nm := ⟨_, rfl⟩
      rw [hnm] at hn0 hn1 HNN ⊢
      have wk : IntKind.i64.wrap (nm + (x.1.kids.length : Int)) = nm + (x.1.kids.length : Int) := by rw [IntKind.wrap_i64]; omega
      have hb := HOK.out i x hxn
      rw [hb] at HC
      clear hx hsm hxn hkv hbA hLA hks hGA hb hnm
      gi_wp2_with (refine ⟨trivial, rfl, ?_⟩; gi_at_call 31; refine (callsIn_wide.2 HC.out).mono ?_; rintro e w1 ⟨rfl, hb1⟩; have hz := box_below HGA.out hb1; have hks1 := (hb1.cell (p := ⟨wr.heap.size, 3, none⟩) hszA).trans HKS.out; have HB1 := hidI hb1; have HZ := hidI hz; clear hb1 hz)
      go_roundg g
      case measure => omega
      case rel => exact ⟨i + 1, by omega, by go_num, by rw [HNN.out], by rw [HNN.out]; omega, by rw [HNN.out]; omega, HZ, hidI (HBA.out.trans (HB1.out.mono HBA.out.size))⟩
end Go.Proofs.YtnlplkchkhibaaaDoor
