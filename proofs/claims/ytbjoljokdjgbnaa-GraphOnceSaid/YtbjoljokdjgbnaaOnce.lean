/-
  Out of all nodes are all edges, each once: the law GraphOnce, walked.
-/
import Derived.Test.YtbjoljokdjgbnaaCount
import Derived.Test.YtbjoljokdjgbnaaBack
import Derived.Deep.RegionHeld
namespace Go.Proofs.Ytbjoljokdjgbnaa
open Go.RowKit Go.Deep
theorem make1 (c : Nat) (hc : c ≤ 1000) (W : World) : (Instr.makeSlice 35 (.int .i64 (c : Int)) (.int .i64 (c : Int))).run Try.prog W = .ok (.slice (some ⟨W.heap.size, 0, none⟩) c c) (W.alloc (.cells (madeCells #[.int .i64 0] c) 3)) := by
  obtain ⟨i0, hi, hz0, hz1, hz2⟩ := info_parts Try.info3
  have := run_make (P := Try.prog) W 35 3 i0 (.int .i64 0) Try.underlying35 hi hz0 .i64 .i64 (c : Int) (c : Int) (by omega) (by omega) (by rw [hz2]; omega) (by omega)
  rw [hz1] at this
  simp only [Int.toNat_natCast, Nat.mul_one] at this
  exact this
theorem Sees.kept {w w' : World} {v : Value} {zs : List Int} {ob : Nat} (h : Sees w v zs) (hg : w.grownBy w' (some ob)) (hf : Fresh (ob + 1) v) : Sees w' v zs := by
  obtain ⟨a, cap, rfl, h⟩ := h
  refine ⟨a, cap, rfl, ?_⟩
  rcases h with h | ⟨b, off, rfl, hc⟩
  · exact .inl h
  · have := hf b rfl
    exact .inr ⟨b, off, rfl, fun j hj => kept_cell hg (hc j hj) (by simp; omega)⟩
/-- A part of a slice. -/
theorem run_cut (g cap l h len : Nat) (h1 : l ≤ h) (h2 : h ≤ cap) : ∃ a c, (∀ W : World, (Instr.slice 35 (.slice (some ⟨g, 0, none⟩) len cap) (some (.int .i64 (l : Int))) (some (.int .i64 (h : Int))) none).run Try.prog W = .ok (.slice a (h - l) c) W) ∧ (l < h → a = some ⟨g, l, none⟩) := by
  obtain ⟨i0, hi, hz0, hz1, hz2⟩ := info_parts Try.info3
  have ht' : Try.prog.underlying 35 = some (.slice (Try.prog.elem 35)) := by simp [Program.elem, Try.underlying35]
  have he : Try.prog.elem 35 = 3 := by simp [Program.elem, Try.underlying35]
  refine ⟨(if cap = l then some ⟨g, 0, none⟩ else (some (⟨g, 0, none⟩ : Addr)).map (·.add (l * 1))), cap - l, fun W => ?_, fun hlt => ?_⟩
  · rw [run_slice_lh W 35 _ _ _ ht' .i64 .i64 _ _ (by omega) (by omega) (by omega), he]
    simp [sizeOf, typeInfo, hi, hz1, sliced, Result.andThen]
  · rw [if_neg (by omega)]
    simp [add_at]
theorem addAt_small (es : Edges) (N : Nat) (h : ∀ x ∈ es, good N x = true) (v j : Nat) (hj : j < es.length) (ps : List Int) (hp : ∀ p ∈ ps, 0 ≤ p) (hl : ps.length ≤ 30) : 0 ≤ (addAt 1 (counts es v) ps).getD j 0 ∧ (addAt 1 (counts es v) ps).getD j 0 ≤ 200 := by
  have := h es[j] (List.getElem_mem hj)
  simp only [good, Bool.and_eq_true, decide_eq_true_eq] at this
  rw [addAt_get _ _ _ _ (by rw [counts_length]; exact hj) hp, counts_get es j hj this.1.1 this.2.1]
  have := List.count_le_length (a := (j : Int)) (l := ps)
  split <;> split <;> omega
theorem addAt_small2 (es : Edges) (N : Nat) (h : ∀ x ∈ es, good N x = true) (v j : Nat) (hj : j < es.length) (ps qs : List Int) (hp : ∀ p ∈ ps, 0 ≤ p) (hl : ps.length ≤ 30) (hq : ∀ p ∈ qs, 0 ≤ p) (hlq : qs.length ≤ 30) : 0 ≤ (addAt 100 (addAt 1 (counts es v) ps) qs).getD j 0 ∧ (addAt 100 (addAt 1 (counts es v) ps) qs).getD j 0 ≤ 4000 := by
  have h1 := addAt_small es N h v j hj ps hp hl
  rw [addAt_get _ _ _ _ (by rw [addAt_length, counts_length]; exact hj) hq]
  have := List.count_le_length (a := (j : Int)) (l := qs)
  omega
theorem grown_below {W W1 W2 : World} {row : Option Nat} (h : W.grownBy W1 row) (hb : Below W1.heap.size W1 W2) : W.grownBy W2 row :=
  ⟨hb.1.trans h.1, hb.2.trans h.2, hb.3.trans h.3, Nat.le_trans h.4 hb.4, fun k hk hne => (hb.block k (Nat.lt_of_lt_of_le hk h.size)).trans (h.block k hk hne)⟩
theorem grown_trans {W W1 W2 : World} {row : Option Nat} (h : W.grownBy W1 row) (k : W1.grownBy W2 row) : W.grownBy W2 row :=
  ⟨k.1.trans h.1, k.2.trans h.2, k.3.trans h.3, Nat.le_trans h.4 k.4, fun i hi hne => (k.block i (Nat.lt_of_lt_of_le hi h.size) hne).trans (h.block i hi hne)⟩
theorem getD_append_right (xs ys : List Int) (j : Nat) : (xs ++ ys).getD (xs.length + j) 0 = ys.getD j 0 := by
  unfold List.getD
  rw [List.getElem?_append_right (by omega), Nat.add_sub_cancel_left]
theorem getD_append_left (xs ys : List Int) (j : Nat) (h : j < xs.length) : (xs ++ ys).getD j 0 = xs.getD j 0 := by
  simp [List.getD, List.getElem?_append_left h]
theorem begins_get (es : Edges) (N j : Nat) (h : j < N) : (begins es N).getD j 0 = ((cols es j).length : Int) := by
  simp [begins, List.getD, h]
set_option maxRecDepth 100000 in
set_option maxHeartbeats 8000000 in
theorem once_ok (n : Int) (fs : Edges) (gv : Value) (es : Edges) (w : World) (hv : ArgE w gv es) (hfs : es.take 32 = fs) (h1 : 1 ≤ n) (h2 : n ≤ 12) (h3 : fs.length ≤ 30) (hgd : ∀ x ∈ fs, good n x = true) :
    Calls Try.prog 7 #[.int .i64 n, gv] w fun e w' => e = .returned (.bool true) ∧ Below w.heap.size w w' := by
  obtain ⟨N, rfl⟩ : ∃ N : Nat, n = N := ⟨n.toNat, by omega⟩
  have C1 := hidI (few_any gv es w hv)
  rw [hfs] at C1
  have HG := hidI hgd
  clear hv hfs hgd
  go_enter Try.func7, Try.ntmps7
  go_wp2_with (go_at_call 9; refine Calls.mono C1.out ?_; rintro e w1 ⟨l, rfl, hs, rfl⟩; refine Hid.out ?_)
  refine hidI ?_
  have C2 := hidI (new_ok N l fs w hs h1 h2 h3 HG.out)
  obtain ⟨la, lcap, rfl, _⟩ := hs
  clear C1
  go_wp2_with (go_at_call 12; refine Calls.mono C2.out ?_; rintro e w1 ⟨gb, rfl, hg1, hb1⟩; refine Hid.out ?_)
  refine hidI ?_
  clear C2
  have mk := make1 fs.length (by omega)
  have mr := made_row w1 fs.length
  have bmk : Below w.heap.size w (w1.alloc (.cells (madeCells #[.int .i64 0] fs.length) 3)) := hb1.alloc hb1.size _
  have bm1 : Below w1.heap.size w1 (w1.alloc (.cells (madeCells #[.int .i64 0] fs.length) 3)) := (Below.refl _ w1).alloc (Nat.le_refl _) _
  have C3 := hidI (rows_walk gb N fs (w1.alloc (.cells (madeCells #[.int .i64 0] fs.length) 3)) (hg1.below bm1 (Nat.le_refl _)))
  have hca := cols_all fs N HG.out
  obtain ⟨m, hm⟩ : ∃ m, fs.length = m := ⟨_, rfl⟩
  have HCA := hidI hca
  rw [hm] at h3 mk mr bmk bm1 C3 hca ⊢
  rw [hca] at C3
  have HM := hidI hm
  have HR := hidI mr
  have HB := hidI bmk
  have HG1 := hidI hg1
  have HB1 := hidI hb1
  have ssz : (w1.alloc (.cells (madeCells #[.int .i64 0] m) 3)).heap.size = w1.heap.size + 1 := by simp
  clear hm mr bmk bm1 hg1 hb1 hca
  rw [ssz] at C3
  go_wp2_with (go_at_call 29; refine Calls.mono C3.out ?_; rintro e w3 ⟨rv, cv, rfl, hrv, hcv, hb3, ⟨cg, cc, rfl, hcg, hcc, hcm⟩, hfr⟩; refine Hid.out ?_)
  refine hidI ?_
  clear C3 ssz mk
  obtain ⟨ob, hob⟩ : ∃ ob, w1.heap.size = ob := ⟨_, rfl⟩
  rw [hob] at HR hb3 hcg hfr ⊢
  have row3 : Row w3 ob (counts fs 0) := by
    have := HR.out
    have h0 : counts fs 0 = List.replicate m 0 := by unfold counts; rw [HM.out]
    rw [h0]
    exact (hb3.block ob (by omega)).trans this
  have B3 : Below w.heap.size w w3 := HB.out.trans (hb3.mono (by have := HB1.out.size; omega))
  have B13 : Below ob w1 w3 := by
    rw [← hob]
    exact ((Below.refl _ w1).alloc (Nat.le_refl _) _).trans (hb3.mono (by omega))
  have hwo : w.heap.size ≤ ob := by have := HB1.out.size; omega
  have ho3 : ob < w3.heap.size := row3.lt
  have hrl : (begins fs (N + 1)).length = N + 1 := begins_length fs (N + 1)
  obtain ⟨ra, rc, rfl, hrc⟩ := hrv
  rw [hrl] at hrc hfr ⊢
  rcases hrc with hrc | ⟨rb, ro, rfl, hrc⟩
  · rw [hrc] at hrl; simp at hrl
  have hrb : ob + 1 ≤ rb := hfr rb rfl
  have hcc3 : ∀ j, j < m → w3.cell? ⟨cg, j, none⟩ = some (.int .i64 ((cols fs N).getD j 0)) := by
    obtain ⟨a', cap', he, hh⟩ := hcv
    rw [HCA.out, HM.out] at he hh
    cases he
    intro j hj
    rcases hh with hh | ⟨b', off', he', hh⟩
    · have h9 := HCA.out; rw [hh, HM.out] at h9; simp at h9; omega
    · cases he'
      have := hh j hj
      rwa [Nat.zero_add] at this
  have hg3 : IsG w3 (some ⟨gb, 0, none⟩) N fs := HG1.out.below B13 (by omega)
  have C4 := hidI (n_any _ _ _ w3 hg3)
  have GR := hidI (World.grownBy.refl w3 (some ob))
  have HRow := hidI row3
  have HB3 := hidI B3
  have HB13 := hidI B13
  have HRC := hidI hrc
  have HCC := hidI hcc3
  have HOB := hidI hob
  clear HR HB hfr hrl row3 B3 B13 hcv hb3 hrc hcc3 hg3 hob
  go_wp2_with (go_at_call 30; refine Calls.mono C4.out ?_; rintro e w' ⟨rfl, rfl⟩; refine Hid.out ?_)
  refine hidI ?_
  clear C4
  go_wp2
  go_loopg [9] N (fun g s9 wx => ∃ (v : Nat), v + g = N ∧ s9 = .int .i64 v ∧ Row wx ob (counts fs v) ∧ w3.grownBy wx (some ob))
  case atStart => exact ⟨0, by omega, rfl, HRow.out, GR.out⟩
  case round =>
    obtain ⟨v, hvg, rfl, hrow, hgr⟩ := hrel
    have b1x : Below ob w1 wr := HB13.out.grown hgr (by have := hgr.size; omega) (fun k hk => by cases hk; exact Nat.le_refl _)
    have bwx : Below w.heap.size w wr := HB3.out.grown hgr (by have := hgr.size; omega) (fun k hk => by cases hk; omega)
    have hgx : IsG wr (some ⟨gb, 0, none⟩) N fs := HG1.out.below b1x (by have := HOB.out; omega)
    have C5 := hidI (n_any _ _ _ wr hgx)
    have hox : ob < wr.heap.size := hrow.lt
    have HGX := hidI hgx
    have HROW := hidI hrow
    have HGR := hidI hgr
    have HBX := hidI bwx
    clear hgx hrow hgr bwx b1x HRow GR
    cases gk with
    | zero =>
      have hvN : v = N := by omega
      subst hvN
      go_wp2_with (go_at_call 30; refine Calls.mono C5.out ?_; rintro e w' ⟨rfl, rfl⟩; refine Hid.out ?_)
      refine hidI ?_
      clear C5
      go_wp2
      go_loopg [14] m (fun g s14 wy => ∃ (i : Nat), i + g = m ∧ s14 = .int .i64 i ∧ wr = wy)
      case atStart => exact ⟨0, by omega, rfl, rfl⟩
      case round =>
        obtain ⟨i, hig, rfl, rfl⟩ := hrel
        cases gk with
        | zero =>
          have him : i = m := by omega
          subst him
          have C6 := hidI (live_any wr)
          go_wp2_with (go_at_call 14; refine Calls.mono C6.out ?_; rintro e w5 ⟨rfl, hb5⟩)
          go_ret
          exact ⟨rfl, HBX.out.trans (hb5.mono HBX.out.size)⟩
        | succ g =>
          have him : i < m := by omega
          have ci := HROW.out.cell (j := i) (by rw [counts_length, HM.out]; exact him)
          rw [counts_all fs v HG.out i (by rw [HM.out]; exact him)] at ci
          go_wp2
          go_roundg g
          case measure => omega
          case rel => exact ⟨i + 1, by omega, by go_num, rfl⟩
    | succ g =>
      have hvN : v < N := by omega
      go_wp2_with (go_at_call 30; refine Calls.mono C5.out ?_; rintro e w' ⟨rfl, rfl⟩; refine Hid.out ?_)
      refine hidI ?_
      clear C5
      have C6 := hidI (out_new (some ⟨gb, 0, none⟩) (v : Int) fs (by have := HM.out; omega) wr HGX.out.walks)
      go_wp2_with (go_at_call 31; refine Calls.mono C6.out ?_; rintro e w4 ⟨av, rfl, hav, hb4, hfa⟩; refine Hid.out ?_)
      refine hidI ?_
      have C7 := hidI (in_new (some ⟨gb, 0, none⟩) (v : Int) fs (by have := HM.out; omega) w4 (HGX.out.below hb4 (Nat.le_refl _)).walks)
      have gr4 := grown_below HGR.out hb4
      have row4 : Row w4 ob (counts fs v) := (hb4.block ob hox).trans HROW.out
      have GR4 := hidI gr4
      have ROW4 := hidI row4
      have HAV := hidI hav
      have HFA := hidI hfa
      have s4 := hb4.size
      clear C6 hav hfa hb4 HGX HBX HGR HROW gr4 row4
      go_wp2_with (go_at_call 32; refine Calls.mono C7.out ?_; rintro e w5 ⟨bv, rfl, hbv, hb5, hfb⟩; refine Hid.out ?_)
      refine hidI ?_
      have gr5 := grown_below GR4.out hb5
      have row5 : Row w5 ob (counts fs v) := (hb5.block ob (by omega)).trans ROW4.out
      have hav5 := HAV.out.below hb5 (Nat.le_refl _)
      have s5 := hb5.size
      have GR5 := hidI gr5
      have ROW5 := hidI row5
      have HAV5 := hidI hav5
      have HBV := hidI hbv
      have HFB := hidI hfb
      clear C7 hbv hfb hb5 GR4 ROW4 HAV gr5 row5 hav5
      -- the part of cols
      obtain ⟨rest, hpart⟩ := cols_part fs hvN
      have hc1 : (cols fs (v + 1)).length = (cols fs v).length + (places fs (v : Int) false).length := by rw [cols_succ, List.length_append]
      have hc2 : (cols fs (v + 1)).length ≤ m := by
        have := HCA.out; rw [hpart, HM.out] at this
        rw [hc1]; simp at this; omega
      have r1 := HRC.out v (by omega)
      have r2 := HRC.out (v + 1) (by omega)
      rw [begins_get fs (N + 1) v (by omega)] at r1
      rw [begins_get fs (N + 1) (v + 1) (by omega)] at r2
      have q1 := kept_cell GR5.out r1 (by simp; omega)
      have q2 := kept_cell GR5.out r2 (by simp; omega)
      obtain ⟨ca, ccap, hcut, hca⟩ := run_cut cg cc (cols fs v).length (cols fs (v + 1)).length m (by omega) (by omega)
      have hsee : Sees w5 (.slice ca ((cols fs (v + 1)).length - (cols fs v).length) ccap) (places fs (v : Int) false) := by
        refine ⟨ca, ccap, by rw [hc1]; congr 1; omega, ?_⟩
        by_cases he : places fs (v : Int) false = []
        · exact .inl he
        · right
          have hlp := List.length_pos_iff.2 he
          refine ⟨cg, (cols fs v).length, hca (by omega), fun j hj => ?_⟩
          have := kept_cell GR5.out (HCC.out ((cols fs v).length + j) (by omega)) (by simp; omega)
          rw [this, hpart, getD_append_right, getD_append_left _ _ _ hj]
      have SAME := hidI (fun (W : World) (h : Sees W av (places fs (v : Int) false)) (h' : Sees W (.slice ca ((cols fs (v + 1)).length - (cols fs v).length) ccap) (places fs (v : Int) false)) => same_any av _ _ W h h' (by have := places_length fs (v : Int) false; have := HM.out; omega))
      obtain ⟨L0, hL0⟩ : ∃ L, (cols fs v).length = L := ⟨_, rfl⟩
      obtain ⟨L1, hL1⟩ : ∃ L, (cols fs (v + 1)).length = L := ⟨_, rfl⟩
      rw [hL0] at q1 hcut hsee SAME
      rw [hL1] at q2 hcut hsee SAME
      have HSEE := hidI (hsee.below ((Below.refl w5.heap.size w5).drew) (Nat.le_refl _))
      have HAVD := hidI (HAV5.out.below ((Below.refl w5.heap.size w5).drew) (Nat.le_refl _))
      clear hpart hc1 hc2 r1 r2 hca hsee hL0 hL1
      have k0 : (0 : Int) ≤ (v : Int) + 1 := by omega
      have k1 : (v : Int) + 1 < (N : Int) + 1 := by omega
      have k2 : ((v : Int) + 1).toNat = v + 1 := by omega
      have k3 : (v : Int) < (N : Int) + 1 := by omega
      have k4 : (v : Int) < (N : Int) := by omega
      have k5 : IntKind.i64.wrap ((v : Int) + 1) = (v : Int) + 1 := by rw [IntKind.wrap_i64]; omega
      go_wp2
      go_region_held (fun w' => w'.cell? ⟨rb, ro + v, none⟩ = some (.int .i64 L0) ∧ w'.cell? ⟨rb, ro + (v + 1), none⟩ = some (.int .i64 L1))
        (first | assumption | exact ⟨q1, q2⟩ | exact ⟨(hb6.cell (p := ⟨rb, ro + v, none⟩) (World.block_lt_of_cell? w5 _ q1)).trans q1, (hb6.cell (p := ⟨rb, ro + (v + 1), none⟩) (World.block_lt_of_cell? w5 _ q2)).trans q2⟩ | go_keep)
        ((go_at_call 16; refine (SAME.out w5.drew HAVD.out HSEE.out).mono ?_; rintro e w6 ⟨rfl, hb6⟩))
      have b56 : Below w5.heap.size w5 w6 := ((Below.refl w5.heap.size w5).drew).trans hb6
      have gr6 := grown_below GR5.out b56
      have row6 : Row w6 ob (counts fs v) := (b56.block ob (by omega)).trans ROW5.out
      have hav6 := HAV5.out.below b56 (Nat.le_refl _)
      have hbv6 := HBV.out.below b56 (Nat.le_refl _)
      have fa : Fresh (ob + 1) av := fun k hk => by have := HFA.out k hk; omega
      have fb : Fresh (ob + 1) bv := fun k hk => by have := HFB.out k hk; omega
      have hA : (places fs (v : Int) false).length ≤ 30 := by have := places_length fs (v : Int) false; have := HM.out; omega
      have hB : (places fs (v : Int) true).length ≤ 30 := by have := places_length fs (v : Int) true; have := HM.out; omega
      have mA : ∀ p ∈ places fs (v : Int) false, 0 ≤ p ∧ p < (m : Int) := fun p hp => by have := places_mem hp; rw [HM.out] at this; exact this
      have mB : ∀ p ∈ places fs (v : Int) true, 0 ≤ p ∧ p < (m : Int) := fun p hp => by have := places_mem hp; rw [HM.out] at this; exact this
      have hcs : counts fs (v + 1) = addAt 100 (addAt 1 (counts fs v) (places fs (v : Int) false)) (places fs (v : Int) true) := rfl
      have smA := fun (j : Nat) (hj : j < fs.length) (ps : List Int) => addAt_small fs N HG.out v j hj ps
      have smB := fun (j : Nat) (hj : j < fs.length) (ps qs : List Int) => addAt_small2 fs N HG.out v j hj ps qs
      have lA : ∀ ps, (addAt 1 (counts fs v) ps).length = m := fun ps => by rw [addAt_length, counts_length, HM.out]
      have lB : ∀ ps qs, (addAt 100 (addAt 1 (counts fs v) ps) qs).length = m := fun ps qs => by rw [addAt_length, addAt_length, counts_length, HM.out]
      obtain ⟨A, hAe⟩ : ∃ A, places fs (v : Int) false = A := ⟨_, rfl⟩
      obtain ⟨B, hBe⟩ : ∃ B, places fs (v : Int) true = B := ⟨_, rfl⟩
      rw [hAe] at hav6 hA mA hcs
      rw [hBe] at hbv6 hB mB hcs
      obtain ⟨aa, acap, rfl, hac⟩ := hav6
      obtain ⟨ba, bcap, rfl, hbc⟩ := hbv6
      have HAC := hidI hac
      have HBC := hidI hbc
      have HMA := hidI mA
      have HMB := hidI mB
      have HCS := hidI hcs
      have HSA := hidI smA
      have HSB := hidI smB
      have HLA := hidI lA
      have HLB := hidI lB
      have FA := hidI fa
      have FB := hidI fb
      have GR6 := hidI gr6
      have ROW6 := hidI row6
      clear hac hbc mA mB hcs smA smB lA lB fa fb gr6 row6 b56 hb6 hAe hBe HAV5 HBV HFA HFB SAME HSEE HAVD GR5 ROW5 hcut q1 q2
      obtain ⟨nA, hnA⟩ : ∃ n, A.length = n := ⟨_, rfl⟩
      obtain ⟨nB, hnB⟩ : ∃ n, B.length = n := ⟨_, rfl⟩
      rw [hnA] at hA ⊢
      rw [hnB] at hB ⊢
      have HNA := hidI hnA
      have HNB := hidI hnB
      clear hnA hnB
      go_wp2
      go_loopg [12] nA (fun g s12 wy => ∃ (i : Nat), i + g = nA ∧ s12 = .int .i64 i ∧ Row wy ob (addAt 1 (counts fs v) (A.take i)) ∧ w6.grownBy wy (some ob))
      case atStart => exact ⟨0, by omega, rfl, ROW6.out, World.grownBy.refl _ _⟩
      case round =>
        obtain ⟨i, hig, rfl, hrow, hgr⟩ := hrel
        have HROW := hidI hrow
        have HGR := hidI hgr
        clear hrow hgr
        cases gk with
        | zero =>
          have hin : i = nA := by omega
          subst hin
          have row7 : Row wr ob (addAt 1 (counts fs v) A) := by
            have := HROW.out
            rwa [List.take_of_length_le (by rw [HNA.out]; exact Nat.le_refl _)] at this
          have ROW7 := hidI row7
          clear row7 HROW
          go_wp2
          go_loopg [13] nB (fun g s13 wz => ∃ (i : Nat), i + g = nB ∧ s13 = .int .i64 i ∧ Row wz ob (addAt 100 (addAt 1 (counts fs v) A) (B.take i)) ∧ w6.grownBy wz (some ob))
          case atStart => exact ⟨0, by omega, rfl, ROW7.out, HGR.out⟩
          case round =>
            obtain ⟨q, hqg, rfl, hrow, hgr⟩ := hrel
            have HROW := hidI hrow
            have HGR2 := hidI hgr
            clear hrow hgr
            cases gk with
            | zero =>
              have hqn : q = nB := by omega
              subst hqn
              go_wp2
              go_roundg g
              case measure => omega
              case rel =>
                refine ⟨v + 1, by omega, by go_num, ?_, grown_trans GR6.out HGR2.out⟩
                rw [HCS.out]
                have := HROW.out
                rwa [List.take_of_length_le (by rw [HNB.out]; exact Nat.le_refl _)] at this
            | succ g2 =>
              have hlt : q < nB := by omega
              rcases HBC.out with h0 | ⟨ab, ao, rfl, hbc⟩
              · have := HNB.out; rw [h0] at this; simp at this; omega
              have hab : ob + 1 ≤ ab := FB.out ab rfl
              have ca := kept_cell HGR2.out (hbc q (by rw [HNB.out]; exact hlt)) (by simp; omega)
              obtain ⟨p0, pm⟩ := HMB.out (B.getD q 0) (by have := HNB.out; simp [List.getD, show q < B.length by omega])
              have htk : B.take (q + 1) = B.take q ++ [B.getD q 0] := by
                have : q < B.length := by have := HNB.out; omega
                rw [List.take_add_one]; simp [List.getD, this]
              obtain ⟨p, hp⟩ : ∃ p : Nat, B.getD q 0 = p := ⟨(B.getD q 0).toNat, by omega⟩
              rw [hp] at ca p0 pm htk
              have hpm : p < m := by omega
              have cp := HROW.out.cell (j := p) (by rw [HLB.out]; exact hpm)
              have fp := HROW.out.frozen p
              obtain ⟨sm0, sm1⟩ := HSB.out p (by rw [HM.out]; exact hpm) A (B.take q) (fun x hx => (HMA.out x hx).1) (by rw [HNA.out]; exact hA) (fun x hx => (HMB.out x (List.mem_of_mem_take hx)).1) (by rw [List.length_take]; omega)
              obtain ⟨z, hz⟩ : ∃ z, (addAt 100 (addAt 1 (counts fs v) A) (B.take q)).getD p 0 = z := ⟨_, rfl⟩
              rw [hz] at cp sm0 sm1
              have HZ := hidI hz
              have HTK := hidI htk
              have HP := hidI hp
              clear hz htk hp hbc p0
              go_wp2
              go_roundg g2
              case measure => omega
              case rel =>
                refine ⟨q + 1, by omega, by go_num, ?_, grown_trans HGR2.out (grownBy_set _ _ _ _)⟩
                rw [HTK.out, addAt_snoc]
                rw [Int.toNat_natCast, HZ.out]
                exact HROW.out.set p (z + 100)
        | succ g2 =>
          have hlt : i < nA := by omega
          rcases HAC.out with h0 | ⟨ab, ao, rfl, hac⟩
          · have := HNA.out; rw [h0] at this; simp at this; omega
          have hab : ob + 1 ≤ ab := FA.out ab rfl
          have ca := kept_cell HGR.out (hac i (by rw [HNA.out]; exact hlt)) (by simp; omega)
          obtain ⟨p0, pm⟩ := HMA.out (A.getD i 0) (by have := HNA.out; simp [List.getD, show i < A.length by omega])
          have htk : A.take (i + 1) = A.take i ++ [A.getD i 0] := by
            have : i < A.length := by have := HNA.out; omega
            rw [List.take_add_one]; simp [List.getD, this]
          obtain ⟨p, hp⟩ : ∃ p : Nat, A.getD i 0 = p := ⟨(A.getD i 0).toNat, by omega⟩
          rw [hp] at ca p0 pm htk
          have hpm : p < m := by omega
          have cp := HROW.out.cell (j := p) (by rw [HLA.out]; exact hpm)
          have fp := HROW.out.frozen p
          obtain ⟨sm0, sm1⟩ := HSA.out p (by rw [HM.out]; exact hpm) (A.take i) (fun x hx => (HMA.out x (List.mem_of_mem_take hx)).1) (by rw [List.length_take]; omega)
          obtain ⟨z, hz⟩ : ∃ z, (addAt 1 (counts fs v) (A.take i)).getD p 0 = z := ⟨_, rfl⟩
          rw [hz] at cp sm0 sm1
          have HZ := hidI hz
          have HTK := hidI htk
          have HP := hidI hp
          clear hz htk hp hac p0
          go_wp2
          go_roundg g2
          case measure => omega
          case rel =>
            refine ⟨i + 1, by omega, by go_num, ?_, grown_trans HGR.out (grownBy_set _ _ _ _)⟩
            rw [HTK.out, addAt_snoc]
            rw [Int.toNat_natCast, HZ.out]
            exact HROW.out.set p (z + 1)
set_option maxHeartbeats 1000000 in
theorem once_bad (n : Int) (fs : Edges) (gv : Value) (es : Edges) (w : World) (hv : ArgE w gv es) (hfs : es.take 32 = fs) (hc : (check n fs).2 = 11) :
    Calls Try.prog 7 #[.int .i64 n, gv] w fun e w' => e = .returned (.bool true) ∧ Below w.heap.size w w' := by
  have C1 := hidI (few_any gv es w hv)
  rw [hfs] at C1
  have HC := hidI hc
  clear hv hfs hc
  go_enter Try.func7, Try.ntmps7
  go_wp2_with (go_at_call 9; refine Calls.mono C1.out ?_; rintro e w1 ⟨l, rfl, hs, rfl⟩; refine Hid.out ?_)
  refine hidI ?_
  have C2 := hidI (new_nil n l fs w hs HC.out)
  clear C1 hs
  go_wp2_with (go_at_call 12; refine Calls.mono C2.out ?_; rintro e w1 ⟨rfl, hb1⟩; refine Hid.out ?_)
  refine hidI ?_
  have C3 := hidI (live_any w1)
  have HB1 := hidI hb1
  clear C2 hb1
  go_wp2_with (go_at_call 14; refine Calls.mono C3.out ?_; rintro e w5 ⟨rfl, hb5⟩)
  go_ret
  exact ⟨rfl, HB1.out.trans (hb5.mono HB1.out.size)⟩
/-- As the statement has its arguments. -/
theorem graphOnce_any (n : Int) (_ : -9223372036854775808 ≤ n ∧ n ≤ 9223372036854775807) {W : World} (v : Value) (es : Edges) (hv : ArgE W v es) (_ : ∀ x ∈ es, Wf x.1 ∧ Wf x.2) :
    Calls Try.prog 7 #[.int .i64 n, v] W fun e w' => e = .returned (.bool true) ∧ Below W.heap.size W w' := by
  rcases check_cases n (es.take 32) with h | ⟨h1, h2, h3, h4⟩
  · exact once_bad n _ v es W hv rfl h
  · exact once_ok n _ v es W hv rfl h1 h2 h3 h4
end Go.Proofs.Ytbjoljokdjgbnaa
