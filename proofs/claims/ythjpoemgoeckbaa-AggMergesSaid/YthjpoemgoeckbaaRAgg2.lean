/-
  The document's Agg: Take, Count, Clear, Whole, New.
-/
import Derived.Test.YthjpoemgoeckbaaRAgg
import Derived.Test.YthjpoemgoeckbaaRFrom
import Derived.Test.YthjpoemgoeckbaaTurnM
namespace Go.Proofs.Ythjpoemgoeckbaa
open Go.RowKit Go.Deep Go.MapKept Go.Sort
theorem Try.info39 : (Try.prog.info? 39).map (fun i => (i.zero, i.size, i.bytes)) = some (some (.slice none 0 0), 1, 24) := by kernel_rfl
theorem Try.info41 : (Try.prog.info? 41).map (fun i => (i.zero, i.size, i.bytes)) = some (some (.int .i64 0), 1, 8) := by kernel_rfl
theorem own_made0 (w : World) (e : Nat) : (w.alloc (.cells #[] e)).ownsRow w.heap.size e 1 (.slice (some ⟨w.heap.size, 0, none⟩) 0 0) 0 [] := World.ownsRow_made (base := w.heap.size) (e := e) (size := 1) w #[] 0 (Nat.le_refl _) (by unfold maxLen; omega) rfl
theorem one_seen (w : World) (x : Int) : SeesC (w.alloc (.cells #[.int .i64 x] 41)) (.slice (some ⟨w.heap.size, 0, none⟩) 1 1) 1 1 [.int .i64 x] := by
  refine ⟨rfl, _, _, rfl, .inr ⟨w.heap.size, 0, rfl, fun j c hc => ?_⟩⟩
  have hj := (List.getElem?_eq_some_iff.1 hc).1
  obtain rfl : j = 0 := by simpa using hj
  obtain rfl : Value.int .i64 x = c := by simpa using hc
  go_simp
theorem rtake_bad {w : World} {N : Nat → Prop} {p o : Nat} {rows : List (List Int)} (h : RAg w N p o rows) (k x : Int) (hk : mayE rows.length k = 2) : Calls Try.prog 30 #[.pointer (some ⟨p, 0, none⟩), .int .i64 k, .int .i64 x] w fun e w' => e = .returned (.int .i64 2) ∧ w = w' := by
  have C := hidI (rmay_any h k)
  rw [hk] at C
  clear h hk
  go_enter Try.func30, Try.ntmps30
  go_wp2_with (go_at_call 36; refine Calls.mono C.out ?_; rintro e w' ⟨rfl, rfl⟩)
  go_ret
  exact ⟨rfl, rfl⟩
theorem SeesW.below {w w' : World} {B : Nat} {v : Value} {zs : List Int} (h : SeesW w v zs) (hb : Below B w w') (hB : w.heap.size ≤ B) : SeesW w' v zs := h.grown (grown_of_below hb hB) (by simp)
theorem sliceOne {c : Value} {a : Option Addr} {n m : Nat} (h : c = .slice a n m) : c.oneCell' = true := by rw [h]; rfl
set_option maxRecDepth 100000 in
set_option maxHeartbeats 2000000 in
theorem rtake_any {w : World} {N : Nat → Prop} {p o : Nat} {rows : List (List Int)} (h : RAg w N p o rows) (wk : Nat) (row : List Int) (x : Int) (hw : rows[wk]? = some row) (hl : row.length ≤ 10000) (hn4 : rows.length ≤ 100) : Calls Try.prog 30 #[.pointer (some ⟨p, 0, none⟩), .int .i64 (wk : Int), .int .i64 x] w fun e w' => e = .returned (.int .i64 0) ∧ RAg w' N p o (rows.set wk (row ++ [x])) ∧ w.grownBy w' (some p) := by
  have H := hidI h
  have hwl := (List.getElem?_eq_some_iff.1 hw).1
  have C := hidI (rmay_any h (wk : Int))
  rw [show mayE rows.length (wk : Int) = 0 from if_pos (by omega)] at C
  obtain ⟨lv, k1, vs, hsc, hfree, hrows⟩ := h.c1
  have hsc' := hsc
  obtain ⟨hvl, a, cap, rfl, hs⟩ := hsc
  obtain ⟨v, hv⟩ : ∃ v, vs[wk]? = some v := ⟨_, List.getElem?_eq_getElem (by omega)⟩
  obtain ⟨hrw, _⟩ := hrows wk v row hv hw
  have HRW := hidI hrw
  obtain ⟨ra, rc, rfl, _, _⟩ := hrw
  have HVS := hidI hsc'
  have HRows := hidI hrows
  have HW := hidI hw
  have HV := hidI hv
  have HVL := hidI hvl
  have H1 : Hid (∀ c ∈ vs, c.oneCell' = true) := hidI fun c hc => by
    obtain ⟨j, hj⟩ := List.mem_iff_getElem?.1 hc
    have hjl := (List.getElem?_eq_some_iff.1 hj).1
    obtain ⟨⟨a', c', he, _⟩, _⟩ := hrows j c _ hj (List.getElem?_eq_getElem (show j < rows.length by omega))
    exact sliceOne he
  obtain ⟨n, hn⟩ : ∃ n, rows.length = n := ⟨_, rfl⟩
  have HN := hidI hn
  rw [hn] at hwl k1 HVS hn4
  obtain ⟨m, hm⟩ : ∃ m, row.length = m := ⟨_, rfl⟩
  have HM := hidI hm
  rw [hm] at hl HV
  have kw : (wk : Int) < (n : Int) := by omega
  have hpw := h.lt
  have HC1 := hidI k1
  have HF1 := hidI h.f1
  clear hs hrows hv hw hvl hsc' hfree h hn hm
  -- the worlds one behind the other
  have HO0 : Hid ((w.alloc (.cells #[] 39)).ownsRow w.heap.size 39 1 (.slice (some ⟨w.heap.size, 0, none⟩) 0 0) 0 []) := hidI (own_made0 w 39)
  have HS0 : Hid (SeesC (w.alloc (.cells #[] 39)) (.slice a n cap) n 1 vs) := hidI (HVS.out.below ((Below.refl _ _).alloc (Nat.le_refl _) _) (Nat.le_refl _))
  go_enter Try.func30, Try.ntmps30
  go_wp2_with (first | (go_at_call 36; refine Calls.mono C.out ?_; rintro e w' ⟨rfl, rfl⟩) | (at_builtin; go_must (refine wpList_append_any Try.underlying65 Try.info39 rfl (by decide) (by decide) rfl _ _ rfl w.heap.size _ 0 [] rfl HO0.out _ n vs rfl HS0.out H1.out (by omega) (by simp) ?_); intro v8 w8 hown8 hgrow8 _; refine Hid.out ?_))
  refine hidI ?_
  clear C HO0 HS0 k1
  rw [List.nil_append, Nat.zero_add] at hown8
  have HB8 : Hid (Below w.heap.size w w8) := hidI (Below.grown ((Below.refl _ _).alloc (Nat.le_refl _) _) hgrow8 (by simp) (fun k hk => by have e : some w.heap.size = some k := hk; cases e; exact Nat.le_refl _))
  obtain ⟨g, gc, hf8⟩ := Joins.ownsRow_form hown8 (by omega)
  subst hf8
  have HO8 := hidI hown8
  clear hown8 hgrow8
  have hgc : w8.cell? ⟨g, wk, none⟩ = some (.slice ra m rc) := by
    have := World.ownsRow.cells HO8.out rfl wk _ HV.out
    rw [Addr.add_lit, Nat.zero_add] at this
    exact this
  have hgl := (HO8.out.lt g rfl)
  have hs8 := HB8.out.size
  -- the new row
  have HOe : Hid ((w8.alloc (.cells #[] 41)).ownsRow w8.heap.size 41 1 (.slice (some ⟨w8.heap.size, 0, none⟩) 0 0) 0 []) := hidI (own_made0 w8 41)
  have HSe : Hid (SeesC (w8.alloc (.cells #[] 41)) (.slice ra m rc) m 1 (cellsW row)) := hidI (by
    have h1 := (HRW.out.sees).below HB8.out (Nat.le_refl _)
    rw [HM.out] at h1
    exact h1.below ((Below.refl _ _).alloc (Nat.le_refl _) _) (Nat.le_refl _))
  go_wp2_with (at_builtin; go_must (refine wpList_append_any Try.underlying39 Try.info41 rfl (by decide) (by decide) rfl _ _ rfl w8.heap.size _ 0 [] rfl HOe.out _ m (cellsW row) rfl HSe.out (cellsW_one _) (by omega) (by simp) ?_); intro vA wA hownA hgrowA _; refine Hid.out ?_)
  refine hidI ?_
  rw [List.nil_append, Nat.zero_add] at hownA
  have HBA : Hid (Below w8.heap.size w8 wA) := hidI (Below.grown ((Below.refl _ _).alloc (Nat.le_refl _) _) hgrowA (by simp) (fun k hk => by have e : some w8.heap.size = some k := hk; cases e; exact Nat.le_refl _))
  have HOA := hidI hownA
  clear hownA hgrowA HOe HSe
  have HOB := hidI (World.ownsRow.alloc HOA.out (.cells #[.int .i64 x] 41))
  have HSB := hidI (one_seen wA x)
  have hsA := HBA.out.size
  go_wp2_with (at_builtin; go_must (refine wpList_append_any Try.underlying39 Try.info41 rfl (by decide) (by decide) rfl _ _ rfl w8.heap.size _ m (cellsW row) rfl HOB.out _ 1 [.int .i64 x] rfl HSB.out (by simp [Value.oneCell']) (by omega) (by simp; omega) ?_); intro vB wB hownB hgrowB _; refine Hid.out ?_)
  refine hidI ?_
  have HBB : Hid (Below w8.heap.size w8 wB) := hidI (Below.grown (HBA.out.alloc hsA _) hgrowB (by simp; omega) (fun k hk => (HOB.out.lt k hk).1))
  have HOC : Hid (wB.ownsRow w8.heap.size 41 1 vB (m + 1) (cellsW (row ++ [x]))) := hidI (by
    have e : cellsW (row ++ [x]) = cellsW row ++ [.int .i64 x] := by simp [cellsW]
    rw [e]; exact hownB)
  clear hownB hgrowB HOA HOB HSB HBA
  have HO9 : Hid (wB.ownsRow w.heap.size 39 1 (.slice (some ⟨g, 0, none⟩) n gc) n vs) := hidI (own_below HO8.out HBB.out (Nat.le_refl _))
  have hgB : wB.cell? ⟨g, wk, none⟩ = some (.slice ra m rc) := (HBB.out.cell (p := ⟨g, wk, none⟩) hgl.2).trans hgc
  have hfB : wB.frozen? ⟨g, wk, none⟩ = false := by
    rcases HO9.out.2 with ⟨h0, _⟩ | ⟨g', cap', cur, he, hb, hh, h1, h2, h3, h4⟩
    · cases h0
    · simp only [Value.slice.injEq, Option.some.injEq, Addr.mk.injEq, and_true, true_and] at he
      obtain ⟨rfl, rfl⟩ := he
      unfold World.frozen?
      simp only [hh]
      simp
  have HBw : Hid (Below w.heap.size w wB) := hidI (HB8.out.trans (HBB.out.mono hs8))
  have hpB : wB.cell? ⟨p, 1, none⟩ = some (.slice a n cap) := (HBw.out.cell (p := ⟨p, 1, none⟩) hpw).trans HC1.out
  have hpf : wB.frozen? ⟨p, 1, none⟩ = false := (HBw.out.frozen (p := ⟨p, 1, none⟩) hpw).trans HF1.out
  have hgp : g ≠ p := by omega
  obtain ⟨va, vcc, hvB, _⟩ := own_cap HOC.out
  subst hvB
  clear hgc
  go_wp2
  go_ret
  -- what stands behind it
  have hset1 : (wB.setCell ⟨g, wk, none⟩ (.slice va (m + 1) vcc)).ownsRow w.heap.size 39 1 (.slice (some ⟨g, 0, none⟩) n gc) n (vs.set wk (.slice va (m + 1) vcc)) := own_set HO9.out _
  have hB1 : Below w.heap.size w (wB.setCell ⟨g, wk, none⟩ (.slice va (m + 1) vcc)) := HBw.out.setCell hgl.1 _
  have hfz1 : (wB.setCell ⟨g, wk, none⟩ (.slice va (m + 1) vcc)).frozen? ⟨p, 1, none⟩ = false := by rw [World.frozen?_setCell]; exact hpf
  have hcp1 : (wB.setCell ⟨g, wk, none⟩ (.slice va (m + 1) vcc)).cell? ⟨p, 1, none⟩ = some (.slice a n cap) := (World.cell?_setCell_other _ _ _ _ (by intro hh; simp only [Addr.mk.injEq] at hh; omega)).trans hpB
  have hg1 : wB.grownBy (wB.setCell ⟨g, wk, none⟩ (.slice va (m + 1) vcc)) (some g) := ⟨rfl, rfl, rfl, by simp, fun k _ hk => heap_setCell_other wB ⟨g, wk, none⟩ k _ (fun e => hk (by simp [e]))⟩
  have hnew : SeesW (wB.setCell ⟨g, wk, none⟩ (.slice va (m + 1) vcc)) (.slice va (m + 1) vcc) (row ++ [x]) := (seesW_of_owns HOC.out).grown hg1 fun b hb e => by
    have := (HOC.out.lt b hb).1
    cases e
    omega
  have hsW1 : wB.heap.size ≤ (wB.setCell ⟨g, wk, none⟩ (.slice va (m + 1) vcc)).heap.size := hg1.size
  generalize wB.setCell ⟨g, wk, none⟩ (.slice va (m + 1) vcc) = W1 at *
  have g2 : W1.grownBy (W1.setCell ⟨p, 1, none⟩ (.slice (some ⟨g, 0, none⟩) n gc)) (some p) := ⟨rfl, rfl, rfl, by simp, fun k _ hk => heap_setCell_other W1 ⟨p, 1, none⟩ k _ (fun e => hk (by simp [e]))⟩
  have hNot : ∀ b, w.heap.size ≤ b → ¬ N b := fun b hb hN => by have := H.out.few b hN; omega
  have hc0 : W1.cell? ⟨p, 0, none⟩ = some (.int .u8 (o : Int)) := (hB1.cell (p := ⟨p, 0, none⟩) hpw).trans H.out.c0
  have hlen : (rows.set wk (row ++ [x])).length = n := by rw [List.length_set, HN.out]
  refine ⟨rfl, ⟨Nat.lt_of_lt_of_le hpw (Nat.le_trans hB1.size g2.size), H.out.mem, fun k hk => Nat.lt_of_lt_of_le (H.out.few k hk) (Nat.le_trans hB1.size g2.size), (World.cell?_setCell_other _ _ _ _ (by intro hh; simp only [Addr.mk.injEq] at hh; omega)).trans hc0, ⟨_, World.cell?_setCell_same _ _ _ hcp1, vs.set wk (.slice va (m + 1) vcc), ?_, ?_, ?_⟩, by rw [World.frozen?_setCell]; exact hfz1⟩, ?_⟩
  · rw [hlen]
    exact (seesC_of_owns hset1).grown2 g2 fun b hb e => by
      have e1 : some g = some b := hb
      cases e1
      cases e
      omega
  · intro b hb
    have e1 : some g = some b := hb
    cases e1
    exact ⟨by have := HBB.out.size; have := hsW1; have := g2.size; omega, hNot g hgl.1⟩
  · intro j v r hv hr
    by_cases hj : wk = j
    · subst hj
      rw [List.getElem?_set_self (by have := HVL.out; have := HN.out; omega)] at hv
      rw [List.getElem?_set_self (by have := HN.out; omega)] at hr
      cases hv
      cases hr
      have hbb : ∀ b, (Value.slice va (m + 1) vcc).ownBlock = some b → w.heap.size ≤ b := fun b hb => by have := (HOC.out.lt b hb).1; omega
      exact ⟨hnew.grown g2 fun b hb e => by have := hbb b hb; cases e; omega, fun b hb => ⟨by have := (HOC.out.lt b hb).2; have := hsW1; have := g2.size; omega, hNot b (hbb b hb)⟩⟩
    · rw [List.getElem?_set_ne hj] at hv hr
      obtain ⟨q1, q2⟩ := HRows.out j v r hv hr
      exact ⟨(q1.below hB1 (Nat.le_refl _)).grown g2 fun b hb e => (q2 b hb).2 (by cases e; exact H.out.mem), fun b hb => ⟨Nat.lt_of_lt_of_le (q2 b hb).1 (Nat.le_trans hB1.size g2.size), (q2 b hb).2⟩⟩
  · exact ⟨g2.os.trans hB1.os, g2.tape.trans hB1.tape, g2.output.trans hB1.output, Nat.le_trans hB1.size g2.size, fun k hk hne => (g2.block k (Nat.lt_of_lt_of_le hk hB1.size) hne).trans (hB1.block k hk)⟩
end Go.Proofs.Ythjpoemgoeckbaa
