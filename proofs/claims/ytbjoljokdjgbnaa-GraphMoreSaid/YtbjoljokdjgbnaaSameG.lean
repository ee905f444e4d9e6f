/-
  Do a graph and the document's tell the same? What the laws' 'same' comes to.
-/
import Derived.Test.YtbjoljokdjgbnaaREdge
import Derived.Test.YtbjoljokdjgbnaaRLevels
import Derived.Test.YtbjoljokdjgbnaaBetween
namespace Go.Proofs.Ytbjoljokdjgbnaa
open Go.RowKit Go.Deep
/-- A graph and the document's graph of the same nodes and edges. -/
def Both (w0 w : World) (gp rp : Option Addr) (N : Nat) (es : Edges) : Prop := IsG w gp (N : Int) es ∧ IsR w rp (N : Int) es ∧ Below w0.heap.size w0 w
theorem Both.below {w0 w w' : World} {gp rp : Option Addr} {N : Nat} {es : Edges} (h : Both w0 w gp rp N es) (hb : Below w.heap.size w w') : Both w0 w' gp rp N es :=
  ⟨h.1.below hb (Nat.le_refl _), h.2.1.below hb (Nat.le_refl _), h.2.2.trans (hb.mono h.2.2.size)⟩
theorem Both.small {w0 w : World} {gp rp : Option Addr} {N : Nat} {es : Edges} (h : Both w0 w gp rp N es) : N ≤ 12 := by
  rcases h.2.1 with ⟨_, h, _⟩ | ⟨_, _, _, _, h, _⟩ <;> omega
theorem levels_length (N : Nat) (es : Edges) (root : Int) : (levels N es root).length = N := by
  unfold levels; split
  · rw [fold_length]; simp
  · simp
theorem wf_of {a : Int} (h : -1000000 ≤ a ∧ a ≤ 1000000) : Wf a := by
  have e1 : IntKind.i64.min = -9223372036854775808 := rfl
  have e2 : IntKind.i64.max = 9223372036854775807 := rfl
  simp only [Wf, Lit.wf, e1, e2, Bool.and_eq_true, decide_eq_true_eq]
  omega
set_option maxRecDepth 100000 in
set_option maxHeartbeats 16000000 in
theorem same_graphs (gp rp : Option Addr) (N : Nat) (es : Edges) (w : World) (hg : IsG w gp (N : Int) es) (hr : IsR w rp (N : Int) es) (hn : gp = none ↔ rp = none) :
    Calls Try.prog 15 #[.pointer gp, .pointer rp] w fun e w' => e = .returned (.bool true) ∧ Below w.heap.size w w' := by
  have h30 := hg.short
  have ER : Hid (es.length ≤ 1000000) := hidI (by omega)
  have BO : Hid (Both w w gp rp N es) := ⟨hg, hr, Below.refl _ _⟩
  have hN := BO.out.small
  have HN := hidI hn
  clear hg hr hn
  go_enter Try.func15, Try.ntmps15
  go_wp2
  go_loopg [5] 14 (fun g s5 wx => ∃ (v : Int), v + g = 13 ∧ -1 ≤ v ∧ s5 = .int .i64 v ∧ Both w wx gp rp N es)
  case atStart => exact ⟨-1, by omega, by omega, rfl, BO.out⟩
  case round =>
    obtain ⟨v, hvg, hv1, rfl, bo⟩ := hrel
    have hv2 : v ≤ 13 := by omega
    have BX := hidI bo
    clear bo BO
    cases gk with
    | zero =>
      have hv : v = 13 := by omega
      subst hv
      go_wp2
      go_loopg [7] 32 (fun g s7 wy => ∃ (i : Int), i + g = 31 ∧ -1 ≤ i ∧ s7 = .int .i64 i ∧ Both w wy gp rp N es)
      case atStart => exact ⟨-1, by omega, by omega, rfl, BX.out⟩
      case round =>
        obtain ⟨i, hig, hi1, rfl, bo⟩ := hrel
        have BY := hidI bo
        clear bo BX
        cases gk with
        | zero =>
          have hi : i = 31 := by omega
          subst hi
          clear hvg hig hi1
          have C := hidI (rows_any gp N es wr BY.out.1)
          go_wp2_with (go_at_call 29; refine Calls.mono C.out ?_; rintro e w1 ⟨u1, v1, rfl, hs1, ht1, hb⟩; refine Hid.out ?_)
          refine hidI ?_
          have B1 := hidI (BY.out.below hb)
          have S1 := hidI hs1
          have T1 := hidI ht1
          clear C hb hs1 ht1 BY
          have C := hidI (rrows_any rp N es w1 B1.out.2.1)
          go_wp2_with (go_at_call 50; refine Calls.mono C.out ?_; rintro e w2 ⟨u2, v2, rfl, hs2, ht2, hb⟩; refine Hid.out ?_)
          refine hidI ?_
          have B2 := hidI (B1.out.below hb)
          have S2 := hidI (S1.out.below hb (Nat.le_refl _))
          have T2 := hidI (T1.out.below hb (Nat.le_refl _))
          have heq : (if rp = none then ([] : List Int) else begins es (N + 1)) = if gp = none then [] else begins es (N + 1) := by
            by_cases h : gp = none
            · rw [if_pos h, if_pos (HN.out.1 h)]
            · rw [if_neg h, if_neg (fun h' => h (HN.out.2 h'))]
          rw [heq] at hs2
          have S3 := hidI hs2
          have T3 := hidI ht2
          clear C hb hs2 ht2 B1 S1 T1 heq
          have CN := hidI (n_any gp N es w2 B2.out.1)
          have CRN := hidI (rn_any rp N es w2 B2.out.2.1)
          have CM := hidI (m_any gp N es w2 B2.out.1)
          have CRM := hidI (rm_any rp N es w2 B2.out.2.1)
          have CS := hidI (same_any u1 u2 _ w2 S2.out S3.out (by split; simp; rw [begins_length]; omega))
          go_wp2_with (first | (go_at_call 30; refine Calls.mono CN.out ?_; rintro e w' ⟨rfl, rfl⟩) | (go_at_call 51; refine Calls.mono CRN.out ?_; rintro e w' ⟨rfl, rfl⟩) | (go_at_call 40; refine Calls.mono CM.out ?_; rintro e w' ⟨rfl, rfl⟩) | (go_at_call 52; refine Calls.mono CRM.out ?_; rintro e w' ⟨rfl, rfl⟩) | (go_at_call 16; refine Calls.mono CS.out ?_; rintro e w3 ⟨rfl, hb⟩; refine Hid.out ?_))
          refine hidI ?_
          have B3 := hidI (B2.out.below hb)
          have CT := hidI (same_any v1 v2 _ w3 (T2.out.below hb (Nat.le_refl _)) (T3.out.below hb (Nat.le_refl _)) (by have := cols_length es N; have : N * es.length ≤ 12 * 30 := Nat.mul_le_mul (by omega) h30; omega))
          clear CN CRN CM CRM CS hb S2 S3 T2 T3 B2
          go_wp2_with (go_at_call 16; refine Calls.mono CT.out ?_; rintro e w4 ⟨rfl, hb⟩)
          go_ret
          exact ⟨rfl, (B3.out.below hb).2.2⟩
        | succ g =>
          have hi2 : i ≤ 30 := by omega
          clear hvg
          have C := hidI (edge_any gp N i es wr BY.out.1)
          obtain ⟨x1, hx1⟩ : ∃ x, (edgeAt es i).1.1 = x := ⟨_, rfl⟩
          obtain ⟨x2, hx2⟩ : ∃ x, (edgeAt es i).1.2 = x := ⟨_, rfl⟩
          obtain ⟨xb, hxb⟩ : ∃ x, (edgeAt es i).2 = x := ⟨_, rfl⟩
          rw [hx1, hx2, hxb] at C
          go_wp2_with (go_at_call 48; refine Calls.mono C.out ?_; rintro e w1 ⟨rfl, hb⟩; refine Hid.out ?_)
          refine hidI ?_
          have B1 := hidI (BY.out.below hb)
          have B2 := hidI (B1.out.below ((Below.refl _ w1).alloc (Nat.le_refl _) (.cells #[.int .i64 x1, .int .i64 x2] 55)))
          clear C hb BY
          have C := hidI (redge_any rp N i es _ B2.out.2.1)
          rw [hx1, hx2, hxb] at C
          go_wp2_with (go_at_call 49; refine Calls.mono C.out ?_; rintro e w2 ⟨rfl, hb⟩; refine Hid.out ?_)
          refine hidI ?_
          have B3 := hidI (B2.out.below hb)
          have cc1 : w2.cell? ⟨w1.heap.size, 0, none⟩ = some (.int .i64 x1) := (hb.cell (p := ⟨w1.heap.size, 0, none⟩) (by simp)).trans (cell_pair0 _ _ _ _)
          have cc2 : w2.cell? ⟨w1.heap.size, 1, none⟩ = some (.int .i64 x2) := (hb.cell (p := ⟨w1.heap.size, 1, none⟩) (by simp)).trans (cell_pair1 _ _ _ _)
          have hlt := World.block_lt_of_cell? w2 _ cc1
          have B4 := hidI (B3.out.below ((Below.refl _ w2).alloc (Nat.le_refl _) (.cells #[.int .i64 x1, .int .i64 x2] 55)))
          clear C hb B1 B2 B3 hx1 hx2 hxb
          go_wp2
          go_roundg g
          case measure => omega
          case rel => exact ⟨i + 1, by omega, by omega, by go_num, B4.out⟩
    | succ g =>
      have hv3 : v ≤ 12 := by omega
      have C := hidI (out_any gp v es ER.out wr (BX.out.1.walks))
      go_wp2_with (go_at_call 31; refine Calls.mono C.out ?_; rintro e wa1 ⟨ua1, rfl, hs, hb⟩; refine Hid.out ?_)
      refine hidI ?_
      have Ba1 := hidI (BX.out.below hb)
      have Sa1 := hidI hs
      clear C hs hb BX
      have C := hidI (rout_any rp N v es wa1 (Ba1.out.2.1))
      go_wp2_with (go_at_call 41; refine Calls.mono C.out ?_; rintro e wa2 ⟨ua2, rfl, hs, hb⟩; refine Hid.out ?_)
      refine hidI ?_
      have Ba2 := hidI (Ba1.out.below hb)
      have Sa2 := hidI hs
      have Ta2 := hidI (Sa1.out.below hb (Nat.le_refl _))
      clear C hs hb Ba1 Sa1
      have C := hidI (same_any ua1 ua2 _ wa2 Ta2.out Sa2.out (by first | (rw [levels_length]; omega) | (have := places_length es v false; have := places_length es v true; have := ER.out; omega)))
      go_wp2_with (go_at_call 16; refine Calls.mono C.out ?_; rintro e wa3 ⟨rfl, hb⟩; refine Hid.out ?_)
      refine hidI ?_
      have Ba3 := hidI (Ba2.out.below hb)
      clear C hb Ba2 Ta2 Sa2
      have C := hidI (in_any gp v es ER.out wa3 (Ba3.out.1.walks))
      go_wp2_with (go_at_call 32; refine Calls.mono C.out ?_; rintro e wa4 ⟨ua4, rfl, hs, hb⟩; refine Hid.out ?_)
      refine hidI ?_
      have Ba4 := hidI (Ba3.out.below hb)
      have Sa4 := hidI hs
      clear C hs hb Ba3
      have C := hidI (rin_any rp N v es wa4 (Ba4.out.2.1))
      go_wp2_with (go_at_call 42; refine Calls.mono C.out ?_; rintro e wa5 ⟨ua5, rfl, hs, hb⟩; refine Hid.out ?_)
      refine hidI ?_
      have Ba5 := hidI (Ba4.out.below hb)
      have Sa5 := hidI hs
      have Ta5 := hidI (Sa4.out.below hb (Nat.le_refl _))
      clear C hs hb Ba4 Sa4
      have C := hidI (same_any ua4 ua5 _ wa5 Ta5.out Sa5.out (by first | (rw [levels_length]; omega) | (have := places_length es v false; have := places_length es v true; have := ER.out; omega)))
      go_wp2_with (go_at_call 16; refine Calls.mono C.out ?_; rintro e wa6 ⟨rfl, hb⟩; refine Hid.out ?_)
      refine hidI ?_
      have Ba6 := hidI (Ba5.out.below hb)
      clear C hb Ba5 Ta5 Sa5
      have C := hidI (degree_any gp v false es ER.out wa6 (Ba6.out.1.walks))
      go_wp2_with (go_at_call 43; refine Calls.mono C.out ?_; rintro e wa7 ⟨rfl, hb⟩; refine Hid.out ?_)
      refine hidI ?_
      have Ba7 := hidI (Ba6.out.below hb)
      clear C hb Ba6
      have C := hidI (rdegree_any rp N v false es wa7 (Ba7.out.2.1))
      go_wp2_with (go_at_call 44; refine Calls.mono C.out ?_; rintro e wa8 ⟨rfl, hb⟩; refine Hid.out ?_)
      refine hidI ?_
      have Ba8 := hidI (Ba7.out.below hb)
      clear C hb Ba7
      have C := hidI (degree_any gp v true es ER.out wa8 (Ba8.out.1.walks))
      go_wp2_with (go_at_call 43; refine Calls.mono C.out ?_; rintro e wa9 ⟨rfl, hb⟩; refine Hid.out ?_)
      refine hidI ?_
      have Ba9 := hidI (Ba8.out.below hb)
      clear C hb Ba8
      have C := hidI (rdegree_any rp N v true es wa9 (Ba9.out.2.1))
      go_wp2_with (go_at_call 44; refine Calls.mono C.out ?_; rintro e wa10 ⟨rfl, hb⟩; refine Hid.out ?_)
      refine hidI ?_
      have Ba10 := hidI (Ba9.out.below hb)
      clear C hb Ba9
      have C := hidI (levels_any gp N v es wa10 (Ba10.out.1) (by omega))
      go_wp2_with (go_at_call 39; refine Calls.mono C.out ?_; rintro e wa11 ⟨ua11, rfl, hs, hb⟩; refine Hid.out ?_)
      refine hidI ?_
      have Ba11 := hidI (Ba10.out.below hb)
      have Sa11 := hidI hs
      clear C hs hb Ba10
      have C := hidI (rlevels_any rp N v es wa11 (Ba11.out.2.1))
      go_wp2_with (go_at_call 45; refine Calls.mono C.out ?_; rintro e wa12 ⟨ua12, rfl, hs, hb⟩; refine Hid.out ?_)
      refine hidI ?_
      have Ba12 := hidI (Ba11.out.below hb)
      have Sa12 := hidI hs
      have Ta12 := hidI (Sa11.out.below hb (Nat.le_refl _))
      clear C hs hb Ba11 Sa11
      have C := hidI (same_any ua11 ua12 _ wa12 Ta12.out Sa12.out (by first | (rw [levels_length]; omega) | (have := places_length es v false; have := places_length es v true; have := ER.out; omega)))
      go_wp2_with (go_at_call 16; refine Calls.mono C.out ?_; rintro e wa13 ⟨rfl, hb⟩; refine Hid.out ?_)
      refine hidI ?_
      have Ba13 := hidI (Ba12.out.below hb)
      clear C hb Ba12 Ta12 Sa12
      go_wp2
      go_loopg [6] 5 (fun g s6 wy => ∃ (q : Int), q + g = 4 ∧ -1 ≤ q ∧ s6 = .int .i64 q ∧ Both w wy gp rp N es)
      case atStart => exact ⟨-1, by omega, by omega, rfl, Ba13.out⟩
      case round =>
        obtain ⟨q, hqg, hq1, rfl, bo⟩ := hrel
        have BZ := hidI bo
        clear bo Ba13
        cases gk with
        | zero =>
          have hq : q = 4 := by omega
          subst hq
          go_wp2
          go_roundg g
          case measure => omega
          case rel => exact ⟨v + 1, by omega, by omega, by go_num, BZ.out⟩
        | succ g2 =>
          have hq2 : q ≤ 3 := by omega
          have C := hidI (between_any gp N v q es wr (BZ.out.1) (wf_of (by omega)) (wf_of (by omega)))
          go_wp2_with (go_at_call 46; refine Calls.mono C.out ?_; rintro e wb1 ⟨ub1, rfl, hs, hb⟩; refine Hid.out ?_)
          refine hidI ?_
          have Bb1 := hidI (BZ.out.below hb)
          have Sb1 := hidI hs
          clear C hs hb BZ
          have C := hidI (rbetween_any rp N v q es wb1 (Bb1.out.2.1))
          go_wp2_with (go_at_call 47; refine Calls.mono C.out ?_; rintro e wb2 ⟨ub2, rfl, hs, hb⟩; refine Hid.out ?_)
          refine hidI ?_
          have Bb2 := hidI (Bb1.out.below hb)
          have Sb2 := hidI hs
          have Tb2 := hidI (Sb1.out.below hb (Nat.le_refl _))
          clear C hs hb Bb1 Sb1
          have C := hidI (same_any ub1 ub2 _ wb2 Tb2.out Sb2.out (by have := pick_length (fun j => decide ((es.getD j (0, 0)).1 = v ∧ (es.getD j (0, 0)).2 = q)) es.length; have := ER.out; omega))
          go_wp2_with (go_at_call 16; refine Calls.mono C.out ?_; rintro e wb3 ⟨rfl, hb⟩; refine Hid.out ?_)
          refine hidI ?_
          have Bb3 := hidI (Bb2.out.below hb)
          clear C hb Bb2 Tb2 Sb2
          go_wp2
          go_roundg g2
          case measure => omega
          case rel => exact ⟨q + 1, by omega, by omega, by go_num, Bb3.out⟩
end Go.Proofs.Ytbjoljokdjgbnaa
