/-
  Each node is one worker's: the law PartsOnce, walked.
-/
import Derived.Test.YtjlnnpcaeikolaaPOnceM
import Derived.Lib.QuietBelow
import Derived.BigQuiet
namespace Go.Proofs.Ytjlnnpcaeikolaa
open Go.RowKit Go.Deep
open Go.Sort (grow)
set_option maxRecDepth 100000 in
set_option maxHeartbeats 16000000 in
theorem once_walk (x y : Nat) (hx : x < 256) (hy : y < 256) (v0 : Value) (bys : List Int) (kk0 : Nat) (hkk : kk0 < 18446744073709551616) (w : World) (ha : ArgI w v0 bys) :
    Calls Try.prog 4 #[.agg #[.int .u8 (x : Int), .int .u8 (y : Int)], v0, .int .u64 (kk0 : Int)] w fun e w' => e = .returned (.bool true) ∧ Below w.heap.size w w' := by
  obtain ⟨i3, hi, hz0, hz1, hz2⟩ := info_parts Try.info3
  have HA1 := hidI ha.1
  have HA2 := hidI ha.2
  obtain ⟨N, hN⟩ : ∃ N, x % 12 + 1 = N := ⟨_, rfl⟩
  obtain ⟨K, hK⟩ : ∃ K, y % 4 + 1 = K := ⟨_, rfl⟩
  have hN1 : 1 ≤ N ∧ N ≤ 12 := by omega
  have hK1 : 1 ≤ K ∧ K ≤ 4 := by omega
  have t1 : ((x : Int)).tmod 12 = ((N - 1 : Nat) : Int) := by rw [show (12 : Int) = ((12 : Nat) : Int) from rfl, tmod_nat]; congr 1; omega
  have t2 : ((y : Int)).tmod 4 = ((K - 1 : Nat) : Int) := by rw [show (4 : Int) = ((4 : Nat) : Int) from rfl, tmod_nat]; congr 1; omega
  obtain ⟨N0, hN0⟩ : ∃ N0, N - 1 = N0 := ⟨_, rfl⟩
  obtain ⟨K0, hK0⟩ : ∃ K0, K - 1 = K0 := ⟨_, rfl⟩
  rw [hN0] at t1
  rw [hK0] at t2
  have wx : IntKind.i64.wrap (x : Int) = (x : Int) := wrap_small (by omega) (by omega)
  have wy : IntKind.i64.wrap (y : Int) = (y : Int) := wrap_small (by omega) (by omega)
  have w1 : IntKind.i64.wrap (N0 : Int) = (N0 : Int) := wrap_small (by omega) (by omega)
  have w2 : IntKind.i64.wrap (K0 : Int) = (K0 : Int) := wrap_small (by omega) (by omega)
  have w3 : IntKind.i64.wrap ((N0 : Int) + 1) = (N : Int) := by rw [wrap_small (by omega) (by omega)]; omega
  have w4 : IntKind.i64.wrap ((K0 : Int) + 1) = (K : Int) := by rw [wrap_small (by omega) (by omega)]; omega
  have HB0 : Hid (Below w.heap.size w (w.alloc (.cells #[.int .u8 (x : Int), .int .u8 (y : Int)] 39))) := (Below.refl _ w).alloc (Nat.le_refl _) _
  have HC0 : Hid ((w.alloc (.cells #[.int .u8 (x : Int), .int .u8 (y : Int)] 39)).cell? ⟨w.heap.size, 0, none⟩ = some (.int .u8 (x : Int))) := cell_pair0 _ _ _ _
  have HC1 : Hid ((w.alloc (.cells #[.int .u8 (x : Int), .int .u8 (y : Int)] 39)).cell? ⟨w.heap.size, 1, none⟩ = some (.int .u8 (y : Int))) := cell_pair1 _ _ _ _
  have HSZ : Hid ((w.alloc (.cells #[.int .u8 (x : Int), .int .u8 (y : Int)] 39)).heap.size = w.heap.size + 1) := hidI (by simp)
  clear hN hK hN0 hK0 ha
  go_enter Try.func4, Try.ntmps4
  go_wp2
  obtain ⟨W, hW⟩ : ∃ W, w.alloc (.cells #[.int .u8 (x : Int), .int .u8 (y : Int)] 39) = W := ⟨_, rfl⟩
  rw [hW] at HB0 HC0 HC1 HSZ ⊢
  clear hW
  have F0 : Hid (∀ u, Below W.heap.size W u → u.cell? ⟨w.heap.size, 0, none⟩ = some (.int .u8 (x : Int))) := fun u hu => (hu.cell (p := ⟨w.heap.size, 0, none⟩) (by rw [HSZ.out]; simp)).trans HC0.out
  have F1 : Hid (∀ u, Below W.heap.size W u → u.cell? ⟨w.heap.size, 1, none⟩ = some (.int .u8 (y : Int))) := fun u hu => (hu.cell (p := ⟨w.heap.size, 1, none⟩) (by rw [HSZ.out]; simp)).trans HC1.out
  have CF : Hid (∀ u, Below W.heap.size W u → Calls Try.prog 9 #[v0] u fun e w' => ∃ x, e = .returned x ∧ Sees u x (bys.take 20) ∧ u = w') := fun u hu => few_any v0 bys u ⟨HA1.out.below (HB0.out.trans (hu.mono HB0.out.size)) (Nat.le_refl _), HA2.out⟩
  have CN : Hid (∀ (u : World) (x : Value), Below W.heap.size W u → Sees u x (bys.take 20) → Calls Try.prog 8 #[.int .i64 (N : Int), .int .i64 (K : Int), x] u fun e w' => ∃ pb, e = .returned (.pointer (some ⟨pb, 0, none⟩)) ∧ IsP w' (some ⟨pb, 0, none⟩) N K (wkOf K (bys.take 20)) ∧ Below W.heap.size W w') := fun u x hu hx => by
    refine (new_ok N K (by unfold mayP; omega) x _ u hx).mono ?_
    rintro e w' ⟨pb, rfl, h1, h2⟩
    exact ⟨pb, rfl, h1, hu.trans (h2.mono hu.size)⟩
  have s0 : Hid (Below W.heap.size W W.drew) := (Below.refl _ W).drew
  clear HC0 HC1 HSZ
  go_region_held3 (fun w' => Hid (Below W.heap.size W w') ∧ w'.cell? ⟨w.heap.size, 0, none⟩ = some (.int .u8 (x : Int)) ∧ w'.cell? ⟨w.heap.size, 1, none⟩ = some (.int .u8 (y : Int)))
    (first | assumption | exact ⟨kk, F0.out _ kk.out, F1.out _ kk.out⟩ | exact ⟨s0, F0.out _ s0.out, F1.out _ s0.out⟩)
    ((first | (go_at_call 9; refine Calls.mono (CF.out _ (by exact s0.out)) ?_; rintro e w' ⟨xx, rfl, hxx, rfl⟩; have XX := hidI hxx; clear hxx) | (go_at_call 8; refine Calls.mono (CN.out _ _ (by exact s0.out) XX.out) ?_; rintro e wp ⟨pb, rfl, hp1, hb1⟩; have PP := hidI hp1; have kk := hidI hb1; clear hp1 hb1 XX)))
  all_goals
    have HB1 := hidI (HB0.out.trans (kk.out.mono HB0.out.size))
    have CL := hidI (live_any wp)
    clear F0 F1 CF CN kk s0 HB0 HA1 HA2 t1 t2 wx wy w1 w2 w3 w4
    generalize wkOf K (List.take 20 bys) = wk at *
    go_wp2_with (go_at_call 18; refine Calls.mono CL.out ?_; rintro e W3 ⟨rfl, hb3⟩; refine Hid.out ?_)
    refine hidI ?_
    have HB3 := hidI (HB1.out.trans (hb3.mono HB1.out.size))
    have P3 := hidI (PP.out.below hb3 (Nat.le_refl _))
    have CD := hidI (nodes_any _ _ _ _ W3 P3.out)
    clear CL hb3 HB1 PP
    go_wp2_with (first | (go_at_call 21; refine Calls.mono CD.out ?_; rintro e w' ⟨rfl, rfl⟩) | (at_make; refine wpList_make_row _ rfl _ _ 23 rfl 3 i3 (.int .i64 0) Try.underlying23 hi hz0 hz1 rfl .i64 .i64 N rfl rfl (by rw [hz2]; omega) (by omega) ?_; refine Hid.out ?_))
    refine hidI ?_
    have HROW0 : Hid (Perm.Row (W3.alloc (.cells (madeCells #[.int .i64 0] N) 3)) W3.heap.size N (fun _ => 0)) := World.rowIs_made W3 (.int .i64 0) N 3
    have HBA := hidI ((Below.refl _ W3).alloc (Nat.le_refl _) (.cells (madeCells #[.int .i64 0] N) 3))
    obtain ⟨G, hGe⟩ : ∃ G, W3.heap.size = G := ⟨_, rfl⟩
    rw [hGe] at HROW0
    rw [hGe]
    generalize W3.alloc (.cells (madeCells #[.int .i64 0] N) 3) = W4 at HROW0 HBA ⊢
    have HGE := hidI hGe
    clear hGe CD
    go_wp2
    go_loopg [9] K (fun g s9 wr => ∃ (u : Nat), u + g = K ∧ s9 = .int .i64 u ∧ Perm.Row wr G N (fun j => if wk j < u then 1 else 0) ∧ Below W3.heap.size W3 wr)
    case atStart => exact ⟨0, by omega, rfl, Row.congr HROW0.out (fun j _ => by simp), HBA.out⟩
    case round =>
      obtain ⟨u, hug, rfl, hrow, hbl⟩ := hrel
      have HROW := hidI hrow
      have HB := hidI hbl
      have hGlt0 := World.rowIs.lt hrow
      have PR := hidI (P3.out.below hbl (Nat.le_refl _))
      have CW := hidI (workers_any _ _ _ _ wr PR.out)
      clear hrow hbl HROW0 HBA
      cases gk with
      | zero =>
        have huK : u = K := by omega
        subst huK
        have hrow1 : Perm.Row wr G N (fun _ => 1) := Row.congr HROW.out (fun j hj => by rw [if_pos (PR.out.lt j hj)])
        have HR1 := hidI hrow1
        have HBF := hidI (HB3.out.trans (HB.out.mono HB3.out.size))
        clear hrow1 HROW
        go_wp2_with (go_at_call 19; refine Calls.mono CW.out ?_; rintro e w' ⟨rfl, rfl⟩)
        go_loopg [13] N (fun g s13 wx => ∃ (v : Nat), v + g = N ∧ s13 = .int .i64 v ∧ wr = wx)
        case atStart => exact ⟨0, by omega, rfl, rfl⟩
        case round =>
          obtain ⟨v, hvg, rfl, rfl⟩ := hrel
          cases gk with
          | zero =>
            have hvN : v = N := by omega
            subst hvN
            go_wp2
            go_ret
            exact ⟨rfl, HBF.out⟩
          | succ g =>
            have hvN : v < N := by omega
            have hvN2 : (v : Int) < (N : Int) := by omega
            have cv := World.rowIs.cell HR1.out hvN
            go_wp2
            go_roundg g
            case measure => omega
            case rel => exact ⟨v + 1, by omega, by go_num, rfl⟩
      | succ g =>
        have huK : u < K := by omega
        have huK2 : (u : Int) < (K : Int) := by omega
        have CM := hidI (members_new (some ⟨pb, 0, none⟩) N K wk (u : Int) wr PR.out)
        rw [memI_nat huK] at CM
        go_wp2_with (first | (go_at_call 19; refine Calls.mono CW.out ?_; rintro e w' ⟨rfl, rfl⟩) | (go_at_call 14; refine Calls.mono CM.out ?_; rintro e w5 ⟨lv, rfl, hs5, hb5⟩; refine Hid.out ?_))
        refine hidI ?_
        have HB5 := hidI (HB.out.trans (hb5.mono HB.out.size))
        have CO := hidI (order_new (some ⟨pb, 0, none⟩) N K wk (u : Int) kk0 hkk w5 (P3.out.below HB5.out (Nat.le_refl _)))
        rw [memI_nat huK] at CO
        have HS5 := hidI (hs5.mono (Nat.succ_le_of_lt hGlt0))
        have HR5 := hidI (Row.below HROW.out hb5 hGlt0)
        have hs5z := hb5.size
        clear CW CM hs5 hb5 HROW HB PR
        go_wp2_with (go_at_call 16; refine Calls.mono CO.out ?_; rintro e w6 ⟨ov, ps, rfl, hpl, hst, hs6, hb6⟩; refine Hid.out ?_)
        refine hidI ?_
        have HB6 := hidI (HB5.out.trans (hb6.mono HB5.out.size))
        have hmlN := mem_length N wk u
        have HRT := hidI (right_of_steps hst hpl (by omega))
        have HPM := hidI (turnL_perm HRT.out hpl.symm)
        have HOL := hidI ((Perm.turnL_length ps (mem N wk u)).trans hpl)
        have HS6 := hidI (hs6.mono (show G + 1 ≤ w5.heap.size by omega))
        have HL6 := hidI (HS5.out.below hb6 (Nat.le_refl _))
        have HR6 := hidI (Row.below HR5.out hb6 (by omega))
        clear CO hst hpl hs6 hb6 HS5 HR5 HB5 HRT hs5z
        obtain ⟨o, ho⟩ : ∃ o, Perm.turnL ps (mem N wk u) = o := ⟨_, rfl⟩
        rw [ho] at HPM HOL HS6
        clear ho
        obtain ⟨q, hq⟩ : ∃ q, (mem N wk u).length = q := ⟨_, rfl⟩
        rw [hq] at hmlN HOL
        have HQ := hidI hq
        have hlf : ∃ la lc, lv = .slice la q lc := by obtain ⟨la, lc, h, _⟩ := HL6.out; exact ⟨la, lc, by rw [← hq]; exact h⟩
        have hof : ∃ oa oc, ov = .slice oa q oc := by obtain ⟨oa, oc, h, _⟩ := HS6.out; exact ⟨oa, oc, by rw [← HOL.out]; exact h⟩
        obtain ⟨la, lc, rfl⟩ := hlf
        obtain ⟨oa, oc, rfl⟩ := hof
        clear hq
        go_wp2
        go_loopg [12] q (fun gh s12 wy => ∃ (i : Nat), i + gh = q ∧ s12 = .int .i64 i ∧ Perm.Row wy G N (sf wk u o i) ∧ SeesN (G + 1) wy (.slice la q lc) (mem N wk u) ∧ SeesN (G + 1) wy (.slice oa q oc) o ∧ Below W3.heap.size W3 wy)
        case atStart => exact ⟨0, by omega, rfl, Row.congr HR6.out (fun j _ => sf_zero wk u o j), HL6.out, HS6.out, HB6.out⟩
        case round =>
          obtain ⟨i, hig, rfl, hrow, hlv, hov, hby⟩ := hrel
          have HROW2 := hidI hrow
          have HLV := hidI hlv
          have HOV := hidI hov
          have HBY := hidI hby
          have hGlt := World.rowIs.lt hrow
          clear hrow hlv hov HR6 HL6 HS6 HB6
          cases gk with
          | zero =>
            have hil : q = i := by omega
            subst hil
            clear hby
            go_wp2
            go_roundg g
            case measure => omega
            case rel =>
              refine ⟨u + 1, by omega, by go_num, Row.congr HROW2.out (fun j hj => ?_), HBY.out⟩
              have := sf_done HPM.out hj
              rw [HOL.out] at this
              exact this.symm
          | succ gh =>
            have hiq : i < q := by omega
            have hiq2 : (i : Int) < (q : Int) := by omega
            have hio : i < o.length := by rw [HOL.out]; exact hiq
            obtain ⟨z, hze, hzN, hzu⟩ := mem_mem.1 (HPM.out.mem_iff.1 (List.getElem_mem hio))
            have HOI : Hid (o[i]? = some (z : Int)) := by rw [List.getElem?_eq_getElem hio, hze]; rfl
            have hog : o.getD i 0 = (z : Int) := by simp [List.getD, HOI.out]
            have hofz : ofP N wk (z : Int) = (u : Int) := by unfold ofP; rw [if_pos (by omega)]; simp [hzu]
            obtain ⟨oa', oc', heo, hoc⟩ := HOV.out
            rw [HOL.out] at heo hoc
            cases heo
            rcases hoc with h0 | ⟨ob, oo, rfl, hobn, hoc⟩
            · rw [h0] at hio; simp at hio
            obtain ⟨la', lc', hel, hlc⟩ := HLV.out
            rw [HQ.out] at hel hlc
            cases hel
            rcases hlc with h0 | ⟨lb, lo, rfl, hlbn, hlc⟩
            · have := HQ.out; rw [h0] at this; simp at this; omega
            have hobw := World.block_lt_of_cell? wr _ (hoc i hiq)
            have hlbw := World.block_lt_of_cell? wr _ (hlc i hiq)
            have co := hoc i hiq
            rw [hog] at co
            have D0 : Hid (∀ u', Below wr.heap.size wr u' → u'.cell? ⟨ob, oo + i, none⟩ = some (.int .i64 (z : Int))) := fun u' hu => (hu.cell (p := ⟨ob, oo + i, none⟩) hobw).trans co
            have C11 : Hid (∀ d os, Calls Try.prog 11 #[.pointer (some ⟨pb, 0, none⟩), .int .i64 (z : Int)] (grow (redrawn wr d) os) fun e w'' => e = .returned (.int .i64 (u : Int)) ∧ ∃ p : Regrown, w'' = grow (redrawn wr p.d) p.os) := fun d os => Calls.regrown_of (by
              have := of_any (some ⟨pb, 0, none⟩) N K wk z (grow (redrawn wr d) os) (P3.out.below (HBY.out.trans ((below_regrown wr d os).mono HBY.out.size)) (Nat.le_refl _))
              rw [hofz] at this
              exact this)
            have q0 := fun d os => cell_regrown co d os
            have hzN2 : (z : Int) < (N : Int) := by omega
            have g1 : decide ((z : Int) < 0) = false := by simp
            have g2 : decide ((N : Int) ≤ (z : Int)) = false := by simp; omega
            have g3 : decide (N ≤ z) = false := by simp; omega
            have s0 : Hid (Below wr.heap.size wr wr.drew) := (Below.refl _ wr).drew
            by_cases hi0 : i = 0
            · have g4 : decide ((0 : Int) < (i : Int)) = false := by simp; omega
              have g5 : decide (0 < i) = false := by simp; omega
              clear hoc hlc hog hofz hze hby co hi0
              go_wp2
              refine wp_region_quiet_below (by kernel_rfl) (by kernel_rfl) ?_
              repeat (first | go_big_quiet_step ((go_at_call 11; exact C11.out _ _)) | quiet_step ((go_at_call 11; exact C11.out _ _)))
              refine wpQuiet_nil ?_
              intro _ hw'
              obtain ⟨⟨dq, osq⟩, hw''⟩ := hw'
              subst hw''
              have kk := hidI (below_regrown wr dq osq)
              generalize grow (redrawn wr dq) osq = w' at *
              have HBW := hidI kk.out
              have hrow2 : Perm.Row w' G N (sf wk u o i) := Row.below HROW2.out kk.out hGlt
              have HL2 := hidI (HLV.out.below kk.out (Nat.le_refl _))
              have HO2 := hidI (HOV.out.below kk.out (Nat.le_refl _))
              have cz := World.rowIs.cell hrow2 hzN
              have fz := World.rowIs.frozen hrow2 z
              have co2 := D0.out w' kk.out
              have hrng := sf_range wk u o i z (by rw [HOL.out]; omega)
              have hrow3 : Perm.Row (w'.setCell ⟨G, z, none⟩ (.int .i64 (sf wk u o i z + 1))) G N (sf wk u o (i + 1)) := hrow2.put z (sf wk u o i z + 1) (fun j hj => sf_next wk u HOI.out j)
              have HR3 := hidI hrow3
              have HB3' := hidI (HBY.out.trans (kk.out.mono HBY.out.size))
              have hGW : W3.heap.size ≤ G := Nat.le_of_eq HGE.out
              have HB4 : Hid (Below W3.heap.size W3 (w'.setCell ⟨G, z, none⟩ (.int .i64 (sf wk u o i z + 1)))) := HB3'.out.setCell (p := ⟨G, z, none⟩) hGW _
              have HL3 := hidI (HL2.out.set (G := G) (i := z) (by omega) (.int .i64 (sf wk u o i z + 1)))
              have HO3 := hidI (HO2.out.set (G := G) (i := z) (by omega) (.int .i64 (sf wk u o i z + 1)))
              have wsf : IntKind.i64.wrap (sf wk u o i z + 1) = sf wk u o i z + 1 := wrap_small (by omega) (by omega)
              clear hrow2 hrow3 hrng
              obtain ⟨sv, hsv⟩ : ∃ sv, sf wk u o i z = sv := ⟨_, rfl⟩
              rw [hsv] at cz wsf HR3 HB4 HL3 HO3
              clear hsv
              go_wp2
              go_roundg gh
              case measure => omega
              case rel => exact ⟨i + 1, by omega, by go_num, HR3.out, HL3.out, HO3.out, HB4.out⟩
            · obtain ⟨i', hi'⟩ : ∃ i', i = i' + 1 := ⟨i - 1, by omega⟩
              have g4 : (0 : Int) < (i : Int) := by omega
              have g5 : 0 < i := by omega
              have wi : IntKind.i64.wrap ((i : Int) - 1) = (i' : Int) := by rw [wrap_small (by omega) (by omega)]; omega
              have hi'q : (i' : Int) < (q : Int) := by omega
              have hris : (mem N wk u).getD i' 0 < (mem N wk u).getD i 0 := by rw [hi']; exact mem_rise (by rw [HQ.out]; omega)
              have cl := hlc i hiq
              have cl' := hlc i' (by omega)
              obtain ⟨m1, hm1⟩ : ∃ m1, (mem N wk u).getD i 0 = m1 := ⟨_, rfl⟩
              obtain ⟨m2, hm2⟩ : ∃ m2, (mem N wk u).getD i' 0 = m2 := ⟨_, rfl⟩
              rw [hm1] at cl hris
              rw [hm2] at cl' hris
              have g6 : decide (m1 ≤ m2) = false := by simp; omega
              have q1 := fun d os => cell_regrown cl d os
              have q2 := fun d os => cell_regrown cl' d os
              clear hoc hlc hog hofz hze hby co cl cl' hm1 hm2 hris hi' hi0
              go_wp2
              refine wp_region_quiet_below (by kernel_rfl) (by kernel_rfl) ?_
              repeat (first | go_big_quiet_step ((go_at_call 11; exact C11.out _ _)) | quiet_step ((go_at_call 11; exact C11.out _ _)))
              refine wpQuiet_nil ?_
              intro _ hw'
              obtain ⟨⟨dq, osq⟩, hw''⟩ := hw'
              subst hw''
              have kk := hidI (below_regrown wr dq osq)
              generalize grow (redrawn wr dq) osq = w' at *
              have HBW := hidI kk.out
              have hrow2 : Perm.Row w' G N (sf wk u o i) := Row.below HROW2.out kk.out hGlt
              have HL2 := hidI (HLV.out.below kk.out (Nat.le_refl _))
              have HO2 := hidI (HOV.out.below kk.out (Nat.le_refl _))
              have cz := World.rowIs.cell hrow2 hzN
              have fz := World.rowIs.frozen hrow2 z
              have co2 := D0.out w' kk.out
              have hrng := sf_range wk u o i z (by rw [HOL.out]; omega)
              have hrow3 : Perm.Row (w'.setCell ⟨G, z, none⟩ (.int .i64 (sf wk u o i z + 1))) G N (sf wk u o (i + 1)) := hrow2.put z (sf wk u o i z + 1) (fun j hj => sf_next wk u HOI.out j)
              have HR3 := hidI hrow3
              have HB3' := hidI (HBY.out.trans (kk.out.mono HBY.out.size))
              have hGW : W3.heap.size ≤ G := Nat.le_of_eq HGE.out
              have HB4 : Hid (Below W3.heap.size W3 (w'.setCell ⟨G, z, none⟩ (.int .i64 (sf wk u o i z + 1)))) := HB3'.out.setCell (p := ⟨G, z, none⟩) hGW _
              have HL3 := hidI (HL2.out.set (G := G) (i := z) (by omega) (.int .i64 (sf wk u o i z + 1)))
              have HO3 := hidI (HO2.out.set (G := G) (i := z) (by omega) (.int .i64 (sf wk u o i z + 1)))
              have wsf : IntKind.i64.wrap (sf wk u o i z + 1) = sf wk u o i z + 1 := wrap_small (by omega) (by omega)
              clear hrow2 hrow3 hrng
              obtain ⟨sv, hsv⟩ : ∃ sv, sf wk u o i z = sv := ⟨_, rfl⟩
              rw [hsv] at cz wsf HR3 HB4 HL3 HO3
              clear hsv
              go_wp2
              go_roundg gh
              case measure => omega
              case rel => exact ⟨i + 1, by omega, by go_num, HR3.out, HL3.out, HO3.out, HB4.out⟩
/-- As the statement has its arguments. -/
theorem partsOnce_any (x y : Nat) (hx : x < 256) (hy : y < 256) {W : World} (v0 : Value) (bys : List Int) (ha : ArgI W v0 bys) (_ : ∀ z ∈ bys, Wf z) (kk : Nat) (hkk : kk < 18446744073709551616) :
    Calls Try.prog 4 #[.agg #[.int .u8 (x : Int), .int .u8 (y : Int)], v0, .int .u64 (kk : Int)] W fun e w' => e = .returned (.bool true) ∧ Below W.heap.size W w' := once_walk x y hx hy v0 bys kk hkk W ha
end Go.Proofs.Ytjlnnpcaeikolaa
