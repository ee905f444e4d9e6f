/-
  Values of edges stand where the graph tells their places: the law TopLaid, walked.
-/
import Derived.Test.YtbjoljokdjgbnacLaid
namespace Go.Proofs.Ytbjoljokdjgbnac
open Go.RowKit Go.Deep
theorem good_small {N : Nat} (hN : (N : Int) ≤ 12) {x : Int × Int} (h : good N x = true) : 0 ≤ x.1 ∧ x.1 ≤ 11 ∧ 0 ≤ x.2 ∧ x.2 ≤ 11 := by
  simp only [good, Bool.and_eq_true, decide_eq_true_eq] at h
  omega
abbrev wKey : ByteArray := ⟨#[119]⟩
theorem wrap_small {a : Int} (h1 : -9223372036854775808 ≤ a) (h2 : a ≤ 9223372036854775807) : IntKind.i64.wrap a = a := by rw [IntKind.wrap_i64]; omega
theorem wKey_name : isName wKey = true := by decide
set_option maxRecDepth 100000 in
set_option maxHeartbeats 8000000 in
theorem laid_in (n : Int) (lvv : Value) (fs : Edges) (w : World) (hs : SeesE w lvv fs) (h30 : fs.length ≤ 30) :
    Calls Try.prog 5 #[.int .i64 n, lvv] w fun e w' => e = .returned (.bool true) ∧ Below w.heap.size w w' := by
  have HS := hidI hs
  obtain ⟨m, hm⟩ : ∃ m, fs.length = m := ⟨_, rfl⟩
  have hlv : ∃ la lcap, lvv = .slice la m lcap := by obtain ⟨a, c, h, _⟩ := hs; exact ⟨a, c, by rw [← hm]; exact h⟩
  obtain ⟨la, lcap, rfl⟩ := hlv
  rw [hm] at h30
  have hd : decide ((30 : Int) < (m : Int)) = false := by simp; omega
  have HM := hidI hm
  clear hs hm
  rcases check_parts n fs with hbad | ⟨h1, h2, h3, hgd⟩
  · have C2 := hidI (new_nil n _ fs w HS.out hbad)
    have C3 : Hid (∀ w1, Below w.heap.size w w1 → Calls Try.prog 28 #[.int .i64 n, .slice la m lcap] w1 fun e w' => e = .returned (.tuple #[.int .i64 (check n fs).1, .int .i64 11]) ∧ Below w1.heap.size w1 w') := fun w1 hb => by
      have := check_any n _ fs w1 (HS.out.below hb (Nat.le_refl _))
      rw [hbad] at this
      exact this
    clear hbad
    go_enter Try.func5, Try.ntmps5
    go_wp2_with (go_at_call 27; refine Calls.mono C2.out ?_; rintro e w1 ⟨rfl, hb1⟩; refine Hid.out ?_)
    refine hidI ?_
    have C4 := hidI (C3.out w1 hb1)
    have HB1 := hidI hb1
    clear C2 C3 hb1 HS
    go_wp2_with (go_at_call 28; refine Calls.mono C4.out ?_; rintro e w2 ⟨rfl, hb2⟩; refine Hid.out ?_)
    refine hidI ?_
    have HB2 := hidI (HB1.out.trans (hb2.mono HB1.out.size))
    clear C4 hb2 HB1
    go_wp2
    go_ret
    exact ⟨rfl, HB2.out⟩
  · obtain ⟨N, rfl⟩ : ∃ N : Nat, n = N := ⟨n.toNat, by omega⟩
    have HG := hidI hgd
    have C2 := hidI (new_ok N _ fs w HS.out h1 h2 h3 hgd)
    clear hgd
    go_enter Try.func5, Try.ntmps5
    go_wp2_with (go_at_call 27; refine Calls.mono C2.out ?_; rintro e w1 ⟨gb, rfl, hg1, hb1⟩; refine Hid.out ?_)
    refine hidI ?_
    have HG1 := hidI hg1
    have HB1 := hidI hb1
    have HS1 := hidI (HS.out.below hb1 (Nat.le_refl _))
    have CN1 := hidI (n_any _ _ _ w1 hg1)
    have CM1 : Hid (Calls Try.prog 30 #[.pointer (some ⟨gb, 0, none⟩)] w1 fun e w' => e = .returned (.int .i64 (m : Int)) ∧ w1 = w') := by
      have := m_any _ _ _ w1 hg1
      rw [HM.out] at this
      exact this
    have CC := hidI (cnew_ok (N : Int) (m : Int) w1 ⟨h1, h2, by omega, by omega⟩)
    clear C2 hg1 hb1 HS
    go_wp2_with (first | (go_at_call 29; refine Calls.mono CN1.out ?_; rintro e w' ⟨rfl, rfl⟩) | (go_at_call 30; refine Calls.mono CM1.out ?_; rintro e w' ⟨rfl, rfl⟩) | (go_at_call 25; refine Calls.mono CC.out ?_; rintro e w2 ⟨rfl, rfl⟩; refine Hid.out ?_))
    refine hidI ?_
    obtain ⟨w2, hw2⟩ : ∃ w2, w2 = (w1.alloc (.map #[] 0)).alloc (.cells #[.int .i64 (N : Int), .int .i64 (m : Int), .map (some w1.heap.size)] 78) := ⟨_, rfl⟩
    rw [← hw2]
    have c0 : w2.cell? ⟨w1.heap.size + 1, 0, none⟩ = some (.int .i64 (N : Int)) := by rw [hw2]; go_simp
    have c1 : w2.cell? ⟨w1.heap.size + 1, 1, none⟩ = some (.int .i64 (m : Int)) := by rw [hw2]; go_simp
    have c2 : w2.cell? ⟨w1.heap.size + 1, 2, none⟩ = some (.map (some w1.heap.size)) := by rw [hw2]; go_simp
    have hmb : w2.heap[w1.heap.size]? = some (.map #[] 0) := by
      rw [hw2, Below.heap_alloc _ _ _ (by simp)]
      exact (MapKept.heap_alloc w1 _).1
    have hB2 : Below w1.heap.size w1 w2 := by rw [hw2]; (repeat (first | exact Below.refl _ _ | assumption | refine Below.drew ?_ | refine Below.alloc ?_ (by first | omega | (simp; done) | (simp; omega)) _ | refine Below.setCell ?_ (by first | omega | (simp; done) | (simp; omega)) _))
    have hsz2 : w2.heap.size = w1.heap.size + 2 := by rw [hw2]; simp
    clear hw2
    have CD := hidI (declare_lay (w1.heap.size + 1) w1.heap.size (N : Int) (m : Int) (w2.alloc (.cells #[.string wKey, .int .u8 3] 33)) wKey 3 1 (cell_al _ c0) (cell_al _ c1) (cell_al _ c2) ((Below.heap_alloc _ _ _ (by omega)).trans hmb) (by omega) (by decide) (by decide) wKey_name (by decide) (by decide) m (by simp [sideLen]) (by omega))
    have HK0 : Hid ((w2.alloc (.cells #[.string wKey, .int .u8 3] 33)).cell? ⟨w2.heap.size, 0, none⟩ = some (.string wKey)) := hidI (by go_simp)
    have HK1 : Hid ((w2.alloc (.cells #[.string wKey, .int .u8 3] 33)).cell? ⟨w2.heap.size, 1, none⟩ = some (.int .u8 3)) := hidI (by go_simp)
    have HSZ := hidI hsz2
    have HB2 := hidI hB2
    clear c0 c1 c2 hmb hB2 hsz2 CC CN1 CM1
    go_wp2_with (go_at_call 15; refine Calls.mono CD.out ?_; rintro e w3 ⟨rfl, b, ht, hb, hbl, hkeep⟩; refine Hid.out ?_)
    refine hidI ?_
    obtain ⟨kb, hkb⟩ : ∃ kb, kb = w2.heap.size := ⟨_, rfl⟩
    have hkbv : kb = w1.heap.size + 2 := hkb.trans HSZ.out
    have hsa : (w2.alloc (.cells #[.string wKey, .int .u8 3] 33)).heap.size = w2.heap.size + 1 := by simp
    have L0 : Hid (LaidAt w1 w3 kb (w1.heap.size + 1) w1.heap.size b wKey (laidUp fs 0)) := by
      have e0 : laidUp fs 0 = List.replicate m 0 := by simp [laidUp, HM.out]
      rw [e0]
      have h2 : w2.heap.size = w1.heap.size + 2 := HSZ.out
      refine ⟨(HB2.out.alloc (by omega) _).trans hbl, ht, ?_, ?_, by omega, by omega⟩
      · rw [hkb]; exact (hkeep _ _ (by omega) (by omega)).trans HK0.out
      · rw [hkb]; exact (hkeep _ _ (by omega) (by omega)).trans HK1.out
    have HKBV := hidI hkbv
    rw [← hkb]
    clear CD HK0 HK1 HB2 ht hb hbl hkeep hsa hkb hkbv HSZ
    go_wp2
    go_loopg [10] m (fun g s10 wx => ∃ (i : Nat), i + g = m ∧ s10 = .int .i64 i ∧ LaidAt w1 wx kb (w1.heap.size + 1) w1.heap.size b wKey (laidUp fs i))
    case atStart => exact ⟨0, by omega, rfl, L0.out⟩
    case round =>
      obtain ⟨i, hig, rfl, hla⟩ := hrel
      have LX := hidI hla
      clear hla L0
      cases gk with
      | succ g =>
        have hlt : i < m := by omega
        have k3 : (i : Int) < (m : Int) := by omega
        obtain ⟨x, hx⟩ : ∃ x, fs[i]? = some x := ⟨fs[i]'(by have := HM.out; omega), List.getElem?_eq_getElem _⟩
        have hxs := good_small h2 (HG.out x (List.mem_of_getElem? hx))
        have HX := hidI hx
        obtain ⟨la', lcap', he, hlc⟩ := HS1.out
        rw [HM.out] at he
        cases he
        rcases hlc with h0 | ⟨eb, off, rfl, hl⟩
        · have := HM.out; rw [h0] at this; simp at this; omega
        skip
        obtain ⟨e1, e2⟩ := hl i x hx
        have hbw : eb < w1.heap.size := World.block_lt_of_cell? w1 _ e1
        have f1 : ∀ u, Below w1.heap.size w1 u → u.cell? ⟨eb, off + i * 2, none⟩ = some (.int .i64 x.1) := fun u hu => (hu.cell (p := ⟨eb, off + i * 2, none⟩) hbw).trans e1
        have f2 : ∀ u, Below w1.heap.size w1 u → u.cell? ⟨eb, off + i * 2 + 1, none⟩ = some (.int .i64 x.2) := fun u hu => (hu.cell (p := ⟨eb, off + i * 2 + 1, none⟩) hbw).trans e2
        have F1 := hidI f1
        have F2 := hidI f2
        have d1 : wr.drew.cell? ⟨eb, off + i * 2, none⟩ = some (.int .i64 x.1) := f1 _ LX.out.1.drew
        have d2 : wr.drew.cell? ⟨eb, off + i * 2 + 1, none⟩ = some (.int .i64 x.2) := f2 _ LX.out.1.drew
        have LD := hidI (LX.out.below (Below.refl _ wr).drew)
        have d3 := LD.out.2.2.1
        have d4 := LD.out.2.2.2.1
        obtain ⟨x1, x2⟩ := x
        simp only at hxs d1 d2 F1 F2 HX
        have CP := hidI (LD.out.2.1.put (i := i) (by rw [laidUp_length fs (by have := HM.out; omega), HM.out]; exact hlt) (x1 * 100 + x2) (by simp [fit]))
        have wr1 : IntKind.i64.wrap (x1 * 100) = x1 * 100 := by obtain ⟨q1, q2, q3, q4⟩ := hxs; exact wrap_small (by omega) (by omega)
        have wr2 : IntKind.i64.wrap (x1 * 100 + x2) = x1 * 100 + x2 := by obtain ⟨q1, q2, q3, q4⟩ := hxs; exact wrap_small (by omega) (by omega)
        clear hx hl f1 f2 e1 e2 hxs
        go_wp2
        go_region_held3 (fun w' => w'.cell? ⟨kb, 0, none⟩ = some (.string wKey) ∧ w'.cell? ⟨kb, 1, none⟩ = some (.int .u8 3) ∧ w'.cell? ⟨eb, off + i * 2, none⟩ = some (.int .i64 x1) ∧ w'.cell? ⟨eb, off + i * 2 + 1, none⟩ = some (.int .i64 x2))
          (first | assumption | exact ⟨d3, d4, d1, d2⟩ | exact ⟨k5, k6, k7, k8⟩)
          ((go_at_call 16; refine Calls.mono CP.out ?_; rintro e w' ⟨rfl, ht, wa, ha, hw⟩; have L5 := hidI (LD.out.put ht ha hw); have k5 := L5.out.2.2.1; have k6 := L5.out.2.2.2.1; have k7 := F1.out w' L5.out.1; have k8 := F2.out w' L5.out.1; clear ht ha hw))
        all_goals
          go_wp2
          go_roundg g
          case measure => omega
          case rel => exact ⟨i + 1, by omega, by go_num, by have := L5.out; rw [laidUp_next fs HX.out] at this; exact this⟩
      | zero =>
        have hil : m = i := by omega
        subst hil
        have L1 : Hid (LaidAt w1 wr kb (w1.heap.size + 1) w1.heap.size b wKey (nums fs)) := by
          have := LX.out
          rw [show laidUp fs m = nums fs by rw [← HM.out]; exact laidUp_all fs] at this
          exact this
        clear LX
        go_wp2
        go_loopg [11, 12] N (fun g s11 s12 wx => ∃ (v : Nat), v + g = N ∧ s12 = .int .i64 v ∧ s11 = .int .i64 ((cols fs v).length : Int) ∧ LaidAt w1 wx kb (w1.heap.size + 1) w1.heap.size b wKey (nums fs))
        case atStart => exact ⟨0, by omega, rfl, by simp [cols], L1.out⟩
        case round =>
          obtain ⟨v, hvg, rfl, rfl, hla⟩ := hrel
          have LX := hidI hla
          have CN := hidI (n_any (some ⟨gb, 0, none⟩) _ _ wr (HG1.out.below hla.1 (Nat.le_refl _)))
          clear hla L1
          cases gk with
          | zero =>
            have hvN : v = N := by omega
            subst hvN
            have hcl : ((cols fs v).length : Int) = (m : Int) := by rw [cols_all fs v HG.out, HM.out]
            rw [hcl]
            have k1 := LX.out.2.2.1
            have k2 := LX.out.2.2.2.1
            have CL := hidI (LX.out.2.1.list (by rw [nums_length, HM.out]; omega))
            clear hcl
            go_wp2_with (first | (go_at_call 29; refine Calls.mono CN.out ?_; rintro e w' ⟨rfl, rfl⟩) | (go_at_call 20; refine Calls.mono CL.out ?_; rintro e w' ⟨lu, rfl, hls, hbx⟩; refine Hid.out ?_))
            refine hidI ?_
            obtain ⟨lua, luc, rfl, _⟩ := hls
            have HBX := hidI (HB1.out.trans ((LX.out.1.trans (hbx.mono LX.out.1.size)).mono HB1.out.size))
            have hnl : (nums fs).length = m := by rw [nums_length, HM.out]
            rw [hnl]
            clear CL CN LX hbx hnl
            go_wp2
            go_ret
            exact ⟨by simp, HBX.out⟩
          | succ g =>
            have hvN : v < N := by omega
            have hvN2 : (v : Int) < (N : Int) := by omega
            have CO := hidI (out_any (some ⟨gb, 0, none⟩) (v : Int) fs (by have := HM.out; omega) wr (HG1.out.below LX.out.1 (Nat.le_refl _)).walks)
            go_wp2_with (first | (go_at_call 29; refine Calls.mono CN.out ?_; rintro e w' ⟨rfl, rfl⟩) | (go_at_call 31; refine Calls.mono CO.out ?_; rintro e w5 ⟨ou, rfl, hso, hb5⟩; refine Hid.out ?_))
            refine hidI ?_
            have L5 := hidI (LX.out.below hb5)
            obtain ⟨q, hq⟩ : ∃ q, (places fs v false).length = q := ⟨_, rfl⟩
            have hcs : (cols fs (v + 1)).length = (cols fs v).length + q := by rw [cols_succ, List.length_append, hq]
            have hcle := cols_le fs (v + 1)
            rw [HM.out] at hcle
            obtain ⟨oa, ocap, rfl, hoc⟩ := hso
            rw [hq] at hoc ⊢
            obtain ⟨sn, hsn⟩ : ∃ sn, (cols fs v).length = sn := ⟨_, rfl⟩
            rw [hsn] at hcs ⊢
            have HOC := hidI hoc
            have HQ := hidI hq
            have HCS := hidI hcs
            have hsq : sn + q ≤ 30 := by omega
            clear hoc hq hcs hsn hcle CO CN LX hb5
            go_wp2
            go_loopg [11, 14] q (fun gh s11 s14 wy => ∃ (i : Nat), i + gh = q ∧ s14 = .int .i64 i ∧ s11 = .int .i64 ((sn + i : Nat) : Int) ∧ Below w5.heap.size w5 wy)
            case atStart => exact ⟨0, by omega, rfl, rfl, Below.refl _ _⟩
            case round =>
              obtain ⟨i, hig, rfl, rfl, hby⟩ := hrel
              have HBY := hidI hby
              cases gk with
              | zero =>
                have hil : q = i := by omega
                subst hil
                go_wp2
                go_roundg g
                case measure => omega
                case rel => exact ⟨v + 1, by omega, by go_num, by rw [HCS.out], L5.out.below HBY.out⟩
              | succ gh =>
                have hiq : i < q := by omega
                have hiq2 : (i : Int) < (q : Int) := by omega
                rcases HOC.out with h0 | ⟨ob, oo, rfl, hoc⟩
                · have := HQ.out; rw [h0] at this; simp at this; omega
                have hil : i < (places fs v false).length := by rw [HQ.out]; exact hiq
                have co := hoc i hiq
                have hgd : (places fs v false).getD i 0 = (places fs v false)[i] := by simp [List.getD, hil]
                obtain ⟨j, x, hpj, hxj, hxv⟩ := places_from (List.getElem_mem hil)
                rw [hgd, hpj] at co
                have hobw : ob < w5.heap.size := World.block_lt_of_cell? w5 _ co
                have L6 := hidI (L5.out.below hby)
                have F0 : Hid (∀ u, Below w5.heap.size w5 u → u.cell? ⟨ob, oo + i, none⟩ = some (.int .i64 (j : Int))) := fun u hu => (hu.cell (p := ⟨ob, oo + i, none⟩) hobw).trans co
                have c1 := F0.out wr hby
                have d1 : wr.drew.cell? ⟨ob, oo + i, none⟩ = some (.int .i64 (j : Int)) := F0.out _ hby.drew
                have LD := hidI (L6.out.below (Below.refl _ wr).drew)
                have d3 := LD.out.2.2.1
                have d4 := LD.out.2.2.2.1
                have hjl : j < fs.length := (List.getElem?_eq_some_iff.1 hxj).1
                have hxs := good_small h2 (HG.out x (List.mem_of_getElem? hxj))
                have CG : Hid (Calls Try.prog 13 #[.pointer (some ⟨w1.heap.size + 1, 0, none⟩), ke wKey 3, .int .i64 (j : Int)] wr.drew fun e w' => e = .returned (.tuple #[.int .i64 ((v : Int) * 100 + x.2), .int .i64 0]) ∧ Below wr.drew.heap.size wr.drew w') := by
                  have := LD.out.2.1.get (i := j) (by rw [nums_length]; exact hjl)
                  rw [nums_at fs hxj, hxv] at this
                  exact this
                obtain ⟨x1, x2⟩ := x
                simp only at hxv hxs CG
                subst hxv
                have HXJ := hidI hxj
                have CE := hidI (fun u (hu : Below w5.heap.size w5 u) => edge_in (some ⟨gb, 0, none⟩) (N : Int) j _ fs u (HG1.out.below (L5.out.below hu).1 (Nat.le_refl _)) HXJ.out)
                have wr1 : IntKind.i64.wrap ((v : Int) * 100) = (v : Int) * 100 := wrap_small (by omega) (by omega)
                have wr2 : IntKind.i64.wrap ((v : Int) * 100 + x2) = (v : Int) * 100 + x2 := by obtain ⟨q1, q2, q3, q4⟩ := hxs; exact wrap_small (by omega) (by omega)
                clear hoc hil co hgd hpj hxj hxs hjl hby
                go_wp2
                go_region_held3 (fun w' => w'.cell? ⟨kb, 0, none⟩ = some (.string wKey) ∧ w'.cell? ⟨kb, 1, none⟩ = some (.int .u8 3) ∧ w'.cell? ⟨ob, oo + i, none⟩ = some (.int .i64 (j : Int)))
                  (first | assumption | exact ⟨d3, d4, d1⟩ | exact ⟨k5, k6, k7⟩)
                  ((go_at_call 13; refine Calls.mono CG.out ?_; rintro e w6 ⟨rfl, hb6⟩; have B6 := hidI (HBY.out.drew.trans (hb6.mono HBY.out.drew.size)); have L7 := hidI (LD.out.below hb6); have k5 := L7.out.2.2.1; have k6 := L7.out.2.2.2.1; have k7 := F0.out w6 B6.out; clear hb6))
                all_goals
                  have CE6 := hidI (CE.out w6 B6.out)
                  go_wp2_with (go_at_call 32; refine Calls.mono CE6.out ?_; rintro e w7 ⟨rfl, hb7⟩; refine Hid.out ?_)
                  refine hidI ?_
                  have B7 := hidI (B6.out.trans (hb7.mono B6.out.size))
                  clear hb7 CE6
                  go_wp2
                  go_roundg gh
                  case measure => omega
                  case rel => exact ⟨i + 1, by omega, by go_num, by go_num, by first | exact B7.out.alloc B7.out.size _ | exact (B7.out.alloc B7.out.size _).drew⟩
set_option maxRecDepth 100000 in
set_option maxHeartbeats 8000000 in
theorem laid_over (n : Int) (ux : Addr) (len lcap : Nat) (fs : Edges) (w : World) (hs : SeesE w (.slice (some ux) 30 lcap) fs) (hlen : 30 < len) (hcap : len ≤ lcap) (hmx : lcap ≤ 9223372036854775807) :
    Calls Try.prog 5 #[.int .i64 n, .slice (some ux) len lcap] w fun e w' => e = .returned (.bool true) ∧ Below w.heap.size w w' := by
  have HS := hidI hs
  have hm : fs.length = 30 := by obtain ⟨a, c, h, _⟩ := hs; simp only [Value.slice.injEq] at h; omega
  have h100 : (30 : Int) < (len : Int) := by omega
  have HM := hidI hm
  clear hs hm
  rcases check_parts n fs with hbad | ⟨h1, h2, h3, hgd⟩
  · have C2 := hidI (new_nil n _ fs w HS.out hbad)
    have C3 : Hid (∀ w1, Below w.heap.size w w1 → Calls Try.prog 28 #[.int .i64 n, .slice (some ux) 30 lcap] w1 fun e w' => e = .returned (.tuple #[.int .i64 (check n fs).1, .int .i64 11]) ∧ Below w1.heap.size w1 w') := fun w1 hb => by
      have := check_any n _ fs w1 (HS.out.below hb (Nat.le_refl _))
      rw [hbad] at this
      exact this
    clear hbad
    go_enter Try.func5, Try.ntmps5
    go_wp2_with (go_at_call 27; refine Calls.mono C2.out ?_; rintro e w1 ⟨rfl, hb1⟩; refine Hid.out ?_)
    refine hidI ?_
    have C4 := hidI (C3.out w1 hb1)
    have HB1 := hidI hb1
    clear C2 C3 hb1 HS
    go_wp2_with (go_at_call 28; refine Calls.mono C4.out ?_; rintro e w2 ⟨rfl, hb2⟩; refine Hid.out ?_)
    refine hidI ?_
    have HB2 := hidI (HB1.out.trans (hb2.mono HB1.out.size))
    clear C4 hb2 HB1
    go_wp2
    go_ret
    exact ⟨rfl, HB2.out⟩
  · obtain ⟨N, rfl⟩ : ∃ N : Nat, n = N := ⟨n.toNat, by omega⟩
    have HG := hidI hgd
    have C2 := hidI (new_ok N _ fs w HS.out h1 h2 h3 hgd)
    clear hgd
    go_enter Try.func5, Try.ntmps5
    go_wp2_with (go_at_call 27; refine Calls.mono C2.out ?_; rintro e w1 ⟨gb, rfl, hg1, hb1⟩; refine Hid.out ?_)
    refine hidI ?_
    have HG1 := hidI hg1
    have HB1 := hidI hb1
    have HS1 := hidI (HS.out.below hb1 (Nat.le_refl _))
    have CN1 := hidI (n_any _ _ _ w1 hg1)
    have CM1 : Hid (Calls Try.prog 30 #[.pointer (some ⟨gb, 0, none⟩)] w1 fun e w' => e = .returned (.int .i64 (30 : Int)) ∧ w1 = w') := by
      have := m_any _ _ _ w1 hg1
      rw [HM.out] at this
      exact this
    have CC := hidI (cnew_ok (N : Int) (30 : Int) w1 ⟨h1, h2, by omega, by omega⟩)
    clear C2 hg1 hb1 HS
    go_wp2_with (first | (go_at_call 29; refine Calls.mono CN1.out ?_; rintro e w' ⟨rfl, rfl⟩) | (go_at_call 30; refine Calls.mono CM1.out ?_; rintro e w' ⟨rfl, rfl⟩) | (go_at_call 25; refine Calls.mono CC.out ?_; rintro e w2 ⟨rfl, rfl⟩; refine Hid.out ?_))
    refine hidI ?_
    obtain ⟨w2, hw2⟩ : ∃ w2, w2 = (w1.alloc (.map #[] 0)).alloc (.cells #[.int .i64 (N : Int), .int .i64 (30 : Int), .map (some w1.heap.size)] 78) := ⟨_, rfl⟩
    rw [← hw2]
    have c0 : w2.cell? ⟨w1.heap.size + 1, 0, none⟩ = some (.int .i64 (N : Int)) := by rw [hw2]; go_simp
    have c1 : w2.cell? ⟨w1.heap.size + 1, 1, none⟩ = some (.int .i64 (30 : Int)) := by rw [hw2]; go_simp
    have c2 : w2.cell? ⟨w1.heap.size + 1, 2, none⟩ = some (.map (some w1.heap.size)) := by rw [hw2]; go_simp
    have hmb : w2.heap[w1.heap.size]? = some (.map #[] 0) := by
      rw [hw2, Below.heap_alloc _ _ _ (by simp)]
      exact (MapKept.heap_alloc w1 _).1
    have hB2 : Below w1.heap.size w1 w2 := by rw [hw2]; (repeat (first | exact Below.refl _ _ | assumption | refine Below.drew ?_ | refine Below.alloc ?_ (by first | omega | (simp; done) | (simp; omega)) _ | refine Below.setCell ?_ (by first | omega | (simp; done) | (simp; omega)) _))
    have hsz2 : w2.heap.size = w1.heap.size + 2 := by rw [hw2]; simp
    clear hw2
    have CD := hidI (declare_lay (w1.heap.size + 1) w1.heap.size (N : Int) (30 : Int) (w2.alloc (.cells #[.string wKey, .int .u8 3] 33)) wKey 3 1 (cell_al _ c0) (cell_al _ c1) (cell_al _ c2) ((Below.heap_alloc _ _ _ (by omega)).trans hmb) (by omega) (by decide) (by decide) wKey_name (by decide) (by decide) 30 (by simp [sideLen]) (by omega))
    have HK0 : Hid ((w2.alloc (.cells #[.string wKey, .int .u8 3] 33)).cell? ⟨w2.heap.size, 0, none⟩ = some (.string wKey)) := hidI (by go_simp)
    have HK1 : Hid ((w2.alloc (.cells #[.string wKey, .int .u8 3] 33)).cell? ⟨w2.heap.size, 1, none⟩ = some (.int .u8 3)) := hidI (by go_simp)
    have HSZ := hidI hsz2
    have HB2 := hidI hB2
    clear c0 c1 c2 hmb hB2 hsz2 CC CN1 CM1
    go_wp2_with (go_at_call 15; refine Calls.mono CD.out ?_; rintro e w3 ⟨rfl, b, ht, hb, hbl, hkeep⟩; refine Hid.out ?_)
    refine hidI ?_
    obtain ⟨kb, hkb⟩ : ∃ kb, kb = w2.heap.size := ⟨_, rfl⟩
    have hkbv : kb = w1.heap.size + 2 := hkb.trans HSZ.out
    have hsa : (w2.alloc (.cells #[.string wKey, .int .u8 3] 33)).heap.size = w2.heap.size + 1 := by simp
    have L0 : Hid (LaidAt w1 w3 kb (w1.heap.size + 1) w1.heap.size b wKey (laidUp fs 0)) := by
      have e0 : laidUp fs 0 = List.replicate 30 0 := by simp [laidUp, HM.out]
      rw [e0]
      have h2 : w2.heap.size = w1.heap.size + 2 := HSZ.out
      refine ⟨(HB2.out.alloc (by omega) _).trans hbl, ht, ?_, ?_, by omega, by omega⟩
      · rw [hkb]; exact (hkeep _ _ (by omega) (by omega)).trans HK0.out
      · rw [hkb]; exact (hkeep _ _ (by omega) (by omega)).trans HK1.out
    have HKBV := hidI hkbv
    rw [← hkb]
    clear CD HK0 HK1 HB2 ht hb hbl hkeep hsa hkb hkbv HSZ
    go_wp2
    go_loopg [10] 30 (fun g s10 wx => ∃ (i : Nat), i + g = 30 ∧ s10 = .int .i64 i ∧ LaidAt w1 wx kb (w1.heap.size + 1) w1.heap.size b wKey (laidUp fs i))
    case atStart => exact ⟨0, by omega, rfl, L0.out⟩
    case round =>
      obtain ⟨i, hig, rfl, hla⟩ := hrel
      have LX := hidI hla
      clear hla L0
      cases gk with
      | succ g =>
        have hlt : i < 30 := by omega
        have k3 : (i : Int) < (30 : Int) := by omega
        obtain ⟨x, hx⟩ : ∃ x, fs[i]? = some x := ⟨fs[i]'(by have := HM.out; omega), List.getElem?_eq_getElem _⟩
        have hxs := good_small h2 (HG.out x (List.mem_of_getElem? hx))
        have HX := hidI hx
        obtain ⟨la', lcap', he, hlc⟩ := HS1.out
        rw [HM.out] at he
        cases he
        rcases hlc with h0 | ⟨eb, off, hux, hl⟩
        · have := HM.out; rw [h0] at this; simp at this
        cases hux
        obtain ⟨e1, e2⟩ := hl i x hx
        have hbw : eb < w1.heap.size := World.block_lt_of_cell? w1 _ e1
        have f1 : ∀ u, Below w1.heap.size w1 u → u.cell? ⟨eb, off + i * 2, none⟩ = some (.int .i64 x.1) := fun u hu => (hu.cell (p := ⟨eb, off + i * 2, none⟩) hbw).trans e1
        have f2 : ∀ u, Below w1.heap.size w1 u → u.cell? ⟨eb, off + i * 2 + 1, none⟩ = some (.int .i64 x.2) := fun u hu => (hu.cell (p := ⟨eb, off + i * 2 + 1, none⟩) hbw).trans e2
        have F1 := hidI f1
        have F2 := hidI f2
        have d1 : wr.drew.cell? ⟨eb, off + i * 2, none⟩ = some (.int .i64 x.1) := f1 _ LX.out.1.drew
        have d2 : wr.drew.cell? ⟨eb, off + i * 2 + 1, none⟩ = some (.int .i64 x.2) := f2 _ LX.out.1.drew
        have LD := hidI (LX.out.below (Below.refl _ wr).drew)
        have d3 := LD.out.2.2.1
        have d4 := LD.out.2.2.2.1
        obtain ⟨x1, x2⟩ := x
        simp only at hxs d1 d2 F1 F2 HX
        have CP := hidI (LD.out.2.1.put (i := i) (by rw [laidUp_length fs (by have := HM.out; omega), HM.out]; exact hlt) (x1 * 100 + x2) (by simp [fit]))
        have wr1 : IntKind.i64.wrap (x1 * 100) = x1 * 100 := by obtain ⟨q1, q2, q3, q4⟩ := hxs; exact wrap_small (by omega) (by omega)
        have wr2 : IntKind.i64.wrap (x1 * 100 + x2) = x1 * 100 + x2 := by obtain ⟨q1, q2, q3, q4⟩ := hxs; exact wrap_small (by omega) (by omega)
        clear hx hl f1 f2 e1 e2 hxs
        go_wp2
        go_region_held3 (fun w' => w'.cell? ⟨kb, 0, none⟩ = some (.string wKey) ∧ w'.cell? ⟨kb, 1, none⟩ = some (.int .u8 3) ∧ w'.cell? ⟨eb, off + i * 2, none⟩ = some (.int .i64 x1) ∧ w'.cell? ⟨eb, off + i * 2 + 1, none⟩ = some (.int .i64 x2))
          (first | assumption | exact ⟨d3, d4, d1, d2⟩ | exact ⟨k5, k6, k7, k8⟩)
          ((go_at_call 16; refine Calls.mono CP.out ?_; rintro e w' ⟨rfl, ht, wa, ha, hw⟩; have L5 := hidI (LD.out.put ht ha hw); have k5 := L5.out.2.2.1; have k6 := L5.out.2.2.2.1; have k7 := F1.out w' L5.out.1; have k8 := F2.out w' L5.out.1; clear ht ha hw))
        all_goals
          go_wp2
          go_roundg g
          case measure => omega
          case rel => exact ⟨i + 1, by omega, by go_num, by have := L5.out; rw [laidUp_next fs HX.out] at this; exact this⟩
      | zero =>
        have hil : 30 = i := by omega
        subst hil
        have L1 : Hid (LaidAt w1 wr kb (w1.heap.size + 1) w1.heap.size b wKey (nums fs)) := by
          have := LX.out
          rw [show laidUp fs 30 = nums fs by rw [← HM.out]; exact laidUp_all fs] at this
          exact this
        clear LX
        go_wp2
        go_loopg [11, 12] N (fun g s11 s12 wx => ∃ (v : Nat), v + g = N ∧ s12 = .int .i64 v ∧ s11 = .int .i64 ((cols fs v).length : Int) ∧ LaidAt w1 wx kb (w1.heap.size + 1) w1.heap.size b wKey (nums fs))
        case atStart => exact ⟨0, by omega, rfl, by simp [cols], L1.out⟩
        case round =>
          obtain ⟨v, hvg, rfl, rfl, hla⟩ := hrel
          have LX := hidI hla
          have CN := hidI (n_any (some ⟨gb, 0, none⟩) _ _ wr (HG1.out.below hla.1 (Nat.le_refl _)))
          clear hla L1
          cases gk with
          | zero =>
            have hvN : v = N := by omega
            subst hvN
            have hcl : ((cols fs v).length : Int) = (30 : Int) := by rw [cols_all fs v HG.out, HM.out]; rfl
            rw [hcl]
            have k1 := LX.out.2.2.1
            have k2 := LX.out.2.2.2.1
            have CL := hidI (LX.out.2.1.list (by rw [nums_length, HM.out]; omega))
            clear hcl
            go_wp2_with (first | (go_at_call 29; refine Calls.mono CN.out ?_; rintro e w' ⟨rfl, rfl⟩) | (go_at_call 20; refine Calls.mono CL.out ?_; rintro e w' ⟨lu, rfl, hls, hbx⟩; refine Hid.out ?_))
            refine hidI ?_
            obtain ⟨lua, luc, rfl, _⟩ := hls
            have HBX := hidI (HB1.out.trans ((LX.out.1.trans (hbx.mono LX.out.1.size)).mono HB1.out.size))
            have hnl : (nums fs).length = 30 := by rw [nums_length, HM.out]
            rw [hnl]
            clear CL CN LX hbx hnl
            go_wp2
            go_ret
            exact ⟨by simp, HBX.out⟩
          | succ g =>
            have hvN : v < N := by omega
            have hvN2 : (v : Int) < (N : Int) := by omega
            have CO := hidI (out_any (some ⟨gb, 0, none⟩) (v : Int) fs (by have := HM.out; omega) wr (HG1.out.below LX.out.1 (Nat.le_refl _)).walks)
            go_wp2_with (first | (go_at_call 29; refine Calls.mono CN.out ?_; rintro e w' ⟨rfl, rfl⟩) | (go_at_call 31; refine Calls.mono CO.out ?_; rintro e w5 ⟨ou, rfl, hso, hb5⟩; refine Hid.out ?_))
            refine hidI ?_
            have L5 := hidI (LX.out.below hb5)
            obtain ⟨q, hq⟩ : ∃ q, (places fs v false).length = q := ⟨_, rfl⟩
            have hcs : (cols fs (v + 1)).length = (cols fs v).length + q := by rw [cols_succ, List.length_append, hq]
            have hcle := cols_le fs (v + 1)
            rw [HM.out] at hcle
            obtain ⟨oa, ocap, rfl, hoc⟩ := hso
            rw [hq] at hoc ⊢
            obtain ⟨sn, hsn⟩ : ∃ sn, (cols fs v).length = sn := ⟨_, rfl⟩
            rw [hsn] at hcs ⊢
            have HOC := hidI hoc
            have HQ := hidI hq
            have HCS := hidI hcs
            have hsq : sn + q ≤ 30 := by omega
            clear hoc hq hcs hsn hcle CO CN LX hb5
            go_wp2
            go_loopg [11, 14] q (fun gh s11 s14 wy => ∃ (i : Nat), i + gh = q ∧ s14 = .int .i64 i ∧ s11 = .int .i64 ((sn + i : Nat) : Int) ∧ Below w5.heap.size w5 wy)
            case atStart => exact ⟨0, by omega, rfl, rfl, Below.refl _ _⟩
            case round =>
              obtain ⟨i, hig, rfl, rfl, hby⟩ := hrel
              have HBY := hidI hby
              cases gk with
              | zero =>
                have hil : q = i := by omega
                subst hil
                go_wp2
                go_roundg g
                case measure => omega
                case rel => exact ⟨v + 1, by omega, by go_num, by rw [HCS.out], L5.out.below HBY.out⟩
              | succ gh =>
                have hiq : i < q := by omega
                have hiq2 : (i : Int) < (q : Int) := by omega
                rcases HOC.out with h0 | ⟨ob, oo, rfl, hoc⟩
                · have := HQ.out; rw [h0] at this; simp at this; omega
                have hil : i < (places fs v false).length := by rw [HQ.out]; exact hiq
                have co := hoc i hiq
                have hgd : (places fs v false).getD i 0 = (places fs v false)[i] := by simp [List.getD, hil]
                obtain ⟨j, x, hpj, hxj, hxv⟩ := places_from (List.getElem_mem hil)
                rw [hgd, hpj] at co
                have hobw : ob < w5.heap.size := World.block_lt_of_cell? w5 _ co
                have L6 := hidI (L5.out.below hby)
                have F0 : Hid (∀ u, Below w5.heap.size w5 u → u.cell? ⟨ob, oo + i, none⟩ = some (.int .i64 (j : Int))) := fun u hu => (hu.cell (p := ⟨ob, oo + i, none⟩) hobw).trans co
                have c1 := F0.out wr hby
                have d1 : wr.drew.cell? ⟨ob, oo + i, none⟩ = some (.int .i64 (j : Int)) := F0.out _ hby.drew
                have LD := hidI (L6.out.below (Below.refl _ wr).drew)
                have d3 := LD.out.2.2.1
                have d4 := LD.out.2.2.2.1
                have hjl : j < fs.length := (List.getElem?_eq_some_iff.1 hxj).1
                have hxs := good_small h2 (HG.out x (List.mem_of_getElem? hxj))
                have CG : Hid (Calls Try.prog 13 #[.pointer (some ⟨w1.heap.size + 1, 0, none⟩), ke wKey 3, .int .i64 (j : Int)] wr.drew fun e w' => e = .returned (.tuple #[.int .i64 ((v : Int) * 100 + x.2), .int .i64 0]) ∧ Below wr.drew.heap.size wr.drew w') := by
                  have := LD.out.2.1.get (i := j) (by rw [nums_length]; exact hjl)
                  rw [nums_at fs hxj, hxv] at this
                  exact this
                obtain ⟨x1, x2⟩ := x
                simp only at hxv hxs CG
                subst hxv
                have HXJ := hidI hxj
                have CE := hidI (fun u (hu : Below w5.heap.size w5 u) => edge_in (some ⟨gb, 0, none⟩) (N : Int) j _ fs u (HG1.out.below (L5.out.below hu).1 (Nat.le_refl _)) HXJ.out)
                have wr1 : IntKind.i64.wrap ((v : Int) * 100) = (v : Int) * 100 := wrap_small (by omega) (by omega)
                have wr2 : IntKind.i64.wrap ((v : Int) * 100 + x2) = (v : Int) * 100 + x2 := by obtain ⟨q1, q2, q3, q4⟩ := hxs; exact wrap_small (by omega) (by omega)
                clear hoc hil co hgd hpj hxj hxs hjl hby
                go_wp2
                go_region_held3 (fun w' => w'.cell? ⟨kb, 0, none⟩ = some (.string wKey) ∧ w'.cell? ⟨kb, 1, none⟩ = some (.int .u8 3) ∧ w'.cell? ⟨ob, oo + i, none⟩ = some (.int .i64 (j : Int)))
                  (first | assumption | exact ⟨d3, d4, d1⟩ | exact ⟨k5, k6, k7⟩)
                  ((go_at_call 13; refine Calls.mono CG.out ?_; rintro e w6 ⟨rfl, hb6⟩; have B6 := hidI (HBY.out.drew.trans (hb6.mono HBY.out.drew.size)); have L7 := hidI (LD.out.below hb6); have k5 := L7.out.2.2.1; have k6 := L7.out.2.2.2.1; have k7 := F0.out w6 B6.out; clear hb6))
                all_goals
                  have CE6 := hidI (CE.out w6 B6.out)
                  go_wp2_with (go_at_call 32; refine Calls.mono CE6.out ?_; rintro e w7 ⟨rfl, hb7⟩; refine Hid.out ?_)
                  refine hidI ?_
                  have B7 := hidI (B6.out.trans (hb7.mono B6.out.size))
                  clear hb7 CE6
                  go_wp2
                  go_roundg gh
                  case measure => omega
                  case rel => exact ⟨i + 1, by omega, by go_num, by go_num, by first | exact B7.out.alloc B7.out.size _ | exact (B7.out.alloc B7.out.size _).drew⟩
/-- As the statement has its arguments. -/
theorem topLaid_any (n : Int) (_ : -9223372036854775808 ≤ n ∧ n ≤ 9223372036854775807) {W : World} (v : Value) (es : Edges) (hv : ArgE W v es) (_ : ∀ x ∈ es, Wf x.1 ∧ Wf x.2) :
    Calls Try.prog 5 #[.int .i64 n, v] W fun e w' => e = .returned (.bool true) ∧ Below W.heap.size W w' := by
  by_cases hl : es.length ≤ 30
  · exact laid_in n v es W hv.1 hl
  · obtain ⟨⟨a, cap, rfl, hs⟩, a', len', cap', he, q1, q2⟩ := hv
    cases he
    rcases hs with h0 | ⟨b, off, rfl, hc⟩
    · subst h0; simp at hl
    have e30 : (es.take 30).length = 30 := by rw [List.length_take]; omega
    refine laid_over n _ _ _ (es.take 30) W ⟨some ⟨b, off, none⟩, cap, by rw [e30], .inr ⟨b, off, rfl, fun j x hx => hc j x ?_⟩⟩ (by omega) q1 q2
    rw [List.getElem?_take] at hx
    split at hx
    · exact hx
    · cases hx
end Go.Proofs.Ytbjoljokdjgbnac
