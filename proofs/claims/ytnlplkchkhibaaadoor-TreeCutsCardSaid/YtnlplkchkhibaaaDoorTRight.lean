/-
  TreeRight: what is parsed is right; sizes, tokens and brackets are as many as they must be.
-/
import Derived.Test.YtnlplkchkhibaaaDoorTRightM
namespace Go.Proofs.YtnlplkchkhibaaaDoor
open Go.RowKit Go.Deep Go.MapKept
def nF (l : List Tok) : Nat := (l.filter isF).length
def nC (l : List Tok) : Nat := (l.filter fun t => t.k == 2).length
theorem take_next {ts : List Tok} {i : Nat} {t : Tok} (h : ts[i]? = some t) : ts.take (i + 1) = ts.take i ++ [t] := by rw [List.take_add_one, h]; rfl
theorem nF_next {ts : List Tok} {i : Nat} {t : Tok} (h : ts[i]? = some t) : nF (ts.take (i + 1)) = nF (ts.take i) + (if isF t then 1 else 0) := by
  unfold nF
  rw [take_next h, List.filter_append]
  cases hf : isF t <;> simp [hf]
theorem nC_next {ts : List Tok} {i : Nat} {t : Tok} (h : ts[i]? = some t) : nC (ts.take (i + 1)) = nC (ts.take i) + (if t.k = 2 then 1 else 0) := by
  unfold nC
  rw [take_next h, List.filter_append]
  by_cases hf : t.k = 2 <;> simp [hf]
theorem nmT_next {ts : List Tok} {i : Nat} {t : Tok} (h : ts[i]? = some t) : (ts.take (i + 1)).all nmT = ((ts.take i).all nmT && nmT t) := by
  rw [take_next h, List.all_append]
  simp
theorem nF_le (l : List Tok) : nF l ≤ l.length := List.length_filter_le _ _
theorem nC_le (l : List Tok) : nC l ≤ l.length := List.length_filter_le _ _
theorem toks_cell {w : World} {a : Option Addr} {cap : Nat} {ts : List Tok} (h : SeesC w (.slice a ts.length cap) ts.length 4 (flatT ts)) {i : Nat} {t : Tok} (ht : ts[i]? = some t) : ∃ b off, a = some ⟨b, off, none⟩ ∧ w.cell? ⟨b, off + i * 4, none⟩ = some (.int .u8 t.k) ∧ w.cell? ⟨b, off + i * 4 + 1, none⟩ = some (.string t.s) := by
  obtain ⟨_, a', cap', he, h0 | ⟨b, off, rfl, hc⟩⟩ := h
  · have := (List.getElem?_eq_some_iff.1 ht).1; omega
  · cases he
    have c0 := hc (i * 4 + 0) (.int .u8 t.k) (by rw [flatT_get ts i 0 t ht (by omega)]; rfl)
    have c1 := hc (i * 4 + 1) (.string t.s) (by rw [flatT_get ts i 1 t ht (by omega)]; rfl)
    rw [← Nat.add_assoc] at c0 c1
    exact ⟨b, off, rfl, c0, c1⟩
set_option maxRecDepth 100000 in
set_option maxHeartbeats 16000000 in
theorem treeRight_law (ts : List Tok) (a : Option Addr) (cap : Nat) (hcap : ts.length ≤ cap) (hs : ∀ t ∈ ts, t.s.size ≤ 140737488355328) (w : World) (hv : SeesC w (.slice a ts.length cap) ts.length 4 (flatT ts)) (hL : Laid w) :
    Calls Tryd.prog 4 #[.slice a ts.length cap] w fun e w' => e = .returned (.bool true) ∧ Below w.heap.size w w' := by
  obtain ⟨v, hsv, hfew⟩ := few_any ts a cap hcap w hv
  obtain ⟨T, hT⟩ : ∃ T, ts.take 700 = T := ⟨_, rfl⟩
  rw [hT] at hsv
  have hs7 : ∀ t ∈ T, t.s.size ≤ 140737488355328 := fun t ht => hs t (List.mem_of_mem_take (hT ▸ ht))
  have hl7 : T.length ≤ 700 := by rw [← hT, List.length_take]; omega
  obtain ⟨_, va, vc, hve, _⟩ := id hsv
  subst hve
  have CF := hidI hfew
  have CP := hidI (tparse_any T _ w hsv hs7 (by omega))
  have HL := hidI hL
  have HS := hidI hsv
  have HS7 := hidI hs7
  clear hv hsv hfew hs7 hL hs hT hcap
  cases hp : parse T with
  | error q =>
    have hq := tparse_err hp
    rw [hp] at CP
    have hne : (q.2 == 0) = false := by rcases hq with h | h <;> rw [h] <;> rfl
    clear hp hq
    go_enter Tryd.func4, Tryd.ntmps4
    go_wp2_with (first
      | (go_at_call 10; refine (CF.out _).mono ?_; rintro e w' ⟨rfl, rfl⟩)
      | (go_at_call 9; refine CP.out.mono ?_; rintro e w1 ⟨rfl, hb1⟩; have HB1 := hidI hb1; clear hb1)
      | (go_at_call 12; refine (tlive_any _ (HL.out.on HB1.out)).mono ?_; rintro e w2 ⟨rfl, hb2⟩; have HB2 := hidI hb2; clear hb2))
    go_ret
    exact ⟨rfl, HB1.out.trans (HB2.out.mono HB1.out.size)⟩
  | ok σ =>
    rw [hp] at CP
    have hG := parse_good hp
    obtain ⟨lv, hSh, hlv, hC, hop⟩ := shape_parse hp
    have hlen := hG.len
    have htop := hG.top_len
    have HG := hidI hG
    have HSh := hidI hSh
    have HLv := hidI hlv
    have HC := hidI hC
    have hnF : nF T = σ.forms.length := by
      have := congrArg List.length hC.same
      simpa [nF] using this.symm
    have hnC : nC T = (σ.forms.filter fun f => f.k == 1).length := by
      have := hC.open_
      rw [hop] at this
      simpa [nC] using this
    have HnF := hidI hnF
    have HnC := hidI hnC
    clear hp hSh hlv hC hop hnF hnC hG
    go_enter Tryd.func4, Tryd.ntmps4
    go_wp2_with (first
      | (go_at_call 10; refine (CF.out _).mono ?_; rintro e w' ⟨rfl, rfl⟩)
      | (go_at_call 9; refine CP.out.mono ?_; rintro e w1 ⟨fv, tv, rfl, hf1, ht1, hb1⟩; have HF1 := hidI hf1; have HT1 := hidI ht1; have HB1 := hidI hb1; clear hf1 ht1 hb1))
    obtain ⟨ms, hms, hsm⟩ := seesM_of HF1.out
    have hml := len_same hms
    have hti := sees_ints HT1.out
    have hti2 : SeesC w1 tv (castI σ.top).length 1 (intsI (castI σ.top)) := hti
    obtain ⟨_, fa, fc, hfv, _⟩ := hsm.row
    obtain ⟨_, ta, tc, htv, htc⟩ := id hti2
    have hcl : (castI σ.top).length = σ.top.length := by simp [castI]
    rw [hcl] at htv
    subst hfv
    subst htv
    have HSM := hidI hsm
    have HTI := hidI hti2
    have HTC := hidI htc
    have HMS := hidI hms
    have hkl : ∀ x ∈ ms, x.1.kids.length ≤ 4611686018427387904 := fun x hx => by
      obtain ⟨j, hj⟩ := List.getElem?_of_mem hx
      obtain ⟨f, hf, e⟩ := fm_at hms hj
      have := HG.out.kid_len f (List.mem_of_getElem? hf)
      rw [e]
      simp [toFm]
      omega
    have HKL := hidI hkl
    clear hti hti2 htc hsm hms hkl HF1 HT1 CP
    obtain ⟨N, hN⟩ : ∃ N, ms.length = N := ⟨_, rfl⟩
    have HNm := hidI hN
    have HNf : Hid (σ.forms.length = N) := hidI (by omega)
    try rw [hN] at HSM
    try rw [hN]
    have hN4 : N ≤ 400 := by omega
    clear hN hml
    go_loopg [7, 11] σ.top.length (fun g s7 s11 wx => ∃ i b : Nat, i + g = σ.top.length ∧ s11 = .int .i64 (i : Int) ∧ s7 = .int .i64 (b : Int) ∧ b ≤ N ∧ Hid (Seg (Kof σ.forms) b N (σ.top.drop i)) ∧ Hid (Below w1.heap.size w1 wx))
    case atStart => exact ⟨0, 0, by omega, rfl, rfl, by omega, hidI (by have := HSh.out.seg; rw [HNf.out] at this; simpa using this), hidI (Below.refl _ _)⟩
    case round =>
      obtain ⟨i, b, hi, rfl, rfl, hbN, HSeg, HX⟩ := hrel
      cases gk with
      | succ g =>
        have hil : i < σ.top.length := by omega
        have hgi : σ.top[i]? = some σ.top[i] := List.getElem?_eq_getElem hil
        have hdr : σ.top.drop i = σ.top[i] :: σ.top.drop (i + 1) := List.drop_eq_getElem_cons hil
        have hseg := HSeg.out
        rw [hdr] at hseg
        obtain ⟨p, hp⟩ : ∃ p, σ.top[i] = p := ⟨_, rfl⟩
        rw [hp] at hseg hgi
        cases hseg with
        | @cons _ mid _ _ h1 h2 =>
          have l1 := h1.le
          have l2 := h2.le
          obtain ⟨ys, hw, hyl, _⟩ := walk_seg HMS.out (Seg.cons h1 (.nil mid)) (by rw [HNm.out]; omega) 0 (-1) (-1) (by omega) (by omega) (by omega)
          have hsz := size_any _ ms (b : Int) wr (HSM.out.below HX.out (Nat.le_refl _)) HKL.out (by rw [HNm.out]; omega) hw
          rw [hyl] at hsz
          have HZ := hidI hsz
          have HS2 := hidI h2
          have e1 : (i : Int) < (σ.top.length : Int) := by omega
          have e2 : (0 : Int) ≤ (i : Int) := by omega
          have e3 : ((i : Int)).toNat = i := by omega
          have cp : ∃ tb to, ta = some ⟨tb, to, none⟩ ∧ wr.cell? ⟨tb, to + i, none⟩ = some (.int .i64 (b : Int)) := by
            rcases HTC.out with h0 | ⟨tb, to, rfl, hc⟩
            · simp [castI] at h0; exact absurd hil (by simp [h0])
            · have := hc i (.int .i64 (b : Int)) (intsI_get (by simp [castI, hgi]))
              exact ⟨tb, to, rfl, (HX.out.cell (World.block_lt_of_cell? w1 _ this)).trans this⟩
          obtain ⟨tb, to, rfl, cp⟩ := cp
          have wb : IntKind.i64.wrap ((b : Int) + ((mid - b : Nat) : Int)) = (mid : Int) := by rw [show (b : Int) + ((mid - b : Nat) : Int) = (mid : Int) by omega, IntKind.wrap_i64]; omega
          obtain ⟨dd, hdd⟩ : ∃ dd : Nat, mid - b = dd := ⟨_, rfl⟩
          rw [hdd] at HZ wb
          clear hsz h1 h2 hw hyl hp hdr hgi hdd
          go_wp2_with (go_at_call 15; refine HZ.out.mono ?_; rintro e w2 ⟨rfl, hb2⟩; have HB2 := hidI (HX.out.trans (hb2.mono HX.out.size)); clear hb2)
          go_roundg g
          case measure => omega
          case rel => exact ⟨i + 1, mid, by omega, by go_num, rfl, by omega, HS2, HB2⟩
      | zero =>
        have hil : i = σ.top.length := by omega
        have hseg := HSeg.out
        rw [hil, List.drop_length] at hseg
        have hbn : b = N := by cases hseg; rfl
        subst hbn
        subst hil
        clear hseg HSeg
        go_wp2
        go_loopg [8, 9, 10, 12] T.length (fun g s8 s9 s10 s12 wx => ∃ i : Nat, i + g = T.length ∧ s12 = .int .i64 (i : Int) ∧ s8 = .int .i64 (nF (T.take i) : Int) ∧ s9 = .int .i64 (nC (T.take i) : Int) ∧ s10 = .bool ((T.take i).all nmT) ∧ Hid (Below w1.heap.size w1 wx))
        case atStart => exact ⟨0, by omega, rfl, by simp [nF], by simp [nC], by simp, HX⟩
        case round =>
          obtain ⟨i, hi, rfl, rfl, rfl, rfl, HX⟩ := hrel
          cases gk with
          | succ g =>
            have hil : i < T.length := by omega
            have hti : T[i]? = some T[i] := List.getElem?_eq_getElem hil
            obtain ⟨t, ht⟩ : ∃ t, T[i] = t := ⟨_, rfl⟩
            rw [ht] at hti
            obtain ⟨tb, to, hva, c0, c1⟩ := toks_cell HS.out hti
            subst hva
            have hbw : Below w.heap.size w wr := HB1.out.trans (HX.out.mono HB1.out.size)
            have d0 := (hbw.cell (World.block_lt_of_cell? w _ c0)).trans c0
            have d1 := (hbw.cell (World.block_lt_of_cell? w _ c1)).trans c1
            have hts := HS7.out t (List.mem_of_getElem? hti)
            obtain ⟨tk, tt, tn, tp⟩ := t
            simp only at d0 d1 hts
            have e1 : (i : Int) < (T.length : Int) := by omega
            have e2 : (0 : Int) ≤ (i : Int) := by omega
            have e3 : ((i : Int)).toNat = i := by omega
            have f1 := nF_le (T.take i)
            have f2 := nC_le (T.take i)
            have f3 : (T.take i).length ≤ 700 := by rw [List.length_take]; omega
            have wf : IntKind.i64.wrap ((nF (T.take i) : Int) + 1) = (nF (T.take i) : Int) + 1 := by rw [IntKind.wrap_i64]; omega
            have wc : IntKind.i64.wrap ((nC (T.take i) : Int) + 1) = (nC (T.take i) : Int) + 1 := by rw [IntKind.wrap_i64]; omega
            clear c0 c1 ht
            by_cases hk2 : tk = 2
            · subst hk2
              have HA := hidI (nF_next hti)
              have HB := hidI (nC_next hti)
              have HD := hidI (nmT_next hti)
              have hm2 : nmT ⟨2, tt, tn, tp⟩ = true := by simp [nmT]
              rw [hm2, Bool.and_true] at HD
              go_wp2
              go_roundg g
              case measure => omega
              case rel => exact ⟨i + 1, by omega, by go_num, by rw [HA.out]; simp [isF], by rw [HB.out]; simp, by rw [HD.out], HX⟩
            by_cases hk1 : tk = 1
            · subst hk1
              have HA := hidI (nF_next hti)
              have HB := hidI (nC_next hti)
              have HD := hidI (nmT_next hti)
              have hm1 : nmT ⟨1, tt, tn, tp⟩ = true := by simp [nmT]
              rw [hm1, Bool.and_true] at HD
              cases hnb : (T.take i).all nmT
              all_goals
                rw [hnb] at HD
                clear hnb
                go_wp2
                go_roundg g
                case measure => omega
                case rel => exact ⟨i + 1, by omega, by go_num, by rw [HA.out]; simp [isF], by rw [HB.out]; simp, by rw [HD.out], HX⟩
            by_cases hk3 : tk = 3
            · subst hk3
              have HA := hidI (nF_next hti)
              have HB := hidI (nC_next hti)
              have HD := hidI (nmT_next hti)
              have hm3 : nmT ⟨3, tt, tn, tp⟩ = (kindW tt == 3) := by simp [nmT]
              rw [hm3] at HD
              have CK := hidI (rkind_any tt hts wr)
              obtain ⟨KK, hKK⟩ : ∃ KK, kindW tt = KK := ⟨_, rfl⟩
              rw [hKK] at HD CK
              cases hnb : (T.take i).all nmT
              · rw [hnb, Bool.false_and] at HD
                clear hnb
                go_wp2
                go_roundg g
                case measure => omega
                case rel => exact ⟨i + 1, by omega, by go_num, by rw [HA.out]; simp [isF], by rw [HB.out]; simp, by rw [HD.out], HX⟩
              · rw [hnb, Bool.true_and] at HD
                clear hnb
                obtain ⟨bk, hbk⟩ : ∃ bk, (KK == 3) = bk := ⟨_, rfl⟩
                rw [hbk] at HD
                go_wp2_with (go_at_call 16; refine CK.out.mono ?_; rintro e w2 ⟨rfl, hb2⟩; have HB2 := hidI (HX.out.trans (hb2.mono HX.out.size)); clear hb2)
                go_roundg g
                case measure => omega
                case rel => exact ⟨i + 1, by omega, by go_num, by rw [HA.out]; simp [isF], by rw [HB.out]; simp, by rw [HD.out], HB2⟩
            by_cases hk4 : tk = 4
            · subst hk4
              have HA := hidI (nF_next hti)
              have HB := hidI (nC_next hti)
              have HD := hidI (nmT_next hti)
              have hm4 : nmT ⟨4, tt, tn, tp⟩ = true := by simp [nmT]
              rw [hm4, Bool.and_true] at HD
              cases hnb : (T.take i).all nmT
              all_goals
                rw [hnb] at HD
                clear hnb
                go_wp2
                go_roundg g
                case measure => omega
                case rel => exact ⟨i + 1, by omega, by go_num, by rw [HA.out]; simp [isF], by rw [HB.out]; simp, by rw [HD.out], HX⟩
            · have HA := hidI (nF_next hti)
              have HB := hidI (nC_next hti)
              have HD := hidI (nmT_next hti)
              have hm5 : nmT ⟨tk, tt, tn, tp⟩ = true := by simp [nmT, hk3]
              rw [hm5, Bool.and_true] at HD
              have q1 : (tk == 1) = false := by simp [hk1]
              have q2 : (tk == 2) = false := by simp [hk2]
              have q3 : (tk == 3) = false := by simp [hk3]
              have q4 : (tk == 4) = false := by simp [hk4]
              go_wp2
              go_roundg g
              case measure => omega
              case rel => exact ⟨i + 1, by omega, by go_num, by rw [HA.out]; simp [isF, hk1, hk3, hk4], by rw [HB.out]; simp [hk2], by rw [HD.out], HX⟩
          | zero =>
            have hil : i = T.length := by omega
            subst hil
            rw [List.take_length]
            have e1 : ¬ ((T.length : Int) < (T.length : Int)) := by omega
            go_wp2
            go_loopg [13, 14] b (fun g s13 s14 wx => ∃ i : Nat, i + g = b ∧ s14 = .int .i64 (i : Int) ∧ s13 = .int .i64 (((σ.forms.take i).filter fun f => f.k == 1).length : Int) ∧ Hid (Below w1.heap.size w1 wx))
            case atStart => exact ⟨0, by omega, rfl, by simp, HX⟩
            case round =>
              obtain ⟨i, hi, rfl, rfl, HX⟩ := hrel
              cases gk with
              | succ g =>
                have hil : i < σ.forms.length := by rw [HNf.out]; omega
                have hfi : σ.forms[i]? = some σ.forms[i] := List.getElem?_eq_getElem hil
                obtain ⟨f, hf⟩ : ∃ f, σ.forms[i] = f := ⟨_, rfl⟩
                rw [hf] at hfi
                have hxi : ms[i]? = some (ms[i]'(by rw [HNm.out]; omega)) := List.getElem?_eq_getElem _
                obtain ⟨x, hx⟩ : ∃ x, ms[i]'(by rw [HNm.out]; omega) = x := ⟨_, rfl⟩
                rw [hx] at hxi
                obtain ⟨f', hf', hxf⟩ := fm_at HMS.out hxi
                rw [hfi] at hf'
                cases hf'
                obtain ⟨fb, fo, fc', ka, kc, hfv, _, y0, _, _, _, _⟩ := (HSM.out.below HX.out (Nat.le_refl _)).load hxi
                rw [HNm.out] at hfv
                cases hfv
                have y1 : wr.cell? ⟨fb, fo + i * 5, none⟩ = some (.int .u8 f.k) := by rw [y0, hxf]; rfl
                have hnx : (σ.forms.take (i + 1)).filter (fun f => f.k == 1) = (σ.forms.take i).filter (fun f => f.k == 1) ++ [f].filter (fun f => f.k == 1) := by rw [List.take_add_one, hfi, List.filter_append]; rfl
                have HNX := hidI hnx
                have e2 : (i : Int) < (b : Int) := by omega
                have e3 : (0 : Int) ≤ (i : Int) := by omega
                have e4 : ((i : Int)).toNat = i := by omega
                have hle : ((σ.forms.take i).filter fun f => f.k == 1).length ≤ 400 := by
                  have := List.length_filter_le (fun f : Frm => f.k == 1) (σ.forms.take i)
                  rw [List.length_take] at this
                  omega
                obtain ⟨cc, hcc⟩ : ∃ cc, ((σ.forms.take i).filter fun f => f.k == 1).length = cc := ⟨_, rfl⟩
                have HCC := hidI hcc
                rw [hcc] at hle ⊢
                have wc : IntKind.i64.wrap ((cc : Int) + 1) = (cc : Int) + 1 := by rw [IntKind.wrap_i64]; omega
                clear y0 hxf hf hx hxi hfi hnx hcc
                by_cases hk1 : f.k = 1
                · rw [hk1] at y1
                  go_wp2
                  go_roundg g
                  case measure => omega
                  case rel => exact ⟨i + 1, by omega, by go_num, by rw [HNX.out, List.length_append, HCC.out]; simp [hk1], HX⟩
                · have q1 : (f.k == 1) = false := by simp [hk1]
                  go_wp2
                  go_roundg g
                  case measure => omega
                  case rel => exact ⟨i + 1, by omega, by go_num, by rw [HNX.out, List.length_append, HCC.out]; simp [q1], HX⟩
              | zero =>
                obtain rfl : i = b := by omega
                have htk : σ.forms.take i = σ.forms := List.take_of_length_le (by rw [HNf.out]; omega)
                rw [htk, ← HnC.out]
                have hF := HnF.out
                rw [HNf.out] at hF
                rw [hF]
                have CR : Hid (∀ W, Below w1.heap.size w1 W → Calls Tryd.prog 17 #[.slice fa i fc, .slice ta σ.top.length tc] W fun e w' => e = .returned (.bool (T.all nmT)) ∧ Below W.heap.size W w') := hidI fun W hW => right_parsed HSh.out HLv.out HC.out HG.out HS7.out HMS.out _ _ W ((HL.out.on HB1.out).on hW) (HSM.out.below hW (Nat.le_refl _)) (HTI.out.below hW (Nat.le_refl _))
                have CD : Hid (∀ W, Below w1.heap.size w1 W → Calls Tryd.prog 18 #[.slice fa i fc, .slice ta σ.top.length tc] W fun e w' => e = .returned (.int .i64 (depthOf ms (castI σ.top))) ∧ Below W.heap.size W w') := hidI fun W hW => depth_any _ _ ms (castI σ.top) W (HSM.out.below hW (Nat.le_refl _)) (HTI.out.below hW (Nat.le_refl _)) (by rw [HNm.out]; omega) HKL.out (by simp [castI]; omega)
                have hdp := depthOf_le HSh.out HLv.out HMS.out (castI σ.top)
                obtain ⟨dp, hdd⟩ : ∃ dp, depthOf ms (castI σ.top) = dp := ⟨_, rfl⟩
                rw [hdd] at CD hdp
                obtain ⟨nb, hnb⟩ : ∃ nb, T.all nmT = nb := ⟨_, rfl⟩
                rw [hnb] at CR ⊢
                have e5 : ¬ ((i : Int) < (i : Int)) := by omega
                clear hF htk hdd hnb
                cases nb
                all_goals
                  go_wp2_with (first
                    | (go_at_call 12; refine (tlive_any _ ((HL.out.on HB1.out).on HX.out)).mono ?_; rintro e w3 ⟨rfl, hb3⟩; have HB3 := hidI (HX.out.trans (hb3.mono HX.out.size)); clear hb3)
                    | (go_at_call 17; refine (CR.out _ HB3.out).mono ?_; rintro e w4 ⟨rfl, hb4⟩; have HB4 := hidI (HB3.out.trans (hb4.mono HB3.out.size)); clear hb4)
                    | (go_at_call 18; refine (CD.out _ HB4.out).mono ?_; rintro e w5 ⟨rfl, hb5⟩; have HB5 := hidI (HB4.out.trans (hb5.mono HB4.out.size)); clear hb5))
                  go_ret
                  exact ⟨rfl, HB1.out.trans (HB5.out.mono HB1.out.size)⟩
end Go.Proofs.YtnlplkchkhibaaaDoor
