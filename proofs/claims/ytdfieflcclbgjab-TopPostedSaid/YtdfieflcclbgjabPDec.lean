/-
  The program's Decode of messages.
-/
import Derived.Test.YtdfieflcclbgjabRegQ
import Derived.Test.YtdfieflcclbgjabPByte
namespace Go.Proofs.Ytdfieflcclbgjab
open Go.RowKit Go.Deep Go.MapKept Go.Sort
theorem arr78 (a : Option Addr) (n c : Nat) (h : 8 ≤ n) (W : World) : (Instr.arrayAt 44 (.slice a n c)).run Try.prog W = .ok (.pointer a) W := by
  have h8 : ¬ n < 8 := by omega
  simp [Instr.arrayAt, run_underlying Try.underlying44, h8]
set_option maxRecDepth 100000 in
set_option maxHeartbeats 2000000 in
theorem pdecode_any (w : World) (a : Option Addr) (cap : Nat) (bs : List Int) (hS : SB w a cap bs) (hby : ∀ x ∈ bs, IsB x) (hl : bs.length ≤ 900) : Calls Try.prog 6 #[.slice a bs.length cap] w (DecPost w (decs bs)) := by
  obtain ⟨R, hR⟩ : ∃ R, decs bs = R := ⟨_, rfl⟩
  obtain ⟨n, hn⟩ : ∃ n, bs.length = n := ⟨_, rfl⟩
  have HR : Hid (R = decM n ((n + 9) / 10) 0 bs) := hidI (by rw [← hR, ← hn]; rfl)
  have HN := hidI hn
  have HS := hidI hS
  have HBy := hidI hby
  rw [hR]
  rw [hn] at hl ⊢
  clear hR hn hS hby
  obtain ⟨K, hK⟩ : ∃ K, (n + 9) / 10 = K := ⟨_, rfl⟩
  have hK1 : n ≤ 10 * K := by omega
  have hK2 : 10 * K ≤ n + 9 := by omega
  rw [hK] at HR
  clear hK
  go_enter Try.func6, Try.ntmps6
  go_wp2
  go_loopg [5, 6] K (fun g s5 s6 wx => ∃ (j i : Nat) (acc : List Msg) (v5 : Value), j + g = K ∧ Hid (i = 10 * j) ∧ v5 = s5 ∧ s6 = .int .i64 (i : Int) ∧ Hid (acc.length = j) ∧ Hid (Below w.heap.size w wx) ∧ Hid (wx.ownsRow w.heap.size 26 3 v5 j (flatM acc)) ∧ Hid (R = app acc (decM n g i (bs.drop i))))
  case atStart => exact ⟨0, 0, [], _, by omega, hidI rfl, rfl, rfl, hidI rfl, hidI (Below.refl _ _), hidI (World.ownsRow_nil _ _ _ _), hidI (by rw [app_nil]; exact HR.out)⟩
  case round =>
    obtain ⟨j, i, acc, v5, hjg, HI, rfl, rfl, HA, HB, HO, HD⟩ := hrel
    cases gk with
    | zero =>
      have hi : n ≤ i := by have := HI.out; omega
      have k1 : decide ((i : Int) < (n : Int)) = false := by rw [decide_eq_false_iff_not]; omega
      have k2 : decide (i < n) = false := by rw [decide_eq_false_iff_not]; omega
      go_wp2
      go_ret3
      refine ⟨HB.out, ?_⟩
      rw [HD.out]
      have e : bs.drop i = [] := List.drop_eq_nil_of_le (by have := HN.out; omega)
      simp only [decM, app, List.append_nil]
      exact ⟨_, rfl, seesM_of_owns HO.out⟩
    | succ g =>
      have hi : i < n := by have := HI.out; omega
      have k1 : (i : Int) < (n : Int) := by omega
      have ki9 : (i : Int) ≤ 900 := by omega
      obtain ⟨t, ht⟩ : ∃ t, bs[i]? = some t := ⟨_, List.getElem?_eq_getElem (by have := HN.out; omega)⟩
      have htb := HBy.out t (List.mem_of_getElem? ht)
      unfold IsB at htb
      have HDr : Hid (bs.drop i = t :: bs.drop (i + 1)) := hidI (List.drop_eq_getElem?_toList_append ▸ by rw [ht]; rfl)
      obtain ⟨ds, ua, uc, HDS, hcut, hSB⟩ := cut_l HS.out i (i : Int) rfl (by have := HN.out; omega)
      rw [HN.out] at hcut
      have hdl : ds.length = n - i := by rw [HDS.out, List.length_drop, HN.out]
      have hdb : ∀ x ∈ ds, IsB x := fun x hx => HBy.out x (by rw [HDS.out] at hx; exact List.mem_of_mem_drop hx)
      have CW := hidI (wrong_any wr ua uc ds ((hSB w HS.out).below HB.out (Nat.le_refl _)) hdb (by omega) (by omega))
      obtain ⟨L, hL⟩ : ∃ L, ds.length = L := ⟨_, rfl⟩
      have HL := hidI (hL.symm.trans hdl)
      rw [hL] at hcut CW
      have HWB : Hid (wrongB ds = if 12 ≤ t then 0 else if 1 < L ∧ 6 ≤ (bs.drop (i + 1)).headD 0 then 1 else if L < 10 then (L : Int) else -1) := hidI (by
        unfold wrongB
        rw [hL, HDS.out, HDr.out]
        simp only [List.headD_cons]
        rw [show (t :: bs.drop (i + 1)).getD 1 0 = (bs.drop (i + 1)).headD 0 by cases bs.drop (i + 1) <;> rfl]
        rfl)
      clear hL hdl hdb hSB ht HDS
      by_cases h12 : 12 ≤ t
      · have HF : Hid (R = .error i) := hidI (by rw [HD.out, HDr.out]; simp only [decM, if_pos h12, app])
        rw [HWB.out, if_pos h12] at CW
        clear HWB
        go_wp2_with (go_at_call 15; refine Calls.mono CW.out ?_; rintro e w' ⟨rfl, rfl⟩)
        go_ret3
        refine ⟨HB.out, ?_⟩
        rw [HF.out]
        rfl
      by_cases h1 : i + 1 < n
      · obtain ⟨q, hq⟩ : ∃ q, bs[i + 1]? = some q := ⟨_, List.getElem?_eq_getElem (by have := HN.out; omega)⟩
        have hqb := HBy.out q (List.mem_of_getElem? hq)
        unfold IsB at hqb
        have HDq : Hid (bs.drop (i + 1) = q :: bs.drop (i + 2)) := hidI (List.drop_eq_getElem?_toList_append ▸ by rw [hq]; rfl)
        have HL2 : Hid ((bs.drop (i + 2)).length + i + 2 = n) := hidI (by rw [List.length_drop]; have := HN.out; omega)
        rw [HDq.out, List.headD_cons] at HWB
        by_cases h6 : 6 ≤ q
        · have HF : Hid (R = .error (i + 1)) := hidI (by rw [HD.out, HDr.out, HDq.out, decM_tag h12 h6]; rfl)
          rw [HWB.out, if_neg h12, if_pos ⟨by have := HL.out; omega, h6⟩] at CW
          clear HWB
          go_wp2_with (go_at_call 15; refine Calls.mono CW.out ?_; rintro e w' ⟨rfl, rfl⟩)
          go_ret3
          refine ⟨HB.out, ?_⟩
          rw [HF.out]
          rfl
        by_cases h10 : n - i < 10
        · have HF : Hid (R = .error n) := hidI (by rw [HD.out, HDr.out, HDq.out, decM_short (r := q :: bs.drop (i + 2)) h12 (fun h => h6 h.2) (by rw [List.length_cons]; have := HL2.out; omega)]; rfl)
          rw [HWB.out, if_neg h12, if_neg (fun h => h6 h.2), if_pos (by have := HL.out; omega)] at CW
          have kL : (0 : Int) ≤ (L : Int) := by omega
          have kL9 : (L : Int) ≤ 10 := by have := HL.out; omega
          have HS9 : Hid ((i : Int) + (L : Int) = (n : Int)) := hidI (by have := HL.out; omega)
          clear HWB
          go_wp2_with (go_at_call 15; refine Calls.mono CW.out ?_; rintro e w' ⟨rfl, rfl⟩)
          go_ret3
          refine ⟨HB.out, ?_⟩
          rw [HF.out]
          show _ = Ending.returned (.tuple #[.slice none 0 0, .int .i64 (n : Int), .int .i64 3])
          rw [← HS9.out]
          rfl
        have h10' : i + 10 ≤ n := by omega
        rw [HWB.out, if_neg h12, if_neg (fun h => h6 h.2), if_neg (by have := HL.out; omega)] at CW
        obtain ⟨b, off, rfl, hbw, hc⟩ := HS.out.cell hq
        have HC : Hid (∀ y, Below w.heap.size w y → ∀ (j : Nat) (z : Int), bs[j]? = some z → y.cell? ⟨b, off + j, none⟩ = some (.int .u8 z)) := hidI fun y hy j z hz => (hy.cell (p := ⟨b, off + j, none⟩) hbw).trans (hc j z hz)
        obtain ⟨es, va, vc, HES, hcut2, hSB2⟩ := cut_l HS.out (i + 2) ((i : Int) + 2) (by omega) (by have := HN.out; omega)
        rw [HN.out] at hcut2
        obtain ⟨b0, b1, b2, b3, b4, b5, b6, b7, r8, hl8⟩ : ∃ b0 b1 b2 b3 b4 b5 b6 b7 r8, bs.drop (i + 2) = b0 :: b1 :: b2 :: b3 :: b4 :: b5 :: b6 :: b7 :: r8 := by
          have hlen := HL2.out
          match hb : bs.drop (i + 2), (by omega : 8 ≤ (bs.drop (i + 2)).length) with
          | b0 :: b1 :: b2 :: b3 :: b4 :: b5 :: b6 :: b7 :: r8, _ => exact ⟨b0, b1, b2, b3, b4, b5, b6, b7, r8, rfl⟩
        have Hl8 := hidI hl8
        have hb8 : ∀ z ∈ [b0, b1, b2, b3, b4, b5, b6, b7], IsB z := fun z hz => HBy.out z (List.mem_of_mem_drop (i := i + 2) (by rw [hl8]; simp at hz ⊢; omega))
        have CJ : Hid (∀ W, Calls Try.prog 16 #[.agg #[.int .u8 b0, .int .u8 b1, .int .u8 b2, .int .u8 b3, .int .u8 b4, .int .u8 b5, .int .u8 b6, .int .u8 b7]] W fun e w' => e = .returned (.int .i64 (jn b0 b1 b2 b3 b4 b5 b6 b7)) ∧ Below W.heap.size W w') := hidI fun W => join_any b0 b1 b2 b3 b4 b5 b6 b7 (hb8 b0 (by simp)) (hb8 b1 (by simp)) (hb8 b2 (by simp)) (hb8 b3 (by simp)) (hb8 b4 (by simp)) (hb8 b5 (by simp)) (hb8 b6 (by simp)) (hb8 b7 (by simp)) W
        have hes : es = b0 :: b1 :: b2 :: b3 :: b4 :: b5 :: b6 :: b7 :: r8 := by rw [HES.out, hl8]
        have hel : 8 ≤ es.length := by rw [hes]; simp
        obtain ⟨eb, eo, rfl, _, hec⟩ := (hSB2 w HS.out).cell (i := 0) (z := b0) (by rw [hes]; rfl)
        have ec : ∀ (j : Nat) (z : Int), es[j]? = some z → wr.cell? ⟨eb, eo + j, none⟩ = some (.int .u8 z) := fun j z hz => (HB.out.cell (World.block_lt_of_cell? w _ (hec j z hz))).trans (hec j z hz)
        have d0 := ec 0 b0 (by rw [hes]; rfl)
        rw [Nat.add_zero] at d0
        have d1 := ec 1 b1 (by rw [hes]; rfl)
        have d2 := ec 2 b2 (by rw [hes]; rfl)
        have d3 := ec 3 b3 (by rw [hes]; rfl)
        have d4 := ec 4 b4 (by rw [hes]; rfl)
        have d5 := ec 5 b5 (by rw [hes]; rfl)
        have d6 := ec 6 b6 (by rw [hes]; rfl)
        have d7 := ec 7 b7 (by rw [hes]; rfl)
        have hat := arr78 (some ⟨eb, eo, none⟩) es.length vc hel
        obtain ⟨EL, hEL⟩ : ∃ EL, es.length = EL := ⟨_, rfl⟩
        rw [hEL] at hcut2 hat
        have HRn : Hid (R = app (acc ++ [⟨t, q, jn b0 b1 b2 b3 b4 b5 b6 b7⟩]) (decM n g (i + 10) (bs.drop (i + 10)))) := hidI (by
          rw [HD.out, HDr.out, HDq.out, decM_go acc h12 h6 (by have := HL2.out; omega), List.drop_drop, Hl8.out]
          rfl)
        obtain ⟨J, hJ⟩ : ∃ J, jn b0 b1 b2 b3 b4 b5 b6 b7 = J := ⟨_, rfl⟩
        rw [hJ] at CJ HRn
        have HFA : Hid (flatM (acc ++ [⟨t, q, J⟩]) = flatM acc ++ Msg.cells ⟨t, q, J⟩) := hidI (by rw [flatM_append, flatM_one])
        have HSi : Hid (bs[i]? = some t) := hidI (by
          have h1 : (bs.drop i)[0]? = some t := by rw [HDr.out]; rfl
          rwa [List.getElem?_drop, Nat.add_zero] at h1)
        have HSq := hidI hq
        clear hJ hl8 hb8 HDr HDq HD hes hel hec ec hEL hSB2 hc HWB hq
        go_wp2_with (first | (go_at_call 15; refine Calls.mono CW.out ?_; rintro e w' ⟨rfl, rfl⟩) | (go_at_call 16; refine Calls.mono (CJ.out _) ?_; rintro e w6 ⟨rfl, hb6⟩; refine Hid.out ?_))
        refine hidI ?_
        have HB6 := hidI (HB.out.trans (hb6.mono HB.out.size))
        have HO6 : Hid (w6.ownsRow w.heap.size 26 3 v5 j (flatM acc)) := hidI (own_below HO.out hb6 (Nat.le_refl _))
        clear hb6 d0 d1 d2 d3 d4 d5 d6 d7 hcut hcut2 hat CW CJ
        have HBd := hidI (HB6.out.trans (Below.mono (Below.refl _ w6).drew HB6.out.size))
        have HOd : Hid (w6.drew.ownsRow w.heap.size 26 3 v5 j (flatM acc)) := hidI (own_below HO6.out (Below.refl _ _).drew (Nat.le_refl _))
        have HSd : Hid (w6.drew.cell? ⟨b, off + i, none⟩ = some (.int .u8 t) ∧ w6.drew.cell? ⟨b, off + (i + 1), none⟩ = some (.int .u8 q)) := hidI ⟨HC.out _ HBd.out i t HSi.out, HC.out _ HBd.out (i + 1) q HSq.out⟩
        go_wp2
        refine regQ (n := j) (B := w.heap.size) (J := J) (cs := flatM acc) HSd.out (by omega) (by omega) hbw HBd.out.size HOd.out (by omega) htb hqb (fun _ _ _ _ _ h => h) ?_
        intro W v9 t31 t32 t33 t34 t35 t36 t37 t38 t39 t40 t41 t42 t43 t44 t45 t46 hown hbl
        rw [← HFA.out] at hown
        have HO9 := hidI hown
        have HB9 : Hid (Below w.heap.size w W) := hidI (HBd.out.trans hbl)
        clear hown hbl
        go_wp2
        go_roundg g
        case measure => omega
        case rel => exact ⟨j + 1, i + 10, acc ++ [⟨t, q, J⟩], v9, by omega, hidI (by have := HI.out; omega), rfl, by go_num, hidI (by have := HA.out; simp; omega), HB9, HO9, HRn⟩
      · have HF : Hid (R = .error n) := hidI (by
          have e : bs.drop (i + 1) = [] := List.drop_eq_nil_of_le (by have := HN.out; omega)
          rw [HD.out, HDr.out, e, decM_short h12 (fun h => h.1 rfl) (by simp)]
          rfl)
        have hL1 : L = 1 := by have := HL.out; omega
        subst hL1
        rw [HWB.out, if_neg h12, if_neg (fun h => absurd h.1 (by omega)), if_pos (by omega)] at CW
        have HS9 : Hid ((i : Int) + 1 = (n : Int)) := hidI (by have := HL.out; omega)
        clear HWB
        go_wp2_with (go_at_call 15; refine Calls.mono CW.out ?_; rintro e w' ⟨rfl, rfl⟩)
        go_ret3
        refine ⟨HB.out, ?_⟩
        rw [HF.out]
        show _ = Ending.returned (.tuple #[.slice none 0 0, .int .i64 (n : Int), .int .i64 3])
        rw [← HS9.out]
        rfl
end Go.Proofs.Ytdfieflcclbgjab
