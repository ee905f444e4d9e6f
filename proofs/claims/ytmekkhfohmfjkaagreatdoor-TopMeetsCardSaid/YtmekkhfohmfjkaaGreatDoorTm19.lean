/-
  Part 19 of the proof: PStmt.
-/
import Derived.Test.YtmekkhfohmfjkaaGreatDoorTm18
namespace Go.Proofs.YtmekkhfohmfjkaaGreatDoor
open Go.RowKit Go.Deep Go.MapKept
def actBox (ab : Nat) : Rw := ⟨bx ab, 126, 6, 1, [.int .u8 0, .string ⟨#[]⟩, .int .u8 0, .bool false, .int .i64 0, .int .i64 0]⟩
theorem actSh_asc (k : Nat) (h1 : 1 ≤ k) (h2 : k ≤ 3) : (∀ (i : Nat) (h : i < (actPt k).size), ((actPt k)[i]'h).toNat < 128) ∧ (actPt k).size ≤ 10 ∧ ptL (actPt k) = actSh k ∧ (∀ x ∈ actSh k, x ∈ Lts) ∧ ¬ 97 ∈ actSh k ∧ ¬ 115 ∈ actSh k ∧ ¬ 116 ∈ actSh k ∧ ¬ 102 ∈ actSh k := by
 have hm : k = 1 ∨ k = 2 ∨ k = 3 := by omega
 rcases hm with rfl | rfl | rfl <;> refine ⟨by decide, by decide, by decide +kernel, by decide, by decide, by decide, by decide, by decide⟩
theorem stmtSh_asc (k : Nat) (h1 : 1 ≤ k) (h2 : k ≤ 7) : (∀ (i : Nat) (h : i < (stmtPt k).size), ((stmtPt k)[i]'h).toNat < 128) ∧ (stmtPt k).size ≤ 10 ∧ ptL (stmtPt k) = stmtSh k ∧ (∀ x ∈ stmtSh k, x ∈ Lts) := by
 have hm : k = 1 ∨ k = 2 ∨ k = 3 ∨ k = 4 ∨ k = 5 ∨ k = 6 ∨ k = 7 := by omega
 rcases hm with rfl | rfl | rfl | rfl | rfl | rfl | rfl <;> refine ⟨by decide, by decide, by decide +kernel, by decide⟩
set_option maxHeartbeats 4000000 in
theorem act_any {c : Cx} (hc : c.Ok) {n : Nat} (hn : n < c.fs.length) : RC c 149 n rA (pAct c.l) := by
 intro p X w h hN
 have HS0 : Hid (RdS c p (actBox w.heap.size :: X) (w.alloc (.cells #[.int .u8 0, .string ⟨#[]⟩, .int .u8 0, .bool false, .int .i64 0, .int .i64 0] 126))) := hidI (RdS.more (h.alloc _) (h.rows.add (r := actBox w.heap.size) (h.rows.alloc _) (zcK w c.w0.heap.size 126 6 #[.int .u8 0, .string ⟨#[]⟩, .int .u8 0, .bool false, .int .i64 0, .int .i64 0] h.size rfl) (fun k hk => by cases hk; exact Nat.le_refl _)))
 have HPA : Hid (pAct c.l n p.es = (if actOf (brkW c.l n) = 0 then .error (frm c.l n).p else match contentP c.l (takeP c.l (pE c.l) (noE c.l) (noE c.l)) (actSh (actOf (brkW c.l n))) n (brkK c.l n) p.es with
  | .error p => .error p
  | .ok (k, q') => .ok (⟨actOf (brkW c.l n), k.name, k.op, k.inn, k.e, k.cond⟩, q'))) := hidI rfl
 clear h
 obtain ⟨x, hx⟩ : ∃ x, c.fs[n]? = some x := ⟨_, List.getElem?_eq_getElem hn⟩
 have HX := hidI hx
 have hfx : (frm c.l n).p = x.1.p := by rw [Cx.frm_at hx]
 have hbs := brkW_sz hc hn
 have hzs := hc.brk_sz hn
 have hbl := hc.brk_lt hn
 have hbk := hc.brk_len hn
 have HBS := hidI hbs
 have CB := hidI (fun W (hW : RdS c p (actBox w.heap.size :: X) W) => brk_any hc hW hn)
 obtain ⟨s, hss⟩ : ∃ s, brkW c.l n = s := ⟨_, rfl⟩
 obtain ⟨ks, hks⟩ : ∃ ks, brkK c.l n = ks := ⟨_, rfl⟩
 have HB2 : Hid (∀ W, RdS c p (actBox w.heap.size :: X) W → Calls Tryz.prog 90 #[.pointer (some ⟨c.B, 0, none⟩), .int .i64 (n : Int)] W fun e w' => ∃ a2 cp2, e = .returned (.tuple #[.string s, .slice a2 ks.length cp2]) ∧ SeesK c.w0 (.slice a2 ks.length cp2) ks ∧ Below W.heap.size W w') := hidI (fun W hW => (CB.out W hW).mono (by
  rintro e w' ⟨kv, rfl, hK, hb⟩
  rw [hss, hks] at *
  obtain ⟨_, a2, cp2, hkv, _⟩ := id hK
  subst hkv
  exact ⟨a2, cp2, rfl, hK, hb⟩))
 rw [hss, hks] at HPA
 rw [hss] at HBS
 rw [hks] at hzs hbl hbk
 rw [hfx] at HPA
 clear CB hbs hx hfx
 have HLK : Hid (∀ W, RdS c p (actBox w.heap.size :: X) W → (Instr.lookup 102 (.map (some c.vo.a)) (.string s) true).run Tryz.prog W = .ok (.tuple #[.int .u8 (actOf s : Int), .bool (decide (actOf s ≠ 0))]) W) := hidI (fun W hW => look_act hc hW.below HBS.out)
 by_cases hx0 : actOf s = 0
 ·have HR : Hid (pAct c.l n p.es = .error x.1.p) := hidI (by rw [HPA.out, if_pos hx0])
  rw [hx0] at HLK
  have CM : Hid (∀ W, RdS c p (actBox w.heap.size :: X) W → Calls Tryz.prog 91 #[.pointer (some ⟨c.B, 0, none⟩), .bool false, .int .i64 (n : Int)] W fun e w' => e = .panicked (flt2 x.1.p) ∧ W = w') := hidI (fun W hW => zcU hc hW HX.out)
  clear HPA hx0 hbl hbk hzs hks hss
  go_enter Tryz.func149, Tryz.ntmps149
  go_wp2_with (first
   | (go_at_call 90; refine Calls.mono (HB2.out _ HS0.out) ?_; intro e w2 h2; obtain ⟨a2, cp2, rfl, hK2, hb2⟩ := h2; clear HB2; have HK2 := hidI hK2; clear hK2; have HS2 := hidI (HS0.out.on hb2); have m4 := HS2.out.cell (j := 2) (u := .map (some c.vo.a)) rfl; have lk := HLK.out _ HS2.out)
   | (go_at_call 91; refine Calls.mono (CM.out _ HS2.out) ?_; intro e w3 h3; obtain ⟨rfl, rfl⟩ := h3; clear CM))
  refine ⟨rfl, ?_⟩
  rw [HR.out]
  exact ⟨rfl, HS2.out.bad (.cons _ (.refl _))⟩
 ·have hxl := actOf_le s
  obtain ⟨kk, hkk⟩ : ∃ kk, actOf s = kk := ⟨_, rfl⟩
  rw [hkk] at hx0 hxl HLK HPA
  rw [decide_eq_true hx0] at HLK
  obtain ⟨as1, as2, as3, as4, as6, as7, as8, as9⟩ := actSh_asc kk (by omega) (by omega)
  have HTK : TK c (takeP c.l (pE c.l) (noE c.l) (noE c.l)) (ptL (actPt kk)) ks := by
   rw [as3]
   exact tk_take hc as4 (fun k hk => (hbl k hk).2) (bd_expr hc _) zdH zdH (fun _ k hk => expr_any hc (hbl k hk).2) (fun h => absurd h as6) (fun h => absurd h as7) (fun h => by rcases h with h | h; exact absurd h as8; exact absurd h as9)
  clear as4 as6 as7 as8 as9
  have CSh := hidI (fun W => actSh_any kk (by omega) (by omega) W)
  have CC := hidI (fun W kv hW hK => zdT hc (tk := takeP c.l (pE c.l) (noE c.l) (noE c.l)) (ks := ks) (kv := kv) (sw := actWd kk) (sp := actPt kk) as1 as2 hK hbk (fun k hk => (hbl k hk).2) HTK (p := p) (X := actBox w.heap.size :: X) (w := W) hW hn (by omega))
  rw [as3] at CC
  have CM := hidI (fun W => must_ok (.pointer (some ⟨c.B, 0, none⟩)) (n : Int) W)
  obtain ⟨sw, hsw⟩ : ∃ sw, actWd kk = sw := ⟨_, rfl⟩
  obtain ⟨sp, hsp⟩ : ∃ sp, actPt kk = sp := ⟨_, rfl⟩
  rw [hsw, hsp] at CSh CC
  have HKK := hidI hx0
  clear as1 as2 as3 HTK hsw hsp hx0 hxl hkk hbl hzs hks hss
  cases hr : contentP c.l (takeP c.l (pE c.l) (noE c.l) (noE c.l)) (actSh kk) n ks p.es with
  | error q =>
   have HR : Hid (pAct c.l n p.es = .error q) := hidI (by rw [HPA.out, if_neg HKK.out, hr])
   rw [hr] at CC
   clear hr HPA
   go_enter Tryz.func149, Tryz.ntmps149
   go_wp2_with (first
    | (go_at_call 90; refine Calls.mono (HB2.out _ HS0.out) ?_; intro e w2 h2; obtain ⟨a2, cp2, rfl, hK2, hb2⟩ := h2; clear HB2; have HK2 := hidI hK2; clear hK2; have HS2 := hidI (HS0.out.on hb2); have m4 := HS2.out.cell (j := 2) (u := .map (some c.vo.a)) rfl; have lk := HLK.out _ HS2.out)
    | (go_at_call 91; refine Calls.mono (CM.out _) ?_; intro e w3 h3; obtain ⟨rfl, rfl⟩ := h3; clear CM)
    | (go_at_call 82; refine Calls.mono (CSh.out _) ?_; intro e w4 h4; obtain ⟨rfl, hb4⟩ := h4; clear CSh; have HS4 := hidI (HS2.out.on hb4))
    | (go_at_call 92; refine Calls.mono (CC.out _ _ HS4.out HK2.out) ?_; intro e w5 h5; obtain ⟨rfl, hb5⟩ := h5; clear CC))
   refine ⟨rfl, ?_⟩
   rw [HR.out]
   exact ⟨rfl, hb5.sub (.cons _ (.refl _))⟩
  | ok y =>
   obtain ⟨k, q⟩ := y
   have HR : Hid (pAct c.l n p.es = .ok (⟨kk, k.name, k.op, k.inn, k.e, k.cond⟩, q)) := hidI (by rw [HPA.out, if_neg HKK.out, hr])
   rw [hr] at CC
   clear hr HPA
   go_enter Tryz.func149, Tryz.ntmps149
   go_wp2_with (first
    | (go_at_call 90; refine Calls.mono (HB2.out _ HS0.out) ?_; intro e w2 h2; obtain ⟨a2, cp2, rfl, hK2, hb2⟩ := h2; clear HB2; have HK2 := hidI hK2; clear hK2; have HS2 := hidI (HS0.out.on hb2); have m4 := HS2.out.cell (j := 2) (u := .map (some c.vo.a)) rfl; have lk := HLK.out _ HS2.out)
    | (go_at_call 91; refine Calls.mono (CM.out _) ?_; intro e w3 h3; obtain ⟨rfl, rfl⟩ := h3; clear CM)
    | (go_at_call 82; refine Calls.mono (CSh.out _) ?_; intro e w4 h4; obtain ⟨rfl, hb4⟩ := h4; clear CSh; have HS4 := hidI (HS2.out.on hb4))
    | (go_at_call 92; refine Calls.mono (CC.out _ _ HS4.out HK2.out) ?_; intro e w5 h5; obtain ⟨p5, av, tv, ev, rfl, hb5⟩ := h5; clear CC; refine Hid.out ?_))
   obtain ⟨hes5, hds5, hms5, hS5⟩ := hb5
   obtain ⟨aa, ac, hav⟩ : ∃ aa ac, av = .slice aa k.acts.length ac := zaF (RowsP.head (r := aRow av k.acts) hS5.first)
   obtain ⟨ta, tc, htv⟩ : ∃ ta tc, tv = .slice ta k.thn.length tc := zaF (RowsP.head (r := iRow tv k.thn) hS5.less.first)
   obtain ⟨ea, ec, hev⟩ : ∃ ea ec, ev = .slice ea k.els.length ec := zaF (RowsP.head (r := iRow ev k.els) hS5.less.less.first)
   subst hav htv hev
   have s7 : RdS c p5 (actBox w.heap.size :: X) (w5.alloc (.cells #[.string k.name, .int .u8 (k.op : Int), .bool k.inn, .int .i64 k.e, .int .i64 k.cond, .slice aa k.acts.length ac, .slice ta k.thn.length tc, .slice ea k.els.length ec] 170)) := (hS5.less.less.less).alloc _
   have HS7 := hidI s7
   have hr := RowsP.head (r := actBox w.heap.size) s7.first
   have r0 := zaA hr (j := 0) rfl
   have z0 := zaQ hr 0
   have r1 := zaA hr (j := 1) rfl
   have z1 := zaQ hr 1
   have r2 := zaA hr (j := 2) rfl
   have z2 := zaQ hr 2
   have r3 := zaA hr (j := 3) rfl
   have z3 := zaQ hr 3
   have r4 := zaA hr (j := 4) rfl
   have z4 := zaQ hr 4
   have r5 := zaA hr (j := 5) rfl
   have z5 := zaQ hr 5
   have HFIN := hidI (RdS.less (RdS.setbox (j := 5) (RdS.setbox (j := 4) (RdS.setbox (j := 3) (RdS.setbox (j := 2) (RdS.setbox (j := 1) (RdS.setbox (j := 0) s7 (.int .u8 (kk : Int))) (.string k.name)) (.int .u8 (k.op : Int))) (.bool k.inn)) (.int .i64 k.e)) (.int .i64 k.cond)))
   have HP5 := hidI (And.intro hes5 (And.intro hds5 hms5))
   clear hr s7 hS5 hes5 hds5 hms5 HS2 HS4 m4 lk hb2 hb4
   refine hidI ?_
   go_wp2
   refine bodyPost_ret (v := rA ⟨kk, k.name, k.op, k.inn, k.e, k.cond⟩) ?_ rfl ?_
   ·rw [zaD rfl]
    (go_simp <;> first | done | rfl | exact ⟨rfl, rfl⟩)
   ·rw [HR.out]
    exact ⟨rfl, p5, HP5.out.1, HP5.out.2.1, HP5.out.2.2, HFIN.out⟩
set_option maxHeartbeats 4000000 in
theorem stmt_step {c : Cx} (hc : c.Ok) {f n : Nat} (hn : n < c.fs.length) (HST : ∀ m, n < m → m < c.fs.length → RC c 93 m rI (pStmt c.l f)) : RC c 93 n rI (pStmt c.l (f + 1)) := by
 intro p X w h hN
 have HS0 := hidI h
 have HPA : Hid (pStmt c.l (f + 1) n p.es = (if stmtOf (brkW c.l n) = 0 then .error (frm c.l n).p else match contentP c.l (takeP c.l (pE c.l) (pAct c.l) (pStmt c.l f)) (stmtSh (stmtOf (brkW c.l n))) n (brkK c.l n) p.es with
  | .error p => .error p
  | .ok (k, q') => addS q' ⟨stmtOf (brkW c.l n), k.name, k.op, k.e, k.cond, k.acts, k.thn, k.els⟩)) := hidI rfl
 clear h
 obtain ⟨x, hx⟩ : ∃ x, c.fs[n]? = some x := ⟨_, List.getElem?_eq_getElem hn⟩
 have HX := hidI hx
 have hfx : (frm c.l n).p = x.1.p := by rw [Cx.frm_at hx]
 have hbs := brkW_sz hc hn
 have hzs := hc.brk_sz hn
 have hbl := hc.brk_lt hn
 have hbk := hc.brk_len hn
 have HBS := hidI hbs
 have CB := hidI (fun W (hW : RdS c p (X) W) => brk_any hc hW hn)
 obtain ⟨s, hss⟩ : ∃ s, brkW c.l n = s := ⟨_, rfl⟩
 obtain ⟨ks, hks⟩ : ∃ ks, brkK c.l n = ks := ⟨_, rfl⟩
 have HB2 : Hid (∀ W, RdS c p (X) W → Calls Tryz.prog 90 #[.pointer (some ⟨c.B, 0, none⟩), .int .i64 (n : Int)] W fun e w' => ∃ a2 cp2, e = .returned (.tuple #[.string s, .slice a2 ks.length cp2]) ∧ SeesK c.w0 (.slice a2 ks.length cp2) ks ∧ Below W.heap.size W w') := hidI (fun W hW => (CB.out W hW).mono (by
  rintro e w' ⟨kv, rfl, hK, hb⟩
  rw [hss, hks] at *
  obtain ⟨_, a2, cp2, hkv, _⟩ := id hK
  subst hkv
  exact ⟨a2, cp2, rfl, hK, hb⟩))
 rw [hss, hks] at HPA
 rw [hss] at HBS
 rw [hks] at hzs hbl hbk
 rw [hfx] at HPA
 clear CB hbs hx hfx
 have HLK : Hid (∀ W, RdS c p (X) W → (Instr.lookup 101 (.map (some c.vo.s)) (.string s) true).run Tryz.prog W = .ok (.tuple #[.int .u8 (stmtOf s : Int), .bool (decide (stmtOf s ≠ 0))]) W) := hidI (fun W hW => look_stmt hc hW.below HBS.out)
 by_cases hx0 : stmtOf s = 0
 ·have HR : Hid (pStmt c.l (f + 1) n p.es = .error x.1.p) := hidI (by rw [HPA.out, if_pos hx0])
  rw [hx0] at HLK
  have CM : Hid (∀ W, RdS c p (X) W → Calls Tryz.prog 91 #[.pointer (some ⟨c.B, 0, none⟩), .bool false, .int .i64 (n : Int)] W fun e w' => e = .panicked (flt2 x.1.p) ∧ W = w') := hidI (fun W hW => zcU hc hW HX.out)
  clear HPA hx0 hbl hbk hzs hks hss
  go_enter Tryz.func93, Tryz.ntmps93
  go_wp2_with (first
   | (go_at_call 90; refine Calls.mono (HB2.out _ HS0.out) ?_; intro e w2 h2; obtain ⟨a2, cp2, rfl, hK2, hb2⟩ := h2; clear HB2; have HK2 := hidI hK2; clear hK2; have HS2 := hidI (HS0.out.on hb2); have m4 := HS2.out.cell (j := 1) (u := .map (some c.vo.s)) rfl; have lk := HLK.out _ HS2.out)
   | (go_at_call 91; refine Calls.mono (CM.out _ HS2.out) ?_; intro e w3 h3; obtain ⟨rfl, rfl⟩ := h3; clear CM))
  refine ⟨rfl, ?_⟩
  rw [HR.out]
  exact ⟨rfl, HS2.out.bad (.refl _)⟩
 ·have hxl := stmtOf_le s
  obtain ⟨kk, hkk⟩ : ∃ kk, stmtOf s = kk := ⟨_, rfl⟩
  rw [hkk] at hx0 hxl HLK HPA
  rw [decide_eq_true hx0] at HLK
  obtain ⟨as1, as2, as3, as4⟩ := stmtSh_asc kk (by omega) (by omega)
  have HTK : TK c (takeP c.l (pE c.l) (pAct c.l) (pStmt c.l f)) (ptL (stmtPt kk)) ks := by
   rw [as3]
   exact tk_take hc as4 (fun k hk => (hbl k hk).2) (bd_expr hc _) (bd_act hc) (bd_stmt hc f) (fun _ k hk => expr_any hc (hbl k hk).2) (fun _ k hk => act_any hc (hbl k hk).2) (fun _ k hk => HST k (hbl k hk).1 (hbl k hk).2) (fun _ k hk m hm => HST m (by have h1 := (hbl k hk).1; have h2 := (hc.kids_lt (hbl k hk).2 m hm).1; omega) (hc.kids_lt (hbl k hk).2 m hm).2)
  clear as4 HST
  have CSh := hidI (fun W => stmtSh_any kk (by omega) (by omega) W)
  have CC := hidI (fun W kv hW hK => zdT hc (tk := takeP c.l (pE c.l) (pAct c.l) (pStmt c.l f)) (ks := ks) (kv := kv) (sw := stmtWd kk) (sp := stmtPt kk) as1 as2 hK hbk (fun k hk => (hbl k hk).2) HTK (p := p) (X := X) (w := W) hW hn (by omega))
  rw [as3] at CC
  have CM := hidI (fun W => must_ok (.pointer (some ⟨c.B, 0, none⟩)) (n : Int) W)
  obtain ⟨sw, hsw⟩ : ∃ sw, stmtWd kk = sw := ⟨_, rfl⟩
  obtain ⟨sp, hsp⟩ : ∃ sp, stmtPt kk = sp := ⟨_, rfl⟩
  rw [hsw, hsp] at CSh CC
  have HKK := hidI hx0
  clear as1 as2 as3 HTK hsw hsp hx0 hxl hkk hbl hzs hks hss
  cases hr : contentP c.l (takeP c.l (pE c.l) (pAct c.l) (pStmt c.l f)) (stmtSh kk) n ks p.es with
  | error q =>
   have HR : Hid (pStmt c.l (f + 1) n p.es = .error q) := hidI (by rw [HPA.out, if_neg HKK.out, hr])
   rw [hr] at CC
   clear hr HPA
   go_enter Tryz.func93, Tryz.ntmps93
   go_wp2_with (first
    | (go_at_call 90; refine Calls.mono (HB2.out _ HS0.out) ?_; intro e w2 h2; obtain ⟨a2, cp2, rfl, hK2, hb2⟩ := h2; clear HB2; have HK2 := hidI hK2; clear hK2; have HS2 := hidI (HS0.out.on hb2); have m4 := HS2.out.cell (j := 1) (u := .map (some c.vo.s)) rfl; have lk := HLK.out _ HS2.out)
    | (go_at_call 91; refine Calls.mono (CM.out _) ?_; intro e w3 h3; obtain ⟨rfl, rfl⟩ := h3; clear CM)
    | (go_at_call 79; refine Calls.mono (CSh.out _) ?_; intro e w4 h4; obtain ⟨rfl, hb4⟩ := h4; clear CSh; have HS4 := hidI (HS2.out.on hb4))
    | (go_at_call 92; refine Calls.mono (CC.out _ _ HS4.out HK2.out) ?_; intro e w5 h5; obtain ⟨rfl, hb5⟩ := h5; clear CC))
   refine ⟨rfl, ?_⟩
   rw [HR.out]
   exact ⟨rfl, hb5.sub (.refl _)⟩
  | ok y =>
   obtain ⟨k, q⟩ := y
   have HR : Hid (pStmt c.l (f + 1) n p.es = .ok ((q.2.length : Int), (q.1, q.2 ++ [⟨kk, k.name, k.op, k.e, k.cond, k.acts, k.thn, k.els⟩]))) := hidI (by rw [HPA.out, if_neg HKK.out, hr]; rfl)
   have hq : q.2.length ≤ 999 := by
    have := bd_stmt hc (f + 1) n _ _ _ hn HR.out
    simp only [NQ, List.length_append, List.length_cons, List.length_nil] at this hN
    omega
   rw [hr] at CC
   clear hr HPA
   go_enter Tryz.func93, Tryz.ntmps93
   go_wp2_with (first
    | (go_at_call 90; refine Calls.mono (HB2.out _ HS0.out) ?_; intro e w2 h2; obtain ⟨a2, cp2, rfl, hK2, hb2⟩ := h2; clear HB2; have HK2 := hidI hK2; clear hK2; have HS2 := hidI (HS0.out.on hb2); have m4 := HS2.out.cell (j := 1) (u := .map (some c.vo.s)) rfl; have lk := HLK.out _ HS2.out)
    | (go_at_call 91; refine Calls.mono (CM.out _) ?_; intro e w3 h3; obtain ⟨rfl, rfl⟩ := h3; clear CM)
    | (go_at_call 79; refine Calls.mono (CSh.out _) ?_; intro e w4 h4; obtain ⟨rfl, hb4⟩ := h4; clear CSh; have HS4 := hidI (HS2.out.on hb4))
    | (go_at_call 92; refine Calls.mono (CC.out _ _ HS4.out HK2.out) ?_; intro e w5 h5; obtain ⟨p5, av, tv, ev, rfl, hb5⟩ := h5; clear CC; refine Hid.out ?_))
   obtain ⟨hes5, hds5, hms5, hS5⟩ := hb5
   obtain ⟨aa, ac, hav⟩ : ∃ aa ac, av = .slice aa k.acts.length ac := zaF (RowsP.head (r := aRow av k.acts) hS5.first)
   obtain ⟨ta, tc, htv⟩ : ∃ ta tc, tv = .slice ta k.thn.length tc := zaF (RowsP.head (r := iRow tv k.thn) hS5.less.first)
   obtain ⟨ea, ec, hev⟩ : ∃ ea ec, ev = .slice ea k.els.length ec := zaF (RowsP.head (r := iRow ev k.els) hS5.less.less.first)
   subst hav htv hev
   have hsl : p5.ss.length = q.2.length := by rw [← hes5]; simp [PV.es]
   have HSL := hidI hsl
   have HS5 := hidI hS5
   have HP5 := hidI (And.intro hes5 (And.intro hds5 hms5))
   have hsz := hS5.size
   clear hes5 hds5 hms5 hS5 HS2 HS4 m4 lk hb2 hb4
   refine hidI ?_
   go_wp2
   have s2 := HS5.out.alloc (.cells #[.string k.name, .int .u8 (k.op : Int), .bool k.inn, .int .i64 k.e, .int .i64 k.cond, .slice aa k.acts.length ac, .slice ta k.thn.length tc, .slice ea k.els.length ec] 170)
   have HS6 := hidI s2.drew
   have x0 : (w5.alloc (.cells #[.string k.name, .int .u8 (k.op : Int), .bool k.inn, .int .i64 k.e, .int .i64 k.cond, .slice aa k.acts.length ac, .slice ta k.thn.length tc, .slice ea k.els.length ec] 170)).drew.cell? ⟨w5.heap.size, 0, none⟩ = some (.string k.name) := by go_simp
   have x1 : (w5.alloc (.cells #[.string k.name, .int .u8 (k.op : Int), .bool k.inn, .int .i64 k.e, .int .i64 k.cond, .slice aa k.acts.length ac, .slice ta k.thn.length tc, .slice ea k.els.length ec] 170)).drew.cell? ⟨w5.heap.size, 1, none⟩ = some (.int .u8 (k.op : Int)) := by go_simp
   have x3 : (w5.alloc (.cells #[.string k.name, .int .u8 (k.op : Int), .bool k.inn, .int .i64 k.e, .int .i64 k.cond, .slice aa k.acts.length ac, .slice ta k.thn.length tc, .slice ea k.els.length ec] 170)).drew.cell? ⟨w5.heap.size, 3, none⟩ = some (.int .i64 k.e) := by go_simp
   have x4 : (w5.alloc (.cells #[.string k.name, .int .u8 (k.op : Int), .bool k.inn, .int .i64 k.e, .int .i64 k.cond, .slice aa k.acts.length ac, .slice ta k.thn.length tc, .slice ea k.els.length ec] 170)).drew.cell? ⟨w5.heap.size, 4, none⟩ = some (.int .i64 k.cond) := by go_simp
   have x5 : (w5.alloc (.cells #[.string k.name, .int .u8 (k.op : Int), .bool k.inn, .int .i64 k.e, .int .i64 k.cond, .slice aa k.acts.length ac, .slice ta k.thn.length tc, .slice ea k.els.length ec] 170)).drew.cell? ⟨w5.heap.size, 5, none⟩ = some (.slice aa k.acts.length ac) := by go_simp
   have x6 : (w5.alloc (.cells #[.string k.name, .int .u8 (k.op : Int), .bool k.inn, .int .i64 k.e, .int .i64 k.cond, .slice aa k.acts.length ac, .slice ta k.thn.length tc, .slice ea k.els.length ec] 170)).drew.cell? ⟨w5.heap.size, 6, none⟩ = some (.slice ta k.thn.length tc) := by go_simp
   have x7 : (w5.alloc (.cells #[.string k.name, .int .u8 (k.op : Int), .bool k.inn, .int .i64 k.e, .int .i64 k.cond, .slice aa k.acts.length ac, .slice ta k.thn.length tc, .slice ea k.els.length ec] 170)).drew.cell? ⟨w5.heap.size, 7, none⟩ = some (.slice ea k.els.length ec) := by go_simp
   refine regS (B := c.B) (eb := w5.heap.size) (base := c.w0.heap.size) (n := p5.ss.length) (u := p5.sv) (xs := flatS p5.ss) (HS6.out.cell (j := 8) rfl) x0 x1 x3 x4 x5 x6 x7 (HS6.out.free 8) HS6.out.sown.head (by omega) HS6.out.size (box_apart HS6.out.sown) (fun e => by have := (HS5.out.sown.head.lt _ e).2; omega) (by
    intro v hv
    simp only [List.mem_cons, List.not_mem_nil, or_false] at hv
    rcases hv with rfl | rfl | rfl | rfl | rfl | rfl | rfl | rfl <;> rfl) (fun _ _ _ _ _ h => h) ?_
   intro W5 u' t36 t37 t38 t39 t40 t41 t42 t43 t44 t45 t46 t47 t48 t49 t50 t51 t52 t53 t54 t55 t56 t57 t58 t59 t60 t61 t62 hg ho ha
   have s5 := RdS.addS (s := ⟨⟨kk, k.name, k.op, k.e, k.cond, k.acts, k.thn, k.els⟩, .slice aa k.acts.length ac, .slice ta k.thn.length tc, .slice ea k.els.length ec⟩) (HS6.out.alloc (.cells #[.int .u8 (kk : Int), .string k.name, .int .u8 (k.op : Int), .int .i64 k.e, .int .i64 k.cond, .slice aa k.acts.length ac, .slice ta k.thn.length tc, .slice ea k.els.length ec] 78)) hg ho (by simpa using ha)
   have HS7 := hidI s5
   obtain ⟨ua, uc, hu⟩ : ∃ ua uc, u' = .slice ua (p5.ss.length + 1) uc := zaF ho
   subst hu
   have c7 := s5.cell (j := 8) (u := .slice ua (p5.ss.length + 1) uc) rfl
   have hl2 : p5.ss.length ≤ 1000 := by omega
   obtain ⟨W6, hW6⟩ : ∃ W6, W5.setCell ⟨c.B, 8, none⟩ (.slice ua (p5.ss.length + 1) uc) = W6 := ⟨_, rfl⟩
   rw [hW6] at HS7 c7 ⊢
   clear hg ho ha s5 s2 x0 x1 x3 x4 x5 x6 x7 HS6 hW6
   go_wp2
   go_ret
   rw [HR.out]
   refine ⟨?_, { p5 with ss := p5.ss ++ [⟨⟨kk, k.name, k.op, k.e, k.cond, k.acts, k.thn, k.els⟩, .slice aa k.acts.length ac, .slice ta k.thn.length tc, .slice ea k.els.length ec⟩], sv := .slice ua (p5.ss.length + 1) uc }, ?_, HP5.out.2.1, HP5.out.2.2, HS7.out⟩
   ·rw [← HSL.out]; rfl
   ·show (p5.xs.map Prod.fst, (p5.ss ++ [_]).map SV.s) = (q.1, q.2 ++ [_])
    rw [← HP5.out.1]
    simp [PV.es]
theorem stmt_all {c : Cx} (hc : c.Ok) : ∀ (f n : Nat), n < c.fs.length → c.fs.length - n ≤ f → RC c 93 n rI (pStmt c.l f)
 | 0, n, h1, h2 => by omega
 | f + 1, n, h1, h2 => stmt_step hc h1 (fun m hm hl => stmt_all hc f m hl (by omega))
theorem stmt_any {c : Cx} (hc : c.Ok) {n : Nat} (hn : n < c.fs.length) : RC c 93 n rI (pStmt c.l (big c.l)) := stmt_all hc (big c.l) n hn (by unfold big Cx.l; rw [List.length_map]; omega)
end Go.Proofs.YtmekkhfohmfjkaaGreatDoor
