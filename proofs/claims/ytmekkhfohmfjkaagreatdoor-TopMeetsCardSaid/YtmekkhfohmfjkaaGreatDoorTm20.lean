/-
  Part 20 of the proof: PAll, TlMem, Eng.
-/
import Derived.Test.YtmekkhfohmfjkaaGreatDoorTm19
import Derived.Test.YtmekkhfohmfjkaaGreatDoorTm02
import Derived.Lib.OthersKept
namespace Go.Proofs.YtmekkhfohmfjkaaGreatDoor
open Go.RowKit Go.Deep Go.MapKept
def PV.prg (p : PV) : Prg := ⟨p.ds, p.xs.map Prod.fst, p.ss.map SV.s, p.ms⟩
def AllPost (c : Cx) (X : List Rw) (r : Except Int Prg) (e : Ending) (w' : World) : Prop :=
 match r with
 | .error q => e = .panicked (flt2 q) ∧ Bad c X w'
 | .ok P => e = .returned (.tuple #[]) ∧ ∃ p', p'.prg = P ∧ RdS c p' X w'
theorem content110 {l : List Frm} {ex st : RdE Int} {ac : RdE Actn} {n : Nat} {ks : List Nat} {q q' : ES} {k : Ctn} (h : contentP l (takeP l ex ac st) [110] n ks q = .ok (k, q')) : q' = q := by
 unfold contentP at h
 split at h
 ·rename_i hf
  have hl : ks.length = 1 := by
   have := hf.1
   unfold fitsP at this
   rw [decide_eq_true_eq] at this
   simp [leastP, mostP] at this
   omega
  obtain ⟨a, rfl⟩ := List.length_eq_one_iff.1 hl
  simp only [takesP, nthP, takeP] at h
  simp only [List.length_cons, List.length_nil, Nat.zero_add, Nat.sub_self, Nat.min_self, List.getD_cons_zero, if_true] at h
  split at h
  ·cases h
  ·rename_i c' q1 h1
   simp only [Except.ok.injEq, Prod.mk.injEq] at h
   obtain ⟨_, rfl⟩ := h
   split at h1
   ·simp only [Except.ok.injEq, Prod.mk.injEq] at h1
    exact h1.2.symm
   ·cases h1
 ·cases h
theorem declOf_le {s : ByteArray} {sd kd : Nat} (h : declOf s = some (sd, kd)) : 1 ≤ sd ∧ sd ≤ 3 ∧ 1 ≤ kd ∧ kd ≤ 2 := by
 unfold declOf at h
 repeat' split at h
 all_goals first
  | (cases h; done)
  | (simp only [Option.some.injEq, Prod.mk.injEq] at h; obtain ⟨rfl, rfl⟩ := h; omega)
theorem field148 (s : ByteArray) (a b : Value) (i : Bool) (e f : Int) (a1 a2 a3 : Option Addr) (l1 c1 l2 c2 l3 c3 : Nat) (hb : b = .bool i) (u : World) : (Instr.field 170 (.agg #[.string s, a, b, .int .i64 e, .int .i64 f, .slice a1 l1 c1, .slice a2 l2 c2, .slice a3 l3 c3]) 0).run Tryz.prog u = .ok (.string s) u := by
 subst hb
 kernel_rfl
def dBox (db : Nat) (sd kd : Nat) : Rw := ⟨bx db, 56, 3, 1, [.string ⟨#[]⟩, .int .u8 (sd : Int), .int .u8 (kd : Int)]⟩
theorem asc110 : (∀ (i : Nat) (h : i < (⟨#[110]⟩ : ByteArray).size), ((⟨#[110]⟩ : ByteArray)[i]'h).toNat < 128) ∧ (⟨#[110]⟩ : ByteArray).size ≤ 10 ∧ ptL ⟨#[110]⟩ = [110] := ⟨by decide, by decide, by decide +kernel⟩
theorem pTop_drop (l : List Frm) (ts : List Nat) (j n : Nat) (P : Prg) (h : ts[j]? = some n) : pTop l (ts.drop j) P = (match declOf (brkW l n) with
  | some (sd, kd) =>
   if P.main ≠ [] then .error (frm l n).p
   else match contentP l (takeP l (noE l) (noE l) (noE l)) [110] n (brkK l n) (P.exprs, P.stmts) with
    | .error e => .error e
    | .ok (c, _) => pTop l (ts.drop (j + 1)) { P with decls := P.decls ++ [⟨c.name, sd, kd⟩] }
  | none => match pStmt l (big l) n (P.exprs, P.stmts) with
   | .error e => .error e
   | .ok (i, q) => pTop l (ts.drop (j + 1)) { P with exprs := q.1, stmts := q.2, main := P.main ++ [i] }) := by
 have hj := (List.getElem?_eq_some_iff.1 h).1
 have hv := (List.getElem?_eq_some_iff.1 h).2
 rw [List.drop_eq_getElem_cons hj, hv]
 simp only [pTop]
 rfl
set_option maxHeartbeats 4000000 in
theorem all_any {c : Cx} (hc : c.Ok) {ts : List Nat} {tv : Value} (ht : SeesK c.w0 tv ts) (htl : ts.length ≤ 400) (hlt : ∀ k ∈ ts, k < c.fs.length) {p : PV} {X : List Rw} {w : World} (h : RdS c p X w) (hd0 : p.ds.length = 0) (hm0 : p.ms.length = 0) (hN : NQ p.es + (ts.map c.sz).sum ≤ 1000) :
  Calls Tryz.prog 50 #[.pointer (some ⟨c.B, 0, none⟩), tv] w (AllPost c X (pTop c.l ts p.prg)) := by
 obtain ⟨_, a, cap, rfl, _⟩ := id ht
 obtain ⟨m, hm⟩ : ∃ m, ts.length = m := ⟨_, rfl⟩
 have HM := hidI hm
 have HT := hidI ht
 have HH := hidI h
 have HNN := hidI hN
 have HLT := hidI hlt
 rw [hm] at htl
 rw [hm]
 clear hm ht hN hlt h
 go_enter Tryz.func50, Tryz.ntmps50
 go_wp2
 go_loopg [12] m (fun g s12 wx => ∃ (j : Nat) (pj : PV), j + g = m ∧ s12 = .int .i64 (j : Int) ∧ Hid (pTop c.l ts p.prg = pTop c.l (ts.drop j) pj.prg) ∧ Hid (pj.ds.length ≤ j ∧ pj.ms.length ≤ j ∧ NQ pj.es ≤ NQ p.es + ((ts.take j).map c.sz).sum) ∧ Hid (RdS c pj X wx))
 case atStart => exact ⟨0, p, by omega, rfl, hidI rfl, hidI ⟨by omega, by omega, by simp⟩, HH⟩
 case round =>
  obtain ⟨j, pj, hjg, rfl, HTP, HD, HS⟩ := hrel
  clear HH
  cases gk with
  | zero =>
   obtain rfl : m = j := by omega
   have k1 : decide ((m : Int) < (m : Int)) = false := by simp
   have HRES : Hid (pTop c.l ts p.prg = .ok pj.prg) := hidI (by
    rw [HTP.out, List.drop_of_length_le (by have := HM.out; omega)]
    rfl)
   go_wp2
   go_end0
   rw [HRES.out]
   exact ⟨rfl, pj, rfl, HS.out⟩
  | succ g =>
   have k1 : (j : Int) < (m : Int) := by omega
   obtain ⟨n, hnj⟩ : ∃ n, ts[j]? = some n := ⟨_, List.getElem?_eq_getElem (by have := HM.out; omega)⟩
   have hn := HLT.out n (List.mem_of_getElem? hnj)
   obtain ⟨_, a', cap', hav, hcell⟩ := HS.out.seesK HT.out
   rw [HM.out] at hav
   cases hav
   rcases hcell with h0 | ⟨b, o, rfl, hcell⟩
   ·have := HM.out; omega
   have x0 := hcell j _ (ints_get hnj)
   have HTD := hidI (pTop_drop c.l ts j n pj.prg hnj)
   have HTS : Hid (((ts.take (j + 1)).map c.sz).sum = ((ts.take j).map c.sz).sum + c.sz n) := hidI (by rw [List.take_add_one, hnj]; simp)
   have hbud : NQ pj.es + c.sz n ≤ 1000 := by
    have a1 := HD.out.2.2
    have a2 := take_sum_le c.sz ts j n hnj
    have := HNN.out
    omega
   obtain ⟨x, hx⟩ : ∃ x, c.fs[n]? = some x := ⟨_, List.getElem?_eq_getElem hn⟩
   have HX := hidI hx
   have HFX : Hid ((frm c.l n).p = x.1.p) := hidI (by rw [Cx.frm_at hx])
   have hbs := brkW_sz hc hn
   have hzs := hc.brk_sz hn
   have hbl := hc.brk_lt hn
   have hbk := hc.brk_len hn
   have HBS := hidI hbs
   have CB := hidI (fun W (hW : RdS c pj X W) => brk_any hc hW hn)
   have HSM := hidI (stmt_any hc hn)
   obtain ⟨s, hss⟩ : ∃ s, brkW c.l n = s := ⟨_, rfl⟩
   obtain ⟨ks, hks⟩ : ∃ ks, brkK c.l n = ks := ⟨_, rfl⟩
   have HB2 : Hid (∀ W, RdS c pj X W → Calls Tryz.prog 90 #[.pointer (some ⟨c.B, 0, none⟩), .int .i64 (n : Int)] W fun e w' => ∃ a2 cp2, e = .returned (.tuple #[.string s, .slice a2 ks.length cp2]) ∧ SeesK c.w0 (.slice a2 ks.length cp2) ks ∧ Below W.heap.size W w') := hidI (fun W hW => (CB.out W hW).mono (by
    rintro e w' ⟨kv, rfl, hK, hb⟩
    rw [hss, hks] at *
    obtain ⟨_, a2, cp2, hkv, _⟩ := id hK
    subst hkv
    exact ⟨a2, cp2, rfl, hK, hb⟩))
   rw [hss, hks, HFX.out] at HTD
   rw [hss] at HBS
   rw [hks] at hzs hbl hbk
   have HLK := hidI (fun W (hW : RdS c pj X W) => look_decl hc hW.below HBS.out)
   clear CB hbs hx hcell hnj hss hks
   cases hdc : declOf s with
   | some sk =>
    obtain ⟨sd, kd⟩ := sk
    obtain ⟨v1, v2, v3, v4⟩ := declOf_le hdc
    rw [hdc] at HTD HLK
    simp only [decV, Option.getD_some, Option.isSome_some] at HLK
    clear hdc
    have asc := asc110
    have HTK : TK c (takeP c.l (noE c.l) (noE c.l) (noE c.l)) (ptL ⟨#[110]⟩) ks := by
     rw [asc.2.2]
     exact tk_take hc (by decide) (fun k hk => (hbl k hk).2) zdH zdH zdH (fun h => absurd h (by decide)) (fun h => absurd h (by decide)) (fun h => absurd h (by decide)) (fun h => absurd h (by decide))
    have CSh := hidI (fun W => declSh_any sd kd v1 v2 v3 v4 W)
    have CC := hidI (fun (W : World) kv db (hW : RdS c pj (dBox db sd kd :: X) W) hK => zdT hc (tk := takeP c.l (noE c.l) (noE c.l) (noE c.l)) (ks := ks) (kv := kv) (sw := dWd ((sd - 1) * 2 + (kd - 1))) (sp := ⟨#[110]⟩) asc.1 asc.2.1 hK hbk (fun k hk => (hbl k hk).2) HTK (p := pj) (X := dBox db sd kd :: X) (w := W) hW hn (by omega))
    rw [asc.2.2] at CC
    obtain ⟨sw, hsw⟩ : ∃ sw, dWd ((sd - 1) * 2 + (kd - 1)) = sw := ⟨_, rfl⟩
    rw [hsw] at CSh CC
    have HBX : Hid (∀ W, RdS c pj X W → RdS c pj (dBox W.heap.size sd kd :: X) (W.alloc (.cells #[.string ⟨#[]⟩, .int .u8 (sd : Int), .int .u8 (kd : Int)] 56))) := hidI (fun W hW => RdS.more (hW.alloc _) (hW.rows.add (r := dBox W.heap.size sd kd) (hW.rows.alloc _) (zcK W c.w0.heap.size 56 3 #[.string ⟨#[]⟩, .int .u8 (sd : Int), .int .u8 (kd : Int)] hW.size rfl) (fun k hk => by cases hk; exact Nat.le_refl _)))
    obtain ⟨ma, mc, hmv⟩ : ∃ ma mc, pj.mv = .slice ma pj.ms.length mc := zaF HS.out.mown.head
    have hdl : pj.ds.length ≤ 1000 := by have := HD.out.1; omega
    clear asc HTK hsw hbl hbk hzs v1 v2 v3 v4 HSM
    by_cases hmain : pj.ms = []
    ·have hml : pj.ms.length = 0 := by rw [hmain]; rfl
     have CM := hidI (fun W => must_ok (.pointer (some ⟨c.B, 0, none⟩)) (n : Int) W)
     rw [hml] at hmv
     have HMV := hidI hmv
     have HMN : Hid (pj.prg.main = []) := hidI hmain
     clear hmain hml hmv
     cases hr : contentP c.l (takeP c.l (noE c.l) (noE c.l) (noE c.l)) [110] n ks pj.es with
     | error q =>
      have HRES : Hid (pTop c.l ts p.prg = .error q) := hidI (by
       rw [HTP.out, HTD.out]
       have : contentP c.l (takeP c.l (noE c.l) (noE c.l) (noE c.l)) [110] n ks (pj.prg.exprs, pj.prg.stmts) = .error q := hr
       simp only [this, HMN.out, ne_eq, not_true_eq_false, if_false])
      rw [hr] at CC
      clear hr HTD
      go_wp2_with (first
       | (go_at_call 90; refine Calls.mono (HB2.out _ HS.out) ?_; intro e w2 h2; obtain ⟨a2, cp2, rfl, hK2, hb2⟩ := h2; clear HB2; have HK2 := hidI hK2; clear hK2; have HS2 := hidI (HS.out.on hb2); have m4 := HS2.out.cell (j := 0) (u := .map (some c.vo.d)) rfl; have lk := HLK.out _ HS2.out; have HS3 := hidI (HBX.out _ HS2.out); have m9 := HS3.out.cell (j := 9) (u := pj.mv) rfl; rw [HMV.out] at m9)
       | (go_at_call 91; refine Calls.mono (CM.out _) ?_; intro e w3 h3; obtain ⟨rfl, rfl⟩ := h3; clear CM)
       | (go_at_call 88; refine Calls.mono (CSh.out _) ?_; intro e w4 h4; obtain ⟨rfl, hb4⟩ := h4; clear CSh; have HS4 := hidI (HS3.out.on hb4))
       | (go_at_call 92; refine Calls.mono (CC.out _ _ _ HS4.out HK2.out) ?_; intro e w5 h5; obtain ⟨rfl, hb5⟩ := h5; clear CC))
      refine ⟨rfl, ?_⟩
      rw [HRES.out]
      exact ⟨rfl, hb5.sub (.cons _ (.refl _))⟩
     | ok y =>
      obtain ⟨k, q⟩ := y
      have hqe := content110 hr
      have HTP2 : Hid (pTop c.l ts p.prg = pTop c.l (ts.drop (j + 1)) { pj.prg with decls := pj.prg.decls ++ [⟨k.name, sd, kd⟩] }) := hidI (by
       rw [HTP.out, HTD.out]
       have : contentP c.l (takeP c.l (noE c.l) (noE c.l) (noE c.l)) [110] n ks (pj.prg.exprs, pj.prg.stmts) = .ok (k, q) := hr
       simp only [this, HMN.out, ne_eq, not_true_eq_false, if_false])
      rw [hr] at CC
      have HQE := hidI hqe
      clear hr HTD hqe
      go_wp2_with (first
       | (go_at_call 90; refine Calls.mono (HB2.out _ HS.out) ?_; intro e w2 h2; obtain ⟨a2, cp2, rfl, hK2, hb2⟩ := h2; clear HB2; have HK2 := hidI hK2; clear hK2; have HS2 := hidI (HS.out.on hb2); have m4 := HS2.out.cell (j := 0) (u := .map (some c.vo.d)) rfl; have lk := HLK.out _ HS2.out; have HS3 := hidI (HBX.out _ HS2.out); have m9 := HS3.out.cell (j := 9) (u := pj.mv) rfl; rw [HMV.out] at m9)
       | (go_at_call 91; refine Calls.mono (CM.out _) ?_; intro e w3 h3; obtain ⟨rfl, rfl⟩ := h3; clear CM)
       | (go_at_call 88; refine Calls.mono (CSh.out _) ?_; intro e w4 h4; obtain ⟨rfl, hb4⟩ := h4; clear CSh; have HS4 := hidI (HS3.out.on hb4))
       | (go_at_call 92; refine Calls.mono (CC.out _ _ _ HS4.out HK2.out) ?_; intro e w5 h5; obtain ⟨p5, av, tv, ev, rfl, hb5⟩ := h5; clear CC; refine Hid.out ?_))
      obtain ⟨hes5, hds5, hms5, hS5⟩ := hb5
      obtain ⟨aa, ac, hav⟩ : ∃ aa ac, av = .slice aa k.acts.length ac := zaF (RowsP.head (r := aRow av k.acts) hS5.first)
      obtain ⟨ta, tc, htv⟩ : ∃ ta tc, tv = .slice ta k.thn.length tc := zaF (RowsP.head (r := iRow tv k.thn) hS5.less.first)
      obtain ⟨ea, ec, hev⟩ : ∃ ea ec, ev = .slice ea k.els.length ec := zaF (RowsP.head (r := iRow ev k.els) hS5.less.less.first)
      subst hav htv hev
      have s6 : RdS c p5 (dBox w2.heap.size sd kd :: X) w5 := hS5.less.less.less
      have hr := RowsP.head (r := dBox w2.heap.size sd kd) s6.first
      have b0 := zaA hr (j := 0) rfl
      have f0 := zaQ hr 0
      have hf := field148 k.name (.int .u8 (k.op : Int)) (.bool k.inn) k.inn k.e k.cond aa ta ea k.acts.length ac k.thn.length tc k.els.length ec rfl
      have s7 : RdS c p5 (⟨bx w2.heap.size, 56, 3, 1, [.string k.name, .int .u8 (sd : Int), .int .u8 (kd : Int)]⟩ :: X) (w5.setCell ⟨w2.heap.size, 0, none⟩ (.string k.name)) := RdS.setbox (j := 0) s6 (.string k.name)
      have HS7 := hidI s7.drew
      have HP5 := hidI (And.intro hes5 (And.intro hds5 hms5))
      have hdl5 : p5.ds.length ≤ 1000 := by
       simp only [Prod.mk.injEq] at hds5
       rw [hds5.1]; exact hdl
      clear hS5 s6 s7 hr hes5 hds5 hms5 HS3 HS4 m4 m9 lk hb4
      obtain ⟨db, hdb⟩ : ∃ db, w2.heap.size = db := ⟨_, rfl⟩
      rw [hdb] at b0 f0 HS7 ⊢
      clear hdb
      refine hidI ?_
      go_wp2
      have hr7 := RowsP.head (r := ⟨bx db, 56, 3, 1, [.string k.name, .int .u8 (sd : Int), .int .u8 (kd : Int)]⟩) HS7.out.first
      refine regD (B := c.B) (eb := db) (base := c.w0.heap.size) (n := p5.ds.length) (u := p5.dv) (xs := flatD p5.ds) (HS7.out.cell (j := 6) rfl) (zaA hr7 (j := 0) rfl) (zaA hr7 (j := 1) rfl) (zaA hr7 (j := 2) rfl) (HS7.out.free 6) HS7.out.down.head hdl5 HS7.out.size (box_apart HS7.out.down) (by
       rcases HS7.out.down.far_head ⟨bx db, 56, 3, 1, [.string k.name, .int .u8 (sd : Int), .int .u8 (kd : Int)]⟩ (by simp) with e | e
       ·rw [show p5.dv.ownBlock = none from e]; simp
       ·exact e) (by
       intro v hv
       simp only [List.mem_cons, List.not_mem_nil, or_false] at hv
       rcases hv with rfl | rfl | rfl <;> rfl) (fun _ _ _ _ _ h => h) ?_
      intro W5 u' t54 t55 t56 t57 t58 t59 t60 t61 t62 t63 t64 t65 hg ho ha
      have s9 := RdS.addD (d := ⟨k.name, sd, kd⟩) (HS7.out.less.alloc (.cells #[.string k.name, .int .u8 (sd : Int), .int .u8 (kd : Int)] 56)) hg ho (by simpa using ha)
      have HS9 := hidI s9
      have HTP9 : Hid (pTop c.l ts p.prg = pTop c.l (ts.drop (j + 1)) (PV.prg { p5 with ds := p5.ds ++ [⟨k.name, sd, kd⟩], dv := u' })) := hidI (by
       rw [HTP2.out]
       obtain ⟨h1, h2, h3⟩ := HP5.out
       simp only [Prod.mk.injEq] at h2 h3
       have e1 : p5.xs.map Prod.fst = pj.xs.map Prod.fst := by
        have := congrArg Prod.fst (h1.trans HQE.out)
        exact this
       have e2 : p5.ss.map SV.s = pj.ss.map SV.s := by
        have := congrArg Prod.snd (h1.trans HQE.out)
        exact this
       simp only [PV.prg, e1, e2, h2.1, h3.1])
      have HD9 : Hid ((p5.ds ++ [(⟨k.name, sd, kd⟩ : Dcl)]).length ≤ j + 1 ∧ p5.ms.length ≤ j + 1 ∧ NQ p5.es ≤ NQ p.es + ((ts.take (j + 1)).map c.sz).sum) := hidI (by
       obtain ⟨d1, d2, d3⟩ := HD.out
       obtain ⟨h1, h2, h3⟩ := HP5.out
       simp only [Prod.mk.injEq] at h2 h3
       rw [h2.1, h3.1, h1, HQE.out, HTS.out, List.length_append, List.length_singleton]
       refine ⟨by omega, by omega, by omega⟩)
      clear s9 hg ho ha HP5 hr7 HS7 HTP2 HTP HD HS HS2 HLK HQE b0 f0 hf
      go_wp2
      go_roundg g
      case measure => omega
      case rel => exact ⟨j + 1, _, by omega, by go_num, HTP9, HD9, HS9⟩
    ·have hml : ((pj.ms.length : Int) == 0) = false := by
      rw [beq_eq_false_iff_ne]
      have : 0 < pj.ms.length := List.length_pos_iff.2 hmain
      omega
     have HRES : Hid (pTop c.l ts p.prg = .error x.1.p) := hidI (by
      rw [HTP.out, HTD.out]
      have : pj.prg.main ≠ [] := hmain
      simp only [if_pos this])
     have CM : Hid (∀ W Y, RdS c pj Y W → Calls Tryz.prog 91 #[.pointer (some ⟨c.B, 0, none⟩), .bool false, .int .i64 (n : Int)] W fun e w' => e = .panicked (flt2 x.1.p) ∧ W = w') := hidI (fun W Y hW => zcU hc hW HX.out)
     have HMV := hidI hmv
     clear HTD hmain CC hmv
     go_wp2_with (first
      | (go_at_call 90; refine Calls.mono (HB2.out _ HS.out) ?_; intro e w2 h2; obtain ⟨a2, cp2, rfl, hK2, hb2⟩ := h2; clear HB2; have HK2 := hidI hK2; clear hK2; have HS2 := hidI (HS.out.on hb2); have m4 := HS2.out.cell (j := 0) (u := .map (some c.vo.d)) rfl; have lk := HLK.out _ HS2.out; have HS3 := hidI (HBX.out _ HS2.out); have m9 := HS3.out.cell (j := 9) (u := pj.mv) rfl; rw [HMV.out] at m9)
      | (go_at_call 91; refine Calls.mono (CM.out _ _ HS3.out) ?_; intro e w3 h3; obtain ⟨rfl, rfl⟩ := h3; clear CM))
     refine ⟨rfl, ?_⟩
     rw [HRES.out]
     exact ⟨rfl, HS3.out.bad (.cons _ (.refl _))⟩
   | none =>
    rw [hdc] at HTD HLK
    simp only [decV, Option.getD_none, Option.isSome_none] at HLK
    clear hdc
    have CS := hidI (fun W (hW : RdS c pj X W) => HSM.out pj X W hW hbud)
    have hml : pj.ms.length ≤ 1000 := by have := HD.out.2.1; omega
    cases hr : pStmt c.l (big c.l) n pj.es with
    | error q =>
     have HRES : Hid (pTop c.l ts p.prg = .error q) := hidI (by
      rw [HTP.out, HTD.out]
      have : pStmt c.l (big c.l) n (pj.prg.exprs, pj.prg.stmts) = .error q := hr
      simp only [this])
     rw [hr] at CS
     clear hr HTD HSM
     go_wp2_with (go_at_call 90; refine Calls.mono (HB2.out _ HS.out) ?_; intro e w2 h2; obtain ⟨a2, cp2, rfl, hK2, hb2⟩ := h2; clear HB2 hK2; have HS2 := hidI (HS.out.on hb2); have m4 := HS2.out.cell (j := 0) (u := .map (some c.vo.d)) rfl; have lk := HLK.out _ HS2.out)
     have s3 := (HS2.out.alloc (.cells #[.string ⟨#[]⟩, .int .u8 0, .int .u8 0] 56)).drew
     refine regMain (B := c.B) (base := c.w0.heap.size) (n := pj.ms.length) (u := pj.mv) (xs := intsI pj.ms) (P := fun _ _ => False) (s3.cell (j := 9) rfl) (by obtain ⟨a, b, e⟩ := zaF s3.mown.head; exact ⟨a, _, b, e⟩) hml (box_apart s3.mown) ((CS.out _ s3).mono fun e w' h => .inr ⟨_, h.1, fun a ha => ⟨ha, by rw [HRES.out]; exact ⟨rfl, h.2⟩⟩⟩) (fun i => by simp [Value.oneCell']) (fun _ _ _ _ _ h => h) ?_
     intro i W1 W5 u' t66 t67 t68 t69 t70 t71 t72 t73 t74 t75 t76 t77 t78 t79 hP
     exact hP.elim
    | ok y =>
     obtain ⟨i, q⟩ := y
     have hbq := bd_stmt hc (big c.l) n _ _ _ hn hr
     have HTP2 : Hid (pTop c.l ts p.prg = pTop c.l (ts.drop (j + 1)) { pj.prg with exprs := q.1, stmts := q.2, main := pj.prg.main ++ [i] }) := hidI (by
      rw [HTP.out, HTD.out]
      have : pStmt c.l (big c.l) n (pj.prg.exprs, pj.prg.stmts) = .ok (i, q) := hr
      simp only [this])
     rw [hr] at CS
     clear hr HTD HSM
     go_wp2_with (go_at_call 90; refine Calls.mono (HB2.out _ HS.out) ?_; intro e w2 h2; obtain ⟨a2, cp2, rfl, hK2, hb2⟩ := h2; clear HB2 hK2; have HS2 := hidI (HS.out.on hb2); have m4 := HS2.out.cell (j := 0) (u := .map (some c.vo.d)) rfl; have lk := HLK.out _ HS2.out)
     have s3 := (HS2.out.alloc (.cells #[.string ⟨#[]⟩, .int .u8 0, .int .u8 0] 56)).drew
     refine regMain (B := c.B) (base := c.w0.heap.size) (n := pj.ms.length) (u := pj.mv) (xs := intsI pj.ms) (P := fun i' W => i' = i ∧ ∃ p1, p1.es = q ∧ (p1.ds, p1.dv) = (pj.ds, pj.dv) ∧ (p1.ms, p1.mv) = (pj.ms, pj.mv) ∧ RdS c p1 X W) (s3.cell (j := 9) rfl) (by obtain ⟨a, b, e⟩ := zaF s3.mown.head; exact ⟨a, _, b, e⟩) hml (box_apart s3.mown) ((CS.out _ s3).mono ?_) (fun i => by simp [Value.oneCell']) (fun _ _ _ _ _ h => h) ?_
     ·rintro e w' ⟨rfl, p1, h1, h2, h3, hS⟩
      have h3' := h3
      simp only [Prod.mk.injEq] at h3'
      refine .inl ⟨i, rfl, ?_, hS.free 9, ?_, hS.size, rfl, p1, h1, h2, h3, hS⟩
      ·rw [← h3'.2]; exact hS.cell (j := 9) rfl
      ·rw [← h3'.2, ← h3'.1]; exact hS.mown.head
     ·rintro i' W1 W5 u' t66 t67 t68 t69 t70 t71 t72 t73 t74 t75 t76 t77 t78 t79 ⟨rfl, p1, h1, h2, h3, hS⟩ hg ho ha
      simp only [Prod.mk.injEq] at h2 h3
      rw [← h3.2] at hg ha
      rw [← h3.1] at ho
      have s5 := RdS.addM (i := i') (hS.alloc (.cells #[.int .i64 i'] 3)) hg ho (by simpa using ha)
      have HS5 := hidI s5
      have HTP5 : Hid (pTop c.l ts p.prg = pTop c.l (ts.drop (j + 1)) (PV.prg { p1 with ms := p1.ms ++ [i'], mv := u' })) := hidI (by
       rw [HTP2.out]
       have e1 : q.1 = p1.xs.map Prod.fst := by rw [← h1]; rfl
       have e2 : q.2 = p1.ss.map SV.s := by rw [← h1]; rfl
       simp only [PV.prg, e1, e2, h2.1, h3.1])
      have HD5 : Hid (p1.ds.length ≤ j + 1 ∧ (p1.ms ++ [i']).length ≤ j + 1 ∧ NQ p1.es ≤ NQ p.es + ((ts.take (j + 1)).map c.sz).sum) := hidI (by
       obtain ⟨d1, d2, d3⟩ := HD.out
       rw [h2.1, h3.1, h1, HTS.out, List.length_append, List.length_singleton]
       refine ⟨by omega, by omega, by omega⟩)
      clear s5 hg ho ha h1 h2 h3 hS s3 HTP2 HTP HD HS HS2 m4 lk hb2 HLK CS hbq
      go_wp2
      go_roundg g
      case measure => omega
      case rel => exact ⟨j + 1, _, by omega, by go_num, HTP5, HD5, HS5⟩
structure Tx where
 w0 : World
 B : Nat
 P : PV
 put : Value
 pr : List Tok → List Rw → Prop
 K : List (Nat × ByteArray × Nat)
def tlBox (t : Tx) (σ : TS) : Rw := ⟨bx t.B, 174, 9, 1, [t.P.dv, t.P.xv, t.P.sv, t.P.mv, .int .i64 (σ.x : Int), .int .i64 (σ.s : Int), .int .i64 (σ.f : Int), .int .i64 (σ.d : Int), t.put]⟩
structure TlR (t : Tx) (σ : TS) (X : List Rw) (w : World) : Prop where
 below : Below t.w0.heap.size t.w0 w
 rows : ∃ Q, t.pr σ.ts Q ∧ RowsP w t.w0.heap.size (tlBox t σ :: (Q ++ X))
 kept : ∀ x ∈ t.K, w.heap[x.1]? = some (.stringIter x.2.1 x.2.2)
def TsOk (σ : TS) : Prop := σ.f ≤ 400 ∧ σ.ts.length + σ.d ≤ 2 * σ.f ∧ σ.d ≤ 12
def TsOk1 (σ : TS) : Prop := σ.f ≤ 400 ∧ σ.ts.length + σ.d ≤ 2 * σ.f + 1 ∧ σ.d ≤ 12
structure TlS (t : Tx) (σ : TS) (X : List Rw) (w : World) : Prop where
 r : TlR t σ X w
 lim : TsOk σ
structure TBad (t : Tx) (X : List Rw) (w : World) : Prop where
 below : Below t.w0.heap.size t.w0 w
 rows : RowsP w t.w0.heap.size X
theorem TsOk.one {σ : TS} (h : TsOk σ) : TsOk1 σ := ⟨h.1, by have := h.2.1; omega, h.2.2⟩
section
variable {t : Tx} {σ : TS} {X Y : List Rw} {w : World}
theorem keep_below {l : List (Nat × ByteArray × Nat)} (h : ∀ x ∈ l, w.heap[x.1]? = some (.stringIter x.2.1 x.2.2)) {w' : World} (hb : Below w.heap.size w w') : ∀ x ∈ l, w'.heap[x.1]? = some (.stringIter x.2.1 x.2.2) :=
 fun x hx => (hb.block x.1 (Array.getElem?_eq_some_iff.1 (h x hx)).1).trans (h x hx)
theorem own_cells {base e size n B : Nat} {xs : List Value} (h : w.ownsRow base e size (bx B) n xs) : ∃ cur, w.heap[B]? = some (.cells cur e) := by
 rcases h.2 with ⟨h0, _⟩ | ⟨g', cap', cur, he, hb, hh, h1, h2, h3, h4⟩
 ·cases h0
 ·cases he
  exact ⟨cur, hh⟩
theorem keep_ne {base e size n B : Nat} {xs : List Value} (h : w.ownsRow base e size (bx B) n xs) {x : Nat × ByteArray × Nat} (hx : w.heap[x.1]? = some (.stringIter x.2.1 x.2.2)) : x.1 ≠ B := by
 obtain ⟨cur, hc⟩ := own_cells h
 intro e
 rw [e, hc] at hx
 cases hx
theorem keep_set {base e size n B j : Nat} {xs : List Value} (h : w.ownsRow base e size (bx B) n xs) {l : List (Nat × ByteArray × Nat)} (hk : ∀ x ∈ l, w.heap[x.1]? = some (.stringIter x.2.1 x.2.2)) (u : Value) : ∀ x ∈ l, (w.setCell ⟨B, j, none⟩ u).heap[x.1]? = some (.stringIter x.2.1 x.2.2) :=
 fun x hx => ((zbT w B j u).block x.1 (Array.getElem?_eq_some_iff.1 (hk x hx)).1 (fun e => keep_ne h (hk x hx) (by cases e; rfl))).trans (hk x hx)
theorem TlR.on (h : TlR t σ X w) {w' : World} (hb : Below w.heap.size w w') : TlR t σ X w' := by
 obtain ⟨Q, hq, hr⟩ := h.rows
 exact ⟨h.below.trans (hb.mono h.below.size), ⟨Q, hq, hr.below hb⟩, keep_below h.kept hb⟩
theorem TlR.drew (h : TlR t σ X w) : TlR t σ X w.drew := by
 obtain ⟨Q, hq, hr⟩ := h.rows
 exact ⟨h.below.drew, ⟨Q, hq, hr.drew⟩, h.kept⟩
theorem TlR.alloc (h : TlR t σ X w) (o : Obj) : TlR t σ X (w.alloc o) := by
 obtain ⟨Q, hq, hr⟩ := h.rows
 exact ⟨h.below.alloc h.below.size o, ⟨Q, hq, hr.alloc o⟩, keep_below h.kept ((Below.refl w.heap.size w).alloc (Nat.le_refl _) o)⟩
theorem TlR.box (h : TlR t σ X w) : w.ownsRow t.w0.heap.size 174 9 (bx t.B) 1 (tlBox t σ).xs := by
 obtain ⟨Q, hq, hr⟩ := h.rows
 exact RowsP.head (r := tlBox t σ) hr
theorem TlR.cell (h : TlR t σ X w) {j : Nat} {u : Value} (hj : (tlBox t σ).xs[j]? = some u) : w.cell? ⟨t.B, j, none⟩ = some u := zaA h.box hj
theorem TlR.free (h : TlR t σ X w) (j : Nat) : w.frozen? ⟨t.B, j, none⟩ = false := zaQ h.box j
theorem TlR.lt (h : TlR t σ X w) : t.w0.heap.size ≤ t.B ∧ t.B < w.heap.size := h.box.lt t.B rfl
theorem TlR.size (h : TlR t σ X w) : t.w0.heap.size ≤ w.heap.size := h.below.size
theorem TlR.more (h : TlR t σ X w) {w' : World} {r : Rw} (hw : TlR t σ X w → ∀ l, RowsP w t.w0.heap.size l → RowsP w' t.w0.heap.size (r :: l)) (hb : Below w.heap.size w w') : TlR t σ (r :: X) w' := by
 obtain ⟨Q, hq, hr⟩ := h.rows
 refine ⟨h.below.trans (hb.mono h.below.size), ⟨Q, hq, ?_⟩, keep_below h.kept hb⟩
 have := hw h _ hr
 exact this.perm (((List.perm_middle (l₁ := tlBox t σ :: Q) (l₂ := X) (a := r))).symm)
theorem TlR.newbox (h : TlR t σ X w) (e size : Nat) (xs : Array Value) (hs : xs.size = size) : TlR t σ (⟨bx w.heap.size, e, size, 1, xs.toList⟩ :: X) (w.alloc (.cells xs e)) :=
 h.more (fun h l hl => hl.add (r := ⟨bx w.heap.size, e, size, 1, xs.toList⟩) (hl.alloc _) (zcK w t.w0.heap.size e size xs h.size hs) (fun k hk => by cases hk; exact Nat.le_refl _)) ((Below.refl w.heap.size w).alloc (Nat.le_refl _) _)
theorem TlR.first {r : Rw} (h : TlR t σ (r :: X) w) : ∃ Q, t.pr σ.ts Q ∧ RowsP w t.w0.heap.size (r :: (tlBox t σ :: (Q ++ X))) := by
 obtain ⟨Q, hq, hr⟩ := h.rows
 exact ⟨Q, hq, hr.perm (List.perm_middle (l₁ := tlBox t σ :: Q) (l₂ := X) (a := r))⟩
theorem TlR.row {r : Rw} (h : TlR t σ (r :: X) w) : w.ownsRow t.w0.heap.size r.e r.size r.v r.n r.xs := by
 obtain ⟨Q, hq, hr⟩ := h.first
 exact hr.head
theorem TlR.sub (h : TlR t σ X w) (hs : Y.Sublist X) : TlR t σ Y w := by
 obtain ⟨Q, hq, hr⟩ := h.rows
 exact ⟨h.below, ⟨Q, hq, hr.sub ((hs.append_left Q).cons_cons _)⟩, h.kept⟩
theorem TlR.less {r : Rw} (h : TlR t σ (r :: X) w) : TlR t σ X w := h.sub (.cons _ (.refl _))
theorem TlR.bad (h : TlR t σ X w) (hs : Y.Sublist X) : TBad t Y w := by
 obtain ⟨Q, hq, hr⟩ := h.rows
 exact ⟨h.below, hr.sub ((hs.trans (List.sublist_append_right _ _)).cons _)⟩
theorem TBad.sub (h : TBad t X w) (hs : Y.Sublist X) : TBad t Y w := ⟨h.below, h.rows.sub hs⟩
theorem TlR.setc (h : TlR t σ X w) (j : Nat) (u : Value) (σ' : TS) (hts : σ'.ts = σ.ts) (hx : (tlBox t σ').xs = (tlBox t σ).xs.set j u) : TlR t σ' X (w.setCell ⟨t.B, j, none⟩ u) := by
 obtain ⟨Q, hq, hr⟩ := h.rows
 refine ⟨h.below.setCell h.lt.1 u, ⟨Q, by rw [hts]; exact hq, ?_⟩, keep_set h.box h.kept u⟩
 have h1 := hr.setc (r := tlBox t σ) (g := t.B) (cap := 1) (j := j) rfl u
 have e : ({ tlBox t σ with xs := (tlBox t σ).xs.set j u } : Rw) = tlBox t σ' := by
  rw [← hx]
  rfl
 rwa [e] at h1
theorem TlR.setbox {B e size j : Nat} {xs : List Value} (h : TlR t σ (⟨bx B, e, size, 1, xs⟩ :: X) w) (u : Value) : TlR t σ (⟨bx B, e, size, 1, xs.set j u⟩ :: X) (w.setCell ⟨B, j, none⟩ u) := by
 obtain ⟨Q, hq, hr⟩ := h.first
 exact ⟨h.below.setCell (hr.head.lt B rfl).1 u, ⟨Q, hq, (hr.setc (g := B) (cap := 1) (j := j) rfl u).perm (List.perm_middle (l₁ := tlBox t σ :: Q) (l₂ := X)).symm⟩, keep_set hr.head h.kept u⟩
def Tx.withK (t : Tx) (K : List (Nat × ByteArray × Nat)) : Tx := { t with K := K }
theorem TlR.push (h : TlR t σ X w) {x : Nat × ByteArray × Nat} (hx : w.heap[x.1]? = some (.stringIter x.2.1 x.2.2)) : TlR (t.withK (x :: t.K)) σ X w :=
 ⟨h.below, h.rows, fun y hy => by
  rcases List.mem_cons.1 hy with rfl | hy
  ·exact hx
  ·exact h.kept y hy⟩
theorem TlR.pop {x : Nat × ByteArray × Nat} (h : TlR (t.withK (x :: t.K)) σ X w) : TlR t σ X w := ⟨h.below, h.rows, fun y hy => h.kept y (List.mem_cons_of_mem _ hy)⟩
theorem grown_iter (w : World) (k : Nat) (s : ByteArray) (p : Nat) : w.grownBy (w.iterAt k s p) (some k) :=
 ⟨rfl, rfl, rfl, by simp [World.iterAt], fun j _ hne => by
  simp only [World.iterAt]
  rw [Array.getElem?_setIfInBounds, if_neg (fun e => hne (by rw [e]))]⟩
theorem own_iter {base : Nat} {l : List Rw} (h : RowsP w base l) {k : Nat} {s : ByteArray} {p : Nat} (hk : w.heap[k]? = some (.stringIter s p)) (p' : Nat) : RowsP (w.iterAt k s p') base l := by
 refine h.far (grown_iter w k s p') (fun r hr => ?_)
 cases hv : r.v.ownBlock with
 | none => exact .inl rfl
 | some g =>
  refine .inr (fun e => ?_)
  cases e
  rcases (h.own r hr).2 with ⟨h0, _⟩ | ⟨g', cap', cur, he, hb, hh, _⟩
  ·rw [h0] at hv; cases hv
  ·rw [he] at hv
   cases hv
   rw [hh] at hk
   cases hk
theorem TlR.iter {k : Nat} {s : ByteArray} {p : Nat} (h : TlR (t.withK ((k, s, p) :: t.K)) σ X w) (hk : t.w0.heap.size ≤ k) (hd : ∀ y ∈ t.K, y.1 ≠ k) (p' : Nat) : TlR (t.withK ((k, s, p') :: t.K)) σ X (w.iterAt k s p') := by
 have h0 := h.kept (k, s, p) (List.mem_cons_self ..)
 obtain ⟨Q, hq, hr⟩ := h.rows
 refine ⟨h.below.grown (grown_iter w k s p') h.below.size (fun j hj => by cases hj; exact hk), ⟨Q, hq, own_iter hr h0 p'⟩, fun y hy => ?_⟩
 rcases List.mem_cons.1 hy with rfl | hy
 ·exact _root_.Go.Lib.iterAt_heap w k s p p' h0
 ·have h1 := h.kept y (List.mem_cons_of_mem _ hy)
  exact ((grown_iter w k s p').block y.1 (Array.getElem?_eq_some_iff.1 h1).1 (fun e => hd y hy (by cases e; rfl))).trans h1
theorem TlS.push (h : TlS t σ X w) {x : Nat × ByteArray × Nat} (hx : w.heap[x.1]? = some (.stringIter x.2.1 x.2.2)) : TlS (t.withK (x :: t.K)) σ X w := ⟨h.r.push hx, h.lim⟩
theorem TlS.pop {x : Nat × ByteArray × Nat} (h : TlS (t.withK (x :: t.K)) σ X w) : TlS t σ X w := ⟨h.r.pop, h.lim⟩
theorem TlS.iter {k : Nat} {s : ByteArray} {p : Nat} (h : TlS (t.withK ((k, s, p) :: t.K)) σ X w) (hk : t.w0.heap.size ≤ k) (hd : ∀ y ∈ t.K, y.1 ≠ k) (p' : Nat) : TlS (t.withK ((k, s, p') :: t.K)) σ X (w.iterAt k s p') := ⟨h.r.iter hk hd p', h.lim⟩
theorem TlR.klt (h : TlR t σ X w) : ∀ y ∈ t.K, y.1 ≠ w.heap.size := fun y hy e => by
 have := (Array.getElem?_eq_some_iff.1 (h.kept y hy)).1
 omega
theorem TlS.on (h : TlS t σ X w) {w' : World} (hb : Below w.heap.size w w') : TlS t σ X w' := ⟨h.r.on hb, h.lim⟩
theorem TlS.drew (h : TlS t σ X w) : TlS t σ X w.drew := ⟨h.r.drew, h.lim⟩
theorem TlS.alloc (h : TlS t σ X w) (o : Obj) : TlS t σ X (w.alloc o) := ⟨h.r.alloc o, h.lim⟩
theorem TlS.newbox (h : TlS t σ X w) (e size : Nat) (xs : Array Value) (hs : xs.size = size) : TlS t σ (⟨bx w.heap.size, e, size, 1, xs.toList⟩ :: X) (w.alloc (.cells xs e)) := ⟨h.r.newbox e size xs hs, h.lim⟩
theorem TlS.sub (h : TlS t σ X w) (hs : Y.Sublist X) : TlS t σ Y w := ⟨h.r.sub hs, h.lim⟩
theorem TlS.bad (h : TlS t σ X w) (hs : Y.Sublist X) : TBad t Y w := h.r.bad hs
end
def SmlN (s : ByteArray) : Prop := s.size ≤ 140737488355328
def ActOk (a : Actn) : Prop := a.k < 256 ∧ a.op < 256 ∧ SmlN a.name
structure PrgOk (P : Prg) : Prop where
 dl : P.decls.length ≤ 1099511627776
 xl : P.exprs.length ≤ 1099511627776
 sl : P.stmts.length ≤ 1099511627776
 ml : P.main.length ≤ 1099511627776
 d : ∀ d ∈ P.decls, d.side < 256 ∧ d.kind < 256 ∧ SmlN d.name
 x : ∀ x ∈ P.exprs, x.k < 256 ∧ x.of < 256 ∧ x.op < 256 ∧ SmlN x.name ∧ x.kids.length ≤ 1099511627776
 s : ∀ s ∈ P.stmts, s.k < 256 ∧ s.op < 256 ∧ SmlN s.name ∧ s.acts.length ≤ 1099511627776 ∧ s.thn.length ≤ 1099511627776 ∧ s.els.length ≤ 1099511627776 ∧ ∀ a ∈ s.acts, ActOk a
structure SeesPv (w : World) (p : PV) : Prop where
 d : SeesC w p.dv p.ds.length 3 (flatD p.ds)
 x : SeesC w p.xv p.xs.length 6 (flatX p.xs)
 s : SeesC w p.sv p.ss.length 8 (flatS p.ss)
 m : SeesC w p.mv p.ms.length 1 (intsI p.ms)
 xk : ∀ x ∈ p.xs, SeesC w x.2 x.1.kids.length 1 (intsI x.1.kids)
 sa : ∀ s ∈ p.ss, SeesC w s.av s.s.acts.length 6 (flatAc s.s.acts)
 st : ∀ s ∈ p.ss, SeesC w s.tv s.s.thn.length 1 (intsI s.s.thn)
 se : ∀ s ∈ p.ss, SeesC w s.ev s.s.els.length 1 (intsI s.s.els)
theorem SeesPv.below {w w' : World} {p : PV} (h : SeesPv w p) (hb : Below w.heap.size w w') : SeesPv w' p :=
 ⟨h.d.below hb (Nat.le_refl _), h.x.below hb (Nat.le_refl _), h.s.below hb (Nat.le_refl _), h.m.below hb (Nat.le_refl _), fun x hx => (h.xk x hx).below hb (Nat.le_refl _), fun x hx => (h.sa x hx).below hb (Nat.le_refl _), fun x hx => (h.st x hx).below hb (Nat.le_refl _), fun x hx => (h.se x hx).below hb (Nat.le_refl _)⟩
abbrev flt3 : List PanicEntry := [{ v := .iface 111 (.agg #[.int .i64 0, .int .i64 3]), recovered := false }]
def TPost (t : Tx) (X : List Rw) (r : Option TS) (e : Ending) (w' : World) : Prop :=
 match r with
 | none => e = .panicked flt3 ∧ TBad t X w'
 | some σ' => e = .returned (.tuple #[]) ∧ TlS t σ' X w'
def PutOk (t : Tx) (F : Nat) : Prop := ∀ (σ : TS) (X : List Rw) (w : World) (tk : Tok), TlR t σ X w → σ.ts.length ≤ 1000 → SmlN tk.s → Calls Tryz.prog F #[.agg #[.int .u8 tk.k, .string tk.s, .int .i64 tk.n, .int .i64 tk.p]] w fun e w' => e = .returned (.tuple #[]) ∧ TlR t { σ with ts := σ.ts ++ [tk] } X w'
structure Tx.Ok (t : Tx) (F : Nat) : Prop where
 laid : Laid t.w0
 sees : SeesPv t.w0 t.P
 ok : PrgOk t.P.prg
 isF : F = 52
 put : t.put = .func (.func F) #[] #[]
 fnK : ∀ K, PutOk (t.withK K) F
theorem Tx.Ok.fn {t : Tx} {F : Nat} (h : t.Ok F) : t.put = .func (.func F) #[] #[] ∧ PutOk t F := ⟨h.put, h.fnK t.K⟩
theorem Tx.Ok.withK {t : Tx} {F : Nat} (h : t.Ok F) (K : List (Nat × ByteArray × Nat)) : (t.withK K).Ok F := ⟨h.laid, h.sees, h.ok, h.isF, h.put, h.fnK⟩
theorem zaC {a : Act} {k : Nat} {v : Value} (h : a.tmps[k]? = some v) : a.eval (.tmp k) = v := by
 unfold Act.eval
 simp only [Array.getD_eq_getD_getElem?, h, Option.getD_some]
theorem yl_of {ops : Array Oper} {t : Array Value} {j d : Nat} {b : Bool} (h1 : (ops[j]?).bind (·.dst) = some d) (h2 : t[d]? = some (.bool b)) : yielded ops t j = some b := by
 unfold yielded
 rw [h1]
 simp only [Option.bind_some, h2]
theorem yl_un {ops : Array Oper} {t : Array Value} {j d : Nat} (h1 : (ops[j]?).bind (·.dst) = some d) (h2 : t[d]? = some undef) : yielded ops t j = none := by
 unfold yielded
 rw [h1]
 simp only [Option.bind_some, h2, undef]
structure Put (a a1 : Act) (n d : Nat) (v : Value) : Prop where
 size : a1.tmps.size = n
 at_ : a1.tmps[d]? = some v
 far : ∀ j, d ≠ j → a1.tmps[j]? = a.tmps[j]?
 df : a1.defers = a.defers
theorem put_put {a : Act} {n d : Nat} (hs : a.tmps.size = n) (hd : d < n) (v : Value) : Put a (a.put (some d) v) n d v := by
 refine ⟨by simp [Act.put, hs], ?_, ?_, rfl⟩
 ·simp only [Act.put, Array.getElem?_setIfInBounds, hs, hd, if_true]
 ·intro j hj
  simp only [Act.put, Array.getElem?_setIfInBounds, hj, if_false]
section
variable {P : Program} {ops : Array Oper} {rest : List Oper} {o : Oper} {a : Act} {Q : Exit → Act → World → Prop} {w w' : World} {n d : Nat} {v : Value}
theorem wl_op (hw : Region.wanted o (yielded ops a.tmps) = true) (hd : o.dst = some d) (hs : a.tmps.size = n) (hn : d < n) (hr : (execOp a.eval o).run P w = .ok (.value v) w') (h : ∀ a1, Put a a1 n d v → wpList P ops Q rest a1 w') : wpList P ops Q (o :: rest) a w :=
 wpList_step fun K hK => by
  rw [if_pos hw]
  unfold Oper.wp
  rw [hr, Oper.upon_value, hd]
  exact hK _ _ (h _ (put_put hs hn v))
theorem wl_skip (hw : Region.wanted o (yielded ops a.tmps) = false) (hd : o.dst = some d) (hs : a.tmps.size = n) (hn : d < n) (h : ∀ a1, Put a a1 n d undef → wpList P ops Q rest a1 w) : wpList P ops Q (o :: rest) a w :=
 wpList_step fun K hK => by
  rw [if_neg (by rw [hw]; simp), hd]
  exact hK _ _ (h _ (put_put hs hn undef))
theorem wl_call {f : FuncId} {args : Array Value} {R : Ending → World → Prop} (hw : Region.wanted o (yielded ops a.tmps) = true) (hd : o.dst = some d) (hs : a.tmps.size = n) (hn : d < n) (hr : (execOp a.eval o).run P w = .ok (.enter f args) w) (hC : Calls P f args w R) (hR : ∀ e w1, R e w1 → ∃ v, e = .returned v ∧ ∀ a1, Put a a1 n d v → wpList P ops Q rest a1 w1) : wpList P ops Q (o :: rest) a w :=
 wpList_step fun K hK => by
  rw [if_pos hw]
  unfold Oper.wp
  rw [hr, Oper.upon_enter]
  refine hC.mono ?_
  intro e w1 h1
  obtain ⟨v, rfl, h2⟩ := hR e w1 h1
  rw [hd]
  exact hK _ _ (h2 _ (put_put hs hn v))
end
end Go.Proofs.YtmekkhfohmfjkaaGreatDoor
