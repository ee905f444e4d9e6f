/-
  Part 17 of the proof: PStmt, PAll.
-/
import Derived.Test.YtmekkhfohmfjkaaGreatDoorSd16
namespace Go.Proofs.YtmekkhfohmfjkaaGreatDoor
open Go.RowKit Go.Deep Go.MapKept
def actBox (ab:Nat):Rw:=⟨bx ab,126,6,1,[.int .u8 0,.string ⟨#[]⟩,.int .u8 0,.bool false,.int .i64 0,.int .i64 0]⟩
theorem actSh_asc (k:Nat) (h1:1≤k) (h2:k≤3):(∀ (i:Nat) (h:i<(actPt k).size),((actPt k)[i]'h).toNat<128)∧(actPt k).size≤10∧ptL (actPt k)=actSh k∧(∀ x∈actSh k,x∈Lts)∧¬ 97∈actSh k∧¬ 115∈actSh k∧¬ 116∈actSh k∧¬ 102∈actSh k:=by
 have hm:k=1∨k=2∨k=3:=by omega
 rcases hm with rfl|rfl|rfl<;>refine ⟨by decide,by decide,by decide +kernel,by decide,by decide,by decide,by decide,by decide⟩
theorem stmtSh_asc (k:Nat) (h1:1≤k) (h2:k≤7):(∀ (i:Nat) (h:i<(stmtPt k).size),((stmtPt k)[i]'h).toNat<128)∧(stmtPt k).size≤10∧ptL (stmtPt k)=stmtSh k∧(∀ x∈stmtSh k,x∈Lts):=by
 have hm:k=1∨k=2∨k=3∨k=4∨k=5∨k=6∨k=7:=by omega
 rcases hm with rfl|rfl|rfl|rfl|rfl|rfl|rfl<;>refine ⟨by decide,by decide,by decide +kernel,by decide⟩
set_option maxHeartbeats 4000000 in
theorem act_any {c:Cx} (hc:c.Ok) {n:Nat} (hn:n<c.fs.length):RC c 149 n rA (pAct c.l):=by
 intro p X w h hN
 have HS0:Hid (RdS c p (actBox w.heap.size::X) (w.alloc (.cells #[.int .u8 0,.string ⟨#[]⟩,.int .u8 0,.bool false,.int .i64 0,.int .i64 0] 126))):=hidI (RdS.more (h.alloc _) (h.rows.add (r:=actBox w.heap.size) (h.rows.alloc _) (zcK w c.w0.heap.size 126 6 #[.int .u8 0,.string ⟨#[]⟩,.int .u8 0,.bool false,.int .i64 0,.int .i64 0] h.size rfl) (fun k hk=>by cases hk;exact Nat.le_refl _)))
 have HPA:Hid (pAct c.l n p.es=(if actOf (brkW c.l n)=0 then .error (frm c.l n).p else match contentP c.l (takeP c.l (pE c.l) (noE c.l) (noE c.l)) (actSh (actOf (brkW c.l n))) n (brkK c.l n) p.es with
  | .error p=>.error p
  | .ok (k,q')=>.ok (⟨actOf (brkW c.l n),k.name,k.op,k.inn,k.e,k.cond⟩,q'))):=hidI rfl
 clear h
 obtain ⟨x,hx⟩:∃ x,c.fs[n]?=some x:=⟨_,List.getElem?_eq_getElem hn⟩
 have HX:=hidI hx
 have hfx:(frm c.l n).p=x.1.p:=by rw [Cx.frm_at hx]
 have hbs:=brkW_sz hc hn
 have hzs:=hc.brk_sz hn
 have hbl:=hc.brk_lt hn
 have hbk:=hc.brk_len hn
 have HBS:=hidI hbs
 have CB:=hidI (fun W (hW:RdS c p (actBox w.heap.size::X) W)=>brk_any hc hW hn)
 obtain ⟨s,hss⟩:∃ s,brkW c.l n=s:=⟨_,rfl⟩
 obtain ⟨ks,hks⟩:∃ ks,brkK c.l n=ks:=⟨_,rfl⟩
 have HB2:Hid (∀ W,RdS c p (actBox w.heap.size::X) W→Calls Tryz.prog 90 #[.pointer (some ⟨c.B,0,none⟩),.int .i64 (n:Int)] W fun e w'=>∃ a2 cp2,e=.returned (.tuple #[.string s,.slice a2 ks.length cp2])∧SeesK c.w0 (.slice a2 ks.length cp2) ks∧Below W.heap.size W w'):=hidI (fun W hW=>(CB.out W hW).mono (by
  rintro e w' ⟨kv,rfl,hK,hb⟩
  rw [hss,hks] at *
  obtain ⟨_,a2,cp2,hkv,_⟩:=id hK
  subst hkv
  exact ⟨a2,cp2,rfl,hK,hb⟩))
 rw [hss,hks] at HPA
 rw [hss] at HBS
 rw [hks] at hzs hbl hbk
 rw [hfx] at HPA
 clear CB hbs hx hfx
 have HLK:Hid (∀ W,RdS c p (actBox w.heap.size::X) W→(Instr.lookup 102 (.map (some c.vo.a)) (.string s) true).run Tryz.prog W=.ok (.tuple #[.int .u8 (actOf s:Int),.bool (decide (actOf s≠0))]) W):=hidI (fun W hW=>look_act hc hW.below HBS.out)
 by_cases hx0:actOf s=0
 ·have HR:Hid (pAct c.l n p.es=.error x.1.p):=hidI (by rw [HPA.out,if_pos hx0])
  rw [hx0] at HLK
  have CM:Hid (∀ W,RdS c p (actBox w.heap.size::X) W→Calls Tryz.prog 91 #[.pointer (some ⟨c.B,0,none⟩),.bool false,.int .i64 (n:Int)] W fun e w'=>e=.panicked (flt2 x.1.p)∧W=w'):=hidI (fun W hW=>zcV hc hW HX.out)
  clear HPA hx0 hbl hbk hzs hks hss
  go_enter Tryz.func149,Tryz.ntmps149
  go_wp2_with (first
   | (go_at_call 90;refine Calls.mono (HB2.out _ HS0.out) ?_;intro e w2 h2;obtain ⟨a2,cp2,rfl,hK2,hb2⟩:=h2;clear HB2;have HK2:=hidI hK2;clear hK2;have HS2:=hidI (HS0.out.on hb2);have m4:=HS2.out.cell (j:=2) (u:=.map (some c.vo.a)) rfl;have lk:=HLK.out _ HS2.out)
   | (go_at_call 91;refine Calls.mono (CM.out _ HS2.out) ?_;intro e w3 h3;obtain ⟨rfl,rfl⟩:=h3;clear CM))
  refine ⟨rfl,?_⟩
  rw [HR.out]
  exact ⟨rfl,HS2.out.bad (.cons _ (.refl _))⟩
 ·have hxl:=actOf_le s
  obtain ⟨kk,hkk⟩:∃ kk,actOf s=kk:=⟨_,rfl⟩
  rw [hkk] at hx0 hxl HLK HPA
  rw [decide_eq_true hx0] at HLK
  obtain ⟨as1,as2,as3,as4,as6,as7,as8,as9⟩:=actSh_asc kk (by omega) (by omega)
  have HTK:TK c (takeP c.l (pE c.l) (noE c.l) (noE c.l)) (ptL (actPt kk)) ks:=by
   rw [as3]
   exact tk_take hc as4 (fun k hk=>(hbl k hk).2) (bd_expr hc _) zdJ zdJ (fun _ k hk=>expr_any hc (hbl k hk).2) (fun h=>absurd h as6) (fun h=>absurd h as7) (fun h=>by rcases h with h|h;exact absurd h as8;exact absurd h as9)
  clear as4 as6 as7 as8 as9
  have CSh:=hidI (fun W=>actSh_any kk (by omega) (by omega) W)
  have CC:=hidI (fun W kv hW hK=>zdT hc (tk:=takeP c.l (pE c.l) (noE c.l) (noE c.l)) (ks:=ks) (kv:=kv) (sw:=actWd kk) (sp:=actPt kk) as1 as2 hK hbk (fun k hk=>(hbl k hk).2) HTK (p:=p) (X:=actBox w.heap.size::X) (w:=W) hW hn (by omega))
  rw [as3] at CC
  have CM:=hidI (fun W=>must_ok (.pointer (some ⟨c.B,0,none⟩)) (n:Int) W)
  obtain ⟨sw,hsw⟩:∃ sw,actWd kk=sw:=⟨_,rfl⟩
  obtain ⟨sp,hsp⟩:∃ sp,actPt kk=sp:=⟨_,rfl⟩
  rw [hsw,hsp] at CSh CC
  have HKK:=hidI hx0
  clear as1 as2 as3 HTK hsw hsp hx0 hxl hkk hbl hzs hks hss
  cases hr:contentP c.l (takeP c.l (pE c.l) (noE c.l) (noE c.l)) (actSh kk) n ks p.es with
  | error q=>
   have HR:Hid (pAct c.l n p.es=.error q):=hidI (by rw [HPA.out,if_neg HKK.out,hr])
   rw [hr] at CC
   clear hr HPA
   go_enter Tryz.func149,Tryz.ntmps149
   go_wp2_with (first
    | (go_at_call 90;refine Calls.mono (HB2.out _ HS0.out) ?_;intro e w2 h2;obtain ⟨a2,cp2,rfl,hK2,hb2⟩:=h2;clear HB2;have HK2:=hidI hK2;clear hK2;have HS2:=hidI (HS0.out.on hb2);have m4:=HS2.out.cell (j:=2) (u:=.map (some c.vo.a)) rfl;have lk:=HLK.out _ HS2.out)
    | (go_at_call 91;refine Calls.mono (CM.out _) ?_;intro e w3 h3;obtain ⟨rfl,rfl⟩:=h3;clear CM)
    | (go_at_call 82;refine Calls.mono (CSh.out _) ?_;intro e w4 h4;obtain ⟨rfl,hb4⟩:=h4;clear CSh;have HS4:=hidI (HS2.out.on hb4))
    | (go_at_call 92;refine Calls.mono (CC.out _ _ HS4.out HK2.out) ?_;intro e w5 h5;obtain ⟨rfl,hb5⟩:=h5;clear CC))
   refine ⟨rfl,?_⟩
   rw [HR.out]
   exact ⟨rfl,hb5.sub (.cons _ (.refl _))⟩
  | ok y=>
   obtain ⟨k,q⟩:=y
   have HR:Hid (pAct c.l n p.es=.ok (⟨kk,k.name,k.op,k.inn,k.e,k.cond⟩,q)):=hidI (by rw [HPA.out,if_neg HKK.out,hr])
   rw [hr] at CC
   clear hr HPA
   go_enter Tryz.func149,Tryz.ntmps149
   go_wp2_with (first
    | (go_at_call 90;refine Calls.mono (HB2.out _ HS0.out) ?_;intro e w2 h2;obtain ⟨a2,cp2,rfl,hK2,hb2⟩:=h2;clear HB2;have HK2:=hidI hK2;clear hK2;have HS2:=hidI (HS0.out.on hb2);have m4:=HS2.out.cell (j:=2) (u:=.map (some c.vo.a)) rfl;have lk:=HLK.out _ HS2.out)
    | (go_at_call 91;refine Calls.mono (CM.out _) ?_;intro e w3 h3;obtain ⟨rfl,rfl⟩:=h3;clear CM)
    | (go_at_call 82;refine Calls.mono (CSh.out _) ?_;intro e w4 h4;obtain ⟨rfl,hb4⟩:=h4;clear CSh;have HS4:=hidI (HS2.out.on hb4))
    | (go_at_call 92;refine Calls.mono (CC.out _ _ HS4.out HK2.out) ?_;intro e w5 h5;obtain ⟨p5,av,tv,ev,rfl,hb5⟩:=h5;clear CC;refine Hid.out ?_))
   obtain ⟨hes5,hds5,hms5,hS5⟩:=hb5
   obtain ⟨aa,ac,hav⟩:∃ aa ac,av=.slice aa k.acts.length ac:=zaE (RowsP.head (r:=aRow av k.acts) hS5.first)
   obtain ⟨ta,tc,htv⟩:∃ ta tc,tv=.slice ta k.thn.length tc:=zaE (RowsP.head (r:=iRow tv k.thn) hS5.less.first)
   obtain ⟨ea,ec,hev⟩:∃ ea ec,ev=.slice ea k.els.length ec:=zaE (RowsP.head (r:=iRow ev k.els) hS5.less.less.first)
   subst hav htv hev
   have s7:RdS c p5 (actBox w.heap.size::X) (w5.alloc (.cells #[.string k.name,.int .u8 (k.op:Int),.bool k.inn,.int .i64 k.e,.int .i64 k.cond,.slice aa k.acts.length ac,.slice ta k.thn.length tc,.slice ea k.els.length ec] 170)):=(hS5.less.less.less).alloc _
   have HS7:=hidI s7
   have hr:=RowsP.head (r:=actBox w.heap.size) s7.first
   have r0:=zaB hr (j:=0) rfl
   have z0:=zaQ hr 0
   have r1:=zaB hr (j:=1) rfl
   have z1:=zaQ hr 1
   have r2:=zaB hr (j:=2) rfl
   have z2:=zaQ hr 2
   have r3:=zaB hr (j:=3) rfl
   have z3:=zaQ hr 3
   have r4:=zaB hr (j:=4) rfl
   have z4:=zaQ hr 4
   have r5:=zaB hr (j:=5) rfl
   have z5:=zaQ hr 5
   have HFIN:=hidI (RdS.less (RdS.setbox (j:=5) (RdS.setbox (j:=4) (RdS.setbox (j:=3) (RdS.setbox (j:=2) (RdS.setbox (j:=1) (RdS.setbox (j:=0) s7 (.int .u8 (kk:Int))) (.string k.name)) (.int .u8 (k.op:Int))) (.bool k.inn)) (.int .i64 k.e)) (.int .i64 k.cond)))
   have HP5:=hidI (And.intro hes5 (And.intro hds5 hms5))
   clear hr s7 hS5 hes5 hds5 hms5 HS2 HS4 m4 lk hb2 hb4
   refine hidI ?_
   go_wp2
   refine bodyPost_ret (v:=rA ⟨kk,k.name,k.op,k.inn,k.e,k.cond⟩) ?_ rfl ?_
   ·rw [zaC rfl]
    (go_simp<;>first|done|rfl|exact ⟨rfl,rfl⟩)
   ·rw [HR.out]
    exact ⟨rfl,p5,HP5.out.1,HP5.out.2.1,HP5.out.2.2,HFIN.out⟩
set_option maxHeartbeats 4000000 in
theorem stmt_step {c:Cx} (hc:c.Ok) {f n:Nat} (hn:n<c.fs.length) (HST:∀ m,n<m→m<c.fs.length→RC c 93 m rI (pStmt c.l f)):RC c 93 n rI (pStmt c.l (f+1)):=by
 intro p X w h hN
 have HS0:=hidI h
 have HPA:Hid (pStmt c.l (f+1) n p.es=(if stmtOf (brkW c.l n)=0 then .error (frm c.l n).p else match contentP c.l (takeP c.l (pE c.l) (pAct c.l) (pStmt c.l f)) (stmtSh (stmtOf (brkW c.l n))) n (brkK c.l n) p.es with
  | .error p=>.error p
  | .ok (k,q')=>addS q' ⟨stmtOf (brkW c.l n),k.name,k.op,k.e,k.cond,k.acts,k.thn,k.els⟩)):=hidI rfl
 clear h
 obtain ⟨x,hx⟩:∃ x,c.fs[n]?=some x:=⟨_,List.getElem?_eq_getElem hn⟩
 have HX:=hidI hx
 have hfx:(frm c.l n).p=x.1.p:=by rw [Cx.frm_at hx]
 have hbs:=brkW_sz hc hn
 have hzs:=hc.brk_sz hn
 have hbl:=hc.brk_lt hn
 have hbk:=hc.brk_len hn
 have HBS:=hidI hbs
 have CB:=hidI (fun W (hW:RdS c p (X) W)=>brk_any hc hW hn)
 obtain ⟨s,hss⟩:∃ s,brkW c.l n=s:=⟨_,rfl⟩
 obtain ⟨ks,hks⟩:∃ ks,brkK c.l n=ks:=⟨_,rfl⟩
 have HB2:Hid (∀ W,RdS c p (X) W→Calls Tryz.prog 90 #[.pointer (some ⟨c.B,0,none⟩),.int .i64 (n:Int)] W fun e w'=>∃ a2 cp2,e=.returned (.tuple #[.string s,.slice a2 ks.length cp2])∧SeesK c.w0 (.slice a2 ks.length cp2) ks∧Below W.heap.size W w'):=hidI (fun W hW=>(CB.out W hW).mono (by
  rintro e w' ⟨kv,rfl,hK,hb⟩
  rw [hss,hks] at *
  obtain ⟨_,a2,cp2,hkv,_⟩:=id hK
  subst hkv
  exact ⟨a2,cp2,rfl,hK,hb⟩))
 rw [hss,hks] at HPA
 rw [hss] at HBS
 rw [hks] at hzs hbl hbk
 rw [hfx] at HPA
 clear CB hbs hx hfx
 have HLK:Hid (∀ W,RdS c p (X) W→(Instr.lookup 101 (.map (some c.vo.s)) (.string s) true).run Tryz.prog W=.ok (.tuple #[.int .u8 (stmtOf s:Int),.bool (decide (stmtOf s≠0))]) W):=hidI (fun W hW=>look_stmt hc hW.below HBS.out)
 by_cases hx0:stmtOf s=0
 ·have HR:Hid (pStmt c.l (f+1) n p.es=.error x.1.p):=hidI (by rw [HPA.out,if_pos hx0])
  rw [hx0] at HLK
  have CM:Hid (∀ W,RdS c p (X) W→Calls Tryz.prog 91 #[.pointer (some ⟨c.B,0,none⟩),.bool false,.int .i64 (n:Int)] W fun e w'=>e=.panicked (flt2 x.1.p)∧W=w'):=hidI (fun W hW=>zcV hc hW HX.out)
  clear HPA hx0 hbl hbk hzs hks hss
  go_enter Tryz.func93,Tryz.ntmps93
  go_wp2_with (first
   | (go_at_call 90;refine Calls.mono (HB2.out _ HS0.out) ?_;intro e w2 h2;obtain ⟨a2,cp2,rfl,hK2,hb2⟩:=h2;clear HB2;have HK2:=hidI hK2;clear hK2;have HS2:=hidI (HS0.out.on hb2);have m4:=HS2.out.cell (j:=1) (u:=.map (some c.vo.s)) rfl;have lk:=HLK.out _ HS2.out)
   | (go_at_call 91;refine Calls.mono (CM.out _ HS2.out) ?_;intro e w3 h3;obtain ⟨rfl,rfl⟩:=h3;clear CM))
  refine ⟨rfl,?_⟩
  rw [HR.out]
  exact ⟨rfl,HS2.out.bad (.refl _)⟩
 ·have hxl:=stmtOf_le s
  obtain ⟨kk,hkk⟩:∃ kk,stmtOf s=kk:=⟨_,rfl⟩
  rw [hkk] at hx0 hxl HLK HPA
  rw [decide_eq_true hx0] at HLK
  obtain ⟨as1,as2,as3,as4⟩:=stmtSh_asc kk (by omega) (by omega)
  have HTK:TK c (takeP c.l (pE c.l) (pAct c.l) (pStmt c.l f)) (ptL (stmtPt kk)) ks:=by
   rw [as3]
   exact tk_take hc as4 (fun k hk=>(hbl k hk).2) (bd_expr hc _) (bd_act hc) (bd_stmt hc f) (fun _ k hk=>expr_any hc (hbl k hk).2) (fun _ k hk=>act_any hc (hbl k hk).2) (fun _ k hk=>HST k (hbl k hk).1 (hbl k hk).2) (fun _ k hk m hm=>HST m (by have h1:=(hbl k hk).1;have h2:=(hc.kids_lt (hbl k hk).2 m hm).1;omega) (hc.kids_lt (hbl k hk).2 m hm).2)
  clear as4 HST
  have CSh:=hidI (fun W=>stmtSh_any kk (by omega) (by omega) W)
  have CC:=hidI (fun W kv hW hK=>zdT hc (tk:=takeP c.l (pE c.l) (pAct c.l) (pStmt c.l f)) (ks:=ks) (kv:=kv) (sw:=stmtWd kk) (sp:=stmtPt kk) as1 as2 hK hbk (fun k hk=>(hbl k hk).2) HTK (p:=p) (X:=X) (w:=W) hW hn (by omega))
  rw [as3] at CC
  have CM:=hidI (fun W=>must_ok (.pointer (some ⟨c.B,0,none⟩)) (n:Int) W)
  obtain ⟨sw,hsw⟩:∃ sw,stmtWd kk=sw:=⟨_,rfl⟩
  obtain ⟨sp,hsp⟩:∃ sp,stmtPt kk=sp:=⟨_,rfl⟩
  rw [hsw,hsp] at CSh CC
  have HKK:=hidI hx0
  clear as1 as2 as3 HTK hsw hsp hx0 hxl hkk hbl hzs hks hss
  cases hr:contentP c.l (takeP c.l (pE c.l) (pAct c.l) (pStmt c.l f)) (stmtSh kk) n ks p.es with
  | error q=>
   have HR:Hid (pStmt c.l (f+1) n p.es=.error q):=hidI (by rw [HPA.out,if_neg HKK.out,hr])
   rw [hr] at CC
   clear hr HPA
   go_enter Tryz.func93,Tryz.ntmps93
   go_wp2_with (first
    | (go_at_call 90;refine Calls.mono (HB2.out _ HS0.out) ?_;intro e w2 h2;obtain ⟨a2,cp2,rfl,hK2,hb2⟩:=h2;clear HB2;have HK2:=hidI hK2;clear hK2;have HS2:=hidI (HS0.out.on hb2);have m4:=HS2.out.cell (j:=1) (u:=.map (some c.vo.s)) rfl;have lk:=HLK.out _ HS2.out)
    | (go_at_call 91;refine Calls.mono (CM.out _) ?_;intro e w3 h3;obtain ⟨rfl,rfl⟩:=h3;clear CM)
    | (go_at_call 79;refine Calls.mono (CSh.out _) ?_;intro e w4 h4;obtain ⟨rfl,hb4⟩:=h4;clear CSh;have HS4:=hidI (HS2.out.on hb4))
    | (go_at_call 92;refine Calls.mono (CC.out _ _ HS4.out HK2.out) ?_;intro e w5 h5;obtain ⟨rfl,hb5⟩:=h5;clear CC))
   refine ⟨rfl,?_⟩
   rw [HR.out]
   exact ⟨rfl,hb5.sub (.refl _)⟩
  | ok y=>
   obtain ⟨k,q⟩:=y
   have HR:Hid (pStmt c.l (f+1) n p.es=.ok ((q.2.length:Int),(q.1,q.2++[⟨kk,k.name,k.op,k.e,k.cond,k.acts,k.thn,k.els⟩]))):=hidI (by rw [HPA.out,if_neg HKK.out,hr];rfl)
   have hq:q.2.length≤999:=by
    have:=bd_stmt hc (f+1) n _ _ _ hn HR.out
    simp only [NQ,List.length_append,List.length_cons,List.length_nil] at this hN
    omega
   rw [hr] at CC
   clear hr HPA
   go_enter Tryz.func93,Tryz.ntmps93
   go_wp2_with (first
    | (go_at_call 90;refine Calls.mono (HB2.out _ HS0.out) ?_;intro e w2 h2;obtain ⟨a2,cp2,rfl,hK2,hb2⟩:=h2;clear HB2;have HK2:=hidI hK2;clear hK2;have HS2:=hidI (HS0.out.on hb2);have m4:=HS2.out.cell (j:=1) (u:=.map (some c.vo.s)) rfl;have lk:=HLK.out _ HS2.out)
    | (go_at_call 91;refine Calls.mono (CM.out _) ?_;intro e w3 h3;obtain ⟨rfl,rfl⟩:=h3;clear CM)
    | (go_at_call 79;refine Calls.mono (CSh.out _) ?_;intro e w4 h4;obtain ⟨rfl,hb4⟩:=h4;clear CSh;have HS4:=hidI (HS2.out.on hb4))
    | (go_at_call 92;refine Calls.mono (CC.out _ _ HS4.out HK2.out) ?_;intro e w5 h5;obtain ⟨p5,av,tv,ev,rfl,hb5⟩:=h5;clear CC;refine Hid.out ?_))
   obtain ⟨hes5,hds5,hms5,hS5⟩:=hb5
   obtain ⟨aa,ac,hav⟩:∃ aa ac,av=.slice aa k.acts.length ac:=zaE (RowsP.head (r:=aRow av k.acts) hS5.first)
   obtain ⟨ta,tc,htv⟩:∃ ta tc,tv=.slice ta k.thn.length tc:=zaE (RowsP.head (r:=iRow tv k.thn) hS5.less.first)
   obtain ⟨ea,ec,hev⟩:∃ ea ec,ev=.slice ea k.els.length ec:=zaE (RowsP.head (r:=iRow ev k.els) hS5.less.less.first)
   subst hav htv hev
   have hsl:p5.ss.length=q.2.length:=by rw [←hes5];simp [PV.es]
   have HSL:=hidI hsl
   have HS5:=hidI hS5
   have HP5:=hidI (And.intro hes5 (And.intro hds5 hms5))
   have hsz:=hS5.size
   clear hes5 hds5 hms5 hS5 HS2 HS4 m4 lk hb2 hb4
   refine hidI ?_
   go_wp2
   have s2:=HS5.out.alloc (.cells #[.string k.name,.int .u8 (k.op:Int),.bool k.inn,.int .i64 k.e,.int .i64 k.cond,.slice aa k.acts.length ac,.slice ta k.thn.length tc,.slice ea k.els.length ec] 170)
   have HS6:=hidI s2.drew
   have x0:(w5.alloc (.cells #[.string k.name,.int .u8 (k.op:Int),.bool k.inn,.int .i64 k.e,.int .i64 k.cond,.slice aa k.acts.length ac,.slice ta k.thn.length tc,.slice ea k.els.length ec] 170)).drew.cell? ⟨w5.heap.size,0,none⟩=some (.string k.name):=by go_simp
   have x1:(w5.alloc (.cells #[.string k.name,.int .u8 (k.op:Int),.bool k.inn,.int .i64 k.e,.int .i64 k.cond,.slice aa k.acts.length ac,.slice ta k.thn.length tc,.slice ea k.els.length ec] 170)).drew.cell? ⟨w5.heap.size,1,none⟩=some (.int .u8 (k.op:Int)):=by go_simp
   have x3:(w5.alloc (.cells #[.string k.name,.int .u8 (k.op:Int),.bool k.inn,.int .i64 k.e,.int .i64 k.cond,.slice aa k.acts.length ac,.slice ta k.thn.length tc,.slice ea k.els.length ec] 170)).drew.cell? ⟨w5.heap.size,3,none⟩=some (.int .i64 k.e):=by go_simp
   have x4:(w5.alloc (.cells #[.string k.name,.int .u8 (k.op:Int),.bool k.inn,.int .i64 k.e,.int .i64 k.cond,.slice aa k.acts.length ac,.slice ta k.thn.length tc,.slice ea k.els.length ec] 170)).drew.cell? ⟨w5.heap.size,4,none⟩=some (.int .i64 k.cond):=by go_simp
   have x5:(w5.alloc (.cells #[.string k.name,.int .u8 (k.op:Int),.bool k.inn,.int .i64 k.e,.int .i64 k.cond,.slice aa k.acts.length ac,.slice ta k.thn.length tc,.slice ea k.els.length ec] 170)).drew.cell? ⟨w5.heap.size,5,none⟩=some (.slice aa k.acts.length ac):=by go_simp
   have x6:(w5.alloc (.cells #[.string k.name,.int .u8 (k.op:Int),.bool k.inn,.int .i64 k.e,.int .i64 k.cond,.slice aa k.acts.length ac,.slice ta k.thn.length tc,.slice ea k.els.length ec] 170)).drew.cell? ⟨w5.heap.size,6,none⟩=some (.slice ta k.thn.length tc):=by go_simp
   have x7:(w5.alloc (.cells #[.string k.name,.int .u8 (k.op:Int),.bool k.inn,.int .i64 k.e,.int .i64 k.cond,.slice aa k.acts.length ac,.slice ta k.thn.length tc,.slice ea k.els.length ec] 170)).drew.cell? ⟨w5.heap.size,7,none⟩=some (.slice ea k.els.length ec):=by go_simp
   refine regS (B:=c.B) (eb:=w5.heap.size) (base:=c.w0.heap.size) (n:=p5.ss.length) (u:=p5.sv) (xs:=flatS p5.ss) (HS6.out.cell (j:=8) rfl) x0 x1 x3 x4 x5 x6 x7 (HS6.out.free 8) HS6.out.sown.head (by omega) HS6.out.size (box_apart HS6.out.sown) (fun e=>by have:=(HS5.out.sown.head.lt _ e).2;omega) (by
    intro v hv
    simp only [List.mem_cons,List.not_mem_nil,or_false] at hv
    rcases hv with rfl|rfl|rfl|rfl|rfl|rfl|rfl|rfl<;>rfl) (fun _ _ _ _ _ h=>h) ?_
   intro W5 u' t36 t37 t38 t39 t40 t41 t42 t43 t44 t45 t46 t47 t48 t49 t50 t51 t52 t53 t54 t55 t56 t57 t58 t59 t60 t61 t62 hg ho ha
   have s5:=RdS.addS (s:=⟨⟨kk,k.name,k.op,k.e,k.cond,k.acts,k.thn,k.els⟩,.slice aa k.acts.length ac,.slice ta k.thn.length tc,.slice ea k.els.length ec⟩) (HS6.out.alloc (.cells #[.int .u8 (kk:Int),.string k.name,.int .u8 (k.op:Int),.int .i64 k.e,.int .i64 k.cond,.slice aa k.acts.length ac,.slice ta k.thn.length tc,.slice ea k.els.length ec] 78)) hg ho (by simpa using ha)
   have HS7:=hidI s5
   obtain ⟨ua,uc,hu⟩:∃ ua uc,u'=.slice ua (p5.ss.length+1) uc:=zaE ho
   subst hu
   have c7:=s5.cell (j:=8) (u:=.slice ua (p5.ss.length+1) uc) rfl
   have hl2:p5.ss.length≤1000:=by omega
   obtain ⟨W6,hW6⟩:∃ W6,W5.setCell ⟨c.B,8,none⟩ (.slice ua (p5.ss.length+1) uc)=W6:=⟨_,rfl⟩
   rw [hW6] at HS7 c7 ⊢
   clear hg ho ha s5 s2 x0 x1 x3 x4 x5 x6 x7 HS6 hW6
   go_wp2
   go_ret
   rw [HR.out]
   refine ⟨?_,{ p5 with ss:=p5.ss++[⟨⟨kk,k.name,k.op,k.e,k.cond,k.acts,k.thn,k.els⟩,.slice aa k.acts.length ac,.slice ta k.thn.length tc,.slice ea k.els.length ec⟩],sv:=.slice ua (p5.ss.length+1) uc },?_,HP5.out.2.1,HP5.out.2.2,HS7.out⟩
   ·rw [←HSL.out];rfl
   ·show (p5.xs.map Prod.fst,(p5.ss++[_]).map SV.s)=(q.1,q.2++[_])
    rw [←HP5.out.1]
    simp [PV.es]
theorem stmt_all {c:Cx} (hc:c.Ok):∀ (f n:Nat),n<c.fs.length→c.fs.length-n≤f→RC c 93 n rI (pStmt c.l f)
 | 0,n,h1,h2=>by omega
 | f+1,n,h1,h2=>stmt_step hc h1 (fun m hm hl=>stmt_all hc f m hl (by omega))
theorem stmt_any {c:Cx} (hc:c.Ok) {n:Nat} (hn:n<c.fs.length):RC c 93 n rI (pStmt c.l (big c.l)):=stmt_all hc (big c.l) n hn (by unfold big Cx.l;rw [List.length_map];omega)
def PV.prg (p:PV):Prg:=⟨p.ds,p.xs.map Prod.fst,p.ss.map SV.s,p.ms⟩
def AllPost (c:Cx) (X:List Rw) (r:Except Int Prg) (e:Ending) (w':World):Prop:=
 match r with
 | .error q=>e=.panicked (flt2 q)∧Bad c X w'
 | .ok P=>e=.returned (.tuple #[])∧∃ p',p'.prg=P∧RdS c p' X w'
theorem content110 {l:List Frm} {ex st:RdE Int} {ac:RdE Actn} {n:Nat} {ks:List Nat} {q q':ES} {k:Ctn} (h:contentP l (takeP l ex ac st) [110] n ks q=.ok (k,q')):q'=q:=by
 unfold contentP at h
 split at h
 ·rename_i hf
  have hl:ks.length=1:=by
   have:=hf.1
   unfold fitsP at this
   rw [decide_eq_true_eq] at this
   simp [leastP,mostP] at this
   omega
  obtain ⟨a,rfl⟩:=List.length_eq_one_iff.1 hl
  simp only [takesP,nthP,takeP] at h
  simp only [List.length_cons,List.length_nil,Nat.zero_add,Nat.sub_self,Nat.min_self,List.getD_cons_zero,if_true] at h
  split at h
  ·cases h
  ·rename_i c' q1 h1
   simp only [Except.ok.injEq,Prod.mk.injEq] at h
   obtain ⟨_,rfl⟩:=h
   split at h1
   ·simp only [Except.ok.injEq,Prod.mk.injEq] at h1
    exact h1.2.symm
   ·cases h1
 ·cases h
theorem declOf_le {s:ByteArray} {sd kd:Nat} (h:declOf s=some (sd,kd)):1≤sd∧sd≤3∧1≤kd∧kd≤2:=by
 unfold declOf at h
 repeat' split at h
 all_goals first
  | (cases h;done)
  | (simp only [Option.some.injEq,Prod.mk.injEq] at h;obtain ⟨rfl,rfl⟩:=h;omega)
theorem field148 (s:ByteArray) (a b:Value) (i:Bool) (e f:Int) (a1 a2 a3:Option Addr) (l1 c1 l2 c2 l3 c3:Nat) (hb:b=.bool i) (u:World):(Instr.field 170 (.agg #[.string s,a,b,.int .i64 e,.int .i64 f,.slice a1 l1 c1,.slice a2 l2 c2,.slice a3 l3 c3]) 0).run Tryz.prog u=.ok (.string s) u:=by
 subst hb
 kernel_rfl
def dBox (db:Nat) (sd kd:Nat):Rw:=⟨bx db,56,3,1,[.string ⟨#[]⟩,.int .u8 (sd:Int),.int .u8 (kd:Int)]⟩
theorem asc110:(∀ (i:Nat) (h:i<(⟨#[110]⟩:ByteArray).size),((⟨#[110]⟩:ByteArray)[i]'h).toNat<128)∧(⟨#[110]⟩:ByteArray).size≤10∧ptL ⟨#[110]⟩=[110]:=⟨by decide,by decide,by decide +kernel⟩
theorem pTop_drop (l:List Frm) (ts:List Nat) (j n:Nat) (P:Prg) (h:ts[j]?=some n):pTop l (ts.drop j) P=(match declOf (brkW l n) with
  | some (sd,kd)=>
   if P.main≠[] then .error (frm l n).p
   else match contentP l (takeP l (noE l) (noE l) (noE l)) [110] n (brkK l n) (P.exprs,P.stmts) with
    | .error e=>.error e
    | .ok (c,_)=>pTop l (ts.drop (j+1)) { P with decls:=P.decls++[⟨c.name,sd,kd⟩] }
  | none=>match pStmt l (big l) n (P.exprs,P.stmts) with
   | .error e=>.error e
   | .ok (i,q)=>pTop l (ts.drop (j+1)) { P with exprs:=q.1,stmts:=q.2,main:=P.main++[i] }):=by
 have hj:=(List.getElem?_eq_some_iff.1 h).1
 have hv:=(List.getElem?_eq_some_iff.1 h).2
 rw [List.drop_eq_getElem_cons hj,hv]
 simp only [pTop]
 rfl
set_option maxHeartbeats 4000000 in
theorem all_any {c:Cx} (hc:c.Ok) {ts:List Nat} {tv:Value} (ht:SeesK c.w0 tv ts) (htl:ts.length≤400) (hlt:∀ k∈ts,k<c.fs.length) {p:PV} {X:List Rw} {w:World} (h:RdS c p X w) (hd0:p.ds.length=0) (hm0:p.ms.length=0) (hN:NQ p.es+(ts.map c.sz).sum≤1000) :
  Calls Tryz.prog 50 #[.pointer (some ⟨c.B,0,none⟩),tv] w (AllPost c X (pTop c.l ts p.prg)):=by
 obtain ⟨_,a,cap,rfl,_⟩:=id ht
 obtain ⟨m,hm⟩:∃ m,ts.length=m:=⟨_,rfl⟩
 have HM:=hidI hm
 have HT:=hidI ht
 have HH:=hidI h
 have HNN:=hidI hN
 have HLT:=hidI hlt
 rw [hm] at htl
 rw [hm]
 clear hm ht hN hlt h
 go_enter Tryz.func50,Tryz.ntmps50
 go_wp2
 go_loopg [12] m (fun g s12 wx=>∃ (j:Nat) (pj:PV),j+g=m∧s12=.int .i64 (j:Int)∧Hid (pTop c.l ts p.prg=pTop c.l (ts.drop j) pj.prg)∧Hid (pj.ds.length≤j∧pj.ms.length≤j∧NQ pj.es≤NQ p.es+((ts.take j).map c.sz).sum)∧Hid (RdS c pj X wx))
 case atStart=>exact ⟨0,p,by omega,rfl,hidI rfl,hidI ⟨by omega,by omega,by simp⟩,HH⟩
 case round=>
  obtain ⟨j,pj,hjg,rfl,HTP,HD,HS⟩:=hrel
  clear HH
  cases gk with
  | zero=>
   obtain rfl:m=j:=by omega
   have k1:decide ((m:Int)<(m:Int))=false:=by simp
   have HRES:Hid (pTop c.l ts p.prg=.ok pj.prg):=hidI (by
    rw [HTP.out,List.drop_of_length_le (by have:=HM.out;omega)]
    rfl)
   go_wp2
   go_end0
   rw [HRES.out]
   exact ⟨rfl,pj,rfl,HS.out⟩
  | succ g=>
   have k1:(j:Int)<(m:Int):=by omega
   obtain ⟨n,hnj⟩:∃ n,ts[j]?=some n:=⟨_,List.getElem?_eq_getElem (by have:=HM.out;omega)⟩
   have hn:=HLT.out n (List.mem_of_getElem? hnj)
   obtain ⟨_,a',cap',hav,hcell⟩:=HS.out.seesK HT.out
   rw [HM.out] at hav
   cases hav
   rcases hcell with h0|⟨b,o,rfl,hcell⟩
   ·have:=HM.out;omega
   have x0:=hcell j _ (ints_get hnj)
   have HTD:=hidI (pTop_drop c.l ts j n pj.prg hnj)
   have HTS:Hid (((ts.take (j+1)).map c.sz).sum=((ts.take j).map c.sz).sum+c.sz n):=hidI (by rw [List.take_add_one,hnj];simp)
   have hbud:NQ pj.es+c.sz n≤1000:=by
    have a1:=HD.out.2.2
    have a2:=take_sum_le c.sz ts j n hnj
    have:=HNN.out
    omega
   obtain ⟨x,hx⟩:∃ x,c.fs[n]?=some x:=⟨_,List.getElem?_eq_getElem hn⟩
   have HX:=hidI hx
   have HFX:Hid ((frm c.l n).p=x.1.p):=hidI (by rw [Cx.frm_at hx])
   have hbs:=brkW_sz hc hn
   have hzs:=hc.brk_sz hn
   have hbl:=hc.brk_lt hn
   have hbk:=hc.brk_len hn
   have HBS:=hidI hbs
   have CB:=hidI (fun W (hW:RdS c pj X W)=>brk_any hc hW hn)
   have HSM:=hidI (stmt_any hc hn)
   obtain ⟨s,hss⟩:∃ s,brkW c.l n=s:=⟨_,rfl⟩
   obtain ⟨ks,hks⟩:∃ ks,brkK c.l n=ks:=⟨_,rfl⟩
   have HB2:Hid (∀ W,RdS c pj X W→Calls Tryz.prog 90 #[.pointer (some ⟨c.B,0,none⟩),.int .i64 (n:Int)] W fun e w'=>∃ a2 cp2,e=.returned (.tuple #[.string s,.slice a2 ks.length cp2])∧SeesK c.w0 (.slice a2 ks.length cp2) ks∧Below W.heap.size W w'):=hidI (fun W hW=>(CB.out W hW).mono (by
    rintro e w' ⟨kv,rfl,hK,hb⟩
    rw [hss,hks] at *
    obtain ⟨_,a2,cp2,hkv,_⟩:=id hK
    subst hkv
    exact ⟨a2,cp2,rfl,hK,hb⟩))
   rw [hss,hks,HFX.out] at HTD
   rw [hss] at HBS
   rw [hks] at hzs hbl hbk
   have HLK:=hidI (fun W (hW:RdS c pj X W)=>look_decl hc hW.below HBS.out)
   clear CB hbs hx hcell hnj hss hks
   cases hdc:declOf s with
   | some sk=>
    obtain ⟨sd,kd⟩:=sk
    obtain ⟨v1,v2,v3,v4⟩:=declOf_le hdc
    rw [hdc] at HTD HLK
    simp only [decV,Option.getD_some,Option.isSome_some] at HLK
    clear hdc
    have asc:=asc110
    have HTK:TK c (takeP c.l (noE c.l) (noE c.l) (noE c.l)) (ptL ⟨#[110]⟩) ks:=by
     rw [asc.2.2]
     exact tk_take hc (by decide) (fun k hk=>(hbl k hk).2) zdJ zdJ zdJ (fun h=>absurd h (by decide)) (fun h=>absurd h (by decide)) (fun h=>absurd h (by decide)) (fun h=>absurd h (by decide))
    have CSh:=hidI (fun W=>declSh_any sd kd v1 v2 v3 v4 W)
    have CC:=hidI (fun (W:World) kv db (hW:RdS c pj (dBox db sd kd::X) W) hK=>zdT hc (tk:=takeP c.l (noE c.l) (noE c.l) (noE c.l)) (ks:=ks) (kv:=kv) (sw:=dWd ((sd-1)*2+(kd-1))) (sp:=⟨#[110]⟩) asc.1 asc.2.1 hK hbk (fun k hk=>(hbl k hk).2) HTK (p:=pj) (X:=dBox db sd kd::X) (w:=W) hW hn (by omega))
    rw [asc.2.2] at CC
    obtain ⟨sw,hsw⟩:∃ sw,dWd ((sd-1)*2+(kd-1))=sw:=⟨_,rfl⟩
    rw [hsw] at CSh CC
    have HBX:Hid (∀ W,RdS c pj X W→RdS c pj (dBox W.heap.size sd kd::X) (W.alloc (.cells #[.string ⟨#[]⟩,.int .u8 (sd:Int),.int .u8 (kd:Int)] 56))):=hidI (fun W hW=>RdS.more (hW.alloc _) (hW.rows.add (r:=dBox W.heap.size sd kd) (hW.rows.alloc _) (zcK W c.w0.heap.size 56 3 #[.string ⟨#[]⟩,.int .u8 (sd:Int),.int .u8 (kd:Int)] hW.size rfl) (fun k hk=>by cases hk;exact Nat.le_refl _)))
    obtain ⟨ma,mc,hmv⟩:∃ ma mc,pj.mv=.slice ma pj.ms.length mc:=zaE HS.out.mown.head
    have hdl:pj.ds.length≤1000:=by have:=HD.out.1;omega
    clear asc HTK hsw hbl hbk hzs v1 v2 v3 v4 HSM
    by_cases hmain:pj.ms=[]
    ·have hml:pj.ms.length=0:=by rw [hmain];rfl
     have CM:=hidI (fun W=>must_ok (.pointer (some ⟨c.B,0,none⟩)) (n:Int) W)
     rw [hml] at hmv
     have HMV:=hidI hmv
     have HMN:Hid (pj.prg.main=[]):=hidI hmain
     clear hmain hml hmv
     cases hr:contentP c.l (takeP c.l (noE c.l) (noE c.l) (noE c.l)) [110] n ks pj.es with
     | error q=>
      have HRES:Hid (pTop c.l ts p.prg=.error q):=hidI (by
       rw [HTP.out,HTD.out]
       have:contentP c.l (takeP c.l (noE c.l) (noE c.l) (noE c.l)) [110] n ks (pj.prg.exprs,pj.prg.stmts)=.error q:=hr
       simp only [this,HMN.out,ne_eq,not_true_eq_false,if_false])
      rw [hr] at CC
      clear hr HTD
      go_wp2_with (first
       | (go_at_call 90;refine Calls.mono (HB2.out _ HS.out) ?_;intro e w2 h2;obtain ⟨a2,cp2,rfl,hK2,hb2⟩:=h2;clear HB2;have HK2:=hidI hK2;clear hK2;have HS2:=hidI (HS.out.on hb2);have m4:=HS2.out.cell (j:=0) (u:=.map (some c.vo.d)) rfl;have lk:=HLK.out _ HS2.out;have HS3:=hidI (HBX.out _ HS2.out);have m9:=HS3.out.cell (j:=9) (u:=pj.mv) rfl;rw [HMV.out] at m9)
       | (go_at_call 91;refine Calls.mono (CM.out _) ?_;intro e w3 h3;obtain ⟨rfl,rfl⟩:=h3;clear CM)
       | (go_at_call 88;refine Calls.mono (CSh.out _) ?_;intro e w4 h4;obtain ⟨rfl,hb4⟩:=h4;clear CSh;have HS4:=hidI (HS3.out.on hb4))
       | (go_at_call 92;refine Calls.mono (CC.out _ _ _ HS4.out HK2.out) ?_;intro e w5 h5;obtain ⟨rfl,hb5⟩:=h5;clear CC))
      refine ⟨rfl,?_⟩
      rw [HRES.out]
      exact ⟨rfl,hb5.sub (.cons _ (.refl _))⟩
     | ok y=>
      obtain ⟨k,q⟩:=y
      have hqe:=content110 hr
      have HTP2:Hid (pTop c.l ts p.prg=pTop c.l (ts.drop (j+1)) { pj.prg with decls:=pj.prg.decls++[⟨k.name,sd,kd⟩] }):=hidI (by
       rw [HTP.out,HTD.out]
       have:contentP c.l (takeP c.l (noE c.l) (noE c.l) (noE c.l)) [110] n ks (pj.prg.exprs,pj.prg.stmts)=.ok (k,q):=hr
       simp only [this,HMN.out,ne_eq,not_true_eq_false,if_false])
      rw [hr] at CC
      have HQE:=hidI hqe
      clear hr HTD hqe
      go_wp2_with (first
       | (go_at_call 90;refine Calls.mono (HB2.out _ HS.out) ?_;intro e w2 h2;obtain ⟨a2,cp2,rfl,hK2,hb2⟩:=h2;clear HB2;have HK2:=hidI hK2;clear hK2;have HS2:=hidI (HS.out.on hb2);have m4:=HS2.out.cell (j:=0) (u:=.map (some c.vo.d)) rfl;have lk:=HLK.out _ HS2.out;have HS3:=hidI (HBX.out _ HS2.out);have m9:=HS3.out.cell (j:=9) (u:=pj.mv) rfl;rw [HMV.out] at m9)
       | (go_at_call 91;refine Calls.mono (CM.out _) ?_;intro e w3 h3;obtain ⟨rfl,rfl⟩:=h3;clear CM)
       | (go_at_call 88;refine Calls.mono (CSh.out _) ?_;intro e w4 h4;obtain ⟨rfl,hb4⟩:=h4;clear CSh;have HS4:=hidI (HS3.out.on hb4))
       | (go_at_call 92;refine Calls.mono (CC.out _ _ _ HS4.out HK2.out) ?_;intro e w5 h5;obtain ⟨p5,av,tv,ev,rfl,hb5⟩:=h5;clear CC;refine Hid.out ?_))
      obtain ⟨hes5,hds5,hms5,hS5⟩:=hb5
      obtain ⟨aa,ac,hav⟩:∃ aa ac,av=.slice aa k.acts.length ac:=zaE (RowsP.head (r:=aRow av k.acts) hS5.first)
      obtain ⟨ta,tc,htv⟩:∃ ta tc,tv=.slice ta k.thn.length tc:=zaE (RowsP.head (r:=iRow tv k.thn) hS5.less.first)
      obtain ⟨ea,ec,hev⟩:∃ ea ec,ev=.slice ea k.els.length ec:=zaE (RowsP.head (r:=iRow ev k.els) hS5.less.less.first)
      subst hav htv hev
      have s6:RdS c p5 (dBox w2.heap.size sd kd::X) w5:=hS5.less.less.less
      have hr:=RowsP.head (r:=dBox w2.heap.size sd kd) s6.first
      have b0:=zaB hr (j:=0) rfl
      have f0:=zaQ hr 0
      have hf:=field148 k.name (.int .u8 (k.op:Int)) (.bool k.inn) k.inn k.e k.cond aa ta ea k.acts.length ac k.thn.length tc k.els.length ec rfl
      have s7:RdS c p5 (⟨bx w2.heap.size,56,3,1,[.string k.name,.int .u8 (sd:Int),.int .u8 (kd:Int)]⟩::X) (w5.setCell ⟨w2.heap.size,0,none⟩ (.string k.name)):=RdS.setbox (j:=0) s6 (.string k.name)
      have HS7:=hidI s7.drew
      have HP5:=hidI (And.intro hes5 (And.intro hds5 hms5))
      have hdl5:p5.ds.length≤1000:=by
       simp only [Prod.mk.injEq] at hds5
       rw [hds5.1];exact hdl
      clear hS5 s6 s7 hr hes5 hds5 hms5 HS3 HS4 m4 m9 lk hb4
      obtain ⟨db,hdb⟩:∃ db,w2.heap.size=db:=⟨_,rfl⟩
      rw [hdb] at b0 f0 HS7 ⊢
      clear hdb
      refine hidI ?_
      go_wp2
      have hr7:=RowsP.head (r:=⟨bx db,56,3,1,[.string k.name,.int .u8 (sd:Int),.int .u8 (kd:Int)]⟩) HS7.out.first
      refine regD (B:=c.B) (eb:=db) (base:=c.w0.heap.size) (n:=p5.ds.length) (u:=p5.dv) (xs:=flatD p5.ds) (HS7.out.cell (j:=6) rfl) (zaB hr7 (j:=0) rfl) (zaB hr7 (j:=1) rfl) (zaB hr7 (j:=2) rfl) (HS7.out.free 6) HS7.out.down.head hdl5 HS7.out.size (box_apart HS7.out.down) (by
       rcases HS7.out.down.far_head ⟨bx db,56,3,1,[.string k.name,.int .u8 (sd:Int),.int .u8 (kd:Int)]⟩ (by simp) with e|e
       ·rw [show p5.dv.ownBlock=none from e];simp
       ·exact e) (by
       intro v hv
       simp only [List.mem_cons,List.not_mem_nil,or_false] at hv
       rcases hv with rfl|rfl|rfl<;>rfl) (fun _ _ _ _ _ h=>h) ?_
      intro W5 u' t54 t55 t56 t57 t58 t59 t60 t61 t62 t63 t64 t65 hg ho ha
      have s9:=RdS.addD (d:=⟨k.name,sd,kd⟩) (HS7.out.less.alloc (.cells #[.string k.name,.int .u8 (sd:Int),.int .u8 (kd:Int)] 56)) hg ho (by simpa using ha)
      have HS9:=hidI s9
      have HTP9:Hid (pTop c.l ts p.prg=pTop c.l (ts.drop (j+1)) (PV.prg { p5 with ds:=p5.ds++[⟨k.name,sd,kd⟩],dv:=u' })):=hidI (by
       rw [HTP2.out]
       obtain ⟨h1,h2,h3⟩:=HP5.out
       simp only [Prod.mk.injEq] at h2 h3
       have e1:p5.xs.map Prod.fst=pj.xs.map Prod.fst:=by
        have:=congrArg Prod.fst (h1.trans HQE.out)
        exact this
       have e2:p5.ss.map SV.s=pj.ss.map SV.s:=by
        have:=congrArg Prod.snd (h1.trans HQE.out)
        exact this
       simp only [PV.prg,e1,e2,h2.1,h3.1])
      have HD9:Hid ((p5.ds++[(⟨k.name,sd,kd⟩:Dcl)]).length≤j+1∧p5.ms.length≤j+1∧NQ p5.es≤NQ p.es+((ts.take (j+1)).map c.sz).sum):=hidI (by
       obtain ⟨d1,d2,d3⟩:=HD.out
       obtain ⟨h1,h2,h3⟩:=HP5.out
       simp only [Prod.mk.injEq] at h2 h3
       rw [h2.1,h3.1,h1,HQE.out,HTS.out,List.length_append,List.length_singleton]
       refine ⟨by omega,by omega,by omega⟩)
      clear s9 hg ho ha HP5 hr7 HS7 HTP2 HTP HD HS HS2 HLK HQE b0 f0 hf
      go_wp2
      go_roundg g
      case measure=>omega
      case rel=>exact ⟨j+1,_,by omega,by go_num,HTP9,HD9,HS9⟩
    ·have hml:((pj.ms.length:Int)==0)=false:=by
      rw [beq_eq_false_iff_ne]
      have:0<pj.ms.length:=List.length_pos_iff.2 hmain
      omega
     have HRES:Hid (pTop c.l ts p.prg=.error x.1.p):=hidI (by
      rw [HTP.out,HTD.out]
      have:pj.prg.main≠[]:=hmain
      simp only [if_pos this])
     have CM:Hid (∀ W Y,RdS c pj Y W→Calls Tryz.prog 91 #[.pointer (some ⟨c.B,0,none⟩),.bool false,.int .i64 (n:Int)] W fun e w'=>e=.panicked (flt2 x.1.p)∧W=w'):=hidI (fun W Y hW=>zcV hc hW HX.out)
     have HMV:=hidI hmv
     clear HTD hmain CC hmv
     go_wp2_with (first
      | (go_at_call 90;refine Calls.mono (HB2.out _ HS.out) ?_;intro e w2 h2;obtain ⟨a2,cp2,rfl,hK2,hb2⟩:=h2;clear HB2;have HK2:=hidI hK2;clear hK2;have HS2:=hidI (HS.out.on hb2);have m4:=HS2.out.cell (j:=0) (u:=.map (some c.vo.d)) rfl;have lk:=HLK.out _ HS2.out;have HS3:=hidI (HBX.out _ HS2.out);have m9:=HS3.out.cell (j:=9) (u:=pj.mv) rfl;rw [HMV.out] at m9)
      | (go_at_call 91;refine Calls.mono (CM.out _ _ HS3.out) ?_;intro e w3 h3;obtain ⟨rfl,rfl⟩:=h3;clear CM))
     refine ⟨rfl,?_⟩
     rw [HRES.out]
     exact ⟨rfl,HS3.out.bad (.cons _ (.refl _))⟩
   | none=>
    rw [hdc] at HTD HLK
    simp only [decV,Option.getD_none,Option.isSome_none] at HLK
    clear hdc
    have CS:=hidI (fun W (hW:RdS c pj X W)=>HSM.out pj X W hW hbud)
    have hml:pj.ms.length≤1000:=by have:=HD.out.2.1;omega
    cases hr:pStmt c.l (big c.l) n pj.es with
    | error q=>
     have HRES:Hid (pTop c.l ts p.prg=.error q):=hidI (by
      rw [HTP.out,HTD.out]
      have:pStmt c.l (big c.l) n (pj.prg.exprs,pj.prg.stmts)=.error q:=hr
      simp only [this])
     rw [hr] at CS
     clear hr HTD HSM
     go_wp2_with (go_at_call 90;refine Calls.mono (HB2.out _ HS.out) ?_;intro e w2 h2;obtain ⟨a2,cp2,rfl,hK2,hb2⟩:=h2;clear HB2 hK2;have HS2:=hidI (HS.out.on hb2);have m4:=HS2.out.cell (j:=0) (u:=.map (some c.vo.d)) rfl;have lk:=HLK.out _ HS2.out)
     have s3:=(HS2.out.alloc (.cells #[.string ⟨#[]⟩,.int .u8 0,.int .u8 0] 56)).drew
     refine regMain (B:=c.B) (base:=c.w0.heap.size) (n:=pj.ms.length) (u:=pj.mv) (xs:=intsI pj.ms) (P:=fun _ _=>False) (s3.cell (j:=9) rfl) (by obtain ⟨a,b,e⟩:=zaE s3.mown.head;exact ⟨a,_,b,e⟩) hml (box_apart s3.mown) ((CS.out _ s3).mono fun e w' h=>.inr ⟨_,h.1,fun a ha=>⟨ha,by rw [HRES.out];exact ⟨rfl,h.2⟩⟩⟩) (fun i=>by simp [Value.oneCell']) (fun _ _ _ _ _ h=>h) ?_
     intro i W1 W5 u' t66 t67 t68 t69 t70 t71 t72 t73 t74 t75 t76 t77 t78 t79 hP
     exact hP.elim
    | ok y=>
     obtain ⟨i,q⟩:=y
     have hbq:=bd_stmt hc (big c.l) n _ _ _ hn hr
     have HTP2:Hid (pTop c.l ts p.prg=pTop c.l (ts.drop (j+1)) { pj.prg with exprs:=q.1,stmts:=q.2,main:=pj.prg.main++[i] }):=hidI (by
      rw [HTP.out,HTD.out]
      have:pStmt c.l (big c.l) n (pj.prg.exprs,pj.prg.stmts)=.ok (i,q):=hr
      simp only [this])
     rw [hr] at CS
     clear hr HTD HSM
     go_wp2_with (go_at_call 90;refine Calls.mono (HB2.out _ HS.out) ?_;intro e w2 h2;obtain ⟨a2,cp2,rfl,hK2,hb2⟩:=h2;clear HB2 hK2;have HS2:=hidI (HS.out.on hb2);have m4:=HS2.out.cell (j:=0) (u:=.map (some c.vo.d)) rfl;have lk:=HLK.out _ HS2.out)
     have s3:=(HS2.out.alloc (.cells #[.string ⟨#[]⟩,.int .u8 0,.int .u8 0] 56)).drew
     refine regMain (B:=c.B) (base:=c.w0.heap.size) (n:=pj.ms.length) (u:=pj.mv) (xs:=intsI pj.ms) (P:=fun i' W=>i'=i∧∃ p1,p1.es=q∧(p1.ds,p1.dv)=(pj.ds,pj.dv)∧(p1.ms,p1.mv)=(pj.ms,pj.mv)∧RdS c p1 X W) (s3.cell (j:=9) rfl) (by obtain ⟨a,b,e⟩:=zaE s3.mown.head;exact ⟨a,_,b,e⟩) hml (box_apart s3.mown) ((CS.out _ s3).mono ?_) (fun i=>by simp [Value.oneCell']) (fun _ _ _ _ _ h=>h) ?_
     ·rintro e w' ⟨rfl,p1,h1,h2,h3,hS⟩
      have h3':=h3
      simp only [Prod.mk.injEq] at h3'
      refine .inl ⟨i,rfl,?_,hS.free 9,?_,hS.size,rfl,p1,h1,h2,h3,hS⟩
      ·rw [←h3'.2];exact hS.cell (j:=9) rfl
      ·rw [←h3'.2,←h3'.1];exact hS.mown.head
     ·rintro i' W1 W5 u' t66 t67 t68 t69 t70 t71 t72 t73 t74 t75 t76 t77 t78 t79 ⟨rfl,p1,h1,h2,h3,hS⟩ hg ho ha
      simp only [Prod.mk.injEq] at h2 h3
      rw [←h3.2] at hg ha
      rw [←h3.1] at ho
      have s5:=RdS.addM (i:=i') (hS.alloc (.cells #[.int .i64 i'] 3)) hg ho (by simpa using ha)
      have HS5:=hidI s5
      have HTP5:Hid (pTop c.l ts p.prg=pTop c.l (ts.drop (j+1)) (PV.prg { p1 with ms:=p1.ms++[i'],mv:=u' })):=hidI (by
       rw [HTP2.out]
       have e1:q.1=p1.xs.map Prod.fst:=by rw [←h1];rfl
       have e2:q.2=p1.ss.map SV.s:=by rw [←h1];rfl
       simp only [PV.prg,e1,e2,h2.1,h3.1])
      have HD5:Hid (p1.ds.length≤j+1∧(p1.ms++[i']).length≤j+1∧NQ p1.es≤NQ p.es+((ts.take (j+1)).map c.sz).sum):=hidI (by
       obtain ⟨d1,d2,d3⟩:=HD.out
       rw [h2.1,h3.1,h1,HTS.out,List.length_append,List.length_singleton]
       refine ⟨by omega,by omega,by omega⟩)
      clear s5 hg ho ha h1 h2 h3 hS s3 HTP2 HTP HD HS HS2 m4 lk hb2 HLK CS hbq
      go_wp2
      go_roundg g
      case measure=>omega
      case rel=>exact ⟨j+1,_,by omega,by go_num,HTP5,HD5,HS5⟩
end Go.Proofs.YtmekkhfohmfjkaaGreatDoor
