/-
  Part 16 of the proof: PExpr2, PExpr3.
-/
import Derived.Test.YtmekkhfohmfjkaaGreatDoorSd15
namespace Go.Proofs.YtmekkhfohmfjkaaGreatDoor
open Go.RowKit Go.Deep Go.MapKept
set_option maxHeartbeats 2000000 in
theorem written_op {c:Cx} (hc:c.Ok) {f:Nat} {p:PV} {X:List Rw} {w:World} (h:RdS c p X w) {n:Nat} (hn:n<c.fs.length) (n1:¬ (frm c.l n).k=4) (n2:¬ (frm c.l n).s=⟨#[116,114,117,101]⟩) (n3:¬ (frm c.l n).s=⟨#[102,97,108,115,101]⟩) (n4:¬ nmOk (frm c.l n).s=true) (hN:NQ p.es+c.sz n≤1000) (hop:opOf (brkW c.l n)≠0) (HE:∀ k∈brkK c.l n,RC c 148 k rI (pExpr c.l f)) :
  Calls Tryz.prog 171 #[.pointer (some ⟨c.B,0,none⟩),.int .i64 (n:Int)] w (WrPost c X p (pWrit c.l f n p.es)):=by
 obtain ⟨x,hx⟩:∃ x,c.fs[n]?=some x:=⟨_,List.getElem?_eq_getElem hn⟩
 have hs:=hc.txt n x hx
 have hfx:=Cx.frm_at hx
 have hkid:=(hc.kid n x hx).1
 obtain ⟨g,o,cap,hv,c0,c1,c2,c3,c4⟩:=hc.form (h.alloc (.cells #[.int .u8 0,.int .u8 0,.int .u8 0,.string ⟨#[]⟩,.int .i64 0,.slice none 0 0] 190)).below hx
 have b5:=(h.alloc (.cells #[.int .u8 0,.int .u8 0,.int .u8 0,.string ⟨#[]⟩,.int .i64 0,.slice none 0 0] 190)).cell (j:=5) (u:=c.fv) rfl
 rw [hv] at b5
 have e1:(n:Int)<(c.fs.length:Int):=by omega
 have e2:(0:Int)≤(n:Int):=by omega
 have HX:=hidI hx
 obtain ⟨⟨xk,xs,xn,xks,xp⟩,kv⟩:=x
 simp only at hs c0 c1 c2 c3 c4 hfx hkid
 obtain ⟨_,ka,kc,hkv,_⟩:=hkid
 subst hkv
 have HS:=hidI hs
 have HH:=hidI h
 have HFX:=hidI hfx
 have hBlt:=h.lt
 have hsz:=h.size
 clear hv hfx h hx hs
 rw [HFX.out] at n1 n2 n3 n4
 simp only at n1 n2 n3 n4
 have d1:(xk==4)=false:=by simpa using n1
 have bt:=zbW xs ⟨#[116,114,117,101]⟩
 have bf:=zbW xs ⟨#[102,97,108,115,101]⟩
 have lt_:(⟨#[116,114,117,101]⟩:ByteArray).toList=[116,114,117,101]:=by decide +kernel
 have lf_:(⟨#[102,97,108,115,101]⟩:ByteArray).toList=[102,97,108,115,101]:=by decide +kernel
 rw [lt_,decide_eq_false n2] at bt
 rw [lf_,decide_eq_false n3] at bf
 have HA:=hidI ((HH.out.alloc (.cells #[.int .u8 0,.int .u8 0,.int .u8 0,.string ⟨#[]⟩,.int .i64 0,.slice none 0 0] 190)).alloc (.cells #[.int .u8 xk,.string xs,.int .i64 xn,.slice ka xks.length kc,.int .i64 xp] 115))
 have C1:=hidI (zdE xs HS.out ((w.alloc (.cells #[.int .u8 0,.int .u8 0,.int .u8 0,.string ⟨#[]⟩,.int .i64 0,.slice none 0 0] 190)).alloc (.cells #[.int .u8 xk,.string xs,.int .i64 xn,.slice ka xks.length kc,.int .i64 xp] 115)) (hc.laid.on HA.out.below))
 have n4':nameB xs=false:=by unfold nmOk at n4;simpa using n4
 rw [n4'] at C1
 have HRX:Hid (RdS c p (xBox w.heap.size::X) ((w.alloc (.cells #[.int .u8 0,.int .u8 0,.int .u8 0,.string ⟨#[]⟩,.int .i64 0,.slice none 0 0] 190)).alloc (.cells #[.int .u8 xk,.string xs,.int .i64 xn,.slice ka xks.length kc,.int .i64 xp] 115))):=hidI (by
  have h0:=HH.out
  exact RdS.alloc (RdS.more (h0.alloc _) (h0.rows.add (r:=xBox w.heap.size) (h0.rows.alloc _) (zcK w c.w0.heap.size 190 6 #[.int .u8 0,.int .u8 0,.int .u8 0,.string ⟨#[]⟩,.int .i64 0,.slice none 0 0] h0.size rfl) (fun k hk=>by cases hk;exact Nat.le_refl _))) _)
 have HPW:Hid (pWrit c.l f n p.es=(if opOf (brkW c.l n)≠0 then
  if (brkK c.l n).length≠arityN (opOf (brkW c.l n)) then .error xp
  else match rows (pExpr c.l f) (brkK c.l n) p.es with
   | .error p=>.error p
   | .ok (is,q')=>.ok (⟨10,0,opOf (brkW c.l n),emptyS,0,is⟩,q')
 else if exprOf (brkW c.l n)=0 then .error xp
 else match contentP c.l (takeP c.l (noE c.l) (noE c.l) (noE c.l)) (exprSh (exprOf (brkW c.l n))) n (brkK c.l n) p.es with
  | .error p=>.error p
  | .ok (k,q')=>.ok (⟨exprOf (brkW c.l n),0,0,k.name,if k.inn=true then 1 else 0,[]⟩,q'))):=hidI (by
   unfold pWrit
   rw [HFX.out]
   simp only [if_neg n1,if_neg n2,if_neg n3,if_neg n4]
   first|done|rfl)
 have CB:=hidI (fun W (hW:RdS c p (xBox w.heap.size::X) W)=>brk_any hc hW hn)
 have hbs:=brkW_sz hc hn
 have hzs:=hc.brk_sz hn
 have hbl:=hc.brk_lt hn
 have hbk:=hc.brk_len hn
 have HBS:=hidI hbs
 obtain ⟨s,hss⟩:∃ s,brkW c.l n=s:=⟨_,rfl⟩
 obtain ⟨ks,hks⟩:∃ ks,brkK c.l n=ks:=⟨_,rfl⟩
 have HB2:Hid (∀ W,RdS c p (xBox w.heap.size::X) W→Calls Tryz.prog 90 #[.pointer (some ⟨c.B,0,none⟩),.int .i64 (n:Int)] W fun e w'=>∃ a2 cp2,e=.returned (.tuple #[.string s,.slice a2 ks.length cp2])∧SeesK c.w0 (.slice a2 ks.length cp2) ks∧Below W.heap.size W w'):=hidI (fun W hW=>(CB.out W hW).mono (by
  rintro e w' ⟨kv,rfl,hK,hb⟩
  rw [hss,hks] at *
  obtain ⟨_,a2,cp2,hkv,_⟩:=id hK
  subst hkv
  exact ⟨a2,cp2,rfl,hK,hb⟩))
 rw [hss,hks] at HPW
 rw [hss] at HBS hop
 rw [hks] at hzs hbl hbk HE
 clear CB n1 n2 n3 n4 n4' lt_ lf_ hbs hss hks
 have CAr:=hidI (fun W=>arityN_any (opOf s) (opOf_le s) W)
 have HLK:Hid (∀ W,RdS c p (xBox w.heap.size::X) W→(Instr.lookup 104 (.map (some c.vo.o)) (.string s) true).run Tryz.prog W=.ok (.tuple #[.int .u8 (opOf s:Int),.bool true]) W):=hidI (fun W hW=>by
  have:=look_op2 hc hW.below HBS.out
  rwa [decide_eq_true hop] at this)
 have HOP:=hidI hop
 have CEach:=hidI (fun W kv hW hK=>each_any (c:=c) (F:=148) (r:=pExpr c.l f) (ks:=ks) (kv:=kv) hK hbk (fun k hk=>(hbl k hk).2) HE (bd_expr hc f) (p:=p) (X:=xBox w.heap.size::X) (w:=W) hW (by omega) (.inl rfl))
 obtain ⟨oo,hoo⟩:∃ oo,opOf s=oo:=⟨_,rfl⟩
 rw [hoo] at CAr HLK HPW HOP
 obtain ⟨ar,har⟩:∃ ar,arityN oo=ar:=⟨_,rfl⟩
 rw [har] at CAr HPW
 clear hop HE hbl hzs hoo har
 by_cases hlen:ks.length=ar
 ·have q1:((ks.length:Int)==(ar:Int))=true:=by simp [hlen]
  have CM:=hidI (fun W=>must_ok (.pointer (some ⟨c.B,0,none⟩)) (n:Int) W)
  have HQ1:=hidI q1
  cases hr:rows (pExpr c.l f) ks p.es with
  | error q=>
   have HR:Hid (pWrit c.l f n p.es=.error q):=hidI (by rw [HPW.out,if_pos HOP.out,if_neg (by simp [hlen]),hr])
   rw [hr] at CEach
   clear hr HPW hlen
   go_enter Tryz.func171,Tryz.ntmps171
   go_wp2_with (first
    | (go_at_call 147;refine C1.out.mono ?_;intro e w1 h1;obtain ⟨rfl,hb1⟩:=h1;clear C1;have HS1:=hidI (HRX.out.on hb1))
    | (go_at_call 90;refine Calls.mono (HB2.out _ HS1.out) ?_;intro e w2 h2;obtain ⟨a2,cp2,rfl,hK2,hb2⟩:=h2;clear HB2;have HK2:=hidI hK2;clear hK2;have HS2:=hidI (HS1.out.on hb2);have m4:=HS2.out.cell (j:=4) (u:=.map (some c.vo.o)) rfl;have lk:=HLK.out _ HS2.out)
    | (go_at_call 185;refine Calls.mono (CAr.out _) ?_;intro e w3 h3;obtain ⟨rfl,rfl⟩:=h3;clear CAr)
    | (go_at_call 91;refine Calls.mono (CM.out _) ?_;intro e w3 h3;obtain ⟨rfl,rfl⟩:=h3;clear CM)
    | (go_at_call 150;refine Calls.mono (CEach.out _ _ HS2.out HK2.out) ?_;intro e w5 h5;obtain ⟨rfl,hb5⟩:=h5;clear CEach))
   refine ⟨rfl,?_⟩
   rw [HR.out]
   exact ⟨rfl,hb5.sub (.cons _ (.refl _))⟩
  | ok y=>
   obtain ⟨is,q⟩:=y
   have HR:Hid (pWrit c.l f n p.es=.ok (⟨10,0,oo,emptyS,0,is⟩,q)):=hidI (by rw [HPW.out,if_pos HOP.out,if_neg (by simp [hlen]),hr])
   rw [hr] at CEach
   clear hr HPW hlen
   go_enter Tryz.func171,Tryz.ntmps171
   go_wp2_with (first
    | (go_at_call 147;refine C1.out.mono ?_;intro e w1 h1;obtain ⟨rfl,hb1⟩:=h1;clear C1;have HS1:=hidI (HRX.out.on hb1))
    | (go_at_call 90;refine Calls.mono (HB2.out _ HS1.out) ?_;intro e w2 h2;obtain ⟨a2,cp2,rfl,hK2,hb2⟩:=h2;clear HB2;have HK2:=hidI hK2;clear hK2;have HS2:=hidI (HS1.out.on hb2);have m4:=HS2.out.cell (j:=4) (u:=.map (some c.vo.o)) rfl;have lk:=HLK.out _ HS2.out)
    | (go_at_call 185;refine Calls.mono (CAr.out _) ?_;intro e w3 h3;obtain ⟨rfl,rfl⟩:=h3;clear CAr)
    | (go_at_call 91;refine Calls.mono (CM.out _) ?_;intro e w3 h3;obtain ⟨rfl,rfl⟩:=h3;clear CM)
    | (go_at_call 150;refine Calls.mono (CEach.out _ _ HS2.out HK2.out) ?_;intro e w5 h5;obtain ⟨ov,p5,rfl,hb5⟩:=h5;clear CEach;refine Hid.out ?_))
   obtain ⟨hes5,hds5,hms5,hS5⟩:=hb5
   have s5:RdS c p5 (xBox w.heap.size::iRow ov is::X) w5:=hS5.perm (List.Perm.swap _ _ _)
   have hr:=RowsP.head (r:=xBox w.heap.size) s5.first
   have r0:=zaB hr (j:=0) rfl
   have z0:=zaQ hr 0
   have r1:=zaB hr (j:=1) rfl
   have z1:=zaQ hr 1
   have r2:=zaB hr (j:=2) rfl
   have z2:=zaQ hr 2
   have r3:=zaB hr (j:=3) rfl
   have z3:=zaQ hr 3
   have r4:=zaB hr (j:=4) rfl
   have z4:=zaQ hr 4
   have r5:=zaB hr (j:=5) rfl
   have z5:=zaQ hr 5
   have HFIN:=hidI (RdS.less (RdS.setbox (j:=5) (RdS.setbox (j:=4) (RdS.setbox (j:=3) (RdS.setbox (j:=2) (RdS.setbox (j:=1) (RdS.setbox (j:=0) s5 (.int .u8 10)) (.int .u8 0)) (.int .u8 (oo:Int))) (.string ⟨#[]⟩)) (.int .i64 0)) (ov)))
   obtain ⟨oa,oc,hov⟩:∃ oa oc,ov=.slice oa is.length oc:=zaE (RowsP.head (r:=iRow ov is) hS5.first)
   subst hov
   have HP5:=hidI (And.intro hes5 (And.intro hds5 hms5))
   clear hr s5 hS5 hes5 hds5 hms5 HS1 HS2 m4 lk
   refine hidI ?_
   go_wp2
   refine bodyPost_ret (v:=xval ⟨10,0,oo,emptyS,0,is⟩ (.slice oa is.length oc)) ?_ rfl ?_
   ·rw [zaC rfl]
    (go_simp<;>first|done|rfl|exact ⟨rfl,rfl⟩)
   ·rw [HR.out]
    exact ⟨p5,_,rfl,HP5.out.1,HP5.out.2.1,HP5.out.2.2,HFIN.out⟩
 ·have q1:((ks.length:Int)==(ar:Int))=false:=by rw [beq_eq_false_iff_ne];omega
  have HR:Hid (pWrit c.l f n p.es=.error xp):=hidI (by rw [HPW.out,if_pos HOP.out,if_pos hlen])
  have CM:Hid (∀ W,RdS c p (xBox w.heap.size::X) W→Calls Tryz.prog 91 #[.pointer (some ⟨c.B,0,none⟩),.bool false,.int .i64 (n:Int)] W fun e w'=>e=.panicked (flt2 xp)∧W=w'):=hidI (fun W hW=>zcV hc hW HX.out)
  clear HPW hlen CEach
  go_enter Tryz.func171,Tryz.ntmps171
  go_wp2_with (first
   | (go_at_call 147;refine C1.out.mono ?_;intro e w1 h1;obtain ⟨rfl,hb1⟩:=h1;clear C1;have HS1:=hidI (HRX.out.on hb1))
   | (go_at_call 90;refine Calls.mono (HB2.out _ HS1.out) ?_;intro e w2 h2;obtain ⟨a2,cp2,rfl,hK2,hb2⟩:=h2;clear HB2;have HK2:=hidI hK2;clear hK2;have HS2:=hidI (HS1.out.on hb2);have m4:=HS2.out.cell (j:=4) (u:=.map (some c.vo.o)) rfl;have lk:=HLK.out _ HS2.out)
   | (go_at_call 185;refine Calls.mono (CAr.out _) ?_;intro e w3 h3;obtain ⟨rfl,rfl⟩:=h3;clear CAr)
   | (go_at_call 91;refine Calls.mono (CM.out _ HS2.out) ?_;intro e w3 h3;obtain ⟨rfl,rfl⟩:=h3;clear CM))
  refine ⟨rfl,?_⟩
  rw [HR.out]
  exact ⟨rfl,HS2.out.bad (.cons _ (.refl _))⟩
set_option maxHeartbeats 4000000 in
theorem written_kind {c:Cx} (hc:c.Ok) {f:Nat} {p:PV} {X:List Rw} {w:World} (h:RdS c p X w) {n:Nat} (hn:n<c.fs.length) (n1:¬ (frm c.l n).k=4) (n2:¬ (frm c.l n).s=⟨#[116,114,117,101]⟩) (n3:¬ (frm c.l n).s=⟨#[102,97,108,115,101]⟩) (n4:¬ nmOk (frm c.l n).s=true) (hN:NQ p.es+c.sz n≤1000) (hop:opOf (brkW c.l n)=0) :
  Calls Tryz.prog 171 #[.pointer (some ⟨c.B,0,none⟩),.int .i64 (n:Int)] w (WrPost c X p (pWrit c.l f n p.es)):=by
 obtain ⟨x,hx⟩:∃ x,c.fs[n]?=some x:=⟨_,List.getElem?_eq_getElem hn⟩
 have hs:=hc.txt n x hx
 have hfx:=Cx.frm_at hx
 have hkid:=(hc.kid n x hx).1
 obtain ⟨g,o,cap,hv,c0,c1,c2,c3,c4⟩:=hc.form (h.alloc (.cells #[.int .u8 0,.int .u8 0,.int .u8 0,.string ⟨#[]⟩,.int .i64 0,.slice none 0 0] 190)).below hx
 have b5:=(h.alloc (.cells #[.int .u8 0,.int .u8 0,.int .u8 0,.string ⟨#[]⟩,.int .i64 0,.slice none 0 0] 190)).cell (j:=5) (u:=c.fv) rfl
 rw [hv] at b5
 have e1:(n:Int)<(c.fs.length:Int):=by omega
 have e2:(0:Int)≤(n:Int):=by omega
 have HX:=hidI hx
 obtain ⟨⟨xk,xs,xn,xks,xp⟩,kv⟩:=x
 simp only at hs c0 c1 c2 c3 c4 hfx hkid
 obtain ⟨_,ka,kc,hkv,_⟩:=hkid
 subst hkv
 have HS:=hidI hs
 have HH:=hidI h
 have HFX:=hidI hfx
 have hBlt:=h.lt
 have hsz:=h.size
 clear hv hfx h hx hs
 rw [HFX.out] at n1 n2 n3 n4
 simp only at n1 n2 n3 n4
 have d1:(xk==4)=false:=by simpa using n1
 have bt:=zbW xs ⟨#[116,114,117,101]⟩
 have bf:=zbW xs ⟨#[102,97,108,115,101]⟩
 have lt_:(⟨#[116,114,117,101]⟩:ByteArray).toList=[116,114,117,101]:=by decide +kernel
 have lf_:(⟨#[102,97,108,115,101]⟩:ByteArray).toList=[102,97,108,115,101]:=by decide +kernel
 rw [lt_,decide_eq_false n2] at bt
 rw [lf_,decide_eq_false n3] at bf
 have HA:=hidI ((HH.out.alloc (.cells #[.int .u8 0,.int .u8 0,.int .u8 0,.string ⟨#[]⟩,.int .i64 0,.slice none 0 0] 190)).alloc (.cells #[.int .u8 xk,.string xs,.int .i64 xn,.slice ka xks.length kc,.int .i64 xp] 115))
 have C1:=hidI (zdE xs HS.out ((w.alloc (.cells #[.int .u8 0,.int .u8 0,.int .u8 0,.string ⟨#[]⟩,.int .i64 0,.slice none 0 0] 190)).alloc (.cells #[.int .u8 xk,.string xs,.int .i64 xn,.slice ka xks.length kc,.int .i64 xp] 115)) (hc.laid.on HA.out.below))
 have n4':nameB xs=false:=by unfold nmOk at n4;simpa using n4
 rw [n4'] at C1
 have HRX:Hid (RdS c p (xBox w.heap.size::X) ((w.alloc (.cells #[.int .u8 0,.int .u8 0,.int .u8 0,.string ⟨#[]⟩,.int .i64 0,.slice none 0 0] 190)).alloc (.cells #[.int .u8 xk,.string xs,.int .i64 xn,.slice ka xks.length kc,.int .i64 xp] 115))):=hidI (by
  have h0:=HH.out
  exact RdS.alloc (RdS.more (h0.alloc _) (h0.rows.add (r:=xBox w.heap.size) (h0.rows.alloc _) (zcK w c.w0.heap.size 190 6 #[.int .u8 0,.int .u8 0,.int .u8 0,.string ⟨#[]⟩,.int .i64 0,.slice none 0 0] h0.size rfl) (fun k hk=>by cases hk;exact Nat.le_refl _))) _)
 have HPW:Hid (pWrit c.l f n p.es=(if opOf (brkW c.l n)≠0 then
  if (brkK c.l n).length≠arityN (opOf (brkW c.l n)) then .error xp
  else match rows (pExpr c.l f) (brkK c.l n) p.es with
   | .error p=>.error p
   | .ok (is,q')=>.ok (⟨10,0,opOf (brkW c.l n),emptyS,0,is⟩,q')
 else if exprOf (brkW c.l n)=0 then .error xp
 else match contentP c.l (takeP c.l (noE c.l) (noE c.l) (noE c.l)) (exprSh (exprOf (brkW c.l n))) n (brkK c.l n) p.es with
  | .error p=>.error p
  | .ok (k,q')=>.ok (⟨exprOf (brkW c.l n),0,0,k.name,if k.inn=true then 1 else 0,[]⟩,q'))):=hidI (by
   unfold pWrit
   rw [HFX.out]
   simp only [if_neg n1,if_neg n2,if_neg n3,if_neg n4]
   first|done|rfl)
 have CB:=hidI (fun W (hW:RdS c p (xBox w.heap.size::X) W)=>brk_any hc hW hn)
 have hbs:=brkW_sz hc hn
 have hzs:=hc.brk_sz hn
 have hbl:=hc.brk_lt hn
 have hbk:=hc.brk_len hn
 have HBS:=hidI hbs
 obtain ⟨s,hss⟩:∃ s,brkW c.l n=s:=⟨_,rfl⟩
 obtain ⟨ks,hks⟩:∃ ks,brkK c.l n=ks:=⟨_,rfl⟩
 have HB2:Hid (∀ W,RdS c p (xBox w.heap.size::X) W→Calls Tryz.prog 90 #[.pointer (some ⟨c.B,0,none⟩),.int .i64 (n:Int)] W fun e w'=>∃ a2 cp2,e=.returned (.tuple #[.string s,.slice a2 ks.length cp2])∧SeesK c.w0 (.slice a2 ks.length cp2) ks∧Below W.heap.size W w'):=hidI (fun W hW=>(CB.out W hW).mono (by
  rintro e w' ⟨kv,rfl,hK,hb⟩
  rw [hss,hks] at *
  obtain ⟨_,a2,cp2,hkv,_⟩:=id hK
  subst hkv
  exact ⟨a2,cp2,rfl,hK,hb⟩))
 rw [hss,hks] at HPW
 rw [hss] at HBS hop
 rw [hks] at hzs hbl hbk
 clear CB n1 n2 n3 n4 n4' lt_ lf_ hbs hss hks
 have HLK:Hid (∀ W,RdS c p (xBox w.heap.size::X) W→(Instr.lookup 104 (.map (some c.vo.o)) (.string s) true).run Tryz.prog W=.ok (.tuple #[.int .u8 0,.bool false]) W):=hidI (fun W hW=>by
  have:=look_op2 hc hW.below HBS.out
  rw [hop] at this
  exact this)
 have HLX:Hid (∀ W,RdS c p (xBox w.heap.size::X) W→(Instr.lookup 103 (.map (some c.vo.x)) (.string s) true).run Tryz.prog W=.ok (.tuple #[.int .u8 (exprOf s:Int),.bool (decide (exprOf s≠0))]) W):=hidI (fun W hW=>look_expr hc hW.below HBS.out)
 have HPW2:Hid (pWrit c.l f n p.es=(if exprOf s=0 then .error xp else match contentP c.l (takeP c.l (noE c.l) (noE c.l) (noE c.l)) (exprSh (exprOf s)) n ks p.es with
  | .error p=>.error p
  | .ok (k,q')=>.ok (⟨exprOf s,0,0,k.name,if k.inn=true then 1 else 0,[]⟩,q'))):=hidI (by rw [HPW.out,if_neg (by simp [hop])])
 clear HPW
 by_cases hx0:exprOf s=0
 ·have HR:Hid (pWrit c.l f n p.es=.error xp):=hidI (by rw [HPW2.out,if_pos hx0])
  rw [hx0] at HLX
  have CM:Hid (∀ W,RdS c p (xBox w.heap.size::X) W→Calls Tryz.prog 91 #[.pointer (some ⟨c.B,0,none⟩),.bool false,.int .i64 (n:Int)] W fun e w'=>e=.panicked (flt2 xp)∧W=w'):=hidI (fun W hW=>zcV hc hW HX.out)
  clear HPW2 hx0 hop hbl hbk hzs
  go_enter Tryz.func171,Tryz.ntmps171
  go_wp2_with (first
   | (go_at_call 147;refine C1.out.mono ?_;intro e w1 h1;obtain ⟨rfl,hb1⟩:=h1;clear C1;have HS1:=hidI (HRX.out.on hb1))
   | (go_at_call 90;refine Calls.mono (HB2.out _ HS1.out) ?_;intro e w2 h2;obtain ⟨a2,cp2,rfl,hK2,hb2⟩:=h2;clear HB2;have HK2:=hidI hK2;clear hK2;have HS2:=hidI (HS1.out.on hb2);have m4:=HS2.out.cell (j:=4) (u:=.map (some c.vo.o)) rfl;have m3:=HS2.out.cell (j:=3) (u:=.map (some c.vo.x)) rfl;have lk:=HLK.out _ HS2.out;have lk2:=HLX.out _ HS2.out)
   | (go_at_call 91;refine Calls.mono (CM.out _ HS2.out) ?_;intro e w3 h3;obtain ⟨rfl,rfl⟩:=h3;clear CM))
  refine ⟨rfl,?_⟩
  rw [HR.out]
  exact ⟨rfl,HS2.out.bad (.cons _ (.refl _))⟩
 ·have hxl:=exprOf_le s
  obtain ⟨kk,hkk⟩:∃ kk,exprOf s=kk:=⟨_,rfl⟩
  rw [hkk] at hx0 hxl HLX HPW2
  rw [decide_eq_true hx0] at HLX
  obtain ⟨as1,as2,as3,as4,as5,as6,as7,as8⟩:=exprSh_asc kk (by omega) (by omega)
  have HTK:TK c (takeP c.l (noE c.l) (noE c.l) (noE c.l)) (ptL (exprPt kk)) ks:=by
   rw [as3]
   exact tk_take hc as4 (fun k hk=>(hbl k hk).2) zdJ zdJ zdJ (fun h=>absurd h as5) (fun h=>absurd h as6) (fun h=>absurd h as7) (fun h=>absurd h as8)
  have CSh:=hidI (fun W=>exprSh_any kk (by omega) (by omega) W)
  have CC:=hidI (fun W kv hW hK=>zdT hc (tk:=takeP c.l (noE c.l) (noE c.l) (noE c.l)) (ks:=ks) (kv:=kv) (sw:=exprWd kk) (sp:=exprPt kk) as1 as2 hK hbk (fun k hk=>(hbl k hk).2) HTK (p:=p) (X:=xBox w.heap.size::X) (w:=W) hW hn (by omega))
  rw [as3] at CC
  have CM:=hidI (fun W=>must_ok (.pointer (some ⟨c.B,0,none⟩)) (n:Int) W)
  obtain ⟨sw,hsw⟩:∃ sw,exprWd kk=sw:=⟨_,rfl⟩
  obtain ⟨sp,hsp⟩:∃ sp,exprPt kk=sp:=⟨_,rfl⟩
  rw [hsw,hsp] at CSh CC
  have HKK:=hidI hx0
  clear as1 as2 as3 as4 as5 as6 as7 as8 HTK hsw hsp hx0 hxl hkk hop hbl hzs
  cases hr:contentP c.l (takeP c.l (noE c.l) (noE c.l) (noE c.l)) (exprSh kk) n ks p.es with
  | error q=>
   have HR:Hid (pWrit c.l f n p.es=.error q):=hidI (by rw [HPW2.out,if_neg HKK.out,hr])
   rw [hr] at CC
   clear hr HPW2
   go_enter Tryz.func171,Tryz.ntmps171
   go_wp2_with (first
    | (go_at_call 147;refine C1.out.mono ?_;intro e w1 h1;obtain ⟨rfl,hb1⟩:=h1;clear C1;have HS1:=hidI (HRX.out.on hb1))
    | (go_at_call 90;refine Calls.mono (HB2.out _ HS1.out) ?_;intro e w2 h2;obtain ⟨a2,cp2,rfl,hK2,hb2⟩:=h2;clear HB2;have HK2:=hidI hK2;clear hK2;have HS2:=hidI (HS1.out.on hb2);have m4:=HS2.out.cell (j:=4) (u:=.map (some c.vo.o)) rfl;have m3:=HS2.out.cell (j:=3) (u:=.map (some c.vo.x)) rfl;have lk:=HLK.out _ HS2.out;have lk2:=HLX.out _ HS2.out)
    | (go_at_call 91;refine Calls.mono (CM.out _) ?_;intro e w3 h3;obtain ⟨rfl,rfl⟩:=h3;clear CM)
    | (go_at_call 85;refine Calls.mono (CSh.out _) ?_;intro e w4 h4;obtain ⟨rfl,hb4⟩:=h4;clear CSh;have HS4:=hidI (HS2.out.on hb4))
    | (go_at_call 92;refine Calls.mono (CC.out _ _ HS4.out HK2.out) ?_;intro e w5 h5;obtain ⟨rfl,hb5⟩:=h5;clear CC))
   refine ⟨rfl,?_⟩
   rw [HR.out]
   exact ⟨rfl,hb5.sub (.cons _ (.refl _))⟩
  | ok y=>
   obtain ⟨k,q⟩:=y
   have HR:Hid (pWrit c.l f n p.es=.ok (⟨kk,0,0,k.name,if k.inn=true then 1 else 0,[]⟩,q)):=hidI (by rw [HPW2.out,if_neg HKK.out,hr])
   rw [hr] at CC
   have CW:=hidI (fun W=>asWord_any k.inn W)
   clear hr HPW2
   go_enter Tryz.func171,Tryz.ntmps171
   go_wp2_with (first
    | (go_at_call 147;refine C1.out.mono ?_;intro e w1 h1;obtain ⟨rfl,hb1⟩:=h1;clear C1;have HS1:=hidI (HRX.out.on hb1))
    | (go_at_call 90;refine Calls.mono (HB2.out _ HS1.out) ?_;intro e w2 h2;obtain ⟨a2,cp2,rfl,hK2,hb2⟩:=h2;clear HB2;have HK2:=hidI hK2;clear hK2;have HS2:=hidI (HS1.out.on hb2);have m4:=HS2.out.cell (j:=4) (u:=.map (some c.vo.o)) rfl;have m3:=HS2.out.cell (j:=3) (u:=.map (some c.vo.x)) rfl;have lk:=HLK.out _ HS2.out;have lk2:=HLX.out _ HS2.out)
    | (go_at_call 91;refine Calls.mono (CM.out _) ?_;intro e w3 h3;obtain ⟨rfl,rfl⟩:=h3;clear CM)
    | (go_at_call 85;refine Calls.mono (CSh.out _) ?_;intro e w4 h4;obtain ⟨rfl,hb4⟩:=h4;clear CSh;have HS4:=hidI (HS2.out.on hb4))
    | (go_at_call 92;refine Calls.mono (CC.out _ _ HS4.out HK2.out) ?_;intro e w5 h5;obtain ⟨p5,av,tv,ev,rfl,hb5⟩:=h5;clear CC;refine Hid.out ?_))
   obtain ⟨hes5,hds5,hms5,hS5⟩:=hb5
   obtain ⟨aa,ac,hav⟩:∃ aa ac,av=.slice aa k.acts.length ac:=zaE (RowsP.head (r:=aRow av k.acts) hS5.first)
   obtain ⟨ta,tc,htv⟩:∃ ta tc,tv=.slice ta k.thn.length tc:=zaE (RowsP.head (r:=iRow tv k.thn) hS5.less.first)
   obtain ⟨ea,ec,hev⟩:∃ ea ec,ev=.slice ea k.els.length ec:=zaE (RowsP.head (r:=iRow ev k.els) hS5.less.less.first)
   have s6:RdS c p5 (xBox w.heap.size::X) w5:=hS5.less.less.less
   subst hav htv hev
   have HS6:=hidI s6
   have HP5:=hidI (And.intro hes5 (And.intro hds5 hms5))
   clear hS5 s6 hes5 hds5 hms5 HS1 HS2 HS4 m4 m3 lk lk2 hb1 hb2 hb4
   refine hidI ?_
   go_wp2
   have s7:=(HS6.out.alloc (.cells #[.string k.name,.int .u8 (k.op:Int),.bool k.inn,.int .i64 k.e,.int .i64 k.cond,.slice aa k.acts.length ac,.slice ta k.thn.length tc,.slice ea k.els.length ec] 170)).drew
   have hr:=RowsP.head (r:=xBox w.heap.size) (HS6.out.alloc (.cells #[.string k.name,.int .u8 (k.op:Int),.bool k.inn,.int .i64 k.e,.int .i64 k.cond,.slice aa k.acts.length ac,.slice ta k.thn.length tc,.slice ea k.els.length ec] 170)).first
   have r0:=zaB hr (j:=0) rfl
   have z0:=zaQ hr 0
   have r1:=zaB hr (j:=1) rfl
   have z1:=zaQ hr 1
   have r2:=zaB hr (j:=2) rfl
   have z2:=zaQ hr 2
   have r3:=zaB hr (j:=3) rfl
   have z3:=zaQ hr 3
   have r4:=zaB hr (j:=4) rfl
   have z4:=zaQ hr 4
   have r5:=zaB hr (j:=5) rfl
   have z5:=zaQ hr 5
   have HFIN:=hidI (RdS.less (RdS.setbox (j:=5) (RdS.setbox (j:=4) (RdS.setbox (j:=3) (RdS.setbox (j:=2) (RdS.setbox (j:=1) (RdS.setbox (j:=0) s7 (.int .u8 (kk:Int))) (.int .u8 0)) (.int .u8 0)) (.string k.name)) (.int .i64 (asW k.inn))) (.slice none 0 0)))
   have hc0:(w5.alloc (.cells #[.string k.name,.int .u8 (k.op:Int),.bool k.inn,.int .i64 k.e,.int .i64 k.cond,.slice aa k.acts.length ac,.slice ta k.thn.length tc,.slice ea k.els.length ec] 170)).drew.cell? ⟨w5.heap.size,0,none⟩=some (.string k.name):=by go_simp
   have hc2:(w5.alloc (.cells #[.string k.name,.int .u8 (k.op:Int),.bool k.inn,.int .i64 k.e,.int .i64 k.cond,.slice aa k.acts.length ac,.slice ta k.thn.length tc,.slice ea k.els.length ec] 170)).drew.cell? ⟨w5.heap.size,2,none⟩=some (.bool k.inn):=by go_simp
   refine regWr (rb:=w.heap.size) (cb:=w5.heap.size) (s:=k.name) (kd:=(kk:Int)) (b:=k.inn) (q:=asW k.inn) hc0 hc2 r0 z0 r1 z1 r2 z2 r3 z3 r4 z4 r5 z5 rfl CW (fun _ _ _ _ _ h=>h) (hidI ?_)
   intro t98 t99 t100 t101 t102 t103 t104
   clear hr s7 hc0 hc2
   go_wp2
   refine bodyPost_ret (v:=xval ⟨kk,0,0,k.name,if k.inn=true then 1 else 0,[]⟩ (.slice none 0 0)) ?_ rfl ?_
   ·rw [zaC rfl]
    (go_simp<;>first|done|rfl|(unfold asW;rfl)|(simp [asW];done))
   ·rw [HR.out]
    exact ⟨p5,_,rfl,HP5.out.1,HP5.out.2.1,HP5.out.2.2,HFIN.out.nil⟩
theorem written_any {c:Cx} (hc:c.Ok) {f:Nat} {p:PV} {X:List Rw} {w:World} (h:RdS c p X w) {n:Nat} (hn:n<c.fs.length) (hN:NQ p.es+c.sz n≤1000) (HE:∀ k∈brkK c.l n,RC c 148 k rI (pExpr c.l f)) :
  Calls Tryz.prog 171 #[.pointer (some ⟨c.B,0,none⟩),.int .i64 (n:Int)] w (WrPost c X p (pWrit c.l f n p.es)):=by
 by_cases n1:(frm c.l n).k=4
 ·exact zdK hc h hn (.inl n1)
 by_cases n2:(frm c.l n).s=⟨#[116,114,117,101]⟩
 ·exact zdK hc h hn (.inr (.inl n2))
 by_cases n3:(frm c.l n).s=⟨#[102,97,108,115,101]⟩
 ·exact zdK hc h hn (.inr (.inr (.inl n3)))
 by_cases n4:nmOk (frm c.l n).s=true
 ·exact zdK hc h hn (.inr (.inr (.inr n4)))
 by_cases n5:opOf (brkW c.l n)=0
 ·exact written_kind hc h hn n1 n2 n3 n4 hN n5
 ·exact written_op hc h hn n1 n2 n3 n4 hN n5 HE
set_option maxHeartbeats 2000000 in
theorem expr_step {c:Cx} (hc:c.Ok) {f n:Nat} (hn:n<c.fs.length) (HE:∀ k∈brkK c.l n,RC c 148 k rI (pExpr c.l f)):RC c 148 n rI (pExpr c.l (f+1)):=by
 intro p X w h hN
 have C:=hidI (written_any (f:=f) hc h hn hN HE)
 have HPE:=hidI (pExpr_succ c.l f n p.es)
 cases hr:pWrit c.l f n p.es with
 | error q=>
  have HR:Hid (pExpr c.l (f+1) n p.es=.error q):=hidI (by rw [HPE.out,hr])
  rw [hr] at C
  clear hr HPE HE h
  go_enter Tryz.func148,Tryz.ntmps148
  go_wp2_with (go_at_call 171;refine C.out.mono ?_;intro e w1 h1;obtain ⟨rfl,hb1⟩:=h1;clear C)
  refine ⟨rfl,?_⟩
  rw [HR.out]
  exact ⟨rfl,hb1⟩
 | ok y=>
  obtain ⟨x,q⟩:=y
  have HR:Hid (pExpr c.l (f+1) n p.es=.ok ((q.1.length:Int),(q.1++[x],q.2))):=hidI (by rw [HPE.out,hr];rfl)
  have hq:q.1.length≤999:=by
   have:=bd_expr hc (f+1) n _ _ _ hn HR.out
   simp only [NQ,List.length_append,List.length_cons,List.length_nil] at this hN
   omega
  rw [hr] at C
  clear hr HPE HE h hN
  go_enter Tryz.func148,Tryz.ntmps148
  go_wp2_with (go_at_call 171;refine C.out.mono ?_;intro e w1 h1;obtain ⟨p1,kv,rfl,hb1⟩:=h1;clear C;refine Hid.out ?_)
  obtain ⟨hes1,hds1,hms1,hS1⟩:=hb1
  obtain ⟨ka,kc,hkv⟩:∃ ka kc,kv=.slice ka x.kids.length kc:=zaE (RowsP.head (r:=iRow kv x.kids) hS1.first)
  subst hkv
  have hxl:p1.xs.length=q.1.length:=by rw [←hes1];simp [PV.es]
  have HXL:=hidI hxl
  have HS1:=hidI hS1
  have HP1:=hidI (And.intro hes1 (And.intro hds1 hms1))
  have hsz:=hS1.size
  clear hes1 hds1 hms1 hS1
  refine hidI ?_
  go_wp2
  have s2:=HS1.out.alloc (.cells #[.int .u8 (x.k:Int),.int .u8 (x.of:Int),.int .u8 (x.op:Int),.string x.name,.int .i64 x.num,.slice ka x.kids.length kc] 190)
  have HS2:=hidI s2.drew
  obtain ⟨xa,xc,hxv⟩:∃ xa xc,p1.xv=.slice xa p1.xs.length xc:=zaE s2.xown.head
  have x0:(w1.alloc (.cells #[.int .u8 (x.k:Int),.int .u8 (x.of:Int),.int .u8 (x.op:Int),.string x.name,.int .i64 x.num,.slice ka x.kids.length kc] 190)).drew.cell? ⟨w1.heap.size,0,none⟩=some (.int .u8 (x.k:Int)):=by go_simp
  have x1:(w1.alloc (.cells #[.int .u8 (x.k:Int),.int .u8 (x.of:Int),.int .u8 (x.op:Int),.string x.name,.int .i64 x.num,.slice ka x.kids.length kc] 190)).drew.cell? ⟨w1.heap.size,1,none⟩=some (.int .u8 (x.of:Int)):=by go_simp
  have x2:(w1.alloc (.cells #[.int .u8 (x.k:Int),.int .u8 (x.of:Int),.int .u8 (x.op:Int),.string x.name,.int .i64 x.num,.slice ka x.kids.length kc] 190)).drew.cell? ⟨w1.heap.size,2,none⟩=some (.int .u8 (x.op:Int)):=by go_simp
  have x3:(w1.alloc (.cells #[.int .u8 (x.k:Int),.int .u8 (x.of:Int),.int .u8 (x.op:Int),.string x.name,.int .i64 x.num,.slice ka x.kids.length kc] 190)).drew.cell? ⟨w1.heap.size,3,none⟩=some (.string x.name):=by go_simp
  have x4:(w1.alloc (.cells #[.int .u8 (x.k:Int),.int .u8 (x.of:Int),.int .u8 (x.op:Int),.string x.name,.int .i64 x.num,.slice ka x.kids.length kc] 190)).drew.cell? ⟨w1.heap.size,4,none⟩=some (.int .i64 x.num):=by go_simp
  have x5:(w1.alloc (.cells #[.int .u8 (x.k:Int),.int .u8 (x.of:Int),.int .u8 (x.op:Int),.string x.name,.int .i64 x.num,.slice ka x.kids.length kc] 190)).drew.cell? ⟨w1.heap.size,5,none⟩=some (.slice ka x.kids.length kc):=by go_simp
  refine regX (B:=c.B) (eb:=w1.heap.size) (base:=c.w0.heap.size) (n:=p1.xs.length) (u:=p1.xv) (xs:=flatX p1.xs) (HS2.out.cell (j:=7) rfl) x0 x1 x2 x3 x4 x5 (HS2.out.free 7) HS2.out.xown.head (by omega) HS2.out.size (box_apart HS2.out.xown) (fun e=>by have:=(HS1.out.xown.head.lt _ e).2;omega) (by
   intro v hv
   simp only [List.mem_cons,List.not_mem_nil,or_false] at hv
   rcases hv with rfl|rfl|rfl|rfl|rfl|rfl<;>rfl) (fun _ _ _ _ _ h=>h) ?_
  intro W5 u' t9 t10 t11 t12 t13 t14 t15 t16 t17 t18 t19 t20 hg ho ha
  have s5:=RdS.addX (x:=x) (kv:=.slice ka x.kids.length kc) (HS2.out.alloc (.cells #[.int .u8 (x.k:Int),.int .u8 (x.of:Int),.int .u8 (x.op:Int),.string x.name,.int .i64 x.num,.slice ka x.kids.length kc] 190)) hg ho (by simpa using ha)
  have HS5:=hidI s5
  obtain ⟨ua,uc,hu⟩:∃ ua uc,u'=.slice ua (p1.xs.length+1) uc:=zaE ho
  subst hu
  have c7:=s5.cell (j:=7) (u:=.slice ua (p1.xs.length+1) uc) rfl
  have hl2:p1.xs.length≤1000:=by omega
  obtain ⟨W6,hW6⟩:∃ W6,W5.setCell ⟨c.B,7,none⟩ (.slice ua (p1.xs.length+1) uc)=W6:=⟨_,rfl⟩
  rw [hW6] at HS5 c7 ⊢
  clear hg ho ha s5 s2 x0 x1 x2 x3 x4 x5 HS2 hW6
  go_wp2
  go_ret
  rw [HR.out]
  refine ⟨?_,{ p1 with xs:=p1.xs++[(x,.slice ka x.kids.length kc)],xv:=.slice ua (p1.xs.length+1) uc },?_,HP1.out.2.1,HP1.out.2.2,HS5.out⟩
  ·rw [←HXL.out];rfl
  ·show ((p1.xs++[(x,_)]).map Prod.fst,p1.ss.map SV.s)=(q.1++[x],q.2)
   rw [←HP1.out.1]
   simp [PV.es]
theorem expr_all {c:Cx} (hc:c.Ok):∀ (f n:Nat),n<c.fs.length→c.fs.length-n≤f→RC c 148 n rI (pExpr c.l f)
 | 0,n,h1,h2=>by omega
 | f+1,n,h1,h2=>expr_step hc h1 (fun k hk=>by
  have:=hc.brk_lt h1 k hk
  exact expr_all hc f k this.2 (by omega))
theorem expr_any {c:Cx} (hc:c.Ok) {n:Nat} (hn:n<c.fs.length):RC c 148 n rI (pE c.l):=expr_all hc (big c.l) n hn (by unfold big Cx.l;rw [List.length_map];omega)
end Go.Proofs.YtmekkhfohmfjkaaGreatDoor
