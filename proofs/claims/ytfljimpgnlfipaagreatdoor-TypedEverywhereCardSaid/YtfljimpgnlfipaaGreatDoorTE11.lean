/-
  Part 11 of the proof: DrA2, DrA5, DrA3, DrA4, DrB0.
-/
import Derived.Test.YtfljimpgnlfipaaGreatDoorTE10
namespace Go.Proofs.YtfljimpgnlfipaaGreatDoor
open Go.RowKit Go.Deep Go.MapKept
def AcBad (wd:ByteArray) (m:Nat):Prop:=(¬ wd=(⟨#[112,117,116]⟩:ByteArray)∧¬ wd=(⟨#[112,117,115,104]⟩:ByteArray)∧¬ wd=(⟨#[112,117,108,108]⟩:ByteArray))∨(wd=(⟨#[112,117,116]⟩:ByteArray)∧¬ (m=2∨m=3))∨(wd=(⟨#[112,117,115,104]⟩:ByteArray)∧¬ (m=4∨m=5))∨(wd=(⟨#[112,117,108,108]⟩:ByteArray)∧¬ m=4)
theorem rdAct_no {l:List Frm} {n:Nat} {es:List Exp} {wd:ByteArray} {ks:List Nat} (hh:headF l n=some (wd,ks)) (hb:AcBad wd ks.length):rdAct l n es=.error (frm l n).p:=by
 unfold rdAct;rw [hh];simp only;rcases hb with ⟨n1,n2,n3⟩|⟨n1,n2⟩|⟨n1,n2⟩|⟨n1,n2⟩
 ·rw [if_neg (fun h=>n1 h.1),if_neg (fun h=>h.elim (fun h=>n2 h.1) (fun h=>n3 h.1))]
 ·rw [if_neg (fun h=>n2 h.2),if_neg (fun h=>h.elim (fun h=>absurd (n1.symm.trans h.1) (by decide)) (fun h=>absurd (n1.symm.trans h.1) (by decide)))]
 ·rw [if_neg (fun h=>absurd (n1.symm.trans h.1) (by decide)),if_neg (fun h=>h.elim (fun h=>n2 h.2) (fun h=>absurd (n1.symm.trans h.1) (by decide)))]
 ·rw [if_neg (fun h=>absurd (n1.symm.trans h.1) (by decide)),if_neg (fun h=>h.elim (fun h=>absurd (n1.symm.trans h.1) (by decide)) (fun h=>n2 h.2))]
set_option maxRecDepth 100000 in
set_option maxHeartbeats 16000000 in
theorem dact_bad {c:Dx} (hc:c.Ok) {n:Nat} (hn:n<c.fs.length) {p:PV} {X:List Rw} {w:World} (h:DrS c p none X w) (hN:p.many+c.sz n≤999) {wd:ByteArray} {ks:List Nat} (hh:headF c.l n=some (wd,ks)) (hb:AcBad wd ks.length) :
  Calls Tryz.prog 104 #[.pointer (some ⟨c.B,0,none⟩),.int .i64 (n:Int)] w (DaPost c p X n):=by
 have HN:=hidI hN;have hz:=hc.kids_sz hn;have HZ:=hidI hz;have hkl:=hc.kids_lt hn;have e1:(n:Int)<(c.fs.length:Int):=by omega
 have e2:(0:Int)≤(n:Int):=by omega
 obtain ⟨g,o,cap,xp,W1,HFP,HC4,HFV,HW1,HS1,HKN⟩:=zcU hc hn h;have hkn0:=HKN.out;have CH:=hidI (zbC hc HS1.out hn);obtain ⟨m0,hks⟩:=zaW hh;have hk2:∀ k∈ks,k<c.fs.length:=fun k hk=>(hkl k (by rw [hks];exact List.mem_cons_of_mem _ hk)).2
 have HZ2:Hid (1+(ks.map c.sz).sum≤c.sz n):=hidI (by
  have:=HZ.out;rw [hks] at this;simp only [List.map_cons,List.sum_cons] at this;omega)
 have CH2:=hidI (zbQ CH.out hh);have HK2:=hidI hk2;obtain ⟨kl,hkl0⟩:∃ kl,ks.length=kl:=⟨_,rfl⟩;have hkl1:kl≤400:=by
  have:=hkn0;rw [hks] at this;simp only [List.length_cons] at this;omega
 obtain ⟨bp,bs,bl⟩:=zbU wd;have HR:Hid (rdAct c.l n (p.xs.map Prod.fst)=.error xp):=hidI (by rw [rdAct_no hh hb,HFP.out]);rw [hkl0] at hb;clear h hn hN hz hkl hkn0 CH hks hk2 hh HK2 HZ2;rcases hb with hb|hb|hb|hb
 case' inl=>
  obtain ⟨n1,n2,n3⟩:=hb;rw [decide_eq_false n1] at bp;rw [decide_eq_false n2] at bs;rw [decide_eq_false n3] at bl;clear n1 n2 n3
 case' inr.inl=>
  obtain ⟨n1,n2⟩:=hb;rw [decide_eq_true n1] at bp;rw [decide_eq_false (by rw [n1];decide)] at bs bl;have f2:((kl:Int)==2)=false:=by rw [beq_eq_false_iff_ne];omega
  have f3:((kl:Int)==3)=false:=by rw [beq_eq_false_iff_ne];omega
  clear n1
 case' inr.inr.inl=>
  obtain ⟨n1,n2⟩:=hb;rw [decide_eq_true n1] at bs;rw [decide_eq_false (by rw [n1];decide)] at bp bl;have f4:((kl:Int)==4)=false:=by rw [beq_eq_false_iff_ne];omega
  have f5:((kl:Int)==5)=false:=by rw [beq_eq_false_iff_ne];omega
  clear n1
 case' inr.inr.inr=>
  obtain ⟨n1,n2⟩:=hb;rw [decide_eq_true n1] at bl;rw [decide_eq_false (by rw [n1];decide)] at bp bs;have f4:((kl:Int)==4)=false:=by rw [beq_eq_false_iff_ne];omega
  clear n1
 all_goals
  go_enter Tryz.func104,Tryz.ntmps104
  go_wp2_with (first
   | (go_at_call 54;rw [HW1.out];refine CH2.out.mono ?_;rintro e w2 ⟨kv,rfl,hkv,hb2⟩;obtain ⟨_,qa,qc,rfl,_⟩:=id hkv;rw [hkl0];have HS2:=hidI (HS1.out.on hb2);have hs2:=HS1.out.on hb2;clear hb2 CH2;have r0:=hs2.vcell (j:=0) rfl;have z0:=hs2.vfree 0;have r1:=hs2.vcell (j:=1) rfl;have z1:=hs2.vfree 1;have r2:=hs2.vcell (j:=2) rfl;have z2:=hs2.vfree 2;have r3:=hs2.vcell (j:=3) rfl;have z3:=hs2.vfree 3;have r4:=hs2.vcell (j:=4) rfl;have z4:=hs2.vfree 4;have r5:=hs2.vcell (j:=5) rfl;have z5:=hs2.vfree 5;have b0:=hs2.cell (j:=0) (u:=c.fv) rfl;rw [HFV.out] at b0;have y4:=HC4.out _ hs2.below;clear hs2)
   | (go_at_call 57;refine Calls.mono (zbG HS2.out xp 8) ?_;rintro e w6 ⟨rfl,h6⟩;have H6:=hidI h6;clear r0 r1 r2 r3 r4 r5 z0 z1 z2 z3 z4 z5;have r0:=h6.vcell (j:=0) rfl;have z0:=h6.vfree 0;have r1:=h6.vcell (j:=1) rfl;have z1:=h6.vfree 1;have r2:=h6.vcell (j:=2) rfl;have z2:=h6.vfree 2;have r3:=h6.vcell (j:=3) rfl;have z3:=h6.vfree 3;have r4:=h6.vcell (j:=4) rfl;have z4:=h6.vfree 4;have r5:=h6.vcell (j:=5) rfl;have z5:=h6.vfree 5;have q0:=h6.less.vcell (j:=0) rfl;have u0:=h6.less.vfree 0;have q1:=h6.less.vcell (j:=1) rfl;have u1:=h6.less.vfree 1;have q2:=h6.less.vcell (j:=2) rfl;have u2:=h6.less.vfree 2;have q3:=h6.less.vcell (j:=3) rfl;have u3:=h6.less.vfree 3;have q4:=h6.less.vcell (j:=4) rfl;have u4:=h6.less.vfree 4;have q5:=h6.less.vcell (j:=5) rfl;have u5:=h6.less.vfree 5;clear h6))
  refine bodyPost_ret (v:=.agg #[.int .u8 0,.string ⟨#[]⟩,.int .u8 0,.bool false,.int .i64 (-1),.int .i64 (-1)]) ?_ rfl ?_
  ·rw [zaC rfl]
   (go_simp<;>first|done|rfl)
  ·exact DaPost.bad (a:=⟨0,⟨#[]⟩,0,false, -1, -1⟩) HR.out (H6.out.less.fill6 _ _ _ _ _ _) rfl rfl rfl (by omega) ⟨by decide,by decide,by unfold SmlN;decide⟩
def actE (l:List Frm) (K O:Nat) (I:Bool) (k0 k1:Nat) (C:List Exp→Except Int (Int × List Exp)) (es:List Exp):Except Int (Actn × List Exp):=
 match nameF l k0 with
 | .error p=>.error p
 | .ok s=>match rdE l k1 es with
  | .error p=>.error p
  | .ok (e,es1)=>match C es1 with
   | .error p=>.error p
   | .ok (d,es2)=>.ok (⟨K,s,O,I,e,d⟩,es2)
theorem cond_no {l:List Frm} {ks:List Nat} {n:Nat} (h:¬ ks.length>n) (es:List Exp):rdCond l ks n es=.ok (-1,es):=by
 unfold rdCond;rw [if_neg h]
theorem cond_yes {l:List Frm} {ks:List Nat} {n:Nat} (h:ks.length>n) (es:List Exp):rdCond l ks n es=rdE l (ks.getD n 0) es:=by
 unfold rdCond;rw [if_pos h]
theorem rdAct_put {l:List Frm} {n:Nat} {wd:ByteArray} {ks:List Nat} {es:List Exp} (hh:headF l n=some (wd,ks)) (h1:wd=(⟨#[112,117,116]⟩:ByteArray)) (h2:ks.length=2∨ks.length=3):rdAct l n es=actE l 1 0 false (ks.getD 0 0) (ks.getD 1 0) (rdCond l ks 2) es:=by
 unfold rdAct actE;simp only [hh];rw [if_pos ⟨h1,h2⟩];rfl
theorem rdAct_push {l:List Frm} {n:Nat} {wd:ByteArray} {ks:List Nat} {es:List Exp} (hh:headF l n=some (wd,ks)) (h1:¬ wd=(⟨#[112,117,116]⟩:ByteArray)) (h2:(wd=(⟨#[112,117,115,104]⟩:ByteArray)∧(ks.length=4∨ks.length=5))∨(wd=(⟨#[112,117,108,108]⟩:ByteArray)∧ks.length=4)):rdAct l n es=(if redN (opOf (wordF l (ks.getD 1 0)))=false∨¬ (wordF l (ks.getD 2 0)=(⟨#[111,117,116]⟩:ByteArray)∨wordF l (ks.getD 2 0)=(⟨#[105,110]⟩:ByteArray)) then .error (frm l n).p else actE l (if wd=(⟨#[112,117,108,108]⟩:ByteArray) then 3 else 2) (opOf (wordF l (ks.getD 1 0))) (decide (wordF l (ks.getD 2 0)=(⟨#[105,110]⟩:ByteArray))) (ks.getD 0 0) (ks.getD 3 0) (rdCond l ks 4) es):=by
 unfold rdAct actE;simp only [hh];rw [if_neg (fun h=>h1 h.1),if_pos h2];rfl
theorem push_err {l:List Frm} {n k0 k1 k2 k3:Nat} {wd:ByteArray} {ks:List Nat} {es:List Exp} (hh:headF l n=some (wd,k0::k1::k2::k3::ks)) (h1:¬ wd=(⟨#[112,117,116]⟩:ByteArray)) (h2:(wd=(⟨#[112,117,115,104]⟩:ByteArray)∧((k0::k1::k2::k3::ks).length=4∨(k0::k1::k2::k3::ks).length=5))∨(wd=(⟨#[112,117,108,108]⟩:ByteArray)∧(k0::k1::k2::k3::ks).length=4)) (hb:redN (opOf (wordF l k1))=false∨¬ (wordF l k2=(⟨#[111,117,116]⟩:ByteArray)∨wordF l k2=(⟨#[105,110]⟩:ByteArray))):rdAct l n es=.error (frm l n).p:=(rdAct_push (es:=es) hh h1 h2).trans (if_pos hb)
theorem push_ok {l:List Frm} {n k0 k1 k2 k3:Nat} {wd:ByteArray} {ks:List Nat} {es:List Exp} (hh:headF l n=some (wd,k0::k1::k2::k3::ks)) (h1:¬ wd=(⟨#[112,117,116]⟩:ByteArray)) (h2:(wd=(⟨#[112,117,115,104]⟩:ByteArray)∧((k0::k1::k2::k3::ks).length=4∨(k0::k1::k2::k3::ks).length=5))∨(wd=(⟨#[112,117,108,108]⟩:ByteArray)∧(k0::k1::k2::k3::ks).length=4)) (hr:redN (opOf (wordF l k1))=true) (hd:wordF l k2=(⟨#[111,117,116]⟩:ByteArray)∨wordF l k2=(⟨#[105,110]⟩:ByteArray)) {K o:Nat} {I:Bool} (hK:(if wd=(⟨#[112,117,108,108]⟩:ByteArray) then 3 else 2)=K) (ho:opOf (wordF l k1)=o) (hI:decide (wordF l k2=(⟨#[105,110]⟩:ByteArray))=I):rdAct l n es=actE l K o I k0 k3 (rdCond l (k0::k1::k2::k3::ks) 4) es:=by
 refine (rdAct_push (es:=es) hh h1 h2).trans ((if_neg (fun h=>h.elim (fun h=>absurd (hr.symm.trans h) (by decide)) (fun h=>h hd))).trans ?_);rw [←hK,←ho,←hI];rfl
theorem zdT {l:List Frm} {k0 k1 K O:Nat} {I:Bool} {es es4 es5:List Exp} {er1 er4 er5:Option (Int × Int)} {s:ByteArray} {v4 v5:Int} {C:List Exp→Except Int (Int × List Exp)} (h1:NameR (nameF l k0) er1 s) (h2:StepR (rdExpr l (big l)) k1 er1 es er4 v4 es4) (h3:CondR C er4 es4 er5 v5 es5) :
  match actE l K O I k0 k1 C es with
  | .ok (a',es')=>er5=none∧(⟨K,s,O,I,v4,v5⟩:Actn)=a'∧es5=es'
  | .error x=>er5=some (x,8):=act_end h1 h2 h3
theorem CondR.none {l:List Frm} {ks:List Nat} {n:Nat} (h:¬ ks.length>n) {er:Option (Int × Int)} {es:List Exp}:CondR (rdCond l ks n) er es er (-1) es:=by
 cases er with
 | some x=>rfl
 | none=>
  simp only [CondR,cond_no h];exact ⟨trivial,trivial,trivial⟩
theorem CondR.some {l:List Frm} {ks:List Nat} {n:Nat} (h:ks.length>n) {er er2:Option (Int × Int)} {es es2:List Exp} {v:Int} (hs:StepR (rdExpr l (big l)) (ks.getD n 0) er es er2 v es2):CondR (rdCond l ks n) er es er2 v es2:=by
 cases er with
 | some x=>exact hs
 | none=>
  simp only [StepR] at hs;simp only [CondR,cond_yes h];unfold rdE;cases he:rdExpr l (big l) (ks.getD n 0) es with
  | error a=>
   rw [he] at hs;exact hs
  | ok q=>
   rw [he] at hs;exact hs
set_option maxRecDepth 100000 in
set_option maxHeartbeats 16000000 in
theorem dact_put2 {c:Dx} (hc:c.Ok) {n:Nat} (hn:n<c.fs.length) {p:PV} {X:List Rw} {w:World} (h:DrS c p none X w) (hN:p.many+c.sz n≤999) {wd:ByteArray} {k0 k1:Nat} (hh:headF c.l n=some (wd,[k0,k1])) (n1:wd=(⟨#[112,117,116]⟩:ByteArray)) :
  Calls Tryz.prog 104 #[.pointer (some ⟨c.B,0,none⟩),.int .i64 (n:Int)] w (DaPost c p X n):=by
 have HN:=hidI hN;have hz:=hc.kids_sz hn;have HZ:=hidI hz;have hkl:=hc.kids_lt hn;have e1:(n:Int)<(c.fs.length:Int):=by omega
 have e2:(0:Int)≤(n:Int):=by omega
 obtain ⟨g,o,cap,xp,W1,HFP,HC4,HFV,HW1,HS1,HKN⟩:=zcU hc hn h;have hkn0:=HKN.out;have CH:=hidI (zbC hc HS1.out hn);obtain ⟨m0,hks⟩:=zaW hh;have hk0:k0<c.fs.length:=(hkl k0 (by rw [hks];simp)).2;have hk1:k1<c.fs.length:=(hkl k1 (by rw [hks];simp)).2;have HZ2:Hid (1+(c.sz k0+c.sz k1)≤c.sz n):=hidI (by
  have:=HZ.out;rw [hks] at this;simp only [List.map_cons,List.sum_cons,List.map_nil,List.sum_nil] at this;omega)
 have CH2:=hidI (zbQ CH.out hh);obtain ⟨bp,bs,bl⟩:=zbU wd;rw [decide_eq_true n1] at bp;rw [decide_eq_false (by rw [n1];decide)] at bs;rw [decide_eq_false (by rw [n1];decide)] at bl;have HR:Hid (rdAct c.l n (p.xs.map Prod.fst)=actE c.l 1 0 false k0 k1 (rdCond c.l [k0,k1] 2) (p.xs.map Prod.fst)):=hidI (rdAct_put hh n1 (.inl rfl));clear h hn hN hz hkl hkn0 CH hks hh n1;have hw2:IntKind.i64.wrap (1+1)=2:=by decide
 have hw3:IntKind.i64.wrap 2=2:=by decide
 go_enter Tryz.func104,Tryz.ntmps104
 go_wp2_with (first
  | (go_at_call 54;rw [HW1.out];refine CH2.out.mono ?_;rintro e w2 ⟨kv,rfl,hkv,hb2⟩;obtain ⟨_,qa,qc,rfl,_⟩:=id hkv;obtain ⟨kb,ko,rfl,_,_⟩:=zaB hkv (HS1.out.on hb2).below (i:=0) (k:=k0) rfl;have HKV:=hidI hkv;simp only [List.length_cons,List.length_nil,Nat.zero_add,Nat.reduceAdd];have HS2:=hidI (HS1.out.on hb2);have hs2:=HS1.out.on hb2;clear hb2 CH2;have r0:=hs2.vcell (j:=0) rfl;have z0:=hs2.vfree 0;have r1:=hs2.vcell (j:=1) rfl;have z1:=hs2.vfree 1;have r2:=hs2.vcell (j:=2) rfl;have z2:=hs2.vfree 2;have r3:=hs2.vcell (j:=3) rfl;have z3:=hs2.vfree 3;have r4:=hs2.vcell (j:=4) rfl;have z4:=hs2.vfree 4;have r5:=hs2.vcell (j:=5) rfl;have z5:=hs2.vfree 5;obtain ⟨_,_,e9,kq0,_⟩:=zaB HKV.out (hs2.setv (j:=0) (.int .u8 1)).below (i:=0) (k:=k0) rfl;cases e9;replace kq0:(w2.setCell ⟨w.heap.size+1,0,none⟩ (.int .u8 1)).cell? ⟨kb,ko,none⟩=some (.int .i64 (k0:Int)):=kq0;clear hs2 hkv)
  | (go_at_call 58;refine Calls.mono (zbS hc (HS2.out.setv (j:=0) (.int .u8 1)) hk0) ?_;rintro e w3 ⟨s,er1,rfl,h3,hsm,hnr⟩;have H3:=hidI h3;have HSM:=hidI hsm;have HNR:=hidI hnr;clear r0 r1 r2 r3 r4 r5 z0 z1 z2 z3 z4 z5 kq0 hsm hnr;have r1:=h3.vcell (j:=1) rfl;have z1:=h3.vfree 1;obtain ⟨_,_,e9,kq1,_⟩:=zaB HKV.out (h3.setv (j:=1) (.string s)).below (i:=1) (k:=k1) rfl;cases e9;clear h3)
  | (go_at_call 102;refine Calls.mono (zbK hc hk1 p er1 _ _ (H3.out.setv (j:=1) (.string s)) (by have:=HZ2.out;have:=HN.out;omega)) ?_;rintro e w4 ⟨p4,er4,v4,rfl,h4,d1,d2,d3,hm4,hs4⟩;have H4:=hidI h4;have HD4:=hidI (And.intro d1 (And.intro d2 d3));have HM4:=hidI hm4;have HS4:=hidI hs4;clear r1 z1 kq1 H3 d1 d2 d3 hm4 hs4;have r0:=h4.vcell (j:=0) rfl;have z0:=h4.vfree 0;have r1:=h4.vcell (j:=1) rfl;have z1:=h4.vfree 1;have r2:=h4.vcell (j:=2) rfl;have z2:=h4.vfree 2;have r3:=h4.vcell (j:=3) rfl;have z3:=h4.vfree 3;have r4:=h4.vcell (j:=4) rfl;have z4:=h4.vfree 4;have r5:=h4.vcell (j:=5) rfl;have z5:=h4.vfree 5;have q0:=h4.less.vcell (j:=0) rfl;have u0:=h4.less.vfree 0;have q1:=h4.less.vcell (j:=1) rfl;have u1:=h4.less.vfree 1;have q2:=h4.less.vcell (j:=2) rfl;have u2:=h4.less.vfree 2;have q3:=h4.less.vcell (j:=3) rfl;have u3:=h4.less.vfree 3;have q4:=h4.less.vcell (j:=4) rfl;have u4:=h4.less.vfree 4;have q5:=h4.less.vcell (j:=5) rfl;have u5:=h4.less.vfree 5;clear h4))
 refine bodyPost_ret (v:=.agg #[.int .u8 1,.string s,.int .u8 0,.bool false,.int .i64 v4,.int .i64 (-1)]) ?_ rfl ?_
 ·rw [zaC rfl];have hF:=(H4.out.setv (j:=4) (.int .i64 v4)).less.fill6r (.int .u8 1) (.string s) (.int .u8 0) (.bool false) (.int .i64 v4) (.int .i64 (-1));exact zeE _ _ _ _ _ _ _ _ (hF.vcell (j:=0) rfl) (hF.vcell (j:=1) rfl) (hF.vcell (j:=2) rfl) (hF.vcell (j:=3) rfl) (hF.vcell (j:=4) rfl) (hF.vcell (j:=5) rfl)
 ·refine ⟨p4,er4,⟨1,s,0,false,v4, -1⟩,rfl,(H4.out.setv (j:=4) (.int .i64 v4)).less.fill6 _ _ _ _ _ _,HD4.out.1,HD4.out.2.1,HD4.out.2.2,by have:=HZ2.out;have:=HM4.out;omega,⟨by show 1<256;omega,by show 0<256;omega,HSM.out⟩,?_⟩;rw [HR.out];exact zdT HNR.out HS4.out (CondR.none (by simp))
set_option maxRecDepth 100000 in
set_option maxHeartbeats 16000000 in
theorem dact_put3 {c:Dx} (hc:c.Ok) {n:Nat} (hn:n<c.fs.length) {p:PV} {X:List Rw} {w:World} (h:DrS c p none X w) (hN:p.many+c.sz n≤999) {wd:ByteArray} {k0 k1 k2:Nat} (hh:headF c.l n=some (wd,[k0,k1,k2])) (n1:wd=(⟨#[112,117,116]⟩:ByteArray)) :
  Calls Tryz.prog 104 #[.pointer (some ⟨c.B,0,none⟩),.int .i64 (n:Int)] w (DaPost c p X n):=by
 have HN:=hidI hN;have hz:=hc.kids_sz hn;have HZ:=hidI hz;have hkl:=hc.kids_lt hn;have e1:(n:Int)<(c.fs.length:Int):=by omega
 have e2:(0:Int)≤(n:Int):=by omega
 obtain ⟨g,o,cap,xp,W1,HFP,HC4,HFV,HW1,HS1,HKN⟩:=zcU hc hn h;have hkn0:=HKN.out;have CH:=hidI (zbC hc HS1.out hn);obtain ⟨m0,hks⟩:=zaW hh;have hk0:k0<c.fs.length:=(hkl k0 (by rw [hks];simp)).2;have hk1:k1<c.fs.length:=(hkl k1 (by rw [hks];simp)).2;have hk2:k2<c.fs.length:=(hkl k2 (by rw [hks];simp)).2;have HZ2:Hid (1+(c.sz k0+c.sz k1+c.sz k2)≤c.sz n):=hidI (by
  have:=HZ.out;rw [hks] at this;simp only [List.map_cons,List.sum_cons,List.map_nil,List.sum_nil] at this;omega)
 have CH2:=hidI (zbQ CH.out hh);obtain ⟨bp,bs,bl⟩:=zbU wd;rw [decide_eq_true n1] at bp;rw [decide_eq_false (by rw [n1];decide)] at bs;rw [decide_eq_false (by rw [n1];decide)] at bl;have HR:Hid (rdAct c.l n (p.xs.map Prod.fst)=actE c.l 1 0 false k0 k1 (rdCond c.l [k0,k1,k2] 2) (p.xs.map Prod.fst)):=hidI (rdAct_put hh n1 (.inr rfl));clear h hn hN hz hkl hkn0 CH hks hh n1;have hw2:IntKind.i64.wrap (1+1)=2:=by decide
 have hw3:IntKind.i64.wrap 2=2:=by decide
 go_enter Tryz.func104,Tryz.ntmps104
 go_wp2_with (first
  | (go_at_call 54;rw [HW1.out];refine CH2.out.mono ?_;rintro e w2 ⟨kv,rfl,hkv,hb2⟩;obtain ⟨_,qa,qc,rfl,_⟩:=id hkv;obtain ⟨kb,ko,rfl,_,_⟩:=zaB hkv (HS1.out.on hb2).below (i:=0) (k:=k0) rfl;have HKV:=hidI hkv;simp only [List.length_cons,List.length_nil,Nat.zero_add,Nat.reduceAdd];have HS2:=hidI (HS1.out.on hb2);have hs2:=HS1.out.on hb2;clear hb2 CH2;have r0:=hs2.vcell (j:=0) rfl;have z0:=hs2.vfree 0;have r1:=hs2.vcell (j:=1) rfl;have z1:=hs2.vfree 1;have r2:=hs2.vcell (j:=2) rfl;have z2:=hs2.vfree 2;have r3:=hs2.vcell (j:=3) rfl;have z3:=hs2.vfree 3;have r4:=hs2.vcell (j:=4) rfl;have z4:=hs2.vfree 4;have r5:=hs2.vcell (j:=5) rfl;have z5:=hs2.vfree 5;obtain ⟨_,_,e9,kq0,_⟩:=zaB HKV.out (hs2.setv (j:=0) (.int .u8 1)).below (i:=0) (k:=k0) rfl;cases e9;replace kq0:(w2.setCell ⟨w.heap.size+1,0,none⟩ (.int .u8 1)).cell? ⟨kb,ko,none⟩=some (.int .i64 (k0:Int)):=kq0;clear hs2 hkv)
  | (go_at_call 58;refine Calls.mono (zbS hc (HS2.out.setv (j:=0) (.int .u8 1)) hk0) ?_;rintro e w3 ⟨s,er1,rfl,h3,hsm,hnr⟩;have H3:=hidI h3;have HSM:=hidI hsm;have HNR:=hidI hnr;clear r0 r1 r2 r3 r4 r5 z0 z1 z2 z3 z4 z5 kq0 hsm hnr;have r1:=h3.vcell (j:=1) rfl;have z1:=h3.vfree 1;obtain ⟨_,_,e9,kq1,_⟩:=zaB HKV.out (h3.setv (j:=1) (.string s)).below (i:=1) (k:=k1) rfl;cases e9;clear h3)
  | (go_at_call 102;refine Calls.mono (zbK hc hk1 p er1 _ _ (H3.out.setv (j:=1) (.string s)) (by have:=HZ2.out;have:=HN.out;omega)) ?_;rintro e w4 ⟨p4,er4,v4,rfl,h4,d1,d2,d3,hm4,hs4⟩;have H4:=hidI h4;have HD4:=hidI (And.intro d1 (And.intro d2 d3));have HM4:=hidI hm4;have HS4:=hidI hs4;clear r1 z1 kq1 H3 d1 d2 d3 hm4 hs4;have r0:=h4.vcell (j:=0) rfl;have z0:=h4.vfree 0;have r1:=h4.vcell (j:=1) rfl;have z1:=h4.vfree 1;have r2:=h4.vcell (j:=2) rfl;have z2:=h4.vfree 2;have r3:=h4.vcell (j:=3) rfl;have z3:=h4.vfree 3;have r4:=h4.vcell (j:=4) rfl;have z4:=h4.vfree 4;have r5:=h4.vcell (j:=5) rfl;have z5:=h4.vfree 5;obtain ⟨_,_,e9,kq2,_⟩:=zaB HKV.out (h4.setv (j:=4) (.int .i64 v4)).below (i:=2) (k:=k2) rfl;cases e9;clear h4;refine Hid.out ?_))
 refine hidI ?_
 go_wp2_with (go_at_call 102;refine Calls.mono (zbK hc hk2 p4 er4 _ _ (H4.out.setv (j:=4) (.int .i64 v4)) (by have:=HZ2.out;have:=HN.out;have:=HM4.out;omega)) ?_;rintro e w5 ⟨p5,er5,v5,rfl,h5,d1,d2,d3,hm5,hs5⟩;have H5:=hidI h5;have HD5:=hidI (And.intro d1 (And.intro d2 d3));have HM5:=hidI hm5;have HS5:=hidI hs5;clear r0 r1 r2 r3 r4 r5 z0 z1 z2 z3 z4 z5 kq2 d1 d2 d3 hm5 hs5;have r0:=h5.vcell (j:=0) rfl;have z0:=h5.vfree 0;have r1:=h5.vcell (j:=1) rfl;have z1:=h5.vfree 1;have r2:=h5.vcell (j:=2) rfl;have z2:=h5.vfree 2;have r3:=h5.vcell (j:=3) rfl;have z3:=h5.vfree 3;have r4:=h5.vcell (j:=4) rfl;have z4:=h5.vfree 4;have r5:=h5.vcell (j:=5) rfl;have z5:=h5.vfree 5;have q0:=h5.less.vcell (j:=0) rfl;have u0:=h5.less.vfree 0;have q1:=h5.less.vcell (j:=1) rfl;have u1:=h5.less.vfree 1;have q2:=h5.less.vcell (j:=2) rfl;have u2:=h5.less.vfree 2;have q3:=h5.less.vcell (j:=3) rfl;have u3:=h5.less.vfree 3;have q4:=h5.less.vcell (j:=4) rfl;have u4:=h5.less.vfree 4;have q5:=h5.less.vcell (j:=5) rfl;have u5:=h5.less.vfree 5;clear h5)
 refine bodyPost_ret (v:=.agg #[.int .u8 1,.string s,.int .u8 0,.bool false,.int .i64 v4,.int .i64 v5]) ?_ rfl ?_
 ·rw [zaC rfl];have hF:=(H5.out.setv (j:=5) (.int .i64 v5)).less.fill6r (.int .u8 1) (.string s) (.int .u8 0) (.bool false) (.int .i64 v4) (.int .i64 v5);exact zeE _ _ _ _ _ _ _ _ (hF.vcell (j:=0) rfl) (hF.vcell (j:=1) rfl) (hF.vcell (j:=2) rfl) (hF.vcell (j:=3) rfl) (hF.vcell (j:=4) rfl) (hF.vcell (j:=5) rfl)
 ·refine ⟨p5,er5,⟨1,s,0,false,v4,v5⟩,rfl,(H5.out.setv (j:=5) (.int .i64 v5)).less.fill6 _ _ _ _ _ _,HD5.out.1.trans HD4.out.1,HD5.out.2.1.trans HD4.out.2.1,HD5.out.2.2.trans HD4.out.2.2,by have:=HZ2.out;have:=HM4.out;have:=HM5.out;omega,⟨by show 1<256;omega,by show 0<256;omega,HSM.out⟩,?_⟩;rw [HR.out];exact zdT HNR.out HS4.out (CondR.some (by simp) HS5.out)
set_option maxRecDepth 100000 in
set_option maxHeartbeats 16000000 in
theorem dact_push4_red {c:Dx} (hc:c.Ok) {n:Nat} (hn:n<c.fs.length) {p:PV} {X:List Rw} {w:World} (h:DrS c p none X w) (hN:p.many+c.sz n≤999) {wd:ByteArray} {k0 k1 k2 k3:Nat} (hh:headF c.l n=some (wd,[k0,k1,k2,k3])) (n1:wd=(⟨#[112,117,115,104]⟩:ByteArray)) (hr:redN (opOf (wordF c.l k1))=false) :
  Calls Tryz.prog 104 #[.pointer (some ⟨c.B,0,none⟩),.int .i64 (n:Int)] w (DaPost c p X n):=by
 have HN:=hidI hN;have hz:=hc.kids_sz hn;have HZ:=hidI hz;have hkl:=hc.kids_lt hn;have e1:(n:Int)<(c.fs.length:Int):=by omega
 have e2:(0:Int)≤(n:Int):=by omega
 obtain ⟨g,o,cap,xp,W1,HFP,HC4,HFV,HW1,HS1,HKN⟩:=zcU hc hn h;have hkn0:=HKN.out;have CH:=hidI (zbC hc HS1.out hn);obtain ⟨m0,hks⟩:=zaW hh;have hk0:k0<c.fs.length:=(hkl k0 (by rw [hks];simp)).2;have hk1:k1<c.fs.length:=(hkl k1 (by rw [hks];simp)).2;have hk2:k2<c.fs.length:=(hkl k2 (by rw [hks];simp)).2;have hk3:k3<c.fs.length:=(hkl k3 (by rw [hks];simp)).2;have HZ2:Hid (1+(c.sz k0+c.sz k1+c.sz k2+c.sz k3)≤c.sz n):=hidI (by
  have:=HZ.out;rw [hks] at this;simp only [List.map_cons,List.sum_cons,List.map_nil,List.sum_nil] at this;omega)
 have CH2:=hidI (zbQ CH.out hh);obtain ⟨bp,bs,bl⟩:=zbU wd;rw [decide_eq_false (by rw [n1];decide)] at bp;rw [decide_eq_true n1] at bs;rw [decide_eq_false (by rw [n1];decide)] at bl;obtain ⟨o9,ho⟩:∃ o9,opOf (wordF c.l k1)=o9:=⟨_,rfl⟩;have ho2:o9≤19:=ho▸zbW _;obtain ⟨d9,hdw⟩:∃ d9,wordF c.l k2=d9:=⟨_,rfl⟩;have HR:=hidI ((push_err (es:=p.xs.map Prod.fst) hh (by rw [n1];decide) (.inl ⟨n1,.inl rfl⟩) (.inl hr)).trans (congrArg _ HFP.out));obtain ⟨bo,bi⟩:=zcG d9;have HHO:=hidI ho;have HHR:=hidI hr;have HHW:=hidI hdw;clear bo bi;clear h hn hN hz hkl hkn0 CH hks hh n1 hr ho hdw;go_enter Tryz.func104,Tryz.ntmps104
 go_wp2_with (first
  | (go_at_call 54;rw [HW1.out];refine CH2.out.mono ?_;rintro e w2 ⟨kv,rfl,hkv,hb2⟩;obtain ⟨_,qa,qc,rfl,_⟩:=id hkv;obtain ⟨kb,ko,rfl,_,_⟩:=zaB hkv (HS1.out.on hb2).below (i:=0) (k:=k0) rfl;have HKV:=hidI hkv;simp only [List.length_cons,List.length_nil,Nat.zero_add,Nat.reduceAdd];have HS2:=hidI (HS1.out.on hb2);have hs2:=HS1.out.on hb2;clear hb2 CH2;obtain ⟨_,_,e9,kq1,_⟩:=zaB HKV.out hs2.below (i:=1) (k:=k1) rfl;cases e9;clear hs2 hkv)
  | (go_at_call 103;refine Calls.mono (red_at hc hk1 HHO.out HHR.out HS2.out) ?_;rintro e w3 ⟨rfl,hb3⟩;have HS3:=hidI (HS2.out.on hb3);have hs3:=HS2.out.on hb3;clear kq1 hb3;obtain ⟨_,_,e9,kq2,_⟩:=zaB HKV.out hs3.below (i:=2) (k:=k2) rfl;cases e9;have r0:=hs3.vcell (j:=0) rfl;have z0:=hs3.vfree 0;have r1:=hs3.vcell (j:=1) rfl;have z1:=hs3.vfree 1;have r2:=hs3.vcell (j:=2) rfl;have z2:=hs3.vfree 2;have r3:=hs3.vcell (j:=3) rfl;have z3:=hs3.vfree 3;have r4:=hs3.vcell (j:=4) rfl;have z4:=hs3.vfree 4;have r5:=hs3.vcell (j:=5) rfl;have z5:=hs3.vfree 5;have b0:=hs3.cell (j:=0) (u:=c.fv) rfl;rw [HFV.out] at b0;have y4:=HC4.out _ hs3.below;clear hs3)
  | (go_at_call 154;refine Calls.mono (zdN hc hk2 HHW.out HS3.out) ?_;rintro e w9 ⟨rfl,hw⟩;obtain rfl:=hw.symm)
  | (go_at_call 57;refine Calls.mono (zbG HS3.out xp 8) ?_;rintro e w6 ⟨rfl,h6⟩;have H6:=hidI h6;clear r0 r1 r2 r3 r4 r5 z0 z1 z2 z3 z4 z5;have r0:=h6.vcell (j:=0) rfl;have z0:=h6.vfree 0;have r1:=h6.vcell (j:=1) rfl;have z1:=h6.vfree 1;have r2:=h6.vcell (j:=2) rfl;have z2:=h6.vfree 2;have r3:=h6.vcell (j:=3) rfl;have z3:=h6.vfree 3;have r4:=h6.vcell (j:=4) rfl;have z4:=h6.vfree 4;have r5:=h6.vcell (j:=5) rfl;have z5:=h6.vfree 5;have q0:=h6.less.vcell (j:=0) rfl;have u0:=h6.less.vfree 0;have q1:=h6.less.vcell (j:=1) rfl;have u1:=h6.less.vfree 1;have q2:=h6.less.vcell (j:=2) rfl;have u2:=h6.less.vfree 2;have q3:=h6.less.vcell (j:=3) rfl;have u3:=h6.less.vfree 3;have q4:=h6.less.vcell (j:=4) rfl;have u4:=h6.less.vfree 4;have q5:=h6.less.vcell (j:=5) rfl;have u5:=h6.less.vfree 5;clear h6))
 refine bodyPost_ret (v:=.agg #[.int .u8 0,.string ⟨#[]⟩,.int .u8 0,.bool false,.int .i64 (-1),.int .i64 (-1)]) ?_ rfl ?_
 ·rw [zaC rfl]
  (go_simp<;>first|done|rfl)
 ·exact DaPost.bad (a:=⟨0,⟨#[]⟩,0,false, -1, -1⟩) HR.out (H6.out.less.fill6 _ _ _ _ _ _) rfl rfl rfl (by omega) ⟨by decide,by decide,by unfold SmlN;decide⟩
set_option maxRecDepth 100000 in
set_option maxHeartbeats 16000000 in
theorem dact_push4_dir {c:Dx} (hc:c.Ok) {n:Nat} (hn:n<c.fs.length) {p:PV} {X:List Rw} {w:World} (h:DrS c p none X w) (hN:p.many+c.sz n≤999) {wd:ByteArray} {k0 k1 k2 k3:Nat} (hh:headF c.l n=some (wd,[k0,k1,k2,k3])) (n1:wd=(⟨#[112,117,115,104]⟩:ByteArray)) (hr:redN (opOf (wordF c.l k1))=true) (hd:¬ (wordF c.l k2=(⟨#[111,117,116]⟩:ByteArray)∨wordF c.l k2=(⟨#[105,110]⟩:ByteArray))) :
  Calls Tryz.prog 104 #[.pointer (some ⟨c.B,0,none⟩),.int .i64 (n:Int)] w (DaPost c p X n):=by
 have HN:=hidI hN;have hz:=hc.kids_sz hn;have HZ:=hidI hz;have hkl:=hc.kids_lt hn;have e1:(n:Int)<(c.fs.length:Int):=by omega
 have e2:(0:Int)≤(n:Int):=by omega
 obtain ⟨g,o,cap,xp,W1,HFP,HC4,HFV,HW1,HS1,HKN⟩:=zcU hc hn h;have hkn0:=HKN.out;have CH:=hidI (zbC hc HS1.out hn);obtain ⟨m0,hks⟩:=zaW hh;have hk0:k0<c.fs.length:=(hkl k0 (by rw [hks];simp)).2;have hk1:k1<c.fs.length:=(hkl k1 (by rw [hks];simp)).2;have hk2:k2<c.fs.length:=(hkl k2 (by rw [hks];simp)).2;have hk3:k3<c.fs.length:=(hkl k3 (by rw [hks];simp)).2;have HZ2:Hid (1+(c.sz k0+c.sz k1+c.sz k2+c.sz k3)≤c.sz n):=hidI (by
  have:=HZ.out;rw [hks] at this;simp only [List.map_cons,List.sum_cons,List.map_nil,List.sum_nil] at this;omega)
 have CH2:=hidI (zbQ CH.out hh);obtain ⟨bp,bs,bl⟩:=zbU wd;rw [decide_eq_false (by rw [n1];decide)] at bp;rw [decide_eq_true n1] at bs;rw [decide_eq_false (by rw [n1];decide)] at bl;obtain ⟨o9,ho⟩:∃ o9,opOf (wordF c.l k1)=o9:=⟨_,rfl⟩;have ho2:o9≤19:=ho▸zbW _;obtain ⟨d9,hdw⟩:∃ d9,wordF c.l k2=d9:=⟨_,rfl⟩;have HR:=hidI ((push_err (es:=p.xs.map Prod.fst) hh (by rw [n1];decide) (.inl ⟨n1,.inl rfl⟩) (.inr hd)).trans (congrArg _ HFP.out));obtain ⟨bo,bi⟩:=zcG d9;have HHO:=hidI ho;have HHR:=hidI hr;have HHW:=hidI hdw;rw [hdw] at hd;rw [decide_eq_false (fun h=>hd (.inl h))] at bo;rw [decide_eq_false (fun h=>hd (.inr h))] at bi;clear hd;clear h hn hN hz hkl hkn0 CH hks hh n1 hr ho hdw;go_enter Tryz.func104,Tryz.ntmps104
 go_wp2_with (first
  | (go_at_call 54;rw [HW1.out];refine CH2.out.mono ?_;rintro e w2 ⟨kv,rfl,hkv,hb2⟩;obtain ⟨_,qa,qc,rfl,_⟩:=id hkv;obtain ⟨kb,ko,rfl,_,_⟩:=zaB hkv (HS1.out.on hb2).below (i:=0) (k:=k0) rfl;have HKV:=hidI hkv;simp only [List.length_cons,List.length_nil,Nat.zero_add,Nat.reduceAdd];have HS2:=hidI (HS1.out.on hb2);have hs2:=HS1.out.on hb2;clear hb2 CH2;obtain ⟨_,_,e9,kq1,_⟩:=zaB HKV.out hs2.below (i:=1) (k:=k1) rfl;cases e9;clear hs2 hkv)
  | (go_at_call 103;refine Calls.mono (red_at hc hk1 HHO.out HHR.out HS2.out) ?_;rintro e w3 ⟨rfl,hb3⟩;have HS3:=hidI (HS2.out.on hb3);have hs3:=HS2.out.on hb3;clear kq1 hb3;obtain ⟨_,_,e9,kq2,_⟩:=zaB HKV.out hs3.below (i:=2) (k:=k2) rfl;cases e9;have r0:=hs3.vcell (j:=0) rfl;have z0:=hs3.vfree 0;have r1:=hs3.vcell (j:=1) rfl;have z1:=hs3.vfree 1;have r2:=hs3.vcell (j:=2) rfl;have z2:=hs3.vfree 2;have r3:=hs3.vcell (j:=3) rfl;have z3:=hs3.vfree 3;have r4:=hs3.vcell (j:=4) rfl;have z4:=hs3.vfree 4;have r5:=hs3.vcell (j:=5) rfl;have z5:=hs3.vfree 5;have b0:=hs3.cell (j:=0) (u:=c.fv) rfl;rw [HFV.out] at b0;have y4:=HC4.out _ hs3.below;clear hs3)
  | (go_at_call 154;refine Calls.mono (zdN hc hk2 HHW.out HS3.out) ?_;rintro e w9 ⟨rfl,hw⟩;obtain rfl:=hw.symm)
  | (go_at_call 57;refine Calls.mono (zbG HS3.out xp 8) ?_;rintro e w6 ⟨rfl,h6⟩;have H6:=hidI h6;clear r0 r1 r2 r3 r4 r5 z0 z1 z2 z3 z4 z5;have r0:=h6.vcell (j:=0) rfl;have z0:=h6.vfree 0;have r1:=h6.vcell (j:=1) rfl;have z1:=h6.vfree 1;have r2:=h6.vcell (j:=2) rfl;have z2:=h6.vfree 2;have r3:=h6.vcell (j:=3) rfl;have z3:=h6.vfree 3;have r4:=h6.vcell (j:=4) rfl;have z4:=h6.vfree 4;have r5:=h6.vcell (j:=5) rfl;have z5:=h6.vfree 5;have q0:=h6.less.vcell (j:=0) rfl;have u0:=h6.less.vfree 0;have q1:=h6.less.vcell (j:=1) rfl;have u1:=h6.less.vfree 1;have q2:=h6.less.vcell (j:=2) rfl;have u2:=h6.less.vfree 2;have q3:=h6.less.vcell (j:=3) rfl;have u3:=h6.less.vfree 3;have q4:=h6.less.vcell (j:=4) rfl;have u4:=h6.less.vfree 4;have q5:=h6.less.vcell (j:=5) rfl;have u5:=h6.less.vfree 5;clear h6))
 refine bodyPost_ret (v:=.agg #[.int .u8 0,.string ⟨#[]⟩,.int .u8 0,.bool false,.int .i64 (-1),.int .i64 (-1)]) ?_ rfl ?_
 ·rw [zaC rfl]
  (go_simp<;>first|done|rfl)
 ·exact DaPost.bad (a:=⟨0,⟨#[]⟩,0,false, -1, -1⟩) HR.out (H6.out.less.fill6 _ _ _ _ _ _) rfl rfl rfl (by omega) ⟨by decide,by decide,by unfold SmlN;decide⟩
set_option maxRecDepth 100000 in
set_option maxHeartbeats 16000000 in
theorem dact_push4_out {c:Dx} (hc:c.Ok) {n:Nat} (hn:n<c.fs.length) {p:PV} {X:List Rw} {w:World} (h:DrS c p none X w) (hN:p.many+c.sz n≤999) {wd:ByteArray} {k0 k1 k2 k3:Nat} (hh:headF c.l n=some (wd,[k0,k1,k2,k3])) (n1:wd=(⟨#[112,117,115,104]⟩:ByteArray)) (hr:redN (opOf (wordF c.l k1))=true) (hd:wordF c.l k2=(⟨#[111,117,116]⟩:ByteArray)) :
  Calls Tryz.prog 104 #[.pointer (some ⟨c.B,0,none⟩),.int .i64 (n:Int)] w (DaPost c p X n):=by
 have HN:=hidI hN;have hz:=hc.kids_sz hn;have HZ:=hidI hz;have hkl:=hc.kids_lt hn;have e1:(n:Int)<(c.fs.length:Int):=by omega
 have e2:(0:Int)≤(n:Int):=by omega
 obtain ⟨g,o,cap,xp,W1,HFP,HC4,HFV,HW1,HS1,HKN⟩:=zcU hc hn h;have hkn0:=HKN.out;have CH:=hidI (zbC hc HS1.out hn);obtain ⟨m0,hks⟩:=zaW hh;have hk0:k0<c.fs.length:=(hkl k0 (by rw [hks];simp)).2;have hk1:k1<c.fs.length:=(hkl k1 (by rw [hks];simp)).2;have hk2:k2<c.fs.length:=(hkl k2 (by rw [hks];simp)).2;have hk3:k3<c.fs.length:=(hkl k3 (by rw [hks];simp)).2;have HZ2:Hid (1+(c.sz k0+c.sz k1+c.sz k2+c.sz k3)≤c.sz n):=hidI (by
  have:=HZ.out;rw [hks] at this;simp only [List.map_cons,List.sum_cons,List.map_nil,List.sum_nil] at this;omega)
 have CH2:=hidI (zbQ CH.out hh);obtain ⟨bp,bs,bl⟩:=zbU wd;rw [decide_eq_false (by rw [n1];decide)] at bp;rw [decide_eq_true n1] at bs;rw [decide_eq_false (by rw [n1];decide)] at bl;obtain ⟨o9,ho⟩:∃ o9,opOf (wordF c.l k1)=o9:=⟨_,rfl⟩;have ho2:o9≤19:=ho▸zbW _;obtain ⟨d9,hdw⟩:∃ d9,wordF c.l k2=d9:=⟨_,rfl⟩;have HR:=hidI (push_ok (es:=p.xs.map Prod.fst) hh (by rw [n1];decide) (.inl ⟨n1,.inl rfl⟩) hr (.inl hd) (if_neg (by rw [n1];decide)) ho (by rw [hd];decide:_=false));obtain ⟨bo,bi⟩:=zcG d9;have HHO:=hidI ho;have HHR:=hidI hr;have HHW:=hidI hdw;rw [hdw] at hd;rw [decide_eq_true hd] at bo;rw [decide_eq_false (by rw [hd];decide)] at bi;clear hd;clear h hn hN hz hkl hkn0 CH hks hh n1 hr ho hdw;have hw2:IntKind.i64.wrap (3+1)=4:=by decide
 go_enter Tryz.func104,Tryz.ntmps104
 go_wp2_with (first
  | (go_at_call 54;rw [HW1.out];refine CH2.out.mono ?_;rintro e w2 ⟨kv,rfl,hkv,hb2⟩;obtain ⟨_,qa,qc,rfl,_⟩:=id hkv;obtain ⟨kb,ko,rfl,_,_⟩:=zaB hkv (HS1.out.on hb2).below (i:=0) (k:=k0) rfl;have HKV:=hidI hkv;simp only [List.length_cons,List.length_nil,Nat.zero_add,Nat.reduceAdd];have HS2:=hidI (HS1.out.on hb2);have hs2:=HS1.out.on hb2;clear hb2 CH2;obtain ⟨_,_,e9,kq1,_⟩:=zaB HKV.out hs2.below (i:=1) (k:=k1) rfl;cases e9;clear hs2 hkv)
  | (go_at_call 103;refine Calls.mono (red_at hc hk1 HHO.out HHR.out HS2.out) ?_;rintro e w3 ⟨rfl,hb3⟩;have HS3:=hidI (HS2.out.on hb3);have hs3:=HS2.out.on hb3;clear kq1 hb3;obtain ⟨_,_,e9,kq2,_⟩:=zaB HKV.out hs3.below (i:=2) (k:=k2) rfl;cases e9;have r0:=hs3.vcell (j:=0) rfl;have z0:=hs3.vfree 0;have r1:=hs3.vcell (j:=1) rfl;have z1:=hs3.vfree 1;have r2:=hs3.vcell (j:=2) rfl;have z2:=hs3.vfree 2;have r3:=hs3.vcell (j:=3) rfl;have z3:=hs3.vfree 3;have r4:=hs3.vcell (j:=4) rfl;have z4:=hs3.vfree 4;have r5:=hs3.vcell (j:=5) rfl;have z5:=hs3.vfree 5;obtain ⟨_,_,e9,kq0,_⟩:=zaB HKV.out (((hs3.setv (j:=0) (.int .u8 2)).setv (j:=2) (.int .u8 (o9:Int))).setv (j:=3) (.bool false)).below (i:=0) (k:=k0) rfl;cases e9;replace kq0:(((w3.setCell ⟨w.heap.size+1,0,none⟩ (.int .u8 2)).setCell ⟨w.heap.size+1,2,none⟩ (.int .u8 (o9:Int))).setCell ⟨w.heap.size+1,3,none⟩ (.bool false)).cell? ⟨kb,ko,none⟩=some (.int .i64 (k0:Int)):=kq0;clear hs3)
  | (go_at_call 154;refine Calls.mono (zdN hc hk2 HHW.out HS3.out) ?_;rintro e w9 ⟨rfl,hw⟩;obtain rfl:=hw.symm)
  | (go_at_call 58;refine Calls.mono (zbS hc (((HS3.out.setv (j:=0) (.int .u8 2)).setv (j:=2) (.int .u8 (o9:Int))).setv (j:=3) (.bool false)) hk0) ?_;rintro e w4 ⟨s,er1,rfl,h4,hsm,hnr⟩;have H4:=hidI h4;have HSM:=hidI hsm;have HNR:=hidI hnr;clear r0 r1 r2 r3 r4 r5 z0 z1 z2 z3 z4 z5 kq0 kq2 hsm hnr;have r1:=h4.vcell (j:=1) rfl;have z1:=h4.vfree 1;obtain ⟨_,_,e9,kq3,_⟩:=zaB HKV.out (h4.setv (j:=1) (.string s)).below (i:=3) (k:=k3) rfl;cases e9;clear h4)
  | (go_at_call 102;refine Calls.mono (zbK hc hk3 p er1 _ _ (H4.out.setv (j:=1) (.string s)) (by have:=HZ2.out;have:=HN.out;omega)) ?_;rintro e w5 ⟨p5,er5,v5,rfl,h5,d1,d2,d3,hm5,hs5⟩;have H5:=hidI h5;have HD5:=hidI (And.intro d1 (And.intro d2 d3));have HM5:=hidI hm5;have HS5:=hidI hs5;clear r1 z1 kq3 H4 d1 d2 d3 hm5 hs5;have r0:=h5.vcell (j:=0) rfl;have z0:=h5.vfree 0;have r1:=h5.vcell (j:=1) rfl;have z1:=h5.vfree 1;have r2:=h5.vcell (j:=2) rfl;have z2:=h5.vfree 2;have r3:=h5.vcell (j:=3) rfl;have z3:=h5.vfree 3;have r4:=h5.vcell (j:=4) rfl;have z4:=h5.vfree 4;have r5:=h5.vcell (j:=5) rfl;have z5:=h5.vfree 5;have q0:=h5.less.vcell (j:=0) rfl;have u0:=h5.less.vfree 0;have q1:=h5.less.vcell (j:=1) rfl;have u1:=h5.less.vfree 1;have q2:=h5.less.vcell (j:=2) rfl;have u2:=h5.less.vfree 2;have q3:=h5.less.vcell (j:=3) rfl;have u3:=h5.less.vfree 3;have q4:=h5.less.vcell (j:=4) rfl;have u4:=h5.less.vfree 4;have q5:=h5.less.vcell (j:=5) rfl;have u5:=h5.less.vfree 5;clear h5))
 refine bodyPost_ret (v:=.agg #[.int .u8 2,.string s,.int .u8 (o9:Int),.bool false,.int .i64 v5,.int .i64 (-1)]) ?_ rfl ?_
 ·rw [zaC rfl];have hF:=(H5.out.setv (j:=4) (.int .i64 v5)).less.fill6r (.int .u8 2) (.string s) (.int .u8 (o9:Int)) (.bool false) (.int .i64 v5) (.int .i64 (-1));exact zeE _ _ _ _ _ _ _ _ (hF.vcell (j:=0) rfl) (hF.vcell (j:=1) rfl) (hF.vcell (j:=2) rfl) (hF.vcell (j:=3) rfl) (hF.vcell (j:=4) rfl) (hF.vcell (j:=5) rfl)
 ·refine ⟨p5,er5,⟨2,s,o9,false,v5, -1⟩,rfl,(H5.out.setv (j:=4) (.int .i64 v5)).less.fill6 _ _ _ _ _ _,HD5.out.1,HD5.out.2.1,HD5.out.2.2,by have:=HZ2.out;have:=HM5.out;omega,⟨by show 2<256;omega,by show o9<256;omega,HSM.out⟩,?_⟩;rw [HR.out];exact zdT HNR.out HS5.out (CondR.none (by simp))
set_option maxRecDepth 100000 in
set_option maxHeartbeats 16000000 in
theorem dact_push4_in {c:Dx} (hc:c.Ok) {n:Nat} (hn:n<c.fs.length) {p:PV} {X:List Rw} {w:World} (h:DrS c p none X w) (hN:p.many+c.sz n≤999) {wd:ByteArray} {k0 k1 k2 k3:Nat} (hh:headF c.l n=some (wd,[k0,k1,k2,k3])) (n1:wd=(⟨#[112,117,115,104]⟩:ByteArray)) (hr:redN (opOf (wordF c.l k1))=true) (hd:wordF c.l k2=(⟨#[105,110]⟩:ByteArray)) :
  Calls Tryz.prog 104 #[.pointer (some ⟨c.B,0,none⟩),.int .i64 (n:Int)] w (DaPost c p X n):=by
 have HN:=hidI hN;have hz:=hc.kids_sz hn;have HZ:=hidI hz;have hkl:=hc.kids_lt hn;have e1:(n:Int)<(c.fs.length:Int):=by omega
 have e2:(0:Int)≤(n:Int):=by omega
 obtain ⟨g,o,cap,xp,W1,HFP,HC4,HFV,HW1,HS1,HKN⟩:=zcU hc hn h;have hkn0:=HKN.out;have CH:=hidI (zbC hc HS1.out hn);obtain ⟨m0,hks⟩:=zaW hh;have hk0:k0<c.fs.length:=(hkl k0 (by rw [hks];simp)).2;have hk1:k1<c.fs.length:=(hkl k1 (by rw [hks];simp)).2;have hk2:k2<c.fs.length:=(hkl k2 (by rw [hks];simp)).2;have hk3:k3<c.fs.length:=(hkl k3 (by rw [hks];simp)).2;have HZ2:Hid (1+(c.sz k0+c.sz k1+c.sz k2+c.sz k3)≤c.sz n):=hidI (by
  have:=HZ.out;rw [hks] at this;simp only [List.map_cons,List.sum_cons,List.map_nil,List.sum_nil] at this;omega)
 have CH2:=hidI (zbQ CH.out hh);obtain ⟨bp,bs,bl⟩:=zbU wd;rw [decide_eq_false (by rw [n1];decide)] at bp;rw [decide_eq_true n1] at bs;rw [decide_eq_false (by rw [n1];decide)] at bl;obtain ⟨o9,ho⟩:∃ o9,opOf (wordF c.l k1)=o9:=⟨_,rfl⟩;have ho2:o9≤19:=ho▸zbW _;obtain ⟨d9,hdw⟩:∃ d9,wordF c.l k2=d9:=⟨_,rfl⟩;have HR:=hidI (push_ok (es:=p.xs.map Prod.fst) hh (by rw [n1];decide) (.inl ⟨n1,.inl rfl⟩) hr (.inr hd) (if_neg (by rw [n1];decide)) ho (by rw [hd];decide:_=true));obtain ⟨bo,bi⟩:=zcG d9;have HHO:=hidI ho;have HHR:=hidI hr;have HHW:=hidI hdw;rw [hdw] at hd;rw [decide_eq_false (by rw [hd];decide)] at bo;rw [decide_eq_true hd] at bi;clear hd;clear h hn hN hz hkl hkn0 CH hks hh n1 hr ho hdw;have hw2:IntKind.i64.wrap (3+1)=4:=by decide
 go_enter Tryz.func104,Tryz.ntmps104
 go_wp2_with (first
  | (go_at_call 54;rw [HW1.out];refine CH2.out.mono ?_;rintro e w2 ⟨kv,rfl,hkv,hb2⟩;obtain ⟨_,qa,qc,rfl,_⟩:=id hkv;obtain ⟨kb,ko,rfl,_,_⟩:=zaB hkv (HS1.out.on hb2).below (i:=0) (k:=k0) rfl;have HKV:=hidI hkv;simp only [List.length_cons,List.length_nil,Nat.zero_add,Nat.reduceAdd];have HS2:=hidI (HS1.out.on hb2);have hs2:=HS1.out.on hb2;clear hb2 CH2;obtain ⟨_,_,e9,kq1,_⟩:=zaB HKV.out hs2.below (i:=1) (k:=k1) rfl;cases e9;clear hs2 hkv)
  | (go_at_call 103;refine Calls.mono (red_at hc hk1 HHO.out HHR.out HS2.out) ?_;rintro e w3 ⟨rfl,hb3⟩;have HS3:=hidI (HS2.out.on hb3);have hs3:=HS2.out.on hb3;clear kq1 hb3;obtain ⟨_,_,e9,kq2,_⟩:=zaB HKV.out hs3.below (i:=2) (k:=k2) rfl;cases e9;have r0:=hs3.vcell (j:=0) rfl;have z0:=hs3.vfree 0;have r1:=hs3.vcell (j:=1) rfl;have z1:=hs3.vfree 1;have r2:=hs3.vcell (j:=2) rfl;have z2:=hs3.vfree 2;have r3:=hs3.vcell (j:=3) rfl;have z3:=hs3.vfree 3;have r4:=hs3.vcell (j:=4) rfl;have z4:=hs3.vfree 4;have r5:=hs3.vcell (j:=5) rfl;have z5:=hs3.vfree 5;obtain ⟨_,_,e9,kq0,_⟩:=zaB HKV.out (((hs3.setv (j:=0) (.int .u8 2)).setv (j:=2) (.int .u8 (o9:Int))).setv (j:=3) (.bool true)).below (i:=0) (k:=k0) rfl;cases e9;replace kq0:(((w3.setCell ⟨w.heap.size+1,0,none⟩ (.int .u8 2)).setCell ⟨w.heap.size+1,2,none⟩ (.int .u8 (o9:Int))).setCell ⟨w.heap.size+1,3,none⟩ (.bool true)).cell? ⟨kb,ko,none⟩=some (.int .i64 (k0:Int)):=kq0;clear hs3)
  | (go_at_call 154;refine Calls.mono (zdN hc hk2 HHW.out HS3.out) ?_;rintro e w9 ⟨rfl,hw⟩;obtain rfl:=hw.symm)
  | (go_at_call 58;refine Calls.mono (zbS hc (((HS3.out.setv (j:=0) (.int .u8 2)).setv (j:=2) (.int .u8 (o9:Int))).setv (j:=3) (.bool true)) hk0) ?_;rintro e w4 ⟨s,er1,rfl,h4,hsm,hnr⟩;have H4:=hidI h4;have HSM:=hidI hsm;have HNR:=hidI hnr;clear r0 r1 r2 r3 r4 r5 z0 z1 z2 z3 z4 z5 kq0 kq2 hsm hnr;have r1:=h4.vcell (j:=1) rfl;have z1:=h4.vfree 1;obtain ⟨_,_,e9,kq3,_⟩:=zaB HKV.out (h4.setv (j:=1) (.string s)).below (i:=3) (k:=k3) rfl;cases e9;clear h4)
  | (go_at_call 102;refine Calls.mono (zbK hc hk3 p er1 _ _ (H4.out.setv (j:=1) (.string s)) (by have:=HZ2.out;have:=HN.out;omega)) ?_;rintro e w5 ⟨p5,er5,v5,rfl,h5,d1,d2,d3,hm5,hs5⟩;have H5:=hidI h5;have HD5:=hidI (And.intro d1 (And.intro d2 d3));have HM5:=hidI hm5;have HS5:=hidI hs5;clear r1 z1 kq3 H4 d1 d2 d3 hm5 hs5;have r0:=h5.vcell (j:=0) rfl;have z0:=h5.vfree 0;have r1:=h5.vcell (j:=1) rfl;have z1:=h5.vfree 1;have r2:=h5.vcell (j:=2) rfl;have z2:=h5.vfree 2;have r3:=h5.vcell (j:=3) rfl;have z3:=h5.vfree 3;have r4:=h5.vcell (j:=4) rfl;have z4:=h5.vfree 4;have r5:=h5.vcell (j:=5) rfl;have z5:=h5.vfree 5;have q0:=h5.less.vcell (j:=0) rfl;have u0:=h5.less.vfree 0;have q1:=h5.less.vcell (j:=1) rfl;have u1:=h5.less.vfree 1;have q2:=h5.less.vcell (j:=2) rfl;have u2:=h5.less.vfree 2;have q3:=h5.less.vcell (j:=3) rfl;have u3:=h5.less.vfree 3;have q4:=h5.less.vcell (j:=4) rfl;have u4:=h5.less.vfree 4;have q5:=h5.less.vcell (j:=5) rfl;have u5:=h5.less.vfree 5;clear h5))
 refine bodyPost_ret (v:=.agg #[.int .u8 2,.string s,.int .u8 (o9:Int),.bool true,.int .i64 v5,.int .i64 (-1)]) ?_ rfl ?_
 ·rw [zaC rfl];have hF:=(H5.out.setv (j:=4) (.int .i64 v5)).less.fill6r (.int .u8 2) (.string s) (.int .u8 (o9:Int)) (.bool true) (.int .i64 v5) (.int .i64 (-1));exact zeE _ _ _ _ _ _ _ _ (hF.vcell (j:=0) rfl) (hF.vcell (j:=1) rfl) (hF.vcell (j:=2) rfl) (hF.vcell (j:=3) rfl) (hF.vcell (j:=4) rfl) (hF.vcell (j:=5) rfl)
 ·refine ⟨p5,er5,⟨2,s,o9,true,v5, -1⟩,rfl,(H5.out.setv (j:=4) (.int .i64 v5)).less.fill6 _ _ _ _ _ _,HD5.out.1,HD5.out.2.1,HD5.out.2.2,by have:=HZ2.out;have:=HM5.out;omega,⟨by show 2<256;omega,by show o9<256;omega,HSM.out⟩,?_⟩;rw [HR.out];exact zdT HNR.out HS5.out (CondR.none (by simp))
end Go.Proofs.YtfljimpgnlfipaaGreatDoor
