/-
  Part 15 of the proof: DrS2, DrS4, DrS5, DrS6, DrGb.
-/
import Derived.Test.YtfljimpgnlfipaaGreatDoorTE14
import Derived.Test.YtfljimpgnlfipaaGreatDoorTE13
namespace Go.Proofs.YtfljimpgnlfipaaGreatDoor
open Go.RowKit Go.Deep Go.MapKept
theorem zcM {l:List Frm} {f n:Nat} {q:ES} {wd:ByteArray} {ks:List Nat} (hh:headF l n=some (wd,ks)) (h1:¬ (wd=(⟨#[115,101,116]⟩:ByteArray)∧ks.length=2)) (h2:¬ (wd=(⟨#[102,111,108,100]⟩:ByteArray)∧(ks.length=3∨ks.length=4))) (h3:¬ (wd=(⟨#[101,97,99,104]⟩:ByteArray)∧1≤ks.length∧ks.length≤6)) (h4:¬ (wd=(⟨#[105,102]⟩:ByteArray)∧ks.length=3∧(frm l (ks.getD 1 0)).k=1∧(frm l (ks.getD 2 0)).k=1)) (h5:¬ ((wd=(⟨#[119,104,105,108,101]⟩:ByteArray)∨wd=(⟨#[108,111,111,112]⟩:ByteArray))∧1≤ks.length)) (h6:¬ (wd=(⟨#[98,102,115]⟩:ByteArray)∧2≤ks.length)):rdStmt l (f+1) n q=.error (frm l n).p:=by
 simp only [rdStmt,hh];rw [if_neg h1,if_neg h2,if_neg h3,if_neg h4,if_neg h5,if_neg h6]
def StBad (wd:ByteArray) (m:Nat):Prop:=(¬ wd=(⟨#[115,101,116]⟩:ByteArray)∧¬ wd=(⟨#[102,111,108,100]⟩:ByteArray)∧¬ wd=(⟨#[101,97,99,104]⟩:ByteArray)∧¬ wd=(⟨#[105,102]⟩:ByteArray)∧¬ wd=(⟨#[119,104,105,108,101]⟩:ByteArray)∧¬ wd=(⟨#[108,111,111,112]⟩:ByteArray)∧¬ wd=(⟨#[98,102,115]⟩:ByteArray))∨(wd=(⟨#[115,101,116]⟩:ByteArray)∧¬ m=2)∨(wd=(⟨#[102,111,108,100]⟩:ByteArray)∧¬ (m=3∨m=4))∨(wd=(⟨#[101,97,99,104]⟩:ByteArray)∧m=0)∨(wd=(⟨#[101,97,99,104]⟩:ByteArray)∧6<m)∨(wd=(⟨#[119,104,105,108,101]⟩:ByteArray)∧m=0)∨(wd=(⟨#[108,111,111,112]⟩:ByteArray)∧m=0)∨(wd=(⟨#[98,102,115]⟩:ByteArray)∧m<2)∨(wd=(⟨#[105,102]⟩:ByteArray)∧¬ m=3)
theorem rdStmt_bad {l:List Frm} {f n:Nat} {q:ES} {wd:ByteArray} {ks:List Nat} (hh:headF l n=some (wd,ks)) (hb:StBad wd ks.length):rdStmt l (f+1) n q=.error (frm l n).p:=by
 rcases hb with ⟨n0,n1,n2,n3,n4,n5,n6⟩|⟨n1,n2⟩|⟨n1,n2⟩|⟨n1,n2⟩|⟨n1,n2⟩|⟨n1,n2⟩|⟨n1,n2⟩|⟨n1,n2⟩|⟨n1,n2⟩
 ·exact zcM hh (fun h=>n0 h.1) (fun h=>n1 h.1) (fun h=>n2 h.1) (fun h=>n3 h.1) (fun h=>h.1.elim n4 n5) (fun h=>n6 h.1)
 ·exact zcM hh (fun h=>n2 h.2) (fun h=>absurd (n1.symm.trans h.1) (by decide)) (fun h=>absurd (n1.symm.trans h.1) (by decide)) (fun h=>absurd (n1.symm.trans h.1) (by decide)) (fun h=>h.1.elim (fun e=>absurd (n1.symm.trans e) (by decide)) (fun e=>absurd (n1.symm.trans e) (by decide))) (fun h=>absurd (n1.symm.trans h.1) (by decide))
 ·exact zcM hh (fun h=>absurd (n1.symm.trans h.1) (by decide)) (fun h=>n2 h.2) (fun h=>absurd (n1.symm.trans h.1) (by decide)) (fun h=>absurd (n1.symm.trans h.1) (by decide)) (fun h=>h.1.elim (fun e=>absurd (n1.symm.trans e) (by decide)) (fun e=>absurd (n1.symm.trans e) (by decide))) (fun h=>absurd (n1.symm.trans h.1) (by decide))
 iterate 2 exact zcM hh (fun h=>absurd (n1.symm.trans h.1) (by decide)) (fun h=>absurd (n1.symm.trans h.1) (by decide)) (fun h=>by omega) (fun h=>absurd (n1.symm.trans h.1) (by decide)) (fun h=>h.1.elim (fun e=>absurd (n1.symm.trans e) (by decide)) (fun e=>absurd (n1.symm.trans e) (by decide))) (fun h=>absurd (n1.symm.trans h.1) (by decide))
 iterate 2 exact zcM hh (fun h=>absurd (n1.symm.trans h.1) (by decide)) (fun h=>absurd (n1.symm.trans h.1) (by decide)) (fun h=>absurd (n1.symm.trans h.1) (by decide)) (fun h=>absurd (n1.symm.trans h.1) (by decide)) (fun h=>by omega) (fun h=>absurd (n1.symm.trans h.1) (by decide))
 ·exact zcM hh (fun h=>absurd (n1.symm.trans h.1) (by decide)) (fun h=>absurd (n1.symm.trans h.1) (by decide)) (fun h=>absurd (n1.symm.trans h.1) (by decide)) (fun h=>absurd (n1.symm.trans h.1) (by decide)) (fun h=>h.1.elim (fun e=>absurd (n1.symm.trans e) (by decide)) (fun e=>absurd (n1.symm.trans e) (by decide))) (fun h=>by omega)
 ·exact zcM hh (fun h=>absurd (n1.symm.trans h.1) (by decide)) (fun h=>absurd (n1.symm.trans h.1) (by decide)) (fun h=>absurd (n1.symm.trans h.1) (by decide)) (fun h=>n2 h.2.1) (fun h=>h.1.elim (fun e=>absurd (n1.symm.trans e) (by decide)) (fun e=>absurd (n1.symm.trans e) (by decide))) (fun h=>absurd (n1.symm.trans h.1) (by decide))
set_option maxRecDepth 100000 in
set_option maxHeartbeats 16000000 in
theorem zdD {c:Dx} (hc:c.Ok) {f n:Nat} (hn:n<c.fs.length) {p:PV} {X:List Rw} {w:World} (h:DrS c p none X w) (hN:p.many+c.sz n≤999) {wd:ByteArray} {ks:List Nat} (hh:headF c.l n=some (wd,ks)) (hb:StBad wd ks.length) :
  Calls Tryz.prog 56 #[.pointer (some ⟨c.B,0,none⟩),.int .i64 (n:Int)] w (DsPost c p X (f+1) n):=by
 have HN:=hidI hN;have hz:=hc.kids_sz hn;have HZ:=hidI hz;have HZ1:Hid (1≤c.sz n):=hidI (by omega);have hkl:=hc.kids_lt hn;have e1:(n:Int)<(c.fs.length:Int):=by omega
 have e2:(0:Int)≤(n:Int):=by omega
 obtain ⟨g,o,cap,xp,W1,HFP,HC4,HFV,HW1,HS1,HKN⟩:=zeD hc hn h;have hv:=HFV.out;have hkn0:=HKN.out;have CH:=hidI (zbC hc HS1.out hn);obtain ⟨m0,hks⟩:=zaW hh;have CH2:=hidI (zbQ CH.out hh);obtain ⟨kl,hkl0⟩:∃ kl,ks.length=kl:=⟨_,rfl⟩;obtain ⟨b_set,b_fold,b_each,b_if,b_while,b_loop,b_bfs⟩:=zcQ wd;have HR:Hid (rdStmt c.l (f+1) n p.es=.error xp):=hidI (by rw [rdStmt_bad hh hb,HFP.out]);rw [hkl0] at hb;clear hv h hn hN hz hkl hkn0 CH hh hks;rcases hb with hb|hb|hb|hb|hb|hb|hb|hb|hb
 case' inl=>
  obtain ⟨n0,n1,n2,n3,n4,n5,n6⟩:=hb;rw [decide_eq_false n0] at b_set;rw [decide_eq_false n1] at b_fold;rw [decide_eq_false n2] at b_each;rw [decide_eq_false n3] at b_if;rw [decide_eq_false n4] at b_while;rw [decide_eq_false n5] at b_loop;rw [decide_eq_false n6] at b_bfs;clear n0 n1 n2 n3 n4 n5 n6
 case' inr.inl=>
  obtain ⟨n1,n2⟩:=hb;rw [decide_eq_true n1] at b_set;rw [decide_eq_false (by rw [n1];decide)] at b_fold b_each b_if b_while b_loop b_bfs;have f2:((kl:Int)==2)=false:=by first|(rw [beq_eq_false_iff_ne];omega)|(rw [beq_iff_eq];omega)
  clear n1
 case' inr.inr.inl=>
  obtain ⟨n1,n2⟩:=hb;rw [decide_eq_true n1] at b_fold;rw [decide_eq_false (by rw [n1];decide)] at b_set b_each b_if b_while b_loop b_bfs;have f3:((kl:Int)==3)=false:=by first|(rw [beq_eq_false_iff_ne];omega)|(rw [beq_iff_eq];omega)
  have f4:((kl:Int)==4)=false:=by first|(rw [beq_eq_false_iff_ne];omega)|(rw [beq_iff_eq];omega)
  clear n1
 case' inr.inr.inr.inl=>
  obtain ⟨n1,n2⟩:=hb;rw [decide_eq_true n1] at b_each;rw [decide_eq_false (by rw [n1];decide)] at b_set b_fold b_if b_while b_loop b_bfs;have f1:¬ (1:Int)≤(kl:Int):=by omega
  clear n1
 case' inr.inr.inr.inr.inl=>
  obtain ⟨n1,n2⟩:=hb;rw [decide_eq_true n1] at b_each;rw [decide_eq_false (by rw [n1];decide)] at b_set b_fold b_if b_while b_loop b_bfs;have f1:(1:Int)≤(kl:Int):=by omega
  have f6:¬ (kl:Int)≤6:=by omega
  clear n1
 case' inr.inr.inr.inr.inr.inl=>
  obtain ⟨n1,n2⟩:=hb;rw [decide_eq_true n1] at b_while;rw [decide_eq_false (by rw [n1];decide)] at b_set b_fold b_each b_if b_loop b_bfs;have f1:¬ (1:Int)≤(kl:Int):=by omega
  clear n1
 case' inr.inr.inr.inr.inr.inr.inl=>
  obtain ⟨n1,n2⟩:=hb;rw [decide_eq_true n1] at b_loop;rw [decide_eq_false (by rw [n1];decide)] at b_set b_fold b_each b_if b_while b_bfs;have f1:¬ (1:Int)≤(kl:Int):=by omega
  clear n1
 case' inr.inr.inr.inr.inr.inr.inr.inl=>
  obtain ⟨n1,n2⟩:=hb;rw [decide_eq_true n1] at b_bfs;rw [decide_eq_false (by rw [n1];decide)] at b_set b_fold b_each b_if b_while b_loop;have f1:¬ (2:Int)≤(kl:Int):=by omega
  clear n1
 case' inr.inr.inr.inr.inr.inr.inr.inr=>
  obtain ⟨n1,n2⟩:=hb;rw [decide_eq_true n1] at b_if;rw [decide_eq_false (by rw [n1];decide)] at b_set b_fold b_each b_while b_loop b_bfs;have f3:((kl:Int)==3)=false:=by first|(rw [beq_eq_false_iff_ne];omega)|(rw [beq_iff_eq];omega)
  clear n1
 all_goals
  go_enter Tryz.func56,Tryz.ntmps56
  go_wp2_with (go_at_call 54;rw [HW1.out];refine CH2.out.mono ?_;rintro e w2 ⟨kv,rfl,hkv,hb2⟩;obtain ⟨_,qa,qc,rfl,_⟩:=id hkv;rw [hkl0];have HS2:=hidI (HS1.out.on hb2);clear hb2 CH2 hkv)
  first|(refine regIf1 _ wd b_if (fun y hy => ?_))|(refine regIf2 _ wd kl b_if f3 (fun y hy => ?_))
  have hs3:=HS2.out.on hy;have HS3:=hidI hs3;have b0:=hs3.cell (j:=0) (u:=c.fv) rfl;rw [HFV.out] at b0;have y4:=HC4.out _ hs3.below;clear hs3 hy
  go_wp2_with (go_at_call 57;refine Calls.mono (zbG HS3.out xp 8) ?_;rintro e w6 ⟨rfl,h6⟩;have H6:=hidI h6;clear h6;refine Hid.out ?_)
  have HMT:Hid (p.many+1≤p.many+c.sz n):=hidI (by have:=HZ1.out;omega);refine hidI ?_;go_wp2;have HTD:=hidI H6.out.drew;have HPL:Hid (p.ss.length≤999):=hidI (by have:=HMT.out;have:=HN.out;have:=HZ1.out;unfold PV.many at *;omega);refine drgS (B:=c.B) (eb:=w.heap.size) (base:=c.w0.heap.size) (n:=p.ss.length) (u:=p.sv) (xs:=flatS p.ss) (HTD.out.cell (j:=3) rfl) (HTD.out.vcell (j:=0) rfl) (HTD.out.vcell (j:=1) rfl) (HTD.out.vcell (j:=2) rfl) (HTD.out.vcell (j:=3) rfl) (HTD.out.vcell (j:=4) rfl) (HTD.out.vcell (j:=5) rfl) (HTD.out.vcell (j:=6) rfl) (HTD.out.vcell (j:=7) rfl) (HTD.out.free 3) HTD.out.sown.head (by have:=HPL.out;omega) HTD.out.size (zbJ HTD.out.sown) HTD.out.vfarS (by
   intro v hv;simp only [List.mem_cons,List.not_mem_nil,or_false] at hv;rcases hv with rfl|rfl|rfl|rfl|rfl|rfl|rfl|rfl<;>rfl) (fun _ _ _ _ _ h=>h) ?_
  intro W5 u' t277 t278 t279 t280 t281 t282 t283 t284 t285 t286 t287 t288 hg ho ha;have s5:=DrS.addS (s:=⟨⟨0,emptyS,0, -1, -1,[],[],[]⟩,.slice none 0 0,.slice none 0 0,.slice none 0 0⟩) (HTD.out.less.alloc (.cells #[.int .u8 0,.string ⟨#[]⟩,.int .u8 0,.int .i64 (-1),.int .i64 (-1),.slice none 0 0,.slice none 0 0,.slice none 0 0] 49)) ⟨by show 0<256;omega,by show 0<256;omega,(by unfold SmlN;decide:SmlN emptyS),by simp,by simp,by simp,by simp⟩ (by have:=HPL.out;omega) hg ho (by simpa using ha);have HS5:=hidI s5;obtain ⟨ml,hml⟩:∃ ml,p.ss.length=ml:=⟨_,rfl⟩;obtain ⟨ua,uc,hu⟩:∃ ua uc,u'=.slice ua (p.ss.length+1) uc:=zaH ho;rw [hml] at hu;subst hu;have c7:=s5.cell (j:=3) (u:=.slice ua (ml+1) uc) rfl;have hml2:ml≤999:=hml▸HPL.out;have e9:IntKind.i64.wrap (((ml+1:Nat):Int)-1)=(ml:Int):=by rw [show (((ml+1:Nat):Int)-1)=(ml:Int) by omega,IntKind.wrap_i64];omega
  obtain ⟨W6,hW6⟩:∃ W6,W5.setCell ⟨c.B,3,none⟩ (.slice ua (ml+1) uc)=W6:=⟨_,rfl⟩;rw [hW6] at HS5 c7 ⊢;have HML:=hidI hml;clear hg ho ha s5 HTD hW6 hml;go_wp2;go_ret;rw [←HML.out];exact DsPost.bad HR.out HS5.out rfl rfl (by have:=HZ1.out;simp [PV.many];omega)
theorem set_end {l:List Frm} {f n k0 k1:Nat} {q:ES} {wd:ByteArray} {er1 er4:Option (Int × Int)} {s:ByteArray} {v4:Int} {es4:List Exp} (hh:headF l n=some (wd,[k0,k1])) (n1:wd=(⟨#[115,101,116]⟩:ByteArray)) (h1:NameR (nameF l k0) er1 s) (h2:StepR (rdExpr l (big l)) k1 er1 q.1 er4 v4 es4) :
  (er4=none∧rdStmt l (f+1) n q=addS (es4,q.2) ⟨1,s,0,v4, -1,[],[],[]⟩)∨∃ a,er4=some (a,8)∧rdStmt l (f+1) n q=.error a:=by
 have hr:rdStmt l (f+1) n q=(match nameF l k0 with
   | .error p=>Except.error p
   | .ok s=>match rdE l k1 q.1 with
    | .error p=>.error p
    | .ok (e,es1)=>addS (es1,q.2) ⟨1,s,0,e, -1,[],[],[]⟩):=by
  simp only [rdStmt,hh];rw [if_pos ⟨n1,rfl⟩];rfl
 rw [hr];unfold NameR at h1;cases hn:nameF l k0 with
 | error a=>
  rw [hn] at h1;simp only at h1;subst h1;exact .inr ⟨a,h2,rfl⟩
 | ok t=>
  rw [hn] at h1;obtain ⟨rfl,rfl⟩:=h1;simp only [StepR] at h2;simp only;unfold rdE;cases he:rdExpr l (big l) k1 q.1 with
  | error a=>
   rw [he] at h2;exact .inr ⟨a,h2,rfl⟩
  | ok r=>
   obtain ⟨e,es1⟩:=r;rw [he] at h2;obtain ⟨rfl,rfl,rfl⟩:=h2;exact .inl ⟨rfl,rfl⟩
set_option maxRecDepth 100000 in
set_option maxHeartbeats 16000000 in
theorem dstmt_set {c:Dx} (hc:c.Ok) {f n:Nat} (hn:n<c.fs.length) {p:PV} {X:List Rw} {w:World} (h:DrS c p none X w) (hN:p.many+c.sz n≤999) {wd:ByteArray} {k0 k1:Nat} (hh:headF c.l n=some (wd,[k0,k1])) (n1:wd=(⟨#[115,101,116]⟩:ByteArray)) :
  Calls Tryz.prog 56 #[.pointer (some ⟨c.B,0,none⟩),.int .i64 (n:Int)] w (DsPost c p X (f+1) n):=by
 have HN:=hidI hN;have hz:=hc.kids_sz hn;have HZ:=hidI hz;have HZ1:Hid (1≤c.sz n):=hidI (by omega);have hkl:=hc.kids_lt hn;have e1:(n:Int)<(c.fs.length:Int):=by omega
 have e2:(0:Int)≤(n:Int):=by omega
 obtain ⟨g,o,cap,xp,W1,HFP,HC4,HFV,HW1,HS1,HKN⟩:=zeD hc hn h;have hv:=HFV.out;have hkn0:=HKN.out;have CH:=hidI (zbC hc HS1.out hn);obtain ⟨m0,hks⟩:=zaW hh;have hk0:k0<c.fs.length:=(hkl k0 (by rw [hks];simp)).2;have hk1:k1<c.fs.length:=(hkl k1 (by rw [hks];simp)).2;have HZ2:Hid (1+(c.sz k0+c.sz k1)≤c.sz n):=hidI (by
  have:=HZ.out;rw [hks] at this;simp only [List.map_cons,List.sum_cons,List.map_nil,List.sum_nil] at this;omega)
 have CH2:=hidI (zbQ CH.out hh);obtain ⟨b_set,b_fold,b_each,b_if,b_while,b_loop,b_bfs⟩:=zcQ wd;rw [decide_eq_true n1] at b_set;rw [decide_eq_false (by rw [n1];decide)] at b_fold b_each b_if b_while b_loop b_bfs;have HHH:=hidI hh;have HN1:=hidI n1;clear hv h hn hN hz hkl hkn0 CH hh hks n1;go_enter Tryz.func56,Tryz.ntmps56
 go_wp2_with (first
  | (go_at_call 54;rw [HW1.out];refine CH2.out.mono ?_;rintro e w2 ⟨kv,rfl,hkv,hb2⟩;obtain ⟨_,qa,qc,rfl,_⟩:=id hkv;obtain ⟨kb,ko,rfl,_,_⟩:=zaB hkv (HS1.out.on hb2).below (i:=0) (k:=k0) rfl;have HKV:=hidI hkv;simp only [List.length_cons,List.length_nil,Nat.zero_add,Nat.reduceAdd];have HS2:=hidI (HS1.out.on hb2);have hs2:=HS1.out.on hb2;clear hb2 CH2;obtain ⟨_,_,e9,kq0,_⟩:=zaB HKV.out hs2.below (i:=0) (k:=k0) rfl;cases e9;replace kq0:w2.cell? ⟨kb,ko,none⟩=some (.int .i64 (k0:Int)):=kq0;clear hs2 hkv)
  | (go_at_call 58;refine Calls.mono (zbS hc HS2.out hk0) ?_;rintro e w3 ⟨s,er1,rfl,h3,hsm,hnr⟩;have H3:=hidI h3;have HSM:=hidI hsm;have HNR:=hidI hnr;clear kq0 hsm hnr;have r0:=h3.vcell (j:=0) rfl;have z0:=h3.vfree 0;have r1:=h3.vcell (j:=1) rfl;have z1:=h3.vfree 1;obtain ⟨_,_,e9,kq1,_⟩:=zaB HKV.out ((h3.setv (j:=0) (.int .u8 1)).setv (j:=1) (.string s)).below (i:=1) (k:=k1) rfl;cases e9;clear h3)
  | (go_at_call 102;refine Calls.mono (zbK hc hk1 p er1 _ _ ((H3.out.setv (j:=0) (.int .u8 1)).setv (j:=1) (.string s)) (by have:=HZ2.out;have:=HN.out;omega)) ?_;rintro e w4 ⟨p4,er4,v4,rfl,h4,d1,d2,d3,hm4,hs4⟩;have H4:=hidI h4;have HD4:=hidI (And.intro d1 (And.intro d2 d3));have HM4:=hidI hm4;have HS4:=hidI hs4;have r3:=h4.vcell (j:=3) rfl;have z3:=h4.vfree 3;clear r0 z0 r1 z1 kq1 H3 d1 d2 d3 hm4 hs4 h4;refine Hid.out ?_))
 have HMT:Hid (p4.many+1≤p.many+c.sz n):=hidI (by have:=HZ2.out;have:=HM4.out;omega);have HTT:=hidI (H4.out.setv (j:=3) (.int .i64 v4));refine hidI ?_;go_wp2;have HTD:=hidI HTT.out.drew;have HPL:Hid (p4.ss.length≤999):=hidI (by have:=HMT.out;have:=HN.out;have:=HZ1.out;unfold PV.many at *;omega);refine drgS (B:=c.B) (eb:=w.heap.size) (base:=c.w0.heap.size) (n:=p4.ss.length) (u:=p4.sv) (xs:=flatS p4.ss) (HTD.out.cell (j:=3) rfl) (HTD.out.vcell (j:=0) rfl) (HTD.out.vcell (j:=1) rfl) (HTD.out.vcell (j:=2) rfl) (HTD.out.vcell (j:=3) rfl) (HTD.out.vcell (j:=4) rfl) (HTD.out.vcell (j:=5) rfl) (HTD.out.vcell (j:=6) rfl) (HTD.out.vcell (j:=7) rfl) (HTD.out.free 3) HTD.out.sown.head (by have:=HPL.out;omega) HTD.out.size (zbJ HTD.out.sown) HTD.out.vfarS (by
  intro v hv;simp only [List.mem_cons,List.not_mem_nil,or_false] at hv;rcases hv with rfl|rfl|rfl|rfl|rfl|rfl|rfl|rfl<;>rfl) (fun _ _ _ _ _ h=>h) ?_
 intro W5 u' t277 t278 t279 t280 t281 t282 t283 t284 t285 t286 t287 t288 hg ho ha;have s5:=DrS.addS (s:=⟨⟨1,s,0,v4, -1,[],[],[]⟩,.slice none 0 0,.slice none 0 0,.slice none 0 0⟩) (HTD.out.less.alloc (.cells #[.int .u8 1,.string s,.int .u8 0,.int .i64 v4,.int .i64 (-1),.slice none 0 0,.slice none 0 0,.slice none 0 0] 49)) ⟨by show 1<256;omega,by show 0<256;omega,HSM.out,by simp,by simp,by simp,by simp⟩ (by have:=HPL.out;omega) hg ho (by simpa using ha);have HS5:=hidI s5;obtain ⟨ml,hml⟩:∃ ml,p4.ss.length=ml:=⟨_,rfl⟩;obtain ⟨ua,uc,hu⟩:∃ ua uc,u'=.slice ua (p4.ss.length+1) uc:=zaH ho;rw [hml] at hu;subst hu;have c7:=s5.cell (j:=3) (u:=.slice ua (ml+1) uc) rfl;have hml2:ml≤999:=hml▸HPL.out;have e9:IntKind.i64.wrap (((ml+1:Nat):Int)-1)=(ml:Int):=by rw [show (((ml+1:Nat):Int)-1)=(ml:Int) by omega,IntKind.wrap_i64];omega
 obtain ⟨W6,hW6⟩:∃ W6,W5.setCell ⟨c.B,3,none⟩ (.slice ua (ml+1) uc)=W6:=⟨_,rfl⟩;rw [hW6] at HS5 c7 ⊢;have HML:=hidI hml;clear hg ho ha s5 HTD hW6 hml;go_wp2;go_ret;rw [←HML.out];have hee:p4.es=(p4.xs.map Prod.fst,p.es.2):=by
  unfold PV.es;rw [HD4.out.2.2]
 rcases set_end (f:=f) (q:=p.es) HHH.out HN1.out HNR.out HS4.out with ⟨rfl,hr⟩|⟨a,rfl,hr⟩
 ·exact DsPost.ok hr hee HS5.out HD4.out.1 HD4.out.2.1 HMT.out
 ·exact DsPost.bad hr HS5.out HD4.out.1 HD4.out.2.1 (by have:=HMT.out;simp [PV.many] at this ⊢;omega)
theorem fold_eq {l:List Frm} {f n k0 k1 k2:Nat} {ks:List Nat} {q:ES} {wd:ByteArray} (hh:headF l n=some (wd,k0::k1::k2::ks)) (n1:wd=(⟨#[102,111,108,100]⟩:ByteArray)) (hl:(k0::k1::k2::ks).length=3∨(k0::k1::k2::ks).length=4):rdStmt l (f+1) n q=(if redN (opOf (wordF l k1))=false then .error (frm l n).p else match actE l 2 (opOf (wordF l k1)) false k0 k2 (rdCond l (k0::k1::k2::ks) 3) q.1 with
  | .error p=>.error p
  | .ok (a,es2)=>addS (es2,q.2) ⟨2,a.name,opOf (wordF l k1),a.e,a.cond,[],[],[]⟩):=by
 have hr:rdStmt l (f+1) n q=(if redN (opOf (wordF l k1))=false then .error (frm l n).p else match nameF l k0 with
   | .error p=>.error p
   | .ok s=>match rdE l k2 q.1 with
    | .error p=>.error p
    | .ok (e,es1)=>match rdCond l (k0::k1::k2::ks) 3 es1 with
     | .error p=>.error p
     | .ok (d,es2)=>addS (es2,q.2) ⟨2,s,opOf (wordF l k1),e,d,[],[],[]⟩):=by
  simp only [rdStmt,hh];rw [if_neg (fun h=>absurd (n1.symm.trans h.1) (by decide)),if_pos ⟨n1,hl⟩];rfl
 rw [hr];unfold actE;congr 1;cases nameF l k0 with
 | error a=>rfl
 | ok s=>
  simp only;cases rdE l k2 q.1 with
  | error a=>rfl
  | ok r=>
   obtain ⟨e,es1⟩:=r;simp only;cases rdCond l (k0::k1::k2::ks) 3 es1 with
   | error a=>rfl
   | ok r2=>rfl
theorem fold_end {l:List Frm} {k0 k2 o:Nat} {C:List Exp→Except Int (Int × List Exp)} {q:ES} {er1 er4 er5:Option (Int × Int)} {s:ByteArray} {v4 v5:Int} {es4 es5:List Exp} {R:Except Int (Int × ES)} (hR:R=(match actE l 2 o false k0 k2 C q.1 with
  | .error p=>.error p
  | .ok (a,es2)=>addS (es2,q.2) ⟨2,a.name,o,a.e,a.cond,[],[],[]⟩)) (h1:NameR (nameF l k0) er1 s) (h2:StepR (rdExpr l (big l)) k2 er1 q.1 er4 v4 es4) (h3:CondR C er4 es4 er5 v5 es5) :
  (er5=none∧R=addS (es5,q.2) ⟨2,s,o,v4,v5,[],[],[]⟩)∨∃ a,er5=some (a,8)∧R=.error a:=by
 have h:=zdT (K:=2) (O:=o) (I:=false) h1 h2 h3;rw [hR];cases he:actE l 2 o false k0 k2 C q.1 with
 | error a=>
  rw [he] at h;exact .inr ⟨a,h,rfl⟩
 | ok r=>
  obtain ⟨a',es'⟩:=r;rw [he] at h;obtain ⟨rfl,rfl,rfl⟩:=h;exact .inl ⟨rfl,rfl⟩
set_option maxRecDepth 100000 in
set_option maxHeartbeats 16000000 in
theorem dstmt_fold3_bad {c:Dx} (hc:c.Ok) {f n:Nat} (hn:n<c.fs.length) {p:PV} {X:List Rw} {w:World} (h:DrS c p none X w) (hN:p.many+c.sz n≤999) {wd:ByteArray} {k0 k1 k2:Nat} (hh:headF c.l n=some (wd,[k0,k1,k2])) (n1:wd=(⟨#[102,111,108,100]⟩:ByteArray)) (hr:redN (opOf (wordF c.l k1))=false) :
  Calls Tryz.prog 56 #[.pointer (some ⟨c.B,0,none⟩),.int .i64 (n:Int)] w (DsPost c p X (f+1) n):=by
 have HN:=hidI hN;have hz:=hc.kids_sz hn;have HZ:=hidI hz;have HZ1:Hid (1≤c.sz n):=hidI (by omega);have hkl:=hc.kids_lt hn;have e1:(n:Int)<(c.fs.length:Int):=by omega
 have e2:(0:Int)≤(n:Int):=by omega
 obtain ⟨g,o,cap,xp,W1,HFP,HC4,HFV,HW1,HS1,HKN⟩:=zeD hc hn h;have hv:=HFV.out;have hkn0:=HKN.out;have CH:=hidI (zbC hc HS1.out hn);obtain ⟨m0,hks⟩:=zaW hh;have hk0:k0<c.fs.length:=(hkl k0 (by rw [hks];simp)).2;have hk1:k1<c.fs.length:=(hkl k1 (by rw [hks];simp)).2;have hk2:k2<c.fs.length:=(hkl k2 (by rw [hks];simp)).2;have HZ2:Hid (1+(c.sz k0+c.sz k1+c.sz k2)≤c.sz n):=hidI (by
  have:=HZ.out;rw [hks] at this;simp only [List.map_cons,List.sum_cons,List.map_nil,List.sum_nil] at this;omega)
 have CH2:=hidI (zbQ CH.out hh);obtain ⟨b_set,b_fold,b_each,b_if,b_while,b_loop,b_bfs⟩:=zcQ wd;rw [decide_eq_true n1] at b_fold;rw [decide_eq_false (by rw [n1];decide)] at b_set b_each b_if b_while b_loop b_bfs;have hRP:=fold_eq (f:=f) (q:=p.es) hh n1 (.inl rfl);obtain ⟨o9,ho⟩:∃ o9,opOf (wordF c.l k1)=o9:=⟨_,rfl⟩;have ho2:o9≤19:=ho▸zbW _;rw [if_pos hr,HFP.out] at hRP;have HR:=hidI hRP;have CRd:Hid (∀ W,DrS c p none (⟨bx w.heap.size,49,8,1,[.int .u8 0,.string ⟨#[]⟩,.int .u8 0,.int .i64 (-1),.int .i64 (-1),.slice none 0 0,.slice none 0 0,.slice none 0 0]⟩::aRow (.slice none 0 0) []::iRow (.slice none 0 0) []::iRow (.slice none 0 0) []::X) W→Calls Tryz.prog 103 #[.pointer (some ⟨c.B,0,none⟩),.int .i64 (k1:Int)] W fun e w'=>e=.returned (.tuple #[.int .u8 (o9:Int),.bool false])∧Below W.heap.size W w'):=hidI (fun W hW=>by
  have h9:=zdM hc hW hk1;rw [hr,ho] at h9;exact h9)
 clear hv h hn hN hz hkl hkn0 CH hh hks n1 hr ho hRP;go_enter Tryz.func56,Tryz.ntmps56
 go_wp2_with (first
  | (go_at_call 54;rw [HW1.out];refine CH2.out.mono ?_;rintro e w2 ⟨kv,rfl,hkv,hb2⟩;obtain ⟨_,qa,qc,rfl,_⟩:=id hkv;obtain ⟨kb,ko,rfl,_,_⟩:=zaB hkv (HS1.out.on hb2).below (i:=0) (k:=k0) rfl;have HKV:=hidI hkv;simp only [List.length_cons,List.length_nil,Nat.zero_add,Nat.reduceAdd];have HS2:=hidI (HS1.out.on hb2);have hs2:=HS1.out.on hb2;clear hb2 CH2;obtain ⟨_,_,e9,kq1,_⟩:=zaB HKV.out hs2.below (i:=1) (k:=k1) rfl;cases e9;clear hs2 hkv)
  | (go_at_call 103;refine Calls.mono (CRd.out _ HS2.out) ?_;rintro e w3 ⟨rfl,hb3⟩;have HS3:=hidI (HS2.out.on hb3);have hs3:=HS2.out.on hb3;clear kq1 hb3;have b0:=hs3.cell (j:=0) (u:=c.fv) rfl;rw [HFV.out] at b0;have y4:=HC4.out _ hs3.below;clear hs3)
  | (go_at_call 57;refine Calls.mono (zbG HS3.out xp 8) ?_;rintro e w6 ⟨rfl,h6⟩;have H6:=hidI h6;clear h6))
 go_ret;exact DsPost.bad HR.out H6.out.less.less.less.less rfl rfl (by omega)
set_option maxRecDepth 100000 in
set_option maxHeartbeats 16000000 in
theorem dstmt_fold4_bad {c:Dx} (hc:c.Ok) {f n:Nat} (hn:n<c.fs.length) {p:PV} {X:List Rw} {w:World} (h:DrS c p none X w) (hN:p.many+c.sz n≤999) {wd:ByteArray} {k0 k1 k2 k3:Nat} (hh:headF c.l n=some (wd,[k0,k1,k2,k3])) (n1:wd=(⟨#[102,111,108,100]⟩:ByteArray)) (hr:redN (opOf (wordF c.l k1))=false) :
  Calls Tryz.prog 56 #[.pointer (some ⟨c.B,0,none⟩),.int .i64 (n:Int)] w (DsPost c p X (f+1) n):=by
 have HN:=hidI hN;have hz:=hc.kids_sz hn;have HZ:=hidI hz;have HZ1:Hid (1≤c.sz n):=hidI (by omega);have hkl:=hc.kids_lt hn;have e1:(n:Int)<(c.fs.length:Int):=by omega
 have e2:(0:Int)≤(n:Int):=by omega
 obtain ⟨g,o,cap,xp,W1,HFP,HC4,HFV,HW1,HS1,HKN⟩:=zeD hc hn h;have hv:=HFV.out;have hkn0:=HKN.out;have CH:=hidI (zbC hc HS1.out hn);obtain ⟨m0,hks⟩:=zaW hh;have hk0:k0<c.fs.length:=(hkl k0 (by rw [hks];simp)).2;have hk1:k1<c.fs.length:=(hkl k1 (by rw [hks];simp)).2;have hk2:k2<c.fs.length:=(hkl k2 (by rw [hks];simp)).2;have hk3:k3<c.fs.length:=(hkl k3 (by rw [hks];simp)).2;have HZ2:Hid (1+(c.sz k0+c.sz k1+c.sz k2+c.sz k3)≤c.sz n):=hidI (by
  have:=HZ.out;rw [hks] at this;simp only [List.map_cons,List.sum_cons,List.map_nil,List.sum_nil] at this;omega)
 have CH2:=hidI (zbQ CH.out hh);obtain ⟨b_set,b_fold,b_each,b_if,b_while,b_loop,b_bfs⟩:=zcQ wd;rw [decide_eq_true n1] at b_fold;rw [decide_eq_false (by rw [n1];decide)] at b_set b_each b_if b_while b_loop b_bfs;have hRP:=fold_eq (f:=f) (q:=p.es) hh n1 (.inr rfl);obtain ⟨o9,ho⟩:∃ o9,opOf (wordF c.l k1)=o9:=⟨_,rfl⟩;have ho2:o9≤19:=ho▸zbW _;rw [if_pos hr,HFP.out] at hRP;have HR:=hidI hRP;have CRd:Hid (∀ W,DrS c p none (⟨bx w.heap.size,49,8,1,[.int .u8 0,.string ⟨#[]⟩,.int .u8 0,.int .i64 (-1),.int .i64 (-1),.slice none 0 0,.slice none 0 0,.slice none 0 0]⟩::aRow (.slice none 0 0) []::iRow (.slice none 0 0) []::iRow (.slice none 0 0) []::X) W→Calls Tryz.prog 103 #[.pointer (some ⟨c.B,0,none⟩),.int .i64 (k1:Int)] W fun e w'=>e=.returned (.tuple #[.int .u8 (o9:Int),.bool false])∧Below W.heap.size W w'):=hidI (fun W hW=>by
  have h9:=zdM hc hW hk1;rw [hr,ho] at h9;exact h9)
 clear hv h hn hN hz hkl hkn0 CH hh hks n1 hr ho hRP;go_enter Tryz.func56,Tryz.ntmps56
 go_wp2_with (first
  | (go_at_call 54;rw [HW1.out];refine CH2.out.mono ?_;rintro e w2 ⟨kv,rfl,hkv,hb2⟩;obtain ⟨_,qa,qc,rfl,_⟩:=id hkv;obtain ⟨kb,ko,rfl,_,_⟩:=zaB hkv (HS1.out.on hb2).below (i:=0) (k:=k0) rfl;have HKV:=hidI hkv;simp only [List.length_cons,List.length_nil,Nat.zero_add,Nat.reduceAdd];have HS2:=hidI (HS1.out.on hb2);have hs2:=HS1.out.on hb2;clear hb2 CH2;obtain ⟨_,_,e9,kq1,_⟩:=zaB HKV.out hs2.below (i:=1) (k:=k1) rfl;cases e9;clear hs2 hkv)
  | (go_at_call 103;refine Calls.mono (CRd.out _ HS2.out) ?_;rintro e w3 ⟨rfl,hb3⟩;have HS3:=hidI (HS2.out.on hb3);have hs3:=HS2.out.on hb3;clear kq1 hb3;have b0:=hs3.cell (j:=0) (u:=c.fv) rfl;rw [HFV.out] at b0;have y4:=HC4.out _ hs3.below;clear hs3)
  | (go_at_call 57;refine Calls.mono (zbG HS3.out xp 8) ?_;rintro e w6 ⟨rfl,h6⟩;have H6:=hidI h6;clear h6))
 go_ret;exact DsPost.bad HR.out H6.out.less.less.less.less rfl rfl (by omega)
set_option maxRecDepth 100000 in
set_option maxHeartbeats 16000000 in
theorem dstmt_fold3 {c:Dx} (hc:c.Ok) {f n:Nat} (hn:n<c.fs.length) {p:PV} {X:List Rw} {w:World} (h:DrS c p none X w) (hN:p.many+c.sz n≤999) {wd:ByteArray} {k0 k1 k2:Nat} (hh:headF c.l n=some (wd,[k0,k1,k2])) (n1:wd=(⟨#[102,111,108,100]⟩:ByteArray)) (hr:redN (opOf (wordF c.l k1))=true) :
  Calls Tryz.prog 56 #[.pointer (some ⟨c.B,0,none⟩),.int .i64 (n:Int)] w (DsPost c p X (f+1) n):=by
 have HN:=hidI hN;have hz:=hc.kids_sz hn;have HZ:=hidI hz;have HZ1:Hid (1≤c.sz n):=hidI (by omega);have hkl:=hc.kids_lt hn;have e1:(n:Int)<(c.fs.length:Int):=by omega
 have e2:(0:Int)≤(n:Int):=by omega
 obtain ⟨g,o,cap,xp,W1,HFP,HC4,HFV,HW1,HS1,HKN⟩:=zeD hc hn h;have hv:=HFV.out;have hkn0:=HKN.out;have CH:=hidI (zbC hc HS1.out hn);obtain ⟨m0,hks⟩:=zaW hh;have hk0:k0<c.fs.length:=(hkl k0 (by rw [hks];simp)).2;have hk1:k1<c.fs.length:=(hkl k1 (by rw [hks];simp)).2;have hk2:k2<c.fs.length:=(hkl k2 (by rw [hks];simp)).2;have HZ2:Hid (1+(c.sz k0+c.sz k1+c.sz k2)≤c.sz n):=hidI (by
  have:=HZ.out;rw [hks] at this;simp only [List.map_cons,List.sum_cons,List.map_nil,List.sum_nil] at this;omega)
 have CH2:=hidI (zbQ CH.out hh);obtain ⟨b_set,b_fold,b_each,b_if,b_while,b_loop,b_bfs⟩:=zcQ wd;rw [decide_eq_true n1] at b_fold;rw [decide_eq_false (by rw [n1];decide)] at b_set b_each b_if b_while b_loop b_bfs;have hRP:=fold_eq (f:=f) (q:=p.es) hh n1 (.inl rfl);obtain ⟨o9,ho⟩:∃ o9,opOf (wordF c.l k1)=o9:=⟨_,rfl⟩;have ho2:o9≤19:=ho▸zbW _;rw [if_neg (by rw [hr];decide),ho] at hRP;have HR:=hidI hRP;have CRd:Hid (∀ W,DrS c p none (⟨bx w.heap.size,49,8,1,[.int .u8 0,.string ⟨#[]⟩,.int .u8 0,.int .i64 (-1),.int .i64 (-1),.slice none 0 0,.slice none 0 0,.slice none 0 0]⟩::aRow (.slice none 0 0) []::iRow (.slice none 0 0) []::iRow (.slice none 0 0) []::X) W→Calls Tryz.prog 103 #[.pointer (some ⟨c.B,0,none⟩),.int .i64 (k1:Int)] W fun e w'=>e=.returned (.tuple #[.int .u8 (o9:Int),.bool true])∧Below W.heap.size W w'):=hidI (fun W hW=>by
  have h9:=zdM hc hW hk1;rw [hr,ho] at h9;exact h9)
 clear hv h hn hN hz hkl hkn0 CH hh hks n1 hr ho hRP;go_enter Tryz.func56,Tryz.ntmps56
 go_wp2_with (first
  | (go_at_call 54;rw [HW1.out];refine CH2.out.mono ?_;rintro e w2 ⟨kv,rfl,hkv,hb2⟩;obtain ⟨_,qa,qc,rfl,_⟩:=id hkv;obtain ⟨kb,ko,rfl,_,_⟩:=zaB hkv (HS1.out.on hb2).below (i:=0) (k:=k0) rfl;have HKV:=hidI hkv;simp only [List.length_cons,List.length_nil,Nat.zero_add,Nat.reduceAdd];have HS2:=hidI (HS1.out.on hb2);have hs2:=HS1.out.on hb2;clear hb2 CH2;obtain ⟨_,_,e9,kq1,_⟩:=zaB HKV.out hs2.below (i:=1) (k:=k1) rfl;cases e9;clear hs2 hkv)
  | (go_at_call 103;refine Calls.mono (CRd.out _ HS2.out) ?_;rintro e w3 ⟨rfl,hb3⟩;have HS3:=hidI (HS2.out.on hb3);have hs3:=HS2.out.on hb3;clear kq1 hb3;obtain ⟨_,_,e9,kq0,_⟩:=zaB HKV.out hs3.below (i:=0) (k:=k0) rfl;cases e9;replace kq0:w3.cell? ⟨kb,ko,none⟩=some (.int .i64 (k0:Int)):=kq0;clear hs3)
  | (go_at_call 58;refine Calls.mono (zbS hc HS3.out hk0) ?_;rintro e w4 ⟨s,er1,rfl,h4,hsm,hnr⟩;have H4:=hidI h4;have HSM:=hidI hsm;have HNR:=hidI hnr;clear kq0 hsm hnr;have r0:=h4.vcell (j:=0) rfl;have z0:=h4.vfree 0;have r1:=h4.vcell (j:=1) rfl;have z1:=h4.vfree 1;have r2:=h4.vcell (j:=2) rfl;have z2:=h4.vfree 2;obtain ⟨_,_,e9,kq2,_⟩:=zaB HKV.out (((h4.setv (j:=0) (.int .u8 2)).setv (j:=1) (.string s)).setv (j:=2) (.int .u8 (o9:Int))).below (i:=2) (k:=k2) rfl;cases e9;clear h4)
  | (go_at_call 102;refine Calls.mono (zbK hc hk2 p er1 _ _ (((H4.out.setv (j:=0) (.int .u8 2)).setv (j:=1) (.string s)).setv (j:=2) (.int .u8 (o9:Int))) (by have:=HZ2.out;have:=HN.out;omega)) ?_;rintro e w5 ⟨p5,er5,v5,rfl,h5,d1,d2,d3,hm5,hs5⟩;have H5:=hidI h5;have HD5:=hidI (And.intro d1 (And.intro d2 d3));have HM5:=hidI hm5;have HS5e:=hidI hs5;have r3:=h5.vcell (j:=3) rfl;have z3:=h5.vfree 3;clear r0 z0 r1 z1 r2 z2 kq2 H4 d1 d2 d3 hm5 hs5 h5;refine Hid.out ?_))
 have HMT:Hid (p5.many+1≤p.many+c.sz n):=hidI (by have:=HZ2.out;have:=HM5.out;omega);have HTT:=hidI (H5.out.setv (j:=3) (.int .i64 v5));refine hidI ?_;go_wp2;have HTD:=hidI HTT.out.drew;have HPL:Hid (p5.ss.length≤999):=hidI (by have:=HMT.out;have:=HN.out;have:=HZ1.out;unfold PV.many at *;omega);refine drgS (B:=c.B) (eb:=w.heap.size) (base:=c.w0.heap.size) (n:=p5.ss.length) (u:=p5.sv) (xs:=flatS p5.ss) (HTD.out.cell (j:=3) rfl) (HTD.out.vcell (j:=0) rfl) (HTD.out.vcell (j:=1) rfl) (HTD.out.vcell (j:=2) rfl) (HTD.out.vcell (j:=3) rfl) (HTD.out.vcell (j:=4) rfl) (HTD.out.vcell (j:=5) rfl) (HTD.out.vcell (j:=6) rfl) (HTD.out.vcell (j:=7) rfl) (HTD.out.free 3) HTD.out.sown.head (by have:=HPL.out;omega) HTD.out.size (zbJ HTD.out.sown) HTD.out.vfarS (by
  intro v hv;simp only [List.mem_cons,List.not_mem_nil,or_false] at hv;rcases hv with rfl|rfl|rfl|rfl|rfl|rfl|rfl|rfl<;>rfl) (fun _ _ _ _ _ h=>h) ?_
 intro W5 u' t277 t278 t279 t280 t281 t282 t283 t284 t285 t286 t287 t288 hg ho ha;have s5:=DrS.addS (s:=⟨⟨2,s,o9,v5,(-1),[],[],[]⟩,.slice none 0 0,.slice none 0 0,.slice none 0 0⟩) (HTD.out.less.alloc (.cells #[.int .u8 2,.string s,.int .u8 (o9:Int),.int .i64 v5,.int .i64 (-1),.slice none 0 0,.slice none 0 0,.slice none 0 0] 49)) ⟨by show 2<256;omega,by show o9<256;omega,HSM.out,by simp,by simp,by simp,by simp⟩ (by have:=HPL.out;omega) hg ho (by simpa using ha);have HS5:=hidI s5;obtain ⟨ml,hml⟩:∃ ml,p5.ss.length=ml:=⟨_,rfl⟩;obtain ⟨ua,uc,hu⟩:∃ ua uc,u'=.slice ua (p5.ss.length+1) uc:=zaH ho;rw [hml] at hu;subst hu;have c7:=s5.cell (j:=3) (u:=.slice ua (ml+1) uc) rfl;have hml2:ml≤999:=hml▸HPL.out;have e9:IntKind.i64.wrap (((ml+1:Nat):Int)-1)=(ml:Int):=by rw [show (((ml+1:Nat):Int)-1)=(ml:Int) by omega,IntKind.wrap_i64];omega
 obtain ⟨W6,hW6⟩:∃ W6,W5.setCell ⟨c.B,3,none⟩ (.slice ua (ml+1) uc)=W6:=⟨_,rfl⟩;rw [hW6] at HS5 c7 ⊢;have HML:=hidI hml;clear hg ho ha s5 HTD hW6 hml;go_wp2;go_ret;rw [←HML.out];have hee:p5.es=(p5.xs.map Prod.fst,p.es.2):=by
  unfold PV.es;rw [HD5.out.2.2]
 rcases fold_end HR.out HNR.out HS5e.out (CondR.none (by simp)) with ⟨rfl,hr⟩|⟨a,rfl,hr⟩
 ·exact DsPost.ok hr hee HS5.out HD5.out.1 HD5.out.2.1 HMT.out
 ·exact DsPost.bad hr HS5.out HD5.out.1 HD5.out.2.1 (by have:=HMT.out;simp [PV.many] at this ⊢;omega)
set_option maxRecDepth 100000 in
set_option maxHeartbeats 16000000 in
theorem dstmt_fold4 {c:Dx} (hc:c.Ok) {f n:Nat} (hn:n<c.fs.length) {p:PV} {X:List Rw} {w:World} (h:DrS c p none X w) (hN:p.many+c.sz n≤999) {wd:ByteArray} {k0 k1 k2 k3:Nat} (hh:headF c.l n=some (wd,[k0,k1,k2,k3])) (n1:wd=(⟨#[102,111,108,100]⟩:ByteArray)) (hr:redN (opOf (wordF c.l k1))=true) :
  Calls Tryz.prog 56 #[.pointer (some ⟨c.B,0,none⟩),.int .i64 (n:Int)] w (DsPost c p X (f+1) n):=by
 have HN:=hidI hN;have hz:=hc.kids_sz hn;have HZ:=hidI hz;have HZ1:Hid (1≤c.sz n):=hidI (by omega);have hkl:=hc.kids_lt hn;have e1:(n:Int)<(c.fs.length:Int):=by omega
 have e2:(0:Int)≤(n:Int):=by omega
 obtain ⟨g,o,cap,xp,W1,HFP,HC4,HFV,HW1,HS1,HKN⟩:=zeD hc hn h;have hv:=HFV.out;have hkn0:=HKN.out;have CH:=hidI (zbC hc HS1.out hn);obtain ⟨m0,hks⟩:=zaW hh;have hk0:k0<c.fs.length:=(hkl k0 (by rw [hks];simp)).2;have hk1:k1<c.fs.length:=(hkl k1 (by rw [hks];simp)).2;have hk2:k2<c.fs.length:=(hkl k2 (by rw [hks];simp)).2;have hk3:k3<c.fs.length:=(hkl k3 (by rw [hks];simp)).2;have HZ2:Hid (1+(c.sz k0+c.sz k1+c.sz k2+c.sz k3)≤c.sz n):=hidI (by
  have:=HZ.out;rw [hks] at this;simp only [List.map_cons,List.sum_cons,List.map_nil,List.sum_nil] at this;omega)
 have CH2:=hidI (zbQ CH.out hh);obtain ⟨b_set,b_fold,b_each,b_if,b_while,b_loop,b_bfs⟩:=zcQ wd;rw [decide_eq_true n1] at b_fold;rw [decide_eq_false (by rw [n1];decide)] at b_set b_each b_if b_while b_loop b_bfs;have hRP:=fold_eq (f:=f) (q:=p.es) hh n1 (.inr rfl);obtain ⟨o9,ho⟩:∃ o9,opOf (wordF c.l k1)=o9:=⟨_,rfl⟩;have ho2:o9≤19:=ho▸zbW _;rw [if_neg (by rw [hr];decide),ho] at hRP;have HR:=hidI hRP;have CRd:Hid (∀ W,DrS c p none (⟨bx w.heap.size,49,8,1,[.int .u8 0,.string ⟨#[]⟩,.int .u8 0,.int .i64 (-1),.int .i64 (-1),.slice none 0 0,.slice none 0 0,.slice none 0 0]⟩::aRow (.slice none 0 0) []::iRow (.slice none 0 0) []::iRow (.slice none 0 0) []::X) W→Calls Tryz.prog 103 #[.pointer (some ⟨c.B,0,none⟩),.int .i64 (k1:Int)] W fun e w'=>e=.returned (.tuple #[.int .u8 (o9:Int),.bool true])∧Below W.heap.size W w'):=hidI (fun W hW=>by
  have h9:=zdM hc hW hk1;rw [hr,ho] at h9;exact h9)
 clear hv h hn hN hz hkl hkn0 CH hh hks n1 hr ho hRP;go_enter Tryz.func56,Tryz.ntmps56
 go_wp2_with (first
  | (go_at_call 54;rw [HW1.out];refine CH2.out.mono ?_;rintro e w2 ⟨kv,rfl,hkv,hb2⟩;obtain ⟨_,qa,qc,rfl,_⟩:=id hkv;obtain ⟨kb,ko,rfl,_,_⟩:=zaB hkv (HS1.out.on hb2).below (i:=0) (k:=k0) rfl;have HKV:=hidI hkv;simp only [List.length_cons,List.length_nil,Nat.zero_add,Nat.reduceAdd];have HS2:=hidI (HS1.out.on hb2);have hs2:=HS1.out.on hb2;clear hb2 CH2;obtain ⟨_,_,e9,kq1,_⟩:=zaB HKV.out hs2.below (i:=1) (k:=k1) rfl;cases e9;clear hs2 hkv)
  | (go_at_call 103;refine Calls.mono (CRd.out _ HS2.out) ?_;rintro e w3 ⟨rfl,hb3⟩;have HS3:=hidI (HS2.out.on hb3);have hs3:=HS2.out.on hb3;clear kq1 hb3;obtain ⟨_,_,e9,kq0,_⟩:=zaB HKV.out hs3.below (i:=0) (k:=k0) rfl;cases e9;replace kq0:w3.cell? ⟨kb,ko,none⟩=some (.int .i64 (k0:Int)):=kq0;clear hs3)
  | (go_at_call 58;refine Calls.mono (zbS hc HS3.out hk0) ?_;rintro e w4 ⟨s,er1,rfl,h4,hsm,hnr⟩;have H4:=hidI h4;have HSM:=hidI hsm;have HNR:=hidI hnr;clear kq0 hsm hnr;have r0:=h4.vcell (j:=0) rfl;have z0:=h4.vfree 0;have r1:=h4.vcell (j:=1) rfl;have z1:=h4.vfree 1;have r2:=h4.vcell (j:=2) rfl;have z2:=h4.vfree 2;obtain ⟨_,_,e9,kq2,_⟩:=zaB HKV.out (((h4.setv (j:=0) (.int .u8 2)).setv (j:=1) (.string s)).setv (j:=2) (.int .u8 (o9:Int))).below (i:=2) (k:=k2) rfl;cases e9;clear h4)
  | (go_at_call 102;refine Calls.mono (zbK hc hk2 p er1 _ _ (((H4.out.setv (j:=0) (.int .u8 2)).setv (j:=1) (.string s)).setv (j:=2) (.int .u8 (o9:Int))) (by have:=HZ2.out;have:=HN.out;omega)) ?_;rintro e w5 ⟨p5,er5,v5,rfl,h5,d1,d2,d3,hm5,hs5⟩;have H5:=hidI h5;have HD5:=hidI (And.intro d1 (And.intro d2 d3));have HM5:=hidI hm5;have HS5e:=hidI hs5;have r3:=h5.vcell (j:=3) rfl;have z3:=h5.vfree 3;obtain ⟨_,_,e9,kq3,_⟩:=zaB HKV.out (h5.setv (j:=3) (.int .i64 v5)).below (i:=3) (k:=k3) rfl;cases e9;clear r0 z0 r1 z1 r2 z2 kq2 H4 d1 d2 d3 hm5 hs5 h5;refine Hid.out ?_))
 refine hidI ?_
 go_wp2_with (go_at_call 102;refine Calls.mono (zbK hc hk3 p5 er5 _ _ (H5.out.setv (j:=3) (.int .i64 v5)) (by have:=HZ2.out;have:=HN.out;have:=HM5.out;omega)) ?_;rintro e w6 ⟨p6,er6,v6,rfl,h6,d1,d2,d3,hm6,hs6⟩;have H6:=hidI h6;have HD6:=hidI (And.intro d1 (And.intro d2 d3));have HM6:=hidI hm6;have HS6e:=hidI hs6;have r4:=h6.vcell (j:=4) rfl;have z4:=h6.vfree 4;clear r3 z3 kq3 H5 d1 d2 d3 hm6 hs6 h6;refine Hid.out ?_)
 have HMT:Hid (p6.many+1≤p.many+c.sz n):=hidI (by have:=HZ2.out;have:=HM5.out;have:=HM6.out;omega);have HTT:=hidI (H6.out.setv (j:=4) (.int .i64 v6));refine hidI ?_;go_wp2;have HTD:=hidI HTT.out.drew;have HPL:Hid (p6.ss.length≤999):=hidI (by have:=HMT.out;have:=HN.out;have:=HZ1.out;unfold PV.many at *;omega);refine drgS (B:=c.B) (eb:=w.heap.size) (base:=c.w0.heap.size) (n:=p6.ss.length) (u:=p6.sv) (xs:=flatS p6.ss) (HTD.out.cell (j:=3) rfl) (HTD.out.vcell (j:=0) rfl) (HTD.out.vcell (j:=1) rfl) (HTD.out.vcell (j:=2) rfl) (HTD.out.vcell (j:=3) rfl) (HTD.out.vcell (j:=4) rfl) (HTD.out.vcell (j:=5) rfl) (HTD.out.vcell (j:=6) rfl) (HTD.out.vcell (j:=7) rfl) (HTD.out.free 3) HTD.out.sown.head (by have:=HPL.out;omega) HTD.out.size (zbJ HTD.out.sown) HTD.out.vfarS (by
  intro v hv;simp only [List.mem_cons,List.not_mem_nil,or_false] at hv;rcases hv with rfl|rfl|rfl|rfl|rfl|rfl|rfl|rfl<;>rfl) (fun _ _ _ _ _ h=>h) ?_
 intro W5 u' t277 t278 t279 t280 t281 t282 t283 t284 t285 t286 t287 t288 hg ho ha;have s5:=DrS.addS (s:=⟨⟨2,s,o9,v5,v6,[],[],[]⟩,.slice none 0 0,.slice none 0 0,.slice none 0 0⟩) (HTD.out.less.alloc (.cells #[.int .u8 2,.string s,.int .u8 (o9:Int),.int .i64 v5,.int .i64 v6,.slice none 0 0,.slice none 0 0,.slice none 0 0] 49)) ⟨by show 2<256;omega,by show o9<256;omega,HSM.out,by simp,by simp,by simp,by simp⟩ (by have:=HPL.out;omega) hg ho (by simpa using ha);have HS5:=hidI s5;obtain ⟨ml,hml⟩:∃ ml,p6.ss.length=ml:=⟨_,rfl⟩;obtain ⟨ua,uc,hu⟩:∃ ua uc,u'=.slice ua (p6.ss.length+1) uc:=zaH ho;rw [hml] at hu;subst hu;have c7:=s5.cell (j:=3) (u:=.slice ua (ml+1) uc) rfl;have hml2:ml≤999:=hml▸HPL.out;have e9:IntKind.i64.wrap (((ml+1:Nat):Int)-1)=(ml:Int):=by rw [show (((ml+1:Nat):Int)-1)=(ml:Int) by omega,IntKind.wrap_i64];omega
 obtain ⟨W6,hW6⟩:∃ W6,W5.setCell ⟨c.B,3,none⟩ (.slice ua (ml+1) uc)=W6:=⟨_,rfl⟩;rw [hW6] at HS5 c7 ⊢;have HML:=hidI hml;clear hg ho ha s5 HTD hW6 hml;go_wp2;go_ret;rw [←HML.out];have hee:p6.es=(p6.xs.map Prod.fst,p.es.2):=by
  unfold PV.es;rw [(HD6.out.2.2.trans HD5.out.2.2)]
 rcases fold_end HR.out HNR.out HS5e.out (CondR.some (by simp) HS6e.out) with ⟨rfl,hr⟩|⟨a,rfl,hr⟩
 ·exact DsPost.ok hr hee HS5.out (HD6.out.1.trans HD5.out.1) (HD6.out.2.1.trans HD5.out.2.1) HMT.out
 ·exact DsPost.bad hr HS5.out (HD6.out.1.trans HD5.out.1) (HD6.out.2.1.trans HD5.out.2.1) (by have:=HMT.out;simp [PV.many] at this ⊢;omega)
set_option maxRecDepth 100000 in
set_option maxHeartbeats 8000000 in
theorem dstmts_bad {c:Dx} {p:PV} {x:Int × Int} {X:List Rw} {w:World} (h:DrS c p (some x) X w) (a:Option Addr) (kl cc:Nat) (hkl:kl≤400) :
  Calls Tryz.prog 105 #[.pointer (some ⟨c.B,0,none⟩),.slice a kl cc] w fun e w'=>e=.returned (.slice none 0 0)∧DrS c p (some x) (iRow (.slice none 0 0) []::X) w':=by
 have HS0:=hidI h.nilI;clear h;go_enter Tryz.func105,Tryz.ntmps105;go_wp2
 go_loopg [5,6] kl (fun g s5 s6 wx=>g=kl∧s5=.slice none 0 0∧s6=.int .i64 0∧Hid (DrS c p (some x) (iRow (.slice none 0 0) []::X) wx))
 case atStart=>exact ⟨rfl,rfl,rfl,HS0⟩
 case round=>
  clear HS0;obtain ⟨hi,rfl,rfl,HD⟩:=hrel;have b5:=HD.out.cell (j:=5) (u:=.bool true) rfl;cases gk with
  | zero=>
   subst hi;go_wp2;go_ret;exact ⟨rfl,HD.out⟩
  | succ g=>
   have k1:(0:Int)<(kl:Int):=by omega
   go_wp2;go_ret;exact ⟨rfl,HD.out⟩
end Go.Proofs.YtfljimpgnlfipaaGreatDoor
