/-
  Part 17 of the proof: DrT4.
-/
import Derived.Test.YtfljimpgnlfipaaGreatDoorTE16
import Derived.Test.YtfljimpgnlfipaaGreatDoorTE14
namespace Go.Proofs.YtfljimpgnlfipaaGreatDoor
open Go.RowKit Go.Deep Go.MapKept
def GoingA (l:List Frm) (ks:List Nat) (T:Except Int (List Actn × List Exp)) (as':List Actn) (er:Option (Int × Int)) (es:List Exp):Prop:=
 match er with
 | none=>(match rdActs l ks es with
  | .ok (bs,e2)=>T=.ok (as'++bs,e2)
  | .error a=>T=.error a)
 | some x=>∃ a,x=(a,8)∧T=.error a
theorem GoingA.start (l:List Frm) (ks:List Nat) (es:List Exp):GoingA l ks (rdActs l ks es) [] none es:=by
 unfold GoingA;simp only;split
 ·next h=>rw [h];simp
 ·next h=>rw [h]
theorem GoingA.step {l:List Frm} {k:Nat} {ks:List Nat} {T:Except Int (List Actn × List Exp)} {as':List Actn} {er2:Option (Int × Int)} {es es2:List Exp} {a:Actn} (h:GoingA l (k::ks) T as' none es) (hs:match rdAct l k es with
  | .ok (a',es')=>er2=none∧a=a'∧es2=es'
  | .error x=>er2=some (x,8)):GoingA l ks T (as'++[a]) er2 es2:=by
 simp only [GoingA,rdActs] at h;cases hg:rdAct l k es with
 | error x=>
  rw [hg] at hs h;simp only at hs h;subst hs;exact ⟨x,rfl,h⟩
 | ok q=>
  obtain ⟨i,es'⟩:=q;rw [hg] at hs h;simp only at hs h;obtain ⟨rfl,rfl,rfl⟩:=hs;simp only [GoingA];cases hr:rdActs l ks es2 with
  | error x=>rw [hr] at h;simpa using h
  | ok q2=>
   obtain ⟨bs,e2⟩:=q2;rw [hr] at h;simp only at h ⊢;rw [h];simp
theorem each_end {l:List Frm} {f n:Nat} {ks:List Nat} {q:ES} {wd:ByteArray} {er:Option (Int × Int)} {es4:List Exp} {as':List Actn} (hh:headF l n=some (wd,ks)) (n1:wd=(⟨#[101,97,99,104]⟩:ByteArray)) (hl1:1≤ks.length) (hl2:ks.length≤6) (h:GoingA l [] (rdActs l ks q.1) as' er es4) :
  (er=none∧rdStmt l (f+1) n q=addS (es4,q.2) ⟨3,emptyS,0, -1, -1,as',[],[]⟩)∨∃ a,er=some (a,8)∧rdStmt l (f+1) n q=.error a:=by
 have hr:rdStmt l (f+1) n q=(match rdActs l ks q.1 with
   | .error p=>Except.error p
   | .ok (as',es1)=>addS (es1,q.2) ⟨3,emptyS,0, -1, -1,as',[],[]⟩):=by
  have nn:∀ {b:ByteArray} {P:Prop},(⟨#[101,97,99,104]⟩:ByteArray)≠b→¬ (wd=b∧P):=fun hw h=>hw (n1.symm.trans h.1)
  simp only [rdStmt,hh];rw [if_neg (nn (by decide)),if_neg (nn (by decide)),if_pos ⟨n1,hl1,hl2⟩];rfl
 rw [hr];simp only [GoingA,rdActs] at h;cases er with
 | none=>exact .inl ⟨rfl,by rw [h];simp⟩
 | some x=>
  obtain ⟨a,rfl,h⟩:=h;exact .inr ⟨a,rfl,by rw [h]⟩
set_option maxRecDepth 100000 in
set_option maxHeartbeats 16000000 in
theorem dstmt_each {c:Dx} (hc:c.Ok) {f n:Nat} (hn:n<c.fs.length) {p:PV} {X:List Rw} {w:World} (h:DrS c p none X w) (hN:p.many+c.sz n≤999) {wd:ByteArray} {ks:List Nat} (hh:headF c.l n=some (wd,ks)) (n1:wd=(⟨#[101,97,99,104]⟩:ByteArray)) (hl1:1≤ks.length) (hl2:ks.length≤6) :
  Calls Tryz.prog 56 #[.pointer (some ⟨c.B,0,none⟩),.int .i64 (n:Int)] w (DsPost c p X (f+1) n):=by
 have HN:=hidI hN;have hz:=hc.kids_sz hn;have HZ:=hidI hz;have HZ1:Hid (1≤c.sz n):=hidI (by omega);have hkl:=hc.kids_lt hn;have e1:(n:Int)<(c.fs.length:Int):=by omega
 have e2:(0:Int)≤(n:Int):=by omega
 obtain ⟨g,o,cap,xp,W1,HFP,HC4,HFV,HW1,HS1,HKN⟩:=zeD hc hn h;have hv:=HFV.out;have hkn0:=HKN.out;have CH:=hidI (zbC hc HS1.out hn);obtain ⟨m0,hks⟩:=zaW hh;have HKT:Hid (∀ k∈ks,k<c.fs.length):=hidI (fun k hk=>(hkl k (by rw [hks];exact List.mem_cons_of_mem _ hk)).2);have HZ2:Hid (1+(ks.map c.sz).sum≤c.sz n):=hidI (by
  have:=HZ.out;rw [hks] at this;simp only [List.map_cons,List.sum_cons] at this;omega)
 have CH2:=hidI (zbQ CH.out hh);obtain ⟨kl,hkl0⟩:∃ kl,ks.length=kl:=⟨_,rfl⟩;obtain ⟨k0,hk0⟩:∃ k0,ks[0]?=some k0:=⟨_,List.getElem?_eq_getElem (by omega)⟩;have f1:(1:Int)≤(kl:Int):=by omega
 have f6:(kl:Int)≤6:=by omega
 have HKL0:=hidI hkl0;obtain ⟨T,hT⟩:∃ T,rdActs c.l ks (p.xs.map Prod.fst)=T:=⟨_,rfl⟩;have HG0:Hid (GoingA c.l (ks.drop 0) T [] none (p.xs.map Prod.fst)):=hidI (by rw [←hT];exact GoingA.start _ _ _);have HEE:Hid (∀ as' er es4,GoingA c.l [] T as' er es4→(er=none∧rdStmt c.l (f+1) n p.es=addS (es4,p.es.2) ⟨3,emptyS,0, -1, -1,as',[],[]⟩)∨∃ a,er=some (a,8)∧rdStmt c.l (f+1) n p.es=.error a):=hidI (fun as' er es4 hg=>each_end hh n1 hl1 hl2 (by rw [←hT] at hg;exact hg));obtain ⟨b_set,b_fold,b_each,b_if,b_while,b_loop,b_bfs⟩:=zcQ wd;rw [decide_eq_true n1] at b_each;rw [decide_eq_false (by rw [n1];decide)] at b_set b_fold b_if b_while b_loop b_bfs;have HK00:=hidI hk0;clear hv h hn hN hz hkl hkn0 CH hh hks n1 hl1 hl2 hT hkl0 hk0;go_enter Tryz.func56,Tryz.ntmps56
 go_wp2_with (go_at_call 54;rw [HW1.out];refine CH2.out.mono ?_;rintro e w2 ⟨kv,rfl,hkv,hb2⟩;obtain ⟨_,qa,qc,rfl,_⟩:=id hkv;obtain ⟨kb,ko,rfl,_,hkb⟩:=zaB hkv (HS1.out.on hb2).below HK00.out;have HKV:=hidI hkv;have HKB:=hidI hkb;rw [HKL0.out];have hs2:=HS1.out.on hb2;have HSX:=hidI (hs2.setv (j:=0) (.int .u8 3));have r0:=hs2.vcell (j:=0) rfl;have z0:=hs2.vfree 0;clear hb2 CH2 hkv hkb hs2)
 go_loopg [12] kl (fun g s12 wx=>∃ (i:Nat) (p':PV) (er':Option (Int × Int)) (as':List Actn) (kv:Value),i+g=kl∧s12=.int .i64 (i:Int)∧as'.length=i∧Hid (DrS c p' er' (⟨bx w.heap.size,49,8,1,[.int .u8 3,.string ⟨#[]⟩,.int .u8 0,.int .i64 (-1),.int .i64 (-1),kv,.slice none 0 0,.slice none 0 0]⟩::aRow kv as'::iRow (.slice none 0 0) []::iRow (.slice none 0 0) []::X) wx)∧Hid (p'.ds=p.ds∧p'.ms=p.ms∧p'.ss=p.ss)∧Hid (p'.many+((ks.drop i).map c.sz).sum≤p.many+(ks.map c.sz).sum)∧Hid (GoingA c.l (ks.drop i) T as' er' (p'.xs.map Prod.fst))∧Hid (∀ a∈as',ActOk a))
 case atStart=>exact ⟨0,p,none,[],.slice none 0 0,by omega,rfl,rfl,HSX,hidI ⟨rfl,rfl,rfl⟩,hidI (by simp),HG0,hidI (by simp)⟩
 case round=>
  clear HSX HG0 r0 z0;obtain ⟨i,p',er',as',kv,hi,rfl,hil,HD,HPP,HM,HG,HAO⟩:=hrel;have HMT:Hid (p'.many+1≤p.many+c.sz n):=hidI (by have:=HM.out;have:=HZ2.out;omega);obtain ⟨va,vc,hkv⟩:∃ va vc,kv=.slice va as'.length vc:=zaH (RowsP.head (r:=aRow kv as') HD.out.less.first);subst hkv;subst hil;have HAL:Hid (as'.length≤6):=hidI (by omega);cases er' with
  | some x=>
   have hg:GoingA c.l [] T as' (some x) (p'.xs.map Prod.fst):=HG.out;have HGE:=hidI hg;have b5:=HD.out.cell (j:=5) (u:=.bool true) rfl;clear hg HG HM;cases gk with
   | zero=>
    obtain rfl:kl=as'.length:=by omega
    have k1:decide ((as'.length:Int)<(as'.length:Int))=false:=by simp

    go_wp2;have HTD:=hidI HD.out.drew;have HPL:Hid (p'.ss.length≤999):=hidI (by have:=HMT.out;have:=HN.out;have:=HZ1.out;unfold PV.many at *;omega);refine drgS (B:=c.B) (eb:=w.heap.size) (base:=c.w0.heap.size) (n:=p'.ss.length) (u:=p'.sv) (xs:=flatS p'.ss) (HTD.out.cell (j:=3) rfl) (HTD.out.vcell (j:=0) rfl) (HTD.out.vcell (j:=1) rfl) (HTD.out.vcell (j:=2) rfl) (HTD.out.vcell (j:=3) rfl) (HTD.out.vcell (j:=4) rfl) (HTD.out.vcell (j:=5) rfl) (HTD.out.vcell (j:=6) rfl) (HTD.out.vcell (j:=7) rfl) (HTD.out.free 3) HTD.out.sown.head (by have:=HPL.out;omega) HTD.out.size (zbJ HTD.out.sown) HTD.out.vfarS (by
     intro v hv;simp only [List.mem_cons,List.not_mem_nil,or_false] at hv;rcases hv with rfl|rfl|rfl|rfl|rfl|rfl|rfl|rfl<;>rfl) (fun _ _ _ _ _ h=>h) ?_
    intro W5 u' t277 t278 t279 t280 t281 t282 t283 t284 t285 t286 t287 t288 hg ho ha;have s5:=DrS.addS (s:=⟨⟨3,emptyS,0, -1, -1,as',[],[]⟩,(.slice va as'.length vc),.slice none 0 0,.slice none 0 0⟩) (HTD.out.less.alloc (.cells #[.int .u8 3,.string ⟨#[]⟩,.int .u8 0,.int .i64 (-1),.int .i64 (-1),(.slice va as'.length vc),.slice none 0 0,.slice none 0 0] 49)) ⟨by show 3<256;omega,by show 0<256;omega,(by unfold SmlN;decide:SmlN emptyS),(by have:=HAL.out;show as'.length≤_;omega),by simp,by simp,HAO.out⟩ (by have:=HPL.out;omega) hg ho (by simpa using ha);have HS5:=hidI s5;obtain ⟨ml,hml⟩:∃ ml,p'.ss.length=ml:=⟨_,rfl⟩;obtain ⟨ua,uc,hu⟩:∃ ua uc,u'=.slice ua (p'.ss.length+1) uc:=zaH ho;rw [hml] at hu;subst hu;have c7:=s5.cell (j:=3) (u:=.slice ua (ml+1) uc) rfl;have hml2:ml≤999:=hml▸HPL.out;have e9:IntKind.i64.wrap (((ml+1:Nat):Int)-1)=(ml:Int):=by rw [show (((ml+1:Nat):Int)-1)=(ml:Int) by omega,IntKind.wrap_i64];omega
    obtain ⟨W6,hW6⟩:∃ W6,W5.setCell ⟨c.B,3,none⟩ (.slice ua (ml+1) uc)=W6:=⟨_,rfl⟩;rw [hW6] at HS5 c7 ⊢;have HML:=hidI hml;clear hg ho ha s5 HTD hW6 hml;go_wp2;go_ret;rw [←HML.out];have hee:p'.es=(p'.xs.map Prod.fst,p.es.2):=by
     unfold PV.es;rw [HPP.out.2.2]
    rcases HEE.out _ _ _ HGE.out with ⟨hn,hr⟩|⟨a,hn,hr⟩
    ·first
      | (cases hn;done)
      | exact DsPost.ok hr hee HS5.out HPP.out.1 HPP.out.2.1 HMT.out
    ·first
      | (cases hn;exact DsPost.bad hr HS5.out HPP.out.1 HPP.out.2.1 (by have:=HMT.out;simp [PV.many] at this ⊢;omega))
      | cases hn

   | succ g=>
    have k1:(as'.length:Int)<(kl:Int):=by omega
    go_wp2;have HTD:=hidI HD.out.drew;have HPL:Hid (p'.ss.length≤999):=hidI (by have:=HMT.out;have:=HN.out;have:=HZ1.out;unfold PV.many at *;omega);refine drgS (B:=c.B) (eb:=w.heap.size) (base:=c.w0.heap.size) (n:=p'.ss.length) (u:=p'.sv) (xs:=flatS p'.ss) (HTD.out.cell (j:=3) rfl) (HTD.out.vcell (j:=0) rfl) (HTD.out.vcell (j:=1) rfl) (HTD.out.vcell (j:=2) rfl) (HTD.out.vcell (j:=3) rfl) (HTD.out.vcell (j:=4) rfl) (HTD.out.vcell (j:=5) rfl) (HTD.out.vcell (j:=6) rfl) (HTD.out.vcell (j:=7) rfl) (HTD.out.free 3) HTD.out.sown.head (by have:=HPL.out;omega) HTD.out.size (zbJ HTD.out.sown) HTD.out.vfarS (by
     intro v hv;simp only [List.mem_cons,List.not_mem_nil,or_false] at hv;rcases hv with rfl|rfl|rfl|rfl|rfl|rfl|rfl|rfl<;>rfl) (fun _ _ _ _ _ h=>h) ?_
    intro W5 u' t277 t278 t279 t280 t281 t282 t283 t284 t285 t286 t287 t288 hg ho ha;have s5:=DrS.addS (s:=⟨⟨3,emptyS,0, -1, -1,as',[],[]⟩,(.slice va as'.length vc),.slice none 0 0,.slice none 0 0⟩) (HTD.out.less.alloc (.cells #[.int .u8 3,.string ⟨#[]⟩,.int .u8 0,.int .i64 (-1),.int .i64 (-1),(.slice va as'.length vc),.slice none 0 0,.slice none 0 0] 49)) ⟨by show 3<256;omega,by show 0<256;omega,(by unfold SmlN;decide:SmlN emptyS),(by have:=HAL.out;show as'.length≤_;omega),by simp,by simp,HAO.out⟩ (by have:=HPL.out;omega) hg ho (by simpa using ha);have HS5:=hidI s5;obtain ⟨ml,hml⟩:∃ ml,p'.ss.length=ml:=⟨_,rfl⟩;obtain ⟨ua,uc,hu⟩:∃ ua uc,u'=.slice ua (p'.ss.length+1) uc:=zaH ho;rw [hml] at hu;subst hu;have c7:=s5.cell (j:=3) (u:=.slice ua (ml+1) uc) rfl;have hml2:ml≤999:=hml▸HPL.out;have e9:IntKind.i64.wrap (((ml+1:Nat):Int)-1)=(ml:Int):=by rw [show (((ml+1:Nat):Int)-1)=(ml:Int) by omega,IntKind.wrap_i64];omega
    obtain ⟨W6,hW6⟩:∃ W6,W5.setCell ⟨c.B,3,none⟩ (.slice ua (ml+1) uc)=W6:=⟨_,rfl⟩;rw [hW6] at HS5 c7 ⊢;have HML:=hidI hml;clear hg ho ha s5 HTD hW6 hml;go_wp2;go_ret;rw [←HML.out];have hee:p'.es=(p'.xs.map Prod.fst,p.es.2):=by
     unfold PV.es;rw [HPP.out.2.2]
    rcases HEE.out _ _ _ HGE.out with ⟨hn,hr⟩|⟨a,hn,hr⟩
    ·first
      | (cases hn;done)
      | exact DsPost.ok hr hee HS5.out HPP.out.1 HPP.out.2.1 HMT.out
    ·first
      | (cases hn;exact DsPost.bad hr HS5.out HPP.out.1 HPP.out.2.1 (by have:=HMT.out;simp [PV.many] at this ⊢;omega))
      | cases hn

  | none=>
   have b5:=HD.out.cell (j:=5) (u:=.bool false) rfl;cases gk with
   | zero=>
    obtain rfl:kl=as'.length:=by omega
    have k1:decide ((as'.length:Int)<(as'.length:Int))=false:=by simp

    have hd0:ks.drop as'.length=[]:=List.drop_eq_nil_of_le (by have:=HKL0.out;omega);have hg:=HG.out;rw [hd0] at hg;have HGE:=hidI hg;clear hg HG HM hd0;go_wp2;have HTD:=hidI HD.out.drew;have HPL:Hid (p'.ss.length≤999):=hidI (by have:=HMT.out;have:=HN.out;have:=HZ1.out;unfold PV.many at *;omega);refine drgS (B:=c.B) (eb:=w.heap.size) (base:=c.w0.heap.size) (n:=p'.ss.length) (u:=p'.sv) (xs:=flatS p'.ss) (HTD.out.cell (j:=3) rfl) (HTD.out.vcell (j:=0) rfl) (HTD.out.vcell (j:=1) rfl) (HTD.out.vcell (j:=2) rfl) (HTD.out.vcell (j:=3) rfl) (HTD.out.vcell (j:=4) rfl) (HTD.out.vcell (j:=5) rfl) (HTD.out.vcell (j:=6) rfl) (HTD.out.vcell (j:=7) rfl) (HTD.out.free 3) HTD.out.sown.head (by have:=HPL.out;omega) HTD.out.size (zbJ HTD.out.sown) HTD.out.vfarS (by
     intro v hv;simp only [List.mem_cons,List.not_mem_nil,or_false] at hv;rcases hv with rfl|rfl|rfl|rfl|rfl|rfl|rfl|rfl<;>rfl) (fun _ _ _ _ _ h=>h) ?_
    intro W5 u' t277 t278 t279 t280 t281 t282 t283 t284 t285 t286 t287 t288 hg ho ha;have s5:=DrS.addS (s:=⟨⟨3,emptyS,0, -1, -1,as',[],[]⟩,(.slice va as'.length vc),.slice none 0 0,.slice none 0 0⟩) (HTD.out.less.alloc (.cells #[.int .u8 3,.string ⟨#[]⟩,.int .u8 0,.int .i64 (-1),.int .i64 (-1),(.slice va as'.length vc),.slice none 0 0,.slice none 0 0] 49)) ⟨by show 3<256;omega,by show 0<256;omega,(by unfold SmlN;decide:SmlN emptyS),(by have:=HAL.out;show as'.length≤_;omega),by simp,by simp,HAO.out⟩ (by have:=HPL.out;omega) hg ho (by simpa using ha);have HS5:=hidI s5;obtain ⟨ml,hml⟩:∃ ml,p'.ss.length=ml:=⟨_,rfl⟩;obtain ⟨ua,uc,hu⟩:∃ ua uc,u'=.slice ua (p'.ss.length+1) uc:=zaH ho;rw [hml] at hu;subst hu;have c7:=s5.cell (j:=3) (u:=.slice ua (ml+1) uc) rfl;have hml2:ml≤999:=hml▸HPL.out;have e9:IntKind.i64.wrap (((ml+1:Nat):Int)-1)=(ml:Int):=by rw [show (((ml+1:Nat):Int)-1)=(ml:Int) by omega,IntKind.wrap_i64];omega
    obtain ⟨W6,hW6⟩:∃ W6,W5.setCell ⟨c.B,3,none⟩ (.slice ua (ml+1) uc)=W6:=⟨_,rfl⟩;rw [hW6] at HS5 c7 ⊢;have HML:=hidI hml;clear hg ho ha s5 HTD hW6 hml;go_wp2;go_ret;rw [←HML.out];have hee:p'.es=(p'.xs.map Prod.fst,p.es.2):=by
     unfold PV.es;rw [HPP.out.2.2]
    rcases HEE.out _ _ _ HGE.out with ⟨hn,hr⟩|⟨a,hn,hr⟩
    ·first
      | (cases hn;done)
      | exact DsPost.ok hr hee HS5.out HPP.out.1 HPP.out.2.1 HMT.out
    ·first
      | (cases hn;exact DsPost.bad hr HS5.out HPP.out.1 HPP.out.2.1 (by have:=HMT.out;simp [PV.many] at this ⊢;omega))
      | cases hn

   | succ g=>
    have k1:(as'.length:Int)<(kl:Int):=by omega
    obtain ⟨k,hk⟩:∃ k,ks[as'.length]?=some k:=⟨_,List.getElem?_eq_getElem (by have:=HKL0.out;omega)⟩;have hkm:=List.mem_of_getElem? hk;have hdr:ks.drop as'.length=k::ks.drop (as'.length+1):=by
     rw [List.drop_eq_getElem_cons (by have:=HKL0.out;omega)];congr 1;exact Option.some.inj ((List.getElem?_eq_getElem _).symm.trans hk)
    have hd:=HD.out.drew;obtain ⟨kb2,ko2,e9,kq,hkb⟩:=zaB HKV.out hd.below hk;cases e9;have hm:=HM.out;have hg:=HG.out;rw [hdr] at hm hg;simp only [List.map_cons,List.sum_cons] at hm;have hbd:p'.many+c.sz k≤999:=by
     have h1:=HZ2.out;have h2:=HN.out;omega
    have HC:=hidI (dact_any hc (HKT.out k hkm) hd hbd);have HM2:=hidI hm;have HG2:=hidI hg;have HHD:=hidI hd;have HKQ:=hidI kq;have hBV:=hd.vapart;have hKB:(Value.slice va as'.length vc).ownBlock≠some kb:=fun e=>by have:=(hd.less.first.head.lt kb e).1;omega
    have hil2:as'.length≤1000:=by omega
    have HKk:=hidI hk;clear hm hg hdr hbd hkm HG HM hd kq hk;go_wp2;refine drgA (B:=c.B) (cb:=w.heap.size) (base:=c.w0.heap.size) (n:=as'.length) (kb:=kb) (ko:=ko) (ii:=as'.length) (kl:=kl) (kc:=qc) (km:=(k:Int)) (u:=(.slice va as'.length vc)) (xs:=flatAc as') (P:=fun v W=>∃ p2 er2,DrS c p2 er2 (⟨bx w.heap.size,49,8,1,[.int .u8 3,.string ⟨#[]⟩,.int .u8 0,.int .i64 (-1),.int .i64 (-1),(.slice va as'.length vc),.slice none 0 0,.slice none 0 0]⟩::aRow (.slice va as'.length vc) as'::iRow (.slice none 0 0) []::iRow (.slice none 0 0) []::X) W∧p2.ds=p'.ds∧p2.ms=p'.ms∧p2.ss=p'.ss∧p2.many≤p'.many+c.sz k∧ActOk v∧(match rdAct c.l k (p'.xs.map Prod.fst) with
     | .ok (a',es')=>er2=none∧v=a'∧p2.xs.map Prod.fst=es'
     | .error x=>er2=some (x,8))) ⟨HHD.out.vcell (j:=5) rfl,HKQ.out⟩ k1 ⟨_,_,_,rfl⟩ hil2 hBV hKB (HC.out.mono fun e w' h9 => ?_) (fun v x hx=>by
      simp only [List.mem_cons,List.not_mem_nil,or_false] at hx;rcases hx with rfl|rfl|rfl|rfl|rfl|rfl<;>rfl) (fun _ _ _ _ _ h=>h) ?_
    ·obtain ⟨p2,er2,v,he,hS,h1,h2,h3,h4,h5,h6⟩:=h9;obtain ⟨kb3,ko3,e8,kq3,_⟩:=zaB HKV.out hS.below HKk.out;cases e8;exact ⟨v,he,⟨hS.vcell (j:=5) rfl,kq3⟩,hS.vfree 5,hS.less.first.head,hS.size,p2,er2,hS,h1,h2,h3,h4,h5,h6⟩
    ·intro v WA W5 u' t140 t141 t142 t143 t144 t145 t146 t147 t148 t149 t150 hP hg9 ho9 ha9;obtain ⟨p2,er2,hS2,q1,q2,q3,q4,q5,q6⟩:=hP;have s5:=DrS.swap (j:=5) (r':=aRow u' (as'++[v])) (hS2.alloc (.cells #[.int .u8 (v.k:Int),.string v.name,.int .u8 (v.op:Int),.bool v.inn,.int .i64 v.e,.int .i64 v.cond] 75)) hg9 (by
      show W5.ownsRow c.w0.heap.size 75 6 u' (as'++[v]).length (flatAc (as'++[v]));rw [List.length_append,flatAc_snoc];simpa [acells] using ho9) (by simpa [aRow] using ha9)
     have HS5:=hidI s5;have HQ9:Hid (p2.ds=p.ds∧p2.ms=p.ms∧p2.ss=p.ss):=hidI ⟨q1.trans HPP.out.1,q2.trans HPP.out.2.1,q3.trans HPP.out.2.2⟩;have HM9:Hid (p2.many+((ks.drop (as'.length+1)).map c.sz).sum≤p.many+(ks.map c.sz).sum):=hidI (by have:=HM2.out;omega);have HG9:=hidI (HG2.out.step q6);have HA9:Hid (∀ a∈as'++[v],ActOk a):=hidI (fun a ha=>by
      rcases List.mem_append.1 ha with h|h
      ·exact HAO.out a h
      ·rw [List.mem_singleton.1 h];exact q5)
     obtain ⟨W6,hW6⟩:∃ W6,W5.setCell ⟨w.heap.size,5,none⟩ u'=W6:=⟨_,rfl⟩;rw [show (aRow u' (as'++[v])).v=u' from rfl,hW6] at HS5;rw [hW6];clear hg9 ho9 ha9 s5 hS2 q1 q2 q3 q4 q5 q6 hW6 HC HHD HKQ HKk HM2 HG2 HPP;go_wp2;go_roundg g
     case measure=>omega
     case rel=>exact ⟨as'.length+1,p2,er2,as'++[v],u',by omega,by go_num,by simp,HS5,HQ9,HM9,HG9,HA9⟩
end Go.Proofs.YtfljimpgnlfipaaGreatDoor
