/-
  Part 21 of the proof: DrV3, Wide, RegW, Into, WalkS, PWalk, Reg12, PToks, SizeW, RPrs.
-/
import Derived.Test.YtfljimpgnlfipaaGreatDoorTE20
import Derived.Test.YtfljimpgnlfipaaGreatDoorProg
import Derived.OrdersHeld
import Derived.Deep.RegionHeld3
import Derived.Test.YtfljimpgnlfipaaGreatDoorTE03
import Derived.Sort.LoopGhostIn
import Derived.TacticsInMore
import Derived.Test.YtfljimpgnlfipaaGreatDoorTE02
import Derived.Laws.OwnMore
namespace Go.Proofs.YtfljimpgnlfipaaGreatDoor
open Go.RowKit Go.Deep Go.MapKept
def DRead (T:Except (Int × Int) Prg) (w:World) (e:Ending) (w':World):Prop:=
 (match T with
  | .ok P=>PrgOk P∧∃ p',p'.prg=P∧e=.returned (.tuple #[pval p',.int .i64 0,.int .i64 0])∧OwnP w' w.heap.size p'
  | .error x=>e=.returned (.tuple #[pval pv0,.int .i64 x.1,.int .i64 x.2]))∧Below w.heap.size w w'
theorem declOf_lt {s:ByteArray} {a b:Nat} (h:declOf s=some (a,b)):a<256∧b<256:=by
 unfold declOf at h
 repeat' split at h
 all_goals first|(cases h;done)|(cases h;exact ⟨by decide,by decide⟩)
theorem DrS.vfarD {c:Dx} {p:PV} {er:Option (Int × Int)} {X:List Rw} {w:World} {V ty n:Nat} {bs:List Value} (h:DrS c p er (⟨bx V,ty,n,1,bs⟩::X) w):p.dv.ownBlock≠some V:=by
 have h1:=h.first.far_head (dRow p) (by simp [drows]);rcases h1 with e|e
 ·cases e
 ·exact fun e2=>e e2.symm
theorem OwnP.far {w:World} {base b:Nat} {p:PV} (h:OwnP w base p) (hb:b<base) (j:Nat) (v:Value):OwnP (w.setCell ⟨b,j,none⟩ v) base p:=RowsP.far h (grown_set w b j v) (fun r hr=>.inr (fun e=>by have:=(RowsP.lt h hr e).1;omega))
set_option maxRecDepth 100000 in
set_option maxHeartbeats 32000000 in
theorem dread_any {w:World} {fv tv:Value} {fs:List FV} {ts:List Nat} {sz:Nat→Nat}
  (hrow:SeesC w fv fs.length 5 (flatF fs)) (hkid:∀ (i:Nat) (x:FV),fs[i]?=some x→SeesC w x.2 x.1.kids.length 1 (ints x.1.kids)∧Roomy x.2) (hlen:fs.length≤400) (hkl:∀ (i:Nat) (x:FV),fs[i]?=some x→∀ k∈x.1.kids,i<k∧k<fs.length) (hkn:∀ (i:Nat) (x:FV),fs[i]?=some x→x.1.kids.length≤400) (htx:∀ (i:Nat) (x:FV),fs[i]?=some x→x.1.s.size≤140737488355328) (hsz:∀ (i:Nat) (x:FV),fs[i]?=some x→1+(x.1.kids.map sz).sum≤sz i)
  (ht:SeesC w tv ts.length 1 (ints ts)) (htl:ts.length≤400) (hlt:∀ k∈ts,k<fs.length) (htz:(ts.map sz).sum≤999)
  (HR:∀ W,Below w.heap.size w W→Calls Tryz.prog 53 #[fv,tv] W fun e w'=>e=.returned (.bool true)∧Below W.heap.size W w') :
  Calls Tryz.prog 26 #[fv,tv] w (DRead (rdTop (fs.map Prod.fst) ts pv0.prg) w):=by
 obtain ⟨_,ta,tc,rfl,_⟩:=id ht;obtain ⟨_,fa,fc,rfl,_⟩:=id hrow;obtain ⟨tl,htl0⟩:∃ tl,ts.length=tl:=⟨_,rfl⟩;obtain ⟨T,hTT⟩:∃ T,rdTop (fs.map Prod.fst) ts pv0.prg=T:=⟨_,rfl⟩;have CR:=hidI HR;have HROW:=hidI hrow;have HKID:=hidI hkid;have HT0:=hidI ht;have HTL:=hidI htl0;have HT4:Hid (tl≤400):=hidI (by omega);have HLT0:=hidI hlt;have HTZ:=hidI htz;have HT9:=hidI hTT;have HOK0:Hid (∀ (W:World),Below w.heap.size w W→∀ c:Dx,c.w0=W→c.fv=.slice fa fs.length fc→c.fs=fs→c.sz=sz→c.Ok):=hidI (fun W hb c q0 qv qf qz=>by
  obtain ⟨cw,cB,cv,cf,cz,cm⟩:=c;simp only at q0 qv qf qz;subst q0 qv qf qz;exact ⟨HROW.out.below hb (Nat.le_refl _),fun i x hx=>⟨(HKID.out i x hx).1.below hb (Nat.le_refl _),(HKID.out i x hx).2⟩,hlen,hkl,hkn,htx,hsz⟩)
 rw [htl0] at CR ⊢;rw [hTT];clear hrow hkid ht HR hlen hkl hkn htx hsz htl hlt htz htl0 hTT;go_enter Tryz.func26,Tryz.ntmps26
 go_wp2_with (go_at_call 53;refine Calls.mono (CR.out _ (by exact belowT)) ?_;intro e w1 h1;obtain ⟨rfl,hb1⟩:=h1;clear CR;refine Hid.out ?_)
 have hb0:Below w.heap.size w (w.alloc (.cells #[.slice none 0 0,.slice none 0 0,.slice none 0 0,.slice none 0 0] 27)):=by exact belowT
 have hbw:Below w.heap.size w w1:=hb0.trans (hb1.mono hb0.size);have hRl:w.heap.size<w1.heap.size:=by have:=hb1.size;simp at this;omega
 have HR1:=hidI hRl;have HBW:=hidI hbw;have hcl:∀ (j:Nat) (v:Value),(w.alloc (.cells #[.slice none 0 0,.slice none 0 0,.slice none 0 0,.slice none 0 0] 27)).cell? ⟨w.heap.size,j,none⟩=some v→w1.cell? ⟨w.heap.size,j,none⟩=some v:=fun j v hq=>(hb1.cell (World.block_lt_of_cell? _ _ hq)).trans hq
 have HRC:Hid (∀ u:World,Below w1.heap.size w1 u→(u.cell? ⟨w.heap.size,0,none⟩=some (.slice none 0 0)∧u.cell? ⟨w.heap.size,1,none⟩=some (.slice none 0 0)∧u.cell? ⟨w.heap.size,2,none⟩=some (.slice none 0 0)∧u.cell? ⟨w.heap.size,3,none⟩=some (.slice none 0 0))∧∀ j,u.frozen? ⟨w.heap.size,j,none⟩=false):=hidI (fun u hu=>by
  have h0:=hcl 0 (.slice none 0 0) (by go_simp);have h1:=hcl 1 (.slice none 0 0) (by go_simp);have h2:=hcl 2 (.slice none 0 0) (by go_simp);have h3:=hcl 3 (.slice none 0 0) (by go_simp);refine ⟨⟨(hu.cell hRl).trans h0,(hu.cell hRl).trans h1,(hu.cell hRl).trans h2,(hu.cell hRl).trans h3⟩,fun j => ?_⟩;refine (hu.frozen (p:=⟨w.heap.size,j,none⟩) hRl).trans ((hb1.frozen (p:=⟨w.heap.size,j,none⟩) (by simp)).trans ?_);go_simp)
 have HOK:Hid (∀ c:Dx,c.w0=w1→c.fv=.slice fa fs.length fc→c.fs=fs→c.sz=sz→c.Ok):=hidI (HOK0.out w1 hbw);have HT:Hid (SeesC w1 (.slice ta ts.length tc) ts.length 1 (ints ts)):=hidI (HT0.out.below hbw (Nat.le_refl _));have hs0:DrS ⟨w1,w1.heap.size,.slice fa fs.length fc,fs,sz,.slice none 0 0⟩ pv0 none [] (w1.alloc (.cells #[.slice fa fs.length fc,.slice none 0 0,.slice none 0 0,.slice none 0 0,.slice none 0 0,.bool false,.int .i64 0,.int .i64 0] 101)):=DrS.begin (Below.refl _ _) rfl rfl;obtain ⟨c0,hc0⟩:∃ c0:Dx,c0=⟨w1,w1.heap.size,.slice fa fs.length fc,fs,sz,.slice none 0 0⟩:=⟨_,rfl⟩;rw [←hc0] at hs0;have HS0:=hidI hs0;have HCE0:Hid (c0.w0=w1∧c0.B=w1.heap.size∧c0.fv=.slice fa fs.length fc∧c0.fs=fs∧c0.sz=sz):=hidI (by rw [hc0];exact ⟨rfl,rfl,rfl,rfl,rfl⟩);have HG0:Hid (TopR (fs.map Prod.fst) (ts.drop 0) T none pv0.prg):=hidI (by rw [List.drop_zero];exact HT9.out);have HM0:Hid (pv0.many+((ts.drop 0).map sz).sum≤999):=hidI (by rw [List.drop_zero];have:=HTZ.out;simp [PV.many,pv0];omega);have HL0:Hid (pv0.ms.length≤0):=hidI (by simp [pv0]);clear hb0 hbw hRl hcl hs0 hc0 HOK0 HT0 HROW HKID HT9 HTZ hb1;refine hidI ?_;go_wp2;obtain ⟨B,hB⟩:∃ B,w1.heap.size=B:=⟨_,rfl⟩;rw [hB] at HCE0 ⊢;clear hB;obtain ⟨W0,hW0⟩:∃ W0,w1.alloc (.cells #[.slice fa fs.length fc,.slice none 0 0,.slice none 0 0,.slice none 0 0,.slice none 0 0,.bool false,.int .i64 0,.int .i64 0] 101)=W0:=⟨_,rfl⟩;rw [hW0] at HS0 ⊢;clear hW0
 go_loopg [8] tl (fun gg s8 wx=>∃ (i:Nat) (c:Dx) (p':PV) (er':Option (Int × Int)),i+gg=tl∧s8=.int .i64 (i:Int)∧Hid (c.w0=w1∧c.B=B∧c.fv=.slice fa fs.length fc∧c.fs=fs∧c.sz=sz)∧Hid (DrS c p' er' [] wx)∧Hid (p'.many+((ts.drop i).map sz).sum≤999)∧Hid (p'.ms.length≤i)∧Hid (TopR (fs.map Prod.fst) (ts.drop i) T er' p'.prg))
 case atStart=>exact ⟨0,c0,pv0,none,by omega,rfl,HCE0,HS0,HM0,HL0,HG0⟩
 case round=>
  clear HCE0 HS0 HM0 HL0 HG0;obtain ⟨i,c,p',er',hi,rfl,HCE,HD,HM,HML,HG⟩:=hrel;obtain ⟨q0,qB,qv,qf,qz⟩:=HCE.out;have hc:=HOK.out c q0 qv qf qz;clear HCE;subst q0 qB qf qz;have HQV0:=hidI qv;clear qv;cases er' with
  | some x=>
   obtain ⟨a,y⟩:=x;cases gk with
   | zero=>
    have hT:T=.error (a,y):=HG.out;have b5:=HD.out.cell (j:=5) (u:=.bool true) rfl;have b6:=HD.out.cell (j:=6) (u:=.int .i64 a) rfl;have b7:=HD.out.cell (j:=7) (u:=.int .i64 y) rfl;obtain ⟨⟨r0,r1,r2,r3⟩,rf⟩:=HRC.out _ HD.out.below;have z0:=rf 0;have z1:=rf 1;have z2:=rf 2;have z3:=rf 3;have HTT:=hidI hT;have HBX:=hidI (HBW.out.trans (HD.out.below.mono HBW.out.size));clear hT rf HG HM HRC HD hc;obtain rfl:tl=i:=by omega
    have k1:decide ((tl:Int)<(tl:Int))=false:=by simp
    go_wp2;go_region;go_wp2;refine bodyPost_ret (v:=.tuple #[.agg #[.slice none 0 0,.slice none 0 0,.slice none 0 0,.slice none 0 0],.int .i64 a,.int .i64 y]) ?_ rfl ?_
    ·rw [zdB rfl]
     (go_simp<;>first|done|rfl)
    ·refine ⟨by rw [HTT.out];rfl,?_⟩
     repeat (first|exact HBX.out|refine Below.drew ?_|refine below_drewN ?_ _|refine Below.setCell ?_ (by first|exact Nat.le_refl _|omega|(simp;done)|(simp;omega)) _)
   | succ gg=>
    have hT:T=.error (a,y):=HG.out;have b5:=HD.out.cell (j:=5) (u:=.bool true) rfl;have b6:=HD.out.cell (j:=6) (u:=.int .i64 a) rfl;have b7:=HD.out.cell (j:=7) (u:=.int .i64 y) rfl;obtain ⟨⟨r0,r1,r2,r3⟩,rf⟩:=HRC.out _ HD.out.below;have z0:=rf 0;have z1:=rf 1;have z2:=rf 2;have z3:=rf 3;have HTT:=hidI hT;have HBX:=hidI (HBW.out.trans (HD.out.below.mono HBW.out.size));clear hT rf HG HM HRC HD hc;have k1:(i:Int)<(tl:Int):=by omega
    go_wp2;go_region;go_wp2;refine bodyPost_ret (v:=.tuple #[.agg #[.slice none 0 0,.slice none 0 0,.slice none 0 0,.slice none 0 0],.int .i64 a,.int .i64 y]) ?_ rfl ?_
    ·rw [zdB rfl]
     (go_simp<;>first|done|rfl)
    ·refine ⟨by rw [HTT.out];rfl,?_⟩
     repeat (first|exact HBX.out|refine Below.drew ?_|refine below_drewN ?_ _|refine Below.setCell ?_ (by first|exact Nat.le_refl _|omega|(simp;done)|(simp;omega)) _)
  | none=>
   cases gk with
   | zero=>
    obtain rfl:tl=i:=by omega
    have k1:decide ((tl:Int)<(tl:Int))=false:=by simp
    have hT:T=.ok p'.prg:=by
     have h1:=HG.out;rw [List.drop_eq_nil_of_le (by have:=HTL.out;omega)] at h1;exact h1.symm
    have b5:=HD.out.cell (j:=5) (u:=.bool false) rfl;obtain ⟨da,dc,hdv⟩:∃ da dc,p'.dv=.slice da p'.ds.length dc:=zaH HD.out.down.head;obtain ⟨xa,xc,hxv⟩:∃ xa xc,p'.xv=.slice xa p'.xs.length xc:=zaH HD.out.xown.head;obtain ⟨sa,sc,hsv⟩:∃ sa sc,p'.sv=.slice sa p'.ss.length sc:=zaH HD.out.sown.head;obtain ⟨ma,mc,hmv⟩:∃ ma mc,p'.mv=.slice ma p'.ms.length mc:=zaH HD.out.mown.head;have b1:=HD.out.cell (j:=1) (u:=p'.dv) rfl;have b2:=HD.out.cell (j:=2) (u:=p'.xv) rfl;have b3:=HD.out.cell (j:=3) (u:=p'.sv) rfl;have b4:=HD.out.cell (j:=4) (u:=p'.mv) rfl;rw [hdv] at b1;rw [hxv] at b2;rw [hsv] at b3;rw [hmv] at b4;obtain ⟨⟨r0,r1,r2,r3⟩,rf⟩:=HRC.out _ HD.out.below;have z0:=rf 0;have z1:=rf 1;have z2:=rf 2;have z3:=rf 3;have HTT:=hidI hT;have HBX:=hidI (HBW.out.trans (HD.out.below.mono HBW.out.size));have HV4:=hidI (And.intro hdv (And.intro hxv (And.intro hsv hmv)));have HOP:Hid (OwnP wr c.w0.heap.size p'):=hidI (by
     have h1:=HD.out.rows;rw [List.append_nil] at h1;exact h1.rest)
    have HOK9:=hidI HD.out.ok.1;have HRL:=hidI HR1.out;clear hT rf HG HM HRC HD hc hdv hxv hsv hmv;go_wp2;refine bodyPost_ret (v:=.tuple #[.agg #[.slice da p'.ds.length dc,.slice xa p'.xs.length xc,.slice sa p'.ss.length sc,.slice ma p'.ms.length mc],.int .i64 0,.int .i64 0]) ?_ rfl ?_
    ·rw [zdB rfl]
     (go_simp<;>first|done|rfl)
    ·obtain ⟨e1,e2,e3,e4⟩:=HV4.out;refine ⟨?_,?_⟩
     ·rw [HTT.out];refine ⟨HOK9.out,p',rfl,by rw [pval,e1,e2,e3,e4],?_⟩;exact RowsP.base ((((HOP.out.far HRL.out 0 _).far HRL.out 1 _).far HRL.out 2 _).far HRL.out 3 _) (by have:=HRL.out;omega)
     ·repeat (first|exact HBX.out|refine Below.drew ?_|refine below_drewN ?_ _|refine Below.setCell ?_ (by first|exact Nat.le_refl _|omega|(simp;done)|(simp;omega)) _)
   | succ gg=>
    have k1:(i:Int)<(tl:Int):=by omega
    have hi4:i≤400:=by have:=HT4.out;omega
    obtain ⟨k,hk⟩:∃ k,ts[i]?=some k:=⟨_,List.getElem?_eq_getElem (by have:=HTL.out;omega)⟩;have hkm:=List.mem_of_getElem? hk;have hkl:=HLT0.out k hkm;have hdr:ts.drop i=k::ts.drop (i+1):=by
     rw [List.drop_eq_getElem_cons (by have:=HTL.out;omega)];congr 1;exact Option.some.inj ((List.getElem?_eq_getElem _).symm.trans hk)
    obtain ⟨kb,ko,rfl,kq,hkb⟩:=zaB HT.out HD.out.below hk;obtain ⟨x,hx⟩:∃ x,c.fs[k]?=some x:=⟨_,List.getElem?_eq_getElem hkl⟩;obtain ⟨g,o,cap,hv,_⟩:=hc.form HD.out.below hx;have hqv:=HQV0.out;rw [hqv] at hv;cases hv;have HQV:=hidI hqv;obtain ⟨xp,hxp⟩:∃ xp,x.1.p=xp:=⟨_,rfl⟩;have HFP:Hid ((frm c.l k).p=xp):=hidI (by rw [Dx.frm_at hx,hxp]);have HC4:Hid (∀ u:World,Below c.w0.heap.size c.w0 u→u.cell? ⟨g,o+k*5+4,none⟩=some (.int .i64 xp)):=hidI (fun u hu=>by
     obtain ⟨g2,o2,cap2,hv2,_,_,_,_,q4⟩:=hc.form hu hx;rw [hqv] at hv2;cases hv2;rw [←hxp];exact q4)
    have b0:=HD.out.cell (j:=0) (u:=c.fv) rfl;rw [hqv] at b0;have b5:=HD.out.cell (j:=5) (u:=.bool false) rfl;have hm:=HM.out;have hg:=HG.out;rw [hdr] at hm hg;simp only [List.map_cons,List.sum_cons] at hm;have HM2:=hidI hm;have HG2:Hid (TopR c.l (k::ts.drop (i+1)) T none p'.prg):=hidI hg;have HBD:Hid (p'.many+c.sz k≤999):=hidI (by omega);have HKL:=hidI hkl;have HK:=hidI hk;have HKB:=hidI hkb;have m1:(k:Int)<(c.fs.length:Int):=by omega
    have m2:(0:Int)≤(k:Int):=by omega
    have CH:=hidI (zbC hc HD.out hkl);clear hm hg hdr HM HG hkm hk hkb hkl hx hxp hqv HQV0;cases hh:headF c.l k with
    | none=>
     have CH2:Hid (Calls Tryz.prog 54 #[.pointer (some ⟨c.B,0,none⟩),.int .i64 (k:Int)] wr fun e w'=>e=.returned (.tuple #[.string ⟨#[]⟩,.slice none 0 0,.bool false])∧Below wr.heap.size wr w'):=hidI (by
      refine CH.out.mono fun e w' h => ?_
      unfold HdPost at h;rw [hh] at h;exact h)
     have CD:Hid (∀ W,Calls Tryz.prog 55 #[.string ⟨#[]⟩] W fun e w'=>e=.returned (.tuple #[.agg #[.string ⟨#[]⟩,.int .u8 0,.int .u8 0],.bool false])∧Below W.heap.size W w'):=hidI (fun W=>by
      have h1:=ddecl_any ⟨#[]⟩ W;rw [show declOf ⟨#[]⟩=none from by decide +kernel] at h1;exact h1)
     have HND:Hid (∀ w k',headF c.l k=some (w,k')→declOf w=none):=hidI (fun w k' h=>by rw [hh] at h;cases h);clear CH hh
     go_wp2_with (first
      | (go_at_call 54;refine CH2.out.mono ?_;rintro e w2 ⟨rfl,hb2⟩;have HS2:=hidI (HD.out.on hb2);clear hb2 CH2)
      | (go_at_call 55;refine Calls.mono (CD.out _) ?_;rintro e w3 ⟨rfl,hb3⟩;have HS3:=hidI ((HS2.out.on hb3).alloc (.cells #[.string ⟨#[]⟩,.int .u8 0,.int .u8 0] 106));clear hb3 CD))
     have HTD:=hidI HS3.out.drew;obtain ⟨_,_,e9,kq9,_⟩:=zaB HT.out HTD.out.below HK.out;cases e9;have HC:=hidI (dstmt_any hc HKL.out p' [] _ HTD.out HBD.out);obtain ⟨ma,mc,hmv⟩:∃ ma mc,p'.mv=.slice ma p'.ms.length mc:=zaH HTD.out.mown.head;refine drgM (B:=c.B) (base:=c.w0.heap.size) (n:=p'.ms.length) (kb:=kb) (ko:=ko) (ii:=i) (kl:=tl) (kc:=tc) (km:=(k:Int)) (u:=p'.mv) (xs:=intsI p'.ms) (P:=fun v W=>∃ p2 er2,DrS c p2 er2 [] W∧p2.ds=p'.ds∧p2.ms=p'.ms∧p2.many≤p'.many+c.sz k∧StepR (rdStmt c.l (big c.l)) k none p'.es er2 v p2.es) ⟨HTD.out.cell (j:=4) rfl,kq9⟩ k1 ⟨_,_,_,hmv⟩ (by have:=HML.out;have:=HT4.out;omega) (zbJ HTD.out.mown) (fun e=>by have:=(HTD.out.mown.head.lt kb e).1;have:=HKB.out;omega) (HC.out.mono fun e w' h9 => ?_) (fun v x hx=>by
       simp only [List.mem_cons,List.not_mem_nil,or_false] at hx;subst hx;rfl) (fun _ _ _ _ _ h=>h) ?_
     ·obtain ⟨p2,er2,v,he,hS,h1,h2,h3,h4⟩:=h9;have e1:p2.mv=p'.mv:=hS.ok.2.trans HD.out.ok.2.symm;obtain ⟨kb3,ko3,e8,kq3,_⟩:=zaB HT.out hS.below HK.out;cases e8;refine ⟨v,he,⟨?_,kq3⟩,hS.free 4,?_,hS.size,p2,er2,hS,h1,h2,h3,h4⟩
      ·rw [←e1];exact hS.cell (j:=4) rfl
      ·rw [←e1,←h2];exact hS.mown.head
     ·intro v WA W5 u' ae ad ap ak al ao ab aq am aj ag an ah af ac ai aa hP hg9 ho9 ha9;obtain ⟨p2,er2,hS2,q1,q2,q3,q4⟩:=hP;have e1:p2.mv=p'.mv:=hS2.ok.2.trans HD.out.ok.2.symm;have s5:=DrS.addM (i:=v) (u:=u') (hS2.alloc (.cells #[.int .i64 v] 3)) (by rw [q2];have:=HML.out;have:=HT4.out;omega) (by rw [e1];exact hg9) (by rw [q2];exact ho9) (by rw [e1];simpa using ha9);have HS5:=hidI s5;have HM9:Hid (p2.many+((ts.drop (i+1)).map c.sz).sum≤999):=hidI (by have:=HM2.out;omega);have HL9:Hid ((p2.ms++[v]).length≤i+1):=hidI (by rw [q2,List.length_append];have:=HML.out;simp;omega);have HG9:=hidI (TopR.stmt (u:=u') HG2.out HND.out q4 q1 q2);clear s5 hg9 ho9 ha9 q1 q2 q3 q4 hS2 HC HTD HS3 HS2 HM2 HG2 hmv kq9;obtain ⟨W6,hW6⟩:∃ W6,W5.setCell ⟨c.B,4,none⟩ u'=W6:=⟨_,rfl⟩;rw [hW6] at HS5 ⊢;clear hW6;go_wp2;go_roundg gg
      case measure=>omega
      case rel=>exact ⟨i+1,{ c with mv:=u' },_,er2,by omega,by go_num,hidI ⟨rfl,rfl,HQV.out,rfl,rfl⟩,HS5,HM9,HL9,HG9⟩
    | some q=>
     obtain ⟨wd,ks⟩:=q;have CH2:Hid (Calls Tryz.prog 54 #[.pointer (some ⟨c.B,0,none⟩),.int .i64 (k:Int)] wr fun e w'=>∃ kv,e=.returned (.tuple #[.string wd,kv,.bool true])∧SeesC c.w0 kv ks.length 1 (ints ks)∧Below wr.heap.size wr w'):=hidI (by
      refine CH.out.mono fun e w' h => ?_
      unfold HdPost at h;rw [hh] at h;obtain ⟨⟨kv,h1,h2⟩,h3⟩:=h;exact ⟨kv,h1,h2,h3⟩)
     clear CH;cases hd:declOf wd with
     | none=>
      have CD:Hid (∀ W,Calls Tryz.prog 55 #[.string wd] W fun e w'=>e=.returned (.tuple #[.agg #[.string ⟨#[]⟩,.int .u8 0,.int .u8 0],.bool false])∧Below W.heap.size W w'):=hidI (fun W=>by
       have h1:=ddecl_any wd W;rw [hd] at h1;exact h1)
      have HND:Hid (∀ w k',headF c.l k=some (w,k')→declOf w=none):=hidI (fun w k' h=>by rw [hh] at h;cases h;exact hd);clear hh hd
      go_wp2_with (first
       | (go_at_call 54;refine CH2.out.mono ?_;rintro e w2 ⟨kv,rfl,hkv,hb2⟩;obtain ⟨_,qa,qc,rfl,_⟩:=id hkv;have HKV:=hidI hkv;have HS2:=hidI (HD.out.on hb2);clear hb2 hkv CH2)
       | (go_at_call 55;refine Calls.mono (CD.out _) ?_;rintro e w3 ⟨rfl,hb3⟩;have HS3:=hidI ((HS2.out.on hb3).alloc (.cells #[.string ⟨#[]⟩,.int .u8 0,.int .u8 0] 106));clear hb3 CD))
      have HTD:=hidI HS3.out.drew;obtain ⟨_,_,e9,kq9,_⟩:=zaB HT.out HTD.out.below HK.out;cases e9;have HC:=hidI (dstmt_any hc HKL.out p' [] _ HTD.out HBD.out);obtain ⟨ma,mc,hmv⟩:∃ ma mc,p'.mv=.slice ma p'.ms.length mc:=zaH HTD.out.mown.head;refine drgM (B:=c.B) (base:=c.w0.heap.size) (n:=p'.ms.length) (kb:=kb) (ko:=ko) (ii:=i) (kl:=tl) (kc:=tc) (km:=(k:Int)) (u:=p'.mv) (xs:=intsI p'.ms) (P:=fun v W=>∃ p2 er2,DrS c p2 er2 [] W∧p2.ds=p'.ds∧p2.ms=p'.ms∧p2.many≤p'.many+c.sz k∧StepR (rdStmt c.l (big c.l)) k none p'.es er2 v p2.es) ⟨HTD.out.cell (j:=4) rfl,kq9⟩ k1 ⟨_,_,_,hmv⟩ (by have:=HML.out;have:=HT4.out;omega) (zbJ HTD.out.mown) (fun e=>by have:=(HTD.out.mown.head.lt kb e).1;have:=HKB.out;omega) (HC.out.mono fun e w' h9 => ?_) (fun v x hx=>by
        simp only [List.mem_cons,List.not_mem_nil,or_false] at hx;subst hx;rfl) (fun _ _ _ _ _ h=>h) ?_
      ·obtain ⟨p2,er2,v,he,hS,h1,h2,h3,h4⟩:=h9;have e1:p2.mv=p'.mv:=hS.ok.2.trans HD.out.ok.2.symm;obtain ⟨kb3,ko3,e8,kq3,_⟩:=zaB HT.out hS.below HK.out;cases e8;refine ⟨v,he,⟨?_,kq3⟩,hS.free 4,?_,hS.size,p2,er2,hS,h1,h2,h3,h4⟩
       ·rw [←e1];exact hS.cell (j:=4) rfl
       ·rw [←e1,←h2];exact hS.mown.head
      ·intro v WA W5 u' ae ad ap ak al ao ab aq am aj ag an ah af ac ai aa hP hg9 ho9 ha9;obtain ⟨p2,er2,hS2,q1,q2,q3,q4⟩:=hP;have e1:p2.mv=p'.mv:=hS2.ok.2.trans HD.out.ok.2.symm;have s5:=DrS.addM (i:=v) (u:=u') (hS2.alloc (.cells #[.int .i64 v] 3)) (by rw [q2];have:=HML.out;have:=HT4.out;omega) (by rw [e1];exact hg9) (by rw [q2];exact ho9) (by rw [e1];simpa using ha9);have HS5:=hidI s5;have HM9:Hid (p2.many+((ts.drop (i+1)).map c.sz).sum≤999):=hidI (by have:=HM2.out;omega);have HL9:Hid ((p2.ms++[v]).length≤i+1):=hidI (by rw [q2,List.length_append];have:=HML.out;simp;omega);have HG9:=hidI (TopR.stmt (u:=u') HG2.out HND.out q4 q1 q2);clear s5 hg9 ho9 ha9 q1 q2 q3 q4 hS2 HC HTD HS3 HS2 HM2 HG2 hmv kq9;obtain ⟨W6,hW6⟩:∃ W6,W5.setCell ⟨c.B,4,none⟩ u'=W6:=⟨_,rfl⟩;rw [hW6] at HS5 ⊢;clear hW6;go_wp2;go_roundg gg
       case measure=>omega
       case rel=>exact ⟨i+1,{ c with mv:=u' },_,er2,by omega,by go_num,hidI ⟨rfl,rfl,HQV.out,rfl,rfl⟩,HS5,HM9,HL9,HG9⟩
     | some sk=>
      obtain ⟨sd,kd⟩:=sk;have hlt:=declOf_lt hd;obtain ⟨m0,hks0⟩:=zaW hh;have HSK:=hidI hlt;have HKT:Hid (∀ q∈ks,q<c.fs.length):=hidI (fun q hq=>(hc.kids_lt HKL.out q (by rw [hks0];exact List.mem_cons_of_mem _ hq)).2);have CD:Hid (∀ W,Calls Tryz.prog 55 #[.string wd] W fun e w'=>e=.returned (.tuple #[.agg #[.string ⟨#[]⟩,.int .u8 (sd:Int),.int .u8 (kd:Int)],.bool true])∧Below W.heap.size W w'):=hidI (fun W=>by
       have h1:=ddecl_any wd W;rw [hd] at h1;exact h1)
      obtain ⟨da,dc,hdv⟩:∃ da dc,p'.dv=.slice da p'.ds.length dc:=zaH HD.out.down.head;obtain ⟨ma,mc,hmv⟩:∃ ma mc,p'.mv=.slice ma p'.ms.length mc:=zaH HD.out.mown.head;have HB1:Hid ((dbox c p' none).xs[1]?=some (.slice da p'.ds.length dc)):=hidI (by rw [←hdv];rfl);have HB4:Hid ((dbox c p' none).xs[4]?=some (.slice ma p'.ms.length mc)):=hidI (by rw [←hmv];rfl);clear hdv hmv hlt hks0;by_cases hl1:ks.length=1
      ·obtain ⟨k0,rfl⟩:∃ k0,ks=[k0]:=by
        match ks,hl1 with
        | [k0],_=>exact ⟨k0,rfl⟩
       clear hl1;by_cases hms:p'.ms=[]
       ·have HMN:=hidI hms;have f4:p'.ms.length=0:=by rw [hms];rfl
        rw [f4] at HB4;clear hms;by_cases h24:24≤p'.ds.length
        ·have f24:(p'.ds.length:Int)≥24:=by omega
         go_wp2_with (first
          | (go_at_call 54;refine CH2.out.mono ?_;rintro e w2 ⟨kv,rfl,hkv,hb2⟩;obtain ⟨_,qa,qc,rfl,_⟩:=id hkv;have HKV:=hidI hkv;have HS2:=hidI (HD.out.on hb2);clear hb2 hkv CH2)
          | (go_at_call 55;refine Calls.mono (CD.out _) ?_;rintro e w3 ⟨rfl,hb3⟩;have hs3:=(HS2.out.on hb3).alloc (.cells #[.string ⟨#[]⟩,.int .u8 (sd:Int),.int .u8 (kd:Int)] 106);obtain ⟨_,_,e9,kq9,_⟩:=zaB HT.out hs3.below HK.out;cases e9;have yq:=HC4.out _ hs3.below;have c1:=hs3.cell (j:=1) (u:=.slice da p'.ds.length dc) HB1.out;have c4:=hs3.cell (j:=4) (u:=.slice ma 0 mc) HB4.out;have HS3:=hidI hs3;clear hs3 hb3 CD)
          | (go_at_call 57;refine Calls.mono (zbG HS3.out xp 4) ?_;rintro e w4 ⟨rfl,hf⟩;have HF:=hidI hf;clear hf))
         have HG9:Hid (TopR c.l (ts.drop (i+1)) T (some (xp,4)) p'.prg):=hidI (by rw [←HFP.out];exact TopR.decl_bad4 HG2.out hh hd (fun h1=>h1.elim (fun h2=>h2 rfl) (fun h2=>h2 HMN.out)) h24);have HS5:Hid (DrS c p' (some (xp,4)) [] w4):=hidI HF.out;have HM9:Hid (p'.many+((ts.drop (i+1)).map c.sz).sum≤999):=hidI (by have:=HM2.out;omega);have HL9:Hid (p'.ms.length≤i+1):=hidI (by have:=HML.out;omega);clear HF HG2 HM2 HS3 HS2;go_roundg gg
         case measure=>omega
         case rel=>exact ⟨i+1,c,p',_,by omega,by go_num,hidI ⟨rfl,rfl,HQV.out,rfl,rfl⟩,HS5,HM9,HL9,HG9⟩
        ·have f24:¬ ((p'.ds.length:Int)≥24):=by omega
         have HD24:Hid (p'.ds.length≤23):=hidI (by omega)
         go_wp2_with (first
          | (go_at_call 54;refine CH2.out.mono ?_;rintro e w2 ⟨kv,rfl,hkv,hb2⟩;obtain ⟨_,qa,qc,rfl,_⟩:=id hkv;have HKV:=hidI hkv;have HS2:=hidI (HD.out.on hb2);clear hb2 hkv CH2)
          | (go_at_call 55;refine Calls.mono (CD.out _) ?_;rintro e w3 ⟨rfl,hb3⟩;have hs3:=(HS2.out.on hb3).var #[.string ⟨#[]⟩,.int .u8 (sd:Int),.int .u8 (kd:Int)] 106 3 rfl;obtain ⟨kb2,ko2,e9,kq9,_⟩:=zaB HKV.out hs3.below (i:=0) (k:=k0) rfl;cases e9;simp only [Nat.add_zero] at kq9;have c1:=hs3.cell (j:=1) (u:=.slice da p'.ds.length dc) HB1.out;have c4:=hs3.cell (j:=4) (u:=.slice ma 0 mc) HB4.out;have HS3:=hidI hs3;clear hs3 hb3 CD)
          | (go_at_call 58;refine Calls.mono (zbS hc HS3.out (HKT.out k0 (by simp))) ?_;rintro e w4 ⟨s,er2,rfl,hS4,hsm,hnr⟩;have v0:=hS4.vcell (j:=0) rfl;have u0:=hS4.vfree 0;have HS4:=hidI (hS4.setv (j:=0) (.string s));have HSM:=hidI hsm;have HNR:=hidI hnr;clear hS4 hsm hnr))
         have HTD:=hidI HS4.out.drew;refine drgD (B:=c.B) (eb:=w3.heap.size) (base:=c.w0.heap.size) (n:=p'.ds.length) (u:=p'.dv) (xs:=flatD p'.ds) (HTD.out.cell (j:=1) rfl) (HTD.out.vcell (j:=0) rfl) (HTD.out.vcell (j:=1) rfl) (HTD.out.vcell (j:=2) rfl) (HTD.out.free 1) HTD.out.down.head (by have:=HD24.out;omega) HTD.out.size (zbJ HTD.out.down) HTD.out.vfarD (by
          intro v hv;simp only [List.mem_cons,List.not_mem_nil,or_false] at hv;rcases hv with rfl|rfl|rfl<;>rfl) (fun _ _ _ _ _ h=>h) ?_
         intro W5 u' aw ay ax ar aE aC aA av aB aD au az hg ho ha;have s5:=DrS.addD (d:=⟨s,sd,kd⟩) (HTD.out.less.alloc (.cells #[.string s,.int .u8 (sd:Int),.int .u8 (kd:Int)] 106)) ⟨HSK.out.1,HSK.out.2,HSM.out⟩ (by have:=HD24.out;omega) hg ho (by simpa using ha);have HS5:=hidI s5;have HG9:=hidI (TopR.decl (u:=u') HG2.out hh hd HMN.out (by have:=HD24.out;show ¬ 24≤p'.ds.length;omega) HNR.out);have HM9:Hid (PV.many { p' with ds:=p'.ds++[⟨s,sd,kd⟩],dv:=u' }+((ts.drop (i+1)).map c.sz).sum≤999):=hidI (by have:=HM2.out;show p'.many+_≤999;omega);have HL9:Hid (p'.ms.length≤i+1):=hidI (by have:=HML.out;omega);obtain ⟨W6,hW6⟩:∃ W6,W5.setCell ⟨c.B,1,none⟩ u'=W6:=⟨_,rfl⟩;rw [hW6] at HS5 ⊢;clear hW6 s5 hg ho ha HTD HS4 HS3 HS2 HG2 HM2 HNR HSM;go_wp2;go_roundg gg
         case measure=>omega
         case rel=>exact ⟨i+1,c,_,er2,by omega,by go_num,hidI ⟨rfl,rfl,HQV.out,rfl,rfl⟩,HS5,HM9,HL9,HG9⟩
       ·have f4:(p'.ms.length:Int)>0:=by
         have:p'.ms.length≠0:=fun e=>hms (List.length_eq_zero_iff.1 e)
         omega
        go_wp2_with (first
         | (go_at_call 54;refine CH2.out.mono ?_;rintro e w2 ⟨kv,rfl,hkv,hb2⟩;obtain ⟨_,qa,qc,rfl,_⟩:=id hkv;have HKV:=hidI hkv;have HS2:=hidI (HD.out.on hb2);clear hb2 hkv CH2)
         | (go_at_call 55;refine Calls.mono (CD.out _) ?_;rintro e w3 ⟨rfl,hb3⟩;have hs3:=(HS2.out.on hb3).alloc (.cells #[.string ⟨#[]⟩,.int .u8 (sd:Int),.int .u8 (kd:Int)] 106);obtain ⟨_,_,e9,kq9,_⟩:=zaB HT.out hs3.below HK.out;cases e9;have yq:=HC4.out _ hs3.below;have c1:=hs3.cell (j:=1) (u:=.slice da p'.ds.length dc) HB1.out;have c4:=hs3.cell (j:=4) (u:=.slice ma p'.ms.length mc) HB4.out;have HS3:=hidI hs3;clear hs3 hb3 CD)
         | (go_at_call 57;refine Calls.mono (zbG HS3.out xp 8) ?_;rintro e w4 ⟨rfl,hf⟩;have HF:=hidI hf;clear hf))
        have HG9:Hid (TopR c.l (ts.drop (i+1)) T (some (xp,8)) p'.prg):=hidI (by rw [←HFP.out];exact TopR.decl_bad8 HG2.out hh hd (.inr hms));have HS5:Hid (DrS c p' (some (xp,8)) [] w4):=hidI HF.out;have HM9:Hid (p'.many+((ts.drop (i+1)).map c.sz).sum≤999):=hidI (by have:=HM2.out;omega);have HL9:Hid (p'.ms.length≤i+1):=hidI (by have:=HML.out;omega);clear HF HG2 HM2 HS3 HS2;go_roundg gg
        case measure=>omega
        case rel=>exact ⟨i+1,c,p',_,by omega,by go_num,hidI ⟨rfl,rfl,HQV.out,rfl,rfl⟩,HS5,HM9,HL9,HG9⟩
      ·obtain ⟨kl9,hkl9⟩:∃ kl9,ks.length=kl9:=⟨_,rfl⟩;have f1:¬ ((kl9:Int)=1):=by omega
       go_wp2_with (first
        | (go_at_call 54;refine CH2.out.mono ?_;rintro e w2 ⟨kv,rfl,hkv,hb2⟩;obtain ⟨_,qa,qc,rfl,_⟩:=id hkv;have HKV:=hidI hkv;rw [hkl9];have HS2:=hidI (HD.out.on hb2);clear hb2 hkv CH2)
        | (go_at_call 55;refine Calls.mono (CD.out _) ?_;rintro e w3 ⟨rfl,hb3⟩;have hs3:=(HS2.out.on hb3).alloc (.cells #[.string ⟨#[]⟩,.int .u8 (sd:Int),.int .u8 (kd:Int)] 106);obtain ⟨_,_,e9,kq9,_⟩:=zaB HT.out hs3.below HK.out;cases e9;have yq:=HC4.out _ hs3.below;have c1:=hs3.cell (j:=1) (u:=.slice da p'.ds.length dc) HB1.out;have c4:=hs3.cell (j:=4) (u:=.slice ma p'.ms.length mc) HB4.out;have HS3:=hidI hs3;clear hs3 hb3 CD)
        | (go_at_call 57;refine Calls.mono (zbG HS3.out xp 8) ?_;rintro e w4 ⟨rfl,hf⟩;have HF:=hidI hf;clear hf))
       have HG9:Hid (TopR c.l (ts.drop (i+1)) T (some (xp,8)) p'.prg):=hidI (by rw [←HFP.out];exact TopR.decl_bad8 HG2.out hh hd (.inl hl1));have HS5:Hid (DrS c p' (some (xp,8)) [] w4):=hidI HF.out;have HM9:Hid (p'.many+((ts.drop (i+1)).map c.sz).sum≤999):=hidI (by have:=HM2.out;omega);have HL9:Hid (p'.ms.length≤i+1):=hidI (by have:=HML.out;omega);clear HF HG2 HM2 HS3 HS2;go_roundg gg
       case measure=>omega
       case rel=>exact ⟨i+1,c,p',_,by omega,by go_num,hidI ⟨rfl,rfl,HQV.out,rfl,rfl⟩,HS5,HM9,HL9,HG9⟩
end Go.Proofs.YtfljimpgnlfipaaGreatDoor



namespace Go.Proofs.YtfljimpgnlfipaaGreatDoor
open Go.RowKit Go.Shelf
attribute [local go_sem] Oper.semAt_some
open Go.RowKit Go.Deep Go.MapKept
@[go_sem] theorem store_func (P:Program) (w:World) (a:Addr) (m:Mode) (fn:Go.Fn) (xs ys:Array Value):(Go.store a (.func fn xs ys) m).run P w=stored P w a (.func fn xs ys) m:=run_store P w a _ m rfl
theorem sees_lt {w:World} {v:Value} {n size:Nat} {cs:List Value} (h:SeesC w v n size cs) (hs:0<size) (hn:0<n):∀ k,v.ownBlock=some k→k<w.heap.size:=by
 obtain ⟨hl,a,cap,rfl,h⟩:=h;rcases h with h|⟨b,off,rfl,h⟩
 ·omega
 ·intro k hk;cases hk;have:0<cs.length:=by rw [hl];exact Nat.mul_pos hn hs
  exact World.block_lt_of_cell? w _ (h 0 _ (List.getElem?_eq_getElem this))
end Go.Proofs.YtfljimpgnlfipaaGreatDoor



namespace Go.Proofs.YtfljimpgnlfipaaGreatDoor
open Go.RowKit Go.Deep Go.MapKept
attribute [local go_sem] Oper.semAt_some
open Go.RowKit Go.Deep Go.MapKept
def deepF (ds:List Int) (own:Int) (acc p:Int):Int:=if own<p∧p<(ds.length:Int) then max acc (ds.getD p.toNat 0) else acc
def deepest (ds:List Int) (own:Int) (ps:List Int):Int:=ps.foldl (deepF ds own) 0
open Go.RowKit Go.Deep Go.MapKept
def dval (ms:List MV) (ds:List Int) (i:Nat):Int:=match ms[i]? with|none=>0|some x=>if x.1.k=1 then min (deepest ds i x.1.kids+1) 13 else deepest ds i x.1.kids
def dall (ms:List MV):Nat→List Int
 | 0=>List.replicate ms.length 0
 | k+1=>(dall ms k).set (ms.length-1-k) (dval ms (dall ms k) (ms.length-1-k))
def depthOf (ms:List MV) (top:List Int):Int:=deepest (dall ms ms.length) (-1) top
theorem dall_len (ms:List MV):∀ k,(dall ms k).length=ms.length
 | 0=>by simp [dall]
 | k+1=>by simp [dall,dall_len ms k]
theorem deepF_le {ds:List Int} (h:∀ d∈ds,0≤d∧d≤13) (own acc p:Int) (ha:0≤acc∧acc≤13):0≤deepF ds own acc p∧deepF ds own acc p≤13:=by
 unfold deepF;split
 ·have:0≤ds.getD p.toNat 0∧ds.getD p.toNat 0≤13:=by
   rw [List.getD_eq_getElem?_getD];cases hg:ds[p.toNat]? with
   | none=>simp
   | some d=>simpa using h d (List.mem_of_getElem? hg)
  omega
 ·exact ha
theorem foldl_le {ds:List Int} (h:∀ d∈ds,0≤d∧d≤13) (own:Int):∀ (ps:List Int) (acc:Int),0≤acc∧acc≤13→0≤ps.foldl (deepF ds own) acc∧ps.foldl (deepF ds own) acc≤13
 | [],_,ha=>ha
 | p::r,acc,ha=>foldl_le h own r _ (deepF_le h own acc p ha)
theorem deepest_le {ds:List Int} (h:∀ d∈ds,0≤d∧d≤13) (own:Int) (ps:List Int):0≤deepest ds own ps∧deepest ds own ps≤13:=foldl_le h own ps 0 (by omega)
theorem dval_le {ms:List MV} {ds:List Int} (h:∀ d∈ds,0≤d∧d≤13) (i:Nat):0≤dval ms ds i∧dval ms ds i≤13:=by
 unfold dval;split
 ·omega
 ·split
  ·have:=deepest_le h i;rename_i x _ _;have:=this x.1.kids;omega
  ·exact deepest_le h i _
theorem dall_le (ms:List MV):∀ k,∀ d∈dall ms k,0≤d∧d≤13
 | 0,d,hd=>by obtain ⟨_,rfl⟩:=List.mem_replicate.1 hd;omega
 | k+1,d,hd=>by
  rcases List.mem_or_eq_of_mem_set hd with h|rfl
  ·exact dall_le ms k d h
  ·exact dval_le (dall_le ms k) _
theorem intsI_set (l:List Int) (i:Nat) (x:Int):intsI (l.set i x)=(intsI l).set i (.int .i64 x):=by simp [intsI,List.map_set]
theorem made_ints (n:Nat):(madeCells #[Value.int .i64 0] n).toList=intsI (List.replicate n 0):=by
 rw [toList_madeCells_one];simp [intsI]
theorem Tryz.info3parts:∃ i0,Tryz.prog.info? 3=some i0∧i0.zero=some (.int .i64 0)∧i0.size=1∧i0.bytes=8:=by
 obtain ⟨i0,hi,hz0,hz1,hz2⟩:=info_parts Tryz.info3x;exact ⟨i0,hi,hz0,hz1,hz2⟩
theorem SeesM.cellAt {w:World} {v:Value} {ms:List MV} (h:SeesM w v ms) {i:Nat} {x:MV} (hx:ms[i]?=some x):∃ fb fo fc,v=.slice (some ⟨fb,fo,none⟩) ms.length fc∧∀ j u,j<5→(mcells x)[j]?=some u→w.cell? ⟨fb,fo+i*5+j,none⟩=some u:=by
 obtain ⟨_,a,c,rfl,h0|⟨b,o,rfl,hc⟩⟩:=h.row
 ·have:=(List.getElem?_eq_some_iff.1 hx).1;omega
 ·refine ⟨b,o,c,rfl,fun j u hj hu => ?_⟩;have:=hc (i*5+j) u (by rw [flatM_get ms i j x hx hj];exact hu);rwa [←Nat.add_assoc] at this
open Go.RowKit Go.Deep Go.MapKept
noncomputable def okF (x:Fm):Bool:=
 if x.k=1 then (x.s.toList==([]:List UInt8)) && (x.n==0)
 else if x.k=3 then (kindW x.s==3) && (x.n==0) && ((x.kids.length:Int)==0)
 else if x.k=4 then (x.s.toList==([]:List UInt8)) && ((x.kids.length:Int)==0)
 else false
open Go.RowKit Go.Deep Go.MapKept
theorem SeesM.load {w:World} {v:Value} {ms:List MV} (h:SeesM w v ms) {i:Nat} {x:MV} (hx:ms[i]?=some x):∃ fb fo fc ka kc,v=.slice (some ⟨fb,fo,none⟩) ms.length fc∧x.2=.slice ka x.1.kids.length kc∧w.cell? ⟨fb,fo+i*5,none⟩=some (.int .u8 x.1.k)∧w.cell? ⟨fb,fo+i*5+1,none⟩=some (.string x.1.s)∧w.cell? ⟨fb,fo+i*5+2,none⟩=some (.int .i64 x.1.n)∧w.cell? ⟨fb,fo+i*5+3,none⟩=some (.slice ka x.1.kids.length kc)∧w.cell? ⟨fb,fo+i*5+4,none⟩=some (.int .i64 x.1.p):=by
 obtain ⟨fb,fo,fc,rfl,hc⟩:=h.cellAt hx;obtain ⟨_,ka,kc,hkv,_⟩:=h.kid i x hx;refine ⟨fb,fo,fc,ka,kc,rfl,hkv,hc 0 _ (by omega) rfl,hc 1 _ (by omega) rfl,hc 2 _ (by omega) rfl,?_,hc 4 _ (by omega) rfl⟩;rw [←hkv];exact hc 3 _ (by omega) rfl
open Go.RowKit Go.Deep Go.MapKept
attribute [local go_sem] Oper.semAt_some
def namedN (ms:List MV) (top:List Int):Int:=(ms.map fun x=>(x.1.kids.length:Int)).foldl (·+·) (top.length:Int)
theorem named_next (ms:List MV) (top:List Int) (i:Nat) (x:MV) (h:ms[i]?=some x):namedN (ms.take (i+1)) top=namedN (ms.take i) top+(x.1.kids.length:Int):=by
 unfold namedN;rw [List.take_add_one,h];simp
open Go.RowKit Go.Deep Go.MapKept
theorem RowsOk.fresh {w w':World} {base:Nat} {l:List Rw} (h:RowsOk w base l) {i:Nat} {r r':Rw} (hr:l[i]?=some r) (hg:w.grownBy w' none) (ho:Own w' base r') (hb:∀ k,r'.v.ownBlock=some k→w.heap.size≤k):RowsOk w' base (l.set i r'):=by
 have hlt:i<l.length:=(List.getElem?_eq_some_iff.1 hr).1;have hnone:∀ v:Value,v.ownBlock=none∨v.ownBlock≠none:=fun v=>by cases v.ownBlock<;>simp
 have hap:∀ j b,l[j]?=some b→i≠j→Ap r'.v b.v:=by
  intro j b hj hij;cases hv:r'.v.ownBlock with
  | none=>exact .inl hv
  | some k=>
   refine .inr ?_;rw [hv];intro hk;have:=(h.at hj).lt _ hk.symm;have:=hb k hv;omega
 constructor
 ·intro x hx;obtain ⟨j,hj⟩:=List.getElem?_of_mem hx;rw [List.getElem?_set] at hj;by_cases hij:i=j
  ·subst hij;simp only [if_true,hlt] at hj;cases hj;exact ho
  ·simp only [hij,if_false] at hj;exact (h.at hj).kept hg (hnone _)
 ·intro a b x y hx hy hab;rw [List.getElem?_set] at hx hy;by_cases ha:i=a
  ·subst ha;have hb':¬ i=b:=hab;simp only [if_true,hlt,Option.some.injEq] at hx;simp only [hb',if_false] at hy;subst hx;exact hap b y hy hab
  ·simp only [ha,if_false] at hx;by_cases hbb:i=b
   ·subst hbb;simp only [if_true,hlt,Option.some.injEq] at hy;subst hy;exact (hap a x hx ha).symm
   ·simp only [hbb,if_false] at hy;exact h.apart a b x y hx hy hab
def frows (fs:List FV) (top opn:List Nat) (fv tv ov:Value):List Rw:=
 ⟨fv,97,5,fs.length,flatF fs⟩::⟨tv,3,1,top.length,ints top⟩::⟨ov,3,1,opn.length,ints opn⟩::fs.map kidRow
def RF (w:World) (base:Nat) (fs:List FV) (top opn:List Nat) (fv tv ov:Value):Prop:=RowsOk w base (frows fs top opn fv tv ov)
section
variable {w w' : World} {base : Nat} {fs : List FV} {top opn : List Nat} {fv tv ov : Value}
theorem RF.fo (h:RF w base fs top opn fv tv ov):w.ownsRow base 97 5 fv fs.length (flatF fs):=RowsOk.at (i:=0) h rfl
theorem RF.to (h:RF w base fs top opn fv tv ov):w.ownsRow base 3 1 tv top.length (ints top):=RowsOk.at (i:=1) h rfl
theorem RF.oo (h:RF w base fs top opn fv tv ov):w.ownsRow base 3 1 ov opn.length (ints opn):=RowsOk.at (i:=2) h rfl
theorem RF.kat {b:Nat} {x:FV} (hx:fs[b]?=some x):(frows fs top opn fv tv ov)[b+3]?=some (kidRow x):=by simp [frows,hx]
theorem RF.ko (h:RF w base fs top opn fv tv ov) {b:Nat} {x:FV} (hx:fs[b]?=some x):w.ownsRow base 3 1 x.2 x.1.kids.length (ints x.1.kids):=RowsOk.at (i:=b+3) h (RF.kat hx)
theorem RF.alloc (h:RF w base fs top opn fv tv ov) (o:Obj):RF (w.alloc o) base fs top opn fv tv ov:=RowsOk.alloc h o
theorem RF.newO (h:RF w base fs top opn fv tv ov) {ov':Value} {opn':List Nat} (hg:w.grownBy w' none) (ho:w'.ownsRow base 3 1 ov' opn'.length (ints opn')) (hb:∀ k,ov'.ownBlock=some k→w.heap.size≤k):RF w' base fs top opn' fv tv ov':=
 RowsOk.fresh (i:=2) (r':=⟨ov',3,1,opn'.length,ints opn'⟩) h rfl hg ho hb
theorem RF.putT (h:RF w base fs top opn fv tv ov) {tv':Value} {top':List Nat} (hg:w.grownBy w' tv.ownBlock) (ho:w'.ownsRow base 3 1 tv' top'.length (ints top')) (hb:tv'.ownBlock=tv.ownBlock∨tv'.ownBlock=some w.heap.size):RF w' base fs top' opn fv tv' ov:=
 RowsOk.put (i:=1) (r':=⟨tv',3,1,top'.length,ints top'⟩) h rfl hg ho (.inr hb)
theorem RF.putF (h:RF w base fs top opn fv tv ov) {fv':Value} {f:Frm} (hf:f.kids=[]) (hg:w.grownBy w' fv.ownBlock) (ho:w'.ownsRow base 97 5 fv' (fs.length+1) (flatF fs++fcells (f,.slice none 0 0))) (hb:fv'.ownBlock=fv.ownBlock∨fv'.ownBlock=some w.heap.size) :
  RF w' base (fs++[(f,.slice none 0 0)]) top opn fv' tv ov:=by
 have ho':w'.ownsRow base 97 5 fv' (fs++[(f,Value.slice none 0 0)]).length (flatF (fs++[(f,Value.slice none 0 0)])):=by
  rw [flatF_append,flatF_one,List.length_append];exact ho
 have h1:=RowsOk.put (i:=0) (r':=⟨fv',97,5,(fs++[(f,Value.slice none 0 0)]).length,flatF (fs++[(f,Value.slice none 0 0)])⟩) h rfl hg ho' (.inr hb);have h3:=RowsOk.push h1 3 1;unfold RF;have e:frows (fs++[(f,Value.slice none 0 0)]) top opn fv' tv ov=(((frows fs top opn fv tv ov).set 0 ⟨fv',97,5,(fs++[(f,Value.slice none 0 0)]).length,flatF (fs++[(f,Value.slice none 0 0)])⟩)++[⟨.slice none 0 0,3,1,0,[]⟩]):=by
  simp [frows,kidRow,hf,ints]
 rw [e];exact h3
theorem RF.newK (h:RF w base fs top opn fv tv ov) {b g cap:Nat} {x:FV} {kv':Value} {n:Nat} (hx:fs[b]?=some x) (hv:fv=.slice (some ⟨g,0,none⟩) fs.length cap) (hg:w.grownBy w' none) (ho:w'.ownsRow base 3 1 kv' (x.1.kids.length+1) (ints x.1.kids++[.int .i64 (n:Int)])) (hb:∀ k,kv'.ownBlock=some k→w.heap.size≤k) :
  RF (w'.setCell ⟨g,b*5+3,none⟩ kv') base (fs.set b (addKid n x.1,kv')) top opn fv tv ov:=by
 have ho':Own w' base (kidRow (addKid n x.1,kv')):=by
  unfold Own kidRow addKid;show w'.ownsRow base 3 1 kv' (x.1.kids++[n]).length (ints (x.1.kids++[n]));rw [zdH,List.length_append];exact ho
 have h1:=RowsOk.fresh (i:=b+3) h (RF.kat hx) hg ho' hb;have h2:=RowsOk.setc (i:=0) (g:=g) (cap:=cap) (j:=b*5+3) (r:=⟨fv,97,5,fs.length,flatF fs⟩) h1 (by simp [frows]) hv kv';unfold RF;have e:frows (fs.set b (addKid n x.1,kv')) top opn fv tv ov=((frows fs top opn fv tv ov).set (b+3) (kidRow (addKid n x.1,kv'))).set 0 ⟨fv,97,5,fs.length,(flatF fs).set (b*5+3) kv'⟩:=by
  have e2:flatF (fs.set b (addKid n x.1,kv'))=(flatF fs).set (b*5+3) kv':=flatF_set fs b x.1 x.2 kv' (x.1.kids++[n]) hx;simp only [frows,e2,List.length_set,List.map_set,List.set_cons_succ,List.set_cons_zero]
 rw [e];exact h2
theorem RF.sees (h:RF w base fs top opn fv tv ov):SeesF w fv (fs.map Prod.fst):=⟨fs,rfl,zbD h.fo,fun _ _ hx=>⟨zbD (h.ko hx),roomy_of (h.ko hx)⟩⟩
theorem rf_begin (w:World) (base:Nat):RF w base [] [] [] (.slice none 0 0) (.slice none 0 0) (.slice none 0 0):=by
 have h0:Value.ownBlock (.slice none 0 0)=none:=rfl;constructor
 ·intro r hr;simp only [frows,List.map_nil,List.mem_cons,List.mem_nil_iff,or_false] at hr;rcases hr with rfl|rfl|rfl<;>exact World.ownsRow_nil _ _ _ _
 ·intro i j x y hx hy hij;have hi:i<3:=(List.getElem?_eq_some_iff.1 hx).1;have hii:i=0∨i=1∨i=2:=by omega
  rcases hii with rfl|rfl|rfl<;>simp only [frows,List.getElem?_cons_zero,List.getElem?_cons_succ,Option.some.injEq] at hx<;>subst hx<;>exact .inl h0
theorem zeS (w:World) (base:Nat) (hb:base≤w.heap.size):(w.alloc (.cells #[] 3)).ownsRow base 3 1 (.slice (some ⟨w.heap.size,0,none⟩) 0 0) 0 []:=
 ⟨rfl,.inr ⟨w.heap.size,0,#[],rfl,hb,World.alloc_heap_new w _,Nat.le_refl _,by decide,rfl,rfl⟩⟩
end
def RJ (ts:List Tok) (w:World) (j:Nat) (fv tv ov:Value) (wy:World):Prop:=
 ∃ fs top opn,steps (ts.take j) begin0=.ok ⟨fs.map Prod.fst,top,opn⟩∧Good ⟨fs.map Prod.fst,top,opn⟩∧RF wy w.heap.size fs top opn fv tv ov∧Below w.heap.size w wy
end Go.Proofs.YtfljimpgnlfipaaGreatDoor
