/-
  Part 21 of the proof: NmA, NmB, SoT, NmC, TlA.
-/
import Derived.Test.YtmekkhfohmfjkaaGreatDoorSd20
import Derived.Test.YtmekkhfohmfjkaaGreatDoorSd00
import Derived.Test.YtmekkhfohmfjkaaGreatDoorSd08
import Derived.Maps.RangeRun
import Derived.Test.YtmekkhfohmfjkaaGreatDoorSd18
import Derived.Test.YtmekkhfohmfjkaaGreatDoorSd12
namespace Go.Proofs.YtmekkhfohmfjkaaGreatDoor
open Go.RowKit Go.Deep Go.MapKept
open Go.ChangeMaps (setBlock heap_setBlock_same heap_setBlock_other)
def nmN:Nat→Oper
 | 0=>⟨some 11,.load 54 (.tmp 4),54, "named.go:47",#[],none⟩
 | 1=>⟨some 12,.move (.tmp 0),137, "named.go:47",#[],none⟩
 | 2=>⟨some 13,.nilCheck (.tmp 12),0, "named.go:47",#[⟨1,.data⟩],none⟩
 | 3=>⟨some 14,.load 9 (.tmp 13),9, "named.go:47",#[⟨2,.data⟩],none⟩
 | 4=>⟨some 15,.call ⟨.value (.func 36),#[.tmp 14],#[9]⟩,9, "named.go:47",#[⟨3,.data⟩],none⟩
 | 5=>⟨some 16,.move (.tmp 1),23, "named.go:47",#[],none⟩
 | 6=>⟨some 17,.build 25 #[(0,.tmp 15),(1,.tmp 16)],25, "named.go:47",#[⟨4,.data⟩,⟨5,.data⟩],none⟩
 | 7=>⟨some 18,.lookup 54 (.tmp 11) (.tmp 17) false,3, "named.go:47",#[⟨0,.data⟩,⟨6,.data⟩],none⟩
 | 8=>⟨some 19,.binOp .add 3 (.tmp 18) (.const (.int .i64 1)) 3,3, "named.go:47",#[⟨7,.data⟩],none⟩
 | 9=>⟨some 20,.mapEntry 54 (.tmp 11) (.tmp 17),0, "named.go:47",#[⟨0,.data⟩,⟨6,.data⟩,⟨4,.chain⟩,⟨0,.phase⟩,⟨1,.phase⟩,⟨2,.phase⟩,⟨3,.phase⟩,⟨4,.phase⟩,⟨5,.phase⟩,⟨6,.phase⟩,{ on:=7,ground:=Go.Ground.textOnly Go.Departure.mapOpAssignEntry },{ on:=8,ground:=Go.Ground.textOnly Go.Departure.mapOpAssignEntry }],none⟩
 | 10=>⟨some 21,.extract (.tmp 20) 1,3, "named.go:47",#[⟨9,.data⟩],none⟩
 | _=>⟨none,.entryStore 54 (.tmp 11) (.tmp 21) (.tmp 19),0, "named.go:47",#[⟨0,.data⟩,⟨10,.data⟩,⟨8,.data⟩,⟨9,.chain⟩,⟨0,.phase⟩,⟨1,.phase⟩,⟨2,.phase⟩,⟨3,.phase⟩,⟨4,.phase⟩,⟨5,.phase⟩,⟨6,.phase⟩,⟨7,.phase⟩,⟨8,.phase⟩,⟨9,.phase⟩,⟨10,.phase⟩],none⟩
structure Apart (w:World) (mb:Nat) (q:Addr) (v:Value):Prop where
 ne:q.block≠mb
 at_:w.cell? q=some v
structure Aft (w:World) (mb:Nat) (f:ByteArray × Nat→Option Value) (y:World):Prop where
 b:Below mb w y
 far:∀ k,k≠mb→k<w.heap.size→y.heap[k]?=w.heap[k]?
 map:MapK KK y mb f
theorem Aft.cell {w y:World} {mb:Nat} {f:ByteArray × Nat→Option Value} (h:Aft w mb f y) {q:Addr} {v:Value} (hq:Apart w mb q v):Apart y mb q v:=⟨hq.ne,(World.cell?_of_block (h.far _ hq.ne (World.block_lt_of_cell? _ _ hq.at_))).trans hq.at_⟩
def oneD (nm:ByteArray) (sd:Nat):ByteArray × Nat→Option Value:=updKy (fun _=>none) (nm,sd) (.int .i64 1)
set_option maxRecDepth 100000 in
set_option maxHeartbeats 2000000 in
theorem yes_any (F:Nat) (hF:F=39∨F=40) (b:Bool) (w:World):Calls Tryz.prog F #[.bool b] w fun e w'=>e=.returned (.bool true)∧w'=w:=by
 rcases hF with rfl|rfl
 ·go_enter Tryz.func39,Tryz.ntmps39
  go_wp2
  go_ret
  exact ⟨rfl,rfl⟩
 ·go_enter Tryz.func40,Tryz.ntmps40
  go_wp2
  go_ret
  exact ⟨rfl,rfl⟩
set_option maxRecDepth 100000 in
set_option maxHeartbeats 4000000 in
theorem named1_any (w:World) (F B3 B4 mb:Nat) (q:Addr) (nm:ByteArray) (sd:Nat) (c:Bool) (hF:F=39∨F=40) (h3:Apart w mb ⟨B3,0,none⟩ (.func (.func F) #[] #[])) (h4:Apart w mb ⟨B4,0,none⟩ (.map (some mb))) (hq:Apart w mb q (.string nm)) (hn:nm.size≤140737488355328) (hsd:sd<256) (hM:MapK KK w mb (fun _=>none)) (hmb:mb<w.heap.size) :
  Calls Tryz.prog 65 #[.pointer (some q),.int .u8 (sd:Int),.bool c,.pointer (some ⟨B3,0,none⟩),.pointer (some ⟨B4,0,none⟩)] w fun e w'=>e=.returned (.tuple #[])∧Aft w mb (oneD nm sd) w':=by
 have HN:=hidI hn
 have HQ4:=h4
 have HQ:=hq
 have hok:KK.ok (nm,sd):=⟨by show nm.size≤maxLen;unfold maxLen;omega,hsd⟩
 obtain ⟨st,o1,hme,hm1,hst⟩:=entryK underKM zeroInt hM hok
 obtain ⟨esV,clV,hbV,_⟩:=id hM
 obtain ⟨es1,cl1,rfl⟩:∃ es1 cl1,o1=.map es1 cl1:=by
  obtain ⟨es,cl,h,_⟩:=hm1 (setBlock w mb o1) (heap_setBlock_same hbV _)
  rw [heap_setBlock_same hbV] at h
  exact ⟨es,cl,Option.some.inj h⟩
 obtain ⟨o2,hs2,hm2⟩:=hst (.int .i64 1)
 have HME:Hid (∀ u:World,u.heap[mb]?=w.heap[mb]?→(Instr.mapEntry 54 (.map (some mb)) (ke nm sd)).run Tryz.prog u=.ok (.tuple #[.int .i64 0,goInt st]) (setBlock u mb (.map es1 cl1))):=hidI hme
 have HST:Hid (∀ u:World,u.heap[mb]?=some (.map es1 cl1)→(Instr.entryStore 54 (.map (some mb)) (goInt st) (.int .i64 1)).run Tryz.prog u=.ok () (setBlock u mb o2)):=hidI hs2
 have HMO:Hid (∀ u:World,u.heap[mb]?=some o2→MapK KK u mb (oneD nm sd)):=hidI hm2
 have HLK:Hid (∀ (l:Array Bool) (y:World),l.size=12→DS 9 w w mb (.map es1 cl1) l y→(Instr.lookup 54 (.map (some mb)) (ke nm sd) false).run Tryz.prog y=.ok (.int .i64 0) y):=hidI (fun l y hl hy=>by
  have h4:l[9]?=some true∨l[9]?=some false:=by
   rw [Array.getElem?_eq_getElem (by omega)]
   cases l[9]<;>simp
  rcases h4 with h4|h4
  ·have h:=lookK underKM zeroInt (hm1 y (hy.new h4)) hok false
   simp [updKy] at h
   exact h
  ·exact lookK underKM zeroInt (hM.same (hy.old h4)) hok false)
 have HDS:Hid (DS 9 w w mb (.map es1 cl1) (Array.replicate 12 false) w.drew):=hidI ⟨(Below.refl _ _).drew,Nat.le_refl _,fun _ _ _=>rfl,fun _=>rfl,fun e=>(by rw [Array.getElem?_replicate] at e;simp at e),⟨esV,clV,hbV⟩⟩
 have HMB:=hidI hmb
 have C:=hidI (yes_any F hF c w)
 have HCF:Hid (Sem.run Tryz.prog (callFunc F #[.bool c]) w=.ok (.enter F #[.bool c]) w):=hidI (by rcases hF with rfl|rfl<;>kernel_rfl)
 obtain ⟨g3,g3'⟩:=h3
 clear hme hm1 hst hs2 hm2 hbV hM hok h4 hq hn hmb
 go_enter Tryz.func65,Tryz.ntmps65
 go_wp2_with (rw [HCF.out,Oper.upon_enter];refine Calls.mono C.out ?_;intro e w1 h1;obtain ⟨rfl,hw1⟩:=h1;rw [hw1];clear C hw1 w1)
 refine zbR nmN (fun j0=>match j0 with|0=>.map (some mb)|1=>.pointer (some q)|2=>.pointer (some q)|3=>.string nm|4=>.string nm|5=>.int .u8 (sd:Int)|6=>ke nm sd|7=>.int .i64 0|8=>.int .i64 1|9=>.tuple #[.int .i64 0,goInt st]|10=>goInt st|_=>undef) (DS 9 w w mb (.map es1 cl1)) 11 Tryz.mixed (by kernel_rfl) (by kernel_rfl) HDS.out ?_ ?_
 ·intro i9 hi9 a9 w9 l9 hF9 hL9 hl9 hA9 hS9 K9 hK9
  have hc9:i9=0∨i9=1∨i9=2∨i9=3∨i9=4∨i9=5∨i9=6∨i9=7∨i9=8∨i9=9∨i9=10:=by omega
  clear hi9
  rcases hc9 with rfl|rfl|rfl|rfl|rfl|rfl|rfl|rfl|rfl|rfl|rfl
  ·have e4:=hF9.od 4 (v:=.pointer (some ⟨B4,0,none⟩)) rfl
   have q0:=hS9.cell HQ4.ne HQ4.at_
   refine zaW rfl ?_ (hK9 _ (hS9.keep (by decide)))
   clear hF9 hA9
   simp only [nmN,execOp,e4]
   first|done|(go_simp<;>omega)
  ·have e0:=hF9.od 0 (v:=.pointer (some q)) rfl
   refine zaW rfl ?_ (hK9 _ (hS9.keep (by decide)))
   clear hF9 hA9
   simp only [nmN,execOp,e0]
   first|done|(go_simp<;>omega)
  ·have e12:=hF9.ev 1 12
   refine zaW rfl ?_ (hK9 _ (hS9.keep (by decide)))
   clear hF9 hA9
   simp only [nmN,execOp,e12]
   first|done|(go_simp<;>omega)
  ·have e13:=hF9.ev 2 13
   have q0:=hS9.cell HQ.ne HQ.at_
   refine zaW rfl ?_ (hK9 _ (hS9.keep (by decide)))
   clear hF9 hA9
   simp only [nmN,execOp,e13]
   first|done|(go_simp<;>omega)
  ·rw [if_pos (zaD rfl)]
   unfold Oper.wp
   have f14:=hF9.nw 3 14
   have hr9:(execOp a9.eval (nmN 4)).run Tryz.prog w9=.ok (.enter 36 #[.string nm]) w9:=by
    simp only [nmN,execOp]
    go_simp
   rw [hr9,Oper.upon_enter]
   refine Calls.mono (zdG nm HN.out w9) ?_
   intro e w10 h10
   obtain ⟨rfl,hb10⟩:=h10
   exact hK9 _ (hS9.call (by decide) hb10)
  ·have e1:=hF9.od 1 (v:=.int .u8 (sd:Int)) rfl
   refine zaW rfl ?_ (hK9 _ (hS9.keep (by decide)))
   clear hF9 hA9
   simp only [nmN,execOp,e1]
   first|done|(go_simp<;>omega)
  ·have f15:=hF9.nw 4 15
   have f16:=hF9.nw 5 16
   refine zaW rfl ?_ (hK9 _ (hS9.keep (by decide)))
   clear hF9 hA9
   simp only [nmN,execOp]
   first|done|(go_simp<;>omega)
  ·have e11:=hF9.ev 0 11
   have e17:=hF9.ev 6 17
   have hlk:=HLK.out l9 w9 hL9 hS9
   refine zaW rfl ?_ (hK9 _ (hS9.keep (by decide)))
   clear hF9 hA9
   simp only [nmN,execOp,e11,e17]
   first|done|(go_simp<;>omega)
  ·have e18:=hF9.ev 7 18
   have hw1:IntKind.i64.wrap 1=1:=by decide
   refine zaW rfl ?_ (hK9 _ (hS9.keep (by decide)))
   clear hF9 hA9
   simp only [nmN,execOp,e18]
   first|done|(go_simp<;>omega)
  ·have e11:=hF9.ev 0 11
   have e17:=hF9.ev 6 17
   rw [if_pos (zaD rfl)]
   unfold Oper.wp
   have hme:=HME.out w9 (hS9.old hl9)
   have hr9:(execOp a9.eval (nmN 9)).run Tryz.prog w9=.ok (.value (.tuple #[.int .i64 0,goInt st])) (setBlock w9 mb (.map es1 cl1)):=by
    simp only [nmN,execOp,e11,e17]
    rw [Sem.run_bind,hme]
    rfl
   rw [hr9,Oper.upon_value]
   exact hK9 _ (hS9.entry hl9)
  ·have e20:=hF9.ev 9 20
   refine zaW rfl ?_ (hK9 _ (hS9.keep (by decide)))
   clear hF9 hA9
   simp only [nmN,execOp,e20]
   first|done|(go_simp<;>omega)
 ·intro w9 l9 hall9 hS9 K9 hK9
  simp only [putA,nmN]
  rw [if_pos (zaD rfl)]
  unfold Oper.wp
  have hst:(Instr.entryStore 54 (.map (some mb)) (.int .i64 (st:Int)) (.int .i64 1)).run Tryz.prog w9=.ok () (setBlock w9 mb o2):=HST.out w9 (hS9.new (hall9 9 (by decide)))
  go_simp
  refine hK9 _ _ ?_
  have HS9:=hidI (hS9.last (o2:=o2))
  clear hK9 K9 hS9 hst hall9
  obtain ⟨w6,hw6⟩:∃ w6,setBlock w9 mb o2=w6:=⟨_,rfl⟩
  rw [hw6] at HS9 ⊢
  clear hw6
  go_wp2
  go_end0
  exact ⟨rfl,HS9.out.b,HS9.out.far,HMO.out w6 HS9.out.at_⟩
theorem Apart.below {w y:World} {mb:Nat} {q:Addr} {v:Value} (h:Apart w mb q v) (hb:Below w.heap.size w y):Apart y mb q v:=⟨h.ne,zaJ hb h.at_⟩
theorem apart_new {w:World} {mb:Nat} (hmb:mb<w.heap.size) {ty:TypeId} {cs:Array Value} {j:Nat} {v:Value} (h:cs[j]?=some v):Apart (w.alloc (.cells cs ty)) mb ⟨w.heap.size,j,none⟩ v:=⟨by simp only;omega,by rw [cell_of_row _ w.heap.size j cs ty (0,0) (MapKept.heap_alloc w _).1];exact h⟩
theorem apart_map {w:World} {mb:Nat} {f:ByteArray × Nat→Option Value} (hM:MapK KK w mb f) {q:Addr} {v:Value} (h:w.cell? q=some v):Apart w mb q v:=by
 refine ⟨fun e => ?_,h⟩
 obtain ⟨es,clock,hb,_⟩:=hM
 unfold World.cell? at h
 rw [e,hb] at h
 simp at h
structure One (p:PV) (x:XV) (s:SV):Prop where
 xs:p.xs=[x]
 ss:p.ss=[s]
 xk:x.1.k=1
 sk:s.s.k=1
 sa:s.s.acts=[]
 sn:s.s.name.size≤140737488355328
set_option maxRecDepth 100000 in
set_option maxHeartbeats 4000000 in
theorem eachNamed_one {p:PV} {x:XV} {s:SV} (ho:One p x s) (w:World) (F B3 B4 mb:Nat) (hp:SeesPv w p) (hF:F=39∨F=40) (h3:Apart w mb ⟨B3,0,none⟩ (.func (.func F) #[] #[])) (h4:Apart w mb ⟨B4,0,none⟩ (.map (some mb))) (hM:MapK KK w mb (fun _=>none)) (hmb:mb<w.heap.size) :
  Calls Tryz.prog 64 #[.agg #[p.dv,p.xv,p.sv,p.mv],.func (.func 65) #[] #[.pointer (some ⟨B3,0,none⟩),.pointer (some ⟨B4,0,none⟩)]] w fun e w'=>e=.returned (.tuple #[])∧Aft w mb (oneD s.s.name 1) w':=by
 obtain ⟨hxs,hss,hxk,hsk,hsa,hsn⟩:=ho
 obtain ⟨_,da,dc,hd,_⟩:=id hp.d
 obtain ⟨_,xa,xc,hx,hxl⟩:=id hp.x
 obtain ⟨_,sa,sc,hs,hsl⟩:=id hp.s
 obtain ⟨_,ma,mc,hm,_⟩:=id hp.m
 obtain ⟨_,aa,ac,hav,_⟩:=id (hp.sa s (by rw [hss];simp))
 rw [hsa] at hav
 rw [hxs] at hx hxl
 rw [hss] at hs hsl
 obtain ⟨xb,xo,rfl,xcell⟩:∃ b off,xa=some ⟨b,off,none⟩∧∀ (j:Nat) (c:Value),(flatX [x])[j]?=some c→w.cell? ⟨b,off+j,none⟩=some c:=by
  rcases hxl with h|h
  ·simp at h
  ·exact h
 obtain ⟨sb,so,rfl,scell⟩:∃ b off,sa=some ⟨b,off,none⟩∧∀ (j:Nat) (c:Value),(flatS [s])[j]?=some c→w.cell? ⟨b,off+j,none⟩=some c:=by
  rcases hsl with h|h
  ·simp at h
  ·exact h
 have x0:=xcell 0 _ rfl
 have s0:=apart_map hM (scell 0 _ rfl)
 have s1:=apart_map hM (scell 1 _ rfl)
 have s5:=apart_map hM (scell 5 _ rfl)
 rw [hxk] at x0
 rw [hsk] at s0
 rw [hav] at s5
 obtain ⟨nd,hnd⟩:∃ nd,p.ds.length=nd:=⟨_,rfl⟩
 obtain ⟨nm,hnm⟩:∃ nm,p.ms.length=nm:=⟨_,rfl⟩
 obtain ⟨nn,hnn⟩:∃ nn,s.s.name=nn:=⟨_,rfl⟩
 rw [hnn] at s1 hsn ⊢
 rw [hnd] at hd
 rw [hnm] at hm
 rw [hd,hx,hs,hm]
 simp only [List.length_cons,List.length_nil,Nat.zero_add,Nat.add_zero] at hx hs s0 s1 s5 x0 hav ⊢
 obtain ⟨w2,hw2⟩:∃ w2,w.alloc (.cells #[.slice da nd dc,.slice (some ⟨xb,xo,none⟩) 1 xc,.slice (some ⟨sb,so,none⟩) 1 sc,.slice ma nm mc] 47)=w2:=⟨_,rfl⟩
 have hb:Below w.heap.size w w2:=hw2▸(Below.refl _ _).alloc (Nat.le_refl _) _
 have b1:Apart w2 mb ⟨w.heap.size,1,none⟩ (.slice (some ⟨xb,xo,none⟩) 1 xc):=hw2▸apart_new hmb rfl
 have b2:Apart w2 mb ⟨w.heap.size,2,none⟩ (.slice (some ⟨sb,so,none⟩) 1 sc):=hw2▸apart_new hmb rfl
 have C:=hidI (named1_any w2 F B3 B4 mb ⟨sb,so+1,none⟩ nn 1 true hF (h3.below hb) (h4.below hb) (s1.below hb) hsn (by decide) (hM.same (hb.block _ hmb)) (Nat.lt_of_lt_of_le hmb hb.size))
 have S0:=hidI (s0.below hb)
 have S1:=hidI (s1.below hb)
 have S5:=hidI (s5.below hb)
 have HB1:=hidI b1
 have HB2:=hidI b2
 have HW2:=hidI hw2
 have HB:=hidI hb
 have HMB:=hidI hmb
 obtain ⟨y0⟩:=b1
 obtain ⟨y2⟩:=b2
 have X0:=hidI (zaJ hb x0)
 clear hp hxs hss hxk hsk hsa hsn hd hx hs hm hav hxl hsl xcell scell x0 s0 s1 s5 hnd hnm hnn hw2 hb h3 h4 hM hmb hF y0 y2
 go_enter Tryz.func64,Tryz.ntmps64
 go_wp2
 rw [HW2.out]
 go_loopg [12] 1 (fun g s12 wx=>∃ i:Nat,i+g=1∧s12=.int .i64 (i:Int)∧wx=w2)
 case atStart=>exact ⟨0,by omega,rfl,rfl⟩
 case round=>
  obtain ⟨i,hig,rfl,hwr⟩:=hrel
  obtain rfl:=hwr.symm
  have y1:=HB1.out.at_
  have y2:=HB2.out.at_
  have x0:=X0.out
  cases gk with
  | succ g=>
   obtain rfl:i=0:=by omega
   have k1:((0:Nat):Int)<(1:Int):=by omega
   go_wp2
   go_roundg 0
   case measure=>omega
   case rel=>exact ⟨1,by omega,by go_num,rfl⟩
  | zero=>
   obtain rfl:i=1:=by omega
   have k1:decide (((1:Nat):Int)<(1:Int))=false:=by decide
   go_wp2
   clear hig y1 y2 x0 k1
   go_loopg [46] 1 (fun g s46 wx=>∃ i:Nat,i+g=1∧s46=.int .i64 (i:Int)∧(i=0→wx=w2)∧(i=1→Hid (Aft w2 mb (oneD nn 1) wx)))
   case atStart=>exact ⟨0,by omega,rfl,fun _=>rfl,fun h=>absurd h (by decide)⟩
   case round=>
    obtain ⟨i,hig,rfl,h0,h1⟩:=hrel
    cases gk with
    | zero=>
     obtain rfl:i=1:=by omega
     have k1:decide (((1:Nat):Int)<(1:Int))=false:=by decide
     have HA:=h1 rfl
     clear h0 h1
     go_wp2
     go_end0
     exact ⟨rfl,(HB.out.mono (Nat.le_of_lt HMB.out)).trans HA.out.b,fun k hk hkl=>(HA.out.far k hk (Nat.lt_of_lt_of_le hkl HB.out.size)).trans (HB.out.block k hkl),HA.out.map⟩
    | succ g=>
     obtain rfl:i=0:=by omega
     obtain rfl:=(h0 rfl).symm
     have k1:((0:Nat):Int)<(1:Int):=by omega
     have y2:=HB2.out.at_
     have y0:=S0.out.at_
     clear h0 h1
     go_wp2_with (go_at_call 65;refine Calls.mono C.out ?_;intro e w1 h1;obtain ⟨rfl,hA⟩:=h1;have HA:=hidI hA;have z2:=(hA.cell HB2.out).at_;have z5:=(hA.cell S5.out).at_;clear hA C y2 y0)
     go_loopg [78] 0 (fun g s78 wx=>s78=.int .i64 0∧wx=w1)
     case atStart=>exact ⟨rfl,rfl⟩
     case round=>
      obtain ⟨rfl,hwr⟩:=hrel
      obtain rfl:=hwr.symm
      clear z2 z5
      go_wp2
      go_roundg 0
      case measure=>omega
      case rel=>exact ⟨1,by omega,by go_num,fun h=>absurd h (by decide),fun _=>HA⟩
set_option maxRecDepth 100000 in
set_option maxHeartbeats 4000000 in
theorem len64_one (w:World):Calls Tryz.prog 138 #[.int .u64 1] w fun e w'=>e=.returned (.int .i64 1)∧w'=w:=by
 go_enter Tryz.func138,Tryz.ntmps138
 go_wp2
 go_ret
 exact ⟨by kernel_rfl,rfl⟩
set_option maxRecDepth 100000 in
set_option maxHeartbeats 4000000 in
theorem len_one (w:World):Calls Tryz.prog 104 #[.int .u64 1] w fun e w'=>e=.returned (.int .i64 1)∧w'=w:=by
 have C:=hidI (len64_one w)
 go_enter Tryz.func104,Tryz.ntmps104
 go_wp2_with (go_at_call 138;refine Calls.mono C.out ?_;rintro e w' ⟨rfl,rfl⟩)
 go_ret
 exact ⟨rfl,rfl⟩
set_option maxRecDepth 100000 in
set_option maxHeartbeats 4000000 in
theorem insort_one (w:World) (v fn:Value):Calls Tryz.prog 129 #[v,.int .i64 0,.int .i64 1,fn] w fun e w'=>e=.returned (.tuple #[])∧w'=w:=by
 go_enter Tryz.func129,Tryz.ntmps129
 go_wp2
 go_loopg [8] 0 (fun g s8 wx=>s8=.int .i64 1∧wx=w)
 case atStart=>exact ⟨rfl,rfl⟩
 case round=>
  obtain ⟨rfl,rfl⟩:=hrel
  go_wp2
  go_end0
  exact ⟨rfl,rfl⟩
set_option maxRecDepth 100000 in
set_option maxHeartbeats 4000000 in
theorem pdq_one (w:World) (v fn:Value):Calls Tryz.prog 103 #[v,.int .i64 0,.int .i64 1,.int .i64 1,fn] w fun e w'=>e=.returned (.tuple #[])∧w'=w:=by
 have C:=hidI (insort_one w v fn)
 go_enter Tryz.func103,Tryz.ntmps103
 go_wp2
 go_loopg [1,2,3] 0 (fun g s1 s2 s3 wx=>s1=.int .i64 0∧s2=.int .i64 1∧s3=.int .i64 1∧wx=w)
 case atStart=>exact ⟨rfl,rfl,rfl,rfl⟩
 case round=>
  obtain ⟨rfl,rfl,rfl,rfl⟩:=hrel
  go_wp2_with (go_at_call 129;refine Calls.mono C.out ?_;rintro e w' ⟨rfl,rfl⟩)
  refine bodyPost_ret (results_none rfl _ _ _) rfl ?_
  exact ⟨rfl,rfl⟩
set_option maxRecDepth 100000 in
set_option maxHeartbeats 4000000 in
theorem sort_one (w:World) (a:Option Addr) (cap:Nat) (fn:Value):Calls Tryz.prog 59 #[.slice a 1 cap,fn] w fun e w'=>e=.returned (.tuple #[])∧w'=w:=by
 have C1:=hidI (len_one w)
 have C2:=hidI (pdq_one w (.slice a 1 cap) fn)
 go_enter Tryz.func59,Tryz.ntmps59
 go_wp2_with (first|(go_at_call 104;refine Calls.mono C1.out ?_;rintro e w' ⟨rfl,rfl⟩)|(go_at_call 103;refine Calls.mono C2.out ?_;rintro e w' ⟨rfl,rfl⟩))
 go_end0
 exact ⟨rfl,rfl⟩
open Go.ChangeMaps (setBlock heap_setBlock_same heap_setBlock_other)
theorem one_entry {w:World} {mb:Nat} {nm:ByteArray} {sd:Nat} (h:MapK KK w mb (oneD nm sd)):∃ (b clock:Nat),w.heap[mb]?=some (.map #[{ key:=ke nm sd,val:=.int .i64 1,born:=b }] clock)∧b<clock:=by
 obtain ⟨es,clock,hb,⟨s1,s2,s3⟩,h2,h3⟩:=h
 have hk:∀ x∈es.toList,x.key=ke nm sd∧x.val=.int .i64 1:=fun x hx=>by
  obtain ⟨s,d,_,q1,q2,q3⟩:=h2 x hx
  unfold oneD updKy at q2
  split at q2
  ·rename_i e
   subst e
   exact ⟨q1,by rw [q3];exact (Option.some.inj q2).symm⟩
  ·cases q2
 obtain ⟨x,hx,_⟩:=h3 (nm,sd) (.int .i64 1) (by simp [oneD,updKy])
 obtain ⟨l,hl⟩:∃ l,es.toList=l:=⟨_,rfl⟩
 rw [hl] at hk hx s3
 have:l=[x]:=by
  match l,hk,hx,s3 with
  | [a],_,hx,_=>simp at hx;rw [hx]
  | a::b::r,hk,_,s3=>
   have e1:=(hk a (by simp)).1
   have e2:=(hk b (by simp)).1
   simp [e1,e2] at s3
 refine ⟨x.born,clock,?_,s1 x (by rw [hl,this];simp)⟩
 have e:es=#[x]:=by rw [←Array.toList_inj,hl,this]
 obtain ⟨k1,k2⟩:=hk x hx
 rw [hb,e]
 obtain ⟨k,v,b⟩:=x
 simp only at k1 k2
 rw [k1,k2]
set_option maxRecDepth 100000 in
set_option maxHeartbeats 4000000 in
theorem sorted_one (w:World) (mb:Nat) (nm:ByteArray) (sd:Nat) (hM:MapK KK w mb (oneD nm sd)) :
  Calls Tryz.prog 37 #[.map (some mb)] w fun e w'=>∃ v,e=.returned v∧SeesC w' v 1 2 [.string nm,.int .u8 (sd:Int)]∧Below w.heap.size w w':=by
 obtain ⟨b,clock,hb,hbc⟩:=one_entry hM
 have hbm:mb<w.heap.size:=(Array.getElem?_eq_some_iff.1 hb).1
 have qr:=run_range_map (P:=Tryz.prog) w 54 25 3 mb _ clock underKM hb
 have HB0:Hid (Below w.heap.size w (w.alloc (.mapIter (some mb) clock #[] clock))):=hidI ((Below.refl _ _).alloc (Nat.le_refl _) _)
 have HR0:Hid ((w.alloc (.mapIter (some mb) clock #[] clock)).heap[w.heap.size]?=some (.mapIter (some mb) clock #[] clock)):=hidI (World.alloc_heap_new w _)
 have HBB:=hidI hb
 have HBC:=hidI hbc
 have HBM:=hidI hbm
 clear hM hb hbc hbm
 go_enter Tryz.func37,Tryz.ntmps37
 go_wp2
 clear qr
 go_loopg [3] 1 (fun g s3 wx=>∃ kv:Value,kv=s3∧Hid (Below w.heap.size w wx)∧((g=1∧kv=.slice none 0 0∧Hid (wx.heap[w.heap.size]?=some (.mapIter (some mb) clock #[] clock)))∨(g=0∧Hid (wx.ownsRow (w.heap.size+1) 25 2 kv 1 [.string nm,.int .u8 (sd:Int)])∧Hid (wx.heap[w.heap.size]?=some (.mapIter (some mb) clock #[b] clock)))))
 case atStart=>exact ⟨_,rfl,HB0,.inl ⟨rfl,rfl,HR0⟩⟩
 case round=>
  obtain ⟨kv,rfl,HB,hor⟩:=hrel
  have hbr:wr.heap[mb]?=some (.map #[{ key:=ke nm sd,val:=.int .i64 1,born:=b }] clock):=(HB.out.block mb HBM.out).trans HBB.out
  have hold:∀ x∈(#[{ key:=ke nm sd,val:=.int .i64 1,born:=b }]:Array MapEntry).toList,x.born<clock:=by simpa using HBC.out
  rcases hor with ⟨rfl,rfl,HR⟩|⟨rfl,HO,HR⟩
  ·rcases run_next_at (P:=Tryz.prog) wr 0 w.heap.size mb clock clock #[] _ clock HR.out hbr hold (Nat.le_refl _) with ⟨h0,_⟩|⟨e,he,wn,hal,hrun⟩
   ·simp [leftOf] at h0
   ·obtain rfl:e={ key:=ke nm sd,val:=.int .i64 1,born:=b }:=by simpa [leftOf] using he
    have hrl:w.heap.size<wr.heap.size:=(Array.getElem?_eq_some_iff.1 HR.out).1
    have hnh:wn.heap=wr.heap:=by rcases hal with rfl|rfl<;>rfl
    have hg2:wr.grownBy (setBlock wn w.heap.size (.mapIter (some mb) clock #[b] clock)) (some w.heap.size):=by
     rcases hal with rfl|rfl<;>exact ⟨rfl,rfl,rfl,by simp [setBlock],fun i _ hi=>by simp [setBlock,show w.heap.size≠i from fun e1=>hi (by rw [e1])];try rfl⟩
    have hr2:(setBlock wn w.heap.size (.mapIter (some mb) clock #[b] clock)).heap[w.heap.size]?=some (.mapIter (some mb) clock #[b] clock):=by simp [setBlock,hnh,hrl]
    obtain ⟨W2,hW2⟩:∃ W2,setBlock wn w.heap.size (.mapIter (some mb) clock #[b] clock)=W2:=⟨_,rfl⟩
    have hrun2:(Instr.next (.pointer (some ⟨w.heap.size,0,none⟩)) false 0).run Tryz.prog wr=.ok (.tuple #[.bool true,ke nm sd,.int .i64 1]) (setBlock wn w.heap.size (.mapIter (some mb) clock #[b] clock)):=hrun
    clear hrun
    rw [hW2] at hg2 hr2 hrun2
    have hbm:=HBM.out
    have hb2:W2.heap[mb]?=some (.map #[{ key:=ke nm sd,val:=.int .i64 1,born:=b }] clock):=(hg2.block mb (by omega) (by intro h;have:=Option.some.inj h;omega)).trans hbr
    have qe:=run_entry_at (P:=Tryz.prog) W2 w.heap.size mb clock #[] _ clock { key:=ke nm sd,val:=.int .i64 1,born:=b } hr2 hb2 (by simp) (by simp)
    have HB2:Hid (Below w.heap.size w W2):=hidI (HB.out.grown hg2 HB.out.size (fun j ej=>by cases ej;exact Nat.le_refl _))
    have hz2:=HB2.out.size
    have hrl2:w.heap.size<W2.heap.size:=(Array.getElem?_eq_some_iff.1 hr2).1
    have HO:=hidI (World.ownsRow_nil ((W2.alloc (.cells #[.string nm,.int .u8 (sd:Int)] 25)).alloc (.cells #[.string nm,.int .u8 (sd:Int)] 25)) (w.heap.size+1) 25 2)
    have hvs:=zbT (W2.alloc (.cells #[.string nm,.int .u8 (sd:Int)] 25)) 25 2 #[.string nm,.int .u8 (sd:Int)] rfl
    rw [show (W2.alloc (.cells #[.string nm,.int .u8 (sd:Int)] 25)).heap.size=W2.heap.size+1 by simp] at hvs
    have HVS:=hidI hvs
    clear hvs
    have HBL:Hid (Below w.heap.size w ((W2.alloc (.cells #[.string nm,.int .u8 (sd:Int)] 25)).alloc (.cells #[.string nm,.int .u8 (sd:Int)] 25))):=hidI ((HB2.out.alloc hz2 _).alloc (by simp;omega) _)
    have HRr:Hid (((W2.alloc (.cells #[.string nm,.int .u8 (sd:Int)] 25)).alloc (.cells #[.string nm,.int .u8 (sd:Int)] 25)).heap[w.heap.size]?=some (.mapIter (some mb) clock #[b] clock)):=hidI (by
     rw [Below.heap_alloc _ _ _ (by simp;omega),Below.heap_alloc _ _ _ hrl2]
     exact hr2)
    clear he hnh hal hW2 hg2 hr2 hb2 hbr hold HB
    go_wp2_with (at_builtin;go_must (refine zbF Tryz.underlying27 infoKey rfl (by decide) (by decide) rfl _ _ rfl (w.heap.size+1) (.slice none 0 0) 0 [] rfl HO.out _ 1 [.string nm,.int .u8 (sd:Int)] rfl HVS.out (by simp [Value.oneCell']) (by omega) (by simp;omega) ?_);intro v9 w9 hown9 hgrow9 hat9;refine Hid.out ?_)
    have HB9:Hid (Below w.heap.size w w9):=hidI (HBL.out.grown hgrow9 HBL.out.size (fun j ej=>by cases ej))
    have HR9:Hid (w9.heap[w.heap.size]?=some (.mapIter (some mb) clock #[b] clock)):=hidI ((hgrow9.block _ (by simp;omega) (by intro e;cases e)).trans HRr.out)
    have HO9:Hid (w9.ownsRow (w.heap.size+1) 25 2 v9 1 [.string nm,.int .u8 (sd:Int)]):=hidI hown9
    clear hown9 hgrow9 hat9 HO HVS HBL HRr hrun2 qe HB2
    refine hidI ?_
    go_wp2
    go_roundg 0
    case measure=>omega
    case rel=>exact ⟨_,rfl,HB9,.inr ⟨rfl,HO9,HR9⟩⟩
  ·rcases run_next_at (P:=Tryz.prog) wr 0 w.heap.size mb clock clock #[b] _ clock HR.out hbr hold (Nat.le_refl _) with ⟨_,hrun⟩|⟨e,he,wn,hal,hrun⟩
   ·obtain ⟨g,cap,hv⟩:∃ g cap,kv=.slice (some ⟨g,0,none⟩) 1 cap:=by
     rcases HO.out.2 with h|⟨g,cap,cur,hv,_⟩
     ·exact absurd h.2 (by decide)
     ·exact ⟨g,cap,hv⟩
    have HS:=hidI (zaS HO.out)
    have C:=hidI (sort_one wr (some ⟨g,0,none⟩) cap (.func (.func 60) #[] #[]))
    subst hv
    clear hbr hold HO HR
    go_wp2_with (go_at_call 59;refine Calls.mono C.out ?_;rintro e w1 ⟨rfl,rfl⟩)
    go_ret
    exact ⟨_,rfl,HS.out,HB.out⟩
   ·simp [leftOf] at he
theorem zbM (a:Value) (w:World):Calls Tryz.prog 124 #[a,.bool true] w fun e w'=>e=.returned (.tuple #[])∧w=w':=by
 go_enter Tryz.func124,Tryz.ntmps124
 go_wp2
 go_end0
 exact ⟨rfl,rfl⟩
theorem zbD (a:Value) (w:World):Calls Tryz.prog 124 #[a,.bool false] w fun e w'=>e=.panicked flt3∧w=w':=by
 go_enter Tryz.func124,Tryz.ntmps124
 go_wp2
 exact ⟨rfl,rfl,rfl⟩
def tkBox (b:Nat) (tk:Tok):Rw:=⟨bx b,91,4,1,[.int .u8 tk.k,.string tk.s,.int .i64 tk.n,.int .i64 tk.p]⟩
def fo3N:Nat→Oper
 | 0=>⟨some 18,.move (.tmp 0),219, "tell.go:27",#[],none⟩
 | 1=>⟨some 19,.nilCheck (.tmp 18),0, "tell.go:27",#[⟨0,.data⟩],none⟩
 | 2=>⟨some 20,.fieldAddr 174 (.tmp 19) 5,0, "tell.go:27",#[⟨1,.data⟩],none⟩
 | 3=>⟨some 21,.load 117 (.tmp 20),117, "tell.go:27",#[⟨2,.data⟩],none⟩
 | 4=>⟨some 22,.load 91 (.tmp 3),91, "tell.go:27",#[],none⟩
 | _=>⟨some 23,.call ⟨.value (.tmp 21),#[.tmp 22],#[91]⟩,0, "tell.go:27",#[⟨3,.data⟩,⟨4,.data⟩],none⟩
set_option maxRecDepth 100000 in
set_option maxHeartbeats 1000000 in
theorem form_any {t:Tx} {F:Nat} (hk:t.Ok F) {σ:TS} {X:List Rw} {w:World} {tk:Tok} (h:TlR t σ X w) (hl:TsOk1 σ) (hs:SmlN tk.s):Calls Tryz.prog 173 #[.pointer (some ⟨t.B,0,none⟩),.agg #[.int .u8 tk.k,.string tk.s,.int .i64 tk.n,.int .i64 tk.p]] w (TPost t X (tForm tk σ)):=by
 obtain rfl:=hk.isF
 obtain ⟨hput,hfn⟩:=hk.fn
 have HFN:=hidI hfn
 have HPUT:=hidI hput
 have HSM:=hidI hs
 have HA:Hid (TlR t σ (tkBox w.heap.size tk::X) (w.alloc (.cells #[.int .u8 tk.k,.string tk.s,.int .i64 tk.n,.int .i64 tk.p] 91))):=hidI (h.newbox 91 4 #[.int .u8 tk.k,.string tk.s,.int .i64 tk.n,.int .i64 tk.p] rfl)
 have b6:=HA.out.cell (j:=6) (u:=.int .i64 (σ.f:Int)) rfl
 have z6:=HA.out.free 6
 have hBl:=h.lt
 obtain ⟨l1,l2,l3⟩:=hl
 clear hs hfn hput
 have HR:Hid (tForm tk σ=if σ.f+1≤400 then some { σ with f:=σ.f+1,ts:=σ.ts++[tk] } else none):=hidI rfl
 by_cases hf:σ.f+1≤400
 ·have HR2:Hid (tForm tk σ=some { σ with f:=σ.f+1,ts:=σ.ts++[tk] }):=hidI (by rw [HR.out,if_pos hf])
  have HLIM:Hid (TsOk { σ with f:=σ.f+1,ts:=σ.ts++[tk] }):=hidI ⟨hf,by simp only [List.length_append,List.length_cons,List.length_nil];omega,l3⟩
  have HS1:Hid (TlR t { σ with f:=σ.f+1 } (tkBox w.heap.size tk::X) ((w.setCell ⟨t.B,6,none⟩ (.int .i64 ((σ.f:Int)+1))).alloc (.cells #[.int .u8 tk.k,.string tk.s,.int .i64 tk.n,.int .i64 tk.p] 91))):=hidI (by
   have h0:=(h.setc 6 (.int .i64 ((σ.f:Int)+1)) { σ with f:=σ.f+1 } rfl (by simp [tlBox])).newbox 91 4 #[.int .u8 tk.k,.string tk.s,.int .i64 tk.n,.int .i64 tk.p] rfl
   rwa [World.size_setCell] at h0)
  have c6:=HS1.out.cell (j:=6) (u:=.int .i64 ((σ.f:Int)+1)) rfl
  have k1:(σ.f:Int)+1≤400:=by omega
  have CM:=hidI (fun W=>zbM (.pointer (some ⟨t.B,0,none⟩)) W)
  clear HA HR h
  replace HR:=HR2
  clear HR2
  go_enter Tryz.func173,Tryz.ntmps173
  go_wp2_with (go_at_call 124;refine Calls.mono (CM.out _) ?_;intro e w2 h2;obtain ⟨rfl,rfl⟩:=h2;clear CM)
  refine zaU fo3N (fun i=>match i with|0=>.pointer (some ⟨t.B,0,none⟩)|1=>.pointer (some ⟨t.B,0,none⟩)|2=>.pointer (some ⟨t.B,8,none⟩)|3=>.func (.func 52) #[] #[]|4=>.agg #[.int .u8 tk.k,.string tk.s,.int .i64 tk.n,.int .i64 tk.p]|_=>undef) (fun y=>TlR t { σ with f:=σ.f+1 } (tkBox w.heap.size tk::X) y) 5 Tryz.mixed (by kernel_rfl) (by kernel_rfl) HS1.out.drew ?_ ?_
  ·intro i9 hi9 a9 w9 hF9 hS9 K9 hK9
   have hc9:i9=0∨i9=1∨i9=2∨i9=3∨i9=4:=by omega
   clear hi9
   rcases hc9 with rfl|rfl|rfl|rfl|rfl
   ·have e0:=hF9.od 0 (v:=.pointer (some ⟨t.B,0,none⟩)) rfl
    refine zaW rfl ?_ (hK9 _ hS9)
    clear hF9
    simp only [fo3N,execOp,e0]
    first|done|(go_simp<;>omega)
   ·have e18:=hF9.ev 0 18
    refine zaW rfl ?_ (hK9 _ hS9)
    clear hF9
    simp only [fo3N,execOp,e18]
    first|done|(go_simp<;>omega)
   ·have e19:=hF9.ev 1 19
    refine zaW rfl ?_ (hK9 _ hS9)
    clear hF9
    simp only [fo3N,execOp,e19]
    first|done|(go_simp<;>omega)
   ·have e20:=hF9.ev 2 20
    have c8:=hS9.cell (j:=8) (u:=t.put) rfl
    rw [HPUT.out] at c8
    refine zaW rfl ?_ (hK9 _ hS9)
    clear hF9
    simp only [fo3N,execOp,e20]
    first|done|(go_simp<;>omega)
   ·have e3:=hF9.od 3 (v:=.pointer (some ⟨w.heap.size,0,none⟩)) rfl
    have q0:=zaB hS9.row (j:=0) rfl
    have q1:=zaB hS9.row (j:=1) rfl
    have q2:=zaB hS9.row (j:=2) rfl
    have q3:=zaB hS9.row (j:=3) rfl
    refine zaW rfl ?_ (hK9 _ hS9)
    clear hF9
    simp only [fo3N,execOp,e3]
    first|done|(go_simp<;>omega)
  ·intro w9 hS9 K9 hK9
   simp only [putA,fo3N]
   rw [if_pos (zaD rfl)]
   unfold Oper.wp
   go_simp
   refine Calls.mono (HFN.out _ _ _ tk hS9 (by simp only;omega) HSM.out) ?_
   rintro e w1 ⟨rfl,h1⟩
   refine hK9 _ _ ?_
   go_end0
   rw [HR.out]
   exact ⟨rfl,h1.less,HLIM.out⟩
 ·have HR2:Hid (tForm tk σ=none):=hidI (by rw [HR.out,if_neg hf])
  have HS1:Hid (TlR t { σ with f:=σ.f+1 } (tkBox w.heap.size tk::X) ((w.setCell ⟨t.B,6,none⟩ (.int .i64 ((σ.f:Int)+1))).alloc (.cells #[.int .u8 tk.k,.string tk.s,.int .i64 tk.n,.int .i64 tk.p] 91))):=hidI (by
   have h0:=(h.setc 6 (.int .i64 ((σ.f:Int)+1)) { σ with f:=σ.f+1 } rfl (by simp [tlBox])).newbox 91 4 #[.int .u8 tk.k,.string tk.s,.int .i64 tk.n,.int .i64 tk.p] rfl
   rwa [World.size_setCell] at h0)
  have c6:=HS1.out.cell (j:=6) (u:=.int .i64 ((σ.f:Int)+1)) rfl
  have k1:¬ ((σ.f:Int)+1≤400):=by omega
  have CM:=hidI (fun W=>zbD (.pointer (some ⟨t.B,0,none⟩)) W)
  clear HA HR h
  go_enter Tryz.func173,Tryz.ntmps173
  go_wp2_with (go_at_call 124;refine Calls.mono (CM.out _) ?_;intro e w2 h2;obtain ⟨rfl,rfl⟩:=h2;clear CM)
  refine ⟨rfl,?_⟩
  rw [HR2.out]
  exact ⟨rfl,HS1.out.bad (.cons _ (.refl _))⟩
theorem zcT {t:Tx} {F:Nat} (hk:t.Ok F) {σ:TS} {X:List Rw} {w:World} {s:ByteArray} (h:TlS t σ X w) (hs:SmlN s):Calls Tryz.prog 154 #[.pointer (some ⟨t.B,0,none⟩),.string s] w (TPost t X (tWord s σ)):=by
 have C:=hidI (form_any hk (tk:=⟨3,s,0,0⟩) h.r h.lim.one hs)
 have HR:Hid (tForm ⟨3,s,0,0⟩ σ=tWord s σ):=hidI rfl
 rw [HR.out] at C
 cases hr:tWord s σ with
 | none=>
  rw [hr] at C
  clear hr HR h
  go_enter Tryz.func154,Tryz.ntmps154
  go_wp2_with (go_at_call 173;refine C.out.mono ?_;intro e w1 h1;obtain ⟨rfl,hb1⟩:=h1;clear C)
  exact ⟨rfl,rfl,hb1⟩
 | some σ1=>
  rw [hr] at C
  clear hr HR h
  go_enter Tryz.func154,Tryz.ntmps154
  go_wp2_with (go_at_call 173;refine C.out.mono ?_;intro e w1 h1;obtain ⟨rfl,hb1⟩:=h1;clear C)
  go_end0
  exact ⟨rfl,hb1⟩
theorem tname_any {t:Tx} {F:Nat} (hk:t.Ok F) {σ:TS} {X:List Rw} {w:World} {s:ByteArray} (h:TlS t σ X w) (hs:SmlN s):Calls Tryz.prog 174 #[.pointer (some ⟨t.B,0,none⟩),.string s] w (TPost t X (tName s σ)):=by
 have C1:=hidI (zdE s hs w (hk.laid.on h.r.below))
 cases hn:nameB s with
 | false=>
  have HR:Hid (tName s σ=none):=hidI (by unfold tName nmOk;rw [hn];rfl)
  rw [hn] at C1
  have CM:=hidI (fun W=>zbD (.pointer (some ⟨t.B,0,none⟩)) W)
  have HH:=hidI h
  clear hn h
  go_enter Tryz.func174,Tryz.ntmps174
  go_wp2_with (first
   | (go_at_call 147;refine C1.out.mono ?_;intro e w1 h1;obtain ⟨rfl,hb1⟩:=h1;clear C1;have HS1:=hidI (HH.out.on hb1))
   | (go_at_call 124;refine Calls.mono (CM.out _) ?_;intro e w2 h2;obtain ⟨rfl,rfl⟩:=h2;clear CM))
  refine ⟨rfl,?_⟩
  rw [HR.out]
  exact ⟨rfl,HS1.out.bad (.refl _)⟩
 | true=>
  have HR:Hid (tName s σ=tWord s σ):=hidI (by unfold tName nmOk;rw [hn];rfl)
  rw [hn] at C1
  have CM:=hidI (fun W=>zbM (.pointer (some ⟨t.B,0,none⟩)) W)
  have HH:=hidI h
  have CW:=hidI (fun W (hW:TlS t σ X W)=>zcT hk hW hs)
  rw [HR.out]
  clear hn h HR
  cases hr:tWord s σ with
  | none=>
   rw [hr] at CW
   clear hr
   go_enter Tryz.func174,Tryz.ntmps174
   go_wp2_with (first
    | (go_at_call 147;refine C1.out.mono ?_;intro e w1 h1;obtain ⟨rfl,hb1⟩:=h1;clear C1;have HS1:=hidI (HH.out.on hb1))
    | (go_at_call 124;refine Calls.mono (CM.out _) ?_;intro e w2 h2;obtain ⟨rfl,rfl⟩:=h2;clear CM)
    | (go_at_call 154;refine Calls.mono (CW.out _ HS1.out) ?_;intro e w3 h3;obtain ⟨rfl,hb3⟩:=h3;clear CW))
   exact ⟨rfl,rfl,hb3⟩
  | some σ1=>
   rw [hr] at CW
   clear hr
   go_enter Tryz.func174,Tryz.ntmps174
   go_wp2_with (first
    | (go_at_call 147;refine C1.out.mono ?_;intro e w1 h1;obtain ⟨rfl,hb1⟩:=h1;clear C1;have HS1:=hidI (HH.out.on hb1))
    | (go_at_call 124;refine Calls.mono (CM.out _) ?_;intro e w2 h2;obtain ⟨rfl,rfl⟩:=h2;clear CM)
    | (go_at_call 154;refine Calls.mono (CW.out _ HS1.out) ?_;intro e w3 h3;obtain ⟨rfl,hb3⟩:=h3;clear CW))
   go_end0
   exact ⟨rfl,hb3⟩
end Go.Proofs.YtmekkhfohmfjkaaGreatDoor
