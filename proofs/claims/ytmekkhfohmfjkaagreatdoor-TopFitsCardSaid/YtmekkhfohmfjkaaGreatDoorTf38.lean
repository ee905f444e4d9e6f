/-
  Part 38 of the proof: PSrc2, TlK, TyI, Clh, ClC, MtA, MtC, TfA, Ord3.
-/
import Derived.Test.YtmekkhfohmfjkaaGreatDoorTf37
import Derived.Test.YtmekkhfohmfjkaaGreatDoorTf35
import Derived.Test.YtmekkhfohmfjkaaGreatDoorTf31
import Derived.Test.YtmekkhfohmfjkaaGreatDoorTf28
import Derived.Test.YtmekkhfohmfjkaaGreatDoorTf29
import Derived.Test.YtmekkhfohmfjkaaGreatDoorProg
import Derived.WalkKit
import Derived.Carry
import Derived.OrdersHeld
import Derived.BigQuiet
import Derived.Deep.LoopGhost
import Derived.Deep.OwnRows
import Derived.Deep.AppendLies
import Derived.Deep.RegionHeld3
import Derived.Laws.MakeOwn
import Derived.Laws.ResultCell
import Derived.Laws.StructEq
import Derived.Lib.SmallJoins
import Derived.Lib.SliceRun
import Derived.Lib.QuietBelow
import Derived.WideKeyEntry
import Derived.DeepKeys4
import Derived.Maps.OwnRows
import Derived.StringKeys
import Derived.Laws.Concat
import Derived.Test.YtmekkhfohmfjkaaGreatDoorTf23
namespace Go.Proofs.YtmekkhfohmfjkaaGreatDoor
open Go.RowKit Go.Deep Go.MapKept
set_option maxHeartbeats 2000000 in
theorem source_ok {s:ByteArray} {ts:List Tok} {σ:St} {P:Prg} (hlex:lexRes s=(ts,0,0)) (hts:∀ t∈ts,t.s.size≤140737488355328) (htl:ts.length≤100000) (hp:parse ts=.ok σ) (hnm:ts.all nmT=true) (hP:pTop σ.forms σ.top prg0=.ok P) (hD:P.decls.length≤24) (w:World) (hL:Laid w) :
  Calls Tryz.prog 18 #[.string s] w (ReadPost P w):=by
 have hbA:Below w.heap.size w (w.alloc (.cells #[.slice none 0 0,.slice none 0 0,.slice none 0 0,.slice none 0 0] 47)):=by exact belowT
 have C1:Hid (Calls Tryz.prog 28 #[.string s] (w.alloc (.cells #[.slice none 0 0,.slice none 0 0,.slice none 0 0,.slice none 0 0] 47)) fun e w'=>∃ a1 c1,e=.returned (.tuple #[.slice a1 ts.length c1,.int .i64 0,.int .i64 0])∧SeesC w' (.slice a1 ts.length c1) ts.length 4 (flatT ts)∧Below (w.alloc (.cells #[.slice none 0 0,.slice none 0 0,.slice none 0 0,.slice none 0 0] 47)).heap.size (w.alloc (.cells #[.slice none 0 0,.slice none 0 0,.slice none 0 0,.slice none 0 0] 47)) w'):=hidI ((toks_any s _ (hL.on hbA)).mono (by
  rintro e w' ⟨v,rfl,v',rfl,h2,h3⟩
  rw [hlex] at h2 ⊢
  obtain ⟨_,a1,c1,hv,_⟩:=id h2
  subst hv
  exact ⟨a1,c1,rfl,h2,h3⟩))
 have C2:Hid (∀ W v,SeesC W v ts.length 4 (flatT ts)→Calls Tryz.prog 29 #[v] W fun e w'=>∃ fv tv,e=.returned (.tuple #[fv,tv,.int .i64 0,.int .i64 0])∧SeesF w' fv σ.forms∧SeesC w' tv σ.top.length 1 (ints σ.top)∧Below W.heap.size W w'):=hidI (fun W v hv=>by
  have:=tparse_any ts v W hv hts htl
  rw [hp] at this
  exact this)
 have C3:Hid (∀ W fv tv,Laid W→SeesF W fv σ.forms→SeesC W tv σ.top.length 1 (ints σ.top)→Calls Tryz.prog 30 #[fv,tv] W (ReadPost P W)):=hidI (fun W fv tv hW hF hT=>read_parsed hp hts hnm hP hD hW hF hT)
 have HL:=hidI hL
 have HBA:=hidI hbA
 clear hlex hts htl hp hnm hP hD hL hbA
 go_enter Tryz.func18,Tryz.ntmps18
 go_wp2_with (first
  | (go_at_call 28;refine C1.out.mono ?_;intro e w1 h1;obtain ⟨a1,c1,rfl,hs1,hb1⟩:=h1;clear C1;have HS1:=hidI hs1;clear hs1;have HB1:=hidI (HBA.out.trans (hb1.mono HBA.out.size)))
  | (go_at_call 29;refine Calls.mono (C2.out _ _ HS1.out) ?_;intro e w2 h2;obtain ⟨fv,tv,rfl,hF2,hT2,hb2⟩:=h2;clear C2;have HF2:=hidI hF2;have HT2:=hidI hT2;clear hF2 hT2;have HB2:=hidI (HB1.out.trans (hb2.mono HB1.out.size)))
  | (go_at_call 30;refine Calls.mono (C3.out _ _ _ (HL.out.on HB2.out) HF2.out HT2.out) ?_;intro e w3 h3;obtain ⟨p',hp',rfl,hO3,hb3⟩:=h3;clear C3;refine Hid.out ?_))
 have z:∀ {p:Addr} {v:Value},(w.alloc (.cells #[.slice none 0 0,.slice none 0 0,.slice none 0 0,.slice none 0 0] 47)).cell? p=some v→w3.cell? p=some v:=fun {p v} hc=>by
  have h1:=(hb1.cell (World.block_lt_of_cell? _ _ hc)).trans hc
  have h2:=(hb2.cell (World.block_lt_of_cell? _ _ h1)).trans h1
  exact (hb3.cell (World.block_lt_of_cell? _ _ h2)).trans h2
 have r0:w3.cell? ⟨w.heap.size,0,none⟩=some (.slice none 0 0):=z (by go_simp)
 have r1:w3.cell? ⟨w.heap.size,1,none⟩=some (.slice none 0 0):=z (by go_simp)
 have r2:w3.cell? ⟨w.heap.size,2,none⟩=some (.slice none 0 0):=z (by go_simp)
 have r3:w3.cell? ⟨w.heap.size,3,none⟩=some (.slice none 0 0):=z (by go_simp)
 have hz1:=hb1.size
 have hz2:=hb2.size
 simp only [World.size_alloc] at hz1
 have fz:∀ j,w3.frozen? ⟨w.heap.size,j,none⟩=false:=fun j=>by
  refine (hb3.frozen (p:=⟨w.heap.size,j,none⟩) (by show w.heap.size<w2.heap.size;omega)).trans ((hb2.frozen (p:=⟨w.heap.size,j,none⟩) (by show w.heap.size<w1.heap.size;omega)).trans ((hb1.frozen (p:=⟨w.heap.size,j,none⟩) (by simp)).trans ?_))
  go_simp
 have f0:=fz 0
 have f1:=fz 1
 have f2:=fz 2
 have f3:=fz 3
 obtain ⟨da,dc,hdv⟩:∃ da dc,p'.dv=.slice da p'.ds.length dc:=zaE (RowsP.head (r:=dRow p') hO3)
 obtain ⟨xa,xc,hxv⟩:∃ xa xc,p'.xv=.slice xa p'.xs.length xc:=zaE (RowsP.head (r:=xRow p') hO3.rest)
 obtain ⟨sa,sc,hsv⟩:∃ sa sc,p'.sv=.slice sa p'.ss.length sc:=zaE (RowsP.head (r:=sRow p') hO3.rest.rest)
 obtain ⟨ma,mc,hmv⟩:∃ ma mc,p'.mv=.slice ma p'.ms.length mc:=zaE (RowsP.head (r:=mRow p') hO3.rest.rest.rest)
 have HV4:=hidI (And.intro hdv (And.intro hxv (And.intro hsv hmv)))
 have hpv:pval p'=.agg #[.slice da p'.ds.length dc,.slice xa p'.xs.length xc,.slice sa p'.ss.length sc,.slice ma p'.ms.length mc]:=by rw [pval,hdv,hxv,hsv,hmv]
 have HO3:=hidI hO3
 have HP':=hidI hp'
 have HB3:=hidI (HB2.out.trans (hb3.mono HB2.out.size))
 have hw2:w.heap.size+1≤w2.heap.size:=by omega
 rw [hpv]
 clear z fz hdv hxv hsv hmv hpv hO3 hp' hb1 hb2 hb3 hz1 hz2
 refine hidI ?_
 go_wp2
 refine bodyPost_ret (v:=.tuple #[.agg #[.slice da p'.ds.length dc,.slice xa p'.xs.length xc,.slice sa p'.ss.length sc,.slice ma p'.ms.length mc],.int .i64 0,.int .i64 0]) ?_ rfl ?_
 ·rw [results_ctt rfl]
  (go_simp<;>first|done|rfl)
 ·have hfar:∀ (W:World) (j:Nat) (v:Value),RowsP W w2.heap.size (dRow p'::xRow p'::sRow p'::mRow p'::(p'.xs.map kRow++p'.ss.flatMap sRows))→RowsP (W.setCell ⟨w.heap.size,j,none⟩ v) w2.heap.size (dRow p'::xRow p'::sRow p'::mRow p'::(p'.xs.map kRow++p'.ss.flatMap sRows)):=fun W j v h=>h.far (zcC W w.heap.size j v) (fun r hr=>.inr (fun e=>by have:=(h.lt hr e).1;omega))
  obtain ⟨e1,e2,e3,e4⟩:=HV4.out
  refine ⟨p',HP'.out,by rw [pval,e1,e2,e3,e4],RowsP.base (hfar _ 3 _ (hfar _ 2 _ (hfar _ 1 _ (hfar _ 0 _ HO3.out)))) (by omega),?_⟩
  exact (((HB3.out.setCell (Nat.le_refl _) _).setCell (Nat.le_refl _) _).setCell (Nat.le_refl _) _).setCell (Nat.le_refl _) _
open Go.RowKit Go.Deep Go.MapKept
def CtPost (t:Tx) (X:List Rw) (r:Option TS) (e:Ending) (w':World):Prop:=
 match r with
 | none=>e=.returned (.agg #[.int .i64 0,.int .i64 3])∧TBad t X w'
 | some σ'=>e=.returned (.agg #[.int .i64 0,.int .i64 0])∧TlS t σ' X w'
theorem TBad.setbox {t:Tx} {X:List Rw} {w:World} {B e size j:Nat} {xs:List Value} (h:TBad t (⟨bx B,e,size,1,xs⟩::X) w) (u:Value):TBad t (⟨bx B,e,size,1,xs.set j u⟩::X) (w.setCell ⟨B,j,none⟩ u):=
 ⟨h.below.setCell (h.rows.head.lt B rfl).1 u,h.rows.setc (g:=B) (cap:=1) (j:=j) rfl u⟩
set_option maxHeartbeats 1000000 in
theorem tcaught_any {t:Tx} {F:Nat} (hk:t.Ok F) {σ:TS} {X:List Rw} {w:World} (h:TlS t σ X w) :
  Calls Tryz.prog 48 #[.func (.func 94) #[.pointer (some ⟨t.B,0,none⟩)] #[]] w (CtPost t X (tProg t.P.prg σ)):=by
 have hmf:∀ (fn:Go.Fn) (first cap:Array Value) (w:World),(Instr.makeFunc fn first cap).run Tryz.prog w=.ok (.func fn first cap) w:=fun _ _ _ _=>rfl
 have HS0:TlS t σ (fBox w.heap.size::X) (w.alloc (.cells #[.int .i64 0,.int .i64 0] 111)):=h.newbox 111 2 #[.int .i64 0,.int .i64 0] rfl
 have C:=hidI (tall_any hk HS0)
 cases hr:tProg t.P.prg σ with
 | none=>
  rw [hr] at C
  clear hr h HS0
  go_enter_defers Tryz.func48,Tryz.ntmps48
  go_wp2_with (go_at_call 94;refine C.out.mono ?_;intro e w1 h1;obtain ⟨rfl,hb1⟩:=h1;clear C)
  have hr:=RowsP.head (r:=fBox w.heap.size) hb1.rows
  have hE0:=zaB hr (j:=0) rfl
  have hE1:=zaB hr (j:=1) rfl
  have hEf:∀ j,w1.frozen? ⟨w.heap.size,j,none⟩=false:=fun j=>zaR hr j
  refine leaves_cons (f:=89) (args:=#[.pointer (some ⟨w.heap.size,0,none⟩)]) (by simp) (by simp [go_sem]) ?_
  refine (catch2_fault w.heap.size 0 0 0 3 [] _ hE0 hE1 hEf).mono ?_
  rintro e u' w'' ⟨rfl,rfl,rfl⟩
  have hF0:=World.cell?_setCell_same w1 ⟨w.heap.size,0,none⟩ (.int .i64 0) hE0
  have hF1:((w1.setCell ⟨w.heap.size,0,none⟩ (.int .i64 0)).setCell ⟨w.heap.size,1,none⟩ (.int .i64 3)).cell? ⟨w.heap.size,1,none⟩=some (.int .i64 3):=World.cell?_setCell_same _ _ _ ((World.cell?_setCell_other _ _ _ _ (by simp)).trans hE1)
  simp [Leaves,settle,results,Tryz.results48,go_sem,hF0,hF1]
  exact ⟨rfl,(TBad.setbox (j:=1) (TBad.setbox (j:=0) hb1 (.int .i64 0)) (.int .i64 3)).sub (.cons _ (.refl _))⟩
 | some σ1=>
  rw [hr] at C
  clear hr h HS0
  go_enter_defers Tryz.func48,Tryz.ntmps48
  go_wp2_with (go_at_call 94;refine C.out.mono ?_;intro e w1 h1;obtain ⟨rfl,hb1⟩:=h1;clear C;refine Hid.out ?_)
  have hr:=hb1.r.row
  have hE0:=zaB hr (j:=0) rfl
  have hE1:=zaB hr (j:=1) rfl
  have f0:=zaR hr 0
  have f1:=zaR hr 1
  have HFIN:Hid (TlS t σ1 X ((w1.setCell ⟨w.heap.size,0,none⟩ (.int .i64 0)).setCell ⟨w.heap.size,1,none⟩ (.int .i64 0))):=hidI ⟨(TlR.setbox (j:=1) (TlR.setbox (j:=0) hb1.r (.int .i64 0)) (.int .i64 0)).less,hb1.lim⟩
  clear hr hb1
  refine hidI ?_
  go_wp2
  refine leaves_cons (f:=89) (args:=#[.pointer (some ⟨w.heap.size,0,none⟩)]) (by simp) (by simp [go_sem]) ?_
  refine (catch2_idle w.heap.size _).mono ?_
  rintro e u' w'' ⟨rfl,rfl,rfl⟩
  have hF0:=World.cell?_setCell_same w1 ⟨w.heap.size,0,none⟩ (.int .i64 0) hE0
  have hF1:((w1.setCell ⟨w.heap.size,0,none⟩ (.int .i64 0)).setCell ⟨w.heap.size,1,none⟩ (.int .i64 0)).cell? ⟨w.heap.size,1,none⟩=some (.int .i64 0):=World.cell?_setCell_same _ _ _ ((World.cell?_setCell_other _ _ _ _ (by simp)).trans hE1)
  simp [Leaves,settle,results,Tryz.results48,go_sem,hF0,hF1]
  exact ⟨rfl,HFIN.out⟩
theorem put_sound (t:Tx) (hpr:t.pr=fun _ Q=>Q=[]):PutOk t 52:=by
 intro σ X w tk h _ _
 have hA:=h.alloc (.cells #[.int .u8 tk.k,.string tk.s,.int .i64 tk.n,.int .i64 tk.p] 91)
 have HA:Hid (TlR t { σ with ts:=σ.ts++[tk] } X (w.alloc (.cells #[.int .u8 tk.k,.string tk.s,.int .i64 tk.n,.int .i64 tk.p] 91))):=hidI (by
  obtain ⟨Q,hq,hr⟩:=hA.rows
  rw [hpr] at hq
  exact ⟨hA.below,⟨Q,by rw [hpr];exact hq,hr⟩,hA.kept⟩)
 clear h hA
 go_enter Tryz.func52,Tryz.ntmps52
 go_wp2
 go_end0
 exact ⟨rfl,HA.out⟩
theorem field196 (x y:Int) (u:World):(Instr.field 111 (.agg #[.int .i64 x,.int .i64 y]) 1).run Tryz.prog u=.ok (.int .i64 y) u:=by kernel_rfl
def sndT (w:World) (B:Nat) (p:PV):Tx:=⟨w,B,p,.func (.func 52) #[] #[],fun _ Q=>Q=[],[]⟩
set_option maxRecDepth 100000 in
set_option maxHeartbeats 1000000 in
theorem told_sound (p:PV) (da xa sa ma:Option Addr) (dn dc xn xc sn sc mn mc:Nat) (hd:p.dv=.slice da dn dc) (hx:p.xv=.slice xa xn xc) (hs:p.sv=.slice sa sn sc) (hm:p.mv=.slice ma mn mc) (w:World) (hL:Laid w) (hp:SeesPv w p) (ho:PrgOk p.prg) :
  Calls Tryz.prog 51 #[.agg #[.slice da dn dc,.slice xa xn xc,.slice sa sn sc,.slice ma mn mc],.func (.func 52) #[] #[]] w fun e w'=>e=.returned (.bool (soundP p.prg))∧Below w.heap.size w w':=by
 have hmf:∀ (fn:Go.Fn) (first cap:Array Value) (w:World),(Instr.makeFunc fn first cap).run Tryz.prog w=.ok (.func fn first cap) w:=fun _ _ _ _=>rfl
 have hk:(sndT w (w.heap.size+1) p).Ok 52:=⟨hL,hp,ho,rfl,rfl,fun K=>put_sound _ rfl⟩
 have HS:TlS (sndT w (w.heap.size+1) p) ts0 [] ((w.alloc (.cells #[.slice da dn dc,.slice xa xn xc,.slice sa sn sc,.slice ma mn mc] 47)).alloc (.cells #[.slice da dn dc,.slice xa xn xc,.slice sa sn sc,.slice ma mn mc,.int .i64 0,.int .i64 0,.int .i64 0,.int .i64 0,.func (.func 52) #[] #[]] 174)):=by
  have hb:Below w.heap.size w (w.alloc (.cells #[.slice da dn dc,.slice xa xn xc,.slice sa sn sc,.slice ma mn mc] 47)):=(Below.refl _ _).alloc (Nat.le_refl _) _
  refine ⟨⟨hb.alloc hb.size _,⟨[],rfl,?_⟩,fun x hx=>absurd hx (by simp [sndT])⟩,⟨by decide,by decide,by decide⟩⟩
  have h1:RowsP (w.alloc (.cells #[.slice da dn dc,.slice xa xn xc,.slice sa sn sc,.slice ma mn mc] 47)) w.heap.size []:=⟨fun r hr=>absurd hr (by simp),List.Pairwise.nil⟩
  have h2:=zcM (w.alloc (.cells #[.slice da dn dc,.slice xa xn xc,.slice sa sn sc,.slice ma mn mc] 47)) w.heap.size 174 9 #[.slice da dn dc,.slice xa xn xc,.slice sa sn sc,.slice ma mn mc,.int .i64 0,.int .i64 0,.int .i64 0,.int .i64 0,.func (.func 52) #[] #[]] hb.size rfl
  rw [World.size_alloc] at h2
  have e1:(tlBox (sndT w (w.heap.size+1) p) ts0)=⟨bx (w.heap.size+1),174,9,1,[.slice da dn dc,.slice xa xn xc,.slice sa sn sc,.slice ma mn mc,.int .i64 0,.int .i64 0,.int .i64 0,.int .i64 0,.func (.func 52) #[] #[]]⟩:=by
   simp [tlBox,sndT,ts0,hd,hx,hs,hm]
  rw [e1]
  exact h1.add (h1.alloc _) h2 (fun k hk=>by cases hk;simp)
 have C:=hidI (tcaught_any hk HS)
 have HS0:Hid (soundP p.prg=(tProg p.prg ts0).isSome):=hidI rfl
 have hP:(sndT w (w.heap.size+1) p).P.prg=p.prg:=rfl
 have hB:(sndT w (w.heap.size+1) p).B=w.heap.size+1:=rfl
 rw [hP,hB] at C
 cases hr:tProg p.prg ts0 with
 | none=>
  have HR:Hid (soundP p.prg=false):=hidI (by rw [HS0.out,hr];rfl)
  rw [hr] at C
  have hf3:=fun u=>field196 0 3 u
  have hf0:=fun u=>field196 0 0 u
  clear hr HS hk hp ho hd hx hs hm hP hB
  go_enter Tryz.func51,Tryz.ntmps51
  go_wp2_with (go_at_call 48;refine C.out.mono ?_;intro e w1 h1;obtain ⟨rfl,hb1⟩:=h1;clear C)
  go_ret
  rw [HR.out]
  exact ⟨rfl,hb1.below⟩
 | some σ1=>
  have HR:Hid (soundP p.prg=true):=hidI (by rw [HS0.out,hr];rfl)
  rw [hr] at C
  have hf3:=fun u=>field196 0 3 u
  have hf0:=fun u=>field196 0 0 u
  clear hr HS hk hp ho hd hx hs hm hP hB
  go_enter Tryz.func51,Tryz.ntmps51
  go_wp2_with (go_at_call 48;refine C.out.mono ?_;intro e w1 h1;obtain ⟨rfl,hb1⟩:=h1;clear C)
  go_ret
  rw [HR.out]
  exact ⟨rfl,hb1.r.below⟩
theorem sound_any (p:PV) (w:World) (hL:Laid w) (hp:SeesPv w p) (ho:PrgOk p.prg) :
  Calls Tryz.prog 31 #[.agg #[p.dv,p.xv,p.sv,p.mv]] w fun e w'=>e=.returned (.bool (soundP p.prg))∧Below w.heap.size w w':=by
 obtain ⟨_,da,dc,hd,_⟩:=id hp.d
 obtain ⟨_,xa,xc,hx,_⟩:=id hp.x
 obtain ⟨_,sa,sc,hs,_⟩:=id hp.s
 obtain ⟨_,ma,mc,hm,_⟩:=id hp.m
 have hb:Below w.heap.size w (w.alloc (.cells #[.slice da p.ds.length dc,.slice xa p.xs.length xc,.slice sa p.ss.length sc,.slice ma p.ms.length mc] 47)):=(Below.refl _ _).alloc (Nat.le_refl _) _
 have C:=hidI (told_sound p da xa sa ma _ dc _ xc _ sc _ mc hd hx hs hm _ (hL.on hb) (hp.below hb) ho)
 have HB:=hidI hb
 rw [hd,hx,hs,hm]
 clear hd hx hs hm hb hp ho hL
 go_enter Tryz.func31,Tryz.ntmps31
 go_wp2_with (go_at_call 51;refine C.out.mono ?_;intro e w1 h1;obtain ⟨rfl,hb1⟩:=h1;clear C)
 go_ret
 exact ⟨rfl,HB.out.trans (hb1.mono HB.out.size)⟩
open Go.RowKit Go.Deep Go.MapKept
def tyCheck (P:Prg):Int × Int:=if soundP P then (if (declR P.decls 0 P.decls).2=0 then chkR P else (-1,9)) else (-1,3)
set_option maxRecDepth 100000 in
set_option maxHeartbeats 2000000 in
theorem tcheck_any (p:PV) (w:World) (hL:Laid w) (hp:SeesPv w p) (ho:PrgOk p.prg) (hd:soundP p.prg=true→p.ds.length≤24) (hwf:soundP p.prg=true→WfP p.prg) :
  Calls Tryz.prog 19 #[.agg #[p.dv,p.xv,p.sv,p.mv]] w fun e w'=>e=.returned (.tuple #[.int .i64 (tyCheck p.prg).1,.int .i64 (tyCheck p.prg).2])∧Below w.heap.size w w':=by
 obtain ⟨_,da,dc,hdv,_⟩:=id hp.d
 obtain ⟨_,xa,xc,hxv,_⟩:=id hp.x
 obtain ⟨_,sa,sc,hsv,_⟩:=id hp.s
 obtain ⟨_,ma,mc,hmv,_⟩:=id hp.m
 obtain ⟨w2,hw2⟩:∃ w2,w.alloc (.cells #[.slice da p.ds.length dc,.slice xa p.xs.length xc,.slice sa p.ss.length sc,.slice ma p.ms.length mc] 47)=w2:=⟨_,rfl⟩
 have hb:Below w.heap.size w w2:=hw2▸(Below.refl _ _).alloc (Nat.le_refl _) _
 have hAt:=AtBd.new w 47 #[.slice da p.ds.length dc,.slice xa p.xs.length xc,.slice sa p.ss.length sc,.slice ma p.ms.length mc]
 rw [hw2] at hAt
 have C:=hidI (sound_any p w2 (hL.on hb) (hp.below hb) ho)
 have HB:=hidI hb
 have HP:=hidI hp
 have HP2:=hidI (hp.below hb)
 have HO:=hidI ho
 have HLL:=hidI hd
 have HWF:=hidI hwf
 have HLA:=hidI hL
 have HAt:=hidI hAt
 have HDN:Hid (∀ d∈p.ds,d.name.size≤140737488355328∧d.side<256):=hidI (fun d hd=>⟨(ho.d d hd).2.2,(ho.d d hd).1⟩)
 have HE:Hid (p.dv=.slice da p.ds.length dc∧p.xv=.slice xa p.xs.length xc∧p.sv=.slice sa p.ss.length sc∧p.mv=.slice ma p.ms.length mc):=hidI ⟨hdv,hxv,hsv,hmv⟩
 rw [hdv,hxv,hsv,hmv] at C
 rw [hdv,hxv,hsv,hmv]
 have HW2:=hidI hw2
 cases hS:soundP p.prg with
 | false=>
  have HR:Hid (tyCheck p.prg=(-1,3)):=hidI (by unfold tyCheck;rw [hS];rfl)
  rw [hS] at C
  rw [HR.out]
  clear hdv hxv hsv hmv hb hp ho hL hd hwf HR hw2 hAt hS
  go_enter Tryz.func19,Tryz.ntmps19
  go_wp2_with (go_at_call 31;rw [HW2.out];refine C.out.mono ?_;intro e w1 h1;obtain ⟨rfl,hb1⟩:=h1;clear C)
  go_ret2
  exact ⟨rfl,HB.out.trans (hb1.mono HB.out.size)⟩
 | true=>
  have HD24:=hidI (hd hS)
  have HWP:=hidI (hwf hS)
  have HR:Hid (tyCheck p.prg=if (declR p.ds 0 p.ds).2=0 then chkR p.prg else (-1,9)):=hidI (by unfold tyCheck;rw [hS];rfl)
  rw [hS] at C
  have CD:=hidI (fun (u:World) (hu:Below w2.heap.size w2 u)=>declared_any u (HLA.out.on (HB.out.trans (hu.mono HB.out.size))) p.dv p.ds (HP2.out.below hu).d (by have:=HD24.out;omega) HDN.out)
  rw [hdv] at CD
  obtain ⟨R,hR⟩:∃ R,tyCheck p.prg=R:=⟨_,rfl⟩
  rw [hR] at HR ⊢
  obtain ⟨⟨ra,re⟩,hRD⟩:∃ R,declR p.ds 0 p.ds=R:=⟨_,rfl⟩
  rw [hRD] at HR CD
  clear hdv hxv hsv hmv hb hp ho hL hd hwf hw2 hAt hS hR hRD
  by_cases hre:re=0
  ·subst hre
   have HRR:Hid (R=chkR p.prg):=hidI (by rw [HR.out];simp)
   go_enter Tryz.func19,Tryz.ntmps19
   go_wp2_with (first
    | (go_at_call 31;rw [HW2.out];refine C.out.mono ?_;intro e w1 h1;obtain ⟨rfl,hb1⟩:=h1;clear C;have H1:=hidI hb1;have HA1:=hidI (AtBd.on HAt.out hb1);have z0:=HA1.out 0 _ rfl;have z1:=HA1.out 1 _ rfl;have z2:=HA1.out 2 _ rfl;have z3:=HA1.out 3 _ rfl;clear hb1)
    | (go_at_call 8;refine Calls.mono (CD.out _ H1.out) ?_;intro e w3 h3;obtain ⟨⟨kv,rfl,_⟩,hb3⟩:=h3;clear CD;have H3:=hidI (H1.out.trans (hb3.mono H1.out.size));have HA3:=hidI (AtBd.on HA1.out hb3);clear hb3;refine Hid.out ?_))
   refine hidI ?_
   have z0:=HA3.out 0 _ rfl
   have z1:=HA3.out 1 _ rfl
   have z2:=HA3.out 2 _ rfl
   have z3:=HA3.out 3 _ rfl
   have HS3:=hidI (HP2.out.below H3.out)
   have hmf:∀ (fn:Go.Fn) (first cap:Array Value) (w:World),(Instr.makeFunc fn first cap).run Tryz.prog w=.ok (.func fn first cap) w:=fun _ _ _ _=>rfl
   have HCB:Hid (CB w3 w3.heap.size 0 p (w3.alloc (.cells #[.slice da p.ds.length dc,.slice xa p.xs.length xc,.slice sa p.ss.length sc,.slice ma p.ms.length mc,.int .i64 0] 72))):=hidI ⟨(Below.refl _ _).alloc (Nat.le_refl _) _,Nat.le_refl _,by
    have h:=zcM w3 w3.heap.size 72 5 #[.slice da p.ds.length dc,.slice xa p.xs.length xc,.slice sa p.ss.length sc,.slice ma p.ms.length mc,.int .i64 0] (Nat.le_refl _) rfl
    rw [HE.out.1,HE.out.2.1,HE.out.2.2.1,HE.out.2.2.2]
    exact h⟩
   have CC:=hidI (tycaught_any HS3.out HWP.out HO.out HD24.out 0 _ HCB.out)
   go_wp2_with (go_at_call 32;refine CC.out.mono ?_;intro e w5 h5;obtain ⟨rfl,hb5⟩:=h5;clear CC)
   go_ret2
   exact ⟨by rw [HRR.out];rfl,HB.out.trans ((H3.out.trans (hb5.mono H3.out.size)).mono HB.out.size)⟩
  ·have HRR:Hid (R=(-1,9)):=hidI (by rw [HR.out,if_neg hre])
   have e1:(re != 0)=true:=by simpa using hre
   have e2:(re==0)=false:=by simpa using hre
   go_enter Tryz.func19,Tryz.ntmps19
   go_wp2_with (first
    | (go_at_call 31;rw [HW2.out];refine C.out.mono ?_;intro e w1 h1;obtain ⟨rfl,hb1⟩:=h1;clear C;have H1:=hidI hb1;have HA1:=hidI (AtBd.on HAt.out hb1);have z0:=HA1.out 0 _ rfl;clear hb1)
    | (go_at_call 8;refine Calls.mono (CD.out _ H1.out) ?_;intro e w3 h3;obtain ⟨⟨kv,rfl,_⟩,hb3⟩:=h3;clear CD;have H3:=hidI (H1.out.trans (hb3.mono H1.out.size));clear hb3))
   go_ret2
   exact ⟨by rw [HRR.out];rfl,HB.out.trans (H3.out.mono HB.out.size)⟩
end Go.Proofs.YtmekkhfohmfjkaaGreatDoor


namespace Go.Proofs.YtmekkhfohmfjkaaGreatDoor
open Go.RowKit Go.Deep Go.MapKept
theorem sees_own {w:World} {base:Nat} {p:PV} (h:OwnP w base p):SeesPv w p where
 d:=zbA (h.own (dRow p) (by simp))
 x:=zbA (h.own (xRow p) (by simp))
 s:=zbA (h.own (sRow p) (by simp))
 m:=zbA (h.own (mRow p) (by simp))
 xk:=fun x hx=>zbA (h.own (kRow x) (by simp only [List.mem_cons,List.mem_append,List.mem_map];exact .inr (.inr (.inr (.inr (.inl ⟨x,hx,rfl⟩))))))
 sa:=fun x hx=>zbA (h.own ⟨x.av,126,6,x.s.acts.length,flatAc x.s.acts⟩ (by simp only [List.mem_cons,List.mem_append,List.mem_flatMap];exact .inr (.inr (.inr (.inr (.inr ⟨x,hx,by simp [sRows]⟩))))))
 st:=fun x hx=>zbA (h.own ⟨x.tv,3,1,x.s.thn.length,intsI x.s.thn⟩ (by simp only [List.mem_cons,List.mem_append,List.mem_flatMap];exact .inr (.inr (.inr (.inr (.inr ⟨x,hx,by simp [sRows]⟩))))))
 se:=fun x hx=>zbA (h.own ⟨x.ev,3,1,x.s.els.length,intsI x.s.els⟩ (by simp only [List.mem_cons,List.mem_append,List.mem_flatMap];exact .inr (.inr (.inr (.inr (.inr ⟨x,hx,by simp [sRows]⟩))))))
def readT (t:Txt):Option Prg:=
 match parse ((pieces t).map tokW) with
 | .ok σ=>(match pTop σ.forms σ.top prg0 with|.ok P=>some P|.error _=>none)
 | .error _=>none
def prgB (P:Prg):Bool:=
 decide (P.decls.length≤24∧P.exprs.length≤1000∧P.stmts.length≤1000∧P.main.length≤1000) &&
 (P.decls.all fun d=>decide (d.side<256∧d.kind<256∧d.name.size≤100)) &&
 (P.exprs.all fun x=>decide (x.k<256∧x.of<256∧x.op<256∧x.name.size≤100∧x.kids.length≤1000)) &&
 (P.stmts.all fun s=>decide (s.k<256∧s.op<256∧s.name.size≤100∧s.acts.length≤1000∧s.thn.length≤1000∧s.els.length≤1000) && s.acts.all fun a=>decide (a.k<256∧a.op<256∧a.name.size≤100))
theorem prgB_ok {P:Prg} (h:prgB P=true):PrgOk P∧P.decls.length≤24∧∀ s∈P.stmts,s.acts.length≤1000:=by
 simp only [prgB,Bool.and_eq_true,decide_eq_true_eq,List.all_eq_true] at h
 obtain ⟨⟨⟨⟨h1,h2,h3,h4⟩,hd⟩,hx⟩,hs⟩:=h
 refine ⟨⟨by omega,by omega,by omega,by omega,fun d m => ?_,fun x m => ?_,fun s m => ?_⟩,h1,fun s m=>(hs s m).1.2.2.2.1⟩
 ·obtain ⟨a,b,c⟩:=hd d m
  exact ⟨a,b,by unfold SmlN;omega⟩
 ·obtain ⟨a,b,c,d,e⟩:=hx x m
  exact ⟨a,b,c,by unfold SmlN;omega,by omega⟩
 ·obtain ⟨⟨a,b,c,d,e,f⟩,g⟩:=hs s m
  refine ⟨a,b,by unfold SmlN;omega,by omega,by omega,by omega,fun y hy => ?_⟩
  obtain ⟨a,b,c⟩:=g y hy
  exact ⟨a,b,by unfold SmlN;omega⟩
def goodT (t:Txt):Bool:=
 ((pieces t).all fun q=>okW q.2) && decide ((pieces t).length≤600) && decide (t.length≤1000) && (((pieces t).map tokW).all fun k=>decide (k.s.size≤100)) &&
 (match readT t with|some P=>prgB P|none=>false)
theorem zdE {t:Txt} {P:Prg} (h:goodT t=true) (hP:readT t=some P) (w:World) (hL:Laid w):Calls Tryz.prog 18 #[.string (bytesOf t)] w (ReadPost P w):=by
 simp only [goodT,Bool.and_eq_true,decide_eq_true_eq] at h
 obtain ⟨⟨⟨⟨h1,h2⟩,h3⟩,h4⟩,h5⟩:=h
 rw [hP] at h5
 have hb:=prgB_ok h5
 unfold readT at hP
 cases hq:parse ((pieces t).map tokW) with
 | error e=>rw [hq] at hP;cases hP
 | ok σ=>
  rw [hq] at hP
  simp only at hP
  cases hr:pTop σ.forms σ.top prg0 with
  | error e=>rw [hr] at hP;cases hP
  | ok Q=>
   rw [hr] at hP
   obtain rfl:=Option.some.inj hP
   exact source_ok (lex_ok h1 (by omega) (by omega)) (fun k hk=>by have:=of_decide_eq_true (List.all_eq_true.1 h4 k hk);omega) (by simp;omega) hq (nmT_ok h1) hr hb.2.1 w hL
open Go.RowKit Go.Deep Go.MapKept
theorem zbG (P:Program) (w:World) (x y:Txt) (hx:x.length≤1000) (hy:y.length≤1000):(Op.stringOp .add (bytesOf x) (bytesOf y)).run P w=.ok (.string (bytesOf (x++y))) w:=by
 have h:=run_string_add (P:=P) w (bytesOf x) (bytesOf y) (by simp [bytesOf,ByteArray.size];omega) (by simp [bytesOf,ByteArray.size];omega)
 rw [h]
 have e:bytesOf x++bytesOf y=bytesOf (x++y):=by
  apply ByteArray.ext
  simp [bytesOf]
 rw [e]
open Go.RowKit Go.Deep Go.MapKept
def wfXB (xs:List Exp):Bool:=(List.range xs.length).all fun i=>match xs[i]? with
 | some e => !(e.k==10) || ((e.kids.all fun b=>decide (0≤b∧b<(i:Int))) && decide (e.op=18→3≤e.kids.length) && decide (e.op=13∨e.op=14→2≤e.kids.length) && decide (e.kids.length≤3))
 | none=>true
def inXB (P:Prg) (a:Int):Bool:=decide (0≤a∧a<(P.exprs.length:Int))
def wfAB (P:Prg) (a:Actn):Bool:=inXB P a.e && (a.cond == -1 || inXB P a.cond) && decide (a.k=2∨a.k=3→a.op≠18)
def wfSB (P:Prg) (s:Stm):Bool:=(s.k==3 || inXB P s.e) && (!(s.k==2) || ((s.cond == -1 || inXB P s.cond) && !(s.op==18))) && (!(s.k==3) || s.acts.all (wfAB P))
def wfB (P:Prg):Bool:=wfXB P.exprs && P.stmts.all (wfSB P)
theorem inXB_ok {P:Prg} {a:Int} (h:inXB P a=true):InX P a:=by unfold inXB at h;unfold InX;exact of_decide_eq_true h
theorem wfB_ok {P:Prg} (h:wfB P=true):WfP P:=by
 unfold wfB at h
 rw [Bool.and_eq_true] at h
 refine ⟨fun i e hi h10 => ?_,fun s hs => ?_⟩
 ·have h1:=h.1
  unfold wfXB at h1
  have h2:=List.all_eq_true.1 h1 i (List.mem_range.2 (List.getElem?_eq_some_iff.1 hi).1)
  rw [hi] at h2
  simp only [h10,beq_self_eq_true,Bool.not_true,Bool.false_or,Bool.and_eq_true,decide_eq_true_eq,List.all_eq_true] at h2
  exact ⟨fun b hb=>h2.1.1.1 b hb,h2.1.1.2,h2.1.2,h2.2⟩
 ·have h1:=List.all_eq_true.1 h.2 s hs
  unfold wfSB at h1
  simp only [Bool.and_eq_true,Bool.or_eq_true,beq_iff_eq,Bool.not_eq_true',beq_eq_false_iff_ne] at h1
  obtain ⟨⟨a1,a2⟩,a3⟩:=h1
  refine ⟨fun h3=>inXB_ok (a1.resolve_left h3),fun h2 => ?_,fun h3 a ha => ?_⟩
  ·have:=a2.resolve_left (fun x=>x h2)
   exact ⟨this.1.imp id inXB_ok,this.2⟩
  ·have:=List.all_eq_true.1 (a3.resolve_left (fun x=>x h3)) a ha
   unfold wfAB at this
   simp only [Bool.and_eq_true,Bool.or_eq_true,beq_iff_eq,decide_eq_true_eq] at this
   exact ⟨inXB_ok this.1.1,this.1.2.imp id inXB_ok,this.2⟩
def exsT:List Txt:=[[49],[116,114,117,101],[40,111,119,110,32,105,41],[40,111,119,110,32,98,41],[40,105,100,41],[40,100,101,103,32,105,110,41],[40,60,32,49,32,50,41],[40,118,105,97,32,119,41],[40,102,97,114,32,105,41],[107]]
def intsL:List Bool:=[true,false,true,false,true,true,false,false,false,true]
def boolsL:List Bool:=[false,true,false,true,false,false,true,false,false,false]
def hdrF:Txt:=[40,110,105,110,116,32,105,41,32,40,110,98,111,111,108,32,98,41,32,40,101,105,110,116,32,119,41,32,40,105,110,116,32,107,41,32]
def fitP (i k:Nat):Txt:=hdrF++[40,101,97,99,104,32,40,112,117,116,32,105,32,40,43,32]++exsT.getD i []++[32]++exsT.getD k []++[41,41,41]
def fitQ (c:Nat) (i:Nat):Txt:=hdrF++[40,101,97,99,104,32,40,112,117,116,32]++[UInt8.ofNat c]++[32]++exsT.getD i []++[41,41]
def fitB (t:Txt) (want:Bool):Bool:=
 goodT t && (match readT t with|some P=>wfB P && decide (decide ((tyCheck P).2=0)=want)|none=>false)
set_option maxRecDepth 100000 in
theorem fitP_all:∀ i<10,∀ k<10,fitB (fitP i k) (intsL.getD i false && intsL.getD k false)=true:=by decide +kernel
set_option maxRecDepth 100000 in
theorem fitQ_all:∀ i<10,fitB (fitQ 105 i) (intsL.getD i false)=true∧fitB (fitQ 98 i) (boolsL.getD i false)=true:=by decide +kernel
theorem fit_facts {t:Txt} {want:Bool} (h:fitB t want=true):∃ P,readT t=some P∧goodT t=true∧PrgOk P∧P.decls.length≤24∧WfP P∧decide ((tyCheck P).2=0)=want:=by
 unfold fitB at h
 rw [Bool.and_eq_true] at h
 obtain ⟨h1,h2⟩:=h
 cases hr:readT t with
 | none=>rw [hr] at h2;cases h2
 | some P=>
  rw [hr] at h2
  simp only [Bool.and_eq_true,decide_eq_true_eq] at h2
  have h3:=h1
  simp only [goodT,Bool.and_eq_true] at h3
  rw [hr] at h3
  have h4:=prgB_ok h3.2
  exact ⟨P,rfl,h1,h4.1,h4.2.1,wfB_ok h2.1,h2.2⟩
theorem exs_len:∀ i:Nat,(exsT.getD i []).length≤20
 | 0|1|2|3|4|5|6|7|8|9=>by decide
 | i+10=>by simp [exsT]
def rowE:Array Value:=#[.string ⟨#[49]⟩,.string ⟨#[116,114,117,101]⟩,.string ⟨#[40,111,119,110,32,105,41]⟩,.string ⟨#[40,111,119,110,32,98,41]⟩,.string ⟨#[40,105,100,41]⟩,.string ⟨#[40,100,101,103,32,105,110,41]⟩,.string ⟨#[40,60,32,49,32,50,41]⟩,.string ⟨#[40,118,105,97,32,119,41]⟩,.string ⟨#[40,102,97,114,32,105,41]⟩,.string ⟨#[107]⟩]
def rowI:Array Value:=#[.bool true,.bool false,.bool true,.bool false,.bool true,.bool true,.bool false,.bool false,.bool false,.bool true]
def rowB:Array Value:=#[.bool false,.bool true,.bool false,.bool true,.bool false,.bool false,.bool true,.bool false,.bool false,.bool false]
theorem rowE_get {i:Nat} (h:i<10):rowE.toList[i]?=some (.string (bytesOf (exsT.getD i []))):=by
 have:i=0∨i=1∨i=2∨i=3∨i=4∨i=5∨i=6∨i=7∨i=8∨i=9:=by omega
 rcases this with rfl|rfl|rfl|rfl|rfl|rfl|rfl|rfl|rfl|rfl<;>rfl
theorem rowI_get {i:Nat} (h:i<10):rowI.toList[i]?=some (.bool (intsL.getD i false)):=by
 have:i=0∨i=1∨i=2∨i=3∨i=4∨i=5∨i=6∨i=7∨i=8∨i=9:=by omega
 rcases this with rfl|rfl|rfl|rfl|rfl|rfl|rfl|rfl|rfl|rfl<;>rfl
theorem rowB_get {i:Nat} (h:i<10):rowB.toList[i]?=some (.bool (boolsL.getD i false)):=by
 have:i=0∨i=1∨i=2∨i=3∨i=4∨i=5∨i=6∨i=7∨i=8∨i=9:=by omega
 rcases this with rfl|rfl|rfl|rfl|rfl|rfl|rfl|rfl|rfl|rfl<;>rfl
open Go.RowKit Go.Deep Go.MapKept
section
variable {P : Program} {ops : Array Oper} {Q : Exit → Act → World → Prop} {σ : Type} {S : σ → Array Bool → World → Prop} {vals : σ → Nat → Value} {z : Nat} {a0 : Act}
theorem wpAny_seq3 {oz:Oper} (hok:SeqOk2 ops z a0.tmps.size) (hz:ops[z]?=some oz)
  (hstep:∀ i o,i<z→ops[i]?=some o→∀ (q:σ) a w (l:Array Bool),Fr ops (vals q) z a0 a (·∈afterOn o)→l.size=z+1→l[i]?=some false→(∀ k∈afterOn o,l[k]?=some true)→(∀ (j:Nat) (oj:Oper),l[j]?=some true→ops[j]?=some oj→∀ k∈afterOn oj,l[k]?=some true)→S q l w→∀ K:Act→World→Prop,(∀ q' v,(∀ j,j≠i→l[j]?=some true→vals q' j=vals q j)→S q' (l.setIfInBounds i true) v→K (a.put o.dst (vals q' i)) v)→if Region.wanted o (yielded ops a.tmps)=true then o.wp P a w K Q else K (a.put o.dst undef) w)
  (hlast:∀ (q:σ) w (l:Array Bool),(∀ j,j<z→l[j]?=some true)→S q l w→∀ K:Act→World→Prop,(∀ b v,Q .normal b v→K b v)→if Region.wanted oz (yielded ops (putTo ops (vals q) a0 z).tmps)=true then oz.wp P (putTo ops (vals q) a0 z) w K Q else K ((putTo ops (vals q) a0 z).put oz.dst undef) w) :
  ∀ (n:Nat) (q:σ) (l:Array Bool) (a:Act) (w:World),l.size=ops.size→(∀ (i:Nat) (o:Oper),l[i]?=some true→ops[i]?=some o→∀ k∈afterOn o,l[k]?=some true)→l[z]?=some false→Fr ops (vals q) z a0 a (fun j=>l[j]?=some true)→l.toList.count false=n→S q l w→wpAny P .any ops Q n l a w:=by
 intro n
 induction n with
 | zero=>
  intro q l a w _ _ h3 _ h5 _
  have:=zcD h3
  omega
 | succ n ih=>
  intro q l a w h1 h2 h3 h4 h5 hS
  have hzs:z<l.size:=(Array.getElem?_eq_some_iff.1 h3).1
  have hcase:∀ k,k<l.size→l[k]?=some true∨l[k]?=some false:=fun k hk=>by
   rw [Array.getElem?_eq_getElem hk]
   cases l[k]<;>simp
  have hmem:∀ i,i∈Region.ready .any ops l↔l[i]?=some false∧∃ o,ops[i]?=some o∧∀ k∈afterOn o,l[k]?=some true:=by
   intro i
   rw [mem_ready]
   constructor
   ·rintro ⟨g1,o,ho,g2⟩
    have hi:i<l.size:=by rw [h1];exact (Array.getElem?_eq_some_iff.1 ho).1
    refine ⟨?_,o,ho,fun k hk => ?_⟩
    ·rcases hcase i hi with e|e
     ·rw [zbH e] at g1;cases g1
     ·exact e
    ·obtain ⟨e,he,hb,rfl⟩:=zcK.1 hk
     have g3:=g2 e he hb
     have hlt:=hok.back i o ho e.on hk
     rcases hcase e.on (by omega) with e'|e'
     ·exact e'
     ·rw [zbH e'] at g3;cases g3
   ·rintro ⟨g1,o,ho,g2⟩
    exact ⟨zbH g1,o,ho,fun e he hb=>zbH (g2 e.on (zcK.2 ⟨e,he,hb,rfl⟩))⟩
  refine ⟨fun hr => ?_,fun i hi => ?_⟩
  ·exfalso
   have key:∀ m,m≤z→(∀ k,k<m→l[k]?=some true):=by
    intro m
    induction m with
    | zero=>intro _ k hk;omega
    | succ m ihm=>
     intro hm k hk
     have prev:=ihm (by omega)
     by_cases hkm:k<m
     ·exact prev k hkm
     ·obtain rfl:k=m:=by omega
      rcases hcase k (by omega) with e|e
      ·exact e
      ·exfalso
       have hks:k<ops.size:=by omega
       have:k∈Region.ready .any ops l:=(hmem k).2 ⟨e,ops[k],Array.getElem?_eq_getElem hks,fun j hj=>prev j (hok.back k _ (Array.getElem?_eq_getElem hks) j hj)⟩
       rw [hr] at this
       simp at this
   have:z∈Region.ready .any ops l:=(hmem z).2 ⟨h3,oz,hz,fun j hj=>key z (Nat.le_refl _) j (hok.back z _ hz j hj)⟩
   rw [hr] at this
   simp at this
  ·obtain ⟨g1,o,ho,g2⟩:=(hmem i).1 hi
   by_cases hiz:i=z
   ·subst hiz
    obtain rfl:oz=o:=by rw [hz] at ho;exact Option.some.inj ho
    have hall:∀ (m j:Nat),i-j≤m→j<i→l[j]?=some true:=by
     intro m
     induction m with
     | zero=>intro j h1 h2;omega
     | succ m ihm=>
      intro j hj1 hj2
      obtain ⟨k,ok,hjk,hki,hok',hin⟩:=hok.fore j hj2
      by_cases hke:k=i
      ·subst hke
       obtain rfl:oz=ok:=by rw [hz] at hok';exact Option.some.inj hok'
       exact g2 j hin
      ·exact h2 k ok (ihm k (by omega) (by omega)) hok' j hin
    have ha:a=putTo ops (vals q) a0 i:=fr_all2 hok h4 (fun j hj=>hall i j (by omega) hj)
    have hcnt:=zcD g1
    have hnone:∀ j:Nat,(l.setIfInBounds i true)[j]?≠some false:=by
     intro j hj
     rw [Array.getElem?_setIfInBounds] at hj
     split at hj
     ·first
      | (cases hj;done)
      | (split at hj<;>cases hj)
     ·have hjs:=(Array.getElem?_eq_some_iff.1 hj).1
      have:=hall i j (by omega) (by rw [h1,hok.size] at hjs;omega)
      rw [hj] at this;cases this
    have hc0:(l.setIfInBounds i true).toList.count false=0:=by
     refine List.count_eq_zero.2 fun hm => ?_
     obtain ⟨j,hj⟩:=List.getElem?_of_mem hm
     exact hnone j (by rw [←Array.getElem?_toList];exact hj)
    have hn0:n=0:=by omega
    subst hn0
    subst ha
    refine wpOp_step hz fun K' hK'=>hlast q w l (fun j hj=>hall i j (by omega) hj) hS K' fun b v hb=>hK' b v ⟨?_,hb⟩
    cases hr:Region.ready .any ops (l.setIfInBounds i true) with
    | nil=>rfl
    | cons j r=>
     exfalso
     have hj:j∈Region.ready .any ops (l.setIfInBounds i true):=by rw [hr];simp
     obtain ⟨q1,o',ho',_⟩:=mem_ready.1 hj
     have hjs:j<(l.setIfInBounds i true).size:=by rw [Array.size_setIfInBounds,h1];exact (Array.getElem?_eq_some_iff.1 ho').1
     refine hnone j ?_
     rw [Array.getElem?_eq_getElem hjs]
     rw [Array.getD_eq_getD_getElem?,Array.getElem?_eq_getElem hjs] at q1
     simpa using q1
   ·have hiz':i<z:=by
     have:=(Array.getElem?_eq_some_iff.1 ho).1
     rw [hok.size] at this;omega
    refine wpOp_step ho fun K' hK' => ?_
    refine hstep i o hiz' ho q a w l ⟨h4.size,h4.df,h4.old,fun j hj hjz d hd=>h4.new j (g2 j hj) hjz d hd⟩ (by rw [h1,hok.size]) g1 g2 h2 hS K' fun q' v hqq hv=>hK' _ _ ?_
    have hod:o.dst=dstOf ops i:=by unfold dstOf;rw [ho];rfl
    refine ih q' _ _ _ (by simpa using h1) ?_ ?_ ?_ (by have:=zcD g1;omega) hv
    ·intro j o' hj ho' k hk
     have hkk:l[k]?=some true:=by
      rw [Array.getElem?_setIfInBounds] at hj
      split at hj
      ·rename_i hij
       subst hij
       obtain rfl:o=o':=by rw [ho] at ho';exact Option.some.inj ho'
       exact g2 k hk
      ·exact h2 j o' hj ho' k hk
     rw [Array.getElem?_setIfInBounds]
     split
     ·rename_i hik
      subst hik
      rw [hkk] at g1;cases g1
     ·exact hkk
    ·rw [Array.getElem?_setIfInBounds,if_neg hiz]
     exact h3
    ·refine ⟨by rw [put_size];exact h4.size,by rw [put_df];exact h4.df,fun k hk => ?_,fun j hj hjz d hd => ?_⟩
     ·rw [hod]
      cases hdi:dstOf ops i with
      | none=>exact h4.old k hk
      | some di=>
       rw [zcJ,if_neg (fun e=>hk i hiz' (by rw [hdi,e]))]
       exact h4.old k hk
     ·rw [hod]
      by_cases hij:i=j
      ·subst hij
       rw [hd,zcJ,if_pos rfl,h4.size,if_pos (hok.dst i hiz' d hd).1]
      ·have hj':l[j]?=some true:=by
        rw [Array.getElem?_setIfInBounds,if_neg hij] at hj
        exact hj
       have hold:a.tmps[d]?=some (vals q' j):=by
        rw [hqq j (fun e=>hij e.symm) hj']
        exact h4.new j hj' hjz d hd
       cases hdi:dstOf ops i with
       | none=>exact hold
       | some di=>
        rw [zcJ,if_neg (fun e=>(hok.dst j hjz d hd).2 i hiz' hij (by rw [hdi,e]))]
        exact hold
theorem wp_region_seq3 {id:Nat} {w:World} {oz:Oper} {σ:Type} (vals:σ→Nat→Value) (S:σ→Array Bool→World→Prop) (q0:σ) (z:Nat) (hm:P.follows .mixedOrders=true) (hsq:seqB ops z=true) (hdb:dstB2 ops z a0.tmps.size=true) (hz:ops[z]?=some oz) (hS:S q0 (Array.replicate ops.size false) w.drew)
  (hstep:∀ i o,i<z→ops[i]?=some o→∀ (q:σ) a w (l:Array Bool),Fr ops (vals q) z a0 a (·∈afterOn o)→l.size=z+1→l[i]?=some false→(∀ k∈afterOn o,l[k]?=some true)→(∀ (j:Nat) (oj:Oper),l[j]?=some true→ops[j]?=some oj→∀ k∈afterOn oj,l[k]?=some true)→S q l w→∀ K:Act→World→Prop,(∀ q' v,(∀ j,j≠i→l[j]?=some true→vals q' j=vals q j)→S q' (l.setIfInBounds i true) v→K (a.put o.dst (vals q' i)) v)→if Region.wanted o (yielded ops a.tmps)=true then o.wp P a w K Q else K (a.put o.dst undef) w)
  (hlast:∀ (q:σ) w (l:Array Bool),(∀ j,j<z→l[j]?=some true)→S q l w→∀ K:Act→World→Prop,(∀ b v,Q .normal b v→K b v)→if Region.wanted oz (yielded ops (putTo ops (vals q) a0 z).tmps)=true then oz.wp P (putTo ops (vals q) a0 z) w K Q else K ((putTo ops (vals q) a0 z).put oz.dst undef) w) :
  (Code.region id ops true).wp P Q a0 w:=by
 have hok:=seqOk2 hsq hdb
 refine wp_region_any hm (wpAny_seq3 hok hz hstep hlast ops.size q0 (Array.replicate ops.size false) a0 _ (by simp) ?_ ?_ ⟨rfl,rfl,fun _ _=>rfl,?_⟩ (by simp) hS)
 ·intro i o hi
  rw [Array.getElem?_replicate] at hi
  split at hi<;>cases hi
 ·rw [Array.getElem?_replicate,if_pos (by rw [hok.size];omega)]
 ·intro j hj
  rw [Array.getElem?_replicate] at hj
  split at hj<;>cases hj
end
theorem wp_region_seq3A {P:Program} {Q:Exit→Act→World→Prop} {a0:Act} {id:Nat} {w:World} {σ:Type} (f:Nat→Oper) (vals:σ→Nat→Value) (S:σ→Array Bool→World→Prop) (q0:σ) (z:Nat) (hm:P.follows .mixedOrders=true) (hsq:seqB (opsA f z) z=true) (hdb:dstB2 (opsA f z) z a0.tmps.size=true) (hS:S q0 (Array.replicate (opsA f z).size false) w.drew)
  (hstep:∀ i,i<z→∀ (q:σ) a w (l:Array Bool),Fr (opsA f z) (vals q) z a0 a (·∈afterOn (f i))→l.size=z+1→l[i]?=some false→(∀ k∈afterOn (f i),l[k]?=some true)→(∀ j,j≤z→l[j]?=some true→∀ k∈afterOn (f j),l[k]?=some true)→S q l w→∀ K:Act→World→Prop,(∀ q' v,(∀ j,j≠i→l[j]?=some true→vals q' j=vals q j)→S q' (l.setIfInBounds i true) v→K (a.put (f i).dst (vals q' i)) v)→if Region.wanted (f i) (yielded (opsA f z) a.tmps)=true then (f i).wp P a w K Q else K (a.put (f i).dst undef) w)
  (hlast:∀ (q:σ) w (l:Array Bool),(∀ j,j<z→l[j]?=some true)→S q l w→∀ K:Act→World→Prop,(∀ b v,Q .normal b v→K b v)→if Region.wanted (f z) (yielded (opsA f z) (putA f (vals q) a0 z).tmps)=true then (f z).wp P (putA f (vals q) a0 z) w K Q else K ((putA f (vals q) a0 z).put (f z).dst undef) w) :
  (Code.region id (opsA f z) true).wp P Q a0 w:=
 wp_region_seq3 vals S q0 z hm hsq hdb (zaA f z (Nat.le_refl _)) hS (fun i o hi ho q a w l h1 h2 h3 h4 h5=>by obtain rfl:=so (zaA f z (Nat.le_of_lt hi)) ho;exact hstep i hi q a w l h1 h2 h3 h4 (fun j hj hl=>h5 j (f j) hl (zaA f z hj))) (fun q w l h1 h K hK=>by rw [putA_eq f (vals q) a0 z z (Nat.le_refl _)];exact hlast q w l h1 h K hK)
end Go.Proofs.YtmekkhfohmfjkaaGreatDoor
