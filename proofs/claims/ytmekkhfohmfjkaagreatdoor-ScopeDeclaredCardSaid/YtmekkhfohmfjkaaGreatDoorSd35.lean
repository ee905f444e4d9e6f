/-
  Part 35 of the proof: PSrc2, TlK, NmD, NmE, NmF.
-/
import Derived.Test.YtmekkhfohmfjkaaGreatDoorSd34
import Derived.Test.YtmekkhfohmfjkaaGreatDoorSd32
import Derived.Test.YtmekkhfohmfjkaaGreatDoorSd28
import Derived.Test.YtmekkhfohmfjkaaGreatDoorSd21
import Derived.Test.YtmekkhfohmfjkaaGreatDoorSd20
namespace Go.Proofs.YtmekkhfohmfjkaaGreatDoor
open Go.RowKit Go.Deep Go.MapKept
set_option maxHeartbeats 2000000 in
theorem source_ok {s:ByteArray} {ts:List Tok} {σ:St} {P:Prg} (hlex:lexRes s=(ts,0,0)) (hts:∀ t∈ts,t.s.size≤140737488355328) (htl:ts.length≤100000) (hp:parse ts=.ok σ) (hnm:ts.all nmT=true) (hP:pTop σ.forms σ.top prg0=.ok P) (hD:P.decls.length≤24) (w:World) (hL:Laid w) :
  Calls Tryz.prog 18 #[.string s] w (ReadPost P w):=by
 have hbA:Below w.heap.size w (w.alloc (.cells #[.slice none 0 0,.slice none 0 0,.slice none 0 0,.slice none 0 0] 47)):=by exact belowT
 have C1:Hid (Calls Tryz.prog 28 #[.string s] (w.alloc (.cells #[.slice none 0 0,.slice none 0 0,.slice none 0 0,.slice none 0 0] 47)) fun e w'=>∃ a1 c1,e=.returned (.tuple #[.slice a1 ts.length c1,.int .i64 0,.int .i64 0])∧SeesC w' (.slice a1 ts.length c1) ts.length 4 (flatT ts)∧Below (w.alloc (.cells #[.slice none 0 0,.slice none 0 0,.slice none 0 0,.slice none 0 0] 47)).heap.size (w.alloc (.cells #[.slice none 0 0,.slice none 0 0,.slice none 0 0,.slice none 0 0] 47)) w'):=hidI ((toks_any s _ (hL.on hbA)).mono (by
  rintro e w' ⟨v,rfl,v',rfl,h2,h3⟩
  rw [hlex] at h2 ⊢
  obtain ⟨_,a1,c1,hv,_⟩:=id h2
  subst hv
  exact ⟨a1,c1,rfl,h2,h3⟩))
 have C2:Hid (∀ W v,SeesC W v ts.length 4 (flatT ts)→Calls Tryz.prog 29 #[v] W fun e w'=>∃ fv tv,e=.returned (.tuple #[fv,tv,.int .i64 0,.int .i64 0])∧SeesF w' fv σ.forms∧SeesC w' tv σ.top.length 1 (ints σ.top)∧Below W.heap.size W w'):=hidI (fun W v hv=>by
  have:=tparse_any ts v W hv hts htl
  rw [hp] at this
  exact this)
 have C3:Hid (∀ W fv tv,Laid W→SeesF W fv σ.forms→SeesC W tv σ.top.length 1 (ints σ.top)→Calls Tryz.prog 30 #[fv,tv] W (ReadPost P W)):=hidI (fun W fv tv hW hF hT=>read_parsed hp hts hnm hP hD hW hF hT)
 have HL:=hidI hL
 have HBA:=hidI hbA
 clear hlex hts htl hp hnm hP hD hL hbA
 go_enter Tryz.func18,Tryz.ntmps18
 go_wp2_with (first
  | (go_at_call 28;refine C1.out.mono ?_;intro e w1 h1;obtain ⟨a1,c1,rfl,hs1,hb1⟩:=h1;clear C1;have HS1:=hidI hs1;clear hs1;have HB1:=hidI (HBA.out.trans (hb1.mono HBA.out.size)))
  | (go_at_call 29;refine Calls.mono (C2.out _ _ HS1.out) ?_;intro e w2 h2;obtain ⟨fv,tv,rfl,hF2,hT2,hb2⟩:=h2;clear C2;have HF2:=hidI hF2;have HT2:=hidI hT2;clear hF2 hT2;have HB2:=hidI (HB1.out.trans (hb2.mono HB1.out.size)))
  | (go_at_call 30;refine Calls.mono (C3.out _ _ _ (HL.out.on HB2.out) HF2.out HT2.out) ?_;intro e w3 h3;obtain ⟨p',hp',rfl,hO3,hb3⟩:=h3;clear C3;refine Hid.out ?_))
 have z:∀ {p:Addr} {v:Value},(w.alloc (.cells #[.slice none 0 0,.slice none 0 0,.slice none 0 0,.slice none 0 0] 47)).cell? p=some v→w3.cell? p=some v:=fun {p v} hc=>by
  have h1:=(hb1.cell (World.block_lt_of_cell? _ _ hc)).trans hc
  have h2:=(hb2.cell (World.block_lt_of_cell? _ _ h1)).trans h1
  exact (hb3.cell (World.block_lt_of_cell? _ _ h2)).trans h2
 have r0:w3.cell? ⟨w.heap.size,0,none⟩=some (.slice none 0 0):=z (by go_simp)
 have r1:w3.cell? ⟨w.heap.size,1,none⟩=some (.slice none 0 0):=z (by go_simp)
 have r2:w3.cell? ⟨w.heap.size,2,none⟩=some (.slice none 0 0):=z (by go_simp)
 have r3:w3.cell? ⟨w.heap.size,3,none⟩=some (.slice none 0 0):=z (by go_simp)
 have hz1:=hb1.size
 have hz2:=hb2.size
 simp only [World.size_alloc] at hz1
 have fz:∀ j,w3.frozen? ⟨w.heap.size,j,none⟩=false:=fun j=>by
  refine (hb3.frozen (p:=⟨w.heap.size,j,none⟩) (by show w.heap.size<w2.heap.size;omega)).trans ((hb2.frozen (p:=⟨w.heap.size,j,none⟩) (by show w.heap.size<w1.heap.size;omega)).trans ((hb1.frozen (p:=⟨w.heap.size,j,none⟩) (by simp)).trans ?_))
  go_simp
 have f0:=fz 0
 have f1:=fz 1
 have f2:=fz 2
 have f3:=fz 3
 obtain ⟨da,dc,hdv⟩:∃ da dc,p'.dv=.slice da p'.ds.length dc:=zaE (RowsP.head (r:=dRow p') hO3)
 obtain ⟨xa,xc,hxv⟩:∃ xa xc,p'.xv=.slice xa p'.xs.length xc:=zaE (RowsP.head (r:=xRow p') hO3.rest)
 obtain ⟨sa,sc,hsv⟩:∃ sa sc,p'.sv=.slice sa p'.ss.length sc:=zaE (RowsP.head (r:=sRow p') hO3.rest.rest)
 obtain ⟨ma,mc,hmv⟩:∃ ma mc,p'.mv=.slice ma p'.ms.length mc:=zaE (RowsP.head (r:=mRow p') hO3.rest.rest.rest)
 have HV4:=hidI (And.intro hdv (And.intro hxv (And.intro hsv hmv)))
 have hpv:pval p'=.agg #[.slice da p'.ds.length dc,.slice xa p'.xs.length xc,.slice sa p'.ss.length sc,.slice ma p'.ms.length mc]:=by rw [pval,hdv,hxv,hsv,hmv]
 have HO3:=hidI hO3
 have HP':=hidI hp'
 have HB3:=hidI (HB2.out.trans (hb3.mono HB2.out.size))
 have hw2:w.heap.size+1≤w2.heap.size:=by omega
 rw [hpv]
 clear z fz hdv hxv hsv hmv hpv hO3 hp' hb1 hb2 hb3 hz1 hz2
 refine hidI ?_
 go_wp2
 refine bodyPost_ret (v:=.tuple #[.agg #[.slice da p'.ds.length dc,.slice xa p'.xs.length xc,.slice sa p'.ss.length sc,.slice ma p'.ms.length mc],.int .i64 0,.int .i64 0]) ?_ rfl ?_
 ·rw [results_ctt rfl]
  (go_simp<;>first|done|rfl)
 ·have hfar:∀ (W:World) (j:Nat) (v:Value),RowsP W w2.heap.size (dRow p'::xRow p'::sRow p'::mRow p'::(p'.xs.map kRow++p'.ss.flatMap sRows))→RowsP (W.setCell ⟨w.heap.size,j,none⟩ v) w2.heap.size (dRow p'::xRow p'::sRow p'::mRow p'::(p'.xs.map kRow++p'.ss.flatMap sRows)):=fun W j v h=>h.far (zcB W w.heap.size j v) (fun r hr=>.inr (fun e=>by have:=(h.lt hr e).1;omega))
  obtain ⟨e1,e2,e3,e4⟩:=HV4.out
  refine ⟨p',HP'.out,by rw [pval,e1,e2,e3,e4],RowsP.base (hfar _ 3 _ (hfar _ 2 _ (hfar _ 1 _ (hfar _ 0 _ HO3.out)))) (by omega),?_⟩
  exact (((HB3.out.setCell (Nat.le_refl _) _).setCell (Nat.le_refl _) _).setCell (Nat.le_refl _) _).setCell (Nat.le_refl _) _
def txt10:Txt:=[40,110,105,110,116,32,97,41,32,40,105,110,116,32,97,41,32,40,105,110,116,32,98,41,32,40,115,101,116,32,97,32,49,41]
theorem ok10:((pieces txt10).all fun q=>okW q.2)=true:=by decide +kernel
def forms10:List Frm:=[⟨1,⟨#[]⟩,0,[1,2],0⟩,⟨3,⟨#[110,105,110,116]⟩,0,[],1⟩,⟨3,⟨#[97]⟩,0,[],6⟩,⟨1,⟨#[]⟩,0,[4,5],9⟩,⟨3,⟨#[105,110,116]⟩,0,[],10⟩,⟨3,⟨#[97]⟩,0,[],14⟩,⟨1,⟨#[]⟩,0,[7,8],17⟩,⟨3,⟨#[105,110,116]⟩,0,[],18⟩,⟨3,⟨#[98]⟩,0,[],22⟩,⟨1,⟨#[]⟩,0,[10,11,12],25⟩,⟨3,⟨#[115,101,116]⟩,0,[],26⟩,⟨3,⟨#[97]⟩,0,[],30⟩,⟨4,⟨#[]⟩,1,[],32⟩]
theorem parse10:parse ((pieces txt10).map tokW)=.ok ⟨forms10,[0,3,6,9],[]⟩:=by kernel_rfl
def prg10:Prg:=⟨[⟨⟨#[97]⟩,2,1⟩,⟨⟨#[97]⟩,1,1⟩,⟨⟨#[98]⟩,1,1⟩],[⟨1,1,0,⟨#[]⟩,1,[]⟩],[⟨1,⟨#[97]⟩,0,0, -1,[],[],[]⟩],[0]⟩
theorem top10:pTop forms10 [0,3,6,9] prg0=.ok prg10:=by kernel_rfl
theorem small10:∀ t∈(pieces txt10).map tokW,t.s.size≤140737488355328:=by
 have h:((pieces txt10).map tokW).all (fun t=>decide (t.s.size≤100))=true:=by decide +kernel
 intro t ht
 have:=of_decide_eq_true (List.all_eq_true.1 h t ht)
 omega
theorem source10 (w:World) (hL:Laid w):Calls Tryz.prog 18 #[.string ⟨#[40,110,105,110,116,32,97,41,32,40,105,110,116,32,97,41,32,40,105,110,116,32,98,41,32,40,115,101,116,32,97,32,49,41]⟩] w (ReadPost prg10 w):=by
 have hb:bytesOf txt10=⟨#[40,110,105,110,116,32,97,41,32,40,105,110,116,32,97,41,32,40,105,110,116,32,98,41,32,40,115,101,116,32,97,32,49,41]⟩:=rfl
 rw [←hb]
 exact source_ok (lex_ok ok10 (by decide +kernel) (by decide)) small10 (by decide +kernel) parse10 (nmT_ok ok10) top10 (by decide) w hL
def CtPost (t:Tx) (X:List Rw) (r:Option TS) (e:Ending) (w':World):Prop:=
 match r with
 | none=>e=.returned (.agg #[.int .i64 0,.int .i64 3])∧TBad t X w'
 | some σ'=>e=.returned (.agg #[.int .i64 0,.int .i64 0])∧TlS t σ' X w'
theorem TBad.setbox {t:Tx} {X:List Rw} {w:World} {B e size j:Nat} {xs:List Value} (h:TBad t (⟨bx B,e,size,1,xs⟩::X) w) (u:Value):TBad t (⟨bx B,e,size,1,xs.set j u⟩::X) (w.setCell ⟨B,j,none⟩ u):=
 ⟨h.below.setCell (h.rows.head.lt B rfl).1 u,h.rows.setc (g:=B) (cap:=1) (j:=j) rfl u⟩
set_option maxHeartbeats 1000000 in
theorem tcaught_any {t:Tx} {F:Nat} (hk:t.Ok F) {σ:TS} {X:List Rw} {w:World} (h:TlS t σ X w) :
  Calls Tryz.prog 48 #[.func (.func 94) #[.pointer (some ⟨t.B,0,none⟩)] #[]] w (CtPost t X (tProg t.P.prg σ)):=by
 have hmf:∀ (fn:Go.Fn) (first cap:Array Value) (w:World),(Instr.makeFunc fn first cap).run Tryz.prog w=.ok (.func fn first cap) w:=fun _ _ _ _=>rfl
 have HS0:TlS t σ (fBox w.heap.size::X) (w.alloc (.cells #[.int .i64 0,.int .i64 0] 111)):=h.newbox 111 2 #[.int .i64 0,.int .i64 0] rfl
 have C:=hidI (tall_any hk HS0)
 cases hr:tProg t.P.prg σ with
 | none=>
  rw [hr] at C
  clear hr h HS0
  go_enter_defers Tryz.func48,Tryz.ntmps48
  go_wp2_with (go_at_call 94;refine C.out.mono ?_;intro e w1 h1;obtain ⟨rfl,hb1⟩:=h1;clear C)
  have hr:=RowsP.head (r:=fBox w.heap.size) hb1.rows
  have hE0:=zaB hr (j:=0) rfl
  have hE1:=zaB hr (j:=1) rfl
  have hEf:∀ j,w1.frozen? ⟨w.heap.size,j,none⟩=false:=fun j=>zaQ hr j
  refine leaves_cons (f:=89) (args:=#[.pointer (some ⟨w.heap.size,0,none⟩)]) (by simp) (by simp [go_sem]) ?_
  refine (catch2_fault w.heap.size 0 0 0 3 [] _ hE0 hE1 hEf).mono ?_
  rintro e u' w'' ⟨rfl,rfl,rfl⟩
  have hF0:=World.cell?_setCell_same w1 ⟨w.heap.size,0,none⟩ (.int .i64 0) hE0
  have hF1:((w1.setCell ⟨w.heap.size,0,none⟩ (.int .i64 0)).setCell ⟨w.heap.size,1,none⟩ (.int .i64 3)).cell? ⟨w.heap.size,1,none⟩=some (.int .i64 3):=World.cell?_setCell_same _ _ _ ((World.cell?_setCell_other _ _ _ _ (by simp)).trans hE1)
  simp [Leaves,settle,results,Tryz.results48,go_sem,hF0,hF1]
  exact ⟨rfl,(TBad.setbox (j:=1) (TBad.setbox (j:=0) hb1 (.int .i64 0)) (.int .i64 3)).sub (.cons _ (.refl _))⟩
 | some σ1=>
  rw [hr] at C
  clear hr h HS0
  go_enter_defers Tryz.func48,Tryz.ntmps48
  go_wp2_with (go_at_call 94;refine C.out.mono ?_;intro e w1 h1;obtain ⟨rfl,hb1⟩:=h1;clear C;refine Hid.out ?_)
  have hr:=hb1.r.row
  have hE0:=zaB hr (j:=0) rfl
  have hE1:=zaB hr (j:=1) rfl
  have f0:=zaQ hr 0
  have f1:=zaQ hr 1
  have HFIN:Hid (TlS t σ1 X ((w1.setCell ⟨w.heap.size,0,none⟩ (.int .i64 0)).setCell ⟨w.heap.size,1,none⟩ (.int .i64 0))):=hidI ⟨(TlR.setbox (j:=1) (TlR.setbox (j:=0) hb1.r (.int .i64 0)) (.int .i64 0)).less,hb1.lim⟩
  clear hr hb1
  refine hidI ?_
  go_wp2
  refine leaves_cons (f:=89) (args:=#[.pointer (some ⟨w.heap.size,0,none⟩)]) (by simp) (by simp [go_sem]) ?_
  refine (catch2_idle w.heap.size _).mono ?_
  rintro e u' w'' ⟨rfl,rfl,rfl⟩
  have hF0:=World.cell?_setCell_same w1 ⟨w.heap.size,0,none⟩ (.int .i64 0) hE0
  have hF1:((w1.setCell ⟨w.heap.size,0,none⟩ (.int .i64 0)).setCell ⟨w.heap.size,1,none⟩ (.int .i64 0)).cell? ⟨w.heap.size,1,none⟩=some (.int .i64 0):=World.cell?_setCell_same _ _ _ ((World.cell?_setCell_other _ _ _ _ (by simp)).trans hE1)
  simp [Leaves,settle,results,Tryz.results48,go_sem,hF0,hF1]
  exact ⟨rfl,HFIN.out⟩
theorem put_sound (t:Tx) (hpr:t.pr=fun _ Q=>Q=[]):PutOk t 52:=by
 intro σ X w tk h _ _
 have hA:=h.alloc (.cells #[.int .u8 tk.k,.string tk.s,.int .i64 tk.n,.int .i64 tk.p] 91)
 have HA:Hid (TlR t { σ with ts:=σ.ts++[tk] } X (w.alloc (.cells #[.int .u8 tk.k,.string tk.s,.int .i64 tk.n,.int .i64 tk.p] 91))):=hidI (by
  obtain ⟨Q,hq,hr⟩:=hA.rows
  rw [hpr] at hq
  exact ⟨hA.below,⟨Q,by rw [hpr];exact hq,hr⟩,hA.kept⟩)
 clear h hA
 go_enter Tryz.func52,Tryz.ntmps52
 go_wp2
 go_end0
 exact ⟨rfl,HA.out⟩
theorem field196 (x y:Int) (u:World):(Instr.field 111 (.agg #[.int .i64 x,.int .i64 y]) 1).run Tryz.prog u=.ok (.int .i64 y) u:=by kernel_rfl
def sndT (w:World) (B:Nat) (p:PV):Tx:=⟨w,B,p,.func (.func 52) #[] #[],fun _ Q=>Q=[],[]⟩
set_option maxRecDepth 100000 in
set_option maxHeartbeats 1000000 in
theorem told_sound (p:PV) (da xa sa ma:Option Addr) (dn dc xn xc sn sc mn mc:Nat) (hd:p.dv=.slice da dn dc) (hx:p.xv=.slice xa xn xc) (hs:p.sv=.slice sa sn sc) (hm:p.mv=.slice ma mn mc) (w:World) (hL:Laid w) (hp:SeesPv w p) (ho:PrgOk p.prg) :
  Calls Tryz.prog 51 #[.agg #[.slice da dn dc,.slice xa xn xc,.slice sa sn sc,.slice ma mn mc],.func (.func 52) #[] #[]] w fun e w'=>e=.returned (.bool (soundP p.prg))∧Below w.heap.size w w':=by
 have hmf:∀ (fn:Go.Fn) (first cap:Array Value) (w:World),(Instr.makeFunc fn first cap).run Tryz.prog w=.ok (.func fn first cap) w:=fun _ _ _ _=>rfl
 have hk:(sndT w (w.heap.size+1) p).Ok 52:=⟨hL,hp,ho,rfl,rfl,fun K=>put_sound _ rfl⟩
 have HS:TlS (sndT w (w.heap.size+1) p) ts0 [] ((w.alloc (.cells #[.slice da dn dc,.slice xa xn xc,.slice sa sn sc,.slice ma mn mc] 47)).alloc (.cells #[.slice da dn dc,.slice xa xn xc,.slice sa sn sc,.slice ma mn mc,.int .i64 0,.int .i64 0,.int .i64 0,.int .i64 0,.func (.func 52) #[] #[]] 174)):=by
  have hb:Below w.heap.size w (w.alloc (.cells #[.slice da dn dc,.slice xa xn xc,.slice sa sn sc,.slice ma mn mc] 47)):=(Below.refl _ _).alloc (Nat.le_refl _) _
  refine ⟨⟨hb.alloc hb.size _,⟨[],rfl,?_⟩,fun x hx=>absurd hx (by simp [sndT])⟩,⟨by decide,by decide,by decide⟩⟩
  have h1:RowsP (w.alloc (.cells #[.slice da dn dc,.slice xa xn xc,.slice sa sn sc,.slice ma mn mc] 47)) w.heap.size []:=⟨fun r hr=>absurd hr (by simp),List.Pairwise.nil⟩
  have h2:=zcK (w.alloc (.cells #[.slice da dn dc,.slice xa xn xc,.slice sa sn sc,.slice ma mn mc] 47)) w.heap.size 174 9 #[.slice da dn dc,.slice xa xn xc,.slice sa sn sc,.slice ma mn mc,.int .i64 0,.int .i64 0,.int .i64 0,.int .i64 0,.func (.func 52) #[] #[]] hb.size rfl
  rw [World.size_alloc] at h2
  have e1:(tlBox (sndT w (w.heap.size+1) p) ts0)=⟨bx (w.heap.size+1),174,9,1,[.slice da dn dc,.slice xa xn xc,.slice sa sn sc,.slice ma mn mc,.int .i64 0,.int .i64 0,.int .i64 0,.int .i64 0,.func (.func 52) #[] #[]]⟩:=by
   simp [tlBox,sndT,ts0,hd,hx,hs,hm]
  rw [e1]
  exact h1.add (h1.alloc _) h2 (fun k hk=>by cases hk;simp)
 have C:=hidI (tcaught_any hk HS)
 have HS0:Hid (soundP p.prg=(tProg p.prg ts0).isSome):=hidI rfl
 have hP:(sndT w (w.heap.size+1) p).P.prg=p.prg:=rfl
 have hB:(sndT w (w.heap.size+1) p).B=w.heap.size+1:=rfl
 rw [hP,hB] at C
 cases hr:tProg p.prg ts0 with
 | none=>
  have HR:Hid (soundP p.prg=false):=hidI (by rw [HS0.out,hr];rfl)
  rw [hr] at C
  have hf3:=fun u=>field196 0 3 u
  have hf0:=fun u=>field196 0 0 u
  clear hr HS hk hp ho hd hx hs hm hP hB
  go_enter Tryz.func51,Tryz.ntmps51
  go_wp2_with (go_at_call 48;refine C.out.mono ?_;intro e w1 h1;obtain ⟨rfl,hb1⟩:=h1;clear C)
  go_ret
  rw [HR.out]
  exact ⟨rfl,hb1.below⟩
 | some σ1=>
  have HR:Hid (soundP p.prg=true):=hidI (by rw [HS0.out,hr];rfl)
  rw [hr] at C
  have hf3:=fun u=>field196 0 3 u
  have hf0:=fun u=>field196 0 0 u
  clear hr HS hk hp ho hd hx hs hm hP hB
  go_enter Tryz.func51,Tryz.ntmps51
  go_wp2_with (go_at_call 48;refine C.out.mono ?_;intro e w1 h1;obtain ⟨rfl,hb1⟩:=h1;clear C)
  go_ret
  rw [HR.out]
  exact ⟨rfl,hb1.r.below⟩
theorem sound_any (p:PV) (w:World) (hL:Laid w) (hp:SeesPv w p) (ho:PrgOk p.prg) :
  Calls Tryz.prog 31 #[.agg #[p.dv,p.xv,p.sv,p.mv]] w fun e w'=>e=.returned (.bool (soundP p.prg))∧Below w.heap.size w w':=by
 obtain ⟨_,da,dc,hd,_⟩:=id hp.d
 obtain ⟨_,xa,xc,hx,_⟩:=id hp.x
 obtain ⟨_,sa,sc,hs,_⟩:=id hp.s
 obtain ⟨_,ma,mc,hm,_⟩:=id hp.m
 have hb:Below w.heap.size w (w.alloc (.cells #[.slice da p.ds.length dc,.slice xa p.xs.length xc,.slice sa p.ss.length sc,.slice ma p.ms.length mc] 47)):=(Below.refl _ _).alloc (Nat.le_refl _) _
 have C:=hidI (told_sound p da xa sa ma _ dc _ xc _ sc _ mc hd hx hs hm _ (hL.on hb) (hp.below hb) ho)
 have HB:=hidI hb
 rw [hd,hx,hs,hm]
 clear hd hx hs hm hb hp ho hL
 go_enter Tryz.func31,Tryz.ntmps31
 go_wp2_with (go_at_call 51;refine C.out.mono ?_;intro e w1 h1;obtain ⟨rfl,hb1⟩:=h1;clear C)
 go_ret
 exact ⟨rfl,HB.out.trans (hb1.mono HB.out.size)⟩
set_option maxRecDepth 100000 in
set_option maxHeartbeats 4000000 in
theorem named_one {p:PV} {x:XV} {s:SV} (ho:One p x s) (hP:PrgOk p.prg) (hS:soundP p.prg=true) (w:World) (hL:Laid w) (hp:SeesPv w p) (F:Nat) (hF:F=39∨F=40) :
  Calls Tryz.prog 38 #[.agg #[p.dv,p.xv,p.sv,p.mv],.func (.func F) #[] #[]] w fun e w'=>∃ mb,e=.returned (.map (some mb))∧w.heap.size≤mb∧Below w.heap.size w w'∧MapK KK w' mb (oneD s.s.name 1):=by
 obtain ⟨_,da,dc,hd,_⟩:=id hp.d
 obtain ⟨_,xa,xc,hx,_⟩:=id hp.x
 obtain ⟨_,sa,sc,hs,_⟩:=id hp.s
 obtain ⟨_,ma,mc,hm,_⟩:=id hp.m
 obtain ⟨nd,hnd⟩:∃ nd,p.ds.length=nd:=⟨_,rfl⟩
 obtain ⟨nx,hnx⟩:∃ nx,p.xs.length=nx:=⟨_,rfl⟩
 obtain ⟨ns,hns⟩:∃ ns,p.ss.length=ns:=⟨_,rfl⟩
 obtain ⟨nm,hnm⟩:∃ nm,p.ms.length=nm:=⟨_,rfl⟩
 rw [hnd] at hd
 rw [hnx] at hx
 rw [hns] at hs
 rw [hnm] at hm
 obtain ⟨A1,hA1⟩:∃ A1,w.alloc (.cells #[.slice da nd dc,.slice xa nx xc,.slice sa ns sc,.slice ma nm mc] 47)=A1:=⟨_,rfl⟩
 obtain ⟨A2,hA2⟩:∃ A2,A1.alloc (.cells #[.func (.func F) #[] #[]] 83)=A2:=⟨_,rfl⟩
 obtain ⟨A3,hA3⟩:∃ A3,A2.alloc (.map #[] 0)=A3:=⟨_,rfl⟩
 obtain ⟨W,hW⟩:∃ W,A3.alloc (.cells #[.map (some (w.heap.size+2))] 54)=W:=⟨_,rfl⟩
 have z1:A1.heap.size=w.heap.size+1:=by rw [←hA1];simp
 have z2:A2.heap.size=w.heap.size+2:=by rw [←hA2];simp [z1]
 have z3:A3.heap.size=w.heap.size+3:=by rw [←hA3];simp [z2]
 have z4:W.heap.size=w.heap.size+4:=by rw [←hW];simp [z3]
 have b1:Below w.heap.size w A1:=hA1▸belowT
 have b2:Below A1.heap.size A1 A2:=hA2▸belowT
 have b3:Below A2.heap.size A2 A3:=hA3▸belowT
 have b4:Below A3.heap.size A3 W:=hW▸belowT
 have b34:=b3.trans (b4.mono b3.size)
 have b24:=b2.trans (b34.mono b2.size)
 have b0:=b1.trans (b24.mono b1.size)
 have hM3:MapK KK A3 (w.heap.size+2) (fun _=>none):=by
  have h:=mapK_made KK A2
  rw [z2,hA3] at h
  exact h
 have hM:MapK KK W (w.heap.size+2) (fun _=>none):=hM3.same (b4.block _ (by omega))
 have c0:∀ (j:Nat) (v:Value),#[Value.slice da nd dc,.slice xa nx xc,.slice sa ns sc,.slice ma nm mc][j]?=some v→W.cell? ⟨w.heap.size,j,none⟩=some v:=fun j v hj=>by
  refine zaJ b24 ?_
  rw [←hA1,cell_of_row _ w.heap.size j _ _ (0,0) (MapKept.heap_alloc w _).1]
  exact hj
 have c1:W.cell? ⟨w.heap.size+1,0,none⟩=some (.func (.func F) #[] #[]):=by
  refine zaJ b34 ?_
  rw [←hA2,←z1,cell_of_row _ A1.heap.size 0 _ _ (0,0) (MapKept.heap_alloc A1 _).1]
  rfl
 have c3:W.cell? ⟨w.heap.size+3,0,none⟩=some (.map (some (w.heap.size+2))):=by
  rw [←hW,←z3,cell_of_row _ A3.heap.size 0 _ _ (0,0) (MapKept.heap_alloc A3 _).1]
  rfl
 have C:=hidI (sound_any p W (hL.on b0) (hp.below b0) hP)
 rw [hS,hd,hx,hs,hm] at C
 have HW:=hidI hW
 have HA1:=hidI hA1
 have HA2:=hidI hA2
 have HA3:=hidI hA3
 have HC0:=hidI c0
 have HC1:=hidI c1
 have HC3:=hidI c3
 have HM:=hidI hM
 have HB:=hidI b0
 have HZ:=hidI z4
 have HP:=hidI hp
 have HO:=hidI ho
 have HD:=hidI hd
 have HX:=hidI hx
 have HS:=hidI hs
 have HMM:=hidI hm
 rw [hd,hx,hs,hm]
 have hmm:=@run_makeMap Tryz.prog
 clear hnd hnx hns hnm hd hx hs hm hW hA1 hA2 hA3 z1 z2 z3 z4 b0 b1 b2 b3 b4 b34 b24 hM3 hM c0 c1 c3 hL hp hP hS ho
 go_enter Tryz.func38,Tryz.ntmps38
 go_wp2_with (first|(go_at_call 31;rw [HA1.out,HA2.out,HA3.out,HW.out];refine C.out.mono ?_;intro e w1 h1;obtain ⟨rfl,hb1⟩:=h1;have HB1:=hidI hb1;have y0:=zaJ hb1 (HC0.out 0 _ rfl);have y1:=zaJ hb1 (HC0.out 1 _ rfl);have y2:=zaJ hb1 (HC0.out 2 _ rfl);have y3:=zaJ hb1 (HC0.out 3 _ rfl);clear hb1 C)|(go_at_call 64;have E:=eachNamed_one HO.out w1 F (w.heap.size+1) (w.heap.size+3) (w.heap.size+2) (HP.out.below (HB.out.trans (HB1.out.mono HB.out.size))) hF ⟨show w.heap.size+1≠w.heap.size+2 by omega,zaJ HB1.out HC1.out⟩ ⟨show w.heap.size+3≠w.heap.size+2 by omega,zaJ HB1.out HC3.out⟩ (HM.out.same (HB1.out.block _ (by have:=HZ.out;omega))) (by have:=HZ.out;have:=HB1.out.size;omega);rw [HD.out,HX.out,HS.out,HMM.out] at E;refine Calls.mono E ?_;clear E;intro e w2 h2;obtain ⟨rfl,hA⟩:=h2;have HA:=hidI hA;have y4:=(hA.cell ⟨show w.heap.size+3≠w.heap.size+2 by omega,zaJ HB1.out HC3.out⟩).at_;clear hA y0 y1 y2 y3;refine Hid.out ?_))
 refine hidI ?_
 go_wp2
 go_ret
 exact ⟨_,rfl,by omega,(HB.out.trans (HB1.out.mono HB.out.size)).trans (HA.out.b.mono (by omega)),HA.out.map⟩
open Go.ChangeMaps (setBlock heap_setBlock_same heap_setBlock_other)
def cntK (c:ByteArray × Nat→Nat):ByteArray × Nat→Option Value:=fun k=>if c k=0 then none else some (.int .i64 (c k:Int))
def incC (c:ByteArray × Nat→Nat) (k:ByteArray × Nat):ByteArray × Nat→Nat:=fun t=>if t=k then c t+1 else c t
theorem cntK_upd (c:ByteArray × Nat→Nat) (k:ByteArray × Nat):updKy (cntK c) k (.int .i64 ((c k+1:Nat):Int))=cntK (incC c k):=by
 funext t
 unfold updKy cntK incC
 by_cases e:t=k
 ·subst e;simp
 ·simp [e]
theorem cntK_one (nm:ByteArray) (sd:Nat):oneD nm sd=cntK (incC (fun _=>0) (nm,sd)):=by
 rw [←cntK_upd]
 unfold oneD cntK
 simp
theorem cntK_get (c:ByteArray × Nat→Nat) (k:ByteArray × Nat):(cntK c k).getD (.int .i64 0)=.int .i64 (c k:Int):=by
 unfold cntK
 split
 ·next h=>simp [h]
 ·rfl
def unN:Nat→Oper
 | 0=>⟨some 30,.move (.tmp 3),54, "scope.go:76",#[],none⟩
 | 1=>⟨some 31,.load 25 (.tmp 7),25, "scope.go:76",#[],none⟩
 | 2=>⟨some 32,.lookup 54 (.tmp 30) (.tmp 31) false,3, "scope.go:76",#[⟨0,.data⟩,⟨1,.data⟩],none⟩
 | 3=>⟨some 33,.binOp .add 3 (.tmp 32) (.const (.int .i64 1)) 3,3, "scope.go:76",#[⟨2,.data⟩],none⟩
 | 4=>⟨some 34,.mapEntry 54 (.tmp 30) (.tmp 31),0, "scope.go:76",#[⟨0,.data⟩,⟨1,.data⟩,⟨0,.phase⟩,⟨1,.phase⟩,{ on:=2,ground:=Go.Ground.textOnly Go.Departure.mapOpAssignEntry },{ on:=3,ground:=Go.Ground.textOnly Go.Departure.mapOpAssignEntry }],none⟩
 | 5=>⟨some 35,.extract (.tmp 34) 1,3, "scope.go:76",#[⟨4,.data⟩],none⟩
 | _=>⟨none,.entryStore 54 (.tmp 30) (.tmp 35) (.tmp 33),0, "scope.go:76",#[⟨0,.data⟩,⟨5,.data⟩,⟨3,.data⟩,⟨4,.chain⟩,⟨0,.phase⟩,⟨1,.phase⟩,⟨2,.phase⟩,⟨3,.phase⟩,⟨4,.phase⟩,⟨5,.phase⟩],none⟩
set_option maxRecDepth 100000 in
set_option maxHeartbeats 4000000 in
theorem regUn (w:World) (mb kb:Nat) (nm:ByteArray) (sd:Nat) (c:ByteArray × Nat→Nat) (hn:nm.size≤maxLen) (hsd:sd<256) (k m:Nat) (hk:c (nm,sd)=k) (hkm:k+1=m) (hc:k≤100000) (hM:MapK KK w mb (cntK c)) (hkb:kb≠mb) (h0:w.cell? ⟨kb,0,none⟩=some (.string nm)) (h1:w.cell? ⟨kb,1,none⟩=some (.int .u8 (sd:Int)))
  {Q:Exit→Act→World→Prop} {x0 x1 x2 x4 x5 x6 x8 x9 x10 x11 x12 x13 x14 x15 x16 x17 x18 x19 x20 x21 x22 x23 x24 x25 x26 x27 x28 x29 x30 x31 x32 x33 x34 x35 x36 x37:Value} {ri:Nat}
  (h:∀ (st:Nat) (y:World),Aft w mb (cntK (incC c (nm,sd))) y→Q .normal ⟨#[x0,x1,x2,.map (some mb),x4,x5,x6,.pointer (some ⟨kb,0,none⟩),x8,x9,x10,x11,x12,x13,x14,x15,x16,x17,x18,x19,x20,x21,x22,x23,x24,x25,x26,x27,x28,x29,.map (some mb),ke nm sd,.int .i64 (k:Int),.int .i64 (m:Int),.tuple #[.int .i64 (k:Int),goInt st],goInt st,x36,x37],[]⟩ y) :
  (Code.region ri (opsA unN 6) true).wp Tryz.prog Q ⟨#[x0,x1,x2,.map (some mb),x4,x5,x6,.pointer (some ⟨kb,0,none⟩),x8,x9,x10,x11,x12,x13,x14,x15,x16,x17,x18,x19,x20,x21,x22,x23,x24,x25,x26,x27,x28,x29,x30,x31,x32,x33,x34,x35,x36,x37],[]⟩ w:=by
 have hok:KK.ok (nm,sd):=⟨hn,hsd⟩
 obtain ⟨st,o1,hme,hm1,hst⟩:=entryK underKM zeroInt hM hok
 rw [cntK_get,hk] at hme hm1
 obtain ⟨esV,clV,hbV,_⟩:=id hM
 obtain ⟨es1,cl1,rfl⟩:∃ es1 cl1,o1=.map es1 cl1:=by
  obtain ⟨es,cl,h,_⟩:=hm1 (setBlock w mb o1) (heap_setBlock_same hbV _)
  rw [heap_setBlock_same hbV] at h
  exact ⟨es,cl,Option.some.inj h⟩
 obtain ⟨o2,hs2,hm2⟩:=hst (.int .i64 (m:Int))
 rw [←hkm,←hk,cntK_upd] at hm2
 have hlk:∀ (l:Array Bool) (y:World),l.size=7→DS 4 w w mb (.map es1 cl1) l y→(Instr.lookup 54 (.map (some mb)) (ke nm sd) false).run Tryz.prog y=.ok (.int .i64 (k:Int)) y:=fun l y hl hy=>by
  have h4:l[4]?=some true∨l[4]?=some false:=by
   rw [Array.getElem?_eq_getElem (by omega)]
   cases l[4]<;>simp
  rcases h4 with h4|h4
  ·have h:=lookK underKM zeroInt (hm1 y (hy.new h4)) hok false
   simp [updKy] at h
   exact h
  ·have h:=lookK underKM zeroInt (hM.same (hy.old h4)) hok false
   rw [cntK_get,hk] at h
   exact h
 have hme:∀ u:World,u.heap[mb]?=w.heap[mb]?→(Instr.mapEntry 54 (.map (some mb)) (ke nm sd)).run Tryz.prog u=.ok (.tuple #[.int .i64 (k:Int),goInt st]) (setBlock u mb (.map es1 cl1)):=hme
 have hds:DS 4 w w mb (.map es1 cl1) (Array.replicate 7 false) w.drew:=⟨(Below.refl _ _).drew,Nat.le_refl _,fun _ _ _=>rfl,fun _=>rfl,fun e=>(by rw [Array.getElem?_replicate] at e;simp at e),⟨esV,clV,hbV⟩⟩
 clear hm1 hst hbV hM hok hn
 refine zbR unN (fun j0=>match j0 with|0=>.map (some mb)|1=>ke nm sd|2=>.int .i64 (k:Int)|3=>.int .i64 (m:Int)|4=>.tuple #[.int .i64 (k:Int),goInt st]|5=>goInt st|_=>undef) (DS 4 w w mb (.map es1 cl1)) 6 Tryz.mixed (by kernel_rfl) (by kernel_rfl) hds ?_ ?_
 ·intro i9 hi9 a9 w9 l9 hF9 hL9 hl9 hA9 hS9 K9 hK9
  have hc9:i9=0∨i9=1∨i9=2∨i9=3∨i9=4∨i9=5:=by omega
  clear hi9
  rcases hc9 with rfl|rfl|rfl|rfl|rfl|rfl
  ·have e3:=hF9.od 3 (v:=.map (some mb)) rfl
   refine zaW rfl ?_ (hK9 _ (hS9.keep (by decide)))
   clear hF9 hA9
   simp only [unN,execOp,e3]
   first|done|(go_simp<;>omega)
  ·have e7:=hF9.od 7 (v:=.pointer (some ⟨kb,0,none⟩)) rfl
   have q0:=hS9.cell (q:=⟨kb,0,none⟩) hkb h0
   have q1:=hS9.cell (q:=⟨kb,1,none⟩) hkb h1
   refine zaW rfl ?_ (hK9 _ (hS9.keep (by decide)))
   clear hF9 hA9
   simp only [unN,execOp,e7]
   first|done|(go_simp<;>omega)
  ·have e30:=hF9.ev 0 30
   have e31:=hF9.ev 1 31
   have hlk:=hlk l9 w9 hL9 hS9
   refine zaW rfl ?_ (hK9 _ (hS9.keep (by decide)))
   clear hF9 hA9
   simp only [unN,execOp,e30,e31]
   first|done|(go_simp<;>omega)
  ·have e32:=hF9.ev 2 32
   have hw1:IntKind.i64.wrap 1=1:=by decide
   have hw2:IntKind.i64.wrap ((k:Int)+1)=(m:Int):=by
    rw [show (k:Int)+1=(m:Int) by omega,IntKind.wrap_i64]
    omega
   refine zaW rfl ?_ (hK9 _ (hS9.keep (by decide)))
   clear hF9 hA9
   simp only [unN,execOp,e32]
   first|done|(go_simp<;>omega)
  ·have e30:=hF9.ev 0 30
   have e31:=hF9.ev 1 31
   rw [if_pos (zaD rfl)]
   unfold Oper.wp
   have hr9:(execOp a9.eval (unN 4)).run Tryz.prog w9=.ok (.value (.tuple #[.int .i64 (k:Int),goInt st])) (setBlock w9 mb (.map es1 cl1)):=by
    simp only [unN,execOp,e30,e31]
    have hme9:=hme w9 (hS9.old hl9)
    rw [Sem.run_bind,hme9]
    rfl
   rw [hr9,Oper.upon_value]
   exact hK9 _ (hS9.entry hl9)
  ·have e34:=hF9.ev 4 34
   refine zaW rfl ?_ (hK9 _ (hS9.keep (by decide)))
   clear hF9 hA9
   simp only [unN,execOp,e34]
   first|done|(go_simp<;>omega)
 ·intro w9 l9 hall9 hS9 K9 hK9
  simp only [putA,unN]
  rw [if_pos (zaD rfl)]
  unfold Oper.wp
  have hst:(Instr.entryStore 54 (.map (some mb)) (.int .i64 (st:Int)) (.int .i64 (m:Int))).run Tryz.prog w9=.ok () (setBlock w9 mb o2):=hs2 w9 (hS9.new (hall9 4 (by decide)))
  go_simp
  refine hK9 _ _ ?_
  have hS:=hS9.last (o2:=o2)
  exact h st _ ⟨hS.b,hS.far,hm2 _ hS.at_⟩
set_option maxRecDepth 100000 in
set_option maxHeartbeats 4000000 in
theorem used_one {p:PV} {x:XV} {s:SV} (ho:One p x s) (hP:PrgOk p.prg) (hS:soundP p.prg=true) (w:World) (hL:Laid w) (hp:SeesPv w p) :
  Calls Tryz.prog 24 #[.agg #[p.dv,p.xv,p.sv,p.mv]] w fun e w'=>∃ v,e=.returned v∧SeesC w' v 1 2 [.string s.s.name,.int .u8 ((1:Nat):Int)]∧Below w.heap.size w w':=by
 obtain ⟨_,da,dc,hd,_⟩:=id hp.d
 obtain ⟨_,xa,xc,hx,_⟩:=id hp.x
 obtain ⟨_,sa,sc,hs,_⟩:=id hp.s
 obtain ⟨_,ma,mc,hm,_⟩:=id hp.m
 obtain ⟨nd,hnd⟩:∃ nd,p.ds.length=nd:=⟨_,rfl⟩
 obtain ⟨nx,hnx⟩:∃ nx,p.xs.length=nx:=⟨_,rfl⟩
 obtain ⟨ns,hns⟩:∃ ns,p.ss.length=ns:=⟨_,rfl⟩
 obtain ⟨nm,hnm⟩:∃ nm,p.ms.length=nm:=⟨_,rfl⟩
 rw [hnd] at hd
 rw [hnx] at hx
 rw [hns] at hs
 rw [hnm] at hm
 obtain ⟨W,hW⟩:∃ W,w.alloc (.cells #[.slice da nd dc,.slice xa nx xc,.slice sa ns sc,.slice ma nm mc] 47)=W:=⟨_,rfl⟩
 have b0:Below w.heap.size w W:=hW▸belowT
 have C:=hidI (named_one ho hP hS W (hL.on b0) (hp.below b0) 39 (.inl rfl))
 rw [hd,hx,hs,hm] at C
 rw [hd,hx,hs,hm]
 have HW:=hidI hW
 have HB:=hidI b0
 clear hnd hnx hns hnm hd hx hs hm hW b0 hL hp hP hS ho
 go_enter Tryz.func24,Tryz.ntmps24
 go_wp2_with (first|(go_at_call 38;rw [HW.out];refine C.out.mono ?_;intro e w1 h1;obtain ⟨mb,rfl,hmb,hb1,hM1⟩:=h1;have HB1:=hidI hb1;have C2:=hidI (sorted_one w1 mb _ 1 hM1);clear hM1 hmb hb1 C)|(go_at_call 37;refine C2.out.mono ?_;intro e w2 h2;obtain ⟨v,rfl,hv,hb2⟩:=h2;have HB2:=hidI hb2;have HV:=hidI hv;clear hb2 hv C2))
 go_ret
 exact ⟨_,rfl,HV.out,(HB.out.trans (HB1.out.mono HB.out.size)).trans (HB2.out.mono (HB.out.trans (HB1.out.mono HB.out.size)).size)⟩
def flatKs (l:List (ByteArray × Nat)):List Value:=l.flatMap fun k=>[.string k.1,.int .u8 (k.2:Int)]
theorem flatKs_add (l:List (ByteArray × Nat)) (nm:ByteArray) (sd:Nat):flatKs (l++[(nm,sd)])=flatKs l++[.string nm,.int .u8 (sd:Int)]:=by simp [flatKs]
def unK:List Dcl→(ByteArray × Nat→Nat)→List (ByteArray × Nat)
 | [],_=>[]
 | d::r,c=>(if c (d.name,d.side)=0 then [(d.name,d.side)] else [])++unK r (incC c (d.name,d.side))
set_option maxRecDepth 100000 in
set_option maxHeartbeats 8000000 in
theorem unused_one {p:PV} {x:XV} {s:SV} (ho:One p x s) (hP:PrgOk p.prg) (hS:soundP p.prg=true) (w:World) (hL:Laid w) (hp:SeesPv w p) (hl:p.ds.length≤1000) (hn:∀ d∈p.ds,d.name.size≤140737488355328∧d.side<256) (R:List (ByteArray × Nat)) (hR:unK p.ds (incC (fun _=>0) (s.s.name,1))=R) :
  Calls Tryz.prog 25 #[.agg #[p.dv,p.xv,p.sv,p.mv]] w fun e w'=>∃ v,e=.returned v∧SeesC w' v R.length 2 (flatKs R)∧Below w.heap.size w w':=by
 have hv:SeesD w p.dv p.ds:=hp.d
 obtain ⟨_,da,dc,hd,_⟩:=id hp.d
 obtain ⟨_,xa,xc,hx,_⟩:=id hp.x
 obtain ⟨_,sa,sc,hs,_⟩:=id hp.s
 obtain ⟨_,ma,mc,hm,_⟩:=id hp.m
 obtain ⟨n,hlen⟩:∃ n,p.ds.length=n:=⟨_,rfl⟩
 obtain ⟨nx,hnx⟩:∃ nx,p.xs.length=nx:=⟨_,rfl⟩
 obtain ⟨ns,hns⟩:∃ ns,p.ss.length=ns:=⟨_,rfl⟩
 obtain ⟨nm0,hnm⟩:∃ nm0,p.ms.length=nm0:=⟨_,rfl⟩
 obtain ⟨ds,hds⟩:∃ ds,p.ds=ds:=⟨_,rfl⟩
 rw [hlen] at hd
 rw [hnx] at hx
 rw [hns] at hs
 rw [hnm] at hm
 obtain ⟨W,hW⟩:∃ W,w.alloc (.cells #[.slice da n dc,.slice xa nx xc,.slice sa ns sc,.slice ma nm0 mc] 47)=W:=⟨_,rfl⟩
 have b0:Below w.heap.size w W:=hW▸belowT
 have c0:∀ (j:Nat) (v:Value),#[Value.slice da n dc,.slice xa nx xc,.slice sa ns sc,.slice ma nm0 mc][j]?=some v→W.cell? ⟨w.heap.size,j,none⟩=some v:=fun j v hj=>by
  rw [←hW,cell_of_row _ w.heap.size j _ _ (0,0) (MapKept.heap_alloc w _).1]
  exact hj
 have C:=hidI (sound_any p W (hL.on b0) (hp.below b0) hP)
 have C2:Hid (∀ w1,Below W.heap.size W w1→Calls Tryz.prog 38 #[.agg #[p.dv,p.xv,p.sv,p.mv],.func (.func 40) #[] #[]] w1 fun e w'=>∃ mb,e=.returned (.map (some mb))∧w1.heap.size≤mb∧Below w1.heap.size w1 w'∧MapK KK w' mb (oneD s.s.name 1)):=hidI (fun w1 h1=>named_one ho hP hS w1 ((hL.on b0).on h1) ((hp.below b0).below h1) 40 (.inr rfl))
 rw [hS,hd,hx,hs,hm] at C
 rw [hd,hx,hs,hm] at C2
 rw [hd] at hv
 rw [hd,hx,hs,hm]
 rw [hds] at hl hn hR hlen hv
 have HR:Hid ([]++unK (ds.drop 0) (incC (fun _=>0) (s.s.name,1))=R):=hidI (by simpa using hR)
 have HV:=hidI hv
 have HN:=hidI hlen
 have HNM:=hidI hn
 have HW:=hidI hW
 have HB:=hidI b0
 have HC0:=hidI c0
 rw [hlen] at hl
 clear hnx hns hnm hd hx hs hm hW b0 hL hp hP hS ho hv hR hn hlen c0 hds
 go_enter Tryz.func25,Tryz.ntmps25
 go_wp2_with (first|(go_at_call 31;rw [HW.out];refine C.out.mono ?_;intro e w1 h1;obtain ⟨rfl,hb1⟩:=h1;have HB1:=hidI hb1;have y0:=zaJ hb1 (HC0.out 0 _ rfl);have y1:=zaJ hb1 (HC0.out 1 _ rfl);have y2:=zaJ hb1 (HC0.out 2 _ rfl);have y3:=zaJ hb1 (HC0.out 3 _ rfl);clear hb1 C)|(go_at_call 38;refine (C2.out w1 HB1.out).mono ?_;intro e w2 h2;obtain ⟨mb,rfl,hmb,hb2,hM2⟩:=h2;have HB2:=hidI hb2;have HM2:=hidI hM2;have HMB:=hidI hmb;have y4:=zaJ hb2 y0;clear hb2 hM2 hmb y0 y1 y2 y3 C2))
 have HBT:Hid (Below w.heap.size w w2):=hidI ((HB.out.trans (HB1.out.mono HB.out.size)).trans (HB2.out.mono (HB.out.trans (HB1.out.mono HB.out.size)).size))
 have HWM:Hid (w.heap.size≤mb):=hidI (Nat.le_trans (HB.out.trans (HB1.out.mono HB.out.size)).size HMB.out)
 have hm0:=HM2.out.lt
 have HCB:Hid (∀ k,incC (fun _=>0) (s.s.name,1) k≤0+1):=hidI (fun k=>by unfold incC;split<;>simp)
 have HM0:Hid (MapK KK w2 mb (cntK (incC (fun _=>0) (s.s.name,1)))):=hidI (cntK_one s.s.name 1▸HM2.out)
 have HO0:Hid (w2.ownsRow (mb+1) 25 2 (.slice none 0 0) ([]:List (ByteArray × Nat)).length (flatKs [])):=hidI (World.ownsRow_nil _ _ _ _)
 clear HM2 HMB HB2 HB1 HB HW HC0
 go_loopg [4,16] n (fun g s4 s16 wx=>∃ (j:Nat) (kv:Value) (c:ByteArray × Nat→Nat) (done:List (ByteArray × Nat)),j+g=n∧kv=s4∧s16=.int .i64 (j:Int)∧done.length≤j∧Hid (done++unK (ds.drop j) c=R)∧Hid (∀ k,c k≤j+1)∧Hid (MapK KK wx mb (cntK c))∧Hid (wx.ownsRow (mb+1) 25 2 kv done.length (flatKs done))∧Hid (Below w.heap.size w wx))
 case atStart=>exact ⟨0,_,_,[],by omega,rfl,rfl,by simp,HR,HCB,HM0,HO0,HBT⟩
 case round=>
  clear HM0 HO0 HBT HR HCB y4
  obtain ⟨j,kv,c,done,hj,rfl,rfl,hdl,HX,HCB,HMP,HO0,HBW⟩:=hrel
  cases gk with
  | zero=>
   obtain rfl:n=j:=by omega
   have k1:decide ((n:Int)<(n:Int))=false:=by simp
   have hX:=HX.out
   rw [List.drop_eq_nil_of_le (by have:=HN.out;omega)] at hX
   have HR2:Hid (done=R):=hidI (by simpa [unK] using hX)
   have HS:=hidI (zaS HO0.out)
   clear hX HX HMP HO0 HCB
   go_wp2
   go_ret
   exact ⟨_,rfl,by rw [←HR2.out];exact HS.out,HBW.out⟩
  | succ g=>
   have k1:(j:Int)<(n:Int):=by omega
   obtain ⟨d,hd⟩:∃ d,ds[j]?=some d:=⟨_,List.getElem?_eq_getElem (by have:=HN.out;omega)⟩
   obtain ⟨db,do',cap2,hvd,y0,y1,y2⟩:=(HV.out).cell hd
   obtain ⟨rfl,rfl⟩:da=some ⟨db,do',none⟩∧dc=cap2:=by cases hvd;exact ⟨rfl,rfl⟩
   obtain ⟨hsz,hsd⟩:=HNM.out d (List.mem_of_getElem? hd)
   have x0:=zaJ HBW.out y0
   have x1:=zaJ HBW.out y1
   have x2:=zaJ HBW.out y2
   have hX:=HX.out
   rw [List.drop_eq_getElem_cons (by have:=HN.out;omega),show ds[j]'(by have:=HN.out;omega)=d from Option.some.inj ((List.getElem?_eq_getElem _).symm.trans hd)] at hX
   unfold unK at hX
   obtain ⟨nm,sd,kd⟩:=d
   simp only at hsz hsd y0 y1 y2 x0 x1 x2 hX
   have HSZ:=hidI hsz
   have HSD:=hidI hsd
   have HXX:=hidI hX
   clear hX HX hd hvd y0 y1 y2 hsz hsd
   have hbV:Below wr.heap.size wr (wr.alloc (.cells #[.string nm,.int .u8 (sd:Int),.int .u8 (kd:Int)] 56)):=(Below.refl _ _).alloc (Nat.le_refl _) _
   obtain ⟨V1,hV1⟩:∃ V1,wr.alloc (.cells #[.string nm,.int .u8 (sd:Int),.int .u8 (kd:Int)] 56)=V1:=⟨_,rfl⟩
   have HV1E:=hidI hV1
   rw [hV1] at hbV
   have HC0:=hidI hbV
   have hml:=HMP.out.lt
   clear hV1 hbV
   go_wp2_with (go_at_call 22;refine Calls.mono (keyOf_any nm sd kd HSZ.out _) ?_;intro e w3 h3;obtain ⟨rfl,hb3⟩:=h3;have hb3:Below V1.heap.size V1 w3:=HV1E.out▸hb3;have HC3:=hidI (HC0.out.trans (hb3.mono HC0.out.size));clear hb3;refine Hid.out ?_)
   have hz3:=HC3.out.size
   have HM3:=hidI (HMP.out.same (HC3.out.block _ hml))
   have HO3:=hidI (zbQ HO0.out HC3.out (Nat.le_refl _))
   have hok:KK.ok (nm,sd):=⟨by have:=HSZ.out;show nm.size≤maxLen;unfold maxLen;omega,HSD.out⟩
   obtain ⟨V,hV⟩:∃ V,w3.alloc (.cells #[.string nm,.int .u8 (sd:Int)] 25)=V:=⟨_,rfl⟩
   have hb3:Below w3.heap.size w3 V:=hV▸belowT
   have hzV:=hb3.size
   have HBV:=hidI ((HBW.out.trans (HC3.out.mono HBW.out.size)).trans (hb3.mono (HBW.out.trans (HC3.out.mono HBW.out.size)).size))
   have HMV:=hidI (HM3.out.same (hb3.block _ (by omega)))
   have HOV:=hidI (zbQ HO3.out hb3 (Nat.le_refl _))
   have hAK:=AtBd.new w3 25 #[.string nm,.int .u8 (sd:Int)]
   rw [hV] at hAK
   have HV0:=hidI (hAK 0 _ rfl)
   have HV1:=hidI (hAK 1 _ rfl)
   have HVV:=hidI hV
   have HKB:Hid (mb<w3.heap.size):=hidI (by omega)
   have HOL:Hid (∀ k,kv.ownBlock=some k→k<w3.heap.size):=hidI (fun k hk=>by have:=(HO3.out.lt k hk).2;omega)
   have hzv:V.heap.size=w3.heap.size+1:=by rw [←hV];simp
   clear hAK hb3 HM3 HO3 HMP HO0 HC3 HC0 hV hml hz3 hzV
   obtain ⟨k0,hk0⟩:∃ k0,c (nm,sd)=k0:=⟨_,rfl⟩
   have hkb:k0≤j+1:=hk0▸HCB.out (nm,sd)
   have HK0:=hidI hk0
   have hCB2:Hid (∀ k,incC c (nm,sd) k≤j+1+1):=hidI (fun k=>by have:=HCB.out k;unfold incC;split<;>omega)
   have hlk:(Instr.lookup 54 (.map (some mb)) (ke nm sd) false).run Tryz.prog V=.ok (.int .i64 (k0:Int)) V:=by
    have h:=lookK underKM zeroInt HMV.out hok false
    rw [cntK_get,hk0] at h
    exact h
   rw [←HVV.out] at hlk
   clear HCB hk0
   refine hidI ?_
   by_cases hz:k0=0
   ·subst hz
    have HXY:Hid ((done++[(nm,sd)])++unK (ds.drop (j+1)) (incC c (nm,sd))=R):=hidI (by have:=HXX.out;rw [if_pos HK0.out] at this;rw [←this];simp)
    have hOA:=World.ownsRow.alloc HOV.out (.cells #[.string nm,.int .u8 (sd:Int)] 25)
    have hVS:=zbT V 25 2 #[.string nm,.int .u8 (sd:Int)] rfl
    have HZV:=hidI hzv
    have HDL:=hidI hdl
    rw [hzv] at hVS
    rw [←HVV.out] at hOA hVS
    have HOA:=hidI hOA
    have HVS:=hidI hVS
    clear hOA hVS HXX
    go_wp2_with (at_builtin;go_must (refine zbF Tryz.underlying27 infoKey rfl (by decide) (by decide) rfl _ _ rfl (mb+1) kv done.length (flatKs done) rfl HOA.out _ 1 [.string nm,.int .u8 (sd:Int)] rfl HVS.out (by simp [Value.oneCell']) (by omega) (by simp;have:=HKB.out;omega) ?_);intro v9 w9 hown9 hgrow9 hat9;refine Hid.out ?_)
    have HB9:Hid (Below w.heap.size w w9):=hidI (by
     have h0:=HBV.out.alloc HBV.out.size (.cells #[.string nm,.int .u8 (sd:Int)] 25)
     rw [←HVV.out] at h0
     exact h0.grown hgrow9 h0.size (fun k hk=>by have:=(HOA.out.lt k hk).1;have:=HWM.out;omega))
    have hkk:∀ b,b<V.heap.size→kv.ownBlock≠some b→w9.heap[b]?=V.heap[b]?:=fun b hb hne=>by
     refine (hgrow9.block b (by rw [HVV.out];simp;omega) (fun e=>hne e.symm)).trans ?_
     rw [HVV.out]
     exact Below.heap_alloc _ _ _ hb
    have hnk:kv.ownBlock≠some w3.heap.size:=fun e=>by have:=HOL.out _ e;omega
    have hnm:kv.ownBlock≠some mb:=fun e=>by have:=(HOV.out.lt mb e).1;omega
    have h0:w9.cell? ⟨w3.heap.size,0,none⟩=some (.string nm):=(World.cell?_of_block (hkk w3.heap.size (by have:=HZV.out;omega) hnk)).trans HV0.out
    have h1:w9.cell? ⟨w3.heap.size,1,none⟩=some (.int .u8 (sd:Int)):=(World.cell?_of_block (hkk w3.heap.size (by have:=HZV.out;omega) hnk)).trans HV1.out
    have HM9:=hidI (HMV.out.same (hkk mb HMV.out.lt hnm))
    have HO9:=hidI hown9
    have HH0:=hidI h0
    have HH1:=hidI h1
    clear hown9 hgrow9 hat9 HOA HVS HBV hkk hnk hnm h0 h1
    refine hidI ?_
    go_wp2
    refine regUn w9 mb w3.heap.size nm sd c hok.1 HSD.out 0 1 HK0.out rfl (by omega) HM9.out (by have:=HKB.out;omega) HH0.out HH1.out (fun st y hA => ?_)
    have HO10:Hid (y.ownsRow (mb+1) 25 2 v9 (done++[(nm,sd)]).length (flatKs (done++[(nm,sd)]))):=hidI (by
     rw [flatKs_add,List.length_append]
     exact own_of_heap HO9.out fun k hk hlt=>hA.far k (by omega) hlt)
    have HB10:Hid (Below w.heap.size w y):=hidI (HB9.out.trans (hA.b.mono HWM.out))
    have HM10:=hidI hA.map
    clear hA hlk
    go_wp2
    go_roundg g
    case measure=>omega
    case rel=>exact ⟨j+1,v9,incC c (nm,sd),done++[(nm,sd)],by omega,rfl,by go_num,by rw [List.length_append];have:=HDL.out;simp;omega,HXY,hCB2,HM10,HO10,HB10⟩
   ·have HXY:Hid (done++unK (ds.drop (j+1)) (incC c (nm,sd))=R):=hidI (by have:=HXX.out;rw [if_neg (by rw [HK0.out];exact hz)] at this;simpa using this)
    have e1:((k0:Int)==0)=false:=by rw [beq_eq_false_iff_ne];omega
    clear HXX
    go_wp2
    rw [HVV.out]
    refine regUn V mb w3.heap.size nm sd c hok.1 HSD.out k0 (k0+1) HK0.out rfl (by omega) HMV.out (by have:=HKB.out;omega) HV0.out HV1.out (fun st y hA => ?_)
    have HO9:Hid (y.ownsRow (mb+1) 25 2 kv done.length (flatKs done)):=hidI (own_of_heap HOV.out fun k hk hlt=>hA.far k (by omega) hlt)
    have HB9:Hid (Below w.heap.size w y):=hidI (HBV.out.trans (hA.b.mono HWM.out))
    have HM9:=hidI hA.map
    clear hA hlk
    go_wp2
    go_roundg g
    case measure=>omega
    case rel=>exact ⟨j+1,kv,incC c (nm,sd),done,by omega,rfl,by go_num,by omega,HXY,hCB2,HM9,HO9,HB9⟩
end Go.Proofs.YtmekkhfohmfjkaaGreatDoor
