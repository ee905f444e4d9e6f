/-
  Part 29 of the proof: PRead, Wide, RegW.
-/
import Derived.Test.YtmekkhfohmfjkaaGreatDoorSd28
import Derived.Test.YtmekkhfohmfjkaaGreatDoorProg
import Derived.OrdersHeld
import Derived.Deep.RegionHeld3
import Derived.Test.YtmekkhfohmfjkaaGreatDoorSd04
import Derived.Test.YtmekkhfohmfjkaaGreatDoorSd07
namespace Go.Proofs.YtmekkhfohmfjkaaGreatDoor
open Go.RowKit Go.Deep Go.MapKept
def pv0:PV:=⟨[],[],[],[],.slice none 0 0,.slice none 0 0,.slice none 0 0,.slice none 0 0⟩
def OwnP (w:World) (base:Nat) (p:PV):Prop:=RowsP w base (dRow p::xRow p::sRow p::mRow p::(p.xs.map kRow++p.ss.flatMap sRows))
abbrev pval (p:PV):Value:=.agg #[p.dv,p.xv,p.sv,p.mv]
def ReadPost (P:Prg) (w:World) (e:Ending) (w':World):Prop:=∃ p',p'.prg=P∧e=.returned (.tuple #[pval p',.int .i64 0,.int .i64 0])∧OwnP w' w.heap.size p'∧Below w.heap.size w w'
theorem RdS.start (w0:World) (vo:Voc) (fv:Value) (fs:List FV) (sz:Nat→Nat):RdS ⟨w0,w0.heap.size,vo,fv,fs,sz⟩ pv0 [] (w0.alloc (.cells #[.map (some vo.d),.map (some vo.s),.map (some vo.a),.map (some vo.x),.map (some vo.o),fv,.slice none 0 0,.slice none 0 0,.slice none 0 0,.slice none 0 0] 109)):=by
 refine ⟨(Below.refl _ _).alloc (Nat.le_refl _) _,?_⟩
 have h0:RowsP (w0.alloc (.cells #[.map (some vo.d),.map (some vo.s),.map (some vo.a),.map (some vo.x),.map (some vo.o),fv,.slice none 0 0,.slice none 0 0,.slice none 0 0,.slice none 0 0] 109)) w0.heap.size []:=⟨fun r hr=>by simp at hr,List.Pairwise.nil⟩
 have h1:=(((h0.nil 3 1).nil 78 8).nil 190 6).nil 56 3
 have hb:=zcK w0 w0.heap.size 109 10 #[.map (some vo.d),.map (some vo.s),.map (some vo.a),.map (some vo.x),.map (some vo.o),fv,.slice none 0 0,.slice none 0 0,.slice none 0 0,.slice none 0 0] (Nat.le_refl _) rfl
 refine ⟨fun r hr => ?_,List.pairwise_cons.2 ⟨fun r hr => ?_,h1.apart⟩⟩
 ·rcases List.mem_cons.1 hr with rfl|hr
  ·exact hb
  ·exact h1.own r hr
 ·refine Ap.symm (.inl ?_)
  have hr2:r∈[dRow pv0,xRow pv0,sRow pv0,mRow pv0]:=hr
  simp only [List.mem_cons,List.not_mem_nil,or_false] at hr2
  rcases hr2 with rfl|rfl|rfl|rfl<;>rfl
theorem RowsP.base {w:World} {b b':Nat} {l:List Rw} (h:RowsP w b l) (hb:b'≤b):RowsP w b' l:=
 ⟨fun r hr=>by
  have ho:=h.own r hr
  refine ⟨ho.1,?_⟩
  rcases ho.2 with h0|⟨g,cap,cur,e,hg,rest⟩
  ·exact .inl h0
  ·exact .inr ⟨g,cap,cur,e,by omega,rest⟩,h.apart⟩
theorem results_ctt {fn:Func} {p q r:Tmp} {ty:TypeId} (h:fn.results=#[.cell p ty,.tmp q,.tmp r]) (tmps:Array Value) (P:Program) (w:World) :
  (results fn tmps).run P w=((asAddr (tmps.getD p undef)).run P w).andThen fun a w₁=>((loadVar ty a).run P w₁).andThen fun v w₂=>.ok (.tuple #[v,tmps.getD q undef,tmps.getD r undef]) w₂:=by
 simp only [results,h]
 simp [Sem.run_bind,Result.andThen]
set_option maxHeartbeats 4000000 in
theorem read_ok {w:World} {fv tv:Value} {fs:List FV} {ts:List Nat} {sz:Nat→Nat} {P:Prg} (hL:Laid w)
  (hrow:SeesC w fv fs.length 5 (flatF fs)) (hkid:∀ (i:Nat) (x:FV),fs[i]?=some x→SeesC w x.2 x.1.kids.length 1 (ints x.1.kids)∧Roomy x.2) (hlen:fs.length≤400) (hkl:∀ (i:Nat) (x:FV),fs[i]?=some x→∀ k∈x.1.kids,i<k∧k<fs.length) (hkn:∀ (i:Nat) (x:FV),fs[i]?=some x→x.1.kids.length≤400) (htx:∀ (i:Nat) (x:FV),fs[i]?=some x→x.1.s.size≤140737488355328) (hsz:∀ (i:Nat) (x:FV),fs[i]?=some x→1+(x.1.kids.map sz).sum≤sz i)
  (ht:SeesC w tv ts.length 1 (ints ts)) (htl:ts.length≤400) (hlt:∀ k∈ts,k<fs.length) (htz:(ts.map sz).sum≤1000)
  (HR:∀ W,Below w.heap.size w W→Calls Tryz.prog 46 #[fv,tv] W fun e w'=>e=.returned (.bool true)∧Below W.heap.size W w')
  (hP:pTop (fs.map Prod.fst) ts prg0=.ok P) (hD:P.decls.length≤24) :
  Calls Tryz.prog 30 #[fv,tv] w (ReadPost P w):=by
 obtain ⟨_,ta,tc,rfl,_⟩:=id ht
 obtain ⟨_,fa,fc,rfl,_⟩:=id hrow
 have hmf:∀ (fn:Go.Fn) (first cap:Array Value) (w:World),(Instr.makeFunc fn first cap).run Tryz.prog w=.ok (.func fn first cap) w:=fun _ _ _ _=>rfl
 have CR:=hidI HR
 have CW:=hidI (fun W=>words_any W)
 have HROW:=hidI hrow
 have HKID:=hidI hkid
 have HT:=hidI ht
 have HL:=hidI hL
 have HPP:=hidI hP
 have HOK:Hid (∀ (W:World) (vo:Voc),Below w.heap.size w W→IsVoc W vo (decF 6)→Cx.Ok ⟨W,W.heap.size,vo,.slice fa fs.length fc,fs,sz⟩):=hidI (fun W vo hb hv=>⟨HROW.out.below hb (Nat.le_refl _),fun i x hx=>⟨(HKID.out i x hx).1.below hb (Nat.le_refl _),(HKID.out i x hx).2⟩,hv,HL.out.on hb,hlen,hkl,hkn,htx,hsz⟩)
 clear hrow hkid ht hL hP HR hkl hkn htx hsz
 go_enter Tryz.func30,Tryz.ntmps30
 go_wp2_with (first
  | (go_at_call 46;refine Calls.mono (CR.out _ (by exact belowT)) ?_;intro e w1 h1;obtain ⟨rfl,hb1⟩:=h1;clear CR)
  | (go_at_call 47;refine Calls.mono (CW.out _) ?_;intro e w2 h2;obtain ⟨vo,rfl,hv2,hb2⟩:=h2;clear CW;refine Hid.out ?_))
 simp only [Voc.vals]
 have hb0:Below w.heap.size w ((w.alloc (.cells #[.slice ta ts.length tc] 45)).alloc (.cells #[.slice none 0 0,.slice none 0 0,.slice none 0 0,.slice none 0 0] 47)):=by exact belowT
 have hbw:Below w.heap.size w w2:=(hb0.trans (hb1.mono hb0.size)).trans (hb2.mono (hb0.trans (hb1.mono hb0.size)).size)
 have hsz1:=hb1.size
 have hsz2:=hb2.size
 simp only [World.size_alloc] at hsz1
 have z:∀ {p:Addr} {v:Value},((w.alloc (.cells #[.slice ta ts.length tc] 45)).alloc (.cells #[.slice none 0 0,.slice none 0 0,.slice none 0 0,.slice none 0 0] 47)).cell? p=some v→w2.cell? p=some v:=fun {p v} hc=>(hb2.cell (World.block_lt_of_cell? w1 _ ((hb1.cell (World.block_lt_of_cell? _ _ hc)).trans hc))).trans ((hb1.cell (World.block_lt_of_cell? _ _ hc)).trans hc)
 have t0:w2.cell? ⟨w.heap.size,0,none⟩=some (.slice ta ts.length tc):=z (by go_simp)
 have r0:w2.cell? ⟨w.heap.size+1,0,none⟩=some (.slice none 0 0):=z (by go_simp)
 have r1:w2.cell? ⟨w.heap.size+1,1,none⟩=some (.slice none 0 0):=z (by go_simp)
 have r2:w2.cell? ⟨w.heap.size+1,2,none⟩=some (.slice none 0 0):=z (by go_simp)
 have r3:w2.cell? ⟨w.heap.size+1,3,none⟩=some (.slice none 0 0):=z (by go_simp)
 have fz:∀ j,w2.frozen? ⟨w.heap.size+1,j,none⟩=false:=fun j=>by
  refine (hb2.frozen (p:=⟨w.heap.size+1,j,none⟩) (by show w.heap.size+1<w1.heap.size;omega)).trans ((hb1.frozen (p:=⟨w.heap.size+1,j,none⟩) (by simp)).trans ?_)
  go_simp
 have hc:=HOK.out w2 vo hbw hv2
 have hs0:=RdS.start w2 vo (.slice fa fs.length fc) fs sz
 have C:=hidI (caught_any (c:=⟨w2,w2.heap.size,vo,.slice fa fs.length fc,fs,sz⟩) hc (ts:=ts) (tv:=.slice ta ts.length tc) (tb:=w.heap.size) (HT.out.below hbw (Nat.le_refl _)) htl hlt hs0 rfl rfl (by simpa [NQ,PV.es,pv0] using htz) ((World.cell?_of_block (w:=w2) (a:=⟨w.heap.size,0,none⟩) (hs0.below.block w.heap.size (World.block_lt_of_cell? w2 _ t0))).trans t0))
 have hpe:pTop (Cx.l ⟨w2,w2.heap.size,vo,.slice fa fs.length fc,fs,sz⟩) ts pv0.prg=.ok P:=HPP.out
 rw [hpe] at C
 have HBW:=hidI hbw
 have HR0:=hidI (And.intro r0 (And.intro r1 (And.intro r2 r3)))
 have HFZ:=hidI fz
 have hblt:w.heap.size+1<w2.heap.size:=World.block_lt_of_cell? w2 _ r0
 clear hpe hs0 hc z t0 r0 r1 r2 r3 fz hb0 hbw hsz1 hsz2 hb1 hb2 hv2 HOK HPP HROW HKID HT HL
 refine hidI ?_
 go_wp2_with (go_at_call 48;refine C.out.mono ?_;intro e w4 h4;obtain ⟨rfl,h4⟩:=h4;clear C;refine Hid.out ?_)
 obtain ⟨p',hp',hS4⟩:=h4
 have hS:=hS4.alloc (.cells #[.int .i64 0,.int .i64 0] 111)
 have hbl:=hS.below
 have q0:=(hbl.cell (World.block_lt_of_cell? w2 _ HR0.out.1)).trans HR0.out.1
 have q1:=(hbl.cell (World.block_lt_of_cell? w2 _ HR0.out.2.1)).trans HR0.out.2.1
 have q2:=(hbl.cell (World.block_lt_of_cell? w2 _ HR0.out.2.2.1)).trans HR0.out.2.2.1
 have q3:=(hbl.cell (World.block_lt_of_cell? w2 _ HR0.out.2.2.2)).trans HR0.out.2.2.2
 have g0:=(hbl.frozen (p:=⟨w.heap.size+1,0,none⟩) hblt).trans (HFZ.out 0)
 have g1:=(hbl.frozen (p:=⟨w.heap.size+1,1,none⟩) hblt).trans (HFZ.out 1)
 have g2:=(hbl.frozen (p:=⟨w.heap.size+1,2,none⟩) hblt).trans (HFZ.out 2)
 have g3:=(hbl.frozen (p:=⟨w.heap.size+1,3,none⟩) hblt).trans (HFZ.out 3)
 have hdl:p'.ds.length≤24:=by
  have:p'.ds=P.decls:=by rw [←hp'];rfl
  rw [this];exact hD
 obtain ⟨da,dc,hdv⟩:∃ da dc,p'.dv=.slice da p'.ds.length dc:=zaE hS.down.head
 obtain ⟨xa,xc,hxv⟩:∃ xa xc,p'.xv=.slice xa p'.xs.length xc:=zaE hS.xown.head
 obtain ⟨sa,sc,hsv⟩:∃ sa sc,p'.sv=.slice sa p'.ss.length sc:=zaE hS.sown.head
 obtain ⟨ma,mc,hmv⟩:∃ ma mc,p'.mv=.slice ma p'.ms.length mc:=zaE hS.mown.head
 have b6:=hS.cell (j:=6) (u:=p'.dv) rfl
 have b7:=hS.cell (j:=7) (u:=p'.xv) rfl
 have b8:=hS.cell (j:=8) (u:=p'.sv) rfl
 have b9:=hS.cell (j:=9) (u:=p'.mv) rfl
 rw [hdv] at b6
 rw [hxv] at b7
 rw [hsv] at b8
 rw [hmv] at b9
 simp only at b6 b7 b8 b9
 have HS:=hidI hS
 have HP':=hidI hp'
 have HV4:=hidI (And.intro hdv (And.intro hxv (And.intro hsv hmv)))
 have hd24:¬ ((p'.ds.length:Int)>24):=by omega
 have hsz4:=hbl.size
 clear hS hS4 hp' hdv hxv hsv hmv hbl hD
 refine hidI ?_
 go_wp2
 refine bodyPost_ret (v:=.tuple #[.agg #[.slice da p'.ds.length dc,.slice xa p'.xs.length xc,.slice sa p'.ss.length sc,.slice ma p'.ms.length mc],.int .i64 0,.int .i64 0]) ?_ rfl ?_
 ·rw [results_ctt rfl]
  (go_simp<;>first|done|rfl)
 ·have hrow0:RowsP (w4.alloc (.cells #[.int .i64 0,.int .i64 0] 111)) w2.heap.size (prows ⟨w2,w2.heap.size,vo,.slice fa fs.length fc,fs,sz⟩ p'):=by
   have:=HS.out.rows
   rwa [List.append_nil] at this
  have hfar:∀ (W:World) (j:Nat) (v:Value),RowsP W w2.heap.size (dRow p'::xRow p'::sRow p'::mRow p'::(p'.xs.map kRow++p'.ss.flatMap sRows))→RowsP (W.setCell ⟨w.heap.size+1,j,none⟩ v) w2.heap.size (dRow p'::xRow p'::sRow p'::mRow p'::(p'.xs.map kRow++p'.ss.flatMap sRows)):=fun W j v h=>h.far (zcB W (w.heap.size+1) j v) (fun r hr=>.inr (fun e=>by have:=(h.lt hr e).1;omega))
  obtain ⟨e1,e2,e3,e4⟩:=HV4.out
  refine ⟨p',HP'.out,by rw [pval,e1,e2,e3,e4],RowsP.base (hfar _ 3 _ (hfar _ 2 _ (hfar _ 1 _ (hfar _ 0 _ hrow0.rest)))) (by omega),?_⟩
  have hb4:=HBW.out.trans (HS.out.below.mono HBW.out.size)
  exact (((hb4.setCell (by simp) _).setCell (by simp) _).setCell (by simp) _).setCell (by simp) _
open Go
section
variable {P : Program} {ops : Array Oper} {Q : Exit → Act → World → Prop} {md : Region.Mode} {S : World → Prop} {Z : List Nat}
def wpY (P:Program) (md:Region.Mode) (ops:Array Oper) (Q:Exit→Act→World→Prop) (S:World→Prop) (Z:List Nat):Nat→Array Bool→Act→World→Prop
 | 0=>fun l a w=>Region.ready md ops l=[]∧Q .normal a w
 | n+1=>fun l a w=>(Region.ready md ops l=[]→Q .normal a w)∧∀ i∈Region.ready md ops l,wpOp P ops Q i (fun b v=>(i ∉ Z→S v)∧wpY P md ops Q S Z n (l.setIfInBounds i true) b v) a w
theorem wpY_any:∀ (n:Nat) (l:Array Bool) (a:Act) (w:World),wpY P md ops Q S Z n l a w→wpAny P md ops Q n l a w:=by
 intro n
 induction n with
 | zero=>exact fun _ _ _ h=>h
 | succ n ih=>exact fun l a w h=>⟨h.1,fun i hi=>wpOp_mono (fun b v hb=>ih _ b v hb.2) (h.2 i hi)⟩
structure BehindY (md:Region.Mode) (ops:Array Oper) (i:Nat) (Z D:List Nat):Prop where
 has:∀ z∈Z,z∈D
 free:i ∉ D
 waits:∀ d∈D,∃ o,ops[d]?=some o∧∃ e∈o.after,Region.binds md e=true∧(e.on=i∨e.on∈D)
theorem not_bothY {l:Array Bool} {j:Nat} (h0:l.getD j true=false) (h1:l.getD j false=true):False:=by
 rcases Nat.lt_or_ge j l.size with h|h
 ·simp [h] at h0 h1;rw [h0] at h1;cases h1
 ·simp [h] at h0
theorem wpY_first {i:Nat} {o:Oper} {v:Value} {D:List Nat} (hi:ops[i]?=some o) (hsel:Region.noSelect ops=true) (hD:BehindY md ops i Z D) (hQ:∀ c a w,Q (.panic c) (a.put o.dst v) w→Q (.panic c) a w) :
  ∀ (n:Nat) (l:Array Bool) (a:Act) (w:World),(∀ j oj,ops[j]?=some oj→j≠i→l.getD j true=false→(∀ e∈oj.after,Region.binds md e=true→e.on≠i)→o.apart ops oj=true)→
   i∈Region.ready md ops l→(∀ d∈D,l.getD d true=false)→YieldsIf P ops S o v a→S w→wpY P md ops Q S Z n (l.setIfInBounds i true) (a.put o.dst v) w→wpY P md ops Q S Z (n+1) l a w:=by
 intro n
 induction n with
 | zero=>
  intro l a w _ hr _ hy hS H
  refine ⟨fun e=>absurd (e▸hr) (by simp),fun j hj => ?_⟩
  by_cases hji:j=i
  ·subst hji
   exact hy.wpOp hi hS ⟨fun _=>hS,H⟩
  ·have:=ready_mono hj hji
   rw [H.1] at this
   simp at this
 | succ n ih=>
  intro l a w hap hr hl hy hS H
  refine ⟨fun e=>absurd (e▸hr) (by simp),fun j hj => ?_⟩
  by_cases hji:j=i
  ·subst hji
   exact hy.wpOp hi hS ⟨fun _=>hS,H⟩
  ·obtain ⟨hun,oj,hoj,hall⟩:=mem_ready.1 hj
   have hri:=(mem_ready.1 hr).1
   have hjD:j ∉ D:=fun hm=>by
    obtain ⟨o',ho',e,he,hb,hon⟩:=hD.waits j hm
    obtain rfl:oj=o':=by rw [hoj] at ho';exact Option.some.inj ho'
    rcases hon with hon|hon
    ·exact not_bothY hri (hon▸hall e he hb)
    ·exact not_bothY (hl _ hon) (hall e he hb)
   have hjz:j ∉ Z:=fun hz=>hjD (hD.has j hz)
   have hstep:=wpOp_putIf hoj (hap j oj hoj hji hun fun e he hb hon=>not_bothY hri (hon▸hall e he hb)) (fun cs b=>Region.noSelect_spec hsel i o cs b hi) (fun cs b=>Region.noSelect_spec hsel j oj cs b hoj) hQ hy (H.2 j (ready_mono hj hji))
   refine wpOp_mono (fun b u hb => ?_) hstep
   obtain ⟨hyb,hSu,hrest⟩:=hb
   refine ⟨hSu,ih _ b u (fun k ok hok hki hkun hno=>hap k ok hok hki ?_ hno) (ready_mono hr (Ne.symm hji)) (fun d hd => ?_) hyb (hSu hjz) ?_⟩
   ·by_cases hjk:j=k
    ·exact hjk▸hun
    ·rwa [getD_set_ne true hjk] at hkun
   ·rw [getD_set_ne true (fun e:j=d=>hjD (by rw [e];exact hd))]
    exact hl d hd
   ·rwa [Array.setIfInBounds_comm _ _ hji]
def behindYB (md:Region.Mode) (ops:Array Oper) (l:Array Bool) (i:Nat) (Z D:List Nat):Bool:=
 Z.all D.contains && !D.contains i && D.all fun d => !(l.getD d true) && match ops[d]? with|some o=>o.after.any fun e=>Region.binds md e && (e.on==i || D.contains e.on)|none=>false
theorem zcM {i:Nat} {o:Oper} {v:Value} {n:Nat} {l:Array Bool} {a:Act} {w:World} (D:List Nat) (hi:ops[i]?=some o) (hsel:Region.noSelect ops=true) (hf:Region.free md ops l i=true) (hr:(Region.ready md ops l).contains i=true) (hD:behindYB md ops l i Z D=true)
  (hQ:∀ c a w,Q (.panic c) (a.put o.dst v) w→Q (.panic c) a w) (hy:YieldsIf P ops S o v a) (hS:S w) (h:wpY P md ops Q S Z n (l.setIfInBounds i true) (a.put o.dst v) w):wpY P md ops Q S Z (n+1) l a w:=by
 simp only [behindYB,Bool.and_eq_true,List.all_eq_true,Bool.not_eq_true',List.contains_iff_mem] at hD
 obtain ⟨⟨h1,h2⟩,h3⟩:=hD
 refine wpY_first (D:=D) hi hsel ⟨fun z hz=>h1 z hz,by simpa using h2,fun d hd => ?_⟩ hQ n l a w (Region.free_spec hi hf) (by simpa using hr) (fun d hd=>(h3 d hd).1) hy hS h
 have:=(h3 d hd).2
 cases ho:ops[d]? with
 | none=>rw [ho] at this;simp at this
 | some o'=>
  rw [ho] at this
  obtain ⟨e,he,hb⟩:=Array.any_eq_true'.1 this
  simp only [Bool.and_eq_true,Bool.or_eq_true,beq_iff_eq,List.contains_iff_mem] at hb
  exact ⟨o',rfl,e,he,hb.1,hb.2⟩
theorem wpY_all {rs:List Nat} {n:Nat} {l:Array Bool} {a:Act} {w:World} (hr:Region.ready md ops l=rs) (hne:rs≠[]) (h:∀ i∈rs,wpOp P ops Q i (fun b v=>(i ∉ Z→S v)∧wpY P md ops Q S Z n (l.setIfInBounds i true) b v) a w):wpY P md ops Q S Z (n+1) l a w:=by
 subst hr
 exact ⟨fun e=>absurd e hne,h⟩
theorem wpY_done {l:Array Bool} {a:Act} {w:World} (hr:Region.ready md ops l=[]) (h:Q .normal a w) (n:Nat):wpY P md ops Q S Z n l a w:=by
 cases n with
 | zero=>exact ⟨hr,h⟩
 | succ n=>exact ⟨fun _=>h,by simp [hr]⟩
theorem wpOp_goY {i:Nat} {o:Oper} {K:Act→World→Prop} {a:Act} {w:World} (ho:ops[i]?=some o) (hg:o.guard=none) (h:∀ K':Act→World→Prop,(∀ a w,K a w→K' a w)→Oper.wp P o a w K' Q):wpOp P ops Q i K a w:=by
 refine wpOp_step ho fun K' hK => ?_
 rw [if_pos (by unfold Region.wanted;rw [hg])]
 exact h K' hK
end
open Go.RowKit
theorem rowsIn_w {n:Nat} {P:Program} {row:String} {args:Array Value} {w:World} {R:Value→World→Prop} (h:Rows P row args w R):RowsIn Fence.wide n P row args w R:=by
 intro c cs _
 obtain ⟨v,w',hr,hs⟩:=h c cs
 exact ⟨v,w',hr,stepsIn_wide.2 hs⟩
theorem uponIn_w {n:Nat} {P:Program} {o:Oper} {a:Act} {K:Act→World→Prop} {Q:Exit→Act→World→Prop} {r:Result Next} (h:o.upon P a K Q r):o.uponIn Fence.wide n P a K Q r:=by
 cases r with
 | ok x w'=>
  cases x with
  | value v=>exact h
  | skip=>exact h
  | defer d=>exact h
  | enter f args=>exact ⟨fun hd=>(by cases hd),callsIn_wide.2 h⟩
  | row row args=>exact ⟨fun hd=>(by cases hd),rowsIn_w h⟩
  | _=>exact h.elim
 | halt x w'=>cases x<;>first|exact h|exact h.elim
theorem opIn_w {n:Nat} {P:Program} {o:Oper} {a:Act} {w:World} {K:Act→World→Prop} {Q:Exit→Act→World→Prop} (h:o.wp P a w K Q):o.wpIn Fence.wide n P a w K Q:=
 ⟨fun _ _=>trivial,uponIn_w h⟩
theorem wpOpIn_w {n:Nat} {P:Program} {ops:Array Oper} {Q:Exit→Act→World→Prop} (hQ:¬ LetsOut Q) {i:Nat} {K:Act→World→Prop} {a:Act} {w:World} (h:wpOp P ops Q i K a w) :
  wpOpIn Fence.wide n P ops Q i K a w:=by
 unfold wpOp at h
 unfold wpOpIn
 cases ho:ops[i]? with
 | none=>rw [ho] at h;exact h
 | some o=>
  rw [ho] at h
  simp only at h ⊢
  split
  ·rename_i hw
   rw [if_pos hw] at h
   rcases h with h|⟨_,h⟩
   ·exact opIn_w h
   ·exact absurd h hQ
  ·rename_i hw
   rw [if_neg hw] at h
   exact ⟨fun _ _=>trivial,h⟩
theorem wpAnyIn_w {n:Nat} {P:Program} {md:Region.Mode} {ops:Array Oper} {Q:Exit→Act→World→Prop} (hQ:¬ LetsOut Q) :
  ∀ (fuel:Nat) (listed:Array Bool) (a:Act) (w:World),wpAny P md ops Q fuel listed a w→wpAnyIn Fence.wide n P md ops Q fuel listed a w
 | 0,_,_,_,h=>h
 | fuel+1,_,_,_,h=>⟨h.1,fun i hi=>wpOpIn_mono (fun a' w' h'=>wpAnyIn_w hQ fuel _ a' w' h') (wpOpIn_w hQ (h.2 i hi))⟩
theorem wide_Z {n id:Nat} {ops:Array Oper} {Q:Exit→Act→World→Prop} {a:Act} {w:World} (S:World→Prop) (Z:List Nat)
  (h:wpY Tryz.prog .any ops (Goes (Q .normal)) S Z ops.size (Array.replicate ops.size false) a w.drew):(Code.region id ops true).wpIn Fence.wide n Tryz.prog Q a w:=
 wpIn_mono (wpIn_region_any Tryz.mixed (wpAnyIn_w (goes_out _) _ _ _ _ (wpY_any _ _ _ _ h))) (goes_imp fun _ _ h=>h)
@[go_sem] def rw8N:Nat→Oper
 | 0=>⟨some 36,.load 206 (.tmp 6),206, "tree.go:109",#[],none⟩
 | 1=>⟨some 37,.load 3 (.tmp 4),3, "tree.go:109",#[],none⟩
 | 2=>⟨some 38,.binOp .sub 3 (.tmp 37) (.const (.int .i64 1)) 3,3, "tree.go:109",#[⟨1,.data⟩],none⟩
 | 3=>⟨some 39,.move (.tmp 12),3, "tree.go:109",#[],none⟩
 | 4=>⟨some 40,.load 66 (.tmp 3),66, "tree.go:109",#[],none⟩
 | 5=>⟨some 41,.move (.tmp 12),3, "tree.go:109",#[],none⟩
 | 6=>⟨some 42,.indexAddr 66 (.tmp 40) (.tmp 41),0, "tree.go:109",#[⟨4,.data⟩,⟨5,.data⟩],none⟩
 | 7=>⟨some 43,.fieldAddr 115 (.tmp 42) 3,0, "tree.go:109",#[⟨6,.data⟩],none⟩
 | 8=>⟨some 44,.load 45 (.tmp 43),45, "tree.go:109",#[⟨7,.data⟩],none⟩
 | 9=>⟨some 45,.call ⟨.value (.tmp 36),#[.tmp 38,.tmp 39,.tmp 44],#[3,3,45]⟩,4, "tree.go:109",#[⟨0,.data⟩,⟨2,.data⟩,⟨3,.data⟩,⟨8,.data⟩],none⟩
 | _=>⟨some 46,.unOp .not 4 (.tmp 45),4, "tree.go:109",#[⟨9,.data⟩],none⟩
def rw8:Array Oper:=opsA rw8N 10
theorem rw8_0:rw8[0]?=some (rw8N 0):=zaA rw8N 10 (by decide)
theorem rw8_1:rw8[1]?=some (rw8N 1):=zaA rw8N 10 (by decide)
theorem rw8_2:rw8[2]?=some (rw8N 2):=zaA rw8N 10 (by decide)
theorem rw8_3:rw8[3]?=some (rw8N 3):=zaA rw8N 10 (by decide)
theorem rw8_4:rw8[4]?=some (rw8N 4):=zaA rw8N 10 (by decide)
theorem rw8_5:rw8[5]?=some (rw8N 5):=zaA rw8N 10 (by decide)
theorem rw8_6:rw8[6]?=some (rw8N 6):=zaA rw8N 10 (by decide)
theorem rw8_7:rw8[7]?=some (rw8N 7):=zaA rw8N 10 (by decide)
theorem rw8_8:rw8[8]?=some (rw8N 8):=zaA rw8N 10 (by decide)
theorem rw8_9:rw8[9]?=some (rw8N 9):=zaA rw8N 10 (by decide)
theorem rw8_10:rw8[10]?=some (rw8N 10):=zaA rw8N 10 (by decide)
set_option maxRecDepth 100000 in
set_option maxHeartbeats 2500000 in
theorem regW {x0 x1 x2 x5 x7 x8 x9 x10 x11 x13 x14 x15 x16 x17 x18 x19 x20 x21 x22 x23 x24 x25 x26 x27 x28 x29 x30 x31 x32 x33 x34 x35 x36 x37 x38 x39 x40 x41 x42 x43 x44 x45 x46 x47:Value} {m:Nat} {Q:Exit→Act→World→Prop} {V0:World} {Bl Bo By Bi fb fo nf fc kn kc pn:Nat} {ka:Option Addr} {td:Int} (hp:pn<nf) (ht0:0≤td) (ht1:td≤1000) {PW:Bool→World→Prop}
  (hS0:V0.drew.cell? ⟨Bi,0,none⟩=some (.func (.func 116) #[] #[.pointer (some ⟨Bl,0,none⟩),.pointer (some ⟨Bo,0,none⟩),.pointer (some ⟨By,0,none⟩),.pointer (some ⟨Bi,0,none⟩)])∧V0.drew.cell? ⟨Bo,0,none⟩=some (.int .i64 (td+1))∧V0.drew.cell? ⟨Bl,0,none⟩=some (.slice (some ⟨fb,fo,none⟩) nf fc)∧V0.drew.cell? ⟨fb,fo+pn*5+3,none⟩=some (.slice ka kn kc))
  (hC:Calls Tryz.prog 116 #[.int .i64 td,.int .i64 (pn:Int),.slice ka kn kc,.pointer (some ⟨Bl,0,none⟩),.pointer (some ⟨Bo,0,none⟩),.pointer (some ⟨By,0,none⟩),.pointer (some ⟨Bi,0,none⟩)] V0.drew fun e w'=>∃ bb,e=.returned (.bool bb)∧PW bb w')
  (hQ:∀ (W:World) (bb:Bool) (t36 t37 t38 t39 t40 t41 t42 t43 t44 t45:Value),PW bb W→Q .normal { tmps:=#[x0,x1,x2,.pointer (some ⟨Bl,0,none⟩),.pointer (some ⟨Bo,0,none⟩),x5,.pointer (some ⟨Bi,0,none⟩),x7,x8,x9,x10,x11,.int .i64 (pn:Int),x13,x14,x15,x16,x17,x18,x19,x20,x21,x22,x23,x24,x25,x26,x27,x28,x29,x30,x31,x32,x33,x34,x35,t36,t37,t38,t39,t40,t41,t42,t43,t44,t45,.bool (!bb),x47],defers:=[] } W) :
  (Code.region 8 rw8 true).wpIn Fence.wide m Tryz.prog Q { tmps:=#[x0,x1,x2,.pointer (some ⟨Bl,0,none⟩),.pointer (some ⟨Bo,0,none⟩),x5,.pointer (some ⟨Bi,0,none⟩),x7,x8,x9,x10,x11,.int .i64 (pn:Int),x13,x14,x15,x16,x17,x18,x19,x20,x21,x22,x23,x24,x25,x26,x27,x28,x29,x30,x31,x32,x33,x34,x35,x36,x37,x38,x39,x40,x41,x42,x43,x44,x45,x46,x47],defers:=[] } V0:=by
 refine wide_Z (fun y=>y.cell? ⟨Bi,0,none⟩=some (.func (.func 116) #[] #[.pointer (some ⟨Bl,0,none⟩),.pointer (some ⟨Bo,0,none⟩),.pointer (some ⟨By,0,none⟩),.pointer (some ⟨Bi,0,none⟩)])∧y.cell? ⟨Bo,0,none⟩=some (.int .i64 (td+1))∧y.cell? ⟨Bl,0,none⟩=some (.slice (some ⟨fb,fo,none⟩) nf fc)∧y.cell? ⟨fb,fo+pn*5+3,none⟩=some (.slice ka kn kc)) [9,10] ?_
 obtain ⟨V,hV⟩:∃ V,V0.drew=V:=⟨_,rfl⟩
 rw [hV] at hS0 hC ⊢
 clear hV
 have HQ:=hidI hQ
 have HC:=hidI hC
 have HPan:Hid (∀ c (a:Act) w (dd:Tmp) vv,Goes (Q .normal) (.panic c) (a.put (some dd) vv) w→Goes (Q .normal) (.panic c) a w):=hidI fun _ _ _ _ _ h=>h
 have e1:IntKind.i64.wrap (td+1-1)=td:=by rw [show td+1-1=td by omega,IntKind.wrap_i64];omega
 have e8:IntKind.i64.wrap td=td:=by rw [IntKind.wrap_i64];omega
 have e2:(pn:Int)<(nf:Int):=by omega
 have e3:(0:Int)≤(pn:Int):=by omega
 have e5:((pn:Int)).toNat=pn:=by omega
 clear hQ hC
 refine zcM [9,10] (i:=0) (v:=(.func (.func 116) #[] #[.pointer (some ⟨Bl,0,none⟩),.pointer (some ⟨Bo,0,none⟩),.pointer (some ⟨By,0,none⟩),.pointer (some ⟨Bi,0,none⟩)])) rw8_0 (by kernel_rfl) (by kernel_rfl) (by kernel_rfl) (by kernel_rfl) (fun c a w h=>HPan.out c a w _ _ h) (.inl ⟨by rfl,fun y hy => ?_⟩) hS0 ?_
 ·obtain ⟨hy0,hy1,hy2,hy3⟩:=hy
  go_simp
 refine zcM [2,9,10] (i:=1) (v:=(.int .i64 (td+1))) rw8_1 (by kernel_rfl) (by kernel_rfl) (by kernel_rfl) (by kernel_rfl) (fun c a w h=>HPan.out c a w _ _ h) (.inl ⟨by rfl,fun y hy => ?_⟩) hS0 ?_
 ·obtain ⟨hy0,hy1,hy2,hy3⟩:=hy
  go_simp
 refine zcM [9,10] (i:=2) (v:=(.int .i64 td)) rw8_2 (by kernel_rfl) (by kernel_rfl) (by kernel_rfl) (by kernel_rfl) (fun c a w h=>HPan.out c a w _ _ h) (.inl ⟨by rfl,fun y hy => ?_⟩) hS0 ?_
 ·obtain ⟨hy0,hy1,hy2,hy3⟩:=hy
  go_simp
 refine zcM [9,10] (i:=3) (v:=(.int .i64 (pn:Int))) rw8_3 (by kernel_rfl) (by kernel_rfl) (by kernel_rfl) (by kernel_rfl) (fun c a w h=>HPan.out c a w _ _ h) (.inl ⟨by rfl,fun y hy => ?_⟩) hS0 ?_
 ·obtain ⟨hy0,hy1,hy2,hy3⟩:=hy
  go_simp
 refine zcM [6,7,8,9,10] (i:=4) (v:=(.slice (some ⟨fb,fo,none⟩) nf fc)) rw8_4 (by kernel_rfl) (by kernel_rfl) (by kernel_rfl) (by kernel_rfl) (fun c a w h=>HPan.out c a w _ _ h) (.inl ⟨by rfl,fun y hy => ?_⟩) hS0 ?_
 ·obtain ⟨hy0,hy1,hy2,hy3⟩:=hy
  go_simp
 refine zcM [6,7,8,9,10] (i:=5) (v:=(.int .i64 (pn:Int))) rw8_5 (by kernel_rfl) (by kernel_rfl) (by kernel_rfl) (by kernel_rfl) (fun c a w h=>HPan.out c a w _ _ h) (.inl ⟨by rfl,fun y hy => ?_⟩) hS0 ?_
 ·obtain ⟨hy0,hy1,hy2,hy3⟩:=hy
  go_simp
 refine zcM [7,8,9,10] (i:=6) (v:=(.pointer (some ⟨fb,fo+pn*5,none⟩))) rw8_6 (by kernel_rfl) (by kernel_rfl) (by kernel_rfl) (by kernel_rfl) (fun c a w h=>HPan.out c a w _ _ h) (.inl ⟨by rfl,fun y hy => ?_⟩) hS0 ?_
 ·obtain ⟨hy0,hy1,hy2,hy3⟩:=hy
  go_simp
 refine zcM [8,9,10] (i:=7) (v:=(.pointer (some ⟨fb,fo+pn*5+3,none⟩))) rw8_7 (by kernel_rfl) (by kernel_rfl) (by kernel_rfl) (by kernel_rfl) (fun c a w h=>HPan.out c a w _ _ h) (.inl ⟨by rfl,fun y hy => ?_⟩) hS0 ?_
 ·obtain ⟨hy0,hy1,hy2,hy3⟩:=hy
  go_simp
 refine zcM [9,10] (i:=8) (v:=(.slice ka kn kc)) rw8_8 (by kernel_rfl) (by kernel_rfl) (by kernel_rfl) (by kernel_rfl) (fun c a w h=>HPan.out c a w _ _ h) (.inl ⟨by rfl,fun y hy => ?_⟩) hS0 ?_
 ·obtain ⟨hy0,hy1,hy2,hy3⟩:=hy
  go_simp
 refine wpY_all (rs:=[9]) (by kernel_rfl) (by simp) fun j9 hj9 => ?_
 obtain rfl:j9=9:=by simpa using hj9
 refine wpOp_goY rw8_9 rfl fun K1 hK1 => ?_
 unfold Oper.wp
 go_simp
 refine Calls.mono HC.out ?_
 rintro e W1 ⟨bb,rfl,hPW⟩
 go_simp
 refine hK1 _ _ ⟨fun h=>absurd (by simp) h,?_⟩
 clear hK1 K1
 refine wpY_all (rs:=[10]) (by kernel_rfl) (by simp) fun j10 hj10 => ?_
 obtain rfl:j10=10:=by simpa using hj10
 refine wpOp_goY rw8_10 rfl fun K1 hK1 => ?_
 unfold Oper.wp
 go_simp
 refine hK1 _ _ ⟨fun h=>absurd (by simp) h,?_⟩
 clear hK1 K1
 refine wpY_done (by kernel_rfl) ?_ _
 exact HQ.out W1 bb _ _ _ _ _ _ _ _ _ _ hPW
end Go.Proofs.YtmekkhfohmfjkaaGreatDoor
