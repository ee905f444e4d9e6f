/-
  Part 7 of the proof: Catch, ReadW, PParse, Forms, PMem.
-/
import Derived.Test.YtmekkhfohmfjkaaGreatDoorSd06
import Derived.Tactics
import Derived.Tactics2
import Derived.Defers
import Derived.Recover
import Derived.Laws.Pointers
import Derived.Test.YtmekkhfohmfjkaaGreatDoorSd03
import Derived.Test.YtmekkhfohmfjkaaGreatDoorSd04
namespace Go.Proofs.YtmekkhfohmfjkaaGreatDoor
open Go.RowKit Go.Deep Go.MapKept
theorem assert59 (v:Value) (w:World):(Instr.typeAssert (.iface 96 v) 20 96 false).run Tryz.prog w=.ok v w:=by kernel_rfl
theorem catch_fault (E:Nat) (x y p er:Int) (older:List PanicEntry) (w:World) (h0:w.cell? ⟨E,0,none⟩=some (.int .i64 x)) (h1:w.cell? ⟨E,1,none⟩=some (.int .i64 y)) (hz:∀ j,w.frozen? ⟨E,j,none⟩=false) :
  CallsD Tryz.prog 71 #[.pointer (some ⟨E,0,none⟩)] (.panicking ({ v:=.iface 96 (.agg #[.int .i64 p,.int .i64 er]),recovered:=false }::older)) w fun e u' w'=>
   e=.returned (.tuple #[])∧u'=.panicking ({ v:=.iface 96 (.agg #[.int .i64 p,.int .i64 er]),recovered:=true }::older)∧w'=(w.setCell ⟨E,0,none⟩ (.int .i64 p)).setCell ⟨E,1,none⟩ (.int .i64 er):=by
 have hz0:=hz 0
 have hz1:=hz 1
 refine callsD_of_wpS Tryz.func71 rfl fun c₀ cs hu => ?_
 apply wpS_seq
 apply wpS_region
 simp [wpOpsS,go_sem,recoverD,hu,Tryz.ntmps71,Exit.thenS]
 apply wpS_seq
 apply wpS_region
 simp [wpOpsS,go_sem,Exit.thenS]
 refine wpS_cond (t:=true) (by simp [Act.eval,Array.replicate]) ?_
 simp only [if_true]
 apply wpS_region
 simp [wpOpsS,go_sem,assert59,h0,h1,hz0,hz1]
 simp [bodyPostS,results,Tryz.results71]
theorem catch_idle (E:Nat) (w:World) :
  CallsD Tryz.prog 71 #[.pointer (some ⟨E,0,none⟩)] .returning w fun e u' w'=>e=.returned (.tuple #[])∧u'=.returning∧w'=w:=by
 refine callsD_of_wpS Tryz.func71 rfl fun c₀ cs hu => ?_
 apply wpS_seq
 apply wpS_region
 simp [wpOpsS,go_sem,recoverD,hu,Tryz.ntmps71,Exit.thenS]
 refine wpS_of_wp ?_
 go_wp2
 cases c₀
 simp_all [bodyPostS,results,Tryz.results71]
theorem two_apart (w:World) (a b c:Value) (h:a=.slice none 0 0∧b=.slice none 0 0∧c=.slice none 0 0):RD ((w.alloc (.cells #[a,b,c] 94)).alloc (.cells #[.int .i64 0,.int .i64 0] 96)) w.heap.size w.heap.size [] [] [] a b c:=by
 obtain ⟨rfl,rfl,rfl⟩:=h
 constructor
 ·intro r hr
  simp only [rrows,List.map_nil,List.mem_cons,List.mem_nil_iff,or_false] at hr
  rcases hr with rfl|rfl|rfl|rfl|rfl
  ·refine World.ownsRow.alloc ?_ _
   exact ⟨rfl,.inr ⟨w.heap.size,1,#[.slice none 0 0,.slice none 0 0,.slice none 0 0],rfl,Nat.le_refl _,by show (w.heap.push _)[w.heap.size]?=_;simp,Nat.le_refl _,by decide,rfl,rfl⟩⟩
  ·exact World.ownsRow_nil _ _ _ _
  ·exact World.ownsRow_nil _ _ _ _
  ·exact World.ownsRow_nil _ _ _ _
  ·exact ⟨rfl,.inr ⟨w.heap.size+1,1,#[.int .i64 0,.int .i64 0],rfl,by omega,by show ((w.heap.push _).push _)[w.heap.size+1]?=_;rw [show w.heap.size+1=(w.heap.push (Obj.cells #[Value.slice none 0 0,Value.slice none 0 0,Value.slice none 0 0] 94)).size by simp,Array.getElem?_push_size],Nat.le_refl _,by decide,rfl,rfl⟩⟩
 ·intro i j x y hx hy hij
  have hi:i<5:=(List.getElem?_eq_some_iff.1 hx).1
  have hj:j<5:=(List.getElem?_eq_some_iff.1 hy).1
  have hii:i=0∨i=1∨i=2∨i=3∨i=4:=by omega
  have hjj:j=0∨j=1∨j=2∨j=3∨j=4:=by omega
  rcases hii with rfl|rfl|rfl|rfl|rfl<;>rcases hjj with rfl|rfl|rfl|rfl|rfl<;>first|(exact absurd rfl hij)|(simp only [rrows,List.getElem?_cons_zero,List.getElem?_cons_succ,Option.some.injEq] at hx hy;subst hx;subst hy;simp [Ap,bx,Value.ownBlock])
def RI (ts:List Tok) (w:World) (j:Nat) (wy:World):Prop:=
 ∃ fs top opn fv tv ov,steps (ts.take j) begin0=.ok ⟨fs.map Prod.fst,top,opn⟩∧Good ⟨fs.map Prod.fst,top,opn⟩∧RD wy w.heap.size w.heap.size fs top opn fv tv ov∧Below w.heap.size w wy
def ReadOk (w:World) (σ:St) (e:Ending) (w':World):Prop:=
 ∃ fs top opn fv tv ov,e=.returned (.tuple #[.agg #[fv,tv,ov],.agg #[.int .i64 0,.int .i64 0]])∧RD w' w.heap.size w.heap.size fs top opn fv tv ov∧σ=⟨fs.map Prod.fst,top,opn⟩∧Below w.heap.size w w'
def IsSl (v:Value):Prop:=∃ a n c,v=.slice a n c
theorem own_sl {w:World} {base e size n:Nat} {v:Value} {xs:List Value} (h:w.ownsRow base e size v n xs):IsSl v:=by
 obtain ⟨a,c,e⟩:=zaE h
 exact ⟨a,n,c,e⟩
def ReadRes (w:World) (r:Except (Int × Int) St) (e:Ending) (w':World):Prop:=
 match r with
 | .error q=>∃ fv tv ov,IsSl fv∧IsSl tv∧IsSl ov∧e=.returned (.tuple #[.agg #[fv,tv,ov],.agg #[.int .i64 q.1,.int .i64 q.2]])∧Below w.heap.size w w'
 | .ok σ=>ReadOk w σ e w'
theorem steps_append (a b:List Tok):∀ (σ:St),steps (a++b) σ=(match steps a σ with|.error e=>.error e|.ok σ'=>steps b σ':Except (Int × Int) St):=by
 induction a with
 | nil=>intro σ;rfl
 | cons t r ih=>
  intro σ
  simp only [List.cons_append,steps]
  cases step σ t with
  | error e=>rfl
  | ok σ'=>exact ih σ'
theorem steps_next {ts:List Tok} {j:Nat} {t:Tok} {σ σ0:St} (hj:ts[j]?=some t) (h:steps (ts.take j) σ0=.ok σ):steps (ts.take (j+1)) σ0=step σ t:=by
 rw [List.take_add_one,hj,steps_append,h]
 show (match step σ t with|.error e=>.error e|.ok σ'=>steps [] σ':Except (Int × Int) St)=step σ t
 cases step σ t<;>rfl
theorem steps_stop {ts:List Tok} {j:Nat} {t:Tok} {σ σ0:St} {q:Int × Int} (hj:ts[j]?=some t) (h:steps (ts.take j) σ0=.ok σ) (hq:step σ t=.error q):steps ts σ0=.error q:=by
 have h1:=steps_next hj h
 rw [hq] at h1
 rw [←List.take_append_drop (j+1) ts,steps_append,h1]
theorem parse_stop {ts:List Tok} {j:Nat} {t:Tok} {σ:St} {q:Int × Int} (hj:ts[j]?=some t) (h:steps (ts.take j) begin0=.ok σ) (hq:step σ t=.error q):parse ts=.error q:=by
 unfold parse
 rw [steps_stop hj h hq]
theorem parse_end {ts:List Tok} {σ:St} (h:steps ts begin0=.ok σ):parse ts=finish σ:=by
 unfold parse
 rw [h]
theorem zdA {w:World} {base E n:Nat} {xs:List Value} {j:Nat} {u:Value} (h:w.ownsRow base 96 2 (bx E) n xs) (hj:xs[j]?=some u):w.cell? ⟨E,j,none⟩=some u:=by
 have:=World.ownsRow.cells h (g:=E) rfl j u hj
 rwa [show (⟨E,0,none⟩:Addr).add j=⟨E,0+j,none⟩ from Addr.add_lit ..,Nat.zero_add] at this
theorem RD.again {w:World} {base B:Nat} {fs:List FV} {top opn:List Nat} {fv tv ov:Value} (h:RD w base B fs top opn fv tv ov) :
  RD (((((w.setCell ⟨B,0,none⟩ fv).setCell ⟨B,1,none⟩ tv).setCell ⟨B,2,none⟩ ov).setCell ⟨B+1,0,none⟩ (.int .i64 0)).setCell ⟨B+1,1,none⟩ (.int .i64 0)).drew base B fs top opn fv tv ov:=by
 have h0:RD (w.setCell ⟨B,0,none⟩ fv) base B fs top opn fv tv ov:=RowsOk.setc (i:=0) (g:=B) (cap:=1) (j:=0) (r:=⟨bx B,94,3,1,[fv,tv,ov]⟩) h rfl rfl fv
 have h1:RD ((w.setCell ⟨B,0,none⟩ fv).setCell ⟨B,1,none⟩ tv) base B fs top opn fv tv ov:=RowsOk.setc (i:=0) (g:=B) (cap:=1) (j:=1) (r:=⟨bx B,94,3,1,[fv,tv,ov]⟩) h0 rfl rfl tv
 have h2:RD (((w.setCell ⟨B,0,none⟩ fv).setCell ⟨B,1,none⟩ tv).setCell ⟨B,2,none⟩ ov) base B fs top opn fv tv ov:=RowsOk.setc (i:=0) (g:=B) (cap:=1) (j:=2) (r:=⟨bx B,94,3,1,[fv,tv,ov]⟩) h1 rfl rfl ov
 have h3:RD ((((w.setCell ⟨B,0,none⟩ fv).setCell ⟨B,1,none⟩ tv).setCell ⟨B,2,none⟩ ov).setCell ⟨B+1,0,none⟩ (.int .i64 0)) base B fs top opn fv tv ov:=RowsOk.setc (i:=4) (g:=B+1) (cap:=1) (j:=0) (r:=⟨bx (B+1),96,2,1,[.int .i64 0,.int .i64 0]⟩) h2 rfl rfl (.int .i64 0)
 have h4:RD (((((w.setCell ⟨B,0,none⟩ fv).setCell ⟨B,1,none⟩ tv).setCell ⟨B,2,none⟩ ov).setCell ⟨B+1,0,none⟩ (.int .i64 0)).setCell ⟨B+1,1,none⟩ (.int .i64 0)) base B fs top opn fv tv ov:=RowsOk.setc (i:=4) (g:=B+1) (cap:=1) (j:=1) (r:=⟨bx (B+1),96,2,1,[.int .i64 0,.int .i64 0]⟩) h3 rfl rfl (.int .i64 0)
 exact h4.drew
set_option maxHeartbeats 2000000 in
theorem read_any (ts:List Tok) (v:Value) (w:World) (hv:SeesC w v ts.length 4 (flatT ts)) (hs:∀ t∈ts,t.s.size≤140737488355328) (hl:ts.length≤100000) :
  Calls Tryz.prog 45 #[v] w fun e w'=>ReadRes w (parse ts) e w':=by
 have hmf:∀ (fn:Go.Fn) (first cap:Array Value) (w:World),(Instr.makeFunc fn first cap).run Tryz.prog w=.ok (.func fn first cap) w:=fun _ _ _ _=>rfl
 have HV:=hidI hv
 obtain ⟨hlen,a,cap,rfl,hc⟩:=hv
 have HC:=hidI hc
 have H0:=hidI (two_apart w (.slice none 0 0) (.slice none 0 0) (.slice none 0 0) ⟨rfl,rfl,rfl⟩)
 have HB0:Hid (Below w.heap.size w ((w.alloc (.cells #[.slice none 0 0,.slice none 0 0,.slice none 0 0] 94)).alloc (.cells #[.int .i64 0,.int .i64 0] 96))):=hidI (by exact belowT)
 have HS:=hidI hs
 clear hc hs
 go_enter_defers Tryz.func45,Tryz.ntmps45
 go_wp2
 go_loopg [9] ts.length (fun gh s9 wy=>∃ j:Nat,j+gh=ts.length∧s9=.int .i64 (j:Int)∧RI ts w j wy)
 case atStart=>exact ⟨0,by omega,rfl,[],[],[],_,_,_,rfl,good_begin,H0.out,HB0.out⟩
 case round=>
  obtain ⟨j,hj,rfl,hRI⟩:=hrel
  cases gk with
  | succ g=>
   have hjl:j<ts.length:=by omega
   have hti:ts[j]?=some ts[j]:=List.getElem?_eq_getElem hjl
   obtain ⟨t,ht⟩:∃ t,ts[j]=t:=⟨_,rfl⟩
   rw [ht] at hti
   rcases HC.out with h0|⟨b,off,rfl,hcs⟩
   ·omega
   obtain ⟨fs,top,opn,fv,tv,ov,hst,hG,hRD,hbl⟩:=hRI
   have hcell:∀ i u,i<4→t.cells[i]?=some u→wr.cell? ⟨b,off+j*4+i,none⟩=some u:=fun i u hi hu=>by
    have:=hcs (j*4+i) u (by rw [flatT_get ts j i t hti hi];exact hu)
    rw [←Nat.add_assoc] at this
    exact (hbl.cell (World.block_lt_of_cell? w _ this)).trans this
   have k0:=hcell 0 _ (by omega) rfl
   have k1:=hcell 1 _ (by omega) rfl
   have k2:=hcell 2 _ (by omega) rfl
   have k3:=hcell 3 _ (by omega) rfl
   have hts:t.s.size≤140737488355328:=HS.out t (List.mem_of_getElem? hti)
   have HT:=hidI (take_any (hRD.alloc (.cells #[.int .u8 t.k,.string t.s,.int .i64 t.n,.int .i64 t.p] 91)) hG t hts)
   have HB1:Hid (Below w.heap.size w (wr.alloc (.cells #[.int .u8 t.k,.string t.s,.int .i64 t.n,.int .i64 t.p] 91))):=hidI (hbl.alloc hbl.size _)
   have HRD:=hidI hRD
   have e1:(j:Int)<(ts.length:Int):=by omega
   have e2:(0:Int)≤(j:Int):=by omega
   have e3:((j:Int)).toNat=j:=by omega
   have hlt:=hRD.lt
   have HG:=hidI hG
   have HST:=hidI hst
   have HTI:=hidI hti
   simp only [Nat.add_zero] at k0
   cases hq:step ⟨fs.map Prod.fst,top,opn⟩ t with
   | error q=>
    have HP:=hidI (parse_stop hti hst hq)
    rw [hq] at HT
    clear hq hst hti hcell hcs hG hbl hRD ht
    go_wp2_with (go_at_call 72;refine HT.out.mono ?_;intro e w2 hres;obtain ⟨rfl,hb2⟩:=hres;have HB2:=hidI hb2;clear hb2 HT)
    have hRA:=HRD.out.alloc (.cells #[.int .u8 t.k,.string t.s,.int .i64 t.n,.int .i64 t.p] 91)
    have hR2:=hRA.down HB2.out
    have hE0:=zdA hR2.eo (j:=0) rfl
    have hE1:=zdA hR2.eo (j:=1) rfl
    have hEf:∀ j,w2.frozen? ⟨w.heap.size+1,j,none⟩=false:=fun j=>zcU hR2.eo j
    have hc0:=hR2.c0
    have hc1:=hR2.c1
    have hc2:=hR2.c2
    refine leaves_cons (f:=71) (args:=#[.pointer (some ⟨w.heap.size+1,0,none⟩)]) (by simp) (by simp [go_sem]) ?_
    refine (catch_fault (w.heap.size+1) 0 0 q.1 q.2 [] _ hE0 hE1 hEf).mono ?_
    rintro e u' w'' ⟨rfl,rfl,rfl⟩
    have hBf:Below w.heap.size w ((w2.setCell ⟨w.heap.size+1,0,none⟩ (.int .i64 q.1)).setCell ⟨w.heap.size+1,1,none⟩ (.int .i64 q.2)):=((HB1.out.trans (HB2.out.mono HB1.out.size)).setCell (by simp) _).setCell (by simp) _
    have hF0:=World.cell?_setCell_same w2 ⟨w.heap.size+1,0,none⟩ (.int .i64 q.1) hE0
    have hF1:((w2.setCell ⟨w.heap.size+1,0,none⟩ (.int .i64 q.1)).setCell ⟨w.heap.size+1,1,none⟩ (.int .i64 q.2)).cell? ⟨w.heap.size+1,1,none⟩=some (.int .i64 q.2):=World.cell?_setCell_same _ _ _ ((World.cell?_setCell_other _ _ _ _ (by simp)).trans hE1)
    simp [Leaves,settle,results,Tryz.results45,go_sem,hc0,hc1,hc2,hF0,hF1]
    rw [HP.out]
    exact ⟨fv,tv,ov,own_sl hR2.fo,own_sl hR2.to,own_sl hR2.oo,rfl,hBf⟩
   | ok σ'=>
    have hst2:=steps_next hti hst
    rw [hq] at hst2 HT
    have HN:=hidI hst2
    have HG2:=hidI (step_good hG hq)
    clear hq hst hti hcell hcs hG hbl hRD ht hst2
    go_wp2_with (go_at_call 72;refine HT.out.mono ?_;intro e w2 hres;obtain ⟨rfl,hb2⟩:=hres;have HB2:=hidI hb2;clear hb2 HT)
    go_roundg g
    case measure=>omega
    case rel=>
     obtain ⟨hbb,fs2,top2,opn2,fv2,tv2,ov2,hR2,rfl⟩:=HB2.out
     exact ⟨j+1,by omega,by go_num,fs2,top2,opn2,fv2,tv2,ov2,HN.out,HG2.out,hR2,HB1.out.trans hbb⟩
  | zero=>
   have hje:ts.length=j:=by omega
   obtain ⟨fs,top,opn,fv,tv,ov,hst,hG,hRD,hbl⟩:=hRI
   rw [←hje,List.take_length] at hst
   have HP:=hidI (parse_end hst)
   have HE:=hidI (end_any hRD hG)
   have HRD:=hidI hRD
   have HBL:=hidI hbl
   have e1:¬ (j:Int)<(ts.length:Int):=by omega
   subst hje
   cases hq:finish ⟨fs.map Prod.fst,top,opn⟩ with
   | error q=>
    rw [hq] at HE HP
    clear hq hst hG hbl hRD
    go_wp2_with (go_at_call 73;refine HE.out.mono ?_;intro e w2 hres;obtain ⟨rfl,n2,rfl⟩:=hres;clear HE)
    have hR2:=HRD.out.drewN n2
    have hB2:Below w.heap.size w (wr.drewN n2):=⟨HBL.out.os,HBL.out.tape,HBL.out.output,HBL.out.size,HBL.out.block⟩
    obtain ⟨w2,hw2⟩:∃ w2,wr.drewN n2=w2:=⟨_,rfl⟩
    rw [hw2] at hR2 hB2 ⊢
    clear hw2
    have hE0:=zdA hR2.eo (j:=0) rfl
    have hE1:=zdA hR2.eo (j:=1) rfl
    have hEf:∀ j,w2.frozen? ⟨w.heap.size+1,j,none⟩=false:=fun j=>zcU hR2.eo j
    have hc0:=hR2.c0
    have hc1:=hR2.c1
    have hc2:=hR2.c2
    refine leaves_cons (f:=71) (args:=#[.pointer (some ⟨w.heap.size+1,0,none⟩)]) (by simp) (by simp [go_sem]) ?_
    refine (catch_fault (w.heap.size+1) 0 0 q.1 q.2 [] _ hE0 hE1 hEf).mono ?_
    rintro e u' w'' ⟨rfl,rfl,rfl⟩
    have hBf:Below w.heap.size w ((w2.setCell ⟨w.heap.size+1,0,none⟩ (.int .i64 q.1)).setCell ⟨w.heap.size+1,1,none⟩ (.int .i64 q.2)):=(hB2.setCell (by simp) _).setCell (by simp) _
    have hF0:=World.cell?_setCell_same w2 ⟨w.heap.size+1,0,none⟩ (.int .i64 q.1) hE0
    have hF1:((w2.setCell ⟨w.heap.size+1,0,none⟩ (.int .i64 q.1)).setCell ⟨w.heap.size+1,1,none⟩ (.int .i64 q.2)).cell? ⟨w.heap.size+1,1,none⟩=some (.int .i64 q.2):=World.cell?_setCell_same _ _ _ ((World.cell?_setCell_other _ _ _ _ (by simp)).trans hE1)
    simp [Leaves,settle,results,Tryz.results45,go_sem,hc0,hc1,hc2,hF0,hF1]
    rw [HP.out]
    exact ⟨fv,tv,ov,own_sl hR2.fo,own_sl hR2.to,own_sl hR2.oo,rfl,hBf⟩
   | ok σ'=>
    rw [hq] at HE HP
    have hoe:opn=[]:=by
     unfold finish at hq
     cases hb:opn.getLast? with
     | none=>simpa using hb
     | some b=>simp [hb] at hq
    clear hst hG hbl hRD
    have hc0:=HRD.out.c0
    have hc1:=HRD.out.c1
    have hc2:=HRD.out.c2
    have hz0:=HRD.out.free 0
    have hz1:=HRD.out.free 1
    have hz2:=HRD.out.free 2
    have hE0:=zdA HRD.out.eo (j:=0) rfl
    have hE1:=zdA HRD.out.eo (j:=1) rfl
    have hy0:=zcU HRD.out.eo 0
    have hy1:=zcU HRD.out.eo 1
    subst hoe
    obtain ⟨oa,oc,hov⟩:=zaE HRD.out.oo
    have hov':ov=.slice oa 0 oc:=hov
    subst hov'
    obtain ⟨fa,fc,rfl⟩:=zaE HRD.out.fo
    obtain ⟨ta,tc,rfl⟩:=zaE HRD.out.to
    have HA:=hidI HRD.out.again
    have HBA:Hid (Below w.heap.size w (((((wr.setCell ⟨w.heap.size,0,none⟩ (.slice fa fs.length fc)).setCell ⟨w.heap.size,1,none⟩ (.slice ta top.length tc)).setCell ⟨w.heap.size,2,none⟩ (.slice oa 0 oc)).setCell ⟨w.heap.size+1,0,none⟩ (.int .i64 0)).setCell ⟨w.heap.size+1,1,none⟩ (.int .i64 0)).drew):=
     hidI (((((HBL.out.setCell (by simp) _).setCell (by simp) _).setCell (by simp) _).setCell (by simp) _).setCell (by simp) _).drew
    have hqq:σ'=⟨fs.map Prod.fst,top,[]⟩:=by unfold finish at hq;simp at hq;exact hq.symm
    have HQQ:=hidI hqq
    clear hq hqq
    go_wp2_with (go_at_call 73;refine HE.out.mono ?_;intro e w2 hres;obtain ⟨rfl,rfl⟩:=hres;clear HE)
    go_region
    go_wp2
    obtain ⟨wf,hwf⟩:∃ wf,(((((wr.setCell ⟨w.heap.size,0,none⟩ (.slice fa fs.length fc)).setCell ⟨w.heap.size,1,none⟩ (.slice ta top.length tc)).setCell ⟨w.heap.size,2,none⟩ (.slice oa 0 oc)).setCell ⟨w.heap.size+1,0,none⟩ (.int .i64 0)).setCell ⟨w.heap.size+1,1,none⟩ (.int .i64 0)).drew=wf:=⟨_,rfl⟩
    rw [hwf] at HA HBA ⊢
    clear hwf
    have g0:=HA.out.c0
    have g1:=HA.out.c1
    have g2:=HA.out.c2
    have gE0:=zdA HA.out.eo (j:=0) rfl
    have gE1:=zdA HA.out.eo (j:=1) rfl
    refine leaves_cons (f:=71) (args:=#[.pointer (some ⟨w.heap.size+1,0,none⟩)]) (by simp) (by simp [go_sem]) ?_
    refine (catch_idle (w.heap.size+1) _).mono ?_
    rintro e u' w'' ⟨rfl,rfl,rfl⟩
    simp [Leaves,settle,results,Tryz.results45,go_sem,g0,g1,g2,gE0,gE1]
    rw [HP.out]
    exact ⟨fs,top,[],_,_,_,rfl,HA.out,HQQ.out,HBA.out⟩
theorem results_four {fn:Func} {t u v x:Tmp} (h:fn.results=#[.tmp t,.tmp u,.tmp v,.tmp x]) (tmps:Array Value) (P:Program) (w:World) :
  (results fn tmps).run P w=.ok (.tuple #[tmps.getD t undef,tmps.getD u undef,tmps.getD v undef,tmps.getD x undef]) w:=by
 simp [results,h]
def Roomy (v:Value):Prop:=∃ a n c,v=.slice a n c∧n≤c
theorem roomy_of {w:World} {base e size n:Nat} {v:Value} {xs:List Value} (h:w.ownsRow base e size v n xs):Roomy v:=by
 rcases h.2 with ⟨rfl,rfl⟩|⟨g,cap,cur,rfl,r⟩
 ·exact ⟨_,_,_,rfl,Nat.le_refl _⟩
 ·exact ⟨_,_,_,rfl,r.2.2.1⟩
def SeesF (w:World) (v:Value) (l:List Frm):Prop:=
 ∃ fs:List FV,fs.map Prod.fst=l∧SeesC w v fs.length 5 (flatF fs)∧∀ (i:Nat) (x:FV),fs[i]?=some x→SeesC w x.2 x.1.kids.length 1 (ints x.1.kids)∧Roomy x.2
theorem SeesF.below {w w':World} {v:Value} {l:List Frm} (h:SeesF w v l) (hb:Below w.heap.size w w'):SeesF w' v l:=by
 obtain ⟨fs,h1,h2,h3⟩:=h
 exact ⟨fs,h1,h2.below hb (Nat.le_refl _),fun i x hx=>⟨(h3 i x hx).1.below hb (Nat.le_refl _),(h3 i x hx).2⟩⟩
theorem RD.sees {w:World} {base B:Nat} {fs:List FV} {top opn:List Nat} {fv tv ov:Value} (h:RD w base B fs top opn fv tv ov):SeesF w fv (fs.map Prod.fst):=
 ⟨fs,rfl,zaS h.fo,fun _ _ hx=>⟨zaS (h.ko hx),roomy_of (h.ko hx)⟩⟩
theorem step_err {σ:St} {t:Tok} {q:Int × Int} (h:step σ t=.error q):q.2=4∨q.2=8:=by
 unfold step at h
 split at h
 ·split at h
  ·cases h;exact .inr rfl
  ·cases h
 ·split at h
  ·split at h
   ·cases h;exact .inl rfl
   ·split at h
    ·cases h;exact .inl rfl
    ·cases h
  ·split at h
   ·split at h
    ·cases h;exact .inl rfl
    ·cases h
   ·cases h
theorem steps_err:∀ (l:List Tok) (σ:St) (q:Int × Int),steps l σ=.error q→q.2=4∨q.2=8
 | [],_,_,h=>by cases h
 | t::r,σ,q,h=>by
  unfold steps at h
  cases hs:step σ t with
  | error e=>rw [hs] at h;cases h;exact step_err hs
  | ok σ'=>rw [hs] at h;exact steps_err r σ' q h
theorem tparse_err {l:List Tok} {q:Int × Int} (h:parse l=.error q):q.2=4∨q.2=8:=by
 unfold parse at h
 cases hs:steps l begin0 with
 | error e=>rw [hs] at h;cases h;exact steps_err _ _ _ hs
 | ok σ=>
  rw [hs] at h
  simp only at h
  unfold finish at h
  split at h
  ·cases h
  ·cases h;exact .inr rfl
def PRes (w:World) (r:Except (Int × Int) St) (e:Ending) (w':World):Prop:=
 match r with
 | .error q=>e=.returned (.tuple #[.slice none 0 0,.slice none 0 0,.int .i64 q.1,.int .i64 q.2])∧Below w.heap.size w w'
 | .ok σ=>∃ fv tv,e=.returned (.tuple #[fv,tv,.int .i64 0,.int .i64 0])∧SeesF w' fv σ.forms∧SeesC w' tv σ.top.length 1 (ints σ.top)∧Below w.heap.size w w'
set_option maxHeartbeats 1000000 in
theorem tparse_any (ts:List Tok) (v:Value) (w:World) (hv:SeesC w v ts.length 4 (flatT ts)) (hs:∀ t∈ts,t.s.size≤140737488355328) (hl:ts.length≤100000) :
  Calls Tryz.prog 29 #[v] w fun e w'=>PRes w (parse ts) e w':=by
 have HR:=hidI (read_any ts v w hv hs hl)
 clear hv hs hl
 cases hp:parse ts with
 | error q=>
  have hq:=tparse_err hp
  rw [hp] at HR
  have hne:(q.2==0)=false:=by rcases hq with h|h<;>rw [h]<;>rfl
  have hne2:¬ q.2=0:=by rcases hq with h|h<;>rw [h]<;>decide
  clear hp hq
  go_enter Tryz.func29,Tryz.ntmps29
  go_wp2_with (go_at_call 45;refine HR.out.mono ?_;intro e w1 hres;obtain ⟨fv,tv,ov,⟨a1,n1,c1,rfl⟩,⟨a2,n2,c2,rfl⟩,⟨a3,n3,c3,rfl⟩,rfl,hb1⟩:=hres;clear HR)
  go_quiet (fail)
  generalize nq=n9
  go_wp2
  refine bodyPost_ret (results_four rfl _ _ _) rfl ?_
  have hB:Below w1.heap.size w1 (((w1.alloc (.cells #[.slice a1 n1 c1,.slice a2 n2 c2,.slice a3 n3 c3] 94)).alloc (.cells #[.int .i64 q.1,.int .i64 q.2] 96)).drewN n9):=⟨rfl,rfl,rfl,by simp;omega,fun k hk=>by show ((w1.alloc _).alloc _).heap[k]?=_;rw [Below.heap_alloc _ _ _ (by simp;omega),Below.heap_alloc _ _ _ hk]⟩
  exact ⟨rfl,hb1.trans (hB.mono hb1.size)⟩
 | ok σ=>
  rw [hp] at HR
  clear hp
  go_enter Tryz.func29,Tryz.ntmps29
  go_wp2_with (go_at_call 45;refine HR.out.mono ?_;intro e w1 hres;obtain ⟨fs,top,opn,fv,tv,ov,rfl,hR1,hσ,hb1⟩:=hres;obtain ⟨a1,n1,c1,rfl⟩:=own_sl hR1.fo;obtain ⟨a2,n2,c2,rfl⟩:=own_sl hR1.to;obtain ⟨a3,n3,c3,rfl⟩:=own_sl hR1.oo;have HR1:=hidI hR1;have HS:=hidI hσ;clear HR hR1 hσ)
  go_quiet (fail)
  generalize nq=n9
  go_wp2
  refine bodyPost_ret (results_four rfl _ _ _) rfl ?_
  have hB:Below w1.heap.size w1 (((w1.alloc (.cells #[.slice a1 n1 c1,.slice a2 n2 c2,.slice a3 n3 c3] 94)).alloc (.cells #[.int .i64 0,.int .i64 0] 96)).drewN n9):=⟨rfl,rfl,rfl,by simp;omega,fun k hk=>by show ((w1.alloc _).alloc _).heap[k]?=_;rw [Below.heap_alloc _ _ _ (by simp;omega),Below.heap_alloc _ _ _ hk]⟩
  refine ⟨_,_,rfl,?_,?_,hb1.trans (hB.mono hb1.size)⟩
  ·rw [HS.out];exact (HR1.out.sees).below hB
  ·rw [HS.out];exact (zaS HR1.out.to).below hB (Nat.le_refl _)
structure Fm where
 k:Int
 s:ByteArray
 n:Int
 kids:List Int
 p:Int
abbrev MV:=Fm × Value
def mcells (x:MV):List Value:=[.int .u8 x.1.k,.string x.1.s,.int .i64 x.1.n,x.2,.int .i64 x.1.p]
def flatM (l:List MV):List Value:=l.flatMap mcells
theorem flatM_get:∀ (l:List MV) (j i:Nat) (x:MV),l[j]?=some x→i<5→(flatM l)[j*5+i]?=(mcells x)[i]?
 | [],_,_,_,h,_=>by simp at h
 | y::r,0,i,x,h,hi=>by
  obtain rfl:y=x:=by simpa using h
  simp only [flatM,List.flatMap_cons,Nat.zero_mul,Nat.zero_add]
  rw [List.getElem?_append_left (by simpa [mcells] using hi)]
 | y::r,j+1,i,x,h,hi=>by
  have:=flatM_get r j i x (by simpa using h) hi
  rw [←this]
  simp only [flatM,List.flatMap_cons]
  rw [List.getElem?_append_right (by simp [mcells];omega)]
  congr 1
  simp [mcells];omega
def intsI (l:List Int):List Value:=l.map fun n=>Value.int .i64 n
theorem zcF {l:List Int} {j:Nat} {x:Int} (h:l[j]?=some x):(intsI l)[j]?=some (.int .i64 x):=by simp [intsI,h]
structure SeesM (w:World) (v:Value) (ms:List MV):Prop where
 row:SeesC w v ms.length 5 (flatM ms)
 kid:∀ (i:Nat) (x:MV),ms[i]?=some x→SeesC w x.2 x.1.kids.length 1 (intsI x.1.kids)
theorem SeesM.below {w w':World} {v:Value} {ms:List MV} {B:Nat} (h:SeesM w v ms) (hb:Below B w w') (hB:w.heap.size≤B):SeesM w' v ms:=
 ⟨h.row.below hb hB,fun i x hx=>(h.kid i x hx).below hb hB⟩
def toFm (f:Frm):Fm:=⟨f.k,f.s,f.n,f.kids.map fun (n:Nat)=>(n:Int),f.p⟩
theorem seesM_of {w:World} {v:Value} {l:List Frm} (h:SeesF w v l):∃ ms:List MV,ms.map Prod.fst=l.map toFm∧SeesM w v ms∧∀ x∈ms,Roomy x.2:=by
 obtain ⟨fs,rfl,h1,h2⟩:=h
 have e1:flatM (fs.map fun x=>(toFm x.1,x.2))=flatF fs:=by
  unfold flatM flatF
  rw [List.flatMap_map]
  rfl
 refine ⟨fs.map fun x=>(toFm x.1,x.2),by simp,⟨?_,?_⟩,fun x hx => ?_⟩
 ·rw [e1,List.length_map];exact h1
 ·intro i x hx
  rw [List.getElem?_map] at hx
  cases hf:fs[i]? with
  | none=>rw [hf] at hx;simp at hx
  | some y=>
   rw [hf] at hx
   simp only [Option.map_some,Option.some.injEq] at hx
   subst hx
   have:=(h2 i y hf).1
   have e2:intsI (toFm y.1).kids=ints y.1.kids:=by simp [intsI,ints,toFm]
   show SeesC w y.2 (toFm y.1).kids.length 1 (intsI (toFm y.1).kids)
   rw [e2]
   simpa [toFm] using this
 ·obtain ⟨y,hy,rfl⟩:=List.mem_map.1 hx
  obtain ⟨i,hi⟩:=List.getElem?_of_mem hy
  exact (h2 i y hi).2
def kidsOf (ms:List MV) (p:Int):List Int:=match ms[p.toNat]? with|some x=>x.1.kids|none=>[]
inductive WalkR (K:Int→List Int) (n:Int):Int→Int→Int→List Int→Int→List (Int × Int)→Bool→Prop
 | done (told up own:Int):WalkR K n told up own [] told [] true
 | skip {told up own p t':Int} {r:List Int} {ys:List (Int × Int)} {ok:Bool}:(¬ (own<p∧p<n))→WalkR K n told up own r t' ys ok→WalkR K n told up own (p::r) t' ys ok
 | full {told up own p:Int} {r:List Int}:own<p→p<n→400<told→WalkR K n told up own (p::r) told [] false
 | cut {told up own p t':Int} {r:List Int} {ys:List (Int × Int)}:own<p→p<n→told≤400→WalkR K n (told+1) told p (K p) t' ys false→WalkR K n told up own (p::r) t' ((up,p)::ys) false
 | more {told up own p t1 t':Int} {r:List Int} {ys1 ys2:List (Int × Int)} {ok:Bool}:own<p→p<n→told≤400→WalkR K n (told+1) told p (K p) t1 ys1 true→WalkR K n t1 up own r t' ys2 ok→WalkR K n told up own (p::r) t' ((up,p)::(ys1++ys2)) ok
theorem WalkR.told {K:Int→List Int} {n told up own t':Int} {l:List Int} {ys:List (Int × Int)} {ok:Bool} (h:WalkR K n told up own l t' ys ok):t'=told+ys.length:=by
 induction h with
 | done=>simp
 | skip _ _ ih=>exact ih
 | full=>simp
 | cut _ _ _ _ ih=>rw [ih];simp;omega
 | more _ _ _ _ _ ih1 ih2=>rw [ih2,ih1];simp;omega
theorem WalkR.most {K:Int→List Int} {n told up own t':Int} {l:List Int} {ys:List (Int × Int)} {ok:Bool} (h:WalkR K n told up own l t' ys ok) (h0:told≤401):t'≤401:=by
 induction h with
 | done=>exact h0
 | skip _ _ ih=>exact ih h0
 | full=>exact h0
 | cut _ _ h4 _ ih=>exact ih (by omega)
 | more _ _ h4 _ _ ih1 ih2=>exact ih2 (ih1 (by omega))
abbrev XV:=Exp × Value
structure SV where
 s:Stm
 av:Value
 tv:Value
 ev:Value
def dcells (d:Dcl):List Value:=[.string d.name,.int .u8 (d.side:Int),.int .u8 (d.kind:Int)]
def xcells (x:XV):List Value:=[.int .u8 (x.1.k:Int),.int .u8 (x.1.of:Int),.int .u8 (x.1.op:Int),.string x.1.name,.int .i64 x.1.num,x.2]
def acells (a:Actn):List Value:=[.int .u8 (a.k:Int),.string a.name,.int .u8 (a.op:Int),.bool a.inn,.int .i64 a.e,.int .i64 a.cond]
def scells (s:SV):List Value:=[.int .u8 (s.s.k:Int),.string s.s.name,.int .u8 (s.s.op:Int),.int .i64 s.s.e,.int .i64 s.s.cond,s.av,s.tv,s.ev]
def flatD (l:List Dcl):List Value:=l.flatMap dcells
def flatX (l:List XV):List Value:=l.flatMap xcells
def flatAc (l:List Actn):List Value:=l.flatMap acells
def flatS (l:List SV):List Value:=l.flatMap scells
theorem flatD_snoc (l:List Dcl) (x:Dcl):flatD (l++[x])=flatD l++dcells x:=by simp [flatD]
theorem flatX_snoc (l:List XV) (x:XV):flatX (l++[x])=flatX l++xcells x:=by simp [flatX]
theorem flatAc_snoc (l:List Actn) (x:Actn):flatAc (l++[x])=flatAc l++acells x:=by simp [flatAc]
theorem flatS_snoc (l:List SV) (x:SV):flatS (l++[x])=flatS l++scells x:=by simp [flatS]
structure PV where
 ds:List Dcl
 xs:List XV
 ss:List SV
 ms:List Int
 dv:Value
 xv:Value
 sv:Value
 mv:Value
def PV.es (p:PV):ES:=(p.xs.map Prod.fst,p.ss.map SV.s)
def kRow (x:XV):Rw:=⟨x.2,3,1,x.1.kids.length,intsI x.1.kids⟩
def sRows (s:SV):List Rw:=[⟨s.av,126,6,s.s.acts.length,flatAc s.s.acts⟩,⟨s.tv,3,1,s.s.thn.length,intsI s.s.thn⟩,⟨s.ev,3,1,s.s.els.length,intsI s.s.els⟩]
structure Cx where
 w0:World
 B:Nat
 vo:Voc
 fv:Value
 fs:List FV
 sz:Nat→Nat
def Cx.l (c:Cx):List Frm:=c.fs.map Prod.fst
def boxRow (c:Cx) (p:PV):Rw:=⟨bx c.B,109,10,1,[.map (some c.vo.d),.map (some c.vo.s),.map (some c.vo.a),.map (some c.vo.x),.map (some c.vo.o),c.fv,p.dv,p.xv,p.sv,p.mv]⟩
def dRow (p:PV):Rw:=⟨p.dv,56,3,p.ds.length,flatD p.ds⟩
def xRow (p:PV):Rw:=⟨p.xv,190,6,p.xs.length,flatX p.xs⟩
def sRow (p:PV):Rw:=⟨p.sv,78,8,p.ss.length,flatS p.ss⟩
def mRow (p:PV):Rw:=⟨p.mv,3,1,p.ms.length,intsI p.ms⟩
def prows (c:Cx) (p:PV):List Rw:=boxRow c p::dRow p::xRow p::sRow p::mRow p::(p.xs.map kRow++p.ss.flatMap sRows)
structure Cx.Ok (c:Cx):Prop where
 row:SeesC c.w0 c.fv c.fs.length 5 (flatF c.fs)
 kid:∀ (i:Nat) (x:FV),c.fs[i]?=some x→SeesC c.w0 x.2 x.1.kids.length 1 (ints x.1.kids)∧Roomy x.2
 voc:IsVoc c.w0 c.vo (decF 6)
 laid:Laid c.w0
 len:c.fs.length≤400
 kidlt:∀ (i:Nat) (x:FV),c.fs[i]?=some x→∀ k∈x.1.kids,i<k∧k<c.fs.length
 kidlen:∀ (i:Nat) (x:FV),c.fs[i]?=some x→x.1.kids.length≤400
 txt:∀ (i:Nat) (x:FV),c.fs[i]?=some x→x.1.s.size≤140737488355328
 szk:∀ (i:Nat) (x:FV),c.fs[i]?=some x→1+(x.1.kids.map c.sz).sum≤c.sz i
structure RdS (c:Cx) (p:PV) (X:List Rw) (w:World):Prop where
 below:Below c.w0.heap.size c.w0 w
 rows:RowsP w c.w0.heap.size (prows c p++X)
section
variable {c : Cx} {p : PV} {X : List Rw} {w : World}
theorem RdS.on (h:RdS c p X w) {w':World} (hb:Below w.heap.size w w'):RdS c p X w':=⟨h.below.trans (hb.mono h.below.size),h.rows.below hb⟩
theorem RdS.drew (h:RdS c p X w):RdS c p X w.drew:=⟨h.below.drew,h.rows.drew⟩
theorem RdS.alloc (h:RdS c p X w) (o:Obj):RdS c p X (w.alloc o):=⟨h.below.alloc h.below.size o,h.rows.alloc o⟩
theorem RdS.box (h:RdS c p X w):w.ownsRow c.w0.heap.size 109 10 (bx c.B) 1 (boxRow c p).xs:=RowsP.head (r:=boxRow c p) h.rows
theorem RdS.cell (h:RdS c p X w) {j:Nat} {u:Value} (hj:(boxRow c p).xs[j]?=some u):w.cell? ⟨c.B,j,none⟩=some u:=zaB h.box hj
theorem RdS.free (h:RdS c p X w) (j:Nat):w.frozen? ⟨c.B,j,none⟩=false:=zaQ h.box j
theorem RdS.lt (h:RdS c p X w):c.w0.heap.size≤c.B∧c.B<w.heap.size:=h.box.lt c.B rfl
theorem RdS.size (h:RdS c p X w):c.w0.heap.size≤w.heap.size:=h.below.size
theorem RdS.more (h:RdS c p X w) {r:Rw} (hr:RowsP w c.w0.heap.size (r::(prows c p++X))):RdS c p (r::X) w:=
 ⟨h.below,hr.perm (List.perm_middle.symm)⟩
theorem RdS.less {r:Rw} (h:RdS c p (r::X) w):RdS c p X w:=
 ⟨h.below,(h.rows.perm List.perm_middle).rest⟩
theorem RdS.first {r:Rw} (h:RdS c p (r::X) w):RowsP w c.w0.heap.size (r::(prows c p++X)):=h.rows.perm List.perm_middle
end
theorem Cx.frm_at {c:Cx} {n:Nat} {x:FV} (hx:c.fs[n]?=some x):frm c.l n=x.1:=by
 unfold frm Cx.l
 rw [List.getD_eq_getElem?_getD,List.getElem?_map,hx]
 rfl
theorem Cx.Ok.form {c:Cx} (h:c.Ok) {w:World} (hw:Below c.w0.heap.size c.w0 w) {n:Nat} {x:FV} (hx:c.fs[n]?=some x) :
  ∃ g o cap,c.fv=.slice (some ⟨g,o,none⟩) c.fs.length cap∧w.cell? ⟨g,o+n*5,none⟩=some (.int .u8 x.1.k)∧w.cell? ⟨g,o+n*5+1,none⟩=some (.string x.1.s)∧w.cell? ⟨g,o+n*5+2,none⟩=some (.int .i64 x.1.n)∧w.cell? ⟨g,o+n*5+3,none⟩=some x.2∧w.cell? ⟨g,o+n*5+4,none⟩=some (.int .i64 x.1.p):=by
 have hn:n<c.fs.length:=(List.getElem?_eq_some_iff.1 hx).1
 obtain ⟨_,a,cap,hv,h0⟩:=h.row.below hw (Nat.le_refl _)
 rcases h0 with h0|⟨g,o,rfl,hc⟩
 ·omega
 ·refine ⟨g,o,cap,hv,?_,?_,?_,?_,?_⟩
  ·have:=hc (n*5+0) _ (by rw [zcG c.fs n 0 x hx (by omega)];rfl);simpa [Nat.add_assoc] using this
  ·have:=hc (n*5+1) _ (by rw [zcG c.fs n 1 x hx (by omega)];rfl);simpa [Nat.add_assoc] using this
  ·have:=hc (n*5+2) _ (by rw [zcG c.fs n 2 x hx (by omega)];rfl);simpa [Nat.add_assoc] using this
  ·have:=hc (n*5+3) _ (by rw [zcG c.fs n 3 x hx (by omega)];rfl);simpa [Nat.add_assoc] using this
  ·have:=hc (n*5+4) _ (by rw [zcG c.fs n 4 x hx (by omega)];rfl);simpa [Nat.add_assoc] using this
def SeesK (w0:World) (v:Value) (ks:List Nat):Prop:=SeesC w0 v ks.length 1 (ints ks)
abbrev flt2 (p:Int):List PanicEntry:=[{ v:=.iface 111 (.agg #[.int .i64 p,.int .i64 8]),recovered:=false }]
end Go.Proofs.YtmekkhfohmfjkaaGreatDoor
