/-
  Part 40 of the proof: TlK, KoB, TyI, Lv11A, Lv11B.
-/
import Derived.Test.YtfljimpgnlfipaaGreatDoorTE39
import Derived.Test.YtfljimpgnlfipaaGreatDoorTE35
import Derived.Test.YtfljimpgnlfipaaGreatDoorTE36
import Derived.Test.YtfljimpgnlfipaaGreatDoorTE34
import Derived.Test.YtfljimpgnlfipaaGreatDoorTE27
namespace Go.Proofs.YtfljimpgnlfipaaGreatDoor
open Go.RowKit Go.Deep Go.MapKept
def CtPost (t:Tx) (X:List Rw) (r:Option TS) (e:Ending) (w':World):Prop:=
 match r with
 | none=>e=.returned (.agg #[.int .i64 0,.int .i64 3])∧TBad t X w'
 | some σ'=>e=.returned (.agg #[.int .i64 0,.int .i64 0])∧TlS t σ' X w'
theorem TBad.setbox {t:Tx} {X:List Rw} {w:World} {B e size j:Nat} {xs:List Value} (h:TBad t (⟨bx B,e,size,1,xs⟩::X) w) (u:Value):TBad t (⟨bx B,e,size,1,xs.set j u⟩::X) (w.setCell ⟨B,j,none⟩ u):=
 ⟨h.below.setCell (h.rows.head.lt B rfl).1 u,h.rows.setc (g:=B) (cap:=1) (j:=j) rfl u⟩
set_option maxHeartbeats 1000000 in
theorem tcaught_any {t:Tx} {F:Nat} (hk:t.Ok F) {σ:TS} {X:List Rw} {w:World} (h:TlS t σ X w) :
  Calls Tryz.prog 96 #[.func (.func 106) #[.pointer (some ⟨t.B,0,none⟩)] #[]] w (CtPost t X (tProg t.P.prg σ)):=by
 have hmf:∀ (fn:Go.Fn) (first cap:Array Value) (w:World),(Instr.makeFunc fn first cap).run Tryz.prog w=.ok (.func fn first cap) w:=fun _ _ _ _=>rfl
 have HS0:TlS t σ (fBox w.heap.size::X) (w.alloc (.cells #[.int .i64 0,.int .i64 0] 172)):=h.newbox 172 2 #[.int .i64 0,.int .i64 0] rfl;have C:=hidI (tall_any hk HS0);cases hr:tProg t.P.prg σ with
 | none=>
  rw [hr] at C;clear hr h HS0
  go_enter_defers Tryz.func96,Tryz.ntmps96
  go_wp2_with (go_at_call 106;refine C.out.mono ?_;intro e w1 h1;obtain ⟨rfl,hb1⟩:=h1;clear C)
  have hr:=RowsP.head (r:=fBox w.heap.size) hb1.rows;have hE0:=zaA hr (j:=0) rfl;have hE1:=zaA hr (j:=1) rfl;have hEf:∀ j,w1.frozen? ⟨w.heap.size,j,none⟩=false:=fun j=>zcT hr j
  refine leaves_cons (f:=146) (args:=#[.pointer (some ⟨w.heap.size,0,none⟩)]) (by simp) (by simp [go_sem]) ?_;refine (catch2_fault w.heap.size 0 0 0 3 [] _ hE0 hE1 hEf).mono ?_;rintro e u' w'' ⟨rfl,rfl,rfl⟩;have hF0:=World.cell?_setCell_same w1 ⟨w.heap.size,0,none⟩ (.int .i64 0) hE0;have hF1:((w1.setCell ⟨w.heap.size,0,none⟩ (.int .i64 0)).setCell ⟨w.heap.size,1,none⟩ (.int .i64 3)).cell? ⟨w.heap.size,1,none⟩=some (.int .i64 3):=World.cell?_setCell_same _ _ _ ((World.cell?_setCell_other _ _ _ _ (by simp)).trans hE1);simp [Leaves,settle,results,Tryz.results96,go_sem,hF0,hF1];exact ⟨rfl,(TBad.setbox (j:=1) (TBad.setbox (j:=0) hb1 (.int .i64 0)) (.int .i64 3)).sub (.cons _ (.refl _))⟩
 | some σ1=>
  rw [hr] at C;clear hr h HS0
  go_enter_defers Tryz.func96,Tryz.ntmps96
  go_wp2_with (go_at_call 106;refine C.out.mono ?_;intro e w1 h1;obtain ⟨rfl,hb1⟩:=h1;clear C;refine Hid.out ?_)
  have hr:=hb1.r.row;have hE0:=zaA hr (j:=0) rfl;have hE1:=zaA hr (j:=1) rfl;have f0:=zcT hr 0;have f1:=zcT hr 1;have HFIN:Hid (TlS t σ1 X ((w1.setCell ⟨w.heap.size,0,none⟩ (.int .i64 0)).setCell ⟨w.heap.size,1,none⟩ (.int .i64 0))):=hidI ⟨(TlR.setbox (j:=1) (TlR.setbox (j:=0) hb1.r (.int .i64 0)) (.int .i64 0)).less,hb1.lim⟩;clear hr hb1;refine hidI ?_;go_wp2;refine leaves_cons (f:=146) (args:=#[.pointer (some ⟨w.heap.size,0,none⟩)]) (by simp) (by simp [go_sem]) ?_;refine (catch2_idle w.heap.size _).mono ?_;rintro e u' w'' ⟨rfl,rfl,rfl⟩;have hF0:=World.cell?_setCell_same w1 ⟨w.heap.size,0,none⟩ (.int .i64 0) hE0;have hF1:((w1.setCell ⟨w.heap.size,0,none⟩ (.int .i64 0)).setCell ⟨w.heap.size,1,none⟩ (.int .i64 0)).cell? ⟨w.heap.size,1,none⟩=some (.int .i64 0):=World.cell?_setCell_same _ _ _ ((World.cell?_setCell_other _ _ _ _ (by simp)).trans hE1);simp [Leaves,settle,results,Tryz.results96,go_sem,hF0,hF1];exact ⟨rfl,HFIN.out⟩
theorem put_sound (t:Tx) (hpr:t.pr=fun _ Q=>Q=[]):PutOk t 60:=by
 intro σ X w tk h _ _;have hA:=h.alloc (.cells #[.int .u8 tk.k,.string tk.s,.int .i64 tk.n,.int .i64 tk.p] 92);have HA:Hid (TlR t { σ with ts:=σ.ts++[tk] } X (w.alloc (.cells #[.int .u8 tk.k,.string tk.s,.int .i64 tk.n,.int .i64 tk.p] 92))):=hidI (by
  obtain ⟨Q,hq,hr⟩:=hA.rows;rw [hpr] at hq;exact ⟨hA.below,⟨Q,by rw [hpr];exact hq,hr⟩,hA.kept⟩)
 clear h hA;go_enter Tryz.func60,Tryz.ntmps60;go_wp2;go_end0;exact ⟨rfl,HA.out⟩
theorem field196 (x y:Int) (u:World):(Instr.field 172 (.agg #[.int .i64 x,.int .i64 y]) 1).run Tryz.prog u=.ok (.int .i64 y) u:=by kernel_rfl
def sndT (w:World) (B:Nat) (p:PV):Tx:=⟨w,B,p,.func (.func 60) #[] #[],fun _ Q=>Q=[],[]⟩
set_option maxRecDepth 100000 in
set_option maxHeartbeats 1000000 in
theorem told_sound (p:PV) (da xa sa ma:Option Addr) (dn dc xn xc sn sc mn mc:Nat) (hd:p.dv=.slice da dn dc) (hx:p.xv=.slice xa xn xc) (hs:p.sv=.slice sa sn sc) (hm:p.mv=.slice ma mn mc) (w:World) (hL:Laid w) (hp:SeesPv w p) (ho:PrgOk p.prg) :
  Calls Tryz.prog 59 #[.agg #[.slice da dn dc,.slice xa xn xc,.slice sa sn sc,.slice ma mn mc],.func (.func 60) #[] #[]] w fun e w'=>e=.returned (.bool (soundP p.prg))∧Below w.heap.size w w':=by
 have hmf:∀ (fn:Go.Fn) (first cap:Array Value) (w:World),(Instr.makeFunc fn first cap).run Tryz.prog w=.ok (.func fn first cap) w:=fun _ _ _ _=>rfl
 have hk:(sndT w (w.heap.size+1) p).Ok 60:=⟨hL,hp,ho,rfl,rfl,fun K=>put_sound _ rfl⟩;have HS:TlS (sndT w (w.heap.size+1) p) ts0 [] ((w.alloc (.cells #[.slice da dn dc,.slice xa xn xc,.slice sa sn sc,.slice ma mn mc] 27)).alloc (.cells #[.slice da dn dc,.slice xa xn xc,.slice sa sn sc,.slice ma mn mc,.int .i64 0,.int .i64 0,.int .i64 0,.int .i64 0,.func (.func 60) #[] #[]] 184)):=by
  have hb:Below w.heap.size w (w.alloc (.cells #[.slice da dn dc,.slice xa xn xc,.slice sa sn sc,.slice ma mn mc] 27)):=(Below.refl _ _).alloc (Nat.le_refl _) _;refine ⟨⟨hb.alloc hb.size _,⟨[],rfl,?_⟩,fun x hx=>absurd hx (by simp [sndT])⟩,⟨by decide,by decide,by decide⟩⟩;have h1:RowsP (w.alloc (.cells #[.slice da dn dc,.slice xa xn xc,.slice sa sn sc,.slice ma mn mc] 27)) w.heap.size []:=⟨fun r hr=>absurd hr (by simp),List.Pairwise.nil⟩;have h2:=box_new (w.alloc (.cells #[.slice da dn dc,.slice xa xn xc,.slice sa sn sc,.slice ma mn mc] 27)) w.heap.size 184 9 #[.slice da dn dc,.slice xa xn xc,.slice sa sn sc,.slice ma mn mc,.int .i64 0,.int .i64 0,.int .i64 0,.int .i64 0,.func (.func 60) #[] #[]] hb.size rfl;rw [World.size_alloc] at h2;have e1:(tlBox (sndT w (w.heap.size+1) p) ts0)=⟨bx (w.heap.size+1),184,9,1,[.slice da dn dc,.slice xa xn xc,.slice sa sn sc,.slice ma mn mc,.int .i64 0,.int .i64 0,.int .i64 0,.int .i64 0,.func (.func 60) #[] #[]]⟩:=by
   simp [tlBox,sndT,ts0,hd,hx,hs,hm]
  rw [e1];exact h1.add (h1.alloc _) h2 (fun k hk=>by cases hk;simp)
 have C:=hidI (tcaught_any hk HS);have HS0:Hid (soundP p.prg=(tProg p.prg ts0).isSome):=hidI rfl;have hP:(sndT w (w.heap.size+1) p).P.prg=p.prg:=rfl;have hB:(sndT w (w.heap.size+1) p).B=w.heap.size+1:=rfl;rw [hP,hB] at C;cases hr:tProg p.prg ts0 with
 | none=>
  have HR:Hid (soundP p.prg=false):=hidI (by rw [HS0.out,hr];rfl);rw [hr] at C;have hf3:=fun u=>field196 0 3 u
  have hf0:=fun u=>field196 0 0 u
  clear hr HS hk hp ho hd hx hs hm hP hB;go_enter Tryz.func59,Tryz.ntmps59
  go_wp2_with (go_at_call 96;refine C.out.mono ?_;intro e w1 h1;obtain ⟨rfl,hb1⟩:=h1;clear C)
  go_ret;rw [HR.out];exact ⟨rfl,hb1.below⟩
 | some σ1=>
  have HR:Hid (soundP p.prg=true):=hidI (by rw [HS0.out,hr];rfl);rw [hr] at C;have hf3:=fun u=>field196 0 3 u
  have hf0:=fun u=>field196 0 0 u
  clear hr HS hk hp ho hd hx hs hm hP hB;go_enter Tryz.func59,Tryz.ntmps59
  go_wp2_with (go_at_call 96;refine C.out.mono ?_;intro e w1 h1;obtain ⟨rfl,hb1⟩:=h1;clear C)
  go_ret;rw [HR.out];exact ⟨rfl,hb1.r.below⟩
theorem sound_any (p:PV) (w:World) (hL:Laid w) (hp:SeesPv w p) (ho:PrgOk p.prg) :
  Calls Tryz.prog 27 #[.agg #[p.dv,p.xv,p.sv,p.mv]] w fun e w'=>e=.returned (.bool (soundP p.prg))∧Below w.heap.size w w':=by
 obtain ⟨_,da,dc,hd,_⟩:=id hp.d;obtain ⟨_,xa,xc,hx,_⟩:=id hp.x;obtain ⟨_,sa,sc,hs,_⟩:=id hp.s;obtain ⟨_,ma,mc,hm,_⟩:=id hp.m;have hb:Below w.heap.size w (w.alloc (.cells #[.slice da p.ds.length dc,.slice xa p.xs.length xc,.slice sa p.ss.length sc,.slice ma p.ms.length mc] 27)):=(Below.refl _ _).alloc (Nat.le_refl _) _;have C:=hidI (told_sound p da xa sa ma _ dc _ xc _ sc _ mc hd hx hs hm _ (hL.on hb) (hp.below hb) ho);have HB:=hidI hb;rw [hd,hx,hs,hm];clear hd hx hs hm hb hp ho hL;go_enter Tryz.func27,Tryz.ntmps27
 go_wp2_with (go_at_call 59;refine C.out.mono ?_;intro e w1 h1;obtain ⟨rfl,hb1⟩:=h1;clear C)
 go_ret;exact ⟨rfl,HB.out.trans (hb1.mono HB.out.size)⟩
set_option maxRecDepth 100000 in
set_option maxHeartbeats 4000000 in
theorem tkind_any (p:PV) (a:Int) (wh:Nat) (w:World) (hL:Laid w) (hp:SeesPv w p) (ho:PrgOk p.prg) (hd:p.ds.length≤24) (hwf:WfX p.prg.exprs) :
  Calls Tryz.prog 13 #[.agg #[p.dv,p.xv,p.sv,p.mv],.int .i64 a,.int .u8 (wh:Int)] w fun e w'=>e=.returned (.tuple #[.int .u8 ((tyKind p.prg a wh).1:Int),.int .i64 (tyKind p.prg a wh).2])∧Below w.heap.size w w':=by
 obtain ⟨_,da,dc,hdv,_⟩:=id hp.d;obtain ⟨_,xa,xc,hxv,_⟩:=id hp.x;obtain ⟨_,sa,sc,hsv,_⟩:=id hp.s;obtain ⟨_,ma,mc,hmv,_⟩:=id hp.m;have hA1:(((w.alloc (.cells #[.slice da p.ds.length dc,.slice xa p.xs.length xc,.slice sa p.ss.length sc,.slice ma p.ms.length mc] 27)).alloc (.cells #[.int .i64 a] 3)).alloc (.cells #[.int .u8 (wh:Int)] 35)).cell? ⟨w.heap.size+1,0,none⟩=some (.int .i64 a):=by go_simp
 have hA2:(((w.alloc (.cells #[.slice da p.ds.length dc,.slice xa p.xs.length xc,.slice sa p.ss.length sc,.slice ma p.ms.length mc] 27)).alloc (.cells #[.int .i64 a] 3)).alloc (.cells #[.int .u8 (wh:Int)] 35)).cell? ⟨w.heap.size+2,0,none⟩=some (.int .u8 (wh:Int)):=by go_simp
 obtain ⟨w2,hw2⟩:∃ w2,((w.alloc (.cells #[.slice da p.ds.length dc,.slice xa p.xs.length xc,.slice sa p.ss.length sc,.slice ma p.ms.length mc] 27)).alloc (.cells #[.int .i64 a] 3)).alloc (.cells #[.int .u8 (wh:Int)] 35)=w2:=⟨_,rfl⟩;have hb:Below w.heap.size w w2:=by rw [←hw2];exact belowT
 have hAt:=AtBd.on (AtBd.on (AtBd.new w 27 #[.slice da p.ds.length dc,.slice xa p.xs.length xc,.slice sa p.ss.length sc,.slice ma p.ms.length mc]) ((Below.refl _ _).alloc (Nat.le_refl _) (.cells #[.int .i64 a] 3))) ((Below.refl _ _).alloc (Nat.le_refl _) (.cells #[.int .u8 (wh:Int)] 35));rw [hw2] at hAt hA1 hA2;have C:=hidI (sound_any p w2 (hL.on hb) (hp.below hb) ho);have HB:=hidI hb;have HP2:=hidI (hp.below hb);have HD24:=hidI hd;have HWF:=hidI hwf;have HAt:=hidI hAt;have HA1:=hidI hA1;have HA2:=hidI hA2;have HE:Hid (p.dv=.slice da p.ds.length dc∧p.xv=.slice xa p.xs.length xc∧p.sv=.slice sa p.ss.length sc∧p.mv=.slice ma p.ms.length mc):=hidI ⟨hdv,hxv,hsv,hmv⟩;have hxl:p.prg.exprs.length=p.xs.length:=by simp [PV.prg]
 rw [hdv,hxv,hsv,hmv] at C;rw [hdv,hxv,hsv,hmv];have HW2:=hidI hw2;obtain ⟨⟨rk,re⟩,hR⟩:∃ R,tyKind p.prg a wh=R:=⟨_,rfl⟩;rw [hR];have hT:=hR;unfold tyKind at hT;rw [hxl] at hT;clear hdv hxv hsv hmv hb hp ho hL hd hwf hw2 hAt hA1 hA2 hR;cases hS:soundP p.prg with
 | false=>
  rw [hS] at C hT;rw [if_pos (.inl rfl)] at hT;cases hT;clear hS hxl;go_enter Tryz.func13,Tryz.ntmps13
  go_wp2_with (go_at_call 27;rw [HW2.out];refine C.out.mono ?_;intro e w1 h1;obtain ⟨rfl,hb1⟩:=h1;clear C)
  go_ret2;exact ⟨rfl,HB.out.trans (hb1.mono HB.out.size)⟩
 | true=>
  rw [hS] at C hT;clear hS;by_cases h0:a<0
  ·rw [if_pos (.inr (.inl h0))] at hT;cases hT;clear hxl;go_enter Tryz.func13,Tryz.ntmps13
   go_wp2_with (go_at_call 27;rw [HW2.out];refine C.out.mono ?_;intro e w1 h1;obtain ⟨rfl,hb1⟩:=h1;clear C;have a1:=zaJ hb1 HA1.out)
   go_ret2;exact ⟨rfl,HB.out.trans (hb1.mono HB.out.size)⟩
  by_cases hl:(p.xs.length:Int)≤a
  ·rw [if_pos (.inr (.inr hl))] at hT;cases hT;clear hxl;have h0':(0:Int)≤a:=by omega
   go_enter Tryz.func13,Tryz.ntmps13
   go_wp2_with (go_at_call 27;rw [HW2.out];refine C.out.mono ?_;intro e w1 h1;obtain ⟨rfl,hb1⟩:=h1;clear C;have a1:=zaJ hb1 HA1.out;have z1:=(AtBd.on HAt.out hb1) 1 _ rfl)
   go_ret2;exact ⟨rfl,HB.out.trans (hb1.mono HB.out.size)⟩
  have h0':(0:Int)≤a:=by omega
  have hl':a<(p.xs.length:Int):=by omega
  rw [if_neg (fun h=>h.elim (fun h=>by cases h) (fun h=>h.elim h0 hl))] at hT;by_cases hw:wh<1∨4<wh
  ·rw [if_pos hw] at hT;cases hT;clear hxl;by_cases hw1:wh<1
   ·have hw1':(wh:Int)<1:=by omega
    go_enter Tryz.func13,Tryz.ntmps13
    go_wp2_with (go_at_call 27;rw [HW2.out];refine C.out.mono ?_;intro e w1 h1;obtain ⟨rfl,hb1⟩:=h1;clear C;have a1:=zaJ hb1 HA1.out;have a2:=zaJ hb1 HA2.out;have z1:=(AtBd.on HAt.out hb1) 1 _ rfl)
    go_ret2;exact ⟨rfl,HB.out.trans (hb1.mono HB.out.size)⟩
   ·have hw1':¬ (wh:Int)<1:=by omega
    have hw2':(wh:Int)>4:=by omega
    go_enter Tryz.func13,Tryz.ntmps13
    go_wp2_with (go_at_call 27;rw [HW2.out];refine C.out.mono ?_;intro e w1 h1;obtain ⟨rfl,hb1⟩:=h1;clear C;have a1:=zaJ hb1 HA1.out;have a2:=zaJ hb1 HA2.out;have z1:=(AtBd.on HAt.out hb1) 1 _ rfl)
    go_ret2;exact ⟨rfl,HB.out.trans (hb1.mono HB.out.size)⟩
  rw [if_neg hw] at hT;have hw1':¬ (wh:Int)<1:=by omega
  have hw2':¬ (wh:Int)>4:=by omega
  have HX:Hid (InX p.prg a):=hidI ⟨h0',by rw [hxl];exact hl'⟩;have hmf:∀ (fn:Go.Fn) (first cap:Array Value) (w:World),(Instr.makeFunc fn first cap).run Tryz.prog w=.ok (.func fn first cap) w:=fun _ _ _ _=>rfl
  have HT:=hidI hT;clear hxl hT hw;go_enter Tryz.func13,Tryz.ntmps13
  go_wp2_with (go_at_call 27;rw [HW2.out];refine C.out.mono ?_;intro e w1 h1;obtain ⟨rfl,hb1⟩:=h1;clear C;refine Hid.out ?_)
  have a1:=zaJ hb1 HA1.out;have a2:=zaJ hb1 HA2.out;have hat:=AtBd.on HAt.out hb1;have z0:=hat 0 _ rfl;have z1:=hat 1 _ rfl;have z2:=hat 2 _ rfl;have z3:=hat 3 _ rfl;have hcb:CB w1 w1.heap.size 0 p (w1.alloc (.cells #[.slice da p.ds.length dc,.slice xa p.xs.length xc,.slice sa p.ss.length sc,.slice ma p.ms.length mc,.int .i64 0] 64)):=⟨(Below.refl _ _).alloc (Nat.le_refl _) _,Nat.le_refl _,by
   have h:=box_new w1 w1.heap.size 64 5 #[.slice da p.ds.length dc,.slice xa p.xs.length xc,.slice sa p.ss.length sc,.slice ma p.ms.length mc,.int .i64 0] (Nat.le_refl _) rfl;rw [HE.out.1,HE.out.2.1,HE.out.2.2.1,HE.out.2.2.2];exact h⟩
  have hba:Below (w1.alloc (.cells #[.slice da p.ds.length dc,.slice xa p.xs.length xc,.slice sa p.ss.length sc,.slice ma p.ms.length mc,.int .i64 0] 64)).heap.size (w1.alloc (.cells #[.slice da p.ds.length dc,.slice xa p.xs.length xc,.slice sa p.ss.length sc,.slice ma p.ms.length mc,.int .i64 0] 64)) ((w1.alloc (.cells #[.slice da p.ds.length dc,.slice xa p.xs.length xc,.slice sa p.ss.length sc,.slice ma p.ms.length mc,.int .i64 0] 64)).alloc (.cells #[.int .u8 0] 36)):=(Below.refl _ _).alloc (Nat.le_refl _) _;have hbb:Below w1.heap.size w1 ((w1.alloc (.cells #[.slice da p.ds.length dc,.slice xa p.xs.length xc,.slice sa p.ss.length sc,.slice ma p.ms.length mc,.int .i64 0] 64)).alloc (.cells #[.int .u8 0] 36)):=by exact belowT
  have CC:=hidI (kcaught_any (b3:=w1.heap.size+1) (HP2.out.below hb1) HWF.out HD24.out HX.out wh _ (hcb.on hba) (zaJ hbb a1) (zaJ hbb a2) (by go_simp) (by go_simp) (by omega));have HB1:=hidI (HB.out.trans (hb1.mono HB.out.size));clear hcb hba hbb hat hb1;refine hidI ?_;cases hk:kX p.prg wh a with
  | none=>
   rw [hk] at CC;have ht:=HT.out;rw [hk] at ht;cases ht;clear hk
   go_wp2_with (go_at_call 29;refine CC.out.mono ?_;intro e w5 h5;obtain ⟨⟨rfl,k5⟩,hb5⟩:=h5;clear CC)
   go_ret2;exact ⟨rfl,HB1.out.trans (hb5.mono HB1.out.size)⟩
  | some k=>
   rw [hk] at CC;have ht:=HT.out;rw [hk] at ht;cases ht;clear hk
   go_wp2_with (go_at_call 29;refine CC.out.mono ?_;intro e w5 h5;obtain ⟨⟨rfl,k5⟩,hb5⟩:=h5;clear CC)
   go_ret2;exact ⟨rfl,HB1.out.trans (hb5.mono HB1.out.size)⟩
def tyCheck (P:Prg):Int × Int:=if soundP P then (if (declR P.decls 0 P.decls).2=0 then chkR P else (-1,9)) else (-1,3)
set_option maxRecDepth 100000 in
set_option maxHeartbeats 2000000 in
theorem tcheck_of (p:PV) (w:World) (hL:Laid w) (hp:SeesPv w p) (ho:PrgOk p.prg) (hd:soundP p.prg=true→p.ds.length≤24) (hC:soundP p.prg=true→CstH p) :
  Calls Tryz.prog 10 #[.agg #[p.dv,p.xv,p.sv,p.mv]] w fun e w'=>e=.returned (.tuple #[.int .i64 (tyCheck p.prg).1,.int .i64 (tyCheck p.prg).2])∧Below w.heap.size w w':=by
 obtain ⟨_,da,dc,hdv,_⟩:=id hp.d;obtain ⟨_,xa,xc,hxv,_⟩:=id hp.x;obtain ⟨_,sa,sc,hsv,_⟩:=id hp.s;obtain ⟨_,ma,mc,hmv,_⟩:=id hp.m;obtain ⟨w2,hw2⟩:∃ w2,w.alloc (.cells #[.slice da p.ds.length dc,.slice xa p.xs.length xc,.slice sa p.ss.length sc,.slice ma p.ms.length mc] 27)=w2:=⟨_,rfl⟩;have hb:Below w.heap.size w w2:=hw2▸(Below.refl _ _).alloc (Nat.le_refl _) _;have hAt:=AtBd.new w 27 #[.slice da p.ds.length dc,.slice xa p.xs.length xc,.slice sa p.ss.length sc,.slice ma p.ms.length mc];rw [hw2] at hAt;have C:=hidI (sound_any p w2 (hL.on hb) (hp.below hb) ho);have HB:=hidI hb;have HP:=hidI hp;have HP2:=hidI (hp.below hb);have HO:=hidI ho;have HLL:=hidI hd;have HCH:=hidI hC;have HLA:=hidI hL;have HAt:=hidI hAt;have HDN:Hid (∀ d∈p.ds,d.name.size≤140737488355328∧d.side<256):=hidI (fun d hd=>⟨(ho.d d hd).2.2,(ho.d d hd).1⟩);have HE:Hid (p.dv=.slice da p.ds.length dc∧p.xv=.slice xa p.xs.length xc∧p.sv=.slice sa p.ss.length sc∧p.mv=.slice ma p.ms.length mc):=hidI ⟨hdv,hxv,hsv,hmv⟩;rw [hdv,hxv,hsv,hmv] at C;rw [hdv,hxv,hsv,hmv];have HW2:=hidI hw2;cases hS:soundP p.prg with
 | false=>
  have HR:Hid (tyCheck p.prg=(-1,3)):=hidI (by unfold tyCheck;rw [hS];rfl);rw [hS] at C;rw [HR.out];clear hdv hxv hsv hmv hb hp ho hL hd hC HR hw2 hAt hS;go_enter Tryz.func10,Tryz.ntmps10
  go_wp2_with (go_at_call 27;rw [HW2.out];refine C.out.mono ?_;intro e w1 h1;obtain ⟨rfl,hb1⟩:=h1;clear C)
  go_ret2;exact ⟨rfl,HB.out.trans (hb1.mono HB.out.size)⟩
 | true=>
  have HD24:=hidI (hd hS);have HWP:=hidI (hC hS);have HR:Hid (tyCheck p.prg=if (declR p.ds 0 p.ds).2=0 then chkR p.prg else (-1,9)):=hidI (by unfold tyCheck;rw [hS];rfl);rw [hS] at C;have CD:=hidI (fun (u:World) (hu:Below w2.heap.size w2 u)=>declared_any u (HLA.out.on (HB.out.trans (hu.mono HB.out.size))) p.dv p.ds (HP2.out.below hu).d (by have:=HD24.out;omega) HDN.out);rw [hdv] at CD;obtain ⟨R,hR⟩:∃ R,tyCheck p.prg=R:=⟨_,rfl⟩;rw [hR] at HR ⊢;obtain ⟨⟨ra,re⟩,hRD⟩:∃ R,declR p.ds 0 p.ds=R:=⟨_,rfl⟩;rw [hRD] at HR CD;clear hdv hxv hsv hmv hb hp ho hL hd hC hw2 hAt hS hR hRD;by_cases hre:re=0
  ·subst hre;have HRR:Hid (R=chkR p.prg):=hidI (by rw [HR.out];simp);go_enter Tryz.func10,Tryz.ntmps10
   go_wp2_with (first
    | (go_at_call 27;rw [HW2.out];refine C.out.mono ?_;intro e w1 h1;obtain ⟨rfl,hb1⟩:=h1;clear C;have H1:=hidI hb1;have HA1:=hidI (AtBd.on HAt.out hb1);have z0:=HA1.out 0 _ rfl;have z1:=HA1.out 1 _ rfl;have z2:=HA1.out 2 _ rfl;have z3:=HA1.out 3 _ rfl;clear hb1)
    | (go_at_call 28;refine Calls.mono (CD.out _ H1.out) ?_;intro e w3 h3;obtain ⟨⟨kv,rfl,_⟩,hb3⟩:=h3;clear CD;have H3:=hidI (H1.out.trans (hb3.mono H1.out.size));have HA3:=hidI (AtBd.on HA1.out hb3);clear hb3;refine Hid.out ?_))
   refine hidI ?_;have z0:=HA3.out 0 _ rfl;have z1:=HA3.out 1 _ rfl;have z2:=HA3.out 2 _ rfl;have z3:=HA3.out 3 _ rfl;have HS3:=hidI (HP2.out.below H3.out);have hmf:∀ (fn:Go.Fn) (first cap:Array Value) (w:World),(Instr.makeFunc fn first cap).run Tryz.prog w=.ok (.func fn first cap) w:=fun _ _ _ _=>rfl
   have HCB:Hid (CB w3 w3.heap.size 0 p (w3.alloc (.cells #[.slice da p.ds.length dc,.slice xa p.xs.length xc,.slice sa p.ss.length sc,.slice ma p.ms.length mc,.int .i64 0] 64))):=hidI ⟨(Below.refl _ _).alloc (Nat.le_refl _) _,Nat.le_refl _,by
    have h:=box_new w3 w3.heap.size 64 5 #[.slice da p.ds.length dc,.slice xa p.xs.length xc,.slice sa p.ss.length sc,.slice ma p.ms.length mc,.int .i64 0] (Nat.le_refl _) rfl;rw [HE.out.1,HE.out.2.1,HE.out.2.2.1,HE.out.2.2.2];exact h⟩
   have CC:=hidI (tycaught_of HS3.out HWP.out HO.out 0 _ HCB.out)
   go_wp2_with (go_at_call 29;refine CC.out.mono ?_;intro e w5 h5;obtain ⟨rfl,hb5⟩:=h5;clear CC)
   go_ret2;exact ⟨by rw [HRR.out];rfl,HB.out.trans ((H3.out.trans (hb5.mono H3.out.size)).mono HB.out.size)⟩
  ·have HRR:Hid (R=(-1,9)):=hidI (by rw [HR.out,if_neg hre]);have e1:(re != 0)=true:=by simpa using hre
   have e2:(re==0)=false:=by simpa using hre
   go_enter Tryz.func10,Tryz.ntmps10
   go_wp2_with (first
    | (go_at_call 27;rw [HW2.out];refine C.out.mono ?_;intro e w1 h1;obtain ⟨rfl,hb1⟩:=h1;clear C;have H1:=hidI hb1;have HA1:=hidI (AtBd.on HAt.out hb1);have z0:=HA1.out 0 _ rfl;clear hb1)
    | (go_at_call 28;refine Calls.mono (CD.out _ H1.out) ?_;intro e w3 h3;obtain ⟨⟨kv,rfl,_⟩,hb3⟩:=h3;clear CD;have H3:=hidI (H1.out.trans (hb3.mono H1.out.size));clear hb3))
   go_ret2;exact ⟨by rw [HRR.out];rfl,HB.out.trans (H3.out.mono HB.out.size)⟩
theorem dsees_own {w:World} {base:Nat} {p:PV} (h:OwnP w base p):SeesPv w p where
 d:=zbD (h.own (dRow p) (by simp))
 x:=zbD (h.own (xRow p) (by simp))
 s:=zbD (h.own (sRow p) (by simp))
 m:=zbD (h.own (mRow p) (by simp))
 xk:=fun x hx=>zbD (h.own (kRow x) (by simp only [List.mem_cons,List.mem_append,List.mem_map];exact .inr (.inr (.inr (.inr (.inl ⟨x,hx,rfl⟩))))))
 sa:=fun x hx=>zbD (h.own ⟨x.av,75,6,x.s.acts.length,flatAc x.s.acts⟩ (by simp only [List.mem_cons,List.mem_append,List.mem_flatMap];exact .inr (.inr (.inr (.inr (.inr ⟨x,hx,by simp [sRows]⟩))))))
 st:=fun x hx=>zbD (h.own ⟨x.tv,3,1,x.s.thn.length,intsI x.s.thn⟩ (by simp only [List.mem_cons,List.mem_append,List.mem_flatMap];exact .inr (.inr (.inr (.inr (.inr ⟨x,hx,by simp [sRows]⟩))))))
 se:=fun x hx=>zbD (h.own ⟨x.ev,3,1,x.s.els.length,intsI x.s.els⟩ (by simp only [List.mem_cons,List.mem_append,List.mem_flatMap];exact .inr (.inr (.inr (.inr (.inr ⟨x,hx,by simp [sRows]⟩))))))
def txtA:Txt:=[40,105,110,116,32,97,41,32,40,110,98,111,111,108,32,98,41,32,40,115,101,116,32,97,32,49,41,32,40,101,97,99,104,32,40,112,117,116,32,98,32,40,61,32,40,105,100,41,32,48,41,41,41]
def txtB:Txt:=[40,105,110,116,32,97,41,32,40,115,101,116,32,97,32,116,114,117,101,41]
theorem ok11A:((pieces txtA).all fun q=>okW q.2)=true:=by decide +kernel
theorem ok11B:((pieces txtB).all fun q=>okW q.2)=true:=by decide +kernel
def stOf (ts:List Tok):St:=match parse ts with|.ok σ=>σ|.error _=>begin0
def prgOf (t:Txt):Prg:=match rdTop (stOf ((pieces t).map tokW)).forms (stOf ((pieces t).map tokW)).top pv0.prg with|.ok P=>P|.error _=>pv0.prg
theorem srcD_run {t:Txt} (h:((pieces t).all fun q=>okW q.2)=true) (hl:(pieces t).length≤600) (hn:t.length≤3000) {σ:St} {P:Prg} (hp:parse ((pieces t).map tokW)=.ok σ) (hr:rdTop σ.forms σ.top pv0.prg=.ok P):srcD (bytesOf t)=.ok P:=by
 unfold srcD;rw [lex_ok h hl hn];simp only [if_true];rw [hp];exact hr
def prgA:Prg:=prgOf txtA
def prgB:Prg:=prgOf txtB
theorem parseA:parse ((pieces txtA).map tokW)=.ok (stOf ((pieces txtA).map tokW)):=by kernel_rfl
theorem parseB:parse ((pieces txtB).map tokW)=.ok (stOf ((pieces txtB).map tokW)):=by kernel_rfl
theorem topA:rdTop (stOf ((pieces txtA).map tokW)).forms (stOf ((pieces txtA).map tokW)).top pv0.prg=.ok prgA:=by kernel_rfl
theorem topB:rdTop (stOf ((pieces txtB).map tokW)).forms (stOf ((pieces txtB).map tokW)).top pv0.prg=.ok prgB:=by kernel_rfl
theorem srcA:srcD (bytesOf txtA)=.ok prgA:=srcD_run ok11A (by decide +kernel) (by decide) parseA topA
theorem srcB:srcD (bytesOf txtB)=.ok prgB:=srcD_run ok11B (by decide +kernel) (by decide) parseB topB
theorem checkA:tyCheck prgA=(0,0):=by kernel_rfl
theorem checkB:tyCheck prgB=(0,9):=by kernel_rfl
theorem kindA:tyKind prgA 0 1=(1,0):=by kernel_rfl
theorem src_wf {s:ByteArray} {P:Prg} (h:srcD s=.ok P):WfP P∧P.decls.length≤24:=by
 unfold srcD at h;split at h;split at h
 ·split at h
  ·exact read_wf h
  ·cases h
 ·cases h
def SrcP (P:Prg) (w:World) (e:Ending) (w':World):Prop:=∃ (p:PV) (da xa sa ma:Option Addr) (dc xc sc mc:Nat),p.prg=P∧PrgOk P∧(p.dv=.slice da p.ds.length dc∧p.xv=.slice xa p.xs.length xc∧p.sv=.slice sa p.ss.length sc∧p.mv=.slice ma p.ms.length mc)∧e=.returned (.tuple #[.agg #[.slice da p.ds.length dc,.slice xa p.xs.length xc,.slice sa p.ss.length sc,.slice ma p.ms.length mc],.int .i64 0,.int .i64 0])∧SeesPv w' p∧Below w.heap.size w w'
theorem srcP_of {s:ByteArray} {P:Prg} (h:srcD s=.ok P) (w:World):Calls Tryz.prog 9 #[.string s] w (SrcP P w):=by
 refine (dsource_any s w).mono fun e w' h9 => ?_
 rw [h] at h9;obtain ⟨⟨ho,p,hp,he,hO⟩,hb⟩:=h9;obtain ⟨da,dc,hdv⟩:∃ da dc,p.dv=.slice da p.ds.length dc:=zaH (RowsP.head (r:=dRow p) hO);obtain ⟨xa,xc,hxv⟩:∃ xa xc,p.xv=.slice xa p.xs.length xc:=zaH (RowsP.head (r:=xRow p) hO.rest);obtain ⟨sa,sc,hsv⟩:∃ sa sc,p.sv=.slice sa p.ss.length sc:=zaH (RowsP.head (r:=sRow p) hO.rest.rest);obtain ⟨ma,mc,hmv⟩:∃ ma mc,p.mv=.slice ma p.ms.length mc:=zaH (RowsP.head (r:=mRow p) hO.rest.rest.rest);refine ⟨p,da,xa,sa,ma,dc,xc,sc,mc,hp,ho,⟨hdv,hxv,hsv,hmv⟩,?_,dsees_own hO,hb⟩;rw [he,pval,hdv,hxv,hsv,hmv]
def plainS (P:Prg):Bool:=P.stmts.all fun s=>decide (s.k=1) || (decide (s.k=3) && s.acts.all fun a=>decide (a.k=1))
theorem cstH_plain {p:PV} (hwf:WfP p.prg) (ho:PrgOk p.prg) (hd:p.ds.length≤24) (hpl:plainS p.prg=true):CstH p:=by
 intro c i x hx aa ta ea ac tc ec ha w h;have hxs:x.s∈p.prg.stmts:=List.mem_map.2 ⟨x,hx,rfl⟩;have hw:=hwf.s x.s hxs;have hl:=(ho.s x.s hxs).2.2.2.1;have hk:=List.all_eq_true.1 hpl x.s hxs;have hv:=h.s.sa x hx;rw [ha] at hv;obtain ⟨⟨sk,snm,sop,se,scd,sacts,sthn,sels⟩,av,tv,ev⟩:=x;simp only [Bool.or_eq_true,Bool.and_eq_true,decide_eq_true_eq,List.all_eq_true] at hw hl hv hk ⊢;rcases hk with rfl|⟨rfl,hk⟩
 ·exact cst_1 hwf.x hd hw w h
 ·refine cst_3_of (fun a ha u hu => ?_) w h hv hl;have h1:=hk a ha;obtain ⟨ak,anm,aop,ain,ae,acd⟩:=a;simp only at h1;subst h1;exact cact_1 hwf.x hd (hw.2.2 rfl _ ha) u hu
theorem tcheck_open {P:Prg} (hpl:plainS P=true) (hw:WfP P∧P.decls.length≤24) (ho:PrgOk P) {p:PV} (hp:p.prg=P) {da xa sa ma:Option Addr} {dc xc sc mc:Nat} (hv:p.dv=.slice da p.ds.length dc∧p.xv=.slice xa p.xs.length xc∧p.sv=.slice sa p.ss.length sc∧p.mv=.slice ma p.ms.length mc) {R:Int × Int} (hR:tyCheck P=R) (w:World) (hL:Laid w) (hs:SeesPv w p) :
  Calls Tryz.prog 10 #[.agg #[.slice da p.ds.length dc,.slice xa p.xs.length xc,.slice sa p.ss.length sc,.slice ma p.ms.length mc]] w fun e w'=>e=.returned (.tuple #[.int .i64 R.1,.int .i64 R.2])∧Below w.heap.size w w':=by
 obtain ⟨h1,h2,h3,h4⟩:=hv;subst hp;have h:=tcheck_of p w hL hs ho (fun _=>hw.2) (fun _=>cstH_plain hw.1 ho hw.2 hpl);rw [h1,h2,h3,h4,hR] at h;exact h
theorem tkind_open {P:Prg} (hw:WfP P∧P.decls.length≤24) (ho:PrgOk P) {p:PV} (hp:p.prg=P) {da xa sa ma:Option Addr} {dc xc sc mc:Nat} (hv:p.dv=.slice da p.ds.length dc∧p.xv=.slice xa p.xs.length xc∧p.sv=.slice sa p.ss.length sc∧p.mv=.slice ma p.ms.length mc) (a:Int) (wh:Nat) {R:Nat × Int} (hR:tyKind P a wh=R) (w:World) (hL:Laid w) (hs:SeesPv w p) :
  Calls Tryz.prog 13 #[.agg #[.slice da p.ds.length dc,.slice xa p.xs.length xc,.slice sa p.ss.length sc,.slice ma p.ms.length mc],.int .i64 a,.int .u8 (wh:Int)] w fun e w'=>e=.returned (.tuple #[.int .u8 (R.1:Int),.int .i64 R.2])∧Below w.heap.size w w':=by
 obtain ⟨h1,h2,h3,h4⟩:=hv;subst hp;have h:=tkind_any p a wh w hL hs ho hw.2 hw.1.x;rw [h1,h2,h3,h4,hR] at h;exact h
set_option maxRecDepth 100000 in
set_option maxHeartbeats 4000000 in
theorem live11_any (w:World) (hL:Laid w):Calls Tryz.prog 12 #[] w fun e w'=>e=.returned (.bool true)∧Below w.heap.size w w':=by
 have C1:Hid (Calls Tryz.prog 9 #[.string ⟨#[40,105,110,116,32,97,41,32,40,110,98,111,111,108,32,98,41,32,40,115,101,116,32,97,32,49,41,32,40,101,97,99,104,32,40,112,117,116,32,98,32,40,61,32,40,105,100,41,32,48,41,41,41]⟩] w (SrcP prgA w)):=hidI (srcP_of srcA w);have C2:Hid (∀ W,Calls Tryz.prog 9 #[.string ⟨#[40,105,110,116,32,97,41,32,40,115,101,116,32,97,32,116,114,117,101,41]⟩] W (SrcP prgB W)):=hidI (srcP_of srcB);have HL:=hidI hL;clear hL;go_enter Tryz.func12,Tryz.ntmps12
 go_wp2_with (first
  | (go_at_call 9;refine C1.out.mono ?_;intro e w1 h1;obtain ⟨p1,d1,x1,s1,m1,e1,y1,t1,n1,hp1,ho1,hv1,rfl,hs1,hb1⟩:=h1;have HA:=hidI (AtBd.new w1 27 #[.slice d1 p1.ds.length e1,.slice x1 p1.xs.length y1,.slice s1 p1.ss.length t1,.slice m1 p1.ms.length n1]);have hba:Below w1.heap.size w1 (w1.alloc (.cells #[.slice d1 p1.ds.length e1,.slice x1 p1.xs.length y1,.slice s1 p1.ss.length t1,.slice m1 p1.ms.length n1] 27)):=(Below.refl _ _).alloc (Nat.le_refl _) _;have HS1:=hidI (hs1.below hba);have HB1:=hidI (hb1.trans (hba.mono hb1.size));have HP1:=hidI hp1;have HO1:=hidI ho1;have HV1:=hidI hv1;clear hba hp1 ho1 hv1 hs1 hb1 C1)
  | (go_at_call 9;refine Calls.mono (C2.out _) ?_;intro e w2 h2;obtain ⟨p2,d2,x2,s2,m2,e2,y2,t2,n2,hp2,ho2,hv2,rfl,hs2,hb2⟩:=h2;clear C2;refine Hid.out ?_))
 have hbc:Below w2.heap.size w2 (w2.alloc (.cells #[.slice d2 p2.ds.length e2,.slice x2 p2.xs.length y2,.slice s2 p2.ss.length t2,.slice m2 p2.ms.length n2] 27)):=(Below.refl _ _).alloc (Nat.le_refl _) _;have HB2:=hidI ((HB1.out.trans (hb2.mono HB1.out.size)).trans (hbc.mono (HB1.out.trans (hb2.mono HB1.out.size)).size));have HA2:=hidI (AtBd.on (AtBd.on HA.out hb2) hbc);have HBt:=hidI (AtBd.new w2 27 #[.slice d2 p2.ds.length e2,.slice x2 p2.xs.length y2,.slice s2 p2.ss.length t2,.slice m2 p2.ms.length n2]);have HS12:=hidI ((HS1.out.below hb2).below hbc);have HS2:=hidI (hs2.below hbc);have za0:=HA2.out 0 _ rfl;have za1:=HA2.out 1 _ rfl;have za2:=HA2.out 2 _ rfl;have za3:=HA2.out 3 _ rfl;have K1:=hidI (tcheck_open (by decide +kernel) (src_wf srcA) HO1.out HP1.out HV1.out checkA _ (HL.out.on HB2.out) HS12.out);have K2:Hid (∀ W,Laid W→SeesPv W p2→Calls Tryz.prog 10 #[.agg #[.slice d2 p2.ds.length e2,.slice x2 p2.xs.length y2,.slice s2 p2.ss.length t2,.slice m2 p2.ms.length n2]] W fun e w'=>e=.returned (.tuple #[.int .i64 0,.int .i64 9])∧Below W.heap.size W w'):=hidI (fun W hW hsW=>tcheck_open (by decide +kernel) (src_wf srcB) ho2 hp2 hv2 checkB W hW hsW);have K3:Hid (∀ W,Laid W→SeesPv W p1→Calls Tryz.prog 13 #[.agg #[.slice d1 p1.ds.length e1,.slice x1 p1.xs.length y1,.slice s1 p1.ss.length t1,.slice m1 p1.ms.length n1],.int .i64 0,.int .u8 1] W fun e w'=>e=.returned (.tuple #[.int .u8 1,.int .i64 0])∧Below W.heap.size W w'):=hidI (fun W hW hsW=>tkind_open (src_wf srcA) HO1.out HP1.out HV1.out 0 1 kindA W hW hsW)
 clear hbc hb2 hs2 hp2 ho2 hv2 HA HS1 HB1 HP1 HO1 HV1;refine hidI ?_
 go_wp2_with (first
  | (go_at_call 10;refine K1.out.mono ?_;intro e w3 h3;obtain ⟨rfl,hb3⟩:=h3;clear K1;have HB3:=hidI (HB2.out.trans (hb3.mono HB2.out.size));have HA3:=hidI (AtBd.on HA2.out hb3);have hbt:=AtBd.on HBt.out hb3;have zb0:=hbt 0 _ rfl;have zb1:=hbt 1 _ rfl;have zb2:=hbt 2 _ rfl;have zb3:=hbt 3 _ rfl;have HS13:=hidI (HS12.out.below hb3);have HS23:=hidI (HS2.out.below hb3);clear hb3 hbt)
  | (go_at_call 10;refine Calls.mono (K2.out _ (HL.out.on HB3.out) HS23.out) ?_;intro e w4 h4;obtain ⟨rfl,hb4⟩:=h4;clear K2;have HB4:=hidI (HB3.out.trans (hb4.mono HB3.out.size));have hat:=AtBd.on HA3.out hb4;have zc0:=hat 0 _ rfl;have zc1:=hat 1 _ rfl;have zc2:=hat 2 _ rfl;have zc3:=hat 3 _ rfl;have HS14:=hidI (HS13.out.below hb4);clear hb4 hat)
  | (go_at_call 13;refine Calls.mono (K3.out _ (HL.out.on HB4.out) HS14.out) ?_;intro e w5 h5;obtain ⟨rfl,hb5⟩:=h5;clear K3;have HB5:=hidI (HB4.out.trans (hb5.mono HB4.out.size));clear hb5))
 go_ret;exact ⟨rfl,HB5.out⟩
end Go.Proofs.YtfljimpgnlfipaaGreatDoor
