/-
  Part 9 of the proof: DrY, DrE0, DrE1, DrE2, DrE3.
-/
import Derived.Test.YtfljimpgnlfipaaGreatDoorTE08
import Derived.Test.YtfljimpgnlfipaaGreatDoorTE04
namespace Go.Proofs.YtfljimpgnlfipaaGreatDoor
open Go.RowKit Go.Deep Go.MapKept
def XOk (x:Exp):Prop:=x.k<256∧x.of<256∧x.op<256∧SmlN x.name∧x.kids.length≤1099511627776
set_option maxRecDepth 100000 in
set_option maxHeartbeats 4000000 in
theorem zdE {c:Dx} {p:PV} {er:Option (Int × Int)} {X:List Rw} {w:World} {x:Exp} {kv:Value} (h:DrS c p er (iRow kv x.kids::X) w) (hx:XOk x) (hm:p.xs.length≤999):Calls Tryz.prog 151 #[.pointer (some ⟨c.B,0,none⟩),xval x kv] w fun e w'=>e=.returned (.int .i64 (p.xs.length:Int))∧∃ u,DrS c { p with xs:=p.xs++[(x,kv)],xv:=u } er X w':=by
 obtain ⟨ka,kc,hkv⟩:∃ ka kc,kv=.slice ka x.kids.length kc:=zaH (RowsP.head (r:=iRow kv x.kids) h.first);subst hkv;obtain ⟨m,hml⟩:∃ m,p.xs.length=m:=⟨_,rfl⟩;have s2:=h.alloc (.cells #[.int .u8 (x.k:Int),.int .u8 (x.of:Int),.int .u8 (x.op:Int),.string x.name,.int .i64 x.num,.slice ka x.kids.length kc] 82);have HS2:=hidI s2.drew;have HS1:=hidI h;have HX:=hidI hx;have HML:=hidI hml;have x0:(w.alloc (.cells #[.int .u8 (x.k:Int),.int .u8 (x.of:Int),.int .u8 (x.op:Int),.string x.name,.int .i64 x.num,.slice ka x.kids.length kc] 82)).drew.cell? ⟨w.heap.size,0,none⟩=some (.int .u8 (x.k:Int)):=by go_simp
 have x1:(w.alloc (.cells #[.int .u8 (x.k:Int),.int .u8 (x.of:Int),.int .u8 (x.op:Int),.string x.name,.int .i64 x.num,.slice ka x.kids.length kc] 82)).drew.cell? ⟨w.heap.size,1,none⟩=some (.int .u8 (x.of:Int)):=by go_simp
 have x2:(w.alloc (.cells #[.int .u8 (x.k:Int),.int .u8 (x.of:Int),.int .u8 (x.op:Int),.string x.name,.int .i64 x.num,.slice ka x.kids.length kc] 82)).drew.cell? ⟨w.heap.size,2,none⟩=some (.int .u8 (x.op:Int)):=by go_simp
 have x3:(w.alloc (.cells #[.int .u8 (x.k:Int),.int .u8 (x.of:Int),.int .u8 (x.op:Int),.string x.name,.int .i64 x.num,.slice ka x.kids.length kc] 82)).drew.cell? ⟨w.heap.size,3,none⟩=some (.string x.name):=by go_simp
 have x4:(w.alloc (.cells #[.int .u8 (x.k:Int),.int .u8 (x.of:Int),.int .u8 (x.op:Int),.string x.name,.int .i64 x.num,.slice ka x.kids.length kc] 82)).drew.cell? ⟨w.heap.size,4,none⟩=some (.int .i64 x.num):=by go_simp
 have x5:(w.alloc (.cells #[.int .u8 (x.k:Int),.int .u8 (x.of:Int),.int .u8 (x.op:Int),.string x.name,.int .i64 x.num,.slice ka x.kids.length kc] 82)).drew.cell? ⟨w.heap.size,5,none⟩=some (.slice ka x.kids.length kc):=by go_simp
 have HX0:=hidI x0;have HX1:=hidI x1;have HX2:=hidI x2;have HX3:=hidI x3;have HX4:=hidI x4;have HX5:=hidI x5;have e1:IntKind.i64.wrap (((m+1:Nat):Int)-1)=(m:Int):=by rw [show (((m+1:Nat):Int)-1)=(m:Int) by omega,IntKind.wrap_i64];omega
 have HE1:=hidI e1;rw [hml] at hm ⊢;clear s2 h hx hml x0 x1 x2 x3 x4 x5 e1;go_enter Tryz.func151,Tryz.ntmps151;go_wp2;refine drgX (B:=c.B) (eb:=w.heap.size) (base:=c.w0.heap.size) (n:=p.xs.length) (u:=p.xv) (xs:=flatX p.xs) (HS2.out.cell (j:=2) rfl) HX0.out HX1.out HX2.out HX3.out HX4.out HX5.out (HS2.out.free 2) HS2.out.xown.head (by have:=HML.out;omega) HS2.out.size (zbJ HS2.out.xown) (fun e=>by have:=(HS1.out.xown.head.lt _ e).2;omega) (by
  intro v hv;simp only [List.mem_cons,List.not_mem_nil,or_false] at hv;rcases hv with rfl|rfl|rfl|rfl|rfl|rfl<;>rfl) (fun _ _ _ _ _ h=>h) ?_
 intro W5 u' t5 t6 t7 t8 t9 t10 t11 t12 t13 t14 t15 t16 hg ho ha;have s5:=DrS.addX (x:=x) (kv:=.slice ka x.kids.length kc) (HS2.out.alloc (.cells #[.int .u8 (x.k:Int),.int .u8 (x.of:Int),.int .u8 (x.op:Int),.string x.name,.int .i64 x.num,.slice ka x.kids.length kc] 82)) HX.out (by have:=HML.out;omega) hg ho (by simpa using ha);have HS5:=hidI s5;obtain ⟨ua,uc,hu⟩:∃ ua uc,u'=.slice ua (p.xs.length+1) uc:=zaH ho;rw [HML.out] at hu;subst hu;have c7:=s5.cell (j:=2) (u:=.slice ua (m+1) uc) rfl;obtain ⟨W6,hW6⟩:∃ W6,W5.setCell ⟨c.B,2,none⟩ (.slice ua (m+1) uc)=W6:=⟨_,rfl⟩;rw [hW6] at HS5 c7 ⊢;have e1:=HE1.out;clear hg ho ha s5 HX0 HX1 HX2 HX3 HX4 HX5 HS2 hW6;go_wp2;go_ret;exact ⟨rfl,_,HS5.out⟩
theorem darity_any (o:Nat) (ho:o≤19) (w:World):Calls Tryz.prog 156 #[.int .u8 (o:Int)] w fun e w'=>e=.returned (.int .i64 (arityN o:Int))∧w'=w:=by
 have hm:o=0∨o=1∨o=2∨o=3∨o=4∨o=5∨o=6∨o=7∨o=8∨o=9∨o=10∨o=11∨o=12∨o=13∨o=14∨o=15∨o=16∨o=17∨o=18∨o=19:=by omega
 rcases hm with rfl|rfl|rfl|rfl|rfl|rfl|rfl|rfl|rfl|rfl|rfl|rfl|rfl|rfl|rfl|rfl|rfl|rfl|rfl|rfl
 all_goals
  go_enter Tryz.func156,Tryz.ntmps156;go_wp2;go_ret;exact ⟨rfl,rfl⟩
theorem dred_any (o:Nat) (ho:o≤19) (w:World):Calls Tryz.prog 157 #[.int .u8 (o:Int)] w fun e w'=>(∃ q,e=.returned (.tuple #[.int .i64 q,.bool (redN o)]))∧w'=w:=by
 have hm:o=0∨o=1∨o=2∨o=3∨o=4∨o=5∨o=6∨o=7∨o=8∨o=9∨o=10∨o=11∨o=12∨o=13∨o=14∨o=15∨o=16∨o=17∨o=18∨o=19:=by omega
 rcases hm with rfl|rfl|rfl|rfl|rfl|rfl|rfl|rfl|rfl|rfl|rfl|rfl|rfl|rfl|rfl|rfl|rfl|rfl|rfl|rfl
 all_goals
  go_enter Tryz.func157,Tryz.ntmps157;go_wp2;go_ret2;exact ⟨⟨_,rfl⟩,rfl⟩
def StepR {α:Type} (g:Nat→α→Except Int (Int × α)) (k:Nat) (er:Option (Int × Int)) (es:α) (er2:Option (Int × Int)) (v:Int) (es2:α):Prop:=
 match er with
 | some x=>er2=some x
 | none=>match g k es with
  | .ok (i,es')=>er2=none∧v=i∧es2=es'
  | .error a=>er2=some (a,8)
def Going {α:Type} (g:Nat→α→Except Int (Int × α)) (ks:List Nat) (T:Except Int (List Int × α)) (is:List Int) (er:Option (Int × Int)) (es:α):Prop:=
 match er with
 | none=>(match rows g ks es with
  | .ok (js,e2)=>T=.ok (is++js,e2)
  | .error a=>T=.error a)
 | some x=>∃ a,x=(a,8)∧T=.error a
theorem Going.start {α:Type} (g:Nat→α→Except Int (Int × α)) (ks:List Nat) (es:α):Going g ks (rows g ks es) [] none es:=by
 unfold Going;simp only;split
 ·next h=>rw [h];simp
 ·next h=>rw [h]
theorem Going.step {α:Type} {g:Nat→α→Except Int (Int × α)} {k:Nat} {ks:List Nat} {T:Except Int (List Int × α)} {is:List Int} {er er2:Option (Int × Int)} {es es2:α} {v:Int} (h:Going g (k::ks) T is er es) (hs:StepR g k er es er2 v es2):Going g ks T (is++[v]) er2 es2:=by
 cases er with
 | some x=>
  simp only [StepR] at hs;subst hs;exact h
 | none=>
  simp only [StepR] at hs;simp only [Going,rows] at h;cases hg:g k es with
  | error a=>
   rw [hg] at hs h;simp only at hs h;subst hs;exact ⟨a,rfl,h⟩
  | ok q=>
   obtain ⟨i,es'⟩:=q;rw [hg] at hs h;simp only at hs h;obtain ⟨rfl,rfl,rfl⟩:=hs;simp only [Going];cases hr:rows g ks es2 with
   | error a=>rw [hr] at h;simpa using h
   | ok q2=>
    obtain ⟨js,e2⟩:=q2;rw [hr] at h;simp only at h ⊢;rw [h];simp
def DxPost (c:Dx) (p:PV) (er:Option (Int × Int)) (X:List Rw) (f n:Nat) (e:Ending) (w':World):Prop:=
 ∃ p' er' v,e=.returned (.int .i64 v)∧DrS c p' er' X w'∧p'.ds=p.ds∧p'.ms=p.ms∧p'.ss=p.ss∧p'.many≤p.many+c.sz n∧StepR (rdExpr c.l f) n er (p.xs.map Prod.fst) er' v (p'.xs.map Prod.fst)
def DE (c:Dx) (f n:Nat):Prop:=∀ (p:PV) (er:Option (Int × Int)) (X:List Rw) (w:World),DrS c p er X w→p.many+c.sz n≤999→Calls Tryz.prog 102 #[.pointer (some ⟨c.B,0,none⟩),.int .i64 (n:Int)] w (DxPost c p er X f n)
theorem DrS.nilI {c:Dx} {p:PV} {er:Option (Int × Int)} {X:List Rw} {w:World} (h:DrS c p er X w):DrS c p er (iRow (.slice none 0 0) []::X) w:=h.more (h.rows.nil 3 1)
theorem DxPost.add {c:Dx} {p:PV} {X:List Rw} {f n:Nat} {w':World} {x:Exp} {kv u:Value} (hr:rdExpr c.l f n (p.xs.map Prod.fst)=addE (p.xs.map Prod.fst) x) (hz:1≤c.sz n) (h:DrS c { p with xs:=p.xs++[(x,kv)],xv:=u } none X w'):DxPost c p none X f n (.returned (.int .i64 (p.xs.length:Int))) w':=by
 refine ⟨_,_,_,rfl,h,rfl,rfl,rfl,by simp [PV.many];omega,?_⟩;simp only [StepR];rw [hr];simp [addE]
theorem DxPost.bad {c:Dx} {p p':PV} {X:List Rw} {f n:Nat} {w':World} {a v:Int} (hr:rdExpr c.l f n (p.xs.map Prod.fst)=.error a) (h:DrS c p' (some (a,8)) X w') (h1:p'.ds=p.ds) (h2:p'.ms=p.ms) (h3:p'.ss=p.ss) (h4:p'.many≤p.many+c.sz n):DxPost c p none X f n (.returned (.int .i64 v)) w':=by
 refine ⟨_,_,_,rfl,h,h1,h2,h3,h4,?_⟩;simp only [StepR];rw [hr]
theorem xok {k t o:Nat} {nm:ByteArray} {z:Int} (h1:k<256) (h2:t<256) (h3:o<256) (h4:SmlN nm):XOk ⟨k,t,o,nm,z,[]⟩:=⟨h1,h2,h3,h4,by simp⟩
theorem DrS.vapart {c:Dx} {p:PV} {er:Option (Int × Int)} {X:List Rw} {w:World} {r:Rw} {V ty n:Nat} {bs:List Value} (h:DrS c p er (⟨bx V,ty,n,1,bs⟩::r::X) w):r.v.ownBlock≠some V:=by
 have h1:=h.first.far_head r (by simp);rcases h1 with e|e
 ·cases e
 ·exact fun e2=>e e2.symm
theorem DxPost.call {c:Dx} {p p':PV} {X:List Rw} {f n ow:Nat} {w':World} {T:Except Int (List Int × List Exp)} {g:Nat→List Exp→Except Int (Int × List Exp)} {is:List Int} {er':Option (Int × Int)} {kv u:Value} (hr:rdExpr c.l f n (p.xs.map Prod.fst)=match (generalizing:=false) T with
   | .error p=>.error p
   | .ok (is,es')=>addE es' ⟨10,0,ow,emptyS,0,is⟩) (hg:Going g [] T is er' (p'.xs.map Prod.fst)) (h:DrS c { p' with xs:=p'.xs++[(⟨10,0,ow,emptyS,0,is⟩,kv)],xv:=u } er' X w') (h1:p'.ds=p.ds) (h2:p'.ms=p.ms) (h3:p'.ss=p.ss) (hm:p'.many+1≤p.many+c.sz n):DxPost c p none X f n (.returned (.int .i64 (p'.xs.length:Int))) w':=by
 refine ⟨_,_,_,rfl,h,h1,h2,h3,by simp [PV.many] at hm ⊢;omega,?_⟩;simp only [StepR];cases er' with
 | none=>
  simp only [Going,rows] at hg;rw [hr,hg];simp [addE]
 | some x=>
  obtain ⟨a,rfl,hT⟩:=hg;rw [hr,hT]
theorem xokc {o:Nat} {is:List Int} (h3:o<256) (h:is.length≤1000):XOk ⟨10,0,o,emptyS,0,is⟩:=⟨by show 10<256;omega,by show 0<256;omega,h3,(by unfold SmlN;decide:SmlN emptyS),by show is.length≤1099511627776;omega⟩
theorem DrS.swap {c:Dx} {p:PV} {er:Option (Int × Int)} {X:List Rw} {w w':World} {r r':Rw} {V ty n j:Nat} {bs:List Value} (h:DrS c p er (⟨bx V,ty,n,1,bs⟩::r::X) w) (hg:w.grownBy w' r.v.ownBlock) (ho:Own w' c.w0.heap.size r') (hb:r'.v.ownBlock=r.v.ownBlock∨r'.v.ownBlock=some w.heap.size):DrS c p er (⟨bx V,ty,n,1,bs.set j r'.v⟩::r'::X) (w'.setCell ⟨V,j,none⟩ r'.v):=by
 have h0:RowsP w c.w0.heap.size (r::⟨bx V,ty,n,1,bs⟩::(drows c p er++X)):=h.rows.perm ((List.perm_middle.trans (.cons _ List.perm_middle)).trans (.swap _ _ _));have hV:=h.vlt.1;have h1:=rows_swap (j:=j) h0 hg ho hb;refine ⟨zeW (n:=0) (base:=0) (r':=r') h.below h0 hg hV rfl rfl rfl r'.v,?_,h.ok⟩;exact h1.perm ((List.perm_middle.trans (.cons _ List.perm_middle)).symm)
theorem zaW {l:List Frm} {n:Nat} {wd:ByteArray} {ks:List Nat} (h:headF l n=some (wd,ks)):∃ m,(frm l n).kids=m::ks:=by
 unfold headF at h;split at h
 ·split at h
  ·cases h
  ·next m r hm=>
   split at h
   ·simp only [Option.some.injEq,Prod.mk.injEq] at h;obtain ⟨_,rfl⟩:=h;exact ⟨m,hm⟩
   ·cases h
 ·cases h
theorem colOf_lt (s:ByteArray):colOf s<256:=by
 unfold colOf
 repeat' split
 all_goals omega
theorem bareOf_lt (s:ByteArray):bareOf s<256:=by
 unfold bareOf
 repeat' split
 all_goals omega
theorem col_alone {s:ByteArray} (h:¬ colOf s=0):bareOf s=0∧¬ s=(⟨#[100,101,103]⟩:ByteArray)∧opOf s=0:=by
 unfold colOf at h;split at h
 ·next e=>subst e;decide +kernel
 split at h
 ·next e=>subst e;decide +kernel
 split at h
 ·next e=>subst e;decide +kernel
 ·exact absurd rfl h
theorem bare_alone {s:ByteArray} (h:¬ bareOf s=0):¬ s=(⟨#[100,101,103]⟩:ByteArray)∧opOf s=0:=by
 unfold bareOf at h;split at h
 ·next e=>subst e;decide +kernel
 split at h
 ·next e=>subst e;decide +kernel
 split at h
 ·next e=>subst e;decide +kernel
 ·exact absurd rfl h
theorem deg_alone:opOf (⟨#[100,101,103]⟩:ByteArray)=0:=by decide +kernel
theorem zfA {l:List Frm} {f n:Nat} {es:List Exp} {wd:ByteArray} {ks:List Nat} (h4:¬ (frm l n).k=4) (h3:¬ (frm l n).k=3) (hh:headF l n=some (wd,ks)):rdExpr l (f+1) n es=(if colOf wd≠0∧ks.length=1 then
     match nameF l (ks.headD 0) with
     | .error p=>.error p
     | .ok s=>addE es ⟨colOf wd,0,0,s,0,[]⟩
    else if bareOf wd≠0∧ks.length=0 then addE es ⟨bareOf wd,0,0,emptyS,0,[]⟩
    else if wd=(⟨#[100,101,103]⟩:ByteArray)∧ks.length=1∧wordF l (ks.headD 0)=(⟨#[111,117,116]⟩:ByteArray) then addE es ⟨8,0,0,emptyS,0,[]⟩
    else if wd=(⟨#[100,101,103]⟩:ByteArray)∧ks.length=1∧wordF l (ks.headD 0)=(⟨#[105,110]⟩:ByteArray) then addE es ⟨8,0,0,emptyS,1,[]⟩
    else if opOf wd=0∨ks.length≠arityN (opOf wd) then .error (frm l n).p
    else match rows (rdExpr l f) ks es with
     | .error p=>.error p
     | .ok (is,es')=>addE es' ⟨10,0,opOf wd,emptyS,0,is⟩):=by
 simp only [rdExpr,if_neg h4,if_neg h3,hh];rfl
theorem ne_beq {a b:Nat} (h:¬ a=b):((a:Int)==(b:Int))=false:=by rw [beq_eq_false_iff_ne];omega
theorem eq_beq {a b:Nat} (h:a=b):((a:Int)==(b:Int))=true:=by rw [beq_iff_eq];omega
theorem arityN_le (o:Nat):arityN o≤3∧(1≤o→o≤19→1≤arityN o):=by
 unfold arityN;constructor
 ·repeat' split
  all_goals omega
 ·intro h1 h2;rw [if_neg (by omega)]
  repeat' split
  all_goals omega
theorem zaB {c:Dx} {w:World} {qa:Option Addr} {ks:List Nat} {qc:Nat} (h:SeesC c.w0 (.slice qa ks.length qc) ks.length 1 (ints ks)) (hw:Below c.w0.heap.size c.w0 w) {i k:Nat} (hk:ks[i]?=some k):∃ kb ko,qa=some ⟨kb,ko,none⟩∧w.cell? ⟨kb,ko+i,none⟩=some (.int .i64 (k:Int))∧kb<c.w0.heap.size:=by
 have hi:=(List.getElem?_eq_some_iff.1 hk).1;obtain ⟨_,a,cap,e,h0⟩:=h;cases e;rcases h0 with h0|⟨kb,ko,rfl,hc⟩
 ·omega
 ·have:=hc i (.int .i64 (k:Int)) (by simp [ints,hk]);have hb:=World.block_lt_of_cell? c.w0 _ this;exact ⟨kb,ko,rfl,(hw.cell hb).trans this,hb⟩
set_option maxRecDepth 100000 in
set_option maxHeartbeats 16000000 in
theorem dexpr_leaf {c:Dx} (hc:c.Ok) {f n:Nat} (hn:n<c.fs.length) {p:PV} {X:List Rw} {w:World} (h:DrS c p none X w) (hN:p.many+c.sz n≤999) (hH:(frm c.l n).k=4∨(frm c.l n).k=3∨headF c.l n=none) :
  Calls Tryz.prog 102 #[.pointer (some ⟨c.B,0,none⟩),.int .i64 (n:Int)] w (DxPost c p none X (f+1) n):=by
 have HN:=hidI hN;have hz:=hc.kids_sz hn;have hz1:1≤c.sz n:=by omega
 have HZ:=hidI hz;have HZ1:=hidI hz1;have hkl:=hc.kids_lt hn;obtain ⟨x,hx⟩:∃ x,c.fs[n]?=some x:=⟨_,List.getElem?_eq_getElem hn⟩;obtain ⟨g,o,cap,hv,y0,y1,y2,y3,y4⟩:=hc.form h.below hx;have b0:=h.cell (j:=0) (u:=c.fv) rfl;have b5:=h.cell (j:=5) (u:=.bool false) rfl;rw [hv] at b0;have e1:(n:Int)<(c.fs.length:Int):=by omega
 have e2:(0:Int)≤(n:Int):=by omega
 have hfx:=Dx.frm_at hx;have htx:=hc.txt n x hx;obtain ⟨hk,_⟩:=hc.kid n x hx;have hkn0:=hc.kidlen n x hx;obtain ⟨⟨xk,xs,xn,xks,xp⟩,xv⟩:=x;simp only at y0 y1 y2 y3 y4 hfx htx hk hkn0;have hkv:∃ ka kc,xv=.slice ka xks.length kc:=by
  obtain ⟨_,a,cap,e,_⟩:=hk;exact ⟨a,cap,e⟩
 obtain ⟨ka,kc,rfl⟩:=hkv;obtain ⟨W1,hW1⟩:∃ W1,w.alloc (.cells #[.int .u8 xk,.string xs,.int .i64 xn,.slice ka xks.length kc,.int .i64 xp] 97)=W1:=⟨_,rfl⟩;have HS1:Hid (DrS c p none X W1):=hidI (hW1▸h.alloc _);have HW1:=hidI hW1;have a4:W1.cell? ⟨w.heap.size,4,none⟩=some (.int .i64 xp):=by
  rw [←hW1,cell_of_row _ w.heap.size 4 _ _ (0,0) (MapKept.heap_alloc w _).1];rfl
 have HA4:=hidI a4;have HNL:=hidI hn;rw [hfx] at hH;simp only at hH;clear hv h hx hk hn htx hN hz hz1 hW1 a4;by_cases hk4:xk=4
 ·subst hk4;have HR:Hid (rdExpr c.l (f+1) n (p.xs.map Prod.fst)=addE (p.xs.map Prod.fst) ⟨1,1,0,emptyS,xn,[]⟩):=hidI (by simp only [rdExpr,hfx];rfl);have HSN:=hidI HS1.out.nilI;clear hfx hkl hH;go_enter Tryz.func102,Tryz.ntmps102
  go_wp2_with (go_at_call 151;rw [HW1.out];refine Calls.mono (zdE (x:=⟨1,1,0,emptyS,xn,[]⟩) (kv:=.slice none 0 0) HSN.out (xok (by decide) (by decide) (by decide) (by unfold SmlN;decide)) (by have:=HN.out;unfold PV.many at this;omega)) ?_;rintro e wa ⟨rfl,u,ha⟩;have HAD:=hidI ha;clear ha)
  go_ret;exact DxPost.add HR.out HZ1.out HAD.out
 have d4:(xk==4)=false:=by simpa using hk4
 by_cases hk3:xk=3
 ·subst hk3;clear hH;have bt:=zbT xs (⟨#[116,114,117,101]⟩:ByteArray);rw [show (⟨#[116,114,117,101]⟩:ByteArray).toList=[116,114,117,101] from by decide +kernel] at bt;have bf:=zbT xs (⟨#[102,97,108,115,101]⟩:ByteArray);rw [show (⟨#[102,97,108,115,101]⟩:ByteArray).toList=[102,97,108,115,101] from by decide +kernel] at bf;by_cases ht:xs=(⟨#[116,114,117,101]⟩:ByteArray)
  ·rw [decide_eq_true ht] at bt;have HR:Hid (rdExpr c.l (f+1) n (p.xs.map Prod.fst)=addE (p.xs.map Prod.fst) ⟨1,2,0,emptyS,1,[]⟩):=hidI (by simp only [rdExpr,hfx];simp [ht]);have HSN:=hidI HS1.out.nilI;clear hfx hkl ht bf;go_enter Tryz.func102,Tryz.ntmps102
   go_wp2_with (go_at_call 151;rw [HW1.out];refine Calls.mono (zdE (x:=⟨1,2,0,emptyS,1,[]⟩) (kv:=.slice none 0 0) HSN.out (xok (by decide) (by decide) (by decide) (by unfold SmlN;decide)) (by have:=HN.out;unfold PV.many at this;omega)) ?_;rintro e wa ⟨rfl,u,ha⟩;have HAD:=hidI ha;clear ha)
   go_ret;exact DxPost.add HR.out HZ1.out HAD.out
  rw [decide_eq_false ht] at bt;by_cases hf:xs=(⟨#[102,97,108,115,101]⟩:ByteArray)
  ·rw [decide_eq_true hf] at bf;have HR:Hid (rdExpr c.l (f+1) n (p.xs.map Prod.fst)=addE (p.xs.map Prod.fst) ⟨1,2,0,emptyS,0,[]⟩):=hidI (by simp only [rdExpr,hfx];simp [hf]);have HSN:=hidI HS1.out.nilI;clear hfx hkl ht hf;go_enter Tryz.func102,Tryz.ntmps102
   go_wp2_with (go_at_call 151;rw [HW1.out];refine Calls.mono (zdE (x:=⟨1,2,0,emptyS,0,[]⟩) (kv:=.slice none 0 0) HSN.out (xok (by decide) (by decide) (by decide) (by unfold SmlN;decide)) (by have:=HN.out;unfold PV.many at this;omega)) ?_;rintro e wa ⟨rfl,u,ha⟩;have HAD:=hidI ha;clear ha)
   go_ret;exact DxPost.add HR.out HZ1.out HAD.out
  rw [decide_eq_false hf] at bf;have CN:=hidI (dname_any hc HS1.out HNL.out);cases hnm:nameF c.l n with
  | ok s=>
   have HR:Hid (rdExpr c.l (f+1) n (p.xs.map Prod.fst)=addE (p.xs.map Prod.fst) ⟨2,0,0,s,0,[]⟩):=hidI (by simp only [rdExpr,hfx];simp [ht,hf,hnm]);have CN2:Hid (Calls Tryz.prog 58 #[.pointer (some ⟨c.B,0,none⟩),.int .i64 (n:Int)] W1 fun e w'=>e=.returned (.string s)∧DrS c p none X w'∧SmlN s):=hidI (by have:=CN.out;unfold NmPost at this;rwa [hnm] at this);clear hfx hkl ht hf hnm CN;go_enter Tryz.func102,Tryz.ntmps102
   go_wp2_with (first
    | (go_at_call 58;rw [HW1.out];refine CN2.out.mono ?_;rintro e w2 ⟨rfl,hs2,hsm⟩;have HSN:=hidI hs2.nilI;have HSM:=hidI hsm;clear hs2 hsm CN2)
    | (go_at_call 151;refine Calls.mono (zdE (x:=⟨2,0,0,s,0,[]⟩) (kv:=.slice none 0 0) HSN.out (xok (by decide) (by decide) (by decide) (HSM.out)) (by have:=HN.out;unfold PV.many at this;omega)) ?_;rintro e wa ⟨rfl,u,ha⟩;have HAD:=hidI ha;clear ha))
   go_ret;exact DxPost.add HR.out HZ1.out HAD.out
  | error a=>
   have HR:Hid (rdExpr c.l (f+1) n (p.xs.map Prod.fst)=.error a):=hidI (by simp only [rdExpr,hfx];simp [ht,hf,hnm]);have CN2:Hid (Calls Tryz.prog 58 #[.pointer (some ⟨c.B,0,none⟩),.int .i64 (n:Int)] W1 fun e w'=>e=.returned (.string ⟨#[]⟩)∧DrS c p (some (a,8)) X w'):=hidI (by have:=CN.out;unfold NmPost at this;rwa [hnm] at this);clear hfx hkl ht hf hnm CN;go_enter Tryz.func102,Tryz.ntmps102
   go_wp2_with (first
    | (go_at_call 58;rw [HW1.out];refine CN2.out.mono ?_;rintro e w2 ⟨rfl,hs2⟩;have HSN:=hidI hs2.nilI;clear hs2 CN2)
    | (go_at_call 151;refine Calls.mono (zdE (x:=⟨2,0,0,emptyS,0,[]⟩) (kv:=.slice none 0 0) HSN.out (xok (by decide) (by decide) (by decide) (by unfold SmlN;decide)) (by have:=HN.out;unfold PV.many at this;omega)) ?_;rintro e wa ⟨rfl,u,ha⟩;have HAD:=hidI ha;clear ha))
   go_ret;exact DxPost.bad HR.out HAD.out rfl rfl rfl (by have:=HZ1.out;simp [PV.many];omega)
 have d3:(xk==3)=false:=by simpa using hk3
 have CH:=hidI (zbC hc HS1.out HNL.out);have CF:=hidI (fun (W:World) (hb:Below W1.heap.size W1 W)=>zbG (HS1.out.on hb) xp 8);have hh:headF c.l n=none:=by
  rcases hH with h|h|h
  ·exact absurd h hk4
  ·exact absurd h hk3
  ·exact h
 have HR:Hid (rdExpr c.l (f+1) n (p.xs.map Prod.fst)=.error xp):=hidI (by simp only [rdExpr,hfx];rw [if_neg hk4,if_neg hk3];simp only [hh]);have CH2:Hid (Calls Tryz.prog 54 #[.pointer (some ⟨c.B,0,none⟩),.int .i64 (n:Int)] W1 fun e w'=>e=.returned (.tuple #[.string ⟨#[]⟩,.slice none 0 0,.bool false])∧Below W1.heap.size W1 w'):=hidI (by have:=CH.out;unfold HdPost at this;rwa [hh] at this);clear hfx hkl hk4 hk3 hh CH hH;go_enter Tryz.func102,Tryz.ntmps102
 go_wp2_with (first
  | (go_at_call 54;rw [HW1.out];refine CH2.out.mono ?_;rintro e w2 ⟨rfl,hb2⟩;have HB2:=hidI hb2;have a4:=zaJ hb2 HA4.out;clear hb2 CH2)
  | (go_at_call 57;refine Calls.mono (CF.out _ HB2.out) ?_;rintro e w3 ⟨rfl,h3⟩;have H3:=hidI h3;clear h3))
 go_ret;exact DxPost.bad HR.out H3.out rfl rfl rfl (by omega)
set_option maxRecDepth 100000 in
set_option maxHeartbeats 16000000 in
theorem dexpr_col {c:Dx} (hc:c.Ok) {f n:Nat} (hn:n<c.fs.length) {p:PV} {X:List Rw} {w:World} (h:DrS c p none X w) (hN:p.many+c.sz n≤999) {wd:ByteArray} {ks:List Nat} (hk4:¬ (frm c.l n).k=4) (hk3:¬ (frm c.l n).k=3) (hh:headF c.l n=some (wd,ks)) (hc0:¬ colOf wd=0) :
  Calls Tryz.prog 102 #[.pointer (some ⟨c.B,0,none⟩),.int .i64 (n:Int)] w (DxPost c p none X (f+1) n):=by
 have HN:=hidI hN;have hz:=hc.kids_sz hn;have hz1:1≤c.sz n:=by omega
 have HZ:=hidI hz;have HZ1:=hidI hz1;have hkl:=hc.kids_lt hn;obtain ⟨x,hx⟩:∃ x,c.fs[n]?=some x:=⟨_,List.getElem?_eq_getElem hn⟩;obtain ⟨g,o,cap,hv,y0,y1,y2,y3,y4⟩:=hc.form h.below hx;have b0:=h.cell (j:=0) (u:=c.fv) rfl;have b5:=h.cell (j:=5) (u:=.bool false) rfl;rw [hv] at b0;have e1:(n:Int)<(c.fs.length:Int):=by omega
 have e2:(0:Int)≤(n:Int):=by omega
 have hfx:=Dx.frm_at hx;have htx:=hc.txt n x hx;obtain ⟨hk,_⟩:=hc.kid n x hx;have hkn0:=hc.kidlen n x hx;obtain ⟨⟨xk,xs,xn,xks,xp⟩,xv⟩:=x;simp only at y0 y1 y2 y3 y4 hfx htx hk hkn0;have hkv:∃ ka kc,xv=.slice ka xks.length kc:=by
  obtain ⟨_,a,cap,e,_⟩:=hk;exact ⟨a,cap,e⟩
 obtain ⟨ka,kc,rfl⟩:=hkv;obtain ⟨W1,hW1⟩:∃ W1,w.alloc (.cells #[.int .u8 xk,.string xs,.int .i64 xn,.slice ka xks.length kc,.int .i64 xp] 97)=W1:=⟨_,rfl⟩;have HS1:Hid (DrS c p none X W1):=hidI (hW1▸h.alloc _);have HW1:=hidI hW1;have a4:W1.cell? ⟨w.heap.size,4,none⟩=some (.int .i64 xp):=by
  rw [←hW1,cell_of_row _ w.heap.size 4 _ _ (0,0) (MapKept.heap_alloc w _).1];rfl
 have HA4:=hidI a4;have HNL:=hidI hn;rw [hfx] at hk4 hk3;simp only at hk4 hk3;have d4:(xk==4)=false:=by simpa using hk4
 have d3:(xk==3)=false:=by simpa using hk3
 have CH:=hidI (zbC hc HS1.out HNL.out);have CF:=hidI (fun (W:World) (hb:Below W1.heap.size W1 W)=>zbG (HS1.out.on hb) xp 8);clear hv h hx hk hn htx hN hz hz1 hW1 a4;obtain ⟨m0,hks⟩:=zaW hh;have hk2:∀ k∈ks,k<c.fs.length:=fun k hk=>(hkl k (by rw [hks];exact List.mem_cons_of_mem _ hk)).2
 have HZ2:Hid (1+(ks.map c.sz).sum≤c.sz n):=hidI (by
  have:=HZ.out;rw [hks] at this;simp only [List.map_cons,List.sum_cons] at this;omega)
 have hkn:ks.length≤400:=by
  have:=hkn0;rw [show xks=m0::ks from (by rw [←hks,hfx])] at this;simp only [List.length_cons] at this;omega
 have HRD:Hid (∀ es,rdExpr c.l (f+1) n es=_):=hidI (fun es=>zfA (es:=es) (by rw [hfx];exact hk4) (by rw [hfx];exact hk3) hh);have HFP:Hid ((frm c.l n).p=xp):=hidI (by rw [hfx]);have CH2:Hid (Calls Tryz.prog 54 #[.pointer (some ⟨c.B,0,none⟩),.int .i64 (n:Int)] W1 fun e w'=>∃ kv,e=.returned (.tuple #[.string wd,kv,.bool true])∧SeesC c.w0 kv ks.length 1 (ints ks)∧Below W1.heap.size W1 w'):=hidI (by
  refine CH.out.mono fun e w' h => ?_
  unfold HdPost at h;rw [hh] at h;obtain ⟨⟨kv,h1,h2⟩,h3⟩:=h;exact ⟨kv,h1,h2,h3⟩)
 have HK2:=hidI hk2;obtain ⟨cw,hcw⟩:∃ cw,colOf wd=cw:=⟨_,rfl⟩;obtain ⟨bw,hbw⟩:∃ bw,bareOf wd=bw:=⟨_,rfl⟩;obtain ⟨ow,how⟩:∃ ow,opOf wd=ow:=⟨_,rfl⟩;have how2:ow≤19:=how▸zbW wd;have CC:Hid (∀ W,Calls Tryz.prog 152 #[.string wd] W fun e w'=>e=.returned (.int .u8 (cw:Int))∧w'=W):=hidI (fun W=>by rw [←hcw];exact zfH wd W);have CB:Hid (∀ W,Calls Tryz.prog 153 #[.string wd] W fun e w'=>e=.returned (.int .u8 (bw:Int))∧w'=W):=hidI (fun W=>by rw [←hbw];exact dbare_any wd W);have CO:Hid (∀ W,Calls Tryz.prog 155 #[.string wd] W fun e w'=>e=.returned (.tuple #[.int .u8 (ow:Int),.bool (decide (ow≠0))])∧Below W.heap.size W w'):=hidI (fun W=>by rw [←how];exact zeA wd W);have CA:=hidI (fun W=>darity_any ow how2 W);have bd:=zbT wd (⟨#[100,101,103]⟩:ByteArray);rw [show (⟨#[100,101,103]⟩:ByteArray).toList=[100,101,103] from by decide +kernel] at bd;obtain ⟨kl,hkl0⟩:∃ kl,ks.length=kl:=⟨_,rfl⟩;have hkl1:kl≤400:=hkl0▸hkn;have hcw2:cw<256:=hcw▸colOf_lt wd;have hbw2:bw<256:=hbw▸bareOf_lt wd;clear hfx hkl hk4 hk3 hh CH hks hk2 hkn;rw [hcw] at hc0;have fc:((cw:Int)==0)=false:=ne_beq hc0;have fc2:¬ (cw:Int)=0:=by omega
 obtain ⟨hb0,hdg,ho0⟩:=col_alone (s:=wd) (by rw [hcw];exact hc0);rw [decide_eq_false hdg] at bd;have fo:decide (ow≠0)=false:=by rw [how] at ho0;simp [ho0]
 have fb:((bw:Int)==0)=true:=eq_beq (hbw.symm.trans hb0);have fb2:(bw:Int)=0:=by omega
 by_cases h1:kl=1
 ·have fl:((kl:Int)==1)=true:=eq_beq h1;obtain ⟨k0,rfl⟩:∃ k0,ks=[k0]:=List.length_eq_one_iff.1 (hkl0.trans h1);have hk0:=HK2.out k0 (by simp);cases hnm:nameF c.l k0 with
  | ok s=>
   have HR:Hid (rdExpr c.l (f+1) n (p.xs.map Prod.fst)=addE (p.xs.map Prod.fst) ⟨cw,0,0,s,0,[]⟩):=hidI (by rw [HRD.out,if_pos ⟨by rw [hcw];exact hc0,rfl⟩];simp only [List.headD_cons,hnm,hcw]);have CN2:Hid (∀ W,Below W1.heap.size W1 W→Calls Tryz.prog 58 #[.pointer (some ⟨c.B,0,none⟩),.int .i64 (k0:Int)] W fun e w'=>e=.returned (.string s)∧DrS c p none X w'∧SmlN s):=hidI (fun W hb=>by have:=dname_any hc (HS1.out.on hb) hk0;unfold NmPost at this;rwa [hnm] at this);clear HRD HZ2 HK2;go_enter Tryz.func102,Tryz.ntmps102
   go_wp2_with (first
    | (go_at_call 54;rw [HW1.out];refine CH2.out.mono ?_;rintro e w2 ⟨kv,rfl,hkv,hb2⟩;obtain ⟨_,qa,qc,rfl,_⟩:=id hkv;obtain ⟨kb,ko,rfl,kq,_⟩:=zaB hkv (HS1.out.on hb2).below (i:=0) (k:=k0) rfl;have kq:w2.cell? ⟨kb,ko,none⟩=some (.int .i64 (k0:Int)):=kq;have HB2:=hidI hb2;have a4:=zaJ hb2 HA4.out;clear hb2 CH2 hkv)
    | (go_at_call 152;refine Calls.mono (CC.out _) ?_;rintro e wc ⟨rfl,rfl⟩)
    | (go_at_call 58;refine Calls.mono (CN2.out _ HB2.out) ?_;rintro e w6 ⟨rfl,hs6,hsm⟩;have HSN:=hidI hs6.nilI;have HSM:=hidI hsm;clear hs6 hsm CN2)
    | (go_at_call 151;refine Calls.mono (zdE (x:=⟨cw,0,0,s,0,[]⟩) (kv:=.slice none 0 0) HSN.out (xok (hcw2) (by decide) (by decide) (HSM.out)) (by have:=HN.out;unfold PV.many at this;omega)) ?_;rintro e wa ⟨rfl,u,ha⟩;have HAD:=hidI ha;clear ha))
   go_ret;exact DxPost.add HR.out HZ1.out HAD.out
  | error a=>
   have HR:Hid (rdExpr c.l (f+1) n (p.xs.map Prod.fst)=.error a):=hidI (by rw [HRD.out,if_pos ⟨by rw [hcw];exact hc0,rfl⟩];simp only [List.headD_cons,hnm]);have CN2:Hid (∀ W,Below W1.heap.size W1 W→Calls Tryz.prog 58 #[.pointer (some ⟨c.B,0,none⟩),.int .i64 (k0:Int)] W fun e w'=>e=.returned (.string ⟨#[]⟩)∧DrS c p (some (a,8)) X w'):=hidI (fun W hb=>by have:=dname_any hc (HS1.out.on hb) hk0;unfold NmPost at this;rwa [hnm] at this);clear HRD HZ2 HK2;go_enter Tryz.func102,Tryz.ntmps102
   go_wp2_with (first
    | (go_at_call 54;rw [HW1.out];refine CH2.out.mono ?_;rintro e w2 ⟨kv,rfl,hkv,hb2⟩;obtain ⟨_,qa,qc,rfl,_⟩:=id hkv;obtain ⟨kb,ko,rfl,kq,_⟩:=zaB hkv (HS1.out.on hb2).below (i:=0) (k:=k0) rfl;have kq:w2.cell? ⟨kb,ko,none⟩=some (.int .i64 (k0:Int)):=kq;have HB2:=hidI hb2;have a4:=zaJ hb2 HA4.out;clear hb2 CH2 hkv)
    | (go_at_call 152;refine Calls.mono (CC.out _) ?_;rintro e wc ⟨rfl,rfl⟩)
    | (go_at_call 58;refine Calls.mono (CN2.out _ HB2.out) ?_;rintro e w6 ⟨rfl,hs6⟩;have HSN:=hidI hs6.nilI;clear hs6 CN2)
    | (go_at_call 151;refine Calls.mono (zdE (x:=⟨cw,0,0,emptyS,0,[]⟩) (kv:=.slice none 0 0) HSN.out (xok (hcw2) (by decide) (by decide) (by unfold SmlN;decide)) (by have:=HN.out;unfold PV.many at this;omega)) ?_;rintro e wa ⟨rfl,u,ha⟩;have HAD:=hidI ha;clear ha))
   go_ret;exact DxPost.bad HR.out HAD.out rfl rfl rfl (by have:=HZ1.out;simp [PV.many];omega)
 ·have fl:((kl:Int)==1)=false:=ne_beq h1;have HR:Hid (rdExpr c.l (f+1) n (p.xs.map Prod.fst)=.error xp):=hidI (by rw [HRD.out,if_neg (fun h=>h1 (hkl0.symm.trans h.2)),if_neg (fun h=>h.1 hb0),if_neg (fun h=>hdg h.1),if_neg (fun h=>hdg h.1),if_pos (.inl ho0),HFP.out]);clear HRD HZ2 HK2;go_enter Tryz.func102,Tryz.ntmps102
  go_wp2_with (first
   | (go_at_call 54;rw [HW1.out];refine CH2.out.mono ?_;rintro e w2 ⟨kv,rfl,hkv,hb2⟩;obtain ⟨_,qa,qc,rfl,_⟩:=id hkv;rw [hkl0];have HB2:=hidI hb2;have a4:=zaJ hb2 HA4.out;clear hb2 CH2 hkv)
   | (go_at_call 152;refine Calls.mono (CC.out _) ?_;rintro e wc ⟨rfl,rfl⟩)
   | (go_at_call 153;refine Calls.mono (CB.out _) ?_;rintro e wb ⟨rfl,rfl⟩)
   | (go_at_call 155;refine Calls.mono (CO.out _) ?_;rintro e w5 ⟨rfl,hb5⟩;rw [fo];have HB5:=hidI (HB2.out.trans (hb5.mono HB2.out.size));have a5:=zaJ hb5 a4;clear hb5 CO)
   | (go_at_call 57;refine Calls.mono (CF.out _ HB5.out) ?_;rintro e w6 ⟨rfl,h6⟩;have H6:=hidI h6;clear h6))
  go_ret;exact DxPost.bad HR.out H6.out rfl rfl rfl (by omega)
set_option maxRecDepth 100000 in
set_option maxHeartbeats 16000000 in
theorem dexpr_bare {c:Dx} (hc:c.Ok) {f n:Nat} (hn:n<c.fs.length) {p:PV} {X:List Rw} {w:World} (h:DrS c p none X w) (hN:p.many+c.sz n≤999) {wd:ByteArray} {ks:List Nat} (hk4:¬ (frm c.l n).k=4) (hk3:¬ (frm c.l n).k=3) (hh:headF c.l n=some (wd,ks)) (hc0:colOf wd=0) (hb0:¬ bareOf wd=0) :
  Calls Tryz.prog 102 #[.pointer (some ⟨c.B,0,none⟩),.int .i64 (n:Int)] w (DxPost c p none X (f+1) n):=by
 have HN:=hidI hN;have hz:=hc.kids_sz hn;have hz1:1≤c.sz n:=by omega
 have HZ:=hidI hz;have HZ1:=hidI hz1;have hkl:=hc.kids_lt hn;obtain ⟨x,hx⟩:∃ x,c.fs[n]?=some x:=⟨_,List.getElem?_eq_getElem hn⟩;obtain ⟨g,o,cap,hv,y0,y1,y2,y3,y4⟩:=hc.form h.below hx;have b0:=h.cell (j:=0) (u:=c.fv) rfl;have b5:=h.cell (j:=5) (u:=.bool false) rfl;rw [hv] at b0;have e1:(n:Int)<(c.fs.length:Int):=by omega
 have e2:(0:Int)≤(n:Int):=by omega
 have hfx:=Dx.frm_at hx;have htx:=hc.txt n x hx;obtain ⟨hk,_⟩:=hc.kid n x hx;have hkn0:=hc.kidlen n x hx;obtain ⟨⟨xk,xs,xn,xks,xp⟩,xv⟩:=x;simp only at y0 y1 y2 y3 y4 hfx htx hk hkn0;have hkv:∃ ka kc,xv=.slice ka xks.length kc:=by
  obtain ⟨_,a,cap,e,_⟩:=hk;exact ⟨a,cap,e⟩
 obtain ⟨ka,kc,rfl⟩:=hkv;obtain ⟨W1,hW1⟩:∃ W1,w.alloc (.cells #[.int .u8 xk,.string xs,.int .i64 xn,.slice ka xks.length kc,.int .i64 xp] 97)=W1:=⟨_,rfl⟩;have HS1:Hid (DrS c p none X W1):=hidI (hW1▸h.alloc _);have HW1:=hidI hW1;have a4:W1.cell? ⟨w.heap.size,4,none⟩=some (.int .i64 xp):=by
  rw [←hW1,cell_of_row _ w.heap.size 4 _ _ (0,0) (MapKept.heap_alloc w _).1];rfl
 have HA4:=hidI a4;have HNL:=hidI hn;rw [hfx] at hk4 hk3;simp only at hk4 hk3;have d4:(xk==4)=false:=by simpa using hk4
 have d3:(xk==3)=false:=by simpa using hk3
 have CH:=hidI (zbC hc HS1.out HNL.out);have CF:=hidI (fun (W:World) (hb:Below W1.heap.size W1 W)=>zbG (HS1.out.on hb) xp 8);clear hv h hx hk hn htx hN hz hz1 hW1 a4;obtain ⟨m0,hks⟩:=zaW hh;have hk2:∀ k∈ks,k<c.fs.length:=fun k hk=>(hkl k (by rw [hks];exact List.mem_cons_of_mem _ hk)).2
 have HZ2:Hid (1+(ks.map c.sz).sum≤c.sz n):=hidI (by
  have:=HZ.out;rw [hks] at this;simp only [List.map_cons,List.sum_cons] at this;omega)
 have hkn:ks.length≤400:=by
  have:=hkn0;rw [show xks=m0::ks from (by rw [←hks,hfx])] at this;simp only [List.length_cons] at this;omega
 have HRD:Hid (∀ es,rdExpr c.l (f+1) n es=_):=hidI (fun es=>zfA (es:=es) (by rw [hfx];exact hk4) (by rw [hfx];exact hk3) hh);have HFP:Hid ((frm c.l n).p=xp):=hidI (by rw [hfx]);have CH2:Hid (Calls Tryz.prog 54 #[.pointer (some ⟨c.B,0,none⟩),.int .i64 (n:Int)] W1 fun e w'=>∃ kv,e=.returned (.tuple #[.string wd,kv,.bool true])∧SeesC c.w0 kv ks.length 1 (ints ks)∧Below W1.heap.size W1 w'):=hidI (by
  refine CH.out.mono fun e w' h => ?_
  unfold HdPost at h;rw [hh] at h;obtain ⟨⟨kv,h1,h2⟩,h3⟩:=h;exact ⟨kv,h1,h2,h3⟩)
 have HK2:=hidI hk2;obtain ⟨cw,hcw⟩:∃ cw,colOf wd=cw:=⟨_,rfl⟩;obtain ⟨bw,hbw⟩:∃ bw,bareOf wd=bw:=⟨_,rfl⟩;obtain ⟨ow,how⟩:∃ ow,opOf wd=ow:=⟨_,rfl⟩;have how2:ow≤19:=how▸zbW wd;have CC:Hid (∀ W,Calls Tryz.prog 152 #[.string wd] W fun e w'=>e=.returned (.int .u8 (cw:Int))∧w'=W):=hidI (fun W=>by rw [←hcw];exact zfH wd W);have CB:Hid (∀ W,Calls Tryz.prog 153 #[.string wd] W fun e w'=>e=.returned (.int .u8 (bw:Int))∧w'=W):=hidI (fun W=>by rw [←hbw];exact dbare_any wd W);have CO:Hid (∀ W,Calls Tryz.prog 155 #[.string wd] W fun e w'=>e=.returned (.tuple #[.int .u8 (ow:Int),.bool (decide (ow≠0))])∧Below W.heap.size W w'):=hidI (fun W=>by rw [←how];exact zeA wd W);have CA:=hidI (fun W=>darity_any ow how2 W);have bd:=zbT wd (⟨#[100,101,103]⟩:ByteArray);rw [show (⟨#[100,101,103]⟩:ByteArray).toList=[100,101,103] from by decide +kernel] at bd;obtain ⟨kl,hkl0⟩:∃ kl,ks.length=kl:=⟨_,rfl⟩;have hkl1:kl≤400:=hkl0▸hkn;have hcw2:cw<256:=hcw▸colOf_lt wd;have hbw2:bw<256:=hbw▸bareOf_lt wd;clear hfx hkl hk4 hk3 hh CH hks hk2 hkn;rw [hcw] at hc0;rw [hbw] at hb0;have fc:((cw:Int)==0)=true:=eq_beq hc0;have fc2:(cw:Int)=0:=by omega
 have fb:((bw:Int)==0)=false:=ne_beq hb0;have fb2:¬ (bw:Int)=0:=by omega
 obtain ⟨hdg,ho0⟩:=bare_alone (s:=wd) (by rw [hbw];exact hb0);rw [decide_eq_false hdg] at bd;have fo:decide (ow≠0)=false:=by rw [how] at ho0;simp [ho0]
 by_cases h0:kl=0
 ·have fl:((kl:Int)==0)=true:=eq_beq h0;obtain rfl:ks=[]:=List.length_eq_zero_iff.1 (hkl0.trans h0);have HR:Hid (rdExpr c.l (f+1) n (p.xs.map Prod.fst)=addE (p.xs.map Prod.fst) ⟨bw,0,0,emptyS,0,[]⟩):=hidI (by rw [HRD.out,if_neg (by rw [hcw];simp [hc0]),if_pos ⟨by rw [hbw];exact hb0,rfl⟩,hbw]);clear HRD HZ2 HK2;go_enter Tryz.func102,Tryz.ntmps102
  go_wp2_with (first
   | (go_at_call 54;rw [HW1.out];refine CH2.out.mono ?_;rintro e w2 ⟨kv,rfl,hkv,hb2⟩;obtain ⟨_,qa,qc,rfl,_⟩:=id hkv;rw [hkl0];have HB2:=hidI hb2;have a4:=zaJ hb2 HA4.out;clear hb2 CH2 hkv)
   | (go_at_call 152;refine Calls.mono (CC.out _) ?_;rintro e wc ⟨rfl,rfl⟩)
   | (go_at_call 153;refine Calls.mono (CB.out _) ?_;rintro e wb ⟨rfl,rfl⟩)
   | (go_at_call 151;refine Calls.mono (zdE (x:=⟨bw,0,0,emptyS,0,[]⟩) (kv:=.slice none 0 0) (HS1.out.on HB2.out).nilI (xok (hbw2) (by decide) (by decide) (by unfold SmlN;decide)) (by have:=HN.out;unfold PV.many at this;omega)) ?_;rintro e wa ⟨rfl,u,ha⟩;have HAD:=hidI ha;clear ha))
  go_ret;exact DxPost.add HR.out HZ1.out HAD.out
 ·have fl:((kl:Int)==0)=false:=ne_beq h0;have HR:Hid (rdExpr c.l (f+1) n (p.xs.map Prod.fst)=.error xp):=hidI (by rw [HRD.out,if_neg (by rw [hcw];simp [hc0]),if_neg (fun h=>h0 (hkl0.symm.trans h.2)),if_neg (fun h=>hdg h.1),if_neg (fun h=>hdg h.1),if_pos (.inl ho0),HFP.out]);clear HRD HZ2 HK2;go_enter Tryz.func102,Tryz.ntmps102
  go_wp2_with (first
   | (go_at_call 54;rw [HW1.out];refine CH2.out.mono ?_;rintro e w2 ⟨kv,rfl,hkv,hb2⟩;obtain ⟨_,qa,qc,rfl,_⟩:=id hkv;rw [hkl0];have HB2:=hidI hb2;have a4:=zaJ hb2 HA4.out;clear hb2 CH2 hkv)
   | (go_at_call 152;refine Calls.mono (CC.out _) ?_;rintro e wc ⟨rfl,rfl⟩)
   | (go_at_call 153;refine Calls.mono (CB.out _) ?_;rintro e wb ⟨rfl,rfl⟩)
   | (go_at_call 155;refine Calls.mono (CO.out _) ?_;rintro e w5 ⟨rfl,hb5⟩;rw [fo];have HB5:=hidI (HB2.out.trans (hb5.mono HB2.out.size));have a5:=zaJ hb5 a4;clear hb5 CO)
   | (go_at_call 57;refine Calls.mono (CF.out _ HB5.out) ?_;rintro e w6 ⟨rfl,h6⟩;have H6:=hidI h6;clear h6))
  go_ret;exact DxPost.bad HR.out H6.out rfl rfl rfl (by omega)
end Go.Proofs.YtfljimpgnlfipaaGreatDoor
