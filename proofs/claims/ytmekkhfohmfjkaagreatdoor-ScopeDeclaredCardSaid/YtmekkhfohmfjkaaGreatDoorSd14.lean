/-
  Part 14 of the proof: PTake, PTake2.
-/
import Derived.Test.YtmekkhfohmfjkaaGreatDoorSd13
namespace Go.Proofs.YtmekkhfohmfjkaaGreatDoor
open Go.RowKit Go.Deep Go.MapKept
def cBox (cb:Nat) (k:Ctn) (av tv ev:Value):Rw:=⟨bx cb,170,8,1,[.string k.name,.int .u8 (k.op:Int),.bool k.inn,.int .i64 k.e,.int .i64 k.cond,av,tv,ev]⟩
def aRow (v:Value) (as':List Actn):Rw:=⟨v,126,6,as'.length,flatAc as'⟩
def cRows (cb:Nat) (k:Ctn) (av tv ev:Value) (X:List Rw):List Rw:=cBox cb k av tv ev::aRow av k.acts::iRow tv k.thn::iRow ev k.els::X
def TakePost (c:Cx) (cb:Nat) (X:List Rw) (p:PV) (r:Except Int (Ctn × ES)) (e:Ending) (w':World):Prop:=
 match r with
 | .error q=>e=.panicked (flt2 q)∧Bad c X w'
 | .ok (k',q)=>e=.returned (.tuple #[])∧∃ p' av tv ev,p'.es=q∧(p'.ds,p'.dv)=(p.ds,p.dv)∧(p'.ms,p'.mv)=(p.ms,p.mv)∧RdS c p' (cRows cb k' av tv ev X) w'
section
variable {c : Cx} {p : PV} {X Y : List Rw} {w : World} {cb : Nat} {k : Ctn} {av tv ev : Value}
theorem RdS.perm (h:RdS c p X w) (hp:X.Perm Y):RdS c p Y w:=⟨h.below,h.rows.perm (hp.append_left _)⟩
theorem RdS.sub (h:RdS c p X w) (hp:Y.Sublist X):RdS c p Y w:=⟨h.below,h.rows.sub (hp.append_left _)⟩
theorem RdS.put1 {r r':Rw} (h:RdS c p (r::Y) w) {w':World} (hg:w.grownBy w' r.v.ownBlock) (ho:Own w' c.w0.heap.size r') (hb:r'.v.ownBlock=none∨r'.v.ownBlock=r.v.ownBlock∨r'.v.ownBlock=some w.heap.size):RdS c p (r'::Y) w':=
 ⟨h.below.grown hg h.size (fun k hk=>(h.first.head.lt k hk).1),(h.first.put hg ho hb).perm List.perm_middle.symm⟩
theorem RdS.setbox {B e size j:Nat} {xs:List Value} (h:RdS c p (⟨bx B,e,size,1,xs⟩::Y) w) (u:Value):RdS c p (⟨bx B,e,size,1,xs.set j u⟩::Y) (w.setCell ⟨B,j,none⟩ u):=by
 have hf:=h.first
 exact ⟨h.below.setCell (hf.head.lt B rfl).1 u,(hf.setc (g:=B) (cap:=1) (j:=j) rfl u).perm List.perm_middle.symm⟩
theorem RdS.cbox (h:RdS c p (cRows cb k av tv ev X) w):w.ownsRow c.w0.heap.size 170 8 (bx cb) 1 (cBox cb k av tv ev).xs:=RowsP.head (r:=cBox cb k av tv ev) h.first
theorem RdS.ccell (h:RdS c p (cRows cb k av tv ev X) w) {j:Nat} {u:Value} (hj:(cBox cb k av tv ev).xs[j]?=some u):w.cell? ⟨cb,j,none⟩=some u:=zaB h.cbox hj
theorem RdS.cfree (h:RdS c p (cRows cb k av tv ev X) w) (j:Nat):w.frozen? ⟨cb,j,none⟩=false:=zaQ h.cbox j
theorem RdS.clt (h:RdS c p (cRows cb k av tv ev X) w):c.w0.heap.size≤cb∧cb<w.heap.size:=h.cbox.lt cb rfl
theorem RdS.second {a b:Rw} (h:RdS c p (a::b::Y) w):RowsP w c.w0.heap.size (b::a::(prows c p++Y)):=by
 have:=(h.perm (List.Perm.swap b a Y)).first
 exact this.perm ((List.perm_middle).cons b)
theorem RdS.third {a b d:Rw} (h:RdS c p (a::b::d::Y) w):RowsP w c.w0.heap.size (d::(prows c p++a::b::Y)):=by
 exact (h.perm (List.perm_middle (l₁:=[a,b]))).first
end
set_option maxHeartbeats 1000000 in
theorem take_n {c:Cx} (hc:c.Ok) {ex st:RdE Int} {ac:RdE Actn} {cb:Nat} {p:PV} {X:List Rw} {k:Ctn} {av tv ev:Value} {w:World} (h:RdS c p (cRows cb k av tv ev X) w) {n:Nat} (hn:n<c.fs.length)  :
  Calls Tryz.prog 123 #[.pointer (some ⟨c.B,0,none⟩),.pointer (some ⟨cb,0,none⟩),.int .i64 (n:Int),.int .i32 110] w (TakePost c cb X p (takeP c.l ex ac st k n 110 p.es)):=by
 obtain ⟨x,hx⟩:∃ x,c.fs[n]?=some x:=⟨_,List.getElem?_eq_getElem hn⟩
 have hs:=hc.txt n x hx
 have hfx:=Cx.frm_at hx
 have hkid:=(hc.kid n x hx).1
 obtain ⟨g,o,cap,hv,c0,c1,c2,c3,c4⟩:=hc.form h.below hx
 have b5:=h.cell (j:=5) (u:=c.fv) rfl
 rw [hv] at b5
 have e1:(n:Int)<(c.fs.length:Int):=by omega
 have e2:(0:Int)≤(n:Int):=by omega
 have HX:=hidI hx
 obtain ⟨⟨xk,xs,xn,xks,xp⟩,kv⟩:=x
 simp only at hs c0 c1 c2 c3 c4 hfx hkid
 obtain ⟨_,ka,kc,hkv,_⟩:=id hkid
 subst hkv
 have HR:Hid (takeP c.l ex ac st k n 110 p.es=(if nmOk xs=true then .ok ({ k with name:=xs },p.es) else .error xp)):=hidI (by simp [takeP,hfx])
 have HA:=hidI (h.alloc (.cells #[.int .u8 xk,.string xs,.int .i64 xn,.slice ka xks.length kc,.int .i64 xp] 115))
 have HH:=hidI h
 have HS:=hidI hs
 have hBlt:=h.lt
 have hClt:=h.clt
 have hsz:=h.size
 clear hv hfx h hx hs
 have C1:=hidI (zdE xs HS.out (w.alloc (.cells #[.int .u8 xk,.string xs,.int .i64 xn,.slice ka xks.length kc,.int .i64 xp] 115)) (hc.laid.on HA.out.below))
 have HTX:Hid ((w.alloc (.cells #[.int .u8 xk,.string xs,.int .i64 xn,.slice ka xks.length kc,.int .i64 xp] 115)).cell? ⟨w.heap.size,1,none⟩=some (.string xs)):=hidI (by go_simp)
 cases hnm:nameB xs with
 | false=>
  have HR2:Hid (takeP c.l ex ac st k n 110 p.es=.error xp):=hidI (by rw [HR.out,if_neg (by unfold nmOk;rw [hnm];simp)])
  rw [hnm] at C1
  have C2:Hid (∀ W,RdS c p (cRows cb k av tv ev X) W→Calls Tryz.prog 91 #[.pointer (some ⟨c.B,0,none⟩),.bool false,.int .i64 (n:Int)] W fun e w'=>e=.panicked (flt2 xp)∧W=w'):=hidI (fun W hW=>zcV hc hW HX.out)
  clear hnm HR
  go_enter Tryz.func123,Tryz.ntmps123
  go_wp2_with (first
   | (go_at_call 147;refine C1.out.mono ?_;intro e w1 h1;obtain ⟨rfl,hb1⟩:=h1;clear C1;have HS1:=hidI (HA.out.on hb1))
   | (go_at_call 91;refine Calls.mono (C2.out _ HS1.out) ?_;intro e w2 h2;obtain ⟨rfl,rfl⟩:=h2;clear C2))
  refine ⟨rfl,?_⟩
  rw [HR2.out]
  exact ⟨rfl,HS1.out.bad (.cons _ (.cons _ (.cons _ (.cons _ (.refl _)))))⟩
 | true=>
  have HR2:Hid (takeP c.l ex ac st k n 110 p.es=.ok ({ k with name:=xs },p.es)):=hidI (by rw [HR.out,if_pos (by unfold nmOk;exact hnm)])
  rw [hnm] at C1
  have C2:=hidI (fun W=>must_ok (.pointer (some ⟨c.B,0,none⟩)) (n:Int) W)
  have C3:=hidI (fun W=>zdG xs HS.out W)
  clear hnm HR
  go_enter Tryz.func123,Tryz.ntmps123
  go_wp2_with (first
   | (go_at_call 147;refine C1.out.mono ?_;intro e w1 h1;obtain ⟨rfl,hb1⟩:=h1;clear C1;have HS1:=hidI (HA.out.on hb1);have x1:=(hb1.cell (World.block_lt_of_cell? _ _ HTX.out)).trans HTX.out)
   | (go_at_call 91;refine Calls.mono (C2.out _) ?_;intro e w2 h2;obtain ⟨rfl,rfl⟩:=h2;clear C2)
   | (go_at_call 36;refine Calls.mono (C3.out _) ?_;intro e w3 h3;obtain ⟨rfl,hb3⟩:=h3;clear C3;have HS3:=hidI (HS1.out.on hb3);have k0:=HS3.out.ccell (j:=0) rfl;have f0:=HS3.out.cfree 0))
  go_end0
  rw [HR2.out]
  exact ⟨rfl,p,av,tv,ev,rfl,rfl,rfl,RdS.setbox (j:=0) HS3.out (.string xs)⟩
set_option maxHeartbeats 1000000 in
theorem take_o {c:Cx} (hc:c.Ok) {ex st:RdE Int} {ac:RdE Actn} {cb:Nat} {p:PV} {X:List Rw} {k:Ctn} {av tv ev:Value} {w:World} (h:RdS c p (cRows cb k av tv ev X) w) {n:Nat} (hn:n<c.fs.length)  :
  Calls Tryz.prog 123 #[.pointer (some ⟨c.B,0,none⟩),.pointer (some ⟨cb,0,none⟩),.int .i64 (n:Int),.int .i32 111] w (TakePost c cb X p (takeP c.l ex ac st k n 111 p.es)):=by
 obtain ⟨x,hx⟩:∃ x,c.fs[n]?=some x:=⟨_,List.getElem?_eq_getElem hn⟩
 have hs:=hc.txt n x hx
 have hfx:=Cx.frm_at hx
 have hkid:=(hc.kid n x hx).1
 obtain ⟨g,o,cap,hv,c0,c1,c2,c3,c4⟩:=hc.form h.below hx
 have b5:=h.cell (j:=5) (u:=c.fv) rfl
 rw [hv] at b5
 have e1:(n:Int)<(c.fs.length:Int):=by omega
 have e2:(0:Int)≤(n:Int):=by omega
 have HX:=hidI hx
 obtain ⟨⟨xk,xs,xn,xks,xp⟩,kv⟩:=x
 simp only at hs c0 c1 c2 c3 c4 hfx hkid
 obtain ⟨_,ka,kc,hkv,_⟩:=id hkid
 subst hkv
 have HR:Hid (takeP c.l ex ac st k n 111 p.es=.ok ({ k with op:=opOf xs },p.es)):=hidI (by simp [takeP,hfx])
 have HA:=hidI (h.alloc (.cells #[.int .u8 xk,.string xs,.int .i64 xn,.slice ka xks.length kc,.int .i64 xp] 115))
 have HH:=hidI h
 have HS:=hidI hs
 have hBlt:=h.lt
 have hClt:=h.clt
 have hsz:=h.size
 clear hv hfx h hx hs
 have HL:=hidI (look_op hc HA.out.drew.below HS.out)
 have HB:=hidI (HA.out.drew.cell (j:=4) (u:=.map (some c.vo.o)) rfl)
 have HF:Hid ((w.alloc (.cells #[.int .u8 xk,.string xs,.int .i64 xn,.slice ka xks.length kc,.int .i64 xp] 115)).drew.cell? ⟨w.heap.size,1,none⟩=some (.string xs)):=hidI (by go_simp)
 have HK:=hidI (HA.out.drew.ccell (j:=1) rfl)
 have HZ:=hidI (HA.out.drew.cfree 1)
 have HE:Hid (RdS c p (cRows cb { k with op:=opOf xs } av tv ev X) ((w.alloc (.cells #[.int .u8 xk,.string xs,.int .i64 xn,.slice ka xks.length kc,.int .i64 xp] 115)).drew.setCell ⟨cb,1,none⟩ (.int .u8 (opOf xs:Int)))):=hidI (RdS.setbox (j:=1) HA.out.drew (.int .u8 (opOf xs:Int)))
 go_enter Tryz.func123,Tryz.ntmps123
 go_wp2
 refine regO (B:=c.B) (fb:=w.heap.size) (mo:=c.vo.o) (s:=xs) ⟨HB.out,HF.out,HL.out⟩ HK.out HZ.out (fun _ _ _ _ _ h=>h) (hidI ?_)
 intro t33 t34 t35 t36 t37 t38 t39 t40 t41 t42 t43
 go_wp2
 go_end0
 rw [HR.out]
 exact ⟨rfl,p,av,tv,ev,rfl,rfl,rfl,HE.out⟩
set_option maxHeartbeats 1000000 in
theorem take_w {c:Cx} (hc:c.Ok) {ex st:RdE Int} {ac:RdE Actn} {cb:Nat} {p:PV} {X:List Rw} {k:Ctn} {av tv ev:Value} {w:World} (h:RdS c p (cRows cb k av tv ev X) w) {n:Nat} (hn:n<c.fs.length)  :
  Calls Tryz.prog 123 #[.pointer (some ⟨c.B,0,none⟩),.pointer (some ⟨cb,0,none⟩),.int .i64 (n:Int),.int .i32 119] w (TakePost c cb X p (takeP c.l ex ac st k n 119 p.es)):=by
 obtain ⟨x,hx⟩:∃ x,c.fs[n]?=some x:=⟨_,List.getElem?_eq_getElem hn⟩
 have hs:=hc.txt n x hx
 have hfx:=Cx.frm_at hx
 have hkid:=(hc.kid n x hx).1
 obtain ⟨g,o,cap,hv,c0,c1,c2,c3,c4⟩:=hc.form h.below hx
 have b5:=h.cell (j:=5) (u:=c.fv) rfl
 rw [hv] at b5
 have e1:(n:Int)<(c.fs.length:Int):=by omega
 have e2:(0:Int)≤(n:Int):=by omega
 have HX:=hidI hx
 obtain ⟨⟨xk,xs,xn,xks,xp⟩,kv⟩:=x
 simp only at hs c0 c1 c2 c3 c4 hfx hkid
 obtain ⟨_,ka,kc,hkv,_⟩:=id hkid
 subst hkv
 have HR:Hid (takeP c.l ex ac st k n 119 p.es=.ok ({ k with inn:=decide (xs=⟨#[105,110]⟩) },p.es)):=hidI (by simp [takeP,hfx])
 have HA:=hidI (h.alloc (.cells #[.int .u8 xk,.string xs,.int .i64 xn,.slice ka xks.length kc,.int .i64 xp] 115))
 have HH:=hidI h
 have HS:=hidI hs
 have hBlt:=h.lt
 have hClt:=h.clt
 have hsz:=h.size
 clear hv hfx h hx hs
 have b2:=zbW xs ⟨#[105,110]⟩
 have l2:(⟨#[105,110]⟩:ByteArray).toList=[105,110]:=by decide +kernel
 rw [l2] at b2
 obtain ⟨r,hr⟩:∃ r,decide (xs=⟨#[105,110]⟩)=r:=⟨_,rfl⟩
 rw [hr] at b2 HR
 have HE:Hid (RdS c p (cRows cb { k with inn:=r } av tv ev X) ((w.setCell ⟨cb,2,none⟩ (.bool r)).alloc (.cells #[.int .u8 xk,.string xs,.int .i64 xn,.slice ka xks.length kc,.int .i64 xp] 115))):=hidI (RdS.alloc (RdS.setbox (j:=2) HH.out (.bool r)) _)
 have k2:=HA.out.ccell (j:=2) rfl
 have f2:=HA.out.cfree 2
 clear l2 hr
 go_enter Tryz.func123,Tryz.ntmps123
 go_wp2
 go_end0
 rw [HR.out]
 exact ⟨rfl,p,av,tv,ev,rfl,rfl,rfl,HE.out⟩
set_option maxHeartbeats 1000000 in
theorem take_e {c:Cx} (hc:c.Ok) {ex st:RdE Int} {ac:RdE Actn} {cb:Nat} {p:PV} {X:List Rw} {k:Ctn} {av tv ev:Value} {w:World} (h:RdS c p (cRows cb k av tv ev X) w) {n:Nat} (hn:n<c.fs.length) (HE:RC c 148 n rI ex) (hN:NQ p.es+c.sz n≤1000) :
  Calls Tryz.prog 123 #[.pointer (some ⟨c.B,0,none⟩),.pointer (some ⟨cb,0,none⟩),.int .i64 (n:Int),.int .i32 101] w (TakePost c cb X p (takeP c.l ex ac st k n 101 p.es)):=by
 obtain ⟨x,hx⟩:∃ x,c.fs[n]?=some x:=⟨_,List.getElem?_eq_getElem hn⟩
 have hs:=hc.txt n x hx
 have hfx:=Cx.frm_at hx
 have hkid:=(hc.kid n x hx).1
 obtain ⟨g,o,cap,hv,c0,c1,c2,c3,c4⟩:=hc.form h.below hx
 have b5:=h.cell (j:=5) (u:=c.fv) rfl
 rw [hv] at b5
 have e1:(n:Int)<(c.fs.length:Int):=by omega
 have e2:(0:Int)≤(n:Int):=by omega
 have HX:=hidI hx
 obtain ⟨⟨xk,xs,xn,xks,xp⟩,kv⟩:=x
 simp only at hs c0 c1 c2 c3 c4 hfx hkid
 obtain ⟨_,ka,kc,hkv,_⟩:=id hkid
 subst hkv
 have HA:=hidI (h.alloc (.cells #[.int .u8 xk,.string xs,.int .i64 xn,.slice ka xks.length kc,.int .i64 xp] 115))
 have HH:=hidI h
 have HS:=hidI hs
 have hBlt:=h.lt
 have hClt:=h.clt
 have hsz:=h.size
 clear hv hfx h hx hs
 have C:=hidI (HE p (cRows cb k av tv ev X) _ HA.out hN)
 clear HE hN
 cases hr:ex n p.es with
 | error q=>
  have HR:Hid (takeP c.l ex ac st k n 101 p.es=.error q):=hidI (by simp [takeP,hr])
  rw [hr] at C
  clear hr
  go_enter Tryz.func123,Tryz.ntmps123
  go_wp2_with (go_at_call 148;refine C.out.mono ?_;intro e w1 h1;obtain ⟨rfl,hb1⟩:=h1;clear C)
  refine ⟨rfl,?_⟩
  rw [HR.out]
  exact ⟨rfl,hb1.sub (.cons _ (.cons _ (.cons _ (.cons _ (.refl _)))))⟩
 | ok y=>
  obtain ⟨i,q⟩:=y
  have HR:Hid (takeP c.l ex ac st k n 101 p.es=.ok ({ k with e:=i },q)):=hidI (by simp [takeP,hr])
  rw [hr] at C
  clear hr
  go_enter Tryz.func123,Tryz.ntmps123
  go_wp2_with (go_at_call 148;refine C.out.mono ?_;intro e w1 h1;obtain ⟨rfl,hb1⟩:=h1;clear C;refine Hid.out ?_)
  obtain ⟨p1,hes1,hds1,hms1,hS1⟩:=hb1
  have HS1:=hidI hS1
  have k3:=hS1.ccell (j:=3) rfl
  have f3:=hS1.cfree 3
  have HP1:=hidI (And.intro hes1 (And.intro hds1 hms1))
  clear hS1 hes1 hds1 hms1
  refine hidI ?_
  go_wp2
  go_end0
  rw [HR.out]
  exact ⟨rfl,p1,av,tv,ev,HP1.out.1,HP1.out.2.1,HP1.out.2.2,RdS.setbox (j:=3) HS1.out (.int .i64 i)⟩
set_option maxHeartbeats 1000000 in
theorem take_c {c:Cx} (hc:c.Ok) {ex st:RdE Int} {ac:RdE Actn} {cb:Nat} {p:PV} {X:List Rw} {k:Ctn} {av tv ev:Value} {w:World} (h:RdS c p (cRows cb k av tv ev X) w) {n:Nat} (hn:n<c.fs.length) (HE:RC c 148 n rI ex) (hN:NQ p.es+c.sz n≤1000) :
  Calls Tryz.prog 123 #[.pointer (some ⟨c.B,0,none⟩),.pointer (some ⟨cb,0,none⟩),.int .i64 (n:Int),.int .i32 99] w (TakePost c cb X p (takeP c.l ex ac st k n 99 p.es)):=by
 obtain ⟨x,hx⟩:∃ x,c.fs[n]?=some x:=⟨_,List.getElem?_eq_getElem hn⟩
 have hs:=hc.txt n x hx
 have hfx:=Cx.frm_at hx
 have hkid:=(hc.kid n x hx).1
 obtain ⟨g,o,cap,hv,c0,c1,c2,c3,c4⟩:=hc.form h.below hx
 have b5:=h.cell (j:=5) (u:=c.fv) rfl
 rw [hv] at b5
 have e1:(n:Int)<(c.fs.length:Int):=by omega
 have e2:(0:Int)≤(n:Int):=by omega
 have HX:=hidI hx
 obtain ⟨⟨xk,xs,xn,xks,xp⟩,kv⟩:=x
 simp only at hs c0 c1 c2 c3 c4 hfx hkid
 obtain ⟨_,ka,kc,hkv,_⟩:=id hkid
 subst hkv
 have HA:=hidI (h.alloc (.cells #[.int .u8 xk,.string xs,.int .i64 xn,.slice ka xks.length kc,.int .i64 xp] 115))
 have HH:=hidI h
 have HS:=hidI hs
 have hBlt:=h.lt
 have hClt:=h.clt
 have hsz:=h.size
 clear hv hfx h hx hs
 have C:=hidI (HE p (cRows cb k av tv ev X) _ HA.out hN)
 clear HE hN
 cases hr:ex n p.es with
 | error q=>
  have HR:Hid (takeP c.l ex ac st k n 99 p.es=.error q):=hidI (by simp [takeP,hr])
  rw [hr] at C
  clear hr
  go_enter Tryz.func123,Tryz.ntmps123
  go_wp2_with (go_at_call 148;refine C.out.mono ?_;intro e w1 h1;obtain ⟨rfl,hb1⟩:=h1;clear C)
  refine ⟨rfl,?_⟩
  rw [HR.out]
  exact ⟨rfl,hb1.sub (.cons _ (.cons _ (.cons _ (.cons _ (.refl _)))))⟩
 | ok y=>
  obtain ⟨i,q⟩:=y
  have HR:Hid (takeP c.l ex ac st k n 99 p.es=.ok ({ k with cond:=i },q)):=hidI (by simp [takeP,hr])
  rw [hr] at C
  clear hr
  go_enter Tryz.func123,Tryz.ntmps123
  go_wp2_with (go_at_call 148;refine C.out.mono ?_;intro e w1 h1;obtain ⟨rfl,hb1⟩:=h1;clear C;refine Hid.out ?_)
  obtain ⟨p1,hes1,hds1,hms1,hS1⟩:=hb1
  have HS1:=hidI hS1
  have k3:=hS1.ccell (j:=4) rfl
  have f3:=hS1.cfree 4
  have HP1:=hidI (And.intro hes1 (And.intro hds1 hms1))
  clear hS1 hes1 hds1 hms1
  refine hidI ?_
  go_wp2
  go_end0
  rw [HR.out]
  exact ⟨rfl,p1,av,tv,ev,HP1.out.1,HP1.out.2.1,HP1.out.2.2,RdS.setbox (j:=4) HS1.out (.int .i64 i)⟩
set_option maxHeartbeats 1000000 in
theorem take_t {c:Cx} (hc:c.Ok) {ex st:RdE Int} {ac:RdE Actn} {cb:Nat} {p:PV} {X:List Rw} {k:Ctn} {av tv ev:Value} {w:World} (h:RdS c p (cRows cb k av tv ev X) w) {n:Nat} (hn:n<c.fs.length) (HT:∀ m∈(frm c.l n).kids,RC c 93 m rI st) (hbd:Bd c st) (hN:NQ p.es+c.sz n≤1000) :
  Calls Tryz.prog 123 #[.pointer (some ⟨c.B,0,none⟩),.pointer (some ⟨cb,0,none⟩),.int .i64 (n:Int),.int .i32 116] w (TakePost c cb X p (takeP c.l ex ac st k n 116 p.es)):=by
 obtain ⟨x,hx⟩:∃ x,c.fs[n]?=some x:=⟨_,List.getElem?_eq_getElem hn⟩
 have hs:=hc.txt n x hx
 have hfx:=Cx.frm_at hx
 have hkid:=(hc.kid n x hx).1
 obtain ⟨g,o,cap,hv,c0,c1,c2,c3,c4⟩:=hc.form h.below hx
 have b5:=h.cell (j:=5) (u:=c.fv) rfl
 rw [hv] at b5
 have e1:(n:Int)<(c.fs.length:Int):=by omega
 have e2:(0:Int)≤(n:Int):=by omega
 have HX:=hidI hx
 obtain ⟨⟨xk,xs,xn,xks,xp⟩,kv⟩:=x
 simp only at hs c0 c1 c2 c3 c4 hfx hkid
 obtain ⟨_,ka,kc,hkv,_⟩:=id hkid
 subst hkv
 have HA:=hidI (h.alloc (.cells #[.int .u8 xk,.string xs,.int .i64 xn,.slice ka xks.length kc,.int .i64 xp] 115))
 have HH:=hidI h
 have HS:=hidI hs
 have hBlt:=h.lt
 have hClt:=h.clt
 have hsz:=h.size
 rw [hfx] at HT
 have hkl:=hc.kidlen n _ hx
 have hszn:=hc.szk n _ hx
 have hkd:=fun m hm=>(hc.kidlt n _ hx m hm).2
 simp only at hkl hszn hkd HT
 have HFX:=hidI hfx
 have C:=hidI (each_any (c:=c) (F:=93) (r:=st) (ks:=xks) hkid hkl hkd HT hbd HA.out (by omega) (.inr rfl))
 clear hszn hkd HT hkl
 clear hv hfx h hx hs
 cases hr:rows st xks p.es with
 | error q=>
  have HR:Hid (takeP c.l ex ac st k n 116 p.es=.error q):=hidI (by simp [takeP,HFX.out,hr])
  rw [hr] at C
  clear hr HFX
  go_enter Tryz.func123,Tryz.ntmps123
  go_wp2_with (go_at_call 150;refine C.out.mono ?_;intro e w1 h1;obtain ⟨rfl,hb1⟩:=h1;clear C)
  refine ⟨rfl,?_⟩
  rw [HR.out]
  exact ⟨rfl,hb1.sub (.cons _ (.cons _ (.cons _ (.cons _ (.refl _)))))⟩
 | ok y=>
  obtain ⟨is,q⟩:=y
  have HR:Hid (takeP c.l ex ac st k n 116 p.es=.ok ({ k with thn:=is },q)):=hidI (by simp [takeP,HFX.out,hr])
  rw [hr] at C
  clear hr HFX
  go_enter Tryz.func123,Tryz.ntmps123
  go_wp2_with (go_at_call 150;refine C.out.mono ?_;intro e w1 h1;obtain ⟨ov,p1,rfl,hb1⟩:=h1;clear C;refine Hid.out ?_)
  obtain ⟨hes1,hds1,hms1,hS1⟩:=hb1
  have s1:RdS c p1 (cBox cb k av tv ev::iRow ov is::aRow av k.acts::iRow tv k.thn::iRow ev k.els::X) w1:=hS1.perm (List.Perm.swap _ _ _)
  have k3:=zaB (RowsP.head (r:=cBox cb k av tv ev) s1.first) (j:=6) rfl
  have f3:=zaQ (RowsP.head (r:=cBox cb k av tv ev) s1.first) 6
  have s2:=RdS.setbox (j:=6) s1 ov
  have HS2:Hid (RdS c p1 (cBox cb { k with thn:=is } av ov ev::aRow av k.acts::iRow ov is::iRow ev k.els::X) (w1.setCell ⟨cb,6,none⟩ ov)):=hidI ((s2.perm ((List.Perm.swap _ _ _).cons _)).sub (.cons_cons _ (.cons_cons _ (.cons_cons _ (.cons _ (.refl _))))))
  have HP1:=hidI (And.intro hes1 (And.intro hds1 hms1))
  obtain ⟨oa,oc,hov⟩:∃ oa oc,ov=.slice oa is.length oc:=zaE (RowsP.head (r:=iRow ov is) hS1.first)
  subst hov
  clear hS1 hes1 hds1 hms1 s1 s2
  refine hidI ?_
  go_wp2
  go_end0
  rw [HR.out]
  exact ⟨rfl,p1,_,_,_,HP1.out.1,HP1.out.2.1,HP1.out.2.2,HS2.out⟩
set_option maxHeartbeats 1000000 in
theorem take_f {c:Cx} (hc:c.Ok) {ex st:RdE Int} {ac:RdE Actn} {cb:Nat} {p:PV} {X:List Rw} {k:Ctn} {av tv ev:Value} {w:World} (h:RdS c p (cRows cb k av tv ev X) w) {n:Nat} (hn:n<c.fs.length) (HT:∀ m∈(frm c.l n).kids,RC c 93 m rI st) (hbd:Bd c st) (hN:NQ p.es+c.sz n≤1000) :
  Calls Tryz.prog 123 #[.pointer (some ⟨c.B,0,none⟩),.pointer (some ⟨cb,0,none⟩),.int .i64 (n:Int),.int .i32 102] w (TakePost c cb X p (takeP c.l ex ac st k n 102 p.es)):=by
 obtain ⟨x,hx⟩:∃ x,c.fs[n]?=some x:=⟨_,List.getElem?_eq_getElem hn⟩
 have hs:=hc.txt n x hx
 have hfx:=Cx.frm_at hx
 have hkid:=(hc.kid n x hx).1
 obtain ⟨g,o,cap,hv,c0,c1,c2,c3,c4⟩:=hc.form h.below hx
 have b5:=h.cell (j:=5) (u:=c.fv) rfl
 rw [hv] at b5
 have e1:(n:Int)<(c.fs.length:Int):=by omega
 have e2:(0:Int)≤(n:Int):=by omega
 have HX:=hidI hx
 obtain ⟨⟨xk,xs,xn,xks,xp⟩,kv⟩:=x
 simp only at hs c0 c1 c2 c3 c4 hfx hkid
 obtain ⟨_,ka,kc,hkv,_⟩:=id hkid
 subst hkv
 have HA:=hidI (h.alloc (.cells #[.int .u8 xk,.string xs,.int .i64 xn,.slice ka xks.length kc,.int .i64 xp] 115))
 have HH:=hidI h
 have HS:=hidI hs
 have hBlt:=h.lt
 have hClt:=h.clt
 have hsz:=h.size
 rw [hfx] at HT
 have hkl:=hc.kidlen n _ hx
 have hszn:=hc.szk n _ hx
 have hkd:=fun m hm=>(hc.kidlt n _ hx m hm).2
 simp only at hkl hszn hkd HT
 have HFX:=hidI hfx
 have C:=hidI (each_any (c:=c) (F:=93) (r:=st) (ks:=xks) hkid hkl hkd HT hbd HA.out (by omega) (.inr rfl))
 clear hszn hkd HT hkl
 clear hv hfx h hx hs
 cases hr:rows st xks p.es with
 | error q=>
  have HR:Hid (takeP c.l ex ac st k n 102 p.es=.error q):=hidI (by simp [takeP,HFX.out,hr])
  rw [hr] at C
  clear hr HFX
  go_enter Tryz.func123,Tryz.ntmps123
  go_wp2_with (go_at_call 150;refine C.out.mono ?_;intro e w1 h1;obtain ⟨rfl,hb1⟩:=h1;clear C)
  refine ⟨rfl,?_⟩
  rw [HR.out]
  exact ⟨rfl,hb1.sub (.cons _ (.cons _ (.cons _ (.cons _ (.refl _)))))⟩
 | ok y=>
  obtain ⟨is,q⟩:=y
  have HR:Hid (takeP c.l ex ac st k n 102 p.es=.ok ({ k with els:=is },q)):=hidI (by simp [takeP,HFX.out,hr])
  rw [hr] at C
  clear hr HFX
  go_enter Tryz.func123,Tryz.ntmps123
  go_wp2_with (go_at_call 150;refine C.out.mono ?_;intro e w1 h1;obtain ⟨ov,p1,rfl,hb1⟩:=h1;clear C;refine Hid.out ?_)
  obtain ⟨hes1,hds1,hms1,hS1⟩:=hb1
  have s1:RdS c p1 (cBox cb k av tv ev::iRow ov is::aRow av k.acts::iRow tv k.thn::iRow ev k.els::X) w1:=hS1.perm (List.Perm.swap _ _ _)
  have k3:=zaB (RowsP.head (r:=cBox cb k av tv ev) s1.first) (j:=7) rfl
  have f3:=zaQ (RowsP.head (r:=cBox cb k av tv ev) s1.first) 7
  have s2:=RdS.setbox (j:=7) s1 ov
  have HS2:Hid (RdS c p1 (cBox cb { k with els:=is } av tv ov::aRow av k.acts::iRow tv k.thn::iRow ov is::X) (w1.setCell ⟨cb,7,none⟩ ov)):=hidI ((s2.perm (((List.Perm.swap _ _ _).trans ((List.Perm.swap _ _ _).cons _)).cons _)).sub (.cons_cons _ (.cons_cons _ (.cons_cons _ (.cons_cons _ (.cons _ (.refl _)))))))
  have HP1:=hidI (And.intro hes1 (And.intro hds1 hms1))
  obtain ⟨oa,oc,hov⟩:∃ oa oc,ov=.slice oa is.length oc:=zaE (RowsP.head (r:=iRow ov is) hS1.first)
  subst hov
  clear hS1 hes1 hds1 hms1 s1 s2
  refine hidI ?_
  go_wp2
  go_end0
  rw [HR.out]
  exact ⟨rfl,p1,_,_,_,HP1.out.1,HP1.out.2.1,HP1.out.2.2,HS2.out⟩
abbrev rA:Actn→Value:=fun i=>.agg #[.int .u8 (i.k:Int),.string i.name,.int .u8 (i.op:Int),.bool i.inn,.int .i64 i.e,.int .i64 i.cond]
set_option maxHeartbeats 1000000 in
theorem take_a {c:Cx} (hc:c.Ok) {ex st:RdE Int} {ac:RdE Actn} {cb:Nat} {p:PV} {X:List Rw} {k:Ctn} {av tv ev:Value} {w:World} (h:RdS c p (cRows cb k av tv ev X) w) {n:Nat} (hn:n<c.fs.length) (HE:RC c 149 n rA ac) (hN:NQ p.es+c.sz n≤1000) (hal:k.acts.length≤900) :
  Calls Tryz.prog 123 #[.pointer (some ⟨c.B,0,none⟩),.pointer (some ⟨cb,0,none⟩),.int .i64 (n:Int),.int .i32 97] w (TakePost c cb X p (takeP c.l ex ac st k n 97 p.es)):=by
 obtain ⟨x,hx⟩:∃ x,c.fs[n]?=some x:=⟨_,List.getElem?_eq_getElem hn⟩
 have hs:=hc.txt n x hx
 have hfx:=Cx.frm_at hx
 have hkid:=(hc.kid n x hx).1
 obtain ⟨g,o,cap,hv,c0,c1,c2,c3,c4⟩:=hc.form h.below hx
 have b5:=h.cell (j:=5) (u:=c.fv) rfl
 rw [hv] at b5
 have e1:(n:Int)<(c.fs.length:Int):=by omega
 have e2:(0:Int)≤(n:Int):=by omega
 have HX:=hidI hx
 obtain ⟨⟨xk,xs,xn,xks,xp⟩,kv⟩:=x
 simp only at hs c0 c1 c2 c3 c4 hfx hkid
 obtain ⟨_,ka,kc,hkv,_⟩:=id hkid
 subst hkv
 have HA:=hidI (h.alloc (.cells #[.int .u8 xk,.string xs,.int .i64 xn,.slice ka xks.length kc,.int .i64 xp] 115))
 have HH:=hidI h
 have HS:=hidI hs
 have hBlt:=h.lt
 have hClt:=h.clt
 have hsz:=h.size
 clear hv hfx h hx hs
 have C:=hidI (HE p (cRows cb k av tv ev X) _ HA.out.drew hN)
 have HU:=hidI (HA.out.drew.ccell (j:=5) (u:=av) rfl)
 have HUS:Hid (∃ ua ul uc,av=.slice ua ul uc):=hidI (by
  obtain ⟨a,b,e⟩:=zaE (HA.out.second).head
  exact ⟨a,_,b,e⟩)
 have HNE:Hid (Value.ownBlock av≠some cb):=hidI (by rcases HA.out.first.far_head (aRow av k.acts) (by simp [prows]) with h|h;cases h;exact fun e=>h e.symm)
 have hal2:k.acts.length≤1000:=by omega
 clear HE hN
 cases hr:ac n p.es with
 | error q=>
  have HR:Hid (takeP c.l ex ac st k n 97 p.es=.error q):=hidI (by simp [takeP,hr])
  rw [hr] at C
  clear hr
  go_enter Tryz.func123,Tryz.ntmps123
  go_wp2
  refine regAct (B:=c.B) (cb:=cb) (base:=c.w0.heap.size) (n:=k.acts.length) (u:=av) (xs:=flatAc k.acts) (P:=fun _ _=>False) HU.out HUS.out hal2 HNE.out (C.out.mono fun e w' h=>.inr ⟨_,h.1,fun a ha=>⟨ha,by rw [HR.out];exact ⟨rfl,h.2.sub (.cons _ (.cons _ (.cons _ (.cons _ (.refl _)))))⟩⟩⟩) (fun i=>acells_one i) (fun _ _ _ _ _ h=>h) ?_
  intro i W1 W5 u' t70 t71 t72 t73 t74 t75 t76 t77 t78 t79 t80 t81 hP
  exact hP.elim
 | ok y=>
  obtain ⟨i,q⟩:=y
  have HR:Hid (takeP c.l ex ac st k n 97 p.es=.ok ({ k with acts:=k.acts++[i] },q)):=hidI (by simp [takeP,hr])
  rw [hr] at C
  clear hr
  go_enter Tryz.func123,Tryz.ntmps123
  go_wp2
  refine regAct (B:=c.B) (cb:=cb) (base:=c.w0.heap.size) (n:=k.acts.length) (u:=av) (xs:=flatAc k.acts) (P:=fun i' W=>i'=i∧∃ p1,p1.es=q∧(p1.ds,p1.dv)=(p.ds,p.dv)∧(p1.ms,p1.mv)=(p.ms,p.mv)∧RdS c p1 (cRows cb k av tv ev X) W) HU.out HUS.out hal2 HNE.out (C.out.mono ?_) (fun i=>acells_one i) (fun _ _ _ _ _ h=>h) ?_
  ·rintro e w' ⟨rfl,p1,h1,h2,h3,hS⟩
   exact .inl ⟨i,rfl,hS.ccell (j:=5) rfl,hS.cfree 5,(hS.second).head,hS.size,rfl,p1,h1,h2,h3,hS⟩
  ·rintro i' W1 W5 u' t70 t71 t72 t73 t74 t75 t76 t77 t78 t79 t80 t81 ⟨rfl,p1,h1,h2,h3,hS⟩ hg ho ha
   have s1:RdS c p1 (aRow av k.acts::cBox cb k av tv ev::iRow tv k.thn::iRow ev k.els::X) (W1.alloc (.cells #[.int .u8 (i'.k:Int),.string i'.name,.int .u8 (i'.op:Int),.bool i'.inn,.int .i64 i'.e,.int .i64 i'.cond] 126)):=(hS.alloc _).perm (List.Perm.swap _ _ _)
   have s2:RdS c p1 (aRow u' (k.acts++[i'])::cBox cb k av tv ev::iRow tv k.thn::iRow ev k.els::X) W5:=s1.put1 hg (by
     show W5.ownsRow c.w0.heap.size 126 6 u' (k.acts++[i']).length (flatAc (k.acts++[i']))
     rw [List.length_append,flatAc_snoc]
     exact ho) (.inr (by simp only [World.size_alloc];exact ha))
   have HS3:Hid (RdS c p1 (cRows cb { k with acts:=k.acts++[i'] } u' tv ev X) (W5.setCell ⟨cb,5,none⟩ u')):=hidI (RdS.setbox (j:=5) (s2.perm (List.Perm.swap _ _ _)) u')
   have HP1:=hidI (And.intro h1 (And.intro h2 h3))
   clear s1 s2 hS hg ho ha h1 h2 h3
   go_wp2
   go_end0
   rw [HR.out]
   exact ⟨rfl,p1,_,_,_,HP1.out.1,HP1.out.2.1,HP1.out.2.2,HS3.out⟩
set_option maxHeartbeats 1000000 in
theorem take_s {c:Cx} (hc:c.Ok) {ex st:RdE Int} {ac:RdE Actn} {cb:Nat} {p:PV} {X:List Rw} {k:Ctn} {av tv ev:Value} {w:World} (h:RdS c p (cRows cb k av tv ev X) w) {n:Nat} (hn:n<c.fs.length) (HE:RC c 93 n rI st) (hN:NQ p.es+c.sz n≤1000) (hal:k.thn.length≤900) :
  Calls Tryz.prog 123 #[.pointer (some ⟨c.B,0,none⟩),.pointer (some ⟨cb,0,none⟩),.int .i64 (n:Int),.int .i32 115] w (TakePost c cb X p (takeP c.l ex ac st k n 115 p.es)):=by
 obtain ⟨x,hx⟩:∃ x,c.fs[n]?=some x:=⟨_,List.getElem?_eq_getElem hn⟩
 have hs:=hc.txt n x hx
 have hfx:=Cx.frm_at hx
 have hkid:=(hc.kid n x hx).1
 obtain ⟨g,o,cap,hv,c0,c1,c2,c3,c4⟩:=hc.form h.below hx
 have b5:=h.cell (j:=5) (u:=c.fv) rfl
 rw [hv] at b5
 have e1:(n:Int)<(c.fs.length:Int):=by omega
 have e2:(0:Int)≤(n:Int):=by omega
 have HX:=hidI hx
 obtain ⟨⟨xk,xs,xn,xks,xp⟩,kv⟩:=x
 simp only at hs c0 c1 c2 c3 c4 hfx hkid
 obtain ⟨_,ka,kc,hkv,_⟩:=id hkid
 subst hkv
 have HA:=hidI (h.alloc (.cells #[.int .u8 xk,.string xs,.int .i64 xn,.slice ka xks.length kc,.int .i64 xp] 115))
 have HH:=hidI h
 have HS:=hidI hs
 have hBlt:=h.lt
 have hClt:=h.clt
 have hsz:=h.size
 clear hv hfx h hx hs
 have C:=hidI (HE p (cRows cb k av tv ev X) _ HA.out.drew hN)
 have HU:=hidI (HA.out.drew.ccell (j:=6) (u:=tv) rfl)
 have HUS:Hid (∃ ua ul uc,tv=.slice ua ul uc):=hidI (by
  obtain ⟨a,b,e⟩:=zaE (HA.out.third).head
  exact ⟨a,_,b,e⟩)
 have HNE:Hid (Value.ownBlock tv≠some cb):=hidI (by rcases HA.out.first.far_head (iRow tv k.thn) (by simp [prows]) with h|h;cases h;exact fun e=>h e.symm)
 have hal2:k.thn.length≤1000:=by omega
 clear HE hN
 cases hr:st n p.es with
 | error q=>
  have HR:Hid (takeP c.l ex ac st k n 115 p.es=.error q):=hidI (by simp [takeP,hr])
  rw [hr] at C
  clear hr
  go_enter Tryz.func123,Tryz.ntmps123
  go_wp2
  refine regRest (B:=c.B) (cb:=cb) (base:=c.w0.heap.size) (n:=k.thn.length) (u:=tv) (xs:=intsI k.thn) (P:=fun _ _=>False) HU.out HUS.out hal2 HNE.out (C.out.mono fun e w' h=>.inr ⟨_,h.1,fun a ha=>⟨ha,by rw [HR.out];exact ⟨rfl,h.2.sub (.cons _ (.cons _ (.cons _ (.cons _ (.refl _)))))⟩⟩⟩) (fun i=>by simp [Value.oneCell']) (fun _ _ _ _ _ h=>h) ?_
  intro i W1 W5 u' t104 t105 t106 t107 t108 t109 t110 t111 t112 t113 t114 t115 hP
  exact hP.elim
 | ok y=>
  obtain ⟨i,q⟩:=y
  have HR:Hid (takeP c.l ex ac st k n 115 p.es=.ok ({ k with thn:=k.thn++[i] },q)):=hidI (by simp [takeP,hr])
  rw [hr] at C
  clear hr
  go_enter Tryz.func123,Tryz.ntmps123
  go_wp2
  refine regRest (B:=c.B) (cb:=cb) (base:=c.w0.heap.size) (n:=k.thn.length) (u:=tv) (xs:=intsI k.thn) (P:=fun i' W=>i'=i∧∃ p1,p1.es=q∧(p1.ds,p1.dv)=(p.ds,p.dv)∧(p1.ms,p1.mv)=(p.ms,p.mv)∧RdS c p1 (cRows cb k av tv ev X) W) HU.out HUS.out hal2 HNE.out (C.out.mono ?_) (fun i=>by simp [Value.oneCell']) (fun _ _ _ _ _ h=>h) ?_
  ·rintro e w' ⟨rfl,p1,h1,h2,h3,hS⟩
   exact .inl ⟨i,rfl,hS.ccell (j:=6) rfl,hS.cfree 6,(hS.third).head,hS.size,rfl,p1,h1,h2,h3,hS⟩
  ·rintro i' W1 W5 u' t104 t105 t106 t107 t108 t109 t110 t111 t112 t113 t114 t115 ⟨rfl,p1,h1,h2,h3,hS⟩ hg ho ha
   have s1:RdS c p1 (iRow tv k.thn::cBox cb k av tv ev::aRow av k.acts::iRow ev k.els::X) (W1.alloc (.cells #[.int .i64 i'] 3)):=(hS.alloc _).perm (List.Perm.trans ((List.Perm.swap _ _ _).cons _) (List.Perm.swap _ _ _))
   have s2:RdS c p1 (iRow u' (k.thn++[i'])::cBox cb k av tv ev::aRow av k.acts::iRow ev k.els::X) W5:=s1.put1 hg (by
     show W5.ownsRow c.w0.heap.size 3 1 u' (k.thn++[i']).length (intsI (k.thn++[i']))
     rw [List.length_append]
     simpa [intsI] using ho) (.inr (by simp only [World.size_alloc];exact ha))
   have HS3:Hid (RdS c p1 (cRows cb { k with thn:=k.thn++[i'] } av u' ev X) (W5.setCell ⟨cb,6,none⟩ u')):=hidI (RdS.setbox (j:=6) (s2.perm (List.Perm.trans (List.Perm.swap _ _ _) ((List.Perm.swap _ _ _).cons _))) u')
   have HP1:=hidI (And.intro h1 (And.intro h2 h3))
   clear s1 s2 hS hg ho ha h1 h2 h3
   go_wp2
   go_end0
   rw [HR.out]
   exact ⟨rfl,p1,_,_,_,HP1.out.1,HP1.out.2.1,HP1.out.2.2,HS3.out⟩
end Go.Proofs.YtmekkhfohmfjkaaGreatDoor
