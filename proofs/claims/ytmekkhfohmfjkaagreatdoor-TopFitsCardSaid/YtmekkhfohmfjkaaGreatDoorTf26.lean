/-
  Part 26 of the proof: TyE.
-/
import Derived.Test.YtmekkhfohmfjkaaGreatDoorTf25
namespace Go.Proofs.YtmekkhfohmfjkaaGreatDoor
open Go.RowKit Go.Deep Go.MapKept
def KCt (c:Nat) (i:Int) (p:PV) (wh f:Nat):Prop:=∀ (a:Int) (w:World),TyS c i p w→0≤a→a<(f:Int)→a<(p.xs.length:Int)→Calls Tryz.prog 127 #[.pointer (some ⟨c,0,none⟩),.int .i64 a,.int .u8 (wh:Int)] w fun e w'=>ROpt i (kindX p.prg.decls p.prg.exprs wh f a) e∧Below w.heap.size w w'
theorem kindOf_all {c:Nat} {i:Int} {p:PV} (hwf:WfX p.prg.exprs) (hd:p.ds.length≤24) (wh:Nat):∀ f,KCt c i p wh f
 | 0=>fun a w _ h0 hf _=>by omega
 | f+1=>fun a w h h0 hf hl=>by
  obtain ⟨j,rfl⟩:=Int.eq_ofNat_of_zero_le h0
  have hj:j<p.xs.length:=by omega
  obtain ⟨⟨⟨ek,eof,eop,enm,enum,ekids⟩,ev⟩,hx⟩:∃ x,p.xs[j]?=some x:=⟨_,List.getElem?_eq_getElem hj⟩
  obtain ⟨_,ka,kc,hev,_⟩:=id (h.s.xk _ (List.mem_of_getElem? hx))
  simp only at hev
  subst hev
  have hxp:p.prg.exprs[j]?=some ⟨ek,eof,eop,enm,enum,ekids⟩:=by
   show (p.xs.map Prod.fst)[j]?=_
   rw [List.getElem?_map,hx];rfl
  have hR:kindX p.prg.decls p.prg.exprs wh (f+1) (j:Int)=kindE p.ds (kindX p.prg.decls p.prg.exprs wh f) wh ⟨ek,eof,eop,enm,enum,ekids⟩:=by
   simp only [kindX,Int.toNat_natCast,List.getD_eq_getElem?_getD,hxp,Option.getD_some]
   rfl
  have hw:=fun e10=>hwf j _ hxp e10
  simp only at hw
  have IH:∀ (b:Int) (u:World),TyS c i p u→0≤b→b<(j:Int)→Calls Tryz.prog 127 #[.pointer (some ⟨c,0,none⟩),.int .i64 b,.int .u8 (wh:Int)] u fun e w'=>ROpt i (kindX p.prg.decls p.prg.exprs wh f b) e∧Below u.heap.size u w':=fun b u hu b0 b1=>kindOf_all hwf hd wh f b u hu b0 (by omega) (by omega)
  have hm:ek=1∨ek=2∨ek=3∨ek=4∨ek=5∨ek=10∨(ek≠1∧ek≠2∧ek≠3∧ek≠4∧ek≠5∧ek≠10):=by omega
  rcases hm with rfl|rfl|rfl|rfl|rfl|rfl|hek
  ·exact kind_1 h hx hR.symm
  ·exact kind_2 h hd hx hR.symm
  ·exact kind_3 h hd hx hR.symm
  ·exact kind_4 h hd hx hR.symm
  ·exact kind_5 h hd hx hR.symm
  ·obtain ⟨q1,q2,q3,q4⟩:=hw rfl
   exact kind_10 h hx IH q1 q2 q3 q4 hR.symm
  ·exact kind_x hek h hx hR.symm
def AtB (w:World) (b:Nat) (cs:List Value):Prop:=∀ (j:Nat) (v:Value),cs[j]?=some v→w.cell? ⟨b,j,none⟩=some v
theorem AtB.on {w w':World} {b:Nat} {cs:List Value} (h:AtB w b cs) (hb:Below w.heap.size w w'):AtB w' b cs:=fun j v hj=>zaJ hb (h j v hj)
theorem AtB.new (w:World) (ty:TypeId) (cs:Array Value):AtB (w.alloc (.cells cs ty)) w.heap.size cs.toList:=fun j v hj=>by
 rw [cell_of_row _ w.heap.size j cs ty (0,0) (heap_alloc_last w _)]
 simpa using hj
structure Lv (c:Nat) (i:Int) (p:PV) (w0:World) (bk:Nat) (cs:List Value) (w:World):Prop where
 t:TyS c i p w
 b:Below w0.heap.size w0 w
 a:AtB w bk cs
theorem Lv.on {c:Nat} {i:Int} {p:PV} {w0 w w':World} {b:Nat} {cs:List Value} (h:Lv c i p w0 b cs w) (hb:Below w.heap.size w w'):Lv c i p w0 b cs w':=⟨h.t.on hb,h.b.trans (hb.mono h.b.size),h.a.on hb⟩
theorem AtB.z6 {w:World} {b:Nat} {c0 c1 c2 c3 c4 c5:Value} (h:AtB w b [c0,c1,c2,c3,c4,c5]):w.cell? ⟨b,0,none⟩=some c0∧w.cell? ⟨b,1,none⟩=some c1∧w.cell? ⟨b,2,none⟩=some c2∧w.cell? ⟨b,3,none⟩=some c3∧w.cell? ⟨b,4,none⟩=some c4∧w.cell? ⟨b,5,none⟩=some c5:=⟨h 0 _ rfl,h 1 _ rfl,h 2 _ rfl,h 3 _ rfl,h 4 _ rfl,h 5 _ rfl⟩
theorem AtB.z8 {w:World} {b:Nat} {c0 c1 c2 c3 c4 c5 c6 c7:Value} (h:AtB w b [c0,c1,c2,c3,c4,c5,c6,c7]):w.cell? ⟨b,0,none⟩=some c0∧w.cell? ⟨b,1,none⟩=some c1∧w.cell? ⟨b,2,none⟩=some c2∧w.cell? ⟨b,3,none⟩=some c3∧w.cell? ⟨b,4,none⟩=some c4∧w.cell? ⟨b,5,none⟩=some c5∧w.cell? ⟨b,6,none⟩=some c6∧w.cell? ⟨b,7,none⟩=some c7:=⟨h 0 _ rfl,h 1 _ rfl,h 2 _ rfl,h 3 _ rfl,h 4 _ rfl,h 5 _ rfl,h 6 _ rfl,h 7 _ rfl⟩
set_option maxHeartbeats 1000000 in
theorem zdH {c:Nat} {i:Int} {p:PV} (hwf:WfX p.prg.exprs) (hd:p.ds.length≤24) (a:Int) (ha:InX p.prg a) (wh k:Nat) (w:World) (h:TyS c i p w) :
  Calls Tryz.prog 95 #[.pointer (some ⟨c,0,none⟩),.int .i64 a,.int .u8 (wh:Int),.int .u8 (k:Int)] w fun e w'=>MPost i (isO (kX p.prg wh a) k) e∧Below w.heap.size w w':=by
 have CK:=kindOf_all hwf hd (c:=c) (i:=i) wh p.prg.exprs.length a w h ha.1 ha.2 (by have:=ha.2;simpa [PV.prg] using this)
 change Calls _ _ _ _ fun e w'=>ROpt i (kX p.prg wh a) e∧_ at CK
 have HTc:=hidI h
 have HBc:=hidI (Below.refl w.heap.size w)
 have CK2:Hid (∀ u,TyS c i p u→u=w→Calls Tryz.prog 127 #[.pointer (some ⟨c,0,none⟩),.int .i64 a,.int .u8 (wh:Int)] w fun e w'=>ROpt i (kX p.prg wh a) e∧Below w.heap.size w w'):=hidI (fun _ _ _=>CK)
 clear h ha CK hwf hd
 cases hr:kX p.prg wh a with
 | none=>
  rw [hr] at CK2
  clear hr
  go_enter Tryz.func95,Tryz.ntmps95
  go_wp2_with (go_at_call 127;refine Calls.mono (CK2.out _ HTc.out rfl) ?_;intro e w9 h9;obtain ⟨h9,hb9⟩:=h9;have h9:e=_:=h9;subst h9)
  exact ⟨rfl,rfl,hb9⟩
 | some q=>
  rw [hr] at CK2
  clear hr
  by_cases hq:q=k
  ·have e1:((q:Int)==(k:Int))=true:=by rw [natU];simpa using hq
   rw [show isO (some q) k=true by simp [isO,hq]]
   clear hq
   go_enter Tryz.func95,Tryz.ntmps95
   go_wp2_with (first|(go_at_call 127;refine Calls.mono (CK2.out _ HTc.out rfl) ?_;intro e w9 h9;obtain ⟨h9,hb9⟩:=h9;have h9:e=_:=h9;subst h9;clear CK2;have HBc:=hidI hb9;clear hb9)|(go_at_call 100;refine Calls.mono (zbS _ _) ?_;intro e w9 h9;obtain ⟨rfl,rfl⟩:=h9))
   go_end0
   exact ⟨rfl,HBc.out⟩
  ·have e1:((q:Int)==(k:Int))=false:=by rw [natU];simpa using hq
   rw [show isO (some q) k=false by simp [isO,hq]]
   clear hq
   go_enter Tryz.func95,Tryz.ntmps95
   go_wp2_with (first|(go_at_call 127;refine Calls.mono (CK2.out _ HTc.out rfl) ?_;intro e w9 h9;obtain ⟨h9,hb9⟩:=h9;have h9:e=_:=h9;subst h9;clear CK2;have HBc:=hidI hb9;have HTc:=hidI (HTc.out.on hb9);clear hb9)|(go_at_call 100;refine Calls.mono (zbN HTc.out.c4) ?_;intro e w9 h9;obtain ⟨rfl,rfl⟩:=h9))
   exact ⟨rfl,rfl,HBc.out⟩
theorem ccond_any {c:Nat} {i:Int} {p:PV} (hwf:WfX p.prg.exprs) (hd:p.ds.length≤24) (a:Int) (ha:a = -1∨InX p.prg a) (w:World) (h:TyS c i p w) :
  Calls Tryz.prog 98 #[.pointer (some ⟨c,0,none⟩),.int .i64 a] w fun e w'=>MPost i (condO p.prg a) e∧Below w.heap.size w w':=by
 by_cases h1:a = -1
 ·subst h1
  clear ha
  go_enter Tryz.func98,Tryz.ntmps98
  go_wp2
  go_end0
  exact ⟨rfl,Below.refl _ _⟩
 ·have CI:=hidI (fun (u:World) (hu:TyS c i p u)=>zdH hwf hd a (ha.resolve_left h1) 2 2 u hu)
  have e1:(a == -1)=false:=by rw [beq_eq_false_iff_ne];exact h1
  have e2:(a != -1)=true:=by rw [bne,e1];rfl
  have HTc:=hidI h
  have HBc:=hidI (Below.refl w.heap.size w)
  rw [show condO p.prg a=isO (kX p.prg 2 a) 2 by simp [condO,h1]]
  clear h ha h1 hwf hd
  cases hr:isO (kX p.prg 2 a) 2 with
  | false=>
   rw [hr] at CI
   clear hr
   go_enter Tryz.func98,Tryz.ntmps98
   go_wp2_with (go_at_call 95;refine Calls.mono (CI.out _ HTc.out) ?_;intro e w9 h9;obtain ⟨h9,hb9⟩:=h9;have h9:e=_:=h9;subst h9;clear CI;have HBc:=hidI (HBc.out.trans (hb9.mono HBc.out.size));have HTc:=hidI (HTc.out.on hb9);clear hb9)
   exact ⟨rfl,rfl,HBc.out⟩
  | true=>
   rw [hr] at CI
   clear hr
   go_enter Tryz.func98,Tryz.ntmps98
   go_wp2_with (go_at_call 95;refine Calls.mono (CI.out _ HTc.out) ?_;intro e w9 h9;obtain ⟨h9,hb9⟩:=h9;have h9:e=_:=h9;subst h9;clear CI;have HBc:=hidI (HBc.out.trans (hb9.mono HBc.out.size));have HTc:=hidI (HTc.out.on hb9);clear hb9)
   go_end0
   exact ⟨rfl,HBc.out⟩
set_option maxHeartbeats 1000000 in
theorem ctakes_any {c:Nat} {i:Int} {p:PV} (o k:Nat) (ho:o≠18) (w:World) (h:TyS c i p w) :
  Calls Tryz.prog 97 #[.pointer (some ⟨c,0,none⟩),.int .u8 (o:Int),.int .u8 (k:Int)] w fun e w'=>MPost i (takesO o k) e∧Below w.heap.size w w':=by
 have hb:Below w.heap.size w (w.alloc (.cells #[.int .u8 (k:Int),.int .u8 (k:Int)] 33)):=(Below.refl _ _).alloc (Nat.le_refl _) _
 have hs:SeesC (w.alloc (.cells #[.int .u8 (k:Int),.int .u8 (k:Int)] 33)) (.slice (some ⟨w.heap.size,0,none⟩) 2 2) [k,k].length 1 ([k,k].map fun (k:Nat)=>Value.int .u8 (k:Int)):=by
  refine ⟨rfl,_,2,rfl,.inr ⟨w.heap.size,0,rfl,fun j v hj => ?_⟩⟩
  rw [Nat.zero_add,cell_of_row _ w.heap.size j _ _ (0,0) (heap_alloc_last w _)]
  simpa using hj
 have CC:=hidI (ccalled_any (h.on hb).c4 o _ [k,k] hs (by simp) (fun e=>absurd e ho) (fun _=>by simp))
 have HTc:=hidI (h.on hb)
 have HBc:=hidI hb
 have HR:Hid (takesO o k=isO (calledK o [k,k]) k):=hidI rfl
 obtain ⟨R,hR⟩:∃ R,takesO o k=R:=⟨_,rfl⟩
 rw [hR] at HR ⊢
 clear hR h hb hs
 cases hr:calledK o [k,k] with
 | none=>
  rw [hr] at CC HR
  clear hr
  go_enter Tryz.func97,Tryz.ntmps97
  go_wp2_with (first|(go_at_call 128;refine Calls.mono CC.out ?_;intro e w9 h9;obtain ⟨h9,hb9⟩:=h9;have h9:e=_:=h9;subst h9;clear CC;have HBc:=hidI (HBc.out.trans (hb9.mono HBc.out.size));have HTc:=hidI (HTc.out.on hb9);clear hb9))
  exact ⟨rfl,by rw [HR.out];rfl,HBc.out⟩
 | some q=>
  rw [hr] at CC HR
  clear hr
  by_cases hq:q=k
  ·have e1:((q:Int)==(k:Int))=true:=by rw [natU];simpa using hq
   have HR2:Hid (R=true):=hidI (by rw [HR.out];simp [isO,hq])
   clear hq
   go_enter Tryz.func97,Tryz.ntmps97
   go_wp2_with (first|(go_at_call 128;refine Calls.mono CC.out ?_;intro e w9 h9;obtain ⟨h9,hb9⟩:=h9;have h9:e=_:=h9;subst h9;clear CC;have HBc:=hidI (HBc.out.trans (hb9.mono HBc.out.size));have HTc:=hidI (HTc.out.on hb9);clear hb9)|(go_at_call 100;refine Calls.mono (zbS _ _) ?_;intro e w9 h9;obtain ⟨rfl,rfl⟩:=h9))
   go_end0
   exact ⟨by rw [HR2.out];rfl,HBc.out⟩
  ·have e1:((q:Int)==(k:Int))=false:=by rw [natU];simpa using hq
   have HR2:Hid (R=false):=hidI (by rw [HR.out];simp [isO,hq])
   clear hq
   go_enter Tryz.func97,Tryz.ntmps97
   go_wp2_with (first|(go_at_call 128;refine Calls.mono CC.out ?_;intro e w9 h9;obtain ⟨h9,hb9⟩:=h9;have h9:e=_:=h9;subst h9;clear CC;have HBc:=hidI (HBc.out.trans (hb9.mono HBc.out.size));have HTc:=hidI (HTc.out.on hb9);clear hb9)|(go_at_call 100;refine Calls.mono (zbN HTc.out.c4) ?_;intro e w9 h9;obtain ⟨rfl,rfl⟩:=h9))
   exact ⟨rfl,by rw [HR2.out];rfl,HBc.out⟩
set_option maxHeartbeats 2000000 in
theorem cact_1 {c:Nat} {i:Int} {p:PV} (hwf:WfX p.prg.exprs) (hd:p.ds.length≤24) {anm:ByteArray} {aop:Nat} {ain:Bool} {ae acd:Int} (hw:WfA p.prg ⟨1,anm,aop,ain,ae,acd⟩) (w:World) (h:TyS c i p w) :
  Calls Tryz.prog 99 #[.pointer (some ⟨c,0,none⟩),.agg #[.int .u8 1,.string anm,.int .u8 (aop:Int),.bool ain,.int .i64 ae,.int .i64 acd]] w fun e w'=>MPost i (actO p.prg ⟨1,anm,aop,ain,ae,acd⟩) e∧Below w.heap.size w w':=by
 obtain ⟨R,hR⟩:∃ R,actO p.prg ⟨1,anm,aop,ain,ae,acd⟩=R:=⟨_,rfl⟩
 rw [hR]
 have HR:=hidI hR.symm
 clear hR
 have CD:=hidI (fun (u:World) (hu:TyS c i p u)=>zcA hu hd anm 2)
 have hb:Below w.heap.size w (w.alloc (.cells #[.int .u8 1,.string anm,.int .u8 (aop:Int),.bool ain,.int .i64 ae,.int .i64 acd] 126)):=(Below.refl _ _).alloc (Nat.le_refl _) _
 have HBc:=hidI hb
 have HTc:=hidI (h.on hb)
 have HS:=hidI (Lv.mk HTc.out HBc.out (AtB.new w 126 #[.int .u8 1,.string anm,.int .u8 (aop:Int),.bool ain,.int .i64 ae,.int .i64 acd]))
 clear HTc HBc
 have CI:=hidI (fun (k:Nat) (u:World) (hu:TyS c i p u)=>zdH hwf hd ae hw.1 2 k u hu)
 have CC:=hidI (fun (u:World) (hu:TyS c i p u)=>ccond_any hwf hd acd hw.2.1 u hu)
 clear hb h hw hwf hd
 cases hr0:declK p.ds anm 2 with
 | none=>
  rw [hr0] at CD
  have HR2:Hid (R=false):=hidI (by rw [HR.out];simp [actO,show declK p.prg.decls anm 2=_ from hr0])
  clear hr0 HR
  go_enter Tryz.func99,Tryz.ntmps99
  go_wp2_with (first|(go_at_call 96;refine Calls.mono (CD.out _ HS.out.t) ?_;rintro e w9 ⟨rfl,hb9⟩;clear CD;have HS:=hidI (HS.out.on hb9);obtain ⟨z0,z1,z2,z3,z4,z5⟩:=HS.out.a.z6;clear hb9))
  exact ⟨rfl,by rw [HR2.out];rfl,HS.out.b⟩
 | some k=>
  rw [hr0] at CD
  replace CI:=hidI (CI.out k)
  cases hr1:isO (kX p.prg 2 ae) k with
  | false=>
   rw [hr1] at CI
   have HR2:Hid (R=false):=hidI (by rw [HR.out];simp [actO,show declK p.prg.decls anm 2=_ from hr0,hr1])
   clear hr0 hr1 HR
   go_enter Tryz.func99,Tryz.ntmps99
   go_wp2_with (first|(go_at_call 96;refine Calls.mono (CD.out _ HS.out.t) ?_;rintro e w9 ⟨rfl,hb9⟩;clear CD;have HS:=hidI (HS.out.on hb9);obtain ⟨z0,z1,z2,z3,z4,z5⟩:=HS.out.a.z6;clear hb9)|(go_at_call 95;refine Calls.mono (CI.out _ HS.out.t) ?_;rintro e w9 ⟨rfl,hb9⟩;clear CI;have HS:=hidI (HS.out.on hb9);obtain ⟨z0,z1,z2,z3,z4,z5⟩:=HS.out.a.z6;clear hb9))
   exact ⟨rfl,by rw [HR2.out];rfl,HS.out.b⟩
  | true=>
   rw [hr1] at CI
   cases hr2:condO p.prg acd with
   | false=>
    rw [hr2] at CC
    have HR2:Hid (R=false):=hidI (by rw [HR.out];simp [actO,show declK p.prg.decls anm 2=_ from hr0,hr1,hr2])
    clear hr0 hr1 hr2 HR
    go_enter Tryz.func99,Tryz.ntmps99
    go_wp2_with (first|(go_at_call 96;refine Calls.mono (CD.out _ HS.out.t) ?_;rintro e w9 ⟨rfl,hb9⟩;clear CD;have HS:=hidI (HS.out.on hb9);obtain ⟨z0,z1,z2,z3,z4,z5⟩:=HS.out.a.z6;clear hb9)|(go_at_call 95;refine Calls.mono (CI.out _ HS.out.t) ?_;rintro e w9 ⟨rfl,hb9⟩;clear CI;have HS:=hidI (HS.out.on hb9);obtain ⟨z0,z1,z2,z3,z4,z5⟩:=HS.out.a.z6;clear hb9)|(go_at_call 98;refine Calls.mono (CC.out _ HS.out.t) ?_;rintro e w9 ⟨rfl,hb9⟩;clear CC;have HS:=hidI (HS.out.on hb9);obtain ⟨z0,z1,z2,z3,z4,z5⟩:=HS.out.a.z6;clear hb9))
    exact ⟨rfl,by rw [HR2.out];rfl,HS.out.b⟩
   | true=>
    rw [hr2] at CC
    have HR2:Hid (R=true):=hidI (by rw [HR.out];simp [actO,show declK p.prg.decls anm 2=_ from hr0,hr1,hr2])
    clear hr0 hr1 hr2 HR
    go_enter Tryz.func99,Tryz.ntmps99
    go_wp2_with (first|(go_at_call 96;refine Calls.mono (CD.out _ HS.out.t) ?_;rintro e w9 ⟨rfl,hb9⟩;clear CD;have HS:=hidI (HS.out.on hb9);obtain ⟨z0,z1,z2,z3,z4,z5⟩:=HS.out.a.z6;clear hb9)|(go_at_call 95;refine Calls.mono (CI.out _ HS.out.t) ?_;rintro e w9 ⟨rfl,hb9⟩;clear CI;have HS:=hidI (HS.out.on hb9);obtain ⟨z0,z1,z2,z3,z4,z5⟩:=HS.out.a.z6;clear hb9)|(go_at_call 98;refine Calls.mono (CC.out _ HS.out.t) ?_;rintro e w9 ⟨rfl,hb9⟩;clear CC;have HS:=hidI (HS.out.on hb9);obtain ⟨z0,z1,z2,z3,z4,z5⟩:=HS.out.a.z6;clear hb9))
    go_end0
    exact ⟨by rw [HR2.out];rfl,HS.out.b⟩
set_option maxHeartbeats 2000000 in
theorem cact_2 {c:Nat} {i:Int} {p:PV} (hwf:WfX p.prg.exprs) (hd:p.ds.length≤24) {anm:ByteArray} {aop:Nat} {ain:Bool} {ae acd:Int} (hw:WfA p.prg ⟨2,anm,aop,ain,ae,acd⟩) (ho:aop≠18) (w:World) (h:TyS c i p w) :
  Calls Tryz.prog 99 #[.pointer (some ⟨c,0,none⟩),.agg #[.int .u8 2,.string anm,.int .u8 (aop:Int),.bool ain,.int .i64 ae,.int .i64 acd]] w fun e w'=>MPost i (actO p.prg ⟨2,anm,aop,ain,ae,acd⟩) e∧Below w.heap.size w w':=by
 obtain ⟨R,hR⟩:∃ R,actO p.prg ⟨2,anm,aop,ain,ae,acd⟩=R:=⟨_,rfl⟩
 rw [hR]
 have HR:=hidI hR.symm
 clear hR
 have CD:=hidI (fun (u:World) (hu:TyS c i p u)=>zcA hu hd anm 2)
 have hb:Below w.heap.size w (w.alloc (.cells #[.int .u8 2,.string anm,.int .u8 (aop:Int),.bool ain,.int .i64 ae,.int .i64 acd] 126)):=(Below.refl _ _).alloc (Nat.le_refl _) _
 have HBc:=hidI hb
 have HTc:=hidI (h.on hb)
 have HS:=hidI (Lv.mk HTc.out HBc.out (AtB.new w 126 #[.int .u8 2,.string anm,.int .u8 (aop:Int),.bool ain,.int .i64 ae,.int .i64 acd]))
 clear HTc HBc
 have CI:=hidI (fun (k:Nat) (u:World) (hu:TyS c i p u)=>zdH hwf hd ae hw.1 3 k u hu)
 have CT:=hidI (fun (k:Nat) (u:World) (hu:TyS c i p u)=>ctakes_any aop k ho u hu)
 have CC:=hidI (fun (u:World) (hu:TyS c i p u)=>ccond_any hwf hd acd hw.2.1 u hu)
 clear hb h hw hwf hd ho
 cases hr0:declK p.ds anm 2 with
 | none=>
  rw [hr0] at CD
  have HR2:Hid (R=false):=hidI (by rw [HR.out];simp [actO,show declK p.prg.decls anm 2=_ from hr0])
  clear hr0 HR
  go_enter Tryz.func99,Tryz.ntmps99
  go_wp2_with (first|(go_at_call 96;refine Calls.mono (CD.out _ HS.out.t) ?_;rintro e w9 ⟨rfl,hb9⟩;clear CD;have HS:=hidI (HS.out.on hb9);obtain ⟨z0,z1,z2,z3,z4,z5⟩:=HS.out.a.z6;clear hb9))
  exact ⟨rfl,by rw [HR2.out];rfl,HS.out.b⟩
 | some k=>
  rw [hr0] at CD
  replace CI:=hidI (CI.out k)
  replace CT:=hidI (CT.out k)
  cases hr1:isO (kX p.prg 3 ae) k with
  | false=>
   rw [hr1] at CI
   have HR2:Hid (R=false):=hidI (by rw [HR.out];simp [actO,show declK p.prg.decls anm 2=_ from hr0,hr1])
   clear hr0 hr1 HR
   go_enter Tryz.func99,Tryz.ntmps99
   go_wp2_with (first|(go_at_call 96;refine Calls.mono (CD.out _ HS.out.t) ?_;rintro e w9 ⟨rfl,hb9⟩;clear CD;have HS:=hidI (HS.out.on hb9);obtain ⟨z0,z1,z2,z3,z4,z5⟩:=HS.out.a.z6;clear hb9)|(go_at_call 95;refine Calls.mono (CI.out _ HS.out.t) ?_;rintro e w9 ⟨rfl,hb9⟩;clear CI;have HS:=hidI (HS.out.on hb9);obtain ⟨z0,z1,z2,z3,z4,z5⟩:=HS.out.a.z6;clear hb9))
   exact ⟨rfl,by rw [HR2.out];rfl,HS.out.b⟩
  | true=>
   rw [hr1] at CI
   cases hr2:takesO aop k with
   | false=>
    rw [hr2] at CT
    have HR2:Hid (R=false):=hidI (by rw [HR.out];simp [actO,show declK p.prg.decls anm 2=_ from hr0,hr1,hr2])
    clear hr0 hr1 hr2 HR
    go_enter Tryz.func99,Tryz.ntmps99
    go_wp2_with (first|(go_at_call 96;refine Calls.mono (CD.out _ HS.out.t) ?_;rintro e w9 ⟨rfl,hb9⟩;clear CD;have HS:=hidI (HS.out.on hb9);obtain ⟨z0,z1,z2,z3,z4,z5⟩:=HS.out.a.z6;clear hb9)|(go_at_call 95;refine Calls.mono (CI.out _ HS.out.t) ?_;rintro e w9 ⟨rfl,hb9⟩;clear CI;have HS:=hidI (HS.out.on hb9);obtain ⟨z0,z1,z2,z3,z4,z5⟩:=HS.out.a.z6;clear hb9)|(go_at_call 97;refine Calls.mono (CT.out _ HS.out.t) ?_;rintro e w9 ⟨rfl,hb9⟩;clear CT;have HS:=hidI (HS.out.on hb9);obtain ⟨z0,z1,z2,z3,z4,z5⟩:=HS.out.a.z6;clear hb9))
    exact ⟨rfl,by rw [HR2.out];rfl,HS.out.b⟩
   | true=>
    rw [hr2] at CT
    cases hr3:condO p.prg acd with
    | false=>
     rw [hr3] at CC
     have HR2:Hid (R=false):=hidI (by rw [HR.out];simp [actO,show declK p.prg.decls anm 2=_ from hr0,hr1,hr2,hr3])
     clear hr0 hr1 hr2 hr3 HR
     go_enter Tryz.func99,Tryz.ntmps99
     go_wp2_with (first|(go_at_call 96;refine Calls.mono (CD.out _ HS.out.t) ?_;rintro e w9 ⟨rfl,hb9⟩;clear CD;have HS:=hidI (HS.out.on hb9);obtain ⟨z0,z1,z2,z3,z4,z5⟩:=HS.out.a.z6;clear hb9)|(go_at_call 95;refine Calls.mono (CI.out _ HS.out.t) ?_;rintro e w9 ⟨rfl,hb9⟩;clear CI;have HS:=hidI (HS.out.on hb9);obtain ⟨z0,z1,z2,z3,z4,z5⟩:=HS.out.a.z6;clear hb9)|(go_at_call 97;refine Calls.mono (CT.out _ HS.out.t) ?_;rintro e w9 ⟨rfl,hb9⟩;clear CT;have HS:=hidI (HS.out.on hb9);obtain ⟨z0,z1,z2,z3,z4,z5⟩:=HS.out.a.z6;clear hb9)|(go_at_call 98;refine Calls.mono (CC.out _ HS.out.t) ?_;rintro e w9 ⟨rfl,hb9⟩;clear CC;have HS:=hidI (HS.out.on hb9);obtain ⟨z0,z1,z2,z3,z4,z5⟩:=HS.out.a.z6;clear hb9))
     exact ⟨rfl,by rw [HR2.out];rfl,HS.out.b⟩
    | true=>
     rw [hr3] at CC
     have HR2:Hid (R=true):=hidI (by rw [HR.out];simp [actO,show declK p.prg.decls anm 2=_ from hr0,hr1,hr2,hr3])
     clear hr0 hr1 hr2 hr3 HR
     go_enter Tryz.func99,Tryz.ntmps99
     go_wp2_with (first|(go_at_call 96;refine Calls.mono (CD.out _ HS.out.t) ?_;rintro e w9 ⟨rfl,hb9⟩;clear CD;have HS:=hidI (HS.out.on hb9);obtain ⟨z0,z1,z2,z3,z4,z5⟩:=HS.out.a.z6;clear hb9)|(go_at_call 95;refine Calls.mono (CI.out _ HS.out.t) ?_;rintro e w9 ⟨rfl,hb9⟩;clear CI;have HS:=hidI (HS.out.on hb9);obtain ⟨z0,z1,z2,z3,z4,z5⟩:=HS.out.a.z6;clear hb9)|(go_at_call 97;refine Calls.mono (CT.out _ HS.out.t) ?_;rintro e w9 ⟨rfl,hb9⟩;clear CT;have HS:=hidI (HS.out.on hb9);obtain ⟨z0,z1,z2,z3,z4,z5⟩:=HS.out.a.z6;clear hb9)|(go_at_call 98;refine Calls.mono (CC.out _ HS.out.t) ?_;rintro e w9 ⟨rfl,hb9⟩;clear CC;have HS:=hidI (HS.out.on hb9);obtain ⟨z0,z1,z2,z3,z4,z5⟩:=HS.out.a.z6;clear hb9))
     go_end0
     exact ⟨by rw [HR2.out];rfl,HS.out.b⟩
set_option maxHeartbeats 2000000 in
theorem cact_3 {c:Nat} {i:Int} {p:PV} (hwf:WfX p.prg.exprs) (hd:p.ds.length≤24) {anm:ByteArray} {aop:Nat} {ain:Bool} {ae acd:Int} (hw:WfA p.prg ⟨3,anm,aop,ain,ae,acd⟩) (ho:aop≠18) (w:World) (h:TyS c i p w) :
  Calls Tryz.prog 99 #[.pointer (some ⟨c,0,none⟩),.agg #[.int .u8 3,.string anm,.int .u8 (aop:Int),.bool ain,.int .i64 ae,.int .i64 acd]] w fun e w'=>MPost i (actO p.prg ⟨3,anm,aop,ain,ae,acd⟩) e∧Below w.heap.size w w':=by
 obtain ⟨R,hR⟩:∃ R,actO p.prg ⟨3,anm,aop,ain,ae,acd⟩=R:=⟨_,rfl⟩
 rw [hR]
 have HR:=hidI hR.symm
 clear hR
 have CD:=hidI (fun (u:World) (hu:TyS c i p u)=>zcA hu hd anm 2)
 have hb:Below w.heap.size w (w.alloc (.cells #[.int .u8 3,.string anm,.int .u8 (aop:Int),.bool ain,.int .i64 ae,.int .i64 acd] 126)):=(Below.refl _ _).alloc (Nat.le_refl _) _
 have HBc:=hidI hb
 have HTc:=hidI (h.on hb)
 have HS:=hidI (Lv.mk HTc.out HBc.out (AtB.new w 126 #[.int .u8 3,.string anm,.int .u8 (aop:Int),.bool ain,.int .i64 ae,.int .i64 acd]))
 clear HTc HBc
 have CI:=hidI (fun (k:Nat) (u:World) (hu:TyS c i p u)=>zdH hwf hd ae hw.1 4 k u hu)
 have CT:=hidI (fun (k:Nat) (u:World) (hu:TyS c i p u)=>ctakes_any aop k ho u hu)
 have CC:=hidI (fun (u:World) (hu:TyS c i p u)=>ccond_any hwf hd acd hw.2.1 u hu)
 clear hb h hw hwf hd ho
 cases hr0:declK p.ds anm 2 with
 | none=>
  rw [hr0] at CD
  have HR2:Hid (R=false):=hidI (by rw [HR.out];simp [actO,show declK p.prg.decls anm 2=_ from hr0])
  clear hr0 HR
  go_enter Tryz.func99,Tryz.ntmps99
  go_wp2_with (first|(go_at_call 96;refine Calls.mono (CD.out _ HS.out.t) ?_;rintro e w9 ⟨rfl,hb9⟩;clear CD;have HS:=hidI (HS.out.on hb9);obtain ⟨z0,z1,z2,z3,z4,z5⟩:=HS.out.a.z6;clear hb9))
  exact ⟨rfl,by rw [HR2.out];rfl,HS.out.b⟩
 | some k=>
  rw [hr0] at CD
  replace CI:=hidI (CI.out k)
  replace CT:=hidI (CT.out k)
  cases hr1:isO (kX p.prg 4 ae) k with
  | false=>
   rw [hr1] at CI
   have HR2:Hid (R=false):=hidI (by rw [HR.out];simp [actO,show declK p.prg.decls anm 2=_ from hr0,hr1])
   clear hr0 hr1 HR
   go_enter Tryz.func99,Tryz.ntmps99
   go_wp2_with (first|(go_at_call 96;refine Calls.mono (CD.out _ HS.out.t) ?_;rintro e w9 ⟨rfl,hb9⟩;clear CD;have HS:=hidI (HS.out.on hb9);obtain ⟨z0,z1,z2,z3,z4,z5⟩:=HS.out.a.z6;clear hb9)|(go_at_call 95;refine Calls.mono (CI.out _ HS.out.t) ?_;rintro e w9 ⟨rfl,hb9⟩;clear CI;have HS:=hidI (HS.out.on hb9);obtain ⟨z0,z1,z2,z3,z4,z5⟩:=HS.out.a.z6;clear hb9))
   exact ⟨rfl,by rw [HR2.out];rfl,HS.out.b⟩
  | true=>
   rw [hr1] at CI
   cases hr2:takesO aop k with
   | false=>
    rw [hr2] at CT
    have HR2:Hid (R=false):=hidI (by rw [HR.out];simp [actO,show declK p.prg.decls anm 2=_ from hr0,hr1,hr2])
    clear hr0 hr1 hr2 HR
    go_enter Tryz.func99,Tryz.ntmps99
    go_wp2_with (first|(go_at_call 96;refine Calls.mono (CD.out _ HS.out.t) ?_;rintro e w9 ⟨rfl,hb9⟩;clear CD;have HS:=hidI (HS.out.on hb9);obtain ⟨z0,z1,z2,z3,z4,z5⟩:=HS.out.a.z6;clear hb9)|(go_at_call 95;refine Calls.mono (CI.out _ HS.out.t) ?_;rintro e w9 ⟨rfl,hb9⟩;clear CI;have HS:=hidI (HS.out.on hb9);obtain ⟨z0,z1,z2,z3,z4,z5⟩:=HS.out.a.z6;clear hb9)|(go_at_call 97;refine Calls.mono (CT.out _ HS.out.t) ?_;rintro e w9 ⟨rfl,hb9⟩;clear CT;have HS:=hidI (HS.out.on hb9);obtain ⟨z0,z1,z2,z3,z4,z5⟩:=HS.out.a.z6;clear hb9))
    exact ⟨rfl,by rw [HR2.out];rfl,HS.out.b⟩
   | true=>
    rw [hr2] at CT
    cases hr3:condO p.prg acd with
    | false=>
     rw [hr3] at CC
     have HR2:Hid (R=false):=hidI (by rw [HR.out];simp [actO,show declK p.prg.decls anm 2=_ from hr0,hr1,hr2,hr3])
     clear hr0 hr1 hr2 hr3 HR
     go_enter Tryz.func99,Tryz.ntmps99
     go_wp2_with (first|(go_at_call 96;refine Calls.mono (CD.out _ HS.out.t) ?_;rintro e w9 ⟨rfl,hb9⟩;clear CD;have HS:=hidI (HS.out.on hb9);obtain ⟨z0,z1,z2,z3,z4,z5⟩:=HS.out.a.z6;clear hb9)|(go_at_call 95;refine Calls.mono (CI.out _ HS.out.t) ?_;rintro e w9 ⟨rfl,hb9⟩;clear CI;have HS:=hidI (HS.out.on hb9);obtain ⟨z0,z1,z2,z3,z4,z5⟩:=HS.out.a.z6;clear hb9)|(go_at_call 97;refine Calls.mono (CT.out _ HS.out.t) ?_;rintro e w9 ⟨rfl,hb9⟩;clear CT;have HS:=hidI (HS.out.on hb9);obtain ⟨z0,z1,z2,z3,z4,z5⟩:=HS.out.a.z6;clear hb9)|(go_at_call 98;refine Calls.mono (CC.out _ HS.out.t) ?_;rintro e w9 ⟨rfl,hb9⟩;clear CC;have HS:=hidI (HS.out.on hb9);obtain ⟨z0,z1,z2,z3,z4,z5⟩:=HS.out.a.z6;clear hb9))
     exact ⟨rfl,by rw [HR2.out];rfl,HS.out.b⟩
    | true=>
     rw [hr3] at CC
     have HR2:Hid (R=true):=hidI (by rw [HR.out];simp [actO,show declK p.prg.decls anm 2=_ from hr0,hr1,hr2,hr3])
     clear hr0 hr1 hr2 hr3 HR
     go_enter Tryz.func99,Tryz.ntmps99
     go_wp2_with (first|(go_at_call 96;refine Calls.mono (CD.out _ HS.out.t) ?_;rintro e w9 ⟨rfl,hb9⟩;clear CD;have HS:=hidI (HS.out.on hb9);obtain ⟨z0,z1,z2,z3,z4,z5⟩:=HS.out.a.z6;clear hb9)|(go_at_call 95;refine Calls.mono (CI.out _ HS.out.t) ?_;rintro e w9 ⟨rfl,hb9⟩;clear CI;have HS:=hidI (HS.out.on hb9);obtain ⟨z0,z1,z2,z3,z4,z5⟩:=HS.out.a.z6;clear hb9)|(go_at_call 97;refine Calls.mono (CT.out _ HS.out.t) ?_;rintro e w9 ⟨rfl,hb9⟩;clear CT;have HS:=hidI (HS.out.on hb9);obtain ⟨z0,z1,z2,z3,z4,z5⟩:=HS.out.a.z6;clear hb9)|(go_at_call 98;refine Calls.mono (CC.out _ HS.out.t) ?_;rintro e w9 ⟨rfl,hb9⟩;clear CC;have HS:=hidI (HS.out.on hb9);obtain ⟨z0,z1,z2,z3,z4,z5⟩:=HS.out.a.z6;clear hb9))
     go_end0
     exact ⟨by rw [HR2.out];rfl,HS.out.b⟩
set_option maxHeartbeats 2000000 in
theorem cact_x {c:Nat} {i:Int} {p:PV} (hwf:WfX p.prg.exprs) (hd:p.ds.length≤24) {ak:Nat} (hak:ak≠1∧ak≠2∧ak≠3) {anm:ByteArray} {aop:Nat} {ain:Bool} {ae acd:Int} (hw:WfA p.prg ⟨ak,anm,aop,ain,ae,acd⟩) (w:World) (h:TyS c i p w) :
  Calls Tryz.prog 99 #[.pointer (some ⟨c,0,none⟩),.agg #[.int .u8 (ak:Int),.string anm,.int .u8 (aop:Int),.bool ain,.int .i64 ae,.int .i64 acd]] w fun e w'=>MPost i (actO p.prg ⟨ak,anm,aop,ain,ae,acd⟩) e∧Below w.heap.size w w':=by
 obtain ⟨R,hR⟩:∃ R,actO p.prg ⟨ak,anm,aop,ain,ae,acd⟩=R:=⟨_,rfl⟩
 rw [hR]
 have HR:=hidI hR.symm
 clear hR
 have CD:=hidI (fun (u:World) (hu:TyS c i p u)=>zcA hu hd anm 2)
 have hb:Below w.heap.size w (w.alloc (.cells #[.int .u8 (ak:Int),.string anm,.int .u8 (aop:Int),.bool ain,.int .i64 ae,.int .i64 acd] 126)):=(Below.refl _ _).alloc (Nat.le_refl _) _
 have HBc:=hidI hb
 have HTc:=hidI (h.on hb)
 have HS:=hidI (Lv.mk HTc.out HBc.out (AtB.new w 126 #[.int .u8 (ak:Int),.string anm,.int .u8 (aop:Int),.bool ain,.int .i64 ae,.int .i64 acd]))
 clear HTc HBc
 have d1:((ak:Int)==1)=false:=by rw [beq_eq_false_iff_ne];omega
 have d2:((ak:Int)==2)=false:=by rw [beq_eq_false_iff_ne];omega
 have d3:((ak:Int)==3)=false:=by rw [beq_eq_false_iff_ne];omega
 have CC:=hidI (fun (u:World) (hu:TyS c i p u)=>ccond_any hwf hd acd hw.2.1 u hu)
 clear hb h hw hwf hd
 cases hr0:declK p.ds anm 2 with
 | none=>
  rw [hr0] at CD
  have HR2:Hid (R=false):=hidI (by rw [HR.out];simp [actO,show declK p.prg.decls anm 2=_ from hr0])
  clear hr0 HR hak
  go_enter Tryz.func99,Tryz.ntmps99
  go_wp2_with (first|(go_at_call 96;refine Calls.mono (CD.out _ HS.out.t) ?_;rintro e w9 ⟨rfl,hb9⟩;clear CD;have HS:=hidI (HS.out.on hb9);obtain ⟨z0,z1,z2,z3,z4,z5⟩:=HS.out.a.z6;clear hb9))
  exact ⟨rfl,by rw [HR2.out];rfl,HS.out.b⟩
 | some k=>
  rw [hr0] at CD
  cases hr1:condO p.prg acd with
  | false=>
   rw [hr1] at CC
   have HR2:Hid (R=false):=hidI (by rw [HR.out];simp [actO,show declK p.prg.decls anm 2=_ from hr0,hr1,hak])
   clear hr0 hr1 HR hak
   go_enter Tryz.func99,Tryz.ntmps99
   go_wp2_with (first|(go_at_call 96;refine Calls.mono (CD.out _ HS.out.t) ?_;rintro e w9 ⟨rfl,hb9⟩;clear CD;have HS:=hidI (HS.out.on hb9);obtain ⟨z0,z1,z2,z3,z4,z5⟩:=HS.out.a.z6;clear hb9)|(go_at_call 98;refine Calls.mono (CC.out _ HS.out.t) ?_;rintro e w9 ⟨rfl,hb9⟩;clear CC;have HS:=hidI (HS.out.on hb9);obtain ⟨z0,z1,z2,z3,z4,z5⟩:=HS.out.a.z6;clear hb9))
   exact ⟨rfl,by rw [HR2.out];rfl,HS.out.b⟩
  | true=>
   rw [hr1] at CC
   have HR2:Hid (R=true):=hidI (by rw [HR.out];simp [actO,show declK p.prg.decls anm 2=_ from hr0,hr1,hak])
   clear hr0 hr1 HR hak
   go_enter Tryz.func99,Tryz.ntmps99
   go_wp2_with (first|(go_at_call 96;refine Calls.mono (CD.out _ HS.out.t) ?_;rintro e w9 ⟨rfl,hb9⟩;clear CD;have HS:=hidI (HS.out.on hb9);obtain ⟨z0,z1,z2,z3,z4,z5⟩:=HS.out.a.z6;clear hb9)|(go_at_call 98;refine Calls.mono (CC.out _ HS.out.t) ?_;rintro e w9 ⟨rfl,hb9⟩;clear CC;have HS:=hidI (HS.out.on hb9);obtain ⟨z0,z1,z2,z3,z4,z5⟩:=HS.out.a.z6;clear hb9))
   go_end0
   exact ⟨by rw [HR2.out];rfl,HS.out.b⟩
end Go.Proofs.YtmekkhfohmfjkaaGreatDoor
