/-
  Part 34 of the proof: TyE, TyF, TyG, TyH.
-/
import Derived.Test.YtfljimpgnlfipaaGreatDoorTE33
import Derived.Test.YtfljimpgnlfipaaGreatDoorTE06
import Derived.Test.YtfljimpgnlfipaaGreatDoorTE31
import Derived.Test.YtfljimpgnlfipaaGreatDoorTE20
namespace Go.Proofs.YtfljimpgnlfipaaGreatDoor
open Go.RowKit Go.Deep Go.MapKept
def KCt (c:Nat) (i:Int) (p:PV) (wh f:Nat):Prop:=∀ (a:Int) (w:World),TyS c i p w→0≤a→a<(f:Int)→a<(p.xs.length:Int)→Calls Tryz.prog 34 #[.pointer (some ⟨c,0,none⟩),.int .i64 a,.int .u8 (wh:Int)] w fun e w'=>ROpt i (kindX p.prg.decls p.prg.exprs wh f a) e∧Below w.heap.size w w'
theorem kindOf_all {c:Nat} {i:Int} {p:PV} (hwf:WfX p.prg.exprs) (hd:p.ds.length≤24) (wh:Nat):∀ f,KCt c i p wh f
 | 0=>fun a w _ h0 hf _=>by omega
 | f+1=>fun a w h h0 hf hl=>by
  obtain ⟨j,rfl⟩:=Int.eq_ofNat_of_zero_le h0;have hj:j<p.xs.length:=by omega
  obtain ⟨⟨⟨ek,eof,eop,enm,enum,ekids⟩,ev⟩,hx⟩:∃ x,p.xs[j]?=some x:=⟨_,List.getElem?_eq_getElem hj⟩;obtain ⟨_,ka,kc,hev,_⟩:=id (h.s.xk _ (List.mem_of_getElem? hx));simp only at hev;subst hev;have hxp:p.prg.exprs[j]?=some ⟨ek,eof,eop,enm,enum,ekids⟩:=by
   show (p.xs.map Prod.fst)[j]?=_;rw [List.getElem?_map,hx];rfl
  have hR:kindX p.prg.decls p.prg.exprs wh (f+1) (j:Int)=kindE p.ds (kindX p.prg.decls p.prg.exprs wh f) wh ⟨ek,eof,eop,enm,enum,ekids⟩:=by
   simp only [kindX,Int.toNat_natCast,List.getD_eq_getElem?_getD,hxp,Option.getD_some];rfl
  have hw:=fun e10=>hwf j _ hxp e10
  simp only at hw;have IH:∀ (b:Int) (u:World),TyS c i p u→0≤b→b<(j:Int)→Calls Tryz.prog 34 #[.pointer (some ⟨c,0,none⟩),.int .i64 b,.int .u8 (wh:Int)] u fun e w'=>ROpt i (kindX p.prg.decls p.prg.exprs wh f b) e∧Below u.heap.size u w':=fun b u hu b0 b1=>kindOf_all hwf hd wh f b u hu b0 (by omega) (by omega)
  have hm:ek=1∨ek=2∨ek=3∨ek=4∨ek=5∨ek=10∨(ek≠1∧ek≠2∧ek≠3∧ek≠4∧ek≠5∧ek≠10):=by omega
  rcases hm with rfl|rfl|rfl|rfl|rfl|rfl|hek
  ·exact kind_1 h hx hR.symm
  ·exact kind_2 h hd hx hR.symm
  ·exact kind_3 h hd hx hR.symm
  ·exact kind_4 h hd hx hR.symm
  ·exact kind_5 h hd hx hR.symm
  ·obtain ⟨q1,q2,q3,q4⟩:=hw rfl;exact kind_10 h hx IH q1 q2 q3 q4 hR.symm
  ·exact kind_x hek h hx hR.symm
def AtB (w:World) (b:Nat) (cs:List Value):Prop:=∀ (j:Nat) (v:Value),cs[j]?=some v→w.cell? ⟨b,j,none⟩=some v
theorem AtB.on {w w':World} {b:Nat} {cs:List Value} (h:AtB w b cs) (hb:Below w.heap.size w w'):AtB w' b cs:=fun j v hj=>zaJ hb (h j v hj)
theorem AtB.new (w:World) (ty:TypeId) (cs:Array Value):AtB (w.alloc (.cells cs ty)) w.heap.size cs.toList:=fun j v hj=>by
 rw [cell_of_row _ w.heap.size j cs ty (0,0) (heap_alloc_last w _)];simpa using hj
structure Lv (c:Nat) (i:Int) (p:PV) (w0:World) (bk:Nat) (cs:List Value) (w:World):Prop where
 t:TyS c i p w
 b:Below w0.heap.size w0 w
 a:AtB w bk cs
theorem Lv.on {c:Nat} {i:Int} {p:PV} {w0 w w':World} {b:Nat} {cs:List Value} (h:Lv c i p w0 b cs w) (hb:Below w.heap.size w w'):Lv c i p w0 b cs w':=⟨h.t.on hb,h.b.trans (hb.mono h.b.size),h.a.on hb⟩
theorem AtB.z6 {w:World} {b:Nat} {c0 c1 c2 c3 c4 c5:Value} (h:AtB w b [c0,c1,c2,c3,c4,c5]):w.cell? ⟨b,0,none⟩=some c0∧w.cell? ⟨b,1,none⟩=some c1∧w.cell? ⟨b,2,none⟩=some c2∧w.cell? ⟨b,3,none⟩=some c3∧w.cell? ⟨b,4,none⟩=some c4∧w.cell? ⟨b,5,none⟩=some c5:=⟨h 0 _ rfl,h 1 _ rfl,h 2 _ rfl,h 3 _ rfl,h 4 _ rfl,h 5 _ rfl⟩
set_option maxHeartbeats 1000000 in
theorem cis_any {c:Nat} {i:Int} {p:PV} (hwf:WfX p.prg.exprs) (hd:p.ds.length≤24) (a:Int) (ha:InX p.prg a) (wh k:Nat) (w:World) (h:TyS c i p w) :
  Calls Tryz.prog 108 #[.pointer (some ⟨c,0,none⟩),.int .i64 a,.int .u8 (wh:Int),.int .u8 (k:Int)] w fun e w'=>MPost i (isO (kX p.prg wh a) k) e∧Below w.heap.size w w':=by
 have CK:=kindOf_all hwf hd (c:=c) (i:=i) wh p.prg.exprs.length a w h ha.1 ha.2 (by have:=ha.2;simpa [PV.prg] using this);change Calls _ _ _ _ fun e w'=>ROpt i (kX p.prg wh a) e∧_ at CK
 have HTc:=hidI h;have HBc:=hidI (Below.refl w.heap.size w);have CK2:Hid (∀ u,TyS c i p u→u=w→Calls Tryz.prog 34 #[.pointer (some ⟨c,0,none⟩),.int .i64 a,.int .u8 (wh:Int)] w fun e w'=>ROpt i (kX p.prg wh a) e∧Below w.heap.size w w'):=hidI (fun _ _ _=>CK);clear h ha CK hwf hd;cases hr:kX p.prg wh a with
 | none=>
  rw [hr] at CK2;clear hr;go_enter Tryz.func108,Tryz.ntmps108
  go_wp2_with (go_at_call 34;refine Calls.mono (CK2.out _ HTc.out rfl) ?_;intro e w9 h9;obtain ⟨h9,hb9⟩:=h9;have h9:e=_:=h9;subst h9)
  exact ⟨rfl,rfl,hb9⟩
 | some q=>
  rw [hr] at CK2;clear hr;by_cases hq:q=k
  ·have e1:((q:Int)==(k:Int))=true:=by rw [natU];simpa using hq
   rw [show isO (some q) k=true by simp [isO,hq]];clear hq;go_enter Tryz.func108,Tryz.ntmps108
   go_wp2_with (first|(go_at_call 34;refine Calls.mono (CK2.out _ HTc.out rfl) ?_;intro e w9 h9;obtain ⟨h9,hb9⟩:=h9;have h9:e=_:=h9;subst h9;clear CK2;have HBc:=hidI hb9;clear hb9)|(go_at_call 71;refine Calls.mono (zcS _ _) ?_;intro e w9 h9;obtain ⟨rfl,rfl⟩:=h9))
   go_end0;exact ⟨rfl,HBc.out⟩
  ·have e1:((q:Int)==(k:Int))=false:=by rw [natU];simpa using hq
   rw [show isO (some q) k=false by simp [isO,hq]];clear hq;go_enter Tryz.func108,Tryz.ntmps108
   go_wp2_with (first|(go_at_call 34;refine Calls.mono (CK2.out _ HTc.out rfl) ?_;intro e w9 h9;obtain ⟨h9,hb9⟩:=h9;have h9:e=_:=h9;subst h9;clear CK2;have HBc:=hidI hb9;have HTc:=hidI (HTc.out.on hb9);clear hb9)|(go_at_call 71;refine Calls.mono (zbV HTc.out.c4) ?_;intro e w9 h9;obtain ⟨rfl,rfl⟩:=h9))
   exact ⟨rfl,rfl,HBc.out⟩
theorem ccond_any {c:Nat} {i:Int} {p:PV} (hwf:WfX p.prg.exprs) (hd:p.ds.length≤24) (a:Int) (ha:a = -1∨InX p.prg a) (w:World) (h:TyS c i p w) :
  Calls Tryz.prog 110 #[.pointer (some ⟨c,0,none⟩),.int .i64 a] w fun e w'=>MPost i (condO p.prg a) e∧Below w.heap.size w w':=by
 by_cases h1:a = -1
 ·subst h1;clear ha;go_enter Tryz.func110,Tryz.ntmps110;go_wp2;go_end0;exact ⟨rfl,Below.refl _ _⟩
 ·have CI:=hidI (fun (u:World) (hu:TyS c i p u)=>cis_any hwf hd a (ha.resolve_left h1) 2 2 u hu);have e1:(a == -1)=false:=by rw [beq_eq_false_iff_ne];exact h1
  have e2:(a != -1)=true:=by rw [bne,e1];rfl
  have HTc:=hidI h;have HBc:=hidI (Below.refl w.heap.size w);rw [show condO p.prg a=isO (kX p.prg 2 a) 2 by simp [condO,h1]];clear h ha h1 hwf hd;cases hr:isO (kX p.prg 2 a) 2 with
  | false=>
   rw [hr] at CI;clear hr;go_enter Tryz.func110,Tryz.ntmps110
   go_wp2_with (go_at_call 108;refine Calls.mono (CI.out _ HTc.out) ?_;intro e w9 h9;obtain ⟨h9,hb9⟩:=h9;have h9:e=_:=h9;subst h9;clear CI;have HBc:=hidI (HBc.out.trans (hb9.mono HBc.out.size));have HTc:=hidI (HTc.out.on hb9);clear hb9)
   exact ⟨rfl,rfl,HBc.out⟩
  | true=>
   rw [hr] at CI;clear hr;go_enter Tryz.func110,Tryz.ntmps110
   go_wp2_with (go_at_call 108;refine Calls.mono (CI.out _ HTc.out) ?_;intro e w9 h9;obtain ⟨h9,hb9⟩:=h9;have h9:e=_:=h9;subst h9;clear CI;have HBc:=hidI (HBc.out.trans (hb9.mono HBc.out.size));have HTc:=hidI (HTc.out.on hb9);clear hb9)
   go_end0;exact ⟨rfl,HBc.out⟩
set_option maxHeartbeats 2000000 in
theorem cact_1 {c:Nat} {i:Int} {p:PV} (hwf:WfX p.prg.exprs) (hd:p.ds.length≤24) {anm:ByteArray} {aop:Nat} {ain:Bool} {ae acd:Int} (hw:WfA p.prg ⟨1,anm,aop,ain,ae,acd⟩) (w:World) (h:TyS c i p w) :
  Calls Tryz.prog 111 #[.pointer (some ⟨c,0,none⟩),.agg #[.int .u8 1,.string anm,.int .u8 (aop:Int),.bool ain,.int .i64 ae,.int .i64 acd]] w fun e w'=>MPost i (actO p.prg ⟨1,anm,aop,ain,ae,acd⟩) e∧Below w.heap.size w w':=by
 obtain ⟨R,hR⟩:∃ R,actO p.prg ⟨1,anm,aop,ain,ae,acd⟩=R:=⟨_,rfl⟩;rw [hR];have HR:=hidI hR.symm;clear hR;have CD:=hidI (fun (u:World) (hu:TyS c i p u)=>zeV hu hd anm 2);have hb:Below w.heap.size w (w.alloc (.cells #[.int .u8 1,.string anm,.int .u8 (aop:Int),.bool ain,.int .i64 ae,.int .i64 acd] 75)):=(Below.refl _ _).alloc (Nat.le_refl _) _;have HBc:=hidI hb;have HTc:=hidI (h.on hb);have HS:=hidI (Lv.mk HTc.out HBc.out (AtB.new w 75 #[.int .u8 1,.string anm,.int .u8 (aop:Int),.bool ain,.int .i64 ae,.int .i64 acd]));clear HTc HBc;have CI:=hidI (fun (k:Nat) (u:World) (hu:TyS c i p u)=>cis_any hwf hd ae hw.1 2 k u hu);have CC:=hidI (fun (u:World) (hu:TyS c i p u)=>ccond_any hwf hd acd hw.2.1 u hu);clear hb h hw hwf hd;cases hr0:declK p.ds anm 2 with
 | none=>
  rw [hr0] at CD;have HR2:Hid (R=false):=hidI (by rw [HR.out];simp [actO,show declK p.prg.decls anm 2=_ from hr0]);clear hr0 HR;go_enter Tryz.func111,Tryz.ntmps111
  go_wp2_with (first|(go_at_call 73;refine Calls.mono (CD.out _ HS.out.t) ?_;rintro e w9 ⟨rfl,hb9⟩;clear CD;have HS:=hidI (HS.out.on hb9);obtain ⟨z0,z1,z2,z3,z4,z5⟩:=HS.out.a.z6;clear hb9))
  exact ⟨rfl,by rw [HR2.out];rfl,HS.out.b⟩
 | some k=>
  rw [hr0] at CD;replace CI:=hidI (CI.out k);cases hr1:isO (kX p.prg 2 ae) k with
  | false=>
   rw [hr1] at CI;have HR2:Hid (R=false):=hidI (by rw [HR.out];simp [actO,show declK p.prg.decls anm 2=_ from hr0,hr1]);clear hr0 hr1 HR;go_enter Tryz.func111,Tryz.ntmps111
   go_wp2_with (first|(go_at_call 73;refine Calls.mono (CD.out _ HS.out.t) ?_;rintro e w9 ⟨rfl,hb9⟩;clear CD;have HS:=hidI (HS.out.on hb9);obtain ⟨z0,z1,z2,z3,z4,z5⟩:=HS.out.a.z6;clear hb9)|(go_at_call 108;refine Calls.mono (CI.out _ HS.out.t) ?_;rintro e w9 ⟨rfl,hb9⟩;clear CI;have HS:=hidI (HS.out.on hb9);obtain ⟨z0,z1,z2,z3,z4,z5⟩:=HS.out.a.z6;clear hb9))
   exact ⟨rfl,by rw [HR2.out];rfl,HS.out.b⟩
  | true=>
   rw [hr1] at CI;cases hr2:condO p.prg acd with
   | false=>
    rw [hr2] at CC;have HR2:Hid (R=false):=hidI (by rw [HR.out];simp [actO,show declK p.prg.decls anm 2=_ from hr0,hr1,hr2]);clear hr0 hr1 hr2 HR;go_enter Tryz.func111,Tryz.ntmps111
    go_wp2_with (first|(go_at_call 73;refine Calls.mono (CD.out _ HS.out.t) ?_;rintro e w9 ⟨rfl,hb9⟩;clear CD;have HS:=hidI (HS.out.on hb9);obtain ⟨z0,z1,z2,z3,z4,z5⟩:=HS.out.a.z6;clear hb9)|(go_at_call 108;refine Calls.mono (CI.out _ HS.out.t) ?_;rintro e w9 ⟨rfl,hb9⟩;clear CI;have HS:=hidI (HS.out.on hb9);obtain ⟨z0,z1,z2,z3,z4,z5⟩:=HS.out.a.z6;clear hb9)|(go_at_call 110;refine Calls.mono (CC.out _ HS.out.t) ?_;rintro e w9 ⟨rfl,hb9⟩;clear CC;have HS:=hidI (HS.out.on hb9);obtain ⟨z0,z1,z2,z3,z4,z5⟩:=HS.out.a.z6;clear hb9))
    exact ⟨rfl,by rw [HR2.out];rfl,HS.out.b⟩
   | true=>
    rw [hr2] at CC;have HR2:Hid (R=true):=hidI (by rw [HR.out];simp [actO,show declK p.prg.decls anm 2=_ from hr0,hr1,hr2]);clear hr0 hr1 hr2 HR;go_enter Tryz.func111,Tryz.ntmps111
    go_wp2_with (first|(go_at_call 73;refine Calls.mono (CD.out _ HS.out.t) ?_;rintro e w9 ⟨rfl,hb9⟩;clear CD;have HS:=hidI (HS.out.on hb9);obtain ⟨z0,z1,z2,z3,z4,z5⟩:=HS.out.a.z6;clear hb9)|(go_at_call 108;refine Calls.mono (CI.out _ HS.out.t) ?_;rintro e w9 ⟨rfl,hb9⟩;clear CI;have HS:=hidI (HS.out.on hb9);obtain ⟨z0,z1,z2,z3,z4,z5⟩:=HS.out.a.z6;clear hb9)|(go_at_call 110;refine Calls.mono (CC.out _ HS.out.t) ?_;rintro e w9 ⟨rfl,hb9⟩;clear CC;have HS:=hidI (HS.out.on hb9);obtain ⟨z0,z1,z2,z3,z4,z5⟩:=HS.out.a.z6;clear hb9))
    go_end0;exact ⟨by rw [HR2.out];rfl,HS.out.b⟩
def cs3N:Nat→Oper
 | 0=>⟨some 11,.move (.tmp 0),121, "checker.go:32",#[],none⟩
 | 1=>⟨some 12,.fieldAddr 49 (.tmp 3) 3,0, "checker.go:32",#[],none⟩
 | 2=>⟨some 13,.load 3 (.tmp 12),3, "checker.go:32",#[⟨1,.data⟩],none⟩
 | 3=>⟨some 14,.move (.tmp 0),121, "checker.go:32",#[],none⟩
 | 4=>⟨some 15,.fieldAddr 49 (.tmp 3) 1,0, "checker.go:32",#[],none⟩
 | 5=>⟨some 16,.load 9 (.tmp 15),9, "checker.go:32",#[⟨4,.data⟩],none⟩
 | 6=>⟨some 17,.call ⟨.value (.func 73),#[.tmp 14,.tmp 16,.const (.int .u8 1)],#[121,9,104]⟩,36, "checker.go:32",#[⟨3,.data⟩,⟨5,.data⟩],none⟩
 | _=>⟨some 18,.call ⟨.value (.func 108),#[.tmp 11,.tmp 13,.const (.int .u8 1),.tmp 17],#[121,3,35,36]⟩,0, "checker.go:32",#[⟨0,.data⟩,⟨2,.data⟩,⟨6,.data⟩,⟨6,.chain⟩],none⟩
set_option maxRecDepth 100000 in
set_option maxHeartbeats 2000000 in
theorem cst_1 {c:Nat} {i:Int} {p:PV} (hwf:WfX p.prg.exprs) (hd:p.ds.length≤24) {snm:ByteArray} {sop:Nat} {se scd:Int} {sacts:List Actn} {sthn sels:List Int} {sa ta ea:Option Addr} {sc tc ec:Nat} (hw:WfS p.prg ⟨1,snm,sop,se,scd,sacts,sthn,sels⟩) (w:World) (h:TyS c i p w) :
  Calls Tryz.prog 64 #[.pointer (some ⟨c,0,none⟩),.agg #[.int .u8 1,.string snm,.int .u8 (sop:Int),.int .i64 se,.int .i64 scd,.slice sa sacts.length sc,.slice ta sthn.length tc,.slice ea sels.length ec]] w fun e w'=>MPost i (stmtO p.prg ⟨1,snm,sop,se,scd,sacts,sthn,sels⟩) e∧Below w.heap.size w w':=by
 obtain ⟨R,hR⟩:∃ R,stmtO p.prg ⟨1,snm,sop,se,scd,sacts,sthn,sels⟩=R:=⟨_,rfl⟩;rw [hR];have HR:=hidI hR.symm;clear hR;have hb:Below w.heap.size w (w.alloc (.cells #[.int .u8 1,.string snm,.int .u8 (sop:Int),.int .i64 se,.int .i64 scd,.slice sa sacts.length sc,.slice ta sthn.length tc,.slice ea sels.length ec] 49)):=(Below.refl _ _).alloc (Nat.le_refl _) _;have HBc:=hidI hb;have HTc:=hidI (h.on hb);have HAt:=hidI (AtB.new w 49 #[.int .u8 1,.string snm,.int .u8 (sop:Int),.int .i64 se,.int .i64 scd,.slice sa sacts.length sc,.slice ta sthn.length tc,.slice ea sels.length ec]);have CD:=hidI (fun (u:World) (hu:TyS c i p u)=>zeV hu hd snm 1);have CI:=hidI (fun (k:Nat) (u:World) (hu:TyS c i p u)=>cis_any hwf hd se (hw.1 (by simp)) 1 k u hu);clear hb h hw hwf hd;obtain ⟨W,hW⟩:∃ W,(w.alloc (.cells #[.int .u8 1,.string snm,.int .u8 (sop:Int),.int .i64 se,.int .i64 scd,.slice sa sacts.length sc,.slice ta sthn.length tc,.slice ea sels.length ec] 49))=W:=⟨_,rfl⟩;rw [hW] at HBc HTc HAt;have HW:=hidI hW;clear hW;cases hr0:declK p.ds snm 1 with
 | none=>
  rw [hr0] at CD;have HR2:Hid (R=false):=hidI (by rw [HR.out];simp [stmtO,show declK p.prg.decls snm 1=_ from hr0]);clear hr0 HR;have hz0:=HAt.out 0 _ rfl;go_enter Tryz.func64,Tryz.ntmps64;go_wp2;rw [HW.out];refine zdC cs3N (fun j0=>match j0 with|0=>.pointer (some ⟨c,0,none⟩)|1=>.pointer (some ⟨w.heap.size,3,none⟩)|2=>.int .i64 se|3=>.pointer (some ⟨c,0,none⟩)|4=>.pointer (some ⟨w.heap.size,1,none⟩)|5=>.string snm|6=>undef|_=>undef) (fun l9 y=>Below W.heap.size W y∧l9[6]?≠some true) 7 Tryz.mixed (by kernel_rfl) (by kernel_rfl) ⟨(Below.refl _ _).drew,by rw [Array.getElem?_replicate];split<;>simp⟩ ?_ ?_
  ·intro i9 hi9 a9 w9 l9 hF9 hL9 hl9 hA9 hS9 K9 hK9;have hc9:i9=0∨i9=1∨i9=2∨i9=3∨i9=4∨i9=5∨i9=6:=by omega
   clear hi9;rcases hc9 with rfl|rfl|rfl|rfl|rfl|rfl|rfl
   ·have e0:=hF9.od 0 (v:=.pointer (some ⟨c,0,none⟩)) rfl;refine zaU rfl ?_ (hK9 _ ⟨hS9.1,by rw [zbM (by decide)];exact hS9.2⟩);clear hF9 hA9;simp only [cs3N,execOp,e0];first|done|(go_simp<;>omega)
   ·have e3:=hF9.od 3 (v:=.pointer (some ⟨w.heap.size,0,none⟩)) rfl;refine zaU rfl ?_ (hK9 _ ⟨hS9.1,by rw [zbM (by decide)];exact hS9.2⟩);clear hF9 hA9;simp only [cs3N,execOp,e3];first|done|(go_simp<;>omega)
   ·have e12:=hF9.ev 1 12;have q0:=HAt.out.on (hS9.1.mono (Nat.le_refl _)) 3 _ rfl;refine zaU rfl ?_ (hK9 _ ⟨hS9.1,by rw [zbM (by decide)];exact hS9.2⟩);clear hF9 hA9;simp only [cs3N,execOp,e12];first|done|(go_simp<;>omega)
   ·have e0:=hF9.od 0 (v:=.pointer (some ⟨c,0,none⟩)) rfl;refine zaU rfl ?_ (hK9 _ ⟨hS9.1,by rw [zbM (by decide)];exact hS9.2⟩);clear hF9 hA9;simp only [cs3N,execOp,e0];first|done|(go_simp<;>omega)
   ·have e3:=hF9.od 3 (v:=.pointer (some ⟨w.heap.size,0,none⟩)) rfl;refine zaU rfl ?_ (hK9 _ ⟨hS9.1,by rw [zbM (by decide)];exact hS9.2⟩);clear hF9 hA9;simp only [cs3N,execOp,e3];first|done|(go_simp<;>omega)
   ·have e15:=hF9.ev 4 15;have q0:=HAt.out.on (hS9.1.mono (Nat.le_refl _)) 1 _ rfl;refine zaU rfl ?_ (hK9 _ ⟨hS9.1,by rw [zbM (by decide)];exact hS9.2⟩);clear hF9 hA9;simp only [cs3N,execOp,e15];first|done|(go_simp<;>omega)
   ·rw [if_pos (zaG rfl)];unfold Oper.wp;have f14:=hF9.nw 3 14;have f16:=hF9.nw 5 16;have hr9:(execOp a9.eval (cs3N 6)).run Tryz.prog w9=.ok (.enter 73 #[.pointer (some ⟨c,0,none⟩),.string snm,.int .u8 1]) w9:=by
     simp only [cs3N,execOp];go_simp
    rw [hr9,Oper.upon_enter];refine Calls.mono (CD.out _ (HTc.out.on hS9.1)) ?_;intro e w8 h9;obtain ⟨h9,hb9⟩:=h9;have h9:e=_:=h9;subst h9;exact ⟨hF9.df,by rw [HR2.out];rfl,HBc.out.trans ((hS9.1.trans (hb9.mono hS9.1.size)).mono HBc.out.size)⟩
  ·intro w9 l9 hall9 hS9 K9 hK9;exact absurd (hall9 6 (by decide)) hS9.2
 | some k=>
  rw [hr0] at CD;have HR:Hid (R=isO (kX p.prg 1 se) k):=hidI (by rw [HR.out];simp [stmtO,show declK p.prg.decls snm 1=_ from hr0]);clear hr0;go_enter Tryz.func64,Tryz.ntmps64;go_wp2;rw [HW.out];refine zaQ cs3N (fun i=>match i with|0=>.pointer (some ⟨c,0,none⟩)|1=>.pointer (some ⟨w.heap.size,3,none⟩)|2=>.int .i64 se|3=>.pointer (some ⟨c,0,none⟩)|4=>.pointer (some ⟨w.heap.size,1,none⟩)|5=>.string snm|6=>.int .u8 (k:Int)|_=>undef) (fun y=>Below W.heap.size W y) 7 Tryz.mixed (by kernel_rfl) (by kernel_rfl) (Below.refl _ _).drew ?_ ?_
  ·intro i9 hi9 a9 w9 hF9 hS9 K9 hK9;have hc9:i9=0∨i9=1∨i9=2∨i9=3∨i9=4∨i9=5∨i9=6:=by omega
   clear hi9;rcases hc9 with rfl|rfl|rfl|rfl|rfl|rfl|rfl
   ·have e0:=hF9.od 0 (v:=.pointer (some ⟨c,0,none⟩)) rfl;refine zaU rfl ?_ (hK9 _ hS9);clear hF9;simp only [cs3N,execOp,e0];first|done|(go_simp<;>omega)
   ·have e3:=hF9.od 3 (v:=.pointer (some ⟨w.heap.size,0,none⟩)) rfl;refine zaU rfl ?_ (hK9 _ hS9);clear hF9;simp only [cs3N,execOp,e3];first|done|(go_simp<;>omega)
   ·have e12:=hF9.ev 1 12;have q0:=HAt.out.on (hS9.mono (Nat.le_refl _)) 3 _ rfl;refine zaU rfl ?_ (hK9 _ hS9);clear hF9;simp only [cs3N,execOp,e12];first|done|(go_simp<;>omega)
   ·have e0:=hF9.od 0 (v:=.pointer (some ⟨c,0,none⟩)) rfl;refine zaU rfl ?_ (hK9 _ hS9);clear hF9;simp only [cs3N,execOp,e0];first|done|(go_simp<;>omega)
   ·have e3:=hF9.od 3 (v:=.pointer (some ⟨w.heap.size,0,none⟩)) rfl;refine zaU rfl ?_ (hK9 _ hS9);clear hF9;simp only [cs3N,execOp,e3];first|done|(go_simp<;>omega)
   ·have e15:=hF9.ev 4 15;have q0:=HAt.out.on (hS9.mono (Nat.le_refl _)) 1 _ rfl;refine zaU rfl ?_ (hK9 _ hS9);clear hF9;simp only [cs3N,execOp,e15];first|done|(go_simp<;>omega)
   ·rw [if_pos (zaG rfl)];unfold Oper.wp;have f14:=hF9.nw 3 14;have f16:=hF9.nw 5 16;have hr9:(execOp a9.eval (cs3N 6)).run Tryz.prog w9=.ok (.enter 73 #[.pointer (some ⟨c,0,none⟩),.string snm,.int .u8 1]) w9:=by
     simp only [cs3N,execOp];go_simp
    rw [hr9,Oper.upon_enter];refine Calls.mono (CD.out _ (HTc.out.on hS9)) ?_;intro e w8 h9;obtain ⟨h9,hb9⟩:=h9;have h9:e=_:=h9;subst h9;exact hK9 _ (hS9.trans (hb9.mono hS9.size))
  ·intro w9 hS9 K9 hK9;simp only [putA,cs3N];rw [if_pos (zaG rfl)];unfold Oper.wp;go_simp;cases hr1:isO (kX p.prg 1 se) k with
   | false=>
    have HR2:Hid (R=false):=hidI (by rw [HR.out,hr1]);have CX:=CI.out k w9 (HTc.out.on hS9);rw [hr1] at CX;refine Calls.mono CX ?_;rintro e w8 ⟨h9,hb9⟩;have h9:e=_:=h9;subst h9;exact ⟨rfl,by rw [HR2.out];rfl,HBc.out.trans ((hS9.trans (hb9.mono hS9.size)).mono HBc.out.size)⟩
   | true=>
    have HR2:Hid (R=true):=hidI (by rw [HR.out,hr1]);have CX:=CI.out k w9 (HTc.out.on hS9);rw [hr1] at CX;refine Calls.mono CX ?_;rintro e w8 ⟨h9,hb9⟩;have h9:e=_:=h9;subst h9;refine hK9 _ _ ?_;have HBc:=hidI (HBc.out.trans ((hS9.trans (hb9.mono hS9.size)).mono HBc.out.size));clear hK9 K9 hS9 hb9 hr1 CX;go_wp2;go_end0;exact ⟨by rw [HR2.out];rfl,HBc.out⟩
set_option maxRecDepth 100000 in
set_option maxHeartbeats 2000000 in
theorem cst_3_of {c:Nat} {i:Int} {p:PV} {snm:ByteArray} {sop:Nat} {se scd:Int} {sacts:List Actn} {sthn sels:List Int} {sa ta ea:Option Addr} {sc tc ec:Nat} (CAH:∀ a∈sacts,∀ u:World,TyS c i p u→Calls Tryz.prog 111 #[.pointer (some ⟨c,0,none⟩),.agg #[.int .u8 (a.k:Int),.string a.name,.int .u8 (a.op:Int),.bool a.inn,.int .i64 a.e,.int .i64 a.cond]] u fun e w'=>MPost i (actO p.prg a) e∧Below u.heap.size u w') (w:World) (h:TyS c i p w) (hv:SeesC w (.slice sa sacts.length sc) sacts.length 6 (flatAc sacts)) (hl:sacts.length≤1099511627776) :
  Calls Tryz.prog 64 #[.pointer (some ⟨c,0,none⟩),.agg #[.int .u8 3,.string snm,.int .u8 (sop:Int),.int .i64 se,.int .i64 scd,.slice sa sacts.length sc,.slice ta sthn.length tc,.slice ea sels.length ec]] w fun e w'=>MPost i (stmtO p.prg ⟨3,snm,sop,se,scd,sacts,sthn,sels⟩) e∧Below w.heap.size w w':=by
 obtain ⟨R,hR⟩:∃ R,stmtO p.prg ⟨3,snm,sop,se,scd,sacts,sthn,sels⟩=R:=⟨_,rfl⟩;rw [hR];have HR:=hidI hR.symm;clear hR;have hb:Below w.heap.size w (w.alloc (.cells #[.int .u8 3,.string snm,.int .u8 (sop:Int),.int .i64 se,.int .i64 scd,.slice sa sacts.length sc,.slice ta sthn.length tc,.slice ea sels.length ec] 49)):=(Below.refl _ _).alloc (Nat.le_refl _) _;have HBc:=hidI hb;have HTc:=hidI (h.on hb);have HAt:=hidI (AtB.new w 49 #[.int .u8 3,.string snm,.int .u8 (sop:Int),.int .i64 se,.int .i64 scd,.slice sa sacts.length sc,.slice ta sthn.length tc,.slice ea sels.length ec]);have CA:=hidI (fun (a:Actn) (ha:a∈sacts) (u:World) (hu:TyS c i p u)=>CAH a ha u hu);have HR1:Hid (sacts.all (actO p.prg)=R):=hidI (by rw [HR.out];simp [stmtO]);obtain ⟨W,hW⟩:∃ W,(w.alloc (.cells #[.int .u8 3,.string snm,.int .u8 (sop:Int),.int .i64 se,.int .i64 scd,.slice sa sacts.length sc,.slice ta sthn.length tc,.slice ea sels.length ec] 49))=W:=⟨_,rfl⟩;have HSV:=hidI (hv.below hb (Nat.le_refl _));rw [hW] at HBc HTc HAt HSV;obtain ⟨n,hn⟩:∃ n,sacts.length=n:=⟨_,rfl⟩;rw [hn] at hW HAt HSV hl ⊢;have HN:=hidI hn;have HW:=hidI hW;have z0:=HAt.out 0 _ rfl;have z5:=HAt.out 5 _ rfl;clear hW hb h CAH HR hv hn;go_enter Tryz.func64,Tryz.ntmps64;go_wp2;rw [HW.out]
 go_loopg [44] n (fun g s44 wx=>∃ j:Nat,j+g=n∧s44=.int .i64 (j:Int)∧Hid ((sacts.drop j).all (actO p.prg)=R)∧Hid (Below W.heap.size W wx))
 case atStart=>exact ⟨0,by omega,rfl,hidI (by simpa using HR1.out),hidI (Below.refl _ _)⟩
 case round=>
  obtain ⟨j,hj,rfl,HX,HY⟩:=hrel;cases gk with
  | zero=>
   obtain rfl:n=j:=by omega
   have k1:decide ((n:Int)<(n:Int))=false:=by simp
   have hX:=HX.out;rw [List.drop_eq_nil_of_le (by have:=HN.out;omega)] at hX;have hRt:R=true:=hX.symm;subst hRt;clear hX HX HR1;go_wp2;go_end0;exact ⟨rfl,HBc.out.trans (HY.out.mono HBc.out.size)⟩
  | succ g=>
   have k1:(j:Int)<(n:Int):=by omega
   obtain ⟨x,hx⟩:∃ x,sacts[j]?=some x:=⟨_,List.getElem?_eq_getElem (by have:=HN.out;omega)⟩;obtain ⟨_,a2,c2,hv2,hc2⟩:=id HSV.out;obtain ⟨rfl,rfl⟩:a2=sa∧c2=sc:=by cases hv2;exact ⟨rfl,rfl⟩
   obtain ⟨ab,ao,rfl,hcell⟩:∃ b off,a2=some ⟨b,off,none⟩∧∀ (q:Nat) (z:Value),(flatAc sacts)[q]?=some z→W.cell? ⟨b,off+q,none⟩=some z:=by
    rcases hc2 with h|h
    ·omega
    ·exact h
   have gx:∀ (q:Nat) (z:Value),q<6→(acells x)[q]?=some z→wr.cell? ⟨ab,ao+(j*6+q),none⟩=some z:=fun q z hq hz=>zaJ HY.out (hcell _ _ (by unfold flatAc;rw [zbE acells 6 zdK sacts j q x hx hq];exact hz))
   have x0:=gx 0 _ (by omega) rfl;have x1:=gx 1 _ (by omega) rfl;have x2:=gx 2 _ (by omega) rfl;have x3:=gx 3 _ (by omega) rfl;have x4:=gx 4 _ (by omega) rfl;have x5:=gx 5 _ (by omega) rfl;simp only [←Nat.add_assoc,Nat.add_zero] at x0 x1 x2 x3 x4 x5;obtain ⟨V,hV⟩:∃ V,wr.alloc (.cells #[.int .u8 (x.k:Int),.string x.name,.int .u8 (x.op:Int),.bool x.inn,.int .i64 x.e,.int .i64 x.cond] 75)=V:=⟨_,rfl⟩;have hVb:Below W.heap.size W V:=HY.out.trans (hV▸(Below.refl _ _).alloc HY.out.size _);have HVb:=hidI hVb;have CX:=hidI (CA.out x (List.mem_of_getElem? hx) V (HTc.out.on hVb));have hX:=HX.out;rw [List.drop_eq_getElem_cons (by have:=HN.out;omega),show sacts[j]'(by have:=HN.out;omega)=x from Option.some.inj ((List.getElem?_eq_getElem _).symm.trans hx),List.all_cons] at hX;have HXX:=hidI hX;have HVV:=hidI hV;clear hX HX hcell gx hx hv2 hc2 hV hVb;cases hr:actO p.prg x with
   | false=>
    rw [hr] at CX HXX;have HR2:Hid (R=false):=hidI (by rw [←HXX.out];rfl);clear hr HXX
    go_wp2_with (go_at_call 111;rw [HVV.out];refine Calls.mono CX.out ?_;intro e w9 h9;obtain ⟨h9,hb9⟩:=h9;have h9:e=_:=h9;subst h9;clear CX)
    exact ⟨rfl,by rw [HR2.out];rfl,HBc.out.trans ((HVb.out.trans (hb9.mono HVb.out.size)).mono HBc.out.size)⟩
   | true=>
    rw [hr,Bool.true_and] at HXX;rw [hr] at CX;clear hr
    go_wp2_with (go_at_call 111;rw [HVV.out];refine Calls.mono CX.out ?_;intro e w9 h9;obtain ⟨h9,hb9⟩:=h9;have h9:e=_:=h9;subst h9;clear CX;have HB9:=hidI (HVb.out.trans (hb9.mono HVb.out.size));clear hb9)
    go_roundg g
    case measure=>omega
    case rel=>exact ⟨j+1,by omega,by go_num,HXX,HB9⟩
theorem assertM (v:Value) (w:World):(Instr.typeAssert (.iface 120 v) 20 120 true).run Tryz.prog w=.ok (.tuple #[v,.bool true]) w:=by kernel_rfl
set_option maxRecDepth 100000 in
set_option maxHeartbeats 2000000 in
theorem tcatch_fault (A B:Nat) (x y p:Int) (older:List PanicEntry) (w:World) (h0:w.cell? ⟨A,0,none⟩=some (.int .i64 x)) (h1:w.cell? ⟨B,0,none⟩=some (.int .i64 y)) (z0:w.frozen? ⟨A,0,none⟩=false) (z1:w.frozen? ⟨B,0,none⟩=false) (hAB:B≠A) :
  CallsD Tryz.prog 63 #[.pointer (some ⟨A,0,none⟩),.pointer (some ⟨B,0,none⟩)] (.panicking ({ v:=.iface 120 (.agg #[.int .i64 p]),recovered:=false }::older)) w fun e u' w'=>
   e=.returned (.tuple #[])∧u'=.panicking ({ v:=.iface 120 (.agg #[.int .i64 p]),recovered:=true }::older)∧w'=((w.setCell ⟨A,0,none⟩ (.int .i64 p)).setCell ⟨B,0,none⟩ (.int .i64 9)).alloc (.cells #[.int .i64 p] 120):=by
 have ha:(Instr.typeAssert (.iface 120 (.agg #[.int .i64 p])) 20 120 true).run Tryz.prog w=.ok (.tuple #[.agg #[.int .i64 p],.bool true]) w:=assertM _ w;have hA:=World.block_lt_of_cell? w _ h0;have hB:=World.block_lt_of_cell? w _ h1;simp only at hA hB;have a0:(w.alloc (.cells #[.int .i64 p] 120)).cell? ⟨A,0,none⟩=some (.int .i64 x):=zaJ ((Below.refl _ _).alloc (Nat.le_refl _) _) h0;have b0:(w.alloc (.cells #[.int .i64 p] 120)).frozen? ⟨A,0,none⟩=false:=(Below.frozen ((Below.refl _ _).alloc (Nat.le_refl _) _) hA).trans z0;have hb:Below w.heap.size w (w.alloc (.cells #[.int .i64 p] 120)):=(Below.refl _ _).alloc (Nat.le_refl _) _;have g1:((w.alloc (.cells #[.int .i64 p] 120)).setCell ⟨A,0,none⟩ (.int .i64 p)).cell? ⟨B,0,none⟩=some (.int .i64 y):=(World.cell?_setCell_other _ _ _ _ (fun e=>hAB (congrArg Addr.block e).symm)).trans (zaJ hb h1);have g2:((w.alloc (.cells #[.int .i64 p] 120)).setCell ⟨A,0,none⟩ (.int .i64 p)).frozen? ⟨B,0,none⟩=false:=by
  rw [World.frozen?_setCell];exact (hb.frozen (World.block_lt_of_cell? w _ h1)).trans z1
 clear hb;refine callsD_of_wpS Tryz.func63 rfl fun c₀ cs hu => ?_
 apply wpS_seq;apply wpS_region;simp [wpOpsS,go_sem,recoverD,hu,Tryz.ntmps63,Exit.thenS];refine wpS_of_wp ?_;go_wp2;cases c₀
 simp_all [bodyPostS,results,Tryz.results63]
theorem tcatch_idle (A B:Nat) (w:World) :
  CallsD Tryz.prog 63 #[.pointer (some ⟨A,0,none⟩),.pointer (some ⟨B,0,none⟩)] .returning w fun e u' w'=>e=.returned (.tuple #[])∧u'=.returning∧w'=w:=by
 refine callsD_of_wpS Tryz.func63 rfl fun c₀ cs hu => ?_
 apply wpS_seq;apply wpS_region;simp [wpOpsS,go_sem,recoverD,hu,Tryz.ntmps63,Exit.thenS];refine wpS_of_wp ?_;go_wp2;cases c₀
 simp_all [bodyPostS,results,Tryz.results63]
structure CB (w0:World) (c:Nat) (i:Int) (p:PV) (w:World):Prop where
 b:Below w0.heap.size w0 w
 hc:w0.heap.size≤c
 row:w.ownsRow w0.heap.size 64 5 (bx c) 1 [p.dv,p.xv,p.sv,p.mv,.int .i64 i]
theorem CB.ty {w0 w:World} {c:Nat} {i:Int} {p:PV} (h:CB w0 c i p w) (s:SeesPv w0 p):TyS c i p w:=
 ⟨zaA h.row rfl,zaA h.row rfl,zaA h.row rfl,zaA h.row rfl,zaA h.row rfl,s.below h.b⟩
theorem CB.on {w0 w w':World} {c:Nat} {i:Int} {p:PV} (h:CB w0 c i p w) (hb:Below w.heap.size w w'):CB w0 c i p w':=
 ⟨h.b.trans (hb.mono h.b.size),h.hc,zcN h.row hb (Nat.le_refl _)⟩
theorem CB.set {w0 w:World} {c:Nat} {i:Int} {p:PV} (h:CB w0 c i p w) (k:Int):CB w0 c k p (w.setCell ⟨c,4,none⟩ (.int .i64 k)):=
 ⟨h.b.setCell h.hc _,h.hc,own_setG h.row (.int .i64 k)⟩
theorem CB.lt {w0 w:World} {c:Nat} {i:Int} {p:PV} (h:CB w0 c i p w):c<w.heap.size:=World.block_lt_of_cell? w _ (zaA h.row (j:=0) rfl)
structure Chg1 (c:Nat) (w w':World):Prop where
 size:w.heap.size≤w'.heap.size
 block:∀ k,k<w.heap.size→k≠c→w'.heap[k]?=w.heap[k]?
theorem Chg1.refl (c:Nat) (w:World):Chg1 c w w:=⟨Nat.le_refl _,fun _ _ _=>rfl⟩
theorem Chg1.trans {c:Nat} {a b d:World} (h:Chg1 c a b) (k:Chg1 c b d):Chg1 c a d:=⟨Nat.le_trans h.size k.size,fun j hj hc=>(k.block j (Nat.lt_of_lt_of_le hj h.size) hc).trans (h.block j hj hc)⟩
theorem Chg1.of {c:Nat} {w w':World} (h:Below w.heap.size w w'):Chg1 c w w':=⟨h.size,fun k hk _=>h.block k hk⟩
theorem Chg1.set (c j:Nat) (w:World) (u:Value):Chg1 c w (w.setCell ⟨c,j,none⟩ u):=⟨(Below.setCell (Below.refl 0 w) (Nat.zero_le _) u).size,fun k hl hk=>(grown_set w c j u).block k hl (by rintro e;cases e;exact hk rfl)⟩
def AllP:Option Nat→Ending→Prop
 | none,e=>e=.returned (.tuple #[])
 | some j,e=>e=.panicked (misF (j:Int))
def CstH (p:PV):Prop:=∀ (c:Nat) (i:Int) (x:SV),x∈p.ss→∀ (aa ta ea:Option Addr) (ac tc ec:Nat),x.av=.slice aa x.s.acts.length ac→∀ u:World,TyS c i p u→Calls Tryz.prog 64 #[.pointer (some ⟨c,0,none⟩),.agg #[.int .u8 (x.s.k:Int),.string x.s.name,.int .u8 (x.s.op:Int),.int .i64 x.s.e,.int .i64 x.s.cond,.slice aa x.s.acts.length ac,.slice ta x.s.thn.length tc,.slice ea x.s.els.length ec]] u fun e w'=>MPost i (stmtO p.prg x.s) e∧Below u.heap.size u w'
set_option maxHeartbeats 4000000 in
theorem call_of {w0:World} {c:Nat} {p:PV} (hs:SeesPv w0 p) (hC:CstH p) (ho:PrgOk p.prg) (i0:Int) (w:World) (h:CB w0 c i0 p w) :
  Calls Tryz.prog 30 #[.pointer (some ⟨c,0,none⟩)] w fun e w'=>AllP (firstO p.prg 0 p.prg.stmts) e∧Below w0.heap.size w0 w'∧Chg1 c w w':=by
 have CST:=hidI (fun (i:Int) (x:SV) (hx:x∈p.ss) (aa ta ea:Option Addr) (ac tc ec:Nat) (ha:x.av=.slice aa x.s.acts.length ac) (u:World) (hu:TyS c i p u)=>hC c i x hx aa ta ea ac tc ec ha u hu);obtain ⟨_,sa,sc,hsv,hsl⟩:=id hs.s;obtain ⟨n,hn⟩:∃ n,p.ss.length=n:=⟨_,rfl⟩;have hnl:n≤1099511627776:=by have:=ho.sl;simp [PV.prg] at this;omega
 have h2:w.cell? ⟨c,2,none⟩=some (.slice sa n sc):=by rw [zaA h.row (j:=2) rfl,hsv,hn]
 obtain ⟨R,hR⟩:∃ R,firstO p.prg 0 p.prg.stmts=R:=⟨_,rfl⟩;rw [hR];have HR:Hid (firstO p.prg 0 (p.ss.map SV.s)=R):=hidI hR;have HS:=hidI hs;have HN:=hidI hn;have HSL:=hidI hsl;have HC0:=hidI h;clear hR hs hC ho hsv hn hsl h;go_enter Tryz.func30,Tryz.ntmps30;go_wp2
 go_loopg [10] n (fun g s10 wx=>∃ (j:Nat) (i:Int),j+g=n∧s10=.int .i64 (j:Int)∧Hid (firstO p.prg j ((p.ss.drop j).map SV.s)=R)∧Hid (CB w0 c i p wx)∧Hid (Chg1 c w wx))
 case atStart=>exact ⟨0,i0,by omega,rfl,hidI (by simpa using HR.out),HC0,hidI (Chg1.refl _ _)⟩
 case round=>
  obtain ⟨j,i,hj,rfl,HX,HCB,HCG⟩:=hrel;cases gk with
  | zero=>
   obtain rfl:n=j:=by omega
   have k1:decide ((n:Int)<(n:Int))=false:=by simp
   have hX:=HX.out;rw [List.drop_eq_nil_of_le (by have:=HN.out;omega)] at hX;have HRn:Hid (R=none):=hidI hX.symm;clear hX HX HR;go_wp2;go_end0;exact ⟨by rw [HRn.out];rfl,HCB.out.b,HCG.out⟩
  | succ g=>
   have k1:(j:Int)<(n:Int):=by omega
   obtain ⟨x,hx⟩:∃ x,p.ss[j]?=some x:=⟨_,List.getElem?_eq_getElem (by have:=HN.out;omega)⟩;have hxm:x∈p.ss:=List.mem_of_getElem? hx;obtain ⟨sb,off,rfl,hcell⟩:∃ b off,sa=some ⟨b,off,none⟩∧∀ (q:Nat) (z:Value),(flatS p.ss)[q]?=some z→w0.cell? ⟨b,off+q,none⟩=some z:=by
    rcases HSL.out with h|h
    ·have:=HN.out;omega
    ·exact h
   have gx:∀ (q:Nat) (z:Value),q<8→(scells x)[q]?=some z→wr.cell? ⟨sb,off+(j*8+q),none⟩=some z:=fun q z hq hz=>zaJ HCB.out.b (hcell _ _ (by unfold flatS;rw [zbE scells 8 zcR p.ss j q x hx hq];exact hz))
   obtain ⟨_,aa,ac,hav,_⟩:=id (HS.out.sa x hxm);obtain ⟨_,ta,tc,htv,_⟩:=id (HS.out.st x hxm);obtain ⟨_,ea,ec,hev,_⟩:=id (HS.out.se x hxm);have x0:=gx 0 _ (by omega) rfl;have x1:=gx 1 _ (by omega) rfl;have x2:=gx 2 _ (by omega) rfl;have x3:=gx 3 _ (by omega) rfl;have x4:=gx 4 _ (by omega) rfl;have x5:=gx 5 _ (by omega) rfl;have x6:=gx 6 _ (by omega) rfl;have x7:=gx 7 _ (by omega) rfl;simp only [←Nat.add_assoc,Nat.add_zero] at x0 x1 x2 x3 x4 x5 x6 x7;rw [hav] at x5;rw [htv] at x6;rw [hev] at x7;have c4:=zaA HCB.out.row (j:=4) rfl;have z4:=zcT HCB.out.row 4;have hlt:=HCB.out.lt;obtain ⟨V,hV⟩:∃ V,(wr.setCell ⟨c,4,none⟩ (.int .i64 (j:Int))).alloc (.cells #[.int .u8 (x.s.k:Int),.string x.s.name,.int .u8 (x.s.op:Int),.int .i64 x.s.e,.int .i64 x.s.cond,.slice aa x.s.acts.length ac,.slice ta x.s.thn.length tc,.slice ea x.s.els.length ec] 49)=V:=⟨_,rfl⟩;have hVb:Below (wr.setCell ⟨c,4,none⟩ (.int .i64 (j:Int))).heap.size (wr.setCell ⟨c,4,none⟩ (.int .i64 (j:Int))) V:=hV▸(Below.refl _ _).alloc (Nat.le_refl _) _;have HV:=hidI ((HCB.out.set (j:Int)).on hVb);have HCV:=hidI ((HCG.out.trans (Chg1.set c 4 wr (.int .i64 (j:Int)))).trans (Chg1.of hVb));have CX:=hidI (CST.out (j:Int) x hxm aa ta ea ac tc ec hav V (HV.out.ty HS.out));have hX:=HX.out;rw [List.drop_eq_getElem_cons (by have:=HN.out;omega),show p.ss[j]'(by have:=HN.out;omega)=x from Option.some.inj ((List.getElem?_eq_getElem _).symm.trans hx),List.map_cons] at hX;unfold firstO at hX;have HXX:=hidI hX;have HVV:=hidI hV;clear hX HX hcell gx hx hxm hav htv hev hV hVb HR
   cases hr:stmtO p.prg x.s with
   | false=>
    rw [hr] at CX HXX;have HR2:Hid (R=some j):=hidI (by rw [←HXX.out];rfl);clear hr HXX
    go_wp2_with (go_at_call 64;rw [HVV.out];refine Calls.mono CX.out ?_;intro e w9 h9;obtain ⟨h9,hb9⟩:=h9;have h9:e=_:=h9;subst h9;clear CX)
    exact ⟨rfl,by rw [HR2.out];rfl,HV.out.b.trans (hb9.mono HV.out.b.size),HCV.out.trans (Chg1.of hb9)⟩
   | true=>
    rw [hr] at CX;have HX2:Hid (firstO p.prg (j+1) ((p.ss.drop (j+1)).map SV.s)=R):=hidI (by have:=HXX.out;rw [hr] at this;exact this);clear hr HXX
    go_wp2_with (go_at_call 64;rw [HVV.out];refine Calls.mono CX.out ?_;intro e w9 h9;obtain ⟨h9,hb9⟩:=h9;have h9:e=_:=h9;subst h9;clear CX;have HC9:=hidI (HV.out.on hb9);have HG9:=hidI (HCV.out.trans (Chg1.of hb9));clear hb9)
    go_roundg g
    case measure=>omega
    case rel=>exact ⟨j+1,(j:Int),by omega,by go_num,HX2,HC9,HG9⟩
def chkR (P:Prg):Int × Int:=match firstO P 0 P.stmts with|none=>(0,0)|some j=>((j:Int),9)
theorem zeG {c:Nat} {w w':World} (h:Chg1 c w w') {q:Addr} {v:Value} (hq:q.block≠c) (hv:w.cell? q=some v):w'.cell? q=some v:=(World.cell?_of_block (h.block _ (World.block_lt_of_cell? _ _ hv) hq)).trans hv
theorem frz_chg {c:Nat} {w w':World} (h:Chg1 c w w') {q:Addr} (hq:q.block≠c) (hl:q.block<w.heap.size):w'.frozen? q=w.frozen? q:=World.frozen?_of_block (h.block _ hl hq)
set_option maxHeartbeats 2000000 in
theorem tycaught_of {w0:World} {c:Nat} {p:PV} (hs:SeesPv w0 p) (hC:CstH p) (ho:PrgOk p.prg) (i0:Int) (w:World) (h:CB w0 c i0 p w) :
  Calls Tryz.prog 29 #[.func (.func 30) #[.pointer (some ⟨c,0,none⟩)] #[]] w fun e w'=>e=.returned (.tuple #[.int .i64 (chkR p.prg).1,.int .i64 (chkR p.prg).2])∧Below w0.heap.size w0 w':=by
 have hmf:∀ (fn:Go.Fn) (first cap:Array Value) (w:World),(Instr.makeFunc fn first cap).run Tryz.prog w=.ok (.func fn first cap) w:=fun _ _ _ _=>rfl
 have hb:Below w.heap.size w ((w.alloc (.cells #[.int .i64 0] 3)).alloc (.cells #[.int .i64 0] 28)):=((Below.refl _ _).alloc (Nat.le_refl _) _).alloc (by simp) _;have hA:((w.alloc (.cells #[.int .i64 0] 3)).alloc (.cells #[.int .i64 0] 28)).cell? ⟨w.heap.size,0,none⟩=some (.int .i64 0):=by go_simp
 have hB:((w.alloc (.cells #[.int .i64 0] 3)).alloc (.cells #[.int .i64 0] 28)).cell? ⟨w.heap.size+1,0,none⟩=some (.int .i64 0):=by go_simp
 have fA:((w.alloc (.cells #[.int .i64 0] 3)).alloc (.cells #[.int .i64 0] 28)).frozen? ⟨w.heap.size,0,none⟩=false:=by go_simp
 have fB:((w.alloc (.cells #[.int .i64 0] 3)).alloc (.cells #[.int .i64 0] 28)).frozen? ⟨w.heap.size+1,0,none⟩=false:=by go_simp
 obtain ⟨W,hW⟩:∃ W,(w.alloc (.cells #[.int .i64 0] 3)).alloc (.cells #[.int .i64 0] 28)=W:=⟨_,rfl⟩;rw [hW] at hb hA hB fA fB;have hlt:=h.lt;have C:=hidI (call_of hs hC ho i0 W (h.on hb));have HA:=hidI hA;have HB:=hidI hB;have HFA:=hidI fA;have HFB:=hidI fB;have HW:=hidI hW;have HL:=hidI hlt;have hw0:=h.b.size;have HW0:=hidI hw0;clear hs hC ho h hb hA hB fA fB hW hw0;cases hr:firstO p.prg 0 p.prg.stmts with
 | none=>
  have HR:Hid (chkR p.prg=(0,0)):=hidI (by unfold chkR;rw [hr]);rw [hr] at C;rw [HR.out];clear hr HR
  go_enter_defers Tryz.func29,Tryz.ntmps29
  go_wp2_with (go_at_call 30;rw [HW.out];refine C.out.mono ?_;intro e w1 h1;obtain ⟨h1,hb1,hg1⟩:=h1;have h1:e=_:=h1;subst h1;clear C;refine Hid.out ?_)
  have hE0:=zeG hg1 (by have:=HL.out;simp only;omega) HA.out;have hE1:=zeG hg1 (by have:=HL.out;simp only;omega) HB.out;have f0:=(frz_chg hg1 (q:=⟨w.heap.size,0,none⟩) (by have:=HL.out;simp only;omega) (World.block_lt_of_cell? _ _ HA.out)).trans HFA.out;have f1:=(frz_chg hg1 (q:=⟨w.heap.size+1,0,none⟩) (by have:=HL.out;simp only;omega) (World.block_lt_of_cell? _ _ HB.out)).trans HFB.out;have HB1:=hidI hb1;clear hb1 hg1;refine hidI ?_;go_wp2;refine leaves_cons (f:=63) (args:=#[.pointer (some ⟨w.heap.size,0,none⟩),.pointer (some ⟨w.heap.size+1,0,none⟩)]) (by simp) (by simp [go_sem]) ?_;refine (tcatch_idle w.heap.size (w.heap.size+1) _).mono ?_;rintro e u' w'' ⟨rfl,rfl,rfl⟩;have hF0:=World.cell?_setCell_same w1 ⟨w.heap.size,0,none⟩ (.int .i64 0) hE0;have hF1:((w1.setCell ⟨w.heap.size,0,none⟩ (.int .i64 0)).setCell ⟨w.heap.size+1,0,none⟩ (.int .i64 0)).cell? ⟨w.heap.size+1,0,none⟩=some (.int .i64 0):=World.cell?_setCell_same _ _ _ ((World.cell?_setCell_other _ _ _ _ (by simp)).trans hE1);simp [Leaves,settle,results,Tryz.results29,go_sem,hF0,hF1];exact (HB1.out.setCell (p:=⟨w.heap.size,0,none⟩) (by have:=HW0.out;simp only;omega) (.int .i64 0)).setCell (p:=⟨w.heap.size+1,0,none⟩) (by have:=HW0.out;simp only;omega) (.int .i64 0)
 | some j=>
  have HR:Hid (chkR p.prg=((j:Int),9)):=hidI (by unfold chkR;rw [hr]);rw [hr] at C;rw [HR.out];clear hr HR
  go_enter_defers Tryz.func29,Tryz.ntmps29
  go_wp2_with (go_at_call 30;rw [HW.out];refine C.out.mono ?_;intro e w1 h1;obtain ⟨h1,hb1,hg1⟩:=h1;have h1:e=_:=h1;subst h1;clear C)
  have hE0:=zeG hg1 (by have:=HL.out;simp only;omega) HA.out;have hE1:=zeG hg1 (by have:=HL.out;simp only;omega) HB.out;have f0:=(frz_chg hg1 (q:=⟨w.heap.size,0,none⟩) (by have:=HL.out;simp only;omega) (World.block_lt_of_cell? _ _ HA.out)).trans HFA.out;have f1:=(frz_chg hg1 (q:=⟨w.heap.size+1,0,none⟩) (by have:=HL.out;simp only;omega) (World.block_lt_of_cell? _ _ HB.out)).trans HFB.out;refine leaves_cons (f:=63) (args:=#[.pointer (some ⟨w.heap.size,0,none⟩),.pointer (some ⟨w.heap.size+1,0,none⟩)]) (by simp) (by simp [go_sem]) ?_;refine (tcatch_fault w.heap.size (w.heap.size+1) 0 0 (j:Int) [] _ hE0 hE1 f0 f1 (by omega)).mono ?_;rintro e u' w'' ⟨rfl,rfl,rfl⟩;have hF0:((w1.setCell ⟨w.heap.size,0,none⟩ (.int .i64 (j:Int))).setCell ⟨w.heap.size+1,0,none⟩ (.int .i64 9)).cell? ⟨w.heap.size,0,none⟩=some (.int .i64 (j:Int)):=(World.cell?_setCell_other _ _ _ _ (by simp)).trans (World.cell?_setCell_same w1 ⟨w.heap.size,0,none⟩ (.int .i64 (j:Int)) hE0);have hF1:((w1.setCell ⟨w.heap.size,0,none⟩ (.int .i64 (j:Int))).setCell ⟨w.heap.size+1,0,none⟩ (.int .i64 9)).cell? ⟨w.heap.size+1,0,none⟩=some (.int .i64 9):=World.cell?_setCell_same _ _ _ ((World.cell?_setCell_other _ _ _ _ (by simp)).trans hE1);have hX:=(Below.refl ((w1.setCell ⟨w.heap.size,0,none⟩ (.int .i64 (j:Int))).setCell ⟨w.heap.size+1,0,none⟩ (.int .i64 9)).heap.size _).alloc (Nat.le_refl _) (.cells #[.int .i64 (j:Int)] 120);have hG0:=zaJ hX hF0;have hG1:=zaJ hX hF1;have HB1:=hidI (((hb1.setCell (p:=⟨w.heap.size,0,none⟩) (by have:=HW0.out;simp only;omega) (.int .i64 (j:Int))).setCell (p:=⟨w.heap.size+1,0,none⟩) (by have:=HW0.out;simp only;omega) (.int .i64 9)))
  have HB2:=hidI (HB1.out.trans (hX.mono HB1.out.size));simp [Leaves,settle,results,Tryz.results29,go_sem,hG0,hG1];exact HB2.out
end Go.Proofs.YtfljimpgnlfipaaGreatDoor
