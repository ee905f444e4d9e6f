/-
  Part 35 of the proof: KoA, WfR, KoM, MapK.
-/
import Derived.Test.YtfljimpgnlfipaaGreatDoorTE34
import Derived.Test.YtfljimpgnlfipaaGreatDoorTE27
import Derived.Test.YtfljimpgnlfipaaGreatDoorTE04
import Derived.Test.YtfljimpgnlfipaaGreatDoorTE02
namespace Go.Proofs.YtfljimpgnlfipaaGreatDoor
open Go.RowKit Go.Deep Go.MapKept
def KfP (b3:Nat) (w:World):Option Nat→Ending→World→Prop
 | some k,e,w'=>e=.returned (.tuple #[])∧w'.cell? ⟨b3,0,none⟩=some (.int .u8 (k:Int))∧Chg1 b3 w w'
 | none,e,w'=>e=.panicked (misF 0)∧Chg1 b3 w w'∧Below w.heap.size w w'
theorem kindOf_at {c:Nat} {i:Int} {p:PV} (hwf:WfX p.prg.exprs) (hd:p.ds.length≤24) {a:Int} (ha:InX p.prg a) (wh:Nat) (w:World) (h:TyS c i p w):Calls Tryz.prog 34 #[.pointer (some ⟨c,0,none⟩),.int .i64 a,.int .u8 (wh:Int)] w fun e w'=>ROpt i (kX p.prg wh a) e∧Below w.heap.size w w':=by
 have hl:p.prg.exprs.length=p.xs.length:=by simp [PV.prg]
 unfold kX;exact kindOf_all hwf hd wh p.prg.exprs.length a w h ha.1 ha.2 (by have:=ha.2;omega)
set_option maxHeartbeats 1000000 in
theorem kfun_any {w0:World} {c b1 b2 b3:Nat} {p:PV} (hs:SeesPv w0 p) (hwf:WfX p.prg.exprs) (hd:p.ds.length≤24) {a:Int} (ha:InX p.prg a) (wh:Nat) (w:World) (h:CB w0 c 0 p w) (h1:w.cell? ⟨b1,0,none⟩=some (.int .i64 a)) (h2:w.cell? ⟨b2,0,none⟩=some (.int .u8 (wh:Int))) (h3:w.cell? ⟨b3,0,none⟩=some (.int .u8 0)) (f3:w.frozen? ⟨b3,0,none⟩=false) (hb3:w0.heap.size≤b3) :
  Calls Tryz.prog 33 #[.pointer (some ⟨c,0,none⟩),.pointer (some ⟨b1,0,none⟩),.pointer (some ⟨b2,0,none⟩),.pointer (some ⟨b3,0,none⟩)] w fun e w'=>KfP b3 w (kX p.prg wh a) e w'∧Below w0.heap.size w0 w':=by
 have C:=hidI (kindOf_at hwf hd ha wh w (h.ty hs));have HB0:=hidI h.b;have HL3:=hidI (World.block_lt_of_cell? w _ h3);have H3:=hidI h3;have HF3:=hidI f3;clear hs hwf hd ha h;cases hk:kX p.prg wh a with
 | none=>
  rw [hk] at C;clear hk;go_enter Tryz.func33,Tryz.ntmps33
  go_wp2_with (go_at_call 34;refine C.out.mono ?_;intro e w1 h9;obtain ⟨h9,hb1⟩:=h9;have h9:e=_:=h9;subst h9;clear C)
  exact ⟨rfl,⟨rfl,Chg1.of hb1,hb1⟩,HB0.out.trans (hb1.mono HB0.out.size)⟩
 | some k=>
  rw [hk] at C;clear hk;go_enter Tryz.func33,Tryz.ntmps33
  go_wp2_with (go_at_call 34;refine C.out.mono ?_;intro e w1 h9;obtain ⟨h9,hb1⟩:=h9;have h9:e=_:=h9;subst h9;clear C;have q3:=zaJ hb1 H3.out;have g3:=(hb1.frozen (p:=⟨b3,0,none⟩) HL3.out).trans HF3.out;have HB1:=hidI hb1;clear hb1)
  go_end0;exact ⟨⟨rfl,World.cell?_setCell_same w1 ⟨b3,0,none⟩ (.int .u8 (k:Int)) q3,(Chg1.of HB1.out).trans (Chg1.set b3 0 w1 _)⟩,(HB0.out.trans (HB1.out.mono HB0.out.size)).setCell hb3 _⟩
def KcP (b3:Nat):Option Nat→Ending→World→Prop
 | some k,e,w'=>e=.returned (.tuple #[.int .i64 0,.int .i64 0])∧w'.cell? ⟨b3,0,none⟩=some (.int .u8 (k:Int))
 | none,e,w'=>e=.returned (.tuple #[.int .i64 0,.int .i64 9])∧w'.cell? ⟨b3,0,none⟩=some (.int .u8 0)
set_option maxHeartbeats 4000000 in
theorem kcaught_any {w0:World} {c b1 b2 b3:Nat} {p:PV} (hs:SeesPv w0 p) (hwf:WfX p.prg.exprs) (hd:p.ds.length≤24) {a:Int} (ha:InX p.prg a) (wh:Nat) (w:World) (h:CB w0 c 0 p w) (h1:w.cell? ⟨b1,0,none⟩=some (.int .i64 a)) (h2:w.cell? ⟨b2,0,none⟩=some (.int .u8 (wh:Int))) (h3:w.cell? ⟨b3,0,none⟩=some (.int .u8 0)) (f3:w.frozen? ⟨b3,0,none⟩=false) (hb3:w0.heap.size≤b3) :
  Calls Tryz.prog 29 #[.func (.func 33) #[] #[.pointer (some ⟨c,0,none⟩),.pointer (some ⟨b1,0,none⟩),.pointer (some ⟨b2,0,none⟩),.pointer (some ⟨b3,0,none⟩)]] w fun e w'=>KcP b3 (kX p.prg wh a) e w'∧Below w0.heap.size w0 w':=by
 have hmf:∀ (fn:Go.Fn) (first cap:Array Value) (w:World),(Instr.makeFunc fn first cap).run Tryz.prog w=.ok (.func fn first cap) w:=fun _ _ _ _=>rfl
 have hb:Below w.heap.size w ((w.alloc (.cells #[.int .i64 0] 3)).alloc (.cells #[.int .i64 0] 28)):=((Below.refl _ _).alloc (Nat.le_refl _) _).alloc (by simp) _;have hA:((w.alloc (.cells #[.int .i64 0] 3)).alloc (.cells #[.int .i64 0] 28)).cell? ⟨w.heap.size,0,none⟩=some (.int .i64 0):=by go_simp
 have hB:((w.alloc (.cells #[.int .i64 0] 3)).alloc (.cells #[.int .i64 0] 28)).cell? ⟨w.heap.size+1,0,none⟩=some (.int .i64 0):=by go_simp
 have fA:((w.alloc (.cells #[.int .i64 0] 3)).alloc (.cells #[.int .i64 0] 28)).frozen? ⟨w.heap.size,0,none⟩=false:=by go_simp
 have fB:((w.alloc (.cells #[.int .i64 0] 3)).alloc (.cells #[.int .i64 0] 28)).frozen? ⟨w.heap.size+1,0,none⟩=false:=by go_simp
 obtain ⟨W,hW⟩:∃ W,(w.alloc (.cells #[.int .i64 0] 3)).alloc (.cells #[.int .i64 0] 28)=W:=⟨_,rfl⟩;rw [hW] at hb hA hB fA fB;have hlt:=World.block_lt_of_cell? w _ h3;have C:=hidI (kfun_any hs hwf hd ha wh W (h.on hb) (zaJ hb h1) (zaJ hb h2) (zaJ hb h3) ((hb.frozen (p:=⟨b3,0,none⟩) hlt).trans f3) hb3);have HA:=hidI hA;have HB:=hidI hB;have HFA:=hidI fA;have HFB:=hidI fB;have HW:=hidI hW;have HL:Hid (b3<w.heap.size):=hidI hlt;have H3W:=hidI (zaJ hb h3);have hw0:=h.b.size;have HW0:=hidI hw0;clear hs hwf hd ha h h1 h2 h3 f3 hb hA hB fA fB hW hw0;cases hr:kX p.prg wh a with
 | some k=>
  rw [hr] at C;clear hr
  go_enter_defers Tryz.func29,Tryz.ntmps29
  go_wp2_with (go_at_call 33;rw [HW.out];refine C.out.mono ?_;intro e w1 h9;obtain ⟨⟨h9,hc3,hg1⟩,hb1⟩:=h9;subst h9;clear C;refine Hid.out ?_)
  have hE0:=zeG hg1 (by have:=HL.out;simp only;omega) HA.out;have hE1:=zeG hg1 (by have:=HL.out;simp only;omega) HB.out;have f0:=(frz_chg hg1 (q:=⟨w.heap.size,0,none⟩) (by have:=HL.out;simp only;omega) (World.block_lt_of_cell? _ _ HA.out)).trans HFA.out;have f1:=(frz_chg hg1 (q:=⟨w.heap.size+1,0,none⟩) (by have:=HL.out;simp only;omega) (World.block_lt_of_cell? _ _ HB.out)).trans HFB.out;have HB1:=hidI hb1;have HC3:=hidI hc3;clear hb1 hg1 hc3;refine hidI ?_;go_wp2;refine leaves_cons (f:=63) (args:=#[.pointer (some ⟨w.heap.size,0,none⟩),.pointer (some ⟨w.heap.size+1,0,none⟩)]) (by simp) (by simp [go_sem]) ?_;refine (tcatch_idle w.heap.size (w.heap.size+1) _).mono ?_;rintro e u' w'' ⟨rfl,rfl,rfl⟩;have hF0:=World.cell?_setCell_same w1 ⟨w.heap.size,0,none⟩ (.int .i64 0) hE0;have hF1:((w1.setCell ⟨w.heap.size,0,none⟩ (.int .i64 0)).setCell ⟨w.heap.size+1,0,none⟩ (.int .i64 0)).cell? ⟨w.heap.size+1,0,none⟩=some (.int .i64 0):=World.cell?_setCell_same _ _ _ ((World.cell?_setCell_other _ _ _ _ (by simp)).trans hE1);have hF3:((w1.setCell ⟨w.heap.size,0,none⟩ (.int .i64 0)).setCell ⟨w.heap.size+1,0,none⟩ (.int .i64 0)).cell? ⟨b3,0,none⟩=some (.int .u8 (k:Int)):=(World.cell?_setCell_other _ _ _ _ (by have:=HL.out;first|(simp;done)|(simp;omega))).trans ((World.cell?_setCell_other _ _ _ _ (by have:=HL.out;first|(simp;done)|(simp;omega))).trans HC3.out);simp [Leaves,settle,results,Tryz.results29,go_sem,hF0,hF1];exact ⟨⟨rfl,hF3⟩,(HB1.out.setCell (p:=⟨w.heap.size,0,none⟩) (by have:=HW0.out;simp only;omega) (.int .i64 0)).setCell (p:=⟨w.heap.size+1,0,none⟩) (by have:=HW0.out;simp only;omega) (.int .i64 0)⟩
 | none=>
  rw [hr] at C;clear hr
  go_enter_defers Tryz.func29,Tryz.ntmps29
  go_wp2_with (go_at_call 33;rw [HW.out];refine C.out.mono ?_;intro e w1 h9;obtain ⟨⟨h9,hg1,hbb⟩,hb1⟩:=h9;subst h9;clear C)
  have hE0:=zeG hg1 (by have:=HL.out;simp only;omega) HA.out;have hE1:=zeG hg1 (by have:=HL.out;simp only;omega) HB.out;have hE3:=zaJ hbb H3W.out;have f0:=(frz_chg hg1 (q:=⟨w.heap.size,0,none⟩) (by have:=HL.out;simp only;omega) (World.block_lt_of_cell? _ _ HA.out)).trans HFA.out;have f1:=(frz_chg hg1 (q:=⟨w.heap.size+1,0,none⟩) (by have:=HL.out;simp only;omega) (World.block_lt_of_cell? _ _ HB.out)).trans HFB.out;refine leaves_cons (f:=63) (args:=#[.pointer (some ⟨w.heap.size,0,none⟩),.pointer (some ⟨w.heap.size+1,0,none⟩)]) (by simp) (by simp [go_sem]) ?_;refine (tcatch_fault w.heap.size (w.heap.size+1) 0 0 0 [] _ hE0 hE1 f0 f1 (by omega)).mono ?_;rintro e u' w'' ⟨rfl,rfl,rfl⟩;have hF0:((w1.setCell ⟨w.heap.size,0,none⟩ (.int .i64 0)).setCell ⟨w.heap.size+1,0,none⟩ (.int .i64 9)).cell? ⟨w.heap.size,0,none⟩=some (.int .i64 0):=(World.cell?_setCell_other _ _ _ _ (by simp)).trans (World.cell?_setCell_same w1 ⟨w.heap.size,0,none⟩ (.int .i64 0) hE0);have hF1:((w1.setCell ⟨w.heap.size,0,none⟩ (.int .i64 0)).setCell ⟨w.heap.size+1,0,none⟩ (.int .i64 9)).cell? ⟨w.heap.size+1,0,none⟩=some (.int .i64 9):=World.cell?_setCell_same _ _ _ ((World.cell?_setCell_other _ _ _ _ (by simp)).trans hE1);have hF3:((w1.setCell ⟨w.heap.size,0,none⟩ (.int .i64 0)).setCell ⟨w.heap.size+1,0,none⟩ (.int .i64 9)).cell? ⟨b3,0,none⟩=some (.int .u8 0):=(World.cell?_setCell_other _ _ _ _ (by have:=HL.out;first|(simp;done)|(simp;omega))).trans ((World.cell?_setCell_other _ _ _ _ (by have:=HL.out;first|(simp;done)|(simp;omega))).trans hE3)
  have hX:=(Below.refl ((w1.setCell ⟨w.heap.size,0,none⟩ (.int .i64 0)).setCell ⟨w.heap.size+1,0,none⟩ (.int .i64 9)).heap.size _).alloc (Nat.le_refl _) (.cells #[.int .i64 0] 120);have hG0:=zaJ hX hF0;have hG1:=zaJ hX hF1;have hG3:=zaJ hX hF3;have HB1:=hidI (((hb1.setCell (p:=⟨w.heap.size,0,none⟩) (by have:=HW0.out;simp only;omega) (.int .i64 0)).setCell (p:=⟨w.heap.size+1,0,none⟩) (by have:=HW0.out;simp only;omega) (.int .i64 9)));have HB2:=hidI (HB1.out.trans (hX.mono HB1.out.size));simp [Leaves,settle,results,Tryz.results29,go_sem,hG0,hG1];exact ⟨⟨rfl,hG3⟩,HB2.out⟩
def InE (n:Nat) (a:Int):Prop:=0≤a∧a<(n:Int)
def WfAn (n:Nat) (a:Actn):Prop:=InE n a.e∧(a.cond = -1∨InE n a.cond)∧(a.k=2∨a.k=3→a.op≠18)
def WfSn (n:Nat) (s:Stm):Prop:=(s.k≠3→InE n s.e)∧(s.k=2→(s.cond = -1∨InE n s.cond)∧s.op≠18)∧(s.k=3→∀ a∈s.acts,WfAn n a)
theorem InE.mono {n m:Nat} {a:Int} (h:InE n a) (hm:n≤m):InE m a:=⟨h.1,by have:=h.2;omega⟩
theorem WfAn.mono {n m:Nat} {a:Actn} (h:WfAn n a) (hm:n≤m):WfAn m a:=⟨h.1.mono hm,h.2.1.imp_right (·.mono hm),h.2.2⟩
theorem WfSn.mono {n m:Nat} {s:Stm} (h:WfSn n s) (hm:n≤m):WfSn m s:=⟨fun k=>(h.1 k).mono hm,fun k=>⟨(h.2.1 k).1.imp_right (·.mono hm),(h.2.1 k).2⟩,fun k a ha=>(h.2.2 k a ha).mono hm⟩
theorem WfX.snoc {es:List Exp} {x:Exp} (h:WfX es) (hx:x.k=10→(∀ b∈x.kids,0≤b∧b<(es.length:Int))∧(x.op=18→3≤x.kids.length)∧(x.op=13∨x.op=14→2≤x.kids.length)∧x.kids.length≤3):WfX (es++[x]):=by
 intro i e he hk;by_cases hi:i<es.length
 ·rw [List.getElem?_append_left hi] at he;exact h i e he hk
 ·rw [List.getElem?_append_right (by omega)] at he;have h0:i-es.length=0:=by
   have:=(List.getElem?_eq_some_iff.1 he).1;simp at this;omega
  rw [h0] at he;simp only [List.getElem?_cons_zero,Option.some.injEq] at he;subst he;have:i=es.length:=by omega
  subst this;exact hx hk
def EOk (es es':List Exp) (i:Int):Prop:=WfX es'∧es.length≤es'.length∧InE es'.length i
theorem EOk.add {es es':List Exp} {i:Int} {x:Exp} (h:WfX es) (hx:x.k=10→(∀ b∈x.kids,0≤b∧b<(es.length:Int))∧(x.op=18→3≤x.kids.length)∧(x.op=13∨x.op=14→2≤x.kids.length)∧x.kids.length≤3) (e:addE es x=.ok (i,es')):EOk es es' i:=by
 unfold addE at e;simp only [Except.ok.injEq,Prod.mk.injEq] at e;obtain ⟨rfl,rfl⟩:=e;refine ⟨h.snoc hx,by simp,?_⟩;unfold InE;simp;omega
theorem rows_wf {g:Nat→List Exp→Except Int (Int × List Exp)} (hg:∀ n es i es',WfX es→g n es=.ok (i,es')→EOk es es' i):∀ (ks:List Nat) (es:List Exp) (is:List Int) (es':List Exp),WfX es→rows g ks es=.ok (is,es')→WfX es'∧es.length≤es'.length∧is.length=ks.length∧∀ b∈is,InE es'.length b
 | [],es,is,es',h,e=>by
  simp only [rows,Except.ok.injEq,Prod.mk.injEq] at e;obtain ⟨rfl,rfl⟩:=e;exact ⟨h,Nat.le_refl _,rfl,fun b hb=>by simp at hb⟩
 | k::ks,es,is,es',h,e=>by
  simp only [rows] at e;split at e
  ·cases e
  ·next i1 es1 h1=>
   obtain ⟨a1,a2,a3⟩:=hg k es i1 es1 h h1;split at e
   ·cases e
   ·next is2 es2 h2=>
    obtain ⟨c1,c2,c3,c4⟩:=rows_wf hg ks es1 is2 es2 a1 h2;simp only [Except.ok.injEq,Prod.mk.injEq] at e;obtain ⟨rfl,rfl⟩:=e;refine ⟨c1,by omega,by simp [c3],fun b hb => ?_⟩;rcases List.mem_cons.1 hb with rfl|hb
    ·exact a3.mono c2
    ·exact c4 b hb
theorem colOf_le (s:ByteArray):colOf s≤5:=by
 unfold colOf
 repeat' split
 all_goals omega
theorem bareOf_le (s:ByteArray):bareOf s≤9:=by
 unfold bareOf
 repeat' split
 all_goals omega
theorem rdExpr_wf (l:List Frm):∀ (f n:Nat) (es:List Exp) (i:Int) (es':List Exp),WfX es→rdExpr l f n es=.ok (i,es')→EOk es es' i
 | 0,n,es,i,es',h,e=>by simp [rdExpr] at e
 | f+1,n,es,i,es',h,e=>by
  simp only [rdExpr] at e;split at e
  ·exact EOk.add h (fun k=>by simp at k) e
  split at e
  ·split at e
   ·exact EOk.add h (fun k=>by simp at k) e
   split at e
   ·exact EOk.add h (fun k=>by simp at k) e
   split at e
   ·cases e
   ·exact EOk.add h (fun k=>by simp at k) e
  split at e
  ·cases e
  ·next w kids hh=>
   split at e
   ·split at e
    ·cases e
    ·exact EOk.add h (fun k=>by have:=colOf_le w;simp only at k;omega) e
   split at e
   ·exact EOk.add h (fun k=>by have:=bareOf_le w;simp only at k;omega) e
   split at e
   ·exact EOk.add h (fun k=>by simp at k) e
   split at e
   ·exact EOk.add h (fun k=>by simp at k) e
   split at e
   ·cases e
   ·next hop=>
    split at e
    ·cases e
    ·next is es1 h1=>
     obtain ⟨c1,c2,c3,c4⟩:=rows_wf (fun n es i es' h1 h2=>rdExpr_wf l f n es i es' h1 h2) kids es is es1 h h1;have hl:kids.length=arityN (opOf w):=by
      by_cases q:kids.length=arityN (opOf w)
      ·exact q
      ·exact absurd (.inr q) hop
     have ha:=EOk.add c1 (x:=⟨10,0,opOf w,emptyS,0,is⟩) (fun _=>by
      refine ⟨c4,fun k => ?_,fun k => ?_,?_⟩
      ·simp only at k ⊢;rw [c3,hl,k];decide
      ·simp only at k ⊢;rw [c3,hl];rcases k with k|k<;>rw [k]<;>decide
      ·simp only;rw [c3,hl];unfold arityN
       repeat' split
       all_goals omega) e
     exact ⟨ha.1,Nat.le_trans c2 ha.2.1,ha.2.2⟩
theorem rdE_wf {l:List Frm} {n:Nat} {es es':List Exp} {i:Int} (h:WfX es) (e:rdE l n es=.ok (i,es')):EOk es es' i:=rdExpr_wf l _ n es i es' h e
theorem rdCond_wf {l:List Frm} {kids:List Nat} {at_:Nat} {es es':List Exp} {i:Int} (h:WfX es) (e:rdCond l kids at_ es=.ok (i,es')):WfX es'∧es.length≤es'.length∧(i = -1∨InE es'.length i):=by
 unfold rdCond at e;split at e
 ·obtain ⟨a,b,c⟩:=rdE_wf h e;exact ⟨a,b,.inr c⟩
 ·simp only [Except.ok.injEq,Prod.mk.injEq] at e;obtain ⟨rfl,rfl⟩:=e;exact ⟨h,Nat.le_refl _,.inl rfl⟩
theorem redN_no18 {o:Nat} (h:¬ redN o=false):o≠18:=by
 rintro rfl;exact h (by decide)
theorem rdAct_wf {l:List Frm} {n:Nat} {es es':List Exp} {a:Actn} (h:WfX es) (e:rdAct l n es=.ok (a,es')):WfX es'∧es.length≤es'.length∧WfAn es'.length a:=by
 simp only [rdAct] at e;split at e
 ·cases e
 split at e
 ·split at e
  ·cases e
  split at e
  ·cases e
  next h1=>
  split at e
  ·cases e
  next h2=>
  simp only [Except.ok.injEq,Prod.mk.injEq] at e;obtain ⟨rfl,rfl⟩:=e;obtain ⟨a1,a2,a3⟩:=rdE_wf h h1;obtain ⟨b1,b2,b3⟩:=rdCond_wf a1 h2;exact ⟨b1,by omega,a3.mono b2,b3,fun k=>by rcases k with k|k<;>simp at k⟩
 split at e
 ·split at e
  ·cases e
  next hr=>
  split at e
  ·cases e
  split at e
  ·cases e
  next h1=>
  split at e
  ·cases e
  next h2=>
  simp only [Except.ok.injEq,Prod.mk.injEq] at e;obtain ⟨rfl,rfl⟩:=e;obtain ⟨a1,a2,a3⟩:=rdE_wf h h1;obtain ⟨b1,b2,b3⟩:=rdCond_wf a1 h2;exact ⟨b1,by omega,a3.mono b2,b3,fun _=>redN_no18 (fun k=>hr (.inl k))⟩
 ·cases e
theorem rdActs_wf {l:List Frm}:∀ (ks:List Nat) (es es':List Exp) (as':List Actn),WfX es→rdActs l ks es=.ok (as',es')→WfX es'∧es.length≤es'.length∧∀ a∈as',WfAn es'.length a
 | [],es,es',as',h,e=>by
  simp only [rdActs,Except.ok.injEq,Prod.mk.injEq] at e;obtain ⟨rfl,rfl⟩:=e;exact ⟨h,Nat.le_refl _,fun a ha=>by simp at ha⟩
 | k::ks,es,es',as',h,e=>by
  simp only [rdActs] at e;split at e
  ·cases e
  next h1=>
  split at e
  ·cases e
  next h2=>
  simp only [Except.ok.injEq,Prod.mk.injEq] at e;obtain ⟨rfl,rfl⟩:=e;obtain ⟨a1,a2,a3⟩:=rdAct_wf h h1;obtain ⟨b1,b2,b3⟩:=rdActs_wf ks _ _ _ a1 h2;refine ⟨b1,by omega,fun x hx => ?_⟩;rcases List.mem_cons.1 hx with rfl|hx
  ·exact a3.mono b2
  ·exact b3 x hx
def QOk (q:ES):Prop:=WfX q.1∧∀ s∈q.2,WfSn q.1.length s
theorem QOk.on {q:ES} {es:List Exp} (h:QOk q) (hx:WfX es) (hl:q.1.length≤es.length):QOk (es,q.2):=⟨hx,fun s hs=>(h.2 s hs).mono hl⟩
theorem QOk.add {q q':ES} {i:Int} {s:Stm} (h:QOk q) (hs:WfSn q.1.length s) (e:addS q s=.ok (i,q')):QOk q'∧q.1.length≤q'.1.length:=by
 unfold addS at e;simp only [Except.ok.injEq,Prod.mk.injEq] at e;obtain ⟨rfl,rfl⟩:=e;refine ⟨⟨h.1,fun x hx => ?_⟩,Nat.le_refl _⟩;rcases List.mem_append.1 hx with hx|hx
 ·exact h.2 x hx
 ·rw [List.mem_singleton.1 hx];exact hs
theorem rowsS_wf {g:Nat→ES→Except Int (Int × ES)} (hg:∀ n q i q',QOk q→g n q=.ok (i,q')→QOk q'∧q.1.length≤q'.1.length):∀ (ks:List Nat) (q:ES) (is:List Int) (q':ES),QOk q→rows g ks q=.ok (is,q')→QOk q'∧q.1.length≤q'.1.length
 | [],q,is,q',h,e=>by
  simp only [rows,Except.ok.injEq,Prod.mk.injEq] at e;obtain ⟨_,rfl⟩:=e;exact ⟨h,Nat.le_refl _⟩
 | k::ks,q,is,q',h,e=>by
  simp only [rows] at e;split at e
  ·cases e
  ·next i1 q1 h1=>
   obtain ⟨a1,a2⟩:=hg k q i1 q1 h h1;split at e
   ·cases e
   ·next is2 q2 h2=>
    obtain ⟨c1,c2⟩:=rowsS_wf hg ks q1 is2 q2 a1 h2;simp only [Except.ok.injEq,Prod.mk.injEq] at e;obtain ⟨_,rfl⟩:=e;exact ⟨c1,by omega⟩
theorem rdStmt_wf (l:List Frm):∀ (f n:Nat) (q:ES) (i:Int) (q':ES),QOk q→rdStmt l f n q=.ok (i,q')→QOk q'∧q.1.length≤q'.1.length
 | 0,n,q,i,q',h,e=>by simp [rdStmt] at e
 | f+1,n,q,i,q',h,e=>by
  have IH:∀ n q i q',QOk q→rdStmt l f n q=.ok (i,q')→QOk q'∧q.1.length≤q'.1.length:=fun n q i q' h1 h2=>rdStmt_wf l f n q i q' h1 h2
  simp only [rdStmt] at e;split at e
  ·cases e
  split at e
  ·split at e
   ·cases e
   split at e
   ·cases e
   next h1=>
   obtain ⟨a1,a2,a3⟩:=rdE_wf h.1 h1;have:=QOk.add (h.on a1 a2) ⟨fun _=>a3,fun k=>by simp at k,fun k=>by simp at k⟩ e;exact ⟨this.1,Nat.le_trans a2 this.2⟩
  split at e
  ·split at e
   ·cases e
   next hr=>
   split at e
   ·cases e
   split at e
   ·cases e
   next h1=>
   split at e
   ·cases e
   next h2=>
   obtain ⟨a1,a2,a3⟩:=rdE_wf h.1 h1;obtain ⟨b1,b2,b3⟩:=rdCond_wf a1 h2;have:=QOk.add (h.on b1 (Nat.le_trans a2 b2)) ⟨fun _=>a3.mono b2,fun _=>⟨b3,redN_no18 hr⟩,fun k=>by simp at k⟩ e;exact ⟨this.1,Nat.le_trans (Nat.le_trans a2 b2) this.2⟩
  split at e
  ·split at e
   ·cases e
   next h1=>
   obtain ⟨a1,a2,a3⟩:=rdActs_wf _ _ _ _ h.1 h1;have:=QOk.add (h.on a1 a2) ⟨fun k=>absurd rfl k,fun k=>by simp at k,fun _=>a3⟩ e;exact ⟨this.1,Nat.le_trans a2 this.2⟩
  split at e
  ·split at e
   ·cases e
   next h1=>
   split at e
   ·cases e
   next h2=>
   split at e
   ·cases e
   next h3=>
   obtain ⟨a1,a2,a3⟩:=rdE_wf h.1 h1;obtain ⟨b1,b2⟩:=rowsS_wf IH _ _ _ _ (h.on a1 a2) h2;obtain ⟨c1,c2⟩:=rowsS_wf IH _ _ _ _ b1 h3;simp only at b2;have:=QOk.add c1 ⟨fun _=>(a3.mono b2).mono c2,fun k=>by simp at k,fun k=>by simp at k⟩ e;exact ⟨this.1,Nat.le_trans (Nat.le_trans a2 (Nat.le_trans b2 c2)) this.2⟩
  split at e
  ·split at e
   ·cases e
   next h1=>
   split at e
   ·cases e
   next h2=>
   obtain ⟨a1,a2,a3⟩:=rdE_wf h.1 h1;obtain ⟨b1,b2⟩:=rowsS_wf IH _ _ _ _ (h.on a1 a2) h2;simp only at b2;have:=QOk.add b1 ⟨fun _=>a3.mono b2,fun k=>by simp only at k;split at k<;>simp at k,fun k=>by simp only at k;split at k<;>simp at k⟩ e;exact ⟨this.1,Nat.le_trans (Nat.le_trans a2 b2) this.2⟩
  split at e
  ·split at e
   ·cases e
   split at e
   ·cases e
   next h1=>
   split at e
   ·cases e
   next h2=>
   obtain ⟨a1,a2,a3⟩:=rdE_wf h.1 h1;obtain ⟨b1,b2⟩:=rowsS_wf IH _ _ _ _ (h.on a1 a2) h2;simp only at b2;have:=QOk.add b1 ⟨fun _=>a3.mono b2,fun k=>by simp at k,fun k=>by simp at k⟩ e;exact ⟨this.1,Nat.le_trans (Nat.le_trans a2 b2) this.2⟩
  ·cases e
theorem rdTop_wf {l:List Frm}:∀ (ks:List Nat) (P Q:Prg),QOk (P.exprs,P.stmts)→P.decls.length≤24→rdTop l ks P=.ok Q→QOk (Q.exprs,Q.stmts)∧Q.decls.length≤24
 | [],P,Q,h,hd,e=>by
  simp only [rdTop,Except.ok.injEq] at e;subst e;exact ⟨h,hd⟩
 | k::ks,P,Q,h,hd,e=>by
  simp only [rdTop] at e;split at e
  ·split at e
   ·split at e
    ·cases e
    split at e
    ·cases e
    next h24=>
    split at e
    ·cases e
    ·refine rdTop_wf ks { P with decls:=P.decls++[_] } Q h ?_ e;simp only [List.length_append,List.length_cons,List.length_nil];omega
   ·split at e
    ·cases e
    ·next h1=>exact rdTop_wf ks { P with exprs:=_,stmts:=_,main:=_ } Q (rdStmt_wf l _ _ _ _ _ h h1).1 hd e
  ·split at e
   ·cases e
   ·next h1=>exact rdTop_wf ks { P with exprs:=_,stmts:=_,main:=_ } Q (rdStmt_wf l _ _ _ _ _ h h1).1 hd e
theorem read_wf {l:List Frm} {ks:List Nat} {Q:Prg} (e:rdTop l ks ⟨[],[],[],[]⟩=.ok Q):WfP Q∧Q.decls.length≤24:=by
 obtain ⟨h1,h2⟩:=rdTop_wf ks _ Q ⟨fun i e he=>by simp at he,fun s hs=>by simp at hs⟩ (by simp) e;exact ⟨⟨h1.1,h1.2⟩,h2⟩
def tyKind (P:Prg) (a:Int) (w:Nat):Nat × Int:=if soundP P=false∨a<0∨(P.exprs.length:Int)≤a then (0,3) else if w<1∨4<w then (0,2) else match kX P w a with
 | some k=>(k,0)
 | none=>(0,9)
theorem mapO_mono {α β:Type} {g g':α→Option β} (h:∀ a r,g a=some r→g' a=some r):∀ (l:List α) (ks:List β),mapO g l=some ks→mapO g' l=some ks
 | [],ks,e=>e
 | a::l,ks,e=>by
  simp only [mapO] at e ⊢;split at e
  ·cases e
  ·next b hb=>
   rw [h a b hb];split at e
   ·cases e
   ·next bs hbs=>
    rw [mapO_mono h l bs hbs];exact e
theorem kindE_mono {ds:List Dcl} {g g':Int→Option Nat} {w v:Nat} (hw:∀ k,mayS k w=true→mayS k v=true) (h:∀ a r,g a=some r→g' a=some r) (e:Exp) (r:Nat) (he:kindE ds g w e=some r):kindE ds g' v e=some r:=by
 unfold kindE at he ⊢;by_cases hm:mayS e.k w=false
 ·rw [if_pos hm] at he;cases he
 rw [if_neg hm] at he;have hv:¬ mayS e.k v=false:=by
  rw [hw e.k (by simpa using hm)];simp
 rw [if_neg hv];by_cases h1:e.k=1
 ·rw [if_pos h1] at he ⊢;exact he
 rw [if_neg h1] at he ⊢;by_cases h2:e.k=2
 ·rw [if_pos h2] at he ⊢;exact he
 rw [if_neg h2] at he ⊢;by_cases h3:e.k=3∨e.k=4
 ·rw [if_pos h3] at he ⊢;exact he
 rw [if_neg h3] at he ⊢;by_cases h5:e.k=5
 ·rw [if_pos h5] at he ⊢;exact he
 rw [if_neg h5] at he ⊢;by_cases h10:e.k=10
 ·rw [if_pos h10] at he ⊢;split at he
  ·cases he
  ·next ks hks=>
   rw [mapO_mono h _ _ hks];exact he
 ·rw [if_neg h10] at he ⊢;exact he
theorem kindX_mono {ds:List Dcl} {xs:List Exp} {w v:Nat} (hw:∀ k,mayS k w=true→mayS k v=true):∀ (f:Nat) (a:Int) (r:Nat),kindX ds xs w f a=some r→kindX ds xs v f a=some r
 | 0,a,r,h=>by simp [kindX] at h
 | f+1,a,r,h=>by
  simp only [kindX] at h ⊢;exact kindE_mono hw (fun a r=>kindX_mono hw f a r) _ _ h
theorem may_scalar {v:Nat} (k:Nat) (h:mayS k 1=true):mayS k v=true:=by
 unfold mayS at h ⊢;split at h
 ·simp at h
 next h1=>
 rw [if_neg h1];split at h
 ·simp at h
 next h2=>
 rw [if_neg h2];split at h
 ·simp at h
 next h3=>
 rw [if_neg h3]
theorem may_node (k:Nat) (h:mayS k 2=true):mayS k 3=true:=by
 unfold mayS at h ⊢;split at h
 ·next h1=>rw [if_pos h1];decide
 next h1=>
 rw [if_neg h1];split at h
 ·simp at h
 next h2=>
 rw [if_neg h2];split at h
 ·simp at h
 next h3=>
 rw [if_neg h3]
theorem tyKind_mono {P:Prg} {a:Int} {w v:Nat} (hv:1≤v∧v≤4) (hw:∀ k,mayS k w=true→mayS k v=true) (h:(tyKind P a w).2=0):tyKind P a v=tyKind P a w:=by
 unfold tyKind at h ⊢;split at h
 ·simp at h
 next h1=>
 rw [if_neg h1,if_neg h1];split at h
 ·simp at h
 next h2=>
 rw [if_neg h2,if_neg (by omega)];split at h
 ·next k hk=>
  have:kX P v a=some k:=kindX_mono hw _ _ _ hk;rw [this];try simp [hk]
 ·simp at h
theorem tyKind_scalar {P:Prg} {a:Int} {v:Nat} (hv:1≤v∧v≤4) (h:(tyKind P a 1).2=0):tyKind P a v=tyKind P a 1:=tyKind_mono hv (fun k=>may_scalar k) h
theorem tyKind_node {P:Prg} {a:Int} (h:(tyKind P a 2).2=0):tyKind P a 3=tyKind P a 2:=tyKind_mono (by omega) may_node h
open Go.RowKit Go.MapKept Go.WideMaps Go.WideShapes
open Go.ChangeMaps (setBlock heap_setBlock_same heap_setBlock_other)
section
structure Kys (P:Program) (tk:TypeId) (κ:Type) where
 key:κ→Value
 inj:∀ x y,key x=key y→x=y
 ok:κ→Prop
 law:WideMaps.KeyLaw P tk
 has:∀ x,ok x→∃ l,keyOf P tk (key x)=some l
variable {P : Program} {tk : TypeId} {κ : Type}
def updKy [DecidableEq κ] (f:κ→Option Value) (s:κ) (d:Value):κ→Option Value:=fun t=>if t=s then some d else f t
def SaysK (K:Kys P tk κ) (es:Array MapEntry) (clock:Nat) (f:κ→Option Value):Prop:=
 Stamped es clock∧(∀ x∈es.toList,∃ s d,K.ok s∧x.key=K.key s∧f s=some d∧x.val=d)∧(∀ s d,f s=some d→∃ x∈es.toList,x.key=K.key s)
def MapK (K:Kys P tk κ) (w:World) (mb:Nat) (f:κ→Option Value):Prop:=∃ es clock,w.heap[mb]?=some (.map es clock)∧SaysK K es clock f
theorem MapK.same {K:Kys P tk κ} {w w':World} {mb:Nat} {f:κ→Option Value} (h:MapK K w mb f) (e:w'.heap[mb]?=w.heap[mb]?):MapK K w' mb f:=by
 obtain ⟨es,clock,hb,hs⟩:=h;exact ⟨es,clock,e.trans hb,hs⟩
theorem MapK.lt {K:Kys P tk κ} {w:World} {mb:Nat} {f:κ→Option Value} (h:MapK K w mb f):mb<w.heap.size:=by
 obtain ⟨es,clock,hb,_⟩:=h;exact (Array.getElem?_eq_some_iff.1 hb).1
theorem mapK_made (K:Kys P tk κ) (w:World):MapK K (w.alloc (.map #[] 0)) w.heap.size (fun _=>none):=
 ⟨#[],0,(MapKept.heap_alloc w _).1,stamped_empty 0,by simp,by simp⟩
theorem SaysK.keyed {K:Kys P tk κ} {es:Array MapEntry} {clock:Nat} {f:κ→Option Value} (h:SaysK K es clock f):∀ e∈es.toList,∃ l,keyOf P tk e.key=some l:=by
 intro e he;obtain ⟨s,d,hs,hk,_⟩:=h.2.1 e he;exact hk▸K.has s hs
theorem lookK {K:Kys P tk κ} {tm ev:TypeId} (ht:P.underlying tm=some (.map tk ev)) {z:Value} (hz:∀ u:World,(zeroValue ev).run P u=.ok z u) {w:World} {mb:Nat} {f:κ→Option Value} (h:MapK K w mb f) {s:κ} (hs:K.ok s) (c:Bool) :
  (Instr.lookup tm (.map (some mb)) (K.key s) c).run P w=.ok (if c=true then .tuple #[(f s).getD z,.bool (f s).isSome] else (f s).getD z) w:=by
 obtain ⟨es,clock,hb,hS⟩:=h;obtain ⟨kl,hkey⟩:=K.has s hs;rcases K.law.find w hkey es.toList hS.keyed with ⟨h1,h2⟩|⟨j,e,h1,h2,h3⟩
 ·have hn:f s=none:=by
   cases hf:f s with
   | none=>rfl
   | some d=>
    obtain ⟨x,hx,hk⟩:=hS.2.2 s d hf;exact absurd hk (h2 x hx)
  rw [hn];simp [Instr.lookup,run_underlying ht,MapKept.run_getObj_map hb,K.law.check w es.isEmpty hkey,h1,hz,Result.andThen]
 ·obtain ⟨s',d,_,hk,hf,hv⟩:=hS.2.1 e (List.mem_of_getElem? h2);obtain rfl:s=s':=K.inj _ _ (h3.symm.trans hk);rw [hf];simp [Instr.lookup,run_underlying ht,MapKept.run_getObj_map hb,K.law.check w es.isEmpty hkey,h1,Result.andThen,hv]
theorem storeK_at {K:Kys P tk κ} {tm ev:TypeId} (ht:P.underlying tm=some (.map tk ev)) {u:World} {mb clock j:Nat} {es:Array MapEntry} {e0:MapEntry} {f:κ→Option Value} {s:κ} (v:Value) (hb:u.heap[mb]?=some (.map es clock)) (hS:SaysK K es clock f) (hs:K.ok s) (hj:es.toList[j]?=some e0) (he:e0.key=K.key s) :
  (Instr.mapUpdate tm (.map (some mb)) (K.key s) v).run P u=.ok () (setBlock u mb (.map (es.modify j fun e=>{ key:=e0.key,val:=v,born:=e.born }) clock)):=by
 obtain ⟨kl,hkey⟩:=K.has s hs;rcases K.law.find u hkey es.toList hS.keyed with ⟨_,h2⟩|⟨j',e',h1,h2,h3⟩
 ·exact absurd he (h2 e0 (List.mem_of_getElem? hj))
 ·obtain rfl:=nodup_at hS.1.2.2 h2 hj (h3.trans he.symm);have hj':es[j']?=some e0:=by rw [←Array.getElem?_toList];exact hj
  simp [Instr.mapUpdate,run_underlying ht,MapKept.run_getObj_map hb,K.law.check u false hkey,h1,hj',he,K.law.stays u hkey,MapKept.run_setObj_map _ hb,Result.andThen,setBlock]
theorem storeK_new {K:Kys P tk κ} {tm ev:TypeId} (ht:P.underlying tm=some (.map tk ev)) {u:World} {mb clock:Nat} {es:Array MapEntry} {f:κ→Option Value} {s:κ} (v:Value) (hb:u.heap[mb]?=some (.map es clock)) (hS:SaysK K es clock f) (hs:K.ok s) (hne:∀ e∈es.toList,e.key≠K.key s) :
  (Instr.mapUpdate tm (.map (some mb)) (K.key s) v).run P u=.ok () (setBlock u mb (.map (es.push { key:=K.key s,val:=v,born:=clock }) (clock+1))):=by
 obtain ⟨kl,hkey⟩:=K.has s hs;rcases K.law.find u hkey es.toList hS.keyed with ⟨h1,_⟩|⟨j,e,h1,h2,h3⟩
 ·simp [Instr.mapUpdate,run_underlying ht,MapKept.run_getObj_map hb,K.law.check u false hkey,h1,MapKept.run_setObj_map _ hb,Result.andThen,setBlock]
 ·exact absurd h3 (hne e (List.mem_of_getElem? h2))
theorem storeK [DecidableEq κ] {K:Kys P tk κ} {tm ev:TypeId} (ht:P.underlying tm=some (.map tk ev)) {w:World} {mb:Nat} {f:κ→Option Value} (h:MapK K w mb f) {s:κ} (hs:K.ok s) (d:Value) :
  ∃ o:Obj,(∀ u:World,u.heap[mb]?=w.heap[mb]?→(Instr.mapUpdate tm (.map (some mb)) (K.key s) d).run P u=.ok () (setBlock u mb o))∧
   (∀ u:World,u.heap[mb]?=some o→(Instr.mapUpdate tm (.map (some mb)) (K.key s) d).run P u=.ok () (setBlock u mb o))∧
   (∀ u:World,u.heap[mb]?=some o→MapK K u mb (updKy f s d)):=by
 obtain ⟨es,clock,hb,hS⟩:=h;by_cases hin:∃ e0∈es.toList,e0.key=K.key s
 ·obtain ⟨e0,hm,he⟩:=hin;obtain ⟨j,hj⟩:=List.getElem?_of_mem hm;have hlt:=(List.getElem?_eq_some_iff.1 hj).1;have hm2:(es.modify j fun e=>{ key:=e0.key,val:=d,born:=e.born }).toList=es.toList.set j { key:=e0.key,val:=d,born:=e0.born }:=by
   rw [Array.toList_modify,ChangeMaps.modify_eq_set _ _ _ _ hj]
  have hS2:SaysK K (es.modify j fun e=>{ key:=e0.key,val:=d,born:=e.born }) clock (updKy f s d):=by
   refine ⟨stamped_modify hS.1 hj,fun x hx => ?_,fun t dt ht => ?_⟩
   ·rw [hm2] at hx;obtain ⟨i,hi⟩:=List.getElem?_of_mem hx;rw [List.getElem?_set] at hi;by_cases hji:j=i
    ·rw [if_pos hji,if_pos hlt] at hi;obtain rfl:=Option.some.inj hi;exact ⟨s,d,hs,he,by simp [updKy],rfl⟩
    ·rw [if_neg hji] at hi;obtain ⟨t,dt,h1,h2,h3,h4⟩:=hS.2.1 x (List.mem_of_getElem? hi);refine ⟨t,dt,h1,h2,?_,h4⟩;have:t≠s:=fun e=>hji (nodup_at hS.1.2.2 hj hi (by rw [he,h2,e]))
     simp [updKy,this,h3]
   ·by_cases e:t=s
    ·subst e;exact ⟨{ key:=e0.key,val:=d,born:=e0.born },by rw [hm2];exact List.mem_set hlt _,he⟩
    ·simp only [updKy,e,if_false] at ht;obtain ⟨x,hx,hk⟩:=hS.2.2 t dt ht;obtain ⟨i,hi⟩:=List.getElem?_of_mem hx;refine ⟨x,?_,hk⟩;rw [hm2];apply List.mem_of_getElem? (i:=i);rw [List.getElem?_set,if_neg,hi];intro hji;subst hji;rw [hj] at hi;obtain rfl:=Option.some.inj hi;rw [he] at hk;exact e (K.inj _ _ hk.symm)
  refine ⟨.map (es.modify j fun e=>{ key:=e0.key,val:=d,born:=e.born }) clock,fun u hu=>storeK_at ht _ (hu.trans hb) hS hs hj he,fun u hu => ?_,fun u hu=>⟨_,_,hu,hS2⟩⟩;have hj2:(es.modify j fun e=>{ key:=e0.key,val:=d,born:=e.born }).toList[j]?=some { key:=e0.key,val:=d,born:=e0.born }:=by
   rw [hm2,List.getElem?_set,if_pos rfl,if_pos hlt]
  have:=storeK_at ht d hu hS2 hs hj2 he;rw [this];congr 2;congr 1;apply Array.ext';rw [Array.toList_modify,ChangeMaps.modify_eq_set _ _ _ _ hj2];exact WideElems.set_self _ _ _ hj2
 ·have hne:∀ e∈es.toList,e.key≠K.key s:=fun e he hk=>hin ⟨e,he,hk⟩
  have hS2:SaysK K (es.push { key:=K.key s,val:=d,born:=clock }) (clock+1) (updKy f s d):=by
   refine ⟨stamped_push hS.1 hne,fun x hx => ?_,fun t dt ht => ?_⟩
   ·rw [Array.toList_push,List.mem_append,List.mem_singleton] at hx;rcases hx with hx|rfl
    ·obtain ⟨t,dt,h1,h2,h3,h4⟩:=hS.2.1 x hx;refine ⟨t,dt,h1,h2,?_,h4⟩;have:t≠s:=fun e=>hne x hx (by rw [h2,e])
     simp [updKy,this,h3]
    ·exact ⟨s,d,hs,rfl,by simp [updKy],rfl⟩
   ·by_cases e:t=s
    ·subst e;exact ⟨{ key:=K.key t,val:=d,born:=clock },by simp,rfl⟩
    ·simp only [updKy,e,if_false] at ht;obtain ⟨x,hx,hk⟩:=hS.2.2 t dt ht;exact ⟨x,by simp [Array.mem_toList_iff.1 hx],hk⟩
  refine ⟨.map (es.push { key:=K.key s,val:=d,born:=clock }) (clock+1),fun u hu=>storeK_new ht _ (hu.trans hb) hS hs hne,fun u hu => ?_,fun u hu=>⟨_,_,hu,hS2⟩⟩;have hj2:(es.push { key:=K.key s,val:=d,born:=clock }).toList[es.size]?=some { key:=K.key s,val:=d,born:=clock }:=by
   simp
  have:=storeK_at ht d hu hS2 hs hj2 rfl;rw [this];congr 2;congr 1;apply Array.ext';rw [Array.toList_modify,ChangeMaps.modify_eq_set _ _ _ _ hj2];exact WideElems.set_self _ _ _ hj2
theorem entryK [DecidableEq κ] {K:Kys P tk κ} {tm ev:TypeId} (ht:P.underlying tm=some (.map tk ev)) {z:Value} (hz:∀ u:World,(zeroValue ev).run P u=.ok z u) {w:World} {mb:Nat} {f:κ→Option Value} (h:MapK K w mb f) {s:κ} (hs:K.ok s) :
  ∃ (st:Nat) (o1:Obj),(∀ u:World,u.heap[mb]?=w.heap[mb]?→(Instr.mapEntry tm (.map (some mb)) (K.key s)).run P u=.ok (.tuple #[(f s).getD z,goInt st]) (setBlock u mb o1))∧
   (∀ u:World,u.heap[mb]?=some o1→MapK K u mb (updKy f s ((f s).getD z)))∧
   ∀ d:Value,∃ o2:Obj,(∀ u:World,u.heap[mb]?=some o1→(Instr.entryStore tm (.map (some mb)) (goInt st) d).run P u=.ok () (setBlock u mb o2))∧(∀ u:World,u.heap[mb]?=some o2→MapK K u mb (updKy f s d)):=by
 have hlt:=h.lt;obtain ⟨es,clock,hb,hS⟩:=id h;obtain ⟨kl,hkey⟩:=K.has s hs;have s1:=hS.1.1;have s2:=hS.1.2.1;have eqO:∀ {o E:Obj},setBlock w mb o=setBlock w mb E→o=E:=fun {o E} e=>by
  have h1:(setBlock w mb o).heap[mb]?=some o:=heap_setBlock_same hb o;rw [e,heap_setBlock_same hb E] at h1;exact (Option.some.inj h1).symm
 rcases K.law.find w hkey es.toList hS.keyed with ⟨h1,h2⟩|⟨j,e0,h1,h2,h3⟩
 ·have hn:f s=none:=by
   cases hf:f s with
   | none=>rfl
   | some d=>
    obtain ⟨x,hx,hk⟩:=hS.2.2 s d hf;exact absurd hk (h2 x hx)
  have hput:∀ d:Value,∀ u:World,u.heap[mb]?=some (.map (es.push { key:=K.key s,val:=d,born:=clock }) (clock+1))→MapK K u mb (updKy f s d):=fun d u hu=>by
   obtain ⟨o,p1,_,p3⟩:=storeK ht h hs d;have q1:=p1 w rfl;rw [storeK_new ht d hb hS hs h2] at q1;have q2:=eqO (by injection q1);exact p3 u (hu.trans (by rw [q2]))
  refine ⟨clock,.map (es.push { key:=K.key s,val:=z,born:=clock }) (clock+1),fun u hu => ?_,fun u hu => ?_,fun d=>⟨.map (es.push { key:=K.key s,val:=d,born:=clock }) (clock+1),fun u hu => ?_,hput d⟩⟩
  ·have hbu:=hu.trans hb;obtain h1:(Instr.findKey tk (K.key s) es.toList).run P u=.ok none u:=by
    rcases K.law.find u hkey es.toList hS.keyed with ⟨g1,_⟩|⟨j',e',_,g2,g3⟩
    ·exact g1
    ·exact absurd g3 (h2 e' (List.mem_of_getElem? g2))
   rw [hn];simp [Instr.mapEntry,run_underlying ht,MapKept.run_getObj_map hbu,K.law.check u false hkey,h1,hz,MapKept.run_setObj_map _ hbu,Result.andThen,setBlock]
  ·rw [hn];exact hput z u hu
  ·have hidx:(es.push ⟨K.key s,z,clock⟩).findIdx? (fun e=>((e.born:Nat):Int)==((clock:Nat):Int))=some es.size:=by
    rw [WideElems.findIdx_arr];have:=WideElems.findIdx_born (l:=(es.push ⟨K.key s,z,clock⟩).toList) (j:=es.size) (e0:=⟨K.key s,z,clock⟩) (by
     simp only [Array.toList_push,List.map_append,List.map_cons,List.map_nil];refine List.nodup_append.2 ⟨s2,by simp,fun a ha c hc e1 => ?_⟩;simp only [List.mem_singleton] at hc;obtain ⟨x,hx,rfl⟩:=List.mem_map.1 ha;have:=s1 x hx;omega) (by simp)
    exact this
   have hmod:(es.push ⟨K.key s,z,clock⟩).modify es.size (fun e=>{ e with val:=d })=es.push ⟨K.key s,d,clock⟩:=by
    apply Array.ext';rw [Array.toList_modify,Array.toList_push,Array.toList_push,←Array.length_toList,WideElems.modify_last]
   simp [Instr.entryStore,MapKept.run_getObj_map hu,asInt,asIntOf,goInt,hidx,hmod,MapKept.run_setObj_map _ hu,Result.andThen,setBlock]
 ·have hj:es[j]?=some e0:=by simpa using h2
  obtain ⟨s',d0,_,hk,hf,hv⟩:=hS.2.1 e0 (List.mem_of_getElem? h2);obtain rfl:s=s':=K.inj _ _ (h3.symm.trans hk);have hsame:es.modify j (fun e=>{ e with key:=K.key s })=es:=by
   apply Array.ext';rw [Array.toList_modify,ChangeMaps.modify_eq_set _ _ _ _ h2];have:({ e0 with key:=K.key s }:MapEntry)=e0:=by rw [←h3]
   rw [this];exact WideElems.set_self _ _ _ h2
  have hput:∀ d:Value,∀ u:World,u.heap[mb]?=some (.map (es.modify j fun e=>{ key:=e0.key,val:=d,born:=e.born }) clock)→MapK K u mb (updKy f s d):=fun d u hu=>by
   obtain ⟨o,p1,_,p3⟩:=storeK ht h hs d;have q1:=p1 w rfl;rw [storeK_at ht d hb hS hs h2 h3] at q1;have q2:=eqO (by injection q1);exact p3 u (hu.trans (by rw [q2]))
  have hself:es.modify j (fun e=>{ key:=e0.key,val:=d0,born:=e.born })=es:=by
   apply Array.ext';rw [Array.toList_modify,ChangeMaps.modify_eq_set _ _ _ _ h2];have:({ key:=e0.key,val:=d0,born:=e0.born }:MapEntry)=e0:=by rw [←hv]
   rw [this];exact WideElems.set_self _ _ _ h2
  refine ⟨e0.born,.map es clock,fun u hu => ?_,fun u hu => ?_,fun d=>⟨.map (es.modify j fun e=>{ key:=e0.key,val:=d,born:=e.born }) clock,fun u hu => ?_,hput d⟩⟩
  ·have hbu:=hu.trans hb;obtain h1:(Instr.findKey tk (K.key s) es.toList).run P u=.ok (some (j,e0.val)) u:=by
    rcases K.law.find u hkey es.toList hS.keyed with ⟨_,g2⟩|⟨j',e',g1,g2,g3⟩
    ·exact absurd h3 (g2 e0 (List.mem_of_getElem? h2))
    ·obtain rfl:=nodup_at hS.1.2.2 g2 h2 (g3.trans h3.symm);obtain rfl:=Option.some.inj (g2.symm.trans h2);exact g1
   rw [hf];simp [Instr.mapEntry,run_underlying ht,MapKept.run_getObj_map hbu,K.law.check u false hkey,h1,hj,h3,K.law.stays u hkey,hsame,MapKept.run_setObj_map _ hbu,Result.andThen,setBlock,hv]
  ·rw [hf];exact hput d0 u (by rw [hself];exact hu)
  ·have hidx:es.findIdx? (fun e=>((e.born:Nat):Int)==((e0.born:Nat):Int))=some j:=by
    rw [WideElems.findIdx_arr];exact WideElems.findIdx_born s2 h2
   have hmod:es.modify j (fun e=>{ e with val:=d })=es.modify j (fun e=>{ key:=e0.key,val:=d,born:=e.born }):=by
    apply Array.ext';rw [Array.toList_modify,Array.toList_modify,ChangeMaps.modify_eq_set _ _ _ _ h2,ChangeMaps.modify_eq_set _ _ _ _ h2]
   simp [Instr.entryStore,MapKept.run_getObj_map hu,asInt,asIntOf,goInt,hidx,hmod,MapKept.run_setObj_map _ hu,Result.andThen,setBlock]
end
theorem laidOutM:laidOutB Tryz.prog=true:=by kernel_rfl
theorem lawKey:WideMaps.KeyLaw Tryz.prog 117:=deep_law_laid laidOutM (m:=2) (by decide) (of_decide_eq_true (by kernel_rfl)) (by kernel_rfl) (by kernel_rfl)
abbrev ke (s:ByteArray) (d:Nat):Value:=.agg #[.string s,.int .u8 (d:Int)]
theorem keyOf_ke {s:ByteArray} {d:Nat} (hs:s.size≤maxLen) (hd:d<256):∃ kl,keyOf Tryz.prog 117 (ke s d)=some kl:=by
 have hu:=Tryz.underlying117;have hk:Tryz.prog.keyType 117=true:=by kernel_rfl
 obtain ⟨m,hm⟩:∃ m,Tryz.prog.types.size+1=m+2:=⟨Tryz.prog.types.size-1,by have:1≤Tryz.prog.types.size:=(by kernel_rfl:decide (1≤Tryz.prog.types.size)=true) |> of_decide_eq_true;omega⟩;have hc9:Tryz.prog.cellsOf 9=1:=by kernel_rfl
 have hc31:Tryz.prog.cellsOf 104=1:=by kernel_rfl
 have hc33:Tryz.prog.cellsOf 117=2:=by kernel_rfl
 have hd2:(Lit.int .u8 (d:Int)).wf=true:=by
  simp only [Lit.wf,show IntKind.u8.min=0 from rfl,show IntKind.u8.max=255 from rfl,Bool.and_eq_true,decide_eq_true_eq];omega
 unfold keyOf ke;simp only [hu];rw [if_pos (by simp [hk,Value.formed,hu,hc33]),hm];unfold Program.keyLits;simp only [hu,Value.cells];rw [if_pos (by simp [hc33])];simp [hc9,hc31,Program.keyLits,Tryz.underlying9,Tryz.underlying104,hd2,hs]
def KK:Kys Tryz.prog 117 (ByteArray × Nat) where
 key:=fun x=>ke x.1 x.2
 inj:=fun x y h=>by
  have:x.1=y.1∧(x.2:Int)=(y.2:Int):=by simpa [ke] using h
  exact Prod.ext this.1 (by omega)
 ok:=fun x=>x.1.size≤maxLen∧x.2<256
 law:=lawKey
 has:=fun x h=>keyOf_ke h.1 h.2
end Go.Proofs.YtfljimpgnlfipaaGreatDoor
