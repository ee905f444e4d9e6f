/-
  Part 5 of the proof: AddT, AddK, Reg5, Toks, RToks, Range.
-/
import Derived.Test.YtmekkhfohmfjkaaGreatDoorSd04
import Derived.Test.YtmekkhfohmfjkaaGreatDoorSd01
import Derived.Test.YtmekkhfohmfjkaaGreatDoorSd00
import Derived.Laws.MakeOwn
import Derived.Maps.AppendAt
import Derived.OneCell
import Derived.WalkLawsBesides
namespace Go.Proofs.YtmekkhfohmfjkaaGreatDoor
open Go.RowKit Go.Deep Go.MapKept
theorem Tryz.info3x:(Tryz.prog.info? 3).map (fun i=>(i.zero,i.size,i.bytes))=some (some (.int .i64 0),1,8):=by kernel_rfl
theorem int_seen {W:World} (x:Int):SeesC (W.alloc (.cells #[.int .i64 x] 3)) (.slice (some ⟨W.heap.size,0,none⟩) 1 1) 1 1 [.int .i64 x]:=by
 refine ⟨rfl,_,1,rfl,.inr ⟨W.heap.size,0,rfl,fun j c hc => ?_⟩⟩
 have hj:j<1:=by have:=(List.getElem?_eq_some_iff.1 hc).1;simpa using this
 obtain rfl:j=0:=by omega
 simp only [List.getElem?_cons_zero,Option.some.injEq] at hc
 subst hc
 go_simp
theorem int_at {W:World} {b:Nat} (x:Int) (h:b=W.heap.size):SeesC (W.alloc (.cells #[.int .i64 x] 3)) (.slice (some ⟨b,0,none⟩) 1 1) 1 1 [.int .i64 x]:=by subst h;exact int_seen x
abbrev flt (p e:Int):List PanicEntry:=[{ v:=.iface 96 (.agg #[.int .i64 p,.int .i64 e]),recovered:=false }]
section
variable {w : World} {base B : Nat} {fs : List FV} {top opn : List Nat} {fv tv ov : Value}
theorem add_full (h:RD w base B fs top opn fv tv ov) (hl:fs.length=400) (f:Frm) :
  Calls Tryz.prog 113 #[.pointer (some ⟨B,0,none⟩),.agg #[.int .u8 f.k,.string f.s,.int .i64 f.n,.slice none 0 0,.int .i64 f.p]] w fun e w'=>e=.panicked (flt f.p 4)∧Below w.heap.size w w':=by
 obtain ⟨fa,fc,rfl⟩:=zaE h.fo
 have c0:=h.c0
 rw [hl] at c0
 have cA:=cell_al (.cells #[.int .u8 f.k,.string f.s,.int .i64 f.n,.slice none 0 0,.int .i64 f.p] 115) c0
 clear h
 go_enter Tryz.func113,Tryz.ntmps113
 go_wp2
 exact ⟨rfl,rfl,by exact belowT⟩
def AddPost (w:World) (base B:Nat) (fs:List FV) (top opn:List Nat) (fv tv ov:Value) (f:Frm) (w':World):Prop:=
 Chg (RB B fs top opn fv tv ov) w w'∧∃ fs' top' fv' tv',RD w' base B fs' top' opn fv' tv' ov∧addF f ⟨fs.map Prod.fst,top,opn⟩=⟨fs'.map Prod.fst,top',opn⟩
set_option maxHeartbeats 1000000 in
theorem add_top (h:RD w base B fs top [] fv tv ov) (hl:fs.length<400) (ht:top.length≤fs.length) (f:Frm) (hf:f.kids=[]) :
  Calls Tryz.prog 113 #[.pointer (some ⟨B,0,none⟩),.agg #[.int .u8 f.k,.string f.s,.int .i64 f.n,.slice none 0 0,.int .i64 f.p]] w fun e w'=>e=.returned (.int .i64 (fs.length:Int))∧AddPost w base B fs top [] fv tv ov f w':=by
 have HR:=hidI (h.alloc (.cells #[.int .u8 f.k,.string f.s,.int .i64 f.n,.slice none 0 0,.int .i64 f.p] 115))
 have HR0:=hidI h
 have hlt:=h.lt
 obtain ⟨oa,oc,rfl⟩:=zaE h.oo
 obtain ⟨fa,fc,rfl⟩:=zaE h.fo
 obtain ⟨ta,tc,rfl⟩:=zaE h.to
 have a0:=HR.out.c0
 have a1:=HR.out.c1
 have a2:=HR.out.c2
 simp only [List.length_nil] at a2
 have hne:((fs.length:Int)==400)=false:=by rw [beq_eq_false_iff_ne];omega
 have hne2:¬ fs.length=400:=by omega
 clear h
 have HO:=hidI ((HR.out.alloc (.cells #[.int .i64 (fs.length:Int)] 3)).to)
 have HV:=hidI (int_at (W:=w.alloc (.cells #[.int .u8 f.k,.string f.s,.int .i64 f.n,.slice none 0 0,.int .i64 f.p] 115)) (b:=w.heap.size+1) (fs.length:Int) (by simp))
 go_enter Tryz.func113,Tryz.ntmps113
 go_wp2_with (at_builtin;go_must (refine zbF Tryz.underlying45 Tryz.info3x rfl (by decide) (by decide) rfl _ _ rfl base (.slice ta top.length tc) top.length (ints top) rfl HO.out _ 1 [.int .i64 (fs.length:Int)] rfl HV.out (by simp [Value.oneCell']) (by omega) (by simp;omega) ?_);intro tv' w4 hown4 hgrow4 hat4;refine Hid.out ?_)
 have HRB:=hidI (HR.out.alloc (.cells #[.int .i64 (fs.length:Int)] 3))
 obtain ⟨WB,hWB⟩:∃ WB,(w.alloc (.cells #[.int .u8 f.k,.string f.s,.int .i64 f.n,.slice none 0 0,.int .i64 f.p] 115)).alloc (.cells #[.int .i64 (fs.length:Int)] 3)=WB:=⟨_,rfl⟩
 have HWB:=hidI hWB
 rw [hWB] at HRB hgrow4 hat4
 have HF:Hid (RowsOk WB base (rrows B fs top [] (.slice fa fs.length fc) (.slice ta top.length tc) (.slice oa ([]:List Nat).length oc))):=hidI HRB.out
 have hszB:WB.heap.size=w.heap.size+2:=by rw [←hWB];simp
 have hcB:∀ j u,j<5→(#[.int .u8 f.k,.string f.s,.int .i64 f.n,.slice none 0 0,.int .i64 f.p]:Array Value)[j]?=some u→WB.cell? ⟨w.heap.size,j,none⟩=some u:=by
  intro j u hj hu
  rw [←hWB]
  refine cell_al _ ?_
  have hm:j=0∨j=1∨j=2∨j=3∨j=4:=by omega
  rcases hm with rfl|rfl|rfl|rfl|rfl<;>simp at hu<;>subst hu<;>go_simp
 have hneB:Ap (bx B) (.slice ta top.length tc):=HRB.out.apart 0 2 _ _ rfl rfl (by omega)
 have h4:RD (w4.setCell ⟨B,1,none⟩ tv') base B fs (top++[fs.length]) [] (.slice fa fs.length fc) tv' (.slice oa ([]:List Nat).length oc):=by
  refine HRB.out.putT hgrow4 ?_ hat4
  rw [ints_append,List.length_append];exact hown4
 have hB4:w4.cell? ⟨B,1,none⟩=some (.slice ta top.length tc):=hgrow4.cell HRB.out.c1 (by rcases hneB with h|h;cases h;exact h)
 have hf4:w4.frozen? ⟨B,1,none⟩=false:=(World.frozen?_of_block (w:=WB) (a:=⟨B,1,none⟩) (hgrow4.block B (by rw [hszB];omega) (by rcases hneB with h|h;cases h;exact h))).trans (HRB.out.free 1)
 have hlt4:=hown4.lt
 obtain ⟨va,vc,rfl⟩:=zaE hown4
 refine hidI ?_
 have HG4:=hidI hgrow4
 have HO4:=hidI hown4
 have HA4:=hidI hat4
 have H4:=hidI h4
 have hd5:=hcB
 clear hgrow4 hown4 hat4 h4 hWB hneB
 go_wp2
 have hfbt:Value.ownBlock (.slice ta top.length tc)≠some w.heap.size:=fun e=>by have:=(HR0.out.to).lt _ e;omega
 have hfbf:Value.ownBlock (.slice fa fs.length fc)≠some w.heap.size:=fun e=>by have:=(HR0.out.fo).lt _ e;omega
 have hBne:¬ w.heap.size=B:=by omega
 have hbx:∀ j u,j<5→(#[.int .u8 f.k,.string f.s,.int .i64 f.n,.slice none 0 0,.int .i64 f.p]:Array Value)[j]?=some u→(w4.setCell ⟨B,1,none⟩ (.slice va (top.length+1) vc)).drew.cell? ⟨w.heap.size,j,none⟩=some u:=fun j u hj hu=>
  (World.cell?_of_block (w:=w4) (Below.heap_setCell w4 ⟨B,1,none⟩ _ w.heap.size hBne)).trans (HG4.out.cell (hcB j u hj hu) (Ne.symm hfbt))
 refine reg8 (fs:=fs) (f:=f) (base:=base) (fv:=.slice fa fs.length fc) (FB:=w.heap.size) ⟨H4.out.drew.c0,hbx 0 _ (by omega) rfl,hbx 1 _ (by omega) rfl,hbx 2 _ (by omega) rfl,hbx 3 _ (by omega) rfl,hbx 4 _ (by omega) rfl⟩ (H4.out.drew.free 0) H4.out.drew.fo (by omega) (by have:=H4.out.drew.lt;omega) (by rcases H4.out.drew.apart 0 1 _ _ rfl rfl (by omega) with h|h;cases h;exact Ne.symm h) hfbf (fun _ _ _ _ _ h=>h) ?_
 intro W5 u' t51 t52 t53 t54 t55 t56 t57 t58 t59 t60 hg5 ho5 ha5
 go_wp2
 go_ret
 refine ⟨rfl,?_,fs++[(f,.slice none 0 0)],top++[fs.length],u',_,(H4.out.drew.alloc _).putF hf hg5 ho5 (by simpa using ha5),by simp [addF]⟩
 have hR:∀ (i:Nat) (r:Rw),(rrows B fs top [] (.slice fa fs.length fc) (.slice ta top.length tc) (.slice oa ([]:List Nat).length oc))[i]?=some r→∀ k,r.v.ownBlock=some k→RB B fs top [] (.slice fa fs.length fc) (.slice ta top.length tc) (.slice oa ([]:List Nat).length oc) k:=fun i r hr k hk=>⟨r,List.mem_of_getElem? hr,hk⟩
 have q:=((Chg.refl (RB B fs top [] (.slice fa fs.length fc) (.slice ta top.length tc) (.slice oa ([]:List Nat).length oc)) w).alloc (.cells #[.int .u8 f.k,.string f.s,.int .i64 f.n,.slice none 0 0,.int .i64 f.p] 115)).alloc (.cells #[.int .i64 (fs.length:Int)] 3)
 rw [HWB.out] at q
 exact ((((q.grown HG4.out (fun k e _=>hR 2 _ rfl k e)).setc (fun _=>hR 0 _ rfl B rfl)).drew.alloc _).grown hg5 (fun k e _=>hR 1 _ rfl k e)).setc (fun _=>hR 0 _ rfl B rfl)
end
section
variable {w : World} {base B : Nat} {fs : List FV} {top opn : List Nat} {fv tv ov : Value}
theorem addF_last {fs:List FV} {top opn:List Nat} {b:Nat} {x:FV} {kv kv2:Value} (f:Frm) (hb:opn.getLast?=some b) (hx:fs[b]?=some x) :
  addF f ⟨fs.map Prod.fst,top,opn⟩=⟨(fs.set b (addKid fs.length x.1,kv)++[(f,kv2)]).map Prod.fst,top,opn⟩:=by
 unfold addF
 rw [hb]
 simp only [List.map_append,List.map_cons,List.map_nil,List.length_map,St.mk.injEq,and_true,List.append_cancel_right_eq]
 apply List.ext_getElem?
 intro i
 rw [List.getElem?_modify,List.map_set,List.getElem?_set,List.getElem?_map,List.length_map]
 have hbl:b<fs.length:=(List.getElem?_eq_some_iff.1 hx).1
 by_cases hi:b=i
 ·subst hi
  obtain ⟨_,rfl⟩:=List.getElem?_eq_some_iff.1 hx
  simp [hbl]
 ·simp [hi]
theorem RD.drewN (h:RD w base B fs top opn fv tv ov) (n:Nat):RD (w.drewN n) base B fs top opn fv tv ov:=⟨fun r hr=>(h.own r hr:Own w base r),h.apart⟩
set_option maxHeartbeats 2000000 in
theorem add_kid (h:RD w base B fs top opn fv tv ov) (hl:fs.length<400) (ho:opn.length≤12) {b:Nat} (hb:opn.getLast?=some b) {x:FV} (hx:fs[b]?=some x) (hk:x.1.kids.length≤400) (f:Frm) (hf:f.kids=[]) :
  Calls Tryz.prog 113 #[.pointer (some ⟨B,0,none⟩),.agg #[.int .u8 f.k,.string f.s,.int .i64 f.n,.slice none 0 0,.int .i64 f.p]] w fun e w'=>e=.returned (.int .i64 (fs.length:Int))∧AddPost w base B fs top opn fv tv ov f w':=by
 have HR:=hidI (h.alloc (.cells #[.int .u8 f.k,.string f.s,.int .i64 f.n,.slice none 0 0,.int .i64 f.p] 115))
 have HR0:=hidI h
 have hlt:=h.lt
 have hbl:b<fs.length:=(List.getElem?_eq_some_iff.1 hx).1
 obtain ⟨oa,oc,rfl⟩:=zaE h.oo
 obtain ⟨ff,fc,rfl,hff,hff2⟩:=own_some h.fo (by omega)
 obtain ⟨ka,kc,hkv⟩:=zaE (h.ko hx)
 have hol:0<opn.length:=by cases opn with|nil=>simp at hb|cons _ _=>simp
 have a0:=HR.out.c0
 have a2:=HR.out.c2
 have hne:((fs.length:Int)==400)=false:=by rw [beq_eq_false_iff_ne];omega
 have hne2:¬ fs.length=400:=by omega
 have hne3:((opn.length:Int)==0)=false:=by rw [beq_eq_false_iff_ne];omega
 have hne4:¬ opn.length=0:=by omega
 have e2:(b:Int)<(fs.length:Int):=by omega
 have e3:(0:Int)≤(b:Int):=by omega
 have e5:((b:Int)).toNat=b:=by omega
 have HI:=hidI (fun n=>inner_any (HR.out.drewN n) ho hb)
 clear h
 have hck:(w.alloc (.cells #[.int .u8 f.k,.string f.s,.int .i64 f.n,.slice none 0 0,.int .i64 f.p] 115)).cell? ⟨ff,b*5+3,none⟩=some (.slice ka x.1.kids.length kc):=by
  rw [←hkv]
  exact own_cell HR.out.fo (by rw [zcG fs b 3 x hx (by omega)];rfl)
 go_enter Tryz.func113,Tryz.ntmps113
 go_wp2
 go_quiet ((go_at_call 114;exact Calls.quiet_of ((HI.out _).mono fun e w' h=>⟨h.1,h.2.imp fun _ e=>e.symm⟩)))
 generalize nq=n1
 have HRD:=hidI (HR.out.drewN n1)
 have hszD:((w.alloc (.cells #[.int .u8 f.k,.string f.s,.int .i64 f.n,.slice none 0 0,.int .i64 f.p] 115)).drewN n1).heap.size=w.heap.size+1:=by simp
 have hckD:((w.alloc (.cells #[.int .u8 f.k,.string f.s,.int .i64 f.n,.slice none 0 0,.int .i64 f.p] 115)).drewN n1).cell? ⟨ff,b*5+3,none⟩=some (.slice ka x.1.kids.length kc):=hck
 have hcD:∀ j u,j<5→(#[.int .u8 f.k,.string f.s,.int .i64 f.n,.slice none 0 0,.int .i64 f.p]:Array Value)[j]?=some u→((w.alloc (.cells #[.int .u8 f.k,.string f.s,.int .i64 f.n,.slice none 0 0,.int .i64 f.p] 115)).drewN n1).cell? ⟨w.heap.size,j,none⟩=some u:=by
  intro j u hj hu
  show (w.alloc (.cells #[.int .u8 f.k,.string f.s,.int .i64 f.n,.slice none 0 0,.int .i64 f.p] 115)).cell? ⟨w.heap.size,j,none⟩=some u
  have hm:j=0∨j=1∨j=2∨j=3∨j=4:=by omega
  rcases hm with rfl|rfl|rfl|rfl|rfl<;>simp at hu<;>subst hu<;>go_simp
 have HQ0:=hidI (((Chg.refl (RB B fs top opn (.slice (some ⟨ff,0,none⟩) fs.length fc) tv (.slice oa opn.length oc)) w).alloc (.cells #[.int .u8 f.k,.string f.s,.int .i64 f.n,.slice none 0 0,.int .i64 f.p] 115)))
 have HQ1:Hid (Chg (RB B fs top opn (.slice (some ⟨ff,0,none⟩) fs.length fc) tv (.slice oa opn.length oc)) w ((w.alloc (.cells #[.int .u8 f.k,.string f.s,.int .i64 f.n,.slice none 0 0,.int .i64 f.p] 115)).drewN n1)):=hidI ⟨HQ0.out.os,HQ0.out.tape,HQ0.out.output,HQ0.out.size,HQ0.out.block⟩
 clear a0 a2 hck
 obtain ⟨WD,hWD⟩:∃ WD,(w.alloc (.cells #[.int .u8 f.k,.string f.s,.int .i64 f.n,.slice none 0 0,.int .i64 f.p] 115)).drewN n1=WD:=⟨_,rfl⟩
 rw [hWD] at HRD hszD hckD hcD HQ1 ⊢
 clear hWD HQ0 HI HR
 have HO:=hidI (World.ownsRow.alloc (HRD.out.ko hx) (.cells #[.int .i64 (fs.length:Int)] 3))
 rw [hkv] at HO
 have HV:=hidI (int_at (W:=WD) (b:=w.heap.size+1) (fs.length:Int) hszD.symm)
 go_wp2_with (at_builtin;go_must (refine zbF Tryz.underlying45 Tryz.info3x rfl (by decide) (by decide) rfl _ _ rfl base (.slice ka x.1.kids.length kc) x.1.kids.length (ints x.1.kids) rfl HO.out _ 1 [.int .i64 (fs.length:Int)] rfl HV.out (by simp [Value.oneCell']) (by omega) (by simp;omega) ?_);intro kv' w4 hown4 hgrow4 hat4;refine Hid.out ?_)
 have HRB:=hidI (HRD.out.alloc (.cells #[.int .i64 (fs.length:Int)] 3))
 have HQ2:=hidI (HQ1.out.alloc (.cells #[.int .i64 (fs.length:Int)] 3))
 have hcB:∀ j u,j<5→(#[.int .u8 f.k,.string f.s,.int .i64 f.n,.slice none 0 0,.int .i64 f.p]:Array Value)[j]?=some u→(WD.alloc (.cells #[.int .i64 (fs.length:Int)] 3)).cell? ⟨w.heap.size,j,none⟩=some u:=fun j u hj hu=>cell_al _ (hcD j u hj hu)
 have hckB:=cell_al (.cells #[.int .i64 (fs.length:Int)] 3) hckD
 have hszB:(WD.alloc (.cells #[.int .i64 (fs.length:Int)] 3)).heap.size=w.heap.size+2:=by simp [hszD]
 obtain ⟨WB,hWB⟩:∃ WB,WD.alloc (.cells #[.int .i64 (fs.length:Int)] 3)=WB:=⟨_,rfl⟩
 rw [hWB] at HRB hgrow4 hat4 hcB hszB HQ2 hckB
 have hgr:WB.grownBy w4 x.2.ownBlock:=by rw [hkv];exact hgrow4
 have hneF:Ap (.slice (some ⟨ff,0,none⟩) fs.length fc) x.2:=HRB.out.apart 1 (b+5) _ _ rfl (RD.kat hx) (by omega)
 have hneF':some ff≠x.2.ownBlock:=by rcases hneF with h|h;cases h;exact h
 have h4:RD (w4.setCell ⟨ff,b*5+3,none⟩ kv') base B (fs.set b (addKid fs.length x.1,kv')) top opn (.slice (some ⟨ff,0,none⟩) fs.length fc) tv (.slice oa opn.length oc):=
  HRB.out.putK hx rfl hgr hown4 (by rw [hkv];exact hat4)
 have hB4:w4.cell? ⟨ff,b*5+3,none⟩=some (.slice ka x.1.kids.length kc):=hgr.cell hckB hneF'
 have hf4:w4.frozen? ⟨ff,b*5+3,none⟩=false:=(World.frozen?_of_block (w:=WB) (a:=⟨ff,b*5+3,none⟩) (hgr.block ff (by rw [hszB];omega) hneF')).trans (zcU HRB.out.fo _)
 have hfbk:x.2.ownBlock≠some w.heap.size:=fun e=>by have:=(HR0.out.ko hx).lt _ e;omega
 have hfbf:Value.ownBlock (.slice (some ⟨ff,0,none⟩) fs.length fc)≠some w.heap.size:=fun e=>by have:=(HR0.out.fo).lt _ e;omega
 have hFne:¬ w.heap.size=ff:=by omega
 have hbx:∀ j u,j<5→(#[.int .u8 f.k,.string f.s,.int .i64 f.n,.slice none 0 0,.int .i64 f.p]:Array Value)[j]?=some u→(w4.setCell ⟨ff,b*5+3,none⟩ kv').drew.cell? ⟨w.heap.size,j,none⟩=some u:=fun j u hj hu=>
  (World.cell?_of_block (w:=w4) (Below.heap_setCell w4 ⟨ff,b*5+3,none⟩ _ w.heap.size hFne)).trans (hgr.cell (hcB j u hj hu) (Ne.symm hfbk))
 have hR:∀ (i:Nat) (r:Rw),(rrows B fs top opn (.slice (some ⟨ff,0,none⟩) fs.length fc) tv (.slice oa opn.length oc))[i]?=some r→∀ k,r.v.ownBlock=some k→RB B fs top opn (.slice (some ⟨ff,0,none⟩) fs.length fc) tv (.slice oa opn.length oc) k:=fun i r hr k hk=>⟨r,List.mem_of_getElem? hr,hk⟩
 have HQ3:=hidI ((HQ2.out.grown hgr (fun k e _=>hR (b+5) _ (RD.kat hx) k e)).setc (g:=ff) (j:=b*5+3) (u:=kv') (fun _=>hR 1 _ rfl ff rfl))
 have HRr:=hidI hR
 have H4:=hidI h4
 have hlen:(fs.set b (addKid fs.length x.1,kv')).length=fs.length:=by simp
 obtain ⟨va,vc,rfl⟩:=zaE hown4
 have HBX:=hidI hbx
 refine hidI ?_
 clear hgrow4 hown4 hat4 h4 hWB hneF hgr hR hbx hcB hcD hckB hckD HQ2 HQ1 HRB HO HV
 go_wp2
 refine reg8 (fs:=fs.set b (addKid fs.length x.1,.slice va (x.1.kids.length+1) vc)) (f:=f) (base:=base) (fv:=.slice (some ⟨ff,0,none⟩) fs.length fc) (FB:=w.heap.size) ⟨H4.out.drew.c0,HBX.out 0 _ (by omega) rfl,HBX.out 1 _ (by omega) rfl,HBX.out 2 _ (by omega) rfl,HBX.out 3 _ (by omega) rfl,HBX.out 4 _ (by omega) rfl⟩ (H4.out.drew.free 0) H4.out.drew.fo (by omega) (by have:=H4.out.drew.lt;omega) (by rcases H4.out.drew.apart 0 1 _ _ rfl rfl (by omega) with h|h;cases h;exact Ne.symm h) hfbf (fun _ _ _ _ _ h=>h) ?_
 intro W5 u' t51 t52 t53 t54 t55 t56 t57 t58 t59 t60 hg5 ho5 ha5
 go_wp2
 go_ret
 refine ⟨rfl,?_,fs.set b (addKid fs.length x.1,.slice va (x.1.kids.length+1) vc)++[(f,.slice none 0 0)],top,u',tv,(H4.out.drew.alloc _).putF hf hg5 ho5 (by simpa using ha5),addF_last f hb hx⟩
 exact ((HQ3.out.drew.alloc _).grown hg5 (fun k e _=>HRr.out 1 _ rfl k e)).setc (fun _=>HRr.out 0 _ rfl B rfl)
def AddRes (w:World) (base B:Nat) (fs:List FV) (top opn:List Nat) (fv tv ov:Value) (f:Frm) (e:Ending) (w':World):Prop:=
 if fs.length=400 then e=.panicked (flt f.p 4)∧Below w.heap.size w w' else e=.returned (.int .i64 (fs.length:Int))∧AddPost w base B fs top opn fv tv ov f w'
theorem add_any (h:RD w base B fs top opn fv tv ov) (hG:Good ⟨fs.map Prod.fst,top,opn⟩) (f:Frm) (hf:f.kids=[]) :
  Calls Tryz.prog 113 #[.pointer (some ⟨B,0,none⟩),.agg #[.int .u8 f.k,.string f.s,.int .i64 f.n,.slice none 0 0,.int .i64 f.p]] w fun e w'=>AddRes w base B fs top opn fv tv ov f e w':=by
 have hlen:=hG.len
 have htop:=hG.top_len
 simp only [List.length_map] at hlen htop
 unfold AddRes
 by_cases hl:fs.length=400
 ·refine (add_full h hl f).mono ?_
  intro e w' hh
  rw [if_pos hl]
  exact hh
 ·simp only [if_neg hl]
  cases hb:opn.getLast? with
  | none=>
   obtain rfl:opn=[]:=by simpa using hb
   exact add_top h (by omega) htop f hf
  | some b=>
   have hbm:b∈opn:=List.mem_of_getLast? hb
   have hbl:=hG.open_lt b hbm
   simp only [List.length_map] at hbl
   have hx:fs[b]?=some fs[b]:=List.getElem?_eq_getElem hbl
   have hk:=hG.kid_len fs[b].1 (List.mem_map.2 ⟨fs[b],List.getElem_mem hbl,rfl⟩)
   simp only [List.length_map] at hk
   exact add_kid h (by omega) hG.open_len hb hx (by omega) f hf
end
@[go_sem] def rr5N:Nat→Oper
 | 0=>⟨some 18,.move (.tmp 0),202, "parse.go:50",#[],none⟩
 | 1=>⟨some 19,.move (.tmp 0),202, "parse.go:50",#[],none⟩
 | 2=>⟨some 20,.nilCheck (.tmp 19),0, "parse.go:50",#[⟨1,.data⟩],none⟩
 | 3=>⟨some 21,.fieldAddr 94 (.tmp 20) 2,0, "parse.go:50",#[⟨2,.data⟩],none⟩
 | 4=>⟨some 22,.load 45 (.tmp 21),45, "parse.go:50",#[⟨3,.data⟩],none⟩
 | 5=>⟨some 23,.move (.tmp 0),202, "parse.go:50",#[],none⟩
 | 6=>⟨some 24,.fieldAddr 91 (.tmp 3) 3,0, "parse.go:50",#[],none⟩
 | 7=>⟨some 25,.load 3 (.tmp 24),3, "parse.go:50",#[⟨6,.data⟩],none⟩
 | 8=>⟨some 26,.build 115 #[(0,.const (.int .u8 1)),(4,.tmp 25)],115, "parse.go:50",#[⟨7,.data⟩],none⟩
 | 9=>⟨some 27,.call ⟨.value (.func 113),#[.tmp 23,.tmp 26],#[202,115]⟩,3, "parse.go:50",#[⟨5,.data⟩,⟨8,.data⟩],none⟩
 | 10=>⟨some 28,.buildSlice 45 1 #[(0,.tmp 27)],45, "parse.go:50",#[⟨9,.data⟩],none⟩
 | 11=>⟨some 29,.call ⟨.builtin .append,#[.tmp 22,.tmp 28],#[45,45]⟩,45, "parse.go:50",#[⟨4,.data⟩,⟨10,.data⟩,⟨9,.chain⟩],none⟩
 | 12=>⟨some 30,.nilCheck (.tmp 18),0, "parse.go:50",#[⟨0,.data⟩,⟨0,.phase⟩,⟨1,.phase⟩,⟨2,.phase⟩,⟨3,.phase⟩,⟨4,.phase⟩,⟨5,.phase⟩,⟨6,.phase⟩,⟨7,.phase⟩,⟨8,.phase⟩,⟨9,.phase⟩,⟨10,.phase⟩,⟨11,.phase⟩],none⟩
 | 13=>⟨some 31,.fieldAddr 94 (.tmp 30) 2,0, "parse.go:50",#[⟨12,.data⟩,⟨0,.phase⟩,⟨1,.phase⟩,⟨2,.phase⟩,⟨3,.phase⟩,⟨4,.phase⟩,⟨5,.phase⟩,⟨6,.phase⟩,⟨7,.phase⟩,⟨8,.phase⟩,⟨9,.phase⟩,⟨10,.phase⟩,⟨11,.phase⟩],none⟩
 | _=>⟨none,.store 45 (.tmp 31) (.tmp 29),0, "parse.go:50",#[⟨13,.data⟩,⟨11,.data⟩,⟨11,.chain⟩,⟨0,.phase⟩,⟨1,.phase⟩,⟨2,.phase⟩,⟨3,.phase⟩,⟨4,.phase⟩,⟨5,.phase⟩,⟨6,.phase⟩,⟨7,.phase⟩,⟨8,.phase⟩,⟨9,.phase⟩,⟨10,.phase⟩,⟨11,.phase⟩],none⟩
def rr5:Array Oper:=opsA rr5N 14
theorem rr5_0:rr5[0]?=some (rr5N 0):=zaA rr5N 14 (by decide)
theorem rr5_1:rr5[1]?=some (rr5N 1):=zaA rr5N 14 (by decide)
theorem rr5_2:rr5[2]?=some (rr5N 2):=zaA rr5N 14 (by decide)
theorem rr5_3:rr5[3]?=some (rr5N 3):=zaA rr5N 14 (by decide)
theorem rr5_4:rr5[4]?=some (rr5N 4):=zaA rr5N 14 (by decide)
theorem rr5_5:rr5[5]?=some (rr5N 5):=zaA rr5N 14 (by decide)
theorem rr5_6:rr5[6]?=some (rr5N 6):=zaA rr5N 14 (by decide)
theorem rr5_7:rr5[7]?=some (rr5N 7):=zaA rr5N 14 (by decide)
theorem rr5_8:rr5[8]?=some (rr5N 8):=zaA rr5N 14 (by decide)
theorem rr5_9:rr5[9]?=some (rr5N 9):=zaA rr5N 14 (by decide)
theorem rr5_10:rr5[10]?=some (rr5N 10):=zaA rr5N 14 (by decide)
theorem rr5_11:rr5[11]?=some (rr5N 11):=zaA rr5N 14 (by decide)
theorem rr5_12:rr5[12]?=some (rr5N 12):=zaA rr5N 14 (by decide)
theorem rr5_13:rr5[13]?=some (rr5N 13):=zaA rr5N 14 (by decide)
theorem rr5_14:rr5[14]?=some (rr5N 14):=zaA rr5N 14 (by decide)
set_option maxRecDepth 100000 in
set_option maxHeartbeats 2500000 in
theorem reg5 {x1 x2 x4 x5 x6 x7 x8 x9 x10 x11 x12 x13 x14 x15 x16 x17 x18 x19 x20 x21 x22 x23 x24 x25 x26 x27 x28 x29 x30 x31 x32 x33 x34 x35 x36 x37 x38 x39 x40 x41 x42 x43 x44 x45 x46 x47 x48 x49 x50 x51 x52 x53 x54 x55 x56 x57 x58 x59 x60 x61 x62 x63 x64 x65 x66 x67 x68 x69 x70 x71 x72 x73 x74 x75 x76:Value} {Q:Exit→Act→World→Prop} {V0:World} {B TB base:Nat} {fs:List FV} {top opn:List Nat} {fv tv ov:Value} {p:Int}
  (hRD:RD V0.drew base B fs top opn fv tv ov) (hTB:V0.drew.cell? ⟨TB,3,none⟩=some (.int .i64 p)) (hTR:¬ RB B fs top opn fv tv ov TB) (ho:opn.length≤12)
  (hC:Calls Tryz.prog 113 #[.pointer (some ⟨B,0,none⟩),.agg #[.int .u8 1,.string ⟨#[]⟩,.int .i64 0,.slice none 0 0,.int .i64 p]] V0.drew fun e w'=>AddRes V0.drew base B fs top opn fv tv ov ⟨1,⟨#[]⟩,0,[],p⟩ e w')
  (hpan:∀ c (a:Act) w (dd:Tmp) vv,Q (.panic c) (a.put (some dd) vv) w→Q (.panic c) a w)
  (hQp:∀ (a:Act) (W:World),fs.length=400→Below V0.drew.heap.size V0.drew W→a.defers=[]→Q (.panic (flt p 4)) a W)
  (hQ:∀ (W5:World) (fs':List FV) (top':List Nat) (fv' tv' ov':Value) (t18 t19 t20 t21 t22 t23 t24 t25 t26 t27 t28 t29 t30 t31:Value),¬ fs.length=400→Below base V0.drew W5→RD W5 base B fs' top' (opn++[fs.length]) fv' tv' ov'→addF ⟨1,⟨#[]⟩,0,[],p⟩ ⟨fs.map Prod.fst,top,opn⟩=⟨fs'.map Prod.fst,top',opn⟩→Q .normal { tmps:=#[.pointer (some ⟨B,0,none⟩),x1,x2,.pointer (some ⟨TB,0,none⟩),x4,x5,x6,x7,x8,x9,x10,x11,x12,x13,x14,x15,x16,x17,t18,t19,t20,t21,t22,t23,t24,t25,t26,t27,t28,t29,t30,t31,x32,x33,x34,x35,x36,x37,x38,x39,x40,x41,x42,x43,x44,x45,x46,x47,x48,x49,x50,x51,x52,x53,x54,x55,x56,x57,x58,x59,x60,x61,x62,x63,x64,x65,x66,x67,x68,x69,x70,x71,x72,x73,x74,x75,x76],defers:=[] } W5) :
  (Code.region 5 rr5 true).wp Tryz.prog Q { tmps:=#[.pointer (some ⟨B,0,none⟩),x1,x2,.pointer (some ⟨TB,0,none⟩),x4,x5,x6,x7,x8,x9,x10,x11,x12,x13,x14,x15,x16,x17,x18,x19,x20,x21,x22,x23,x24,x25,x26,x27,x28,x29,x30,x31,x32,x33,x34,x35,x36,x37,x38,x39,x40,x41,x42,x43,x44,x45,x46,x47,x48,x49,x50,x51,x52,x53,x54,x55,x56,x57,x58,x59,x60,x61,x62,x63,x64,x65,x66,x67,x68,x69,x70,x71,x72,x73,x74,x75,x76],defers:=[] } V0:=by
 refine zbE (fun y=>y.cell? ⟨B,2,none⟩=some ov∧y.cell? ⟨TB,3,none⟩=some (.int .i64 p)) 14 Tryz.mixed ?_
 obtain ⟨V,hV⟩:∃ V,V0.drew=V:=⟨_,rfl⟩
 rw [hV] at hRD hTB hC hQp hQ ⊢
 clear hV
 have HQ:=hidI hQ
 have HQp:=hidI hQp
 have HPan:=hidI hpan
 have HC:=hidI hC
 have HR:=hidI hRD
 have hlt:=hRD.lt
 have hu1:∃ ua ul uc,ov=.slice ua ul uc:=by
  obtain ⟨a,c,e⟩:=zaE hRD.oo
  exact ⟨a,_,c,e⟩
 obtain ⟨ua,ul,uc,rfl⟩:=hu1
 have hS0:V.cell? ⟨B,2,none⟩=some (.slice ua ul uc)∧V.cell? ⟨TB,3,none⟩=some (.int .i64 p):=⟨hRD.c2,hTB⟩
 have HTR:=hidI hTR
 clear hQ hpan hQp hC hRD hTR hTB
 refine zaF [14] (i:=0) (v:=(.pointer (some ⟨B,0,none⟩))) rr5_0 HPan.out hS0 (fun y hy => ?_) ?_
 ·obtain ⟨hy0,hy1⟩:=hy
  go_simp
 refine zaF [14] (i:=1) (v:=(.pointer (some ⟨B,0,none⟩))) rr5_1 HPan.out hS0 (fun y hy => ?_) ?_
 ·obtain ⟨hy0,hy1⟩:=hy
  go_simp
 refine zaF [14] (i:=2) (v:=(.pointer (some ⟨B,0,none⟩))) rr5_2 HPan.out hS0 (fun y hy => ?_) ?_
 ·obtain ⟨hy0,hy1⟩:=hy
  go_simp
 refine zaF [14] (i:=3) (v:=(.pointer (some ⟨B,2,none⟩))) rr5_3 HPan.out hS0 (fun y hy => ?_) ?_
 ·obtain ⟨hy0,hy1⟩:=hy
  go_simp
 refine zaF [14] (i:=4) (v:=(.slice ua ul uc)) rr5_4 HPan.out hS0 (fun y hy => ?_) ?_
 ·obtain ⟨hy0,hy1⟩:=hy
  go_simp
 refine zaF [14] (i:=5) (v:=(.pointer (some ⟨B,0,none⟩))) rr5_5 HPan.out hS0 (fun y hy => ?_) ?_
 ·obtain ⟨hy0,hy1⟩:=hy
  go_simp
 refine zaF [14] (i:=6) (v:=(.pointer (some ⟨TB,3,none⟩))) rr5_6 HPan.out hS0 (fun y hy => ?_) ?_
 ·obtain ⟨hy0,hy1⟩:=hy
  go_simp
 refine zaF [14] (i:=7) (v:=(.int .i64 p)) rr5_7 HPan.out hS0 (fun y hy => ?_) ?_
 ·obtain ⟨hy0,hy1⟩:=hy
  go_simp
 refine zaF [14] (i:=8) (v:=(.agg #[.int .u8 1,.string ⟨#[]⟩,.int .i64 0,.slice none 0 0,.int .i64 p])) rr5_8 HPan.out hS0 (fun y hy => ?_) ?_
 ·obtain ⟨hy0,hy1⟩:=hy
  go_simp
 refine zbB (rs:=[9]) (by kernel_rfl) (by simp) fun j9 hj9 => ?_
 obtain rfl:j9=9:=by simpa using hj9
 refine zaN rr5_9 rfl fun K1 hK1 => ?_
 unfold Oper.wp
 go_simp
 refine Calls.mono HC.out ?_
 intro e W1 hres
 unfold AddRes at hres
 by_cases hfull:fs.length=400
 ·rw [if_pos hfull] at hres
  obtain ⟨rfl,hbp⟩:=hres
  go_simp
  exact HQp.out _ _ hfull hbp rfl
 rw [if_neg hfull] at hres
 obtain ⟨rfl,hchg,fs',top',fv',tv',hRD1,hadd⟩:=hres
 go_simp
 have HR1:=hidI hRD1
 have HC1:=hidI hchg
 have HAdd:=hidI hadd
 have hlt1:=hRD1.lt
 have hz1:=hchg.size
 have hS1:W1.cell? ⟨B,2,none⟩=some (.slice ua ul uc)∧W1.cell? ⟨TB,3,none⟩=some (.int .i64 p):=⟨hRD1.c2,hchg.cell hS0.2 HTR.out⟩
 clear hRD1 hchg hadd hS0
 refine hK1 _ _ ⟨fun _=>hS1,?_⟩
 clear hK1 K1
 refine zbB (rs:=[10]) (by kernel_rfl) (by simp) fun j10 hj10 => ?_
 obtain rfl:j10=10:=by simpa using hj10
 refine zaN rr5_10 rfl fun K1 hK1 => ?_
 unfold Oper.wp
 go_simp
 have hSA:(W1.alloc (.cells #[.int .i64 (fs.length:Int)] 3)).cell? ⟨B,2,none⟩=some (.slice ua ul uc)∧(W1.alloc (.cells #[.int .i64 (fs.length:Int)] 3)).cell? ⟨TB,3,none⟩=some (.int .i64 p):=⟨cell_al _ hS1.1,cell_al _ hS1.2⟩
 refine hK1 _ _ ⟨fun _=>hSA,?_⟩
 clear hK1 K1
 have HRA:=hidI (HR1.out.alloc (.cells #[.int .i64 (fs.length:Int)] 3))
 have HV:=hidI (int_seen (W:=W1) (fs.length:Int))
 have HCA:=hidI (HC1.out.alloc (.cells #[.int .i64 (fs.length:Int)] 3))
 have hszA:(W1.alloc (.cells #[.int .i64 (fs.length:Int)] 3)).heap.size=W1.heap.size+1:=by simp
 obtain ⟨VA,hVA⟩:∃ VA,W1.alloc (.cells #[.int .i64 (fs.length:Int)] 3)=VA:=⟨_,rfl⟩
 rw [hVA] at HRA HV hSA hszA HCA ⊢
 clear hVA
 refine zbB (rs:=[11]) (by kernel_rfl) (by simp) fun j11 hj11 => ?_
 obtain rfl:j11=11:=by simpa using hj11
 refine zaN rr5_11 rfl fun K1 hK1 => ?_
 refine zbK Tryz.underlying45 Tryz.info3x rfl (by decide) (by decide) _ _ rfl base (.slice ua ul uc) opn.length (ints opn) rfl HRA.out.oo _ 1 [.int .i64 (fs.length:Int)] rfl HV.out (by simp [Value.oneCell']) (by omega) (by omega) ?_
 intro u' W5 hown5 hgrow5 hat5
 have hne:Ap (bx B) (.slice ua ul uc):=HRA.out.apart 0 3 _ _ rfl rfl (by omega)
 have hne':some B≠(Value.slice ua ul uc).ownBlock:=by rcases hne with h|h;cases h;exact h
 have hneT:some TB≠(Value.slice ua ul uc).ownBlock:=fun e=>HTR.out ⟨⟨.slice ua ul uc,3,1,opn.length,ints opn⟩,List.mem_of_getElem? (i:=3) rfl,e.symm⟩
 have hS5:W5.cell? ⟨B,2,none⟩=some (.slice ua ul uc)∧W5.cell? ⟨TB,3,none⟩=some (.int .i64 p):=⟨hgrow5.cell hSA.1 hne',hgrow5.cell hSA.2 hneT⟩
 have hf5:W5.frozen? ⟨B,2,none⟩=false:=(World.frozen?_of_block (w:=VA) (a:=⟨B,2,none⟩) (hgrow5.block B (by omega) hne')).trans (HRA.out.free 2)
 have h5:RD (W5.setCell ⟨B,2,none⟩ u') base B fs' top' (opn++[fs.length]) fv' tv' u':=HRA.out.putO hgrow5 (by rw [ints_append,List.length_append];exact hown5) (.inr hat5)
 have hoB:base≤B:=by omega
 have hb5:Below base V (W5.setCell ⟨B,2,none⟩ u'):=by
  have q:=(HCA.out.below (n:=base) (by have:=HR.out.lt;omega) (fun k hk hr=>by have:=HR.out.block hr;omega))
  refine Below.setCell (Below.grown q hgrow5 (by omega) (fun k e=>((HRA.out.oo).lt k e).1)) hoB _
 have hc5:=hS5.1
 obtain ⟨a6,l6,c6,hv6⟩:∃ a6 l6 c6,u'=.slice a6 l6 c6:=by
  obtain ⟨a,c,e⟩:=zaE hown5
  exact ⟨a,_,c,e⟩
 subst hv6
 have HB5:=hidI hb5
 have H5:=hidI h5
 refine hK1 _ _ ⟨fun _=>hS5,?_⟩
 clear hK1 K1 hown5 hgrow5 hat5 hSA hb5 h5 hne hne' hneT
 refine zbB (rs:=[12]) (by kernel_rfl) (by simp) fun j12 hj12 => ?_
 obtain rfl:j12=12:=by simpa using hj12
 refine zaN rr5_12 rfl fun K1 hK1 => ?_
 unfold Oper.wp
 go_simp
 refine hK1 _ _ ⟨fun _=>hS5,?_⟩
 clear hK1 K1
 refine zbB (rs:=[13]) (by kernel_rfl) (by simp) fun j13 hj13 => ?_
 obtain rfl:j13=13:=by simpa using hj13
 refine zaN rr5_13 rfl fun K1 hK1 => ?_
 unfold Oper.wp
 go_simp
 refine hK1 _ _ ⟨fun _=>hS5,?_⟩
 clear hK1 K1
 refine zbN (by kernel_rfl) (by kernel_rfl) ?_ _
 refine zaN rr5_14 rfl fun K1 hK1 => ?_
 unfold Oper.wp
 go_simp
 refine hK1 _ _ ?_
 exact HQ.out _ _ _ _ _ _ _ _ _ _ _ _ _ _ _ _ _ _ _ _ hfull HB5.out H5.out HAdd.out
def bytesOf (t:Txt):ByteArray:=⟨t.toArray⟩
theorem bytes_back (s:ByteArray):bytesOf s.data.toList=s:=by simp [bytesOf]
noncomputable def kindP (l:Txt):Int:=if l=[40] then 1 else if l=[41] then 2 else kindW (bytesOf l)
noncomputable def numP (l:Txt):Int:=if kindP l=4 then numV (bytesOf l) else 0
noncomputable def tok (q:Piece):Tok:=⟨kindP q.2,bytesOf q.2,numP q.2,(q.1:Int)⟩
noncomputable def bad:Nat→List Piece→Option (Int × Int)
 | _,[]=>none
 | c,q::r=>if kindP q.2=0 then some ((q.1:Int),8) else if c=600 then some ((q.1:Int),4) else bad (c+1) r
noncomputable def lexRes (s:ByteArray):List Tok × Int × Int:=
 if 3000<s.size then ([],0,4) else match bad 0 (pieces s.data.toList) with
  | some pe=>([],pe)
  | none=>((pieces s.data.toList).map tok,0,0)
theorem run_space {t:Txt} {p:Nat} {c:UInt8} {r:Txt} (h:spaced c=true):run t p none false (c::r)=run t (p+1) none false r:=by
 have h59:c≠59:=fun e=>by subst e;revert h;decide
 have hb:bracket c=false:=by
  unfold spaced at h
  simp only [Bool.or_eq_true,beq_iff_eq] at h
  rcases h with (rfl|rfl)|rfl<;>decide
 simp [run,word,h59,hb,h]
theorem run_bracket {t:Txt} {p:Nat} {c:UInt8} {r:Txt} (h:bracket c=true):run t p none false (c::r)=(p,[c])::run t (p+1) none false r:=by
 have h59:c≠59:=fun e=>by subst e;revert h;decide
 simp [run,word,h59,h]
def spI (c:Int):Bool:=c==32 || c==9 || c==10
theorem u8_eq (c:UInt8) (n:Nat) (hn:n<256):((c.toNat:Int)==(n:Int))=(c==UInt8.ofNat n):=by
 rw [Bool.eq_iff_iff]
 simp only [beq_iff_eq]
 constructor
 ·intro h
  have h':c.toNat=n:=by omega
  apply UInt8.toNat_inj.1
  rw [h',UInt8.toNat_ofNat']
  omega
 ·intro h
  rw [h,UInt8.toNat_ofNat']
  omega
theorem spI_eq (c:UInt8):spI (c.toNat:Int)=spaced c:=by
 unfold spI spaced
 have h1:((c.toNat:Int)==32)=(c==32):=u8_eq c 32 (by decide)
 have h2:((c.toNat:Int)==9)=(c==9):=u8_eq c 9 (by decide)
 have h3:((c.toNat:Int)==10)=(c==10):=u8_eq c 10 (by decide)
 rw [h1,h2,h3]
theorem slice_at (s:ByteArray) (i m:Nat) (h:i+m≤s.size) (w:World):(Instr.slice 9 (.string s) (some (.int .i64 (i:Int))) (some (.int .i64 ((i:Int)+(m:Int)))) none).run Tryz.prog w=.ok (.string (bytesOf ((s.data.toList.drop i).take m))) w:=by
 rw [run_slice_string w 9 s .i64 .i64 _ _ Tryz.underlying9 (by omega) (by omega) (by omega)]
 congr 2
 apply ByteArray.ext
 simp only [bytesOf,ByteArray.data_extract]
 apply Array.toList_inj.1
 rw [Array.toList_extract,List.extract_eq_take_drop]
 rw [show ((i:Int)+(m:Int)).toNat-((i:Int)).toNat=m by omega,Int.toNat_natCast]
theorem tok_cells0 (wr:World) (i:Int):(wr.alloc (.cells #[.int .u8 0,.string ⟨#[]⟩,.int .i64 0,.int .i64 i] 91)).cell? ⟨wr.heap.size,0,none⟩=some (.int .u8 0)∧(wr.alloc (.cells #[.int .u8 0,.string ⟨#[]⟩,.int .i64 0,.int .i64 i] 91)).cell? ⟨wr.heap.size,1,none⟩=some (.string ⟨#[]⟩)∧(wr.alloc (.cells #[.int .u8 0,.string ⟨#[]⟩,.int .i64 0,.int .i64 i] 91)).cell? ⟨wr.heap.size,2,none⟩=some (.int .i64 0)∧(wr.alloc (.cells #[.int .u8 0,.string ⟨#[]⟩,.int .i64 0,.int .i64 i] 91)).cell? ⟨wr.heap.size,3,none⟩=some (.int .i64 i):=by
 refine ⟨?_,?_,?_,?_⟩<;>go_simp
theorem tok_free (wr:World) (i:Int) (k:Nat):(wr.alloc (.cells #[.int .u8 0,.string ⟨#[]⟩,.int .i64 0,.int .i64 i] 91)).frozen? ⟨wr.heap.size,k,none⟩=false:=by go_simp
theorem bytes_size (t:Txt):(bytesOf t).size=t.length:=by
 unfold bytesOf ByteArray.size
 exact List.size_toArray
def RTPost (s:ByteArray) (w:World) (e:Value) (w':World):Prop:=
 ∃ v,e=.tuple #[v,.int .i64 (lexRes s).2.1,.int .i64 (lexRes s).2.2]∧SeesC w' v (lexRes s).1.length 4 (flatT (lexRes s).1)∧Below w.heap.size w w'
open Go.RowKit Go.Shelf
def After {α:Type} (B:Nat) (T:Nat→Obj→Prop) (I Ix:List α→World→Prop) (xs:List α) (W:World):Exit→Act→World→Prop
 | .normal,_,W'=>KeepsFrom B W W'∧Keeps T W W'∧I xs W'
 | .ret,_,W'=>KeepsFrom B W W'∧Ix xs W'
 | _,_,_=>False
def Books (W:World) (D:Nat) (r:Loop):Prop:=W.heap[D+1]?=some (.loop r)∧W.heap[D]?=some (.deferred (some []))
theorem Books.lt {W:World} {D:Nat} {r:Loop} (h:Books W D r):D+1<W.heap.size:=(Array.getElem?_eq_some_iff.1 h.1).1
theorem Books.put {W:World} {D:Nat} {r:Loop} (r':Loop) (h:Books W D r):Books (W.putObj (D+1) (.loop r')) D r':=
 ⟨World.putObj_heap_same h.lt,(World.putObj_heap_other (by omega)).trans h.2⟩
theorem Books.keeps {W W':World} {D:Nat} {r:Loop} (h:Books W D r) (k:KeepsFrom D W W'):Books W' D r:=
 ⟨k.same _ _ (by omega) h.1 rfl,k.same _ _ (Nat.le_refl _) h.2 rfl⟩
theorem Books.grown {W W':World} {D B:Nat} {r:Loop} {row:Option Nat} (h:Books W D r) (hg:W.grownBy W' row) (hB:D+2≤B) (hr:∀ k,row=some k→B≤k):Books W' D r:=by
 have hl:=h.lt
 refine ⟨(hg.block (D+1) hl fun e => ?_).trans h.1,(hg.block D (by omega) fun e => ?_).trans h.2⟩
 ·have:=hr _ e.symm;omega
 ·have:=hr _ e.symm;omega
theorem keeps_put {T:Nat→Obj→Prop} {D:Nat} {W:World} {r:Loop} (hT:∀ k r,D≤k→¬ T k (.loop r)) (h:Books W D r) (o:Obj):Keeps T W (W.putObj (D+1) o):=
 Keeps.grown (grownBy_putObj' W (D+1) o) fun k o' e hk=>by cases e;rw [h.1] at hk;cases hk;exact hT _ _ (by omega)
theorem from_put (D:Nat) (W:World) (o:Obj):KeepsFrom (D+2) W (W.putObj (D+1) o):=KeepsFrom.of_grownBy (grownBy_putObj' W (D+1) o) fun j e=>by cases e;omega
theorem zdF {B B':Nat} {W W':World} (h:KeepsFrom B W W') (hB:B≤B'):KeepsFrom B' W W':=⟨h.size,fun k o hk=>h.same k o (by omega)⟩
set_option maxHeartbeats 1000000 in
theorem range_law {α:Type} {g:Operand} {ps:Array Tmp} {assign body:Code} {Q:Exit→Act→World→Prop} {a:Act} {w:World} {gf:Nat} {lb:Array Value} (hg:a.eval g=.func (.func gf) #[] lb)
  (eg:∀ args w,(callFunc gf args).run Tryz.prog w=.ok (.enter gf args) w) {encs:α→Array Value} {T:Nat→Obj→Prop} {R:List α→α→Prop} {S:List α→Prop} (hT:∀ k r,w.heap.size≤k→¬ T k (.loop r)) (hseq:Seq gf lb encs T S R w) (hps:∀ x,(encs x).size=ps.size)
  (I Ix:List α→World→Prop) (hI:OwnFrom w.heap.size I) (hIx:OwnFrom w.heap.size Ix) (h0:I [] w) (Ax:List α × α × Act→World→Prop) (hAx:OwnFrom w.heap.size Ax)
  (hassign:∀ (l:Nat) (pre:List α) (x:α) (W:World) (K:Act→World→Prop),I pre W→(∀ a' W',KeepsFrom w.heap.size W W'→Keeps T W W'→Ax (pre,x,a') W'→K a' W')→
   assign.wpIn (WR l) 0 Tryz.prog (Exit.then K (fun _ _ _=>False)) { tmps:=(ps.zip (encs x)).foldl (fun t (p,v)=>t.setIfInBounds p v) a.tmps,defers:=[] } W)
  (hbody:∀ (l:Nat) (pre:List α) (x:α) (a':Act) (W:World),R pre x→Ax (pre,x,a') W→body.wpIn (WR l) 0 Tryz.prog (After w.heap.size T I Ix (pre++[x]) W) a' W)
  (hdone:∀ (D:Nat) (xs:List α) (W:World),w.heap.size≤D→S xs→I xs W→W.heap[D]?=some (.deferred (some []))→Q .normal { a with defers:={ target:=.collected D,args:=#[] }::a.defers } W)
  (hstop:∀ (D:Nat) (pre:List α) (W:World),w.heap.size≤D→Ix pre W→W.heap[D]?=some (.deferred (some []))→Code.ret.wpIn Fence.wide 0 Tryz.prog Q { a with defers:={ target:=.collected D,args:=#[] }::a.defers } W) :
  (Code.rangeFunc g ps assign body).wpIn Fence.wide 0 Tryz.prog Q a w:=by
 refine wpIn_rangeFunc fun fn _ => ?_
 obtain ⟨rec,hrec⟩:∃ rec:LoopState→Option Code→Loop,rec=fun st pe=>{ state:=st,pending:=pe,fn:=fn,tmps:=a.tmps,params:=ps,assign:=assign,body:=body,defers:=w.heap.size }:=⟨_,rfl⟩
 obtain ⟨W1,hW1⟩:∃ W1,(w.alloc (.deferred (some []))).alloc (.loop (rec .ready none))=W1:=⟨_,rfl⟩
 have hs1:W1.heap.size=w.heap.size+2:=by rw [←hW1];simp
 have hb1:Books W1 w.heap.size (rec .ready none):=by
  rw [←hW1]
  refine ⟨?_,(Below.heap_alloc _ _ _ (by simp)).trans (World.alloc_heap_new w _)⟩
  have:=World.alloc_heap_new (w.alloc (.deferred (some []))) (.loop (rec .ready none))
  rwa [World.size_alloc] at this
 have hi1:I [] W1:=by rw [←hW1];exact hI.alloc _ (hI.alloc _ h0)
 have hw1:Below w.heap.size w W1:=by rw [←hW1];exact ((Below.refl _ w).alloc (Nat.le_refl _) _).alloc (by simp) _
 refine ⟨w.heap.size+1,[{ target:=.collected w.heap.size,args:=#[] }],W1,{ target:=.fn (.func gf) lb,args:=#[.func (.yield (w.heap.size+1)) #[] #[]] },W1,gf,
  #[.func (.yield (w.heap.size+1)) #[] #[]]++lb,W1,?_,?_,fun _ _=>trivial,?_,fun hd=>(by cases hd),?_⟩
 ·rw [←hW1,hrec];exact run_enterLoop_outer _ _ _ _ _
 ·simp only [resolve,hg]
  simp [go_sem]
 ·simp [invoke,go_sem,eg]
 refine (hseq (w.heap.size+1) (fun pre W=>I pre W∧Books W w.heap.size (rec .ready none)) (fun pre W=>Ix pre W∧Books W w.heap.size (rec .done (some .ret))) W1 hw1 ?own1 ?own2 ?round ⟨hi1,hb1⟩).mono ?_
 case own1=>
  rintro s X Y row ⟨hs,hb⟩ hg' hr
  refine ⟨hI s X Y row hs hg' fun r e=>⟨by have:=(hr r e).1;omega,(hr r e).2⟩,hb.grown (B:=W1.heap.size) hg' (by omega) fun k e=>(hr k e).1⟩
 case own2=>
  rintro s X Y row ⟨hs,hb⟩ hg' hr
  refine ⟨hIx s X Y row hs hg' fun r e=>⟨by have:=(hr r e).1;omega,(hr r e).2⟩,hb.grown (B:=W1.heap.size) hg' (by omega) fun k e=>(hr k e).1⟩
 case round=>
  rintro pre x W ⟨hi,hb⟩ hlen
  have hy:=run_yield (P:=Tryz.prog) (args:=encs x) hb.1 (by rw [hrec];exact hps x)
  rw [hrec] at hy
  refine ⟨fn,_,assign,body,hy,roundIn_of_wpIn trivial (hassign _ pre x W _ hi ?_)⟩
  intro a' W' hk1 hbl1 hax
  have hb':=hb.keeps hk1
  refine ⟨_,run_beginRound hb'.1 (by rw [hrec]),?_⟩
  obtain ⟨r2,hr2⟩:∃ r2,r2=({ rec .ready none with state:=.busy }:Loop):=⟨_,rfl⟩
  rw [←hr2]
  have hb2:Books _ _ r2:=hb'.put r2
  have hax2:=hAx.putObj (.loop r2) hax (by omega) hb'.1 rfl
  have hbl2:Keeps T W (W'.putObj (w.heap.size+1) (.loop r2)):=hbl1.trans (keeps_put hT hb' _)
  have hkf2:KeepsFrom W1.heap.size W (W'.putObj (w.heap.size+1) (.loop r2)):=by rw [hs1];exact (zdF hk1 (by omega)).trans (from_put _ _ _)
  refine wpIn_mono (hbody _ pre x a' _ hlen hax2) ?_
  intro e a3 W3 hp
  cases e with
  | normal=>
   obtain ⟨hk3,hbl3,hi3⟩:=hp
   have hb3:=hb2.keeps hk3
   refine ⟨_,_,run_endRound none hb3.1,hkf2.trans ((zdF hk3 (by omega)).trans (by rw [hs1];exact from_put _ _ _)),.inl ⟨rfl,⟨hI.putObj _ hi3 (by omega) hb3.1 rfl,?_⟩,hbl2.trans (hbl3.trans (keeps_put hT hb3 _))⟩⟩
   have:=hb3.put { r2 with state:=.ready,pending:=none }
   rw [hr2,hrec] at this ⊢
   exact this
  | ret=>
   obtain ⟨hk3,hi3⟩:=hp
   have hb3:=hb2.keeps hk3
   refine ⟨_,_,run_endRound (some .ret) hb3.1,hkf2.trans ((zdF hk3 (by omega)).trans (by rw [hs1];exact from_put _ _ _)),.inr ⟨rfl,hIx.putObj _ hi3 (by omega) hb3.1 rfl,?_⟩⟩
   have:=hb3.put { r2 with state:=.done,pending:=some .ret }
   rw [hr2,hrec] at this ⊢
   exact this
  | _=>exact hp.elim
 rintro e W2 ⟨⟨v,rfl⟩,⟨xs,hS,hi,hb⟩|⟨pre,hi,hb⟩⟩
 ·refine ⟨_,_,run_endLoop hb.1 (by rw [hrec];simp),?_⟩
  rw [hrec]
  exact hdone _ xs _ (Nat.le_refl _) hS (hI.putObj _ hi (by omega) hb.1 rfl) (hb.put _).2
 ·refine ⟨_,_,run_endLoop hb.1 (by rw [hrec];simp),?_⟩
  rw [hrec]
  exact hstop _ pre _ (Nat.le_refl _) (hIx.putObj _ hi (by omega) hb.1 rfl) (hb.put _).2
end Go.Proofs.YtmekkhfohmfjkaaGreatDoor
