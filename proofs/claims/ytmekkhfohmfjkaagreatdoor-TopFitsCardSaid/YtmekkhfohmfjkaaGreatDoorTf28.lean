/-
  Part 28 of the proof: TyH, MapK, DeclK.
-/
import Derived.Test.YtmekkhfohmfjkaaGreatDoorTf27
import Derived.Test.YtmekkhfohmfjkaaGreatDoorTf02
import Derived.Test.YtmekkhfohmfjkaaGreatDoorTf16
import Derived.Test.YtmekkhfohmfjkaaGreatDoorTf06
namespace Go.Proofs.YtmekkhfohmfjkaaGreatDoor
open Go.RowKit Go.Deep Go.MapKept
structure CB (w0:World) (c:Nat) (i:Int) (p:PV) (w:World):Prop where
 b:Below w0.heap.size w0 w
 hc:w0.heap.size≤c
 row:w.ownsRow w0.heap.size 72 5 (bx c) 1 [p.dv,p.xv,p.sv,p.mv,.int .i64 i]
theorem CB.ty {w0 w:World} {c:Nat} {i:Int} {p:PV} (h:CB w0 c i p w) (s:SeesPv w0 p):TyS c i p w:=
 ⟨zaB h.row rfl,zaB h.row rfl,zaB h.row rfl,zaB h.row rfl,zaB h.row rfl,s.below h.b⟩
theorem CB.on {w0 w w':World} {c:Nat} {i:Int} {p:PV} (h:CB w0 c i p w) (hb:Below w.heap.size w w'):CB w0 c i p w':=
 ⟨h.b.trans (hb.mono h.b.size),h.hc,zcF h.row hb (Nat.le_refl _)⟩
theorem CB.set {w0 w:World} {c:Nat} {i:Int} {p:PV} (h:CB w0 c i p w) (k:Int):CB w0 c k p (w.setCell ⟨c,4,none⟩ (.int .i64 k)):=
 ⟨h.b.setCell h.hc _,h.hc,own_setG h.row (.int .i64 k)⟩
theorem CB.lt {w0 w:World} {c:Nat} {i:Int} {p:PV} (h:CB w0 c i p w):c<w.heap.size:=World.block_lt_of_cell? w _ (zaB h.row (j:=0) rfl)
structure Chg1 (c:Nat) (w w':World):Prop where
 size:w.heap.size≤w'.heap.size
 block:∀ k,k<w.heap.size→k≠c→w'.heap[k]?=w.heap[k]?
theorem Chg1.refl (c:Nat) (w:World):Chg1 c w w:=⟨Nat.le_refl _,fun _ _ _=>rfl⟩
theorem Chg1.trans {c:Nat} {a b d:World} (h:Chg1 c a b) (k:Chg1 c b d):Chg1 c a d:=⟨Nat.le_trans h.size k.size,fun j hj hc=>(k.block j (Nat.lt_of_lt_of_le hj h.size) hc).trans (h.block j hj hc)⟩
theorem Chg1.of {c:Nat} {w w':World} (h:Below w.heap.size w w'):Chg1 c w w':=⟨h.size,fun k hk _=>h.block k hk⟩
theorem Chg1.set (c j:Nat) (w:World) (u:Value):Chg1 c w (w.setCell ⟨c,j,none⟩ u):=⟨(Below.setCell (Below.refl 0 w) (Nat.zero_le _) u).size,fun k hl hk=>(zcC w c j u).block k hl (by rintro e;cases e;exact hk rfl)⟩
def AllP:Option Nat→Ending→Prop
 | none,e=>e=.returned (.tuple #[])
 | some j,e=>e=.panicked (misF (j:Int))
theorem cst_all {c:Nat} {i:Int} {p:PV} (hwf:WfP p.prg) (ho:PrgOk p.prg) (hd:p.ds.length≤24) (x:SV) (hx:x∈p.ss) (aa ta ea:Option Addr) (ac tc ec:Nat) (ha:x.av=.slice aa x.s.acts.length ac) (w:World) (h:TyS c i p w) :
  Calls Tryz.prog 54 #[.pointer (some ⟨c,0,none⟩),.agg #[.int .u8 (x.s.k:Int),.string x.s.name,.int .u8 (x.s.op:Int),.int .i64 x.s.e,.int .i64 x.s.cond,.slice aa x.s.acts.length ac,.slice ta x.s.thn.length tc,.slice ea x.s.els.length ec]] w fun e w'=>MPost i (stmtO p.prg x.s) e∧Below w.heap.size w w':=by
 have hxs:x.s∈p.prg.stmts:=List.mem_map.2 ⟨x,hx,rfl⟩
 have hw:=hwf.s x.s hxs
 have hl:=(ho.s x.s hxs).2.2.2.1
 have hv:=h.s.sa x hx
 rw [ha] at hv
 obtain ⟨⟨sk,snm,sop,se,scd,sacts,sthn,sels⟩,av,tv,ev⟩:=x
 simp only at hw hl hv ⊢
 have hm:sk=1∨sk=2∨sk=3∨sk=4∨sk=5∨sk=6∨sk=7∨(sk≠1∧sk≠2∧sk≠3∧sk≠4∧sk≠5∧sk≠6∧sk≠7):=by omega
 rcases hm with rfl|rfl|rfl|rfl|rfl|rfl|rfl|hsk
 ·exact cst_1 hwf.x hd hw w h
 ·exact cst_2 hwf.x hd hw w h
 ·exact cst_3 hwf.x hd hw w h hv hl
 ·exact cst_4 hwf.x hd hw w h
 ·exact cst_5 hwf.x hd hw w h
 ·exact cst_6 hwf.x hd hw w h
 ·exact cst_7 hwf.x hd hw w h
 ·exact cst_x hsk w h
set_option maxHeartbeats 4000000 in
theorem call_all {w0:World} {c:Nat} {p:PV} (hs:SeesPv w0 p) (hwf:WfP p.prg) (ho:PrgOk p.prg) (hd:p.ds.length≤24) (i0:Int) (w:World) (h:CB w0 c i0 p w) :
  Calls Tryz.prog 33 #[.pointer (some ⟨c,0,none⟩)] w fun e w'=>AllP (firstO p.prg 0 p.prg.stmts) e∧Below w0.heap.size w0 w'∧Chg1 c w w':=by
 have CST:=hidI (fun (i:Int) (x:SV) (hx:x∈p.ss) (aa ta ea:Option Addr) (ac tc ec:Nat) (ha:x.av=.slice aa x.s.acts.length ac) (u:World) (hu:TyS c i p u)=>cst_all hwf ho hd x hx aa ta ea ac tc ec ha u hu)
 obtain ⟨_,sa,sc,hsv,hsl⟩:=id hs.s
 obtain ⟨n,hn⟩:∃ n,p.ss.length=n:=⟨_,rfl⟩
 have hnl:n≤1099511627776:=by have:=ho.sl;simp [PV.prg] at this;omega
 have h2:w.cell? ⟨c,2,none⟩=some (.slice sa n sc):=by rw [zaB h.row (j:=2) rfl,hsv,hn]
 obtain ⟨R,hR⟩:∃ R,firstO p.prg 0 p.prg.stmts=R:=⟨_,rfl⟩
 rw [hR]
 have HR:Hid (firstO p.prg 0 (p.ss.map SV.s)=R):=hidI hR
 have HS:=hidI hs
 have HN:=hidI hn
 have HSL:=hidI hsl
 have HC0:=hidI h
 clear hR hs hwf ho hd hsv hn hsl h
 go_enter Tryz.func33,Tryz.ntmps33
 go_wp2
 go_loopg [10] n (fun g s10 wx=>∃ (j:Nat) (i:Int),j+g=n∧s10=.int .i64 (j:Int)∧Hid (firstO p.prg j ((p.ss.drop j).map SV.s)=R)∧Hid (CB w0 c i p wx)∧Hid (Chg1 c w wx))
 case atStart=>exact ⟨0,i0,by omega,rfl,hidI (by simpa using HR.out),HC0,hidI (Chg1.refl _ _)⟩
 case round=>
  obtain ⟨j,i,hj,rfl,HX,HCB,HCG⟩:=hrel
  cases gk with
  | zero=>
   obtain rfl:n=j:=by omega
   have k1:decide ((n:Int)<(n:Int))=false:=by simp
   have hX:=HX.out
   rw [List.drop_eq_nil_of_le (by have:=HN.out;omega)] at hX
   have HRn:Hid (R=none):=hidI hX.symm
   clear hX HX HR
   go_wp2
   go_end0
   exact ⟨by rw [HRn.out];rfl,HCB.out.b,HCG.out⟩
  | succ g=>
   have k1:(j:Int)<(n:Int):=by omega
   obtain ⟨x,hx⟩:∃ x,p.ss[j]?=some x:=⟨_,List.getElem?_eq_getElem (by have:=HN.out;omega)⟩
   have hxm:x∈p.ss:=List.mem_of_getElem? hx
   obtain ⟨sb,off,rfl,hcell⟩:∃ b off,sa=some ⟨b,off,none⟩∧∀ (q:Nat) (z:Value),(flatS p.ss)[q]?=some z→w0.cell? ⟨b,off+q,none⟩=some z:=by
    rcases HSL.out with h|h
    ·have:=HN.out;omega
    ·exact h
   have gx:∀ (q:Nat) (z:Value),q<8→(scells x)[q]?=some z→wr.cell? ⟨sb,off+(j*8+q),none⟩=some z:=fun q z hq hz=>zaJ HCB.out.b (hcell _ _ (by unfold flatS;rw [zbB scells 8 zcB p.ss j q x hx hq];exact hz))
   obtain ⟨_,aa,ac,hav,_⟩:=id (HS.out.sa x hxm)
   obtain ⟨_,ta,tc,htv,_⟩:=id (HS.out.st x hxm)
   obtain ⟨_,ea,ec,hev,_⟩:=id (HS.out.se x hxm)
   have x0:=gx 0 _ (by omega) rfl
   have x1:=gx 1 _ (by omega) rfl
   have x2:=gx 2 _ (by omega) rfl
   have x3:=gx 3 _ (by omega) rfl
   have x4:=gx 4 _ (by omega) rfl
   have x5:=gx 5 _ (by omega) rfl
   have x6:=gx 6 _ (by omega) rfl
   have x7:=gx 7 _ (by omega) rfl
   simp only [←Nat.add_assoc,Nat.add_zero] at x0 x1 x2 x3 x4 x5 x6 x7
   rw [hav] at x5
   rw [htv] at x6
   rw [hev] at x7
   have c4:=zaB HCB.out.row (j:=4) rfl
   have z4:=zaR HCB.out.row 4
   have hlt:=HCB.out.lt
   obtain ⟨V,hV⟩:∃ V,(wr.setCell ⟨c,4,none⟩ (.int .i64 (j:Int))).alloc (.cells #[.int .u8 (x.s.k:Int),.string x.s.name,.int .u8 (x.s.op:Int),.int .i64 x.s.e,.int .i64 x.s.cond,.slice aa x.s.acts.length ac,.slice ta x.s.thn.length tc,.slice ea x.s.els.length ec] 78)=V:=⟨_,rfl⟩
   have hVb:Below (wr.setCell ⟨c,4,none⟩ (.int .i64 (j:Int))).heap.size (wr.setCell ⟨c,4,none⟩ (.int .i64 (j:Int))) V:=hV▸(Below.refl _ _).alloc (Nat.le_refl _) _
   have HV:=hidI ((HCB.out.set (j:Int)).on hVb)
   have HCV:=hidI ((HCG.out.trans (Chg1.set c 4 wr (.int .i64 (j:Int)))).trans (Chg1.of hVb))
   have CX:=hidI (CST.out (j:Int) x hxm aa ta ea ac tc ec hav V (HV.out.ty HS.out))
   have hX:=HX.out
   rw [List.drop_eq_getElem_cons (by have:=HN.out;omega),show p.ss[j]'(by have:=HN.out;omega)=x from Option.some.inj ((List.getElem?_eq_getElem _).symm.trans hx),List.map_cons] at hX
   unfold firstO at hX
   have HXX:=hidI hX
   have HVV:=hidI hV
   clear hX HX hcell gx hx hxm hav htv hev hV hVb HR
   cases hr:stmtO p.prg x.s with
   | false=>
    rw [hr] at CX HXX
    have HR2:Hid (R=some j):=hidI (by rw [←HXX.out];rfl)
    clear hr HXX
    go_wp2_with (go_at_call 54;rw [HVV.out];refine Calls.mono CX.out ?_;intro e w9 h9;obtain ⟨h9,hb9⟩:=h9;have h9:e=_:=h9;subst h9;clear CX)
    exact ⟨rfl,by rw [HR2.out];rfl,HV.out.b.trans (hb9.mono HV.out.b.size),HCV.out.trans (Chg1.of hb9)⟩
   | true=>
    rw [hr] at CX
    have HX2:Hid (firstO p.prg (j+1) ((p.ss.drop (j+1)).map SV.s)=R):=hidI (by have:=HXX.out;rw [hr] at this;exact this)
    clear hr HXX
    go_wp2_with (go_at_call 54;rw [HVV.out];refine Calls.mono CX.out ?_;intro e w9 h9;obtain ⟨h9,hb9⟩:=h9;have h9:e=_:=h9;subst h9;clear CX;have HC9:=hidI (HV.out.on hb9);have HG9:=hidI (HCV.out.trans (Chg1.of hb9));clear hb9)
    go_roundg g
    case measure=>omega
    case rel=>exact ⟨j+1,(j:Int),by omega,by go_num,HX2,HC9,HG9⟩
def chkR (P:Prg):Int × Int:=match firstO P 0 P.stmts with|none=>(0,0)|some j=>((j:Int),9)
theorem cell_chg {c:Nat} {w w':World} (h:Chg1 c w w') {q:Addr} {v:Value} (hq:q.block≠c) (hv:w.cell? q=some v):w'.cell? q=some v:=(World.cell?_of_block (h.block _ (World.block_lt_of_cell? _ _ hv) hq)).trans hv
theorem frz_chg {c:Nat} {w w':World} (h:Chg1 c w w') {q:Addr} (hq:q.block≠c) (hl:q.block<w.heap.size):w'.frozen? q=w.frozen? q:=World.frozen?_of_block (h.block _ hl hq)
set_option maxHeartbeats 2000000 in
theorem tycaught_any {w0:World} {c:Nat} {p:PV} (hs:SeesPv w0 p) (hwf:WfP p.prg) (ho:PrgOk p.prg) (hd:p.ds.length≤24) (i0:Int) (w:World) (h:CB w0 c i0 p w) :
  Calls Tryz.prog 32 #[.func (.func 33) #[.pointer (some ⟨c,0,none⟩)] #[]] w fun e w'=>e=.returned (.tuple #[.int .i64 (chkR p.prg).1,.int .i64 (chkR p.prg).2])∧Below w0.heap.size w0 w':=by
 have hmf:∀ (fn:Go.Fn) (first cap:Array Value) (w:World),(Instr.makeFunc fn first cap).run Tryz.prog w=.ok (.func fn first cap) w:=fun _ _ _ _=>rfl
 have hb:Below w.heap.size w ((w.alloc (.cells #[.int .i64 0] 3)).alloc (.cells #[.int .i64 0] 28)):=((Below.refl _ _).alloc (Nat.le_refl _) _).alloc (by simp) _
 have hA:((w.alloc (.cells #[.int .i64 0] 3)).alloc (.cells #[.int .i64 0] 28)).cell? ⟨w.heap.size,0,none⟩=some (.int .i64 0):=by go_simp
 have hB:((w.alloc (.cells #[.int .i64 0] 3)).alloc (.cells #[.int .i64 0] 28)).cell? ⟨w.heap.size+1,0,none⟩=some (.int .i64 0):=by go_simp
 have fA:((w.alloc (.cells #[.int .i64 0] 3)).alloc (.cells #[.int .i64 0] 28)).frozen? ⟨w.heap.size,0,none⟩=false:=by go_simp
 have fB:((w.alloc (.cells #[.int .i64 0] 3)).alloc (.cells #[.int .i64 0] 28)).frozen? ⟨w.heap.size+1,0,none⟩=false:=by go_simp
 obtain ⟨W,hW⟩:∃ W,(w.alloc (.cells #[.int .i64 0] 3)).alloc (.cells #[.int .i64 0] 28)=W:=⟨_,rfl⟩
 rw [hW] at hb hA hB fA fB
 have hlt:=h.lt
 have C:=hidI (call_all hs hwf ho hd i0 W (h.on hb))
 have HA:=hidI hA
 have HB:=hidI hB
 have HFA:=hidI fA
 have HFB:=hidI fB
 have HW:=hidI hW
 have HL:=hidI hlt
 have hw0:=h.b.size
 have HW0:=hidI hw0
 clear hs hwf ho hd h hb hA hB fA fB hW hw0
 cases hr:firstO p.prg 0 p.prg.stmts with
 | none=>
  have HR:Hid (chkR p.prg=(0,0)):=hidI (by unfold chkR;rw [hr])
  rw [hr] at C
  rw [HR.out]
  clear hr HR
  go_enter_defers Tryz.func32,Tryz.ntmps32
  go_wp2_with (go_at_call 33;rw [HW.out];refine C.out.mono ?_;intro e w1 h1;obtain ⟨h1,hb1,hg1⟩:=h1;have h1:e=_:=h1;subst h1;clear C;refine Hid.out ?_)
  have hE0:=cell_chg hg1 (by have:=HL.out;simp only;omega) HA.out
  have hE1:=cell_chg hg1 (by have:=HL.out;simp only;omega) HB.out
  have f0:=(frz_chg hg1 (q:=⟨w.heap.size,0,none⟩) (by have:=HL.out;simp only;omega) (World.block_lt_of_cell? _ _ HA.out)).trans HFA.out
  have f1:=(frz_chg hg1 (q:=⟨w.heap.size+1,0,none⟩) (by have:=HL.out;simp only;omega) (World.block_lt_of_cell? _ _ HB.out)).trans HFB.out
  have HB1:=hidI hb1
  clear hb1 hg1
  refine hidI ?_
  go_wp2
  refine leaves_cons (f:=53) (args:=#[.pointer (some ⟨w.heap.size,0,none⟩),.pointer (some ⟨w.heap.size+1,0,none⟩)]) (by simp) (by simp [go_sem]) ?_
  refine (tcatch_idle w.heap.size (w.heap.size+1) _).mono ?_
  rintro e u' w'' ⟨rfl,rfl,rfl⟩
  have hF0:=World.cell?_setCell_same w1 ⟨w.heap.size,0,none⟩ (.int .i64 0) hE0
  have hF1:((w1.setCell ⟨w.heap.size,0,none⟩ (.int .i64 0)).setCell ⟨w.heap.size+1,0,none⟩ (.int .i64 0)).cell? ⟨w.heap.size+1,0,none⟩=some (.int .i64 0):=World.cell?_setCell_same _ _ _ ((World.cell?_setCell_other _ _ _ _ (by simp)).trans hE1)
  simp [Leaves,settle,results,Tryz.results32,go_sem,hF0,hF1]
  exact (HB1.out.setCell (p:=⟨w.heap.size,0,none⟩) (by have:=HW0.out;simp only;omega) (.int .i64 0)).setCell (p:=⟨w.heap.size+1,0,none⟩) (by have:=HW0.out;simp only;omega) (.int .i64 0)
 | some j=>
  have HR:Hid (chkR p.prg=((j:Int),9)):=hidI (by unfold chkR;rw [hr])
  rw [hr] at C
  rw [HR.out]
  clear hr HR
  go_enter_defers Tryz.func32,Tryz.ntmps32
  go_wp2_with (go_at_call 33;rw [HW.out];refine C.out.mono ?_;intro e w1 h1;obtain ⟨h1,hb1,hg1⟩:=h1;have h1:e=_:=h1;subst h1;clear C)
  have hE0:=cell_chg hg1 (by have:=HL.out;simp only;omega) HA.out
  have hE1:=cell_chg hg1 (by have:=HL.out;simp only;omega) HB.out
  have f0:=(frz_chg hg1 (q:=⟨w.heap.size,0,none⟩) (by have:=HL.out;simp only;omega) (World.block_lt_of_cell? _ _ HA.out)).trans HFA.out
  have f1:=(frz_chg hg1 (q:=⟨w.heap.size+1,0,none⟩) (by have:=HL.out;simp only;omega) (World.block_lt_of_cell? _ _ HB.out)).trans HFB.out
  refine leaves_cons (f:=53) (args:=#[.pointer (some ⟨w.heap.size,0,none⟩),.pointer (some ⟨w.heap.size+1,0,none⟩)]) (by simp) (by simp [go_sem]) ?_
  refine (tcatch_fault w.heap.size (w.heap.size+1) 0 0 (j:Int) [] _ hE0 hE1 f0 f1 (by omega)).mono ?_
  rintro e u' w'' ⟨rfl,rfl,rfl⟩
  have hF0:((w1.setCell ⟨w.heap.size,0,none⟩ (.int .i64 (j:Int))).setCell ⟨w.heap.size+1,0,none⟩ (.int .i64 9)).cell? ⟨w.heap.size,0,none⟩=some (.int .i64 (j:Int)):=(World.cell?_setCell_other _ _ _ _ (by simp)).trans (World.cell?_setCell_same w1 ⟨w.heap.size,0,none⟩ (.int .i64 (j:Int)) hE0)
  have hF1:((w1.setCell ⟨w.heap.size,0,none⟩ (.int .i64 (j:Int))).setCell ⟨w.heap.size+1,0,none⟩ (.int .i64 9)).cell? ⟨w.heap.size+1,0,none⟩=some (.int .i64 9):=World.cell?_setCell_same _ _ _ ((World.cell?_setCell_other _ _ _ _ (by simp)).trans hE1)
  have hX:=(Below.refl ((w1.setCell ⟨w.heap.size,0,none⟩ (.int .i64 (j:Int))).setCell ⟨w.heap.size+1,0,none⟩ (.int .i64 9)).heap.size _).alloc (Nat.le_refl _) (.cells #[.int .i64 (j:Int)] 119)
  have hG0:=zaJ hX hF0
  have hG1:=zaJ hX hF1
  have HB1:=hidI (((hb1.setCell (p:=⟨w.heap.size,0,none⟩) (by have:=HW0.out;simp only;omega) (.int .i64 (j:Int))).setCell (p:=⟨w.heap.size+1,0,none⟩) (by have:=HW0.out;simp only;omega) (.int .i64 9)))
  have HB2:=hidI (HB1.out.trans (hX.mono HB1.out.size))
  simp [Leaves,settle,results,Tryz.results32,go_sem,hG0,hG1]
  exact HB2.out
open Go.RowKit Go.MapKept Go.WideMaps Go.WideShapes
open Go.ChangeMaps (setBlock heap_setBlock_same heap_setBlock_other)
section
structure Kys (P:Program) (tk:TypeId) (κ:Type) where
 key:κ→Value
 inj:∀ x y,key x=key y→x=y
 ok:κ→Prop
 law:WideMaps.KeyLaw P tk
 has:∀ x,ok x→∃ l,keyOf P tk (key x)=some l
variable {P : Program} {tk : TypeId} {κ : Type}
def updKy [DecidableEq κ] (f:κ→Option Value) (s:κ) (d:Value):κ→Option Value:=fun t=>if t=s then some d else f t
def SaysK (K:Kys P tk κ) (es:Array MapEntry) (clock:Nat) (f:κ→Option Value):Prop:=
 Stamped es clock∧(∀ x∈es.toList,∃ s d,K.ok s∧x.key=K.key s∧f s=some d∧x.val=d)∧(∀ s d,f s=some d→∃ x∈es.toList,x.key=K.key s)
def MapK (K:Kys P tk κ) (w:World) (mb:Nat) (f:κ→Option Value):Prop:=∃ es clock,w.heap[mb]?=some (.map es clock)∧SaysK K es clock f
theorem MapK.same {K:Kys P tk κ} {w w':World} {mb:Nat} {f:κ→Option Value} (h:MapK K w mb f) (e:w'.heap[mb]?=w.heap[mb]?):MapK K w' mb f:=by
 obtain ⟨es,clock,hb,hs⟩:=h
 exact ⟨es,clock,e.trans hb,hs⟩
theorem MapK.lt {K:Kys P tk κ} {w:World} {mb:Nat} {f:κ→Option Value} (h:MapK K w mb f):mb<w.heap.size:=by
 obtain ⟨es,clock,hb,_⟩:=h
 exact (Array.getElem?_eq_some_iff.1 hb).1
theorem mapK_made (K:Kys P tk κ) (w:World):MapK K (w.alloc (.map #[] 0)) w.heap.size (fun _=>none):=
 ⟨#[],0,(MapKept.heap_alloc w _).1,stamped_empty 0,by simp,by simp⟩
theorem SaysK.keyed {K:Kys P tk κ} {es:Array MapEntry} {clock:Nat} {f:κ→Option Value} (h:SaysK K es clock f):∀ e∈es.toList,∃ l,keyOf P tk e.key=some l:=by
 intro e he
 obtain ⟨s,d,hs,hk,_⟩:=h.2.1 e he
 exact hk▸K.has s hs
theorem lookK {K:Kys P tk κ} {tm ev:TypeId} (ht:P.underlying tm=some (.map tk ev)) {z:Value} (hz:∀ u:World,(zeroValue ev).run P u=.ok z u) {w:World} {mb:Nat} {f:κ→Option Value} (h:MapK K w mb f) {s:κ} (hs:K.ok s) (c:Bool) :
  (Instr.lookup tm (.map (some mb)) (K.key s) c).run P w=.ok (if c=true then .tuple #[(f s).getD z,.bool (f s).isSome] else (f s).getD z) w:=by
 obtain ⟨es,clock,hb,hS⟩:=h
 obtain ⟨kl,hkey⟩:=K.has s hs
 rcases K.law.find w hkey es.toList hS.keyed with ⟨h1,h2⟩|⟨j,e,h1,h2,h3⟩
 ·have hn:f s=none:=by
   cases hf:f s with
   | none=>rfl
   | some d=>
    obtain ⟨x,hx,hk⟩:=hS.2.2 s d hf
    exact absurd hk (h2 x hx)
  rw [hn]
  simp [Instr.lookup,run_underlying ht,MapKept.run_getObj_map hb,K.law.check w es.isEmpty hkey,h1,hz,Result.andThen]
 ·obtain ⟨s',d,_,hk,hf,hv⟩:=hS.2.1 e (List.mem_of_getElem? h2)
  obtain rfl:s=s':=K.inj _ _ (h3.symm.trans hk)
  rw [hf]
  simp [Instr.lookup,run_underlying ht,MapKept.run_getObj_map hb,K.law.check w es.isEmpty hkey,h1,Result.andThen,hv]
theorem storeK_at {K:Kys P tk κ} {tm ev:TypeId} (ht:P.underlying tm=some (.map tk ev)) {u:World} {mb clock j:Nat} {es:Array MapEntry} {e0:MapEntry} {f:κ→Option Value} {s:κ} (v:Value) (hb:u.heap[mb]?=some (.map es clock)) (hS:SaysK K es clock f) (hs:K.ok s) (hj:es.toList[j]?=some e0) (he:e0.key=K.key s) :
  (Instr.mapUpdate tm (.map (some mb)) (K.key s) v).run P u=.ok () (setBlock u mb (.map (es.modify j fun e=>{ key:=e0.key,val:=v,born:=e.born }) clock)):=by
 obtain ⟨kl,hkey⟩:=K.has s hs
 rcases K.law.find u hkey es.toList hS.keyed with ⟨_,h2⟩|⟨j',e',h1,h2,h3⟩
 ·exact absurd he (h2 e0 (List.mem_of_getElem? hj))
 ·obtain rfl:=nodup_at hS.1.2.2 h2 hj (h3.trans he.symm)
  have hj':es[j']?=some e0:=by rw [←Array.getElem?_toList];exact hj
  simp [Instr.mapUpdate,run_underlying ht,MapKept.run_getObj_map hb,K.law.check u false hkey,h1,hj',he,K.law.stays u hkey,MapKept.run_setObj_map _ hb,Result.andThen,setBlock]
theorem storeK_new {K:Kys P tk κ} {tm ev:TypeId} (ht:P.underlying tm=some (.map tk ev)) {u:World} {mb clock:Nat} {es:Array MapEntry} {f:κ→Option Value} {s:κ} (v:Value) (hb:u.heap[mb]?=some (.map es clock)) (hS:SaysK K es clock f) (hs:K.ok s) (hne:∀ e∈es.toList,e.key≠K.key s) :
  (Instr.mapUpdate tm (.map (some mb)) (K.key s) v).run P u=.ok () (setBlock u mb (.map (es.push { key:=K.key s,val:=v,born:=clock }) (clock+1))):=by
 obtain ⟨kl,hkey⟩:=K.has s hs
 rcases K.law.find u hkey es.toList hS.keyed with ⟨h1,_⟩|⟨j,e,h1,h2,h3⟩
 ·simp [Instr.mapUpdate,run_underlying ht,MapKept.run_getObj_map hb,K.law.check u false hkey,h1,MapKept.run_setObj_map _ hb,Result.andThen,setBlock]
 ·exact absurd h3 (hne e (List.mem_of_getElem? h2))
theorem storeK [DecidableEq κ] {K:Kys P tk κ} {tm ev:TypeId} (ht:P.underlying tm=some (.map tk ev)) {w:World} {mb:Nat} {f:κ→Option Value} (h:MapK K w mb f) {s:κ} (hs:K.ok s) (d:Value) :
  ∃ o:Obj,(∀ u:World,u.heap[mb]?=w.heap[mb]?→(Instr.mapUpdate tm (.map (some mb)) (K.key s) d).run P u=.ok () (setBlock u mb o))∧
   (∀ u:World,u.heap[mb]?=some o→(Instr.mapUpdate tm (.map (some mb)) (K.key s) d).run P u=.ok () (setBlock u mb o))∧
   (∀ u:World,u.heap[mb]?=some o→MapK K u mb (updKy f s d)):=by
 obtain ⟨es,clock,hb,hS⟩:=h
 by_cases hin:∃ e0∈es.toList,e0.key=K.key s
 ·obtain ⟨e0,hm,he⟩:=hin
  obtain ⟨j,hj⟩:=List.getElem?_of_mem hm
  have hlt:=(List.getElem?_eq_some_iff.1 hj).1
  have hm2:(es.modify j fun e=>{ key:=e0.key,val:=d,born:=e.born }).toList=es.toList.set j { key:=e0.key,val:=d,born:=e0.born }:=by
   rw [Array.toList_modify,ChangeMaps.modify_eq_set _ _ _ _ hj]
  have hS2:SaysK K (es.modify j fun e=>{ key:=e0.key,val:=d,born:=e.born }) clock (updKy f s d):=by
   refine ⟨stamped_modify hS.1 hj,fun x hx => ?_,fun t dt ht => ?_⟩
   ·rw [hm2] at hx
    obtain ⟨i,hi⟩:=List.getElem?_of_mem hx
    rw [List.getElem?_set] at hi
    by_cases hji:j=i
    ·rw [if_pos hji,if_pos hlt] at hi
     obtain rfl:=Option.some.inj hi
     exact ⟨s,d,hs,he,by simp [updKy],rfl⟩
    ·rw [if_neg hji] at hi
     obtain ⟨t,dt,h1,h2,h3,h4⟩:=hS.2.1 x (List.mem_of_getElem? hi)
     refine ⟨t,dt,h1,h2,?_,h4⟩
     have:t≠s:=fun e=>hji (nodup_at hS.1.2.2 hj hi (by rw [he,h2,e]))
     simp [updKy,this,h3]
   ·by_cases e:t=s
    ·subst e
     exact ⟨{ key:=e0.key,val:=d,born:=e0.born },by rw [hm2];exact List.mem_set hlt _,he⟩
    ·simp only [updKy,e,if_false] at ht
     obtain ⟨x,hx,hk⟩:=hS.2.2 t dt ht
     obtain ⟨i,hi⟩:=List.getElem?_of_mem hx
     refine ⟨x,?_,hk⟩
     rw [hm2]
     apply List.mem_of_getElem? (i:=i)
     rw [List.getElem?_set,if_neg,hi]
     intro hji
     subst hji
     rw [hj] at hi
     obtain rfl:=Option.some.inj hi
     rw [he] at hk
     exact e (K.inj _ _ hk.symm)
  refine ⟨.map (es.modify j fun e=>{ key:=e0.key,val:=d,born:=e.born }) clock,fun u hu=>storeK_at ht _ (hu.trans hb) hS hs hj he,fun u hu => ?_,fun u hu=>⟨_,_,hu,hS2⟩⟩
  have hj2:(es.modify j fun e=>{ key:=e0.key,val:=d,born:=e.born }).toList[j]?=some { key:=e0.key,val:=d,born:=e0.born }:=by
   rw [hm2,List.getElem?_set,if_pos rfl,if_pos hlt]
  have:=storeK_at ht d hu hS2 hs hj2 he
  rw [this]
  congr 2
  congr 1
  apply Array.ext'
  rw [Array.toList_modify,ChangeMaps.modify_eq_set _ _ _ _ hj2]
  exact WideElems.set_self _ _ _ hj2
 ·have hne:∀ e∈es.toList,e.key≠K.key s:=fun e he hk=>hin ⟨e,he,hk⟩
  have hS2:SaysK K (es.push { key:=K.key s,val:=d,born:=clock }) (clock+1) (updKy f s d):=by
   refine ⟨stamped_push hS.1 hne,fun x hx => ?_,fun t dt ht => ?_⟩
   ·rw [Array.toList_push,List.mem_append,List.mem_singleton] at hx
    rcases hx with hx|rfl
    ·obtain ⟨t,dt,h1,h2,h3,h4⟩:=hS.2.1 x hx
     refine ⟨t,dt,h1,h2,?_,h4⟩
     have:t≠s:=fun e=>hne x hx (by rw [h2,e])
     simp [updKy,this,h3]
    ·exact ⟨s,d,hs,rfl,by simp [updKy],rfl⟩
   ·by_cases e:t=s
    ·subst e
     exact ⟨{ key:=K.key t,val:=d,born:=clock },by simp,rfl⟩
    ·simp only [updKy,e,if_false] at ht
     obtain ⟨x,hx,hk⟩:=hS.2.2 t dt ht
     exact ⟨x,by simp [Array.mem_toList_iff.1 hx],hk⟩
  refine ⟨.map (es.push { key:=K.key s,val:=d,born:=clock }) (clock+1),fun u hu=>storeK_new ht _ (hu.trans hb) hS hs hne,fun u hu => ?_,fun u hu=>⟨_,_,hu,hS2⟩⟩
  have hj2:(es.push { key:=K.key s,val:=d,born:=clock }).toList[es.size]?=some { key:=K.key s,val:=d,born:=clock }:=by
   simp
  have:=storeK_at ht d hu hS2 hs hj2 rfl
  rw [this]
  congr 2
  congr 1
  apply Array.ext'
  rw [Array.toList_modify,ChangeMaps.modify_eq_set _ _ _ _ hj2]
  exact WideElems.set_self _ _ _ hj2
theorem entryK [DecidableEq κ] {K:Kys P tk κ} {tm ev:TypeId} (ht:P.underlying tm=some (.map tk ev)) {z:Value} (hz:∀ u:World,(zeroValue ev).run P u=.ok z u) {w:World} {mb:Nat} {f:κ→Option Value} (h:MapK K w mb f) {s:κ} (hs:K.ok s) :
  ∃ (st:Nat) (o1:Obj),(∀ u:World,u.heap[mb]?=w.heap[mb]?→(Instr.mapEntry tm (.map (some mb)) (K.key s)).run P u=.ok (.tuple #[(f s).getD z,goInt st]) (setBlock u mb o1))∧
   (∀ u:World,u.heap[mb]?=some o1→MapK K u mb (updKy f s ((f s).getD z)))∧
   ∀ d:Value,∃ o2:Obj,(∀ u:World,u.heap[mb]?=some o1→(Instr.entryStore tm (.map (some mb)) (goInt st) d).run P u=.ok () (setBlock u mb o2))∧(∀ u:World,u.heap[mb]?=some o2→MapK K u mb (updKy f s d)):=by
 have hlt:=h.lt
 obtain ⟨es,clock,hb,hS⟩:=id h
 obtain ⟨kl,hkey⟩:=K.has s hs
 have s1:=hS.1.1
 have s2:=hS.1.2.1
 have eqO:∀ {o E:Obj},setBlock w mb o=setBlock w mb E→o=E:=fun {o E} e=>by
  have h1:(setBlock w mb o).heap[mb]?=some o:=heap_setBlock_same hb o
  rw [e,heap_setBlock_same hb E] at h1
  exact (Option.some.inj h1).symm
 rcases K.law.find w hkey es.toList hS.keyed with ⟨h1,h2⟩|⟨j,e0,h1,h2,h3⟩
 ·have hn:f s=none:=by
   cases hf:f s with
   | none=>rfl
   | some d=>
    obtain ⟨x,hx,hk⟩:=hS.2.2 s d hf
    exact absurd hk (h2 x hx)
  have hput:∀ d:Value,∀ u:World,u.heap[mb]?=some (.map (es.push { key:=K.key s,val:=d,born:=clock }) (clock+1))→MapK K u mb (updKy f s d):=fun d u hu=>by
   obtain ⟨o,p1,_,p3⟩:=storeK ht h hs d
   have q1:=p1 w rfl
   rw [storeK_new ht d hb hS hs h2] at q1
   have q2:=eqO (by injection q1)
   exact p3 u (hu.trans (by rw [q2]))
  refine ⟨clock,.map (es.push { key:=K.key s,val:=z,born:=clock }) (clock+1),fun u hu => ?_,fun u hu => ?_,fun d=>⟨.map (es.push { key:=K.key s,val:=d,born:=clock }) (clock+1),fun u hu => ?_,hput d⟩⟩
  ·have hbu:=hu.trans hb
   obtain h1:(Instr.findKey tk (K.key s) es.toList).run P u=.ok none u:=by
    rcases K.law.find u hkey es.toList hS.keyed with ⟨g1,_⟩|⟨j',e',_,g2,g3⟩
    ·exact g1
    ·exact absurd g3 (h2 e' (List.mem_of_getElem? g2))
   rw [hn]
   simp [Instr.mapEntry,run_underlying ht,MapKept.run_getObj_map hbu,K.law.check u false hkey,h1,hz,MapKept.run_setObj_map _ hbu,Result.andThen,setBlock]
  ·rw [hn]
   exact hput z u hu
  ·have hidx:(es.push ⟨K.key s,z,clock⟩).findIdx? (fun e=>((e.born:Nat):Int)==((clock:Nat):Int))=some es.size:=by
    rw [WideElems.findIdx_arr]
    have:=WideElems.findIdx_born (l:=(es.push ⟨K.key s,z,clock⟩).toList) (j:=es.size) (e0:=⟨K.key s,z,clock⟩) (by
     simp only [Array.toList_push,List.map_append,List.map_cons,List.map_nil]
     refine List.nodup_append.2 ⟨s2,by simp,fun a ha c hc e1 => ?_⟩
     simp only [List.mem_singleton] at hc
     obtain ⟨x,hx,rfl⟩:=List.mem_map.1 ha
     have:=s1 x hx
     omega) (by simp)
    exact this
   have hmod:(es.push ⟨K.key s,z,clock⟩).modify es.size (fun e=>{ e with val:=d })=es.push ⟨K.key s,d,clock⟩:=by
    apply Array.ext'
    rw [Array.toList_modify,Array.toList_push,Array.toList_push,←Array.length_toList,WideElems.modify_last]
   simp [Instr.entryStore,MapKept.run_getObj_map hu,asInt,asIntOf,goInt,hidx,hmod,MapKept.run_setObj_map _ hu,Result.andThen,setBlock]
 ·have hj:es[j]?=some e0:=by simpa using h2
  obtain ⟨s',d0,_,hk,hf,hv⟩:=hS.2.1 e0 (List.mem_of_getElem? h2)
  obtain rfl:s=s':=K.inj _ _ (h3.symm.trans hk)
  have hsame:es.modify j (fun e=>{ e with key:=K.key s })=es:=by
   apply Array.ext'
   rw [Array.toList_modify,ChangeMaps.modify_eq_set _ _ _ _ h2]
   have:({ e0 with key:=K.key s }:MapEntry)=e0:=by rw [←h3]
   rw [this]
   exact WideElems.set_self _ _ _ h2
  have hput:∀ d:Value,∀ u:World,u.heap[mb]?=some (.map (es.modify j fun e=>{ key:=e0.key,val:=d,born:=e.born }) clock)→MapK K u mb (updKy f s d):=fun d u hu=>by
   obtain ⟨o,p1,_,p3⟩:=storeK ht h hs d
   have q1:=p1 w rfl
   rw [storeK_at ht d hb hS hs h2 h3] at q1
   have q2:=eqO (by injection q1)
   exact p3 u (hu.trans (by rw [q2]))
  have hself:es.modify j (fun e=>{ key:=e0.key,val:=d0,born:=e.born })=es:=by
   apply Array.ext'
   rw [Array.toList_modify,ChangeMaps.modify_eq_set _ _ _ _ h2]
   have:({ key:=e0.key,val:=d0,born:=e0.born }:MapEntry)=e0:=by rw [←hv]
   rw [this]
   exact WideElems.set_self _ _ _ h2
  refine ⟨e0.born,.map es clock,fun u hu => ?_,fun u hu => ?_,fun d=>⟨.map (es.modify j fun e=>{ key:=e0.key,val:=d,born:=e.born }) clock,fun u hu => ?_,hput d⟩⟩
  ·have hbu:=hu.trans hb
   obtain h1:(Instr.findKey tk (K.key s) es.toList).run P u=.ok (some (j,e0.val)) u:=by
    rcases K.law.find u hkey es.toList hS.keyed with ⟨_,g2⟩|⟨j',e',g1,g2,g3⟩
    ·exact absurd h3 (g2 e0 (List.mem_of_getElem? h2))
    ·obtain rfl:=nodup_at hS.1.2.2 g2 h2 (g3.trans h3.symm)
     obtain rfl:=Option.some.inj (g2.symm.trans h2)
     exact g1
   rw [hf]
   simp [Instr.mapEntry,run_underlying ht,MapKept.run_getObj_map hbu,K.law.check u false hkey,h1,hj,h3,K.law.stays u hkey,hsame,MapKept.run_setObj_map _ hbu,Result.andThen,setBlock,hv]
  ·rw [hf]
   exact hput d0 u (by rw [hself];exact hu)
  ·have hidx:es.findIdx? (fun e=>((e.born:Nat):Int)==((e0.born:Nat):Int))=some j:=by
    rw [WideElems.findIdx_arr]
    exact WideElems.findIdx_born s2 h2
   have hmod:es.modify j (fun e=>{ e with val:=d })=es.modify j (fun e=>{ key:=e0.key,val:=d,born:=e.born }):=by
    apply Array.ext'
    rw [Array.toList_modify,Array.toList_modify,ChangeMaps.modify_eq_set _ _ _ _ h2,ChangeMaps.modify_eq_set _ _ _ _ h2]
   simp [Instr.entryStore,MapKept.run_getObj_map hu,asInt,asIntOf,goInt,hidx,hmod,MapKept.run_setObj_map _ hu,Result.andThen,setBlock]
end
theorem laidOutM:laidOutB Tryz.prog=true:=by kernel_rfl
theorem lawKey:WideMaps.KeyLaw Tryz.prog 25:=deep_law_laid laidOutM (m:=2) (by decide) (of_decide_eq_true (by kernel_rfl)) (by kernel_rfl) (by kernel_rfl)
abbrev ke (s:ByteArray) (d:Nat):Value:=.agg #[.string s,.int .u8 (d:Int)]
theorem keyOf_ke {s:ByteArray} {d:Nat} (hs:s.size≤maxLen) (hd:d<256):∃ kl,keyOf Tryz.prog 25 (ke s d)=some kl:=by
 have hu:=Tryz.underlying25
 have hk:Tryz.prog.keyType 25=true:=by kernel_rfl
 obtain ⟨m,hm⟩:∃ m,Tryz.prog.types.size+1=m+2:=⟨Tryz.prog.types.size-1,by have:1≤Tryz.prog.types.size:=(by kernel_rfl:decide (1≤Tryz.prog.types.size)=true) |> of_decide_eq_true;omega⟩
 have hc9:Tryz.prog.cellsOf 9=1:=by kernel_rfl
 have hc31:Tryz.prog.cellsOf 23=1:=by kernel_rfl
 have hc33:Tryz.prog.cellsOf 25=2:=by kernel_rfl
 have hd2:(Lit.int .u8 (d:Int)).wf=true:=by
  simp only [Lit.wf,show IntKind.u8.min=0 from rfl,show IntKind.u8.max=255 from rfl,Bool.and_eq_true,decide_eq_true_eq]
  omega
 unfold keyOf ke
 simp only [hu]
 rw [if_pos (by simp [hk,Value.formed,hu,hc33]),hm]
 unfold Program.keyLits
 simp only [hu,Value.cells]
 rw [if_pos (by simp [hc33])]
 simp [hc9,hc31,Program.keyLits,Tryz.underlying9,Tryz.underlying23,hd2,hs]
def KK:Kys Tryz.prog 25 (ByteArray × Nat) where
 key:=fun x=>ke x.1 x.2
 inj:=fun x y h=>by
  have:x.1=y.1∧(x.2:Int)=(y.2:Int):=by simpa [ke] using h
  exact Prod.ext this.1 (by omega)
 ok:=fun x=>x.1.size≤maxLen∧x.2<256
 law:=lawKey
 has:=fun x h=>keyOf_ke h.1 h.2
def isDcl (nm:ByteArray) (sd kd:Nat):Bool:=nameB nm && (decide (1≤sd) && (decide (sd≤3) && (decide (1≤kd) && decide (kd≤2))))
set_option maxHeartbeats 1000000 in
theorem isDecl_any (nm:ByteArray) (sd kd:Nat) (hs:nm.size≤140737488355328) (w:World) (hL:Laid w):Calls Tryz.prog 21 #[.agg #[.string nm,.int .u8 (sd:Int),.int .u8 (kd:Int)]] w fun e w'=>e=.returned (.bool (isDcl nm sd kd))∧Below w.heap.size w w':=by
 have hA:Below w.heap.size w (w.alloc (.cells #[.string nm,.int .u8 (sd:Int),.int .u8 (kd:Int)] 56)):=(Below.refl _ _).alloc (Nat.le_refl _) _
 have C:=hidI (isName2_any nm hs (w.alloc (.cells #[.string nm,.int .u8 (sd:Int),.int .u8 (kd:Int)] 56)) (hL.on hA))
 have HA:=hidI hA
 have HC0:Hid ((w.alloc (.cells #[.string nm,.int .u8 (sd:Int),.int .u8 (kd:Int)] 56)).cell? ⟨w.heap.size,1,none⟩=some (.int .u8 (sd:Int))):=hidI (by go_simp)
 have HC1:Hid ((w.alloc (.cells #[.string nm,.int .u8 (sd:Int),.int .u8 (kd:Int)] 56)).cell? ⟨w.heap.size,2,none⟩=some (.int .u8 (kd:Int))):=hidI (by go_simp)
 have HR:Hid (isDcl nm sd kd=(nameB nm && (decide ((1:Int)≤(sd:Int)) && (decide ((sd:Int)≤3) && (decide ((1:Int)≤(kd:Int)) && decide ((kd:Int)≤2)))))):=hidI (by
  unfold isDcl
  rw [show decide (1≤sd)=decide ((1:Int)≤(sd:Int)) by congr 1;simp;omega,show decide (sd≤3)=decide ((sd:Int)≤3) by congr 1;simp;omega,show decide (1≤kd)=decide ((1:Int)≤(kd:Int)) by congr 1;simp;omega,show decide (kd≤2)=decide ((kd:Int)≤2) by congr 1;simp;omega])
 rw [HR.out]
 obtain ⟨b0,h0⟩:∃ b,nameB nm=b:=⟨_,rfl⟩
 obtain ⟨b1,h1⟩:∃ b,decide ((1:Int)≤(sd:Int))=b:=⟨_,rfl⟩
 obtain ⟨b2,h2⟩:∃ b,decide ((sd:Int)≤3)=b:=⟨_,rfl⟩
 obtain ⟨b3,h3⟩:∃ b,decide ((1:Int)≤(kd:Int))=b:=⟨_,rfl⟩
 obtain ⟨b4,h4⟩:∃ b,decide ((kd:Int)≤2)=b:=⟨_,rfl⟩
 rw [h0] at C
 rw [h0,h1,h2,h3,h4]
 clear hL hA HR h0
 cases b0<;>cases b1<;>cases b2<;>cases b3<;>cases b4
 all_goals
  go_enter Tryz.func21,Tryz.ntmps21
  go_wp2_with (go_at_call 35;refine C.out.mono ?_;intro e w1 hh;obtain ⟨rfl,hb1⟩:=hh;clear C;have c1:=(hb1.cell (World.block_lt_of_cell? _ _ HC0.out)).trans HC0.out;have c2:=(hb1.cell (World.block_lt_of_cell? _ _ HC1.out)).trans HC1.out)
  go_ret
  exact ⟨rfl,HA.out.trans (hb1.mono HA.out.size)⟩
@[go_sem] def opsKN:Nat→Oper
 | 0=>⟨some 3,.fieldAddr 56 (.tmp 1) 0,0, "scope.go:42",#[],none⟩
 | 1=>⟨some 4,.load 9 (.tmp 3),9, "scope.go:42",#[⟨0,.data⟩],none⟩
 | 2=>⟨some 5,.call ⟨.value (.func 36),#[.tmp 4],#[9]⟩,9, "scope.go:42",#[⟨1,.data⟩],none⟩
 | 3=>⟨some 6,.fieldAddr 56 (.tmp 1) 1,0, "scope.go:42",#[],none⟩
 | 4=>⟨some 7,.load 23 (.tmp 6),23, "scope.go:42",#[⟨3,.data⟩],none⟩
 | 5=>⟨some 8,.build 25 #[(0,.tmp 5),(1,.tmp 7)],25, "scope.go:42",#[⟨2,.data⟩,⟨4,.data⟩],none⟩
 | _=>⟨none,.store 25 (.tmp 2) (.tmp 8),0, "scope.go:42",#[⟨5,.data⟩,⟨2,.chain⟩,⟨0,.phase⟩,⟨1,.phase⟩,⟨2,.phase⟩,⟨3,.phase⟩,⟨4,.phase⟩,⟨5,.phase⟩],none⟩
def opsK:Array Oper:=opsA opsKN 6
theorem opsK_0:opsK[0]?=some (opsKN 0):=zaA opsKN 6 (by decide)
theorem opsK_1:opsK[1]?=some (opsKN 1):=zaA opsKN 6 (by decide)
theorem opsK_2:opsK[2]?=some (opsKN 2):=zaA opsKN 6 (by decide)
theorem opsK_3:opsK[3]?=some (opsKN 3):=zaA opsKN 6 (by decide)
theorem opsK_4:opsK[4]?=some (opsKN 4):=zaA opsKN 6 (by decide)
theorem opsK_5:opsK[5]?=some (opsKN 5):=zaA opsKN 6 (by decide)
theorem opsK_6:opsK[6]?=some (opsKN 6):=zaA opsKN 6 (by decide)
set_option maxRecDepth 100000 in
set_option maxHeartbeats 2000000 in
theorem regK {x0 x3 x4 x5 x6 x7 x8:Value} {Q:Exit→Act→World→Prop} {V0:World} {db kb:Nat} {nm:ByteArray} {sd:Int} {v0 v1:Value}
  (c0:V0.drew.cell? ⟨db,0,none⟩=some (.string nm)) (c1:V0.drew.cell? ⟨db,1,none⟩=some (.int .u8 sd)) (r0:V0.drew.cell? ⟨kb,0,none⟩=some v0) (r1:V0.drew.cell? ⟨kb,1,none⟩=some v1) (fz:∀ j,V0.drew.frozen? ⟨kb,j,none⟩=false)
  (HC:Hid (∀ W,Calls Tryz.prog 36 #[.string nm] W fun e w'=>e=.returned (.string nm)∧Below W.heap.size W w'))
  (hpan:∀ c (a:Act) w (dd:Tmp) vv,Q (.panic c) (a.put (some dd) vv) w→Q (.panic c) a w)
  (hQ:∀ (W:World) (t3 t4 t5 t6 t7 t8:Value),Below V0.drew.heap.size V0.drew W→Q .normal { tmps:=#[x0,.pointer (some ⟨db,0,none⟩),.pointer (some ⟨kb,0,none⟩),t3,t4,t5,t6,t7,t8],defers:=[] } ((W.setCell ⟨kb,0,none⟩ (.string nm)).setCell ⟨kb,1,none⟩ (.int .u8 sd))) :
  (Code.region 1 opsK true).wp Tryz.prog Q { tmps:=#[x0,.pointer (some ⟨db,0,none⟩),.pointer (some ⟨kb,0,none⟩),x3,x4,x5,x6,x7,x8],defers:=[] } V0:=by
 refine zbD (fun y=>(y.heap[db]?=V0.drew.heap[db]?∧y.heap[kb]?=V0.drew.heap[kb]?)) 6 Tryz.mixed ?_
 obtain ⟨V,hV⟩:∃ V,V0.drew=V:=⟨_,rfl⟩
 rw [hV] at c0 c1 r0 r1 fz hQ ⊢
 clear hV
 have HQ:=hidI hQ
 have HPan:=hidI hpan
 have hS0:(V.heap[db]?=V.heap[db]?∧V.heap[kb]?=V.heap[kb]?):=⟨rfl,rfl⟩
 have hDl:db<V.heap.size:=World.block_lt_of_cell? V _ c0
 have hKl:kb<V.heap.size:=World.block_lt_of_cell? V _ r0
 clear hQ hpan
 refine zaF [1,2,5,6] (i:=0) (v:=(.pointer (some ⟨db,0,none⟩))) opsK_0 HPan.out hS0 (fun y hy => ?_) ?_
 ·go_simp
 refine zaF [2,5,6] (i:=1) (v:=(.string nm)) opsK_1 HPan.out hS0 (fun y hy => ?_) ?_
 ·have q0:=(World.cell?_of_block (w:=V) (a:=⟨db,0,none⟩) hy.1).trans c0;go_simp
 refine zaF [4,5,6] (i:=3) (v:=(.pointer (some ⟨db,1,none⟩))) opsK_3 HPan.out hS0 (fun y hy => ?_) ?_
 ·go_simp
 refine zaF [5,6] (i:=4) (v:=(.int .u8 sd)) opsK_4 HPan.out hS0 (fun y hy => ?_) ?_
 ·have q1:=(World.cell?_of_block (w:=V) (a:=⟨db,1,none⟩) hy.1).trans c1;go_simp
 refine zaW (rs:=[2]) (by kernel_rfl) (by simp) fun j2 hj2 => ?_
 obtain rfl:j2=2:=by simpa using hj2
 refine zaN opsK_2 rfl fun K1 hK1 => ?_
 unfold Oper.wp
 go_simp
 refine Calls.mono (HC.out V) ?_
 intro e W1 h1
 obtain ⟨rfl,hb1⟩:=h1
 refine hK1 _ _ ⟨fun _=>⟨hb1.block _ hDl,hb1.block _ hKl⟩,?_⟩
 clear hK1 K1
 have hS1:(W1.heap[db]?=V.heap[db]?∧W1.heap[kb]?=V.heap[kb]?):=⟨hb1.block _ hDl,hb1.block _ hKl⟩
 refine zaF [6] (i:=5) (v:=(.agg #[.string nm,.int .u8 sd])) opsK_5 HPan.out hS1 (fun y hy => ?_) ?_
 ·go_simp
 refine zbP (by kernel_rfl) (by kernel_rfl) ?_ _
 refine zaN opsK_6 rfl fun K1 hK1 => ?_
 have s0:=(World.cell?_of_block (w:=V) (a:=⟨kb,0,none⟩) hS1.2).trans r0
 have s1:=(World.cell?_of_block (w:=V) (a:=⟨kb,1,none⟩) hS1.2).trans r1
 have g0:=(World.frozen?_of_block (w:=V) (a:=⟨kb,0,none⟩) hS1.2).trans (fz 0)
 have g1:=(World.frozen?_of_block (w:=V) (a:=⟨kb,1,none⟩) hS1.2).trans (fz 1)
 unfold Oper.wp
 go_simp
 refine hK1 _ _ ?_
 exact HQ.out W1 _ _ _ _ _ _ hb1
theorem keyOf_any (nm:ByteArray) (sd kd:Nat) (hs:nm.size≤140737488355328) (w:World):Calls Tryz.prog 22 #[.agg #[.string nm,.int .u8 (sd:Int),.int .u8 (kd:Int)]] w fun e w'=>e=.returned (.agg #[.string nm,.int .u8 (sd:Int)])∧Below w.heap.size w w':=by
 have HC:=hidI (fun W=>clone_any nm hs W)
 have HB:Hid (Below w.heap.size w ((w.alloc (.cells #[.string nm,.int .u8 (sd:Int),.int .u8 (kd:Int)] 56)).alloc (.cells #[.string ⟨#[]⟩,.int .u8 0] 25))):=hidI (((Below.refl _ _).alloc (Nat.le_refl _) _).alloc (by simp) _)
 go_enter Tryz.func22,Tryz.ntmps22
 go_wp2
 have k0:((w.alloc (.cells #[.string nm,.int .u8 (sd:Int),.int .u8 (kd:Int)] 56)).alloc (.cells #[.string ⟨#[]⟩,.int .u8 0] 25)).cell? ⟨w.heap.size+1,0,none⟩=some (.string ⟨#[]⟩):=by go_simp
 have k1:((w.alloc (.cells #[.string nm,.int .u8 (sd:Int),.int .u8 (kd:Int)] 56)).alloc (.cells #[.string ⟨#[]⟩,.int .u8 0] 25)).cell? ⟨w.heap.size+1,1,none⟩=some (.int .u8 0):=by go_simp
 refine regK (db:=w.heap.size) (kb:=w.heap.size+1) (nm:=nm) (sd:=(sd:Int)) (v0:=.string ⟨#[]⟩) (v1:=.int .u8 0) (by go_simp) (by go_simp) (by go_simp) (by go_simp) (fun j=>by go_simp) HC (fun _ _ _ _ _ h=>h) ?_
 intro W t3 t4 t5 t6 t7 t8 hW
 have c0:=(hW.cell (World.block_lt_of_cell? _ _ k0)).trans k0
 have c1:=(hW.cell (World.block_lt_of_cell? _ _ k1)).trans k1
 have HBW:Hid (Below w.heap.size w W):=hidI (HB.out.trans (Below.mono ⟨hW.os,hW.tape,hW.output,hW.size,hW.block⟩ (by simp;omega)))
 clear hW k0 k1
 go_wp2
 refine bodyPost_ret (v:=.agg #[.string nm,.int .u8 (sd:Int)]) ?_ rfl ?_
 ·rw [zaC rfl]
  (go_simp<;>first|done|rfl)
 ·exact ⟨rfl,(HBW.out.setCell (by show w.heap.size≤w.heap.size+1;omega) _).setCell (by show w.heap.size≤w.heap.size+1;omega) _⟩
end Go.Proofs.YtmekkhfohmfjkaaGreatDoor
