/-
  Part 20 of the proof: DcM, DcP, DcR, DcS.
-/
import Derived.Test.YtmekkhfohmfjkaaGreatDoorSd11
import Derived.Test.YtmekkhfohmfjkaaGreatDoorSd12
import Derived.Test.YtmekkhfohmfjkaaGreatDoorSd18
import Derived.Test.YtmekkhfohmfjkaaGreatDoorSd19
import Derived.BigQuiet
import Derived.Laws.StructEq
namespace Go.Proofs.YtmekkhfohmfjkaaGreatDoor
open Go.RowKit Go.Deep Go.MapKept
open Go.ChangeMaps (setBlock heap_setBlock_same heap_setBlock_other)
def hasK (l:List Dcl) (nm:ByteArray) (sd:Nat):Bool:=l.any (isK nm sd)
def dErr (ds:List Dcl) (j:Nat) (d:Dcl):Int:=if j=24 then 4 else if isDcl d.name d.side d.kind=false then 3 else if hasK (ds.take j) d.name d.side=true then 6 else 0
def declR (ds:List Dcl):Nat→List Dcl→Int × Int
 | _,[]=>(0,0)
 | j,d::r=>if dErr ds j d=0 then declR ds (j+1) r else ((j:Int),dErr ds j d)
def fD (ds:List Dcl) (j:Nat):ByteArray × Nat→Option Value:=fun x=>if hasK (ds.take j) x.1 x.2=true then some (.int .i64 1) else none
theorem fD_step {ds:List Dcl} {j:Nat} {d:Dcl} (h:ds[j]?=some d):updKy (fD ds j) (d.name,d.side) (.int .i64 1)=fD ds (j+1):=by
 funext x
 have ht:ds.take (j+1)=ds.take j++[d]:=by rw [List.take_add_one,h];rfl
 unfold updKy fD hasK
 rw [ht,List.any_append]
 by_cases e:x=(d.name,d.side)
 ·subst e
  rw [if_pos rfl]
  simp [isK]
 ·rw [if_neg e]
  have:isK x.1 x.2 d=false:=by
   unfold isK
   cases h1:decide (d.name=x.1) with
   | false=>rfl
   | true=>
    cases h2:decide (d.side=x.2) with
    | false=>rfl
    | true=>exact absurd (Prod.ext (of_decide_eq_true h1).symm (of_decide_eq_true h2).symm) e
  simp [this]
def kcells (d:Dcl):List Value:=[.string d.name,.int .u8 (d.side:Int)]
def flatK (ds:List Dcl):List Value:=ds.flatMap kcells
theorem zeroInt (w:World):(zeroValue 3).run Tryz.prog w=.ok (.int .i64 0) w:=by kernel_rfl
theorem underKM:Tryz.prog.underlying 54=some (.map 25 3):=by kernel_rfl
structure DS (e:Nat) (w V:World) (mb:Nat) (o1:Obj) (l:Array Bool) (y:World):Prop where
 b:Below mb w y
 size:V.heap.size≤y.heap.size
 far:∀ k,k≠mb→k<V.heap.size→y.heap[k]?=V.heap[k]?
 old:l[e]?=some false→y.heap[mb]?=V.heap[mb]?
 new:l[e]?=some true→y.heap[mb]?=some o1
 map:∃ es clock,y.heap[mb]?=some (.map es clock)
theorem DS.keep {e:Nat} {w V y:World} {mb:Nat} {o1:Obj} {l:Array Bool} (h:DS e w V mb o1 l y) {i:Nat} (hi:i≠e):DS e w V mb o1 (l.setIfInBounds i true) y:=by
 refine ⟨h.b,h.size,h.far,?_,?_,h.map⟩
 ·rw [zbP hi];exact h.old
 ·rw [zbP hi];exact h.new
theorem DS.cell {e:Nat} {w V y:World} {mb:Nat} {o1:Obj} {l:Array Bool} (h:DS e w V mb o1 l y) {q:Addr} {v:Value} (hq:q.block≠mb) (hv:V.cell? q=some v):y.cell? q=some v:=(World.cell?_of_block (h.far _ hq (World.block_lt_of_cell? _ _ hv))).trans hv
theorem below_setBlock {B mb:Nat} {w y:World} {es:Array MapEntry} {clock:Nat} (h:Below B w y) (hm:y.heap[mb]?=some (.map es clock)) (hB:B≤mb) (o:Obj):Below B w (setBlock y mb o):=
 ⟨h.os,h.tape,h.output,by have:=h.size;simpa [setBlock] using this,fun k hk=>(heap_setBlock_other hm o (by omega)).trans (h.block k hk)⟩
theorem DS.entry {e:Nat} {w V y:World} {mb:Nat} {es0:Array MapEntry} {cl0:Nat} {l:Array Bool} (h:DS e w V mb (.map es0 cl0) l y) (hl:l[e]?=some false):DS e w V mb (.map es0 cl0) (l.setIfInBounds e true) (setBlock y mb (.map es0 cl0)):=by
 obtain ⟨es,clock,hm⟩:=h.map
 have hs:e<l.size:=(Array.getElem?_eq_some_iff.1 hl).1
 refine ⟨below_setBlock h.b hm (Nat.le_refl _) _,by have:=h.size;simpa [setBlock] using this,fun k hk hv=>(heap_setBlock_other hm _ hk).trans (h.far k hk hv),?_,fun _=>heap_setBlock_same hm _,⟨_,_,heap_setBlock_same hm _⟩⟩
 rw [Array.getElem?_setIfInBounds,if_pos rfl,if_pos hs]
 intro h;cases h
theorem DS.call {e:Nat} {w V y y':World} {mb:Nat} {o1:Obj} {l:Array Bool} (h:DS e w V mb o1 l y) {i:Nat} (hi:i≠e) (hb:Below y.heap.size y y'):DS e w V mb o1 (l.setIfInBounds i true) y':=by
 obtain ⟨es,clock,hm⟩:=h.map
 have hlt:=(Array.getElem?_eq_some_iff.1 hm).1
 have e1:=hb.block mb hlt
 refine ⟨h.b.trans (hb.mono (Nat.le_of_lt hlt)),Nat.le_trans h.size hb.size,fun k hk hv=>(hb.block k (Nat.lt_of_lt_of_le hv h.size)).trans (h.far k hk hv),?_,?_,⟨es,clock,e1.trans hm⟩⟩
 ·rw [zbP hi];exact fun q=>e1.trans (h.old q)
 ·rw [zbP hi];exact fun q=>e1.trans (h.new q)
structure DE (w V:World) (mb:Nat) (o2:Obj) (y:World):Prop where
 b:Below mb w y
 size:V.heap.size≤y.heap.size
 far:∀ k,k≠mb→k<V.heap.size→y.heap[k]?=V.heap[k]?
 at_:y.heap[mb]?=some o2
theorem DS.last {e:Nat} {w V y:World} {mb:Nat} {o1 o2:Obj} {l:Array Bool} (h:DS e w V mb o1 l y):DE w V mb o2 (setBlock y mb o2):=by
 obtain ⟨es,clock,hm⟩:=h.map
 exact ⟨below_setBlock h.b hm (Nat.le_refl _) _,by have:=h.size;simpa [setBlock] using this,fun k hk hv=>(heap_setBlock_other hm _ hk).trans (h.far k hk hv),heap_setBlock_same hm _⟩
theorem DE.cell {w V y:World} {mb:Nat} {o2:Obj} (h:DE w V mb o2 y) {q:Addr} {v:Value} (hq:q.block≠mb) (hv:V.cell? q=some v):y.cell? q=some v:=(World.cell?_of_block (h.far _ hq (World.block_lt_of_cell? _ _ hv))).trans hv
theorem own_of_heap {w w':World} {base e size n:Nat} {v:Value} {xs:List Value} (h:w.ownsRow base e size v n xs) (hk:∀ k,base≤k→k<w.heap.size→w'.heap[k]?=w.heap[k]?):w'.ownsRow base e size v n xs:=by
 refine ⟨h.1,?_⟩
 rcases h.2 with h|⟨g,cap,cur,hv,hb,hh,r⟩
 ·exact .inl h
 ·exact .inr ⟨g,cap,cur,hv,hb,(hk g hb (Array.getElem?_eq_some_iff.1 hh).1).trans hh,r⟩
def DclPost (w:World) (R:Int × Int) (ds:List Dcl) (e:Ending) (w':World):Prop:=∃ kv,e=.returned (.tuple #[kv,.int .i64 R.1,.int .i64 R.2])∧(R.2=0→w'.ownsRow w.heap.size 25 2 kv ds.length (flatK ds))∧(R.2≠0→kv=.slice none 0 0)
theorem infoKey:(Tryz.prog.info? 25).map (fun i=>(i.zero,i.size,i.bytes))=some (some (.agg #[.string ⟨#[]⟩,.int .u8 0]),2,24):=by kernel_rfl
open Go.ChangeMaps (setBlock heap_setBlock_same heap_setBlock_other)
def dr13o0:Oper:=⟨some 32,.move (.tmp 5),54, "scope.go:28",#[],none⟩
def dr13o1:Oper:=⟨some 33,.load 25 (.tmp 9),25, "scope.go:28",#[],none⟩
def dr13o2:Oper:=⟨some 34,.lookup 54 (.tmp 32) (.tmp 33) false,3, "scope.go:28",#[⟨0,.data⟩,⟨1,.data⟩],none⟩
def dr13o3:Oper:=⟨some 35,.binOp .add 3 (.tmp 34) (.const (.int .i64 1)) 3,3, "scope.go:28",#[⟨2,.data⟩],none⟩
def dr13o4:Oper:=⟨some 36,.mapEntry 54 (.tmp 32) (.tmp 33),0, "scope.go:28",#[⟨0,.data⟩,⟨1,.data⟩,⟨0,.phase⟩,⟨1,.phase⟩,{ on:=2,ground:=Go.Ground.textOnly Go.Departure.mapOpAssignEntry },{ on:=3,ground:=Go.Ground.textOnly Go.Departure.mapOpAssignEntry }],none⟩
def dr13o5:Oper:=⟨some 37,.extract (.tmp 36) 1,3, "scope.go:28",#[⟨4,.data⟩],none⟩
def dr13o6:Oper:=⟨none,.entryStore 54 (.tmp 32) (.tmp 37) (.tmp 35),0, "scope.go:28",#[⟨0,.data⟩,⟨5,.data⟩,⟨3,.data⟩,⟨4,.chain⟩,⟨0,.phase⟩,⟨1,.phase⟩,⟨2,.phase⟩,⟨3,.phase⟩,⟨4,.phase⟩,⟨5,.phase⟩],none⟩
def dr13:Array Oper:=#[dr13o0,dr13o1,dr13o2,dr13o3,dr13o4,dr13o5,dr13o6]
theorem dr13_0:dr13[0]?=some dr13o0:=by kernel_rfl
theorem dr13_1:dr13[1]?=some dr13o1:=by kernel_rfl
theorem dr13_2:dr13[2]?=some dr13o2:=by kernel_rfl
theorem dr13_3:dr13[3]?=some dr13o3:=by kernel_rfl
theorem dr13_4:dr13[4]?=some dr13o4:=by kernel_rfl
theorem dr13_5:dr13[5]?=some dr13o5:=by kernel_rfl
theorem dr13_6:dr13[6]?=some dr13o6:=by kernel_rfl
theorem dr13_d0:dstOf dr13 0=some 32:=by kernel_rfl
theorem dr13_d1:dstOf dr13 1=some 33:=by kernel_rfl
theorem dr13_d2:dstOf dr13 2=some 34:=by kernel_rfl
theorem dr13_d3:dstOf dr13 3=some 35:=by kernel_rfl
theorem dr13_d4:dstOf dr13 4=some 36:=by kernel_rfl
theorem dr13_d5:dstOf dr13 5=some 37:=by kernel_rfl
def AtBd (w:World) (b:Nat) (cs:List Value):Prop:=∀ (j:Nat) (v:Value),cs[j]?=some v→w.cell? ⟨b,j,none⟩=some v
theorem AtBd.on {w w':World} {b:Nat} {cs:List Value} (h:AtBd w b cs) (hb:Below w.heap.size w w'):AtBd w' b cs:=fun j v hj=>zaJ hb (h j v hj)
theorem AtBd.new (w:World) (ty:TypeId) (cs:Array Value):AtBd (w.alloc (.cells cs ty)) w.heap.size cs.toList:=fun j v hj=>by
 rw [cell_of_row _ w.heap.size j cs ty (0,0) (MapKept.heap_alloc w _).1]
 simpa using hj
set_option maxRecDepth 100000 in
set_option maxHeartbeats 4000000 in
theorem declared_any (w:World) (hL:Laid w) (v:Value) (ds:List Dcl) (hv:SeesD w v ds) (_hl:ds.length≤1000) (hn:∀ d∈ds,d.name.size≤140737488355328∧d.side<256) :
  Calls Tryz.prog 8 #[v] w fun e w'=>DclPost w (declR ds 0 ds) ds e w'∧Below w.heap.size w w':=by
 obtain ⟨_,a,cap,rfl,_⟩:=id hv
 obtain ⟨n,hlen⟩:∃ n,ds.length=n:=⟨_,rfl⟩
 obtain ⟨R,hR⟩:∃ R,declR ds 0 ds=R:=⟨_,rfl⟩
 rw [hR]
 have HR:Hid (declR ds 0 (ds.drop 0)=R):=hidI (by simpa using hR)
 have HL:=hidI hL
 have HV:=hidI hv
 have HN:=hidI hlen
 have HNM:=hidI hn
 rw [hlen] at _hl ⊢
 have hmade:=hidI (mapK_made KK w)
 clear hR hL hv hlen hn
 have hmm:=@run_makeMap Tryz.prog
 go_enter Tryz.func8,Tryz.ntmps8
 go_wp2
 go_loopg [6,13] n (fun g s6 s13 wx=>∃ (j:Nat) (kv:Value),j+g=n∧kv=s6∧s13=.int .i64 (j:Int)∧j≤24∧Hid (declR ds j (ds.drop j)=R)∧Hid (MapK KK wx w.heap.size (fD ds j))∧Hid (wx.ownsRow (w.heap.size+1) 25 2 kv j (flatK (ds.take j)))∧Hid (Below w.heap.size w wx))
 case atStart=>exact ⟨0,_,by omega,rfl,rfl,by omega,HR,hidI hmade.out,hidI (World.ownsRow_nil _ _ _ _),hidI ((Below.refl _ _).alloc (Nat.le_refl _) _)⟩
 case round=>
  obtain ⟨j,kv,hj,rfl,rfl,hj24,HX,HMP,HO0,HBW⟩:=hrel
  cases gk with
  | zero=>
   obtain rfl:n=j:=by omega
   have k1:decide ((n:Int)<(n:Int))=false:=by simp
   have hX:=HX.out
   rw [List.drop_eq_nil_of_le (by have:=HN.out;omega)] at hX
   have HR2:Hid (R=(0,0)):=hidI hX.symm
   have HOF:Hid (wr.ownsRow w.heap.size 25 2 kv ds.length (flatK ds)):=hidI (by
    have h:=HO0.out
    rw [List.take_of_length_le (by have:=HN.out;omega)] at h
    rw [HN.out]
    refine ⟨h.1,?_⟩
    rcases h.2 with h|⟨g,cap,cur,hv,hb,r⟩
    ·exact .inl h
    ·exact .inr ⟨g,cap,cur,hv,by omega,r⟩)
   clear hX HX HR HMP HO0
   go_wp2
   go_ret3
   exact ⟨⟨_,by rw [HR2.out];rfl,fun _=>HOF.out,fun h=>by rw [HR2.out] at h;exact absurd rfl h⟩,HBW.out⟩
  | succ g=>
   have k1:(j:Int)<(n:Int):=by omega
   obtain ⟨d,hd⟩:∃ d,ds[j]?=some d:=⟨_,List.getElem?_eq_getElem (by have:=HN.out;omega)⟩
   obtain ⟨db,do',cap2,hvd,y0,y1,y2⟩:=(HV.out).cell hd
   obtain ⟨rfl,rfl⟩:a=some ⟨db,do',none⟩∧cap=cap2:=by cases hvd;exact ⟨rfl,rfl⟩
   obtain ⟨hsz,hsd⟩:=HNM.out d (List.mem_of_getElem? hd)
   have x0:=zaJ HBW.out y0
   have x1:=zaJ HBW.out y1
   have x2:=zaJ HBW.out y2
   have HST0:=hidI (fD_step hd)
   have htk:ds.take (j+1)=ds.take j++[d]:=by rw [List.take_add_one,hd];rfl
   have HTK:Hid (flatK (ds.take (j+1))=flatK (ds.take j)++[.string d.name,.int .u8 (d.side:Int)]):=hidI (by rw [htk];simp [flatK,kcells])
   have hX:=HX.out
   rw [List.drop_eq_getElem_cons (by have:=HN.out;omega),show ds[j]'(by have:=HN.out;omega)=d from Option.some.inj ((List.getElem?_eq_getElem _).symm.trans hd)] at hX
   unfold declR dErr at hX
   obtain ⟨nm,sd,kd⟩:=d
   simp only at hsz hsd y0 y1 y2 x0 x1 x2 HTK HST0 hX
   have HSZ:=hidI hsz
   have HSD:=hidI hsd
   have HXX:=hidI hX
   clear hX HX htk hd hvd y0 y1 y2 HR hsz hsd
   have hbV:Below wr.heap.size wr (wr.alloc (.cells #[.string nm,.int .u8 (sd:Int),.int .u8 (kd:Int)] 56)):=(Below.refl _ _).alloc (Nat.le_refl _) _
   have HBV0:=hidI (HBW.out.trans (hbV.mono HBW.out.size))
   by_cases h24:j=24
   ·have HR2:Hid (R=((j:Int),4)):=hidI (by have:=HXX.out;rw [if_pos h24,if_neg (by decide)] at this;exact this.symm)
    have e1:((j:Int)==24)=true:=by rw [beq_iff_eq];omega
    clear HXX h24 hbV HMP HO0 hj24
    go_wp2
    go_ret3
    exact ⟨⟨_,by rw [HR2.out];rfl,fun h=>by rw [HR2.out] at h;exact absurd h (by simp),fun _=>rfl⟩,HBV0.out⟩
   ·have e1:((j:Int)==24)=false:=by rw [beq_eq_false_iff_ne];omega
    have H24:=hidI h24
    have CI:=hidI (isDecl_any nm sd kd HSZ.out _ (HL.out.on HBV0.out))
    have HAt:=hidI (AtBd.new wr 56 #[.string nm,.int .u8 (sd:Int),.int .u8 (kd:Int)])
    obtain ⟨V1,hV1⟩:∃ V1,wr.alloc (.cells #[.string nm,.int .u8 (sd:Int),.int .u8 (kd:Int)] 56)=V1:=⟨_,rfl⟩
    have HV1E:=hidI hV1
    rw [hV1] at hbV HBV0 HAt
    have HBV:=hidI HBV0.out
    have HC0:=hidI hbV
    have hj23:j≤23:=by omega
    clear hV1 hbV HBV0 h24 hj24
    cases hi:isDcl nm sd kd with
    | false=>
     have HR2:Hid (R=((j:Int),3)):=hidI (by have:=HXX.out;rw [if_neg H24.out,if_pos hi,if_neg (by decide)] at this;exact this.symm)
     rw [hi] at CI
     clear hi HXX HMP HO0
     go_wp2_with (go_at_call 21;refine Calls.mono CI.out ?_;intro e w1 h1;obtain ⟨rfl,hb1⟩:=h1;clear CI;have hb1:Below V1.heap.size V1 w1:=HV1E.out▸hb1;have HB1:=hidI (HBV.out.trans (hb1.mono HBV.out.size));have HAt1:=hidI (HAt.out.on hb1);have z0:=HAt1.out 0 _ rfl;have z1:=HAt1.out 1 _ rfl;have z2:=HAt1.out 2 _ rfl;have HC1:=hidI hb1;clear hb1)
     go_ret3
     exact ⟨⟨_,by rw [HR2.out];rfl,fun h=>by rw [HR2.out] at h;exact absurd h (by simp),fun _=>rfl⟩,HB1.out⟩
    | true=>
     have HI:=hidI (show ¬ isDcl nm sd kd=false by rw [hi];decide)
     rw [hi] at CI
     clear hi
     go_wp2_with (first|(go_at_call 21;refine Calls.mono CI.out ?_;intro e w1 h1;obtain ⟨rfl,hb1⟩:=h1;clear CI;have hb1:Below V1.heap.size V1 w1:=HV1E.out▸hb1;have HB1:=hidI (HBV.out.trans (hb1.mono HBV.out.size));have HAt1:=hidI (HAt.out.on hb1);have z0:=HAt1.out 0 _ rfl;have z1:=HAt1.out 1 _ rfl;have z2:=HAt1.out 2 _ rfl;have HC1:=hidI hb1;clear hb1)|(go_at_call 22;refine Calls.mono (keyOf_any nm sd kd HSZ.out _) ?_;intro e w3 h3;obtain ⟨rfl,hb3⟩:=h3;have HB3:=hidI (HB1.out.trans (hb3.mono HB1.out.size));have HC3:=hidI (HC1.out.trans (hb3.mono HC1.out.size));clear hb3;refine Hid.out ?_))
     have hmlt:=HMP.out.lt
     have HMB:Hid (w.heap.size<w3.heap.size):=hidI (by have:=HC0.out.size;have:=HC3.out.size;omega)
     have hC:=HC0.out.trans (HC3.out.mono HC0.out.size)
     have HM3:=hidI (HMP.out.same (hC.block _ hmlt))
     have HO3:=hidI (zbQ HO0.out hC (Nat.le_refl _))
     have hok:KK.ok (nm,sd):=⟨by have:=HSZ.out;show nm.size≤maxLen;unfold maxLen;omega,HSD.out⟩
     obtain ⟨V,hV⟩:∃ V,w3.alloc (.cells #[.string nm,.int .u8 (sd:Int)] 25)=V:=⟨_,rfl⟩
     have hb3:Below w3.heap.size w3 V:=hV▸(Below.refl _ _).alloc (Nat.le_refl _) _
     have HBVV:=hidI (HB3.out.trans (hb3.mono HB3.out.size))
     have HMV:=hidI (HM3.out.same (hb3.block _ HMB.out))
     have HOV:=hidI (zbQ HO3.out hb3 (Nat.le_refl _))
     have hAK:=AtBd.new w3 25 #[.string nm,.int .u8 (sd:Int)]
     rw [hV] at hAK
     have HV0:=hidI (hAK 0 _ rfl)
     have HV1:=hidI (hAK 1 _ rfl)
     have HVV:=hidI hV
     clear hAK hb3 hC hmlt HM3 HO3 HMP HO0 HC3 HC1 HC0 HAt HAt1 hV
     refine hidI ?_
     cases hh:hasK (ds.take j) nm sd with
     | true=>
      have HR2:Hid (R=((j:Int),6)):=hidI (by have:=HXX.out;rw [if_neg H24.out,if_neg HI.out,if_pos hh,if_neg (by decide)] at this;exact this.symm)
      have hlk:(Instr.lookup 54 (.map (some w.heap.size)) (ke nm sd) false).run Tryz.prog V=.ok (.int .i64 1) V:=by
       have h:=lookK underKM zeroInt HMV.out hok false
       rw [show fD ds j (nm,sd)=some (.int .i64 1) by unfold fD;rw [if_pos hh]] at h
       exact h
      rw [←HVV.out] at hlk
      clear hh HXX HMV HOV
      go_wp2
      go_ret3
      exact ⟨⟨_,by rw [HR2.out];rfl,fun h=>by rw [HR2.out] at h;exact absurd h (by simp),fun _=>rfl⟩,by rw [HVV.out];exact HBVV.out⟩
     | false=>
      replace HXX:Hid (declR ds (j+1) (ds.drop (j+1))=R):=hidI (by have:=HXX.out;rw [if_neg H24.out,if_neg HI.out,if_neg (show ¬ hasK (ds.take j) nm sd=true by rw [hh];decide),if_pos rfl] at this;exact this)
      have hf0:fD ds j (nm,sd)=none:=by unfold fD;rw [if_neg (by rw [hh];decide)]
      have hlk:(Instr.lookup 54 (.map (some w.heap.size)) (ke nm sd) false).run Tryz.prog V=.ok (.int .i64 0) V:=by
       have h:=lookK underKM zeroInt HMV.out hok false
       rw [hf0] at h
       exact h
      obtain ⟨st,o1,hme,hm1,hst⟩:=entryK underKM zeroInt HMV.out hok
      rw [hf0] at hme hm1
      obtain ⟨esV,clV,hbV,_⟩:=id HMV.out
      obtain ⟨es1,cl1,rfl⟩:∃ es1 cl1,o1=.map es1 cl1:=by
       obtain ⟨es,cl,h,_⟩:=hm1 (setBlock V w.heap.size o1) (heap_setBlock_same hbV _)
       rw [heap_setBlock_same hbV] at h
       exact ⟨es,cl,Option.some.inj h⟩
      obtain ⟨o2,hs2,hm2⟩:=hst (.int .i64 1)
      have HME:Hid (∀ u:World,u.heap[w.heap.size]?=V.heap[w.heap.size]?→(Instr.mapEntry 54 (.map (some w.heap.size)) (ke nm sd)).run Tryz.prog u=.ok (.tuple #[.int .i64 0,goInt st]) (setBlock u w.heap.size (.map es1 cl1))):=hidI hme
      have HST:Hid (∀ u:World,u.heap[w.heap.size]?=some (.map es1 cl1)→(Instr.entryStore 54 (.map (some w.heap.size)) (goInt st) (.int .i64 1)).run Tryz.prog u=.ok () (setBlock u w.heap.size o2)):=hidI hs2
      have HMO:Hid (∀ u:World,u.heap[w.heap.size]?=some o2→MapK KK u w.heap.size (fD ds (j+1))):=hidI (fun u hu=>by have:=hm2 u hu;rw [HST0.out] at this;exact this)
      have HLK:Hid (∀ (l:Array Bool) (y:World),l.size=7→DS 4 w V w.heap.size (.map es1 cl1) l y→(Instr.lookup 54 (.map (some w.heap.size)) (ke nm sd) false).run Tryz.prog y=.ok (.int .i64 0) y):=hidI (fun l y hl hy=>by
       have h4:l[4]?=some true∨l[4]?=some false:=by
        rw [Array.getElem?_eq_getElem (by omega)]
        cases l[4]<;>simp
       rcases h4 with h4|h4
       ·have h:=lookK underKM zeroInt (hm1 y (hy.new h4)) hok false
        simp [updKy] at h
        exact h
       ·have h:=lookK underKM zeroInt (HMV.out.same (hy.old h4)) hok false
        rw [hf0] at h
        exact h)
      have hmapV:∃ es clock,V.drew.heap[w.heap.size]?=some (.map es clock):=⟨esV,clV,hbV⟩
      have HDS:Hid (DS 4 w V w.heap.size (.map es1 cl1) (Array.replicate 7 false) V.drew):=hidI ⟨HBVV.out.drew,Nat.le_refl _,fun _ _ _=>rfl,fun _=>rfl,fun e=>(by rw [Array.getElem?_replicate] at e;simp at e),hmapV⟩
      rw [←HVV.out] at hlk
      clear hme hm1 hst hs2 hm2 hbV hmapV hf0 hh HMV HST0 hok
      go_wp2
      rw [HVV.out]
      clear hlk
      refine wp_region_seq2 (ops:=dr13) (fun j0=>match j0 with|0=>.map (some w.heap.size)|1=>ke nm sd|2=>.int .i64 0|3=>.int .i64 1|4=>.tuple #[.int .i64 0,goInt st]|5=>goInt st|_=>undef) (DS 4 w V w.heap.size (.map es1 cl1)) 6 Tryz.mixed (by kernel_rfl) (by kernel_rfl) dr13_6 HDS.out ?_ ?_
      ·intro i9 o9 hi9 ho9 a9 w9 l9 hF9 hL9 hl9 hA9 hS9 K9 hK9
       have hc9:i9=0∨i9=1∨i9=2∨i9=3∨i9=4∨i9=5:=by omega
       clear hi9
       rcases hc9 with rfl|rfl|rfl|rfl|rfl|rfl
       ·obtain rfl:=so dr13_0 ho9
        have e5:=hF9.od 5 (v:=.map (some w.heap.size)) rfl
        refine zaW rfl ?_ (hK9 _ (hS9.keep (by decide)))
        clear ho9 hF9 hA9
        simp only [dr13o0,execOp,e5]
        first|done|(go_simp<;>omega)
       ·obtain rfl:=so dr13_1 ho9
        have e9:=hF9.od 9 (v:=.pointer (some ⟨w3.heap.size,0,none⟩)) rfl
        have q0:=hS9.cell (q:=⟨w3.heap.size,0,none⟩) (by have:=HMB.out;simp only;omega) HV0.out
        have q1:=hS9.cell (q:=⟨w3.heap.size,1,none⟩) (by have:=HMB.out;simp only;omega) HV1.out
        refine zaW rfl ?_ (hK9 _ (hS9.keep (by decide)))
        clear ho9 hF9 hA9
        simp only [dr13o1,execOp,e9]
        first|done|(go_simp<;>omega)
       ·obtain rfl:=so dr13_2 ho9
        have e32:=hF9.ev 0 32
        have e33:=hF9.ev 1 33
        have hlk:=HLK.out l9 w9 hL9 hS9
        refine zaW rfl ?_ (hK9 _ (hS9.keep (by decide)))
        clear ho9 hF9 hA9
        simp only [dr13o2,execOp,e32,e33]
        first|done|(go_simp<;>omega)
       ·obtain rfl:=so dr13_3 ho9
        have e34:=hF9.ev 2 34
        have hw1:IntKind.i64.wrap 1=1:=by decide
        refine zaW rfl ?_ (hK9 _ (hS9.keep (by decide)))
        clear ho9 hF9 hA9
        simp only [dr13o3,execOp,e34]
        first|done|(go_simp<;>omega)
       ·obtain rfl:=so dr13_4 ho9
        have e32:=hF9.ev 0 32
        have e33:=hF9.ev 1 33
        rw [if_pos (zaD rfl)]
        unfold Oper.wp
        have hme:=HME.out w9 (hS9.old hl9)
        have hr9:(execOp a9.eval dr13o4).run Tryz.prog w9=.ok (.value (.tuple #[.int .i64 0,goInt st])) (setBlock w9 w.heap.size (.map es1 cl1)):=by
         simp only [dr13o4,execOp,e32,e33]
         rw [Sem.run_bind,hme]
         rfl
        rw [hr9,Oper.upon_value]
        exact hK9 _ (hS9.entry hl9)
       ·obtain rfl:=so dr13_5 ho9
        have e36:=hF9.ev 4 36
        refine zaW rfl ?_ (hK9 _ (hS9.keep (by decide)))
        clear ho9 hF9 hA9
        simp only [dr13o5,execOp,e36]
        first|done|(go_simp<;>omega)
      ·intro w9 l9 hall9 hS9 K9 hK9
       simp only [putTo,dr13_d0,dr13_d1,dr13_d2,dr13_d3,dr13_d4,dr13_d5,dr13o6]
       rw [if_pos (zaD rfl)]
       unfold Oper.wp
       have hst:(Instr.entryStore 54 (.map (some w.heap.size)) (.int .i64 (st:Int)) (.int .i64 1)).run Tryz.prog w9=.ok () (setBlock w9 w.heap.size o2):=HST.out w9 (hS9.new (hall9 4 (by decide)))
       go_simp
       refine hK9 _ _ ?_
       have HS9:=hidI (hS9.last (o2:=o2))
       clear hK9 K9 hS9 hst hall9
       obtain ⟨w6,hw6⟩:∃ w6,setBlock w9 w.heap.size o2=w6:=⟨_,rfl⟩
       rw [hw6] at HS9 ⊢
       clear hw6
       have z0:=HS9.out.cell (q:=⟨w3.heap.size,0,none⟩) (by have:=HMB.out;simp only;omega) HV0.out
       have z1:=HS9.out.cell (q:=⟨w3.heap.size,1,none⟩) (by have:=HMB.out;simp only;omega) HV1.out
       have hw6s:=HS9.out.size
       have HO6:Hid (w6.ownsRow (w.heap.size+1) 25 2 kv j (flatK (ds.take j))):=hidI (own_of_heap HOV.out fun k hk hl=>HS9.out.far k (by omega) hl)
       have HO:=hidI (World.ownsRow.alloc HO6.out (.cells #[.string nm,.int .u8 (sd:Int)] 25))
       have HVS:=hidI (zbT w6 25 2 #[.string nm,.int .u8 (sd:Int)] rfl)
       have hz6:=HS9.out.b.size
       have HM6:=hidI (HMO.out w6 HS9.out.at_)
       have hml:=HM6.out.lt
       clear HO6 HOV
       go_wp2_with (at_builtin;go_must (refine zbF Tryz.underlying27 infoKey rfl (by decide) (by decide) rfl _ _ rfl (w.heap.size+1) kv j (flatK (ds.take j)) rfl HO.out _ 1 [.string nm,.int .u8 (sd:Int)] rfl HVS.out (by simp [Value.oneCell']) (by omega) (by simp;omega) ?_);intro v9 w9 hown9 hgrow9 hat9;refine Hid.out ?_)
       have HB9:Hid (Below w.heap.size w w9):=hidI ((HS9.out.b.alloc hz6 _).grown hgrow9 (by simp;omega) (fun k hk=>by have:=(HO.out.lt k hk).1;omega))
       have HM9:Hid (MapK KK w9 w.heap.size (fD ds (j+1))):=hidI (HM6.out.same ((hgrow9.block _ (by simp;omega) (by
        intro e
        have:=(HO.out.lt w.heap.size e.symm).1
        omega)).trans (((Below.refl w6.heap.size w6).alloc (Nat.le_refl _) _).block _ hml)))
       have HO9:Hid (w9.ownsRow (w.heap.size+1) 25 2 v9 (j+1) (flatK (ds.take (j+1)))):=hidI (by rw [HTK.out];exact hown9)
       clear hown9 hgrow9 hat9 HO HVS HM6 HS9
       refine hidI ?_
       go_wp2
       go_roundg g
       case measure=>omega
       case rel=>exact ⟨j+1,v9,by omega,rfl,by go_num,by omega,HXX,HM9,HO9,HB9⟩
theorem flatK_at:∀ (l:List Dcl) (i j:Nat) (d:Dcl),l[i]?=some d→j<2→(flatK l)[i*2+j]?=(kcells d)[j]?
 | [],i,j,d,h,_=>by simp at h
 | x::r,0,j,d,h,hj=>by
  obtain rfl:x=d:=by simpa using h
  have hl:j<(kcells x).length:=by simpa [kcells] using hj
  simp only [flatK,List.flatMap_cons,Nat.zero_mul,Nat.zero_add]
  rw [List.getElem?_append_left hl]
 | x::r,i+1,j,d,h,hj=>by
  have h2:=flatK_at r i j d (by simpa using h) hj
  have hl:(kcells x).length=2:=rfl
  simp only [flatK,List.flatMap_cons] at h2 ⊢
  rw [List.getElem?_append_right (by rw [hl];omega),hl,show (i+1)*2+j-2=i*2+j by omega]
  exact h2
theorem keyNe {a b:ByteArray} {c d:Nat} (h:¬ (a=b∧c=d)):(¬ a.toList=b.toList)∨(a=b∧¬ (c:Int)=(d:Int)):=by
 by_cases e:a=b
 ·exact .inr ⟨e,fun e2=>h ⟨e,by omega⟩⟩
 ·refine .inl fun e2=>e ?_
  rw [ByteArray.toList_eq,ByteArray.toList_eq] at e2
  exact ByteArray.ext (Array.toList_inj.1 e2)
def SeesKd (w:World) (v:Value) (l:List Dcl):Prop:=SeesC w v l.length 2 (flatK l)
theorem SeesKd.cell {w:World} {v:Value} {l:List Dcl} (h:SeesKd w v l) {i:Nat} {d:Dcl} (hd:l[i]?=some d):∃ b o cap,v=.slice (some ⟨b,o,none⟩) l.length cap∧w.cell? ⟨b,o+i*2,none⟩=some (.string d.name)∧w.cell? ⟨b,o+i*2+1,none⟩=some (.int .u8 (d.side:Int)):=by
 have hj:=(List.getElem?_eq_some_iff.1 hd).1
 obtain ⟨_,a,cap,rfl,h0⟩:=h
 rcases h0 with h0|⟨b,o,rfl,h0⟩
 ·omega
 ·exact ⟨b,o,cap,rfl,h0 _ _ ((flatK_at l i 0 d hd (by omega)).trans rfl),by rw [Nat.add_assoc];exact h0 _ _ ((flatK_at l i 1 d hd (by omega)).trans rfl)⟩
set_option maxRecDepth 100000 in
set_option maxHeartbeats 2000000 in
theorem hasK_any (w:World) (v:Value) (l:List Dcl) (hv:SeesKd w v l) (hl:l.length≤1000) (nm:ByteArray) (sd:Nat) :
  Calls Tryz.prog 23 #[v,.agg #[.string nm,.int .u8 (sd:Int)]] w fun e w'=>e=.returned (.bool (hasK l nm sd))∧Below w.heap.size w w':=by
 obtain ⟨_,a,cap,rfl,_⟩:=id hv
 have HV:=hidI hv
 obtain ⟨m,hm⟩:∃ m,l.length=m:=⟨_,rfl⟩
 obtain ⟨R,hR⟩:∃ R,hasK l nm sd=R:=⟨_,rfl⟩
 have HM:=hidI hm
 have HR:Hid (hasK (l.drop 0) nm sd=R):=hidI (by simpa using hR)
 rw [hm] at hl ⊢
 rw [hR]
 obtain ⟨W,hW⟩:∃ W,w.alloc (.cells #[.string nm,.int .u8 (sd:Int)] 25)=W:=⟨_,rfl⟩
 have HB0:Hid (Below w.heap.size w W):=hidI (hW▸belowT)
 have hAK:=AtBd.new w 25 #[.string nm,.int .u8 (sd:Int)]
 rw [hW] at hAK
 have HK:=hidI hAK
 clear hv hm hR hAK
 have hgt:Tryz.prog.eqGuardType Tryz.prog.depth 25=false:=by kernel_rfl
 go_enter Tryz.func23,Tryz.ntmps23
 go_wp2
 clear hW
 go_loopg [5] m (fun g s5 wx=>∃ j:Nat,j+g=m∧s5=.int .i64 (j:Int)∧Hid (hasK (l.drop j) nm sd=R)∧Hid (Below W.heap.size W wx))
 case atStart=>exact ⟨0,by omega,rfl,HR,hidI (Below.refl _ _)⟩
 case round=>
  obtain ⟨j,hjg,rfl,HR,HB⟩:=hrel
  cases gk with
  | zero=>
   obtain rfl:m=j:=by omega
   have k1:decide ((m:Int)<(m:Int))=false:=by simp
   have hr:R=false:=by
    have:=HR.out
    rw [List.drop_eq_nil_of_le (by have:=HM.out;omega)] at this
    exact this.symm
   subst hr
   go_wp2
   go_ret
   exact ⟨rfl,HB0.out.trans (HB.out.mono HB0.out.size)⟩
  | succ g=>
   have k1:(j:Int)<(m:Int):=by omega
   obtain ⟨d,hd⟩:∃ d,l[j]?=some d:=⟨_,List.getElem?_eq_getElem (by have:=HM.out;omega)⟩
   obtain ⟨b,o,cap',hav,x0,x1⟩:=HV.out.cell hd
   rw [HM.out] at hav
   cases hav
   replace x0:=zaJ HB.out (zaJ HB0.out x0)
   replace x1:=zaJ HB.out (zaJ HB0.out x1)
   have y0:=zaJ HB.out (HK.out 0 _ rfl)
   have y1:=zaJ HB.out (HK.out 1 _ rfl)
   have hr:=HR.out
   rw [List.drop_eq_getElem_cons (by have:=HM.out;omega),show l[j]'(by have:=HM.out;omega)=d from Option.some.inj ((List.getElem?_eq_getElem _).symm.trans hd)] at hr
   obtain ⟨dn,ds,dk⟩:=d
   simp only at x0 x1
   clear hd
   by_cases he:dn=nm∧ds=sd
   ·obtain ⟨rfl,rfl⟩:=he
    obtain rfl:true=R:=by rw [←hr];simp [hasK,isK]
    clear hr
    go_wp2
    go_quiet (fail)
    generalize nq=n1
    go_wp2
    go_ret
    exact ⟨rfl,below_drewN (HB0.out.trans (HB.out.mono HB0.out.size)) n1⟩
   ·have hr2:Hid (hasK (l.drop (j+1)) nm sd=R):=hidI (by
     rw [←hr]
     have:isK nm sd ⟨dn,ds,dk⟩=false:=by
      unfold isK
      cases h1:decide (dn=nm) with
      | false=>rfl
      | true=>
       cases h2:decide (ds=sd) with
       | false=>rfl
       | true=>exact absurd ⟨of_decide_eq_true h1,of_decide_eq_true h2⟩ he
     simp [hasK,this])
    clear hr
    rcases keyNe he with n1|⟨rfl,n1⟩
    all_goals
     go_wp2
     go_quiet (fail)
     generalize nq=n1
     go_wp2
     go_roundg g
     case measure=>omega
     case rel=>exact ⟨j+1,by omega,by go_num,hr2,hidI (below_drewN HB.out n1)⟩
set_option maxRecDepth 100000 in
set_option maxHeartbeats 2000000 in
theorem sameKeys_any (w:World) (u v:Value) (l:List Dcl) (hu:SeesKd w u l) (hv:SeesKd w v l) (hl:l.length≤1000) :
  Calls Tryz.prog 11 #[u,v] w fun e w'=>e=.returned (.bool true)∧Below w.heap.size w w':=by
 obtain ⟨_,a,ac,rfl,_⟩:=id hu
 obtain ⟨_,b,bc,rfl,_⟩:=id hv
 have HA:=hidI hu
 have HB:=hidI hv
 obtain ⟨k,hk⟩:∃ k,l.length=k:=⟨_,rfl⟩
 have HK:=hidI hk
 rw [hk] at hl ⊢
 clear hu hv hk
 have hgt:Tryz.prog.eqGuardType Tryz.prog.depth 25=false:=by kernel_rfl
 have k0:((k:Int)==(k:Int))=true:=by simp
 go_enter Tryz.func11,Tryz.ntmps11
 go_wp2
 go_loopg [5] k (fun g s5 wx=>∃ i:Nat,i+g=k∧s5=.int .i64 (i:Int)∧Hid (Below w.heap.size w wx))
 case atStart=>exact ⟨0,by omega,rfl,hidI (Below.refl _ _)⟩
 case round=>
  obtain ⟨i,hig,rfl,HX⟩:=hrel
  cases gk with
  | zero=>
   obtain rfl:k=i:=by omega
   have k1:decide ((k:Int)<(k:Int))=false:=by simp
   go_wp2
   go_ret
   exact ⟨rfl,HX.out⟩
  | succ g=>
   have k1:(i:Int)<(k:Int):=by omega
   obtain ⟨d,hd⟩:∃ d,l[i]?=some d:=⟨_,List.getElem?_eq_getElem (by have:=HK.out;omega)⟩
   obtain ⟨ab,ao,cap1,h1,e0,e1⟩:=HA.out.cell hd
   obtain ⟨bb,bo,cap2,h2,f0,f1⟩:=HB.out.cell hd
   rw [HK.out] at h1 h2
   cases h1
   cases h2
   replace e0:=zaJ HX.out e0
   replace e1:=zaJ HX.out e1
   replace f0:=zaJ HX.out f0
   replace f1:=zaJ HX.out f1
   clear hd
   go_wp2
   go_quiet (fail)
   generalize nq=n1
   go_wp2
   go_roundg g
   case measure=>omega
   case rel=>exact ⟨i+1,by omega,by go_num,hidI (below_drewN HX.out n1)⟩
theorem isDcl_no {nm:ByteArray} {sd kd:Nat} (h:isDcl nm sd kd=false):nameB nm=false∨nameB nm=true∧sd=0∨nameB nm=true∧¬ sd=0∧3<sd∨nameB nm=true∧¬ sd=0∧¬ 3<sd∧kd=0∨nameB nm=true∧¬ sd=0∧¬ 3<sd∧¬ kd=0∧2<kd:=by
 unfold isDcl at h
 cases hb:nameB nm with
 | false=>exact .inl rfl
 | true=>
  rw [hb] at h
  simp only [Bool.true_and,Bool.and_eq_false_iff,decide_eq_false_iff_not] at h
  right
  by_cases h0:sd=0
  ·exact .inl ⟨rfl,h0⟩
  by_cases h1:3<sd
  ·exact .inr (.inl ⟨rfl,h0,h1⟩)
  by_cases h2:kd=0
  ·exact .inr (.inr (.inl ⟨rfl,h0,h1,h2⟩))
  ·exact .inr (.inr (.inr ⟨rfl,h0,h1,h2,by omega⟩))
theorem isDcl_yes {nm:ByteArray} {sd kd:Nat} (h:isDcl nm sd kd=true):nameB nm=true∧¬ sd=0∧¬ 3<sd∧¬ kd=0∧¬ 2<kd:=by
 unfold isDcl at h
 simp only [Bool.and_eq_true,decide_eq_true_eq] at h
 exact ⟨h.1,by omega,by omega,by omega,by omega⟩
def RdPost (w:World) (R:Int × Int) (ds:List Dcl) (e:Ending) (w':World):Prop:=∃ kv,e=.returned (.tuple #[kv,.int .i64 R.1,.int .i64 R.2])∧SeesKd w' kv (if R.2=0 then ds else [])∧Below w.heap.size w w'
theorem RdPost.bad {w w':World} {ds:List Dcl} {a b:Int} (hb:b≠0) (h:Below w.heap.size w w'):RdPost w (a,b) ds (.returned (.tuple #[.slice none 0 0,.int .i64 a,.int .i64 b])) w':=⟨_,rfl,by rw [if_neg hb];exact ⟨rfl,none,0,rfl,.inl rfl⟩,h⟩
set_option maxRecDepth 100000 in
set_option maxHeartbeats 8000000 in
theorem rdeclared_any (w:World) (v:Value) (ds:List Dcl) (hv:SeesD w v ds) (_hl:ds.length≤1000) :
  Calls Tryz.prog 9 #[v] w (RdPost w (declR ds 0 ds) ds):=by
 obtain ⟨_,a,cap,rfl,_⟩:=id hv
 obtain ⟨n,hlen⟩:∃ n,ds.length=n:=⟨_,rfl⟩
 obtain ⟨R,hR⟩:∃ R,declR ds 0 ds=R:=⟨_,rfl⟩
 rw [hR]
 have HR:Hid (declR ds 0 (ds.drop 0)=R):=hidI (by simpa using hR)
 have HV:=hidI hv
 have HN:=hidI hlen
 rw [hlen] at _hl ⊢
 clear hR hv hlen
 go_enter Tryz.func9,Tryz.ntmps9
 go_wp2
 go_loopg [5,6] n (fun g s5 s6 wx=>∃ (j:Nat) (kv:Value),j+g=n∧kv=s5∧s6=.int .i64 (j:Int)∧j≤24∧Hid (declR ds j (ds.drop j)=R)∧Hid (wx.ownsRow w.heap.size 25 2 kv j (flatK (ds.take j)))∧Hid (Below w.heap.size w wx))
 case atStart=>exact ⟨0,_,by omega,rfl,rfl,by omega,HR,hidI (World.ownsRow_nil _ _ _ _),hidI (Below.refl _ _)⟩
 case round=>
  obtain ⟨j,kv,hj,rfl,rfl,hj24,HX,HO0,HBW⟩:=hrel
  cases gk with
  | zero=>
   obtain rfl:n=j:=by omega
   have k1:decide ((n:Int)<(n:Int))=false:=by simp
   have hX:=HX.out
   rw [List.drop_eq_nil_of_le (by have:=HN.out;omega)] at hX
   have HR2:Hid (R=(0,0)):=hidI hX.symm
   have HS:Hid (SeesKd wr kv ds):=hidI (by
    have h:=zaS HO0.out
    rw [List.take_of_length_le (by have:=HN.out;omega),←HN.out] at h
    exact h)
   clear hX HX HR HO0
   go_wp2
   go_ret3
   rw [HR2.out]
   exact ⟨_,rfl,HS.out,HBW.out⟩
  | succ g=>
   have k1:(j:Int)<(n:Int):=by omega
   obtain ⟨d,hd⟩:∃ d,ds[j]?=some d:=⟨_,List.getElem?_eq_getElem (by have:=HN.out;omega)⟩
   obtain ⟨db,do',cap2,hvd,y0,y1,y2⟩:=(HV.out).cell hd
   obtain ⟨rfl,rfl⟩:a=some ⟨db,do',none⟩∧cap=cap2:=by cases hvd;exact ⟨rfl,rfl⟩
   have x0:=zaJ HBW.out y0
   have x1:=zaJ HBW.out y1
   have x2:=zaJ HBW.out y2
   have htk:ds.take (j+1)=ds.take j++[d]:=by rw [List.take_add_one,hd];rfl
   have HTK:Hid (flatK (ds.take (j+1))=flatK (ds.take j)++[.string d.name,.int .u8 (d.side:Int)]):=hidI (by rw [htk];simp [flatK,kcells])
   have hX:=HX.out
   rw [List.drop_eq_getElem_cons (by have:=HN.out;omega),show ds[j]'(by have:=HN.out;omega)=d from Option.some.inj ((List.getElem?_eq_getElem _).symm.trans hd)] at hX
   unfold declR dErr at hX
   obtain ⟨nm,sd,kd⟩:=d
   simp only at y0 y1 y2 x0 x1 x2 HTK hX
   have HXX:=hidI hX
   clear hX HX htk hd hvd y0 y1 y2 HR
   obtain ⟨V,hV⟩:∃ V,(wr.alloc (.cells #[.string nm,.int .u8 (sd:Int),.int .u8 (kd:Int)] 56)).alloc (.cells #[.string nm,.int .u8 (sd:Int)] 25)=V:=⟨_,rfl⟩
   have hbV:Below wr.heap.size wr V:=hV▸((Below.refl _ _).alloc (Nat.le_refl _) _).alloc (by simp) _
   have HBV:=hidI (HBW.out.trans (hbV.mono HBW.out.size))
   have HC:=hidI hbV
   have hAK:=AtBd.new (wr.alloc (.cells #[.string nm,.int .u8 (sd:Int),.int .u8 (kd:Int)] 56)) 25 #[.string nm,.int .u8 (sd:Int)]
   have hz1:(wr.alloc (.cells #[.string nm,.int .u8 (sd:Int),.int .u8 (kd:Int)] 56)).heap.size=wr.heap.size+1:=by simp
   rw [hV,hz1] at hAK
   have HAK:=hidI hAK
   have HVV:=hidI hV
   clear hV hbV hAK hz1
   by_cases h24:j=24
   ·have HR2:Hid (R=((j:Int),4)):=hidI (by have:=HXX.out;rw [if_pos h24,if_neg (by decide)] at this;exact this.symm)
    have k2:(24:Int)≤(j:Int):=by omega
    clear HXX HO0 h24 hj24
    go_wp2
    go_ret3
    rw [HR2.out,HVV.out]
    exact RdPost.bad (by decide) HBV.out
   ·have k2:¬ (24:Int)≤(j:Int):=by omega
    have H24:=hidI h24
    have CI:=hidI (fun W=>rname_any nm W)
    have hj23:j≤23:=by omega
    clear h24 hj24
    cases hi:isDcl nm sd kd with
    | false=>
     have HR2:Hid (R=((j:Int),3)):=hidI (by have:=HXX.out;rw [if_neg H24.out,if_pos hi,if_neg (by decide)] at this;exact this.symm)
     clear HXX HO0
     rcases isDcl_no hi with hb|⟨hb,h0⟩|⟨hb,h0,h1⟩|⟨hb,h0,h1,h2⟩|⟨hb,h0,h1,h2,h3⟩
     ·rw [hb] at CI
      clear hi hb
      go_wp2_with (go_at_call 17;refine Calls.mono (CI.out _) ?_;rintro e w1 ⟨rfl,rfl⟩)
      go_ret3
      rw [HR2.out,HVV.out]
      exact RdPost.bad (by decide) HBV.out
     ·have e0:((sd:Int)==0)=true:=by rw [beq_iff_eq];omega
      rw [hb] at CI
      clear hi hb h0
      go_wp2_with (go_at_call 17;refine Calls.mono (CI.out _) ?_;rintro e w1 ⟨rfl,rfl⟩)
      go_ret3
      rw [HR2.out,HVV.out]
      exact RdPost.bad (by decide) HBV.out
     ·have e0:((sd:Int)==0)=false:=by rw [beq_eq_false_iff_ne];omega
      have e1:(3:Int)<(sd:Int):=by omega
      rw [hb] at CI
      clear hi hb h0 h1
      go_wp2_with (go_at_call 17;refine Calls.mono (CI.out _) ?_;rintro e w1 ⟨rfl,rfl⟩)
      go_ret3
      rw [HR2.out,HVV.out]
      exact RdPost.bad (by decide) HBV.out
     ·have e0:((sd:Int)==0)=false:=by rw [beq_eq_false_iff_ne];omega
      have e1:¬ (3:Int)<(sd:Int):=by omega
      have e2:((kd:Int)==0)=true:=by rw [beq_iff_eq];omega
      rw [hb] at CI
      clear hi hb h0 h1 h2
      go_wp2_with (go_at_call 17;refine Calls.mono (CI.out _) ?_;rintro e w1 ⟨rfl,rfl⟩)
      go_ret3
      rw [HR2.out,HVV.out]
      exact RdPost.bad (by decide) HBV.out
     ·have e0:((sd:Int)==0)=false:=by rw [beq_eq_false_iff_ne];omega
      have e1:¬ (3:Int)<(sd:Int):=by omega
      have e2:((kd:Int)==0)=false:=by rw [beq_eq_false_iff_ne];omega
      have e3:(2:Int)<(kd:Int):=by omega
      rw [hb] at CI
      clear hi hb h0 h1 h2 h3
      go_wp2_with (go_at_call 17;refine Calls.mono (CI.out _) ?_;rintro e w1 ⟨rfl,rfl⟩)
      go_ret3
      rw [HR2.out,HVV.out]
      exact RdPost.bad (by decide) HBV.out
    | true=>
     obtain ⟨hb,h0,h1,h2,h3⟩:=isDcl_yes hi
     have HI:=hidI (show ¬ isDcl nm sd kd=false by rw [hi];decide)
     have e0:((sd:Int)==0)=false:=by rw [beq_eq_false_iff_ne];omega
     have e1:¬ (3:Int)<(sd:Int):=by omega
     have e2:((kd:Int)==0)=false:=by rw [beq_eq_false_iff_ne];omega
     have e3:¬ (2:Int)<(kd:Int):=by omega
     rw [hb] at CI
     clear hi hb h0 h1 h2 h3
     have hlt:(ds.take j).length=j:=by rw [List.length_take];have:=HN.out;omega
     have HOV:=hidI (zbQ HO0.out HC.out (Nat.le_refl _))
     have HS:Hid (SeesKd V kv (ds.take j)):=hidI (by unfold SeesKd;rw [hlt];exact zaS HOV.out)
     have CH:=hidI (hasK_any V kv (ds.take j) HS.out (by omega) nm sd)
     cases hh:hasK (ds.take j) nm sd with
     | true=>
      have HR2:Hid (R=((j:Int),6)):=hidI (by have:=HXX.out;rw [if_neg H24.out,if_neg HI.out,if_pos hh,if_neg (by decide)] at this;exact this.symm)
      rw [hh] at CH
      clear hh HXX HOV HO0 HS hlt
      go_wp2_with (first|(go_at_call 17;refine Calls.mono (CI.out _) ?_;rintro e w1 ⟨rfl,rfl⟩)|(go_at_call 23;rw [HVV.out];refine Calls.mono CH.out ?_;rintro e w2 ⟨rfl,hb2⟩;have HB2:=hidI (HBV.out.trans (hb2.mono HBV.out.size));clear hb2 CH))
      go_ret3
      rw [HR2.out]
      exact RdPost.bad (by decide) HB2.out
     | false=>
      replace HXX:Hid (declR ds (j+1) (ds.drop (j+1))=R):=hidI (by have:=HXX.out;rw [if_neg H24.out,if_neg HI.out,if_neg (show ¬ hasK (ds.take j) nm sd=true by rw [hh];decide),if_pos rfl] at this;exact this)
      rw [hh] at CH
      clear hh HO0 HS hlt
      go_wp2_with (first|(go_at_call 17;refine Calls.mono (CI.out _) ?_;rintro e w1 ⟨rfl,rfl⟩)|(go_at_call 23;rw [HVV.out];refine Calls.mono CH.out ?_;rintro e w2 ⟨rfl,hb2⟩;have HB2:=hidI hb2;have z0:=zaJ hb2 (HAK.out 0 _ rfl);have z1:=zaJ hb2 (HAK.out 1 _ rfl);clear hb2 CH;refine Hid.out ?_))
      have HO2:=hidI (zbQ HOV.out HB2.out (Nat.le_refl _))
      have HO:=hidI (World.ownsRow.alloc HO2.out (.cells #[.string nm,.int .u8 (sd:Int)] 25))
      have HVS:=hidI (zbT w2 25 2 #[.string nm,.int .u8 (sd:Int)] rfl)
      have HBW2:=hidI (HBV.out.trans (HB2.out.mono HBV.out.size))
      have hz2:=HBW2.out.size
      clear HOV HO2
      refine hidI ?_
      go_wp2_with (at_builtin;go_must (refine zbF Tryz.underlying27 infoKey rfl (by decide) (by decide) rfl _ _ rfl w.heap.size kv j (flatK (ds.take j)) rfl HO.out _ 1 [.string nm,.int .u8 (sd:Int)] rfl HVS.out (by simp [Value.oneCell']) (by omega) (by simp;omega) ?_);intro v9 w9 hown9 hgrow9 hat9;refine Hid.out ?_)
      have HB9:Hid (Below w.heap.size w w9):=hidI ((HBW2.out.alloc hz2 _).grown hgrow9 (by simp;omega) (fun k hk=>by have:=(HO.out.lt k hk).1;omega))
      have HO9:Hid (w9.ownsRow w.heap.size 25 2 v9 (j+1) (flatK (ds.take (j+1)))):=hidI (by rw [HTK.out];exact hown9)
      clear hown9 hgrow9 hat9 HO HVS HB2
      refine hidI ?_
      go_wp2
      go_roundg g
      case measure=>omega
      case rel=>exact ⟨j+1,v9,by omega,rfl,by go_num,by omega,HXX,HO9,HB9⟩
end Go.Proofs.YtmekkhfohmfjkaaGreatDoor
