/-
  Part 36 of the proof: DeclK, DcM, DcP.
-/
import Derived.Test.YtfljimpgnlfipaaGreatDoorTE27
import Derived.Test.YtfljimpgnlfipaaGreatDoorTE03
import Derived.Test.YtfljimpgnlfipaaGreatDoorTE35
import Derived.Test.YtfljimpgnlfipaaGreatDoorTE06
import Derived.Test.YtfljimpgnlfipaaGreatDoorTE04
import Derived.Test.YtfljimpgnlfipaaGreatDoorTE05
namespace Go.Proofs.YtfljimpgnlfipaaGreatDoor
open Go.RowKit Go.Deep Go.MapKept
def isDcl (nm:ByteArray) (sd kd:Nat):Bool:=nameB nm && (decide (1≤sd) && (decide (sd≤3) && (decide (1≤kd) && decide (kd≤2))))
set_option maxHeartbeats 1000000 in
theorem isDecl_any (nm:ByteArray) (sd kd:Nat) (hs:nm.size≤140737488355328) (w:World) (hL:Laid w):Calls Tryz.prog 61 #[.agg #[.string nm,.int .u8 (sd:Int),.int .u8 (kd:Int)]] w fun e w'=>e=.returned (.bool (isDcl nm sd kd))∧Below w.heap.size w w':=by
 have hA:Below w.heap.size w (w.alloc (.cells #[.string nm,.int .u8 (sd:Int),.int .u8 (kd:Int)] 106)):=(Below.refl _ _).alloc (Nat.le_refl _) _;have C:=hidI (isName2_any nm hs (w.alloc (.cells #[.string nm,.int .u8 (sd:Int),.int .u8 (kd:Int)] 106)) (hL.on hA));have HA:=hidI hA;have HC0:Hid ((w.alloc (.cells #[.string nm,.int .u8 (sd:Int),.int .u8 (kd:Int)] 106)).cell? ⟨w.heap.size,1,none⟩=some (.int .u8 (sd:Int))):=hidI (by go_simp);have HC1:Hid ((w.alloc (.cells #[.string nm,.int .u8 (sd:Int),.int .u8 (kd:Int)] 106)).cell? ⟨w.heap.size,2,none⟩=some (.int .u8 (kd:Int))):=hidI (by go_simp);have HR:Hid (isDcl nm sd kd=(nameB nm && (decide ((1:Int)≤(sd:Int)) && (decide ((sd:Int)≤3) && (decide ((1:Int)≤(kd:Int)) && decide ((kd:Int)≤2)))))):=hidI (by
  unfold isDcl;rw [show decide (1≤sd)=decide ((1:Int)≤(sd:Int)) by congr 1;simp;omega,show decide (sd≤3)=decide ((sd:Int)≤3) by congr 1;simp;omega,show decide (1≤kd)=decide ((1:Int)≤(kd:Int)) by congr 1;simp;omega,show decide (kd≤2)=decide ((kd:Int)≤2) by congr 1;simp;omega])
 rw [HR.out];obtain ⟨b0,h0⟩:∃ b,nameB nm=b:=⟨_,rfl⟩;obtain ⟨b1,h1⟩:∃ b,decide ((1:Int)≤(sd:Int))=b:=⟨_,rfl⟩;obtain ⟨b2,h2⟩:∃ b,decide ((sd:Int)≤3)=b:=⟨_,rfl⟩;obtain ⟨b3,h3⟩:∃ b,decide ((1:Int)≤(kd:Int))=b:=⟨_,rfl⟩;obtain ⟨b4,h4⟩:∃ b,decide ((kd:Int)≤2)=b:=⟨_,rfl⟩;rw [h0] at C;rw [h0,h1,h2,h3,h4];clear hL hA HR h0;cases b0<;>cases b1<;>cases b2<;>cases b3<;>cases b4;all_goals
  go_enter Tryz.func61,Tryz.ntmps61
  go_wp2_with (go_at_call 107;refine C.out.mono ?_;intro e w1 hh;obtain ⟨rfl,hb1⟩:=hh;clear C;have c1:=(hb1.cell (World.block_lt_of_cell? _ _ HC0.out)).trans HC0.out;have c2:=(hb1.cell (World.block_lt_of_cell? _ _ HC1.out)).trans HC1.out)
  go_ret;exact ⟨rfl,HA.out.trans (hb1.mono HA.out.size)⟩
@[go_sem] def opsKN:Nat→Oper
 | 0=>⟨some 3,.fieldAddr 106 (.tmp 1) 0,0, "scope.go:42",#[],none⟩
 | 1=>⟨some 4,.load 9 (.tmp 3),9, "scope.go:42",#[⟨0,.data⟩],none⟩
 | 2=>⟨some 5,.call ⟨.value (.func 41),#[.tmp 4],#[9]⟩,9, "scope.go:42",#[⟨1,.data⟩],none⟩
 | 3=>⟨some 6,.fieldAddr 106 (.tmp 1) 1,0, "scope.go:42",#[],none⟩
 | 4=>⟨some 7,.load 104 (.tmp 6),104, "scope.go:42",#[⟨3,.data⟩],none⟩
 | 5=>⟨some 8,.build 117 #[(0,.tmp 5),(1,.tmp 7)],117, "scope.go:42",#[⟨2,.data⟩,⟨4,.data⟩],none⟩
 | _=>⟨none,.store 117 (.tmp 2) (.tmp 8),0, "scope.go:42",#[⟨5,.data⟩,⟨2,.chain⟩,⟨0,.phase⟩,⟨1,.phase⟩,⟨2,.phase⟩,⟨3,.phase⟩,⟨4,.phase⟩,⟨5,.phase⟩],none⟩
def opsK:Array Oper:=opsA opsKN 6
theorem opsK_0:opsK[0]?=some (opsKN 0):=zdA opsKN 6 (by decide)
theorem opsK_1:opsK[1]?=some (opsKN 1):=zdA opsKN 6 (by decide)
theorem opsK_2:opsK[2]?=some (opsKN 2):=zdA opsKN 6 (by decide)
theorem opsK_3:opsK[3]?=some (opsKN 3):=zdA opsKN 6 (by decide)
theorem opsK_4:opsK[4]?=some (opsKN 4):=zdA opsKN 6 (by decide)
theorem opsK_5:opsK[5]?=some (opsKN 5):=zdA opsKN 6 (by decide)
theorem opsK_6:opsK[6]?=some (opsKN 6):=zdA opsKN 6 (by decide)
set_option maxRecDepth 100000 in
set_option maxHeartbeats 2000000 in
theorem regK {x0 x3 x4 x5 x6 x7 x8:Value} {Q:Exit→Act→World→Prop} {V0:World} {db kb:Nat} {nm:ByteArray} {sd:Int} {v0 v1:Value}
  (c0:V0.drew.cell? ⟨db,0,none⟩=some (.string nm)) (c1:V0.drew.cell? ⟨db,1,none⟩=some (.int .u8 sd)) (r0:V0.drew.cell? ⟨kb,0,none⟩=some v0) (r1:V0.drew.cell? ⟨kb,1,none⟩=some v1) (fz:∀ j,V0.drew.frozen? ⟨kb,j,none⟩=false)
  (HC:Hid (∀ W,Calls Tryz.prog 41 #[.string nm] W fun e w'=>e=.returned (.string nm)∧Below W.heap.size W w'))
  (hpan:∀ c (a:Act) w (dd:Tmp) vv,Q (.panic c) (a.put (some dd) vv) w→Q (.panic c) a w)
  (hQ:∀ (W:World) (t3 t4 t5 t6 t7 t8:Value),Below V0.drew.heap.size V0.drew W→Q .normal { tmps:=#[x0,.pointer (some ⟨db,0,none⟩),.pointer (some ⟨kb,0,none⟩),t3,t4,t5,t6,t7,t8],defers:=[] } ((W.setCell ⟨kb,0,none⟩ (.string nm)).setCell ⟨kb,1,none⟩ (.int .u8 sd))) :
  (Code.region 1 opsK true).wp Tryz.prog Q { tmps:=#[x0,.pointer (some ⟨db,0,none⟩),.pointer (some ⟨kb,0,none⟩),x3,x4,x5,x6,x7,x8],defers:=[] } V0:=by
 refine zcC (fun y=>(y.heap[db]?=V0.drew.heap[db]?∧y.heap[kb]?=V0.drew.heap[kb]?)) 6 Tryz.mixed ?_;obtain ⟨V,hV⟩:∃ V,V0.drew=V:=⟨_,rfl⟩;rw [hV] at c0 c1 r0 r1 fz hQ ⊢;clear hV;have HQ:=hidI hQ;have HPan:=hidI hpan;have hS0:(V.heap[db]?=V.heap[db]?∧V.heap[kb]?=V.heap[kb]?):=⟨rfl,rfl⟩;have hDl:db<V.heap.size:=World.block_lt_of_cell? V _ c0;have hKl:kb<V.heap.size:=World.block_lt_of_cell? V _ r0;clear hQ hpan;refine wpZ_t [1,2,5,6] (i:=0) (v:=(.pointer (some ⟨db,0,none⟩))) opsK_0 HPan.out hS0 (fun y hy => ?_) ?_
 ·go_simp
 refine wpZ_t [2,5,6] (i:=1) (v:=(.string nm)) opsK_1 HPan.out hS0 (fun y hy => ?_) ?_
 ·have q0:=(World.cell?_of_block (w:=V) (a:=⟨db,0,none⟩) hy.1).trans c0;go_simp
 refine wpZ_t [4,5,6] (i:=3) (v:=(.pointer (some ⟨db,1,none⟩))) opsK_3 HPan.out hS0 (fun y hy => ?_) ?_
 ·go_simp
 refine wpZ_t [5,6] (i:=4) (v:=(.int .u8 sd)) opsK_4 HPan.out hS0 (fun y hy => ?_) ?_
 ·have q1:=(World.cell?_of_block (w:=V) (a:=⟨db,1,none⟩) hy.1).trans c1;go_simp
 refine zcE (rs:=[2]) (by kernel_rfl) (by simp) fun j2 hj2 => ?_
 obtain rfl:j2=2:=by simpa using hj2
 refine zbN opsK_2 rfl fun K1 hK1 => ?_
 unfold Oper.wp;go_simp;refine Calls.mono (HC.out V) ?_;intro e W1 h1;obtain ⟨rfl,hb1⟩:=h1;refine hK1 _ _ ⟨fun _=>⟨hb1.block _ hDl,hb1.block _ hKl⟩,?_⟩;clear hK1 K1;have hS1:(W1.heap[db]?=V.heap[db]?∧W1.heap[kb]?=V.heap[kb]?):=⟨hb1.block _ hDl,hb1.block _ hKl⟩;refine wpZ_t [6] (i:=5) (v:=(.agg #[.string nm,.int .u8 sd])) opsK_5 HPan.out hS1 (fun y hy => ?_) ?_
 ·go_simp
 refine zdQ (by kernel_rfl) (by kernel_rfl) ?_ _;refine zbN opsK_6 rfl fun K1 hK1 => ?_
 have s0:=(World.cell?_of_block (w:=V) (a:=⟨kb,0,none⟩) hS1.2).trans r0;have s1:=(World.cell?_of_block (w:=V) (a:=⟨kb,1,none⟩) hS1.2).trans r1;have g0:=(World.frozen?_of_block (w:=V) (a:=⟨kb,0,none⟩) hS1.2).trans (fz 0);have g1:=(World.frozen?_of_block (w:=V) (a:=⟨kb,1,none⟩) hS1.2).trans (fz 1);unfold Oper.wp;go_simp;refine hK1 _ _ ?_;exact HQ.out W1 _ _ _ _ _ _ hb1
theorem keyOf_any (nm:ByteArray) (sd kd:Nat) (hs:nm.size≤140737488355328) (w:World):Calls Tryz.prog 62 #[.agg #[.string nm,.int .u8 (sd:Int),.int .u8 (kd:Int)]] w fun e w'=>e=.returned (.agg #[.string nm,.int .u8 (sd:Int)])∧Below w.heap.size w w':=by
 have HC:=hidI (fun W=>clone_any nm hs W);have HB:Hid (Below w.heap.size w ((w.alloc (.cells #[.string nm,.int .u8 (sd:Int),.int .u8 (kd:Int)] 106)).alloc (.cells #[.string ⟨#[]⟩,.int .u8 0] 117))):=hidI (((Below.refl _ _).alloc (Nat.le_refl _) _).alloc (by simp) _);go_enter Tryz.func62,Tryz.ntmps62;go_wp2;have k0:((w.alloc (.cells #[.string nm,.int .u8 (sd:Int),.int .u8 (kd:Int)] 106)).alloc (.cells #[.string ⟨#[]⟩,.int .u8 0] 117)).cell? ⟨w.heap.size+1,0,none⟩=some (.string ⟨#[]⟩):=by go_simp
 have k1:((w.alloc (.cells #[.string nm,.int .u8 (sd:Int),.int .u8 (kd:Int)] 106)).alloc (.cells #[.string ⟨#[]⟩,.int .u8 0] 117)).cell? ⟨w.heap.size+1,1,none⟩=some (.int .u8 0):=by go_simp
 refine regK (db:=w.heap.size) (kb:=w.heap.size+1) (nm:=nm) (sd:=(sd:Int)) (v0:=.string ⟨#[]⟩) (v1:=.int .u8 0) (by go_simp) (by go_simp) (by go_simp) (by go_simp) (fun j=>by go_simp) HC (fun _ _ _ _ _ h=>h) ?_;intro W t3 t4 t5 t6 t7 t8 hW;have c0:=(hW.cell (World.block_lt_of_cell? _ _ k0)).trans k0;have c1:=(hW.cell (World.block_lt_of_cell? _ _ k1)).trans k1;have HBW:Hid (Below w.heap.size w W):=hidI (HB.out.trans (Below.mono ⟨hW.os,hW.tape,hW.output,hW.size,hW.block⟩ (by simp;omega)));clear hW k0 k1;go_wp2;refine bodyPost_ret (v:=.agg #[.string nm,.int .u8 (sd:Int)]) ?_ rfl ?_
 ·rw [zaC rfl]
  (go_simp<;>first|done|rfl)
 ·exact ⟨rfl,(HBW.out.setCell (by show w.heap.size≤w.heap.size+1;omega) _).setCell (by show w.heap.size≤w.heap.size+1;omega) _⟩
open Go.ChangeMaps (setBlock heap_setBlock_same heap_setBlock_other)
def hasK (l:List Dcl) (nm:ByteArray) (sd:Nat):Bool:=l.any (isK nm sd)
def dErr (ds:List Dcl) (j:Nat) (d:Dcl):Int:=if j=24 then 4 else if isDcl d.name d.side d.kind=false then 3 else if hasK (ds.take j) d.name d.side=true then 6 else 0
def declR (ds:List Dcl):Nat→List Dcl→Int × Int
 | _,[]=>(0,0)
 | j,d::r=>if dErr ds j d=0 then declR ds (j+1) r else ((j:Int),dErr ds j d)
def fD (ds:List Dcl) (j:Nat):ByteArray × Nat→Option Value:=fun x=>if hasK (ds.take j) x.1 x.2=true then some (.int .i64 1) else none
theorem fD_step {ds:List Dcl} {j:Nat} {d:Dcl} (h:ds[j]?=some d):updKy (fD ds j) (d.name,d.side) (.int .i64 1)=fD ds (j+1):=by
 funext x;have ht:ds.take (j+1)=ds.take j++[d]:=by rw [List.take_add_one,h];rfl
 unfold updKy fD hasK;rw [ht,List.any_append];by_cases e:x=(d.name,d.side)
 ·subst e;rw [if_pos rfl];simp [isK]
 ·rw [if_neg e];have:isK x.1 x.2 d=false:=by
   unfold isK;cases h1:decide (d.name=x.1) with
   | false=>rfl
   | true=>
    cases h2:decide (d.side=x.2) with
    | false=>rfl
    | true=>exact absurd (Prod.ext (of_decide_eq_true h1).symm (of_decide_eq_true h2).symm) e
  simp [this]
def kcells (d:Dcl):List Value:=[.string d.name,.int .u8 (d.side:Int)]
def flatK (ds:List Dcl):List Value:=ds.flatMap kcells
theorem zeroInt (w:World):(zeroValue 3).run Tryz.prog w=.ok (.int .i64 0) w:=by kernel_rfl
theorem underKM:Tryz.prog.underlying 114=some (.map 117 3):=by kernel_rfl
structure DS (e:Nat) (w V:World) (mb:Nat) (o1:Obj) (l:Array Bool) (y:World):Prop where
 b:Below mb w y
 size:V.heap.size≤y.heap.size
 far:∀ k,k≠mb→k<V.heap.size→y.heap[k]?=V.heap[k]?
 old:l[e]?=some false→y.heap[mb]?=V.heap[mb]?
 new:l[e]?=some true→y.heap[mb]?=some o1
 map:∃ es clock,y.heap[mb]?=some (.map es clock)
theorem DS.keep {e:Nat} {w V y:World} {mb:Nat} {o1:Obj} {l:Array Bool} (h:DS e w V mb o1 l y) {i:Nat} (hi:i≠e):DS e w V mb o1 (l.setIfInBounds i true) y:=by
 refine ⟨h.b,h.size,h.far,?_,?_,h.map⟩
 ·rw [zbM hi];exact h.old
 ·rw [zbM hi];exact h.new
theorem DS.cell {e:Nat} {w V y:World} {mb:Nat} {o1:Obj} {l:Array Bool} (h:DS e w V mb o1 l y) {q:Addr} {v:Value} (hq:q.block≠mb) (hv:V.cell? q=some v):y.cell? q=some v:=(World.cell?_of_block (h.far _ hq (World.block_lt_of_cell? _ _ hv))).trans hv
theorem below_setBlock {B mb:Nat} {w y:World} {es:Array MapEntry} {clock:Nat} (h:Below B w y) (hm:y.heap[mb]?=some (.map es clock)) (hB:B≤mb) (o:Obj):Below B w (setBlock y mb o):=
 ⟨h.os,h.tape,h.output,by have:=h.size;simpa [setBlock] using this,fun k hk=>(heap_setBlock_other hm o (by omega)).trans (h.block k hk)⟩
theorem DS.entry {e:Nat} {w V y:World} {mb:Nat} {es0:Array MapEntry} {cl0:Nat} {l:Array Bool} (h:DS e w V mb (.map es0 cl0) l y) (hl:l[e]?=some false):DS e w V mb (.map es0 cl0) (l.setIfInBounds e true) (setBlock y mb (.map es0 cl0)):=by
 obtain ⟨es,clock,hm⟩:=h.map;have hs:e<l.size:=(Array.getElem?_eq_some_iff.1 hl).1;refine ⟨below_setBlock h.b hm (Nat.le_refl _) _,by have:=h.size;simpa [setBlock] using this,fun k hk hv=>(heap_setBlock_other hm _ hk).trans (h.far k hk hv),?_,fun _=>heap_setBlock_same hm _,⟨_,_,heap_setBlock_same hm _⟩⟩;rw [Array.getElem?_setIfInBounds,if_pos rfl,if_pos hs];intro h;cases h
structure DEm (w V:World) (mb:Nat) (o2:Obj) (y:World):Prop where
 b:Below mb w y
 size:V.heap.size≤y.heap.size
 far:∀ k,k≠mb→k<V.heap.size→y.heap[k]?=V.heap[k]?
 at_:y.heap[mb]?=some o2
theorem DS.last {e:Nat} {w V y:World} {mb:Nat} {o1 o2:Obj} {l:Array Bool} (h:DS e w V mb o1 l y):DEm w V mb o2 (setBlock y mb o2):=by
 obtain ⟨es,clock,hm⟩:=h.map;exact ⟨below_setBlock h.b hm (Nat.le_refl _) _,by have:=h.size;simpa [setBlock] using this,fun k hk hv=>(heap_setBlock_other hm _ hk).trans (h.far k hk hv),heap_setBlock_same hm _⟩
theorem DEm.cell {w V y:World} {mb:Nat} {o2:Obj} (h:DEm w V mb o2 y) {q:Addr} {v:Value} (hq:q.block≠mb) (hv:V.cell? q=some v):y.cell? q=some v:=(World.cell?_of_block (h.far _ hq (World.block_lt_of_cell? _ _ hv))).trans hv
theorem own_of_heap {w w':World} {base e size n:Nat} {v:Value} {xs:List Value} (h:w.ownsRow base e size v n xs) (hk:∀ k,base≤k→k<w.heap.size→w'.heap[k]?=w.heap[k]?):w'.ownsRow base e size v n xs:=by
 refine ⟨h.1,?_⟩;rcases h.2 with h|⟨g,cap,cur,hv,hb,hh,r⟩
 ·exact .inl h
 ·exact .inr ⟨g,cap,cur,hv,hb,(hk g hb (Array.getElem?_eq_some_iff.1 hh).1).trans hh,r⟩
def DclPost (w:World) (R:Int × Int) (ds:List Dcl) (e:Ending) (w':World):Prop:=∃ kv,e=.returned (.tuple #[kv,.int .i64 R.1,.int .i64 R.2])∧(R.2=0→w'.ownsRow w.heap.size 117 2 kv ds.length (flatK ds))∧(R.2≠0→kv=.slice none 0 0)
theorem infoKey:(Tryz.prog.info? 117).map (fun i=>(i.zero,i.size,i.bytes))=some (some (.agg #[.string ⟨#[]⟩,.int .u8 0]),2,24):=by kernel_rfl
open Go.ChangeMaps (setBlock heap_setBlock_same heap_setBlock_other)
def dr13o0:Oper:=⟨some 32,.move (.tmp 5),114, "scope.go:28",#[],none⟩
def dr13o1:Oper:=⟨some 33,.load 117 (.tmp 9),117, "scope.go:28",#[],none⟩
def dr13o2:Oper:=⟨some 34,.lookup 114 (.tmp 32) (.tmp 33) false,3, "scope.go:28",#[⟨0,.data⟩,⟨1,.data⟩],none⟩
def dr13o3:Oper:=⟨some 35,.binOp .add 3 (.tmp 34) (.const (.int .i64 1)) 3,3, "scope.go:28",#[⟨2,.data⟩],none⟩
def dr13o4:Oper:=⟨some 36,.mapEntry 114 (.tmp 32) (.tmp 33),0, "scope.go:28",#[⟨0,.data⟩,⟨1,.data⟩,⟨0,.phase⟩,⟨1,.phase⟩,{ on:=2,ground:=Go.Ground.textOnly Go.Departure.mapOpAssignEntry },{ on:=3,ground:=Go.Ground.textOnly Go.Departure.mapOpAssignEntry }],none⟩
def dr13o5:Oper:=⟨some 37,.extract (.tmp 36) 1,3, "scope.go:28",#[⟨4,.data⟩],none⟩
def dr13o6:Oper:=⟨none,.entryStore 114 (.tmp 32) (.tmp 37) (.tmp 35),0, "scope.go:28",#[⟨0,.data⟩,⟨5,.data⟩,⟨3,.data⟩,⟨4,.chain⟩,⟨0,.phase⟩,⟨1,.phase⟩,⟨2,.phase⟩,⟨3,.phase⟩,⟨4,.phase⟩,⟨5,.phase⟩],none⟩
def dr13:Array Oper:=#[dr13o0,dr13o1,dr13o2,dr13o3,dr13o4,dr13o5,dr13o6]
theorem dr13_0:dr13[0]?=some dr13o0:=by kernel_rfl
theorem dr13_1:dr13[1]?=some dr13o1:=by kernel_rfl
theorem dr13_2:dr13[2]?=some dr13o2:=by kernel_rfl
theorem dr13_3:dr13[3]?=some dr13o3:=by kernel_rfl
theorem dr13_4:dr13[4]?=some dr13o4:=by kernel_rfl
theorem dr13_5:dr13[5]?=some dr13o5:=by kernel_rfl
theorem dr13_6:dr13[6]?=some dr13o6:=by kernel_rfl
theorem dr13_d0:dstOf dr13 0=some 32:=by kernel_rfl
theorem dr13_d1:dstOf dr13 1=some 33:=by kernel_rfl
theorem dr13_d2:dstOf dr13 2=some 34:=by kernel_rfl
theorem dr13_d3:dstOf dr13 3=some 35:=by kernel_rfl
theorem dr13_d4:dstOf dr13 4=some 36:=by kernel_rfl
theorem dr13_d5:dstOf dr13 5=some 37:=by kernel_rfl
def AtBd (w:World) (b:Nat) (cs:List Value):Prop:=∀ (j:Nat) (v:Value),cs[j]?=some v→w.cell? ⟨b,j,none⟩=some v
theorem AtBd.on {w w':World} {b:Nat} {cs:List Value} (h:AtBd w b cs) (hb:Below w.heap.size w w'):AtBd w' b cs:=fun j v hj=>zaJ hb (h j v hj)
theorem AtBd.new (w:World) (ty:TypeId) (cs:Array Value):AtBd (w.alloc (.cells cs ty)) w.heap.size cs.toList:=fun j v hj=>by
 rw [cell_of_row _ w.heap.size j cs ty (0,0) (MapKept.heap_alloc w _).1];simpa using hj
set_option maxRecDepth 100000 in
set_option maxHeartbeats 4000000 in
theorem declared_any (w:World) (hL:Laid w) (v:Value) (ds:List Dcl) (hv:SeesD w v ds) (_hl:ds.length≤1000) (hn:∀ d∈ds,d.name.size≤140737488355328∧d.side<256) :
  Calls Tryz.prog 28 #[v] w fun e w'=>DclPost w (declR ds 0 ds) ds e w'∧Below w.heap.size w w':=by
 obtain ⟨_,a,cap,rfl,_⟩:=id hv;obtain ⟨n,hlen⟩:∃ n,ds.length=n:=⟨_,rfl⟩;obtain ⟨R,hR⟩:∃ R,declR ds 0 ds=R:=⟨_,rfl⟩;rw [hR];have HR:Hid (declR ds 0 (ds.drop 0)=R):=hidI (by simpa using hR);have HL:=hidI hL;have HV:=hidI hv;have HN:=hidI hlen;have HNM:=hidI hn;rw [hlen] at _hl ⊢;have hmade:=hidI (mapK_made KK w);clear hR hL hv hlen hn;have hmm:=@run_makeMap Tryz.prog;go_enter Tryz.func28,Tryz.ntmps28;go_wp2
 go_loopg [6,13] n (fun g s6 s13 wx=>∃ (j:Nat) (kv:Value),j+g=n∧kv=s6∧s13=.int .i64 (j:Int)∧j≤24∧Hid (declR ds j (ds.drop j)=R)∧Hid (MapK KK wx w.heap.size (fD ds j))∧Hid (wx.ownsRow (w.heap.size+1) 117 2 kv j (flatK (ds.take j)))∧Hid (Below w.heap.size w wx))
 case atStart=>exact ⟨0,_,by omega,rfl,rfl,by omega,HR,hidI hmade.out,hidI (World.ownsRow_nil _ _ _ _),hidI ((Below.refl _ _).alloc (Nat.le_refl _) _)⟩
 case round=>
  obtain ⟨j,kv,hj,rfl,rfl,hj24,HX,HMP,HO0,HBW⟩:=hrel;cases gk with
  | zero=>
   obtain rfl:n=j:=by omega
   have k1:decide ((n:Int)<(n:Int))=false:=by simp
   have hX:=HX.out;rw [List.drop_eq_nil_of_le (by have:=HN.out;omega)] at hX;have HR2:Hid (R=(0,0)):=hidI hX.symm;have HOF:Hid (wr.ownsRow w.heap.size 117 2 kv ds.length (flatK ds)):=hidI (by
    have h:=HO0.out;rw [List.take_of_length_le (by have:=HN.out;omega)] at h;rw [HN.out];refine ⟨h.1,?_⟩;rcases h.2 with h|⟨g,cap,cur,hv,hb,r⟩
    ·exact .inl h
    ·exact .inr ⟨g,cap,cur,hv,by omega,r⟩)
   clear hX HX HR HMP HO0;go_wp2;go_ret3;exact ⟨⟨_,by rw [HR2.out];rfl,fun _=>HOF.out,fun h=>by rw [HR2.out] at h;exact absurd rfl h⟩,HBW.out⟩
  | succ g=>
   have k1:(j:Int)<(n:Int):=by omega
   obtain ⟨d,hd⟩:∃ d,ds[j]?=some d:=⟨_,List.getElem?_eq_getElem (by have:=HN.out;omega)⟩;obtain ⟨db,do',cap2,hvd,y0,y1,y2⟩:=(HV.out).cell hd;obtain ⟨rfl,rfl⟩:a=some ⟨db,do',none⟩∧cap=cap2:=by cases hvd;exact ⟨rfl,rfl⟩
   obtain ⟨hsz,hsd⟩:=HNM.out d (List.mem_of_getElem? hd);have x0:=zaJ HBW.out y0;have x1:=zaJ HBW.out y1;have x2:=zaJ HBW.out y2;have HST0:=hidI (fD_step hd);have htk:ds.take (j+1)=ds.take j++[d]:=by rw [List.take_add_one,hd];rfl
   have HTK:Hid (flatK (ds.take (j+1))=flatK (ds.take j)++[.string d.name,.int .u8 (d.side:Int)]):=hidI (by rw [htk];simp [flatK,kcells]);have hX:=HX.out;rw [List.drop_eq_getElem_cons (by have:=HN.out;omega),show ds[j]'(by have:=HN.out;omega)=d from Option.some.inj ((List.getElem?_eq_getElem _).symm.trans hd)] at hX;unfold declR dErr at hX;obtain ⟨nm,sd,kd⟩:=d;simp only at hsz hsd y0 y1 y2 x0 x1 x2 HTK HST0 hX;have HSZ:=hidI hsz;have HSD:=hidI hsd;have HXX:=hidI hX;clear hX HX htk hd hvd y0 y1 y2 HR hsz hsd;have hbV:Below wr.heap.size wr (wr.alloc (.cells #[.string nm,.int .u8 (sd:Int),.int .u8 (kd:Int)] 106)):=(Below.refl _ _).alloc (Nat.le_refl _) _;have HBV0:=hidI (HBW.out.trans (hbV.mono HBW.out.size));by_cases h24:j=24
   ·have HR2:Hid (R=((j:Int),4)):=hidI (by have:=HXX.out;rw [if_pos h24,if_neg (by decide)] at this;exact this.symm);have e1:((j:Int)==24)=true:=by rw [beq_iff_eq];omega
    clear HXX h24 hbV HMP HO0 hj24;go_wp2;go_ret3;exact ⟨⟨_,by rw [HR2.out];rfl,fun h=>by rw [HR2.out] at h;exact absurd h (by simp),fun _=>rfl⟩,HBV0.out⟩
   ·have e1:((j:Int)==24)=false:=by rw [beq_eq_false_iff_ne];omega
    have H24:=hidI h24;have CI:=hidI (isDecl_any nm sd kd HSZ.out _ (HL.out.on HBV0.out));have HAt:=hidI (AtBd.new wr 106 #[.string nm,.int .u8 (sd:Int),.int .u8 (kd:Int)]);obtain ⟨V1,hV1⟩:∃ V1,wr.alloc (.cells #[.string nm,.int .u8 (sd:Int),.int .u8 (kd:Int)] 106)=V1:=⟨_,rfl⟩;have HV1E:=hidI hV1;rw [hV1] at hbV HBV0 HAt;have HBV:=hidI HBV0.out;have HC0:=hidI hbV;have hj23:j≤23:=by omega
    clear hV1 hbV HBV0 h24 hj24;cases hi:isDcl nm sd kd with
    | false=>
     have HR2:Hid (R=((j:Int),3)):=hidI (by have:=HXX.out;rw [if_neg H24.out,if_pos hi,if_neg (by decide)] at this;exact this.symm);rw [hi] at CI;clear hi HXX HMP HO0
     go_wp2_with (go_at_call 61;refine Calls.mono CI.out ?_;intro e w1 h1;obtain ⟨rfl,hb1⟩:=h1;clear CI;have hb1:Below V1.heap.size V1 w1:=HV1E.out▸hb1;have HB1:=hidI (HBV.out.trans (hb1.mono HBV.out.size));have HAt1:=hidI (HAt.out.on hb1);have z0:=HAt1.out 0 _ rfl;have z1:=HAt1.out 1 _ rfl;have z2:=HAt1.out 2 _ rfl;have HC1:=hidI hb1;clear hb1)
     go_ret3;exact ⟨⟨_,by rw [HR2.out];rfl,fun h=>by rw [HR2.out] at h;exact absurd h (by simp),fun _=>rfl⟩,HB1.out⟩
    | true=>
     have HI:=hidI (show ¬ isDcl nm sd kd=false by rw [hi];decide);rw [hi] at CI;clear hi
     go_wp2_with (first|(go_at_call 61;refine Calls.mono CI.out ?_;intro e w1 h1;obtain ⟨rfl,hb1⟩:=h1;clear CI;have hb1:Below V1.heap.size V1 w1:=HV1E.out▸hb1;have HB1:=hidI (HBV.out.trans (hb1.mono HBV.out.size));have HAt1:=hidI (HAt.out.on hb1);have z0:=HAt1.out 0 _ rfl;have z1:=HAt1.out 1 _ rfl;have z2:=HAt1.out 2 _ rfl;have HC1:=hidI hb1;clear hb1)|(go_at_call 62;refine Calls.mono (keyOf_any nm sd kd HSZ.out _) ?_;intro e w3 h3;obtain ⟨rfl,hb3⟩:=h3;have HB3:=hidI (HB1.out.trans (hb3.mono HB1.out.size));have HC3:=hidI (HC1.out.trans (hb3.mono HC1.out.size));clear hb3;refine Hid.out ?_))
     have hmlt:=HMP.out.lt;have HMB:Hid (w.heap.size<w3.heap.size):=hidI (by have:=HC0.out.size;have:=HC3.out.size;omega);have hC:=HC0.out.trans (HC3.out.mono HC0.out.size);have HM3:=hidI (HMP.out.same (hC.block _ hmlt));have HO3:=hidI (zcN HO0.out hC (Nat.le_refl _));have hok:KK.ok (nm,sd):=⟨by have:=HSZ.out;show nm.size≤maxLen;unfold maxLen;omega,HSD.out⟩;obtain ⟨V,hV⟩:∃ V,w3.alloc (.cells #[.string nm,.int .u8 (sd:Int)] 117)=V:=⟨_,rfl⟩;have hb3:Below w3.heap.size w3 V:=hV▸(Below.refl _ _).alloc (Nat.le_refl _) _;have HBVV:=hidI (HB3.out.trans (hb3.mono HB3.out.size));have HMV:=hidI (HM3.out.same (hb3.block _ HMB.out));have HOV:=hidI (zcN HO3.out hb3 (Nat.le_refl _));have hAK:=AtBd.new w3 117 #[.string nm,.int .u8 (sd:Int)];rw [hV] at hAK;have HV0:=hidI (hAK 0 _ rfl);have HV1:=hidI (hAK 1 _ rfl);have HVV:=hidI hV;clear hAK hb3 hC hmlt HM3 HO3 HMP HO0 HC3 HC1 HC0 HAt HAt1 hV;refine hidI ?_;cases hh:hasK (ds.take j) nm sd with
     | true=>
      have HR2:Hid (R=((j:Int),6)):=hidI (by have:=HXX.out;rw [if_neg H24.out,if_neg HI.out,if_pos hh,if_neg (by decide)] at this;exact this.symm);have hlk:(Instr.lookup 114 (.map (some w.heap.size)) (ke nm sd) false).run Tryz.prog V=.ok (.int .i64 1) V:=by
       have h:=lookK underKM zeroInt HMV.out hok false;rw [show fD ds j (nm,sd)=some (.int .i64 1) by unfold fD;rw [if_pos hh]] at h;exact h
      rw [←HVV.out] at hlk;clear hh HXX HMV HOV;go_wp2;go_ret3;exact ⟨⟨_,by rw [HR2.out];rfl,fun h=>by rw [HR2.out] at h;exact absurd h (by simp),fun _=>rfl⟩,by rw [HVV.out];exact HBVV.out⟩
     | false=>
      replace HXX:Hid (declR ds (j+1) (ds.drop (j+1))=R):=hidI (by have:=HXX.out;rw [if_neg H24.out,if_neg HI.out,if_neg (show ¬ hasK (ds.take j) nm sd=true by rw [hh];decide),if_pos rfl] at this;exact this);have hf0:fD ds j (nm,sd)=none:=by unfold fD;rw [if_neg (by rw [hh];decide)]
      have hlk:(Instr.lookup 114 (.map (some w.heap.size)) (ke nm sd) false).run Tryz.prog V=.ok (.int .i64 0) V:=by
       have h:=lookK underKM zeroInt HMV.out hok false;rw [hf0] at h;exact h
      obtain ⟨st,o1,hme,hm1,hst⟩:=entryK underKM zeroInt HMV.out hok;rw [hf0] at hme hm1;obtain ⟨esV,clV,hbV,_⟩:=id HMV.out;obtain ⟨es1,cl1,rfl⟩:∃ es1 cl1,o1=.map es1 cl1:=by
       obtain ⟨es,cl,h,_⟩:=hm1 (setBlock V w.heap.size o1) (heap_setBlock_same hbV _);rw [heap_setBlock_same hbV] at h;exact ⟨es,cl,Option.some.inj h⟩
      obtain ⟨o2,hs2,hm2⟩:=hst (.int .i64 1);have HME:Hid (∀ u:World,u.heap[w.heap.size]?=V.heap[w.heap.size]?→(Instr.mapEntry 114 (.map (some w.heap.size)) (ke nm sd)).run Tryz.prog u=.ok (.tuple #[.int .i64 0,goInt st]) (setBlock u w.heap.size (.map es1 cl1))):=hidI hme;have HST:Hid (∀ u:World,u.heap[w.heap.size]?=some (.map es1 cl1)→(Instr.entryStore 114 (.map (some w.heap.size)) (goInt st) (.int .i64 1)).run Tryz.prog u=.ok () (setBlock u w.heap.size o2)):=hidI hs2;have HMO:Hid (∀ u:World,u.heap[w.heap.size]?=some o2→MapK KK u w.heap.size (fD ds (j+1))):=hidI (fun u hu=>by have:=hm2 u hu;rw [HST0.out] at this;exact this);have HLK:Hid (∀ (l:Array Bool) (y:World),l.size=7→DS 4 w V w.heap.size (.map es1 cl1) l y→(Instr.lookup 114 (.map (some w.heap.size)) (ke nm sd) false).run Tryz.prog y=.ok (.int .i64 0) y):=hidI (fun l y hl hy=>by
       have h4:l[4]?=some true∨l[4]?=some false:=by
        rw [Array.getElem?_eq_getElem (by omega)];cases l[4]<;>simp
       rcases h4 with h4|h4
       ·have h:=lookK underKM zeroInt (hm1 y (hy.new h4)) hok false;simp [updKy] at h;exact h
       ·have h:=lookK underKM zeroInt (HMV.out.same (hy.old h4)) hok false;rw [hf0] at h;exact h)
      have hmapV:∃ es clock,V.drew.heap[w.heap.size]?=some (.map es clock):=⟨esV,clV,hbV⟩;have HDS:Hid (DS 4 w V w.heap.size (.map es1 cl1) (Array.replicate 7 false) V.drew):=hidI ⟨HBVV.out.drew,Nat.le_refl _,fun _ _ _=>rfl,fun _=>rfl,fun e=>(by rw [Array.getElem?_replicate] at e;simp at e),hmapV⟩;rw [←HVV.out] at hlk;clear hme hm1 hst hs2 hm2 hbV hmapV hf0 hh HMV HST0 hok;go_wp2;rw [HVV.out];clear hlk;refine wp_region_seq2 (ops:=dr13) (fun j0=>match j0 with|0=>.map (some w.heap.size)|1=>ke nm sd|2=>.int .i64 0|3=>.int .i64 1|4=>.tuple #[.int .i64 0,goInt st]|5=>goInt st|_=>undef) (DS 4 w V w.heap.size (.map es1 cl1)) 6 Tryz.mixed (by kernel_rfl) (by kernel_rfl) dr13_6 HDS.out ?_ ?_
      ·intro i9 o9 hi9 ho9 a9 w9 l9 hF9 hL9 hl9 hA9 hS9 K9 hK9;have hc9:i9=0∨i9=1∨i9=2∨i9=3∨i9=4∨i9=5:=by omega
       clear hi9;rcases hc9 with rfl|rfl|rfl|rfl|rfl|rfl
       ·obtain rfl:=so dr13_0 ho9;have e5:=hF9.od 5 (v:=.map (some w.heap.size)) rfl;refine zaU rfl ?_ (hK9 _ (hS9.keep (by decide)));clear ho9 hF9 hA9;simp only [dr13o0,execOp,e5];first|done|(go_simp<;>omega)
       ·obtain rfl:=so dr13_1 ho9;have e9:=hF9.od 9 (v:=.pointer (some ⟨w3.heap.size,0,none⟩)) rfl;have q0:=hS9.cell (q:=⟨w3.heap.size,0,none⟩) (by have:=HMB.out;simp only;omega) HV0.out;have q1:=hS9.cell (q:=⟨w3.heap.size,1,none⟩) (by have:=HMB.out;simp only;omega) HV1.out;refine zaU rfl ?_ (hK9 _ (hS9.keep (by decide)));clear ho9 hF9 hA9;simp only [dr13o1,execOp,e9];first|done|(go_simp<;>omega)
       ·obtain rfl:=so dr13_2 ho9;have e32:=hF9.ev 0 32;have e33:=hF9.ev 1 33;have hlk:=HLK.out l9 w9 hL9 hS9;refine zaU rfl ?_ (hK9 _ (hS9.keep (by decide)));clear ho9 hF9 hA9;simp only [dr13o2,execOp,e32,e33];first|done|(go_simp<;>omega)
       ·obtain rfl:=so dr13_3 ho9;have e34:=hF9.ev 2 34;have hw1:IntKind.i64.wrap 1=1:=by decide
        refine zaU rfl ?_ (hK9 _ (hS9.keep (by decide)));clear ho9 hF9 hA9;simp only [dr13o3,execOp,e34];first|done|(go_simp<;>omega)
       ·obtain rfl:=so dr13_4 ho9;have e32:=hF9.ev 0 32;have e33:=hF9.ev 1 33;rw [if_pos (zaG rfl)];unfold Oper.wp;have hme:=HME.out w9 (hS9.old hl9);have hr9:(execOp a9.eval dr13o4).run Tryz.prog w9=.ok (.value (.tuple #[.int .i64 0,goInt st])) (setBlock w9 w.heap.size (.map es1 cl1)):=by
         simp only [dr13o4,execOp,e32,e33];rw [Sem.run_bind,hme];rfl
        rw [hr9,Oper.upon_value];exact hK9 _ (hS9.entry hl9)
       ·obtain rfl:=so dr13_5 ho9;have e36:=hF9.ev 4 36;refine zaU rfl ?_ (hK9 _ (hS9.keep (by decide)));clear ho9 hF9 hA9;simp only [dr13o5,execOp,e36];first|done|(go_simp<;>omega)
      ·intro w9 l9 hall9 hS9 K9 hK9;simp only [putTo,dr13_d0,dr13_d1,dr13_d2,dr13_d3,dr13_d4,dr13_d5,dr13o6];rw [if_pos (zaG rfl)];unfold Oper.wp;have hst:(Instr.entryStore 114 (.map (some w.heap.size)) (.int .i64 (st:Int)) (.int .i64 1)).run Tryz.prog w9=.ok () (setBlock w9 w.heap.size o2):=HST.out w9 (hS9.new (hall9 4 (by decide)));go_simp;refine hK9 _ _ ?_;have HS9:=hidI (hS9.last (o2:=o2));clear hK9 K9 hS9 hst hall9;obtain ⟨w6,hw6⟩:∃ w6,setBlock w9 w.heap.size o2=w6:=⟨_,rfl⟩;rw [hw6] at HS9 ⊢;clear hw6;have z0:=HS9.out.cell (q:=⟨w3.heap.size,0,none⟩) (by have:=HMB.out;simp only;omega) HV0.out;have z1:=HS9.out.cell (q:=⟨w3.heap.size,1,none⟩) (by have:=HMB.out;simp only;omega) HV1.out;have hw6s:=HS9.out.size;have HO6:Hid (w6.ownsRow (w.heap.size+1) 117 2 kv j (flatK (ds.take j))):=hidI (own_of_heap HOV.out fun k hk hl=>HS9.out.far k (by omega) hl);have HO:=hidI (World.ownsRow.alloc HO6.out (.cells #[.string nm,.int .u8 (sd:Int)] 117));have HVS:=hidI (zdR w6 117 2 #[.string nm,.int .u8 (sd:Int)] rfl);have hz6:=HS9.out.b.size;have HM6:=hidI (HMO.out w6 HS9.out.at_);have hml:=HM6.out.lt;clear HO6 HOV
       go_wp2_with (at_builtin;go_must (refine zaF Tryz.underlying60 infoKey rfl (by decide) (by decide) rfl _ _ rfl (w.heap.size+1) kv j (flatK (ds.take j)) rfl HO.out _ 1 [.string nm,.int .u8 (sd:Int)] rfl HVS.out (by simp [Value.oneCell']) (by omega) (by simp;omega) ?_);intro v9 w9 hown9 hgrow9 hat9;refine Hid.out ?_)
       have HB9:Hid (Below w.heap.size w w9):=hidI ((HS9.out.b.alloc hz6 _).grown hgrow9 (by simp;omega) (fun k hk=>by have:=(HO.out.lt k hk).1;omega));have HM9:Hid (MapK KK w9 w.heap.size (fD ds (j+1))):=hidI (HM6.out.same ((hgrow9.block _ (by simp;omega) (by
        intro e;have:=(HO.out.lt w.heap.size e.symm).1;omega)).trans (((Below.refl w6.heap.size w6).alloc (Nat.le_refl _) _).block _ hml)))
       have HO9:Hid (w9.ownsRow (w.heap.size+1) 117 2 v9 (j+1) (flatK (ds.take (j+1)))):=hidI (by rw [HTK.out];exact hown9);clear hown9 hgrow9 hat9 HO HVS HM6 HS9;refine hidI ?_;go_wp2;go_roundg g
       case measure=>omega
       case rel=>exact ⟨j+1,v9,by omega,rfl,by go_num,by omega,HXX,HM9,HO9,HB9⟩
end Go.Proofs.YtfljimpgnlfipaaGreatDoor
