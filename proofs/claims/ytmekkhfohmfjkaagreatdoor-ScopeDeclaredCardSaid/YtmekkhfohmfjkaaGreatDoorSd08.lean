/-
  Part 8 of the proof: RegX.
-/
import Derived.Test.YtmekkhfohmfjkaaGreatDoorSd07
import Derived.Test.YtmekkhfohmfjkaaGreatDoorSd03
namespace Go.Proofs.YtmekkhfohmfjkaaGreatDoor
open Go.RowKit Go.Deep Go.MapKept
theorem zbT (V:World) (e size:Nat) (xs:Array Value) (hs:xs.size=size):SeesC (V.alloc (.cells xs e)) (.slice (some ⟨V.heap.size,0,none⟩) 1 1) 1 size xs.toList:=by
 refine ⟨by simp [hs],some ⟨V.heap.size,0,none⟩,1,rfl,.inr ⟨V.heap.size,0,rfl,fun j c hj => ?_⟩⟩
 have h:=heap_alloc_last V (.cells xs e)
 have:=cell_of_row (V.alloc (.cells xs e)) V.heap.size (0+j) xs e (0,0) h
 rw [this]
 simpa using hj
theorem Tryz.info190:(Tryz.prog.info? 190).map (fun i=>(i.zero,i.size,i.bytes))=some (some (.agg #[.int .u8 0,.int .u8 0,.int .u8 0,.string ⟨#[]⟩,.int .i64 0,.slice none 0 0]),6,56):=by kernel_rfl
theorem Tryz.info78:(Tryz.prog.info? 78).map (fun i=>(i.zero,i.size,i.bytes))=some (some (.agg #[.int .u8 0,.string ⟨#[]⟩,.int .u8 0,.int .i64 0,.int .i64 0,.slice none 0 0,.slice none 0 0,.slice none 0 0]),8,120):=by kernel_rfl
theorem Tryz.info56:(Tryz.prog.info? 56).map (fun i=>(i.zero,i.size,i.bytes))=some (some (.agg #[.string ⟨#[]⟩,.int .u8 0,.int .u8 0]),3,24):=by kernel_rfl
@[go_sem] def opsXN:Nat→Oper
 | 0=>⟨some 9,.move (.tmp 0),164, "read.go:66",#[],none⟩
 | 1=>⟨some 10,.move (.tmp 0),164, "read.go:66",#[],none⟩
 | 2=>⟨some 11,.nilCheck (.tmp 10),0, "read.go:66",#[⟨1,.data⟩],none⟩
 | 3=>⟨some 12,.fieldAddr 109 (.tmp 11) 2,0, "read.go:66",#[⟨2,.data⟩],none⟩
 | 4=>⟨some 13,.fieldAddr 47 (.tmp 12) 1,0, "read.go:66",#[⟨3,.data⟩],none⟩
 | 5=>⟨some 14,.load 43 (.tmp 13),43, "read.go:66",#[⟨4,.data⟩],none⟩
 | 6=>⟨some 15,.load 190 (.tmp 5),190, "read.go:66",#[],none⟩
 | 7=>⟨some 16,.buildSlice 43 1 #[(0,.tmp 15)],43, "read.go:66",#[⟨6,.data⟩],none⟩
 | 8=>⟨some 17,.call ⟨.builtin .append,#[.tmp 14,.tmp 16],#[43,43]⟩,43, "read.go:66",#[⟨5,.data⟩,⟨7,.data⟩],none⟩
 | 9=>⟨some 18,.nilCheck (.tmp 9),0, "read.go:66",#[⟨0,.data⟩,⟨0,.phase⟩,⟨1,.phase⟩,⟨2,.phase⟩,⟨3,.phase⟩,⟨4,.phase⟩,⟨5,.phase⟩,⟨6,.phase⟩,⟨7,.phase⟩,⟨8,.phase⟩],none⟩
 | 10=>⟨some 19,.fieldAddr 109 (.tmp 18) 2,0, "read.go:66",#[⟨9,.data⟩,⟨0,.phase⟩,⟨1,.phase⟩,⟨2,.phase⟩,⟨3,.phase⟩,⟨4,.phase⟩,⟨5,.phase⟩,⟨6,.phase⟩,⟨7,.phase⟩,⟨8,.phase⟩],none⟩
 | 11=>⟨some 20,.fieldAddr 47 (.tmp 19) 1,0, "read.go:66",#[⟨10,.data⟩,⟨0,.phase⟩,⟨1,.phase⟩,⟨2,.phase⟩,⟨3,.phase⟩,⟨4,.phase⟩,⟨5,.phase⟩,⟨6,.phase⟩,⟨7,.phase⟩,⟨8,.phase⟩],none⟩
 | _=>⟨none,.store 43 (.tmp 20) (.tmp 17),0, "read.go:66",#[⟨11,.data⟩,⟨8,.data⟩,⟨8,.chain⟩,⟨0,.phase⟩,⟨1,.phase⟩,⟨2,.phase⟩,⟨3,.phase⟩,⟨4,.phase⟩,⟨5,.phase⟩,⟨6,.phase⟩,⟨7,.phase⟩,⟨8,.phase⟩],none⟩
def opsX:Array Oper:=opsA opsXN 12
theorem opsX_0:opsX[0]?=some (opsXN 0):=zaA opsXN 12 (by decide)
theorem opsX_1:opsX[1]?=some (opsXN 1):=zaA opsXN 12 (by decide)
theorem opsX_2:opsX[2]?=some (opsXN 2):=zaA opsXN 12 (by decide)
theorem opsX_3:opsX[3]?=some (opsXN 3):=zaA opsXN 12 (by decide)
theorem opsX_4:opsX[4]?=some (opsXN 4):=zaA opsXN 12 (by decide)
theorem opsX_5:opsX[5]?=some (opsXN 5):=zaA opsXN 12 (by decide)
theorem opsX_6:opsX[6]?=some (opsXN 6):=zaA opsXN 12 (by decide)
theorem opsX_7:opsX[7]?=some (opsXN 7):=zaA opsXN 12 (by decide)
theorem opsX_8:opsX[8]?=some (opsXN 8):=zaA opsXN 12 (by decide)
theorem opsX_9:opsX[9]?=some (opsXN 9):=zaA opsXN 12 (by decide)
theorem opsX_10:opsX[10]?=some (opsXN 10):=zaA opsXN 12 (by decide)
theorem opsX_11:opsX[11]?=some (opsXN 11):=zaA opsXN 12 (by decide)
theorem opsX_12:opsX[12]?=some (opsXN 12):=zaA opsXN 12 (by decide)
set_option maxRecDepth 100000 in
set_option maxHeartbeats 2000000 in
theorem regX {x1 x2 x3 x4 x6 x7 x8 x9 x10 x11 x12 x13 x14 x15 x16 x17 x18 x19 x20 x21 x22 x23 x24 x25 x26 x27:Value} {Q:Exit→Act→World→Prop} {V0:World} {B eb base n:Nat} {u:Value} {xs:List Value} {e0 e1 e2 e3 e4 e5:Value}
  (hu:V0.drew.cell? ⟨B,7,none⟩=some (u)) (hx0:V0.drew.cell? ⟨eb,0,none⟩=some (e0)) (hx1:V0.drew.cell? ⟨eb,1,none⟩=some (e1)) (hx2:V0.drew.cell? ⟨eb,2,none⟩=some (e2)) (hx3:V0.drew.cell? ⟨eb,3,none⟩=some (e3)) (hx4:V0.drew.cell? ⟨eb,4,none⟩=some (e4)) (hx5:V0.drew.cell? ⟨eb,5,none⟩=some (e5)) (hfz:V0.drew.frozen? ⟨B,7,none⟩=false) (hown:V0.drew.ownsRow base 190 6 u n xs) (hn:n≤1000) (hbase:base≤V0.drew.heap.size)
  (hB:u.ownBlock≠some B) (hE:u.ownBlock≠some eb) (hone:∀ c∈([e0,e1,e2,e3,e4,e5]:List Value),c.oneCell'=true)
  (hpan:∀ c (a:Act) w (dd:Tmp) vv,Q (.panic c) (a.put (some dd) vv) w→Q (.panic c) a w)
  (hQ:∀ (W5:World) (u':Value) (t9 t10 t11 t12 t13 t14 t15 t16 t17 t18 t19 t20:Value),(V0.drew.alloc (.cells #[e0,e1,e2,e3,e4,e5] 190)).grownBy W5 u.ownBlock→W5.ownsRow base 190 6 u' (n+1) (xs++[e0,e1,e2,e3,e4,e5])→(u'.ownBlock=u.ownBlock∨u'.ownBlock=some (V0.drew.heap.size+1))→Q .normal { tmps:=#[.pointer (some ⟨B,0,none⟩),x1,x2,x3,x4,.pointer (some ⟨eb,0,none⟩),x6,x7,x8,t9,t10,t11,t12,t13,t14,t15,t16,t17,t18,t19,t20,x21,x22,x23,x24,x25,x26,x27],defers:=[] } (W5.setCell ⟨B,7,none⟩ u')) :
  (Code.region 2 opsX true).wp Tryz.prog Q { tmps:=#[.pointer (some ⟨B,0,none⟩),x1,x2,x3,x4,.pointer (some ⟨eb,0,none⟩),x6,x7,x8,x9,x10,x11,x12,x13,x14,x15,x16,x17,x18,x19,x20,x21,x22,x23,x24,x25,x26,x27],defers:=[] } V0:=by
 refine zbE (fun y=>(y.heap[B]?=V0.drew.heap[B]?∧y.heap[eb]?=V0.drew.heap[eb]?)) 12 Tryz.mixed ?_
 obtain ⟨V,hV⟩:∃ V,V0.drew=V:=⟨_,rfl⟩
 rw [hV] at hu hx0 hx1 hx2 hx3 hx4 hx5 hfz hown hbase hQ ⊢
 clear hV
 have HOwn:=hidI hown
 have HQ:=hidI hQ
 have HPan:=hidI hpan
 have hBl:B<V.heap.size:=World.block_lt_of_cell? V _ hu
 have hEl:eb<V.heap.size:=World.block_lt_of_cell? V _ hx0
 obtain ⟨ua,ul,uc,rfl⟩:∃ ua ul uc,u=.slice ua ul uc:=by
  rcases hown.2 with ⟨rfl,_⟩|⟨_,_,_,rfl,_⟩<;>exact ⟨_,_,_,rfl⟩
 have hS0:(V.heap[B]?=V.heap[B]?∧V.heap[eb]?=V.heap[eb]?):=⟨rfl,rfl⟩
 clear hown hQ hpan
 refine zaF [9,10,11,12] (i:=0) (v:=(.pointer (some ⟨B,0,none⟩))) opsX_0 HPan.out hS0 (fun y hy => ?_) ?_
 ·go_simp
 refine zaF [2,3,4,5,8,9,10,11,12] (i:=1) (v:=(.pointer (some ⟨B,0,none⟩))) opsX_1 HPan.out hS0 (fun y hy => ?_) ?_
 ·go_simp
 refine zaF [3,4,5,8,9,10,11,12] (i:=2) (v:=(.pointer (some ⟨B,0,none⟩))) opsX_2 HPan.out hS0 (fun y hy => ?_) ?_
 ·go_simp
 refine zaF [4,5,8,9,10,11,12] (i:=3) (v:=(.pointer (some ⟨B,6,none⟩))) opsX_3 HPan.out hS0 (fun y hy => ?_) ?_
 ·go_simp
 refine zaF [5,8,9,10,11,12] (i:=4) (v:=(.pointer (some ⟨B,7,none⟩))) opsX_4 HPan.out hS0 (fun y hy => ?_) ?_
 ·go_simp
 refine zaF [8,9,10,11,12] (i:=5) (v:=(.slice ua ul uc)) opsX_5 HPan.out hS0 (fun y hy => ?_) ?_
 ·have qu:=(World.cell?_of_block (w:=V) (a:=⟨B,7,none⟩) hy.1).trans hu;go_simp
 refine zaF [7,8,9,10,11,12] (i:=6) (v:=(.agg #[e0,e1,e2,e3,e4,e5])) opsX_6 HPan.out hS0 (fun y hy => ?_) ?_
 ·have qx0:=(World.cell?_of_block (w:=V) (a:=⟨eb,0,none⟩) hy.2).trans hx0;have qx1:=(World.cell?_of_block (w:=V) (a:=⟨eb,1,none⟩) hy.2).trans hx1;have qx2:=(World.cell?_of_block (w:=V) (a:=⟨eb,2,none⟩) hy.2).trans hx2;have qx3:=(World.cell?_of_block (w:=V) (a:=⟨eb,3,none⟩) hy.2).trans hx3;have qx4:=(World.cell?_of_block (w:=V) (a:=⟨eb,4,none⟩) hy.2).trans hx4;have qx5:=(World.cell?_of_block (w:=V) (a:=⟨eb,5,none⟩) hy.2).trans hx5;go_simp
 refine zbB (rs:=[7]) (by kernel_rfl) (by simp) fun j7 hj7 => ?_
 obtain rfl:j7=7:=by simpa using hj7
 refine zaN opsX_7 rfl fun K1 hK1 => ?_
 unfold Oper.wp
 go_simp
 have hA:Below V.heap.size V (V.alloc (.cells #[e0,e1,e2,e3,e4,e5] 190)):=by exact belowT
 have hSA:((V.alloc (.cells #[e0,e1,e2,e3,e4,e5] 190)).heap[B]?=V.heap[B]?∧(V.alloc (.cells #[e0,e1,e2,e3,e4,e5] 190)).heap[eb]?=V.heap[eb]?):=⟨hA.block _ hBl,hA.block _ hEl⟩
 refine hK1 _ _ ⟨fun _=>hSA,?_⟩
 clear hK1 K1
 have HO2:=hidI (HOwn.out.alloc (.cells #[e0,e1,e2,e3,e4,e5] 190))
 have HV:=hidI (zbT V 190 6 #[e0,e1,e2,e3,e4,e5] rfl)
 have hfA:(V.alloc (.cells #[e0,e1,e2,e3,e4,e5] 190)).frozen? ⟨B,7,none⟩=false:=(hA.frozen (p:=⟨B,7,none⟩) hBl).trans hfz
 have huA:=(World.cell?_of_block (w:=V) (a:=⟨B,7,none⟩) hSA.1).trans hu
 have hszA:(V.alloc (.cells #[e0,e1,e2,e3,e4,e5] 190)).heap.size=V.heap.size+1:=by simp
 obtain ⟨VA,hVA⟩:∃ VA,V.alloc (.cells #[e0,e1,e2,e3,e4,e5] 190)=VA:=⟨_,rfl⟩
 rw [hVA] at HO2 HV hSA hfA hszA HQ huA ⊢
 clear hVA hA
 refine zbB (rs:=[8]) (by kernel_rfl) (by simp) fun j8 hj8 => ?_
 obtain rfl:j8=8:=by simpa using hj8
 refine zaN opsX_8 rfl fun K1 hK1 => ?_
 refine zbK Tryz.underlying43 Tryz.info190 rfl (by decide) (by decide) _ _ rfl base _ n xs rfl HO2.out _ 1 [e0,e1,e2,e3,e4,e5] rfl HV.out hone (by omega) (by omega) ?_
 intro u' W5 hown5 hgrow5 hat5
 have HO5:=hidI hown5
 have HG5:=hidI hgrow5
 have HAT:Hid (u'.ownBlock=Value.ownBlock (.slice ua ul uc)∨u'.ownBlock=some (V.heap.size+1)):=hidI (hszA▸hat5)
 have hS5:(W5.heap[B]?=V.heap[B]?∧W5.heap[eb]?=V.heap[eb]?):=⟨(hgrow5.block B (by omega) (fun e=>hB e.symm)).trans hSA.1,(hgrow5.block eb (by omega) (fun e=>hE e.symm)).trans hSA.2⟩
 have hf5:W5.frozen? ⟨B,7,none⟩=false:=(World.frozen?_of_block (w:=VA) (a:=⟨B,7,none⟩) (hgrow5.block B (by omega) (fun e=>hB e.symm))).trans hfA
 have hu5:=(World.cell?_of_block (w:=V) (a:=⟨B,7,none⟩) hS5.1).trans hu
 obtain ⟨a9,l9,c9,hv6⟩:∃ a9 l9 c9,u'=.slice a9 l9 c9:=by
  rcases hown5.2 with ⟨rfl,_⟩|⟨_,_,_,rfl,_⟩<;>exact ⟨_,_,_,rfl⟩
 subst hv6
 refine hK1 _ _ ⟨fun _=>hS5,?_⟩
 clear hK1 K1 hown5 hgrow5 hat5
 refine zaF [10,11,12] (i:=9) (v:=(.pointer (some ⟨B,0,none⟩))) opsX_9 HPan.out hS5 (fun y hy => ?_) ?_
 ·go_simp
 refine zaF [11,12] (i:=10) (v:=(.pointer (some ⟨B,6,none⟩))) opsX_10 HPan.out hS5 (fun y hy => ?_) ?_
 ·go_simp
 refine zaF [12] (i:=11) (v:=(.pointer (some ⟨B,7,none⟩))) opsX_11 HPan.out hS5 (fun y hy => ?_) ?_
 ·go_simp
 refine zbN (by kernel_rfl) (by kernel_rfl) ?_ _
 refine zaN opsX_12 rfl fun K1 hK1 => ?_
 unfold Oper.wp
 go_simp
 refine hK1 _ _ ?_
 exact HQ.out _ _ _ _ _ _ _ _ _ _ _ _ _ _ HG5.out HO5.out HAT.out
@[go_sem] def opsDN:Nat→Oper
 | 0=>⟨some 54,.move (.tmp 0),164, "read.go:40",#[],none⟩
 | 1=>⟨some 55,.move (.tmp 0),164, "read.go:40",#[],none⟩
 | 2=>⟨some 56,.nilCheck (.tmp 55),0, "read.go:40",#[⟨1,.data⟩],none⟩
 | 3=>⟨some 57,.fieldAddr 109 (.tmp 56) 2,0, "read.go:40",#[⟨2,.data⟩],none⟩
 | 4=>⟨some 58,.fieldAddr 47 (.tmp 57) 0,0, "read.go:40",#[⟨3,.data⟩],none⟩
 | 5=>⟨some 59,.load 22 (.tmp 58),22, "read.go:40",#[⟨4,.data⟩],none⟩
 | 6=>⟨some 60,.load 56 (.tmp 8),56, "read.go:40",#[],none⟩
 | 7=>⟨some 61,.buildSlice 22 1 #[(0,.tmp 60)],22, "read.go:40",#[⟨6,.data⟩],none⟩
 | 8=>⟨some 62,.call ⟨.builtin .append,#[.tmp 59,.tmp 61],#[22,22]⟩,22, "read.go:40",#[⟨5,.data⟩,⟨7,.data⟩],none⟩
 | 9=>⟨some 63,.nilCheck (.tmp 54),0, "read.go:40",#[⟨0,.data⟩,⟨0,.phase⟩,⟨1,.phase⟩,⟨2,.phase⟩,⟨3,.phase⟩,⟨4,.phase⟩,⟨5,.phase⟩,⟨6,.phase⟩,⟨7,.phase⟩,⟨8,.phase⟩],none⟩
 | 10=>⟨some 64,.fieldAddr 109 (.tmp 63) 2,0, "read.go:40",#[⟨9,.data⟩,⟨0,.phase⟩,⟨1,.phase⟩,⟨2,.phase⟩,⟨3,.phase⟩,⟨4,.phase⟩,⟨5,.phase⟩,⟨6,.phase⟩,⟨7,.phase⟩,⟨8,.phase⟩],none⟩
 | 11=>⟨some 65,.fieldAddr 47 (.tmp 64) 0,0, "read.go:40",#[⟨10,.data⟩,⟨0,.phase⟩,⟨1,.phase⟩,⟨2,.phase⟩,⟨3,.phase⟩,⟨4,.phase⟩,⟨5,.phase⟩,⟨6,.phase⟩,⟨7,.phase⟩,⟨8,.phase⟩],none⟩
 | _=>⟨none,.store 22 (.tmp 65) (.tmp 62),0, "read.go:40",#[⟨11,.data⟩,⟨8,.data⟩,⟨8,.chain⟩,⟨0,.phase⟩,⟨1,.phase⟩,⟨2,.phase⟩,⟨3,.phase⟩,⟨4,.phase⟩,⟨5,.phase⟩,⟨6,.phase⟩,⟨7,.phase⟩,⟨8,.phase⟩],none⟩
def opsD:Array Oper:=opsA opsDN 12
theorem opsD_0:opsD[0]?=some (opsDN 0):=zaA opsDN 12 (by decide)
theorem opsD_1:opsD[1]?=some (opsDN 1):=zaA opsDN 12 (by decide)
theorem opsD_2:opsD[2]?=some (opsDN 2):=zaA opsDN 12 (by decide)
theorem opsD_3:opsD[3]?=some (opsDN 3):=zaA opsDN 12 (by decide)
theorem opsD_4:opsD[4]?=some (opsDN 4):=zaA opsDN 12 (by decide)
theorem opsD_5:opsD[5]?=some (opsDN 5):=zaA opsDN 12 (by decide)
theorem opsD_6:opsD[6]?=some (opsDN 6):=zaA opsDN 12 (by decide)
theorem opsD_7:opsD[7]?=some (opsDN 7):=zaA opsDN 12 (by decide)
theorem opsD_8:opsD[8]?=some (opsDN 8):=zaA opsDN 12 (by decide)
theorem opsD_9:opsD[9]?=some (opsDN 9):=zaA opsDN 12 (by decide)
theorem opsD_10:opsD[10]?=some (opsDN 10):=zaA opsDN 12 (by decide)
theorem opsD_11:opsD[11]?=some (opsDN 11):=zaA opsDN 12 (by decide)
theorem opsD_12:opsD[12]?=some (opsDN 12):=zaA opsDN 12 (by decide)
set_option maxRecDepth 100000 in
set_option maxHeartbeats 2000000 in
theorem regD {x1 x2 x3 x4 x5 x6 x7 x9 x10 x11 x12 x13 x14 x15 x16 x17 x18 x19 x20 x21 x22 x23 x24 x25 x26 x27 x28 x29 x30 x31 x32 x33 x34 x35 x36 x37 x38 x39 x40 x41 x42 x43 x44 x45 x46 x47 x48 x49 x50 x51 x52 x53 x54 x55 x56 x57 x58 x59 x60 x61 x62 x63 x64 x65 x66 x67 x68 x69 x70 x71 x72 x73 x74 x75 x76 x77 x78 x79 x80:Value} {Q:Exit→Act→World→Prop} {V0:World} {B eb base n:Nat} {u:Value} {xs:List Value} {e0 e1 e2:Value}
  (hu:V0.drew.cell? ⟨B,6,none⟩=some (u)) (hx0:V0.drew.cell? ⟨eb,0,none⟩=some (e0)) (hx1:V0.drew.cell? ⟨eb,1,none⟩=some (e1)) (hx2:V0.drew.cell? ⟨eb,2,none⟩=some (e2)) (hfz:V0.drew.frozen? ⟨B,6,none⟩=false) (hown:V0.drew.ownsRow base 56 3 u n xs) (hn:n≤1000) (hbase:base≤V0.drew.heap.size)
  (hB:u.ownBlock≠some B) (hE:u.ownBlock≠some eb) (hone:∀ c∈([e0,e1,e2]:List Value),c.oneCell'=true)
  (hpan:∀ c (a:Act) w (dd:Tmp) vv,Q (.panic c) (a.put (some dd) vv) w→Q (.panic c) a w)
  (hQ:∀ (W5:World) (u':Value) (t54 t55 t56 t57 t58 t59 t60 t61 t62 t63 t64 t65:Value),(V0.drew.alloc (.cells #[e0,e1,e2] 56)).grownBy W5 u.ownBlock→W5.ownsRow base 56 3 u' (n+1) (xs++[e0,e1,e2])→(u'.ownBlock=u.ownBlock∨u'.ownBlock=some (V0.drew.heap.size+1))→Q .normal { tmps:=#[.pointer (some ⟨B,0,none⟩),x1,x2,x3,x4,x5,x6,x7,.pointer (some ⟨eb,0,none⟩),x9,x10,x11,x12,x13,x14,x15,x16,x17,x18,x19,x20,x21,x22,x23,x24,x25,x26,x27,x28,x29,x30,x31,x32,x33,x34,x35,x36,x37,x38,x39,x40,x41,x42,x43,x44,x45,x46,x47,x48,x49,x50,x51,x52,x53,t54,t55,t56,t57,t58,t59,t60,t61,t62,t63,t64,t65,x66,x67,x68,x69,x70,x71,x72,x73,x74,x75,x76,x77,x78,x79,x80],defers:=[] } (W5.setCell ⟨B,6,none⟩ u')) :
  (Code.region 8 opsD true).wp Tryz.prog Q { tmps:=#[.pointer (some ⟨B,0,none⟩),x1,x2,x3,x4,x5,x6,x7,.pointer (some ⟨eb,0,none⟩),x9,x10,x11,x12,x13,x14,x15,x16,x17,x18,x19,x20,x21,x22,x23,x24,x25,x26,x27,x28,x29,x30,x31,x32,x33,x34,x35,x36,x37,x38,x39,x40,x41,x42,x43,x44,x45,x46,x47,x48,x49,x50,x51,x52,x53,x54,x55,x56,x57,x58,x59,x60,x61,x62,x63,x64,x65,x66,x67,x68,x69,x70,x71,x72,x73,x74,x75,x76,x77,x78,x79,x80],defers:=[] } V0:=by
 refine zbE (fun y=>(y.heap[B]?=V0.drew.heap[B]?∧y.heap[eb]?=V0.drew.heap[eb]?)) 12 Tryz.mixed ?_
 obtain ⟨V,hV⟩:∃ V,V0.drew=V:=⟨_,rfl⟩
 rw [hV] at hu hx0 hx1 hx2 hfz hown hbase hQ ⊢
 clear hV
 have HOwn:=hidI hown
 have HQ:=hidI hQ
 have HPan:=hidI hpan
 have hBl:B<V.heap.size:=World.block_lt_of_cell? V _ hu
 have hEl:eb<V.heap.size:=World.block_lt_of_cell? V _ hx0
 obtain ⟨ua,ul,uc,rfl⟩:∃ ua ul uc,u=.slice ua ul uc:=by
  rcases hown.2 with ⟨rfl,_⟩|⟨_,_,_,rfl,_⟩<;>exact ⟨_,_,_,rfl⟩
 have hS0:(V.heap[B]?=V.heap[B]?∧V.heap[eb]?=V.heap[eb]?):=⟨rfl,rfl⟩
 clear hown hQ hpan
 refine zaF [9,10,11,12] (i:=0) (v:=(.pointer (some ⟨B,0,none⟩))) opsD_0 HPan.out hS0 (fun y hy => ?_) ?_
 ·go_simp
 refine zaF [2,3,4,5,8,9,10,11,12] (i:=1) (v:=(.pointer (some ⟨B,0,none⟩))) opsD_1 HPan.out hS0 (fun y hy => ?_) ?_
 ·go_simp
 refine zaF [3,4,5,8,9,10,11,12] (i:=2) (v:=(.pointer (some ⟨B,0,none⟩))) opsD_2 HPan.out hS0 (fun y hy => ?_) ?_
 ·go_simp
 refine zaF [4,5,8,9,10,11,12] (i:=3) (v:=(.pointer (some ⟨B,6,none⟩))) opsD_3 HPan.out hS0 (fun y hy => ?_) ?_
 ·go_simp
 refine zaF [5,8,9,10,11,12] (i:=4) (v:=(.pointer (some ⟨B,6,none⟩))) opsD_4 HPan.out hS0 (fun y hy => ?_) ?_
 ·go_simp
 refine zaF [8,9,10,11,12] (i:=5) (v:=(.slice ua ul uc)) opsD_5 HPan.out hS0 (fun y hy => ?_) ?_
 ·have qu:=(World.cell?_of_block (w:=V) (a:=⟨B,6,none⟩) hy.1).trans hu;go_simp
 refine zaF [7,8,9,10,11,12] (i:=6) (v:=(.agg #[e0,e1,e2])) opsD_6 HPan.out hS0 (fun y hy => ?_) ?_
 ·have qx0:=(World.cell?_of_block (w:=V) (a:=⟨eb,0,none⟩) hy.2).trans hx0;have qx1:=(World.cell?_of_block (w:=V) (a:=⟨eb,1,none⟩) hy.2).trans hx1;have qx2:=(World.cell?_of_block (w:=V) (a:=⟨eb,2,none⟩) hy.2).trans hx2;go_simp
 refine zbB (rs:=[7]) (by kernel_rfl) (by simp) fun j7 hj7 => ?_
 obtain rfl:j7=7:=by simpa using hj7
 refine zaN opsD_7 rfl fun K1 hK1 => ?_
 unfold Oper.wp
 go_simp
 have hA:Below V.heap.size V (V.alloc (.cells #[e0,e1,e2] 56)):=by exact belowT
 have hSA:((V.alloc (.cells #[e0,e1,e2] 56)).heap[B]?=V.heap[B]?∧(V.alloc (.cells #[e0,e1,e2] 56)).heap[eb]?=V.heap[eb]?):=⟨hA.block _ hBl,hA.block _ hEl⟩
 refine hK1 _ _ ⟨fun _=>hSA,?_⟩
 clear hK1 K1
 have HO2:=hidI (HOwn.out.alloc (.cells #[e0,e1,e2] 56))
 have HV:=hidI (zbT V 56 3 #[e0,e1,e2] rfl)
 have hfA:(V.alloc (.cells #[e0,e1,e2] 56)).frozen? ⟨B,6,none⟩=false:=(hA.frozen (p:=⟨B,6,none⟩) hBl).trans hfz
 have huA:=(World.cell?_of_block (w:=V) (a:=⟨B,6,none⟩) hSA.1).trans hu
 have hszA:(V.alloc (.cells #[e0,e1,e2] 56)).heap.size=V.heap.size+1:=by simp
 obtain ⟨VA,hVA⟩:∃ VA,V.alloc (.cells #[e0,e1,e2] 56)=VA:=⟨_,rfl⟩
 rw [hVA] at HO2 HV hSA hfA hszA HQ huA ⊢
 clear hVA hA
 refine zbB (rs:=[8]) (by kernel_rfl) (by simp) fun j8 hj8 => ?_
 obtain rfl:j8=8:=by simpa using hj8
 refine zaN opsD_8 rfl fun K1 hK1 => ?_
 refine zbK Tryz.underlying22 Tryz.info56 rfl (by decide) (by decide) _ _ rfl base _ n xs rfl HO2.out _ 1 [e0,e1,e2] rfl HV.out hone (by omega) (by omega) ?_
 intro u' W5 hown5 hgrow5 hat5
 have HO5:=hidI hown5
 have HG5:=hidI hgrow5
 have HAT:Hid (u'.ownBlock=Value.ownBlock (.slice ua ul uc)∨u'.ownBlock=some (V.heap.size+1)):=hidI (hszA▸hat5)
 have hS5:(W5.heap[B]?=V.heap[B]?∧W5.heap[eb]?=V.heap[eb]?):=⟨(hgrow5.block B (by omega) (fun e=>hB e.symm)).trans hSA.1,(hgrow5.block eb (by omega) (fun e=>hE e.symm)).trans hSA.2⟩
 have hf5:W5.frozen? ⟨B,6,none⟩=false:=(World.frozen?_of_block (w:=VA) (a:=⟨B,6,none⟩) (hgrow5.block B (by omega) (fun e=>hB e.symm))).trans hfA
 have hu5:=(World.cell?_of_block (w:=V) (a:=⟨B,6,none⟩) hS5.1).trans hu
 obtain ⟨a9,l9,c9,hv6⟩:∃ a9 l9 c9,u'=.slice a9 l9 c9:=by
  rcases hown5.2 with ⟨rfl,_⟩|⟨_,_,_,rfl,_⟩<;>exact ⟨_,_,_,rfl⟩
 subst hv6
 refine hK1 _ _ ⟨fun _=>hS5,?_⟩
 clear hK1 K1 hown5 hgrow5 hat5
 refine zaF [10,11,12] (i:=9) (v:=(.pointer (some ⟨B,0,none⟩))) opsD_9 HPan.out hS5 (fun y hy => ?_) ?_
 ·go_simp
 refine zaF [11,12] (i:=10) (v:=(.pointer (some ⟨B,6,none⟩))) opsD_10 HPan.out hS5 (fun y hy => ?_) ?_
 ·go_simp
 refine zaF [12] (i:=11) (v:=(.pointer (some ⟨B,6,none⟩))) opsD_11 HPan.out hS5 (fun y hy => ?_) ?_
 ·go_simp
 refine zbN (by kernel_rfl) (by kernel_rfl) ?_ _
 refine zaN opsD_12 rfl fun K1 hK1 => ?_
 unfold Oper.wp
 go_simp
 refine hK1 _ _ ?_
 exact HQ.out _ _ _ _ _ _ _ _ _ _ _ _ _ _ HG5.out HO5.out HAT.out
@[go_sem] def opsSN:Nat→Oper
 | 0=>⟨some 36,.move (.tmp 0),164, "read.go:52",#[],none⟩
 | 1=>⟨some 37,.move (.tmp 0),164, "read.go:52",#[],none⟩
 | 2=>⟨some 38,.nilCheck (.tmp 37),0, "read.go:52",#[⟨1,.data⟩],none⟩
 | 3=>⟨some 39,.fieldAddr 109 (.tmp 38) 2,0, "read.go:52",#[⟨2,.data⟩],none⟩
 | 4=>⟨some 40,.fieldAddr 47 (.tmp 39) 2,0, "read.go:52",#[⟨3,.data⟩],none⟩
 | 5=>⟨some 41,.load 44 (.tmp 40),44, "read.go:52",#[⟨4,.data⟩],none⟩
 | 6=>⟨some 42,.move (.tmp 7),74, "read.go:52",#[],none⟩
 | 7=>⟨some 43,.fieldAddr 170 (.tmp 9) 0,0, "read.go:52",#[],none⟩
 | 8=>⟨some 44,.load 9 (.tmp 43),9, "read.go:52",#[⟨7,.data⟩],none⟩
 | 9=>⟨some 45,.fieldAddr 170 (.tmp 9) 1,0, "read.go:52",#[],none⟩
 | 10=>⟨some 46,.load 75 (.tmp 45),75, "read.go:52",#[⟨9,.data⟩],none⟩
 | 11=>⟨some 47,.fieldAddr 170 (.tmp 9) 3,0, "read.go:52",#[],none⟩
 | 12=>⟨some 48,.load 3 (.tmp 47),3, "read.go:52",#[⟨11,.data⟩],none⟩
 | 13=>⟨some 49,.fieldAddr 170 (.tmp 9) 4,0, "read.go:52",#[],none⟩
 | 14=>⟨some 50,.load 3 (.tmp 49),3, "read.go:52",#[⟨13,.data⟩],none⟩
 | 15=>⟨some 51,.fieldAddr 170 (.tmp 9) 5,0, "read.go:52",#[],none⟩
 | 16=>⟨some 52,.load 76 (.tmp 51),76, "read.go:52",#[⟨15,.data⟩],none⟩
 | 17=>⟨some 53,.fieldAddr 170 (.tmp 9) 6,0, "read.go:52",#[],none⟩
 | 18=>⟨some 54,.load 45 (.tmp 53),45, "read.go:52",#[⟨17,.data⟩],none⟩
 | 19=>⟨some 55,.fieldAddr 170 (.tmp 9) 7,0, "read.go:52",#[],none⟩
 | 20=>⟨some 56,.load 45 (.tmp 55),45, "read.go:52",#[⟨19,.data⟩],none⟩
 | 21=>⟨some 57,.build 78 #[(0,.tmp 42),(1,.tmp 44),(2,.tmp 46),(3,.tmp 48),(4,.tmp 50),(5,.tmp 52),(6,.tmp 54),(7,.tmp 56)],78, "read.go:52",#[⟨6,.data⟩,⟨8,.data⟩,⟨10,.data⟩,⟨12,.data⟩,⟨14,.data⟩,⟨16,.data⟩,⟨18,.data⟩,⟨20,.data⟩],none⟩
 | 22=>⟨some 58,.buildSlice 44 1 #[(0,.tmp 57)],44, "read.go:52",#[⟨21,.data⟩],none⟩
 | 23=>⟨some 59,.call ⟨.builtin .append,#[.tmp 41,.tmp 58],#[44,44]⟩,44, "read.go:52",#[⟨5,.data⟩,⟨22,.data⟩],none⟩
 | 24=>⟨some 60,.nilCheck (.tmp 36),0, "read.go:52",#[⟨0,.data⟩,⟨0,.phase⟩,⟨1,.phase⟩,⟨2,.phase⟩,⟨3,.phase⟩,⟨4,.phase⟩,⟨5,.phase⟩,⟨6,.phase⟩,⟨7,.phase⟩,⟨8,.phase⟩,⟨9,.phase⟩,⟨10,.phase⟩,⟨11,.phase⟩,⟨12,.phase⟩,⟨13,.phase⟩,⟨14,.phase⟩,⟨15,.phase⟩,⟨16,.phase⟩,⟨17,.phase⟩,⟨18,.phase⟩,⟨19,.phase⟩,⟨20,.phase⟩,⟨21,.phase⟩,⟨22,.phase⟩,⟨23,.phase⟩],none⟩
 | 25=>⟨some 61,.fieldAddr 109 (.tmp 60) 2,0, "read.go:52",#[⟨24,.data⟩,⟨0,.phase⟩,⟨1,.phase⟩,⟨2,.phase⟩,⟨3,.phase⟩,⟨4,.phase⟩,⟨5,.phase⟩,⟨6,.phase⟩,⟨7,.phase⟩,⟨8,.phase⟩,⟨9,.phase⟩,⟨10,.phase⟩,⟨11,.phase⟩,⟨12,.phase⟩,⟨13,.phase⟩,⟨14,.phase⟩,⟨15,.phase⟩,⟨16,.phase⟩,⟨17,.phase⟩,⟨18,.phase⟩,⟨19,.phase⟩,⟨20,.phase⟩,⟨21,.phase⟩,⟨22,.phase⟩,⟨23,.phase⟩],none⟩
 | 26=>⟨some 62,.fieldAddr 47 (.tmp 61) 2,0, "read.go:52",#[⟨25,.data⟩,⟨0,.phase⟩,⟨1,.phase⟩,⟨2,.phase⟩,⟨3,.phase⟩,⟨4,.phase⟩,⟨5,.phase⟩,⟨6,.phase⟩,⟨7,.phase⟩,⟨8,.phase⟩,⟨9,.phase⟩,⟨10,.phase⟩,⟨11,.phase⟩,⟨12,.phase⟩,⟨13,.phase⟩,⟨14,.phase⟩,⟨15,.phase⟩,⟨16,.phase⟩,⟨17,.phase⟩,⟨18,.phase⟩,⟨19,.phase⟩,⟨20,.phase⟩,⟨21,.phase⟩,⟨22,.phase⟩,⟨23,.phase⟩],none⟩
 | _=>⟨none,.store 44 (.tmp 62) (.tmp 59),0, "read.go:52",#[⟨26,.data⟩,⟨23,.data⟩,⟨23,.chain⟩,⟨0,.phase⟩,⟨1,.phase⟩,⟨2,.phase⟩,⟨3,.phase⟩,⟨4,.phase⟩,⟨5,.phase⟩,⟨6,.phase⟩,⟨7,.phase⟩,⟨8,.phase⟩,⟨9,.phase⟩,⟨10,.phase⟩,⟨11,.phase⟩,⟨12,.phase⟩,⟨13,.phase⟩,⟨14,.phase⟩,⟨15,.phase⟩,⟨16,.phase⟩,⟨17,.phase⟩,⟨18,.phase⟩,⟨19,.phase⟩,⟨20,.phase⟩,⟨21,.phase⟩,⟨22,.phase⟩,⟨23,.phase⟩],none⟩
def opsS:Array Oper:=opsA opsSN 27
theorem opsS_0:opsS[0]?=some (opsSN 0):=zaA opsSN 27 (by decide)
theorem opsS_1:opsS[1]?=some (opsSN 1):=zaA opsSN 27 (by decide)
theorem opsS_2:opsS[2]?=some (opsSN 2):=zaA opsSN 27 (by decide)
theorem opsS_3:opsS[3]?=some (opsSN 3):=zaA opsSN 27 (by decide)
theorem opsS_4:opsS[4]?=some (opsSN 4):=zaA opsSN 27 (by decide)
theorem opsS_5:opsS[5]?=some (opsSN 5):=zaA opsSN 27 (by decide)
theorem opsS_6:opsS[6]?=some (opsSN 6):=zaA opsSN 27 (by decide)
theorem opsS_7:opsS[7]?=some (opsSN 7):=zaA opsSN 27 (by decide)
theorem opsS_8:opsS[8]?=some (opsSN 8):=zaA opsSN 27 (by decide)
theorem opsS_9:opsS[9]?=some (opsSN 9):=zaA opsSN 27 (by decide)
theorem opsS_10:opsS[10]?=some (opsSN 10):=zaA opsSN 27 (by decide)
theorem opsS_11:opsS[11]?=some (opsSN 11):=zaA opsSN 27 (by decide)
theorem opsS_12:opsS[12]?=some (opsSN 12):=zaA opsSN 27 (by decide)
theorem opsS_13:opsS[13]?=some (opsSN 13):=zaA opsSN 27 (by decide)
theorem opsS_14:opsS[14]?=some (opsSN 14):=zaA opsSN 27 (by decide)
theorem opsS_15:opsS[15]?=some (opsSN 15):=zaA opsSN 27 (by decide)
theorem opsS_16:opsS[16]?=some (opsSN 16):=zaA opsSN 27 (by decide)
theorem opsS_17:opsS[17]?=some (opsSN 17):=zaA opsSN 27 (by decide)
theorem opsS_18:opsS[18]?=some (opsSN 18):=zaA opsSN 27 (by decide)
theorem opsS_19:opsS[19]?=some (opsSN 19):=zaA opsSN 27 (by decide)
theorem opsS_20:opsS[20]?=some (opsSN 20):=zaA opsSN 27 (by decide)
theorem opsS_21:opsS[21]?=some (opsSN 21):=zaA opsSN 27 (by decide)
theorem opsS_22:opsS[22]?=some (opsSN 22):=zaA opsSN 27 (by decide)
theorem opsS_23:opsS[23]?=some (opsSN 23):=zaA opsSN 27 (by decide)
theorem opsS_24:opsS[24]?=some (opsSN 24):=zaA opsSN 27 (by decide)
theorem opsS_25:opsS[25]?=some (opsSN 25):=zaA opsSN 27 (by decide)
theorem opsS_26:opsS[26]?=some (opsSN 26):=zaA opsSN 27 (by decide)
theorem opsS_27:opsS[27]?=some (opsSN 27):=zaA opsSN 27 (by decide)
set_option maxRecDepth 100000 in
set_option maxHeartbeats 2000000 in
theorem regS {x1 x2 x3 x4 x5 x6 x8 x10 x11 x12 x13 x14 x15 x16 x17 x18 x19 x20 x21 x22 x23 x24 x25 x26 x27 x28 x29 x30 x31 x32 x33 x34 x35 x36 x37 x38 x39 x40 x41 x42 x43 x44 x45 x46 x47 x48 x49 x50 x51 x52 x53 x54 x55 x56 x57 x58 x59 x60 x61 x62 x63 x64 x65 x66 x67 x68 x69:Value} {Q:Exit→Act→World→Prop} {V0:World} {B eb base n:Nat} {u:Value} {xs:List Value} {k0 o0 i2 i3:Int} {s0:ByteArray} {a4 a5 a6:Option Addr} {l4 c4 l5 c5 l6 c6:Nat}
  (hu:V0.drew.cell? ⟨B,8,none⟩=some (u)) (hx0:V0.drew.cell? ⟨eb,0,none⟩=some (.string s0)) (hx1:V0.drew.cell? ⟨eb,1,none⟩=some (.int .u8 o0)) (hx2:V0.drew.cell? ⟨eb,3,none⟩=some (.int .i64 i2)) (hx3:V0.drew.cell? ⟨eb,4,none⟩=some (.int .i64 i3)) (hx4:V0.drew.cell? ⟨eb,5,none⟩=some (.slice a4 l4 c4)) (hx5:V0.drew.cell? ⟨eb,6,none⟩=some (.slice a5 l5 c5)) (hx6:V0.drew.cell? ⟨eb,7,none⟩=some (.slice a6 l6 c6)) (hfz:V0.drew.frozen? ⟨B,8,none⟩=false) (hown:V0.drew.ownsRow base 78 8 u n xs) (hn:n≤1000) (hbase:base≤V0.drew.heap.size)
  (hB:u.ownBlock≠some B) (hE:u.ownBlock≠some eb) (hone:∀ c∈([.int .u8 k0,.string s0,.int .u8 o0,.int .i64 i2,.int .i64 i3,.slice a4 l4 c4,.slice a5 l5 c5,.slice a6 l6 c6]:List Value),c.oneCell'=true)
  (hpan:∀ c (a:Act) w (dd:Tmp) vv,Q (.panic c) (a.put (some dd) vv) w→Q (.panic c) a w)
  (hQ:∀ (W5:World) (u':Value) (t36 t37 t38 t39 t40 t41 t42 t43 t44 t45 t46 t47 t48 t49 t50 t51 t52 t53 t54 t55 t56 t57 t58 t59 t60 t61 t62:Value),(V0.drew.alloc (.cells #[.int .u8 k0,.string s0,.int .u8 o0,.int .i64 i2,.int .i64 i3,.slice a4 l4 c4,.slice a5 l5 c5,.slice a6 l6 c6] 78)).grownBy W5 u.ownBlock→W5.ownsRow base 78 8 u' (n+1) (xs++[.int .u8 k0,.string s0,.int .u8 o0,.int .i64 i2,.int .i64 i3,.slice a4 l4 c4,.slice a5 l5 c5,.slice a6 l6 c6])→(u'.ownBlock=u.ownBlock∨u'.ownBlock=some (V0.drew.heap.size+1))→Q .normal { tmps:=#[.pointer (some ⟨B,0,none⟩),x1,x2,x3,x4,x5,x6,.int .u8 k0,x8,.pointer (some ⟨eb,0,none⟩),x10,x11,x12,x13,x14,x15,x16,x17,x18,x19,x20,x21,x22,x23,x24,x25,x26,x27,x28,x29,x30,x31,x32,x33,x34,x35,t36,t37,t38,t39,t40,t41,t42,t43,t44,t45,t46,t47,t48,t49,t50,t51,t52,t53,t54,t55,t56,t57,t58,t59,t60,t61,t62,x63,x64,x65,x66,x67,x68,x69],defers:=[] } (W5.setCell ⟨B,8,none⟩ u')) :
  (Code.region 5 opsS true).wp Tryz.prog Q { tmps:=#[.pointer (some ⟨B,0,none⟩),x1,x2,x3,x4,x5,x6,.int .u8 k0,x8,.pointer (some ⟨eb,0,none⟩),x10,x11,x12,x13,x14,x15,x16,x17,x18,x19,x20,x21,x22,x23,x24,x25,x26,x27,x28,x29,x30,x31,x32,x33,x34,x35,x36,x37,x38,x39,x40,x41,x42,x43,x44,x45,x46,x47,x48,x49,x50,x51,x52,x53,x54,x55,x56,x57,x58,x59,x60,x61,x62,x63,x64,x65,x66,x67,x68,x69],defers:=[] } V0:=by
 refine zbE (fun y=>(y.heap[B]?=V0.drew.heap[B]?∧y.heap[eb]?=V0.drew.heap[eb]?)) 27 Tryz.mixed ?_
 obtain ⟨V,hV⟩:∃ V,V0.drew=V:=⟨_,rfl⟩
 rw [hV] at hu hx0 hx1 hx2 hx3 hx4 hx5 hx6 hfz hown hbase hQ ⊢
 clear hV
 have HOwn:=hidI hown
 have HQ:=hidI hQ
 have HPan:=hidI hpan
 have hBl:B<V.heap.size:=World.block_lt_of_cell? V _ hu
 have hEl:eb<V.heap.size:=World.block_lt_of_cell? V _ hx0
 obtain ⟨ua,ul,uc,rfl⟩:∃ ua ul uc,u=.slice ua ul uc:=by
  rcases hown.2 with ⟨rfl,_⟩|⟨_,_,_,rfl,_⟩<;>exact ⟨_,_,_,rfl⟩
 have hS0:(V.heap[B]?=V.heap[B]?∧V.heap[eb]?=V.heap[eb]?):=⟨rfl,rfl⟩
 clear hown hQ hpan
 refine zaF [24,25,26,27] (i:=0) (v:=(.pointer (some ⟨B,0,none⟩))) opsS_0 HPan.out hS0 (fun y hy => ?_) ?_
 ·go_simp
 refine zaF [2,3,4,5,23,24,25,26,27] (i:=1) (v:=(.pointer (some ⟨B,0,none⟩))) opsS_1 HPan.out hS0 (fun y hy => ?_) ?_
 ·go_simp
 refine zaF [3,4,5,23,24,25,26,27] (i:=2) (v:=(.pointer (some ⟨B,0,none⟩))) opsS_2 HPan.out hS0 (fun y hy => ?_) ?_
 ·go_simp
 refine zaF [4,5,23,24,25,26,27] (i:=3) (v:=(.pointer (some ⟨B,6,none⟩))) opsS_3 HPan.out hS0 (fun y hy => ?_) ?_
 ·go_simp
 refine zaF [5,23,24,25,26,27] (i:=4) (v:=(.pointer (some ⟨B,8,none⟩))) opsS_4 HPan.out hS0 (fun y hy => ?_) ?_
 ·go_simp
 refine zaF [23,24,25,26,27] (i:=5) (v:=(.slice ua ul uc)) opsS_5 HPan.out hS0 (fun y hy => ?_) ?_
 ·have qu:=(World.cell?_of_block (w:=V) (a:=⟨B,8,none⟩) hy.1).trans hu;go_simp
 refine zaF [21,22,23,24,25,26,27] (i:=6) (v:=(.int .u8 k0)) opsS_6 HPan.out hS0 (fun y hy => ?_) ?_
 ·go_simp
 refine zaF [8,21,22,23,24,25,26,27] (i:=7) (v:=(.pointer (some ⟨eb,0,none⟩))) opsS_7 HPan.out hS0 (fun y hy => ?_) ?_
 ·go_simp
 refine zaF [21,22,23,24,25,26,27] (i:=8) (v:=(.string s0)) opsS_8 HPan.out hS0 (fun y hy => ?_) ?_
 ·have qx0:=(World.cell?_of_block (w:=V) (a:=⟨eb,0,none⟩) hy.2).trans hx0;have qx1:=(World.cell?_of_block (w:=V) (a:=⟨eb,1,none⟩) hy.2).trans hx1;have qx2:=(World.cell?_of_block (w:=V) (a:=⟨eb,3,none⟩) hy.2).trans hx2;have qx3:=(World.cell?_of_block (w:=V) (a:=⟨eb,4,none⟩) hy.2).trans hx3;have qx4:=(World.cell?_of_block (w:=V) (a:=⟨eb,5,none⟩) hy.2).trans hx4;have qx5:=(World.cell?_of_block (w:=V) (a:=⟨eb,6,none⟩) hy.2).trans hx5;have qx6:=(World.cell?_of_block (w:=V) (a:=⟨eb,7,none⟩) hy.2).trans hx6;go_simp
 refine zaF [10,21,22,23,24,25,26,27] (i:=9) (v:=(.pointer (some ⟨eb,1,none⟩))) opsS_9 HPan.out hS0 (fun y hy => ?_) ?_
 ·go_simp
 refine zaF [21,22,23,24,25,26,27] (i:=10) (v:=(.int .u8 o0)) opsS_10 HPan.out hS0 (fun y hy => ?_) ?_
 ·have qx0:=(World.cell?_of_block (w:=V) (a:=⟨eb,0,none⟩) hy.2).trans hx0;have qx1:=(World.cell?_of_block (w:=V) (a:=⟨eb,1,none⟩) hy.2).trans hx1;have qx2:=(World.cell?_of_block (w:=V) (a:=⟨eb,3,none⟩) hy.2).trans hx2;have qx3:=(World.cell?_of_block (w:=V) (a:=⟨eb,4,none⟩) hy.2).trans hx3;have qx4:=(World.cell?_of_block (w:=V) (a:=⟨eb,5,none⟩) hy.2).trans hx4;have qx5:=(World.cell?_of_block (w:=V) (a:=⟨eb,6,none⟩) hy.2).trans hx5;have qx6:=(World.cell?_of_block (w:=V) (a:=⟨eb,7,none⟩) hy.2).trans hx6;go_simp
 refine zaF [12,21,22,23,24,25,26,27] (i:=11) (v:=(.pointer (some ⟨eb,3,none⟩))) opsS_11 HPan.out hS0 (fun y hy => ?_) ?_
 ·go_simp
 refine zaF [21,22,23,24,25,26,27] (i:=12) (v:=(.int .i64 i2)) opsS_12 HPan.out hS0 (fun y hy => ?_) ?_
 ·have qx0:=(World.cell?_of_block (w:=V) (a:=⟨eb,0,none⟩) hy.2).trans hx0;have qx1:=(World.cell?_of_block (w:=V) (a:=⟨eb,1,none⟩) hy.2).trans hx1;have qx2:=(World.cell?_of_block (w:=V) (a:=⟨eb,3,none⟩) hy.2).trans hx2;have qx3:=(World.cell?_of_block (w:=V) (a:=⟨eb,4,none⟩) hy.2).trans hx3;have qx4:=(World.cell?_of_block (w:=V) (a:=⟨eb,5,none⟩) hy.2).trans hx4;have qx5:=(World.cell?_of_block (w:=V) (a:=⟨eb,6,none⟩) hy.2).trans hx5;have qx6:=(World.cell?_of_block (w:=V) (a:=⟨eb,7,none⟩) hy.2).trans hx6;go_simp
 refine zaF [14,21,22,23,24,25,26,27] (i:=13) (v:=(.pointer (some ⟨eb,4,none⟩))) opsS_13 HPan.out hS0 (fun y hy => ?_) ?_
 ·go_simp
 refine zaF [21,22,23,24,25,26,27] (i:=14) (v:=(.int .i64 i3)) opsS_14 HPan.out hS0 (fun y hy => ?_) ?_
 ·have qx0:=(World.cell?_of_block (w:=V) (a:=⟨eb,0,none⟩) hy.2).trans hx0;have qx1:=(World.cell?_of_block (w:=V) (a:=⟨eb,1,none⟩) hy.2).trans hx1;have qx2:=(World.cell?_of_block (w:=V) (a:=⟨eb,3,none⟩) hy.2).trans hx2;have qx3:=(World.cell?_of_block (w:=V) (a:=⟨eb,4,none⟩) hy.2).trans hx3;have qx4:=(World.cell?_of_block (w:=V) (a:=⟨eb,5,none⟩) hy.2).trans hx4;have qx5:=(World.cell?_of_block (w:=V) (a:=⟨eb,6,none⟩) hy.2).trans hx5;have qx6:=(World.cell?_of_block (w:=V) (a:=⟨eb,7,none⟩) hy.2).trans hx6;go_simp
 refine zaF [16,21,22,23,24,25,26,27] (i:=15) (v:=(.pointer (some ⟨eb,5,none⟩))) opsS_15 HPan.out hS0 (fun y hy => ?_) ?_
 ·go_simp
 refine zaF [21,22,23,24,25,26,27] (i:=16) (v:=(.slice a4 l4 c4)) opsS_16 HPan.out hS0 (fun y hy => ?_) ?_
 ·have qx0:=(World.cell?_of_block (w:=V) (a:=⟨eb,0,none⟩) hy.2).trans hx0;have qx1:=(World.cell?_of_block (w:=V) (a:=⟨eb,1,none⟩) hy.2).trans hx1;have qx2:=(World.cell?_of_block (w:=V) (a:=⟨eb,3,none⟩) hy.2).trans hx2;have qx3:=(World.cell?_of_block (w:=V) (a:=⟨eb,4,none⟩) hy.2).trans hx3;have qx4:=(World.cell?_of_block (w:=V) (a:=⟨eb,5,none⟩) hy.2).trans hx4;have qx5:=(World.cell?_of_block (w:=V) (a:=⟨eb,6,none⟩) hy.2).trans hx5;have qx6:=(World.cell?_of_block (w:=V) (a:=⟨eb,7,none⟩) hy.2).trans hx6;go_simp
 refine zaF [18,21,22,23,24,25,26,27] (i:=17) (v:=(.pointer (some ⟨eb,6,none⟩))) opsS_17 HPan.out hS0 (fun y hy => ?_) ?_
 ·go_simp
 refine zaF [21,22,23,24,25,26,27] (i:=18) (v:=(.slice a5 l5 c5)) opsS_18 HPan.out hS0 (fun y hy => ?_) ?_
 ·have qx0:=(World.cell?_of_block (w:=V) (a:=⟨eb,0,none⟩) hy.2).trans hx0;have qx1:=(World.cell?_of_block (w:=V) (a:=⟨eb,1,none⟩) hy.2).trans hx1;have qx2:=(World.cell?_of_block (w:=V) (a:=⟨eb,3,none⟩) hy.2).trans hx2;have qx3:=(World.cell?_of_block (w:=V) (a:=⟨eb,4,none⟩) hy.2).trans hx3;have qx4:=(World.cell?_of_block (w:=V) (a:=⟨eb,5,none⟩) hy.2).trans hx4;have qx5:=(World.cell?_of_block (w:=V) (a:=⟨eb,6,none⟩) hy.2).trans hx5;have qx6:=(World.cell?_of_block (w:=V) (a:=⟨eb,7,none⟩) hy.2).trans hx6;go_simp
 refine zaF [20,21,22,23,24,25,26,27] (i:=19) (v:=(.pointer (some ⟨eb,7,none⟩))) opsS_19 HPan.out hS0 (fun y hy => ?_) ?_
 ·go_simp
 refine zaF [21,22,23,24,25,26,27] (i:=20) (v:=(.slice a6 l6 c6)) opsS_20 HPan.out hS0 (fun y hy => ?_) ?_
 ·have qx0:=(World.cell?_of_block (w:=V) (a:=⟨eb,0,none⟩) hy.2).trans hx0;have qx1:=(World.cell?_of_block (w:=V) (a:=⟨eb,1,none⟩) hy.2).trans hx1;have qx2:=(World.cell?_of_block (w:=V) (a:=⟨eb,3,none⟩) hy.2).trans hx2;have qx3:=(World.cell?_of_block (w:=V) (a:=⟨eb,4,none⟩) hy.2).trans hx3;have qx4:=(World.cell?_of_block (w:=V) (a:=⟨eb,5,none⟩) hy.2).trans hx4;have qx5:=(World.cell?_of_block (w:=V) (a:=⟨eb,6,none⟩) hy.2).trans hx5;have qx6:=(World.cell?_of_block (w:=V) (a:=⟨eb,7,none⟩) hy.2).trans hx6;go_simp
 refine zaF [22,23,24,25,26,27] (i:=21) (v:=(.agg #[.int .u8 k0,.string s0,.int .u8 o0,.int .i64 i2,.int .i64 i3,.slice a4 l4 c4,.slice a5 l5 c5,.slice a6 l6 c6])) opsS_21 HPan.out hS0 (fun y hy => ?_) ?_
 ·go_simp
 refine zbB (rs:=[22]) (by kernel_rfl) (by simp) fun j22 hj22 => ?_
 obtain rfl:j22=22:=by simpa using hj22
 refine zaN opsS_22 rfl fun K1 hK1 => ?_
 unfold Oper.wp
 go_simp
 have hA:Below V.heap.size V (V.alloc (.cells #[.int .u8 k0,.string s0,.int .u8 o0,.int .i64 i2,.int .i64 i3,.slice a4 l4 c4,.slice a5 l5 c5,.slice a6 l6 c6] 78)):=by exact belowT
 have hSA:((V.alloc (.cells #[.int .u8 k0,.string s0,.int .u8 o0,.int .i64 i2,.int .i64 i3,.slice a4 l4 c4,.slice a5 l5 c5,.slice a6 l6 c6] 78)).heap[B]?=V.heap[B]?∧(V.alloc (.cells #[.int .u8 k0,.string s0,.int .u8 o0,.int .i64 i2,.int .i64 i3,.slice a4 l4 c4,.slice a5 l5 c5,.slice a6 l6 c6] 78)).heap[eb]?=V.heap[eb]?):=⟨hA.block _ hBl,hA.block _ hEl⟩
 refine hK1 _ _ ⟨fun _=>hSA,?_⟩
 clear hK1 K1
 have HO2:=hidI (HOwn.out.alloc (.cells #[.int .u8 k0,.string s0,.int .u8 o0,.int .i64 i2,.int .i64 i3,.slice a4 l4 c4,.slice a5 l5 c5,.slice a6 l6 c6] 78))
 have HV:=hidI (zbT V 78 8 #[.int .u8 k0,.string s0,.int .u8 o0,.int .i64 i2,.int .i64 i3,.slice a4 l4 c4,.slice a5 l5 c5,.slice a6 l6 c6] rfl)
 have hfA:(V.alloc (.cells #[.int .u8 k0,.string s0,.int .u8 o0,.int .i64 i2,.int .i64 i3,.slice a4 l4 c4,.slice a5 l5 c5,.slice a6 l6 c6] 78)).frozen? ⟨B,8,none⟩=false:=(hA.frozen (p:=⟨B,8,none⟩) hBl).trans hfz
 have huA:=(World.cell?_of_block (w:=V) (a:=⟨B,8,none⟩) hSA.1).trans hu
 have hszA:(V.alloc (.cells #[.int .u8 k0,.string s0,.int .u8 o0,.int .i64 i2,.int .i64 i3,.slice a4 l4 c4,.slice a5 l5 c5,.slice a6 l6 c6] 78)).heap.size=V.heap.size+1:=by simp
 obtain ⟨VA,hVA⟩:∃ VA,V.alloc (.cells #[.int .u8 k0,.string s0,.int .u8 o0,.int .i64 i2,.int .i64 i3,.slice a4 l4 c4,.slice a5 l5 c5,.slice a6 l6 c6] 78)=VA:=⟨_,rfl⟩
 rw [hVA] at HO2 HV hSA hfA hszA HQ huA ⊢
 clear hVA hA
 refine zbB (rs:=[23]) (by kernel_rfl) (by simp) fun j23 hj23 => ?_
 obtain rfl:j23=23:=by simpa using hj23
 refine zaN opsS_23 rfl fun K1 hK1 => ?_
 refine zbK Tryz.underlying44 Tryz.info78 rfl (by decide) (by decide) _ _ rfl base _ n xs rfl HO2.out _ 1 [.int .u8 k0,.string s0,.int .u8 o0,.int .i64 i2,.int .i64 i3,.slice a4 l4 c4,.slice a5 l5 c5,.slice a6 l6 c6] rfl HV.out hone (by omega) (by omega) ?_
 intro u' W5 hown5 hgrow5 hat5
 have HO5:=hidI hown5
 have HG5:=hidI hgrow5
 have HAT:Hid (u'.ownBlock=Value.ownBlock (.slice ua ul uc)∨u'.ownBlock=some (V.heap.size+1)):=hidI (hszA▸hat5)
 have hS5:(W5.heap[B]?=V.heap[B]?∧W5.heap[eb]?=V.heap[eb]?):=⟨(hgrow5.block B (by omega) (fun e=>hB e.symm)).trans hSA.1,(hgrow5.block eb (by omega) (fun e=>hE e.symm)).trans hSA.2⟩
 have hf5:W5.frozen? ⟨B,8,none⟩=false:=(World.frozen?_of_block (w:=VA) (a:=⟨B,8,none⟩) (hgrow5.block B (by omega) (fun e=>hB e.symm))).trans hfA
 have hu5:=(World.cell?_of_block (w:=V) (a:=⟨B,8,none⟩) hS5.1).trans hu
 obtain ⟨a9,l9,c9,hv6⟩:∃ a9 l9 c9,u'=.slice a9 l9 c9:=by
  rcases hown5.2 with ⟨rfl,_⟩|⟨_,_,_,rfl,_⟩<;>exact ⟨_,_,_,rfl⟩
 subst hv6
 refine hK1 _ _ ⟨fun _=>hS5,?_⟩
 clear hK1 K1 hown5 hgrow5 hat5
 refine zaF [25,26,27] (i:=24) (v:=(.pointer (some ⟨B,0,none⟩))) opsS_24 HPan.out hS5 (fun y hy => ?_) ?_
 ·go_simp
 refine zaF [26,27] (i:=25) (v:=(.pointer (some ⟨B,6,none⟩))) opsS_25 HPan.out hS5 (fun y hy => ?_) ?_
 ·go_simp
 refine zaF [27] (i:=26) (v:=(.pointer (some ⟨B,8,none⟩))) opsS_26 HPan.out hS5 (fun y hy => ?_) ?_
 ·go_simp
 refine zbN (by kernel_rfl) (by kernel_rfl) ?_ _
 refine zaN opsS_27 rfl fun K1 hK1 => ?_
 unfold Oper.wp
 go_simp
 refine hK1 _ _ ?_
 exact HQ.out _ _ _ _ _ _ _ _ _ _ _ _ _ _ _ _ _ _ _ _ _ _ _ _ _ _ _ _ _ HG5.out HO5.out HAT.out
end Go.Proofs.YtmekkhfohmfjkaaGreatDoor
