/-
  Part 9 of the proof: RegY, PBrk.
-/
import Derived.Test.YtmekkhfohmfjkaaGreatDoorSd08
import Derived.Test.YtmekkhfohmfjkaaGreatDoorSd07
import Derived.Test.YtmekkhfohmfjkaaGreatDoorSd01
namespace Go.Proofs.YtmekkhfohmfjkaaGreatDoor
open Go.RowKit Go.Deep Go.MapKept
theorem Tryz.info126:(Tryz.prog.info? 126).map (fun i=>(i.zero,i.size,i.bytes))=some (some (.agg #[.int .u8 0,.string ⟨#[]⟩,.int .u8 0,.bool false,.int .i64 0,.int .i64 0]),6,48):=by kernel_rfl
theorem Tryz.info3z:(Tryz.prog.info? 3).map (fun i=>(i.zero,i.size,i.bytes))=some (some (.int .i64 0),1,8):=by kernel_rfl
theorem acells_one (a:Actn):∀ c∈acells a,c.oneCell'=true:=by
 intro c hc
 simp only [acells,List.mem_cons,List.not_mem_nil,or_false] at hc
 rcases hc with rfl|rfl|rfl|rfl|rfl|rfl<;>rfl
@[go_sem] def opsActN:Nat→Oper
 | 0=>⟨some 70,.move (.tmp 1),217, "read.go:144",#[],none⟩
 | 1=>⟨some 71,.move (.tmp 1),217, "read.go:144",#[],none⟩
 | 2=>⟨some 72,.nilCheck (.tmp 71),0, "read.go:144",#[⟨1,.data⟩],none⟩
 | 3=>⟨some 73,.fieldAddr 170 (.tmp 72) 5,0, "read.go:144",#[⟨2,.data⟩],none⟩
 | 4=>⟨some 74,.load 76 (.tmp 73),76, "read.go:144",#[⟨3,.data⟩],none⟩
 | 5=>⟨some 75,.move (.tmp 0),164, "read.go:144",#[],none⟩
 | 6=>⟨some 76,.move (.tmp 2),3, "read.go:144",#[],none⟩
 | 7=>⟨some 77,.call ⟨.value (.func 149),#[.tmp 75,.tmp 76],#[164,3]⟩,126, "read.go:144",#[⟨5,.data⟩,⟨6,.data⟩],none⟩
 | 8=>⟨some 78,.buildSlice 76 1 #[(0,.tmp 77)],76, "read.go:144",#[⟨7,.data⟩],none⟩
 | 9=>⟨some 79,.call ⟨.builtin .append,#[.tmp 74,.tmp 78],#[76,76]⟩,76, "read.go:144",#[⟨4,.data⟩,⟨8,.data⟩,⟨7,.chain⟩],none⟩
 | 10=>⟨some 80,.nilCheck (.tmp 70),0, "read.go:144",#[⟨0,.data⟩,⟨0,.phase⟩,⟨1,.phase⟩,⟨2,.phase⟩,⟨3,.phase⟩,⟨4,.phase⟩,⟨5,.phase⟩,⟨6,.phase⟩,⟨7,.phase⟩,⟨8,.phase⟩,⟨9,.phase⟩],none⟩
 | 11=>⟨some 81,.fieldAddr 170 (.tmp 80) 5,0, "read.go:144",#[⟨10,.data⟩,⟨0,.phase⟩,⟨1,.phase⟩,⟨2,.phase⟩,⟨3,.phase⟩,⟨4,.phase⟩,⟨5,.phase⟩,⟨6,.phase⟩,⟨7,.phase⟩,⟨8,.phase⟩,⟨9,.phase⟩],none⟩
 | _=>⟨none,.store 76 (.tmp 81) (.tmp 79),0, "read.go:144",#[⟨11,.data⟩,⟨9,.data⟩,⟨9,.chain⟩,⟨0,.phase⟩,⟨1,.phase⟩,⟨2,.phase⟩,⟨3,.phase⟩,⟨4,.phase⟩,⟨5,.phase⟩,⟨6,.phase⟩,⟨7,.phase⟩,⟨8,.phase⟩,⟨9,.phase⟩],none⟩
def opsAct:Array Oper:=opsA opsActN 12
theorem opsAct_0:opsAct[0]?=some (opsActN 0):=zaA opsActN 12 (by decide)
theorem opsAct_1:opsAct[1]?=some (opsActN 1):=zaA opsActN 12 (by decide)
theorem opsAct_2:opsAct[2]?=some (opsActN 2):=zaA opsActN 12 (by decide)
theorem opsAct_3:opsAct[3]?=some (opsActN 3):=zaA opsActN 12 (by decide)
theorem opsAct_4:opsAct[4]?=some (opsActN 4):=zaA opsActN 12 (by decide)
theorem opsAct_5:opsAct[5]?=some (opsActN 5):=zaA opsActN 12 (by decide)
theorem opsAct_6:opsAct[6]?=some (opsActN 6):=zaA opsActN 12 (by decide)
theorem opsAct_7:opsAct[7]?=some (opsActN 7):=zaA opsActN 12 (by decide)
theorem opsAct_8:opsAct[8]?=some (opsActN 8):=zaA opsActN 12 (by decide)
theorem opsAct_9:opsAct[9]?=some (opsActN 9):=zaA opsActN 12 (by decide)
theorem opsAct_10:opsAct[10]?=some (opsActN 10):=zaA opsActN 12 (by decide)
theorem opsAct_11:opsAct[11]?=some (opsActN 11):=zaA opsActN 12 (by decide)
theorem opsAct_12:opsAct[12]?=some (opsActN 12):=zaA opsActN 12 (by decide)
set_option maxRecDepth 100000 in
set_option maxHeartbeats 2000000 in
theorem regAct {x3 x4 x5 x6 x7 x8 x9 x10 x11 x12 x13 x14 x15 x16 x17 x18 x19 x20 x21 x22 x23 x24 x25 x26 x27 x28 x29 x30 x31 x32 x33 x34 x35 x36 x37 x38 x39 x40 x41 x42 x43 x44 x45 x46 x47 x48 x49 x50 x51 x52 x53 x54 x55 x56 x57 x58 x59 x60 x61 x62 x63 x64 x65 x66 x67 x68 x69 x70 x71 x72 x73 x74 x75 x76 x77 x78 x79 x80 x81 x82 x83 x84 x85 x86 x87 x88 x89 x90 x91 x92 x93 x94 x95 x96 x97 x98 x99 x100 x101 x102 x103 x104 x105 x106 x107 x108 x109 x110 x111 x112 x113 x114 x115:Value} {Q:Exit→Act→World→Prop} {V0:World} {B cb base n:Nat} {at_:Int} {u:Value} {xs:List Value} {P:Actn→World→Prop}
  (hu:V0.drew.cell? ⟨cb,5,none⟩=some u) (hus:∃ ua ul uc,u=.slice ua ul uc) (hn:n≤1000) (hB:u.ownBlock≠some cb)
  (hC:Calls Tryz.prog 149 #[.pointer (some ⟨B,0,none⟩),.int .i64 at_] V0.drew fun e w'=>(∃ i:Actn,e=.returned (.agg #[.int .u8 (i.k:Int),.string i.name,.int .u8 (i.op:Int),.bool i.inn,.int .i64 i.e,.int .i64 i.cond])∧w'.cell? ⟨cb,5,none⟩=some u∧w'.frozen? ⟨cb,5,none⟩=false∧w'.ownsRow base 126 6 u n xs∧base≤w'.heap.size∧P i w')∨(∃ ch,e=.panicked ch∧∀ a:Act,a.defers=[]→Q (.panic ch) a w'))
  (hone:∀ i:Actn,∀ c∈([.int .u8 (i.k:Int),.string i.name,.int .u8 (i.op:Int),.bool i.inn,.int .i64 i.e,.int .i64 i.cond]:List Value),c.oneCell'=true)
  (hpan:∀ c (a:Act) w (dd:Tmp) vv,Q (.panic c) (a.put (some dd) vv) w→Q (.panic c) a w)
  (hQ:∀ (i:Actn) (W1 W5:World) (u':Value) (t70 t71 t72 t73 t74 t75 t76 t77 t78 t79 t80 t81:Value),P i W1→(W1.alloc (.cells #[.int .u8 (i.k:Int),.string i.name,.int .u8 (i.op:Int),.bool i.inn,.int .i64 i.e,.int .i64 i.cond] 126)).grownBy W5 u.ownBlock→W5.ownsRow base 126 6 u' (n+1) (xs++[.int .u8 (i.k:Int),.string i.name,.int .u8 (i.op:Int),.bool i.inn,.int .i64 i.e,.int .i64 i.cond])→(u'.ownBlock=u.ownBlock∨u'.ownBlock=some (W1.heap.size+1))→Q .normal { tmps:=#[.pointer (some ⟨B,0,none⟩),.pointer (some ⟨cb,0,none⟩),.int .i64 at_,x3,x4,x5,x6,x7,x8,x9,x10,x11,x12,x13,x14,x15,x16,x17,x18,x19,x20,x21,x22,x23,x24,x25,x26,x27,x28,x29,x30,x31,x32,x33,x34,x35,x36,x37,x38,x39,x40,x41,x42,x43,x44,x45,x46,x47,x48,x49,x50,x51,x52,x53,x54,x55,x56,x57,x58,x59,x60,x61,x62,x63,x64,x65,x66,x67,x68,x69,t70,t71,t72,t73,t74,t75,t76,t77,t78,t79,t80,t81,x82,x83,x84,x85,x86,x87,x88,x89,x90,x91,x92,x93,x94,x95,x96,x97,x98,x99,x100,x101,x102,x103,x104,x105,x106,x107,x108,x109,x110,x111,x112,x113,x114,x115],defers:=[] } (W5.setCell ⟨cb,5,none⟩ u')) :
  (Code.region 14 opsAct true).wp Tryz.prog Q { tmps:=#[.pointer (some ⟨B,0,none⟩),.pointer (some ⟨cb,0,none⟩),.int .i64 at_,x3,x4,x5,x6,x7,x8,x9,x10,x11,x12,x13,x14,x15,x16,x17,x18,x19,x20,x21,x22,x23,x24,x25,x26,x27,x28,x29,x30,x31,x32,x33,x34,x35,x36,x37,x38,x39,x40,x41,x42,x43,x44,x45,x46,x47,x48,x49,x50,x51,x52,x53,x54,x55,x56,x57,x58,x59,x60,x61,x62,x63,x64,x65,x66,x67,x68,x69,x70,x71,x72,x73,x74,x75,x76,x77,x78,x79,x80,x81,x82,x83,x84,x85,x86,x87,x88,x89,x90,x91,x92,x93,x94,x95,x96,x97,x98,x99,x100,x101,x102,x103,x104,x105,x106,x107,x108,x109,x110,x111,x112,x113,x114,x115],defers:=[] } V0:=by
 refine zbE (fun y=>y.cell? ⟨cb,5,none⟩=some u) 12 Tryz.mixed ?_
 obtain ⟨V,hV⟩:∃ V,V0.drew=V:=⟨_,rfl⟩
 rw [hV] at hu hC ⊢
 clear hV
 have HC:=hidI hC
 have HQ:=hidI hQ
 have HPan:=hidI hpan
 have HOne:=hidI hone
 obtain ⟨ua,ul,uc,rfl⟩:=hus
 clear hQ hpan hC hone
 refine zaF [10,11,12] (i:=0) (v:=(.pointer (some ⟨cb,0,none⟩))) opsAct_0 HPan.out hu (fun y hy => ?_) ?_
 ·go_simp
 refine zaF [2,3,4,9,10,11,12] (i:=1) (v:=(.pointer (some ⟨cb,0,none⟩))) opsAct_1 HPan.out hu (fun y hy => ?_) ?_
 ·go_simp
 refine zaF [3,4,9,10,11,12] (i:=2) (v:=(.pointer (some ⟨cb,0,none⟩))) opsAct_2 HPan.out hu (fun y hy => ?_) ?_
 ·go_simp
 refine zaF [4,9,10,11,12] (i:=3) (v:=(.pointer (some ⟨cb,5,none⟩))) opsAct_3 HPan.out hu (fun y hy => ?_) ?_
 ·go_simp
 refine zaF [9,10,11,12] (i:=4) (v:=(.slice ua ul uc)) opsAct_4 HPan.out hu (fun y hy => ?_) ?_
 ·have q0:=hy;go_simp
 refine zaF [7,8,9,10,11,12] (i:=5) (v:=(.pointer (some ⟨B,0,none⟩))) opsAct_5 HPan.out hu (fun y hy => ?_) ?_
 ·go_simp
 refine zaF [7,8,9,10,11,12] (i:=6) (v:=(.int .i64 at_)) opsAct_6 HPan.out hu (fun y hy => ?_) ?_
 ·go_simp
 refine zbB (rs:=[7]) (by kernel_rfl) (by simp) fun j7 hj7 => ?_
 obtain rfl:j7=7:=by simpa using hj7
 refine zaN opsAct_7 rfl fun K1 hK1 => ?_
 unfold Oper.wp
 go_simp
 refine Calls.mono HC.out ?_
 intro e W1 h1
 rcases h1 with ⟨i,rfl,hu1,hf1,ho1,hb1,hP1⟩|⟨ch,rfl,hp⟩
 rotate_left
 ·exact hp _ rfl
 have HP1:=hidI hP1
 have HOwn:=hidI ho1
 clear hP1 ho1 HC
 refine hK1 _ _ ⟨fun _=>hu1,?_⟩
 clear hK1 K1
 refine zbB (rs:=[8]) (by kernel_rfl) (by simp) fun j8 hj8 => ?_
 obtain rfl:j8=8:=by simpa using hj8
 refine zaN opsAct_8 rfl fun K1 hK1 => ?_
 unfold Oper.wp
 go_simp
 have hBl:cb<W1.heap.size:=World.block_lt_of_cell? W1 _ hu1
 have hA:Below W1.heap.size W1 (W1.alloc (.cells #[.int .u8 (i.k:Int),.string i.name,.int .u8 (i.op:Int),.bool i.inn,.int .i64 i.e,.int .i64 i.cond] 126)):=by exact belowT
 have huA:(W1.alloc (.cells #[.int .u8 (i.k:Int),.string i.name,.int .u8 (i.op:Int),.bool i.inn,.int .i64 i.e,.int .i64 i.cond] 126)).cell? ⟨cb,5,none⟩=some (.slice ua ul uc):=(World.cell?_of_block (w:=W1) (hA.block _ hBl)).trans hu1
 refine hK1 _ _ ⟨fun _=>huA,?_⟩
 clear hK1 K1
 have HO2:=hidI (HOwn.out.alloc (.cells #[.int .u8 (i.k:Int),.string i.name,.int .u8 (i.op:Int),.bool i.inn,.int .i64 i.e,.int .i64 i.cond] 126))
 have HV:=hidI (zbT W1 126 6 #[.int .u8 (i.k:Int),.string i.name,.int .u8 (i.op:Int),.bool i.inn,.int .i64 i.e,.int .i64 i.cond] rfl)
 have hfA:(W1.alloc (.cells #[.int .u8 (i.k:Int),.string i.name,.int .u8 (i.op:Int),.bool i.inn,.int .i64 i.e,.int .i64 i.cond] 126)).frozen? ⟨cb,5,none⟩=false:=(hA.frozen (p:=⟨cb,5,none⟩) hBl).trans hf1
 have hszA:(W1.alloc (.cells #[.int .u8 (i.k:Int),.string i.name,.int .u8 (i.op:Int),.bool i.inn,.int .i64 i.e,.int .i64 i.cond] 126)).heap.size=W1.heap.size+1:=by simp
 obtain ⟨VA,hVA⟩:∃ VA,W1.alloc (.cells #[.int .u8 (i.k:Int),.string i.name,.int .u8 (i.op:Int),.bool i.inn,.int .i64 i.e,.int .i64 i.cond] 126)=VA:=⟨_,rfl⟩
 have HVA:=hidI hVA
 rw [hVA] at HO2 HV hfA hszA huA ⊢
 clear hVA hA
 refine zbB (rs:=[9]) (by kernel_rfl) (by simp) fun j9 hj9 => ?_
 obtain rfl:j9=9:=by simpa using hj9
 refine zaN opsAct_9 rfl fun K1 hK1 => ?_
 refine zbK Tryz.underlying76 Tryz.info126 rfl (by decide) (by decide) _ _ rfl base _ n xs rfl HO2.out _ 1 [.int .u8 (i.k:Int),.string i.name,.int .u8 (i.op:Int),.bool i.inn,.int .i64 i.e,.int .i64 i.cond] rfl HV.out (HOne.out i) (by omega) (by omega) ?_
 intro u' W5 hown5 hgrow5 hat5
 have HO5:=hidI hown5
 have HG5:=hidI hgrow5
 have HAT:Hid (u'.ownBlock=Value.ownBlock (.slice ua ul uc)∨u'.ownBlock=some (W1.heap.size+1)):=hidI (hszA▸hat5)
 have hu5:W5.cell? ⟨cb,5,none⟩=some (.slice ua ul uc):=(World.cell?_of_block (w:=VA) (hgrow5.block cb (by omega) (fun e=>hB e.symm))).trans huA
 have hf5:W5.frozen? ⟨cb,5,none⟩=false:=(World.frozen?_of_block (w:=VA) (a:=⟨cb,5,none⟩) (hgrow5.block cb (by omega) (fun e=>hB e.symm))).trans hfA
 obtain ⟨a9,l9,c9,hv6⟩:∃ a9 l9 c9,u'=.slice a9 l9 c9:=by
  rcases hown5.2 with ⟨rfl,_⟩|⟨_,_,_,rfl,_⟩<;>exact ⟨_,_,_,rfl⟩
 subst hv6
 refine hK1 _ _ ⟨fun _=>hu5,?_⟩
 clear hK1 K1 hown5 hgrow5 hat5
 refine zaF [11,12] (i:=10) (v:=(.pointer (some ⟨cb,0,none⟩))) opsAct_10 HPan.out hu5 (fun y hy => ?_) ?_
 ·go_simp
 refine zaF [12] (i:=11) (v:=(.pointer (some ⟨cb,5,none⟩))) opsAct_11 HPan.out hu5 (fun y hy => ?_) ?_
 ·go_simp
 refine zbN (by kernel_rfl) (by kernel_rfl) ?_ _
 refine zaN opsAct_12 rfl fun K1 hK1 => ?_
 unfold Oper.wp
 go_simp
 refine hK1 _ _ ?_
 exact HQ.out i W1 _ _ _ _ _ _ _ _ _ _ _ _ _ _ HP1.out (by rw [HVA.out];exact HG5.out) HO5.out HAT.out
@[go_sem] def opsRestN:Nat→Oper
 | 0=>⟨some 104,.move (.tmp 1),217, "read.go:150",#[],none⟩
 | 1=>⟨some 105,.move (.tmp 1),217, "read.go:150",#[],none⟩
 | 2=>⟨some 106,.nilCheck (.tmp 105),0, "read.go:150",#[⟨1,.data⟩],none⟩
 | 3=>⟨some 107,.fieldAddr 170 (.tmp 106) 6,0, "read.go:150",#[⟨2,.data⟩],none⟩
 | 4=>⟨some 108,.load 45 (.tmp 107),45, "read.go:150",#[⟨3,.data⟩],none⟩
 | 5=>⟨some 109,.move (.tmp 0),164, "read.go:150",#[],none⟩
 | 6=>⟨some 110,.move (.tmp 2),3, "read.go:150",#[],none⟩
 | 7=>⟨some 111,.call ⟨.value (.func 93),#[.tmp 109,.tmp 110],#[164,3]⟩,3, "read.go:150",#[⟨5,.data⟩,⟨6,.data⟩],none⟩
 | 8=>⟨some 112,.buildSlice 45 1 #[(0,.tmp 111)],45, "read.go:150",#[⟨7,.data⟩],none⟩
 | 9=>⟨some 113,.call ⟨.builtin .append,#[.tmp 108,.tmp 112],#[45,45]⟩,45, "read.go:150",#[⟨4,.data⟩,⟨8,.data⟩,⟨7,.chain⟩],none⟩
 | 10=>⟨some 114,.nilCheck (.tmp 104),0, "read.go:150",#[⟨0,.data⟩,⟨0,.phase⟩,⟨1,.phase⟩,⟨2,.phase⟩,⟨3,.phase⟩,⟨4,.phase⟩,⟨5,.phase⟩,⟨6,.phase⟩,⟨7,.phase⟩,⟨8,.phase⟩,⟨9,.phase⟩],none⟩
 | 11=>⟨some 115,.fieldAddr 170 (.tmp 114) 6,0, "read.go:150",#[⟨10,.data⟩,⟨0,.phase⟩,⟨1,.phase⟩,⟨2,.phase⟩,⟨3,.phase⟩,⟨4,.phase⟩,⟨5,.phase⟩,⟨6,.phase⟩,⟨7,.phase⟩,⟨8,.phase⟩,⟨9,.phase⟩],none⟩
 | _=>⟨none,.store 45 (.tmp 115) (.tmp 113),0, "read.go:150",#[⟨11,.data⟩,⟨9,.data⟩,⟨9,.chain⟩,⟨0,.phase⟩,⟨1,.phase⟩,⟨2,.phase⟩,⟨3,.phase⟩,⟨4,.phase⟩,⟨5,.phase⟩,⟨6,.phase⟩,⟨7,.phase⟩,⟨8,.phase⟩,⟨9,.phase⟩],none⟩
def opsRest:Array Oper:=opsA opsRestN 12
theorem opsRest_0:opsRest[0]?=some (opsRestN 0):=zaA opsRestN 12 (by decide)
theorem opsRest_1:opsRest[1]?=some (opsRestN 1):=zaA opsRestN 12 (by decide)
theorem opsRest_2:opsRest[2]?=some (opsRestN 2):=zaA opsRestN 12 (by decide)
theorem opsRest_3:opsRest[3]?=some (opsRestN 3):=zaA opsRestN 12 (by decide)
theorem opsRest_4:opsRest[4]?=some (opsRestN 4):=zaA opsRestN 12 (by decide)
theorem opsRest_5:opsRest[5]?=some (opsRestN 5):=zaA opsRestN 12 (by decide)
theorem opsRest_6:opsRest[6]?=some (opsRestN 6):=zaA opsRestN 12 (by decide)
theorem opsRest_7:opsRest[7]?=some (opsRestN 7):=zaA opsRestN 12 (by decide)
theorem opsRest_8:opsRest[8]?=some (opsRestN 8):=zaA opsRestN 12 (by decide)
theorem opsRest_9:opsRest[9]?=some (opsRestN 9):=zaA opsRestN 12 (by decide)
theorem opsRest_10:opsRest[10]?=some (opsRestN 10):=zaA opsRestN 12 (by decide)
theorem opsRest_11:opsRest[11]?=some (opsRestN 11):=zaA opsRestN 12 (by decide)
theorem opsRest_12:opsRest[12]?=some (opsRestN 12):=zaA opsRestN 12 (by decide)
set_option maxRecDepth 100000 in
set_option maxHeartbeats 2000000 in
theorem regRest {x3 x4 x5 x6 x7 x8 x9 x10 x11 x12 x13 x14 x15 x16 x17 x18 x19 x20 x21 x22 x23 x24 x25 x26 x27 x28 x29 x30 x31 x32 x33 x34 x35 x36 x37 x38 x39 x40 x41 x42 x43 x44 x45 x46 x47 x48 x49 x50 x51 x52 x53 x54 x55 x56 x57 x58 x59 x60 x61 x62 x63 x64 x65 x66 x67 x68 x69 x70 x71 x72 x73 x74 x75 x76 x77 x78 x79 x80 x81 x82 x83 x84 x85 x86 x87 x88 x89 x90 x91 x92 x93 x94 x95 x96 x97 x98 x99 x100 x101 x102 x103 x104 x105 x106 x107 x108 x109 x110 x111 x112 x113 x114 x115:Value} {Q:Exit→Act→World→Prop} {V0:World} {B cb base n:Nat} {at_:Int} {u:Value} {xs:List Value} {P:Int→World→Prop}
  (hu:V0.drew.cell? ⟨cb,6,none⟩=some u) (hus:∃ ua ul uc,u=.slice ua ul uc) (hn:n≤1000) (hB:u.ownBlock≠some cb)
  (hC:Calls Tryz.prog 93 #[.pointer (some ⟨B,0,none⟩),.int .i64 at_] V0.drew fun e w'=>(∃ i:Int,e=.returned (.int .i64 i)∧w'.cell? ⟨cb,6,none⟩=some u∧w'.frozen? ⟨cb,6,none⟩=false∧w'.ownsRow base 3 1 u n xs∧base≤w'.heap.size∧P i w')∨(∃ ch,e=.panicked ch∧∀ a:Act,a.defers=[]→Q (.panic ch) a w'))
  (hone:∀ i:Int,∀ c∈([.int .i64 i]:List Value),c.oneCell'=true)
  (hpan:∀ c (a:Act) w (dd:Tmp) vv,Q (.panic c) (a.put (some dd) vv) w→Q (.panic c) a w)
  (hQ:∀ (i:Int) (W1 W5:World) (u':Value) (t104 t105 t106 t107 t108 t109 t110 t111 t112 t113 t114 t115:Value),P i W1→(W1.alloc (.cells #[.int .i64 i] 3)).grownBy W5 u.ownBlock→W5.ownsRow base 3 1 u' (n+1) (xs++[.int .i64 i])→(u'.ownBlock=u.ownBlock∨u'.ownBlock=some (W1.heap.size+1))→Q .normal { tmps:=#[.pointer (some ⟨B,0,none⟩),.pointer (some ⟨cb,0,none⟩),.int .i64 at_,x3,x4,x5,x6,x7,x8,x9,x10,x11,x12,x13,x14,x15,x16,x17,x18,x19,x20,x21,x22,x23,x24,x25,x26,x27,x28,x29,x30,x31,x32,x33,x34,x35,x36,x37,x38,x39,x40,x41,x42,x43,x44,x45,x46,x47,x48,x49,x50,x51,x52,x53,x54,x55,x56,x57,x58,x59,x60,x61,x62,x63,x64,x65,x66,x67,x68,x69,x70,x71,x72,x73,x74,x75,x76,x77,x78,x79,x80,x81,x82,x83,x84,x85,x86,x87,x88,x89,x90,x91,x92,x93,x94,x95,x96,x97,x98,x99,x100,x101,x102,x103,t104,t105,t106,t107,t108,t109,t110,t111,t112,t113,t114,t115],defers:=[] } (W5.setCell ⟨cb,6,none⟩ u')) :
  (Code.region 20 opsRest true).wp Tryz.prog Q { tmps:=#[.pointer (some ⟨B,0,none⟩),.pointer (some ⟨cb,0,none⟩),.int .i64 at_,x3,x4,x5,x6,x7,x8,x9,x10,x11,x12,x13,x14,x15,x16,x17,x18,x19,x20,x21,x22,x23,x24,x25,x26,x27,x28,x29,x30,x31,x32,x33,x34,x35,x36,x37,x38,x39,x40,x41,x42,x43,x44,x45,x46,x47,x48,x49,x50,x51,x52,x53,x54,x55,x56,x57,x58,x59,x60,x61,x62,x63,x64,x65,x66,x67,x68,x69,x70,x71,x72,x73,x74,x75,x76,x77,x78,x79,x80,x81,x82,x83,x84,x85,x86,x87,x88,x89,x90,x91,x92,x93,x94,x95,x96,x97,x98,x99,x100,x101,x102,x103,x104,x105,x106,x107,x108,x109,x110,x111,x112,x113,x114,x115],defers:=[] } V0:=by
 refine zbE (fun y=>y.cell? ⟨cb,6,none⟩=some u) 12 Tryz.mixed ?_
 obtain ⟨V,hV⟩:∃ V,V0.drew=V:=⟨_,rfl⟩
 rw [hV] at hu hC ⊢
 clear hV
 have HC:=hidI hC
 have HQ:=hidI hQ
 have HPan:=hidI hpan
 have HOne:=hidI hone
 obtain ⟨ua,ul,uc,rfl⟩:=hus
 clear hQ hpan hC hone
 refine zaF [10,11,12] (i:=0) (v:=(.pointer (some ⟨cb,0,none⟩))) opsRest_0 HPan.out hu (fun y hy => ?_) ?_
 ·go_simp
 refine zaF [2,3,4,9,10,11,12] (i:=1) (v:=(.pointer (some ⟨cb,0,none⟩))) opsRest_1 HPan.out hu (fun y hy => ?_) ?_
 ·go_simp
 refine zaF [3,4,9,10,11,12] (i:=2) (v:=(.pointer (some ⟨cb,0,none⟩))) opsRest_2 HPan.out hu (fun y hy => ?_) ?_
 ·go_simp
 refine zaF [4,9,10,11,12] (i:=3) (v:=(.pointer (some ⟨cb,6,none⟩))) opsRest_3 HPan.out hu (fun y hy => ?_) ?_
 ·go_simp
 refine zaF [9,10,11,12] (i:=4) (v:=(.slice ua ul uc)) opsRest_4 HPan.out hu (fun y hy => ?_) ?_
 ·have q0:=hy;go_simp
 refine zaF [7,8,9,10,11,12] (i:=5) (v:=(.pointer (some ⟨B,0,none⟩))) opsRest_5 HPan.out hu (fun y hy => ?_) ?_
 ·go_simp
 refine zaF [7,8,9,10,11,12] (i:=6) (v:=(.int .i64 at_)) opsRest_6 HPan.out hu (fun y hy => ?_) ?_
 ·go_simp
 refine zbB (rs:=[7]) (by kernel_rfl) (by simp) fun j7 hj7 => ?_
 obtain rfl:j7=7:=by simpa using hj7
 refine zaN opsRest_7 rfl fun K1 hK1 => ?_
 unfold Oper.wp
 go_simp
 refine Calls.mono HC.out ?_
 intro e W1 h1
 rcases h1 with ⟨i,rfl,hu1,hf1,ho1,hb1,hP1⟩|⟨ch,rfl,hp⟩
 rotate_left
 ·exact hp _ rfl
 have HP1:=hidI hP1
 have HOwn:=hidI ho1
 clear hP1 ho1 HC
 refine hK1 _ _ ⟨fun _=>hu1,?_⟩
 clear hK1 K1
 refine zbB (rs:=[8]) (by kernel_rfl) (by simp) fun j8 hj8 => ?_
 obtain rfl:j8=8:=by simpa using hj8
 refine zaN opsRest_8 rfl fun K1 hK1 => ?_
 unfold Oper.wp
 go_simp
 have hBl:cb<W1.heap.size:=World.block_lt_of_cell? W1 _ hu1
 have hA:Below W1.heap.size W1 (W1.alloc (.cells #[.int .i64 i] 3)):=by exact belowT
 have huA:(W1.alloc (.cells #[.int .i64 i] 3)).cell? ⟨cb,6,none⟩=some (.slice ua ul uc):=(World.cell?_of_block (w:=W1) (hA.block _ hBl)).trans hu1
 refine hK1 _ _ ⟨fun _=>huA,?_⟩
 clear hK1 K1
 have HO2:=hidI (HOwn.out.alloc (.cells #[.int .i64 i] 3))
 have HV:=hidI (zbT W1 3 1 #[.int .i64 i] rfl)
 have hfA:(W1.alloc (.cells #[.int .i64 i] 3)).frozen? ⟨cb,6,none⟩=false:=(hA.frozen (p:=⟨cb,6,none⟩) hBl).trans hf1
 have hszA:(W1.alloc (.cells #[.int .i64 i] 3)).heap.size=W1.heap.size+1:=by simp
 obtain ⟨VA,hVA⟩:∃ VA,W1.alloc (.cells #[.int .i64 i] 3)=VA:=⟨_,rfl⟩
 have HVA:=hidI hVA
 rw [hVA] at HO2 HV hfA hszA huA ⊢
 clear hVA hA
 refine zbB (rs:=[9]) (by kernel_rfl) (by simp) fun j9 hj9 => ?_
 obtain rfl:j9=9:=by simpa using hj9
 refine zaN opsRest_9 rfl fun K1 hK1 => ?_
 refine zbK Tryz.underlying45 Tryz.info3z rfl (by decide) (by decide) _ _ rfl base _ n xs rfl HO2.out _ 1 [.int .i64 i] rfl HV.out (HOne.out i) (by omega) (by omega) ?_
 intro u' W5 hown5 hgrow5 hat5
 have HO5:=hidI hown5
 have HG5:=hidI hgrow5
 have HAT:Hid (u'.ownBlock=Value.ownBlock (.slice ua ul uc)∨u'.ownBlock=some (W1.heap.size+1)):=hidI (hszA▸hat5)
 have hu5:W5.cell? ⟨cb,6,none⟩=some (.slice ua ul uc):=(World.cell?_of_block (w:=VA) (hgrow5.block cb (by omega) (fun e=>hB e.symm))).trans huA
 have hf5:W5.frozen? ⟨cb,6,none⟩=false:=(World.frozen?_of_block (w:=VA) (a:=⟨cb,6,none⟩) (hgrow5.block cb (by omega) (fun e=>hB e.symm))).trans hfA
 obtain ⟨a9,l9,c9,hv6⟩:∃ a9 l9 c9,u'=.slice a9 l9 c9:=by
  rcases hown5.2 with ⟨rfl,_⟩|⟨_,_,_,rfl,_⟩<;>exact ⟨_,_,_,rfl⟩
 subst hv6
 refine hK1 _ _ ⟨fun _=>hu5,?_⟩
 clear hK1 K1 hown5 hgrow5 hat5
 refine zaF [11,12] (i:=10) (v:=(.pointer (some ⟨cb,0,none⟩))) opsRest_10 HPan.out hu5 (fun y hy => ?_) ?_
 ·go_simp
 refine zaF [12] (i:=11) (v:=(.pointer (some ⟨cb,6,none⟩))) opsRest_11 HPan.out hu5 (fun y hy => ?_) ?_
 ·go_simp
 refine zbN (by kernel_rfl) (by kernel_rfl) ?_ _
 refine zaN opsRest_12 rfl fun K1 hK1 => ?_
 unfold Oper.wp
 go_simp
 refine hK1 _ _ ?_
 exact HQ.out i W1 _ _ _ _ _ _ _ _ _ _ _ _ _ _ HP1.out (by rw [HVA.out];exact HG5.out) HO5.out HAT.out
@[go_sem] def opsMainN:Nat→Oper
 | 0=>⟨some 66,.move (.tmp 0),164, "read.go:42",#[],none⟩
 | 1=>⟨some 67,.move (.tmp 0),164, "read.go:42",#[],none⟩
 | 2=>⟨some 68,.nilCheck (.tmp 67),0, "read.go:42",#[⟨1,.data⟩],none⟩
 | 3=>⟨some 69,.fieldAddr 109 (.tmp 68) 2,0, "read.go:42",#[⟨2,.data⟩],none⟩
 | 4=>⟨some 70,.fieldAddr 47 (.tmp 69) 3,0, "read.go:42",#[⟨3,.data⟩],none⟩
 | 5=>⟨some 71,.load 45 (.tmp 70),45, "read.go:42",#[⟨4,.data⟩],none⟩
 | 6=>⟨some 72,.move (.tmp 0),164, "read.go:42",#[],none⟩
 | 7=>⟨some 73,.move (.tmp 5),3, "read.go:42",#[],none⟩
 | 8=>⟨some 74,.call ⟨.value (.func 93),#[.tmp 72,.tmp 73],#[164,3]⟩,3, "read.go:42",#[⟨6,.data⟩,⟨7,.data⟩],none⟩
 | 9=>⟨some 75,.buildSlice 45 1 #[(0,.tmp 74)],45, "read.go:42",#[⟨8,.data⟩],none⟩
 | 10=>⟨some 76,.call ⟨.builtin .append,#[.tmp 71,.tmp 75],#[45,45]⟩,45, "read.go:42",#[⟨5,.data⟩,⟨9,.data⟩,⟨8,.chain⟩],none⟩
 | 11=>⟨some 77,.nilCheck (.tmp 66),0, "read.go:42",#[⟨0,.data⟩,⟨0,.phase⟩,⟨1,.phase⟩,⟨2,.phase⟩,⟨3,.phase⟩,⟨4,.phase⟩,⟨5,.phase⟩,⟨6,.phase⟩,⟨7,.phase⟩,⟨8,.phase⟩,⟨9,.phase⟩,⟨10,.phase⟩],none⟩
 | 12=>⟨some 78,.fieldAddr 109 (.tmp 77) 2,0, "read.go:42",#[⟨11,.data⟩,⟨0,.phase⟩,⟨1,.phase⟩,⟨2,.phase⟩,⟨3,.phase⟩,⟨4,.phase⟩,⟨5,.phase⟩,⟨6,.phase⟩,⟨7,.phase⟩,⟨8,.phase⟩,⟨9,.phase⟩,⟨10,.phase⟩],none⟩
 | 13=>⟨some 79,.fieldAddr 47 (.tmp 78) 3,0, "read.go:42",#[⟨12,.data⟩,⟨0,.phase⟩,⟨1,.phase⟩,⟨2,.phase⟩,⟨3,.phase⟩,⟨4,.phase⟩,⟨5,.phase⟩,⟨6,.phase⟩,⟨7,.phase⟩,⟨8,.phase⟩,⟨9,.phase⟩,⟨10,.phase⟩],none⟩
 | _=>⟨none,.store 45 (.tmp 79) (.tmp 76),0, "read.go:42",#[⟨13,.data⟩,⟨10,.data⟩,⟨10,.chain⟩,⟨0,.phase⟩,⟨1,.phase⟩,⟨2,.phase⟩,⟨3,.phase⟩,⟨4,.phase⟩,⟨5,.phase⟩,⟨6,.phase⟩,⟨7,.phase⟩,⟨8,.phase⟩,⟨9,.phase⟩,⟨10,.phase⟩],none⟩
def opsMain:Array Oper:=opsA opsMainN 14
theorem opsMain_0:opsMain[0]?=some (opsMainN 0):=zaA opsMainN 14 (by decide)
theorem opsMain_1:opsMain[1]?=some (opsMainN 1):=zaA opsMainN 14 (by decide)
theorem opsMain_2:opsMain[2]?=some (opsMainN 2):=zaA opsMainN 14 (by decide)
theorem opsMain_3:opsMain[3]?=some (opsMainN 3):=zaA opsMainN 14 (by decide)
theorem opsMain_4:opsMain[4]?=some (opsMainN 4):=zaA opsMainN 14 (by decide)
theorem opsMain_5:opsMain[5]?=some (opsMainN 5):=zaA opsMainN 14 (by decide)
theorem opsMain_6:opsMain[6]?=some (opsMainN 6):=zaA opsMainN 14 (by decide)
theorem opsMain_7:opsMain[7]?=some (opsMainN 7):=zaA opsMainN 14 (by decide)
theorem opsMain_8:opsMain[8]?=some (opsMainN 8):=zaA opsMainN 14 (by decide)
theorem opsMain_9:opsMain[9]?=some (opsMainN 9):=zaA opsMainN 14 (by decide)
theorem opsMain_10:opsMain[10]?=some (opsMainN 10):=zaA opsMainN 14 (by decide)
theorem opsMain_11:opsMain[11]?=some (opsMainN 11):=zaA opsMainN 14 (by decide)
theorem opsMain_12:opsMain[12]?=some (opsMainN 12):=zaA opsMainN 14 (by decide)
theorem opsMain_13:opsMain[13]?=some (opsMainN 13):=zaA opsMainN 14 (by decide)
theorem opsMain_14:opsMain[14]?=some (opsMainN 14):=zaA opsMainN 14 (by decide)
set_option maxRecDepth 100000 in
set_option maxHeartbeats 2000000 in
theorem regMain {x1 x2 x3 x4 x6 x7 x8 x9 x10 x11 x12 x13 x14 x15 x16 x17 x18 x19 x20 x21 x22 x23 x24 x25 x26 x27 x28 x29 x30 x31 x32 x33 x34 x35 x36 x37 x38 x39 x40 x41 x42 x43 x44 x45 x46 x47 x48 x49 x50 x51 x52 x53 x54 x55 x56 x57 x58 x59 x60 x61 x62 x63 x64 x65 x66 x67 x68 x69 x70 x71 x72 x73 x74 x75 x76 x77 x78 x79 x80:Value} {Q:Exit→Act→World→Prop} {V0:World} {B base n:Nat} {at_:Int} {u:Value} {xs:List Value} {P:Int→World→Prop}
  (hu:V0.drew.cell? ⟨B,9,none⟩=some u) (hus:∃ ua ul uc,u=.slice ua ul uc) (hn:n≤1000) (hB:u.ownBlock≠some B)
  (hC:Calls Tryz.prog 93 #[.pointer (some ⟨B,0,none⟩),.int .i64 at_] V0.drew fun e w'=>(∃ i:Int,e=.returned (.int .i64 i)∧w'.cell? ⟨B,9,none⟩=some u∧w'.frozen? ⟨B,9,none⟩=false∧w'.ownsRow base 3 1 u n xs∧base≤w'.heap.size∧P i w')∨(∃ ch,e=.panicked ch∧∀ a:Act,a.defers=[]→Q (.panic ch) a w'))
  (hone:∀ i:Int,∀ c∈([.int .i64 i]:List Value),c.oneCell'=true)
  (hpan:∀ c (a:Act) w (dd:Tmp) vv,Q (.panic c) (a.put (some dd) vv) w→Q (.panic c) a w)
  (hQ:∀ (i:Int) (W1 W5:World) (u':Value) (t66 t67 t68 t69 t70 t71 t72 t73 t74 t75 t76 t77 t78 t79:Value),P i W1→(W1.alloc (.cells #[.int .i64 i] 3)).grownBy W5 u.ownBlock→W5.ownsRow base 3 1 u' (n+1) (xs++[.int .i64 i])→(u'.ownBlock=u.ownBlock∨u'.ownBlock=some (W1.heap.size+1))→Q .normal { tmps:=#[.pointer (some ⟨B,0,none⟩),x1,x2,x3,x4,.int .i64 at_,x6,x7,x8,x9,x10,x11,x12,x13,x14,x15,x16,x17,x18,x19,x20,x21,x22,x23,x24,x25,x26,x27,x28,x29,x30,x31,x32,x33,x34,x35,x36,x37,x38,x39,x40,x41,x42,x43,x44,x45,x46,x47,x48,x49,x50,x51,x52,x53,x54,x55,x56,x57,x58,x59,x60,x61,x62,x63,x64,x65,t66,t67,t68,t69,t70,t71,t72,t73,t74,t75,t76,t77,t78,t79,x80],defers:=[] } (W5.setCell ⟨B,9,none⟩ u')) :
  (Code.region 9 opsMain true).wp Tryz.prog Q { tmps:=#[.pointer (some ⟨B,0,none⟩),x1,x2,x3,x4,.int .i64 at_,x6,x7,x8,x9,x10,x11,x12,x13,x14,x15,x16,x17,x18,x19,x20,x21,x22,x23,x24,x25,x26,x27,x28,x29,x30,x31,x32,x33,x34,x35,x36,x37,x38,x39,x40,x41,x42,x43,x44,x45,x46,x47,x48,x49,x50,x51,x52,x53,x54,x55,x56,x57,x58,x59,x60,x61,x62,x63,x64,x65,x66,x67,x68,x69,x70,x71,x72,x73,x74,x75,x76,x77,x78,x79,x80],defers:=[] } V0:=by
 refine zbE (fun y=>y.cell? ⟨B,9,none⟩=some u) 14 Tryz.mixed ?_
 obtain ⟨V,hV⟩:∃ V,V0.drew=V:=⟨_,rfl⟩
 rw [hV] at hu hC ⊢
 clear hV
 have HC:=hidI hC
 have HQ:=hidI hQ
 have HPan:=hidI hpan
 have HOne:=hidI hone
 obtain ⟨ua,ul,uc,rfl⟩:=hus
 clear hQ hpan hC hone
 refine zaF [11,12,13,14] (i:=0) (v:=(.pointer (some ⟨B,0,none⟩))) opsMain_0 HPan.out hu (fun y hy => ?_) ?_
 ·go_simp
 refine zaF [2,3,4,5,10,11,12,13,14] (i:=1) (v:=(.pointer (some ⟨B,0,none⟩))) opsMain_1 HPan.out hu (fun y hy => ?_) ?_
 ·go_simp
 refine zaF [3,4,5,10,11,12,13,14] (i:=2) (v:=(.pointer (some ⟨B,0,none⟩))) opsMain_2 HPan.out hu (fun y hy => ?_) ?_
 ·go_simp
 refine zaF [4,5,10,11,12,13,14] (i:=3) (v:=(.pointer (some ⟨B,6,none⟩))) opsMain_3 HPan.out hu (fun y hy => ?_) ?_
 ·go_simp
 refine zaF [5,10,11,12,13,14] (i:=4) (v:=(.pointer (some ⟨B,9,none⟩))) opsMain_4 HPan.out hu (fun y hy => ?_) ?_
 ·go_simp
 refine zaF [10,11,12,13,14] (i:=5) (v:=(.slice ua ul uc)) opsMain_5 HPan.out hu (fun y hy => ?_) ?_
 ·have q0:=hy;go_simp
 refine zaF [8,9,10,11,12,13,14] (i:=6) (v:=(.pointer (some ⟨B,0,none⟩))) opsMain_6 HPan.out hu (fun y hy => ?_) ?_
 ·go_simp
 refine zaF [8,9,10,11,12,13,14] (i:=7) (v:=(.int .i64 at_)) opsMain_7 HPan.out hu (fun y hy => ?_) ?_
 ·go_simp
 refine zbB (rs:=[8]) (by kernel_rfl) (by simp) fun j8 hj8 => ?_
 obtain rfl:j8=8:=by simpa using hj8
 refine zaN opsMain_8 rfl fun K1 hK1 => ?_
 unfold Oper.wp
 go_simp
 refine Calls.mono HC.out ?_
 intro e W1 h1
 rcases h1 with ⟨i,rfl,hu1,hf1,ho1,hb1,hP1⟩|⟨ch,rfl,hp⟩
 rotate_left
 ·exact hp _ rfl
 have HP1:=hidI hP1
 have HOwn:=hidI ho1
 clear hP1 ho1 HC
 refine hK1 _ _ ⟨fun _=>hu1,?_⟩
 clear hK1 K1
 refine zbB (rs:=[9]) (by kernel_rfl) (by simp) fun j9 hj9 => ?_
 obtain rfl:j9=9:=by simpa using hj9
 refine zaN opsMain_9 rfl fun K1 hK1 => ?_
 unfold Oper.wp
 go_simp
 have hBl:B<W1.heap.size:=World.block_lt_of_cell? W1 _ hu1
 have hA:Below W1.heap.size W1 (W1.alloc (.cells #[.int .i64 i] 3)):=by exact belowT
 have huA:(W1.alloc (.cells #[.int .i64 i] 3)).cell? ⟨B,9,none⟩=some (.slice ua ul uc):=(World.cell?_of_block (w:=W1) (hA.block _ hBl)).trans hu1
 refine hK1 _ _ ⟨fun _=>huA,?_⟩
 clear hK1 K1
 have HO2:=hidI (HOwn.out.alloc (.cells #[.int .i64 i] 3))
 have HV:=hidI (zbT W1 3 1 #[.int .i64 i] rfl)
 have hfA:(W1.alloc (.cells #[.int .i64 i] 3)).frozen? ⟨B,9,none⟩=false:=(hA.frozen (p:=⟨B,9,none⟩) hBl).trans hf1
 have hszA:(W1.alloc (.cells #[.int .i64 i] 3)).heap.size=W1.heap.size+1:=by simp
 obtain ⟨VA,hVA⟩:∃ VA,W1.alloc (.cells #[.int .i64 i] 3)=VA:=⟨_,rfl⟩
 have HVA:=hidI hVA
 rw [hVA] at HO2 HV hfA hszA huA ⊢
 clear hVA hA
 refine zbB (rs:=[10]) (by kernel_rfl) (by simp) fun j10 hj10 => ?_
 obtain rfl:j10=10:=by simpa using hj10
 refine zaN opsMain_10 rfl fun K1 hK1 => ?_
 refine zbK Tryz.underlying45 Tryz.info3z rfl (by decide) (by decide) _ _ rfl base _ n xs rfl HO2.out _ 1 [.int .i64 i] rfl HV.out (HOne.out i) (by omega) (by omega) ?_
 intro u' W5 hown5 hgrow5 hat5
 have HO5:=hidI hown5
 have HG5:=hidI hgrow5
 have HAT:Hid (u'.ownBlock=Value.ownBlock (.slice ua ul uc)∨u'.ownBlock=some (W1.heap.size+1)):=hidI (hszA▸hat5)
 have hu5:W5.cell? ⟨B,9,none⟩=some (.slice ua ul uc):=(World.cell?_of_block (w:=VA) (hgrow5.block B (by omega) (fun e=>hB e.symm))).trans huA
 have hf5:W5.frozen? ⟨B,9,none⟩=false:=(World.frozen?_of_block (w:=VA) (a:=⟨B,9,none⟩) (hgrow5.block B (by omega) (fun e=>hB e.symm))).trans hfA
 obtain ⟨a9,l9,c9,hv6⟩:∃ a9 l9 c9,u'=.slice a9 l9 c9:=by
  rcases hown5.2 with ⟨rfl,_⟩|⟨_,_,_,rfl,_⟩<;>exact ⟨_,_,_,rfl⟩
 subst hv6
 refine hK1 _ _ ⟨fun _=>hu5,?_⟩
 clear hK1 K1 hown5 hgrow5 hat5
 refine zaF [12,13,14] (i:=11) (v:=(.pointer (some ⟨B,0,none⟩))) opsMain_11 HPan.out hu5 (fun y hy => ?_) ?_
 ·go_simp
 refine zaF [13,14] (i:=12) (v:=(.pointer (some ⟨B,6,none⟩))) opsMain_12 HPan.out hu5 (fun y hy => ?_) ?_
 ·go_simp
 refine zaF [14] (i:=13) (v:=(.pointer (some ⟨B,9,none⟩))) opsMain_13 HPan.out hu5 (fun y hy => ?_) ?_
 ·go_simp
 refine zbN (by kernel_rfl) (by kernel_rfl) ?_ _
 refine zaN opsMain_14 rfl fun K1 hK1 => ?_
 unfold Oper.wp
 go_simp
 refine hK1 _ _ ?_
 exact HQ.out i W1 _ _ _ _ _ _ _ _ _ _ _ _ _ _ _ _ HP1.out (by rw [HVA.out];exact HG5.out) HO5.out HAT.out
theorem must_ok (a:Value) (n:Int) (w:World):Calls Tryz.prog 91 #[a,.bool true,.int .i64 n] w fun e w'=>e=.returned (.tuple #[])∧w=w':=by
 go_enter Tryz.func91,Tryz.ntmps91
 go_wp2
 go_end0
 exact ⟨rfl,rfl⟩
theorem zcV {c:Cx} (hc:c.Ok) {p:PV} {X:List Rw} {w:World} (h:RdS c p X w) {n:Nat} {x:FV} (hx:c.fs[n]?=some x):Calls Tryz.prog 91 #[.pointer (some ⟨c.B,0,none⟩),.bool false,.int .i64 (n:Int)] w fun e w'=>e=.panicked (flt2 x.1.p)∧w=w':=by
 have hn:n<c.fs.length:=(List.getElem?_eq_some_iff.1 hx).1
 obtain ⟨g,o,cap,hv,_,_,_,_,c4⟩:=hc.form h.below hx
 have b5:=h.cell (j:=5) (u:=c.fv) rfl
 rw [hv] at b5
 have e1:(n:Int)<(c.fs.length:Int):=by omega
 have e2:(0:Int)≤(n:Int):=by omega
 clear hv h hx
 go_enter Tryz.func91,Tryz.ntmps91
 go_wp2
 exact ⟨rfl,rfl,rfl⟩
theorem redN_any (o:Nat) (ho:o≤19) (w:World):Calls Tryz.prog 146 #[.int .u8 (o:Int)] w fun e w'=>(∃ q,e=.returned (.tuple #[.int .i64 q,.bool (redN o)]))∧w=w':=by
 have hm:o=0∨o=1∨o=2∨o=3∨o=4∨o=5∨o=6∨o=7∨o=8∨o=9∨o=10∨o=11∨o=12∨o=13∨o=14∨o=15∨o=16∨o=17∨o=18∨o=19:=by omega
 rcases hm with rfl|rfl|rfl|rfl|rfl|rfl|rfl|rfl|rfl|rfl|rfl|rfl|rfl|rfl|rfl|rfl|rfl|rfl|rfl|rfl
 all_goals
  go_enter Tryz.func146,Tryz.ntmps146
  go_wp2
  go_ret2
  exact ⟨⟨_,rfl⟩,rfl⟩
theorem arityN_any (o:Nat) (ho:o≤19) (w:World):Calls Tryz.prog 185 #[.int .u8 (o:Int)] w fun e w'=>e=.returned (.int .i64 (arityN o:Int))∧w=w':=by
 have hm:o=0∨o=1∨o=2∨o=3∨o=4∨o=5∨o=6∨o=7∨o=8∨o=9∨o=10∨o=11∨o=12∨o=13∨o=14∨o=15∨o=16∨o=17∨o=18∨o=19:=by omega
 rcases hm with rfl|rfl|rfl|rfl|rfl|rfl|rfl|rfl|rfl|rfl|rfl|rfl|rfl|rfl|rfl|rfl|rfl|rfl|rfl|rfl
 all_goals
  go_enter Tryz.func185,Tryz.ntmps185
  go_wp2
  go_ret
  exact ⟨rfl,rfl⟩
def asW (b:Bool):Int:=if b=true then 1 else 0
theorem asWord_any (b:Bool) (w:World):Calls Tryz.prog 184 #[.bool b] w fun e w'=>e=.returned (.int .i64 (asW b))∧w=w':=by
 cases b
 all_goals
  go_enter Tryz.func184,Tryz.ntmps184
  go_wp2
  go_ret
  exact ⟨rfl,rfl⟩
def BrkPost (c:Cx) (n:Nat) (w:World) (e:Ending) (w':World):Prop:=∃ kv,e=.returned (.tuple #[.string (brkW c.l n),kv])∧SeesK c.w0 kv (brkK c.l n)∧Below w.heap.size w w'
theorem brk_any {c:Cx} (hc:c.Ok) {p:PV} {X:List Rw} {w:World} (h:RdS c p X w) {n:Nat} (hn:n<c.fs.length):Calls Tryz.prog 90 #[.pointer (some ⟨c.B,0,none⟩),.int .i64 (n:Int)] w (BrkPost c n w):=by
 obtain ⟨x,hx⟩:∃ x,c.fs[n]?=some x:=⟨_,List.getElem?_eq_getElem hn⟩
 obtain ⟨g,o,cap,hv,_,_,_,c3,_⟩:=hc.form h.below hx
 have b5:=h.cell (j:=5) (u:=c.fv) rfl
 rw [hv] at b5
 have e1:(n:Int)<(c.fs.length:Int):=by omega
 have e2:(0:Int)≤(n:Int):=by omega
 obtain ⟨hk,hr⟩:=hc.kid n x hx
 have hkl:=hc.kidlen n x hx
 have hfx:=Cx.frm_at hx
 cases hks:x.1.kids with
 | nil=>
  have hkv:∃ ka kc,x.2=.slice ka 0 kc:=by
   obtain ⟨_,a,cap,e,_⟩:=hk
   rw [hks] at e
   exact ⟨a,cap,e⟩
  obtain ⟨ka,kc,hkv⟩:=hkv
  rw [hkv] at c3
  have hW:brkW c.l n=⟨#[]⟩:=by unfold brkW;rw [hfx,hks];rfl
  have hK:brkK c.l n=[]:=by unfold brkK;rw [hfx,hks];rfl
  have HP:Hid (∀ w',Below w.heap.size w w'→BrkPost c n w (.returned (.tuple #[.string ⟨#[]⟩,.slice none 0 0])) w'):=hidI fun w' hb=>⟨_,by rw [hW],by rw [hK];exact ⟨rfl,none,0,rfl,.inl rfl⟩,hb⟩
  clear hv h hx hk hr hW hK hfx hks hkv
  go_enter Tryz.func90,Tryz.ntmps90
  go_wp2
  go_ret2
  exact HP.out _ (by exact belowT)
 | cons m r=>
  have hml:=(hc.kidlt n x hx m (by rw [hks];simp)).2
  obtain ⟨y,hy⟩:∃ y,c.fs[m]?=some y:=⟨_,List.getElem?_eq_getElem hml⟩
  obtain ⟨g',o',cap',hv',_,d1,_,_,_⟩:=hc.form h.below hy
  rw [hv] at hv'
  cases hv'
  obtain ⟨hl1,ka,kc,hkv,h0⟩:=hk
  rw [hks] at hl1 hkv h0
  rcases h0 with h0|⟨kb,ko,rfl,hcell⟩
  ·simp at h0
  have k0:w.cell? ⟨kb,ko,none⟩=some (.int .i64 (m:Int)):=by
   have:=hcell 0 (.int .i64 (m:Int)) (by simp [ints])
   exact (h.below.cell (World.block_lt_of_cell? c.w0 _ this)).trans this
  have hrc:r.length+1≤kc:=by
   obtain ⟨_,_,_,e,hle⟩:=hr
   rw [hkv] at e
   cases e
   simpa using hle
  have hW:brkW c.l n=y.1.s:=by unfold brkW;rw [hfx,hks];simp only;rw [Cx.frm_at hy]
  have hK:brkK c.l n=r:=by unfold brkK;rw [hfx,hks];rfl
  have HP:Hid (∀ w' kv,SeesK c.w0 kv r→Below w.heap.size w w'→BrkPost c n w (.returned (.tuple #[.string y.1.s,kv])) w'):=hidI fun w' kv hs hb=>⟨kv,by rw [hW],by rw [hK];exact hs,hb⟩
  have HK1:Hid (SeesK c.w0 (.slice (some ⟨kb,ko+1,none⟩) r.length (kc-1)) r):=hidI (by
   refine ⟨by simp [ints],some ⟨kb,ko+1,none⟩,kc-1,rfl,.inr ⟨kb,ko+1,rfl,fun j u hj => ?_⟩⟩
   have:=hcell (j+1) u (by simpa [ints] using hj)
   rwa [show ko+(j+1)=ko+1+j by omega] at this)
  have HK0:Hid (r.length=0→SeesK c.w0 (.slice (some ⟨kb,ko,none⟩) 0 0) r):=hidI (fun h0=>⟨by simp [ints],some ⟨kb,ko,none⟩,0,by rw [h0],.inl h0⟩)
  rw [hkv] at c3
  simp only [List.length_cons] at c3
  have hkl2:r.length+1≤400:=by rw [hks] at hkl;simpa using hkl
  have m1:(m:Int)<(c.fs.length:Int):=by omega
  have m2:(0:Int)≤(m:Int):=by omega
  have q1:(((r.length+1:Nat):Int)==0)=false:=by rw [beq_eq_false_iff_ne];omega
  obtain ⟨rl,hrl⟩:∃ rl,r.length=rl:=⟨_,rfl⟩
  rw [hrl] at c3 HK1 HK0 hrc hkl2 q1
  clear hv h hx hr hW hK hfx hks hkv hcell hl1 hkl hy hml hrl
  by_cases hk1:kc=1
  ·subst hk1
   obtain rfl:rl=0:=by omega
   have HK2:=hidI (HK0.out rfl)
   clear HK0 HK1
   go_enter Tryz.func90,Tryz.ntmps90
   go_wp2
   go_quiet (fail)
   generalize nq=n1
   go_wp2
   go_ret2
   exact HP.out _ _ HK2.out (below_drewN (Below.refl _ _) n1)
  ·have hk2:¬ kc-1=0:=by omega
   clear HK0
   go_enter Tryz.func90,Tryz.ntmps90
   go_wp2
   go_quiet (fail)
   generalize nq=n1
   go_wp2
   go_ret2
   exact HP.out _ _ HK1.out (below_drewN (Below.refl _ _) n1)
end Go.Proofs.YtmekkhfohmfjkaaGreatDoor
