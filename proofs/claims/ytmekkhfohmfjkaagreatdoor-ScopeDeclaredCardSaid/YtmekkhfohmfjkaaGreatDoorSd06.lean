/-
  Part 6 of the proof: PFun, Reg11, Reg9, Take, EndW.
-/
import Derived.Test.YtmekkhfohmfjkaaGreatDoorSd05
import Derived.Laws.ResultCell
namespace Go.Proofs.YtmekkhfohmfjkaaGreatDoor
open Go.RowKit Go.Deep Go.MapKept
def brI (c:Int):Bool:=c==40 || c==41
theorem brI_eq (c:UInt8):brI (c.toNat:Int)=bracket c:=by
 unfold brI bracket
 have h1:((c.toNat:Int)==40)=(c==40):=u8_eq c 40 (by decide)
 have h2:((c.toNat:Int)==41)=(c==41):=u8_eq c 41 (by decide)
 rw [h1,h2]
theorem spaced_any (c:Int) (w:World):Calls Tryz.prog 69 #[.int .i32 c] w fun e w'=>e=.returned (.bool (spI c))∧w=w':=by
 unfold spI
 obtain ⟨b1,h1⟩:∃ b,(c==32)=b:=⟨_,rfl⟩
 obtain ⟨b2,h2⟩:∃ b,(c==9)=b:=⟨_,rfl⟩
 obtain ⟨b3,h3⟩:∃ b,(c==10)=b:=⟨_,rfl⟩
 rw [h1,h2,h3]
 cases b1<;>cases b2<;>cases b3
 all_goals
  go_enter Tryz.func69,Tryz.ntmps69
  go_wp2
  go_ret
  exact ⟨rfl,rfl⟩
theorem bracket_any (c:Int) (w:World):Calls Tryz.prog 68 #[.int .i32 c] w fun e w'=>e=.returned (.bool (brI c))∧w=w':=by
 unfold brI
 obtain ⟨b1,h1⟩:∃ b,(c==40)=b:=⟨_,rfl⟩
 obtain ⟨b2,h2⟩:∃ b,(c==41)=b:=⟨_,rfl⟩
 rw [h1,h2]
 cases b1<;>cases b2
 all_goals
  go_enter Tryz.func68,Tryz.ntmps68
  go_wp2
  go_ret
  exact ⟨rfl,rfl⟩
theorem zdG (s:ByteArray) (hs:s.size≤140737488355328) (w:World):Calls Tryz.prog 36 #[.string s] w fun e w'=>e=.returned (.string s)∧Below w.heap.size w w':=by
 have C:=hidI (fun w=>Any.stringslite_Clone Tryz.laysM316 s w (by omega))
 go_enter Tryz.func36,Tryz.ntmps36
 go_wp2_with (go_at_call 58;refine Calls.mono (C.out _) ?_;rintro e w' ⟨rfl,hb⟩;have HB:=hidI hb;clear hb)
 go_ret
 exact ⟨rfl,HB.out⟩
theorem pieceKind_any (s:ByteArray) (hl:s.size≤140737488355328) (w:World) (h:Laid w):Calls Tryz.prog 43 #[.string s] w fun e w'=>e=.returned (.int .u8 (kindP s.data.toList))∧Below w.heap.size w w':=by
 have C:=hidI (kind_any s hl w h)
 have hk:kindP s.data.toList=if s.toList==[40] then 1 else if s.toList==[41] then 2 else kindW s:=by
  unfold kindP
  rw [ByteArray.toList_eq,bytes_back]
  simp
 rw [hk]
 obtain ⟨K,hK⟩:∃ K,kindW s=K:=⟨_,rfl⟩
 rw [hK] at C ⊢
 clear hk hK
 cases h0:(s.toList==[40]) with
 | true=>
  go_enter Tryz.func43,Tryz.ntmps43
  go_wp2
  go_ret
  exact ⟨rfl,Below.refl _ _⟩
 | false=>
  cases h1:(s.toList==[41]) with
  | true=>
   go_enter Tryz.func43,Tryz.ntmps43
   go_wp2
   go_ret
   exact ⟨rfl,Below.refl _ _⟩
  | false=>
   go_enter Tryz.func43,Tryz.ntmps43
   go_wp2_with (go_at_call 57;refine Calls.mono C.out ?_;rintro e w1 ⟨rfl,hb1⟩;have H1:=hidI hb1;clear hb1)
   go_ret
   exact ⟨rfl,H1.out⟩
theorem pieces_any (s:ByteArray) (w:World):Calls Tryz.prog 42 #[.string s] w fun e w'=>e=.returned (.func (.func 67) #[] #[.pointer (some ⟨w.heap.size,0,none⟩)])∧w.alloc (.cells #[.string s] 9)=w':=by
 go_enter Tryz.func42,Tryz.ntmps42
 go_wp2
 go_ret
 exact ⟨rfl,rfl⟩
theorem zbS {fn:Func} {p:Tmp} {ty:TypeId} (h:fn.results=#[.cell p ty]) (tmps:Array Value) (P:Program) (w:World) :
  (results fn tmps).run P w=((asAddr (tmps.getD p undef)).run P w).andThen fun a w₁=>(loadVar ty a).run P w₁:=by
 simp only [results,h]
 simp [Sem.run_bind,Result.andThen]
theorem zero_cells {w w1:World} (hb:Below (w.alloc (.cells #[.int .u8 0,.string ⟨#[]⟩,.int .i64 0,.int .i64 0] 91)).heap.size (w.alloc (.cells #[.int .u8 0,.string ⟨#[]⟩,.int .i64 0,.int .i64 0] 91)) w1) :
  (w1.cell? ⟨w.heap.size,0,none⟩=some (.int .u8 0)∧w1.cell? ⟨w.heap.size,1,none⟩=some (.string ⟨#[]⟩)∧w1.cell? ⟨w.heap.size,2,none⟩=some (.int .i64 0)∧w1.cell? ⟨w.heap.size,3,none⟩=some (.int .i64 0))∧∀ k,w1.frozen? ⟨w.heap.size,k,none⟩=false:=by
 obtain ⟨h0,h1,h2,h3⟩:=tok_cells0 w 0
 have hlt:w.heap.size<(w.alloc (.cells #[.int .u8 0,.string ⟨#[]⟩,.int .i64 0,.int .i64 0] 91)).heap.size:=by simp
 exact ⟨⟨(hb.cell hlt).trans h0,(hb.cell hlt).trans h1,(hb.cell hlt).trans h2,(hb.cell hlt).trans h3⟩,fun k=>(hb.frozen hlt).trans (tok_free w 0 k)⟩
theorem four_cells {w w1:World} {a b c d:Value} (hb:Below (w.alloc (.cells #[a,b,c,d] 91)).heap.size (w.alloc (.cells #[a,b,c,d] 91)) w1) :
  (w1.cell? ⟨w.heap.size,0,none⟩=some a∧w1.cell? ⟨w.heap.size,1,none⟩=some b∧w1.cell? ⟨w.heap.size,2,none⟩=some c∧w1.cell? ⟨w.heap.size,3,none⟩=some d)∧∀ k,w1.frozen? ⟨w.heap.size,k,none⟩=false:=by
 have hlt:w.heap.size<(w.alloc (.cells #[a,b,c,d] 91)).heap.size:=by simp
 refine ⟨⟨(hb.cell hlt).trans ?_,(hb.cell hlt).trans ?_,(hb.cell hlt).trans ?_,(hb.cell hlt).trans ?_⟩,fun k=>(hb.frozen hlt).trans ?_⟩<;>go_simp
set_option maxRecDepth 100000 in
set_option maxHeartbeats 4000000 in
theorem token_any (k:Int) (s:ByteArray) (i:Int) (hs:s.size≤140737488355328) (w:World) (h:Laid w):Calls Tryz.prog 44 #[.int .u8 k,.string s,.int .i64 i] w fun e w'=>
  e=.returned (.agg #[.int .u8 k,.string s,.int .i64 (if k=4 then numV s else 0),.int .i64 i])∧Below w.heap.size w w':=by
 have C:=hidI (zdG s hs)
 have CP:=hidI (parse_any s hs)
 have HL:=hidI h
 cases hk:(k==4) with
 | false=>
  have hk':¬ k=4:=by simpa using hk
  rw [if_neg hk']
  clear hk' h
  go_enter Tryz.func44,Tryz.ntmps44
  go_wp2_with (go_at_call 36;refine Calls.mono (C.out _) ?_;rintro e w1 ⟨rfl,hb1⟩;have H1:=hidI hb1;have hlt1:=Nat.lt_of_lt_of_le (show w.heap.size < _ by simp) hb1.size;obtain ⟨⟨z0,z1,z2,z3⟩,zf⟩:=zero_cells (hb1.alloc hb1.size (.cells #[.int .u8 k,.string s,.int .i64 0,.int .i64 i] 91));have zf0:=zf 0;have zf1:=zf 1;have zf2:=zf 2;have zf3:=zf 3;obtain ⟨⟨x0,x1,x2,x3⟩,xf⟩:=zero_cells hb1;have xf0:=xf 0;have xf1:=xf 1;have xf2:=xf 2;have xf3:=xf 3;have hne:¬ w1.heap.size=w.heap.size:=(by omega);have hne':¬ w.heap.size=w1.heap.size:=(by omega);clear hb1 zf xf)
  refine bodyPost_ret (v:=.agg #[.int .u8 k,.string s,.int .i64 0,.int .i64 i]) ?_ rfl ?_
  ·rw [zbS rfl]
   go_simp
  ·refine ⟨rfl,?_⟩
   have h1:=H1.out
   have h2:Below w.heap.size w w1:=((Below.refl _ w).alloc (Nat.le_refl _) _).trans (h1.mono (by simp))
   have h3:=h2.size
   exact belowT
 | true=>
  obtain rfl:k=4:=by simpa using hk
  rw [if_pos rfl]
  obtain ⟨nv,hnv⟩:∃ nv,numV s=nv:=⟨_,rfl⟩
  rw [hnv] at CP ⊢
  clear hnv h hk
  go_enter Tryz.func44,Tryz.ntmps44
  go_wp2_with (first|(go_at_call 36;refine Calls.mono (C.out _) ?_;rintro e w1 ⟨rfl,hb1⟩;have H1:=hidI hb1;clear hb1)|(go_at_call 70;go_must (refine Calls.mono (CP.out _ (HL.out.on (by have h1:=H1.out;have h2:Below w.heap.size w w1:=((Below.refl _ w).alloc (Nat.le_refl _) _).trans (h1.mono (by simp));have h3:=h2.size;exact belowT))) ?_);rintro e w2 ⟨rfl,hb2⟩;have H2:=hidI hb2;have hlt1:=Nat.lt_of_lt_of_le (show w.heap.size < _ by simp) H1.out.size;obtain ⟨⟨z0,z1,z2,z3⟩,zf⟩:=zero_cells ((H1.out.alloc H1.out.size (.cells #[.int .u8 4,.string s,.int .i64 0,.int .i64 i] 91)).trans (hb2.mono (by have:=H1.out.size;simp only [World.size_alloc] at *;omega)));have zf0:=zf 0;have zf1:=zf 1;have zf2:=zf 2;have zf3:=zf 3;obtain ⟨⟨y0,y1,y2,y3⟩,yf⟩:=four_cells hb2;have yf2:=yf 2;have hne:¬ w1.heap.size=w.heap.size:=(by omega);have hne':¬ w.heap.size=w1.heap.size:=(by omega);clear hb2 zf yf))
  refine bodyPost_ret (v:=.agg #[.int .u8 4,.string s,.int .i64 nv,.int .i64 i]) ?_ rfl ?_
  ·rw [zbS rfl]
   go_simp
  ·refine ⟨rfl,?_⟩
   have h1:=H1.out
   have h2:Below w.heap.size w w1:=((Below.refl _ w).alloc (Nat.le_refl _) _).trans (h1.mono (by simp))
   have h3:=h2.size
   have h4:Below w.heap.size w w2:=(h2.alloc h3 _).trans (H2.out.mono (by simp;omega))
   exact belowT
theorem RD.down {w w':World} {base B:Nat} {fs:List FV} {top opn:List Nat} {fv tv ov:Value} (h:RD w base B fs top opn fv tv ov) (hb:Below w.heap.size w w'):RD w' base B fs top opn fv tv ov:=
 RowsOk.far (row:=none) h ⟨hb.os,hb.tape,hb.output,hb.size,fun k hk _=>hb.block k hk⟩ (fun r _=>by cases r.v.ownBlock<;>simp)
@[go_sem] def rr11N:Nat→Oper
 | 0=>⟨some 60,.move (.tmp 0),202, "parse.go:57",#[],none⟩
 | 1=>⟨some 61,.fieldAddr 91 (.tmp 3) 1,0, "parse.go:57",#[],none⟩
 | 2=>⟨some 62,.load 9 (.tmp 61),9, "parse.go:57",#[⟨1,.data⟩],none⟩
 | 3=>⟨some 63,.call ⟨.value (.func 36),#[.tmp 62],#[9]⟩,9, "parse.go:57",#[⟨2,.data⟩],none⟩
 | 4=>⟨some 64,.fieldAddr 91 (.tmp 3) 3,0, "parse.go:57",#[],none⟩
 | 5=>⟨some 65,.load 3 (.tmp 64),3, "parse.go:57",#[⟨4,.data⟩],none⟩
 | 6=>⟨some 66,.build 115 #[(0,.const (.int .u8 3)),(1,.tmp 63),(4,.tmp 65)],115, "parse.go:57",#[⟨3,.data⟩,⟨5,.data⟩],none⟩
 | _=>⟨some 67,.call ⟨.value (.func 113),#[.tmp 60,.tmp 66],#[202,115]⟩,3, "parse.go:57",#[⟨0,.data⟩,⟨6,.data⟩,⟨3,.chain⟩],none⟩
def rr11:Array Oper:=opsA rr11N 7
theorem rr11_0:rr11[0]?=some (rr11N 0):=zaA rr11N 7 (by decide)
theorem rr11_1:rr11[1]?=some (rr11N 1):=zaA rr11N 7 (by decide)
theorem rr11_2:rr11[2]?=some (rr11N 2):=zaA rr11N 7 (by decide)
theorem rr11_3:rr11[3]?=some (rr11N 3):=zaA rr11N 7 (by decide)
theorem rr11_4:rr11[4]?=some (rr11N 4):=zaA rr11N 7 (by decide)
theorem rr11_5:rr11[5]?=some (rr11N 5):=zaA rr11N 7 (by decide)
theorem rr11_6:rr11[6]?=some (rr11N 6):=zaA rr11N 7 (by decide)
theorem rr11_7:rr11[7]?=some (rr11N 7):=zaA rr11N 7 (by decide)
set_option maxRecDepth 100000 in
set_option maxHeartbeats 2500000 in
theorem reg11 {x1 x2 x4 x5 x6 x7 x8 x9 x10 x11 x12 x13 x14 x15 x16 x17 x18 x19 x20 x21 x22 x23 x24 x25 x26 x27 x28 x29 x30 x31 x32 x33 x34 x35 x36 x37 x38 x39 x40 x41 x42 x43 x44 x45 x46 x47 x48 x49 x50 x51 x52 x53 x54 x55 x56 x57 x58 x59 x60 x61 x62 x63 x64 x65 x66 x67 x68 x69 x70 x71 x72 x73 x74 x75 x76:Value} {Q:Exit→Act→World→Prop} {V0:World} {B TB base:Nat} {fs:List FV} {top opn:List Nat} {fv tv ov:Value} {p:Int} {s:ByteArray} (hs:s.size≤140737488355328)
  (hRD:RD V0.drew base B fs top opn fv tv ov) (hG:Good ⟨fs.map Prod.fst,top,opn⟩) (hS0:V0.drew.cell? ⟨TB,1,none⟩=some (.string s)∧V0.drew.cell? ⟨TB,3,none⟩=some (.int .i64 p))
  (hpan:∀ c (a:Act) w (dd:Tmp) vv,Q (.panic c) (a.put (some dd) vv) w→Q (.panic c) a w)
  (hQp:∀ (a:Act) (W:World),fs.length=400→Below V0.drew.heap.size V0.drew W→a.defers=[]→Q (.panic (flt p 4)) a W)
  (hQ:∀ (W5:World) (fs':List FV) (top':List Nat) (fv' tv':Value) (t60 t61 t62 t63 t64 t65 t66 t67:Value),¬ fs.length=400→Below base V0.drew W5→RD W5 base B fs' top' opn fv' tv' ov→addF ⟨3,s,0,[],p⟩ ⟨fs.map Prod.fst,top,opn⟩=⟨fs'.map Prod.fst,top',opn⟩→Q .normal { tmps:=#[.pointer (some ⟨B,0,none⟩),x1,x2,.pointer (some ⟨TB,0,none⟩),x4,x5,x6,x7,x8,x9,x10,x11,x12,x13,x14,x15,x16,x17,x18,x19,x20,x21,x22,x23,x24,x25,x26,x27,x28,x29,x30,x31,x32,x33,x34,x35,x36,x37,x38,x39,x40,x41,x42,x43,x44,x45,x46,x47,x48,x49,x50,x51,x52,x53,x54,x55,x56,x57,x58,x59,t60,t61,t62,t63,t64,t65,t66,t67,x68,x69,x70,x71,x72,x73,x74,x75,x76],defers:=[] } W5) :
  (Code.region 11 rr11 true).wp Tryz.prog Q { tmps:=#[.pointer (some ⟨B,0,none⟩),x1,x2,.pointer (some ⟨TB,0,none⟩),x4,x5,x6,x7,x8,x9,x10,x11,x12,x13,x14,x15,x16,x17,x18,x19,x20,x21,x22,x23,x24,x25,x26,x27,x28,x29,x30,x31,x32,x33,x34,x35,x36,x37,x38,x39,x40,x41,x42,x43,x44,x45,x46,x47,x48,x49,x50,x51,x52,x53,x54,x55,x56,x57,x58,x59,x60,x61,x62,x63,x64,x65,x66,x67,x68,x69,x70,x71,x72,x73,x74,x75,x76],defers:=[] } V0:=by
 refine zbE (fun y=>y.cell? ⟨TB,1,none⟩=some (.string s)∧y.cell? ⟨TB,3,none⟩=some (.int .i64 p)) 7 Tryz.mixed ?_
 obtain ⟨V,hV⟩:∃ V,V0.drew=V:=⟨_,rfl⟩
 rw [hV] at hRD hS0 hQp hQ ⊢
 clear hV
 have HQ:=hidI hQ
 have HQp:=hidI hQp
 have HPan:=hidI hpan
 have HR:=hidI hRD
 have HG:=hidI hG
 have hlt:=hRD.lt
 have hTl:TB<V.heap.size:=World.block_lt_of_cell? V _ hS0.1
 clear hQ hpan hQp hRD hG
 refine zaF [7] (i:=0) (v:=(.pointer (some ⟨B,0,none⟩))) rr11_0 HPan.out hS0 (fun y hy => ?_) ?_
 ·obtain ⟨hy0,hy1⟩:=hy
  go_simp
 refine zaF [2,3,6,7] (i:=1) (v:=(.pointer (some ⟨TB,1,none⟩))) rr11_1 HPan.out hS0 (fun y hy => ?_) ?_
 ·obtain ⟨hy0,hy1⟩:=hy
  go_simp
 refine zaF [3,6,7] (i:=2) (v:=(.string s)) rr11_2 HPan.out hS0 (fun y hy => ?_) ?_
 ·obtain ⟨hy0,hy1⟩:=hy
  go_simp
 refine zaF [5,6,7] (i:=4) (v:=(.pointer (some ⟨TB,3,none⟩))) rr11_4 HPan.out hS0 (fun y hy => ?_) ?_
 ·obtain ⟨hy0,hy1⟩:=hy
  go_simp
 refine zaF [6,7] (i:=5) (v:=(.int .i64 p)) rr11_5 HPan.out hS0 (fun y hy => ?_) ?_
 ·obtain ⟨hy0,hy1⟩:=hy
  go_simp
 refine zbB (rs:=[3]) (by kernel_rfl) (by simp) fun j3 hj3 => ?_
 obtain rfl:j3=3:=by simpa using hj3
 refine zaN rr11_3 rfl fun K1 hK1 => ?_
 unfold Oper.wp
 go_simp
 refine Calls.mono (zdG s hs _) ?_
 rintro e W1 ⟨rfl,hb1⟩
 go_simp
 have H1:=hidI hb1
 have HR1:=hidI (HR.out.down hb1)
 have hS1:W1.cell? ⟨TB,1,none⟩=some (.string s)∧W1.cell? ⟨TB,3,none⟩=some (.int .i64 p):=⟨(hb1.cell hTl).trans hS0.1,(hb1.cell hTl).trans hS0.2⟩
 clear hb1
 refine hK1 _ _ ⟨fun _=>hS1,?_⟩
 clear hK1 K1
 refine zbB (rs:=[6]) (by kernel_rfl) (by simp) fun j6 hj6 => ?_
 obtain rfl:j6=6:=by simpa using hj6
 refine zaN rr11_6 rfl fun K1 hK1 => ?_
 unfold Oper.wp
 go_simp
 refine hK1 _ _ ⟨fun _=>hS1,?_⟩
 clear hK1 K1
 refine zbN (by kernel_rfl) (by kernel_rfl) ?_ _
 refine zaN rr11_7 rfl fun K1 hK1 => ?_
 unfold Oper.wp
 go_simp
 refine Calls.mono (add_any HR1.out HG.out ⟨3,s,0,[],p⟩ rfl) ?_
 intro e W2 hres
 unfold AddRes at hres
 have hB1:Below base V W1:=H1.out.mono (by omega)
 by_cases hfull:fs.length=400
 ·rw [if_pos hfull] at hres
  obtain ⟨rfl,hbp⟩:=hres
  go_simp
  exact HQp.out _ _ hfull (H1.out.trans (hbp.mono H1.out.size)) rfl
 rw [if_neg hfull] at hres
 obtain ⟨rfl,hchg,fs',top',fv',tv',hRD1,hadd⟩:=hres
 go_simp
 refine hK1 _ _ ?_
 have hz:=H1.out.size
 have q:=hchg.below (n:=base) (by omega) (fun k hk hr=>by have:=HR1.out.block hr;omega)
 exact HQ.out _ _ _ _ _ _ _ _ _ _ _ _ _ hfull (hB1.trans q) hRD1 hadd
@[go_sem] def rr9N:Nat→Oper
 | 0=>⟨some 44,.move (.tmp 0),202, "parse.go:55",#[],none⟩
 | 1=>⟨some 45,.move (.tmp 0),202, "parse.go:55",#[],none⟩
 | 2=>⟨some 46,.nilCheck (.tmp 45),0, "parse.go:55",#[⟨1,.data⟩],none⟩
 | 3=>⟨some 47,.fieldAddr 94 (.tmp 46) 2,0, "parse.go:55",#[⟨2,.data⟩],none⟩
 | 4=>⟨some 48,.load 45 (.tmp 47),45, "parse.go:55",#[⟨3,.data⟩],none⟩
 | 5=>⟨some 49,.move (.tmp 0),202, "parse.go:55",#[],none⟩
 | 6=>⟨some 50,.nilCheck (.tmp 49),0, "parse.go:55",#[⟨5,.data⟩],none⟩
 | 7=>⟨some 51,.fieldAddr 94 (.tmp 50) 2,0, "parse.go:55",#[⟨6,.data⟩],none⟩
 | 8=>⟨some 52,.load 45 (.tmp 51),45, "parse.go:55",#[⟨7,.data⟩],none⟩
 | 9=>⟨some 53,.call ⟨.builtin .len,#[.tmp 52],#[45]⟩,3, "parse.go:55",#[⟨8,.data⟩],none⟩
 | 10=>⟨some 54,.binOp .sub 3 (.tmp 53) (.const (.int .i64 1)) 3,3, "parse.go:55",#[⟨9,.data⟩],none⟩
 | 11=>⟨some 55,.slice 45 (.tmp 48) none (some (.tmp 54)) none,45, "parse.go:55",#[⟨4,.data⟩,⟨10,.data⟩],none⟩
 | 12=>⟨some 56,.nilCheck (.tmp 44),0, "parse.go:55",#[⟨0,.data⟩,⟨0,.phase⟩,⟨1,.phase⟩,⟨2,.phase⟩,⟨3,.phase⟩,⟨4,.phase⟩,⟨5,.phase⟩,⟨6,.phase⟩,⟨7,.phase⟩,⟨8,.phase⟩,⟨9,.phase⟩,⟨10,.phase⟩,⟨11,.phase⟩],none⟩
 | 13=>⟨some 57,.fieldAddr 94 (.tmp 56) 2,0, "parse.go:55",#[⟨12,.data⟩,⟨0,.phase⟩,⟨1,.phase⟩,⟨2,.phase⟩,⟨3,.phase⟩,⟨4,.phase⟩,⟨5,.phase⟩,⟨6,.phase⟩,⟨7,.phase⟩,⟨8,.phase⟩,⟨9,.phase⟩,⟨10,.phase⟩,⟨11,.phase⟩],none⟩
 | _=>⟨none,.store 45 (.tmp 57) (.tmp 55),0, "parse.go:55",#[⟨13,.data⟩,⟨11,.data⟩,⟨0,.phase⟩,⟨1,.phase⟩,⟨2,.phase⟩,⟨3,.phase⟩,⟨4,.phase⟩,⟨5,.phase⟩,⟨6,.phase⟩,⟨7,.phase⟩,⟨8,.phase⟩,⟨9,.phase⟩,⟨10,.phase⟩,⟨11,.phase⟩],none⟩
def rr9:Array Oper:=opsA rr9N 14
theorem rr9_0:rr9[0]?=some (rr9N 0):=zaA rr9N 14 (by decide)
theorem rr9_1:rr9[1]?=some (rr9N 1):=zaA rr9N 14 (by decide)
theorem rr9_2:rr9[2]?=some (rr9N 2):=zaA rr9N 14 (by decide)
theorem rr9_3:rr9[3]?=some (rr9N 3):=zaA rr9N 14 (by decide)
theorem rr9_4:rr9[4]?=some (rr9N 4):=zaA rr9N 14 (by decide)
theorem rr9_5:rr9[5]?=some (rr9N 5):=zaA rr9N 14 (by decide)
theorem rr9_6:rr9[6]?=some (rr9N 6):=zaA rr9N 14 (by decide)
theorem rr9_7:rr9[7]?=some (rr9N 7):=zaA rr9N 14 (by decide)
theorem rr9_8:rr9[8]?=some (rr9N 8):=zaA rr9N 14 (by decide)
theorem rr9_9:rr9[9]?=some (rr9N 9):=zaA rr9N 14 (by decide)
theorem rr9_10:rr9[10]?=some (rr9N 10):=zaA rr9N 14 (by decide)
theorem rr9_11:rr9[11]?=some (rr9N 11):=zaA rr9N 14 (by decide)
theorem rr9_12:rr9[12]?=some (rr9N 12):=zaA rr9N 14 (by decide)
theorem rr9_13:rr9[13]?=some (rr9N 13):=zaA rr9N 14 (by decide)
theorem rr9_14:rr9[14]?=some (rr9N 14):=zaA rr9N 14 (by decide)
set_option maxRecDepth 100000 in
set_option maxHeartbeats 2500000 in
theorem reg9 {x1 x2 x3 x4 x5 x6 x7 x8 x9 x10 x11 x12 x13 x14 x15 x16 x17 x18 x19 x20 x21 x22 x23 x24 x25 x26 x27 x28 x29 x30 x31 x32 x33 x34 x35 x36 x37 x38 x39 x40 x41 x42 x43 x44 x45 x46 x47 x48 x49 x50 x51 x52 x53 x54 x55 x56 x57 x58 x59 x60 x61 x62 x63 x64 x65 x66 x67 x68 x69 x70 x71 x72 x73 x74 x75 x76:Value} {Q:Exit→Act→World→Prop} {V0:World} {B og oc m:Nat} (hS0:V0.drew.cell? ⟨B,2,none⟩=some (.slice (some ⟨og,0,none⟩) (m+1) oc)) (hfz:V0.drew.frozen? ⟨B,2,none⟩=false) (e4:m≤oc) (e9:m≤12)
  (hpan:∀ c (a:Act) w (dd:Tmp) vv,Q (.panic c) (a.put (some dd) vv) w→Q (.panic c) a w)
  (hQ:∀ (t44 t45 t46 t47 t48 t49 t50 t51 t52 t53 t54 t55 t56 t57:Value),Q .normal { tmps:=#[.pointer (some ⟨B,0,none⟩),x1,x2,x3,x4,x5,x6,x7,x8,x9,x10,x11,x12,x13,x14,x15,x16,x17,x18,x19,x20,x21,x22,x23,x24,x25,x26,x27,x28,x29,x30,x31,x32,x33,x34,x35,x36,x37,x38,x39,x40,x41,x42,x43,t44,t45,t46,t47,t48,t49,t50,t51,t52,t53,t54,t55,t56,t57,x58,x59,x60,x61,x62,x63,x64,x65,x66,x67,x68,x69,x70,x71,x72,x73,x74,x75,x76],defers:=[] } (V0.drew.setCell ⟨B,2,none⟩ (.slice (some ⟨og,0,none⟩) m oc))) :
  (Code.region 9 rr9 true).wp Tryz.prog Q { tmps:=#[.pointer (some ⟨B,0,none⟩),x1,x2,x3,x4,x5,x6,x7,x8,x9,x10,x11,x12,x13,x14,x15,x16,x17,x18,x19,x20,x21,x22,x23,x24,x25,x26,x27,x28,x29,x30,x31,x32,x33,x34,x35,x36,x37,x38,x39,x40,x41,x42,x43,x44,x45,x46,x47,x48,x49,x50,x51,x52,x53,x54,x55,x56,x57,x58,x59,x60,x61,x62,x63,x64,x65,x66,x67,x68,x69,x70,x71,x72,x73,x74,x75,x76],defers:=[] } V0:=by
 refine zbE (fun y=>y.cell? ⟨B,2,none⟩=some (.slice (some ⟨og,0,none⟩) (m+1) oc)) 14 Tryz.mixed ?_
 obtain ⟨V,hV⟩:∃ V,V0.drew=V:=⟨_,rfl⟩
 rw [hV] at hS0 hfz hQ ⊢
 clear hV
 have HQ:=hidI hQ
 have HPan:=hidI hpan
 have e1:IntKind.i64.wrap (((m+1:Nat):Int)-1)=(m:Int):=by rw [show (((m+1:Nat):Int)-1)=(m:Int) by omega,IntKind.wrap_i64];omega
 have e3:(0:Int)≤(m:Int):=by omega
 have e5:((m:Int)).toNat=m:=by omega
 have e6:(m:Int)≤(oc:Int):=by omega
 have e8:IntKind.i64.wrap (m:Int)=(m:Int):=by rw [IntKind.wrap_i64];omega
 clear hQ hpan
 refine zaF [14] (i:=0) (v:=(.pointer (some ⟨B,0,none⟩))) rr9_0 HPan.out hS0 (fun y hy => ?_) ?_
 ·go_simp
 refine zaF [14] (i:=1) (v:=(.pointer (some ⟨B,0,none⟩))) rr9_1 HPan.out hS0 (fun y hy => ?_) ?_
 ·go_simp
 refine zaF [14] (i:=2) (v:=(.pointer (some ⟨B,0,none⟩))) rr9_2 HPan.out hS0 (fun y hy => ?_) ?_
 ·go_simp
 refine zaF [14] (i:=3) (v:=(.pointer (some ⟨B,2,none⟩))) rr9_3 HPan.out hS0 (fun y hy => ?_) ?_
 ·go_simp
 refine zaF [14] (i:=4) (v:=(.slice (some ⟨og,0,none⟩) (m+1) oc)) rr9_4 HPan.out hS0 (fun y hy => ?_) ?_
 ·go_simp
 refine zaF [14] (i:=5) (v:=(.pointer (some ⟨B,0,none⟩))) rr9_5 HPan.out hS0 (fun y hy => ?_) ?_
 ·go_simp
 refine zaF [14] (i:=6) (v:=(.pointer (some ⟨B,0,none⟩))) rr9_6 HPan.out hS0 (fun y hy => ?_) ?_
 ·go_simp
 refine zaF [14] (i:=7) (v:=(.pointer (some ⟨B,2,none⟩))) rr9_7 HPan.out hS0 (fun y hy => ?_) ?_
 ·go_simp
 refine zaF [14] (i:=8) (v:=(.slice (some ⟨og,0,none⟩) (m+1) oc)) rr9_8 HPan.out hS0 (fun y hy => ?_) ?_
 ·go_simp
 refine zaF [14] (i:=9) (v:=(.int .i64 ((m+1:Nat):Int))) rr9_9 HPan.out hS0 (fun y hy => ?_) ?_
 ·go_simp
 refine zaF [14] (i:=10) (v:=(.int .i64 (m:Int))) rr9_10 HPan.out hS0 (fun y hy => ?_) ?_
 ·go_simp
 refine zaF [14] (i:=11) (v:=(.slice (some ⟨og,0,none⟩) m oc)) rr9_11 HPan.out hS0 (fun y hy => ?_) ?_
 ·go_simp
 refine zbB (rs:=[12]) (by kernel_rfl) (by simp) fun j12 hj12 => ?_
 obtain rfl:j12=12:=by simpa using hj12
 refine zaN rr9_12 rfl fun K1 hK1 => ?_
 unfold Oper.wp
 go_simp
 refine hK1 _ _ ⟨fun _=>hS0,?_⟩
 clear hK1 K1
 refine zbB (rs:=[13]) (by kernel_rfl) (by simp) fun j13 hj13 => ?_
 obtain rfl:j13=13:=by simpa using hj13
 refine zaN rr9_13 rfl fun K1 hK1 => ?_
 unfold Oper.wp
 go_simp
 refine hK1 _ _ ⟨fun _=>hS0,?_⟩
 clear hK1 K1
 refine zbN (by kernel_rfl) (by kernel_rfl) ?_ _
 refine zaN rr9_14 rfl fun K1 hK1 => ?_
 unfold Oper.wp
 go_simp
 refine hK1 _ _ ?_
 exact HQ.out _ _ _ _ _ _ _ _ _ _ _ _ _ _
def TakeOk (w:World) (base B:Nat) (σ:St) (w':World):Prop:=
 Below base w w'∧∃ fs top opn fv tv ov,RD w' base B fs top opn fv tv ov∧σ=⟨fs.map Prod.fst,top,opn⟩
def TakeRes (w:World) (base B:Nat) (r:Except (Int × Int) St) (e:Ending) (w':World):Prop:=
 match r with
 | .error q=>e=.panicked (flt q.1 q.2)∧Below w.heap.size w w'
 | .ok σ=>e=.returned (.tuple #[])∧TakeOk w base B σ w'
section
variable {w : World} {base B : Nat} {fs : List FV} {top opn : List Nat} {fv tv ov : Value}
theorem take_deep (h:RD w base B fs top opn fv tv ov) (s:ByteArray) (n p:Int) (hl:opn.length=12) :
  Calls Tryz.prog 72 #[.pointer (some ⟨B,0,none⟩),.agg #[.int .u8 1,.string s,.int .i64 n,.int .i64 p]] w fun e w'=>e=.panicked (flt p 4)∧Below w.heap.size w w':=by
 have hlt:=h.lt
 obtain ⟨oa,oc,rfl⟩:=zaE h.oo
 have c2:=(h.alloc (.cells #[.int .u8 1,.string s,.int .i64 n,.int .i64 p] 91)).c2
 rw [hl] at c2
 clear h
 go_enter Tryz.func72,Tryz.ntmps72
 go_wp2
 exact ⟨rfl,rfl,by exact belowT⟩
theorem take_none (h:RD w base B fs top [] fv tv ov) (s:ByteArray) (n p:Int) :
  Calls Tryz.prog 72 #[.pointer (some ⟨B,0,none⟩),.agg #[.int .u8 2,.string s,.int .i64 n,.int .i64 p]] w fun e w'=>e=.panicked (flt p 8)∧Below w.heap.size w w':=by
 have hlt:=h.lt
 obtain ⟨oa,oc,rfl⟩:=zaE h.oo
 have c2:=(h.alloc (.cells #[.int .u8 2,.string s,.int .i64 n,.int .i64 p] 91)).c2
 simp only [List.length_nil] at c2
 clear h
 go_enter Tryz.func72,Tryz.ntmps72
 go_wp2
 exact ⟨rfl,rfl,by exact belowT⟩
theorem take_other (h:RD w base B fs top opn fv tv ov) (k:Int) (s:ByteArray) (n p:Int) (h1:k≠1) (h2:k≠2) (h3:k≠3) (h4:k≠4) :
  Calls Tryz.prog 72 #[.pointer (some ⟨B,0,none⟩),.agg #[.int .u8 k,.string s,.int .i64 n,.int .i64 p]] w fun e w'=>e=.returned (.tuple #[])∧TakeOk w base B ⟨fs.map Prod.fst,top,opn⟩ w':=by
 have hlt:=h.lt
 have hR:=hidI (h.alloc (.cells #[.int .u8 k,.string s,.int .i64 n,.int .i64 p] 91))
 have q1:(k==1)=false:=by simp [h1]
 have q2:(k==2)=false:=by simp [h2]
 have q3:(k==3)=false:=by simp [h3]
 have q4:(k==4)=false:=by simp [h4]
 clear h
 go_enter Tryz.func72,Tryz.ntmps72
 go_wp2
 go_end0
 exact ⟨rfl,by exact belowT,fs,top,opn,fv,tv,ov,hR.out,rfl⟩
theorem take_open (h:RD w base B fs top opn fv tv ov) (hG:Good ⟨fs.map Prod.fst,top,opn⟩) (s:ByteArray) (n p:Int) (hl:opn.length≠12) :
  Calls Tryz.prog 72 #[.pointer (some ⟨B,0,none⟩),.agg #[.int .u8 1,.string s,.int .i64 n,.int .i64 p]] w fun e w'=>
   (fs.length=400∧e=.panicked (flt p 4)∧Below w.heap.size w w')∨(¬ fs.length=400∧e=.returned (.tuple #[])∧TakeOk w base B { addF ⟨1,⟨#[]⟩,0,[],p⟩ ⟨fs.map Prod.fst,top,opn⟩ with opn:=opn++[fs.length] } w'):=by
 have hlt:=h.lt
 have HR:=hidI (h.alloc (.cells #[.int .u8 1,.string s,.int .i64 n,.int .i64 p] 91))
 have HTR:Hid (¬ RB B fs top opn fv tv ov w.heap.size):=hidI fun hr=>by have:=h.block hr;omega
 have hb:Below base w (w.alloc (.cells #[.int .u8 1,.string s,.int .i64 n,.int .i64 p] 91)):=by exact belowT
 have HB:=hidI hb
 have HZ:Hid (Below w.heap.size w (w.alloc (.cells #[.int .u8 1,.string s,.int .i64 n,.int .i64 p] 91))):=hidI (by exact belowT)
 have HG:=hidI hG
 have ho:=hG.open_len
 simp only at ho
 obtain ⟨oa,oc,hov⟩:=zaE h.oo
 have c2:=HR.out.c2
 rw [hov] at c2
 have q1:((opn.length:Int)==12)=false:=by rw [beq_eq_false_iff_ne];omega
 have ct:(w.alloc (.cells #[.int .u8 1,.string s,.int .i64 n,.int .i64 p] 91)).cell? ⟨w.heap.size,3,none⟩=some (.int .i64 p):=by go_simp
 have CT:=hidI ct
 clear h hG hb ct
 go_enter Tryz.func72,Tryz.ntmps72
 go_wp2
 refine reg5 (TB:=w.heap.size) (p:=p) HR.out.drew CT.out HTR.out ho (add_any HR.out.drew HG.out ⟨1,⟨#[]⟩,0,[],p⟩ rfl) (fun _ _ _ _ _ h=>h) ?_ ?_
 ·intro a W hf hW hd
  exact ⟨hd,.inl ⟨hf,rfl,(HZ.out.drew.trans (hW.mono (by simp)))⟩⟩
 ·intro W5 fs' top' fv' tv' ov' t18 t19 t20 t21 t22 t23 t24 t25 t26 t27 t28 t29 t30 t31 hf hW hR5 hadd
  have hA:TakeOk w base B { addF ⟨1,⟨#[]⟩,0,[],p⟩ ⟨fs.map Prod.fst,top,opn⟩ with opn:=opn++[fs.length] } W5:=⟨HB.out.drew.trans hW,fs',top',_,fv',tv',ov',hR5,by rw [hadd]⟩
  have HA:=hidI hA
  clear hA hR5 hadd
  go_wp2
  go_end0
  first|exact .inr ⟨hf,rfl,HA.out⟩|exact ⟨rfl,HA.out⟩
theorem take_name (h:RD w base B fs top opn fv tv ov) (hG:Good ⟨fs.map Prod.fst,top,opn⟩) (s:ByteArray) (hs:s.size≤140737488355328) (n p:Int) :
  Calls Tryz.prog 72 #[.pointer (some ⟨B,0,none⟩),.agg #[.int .u8 3,.string s,.int .i64 n,.int .i64 p]] w fun e w'=>
   (fs.length=400∧e=.panicked (flt p 4)∧Below w.heap.size w w')∨(¬ fs.length=400∧e=.returned (.tuple #[])∧TakeOk w base B (addF ⟨3,s,0,[],p⟩ ⟨fs.map Prod.fst,top,opn⟩) w'):=by
 have hlt:=h.lt
 have HR:=hidI (h.alloc (.cells #[.int .u8 3,.string s,.int .i64 n,.int .i64 p] 91))
 have hb:Below base w (w.alloc (.cells #[.int .u8 3,.string s,.int .i64 n,.int .i64 p] 91)):=by exact belowT
 have HB:=hidI hb
 have HZ:Hid (Below w.heap.size w (w.alloc (.cells #[.int .u8 3,.string s,.int .i64 n,.int .i64 p] 91))):=hidI (by exact belowT)
 have HG:=hidI hG
 have ct:(w.alloc (.cells #[.int .u8 3,.string s,.int .i64 n,.int .i64 p] 91)).cell? ⟨w.heap.size,1,none⟩=some (.string s)∧(w.alloc (.cells #[.int .u8 3,.string s,.int .i64 n,.int .i64 p] 91)).cell? ⟨w.heap.size,3,none⟩=some (.int .i64 p):=by constructor<;>go_simp
 have CT:=hidI ct
 clear h hG hb ct
 go_enter Tryz.func72,Tryz.ntmps72
 go_wp2
 refine reg11 (TB:=w.heap.size) (p:=p) hs HR.out.drew HG.out CT.out (fun _ _ _ _ _ h=>h) ?_ ?_
 ·intro a W hf hW hd
  exact ⟨hd,.inl ⟨hf,rfl,(HZ.out.drew.trans (hW.mono (by simp)))⟩⟩
 ·intro W5 fs' top' fv' tv' t60 t61 t62 t63 t64 t65 t66 t67 hf hW hR5 hadd
  have hA:TakeOk w base B (addF ⟨3,s,0,[],p⟩ ⟨fs.map Prod.fst,top,opn⟩) W5:=⟨HB.out.drew.trans hW,fs',top',_,fv',tv',ov,hR5,by rw [hadd]⟩
  have HA:=hidI hA
  clear hA hR5 hadd
  go_wp2
  go_end0
  first|exact .inr ⟨hf,rfl,HA.out⟩|exact ⟨rfl,HA.out⟩
theorem take_num (h:RD w base B fs top opn fv tv ov) (hG:Good ⟨fs.map Prod.fst,top,opn⟩) (s:ByteArray) (n p:Int) :
  Calls Tryz.prog 72 #[.pointer (some ⟨B,0,none⟩),.agg #[.int .u8 4,.string s,.int .i64 n,.int .i64 p]] w fun e w'=>
   TakeRes w base B (if fs.length=400 then .error (p,4) else .ok (addF ⟨4,⟨#[]⟩,n,[],p⟩ ⟨fs.map Prod.fst,top,opn⟩)) e w':=by
 have hlt:=h.lt
 have HR:=hidI (h.alloc (.cells #[.int .u8 4,.string s,.int .i64 n,.int .i64 p] 91))
 have hb:Below base w (w.alloc (.cells #[.int .u8 4,.string s,.int .i64 n,.int .i64 p] 91)):=by exact belowT
 have HB:=hidI hb
 have HZ:Hid (Below w.heap.size w (w.alloc (.cells #[.int .u8 4,.string s,.int .i64 n,.int .i64 p] 91))):=hidI (by exact belowT)
 have HC:=hidI (add_any HR.out hG ⟨4,⟨#[]⟩,n,[],p⟩ rfl)
 clear h hG hb
 by_cases hf:fs.length=400
 ·simp only [if_pos hf]
  go_enter Tryz.func72,Tryz.ntmps72
  go_wp2_with (go_at_call 113;refine HC.out.mono ?_;intro e w1 hres;unfold AddRes at hres;rw [if_pos hf] at hres;obtain ⟨rfl,hb1⟩:=hres;clear HC)
  exact ⟨rfl,rfl,HZ.out.trans (hb1.mono (by simp))⟩
 ·simp only [if_neg hf]
  go_enter Tryz.func72,Tryz.ntmps72
  go_wp2_with (go_at_call 113;refine HC.out.mono ?_;intro e w1 hres;unfold AddRes at hres;rw [if_neg hf] at hres;obtain ⟨rfl,hres1⟩:=hres;have HP:=hidI hres1;clear hres1 HC)
  go_end0
  obtain ⟨hchg,fs',top',fv',tv',hR5,hadd⟩:=HP.out
  exact ⟨rfl,HB.out.trans (hchg.below (n:=base) (by have:=HR.out.lt;omega) (fun k hk hr=>by have:=HR.out.block hr;omega)),fs',top',_,fv',tv',ov,hR5,hadd⟩
theorem take_close (h:RD w base B fs top opn fv tv ov) (ho:opn.length≤12) (hne:opn≠[]) (s:ByteArray) (n p:Int) :
  Calls Tryz.prog 72 #[.pointer (some ⟨B,0,none⟩),.agg #[.int .u8 2,.string s,.int .i64 n,.int .i64 p]] w fun e w'=>e=.returned (.tuple #[])∧TakeOk w base B ⟨fs.map Prod.fst,top,opn.dropLast⟩ w':=by
 have hlt:=h.lt
 have HR:=hidI (h.alloc (.cells #[.int .u8 2,.string s,.int .i64 n,.int .i64 p] 91))
 have hb:Below base w (w.alloc (.cells #[.int .u8 2,.string s,.int .i64 n,.int .i64 p] 91)):=by exact belowT
 have HB:=hidI hb
 have HZ:Hid (Below w.heap.size w (w.alloc (.cells #[.int .u8 2,.string s,.int .i64 n,.int .i64 p] 91))):=hidI (by exact belowT)
 have hol:0<opn.length:=List.length_pos_iff.2 hne
 obtain ⟨og,oc,hov,_,_⟩:=own_some HR.out.oo hol
 have c2:=HR.out.c2
 have cf:=HR.out.free 2
 rw [hov] at c2
 obtain ⟨m,hm⟩:∃ m,opn.length=m+1:=⟨opn.length-1,by omega⟩
 have hcap:m+1≤oc:=by
  have:=HR.out.oo
  rw [hov] at this
  rcases this.2 with ⟨h0,_⟩|⟨_,_,_,e,_,_,h1,_⟩
  ·cases h0
  ·cases e;omega
 have HO:=hidI (show (w.alloc (.cells #[.int .u8 2,.string s,.int .i64 n,.int .i64 p] 91)).ownsRow base 3 1 (.slice (some ⟨og,0,none⟩) m oc) opn.dropLast.length (ints opn.dropLast) by
  have:=HR.out.oo
  rw [hov] at this
  have q:=own_cut this (m:=m) (by omega) (by simp)
  have e1:opn.dropLast.length=m:=by simp;omega
  have e2:ints opn.dropLast=(ints opn).take (m*1):=by
   rw [List.dropLast_eq_take,hm]
   simp [ints,List.map_take]
  rw [e1,e2]
  exact q)
 have HP:=hidI (HR.out.drew.putO (w':=(w.alloc (.cells #[.int .u8 2,.string s,.int .i64 n,.int .i64 p] 91)).drew) (ov':=.slice (some ⟨og,0,none⟩) m oc) (opn':=opn.dropLast) ⟨rfl,rfl,rfl,Nat.le_refl _,fun _ _ _=>rfl⟩ (owns_drew HO.out) (.inr (.inl (by rw [hov];rfl))))
 rw [hm] at c2
 have q1:(((m+1:Nat):Int)==0)=false:=by rw [beq_eq_false_iff_ne];omega
 have e4:m≤oc:=by omega
 have e9:m≤12:=by omega
 have HC2:=hidI (HR.out.drew.c2)
 rw [hov,hm] at HC2
 have HF:=hidI cf
 clear h hb hov hm hcap HO
 go_enter Tryz.func72,Tryz.ntmps72
 go_wp2
 refine reg9 (B:=B) (og:=og) (oc:=oc) (m:=m) HC2.out HF.out e4 e9 (fun _ _ _ _ _ h=>h) ?_
 intro t44 t45 t46 t47 t48 t49 t50 t51 t52 t53 t54 t55 t56 t57
 have hA:TakeOk w base B ⟨fs.map Prod.fst,top,opn.dropLast⟩ (((w.alloc (.cells #[.int .u8 2,.string s,.int .i64 n,.int .i64 p] 91)).drew.setCell ⟨B,2,none⟩ (.slice (some ⟨og,0,none⟩) m oc))):=
  ⟨Below.setCell HB.out.drew hlt.1 _,fs,top,_,fv,tv,_,HP.out,rfl⟩
 have HA:=hidI hA
 clear hA
 go_wp2
 go_end0
 exact ⟨rfl,HA.out⟩
theorem take_any (h:RD w base B fs top opn fv tv ov) (hG:Good ⟨fs.map Prod.fst,top,opn⟩) (t:Tok) (hs:t.s.size≤140737488355328) :
  Calls Tryz.prog 72 #[.pointer (some ⟨B,0,none⟩),.agg #[.int .u8 t.k,.string t.s,.int .i64 t.n,.int .i64 t.p]] w fun e w'=>TakeRes w base B (step ⟨fs.map Prod.fst,top,opn⟩ t) e w':=by
 obtain ⟨k,s,n,p⟩:=t
 have ho:=hG.open_len
 simp only at ho
 by_cases h2:k=2
 ·subst h2
  by_cases hn:opn=[]
  ·subst hn
   refine (take_none h s n p).mono ?_
   intro e w' hh
   simp only [step,if_true]
   exact hh
  ·refine (take_close h ho hn s n p).mono ?_
   intro e w' hh
   simp only [step,if_true,if_neg hn]
   exact hh
 by_cases h1:k=1
 ·subst h1
  by_cases hd:opn.length=12
  ·refine (take_deep h s n p hd).mono ?_
   intro e w' hh
   simp only [step,if_neg h2,if_true,hd]
   exact hh
  ·refine (take_open h hG s n p hd).mono ?_
   rintro e w' (⟨hf,hh⟩|⟨hf,hh⟩)
   ·simp only [step,if_neg h2,if_true,if_neg hd,List.length_map,hf]
    exact hh
   ·simp only [step,if_neg h2,if_true,if_neg hd,List.length_map,if_neg hf]
    exact hh
 by_cases h3:k=3
 ·subst h3
  refine (take_name h hG s hs n p).mono ?_
  rintro e w' (⟨hf,hh⟩|⟨hf,hh⟩)
  ·simp only [step,if_neg h2,if_neg h1,true_or,if_true,List.length_map,hf]
   exact hh
  ·simp only [step,if_neg h2,if_neg h1,true_or,if_true,List.length_map,if_neg hf]
   exact hh
 by_cases h4:k=4
 ·subst h4
  refine (take_num h hG s n p).mono ?_
  intro e w' hh
  simp only [step,if_neg h2,if_neg h1,or_true,if_true,List.length_map]
  exact hh
 ·refine (take_other h k s n p h1 h2 h3 h4).mono ?_
  intro e w' hh
  have hor:¬ (k=3∨k=4):=by rintro (e|e);exact h3 e;exact h4 e
  simp only [step,if_neg h2,if_neg h1,if_neg hor]
  exact hh
end
@[go_sem] def rr1N:Nat→Oper
 | 0=>⟨some 8,.move (.tmp 0),202, "parse.go:83",#[],none⟩
 | 1=>⟨some 9,.nilCheck (.tmp 8),0, "parse.go:83",#[⟨0,.data⟩],none⟩
 | 2=>⟨some 10,.fieldAddr 94 (.tmp 9) 0,0, "parse.go:83",#[⟨1,.data⟩],none⟩
 | 3=>⟨some 11,.load 66 (.tmp 10),66, "parse.go:83",#[⟨2,.data⟩],none⟩
 | 4=>⟨some 12,.move (.tmp 0),202, "parse.go:83",#[],none⟩
 | 5=>⟨some 13,.call ⟨.value (.func 114),#[.tmp 12],#[202]⟩,3, "parse.go:83",#[⟨4,.data⟩],none⟩
 | 6=>⟨some 14,.indexAddr 66 (.tmp 11) (.tmp 13),0, "parse.go:83",#[⟨3,.data⟩,⟨5,.data⟩],none⟩
 | 7=>⟨some 15,.fieldAddr 115 (.tmp 14) 4,0, "parse.go:83",#[⟨6,.data⟩],none⟩
 | 8=>⟨some 16,.load 3 (.tmp 15),3, "parse.go:83",#[⟨7,.data⟩],none⟩
 | 9=>⟨some 17,.build 96 #[(0,.tmp 16),(1,.const (.int .i64 8))],96, "parse.go:83",#[⟨8,.data⟩],none⟩
 | 10=>⟨some 18,.makeInterface 96 (.tmp 17),20, "parse.go:83",#[⟨9,.data⟩],none⟩
 | _=>⟨none,.panic (.tmp 18),0, "parse.go:83",#[⟨10,.data⟩,⟨5,.chain⟩],none⟩
def rr1:Array Oper:=opsA rr1N 11
theorem rr1_0:rr1[0]?=some (rr1N 0):=zaA rr1N 11 (by decide)
theorem rr1_1:rr1[1]?=some (rr1N 1):=zaA rr1N 11 (by decide)
theorem rr1_2:rr1[2]?=some (rr1N 2):=zaA rr1N 11 (by decide)
theorem rr1_3:rr1[3]?=some (rr1N 3):=zaA rr1N 11 (by decide)
theorem rr1_4:rr1[4]?=some (rr1N 4):=zaA rr1N 11 (by decide)
theorem rr1_5:rr1[5]?=some (rr1N 5):=zaA rr1N 11 (by decide)
theorem rr1_6:rr1[6]?=some (rr1N 6):=zaA rr1N 11 (by decide)
theorem rr1_7:rr1[7]?=some (rr1N 7):=zaA rr1N 11 (by decide)
theorem rr1_8:rr1[8]?=some (rr1N 8):=zaA rr1N 11 (by decide)
theorem rr1_9:rr1[9]?=some (rr1N 9):=zaA rr1N 11 (by decide)
theorem rr1_10:rr1[10]?=some (rr1N 10):=zaA rr1N 11 (by decide)
theorem rr1_11:rr1[11]?=some (rr1N 11):=zaA rr1N 11 (by decide)
set_option maxRecDepth 100000 in
set_option maxHeartbeats 2500000 in
theorem reg1e {x1 x2 x3 x4 x5 x6 x7 x8 x9 x10 x11 x12 x13 x14 x15 x16 x17 x18:Value} {Q:Exit→Act→World→Prop} {V0:World} {B ff fn fc b:Nat} {p:Int} (hS0:V0.drew.cell? ⟨B,0,none⟩=some (.slice (some ⟨ff,0,none⟩) fn fc)∧V0.drew.cell? ⟨ff,b*5+4,none⟩=some (.int .i64 p)) (hbn:b<fn)
  (hC:Calls Tryz.prog 114 #[.pointer (some ⟨B,0,none⟩)] V0.drew fun e w'=>e=.returned (.int .i64 (b:Int))∧∃ n,V0.drew.drewN n=w')
  (hpan:∀ c (a:Act) w (dd:Tmp) vv,Q (.panic c) (a.put (some dd) vv) w→Q (.panic c) a w)
  (hQ:∀ (a:Act) (n:Nat),a.defers=[]→Q (.panic (flt p 8)) a (V0.drew.drewN n)) :
  (Code.region 1 rr1 true).wp Tryz.prog Q { tmps:=#[.pointer (some ⟨B,0,none⟩),x1,x2,x3,x4,x5,x6,x7,x8,x9,x10,x11,x12,x13,x14,x15,x16,x17,x18],defers:=[] } V0:=by
 refine zbE (fun y=>y.cell? ⟨B,0,none⟩=some (.slice (some ⟨ff,0,none⟩) fn fc)∧y.cell? ⟨ff,b*5+4,none⟩=some (.int .i64 p)) 11 Tryz.mixed ?_
 obtain ⟨V,hV⟩:∃ V,V0.drew=V:=⟨_,rfl⟩
 rw [hV] at hS0 hC hQ ⊢
 clear hV
 have HQ:=hidI hQ
 have HC:=hidI hC
 have HPan:=hidI hpan
 have e2:(b:Int)<(fn:Int):=by omega
 have e3:(0:Int)≤(b:Int):=by omega
 have e5:((b:Int)).toNat=b:=by omega
 clear hQ hpan hC
 refine zaF [1,2,3,6,7,8,9,10,11] (i:=0) (v:=(.pointer (some ⟨B,0,none⟩))) rr1_0 HPan.out hS0 (fun y hy => ?_) ?_
 ·obtain ⟨hy0,hy1⟩:=hy
  go_simp
 refine zaF [2,3,6,7,8,9,10,11] (i:=1) (v:=(.pointer (some ⟨B,0,none⟩))) rr1_1 HPan.out hS0 (fun y hy => ?_) ?_
 ·obtain ⟨hy0,hy1⟩:=hy
  go_simp
 refine zaF [3,6,7,8,9,10,11] (i:=2) (v:=(.pointer (some ⟨B,0,none⟩))) rr1_2 HPan.out hS0 (fun y hy => ?_) ?_
 ·obtain ⟨hy0,hy1⟩:=hy
  go_simp
 refine zaF [6,7,8,9,10,11] (i:=3) (v:=(.slice (some ⟨ff,0,none⟩) fn fc)) rr1_3 HPan.out hS0 (fun y hy => ?_) ?_
 ·obtain ⟨hy0,hy1⟩:=hy
  go_simp
 refine zaF [5,6,7,8,9,10,11] (i:=4) (v:=(.pointer (some ⟨B,0,none⟩))) rr1_4 HPan.out hS0 (fun y hy => ?_) ?_
 ·obtain ⟨hy0,hy1⟩:=hy
  go_simp
 refine zbB (rs:=[5]) (by kernel_rfl) (by simp) fun j5 hj5 => ?_
 obtain rfl:j5=5:=by simpa using hj5
 refine zaN rr1_5 rfl fun K1 hK1 => ?_
 unfold Oper.wp
 go_simp
 refine Calls.mono HC.out ?_
 rintro e W1 ⟨rfl,n1,rfl⟩
 go_simp
 have hS1:(V.drewN n1).cell? ⟨B,0,none⟩=some (.slice (some ⟨ff,0,none⟩) fn fc)∧(V.drewN n1).cell? ⟨ff,b*5+4,none⟩=some (.int .i64 p):=hS0
 refine hK1 _ _ ⟨fun _=>hS1,?_⟩
 clear hK1 K1
 have hc1:=hS1.1
 have hc2:=hS1.2
 refine zbB (rs:=[6]) (by kernel_rfl) (by simp) fun j6 hj6 => ?_
 obtain rfl:j6=6:=by simpa using hj6
 refine zaN rr1_6 rfl fun K1 hK1 => ?_
 unfold Oper.wp
 go_simp
 refine hK1 _ _ ⟨fun _=>hS1,?_⟩
 clear hK1 K1
 refine zbB (rs:=[7]) (by kernel_rfl) (by simp) fun j7 hj7 => ?_
 obtain rfl:j7=7:=by simpa using hj7
 refine zaN rr1_7 rfl fun K1 hK1 => ?_
 unfold Oper.wp
 go_simp
 refine hK1 _ _ ⟨fun _=>hS1,?_⟩
 clear hK1 K1
 refine zbB (rs:=[8]) (by kernel_rfl) (by simp) fun j8 hj8 => ?_
 obtain rfl:j8=8:=by simpa using hj8
 refine zaN rr1_8 rfl fun K1 hK1 => ?_
 unfold Oper.wp
 go_simp
 refine hK1 _ _ ⟨fun _=>hS1,?_⟩
 clear hK1 K1
 refine zbB (rs:=[9]) (by kernel_rfl) (by simp) fun j9 hj9 => ?_
 obtain rfl:j9=9:=by simpa using hj9
 refine zaN rr1_9 rfl fun K1 hK1 => ?_
 unfold Oper.wp
 go_simp
 refine hK1 _ _ ⟨fun _=>hS1,?_⟩
 clear hK1 K1
 refine zbB (rs:=[10]) (by kernel_rfl) (by simp) fun j10 hj10 => ?_
 obtain rfl:j10=10:=by simpa using hj10
 refine zaN rr1_10 rfl fun K1 hK1 => ?_
 unfold Oper.wp
 go_simp
 refine hK1 _ _ ⟨fun _=>hS1,?_⟩
 clear hK1 K1
 refine zbN (by kernel_rfl) (by kernel_rfl) ?_ _
 refine zaN rr1_11 rfl fun K1 hK1 => ?_
 unfold Oper.wp
 go_simp
 exact HQ.out _ n1 rfl
def EndRes (w:World) (r:Except (Int × Int) St) (e:Ending) (w':World):Prop:=
 match r with
 | .error q=>e=.panicked (flt q.1 q.2)∧∃ n,w.drewN n=w'
 | .ok _=>e=.returned (.tuple #[])∧w=w'
section
variable {w : World} {base B : Nat} {fs : List FV} {top opn : List Nat} {fv tv ov : Value}
theorem drew_drewN (w:World) (n:Nat):w.drew.drewN n=w.drewN (1+n):=by
 unfold World.drew World.drewN
 simp [Nat.add_assoc]
theorem end_any (h:RD w base B fs top opn fv tv ov) (hG:Good ⟨fs.map Prod.fst,top,opn⟩) :
  Calls Tryz.prog 73 #[.pointer (some ⟨B,0,none⟩)] w fun e w'=>EndRes w (finish ⟨fs.map Prod.fst,top,opn⟩) e w':=by
 unfold finish
 simp only
 have c2:=h.c2
 cases hb:opn.getLast? with
 | none=>
  obtain rfl:opn=[]:=by simpa using hb
  obtain ⟨oa,oc,hov⟩:=zaE h.oo
  rw [hov] at c2
  simp only [List.length_nil] at c2
  clear h hG hb hov
  go_enter Tryz.func73,Tryz.ntmps73
  go_wp2
  go_end0
  exact ⟨rfl,rfl⟩
 | some b=>
  have hbm:b∈opn:=List.mem_of_getLast? hb
  have hbl:=hG.open_lt b hbm
  simp only [List.length_map] at hbl
  have ho:=hG.open_len
  simp only at ho
  have hol:0<opn.length:=List.length_pos_of_mem hbm
  have hx:fs[b]?=some fs[b]:=List.getElem?_eq_getElem hbl
  obtain ⟨oa,oc,hov⟩:=zaE h.oo
  rw [hov] at c2
  obtain ⟨ff,fc,hfv,_,_⟩:=own_some h.fo (by omega)
  have hfo:=h.fo
  have c0:=h.c0
  rw [hfv] at hfo c0
  have hp:atOf (fs.map Prod.fst) b=fs[b].1.p:=by unfold atOf;rw [List.getElem?_map,hx];rfl
  have hcp:=own_cell hfo (j:=b*5+4) (u:=.int .i64 fs[b].1.p) (by rw [zcG fs b 4 _ hx (by omega)];rfl)
  show Calls Tryz.prog 73 #[.pointer (some ⟨B,0,none⟩)] w fun e w'=>EndRes w (.error (atOf (fs.map Prod.fst) b,8)) e w'
  rw [hp]
  obtain ⟨p,hpp⟩:∃ p,fs[b].1.p=p:=⟨_,rfl⟩
  rw [hpp] at hcp ⊢
  have q1:decide ((0:Int)<(opn.length:Int))=true:=by simp;omega
  have HS:=hidI (show w.drew.cell? ⟨B,0,none⟩=some (.slice (some ⟨ff,0,none⟩) fs.length fc)∧w.drew.cell? ⟨ff,b*5+4,none⟩=some (.int .i64 p) from ⟨c0,hcp⟩)
  have HI:=hidI (inner_any h.drew ho hb)
  have q2:(0:Int)<(opn.length:Int):=by omega
  clear h hG hb hov hfo hcp hpp hp hx hfv c0 hbm
  go_enter Tryz.func73,Tryz.ntmps73
  go_wp2
  refine reg1e HS.out hbl HI.out (fun _ _ _ _ _ h=>h) ?_
  intro a n hd
  exact ⟨hd,rfl,1+n,(drew_drewN w n).symm⟩
end
end Go.Proofs.YtmekkhfohmfjkaaGreatDoor
