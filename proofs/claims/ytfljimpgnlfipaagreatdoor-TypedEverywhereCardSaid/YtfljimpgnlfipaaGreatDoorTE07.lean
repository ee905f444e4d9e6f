/-
  Part 7 of the proof: DrW, DrH, DrN.
-/
import Derived.Test.YtfljimpgnlfipaaGreatDoorTE06
import Derived.Test.YtfljimpgnlfipaaGreatDoorTE03
import Derived.Test.YtfljimpgnlfipaaGreatDoorTE01
namespace Go.Proofs.YtfljimpgnlfipaaGreatDoor
open Go.RowKit Go.Deep Go.MapKept
theorem zdG {fn:Func} {p q:Tmp} {ty:TypeId} (h:fn.results=#[.cell p ty,.tmp q]) (tmps:Array Value) (P:Program) (w:World) :
  (results fn tmps).run P w=((asAddr (tmps.getD p undef)).run P w).andThen fun a w₁=>((loadVar ty a).run P w₁).andThen fun v w₂=>.ok (.tuple #[v,tmps.getD q undef]) w₂:=by
 simp only [results,h];simp [Sem.run_bind,Result.andThen]
set_option maxRecDepth 20000 in
set_option maxHeartbeats 1000000 in
theorem zfH (s:ByteArray) (w:World):Calls Tryz.prog 152 #[.string s] w fun e w'=>e=.returned (.int .u8 (colOf s:Int))∧w'=w:=by
 have b0:=zbT s (⟨#[111,119,110]⟩:ByteArray);rw [show (⟨#[111,119,110]⟩:ByteArray).toList=[111,119,110] from by decide +kernel] at b0;have b1:=zbT s (⟨#[102,97,114]⟩:ByteArray);rw [show (⟨#[102,97,114]⟩:ByteArray).toList=[102,97,114] from by decide +kernel] at b1;have b2:=zbT s (⟨#[118,105,97]⟩:ByteArray);rw [show (⟨#[118,105,97]⟩:ByteArray).toList=[118,105,97] from by decide +kernel] at b2;by_cases h0:s=(⟨#[111,119,110]⟩:ByteArray)
 ·have hr:colOf s=3:=by
   unfold colOf;simp only [if_pos h0]
  rw [decide_eq_true h0] at b0;rw [hr];clear hr h0 b1 b2;go_enter Tryz.func152,Tryz.ntmps152;go_wp2;go_ret;exact ⟨rfl,rfl⟩
 rw [decide_eq_false h0] at b0;by_cases h1:s=(⟨#[102,97,114]⟩:ByteArray)
 ·have hr:colOf s=4:=by
   unfold colOf;simp only [if_neg h0,if_pos h1]
  rw [decide_eq_true h1] at b1;rw [hr];clear hr h0 h1 b2;go_enter Tryz.func152,Tryz.ntmps152;go_wp2;go_ret;exact ⟨rfl,rfl⟩
 rw [decide_eq_false h1] at b1;by_cases h2:s=(⟨#[118,105,97]⟩:ByteArray)
 ·have hr:colOf s=5:=by
   unfold colOf;simp only [if_neg h0,if_neg h1,if_pos h2]
  rw [decide_eq_true h2] at b2;rw [hr];clear hr h0 h1 h2;go_enter Tryz.func152,Tryz.ntmps152;go_wp2;go_ret;exact ⟨rfl,rfl⟩
 rw [decide_eq_false h2] at b2;have hr:colOf s=0:=by
  unfold colOf;simp only [if_neg h0,if_neg h1,if_neg h2]
 rw [hr];clear hr h0 h1 h2;go_enter Tryz.func152,Tryz.ntmps152;go_wp2;go_ret;exact ⟨rfl,rfl⟩
set_option maxRecDepth 20000 in
set_option maxHeartbeats 1000000 in
theorem dbare_any (s:ByteArray) (w:World):Calls Tryz.prog 153 #[.string s] w fun e w'=>e=.returned (.int .u8 (bareOf s:Int))∧w'=w:=by
 have b0:=zbT s (⟨#[105,100]⟩:ByteArray);rw [show (⟨#[105,100]⟩:ByteArray).toList=[105,100] from by decide +kernel] at b0;have b1:=zbT s (⟨#[102,97,114,105,100]⟩:ByteArray);rw [show (⟨#[102,97,114,105,100]⟩:ByteArray).toList=[102,97,114,105,100] from by decide +kernel] at b1;have b2:=zbT s (⟨#[99,111,117,110,116]⟩:ByteArray);rw [show (⟨#[99,111,117,110,116]⟩:ByteArray).toList=[99,111,117,110,116] from by decide +kernel] at b2;by_cases h0:s=(⟨#[105,100]⟩:ByteArray)
 ·have hr:bareOf s=6:=by
   unfold bareOf;simp only [if_pos h0]
  rw [decide_eq_true h0] at b0;rw [hr];clear hr h0 b1 b2;go_enter Tryz.func153,Tryz.ntmps153;go_wp2;go_ret;exact ⟨rfl,rfl⟩
 rw [decide_eq_false h0] at b0;by_cases h1:s=(⟨#[102,97,114,105,100]⟩:ByteArray)
 ·have hr:bareOf s=7:=by
   unfold bareOf;simp only [if_neg h0,if_pos h1]
  rw [decide_eq_true h1] at b1;rw [hr];clear hr h0 h1 b2;go_enter Tryz.func153,Tryz.ntmps153;go_wp2;go_ret;exact ⟨rfl,rfl⟩
 rw [decide_eq_false h1] at b1;by_cases h2:s=(⟨#[99,111,117,110,116]⟩:ByteArray)
 ·have hr:bareOf s=9:=by
   unfold bareOf;simp only [if_neg h0,if_neg h1,if_pos h2]
  rw [decide_eq_true h2] at b2;rw [hr];clear hr h0 h1 h2;go_enter Tryz.func153,Tryz.ntmps153;go_wp2;go_ret;exact ⟨rfl,rfl⟩
 rw [decide_eq_false h2] at b2;have hr:bareOf s=0:=by
  unfold bareOf;simp only [if_neg h0,if_neg h1,if_neg h2]
 rw [hr];clear hr h0 h1 h2;go_enter Tryz.func153,Tryz.ntmps153;go_wp2;go_ret;exact ⟨rfl,rfl⟩
def declV:Option (Nat × Nat)→Value
 | some (a,b)=>.tuple #[.agg #[.string ⟨#[]⟩,.int .u8 (a:Int),.int .u8 (b:Int)],.bool true]
 | none=>.tuple #[.agg #[.string ⟨#[]⟩,.int .u8 0,.int .u8 0],.bool false]
set_option maxRecDepth 20000 in
set_option maxHeartbeats 1000000 in
theorem ddecl_any (s:ByteArray) (w:World):Calls Tryz.prog 55 #[.string s] w fun e w'=>e=.returned (declV (declOf s))∧Below w.heap.size w w':=by
 have b0:=zbT s (⟨#[105,110,116]⟩:ByteArray);rw [show (⟨#[105,110,116]⟩:ByteArray).toList=[105,110,116] from by decide +kernel] at b0;have b1:=zbT s (⟨#[98,111,111,108]⟩:ByteArray);rw [show (⟨#[98,111,111,108]⟩:ByteArray).toList=[98,111,111,108] from by decide +kernel] at b1;have b2:=zbT s (⟨#[110,105,110,116]⟩:ByteArray);rw [show (⟨#[110,105,110,116]⟩:ByteArray).toList=[110,105,110,116] from by decide +kernel] at b2;have b3:=zbT s (⟨#[110,98,111,111,108]⟩:ByteArray);rw [show (⟨#[110,98,111,111,108]⟩:ByteArray).toList=[110,98,111,111,108] from by decide +kernel] at b3;have b4:=zbT s (⟨#[101,105,110,116]⟩:ByteArray);rw [show (⟨#[101,105,110,116]⟩:ByteArray).toList=[101,105,110,116] from by decide +kernel] at b4;have b5:=zbT s (⟨#[101,98,111,111,108]⟩:ByteArray);rw [show (⟨#[101,98,111,111,108]⟩:ByteArray).toList=[101,98,111,111,108] from by decide +kernel] at b5;by_cases h0:s=(⟨#[105,110,116]⟩:ByteArray)
 ·have hr:declOf s=some (1,1):=by
   unfold declOf;simp only [if_pos h0]
  rw [decide_eq_true h0] at b0;rw [hr];clear hr h0 b1 b2 b3 b4 b5;go_enter Tryz.func55,Tryz.ntmps55;go_wp2;refine bodyPost_ret (v:=.tuple #[.agg #[.string ⟨#[]⟩,.int .u8 1,.int .u8 1],.bool true]) ?_ rfl ⟨rfl,belowT⟩;rw [zdG rfl]
  (go_simp<;>first|done|rfl)
 rw [decide_eq_false h0] at b0;by_cases h1:s=(⟨#[98,111,111,108]⟩:ByteArray)
 ·have hr:declOf s=some (1,2):=by
   unfold declOf;simp only [if_neg h0,if_pos h1]
  rw [decide_eq_true h1] at b1;rw [hr];clear hr h0 h1 b2 b3 b4 b5;go_enter Tryz.func55,Tryz.ntmps55;go_wp2;refine bodyPost_ret (v:=.tuple #[.agg #[.string ⟨#[]⟩,.int .u8 1,.int .u8 2],.bool true]) ?_ rfl ⟨rfl,belowT⟩;rw [zdG rfl]
  (go_simp<;>first|done|rfl)
 rw [decide_eq_false h1] at b1;by_cases h2:s=(⟨#[110,105,110,116]⟩:ByteArray)
 ·have hr:declOf s=some (2,1):=by
   unfold declOf;simp only [if_neg h0,if_neg h1,if_pos h2]
  rw [decide_eq_true h2] at b2;rw [hr];clear hr h0 h1 h2 b3 b4 b5;go_enter Tryz.func55,Tryz.ntmps55;go_wp2;refine bodyPost_ret (v:=.tuple #[.agg #[.string ⟨#[]⟩,.int .u8 2,.int .u8 1],.bool true]) ?_ rfl ⟨rfl,belowT⟩;rw [zdG rfl]
  (go_simp<;>first|done|rfl)
 rw [decide_eq_false h2] at b2;by_cases h3:s=(⟨#[110,98,111,111,108]⟩:ByteArray)
 ·have hr:declOf s=some (2,2):=by
   unfold declOf;simp only [if_neg h0,if_neg h1,if_neg h2,if_pos h3]
  rw [decide_eq_true h3] at b3;rw [hr];clear hr h0 h1 h2 h3 b4 b5;go_enter Tryz.func55,Tryz.ntmps55;go_wp2;refine bodyPost_ret (v:=.tuple #[.agg #[.string ⟨#[]⟩,.int .u8 2,.int .u8 2],.bool true]) ?_ rfl ⟨rfl,belowT⟩;rw [zdG rfl]
  (go_simp<;>first|done|rfl)
 rw [decide_eq_false h3] at b3;by_cases h4:s=(⟨#[101,105,110,116]⟩:ByteArray)
 ·have hr:declOf s=some (3,1):=by
   unfold declOf;simp only [if_neg h0,if_neg h1,if_neg h2,if_neg h3,if_pos h4]
  rw [decide_eq_true h4] at b4;rw [hr];clear hr h0 h1 h2 h3 h4 b5;go_enter Tryz.func55,Tryz.ntmps55;go_wp2;refine bodyPost_ret (v:=.tuple #[.agg #[.string ⟨#[]⟩,.int .u8 3,.int .u8 1],.bool true]) ?_ rfl ⟨rfl,belowT⟩;rw [zdG rfl]
  (go_simp<;>first|done|rfl)
 rw [decide_eq_false h4] at b4;by_cases h5:s=(⟨#[101,98,111,111,108]⟩:ByteArray)
 ·have hr:declOf s=some (3,2):=by
   unfold declOf;simp only [if_neg h0,if_neg h1,if_neg h2,if_neg h3,if_neg h4,if_pos h5]
  rw [decide_eq_true h5] at b5;rw [hr];clear hr h0 h1 h2 h3 h4 h5;go_enter Tryz.func55,Tryz.ntmps55;go_wp2;refine bodyPost_ret (v:=.tuple #[.agg #[.string ⟨#[]⟩,.int .u8 3,.int .u8 2],.bool true]) ?_ rfl ⟨rfl,belowT⟩;rw [zdG rfl]
  (go_simp<;>first|done|rfl)
 rw [decide_eq_false h5] at b5;have hr:declOf s=none:=by
  unfold declOf;simp only [if_neg h0,if_neg h1,if_neg h2,if_neg h3,if_neg h4,if_neg h5]
 rw [hr];clear hr h0 h1 h2 h3 h4 h5;go_enter Tryz.func55,Tryz.ntmps55;go_wp2;refine bodyPost_ret (v:=.tuple #[.agg #[.string ⟨#[]⟩,.int .u8 0,.int .u8 0],.bool false]) ?_ rfl ⟨rfl,belowT⟩;rw [zdG rfl]
 (go_simp<;>first|done|rfl)
set_option maxRecDepth 20000 in
set_option maxHeartbeats 4000000 in
theorem dopWord_any (o:Nat) (ho:o≤19) (w:World):Calls Tryz.prog 117 #[.int .u8 (o:Int)] w fun e w'=>e=.returned (.string (opWd o))∧Below w.heap.size w w':=by
 have hm:o=0∨o=1∨o=2∨o=3∨o=4∨o=5∨o=6∨o=7∨o=8∨o=9∨o=10∨o=11∨o=12∨o=13∨o=14∨o=15∨o=16∨o=17∨o=18∨o=19:=by omega
 rcases hm with rfl|rfl|rfl|rfl|rfl|rfl|rfl|rfl|rfl|rfl|rfl|rfl|rfl|rfl|rfl|rfl|rfl|rfl|rfl|rfl
 all_goals
  go_enter Tryz.func117,Tryz.ntmps117;go_wp2;go_ret;exact ⟨rfl,belowT⟩
theorem opOf_word {j:Nat} (h1:1≤j) (h2:j≤19):opOf (opWd j)=j:=by
 have hm:j=1∨j=2∨j=3∨j=4∨j=5∨j=6∨j=7∨j=8∨j=9∨j=10∨j=11∨j=12∨j=13∨j=14∨j=15∨j=16∨j=17∨j=18∨j=19:=by omega
 rcases hm with rfl|rfl|rfl|rfl|rfl|rfl|rfl|rfl|rfl|rfl|rfl|rfl|rfl|rfl|rfl|rfl|rfl|rfl|rfl<;>(show _=_;decide +kernel)
theorem opOf_no {s:ByteArray} (h:∀ j,1≤j→j≤19→¬ opWd j=s):opOf s=0:=by
 unfold opOf;rw [show opWs.findIdx? (fun x=>decide (s=x))=none from ?_];rw [List.findIdx?_eq_none_iff];intro x hx;rw [decide_eq_false_iff_not];rintro rfl;have hz:∃ j,1≤j∧j≤19∧opWd j=s:=by
  obtain ⟨i,hi,rfl⟩:=List.getElem_of_mem hx;have hl:opWs.length=19:=rfl;refine ⟨i+1,by omega,by omega,?_⟩;have hm:i=0∨i=1∨i=2∨i=3∨i=4∨i=5∨i=6∨i=7∨i=8∨i=9∨i=10∨i=11∨i=12∨i=13∨i=14∨i=15∨i=16∨i=17∨i=18:=by omega
  rcases hm with rfl|rfl|rfl|rfl|rfl|rfl|rfl|rfl|rfl|rfl|rfl|rfl|rfl|rfl|rfl|rfl|rfl|rfl|rfl<;>rfl
 obtain ⟨j,h1,h2,h3⟩:=hz;exact h j h1 h2 h3
set_option maxRecDepth 20000 in
set_option maxHeartbeats 2000000 in
theorem zeA (s:ByteArray) (w:World):Calls Tryz.prog 155 #[.string s] w fun e w'=>e=.returned (.tuple #[.int .u8 (opOf s:Int),.bool (decide (opOf s≠0))])∧Below w.heap.size w w':=by
 obtain ⟨r,hr⟩:∃ r,opOf s=r:=⟨_,rfl⟩;have HR:=hidI hr;rw [hr];clear hr;go_enter Tryz.func155,Tryz.ntmps155;go_wp2
 go_loopg [4] 19 (fun g s4 wx=>∃ j:Nat,j+g=20∧s4=.int .u8 (j:Int)∧1≤j∧Hid (∀ i,1≤i→i<j→¬ opWd i=s)∧Hid (Below w.heap.size w wx))
 case atStart=>exact ⟨1,by omega,rfl,by omega,hidI (fun i h1 h2=>by omega),hidI (Below.refl _ _)⟩
 case round=>
  obtain ⟨j,hj,rfl,hj1,HX,HB⟩:=hrel;cases gk with
  | zero=>
   obtain rfl:j=20:=by omega
   have hr0:r=0:=by rw [←HR.out];exact opOf_no (fun i h1 h2=>HX.out i h1 (by omega))
   subst hr0;go_wp2;go_ret2;exact ⟨rfl,HB.out⟩
  | succ g=>
   have hj2:j≤19:=by omega
   have k1:(j:Int)≤19:=by omega
   have hw1:IntKind.u8.wrap ((j:Int)+1)=(j:Int)+1:=by rw [IntKind.wrap_u8];omega
   have bq:=zbT (opWd j) s;by_cases he:opWd j=s
   ·have hrj:r=j:=by rw [←HR.out,←he];exact opOf_word hj1 hj2
    subst hrj;rw [decide_eq_true he] at bq;have hd:decide (r≠0)=true:=by rw [decide_eq_true_iff];omega
    have HD:=hidI hd;clear he hd
    go_wp2_with (go_at_call 117;refine Calls.mono (dopWord_any r hj2 _) ?_;rintro e w1 ⟨rfl,hb1⟩;have HB1:=hidI (HB.out.trans (hb1.mono HB.out.size));clear hb1)
    go_ret2;exact ⟨by rw [HD.out];rfl,HB1.out⟩
   ·rw [decide_eq_false he] at bq;have HX2:Hid (∀ i,1≤i→i<j+1→¬ opWd i=s):=hidI (fun i h1 h2=>by
     rcases Nat.lt_or_ge i j with h3|h3
     ·exact HX.out i h1 h3
     ·obtain rfl:i=j:=by omega
      exact he)
    clear he
    go_wp2_with (go_at_call 117;refine Calls.mono (dopWord_any j hj2 _) ?_;rintro e w1 ⟨rfl,hb1⟩;have HB1:=hidI (HB.out.trans (hb1.mono HB.out.size));clear hb1)
    go_roundg g
    case measure=>omega
    case rel=>exact ⟨j+1,by omega,by go_num,by omega,HX2,HB1⟩
def dhdN:Nat→Oper
 | 0=>⟨some 15,.fieldAddr 97 (.tmp 7) 0,0, "ref.go:50",#[],none⟩
 | 1=>⟨some 16,.load 90 (.tmp 15),90, "ref.go:50",#[⟨0,.data⟩],none⟩
 | 2=>⟨some 17,.binOp .neq 90 (.tmp 16) (.const (.int .u8 1)) 90,4, "ref.go:50",#[⟨1,.data⟩],none⟩
 | 3=>⟨some 18,.move (.tmp 17),4, "ref.go:50",#[⟨2,.data⟩],none⟩
 | 4=>⟨some 19,.fieldAddr 97 (.tmp 7) 3,0, "ref.go:50",#[⟨3,.guard⟩],some (3,false)⟩
 | 5=>⟨some 20,.load 25 (.tmp 19),25, "ref.go:50",#[⟨4,.data⟩,⟨3,.guard⟩],some (3,false)⟩
 | 6=>⟨some 21,.call ⟨.builtin .len,#[.tmp 20],#[25]⟩,3, "ref.go:50",#[⟨5,.data⟩,⟨3,.guard⟩],some (3,false)⟩
 | 7=>⟨some 22,.binOp .eql 3 (.tmp 21) (.const (.int .i64 0)) 3,4, "ref.go:50",#[⟨6,.data⟩,⟨3,.guard⟩],some (3,false)⟩
 | 8=>⟨some 23,.pick (.tmp 18) (.const (.bool true)) (.tmp 22),4, "ref.go:50",#[⟨3,.data⟩,⟨7,.data⟩],none⟩
 | 9=>⟨some 24,.move (.tmp 23),4, "ref.go:50",#[⟨8,.data⟩,⟨3,.chain⟩],none⟩
 | 10=>⟨some 25,.move (.tmp 0),99, "ref.go:50",#[⟨9,.guard⟩],some (9,false)⟩
 | 11=>⟨some 26,.nilCheck (.tmp 25),0, "ref.go:50",#[⟨10,.data⟩,⟨9,.guard⟩],some (9,false)⟩
 | 12=>⟨some 27,.fieldAddr 101 (.tmp 26) 0,0, "ref.go:50",#[⟨11,.data⟩,⟨9,.guard⟩],some (9,false)⟩
 | 13=>⟨some 28,.load 56 (.tmp 27),56, "ref.go:50",#[⟨12,.data⟩,⟨9,.guard⟩],some (9,false)⟩
 | 14=>⟨some 29,.fieldAddr 97 (.tmp 7) 3,0, "ref.go:50",#[⟨9,.guard⟩],some (9,false)⟩
 | 15=>⟨some 30,.load 25 (.tmp 29),25, "ref.go:50",#[⟨14,.data⟩,⟨9,.guard⟩],some (9,false)⟩
 | 16=>⟨some 31,.indexAddr 25 (.tmp 30) (.const (.int .i64 0)),0, "ref.go:50",#[⟨15,.data⟩,⟨9,.guard⟩],some (9,false)⟩
 | 17=>⟨some 32,.load 3 (.tmp 31),3, "ref.go:50",#[⟨16,.data⟩,⟨9,.guard⟩],some (9,false)⟩
 | 18=>⟨some 33,.indexAddr 56 (.tmp 28) (.tmp 32),0, "ref.go:50",#[⟨13,.data⟩,⟨17,.data⟩,⟨9,.guard⟩],some (9,false)⟩
 | 19=>⟨some 34,.fieldAddr 97 (.tmp 33) 0,0, "ref.go:50",#[⟨18,.data⟩,⟨9,.guard⟩],some (9,false)⟩
 | 20=>⟨some 35,.load 90 (.tmp 34),90, "ref.go:50",#[⟨19,.data⟩,⟨9,.guard⟩],some (9,false)⟩
 | 21=>⟨some 36,.binOp .neq 90 (.tmp 35) (.const (.int .u8 3)) 90,4, "ref.go:50",#[⟨20,.data⟩,⟨9,.guard⟩],some (9,false)⟩
 | _=>⟨some 37,.pick (.tmp 24) (.const (.bool true)) (.tmp 36),4, "ref.go:50",#[⟨9,.data⟩,⟨21,.data⟩],none⟩
set_option maxRecDepth 100000 in
set_option maxHeartbeats 4000000 in
theorem regHd (w:World) (B tb:Nat) (xk:Int) (hk:¬ xk=1) (h0:w.cell? ⟨tb,0,none⟩=some (.int .u8 xk))
  {Q:Exit→Act→World→Prop} {x1 x2 x3 x4 x5 x6 x8 x9 ar al aj ag aq aK aR aM aP az aQ aB aH aN aE aD ay aA aC aG aL aF aI aJ av aw aO ax ah ab af ai ak ao au an ap ae ad ac aa am:Value} {ri:Nat}
  (h:∀ (y:World),Below w.heap.size w y→Q .normal ⟨#[.pointer (some ⟨B,0,none⟩),x1,x2,x3,x4,x5,x6,.pointer (some ⟨tb,0,none⟩),x8,x9,ar,al,aj,ag,aq,.pointer (some ⟨tb,0,none⟩),.int .u8 xk,.bool true,.bool true,undef,undef,undef,undef,.bool true,.bool true,undef,undef,undef,undef,undef,undef,undef,undef,undef,undef,undef,undef,.bool true,ah,ab,af,ai,ak,ao,au,an,ap,ae,ad,ac,aa,am],[]⟩ y) :
  (Code.region ri (opsA dhdN 22) true).wp Tryz.prog Q ⟨#[.pointer (some ⟨B,0,none⟩),x1,x2,x3,x4,x5,x6,.pointer (some ⟨tb,0,none⟩),x8,x9,ar,al,aj,ag,aq,aK,aR,aM,aP,az,aQ,aB,aH,aN,aE,aD,ay,aA,aC,aG,aL,aF,aI,aJ,av,aw,aO,ax,ah,ab,af,ai,ak,ao,au,an,ap,ae,ad,ac,aa,am],[]⟩ w:=by
 refine zaQ dhdN (fun i=>match i with|0=>.pointer (some ⟨tb,0,none⟩)|1=>.int .u8 xk|2=>.bool true|3=>.bool true|4=>undef|5=>undef|6=>undef|7=>undef|8=>.bool true|9=>.bool true|10=>undef|11=>undef|12=>undef|13=>undef|14=>undef|15=>undef|16=>undef|17=>undef|18=>undef|19=>undef|20=>undef|21=>undef|_=>undef) (fun y=>Below w.heap.size w y) 22 Tryz.mixed (by kernel_rfl) (by kernel_rfl) (Below.refl _ _).drew ?_ ?_
 ·intro i9 hi9 a9 w9 hF9 hS9 K9 hK9;have hc9:i9=0∨i9=1∨i9=2∨i9=3∨i9=4∨i9=5∨i9=6∨i9=7∨i9=8∨i9=9∨i9=10∨i9=11∨i9=12∨i9=13∨i9=14∨i9=15∨i9=16∨i9=17∨i9=18∨i9=19∨i9=20∨i9=21:=by omega
  clear hi9;rcases hc9 with rfl|rfl|rfl|rfl|rfl|rfl|rfl|rfl|rfl|rfl|rfl|rfl|rfl|rfl|rfl|rfl|rfl|rfl|rfl|rfl|rfl|rfl
  ·have e7:=hF9.od 7 (v:=.pointer (some ⟨tb,0,none⟩)) rfl;refine zaU rfl ?_ (hK9 _ hS9);clear hF9;simp only [dhdN,execOp,e7];first|done|(go_simp<;>omega)
  ·have e15:=hF9.ev 0 15;have y0:=zaJ hS9 h0;refine zaU rfl ?_ (hK9 _ hS9);clear hF9;simp only [dhdN,execOp,e15];first|done|(go_simp<;>omega)
  ·have e16:=hF9.ev 1 16;have q0:=hk;refine zaU rfl ?_ (hK9 _ hS9);clear hF9;simp only [dhdN,execOp,e16];first|done|(go_simp<;>omega)
  ·have e17:=hF9.ev 2 17;refine zaU rfl ?_ (hK9 _ hS9);clear hF9;simp only [dhdN,execOp,e17];first|done|(go_simp<;>omega)
  iterate 4 exact zaK rfl (hF9.nw 3 18) (hK9 _ hS9)
  ·have e18:=hF9.ev 3 18;have e22:=hF9.ev 7 22;refine zaU rfl ?_ (hK9 _ hS9);clear hF9;simp only [dhdN,execOp,e18,e22];first|done|(go_simp<;>omega)
  ·have e23:=hF9.ev 8 23;refine zaU rfl ?_ (hK9 _ hS9);clear hF9;simp only [dhdN,execOp,e23];first|done|(go_simp<;>omega)
  iterate 12 exact zaK rfl (hF9.nw 9 24) (hK9 _ hS9)
 ·intro w9 hS9 K9 hK9;simp only [putA,dhdN];rw [if_pos (zaG rfl)];unfold Oper.wp;go_simp;exact hK9 _ _ (h _ hS9)
section
variable {c : Dx}
theorem Dx.Ok.kids_lt (h:c.Ok) {n:Nat} (hn:n<c.fs.length):∀ k∈(frm c.l n).kids,n<k∧k<c.fs.length:=by
 have hx:=List.getElem?_eq_getElem hn;rw [Dx.frm_at hx];exact h.kidlt n _ hx
theorem Dx.Ok.kids_sz (h:c.Ok) {n:Nat} (hn:n<c.fs.length):1+((frm c.l n).kids.map c.sz).sum≤c.sz n:=by
 have hx:=List.getElem?_eq_getElem hn;rw [Dx.frm_at hx];exact h.szk n _ hx
def orF (er:Option (Int × Int)) (x:Int × Int):Option (Int × Int):=match er with|none=>some x|some y=>some y
theorem zbG {p:PV} {er:Option (Int × Int)} {X:List Rw} {w:World} (h:DrS c p er X w) (a y:Int):Calls Tryz.prog 57 #[.pointer (some ⟨c.B,0,none⟩),.int .i64 a,.int .i64 y] w fun e w'=>e=.returned (.tuple #[])∧DrS c p (orF er (a,y)) X w':=by
 cases er with
 | none=>
  have HH:=hidI h;have r5:=h.cell (j:=5) (u:=.bool false) rfl;have r6:=h.cell (j:=6) (u:=.int .i64 0) rfl;have r7:=h.cell (j:=7) (u:=.int .i64 0) rfl;have z5:=h.free 5;have z6:=h.free 6;have z7:=h.free 7;clear h;go_enter Tryz.func57,Tryz.ntmps57;go_wp2;go_end0;exact ⟨rfl,HH.out.fail a y⟩
 | some q=>
  have HH:=hidI h;have r5:=h.cell (j:=5) (u:=.bool true) rfl;clear h;go_enter Tryz.func57,Tryz.ntmps57;go_wp2;go_end0;exact ⟨rfl,HH.out⟩
theorem dword_any (hc:c.Ok) {p:PV} {er:Option (Int × Int)} {X:List Rw} {w:World} (h:DrS c p er X w) {n:Nat} (hn:n<c.fs.length):Calls Tryz.prog 154 #[.pointer (some ⟨c.B,0,none⟩),.int .i64 (n:Int)] w fun e w'=>e=.returned (.string (wordF c.l n))∧w'=w:=by
 obtain ⟨x,hx⟩:∃ x,c.fs[n]?=some x:=⟨_,List.getElem?_eq_getElem hn⟩;obtain ⟨g,o,cap,hv,c0,c1,_,_,_⟩:=hc.form h.below hx;have b0:=h.cell (j:=0) (u:=c.fv) rfl;rw [hv] at b0;have e1:(n:Int)<(c.fs.length:Int):=by omega
 have e2:(0:Int)≤(n:Int):=by omega
 have hwd:wordF c.l n=if x.1.k=3 then x.1.s else emptyS:=by unfold wordF;rw [Dx.frm_at hx]
 rw [hwd];clear hv h hwd;obtain ⟨⟨xk,xs,xn,xks,xp⟩,xv⟩:=x;simp only at c0 c1 ⊢;by_cases hk:xk=3
 ·subst hk;rw [if_pos rfl];go_enter Tryz.func154,Tryz.ntmps154;go_wp2;go_ret;exact ⟨rfl,rfl⟩
 ·rw [if_neg hk];have d1:(xk==3)=false:=by simpa using hk
  go_enter Tryz.func154,Tryz.ntmps154;go_wp2;go_ret;exact ⟨rfl,rfl⟩
def HdPost (c:Dx) (n:Nat) (w:World) (e:Ending) (w':World):Prop:=
 (match headF c.l n with
  | none=>e=.returned (.tuple #[.string ⟨#[]⟩,.slice none 0 0,.bool false])
  | some (s,ks)=>∃ kv,e=.returned (.tuple #[.string s,kv,.bool true])∧SeesC c.w0 kv ks.length 1 (ints ks))∧Below w.heap.size w w'
set_option maxHeartbeats 4000000 in
theorem zbC (hc:c.Ok) {p:PV} {er:Option (Int × Int)} {X:List Rw} {w:World} (h:DrS c p er X w) {n:Nat} (hn:n<c.fs.length):Calls Tryz.prog 54 #[.pointer (some ⟨c.B,0,none⟩),.int .i64 (n:Int)] w (HdPost c n w):=by
 obtain ⟨x,hx⟩:∃ x,c.fs[n]?=some x:=⟨_,List.getElem?_eq_getElem hn⟩;obtain ⟨g,o,cap,hv,y0,y1,y2,y3,y4⟩:=hc.form h.below hx;have b0:=h.cell (j:=0) (u:=c.fv) rfl;rw [hv] at b0;have e1:(n:Int)<(c.fs.length:Int):=by omega
 have e2:(0:Int)≤(n:Int):=by omega
 obtain ⟨hk,hr⟩:=hc.kid n x hx;have hkl:=hc.kidlen n x hx;have hfx:=Dx.frm_at hx;have hfm:∀ m y,c.fs[m]?=some y→frm c.l m=y.1:=fun m y hy=>Dx.frm_at hy
 obtain ⟨⟨xk,xs,xn,xks,xp⟩,xv⟩:=x;simp only at y0 y1 y2 y3 y4 hk hkl hfx;have hkv:∃ ka kc,xv=.slice ka xks.length kc:=by
  obtain ⟨_,a,cap,e,_⟩:=hk;exact ⟨a,cap,e⟩
 obtain ⟨ka,kc,rfl⟩:=hkv;by_cases hk1:xk=1
 ·subst hk1;cases xks with
  | nil=>
   have hH:headF c.l n=none:=by unfold headF;rw [hfx];rfl
   have HP:Hid (∀ w',Below w.heap.size w w'→HdPost c n w (.returned (.tuple #[.string ⟨#[]⟩,.slice none 0 0,.bool false])) w'):=hidI fun w' hb=>⟨by rw [hH],hb⟩
   clear hv h hx hk hr hH hfx hfm hn;go_enter Tryz.func54,Tryz.ntmps54;go_wp2;go_quiet (fail);generalize nq=n1;go_wp2;go_ret3;exact HP.out _ (below_drewN belowT n1)
  | cons m r=>
   have hml:=(hc.kidlt n _ hx m (by simp)).2;obtain ⟨y,hy⟩:∃ y,c.fs[m]?=some y:=⟨_,List.getElem?_eq_getElem hml⟩;obtain ⟨g',o',cap',hv',d0,d1,_,_,_⟩:=hc.form h.below hy;rw [hv] at hv';cases hv';obtain ⟨hl1,ka',kc',hkv,h0⟩:=hk;cases hkv;rcases h0 with h0|⟨kb,ko,rfl,hcell⟩
   ·simp at h0
   have k0:w.cell? ⟨kb,ko,none⟩=some (.int .i64 (m:Int)):=by
    have:=hcell 0 (.int .i64 (m:Int)) (by simp [ints]);exact (h.below.cell (World.block_lt_of_cell? c.w0 _ this)).trans this
   have hrc:r.length+1≤kc:=by
    obtain ⟨_,_,_,e,hle⟩:=hr;cases e;simpa using hle
   have hH:headF c.l n=if y.1.k=3 then some (y.1.s,r) else none:=by unfold headF;rw [hfx];simp only [if_true];rw [hfm m y hy]
   have HK1:Hid (SeesC c.w0 (.slice (some ⟨kb,ko+1,none⟩) r.length (kc-1)) r.length 1 (ints r)):=hidI (by
    refine ⟨by simp [ints],some ⟨kb,ko+1,none⟩,kc-1,rfl,.inr ⟨kb,ko+1,rfl,fun j u hj => ?_⟩⟩;have:=hcell (j+1) u (by simpa [ints] using hj);rwa [show ko+(j+1)=ko+1+j by omega] at this)
   have HK0:Hid (r.length=0→SeesC c.w0 (.slice (some ⟨kb,ko,none⟩) 0 0) r.length 1 (ints r)):=hidI (fun h0=>⟨by simp [ints],some ⟨kb,ko,none⟩,0,by rw [h0],.inl h0⟩);simp only [List.length_cons] at y3 hkl;have m1:(m:Int)<(c.fs.length:Int):=by omega
   have m2:(0:Int)≤(m:Int):=by omega
   have HBV:Hid (∀ (q:Addr) (v:Value),w.cell? q=some v→∀ cs ty,(w.alloc (.cells cs ty)).cell? q=some v):=hidI (fun q v hq cs ty=>zaJ (belowT:Below w.heap.size w (w.alloc (.cells cs ty))) hq);have q1:(((r.length+1:Nat):Int)==0)=false:=by rw [beq_eq_false_iff_ne];omega
   obtain ⟨⟨yk,ys,yn,yks,yp⟩,yv⟩:=y;simp only at d0 d1 hH;by_cases hy3:yk=3
   ·subst hy3;rw [if_pos rfl] at hH;have HP:Hid (∀ w' kv,SeesC c.w0 kv r.length 1 (ints r)→Below w.heap.size w w'→HdPost c n w (.returned (.tuple #[.string ys,kv,.bool true])) w'):=hidI fun w' kv hs hb=>⟨by rw [hH];exact ⟨kv,rfl,hs⟩,hb⟩
    obtain ⟨rl,hrl⟩:∃ rl,r.length=rl:=⟨_,rfl⟩;rw [hrl] at y3 HK1 HK0 hrc hkl q1 HP;clear hv h hx hr hH hfx hfm hcell hl1 hy hml hrl;by_cases hkc:kc=1
    ·subst hkc;obtain rfl:rl=0:=by omega
     have HK2:=hidI (HK0.out rfl);clear HK0 HK1;go_enter Tryz.func54,Tryz.ntmps54;go_wp2;have v0:=HBV.out _ _ b0;have v1:=HBV.out _ _ k0;have v2:=HBV.out _ _ d0;have v3:=HBV.out _ _ d1;go_quiet (fail);generalize nq=n1;go_wp2;go_quiet (fail);generalize nq=n2;go_wp2;go_ret3;exact HP.out _ _ HK2.out (below_drewN (below_drewN belowT n1) n2)
    ·have hk2:¬ kc-1=0:=by omega
     clear HK0;go_enter Tryz.func54,Tryz.ntmps54;go_wp2;have v0:=HBV.out _ _ b0;have v1:=HBV.out _ _ k0;have v2:=HBV.out _ _ d0;have v3:=HBV.out _ _ d1;go_quiet (fail);generalize nq=n1;go_wp2;go_quiet (fail);generalize nq=n2;go_wp2;go_ret3;exact HP.out _ _ HK1.out (below_drewN (below_drewN belowT n1) n2)
   ·have hy4:(yk==3)=false:=by simpa using hy3
    rw [if_neg hy3] at hH;have HP:Hid (∀ w',Below w.heap.size w w'→HdPost c n w (.returned (.tuple #[.string ⟨#[]⟩,.slice none 0 0,.bool false])) w'):=hidI fun w' hb=>⟨by rw [hH],hb⟩
    clear hv h hx hr hH hfx hfm hcell hl1 hy hml HK1 HK0;go_enter Tryz.func54,Tryz.ntmps54;go_wp2;have v0:=HBV.out _ _ b0;have v1:=HBV.out _ _ k0;have v2:=HBV.out _ _ d0;go_quiet (fail);generalize nq=n1;go_wp2;go_ret3;exact HP.out _ (below_drewN belowT n1);have h9:(yk != 3)=false:=(‹((r.length:Int)+1==0)=false∧(yk != 3)=false›).2;simp [hy3] at h9
 ·have d1:(xk==1)=false:=by simpa using hk1
  have hH:headF c.l n=none:=by unfold headF;rw [hfx];rw [if_neg hk1]
  have HP:Hid (∀ w',Below w.heap.size w w'→HdPost c n w (.returned (.tuple #[.string ⟨#[]⟩,.slice none 0 0,.bool false])) w'):=hidI fun w' hb=>⟨by rw [hH],hb⟩
  have h0:(w.alloc (.cells #[.int .u8 xk,.string xs,.int .i64 xn,.slice ka xks.length kc,.int .i64 xp] 97)).cell? ⟨w.heap.size,0,none⟩=some (.int .u8 xk):=by go_simp
  have H0:=hidI h0;have HK1:=hidI hk1;clear hv h hx hk hr hH hfx hfm h0 hk1 d1;go_enter Tryz.func54,Tryz.ntmps54;go_wp2;refine regHd _ _ _ xk HK1.out H0.out (fun y hy => ?_);have HY:=hidI ((belowT:Below w.heap.size w (w.alloc (.cells #[.int .u8 xk,.string xs,.int .i64 xn,.slice ka xks.length kc,.int .i64 xp] 97))).trans (hy.mono (by simp)));clear hy;go_wp2;go_ret3;exact HP.out _ HY.out
def NmPost (c:Dx) (p:PV) (X:List Rw) (n:Nat) (e:Ending) (w':World):Prop:=
 match nameF c.l n with
 | .ok s=>e=.returned (.string s)∧DrS c p none X w'∧SmlN s
 | .error a=>e=.returned (.string ⟨#[]⟩)∧DrS c p (some (a,8)) X w'
theorem dname_any (hc:c.Ok) {p:PV} {X:List Rw} {w:World} (h:DrS c p none X w) {n:Nat} (hn:n<c.fs.length):Calls Tryz.prog 58 #[.pointer (some ⟨c.B,0,none⟩),.int .i64 (n:Int)] w (NmPost c p X n):=by
 obtain ⟨x,hx⟩:∃ x,c.fs[n]?=some x:=⟨_,List.getElem?_eq_getElem hn⟩;obtain ⟨g,o,cap,hv,y0,y1,y2,y3,y4⟩:=hc.form h.below hx;have b0:=h.cell (j:=0) (u:=c.fv) rfl;rw [hv] at b0;have e1:(n:Int)<(c.fs.length:Int):=by omega
 have e2:(0:Int)≤(n:Int):=by omega
 have hfx:=Dx.frm_at hx;have htx:=hc.txt n x hx;obtain ⟨hk,_⟩:=hc.kid n x hx;obtain ⟨⟨xk,xs,xn,xks,xp⟩,xv⟩:=x;simp only at y0 y1 y2 y3 y4 hfx htx hk;have hkv:∃ ka kc,xv=.slice ka xks.length kc:=by
  obtain ⟨_,a,cap,e,_⟩:=hk;exact ⟨a,cap,e⟩
 obtain ⟨ka,kc,rfl⟩:=hkv;have HS:=hidI (h.alloc (.cells #[.int .u8 xk,.string xs,.int .i64 xn,.slice ka xks.length kc,.int .i64 xp] 97));have CR:=hidI (fun W=>rname_any xs W);by_cases hk3:xk=3
 ·subst hk3;cases hb:nameB xs with
  | true=>
   have hN:nameF c.l n=.ok xs:=by unfold nameF;rw [hfx];simp [nmOk,hb]
   have HP:Hid (∀ w',DrS c p none X w'→NmPost c p X n (.returned (.string xs)) w'):=hidI fun w' hw=>by unfold NmPost;rw [hN];exact ⟨rfl,hw,htx⟩
   rw [hb] at CR;clear hv h hx hk hN hb hfx hn htx;go_enter Tryz.func58,Tryz.ntmps58
   go_wp2_with (go_at_call 65;refine Calls.mono (CR.out _) ?_;rintro e w1 ⟨rfl,rfl⟩;clear CR)
   go_ret;exact HP.out _ HS.out
  | false=>
   have hN:nameF c.l n=.error xp:=by unfold nameF;rw [hfx];simp [nmOk,hb]
   have HP:Hid (∀ w',DrS c p (some (xp,8)) X w'→NmPost c p X n (.returned (.string ⟨#[]⟩)) w'):=hidI fun w' hw=>by unfold NmPost;rw [hN];exact ⟨rfl,hw⟩
   rw [hb] at CR;clear hv h hx hk hN hb hfx hn htx;go_enter Tryz.func58,Tryz.ntmps58
   go_wp2_with (first
    | (go_at_call 65;refine Calls.mono (CR.out _) ?_;rintro e w1 ⟨rfl,rfl⟩;clear CR)
    | (go_at_call 57;refine Calls.mono (zbG HS.out xp 8) ?_;rintro e w2 ⟨rfl,hf⟩;have HF:=hidI hf;clear hf))
   go_ret;exact HP.out _ HF.out
 ·have d1:(xk==3)=false:=by simpa using hk3
  have hN:nameF c.l n=.error xp:=by unfold nameF;rw [hfx];simp [hk3]
  have HP:Hid (∀ w',DrS c p (some (xp,8)) X w'→NmPost c p X n (.returned (.string ⟨#[]⟩)) w'):=hidI fun w' hw=>by unfold NmPost;rw [hN];exact ⟨rfl,hw⟩
  clear hv h hx hk hN hfx hn htx CR;go_enter Tryz.func58,Tryz.ntmps58
  go_wp2_with (go_at_call 57;refine Calls.mono (zbG HS.out xp 8) ?_;rintro e w2 ⟨rfl,hf⟩;have HF:=hidI hf;clear hf)
  go_ret;exact HP.out _ HF.out
end
end Go.Proofs.YtfljimpgnlfipaaGreatDoor
