/-
  Part 32 of the proof: TlG, TlH.
-/
import Derived.Test.YtfljimpgnlfipaaGreatDoorTE31
import Derived.Test.YtfljimpgnlfipaaGreatDoorTE06
namespace Go.Proofs.YtfljimpgnlfipaaGreatDoor
open Go.RowKit Go.Deep Go.MapKept
def qe6N:Nat→Oper
 | 0=>⟨some 16,.move (.tmp 0),25, "slices.go:25",#[],none⟩
 | 1=>⟨some 17,.move (.tmp 5),3, "slices.go:25",#[],none⟩
 | 2=>⟨some 18,.indexAddr 25 (.tmp 16) (.tmp 17),0, "slices.go:25",#[⟨0,.data⟩,⟨1,.data⟩],none⟩
 | 3=>⟨some 19,.load 3 (.tmp 18),3, "slices.go:25",#[⟨2,.data⟩],none⟩
 | 4=>⟨some 20,.move (.tmp 1),25, "slices.go:25",#[],none⟩
 | 5=>⟨some 21,.move (.tmp 5),3, "slices.go:25",#[],none⟩
 | 6=>⟨some 22,.indexAddr 25 (.tmp 20) (.tmp 21),0, "slices.go:25",#[⟨4,.data⟩,⟨5,.data⟩],none⟩
 | 7=>⟨some 23,.load 3 (.tmp 22),3, "slices.go:25",#[⟨6,.data⟩],none⟩
 | _=>⟨some 24,.binOp .neq 3 (.tmp 19) (.tmp 23) 3,4, "slices.go:25",#[⟨3,.data⟩,⟨7,.data⟩],none⟩
set_option maxRecDepth 100000 in
set_option maxHeartbeats 2000000 in
theorem equal_any (l1 l2:List Int) (v1 v2:Value) (w:World) (h1:SeesC w v1 l1.length 1 (intsI l1)) (h2:SeesC w v2 l2.length 1 (intsI l2)) (hl:l1.length≤1099511627776):Calls Tryz.prog 241 #[v1,v2] w fun e w'=>e=.returned (.bool (decide (l1=l2)))∧Below w.heap.size w w':=by
 obtain ⟨_,a1,c1,rfl,hc1⟩:=h1;obtain ⟨_,a2,c2,rfl,hc2⟩:=h2;by_cases hlen:l1.length=l2.length
 ·obtain ⟨n,hn⟩:∃ n,l1.length=n:=⟨_,rfl⟩;have HN:=hidI hn;have HN2:Hid (l2.length=n):=hidI (by omega);have HC1:=hidI hc1;have HC2:=hidI hc2;have e2:l2.length=n:=by omega
  rw [hn] at hl;rw [hn,e2];clear hlen hn e2 hc1 hc2;go_enter Tryz.func241,Tryz.ntmps241;go_wp2
  go_loopg [13] n (fun g s13 wx=>∃ j:Nat,j+g=n∧s13=.int .i64 (j:Int)∧Hid (l1.take j=l2.take j)∧Hid (Below w.heap.size w wx))
  case atStart=>exact ⟨0,by omega,rfl,hidI rfl,hidI (Below.refl _ _)⟩
  case round=>
   obtain ⟨j,hjg,rfl,HT,HB⟩:=hrel;cases gk with
   | zero=>
    obtain rfl:n=j:=by omega
    have k1:decide ((n:Int)<(n:Int))=false:=by simp
    have HR:Hid (decide (l1=l2)=true):=hidI (decide_eq_true (by
     have:=HT.out;rwa [List.take_of_length_le (by have:=HN.out;omega),List.take_of_length_le (by have:=HN2.out;omega)] at this))
    go_wp2;go_ret;rw [HR.out];exact ⟨rfl,HB.out⟩
   | succ g=>
    have k1:(j:Int)<(n:Int):=by omega
    obtain ⟨x,hx⟩:∃ x,l1[j]?=some x:=⟨_,List.getElem?_eq_getElem (by have:=HN.out;omega)⟩;obtain ⟨y,hy⟩:∃ y,l2[j]?=some y:=⟨_,List.getElem?_eq_getElem (by have:=HN2.out;omega)⟩;obtain ⟨b1,o1,ha1,hc1⟩:∃ b o,a1=some ⟨b,o,none⟩∧w.cell? ⟨b,o+j,none⟩=some (.int .i64 x):=by
     rcases HC1.out with h0|⟨b,o,e,hc⟩
     ·have:=HN.out;omega
     ·exact ⟨b,o,e,hc j _ (zcA hx)⟩
    obtain ⟨b2,o2,ha2,hc2⟩:∃ b o,a2=some ⟨b,o,none⟩∧w.cell? ⟨b,o+j,none⟩=some (.int .i64 y):=by
     rcases HC2.out with h0|⟨b,o,e,hc⟩
     ·have:=HN2.out;omega
     ·exact ⟨b,o,e,hc j _ (zcA hy)⟩
    subst ha1 ha2;have HX1:=hidI hc1;have HX2:=hidI hc2;have HTT:Hid (∀ z,l1.take j++[z]=l1.take (j+1)→True):=hidI (fun _ _=>trivial);have HS1:Hid (x=y→l1.take (j+1)=l2.take (j+1)):=hidI (fun e=>by rw [List.take_add_one,List.take_add_one,hx,hy,e,HT.out]);have HS2:Hid (x≠y→decide (l1=l2)=false):=hidI (fun e=>decide_eq_false (fun e2=>e (by rw [e2,hy] at hx;exact (Option.some.inj hx).symm)));clear hc1 hc2 hx hy HTT;go_wp2;by_cases hxy:x=y
    ·have d1:(x==y)=true:=by rw [hxy];simp
     have HN3:=hidI (HS1.out hxy);clear HS1 HS2 hxy;refine zaQ qe6N (fun i=>match i with|0=>.slice (some ⟨b1,o1,none⟩) n c1|1=>.int .i64 (j:Int)|2=>.pointer (some ⟨b1,o1+j,none⟩)|3=>.int .i64 x|4=>.slice (some ⟨b2,o2,none⟩) n c2|5=>.int .i64 (j:Int)|6=>.pointer (some ⟨b2,o2+j,none⟩)|7=>.int .i64 y|_=>undef) (fun y=>Below w.heap.size w y) 8 Tryz.mixed (by kernel_rfl) (by kernel_rfl) HB.out.drew ?_ ?_
     ·intro i9 hi9 a9 w9 hF9 hS9 K9 hK9;have hc9:i9=0∨i9=1∨i9=2∨i9=3∨i9=4∨i9=5∨i9=6∨i9=7:=by omega
      clear hi9;rcases hc9 with rfl|rfl|rfl|rfl|rfl|rfl|rfl|rfl
      ·have e0:=hF9.od 0 (v:=.slice (some ⟨b1,o1,none⟩) n c1) rfl;refine zaU rfl ?_ (hK9 _ hS9);clear hF9;simp only [qe6N,execOp,e0];first|done|(go_simp<;>omega)
      ·have e5:=hF9.od 5 (v:=.int .i64 (j:Int)) rfl;refine zaU rfl ?_ (hK9 _ hS9);clear hF9;simp only [qe6N,execOp,e5];first|done|(go_simp<;>omega)
      ·have e16:=hF9.ev 0 16;have e17:=hF9.ev 1 17;refine zaU rfl ?_ (hK9 _ hS9);clear hF9;simp only [qe6N,execOp,e16,e17];first|done|(go_simp<;>omega)
      ·have e18:=hF9.ev 2 18;have q0:=zaJ hS9 HX1.out;refine zaU rfl ?_ (hK9 _ hS9);clear hF9;simp only [qe6N,execOp,e18];first|done|(go_simp<;>omega)
      ·have e1:=hF9.od 1 (v:=.slice (some ⟨b2,o2,none⟩) n c2) rfl;refine zaU rfl ?_ (hK9 _ hS9);clear hF9;simp only [qe6N,execOp,e1];first|done|(go_simp<;>omega)
      ·have e5:=hF9.od 5 (v:=.int .i64 (j:Int)) rfl;refine zaU rfl ?_ (hK9 _ hS9);clear hF9;simp only [qe6N,execOp,e5];first|done|(go_simp<;>omega)
      ·have e20:=hF9.ev 4 20;have e21:=hF9.ev 5 21;refine zaU rfl ?_ (hK9 _ hS9);clear hF9;simp only [qe6N,execOp,e20,e21];first|done|(go_simp<;>omega)
      ·have e22:=hF9.ev 6 22;have q0:=zaJ hS9 HX2.out;refine zaU rfl ?_ (hK9 _ hS9);clear hF9;simp only [qe6N,execOp,e22];first|done|(go_simp<;>omega)
     ·intro w9 hS9 K9 hK9;simp only [putA,qe6N];rw [if_pos (zaG rfl)];unfold Oper.wp;go_simp;refine hK9 _ _ ?_;clear hK9 K9;have HB9:=hidI hS9;clear hS9;go_wp2;go_roundg g
      case measure=>omega
      case rel=>exact ⟨j+1,by omega,by go_num,HN3,HB9⟩
    ·have d1:(x==y)=false:=by rw [beq_eq_false_iff_ne];exact hxy
     have HR:=hidI (HS2.out hxy);clear HS1 HS2 hxy;refine zaQ qe6N (fun i=>match i with|0=>.slice (some ⟨b1,o1,none⟩) n c1|1=>.int .i64 (j:Int)|2=>.pointer (some ⟨b1,o1+j,none⟩)|3=>.int .i64 x|4=>.slice (some ⟨b2,o2,none⟩) n c2|5=>.int .i64 (j:Int)|6=>.pointer (some ⟨b2,o2+j,none⟩)|7=>.int .i64 y|_=>undef) (fun y=>Below w.heap.size w y) 8 Tryz.mixed (by kernel_rfl) (by kernel_rfl) HB.out.drew ?_ ?_
     ·intro i9 hi9 a9 w9 hF9 hS9 K9 hK9;have hc9:i9=0∨i9=1∨i9=2∨i9=3∨i9=4∨i9=5∨i9=6∨i9=7:=by omega
      clear hi9;rcases hc9 with rfl|rfl|rfl|rfl|rfl|rfl|rfl|rfl
      ·have e0:=hF9.od 0 (v:=.slice (some ⟨b1,o1,none⟩) n c1) rfl;refine zaU rfl ?_ (hK9 _ hS9);clear hF9;simp only [qe6N,execOp,e0];first|done|(go_simp<;>omega)
      ·have e5:=hF9.od 5 (v:=.int .i64 (j:Int)) rfl;refine zaU rfl ?_ (hK9 _ hS9);clear hF9;simp only [qe6N,execOp,e5];first|done|(go_simp<;>omega)
      ·have e16:=hF9.ev 0 16;have e17:=hF9.ev 1 17;refine zaU rfl ?_ (hK9 _ hS9);clear hF9;simp only [qe6N,execOp,e16,e17];first|done|(go_simp<;>omega)
      ·have e18:=hF9.ev 2 18;have q0:=zaJ hS9 HX1.out;refine zaU rfl ?_ (hK9 _ hS9);clear hF9;simp only [qe6N,execOp,e18];first|done|(go_simp<;>omega)
      ·have e1:=hF9.od 1 (v:=.slice (some ⟨b2,o2,none⟩) n c2) rfl;refine zaU rfl ?_ (hK9 _ hS9);clear hF9;simp only [qe6N,execOp,e1];first|done|(go_simp<;>omega)
      ·have e5:=hF9.od 5 (v:=.int .i64 (j:Int)) rfl;refine zaU rfl ?_ (hK9 _ hS9);clear hF9;simp only [qe6N,execOp,e5];first|done|(go_simp<;>omega)
      ·have e20:=hF9.ev 4 20;have e21:=hF9.ev 5 21;refine zaU rfl ?_ (hK9 _ hS9);clear hF9;simp only [qe6N,execOp,e20,e21];first|done|(go_simp<;>omega)
      ·have e22:=hF9.ev 6 22;have q0:=zaJ hS9 HX2.out;refine zaU rfl ?_ (hK9 _ hS9);clear hF9;simp only [qe6N,execOp,e22];first|done|(go_simp<;>omega)
     ·intro w9 hS9 K9 hK9;simp only [putA,qe6N];rw [if_pos (zaG rfl)];unfold Oper.wp;go_simp;refine hK9 _ _ ?_;clear hK9 K9;have HB9:=hidI hS9;clear hS9;go_wp2;go_ret;rw [HR.out];exact ⟨rfl,HB9.out⟩
 ·have HR:Hid (decide (l1=l2)=false):=hidI (decide_eq_false (fun e=>hlen (by rw [e])));have d1:((l1.length:Int)==(l2.length:Int))=false:=by rw [beq_eq_false_iff_ne];omega
  clear hlen hc1 hc2;go_enter Tryz.func241,Tryz.ntmps241;go_wp2;go_ret;rw [HR.out];exact ⟨rfl,by exact belowT⟩
theorem zfB (a b:Nat):((a:Int)==(b:Int))=(a==b):=by
 rw [Bool.eq_iff_iff,beq_iff_eq,beq_iff_eq];omega
set_option maxRecDepth 100000 in
set_option maxHeartbeats 4000000 in
theorem same2_any (p q:Exp) (a1 a2:Option Addr) (c1 c2:Nat) (W:World) (h1:SeesC W (.slice a1 p.kids.length c1) p.kids.length 1 (intsI p.kids)) (h2:SeesC W (.slice a2 q.kids.length c2) q.kids.length 1 (intsI q.kids)) (hl:p.kids.length≤1099511627776):Calls Tryz.prog 228 #[.agg #[.int .u8 (p.k:Int),.int .u8 (p.of:Int),.int .u8 (p.op:Int),.string p.name,.int .i64 p.num,.slice a1 p.kids.length c1],.agg #[.int .u8 (q.k:Int),.int .u8 (q.of:Int),.int .u8 (q.op:Int),.string q.name,.int .i64 q.num,.slice a2 q.kids.length c2]] W fun e w'=>e=.returned (.bool (sameX p q))∧Below W.heap.size W w':=by
 have hbb:Below W.heap.size W ((W.alloc (.cells #[.int .u8 (p.k:Int),.int .u8 (p.of:Int),.int .u8 (p.op:Int),.string p.name,.int .i64 p.num,.slice a1 p.kids.length c1] 82)).alloc (.cells #[.int .u8 (q.k:Int),.int .u8 (q.of:Int),.int .u8 (q.op:Int),.string q.name,.int .i64 q.num,.slice a2 q.kids.length c2] 82)):=by exact belowT
 have CE:=hidI (equal_any p.kids q.kids _ _ _ (h1.below hbb (Nat.le_refl _)) (h2.below hbb (Nat.le_refl _)) hl);have HB:=hidI hbb;have HM:Hid (sameX p q=(p.k==q.k && p.of==q.of && p.op==q.op && decide (p.name=q.name) && p.num==q.num && decide (p.kids=q.kids))):=hidI rfl;clear h1 h2 hl hbb;cases d0:((p.k:Int)==(q.k:Int)) with
 | false=>
  have HR:Hid (sameX p q=false):=hidI (by
   rw [zfB] at d0;rw [HM.out,d0];simp)
  clear CE HM;go_enter Tryz.func228,Tryz.ntmps228;go_wp2;go_ret;rw [HR.out];exact ⟨rfl,HB.out⟩
 | true=>
  cases d1:((p.of:Int)==(q.of:Int)) with
  | false=>
   have HR:Hid (sameX p q=false):=hidI (by
    rw [zfB] at d1;rw [HM.out,d1];simp)
   clear CE HM;go_enter Tryz.func228,Tryz.ntmps228;go_wp2;go_ret;rw [HR.out];exact ⟨rfl,HB.out⟩
  | true=>
   cases d2:((p.op:Int)==(q.op:Int)) with
   | false=>
    have HR:Hid (sameX p q=false):=hidI (by
     rw [zfB] at d2;rw [HM.out,d2];simp)
    clear CE HM;go_enter Tryz.func228,Tryz.ntmps228;go_wp2;go_ret;rw [HR.out];exact ⟨rfl,HB.out⟩
   | true=>
    cases d3:(p.name.toList==q.name.toList) with
    | false=>
     have HR:Hid (sameX p q=false):=hidI (by
      rw [zbT] at d3;rw [HM.out,d3];simp)
     clear CE HM;go_enter Tryz.func228,Tryz.ntmps228;go_wp2;go_ret;rw [HR.out];exact ⟨rfl,HB.out⟩
    | true=>
     cases d4:(p.num==q.num) with
     | false=>
      have HR:Hid (sameX p q=false):=hidI (by
       rw [HM.out,d4];simp)
      clear CE HM;go_enter Tryz.func228,Tryz.ntmps228;go_wp2;go_ret;rw [HR.out];exact ⟨rfl,HB.out⟩
     | true=>
      have HR:Hid (sameX p q=decide (p.kids=q.kids)):=hidI (by
       rw [zfB] at d0 d1 d2;rw [zbT] at d3;rw [HM.out,d0,d1,d2,d3,d4];simp)
      clear HM;go_enter Tryz.func228,Tryz.ntmps228
      go_wp2_with (go_at_call 241;refine CE.out.mono ?_;intro e w1 h1;obtain ⟨rfl,hb1⟩:=h1;clear CE)
      go_ret;rw [HR.out];exact ⟨rfl,HB.out.trans (hb1.mono HB.out.size)⟩
set_option maxHeartbeats 2000000 in
theorem lit_any {t:Tx} {F:Nat} (hk:t.Ok F) {σ:TS} {X:List Rw} {w:World} (of:Nat) (n:Int) (h:TlS t σ X w):Calls Tryz.prog 225 #[.pointer (some ⟨t.B,0,none⟩),.int .u8 (of:Int),.int .i64 n] w (TPost t X (tLit of n σ)):=by
 have CM:=hidI (fun W=>zbP (.pointer (some ⟨t.B,0,none⟩)) W);by_cases h1:of=1
 ·subst h1;have CX:=hidI (form_any hk (tk:=⟨4,⟨#[]⟩,n,0⟩) h.r h.lim.one (by show (⟨#[]⟩:ByteArray).size≤140737488355328;decide));have HM:Hid (tLit 1 n σ=tForm ⟨4,⟨#[]⟩,n,0⟩ σ):=hidI rfl;rw [HM.out];clear h HM;cases hr:tForm ⟨4,⟨#[]⟩,n,0⟩ σ with
  | none=>
   rw [hr] at CX;clear hr;go_enter Tryz.func225,Tryz.ntmps225
   go_wp2_with (first
    | (go_at_call 158;refine Calls.mono (CM.out _) ?_;intro e w2 h2;obtain ⟨rfl,rfl⟩:=h2;clear CM)
    | (go_at_call 209;refine Calls.mono CX.out ?_;intro e w1 h1;obtain ⟨rfl,hb1⟩:=h1;clear CX))
   exact ⟨rfl,rfl,hb1⟩
  | some σ1=>
   rw [hr] at CX;clear hr;go_enter Tryz.func225,Tryz.ntmps225
   go_wp2_with (first
    | (go_at_call 158;refine Calls.mono (CM.out _) ?_;intro e w2 h2;obtain ⟨rfl,rfl⟩:=h2;clear CM)
    | (go_at_call 209;refine Calls.mono CX.out ?_;intro e w1 h1;obtain ⟨rfl,hb1⟩:=h1;clear CX))
   go_end0;exact ⟨rfl,hb1⟩
 have d1:((of:Int)==1)=false:=by rw [beq_eq_false_iff_ne];omega
 by_cases h2:of=2∧n=1
 ·obtain ⟨rfl,rfl⟩:=h2;have CX:=hidI (zeC hk (s:=⟨#[116,114,117,101]⟩) h (by unfold SmlN;decide));have HM:Hid (tLit 2 1 σ=tWord ⟨#[116,114,117,101]⟩ σ):=hidI rfl;rw [HM.out];clear h HM h1 d1;cases hr:tWord ⟨#[116,114,117,101]⟩ σ with
  | none=>
   rw [hr] at CX;clear hr;go_enter Tryz.func225,Tryz.ntmps225
   go_wp2_with (first
    | (go_at_call 158;refine Calls.mono (CM.out _) ?_;intro e w2 h2;obtain ⟨rfl,rfl⟩:=h2;clear CM)
    | (go_at_call 191;refine Calls.mono CX.out ?_;intro e w1 h1;obtain ⟨rfl,hb1⟩:=h1;clear CX))
   exact ⟨rfl,rfl,hb1⟩
  | some σ1=>
   rw [hr] at CX;clear hr;go_enter Tryz.func225,Tryz.ntmps225
   go_wp2_with (first
    | (go_at_call 158;refine Calls.mono (CM.out _) ?_;intro e w2 h2;obtain ⟨rfl,rfl⟩:=h2;clear CM)
    | (go_at_call 191;refine Calls.mono CX.out ?_;intro e w1 h1;obtain ⟨rfl,hb1⟩:=h1;clear CX))
   go_end0;exact ⟨rfl,hb1⟩
 by_cases h3:of=2∧n=0
 ·obtain ⟨rfl,rfl⟩:=h3;have CX:=hidI (zeC hk (s:=⟨#[102,97,108,115,101]⟩) h (by unfold SmlN;decide));have HM:Hid (tLit 2 0 σ=tWord ⟨#[102,97,108,115,101]⟩ σ):=hidI rfl;rw [HM.out];clear h HM h1 h2 d1;cases hr:tWord ⟨#[102,97,108,115,101]⟩ σ with
  | none=>
   rw [hr] at CX;clear hr;go_enter Tryz.func225,Tryz.ntmps225
   go_wp2_with (first
    | (go_at_call 158;refine Calls.mono (CM.out _) ?_;intro e w2 h2;obtain ⟨rfl,rfl⟩:=h2;clear CM)
    | (go_at_call 191;refine Calls.mono CX.out ?_;intro e w1 h1;obtain ⟨rfl,hb1⟩:=h1;clear CX))
   exact ⟨rfl,rfl,hb1⟩
  | some σ1=>
   rw [hr] at CX;clear hr;go_enter Tryz.func225,Tryz.ntmps225
   go_wp2_with (first
    | (go_at_call 158;refine Calls.mono (CM.out _) ?_;intro e w2 h2;obtain ⟨rfl,rfl⟩:=h2;clear CM)
    | (go_at_call 191;refine Calls.mono CX.out ?_;intro e w1 h1;obtain ⟨rfl,hb1⟩:=h1;clear CX))
   go_end0;exact ⟨rfl,hb1⟩
 have HR:Hid (tLit of n σ=none):=hidI (by unfold tLit;rw [if_neg h1,if_neg h2,if_neg h3]);have CM2:=hidI (fun W=>zbF (.pointer (some ⟨t.B,0,none⟩)) W);have HB:=hidI (h.bad (.refl _));clear CM h;by_cases h4:of=2
 ·subst h4;have d2:(n==1)=false:=by rw [beq_eq_false_iff_ne];exact fun e=>h2 ⟨rfl,e⟩
  have d3:(n==0)=false:=by rw [beq_eq_false_iff_ne];exact fun e=>h3 ⟨rfl,e⟩
  clear h1 h2 h3 d1;go_enter Tryz.func225,Tryz.ntmps225
  go_wp2_with (go_at_call 158;refine Calls.mono (CM2.out _) ?_;intro e w2 h2;obtain ⟨rfl,rfl⟩:=h2;clear CM2)
  refine ⟨rfl,?_⟩;rw [HR.out];exact ⟨rfl,HB.out⟩
 ·have d2:((of:Int)==2)=false:=by rw [beq_eq_false_iff_ne];omega
  clear h1 h2 h3 h4;go_enter Tryz.func225,Tryz.ntmps225
  go_wp2_with (go_at_call 158;refine Calls.mono (CM2.out _) ?_;intro e w2 h2;obtain ⟨rfl,rfl⟩:=h2;clear CM2)
  refine ⟨rfl,?_⟩;rw [HR.out];exact ⟨rfl,HB.out⟩
def oBx (b o:Nat):Rw:=⟨bx b,47,1,1,[.int .u8 (o:Int)]⟩
def kBx (b:Nat) (a:Option Addr) (n c:Nat):Rw:=⟨bx b,25,1,1,[.slice a n c]⟩
def cc0N:Nat→Oper
 | 0=>⟨some 5,.load 234 (.tmp 0),234, "tell.go:112",#[],none⟩
 | 1=>⟨some 6,.load 47 (.tmp 1),47, "tell.go:112",#[],none⟩
 | 2=>⟨some 7,.call ⟨.value (.func 144),#[.tmp 6],#[47]⟩,9, "tell.go:112",#[⟨1,.data⟩],none⟩
 | _=>⟨some 8,.call ⟨.value (.func 191),#[.tmp 5,.tmp 7],#[234,9]⟩,0, "tell.go:112",#[⟨0,.data⟩,⟨2,.data⟩,⟨2,.chain⟩],none⟩
set_option maxRecDepth 100000 in
set_option maxHeartbeats 2000000 in
theorem cclo_any {t:Tx} {F:Nat} (hk:t.Ok F) {ex:Int→TM} {kids:List Int} {a1:Option Addr} {c1 o:Nat} (ho:o≤19) (hkp:∀ i,Kp (ex i)) (hv:SeesC t.w0 (.slice a1 kids.length c1) kids.length 1 (intsI kids)) (hl:kids.length≤1099511627776) {σ:TS} {X:List Rw} {w:World} {tb ob kb f0:Nat} (h:TlS t σ (kBx kb a1 kids.length c1::oBx ob o::tBx tb t.B::X) w) (hf:f0≤σ.f) (HE:∀ i,AtC t 212 (ex i) f0 i) :
  Calls Tryz.prog 240 #[.pointer (some ⟨tb,0,none⟩),.pointer (some ⟨ob,0,none⟩),.pointer (some ⟨kb,0,none⟩)] w (TPost t (kBx kb a1 kids.length c1::oBx ob o::tBx tb t.B::X) (tSeq (tWord (opW o)) (tAll ex kids) σ)):=by
 have HV:=hidI hv;have HE:=hidI HE;have HKP:=hidI hkp;clear hv hkp;go_enter Tryz.func240,Tryz.ntmps240;go_wp2;refine zaQ cc0N (fun i=>match i with|0=>.pointer (some ⟨t.B,0,none⟩)|1=>.int .u8 (o:Int)|2=>.string (opWd o)|_=>undef) (fun y=>TlS t σ (kBx kb a1 kids.length c1::oBx ob o::tBx tb t.B::X) y) 3 Tryz.mixed (by kernel_rfl) (by kernel_rfl) h.drew ?_ ?_
 ·intro i9 hi9 a9 w9 hF9 hS9 K9 hK9;have hc9:i9=0∨i9=1∨i9=2:=by omega
  clear hi9;rcases hc9 with rfl|rfl|rfl
  ·have e0:=hF9.od 0 (v:=.pointer (some ⟨tb,0,none⟩)) rfl;have q0:=zaA (hS9.r.own (r:=tBx tb t.B) (by simp)) (j:=0) rfl;refine zaU rfl ?_ (hK9 _ hS9);clear hF9;simp only [cc0N,execOp,e0];first|done|(go_simp<;>omega)
  ·have e1:=hF9.od 1 (v:=.pointer (some ⟨ob,0,none⟩)) rfl;have q0:=zaA (hS9.r.own (r:=oBx ob o) (by simp)) (j:=0) rfl;refine zaU rfl ?_ (hK9 _ hS9);clear hF9;simp only [cc0N,execOp,e1];first|done|(go_simp<;>omega)
  ·rw [if_pos (zaG rfl)];unfold Oper.wp;have f6:=hF9.nw 1 6;have hr9:(execOp a9.eval (cc0N 2)).run Tryz.prog w9=.ok (.enter 144 #[.int .u8 (o:Int)]) w9:=by
    simp only [cc0N,execOp];go_simp
   rw [hr9,Oper.upon_enter];refine Calls.mono (opWord_any o ho w9) ?_;rintro e9 w8 ⟨rfl,hb⟩;exact hK9 _ (hS9.on hb)
 ·intro w9 hS9 K9 hK9;simp only [putA,cc0N];rw [if_pos (zaG rfl)];unfold Oper.wp;go_simp;have CW:=hidI (zeC hk hS9 (opWd_eq o ho).2);clear hS9;cases hr:tWord (opWd o) σ with
  | none=>
   have HR:Hid (tSeq (tWord (opW o)) (tAll ex kids) σ=none):=hidI (by unfold tSeq;rw [←(opWd_eq o ho).1,hr]);rw [hr] at CW;refine Calls.mono CW.out ?_;rintro e w2 ⟨rfl,hb2⟩;refine ⟨rfl,?_⟩;rw [HR.out];exact ⟨rfl,hb2⟩
  | some σ1=>
   have HR:Hid (tSeq (tWord (opW o)) (tAll ex kids) σ=tAll ex kids σ1):=hidI (by unfold tSeq;rw [←(opWd_eq o ho).1,hr]);have HF1:Hid (f0≤σ1.f):=hidI (Nat.le_trans hf (zdW _ _ _ hr).2.1);rw [hr] at CW;refine Calls.mono CW.out ?_;rintro e w2 ⟨rfl,hb2⟩;refine hK9 _ _ ?_;have HS2:=hidI hb2;clear hK9 K9 CW hr hb2;have q2:=zaA (HS2.out.r.own (r:=kBx kb a1 kids.length c1) (by simp)) (j:=0) rfl;obtain ⟨n,hn⟩:∃ n,kids.length=n:=⟨_,rfl⟩;have HN:=hidI hn;rw [hn] at hl q2 HS2;rw [hn];clear hn;go_wp2
   go_loopg [11] n (fun g s11 wx=>∃ (j:Nat) (σj:TS),j+g=n∧s11=.int .i64 (j:Int)∧Hid (tAll ex kids σ1=tAll ex (kids.drop j) σj)∧Hid (f0≤σj.f)∧Hid (TlS t σj (kBx kb a1 n c1::oBx ob o::tBx tb t.B::X) wx))
   case atStart=>exact ⟨0,σ1,by omega,rfl,hidI rfl,HF1,HS2⟩
   case round=>
    obtain ⟨j,σj,hjg,rfl,HT,HF,HSj⟩:=hrel;clear HS2;cases gk with
    | zero=>
     obtain rfl:n=j:=by omega
     have k1:decide ((n:Int)<(n:Int))=false:=by simp
     have HR2:Hid (tSeq (tWord (opW o)) (tAll ex kids) σ=some σj):=hidI (by
      rw [HR.out,HT.out,List.drop_of_length_le (by have:=HN.out;omega)];rfl)
     go_wp2;go_end0;rw [HR2.out];exact ⟨rfl,by rw [HN.out];exact HSj.out⟩
    | succ g=>
     have k1:(j:Int)<(n:Int):=by omega
     obtain ⟨i,hi⟩:∃ i,kids[j]?=some i:=⟨_,List.getElem?_eq_getElem (by have:=HN.out;omega)⟩;have q0:=zaA (HSj.out.r.own (r:=tBx tb t.B) (by simp)) (j:=0) rfl;obtain ⟨_,a',cap',hav,hcell⟩:=HV.out.below HSj.out.r.below (Nat.le_refl _);rw [HN.out] at hav;cases hav;rcases hcell with h0|⟨b,o7,rfl,hcell⟩
     ·have:=HN.out;omega
     have x0:=hcell j _ (zcA hi);have CP:=hidI (HE.out i t.K σj _ _ HSj.out HF.out);have HD:=hidI (tAll_drop ex kids j i hi σj);clear hi hcell;cases hr:ex i σj with
     | none=>
      have HR2:Hid (tSeq (tWord (opW o)) (tAll ex kids) σ=none):=hidI (by rw [HR.out,HT.out,HD.out,hr]);rw [hr] at CP;clear hr
      go_wp2_with (go_at_call 212;refine Calls.mono (CP.out) ?_;intro e w3 h3;obtain ⟨rfl,hb3⟩:=h3;clear CP)
      refine ⟨rfl,?_⟩;rw [HR2.out];exact ⟨rfl,by rw [HN.out];exact hb3⟩
     | some σ2=>
      have HT2:Hid (tAll ex kids σ1=tAll ex (kids.drop (j+1)) σ2):=hidI (by rw [HT.out,HD.out,hr]);have HF2:Hid (f0≤σ2.f):=hidI (Nat.le_trans HF.out (HKP.out i _ _ hr).2.1);rw [hr] at CP;clear hr
      go_wp2_with (go_at_call 212;refine Calls.mono (CP.out) ?_;intro e w3 h3;obtain ⟨rfl,hb3⟩:=h3;clear CP;have HS3:=hidI hb3;clear hb3)
      go_roundg g
      case measure=>omega
      case rel=>exact ⟨j+1,σ2,by omega,by go_num,HT2,HF2,HS3⟩
def cl1N:Nat→Oper
 | 0=>⟨some 6,.load 234 (.tmp 3),234, "tell.go:110",#[],none⟩
 | 1=>⟨some 7,.load 47 (.tmp 4),47, "tell.go:110",#[],none⟩
 | 2=>⟨some 8,.call ⟨.value (.func 238),#[.tmp 7],#[47]⟩,3, "tell.go:110",#[⟨1,.data⟩],none⟩
 | 3=>⟨some 9,.binOp .gtr 3 (.tmp 8) (.const (.int .i64 0)) 3,4, "tell.go:110",#[⟨2,.data⟩],none⟩
 | 4=>⟨some 10,.move (.tmp 9),4, "tell.go:110",#[⟨3,.data⟩,⟨2,.chain⟩],none⟩
 | 5=>⟨some 11,.load 25 (.tmp 5),25, "tell.go:110",#[⟨4,.guard⟩],some (4,true)⟩
 | 6=>⟨some 12,.call ⟨.builtin .len,#[.tmp 11],#[25]⟩,3, "tell.go:110",#[⟨5,.data⟩,⟨4,.guard⟩],some (4,true)⟩
 | 7=>⟨some 13,.load 47 (.tmp 4),47, "tell.go:110",#[⟨4,.guard⟩],some (4,true)⟩
 | 8=>⟨some 14,.call ⟨.value (.func 238),#[.tmp 13],#[47]⟩,3, "tell.go:110",#[⟨7,.data⟩,⟨4,.chain⟩,⟨4,.guard⟩],some (4,true)⟩
 | 9=>⟨some 15,.binOp .eql 3 (.tmp 12) (.tmp 14) 3,4, "tell.go:110",#[⟨6,.data⟩,⟨8,.data⟩,⟨4,.guard⟩],some (4,true)⟩
 | 10=>⟨some 16,.pick (.tmp 10) (.tmp 15) (.const (.bool false)),4, "tell.go:110",#[⟨4,.data⟩,⟨9,.data⟩],none⟩
 | _=>⟨some 17,.call ⟨.value (.func 158),#[.tmp 6,.tmp 16],#[234,4]⟩,0, "tell.go:110",#[⟨0,.data⟩,⟨10,.data⟩,⟨8,.chain⟩],none⟩
set_option maxRecDepth 100000 in
set_option maxHeartbeats 2000000 in
theorem call_any {t:Tx} {F:Nat} (hk:t.Ok F) {ex:Int→TM} {kids:List Int} {a1:Option Addr} {c1 o:Nat} (hkp:∀ i,Kp (ex i)) (hv:SeesC t.w0 (.slice a1 kids.length c1) kids.length 1 (intsI kids)) (hl:kids.length≤1099511627776) {σ:TS} {X:List Rw} {w:World} (h:TlS t σ X w) (HE:∀ i,AtC t 212 (ex i) (σ.f+1) i) :
  Calls Tryz.prog 226 #[.pointer (some ⟨t.B,0,none⟩),.int .u8 (o:Int),.slice a1 kids.length c1] w (TPost t X (tCall ex o kids σ)):=by
 have hmf:∀ (fn:Go.Fn) (first cap:Array Value) (w:World),(Instr.makeFunc fn first cap).run Tryz.prog w=.ok (.func fn first cap) w:=fun _ _ _ _=>rfl
 obtain ⟨n,hn⟩:∃ n,kids.length=n:=⟨_,rfl⟩;have HA:Hid (TlS t σ (kBx (w.heap.size+2) a1 n c1::oBx (w.heap.size+1) o::tBx w.heap.size t.B::X) (((w.alloc (.cells #[.pointer (some ⟨t.B,0,none⟩)] 234)).alloc (.cells #[.int .u8 (o:Int)] 47)).alloc (.cells #[.slice a1 n c1] 25))):=hidI (by
  have h0:=((h.newbox 234 1 #[.pointer (some ⟨t.B,0,none⟩)] rfl).newbox 47 1 #[.int .u8 (o:Int)] rfl).newbox 25 1 #[.slice a1 n c1] rfl;simp only [World.size_alloc] at h0;exact h0)
 have HR:Hid (tCall ex o kids σ=if 0<arityN o∧kids.length=arityN o then tBrk (tSeq (tWord (opW o)) (tAll ex kids)) σ else none):=hidI rfl;obtain ⟨m,hm⟩:∃ m,arityN o=m:=⟨_,rfl⟩;have CA:=hidI (fun W=>arityK o W);rw [hm] at CA HR;rw [hn] at HR;by_cases hm0:m=0
 ·have HR:Hid (tCall ex o kids σ=none):=hidI (by rw [HR.out,if_neg (by omega)]);have HK1:Hid (¬ ((m:Int)>0)):=hidI (by omega);rw [hn];clear hm0 hm h HE hv hn;go_enter Tryz.func226,Tryz.ntmps226;go_wp2;refine zaQ cl1N (fun i=>match i with|0=>.pointer (some ⟨t.B,0,none⟩)|1=>.int .u8 (o:Int)|2=>.int .i64 (m:Int)|3=>.bool false|4=>.bool false|5=>undef|6=>undef|7=>undef|8=>undef|9=>undef|10=>.bool false|_=>undef) (fun y=>TlS t σ (kBx (w.heap.size+2) a1 n c1::oBx (w.heap.size+1) o::tBx w.heap.size t.B::X) y) 11 Tryz.mixed (by kernel_rfl) (by kernel_rfl) HA.out.drew ?_ ?_
  ·intro i9 hi9 a9 w9 hF9 hS9 K9 hK9;have hc9:i9=0∨i9=1∨i9=2∨i9=3∨i9=4∨i9=5∨i9=6∨i9=7∨i9=8∨i9=9∨i9=10:=by omega
   clear hi9;rcases hc9 with rfl|rfl|rfl|rfl|rfl|rfl|rfl|rfl|rfl|rfl|rfl
   ·have e3:=hF9.od 3 (v:=.pointer (some ⟨w.heap.size,0,none⟩)) rfl;have q0:=zaA (hS9.r.own (r:=tBx w.heap.size t.B) (by simp)) (j:=0) rfl;refine zaU rfl ?_ (hK9 _ hS9);clear hF9;simp only [cl1N,execOp,e3];first|done|(go_simp<;>omega)
   ·have e4:=hF9.od 4 (v:=.pointer (some ⟨w.heap.size+1,0,none⟩)) rfl;have q0:=zaA (hS9.r.own (r:=oBx (w.heap.size+1) o) (by simp)) (j:=0) rfl;refine zaU rfl ?_ (hK9 _ hS9);clear hF9;simp only [cl1N,execOp,e4];first|done|(go_simp<;>omega)
   ·rw [if_pos (zaG rfl)];unfold Oper.wp;have f7:=hF9.nw 1 7;have hr9:(execOp a9.eval (cl1N 2)).run Tryz.prog w9=.ok (.enter 238 #[.int .u8 (o:Int)]) w9:=by
     simp only [cl1N,execOp];go_simp
    rw [hr9,Oper.upon_enter];refine Calls.mono (CA.out w9) ?_;rintro e9 w8 ⟨rfl,hb⟩;exact hK9 _ (hb▸hS9)
   ·have e8:=hF9.ev 2 8;have hk9:=HK1.out;refine zaU rfl ?_ (hK9 _ hS9);clear hF9;simp only [cl1N,execOp,e8];first|done|(go_simp<;>omega)
   ·have e9:=hF9.ev 3 9;refine zaU rfl ?_ (hK9 _ hS9);clear hF9;simp only [cl1N,execOp,e9];first|done|(go_simp<;>omega)
   iterate 5 exact zaK rfl (hF9.nw 4 10) (hK9 _ hS9)
   ·have e10:=hF9.ev 4 10;have e15:=hF9.ev 9 15;refine zaU rfl ?_ (hK9 _ hS9);clear hF9;simp only [cl1N,execOp,e10,e15];first|done|(go_simp<;>omega)
  ·intro w9 hS9 K9 hK9;simp only [putA,cl1N];rw [if_pos (zaG rfl)];unfold Oper.wp;go_simp;refine Calls.mono (zbF _ w9) ?_;rintro e w2 ⟨rfl,rfl⟩;refine ⟨rfl,?_⟩;rw [HR.out];exact ⟨rfl,hS9.bad (.cons _ (.cons _ (.cons _ (.refl _))))⟩
 have HK1:Hid ((m:Int)>0):=hidI (by omega);by_cases hmn:n=m
 ·have HR:Hid (tCall ex o kids σ=tBrk (tSeq (tWord (opW o)) (tAll ex kids)) σ):=hidI (by rw [HR.out,if_pos (by omega)]);have HK2:Hid (((n:Int)==(m:Int))=true):=hidI (by rw [beq_iff_eq];omega);have ho:o≤19:=by
   unfold arityN at hm;split at hm
   ·omega
   ·omega
  have CK:Hid (∀ W,TlS t σ (kBx (w.heap.size+2) a1 n c1::oBx (w.heap.size+1) o::tBx w.heap.size t.B::X) W→Calls Tryz.prog 189 #[.pointer (some ⟨t.B,0,none⟩),.func (.func 240) #[] #[.pointer (some ⟨w.heap.size,0,none⟩),.pointer (some ⟨w.heap.size+1,0,none⟩),.pointer (some ⟨w.heap.size+2,0,none⟩)]] W (TPost t (kBx (w.heap.size+2) a1 n c1::oBx (w.heap.size+1) o::tBx w.heap.size t.B::X) (tBrk (tSeq (tWord (opW o)) (tAll ex kids)) σ))):=hidI (fun W hW=>
   brk2_any hk hW (.inr (.inl ⟨rfl,_,_,_,rfl⟩)) (kp_seq (zdW _) (kp_all hkp _)) (fun σ1 w1 h1 hf1=>by
    have h2:=cclo_any (f0:=σ.f+1) hk ho hkp hv hl (σ:=σ1) (X:=X) (w:=w1) (tb:=w.heap.size) (ob:=w.heap.size+1) (kb:=w.heap.size+2) (by rw [hn];exact h1) (by omega) HE;rw [hn] at h2;exact h2))
  rw [hn];clear hm0 hmn hm h HE hv hn;go_enter Tryz.func226,Tryz.ntmps226;go_wp2;refine zaQ cl1N (fun i=>match i with|0=>.pointer (some ⟨t.B,0,none⟩)|1=>.int .u8 (o:Int)|2=>.int .i64 (m:Int)|3=>.bool true|4=>.bool true|5=>.slice a1 n c1|6=>.int .i64 (n:Int)|7=>.int .u8 (o:Int)|8=>.int .i64 (m:Int)|9=>.bool true|10=>.bool true|_=>undef) (fun y=>TlS t σ (kBx (w.heap.size+2) a1 n c1::oBx (w.heap.size+1) o::tBx w.heap.size t.B::X) y) 11 Tryz.mixed (by kernel_rfl) (by kernel_rfl) HA.out.drew ?_ ?_
  ·intro i9 hi9 a9 w9 hF9 hS9 K9 hK9;have hc9:i9=0∨i9=1∨i9=2∨i9=3∨i9=4∨i9=5∨i9=6∨i9=7∨i9=8∨i9=9∨i9=10:=by omega
   clear hi9;rcases hc9 with rfl|rfl|rfl|rfl|rfl|rfl|rfl|rfl|rfl|rfl|rfl
   ·have e3:=hF9.od 3 (v:=.pointer (some ⟨w.heap.size,0,none⟩)) rfl;have q0:=zaA (hS9.r.own (r:=tBx w.heap.size t.B) (by simp)) (j:=0) rfl;refine zaU rfl ?_ (hK9 _ hS9);clear hF9;simp only [cl1N,execOp,e3];first|done|(go_simp<;>omega)
   ·have e4:=hF9.od 4 (v:=.pointer (some ⟨w.heap.size+1,0,none⟩)) rfl;have q0:=zaA (hS9.r.own (r:=oBx (w.heap.size+1) o) (by simp)) (j:=0) rfl;refine zaU rfl ?_ (hK9 _ hS9);clear hF9;simp only [cl1N,execOp,e4];first|done|(go_simp<;>omega)
   ·rw [if_pos (zaG rfl)];unfold Oper.wp;have f7:=hF9.nw 1 7;have hr9:(execOp a9.eval (cl1N 2)).run Tryz.prog w9=.ok (.enter 238 #[.int .u8 (o:Int)]) w9:=by
     simp only [cl1N,execOp];go_simp
    rw [hr9,Oper.upon_enter];refine Calls.mono (CA.out w9) ?_;rintro e9 w8 ⟨rfl,hb⟩;exact hK9 _ (hb▸hS9)
   ·have e8:=hF9.ev 2 8;have hk9:=HK1.out;refine zaU rfl ?_ (hK9 _ hS9);clear hF9;simp only [cl1N,execOp,e8];first|done|(go_simp<;>omega)
   ·have e9:=hF9.ev 3 9;refine zaU rfl ?_ (hK9 _ hS9);clear hF9;simp only [cl1N,execOp,e9];first|done|(go_simp<;>omega)
   ·have e5:=hF9.od 5 (v:=.pointer (some ⟨w.heap.size+2,0,none⟩)) rfl;refine zbA rfl (hF9.nw 4 10) ?_;have q0:=zaA (hS9.r.own (r:=kBx (w.heap.size+2) a1 n c1) (by simp)) (j:=0) rfl;refine zaP ?_ (hK9 _ hS9);clear hF9;simp only [cl1N,execOp,e5];first|done|(go_simp<;>omega)
   ·have f11:=hF9.nw 5 11;refine zbA rfl (hF9.nw 4 10) ?_;refine zaP ?_ (hK9 _ hS9);clear hF9;simp only [cl1N,execOp];first|done|(go_simp<;>omega)
   ·have e4:=hF9.od 4 (v:=.pointer (some ⟨w.heap.size+1,0,none⟩)) rfl;refine zbA rfl (hF9.nw 4 10) ?_;have q0:=zaA (hS9.r.own (r:=oBx (w.heap.size+1) o) (by simp)) (j:=0) rfl;refine zaP ?_ (hK9 _ hS9);clear hF9;simp only [cl1N,execOp,e4];first|done|(go_simp<;>omega)
   ·refine zbA rfl (hF9.nw 4 10) ?_;unfold Oper.wp;have f13:=hF9.nw 7 13;have hr9:(execOp a9.eval (cl1N 8)).run Tryz.prog w9=.ok (.enter 238 #[.int .u8 (o:Int)]) w9:=by
     simp only [cl1N,execOp];go_simp
    rw [hr9,Oper.upon_enter];refine Calls.mono (CA.out w9) ?_;rintro e9 w8 ⟨rfl,hb⟩;exact hK9 _ (hb▸hS9)
   ·have e12:=hF9.ev 6 12;have e14:=hF9.ev 8 14;refine zbA rfl (hF9.nw 4 10) ?_;have hk9:=HK2.out;refine zaP ?_ (hK9 _ hS9);clear hF9;simp only [cl1N,execOp,e12,e14];first|done|(go_simp<;>omega)
   ·have e10:=hF9.ev 4 10;have e15:=hF9.ev 9 15;refine zaU rfl ?_ (hK9 _ hS9);clear hF9;simp only [cl1N,execOp,e10,e15];first|done|(go_simp<;>omega)
  ·intro w9 hS9 K9 hK9;simp only [putA,cl1N];rw [if_pos (zaG rfl)];unfold Oper.wp;go_simp;refine Calls.mono (zbP _ w9) ?_;rintro e w2 ⟨rfl,rfl⟩;refine hK9 _ _ ?_;clear hK9 K9;have HS9:=hidI hS9;clear hS9;have q0:=zaA (HS9.out.r.own (r:=tBx w.heap.size t.B) (by simp)) (j:=0) rfl;have CX:=hidI (CK.out w9 HS9.out);cases hr:tBrk (tSeq (tWord (opW o)) (tAll ex kids)) σ with
   | none=>
    rw [hr] at CX HR;clear hr
    go_wp2_with (go_at_call 189;refine Calls.mono CX.out ?_;intro e w3 h3;obtain ⟨rfl,hb3⟩:=h3;clear CX)
    refine ⟨rfl,?_⟩;rw [HR.out];exact ⟨rfl,hb3.sub (.cons _ (.cons _ (.cons _ (.refl _))))⟩
   | some σ1=>
    rw [hr] at CX HR;clear hr
    go_wp2_with (go_at_call 189;refine Calls.mono CX.out ?_;intro e w3 h3;obtain ⟨rfl,hb3⟩:=h3;clear CX)
    go_end0;rw [HR.out];exact ⟨rfl,hb3.sub (.cons _ (.cons _ (.cons _ (.refl _))))⟩
 ·have HR:Hid (tCall ex o kids σ=none):=hidI (by rw [HR.out,if_neg (by omega)]);have HK2:Hid (((n:Int)==(m:Int))=false):=hidI (by rw [beq_eq_false_iff_ne];omega);rw [hn];clear hm0 hmn hm h HE hv hn;go_enter Tryz.func226,Tryz.ntmps226;go_wp2;refine zaQ cl1N (fun i=>match i with|0=>.pointer (some ⟨t.B,0,none⟩)|1=>.int .u8 (o:Int)|2=>.int .i64 (m:Int)|3=>.bool true|4=>.bool true|5=>.slice a1 n c1|6=>.int .i64 (n:Int)|7=>.int .u8 (o:Int)|8=>.int .i64 (m:Int)|9=>.bool false|10=>.bool false|_=>undef) (fun y=>TlS t σ (kBx (w.heap.size+2) a1 n c1::oBx (w.heap.size+1) o::tBx w.heap.size t.B::X) y) 11 Tryz.mixed (by kernel_rfl) (by kernel_rfl) HA.out.drew ?_ ?_
  ·intro i9 hi9 a9 w9 hF9 hS9 K9 hK9;have hc9:i9=0∨i9=1∨i9=2∨i9=3∨i9=4∨i9=5∨i9=6∨i9=7∨i9=8∨i9=9∨i9=10:=by omega
   clear hi9;rcases hc9 with rfl|rfl|rfl|rfl|rfl|rfl|rfl|rfl|rfl|rfl|rfl
   ·have e3:=hF9.od 3 (v:=.pointer (some ⟨w.heap.size,0,none⟩)) rfl;have q0:=zaA (hS9.r.own (r:=tBx w.heap.size t.B) (by simp)) (j:=0) rfl;refine zaU rfl ?_ (hK9 _ hS9);clear hF9;simp only [cl1N,execOp,e3];first|done|(go_simp<;>omega)
   ·have e4:=hF9.od 4 (v:=.pointer (some ⟨w.heap.size+1,0,none⟩)) rfl;have q0:=zaA (hS9.r.own (r:=oBx (w.heap.size+1) o) (by simp)) (j:=0) rfl;refine zaU rfl ?_ (hK9 _ hS9);clear hF9;simp only [cl1N,execOp,e4];first|done|(go_simp<;>omega)
   ·rw [if_pos (zaG rfl)];unfold Oper.wp;have f7:=hF9.nw 1 7;have hr9:(execOp a9.eval (cl1N 2)).run Tryz.prog w9=.ok (.enter 238 #[.int .u8 (o:Int)]) w9:=by
     simp only [cl1N,execOp];go_simp
    rw [hr9,Oper.upon_enter];refine Calls.mono (CA.out w9) ?_;rintro e9 w8 ⟨rfl,hb⟩;exact hK9 _ (hb▸hS9)
   ·have e8:=hF9.ev 2 8;have hk9:=HK1.out;refine zaU rfl ?_ (hK9 _ hS9);clear hF9;simp only [cl1N,execOp,e8];first|done|(go_simp<;>omega)
   ·have e9:=hF9.ev 3 9;refine zaU rfl ?_ (hK9 _ hS9);clear hF9;simp only [cl1N,execOp,e9];first|done|(go_simp<;>omega)
   ·have e5:=hF9.od 5 (v:=.pointer (some ⟨w.heap.size+2,0,none⟩)) rfl;refine zbA rfl (hF9.nw 4 10) ?_;have q0:=zaA (hS9.r.own (r:=kBx (w.heap.size+2) a1 n c1) (by simp)) (j:=0) rfl;refine zaP ?_ (hK9 _ hS9);clear hF9;simp only [cl1N,execOp,e5];first|done|(go_simp<;>omega)
   ·have f11:=hF9.nw 5 11;refine zbA rfl (hF9.nw 4 10) ?_;refine zaP ?_ (hK9 _ hS9);clear hF9;simp only [cl1N,execOp];first|done|(go_simp<;>omega)
   ·have e4:=hF9.od 4 (v:=.pointer (some ⟨w.heap.size+1,0,none⟩)) rfl;refine zbA rfl (hF9.nw 4 10) ?_;have q0:=zaA (hS9.r.own (r:=oBx (w.heap.size+1) o) (by simp)) (j:=0) rfl;refine zaP ?_ (hK9 _ hS9);clear hF9;simp only [cl1N,execOp,e4];first|done|(go_simp<;>omega)
   ·refine zbA rfl (hF9.nw 4 10) ?_;unfold Oper.wp;have f13:=hF9.nw 7 13;have hr9:(execOp a9.eval (cl1N 8)).run Tryz.prog w9=.ok (.enter 238 #[.int .u8 (o:Int)]) w9:=by
     simp only [cl1N,execOp];go_simp
    rw [hr9,Oper.upon_enter];refine Calls.mono (CA.out w9) ?_;rintro e9 w8 ⟨rfl,hb⟩;exact hK9 _ (hb▸hS9)
   ·have e12:=hF9.ev 6 12;have e14:=hF9.ev 8 14;refine zbA rfl (hF9.nw 4 10) ?_;have hk9:=HK2.out;refine zaP ?_ (hK9 _ hS9);clear hF9;simp only [cl1N,execOp,e12,e14];first|done|(go_simp<;>omega)
   ·have e10:=hF9.ev 4 10;have e15:=hF9.ev 9 15;refine zaU rfl ?_ (hK9 _ hS9);clear hF9;simp only [cl1N,execOp,e10,e15];first|done|(go_simp<;>omega)
  ·intro w9 hS9 K9 hK9;simp only [putA,cl1N];rw [if_pos (zaG rfl)];unfold Oper.wp;go_simp;refine Calls.mono (zbF _ w9) ?_;rintro e w2 ⟨rfl,rfl⟩;refine ⟨rfl,?_⟩;rw [HR.out];exact ⟨rfl,hS9.bad (.cons _ (.cons _ (.cons _ (.refl _))))⟩
end Go.Proofs.YtfljimpgnlfipaaGreatDoor
