/-
  Part 28 of the proof: TyB, TlA.
-/
import Derived.Test.YtfljimpgnlfipaaGreatDoorTE27
import Derived.Test.YtfljimpgnlfipaaGreatDoorTE06
import Derived.Test.YtfljimpgnlfipaaGreatDoorTE04
namespace Go.Proofs.YtfljimpgnlfipaaGreatDoor
open Go.RowKit Go.Deep Go.MapKept
def cd8N:Nat→Oper
 | 0=>⟨some 18,.move (.tmp 0),121, "checker.go:114",#[],none⟩
 | 1=>⟨some 19,.move (.tmp 2),131, "checker.go:114",#[],none⟩
 | 2=>⟨some 20,.indexAddr 131 (.tmp 19) (.const (.int .i64 0)),0, "checker.go:114",#[⟨1,.data⟩],none⟩
 | 3=>⟨some 21,.load 36 (.tmp 20),36, "checker.go:114",#[⟨2,.data⟩],none⟩
 | 4=>⟨some 22,.binOp .eql 36 (.tmp 21) (.const (.int .u8 2)) 36,4, "checker.go:114",#[⟨3,.data⟩],none⟩
 | 5=>⟨some 23,.move (.tmp 22),4, "checker.go:114",#[⟨4,.data⟩],none⟩
 | 6=>⟨some 24,.move (.tmp 2),131, "checker.go:114",#[⟨5,.guard⟩],some (5,true)⟩
 | 7=>⟨some 25,.indexAddr 131 (.tmp 24) (.const (.int .i64 1)),0, "checker.go:114",#[⟨6,.data⟩,⟨5,.guard⟩],some (5,true)⟩
 | 8=>⟨some 26,.load 36 (.tmp 25),36, "checker.go:114",#[⟨7,.data⟩,⟨5,.guard⟩],some (5,true)⟩
 | 9=>⟨some 27,.move (.tmp 2),131, "checker.go:114",#[⟨5,.guard⟩],some (5,true)⟩
 | 10=>⟨some 28,.indexAddr 131 (.tmp 27) (.const (.int .i64 2)),0, "checker.go:114",#[⟨9,.data⟩,⟨5,.guard⟩],some (5,true)⟩
 | 11=>⟨some 29,.load 36 (.tmp 28),36, "checker.go:114",#[⟨10,.data⟩,⟨5,.guard⟩],some (5,true)⟩
 | 12=>⟨some 30,.binOp .eql 36 (.tmp 26) (.tmp 29) 36,4, "checker.go:114",#[⟨8,.data⟩,⟨11,.data⟩,⟨5,.guard⟩],some (5,true)⟩
 | 13=>⟨some 31,.pick (.tmp 23) (.tmp 30) (.const (.bool false)),4, "checker.go:114",#[⟨5,.data⟩,⟨12,.data⟩],none⟩
 | _=>⟨some 32,.call ⟨.value (.func 71),#[.tmp 18,.tmp 31],#[121,4]⟩,0, "checker.go:114",#[⟨0,.data⟩,⟨13,.data⟩,⟨5,.chain⟩],none⟩
def cd13N:Nat→Oper
 | 0=>⟨some 42,.move (.tmp 0),121, "checker.go:123",#[],none⟩
 | 1=>⟨some 43,.move (.tmp 2),131, "checker.go:123",#[],none⟩
 | 2=>⟨some 44,.indexAddr 131 (.tmp 43) (.const (.int .i64 0)),0, "checker.go:123",#[⟨1,.data⟩],none⟩
 | 3=>⟨some 45,.load 36 (.tmp 44),36, "checker.go:123",#[⟨2,.data⟩],none⟩
 | 4=>⟨some 46,.move (.tmp 2),131, "checker.go:123",#[],none⟩
 | 5=>⟨some 47,.indexAddr 131 (.tmp 46) (.const (.int .i64 1)),0, "checker.go:123",#[⟨4,.data⟩],none⟩
 | 6=>⟨some 48,.load 36 (.tmp 47),36, "checker.go:123",#[⟨5,.data⟩],none⟩
 | 7=>⟨some 49,.binOp .eql 36 (.tmp 45) (.tmp 48) 36,4, "checker.go:123",#[⟨3,.data⟩,⟨6,.data⟩],none⟩
 | _=>⟨some 50,.call ⟨.value (.func 71),#[.tmp 42,.tmp 49],#[121,4]⟩,0, "checker.go:123",#[⟨0,.data⟩,⟨7,.data⟩],none⟩
set_option maxRecDepth 100000 in
set_option maxHeartbeats 2000000 in
theorem called_if {c:Nat} {i:Int} {w:World} (h4:w.cell? ⟨c,4,none⟩=some (.int .i64 i)) (b off n cap:Nat) (hn:3≤n) (k0 k1 k2:Nat) (x0:w.cell? ⟨b,off,none⟩=some (.int .u8 (k0:Int))) (x1:w.cell? ⟨b,off+1,none⟩=some (.int .u8 (k1:Int))) (x2:w.cell? ⟨b,off+2,none⟩=some (.int .u8 (k2:Int))) :
  Calls Tryz.prog 74 #[.pointer (some ⟨c,0,none⟩),.int .u8 18,.slice (some ⟨b,off,none⟩) n cap] w fun e w'=>ROpt i (if k0=2∧k1=k2 then some k1 else none) e∧Below w.heap.size w w':=by
 have H4:=hidI h4;have HX0:=hidI x0;have HX1:=hidI x1;have HX2:=hidI x2;have g0:(0:Int)<(n:Int):=by omega
 have g1:(1:Int)<(n:Int):=by omega
 have g2:(2:Int)<(n:Int):=by omega
 obtain ⟨R,hR⟩:∃ R,(if k0=2∧k1=k2 then some k1 else none)=R:=⟨_,rfl⟩;rw [hR];clear h4 x0 x1 x2;by_cases hk:k0=2
 ·subst hk;have HR:Hid (R=if k1=k2 then some k1 else none):=hidI (by rw [←hR];simp);clear hR;go_enter Tryz.func74,Tryz.ntmps74;go_wp2;refine zaQ cd8N (fun i=>match i with|0=>.pointer (some ⟨c,0,none⟩)|1=>.slice (some ⟨b,off,none⟩) n cap|2=>.pointer (some ⟨b,off,none⟩)|3=>.int .u8 2|4=>.bool true|5=>.bool true|6=>.slice (some ⟨b,off,none⟩) n cap|7=>.pointer (some ⟨b,off+1,none⟩)|8=>.int .u8 (k1:Int)|9=>.slice (some ⟨b,off,none⟩) n cap|10=>.pointer (some ⟨b,off+2,none⟩)|11=>.int .u8 (k2:Int)|12=>.bool ((k1:Int)==(k2:Int))|13=>.bool ((k1:Int)==(k2:Int))|_=>undef) (fun y=>Below w.heap.size w y) 14 Tryz.mixed (by kernel_rfl) (by kernel_rfl) (Below.refl _ _).drew ?_ ?_
  ·intro i9 hi9 a9 w9 hF9 hS9 K9 hK9;have hc9:i9=0∨i9=1∨i9=2∨i9=3∨i9=4∨i9=5∨i9=6∨i9=7∨i9=8∨i9=9∨i9=10∨i9=11∨i9=12∨i9=13:=by omega
   clear hi9;rcases hc9 with rfl|rfl|rfl|rfl|rfl|rfl|rfl|rfl|rfl|rfl|rfl|rfl|rfl|rfl
   ·have e0:=hF9.od 0 (v:=.pointer (some ⟨c,0,none⟩)) rfl;refine zaU rfl ?_ (hK9 _ hS9);clear hF9;simp only [cd8N,execOp,e0];first|done|(go_simp<;>omega)
   ·have e2:=hF9.od 2 (v:=.slice (some ⟨b,off,none⟩) n cap) rfl;refine zaU rfl ?_ (hK9 _ hS9);clear hF9;simp only [cd8N,execOp,e2];first|done|(go_simp<;>omega)
   ·have e19:=hF9.ev 1 19;refine zaU rfl ?_ (hK9 _ hS9);clear hF9;simp only [cd8N,execOp,e19];first|done|(go_simp<;>omega)
   ·have e20:=hF9.ev 2 20;have q0:w9.cell? ⟨b,off,none⟩=some (.int .u8 2):=zaJ hS9 HX0.out;refine zaU rfl ?_ (hK9 _ hS9);clear hF9;simp only [cd8N,execOp,e20];first|done|(go_simp<;>omega)
   ·have e21:=hF9.ev 3 21;refine zaU rfl ?_ (hK9 _ hS9);clear hF9;simp only [cd8N,execOp,e21];first|done|(go_simp<;>omega)
   ·have e22:=hF9.ev 4 22;refine zaU rfl ?_ (hK9 _ hS9);clear hF9;simp only [cd8N,execOp,e22];first|done|(go_simp<;>omega)
   ·have e2:=hF9.od 2 (v:=.slice (some ⟨b,off,none⟩) n cap) rfl;refine zbA rfl (hF9.nw 5 23) ?_;refine zaP ?_ (hK9 _ hS9);clear hF9;simp only [cd8N,execOp,e2];first|done|(go_simp<;>omega)
   ·have e24:=hF9.ev 6 24;refine zbA rfl (hF9.nw 5 23) ?_;refine zaP ?_ (hK9 _ hS9);clear hF9;simp only [cd8N,execOp,e24];first|done|(go_simp<;>omega)
   ·have e25:=hF9.ev 7 25;refine zbA rfl (hF9.nw 5 23) ?_;have q0:=zaJ hS9 HX1.out;refine zaP ?_ (hK9 _ hS9);clear hF9;simp only [cd8N,execOp,e25];first|done|(go_simp<;>omega)
   ·have e2:=hF9.od 2 (v:=.slice (some ⟨b,off,none⟩) n cap) rfl;refine zbA rfl (hF9.nw 5 23) ?_;refine zaP ?_ (hK9 _ hS9);clear hF9;simp only [cd8N,execOp,e2];first|done|(go_simp<;>omega)
   ·have e27:=hF9.ev 9 27;refine zbA rfl (hF9.nw 5 23) ?_;refine zaP ?_ (hK9 _ hS9);clear hF9;simp only [cd8N,execOp,e27];first|done|(go_simp<;>omega)
   ·have e28:=hF9.ev 10 28;refine zbA rfl (hF9.nw 5 23) ?_;have q0:=zaJ hS9 HX2.out;refine zaP ?_ (hK9 _ hS9);clear hF9;simp only [cd8N,execOp,e28];first|done|(go_simp<;>omega)
   ·have e26:=hF9.ev 8 26;have e29:=hF9.ev 11 29;refine zbA rfl (hF9.nw 5 23) ?_;refine zaP ?_ (hK9 _ hS9);clear hF9;simp only [cd8N,execOp,e26,e29];first|done|(go_simp<;>omega)
   ·have e23:=hF9.ev 5 23;have e30:=hF9.ev 12 30;refine zaU rfl ?_ (hK9 _ hS9);clear hF9;simp only [cd8N,execOp,e23,e30];first|done|(go_simp<;>omega)
  ·intro w9 hS9 K9 hK9;simp only [putA,cd8N];rw [if_pos (zaG rfl)];unfold Oper.wp;go_simp;cases hq:((k1:Int)==(k2:Int)) with
   | true=>
    refine Calls.mono (zcS _ w9) ?_;rintro e9 w8 ⟨rfl,rfl⟩;refine hK9 _ _ ?_;have HB9:=hidI hS9;have q1:=zaJ hS9 HX1.out;clear hK9 K9 hS9;go_wp2;go_ret;exact ⟨by rw [HR.out,if_pos (by rw [natU] at hq;exact of_decide_eq_true hq)];rfl,HB9.out⟩
   | false=>
    refine Calls.mono (zbV (zaJ hS9 H4.out)) ?_;rintro e9 w8 ⟨rfl,rfl⟩;exact ⟨rfl,by rw [HR.out,if_neg (by rw [natU] at hq;exact of_decide_eq_false hq)];rfl,hS9⟩
 ·have HR:Hid (R=none):=hidI (by rw [←hR,if_neg (by omega)]);have e2:((k0:Int)==2)=false:=by rw [beq_eq_false_iff_ne];omega
  clear hR hk;go_enter Tryz.func74,Tryz.ntmps74;go_wp2;refine zaQ cd8N (fun i=>match i with|0=>.pointer (some ⟨c,0,none⟩)|1=>.slice (some ⟨b,off,none⟩) n cap|2=>.pointer (some ⟨b,off,none⟩)|3=>.int .u8 (k0:Int)|4=>.bool false|5=>.bool false|6=>undef|7=>undef|8=>undef|9=>undef|10=>undef|11=>undef|12=>undef|13=>.bool false|_=>undef) (fun y=>Below w.heap.size w y) 14 Tryz.mixed (by kernel_rfl) (by kernel_rfl) (Below.refl _ _).drew ?_ ?_
  ·intro i9 hi9 a9 w9 hF9 hS9 K9 hK9;have hc9:i9=0∨i9=1∨i9=2∨i9=3∨i9=4∨i9=5∨i9=6∨i9=7∨i9=8∨i9=9∨i9=10∨i9=11∨i9=12∨i9=13:=by omega
   clear hi9;rcases hc9 with rfl|rfl|rfl|rfl|rfl|rfl|rfl|rfl|rfl|rfl|rfl|rfl|rfl|rfl
   ·have e0:=hF9.od 0 (v:=.pointer (some ⟨c,0,none⟩)) rfl;refine zaU rfl ?_ (hK9 _ hS9);clear hF9;simp only [cd8N,execOp,e0];first|done|(go_simp<;>omega)
   ·have e2:=hF9.od 2 (v:=.slice (some ⟨b,off,none⟩) n cap) rfl;refine zaU rfl ?_ (hK9 _ hS9);clear hF9;simp only [cd8N,execOp,e2];first|done|(go_simp<;>omega)
   ·have e19:=hF9.ev 1 19;refine zaU rfl ?_ (hK9 _ hS9);clear hF9;simp only [cd8N,execOp,e19];first|done|(go_simp<;>omega)
   ·have e20:=hF9.ev 2 20;have q0:=zaJ hS9 HX0.out;refine zaU rfl ?_ (hK9 _ hS9);clear hF9;simp only [cd8N,execOp,e20];first|done|(go_simp<;>omega)
   ·have e21:=hF9.ev 3 21;refine zaU rfl ?_ (hK9 _ hS9);clear hF9;simp only [cd8N,execOp,e21];first|done|(go_simp<;>omega)
   ·have e22:=hF9.ev 4 22;refine zaU rfl ?_ (hK9 _ hS9);clear hF9;simp only [cd8N,execOp,e22];first|done|(go_simp<;>omega)
   iterate 7 exact zaK rfl (hF9.nw 5 23) (hK9 _ hS9)
   ·have e23:=hF9.ev 5 23;have e30:=hF9.ev 12 30;refine zaU rfl ?_ (hK9 _ hS9);clear hF9;simp only [cd8N,execOp,e23,e30];first|done|(go_simp<;>omega)
  ·intro w9 hS9 K9 hK9;simp only [putA,cd8N];rw [if_pos (zaG rfl)];unfold Oper.wp;go_simp;refine Calls.mono (zbV (zaJ hS9 H4.out)) ?_;rintro e9 w8 ⟨rfl,rfl⟩;exact ⟨rfl,by rw [HR.out];rfl,hS9⟩
set_option maxRecDepth 100000 in
set_option maxHeartbeats 2000000 in
theorem called_eq {c:Nat} {i:Int} {w:World} (h4:w.cell? ⟨c,4,none⟩=some (.int .i64 i)) (b off n cap:Nat) (hn:2≤n) (k0 k1:Nat) (x0:w.cell? ⟨b,off,none⟩=some (.int .u8 (k0:Int))) (x1:w.cell? ⟨b,off+1,none⟩=some (.int .u8 (k1:Int))) :
  Calls Tryz.prog 74 #[.pointer (some ⟨c,0,none⟩),.int .u8 13,.slice (some ⟨b,off,none⟩) n cap] w fun e w'=>ROpt i (if k0=k1 then some 2 else none) e∧Below w.heap.size w w':=by
 have H4:=hidI h4;have HX0:=hidI x0;have HX1:=hidI x1;have g0:(0:Int)<(n:Int):=by omega
 have g1:(1:Int)<(n:Int):=by omega
 obtain ⟨R,hR⟩:∃ R,(if k0=k1 then some 2 else none)=R:=⟨_,rfl⟩;rw [hR];have HR:=hidI hR.symm;clear h4 x0 x1 hR;go_enter Tryz.func74,Tryz.ntmps74;go_wp2;refine zaQ cd13N (fun i=>match i with|0=>.pointer (some ⟨c,0,none⟩)|1=>.slice (some ⟨b,off,none⟩) n cap|2=>.pointer (some ⟨b,off,none⟩)|3=>.int .u8 (k0:Int)|4=>.slice (some ⟨b,off,none⟩) n cap|5=>.pointer (some ⟨b,off+1,none⟩)|6=>.int .u8 (k1:Int)|7=>.bool ((k0:Int)==(k1:Int))|_=>undef) (fun y=>Below w.heap.size w y) 8 Tryz.mixed (by kernel_rfl) (by kernel_rfl) (Below.refl _ _).drew ?_ ?_
 ·intro i9 hi9 a9 w9 hF9 hS9 K9 hK9;have hc9:i9=0∨i9=1∨i9=2∨i9=3∨i9=4∨i9=5∨i9=6∨i9=7:=by omega
  clear hi9;rcases hc9 with rfl|rfl|rfl|rfl|rfl|rfl|rfl|rfl
  ·have e0:=hF9.od 0 (v:=.pointer (some ⟨c,0,none⟩)) rfl;refine zaU rfl ?_ (hK9 _ hS9);clear hF9;simp only [cd13N,execOp,e0];first|done|(go_simp<;>omega)
  ·have e2:=hF9.od 2 (v:=.slice (some ⟨b,off,none⟩) n cap) rfl;refine zaU rfl ?_ (hK9 _ hS9);clear hF9;simp only [cd13N,execOp,e2];first|done|(go_simp<;>omega)
  ·have e43:=hF9.ev 1 43;refine zaU rfl ?_ (hK9 _ hS9);clear hF9;simp only [cd13N,execOp,e43];first|done|(go_simp<;>omega)
  ·have e44:=hF9.ev 2 44;have q0:=zaJ hS9 HX0.out;refine zaU rfl ?_ (hK9 _ hS9);clear hF9;simp only [cd13N,execOp,e44];first|done|(go_simp<;>omega)
  ·have e2:=hF9.od 2 (v:=.slice (some ⟨b,off,none⟩) n cap) rfl;refine zaU rfl ?_ (hK9 _ hS9);clear hF9;simp only [cd13N,execOp,e2];first|done|(go_simp<;>omega)
  ·have e46:=hF9.ev 4 46;refine zaU rfl ?_ (hK9 _ hS9);clear hF9;simp only [cd13N,execOp,e46];first|done|(go_simp<;>omega)
  ·have e47:=hF9.ev 5 47;have q0:=zaJ hS9 HX1.out;refine zaU rfl ?_ (hK9 _ hS9);clear hF9;simp only [cd13N,execOp,e47];first|done|(go_simp<;>omega)
  ·have e45:=hF9.ev 3 45;have e48:=hF9.ev 6 48;refine zaU rfl ?_ (hK9 _ hS9);clear hF9;simp only [cd13N,execOp,e45,e48];first|done|(go_simp<;>omega)
 ·intro w9 hS9 K9 hK9;simp only [putA,cd13N];rw [if_pos (zaG rfl)];unfold Oper.wp;go_simp;cases hq:((k0:Int)==(k1:Int)) with
  | true=>
   refine Calls.mono (zcS _ w9) ?_;rintro e9 w8 ⟨rfl,rfl⟩;refine hK9 _ _ ?_;have HB9:=hidI hS9;skip;clear hK9 K9 hS9;go_wp2;go_ret;exact ⟨by rw [HR.out,if_pos (by rw [natU] at hq;exact of_decide_eq_true hq)];rfl,HB9.out⟩
  | false=>
   refine Calls.mono (zbV (zaJ hS9 H4.out)) ?_;rintro e9 w8 ⟨rfl,rfl⟩;exact ⟨rfl,by rw [HR.out,if_neg (by rw [natU] at hq;exact of_decide_eq_false hq)];rfl,hS9⟩
set_option maxRecDepth 100000 in
set_option maxHeartbeats 2000000 in
theorem called_lt {c:Nat} {i:Int} {w:World} (h4:w.cell? ⟨c,4,none⟩=some (.int .i64 i)) (b off n cap:Nat) (ks:List Nat) (hks:ks.length=n) (hn:2≤n) (hl:n≤1000) (hv:SeesC w (.slice (some ⟨b,off,none⟩) n cap) ks.length 1 (ks.map fun (k:Nat)=>Value.int .u8 (k:Int))) (k0 k1:Nat) (x0:w.cell? ⟨b,off,none⟩=some (.int .u8 (k0:Int))) (x1:w.cell? ⟨b,off+1,none⟩=some (.int .u8 (k1:Int))) :
  Calls Tryz.prog 74 #[.pointer (some ⟨c,0,none⟩),.int .u8 14,.slice (some ⟨b,off,none⟩) n cap] w fun e w'=>ROpt i (if allK 1 ks=true∧k0=k1 then some 2 else none) e∧Below w.heap.size w w':=by
 have CE:=hidI (ceach_any h4 _ ks hv (by omega) 1);have H4:=hidI h4;have HX0:=hidI x0;have HX1:=hidI x1;have g0:(0:Int)<(n:Int):=by omega
 have g1:(1:Int)<(n:Int):=by omega
 obtain ⟨R,hR⟩:∃ R,(if allK 1 ks=true∧k0=k1 then some 2 else none)=R:=⟨_,rfl⟩;rw [hR];clear h4 x0 x1 hv hks;cases ha:allK 1 ks with
 | false=>
  rw [ha] at CE hR;have HR:Hid (R=none):=hidI (by rw [←hR];simp);clear hR ha;go_enter Tryz.func74,Tryz.ntmps74
  go_wp2_with (go_at_call 113;refine Calls.mono (CE.out) ?_;intro e w1 h1;obtain ⟨rfl,rfl⟩:=h1;clear CE)
  exact ⟨rfl,by rw [HR.out];rfl,Below.refl _ _⟩
 | true=>
  rw [ha] at CE hR;have HR:Hid (R=if k0=k1 then some 2 else none):=hidI (by rw [←hR];simp);clear hR ha;go_enter Tryz.func74,Tryz.ntmps74
  go_wp2_with (go_at_call 113;refine Calls.mono (CE.out) ?_;intro e w1 h1;obtain ⟨rfl,rfl⟩:=h1;clear CE)
  refine zaQ cd13N (fun i=>match i with|0=>.pointer (some ⟨c,0,none⟩)|1=>.slice (some ⟨b,off,none⟩) n cap|2=>.pointer (some ⟨b,off,none⟩)|3=>.int .u8 (k0:Int)|4=>.slice (some ⟨b,off,none⟩) n cap|5=>.pointer (some ⟨b,off+1,none⟩)|6=>.int .u8 (k1:Int)|7=>.bool ((k0:Int)==(k1:Int))|_=>undef) (fun y=>Below w.heap.size w y) 8 Tryz.mixed (by kernel_rfl) (by kernel_rfl) (Below.refl _ _).drew ?_ ?_
  ·intro i9 hi9 a9 w9 hF9 hS9 K9 hK9;have hc9:i9=0∨i9=1∨i9=2∨i9=3∨i9=4∨i9=5∨i9=6∨i9=7:=by omega
   clear hi9;rcases hc9 with rfl|rfl|rfl|rfl|rfl|rfl|rfl|rfl
   ·have e0:=hF9.od 0 (v:=.pointer (some ⟨c,0,none⟩)) rfl;refine zaU rfl ?_ (hK9 _ hS9);clear hF9;simp only [cd13N,execOp,e0];first|done|(go_simp<;>omega)
   ·have e2:=hF9.od 2 (v:=.slice (some ⟨b,off,none⟩) n cap) rfl;refine zaU rfl ?_ (hK9 _ hS9);clear hF9;simp only [cd13N,execOp,e2];first|done|(go_simp<;>omega)
   ·have e43:=hF9.ev 1 43;refine zaU rfl ?_ (hK9 _ hS9);clear hF9;simp only [cd13N,execOp,e43];first|done|(go_simp<;>omega)
   ·have e44:=hF9.ev 2 44;have q0:=zaJ hS9 HX0.out;refine zaU rfl ?_ (hK9 _ hS9);clear hF9;simp only [cd13N,execOp,e44];first|done|(go_simp<;>omega)
   ·have e2:=hF9.od 2 (v:=.slice (some ⟨b,off,none⟩) n cap) rfl;refine zaU rfl ?_ (hK9 _ hS9);clear hF9;simp only [cd13N,execOp,e2];first|done|(go_simp<;>omega)
   ·have e46:=hF9.ev 4 46;refine zaU rfl ?_ (hK9 _ hS9);clear hF9;simp only [cd13N,execOp,e46];first|done|(go_simp<;>omega)
   ·have e47:=hF9.ev 5 47;have q0:=zaJ hS9 HX1.out;refine zaU rfl ?_ (hK9 _ hS9);clear hF9;simp only [cd13N,execOp,e47];first|done|(go_simp<;>omega)
   ·have e45:=hF9.ev 3 45;have e48:=hF9.ev 6 48;refine zaU rfl ?_ (hK9 _ hS9);clear hF9;simp only [cd13N,execOp,e45,e48];first|done|(go_simp<;>omega)
  ·intro w9 hS9 K9 hK9;simp only [putA,cd13N];rw [if_pos (zaG rfl)];unfold Oper.wp;go_simp;cases hq:((k0:Int)==(k1:Int)) with
   | true=>
    refine Calls.mono (zcS _ w9) ?_;rintro e9 w8 ⟨rfl,rfl⟩;refine hK9 _ _ ?_;have HB9:=hidI hS9;skip;clear hK9 K9 hS9;go_wp2;go_ret;exact ⟨by rw [HR.out,if_pos (by rw [natU] at hq;exact of_decide_eq_true hq)];rfl,HB9.out⟩
   | false=>
    refine Calls.mono (zbV (zaJ hS9 H4.out)) ?_;rintro e9 w8 ⟨rfl,rfl⟩;exact ⟨rfl,by rw [HR.out,if_neg (by rw [natU] at hq;exact of_decide_eq_false hq)];rfl,hS9⟩
theorem called_15 {c:Nat} {i:Int} {w:World} (h4:w.cell? ⟨c,4,none⟩=some (.int .i64 i)) (v:Value) (ks:List Nat) (hl:ks.length≤1000) (hv:SeesC w v ks.length 1 (ks.map fun (k:Nat)=>Value.int .u8 (k:Int))) :
  Calls Tryz.prog 74 #[.pointer (some ⟨c,0,none⟩),.int .u8 15,v] w fun e w'=>ROpt i (if allK 2 ks=true then some 2 else none) e∧Below w.heap.size w w':=by
 have CE:=hidI (ceach_any h4 _ ks hv hl 2);clear h4 hv hl;cases ha:allK 2 ks with
 | false=>
  rw [ha] at CE;clear ha;go_enter Tryz.func74,Tryz.ntmps74
  go_wp2_with (go_at_call 113;refine Calls.mono (CE.out) ?_;intro e w1 h1;obtain ⟨rfl,rfl⟩:=h1;clear CE)
  exact ⟨rfl,rfl,Below.refl _ _⟩
 | true=>
  rw [ha] at CE;clear ha;go_enter Tryz.func74,Tryz.ntmps74
  go_wp2_with (go_at_call 113;refine Calls.mono (CE.out) ?_;intro e w1 h1;obtain ⟨rfl,rfl⟩:=h1;clear CE)
  go_ret;exact ⟨rfl,Below.refl _ _⟩
theorem called_16 {c:Nat} {i:Int} {w:World} (h4:w.cell? ⟨c,4,none⟩=some (.int .i64 i)) (v:Value) (ks:List Nat) (hl:ks.length≤1000) (hv:SeesC w v ks.length 1 (ks.map fun (k:Nat)=>Value.int .u8 (k:Int))) :
  Calls Tryz.prog 74 #[.pointer (some ⟨c,0,none⟩),.int .u8 16,v] w fun e w'=>ROpt i (if allK 2 ks=true then some 2 else none) e∧Below w.heap.size w w':=by
 have CE:=hidI (ceach_any h4 _ ks hv hl 2);clear h4 hv hl;cases ha:allK 2 ks with
 | false=>
  rw [ha] at CE;clear ha;go_enter Tryz.func74,Tryz.ntmps74
  go_wp2_with (go_at_call 113;refine Calls.mono (CE.out) ?_;intro e w1 h1;obtain ⟨rfl,rfl⟩:=h1;clear CE)
  exact ⟨rfl,rfl,Below.refl _ _⟩
 | true=>
  rw [ha] at CE;clear ha;go_enter Tryz.func74,Tryz.ntmps74
  go_wp2_with (go_at_call 113;refine Calls.mono (CE.out) ?_;intro e w1 h1;obtain ⟨rfl,rfl⟩:=h1;clear CE)
  go_ret;exact ⟨rfl,Below.refl _ _⟩
theorem called_17 {c:Nat} {i:Int} {w:World} (h4:w.cell? ⟨c,4,none⟩=some (.int .i64 i)) (v:Value) (ks:List Nat) (hl:ks.length≤1000) (hv:SeesC w v ks.length 1 (ks.map fun (k:Nat)=>Value.int .u8 (k:Int))) :
  Calls Tryz.prog 74 #[.pointer (some ⟨c,0,none⟩),.int .u8 17,v] w fun e w'=>ROpt i (if allK 2 ks=true then some 2 else none) e∧Below w.heap.size w w':=by
 have CE:=hidI (ceach_any h4 _ ks hv hl 2);clear h4 hv hl;cases ha:allK 2 ks with
 | false=>
  rw [ha] at CE;clear ha;go_enter Tryz.func74,Tryz.ntmps74
  go_wp2_with (go_at_call 113;refine Calls.mono (CE.out) ?_;intro e w1 h1;obtain ⟨rfl,rfl⟩:=h1;clear CE)
  exact ⟨rfl,rfl,Below.refl _ _⟩
 | true=>
  rw [ha] at CE;clear ha;go_enter Tryz.func74,Tryz.ntmps74
  go_wp2_with (go_at_call 113;refine Calls.mono (CE.out) ?_;intro e w1 h1;obtain ⟨rfl,rfl⟩:=h1;clear CE)
  go_ret;exact ⟨rfl,Below.refl _ _⟩
theorem called_x {c:Nat} {i:Int} {w:World} (h4:w.cell? ⟨c,4,none⟩=some (.int .i64 i)) (o:Nat) (ho:o≠18∧o≠15∧o≠16∧o≠17∧o≠14∧o≠13) (v:Value) (ks:List Nat) (hl:ks.length≤1000) (hv:SeesC w v ks.length 1 (ks.map fun (k:Nat)=>Value.int .u8 (k:Int))) :
  Calls Tryz.prog 74 #[.pointer (some ⟨c,0,none⟩),.int .u8 (o:Int),v] w fun e w'=>ROpt i (if allK 1 ks=true then some 1 else none) e∧Below w.heap.size w w':=by
 have d18:((o:Int)==18)=false:=by rw [beq_eq_false_iff_ne];omega
 have d15:((o:Int)==15)=false:=by rw [beq_eq_false_iff_ne];omega
 have d16:((o:Int)==16)=false:=by rw [beq_eq_false_iff_ne];omega
 have d17:((o:Int)==17)=false:=by rw [beq_eq_false_iff_ne];omega
 have d14:((o:Int)==14)=false:=by rw [beq_eq_false_iff_ne];omega
 have d13:((o:Int)==13)=false:=by rw [beq_eq_false_iff_ne];omega
 clear ho;have CE:=hidI (ceach_any h4 _ ks hv hl 1);clear h4 hv hl;cases ha:allK 1 ks with
 | false=>
  rw [ha] at CE;clear ha;go_enter Tryz.func74,Tryz.ntmps74
  go_wp2_with (go_at_call 113;refine Calls.mono (CE.out) ?_;intro e w1 h1;obtain ⟨rfl,rfl⟩:=h1;clear CE)
  exact ⟨rfl,rfl,Below.refl _ _⟩
 | true=>
  rw [ha] at CE;clear ha;go_enter Tryz.func74,Tryz.ntmps74
  go_wp2_with (go_at_call 113;refine Calls.mono (CE.out) ?_;intro e w1 h1;obtain ⟨rfl,rfl⟩:=h1;clear CE)
  go_ret;exact ⟨rfl,Below.refl _ _⟩
theorem sees_at {w:World} {v:Value} {ks:List Nat} (h:SeesC w v ks.length 1 (ks.map fun (k:Nat)=>Value.int .u8 (k:Int))) (h0:0<ks.length):∃ b off cap,v=.slice (some ⟨b,off,none⟩) ks.length cap∧∀ j,j<ks.length→w.cell? ⟨b,off+j,none⟩=some (.int .u8 ((ks.getD j 0:Nat):Int)):=by
 obtain ⟨_,a,cap,rfl,h⟩:=h;rcases h with h|⟨b,off,rfl,h⟩
 ·omega
 ·refine ⟨b,off,cap,rfl,fun j hj=>h j _ ?_⟩;rw [List.getElem?_map,List.getElem?_eq_getElem hj,List.getD_eq_getElem?_getD,List.getElem?_eq_getElem hj];rfl
theorem ccalled_any {c:Nat} {i:Int} {w:World} (h4:w.cell? ⟨c,4,none⟩=some (.int .i64 i)) (o:Nat) (v:Value) (ks:List Nat) (hv:SeesC w v ks.length 1 (ks.map fun (k:Nat)=>Value.int .u8 (k:Int))) (hl:ks.length≤1000) (h3:o=18→3≤ks.length) (h2:o=13∨o=14→2≤ks.length) :
  Calls Tryz.prog 74 #[.pointer (some ⟨c,0,none⟩),.int .u8 (o:Int),v] w fun e w'=>ROpt i (calledK o ks) e∧Below w.heap.size w w':=by
 have hm:o=18∨o=15∨o=16∨o=17∨o=14∨o=13∨(o≠18∧o≠15∧o≠16∧o≠17∧o≠14∧o≠13):=by omega
 rcases hm with rfl|rfl|rfl|rfl|rfl|rfl|ho
 ·have:=h3 rfl;obtain ⟨b,off,cap,rfl,hc⟩:=sees_at hv (by omega);exact called_if h4 b off _ cap this _ _ _ (hc 0 (by omega)) (hc 1 (by omega)) (hc 2 (by omega))
 ·exact called_15 h4 v ks hl hv
 ·exact called_16 h4 v ks hl hv
 ·exact called_17 h4 v ks hl hv
 ·have:=h2 (.inr rfl);obtain ⟨b,off,cap,rfl,hc⟩:=sees_at hv (by omega);exact called_lt h4 b off _ cap ks rfl this hl hv _ _ (hc 0 (by omega)) (hc 1 (by omega))
 ·have:=h2 (.inl rfl);obtain ⟨b,off,cap,rfl,hc⟩:=sees_at hv (by omega);exact called_eq h4 b off _ cap this _ _ (hc 0 (by omega)) (hc 1 (by omega))
 ·rw [show calledK o ks=if allK 1 ks=true then some 1 else none by unfold calledK;rw [if_neg ho.1,if_neg (by omega),if_neg (by omega),if_neg (by omega)]];exact called_x h4 o ho v ks hl hv
theorem zbP (a:Value) (w:World):Calls Tryz.prog 158 #[a,.bool true] w fun e w'=>e=.returned (.tuple #[])∧w=w':=by
 go_enter Tryz.func158,Tryz.ntmps158;go_wp2;go_end0;exact ⟨rfl,rfl⟩
theorem zbF (a:Value) (w:World):Calls Tryz.prog 158 #[a,.bool false] w fun e w'=>e=.panicked flt3∧w=w':=by
 go_enter Tryz.func158,Tryz.ntmps158;go_wp2;exact ⟨rfl,rfl,rfl⟩
def tkBox (b:Nat) (tk:Tok):Rw:=⟨bx b,92,4,1,[.int .u8 tk.k,.string tk.s,.int .i64 tk.n,.int .i64 tk.p]⟩
def fo3N:Nat→Oper
 | 0=>⟨some 18,.move (.tmp 0),234, "tell.go:27",#[],none⟩
 | 1=>⟨some 19,.nilCheck (.tmp 18),0, "tell.go:27",#[⟨0,.data⟩],none⟩
 | 2=>⟨some 20,.fieldAddr 184 (.tmp 19) 5,0, "tell.go:27",#[⟨1,.data⟩],none⟩
 | 3=>⟨some 21,.load 113 (.tmp 20),113, "tell.go:27",#[⟨2,.data⟩],none⟩
 | 4=>⟨some 22,.load 92 (.tmp 3),92, "tell.go:27",#[],none⟩
 | _=>⟨some 23,.call ⟨.value (.tmp 21),#[.tmp 22],#[92]⟩,0, "tell.go:27",#[⟨3,.data⟩,⟨4,.data⟩],none⟩
set_option maxRecDepth 100000 in
set_option maxHeartbeats 1000000 in
theorem form_any {t:Tx} {F:Nat} (hk:t.Ok F) {σ:TS} {X:List Rw} {w:World} {tk:Tok} (h:TlR t σ X w) (hl:TsOk1 σ) (hs:SmlN tk.s):Calls Tryz.prog 209 #[.pointer (some ⟨t.B,0,none⟩),.agg #[.int .u8 tk.k,.string tk.s,.int .i64 tk.n,.int .i64 tk.p]] w (TPost t X (tForm tk σ)):=by
 obtain rfl:=hk.isF;obtain ⟨hput,hfn⟩:=hk.fn;have HFN:=hidI hfn;have HPUT:=hidI hput;have HSM:=hidI hs;have HA:Hid (TlR t σ (tkBox w.heap.size tk::X) (w.alloc (.cells #[.int .u8 tk.k,.string tk.s,.int .i64 tk.n,.int .i64 tk.p] 92))):=hidI (h.newbox 92 4 #[.int .u8 tk.k,.string tk.s,.int .i64 tk.n,.int .i64 tk.p] rfl);have b6:=HA.out.cell (j:=6) (u:=.int .i64 (σ.f:Int)) rfl;have z6:=HA.out.free 6;have hBl:=h.lt;obtain ⟨l1,l2,l3⟩:=hl;clear hs hfn hput;have HR:Hid (tForm tk σ=if σ.f+1≤400 then some { σ with f:=σ.f+1,ts:=σ.ts++[tk] } else none):=hidI rfl;by_cases hf:σ.f+1≤400
 ·have HR2:Hid (tForm tk σ=some { σ with f:=σ.f+1,ts:=σ.ts++[tk] }):=hidI (by rw [HR.out,if_pos hf]);have HLIM:Hid (TsOk { σ with f:=σ.f+1,ts:=σ.ts++[tk] }):=hidI ⟨hf,by simp only [List.length_append,List.length_cons,List.length_nil];omega,l3⟩;have HS1:Hid (TlR t { σ with f:=σ.f+1 } (tkBox w.heap.size tk::X) ((w.setCell ⟨t.B,6,none⟩ (.int .i64 ((σ.f:Int)+1))).alloc (.cells #[.int .u8 tk.k,.string tk.s,.int .i64 tk.n,.int .i64 tk.p] 92))):=hidI (by
   have h0:=(h.setc 6 (.int .i64 ((σ.f:Int)+1)) { σ with f:=σ.f+1 } rfl (by simp [tlBox])).newbox 92 4 #[.int .u8 tk.k,.string tk.s,.int .i64 tk.n,.int .i64 tk.p] rfl;rwa [World.size_setCell] at h0)
  have c6:=HS1.out.cell (j:=6) (u:=.int .i64 ((σ.f:Int)+1)) rfl;have k1:(σ.f:Int)+1≤400:=by omega
  have CM:=hidI (fun W=>zbP (.pointer (some ⟨t.B,0,none⟩)) W);clear HA HR h;replace HR:=HR2;clear HR2;go_enter Tryz.func209,Tryz.ntmps209
  go_wp2_with (go_at_call 158;refine Calls.mono (CM.out _) ?_;intro e w2 h2;obtain ⟨rfl,rfl⟩:=h2;clear CM)
  refine zaQ fo3N (fun i=>match i with|0=>.pointer (some ⟨t.B,0,none⟩)|1=>.pointer (some ⟨t.B,0,none⟩)|2=>.pointer (some ⟨t.B,8,none⟩)|3=>.func (.func 60) #[] #[]|4=>.agg #[.int .u8 tk.k,.string tk.s,.int .i64 tk.n,.int .i64 tk.p]|_=>undef) (fun y=>TlR t { σ with f:=σ.f+1 } (tkBox w.heap.size tk::X) y) 5 Tryz.mixed (by kernel_rfl) (by kernel_rfl) HS1.out.drew ?_ ?_
  ·intro i9 hi9 a9 w9 hF9 hS9 K9 hK9;have hc9:i9=0∨i9=1∨i9=2∨i9=3∨i9=4:=by omega
   clear hi9;rcases hc9 with rfl|rfl|rfl|rfl|rfl
   ·have e0:=hF9.od 0 (v:=.pointer (some ⟨t.B,0,none⟩)) rfl;refine zaU rfl ?_ (hK9 _ hS9);clear hF9;simp only [fo3N,execOp,e0];first|done|(go_simp<;>omega)
   ·have e18:=hF9.ev 0 18;refine zaU rfl ?_ (hK9 _ hS9);clear hF9;simp only [fo3N,execOp,e18];first|done|(go_simp<;>omega)
   ·have e19:=hF9.ev 1 19;refine zaU rfl ?_ (hK9 _ hS9);clear hF9;simp only [fo3N,execOp,e19];first|done|(go_simp<;>omega)
   ·have e20:=hF9.ev 2 20;have c8:=hS9.cell (j:=8) (u:=t.put) rfl;rw [HPUT.out] at c8;refine zaU rfl ?_ (hK9 _ hS9);clear hF9;simp only [fo3N,execOp,e20];first|done|(go_simp<;>omega)
   ·have e3:=hF9.od 3 (v:=.pointer (some ⟨w.heap.size,0,none⟩)) rfl;have q0:=zaA hS9.row (j:=0) rfl;have q1:=zaA hS9.row (j:=1) rfl;have q2:=zaA hS9.row (j:=2) rfl;have q3:=zaA hS9.row (j:=3) rfl;refine zaU rfl ?_ (hK9 _ hS9);clear hF9;simp only [fo3N,execOp,e3];first|done|(go_simp<;>omega)
  ·intro w9 hS9 K9 hK9;simp only [putA,fo3N];rw [if_pos (zaG rfl)];unfold Oper.wp;go_simp;refine Calls.mono (HFN.out _ _ _ tk hS9 (by simp only;omega) HSM.out) ?_;rintro e w1 ⟨rfl,h1⟩;refine hK9 _ _ ?_;go_end0;rw [HR.out];exact ⟨rfl,h1.less,HLIM.out⟩
 ·have HR2:Hid (tForm tk σ=none):=hidI (by rw [HR.out,if_neg hf]);have HS1:Hid (TlR t { σ with f:=σ.f+1 } (tkBox w.heap.size tk::X) ((w.setCell ⟨t.B,6,none⟩ (.int .i64 ((σ.f:Int)+1))).alloc (.cells #[.int .u8 tk.k,.string tk.s,.int .i64 tk.n,.int .i64 tk.p] 92))):=hidI (by
   have h0:=(h.setc 6 (.int .i64 ((σ.f:Int)+1)) { σ with f:=σ.f+1 } rfl (by simp [tlBox])).newbox 92 4 #[.int .u8 tk.k,.string tk.s,.int .i64 tk.n,.int .i64 tk.p] rfl;rwa [World.size_setCell] at h0)
  have c6:=HS1.out.cell (j:=6) (u:=.int .i64 ((σ.f:Int)+1)) rfl;have k1:¬ ((σ.f:Int)+1≤400):=by omega
  have CM:=hidI (fun W=>zbF (.pointer (some ⟨t.B,0,none⟩)) W);clear HA HR h;go_enter Tryz.func209,Tryz.ntmps209
  go_wp2_with (go_at_call 158;refine Calls.mono (CM.out _) ?_;intro e w2 h2;obtain ⟨rfl,rfl⟩:=h2;clear CM)
  refine ⟨rfl,?_⟩;rw [HR2.out];exact ⟨rfl,HS1.out.bad (.cons _ (.refl _))⟩
theorem zeC {t:Tx} {F:Nat} (hk:t.Ok F) {σ:TS} {X:List Rw} {w:World} {s:ByteArray} (h:TlS t σ X w) (hs:SmlN s):Calls Tryz.prog 191 #[.pointer (some ⟨t.B,0,none⟩),.string s] w (TPost t X (tWord s σ)):=by
 have C:=hidI (form_any hk (tk:=⟨3,s,0,0⟩) h.r h.lim.one hs);have HR:Hid (tForm ⟨3,s,0,0⟩ σ=tWord s σ):=hidI rfl;rw [HR.out] at C;cases hr:tWord s σ with
 | none=>
  rw [hr] at C;clear hr HR h;go_enter Tryz.func191,Tryz.ntmps191
  go_wp2_with (go_at_call 209;refine C.out.mono ?_;intro e w1 h1;obtain ⟨rfl,hb1⟩:=h1;clear C)
  exact ⟨rfl,rfl,hb1⟩
 | some σ1=>
  rw [hr] at C;clear hr HR h;go_enter Tryz.func191,Tryz.ntmps191
  go_wp2_with (go_at_call 209;refine C.out.mono ?_;intro e w1 h1;obtain ⟨rfl,hb1⟩:=h1;clear C)
  go_end0;exact ⟨rfl,hb1⟩
theorem tname_any {t:Tx} {F:Nat} (hk:t.Ok F) {σ:TS} {X:List Rw} {w:World} {s:ByteArray} (h:TlS t σ X w) (hs:SmlN s):Calls Tryz.prog 210 #[.pointer (some ⟨t.B,0,none⟩),.string s] w (TPost t X (tName s σ)):=by
 have C1:=hidI (isName_any s hs w (hk.laid.on h.r.below));cases hn:nameB s with
 | false=>
  have HR:Hid (tName s σ=none):=hidI (by unfold tName nmOk;rw [hn];rfl);rw [hn] at C1;have CM:=hidI (fun W=>zbF (.pointer (some ⟨t.B,0,none⟩)) W);have HH:=hidI h;clear hn h;go_enter Tryz.func210,Tryz.ntmps210
  go_wp2_with (first
   | (go_at_call 204;refine C1.out.mono ?_;intro e w1 h1;obtain ⟨rfl,hb1⟩:=h1;clear C1;have HS1:=hidI (HH.out.on hb1))
   | (go_at_call 158;refine Calls.mono (CM.out _) ?_;intro e w2 h2;obtain ⟨rfl,rfl⟩:=h2;clear CM))
  refine ⟨rfl,?_⟩;rw [HR.out];exact ⟨rfl,HS1.out.bad (.refl _)⟩
 | true=>
  have HR:Hid (tName s σ=tWord s σ):=hidI (by unfold tName nmOk;rw [hn];rfl);rw [hn] at C1;have CM:=hidI (fun W=>zbP (.pointer (some ⟨t.B,0,none⟩)) W);have HH:=hidI h;have CW:=hidI (fun W (hW:TlS t σ X W)=>zeC hk hW hs);rw [HR.out];clear hn h HR;cases hr:tWord s σ with
  | none=>
   rw [hr] at CW;clear hr;go_enter Tryz.func210,Tryz.ntmps210
   go_wp2_with (first
    | (go_at_call 204;refine C1.out.mono ?_;intro e w1 h1;obtain ⟨rfl,hb1⟩:=h1;clear C1;have HS1:=hidI (HH.out.on hb1))
    | (go_at_call 158;refine Calls.mono (CM.out _) ?_;intro e w2 h2;obtain ⟨rfl,rfl⟩:=h2;clear CM)
    | (go_at_call 191;refine Calls.mono (CW.out _ HS1.out) ?_;intro e w3 h3;obtain ⟨rfl,hb3⟩:=h3;clear CW))
   exact ⟨rfl,rfl,hb3⟩
  | some σ1=>
   rw [hr] at CW;clear hr;go_enter Tryz.func210,Tryz.ntmps210
   go_wp2_with (first
    | (go_at_call 204;refine C1.out.mono ?_;intro e w1 h1;obtain ⟨rfl,hb1⟩:=h1;clear C1;have HS1:=hidI (HH.out.on hb1))
    | (go_at_call 158;refine Calls.mono (CM.out _) ?_;intro e w2 h2;obtain ⟨rfl,rfl⟩:=h2;clear CM)
    | (go_at_call 191;refine Calls.mono (CW.out _ HS1.out) ?_;intro e w3 h3;obtain ⟨rfl,hb3⟩:=h3;clear CW))
   go_end0;exact ⟨rfl,hb3⟩
end Go.Proofs.YtfljimpgnlfipaaGreatDoor
