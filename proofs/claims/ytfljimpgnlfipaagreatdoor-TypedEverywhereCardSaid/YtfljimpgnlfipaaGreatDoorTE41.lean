/-
  Part 41 of the proof: TeL.
-/
import Derived.Test.YtfljimpgnlfipaaGreatDoorTE40
namespace Go.Proofs.YtfljimpgnlfipaaGreatDoor
open Go.RowKit Go.Deep Go.MapKept
theorem rdTop_err {l:List Frm}:∀ (ks:List Nat) (P:Prg) {x:Int × Int},rdTop l ks P=.error x→x.2=8∨x.2=4
 | [],P,x,e=>by simp [rdTop] at e
 | k::ks,P,x,e=>by
  simp only [rdTop] at e;split at e
  ·split at e
   ·split at e
    ·cases e;exact .inl rfl
    split at e
    ·cases e;exact .inr rfl
    split at e
    ·cases e;exact .inl rfl
    ·exact rdTop_err ks _ e
   ·split at e
    ·cases e;exact .inl rfl
    ·exact rdTop_err ks _ e
  ·split at e
   ·cases e;exact .inl rfl
   ·exact rdTop_err ks _ e
theorem src_err {s:ByteArray} {x:Int × Int} (h:srcD s=.error x):x.2≠0:=by
 unfold srcD at h;rcases lex_cases s with ⟨ts,hl,ht⟩|⟨a,y,hl,hy⟩
 ·rw [hl] at h;simp only [if_true] at h;split at h
  ·rcases rdTop_err _ _ h with e|e<;>rw [e]<;>decide
  ·next q hq=>
   cases h;rcases tparse_err hq with e|e<;>rw [e]<;>decide
 ·rw [hl] at h;simp only [if_neg hy] at h;cases h;exact hy
theorem srcE_of {s:ByteArray} {x:Int × Int} (h:srcD s=.error x) (w:World):Calls Tryz.prog 9 #[.string s] w fun e w'=>e=.returned (.tuple #[.agg #[.slice none 0 0,.slice none 0 0,.slice none 0 0,.slice none 0 0],.int .i64 x.1,.int .i64 x.2])∧Below w.heap.size w w':=by
 refine (dsource_any s w).mono fun e w' h9 => ?_
 rw [h] at h9;exact h9
set_option maxRecDepth 100000 in
set_option maxHeartbeats 8000000 in
theorem typedEverywhere_law (s:ByteArray) (w:World) (hL:Laid w):Calls Tryz.prog 6 #[.string s] w fun e w'=>e=.returned (.bool true)∧Below w.heap.size w w':=by
 have CL:=hidI (fun (W:World) (h:Laid W)=>live11_any W h);have HL:=hidI hL;clear hL;cases hr:srcD s with
 | error x=>
  obtain ⟨xa,xy⟩:=x;have hne:¬ xy=0:=src_err hr;have hne2:(xy==0)=false:=by rw [beq_eq_false_iff_ne];exact hne
  have C1:=hidI (srcE_of hr w);clear hr;go_enter Tryz.func6,Tryz.ntmps6
  go_wp2_with (first
   | (go_at_call 9;refine C1.out.mono ?_;intro e w1 h1;obtain ⟨rfl,hb1⟩:=h1;clear C1;have hba:Below w1.heap.size w1 (w1.alloc (.cells #[.slice none 0 0,.slice none 0 0,.slice none 0 0,.slice none 0 0] 27)):=(Below.refl _ _).alloc (Nat.le_refl _) _;have HB1:=hidI (hb1.trans (hba.mono hb1.size));clear hb1 hba)
   | (go_at_call 12;refine Calls.mono (CL.out _ (HL.out.on HB1.out)) ?_;intro e w2 h2;obtain ⟨rfl,hb2⟩:=h2;have HB2:=hidI (HB1.out.trans (hb2.mono HB1.out.size));clear hb2))
  go_ret;exact ⟨rfl,HB2.out⟩
 | ok P=>
  have C1:=hidI (srcP_of hr w);have HWF:=hidI (src_wf hr);clear hr;go_enter Tryz.func6,Tryz.ntmps6
  go_wp2_with (go_at_call 9;refine C1.out.mono ?_;intro e w1 h1;obtain ⟨p,da,xa,sa,ma,dc,xc,sc,mc,hp,ho,hv,rfl,hs1,hb1⟩:=h1;clear C1;refine Hid.out ?_)
  obtain ⟨WA,hWA⟩:∃ WA,w1.alloc (.cells #[.slice da p.ds.length dc,.slice xa p.xs.length xc,.slice sa p.ss.length sc,.slice ma p.ms.length mc] 27)=WA:=⟨_,rfl⟩;have hba:Below w1.heap.size w1 WA:=hWA▸(Below.refl _ _).alloc (Nat.le_refl _) _;have hat0:=AtBd.new w1 27 #[.slice da p.ds.length dc,.slice xa p.xs.length xc,.slice sa p.ss.length sc,.slice ma p.ms.length mc];rw [hWA] at hat0;have HAT:=hidI hat0;have HSP:=hidI (hs1.below hba);have HBW:=hidI (hb1.trans (hba.mono hb1.size));have HWA:=hidI hWA;have HXL:Hid (P.exprs.length=p.xs.length):=hidI (by rw [←hp];simp [PV.prg]);have HXO:Hid (p.xs.length≤1099511627776):=hidI (by have:=ho.xl;rw [←hp] at this;simpa [PV.prg] using this);have HKK:Hid (∀ (a:Int) (wh:Nat) (W:World),Laid W→SeesPv W p→Calls Tryz.prog 13 #[.agg #[.slice da p.ds.length dc,.slice xa p.xs.length xc,.slice sa p.ss.length sc,.slice ma p.ms.length mc],.int .i64 a,.int .u8 (wh:Int)] W fun e w'=>e=.returned (.tuple #[.int .u8 ((tyKind P a wh).1:Int),.int .i64 (tyKind P a wh).2])∧Below W.heap.size W w'):=hidI (fun a wh W hW hS=>tkind_open HWF.out ho hp hv a wh rfl W hW hS);clear hat0 hba hb1 hs1 hp ho hv HWF hWA;have zi:=HAT.out 1 _ rfl;refine hidI ?_;go_wp2;rw [HWA.out];clear zi;obtain ⟨n,hn⟩:∃ n,p.xs.length=n:=⟨_,rfl⟩;have HN:=hidI hn;clear hn
  go_loopg [6] n (fun g s6 wx=>∃ i:Nat,i+g=n∧s6=.int .i64 (i:Int)∧Hid (Below WA.heap.size WA wx))
  case atStart=>exact ⟨0,by omega,rfl,hidI (Below.refl _ _)⟩
  case round=>
   obtain ⟨i,hi,rfl,HB0⟩:=hrel;have hn4:n≤1099511627776:=by have:=HXO.out;have:=HN.out;omega
   have hat:=AtBd.on HAT.out HB0.out;have z0:=hat 0 _ rfl;have z1:=hat 1 _ rfl;have z2:=hat 2 _ rfl;have z3:=hat 3 _ rfl;have HSW:=hidI (HSP.out.below HB0.out);have HLW:=hidI (HL.out.on (HBW.out.trans (HB0.out.mono HBW.out.size)));clear hat;rw [HN.out] at z1;cases gk with
   | zero=>
    obtain rfl:n=i:=by omega
    have k1:decide ((n:Int)<(n:Int))=false:=by simp
    have CLW:=hidI (CL.out _ HLW.out)
    go_wp2_with (go_at_call 12;refine CLW.out.mono ?_;intro e w2 h2;obtain ⟨rfl,hb2⟩:=h2;have HB2:=hidI ((HBW.out.trans (HB0.out.mono HBW.out.size)).trans (hb2.mono (HBW.out.trans (HB0.out.mono HBW.out.size)).size));clear hb2)
    go_ret;exact ⟨rfl,HB2.out⟩
   | succ gg=>
    have k1:(i:Int)<(n:Int):=by omega
    obtain ⟨⟨r1,e1⟩,hR1⟩:∃ R,tyKind P (i:Int) 1=R:=⟨_,rfl⟩;obtain ⟨⟨r2,e2⟩,hR2⟩:∃ R,tyKind P (i:Int) 2=R:=⟨_,rfl⟩;have HR1:=hidI hR1;have HR2:=hidI hR2;rw [HN.out] at HKK;have K1:Hid (Calls Tryz.prog 13 #[.agg #[.slice da p.ds.length dc,.slice xa n xc,.slice sa p.ss.length sc,.slice ma p.ms.length mc],.int .i64 (i:Int),.int .u8 1] wr fun e w'=>e=.returned (.tuple #[.int .u8 (r1:Int),.int .i64 e1])∧Below wr.heap.size wr w'):=hidI (by
     have h:=HKK.out (i:Int) 1 wr HLW.out HSW.out;rw [hR1] at h;exact h)
    have K2:Hid (∀ W,Laid W→SeesPv W p→Calls Tryz.prog 13 #[.agg #[.slice da p.ds.length dc,.slice xa n xc,.slice sa p.ss.length sc,.slice ma p.ms.length mc],.int .i64 (i:Int),.int .u8 2] W fun e w'=>e=.returned (.tuple #[.int .u8 (r2:Int),.int .i64 e2])∧Below W.heap.size W w'):=hidI (fun W h1 h2=>by
     have h:=HKK.out (i:Int) 2 W h1 h2;rw [hR2] at h;exact h)
    clear hR1 hR2
    go_wp2_with (first
     | (go_at_call 13;refine K1.out.mono ?_;intro e w2 h9;obtain ⟨rfl,hb9⟩:=h9;clear K1;have HB2:=hidI (HB0.out.trans (hb9.mono HB0.out.size));have HL2:=hidI (HLW.out.on hb9);have HS2:=hidI (HSW.out.below hb9);have hat:=AtBd.on HAT.out HB2.out;rw [HN.out] at hat;have y0:=hat 0 _ rfl;have y1:=hat 1 _ rfl;have y2:=hat 2 _ rfl;have y3:=hat 3 _ rfl;clear hb9 hat)
     | (go_at_call 13;refine Calls.mono (K2.out _ HL2.out HS2.out) ?_;intro e w3 h9;obtain ⟨rfl,hb9⟩:=h9;clear K2;have HB3:=hidI (HB2.out.trans (hb9.mono HB2.out.size));clear hb9))
    clear y0 y1 y2 y3 z0 z1 z2 z3
    go_loopg [11] 3 (fun g2 s11 wx=>∃ v:Nat,v+g2=5∧2≤v∧s11=.int .u8 (v:Int)∧Hid (Below WA.heap.size WA wx))
    case atStart=>exact ⟨2,by omega,by omega,rfl,HB3⟩
    case round=>
     obtain ⟨v,hv,hv2,rfl,HB4⟩:=hrel;cases gk with
     | zero=>
      have q4:¬ ((v:Int)≤4):=by omega
      go_wp2;go_roundg gg
      case measure=>omega
      case rel=>exact ⟨i+1,by omega,by go_num,HB4⟩
     | succ g2=>
      have q4:(v:Int)≤4:=by omega
      have hat:=AtBd.on HAT.out HB4.out;rw [HN.out] at hat;have z0:=hat 0 _ rfl;have z1:=hat 1 _ rfl;have z2:=hat 2 _ rfl;have z3:=hat 3 _ rfl;obtain ⟨⟨rv,ev⟩,hRv⟩:∃ R,tyKind P (i:Int) v=R:=⟨_,rfl⟩;have KV:Hid (Calls Tryz.prog 13 #[.agg #[.slice da p.ds.length dc,.slice xa n xc,.slice sa p.ss.length sc,.slice ma p.ms.length mc],.int .i64 (i:Int),.int .u8 (v:Int)] wr fun e w'=>e=.returned (.tuple #[.int .u8 (rv:Int),.int .i64 ev])∧Below wr.heap.size wr w'):=hidI (by
       have h:=HKK.out (i:Int) v wr (HL.out.on (HBW.out.trans (HB4.out.mono HBW.out.size))) (HSP.out.below HB4.out);rw [hRv] at h;exact h)
      have FAC:Hid ((e1=0→rv=r1∧ev=0∧r2=r1∧e2=0)∧(v=3→e2=0→rv=r2∧ev=0)):=hidI (by
       refine ⟨fun h => ?_,fun h3 h => ?_⟩
       ·have a1:=tyKind_scalar (P:=P) (a:=(i:Int)) (v:=v) (by omega) (by rw [HR1.out];exact h);have a2:=tyKind_scalar (P:=P) (a:=(i:Int)) (v:=2) (by omega) (by rw [HR1.out];exact h);rw [hRv,HR1.out] at a1;rw [HR2.out,HR1.out] at a2;cases a1;cases a2;exact ⟨rfl,h,rfl,h⟩
       ·subst h3;have a1:=tyKind_node (P:=P) (a:=(i:Int)) (by rw [HR2.out];exact h);rw [hRv,HR2.out] at a1;cases a1;exact ⟨rfl,h⟩)
      clear hat hRv;have ARM:True:=trivial;by_cases h1:e1=0
      ·obtain ⟨rfl,rfl,rfl,rfl⟩:=FAC.out.1 h1;subst h1;clear FAC ARM;by_cases h3:v=3
       ·subst h3
        go_wp2_with (go_at_call 13;refine KV.out.mono ?_;intro e w5 h9;obtain ⟨rfl,hb9⟩:=h9;clear KV;have HB5:=hidI (HB4.out.trans (hb9.mono HB4.out.size));clear hb9)
        go_roundg g2
        case measure=>omega
        case rel=>exact ⟨3+1,by omega,by omega,by go_num,HB5⟩
       ·have q3:((v:Int)==3)=false:=by rw [beq_eq_false_iff_ne];omega
        go_wp2_with (go_at_call 13;refine KV.out.mono ?_;intro e w5 h9;obtain ⟨rfl,hb9⟩:=h9;clear KV;have HB5:=hidI (HB4.out.trans (hb9.mono HB4.out.size));clear hb9)
        go_roundg g2
        case measure=>omega
        case rel=>exact ⟨v+1,by omega,by omega,by go_num,HB5⟩
      ·have q1:(e1==0)=false:=by rw [beq_eq_false_iff_ne];exact h1
       by_cases h3:v=3
       ·subst h3;by_cases h2:e2=0
        ·obtain ⟨rfl,rfl⟩:=FAC.out.2 rfl h2;subst h2;clear FAC ARM
         go_wp2_with (go_at_call 13;refine KV.out.mono ?_;intro e w5 h9;obtain ⟨rfl,hb9⟩:=h9;clear KV;have HB5:=hidI (HB4.out.trans (hb9.mono HB4.out.size));clear hb9)
         go_roundg g2
         case measure=>omega
         case rel=>exact ⟨3+1,by omega,by omega,by go_num,HB5⟩
        ·have q2:(e2==0)=false:=by rw [beq_eq_false_iff_ne];exact h2
         clear FAC ARM
         go_wp2_with (go_at_call 13;refine KV.out.mono ?_;intro e w5 h9;obtain ⟨rfl,hb9⟩:=h9;clear KV;have HB5:=hidI (HB4.out.trans (hb9.mono HB4.out.size));clear hb9)
         go_roundg g2
         case measure=>omega
         case rel=>exact ⟨3+1,by omega,by omega,by go_num,HB5⟩
       ·have q3:((v:Int)==3)=false:=by rw [beq_eq_false_iff_ne];omega
        clear FAC ARM
        go_wp2_with (go_at_call 13;refine KV.out.mono ?_;intro e w5 h9;obtain ⟨rfl,hb9⟩:=h9;clear KV;have HB5:=hidI (HB4.out.trans (hb9.mono HB4.out.size));clear hb9)
        go_roundg g2
        case measure=>omega
        case rel=>exact ⟨v+1,by omega,by omega,by go_num,HB5⟩
end Go.Proofs.YtfljimpgnlfipaaGreatDoor
