/-
  Part 37 of the proof: TlIL, TlIC, TlIV.
-/
import Derived.Test.YtfljimpgnlfipaaGreatDoorTE33
namespace Go.Proofs.YtfljimpgnlfipaaGreatDoor
open Go.RowKit Go.Deep Go.MapKept
set_option maxRecDepth 100000 in
set_option maxHeartbeats 1000000 in
theorem exprL {K:List (Nat × ByteArray × Nat)} {t:Tx} {F:Nat} (hkK:(t.withK K).Ok F) {ex:Int→TM} {xs:List Exp} {j:Nat} {σ:TS} {X:List Rw} {w:World} (h:TlS (t.withK K) σ X w) {eof eop:Nat} {enm:ByteArray} {enum:Int} {ekids:List Int} {a1:Option Addr} {c1 cap:Nat} (HV:Hid (SeesC t.w0 (.slice a1 ekids.length c1) ekids.length 1 (intsI ekids))) (HKL:Hid (ekids.length≤1099511627776)) (HL:Hid ((j:Int)≤1099511627776)) {b o:Nat} (b1:w.cell? ⟨t.B,1,none⟩=some (.slice (some ⟨b,o,none⟩) xs.length cap)) (h0:(0:Int)≤(j:Int)) (h1:(j:Int)<(xs.length:Int)) (x0:w.cell? ⟨b,o+j*6,none⟩=some (.int .u8 (1:Int))) (x1:w.cell? ⟨b,o+j*6+1,none⟩=some (.int .u8 (eof:Int))) (x2:w.cell? ⟨b,o+j*6+2,none⟩=some (.int .u8 (eop:Int))) (x3:w.cell? ⟨b,o+j*6+3,none⟩=some (.string enm)) (x4:w.cell? ⟨b,o+j*6+4,none⟩=some (.int .i64 enum)) (x5:w.cell? ⟨b,o+j*6+5,none⟩=some (.slice a1 ekids.length c1))
  (HM:Hid (expr1 ex xs (j:Int) σ=(match tBody ex (⟨1,eof,eop,enm,enum,ekids⟩:Exp) σ with|none=>none|some σ1=>if sameX (⟨1,eof,eop,enm,enum,ekids⟩:Exp) (plainX (⟨1,eof,eop,enm,enum,ekids⟩:Exp))=true∧(j:Int)=σ1.x then some { σ1 with x:=σ1.x+1 } else none))) :
  Calls Tryz.prog 212 #[.pointer (some ⟨t.B,0,none⟩),.int .i64 (j:Int)] w (TPost (t.withK K) X (expr1 ex xs (j:Int) σ)):=by
 have CM0:=hidI (fun W=>zbP (.pointer (some ⟨t.B,0,none⟩)) W);have HA:Hid (TlS (t.withK K) σ ((xBx (w.heap.size+1) 1 0 0 ⟨#[]⟩ 0 (.slice none 0 0))::(xBx w.heap.size 1 eof eop enm enum (.slice a1 ekids.length c1))::X) ((w.alloc (.cells #[.int .u8 (1:Int),.int .u8 (eof:Int),.int .u8 (eop:Int),.string enm,.int .i64 enum,.slice a1 ekids.length c1] 82)).alloc (.cells #[.int .u8 (1:Int),.int .u8 0,.int .u8 0,.string ⟨#[]⟩,.int .i64 0,.slice none 0 0] 82))):=hidI (by
  have h0:=((h.newbox 82 6 #[.int .u8 (1:Int),.int .u8 (eof:Int),.int .u8 (eop:Int),.string enm,.int .i64 enum,.slice a1 ekids.length c1] rfl).newbox 82 6 #[.int .u8 (1:Int),.int .u8 0,.int .u8 0,.string ⟨#[]⟩,.int .i64 0,.slice none 0 0] rfl);simp only [World.size_alloc] at h0;exact h0)
 have HM1:Hid (expr1 ex xs (j:Int) σ=(match tLit eof enum σ with|none=>none|some σ1=>if sameX (⟨1,eof,eop,enm,enum,ekids⟩:Exp) (⟨1,eof,0,⟨#[]⟩,enum,[]⟩:Exp)=true∧(j:Int)=σ1.x then some { σ1 with x:=σ1.x+1 } else none)):=hidI HM.out;clear HM h;go_enter Tryz.func212,Tryz.ntmps212
 go_wp2_with (go_at_call 158;refine Calls.mono (CM0.out _) ?_;intro e w3 h3;obtain ⟨rfl,rfl⟩:=h3;clear CM0)
 refine zdC xl7N (fun i=>match i with|0=>.pointer (some ⟨w.heap.size,1,none⟩)|1=>.int .u8 (eof:Int)|2=>.pointer (some ⟨w.heap.size,4,none⟩)|3=>.int .i64 enum|4=>.pointer (some ⟨w.heap.size+1,1,none⟩)|5=>undef|6=>.pointer (some ⟨w.heap.size+1,4,none⟩)|_=>undef) (fun l9 y=>∃ b9,l9[5]?=some b9∧TlS (t.withK K) σ ((xBx (w.heap.size+1) 1 (if b9=true then eof else 0) 0 ⟨#[]⟩ 0 (.slice none 0 0))::(xBx w.heap.size 1 eof eop enm enum (.slice a1 ekids.length c1))::X) y) 7 Tryz.mixed (by kernel_rfl) (by kernel_rfl) ⟨false,by rw [show (opsA xl7N 7).size=8 from rfl];rfl,HA.out.drew⟩ ?_ ?_
 ·intro i9 hi9 a9 w9 l9 hF9 hL9 hl9 hA9 hS9 K9 hK9;have hc9:i9=0∨i9=1∨i9=2∨i9=3∨i9=4∨i9=5∨i9=6:=by omega
  clear hi9;obtain ⟨b9,hb9,hS9⟩:=hS9;rcases hc9 with rfl|rfl|rfl|rfl|rfl|rfl|rfl
  ·have e4:=hF9.od 4 (v:=.pointer (some ⟨w.heap.size,0,none⟩)) rfl;refine zaU rfl ?_ (hK9 _ ⟨b9,(zbM (by decide)).trans hb9,hS9⟩);clear hF9 hA9;simp only [xl7N,execOp,e4];first|done|(go_simp<;>omega)
  ·have e54:=hF9.ev 0 54;have q0:=zaA (hS9.r.own (r:=(xBx w.heap.size 1 eof eop enm enum (.slice a1 ekids.length c1))) (by simp)) (j:=1) rfl;refine zaU rfl ?_ (hK9 _ ⟨b9,(zbM (by decide)).trans hb9,hS9⟩);clear hF9 hA9;simp only [xl7N,execOp,e54];first|done|(go_simp<;>omega)
  ·have e4:=hF9.od 4 (v:=.pointer (some ⟨w.heap.size,0,none⟩)) rfl;refine zaU rfl ?_ (hK9 _ ⟨b9,(zbM (by decide)).trans hb9,hS9⟩);clear hF9 hA9;simp only [xl7N,execOp,e4];first|done|(go_simp<;>omega)
  ·have e56:=hF9.ev 2 56;have q0:=zaA (hS9.r.own (r:=(xBx w.heap.size 1 eof eop enm enum (.slice a1 ekids.length c1))) (by simp)) (j:=4) rfl;refine zaU rfl ?_ (hK9 _ ⟨b9,(zbM (by decide)).trans hb9,hS9⟩);clear hF9 hA9;simp only [xl7N,execOp,e56];first|done|(go_simp<;>omega)
  ·have e5:=hF9.od 5 (v:=.pointer (some ⟨w.heap.size+1,0,none⟩)) rfl;refine zaU rfl ?_ (hK9 _ ⟨b9,(zbM (by decide)).trans hb9,hS9⟩);clear hF9 hA9;simp only [xl7N,execOp,e5];first|done|(go_simp<;>omega)
  ·have e55:=hF9.ev 1 55;have e58:=hF9.ev 4 58;rw [if_pos (zaG rfl)];unfold Oper.wp;have q0:=zaA hS9.r.row (j:=1) rfl;have z0:=zcT hS9.r.row 1;have hT9:TlS (t.withK K) σ ((xBx (w.heap.size+1) 1 (if true=true then eof else 0) 0 ⟨#[]⟩ 0 (.slice none 0 0))::(xBx w.heap.size 1 eof eop enm enum (.slice a1 ekids.length c1))::X) (w9.setCell ⟨w.heap.size+1,1,none⟩ (.int .u8 (eof:Int))):=⟨hS9.r.setbox (j:=1) (.int .u8 (eof:Int)),hS9.lim⟩;have hr9:(execOp a9.eval (xl7N 5)).run Tryz.prog w9=.ok .skip (w9.setCell ⟨w.heap.size+1,1,none⟩ (.int .u8 (eof:Int))):=by
    simp only [xl7N,execOp,e55,e58];first|done|(go_simp<;>omega)
   rw [hr9,Oper.upon_skip];exact hK9 _ ⟨true,by rw [Array.getElem?_setIfInBounds,if_pos rfl,if_pos (by omega)],hT9⟩
  ·have e5:=hF9.od 5 (v:=.pointer (some ⟨w.heap.size+1,0,none⟩)) rfl;refine zaU rfl ?_ (hK9 _ ⟨b9,(zbM (by decide)).trans hb9,hS9⟩);clear hF9 hA9;simp only [xl7N,execOp,e5];first|done|(go_simp<;>omega)
 ·intro w9 l9 hall9 hS9 K9 hK9;replace hS9:TlS (t.withK K) σ ((xBx (w.heap.size+1) 1 (if true=true then eof else 0) 0 ⟨#[]⟩ 0 (.slice none 0 0))::(xBx w.heap.size 1 eof eop enm enum (.slice a1 ekids.length c1))::X) w9:=by
   obtain ⟨b9,hb9,h9⟩:=hS9;have hbt:b9=true:=by have:=hall9 5 (by decide);rw [hb9] at this;exact Option.some.inj this
   rw [hbt] at h9;exact h9
  clear hall9;simp only [putA,xl7N];rw [if_pos (zaG rfl)];unfold Oper.wp;have q0:=zaA hS9.r.row (j:=4) rfl;have z0:=zcT hS9.r.row 4;go_simp;refine hK9 _ _ ?_;clear hK9 K9;obtain ⟨w5,hw5⟩:∃ w5,w9.setCell ⟨w.heap.size+1,4,none⟩ (.int .i64 enum)=w5:=⟨_,rfl⟩;have HS1:Hid (TlS (t.withK K) σ ((xBx (w.heap.size+1) 1 eof 0 ⟨#[]⟩ enum (.slice none 0 0))::(xBx w.heap.size 1 eof eop enm enum (.slice a1 ekids.length c1))::X) w5):=hidI (by rw [←hw5];exact ⟨hS9.r.setbox (j:=4) (.int .i64 enum),hS9.lim⟩);rw [hw5];clear hw5 hS9 q0 z0;have q1:=zaA (HS1.out.r.own (r:=(xBx w.heap.size 1 eof eop enm enum (.slice a1 ekids.length c1))) (by simp)) (j:=1) rfl;have q4:=zaA (HS1.out.r.own (r:=(xBx w.heap.size 1 eof eop enm enum (.slice a1 ekids.length c1))) (by simp)) (j:=4) rfl;have CB:=hidI (lit_any hkK eof enum HS1.out);clear HS1;cases hr:tLit eof enum σ with
  | none=>
   have HR:Hid (expr1 ex xs (j:Int) σ=none):=hidI (by rw [HM1.out,hr]);rw [hr] at CB;clear hr HM1
   go_wp2_with (go_at_call 225;refine Calls.mono CB.out ?_;intro e w5 h5;obtain ⟨rfl,hb5⟩:=h5;clear CB)
   refine ⟨rfl,?_⟩;rw [HR.out];exact ⟨rfl,hb5.sub (.cons _ (.cons _ (.refl _)))⟩
  | some σ1=>
   rw [hr] at CB
   go_wp2_with (go_at_call 225;refine Calls.mono CB.out ?_;intro e w5 h5;obtain ⟨rfl,hb5⟩:=h5;clear CB;refine Hid.out ?_)
   refine hidI ?_;have HS5:=hidI hb5;clear hb5;have e0:=zaA (HS5.out.r.own (r:=(xBx w.heap.size 1 eof eop enm enum (.slice a1 ekids.length c1))) (by simp)) (j:=0) rfl;have e1:=zaA (HS5.out.r.own (r:=(xBx w.heap.size 1 eof eop enm enum (.slice a1 ekids.length c1))) (by simp)) (j:=1) rfl;have e2:=zaA (HS5.out.r.own (r:=(xBx w.heap.size 1 eof eop enm enum (.slice a1 ekids.length c1))) (by simp)) (j:=2) rfl;have e3:=zaA (HS5.out.r.own (r:=(xBx w.heap.size 1 eof eop enm enum (.slice a1 ekids.length c1))) (by simp)) (j:=3) rfl;have e4:=zaA (HS5.out.r.own (r:=(xBx w.heap.size 1 eof eop enm enum (.slice a1 ekids.length c1))) (by simp)) (j:=4) rfl;have e5:=zaA (HS5.out.r.own (r:=(xBx w.heap.size 1 eof eop enm enum (.slice a1 ekids.length c1))) (by simp)) (j:=5) rfl;have p0:=zaA (HS5.out.r.own (r:=(xBx (w.heap.size+1) 1 eof 0 ⟨#[]⟩ enum (.slice none 0 0))) (by simp)) (j:=0) rfl;have p1:=zaA (HS5.out.r.own (r:=(xBx (w.heap.size+1) 1 eof 0 ⟨#[]⟩ enum (.slice none 0 0))) (by simp)) (j:=1) rfl;have p2:=zaA (HS5.out.r.own (r:=(xBx (w.heap.size+1) 1 eof 0 ⟨#[]⟩ enum (.slice none 0 0))) (by simp)) (j:=2) rfl;have p3:=zaA (HS5.out.r.own (r:=(xBx (w.heap.size+1) 1 eof 0 ⟨#[]⟩ enum (.slice none 0 0))) (by simp)) (j:=3) rfl;have p4:=zaA (HS5.out.r.own (r:=(xBx (w.heap.size+1) 1 eof 0 ⟨#[]⟩ enum (.slice none 0 0))) (by simp)) (j:=4) rfl;have p5:=zaA (HS5.out.r.own (r:=(xBx (w.heap.size+1) 1 eof 0 ⟨#[]⟩ enum (.slice none 0 0))) (by simp)) (j:=5) rfl;have CX:=hidI (same2_any (⟨1,eof,eop,enm,enum,ekids⟩:Exp) (⟨1,eof,0,⟨#[]⟩,enum,[]⟩:Exp) a1 none c1 0 w5 (HV.out.below HS5.out.r.below (Nat.le_refl _)) (sees_nil w5) HKL.out)
   cases hsx:sameX (⟨1,eof,eop,enm,enum,ekids⟩:Exp) (⟨1,eof,0,⟨#[]⟩,enum,[]⟩:Exp) with
   | false=>
    have HR:Hid (expr1 ex xs (j:Int) σ=none):=hidI (by rw [HM1.out,hr];simp only [hsx];simp);rw [hsx] at CX;have CM:=hidI (fun W=>zbF (.pointer (some ⟨t.B,0,none⟩)) W);clear hsx hr HM1
    go_wp2_with (first
     | (go_at_call 228;refine Calls.mono CX.out ?_;intro e w6 h6;obtain ⟨rfl,hb6⟩:=h6;clear CX;have HS6:=hidI (HS5.out.on hb6);have b4:w6.cell? ⟨t.B,4,none⟩=some (.int .i64 (σ1.x:Int)):=HS6.out.r.cell (j:=4) (u:=.int .i64 (σ1.x:Int)) rfl;have z4:w6.frozen? ⟨t.B,4,none⟩=false:=HS6.out.r.free 4)
     | (go_at_call 158;refine Calls.mono (CM.out _) ?_;intro e w7 h7;obtain ⟨rfl,rfl⟩:=h7;clear CM))
    refine ⟨rfl,?_⟩;rw [HR.out];exact ⟨rfl,HS6.out.bad (.cons _ (.cons _ (.refl _)))⟩
   | true=>
    rw [hsx] at CX;by_cases hi:(j:Int)=(σ1.x:Int)
    ·have d9:((j:Int)==(σ1.x:Int))=true:=by rw [hi];simp
     have HR:Hid (expr1 ex xs (j:Int) σ=some { σ1 with x:=σ1.x+1 }):=hidI (by rw [HM1.out,hr];simp only [hsx,hi,and_self,if_true]);have hxb:(σ1.x:Int)≤1099511627776:=by have:=HL.out;omega
     have CM:=hidI (fun W=>zbP (.pointer (some ⟨t.B,0,none⟩)) W);clear hsx hr HM1 hi
     go_wp2_with (first
      | (go_at_call 228;refine Calls.mono CX.out ?_;intro e w6 h6;obtain ⟨rfl,hb6⟩:=h6;clear CX;have HS6:=hidI (HS5.out.on hb6);have b4:w6.cell? ⟨t.B,4,none⟩=some (.int .i64 (σ1.x:Int)):=HS6.out.r.cell (j:=4) (u:=.int .i64 (σ1.x:Int)) rfl;have z4:w6.frozen? ⟨t.B,4,none⟩=false:=HS6.out.r.free 4;have HFIN:Hid (TlS (t.withK K) { σ1 with x:=σ1.x+1 } X (w6.setCell ⟨t.B,4,none⟩ (.int .i64 ((σ1.x:Int)+1)))):=hidI ⟨((HS6.out.r.setc 4 (.int .i64 ((σ1.x:Int)+1)) { σ1 with x:=σ1.x+1 } rfl (by simp [tlBox])).sub (.cons _ (.cons _ (.refl _)))),HS6.out.lim⟩)
      | (go_at_call 158;refine Calls.mono (CM.out _) ?_;intro e w7 h7;obtain ⟨rfl,rfl⟩:=h7;clear CM))
     go_end0;rw [HR.out];exact ⟨rfl,HFIN.out⟩
    ·have d9:((j:Int)==(σ1.x:Int))=false:=by rw [beq_eq_false_iff_ne];exact hi
     have HR:Hid (expr1 ex xs (j:Int) σ=none):=hidI (by rw [HM1.out,hr];simp only [hi,and_false,if_false]);have CM:=hidI (fun W=>zbF (.pointer (some ⟨t.B,0,none⟩)) W);clear hsx hr HM1 hi
     go_wp2_with (first
      | (go_at_call 228;refine Calls.mono CX.out ?_;intro e w6 h6;obtain ⟨rfl,hb6⟩:=h6;clear CX;have HS6:=hidI (HS5.out.on hb6);have b4:w6.cell? ⟨t.B,4,none⟩=some (.int .i64 (σ1.x:Int)):=HS6.out.r.cell (j:=4) (u:=.int .i64 (σ1.x:Int)) rfl;have z4:w6.frozen? ⟨t.B,4,none⟩=false:=HS6.out.r.free 4)
      | (go_at_call 158;refine Calls.mono (CM.out _) ?_;intro e w7 h7;obtain ⟨rfl,rfl⟩:=h7;clear CM))
     refine ⟨rfl,?_⟩;rw [HR.out];exact ⟨rfl,HS6.out.bad (.cons _ (.cons _ (.refl _)))⟩
set_option maxRecDepth 100000 in
set_option maxHeartbeats 1000000 in
theorem exprC {K:List (Nat × ByteArray × Nat)} {t:Tx} {F:Nat} (hkK:(t.withK K).Ok F) {ex:Int→TM} (hkp:∀ i,Kp (ex i)) {f0:Nat} (HE:Hid (∀ i,AtC t 212 (ex i) (f0+1) i)) {xs:List Exp} {j:Nat} {σ:TS} {X:List Rw} {w:World} (h:TlS (t.withK K) σ X w) (HF:Hid (f0≤σ.f)) {eof eop:Nat} {enm:ByteArray} {enum:Int} {ekids:List Int} {a1:Option Addr} {c1 cap:Nat} (HV:Hid (SeesC t.w0 (.slice a1 ekids.length c1) ekids.length 1 (intsI ekids))) (HKL:Hid (ekids.length≤1099511627776)) (HL:Hid ((j:Int)≤1099511627776)) {b o:Nat} (b1:w.cell? ⟨t.B,1,none⟩=some (.slice (some ⟨b,o,none⟩) xs.length cap)) (h0:(0:Int)≤(j:Int)) (h1:(j:Int)<(xs.length:Int)) (x0:w.cell? ⟨b,o+j*6,none⟩=some (.int .u8 (10:Int))) (x1:w.cell? ⟨b,o+j*6+1,none⟩=some (.int .u8 (eof:Int))) (x2:w.cell? ⟨b,o+j*6+2,none⟩=some (.int .u8 (eop:Int))) (x3:w.cell? ⟨b,o+j*6+3,none⟩=some (.string enm)) (x4:w.cell? ⟨b,o+j*6+4,none⟩=some (.int .i64 enum)) (x5:w.cell? ⟨b,o+j*6+5,none⟩=some (.slice a1 ekids.length c1))
  (HM:Hid (expr1 ex xs (j:Int) σ=(match tBody ex (⟨10,eof,eop,enm,enum,ekids⟩:Exp) σ with|none=>none|some σ1=>if sameX (⟨10,eof,eop,enm,enum,ekids⟩:Exp) (plainX (⟨10,eof,eop,enm,enum,ekids⟩:Exp))=true∧(j:Int)=σ1.x then some { σ1 with x:=σ1.x+1 } else none))) :
  Calls Tryz.prog 212 #[.pointer (some ⟨t.B,0,none⟩),.int .i64 (j:Int)] w (TPost (t.withK K) X (expr1 ex xs (j:Int) σ)):=by
 have CM0:=hidI (fun W=>zbP (.pointer (some ⟨t.B,0,none⟩)) W);have HA:Hid (TlS (t.withK K) σ ((xBx (w.heap.size+1) 10 0 0 ⟨#[]⟩ 0 (.slice none 0 0))::(xBx w.heap.size 10 eof eop enm enum (.slice a1 ekids.length c1))::X) ((w.alloc (.cells #[.int .u8 (10:Int),.int .u8 (eof:Int),.int .u8 (eop:Int),.string enm,.int .i64 enum,.slice a1 ekids.length c1] 82)).alloc (.cells #[.int .u8 (10:Int),.int .u8 0,.int .u8 0,.string ⟨#[]⟩,.int .i64 0,.slice none 0 0] 82))):=hidI (by
  have h0:=((h.newbox 82 6 #[.int .u8 (10:Int),.int .u8 (eof:Int),.int .u8 (eop:Int),.string enm,.int .i64 enum,.slice a1 ekids.length c1] rfl).newbox 82 6 #[.int .u8 (10:Int),.int .u8 0,.int .u8 0,.string ⟨#[]⟩,.int .i64 0,.slice none 0 0] rfl);simp only [World.size_alloc] at h0;exact h0)
 have HM1:Hid (expr1 ex xs (j:Int) σ=(match tCall ex eop ekids σ with|none=>none|some σ1=>if sameX (⟨10,eof,eop,enm,enum,ekids⟩:Exp) (⟨10,0,eop,⟨#[]⟩,0,ekids⟩:Exp)=true∧(j:Int)=σ1.x then some { σ1 with x:=σ1.x+1 } else none)):=hidI HM.out;clear HM h;go_enter Tryz.func212,Tryz.ntmps212
 go_wp2_with (go_at_call 158;refine Calls.mono (CM0.out _) ?_;intro e w3 h3;obtain ⟨rfl,rfl⟩:=h3;clear CM0)
 refine zdC xl14N (fun i=>match i with|0=>.pointer (some ⟨w.heap.size,2,none⟩)|1=>.int .u8 (eop:Int)|2=>.pointer (some ⟨w.heap.size,5,none⟩)|3=>.slice a1 ekids.length c1|4=>.pointer (some ⟨w.heap.size+1,2,none⟩)|5=>undef|6=>.pointer (some ⟨w.heap.size+1,5,none⟩)|_=>undef) (fun l9 y=>∃ b9,l9[5]?=some b9∧TlS (t.withK K) σ ((xBx (w.heap.size+1) 10 0 (if b9=true then eop else 0) ⟨#[]⟩ 0 (.slice none 0 0))::(xBx w.heap.size 10 eof eop enm enum (.slice a1 ekids.length c1))::X) y) 7 Tryz.mixed (by kernel_rfl) (by kernel_rfl) ⟨false,by rw [show (opsA xl14N 7).size=8 from rfl];rfl,HA.out.drew⟩ ?_ ?_
 ·intro i9 hi9 a9 w9 l9 hF9 hL9 hl9 hA9 hS9 K9 hK9;have hc9:i9=0∨i9=1∨i9=2∨i9=3∨i9=4∨i9=5∨i9=6:=by omega
  clear hi9;obtain ⟨b9,hb9,hS9⟩:=hS9;rcases hc9 with rfl|rfl|rfl|rfl|rfl|rfl|rfl
  ·have e4:=hF9.od 4 (v:=.pointer (some ⟨w.heap.size,0,none⟩)) rfl;refine zaU rfl ?_ (hK9 _ ⟨b9,(zbM (by decide)).trans hb9,hS9⟩);clear hF9 hA9;simp only [xl14N,execOp,e4];first|done|(go_simp<;>omega)
  ·have e87:=hF9.ev 0 87;have q0:=zaA (hS9.r.own (r:=(xBx w.heap.size 10 eof eop enm enum (.slice a1 ekids.length c1))) (by simp)) (j:=2) rfl;refine zaU rfl ?_ (hK9 _ ⟨b9,(zbM (by decide)).trans hb9,hS9⟩);clear hF9 hA9;simp only [xl14N,execOp,e87];first|done|(go_simp<;>omega)
  ·have e4:=hF9.od 4 (v:=.pointer (some ⟨w.heap.size,0,none⟩)) rfl;refine zaU rfl ?_ (hK9 _ ⟨b9,(zbM (by decide)).trans hb9,hS9⟩);clear hF9 hA9;simp only [xl14N,execOp,e4];first|done|(go_simp<;>omega)
  ·have e89:=hF9.ev 2 89;have q0:=zaA (hS9.r.own (r:=(xBx w.heap.size 10 eof eop enm enum (.slice a1 ekids.length c1))) (by simp)) (j:=5) rfl;refine zaU rfl ?_ (hK9 _ ⟨b9,(zbM (by decide)).trans hb9,hS9⟩);clear hF9 hA9;simp only [xl14N,execOp,e89];first|done|(go_simp<;>omega)
  ·have e5:=hF9.od 5 (v:=.pointer (some ⟨w.heap.size+1,0,none⟩)) rfl;refine zaU rfl ?_ (hK9 _ ⟨b9,(zbM (by decide)).trans hb9,hS9⟩);clear hF9 hA9;simp only [xl14N,execOp,e5];first|done|(go_simp<;>omega)
  ·have e88:=hF9.ev 1 88;have e91:=hF9.ev 4 91;rw [if_pos (zaG rfl)];unfold Oper.wp;have q0:=zaA hS9.r.row (j:=2) rfl;have z0:=zcT hS9.r.row 2;have hT9:TlS (t.withK K) σ ((xBx (w.heap.size+1) 10 0 (if true=true then eop else 0) ⟨#[]⟩ 0 (.slice none 0 0))::(xBx w.heap.size 10 eof eop enm enum (.slice a1 ekids.length c1))::X) (w9.setCell ⟨w.heap.size+1,2,none⟩ (.int .u8 (eop:Int))):=⟨hS9.r.setbox (j:=2) (.int .u8 (eop:Int)),hS9.lim⟩;have hr9:(execOp a9.eval (xl14N 5)).run Tryz.prog w9=.ok .skip (w9.setCell ⟨w.heap.size+1,2,none⟩ (.int .u8 (eop:Int))):=by
    simp only [xl14N,execOp,e88,e91];first|done|(go_simp<;>omega)
   rw [hr9,Oper.upon_skip];exact hK9 _ ⟨true,by rw [Array.getElem?_setIfInBounds,if_pos rfl,if_pos (by omega)],hT9⟩
  ·have e5:=hF9.od 5 (v:=.pointer (some ⟨w.heap.size+1,0,none⟩)) rfl;refine zaU rfl ?_ (hK9 _ ⟨b9,(zbM (by decide)).trans hb9,hS9⟩);clear hF9 hA9;simp only [xl14N,execOp,e5];first|done|(go_simp<;>omega)
 ·intro w9 l9 hall9 hS9 K9 hK9;replace hS9:TlS (t.withK K) σ ((xBx (w.heap.size+1) 10 0 (if true=true then eop else 0) ⟨#[]⟩ 0 (.slice none 0 0))::(xBx w.heap.size 10 eof eop enm enum (.slice a1 ekids.length c1))::X) w9:=by
   obtain ⟨b9,hb9,h9⟩:=hS9;have hbt:b9=true:=by have:=hall9 5 (by decide);rw [hb9] at this;exact Option.some.inj this
   rw [hbt] at h9;exact h9
  clear hall9;simp only [putA,xl14N];rw [if_pos (zaG rfl)];unfold Oper.wp;have q0:=zaA hS9.r.row (j:=5) rfl;have z0:=zcT hS9.r.row 5;go_simp;refine hK9 _ _ ?_;clear hK9 K9;obtain ⟨w5,hw5⟩:∃ w5,w9.setCell ⟨w.heap.size+1,5,none⟩ (.slice a1 ekids.length c1)=w5:=⟨_,rfl⟩;have HS1:Hid (TlS (t.withK K) σ ((xBx (w.heap.size+1) 10 0 eop ⟨#[]⟩ 0 (.slice a1 ekids.length c1))::(xBx w.heap.size 10 eof eop enm enum (.slice a1 ekids.length c1))::X) w5):=hidI (by rw [←hw5];exact ⟨hS9.r.setbox (j:=5) (.slice a1 ekids.length c1),hS9.lim⟩);rw [hw5];clear hw5 hS9 q0 z0;have q2:=zaA (HS1.out.r.own (r:=(xBx w.heap.size 10 eof eop enm enum (.slice a1 ekids.length c1))) (by simp)) (j:=2) rfl;have q5:=zaA (HS1.out.r.own (r:=(xBx w.heap.size 10 eof eop enm enum (.slice a1 ekids.length c1))) (by simp)) (j:=5) rfl;have CB:=hidI (call_any hkK (o:=eop) hkp HV.out HKL.out HS1.out (fun i9=>fun K2 σ2 Y2 w2 h2 h3=>HE.out i9 K2 σ2 Y2 w2 h2 (by have:=HF.out;omega)));clear HS1;cases hr:tCall ex eop ekids σ with
  | none=>
   have HR:Hid (expr1 ex xs (j:Int) σ=none):=hidI (by rw [HM1.out,hr]);rw [hr] at CB;clear hr HM1
   go_wp2_with (go_at_call 226;refine Calls.mono CB.out ?_;intro e w5 h5;obtain ⟨rfl,hb5⟩:=h5;clear CB)
   refine ⟨rfl,?_⟩;rw [HR.out];exact ⟨rfl,hb5.sub (.cons _ (.cons _ (.refl _)))⟩
  | some σ1=>
   rw [hr] at CB
   go_wp2_with (go_at_call 226;refine Calls.mono CB.out ?_;intro e w5 h5;obtain ⟨rfl,hb5⟩:=h5;clear CB;refine Hid.out ?_)
   refine hidI ?_;have HS5:=hidI hb5;clear hb5;have e0:=zaA (HS5.out.r.own (r:=(xBx w.heap.size 10 eof eop enm enum (.slice a1 ekids.length c1))) (by simp)) (j:=0) rfl;have e1:=zaA (HS5.out.r.own (r:=(xBx w.heap.size 10 eof eop enm enum (.slice a1 ekids.length c1))) (by simp)) (j:=1) rfl;have e2:=zaA (HS5.out.r.own (r:=(xBx w.heap.size 10 eof eop enm enum (.slice a1 ekids.length c1))) (by simp)) (j:=2) rfl;have e3:=zaA (HS5.out.r.own (r:=(xBx w.heap.size 10 eof eop enm enum (.slice a1 ekids.length c1))) (by simp)) (j:=3) rfl;have e4:=zaA (HS5.out.r.own (r:=(xBx w.heap.size 10 eof eop enm enum (.slice a1 ekids.length c1))) (by simp)) (j:=4) rfl;have e5:=zaA (HS5.out.r.own (r:=(xBx w.heap.size 10 eof eop enm enum (.slice a1 ekids.length c1))) (by simp)) (j:=5) rfl;have p0:=zaA (HS5.out.r.own (r:=(xBx (w.heap.size+1) 10 0 eop ⟨#[]⟩ 0 (.slice a1 ekids.length c1))) (by simp)) (j:=0) rfl;have p1:=zaA (HS5.out.r.own (r:=(xBx (w.heap.size+1) 10 0 eop ⟨#[]⟩ 0 (.slice a1 ekids.length c1))) (by simp)) (j:=1) rfl;have p2:=zaA (HS5.out.r.own (r:=(xBx (w.heap.size+1) 10 0 eop ⟨#[]⟩ 0 (.slice a1 ekids.length c1))) (by simp)) (j:=2) rfl;have p3:=zaA (HS5.out.r.own (r:=(xBx (w.heap.size+1) 10 0 eop ⟨#[]⟩ 0 (.slice a1 ekids.length c1))) (by simp)) (j:=3) rfl;have p4:=zaA (HS5.out.r.own (r:=(xBx (w.heap.size+1) 10 0 eop ⟨#[]⟩ 0 (.slice a1 ekids.length c1))) (by simp)) (j:=4) rfl;have p5:=zaA (HS5.out.r.own (r:=(xBx (w.heap.size+1) 10 0 eop ⟨#[]⟩ 0 (.slice a1 ekids.length c1))) (by simp)) (j:=5) rfl
   have CX:=hidI (same2_any (⟨10,eof,eop,enm,enum,ekids⟩:Exp) (⟨10,0,eop,⟨#[]⟩,0,ekids⟩:Exp) a1 a1 c1 c1 w5 (HV.out.below HS5.out.r.below (Nat.le_refl _)) (HV.out.below HS5.out.r.below (Nat.le_refl _)) HKL.out);cases hsx:sameX (⟨10,eof,eop,enm,enum,ekids⟩:Exp) (⟨10,0,eop,⟨#[]⟩,0,ekids⟩:Exp) with
   | false=>
    have HR:Hid (expr1 ex xs (j:Int) σ=none):=hidI (by rw [HM1.out,hr];simp only [hsx];simp);rw [hsx] at CX;have CM:=hidI (fun W=>zbF (.pointer (some ⟨t.B,0,none⟩)) W);clear hsx hr HM1
    go_wp2_with (first
     | (go_at_call 228;refine Calls.mono CX.out ?_;intro e w6 h6;obtain ⟨rfl,hb6⟩:=h6;clear CX;have HS6:=hidI (HS5.out.on hb6);have b4:w6.cell? ⟨t.B,4,none⟩=some (.int .i64 (σ1.x:Int)):=HS6.out.r.cell (j:=4) (u:=.int .i64 (σ1.x:Int)) rfl;have z4:w6.frozen? ⟨t.B,4,none⟩=false:=HS6.out.r.free 4)
     | (go_at_call 158;refine Calls.mono (CM.out _) ?_;intro e w7 h7;obtain ⟨rfl,rfl⟩:=h7;clear CM))
    refine ⟨rfl,?_⟩;rw [HR.out];exact ⟨rfl,HS6.out.bad (.cons _ (.cons _ (.refl _)))⟩
   | true=>
    rw [hsx] at CX;by_cases hi:(j:Int)=(σ1.x:Int)
    ·have d9:((j:Int)==(σ1.x:Int))=true:=by rw [hi];simp
     have HR:Hid (expr1 ex xs (j:Int) σ=some { σ1 with x:=σ1.x+1 }):=hidI (by rw [HM1.out,hr];simp only [hsx,hi,and_self,if_true]);have hxb:(σ1.x:Int)≤1099511627776:=by have:=HL.out;omega
     have CM:=hidI (fun W=>zbP (.pointer (some ⟨t.B,0,none⟩)) W);clear hsx hr HM1 hi
     go_wp2_with (first
      | (go_at_call 228;refine Calls.mono CX.out ?_;intro e w6 h6;obtain ⟨rfl,hb6⟩:=h6;clear CX;have HS6:=hidI (HS5.out.on hb6);have b4:w6.cell? ⟨t.B,4,none⟩=some (.int .i64 (σ1.x:Int)):=HS6.out.r.cell (j:=4) (u:=.int .i64 (σ1.x:Int)) rfl;have z4:w6.frozen? ⟨t.B,4,none⟩=false:=HS6.out.r.free 4;have HFIN:Hid (TlS (t.withK K) { σ1 with x:=σ1.x+1 } X (w6.setCell ⟨t.B,4,none⟩ (.int .i64 ((σ1.x:Int)+1)))):=hidI ⟨((HS6.out.r.setc 4 (.int .i64 ((σ1.x:Int)+1)) { σ1 with x:=σ1.x+1 } rfl (by simp [tlBox])).sub (.cons _ (.cons _ (.refl _)))),HS6.out.lim⟩)
      | (go_at_call 158;refine Calls.mono (CM.out _) ?_;intro e w7 h7;obtain ⟨rfl,rfl⟩:=h7;clear CM))
     go_end0;rw [HR.out];exact ⟨rfl,HFIN.out⟩
    ·have d9:((j:Int)==(σ1.x:Int))=false:=by rw [beq_eq_false_iff_ne];exact hi
     have HR:Hid (expr1 ex xs (j:Int) σ=none):=hidI (by rw [HM1.out,hr];simp only [hi,and_false,if_false]);have CM:=hidI (fun W=>zbF (.pointer (some ⟨t.B,0,none⟩)) W);clear hsx hr HM1 hi
     go_wp2_with (first
      | (go_at_call 228;refine Calls.mono CX.out ?_;intro e w6 h6;obtain ⟨rfl,hb6⟩:=h6;clear CX;have HS6:=hidI (HS5.out.on hb6);have b4:w6.cell? ⟨t.B,4,none⟩=some (.int .i64 (σ1.x:Int)):=HS6.out.r.cell (j:=4) (u:=.int .i64 (σ1.x:Int)) rfl;have z4:w6.frozen? ⟨t.B,4,none⟩=false:=HS6.out.r.free 4)
      | (go_at_call 158;refine Calls.mono (CM.out _) ?_;intro e w7 h7;obtain ⟨rfl,rfl⟩:=h7;clear CM))
     refine ⟨rfl,?_⟩;rw [HR.out];exact ⟨rfl,HS6.out.bad (.cons _ (.cons _ (.refl _)))⟩
set_option maxRecDepth 100000 in
set_option maxHeartbeats 1000000 in
theorem exprV {K:List (Nat × ByteArray × Nat)} {t:Tx} {F:Nat} (hkK:(t.withK K).Ok F) {ex:Int→TM} {xs:List Exp} {j:Nat} {σ:TS} {X:List Rw} {w:World} (h:TlS (t.withK K) σ X w) {eof eop:Nat} {enm:ByteArray} {enum:Int} {ekids:List Int} {a1:Option Addr} {c1 cap:Nat} (HV:Hid (SeesC t.w0 (.slice a1 ekids.length c1) ekids.length 1 (intsI ekids))) (HKL:Hid (ekids.length≤1099511627776)) (hnm:SmlN enm) (HL:Hid ((j:Int)≤1099511627776)) {b o:Nat} (b1:w.cell? ⟨t.B,1,none⟩=some (.slice (some ⟨b,o,none⟩) xs.length cap)) (h0:(0:Int)≤(j:Int)) (h1:(j:Int)<(xs.length:Int)) (x0:w.cell? ⟨b,o+j*6,none⟩=some (.int .u8 (2:Int))) (x1:w.cell? ⟨b,o+j*6+1,none⟩=some (.int .u8 (eof:Int))) (x2:w.cell? ⟨b,o+j*6+2,none⟩=some (.int .u8 (eop:Int))) (x3:w.cell? ⟨b,o+j*6+3,none⟩=some (.string enm)) (x4:w.cell? ⟨b,o+j*6+4,none⟩=some (.int .i64 enum)) (x5:w.cell? ⟨b,o+j*6+5,none⟩=some (.slice a1 ekids.length c1))
  (HM:Hid (expr1 ex xs (j:Int) σ=(match tBody ex (⟨2,eof,eop,enm,enum,ekids⟩:Exp) σ with|none=>none|some σ1=>if sameX (⟨2,eof,eop,enm,enum,ekids⟩:Exp) (plainX (⟨2,eof,eop,enm,enum,ekids⟩:Exp))=true∧(j:Int)=σ1.x then some { σ1 with x:=σ1.x+1 } else none))) :
  Calls Tryz.prog 212 #[.pointer (some ⟨t.B,0,none⟩),.int .i64 (j:Int)] w (TPost (t.withK K) X (expr1 ex xs (j:Int) σ)):=by
 have CM0:=hidI (fun W=>zbP (.pointer (some ⟨t.B,0,none⟩)) W);have HA:Hid (TlS (t.withK K) σ ((xBx (w.heap.size+1) 2 0 0 enm 0 (.slice none 0 0))::(xBx w.heap.size 2 eof eop enm enum (.slice a1 ekids.length c1))::X) ((w.alloc (.cells #[.int .u8 (2:Int),.int .u8 (eof:Int),.int .u8 (eop:Int),.string enm,.int .i64 enum,.slice a1 ekids.length c1] 82)).alloc (.cells #[.int .u8 (2:Int),.int .u8 0,.int .u8 0,.string enm,.int .i64 0,.slice none 0 0] 82))):=hidI (by
  have h0:=((h.newbox 82 6 #[.int .u8 (2:Int),.int .u8 (eof:Int),.int .u8 (eop:Int),.string enm,.int .i64 enum,.slice a1 ekids.length c1] rfl).newbox 82 6 #[.int .u8 (2:Int),.int .u8 0,.int .u8 0,.string enm,.int .i64 0,.slice none 0 0] rfl);simp only [World.size_alloc] at h0;exact h0)
 clear h;by_cases hy:enm=(⟨#[116,114,117,101]⟩:ByteArray)∨enm=(⟨#[102,97,108,115,101]⟩:ByteArray)
 ·have HR:Hid (expr1 ex xs (j:Int) σ=none):=hidI (by
   rw [HM.out];have:tBody ex (⟨2,eof,eop,enm,enum,ekids⟩:Exp) σ=none:=by
    show (if enm≠(⟨#[116,114,117,101]⟩:ByteArray)∧enm≠(⟨#[102,97,108,115,101]⟩:ByteArray) then tName enm σ else none)=none;rw [if_neg (fun e=>hy.elim e.1 e.2)]
   rw [this])
  have CMB:=hidI (fun W=>zbF (.pointer (some ⟨t.B,0,none⟩)) W);clear HM;by_cases hy1:enm=(⟨#[116,114,117,101]⟩:ByteArray)
  ·have d5:(enm.toList==(⟨#[116,114,117,101]⟩:ByteArray).toList)=true:=by rw [zbT,decide_eq_true hy1]
   rw [show (⟨#[116,114,117,101]⟩:ByteArray).toList=[116,114,117,101] from by decide +kernel] at d5;clear hy hy1;go_enter Tryz.func212,Tryz.ntmps212
   go_wp2_with (first
    | (go_at_call 158;refine Calls.mono (CM0.out _) ?_;intro e w3 h3;obtain ⟨rfl,rfl⟩:=h3;clear CM0)
    | (go_at_call 158;refine Calls.mono (CMB.out _) ?_;intro e w4 h4;obtain ⟨rfl,rfl⟩:=h4;clear CMB))
   refine ⟨rfl,?_⟩;rw [HR.out];exact ⟨rfl,HA.out.bad (.cons _ (.cons _ (.refl _)))⟩
  ·have d5:(enm.toList==(⟨#[116,114,117,101]⟩:ByteArray).toList)=false:=by rw [zbT,decide_eq_false hy1]
   rw [show (⟨#[116,114,117,101]⟩:ByteArray).toList=[116,114,117,101] from by decide +kernel] at d5;have d6:(enm.toList==(⟨#[102,97,108,115,101]⟩:ByteArray).toList)=true:=by rw [zbT,decide_eq_true (hy.resolve_left hy1)]
   rw [show (⟨#[102,97,108,115,101]⟩:ByteArray).toList=[102,97,108,115,101] from by decide +kernel] at d6;clear hy hy1;go_enter Tryz.func212,Tryz.ntmps212
   go_wp2_with (first
    | (go_at_call 158;refine Calls.mono (CM0.out _) ?_;intro e w3 h3;obtain ⟨rfl,rfl⟩:=h3;clear CM0)
    | (go_at_call 158;refine Calls.mono (CMB.out _) ?_;intro e w4 h4;obtain ⟨rfl,rfl⟩:=h4;clear CMB))
   refine ⟨rfl,?_⟩;rw [HR.out];exact ⟨rfl,HA.out.bad (.cons _ (.cons _ (.refl _)))⟩
 ·have d5:(enm.toList==(⟨#[116,114,117,101]⟩:ByteArray).toList)=false:=by rw [zbT,decide_eq_false (fun e=>hy (.inl e))]
  rw [show (⟨#[116,114,117,101]⟩:ByteArray).toList=[116,114,117,101] from by decide +kernel] at d5;have d6:(enm.toList==(⟨#[102,97,108,115,101]⟩:ByteArray).toList)=false:=by rw [zbT,decide_eq_false (fun e=>hy (.inr e))]
  rw [show (⟨#[102,97,108,115,101]⟩:ByteArray).toList=[102,97,108,115,101] from by decide +kernel] at d6;have HM1:Hid (expr1 ex xs (j:Int) σ=(match tName enm σ with|none=>none|some σ1=>if sameX (⟨2,eof,eop,enm,enum,ekids⟩:Exp) (⟨2,0,0,enm,0,[]⟩:Exp)=true∧(j:Int)=σ1.x then some { σ1 with x:=σ1.x+1 } else none)):=hidI (by
   rw [HM.out];have:tBody ex (⟨2,eof,eop,enm,enum,ekids⟩:Exp) σ=tName enm σ:=by
    show (if enm≠(⟨#[116,114,117,101]⟩:ByteArray)∧enm≠(⟨#[102,97,108,115,101]⟩:ByteArray) then tName enm σ else none)=tName enm σ;rw [if_pos ⟨fun e=>hy (.inl e),fun e=>hy (.inr e)⟩]
   rw [this];rfl)
  clear hy HM;have CB:=hidI (tname_any hkK HA.out hnm);cases hr:tName enm σ with
  | none=>
   have HR:Hid (expr1 ex xs (j:Int) σ=none):=hidI (by rw [HM1.out,hr]);rw [hr] at CB;clear hr HM1;go_enter Tryz.func212,Tryz.ntmps212
   go_wp2_with (first
    | (go_at_call 158;refine Calls.mono (CM0.out _) ?_;intro e w3 h3;obtain ⟨rfl,rfl⟩:=h3)
    | (go_at_call 210;refine Calls.mono CB.out ?_;intro e w5 h5;obtain ⟨rfl,hb5⟩:=h5;clear CB))
   refine ⟨rfl,?_⟩;rw [HR.out];exact ⟨rfl,hb5.sub (.cons _ (.cons _ (.refl _)))⟩
  | some σ1=>
   rw [hr] at CB;go_enter Tryz.func212,Tryz.ntmps212
   go_wp2_with (first
    | (go_at_call 158;refine Calls.mono (CM0.out _) ?_;intro e w3 h3;obtain ⟨rfl,rfl⟩:=h3)
    | (go_at_call 210;refine Calls.mono CB.out ?_;intro e w5 h5;obtain ⟨rfl,hb5⟩:=h5;clear CB;refine Hid.out ?_))
   refine hidI ?_;have HS5:=hidI hb5;clear hb5;have e0:=zaA (HS5.out.r.own (r:=(xBx w.heap.size 2 eof eop enm enum (.slice a1 ekids.length c1))) (by simp)) (j:=0) rfl;have e1:=zaA (HS5.out.r.own (r:=(xBx w.heap.size 2 eof eop enm enum (.slice a1 ekids.length c1))) (by simp)) (j:=1) rfl;have e2:=zaA (HS5.out.r.own (r:=(xBx w.heap.size 2 eof eop enm enum (.slice a1 ekids.length c1))) (by simp)) (j:=2) rfl;have e3:=zaA (HS5.out.r.own (r:=(xBx w.heap.size 2 eof eop enm enum (.slice a1 ekids.length c1))) (by simp)) (j:=3) rfl;have e4:=zaA (HS5.out.r.own (r:=(xBx w.heap.size 2 eof eop enm enum (.slice a1 ekids.length c1))) (by simp)) (j:=4) rfl;have e5:=zaA (HS5.out.r.own (r:=(xBx w.heap.size 2 eof eop enm enum (.slice a1 ekids.length c1))) (by simp)) (j:=5) rfl;have p0:=zaA (HS5.out.r.own (r:=(xBx (w.heap.size+1) 2 0 0 enm 0 (.slice none 0 0))) (by simp)) (j:=0) rfl;have p1:=zaA (HS5.out.r.own (r:=(xBx (w.heap.size+1) 2 0 0 enm 0 (.slice none 0 0))) (by simp)) (j:=1) rfl;have p2:=zaA (HS5.out.r.own (r:=(xBx (w.heap.size+1) 2 0 0 enm 0 (.slice none 0 0))) (by simp)) (j:=2) rfl;have p3:=zaA (HS5.out.r.own (r:=(xBx (w.heap.size+1) 2 0 0 enm 0 (.slice none 0 0))) (by simp)) (j:=3) rfl;have p4:=zaA (HS5.out.r.own (r:=(xBx (w.heap.size+1) 2 0 0 enm 0 (.slice none 0 0))) (by simp)) (j:=4) rfl;have p5:=zaA (HS5.out.r.own (r:=(xBx (w.heap.size+1) 2 0 0 enm 0 (.slice none 0 0))) (by simp)) (j:=5) rfl;have CX:=hidI (same2_any (⟨2,eof,eop,enm,enum,ekids⟩:Exp) (⟨2,0,0,enm,0,[]⟩:Exp) a1 none c1 0 w5 (HV.out.below HS5.out.r.below (Nat.le_refl _)) (sees_nil w5) HKL.out)
   cases hsx:sameX (⟨2,eof,eop,enm,enum,ekids⟩:Exp) (⟨2,0,0,enm,0,[]⟩:Exp) with
   | false=>
    have HR:Hid (expr1 ex xs (j:Int) σ=none):=hidI (by rw [HM1.out,hr];simp only [hsx];simp);rw [hsx] at CX;have CM:=hidI (fun W=>zbF (.pointer (some ⟨t.B,0,none⟩)) W);clear hsx hr HM1
    go_wp2_with (first
     | (go_at_call 228;refine Calls.mono CX.out ?_;intro e w6 h6;obtain ⟨rfl,hb6⟩:=h6;clear CX;have HS6:=hidI (HS5.out.on hb6);have b4:w6.cell? ⟨t.B,4,none⟩=some (.int .i64 (σ1.x:Int)):=HS6.out.r.cell (j:=4) (u:=.int .i64 (σ1.x:Int)) rfl;have z4:w6.frozen? ⟨t.B,4,none⟩=false:=HS6.out.r.free 4)
     | (go_at_call 158;refine Calls.mono (CM.out _) ?_;intro e w7 h7;obtain ⟨rfl,rfl⟩:=h7;clear CM))
    refine ⟨rfl,?_⟩;rw [HR.out];exact ⟨rfl,HS6.out.bad (.cons _ (.cons _ (.refl _)))⟩
   | true=>
    rw [hsx] at CX;by_cases hi:(j:Int)=(σ1.x:Int)
    ·have d9:((j:Int)==(σ1.x:Int))=true:=by rw [hi];simp
     have HR:Hid (expr1 ex xs (j:Int) σ=some { σ1 with x:=σ1.x+1 }):=hidI (by rw [HM1.out,hr];simp only [hsx,hi,and_self,if_true]);have hxb:(σ1.x:Int)≤1099511627776:=by have:=HL.out;omega
     have CM:=hidI (fun W=>zbP (.pointer (some ⟨t.B,0,none⟩)) W);clear hsx hr HM1 hi
     go_wp2_with (first
      | (go_at_call 228;refine Calls.mono CX.out ?_;intro e w6 h6;obtain ⟨rfl,hb6⟩:=h6;clear CX;have HS6:=hidI (HS5.out.on hb6);have b4:w6.cell? ⟨t.B,4,none⟩=some (.int .i64 (σ1.x:Int)):=HS6.out.r.cell (j:=4) (u:=.int .i64 (σ1.x:Int)) rfl;have z4:w6.frozen? ⟨t.B,4,none⟩=false:=HS6.out.r.free 4;have HFIN:Hid (TlS (t.withK K) { σ1 with x:=σ1.x+1 } X (w6.setCell ⟨t.B,4,none⟩ (.int .i64 ((σ1.x:Int)+1)))):=hidI ⟨((HS6.out.r.setc 4 (.int .i64 ((σ1.x:Int)+1)) { σ1 with x:=σ1.x+1 } rfl (by simp [tlBox])).sub (.cons _ (.cons _ (.refl _)))),HS6.out.lim⟩)
      | (go_at_call 158;refine Calls.mono (CM.out _) ?_;intro e w7 h7;obtain ⟨rfl,rfl⟩:=h7;clear CM))
     go_end0;rw [HR.out];exact ⟨rfl,HFIN.out⟩
    ·have d9:((j:Int)==(σ1.x:Int))=false:=by rw [beq_eq_false_iff_ne];exact hi
     have HR:Hid (expr1 ex xs (j:Int) σ=none):=hidI (by rw [HM1.out,hr];simp only [hi,and_false,if_false]);have CM:=hidI (fun W=>zbF (.pointer (some ⟨t.B,0,none⟩)) W);clear hsx hr HM1 hi
     go_wp2_with (first
      | (go_at_call 228;refine Calls.mono CX.out ?_;intro e w6 h6;obtain ⟨rfl,hb6⟩:=h6;clear CX;have HS6:=hidI (HS5.out.on hb6);have b4:w6.cell? ⟨t.B,4,none⟩=some (.int .i64 (σ1.x:Int)):=HS6.out.r.cell (j:=4) (u:=.int .i64 (σ1.x:Int)) rfl;have z4:w6.frozen? ⟨t.B,4,none⟩=false:=HS6.out.r.free 4)
      | (go_at_call 158;refine Calls.mono (CM.out _) ?_;intro e w7 h7;obtain ⟨rfl,rfl⟩:=h7;clear CM))
     refine ⟨rfl,?_⟩;rw [HR.out];exact ⟨rfl,HS6.out.bad (.cons _ (.cons _ (.refl _)))⟩
end Go.Proofs.YtfljimpgnlfipaaGreatDoor
