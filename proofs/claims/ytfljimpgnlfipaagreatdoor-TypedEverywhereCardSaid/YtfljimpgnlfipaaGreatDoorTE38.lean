/-
  Part 38 of the proof: TlID, TlI, TlJ0.
-/
import Derived.Test.YtfljimpgnlfipaaGreatDoorTE33
import Derived.Test.YtfljimpgnlfipaaGreatDoorTE37
import Derived.Test.YtfljimpgnlfipaaGreatDoorTE31
import Derived.Test.YtfljimpgnlfipaaGreatDoorTE02
namespace Go.Proofs.YtfljimpgnlfipaaGreatDoor
open Go.RowKit Go.Deep Go.MapKept
set_option maxRecDepth 100000 in
set_option maxHeartbeats 1000000 in
theorem exprD {K:List (Nat × ByteArray × Nat)} {t:Tx} {F:Nat} (hkK:(t.withK K).Ok F) {ex:Int→TM} {xs:List Exp} {j:Nat} {σ:TS} {X:List Rw} {w:World} (h:TlS (t.withK K) σ X w) {eof eop:Nat} {enm:ByteArray} {enum:Int} {ekids:List Int} {a1:Option Addr} {c1 cap:Nat} {ek:Nat} (hk1:¬ ek=1) (hk2:¬ ek=2) (hk10:¬ ek=10) (HV:Hid (SeesC t.w0 (.slice a1 ekids.length c1) ekids.length 1 (intsI ekids))) (HKL:Hid (ekids.length≤1099511627776)) (hnm:SmlN enm) (HL:Hid ((j:Int)≤1099511627776)) {b o:Nat} (b1:w.cell? ⟨t.B,1,none⟩=some (.slice (some ⟨b,o,none⟩) xs.length cap)) (h0:(0:Int)≤(j:Int)) (h1:(j:Int)<(xs.length:Int)) (x0:w.cell? ⟨b,o+j*6,none⟩=some (.int .u8 (ek:Int))) (x1:w.cell? ⟨b,o+j*6+1,none⟩=some (.int .u8 (eof:Int))) (x2:w.cell? ⟨b,o+j*6+2,none⟩=some (.int .u8 (eop:Int))) (x3:w.cell? ⟨b,o+j*6+3,none⟩=some (.string enm)) (x4:w.cell? ⟨b,o+j*6+4,none⟩=some (.int .i64 enum)) (x5:w.cell? ⟨b,o+j*6+5,none⟩=some (.slice a1 ekids.length c1))
  (HM:Hid (expr1 ex xs (j:Int) σ=(match tBody ex (⟨ek,eof,eop,enm,enum,ekids⟩:Exp) σ with|none=>none|some σ1=>if sameX (⟨ek,eof,eop,enm,enum,ekids⟩:Exp) (plainX (⟨ek,eof,eop,enm,enum,ekids⟩:Exp))=true∧(j:Int)=σ1.x then some { σ1 with x:=σ1.x+1 } else none))) :
  Calls Tryz.prog 212 #[.pointer (some ⟨t.B,0,none⟩),.int .i64 (j:Int)] w (TPost (t.withK K) X (expr1 ex xs (j:Int) σ)):=by
 have CM0:=hidI (fun W=>zbP (.pointer (some ⟨t.B,0,none⟩)) W);obtain ⟨bq,hq⟩:∃ bq,(enum==1)=bq:=⟨_,rfl⟩;have HQ:=hidI hq;clear hq;have HA:Hid (TlS (t.withK K) σ ((xBx (w.heap.size+1) ek 0 0 ⟨#[]⟩ 0 (.slice none 0 0))::(xBx w.heap.size ek eof eop enm enum (.slice a1 ekids.length c1))::X) ((w.alloc (.cells #[.int .u8 (ek:Int),.int .u8 (eof:Int),.int .u8 (eop:Int),.string enm,.int .i64 enum,.slice a1 ekids.length c1] 82)).alloc (.cells #[.int .u8 (ek:Int),.int .u8 0,.int .u8 0,.string ⟨#[]⟩,.int .i64 0,.slice none 0 0] 82))):=hidI (by
  have h0:=((h.newbox 82 6 #[.int .u8 (ek:Int),.int .u8 (eof:Int),.int .u8 (eop:Int),.string enm,.int .i64 enum,.slice a1 ekids.length c1] rfl).newbox 82 6 #[.int .u8 (ek:Int),.int .u8 0,.int .u8 0,.string ⟨#[]⟩,.int .i64 0,.slice none 0 0] rfl);simp only [World.size_alloc] at h0;exact h0)
 have HM1:Hid (expr1 ex xs (j:Int) σ=(match tShaped (exprW ek) (exprSh ek) (ctnX (⟨ek,eof,eop,enm,enum,ekids⟩:Exp)) (tPart noT noT noT (ctnX (⟨ek,eof,eop,enm,enum,ekids⟩:Exp))) σ with|none=>none|some σ1=>if sameX (⟨ek,eof,eop,enm,enum,ekids⟩:Exp) (⟨ek,0,0,enm,asW bq,[]⟩:Exp)=true∧(j:Int)=σ1.x then some { σ1 with x:=σ1.x+1 } else none)):=hidI (by
  rw [HM.out];have e1:tBody ex (⟨ek,eof,eop,enm,enum,ekids⟩:Exp)=tShaped (exprW ek) (exprSh ek) (ctnX (⟨ek,eof,eop,enm,enum,ekids⟩:Exp)) (tPart noT noT noT (ctnX (⟨ek,eof,eop,enm,enum,ekids⟩:Exp))):=by
   unfold tBody;rw [if_neg hk1,if_neg hk2,if_neg hk10]
  have e2:plainX (⟨ek,eof,eop,enm,enum,ekids⟩:Exp)=⟨ek,0,0,enm,asW bq,[]⟩:=by
   unfold plainX;rw [if_neg hk1,if_neg hk2,if_neg hk10];have:=HQ.out;cases bq with
   | true=>rw [if_pos (beq_iff_eq.1 this)];rfl
   | false=>rw [if_neg (beq_eq_false_iff_ne.1 this)];rfl
  rw [e1,e2])
 have CS:Hid (∀ W,TlS (t.withK K) σ ((xBx (w.heap.size+1) ek 0 0 enm (asW bq) (.slice none 0 0))::(xBx w.heap.size ek eof eop enm enum (.slice a1 ekids.length c1))::X) W→Calls Tryz.prog 159 #[.pointer (some ⟨t.B,0,none⟩),.agg #[.string (exprWd ek),.string (exprPt ek)],.agg #[.string enm,.int .u8 0,.bool bq,.int .i64 (-1),.int .i64 (-1),.slice none 0 0,.slice none 0 0,.slice none 0 0]] W (TPost (t.withK K) ((xBx (w.heap.size+1) ek 0 0 enm (asW bq) (.slice none 0 0))::(xBx w.heap.size ek eof eop enm enum (.slice a1 ekids.length c1))::X) (tShaped (exprW ek) (exprSh ek) (ctnX (⟨ek,eof,eop,enm,enum,ekids⟩:Exp)) (tPart noT noT noT (ctnX (⟨ek,eof,eop,enm,enum,ekids⟩:Exp))) σ))):=hidI (fun W hW=>by
  obtain ⟨p1,p2,p3,p4,p5⟩:=exprPt_asc ek;have h9:=shaped_any hkK (sw:=exprWd ek) (sp:=exprPt ek) p4 p1 (k:=ctnX (⟨ek,eof,eop,enm,enum,ekids⟩:Exp)) (a1:=none) (c1:=0) (a2:=none) (c2:=0) (a3:=none) (c3:=0) (part:=tPart noT noT noT (ctnX (⟨ek,eof,eop,enm,enum,ekids⟩:Exp))) (kp_part zeP zeP zeP) hW (fun c hc=>by
   rw [p2] at hc;rcases p3 c hc with rfl|rfl
   ·exact part_n hkK hnm
   ·exact part_w hkK)
  rw [p2,p5] at h9;rw [p5];have hqd:(ctnX (⟨ek,eof,eop,enm,enum,ekids⟩:Exp)).inn=bq:=HQ.out;rw [hqd] at h9;exact h9)
 have d1:((ek:Int)==1)=false:=by rw [beq_eq_false_iff_ne];omega
 have d2:((ek:Int)==2)=false:=by rw [beq_eq_false_iff_ne];omega
 have d3:((ek:Int)==10)=false:=by rw [beq_eq_false_iff_ne];omega
 clear HM h hk1 hk2 hk10;go_enter Tryz.func212,Tryz.ntmps212
 go_wp2_with (go_at_call 158;refine Calls.mono (CM0.out _) ?_;intro e w3 h3;obtain ⟨rfl,rfl⟩:=h3;clear CM0)
 refine zdC xl4N (fun i=>match i with|0=>.pointer (some ⟨w.heap.size,3,none⟩)|1=>.string enm|2=>.pointer (some ⟨w.heap.size,4,none⟩)|3=>.int .i64 enum|4=>.bool bq|5=>.int .i64 (asW bq)|6=>.pointer (some ⟨w.heap.size+1,3,none⟩)|7=>undef|8=>.pointer (some ⟨w.heap.size+1,4,none⟩)|_=>undef) (fun l9 y=>∃ b9,l9[7]?=some b9∧TlS (t.withK K) σ ((xBx (w.heap.size+1) ek 0 0 (if b9=true then enm else ⟨#[]⟩) 0 (.slice none 0 0))::(xBx w.heap.size ek eof eop enm enum (.slice a1 ekids.length c1))::X) y) 9 Tryz.mixed (by kernel_rfl) (by kernel_rfl) ⟨false,by rw [show (opsA xl4N 9).size=10 from rfl];rfl,HA.out.drew⟩ ?_ ?_
 ·intro i9 hi9 a9 w9 l9 hF9 hL9 hl9 hA9 hS9 K9 hK9;have hc9:i9=0∨i9=1∨i9=2∨i9=3∨i9=4∨i9=5∨i9=6∨i9=7∨i9=8:=by omega
  clear hi9;obtain ⟨b9,hb9,hS9⟩:=hS9;rcases hc9 with rfl|rfl|rfl|rfl|rfl|rfl|rfl|rfl|rfl
  ·have e4:=hF9.od 4 (v:=.pointer (some ⟨w.heap.size,0,none⟩)) rfl;refine zaU rfl ?_ (hK9 _ ⟨b9,(zbM (by decide)).trans hb9,hS9⟩);clear hF9 hA9;simp only [xl4N,execOp,e4];first|done|(go_simp<;>omega)
  ·have e33:=hF9.ev 0 33;have q0:=zaA (hS9.r.own (r:=(xBx w.heap.size ek eof eop enm enum (.slice a1 ekids.length c1))) (by simp)) (j:=3) rfl;refine zaU rfl ?_ (hK9 _ ⟨b9,(zbM (by decide)).trans hb9,hS9⟩);clear hF9 hA9;simp only [xl4N,execOp,e33];first|done|(go_simp<;>omega)
  ·have e4:=hF9.od 4 (v:=.pointer (some ⟨w.heap.size,0,none⟩)) rfl;refine zaU rfl ?_ (hK9 _ ⟨b9,(zbM (by decide)).trans hb9,hS9⟩);clear hF9 hA9;simp only [xl4N,execOp,e4];first|done|(go_simp<;>omega)
  ·have e35:=hF9.ev 2 35;have q0:=zaA (hS9.r.own (r:=(xBx w.heap.size ek eof eop enm enum (.slice a1 ekids.length c1))) (by simp)) (j:=4) rfl;refine zaU rfl ?_ (hK9 _ ⟨b9,(zbM (by decide)).trans hb9,hS9⟩);clear hF9 hA9;simp only [xl4N,execOp,e35];first|done|(go_simp<;>omega)
  ·have e36:=hF9.ev 3 36;have hq9:=HQ.out;refine zaU rfl ?_ (hK9 _ ⟨b9,(zbM (by decide)).trans hb9,hS9⟩);clear hF9 hA9;simp only [xl4N,execOp,e36];first|done|(go_simp<;>omega)
  ·rw [if_pos (zaG rfl)];unfold Oper.wp;have f37:=hF9.nw 4 37;have hr9:(execOp a9.eval (xl4N 5)).run Tryz.prog w9=.ok (.enter 227 #[.bool bq]) w9:=by
    simp only [xl4N,execOp];go_simp
   rw [hr9,Oper.upon_enter];refine Calls.mono (asWord_any bq w9) ?_;rintro e9 w8 ⟨rfl,rfl⟩;exact hK9 _ ⟨b9,(zbM (by decide)).trans hb9,hS9⟩
  ·have e5:=hF9.od 5 (v:=.pointer (some ⟨w.heap.size+1,0,none⟩)) rfl;refine zaU rfl ?_ (hK9 _ ⟨b9,(zbM (by decide)).trans hb9,hS9⟩);clear hF9 hA9;simp only [xl4N,execOp,e5];first|done|(go_simp<;>omega)
  ·have e34:=hF9.ev 1 34;have e39:=hF9.ev 6 39;rw [if_pos (zaG rfl)];unfold Oper.wp;have q0:=zaA hS9.r.row (j:=3) rfl;have z0:=zcT hS9.r.row 3;have hT9:TlS (t.withK K) σ ((xBx (w.heap.size+1) ek 0 0 (if true=true then enm else ⟨#[]⟩) 0 (.slice none 0 0))::(xBx w.heap.size ek eof eop enm enum (.slice a1 ekids.length c1))::X) (w9.setCell ⟨w.heap.size+1,3,none⟩ (.string enm)):=⟨hS9.r.setbox (j:=3) (.string enm),hS9.lim⟩;have hr9:(execOp a9.eval (xl4N 7)).run Tryz.prog w9=.ok .skip (w9.setCell ⟨w.heap.size+1,3,none⟩ (.string enm)):=by
    simp only [xl4N,execOp,e34,e39];first|done|(go_simp<;>omega)
   rw [hr9,Oper.upon_skip];exact hK9 _ ⟨true,by rw [Array.getElem?_setIfInBounds,if_pos rfl,if_pos (by omega)],hT9⟩
  ·have e5:=hF9.od 5 (v:=.pointer (some ⟨w.heap.size+1,0,none⟩)) rfl;refine zaU rfl ?_ (hK9 _ ⟨b9,(zbM (by decide)).trans hb9,hS9⟩);clear hF9 hA9;simp only [xl4N,execOp,e5];first|done|(go_simp<;>omega)
 ·intro w9 l9 hall9 hS9 K9 hK9;replace hS9:TlS (t.withK K) σ ((xBx (w.heap.size+1) ek 0 0 (if true=true then enm else ⟨#[]⟩) 0 (.slice none 0 0))::(xBx w.heap.size ek eof eop enm enum (.slice a1 ekids.length c1))::X) w9:=by
   obtain ⟨b9,hb9,h9⟩:=hS9;have hbt:b9=true:=by have:=hall9 7 (by decide);rw [hb9] at this;exact Option.some.inj this
   rw [hbt] at h9;exact h9
  clear hall9;simp only [putA,xl4N];rw [if_pos (zaG rfl)];unfold Oper.wp;have q0:=zaA hS9.r.row (j:=4) rfl;have z0:=zcT hS9.r.row 4;go_simp;refine hK9 _ _ ?_;clear hK9 K9;obtain ⟨w4,hw4⟩:∃ w4,w9.setCell ⟨w.heap.size+1,4,none⟩ (.int .i64 (asW bq))=w4:=⟨_,rfl⟩;have HS4:Hid (TlS (t.withK K) σ ((xBx (w.heap.size+1) ek 0 0 enm (asW bq) (.slice none 0 0))::(xBx w.heap.size ek eof eop enm enum (.slice a1 ekids.length c1))::X) w4):=hidI (by rw [←hw4];exact ⟨hS9.r.setbox (j:=4) (.int .i64 (asW bq)),hS9.lim⟩);rw [hw4];clear hw4 hS9 q0 z0;go_wp2;refine zaQ xl5N (fun i=>match i with|0=>.pointer (some ⟨t.B,0,none⟩)|1=>.pointer (some ⟨w.heap.size,0,none⟩)|2=>.int .u8 (ek:Int)|3=>.agg #[.string (exprWd ek),.string (exprPt ek)]|4=>.pointer (some ⟨w.heap.size,3,none⟩)|5=>.string enm|6=>.pointer (some ⟨w.heap.size,4,none⟩)|7=>.int .i64 enum|8=>.bool bq|9=>.agg #[.string enm,.int .u8 0,.bool bq,.int .i64 (-1),.int .i64 (-1),.slice none 0 0,.slice none 0 0,.slice none 0 0]|_=>undef) (fun y=>TlS (t.withK K) σ ((xBx (w.heap.size+1) ek 0 0 enm (asW bq) (.slice none 0 0))::(xBx w.heap.size ek eof eop enm enum (.slice a1 ekids.length c1))::X) y) 10 Tryz.mixed (by kernel_rfl) (by kernel_rfl) HS4.out.drew ?_ ?_
  ·intro i9 hi9 a9 w9 hF9 hS9 K9 hK9;have hc9:i9=0∨i9=1∨i9=2∨i9=3∨i9=4∨i9=5∨i9=6∨i9=7∨i9=8∨i9=9:=by omega
   clear hi9;rcases hc9 with rfl|rfl|rfl|rfl|rfl|rfl|rfl|rfl|rfl|rfl
   ·have e0:=hF9.od 0 (v:=.pointer (some ⟨t.B,0,none⟩)) rfl;refine zaU rfl ?_ (hK9 _ hS9);clear hF9;simp only [xl5N,execOp,e0];first|done|(go_simp<;>omega)
   ·have e4:=hF9.od 4 (v:=.pointer (some ⟨w.heap.size,0,none⟩)) rfl;refine zaU rfl ?_ (hK9 _ hS9);clear hF9;simp only [xl5N,execOp,e4];first|done|(go_simp<;>omega)
   ·have e42:=hF9.ev 1 42;have q0:=zaA (hS9.r.own (r:=(xBx w.heap.size ek eof eop enm enum (.slice a1 ekids.length c1))) (by simp)) (j:=0) rfl;refine zaU rfl ?_ (hK9 _ hS9);clear hF9;simp only [xl5N,execOp,e42];first|done|(go_simp<;>omega)
   ·rw [if_pos (zaG rfl)];unfold Oper.wp;have f43:=hF9.nw 2 43;have hr9:(execOp a9.eval (xl5N 3)).run Tryz.prog w9=.ok (.enter 142 #[.int .u8 (ek:Int)]) w9:=by
     simp only [xl5N,execOp];go_simp
    rw [hr9,Oper.upon_enter];refine Calls.mono (exprShK_all ek w9) ?_;rintro e9 w8 ⟨rfl,hb⟩;exact hK9 _ (hS9.on hb)
   ·have e4:=hF9.od 4 (v:=.pointer (some ⟨w.heap.size,0,none⟩)) rfl;refine zaU rfl ?_ (hK9 _ hS9);clear hF9;simp only [xl5N,execOp,e4];first|done|(go_simp<;>omega)
   ·have e45:=hF9.ev 4 45;have q0:=zaA (hS9.r.own (r:=(xBx w.heap.size ek eof eop enm enum (.slice a1 ekids.length c1))) (by simp)) (j:=3) rfl;refine zaU rfl ?_ (hK9 _ hS9);clear hF9;simp only [xl5N,execOp,e45];first|done|(go_simp<;>omega)
   ·have e4:=hF9.od 4 (v:=.pointer (some ⟨w.heap.size,0,none⟩)) rfl;refine zaU rfl ?_ (hK9 _ hS9);clear hF9;simp only [xl5N,execOp,e4];first|done|(go_simp<;>omega)
   ·have e47:=hF9.ev 6 47;have q0:=zaA (hS9.r.own (r:=(xBx w.heap.size ek eof eop enm enum (.slice a1 ekids.length c1))) (by simp)) (j:=4) rfl;refine zaU rfl ?_ (hK9 _ hS9);clear hF9;simp only [xl5N,execOp,e47];first|done|(go_simp<;>omega)
   ·have e48:=hF9.ev 7 48;have hq9:=HQ.out;refine zaU rfl ?_ (hK9 _ hS9);clear hF9;simp only [xl5N,execOp,e48];first|done|(go_simp<;>omega)
   ·have f46:=hF9.nw 5 46;have f49:=hF9.nw 8 49;refine zaU rfl ?_ (hK9 _ hS9);clear hF9;simp only [xl5N,execOp];first|done|(go_simp<;>omega)
  ·intro w9 hS9 K9 hK9;simp only [putA,xl5N];rw [if_pos (zaG rfl)];unfold Oper.wp;go_simp;have CB:=hidI (CS.out w9 hS9);clear hS9;cases hr:tShaped (exprW ek) (exprSh ek) (ctnX (⟨ek,eof,eop,enm,enum,ekids⟩:Exp)) (tPart noT noT noT (ctnX (⟨ek,eof,eop,enm,enum,ekids⟩:Exp))) σ with
   | none=>
    have HR:Hid (expr1 ex xs (j:Int) σ=none):=hidI (by rw [HM1.out,hr]);rw [hr] at CB;refine Calls.mono CB.out ?_;rintro e w5 ⟨rfl,hb5⟩;refine ⟨rfl,?_⟩;rw [HR.out];exact ⟨rfl,hb5.sub (.cons _ (.cons _ (.refl _)))⟩
   | some σ1=>
    rw [hr] at CB;refine Calls.mono CB.out ?_;rintro e w5 ⟨rfl,hb5⟩;refine hK9 _ _ ?_;clear hK9 K9 CB;have HS5:=hidI hb5;clear hb5;have e0:=zaA (HS5.out.r.own (r:=(xBx w.heap.size ek eof eop enm enum (.slice a1 ekids.length c1))) (by simp)) (j:=0) rfl;have e1:=zaA (HS5.out.r.own (r:=(xBx w.heap.size ek eof eop enm enum (.slice a1 ekids.length c1))) (by simp)) (j:=1) rfl;have e2:=zaA (HS5.out.r.own (r:=(xBx w.heap.size ek eof eop enm enum (.slice a1 ekids.length c1))) (by simp)) (j:=2) rfl;have e3:=zaA (HS5.out.r.own (r:=(xBx w.heap.size ek eof eop enm enum (.slice a1 ekids.length c1))) (by simp)) (j:=3) rfl;have e4:=zaA (HS5.out.r.own (r:=(xBx w.heap.size ek eof eop enm enum (.slice a1 ekids.length c1))) (by simp)) (j:=4) rfl;have e5:=zaA (HS5.out.r.own (r:=(xBx w.heap.size ek eof eop enm enum (.slice a1 ekids.length c1))) (by simp)) (j:=5) rfl;have p0:=zaA (HS5.out.r.own (r:=(xBx (w.heap.size+1) ek 0 0 enm (asW bq) (.slice none 0 0))) (by simp)) (j:=0) rfl;have p1:=zaA (HS5.out.r.own (r:=(xBx (w.heap.size+1) ek 0 0 enm (asW bq) (.slice none 0 0))) (by simp)) (j:=1) rfl;have p2:=zaA (HS5.out.r.own (r:=(xBx (w.heap.size+1) ek 0 0 enm (asW bq) (.slice none 0 0))) (by simp)) (j:=2) rfl;have p3:=zaA (HS5.out.r.own (r:=(xBx (w.heap.size+1) ek 0 0 enm (asW bq) (.slice none 0 0))) (by simp)) (j:=3) rfl;have p4:=zaA (HS5.out.r.own (r:=(xBx (w.heap.size+1) ek 0 0 enm (asW bq) (.slice none 0 0))) (by simp)) (j:=4) rfl;have p5:=zaA (HS5.out.r.own (r:=(xBx (w.heap.size+1) ek 0 0 enm (asW bq) (.slice none 0 0))) (by simp)) (j:=5) rfl
    have CX:=hidI (same2_any (⟨ek,eof,eop,enm,enum,ekids⟩:Exp) (⟨ek,0,0,enm,asW bq,[]⟩:Exp) a1 none c1 0 w5 (HV.out.below HS5.out.r.below (Nat.le_refl _)) (sees_nil w5) HKL.out);cases hsx:sameX (⟨ek,eof,eop,enm,enum,ekids⟩:Exp) (⟨ek,0,0,enm,asW bq,[]⟩:Exp) with
    | false=>
     have HR:Hid (expr1 ex xs (j:Int) σ=none):=hidI (by rw [HM1.out,hr];simp only [hsx];simp);rw [hsx] at CX;have CM:=hidI (fun W=>zbF (.pointer (some ⟨t.B,0,none⟩)) W);clear hsx hr HM1
     go_wp2_with (first
      | (go_at_call 228;refine Calls.mono CX.out ?_;intro e w6 h6;obtain ⟨rfl,hb6⟩:=h6;clear CX;have HS6:=hidI (HS5.out.on hb6);have b4:w6.cell? ⟨t.B,4,none⟩=some (.int .i64 (σ1.x:Int)):=HS6.out.r.cell (j:=4) (u:=.int .i64 (σ1.x:Int)) rfl;have z4:w6.frozen? ⟨t.B,4,none⟩=false:=HS6.out.r.free 4)
      | (go_at_call 158;refine Calls.mono (CM.out _) ?_;intro e w7 h7;obtain ⟨rfl,rfl⟩:=h7;clear CM))
     refine ⟨rfl,?_⟩;rw [HR.out];exact ⟨rfl,HS6.out.bad (.cons _ (.cons _ (.refl _)))⟩
    | true=>
     rw [hsx] at CX;by_cases hi:(j:Int)=(σ1.x:Int)
     ·have d9:((j:Int)==(σ1.x:Int))=true:=by rw [hi];simp
      have HR:Hid (expr1 ex xs (j:Int) σ=some { σ1 with x:=σ1.x+1 }):=hidI (by rw [HM1.out,hr];simp only [hsx,hi,and_self,if_true]);have hxb:(σ1.x:Int)≤1099511627776:=by have:=HL.out;omega
      have CM:=hidI (fun W=>zbP (.pointer (some ⟨t.B,0,none⟩)) W);clear hsx hr HM1 hi
      go_wp2_with (first
       | (go_at_call 228;refine Calls.mono CX.out ?_;intro e w6 h6;obtain ⟨rfl,hb6⟩:=h6;clear CX;have HS6:=hidI (HS5.out.on hb6);have b4:w6.cell? ⟨t.B,4,none⟩=some (.int .i64 (σ1.x:Int)):=HS6.out.r.cell (j:=4) (u:=.int .i64 (σ1.x:Int)) rfl;have z4:w6.frozen? ⟨t.B,4,none⟩=false:=HS6.out.r.free 4;have HFIN:Hid (TlS (t.withK K) { σ1 with x:=σ1.x+1 } X (w6.setCell ⟨t.B,4,none⟩ (.int .i64 ((σ1.x:Int)+1)))):=hidI ⟨((HS6.out.r.setc 4 (.int .i64 ((σ1.x:Int)+1)) { σ1 with x:=σ1.x+1 } rfl (by simp [tlBox])).sub (.cons _ (.cons _ (.refl _)))),HS6.out.lim⟩)
       | (go_at_call 158;refine Calls.mono (CM.out _) ?_;intro e w7 h7;obtain ⟨rfl,rfl⟩:=h7;clear CM))
      go_end0;rw [HR.out];exact ⟨rfl,HFIN.out⟩
     ·have d9:((j:Int)==(σ1.x:Int))=false:=by rw [beq_eq_false_iff_ne];exact hi
      have HR:Hid (expr1 ex xs (j:Int) σ=none):=hidI (by rw [HM1.out,hr];simp only [hi,and_false,if_false]);have CM:=hidI (fun W=>zbF (.pointer (some ⟨t.B,0,none⟩)) W);clear hsx hr HM1 hi
      go_wp2_with (first
       | (go_at_call 228;refine Calls.mono CX.out ?_;intro e w6 h6;obtain ⟨rfl,hb6⟩:=h6;clear CX;have HS6:=hidI (HS5.out.on hb6);have b4:w6.cell? ⟨t.B,4,none⟩=some (.int .i64 (σ1.x:Int)):=HS6.out.r.cell (j:=4) (u:=.int .i64 (σ1.x:Int)) rfl;have z4:w6.frozen? ⟨t.B,4,none⟩=false:=HS6.out.r.free 4)
       | (go_at_call 158;refine Calls.mono (CM.out _) ?_;intro e w7 h7;obtain ⟨rfl,rfl⟩:=h7;clear CM))
      refine ⟨rfl,?_⟩;rw [HR.out];exact ⟨rfl,HS6.out.bad (.cons _ (.cons _ (.refl _)))⟩
set_option maxRecDepth 100000 in
set_option maxHeartbeats 4000000 in
theorem expr1K {t:Tx} {F:Nat} (hk:t.Ok F) {ex:Int→TM} (hkp:∀ i,Kp (ex i)) {f0:Nat} (HE:∀ i,AtC t 212 (ex i) (f0+1) i) (i:Int):AtC t 212 (expr1 ex t.P.prg.exprs i) f0 i:=by
 intro K σ X w h hf;have hkK:=hk.withK K;obtain ⟨xs,hxs⟩:∃ xs,t.P.prg.exprs=xs:=⟨_,rfl⟩;have hxl:t.P.xs.length=xs.length:=by rw [←hxs];simp [PV.prg]
 obtain ⟨_,va,cap,hsv,hcell⟩:=hk.sees.x.below h.r.below (Nat.le_refl _);have b1:w.cell? ⟨t.B,1,none⟩=some t.P.xv:=h.r.cell (j:=1) (u:=t.P.xv) rfl;rw [hsv,hxl] at b1;have hL:=hk.ok.xl;rw [hxs] at hL;rw [hxs];by_cases h0:¬ 0≤i
 ·have HR:Hid (expr1 ex xs i σ=none):=hidI (by unfold expr1;rw [if_neg (fun e=>h0 e.1)]);have CM:=hidI (fun W=>zbF (.pointer (some ⟨t.B,0,none⟩)) W);have HB:=hidI (h.bad (.refl _));clear hcell HE h hk hkK hsv;go_enter Tryz.func212,Tryz.ntmps212
  go_wp2_with (go_at_call 158;refine Calls.mono (CM.out _) ?_;intro e w3 h3;obtain ⟨rfl,rfl⟩:=h3;clear CM)
  refine ⟨rfl,?_⟩;rw [HR.out];exact ⟨rfl,HB.out⟩
 replace h0:=Decidable.not_not.1 h0;by_cases h1:¬ i<(xs.length:Int)
 ·have HR:Hid (expr1 ex xs i σ=none):=hidI (by unfold expr1;rw [if_neg (fun e=>h1 e.2)]);have CM:=hidI (fun W=>zbF (.pointer (some ⟨t.B,0,none⟩)) W);have HB:=hidI (h.bad (.refl _));clear hcell HE h hk hkK hsv;go_enter Tryz.func212,Tryz.ntmps212
  go_wp2_with (go_at_call 158;refine Calls.mono (CM.out _) ?_;intro e w3 h3;obtain ⟨rfl,rfl⟩:=h3;clear CM)
  refine ⟨rfl,?_⟩;rw [HR.out];exact ⟨rfl,HB.out⟩
 replace h1:=Decidable.not_not.1 h1;obtain ⟨j,rfl⟩:∃ j:Nat,i=(j:Int):=⟨i.toNat,by omega⟩;obtain ⟨x,hx⟩:∃ x,t.P.xs[j]?=some x:=⟨_,List.getElem?_eq_getElem (by omega)⟩;have hmx:=List.mem_of_getElem? hx;have hxd:xs.getD (j:Int).toNat exp0=x.1:=by
  rw [←hxs];simp [PV.prg,List.getD_eq_getElem?_getD,hx]
 have hxk:=hk.sees.xk x hmx;have hxo:=hk.ok.x x.1 (by simp only [PV.prg];exact List.mem_map_of_mem hmx);rcases hcell with hc0|⟨b,o,rfl,hcell⟩
 ·omega
 have x0:=hcell (j*6+0) _ (by unfold flatX;rw [zbE xcells 6 zbR t.P.xs j 0 x hx (by omega)];rfl);have x1:=hcell (j*6+1) _ (by unfold flatX;rw [zbE xcells 6 zbR t.P.xs j 1 x hx (by omega)];rfl);have x2:=hcell (j*6+2) _ (by unfold flatX;rw [zbE xcells 6 zbR t.P.xs j 2 x hx (by omega)];rfl);have x3:=hcell (j*6+3) _ (by unfold flatX;rw [zbE xcells 6 zbR t.P.xs j 3 x hx (by omega)];rfl);have x4:=hcell (j*6+4) _ (by unfold flatX;rw [zbE xcells 6 zbR t.P.xs j 4 x hx (by omega)];rfl);have x5:=hcell (j*6+5) _ (by unfold flatX;rw [zbE xcells 6 zbR t.P.xs j 5 x hx (by omega)];rfl);simp only [Nat.add_zero,←Nat.add_assoc] at x0 x1 x2 x3 x4 x5;obtain ⟨⟨ek,eof,eop,enm,enum,ekids⟩,kv⟩:=x;simp only at hxk hxo hxd x0 x1 x2 x3 x4 x5;obtain ⟨_,a1,c1,rfl,_⟩:=id hxk;obtain ⟨o1,o2,o3,o4,o5⟩:=hxo;have HM:Hid (expr1 ex xs (j:Int) σ=(match tBody ex (⟨ek,eof,eop,enm,enum,ekids⟩:Exp) σ with|none=>none|some σ1=>if sameX (⟨ek,eof,eop,enm,enum,ekids⟩:Exp) (plainX (⟨ek,eof,eop,enm,enum,ekids⟩:Exp))=true∧(j:Int)=σ1.x then some { σ1 with x:=σ1.x+1 } else none)):=hidI (by
  unfold expr1;rw [if_pos ⟨h0,h1⟩,hxd];rfl)
 have HL:=hidI (show (j:Int)≤1099511627776 by omega);by_cases k1:ek=1
 ·subst k1;exact exprL hkK h (hidI hxk) (hidI o5) HL b1 h0 h1 x0 x1 x2 x3 x4 x5 HM
 by_cases k2:ek=2
 ·subst k2;exact exprV hkK h (hidI hxk) (hidI o5) o4 HL b1 h0 h1 x0 x1 x2 x3 x4 x5 HM
 by_cases k10:ek=10
 ·subst k10;exact exprC hkK hkp (hidI HE) h (hidI hf) (hidI hxk) (hidI o5) HL b1 h0 h1 x0 x1 x2 x3 x4 x5 HM
 exact exprD hkK h k1 k2 k10 (hidI hxk) (hidI o5) o4 HL b1 h0 h1 x0 x1 x2 x3 x4 x5 HM
theorem exprK {t:Tx} {F:Nat} (hk:t.Ok F):∀ (f:Nat) (i:Int),AtC t 212 (tExpr t.P.prg.exprs f i) (401-f) i
 | 0,_=>fun K σ1 Y w1 h1 h2=>by
  have:=h1.lim.1;omega
 | f+1,i=>by
  rw [tExpr_succ];exact expr1K hk (kp_expr _ f) (fun i9=>(exprK hk f i9).weak (by omega)) i
theorem declO1 (sd kd:Nat) (h:sd<1) (w:World):Calls Tryz.prog 145 #[.int .u8 (sd:Int),.int .u8 (kd:Int)] w (ShPost w ⟨#[]⟩ ⟨#[]⟩):=by
 have k1:(sd:Int)<1:=by omega
 clear h;go_enter Tryz.func145,Tryz.ntmps145;go_wp2
 (try go_region)
 all_goals
  go_wp2
  (try simp only [Exit.inBlock,Exit.then])
  refine bodyPost_ret (v:=.agg #[.string ⟨#[]⟩,.string ⟨#[]⟩]) ?_ rfl ⟨by simp,?_⟩
  ·rw [zaC rfl];go_simp
  ·exact belowT
theorem declO2 (sd kd:Nat) (h:3<sd) (w:World):Calls Tryz.prog 145 #[.int .u8 (sd:Int),.int .u8 (kd:Int)] w (ShPost w ⟨#[]⟩ ⟨#[]⟩):=by
 have k1:¬ ((sd:Int)<1):=by omega
 have k2:(sd:Int)>3:=by omega
 clear h;go_enter Tryz.func145,Tryz.ntmps145;go_wp2
 (try go_region)
 all_goals
  go_wp2
  (try simp only [Exit.inBlock,Exit.then])
  refine bodyPost_ret (v:=.agg #[.string ⟨#[]⟩,.string ⟨#[]⟩]) ?_ rfl ⟨by simp,?_⟩
  ·rw [zaC rfl];go_simp
  ·exact belowT
theorem declO3 (sd kd:Nat) (h0:1≤sd) (h1:sd≤3) (h:kd<1) (w:World):Calls Tryz.prog 145 #[.int .u8 (sd:Int),.int .u8 (kd:Int)] w (ShPost w ⟨#[]⟩ ⟨#[]⟩):=by
 have k1:¬ ((sd:Int)<1):=by omega
 have k2:¬ ((sd:Int)>3):=by omega
 have k3:(kd:Int)<1:=by omega
 clear h h0 h1;go_enter Tryz.func145,Tryz.ntmps145;go_wp2
 (try go_region)
 all_goals
  go_wp2
  (try simp only [Exit.inBlock,Exit.then])
  refine bodyPost_ret (v:=.agg #[.string ⟨#[]⟩,.string ⟨#[]⟩]) ?_ rfl ⟨by simp,?_⟩
  ·rw [zaC rfl];go_simp
  ·exact belowT
theorem declO4 (sd kd:Nat) (h0:1≤sd) (h1:sd≤3) (h:2<kd) (w:World):Calls Tryz.prog 145 #[.int .u8 (sd:Int),.int .u8 (kd:Int)] w (ShPost w ⟨#[]⟩ ⟨#[]⟩):=by
 have k1:¬ ((sd:Int)<1):=by omega
 have k2:¬ ((sd:Int)>3):=by omega
 have k3:¬ ((kd:Int)<1):=by omega
 have k4:(kd:Int)>2:=by omega
 clear h h0 h1;go_enter Tryz.func145,Tryz.ntmps145;go_wp2
 (try go_region)
 all_goals
  go_wp2
  (try simp only [Exit.inBlock,Exit.then])
  refine bodyPost_ret (v:=.agg #[.string ⟨#[]⟩,.string ⟨#[]⟩]) ?_ rfl ⟨by simp,?_⟩
  ·rw [zaC rfl];go_simp
  ·exact belowT
def declWd (sd kd:Nat):ByteArray:=if 1≤sd∧sd≤3∧1≤kd∧kd≤2 then dWd ((sd-1)*2+(kd-1)) else ⟨#[]⟩
def declPt (sd kd:Nat):ByteArray:=if 1≤sd∧sd≤3∧1≤kd∧kd≤2 then ⟨#[110]⟩ else ⟨#[]⟩
theorem declSh_all (sd kd:Nat) (w:World):Calls Tryz.prog 145 #[.int .u8 (sd:Int),.int .u8 (kd:Int)] w (ShPost w (declWd sd kd) (declPt sd kd)):=by
 unfold declWd declPt;by_cases h:1≤sd∧sd≤3∧1≤kd∧kd≤2
 ·rw [if_pos h,if_pos h];exact declSh_any sd kd h.1 h.2.1 h.2.2.1 h.2.2.2 w
 ·rw [if_neg h,if_neg h];by_cases h1:sd<1
  ·exact declO1 sd kd h1 w
  by_cases h2:3<sd
  ·exact declO2 sd kd h2 w
  by_cases h3:kd<1
  ·exact declO3 sd kd (by omega) (by omega) h3 w
  ·exact declO4 sd kd (by omega) (by omega) (by omega) w
theorem declPt_asc (sd kd:Nat):(∀ (i:Nat) (h:i<(declPt sd kd).size),((declPt sd kd)[i]'h).toNat<128)∧ptL (declPt sd kd)=declS sd kd∧(∀ x∈declS sd kd,x=110)∧SmlN (declWd sd kd)∧declWd sd kd=declW sd kd:=by
 by_cases h:1≤sd∧sd≤3∧1≤kd∧kd≤2
 ·have hs:sd=1∨sd=2∨sd=3:=by omega
  have hq:kd=1∨kd=2:=by omega
  rcases hs with rfl|rfl|rfl<;>rcases hq with rfl|rfl<;>exact ⟨by decide,by decide +kernel,by decide +kernel,by unfold SmlN;decide +kernel,by decide +kernel⟩
 ·have e4:declW sd kd=⟨#[]⟩:=by
   unfold declW;rw [if_neg (by omega),if_neg (by omega),if_neg (by omega),if_neg (by omega),if_neg (by omega),if_neg (by omega)]
  have e1:declPt sd kd=⟨#[]⟩:=by unfold declPt;rw [if_neg h]
  have e2:declS sd kd=[]:=by unfold declS;rw [if_pos e4]
  have e3:declWd sd kd=⟨#[]⟩:=by unfold declWd;rw [if_neg h]
  rw [e1,e2,e3,e4];exact ⟨by decide,by decide +kernel,by simp,by unfold SmlN;decide,rfl⟩
end Go.Proofs.YtfljimpgnlfipaaGreatDoor
