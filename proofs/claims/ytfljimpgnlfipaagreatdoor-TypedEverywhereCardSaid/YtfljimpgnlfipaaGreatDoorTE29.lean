/-
  Part 29 of the proof: TlB, TlSh, TlC.
-/
import Derived.Test.YtfljimpgnlfipaaGreatDoorTE28
import Derived.Test.YtfljimpgnlfipaaGreatDoorTE04
import Derived.Lib.IndexAny
import Derived.Test.YtfljimpgnlfipaaGreatDoorTE03
import Derived.Test.YtfljimpgnlfipaaGreatDoorTE02
import Derived.Test.YtfljimpgnlfipaaGreatDoorTE05
namespace Go.Proofs.YtfljimpgnlfipaaGreatDoor
open Go.RowKit Go.Deep Go.MapKept
def Clo (G:Nat) (caps:Array Value):Prop:=
 (G=190∧∃ a b c:Nat,caps=#[.pointer (some ⟨a,0,none⟩),.pointer (some ⟨b,0,none⟩),.pointer (some ⟨c,0,none⟩)]) ∨
 (G=240∧∃ a b c:Nat,caps=#[.pointer (some ⟨a,0,none⟩),.pointer (some ⟨b,0,none⟩),.pointer (some ⟨c,0,none⟩)]) ∨
 (G=214∧∃ a b:Nat,caps=#[.pointer (some ⟨a,0,none⟩),.pointer (some ⟨b,0,none⟩)]) ∨
 (G=215∧∃ a b:Nat,caps=#[.pointer (some ⟨a,0,none⟩),.pointer (some ⟨b,0,none⟩)])
set_option maxHeartbeats 2000000 in
theorem brk2_any {t:Tx} {F:Nat} (hk:t.Ok F) {σ:TS} {X:List Rw} {w:World} (h:TlS t σ X w) {G:Nat} {caps:Array Value} (hc:Clo G caps) {g:TM} (hg:Kp g)
  (HG:∀ (σ1:TS) (w1:World),TlS t σ1 X w1→σ1.f=σ.f+1→Calls Tryz.prog G caps w1 (TPost t X (g σ1))) :
  Calls Tryz.prog 189 #[.pointer (some ⟨t.B,0,none⟩),.func (.func G) #[] caps] w (TPost t X (tBrk g σ)):=by
 obtain rfl:=hk.isF;obtain ⟨hput,hfn⟩:=hk.fn;have HFN:=hidI hfn;have HPUT:=hidI hput;have HG:=hidI HG;obtain ⟨l1,l2,l3⟩:=h.lim;have b7:=h.r.cell (j:=7) (u:=.int .i64 (σ.d:Int)) rfl;have z7:=h.r.free 7;have HS1:Hid (TlR t { σ with d:=σ.d+1 } X (w.setCell ⟨t.B,7,none⟩ (.int .i64 ((σ.d:Int)+1)))):=hidI (h.r.setc 7 _ { σ with d:=σ.d+1 } rfl (by simp [tlBox]));have c7:=HS1.out.cell (j:=7) (u:=.int .i64 ((σ.d:Int)+1)) rfl;have hB:=h.r.lt;have HKP:=hidI hg;clear h hput hfn hg;by_cases hd:σ.d+1≤12
 ·have k1:(σ.d:Int)+1≤12:=by omega
  have CM:=hidI (fun W=>zbP (.pointer (some ⟨t.B,0,none⟩)) W);have CF:=hidI (form_any hk (tk:=⟨1,⟨#[]⟩,0,0⟩) HS1.out ⟨l1,by show σ.ts.length+(σ.d+1)≤2*σ.f+1;omega,hd⟩ (by unfold SmlN;decide));have HO:Hid (tForm ⟨1,⟨#[]⟩,0,0⟩ { σ with d:=σ.d+1 }=tOpen σ):=hidI (by unfold tOpen;rw [if_pos hd];rfl);rw [HO.out] at CF;cases ho:tOpen σ with
  | none=>
   have HR:Hid (tBrk g σ=none):=hidI (by unfold tBrk;rw [ho]);rw [ho] at CF;clear ho HG HFN HO;rcases hc with ⟨rfl,a,b,c,rfl⟩|⟨rfl,a,b,c,rfl⟩|⟨rfl,a,b,rfl⟩|⟨rfl,a,b,rfl⟩
   all_goals
    go_enter Tryz.func189,Tryz.ntmps189
    go_wp2_with (first
     | (go_at_call 158;refine Calls.mono (CM.out _) ?_;intro e w2 h2;obtain ⟨rfl,rfl⟩:=h2;clear CM)
     | (go_at_call 209;refine Calls.mono (CF.out) ?_;intro e w3 h3;obtain ⟨rfl,hb3⟩:=h3;clear CF))
    refine ⟨rfl,?_⟩;rw [HR.out];exact ⟨rfl,hb3⟩
  | some σ1=>
   rw [ho] at CF;obtain ⟨o1,o2,o3,o4,o5,_⟩:=kp_open ho;have HF1:=hidI o2;have HO1:=hidI o1;clear o1 o2 o3 o4 o5 HO;cases hr:g σ1 with
   | none=>
    have HR:Hid (tBrk g σ=none):=hidI (by unfold tBrk;rw [ho];simp only [hr]);have HG:=hidI (fun w1 (h1:TlS t σ1 X w1) (h2:σ1.f=σ.f+1)=>HG.out σ1 w1 h1 h2);rw [hr] at HG;replace HG:Hid (∀ (σ9:Unit) w1,TlS t σ1 X w1→σ1.f=σ.f+1→Calls Tryz.prog G caps w1 (TPost t X none)):=hidI (fun _=>HG.out);clear ho hr HFN;rcases hc with ⟨rfl,a,b,c,rfl⟩|⟨rfl,a,b,c,rfl⟩|⟨rfl,a,b,rfl⟩|⟨rfl,a,b,rfl⟩
    ·go_enter Tryz.func189,Tryz.ntmps189
     go_wp2_with (first
      | (go_at_call 158;refine Calls.mono (CM.out _) ?_;intro e w2 h2;obtain ⟨rfl,rfl⟩:=h2;clear CM)
      | (go_at_call 209;refine Calls.mono (CF.out) ?_;intro e w3 h3;obtain ⟨rfl,hb3⟩:=h3;clear CF;have HS3:=hidI hb3;clear hb3)
      | (go_at_call 190;refine Calls.mono (HG.out () _ HS3.out HF1.out) ?_;intro e w4 h4;obtain ⟨rfl,hb4⟩:=h4;clear HG))
     refine ⟨rfl,?_⟩;rw [HR.out];exact ⟨rfl,hb4⟩
    ·go_enter Tryz.func189,Tryz.ntmps189
     go_wp2_with (first
      | (go_at_call 158;refine Calls.mono (CM.out _) ?_;intro e w2 h2;obtain ⟨rfl,rfl⟩:=h2;clear CM)
      | (go_at_call 209;refine Calls.mono (CF.out) ?_;intro e w3 h3;obtain ⟨rfl,hb3⟩:=h3;clear CF;have HS3:=hidI hb3;clear hb3)
      | (go_at_call 240;refine Calls.mono (HG.out () _ HS3.out HF1.out) ?_;intro e w4 h4;obtain ⟨rfl,hb4⟩:=h4;clear HG))
     refine ⟨rfl,?_⟩;rw [HR.out];exact ⟨rfl,hb4⟩
    ·go_enter Tryz.func189,Tryz.ntmps189
     go_wp2_with (first
      | (go_at_call 158;refine Calls.mono (CM.out _) ?_;intro e w2 h2;obtain ⟨rfl,rfl⟩:=h2;clear CM)
      | (go_at_call 209;refine Calls.mono (CF.out) ?_;intro e w3 h3;obtain ⟨rfl,hb3⟩:=h3;clear CF;have HS3:=hidI hb3;clear hb3)
      | (go_at_call 214;refine Calls.mono (HG.out () _ HS3.out HF1.out) ?_;intro e w4 h4;obtain ⟨rfl,hb4⟩:=h4;clear HG))
     refine ⟨rfl,?_⟩;rw [HR.out];exact ⟨rfl,hb4⟩
    ·go_enter Tryz.func189,Tryz.ntmps189
     go_wp2_with (first
      | (go_at_call 158;refine Calls.mono (CM.out _) ?_;intro e w2 h2;obtain ⟨rfl,rfl⟩:=h2;clear CM)
      | (go_at_call 209;refine Calls.mono (CF.out) ?_;intro e w3 h3;obtain ⟨rfl,hb3⟩:=h3;clear CF;have HS3:=hidI hb3;clear hb3)
      | (go_at_call 215;refine Calls.mono (HG.out () _ HS3.out HF1.out) ?_;intro e w4 h4;obtain ⟨rfl,hb4⟩:=h4;clear HG))
     refine ⟨rfl,?_⟩;rw [HR.out];exact ⟨rfl,hb4⟩
   | some σ2=>
    have HR:Hid (tBrk g σ=some (tClose σ2)):=hidI (by unfold tBrk;rw [ho];simp only [hr]);have HG:=hidI (fun w1 (h1:TlS t σ1 X w1) (h2:σ1.f=σ.f+1)=>HG.out σ1 w1 h1 h2);rw [hr] at HG;replace HG:Hid (∀ (σ9:Unit) w1,TlS t σ1 X w1→σ1.f=σ.f+1→Calls Tryz.prog G caps w1 (TPost t X (some σ2))):=hidI (fun _=>HG.out);have HD2:Hid ((σ2.d:Int)=(σ.d:Int)+1):=hidI (by have:=(HKP.out _ _ hr).1;have:=HO1.out;omega);clear ho hr;rcases hc with ⟨rfl,a,b,c,rfl⟩|⟨rfl,a,b,c,rfl⟩|⟨rfl,a,b,rfl⟩|⟨rfl,a,b,rfl⟩
    ·go_enter Tryz.func189,Tryz.ntmps189
     go_wp2_with (first
      | (go_at_call 158;refine Calls.mono (CM.out _) ?_;intro e w2 h2;obtain ⟨rfl,rfl⟩:=h2;clear CM)
      | (go_at_call 209;refine Calls.mono (CF.out) ?_;intro e w3 h3;obtain ⟨rfl,hb3⟩:=h3;clear CF;have HS3:=hidI hb3;clear hb3)
      | (go_at_call 190;refine Calls.mono (HG.out () _ HS3.out HF1.out) ?_;intro e w4 h4;obtain ⟨rfl,hb4⟩:=h4;clear HG;have HS4:=hidI hb4;clear hb4;have c8:=HS4.out.r.cell (j:=8) (u:=t.put) rfl;rw [HPUT.out] at c8)
      | (go_at_call 60;refine Calls.mono (HFN.out _ _ _ ⟨2,⟨#[]⟩,0,0⟩ HS4.out.r (by obtain ⟨m1,m2,m3⟩:=HS4.out.lim;omega) (by unfold SmlN;decide)) ?_;intro e w5 h5;obtain ⟨rfl,hb5⟩:=h5;have HS5:=hidI hb5;clear hb5;have c7:=HS5.out.cell (j:=7) (u:=.int .i64 (σ2.d:Int)) rfl;rw [HD2.out] at c7;have z7:=HS5.out.free 7))
     go_end0;rw [HR.out];refine ⟨rfl,HS5.out.setc 7 _ (tClose σ2) rfl (by simp only [tlBox,tClose];simp;have:=HD2.out;omega),?_⟩;obtain ⟨m1,m2,m3⟩:=HS4.out.lim;have:=HD2.out;refine ⟨m1,?_,?_⟩
     ·show (σ2.ts++[(⟨2,emptyS,0,0⟩:Tok)]).length+(σ2.d-1)≤2*σ2.f;simp only [List.length_append,List.length_cons,List.length_nil];omega
     ·show σ2.d-1≤12;omega
    ·go_enter Tryz.func189,Tryz.ntmps189
     go_wp2_with (first
      | (go_at_call 158;refine Calls.mono (CM.out _) ?_;intro e w2 h2;obtain ⟨rfl,rfl⟩:=h2;clear CM)
      | (go_at_call 209;refine Calls.mono (CF.out) ?_;intro e w3 h3;obtain ⟨rfl,hb3⟩:=h3;clear CF;have HS3:=hidI hb3;clear hb3)
      | (go_at_call 240;refine Calls.mono (HG.out () _ HS3.out HF1.out) ?_;intro e w4 h4;obtain ⟨rfl,hb4⟩:=h4;clear HG;have HS4:=hidI hb4;clear hb4;have c8:=HS4.out.r.cell (j:=8) (u:=t.put) rfl;rw [HPUT.out] at c8)
      | (go_at_call 60;refine Calls.mono (HFN.out _ _ _ ⟨2,⟨#[]⟩,0,0⟩ HS4.out.r (by obtain ⟨m1,m2,m3⟩:=HS4.out.lim;omega) (by unfold SmlN;decide)) ?_;intro e w5 h5;obtain ⟨rfl,hb5⟩:=h5;have HS5:=hidI hb5;clear hb5;have c7:=HS5.out.cell (j:=7) (u:=.int .i64 (σ2.d:Int)) rfl;rw [HD2.out] at c7;have z7:=HS5.out.free 7))
     go_end0;rw [HR.out];refine ⟨rfl,HS5.out.setc 7 _ (tClose σ2) rfl (by simp only [tlBox,tClose];simp;have:=HD2.out;omega),?_⟩;obtain ⟨m1,m2,m3⟩:=HS4.out.lim;have:=HD2.out;refine ⟨m1,?_,?_⟩
     ·show (σ2.ts++[(⟨2,emptyS,0,0⟩:Tok)]).length+(σ2.d-1)≤2*σ2.f;simp only [List.length_append,List.length_cons,List.length_nil];omega
     ·show σ2.d-1≤12;omega
    ·go_enter Tryz.func189,Tryz.ntmps189
     go_wp2_with (first
      | (go_at_call 158;refine Calls.mono (CM.out _) ?_;intro e w2 h2;obtain ⟨rfl,rfl⟩:=h2;clear CM)
      | (go_at_call 209;refine Calls.mono (CF.out) ?_;intro e w3 h3;obtain ⟨rfl,hb3⟩:=h3;clear CF;have HS3:=hidI hb3;clear hb3)
      | (go_at_call 214;refine Calls.mono (HG.out () _ HS3.out HF1.out) ?_;intro e w4 h4;obtain ⟨rfl,hb4⟩:=h4;clear HG;have HS4:=hidI hb4;clear hb4;have c8:=HS4.out.r.cell (j:=8) (u:=t.put) rfl;rw [HPUT.out] at c8)
      | (go_at_call 60;refine Calls.mono (HFN.out _ _ _ ⟨2,⟨#[]⟩,0,0⟩ HS4.out.r (by obtain ⟨m1,m2,m3⟩:=HS4.out.lim;omega) (by unfold SmlN;decide)) ?_;intro e w5 h5;obtain ⟨rfl,hb5⟩:=h5;have HS5:=hidI hb5;clear hb5;have c7:=HS5.out.cell (j:=7) (u:=.int .i64 (σ2.d:Int)) rfl;rw [HD2.out] at c7;have z7:=HS5.out.free 7))
     go_end0;rw [HR.out];refine ⟨rfl,HS5.out.setc 7 _ (tClose σ2) rfl (by simp only [tlBox,tClose];simp;have:=HD2.out;omega),?_⟩;obtain ⟨m1,m2,m3⟩:=HS4.out.lim;have:=HD2.out;refine ⟨m1,?_,?_⟩
     ·show (σ2.ts++[(⟨2,emptyS,0,0⟩:Tok)]).length+(σ2.d-1)≤2*σ2.f;simp only [List.length_append,List.length_cons,List.length_nil];omega
     ·show σ2.d-1≤12;omega
    ·go_enter Tryz.func189,Tryz.ntmps189
     go_wp2_with (first
      | (go_at_call 158;refine Calls.mono (CM.out _) ?_;intro e w2 h2;obtain ⟨rfl,rfl⟩:=h2;clear CM)
      | (go_at_call 209;refine Calls.mono (CF.out) ?_;intro e w3 h3;obtain ⟨rfl,hb3⟩:=h3;clear CF;have HS3:=hidI hb3;clear hb3)
      | (go_at_call 215;refine Calls.mono (HG.out () _ HS3.out HF1.out) ?_;intro e w4 h4;obtain ⟨rfl,hb4⟩:=h4;clear HG;have HS4:=hidI hb4;clear hb4;have c8:=HS4.out.r.cell (j:=8) (u:=t.put) rfl;rw [HPUT.out] at c8)
      | (go_at_call 60;refine Calls.mono (HFN.out _ _ _ ⟨2,⟨#[]⟩,0,0⟩ HS4.out.r (by obtain ⟨m1,m2,m3⟩:=HS4.out.lim;omega) (by unfold SmlN;decide)) ?_;intro e w5 h5;obtain ⟨rfl,hb5⟩:=h5;have HS5:=hidI hb5;clear hb5;have c7:=HS5.out.cell (j:=7) (u:=.int .i64 (σ2.d:Int)) rfl;rw [HD2.out] at c7;have z7:=HS5.out.free 7))
     go_end0;rw [HR.out];refine ⟨rfl,HS5.out.setc 7 _ (tClose σ2) rfl (by simp only [tlBox,tClose];simp;have:=HD2.out;omega),?_⟩;obtain ⟨m1,m2,m3⟩:=HS4.out.lim;have:=HD2.out;refine ⟨m1,?_,?_⟩
     ·show (σ2.ts++[(⟨2,emptyS,0,0⟩:Tok)]).length+(σ2.d-1)≤2*σ2.f;simp only [List.length_append,List.length_cons,List.length_nil];omega
     ·show σ2.d-1≤12;omega
 ·have k1:¬ ((σ.d:Int)+1≤12):=by omega
  have HR:Hid (tBrk g σ=none):=hidI (by unfold tBrk tOpen;rw [if_neg hd]);have CM:=hidI (fun W=>zbF (.pointer (some ⟨t.B,0,none⟩)) W);clear HG HFN;rcases hc with ⟨rfl,a,b,c,rfl⟩|⟨rfl,a,b,c,rfl⟩|⟨rfl,a,b,rfl⟩|⟨rfl,a,b,rfl⟩
  all_goals
   go_enter Tryz.func189,Tryz.ntmps189
   go_wp2_with (first
    | (go_at_call 158;refine Calls.mono (CM.out _) ?_;intro e w2 h2;obtain ⟨rfl,rfl⟩:=h2;clear CM))
   refine ⟨rfl,?_⟩;rw [HR.out];exact ⟨rfl,HS1.out.bad (.refl _)⟩
theorem stmtShK_off (k:Nat) (h:k<1∨7<k) (w:World):Calls Tryz.prog 136 #[.int .u8 (k:Int)] w (ShPost w ⟨#[]⟩ ⟨#[]⟩):=by
 have d1:((k:Int)==1)=false:=by rw [beq_eq_false_iff_ne];omega
 have d2:((k:Int)==2)=false:=by rw [beq_eq_false_iff_ne];omega
 have d3:((k:Int)==3)=false:=by rw [beq_eq_false_iff_ne];omega
 have d4:((k:Int)==4)=false:=by rw [beq_eq_false_iff_ne];omega
 have d5:((k:Int)==5)=false:=by rw [beq_eq_false_iff_ne];omega
 have d6:((k:Int)==6)=false:=by rw [beq_eq_false_iff_ne];omega
 have d7:((k:Int)==7)=false:=by rw [beq_eq_false_iff_ne];omega
 clear h;go_enter Tryz.func136,Tryz.ntmps136;go_wp2
 (try simp only [Exit.inBlock,Exit.then])
 refine bodyPost_ret (v:=.agg #[.string ⟨#[]⟩,.string ⟨#[]⟩]) ?_ rfl ⟨by simp,?_⟩
 ·rw [zaC rfl];go_simp
 ·exact belowT
theorem stmtShK_all (k:Nat) (w:World):Calls Tryz.prog 136 #[.int .u8 (k:Int)] w (ShPost w (stmtWd k) (stmtPt k)):=by
 by_cases h:1≤k∧k≤7
 ·exact stmtSh_any k h.1 h.2 w
 ·have e1:stmtWd k=⟨#[]⟩:=by unfold stmtWd;split<;>first|rfl|omega
  have e2:stmtPt k=⟨#[]⟩:=by unfold stmtPt;split<;>first|rfl|omega
  rw [e1,e2];exact stmtShK_off k (by omega) w
theorem actShK_off (k:Nat) (h:k<1∨3<k) (w:World):Calls Tryz.prog 139 #[.int .u8 (k:Int)] w (ShPost w ⟨#[]⟩ ⟨#[]⟩):=by
 have d1:((k:Int)==1)=false:=by rw [beq_eq_false_iff_ne];omega
 have d2:((k:Int)==2)=false:=by rw [beq_eq_false_iff_ne];omega
 have d3:((k:Int)==3)=false:=by rw [beq_eq_false_iff_ne];omega
 clear h;go_enter Tryz.func139,Tryz.ntmps139;go_wp2
 (try simp only [Exit.inBlock,Exit.then])
 refine bodyPost_ret (v:=.agg #[.string ⟨#[]⟩,.string ⟨#[]⟩]) ?_ rfl ⟨by simp,?_⟩
 ·rw [zaC rfl];go_simp
 ·exact belowT
theorem actShK_all (k:Nat) (w:World):Calls Tryz.prog 139 #[.int .u8 (k:Int)] w (ShPost w (actWd k) (actPt k)):=by
 by_cases h:1≤k∧k≤3
 ·exact actSh_any k h.1 h.2 w
 ·have e1:actWd k=⟨#[]⟩:=by unfold actWd;split<;>first|rfl|omega
  have e2:actPt k=⟨#[]⟩:=by unfold actPt;split<;>first|rfl|omega
  rw [e1,e2];exact actShK_off k (by omega) w
theorem exprShK_off (k:Nat) (h:k<3∨9<k) (w:World):Calls Tryz.prog 142 #[.int .u8 (k:Int)] w (ShPost w ⟨#[]⟩ ⟨#[]⟩):=by
 have d3:((k:Int)==3)=false:=by rw [beq_eq_false_iff_ne];omega
 have d4:((k:Int)==4)=false:=by rw [beq_eq_false_iff_ne];omega
 have d5:((k:Int)==5)=false:=by rw [beq_eq_false_iff_ne];omega
 have d6:((k:Int)==6)=false:=by rw [beq_eq_false_iff_ne];omega
 have d7:((k:Int)==7)=false:=by rw [beq_eq_false_iff_ne];omega
 have d8:((k:Int)==8)=false:=by rw [beq_eq_false_iff_ne];omega
 have d9:((k:Int)==9)=false:=by rw [beq_eq_false_iff_ne];omega
 clear h;go_enter Tryz.func142,Tryz.ntmps142;go_wp2
 (try simp only [Exit.inBlock,Exit.then])
 refine bodyPost_ret (v:=.agg #[.string ⟨#[]⟩,.string ⟨#[]⟩]) ?_ rfl ⟨by simp,?_⟩
 ·rw [zaC rfl];go_simp
 ·exact belowT
theorem exprShK_all (k:Nat) (w:World):Calls Tryz.prog 142 #[.int .u8 (k:Int)] w (ShPost w (exprWd k) (exprPt k)):=by
 by_cases h:1≤k∧k≤10
 ·exact exprSh_any k h.1 h.2 w
 ·have e1:exprWd k=⟨#[]⟩:=by unfold exprWd;split<;>first|rfl|omega
  have e2:exprPt k=⟨#[]⟩:=by unfold exprPt;split<;>first|rfl|omega
  rw [e1,e2];exact exprShK_off k (by omega) w
theorem arityK (o:Nat) (w:World):Calls Tryz.prog 238 #[.int .u8 (o:Int)] w fun e w'=>e=.returned (.int .i64 (arityN o:Int))∧w=w':=by
 by_cases h:o≤19
 ·exact arityN_any o h w
 ·have e:arityN o=0:=by unfold arityN;rw [if_pos (by omega)]
  rw [e];have d1:((o:Int)==15)=false:=by rw [beq_eq_false_iff_ne];omega
  have d2:((o:Int)==18)=false:=by rw [beq_eq_false_iff_ne];omega
  have d3:(1:Int)≤(o:Int):=by omega
  have d4:¬ ((o:Int)≤19):=by omega
  clear h e;go_enter Tryz.func238,Tryz.ntmps238;go_wp2;go_ret;exact ⟨rfl,rfl⟩
theorem redK (o:Nat) (w:World):Calls Tryz.prog 203 #[.int .u8 (o:Int)] w fun e w'=>(∃ q,e=.returned (.tuple #[.int .i64 q,.bool (redN o)]))∧w=w':=by
 by_cases h:o≤19
 ·exact redN_any o h w
 ·have e:redN o=false:=by unfold redN;rw [decide_eq_false];omega
  rw [e];have d1:((o:Int)==1)=false:=by rw [beq_eq_false_iff_ne];omega
  have d2:((o:Int)==6)=false:=by rw [beq_eq_false_iff_ne];omega
  have d3:((o:Int)==7)=false:=by rw [beq_eq_false_iff_ne];omega
  have d4:((o:Int)==16)=false:=by rw [beq_eq_false_iff_ne];omega
  have d5:((o:Int)==17)=false:=by rw [beq_eq_false_iff_ne];omega
  clear h e;go_enter Tryz.func203,Tryz.ntmps203;go_wp2;go_ret2;exact ⟨⟨_,rfl⟩,rfl⟩
theorem zfE (p:ByteArray) (c:Nat) (hc:c<256):hasB p c=(ptL p).contains c:=by
 unfold hasB;rw [←Lib.contains_iff_indexByte,Bool.eq_iff_iff];simp only [List.contains_iff_mem,ptL,List.mem_map];constructor
 ·intro h;exact ⟨_,h,by rw [Nat.toUInt8_eq,UInt8.toNat_ofNat'];omega⟩
 ·rintro ⟨b,hb,rfl⟩;rwa [show b.toNat.toUInt8=b from by simp]
theorem ba_empty_iff (s:ByteArray):(s.toList==[])=decide (s=(⟨#[]⟩:ByteArray)):=by
 have h0:(⟨#[]⟩:ByteArray).toList=[]:=by decide +kernel
 have h1:=zbT s ⟨#[]⟩;rwa [h0] at h1
theorem bareB_eq (sp:ByteArray) (k:Ctn):bareB sp k.name k.op k.inn k.e k.cond k.acts.length k.thn.length k.els.length=bareP (ptL sp) k:=by
 unfold bareB bareP;rw [ba_empty_iff];simp only [zfE sp _ (show 110<256 by decide),zfE sp _ (show 111<256 by decide),zfE sp _ (show 119<256 by decide),zfE sp _ (show 101<256 by decide),zfE sp _ (show 99<256 by decide),zfE sp _ (show 97<256 by decide),zfE sp _ (show 116<256 by decide),zfE sp _ (show 115<256 by decide),zfE sp _ (show 102<256 by decide)];have z:∀ n:Nat,((n:Int)==0)=(n==0):=fun n=>by
  rw [Bool.eq_iff_iff];simp
 rw [z,z,z,z];simp only [Bool.or_assoc]
def tBx (b B:Nat):Rw:=⟨bx b,234,1,1,[.pointer (some ⟨B,0,none⟩)]⟩
def sBx (b:Nat) (sw sp:ByteArray):Rw:=⟨bx b,210,2,1,[.string sw,.string sp]⟩
def cBx (b:Nat) (k:Ctn) (a1:Option Addr) (c1:Nat) (a2:Option Addr) (c2:Nat) (a3:Option Addr) (c3:Nat):Rw:=⟨bx b,226,8,1,[.string k.name,.int .u8 (k.op:Int),.bool k.inn,.int .i64 k.e,.int .i64 k.cond,.slice a1 k.acts.length c1,.slice a2 k.thn.length c2,.slice a3 k.els.length c3]⟩
theorem TlR.own {t:Tx} {σ:TS} {X:List Rw} {w:World} (h:TlR t σ X w) {r:Rw} (hr:r∈X):w.ownsRow t.w0.heap.size r.e r.size r.v r.n r.xs:=by
 obtain ⟨Q,hq,hrows⟩:=h.rows;exact hrows.own r (List.mem_cons_of_mem _ (List.mem_append_right _ hr))
theorem TBad.k {t:Tx} {K:List (Nat × ByteArray × Nat)} {X:List Rw} {w:World} (h:TBad (t.withK K) X w):TBad t X w:=⟨h.below,h.rows⟩
theorem tAll_drop {α:Type} (g:α→TM) (l:List α) (j:Nat) (a:α) (h:l[j]?=some a) (σ:TS):tAll g (l.drop j) σ=(match g a σ with|none=>none|some σ1=>tAll g (l.drop (j+1)) σ1):=by
 have hj:=(List.getElem?_eq_some_iff.1 h).1;have hv:=(List.getElem?_eq_some_iff.1 h).2;rw [List.drop_eq_getElem_cons hj,hv];rfl
def PartC (t:Tx) (k:Ctn) (a1:Option Addr) (c1:Nat) (a2:Option Addr) (c2:Nat) (a3:Option Addr) (c3:Nat) (part:Nat→TM) (c f0:Nat):Prop:=
 ∀ (K:List (Nat × ByteArray × Nat)) (σ1:TS) (Y:List Rw) (w1:World),TlS (t.withK K) σ1 Y w1→f0≤σ1.f→Calls Tryz.prog 192 #[.pointer (some ⟨t.B,0,none⟩),.int .i32 (c:Int),.agg #[.string k.name,.int .u8 (k.op:Int),.bool k.inn,.int .i64 k.e,.int .i64 k.cond,.slice a1 k.acts.length c1,.slice a2 k.thn.length c2,.slice a3 k.els.length c3]] w1 (TPost (t.withK K) Y (part c σ1))
set_option maxRecDepth 100000 in
set_option maxHeartbeats 2000000 in
theorem sclo_any {t:Tx} {F:Nat} (hk:t.Ok F) {sw sp:ByteArray} (hsw:SmlN sw) (hasc:∀ (i:Nat) (h:i<sp.size),(sp[i]'h).toNat<128) {k:Ctn} {a1:Option Addr} {c1:Nat} {a2:Option Addr} {c2:Nat} {a3:Option Addr} {c3:Nat} {part:Nat→TM} (hkp:∀ a,Kp (part a)) {σ:TS} {X:List Rw} {w:World} {tb sb cb:Nat} (h:TlS t σ (cBx cb k a1 c1 a2 c2 a3 c3::sBx sb sw sp::tBx tb t.B::X) w)
  (HP:∀ c∈ptL sp,PartC t k a1 c1 a2 c2 a3 c3 part c σ.f) :
  Calls Tryz.prog 190 #[.pointer (some ⟨tb,0,none⟩),.pointer (some ⟨sb,0,none⟩),.pointer (some ⟨cb,0,none⟩)] w (TPost t (cBx cb k a1 c1 a2 c2 a3 c3::sBx sb sw sp::tBx tb t.B::X) (tSeq (tWord sw) (tAll part (ptL sp)) σ)):=by
 have q0:=zaA (h.r.own (r:=tBx tb t.B) (by simp)) (j:=0) rfl;have s0:=zaA (h.r.own (r:=sBx sb sw sp) (by simp)) (j:=0) rfl;have CW:=hidI (zeC hk h hsw);have HP:=hidI HP;have HASC:=hidI hasc;obtain ⟨n,hn⟩:∃ n,sp.size=n:=⟨_,rfl⟩;have HN:=hidI hn;have HKP:=hidI hkp;clear hasc hn hkp;cases hr:tWord sw σ with
 | none=>
  have HR:Hid (tSeq (tWord sw) (tAll part (ptL sp)) σ=none):=hidI (by unfold tSeq;rw [hr]);rw [hr] at CW;clear hr h HP;go_enter Tryz.func190,Tryz.ntmps190
  go_wp2_with (go_at_call 191;refine CW.out.mono ?_;intro e w1 h1;obtain ⟨rfl,hb1⟩:=h1;clear CW)
  refine ⟨rfl,?_⟩;rw [HR.out];exact ⟨rfl,hb1⟩
 | some σ1=>
  have HR:Hid (tSeq (tWord sw) (tAll part (ptL sp)) σ=tAll part (ptL sp) σ1):=hidI (by unfold tSeq;rw [hr]);have HF1:=hidI (zdW sw _ _ hr).2.1;rw [hr] at CW;clear hr h;go_enter Tryz.func190,Tryz.ntmps190
  go_wp2_with (go_at_call 191;refine CW.out.mono ?_;intro e w1 h1;obtain ⟨rfl,hb1⟩:=h1;clear CW;have HS1:=hidI hb1;clear hb1;have s1:=zaA (HS1.out.r.own (r:=sBx sb sw sp) (by simp)) (j:=1) rfl)
  have HKL:=hidI HS1.out.r.klt;have HSZ:=hidI HS1.out.r.size;have HST:Hid (TlS (t.withK ((w1.heap.size,sp,0)::t.K)) σ1 (cBx cb k a1 c1 a2 c2 a3 c3::sBx sb sw sp::tBx tb t.B::X) (w1.iter sp 0)):=hidI (TlS.push (HS1.out.alloc (.stringIter sp 0)) (x:=(w1.heap.size,sp,0)) (World.iter_heap w1 sp 0));obtain ⟨it,hit⟩:∃ it,w1.heap.size=it:=⟨_,rfl⟩;rw [hit] at HKL HSZ HST;simp only [hit];clear hit HS1
  go_loopg [4] n (fun g s4 wx=>∃ (pos:Nat) (σj:TS),pos+g=n∧Hid (tAll part (ptL sp) σ1=tAll part ((ptL sp).drop pos) σj)∧Hid (σ.f≤σj.f)∧Hid (TlS (t.withK ((it,sp,pos)::t.K)) σj (cBx cb k a1 c1 a2 c2 a3 c3::sBx sb sw sp::tBx tb t.B::X) wx))
  case atStart=>exact ⟨0,σ1,by omega,hidI rfl,HF1,HST⟩
  case round=>
   obtain ⟨pos,σj,hpg,HT,HF,HS⟩:=hrel;clear HST;have hki:=HS.out.r.kept (it,sp,pos) (List.mem_cons_self ..);cases gk with
   | zero=>
    obtain rfl:n=pos:=by omega
    have qe:=fun ty=>Lib.run_next_end_at (P:=Tryz.prog) wr it sp n ty hki (by have:=HN.out;omega)
    have HR2:Hid (tSeq (tWord sw) (tAll part (ptL sp)) σ=some σj):=hidI (by
     rw [HR.out,HT.out,List.drop_of_length_le (by rw [ptL_len,HN.out];omega)];rfl)
    clear hki;go_wp2;go_end0;rw [HR2.out];exact ⟨rfl,HS.out.pop⟩
   | succ g=>
    have hlt':pos<sp.size:=by have:=HN.out;omega
    have qn:=fun ty=>Lib.run_next_ascii_at (P:=Tryz.prog) wr it sp pos ty hki hlt' (HASC.out pos hlt')
    obtain ⟨c,hcc⟩:∃ c:Nat,(sp[pos]'hlt').toNat=c:=⟨_,rfl⟩;have hg:(ptL sp)[pos]?=some c:=by
     have hd:pos<sp.data.size:=hlt';unfold ptL;rw [List.getElem?_map,Array.getElem?_toList,Array.getElem?_eq_getElem hd];exact congrArg some hcc
    rw [hcc] at qn;have HS2:=hidI (HS.out.iter HSZ.out HKL.out (pos+1));have q2:=zaA (HS2.out.r.own (r:=tBx tb t.B) (by simp)) (j:=0) rfl;have q10:=zaA (HS2.out.r.own (r:=cBx cb k a1 c1 a2 c2 a3 c3) (by simp)) (j:=0) rfl;have q11:=zaA (HS2.out.r.own (r:=cBx cb k a1 c1 a2 c2 a3 c3) (by simp)) (j:=1) rfl;have q12:=zaA (HS2.out.r.own (r:=cBx cb k a1 c1 a2 c2 a3 c3) (by simp)) (j:=2) rfl;have q13:=zaA (HS2.out.r.own (r:=cBx cb k a1 c1 a2 c2 a3 c3) (by simp)) (j:=3) rfl;have q14:=zaA (HS2.out.r.own (r:=cBx cb k a1 c1 a2 c2 a3 c3) (by simp)) (j:=4) rfl;have q15:=zaA (HS2.out.r.own (r:=cBx cb k a1 c1 a2 c2 a3 c3) (by simp)) (j:=5) rfl;have q16:=zaA (HS2.out.r.own (r:=cBx cb k a1 c1 a2 c2 a3 c3) (by simp)) (j:=6) rfl;have q17:=zaA (HS2.out.r.own (r:=cBx cb k a1 c1 a2 c2 a3 c3) (by simp)) (j:=7) rfl;have CP:=hidI (HP.out c (List.mem_of_getElem? hg) ((it,sp,pos+1)::t.K) σj _ _ HS2.out HF.out);have HD:=hidI (tAll_drop part (ptL sp) pos c hg σj);clear hki hcc hg;cases hr:part c σj with
    | none=>
     have HR2:Hid (tSeq (tWord sw) (tAll part (ptL sp)) σ=none):=hidI (by rw [HR.out,HT.out,HD.out,hr]);rw [hr] at CP;clear hr
     go_wp2_with (go_at_call 192;refine CP.out.mono ?_;intro e w3 h3;obtain ⟨rfl,hb3⟩:=h3;clear CP)
     refine ⟨rfl,?_⟩;rw [HR2.out];exact ⟨rfl,hb3.k⟩
    | some σ2=>
     have HT2:Hid (tAll part (ptL sp) σ1=tAll part ((ptL sp).drop (pos+1)) σ2):=hidI (by rw [HT.out,HD.out,hr]);have HF2:Hid (σ.f≤σ2.f):=hidI (Nat.le_trans HF.out (HKP.out c _ _ hr).2.1);rw [hr] at CP;clear hr
     go_wp2_with (go_at_call 192;refine CP.out.mono ?_;intro e w3 h3;obtain ⟨rfl,hb3⟩:=h3;clear CP;have HS3:=hidI hb3;clear hb3)
     go_roundg g
     case measure=>omega
     case rel=>exact ⟨pos+1,σ2,by omega,HT2,HF2,HS3⟩
def so1N:Nat→Oper
 | 0=>⟨some 6,.load 234 (.tmp 3),234, "tell.go:121",#[],none⟩
 | 1=>⟨some 7,.fieldAddr 210 (.tmp 4) 0,0, "tell.go:121",#[],none⟩
 | 2=>⟨some 8,.load 9 (.tmp 7),9, "tell.go:121",#[⟨1,.data⟩],none⟩
 | 3=>⟨some 9,.binOp .neq 9 (.tmp 8) (.const (.string ⟨#[]⟩)) 9,4, "tell.go:121",#[⟨2,.data⟩],none⟩
 | 4=>⟨some 10,.move (.tmp 9),4, "tell.go:121",#[⟨3,.data⟩],none⟩
 | 5=>⟨some 11,.load 210 (.tmp 4),210, "tell.go:121",#[⟨4,.guard⟩],some (4,true)⟩
 | 6=>⟨some 12,.load 226 (.tmp 5),226, "tell.go:121",#[⟨4,.guard⟩],some (4,true)⟩
 | 7=>⟨some 13,.call ⟨.value (.func 188),#[.tmp 11,.tmp 12],#[210,226]⟩,4, "tell.go:121",#[⟨5,.data⟩,⟨6,.data⟩,⟨4,.chain⟩,⟨4,.guard⟩],some (4,true)⟩
 | 8=>⟨some 14,.pick (.tmp 10) (.tmp 13) (.const (.bool false)),4, "tell.go:121",#[⟨4,.data⟩,⟨7,.data⟩],none⟩
 | _=>⟨some 15,.call ⟨.value (.func 158),#[.tmp 6,.tmp 14],#[234,4]⟩,0, "tell.go:121",#[⟨0,.data⟩,⟨8,.data⟩,⟨7,.chain⟩],none⟩
set_option maxRecDepth 100000 in
set_option maxHeartbeats 2000000 in
theorem shaped_any {t:Tx} {F:Nat} (hk:t.Ok F) {sw sp:ByteArray} (hsw:SmlN sw) (hasc:∀ (i:Nat) (h:i<sp.size),(sp[i]'h).toNat<128) {k:Ctn} {a1:Option Addr} {c1:Nat} {a2:Option Addr} {c2:Nat} {a3:Option Addr} {c3:Nat} {part:Nat→TM} (hkp:∀ a,Kp (part a)) {σ:TS} {X:List Rw} {w:World} (h:TlS t σ X w)
  (HP:∀ c∈ptL sp,PartC t k a1 c1 a2 c2 a3 c3 part c (σ.f+1)) :
  Calls Tryz.prog 159 #[.pointer (some ⟨t.B,0,none⟩),.agg #[.string sw,.string sp],.agg #[.string k.name,.int .u8 (k.op:Int),.bool k.inn,.int .i64 k.e,.int .i64 k.cond,.slice a1 k.acts.length c1,.slice a2 k.thn.length c2,.slice a3 k.els.length c3]] w (TPost t X (tShaped sw (ptL sp) k part σ)):=by
 have hmf:∀ (fn:Go.Fn) (first cap:Array Value) (w:World),(Instr.makeFunc fn first cap).run Tryz.prog w=.ok (.func fn first cap) w:=fun _ _ _ _=>rfl
 have HA:Hid (TlS t σ (cBx (w.heap.size+2) k a1 c1 a2 c2 a3 c3::sBx (w.heap.size+1) sw sp::tBx w.heap.size t.B::X) (((w.alloc (.cells #[.pointer (some ⟨t.B,0,none⟩)] 234)).alloc (.cells #[.string sw,.string sp] 210)).alloc (.cells #[.string k.name,.int .u8 (k.op:Int),.bool k.inn,.int .i64 k.e,.int .i64 k.cond,.slice a1 k.acts.length c1,.slice a2 k.thn.length c2,.slice a3 k.els.length c3] 226))):=hidI (by
  have h0:=((h.newbox 234 1 #[.pointer (some ⟨t.B,0,none⟩)] rfl).newbox 210 2 #[.string sw,.string sp] rfl).newbox 226 8 #[.string k.name,.int .u8 (k.op:Int),.bool k.inn,.int .i64 k.e,.int .i64 k.cond,.slice a1 k.acts.length c1,.slice a2 k.thn.length c2,.slice a3 k.els.length c3] rfl;simp only [World.size_alloc] at h0;exact h0)
 have HR:Hid (tShaped sw (ptL sp) k part σ=if sw≠(⟨#[]⟩:ByteArray)∧bareP (ptL sp) k=true then tBrk (tSeq (tWord sw) (tAll part (ptL sp))) σ else none):=hidI rfl;by_cases hw:sw=⟨#[]⟩
 ·have HE:Hid ((sw.toList==[])=true):=hidI (by rw [ba_empty_iff,decide_eq_true hw]);have HR:Hid (tShaped sw (ptL sp) k part σ=none):=hidI (by rw [HR.out,if_neg (fun e=>e.1 hw)]);clear hw h HP;go_enter Tryz.func159,Tryz.ntmps159;go_wp2;refine zaQ so1N (fun i=>match i with|0=>.pointer (some ⟨t.B,0,none⟩)|1=>.pointer (some ⟨w.heap.size+1,0,none⟩)|2=>.string sw|3=>.bool false|4=>.bool false|5=>undef|6=>undef|7=>undef|8=>.bool false|_=>undef) (fun y=>TlS t σ (cBx (w.heap.size+2) k a1 c1 a2 c2 a3 c3::sBx (w.heap.size+1) sw sp::tBx w.heap.size t.B::X) y) 9 Tryz.mixed (by kernel_rfl) (by kernel_rfl) HA.out.drew ?_ ?_
  ·intro i9 hi9 a9 w9 hF9 hS9 K9 hK9;have hc9:i9=0∨i9=1∨i9=2∨i9=3∨i9=4∨i9=5∨i9=6∨i9=7∨i9=8:=by omega
   clear hi9;rcases hc9 with rfl|rfl|rfl|rfl|rfl|rfl|rfl|rfl|rfl
   ·have e3:=hF9.od 3 (v:=.pointer (some ⟨w.heap.size,0,none⟩)) rfl;have q0:=zaA (hS9.r.own (r:=tBx w.heap.size t.B) (by simp)) (j:=0) rfl;refine zaU rfl ?_ (hK9 _ hS9);clear hF9;simp only [so1N,execOp,e3];first|done|(go_simp<;>omega)
   ·have e4:=hF9.od 4 (v:=.pointer (some ⟨w.heap.size+1,0,none⟩)) rfl;refine zaU rfl ?_ (hK9 _ hS9);clear hF9;simp only [so1N,execOp,e4];first|done|(go_simp<;>omega)
   ·have e7:=hF9.ev 1 7;have q0:=zaA (hS9.r.own (r:=sBx (w.heap.size+1) sw sp) (by simp)) (j:=0) rfl;have q1:=zaA (hS9.r.own (r:=sBx (w.heap.size+1) sw sp) (by simp)) (j:=1) rfl;refine zaU rfl ?_ (hK9 _ hS9);clear hF9;simp only [so1N,execOp,e7];first|done|(go_simp<;>omega)
   ·have e8:=hF9.ev 2 8;have hw9:=HE.out;refine zaU rfl ?_ (hK9 _ hS9);clear hF9;simp only [so1N,execOp,e8];first|done|(go_simp<;>omega)
   ·have e9:=hF9.ev 3 9;refine zaU rfl ?_ (hK9 _ hS9);clear hF9;simp only [so1N,execOp,e9];first|done|(go_simp<;>omega)
   iterate 3 exact zaK rfl (hF9.nw 4 10) (hK9 _ hS9)
   ·have e10:=hF9.ev 4 10;have e13:=hF9.ev 7 13;refine zaU rfl ?_ (hK9 _ hS9);clear hF9;simp only [so1N,execOp,e10,e13];first|done|(go_simp<;>omega)
  ·intro w9 hS9 K9 hK9;simp only [putA,so1N];rw [if_pos (zaG rfl)];unfold Oper.wp;go_simp;refine Calls.mono (zbF _ w9) ?_;rintro e w2 ⟨rfl,rfl⟩;refine ⟨rfl,?_⟩;rw [HR.out];exact ⟨rfl,hS9.bad (.cons _ (.cons _ (.cons _ (.refl _))))⟩
 ·have HE:Hid ((sw.toList==[])=false):=hidI (by rw [ba_empty_iff,decide_eq_false hw]);cases hb:bareP (ptL sp) k with
  | false=>
   have HR:Hid (tShaped sw (ptL sp) k part σ=none):=hidI (by rw [HR.out,if_neg (fun e=>by rw [hb] at e;exact absurd e.2 (by decide))]);have CB:Hid (∀ W,Calls Tryz.prog 188 #[.agg #[.string sw,.string sp],.agg #[.string k.name,.int .u8 (k.op:Int),.bool k.inn,.int .i64 k.e,.int .i64 k.cond,.slice a1 k.acts.length c1,.slice a2 k.thn.length c2,.slice a3 k.els.length c3]] W fun e' w'=>e'=.returned (.bool false)∧Below W.heap.size W w'):=hidI (fun W=>by
    have:=bare_any sw sp k.name k.op k.inn k.e k.cond a1 a2 a3 k.acts.length c1 k.thn.length c2 k.els.length c3 W;rwa [bareB_eq,hb] at this)
   clear hw h HP hb;go_enter Tryz.func159,Tryz.ntmps159;go_wp2;refine zaQ so1N (fun i=>match i with|0=>.pointer (some ⟨t.B,0,none⟩)|1=>.pointer (some ⟨w.heap.size+1,0,none⟩)|2=>.string sw|3=>.bool true|4=>.bool true|5=>.agg #[.string sw,.string sp]|6=>.agg #[.string k.name,.int .u8 (k.op:Int),.bool k.inn,.int .i64 k.e,.int .i64 k.cond,.slice a1 k.acts.length c1,.slice a2 k.thn.length c2,.slice a3 k.els.length c3]|7=>.bool false|8=>.bool false|_=>undef) (fun y=>TlS t σ (cBx (w.heap.size+2) k a1 c1 a2 c2 a3 c3::sBx (w.heap.size+1) sw sp::tBx w.heap.size t.B::X) y) 9 Tryz.mixed (by kernel_rfl) (by kernel_rfl) HA.out.drew ?_ ?_
   ·intro i9 hi9 a9 w9 hF9 hS9 K9 hK9;have hc9:i9=0∨i9=1∨i9=2∨i9=3∨i9=4∨i9=5∨i9=6∨i9=7∨i9=8:=by omega
    clear hi9;rcases hc9 with rfl|rfl|rfl|rfl|rfl|rfl|rfl|rfl|rfl
    ·have e3:=hF9.od 3 (v:=.pointer (some ⟨w.heap.size,0,none⟩)) rfl;have q0:=zaA (hS9.r.own (r:=tBx w.heap.size t.B) (by simp)) (j:=0) rfl;refine zaU rfl ?_ (hK9 _ hS9);clear hF9;simp only [so1N,execOp,e3];first|done|(go_simp<;>omega)
    ·have e4:=hF9.od 4 (v:=.pointer (some ⟨w.heap.size+1,0,none⟩)) rfl;refine zaU rfl ?_ (hK9 _ hS9);clear hF9;simp only [so1N,execOp,e4];first|done|(go_simp<;>omega)
    ·have e7:=hF9.ev 1 7;have q0:=zaA (hS9.r.own (r:=sBx (w.heap.size+1) sw sp) (by simp)) (j:=0) rfl;have q1:=zaA (hS9.r.own (r:=sBx (w.heap.size+1) sw sp) (by simp)) (j:=1) rfl;refine zaU rfl ?_ (hK9 _ hS9);clear hF9;simp only [so1N,execOp,e7];first|done|(go_simp<;>omega)
    ·have e8:=hF9.ev 2 8;have hw9:=HE.out;refine zaU rfl ?_ (hK9 _ hS9);clear hF9;simp only [so1N,execOp,e8];first|done|(go_simp<;>omega)
    ·have e9:=hF9.ev 3 9;refine zaU rfl ?_ (hK9 _ hS9);clear hF9;simp only [so1N,execOp,e9];first|done|(go_simp<;>omega)
    ·have e4:=hF9.od 4 (v:=.pointer (some ⟨w.heap.size+1,0,none⟩)) rfl;refine zbA rfl (hF9.nw 4 10) ?_;have q0:=zaA (hS9.r.own (r:=sBx (w.heap.size+1) sw sp) (by simp)) (j:=0) rfl;have q1:=zaA (hS9.r.own (r:=sBx (w.heap.size+1) sw sp) (by simp)) (j:=1) rfl;refine zaP ?_ (hK9 _ hS9);clear hF9;simp only [so1N,execOp,e4];first|done|(go_simp<;>omega)
    ·have e5:=hF9.od 5 (v:=.pointer (some ⟨w.heap.size+2,0,none⟩)) rfl;refine zbA rfl (hF9.nw 4 10) ?_;have q0:=zaA (hS9.r.own (r:=cBx (w.heap.size+2) k a1 c1 a2 c2 a3 c3) (by simp)) (j:=0) rfl;have q1:=zaA (hS9.r.own (r:=cBx (w.heap.size+2) k a1 c1 a2 c2 a3 c3) (by simp)) (j:=1) rfl;have q2:=zaA (hS9.r.own (r:=cBx (w.heap.size+2) k a1 c1 a2 c2 a3 c3) (by simp)) (j:=2) rfl;have q3:=zaA (hS9.r.own (r:=cBx (w.heap.size+2) k a1 c1 a2 c2 a3 c3) (by simp)) (j:=3) rfl;have q4:=zaA (hS9.r.own (r:=cBx (w.heap.size+2) k a1 c1 a2 c2 a3 c3) (by simp)) (j:=4) rfl;have q5:=zaA (hS9.r.own (r:=cBx (w.heap.size+2) k a1 c1 a2 c2 a3 c3) (by simp)) (j:=5) rfl;have q6:=zaA (hS9.r.own (r:=cBx (w.heap.size+2) k a1 c1 a2 c2 a3 c3) (by simp)) (j:=6) rfl;have q7:=zaA (hS9.r.own (r:=cBx (w.heap.size+2) k a1 c1 a2 c2 a3 c3) (by simp)) (j:=7) rfl;refine zaP ?_ (hK9 _ hS9);clear hF9;simp only [so1N,execOp,e5];first|done|(go_simp<;>omega)
    ·refine zbA rfl (hF9.nw 4 10) ?_;unfold Oper.wp;have f11:=hF9.nw 5 11;have f12:=hF9.nw 6 12;have hr9:(execOp a9.eval (so1N 7)).run Tryz.prog w9=.ok (.enter 188 #[.agg #[.string sw,.string sp],.agg #[.string k.name,.int .u8 (k.op:Int),.bool k.inn,.int .i64 k.e,.int .i64 k.cond,.slice a1 k.acts.length c1,.slice a2 k.thn.length c2,.slice a3 k.els.length c3]]) w9:=by
      simp only [so1N,execOp];go_simp
     rw [hr9,Oper.upon_enter];refine Calls.mono (CB.out w9) ?_;rintro e9 w8 ⟨rfl,hb⟩;exact hK9 _ (hS9.on hb)
    ·have e10:=hF9.ev 4 10;have e13:=hF9.ev 7 13;refine zaU rfl ?_ (hK9 _ hS9);clear hF9;simp only [so1N,execOp,e10,e13];first|done|(go_simp<;>omega)
   ·intro w9 hS9 K9 hK9;simp only [putA,so1N];rw [if_pos (zaG rfl)];unfold Oper.wp;go_simp;refine Calls.mono (zbF _ w9) ?_;rintro e w2 ⟨rfl,rfl⟩;refine ⟨rfl,?_⟩;rw [HR.out];exact ⟨rfl,hS9.bad (.cons _ (.cons _ (.cons _ (.refl _))))⟩
  | true=>
   have HR:Hid (tShaped sw (ptL sp) k part σ=tBrk (tSeq (tWord sw) (tAll part (ptL sp))) σ):=hidI (by rw [HR.out,if_pos ⟨hw,hb⟩]);have CB:Hid (∀ W,Calls Tryz.prog 188 #[.agg #[.string sw,.string sp],.agg #[.string k.name,.int .u8 (k.op:Int),.bool k.inn,.int .i64 k.e,.int .i64 k.cond,.slice a1 k.acts.length c1,.slice a2 k.thn.length c2,.slice a3 k.els.length c3]] W fun e' w'=>e'=.returned (.bool true)∧Below W.heap.size W w'):=hidI (fun W=>by
    have:=bare_any sw sp k.name k.op k.inn k.e k.cond a1 a2 a3 k.acts.length c1 k.thn.length c2 k.els.length c3 W;rwa [bareB_eq,hb] at this)
   have CK:Hid (∀ W,TlS t σ (cBx (w.heap.size+2) k a1 c1 a2 c2 a3 c3::sBx (w.heap.size+1) sw sp::tBx w.heap.size t.B::X) W→Calls Tryz.prog 189 #[.pointer (some ⟨t.B,0,none⟩),.func (.func 190) #[] #[.pointer (some ⟨w.heap.size,0,none⟩),.pointer (some ⟨w.heap.size+1,0,none⟩),.pointer (some ⟨w.heap.size+2,0,none⟩)]] W (TPost t (cBx (w.heap.size+2) k a1 c1 a2 c2 a3 c3::sBx (w.heap.size+1) sw sp::tBx w.heap.size t.B::X) (tBrk (tSeq (tWord sw) (tAll part (ptL sp))) σ))):=hidI (fun W hW=>
    brk2_any hk hW (.inl ⟨rfl,_,_,_,rfl⟩) (kp_seq (zdW sw) (kp_all hkp _)) (fun σ1 w1 h1 hf1=>sclo_any hk hsw hasc hkp h1 (by rw [hf1];exact HP)))
   clear hw h HP hb;go_enter Tryz.func159,Tryz.ntmps159;go_wp2;refine zaQ so1N (fun i=>match i with|0=>.pointer (some ⟨t.B,0,none⟩)|1=>.pointer (some ⟨w.heap.size+1,0,none⟩)|2=>.string sw|3=>.bool true|4=>.bool true|5=>.agg #[.string sw,.string sp]|6=>.agg #[.string k.name,.int .u8 (k.op:Int),.bool k.inn,.int .i64 k.e,.int .i64 k.cond,.slice a1 k.acts.length c1,.slice a2 k.thn.length c2,.slice a3 k.els.length c3]|7=>.bool true|8=>.bool true|_=>undef) (fun y=>TlS t σ (cBx (w.heap.size+2) k a1 c1 a2 c2 a3 c3::sBx (w.heap.size+1) sw sp::tBx w.heap.size t.B::X) y) 9 Tryz.mixed (by kernel_rfl) (by kernel_rfl) HA.out.drew ?_ ?_
   ·intro i9 hi9 a9 w9 hF9 hS9 K9 hK9;have hc9:i9=0∨i9=1∨i9=2∨i9=3∨i9=4∨i9=5∨i9=6∨i9=7∨i9=8:=by omega
    clear hi9;rcases hc9 with rfl|rfl|rfl|rfl|rfl|rfl|rfl|rfl|rfl
    ·have e3:=hF9.od 3 (v:=.pointer (some ⟨w.heap.size,0,none⟩)) rfl;have q0:=zaA (hS9.r.own (r:=tBx w.heap.size t.B) (by simp)) (j:=0) rfl;refine zaU rfl ?_ (hK9 _ hS9);clear hF9;simp only [so1N,execOp,e3];first|done|(go_simp<;>omega)
    ·have e4:=hF9.od 4 (v:=.pointer (some ⟨w.heap.size+1,0,none⟩)) rfl;refine zaU rfl ?_ (hK9 _ hS9);clear hF9;simp only [so1N,execOp,e4];first|done|(go_simp<;>omega)
    ·have e7:=hF9.ev 1 7;have q0:=zaA (hS9.r.own (r:=sBx (w.heap.size+1) sw sp) (by simp)) (j:=0) rfl;have q1:=zaA (hS9.r.own (r:=sBx (w.heap.size+1) sw sp) (by simp)) (j:=1) rfl;refine zaU rfl ?_ (hK9 _ hS9);clear hF9;simp only [so1N,execOp,e7];first|done|(go_simp<;>omega)
    ·have e8:=hF9.ev 2 8;have hw9:=HE.out;refine zaU rfl ?_ (hK9 _ hS9);clear hF9;simp only [so1N,execOp,e8];first|done|(go_simp<;>omega)
    ·have e9:=hF9.ev 3 9;refine zaU rfl ?_ (hK9 _ hS9);clear hF9;simp only [so1N,execOp,e9];first|done|(go_simp<;>omega)
    ·have e4:=hF9.od 4 (v:=.pointer (some ⟨w.heap.size+1,0,none⟩)) rfl;refine zbA rfl (hF9.nw 4 10) ?_;have q0:=zaA (hS9.r.own (r:=sBx (w.heap.size+1) sw sp) (by simp)) (j:=0) rfl;have q1:=zaA (hS9.r.own (r:=sBx (w.heap.size+1) sw sp) (by simp)) (j:=1) rfl;refine zaP ?_ (hK9 _ hS9);clear hF9;simp only [so1N,execOp,e4];first|done|(go_simp<;>omega)
    ·have e5:=hF9.od 5 (v:=.pointer (some ⟨w.heap.size+2,0,none⟩)) rfl;refine zbA rfl (hF9.nw 4 10) ?_;have q0:=zaA (hS9.r.own (r:=cBx (w.heap.size+2) k a1 c1 a2 c2 a3 c3) (by simp)) (j:=0) rfl;have q1:=zaA (hS9.r.own (r:=cBx (w.heap.size+2) k a1 c1 a2 c2 a3 c3) (by simp)) (j:=1) rfl;have q2:=zaA (hS9.r.own (r:=cBx (w.heap.size+2) k a1 c1 a2 c2 a3 c3) (by simp)) (j:=2) rfl;have q3:=zaA (hS9.r.own (r:=cBx (w.heap.size+2) k a1 c1 a2 c2 a3 c3) (by simp)) (j:=3) rfl;have q4:=zaA (hS9.r.own (r:=cBx (w.heap.size+2) k a1 c1 a2 c2 a3 c3) (by simp)) (j:=4) rfl;have q5:=zaA (hS9.r.own (r:=cBx (w.heap.size+2) k a1 c1 a2 c2 a3 c3) (by simp)) (j:=5) rfl;have q6:=zaA (hS9.r.own (r:=cBx (w.heap.size+2) k a1 c1 a2 c2 a3 c3) (by simp)) (j:=6) rfl;have q7:=zaA (hS9.r.own (r:=cBx (w.heap.size+2) k a1 c1 a2 c2 a3 c3) (by simp)) (j:=7) rfl;refine zaP ?_ (hK9 _ hS9);clear hF9;simp only [so1N,execOp,e5];first|done|(go_simp<;>omega)
    ·refine zbA rfl (hF9.nw 4 10) ?_;unfold Oper.wp;have f11:=hF9.nw 5 11;have f12:=hF9.nw 6 12;have hr9:(execOp a9.eval (so1N 7)).run Tryz.prog w9=.ok (.enter 188 #[.agg #[.string sw,.string sp],.agg #[.string k.name,.int .u8 (k.op:Int),.bool k.inn,.int .i64 k.e,.int .i64 k.cond,.slice a1 k.acts.length c1,.slice a2 k.thn.length c2,.slice a3 k.els.length c3]]) w9:=by
      simp only [so1N,execOp];go_simp
     rw [hr9,Oper.upon_enter];refine Calls.mono (CB.out w9) ?_;rintro e9 w8 ⟨rfl,hb⟩;exact hK9 _ (hS9.on hb)
    ·have e10:=hF9.ev 4 10;have e13:=hF9.ev 7 13;refine zaU rfl ?_ (hK9 _ hS9);clear hF9;simp only [so1N,execOp,e10,e13];first|done|(go_simp<;>omega)
   ·intro w9 hS9 K9 hK9;simp only [putA,so1N];rw [if_pos (zaG rfl)];unfold Oper.wp;go_simp;refine Calls.mono (zbP _ w9) ?_;rintro e w2 ⟨rfl,rfl⟩;refine hK9 _ _ ?_;clear hK9 K9;have HS9:=hidI hS9;clear hS9;have q0:=zaA (HS9.out.r.own (r:=tBx w.heap.size t.B) (by simp)) (j:=0) rfl;have CX:=hidI (CK.out w9 HS9.out);cases hr:tBrk (tSeq (tWord sw) (tAll part (ptL sp))) σ with
    | none=>
     rw [hr] at CX HR;clear hr
     go_wp2_with (go_at_call 189;refine Calls.mono CX.out ?_;intro e w3 h3;obtain ⟨rfl,hb3⟩:=h3;clear CX)
     refine ⟨rfl,?_⟩;rw [HR.out];exact ⟨rfl,hb3.sub (.cons _ (.cons _ (.cons _ (.refl _))))⟩
    | some σ1=>
     rw [hr] at CX HR;clear hr
     go_wp2_with (go_at_call 189;refine Calls.mono CX.out ?_;intro e w3 h3;obtain ⟨rfl,hb3⟩:=h3;clear CX)
     go_end0;rw [HR.out];exact ⟨rfl,hb3.sub (.cons _ (.cons _ (.cons _ (.refl _))))⟩
end Go.Proofs.YtfljimpgnlfipaaGreatDoor
