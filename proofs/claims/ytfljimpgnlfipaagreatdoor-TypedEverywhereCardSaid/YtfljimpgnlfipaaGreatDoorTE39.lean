/-
  Part 39 of the proof: TlJ, PSrc2.
-/
import Derived.Test.YtfljimpgnlfipaaGreatDoorTE38
import Derived.Test.YtfljimpgnlfipaaGreatDoorTE22
import Derived.Test.YtfljimpgnlfipaaGreatDoorTE27
import Derived.Test.YtfljimpgnlfipaaGreatDoorTE21
namespace Go.Proofs.YtfljimpgnlfipaaGreatDoor
open Go.RowKit Go.Deep Go.MapKept
def da4N:Nat→Oper
 | 0=>⟨some 23,.move (.tmp 0),234, "tell.go:50",#[],none⟩
 | 1=>⟨some 24,.fieldAddr 106 (.tmp 3) 1,0, "tell.go:50",#[],none⟩
 | 2=>⟨some 25,.load 104 (.tmp 24),104, "tell.go:50",#[⟨1,.data⟩],none⟩
 | 3=>⟨some 26,.fieldAddr 106 (.tmp 3) 2,0, "tell.go:50",#[],none⟩
 | 4=>⟨some 27,.load 36 (.tmp 26),36, "tell.go:50",#[⟨3,.data⟩],none⟩
 | 5=>⟨some 28,.call ⟨.value (.func 145),#[.tmp 25,.tmp 27],#[104,36]⟩,210, "tell.go:50",#[⟨2,.data⟩,⟨4,.data⟩],none⟩
 | 6=>⟨some 29,.fieldAddr 106 (.tmp 3) 0,0, "tell.go:50",#[],none⟩
 | 7=>⟨some 30,.load 9 (.tmp 29),9, "tell.go:50",#[⟨6,.data⟩],none⟩
 | 8=>⟨some 31,.build 226 #[(0,.tmp 30),(3,.const (.int .i64 (-1))),(4,.const (.int .i64 (-1)))],226, "tell.go:50",#[⟨7,.data⟩],none⟩
 | _=>⟨some 32,.call ⟨.value (.func 159),#[.tmp 23,.tmp 28,.tmp 31],#[234,210,226]⟩,0, "tell.go:50",#[⟨0,.data⟩,⟨5,.data⟩,⟨8,.data⟩,⟨5,.chain⟩],none⟩
def da7N:Nat→Oper
 | 0=>⟨some 41,.move (.tmp 0),234, "tell.go:53",#[],none⟩
 | 1=>⟨some 42,.move (.tmp 0),234, "tell.go:53",#[],none⟩
 | 2=>⟨some 43,.nilCheck (.tmp 42),0, "tell.go:53",#[⟨1,.data⟩],none⟩
 | 3=>⟨some 44,.fieldAddr 184 (.tmp 43) 1,0, "tell.go:53",#[⟨2,.data⟩],none⟩
 | 4=>⟨some 45,.load 3 (.tmp 44),3, "tell.go:53",#[⟨3,.data⟩],none⟩
 | 5=>⟨some 46,.move (.tmp 0),234, "tell.go:53",#[],none⟩
 | 6=>⟨some 47,.nilCheck (.tmp 46),0, "tell.go:53",#[⟨5,.data⟩],none⟩
 | 7=>⟨some 48,.fieldAddr 184 (.tmp 47) 0,0, "tell.go:53",#[⟨6,.data⟩],none⟩
 | 8=>⟨some 49,.fieldAddr 27 (.tmp 48) 1,0, "tell.go:53",#[⟨7,.data⟩],none⟩
 | 9=>⟨some 50,.load 23 (.tmp 49),23, "tell.go:53",#[⟨8,.data⟩],none⟩
 | 10=>⟨some 51,.call ⟨.builtin .len,#[.tmp 50],#[23]⟩,3, "tell.go:53",#[⟨9,.data⟩],none⟩
 | 11=>⟨some 52,.binOp .eql 3 (.tmp 45) (.tmp 51) 3,4, "tell.go:53",#[⟨4,.data⟩,⟨10,.data⟩],none⟩
 | 12=>⟨some 53,.move (.tmp 52),4, "tell.go:53",#[⟨11,.data⟩],none⟩
 | 13=>⟨some 54,.move (.tmp 0),234, "tell.go:53",#[⟨12,.guard⟩],some (12,true)⟩
 | 14=>⟨some 55,.nilCheck (.tmp 54),0, "tell.go:53",#[⟨13,.data⟩,⟨12,.guard⟩],some (12,true)⟩
 | 15=>⟨some 56,.fieldAddr 184 (.tmp 55) 2,0, "tell.go:53",#[⟨14,.data⟩,⟨12,.guard⟩],some (12,true)⟩
 | 16=>⟨some 57,.load 3 (.tmp 56),3, "tell.go:53",#[⟨15,.data⟩,⟨12,.guard⟩],some (12,true)⟩
 | 17=>⟨some 58,.move (.tmp 0),234, "tell.go:53",#[⟨12,.guard⟩],some (12,true)⟩
 | 18=>⟨some 59,.nilCheck (.tmp 58),0, "tell.go:53",#[⟨17,.data⟩,⟨12,.guard⟩],some (12,true)⟩
 | 19=>⟨some 60,.fieldAddr 184 (.tmp 59) 0,0, "tell.go:53",#[⟨18,.data⟩,⟨12,.guard⟩],some (12,true)⟩
 | 20=>⟨some 61,.fieldAddr 27 (.tmp 60) 2,0, "tell.go:53",#[⟨19,.data⟩,⟨12,.guard⟩],some (12,true)⟩
 | 21=>⟨some 62,.load 24 (.tmp 61),24, "tell.go:53",#[⟨20,.data⟩,⟨12,.guard⟩],some (12,true)⟩
 | 22=>⟨some 63,.call ⟨.builtin .len,#[.tmp 62],#[24]⟩,3, "tell.go:53",#[⟨21,.data⟩,⟨12,.guard⟩],some (12,true)⟩
 | 23=>⟨some 64,.binOp .eql 3 (.tmp 57) (.tmp 63) 3,4, "tell.go:53",#[⟨16,.data⟩,⟨22,.data⟩,⟨12,.guard⟩],some (12,true)⟩
 | 24=>⟨some 65,.pick (.tmp 53) (.tmp 64) (.const (.bool false)),4, "tell.go:53",#[⟨12,.data⟩,⟨23,.data⟩],none⟩
 | _=>⟨some 66,.call ⟨.value (.func 158),#[.tmp 41,.tmp 65],#[234,4]⟩,0, "tell.go:53",#[⟨0,.data⟩,⟨24,.data⟩,⟨12,.chain⟩],none⟩
def dBx (b:Nat) (d:Dcl):Rw:=⟨bx b,106,3,1,[.string d.name,.int .u8 (d.side:Int),.int .u8 (d.kind:Int)]⟩
theorem dcells_len (x:Dcl):(dcells x).length=3:=rfl
set_option maxRecDepth 100000 in
set_option maxHeartbeats 2000000 in
theorem tall_any {t:Tx} {F:Nat} (hk:t.Ok F) {σ:TS} {X:List Rw} {w:World} (h:TlS t σ X w):Calls Tryz.prog 106 #[.pointer (some ⟨t.B,0,none⟩)] w (TPost t X (tProg t.P.prg σ)):=by
 obtain ⟨P0,hP0⟩:∃ P0,t.P.prg=P0:=⟨_,rfl⟩;have hds:t.P.ds=P0.decls:=by rw [←hP0];rfl
 have hms:t.P.ms=P0.main:=by rw [←hP0];rfl
 have hxl:t.P.xs.length=P0.exprs.length:=by rw [←hP0];simp [PV.prg]
 have hsl:t.P.ss.length=P0.stmts.length:=by rw [←hP0];simp [PV.prg]
 have HD0:=hidI hk.sees.d;have HM0:=hidI hk.sees.m;obtain ⟨_,da,dc,hdv,_⟩:=hk.sees.d;obtain ⟨_,xa,xc,hxv,_⟩:=hk.sees.x;obtain ⟨_,sa,sc,hsv,_⟩:=hk.sees.s;obtain ⟨_,ma,mc,hmv,_⟩:=hk.sees.m;rw [hxl] at hxv;rw [hsl] at hsv;rw [hds] at hdv;rw [hms] at hmv;rw [hds,hdv] at HD0;rw [hms,hmv] at HM0;have HXV:=hidI hxv;have HSV:=hidI hsv;have HMV:=hidI hmv;have b0:w.cell? ⟨t.B,0,none⟩=some t.P.dv:=h.r.cell (j:=0) (u:=t.P.dv) rfl;rw [hdv] at b0;have HRW:=hidI (rowsK (t:=t) (st:=tStmt (tE P0) P0.stmts 401) (is:=P0.main) (v:=.slice ma P0.main.length mc) (f0:=0) HM0.out (by have:=hk.ok.ml;rw [hP0] at this;exact this) (kp_stmt (kp_expr _ _) _ _) (fun i _=>by
  have h1:=stmtK hk (ex:=tE P0) (kp_expr _ _) (fun i9=>by have h2:=exprK hk 401 i9;rw [hP0] at h2;exact h2) 401 i;rw [hP0] at h1;exact h1))
 have HDO:Hid (∀ d∈P0.decls,SmlN d.name):=hidI (fun d hd=>by have:=hk.ok.d d (by rw [hP0];exact hd);exact this.2.2);have HK:=hidI hk;rw [hP0];have HM:Hid (tProg P0 σ=if P0.decls.length≤24 then (match tAll tDecl P0.decls σ with|none=>none|some σ1=>match tAll (tStmt (tE P0) P0.stmts 401) P0.main σ1 with|none=>none|some σ2=>if σ2.x=P0.exprs.length∧σ2.s=P0.stmts.length then some σ2 else none) else none):=hidI rfl;obtain ⟨n,hn⟩:∃ n,P0.decls.length=n:=⟨_,rfl⟩;obtain ⟨nx,hnx⟩:∃ nx,P0.exprs.length=nx:=⟨_,rfl⟩;obtain ⟨ns,hns⟩:∃ ns,P0.stmts.length=ns:=⟨_,rfl⟩;have HN:=hidI hn;rw [hn] at b0 HM HD0;rw [hnx] at HM HXV;rw [hns] at HM HSV;have HH:=hidI h;clear hP0 hds hms hxl hsl hdv hxv hsv hmv hn hnx hns h;by_cases hn24:n≤24
 ·have k24:(n:Int)≤24:=by omega
  replace HM:Hid (tProg P0 σ=(match tAll tDecl P0.decls σ with|none=>none|some σ1=>match tAll (tStmt (tE P0) P0.stmts 401) P0.main σ1 with|none=>none|some σ2=>if σ2.x=nx∧σ2.s=ns then some σ2 else none)):=hidI (by rw [HM.out,if_pos hn24]);have CM:=hidI (fun W=>zbP (.pointer (some ⟨t.B,0,none⟩)) W);clear hk;go_enter Tryz.func106,Tryz.ntmps106
  go_wp2_with (go_at_call 158;refine Calls.mono (CM.out _) ?_;intro e w2 h2;obtain ⟨rfl,rfl⟩:=h2;clear CM)
  go_loopg [19] n (fun g s19 wx=>∃ (j:Nat) (σj:TS),j+g=n∧s19=.int .i64 (j:Int)∧Hid (tAll tDecl P0.decls σ=tAll tDecl (P0.decls.drop j) σj)∧Hid (TlS t σj X wx))
  case atStart=>exact ⟨0,σ,by omega,rfl,hidI rfl,HH⟩
  case round=>
   obtain ⟨j,σj,hjg,rfl,HT,HSj⟩:=hrel;clear HH;cases gk with
   | zero=>
    obtain rfl:n=j:=by omega
    have k1:decide ((n:Int)<(n:Int))=false:=by simp
    have HT9:Hid (tAll tDecl P0.decls σ=some σj):=hidI (by
     rw [HT.out,List.drop_of_length_le (by have:=HN.out;omega)];rfl)
    have b3:wr.cell? ⟨t.B,3,none⟩=some t.P.mv:=HSj.out.r.cell (j:=3) (u:=t.P.mv) rfl;rw [HMV.out] at b3;have CR:=hidI (HRW.out t.K σj X wr HSj.out (Nat.zero_le _));cases hr:tAll (tStmt (tE P0) P0.stmts 401) P0.main σj with
    | none=>
     have HR:Hid (tProg P0 σ=none):=hidI (by rw [HM.out,HT9.out];simp only [hr]);rw [hr] at CR;clear hr
     go_wp2_with (go_at_call 160;refine Calls.mono (CR.out) ?_;intro e w3 h3;obtain ⟨rfl,hb3⟩:=h3;clear CR)
     refine ⟨rfl,?_⟩;rw [HR.out];exact ⟨rfl,hb3⟩
    | some σ2=>
     have HR0:Hid (tProg P0 σ=if σ2.x=nx∧σ2.s=ns then some σ2 else none):=hidI (by rw [HM.out,HT9.out];simp only [hr]);rw [hr] at CR;clear hr;by_cases hx:σ2.x=nx
     ·have HK1:Hid (((σ2.x:Int)==(nx:Int))=true):=hidI (by rw [beq_iff_eq];omega);by_cases hy:σ2.s=ns
      ·have HK2:Hid (((σ2.s:Int)==(ns:Int))=true):=hidI (by rw [beq_iff_eq];omega);have HR:Hid (tProg P0 σ=some σ2):=hidI (by rw [HR0.out,if_pos ⟨hx,hy⟩]);clear hx hy
       go_wp2_with (go_at_call 160;refine Calls.mono (CR.out) ?_;intro e w3 h3;obtain ⟨rfl,hb3⟩:=h3;clear CR;have HS3:Hid (TlS t σ2 X w3):=hidI hb3;clear hb3)
       refine zaQ da7N (fun i=>match i with|0=>.pointer (some ⟨t.B,0,none⟩)|1=>.pointer (some ⟨t.B,0,none⟩)|2=>.pointer (some ⟨t.B,0,none⟩)|3=>.pointer (some ⟨t.B,4,none⟩)|4=>.int .i64 (σ2.x:Int)|5=>.pointer (some ⟨t.B,0,none⟩)|6=>.pointer (some ⟨t.B,0,none⟩)|7=>.pointer (some ⟨t.B,0,none⟩)|8=>.pointer (some ⟨t.B,1,none⟩)|9=>.slice xa nx xc|10=>.int .i64 (nx:Int)|11=>.bool true|12=>.bool true|13=>.pointer (some ⟨t.B,0,none⟩)|14=>.pointer (some ⟨t.B,0,none⟩)|15=>.pointer (some ⟨t.B,5,none⟩)|16=>.int .i64 (σ2.s:Int)|17=>.pointer (some ⟨t.B,0,none⟩)|18=>.pointer (some ⟨t.B,0,none⟩)|19=>.pointer (some ⟨t.B,0,none⟩)|20=>.pointer (some ⟨t.B,2,none⟩)|21=>.slice sa ns sc|22=>.int .i64 (ns:Int)|23=>.bool true|24=>.bool true|_=>undef) (fun y=>TlS t σ2 X y) 25 Tryz.mixed (by kernel_rfl) (by kernel_rfl) HS3.out.drew ?_ ?_
       ·intro i9 hi9 a9 w9 hF9 hS9 K9 hK9;have hc9:i9=0∨i9=1∨i9=2∨i9=3∨i9=4∨i9=5∨i9=6∨i9=7∨i9=8∨i9=9∨i9=10∨i9=11∨i9=12∨i9=13∨i9=14∨i9=15∨i9=16∨i9=17∨i9=18∨i9=19∨i9=20∨i9=21∨i9=22∨i9=23∨i9=24:=by omega
        clear hi9;rcases hc9 with rfl|rfl|rfl|rfl|rfl|rfl|rfl|rfl|rfl|rfl|rfl|rfl|rfl|rfl|rfl|rfl|rfl|rfl|rfl|rfl|rfl|rfl|rfl|rfl|rfl
        ·have e0:=hF9.od 0 (v:=.pointer (some ⟨t.B,0,none⟩)) rfl;refine zaU rfl ?_ (hK9 _ hS9);clear hF9;simp only [da7N,execOp,e0];first|done|(go_simp<;>omega)
        ·have e0:=hF9.od 0 (v:=.pointer (some ⟨t.B,0,none⟩)) rfl;refine zaU rfl ?_ (hK9 _ hS9);clear hF9;simp only [da7N,execOp,e0];first|done|(go_simp<;>omega)
        ·have e42:=hF9.ev 1 42;refine zaU rfl ?_ (hK9 _ hS9);clear hF9;simp only [da7N,execOp,e42];first|done|(go_simp<;>omega)
        ·have e43:=hF9.ev 2 43;refine zaU rfl ?_ (hK9 _ hS9);clear hF9;simp only [da7N,execOp,e43];first|done|(go_simp<;>omega)
        ·have e44:=hF9.ev 3 44;have c4:w9.cell? ⟨t.B,4,none⟩=some (.int .i64 (σ2.x:Int)):=hS9.r.cell (j:=4) (u:=.int .i64 (σ2.x:Int)) rfl;refine zaU rfl ?_ (hK9 _ hS9);clear hF9;simp only [da7N,execOp,e44];first|done|(go_simp<;>omega)
        ·have e0:=hF9.od 0 (v:=.pointer (some ⟨t.B,0,none⟩)) rfl;refine zaU rfl ?_ (hK9 _ hS9);clear hF9;simp only [da7N,execOp,e0];first|done|(go_simp<;>omega)
        ·have e46:=hF9.ev 5 46;refine zaU rfl ?_ (hK9 _ hS9);clear hF9;simp only [da7N,execOp,e46];first|done|(go_simp<;>omega)
        ·have e47:=hF9.ev 6 47;refine zaU rfl ?_ (hK9 _ hS9);clear hF9;simp only [da7N,execOp,e47];first|done|(go_simp<;>omega)
        ·have e48:=hF9.ev 7 48;refine zaU rfl ?_ (hK9 _ hS9);clear hF9;simp only [da7N,execOp,e48];first|done|(go_simp<;>omega)
        ·have e49:=hF9.ev 8 49;have c1:w9.cell? ⟨t.B,1,none⟩=some t.P.xv:=hS9.r.cell (j:=1) (u:=t.P.xv) rfl;rw [HXV.out] at c1;refine zaU rfl ?_ (hK9 _ hS9);clear hF9;simp only [da7N,execOp,e49];first|done|(go_simp<;>omega)
        ·have f50:=hF9.nw 9 50;refine zaU rfl ?_ (hK9 _ hS9);clear hF9;simp only [da7N,execOp];first|done|(go_simp<;>omega)
        ·have e45:=hF9.ev 4 45;have e51:=hF9.ev 10 51;have hk9:=HK1.out;refine zaU rfl ?_ (hK9 _ hS9);clear hF9;simp only [da7N,execOp,e45,e51];first|done|(go_simp<;>omega)
        ·have e52:=hF9.ev 11 52;refine zaU rfl ?_ (hK9 _ hS9);clear hF9;simp only [da7N,execOp,e52];first|done|(go_simp<;>omega)
        ·have e0:=hF9.od 0 (v:=.pointer (some ⟨t.B,0,none⟩)) rfl;refine zbA rfl (hF9.nw 12 53) ?_;refine zaP ?_ (hK9 _ hS9);clear hF9;simp only [da7N,execOp,e0];first|done|(go_simp<;>omega)
        ·have e54:=hF9.ev 13 54;refine zbA rfl (hF9.nw 12 53) ?_;refine zaP ?_ (hK9 _ hS9);clear hF9;simp only [da7N,execOp,e54];first|done|(go_simp<;>omega)
        ·have e55:=hF9.ev 14 55;refine zbA rfl (hF9.nw 12 53) ?_;refine zaP ?_ (hK9 _ hS9);clear hF9;simp only [da7N,execOp,e55];first|done|(go_simp<;>omega)
        ·have e56:=hF9.ev 15 56;refine zbA rfl (hF9.nw 12 53) ?_;have c5:w9.cell? ⟨t.B,5,none⟩=some (.int .i64 (σ2.s:Int)):=hS9.r.cell (j:=5) (u:=.int .i64 (σ2.s:Int)) rfl;refine zaP ?_ (hK9 _ hS9);clear hF9;simp only [da7N,execOp,e56];first|done|(go_simp<;>omega)
        ·have e0:=hF9.od 0 (v:=.pointer (some ⟨t.B,0,none⟩)) rfl;refine zbA rfl (hF9.nw 12 53) ?_;refine zaP ?_ (hK9 _ hS9);clear hF9;simp only [da7N,execOp,e0];first|done|(go_simp<;>omega)
        ·have e58:=hF9.ev 17 58;refine zbA rfl (hF9.nw 12 53) ?_;refine zaP ?_ (hK9 _ hS9);clear hF9;simp only [da7N,execOp,e58];first|done|(go_simp<;>omega)
        ·have e59:=hF9.ev 18 59;refine zbA rfl (hF9.nw 12 53) ?_;refine zaP ?_ (hK9 _ hS9);clear hF9;simp only [da7N,execOp,e59];first|done|(go_simp<;>omega)
        ·have e60:=hF9.ev 19 60;refine zbA rfl (hF9.nw 12 53) ?_;refine zaP ?_ (hK9 _ hS9);clear hF9;simp only [da7N,execOp,e60];first|done|(go_simp<;>omega)
        ·have e61:=hF9.ev 20 61;refine zbA rfl (hF9.nw 12 53) ?_;have c2:w9.cell? ⟨t.B,2,none⟩=some t.P.sv:=hS9.r.cell (j:=2) (u:=t.P.sv) rfl;rw [HSV.out] at c2;refine zaP ?_ (hK9 _ hS9);clear hF9;simp only [da7N,execOp,e61];first|done|(go_simp<;>omega)
        ·have f62:=hF9.nw 21 62;refine zbA rfl (hF9.nw 12 53) ?_;refine zaP ?_ (hK9 _ hS9);clear hF9;simp only [da7N,execOp];first|done|(go_simp<;>omega)
        ·have e57:=hF9.ev 16 57;have e63:=hF9.ev 22 63;refine zbA rfl (hF9.nw 12 53) ?_;have hk9:=HK2.out;refine zaP ?_ (hK9 _ hS9);clear hF9;simp only [da7N,execOp,e57,e63];first|done|(go_simp<;>omega)
        ·have e53:=hF9.ev 12 53;have e64:=hF9.ev 23 64;refine zaU rfl ?_ (hK9 _ hS9);clear hF9;simp only [da7N,execOp,e53,e64];first|done|(go_simp<;>omega)
       ·intro w9 hS9 K9 hK9;simp only [putA,da7N];rw [if_pos (zaG rfl)];unfold Oper.wp;go_simp;refine Calls.mono (zbP _ w9) ?_;rintro e w2 ⟨rfl,rfl⟩;refine hK9 _ _ ?_;clear hK9 K9;go_wp2;go_end0;rw [HR.out];exact ⟨rfl,hS9⟩
      ·have HK2:Hid (((σ2.s:Int)==(ns:Int))=false):=hidI (by rw [beq_eq_false_iff_ne];omega);have HR:Hid (tProg P0 σ=none):=hidI (by rw [HR0.out,if_neg (fun e=>hy e.2)]);clear hx hy
       go_wp2_with (go_at_call 160;refine Calls.mono (CR.out) ?_;intro e w3 h3;obtain ⟨rfl,hb3⟩:=h3;clear CR;have HS3:Hid (TlS t σ2 X w3):=hidI hb3;clear hb3)
       refine zaQ da7N (fun i=>match i with|0=>.pointer (some ⟨t.B,0,none⟩)|1=>.pointer (some ⟨t.B,0,none⟩)|2=>.pointer (some ⟨t.B,0,none⟩)|3=>.pointer (some ⟨t.B,4,none⟩)|4=>.int .i64 (σ2.x:Int)|5=>.pointer (some ⟨t.B,0,none⟩)|6=>.pointer (some ⟨t.B,0,none⟩)|7=>.pointer (some ⟨t.B,0,none⟩)|8=>.pointer (some ⟨t.B,1,none⟩)|9=>.slice xa nx xc|10=>.int .i64 (nx:Int)|11=>.bool true|12=>.bool true|13=>.pointer (some ⟨t.B,0,none⟩)|14=>.pointer (some ⟨t.B,0,none⟩)|15=>.pointer (some ⟨t.B,5,none⟩)|16=>.int .i64 (σ2.s:Int)|17=>.pointer (some ⟨t.B,0,none⟩)|18=>.pointer (some ⟨t.B,0,none⟩)|19=>.pointer (some ⟨t.B,0,none⟩)|20=>.pointer (some ⟨t.B,2,none⟩)|21=>.slice sa ns sc|22=>.int .i64 (ns:Int)|23=>.bool false|24=>.bool false|_=>undef) (fun y=>TlS t σ2 X y) 25 Tryz.mixed (by kernel_rfl) (by kernel_rfl) HS3.out.drew ?_ ?_
       ·intro i9 hi9 a9 w9 hF9 hS9 K9 hK9;have hc9:i9=0∨i9=1∨i9=2∨i9=3∨i9=4∨i9=5∨i9=6∨i9=7∨i9=8∨i9=9∨i9=10∨i9=11∨i9=12∨i9=13∨i9=14∨i9=15∨i9=16∨i9=17∨i9=18∨i9=19∨i9=20∨i9=21∨i9=22∨i9=23∨i9=24:=by omega
        clear hi9;rcases hc9 with rfl|rfl|rfl|rfl|rfl|rfl|rfl|rfl|rfl|rfl|rfl|rfl|rfl|rfl|rfl|rfl|rfl|rfl|rfl|rfl|rfl|rfl|rfl|rfl|rfl
        ·have e0:=hF9.od 0 (v:=.pointer (some ⟨t.B,0,none⟩)) rfl;refine zaU rfl ?_ (hK9 _ hS9);clear hF9;simp only [da7N,execOp,e0];first|done|(go_simp<;>omega)
        ·have e0:=hF9.od 0 (v:=.pointer (some ⟨t.B,0,none⟩)) rfl;refine zaU rfl ?_ (hK9 _ hS9);clear hF9;simp only [da7N,execOp,e0];first|done|(go_simp<;>omega)
        ·have e42:=hF9.ev 1 42;refine zaU rfl ?_ (hK9 _ hS9);clear hF9;simp only [da7N,execOp,e42];first|done|(go_simp<;>omega)
        ·have e43:=hF9.ev 2 43;refine zaU rfl ?_ (hK9 _ hS9);clear hF9;simp only [da7N,execOp,e43];first|done|(go_simp<;>omega)
        ·have e44:=hF9.ev 3 44;have c4:w9.cell? ⟨t.B,4,none⟩=some (.int .i64 (σ2.x:Int)):=hS9.r.cell (j:=4) (u:=.int .i64 (σ2.x:Int)) rfl;refine zaU rfl ?_ (hK9 _ hS9);clear hF9;simp only [da7N,execOp,e44];first|done|(go_simp<;>omega)
        ·have e0:=hF9.od 0 (v:=.pointer (some ⟨t.B,0,none⟩)) rfl;refine zaU rfl ?_ (hK9 _ hS9);clear hF9;simp only [da7N,execOp,e0];first|done|(go_simp<;>omega)
        ·have e46:=hF9.ev 5 46;refine zaU rfl ?_ (hK9 _ hS9);clear hF9;simp only [da7N,execOp,e46];first|done|(go_simp<;>omega)
        ·have e47:=hF9.ev 6 47;refine zaU rfl ?_ (hK9 _ hS9);clear hF9;simp only [da7N,execOp,e47];first|done|(go_simp<;>omega)
        ·have e48:=hF9.ev 7 48;refine zaU rfl ?_ (hK9 _ hS9);clear hF9;simp only [da7N,execOp,e48];first|done|(go_simp<;>omega)
        ·have e49:=hF9.ev 8 49;have c1:w9.cell? ⟨t.B,1,none⟩=some t.P.xv:=hS9.r.cell (j:=1) (u:=t.P.xv) rfl;rw [HXV.out] at c1;refine zaU rfl ?_ (hK9 _ hS9);clear hF9;simp only [da7N,execOp,e49];first|done|(go_simp<;>omega)
        ·have f50:=hF9.nw 9 50;refine zaU rfl ?_ (hK9 _ hS9);clear hF9;simp only [da7N,execOp];first|done|(go_simp<;>omega)
        ·have e45:=hF9.ev 4 45;have e51:=hF9.ev 10 51;have hk9:=HK1.out;refine zaU rfl ?_ (hK9 _ hS9);clear hF9;simp only [da7N,execOp,e45,e51];first|done|(go_simp<;>omega)
        ·have e52:=hF9.ev 11 52;refine zaU rfl ?_ (hK9 _ hS9);clear hF9;simp only [da7N,execOp,e52];first|done|(go_simp<;>omega)
        ·have e0:=hF9.od 0 (v:=.pointer (some ⟨t.B,0,none⟩)) rfl;refine zbA rfl (hF9.nw 12 53) ?_;refine zaP ?_ (hK9 _ hS9);clear hF9;simp only [da7N,execOp,e0];first|done|(go_simp<;>omega)
        ·have e54:=hF9.ev 13 54;refine zbA rfl (hF9.nw 12 53) ?_;refine zaP ?_ (hK9 _ hS9);clear hF9;simp only [da7N,execOp,e54];first|done|(go_simp<;>omega)
        ·have e55:=hF9.ev 14 55;refine zbA rfl (hF9.nw 12 53) ?_;refine zaP ?_ (hK9 _ hS9);clear hF9;simp only [da7N,execOp,e55];first|done|(go_simp<;>omega)
        ·have e56:=hF9.ev 15 56;refine zbA rfl (hF9.nw 12 53) ?_;have c5:w9.cell? ⟨t.B,5,none⟩=some (.int .i64 (σ2.s:Int)):=hS9.r.cell (j:=5) (u:=.int .i64 (σ2.s:Int)) rfl;refine zaP ?_ (hK9 _ hS9);clear hF9;simp only [da7N,execOp,e56];first|done|(go_simp<;>omega)
        ·have e0:=hF9.od 0 (v:=.pointer (some ⟨t.B,0,none⟩)) rfl;refine zbA rfl (hF9.nw 12 53) ?_;refine zaP ?_ (hK9 _ hS9);clear hF9;simp only [da7N,execOp,e0];first|done|(go_simp<;>omega)
        ·have e58:=hF9.ev 17 58;refine zbA rfl (hF9.nw 12 53) ?_;refine zaP ?_ (hK9 _ hS9);clear hF9;simp only [da7N,execOp,e58];first|done|(go_simp<;>omega)
        ·have e59:=hF9.ev 18 59;refine zbA rfl (hF9.nw 12 53) ?_;refine zaP ?_ (hK9 _ hS9);clear hF9;simp only [da7N,execOp,e59];first|done|(go_simp<;>omega)
        ·have e60:=hF9.ev 19 60;refine zbA rfl (hF9.nw 12 53) ?_;refine zaP ?_ (hK9 _ hS9);clear hF9;simp only [da7N,execOp,e60];first|done|(go_simp<;>omega)
        ·have e61:=hF9.ev 20 61;refine zbA rfl (hF9.nw 12 53) ?_;have c2:w9.cell? ⟨t.B,2,none⟩=some t.P.sv:=hS9.r.cell (j:=2) (u:=t.P.sv) rfl;rw [HSV.out] at c2;refine zaP ?_ (hK9 _ hS9);clear hF9;simp only [da7N,execOp,e61];first|done|(go_simp<;>omega)
        ·have f62:=hF9.nw 21 62;refine zbA rfl (hF9.nw 12 53) ?_;refine zaP ?_ (hK9 _ hS9);clear hF9;simp only [da7N,execOp];first|done|(go_simp<;>omega)
        ·have e57:=hF9.ev 16 57;have e63:=hF9.ev 22 63;refine zbA rfl (hF9.nw 12 53) ?_;have hk9:=HK2.out;refine zaP ?_ (hK9 _ hS9);clear hF9;simp only [da7N,execOp,e57,e63];first|done|(go_simp<;>omega)
        ·have e53:=hF9.ev 12 53;have e64:=hF9.ev 23 64;refine zaU rfl ?_ (hK9 _ hS9);clear hF9;simp only [da7N,execOp,e53,e64];first|done|(go_simp<;>omega)
       ·intro w9 hS9 K9 hK9;simp only [putA,da7N];rw [if_pos (zaG rfl)];unfold Oper.wp;go_simp;refine Calls.mono (zbF _ w9) ?_;rintro e w2 ⟨rfl,rfl⟩;refine ⟨rfl,?_⟩;rw [HR.out];exact ⟨rfl,hS9.bad (.refl _)⟩
     ·have HK1:Hid (((σ2.x:Int)==(nx:Int))=false):=hidI (by rw [beq_eq_false_iff_ne];omega);have HR:Hid (tProg P0 σ=none):=hidI (by rw [HR0.out,if_neg (fun e=>hx e.1)]);clear hx
      go_wp2_with (go_at_call 160;refine Calls.mono (CR.out) ?_;intro e w3 h3;obtain ⟨rfl,hb3⟩:=h3;clear CR;have HS3:Hid (TlS t σ2 X w3):=hidI hb3;clear hb3)
      refine zaQ da7N (fun i=>match i with|0=>.pointer (some ⟨t.B,0,none⟩)|1=>.pointer (some ⟨t.B,0,none⟩)|2=>.pointer (some ⟨t.B,0,none⟩)|3=>.pointer (some ⟨t.B,4,none⟩)|4=>.int .i64 (σ2.x:Int)|5=>.pointer (some ⟨t.B,0,none⟩)|6=>.pointer (some ⟨t.B,0,none⟩)|7=>.pointer (some ⟨t.B,0,none⟩)|8=>.pointer (some ⟨t.B,1,none⟩)|9=>.slice xa nx xc|10=>.int .i64 (nx:Int)|11=>.bool false|12=>.bool false|13=>undef|14=>undef|15=>undef|16=>undef|17=>undef|18=>undef|19=>undef|20=>undef|21=>undef|22=>undef|23=>undef|24=>.bool false|_=>undef) (fun y=>TlS t σ2 X y) 25 Tryz.mixed (by kernel_rfl) (by kernel_rfl) HS3.out.drew ?_ ?_
      ·intro i9 hi9 a9 w9 hF9 hS9 K9 hK9;have hc9:i9=0∨i9=1∨i9=2∨i9=3∨i9=4∨i9=5∨i9=6∨i9=7∨i9=8∨i9=9∨i9=10∨i9=11∨i9=12∨i9=13∨i9=14∨i9=15∨i9=16∨i9=17∨i9=18∨i9=19∨i9=20∨i9=21∨i9=22∨i9=23∨i9=24:=by omega
       clear hi9;rcases hc9 with rfl|rfl|rfl|rfl|rfl|rfl|rfl|rfl|rfl|rfl|rfl|rfl|rfl|rfl|rfl|rfl|rfl|rfl|rfl|rfl|rfl|rfl|rfl|rfl|rfl
       ·have e0:=hF9.od 0 (v:=.pointer (some ⟨t.B,0,none⟩)) rfl;refine zaU rfl ?_ (hK9 _ hS9);clear hF9;simp only [da7N,execOp,e0];first|done|(go_simp<;>omega)
       ·have e0:=hF9.od 0 (v:=.pointer (some ⟨t.B,0,none⟩)) rfl;refine zaU rfl ?_ (hK9 _ hS9);clear hF9;simp only [da7N,execOp,e0];first|done|(go_simp<;>omega)
       ·have e42:=hF9.ev 1 42;refine zaU rfl ?_ (hK9 _ hS9);clear hF9;simp only [da7N,execOp,e42];first|done|(go_simp<;>omega)
       ·have e43:=hF9.ev 2 43;refine zaU rfl ?_ (hK9 _ hS9);clear hF9;simp only [da7N,execOp,e43];first|done|(go_simp<;>omega)
       ·have e44:=hF9.ev 3 44;have c4:w9.cell? ⟨t.B,4,none⟩=some (.int .i64 (σ2.x:Int)):=hS9.r.cell (j:=4) (u:=.int .i64 (σ2.x:Int)) rfl;refine zaU rfl ?_ (hK9 _ hS9);clear hF9;simp only [da7N,execOp,e44];first|done|(go_simp<;>omega)
       ·have e0:=hF9.od 0 (v:=.pointer (some ⟨t.B,0,none⟩)) rfl;refine zaU rfl ?_ (hK9 _ hS9);clear hF9;simp only [da7N,execOp,e0];first|done|(go_simp<;>omega)
       ·have e46:=hF9.ev 5 46;refine zaU rfl ?_ (hK9 _ hS9);clear hF9;simp only [da7N,execOp,e46];first|done|(go_simp<;>omega)
       ·have e47:=hF9.ev 6 47;refine zaU rfl ?_ (hK9 _ hS9);clear hF9;simp only [da7N,execOp,e47];first|done|(go_simp<;>omega)
       ·have e48:=hF9.ev 7 48;refine zaU rfl ?_ (hK9 _ hS9);clear hF9;simp only [da7N,execOp,e48];first|done|(go_simp<;>omega)
       ·have e49:=hF9.ev 8 49;have c1:w9.cell? ⟨t.B,1,none⟩=some t.P.xv:=hS9.r.cell (j:=1) (u:=t.P.xv) rfl;rw [HXV.out] at c1;refine zaU rfl ?_ (hK9 _ hS9);clear hF9;simp only [da7N,execOp,e49];first|done|(go_simp<;>omega)
       ·have f50:=hF9.nw 9 50;refine zaU rfl ?_ (hK9 _ hS9);clear hF9;simp only [da7N,execOp];first|done|(go_simp<;>omega)
       ·have e45:=hF9.ev 4 45;have e51:=hF9.ev 10 51;have hk9:=HK1.out;refine zaU rfl ?_ (hK9 _ hS9);clear hF9;simp only [da7N,execOp,e45,e51];first|done|(go_simp<;>omega)
       ·have e52:=hF9.ev 11 52;refine zaU rfl ?_ (hK9 _ hS9);clear hF9;simp only [da7N,execOp,e52];first|done|(go_simp<;>omega)
       iterate 11 exact zaK rfl (hF9.nw 12 53) (hK9 _ hS9)
       ·have e53:=hF9.ev 12 53;have e64:=hF9.ev 23 64;refine zaU rfl ?_ (hK9 _ hS9);clear hF9;simp only [da7N,execOp,e53,e64];first|done|(go_simp<;>omega)
      ·intro w9 hS9 K9 hK9;simp only [putA,da7N];rw [if_pos (zaG rfl)];unfold Oper.wp;go_simp;refine Calls.mono (zbF _ w9) ?_;rintro e w2 ⟨rfl,rfl⟩;refine ⟨rfl,?_⟩;rw [HR.out];exact ⟨rfl,hS9.bad (.refl _)⟩
   | succ g=>
    have k1:(j:Int)<(n:Int):=by omega
    obtain ⟨d,hi⟩:∃ d,P0.decls[j]?=some d:=⟨_,List.getElem?_eq_getElem (by have:=HN.out;omega)⟩;obtain ⟨_,a',cap',hav,hcell⟩:=HD0.out.below HSj.out.r.below (Nat.le_refl _);cases hav;rcases hcell with h0|⟨b,o,rfl,hcell⟩
    ·omega
    have x0:=hcell (j*3+0) _ (by unfold flatD;rw [zbE dcells 3 dcells_len P0.decls j 0 d hi (by omega)];rfl);have x1:=hcell (j*3+1) _ (by unfold flatD;rw [zbE dcells 3 dcells_len P0.decls j 1 d hi (by omega)];rfl);have x2:=hcell (j*3+2) _ (by unfold flatD;rw [zbE dcells 3 dcells_len P0.decls j 2 d hi (by omega)];rfl);simp only [Nat.add_zero,←Nat.add_assoc] at x0 x1 x2;have HA:Hid (TlS t σj (dBx wr.heap.size d::X) (wr.alloc (.cells #[.string d.name,.int .u8 (d.side:Int),.int .u8 (d.kind:Int)] 106))):=hidI (HSj.out.newbox 106 3 #[.string d.name,.int .u8 (d.side:Int),.int .u8 (d.kind:Int)] rfl);have HD:=hidI (tAll_drop tDecl P0.decls j d hi σj);have hdn:=HDO.out d (List.mem_of_getElem? hi);have CS:Hid (∀ W,TlS t σj (dBx wr.heap.size d::X) W→Calls Tryz.prog 159 #[.pointer (some ⟨t.B,0,none⟩),.agg #[.string (declWd d.side d.kind),.string (declPt d.side d.kind)],.agg #[.string d.name,.int .u8 0,.bool false,.int .i64 (-1),.int .i64 (-1),.slice none 0 0,.slice none 0 0,.slice none 0 0]] W (TPost t (dBx wr.heap.size d::X) (tDecl d σj))):=hidI (fun W hW=>by
     obtain ⟨p1,p2,p3,p4,p5⟩:=declPt_asc d.side d.kind;have h9:=shaped_any HK.out (sw:=declWd d.side d.kind) (sp:=declPt d.side d.kind) p4 p1 (k:=ctnD d) (a1:=none) (c1:=0) (a2:=none) (c2:=0) (a3:=none) (c3:=0) (part:=tPart noT noT noT (ctnD d)) (kp_part zeP zeP zeP) hW (fun c hc=>by
      rw [p2] at hc;obtain rfl:=p3 c hc;exact part_n HK.out hdn)
     rw [p2,p5] at h9;rw [p5];exact h9)
    clear hi hcell hdn HSj;go_wp2;refine zaQ da4N (fun i=>match i with|0=>.pointer (some ⟨t.B,0,none⟩)|1=>.pointer (some ⟨wr.heap.size,1,none⟩)|2=>.int .u8 (d.side:Int)|3=>.pointer (some ⟨wr.heap.size,2,none⟩)|4=>.int .u8 (d.kind:Int)|5=>.agg #[.string (declWd d.side d.kind),.string (declPt d.side d.kind)]|6=>.pointer (some ⟨wr.heap.size,0,none⟩)|7=>.string d.name|8=>.agg #[.string d.name,.int .u8 0,.bool false,.int .i64 (-1),.int .i64 (-1),.slice none 0 0,.slice none 0 0,.slice none 0 0]|_=>undef) (fun y=>TlS t σj (dBx wr.heap.size d::X) y) 9 Tryz.mixed (by kernel_rfl) (by kernel_rfl) HA.out.drew ?_ ?_
    ·intro i9 hi9 a9 w9 hF9 hS9 K9 hK9;have hc9:i9=0∨i9=1∨i9=2∨i9=3∨i9=4∨i9=5∨i9=6∨i9=7∨i9=8:=by omega
     clear hi9;rcases hc9 with rfl|rfl|rfl|rfl|rfl|rfl|rfl|rfl|rfl
     ·have e0:=hF9.od 0 (v:=.pointer (some ⟨t.B,0,none⟩)) rfl;refine zaU rfl ?_ (hK9 _ hS9);clear hF9;simp only [da4N,execOp,e0];first|done|(go_simp<;>omega)
     ·have e3:=hF9.od 3 (v:=.pointer (some ⟨wr.heap.size,0,none⟩)) rfl;refine zaU rfl ?_ (hK9 _ hS9);clear hF9;simp only [da4N,execOp,e3];first|done|(go_simp<;>omega)
     ·have e24:=hF9.ev 1 24;have q0:=zaA (hS9.r.own (r:=dBx wr.heap.size d) (by simp)) (j:=1) rfl;refine zaU rfl ?_ (hK9 _ hS9);clear hF9;simp only [da4N,execOp,e24];first|done|(go_simp<;>omega)
     ·have e3:=hF9.od 3 (v:=.pointer (some ⟨wr.heap.size,0,none⟩)) rfl;refine zaU rfl ?_ (hK9 _ hS9);clear hF9;simp only [da4N,execOp,e3];first|done|(go_simp<;>omega)
     ·have e26:=hF9.ev 3 26;have q0:=zaA (hS9.r.own (r:=dBx wr.heap.size d) (by simp)) (j:=2) rfl;refine zaU rfl ?_ (hK9 _ hS9);clear hF9;simp only [da4N,execOp,e26];first|done|(go_simp<;>omega)
     ·rw [if_pos (zaG rfl)];unfold Oper.wp;have f25:=hF9.nw 2 25;have f27:=hF9.nw 4 27;have hr9:(execOp a9.eval (da4N 5)).run Tryz.prog w9=.ok (.enter 145 #[.int .u8 (d.side:Int),.int .u8 (d.kind:Int)]) w9:=by
       simp only [da4N,execOp];go_simp
      rw [hr9,Oper.upon_enter];refine Calls.mono (declSh_all d.side d.kind w9) ?_;rintro e9 w8 ⟨rfl,hb⟩;exact hK9 _ (hS9.on hb)
     ·have e3:=hF9.od 3 (v:=.pointer (some ⟨wr.heap.size,0,none⟩)) rfl;refine zaU rfl ?_ (hK9 _ hS9);clear hF9;simp only [da4N,execOp,e3];first|done|(go_simp<;>omega)
     ·have e29:=hF9.ev 6 29;have q0:=zaA (hS9.r.own (r:=dBx wr.heap.size d) (by simp)) (j:=0) rfl;refine zaU rfl ?_ (hK9 _ hS9);clear hF9;simp only [da4N,execOp,e29];first|done|(go_simp<;>omega)
     ·have f30:=hF9.nw 7 30;refine zaU rfl ?_ (hK9 _ hS9);clear hF9;simp only [da4N,execOp];first|done|(go_simp<;>omega)
    ·intro w9 hS9 K9 hK9;simp only [putA,da4N];rw [if_pos (zaG rfl)];unfold Oper.wp;go_simp;have CB:=hidI (CS.out w9 hS9);clear hS9;cases hr:tDecl d σj with
     | none=>
      have HR:Hid (tProg P0 σ=none):=hidI (by rw [HM.out,HT.out,HD.out,hr]);rw [hr] at CB;refine Calls.mono CB.out ?_;rintro e w5 ⟨rfl,hb5⟩;refine ⟨rfl,?_⟩;rw [HR.out];exact ⟨rfl,hb5.sub (.cons _ (.refl _))⟩
     | some σ2=>
      have HT2:Hid (tAll tDecl P0.decls σ=tAll tDecl (P0.decls.drop (j+1)) σ2):=hidI (by rw [HT.out,HD.out,hr]);rw [hr] at CB;refine Calls.mono CB.out ?_;rintro e w5 ⟨rfl,hb5⟩;refine hK9 _ _ ?_;clear hK9 K9 CB hr;have HS5:=hidI (hb5.sub (.cons _ (.refl _)));clear hb5;go_wp2;go_roundg g
      case measure=>omega
      case rel=>exact ⟨j+1,σ2,by omega,by go_num,HT2,HS5⟩
 ·have HR:Hid (tProg P0 σ=none):=hidI (by rw [HM.out,if_neg hn24]);have k24:¬ ((n:Int)≤24):=by omega
  have CM:=hidI (fun W=>zbF (.pointer (some ⟨t.B,0,none⟩)) W);have HB:=hidI (HH.out.bad (.refl _));clear hk HH;go_enter Tryz.func106,Tryz.ntmps106
  go_wp2_with (go_at_call 158;refine Calls.mono (CM.out _) ?_;intro e w2 h2;obtain ⟨rfl,rfl⟩:=h2;clear CM)
  refine ⟨rfl,?_⟩;rw [HR.out];exact ⟨rfl,HB.out⟩
end Go.Proofs.YtfljimpgnlfipaaGreatDoor

