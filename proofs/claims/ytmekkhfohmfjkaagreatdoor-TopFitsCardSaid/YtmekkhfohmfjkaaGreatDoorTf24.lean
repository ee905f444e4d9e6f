/-
  Part 24 of the proof: TlH, TlI0.
-/
import Derived.Test.YtmekkhfohmfjkaaGreatDoorTf23
namespace Go.Proofs.YtmekkhfohmfjkaaGreatDoor
open Go.RowKit Go.Deep Go.MapKept
def oBx (b o:Nat):Rw:=⟨bx b,75,1,1,[.int .u8 (o:Int)]⟩
def kBx (b:Nat) (a:Option Addr) (n c:Nat):Rw:=⟨bx b,45,1,1,[.slice a n c]⟩
def cc0N:Nat→Oper
 | 0=>⟨some 5,.load 219 (.tmp 0),219, "tell.go:112",#[],none⟩
 | 1=>⟨some 6,.load 75 (.tmp 1),75, "tell.go:112",#[],none⟩
 | 2=>⟨some 7,.call ⟨.value (.func 87),#[.tmp 6],#[75]⟩,9, "tell.go:112",#[⟨1,.data⟩],none⟩
 | _=>⟨some 8,.call ⟨.value (.func 154),#[.tmp 5,.tmp 7],#[219,9]⟩,0, "tell.go:112",#[⟨0,.data⟩,⟨2,.data⟩,⟨2,.chain⟩],none⟩
set_option maxRecDepth 100000 in
set_option maxHeartbeats 2000000 in
theorem cclo_any {t:Tx} {F:Nat} (hk:t.Ok F) {ex:Int→TM} {kids:List Int} {a1:Option Addr} {c1 o:Nat} (ho:o≤19) (hkp:∀ i,Kp (ex i)) (hv:SeesC t.w0 (.slice a1 kids.length c1) kids.length 1 (intsI kids)) (hl:kids.length≤1099511627776) {σ:TS} {X:List Rw} {w:World} {tb ob kb f0:Nat} (h:TlS t σ (kBx kb a1 kids.length c1::oBx ob o::tBx tb t.B::X) w) (hf:f0≤σ.f) (HE:∀ i,AtC t 176 (ex i) f0 i) :
  Calls Tryz.prog 192 #[.pointer (some ⟨tb,0,none⟩),.pointer (some ⟨ob,0,none⟩),.pointer (some ⟨kb,0,none⟩)] w (TPost t (kBx kb a1 kids.length c1::oBx ob o::tBx tb t.B::X) (tSeq (tWord (opW o)) (tAll ex kids) σ)):=by
 have HV:=hidI hv
 have HE:=hidI HE
 have HKP:=hidI hkp
 clear hv hkp
 go_enter Tryz.func192,Tryz.ntmps192
 go_wp2
 refine zaQ cc0N (fun i=>match i with|0=>.pointer (some ⟨t.B,0,none⟩)|1=>.int .u8 (o:Int)|2=>.string (opWd o)|_=>undef) (fun y=>TlS t σ (kBx kb a1 kids.length c1::oBx ob o::tBx tb t.B::X) y) 3 Tryz.mixed (by kernel_rfl) (by kernel_rfl) h.drew ?_ ?_
 ·intro i9 hi9 a9 w9 hF9 hS9 K9 hK9
  have hc9:i9=0∨i9=1∨i9=2:=by omega
  clear hi9
  rcases hc9 with rfl|rfl|rfl
  ·have e0:=hF9.od 0 (v:=.pointer (some ⟨tb,0,none⟩)) rfl
   have q0:=zaB (hS9.r.own (r:=tBx tb t.B) (by simp)) (j:=0) rfl
   refine zaS rfl ?_ (hK9 _ hS9)
   clear hF9
   simp only [cc0N,execOp,e0]
   first|done|(go_simp<;>omega)
  ·have e1:=hF9.od 1 (v:=.pointer (some ⟨ob,0,none⟩)) rfl
   have q0:=zaB (hS9.r.own (r:=oBx ob o) (by simp)) (j:=0) rfl
   refine zaS rfl ?_ (hK9 _ hS9)
   clear hF9
   simp only [cc0N,execOp,e1]
   first|done|(go_simp<;>omega)
  ·rw [if_pos (zaD rfl)]
   unfold Oper.wp
   have f6:=hF9.nw 1 6
   have hr9:(execOp a9.eval (cc0N 2)).run Tryz.prog w9=.ok (.enter 87 #[.int .u8 (o:Int)]) w9:=by
    simp only [cc0N,execOp]
    go_simp
   rw [hr9,Oper.upon_enter]
   refine Calls.mono (opWord_any o ho w9) ?_
   rintro e9 w8 ⟨rfl,hb⟩
   exact hK9 _ (hS9.on hb)
 ·intro w9 hS9 K9 hK9
  simp only [putA,cc0N]
  rw [if_pos (zaD rfl)]
  unfold Oper.wp
  go_simp
  have CW:=hidI (zdB hk hS9 (opWd_eq o ho).2)
  clear hS9
  cases hr:tWord (opWd o) σ with
  | none=>
   have HR:Hid (tSeq (tWord (opW o)) (tAll ex kids) σ=none):=hidI (by unfold tSeq;rw [←(opWd_eq o ho).1,hr])
   rw [hr] at CW
   refine Calls.mono CW.out ?_
   rintro e w2 ⟨rfl,hb2⟩
   refine ⟨rfl,?_⟩
   rw [HR.out]
   exact ⟨rfl,hb2⟩
  | some σ1=>
   have HR:Hid (tSeq (tWord (opW o)) (tAll ex kids) σ=tAll ex kids σ1):=hidI (by unfold tSeq;rw [←(opWd_eq o ho).1,hr])
   have HF1:Hid (f0≤σ1.f):=hidI (Nat.le_trans hf (zcW _ _ _ hr).2.1)
   rw [hr] at CW
   refine Calls.mono CW.out ?_
   rintro e w2 ⟨rfl,hb2⟩
   refine hK9 _ _ ?_
   have HS2:=hidI hb2
   clear hK9 K9 CW hr hb2
   have q2:=zaB (HS2.out.r.own (r:=kBx kb a1 kids.length c1) (by simp)) (j:=0) rfl
   obtain ⟨n,hn⟩:∃ n,kids.length=n:=⟨_,rfl⟩
   have HN:=hidI hn
   rw [hn] at hl q2 HS2
   rw [hn]
   clear hn
   go_wp2
   go_loopg [11] n (fun g s11 wx=>∃ (j:Nat) (σj:TS),j+g=n∧s11=.int .i64 (j:Int)∧Hid (tAll ex kids σ1=tAll ex (kids.drop j) σj)∧Hid (f0≤σj.f)∧Hid (TlS t σj (kBx kb a1 n c1::oBx ob o::tBx tb t.B::X) wx))
   case atStart=>exact ⟨0,σ1,by omega,rfl,hidI rfl,HF1,HS2⟩
   case round=>
    obtain ⟨j,σj,hjg,rfl,HT,HF,HSj⟩:=hrel
    clear HS2
    cases gk with
    | zero=>
     obtain rfl:n=j:=by omega
     have k1:decide ((n:Int)<(n:Int))=false:=by simp
     have HR2:Hid (tSeq (tWord (opW o)) (tAll ex kids) σ=some σj):=hidI (by
      rw [HR.out,HT.out,List.drop_of_length_le (by have:=HN.out;omega)]
      rfl)
     go_wp2
     go_end0
     rw [HR2.out]
     exact ⟨rfl,by rw [HN.out];exact HSj.out⟩
    | succ g=>
     have k1:(j:Int)<(n:Int):=by omega
     obtain ⟨i,hi⟩:∃ i,kids[j]?=some i:=⟨_,List.getElem?_eq_getElem (by have:=HN.out;omega)⟩
     have q0:=zaB (HSj.out.r.own (r:=tBx tb t.B) (by simp)) (j:=0) rfl
     obtain ⟨_,a',cap',hav,hcell⟩:=HV.out.below HSj.out.r.below (Nat.le_refl _)
     rw [HN.out] at hav
     cases hav
     rcases hcell with h0|⟨b,o7,rfl,hcell⟩
     ·have:=HN.out;omega
     have x0:=hcell j _ (zcQ hi)
     have CP:=hidI (HE.out i t.K σj _ _ HSj.out HF.out)
     have HD:=hidI (tAll_drop ex kids j i hi σj)
     clear hi hcell
     cases hr:ex i σj with
     | none=>
      have HR2:Hid (tSeq (tWord (opW o)) (tAll ex kids) σ=none):=hidI (by rw [HR.out,HT.out,HD.out,hr])
      rw [hr] at CP
      clear hr
      go_wp2_with (go_at_call 176;refine Calls.mono (CP.out) ?_;intro e w3 h3;obtain ⟨rfl,hb3⟩:=h3;clear CP)
      refine ⟨rfl,?_⟩
      rw [HR2.out]
      exact ⟨rfl,by rw [HN.out];exact hb3⟩
     | some σ2=>
      have HT2:Hid (tAll ex kids σ1=tAll ex (kids.drop (j+1)) σ2):=hidI (by rw [HT.out,HD.out,hr])
      have HF2:Hid (f0≤σ2.f):=hidI (Nat.le_trans HF.out (HKP.out i _ _ hr).2.1)
      rw [hr] at CP
      clear hr
      go_wp2_with (go_at_call 176;refine Calls.mono (CP.out) ?_;intro e w3 h3;obtain ⟨rfl,hb3⟩:=h3;clear CP;have HS3:=hidI hb3;clear hb3)
      go_roundg g
      case measure=>omega
      case rel=>exact ⟨j+1,σ2,by omega,by go_num,HT2,HF2,HS3⟩
def cl1N:Nat→Oper
 | 0=>⟨some 6,.load 219 (.tmp 3),219, "tell.go:110",#[],none⟩
 | 1=>⟨some 7,.load 75 (.tmp 4),75, "tell.go:110",#[],none⟩
 | 2=>⟨some 8,.call ⟨.value (.func 185),#[.tmp 7],#[75]⟩,3, "tell.go:110",#[⟨1,.data⟩],none⟩
 | 3=>⟨some 9,.binOp .gtr 3 (.tmp 8) (.const (.int .i64 0)) 3,4, "tell.go:110",#[⟨2,.data⟩],none⟩
 | 4=>⟨some 10,.move (.tmp 9),4, "tell.go:110",#[⟨3,.data⟩,⟨2,.chain⟩],none⟩
 | 5=>⟨some 11,.load 45 (.tmp 5),45, "tell.go:110",#[⟨4,.guard⟩],some (4,true)⟩
 | 6=>⟨some 12,.call ⟨.builtin .len,#[.tmp 11],#[45]⟩,3, "tell.go:110",#[⟨5,.data⟩,⟨4,.guard⟩],some (4,true)⟩
 | 7=>⟨some 13,.load 75 (.tmp 4),75, "tell.go:110",#[⟨4,.guard⟩],some (4,true)⟩
 | 8=>⟨some 14,.call ⟨.value (.func 185),#[.tmp 13],#[75]⟩,3, "tell.go:110",#[⟨7,.data⟩,⟨4,.chain⟩,⟨4,.guard⟩],some (4,true)⟩
 | 9=>⟨some 15,.binOp .eql 3 (.tmp 12) (.tmp 14) 3,4, "tell.go:110",#[⟨6,.data⟩,⟨8,.data⟩,⟨4,.guard⟩],some (4,true)⟩
 | 10=>⟨some 16,.pick (.tmp 10) (.tmp 15) (.const (.bool false)),4, "tell.go:110",#[⟨4,.data⟩,⟨9,.data⟩],none⟩
 | _=>⟨some 17,.call ⟨.value (.func 124),#[.tmp 6,.tmp 16],#[219,4]⟩,0, "tell.go:110",#[⟨0,.data⟩,⟨10,.data⟩,⟨8,.chain⟩],none⟩
set_option maxRecDepth 100000 in
set_option maxHeartbeats 2000000 in
theorem call_any {t:Tx} {F:Nat} (hk:t.Ok F) {ex:Int→TM} {kids:List Int} {a1:Option Addr} {c1 o:Nat} (hkp:∀ i,Kp (ex i)) (hv:SeesC t.w0 (.slice a1 kids.length c1) kids.length 1 (intsI kids)) (hl:kids.length≤1099511627776) {σ:TS} {X:List Rw} {w:World} (h:TlS t σ X w) (HE:∀ i,AtC t 176 (ex i) (σ.f+1) i) :
  Calls Tryz.prog 188 #[.pointer (some ⟨t.B,0,none⟩),.int .u8 (o:Int),.slice a1 kids.length c1] w (TPost t X (tCall ex o kids σ)):=by
 have hmf:∀ (fn:Go.Fn) (first cap:Array Value) (w:World),(Instr.makeFunc fn first cap).run Tryz.prog w=.ok (.func fn first cap) w:=fun _ _ _ _=>rfl
 obtain ⟨n,hn⟩:∃ n,kids.length=n:=⟨_,rfl⟩
 have HA:Hid (TlS t σ (kBx (w.heap.size+2) a1 n c1::oBx (w.heap.size+1) o::tBx w.heap.size t.B::X) (((w.alloc (.cells #[.pointer (some ⟨t.B,0,none⟩)] 219)).alloc (.cells #[.int .u8 (o:Int)] 75)).alloc (.cells #[.slice a1 n c1] 45))):=hidI (by
  have h0:=((h.newbox 219 1 #[.pointer (some ⟨t.B,0,none⟩)] rfl).newbox 75 1 #[.int .u8 (o:Int)] rfl).newbox 45 1 #[.slice a1 n c1] rfl
  simp only [World.size_alloc] at h0
  exact h0)
 have HR:Hid (tCall ex o kids σ=if 0<arityN o∧kids.length=arityN o then tBrk (tSeq (tWord (opW o)) (tAll ex kids)) σ else none):=hidI rfl
 obtain ⟨m,hm⟩:∃ m,arityN o=m:=⟨_,rfl⟩
 have CA:=hidI (fun W=>arityK o W)
 rw [hm] at CA HR
 rw [hn] at HR
 by_cases hm0:m=0
 ·have HR:Hid (tCall ex o kids σ=none):=hidI (by rw [HR.out,if_neg (by omega)])
  have HK1:Hid (¬ ((m:Int)>0)):=hidI (by omega)
  rw [hn]
  clear hm0 hm h HE hv hn
  go_enter Tryz.func188,Tryz.ntmps188
  go_wp2
  refine zaQ cl1N (fun i=>match i with|0=>.pointer (some ⟨t.B,0,none⟩)|1=>.int .u8 (o:Int)|2=>.int .i64 (m:Int)|3=>.bool false|4=>.bool false|5=>undef|6=>undef|7=>undef|8=>undef|9=>undef|10=>.bool false|_=>undef) (fun y=>TlS t σ (kBx (w.heap.size+2) a1 n c1::oBx (w.heap.size+1) o::tBx w.heap.size t.B::X) y) 11 Tryz.mixed (by kernel_rfl) (by kernel_rfl) HA.out.drew ?_ ?_
  ·intro i9 hi9 a9 w9 hF9 hS9 K9 hK9
   have hc9:i9=0∨i9=1∨i9=2∨i9=3∨i9=4∨i9=5∨i9=6∨i9=7∨i9=8∨i9=9∨i9=10:=by omega
   clear hi9
   rcases hc9 with rfl|rfl|rfl|rfl|rfl|rfl|rfl|rfl|rfl|rfl|rfl
   ·have e3:=hF9.od 3 (v:=.pointer (some ⟨w.heap.size,0,none⟩)) rfl
    have q0:=zaB (hS9.r.own (r:=tBx w.heap.size t.B) (by simp)) (j:=0) rfl
    refine zaS rfl ?_ (hK9 _ hS9)
    clear hF9
    simp only [cl1N,execOp,e3]
    first|done|(go_simp<;>omega)
   ·have e4:=hF9.od 4 (v:=.pointer (some ⟨w.heap.size+1,0,none⟩)) rfl
    have q0:=zaB (hS9.r.own (r:=oBx (w.heap.size+1) o) (by simp)) (j:=0) rfl
    refine zaS rfl ?_ (hK9 _ hS9)
    clear hF9
    simp only [cl1N,execOp,e4]
    first|done|(go_simp<;>omega)
   ·rw [if_pos (zaD rfl)]
    unfold Oper.wp
    have f7:=hF9.nw 1 7
    have hr9:(execOp a9.eval (cl1N 2)).run Tryz.prog w9=.ok (.enter 185 #[.int .u8 (o:Int)]) w9:=by
     simp only [cl1N,execOp]
     go_simp
    rw [hr9,Oper.upon_enter]
    refine Calls.mono (CA.out w9) ?_
    rintro e9 w8 ⟨rfl,hb⟩
    exact hK9 _ (hb▸hS9)
   ·have e8:=hF9.ev 2 8
    have hk9:=HK1.out
    refine zaS rfl ?_ (hK9 _ hS9)
    clear hF9
    simp only [cl1N,execOp,e8]
    first|done|(go_simp<;>omega)
   ·have e9:=hF9.ev 3 9
    refine zaS rfl ?_ (hK9 _ hS9)
    clear hF9
    simp only [cl1N,execOp,e9]
    first|done|(go_simp<;>omega)
   ·exact zbU rfl (hF9.nw 4 10) (hK9 _ hS9)
   ·exact zbU rfl (hF9.nw 4 10) (hK9 _ hS9)
   ·exact zbU rfl (hF9.nw 4 10) (hK9 _ hS9)
   ·exact zbU rfl (hF9.nw 4 10) (hK9 _ hS9)
   ·exact zbU rfl (hF9.nw 4 10) (hK9 _ hS9)
   ·have e10:=hF9.ev 4 10
    have e15:=hF9.ev 9 15
    refine zaS rfl ?_ (hK9 _ hS9)
    clear hF9
    simp only [cl1N,execOp,e10,e15]
    first|done|(go_simp<;>omega)
  ·intro w9 hS9 K9 hK9
   simp only [putA,cl1N]
   rw [if_pos (zaD rfl)]
   unfold Oper.wp
   go_simp
   refine Calls.mono (zbC _ w9) ?_
   rintro e w2 ⟨rfl,rfl⟩
   refine ⟨rfl,?_⟩
   rw [HR.out]
   exact ⟨rfl,hS9.bad (.cons _ (.cons _ (.cons _ (.refl _))))⟩
 have HK1:Hid ((m:Int)>0):=hidI (by omega)
 by_cases hmn:n=m
 ·have HR:Hid (tCall ex o kids σ=tBrk (tSeq (tWord (opW o)) (tAll ex kids)) σ):=hidI (by rw [HR.out,if_pos (by omega)])
  have HK2:Hid (((n:Int)==(m:Int))=true):=hidI (by rw [beq_iff_eq];omega)
  have ho:o≤19:=by
   unfold arityN at hm
   split at hm
   ·omega
   ·omega
  have CK:Hid (∀ W,TlS t σ (kBx (w.heap.size+2) a1 n c1::oBx (w.heap.size+1) o::tBx w.heap.size t.B::X) W→Calls Tryz.prog 152 #[.pointer (some ⟨t.B,0,none⟩),.func (.func 192) #[] #[.pointer (some ⟨w.heap.size,0,none⟩),.pointer (some ⟨w.heap.size+1,0,none⟩),.pointer (some ⟨w.heap.size+2,0,none⟩)]] W (TPost t (kBx (w.heap.size+2) a1 n c1::oBx (w.heap.size+1) o::tBx w.heap.size t.B::X) (tBrk (tSeq (tWord (opW o)) (tAll ex kids)) σ))):=hidI (fun W hW=>
   brk2_any hk hW (.inr (.inl ⟨rfl,_,_,_,rfl⟩)) (kp_seq (zcW _) (kp_all hkp _)) (fun σ1 w1 h1 hf1=>by
    have h2:=cclo_any (f0:=σ.f+1) hk ho hkp hv hl (σ:=σ1) (X:=X) (w:=w1) (tb:=w.heap.size) (ob:=w.heap.size+1) (kb:=w.heap.size+2) (by rw [hn];exact h1) (by omega) HE
    rw [hn] at h2
    exact h2))
  rw [hn]
  clear hm0 hmn hm h HE hv hn
  go_enter Tryz.func188,Tryz.ntmps188
  go_wp2
  refine zaQ cl1N (fun i=>match i with|0=>.pointer (some ⟨t.B,0,none⟩)|1=>.int .u8 (o:Int)|2=>.int .i64 (m:Int)|3=>.bool true|4=>.bool true|5=>.slice a1 n c1|6=>.int .i64 (n:Int)|7=>.int .u8 (o:Int)|8=>.int .i64 (m:Int)|9=>.bool true|10=>.bool true|_=>undef) (fun y=>TlS t σ (kBx (w.heap.size+2) a1 n c1::oBx (w.heap.size+1) o::tBx w.heap.size t.B::X) y) 11 Tryz.mixed (by kernel_rfl) (by kernel_rfl) HA.out.drew ?_ ?_
  ·intro i9 hi9 a9 w9 hF9 hS9 K9 hK9
   have hc9:i9=0∨i9=1∨i9=2∨i9=3∨i9=4∨i9=5∨i9=6∨i9=7∨i9=8∨i9=9∨i9=10:=by omega
   clear hi9
   rcases hc9 with rfl|rfl|rfl|rfl|rfl|rfl|rfl|rfl|rfl|rfl|rfl
   ·have e3:=hF9.od 3 (v:=.pointer (some ⟨w.heap.size,0,none⟩)) rfl
    have q0:=zaB (hS9.r.own (r:=tBx w.heap.size t.B) (by simp)) (j:=0) rfl
    refine zaS rfl ?_ (hK9 _ hS9)
    clear hF9
    simp only [cl1N,execOp,e3]
    first|done|(go_simp<;>omega)
   ·have e4:=hF9.od 4 (v:=.pointer (some ⟨w.heap.size+1,0,none⟩)) rfl
    have q0:=zaB (hS9.r.own (r:=oBx (w.heap.size+1) o) (by simp)) (j:=0) rfl
    refine zaS rfl ?_ (hK9 _ hS9)
    clear hF9
    simp only [cl1N,execOp,e4]
    first|done|(go_simp<;>omega)
   ·rw [if_pos (zaD rfl)]
    unfold Oper.wp
    have f7:=hF9.nw 1 7
    have hr9:(execOp a9.eval (cl1N 2)).run Tryz.prog w9=.ok (.enter 185 #[.int .u8 (o:Int)]) w9:=by
     simp only [cl1N,execOp]
     go_simp
    rw [hr9,Oper.upon_enter]
    refine Calls.mono (CA.out w9) ?_
    rintro e9 w8 ⟨rfl,hb⟩
    exact hK9 _ (hb▸hS9)
   ·have e8:=hF9.ev 2 8
    have hk9:=HK1.out
    refine zaS rfl ?_ (hK9 _ hS9)
    clear hF9
    simp only [cl1N,execOp,e8]
    first|done|(go_simp<;>omega)
   ·have e9:=hF9.ev 3 9
    refine zaS rfl ?_ (hK9 _ hS9)
    clear hF9
    simp only [cl1N,execOp,e9]
    first|done|(go_simp<;>omega)
   ·have e5:=hF9.od 5 (v:=.pointer (some ⟨w.heap.size+2,0,none⟩)) rfl
    refine zbR rfl (hF9.nw 4 10) ?_
    have q0:=zaB (hS9.r.own (r:=kBx (w.heap.size+2) a1 n c1) (by simp)) (j:=0) rfl
    refine zbF ?_ (hK9 _ hS9)
    clear hF9
    simp only [cl1N,execOp,e5]
    first|done|(go_simp<;>omega)
   ·have f11:=hF9.nw 5 11
    refine zbR rfl (hF9.nw 4 10) ?_
    refine zbF ?_ (hK9 _ hS9)
    clear hF9
    simp only [cl1N,execOp]
    first|done|(go_simp<;>omega)
   ·have e4:=hF9.od 4 (v:=.pointer (some ⟨w.heap.size+1,0,none⟩)) rfl
    refine zbR rfl (hF9.nw 4 10) ?_
    have q0:=zaB (hS9.r.own (r:=oBx (w.heap.size+1) o) (by simp)) (j:=0) rfl
    refine zbF ?_ (hK9 _ hS9)
    clear hF9
    simp only [cl1N,execOp,e4]
    first|done|(go_simp<;>omega)
   ·refine zbR rfl (hF9.nw 4 10) ?_
    unfold Oper.wp
    have f13:=hF9.nw 7 13
    have hr9:(execOp a9.eval (cl1N 8)).run Tryz.prog w9=.ok (.enter 185 #[.int .u8 (o:Int)]) w9:=by
     simp only [cl1N,execOp]
     go_simp
    rw [hr9,Oper.upon_enter]
    refine Calls.mono (CA.out w9) ?_
    rintro e9 w8 ⟨rfl,hb⟩
    exact hK9 _ (hb▸hS9)
   ·have e12:=hF9.ev 6 12
    have e14:=hF9.ev 8 14
    refine zbR rfl (hF9.nw 4 10) ?_
    have hk9:=HK2.out
    refine zbF ?_ (hK9 _ hS9)
    clear hF9
    simp only [cl1N,execOp,e12,e14]
    first|done|(go_simp<;>omega)
   ·have e10:=hF9.ev 4 10
    have e15:=hF9.ev 9 15
    refine zaS rfl ?_ (hK9 _ hS9)
    clear hF9
    simp only [cl1N,execOp,e10,e15]
    first|done|(go_simp<;>omega)
  ·intro w9 hS9 K9 hK9
   simp only [putA,cl1N]
   rw [if_pos (zaD rfl)]
   unfold Oper.wp
   go_simp
   refine Calls.mono (zbM _ w9) ?_
   rintro e w2 ⟨rfl,rfl⟩
   refine hK9 _ _ ?_
   clear hK9 K9
   have HS9:=hidI hS9
   clear hS9
   have q0:=zaB (HS9.out.r.own (r:=tBx w.heap.size t.B) (by simp)) (j:=0) rfl
   have CX:=hidI (CK.out w9 HS9.out)
   cases hr:tBrk (tSeq (tWord (opW o)) (tAll ex kids)) σ with
   | none=>
    rw [hr] at CX HR
    clear hr
    go_wp2_with (go_at_call 152;refine Calls.mono CX.out ?_;intro e w3 h3;obtain ⟨rfl,hb3⟩:=h3;clear CX)
    refine ⟨rfl,?_⟩
    rw [HR.out]
    exact ⟨rfl,hb3.sub (.cons _ (.cons _ (.cons _ (.refl _))))⟩
   | some σ1=>
    rw [hr] at CX HR
    clear hr
    go_wp2_with (go_at_call 152;refine Calls.mono CX.out ?_;intro e w3 h3;obtain ⟨rfl,hb3⟩:=h3;clear CX)
    go_end0
    rw [HR.out]
    exact ⟨rfl,hb3.sub (.cons _ (.cons _ (.cons _ (.refl _))))⟩
 ·have HR:Hid (tCall ex o kids σ=none):=hidI (by rw [HR.out,if_neg (by omega)])
  have HK2:Hid (((n:Int)==(m:Int))=false):=hidI (by rw [beq_eq_false_iff_ne];omega)
  rw [hn]
  clear hm0 hmn hm h HE hv hn
  go_enter Tryz.func188,Tryz.ntmps188
  go_wp2
  refine zaQ cl1N (fun i=>match i with|0=>.pointer (some ⟨t.B,0,none⟩)|1=>.int .u8 (o:Int)|2=>.int .i64 (m:Int)|3=>.bool true|4=>.bool true|5=>.slice a1 n c1|6=>.int .i64 (n:Int)|7=>.int .u8 (o:Int)|8=>.int .i64 (m:Int)|9=>.bool false|10=>.bool false|_=>undef) (fun y=>TlS t σ (kBx (w.heap.size+2) a1 n c1::oBx (w.heap.size+1) o::tBx w.heap.size t.B::X) y) 11 Tryz.mixed (by kernel_rfl) (by kernel_rfl) HA.out.drew ?_ ?_
  ·intro i9 hi9 a9 w9 hF9 hS9 K9 hK9
   have hc9:i9=0∨i9=1∨i9=2∨i9=3∨i9=4∨i9=5∨i9=6∨i9=7∨i9=8∨i9=9∨i9=10:=by omega
   clear hi9
   rcases hc9 with rfl|rfl|rfl|rfl|rfl|rfl|rfl|rfl|rfl|rfl|rfl
   ·have e3:=hF9.od 3 (v:=.pointer (some ⟨w.heap.size,0,none⟩)) rfl
    have q0:=zaB (hS9.r.own (r:=tBx w.heap.size t.B) (by simp)) (j:=0) rfl
    refine zaS rfl ?_ (hK9 _ hS9)
    clear hF9
    simp only [cl1N,execOp,e3]
    first|done|(go_simp<;>omega)
   ·have e4:=hF9.od 4 (v:=.pointer (some ⟨w.heap.size+1,0,none⟩)) rfl
    have q0:=zaB (hS9.r.own (r:=oBx (w.heap.size+1) o) (by simp)) (j:=0) rfl
    refine zaS rfl ?_ (hK9 _ hS9)
    clear hF9
    simp only [cl1N,execOp,e4]
    first|done|(go_simp<;>omega)
   ·rw [if_pos (zaD rfl)]
    unfold Oper.wp
    have f7:=hF9.nw 1 7
    have hr9:(execOp a9.eval (cl1N 2)).run Tryz.prog w9=.ok (.enter 185 #[.int .u8 (o:Int)]) w9:=by
     simp only [cl1N,execOp]
     go_simp
    rw [hr9,Oper.upon_enter]
    refine Calls.mono (CA.out w9) ?_
    rintro e9 w8 ⟨rfl,hb⟩
    exact hK9 _ (hb▸hS9)
   ·have e8:=hF9.ev 2 8
    have hk9:=HK1.out
    refine zaS rfl ?_ (hK9 _ hS9)
    clear hF9
    simp only [cl1N,execOp,e8]
    first|done|(go_simp<;>omega)
   ·have e9:=hF9.ev 3 9
    refine zaS rfl ?_ (hK9 _ hS9)
    clear hF9
    simp only [cl1N,execOp,e9]
    first|done|(go_simp<;>omega)
   ·have e5:=hF9.od 5 (v:=.pointer (some ⟨w.heap.size+2,0,none⟩)) rfl
    refine zbR rfl (hF9.nw 4 10) ?_
    have q0:=zaB (hS9.r.own (r:=kBx (w.heap.size+2) a1 n c1) (by simp)) (j:=0) rfl
    refine zbF ?_ (hK9 _ hS9)
    clear hF9
    simp only [cl1N,execOp,e5]
    first|done|(go_simp<;>omega)
   ·have f11:=hF9.nw 5 11
    refine zbR rfl (hF9.nw 4 10) ?_
    refine zbF ?_ (hK9 _ hS9)
    clear hF9
    simp only [cl1N,execOp]
    first|done|(go_simp<;>omega)
   ·have e4:=hF9.od 4 (v:=.pointer (some ⟨w.heap.size+1,0,none⟩)) rfl
    refine zbR rfl (hF9.nw 4 10) ?_
    have q0:=zaB (hS9.r.own (r:=oBx (w.heap.size+1) o) (by simp)) (j:=0) rfl
    refine zbF ?_ (hK9 _ hS9)
    clear hF9
    simp only [cl1N,execOp,e4]
    first|done|(go_simp<;>omega)
   ·refine zbR rfl (hF9.nw 4 10) ?_
    unfold Oper.wp
    have f13:=hF9.nw 7 13
    have hr9:(execOp a9.eval (cl1N 8)).run Tryz.prog w9=.ok (.enter 185 #[.int .u8 (o:Int)]) w9:=by
     simp only [cl1N,execOp]
     go_simp
    rw [hr9,Oper.upon_enter]
    refine Calls.mono (CA.out w9) ?_
    rintro e9 w8 ⟨rfl,hb⟩
    exact hK9 _ (hb▸hS9)
   ·have e12:=hF9.ev 6 12
    have e14:=hF9.ev 8 14
    refine zbR rfl (hF9.nw 4 10) ?_
    have hk9:=HK2.out
    refine zbF ?_ (hK9 _ hS9)
    clear hF9
    simp only [cl1N,execOp,e12,e14]
    first|done|(go_simp<;>omega)
   ·have e10:=hF9.ev 4 10
    have e15:=hF9.ev 9 15
    refine zaS rfl ?_ (hK9 _ hS9)
    clear hF9
    simp only [cl1N,execOp,e10,e15]
    first|done|(go_simp<;>omega)
  ·intro w9 hS9 K9 hK9
   simp only [putA,cl1N]
   rw [if_pos (zaD rfl)]
   unfold Oper.wp
   go_simp
   refine Calls.mono (zbC _ w9) ?_
   rintro e w2 ⟨rfl,rfl⟩
   refine ⟨rfl,?_⟩
   rw [HR.out]
   exact ⟨rfl,hS9.bad (.cons _ (.cons _ (.cons _ (.refl _))))⟩
def expr1 (ex:Int→TM) (xs:List Exp) (a:Int):TM:=fun σ=>
 if 0≤a∧a<xs.length then
  match tBody ex (xs.getD a.toNat exp0) σ with
  | none=>none
  | some σ1=>if sameX (xs.getD a.toNat exp0) (plainX (xs.getD a.toNat exp0))=true∧a=σ1.x then some { σ1 with x:=σ1.x+1 } else none
 else none
theorem tExpr_succ (xs:List Exp) (f:Nat) (a:Int):tExpr xs (f+1) a=expr1 (tExpr xs f) xs a:=rfl
def xBx (b k of op:Nat) (nm:ByteArray) (num:Int) (v:Value):Rw:=⟨bx b,190,6,1,[.int .u8 (k:Int),.int .u8 (of:Int),.int .u8 (op:Int),.string nm,.int .i64 num,v]⟩
theorem sees_nil (w:World):SeesC w (.slice none 0 0) ([]:List Int).length 1 (intsI []):=⟨rfl,none,0,rfl,.inl rfl⟩
theorem zbQ (x:XV):(xcells x).length=6:=rfl
theorem exprPt_asc (k:Nat):(∀ (i:Nat) (h:i<(exprPt k).size),((exprPt k)[i]'h).toNat<128)∧ptL (exprPt k)=exprSh k∧(∀ x∈exprSh k,x=110∨x=119)∧SmlN (exprWd k)∧exprWd k=exprW k:=by
 by_cases h:k≤10
 ·have hm:k=0∨k=1∨k=2∨k=3∨k=4∨k=5∨k=6∨k=7∨k=8∨k=9∨k=10:=by omega
  rcases hm with rfl|rfl|rfl|rfl|rfl|rfl|rfl|rfl|rfl|rfl|rfl<;>exact ⟨by decide,by decide +kernel,by decide,by unfold SmlN;decide +kernel,rfl⟩
 ·have e1:exprPt k=⟨#[]⟩:=by unfold exprPt;split<;>first|rfl|omega
  have e2:exprSh k=[]:=by unfold exprSh;split<;>first|rfl|omega
  have e3:exprWd k=⟨#[]⟩:=by unfold exprWd;split<;>first|rfl|omega
  have e4:exprW k=⟨#[]⟩:=by unfold exprW;split<;>first|rfl|omega
  rw [e1,e2,e3,e4]
  exact ⟨by decide,by decide +kernel,by simp,by unfold SmlN;decide,rfl⟩
def xl7N:Nat→Oper
 | 0=>⟨some 54,.fieldAddr 190 (.tmp 4) 1,0, "tell.go:80",#[],none⟩
 | 1=>⟨some 55,.load 33 (.tmp 54),33, "tell.go:80",#[⟨0,.data⟩],none⟩
 | 2=>⟨some 56,.fieldAddr 190 (.tmp 4) 4,0, "tell.go:80",#[{ on:=5,ground:=Go.Ground.gcOnly Go.Departure.lateStores }],none⟩
 | 3=>⟨some 57,.load 89 (.tmp 56),89, "tell.go:80",#[⟨2,.data⟩,{ on:=5,ground:=Go.Ground.gcOnly Go.Departure.lateStores }],none⟩
 | 4=>⟨some 58,.fieldAddr 190 (.tmp 5) 1,0, "tell.go:80",#[⟨0,.phase⟩,⟨1,.phase⟩,{ on:=2,ground:=Go.Ground.textOnly Go.Departure.lateStores },{ on:=3,ground:=Go.Ground.textOnly Go.Departure.lateStores }],none⟩
 | 5=>⟨none,.store 33 (.tmp 58) (.tmp 55),0, "tell.go:80",#[⟨4,.data⟩,⟨1,.data⟩,⟨0,.phase⟩,⟨1,.phase⟩,{ on:=2,ground:=Go.Ground.textOnly Go.Departure.lateStores },{ on:=3,ground:=Go.Ground.textOnly Go.Departure.lateStores }],none⟩
 | 6=>⟨some 59,.fieldAddr 190 (.tmp 5) 4,0, "tell.go:80",#[⟨0,.phase⟩,⟨1,.phase⟩,⟨2,.phase⟩,⟨3,.phase⟩,⟨4,.phase⟩,⟨5,.phase⟩],none⟩
 | _=>⟨none,.store 89 (.tmp 59) (.tmp 57),0, "tell.go:80",#[⟨6,.data⟩,⟨3,.data⟩,⟨5,.chain⟩,⟨0,.phase⟩,⟨1,.phase⟩,⟨2,.phase⟩,⟨3,.phase⟩,⟨4,.phase⟩,⟨5,.phase⟩],none⟩
def xl14N:Nat→Oper
 | 0=>⟨some 87,.fieldAddr 190 (.tmp 4) 2,0, "tell.go:87",#[],none⟩
 | 1=>⟨some 88,.load 75 (.tmp 87),75, "tell.go:87",#[⟨0,.data⟩],none⟩
 | 2=>⟨some 89,.fieldAddr 190 (.tmp 4) 5,0, "tell.go:87",#[{ on:=5,ground:=Go.Ground.gcOnly Go.Departure.lateStores }],none⟩
 | 3=>⟨some 90,.load 45 (.tmp 89),45, "tell.go:87",#[⟨2,.data⟩,{ on:=5,ground:=Go.Ground.gcOnly Go.Departure.lateStores }],none⟩
 | 4=>⟨some 91,.fieldAddr 190 (.tmp 5) 2,0, "tell.go:87",#[⟨0,.phase⟩,⟨1,.phase⟩,{ on:=2,ground:=Go.Ground.textOnly Go.Departure.lateStores },{ on:=3,ground:=Go.Ground.textOnly Go.Departure.lateStores }],none⟩
 | 5=>⟨none,.store 75 (.tmp 91) (.tmp 88),0, "tell.go:87",#[⟨4,.data⟩,⟨1,.data⟩,⟨0,.phase⟩,⟨1,.phase⟩,{ on:=2,ground:=Go.Ground.textOnly Go.Departure.lateStores },{ on:=3,ground:=Go.Ground.textOnly Go.Departure.lateStores }],none⟩
 | 6=>⟨some 92,.fieldAddr 190 (.tmp 5) 5,0, "tell.go:87",#[⟨0,.phase⟩,⟨1,.phase⟩,⟨2,.phase⟩,⟨3,.phase⟩,⟨4,.phase⟩,⟨5,.phase⟩],none⟩
 | _=>⟨none,.store 45 (.tmp 92) (.tmp 90),0, "tell.go:87",#[⟨6,.data⟩,⟨3,.data⟩,⟨5,.chain⟩,⟨0,.phase⟩,⟨1,.phase⟩,⟨2,.phase⟩,⟨3,.phase⟩,⟨4,.phase⟩,⟨5,.phase⟩],none⟩
def xl4N:Nat→Oper
 | 0=>⟨some 33,.fieldAddr 190 (.tmp 4) 3,0, "tell.go:90",#[],none⟩
 | 1=>⟨some 34,.load 9 (.tmp 33),9, "tell.go:90",#[⟨0,.data⟩],none⟩
 | 2=>⟨some 35,.fieldAddr 190 (.tmp 4) 4,0, "tell.go:90",#[],none⟩
 | 3=>⟨some 36,.load 89 (.tmp 35),89, "tell.go:90",#[⟨2,.data⟩],none⟩
 | 4=>⟨some 37,.binOp .eql 89 (.tmp 36) (.const (.int .i64 1)) 89,4, "tell.go:90",#[⟨3,.data⟩],none⟩
 | 5=>⟨some 38,.call ⟨.value (.func 184),#[.tmp 37],#[4]⟩,89, "tell.go:90",#[⟨4,.data⟩],none⟩
 | 6=>⟨some 39,.fieldAddr 190 (.tmp 5) 3,0, "tell.go:90",#[⟨0,.phase⟩,⟨1,.phase⟩,{ on:=2,ground:=Go.Ground.textOnly Go.Departure.lateStores },{ on:=3,ground:=Go.Ground.textOnly Go.Departure.lateStores },{ on:=4,ground:=Go.Ground.textOnly Go.Departure.lateStores },{ on:=5,ground:=Go.Ground.textOnly Go.Departure.lateStoresUnsure }],none⟩
 | 7=>⟨none,.store 9 (.tmp 39) (.tmp 34),0, "tell.go:90",#[⟨6,.data⟩,⟨1,.data⟩,⟨5,.chain⟩,⟨0,.phase⟩,⟨1,.phase⟩,{ on:=2,ground:=Go.Ground.textOnly Go.Departure.lateStores },{ on:=3,ground:=Go.Ground.textOnly Go.Departure.lateStores },{ on:=4,ground:=Go.Ground.textOnly Go.Departure.lateStores },{ on:=5,ground:=Go.Ground.textOnly Go.Departure.lateStoresUnsure }],none⟩
 | 8=>⟨some 40,.fieldAddr 190 (.tmp 5) 4,0, "tell.go:90",#[⟨0,.phase⟩,⟨1,.phase⟩,⟨2,.phase⟩,⟨3,.phase⟩,⟨4,.phase⟩,⟨5,.phase⟩,⟨6,.phase⟩,⟨7,.phase⟩],none⟩
 | _=>⟨none,.store 89 (.tmp 40) (.tmp 38),0, "tell.go:90",#[⟨8,.data⟩,⟨5,.data⟩,⟨7,.chain⟩,⟨0,.phase⟩,⟨1,.phase⟩,⟨2,.phase⟩,⟨3,.phase⟩,⟨4,.phase⟩,⟨5,.phase⟩,⟨6,.phase⟩,⟨7,.phase⟩],none⟩
def xl5N:Nat→Oper
 | 0=>⟨some 41,.move (.tmp 0),219, "tell.go:91",#[],none⟩
 | 1=>⟨some 42,.fieldAddr 190 (.tmp 4) 0,0, "tell.go:91",#[],none⟩
 | 2=>⟨some 43,.load 158 (.tmp 42),158, "tell.go:91",#[⟨1,.data⟩],none⟩
 | 3=>⟨some 44,.call ⟨.value (.func 85),#[.tmp 43],#[158]⟩,151, "tell.go:91",#[⟨2,.data⟩],none⟩
 | 4=>⟨some 45,.fieldAddr 190 (.tmp 4) 3,0, "tell.go:91",#[],none⟩
 | 5=>⟨some 46,.load 9 (.tmp 45),9, "tell.go:91",#[⟨4,.data⟩],none⟩
 | 6=>⟨some 47,.fieldAddr 190 (.tmp 4) 4,0, "tell.go:91",#[],none⟩
 | 7=>⟨some 48,.load 89 (.tmp 47),89, "tell.go:91",#[⟨6,.data⟩],none⟩
 | 8=>⟨some 49,.binOp .eql 89 (.tmp 48) (.const (.int .i64 1)) 89,4, "tell.go:91",#[⟨7,.data⟩],none⟩
 | 9=>⟨some 50,.build 170 #[(0,.tmp 46),(2,.tmp 49),(3,.const (.int .i64 (-1))),(4,.const (.int .i64 (-1)))],170, "tell.go:91",#[⟨5,.data⟩,⟨8,.data⟩],none⟩
 | _=>⟨some 51,.call ⟨.value (.func 125),#[.tmp 41,.tmp 44,.tmp 50],#[219,151,170]⟩,0, "tell.go:91",#[⟨0,.data⟩,⟨3,.data⟩,⟨9,.data⟩,⟨3,.chain⟩],none⟩
end Go.Proofs.YtmekkhfohmfjkaaGreatDoor
