/-
  Part 31 of the proof: TlE, TlF.
-/
import Derived.Test.YtfljimpgnlfipaaGreatDoorTE30
namespace Go.Proofs.YtfljimpgnlfipaaGreatDoor
open Go.RowKit Go.Deep Go.MapKept
theorem zbE {α:Type} (f:α→List Value) (n:Nat) (hf:∀ x,(f x).length=n):∀ (l:List α) (j i:Nat) (x:α),l[j]?=some x→i<n→(l.flatMap f)[j*n+i]?=(f x)[i]?
 | [],_,_,_,h,_=>by simp at h
 | y::r,0,i,x,h,hi=>by
  simp only [List.getElem?_cons_zero,Option.some.injEq] at h;subst h;rw [List.flatMap_cons,List.getElem?_append_left (by rw [hf];omega)];simp
 | y::r,j+1,i,x,h,hi=>by
  have ih:=zbE f n hf r j i x (by simpa using h) hi;rw [List.flatMap_cons,List.getElem?_append_right (by rw [hf,Nat.add_mul];omega),hf,←ih];congr 1;rw [Nat.add_mul];omega
def RowsC (t:Tx) (st:Int→TM) (is:List Int) (v:Value) (f0:Nat):Prop:=
 ∀ (K:List (Nat × ByteArray × Nat)) (σ1:TS) (Y:List Rw) (w1:World),TlS (t.withK K) σ1 Y w1→f0≤σ1.f→Calls Tryz.prog 160 #[.pointer (some ⟨t.B,0,none⟩),v] w1 (TPost (t.withK K) Y (tAll st is σ1))
set_option maxHeartbeats 2000000 in
theorem rowsK {t:Tx} {st:Int→TM} {is:List Int} {v:Value} {f0:Nat} (hv:SeesC t.w0 v is.length 1 (intsI is)) (hl:is.length≤1099511627776) (hkp:∀ a,Kp (st a)) (HS:∀ i∈is,AtC t 193 (st i) f0 i):RowsC t st is v f0:=by
 intro K σ X w h hf;obtain ⟨_,a,cap,rfl,_⟩:=id hv;obtain ⟨n,hn⟩:∃ n,is.length=n:=⟨_,rfl⟩;have HN:=hidI hn;have HV:=hidI hv;have HH:=hidI h;have HS:=hidI HS;have HF0:=hidI hf;have HKP:=hidI hkp;rw [hn] at hl;rw [hn];clear hn hv h hf hkp;go_enter Tryz.func160,Tryz.ntmps160;go_wp2
 go_loopg [8] n (fun g s8 wx=>∃ (j:Nat) (σj:TS),j+g=n∧s8=.int .i64 (j:Int)∧Hid (tAll st is σ=tAll st (is.drop j) σj)∧Hid (f0≤σj.f)∧Hid (TlS (t.withK K) σj X wx))
 case atStart=>exact ⟨0,σ,by omega,rfl,hidI rfl,HF0,HH⟩
 case round=>
  obtain ⟨j,σj,hjg,rfl,HT,HF,HSj⟩:=hrel;clear HH;cases gk with
  | zero=>
   obtain rfl:n=j:=by omega
   have k1:decide ((n:Int)<(n:Int))=false:=by simp
   have HR:Hid (tAll st is σ=some σj):=hidI (by
    rw [HT.out,List.drop_of_length_le (by have:=HN.out;omega)];rfl)
   go_wp2;go_end0;rw [HR.out];exact ⟨rfl,HSj.out⟩
  | succ g=>
   have k1:(j:Int)<(n:Int):=by omega
   obtain ⟨i,hi⟩:∃ i,is[j]?=some i:=⟨_,List.getElem?_eq_getElem (by have:=HN.out;omega)⟩;obtain ⟨_,a',cap',hav,hcell⟩:=HV.out.below HSj.out.r.below (Nat.le_refl _);rw [HN.out] at hav;cases hav;rcases hcell with h0|⟨b,o,rfl,hcell⟩
   ·have:=HN.out;omega
   have x0:=hcell j _ (zcA hi);have CP:=hidI (HS.out i (List.mem_of_getElem? hi) K σj X _ HSj.out HF.out);have HD:=hidI (tAll_drop st is j i hi σj);clear hi hcell;cases hr:st i σj with
   | none=>
    have HR:Hid (tAll st is σ=none):=hidI (by rw [HT.out,HD.out,hr]);rw [hr] at CP;clear hr
    go_wp2_with (go_at_call 193;refine Calls.mono (CP.out) ?_;intro e w3 h3;obtain ⟨rfl,hb3⟩:=h3;clear CP)
    refine ⟨rfl,?_⟩;rw [HR.out];exact ⟨rfl,hb3⟩
   | some σ2=>
    have HT2:Hid (tAll st is σ=tAll st (is.drop (j+1)) σ2):=hidI (by rw [HT.out,HD.out,hr]);have HF2:Hid (f0≤σ2.f):=hidI (Nat.le_trans HF.out (HKP.out i _ _ hr).2.1);rw [hr] at CP;clear hr
    go_wp2_with (go_at_call 193;refine Calls.mono (CP.out) ?_;intro e w3 h3;obtain ⟨rfl,hb3⟩:=h3;clear CP;have HS3:=hidI hb3;clear hb3)
    go_roundg g
    case measure=>omega
    case rel=>exact ⟨j+1,σ2,by omega,by go_num,HT2,HF2,HS3⟩
def ActC (t:Tx) (r:TM) (f0:Nat) (a:Actn):Prop:=
 ∀ (K:List (Nat × ByteArray × Nat)) (σ1:TS) (Y:List Rw) (w1:World),TlS (t.withK K) σ1 Y w1→f0≤σ1.f→Calls Tryz.prog 229 #[.pointer (some ⟨t.B,0,none⟩),.agg #[.int .u8 (a.k:Int),.string a.name,.int .u8 (a.op:Int),.bool a.inn,.int .i64 a.e,.int .i64 a.cond]] w1 (TPost (t.withK K) Y (r σ1))
theorem acts_bad {t:Tx} {K:List (Nat × ByteArray × Nat)} {σ1:TS} {Y:List Rw} {w1:World} (h:TlS (t.withK K) σ1 Y w1) (v:Option Addr) (n cap:Nat) (hn:¬ (1≤n∧n≤6)):Calls Tryz.prog 213 #[.pointer (some ⟨t.B,0,none⟩),.slice v n cap] w1 (TPost (t.withK K) Y none):=by
 have CM:=hidI (fun W=>zbF (.pointer (some ⟨t.B,0,none⟩)) W);have HH:=hidI (h.bad (.refl _));clear h;by_cases h1:1≤n
 ·have k1:(1:Int)≤(n:Int):=by omega
  have k2:¬ ((n:Int)≤6):=by omega
  clear hn h1;go_enter Tryz.func213,Tryz.ntmps213
  go_wp2_with (go_at_call 158;refine Calls.mono (CM.out _) ?_;intro e w2 h2;obtain ⟨rfl,rfl⟩:=h2;clear CM)
  exact ⟨rfl,rfl,HH.out⟩
 ·have k1:¬ ((1:Int)≤(n:Int)):=by omega
  clear hn h1;go_enter Tryz.func213,Tryz.ntmps213
  go_wp2_with (go_at_call 158;refine Calls.mono (CM.out _) ?_;intro e w2 h2;obtain ⟨rfl,rfl⟩:=h2;clear CM)
  exact ⟨rfl,rfl,HH.out⟩
theorem zdK (x:Actn):(acells x).length=6:=rfl
set_option maxHeartbeats 2000000 in
theorem actsK {t:Tx} {ac:Actn→TM} {l:List Actn} {va:Option Addr} {cap:Nat} {f0:Nat} (hv:SeesC t.w0 (.slice va l.length cap) l.length 6 (flatAc l)) (hl:1≤l.length∧l.length≤6) (hkp:∀ a,Kp (ac a)) (HS:∀ a∈l,ActC t (ac a) f0 a):∀ (K:List (Nat × ByteArray × Nat)) (σ1:TS) (Y:List Rw) (w1:World),TlS (t.withK K) σ1 Y w1→f0≤σ1.f→Calls Tryz.prog 213 #[.pointer (some ⟨t.B,0,none⟩),.slice va l.length cap] w1 (TPost (t.withK K) Y (tAll ac l σ1)):=by
 intro K σ X w h hf;obtain ⟨n,hn⟩:∃ n,l.length=n:=⟨_,rfl⟩;have HN:=hidI hn;have HV:=hidI hv;have HH:=hidI h;have HS:=hidI HS;have HF0:=hidI hf;have HKP:=hidI hkp;have CM:=hidI (fun W=>zbP (.pointer (some ⟨t.B,0,none⟩)) W);rw [hn] at hl;rw [hn];have k0:(1:Int)≤(n:Int):=by omega
 have k6:(n:Int)≤6:=by omega
 clear hn hv h hf hkp;go_enter Tryz.func213,Tryz.ntmps213
 go_wp2_with (go_at_call 158;refine Calls.mono (CM.out _) ?_;intro e w2 h2;obtain ⟨rfl,rfl⟩:=h2;clear CM)
 go_loopg [18] n (fun g s18 wx=>∃ (j:Nat) (σj:TS),j+g=n∧s18=.int .i64 (j:Int)∧Hid (tAll ac l σ=tAll ac (l.drop j) σj)∧Hid (f0≤σj.f)∧Hid (TlS (t.withK K) σj X wx))
 case atStart=>exact ⟨0,σ,by omega,rfl,hidI rfl,HF0,HH⟩
 case round=>
  obtain ⟨j,σj,hjg,rfl,HT,HF,HSj⟩:=hrel;clear HH;cases gk with
  | zero=>
   obtain rfl:n=j:=by omega
   have k1:decide ((n:Int)<(n:Int))=false:=by simp
   have HR:Hid (tAll ac l σ=some σj):=hidI (by
    rw [HT.out,List.drop_of_length_le (by have:=HN.out;omega)];rfl)
   go_wp2;go_end0;rw [HR.out];exact ⟨rfl,HSj.out⟩
  | succ g=>
   have k1:(j:Int)<(n:Int):=by omega
   obtain ⟨a,hi⟩:∃ a,l[j]?=some a:=⟨_,List.getElem?_eq_getElem (by have:=HN.out;omega)⟩;obtain ⟨_,a',cap',hav,hcell⟩:=HV.out.below HSj.out.r.below (Nat.le_refl _);rw [HN.out] at hav;cases hav;rcases hcell with h0|⟨b,o,rfl,hcell⟩
   ·have:=HN.out;omega
   have x0:=hcell (j*6+0) _ (by unfold flatAc;rw [zbE acells 6 zdK l j 0 a hi (by omega)];rfl);have x1:=hcell (j*6+1) _ (by unfold flatAc;rw [zbE acells 6 zdK l j 1 a hi (by omega)];rfl);have x2:=hcell (j*6+2) _ (by unfold flatAc;rw [zbE acells 6 zdK l j 2 a hi (by omega)];rfl);have x3:=hcell (j*6+3) _ (by unfold flatAc;rw [zbE acells 6 zdK l j 3 a hi (by omega)];rfl);have x4:=hcell (j*6+4) _ (by unfold flatAc;rw [zbE acells 6 zdK l j 4 a hi (by omega)];rfl);have x5:=hcell (j*6+5) _ (by unfold flatAc;rw [zbE acells 6 zdK l j 5 a hi (by omega)];rfl);simp only [Nat.add_zero,←Nat.add_assoc] at x0 x1 x2 x3 x4 x5;have HSA:=hidI (HSj.out.alloc (.cells #[.int .u8 (a.k:Int),.string a.name,.int .u8 (a.op:Int),.bool a.inn,.int .i64 a.e,.int .i64 a.cond] 75));have CP:=hidI (HS.out a (List.mem_of_getElem? hi) K σj X _ HSA.out HF.out);have HD:=hidI (tAll_drop ac l j a hi σj);clear hi hcell;cases hr:ac a σj with
   | none=>
    have HR:Hid (tAll ac l σ=none):=hidI (by rw [HT.out,HD.out,hr]);rw [hr] at CP;clear hr
    go_wp2_with (go_at_call 229;refine Calls.mono (CP.out) ?_;intro e w3 h3;obtain ⟨rfl,hb3⟩:=h3;clear CP)
    refine ⟨rfl,?_⟩;rw [HR.out];exact ⟨rfl,hb3⟩
   | some σ2=>
    have HT2:Hid (tAll ac l σ=tAll ac (l.drop (j+1)) σ2):=hidI (by rw [HT.out,HD.out,hr]);have HF2:Hid (f0≤σ2.f):=hidI (Nat.le_trans HF.out (HKP.out a _ _ hr).2.1);rw [hr] at CP;clear hr
    go_wp2_with (go_at_call 229;refine Calls.mono (CP.out) ?_;intro e w3 h3;obtain ⟨rfl,hb3⟩:=h3;clear CP;have HS3:=hidI hb3;clear hb3)
    go_roundg g
    case measure=>omega
    case rel=>exact ⟨j+1,σ2,by omega,by go_num,HT2,HF2,HS3⟩
def ao1N:Nat→Oper
 | 0=>⟨some 4,.move (.tmp 0),234, "tell.go:71",#[],none⟩
 | 1=>⟨some 5,.fieldAddr 75 (.tmp 3) 0,0, "tell.go:71",#[],none⟩
 | 2=>⟨some 6,.load 73 (.tmp 5),73, "tell.go:71",#[⟨1,.data⟩],none⟩
 | 3=>⟨some 7,.call ⟨.value (.func 139),#[.tmp 6],#[73]⟩,210, "tell.go:71",#[⟨2,.data⟩],none⟩
 | 4=>⟨some 8,.fieldAddr 75 (.tmp 3) 1,0, "tell.go:71",#[],none⟩
 | 5=>⟨some 9,.load 9 (.tmp 8),9, "tell.go:71",#[⟨4,.data⟩],none⟩
 | 6=>⟨some 10,.fieldAddr 75 (.tmp 3) 2,0, "tell.go:71",#[],none⟩
 | 7=>⟨some 11,.load 47 (.tmp 10),47, "tell.go:71",#[⟨6,.data⟩],none⟩
 | 8=>⟨some 12,.fieldAddr 75 (.tmp 3) 3,0, "tell.go:71",#[],none⟩
 | 9=>⟨some 13,.load 4 (.tmp 12),4, "tell.go:71",#[⟨8,.data⟩],none⟩
 | 10=>⟨some 14,.fieldAddr 75 (.tmp 3) 4,0, "tell.go:71",#[],none⟩
 | 11=>⟨some 15,.load 3 (.tmp 14),3, "tell.go:71",#[⟨10,.data⟩],none⟩
 | 12=>⟨some 16,.fieldAddr 75 (.tmp 3) 5,0, "tell.go:71",#[],none⟩
 | 13=>⟨some 17,.load 3 (.tmp 16),3, "tell.go:71",#[⟨12,.data⟩],none⟩
 | 14=>⟨some 18,.build 226 #[(0,.tmp 9),(1,.tmp 11),(2,.tmp 13),(3,.tmp 15),(4,.tmp 17)],226, "tell.go:71",#[⟨5,.data⟩,⟨7,.data⟩,⟨9,.data⟩,⟨11,.data⟩,⟨13,.data⟩],none⟩
 | _=>⟨some 19,.call ⟨.value (.func 159),#[.tmp 4,.tmp 7,.tmp 18],#[234,210,226]⟩,0, "tell.go:71",#[⟨0,.data⟩,⟨3,.data⟩,⟨14,.data⟩,⟨3,.chain⟩],none⟩
def aBx (b:Nat) (a:Actn):Rw:=⟨bx b,75,6,1,[.int .u8 (a.k:Int),.string a.name,.int .u8 (a.op:Int),.bool a.inn,.int .i64 a.e,.int .i64 a.cond]⟩
theorem actPt_asc (k:Nat):(∀ (i:Nat) (h:i<(actPt k).size),((actPt k)[i]'h).toNat<128)∧ptL (actPt k)=actSh k∧(∀ x∈actSh k,x=110∨x=111∨x=119∨x=101∨x=99)∧SmlN (actWd k)∧actWd k=actW k:=by
 by_cases h:1≤k∧k≤3
 ·have hm:k=1∨k=2∨k=3:=by omega
  rcases hm with rfl|rfl|rfl<;>exact ⟨by decide,by decide +kernel,by decide,by unfold SmlN;decide +kernel,rfl⟩
 ·have e1:actPt k=⟨#[]⟩:=by unfold actPt;split<;>first|rfl|omega
  have e2:actSh k=[]:=by unfold actSh;split<;>first|rfl|omega
  have e3:actWd k=⟨#[]⟩:=by unfold actWd;split<;>first|rfl|omega
  have e4:actW k=⟨#[]⟩:=by unfold actW;split<;>first|rfl|omega
  rw [e1,e2,e3,e4];exact ⟨by decide,by decide +kernel,by simp,by unfold SmlN;decide,rfl⟩
set_option maxRecDepth 100000 in
set_option maxHeartbeats 2000000 in
theorem actK {t:Tx} {F:Nat} (hk:t.Ok F) {ex:Int→TM} {a:Actn} {f0:Nat} (ha:ActOk a) (hkp:∀ i,Kp (ex i)) (HE:AtC t 212 (ex a.e) (f0+1) a.e) (HC:a.cond ≠ -1→AtC t 212 (ex a.cond) (f0+1) a.cond):ActC t (tAct ex a) f0 a:=by
 intro K σ X w h hf;have hkK:=hk.withK K;have HA:Hid (TlS (t.withK K) σ (aBx w.heap.size a::X) (w.alloc (.cells #[.int .u8 (a.k:Int),.string a.name,.int .u8 (a.op:Int),.bool a.inn,.int .i64 a.e,.int .i64 a.cond] 75))):=hidI (h.newbox 75 6 #[.int .u8 (a.k:Int),.string a.name,.int .u8 (a.op:Int),.bool a.inn,.int .i64 a.e,.int .i64 a.cond] rfl);obtain ⟨p1,p2,p3,p4,p5⟩:=actPt_asc a.k;have CS:Hid (∀ W,TlS (t.withK K) σ (aBx w.heap.size a::X) W→Calls Tryz.prog 159 #[.pointer (some ⟨t.B,0,none⟩),.agg #[.string (actWd a.k),.string (actPt a.k)],.agg #[.string a.name,.int .u8 (a.op:Int),.bool a.inn,.int .i64 a.e,.int .i64 a.cond,.slice none 0 0,.slice none 0 0,.slice none 0 0]] W (TPost (t.withK K) (aBx w.heap.size a::X) (tAct ex a σ))):=hidI (fun W hW=>by
  have h0:=shaped_any hkK (sw:=actWd a.k) (sp:=actPt a.k) p4 p1 (k:=ctnA a) (a1:=none) (c1:=0) (a2:=none) (c2:=0) (a3:=none) (c3:=0) (part:=tPart ex noT noT (ctnA a)) (kp_part hkp zeP zeP) hW (fun c hc=>by
   rw [p2] at hc;rcases p3 c hc with rfl|rfl|rfl|rfl|rfl
   ·exact part_n hkK ha.2.2
   ·exact part_o hkK
   ·exact part_w hkK
   ·exact part_e hkK (fun K2 σ1 Y w1 h1 h2=>HE K2 σ1 Y w1 h1 (by omega))
   ·exact part_c hkK (fun hne K2 σ1 Y w1 h1 h2=>HC hne K2 σ1 Y w1 h1 (by omega)))
  rw [p2,p5] at h0;rw [p5];exact h0)
 clear h hf HE HC hk hkK;go_enter Tryz.func229,Tryz.ntmps229;go_wp2;refine zaQ ao1N (fun i=>match i with|0=>.pointer (some ⟨t.B,0,none⟩)|1=>.pointer (some ⟨w.heap.size,0,none⟩)|2=>.int .u8 (a.k:Int)|3=>.agg #[.string (actWd a.k),.string (actPt a.k)]|4=>.pointer (some ⟨w.heap.size,1,none⟩)|5=>.string a.name|6=>.pointer (some ⟨w.heap.size,2,none⟩)|7=>.int .u8 (a.op:Int)|8=>.pointer (some ⟨w.heap.size,3,none⟩)|9=>.bool a.inn|10=>.pointer (some ⟨w.heap.size,4,none⟩)|11=>.int .i64 a.e|12=>.pointer (some ⟨w.heap.size,5,none⟩)|13=>.int .i64 a.cond|14=>.agg #[.string a.name,.int .u8 (a.op:Int),.bool a.inn,.int .i64 a.e,.int .i64 a.cond,.slice none 0 0,.slice none 0 0,.slice none 0 0]|_=>undef) (fun y=>TlS (t.withK K) σ (aBx w.heap.size a::X) y) 15 Tryz.mixed (by kernel_rfl) (by kernel_rfl) HA.out.drew ?_ ?_
 ·intro i9 hi9 a9 w9 hF9 hS9 K9 hK9;have hc9:i9=0∨i9=1∨i9=2∨i9=3∨i9=4∨i9=5∨i9=6∨i9=7∨i9=8∨i9=9∨i9=10∨i9=11∨i9=12∨i9=13∨i9=14:=by omega
  clear hi9;rcases hc9 with rfl|rfl|rfl|rfl|rfl|rfl|rfl|rfl|rfl|rfl|rfl|rfl|rfl|rfl|rfl
  ·have e0:=hF9.od 0 (v:=.pointer (some ⟨t.B,0,none⟩)) rfl;refine zaU rfl ?_ (hK9 _ hS9);clear hF9;simp only [ao1N,execOp,e0];first|done|(go_simp<;>omega)
  ·have e3:=hF9.od 3 (v:=.pointer (some ⟨w.heap.size,0,none⟩)) rfl;refine zaU rfl ?_ (hK9 _ hS9);clear hF9;simp only [ao1N,execOp,e3];first|done|(go_simp<;>omega)
  ·have e5:=hF9.ev 1 5;have q0:=zaA (hS9.r.own (r:=aBx w.heap.size a) (by simp)) (j:=0) rfl;refine zaU rfl ?_ (hK9 _ hS9);clear hF9;simp only [ao1N,execOp,e5];first|done|(go_simp<;>omega)
  ·rw [if_pos (zaG rfl)];unfold Oper.wp;have f6:=hF9.nw 2 6;have hr9:(execOp a9.eval (ao1N 3)).run Tryz.prog w9=.ok (.enter 139 #[.int .u8 (a.k:Int)]) w9:=by
    simp only [ao1N,execOp];go_simp
   rw [hr9,Oper.upon_enter];refine Calls.mono (actShK_all a.k w9) ?_;rintro e9 w8 ⟨rfl,hb⟩;exact hK9 _ (hS9.on hb)
  ·have e3:=hF9.od 3 (v:=.pointer (some ⟨w.heap.size,0,none⟩)) rfl;refine zaU rfl ?_ (hK9 _ hS9);clear hF9;simp only [ao1N,execOp,e3];first|done|(go_simp<;>omega)
  ·have e8:=hF9.ev 4 8;have q0:=zaA (hS9.r.own (r:=aBx w.heap.size a) (by simp)) (j:=1) rfl;refine zaU rfl ?_ (hK9 _ hS9);clear hF9;simp only [ao1N,execOp,e8];first|done|(go_simp<;>omega)
  ·have e3:=hF9.od 3 (v:=.pointer (some ⟨w.heap.size,0,none⟩)) rfl;refine zaU rfl ?_ (hK9 _ hS9);clear hF9;simp only [ao1N,execOp,e3];first|done|(go_simp<;>omega)
  ·have e10:=hF9.ev 6 10;have q0:=zaA (hS9.r.own (r:=aBx w.heap.size a) (by simp)) (j:=2) rfl;refine zaU rfl ?_ (hK9 _ hS9);clear hF9;simp only [ao1N,execOp,e10];first|done|(go_simp<;>omega)
  ·have e3:=hF9.od 3 (v:=.pointer (some ⟨w.heap.size,0,none⟩)) rfl;refine zaU rfl ?_ (hK9 _ hS9);clear hF9;simp only [ao1N,execOp,e3];first|done|(go_simp<;>omega)
  ·have e12:=hF9.ev 8 12;have q0:=zaA (hS9.r.own (r:=aBx w.heap.size a) (by simp)) (j:=3) rfl;refine zaU rfl ?_ (hK9 _ hS9);clear hF9;simp only [ao1N,execOp,e12];first|done|(go_simp<;>omega)
  ·have e3:=hF9.od 3 (v:=.pointer (some ⟨w.heap.size,0,none⟩)) rfl;refine zaU rfl ?_ (hK9 _ hS9);clear hF9;simp only [ao1N,execOp,e3];first|done|(go_simp<;>omega)
  ·have e14:=hF9.ev 10 14;have q0:=zaA (hS9.r.own (r:=aBx w.heap.size a) (by simp)) (j:=4) rfl;refine zaU rfl ?_ (hK9 _ hS9);clear hF9;simp only [ao1N,execOp,e14];first|done|(go_simp<;>omega)
  ·have e3:=hF9.od 3 (v:=.pointer (some ⟨w.heap.size,0,none⟩)) rfl;refine zaU rfl ?_ (hK9 _ hS9);clear hF9;simp only [ao1N,execOp,e3];first|done|(go_simp<;>omega)
  ·have e16:=hF9.ev 12 16;have q0:=zaA (hS9.r.own (r:=aBx w.heap.size a) (by simp)) (j:=5) rfl;refine zaU rfl ?_ (hK9 _ hS9);clear hF9;simp only [ao1N,execOp,e16];first|done|(go_simp<;>omega)
  ·have f9:=hF9.nw 5 9;have f11:=hF9.nw 7 11;have f13:=hF9.nw 9 13;have f15:=hF9.nw 11 15;have f17:=hF9.nw 13 17;refine zaU rfl ?_ (hK9 _ hS9);clear hF9;simp only [ao1N,execOp];first|done|(go_simp<;>omega)
 ·intro w9 hS9 K9 hK9;simp only [putA,ao1N];rw [if_pos (zaG rfl)];unfold Oper.wp;go_simp;have CX:=hidI (CS.out w9 hS9);clear hS9;cases hr:tAct ex a σ with
  | none=>
   rw [hr] at CX;refine Calls.mono CX.out ?_;rintro e w2 ⟨rfl,hb2⟩;exact ⟨rfl,rfl,hb2.sub (.cons _ (.refl _))⟩
  | some σ1=>
   rw [hr] at CX;refine Calls.mono CX.out ?_;rintro e w2 ⟨rfl,hb2⟩;refine hK9 _ _ ?_;have HRR:=hidI hr;clear hK9 K9 CX hr;go_wp2;go_end0;rw [HRR.out];exact ⟨rfl,hb2.sub (.cons _ (.refl _))⟩
def stmt1 (ex st:Int→TM) (ss:List Stm) (a:Int):TM:=fun σ=>
 if 0≤a∧a<ss.length then
  match tShaped (stmtW (ss.getD a.toNat stm0).k) (stmtSh (ss.getD a.toNat stm0).k) (ctnS (ss.getD a.toNat stm0)) (tPart ex (tAct ex) st (ctnS (ss.getD a.toNat stm0))) σ with
  | none=>none
  | some σ1=>if a=σ1.s then some { σ1 with s:=σ1.s+1 } else none
 else none
theorem tStmt_succ (ex:Int→TM) (ss:List Stm) (f:Nat) (a:Int):tStmt ex ss (f+1) a=stmt1 ex (tStmt ex ss f) ss a:=rfl
theorem AtC.weak {t:Tx} {F:Nat} {r:TM} {f0 f1:Nat} {i:Int} (h:AtC t F r f0 i) (hle:f0≤f1):AtC t F r f1 i:=fun K σ1 Y w1 h1 h2=>h K σ1 Y w1 h1 (by omega)
theorem stmtPt_asc (k:Nat):(∀ (i:Nat) (h:i<(stmtPt k).size),((stmtPt k)[i]'h).toNat<128)∧ptL (stmtPt k)=stmtSh k∧(∀ x∈stmtSh k,x=110∨x=111∨x=101∨x=99∨x=97∨x=116∨x=102∨x=115)∧SmlN (stmtWd k)∧stmtWd k=stmtW k:=by
 by_cases h:1≤k∧k≤7
 ·have hm:k=1∨k=2∨k=3∨k=4∨k=5∨k=6∨k=7:=by omega
  rcases hm with rfl|rfl|rfl|rfl|rfl|rfl|rfl<;>exact ⟨by decide,by decide +kernel,by decide,by unfold SmlN;decide +kernel,rfl⟩
 ·have e1:stmtPt k=⟨#[]⟩:=by unfold stmtPt;split<;>first|rfl|omega
  have e2:stmtSh k=[]:=by unfold stmtSh;split<;>first|rfl|omega
  have e3:stmtWd k=⟨#[]⟩:=by unfold stmtWd;split<;>first|rfl|omega
  have e4:stmtW k=⟨#[]⟩:=by unfold stmtW;split<;>first|rfl|omega
  rw [e1,e2,e3,e4];exact ⟨by decide,by decide +kernel,by simp,by unfold SmlN;decide,rfl⟩
def stBx (b:Nat) (s:Stm) (a1:Option Addr) (c1:Nat) (a2:Option Addr) (c2:Nat) (a3:Option Addr) (c3:Nat):Rw:=⟨bx b,49,8,1,[.int .u8 (s.k:Int),.string s.name,.int .u8 (s.op:Int),.int .i64 s.e,.int .i64 s.cond,.slice a1 s.acts.length c1,.slice a2 s.thn.length c2,.slice a3 s.els.length c3]⟩
theorem zcR (x:SV):(scells x).length=8:=rfl
def sr2N:Nat→Oper
 | 0=>⟨some 27,.move (.tmp 0),234, "tell.go:65",#[],none⟩
 | 1=>⟨some 28,.fieldAddr 49 (.tmp 4) 0,0, "tell.go:65",#[],none⟩
 | 2=>⟨some 29,.load 46 (.tmp 28),46, "tell.go:65",#[⟨1,.data⟩],none⟩
 | 3=>⟨some 30,.call ⟨.value (.func 136),#[.tmp 29],#[46]⟩,210, "tell.go:65",#[⟨2,.data⟩],none⟩
 | 4=>⟨some 31,.fieldAddr 49 (.tmp 4) 1,0, "tell.go:65",#[],none⟩
 | 5=>⟨some 32,.load 9 (.tmp 31),9, "tell.go:65",#[⟨4,.data⟩],none⟩
 | 6=>⟨some 33,.fieldAddr 49 (.tmp 4) 2,0, "tell.go:65",#[],none⟩
 | 7=>⟨some 34,.load 47 (.tmp 33),47, "tell.go:65",#[⟨6,.data⟩],none⟩
 | 8=>⟨some 35,.fieldAddr 49 (.tmp 4) 3,0, "tell.go:65",#[],none⟩
 | 9=>⟨some 36,.load 3 (.tmp 35),3, "tell.go:65",#[⟨8,.data⟩],none⟩
 | 10=>⟨some 37,.fieldAddr 49 (.tmp 4) 4,0, "tell.go:65",#[],none⟩
 | 11=>⟨some 38,.load 3 (.tmp 37),3, "tell.go:65",#[⟨10,.data⟩],none⟩
 | 12=>⟨some 39,.fieldAddr 49 (.tmp 4) 5,0, "tell.go:65",#[],none⟩
 | 13=>⟨some 40,.load 42 (.tmp 39),42, "tell.go:65",#[⟨12,.data⟩],none⟩
 | 14=>⟨some 41,.fieldAddr 49 (.tmp 4) 6,0, "tell.go:65",#[],none⟩
 | 15=>⟨some 42,.load 25 (.tmp 41),25, "tell.go:65",#[⟨14,.data⟩],none⟩
 | 16=>⟨some 43,.fieldAddr 49 (.tmp 4) 7,0, "tell.go:65",#[],none⟩
 | 17=>⟨some 44,.load 25 (.tmp 43),25, "tell.go:65",#[⟨16,.data⟩],none⟩
 | 18=>⟨some 45,.build 226 #[(0,.tmp 32),(1,.tmp 34),(3,.tmp 36),(4,.tmp 38),(5,.tmp 40),(6,.tmp 42),(7,.tmp 44)],226, "tell.go:65",#[⟨5,.data⟩,⟨7,.data⟩,⟨9,.data⟩,⟨11,.data⟩,⟨13,.data⟩,⟨15,.data⟩,⟨17,.data⟩],none⟩
 | _=>⟨some 46,.call ⟨.value (.func 159),#[.tmp 27,.tmp 30,.tmp 45],#[234,210,226]⟩,0, "tell.go:65",#[⟨0,.data⟩,⟨3,.data⟩,⟨18,.data⟩,⟨3,.chain⟩],none⟩
set_option maxRecDepth 100000 in
set_option maxHeartbeats 4000000 in
theorem stmt1K {t:Tx} {F:Nat} (hk:t.Ok F) {ex st:Int→TM} (hkp:∀ i,Kp (ex i)) (hks:∀ i,Kp (st i)) {f0:Nat} (HE:∀ i,AtC t 212 (ex i) 0 i) (HS:∀ i,AtC t 193 (st i) (f0+1) i) (i:Int):AtC t 193 (stmt1 ex st t.P.prg.stmts i) f0 i:=by
 intro K σ X w h hf;have hkK:=hk.withK K;obtain ⟨ss,hss⟩:∃ ss,t.P.prg.stmts=ss:=⟨_,rfl⟩;have hssl:t.P.ss.length=ss.length:=by rw [←hss];simp [PV.prg]
 obtain ⟨_,va,cap,hsv,hcell⟩:=hk.sees.s.below h.r.below (Nat.le_refl _);have b2:w.cell? ⟨t.B,2,none⟩=some t.P.sv:=h.r.cell (j:=2) (u:=t.P.sv) rfl;rw [hsv,hssl] at b2;have hL:=hk.ok.sl;rw [hss] at hL;rw [hss];by_cases h0:¬ 0≤i
 ·have HR:Hid (stmt1 ex st ss i σ=none):=hidI (by unfold stmt1;rw [if_neg (fun e=>h0 e.1)]);have CM:=hidI (fun W=>zbF (.pointer (some ⟨t.B,0,none⟩)) W);have HB:=hidI (h.bad (.refl _));clear hcell HE HS h hk hkK hsv;go_enter Tryz.func193,Tryz.ntmps193
  go_wp2_with (go_at_call 158;refine Calls.mono (CM.out _) ?_;intro e w3 h3;obtain ⟨rfl,rfl⟩:=h3;clear CM)
  refine ⟨rfl,?_⟩;rw [HR.out];exact ⟨rfl,HB.out⟩
 replace h0:=Decidable.not_not.1 h0;by_cases h1:¬ i<(ss.length:Int)
 ·have HR:Hid (stmt1 ex st ss i σ=none):=hidI (by unfold stmt1;rw [if_neg (fun e=>h1 e.2)]);have CM:=hidI (fun W=>zbF (.pointer (some ⟨t.B,0,none⟩)) W);have HB:=hidI (h.bad (.refl _));clear hcell HE HS h hk hkK hsv;go_enter Tryz.func193,Tryz.ntmps193
  go_wp2_with (go_at_call 158;refine Calls.mono (CM.out _) ?_;intro e w3 h3;obtain ⟨rfl,rfl⟩:=h3;clear CM)
  refine ⟨rfl,?_⟩;rw [HR.out];exact ⟨rfl,HB.out⟩
 replace h1:=Decidable.not_not.1 h1;obtain ⟨j,rfl⟩:∃ j:Nat,i=(j:Int):=⟨i.toNat,by omega⟩;obtain ⟨x,hx⟩:∃ x,t.P.ss[j]?=some x:=⟨_,List.getElem?_eq_getElem (by omega)⟩;have hmx:=List.mem_of_getElem? hx;have hxs:ss.getD (j:Int).toNat stm0=x.s:=by
  rw [←hss];simp [PV.prg,List.getD_eq_getElem?_getD,hx]
 have hsa:=hk.sees.sa x hmx;have hst:=hk.sees.st x hmx;have hse:=hk.sees.se x hmx;have hso:=hk.ok.s x.s (by simp only [PV.prg];exact List.mem_map_of_mem hmx);rcases hcell with hc0|⟨b,o,rfl,hcell⟩
 ·omega
 have x0:=hcell (j*8+0) _ (by unfold flatS;rw [zbE scells 8 zcR t.P.ss j 0 x hx (by omega)];rfl);have x1:=hcell (j*8+1) _ (by unfold flatS;rw [zbE scells 8 zcR t.P.ss j 1 x hx (by omega)];rfl);have x2:=hcell (j*8+2) _ (by unfold flatS;rw [zbE scells 8 zcR t.P.ss j 2 x hx (by omega)];rfl);have x3:=hcell (j*8+3) _ (by unfold flatS;rw [zbE scells 8 zcR t.P.ss j 3 x hx (by omega)];rfl);have x4:=hcell (j*8+4) _ (by unfold flatS;rw [zbE scells 8 zcR t.P.ss j 4 x hx (by omega)];rfl);have x5:=hcell (j*8+5) _ (by unfold flatS;rw [zbE scells 8 zcR t.P.ss j 5 x hx (by omega)];rfl);have x6:=hcell (j*8+6) _ (by unfold flatS;rw [zbE scells 8 zcR t.P.ss j 6 x hx (by omega)];rfl);have x7:=hcell (j*8+7) _ (by unfold flatS;rw [zbE scells 8 zcR t.P.ss j 7 x hx (by omega)];rfl);simp only [Nat.add_zero,←Nat.add_assoc] at x0 x1 x2 x3 x4 x5 x6 x7;obtain ⟨s,av,tv,ev⟩:=x;simp only at hsa hst hse hso hxs x0 x1 x2 x3 x4 x5 x6 x7;obtain ⟨_,a1,c1,rfl,_⟩:=id hsa;obtain ⟨_,a2,c2,rfl,_⟩:=id hst;obtain ⟨_,a3,c3,rfl,_⟩:=id hse;obtain ⟨o1,o2,o3,o4,o5,o6,o7⟩:=hso;have HM:Hid (stmt1 ex st ss (j:Int) σ=(match tShaped (stmtW s.k) (stmtSh s.k) (ctnS s) (tPart ex (tAct ex) st (ctnS s)) σ with|none=>none|some σ1=>if (j:Int)=σ1.s then some { σ1 with s:=σ1.s+1 } else none)):=hidI (by
  unfold stmt1;rw [if_pos ⟨h0,h1⟩,hxs])
 have HA:Hid (TlS (t.withK K) σ (stBx w.heap.size s a1 c1 a2 c2 a3 c3::X) (w.alloc (.cells #[.int .u8 (s.k:Int),.string s.name,.int .u8 (s.op:Int),.int .i64 s.e,.int .i64 s.cond,.slice a1 s.acts.length c1,.slice a2 s.thn.length c2,.slice a3 s.els.length c3] 49))):=hidI (h.newbox 49 8 #[.int .u8 (s.k:Int),.string s.name,.int .u8 (s.op:Int),.int .i64 s.e,.int .i64 s.cond,.slice a1 s.acts.length c1,.slice a2 s.thn.length c2,.slice a3 s.els.length c3] rfl);obtain ⟨p1,p2,p3,p4,p5⟩:=stmtPt_asc s.k;have CS:Hid (∀ W,TlS (t.withK K) σ (stBx w.heap.size s a1 c1 a2 c2 a3 c3::X) W→Calls Tryz.prog 159 #[.pointer (some ⟨t.B,0,none⟩),.agg #[.string (stmtWd s.k),.string (stmtPt s.k)],.agg #[.string s.name,.int .u8 (s.op:Int),.bool false,.int .i64 s.e,.int .i64 s.cond,.slice a1 s.acts.length c1,.slice a2 s.thn.length c2,.slice a3 s.els.length c3]] W (TPost (t.withK K) (stBx w.heap.size s a1 c1 a2 c2 a3 c3::X) (tShaped (stmtW s.k) (stmtSh s.k) (ctnS s) (tPart ex (tAct ex) st (ctnS s)) σ))):=hidI (fun W hW=>by
  have h9:=shaped_any hkK (sw:=stmtWd s.k) (sp:=stmtPt s.k) p4 p1 (k:=ctnS s) (a1:=a1) (c1:=c1) (a2:=a2) (c2:=c2) (a3:=a3) (c3:=c3) (part:=tPart ex (tAct ex) st (ctnS s)) (kp_part hkp (kp_act hkp) hks) hW (fun c hc=>by
   rw [p2] at hc;rcases p3 c hc with rfl|rfl|rfl|rfl|rfl|rfl|rfl|rfl
   ·exact part_n hkK o3
   ·exact part_o hkK
   ·exact part_e hkK ((HE s.e).weak (Nat.zero_le _))
   ·exact part_c hkK (fun _=>(HE s.cond).weak (Nat.zero_le _))
   ·exact part_a hkK (fun hl=>actsK (t:=t.withK K) hsa hl (kp_act hkp) (fun a ha=>actK hkK (o7 a ha) hkp ((HE a.e).weak (Nat.zero_le _)) (fun _=>(HE a.cond).weak (Nat.zero_le _)))) (fun hl K2 σ1 Y w1 h2=>acts_bad (t:=t.withK K) h2 a1 s.acts.length c1 hl)
   ·exact part_t hkK hks (fun K2 σ1 Y w1 h2 h3=>rowsK (t:=t.withK K) hst o5 hks (fun i9 _=>HS i9) K2 σ1 Y w1 h2 (by omega))
   ·exact part_f hkK hks (fun K2 σ1 Y w1 h2 h3=>rowsK (t:=t.withK K) hse o6 hks (fun i9 _=>HS i9) K2 σ1 Y w1 h2 (by omega))
   ·exact part_s hkK (fun K2 σ1 Y w1 h2 h3=>rowsK (t:=t.withK K) hst o5 hks (fun i9 _=>HS i9) K2 σ1 Y w1 h2 (by omega)))
  rw [p2,p5] at h9;rw [p5];exact h9)
 have HL:=hidI (show (j:Int)≤1099511627776 by omega);have CM0:=hidI (fun W=>zbP (.pointer (some ⟨t.B,0,none⟩)) W);clear hcell HE HS h hk hkK hsv hx hmx hxs hsa hst hse hss hssl o1 o2 o3 o4 o5 o6 o7 p1 p2 p3 p4 p5 hf;go_enter Tryz.func193,Tryz.ntmps193
 go_wp2_with (go_at_call 158;refine Calls.mono (CM0.out _) ?_;intro e w3 h3;obtain ⟨rfl,rfl⟩:=h3;clear CM0)
 refine zaQ sr2N (fun i=>match i with|0=>.pointer (some ⟨t.B,0,none⟩)|1=>.pointer (some ⟨w.heap.size,0,none⟩)|2=>.int .u8 (s.k:Int)|3=>.agg #[.string (stmtWd s.k),.string (stmtPt s.k)]|4=>.pointer (some ⟨w.heap.size,1,none⟩)|5=>.string s.name|6=>.pointer (some ⟨w.heap.size,2,none⟩)|7=>.int .u8 (s.op:Int)|8=>.pointer (some ⟨w.heap.size,3,none⟩)|9=>.int .i64 s.e|10=>.pointer (some ⟨w.heap.size,4,none⟩)|11=>.int .i64 s.cond|12=>.pointer (some ⟨w.heap.size,5,none⟩)|13=>.slice a1 s.acts.length c1|14=>.pointer (some ⟨w.heap.size,6,none⟩)|15=>.slice a2 s.thn.length c2|16=>.pointer (some ⟨w.heap.size,7,none⟩)|17=>.slice a3 s.els.length c3|18=>.agg #[.string s.name,.int .u8 (s.op:Int),.bool false,.int .i64 s.e,.int .i64 s.cond,.slice a1 s.acts.length c1,.slice a2 s.thn.length c2,.slice a3 s.els.length c3]|_=>undef) (fun y=>TlS (t.withK K) σ (stBx w.heap.size s a1 c1 a2 c2 a3 c3::X) y) 19 Tryz.mixed (by kernel_rfl) (by kernel_rfl) HA.out.drew ?_ ?_
 ·intro i9 hi9 a9 w9 hF9 hS9 K9 hK9;have hc9:i9=0∨i9=1∨i9=2∨i9=3∨i9=4∨i9=5∨i9=6∨i9=7∨i9=8∨i9=9∨i9=10∨i9=11∨i9=12∨i9=13∨i9=14∨i9=15∨i9=16∨i9=17∨i9=18:=by omega
  clear hi9;rcases hc9 with rfl|rfl|rfl|rfl|rfl|rfl|rfl|rfl|rfl|rfl|rfl|rfl|rfl|rfl|rfl|rfl|rfl|rfl|rfl
  ·have e0:=hF9.od 0 (v:=.pointer (some ⟨t.B,0,none⟩)) rfl;refine zaU rfl ?_ (hK9 _ hS9);clear hF9;simp only [sr2N,execOp,e0];first|done|(go_simp<;>omega)
  ·have e4:=hF9.od 4 (v:=.pointer (some ⟨w.heap.size,0,none⟩)) rfl;refine zaU rfl ?_ (hK9 _ hS9);clear hF9;simp only [sr2N,execOp,e4];first|done|(go_simp<;>omega)
  ·have e28:=hF9.ev 1 28;have q0:=zaA (hS9.r.own (r:=stBx w.heap.size s a1 c1 a2 c2 a3 c3) (by simp)) (j:=0) rfl;refine zaU rfl ?_ (hK9 _ hS9);clear hF9;simp only [sr2N,execOp,e28];first|done|(go_simp<;>omega)
  ·rw [if_pos (zaG rfl)];unfold Oper.wp;have f29:=hF9.nw 2 29;have hr9:(execOp a9.eval (sr2N 3)).run Tryz.prog w9=.ok (.enter 136 #[.int .u8 (s.k:Int)]) w9:=by
    simp only [sr2N,execOp];go_simp
   rw [hr9,Oper.upon_enter];refine Calls.mono (stmtShK_all s.k w9) ?_;rintro e9 w8 ⟨rfl,hb⟩;exact hK9 _ (hS9.on hb)
  ·have e4:=hF9.od 4 (v:=.pointer (some ⟨w.heap.size,0,none⟩)) rfl;refine zaU rfl ?_ (hK9 _ hS9);clear hF9;simp only [sr2N,execOp,e4];first|done|(go_simp<;>omega)
  ·have e31:=hF9.ev 4 31;have q0:=zaA (hS9.r.own (r:=stBx w.heap.size s a1 c1 a2 c2 a3 c3) (by simp)) (j:=1) rfl;refine zaU rfl ?_ (hK9 _ hS9);clear hF9;simp only [sr2N,execOp,e31];first|done|(go_simp<;>omega)
  ·have e4:=hF9.od 4 (v:=.pointer (some ⟨w.heap.size,0,none⟩)) rfl;refine zaU rfl ?_ (hK9 _ hS9);clear hF9;simp only [sr2N,execOp,e4];first|done|(go_simp<;>omega)
  ·have e33:=hF9.ev 6 33;have q0:=zaA (hS9.r.own (r:=stBx w.heap.size s a1 c1 a2 c2 a3 c3) (by simp)) (j:=2) rfl;refine zaU rfl ?_ (hK9 _ hS9);clear hF9;simp only [sr2N,execOp,e33];first|done|(go_simp<;>omega)
  ·have e4:=hF9.od 4 (v:=.pointer (some ⟨w.heap.size,0,none⟩)) rfl;refine zaU rfl ?_ (hK9 _ hS9);clear hF9;simp only [sr2N,execOp,e4];first|done|(go_simp<;>omega)
  ·have e35:=hF9.ev 8 35;have q0:=zaA (hS9.r.own (r:=stBx w.heap.size s a1 c1 a2 c2 a3 c3) (by simp)) (j:=3) rfl;refine zaU rfl ?_ (hK9 _ hS9);clear hF9;simp only [sr2N,execOp,e35];first|done|(go_simp<;>omega)
  ·have e4:=hF9.od 4 (v:=.pointer (some ⟨w.heap.size,0,none⟩)) rfl;refine zaU rfl ?_ (hK9 _ hS9);clear hF9;simp only [sr2N,execOp,e4];first|done|(go_simp<;>omega)
  ·have e37:=hF9.ev 10 37;have q0:=zaA (hS9.r.own (r:=stBx w.heap.size s a1 c1 a2 c2 a3 c3) (by simp)) (j:=4) rfl;refine zaU rfl ?_ (hK9 _ hS9);clear hF9;simp only [sr2N,execOp,e37];first|done|(go_simp<;>omega)
  ·have e4:=hF9.od 4 (v:=.pointer (some ⟨w.heap.size,0,none⟩)) rfl;refine zaU rfl ?_ (hK9 _ hS9);clear hF9;simp only [sr2N,execOp,e4];first|done|(go_simp<;>omega)
  ·have e39:=hF9.ev 12 39;have q0:=zaA (hS9.r.own (r:=stBx w.heap.size s a1 c1 a2 c2 a3 c3) (by simp)) (j:=5) rfl;refine zaU rfl ?_ (hK9 _ hS9);clear hF9;simp only [sr2N,execOp,e39];first|done|(go_simp<;>omega)
  ·have e4:=hF9.od 4 (v:=.pointer (some ⟨w.heap.size,0,none⟩)) rfl;refine zaU rfl ?_ (hK9 _ hS9);clear hF9;simp only [sr2N,execOp,e4];first|done|(go_simp<;>omega)
  ·have e41:=hF9.ev 14 41;have q0:=zaA (hS9.r.own (r:=stBx w.heap.size s a1 c1 a2 c2 a3 c3) (by simp)) (j:=6) rfl;refine zaU rfl ?_ (hK9 _ hS9);clear hF9;simp only [sr2N,execOp,e41];first|done|(go_simp<;>omega)
  ·have e4:=hF9.od 4 (v:=.pointer (some ⟨w.heap.size,0,none⟩)) rfl;refine zaU rfl ?_ (hK9 _ hS9);clear hF9;simp only [sr2N,execOp,e4];first|done|(go_simp<;>omega)
  ·have e43:=hF9.ev 16 43;have q0:=zaA (hS9.r.own (r:=stBx w.heap.size s a1 c1 a2 c2 a3 c3) (by simp)) (j:=7) rfl;refine zaU rfl ?_ (hK9 _ hS9);clear hF9;simp only [sr2N,execOp,e43];first|done|(go_simp<;>omega)
  ·have f32:=hF9.nw 5 32;have f34:=hF9.nw 7 34;have f36:=hF9.nw 9 36;have f38:=hF9.nw 11 38;have f40:=hF9.nw 13 40;have f42:=hF9.nw 15 42;have f44:=hF9.nw 17 44;refine zaU rfl ?_ (hK9 _ hS9);clear hF9;simp only [sr2N,execOp];first|done|(go_simp<;>omega)
 ·intro w9 hS9 K9 hK9;simp only [putA,sr2N];rw [if_pos (zaG rfl)];unfold Oper.wp;go_simp;have CX:=hidI (CS.out w9 hS9);clear hS9;cases hr:tShaped (stmtW s.k) (stmtSh s.k) (ctnS s) (tPart ex (tAct ex) st (ctnS s)) σ with
  | none=>
   rw [hr] at CX;have HR:Hid (stmt1 ex st ss (j:Int) σ=none):=hidI (by rw [HM.out,hr]);refine Calls.mono CX.out ?_;rintro e w2 ⟨rfl,hb2⟩;refine ⟨rfl,?_⟩;rw [HR.out];exact ⟨rfl,hb2.sub (.cons _ (.refl _))⟩
  | some σ1=>
   rw [hr] at CX;refine Calls.mono CX.out ?_;rintro e w2 ⟨rfl,hb2⟩;refine hK9 _ _ ?_;clear hK9 K9 CX;have b5:w2.cell? ⟨t.B,5,none⟩=some (.int .i64 (σ1.s:Int)):=hb2.r.cell (j:=5) (u:=.int .i64 (σ1.s:Int)) rfl;have z5:w2.frozen? ⟨t.B,5,none⟩=false:=hb2.r.free 5;by_cases hi:(j:Int)=(σ1.s:Int)
   ·have d1:((j:Int)==(σ1.s:Int))=true:=by rw [hi];simp
    have HR:Hid (stmt1 ex st ss (j:Int) σ=some { σ1 with s:=σ1.s+1 }):=hidI (by rw [HM.out,hr];simp only [hi,if_true]);have hsb:(σ1.s:Int)≤1099511627776:=by have:=HL.out;omega
    have CM:=hidI (fun W=>zbP (.pointer (some ⟨t.B,0,none⟩)) W);have HFIN:Hid (TlS (t.withK K) { σ1 with s:=σ1.s+1 } X (w2.setCell ⟨t.B,5,none⟩ (.int .i64 ((σ1.s:Int)+1)))):=hidI ⟨((hb2.r.setc 5 (.int .i64 ((σ1.s:Int)+1)) { σ1 with s:=σ1.s+1 } rfl (by simp [tlBox])).sub (.cons _ (.refl _))),hb2.lim⟩;clear hr HM hi hb2
    go_wp2_with (go_at_call 158;refine Calls.mono (CM.out _) ?_;intro e w3 h3;obtain ⟨rfl,rfl⟩:=h3;clear CM)
    go_end0;rw [HR.out];exact ⟨rfl,HFIN.out⟩
   ·have d1:((j:Int)==(σ1.s:Int))=false:=by rw [beq_eq_false_iff_ne];exact hi
    have HR:Hid (stmt1 ex st ss (j:Int) σ=none):=hidI (by rw [HM.out,hr];simp only [hi,if_false]);have CM:=hidI (fun W=>zbF (.pointer (some ⟨t.B,0,none⟩)) W);clear hr HM hi
    go_wp2_with (go_at_call 158;refine Calls.mono (CM.out _) ?_;intro e w3 h3;obtain ⟨rfl,rfl⟩:=h3;clear CM)
    refine ⟨rfl,?_⟩;rw [HR.out];exact ⟨rfl,hb2.bad (.cons _ (.refl _))⟩
theorem stmtK {t:Tx} {F:Nat} (hk:t.Ok F) {ex:Int→TM} (hkp:∀ i,Kp (ex i)) (HE:∀ i,AtC t 212 (ex i) 0 i):∀ (f:Nat) (i:Int),AtC t 193 (tStmt ex t.P.prg.stmts f i) (401-f) i
 | 0,_=>fun K σ1 Y w1 h1 h2=>by
  have:=h1.lim.1;omega
 | f+1,i=>by
  rw [tStmt_succ];exact stmt1K hk hkp (kp_stmt hkp _ f) HE (fun i9=>(stmtK hk hkp HE f i9).weak (by omega)) i
end Go.Proofs.YtfljimpgnlfipaaGreatDoor
