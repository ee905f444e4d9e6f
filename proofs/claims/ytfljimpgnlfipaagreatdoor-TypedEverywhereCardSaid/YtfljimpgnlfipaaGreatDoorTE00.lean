/-
  Part 0 of the proof: Digits, RefOk, Shelf, App, NumB, RefParse, Parse, LexM.
-/
import Derived.Lib.ItoaNum
import Derived.Lib.ItoaLen
import Derived.Lib.ItoaMem
import Derived.Lib.ParseIntB
import Derived.Shelf.LaysM
import Derived.Shelf.Strconv.Itoa4
import Derived.Shelf.LaysC
import Derived.Shelf.Strconv.ParseIntPublic10
import Derived.Shelf.Strconv.ErrVarParseInt
import Derived.Shelf.Strconv.Clone
import Derived.Ground.NamesProg
import Derived.Test.YtfljimpgnlfipaaGreatDoorProg
import Derived.Test.YtfljimpgnlfipaaGreatDoorChecked
import Derived.WalkKit
import Derived.Lib.SmallJoins
import Derived.Lib.QuietBelow
import Derived.Laws.ResultCell
import Derived.Laws.MakeOwn
import Derived.Maps.AppendAt
import Derived.OneCell
import Derived.WalkLawsBesides
import Derived.WalkSpells
import Derived.Deep.LoopGhost
import Derived.Deep.OwnRows
import Derived.Deep.RegionHeld3
import Derived.BigQuiet
import Derived.Lib.AtoiErrMem
import Derived.PlainAid
import Derived.Lib.ParseIntBTie
import Derived.Laws.RangeAny
import Derived.Lib.OthersKept
namespace Go.Proofs.YtfljimpgnlfipaaGreatDoor
open Go.Lib
def Dig (c:UInt8):Prop:=48≤c.toNat∧c.toNat≤57
def val (acc:Nat):List UInt8→Nat
 | []=>acc
 | c::r=>val (acc*10+(c.toNat-48)) r
theorem val_append (l r:List UInt8):∀ acc,val acc (l++r)=val (val acc l) r:=by
 induction l with
 | nil=>intro acc;rfl
 | cons c l ih=>intro acc;exact ih _
theorem le_val (l:List UInt8):∀ acc,acc≤val acc l:=by
 induction l with
 | nil=>intro acc;exact Nat.le_refl _
 | cons c l ih=>
  intro acc;have h:=ih (acc*10+(c.toNat-48));show acc≤val (acc*10+(c.toNat-48)) l;generalize val (acc*10+(c.toNat-48)) l=z at h ⊢;omega
theorem step_lt {a d p v:Nat} (hd:d≤9) (h:v<(a*10+d+1)*p):v<(a+1)*(p*10):=by
 have h1:(a*10+d+1)*p≤((a+1)*10)*p:=Nat.mul_le_mul_right _ (by omega);have h2:((a+1)*10)*p=(a+1)*(p*10):=by rw [Nat.mul_assoc,Nat.mul_comm 10 p]
 omega
theorem val_lt (l:List UInt8):(∀ c∈l,Dig c)→∀ acc,val acc l<(acc+1)*10 ^ l.length:=by
 induction l with
 | nil=>
  intro _ acc;rw [List.length_nil,Nat.pow_zero,Nat.mul_one];exact Nat.lt_succ_self acc
 | cons c l ih=>
  intro h acc;have hc:=h c (List.mem_cons_self ..);have h1:=ih (fun d hd=>h d (List.mem_cons_of_mem _ hd)) (acc*10+(c.toNat-48));rw [List.length_cons,Nat.pow_succ];exact step_lt (by unfold Dig at hc;omega) h1
theorem ofNat48 {d:Nat} (h:d<10):(UInt8.ofNat (48+d)).toNat=48+d:=by
 rw [UInt8.toNat_ofNat'];omega
theorem zeT {u:Nat} (h:u<10):decDigits u=[UInt8.ofNat (48+u)]:=by rw [decDigits,dif_pos h]
theorem dec_big {u:Nat} (h:¬ u<10):decDigits u=decDigits (u / 10)++[UInt8.ofNat (48+u % 10)]:=by rw [decDigits,dif_neg h]
theorem head_app {l:List UInt8} (r:List UInt8) (h:l≠[]):(l++r).head?=l.head?:=by
 cases l with
 | nil=>exact absurd rfl h
 | cons a l=>rfl
theorem zeU (u:Nat):(∀ c∈decDigits u,Dig c)∧val 0 (decDigits u)=u∧decDigits u≠[]∧((decDigits u).head?=some 48→u=0):=by
 induction u using Nat.strongRecOn with
 | _ u ih=>
  by_cases h:u<10
  ·rw [zeT h];refine ⟨?_,?_,by simp,?_⟩
   ·intro c hc;rw [List.mem_singleton] at hc;subst hc;unfold Dig;rw [ofNat48 h];omega
   ·show 0*10+((UInt8.ofNat (48+u)).toNat-48)=u;rw [ofNat48 h,Nat.zero_mul,Nat.zero_add,Nat.add_sub_cancel_left]
   ·intro h0;have:=congrArg UInt8.toNat (Option.some.inj h0);rw [ofNat48 h] at this;have e:(48:UInt8).toNat=48:=rfl;omega
  ·obtain ⟨a,b,c,d⟩:=ih (u / 10) (by omega);rw [dec_big h];refine ⟨?_,?_,by simp,?_⟩
   ·intro x hx;rcases List.mem_append.1 hx with hx|hx
    ·exact a x hx
    ·rw [List.mem_singleton] at hx;subst hx;unfold Dig;rw [ofNat48 (Nat.mod_lt _ (by decide))];omega
   ·rw [val_append,b];show u / 10*10+((UInt8.ofNat (48+u % 10)).toNat-48)=u;rw [ofNat48 (Nat.mod_lt _ (by decide)),Nat.add_sub_cancel_left];omega
   ·intro h0;rw [head_app _ c] at h0;have:=d h0;omega
theorem dec_val:∀ (n:Nat) (l:List UInt8),l.length=n→l≠[]→(∀ c∈l,Dig c)→(l.head?=some 48→l=[48])→l=decDigits (val 0 l):=by
 intro n
 induction n with
 | zero=>intro l hl hne _ _;exact absurd (List.eq_nil_of_length_eq_zero hl) hne
 | succ n ih=>
  intro l hl hne hd h0;obtain ⟨r,c,rfl⟩:∃ r c,l=r++[c]:=⟨l.dropLast,l.getLast hne,(List.dropLast_concat_getLast hne).symm⟩;have hc:=hd c (by simp);unfold Dig at hc;have e1:val 0 (r++[c])=val 0 r*10+(c.toNat-48):=by rw [val_append];rfl
  have ec:UInt8.ofNat (48+(c.toNat-48))=c:=by
   apply UInt8.toNat_inj.1;rw [ofNat48 (by omega)];omega
  by_cases hr:r=[]
  ·subst hr;have e2:val 0 ([]++[c])=c.toNat-48:=by rw [e1];show 0*10+(c.toNat-48)=_;rw [Nat.zero_mul,Nat.zero_add]
   rw [e2,zeT (by omega),ec];rfl
  ·have hhead:r.head?≠some 48:=fun h=>by
    have:=h0 (by rw [head_app _ hr];exact h);have hlen:=congrArg List.length this;have:r.length≠0:=fun h=>hr (List.eq_nil_of_length_eq_zero h)
    simp at hlen;exact hr hlen
   have hrr:=ih r (by simpa using hl) hr (fun d hdd=>hd d (by simp [hdd])) (fun h=>absurd h hhead);have hpos:0<val 0 r:=by
    rcases Nat.eq_zero_or_pos (val 0 r) with h|h
    ·rw [h] at hrr;exact absurd (by rw [hrr,zeT (by decide)];rfl) hhead
    ·exact h
   rw [e1,dec_big (by omega)];have e3:(val 0 r*10+(c.toNat-48)) / 10=val 0 r:=by omega
   have e4:(val 0 r*10+(c.toNat-48)) % 10=c.toNat-48:=by omega
   rw [e3,e4,←hrr,ec]
theorem parseM_ok (l:List UInt8) (h:∀ c∈l,Dig c):∀ acc,val acc l≤18446744073709551615→parseUintM 18446744073709551615 acc l=.ok (val acc l):=by
 induction l with
 | nil=>intro acc _;rfl
 | cons c l ih=>
  intro acc hv;have hc:=h c (by simp);have h1:=le_val l (acc*10+(c.toNat-48));have hv:val (acc*10+(c.toNat-48)) l≤18446744073709551615:=hv;show parseUintM 18446744073709551615 acc (c::l)=.ok (val (acc*10+(c.toNat-48)) l);rw [parseUintM,if_pos (show 48≤c.toNat∧c.toNat≤57 from hc),if_neg (by omega),if_neg (by omega)];exact ih (fun d hd=>h d (by simp [hd])) _ hv
theorem parseB_ok (u:Nat) (h:u≤18446744073709551615):parseUintB 64 (decDigits u)=.ok u:=by
 obtain ⟨a,b,c,_⟩:=zeU u;unfold parseUintB;rw [if_neg c];have:=parseM_ok _ a 0 (by rw [b];exact h);rw [b] at this;exact this
theorem parse_itoa (v:Int) (h0 : -9223372036854775808≤v) (h1:v≤9223372036854775807):parseIntB 64 (itoa v)=.ok v:=by
 have e63:(2:Nat) ^ (64-1)=9223372036854775808:=by decide
 unfold itoa;split
 ·rename_i hneg
  simp only [parseIntB];rw [if_pos (by right;decide),parseB_ok _ (by omega)];simp only [e63];rw [if_neg (by intro h;exact h.1 (by decide)),if_neg (by omega),if_pos (by decide)];exact congrArg NumEnd.ok (by omega)
 ·rename_i hneg
  obtain ⟨a,b,c,_⟩:=zeU v.toNat;have hp:=parseB_ok v.toNat (by omega);obtain ⟨d,r,hdr⟩:∃ d r,decDigits v.toNat=d::r:=by
   cases hx:decDigits v.toNat with
   | nil=>exact absurd hx c
   | cons d r=>exact ⟨d,r,rfl⟩
  have hd:=a d (by rw [hdr];simp);unfold Dig at hd;rw [hdr] at hp ⊢;simp only [parseIntB];rw [if_neg (by omega),hp];simp only [e63];rw [if_neg (by omega),if_neg (by omega),if_neg (by omega)];exact congrArg NumEnd.ok (by omega)
open Go.Lib
def Ok (l ds:List UInt8) (below:Bool):Prop:=
 ds≠[]∧ds.length≤19∧(ds.head?=some 48→l=[48])∧(∀ c∈ds,Dig c)∧(if below=true then val 0 ds≤9223372036854775808 else val 0 ds≤9223372036854775807)
theorem ok_pos {l:List UInt8} (h:Ok l l false):l=itoa (val 0 l:Int):=by
 obtain ⟨h1,h2,h3,h4,_⟩:=h;have:=dec_val l.length l rfl h1 h4 h3;unfold itoa;rw [if_neg (by omega)];simpa using this
theorem ok_neg {ds:List UInt8} (h:Ok (45::ds) ds true):45::ds=itoa (-(val 0 ds:Int))∧0<val 0 ds:=by
 obtain ⟨h1,h2,h3,h4,_⟩:=h;have h3':ds.head?≠some 48:=fun h=>by
  have:=h3 h;simp at this
 have e:=dec_val ds.length ds rfl h1 h4 (fun h=>absurd h h3');have hpos:0<val 0 ds:=by
  rcases Nat.eq_zero_or_pos (val 0 ds) with h|h
  ·rw [h] at e;exact absurd (by rw [e,zeT (by decide)];rfl) h3'
  ·exact h
 refine ⟨?_,hpos⟩;unfold itoa;rw [if_pos (by omega)];simpa using e
theorem nd_le:∀ (k u:Nat),u<10 ^ (k+1)→nDigits u≤k+1
 | 0,u,h=>by rw [nDigits_small (by simpa using h)];exact Nat.le_refl _
 | k+1,u,h=>by
  by_cases h10:u<10
  ·rw [nDigits_small h10];omega
  ·rw [nDigits_big h10];have:=nd_le k (u / 10) (by rw [Nat.pow_succ] at h;omega);omega
theorem dec_len (u:Nat) (h:u≤9223372036854775808):(decDigits u).length≤19:=by
 rw [decDigits_length];refine nd_le 18 u (Nat.lt_of_le_of_lt h (by decide))
theorem ok_dec (u:Nat) (h:u≤9223372036854775807):Ok (decDigits u) (decDigits u) false:=by
 obtain ⟨a,b,c,d⟩:=zeU u;refine ⟨c,dec_len u (by omega),fun h0 => ?_,a,?_⟩
 ·have:=d h0;subst this;rw [zeT (by decide)];rfl
 ·rw [if_neg (by decide),b];exact h
theorem ok_dec_neg (u:Nat) (h0:0<u) (h:u≤9223372036854775808):Ok (45::decDigits u) (decDigits u) true:=by
 obtain ⟨a,b,c,d⟩:=zeU u;refine ⟨c,dec_len u h,fun h1 => ?_,a,?_⟩
 ·have:=d h1;omega
 ·rw [if_pos rfl,b];exact h
theorem ok_itoa {v:Int} (h0 : -9223372036854775808≤v) (h1:v≤9223372036854775807) :
  (0≤v∧Ok (itoa v) (itoa v) false∧(val 0 (itoa v):Int)=v)∨(v<0∧∃ ds,itoa v=45::ds∧Ok (45::ds) ds true ∧ -(val 0 ds:Int)=v):=by
 by_cases h:v<0
 ·right;refine ⟨h,decDigits v.natAbs,by unfold itoa;rw [if_pos h],ok_dec_neg _ (by omega) (by omega),?_⟩;rw [(zeU v.natAbs).2.1];omega
 ·left;have e:itoa v=decDigits v.toNat:=by unfold itoa;rw [if_neg h]
  rw [e];refine ⟨by omega,ok_dec _ (by omega),?_⟩;rw [(zeU v.toNat).2.1];omega
end Go.Proofs.YtfljimpgnlfipaaGreatDoor
namespace Go.Proofs
open Go.Shelf
def Tryz.laysM173_ren:Go.Shelf.Ren:=⟨fun|173=>202|246=>222|283=>234|284=>235|285=>236|286=>237|129=>172|317=>243|318=>244|319=>245|320=>246|337=>251|338=>252|n=>n,fun|2=>2|3=>3|9=>9|4=>4|171=>305|0=>0|53=>175|37=>198|5=>5|173=>307|212=>315|51=>247|20=>20|213=>316|46=>202|232=>319|233=>320|n=>n,fun|17=>2|18=>4|19=>5|n=>n⟩
theorem Tryz.laysM173:Go.Proofs.LaysM.n173 Tryz.prog Tryz.laysM173_ren:={
 mixed:=by kernel_rfl
 f129:=Tryz.func172.trans (congrArg some (by kernel_rfl))
 f173:=Tryz.func202.trans (congrArg some (by kernel_rfl))
 f246:=Tryz.func222.trans (congrArg some (by kernel_rfl))
 f283:=Tryz.func234.trans (congrArg some (by kernel_rfl))
 f284:=Tryz.func235.trans (congrArg some (by kernel_rfl))
 f285:=Tryz.func236.trans (congrArg some (by kernel_rfl))
 f286:=Tryz.func237.trans (congrArg some (by kernel_rfl))
 f317:=Tryz.func243.trans (congrArg some (by kernel_rfl))
 f318:=Tryz.func244.trans (congrArg some (by kernel_rfl))
 f319:=Tryz.func245.trans (congrArg some (by kernel_rfl))
 f320:=Tryz.func246.trans (congrArg some (by kernel_rfl))
 f337:=Tryz.func251.trans (congrArg some (by kernel_rfl))
 f338:=Tryz.func252.trans (congrArg some (by kernel_rfl))
 t0:=Tryz.underlying0
 a0:=Tryz.isAgg0
 z0:=Tryz.sizeOf0
 v0:=Tryz.zeroValue0
 t2:=Tryz.underlying2
 a2:=Tryz.isAgg2
 z2:=Tryz.sizeOf2
 v2:=Tryz.zeroValue2
 t3:=Tryz.underlying3
 a3:=Tryz.isAgg3
 z3:=Tryz.sizeOf3
 v3:=Tryz.zeroValue3
 t4:=Tryz.underlying4
 a4:=Tryz.isAgg4
 z4:=Tryz.sizeOf4
 v4:=Tryz.zeroValue4
 t5:=Tryz.underlying5
 a5:=Tryz.isAgg5
 z5:=Tryz.sizeOf5
 v5:=Tryz.zeroValue5
 t9:=Tryz.underlying9
 a9:=Tryz.isAgg9
 z9:=Tryz.sizeOf9
 v9:=Tryz.zeroValue9
 t20:=Tryz.underlying20
 a20:=Tryz.isAgg20
 z20:=Tryz.sizeOf20
 v20:=Tryz.zeroValue20
 t37:=Tryz.underlying198
 a37:=Tryz.isAgg198
 z37:=Tryz.sizeOf198
 v37:=Tryz.zeroValue198
 t46:=Tryz.underlying202
 a46:=Tryz.isAgg202
 z46:=Tryz.sizeOf202
 v46:=Tryz.zeroValue202
 t51:=Tryz.underlying247
 a51:=Tryz.isAgg247
 z51:=Tryz.sizeOf247
 v51:=Tryz.zeroValue247
 t53:=Tryz.underlying175
 a53:=Tryz.isAgg175
 z53:=Tryz.sizeOf175
 v53:=Tryz.zeroValue175
 t171:=Tryz.underlying305
 a171:=Tryz.isAgg305
 z171:=Tryz.sizeOf305
 v171:=Tryz.zeroValue305
 t173:=Tryz.underlying307
 a173:=Tryz.isAgg307
 z173:=Tryz.sizeOf307
 v173:=Tryz.zeroValue307
 t212:=Tryz.underlying315
 a212:=Tryz.isAgg315
 z212:=Tryz.sizeOf315
 v212:=Tryz.zeroValue315
 t213:=Tryz.underlying316
 a213:=Tryz.isAgg316
 z213:=Tryz.sizeOf316
 t232:=Tryz.underlying319
 a232:=Tryz.isAgg319
 z232:=Tryz.sizeOf319
 v232:=Tryz.zeroValue319
 t233:=Tryz.underlying320
 a233:=Tryz.isAgg320
 z233:=Tryz.sizeOf320
 v233:=Tryz.zeroValue320
 g17:=by kernel_rfl
 g18:=by kernel_rfl
 g19:=by kernel_rfl
 i0:=by kernel_rfl
 i2:=by kernel_rfl
 i3:=by kernel_rfl
 i4:=by kernel_rfl
 i5:=by kernel_rfl
 i9:=by kernel_rfl
 i20:=by kernel_rfl
 i37:=by kernel_rfl
 i46:=by kernel_rfl
 i51:=by kernel_rfl
 i53:=by kernel_rfl
 i171:=by kernel_rfl
 i173:=by kernel_rfl
 i212:=by kernel_rfl
 i232:=by kernel_rfl
 i233:=by kernel_rfl
 m17:=by kernel_rfl
 m18:=by kernel_rfl
 m19:=by kernel_rfl }
def Tryz.laysC174_ren:Go.Shelf.Ren:=⟨fun|174=>175|247=>200|245=>201|287=>217|279=>218|280=>219|281=>220|282=>221|321=>230|322=>231|316=>86|171=>233|205=>232|243=>242|246=>222|283=>234|284=>235|285=>236|286=>237|129=>172|317=>243|318=>244|319=>245|320=>246|337=>251|338=>252|n=>n,fun|9=>9|3=>3|2=>2|75=>250|85=>251|4=>4|167=>288|5=>5|53=>175|175=>289|46=>202|168=>291|37=>198|0=>0|210=>303|21=>21|127=>199|145=>313|143=>311|171=>305|173=>307|212=>315|51=>247|20=>20|213=>316|232=>319|233=>320|80=>321|n=>n,fun|15=>0|16=>1|17=>2|18=>4|19=>5|n=>n⟩
theorem Tryz.laysC174:Go.Proofs.LaysC.n174 Tryz.prog Tryz.laysC174_ren:={
 mixed:=by kernel_rfl
 f129:=Tryz.func172.trans (congrArg some (by kernel_rfl))
 f171:=Tryz.func233.trans (congrArg some (by kernel_rfl))
 f174:=Tryz.func175.trans (congrArg some (by kernel_rfl))
 f205:=Tryz.func232.trans (congrArg some (by kernel_rfl))
 f243:=Tryz.func242.trans (congrArg some (by kernel_rfl))
 f245:=Tryz.func201.trans (congrArg some (by kernel_rfl))
 f246:=Tryz.func222.trans (congrArg some (by kernel_rfl))
 f247:=Tryz.func200.trans (congrArg some (by kernel_rfl))
 f279:=Tryz.func218.trans (congrArg some (by kernel_rfl))
 f280:=Tryz.func219.trans (congrArg some (by kernel_rfl))
 f281:=Tryz.func220.trans (congrArg some (by kernel_rfl))
 f282:=Tryz.func221.trans (congrArg some (by kernel_rfl))
 f283:=Tryz.func234.trans (congrArg some (by kernel_rfl))
 f284:=Tryz.func235.trans (congrArg some (by kernel_rfl))
 f285:=Tryz.func236.trans (congrArg some (by kernel_rfl))
 f286:=Tryz.func237.trans (congrArg some (by kernel_rfl))
 f287:=Tryz.func217.trans (congrArg some (by kernel_rfl))
 f316:=Tryz.func86.trans (congrArg some (by kernel_rfl))
 f317:=Tryz.func243.trans (congrArg some (by kernel_rfl))
 f318:=Tryz.func244.trans (congrArg some (by kernel_rfl))
 f319:=Tryz.func245.trans (congrArg some (by kernel_rfl))
 f320:=Tryz.func246.trans (congrArg some (by kernel_rfl))
 f321:=Tryz.func230.trans (congrArg some (by kernel_rfl))
 f322:=Tryz.func231.trans (congrArg some (by kernel_rfl))
 f337:=Tryz.func251.trans (congrArg some (by kernel_rfl))
 f338:=Tryz.func252.trans (congrArg some (by kernel_rfl))
 t0:=Tryz.underlying0
 a0:=Tryz.isAgg0
 z0:=Tryz.sizeOf0
 v0:=Tryz.zeroValue0
 t2:=Tryz.underlying2
 a2:=Tryz.isAgg2
 z2:=Tryz.sizeOf2
 v2:=Tryz.zeroValue2
 t3:=Tryz.underlying3
 a3:=Tryz.isAgg3
 z3:=Tryz.sizeOf3
 v3:=Tryz.zeroValue3
 t4:=Tryz.underlying4
 a4:=Tryz.isAgg4
 z4:=Tryz.sizeOf4
 v4:=Tryz.zeroValue4
 t5:=Tryz.underlying5
 a5:=Tryz.isAgg5
 z5:=Tryz.sizeOf5
 v5:=Tryz.zeroValue5
 t9:=Tryz.underlying9
 a9:=Tryz.isAgg9
 z9:=Tryz.sizeOf9
 v9:=Tryz.zeroValue9
 t20:=Tryz.underlying20
 a20:=Tryz.isAgg20
 z20:=Tryz.sizeOf20
 v20:=Tryz.zeroValue20
 t21:=Tryz.underlying21
 a21:=Tryz.isAgg21
 z21:=Tryz.sizeOf21
 v21:=Tryz.zeroValue21
 t37:=Tryz.underlying198
 a37:=Tryz.isAgg198
 z37:=Tryz.sizeOf198
 v37:=Tryz.zeroValue198
 t46:=Tryz.underlying202
 a46:=Tryz.isAgg202
 z46:=Tryz.sizeOf202
 v46:=Tryz.zeroValue202
 t51:=Tryz.underlying247
 a51:=Tryz.isAgg247
 z51:=Tryz.sizeOf247
 v51:=Tryz.zeroValue247
 t53:=Tryz.underlying175
 a53:=Tryz.isAgg175
 z53:=Tryz.sizeOf175
 v53:=Tryz.zeroValue175
 t75:=Tryz.underlying250
 a75:=Tryz.isAgg250
 z75:=Tryz.sizeOf250
 v75:=Tryz.zeroValue250
 t85:=Tryz.underlying251
 a85:=Tryz.isAgg251
 z85:=Tryz.sizeOf251
 v85:=Tryz.zeroValue251
 t127:=Tryz.underlying199
 a127:=Tryz.isAgg199
 z127:=Tryz.sizeOf199
 v127:=Tryz.zeroValue199
 t143:=Tryz.underlying311
 a143:=Tryz.isAgg311
 z143:=Tryz.sizeOf311
 v143:=Tryz.zeroValue311
 t145:=Tryz.underlying313
 a145:=Tryz.isAgg313
 z145:=Tryz.sizeOf313
 v145:=Tryz.zeroValue313
 t167:=Tryz.underlying288
 a167:=Tryz.isAgg288
 z167:=Tryz.sizeOf288
 v167:=Tryz.zeroValue288
 t168:=Tryz.underlying291
 a168:=Tryz.isAgg291
 z168:=Tryz.sizeOf291
 v168:=Tryz.zeroValue291
 t171:=Tryz.underlying305
 a171:=Tryz.isAgg305
 z171:=Tryz.sizeOf305
 v171:=Tryz.zeroValue305
 t173:=Tryz.underlying307
 a173:=Tryz.isAgg307
 z173:=Tryz.sizeOf307
 v173:=Tryz.zeroValue307
 t175:=Tryz.underlying289
 a175:=Tryz.isAgg289
 z175:=Tryz.sizeOf289
 v175:=Tryz.zeroValue289
 t210:=Tryz.underlying303
 a210:=Tryz.isAgg303
 z210:=Tryz.sizeOf303
 v210:=Tryz.zeroValue303
 t212:=Tryz.underlying315
 a212:=Tryz.isAgg315
 z212:=Tryz.sizeOf315
 v212:=Tryz.zeroValue315
 t213:=Tryz.underlying316
 a213:=Tryz.isAgg316
 z213:=Tryz.sizeOf316
 t232:=Tryz.underlying319
 a232:=Tryz.isAgg319
 z232:=Tryz.sizeOf319
 v232:=Tryz.zeroValue319
 t233:=Tryz.underlying320
 a233:=Tryz.isAgg320
 z233:=Tryz.sizeOf320
 v233:=Tryz.zeroValue320
 g15:=by kernel_rfl
 g16:=by kernel_rfl
 g17:=by kernel_rfl
 g18:=by kernel_rfl
 g19:=by kernel_rfl
 t80:=Tryz.underlying321
 a80:=Tryz.isAgg321
 z80:=Tryz.sizeOf321
 v80:=Tryz.zeroValue321
 i0:=by kernel_rfl
 i2:=by kernel_rfl
 i3:=by kernel_rfl
 i4:=by kernel_rfl
 i5:=by kernel_rfl
 i9:=by kernel_rfl
 i20:=by kernel_rfl
 i21:=by kernel_rfl
 i37:=by kernel_rfl
 i46:=by kernel_rfl
 i51:=by kernel_rfl
 i53:=by kernel_rfl
 i75:=by kernel_rfl
 i80:=by kernel_rfl
 i85:=by kernel_rfl
 i127:=by kernel_rfl
 i143:=by kernel_rfl
 i145:=by kernel_rfl
 i167:=by kernel_rfl
 i168:=by kernel_rfl
 i171:=by kernel_rfl
 i173:=by kernel_rfl
 i175:=by kernel_rfl
 i210:=by kernel_rfl
 i212:=by kernel_rfl
 i232:=by kernel_rfl
 i233:=by kernel_rfl
 m15:=by kernel_rfl
 m16:=by kernel_rfl
 m17:=by kernel_rfl
 m18:=by kernel_rfl
 m19:=by kernel_rfl
 c0:=by kernel_rfl
 c2:=by kernel_rfl
 c3:=by kernel_rfl
 c4:=by kernel_rfl
 c5:=by kernel_rfl
 c9:=by kernel_rfl
 c20:=by kernel_rfl
 c21:=by kernel_rfl
 c37:=by kernel_rfl
 c46:=by kernel_rfl
 c51:=by kernel_rfl
 c53:=by kernel_rfl
 c75:=by kernel_rfl
 c80:=by kernel_rfl
 c85:=by kernel_rfl
 c127:=by kernel_rfl
 c143:=by kernel_rfl
 c145:=by kernel_rfl
 c167:=by kernel_rfl
 c168:=by kernel_rfl
 c171:=by kernel_rfl
 c173:=by kernel_rfl
 c175:=by kernel_rfl
 c210:=by kernel_rfl
 c212:=by kernel_rfl
 c213:=by kernel_rfl
 c232:=by kernel_rfl
 c233:=by kernel_rfl }
def Tryz.laysM316_ren:Go.Shelf.Ren:=⟨fun|316=>86|n=>n,fun|9=>9|3=>3|4=>4|37=>198|0=>0|127=>199|5=>5|n=>n,fun|n=>n⟩
theorem Tryz.laysM316:Go.Proofs.LaysM.n316 Tryz.prog Tryz.laysM316_ren:={
 mixed:=by kernel_rfl
 f316:=Tryz.func86.trans (congrArg some (by kernel_rfl))
 t0:=Tryz.underlying0
 a0:=Tryz.isAgg0
 z0:=Tryz.sizeOf0
 v0:=Tryz.zeroValue0
 t3:=Tryz.underlying3
 a3:=Tryz.isAgg3
 z3:=Tryz.sizeOf3
 v3:=Tryz.zeroValue3
 t4:=Tryz.underlying4
 a4:=Tryz.isAgg4
 z4:=Tryz.sizeOf4
 v4:=Tryz.zeroValue4
 t9:=Tryz.underlying9
 a9:=Tryz.isAgg9
 z9:=Tryz.sizeOf9
 v9:=Tryz.zeroValue9
 t37:=Tryz.underlying198
 a37:=Tryz.isAgg198
 z37:=Tryz.sizeOf198
 v37:=Tryz.zeroValue198
 t127:=Tryz.underlying199
 a127:=Tryz.isAgg199
 z127:=Tryz.sizeOf199
 v127:=Tryz.zeroValue199
 t5:=Tryz.underlying5
 a5:=Tryz.isAgg5
 z5:=Tryz.sizeOf5
 v5:=Tryz.zeroValue5
 i0:=by kernel_rfl
 i3:=by kernel_rfl
 i4:=by kernel_rfl
 i5:=by kernel_rfl
 i9:=by kernel_rfl
 i37:=by kernel_rfl
 i127:=by kernel_rfl }
end Go.Proofs
namespace Go.Proofs.YtfljimpgnlfipaaGreatDoor
open Go.RowKit Go.Deep Go.MapKept
theorem belowT {n:Nat} {w w1:World} (h:Below n w w1:=by (repeat (first|exact Below.refl _ _|assumption|refine Below.drew ?_|refine Below.alloc ?_ (by first|omega|(simp;done)|(simp;omega)) _|refine Below.setCell ?_ (by first|omega|(simp;done)|(simp;omega)) _))):Below n w w1:=h
theorem hidI {p:Prop} (h:p):Hid p:=h
theorem zcN {w w':World} {base e size n B:Nat} {v:Value} {xs:List Value} (h:w.ownsRow base e size v n xs) (hb:Below B w w') (hB:w.heap.size≤B):w'.ownsRow base e size v n xs:=by
 refine ⟨h.1,?_⟩;rcases h.2 with h0|⟨g,cap,cur,rfl,hbase,hg,r⟩
 ·exact .inl h0
 ·exact .inr ⟨g,cap,cur,rfl,hbase,(hb.block g (Nat.lt_of_lt_of_le (Array.getElem?_eq_some_iff.1 hg).1 hB)).trans hg,r⟩
theorem zaH {w:World} {base e size n:Nat} {v:Value} {xs:List Value} (h:w.ownsRow base e size v n xs):∃ a c,v=.slice a n c:=by
 rcases h.2 with ⟨rfl,rfl⟩|⟨_,_,_,rfl,_⟩<;>exact ⟨_,_,rfl⟩
def SeesC (w:World) (v:Value) (n size:Nat) (cs:List Value):Prop:=
 cs.length=n*size∧∃ (a:Option Addr) (cap:Nat),v=.slice a n cap∧(n=0∨∃ b off,a=some ⟨b,off,none⟩∧∀ (j:Nat) (c:Value),cs[j]?=some c→w.cell? ⟨b,off+j,none⟩=some c)
theorem SeesC.below {w w':World} {B n size:Nat} {v:Value} {cs:List Value} (h:SeesC w v n size cs) (hb:Below B w w') (hB:w.heap.size≤B):SeesC w' v n size cs:=by
 obtain ⟨hl,a,cap,rfl,h⟩:=h;refine ⟨hl,a,cap,rfl,?_⟩;rcases h with h|⟨b,off,rfl,h⟩
 ·exact .inl h
 ·exact .inr ⟨b,off,rfl,fun j c hc=>(hb.cell (Nat.lt_of_lt_of_le (World.block_lt_of_cell? w _ (h j c hc)) hB)).trans (h j c hc)⟩
theorem zbD {w:World} {base e size n:Nat} {v:Value} {cs:List Value} (h:w.ownsRow base e size v n cs):SeesC w v n size cs:=by
 have hc:=h;refine ⟨h.1,?_⟩;rcases h.2 with ⟨rfl,h0⟩|⟨g,cap,cur,rfl,_⟩
 ·exact ⟨none,0,by rw [h0],.inl h0⟩
 ·refine ⟨_,cap,rfl,.inr ⟨g,0,rfl,fun j c hj => ?_⟩⟩;have e0:=World.ownsRow.cells hc rfl j c hj;rw [show (⟨g,0,none⟩:Addr).add j=⟨g,0+j,none⟩ from Addr.add_lit ..] at e0;exact e0
theorem run_append_any {P:Program} {t e size bytes:Nat} {z:Value} (ht:P.underlying t=some (.slice e)) (hinfo:(P.info? e).map (fun i=>(i.zero,i.size,i.bytes))=some (some z,size,bytes)) (hzs:z.cells.size=size) (hsz:0<size) (hby:bytes≤1000)
  (W:World) (ty base:Nat) (v:Value) (n:Nat) (xs:List Value) (u:Value) (m:Nat) (cs:List Value) (ho:W.ownsRow base e size v n xs) (hu:SeesC W u m size cs) (h1:∀ c∈cs,c.oneCell'=true) (hn:n+m≤100000) (hb:base≤W.heap.size) :
  ∃ v' w',(Builtin.append_ #[t,t] ty #[v,u]).run P W=.ok v' w'∧w'.ownsRow base e size v' (n+m) (xs++cs)∧W.grownBy w' v.ownBlock∧(v'.ownBlock=v.ownBlock∨v'.ownBlock=some W.heap.size):=by
 obtain ⟨i0,hi,hz0,hz1,hz2⟩:=info_parts hinfo;obtain ⟨hl,a,cap,rfl,hs⟩:=hu;rcases hs with rfl|⟨b,off,rfl,hc⟩
 ·obtain rfl:cs=[]:=List.eq_nil_of_length_eq_zero (by simpa using hl);refine ⟨v,W,?_,by simpa using ho,World.grownBy.refl _ _,.inl rfl⟩;rcases ho.2 with ⟨rfl,rfl⟩|⟨g,cap',cur,rfl,_,_,hle,_⟩
  ·cases a<;>simp [Builtin.append_,run_underlying ht,sizeOf,typeInfo,hi,loadCells,loadCellsFrom,Builtin.lenOf,Builtin.firstCells]
  ·cases a<;>simp [Builtin.append_,run_underlying ht,sizeOf,typeInfo,hi,hle,storeCells,loadCells,loadCellsFrom,Builtin.lenOf,Builtin.firstCells]
 ·have hmul:(n+m)*bytes≤100000*1000:=Nat.mul_le_mul hn hby;obtain ⟨v',w',hr,h2,h3,_,h5⟩:=run_append_own_at (P:=P) W base t ty e i0 z size bytes ht hi hz0 hz1 hz2 hzs hsz v n xs ho ⟨b,off,none⟩ m cap cs hl
   (fun j u hj=>by rw [Addr.add_lit];exact hc j u hj) h1 (by unfold maxLen;omega) (by omega) hb
  exact ⟨v',w',hr,h2,h3,h5⟩
theorem zcD {P:Program} {t e size bytes:Nat} {z:Value} (ht:P.underlying t=some (.slice e)) (hinfo:(P.info? e).map (fun i=>(i.zero,i.size,i.bytes))=some (some z,size,bytes)) (hzs:z.cells.size=size) (hsz:0<size) (hby:bytes≤1000)
  {o:Oper} {a:Act} {K:Act→World→Prop} {Q:Exit→Act→World→Prop} {W:World} (s x:Operand)
  (ho:o.op=.call { callee:=.builtin .append,args:=#[s,x],argTypes:=#[t,t] }) (base:Nat) (v:Value) (n:Nat) (xs:List Value) (hs:a.eval s=v) (hown:W.ownsRow base e size v n xs)
  (u:Value) (m:Nat) (cs:List Value) (hx:a.eval x=u) (hu:SeesC W u m size cs) (h1:∀ c∈cs,c.oneCell'=true) (hn:n+m≤100000) (hb:base≤W.heap.size)
  (h:∀ v' w',w'.ownsRow base e size v' (n+m) (xs++cs)→W.grownBy w' v.ownBlock→(v'.ownBlock=v.ownBlock∨v'.ownBlock=some W.heap.size)→K (a.put o.dst v') w') :
  o.wp P a W K Q:=by
 obtain ⟨v',w',hr,h2,h3,h4⟩:=run_append_any ht hinfo hzs hsz hby W o.type base v n xs u m cs hown hu h1 hn hb;unfold Oper.wp execOp;simp only [ho,resolve,invoke,builtin,Sem.run_bind,Sem.run_pure,Result.andThen_ok,List.map_toArray,List.map_cons,List.map_nil,hs,hx,hr];exact h v' w' h2 h3 h4
theorem zaF {P:Program} {t e size bytes:Nat} {z:Value} (ht:P.underlying t=some (.slice e)) (hinfo:(P.info? e).map (fun i=>(i.zero,i.size,i.bytes))=some (some z,size,bytes)) (hzs:z.cells.size=size) (hsz:0<size) (hby:bytes≤1000)
  {ops:Array Oper} {rest:List Oper} {o:Oper} {a:Act} {Q:Exit→Act→World→Prop} {W:World} (hgd:o.guard=none) (s x:Operand)
  (ho:o.op=.call { callee:=.builtin .append,args:=#[s,x],argTypes:=#[t,t] }) (base:Nat) (v:Value) (n:Nat) (xs:List Value) (hs:a.eval s=v) (hown:W.ownsRow base e size v n xs)
  (u:Value) (m:Nat) (cs:List Value) (hx:a.eval x=u) (hu:SeesC W u m size cs) (h1:∀ c∈cs,c.oneCell'=true) (hn:n+m≤100000) (hb:base≤W.heap.size)
  (h:∀ v' w',w'.ownsRow base e size v' (n+m) (xs++cs)→W.grownBy w' v.ownBlock→(v'.ownBlock=v.ownBlock∨v'.ownBlock=some W.heap.size)→wpList P ops Q rest (a.put o.dst v') w') :
  wpList P ops Q (o::rest) a W:=
 wpList_plain hgd fun _ hK=>zcD ht hinfo hzs hsz hby s x ho base v n xs hs hown u m cs hx hu h1 hn hb fun v' w' h2 h3 h4=>hK _ _ (h v' w' h2 h3 h4)
structure Tok where
 k:Int
 s:ByteArray
 n:Int
 p:Int
def Tok.cells (x:Tok):List Value:=[.int .u8 x.k,.string x.s,.int .i64 x.n,.int .i64 x.p]
def flatT (xs:List Tok):List Value:=xs.flatMap Tok.cells
theorem flatT_append (xs ys:List Tok):flatT (xs++ys)=flatT xs++flatT ys:=by simp [flatT]
theorem flatT_one (x:Tok):flatT [x]=x.cells:=by simp [flatT]
theorem flatT_get:∀ (xs:List Tok) (j i:Nat) (x:Tok),xs[j]?=some x→i<4→(flatT xs)[j*4+i]?=x.cells[i]?
 | [],_,_,_,h,_=>by simp at h
 | y::r,0,i,x,h,hi=>by
  obtain rfl:y=x:=by simpa using h
  simp only [flatT,List.flatMap_cons,Nat.zero_mul,Nat.zero_add];rw [List.getElem?_append_left (by simpa [Tok.cells] using hi)]
 | y::r,j+1,i,x,h,hi=>by
  have:=flatT_get r j i x (by simpa using h) hi;rw [←this];simp only [flatT,List.flatMap_cons];rw [List.getElem?_append_right (by simp [Tok.cells];omega)];congr 1;simp [Tok.cells];omega
theorem zdU (x:Tok):∀ c∈x.cells,c.oneCell'=true:=by
 intro c hc;simp only [Tok.cells,List.mem_cons,List.mem_nil_iff,or_false] at hc;rcases hc with rfl|rfl|rfl|rfl<;>rfl
theorem tok_seen {W:World} (x:Tok):SeesC (W.alloc (.cells #[.int .u8 x.k,.string x.s,.int .i64 x.n,.int .i64 x.p] 92)) (.slice (some ⟨W.heap.size,0,none⟩) 1 1) 1 4 x.cells:=by
 refine ⟨rfl,_,1,rfl,.inr ⟨W.heap.size,0,rfl,fun j c hc => ?_⟩⟩;have hj:j<4:=by have:=(List.getElem?_eq_some_iff.1 hc).1;simpa [Tok.cells] using this
 have hm:j=0∨j=1∨j=2∨j=3:=by omega
 rcases hm with rfl|rfl|rfl|rfl<;>simp only [Tok.cells,List.getElem?_cons_zero,List.getElem?_cons_succ,Option.some.injEq] at hc<;>subst hc<;>go_simp
theorem Tryz.info92:(Tryz.prog.info? 92).map (fun i=>(i.zero,i.size,i.bytes))=some (some (.agg #[.int .u8 0,.string ⟨#[]⟩,.int .i64 0,.int .i64 0]),4,40):=by kernel_rfl
open Go.RowKit
def In64 (a:Int):Prop := -9223372036854775808≤a∧a≤9223372036854775807
theorem Tryz.strconv_FormatInt_10 (n:Int) (h0 : -9223372036854775808≤n) (h1:n≤9223372036854775807) (w:World) (htab:Lib.TabIs Tryz.prog w "internal/strconv.uint64pow10" .u64 Lib.pow10Tab) :
  Calls Tryz.prog 202 #[.int .i64 n,.int .i64 10] w fun e w'=>e=.returned (.string ⟨(Lib.itoa n).toArray⟩)∧∃ k os,w'=Sort.grow (w.drewN k) os:=Any.strconv_FormatInt_10 Tryz.laysM173 n h0 h1 w htab
theorem Tryz.strconv_ParseInt_10_at64_ok (s:ByteArray) (hmax:s.size≤9223372036854775806) (v:Int) (h:Lib.parseIntB 64 s.data.toList=.ok v) (w:World) :
  Calls Tryz.prog 175 #[.string s,.int .i64 10,.int .i64 64] w fun e w'=>e=.returned (.tuple #[.int .i64 v,.nilIface])∧(w'=w∨∃ t,w'=Lib.bytesWorld w 5 t):=Any.strconv_ParseInt_10_at64_ok Tryz.laysC174 s hmax v h w
def Tab (w:World):Prop:=Lib.TabIs Tryz.prog w "internal/strconv.uint64pow10" .u64 Lib.pow10Tab
theorem gTab:Tryz.prog.globalNamed "internal/strconv.uint64pow10" = some 2:=by kernel_rfl
theorem Tab.on {w w':World} (h:Tab w) (hb:Below w.heap.size w w'):Tab w':=Joins.tab_stays gTab h hb (Nat.le_refl _)
theorem below_grow (w:World) (k:Nat) (os:Array Obj):Below w.heap.size w (Sort.grow (w.drewN k) os):=
 ⟨rfl,rfl,rfl,by simp [Sort.grow],fun i hi=>by show (w.heap++os)[i]?=_;rw [Array.getElem?_append_left hi]⟩
theorem digits_any (n:Int) (w:World) (hn:In64 n) (ht:Tab w) :
  Calls Tryz.prog 176 #[.int .i64 n] w fun e w'=>e=.returned (.string ⟨(Lib.itoa n).toArray⟩)∧Below w.heap.size w w':=by
 go_enter Tryz.func176,Tryz.ntmps176
 go_wp2_with (go_at_call 202;refine (Tryz.strconv_FormatInt_10 n hn.1 hn.2 w ht).mono ?_;rintro e w' ⟨rfl,k,os,rfl⟩)
 go_ret;exact ⟨rfl,below_grow _ _ _⟩
theorem parseInt_ok (s:ByteArray) (hl:s.size≤281474976710656) (v:Int) (h:Lib.parseIntB 64 s.data.toList=.ok v) (w:World) :
  Calls Tryz.prog 175 #[.string s,.int .i64 10,.int .i64 64] w fun e w'=>e=.returned (.tuple #[.int .i64 v,.nilIface])∧Below w.heap.size w w':=by
 refine (Tryz.strconv_ParseInt_10_at64_ok s (by omega) v h w).mono ?_;rintro e w1 ⟨rfl,rfl|⟨t,rfl⟩⟩
 ·exact ⟨rfl,Below.refl _ _⟩
 ·exact ⟨rfl,Lib.bytesWorld_below _ _ _⟩
set_option maxHeartbeats 400000 in
theorem parse_ok (s:ByteArray) (hl:s.size≤281474976710656) (v:Int) (hv:In64 v) (h:Lib.parseIntB 64 s.data.toList=.ok v) (w:World) (ht:Tab w) :
  Calls Tryz.prog 127 #[.string s] w fun e w'=>e=.returned (.tuple #[.int .i64 (if (Lib.itoa v==s.toList)=true then v else 0),.int .i64 (if (Lib.itoa v==s.toList)=true then 0 else 3)])∧Below w.heap.size w w':=by
 cases hq:(Lib.itoa v==s.toList);all_goals
  go_enter Tryz.func127,Tryz.ntmps127
  go_wp2_with (first|(go_at_call 175;refine (parseInt_ok s hl v h w).mono ?_;rintro e w1 ⟨rfl,hb1⟩;have ht1:=ht.on hb1)|(go_at_call 176;refine (digits_any v _ hv (by assumption)).mono ?_;rintro e w2 ⟨rfl,hb2⟩))
  go_ret2;exact ⟨rfl,hb1.trans (hb2.mono hb1.size)⟩
open Go.RowKit Go.PlainAid
theorem bt_get (d:ByteArray) (k:Nat) (h:k<d.size):∃ c,d.data.toList[k]?=some c∧bt d k=(c.toNat:Int):=by
 refine ⟨d[k],?_,?_⟩
 ·have:k<d.data.toList.length:=by simpa using h
  rw [List.getElem?_eq_getElem this];rfl
 ·unfold bt;rw [dif_pos h]
theorem take_step {l:List UInt8} {k:Nat} {c:UInt8} (h:l[k]?=some c):l.take (k+1)=l.take k++[c]:=by
 rw [List.take_add_one,h];rfl
theorem head_bt (d:ByteArray) (h:0<d.size) (h48:(bt d 0==48)=false):d.data.toList.head?≠some 48:=by
 obtain ⟨c,hc,hb⟩:=bt_get d 0 h;intro hh;rw [List.head?_eq_getElem?,hc] at hh;have e:=Option.some.inj hh;subst e;rw [hb] at h48;exact absurd h48 (by decide)
theorem head_bt' (d:ByteArray) (h:0<d.size) (h48:(bt d 0==48)=true):d.data.toList.head?=some 48:=by
 obtain ⟨c,hc,hb⟩:=bt_get d 0 h;rw [List.head?_eq_getElem?,hc];rw [hb] at h48;have e:c.toNat=48:=by have:=of_decide_eq_true h48;omega
 exact congrArg some (UInt8.toNat_inj.1 (by rw [e];rfl))
theorem zeK {d:ByteArray} (h:0<d.size):d.data.toList≠[]:=by
 intro e;have hz:=Lib.size_eq d;rw [e,List.length_nil] at hz;omega
theorem step_val {l:List UInt8} {k:Nat} {c:UInt8} (hk:k<19) (h:l[k]?=some c) (hd:∀ x∈l.take k,Dig x) (h0:48≤(c.toNat:Int)) (h1:(c.toNat:Int)≤57) :
  IntKind.u64.wrap (IntKind.u64.wrap ((val 0 (l.take k):Int)*10)+((c.toNat:Int)-48))=(val 0 (l.take (k+1)):Int)∧(∀ x∈l.take (k+1),Dig x):=by
 have e:val 0 (l.take (k+1))=val 0 (l.take k)*10+(c.toNat-48):=by rw [take_step h,val_append];rfl
 have hl:=val_lt (l.take k) hd 0;have hk':(l.take k).length≤k:=List.length_take_le _ _;have hp:10 ^ (l.take k).length≤10 ^ 18:=Nat.pow_le_pow_right (by decide) (by omega);have h18:(10:Nat) ^ 18=1000000000000000000:=by decide
 rw [h18] at hp;refine ⟨?_,?_⟩
 ·rw [IntKind.wrap_u64,IntKind.wrap_u64,e];omega
 ·intro x hx;rw [take_step h] at hx;rcases List.mem_append.1 hx with hx|hx
  ·exact hd x hx
  ·rw [List.mem_singleton] at hx;subst hx;exact ⟨by omega,by omega⟩
theorem neg_cons (s d:ByteArray) (hs:0<s.size) (hd:s.extract 1 s.size=d) (q45:(bt s 0==45)=true):s.data.toList=45::d.data.toList:=by
 obtain ⟨c,hc,hb⟩:=bt_get s 0 hs;rw [hb] at q45;have ec:c.toNat=45:=by have:=of_decide_eq_true q45;omega
 have ec':c=45:=UInt8.toNat_inj.1 (by rw [ec];rfl);rw [←hd,Lib.extract_data];have hz:=Lib.size_eq s;generalize s.data.toList=l at hc hz ⊢;cases l with
 | nil=>simp at hc
 | cons x r=>
  simp at hc;rw [hc,ec'];rw [List.drop_succ_cons,List.drop_zero,List.take_of_length_le (by rw [hz,List.length_cons];omega)]
open Go.RowKit Go.PlainAid
def Sent (w:World):Prop:=(∃ tp p,w.var? Tryz.prog "strconv.ErrSyntax" = some #[.iface tp p])∧∃ tp p,w.var? Tryz.prog "strconv.ErrRange" = some #[.iface tp p]
theorem gES0:Tryz.prog.globalNamed "strconv.ErrSyntax" = some 0:=by kernel_rfl
theorem gER0:Tryz.prog.globalNamed "strconv.ErrRange" = some 1:=by kernel_rfl
theorem Sent.on {w w':World} (h:Sent w) (hb:Below w.heap.size w w'):Sent w':=by
 obtain ⟨⟨tp,p,h1⟩,tq,q,h2⟩:=h;exact ⟨⟨tp,p,Joins.var_stays gES0 h1 hb (Nat.le_refl _)⟩,tq,q,Joins.var_stays gER0 h2 hb (Nat.le_refl _)⟩
theorem parse_yes (s:ByteArray) (hl:s.size≤281474976710656) (v:Int) (hv:In64 v) (h:s.data.toList=Lib.itoa v) (w:World) (ht:Tab w) :
  Calls Tryz.prog 127 #[.string s] w fun e w'=>e=.returned (.tuple #[.int .i64 v,.int .i64 0])∧Below w.heap.size w w':=by
 have q:(Lib.itoa v==s.toList)=true:=by rw [ByteArray.toList_eq,h];simp
 have:=parse_ok s hl v hv (by rw [h];exact parse_itoa v hv.1 hv.2) w ht;rw [if_pos q,if_pos q] at this;exact this
theorem parse_err (s:ByteArray) (w:World) (r:Int) (hc:Calls Tryz.prog 175 #[.string s,.int .i64 10,.int .i64 64] w fun e w'=>∃ N,e=.returned (.tuple #[.int .i64 r,.iface 291 (.pointer (some ⟨N,0,none⟩))])∧Below w.heap.size w w') :
  Calls Tryz.prog 127 #[.string s] w fun e w'=>e=.returned (.tuple #[.int .i64 0,.int .i64 3])∧Below w.heap.size w w':=by
 go_enter Tryz.func127,Tryz.ntmps127
 go_wp2_with (go_at_call 175;refine hc.mono ?_;rintro e w1 ⟨N,rfl,hb1⟩)
 go_ret2;exact ⟨rfl,hb1⟩
theorem parse_no (s:ByteArray) (hl:s.size≤281474976710656) (h:∀ v,In64 v→s.data.toList≠Lib.itoa v) (w:World) (ht:Tab w) (hs:Sent w) :
  Calls Tryz.prog 127 #[.string s] w fun e w'=>e=.returned (.tuple #[.int .i64 0,.int .i64 3])∧Below w.heap.size w w':=by
 obtain ⟨⟨tp,p,h1⟩,tq,q,h2⟩:=hs;cases hp:Lib.parseIntB 64 s.data.toList with
 | ok v=>
  have hb:=Lib.parseIntB_bounds hp;have e63:(2:Nat) ^ (64-1)=9223372036854775808:=by decide
  rw [e63] at hb;have hv:In64 v:=by unfold In64;omega
  have q:¬ (Lib.itoa v==s.toList)=true:=by
   rw [ByteArray.toList_eq];intro hh;exact h v hv ((by simpa using hh:Lib.itoa v=s.data.toList)).symm
  have:=parse_ok s hl v hv hp w ht;rw [if_neg q,if_neg q] at this;exact this
 | «syntax»=>exact parse_err s w 0 ((Any.strconv_ParseInt_10_at64_syntax_var Tryz.laysC174 s hl hp tp p w h1).mono (by rintro e w' ⟨N,rfl,_,_,hb⟩;exact ⟨N,rfl,hb⟩))
 | range=>exact parse_err s w _ ((Any.strconv_ParseInt_10_at64_range_var Tryz.laysC174 s hl hp tq q w h2).mono (by rintro e w' ⟨N,rfl,_,_,hb⟩;exact ⟨N,rfl,hb⟩))
theorem bt_head (s:ByteArray) {c:UInt8} {r:List UInt8} (h:s.data.toList=c::r):0<s.size∧bt s 0=(c.toNat:Int):=by
 have hz:=Lib.size_eq s;have hs:0<s.size:=by rw [hz,h];simp
 obtain ⟨x,hx,hb⟩:=bt_get s 0 hs;rw [h] at hx;simp at hx;subst hx;exact ⟨hs,hb⟩
abbrev Txt:=List UInt8
def spaced (c:UInt8):Bool:=c==32 || c==9 || c==10
def bracket (c:UInt8):Bool:=c==40 || c==41
def ends (c:UInt8):Bool:=spaced c || bracket c || c==59
abbrev Piece:=Nat × Txt
def word (t:Txt) (p:Nat):Option Nat→List Piece
 | none=>[]
 | some b=>[(b,(t.drop b).take (p-b))]
def run (t:Txt):Nat→Option Nat→Bool→Txt→List Piece
 | p,b,_,[]=>word t p b
 | p,_,true,c::r=>if c=10 then run t (p+1) none false r else run t (p+1) none true r
 | p,b,false,c::r=>
  if c=59 then word t p b++run t (p+1) none true r
  else if bracket c then word t p b++(p,[c])::run t (p+1) none false r
  else if spaced c then word t p b++run t (p+1) none false r
  else run t (p+1) (some (b.getD p)) false r
def pieces (t:Txt):List Piece:=run t 0 none false t
theorem get_byte (s:ByteArray) (i:Nat) (h:i<s.size):s.data.toList[i]?=some (s.get! i):=by
 have e:s.get! i=s[i]'h:=by
  simp [ByteArray.get!,getElem!_pos,h];rfl
 rw [e,Array.getElem?_toList];exact Array.getElem?_eq_getElem h
theorem drop_byte (s:ByteArray) (pos:Nat) (h:pos<s.size):s.data.toList.drop pos=s.get! pos::s.data.toList.drop (pos+1):=by
 have hl:pos<s.data.toList.length:=by rw [Array.length_toList];exact h
 rw [List.drop_eq_getElem_cons hl];congr 1;have:=get_byte s pos h;rw [List.getElem?_eq_getElem hl] at this;exact Option.some.inj this
end Go.Proofs.YtfljimpgnlfipaaGreatDoor
