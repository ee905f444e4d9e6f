/-
  Part 35 of the proof: FrP, RQ, RFr, FewT, SmT, FrLaw, Clh, ClC, MtA, LvB, OpenDc.
-/
import Derived.Test.YtmekkhfohmfjkaaGreatDoorSf34
import Derived.Laws.Concat
import Derived.Laws.Strings2
import Derived.Deep.QuietTactic
import Derived.BigQuiet
import Derived.Test.YtmekkhfohmfjkaaGreatDoorProg
import Derived.WalkKit
import Derived.Carry
import Derived.OrdersHeld
import Derived.Deep.LoopGhost
import Derived.Deep.OwnRows
import Derived.Deep.AppendLies
import Derived.Deep.RegionHeld3
import Derived.Laws.MakeOwn
import Derived.Laws.ResultCell
import Derived.Laws.StructEq
import Derived.Lib.SmallJoins
import Derived.Lib.SliceRun
import Derived.Lib.QuietBelow
import Derived.WideKeyEntry
import Derived.DeepKeys4
import Derived.Maps.OwnRows
import Derived.StringKeys
import Derived.Test.YtmekkhfohmfjkaaGreatDoorSf33
import Derived.Test.YtmekkhfohmfjkaaGreatDoorSf11
import Derived.ProofKit
import Derived.OpenShut
import Derived.SizedLaws
import Derived.Deep.SlicePairs
namespace Go.Proofs.YtmekkhfohmfjkaaGreatDoor
open Go.RowKit Go.Deep Go.MapKept
open Go.ChangeMaps (setBlock heap_setBlock_same heap_setBlock_other)
theorem zero_55 (w:World):(zeroValue 3).run Tryz.prog w=.ok (.int .i64 0) w:=by kernel_rfl
theorem Tryz.info9z:(Tryz.prog.info? 9).map (fun i=>(i.zero,i.size,i.bytes))=some (some (.string ⟨#[]⟩),1,16):=by kernel_rfl
theorem under_55:Tryz.prog.underlying 61=some (.map 9 3):=by kernel_rfl
def FreshPost (ds:List Dcl) (n:Int) (w:World) (e:Ending) (w':World):Prop:=∃ sv,e=.returned sv∧SeesC w' sv (freshL ds n).length 1 ((freshL ds n).map Value.string)∧Below w.heap.size w w'
set_option maxHeartbeats 2000000 in
theorem fresh_any (w:World) (v:Value) (ds:List Dcl) (n:Int) (hn:In64 n) (hL:Laid w) (hv:SeesD w v ds) (hl:ds.length≤1000) (hs:∀ d∈ds,d.name.size≤140737488355328) :
  Calls Tryz.prog 15 #[v,.int .i64 n] w (FreshPost ds n w):=by
 obtain ⟨_,a,cap,rfl,_⟩:=id hv
 have HV:=hidI hv
 have HL:=hidI hL
 have HS:=hidI hs
 have HN:=hidI hn
 obtain ⟨m,hm⟩:∃ m,ds.length=m:=⟨_,rfl⟩
 have HM:=hidI hm
 rw [hm] at hl
 rw [hm]
 clear hv hm hL hs hn
 have hmm:=@run_makeMap Tryz.prog
 go_enter Tryz.func15,Tryz.ntmps15
 go_wp2
 go_loopg [14] m (fun g s14 wx=>∃ j:Nat,j+g=m∧s14=.int .i64 (j:Int)∧Hid (MapG wx w.heap.size (cntF (ds.take j)))∧Hid (Below w.heap.size w wx))
 case atStart=>exact ⟨0,by omega,rfl,hidI (zdB w),hidI ((Below.refl _ _).alloc (Nat.le_refl _) _)⟩
 case round=>
  obtain ⟨j,hjg,rfl,HK,HB⟩:=hrel
  cases gk with
  | zero=>
   obtain rfl:m=j:=by omega
   have k1:decide ((m:Int)<(m:Int))=false:=by simp
   have HK1:Hid (MapG wr w.heap.size (cntF ds)):=hidI (by have:=HK.out;rwa [List.take_of_length_le (by have:=HM.out;omega)] at this)
   clear HK
   have hwr:=HB.out.size
   have hmb:=HK1.out.lt
   go_wp2
   go_loopg [8,9] (m+64) (fun g s8 s9 wx=>∃ i:Nat,i+g=m+64∧s9=.int .i64 (i:Int)∧(frs ds i).length≤(min n 64).toNat∧Hid (wx.ownsRow (w.heap.size+1) 9 1 s8 (frs ds i).length ((frs ds i).map Value.string))∧Hid (MapG wx w.heap.size (cntF ds))∧Hid (Below w.heap.size w wx))
   case atStart=>exact ⟨0,by omega,rfl,Nat.zero_le _,hidI (World.ownsRow_nil _ _ _ _),HK1,HB⟩
   case round=>
    rename_i wr0 _ _ _ _ _ _ _ _
    obtain ⟨i,hig,rfl,hle,HO,HK,HB2⟩:=hrel
    obtain ⟨sa,sc,rfl⟩:=zaE HO.out
    have hmany:=frs_many ds i
    rw [HM.out] at hmany
    have hfl:=frs_le ds i
    obtain ⟨k,hk⟩:∃ k,(frs ds i).length=k:=⟨_,rfl⟩
    rw [hk] at hle hmany hfl
    rw [hk]
    replace HO:Hid (wr.ownsRow (w.heap.size+1) 9 1 (.slice sa k sc) k ((frs ds i).map Value.string)):=hidI (by have:=HO.out;rw [hk] at this;exact this)
    by_cases hg:(k:Int)<min n 64
    ·have C:=hidI (itoa_any (i:Int) wr ⟨by omega,by omega⟩ (HL.out.on HB2.out).tab)
     have hq:(⟨#[113]⟩:ByteArray)++⟨(Lib.itoa (i:Int)).toArray⟩=qn i:=by
      apply ByteArray.ext
      show ((⟨#[113]⟩:ByteArray)++⟨(Lib.itoa (i:Int)).toArray⟩).data=(113::Lib.itoa (i:Int)).toArray
      simp
     have hqs:=qn_size (i:=i) (by omega)
     have hts:(⟨(Lib.itoa (i:Int)).toArray⟩:ByteArray).size≤22:=by
      have:=Lib.itoa_length_le (i:Int) (by omega) (by omega)
      show (Lib.itoa (i:Int)).toArray.size≤22
      simp only [List.size_toArray]
      omega
     have hq3:=tkn_cnt ds i
     have HT:=hidI (cntF_get ds (qn i))
     have HFR:Hid (frs ds (i+1)=if tkn ds i=true then frs ds i else frs ds i++[qn i]):=hidI rfl
     have HADD:Hid (∀ W:World,(Op.stringOp .add ⟨#[113]⟩ ⟨(Lib.itoa (i:Int)).toArray⟩).run Tryz.prog W=.ok (.string (qn i)) W):=hidI (fun W=>by
      rw [run_string_add_sum W _ _ (by
       have h1:(⟨#[113]⟩:ByteArray).size=1:=rfl
       omega),hq])
     clear hq hts
     generalize (⟨(Lib.itoa (i:Int)).toArray⟩:ByteArray)=t at *
     generalize qn i=q at *
     generalize cntD ds q=c at *
     cases ht:tkn ds i with
     | true=>
      rw [ht] at hq3
      simp only [Bool.not_true] at hq3
      have HF1:Hid (frs ds (i+1)=frs ds i):=hidI (by rw [HFR.out,if_pos ht])
      clear ht HFR
      go_wp2_with (go_at_call 26;refine C.out.mono ?_;rintro e w1 ⟨rfl,hb1⟩;clear C;refine Hid.out ?_)
      have HK2:=hidI (HK.out.same (hb1.block _ HK.out.lt))
      have hlk:=look under_55 Tryz.underlying9 zero_55 HK2.out (s:=q) (by unfold maxLen;omega) false
      rw [HT.out] at hlk
      simp only [Bool.false_eq_true,if_false] at hlk
      have hadd:=HADD.out w1
      have HO2:=hidI (zbW HO.out hb1 (Nat.le_refl _))
      have HB3:=hidI (HB2.out.trans (hb1.mono HB2.out.size))
      clear hb1 HK HO HB2
      refine hidI ?_
      go_wp2
      go_roundg (gk-1)
      case measure=>omega
      case rel=>exact ⟨i+1,by omega,by go_num,by rw [HF1.out,hk];exact hle,hidI (by rw [HF1.out,hk];exact HO2.out),HK2,HB3⟩
     | false=>
      rw [ht] at hq3
      simp only [Bool.not_false] at hq3
      have HF1:Hid (frs ds (i+1)=frs ds i++[q]):=hidI (by rw [HFR.out,if_neg (by rw [ht];decide)])
      clear ht HFR
      go_wp2_with (go_at_call 26;refine C.out.mono ?_;rintro e w1 ⟨rfl,hb1⟩;clear C;refine Hid.out ?_)
      have HK2:=hidI (HK.out.same (hb1.block _ HK.out.lt))
      have hlk:=look under_55 Tryz.underlying9 zero_55 HK2.out (s:=q) (by unfold maxLen;omega) false
      rw [HT.out] at hlk
      simp only [Bool.false_eq_true,if_false] at hlk
      have hadd:=HADD.out w1
      have HO2:=hidI (zbW HO.out hb1 (Nat.le_refl _))
      have HB3:=hidI (HB2.out.trans (hb1.mono HB2.out.size))
      have hsz1:=HB3.out.size
      have hmb1:=HK2.out.lt
      have HV2:=hidI (zcF w1 9 1 #[.string q] rfl)
      have HO3:=hidI (World.ownsRow.alloc HO2.out (.cells #[.string q] 9))
      clear hb1 HK HO HB2
      refine hidI ?_
      go_wp2_with (at_builtin;go_must (refine zbP Tryz.underlying36 Tryz.info9z rfl (by decide) (by decide) rfl _ _ rfl (w.heap.size+1) (.slice sa k sc) k ((frs ds i).map Value.string) rfl HO3.out _ 1 [.string q] rfl HV2.out (by simp [Value.oneCell']) (by omega) (by simp;omega) ?_);intro v9 w9 hown9 hgrow9 hat9;refine Hid.out ?_)
      have HB9:Hid (Below w.heap.size w w9):=hidI ((HB3.out.alloc hsz1 _).grown hgrow9 (by simp;omega) (fun k hk=>by have:=(HO3.out.lt k hk).1;omega))
      have HK9:Hid (MapG w9 w.heap.size (cntF ds)):=hidI (HK2.out.same ((hgrow9.block _ (by simp;omega) (fun e=>by have:=(HO3.out.lt _ e.symm).1;omega)).trans (((Below.refl w1.heap.size w1).alloc (Nat.le_refl _) (.cells #[.string q] 9)).block _ hmb1)))
      have HO9:Hid (w9.ownsRow (w.heap.size+1) 9 1 v9 (frs ds (i+1)).length ((frs ds (i+1)).map Value.string)):=hidI (by rw [HF1.out,List.length_append,hk,List.map_append];exact hown9)
      clear hown9 hgrow9 hat9 HO2 HO3 HV2 HK2 HB3
      refine hidI ?_
      go_wp2
      go_roundg (gk-1)
      case measure=>omega
      case rel=>exact ⟨i+1,by omega,by go_num,by rw [HF1.out,List.length_append,hk,List.length_singleton];omega,HO9,HK9,HB9⟩
    ·have HZ:Hid (freshL ds n=frs ds i):=hidI (freshL_at (by have:=HM.out;omega) (by omega))
     have HO2:=hidI (zbB HO.out)
     go_wp2
     go_ret
     refine ⟨_,rfl,?_,HB2.out⟩
     rw [HZ.out]
     rw [hk]
     exact HO2.out
  | succ g=>
   have k1:(j:Int)<(m:Int):=by omega
   obtain ⟨d,hd⟩:∃ d,ds[j]?=some d:=⟨_,List.getElem?_eq_getElem (by have:=HM.out;omega)⟩
   obtain ⟨b,o,cap',hav,x0,x1,x2⟩:=HV.out.cell hd
   rw [HM.out] at hav
   cases hav
   have z:∀ {p:Addr} {v:Value},w.cell? p=some v→wr.cell? p=some v:=fun {p v} hc=>(HB.out.cell (World.block_lt_of_cell? w _ hc)).trans hc
   replace x0:=z x0
   replace x1:=z x1
   replace x2:=z x2
   have hsz:d.name.size≤maxLen:=by have:=HS.out d (List.mem_of_getElem? hd);unfold maxLen;omega
   have ha:Below wr.heap.size wr (wr.alloc (.cells #[.string d.name,.int .u8 (d.side:Int),.int .u8 (d.kind:Int)] 56)):=(Below.refl _ _).alloc (Nat.le_refl _) _
   have hM:=HK.out.same (ha.block _ HK.out.lt)
   have hlk:=look under_55 Tryz.underlying9 zero_55 hM hsz false
   rw [cntF_get] at hlk
   simp only [Bool.false_eq_true,if_false] at hlk
   have hc:=cntD_le (ds.take j) d.name
   rw [List.length_take] at hc
   obtain ⟨ob,ho1,_,ho3⟩:=store under_55 Tryz.underlying9 hM hsz (.int .i64 ((cntD (ds.take j) d.name:Int)+1))
   have hst:=ho1 _ rfl
   have HR:Hid (cntF (ds.take (j+1))=upd (cntF (ds.take j)) d.name (.int .i64 ((cntD (ds.take j) d.name:Int)+1))):=hidI (by rw [←cntF_add,List.take_add_one,hd];rfl)
   have HO3:=hidI ho3
   have HM1:=hidI hM
   have hlt:=HB.out.size
   have hmb:=HK.out.lt
   generalize cntD (ds.take j) d.name=c at *
   clear z hd ha hM ho1 ho3 hsz HK
   go_wp2
   go_roundg g
   case measure=>omega
   case rel=>exact ⟨j+1,by omega,by go_num,hidI (by rw [HR.out];exact HO3.out _ (put_same ob HM1.out.lt)),hidI (zdH ob (HB.out.alloc (by omega) _) (Nat.le_refl _))⟩
end Go.Proofs.YtmekkhfohmfjkaaGreatDoor


namespace Go.Proofs.YtmekkhfohmfjkaaGreatDoor
open Go.RowKit Go.Deep Go.MapKept
theorem flatD_take (ds:List Dcl) (k:Nat):flatD (ds.take k)=(flatD ds).take (k*3):=by
 induction ds generalizing k with
 | nil=>simp [flatD]
 | cons d r ih=>
  cases k with
  | zero=>simp [flatD]
  | succ k=>
   have:=ih k
   simp only [flatD,List.take_succ_cons,List.flatMap_cons] at this ⊢
   rw [this,show (k+1)*3=(dcells d).length+k*3 by simp [dcells];omega,List.take_length_add_append]
theorem few_any (w:World) (a:Option Addr) (n cap:Nat) (ds:List Dcl) (hv:SeesD w (.slice a n cap) ds) (hc:n≤cap) (hm:n≤10000000000000) :
  Calls Tryz.prog 7 #[.slice a n cap] w fun e w'=>(∃ v,e=.returned v∧SeesD w v (ds.take 40))∧w'=w:=by
 have hn:ds.length=n:=by obtain ⟨_,a',cap',he,_⟩:=id hv;cases he;rfl
 have HV:=hidI hv
 by_cases h40:n≤40
 ·have HT:Hid (ds.take 40=ds):=hidI (List.take_of_length_le (by omega))
  have k1:¬ ((40:Int)<(n:Int)):=by omega
  clear hv hn
  go_enter Tryz.func7,Tryz.ntmps7
  go_wp2
  go_ret
  exact ⟨⟨_,rfl,by rw [HT.out];exact HV.out⟩,rfl⟩
 ·have k1:(40:Int)<(n:Int):=by omega
  have HR:Hid (SeesD w (.slice a 40 cap) (ds.take 40)):=hidI (by
   obtain ⟨h0,a',cap',he,h1⟩:=hv
   cases he
   refine ⟨?_,a,cap,?_,?_⟩
   ·rw [flatD_take,List.length_take,h0,List.length_take];omega
   ·rw [List.length_take];congr 1;omega
   ·rcases h1 with h1|⟨b,o,hb,h1⟩
    ·omega
    ·refine .inr ⟨b,o,hb,fun j u hj=>h1 j u ?_⟩
     rw [flatD_take,List.getElem?_take] at hj
     split at hj
     ·exact hj
     ·cases hj)
  have hc2:40≤cap:=by omega
  clear hv hn
  go_enter Tryz.func7,Tryz.ntmps7
  go_wp2
  go_ret
  exact ⟨⟨_,rfl,HR.out⟩,rfl⟩
open Go.RowKit Go.Deep Go.MapKept
theorem nDig_le:∀ (k u:Nat),u<10 ^ (k+1)→Lib.nDigits u≤k+1
 | 0,u,h=>by rw [Lib.nDigits_small (by simpa using h)];omega
 | k+1,u,h=>by
  by_cases h1:u<10
  ·rw [Lib.nDigits_small h1];omega
  ·have:=nDig_le k (u / 10) (by rw [Nat.pow_succ] at h;omega)
   rw [Lib.nDigits_big h1];omega
theorem qn_name {i:Nat} (h:i<10000000):nameB (qn i)=true:=by
 have hl:(Lib.decDigits i).length≤7:=by rw [Lib.decDigits_length];exact nDig_le 6 i (by simpa using h)
 have hd:=(zcB i).1
 have hs:(qn i).size=(Lib.decDigits i).length+1:=by
  show ((113::Lib.itoa (i:Int)).toArray).size=_
  rw [itoa_nat];simp
 unfold nameB
 rw [hs]
 simp only [Bool.and_eq_true,decide_eq_true_eq,List.all_eq_true,List.mem_range]
 refine ⟨fun j hj => ?_,by omega,by omega⟩
 cases j with
 | zero=>
  have:sign (qn i) 0=113:=by simp [sign,qn]
  rw [this];rfl
 | succ j=>
  have hj':j<(Lib.decDigits i).length:=by omega
  have e:sign (qn i) (j+1)=((Lib.decDigits i)[j].toNat:Int):=by
   simp [sign,qn,itoa_nat,hj']
  have hc:=hd _ (List.getElem_mem hj')
  rw [e]
  have h1:(48:Int)≤((Lib.decDigits i)[j].toNat:Int):=by have:=hc.1;omega
  have h2:((Lib.decDigits i)[j].toNat:Int)≤57:=by have:=hc.2;omega
  simp [goodAt,digit,h1,h2]
theorem SeesC.str {w:World} {v:Value} {xs:List ByteArray} (h:SeesC w v xs.length 1 (xs.map Value.string)) {j:Nat} {x:ByteArray} (hx:xs[j]?=some x):∃ b o cap,v=.slice (some ⟨b,o,none⟩) xs.length cap∧w.cell? ⟨b,o+j,none⟩=some (.string x):=by
 have hj:=(List.getElem?_eq_some_iff.1 hx).1
 obtain ⟨_,a,cap,rfl,h0⟩:=h
 rcases h0 with h0|⟨b,o,rfl,hc⟩
 ·omega
 ·exact ⟨b,o,cap,rfl,hc j _ (by simp [hx])⟩
open Go.RowKit Go.Deep Go.MapKept
def LiveOk:Prop:=∀ W,Laid W→Calls Tryz.prog 10 #[] W fun e w'=>e=.returned (.bool true)∧Below W.heap.size W w'
set_option maxHeartbeats 8000000 in
theorem scopeFresh_law (hlive:LiveOk) (w:World) (a:Option Addr) (n cap:Nat) (ds:List Dcl) (hv:SeesD w (.slice a n cap) ds) (hc:n≤cap) (hm:n≤10000000000000) (hs:∀ d∈ds,d.name.size≤140737488355328) (hL:Laid w) (q:Nat) (hq:q≤255) :
  Calls Tryz.prog 4 #[.slice a n cap,.int .u8 (q:Int)] w fun e w'=>e=.returned (.bool true)∧Below w.heap.size w w':=by
 have CF:=hidI (few_any w a n cap ds hv hc hm)
 have HS:Hid (∀ d∈ds.take 40,d.name.size≤140737488355328):=hidI (fun d hd=>hs d (List.mem_of_mem_take hd))
 have hlen:(ds.take 40).length≤40:=by rw [List.length_take];omega
 have HL:=hidI hL
 have HLV:=hidI hlive
 generalize ds.take 40=ds' at *
 clear hv hs hL hlive
 have HX:Hid (∀ j x,(freshL ds' (q:Int))[j]?=some x→nameB x=true∧∀ sd,kindD x sd ds'=0):=hidI (fun j x hx=>by
  obtain ⟨i,hi,rfl,ht⟩:=freshL_mem (List.mem_of_getElem? hx)
  exact ⟨qn_name (by omega),fun sd=>kind_fresh ht sd⟩)
 have HND:Hid (∀ j k x y,(freshL ds' (q:Int))[j]?=some x→(freshL ds' (q:Int))[k]?=some y→k<j→y≠x):=hidI (fun j k x y hj hk hlt e=>by
  have h:=List.pairwise_iff_getElem.1 (freshL_nodup ds' (q:Int))
  obtain ⟨lj,ej⟩:=List.getElem?_eq_some_iff.1 hj
  obtain ⟨lk,ek⟩:=List.getElem?_eq_some_iff.1 hk
  exact h k j lk lj hlt (by rw [ej,ek,e]))
 have hfl:=freshL_len ds' (q:Int)
 go_enter Tryz.func4,Tryz.ntmps4
 go_wp2_with (go_at_call 7;refine CF.out.mono ?_;intro e w1 h1;obtain ⟨⟨v1,rfl,hv1⟩,rfl⟩:=h1;clear CF;refine Hid.out ?_)
 have HV:=hidI hv1
 have CR:=hidI (fresh_any w1 v1 ds' (q:Int) ⟨by omega,by omega⟩ HL.out hv1 (by omega) HS.out)
 unfold FreshPost at CR
 generalize freshL ds' (q:Int)=xs at *
 clear hv1
 refine hidI ?_
 go_wp2_with (go_at_call 15;refine CR.out.mono ?_;intro e w2 h1;obtain ⟨sv,rfl,hsv,hb2⟩:=h1;clear CR;refine Hid.out ?_)
 obtain ⟨_,sa,sc,rfl,_⟩:=id hsv
 have HSV:=hidI hsv
 have HB:=hidI hb2
 obtain ⟨m,hxm⟩:∃ m,xs.length=m:=⟨_,rfl⟩
 have HM:=hidI hxm
 rw [hxm] at hfl
 rw [hxm]
 have hm64:m≤64:=by omega
 clear hsv hb2 hxm
 refine hidI ?_
 by_cases h64:(64:Int)<(q:Int)
 ·have hq2:((m:Int)==64)=true:=by simp;omega
  clear hfl
  have hBsz:=HB.out.size
  have HSE:Hid (∀ W,Below w2.heap.size w2 W→SeesD W v1 ds'):=hidI (fun W hW=>SeesC.below (SeesC.below HV.out HB.out (Nat.le_refl _)) hW (Nat.le_refl _))
  have HCE:Hid (∀ W,Below w2.heap.size w2 W→∀ {j x},xs[j]?=some x→∃ b o cap,Value.slice sa m sc=.slice (some ⟨b,o,none⟩) m cap∧W.cell? ⟨b,o+j,none⟩=some (.string x)):=hidI (fun W hW {j x} hx=>by
   have h:=(SeesC.below HSV.out hW (Nat.le_refl _)).str hx
   rwa [HM.out] at h)
  have HLD:Hid (∀ W,Below w2.heap.size w2 W→Laid W):=hidI (fun W hW=>(HL.out.on HB.out).on hW)
  have HBB:Hid (∀ W,Below w2.heap.size w2 W→Below w1.heap.size w1 W):=hidI (fun W hW=>HB.out.trans (hW.mono HB.out.size))
  clear HB HL HV HSV
  go_wp2
  go_loopg [7] m (fun g s7 wx=>∃ j:Nat,j+g=m∧s7=.int .i64 (j:Int)∧Hid (Below w2.heap.size w2 wx))
  case atStart=>exact ⟨0,by omega,rfl,hidI (Below.refl _ _)⟩
  case round=>
   obtain ⟨j,hjg,rfl,HW⟩:=hrel
   cases gk with
   | zero=>
    obtain rfl:m=j:=by omega
    have k1:decide ((m:Int)<(m:Int))=false:=by simp
    have C:=hidI (HLV.out wr (HLD.out wr HW.out))
    go_wp2_with (go_at_call 10;refine C.out.mono ?_;rintro e w3 ⟨rfl,hb3⟩;clear C)
    go_ret
    exact ⟨rfl,(HBB.out wr HW.out).trans (hb3.mono (HBB.out wr HW.out).size)⟩
   | succ g=>
    have k1:(j:Int)<(m:Int):=by omega
    obtain ⟨x,hx⟩:∃ x,xs[j]?=some x:=⟨_,List.getElem?_eq_getElem (by have:=HM.out;omega)⟩
    obtain ⟨b,o,cap',hav,x0⟩:=HCE.out wr HW.out hx
    obtain ⟨rfl,rfl⟩:sa=some ⟨b,o,none⟩∧sc=cap':=by cases hav;exact ⟨rfl,rfl⟩
    clear hav
    have HCX:Hid (∀ W,Below w2.heap.size w2 W→∀ {j x},xs[j]?=some x→W.cell? ⟨b,o+j,none⟩=some (.string x)):=hidI (fun W hW {j x} hx=>by
     obtain ⟨b',o',cap'',hav,hc⟩:=HCE.out W hW hx
     cases hav
     exact hc)
    have C:=hidI (rname_any x wr)
    rw [(HX.out j x hx).1] at C
    have HKX:Hid (∀ sd,kindD x sd ds'=0):=hidI (HX.out j x hx).2
    have HXJ:=hidI hx
    clear hx
    go_wp2_with (go_at_call 17;refine C.out.mono ?_;rintro e w3 ⟨rfl,rfl⟩;clear C)
    clear x0
    go_loopg [8] 3 (fun g s8 wx=>∃ k:Nat,1≤k∧k+g=4∧s8=.int .u8 (k:Int)∧Hid (Below w2.heap.size w2 wx))
    case atStart=>exact ⟨1,by omega,by omega,rfl,HW⟩
    case round=>
     clear HW
     obtain ⟨k,hk1,hkg,rfl,HW⟩:=hrel
     cases gk with
     | zero=>
      obtain rfl:k=4:=by omega
      clear hk1 hkg
      go_wp2
      go_loopg [9] j (fun g s9 wx=>∃ k:Nat,k+g=j∧s9=.int .i64 (k:Int)∧Hid (Below w2.heap.size w2 wx))
      case atStart=>exact ⟨0,by omega,rfl,HW⟩
      case round=>
       clear HW
       obtain ⟨k,hkg,rfl,HW⟩:=hrel
       cases gk with
       | zero=>
        obtain rfl:j=k:=by omega
        have k2:decide ((j:Int)<(j:Int))=false:=by simp
        go_wp2
        go_roundg g
        case measure=>omega
        case rel=>exact ⟨j+1,by omega,by go_num,HW⟩
       | succ g3=>
        have k2:(k:Int)<(j:Int):=by omega
        have k3:(k:Int)<(m:Int):=by omega
        obtain ⟨y,hy⟩:∃ y,xs[k]?=some y:=⟨_,List.getElem?_eq_getElem (by have:=HM.out;omega)⟩
        have x0:=HCX.out wr HW.out HXJ.out
        have x1:=HCX.out wr HW.out hy
        have q1:=zbU y x
        rw [decide_eq_false (HND.out j k x y HXJ.out hy (by omega))] at q1
        clear hy
        go_wp2
        go_quiet (fail)
        generalize nq=n1
        go_wp2
        go_roundg g3
        case measure=>omega
        case rel=>exact ⟨k+1,by omega,by go_num,hidI (below_drewN HW.out n1)⟩
     | succ g2=>
      have k2:(k:Int)≤3:=by omega
      have x0:=HCX.out wr HW.out HXJ.out
      have C:=hidI (kindOf_any wr v1 ds' (HSE.out wr HW.out) (by omega) x k)
      rw [HKX.out k] at C
      have hwz:=HW.out.size
      go_wp2_with (go_at_call 12;refine C.out.mono ?_;rintro e w3 ⟨rfl,hb3⟩;clear C)
      go_roundg g2
      case measure=>omega
      case rel=>exact ⟨k+1,by omega,by omega,by go_num,hidI (HW.out.trans (hb3.mono hwz))⟩
 ·have hq2:((m:Int)==(q:Int))=true:=by simp;omega
  clear hfl
  have hBsz:=HB.out.size
  have HSE:Hid (∀ W,Below w2.heap.size w2 W→SeesD W v1 ds'):=hidI (fun W hW=>SeesC.below (SeesC.below HV.out HB.out (Nat.le_refl _)) hW (Nat.le_refl _))
  have HCE:Hid (∀ W,Below w2.heap.size w2 W→∀ {j x},xs[j]?=some x→∃ b o cap,Value.slice sa m sc=.slice (some ⟨b,o,none⟩) m cap∧W.cell? ⟨b,o+j,none⟩=some (.string x)):=hidI (fun W hW {j x} hx=>by
   have h:=(SeesC.below HSV.out hW (Nat.le_refl _)).str hx
   rwa [HM.out] at h)
  have HLD:Hid (∀ W,Below w2.heap.size w2 W→Laid W):=hidI (fun W hW=>(HL.out.on HB.out).on hW)
  have HBB:Hid (∀ W,Below w2.heap.size w2 W→Below w1.heap.size w1 W):=hidI (fun W hW=>HB.out.trans (hW.mono HB.out.size))
  clear HB HL HV HSV
  go_wp2
  go_loopg [7] m (fun g s7 wx=>∃ j:Nat,j+g=m∧s7=.int .i64 (j:Int)∧Hid (Below w2.heap.size w2 wx))
  case atStart=>exact ⟨0,by omega,rfl,hidI (Below.refl _ _)⟩
  case round=>
   obtain ⟨j,hjg,rfl,HW⟩:=hrel
   cases gk with
   | zero=>
    obtain rfl:m=j:=by omega
    have k1:decide ((m:Int)<(m:Int))=false:=by simp
    have C:=hidI (HLV.out wr (HLD.out wr HW.out))
    go_wp2_with (go_at_call 10;refine C.out.mono ?_;rintro e w3 ⟨rfl,hb3⟩;clear C)
    go_ret
    exact ⟨rfl,(HBB.out wr HW.out).trans (hb3.mono (HBB.out wr HW.out).size)⟩
   | succ g=>
    have k1:(j:Int)<(m:Int):=by omega
    obtain ⟨x,hx⟩:∃ x,xs[j]?=some x:=⟨_,List.getElem?_eq_getElem (by have:=HM.out;omega)⟩
    obtain ⟨b,o,cap',hav,x0⟩:=HCE.out wr HW.out hx
    obtain ⟨rfl,rfl⟩:sa=some ⟨b,o,none⟩∧sc=cap':=by cases hav;exact ⟨rfl,rfl⟩
    clear hav
    have HCX:Hid (∀ W,Below w2.heap.size w2 W→∀ {j x},xs[j]?=some x→W.cell? ⟨b,o+j,none⟩=some (.string x)):=hidI (fun W hW {j x} hx=>by
     obtain ⟨b',o',cap'',hav,hc⟩:=HCE.out W hW hx
     cases hav
     exact hc)
    have C:=hidI (rname_any x wr)
    rw [(HX.out j x hx).1] at C
    have HKX:Hid (∀ sd,kindD x sd ds'=0):=hidI (HX.out j x hx).2
    have HXJ:=hidI hx
    clear hx
    go_wp2_with (go_at_call 17;refine C.out.mono ?_;rintro e w3 ⟨rfl,rfl⟩;clear C)
    clear x0
    go_loopg [8] 3 (fun g s8 wx=>∃ k:Nat,1≤k∧k+g=4∧s8=.int .u8 (k:Int)∧Hid (Below w2.heap.size w2 wx))
    case atStart=>exact ⟨1,by omega,by omega,rfl,HW⟩
    case round=>
     clear HW
     obtain ⟨k,hk1,hkg,rfl,HW⟩:=hrel
     cases gk with
     | zero=>
      obtain rfl:k=4:=by omega
      clear hk1 hkg
      go_wp2
      go_loopg [9] j (fun g s9 wx=>∃ k:Nat,k+g=j∧s9=.int .i64 (k:Int)∧Hid (Below w2.heap.size w2 wx))
      case atStart=>exact ⟨0,by omega,rfl,HW⟩
      case round=>
       clear HW
       obtain ⟨k,hkg,rfl,HW⟩:=hrel
       cases gk with
       | zero=>
        obtain rfl:j=k:=by omega
        have k2:decide ((j:Int)<(j:Int))=false:=by simp
        go_wp2
        go_roundg g
        case measure=>omega
        case rel=>exact ⟨j+1,by omega,by go_num,HW⟩
       | succ g3=>
        have k2:(k:Int)<(j:Int):=by omega
        have k3:(k:Int)<(m:Int):=by omega
        obtain ⟨y,hy⟩:∃ y,xs[k]?=some y:=⟨_,List.getElem?_eq_getElem (by have:=HM.out;omega)⟩
        have x0:=HCX.out wr HW.out HXJ.out
        have x1:=HCX.out wr HW.out hy
        have q1:=zbU y x
        rw [decide_eq_false (HND.out j k x y HXJ.out hy (by omega))] at q1
        clear hy
        go_wp2
        go_quiet (fail)
        generalize nq=n1
        go_wp2
        go_roundg g3
        case measure=>omega
        case rel=>exact ⟨k+1,by omega,by go_num,hidI (below_drewN HW.out n1)⟩
     | succ g2=>
      have k2:(k:Int)≤3:=by omega
      have x0:=HCX.out wr HW.out HXJ.out
      have C:=hidI (kindOf_any wr v1 ds' (HSE.out wr HW.out) (by omega) x k)
      rw [HKX.out k] at C
      have hwz:=HW.out.size
      go_wp2_with (go_at_call 12;refine C.out.mono ?_;rintro e w3 ⟨rfl,hb3⟩;clear C)
      go_roundg g2
      case measure=>omega
      case rel=>exact ⟨k+1,by omega,by omega,by go_num,hidI (HW.out.trans (hb3.mono hwz))⟩
end Go.Proofs.YtmekkhfohmfjkaaGreatDoor


namespace Go.Proofs.YtmekkhfohmfjkaaGreatDoor
open Go.RowKit Go.Deep Go.MapKept
theorem sees_own {w:World} {base:Nat} {p:PV} (h:OwnP w base p):SeesPv w p where
 d:=zbB (h.own (dRow p) (by simp))
 x:=zbB (h.own (xRow p) (by simp))
 s:=zbB (h.own (sRow p) (by simp))
 m:=zbB (h.own (mRow p) (by simp))
 xk:=fun x hx=>zbB (h.own (kRow x) (by simp only [List.mem_cons,List.mem_append,List.mem_map];exact .inr (.inr (.inr (.inr (.inl ⟨x,hx,rfl⟩))))))
 sa:=fun x hx=>zbB (h.own ⟨x.av,126,6,x.s.acts.length,flatAc x.s.acts⟩ (by simp only [List.mem_cons,List.mem_append,List.mem_flatMap];exact .inr (.inr (.inr (.inr (.inr ⟨x,hx,by simp [sRows]⟩))))))
 st:=fun x hx=>zbB (h.own ⟨x.tv,3,1,x.s.thn.length,intsI x.s.thn⟩ (by simp only [List.mem_cons,List.mem_append,List.mem_flatMap];exact .inr (.inr (.inr (.inr (.inr ⟨x,hx,by simp [sRows]⟩))))))
 se:=fun x hx=>zbB (h.own ⟨x.ev,3,1,x.s.els.length,intsI x.s.els⟩ (by simp only [List.mem_cons,List.mem_append,List.mem_flatMap];exact .inr (.inr (.inr (.inr (.inr ⟨x,hx,by simp [sRows]⟩))))))
def prgB (P:Prg):Bool:=
 decide (P.decls.length≤24∧P.exprs.length≤1000∧P.stmts.length≤1000∧P.main.length≤1000) &&
 (P.decls.all fun d=>decide (d.side<256∧d.kind<256∧d.name.size≤100)) &&
 (P.exprs.all fun x=>decide (x.k<256∧x.of<256∧x.op<256∧x.name.size≤100∧x.kids.length≤1000)) &&
 (P.stmts.all fun s=>decide (s.k<256∧s.op<256∧s.name.size≤100∧s.acts.length≤1000∧s.thn.length≤1000∧s.els.length≤1000) && s.acts.all fun a=>decide (a.k<256∧a.op<256∧a.name.size≤100))
theorem prgB_ok {P:Prg} (h:prgB P=true):PrgOk P∧P.decls.length≤24∧∀ s∈P.stmts,s.acts.length≤1000:=by
 simp only [prgB,Bool.and_eq_true,decide_eq_true_eq,List.all_eq_true] at h
 obtain ⟨⟨⟨⟨h1,h2,h3,h4⟩,hd⟩,hx⟩,hs⟩:=h
 refine ⟨⟨by omega,by omega,by omega,by omega,fun d m => ?_,fun x m => ?_,fun s m => ?_⟩,h1,fun s m=>(hs s m).1.2.2.2.1⟩
 ·obtain ⟨a,b,c⟩:=hd d m
  exact ⟨a,b,by unfold SmlN;omega⟩
 ·obtain ⟨a,b,c,d,e⟩:=hx x m
  exact ⟨a,b,c,by unfold SmlN;omega,by omega⟩
 ·obtain ⟨⟨a,b,c,d,e,f⟩,g⟩:=hs s m
  refine ⟨a,b,by unfold SmlN;omega,by omega,by omega,by omega,fun y hy => ?_⟩
  obtain ⟨a,b,c⟩:=g y hy
  exact ⟨a,b,by unfold SmlN;omega⟩
open Go.RowKit Go.Deep Go.MapKept
theorem ok_prg10:PrgOk prg10:=(prgB_ok (P:=prg10) (by decide +kernel)).1
theorem sound10:soundP prg10=true:=by kernel_rfl
def L1_10:List Value:=[.string ⟨#[97]⟩,.int .u8 ((1:Nat):Int)]
def R10:List (ByteArray × Nat):=[(⟨#[97]⟩,2),(⟨#[98]⟩,1)]
theorem un10:unK prg10.decls (incC (fun _=>0) (⟨#[97]⟩,1))=R10:=by decide +kernel
theorem fresh10:freshL prg10.decls 2=[⟨#[113,48]⟩,⟨#[113,49]⟩]:=by kernel_rfl
theorem kind10:kindD ⟨#[97]⟩ 1 prg10.decls=1:=by kernel_rfl
theorem one10 {p:PV} (h:p.prg=prg10):∃ x s,One p x s∧s.s.name=⟨#[97]⟩∧p.ds=prg10.decls:=by
 unfold PV.prg prg10 at h
 obtain ⟨h1,h2,h3,h4⟩:=Prg.mk.inj h
 obtain ⟨x,hx⟩:∃ x,p.xs=[x]:=by
  have:=congrArg List.length h2
  simp at this
  exact List.length_eq_one_iff.1 this
 obtain ⟨s,hs⟩:∃ s,p.ss=[s]:=by
  have:=congrArg List.length h3
  simp at this
  exact List.length_eq_one_iff.1 this
 rw [hx] at h2
 rw [hs] at h3
 have g2:x.1=_:=List.head_eq_of_cons_eq h2
 have g3:s.s=_:=List.head_eq_of_cons_eq h3
 refine ⟨x,s,⟨hx,hs,by rw [g2],by rw [g3],by rw [g3],by rw [g3];decide⟩,by rw [g3],h1⟩
set_option maxRecDepth 100000 in
set_option maxHeartbeats 8000000 in
theorem live_ok:LiveOk:=by
 intro w hL
 have C:=hidI (source10 w hL)
 have HL:=hidI hL
 clear hL
 go_enter Tryz.func10,Tryz.ntmps10
 go_wp2_with (go_at_call 18;refine Calls.mono C.out ?_;intro e w1 h1;obtain ⟨p,hp,rfl,ho,hb1⟩:=h1;have hsv:=sees_own ho;obtain ⟨_,da,dc,hd,_⟩:=id hsv.d;obtain ⟨_,xa,xc,hx,_⟩:=id hsv.x;obtain ⟨_,sa,sc,hs,_⟩:=id hsv.s;obtain ⟨_,ma,mc,hm,_⟩:=id hsv.m;obtain ⟨nd,hnd⟩:∃ nd,p.ds.length=nd:=⟨_,rfl⟩;obtain ⟨nx,hnx⟩:∃ nx,p.xs.length=nx:=⟨_,rfl⟩;obtain ⟨ns,hns⟩:∃ ns,p.ss.length=ns:=⟨_,rfl⟩;obtain ⟨nm,hnm⟩:∃ nm,p.ms.length=nm:=⟨_,rfl⟩;rw [hnd] at hd;rw [hnx] at hx;rw [hns] at hs;rw [hnm] at hm;rw [show pval p=.agg #[.slice da nd dc,.slice xa nx xc,.slice sa ns sc,.slice ma nm mc] from by rw [pval,hd,hx,hs,hm]];have HP:=hidI hp;have HV:=hidI hsv;have HB1:=hidI hb1;have HD:=hidI hd;have HX:=hidI hx;have HS:=hidI hs;have HM:=hidI hm;clear hp ho hb1 C hsv hd hx hs hm hnd hnx hns hnm)
 obtain ⟨W,hW⟩:∃ W,w1.alloc (.cells #[.slice da nd dc,.slice xa nx xc,.slice sa ns sc,.slice ma nm mc] 47)=W:=⟨_,rfl⟩
 have b0:Below w1.heap.size w1 W:=hW▸belowT
 have cW:∀ (j:Nat) (v:Value),#[Value.slice da nd dc,.slice xa nx xc,.slice sa ns sc,.slice ma nm mc][j]?=some v→W.cell? ⟨w1.heap.size,j,none⟩=some v:=fun j v hj=>by
  rw [←hW,cell_of_row _ w1.heap.size j _ _ (0,0) (MapKept.heap_alloc w1 _).1]
  exact hj
 rw [hW]
 obtain ⟨x,s,hone,hnm,hds⟩:=one10 HP.out
 have hok:PrgOk p.prg:=HP.out▸ok_prg10
 have hso:soundP p.prg=true:=HP.out▸sound10
 have hbw:=HB1.out.trans (b0.mono HB1.out.size)
 have hU:∀ y,Below W.heap.size W y→Calls Tryz.prog 24 #[.agg #[.slice da nd dc,.slice xa nx xc,.slice sa ns sc,.slice ma nm mc]] y fun e y'=>∃ v,e=.returned v∧SeesC y' v 1 2 L1_10∧Below y.heap.size y y':=fun y hy=>by
  have h:=used_one hone hok hso y (HL.out.on (hbw.trans (hy.mono hbw.size))) ((HV.out.below b0).below hy)
  rw [HD.out,HX.out,HS.out,HM.out,hnm] at h
  exact h
 have hN:∀ y,Below W.heap.size W y→Calls Tryz.prog 25 #[.agg #[.slice da nd dc,.slice xa nx xc,.slice sa ns sc,.slice ma nm mc]] y fun e y'=>∃ v,e=.returned v∧SeesC y' v 2 2 (flatKs R10)∧Below y.heap.size y y':=fun y hy=>by
  have h:=unused_one hone hok hso y (HL.out.on (hbw.trans (hy.mono hbw.size))) ((HV.out.below b0).below hy) (by rw [hds];decide) (by
   rw [hds]
   intro d hd
   simp only [prg10,List.mem_cons,List.not_mem_nil,or_false] at hd
   rcases hd with rfl|rfl|rfl<;>exact ⟨by decide,by decide⟩) R10 (by rw [hds,hnm];exact un10)
  rw [HD.out,HX.out,HS.out,HM.out] at h
  exact h
 have HSD:Hid (SeesD W (.slice da nd dc) prg10.decls):=hidI (by
  have h:SeesD W p.dv p.ds:=(HV.out.below b0).d
  rw [HD.out,hds] at h
  exact h)
 have HBW:=hidI hbw
 have c0:=cW 0 _ rfl
 have HC0:=hidI c0
 refine regLvU W w1.heap.size _ _ _ _ L1_10 (flatKs R10) c0 (cW 1 _ rfl) (cW 2 _ rfl) (cW 3 _ rfl) hU hN (fun v1 v2 y h1 h2 hy => ?_)
 have HY:=hidI hy
 have c1:=zaW hy c0
 have HH1:=hidI h1
 have HH2:=hidI h2
 clear hU hN hone hok hso hds hnm hbw c0 cW b0 hW h1 h2 hy HP HV HD HX HS HM
 go_wp2_with (go_at_call 15;refine Calls.mono (fresh_any y _ prg10.decls 2 ⟨by decide,by decide⟩ (HL.out.on (HBW.out.trans (HY.out.mono HBW.out.size))) (SeesC.below HSD.out HY.out (Nat.le_refl _)) (by decide) (by decide +kernel)) ?_;intro e w3 h3;obtain ⟨v3,rfl,h3,hb3⟩:=h3;have HB3:=hidI hb3;have HH3:=hidI h3;clear h3 hb3 c1)
 have hW3:=HY.out.trans (HB3.out.mono HY.out.size)
 obtain ⟨_,ua,uc,rfl,hu⟩:=SeesC.below HH1.out HB3.out (Nat.le_refl _)
 obtain ⟨_,na,nc,rfl,hna⟩:=HH2.out
 obtain ⟨_,fa,fc,rfl,hf⟩:=fresh10▸HH3.out
 obtain ⟨ub,uo,rfl,ucell⟩:∃ b o,ua=some ⟨b,o,none⟩∧∀ (j:Nat) (c:Value),L1_10[j]?=some c→w3.cell? ⟨b,o+j,none⟩=some c:=by
  rcases hu with h|h
  ·simp at h
  ·exact h
 obtain ⟨nb,no,rfl⟩:∃ b o,na=some ⟨b,o,none⟩:=by
  rcases hna with h|⟨b,o,h,_⟩
  ·simp at h
  ·exact ⟨b,o,h⟩
 obtain ⟨fb,fo,rfl,fcell⟩:∃ b o,fa=some ⟨b,o,none⟩∧∀ (j:Nat) (c:Value),(List.map Value.string [(⟨#[113,48]⟩:ByteArray),⟨#[113,49]⟩])[j]?=some c→w3.cell? ⟨b,o+j,none⟩=some c:=by
  rcases hf with h|h
  ·simp at h
  ·exact h
 have hSD3:SeesD w3 (.slice da nd dc) prg10.decls:=SeesC.below HSD.out hW3 (Nat.le_refl _)
 have c3:=zaW hW3 HC0.out
 have u0:=ucell 0 _ rfl
 have u1:=ucell 1 _ rfl
 have f1:=fcell 1 _ rfl
 have HW3:=hidI (HBW.out.trans (hW3.mono HBW.out.size))
 have HKD:Hid (∀ y,Below w3.heap.size w3 y→Calls Tryz.prog 12 #[.slice da nd dc,.agg #[.string ⟨#[97]⟩,.int .u8 1]] y fun e y'=>e=.returned (.int .u8 1)∧Below y.heap.size y y'):=hidI (fun y hy=>by
  have h:=kindOf_any y _ prg10.decls (SeesC.below hSD3 hy (Nat.le_refl _)) (by decide) ⟨#[97]⟩ 1
  rw [kind10] at h
  exact h)
 clear hu ucell hf fcell hSD3 HH1 HH2 HH3 HSD HY hW3 HB3 HBW HL HC0
 refine regLvC w3 w1.heap.size ub uo uc nb no nc fb fo fc nd dc da ⟨#[97]⟩ u0 u1 f1 c3 HKD.out (fun y hy => ?_)
 have HB:=hidI (HW3.out.trans (hy.mono HW3.out.size))
 clear hy u0 u1 f1 c3 HKD HW3
 go_wp2
 go_ret
 exact ⟨rfl,HB.out⟩
open Go.ChangeShapes Go.WideShapes Go.ChangeAt Go.RowKit Go.Deep Go.Joins
instance:Inhabited Dcl:=⟨⟨⟨#[]⟩,0,0⟩⟩
theorem nat_u8 {a:Int} (h:(Lit.int .u8 a).wf=true):∃ n:Nat,a=(n:Int)∧n<256:=by
 have e1:IntKind.u8.min=0:=rfl
 have e2:IntKind.u8.max=255:=rfl
 simp only [Lit.wf,e1,e2,Bool.and_eq_true,decide_eq_true_eq] at h
 exact ⟨a.toNat,by omega,by omega⟩
theorem len3d {α:Type}:∀ {l:List α},l.length=3→∃ a b c,l=[a,b,c]
 | [a,b,c],_=>⟨a,b,c,rfl⟩
theorem weights_in {H:Type} {P:Program} {e:TypeId}:∀ {ds:List (DataW H)} {d:DataW H},d∈ds→∀ n∈d.weights P e,n∈DataW.weightsAll P e ds
 | d0::r,d,hd,n,hn=>by
  simp only [DataW.weightsAll,List.mem_append]
  rcases List.mem_cons.1 hd with rfl|hd
  ·exact .inl hn
  ·exact .inr (weights_in hd n hn)
theorem bytesDcl:Tryz.prog.bytesOf 56=24:=by kernel_rfl
theorem open_decl {H:Type} {enc:TypeId × Value→H} {W:World} {fuel:Nat} {cs:List Value} {x:DataW H × List MemPlace} (hl:cs.length=3) (h:DataW.trod enc Tryz.prog W 0 (fun _=>true) true fuel 56 cs=some x) :
  ∃ y:Dcl,cs=[.string y.name,.int .u8 (y.side:Int),.int .u8 (y.kind:Int)]∧y.side<256∧y.kind<256∧∀ b,(∀ n∈x.1.weights Tryz.prog 56,n≤b)→y.name.size≤b:=by
 obtain ⟨xs,k,_,rfl,_,hxl,hf⟩:=DataW.trod_struct Tryz.underlying56 h
 have g0:=hf 0 { name := "Name",type:=9,offset:=0,embedded:=false,tag := "",pkgPath := "",byteOffset:=0 } rfl
 have g1:=hf 1 { name := "Side",type:=23,offset:=1,embedded:=false,tag := "",pkgPath := "",byteOffset:=16 } rfl
 have g2:=hf 2 { name := "Kind",type:=33,offset:=2,embedded:=false,tag := "",pkgPath := "",byteOffset:=17 } rfl
 rw [show Tryz.prog.cellsOf 9=1 by kernel_rfl] at g0
 rw [show Tryz.prog.cellsOf 23=1 by kernel_rfl] at g1
 rw [show Tryz.prog.cellsOf 33=1 by kernel_rfl] at g2
 obtain ⟨y0,y1,y2,rfl⟩:=len3d (show xs.length=3 from hxl)
 obtain ⟨c0,c1,c2,rfl⟩:=len3d hl
 simp at g0 g1 g2
 obtain ⟨s,h0,hy0,_⟩:=DataW.trod_string Tryz.underlying9 g0
 obtain ⟨a,h1,_,w1⟩:=DataW.trod_int Tryz.underlying23 g1
 obtain ⟨b,h2,_,w2⟩:=DataW.trod_int Tryz.underlying33 g2
 obtain ⟨na,rfl,ha⟩:=nat_u8 w1
 obtain ⟨nb,rfl,hb⟩:=nat_u8 w2
 simp at h0 h1 h2
 subst h0 h1 h2
 refine ⟨⟨s,na,nb⟩,rfl,ha,hb,fun b hb => ?_⟩
 have:=hb s.data.toList.length (by
  simp only [DataW.weights,Tryz.underlying56,List.map_cons,List.map_nil]
  refine DataW.weights_mem_each (j:=0) (t:=9) (d:=y0.1) rfl rfl _ ?_
  rw [hy0]
  simp [DataW.weights])
 simpa using this
theorem flatD_len:∀ l:List Dcl,(flatD l).length=l.length*3
 | []=>rfl
 | d::r=>by
  have:=flatD_len r
  simp only [flatD,List.flatMap_cons,List.length_append,List.length_cons] at this ⊢
  rw [this]
  simp [dcells]
  omega
theorem flatD_at:∀ (l:List Dcl) (i j:Nat) (d:Dcl),l[i]?=some d→j<3→(flatD l)[i*3+j]?=(dcells d)[j]?
 | [],i,j,d,h,_=>by simp at h
 | x::r,0,j,d,h,hj=>by
  obtain rfl:x=d:=by simpa using h
  have hl:j<(dcells x).length:=by simpa [dcells] using hj
  simp only [flatD,List.flatMap_cons,Nat.zero_mul,Nat.zero_add]
  rw [List.getElem?_append_left hl]
 | x::r,i+1,j,d,h,hj=>by
  have h2:=flatD_at r i j d (by simpa using h) hj
  have hl:(dcells x).length=3:=rfl
  simp only [flatD,List.flatMap_cons] at h2 ⊢
  rw [List.getElem?_append_right (by rw [hl];omega),hl,show (i+1)*3+j-3=i*3+j by omega]
  exact h2
set_option maxRecDepth 100000 in
theorem open_decls {H:Type} {enc:TypeId × Value→H} {W:World} {base:Nat} {v:Value} {d:DataW H} {p:List MemPlace} (hv:Value.okWide Tryz.prog W .any base 22 v)
  (h1:DataW.Trod enc Tryz.prog W 0 (fun _=>true) true 22 v d p) (bd:Nat) (hw:∀ n∈d.weights Tryz.prog 22,n≤bd):∃ (a:Option Addr) (n cap:Nat) (ds:List Dcl),v=.slice a n cap∧n≤cap∧cap*24≤bd∧SeesD W (.slice a n cap) ds∧(∀ x∈ds,x.side<256∧x.kind<256)∧∀ x∈ds,x.name.size≤bd:=by
 obtain ⟨ad,len,cap,rfl⟩:=okWide_slice Tryz.underlying22 hv
 obtain ⟨fuel,hf⟩:=h1
 rcases open_slice Tryz.underlying22 hf with ⟨hcs,_⟩|⟨x,l,c,m,n,D,Pl,hcs,_,hl,hm,hmm,hd,hx⟩
 ·simp [Value.cells] at hcs
  obtain ⟨rfl,rfl,rfl⟩:=hcs
  exact ⟨none,0,0,[],rfl,Nat.le_refl _,by omega,⟨rfl,none,0,rfl,.inl rfl⟩,fun x hx=>by simp at hx,fun x hx=>by simp at hx⟩
 ·simp [Value.cells] at hcs
  obtain ⟨rfl,rfl,rfl⟩:=hcs
  have hmc:m=cap:=by simpa using hmm
  subst hmc
  have c3:Tryz.prog.cellsOf 56=3:=by kernel_rfl
  rw [c3] at hx
  simp only [Prod.mk.injEq] at hd
  obtain ⟨rfl,_⟩:=hd
  have each:∀ i,i<m→∃ y:Dcl,(∀ j c,(dcells y)[j]?=some c→W.cell? (x.add (i*3+j))=some c)∧(y.side<256∧y.kind<256)∧(i<len→y.name.size≤bd):=by
   intro i hi
   obtain ⟨cs',h1,h2⟩:=hx i hi
   obtain ⟨_,hlen,hcell⟩:=World.cells?_some h1
   obtain ⟨y,rfl,hs1,hs2,hok⟩:=open_decl hlen h2
   refine ⟨y,fun j c hj => ?_,⟨hs1,hs2⟩,fun hil=>hok _ fun n hn=>hw n ?_⟩
   ·have hj4:=(List.getElem?_eq_some_iff.1 hj).1
    have:=hcell j (by simpa [dcells] using hj4)
    rw [add_add] at this
    rw [this,←hj]
    rfl
   ·simp only [DataW.weights,Tryz.underlying22,List.mem_cons,List.mem_append]
    refine .inr (.inl (weights_in ?_ n hn))
    exact List.mem_map.2 ⟨i,List.mem_range.2 hil,rfl⟩
  obtain ⟨f,hf'⟩:=choose_lt each
  have hlf:((List.range len).map f).length=len:=by simp
  have hget:∀ i,i<len→((List.range len).map f)[i]?=some (f i):=fun i hi=>by
   rw [List.getElem?_map,List.getElem?_range hi]
   rfl
  have hwt:=hw (m*24) (by
   simp only [DataW.weights,Tryz.underlying22,bytesDcl,List.length_map,List.length_range,List.mem_cons]
   exact .inl (by congr 1;omega))
  refine ⟨some x,len,m,(List.range len).map f,rfl,hl,hwt,⟨by rw [flatD_len],some x,m,by rw [hlf],?_⟩,fun y hy => ?_,fun y hy => ?_⟩
  ·rw [hlf]
   by_cases h0:len=0
   ·exact .inl h0
   right
   obtain ⟨b,off,spot⟩:=x
   have hc:=(hf' 0 (by omega)).1 0 _ rfl
   have hspot:spot=none:=by simpa [Addr.add] using World.cell?_spot hc
   subst hspot
   refine ⟨b,off,rfl,fun j y hy => ?_⟩
   have hj:j<len*3:=by have:=(List.getElem?_eq_some_iff.1 hy).1;rw [flatD_len,hlf] at this;exact this
   have h2:=flatD_at _ (j / 3) (j % 3) (f (j / 3)) (hget _ (by omega)) (by omega)
   rw [show j / 3*3+j % 3=j by omega,hy] at h2
   have e:=(hf' (j / 3) (by omega)).1 (j % 3) y h2.symm
   rw [Addr.add_lit,show j / 3*3+j % 3=j by omega] at e
   exact e
  ·obtain ⟨j,hj,rfl⟩:=List.mem_map.1 hy
   have hjl:=List.mem_range.1 hj
   exact (hf' j (by omega)).2.1
  ·obtain ⟨j,hj,rfl⟩:=List.mem_map.1 hy
   have hjl:=List.mem_range.1 hj
   exact (hf' j (by omega)).2.2 hjl
end Go.Proofs.YtmekkhfohmfjkaaGreatDoor
