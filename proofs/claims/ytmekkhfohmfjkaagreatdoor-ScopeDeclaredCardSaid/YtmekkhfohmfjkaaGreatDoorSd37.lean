/-
  Part 37 of the proof: FrP, RQ, RFr, FewT, SmT, FrLaw, Clh, ClC, MtA, LvB.
-/
import Derived.Test.YtmekkhfohmfjkaaGreatDoorSd36
import Derived.Laws.Concat
import Derived.Laws.Strings2
import Derived.Deep.QuietTactic
import Derived.BigQuiet
import Derived.Test.YtmekkhfohmfjkaaGreatDoorProg
import Derived.WalkKit
import Derived.Carry
import Derived.OrdersHeld
import Derived.Deep.LoopGhost
import Derived.Deep.OwnRows
import Derived.Deep.AppendLies
import Derived.Deep.RegionHeld3
import Derived.Laws.MakeOwn
import Derived.Laws.ResultCell
import Derived.Laws.StructEq
import Derived.Lib.SmallJoins
import Derived.Lib.SliceRun
import Derived.Lib.QuietBelow
import Derived.WideKeyEntry
import Derived.DeepKeys4
import Derived.Maps.OwnRows
import Derived.StringKeys
import Derived.Test.YtmekkhfohmfjkaaGreatDoorSd35
namespace Go.Proofs.YtmekkhfohmfjkaaGreatDoor
open Go.RowKit Go.Deep Go.MapKept
open Go.ChangeMaps (setBlock heap_setBlock_same heap_setBlock_other)
theorem zero_55 (w:World):(zeroValue 3).run Tryz.prog w=.ok (.int .i64 0) w:=by kernel_rfl
theorem Tryz.info9z:(Tryz.prog.info? 9).map (fun i=>(i.zero,i.size,i.bytes))=some (some (.string ⟨#[]⟩),1,16):=by kernel_rfl
theorem under_55:Tryz.prog.underlying 61=some (.map 9 3):=by kernel_rfl
def FreshPost (ds:List Dcl) (n:Int) (w:World) (e:Ending) (w':World):Prop:=∃ sv,e=.returned sv∧SeesC w' sv (freshL ds n).length 1 ((freshL ds n).map Value.string)∧Below w.heap.size w w'
set_option maxHeartbeats 2000000 in
theorem fresh_any (w:World) (v:Value) (ds:List Dcl) (n:Int) (hn:In64 n) (hL:Laid w) (hv:SeesD w v ds) (hl:ds.length≤1000) (hs:∀ d∈ds,d.name.size≤140737488355328) :
  Calls Tryz.prog 15 #[v,.int .i64 n] w (FreshPost ds n w):=by
 obtain ⟨_,a,cap,rfl,_⟩:=id hv
 have HV:=hidI hv
 have HL:=hidI hL
 have HS:=hidI hs
 have HN:=hidI hn
 obtain ⟨m,hm⟩:∃ m,ds.length=m:=⟨_,rfl⟩
 have HM:=hidI hm
 rw [hm] at hl
 rw [hm]
 clear hv hm hL hs hn
 have hmm:=@run_makeMap Tryz.prog
 go_enter Tryz.func15,Tryz.ntmps15
 go_wp2
 go_loopg [14] m (fun g s14 wx=>∃ j:Nat,j+g=m∧s14=.int .i64 (j:Int)∧Hid (MapG wx w.heap.size (cntF (ds.take j)))∧Hid (Below w.heap.size w wx))
 case atStart=>exact ⟨0,by omega,rfl,hidI (zdB w),hidI ((Below.refl _ _).alloc (Nat.le_refl _) _)⟩
 case round=>
  obtain ⟨j,hjg,rfl,HK,HB⟩:=hrel
  cases gk with
  | zero=>
   obtain rfl:m=j:=by omega
   have k1:decide ((m:Int)<(m:Int))=false:=by simp
   have HK1:Hid (MapG wr w.heap.size (cntF ds)):=hidI (by have:=HK.out;rwa [List.take_of_length_le (by have:=HM.out;omega)] at this)
   clear HK
   have hwr:=HB.out.size
   have hmb:=HK1.out.lt
   go_wp2
   go_loopg [8,9] (m+64) (fun g s8 s9 wx=>∃ i:Nat,i+g=m+64∧s9=.int .i64 (i:Int)∧(frs ds i).length≤(min n 64).toNat∧Hid (wx.ownsRow (w.heap.size+1) 9 1 s8 (frs ds i).length ((frs ds i).map Value.string))∧Hid (MapG wx w.heap.size (cntF ds))∧Hid (Below w.heap.size w wx))
   case atStart=>exact ⟨0,by omega,rfl,Nat.zero_le _,hidI (World.ownsRow_nil _ _ _ _),HK1,HB⟩
   case round=>
    rename_i wr0 _ _ _ _ _ _ _ _
    obtain ⟨i,hig,rfl,hle,HO,HK,HB2⟩:=hrel
    obtain ⟨sa,sc,rfl⟩:=zaE HO.out
    have hmany:=frs_many ds i
    rw [HM.out] at hmany
    have hfl:=frs_le ds i
    obtain ⟨k,hk⟩:∃ k,(frs ds i).length=k:=⟨_,rfl⟩
    rw [hk] at hle hmany hfl
    rw [hk]
    replace HO:Hid (wr.ownsRow (w.heap.size+1) 9 1 (.slice sa k sc) k ((frs ds i).map Value.string)):=hidI (by have:=HO.out;rw [hk] at this;exact this)
    by_cases hg:(k:Int)<min n 64
    ·have C:=hidI (itoa_any (i:Int) wr ⟨by omega,by omega⟩ (HL.out.on HB2.out).tab)
     have hq:(⟨#[113]⟩:ByteArray)++⟨(Lib.itoa (i:Int)).toArray⟩=qn i:=by
      apply ByteArray.ext
      show ((⟨#[113]⟩:ByteArray)++⟨(Lib.itoa (i:Int)).toArray⟩).data=(113::Lib.itoa (i:Int)).toArray
      simp
     have hqs:=qn_size (i:=i) (by omega)
     have hts:(⟨(Lib.itoa (i:Int)).toArray⟩:ByteArray).size≤22:=by
      have:=Lib.itoa_length_le (i:Int) (by omega) (by omega)
      show (Lib.itoa (i:Int)).toArray.size≤22
      simp only [List.size_toArray]
      omega
     have hq3:=tkn_cnt ds i
     have HT:=hidI (cntF_get ds (qn i))
     have HFR:Hid (frs ds (i+1)=if tkn ds i=true then frs ds i else frs ds i++[qn i]):=hidI rfl
     have HADD:Hid (∀ W:World,(Op.stringOp .add ⟨#[113]⟩ ⟨(Lib.itoa (i:Int)).toArray⟩).run Tryz.prog W=.ok (.string (qn i)) W):=hidI (fun W=>by
      rw [run_string_add_sum W _ _ (by
       have h1:(⟨#[113]⟩:ByteArray).size=1:=rfl
       omega),hq])
     clear hq hts
     generalize (⟨(Lib.itoa (i:Int)).toArray⟩:ByteArray)=t at *
     generalize qn i=q at *
     generalize cntD ds q=c at *
     cases ht:tkn ds i with
     | true=>
      rw [ht] at hq3
      simp only [Bool.not_true] at hq3
      have HF1:Hid (frs ds (i+1)=frs ds i):=hidI (by rw [HFR.out,if_pos ht])
      clear ht HFR
      go_wp2_with (go_at_call 26;refine C.out.mono ?_;rintro e w1 ⟨rfl,hb1⟩;clear C;refine Hid.out ?_)
      have HK2:=hidI (HK.out.same (hb1.block _ HK.out.lt))
      have hlk:=look under_55 Tryz.underlying9 zero_55 HK2.out (s:=q) (by unfold maxLen;omega) false
      rw [HT.out] at hlk
      simp only [Bool.false_eq_true,if_false] at hlk
      have hadd:=HADD.out w1
      have HO2:=hidI (zbQ HO.out hb1 (Nat.le_refl _))
      have HB3:=hidI (HB2.out.trans (hb1.mono HB2.out.size))
      clear hb1 HK HO HB2
      refine hidI ?_
      go_wp2
      go_roundg (gk-1)
      case measure=>omega
      case rel=>exact ⟨i+1,by omega,by go_num,by rw [HF1.out,hk];exact hle,hidI (by rw [HF1.out,hk];exact HO2.out),HK2,HB3⟩
     | false=>
      rw [ht] at hq3
      simp only [Bool.not_false] at hq3
      have HF1:Hid (frs ds (i+1)=frs ds i++[q]):=hidI (by rw [HFR.out,if_neg (by rw [ht];decide)])
      clear ht HFR
      go_wp2_with (go_at_call 26;refine C.out.mono ?_;rintro e w1 ⟨rfl,hb1⟩;clear C;refine Hid.out ?_)
      have HK2:=hidI (HK.out.same (hb1.block _ HK.out.lt))
      have hlk:=look under_55 Tryz.underlying9 zero_55 HK2.out (s:=q) (by unfold maxLen;omega) false
      rw [HT.out] at hlk
      simp only [Bool.false_eq_true,if_false] at hlk
      have hadd:=HADD.out w1
      have HO2:=hidI (zbQ HO.out hb1 (Nat.le_refl _))
      have HB3:=hidI (HB2.out.trans (hb1.mono HB2.out.size))
      have hsz1:=HB3.out.size
      have hmb1:=HK2.out.lt
      have HV2:=hidI (zbT w1 9 1 #[.string q] rfl)
      have HO3:=hidI (World.ownsRow.alloc HO2.out (.cells #[.string q] 9))
      clear hb1 HK HO HB2
      refine hidI ?_
      go_wp2_with (at_builtin;go_must (refine zbF Tryz.underlying36 Tryz.info9z rfl (by decide) (by decide) rfl _ _ rfl (w.heap.size+1) (.slice sa k sc) k ((frs ds i).map Value.string) rfl HO3.out _ 1 [.string q] rfl HV2.out (by simp [Value.oneCell']) (by omega) (by simp;omega) ?_);intro v9 w9 hown9 hgrow9 hat9;refine Hid.out ?_)
      have HB9:Hid (Below w.heap.size w w9):=hidI ((HB3.out.alloc hsz1 _).grown hgrow9 (by simp;omega) (fun k hk=>by have:=(HO3.out.lt k hk).1;omega))
      have HK9:Hid (MapG w9 w.heap.size (cntF ds)):=hidI (HK2.out.same ((hgrow9.block _ (by simp;omega) (fun e=>by have:=(HO3.out.lt _ e.symm).1;omega)).trans (((Below.refl w1.heap.size w1).alloc (Nat.le_refl _) (.cells #[.string q] 9)).block _ hmb1)))
      have HO9:Hid (w9.ownsRow (w.heap.size+1) 9 1 v9 (frs ds (i+1)).length ((frs ds (i+1)).map Value.string)):=hidI (by rw [HF1.out,List.length_append,hk,List.map_append];exact hown9)
      clear hown9 hgrow9 hat9 HO2 HO3 HV2 HK2 HB3
      refine hidI ?_
      go_wp2
      go_roundg (gk-1)
      case measure=>omega
      case rel=>exact ⟨i+1,by omega,by go_num,by rw [HF1.out,List.length_append,hk,List.length_singleton];omega,HO9,HK9,HB9⟩
    ·have HZ:Hid (freshL ds n=frs ds i):=hidI (freshL_at (by have:=HM.out;omega) (by omega))
     have HO2:=hidI (zaS HO.out)
     go_wp2
     go_ret
     refine ⟨_,rfl,?_,HB2.out⟩
     rw [HZ.out]
     rw [hk]
     exact HO2.out
  | succ g=>
   have k1:(j:Int)<(m:Int):=by omega
   obtain ⟨d,hd⟩:∃ d,ds[j]?=some d:=⟨_,List.getElem?_eq_getElem (by have:=HM.out;omega)⟩
   obtain ⟨b,o,cap',hav,x0,x1,x2⟩:=HV.out.cell hd
   rw [HM.out] at hav
   cases hav
   have z:∀ {p:Addr} {v:Value},w.cell? p=some v→wr.cell? p=some v:=fun {p v} hc=>(HB.out.cell (World.block_lt_of_cell? w _ hc)).trans hc
   replace x0:=z x0
   replace x1:=z x1
   replace x2:=z x2
   have hsz:d.name.size≤maxLen:=by have:=HS.out d (List.mem_of_getElem? hd);unfold maxLen;omega
   have ha:Below wr.heap.size wr (wr.alloc (.cells #[.string d.name,.int .u8 (d.side:Int),.int .u8 (d.kind:Int)] 56)):=(Below.refl _ _).alloc (Nat.le_refl _) _
   have hM:=HK.out.same (ha.block _ HK.out.lt)
   have hlk:=look under_55 Tryz.underlying9 zero_55 hM hsz false
   rw [cntF_get] at hlk
   simp only [Bool.false_eq_true,if_false] at hlk
   have hc:=cntD_le (ds.take j) d.name
   rw [List.length_take] at hc
   obtain ⟨ob,ho1,_,ho3⟩:=store under_55 Tryz.underlying9 hM hsz (.int .i64 ((cntD (ds.take j) d.name:Int)+1))
   have hst:=ho1 _ rfl
   have HR:Hid (cntF (ds.take (j+1))=upd (cntF (ds.take j)) d.name (.int .i64 ((cntD (ds.take j) d.name:Int)+1))):=hidI (by rw [←cntF_add,List.take_add_one,hd];rfl)
   have HO3:=hidI ho3
   have HM1:=hidI hM
   have hlt:=HB.out.size
   have hmb:=HK.out.lt
   generalize cntD (ds.take j) d.name=c at *
   clear z hd ha hM ho1 ho3 hsz HK
   go_wp2
   go_roundg g
   case measure=>omega
   case rel=>exact ⟨j+1,by omega,by go_num,hidI (by rw [HR.out];exact HO3.out _ (put_same ob HM1.out.lt)),hidI (zdH ob (HB.out.alloc (by omega) _) (Nat.le_refl _))⟩
open Go.RowKit Go.Deep Go.MapKept
def dgt (d:Nat):UInt8:=UInt8.ofNat (48+d)
theorem dgt_ext {d:Nat} (h:d<10):(⟨#[48,49,50,51,52,53,54,55,56,57]⟩:ByteArray).extract d (d+1)=⟨#[dgt d]⟩:=by
 have hm:d=0∨d=1∨d=2∨d=3∨d=4∨d=5∨d=6∨d=7∨d=8∨d=9:=by omega
 rcases hm with rfl|rfl|rfl|rfl|rfl|rfl|rfl|rfl|rfl|rfl<;>(apply ByteArray.ext;decide +kernel)
theorem dec_step {i g:Nat} {rest:List UInt8} (hg:¬ g<10) (h:Lib.decDigits i=(if g<10 then [] else Lib.decDigits (g / 10))++dgt (g % 10)::rest) :
  Lib.decDigits i=(if g / 10<10 then [] else Lib.decDigits (g / 10 / 10))++dgt (g / 10 % 10)::dgt (g % 10)::rest:=by
 rw [h,if_neg hg]
 by_cases h2:g / 10<10
 ·rw [if_pos h2,dec_small h2,Nat.mod_eq_of_lt h2]
  rfl
 ·rw [if_neg h2,dec_big h2]
  simp [dgt]
theorem dec_first (i:Nat):Lib.decDigits i=(if i<10 then [] else Lib.decDigits (i / 10))++[dgt (i % 10)]:=by
 by_cases h2:i<10
 ·rw [if_pos h2,dec_small h2,Nat.mod_eq_of_lt h2]
  rfl
 ·rw [if_neg h2,dec_big h2]
  rfl
set_option maxHeartbeats 1000000 in
theorem rq_any (i:Nat) (hi:i≤100000) (w:World):Calls Tryz.prog 27 #[.int .i64 (i:Int)] w fun e w'=>e=.returned (.string (qn i))∧w'=w:=by
 have hm1:(i:Int).tmod 10=((i % 10:Nat):Int):=by rw [Int.tmod_eq_emod_of_nonneg (by omega)];omega
 have hc1:=dgt_ext (d:=i % 10) (by omega)
 have HD:=hidI (dec_first i)
 have HLN:Hid ((Lib.decDigits i).length≤21):=hidI (by rw [←itoa_nat];exact Lib.itoa_length_le _ (by omega) (by omega))
 go_enter Tryz.func27,Tryz.ntmps27
 go_wp2
 go_loopg [0,3] i (fun g s0 s3 wx=>∃ rest:List UInt8,s0=.int .i64 (g:Int)∧s3=.string ⟨(dgt (g % 10)::rest).toArray⟩∧g≤100000∧Hid (Lib.decDigits i=(if g<10 then [] else Lib.decDigits (g / 10))++dgt (g % 10)::rest)∧wx=w)
 case atStart=>exact ⟨[],rfl,by first|rfl|(rw [hc1]),hi,HD,rfl⟩
 case round=>
  obtain ⟨rest,rfl,rfl,hg,HE,rfl⟩:=hrel
  clear hm1 hc1 HD
  have HRL:Hid (rest.length≤21):=hidI (by have:=HLN.out;rw [HE.out] at this;simp at this;omega)
  by_cases h10:gk<10
  ·have k1:¬ ((10:Int)≤(gk:Int)):=by omega
   have HQ:Hid (qn i=⟨(113::dgt (gk % 10)::rest).toArray⟩):=hidI (by rw [qn,itoa_nat,HE.out,if_pos h10];rfl)
   have hadd:=run_string_add_lists (P:=Tryz.prog) wr [113] (dgt (gk % 10)::rest) (by simp) (by have:=HRL.out;simp;omega)
   simp only [List.singleton_append] at hadd
   change (Op.stringOp .add ⟨#[113]⟩ ⟨(dgt (gk % 10)::rest).toArray⟩).run Tryz.prog wr=_ at hadd
   generalize (⟨(dgt (gk % 10)::rest).toArray⟩:ByteArray)=t at *
   go_wp2
   go_ret
   exact ⟨by rw [HQ.out];rfl,rfl⟩
  ·have k1:(10:Int)≤(gk:Int):=by omega
   have hd1:(gk:Int).tdiv 10=((gk / 10:Nat):Int):=by rw [Int.tdiv_eq_ediv_of_nonneg (by omega)];omega
   have hm1:((gk / 10:Nat):Int).tmod 10=((gk / 10 % 10:Nat):Int):=by rw [Int.tmod_eq_emod_of_nonneg (by omega)];omega
   have HE1:=hidI (dec_step h10 HE.out)
   have hlt:gk / 10<gk:=by omega
   have hle:gk / 10≤100000:=by omega
   have hadd:=run_string_add_lists (P:=Tryz.prog) wr [dgt (gk / 10 % 10)] (dgt (gk % 10)::rest) (by simp) (by have:=HRL.out;simp;omega)
   simp only [List.singleton_append] at hadd
   change (Op.stringOp .add ⟨#[dgt (gk / 10 % 10)]⟩ ⟨(dgt (gk % 10)::rest).toArray⟩).run Tryz.prog wr=_ at hadd
   obtain ⟨g2,hg2⟩:∃ g2,gk / 10=g2:=⟨_,rfl⟩
   rw [hg2] at hd1 hm1 HE1 hlt hle hadd
   have hc1:=dgt_ext (d:=g2 % 10) (by omega)
   have hlt2:g2 % 10<10:=by omega
   clear hg2 HE
   go_wp2
   go_roundg g2
   case measure=>omega
   case rel=>exact ⟨_,rfl,rfl,hle,HE1,rfl⟩
open Go.RowKit Go.Deep Go.MapKept
theorem tkn_add {ds:List Dcl} {j:Nat} {d:Dcl} (h:ds[j]?=some d) (i:Nat):tkn (ds.take (j+1)) i=(tkn (ds.take j) i || decide (d.name=qn i)):=by
 rw [List.take_add_one,h]
 simp [tkn]
set_option maxHeartbeats 4000000 in
theorem rfresh_any (w:World) (v:Value) (ds:List Dcl) (n:Int) (hv:SeesD w v ds) (hl:ds.length≤1000) :
  Calls Tryz.prog 16 #[v,.int .i64 n] w (FreshPost ds n w):=by
 obtain ⟨_,a,cap,rfl,_⟩:=id hv
 have HV:=hidI hv
 obtain ⟨m,hm⟩:∃ m,ds.length=m:=⟨_,rfl⟩
 have HM:=hidI hm
 rw [hm] at hl
 rw [hm]
 clear hv hm
 go_enter Tryz.func16,Tryz.ntmps16
 go_wp2
 go_loopg [5,6] (m+64) (fun g s5 s6 wx=>∃ i:Nat,i+g=m+64∧s6=.int .i64 (i:Int)∧(frs ds i).length≤(min n 64).toNat∧Hid (wx.ownsRow w.heap.size 9 1 s5 (frs ds i).length ((frs ds i).map Value.string))∧Hid (Below w.heap.size w wx))
 case atStart=>exact ⟨0,by omega,rfl,Nat.zero_le _,hidI (World.ownsRow_nil _ _ _ _),hidI (Below.refl _ _)⟩
 case round=>
  obtain ⟨i,hig,rfl,hle,HO,HB⟩:=hrel
  obtain ⟨sa,sc,rfl⟩:=zaE HO.out
  have hmany:=frs_many ds i
  rw [HM.out] at hmany
  have hfl:=frs_le ds i
  obtain ⟨k,hk⟩:∃ k,(frs ds i).length=k:=⟨_,rfl⟩
  rw [hk] at hle hmany hfl
  rw [hk]
  replace HO:Hid (wr.ownsRow w.heap.size 9 1 (.slice sa k sc) k ((frs ds i).map Value.string)):=hidI (by have:=HO.out;rw [hk] at this;exact this)
  by_cases h1:(k:Int)<n
  ·by_cases h2:(k:Int)<64
   ·have h3:(i:Int)<(m:Int)+64:=by omega
    have hwr:=HB.out.size
    obtain ⟨G,hG⟩:∃ G,gk=G:=⟨_,rfl⟩
    go_wp2
    go_loopg [7,8] m (fun g s7 s8 wx=>∃ j:Nat,j+g=m∧s8=.int .i64 (j:Int)∧s7=.bool (tkn (ds.take j) i)∧Hid (wx.ownsRow w.heap.size 9 1 (.slice sa k sc) k ((frs ds i).map Value.string))∧Hid (Below w.heap.size w wx))
    case atStart=>exact ⟨0,by omega,rfl,rfl,HO,HB⟩
    case round=>
     clear HO HB hwr
     obtain ⟨j,hjg,rfl,rfl,HO,HB⟩:=hrel
     have hwr:=HB.out.size
     cases gk with
     | zero=>
      obtain rfl:m=j:=by omega
      have k2:decide ((m:Int)<(m:Int))=false:=by simp
      have e1:ds.take m=ds:=List.take_of_length_le (by have:=HM.out;omega)
      rw [e1]
      have HFR:Hid (frs ds (i+1)=if tkn ds i=true then frs ds i else frs ds i++[qn i]):=hidI rfl
      cases ht:tkn ds i with
      | true=>
       have HF1:Hid (frs ds (i+1)=frs ds i):=hidI (by rw [HFR.out,if_pos ht])
       clear ht HFR e1
       go_wp2
       go_roundg (G-1)
       case measure=>omega
       case rel=>exact ⟨i+1,by omega,by go_num,by rw [HF1.out,hk];exact hle,hidI (by rw [HF1.out,hk];exact HO.out),HB⟩
      | false=>
       have HF1:Hid (frs ds (i+1)=frs ds i++[qn i]):=hidI (by rw [HFR.out,if_neg (by rw [ht];decide)])
       clear ht HFR e1
       have C:=hidI (rq_any i (by omega) wr)
       generalize qn i=q at *
       have HV2:=hidI (zbT wr 9 1 #[.string q] rfl)
       have HO3:=hidI (World.ownsRow.alloc HO.out (.cells #[.string q] 9))
       go_wp2_with (first|(go_at_call 27;refine C.out.mono ?_;rintro e w1 ⟨rfl,rfl⟩;clear C)|(at_builtin;go_must (refine zbF Tryz.underlying36 Tryz.info9z rfl (by decide) (by decide) rfl _ _ rfl w.heap.size (.slice sa k sc) k ((frs ds i).map Value.string) rfl HO3.out _ 1 [.string q] rfl HV2.out (by simp [Value.oneCell']) (by omega) (by simp;omega) ?_);intro v9 w9 hown9 hgrow9 hat9;refine Hid.out ?_))
       have HB9:Hid (Below w.heap.size w w9):=hidI ((HB.out.alloc hwr _).grown hgrow9 (by simp;omega) (fun k hk=>by have:=(HO3.out.lt k hk).1;omega))
       have HO9:Hid (w9.ownsRow w.heap.size 9 1 v9 (frs ds (i+1)).length ((frs ds (i+1)).map Value.string)):=hidI (by rw [HF1.out,List.length_append,hk,List.map_append];exact hown9)
       clear hown9 hgrow9 hat9 HO3 HV2 HB HO
       refine hidI ?_
       go_wp2
       go_roundg (G-1)
       case measure=>omega
       case rel=>exact ⟨i+1,by omega,by go_num,by rw [HF1.out,List.length_append,hk,List.length_singleton];omega,HO9,HB9⟩
     | succ g=>
      have k2:(j:Int)<(m:Int):=by omega
      obtain ⟨d,hd⟩:∃ d,ds[j]?=some d:=⟨_,List.getElem?_eq_getElem (by have:=HM.out;omega)⟩
      obtain ⟨b,o,cap',hav,x0,x1,x2⟩:=HV.out.cell hd
      rw [HM.out] at hav
      cases hav
      replace x0:=(HB.out.cell (World.block_lt_of_cell? w _ x0)).trans x0
      clear x1 x2
      have HT:=hidI (tkn_add hd i)
      clear hd
      cases ht:tkn (ds.take j) i with
      | true=>
       have HT1:Hid (tkn (ds.take (j+1)) i=true):=hidI (by rw [HT.out,ht];rfl)
       clear ht HT
       go_wp2
       go_quiet (fail)
       generalize nq=n1
       go_wp2
       go_roundg g
       case measure=>omega
       case rel=>exact ⟨j+1,by omega,by go_num,by rw [HT1.out],hidI (zbQ HO.out (below_drewN (Below.refl _ _) n1) (Nat.le_refl _)),hidI (below_drewN HB.out n1)⟩
      | false=>
       have HT1:Hid (tkn (ds.take (j+1)) i=decide (d.name=qn i)):=hidI (by rw [HT.out,ht];rfl)
       clear ht HT
       have C:∀ W,Calls Tryz.prog 27 #[.int .i64 (i:Int)] W fun e w'=>e=.returned (.string (qn i))∧w'=W:=fun W=>rq_any i (by omega) W
       generalize qn i=q at *
       have q1:=zbW d.name q
       obtain ⟨bb,hbb⟩:∃ bb,decide (d.name=q)=bb:=⟨_,rfl⟩
       rw [hbb] at q1 HT1
       clear hbb
       go_wp2
       go_quiet ((go_at_call 27;exact Calls.quiet_of_same (C _)))
       generalize nq=n1
       go_wp2
       go_roundg g
       case measure=>omega
       case rel=>exact ⟨j+1,by omega,by go_num,by rw [HT1.out],hidI (zbQ HO.out (below_drewN (Below.refl _ _) n1) (Nat.le_refl _)),hidI (below_drewN HB.out n1)⟩
   ·have HZ:Hid (freshL ds n=frs ds i):=hidI (freshL_at (by have:=HM.out;omega) (by omega))
    have HO2:=hidI (zaS HO.out)
    go_wp2
    go_ret
    refine ⟨_,rfl,?_,HB.out⟩
    rw [HZ.out]
    rw [hk]
    exact HO2.out
  ·have HZ:Hid (freshL ds n=frs ds i):=hidI (freshL_at (by have:=HM.out;omega) (by omega))
   have HO2:=hidI (zaS HO.out)
   go_wp2
   go_ret
   refine ⟨_,rfl,?_,HB.out⟩
   rw [HZ.out]
   rw [hk]
   exact HO2.out
open Go.RowKit Go.Deep Go.MapKept
theorem flatD_take (ds:List Dcl) (k:Nat):flatD (ds.take k)=(flatD ds).take (k*3):=by
 induction ds generalizing k with
 | nil=>simp [flatD]
 | cons d r ih=>
  cases k with
  | zero=>simp [flatD]
  | succ k=>
   have:=ih k
   simp only [flatD,List.take_succ_cons,List.flatMap_cons] at this ⊢
   rw [this,show (k+1)*3=(dcells d).length+k*3 by simp [dcells];omega,List.take_length_add_append]
theorem few_any (w:World) (a:Option Addr) (n cap:Nat) (ds:List Dcl) (hv:SeesD w (.slice a n cap) ds) (hc:n≤cap) (hm:n≤10000000000000) :
  Calls Tryz.prog 7 #[.slice a n cap] w fun e w'=>(∃ v,e=.returned v∧SeesD w v (ds.take 40))∧w'=w:=by
 have hn:ds.length=n:=by obtain ⟨_,a',cap',he,_⟩:=id hv;cases he;rfl
 have HV:=hidI hv
 by_cases h40:n≤40
 ·have HT:Hid (ds.take 40=ds):=hidI (List.take_of_length_le (by omega))
  have k1:¬ ((40:Int)<(n:Int)):=by omega
  clear hv hn
  go_enter Tryz.func7,Tryz.ntmps7
  go_wp2
  go_ret
  exact ⟨⟨_,rfl,by rw [HT.out];exact HV.out⟩,rfl⟩
 ·have k1:(40:Int)<(n:Int):=by omega
  have HR:Hid (SeesD w (.slice a 40 cap) (ds.take 40)):=hidI (by
   obtain ⟨h0,a',cap',he,h1⟩:=hv
   cases he
   refine ⟨?_,a,cap,?_,?_⟩
   ·rw [flatD_take,List.length_take,h0,List.length_take];omega
   ·rw [List.length_take];congr 1;omega
   ·rcases h1 with h1|⟨b,o,hb,h1⟩
    ·omega
    ·refine .inr ⟨b,o,hb,fun j u hj=>h1 j u ?_⟩
     rw [flatD_take,List.getElem?_take] at hj
     split at hj
     ·exact hj
     ·cases hj)
  have hc2:40≤cap:=by omega
  clear hv hn
  go_enter Tryz.func7,Tryz.ntmps7
  go_wp2
  go_ret
  exact ⟨⟨_,rfl,HR.out⟩,rfl⟩
open Go.RowKit Go.Deep Go.MapKept
theorem SeesC.str {w:World} {v:Value} {xs:List ByteArray} (h:SeesC w v xs.length 1 (xs.map Value.string)) {j:Nat} {x:ByteArray} (hx:xs[j]?=some x):∃ b o cap,v=.slice (some ⟨b,o,none⟩) xs.length cap∧w.cell? ⟨b,o+j,none⟩=some (.string x):=by
 have hj:=(List.getElem?_eq_some_iff.1 hx).1
 obtain ⟨_,a,cap,rfl,h0⟩:=h
 rcases h0 with h0|⟨b,o,rfl,hc⟩
 ·omega
 ·exact ⟨b,o,cap,rfl,hc j _ (by simp [hx])⟩
set_option maxHeartbeats 1000000 in
theorem sameTexts_any (w:World) (u v:Value) (xs:List ByteArray) (hu:SeesC w u xs.length 1 (xs.map Value.string)) (hv:SeesC w v xs.length 1 (xs.map Value.string)) (hl:xs.length≤1000) :
  Calls Tryz.prog 14 #[u,v] w fun e w'=>e=.returned (.bool true)∧Below w.heap.size w w':=by
 obtain ⟨_,a,cap,rfl,_⟩:=id hu
 obtain ⟨_,a2,cap2,rfl,_⟩:=id hv
 have HU:=hidI hu
 have HV:=hidI hv
 obtain ⟨m,hm⟩:∃ m,xs.length=m:=⟨_,rfl⟩
 have HM:=hidI hm
 rw [hm] at hl
 rw [hm]
 clear hu hv hm
 have k0:((m:Int)==(m:Int))=true:=by simp
 go_enter Tryz.func14,Tryz.ntmps14
 go_wp2
 go_loopg [5] m (fun g s5 wx=>∃ j:Nat,j+g=m∧s5=.int .i64 (j:Int)∧Hid (Below w.heap.size w wx))
 case atStart=>exact ⟨0,by omega,rfl,hidI (Below.refl _ _)⟩
 case round=>
  obtain ⟨j,hjg,rfl,HB⟩:=hrel
  cases gk with
  | zero=>
   obtain rfl:m=j:=by omega
   have k1:decide ((m:Int)<(m:Int))=false:=by simp
   go_wp2
   go_ret
   exact ⟨rfl,HB.out⟩
  | succ g=>
   have k1:(j:Int)<(m:Int):=by omega
   obtain ⟨x,hx⟩:∃ x,xs[j]?=some x:=⟨_,List.getElem?_eq_getElem (by have:=HM.out;omega)⟩
   obtain ⟨b,o,cap',hav,x0⟩:=HU.out.str hx
   obtain ⟨b2,o2,cap2',hav2,x1⟩:=HV.out.str hx
   rw [HM.out] at hav hav2
   cases hav
   cases hav2
   replace x0:=(HB.out.cell (World.block_lt_of_cell? w _ x0)).trans x0
   replace x1:=(HB.out.cell (World.block_lt_of_cell? w _ x1)).trans x1
   clear hx
   have q1:(x.toList==x.toList)=true:=by simp
   go_wp2
   go_quiet (fail)
   generalize nq=n1
   go_wp2
   go_roundg g
   case measure=>omega
   case rel=>exact ⟨j+1,by omega,by go_num,hidI (below_drewN HB.out n1)⟩
open Go.RowKit Go.Deep Go.MapKept
def LiveOk:Prop:=∀ W,Laid W→Calls Tryz.prog 10 #[] W fun e w'=>e=.returned (.bool true)∧Below W.heap.size W w'
end Go.Proofs.YtmekkhfohmfjkaaGreatDoor


namespace Go.Proofs.YtmekkhfohmfjkaaGreatDoor
open Go.RowKit Go.Deep Go.MapKept
theorem sees_own {w:World} {base:Nat} {p:PV} (h:OwnP w base p):SeesPv w p where
 d:=zaS (h.own (dRow p) (by simp))
 x:=zaS (h.own (xRow p) (by simp))
 s:=zaS (h.own (sRow p) (by simp))
 m:=zaS (h.own (mRow p) (by simp))
 xk:=fun x hx=>zaS (h.own (kRow x) (by simp only [List.mem_cons,List.mem_append,List.mem_map];exact .inr (.inr (.inr (.inr (.inl ⟨x,hx,rfl⟩))))))
 sa:=fun x hx=>zaS (h.own ⟨x.av,126,6,x.s.acts.length,flatAc x.s.acts⟩ (by simp only [List.mem_cons,List.mem_append,List.mem_flatMap];exact .inr (.inr (.inr (.inr (.inr ⟨x,hx,by simp [sRows]⟩))))))
 st:=fun x hx=>zaS (h.own ⟨x.tv,3,1,x.s.thn.length,intsI x.s.thn⟩ (by simp only [List.mem_cons,List.mem_append,List.mem_flatMap];exact .inr (.inr (.inr (.inr (.inr ⟨x,hx,by simp [sRows]⟩))))))
 se:=fun x hx=>zaS (h.own ⟨x.ev,3,1,x.s.els.length,intsI x.s.els⟩ (by simp only [List.mem_cons,List.mem_append,List.mem_flatMap];exact .inr (.inr (.inr (.inr (.inr ⟨x,hx,by simp [sRows]⟩))))))
def prgB (P:Prg):Bool:=
 decide (P.decls.length≤24∧P.exprs.length≤1000∧P.stmts.length≤1000∧P.main.length≤1000) &&
 (P.decls.all fun d=>decide (d.side<256∧d.kind<256∧d.name.size≤100)) &&
 (P.exprs.all fun x=>decide (x.k<256∧x.of<256∧x.op<256∧x.name.size≤100∧x.kids.length≤1000)) &&
 (P.stmts.all fun s=>decide (s.k<256∧s.op<256∧s.name.size≤100∧s.acts.length≤1000∧s.thn.length≤1000∧s.els.length≤1000) && s.acts.all fun a=>decide (a.k<256∧a.op<256∧a.name.size≤100))
theorem prgB_ok {P:Prg} (h:prgB P=true):PrgOk P∧P.decls.length≤24∧∀ s∈P.stmts,s.acts.length≤1000:=by
 simp only [prgB,Bool.and_eq_true,decide_eq_true_eq,List.all_eq_true] at h
 obtain ⟨⟨⟨⟨h1,h2,h3,h4⟩,hd⟩,hx⟩,hs⟩:=h
 refine ⟨⟨by omega,by omega,by omega,by omega,fun d m => ?_,fun x m => ?_,fun s m => ?_⟩,h1,fun s m=>(hs s m).1.2.2.2.1⟩
 ·obtain ⟨a,b,c⟩:=hd d m
  exact ⟨a,b,by unfold SmlN;omega⟩
 ·obtain ⟨a,b,c,d,e⟩:=hx x m
  exact ⟨a,b,c,by unfold SmlN;omega,by omega⟩
 ·obtain ⟨⟨a,b,c,d,e,f⟩,g⟩:=hs s m
  refine ⟨a,b,by unfold SmlN;omega,by omega,by omega,by omega,fun y hy => ?_⟩
  obtain ⟨a,b,c⟩:=g y hy
  exact ⟨a,b,by unfold SmlN;omega⟩
open Go.RowKit Go.Deep Go.MapKept
theorem ok_prg10:PrgOk prg10:=(prgB_ok (P:=prg10) (by decide +kernel)).1
theorem sound10:soundP prg10=true:=by kernel_rfl
def L1_10:List Value:=[.string ⟨#[97]⟩,.int .u8 ((1:Nat):Int)]
def R10:List (ByteArray × Nat):=[(⟨#[97]⟩,2),(⟨#[98]⟩,1)]
theorem un10:unK prg10.decls (incC (fun _=>0) (⟨#[97]⟩,1))=R10:=by decide +kernel
theorem fresh10:freshL prg10.decls 2=[⟨#[113,48]⟩,⟨#[113,49]⟩]:=by kernel_rfl
theorem kind10:kindD ⟨#[97]⟩ 1 prg10.decls=1:=by kernel_rfl
theorem one10 {p:PV} (h:p.prg=prg10):∃ x s,One p x s∧s.s.name=⟨#[97]⟩∧p.ds=prg10.decls:=by
 unfold PV.prg prg10 at h
 obtain ⟨h1,h2,h3,h4⟩:=Prg.mk.inj h
 obtain ⟨x,hx⟩:∃ x,p.xs=[x]:=by
  have:=congrArg List.length h2
  simp at this
  exact List.length_eq_one_iff.1 this
 obtain ⟨s,hs⟩:∃ s,p.ss=[s]:=by
  have:=congrArg List.length h3
  simp at this
  exact List.length_eq_one_iff.1 this
 rw [hx] at h2
 rw [hs] at h3
 have g2:x.1=_:=List.head_eq_of_cons_eq h2
 have g3:s.s=_:=List.head_eq_of_cons_eq h3
 refine ⟨x,s,⟨hx,hs,by rw [g2],by rw [g3],by rw [g3],by rw [g3];decide⟩,by rw [g3],h1⟩
set_option maxRecDepth 100000 in
set_option maxHeartbeats 8000000 in
theorem live_ok:LiveOk:=by
 intro w hL
 have C:=hidI (source10 w hL)
 have HL:=hidI hL
 clear hL
 go_enter Tryz.func10,Tryz.ntmps10
 go_wp2_with (go_at_call 18;refine Calls.mono C.out ?_;intro e w1 h1;obtain ⟨p,hp,rfl,ho,hb1⟩:=h1;have hsv:=sees_own ho;obtain ⟨_,da,dc,hd,_⟩:=id hsv.d;obtain ⟨_,xa,xc,hx,_⟩:=id hsv.x;obtain ⟨_,sa,sc,hs,_⟩:=id hsv.s;obtain ⟨_,ma,mc,hm,_⟩:=id hsv.m;obtain ⟨nd,hnd⟩:∃ nd,p.ds.length=nd:=⟨_,rfl⟩;obtain ⟨nx,hnx⟩:∃ nx,p.xs.length=nx:=⟨_,rfl⟩;obtain ⟨ns,hns⟩:∃ ns,p.ss.length=ns:=⟨_,rfl⟩;obtain ⟨nm,hnm⟩:∃ nm,p.ms.length=nm:=⟨_,rfl⟩;rw [hnd] at hd;rw [hnx] at hx;rw [hns] at hs;rw [hnm] at hm;rw [show pval p=.agg #[.slice da nd dc,.slice xa nx xc,.slice sa ns sc,.slice ma nm mc] from by rw [pval,hd,hx,hs,hm]];have HP:=hidI hp;have HV:=hidI hsv;have HB1:=hidI hb1;have HD:=hidI hd;have HX:=hidI hx;have HS:=hidI hs;have HM:=hidI hm;clear hp ho hb1 C hsv hd hx hs hm hnd hnx hns hnm)
 obtain ⟨W,hW⟩:∃ W,w1.alloc (.cells #[.slice da nd dc,.slice xa nx xc,.slice sa ns sc,.slice ma nm mc] 47)=W:=⟨_,rfl⟩
 have b0:Below w1.heap.size w1 W:=hW▸belowT
 have cW:∀ (j:Nat) (v:Value),#[Value.slice da nd dc,.slice xa nx xc,.slice sa ns sc,.slice ma nm mc][j]?=some v→W.cell? ⟨w1.heap.size,j,none⟩=some v:=fun j v hj=>by
  rw [←hW,cell_of_row _ w1.heap.size j _ _ (0,0) (MapKept.heap_alloc w1 _).1]
  exact hj
 rw [hW]
 obtain ⟨x,s,hone,hnm,hds⟩:=one10 HP.out
 have hok:PrgOk p.prg:=HP.out▸ok_prg10
 have hso:soundP p.prg=true:=HP.out▸sound10
 have hbw:=HB1.out.trans (b0.mono HB1.out.size)
 have hU:∀ y,Below W.heap.size W y→Calls Tryz.prog 24 #[.agg #[.slice da nd dc,.slice xa nx xc,.slice sa ns sc,.slice ma nm mc]] y fun e y'=>∃ v,e=.returned v∧SeesC y' v 1 2 L1_10∧Below y.heap.size y y':=fun y hy=>by
  have h:=used_one hone hok hso y (HL.out.on (hbw.trans (hy.mono hbw.size))) ((HV.out.below b0).below hy)
  rw [HD.out,HX.out,HS.out,HM.out,hnm] at h
  exact h
 have hN:∀ y,Below W.heap.size W y→Calls Tryz.prog 25 #[.agg #[.slice da nd dc,.slice xa nx xc,.slice sa ns sc,.slice ma nm mc]] y fun e y'=>∃ v,e=.returned v∧SeesC y' v 2 2 (flatKs R10)∧Below y.heap.size y y':=fun y hy=>by
  have h:=unused_one hone hok hso y (HL.out.on (hbw.trans (hy.mono hbw.size))) ((HV.out.below b0).below hy) (by rw [hds];decide) (by
   rw [hds]
   intro d hd
   simp only [prg10,List.mem_cons,List.not_mem_nil,or_false] at hd
   rcases hd with rfl|rfl|rfl<;>exact ⟨by decide,by decide⟩) R10 (by rw [hds,hnm];exact un10)
  rw [HD.out,HX.out,HS.out,HM.out] at h
  exact h
 have HSD:Hid (SeesD W (.slice da nd dc) prg10.decls):=hidI (by
  have h:SeesD W p.dv p.ds:=(HV.out.below b0).d
  rw [HD.out,hds] at h
  exact h)
 have HBW:=hidI hbw
 have c0:=cW 0 _ rfl
 have HC0:=hidI c0
 refine regLvU W w1.heap.size _ _ _ _ L1_10 (flatKs R10) c0 (cW 1 _ rfl) (cW 2 _ rfl) (cW 3 _ rfl) hU hN (fun v1 v2 y h1 h2 hy => ?_)
 have HY:=hidI hy
 have c1:=zaJ hy c0
 have HH1:=hidI h1
 have HH2:=hidI h2
 clear hU hN hone hok hso hds hnm hbw c0 cW b0 hW h1 h2 hy HP HV HD HX HS HM
 go_wp2_with (go_at_call 15;refine Calls.mono (fresh_any y _ prg10.decls 2 ⟨by decide,by decide⟩ (HL.out.on (HBW.out.trans (HY.out.mono HBW.out.size))) (SeesC.below HSD.out HY.out (Nat.le_refl _)) (by decide) (by decide +kernel)) ?_;intro e w3 h3;obtain ⟨v3,rfl,h3,hb3⟩:=h3;have HB3:=hidI hb3;have HH3:=hidI h3;clear h3 hb3 c1)
 have hW3:=HY.out.trans (HB3.out.mono HY.out.size)
 obtain ⟨_,ua,uc,rfl,hu⟩:=SeesC.below HH1.out HB3.out (Nat.le_refl _)
 obtain ⟨_,na,nc,rfl,hna⟩:=HH2.out
 obtain ⟨_,fa,fc,rfl,hf⟩:=fresh10▸HH3.out
 obtain ⟨ub,uo,rfl,ucell⟩:∃ b o,ua=some ⟨b,o,none⟩∧∀ (j:Nat) (c:Value),L1_10[j]?=some c→w3.cell? ⟨b,o+j,none⟩=some c:=by
  rcases hu with h|h
  ·simp at h
  ·exact h
 obtain ⟨nb,no,rfl⟩:∃ b o,na=some ⟨b,o,none⟩:=by
  rcases hna with h|⟨b,o,h,_⟩
  ·simp at h
  ·exact ⟨b,o,h⟩
 obtain ⟨fb,fo,rfl,fcell⟩:∃ b o,fa=some ⟨b,o,none⟩∧∀ (j:Nat) (c:Value),(List.map Value.string [(⟨#[113,48]⟩:ByteArray),⟨#[113,49]⟩])[j]?=some c→w3.cell? ⟨b,o+j,none⟩=some c:=by
  rcases hf with h|h
  ·simp at h
  ·exact h
 have hSD3:SeesD w3 (.slice da nd dc) prg10.decls:=SeesC.below HSD.out hW3 (Nat.le_refl _)
 have c3:=zaJ hW3 HC0.out
 have u0:=ucell 0 _ rfl
 have u1:=ucell 1 _ rfl
 have f1:=fcell 1 _ rfl
 have HW3:=hidI (HBW.out.trans (hW3.mono HBW.out.size))
 have HKD:Hid (∀ y,Below w3.heap.size w3 y→Calls Tryz.prog 12 #[.slice da nd dc,.agg #[.string ⟨#[97]⟩,.int .u8 1]] y fun e y'=>e=.returned (.int .u8 1)∧Below y.heap.size y y'):=hidI (fun y hy=>by
  have h:=kindOf_any y _ prg10.decls (SeesC.below hSD3 hy (Nat.le_refl _)) (by decide) ⟨#[97]⟩ 1
  rw [kind10] at h
  exact h)
 clear hu ucell hf fcell hSD3 HH1 HH2 HH3 HSD HY hW3 HB3 HBW HL HC0
 refine regLvC w3 w1.heap.size ub uo uc nb no nc fb fo fc nd dc da ⟨#[97]⟩ u0 u1 f1 c3 HKD.out (fun y hy => ?_)
 have HB:=hidI (HW3.out.trans (hy.mono HW3.out.size))
 clear hy u0 u1 f1 c3 HKD HW3
 go_wp2
 go_ret
 exact ⟨rfl,HB.out⟩
end Go.Proofs.YtmekkhfohmfjkaaGreatDoor
