/-
  Part 23 of the proof: RefParseD, ParseD, KindsD.
-/
import Derived.Test.YtfljimpgnlfipaaGreatDoorTE00
import Derived.PlainAid
import Derived.Lib.ParseIntBTie
import Derived.Test.YtfljimpgnlfipaaGreatDoorTE01
namespace Go.Proofs.YtfljimpgnlfipaaGreatDoor
open Go.RowKit Go.PlainAid
set_option maxHeartbeats 4000000 in
theorem refParse_pos (s:ByteArray) (w:World) (hs:0<s.size) (hbig:s.size≤281474976710656) (q45:(bt s 0==45)=false) :
  Calls Tryz.prog 52 #[.string s] w fun e w'=>e=.returned (.tuple #[.int .i64 (val 0 s.data.toList:Int),.int .i64 0])∧Ok s.data.toList s.data.toList false∧w=w'∨e=.returned (.tuple #[.int .i64 0,.int .i64 3])∧¬ Ok s.data.toList s.data.toList false∧w=w':=by
 have hb:=get_bt s;have hs':(0:Int)<(s.size:Int):=by omega
 by_cases h19:19<s.size
 ·have q19:(19:Int)<(s.size:Int):=by omega
  go_enter Tryz.func52,Tryz.ntmps52;go_wp2;go_ret2;exact .inr ⟨rfl,fun h=>by have:=h.2.1;simp at this;omega,rfl⟩
 have q19:decide ((19:Int)<(s.size:Int))=false:=by simp;omega
 have q1:decide ((s.size:Int)<1)=false:=by simp;omega
 by_cases h48:(bt s 0==48)=true
 ·cases hz:(s.toList==[48])
  ·go_enter Tryz.func52,Tryz.ntmps52;go_wp2;go_ret2;refine .inr ⟨rfl,fun h => ?_,rfl⟩;have:=h.2.2.1 (head_bt' s hs h48);rw [ByteArray.toList_eq,this] at hz;exact absurd hz (by decide)
  have HH:Hid (s.data.toList.head?=some 48→s.data.toList=[48]):=fun _=>by rw [ByteArray.toList_eq] at hz;simpa using hz
  go_enter Tryz.func52,Tryz.ntmps52;go_wp2
  go_loop [6,7] (fun m i=>∃ k:Nat,k≤s.size∧i=.int .i64 k∧m=.int .u64 (val 0 (s.data.toList.take k))∧∀ x∈s.data.toList.take k,Dig x) (fun _ i=>s.size-(intOf i).toNat)
  case atStart=>exact ⟨0,Nat.zero_le _,rfl,rfl,by simp⟩
  case round=>
   obtain ⟨k,hk,rfl,rfl,hdk⟩:=hrel;have HD:Hid (∀ x∈s.data.toList.take k,Dig x):=hdk;clear hdk;by_cases hlt:k<s.size
   ·obtain ⟨c,hc,hbc⟩:=bt_get s k hlt;have HC:Hid (s.data.toList[k]?=some c):=hc;have HBC:Hid (bt s k=(c.toNat:Int)):=hbc;clear hc hbc;have r0:=bt_nonneg s k;have r1:=bt_le s k;by_cases hc0:bt s k<48
    ·go_wp2;go_ret2;refine .inr ⟨rfl,fun h => ?_,rfl⟩;have:=h.2.2.2.1 c (List.mem_of_getElem? HC.out);have hb:=HBC.out;unfold Dig at this;omega
    by_cases hc1:57<bt s k
    ·have q0:decide (bt s k<48)=false:=by simpa using hc0
     go_wp2;go_ret2;refine .inr ⟨rfl,fun h => ?_,rfl⟩;have:=h.2.2.2.1 c (List.mem_of_getElem? HC.out);have hb:=HBC.out;unfold Dig at this;omega
    have q0:decide (bt s k<48)=false:=by simpa using hc0
    have q57:decide (57<bt s k)=false:=by simpa using hc1
    have hst:=step_val (by omega) HC.out HD.out (by rw [←HBC.out];omega) (by rw [←HBC.out];omega);rw [←HBC.out] at hst;obtain ⟨hst1,hst2⟩:=hst;have HST:Hid (∀ x∈s.data.toList.take (k+1),Dig x):=hst2;clear hst2;obtain ⟨vk,hvk⟩:∃ vk:Int,vk=(val 0 (s.data.toList.take k):Int):=⟨_,rfl⟩;obtain ⟨vk1,hvk1⟩:∃ vk1:Int,vk1=(val 0 (s.data.toList.take (k+1)):Int):=⟨_,rfl⟩;rw [←hvk,←hvk1] at hst1;rw [←hvk];have HV1:Hid _:=hvk1;clear hvk hvk1;go_wp2;go_round
    case rel=>exact ⟨k+1,by omega,by go_num,by rw [←HV1.out],HST.out⟩
    case measure=>simp [intOf];omega
   ·have hke:k=s.size:=by omega
    subst hke;have et:s.data.toList.take s.size=s.data.toList:=List.take_of_length_le (by simp);have hd2:=HD.out;rw [et] at hd2;have HD2:Hid (∀ x∈s.data.toList,Dig x):=hd2;clear hd2 HD;rw [et];clear et;have hN:=val_lt s.data.toList HD2.out 0;have hp:10 ^ s.data.toList.length≤10 ^ 19:=Nat.pow_le_pow_right (by decide) (by rw [←Lib.size_eq];omega);have h19':(10:Nat) ^ 19=10000000000000000000:=by decide
    rw [h19'] at hp;clear h19';have hNN:val 0 s.data.toList<10000000000000000000:=by omega
    clear hN hp;obtain ⟨vn,hvn⟩:∃ vn:Int,vn=(val 0 s.data.toList:Int):=⟨_,rfl⟩;rw [←hvn];have hn0:0≤vn:=by omega
    have hn1:vn<10000000000000000000:=by omega
    have HVN:Hid (vn=(val 0 s.data.toList:Int)):=hvn;clear hvn hNN;by_cases hov:9223372036854775807<vn
    ·go_wp2;go_ret2;refine .inr ⟨rfl,fun h => ?_,rfl⟩;have h5:=h.2.2.2.2;have hv:=HVN.out;rw [if_neg (by decide)] at h5;omega
    ·have qov:decide ((9223372036854775807:Int)<vn)=false:=by simpa using hov
     have OKK:Hid (Ok s.data.toList s.data.toList false):=⟨zeK (by omega),by rw [←Lib.size_eq];omega,HH.out,HD2.out,by have hv:=HVN.out;rw [if_neg (by decide)];omega⟩;have EV:Hid (IntKind.i64.wrap vn=vn):=by show _=_;rw [IntKind.wrap_i64];omega
     have ev:=EV.out;go_wp2;go_ret2;exact .inl ⟨by rw [←HVN.out];rfl,OKK.out,rfl⟩
 ·have q48:(bt s 0==48)=false:=by simpa using h48
  clear h48;have HH:Hid (s.data.toList.head?=some 48→s.data.toList=[48]):=fun h=>absurd h (head_bt s hs q48)
  go_enter Tryz.func52,Tryz.ntmps52;go_wp2
  go_loop [6,7] (fun m i=>∃ k:Nat,k≤s.size∧i=.int .i64 k∧m=.int .u64 (val 0 (s.data.toList.take k))∧∀ x∈s.data.toList.take k,Dig x) (fun _ i=>s.size-(intOf i).toNat)
  case atStart=>exact ⟨0,Nat.zero_le _,rfl,rfl,by simp⟩
  case round=>
   obtain ⟨k,hk,rfl,rfl,hdk⟩:=hrel;have HD:Hid (∀ x∈s.data.toList.take k,Dig x):=hdk;clear hdk;by_cases hlt:k<s.size
   ·obtain ⟨c,hc,hbc⟩:=bt_get s k hlt;have HC:Hid (s.data.toList[k]?=some c):=hc;have HBC:Hid (bt s k=(c.toNat:Int)):=hbc;clear hc hbc;have r0:=bt_nonneg s k;have r1:=bt_le s k;by_cases hc0:bt s k<48
    ·go_wp2;go_ret2;refine .inr ⟨rfl,fun h => ?_,rfl⟩;have:=h.2.2.2.1 c (List.mem_of_getElem? HC.out);have hb:=HBC.out;unfold Dig at this;omega
    by_cases hc1:57<bt s k
    ·have q0:decide (bt s k<48)=false:=by simpa using hc0
     go_wp2;go_ret2;refine .inr ⟨rfl,fun h => ?_,rfl⟩;have:=h.2.2.2.1 c (List.mem_of_getElem? HC.out);have hb:=HBC.out;unfold Dig at this;omega
    have q0:decide (bt s k<48)=false:=by simpa using hc0
    have q57:decide (57<bt s k)=false:=by simpa using hc1
    have hst:=step_val (by omega) HC.out HD.out (by rw [←HBC.out];omega) (by rw [←HBC.out];omega);rw [←HBC.out] at hst;obtain ⟨hst1,hst2⟩:=hst;have HST:Hid (∀ x∈s.data.toList.take (k+1),Dig x):=hst2;clear hst2;obtain ⟨vk,hvk⟩:∃ vk:Int,vk=(val 0 (s.data.toList.take k):Int):=⟨_,rfl⟩;obtain ⟨vk1,hvk1⟩:∃ vk1:Int,vk1=(val 0 (s.data.toList.take (k+1)):Int):=⟨_,rfl⟩;rw [←hvk,←hvk1] at hst1;rw [←hvk];have HV1:Hid _:=hvk1;clear hvk hvk1;go_wp2;go_round
    case rel=>exact ⟨k+1,by omega,by go_num,by rw [←HV1.out],HST.out⟩
    case measure=>simp [intOf];omega
   ·have hke:k=s.size:=by omega
    subst hke;have et:s.data.toList.take s.size=s.data.toList:=List.take_of_length_le (by simp);have hd2:=HD.out;rw [et] at hd2;have HD2:Hid (∀ x∈s.data.toList,Dig x):=hd2;clear hd2 HD;rw [et];clear et;have hN:=val_lt s.data.toList HD2.out 0;have hp:10 ^ s.data.toList.length≤10 ^ 19:=Nat.pow_le_pow_right (by decide) (by rw [←Lib.size_eq];omega);have h19':(10:Nat) ^ 19=10000000000000000000:=by decide
    rw [h19'] at hp;clear h19';have hNN:val 0 s.data.toList<10000000000000000000:=by omega
    clear hN hp;obtain ⟨vn,hvn⟩:∃ vn:Int,vn=(val 0 s.data.toList:Int):=⟨_,rfl⟩;rw [←hvn];have hn0:0≤vn:=by omega
    have hn1:vn<10000000000000000000:=by omega
    have HVN:Hid (vn=(val 0 s.data.toList:Int)):=hvn;clear hvn hNN;by_cases hov:9223372036854775807<vn
    ·go_wp2;go_ret2;refine .inr ⟨rfl,fun h => ?_,rfl⟩;have h5:=h.2.2.2.2;have hv:=HVN.out;rw [if_neg (by decide)] at h5;omega
    ·have qov:decide ((9223372036854775807:Int)<vn)=false:=by simpa using hov
     have OKK:Hid (Ok s.data.toList s.data.toList false):=⟨zeK (by omega),by rw [←Lib.size_eq];omega,HH.out,HD2.out,by have hv:=HVN.out;rw [if_neg (by decide)];omega⟩;have EV:Hid (IntKind.i64.wrap vn=vn):=by show _=_;rw [IntKind.wrap_i64];omega
     have ev:=EV.out;go_wp2;go_ret2;exact .inl ⟨by rw [←HVN.out];rfl,OKK.out,rfl⟩
set_option maxHeartbeats 4000000 in
theorem refParse_neg (s d:ByteArray) (w:World) (hs:0<s.size) (hbig:s.size≤281474976710656) (hd:s.extract 1 s.size=d) (q45:(bt s 0==45)=true) :
  Calls Tryz.prog 52 #[.string s] w fun e w'=>e=.returned (.tuple #[.int .i64 (-(val 0 d.data.toList:Int)),.int .i64 0])∧Ok (45::d.data.toList) d.data.toList true∧w=w'∨e=.returned (.tuple #[.int .i64 0,.int .i64 3])∧¬ Ok (45::d.data.toList) d.data.toList true∧w=w':=by
 have hb:=get_bt s;have hbd:=get_bt d;have hs':(0:Int)<(s.size:Int):=by omega
 have hdz:d.size≤s.size:=by rw [←hd];simp
 have hcons:=neg_cons s d hs hd q45;have HCONS:Hid _:=hcons;clear hcons;by_cases hd0:d.size=0
 ·have qd:((d.size:Int)<1):=by omega
  go_enter Tryz.func52,Tryz.ntmps52;go_wp2;go_ret2;refine .inr ⟨rfl,fun h => ?_,rfl⟩;have hz:=Lib.size_eq d;exact h.1 (List.eq_nil_of_length_eq_zero (by omega))
 have hdp:0<d.size:=by omega
 have hdp':(0:Int)<(d.size:Int):=by omega
 have q1:decide ((d.size:Int)<1)=false:=by simp;omega
 by_cases h19:19<d.size
 ·have q19:(19:Int)<(d.size:Int):=by omega
  go_enter Tryz.func52,Tryz.ntmps52;go_wp2;go_ret2;exact .inr ⟨rfl,fun h=>by have:=h.2.1;rw [←Lib.size_eq] at this;omega,rfl⟩
 have q19:decide ((19:Int)<(d.size:Int))=false:=by simp;omega
 by_cases h48:(bt d 0==48)=true
 ·have hz:(s.toList==[48])=false:=by
   rw [ByteArray.toList_eq,HCONS.out];simp
  go_enter Tryz.func52,Tryz.ntmps52;go_wp2;go_ret2;refine .inr ⟨rfl,fun h => ?_,rfl⟩;have:=h.2.2.1 (head_bt' d hdp h48);simp at this
 ·have q48:(bt d 0==48)=false:=by simpa using h48
  clear h48;have HH:Hid (d.data.toList.head?=some 48→(45::d.data.toList)=[48]):=fun h=>absurd h (head_bt d hdp q48)
  go_enter Tryz.func52,Tryz.ntmps52;go_wp2
  go_loop [6,7] (fun m i=>∃ k:Nat,k≤d.size∧i=.int .i64 k∧m=.int .u64 (val 0 (d.data.toList.take k))∧∀ x∈d.data.toList.take k,Dig x) (fun _ i=>d.size-(intOf i).toNat)
  case atStart=>exact ⟨0,Nat.zero_le _,rfl,rfl,by simp⟩
  case round=>
   obtain ⟨k,hk,rfl,rfl,hdk⟩:=hrel;have HD:Hid (∀ x∈d.data.toList.take k,Dig x):=hdk;clear hdk;by_cases hlt:k<d.size
   ·obtain ⟨c,hc,hbc⟩:=bt_get d k hlt;have HC:Hid (d.data.toList[k]?=some c):=hc;have HBC:Hid (bt d k=(c.toNat:Int)):=hbc;clear hc hbc;have r0:=bt_nonneg d k;have r1:=bt_le d k;by_cases hc0:bt d k<48
    ·go_wp2;go_ret2;refine .inr ⟨rfl,fun h => ?_,rfl⟩;have:=h.2.2.2.1 c (List.mem_of_getElem? HC.out);have hb:=HBC.out;unfold Dig at this;omega
    by_cases hc1:57<bt d k
    ·have q0:decide (bt d k<48)=false:=by simpa using hc0
     go_wp2;go_ret2;refine .inr ⟨rfl,fun h => ?_,rfl⟩;have:=h.2.2.2.1 c (List.mem_of_getElem? HC.out);have hb:=HBC.out;unfold Dig at this;omega
    have q0:decide (bt d k<48)=false:=by simpa using hc0
    have q57:decide (57<bt d k)=false:=by simpa using hc1
    have hst:=step_val (by omega) HC.out HD.out (by rw [←HBC.out];omega) (by rw [←HBC.out];omega);rw [←HBC.out] at hst;obtain ⟨hst1,hst2⟩:=hst;have HST:Hid (∀ x∈d.data.toList.take (k+1),Dig x):=hst2;clear hst2;obtain ⟨vk,hvk⟩:∃ vk:Int,vk=(val 0 (d.data.toList.take k):Int):=⟨_,rfl⟩;obtain ⟨vk1,hvk1⟩:∃ vk1:Int,vk1=(val 0 (d.data.toList.take (k+1)):Int):=⟨_,rfl⟩;rw [←hvk,←hvk1] at hst1;rw [←hvk];have HV1:Hid _:=hvk1;clear hvk hvk1;go_wp2;go_round
    case rel=>exact ⟨k+1,by omega,by go_num,by rw [←HV1.out],HST.out⟩
    case measure=>simp [intOf];omega
   ·have hke:k=d.size:=by omega
    subst hke;have et:d.data.toList.take d.size=d.data.toList:=List.take_of_length_le (by simp);have hd2:=HD.out;rw [et] at hd2;have HD2:Hid (∀ x∈d.data.toList,Dig x):=hd2;clear hd2 HD;rw [et];clear et;have hN:=val_lt d.data.toList HD2.out 0;have hp:10 ^ d.data.toList.length≤10 ^ 19:=Nat.pow_le_pow_right (by decide) (by rw [←Lib.size_eq];omega);have h19':(10:Nat) ^ 19=10000000000000000000:=by decide
    rw [h19'] at hp;clear h19';have hNN:val 0 d.data.toList<10000000000000000000:=by omega
    clear hN hp;obtain ⟨vn,hvn⟩:∃ vn:Int,vn=(val 0 d.data.toList:Int):=⟨_,rfl⟩;rw [←hvn];have hn0:0≤vn:=by omega
    have hn1:vn<10000000000000000000:=by omega
    have HVN:Hid (vn=(val 0 d.data.toList:Int)):=hvn;clear hvn hNN;by_cases hov:9223372036854775808<vn
    ·go_wp2;go_ret2;refine .inr ⟨rfl,fun h => ?_,rfl⟩;have h5:=h.2.2.2.2;have hv:=HVN.out;rw [if_pos rfl] at h5;omega
    ·have qov:decide ((9223372036854775808:Int)<vn)=false:=by simpa using hov
     have OKK:Hid (Ok (45::d.data.toList) d.data.toList true):=⟨zeK (by omega),by rw [←Lib.size_eq];omega,HH.out,HD2.out,by have hv:=HVN.out;rw [if_pos rfl];omega⟩;have EV:Hid (IntKind.i64.wrap (IntKind.u64.wrap (-vn)) = -vn):=by show _=_;rw [IntKind.wrap_i64,IntKind.wrap_u64];have hnz:=(ok_neg OKK.out).2;have hv:=HVN.out;omega
     have ev:=EV.out;go_wp2;go_ret2;exact .inl ⟨by rw [←HVN.out];rfl,OKK.out,rfl⟩
open Go.RowKit Go.PlainAid
theorem refParse_empty (s:ByteArray) (w:World) (hs:s.size=0) :
  Calls Tryz.prog 52 #[.string s] w fun e w'=>e=.returned (.tuple #[.int .i64 0,.int .i64 3])∧w=w':=by
 have q:decide ((0:Int)<(s.size:Int))=false:=by rw [hs];rfl
 have q1:((s.size:Int)<1):=by omega
 clear hs;go_enter Tryz.func52,Tryz.ntmps52;go_wp2;go_ret2;exact ⟨rfl,rfl⟩
theorem refParse_yes (s:ByteArray) (hl:s.size≤281474976710656) (v:Int) (hv:In64 v) (h:s.data.toList=Lib.itoa v) (w:World) :
  Calls Tryz.prog 52 #[.string s] w fun e w'=>e=.returned (.tuple #[.int .i64 v,.int .i64 0])∧w=w':=by
 rcases ok_itoa hv.1 hv.2 with ⟨_,hok,hval⟩|⟨_,ds,hds,hok,hval⟩
 ·rw [←h] at hok hval;have hne:=hok.1;obtain ⟨c,r,hcr⟩:∃ c r,s.data.toList=c::r:=by
   cases hx:s.data.toList with
   | nil=>exact absurd hx hne
   | cons c r=>exact ⟨c,r,rfl⟩
  obtain ⟨hs,hb⟩:=bt_head s hcr;have hd:=hok.2.2.2.1 c (by rw [hcr];simp);unfold Dig at hd;have q45:(bt s 0==45)=false:=by rw [hb];simp;omega
  refine (refParse_pos s w hs hl q45).mono ?_;rintro e w' (⟨rfl,_,rfl⟩|⟨_,hn,_⟩)
  ·exact ⟨by rw [hval],rfl⟩
  ·exact absurd hok hn
 ·rw [←h] at hds;obtain ⟨hs,hb⟩:=bt_head s hds;have q45:(bt s 0==45)=true:=by rw [hb];rfl
  have hcons:=neg_cons s _ hs rfl q45;have e:(s.extract 1 s.size).data.toList=ds:=(List.cons.inj (hcons.symm.trans hds)).2;refine (refParse_neg s _ w hs hl rfl q45).mono ?_;rw [e];rintro e w' (⟨rfl,_,rfl⟩|⟨_,hn,_⟩)
  ·exact ⟨by rw [hval],rfl⟩
  ·exact absurd hok hn
theorem refParse_no (s:ByteArray) (hl:s.size≤281474976710656) (h:∀ v,In64 v→s.data.toList≠Lib.itoa v) (w:World) :
  Calls Tryz.prog 52 #[.string s] w fun e w'=>e=.returned (.tuple #[.int .i64 0,.int .i64 3])∧w=w':=by
 by_cases hs0:s.size=0
 ·exact refParse_empty s w hs0
 have hs:0<s.size:=by omega
 cases q45:(bt s 0==45)
 ·refine (refParse_pos s w hs hl q45).mono ?_;rintro e w' (⟨rfl,hok,rfl⟩|⟨rfl,_,rfl⟩)
  ·exfalso;have hb:=hok.2.2.2.2;rw [if_neg (by decide)] at hb;exact h _ (by unfold In64;omega) (ok_pos hok)
  ·exact ⟨rfl,rfl⟩
 ·have hcons:=neg_cons s _ hs rfl q45;refine (refParse_neg s _ w hs hl rfl q45).mono ?_;rintro e w' (⟨rfl,hok,rfl⟩|⟨rfl,_,rfl⟩)
  ·exfalso;have hb:=hok.2.2.2.2;rw [if_pos rfl] at hb;exact h _ (by unfold In64;omega) (hcons.trans (ok_neg hok).1)
  ·exact ⟨rfl,rfl⟩
open Go.RowKit Go.Deep Go.MapKept
open Classical in
open Classical in
open Classical in
theorem rparse_any (s:ByteArray) (hl:s.size≤140737488355328) (w:World):Calls Tryz.prog 52 #[.string s] w fun e w'=>e=.returned (.tuple #[.int .i64 (numV s),.int .i64 (numE s)])∧w=w':=by
 by_cases hn:isNum s
 ·obtain ⟨h1,h2⟩:=numV_in hn;have:=refParse_yes s (by omega) (numV s) h1 h2 w;unfold numE;rw [if_pos hn];exact this
 ·have:=refParse_no s (by omega) (fun v hv e=>hn ⟨v,hv,e⟩) w;unfold numE;rw [if_neg hn,numV_no hn];exact this
set_option maxRecDepth 100000 in
set_option maxHeartbeats 1000000 in
theorem rkind_any (s:ByteArray) (hl:s.size≤140737488355328) (w:World):Calls Tryz.prog 51 #[.string s] w fun e w'=>e=.returned (.int .u8 (kindW s))∧Below w.heap.size w w':=by
 have C:=hidI (rparse_any s hl);have CN:=hidI (rname_any s);obtain ⟨v,hv⟩:∃ v,numV s=v:=⟨_,rfl⟩;rw [hv] at C;by_cases hn:isNum s
 ·have hk:kindW s=4:=by unfold kindW;rw [if_pos hn]
  have he:numE s=0:=by unfold numE;rw [if_pos hn]
  rw [hk];rw [he] at C;clear hk he hn hv;go_enter Tryz.func51,Tryz.ntmps51
  go_wp2_with (go_at_call 52;refine Calls.mono (C.out _) ?_;rintro e w1 ⟨rfl,rfl⟩)
  go_ret;exact ⟨rfl,Below.refl _ _⟩
 ·have he:numE s=3:=by unfold numE;rw [if_neg hn]
  rw [he] at C;cases hm:nameB s with
  | true=>
   have hk:kindW s=3:=by unfold kindW;rw [if_neg hn,hm];simp
   rw [hm] at CN;rw [hk];clear hk he hn hv;go_enter Tryz.func51,Tryz.ntmps51
   go_wp2_with (first|(go_at_call 52;refine Calls.mono (C.out _) ?_;rintro e w1 ⟨rfl,rfl⟩)|(go_at_call 65;refine Calls.mono (CN.out _) ?_;rintro e w1 ⟨rfl,rfl⟩))
   go_ret;exact ⟨rfl,Below.refl _ _⟩
  | false=>
   have hk:kindW s=if opB s then 3 else 0:=by unfold kindW;rw [if_neg hn,hm];simp
   rw [hm] at CN;obtain ⟨K,hK⟩:∃ K,kindW s=K:=⟨_,rfl⟩;rw [hK] at hk ⊢;have HK:=hidI hk;obtain ⟨W,hW⟩:∃ W,w.alloc (.cells #[.string ⟨#[43]⟩,.string ⟨#[45]⟩,.string ⟨#[42]⟩,.string ⟨#[47]⟩,.string ⟨#[37]⟩,.string ⟨#[38]⟩,.string ⟨#[124]⟩,.string ⟨#[94]⟩,.string ⟨#[61]⟩,.string ⟨#[60]⟩] 9)=W:=⟨_,rfl⟩;have hc:=sign_cells w;rw [hW] at hc;have HC:=hidI hc;have HB:Hid (Below w.heap.size w W):=hidI (by rw [←hW];(repeat (first|exact Below.refl _ _|assumption|refine Below.drew ?_|refine Below.alloc ?_ (by first|omega|(simp;done)|(simp;omega)) _|refine Below.setCell ?_ (by first|omega|(simp;done)|(simp;omega)) _)));clear hk hK he hn hv hc hm;go_enter Tryz.func51,Tryz.ntmps51
   go_wp2_with (first|(go_at_call 52;refine Calls.mono (C.out _) ?_;rintro e w1 ⟨rfl,rfl⟩)|(go_at_call 65;refine Calls.mono (CN.out _) ?_;rintro e w1 ⟨rfl,rfl⟩))
   go_loopg [6] 10 (fun g s6 wx=>∃ i:Nat,i+g=10∧s6=.int .i64 i∧W=wx∧Hid (∀ j,j<i→(s.toList==[opc j])=false))
   case atStart=>exact ⟨0,by omega,rfl,rfl,hidI (by simp)⟩
   case round=>
    obtain ⟨i,hig,rfl,rfl,HA⟩:=hrel;cases gk with
    | zero=>
     obtain rfl:i=10:=by omega
     go_wp2;go_ret;refine ⟨?_,HB.out⟩;have:opB s=false:=by
      unfold opB;rw [List.any_eq_false];intro j hj;rw [HA.out j (List.mem_range.1 hj)];decide
     rw [HK.out,this];rfl
    | succ g=>
     have k1:(i:Int)<10:=by omega
     have c0:=HC.out i (by omega);obtain ⟨c,hcc⟩:∃ c,opc i=c:=⟨_,rfl⟩;have HCC:=hidI hcc;rw [hcc] at c0;cases he:(s.toList==[c]) with
     | true=>
      have hq:s.toList=[c]:=by simpa using he
      have hq2:s=⟨#[c]⟩:=by
       rw [ByteArray.toList_eq] at hq;apply ByteArray.ext;apply Array.toList_inj.1;rw [hq]
      have HRES:Hid (opB s=true):=hidI (by
       unfold opB;rw [List.any_eq_true];exact ⟨i,List.mem_range.2 (by omega),by rw [HCC.out];exact he⟩)
      rw [←hq2] at c0;clear hcc hq hq2;go_wp2;go_ret;refine ⟨?_,HB.out⟩;rw [HK.out,HRES.out];rfl
     | false=>
      have hne:((ByteArray.mk #[c]).toList)=[c]:=by rw [ByteArray.toList_eq]
      have he2:(s.toList==(ByteArray.mk #[c]).toList)=false:=by rw [hne];exact he
      have he3:¬ s.toList=[c]:=by simpa using he
      clear hcc;go_wp2;go_roundg g
      case measure=>omega
      case rel=>
       refine ⟨i+1,by omega,by go_num,rfl,hidI fun j hj => ?_⟩;rcases Nat.lt_succ_iff_lt_or_eq.1 hj with h|rfl
       ·exact HA.out j h
       ·rw [HCC.out];exact he
end Go.Proofs.YtfljimpgnlfipaaGreatDoor
