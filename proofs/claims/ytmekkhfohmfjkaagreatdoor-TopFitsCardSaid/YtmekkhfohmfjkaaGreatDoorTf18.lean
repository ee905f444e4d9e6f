/-
  Part 18 of the proof: TyA, Ord.
-/
import Derived.Test.YtmekkhfohmfjkaaGreatDoorTf16
import Derived.Test.YtmekkhfohmfjkaaGreatDoorTf17
import Derived.Test.YtmekkhfohmfjkaaGreatDoorTf02
namespace Go.Proofs.YtmekkhfohmfjkaaGreatDoor
open Go.RowKit Go.Deep Go.MapKept
abbrev misF (i:Int):List PanicEntry:=[{ v:=.iface 119 (.agg #[.int .i64 i]),recovered:=false }]
structure TyS (c:Nat) (i:Int) (p:PV) (w:World):Prop where
 c0:w.cell? ⟨c,0,none⟩=some p.dv
 c1:w.cell? ⟨c,1,none⟩=some p.xv
 c2:w.cell? ⟨c,2,none⟩=some p.sv
 c3:w.cell? ⟨c,3,none⟩=some p.mv
 c4:w.cell? ⟨c,4,none⟩=some (.int .i64 i)
 s:SeesPv w p
theorem TyS.on {c:Nat} {i:Int} {p:PV} {w w':World} (h:TyS c i p w) (hb:Below w.heap.size w w'):TyS c i p w':=
 ⟨zaJ hb h.c0,zaJ hb h.c1,zaJ hb h.c2,zaJ hb h.c3,zaJ hb h.c4,h.s.below hb⟩
theorem zbS (a:Value) (w:World):Calls Tryz.prog 100 #[a,.bool true] w fun e w'=>e=.returned (.tuple #[])∧w=w':=by
 go_enter Tryz.func100,Tryz.ntmps100
 go_wp2
 go_end0
 exact ⟨rfl,rfl⟩
theorem zbN {c:Nat} {i:Int} {w:World} (h:w.cell? ⟨c,4,none⟩=some (.int .i64 i)):Calls Tryz.prog 100 #[.pointer (some ⟨c,0,none⟩),.bool false] w fun e w'=>e=.panicked (misF i)∧w=w':=by
 go_enter Tryz.func100,Tryz.ntmps100
 go_wp2
 exact ⟨rfl,rfl,rfl⟩
def MPost (i:Int) (b:Bool) (e:Ending):Prop:=if b=true then e=.returned (.tuple #[]) else e=.panicked (misF i)
theorem natU (a b:Nat):((a:Int)==(b:Int))=decide (a=b):=eqU a b
theorem mayS_3_2 (W:World):Calls Tryz.prog 157 #[.int .u8 3,.int .u8 2] W fun e w'=>e=.returned (.bool true)∧W=w':=by
 skip
 go_enter Tryz.func157,Tryz.ntmps157
 go_wp2
 go_ret
 exact ⟨rfl,rfl⟩
theorem mayS_3_3 (W:World):Calls Tryz.prog 157 #[.int .u8 3,.int .u8 3] W fun e w'=>e=.returned (.bool true)∧W=w':=by
 skip
 go_enter Tryz.func157,Tryz.ntmps157
 go_wp2
 go_ret
 exact ⟨rfl,rfl⟩
theorem mayS_3_4 (W:World):Calls Tryz.prog 157 #[.int .u8 3,.int .u8 4] W fun e w'=>e=.returned (.bool false)∧W=w':=by
 skip
 go_enter Tryz.func157,Tryz.ntmps157
 go_wp2
 go_ret
 exact ⟨rfl,rfl⟩
theorem mayS_3_x (w:Nat) (hw:w≠2∧w≠3∧w≠4) (W:World):Calls Tryz.prog 157 #[.int .u8 3,.int .u8 (w:Int)] W fun e w'=>e=.returned (.bool false)∧W=w':=by
 have q2:((w:Int)==2)=false:=by rw [beq_eq_false_iff_ne];omega
 have q3:((w:Int)==3)=false:=by rw [beq_eq_false_iff_ne];omega
 have q4:((w:Int)==4)=false:=by rw [beq_eq_false_iff_ne];omega
 clear hw
 go_enter Tryz.func157,Tryz.ntmps157
 go_wp2
 go_ret
 exact ⟨rfl,rfl⟩
theorem mayS_6_2 (W:World):Calls Tryz.prog 157 #[.int .u8 6,.int .u8 2] W fun e w'=>e=.returned (.bool true)∧W=w':=by
 skip
 go_enter Tryz.func157,Tryz.ntmps157
 go_wp2
 go_ret
 exact ⟨rfl,rfl⟩
theorem mayS_6_3 (W:World):Calls Tryz.prog 157 #[.int .u8 6,.int .u8 3] W fun e w'=>e=.returned (.bool true)∧W=w':=by
 skip
 go_enter Tryz.func157,Tryz.ntmps157
 go_wp2
 go_ret
 exact ⟨rfl,rfl⟩
theorem mayS_6_4 (W:World):Calls Tryz.prog 157 #[.int .u8 6,.int .u8 4] W fun e w'=>e=.returned (.bool false)∧W=w':=by
 skip
 go_enter Tryz.func157,Tryz.ntmps157
 go_wp2
 go_ret
 exact ⟨rfl,rfl⟩
theorem mayS_6_x (w:Nat) (hw:w≠2∧w≠3∧w≠4) (W:World):Calls Tryz.prog 157 #[.int .u8 6,.int .u8 (w:Int)] W fun e w'=>e=.returned (.bool false)∧W=w':=by
 have q2:((w:Int)==2)=false:=by rw [beq_eq_false_iff_ne];omega
 have q3:((w:Int)==3)=false:=by rw [beq_eq_false_iff_ne];omega
 have q4:((w:Int)==4)=false:=by rw [beq_eq_false_iff_ne];omega
 clear hw
 go_enter Tryz.func157,Tryz.ntmps157
 go_wp2
 go_ret
 exact ⟨rfl,rfl⟩
theorem mayS_8_2 (W:World):Calls Tryz.prog 157 #[.int .u8 8,.int .u8 2] W fun e w'=>e=.returned (.bool true)∧W=w':=by
 skip
 go_enter Tryz.func157,Tryz.ntmps157
 go_wp2
 go_ret
 exact ⟨rfl,rfl⟩
theorem mayS_8_3 (W:World):Calls Tryz.prog 157 #[.int .u8 8,.int .u8 3] W fun e w'=>e=.returned (.bool true)∧W=w':=by
 skip
 go_enter Tryz.func157,Tryz.ntmps157
 go_wp2
 go_ret
 exact ⟨rfl,rfl⟩
theorem mayS_8_4 (W:World):Calls Tryz.prog 157 #[.int .u8 8,.int .u8 4] W fun e w'=>e=.returned (.bool false)∧W=w':=by
 skip
 go_enter Tryz.func157,Tryz.ntmps157
 go_wp2
 go_ret
 exact ⟨rfl,rfl⟩
theorem mayS_8_x (w:Nat) (hw:w≠2∧w≠3∧w≠4) (W:World):Calls Tryz.prog 157 #[.int .u8 8,.int .u8 (w:Int)] W fun e w'=>e=.returned (.bool false)∧W=w':=by
 have q2:((w:Int)==2)=false:=by rw [beq_eq_false_iff_ne];omega
 have q3:((w:Int)==3)=false:=by rw [beq_eq_false_iff_ne];omega
 have q4:((w:Int)==4)=false:=by rw [beq_eq_false_iff_ne];omega
 clear hw
 go_enter Tryz.func157,Tryz.ntmps157
 go_wp2
 go_ret
 exact ⟨rfl,rfl⟩
theorem mayS_5_2 (W:World):Calls Tryz.prog 157 #[.int .u8 5,.int .u8 2] W fun e w'=>e=.returned (.bool false)∧W=w':=by
 skip
 go_enter Tryz.func157,Tryz.ntmps157
 go_wp2
 go_ret
 exact ⟨rfl,rfl⟩
theorem mayS_5_3 (W:World):Calls Tryz.prog 157 #[.int .u8 5,.int .u8 3] W fun e w'=>e=.returned (.bool true)∧W=w':=by
 skip
 go_enter Tryz.func157,Tryz.ntmps157
 go_wp2
 go_ret
 exact ⟨rfl,rfl⟩
theorem mayS_5_4 (W:World):Calls Tryz.prog 157 #[.int .u8 5,.int .u8 4] W fun e w'=>e=.returned (.bool true)∧W=w':=by
 skip
 go_enter Tryz.func157,Tryz.ntmps157
 go_wp2
 go_ret
 exact ⟨rfl,rfl⟩
theorem mayS_5_x (w:Nat) (hw:w≠2∧w≠3∧w≠4) (W:World):Calls Tryz.prog 157 #[.int .u8 5,.int .u8 (w:Int)] W fun e w'=>e=.returned (.bool false)∧W=w':=by
 have q2:((w:Int)==2)=false:=by rw [beq_eq_false_iff_ne];omega
 have q3:((w:Int)==3)=false:=by rw [beq_eq_false_iff_ne];omega
 have q4:((w:Int)==4)=false:=by rw [beq_eq_false_iff_ne];omega
 clear hw
 go_enter Tryz.func157,Tryz.ntmps157
 go_wp2
 go_ret
 exact ⟨rfl,rfl⟩
theorem mayS_4_2 (W:World):Calls Tryz.prog 157 #[.int .u8 4,.int .u8 2] W fun e w'=>e=.returned (.bool false)∧W=w':=by
 skip
 go_enter Tryz.func157,Tryz.ntmps157
 go_wp2
 go_ret
 exact ⟨rfl,rfl⟩
theorem mayS_4_3 (W:World):Calls Tryz.prog 157 #[.int .u8 4,.int .u8 3] W fun e w'=>e=.returned (.bool false)∧W=w':=by
 skip
 go_enter Tryz.func157,Tryz.ntmps157
 go_wp2
 go_ret
 exact ⟨rfl,rfl⟩
theorem mayS_4_4 (W:World):Calls Tryz.prog 157 #[.int .u8 4,.int .u8 4] W fun e w'=>e=.returned (.bool true)∧W=w':=by
 skip
 go_enter Tryz.func157,Tryz.ntmps157
 go_wp2
 go_ret
 exact ⟨rfl,rfl⟩
theorem mayS_4_x (w:Nat) (hw:w≠2∧w≠3∧w≠4) (W:World):Calls Tryz.prog 157 #[.int .u8 4,.int .u8 (w:Int)] W fun e w'=>e=.returned (.bool false)∧W=w':=by
 have q2:((w:Int)==2)=false:=by rw [beq_eq_false_iff_ne];omega
 have q3:((w:Int)==3)=false:=by rw [beq_eq_false_iff_ne];omega
 have q4:((w:Int)==4)=false:=by rw [beq_eq_false_iff_ne];omega
 clear hw
 go_enter Tryz.func157,Tryz.ntmps157
 go_wp2
 go_ret
 exact ⟨rfl,rfl⟩
theorem mayS_7_2 (W:World):Calls Tryz.prog 157 #[.int .u8 7,.int .u8 2] W fun e w'=>e=.returned (.bool false)∧W=w':=by
 skip
 go_enter Tryz.func157,Tryz.ntmps157
 go_wp2
 go_ret
 exact ⟨rfl,rfl⟩
theorem mayS_7_3 (W:World):Calls Tryz.prog 157 #[.int .u8 7,.int .u8 3] W fun e w'=>e=.returned (.bool false)∧W=w':=by
 skip
 go_enter Tryz.func157,Tryz.ntmps157
 go_wp2
 go_ret
 exact ⟨rfl,rfl⟩
theorem mayS_7_4 (W:World):Calls Tryz.prog 157 #[.int .u8 7,.int .u8 4] W fun e w'=>e=.returned (.bool true)∧W=w':=by
 skip
 go_enter Tryz.func157,Tryz.ntmps157
 go_wp2
 go_ret
 exact ⟨rfl,rfl⟩
theorem mayS_7_x (w:Nat) (hw:w≠2∧w≠3∧w≠4) (W:World):Calls Tryz.prog 157 #[.int .u8 7,.int .u8 (w:Int)] W fun e w'=>e=.returned (.bool false)∧W=w':=by
 have q2:((w:Int)==2)=false:=by rw [beq_eq_false_iff_ne];omega
 have q3:((w:Int)==3)=false:=by rw [beq_eq_false_iff_ne];omega
 have q4:((w:Int)==4)=false:=by rw [beq_eq_false_iff_ne];omega
 clear hw
 go_enter Tryz.func157,Tryz.ntmps157
 go_wp2
 go_ret
 exact ⟨rfl,rfl⟩
theorem mayS_x_2 (k:Nat) (hk:k≠3∧k≠6∧k≠8∧k≠5∧k≠4∧k≠7) (W:World):Calls Tryz.prog 157 #[.int .u8 (k:Int),.int .u8 2] W fun e w'=>e=.returned (.bool true)∧W=w':=by
 have d3:((k:Int)==3)=false:=by rw [beq_eq_false_iff_ne];omega
 have d4:((k:Int)==4)=false:=by rw [beq_eq_false_iff_ne];omega
 have d5:((k:Int)==5)=false:=by rw [beq_eq_false_iff_ne];omega
 have d6:((k:Int)==6)=false:=by rw [beq_eq_false_iff_ne];omega
 have d7:((k:Int)==7)=false:=by rw [beq_eq_false_iff_ne];omega
 have d8:((k:Int)==8)=false:=by rw [beq_eq_false_iff_ne];omega
 clear hk
 go_enter Tryz.func157,Tryz.ntmps157
 go_wp2
 go_ret
 exact ⟨rfl,rfl⟩
theorem mayS_x_3 (k:Nat) (hk:k≠3∧k≠6∧k≠8∧k≠5∧k≠4∧k≠7) (W:World):Calls Tryz.prog 157 #[.int .u8 (k:Int),.int .u8 3] W fun e w'=>e=.returned (.bool true)∧W=w':=by
 have d3:((k:Int)==3)=false:=by rw [beq_eq_false_iff_ne];omega
 have d4:((k:Int)==4)=false:=by rw [beq_eq_false_iff_ne];omega
 have d5:((k:Int)==5)=false:=by rw [beq_eq_false_iff_ne];omega
 have d6:((k:Int)==6)=false:=by rw [beq_eq_false_iff_ne];omega
 have d7:((k:Int)==7)=false:=by rw [beq_eq_false_iff_ne];omega
 have d8:((k:Int)==8)=false:=by rw [beq_eq_false_iff_ne];omega
 clear hk
 go_enter Tryz.func157,Tryz.ntmps157
 go_wp2
 go_ret
 exact ⟨rfl,rfl⟩
theorem mayS_x_4 (k:Nat) (hk:k≠3∧k≠6∧k≠8∧k≠5∧k≠4∧k≠7) (W:World):Calls Tryz.prog 157 #[.int .u8 (k:Int),.int .u8 4] W fun e w'=>e=.returned (.bool true)∧W=w':=by
 have d3:((k:Int)==3)=false:=by rw [beq_eq_false_iff_ne];omega
 have d4:((k:Int)==4)=false:=by rw [beq_eq_false_iff_ne];omega
 have d5:((k:Int)==5)=false:=by rw [beq_eq_false_iff_ne];omega
 have d6:((k:Int)==6)=false:=by rw [beq_eq_false_iff_ne];omega
 have d7:((k:Int)==7)=false:=by rw [beq_eq_false_iff_ne];omega
 have d8:((k:Int)==8)=false:=by rw [beq_eq_false_iff_ne];omega
 clear hk
 go_enter Tryz.func157,Tryz.ntmps157
 go_wp2
 go_ret
 exact ⟨rfl,rfl⟩
theorem mayS_x_x (k:Nat) (hk:k≠3∧k≠6∧k≠8∧k≠5∧k≠4∧k≠7) (w:Nat) (hw:w≠2∧w≠3∧w≠4) (W:World):Calls Tryz.prog 157 #[.int .u8 (k:Int),.int .u8 (w:Int)] W fun e w'=>e=.returned (.bool true)∧W=w':=by
 have d3:((k:Int)==3)=false:=by rw [beq_eq_false_iff_ne];omega
 have d4:((k:Int)==4)=false:=by rw [beq_eq_false_iff_ne];omega
 have d5:((k:Int)==5)=false:=by rw [beq_eq_false_iff_ne];omega
 have d6:((k:Int)==6)=false:=by rw [beq_eq_false_iff_ne];omega
 have d7:((k:Int)==7)=false:=by rw [beq_eq_false_iff_ne];omega
 have d8:((k:Int)==8)=false:=by rw [beq_eq_false_iff_ne];omega
 have q2:((w:Int)==2)=false:=by rw [beq_eq_false_iff_ne];omega
 have q3:((w:Int)==3)=false:=by rw [beq_eq_false_iff_ne];omega
 have q4:((w:Int)==4)=false:=by rw [beq_eq_false_iff_ne];omega
 clear hk hw
 go_enter Tryz.func157,Tryz.ntmps157
 go_wp2
 go_ret
 exact ⟨rfl,rfl⟩
theorem zbV (k w:Nat) (W:World):Calls Tryz.prog 157 #[.int .u8 (k:Int),.int .u8 (w:Int)] W fun e w'=>e=.returned (.bool (mayS k w))∧W=w':=by
 have hk:k=3∨k=6∨k=8∨k=5∨k=4∨k=7∨(k≠3∧k≠6∧k≠8∧k≠5∧k≠4∧k≠7):=by omega
 have hw:w=2∨w=3∨w=4∨(w≠2∧w≠3∧w≠4):=by omega
 rcases hk with rfl|rfl|rfl|rfl|rfl|rfl|hk
 ·rcases hw with rfl|rfl|rfl|hw
  ·exact mayS_3_2 W
  ·exact mayS_3_3 W
  ·exact mayS_3_4 W
  ·rw [show mayS 3 w=false by simp [mayS,hw]];exact mayS_3_x w hw W
 ·rcases hw with rfl|rfl|rfl|hw
  ·exact mayS_6_2 W
  ·exact mayS_6_3 W
  ·exact mayS_6_4 W
  ·rw [show mayS 6 w=false by simp [mayS,hw]];exact mayS_6_x w hw W
 ·rcases hw with rfl|rfl|rfl|hw
  ·exact mayS_8_2 W
  ·exact mayS_8_3 W
  ·exact mayS_8_4 W
  ·rw [show mayS 8 w=false by simp [mayS,hw]];exact mayS_8_x w hw W
 ·rcases hw with rfl|rfl|rfl|hw
  ·exact mayS_5_2 W
  ·exact mayS_5_3 W
  ·exact mayS_5_4 W
  ·rw [show mayS 5 w=false by simp [mayS,hw]];exact mayS_5_x w hw W
 ·rcases hw with rfl|rfl|rfl|hw
  ·exact mayS_4_2 W
  ·exact mayS_4_3 W
  ·exact mayS_4_4 W
  ·rw [show mayS 4 w=false by simp [mayS,hw]];exact mayS_4_x w hw W
 ·rcases hw with rfl|rfl|rfl|hw
  ·exact mayS_7_2 W
  ·exact mayS_7_3 W
  ·exact mayS_7_4 W
  ·rw [show mayS 7 w=false by simp [mayS,hw]];exact mayS_7_x w hw W
 ·rcases hw with rfl|rfl|rfl|hw
  ·rw [show mayS k 2=true by simp [mayS,hk]];exact mayS_x_2 k hk W
  ·rw [show mayS k 3=true by simp [mayS,hk]];exact mayS_x_3 k hk W
  ·rw [show mayS k 4=true by simp [mayS,hk]];exact mayS_x_4 k hk W
  ·rw [show mayS k w=true by simp [mayS,hk]];exact mayS_x_x k hk w hw W
set_option maxHeartbeats 1000000 in
theorem ceach_any {c:Nat} {i:Int} {w:World} (h:w.cell? ⟨c,4,none⟩=some (.int .i64 i)) (v:Value) (ks:List Nat) (hv:SeesC w v ks.length 1 (ks.map fun (k:Nat)=>Value.int .u8 (k:Int))) (hl:ks.length≤1000) (one:Nat) :
  Calls Tryz.prog 158 #[.pointer (some ⟨c,0,none⟩),v,.int .u8 (one:Int)] w fun e w'=>MPost i (allK one ks) e∧w=w':=by
 obtain ⟨_,a,cap,rfl,hc⟩:=hv
 obtain ⟨n,hn⟩:∃ n,ks.length=n:=⟨_,rfl⟩
 have HC:=hidI hc
 have HN:=hidI hn
 have H:=hidI h
 rw [hn] at hl ⊢
 clear hc hn
 have HOk:=hidI (zbS (.pointer (some ⟨c,0,none⟩)) w)
 have HBad:=hidI (zbN h)
 clear h
 obtain ⟨R,hR⟩:∃ R,allK one ks=R:=⟨_,rfl⟩
 rw [hR]
 have HR:=hidI hR
 clear hR
 go_enter Tryz.func158,Tryz.ntmps158
 go_wp2
 go_loopg [10] n (fun g s10 wx=>∃ j:Nat,j+g=n∧s10=.int .i64 (j:Int)∧Hid (allK one (ks.drop j)=R)∧w=wx)
 case atStart=>exact ⟨0,by omega,rfl,hidI (by simpa using HR.out),rfl⟩
 case round=>
  obtain ⟨j,hj,rfl,HX,rfl⟩:=hrel
  cases gk with
  | zero=>
   obtain rfl:n=j:=by omega
   have k1:decide ((n:Int)<(n:Int))=false:=by simp
   have hX:=HX.out
   rw [List.drop_eq_nil_of_le (by have:=HN.out;omega)] at hX
   have hRt:R=true:=hX.symm
   subst hRt
   clear hX HX HR
   go_wp2
   go_end0
   exact ⟨rfl,rfl⟩
  | succ g=>
   have k1:(j:Int)<(n:Int):=by omega
   obtain ⟨x,hx⟩:∃ x,ks[j]?=some x:=⟨_,List.getElem?_eq_getElem (by have:=HN.out;omega)⟩
   obtain ⟨b,off,rfl,hcell⟩:∃ b off,a=some ⟨b,off,none⟩∧∀ (q:Nat) (z:Value),(ks.map fun (k:Nat)=>Value.int .u8 (k:Int))[q]?=some z→w.cell? ⟨b,off+q,none⟩=some z:=by
    rcases HC.out with h|h
    ·have:=HN.out;omega
    ·exact h
   have hx0:=hcell j (.int .u8 (x:Int)) (by rw [List.getElem?_map,hx];rfl)
   have hX:=HX.out
   rw [List.drop_eq_getElem_cons (by have:=HN.out;omega),show ks[j]'(by have:=HN.out;omega)=x from Option.some.inj ((List.getElem?_eq_getElem _).symm.trans hx)] at hX
   simp only [allK,List.all_cons] at hX
   by_cases hxo:x=one
   ·have e1:((x:Int)==(one:Int))=true:=by rw [natU];simpa using hxo
    rw [decide_eq_true hxo,Bool.true_and] at hX
    have HXX:=hidI hX
    clear hX HX hcell hx hxo
    go_wp2_with (go_at_call 100;refine Calls.mono HOk.out ?_;intro e w2 h2;obtain ⟨rfl,rfl⟩:=h2)
    go_roundg g
    case measure=>omega
    case rel=>exact ⟨j+1,by omega,by go_num,HXX,rfl⟩
   ·have e1:((x:Int)==(one:Int))=false:=by rw [natU];simpa using hxo
    rw [decide_eq_false hxo,Bool.false_and] at hX
    have hRf:R=false:=hX.symm
    subst hRf
    clear hX HX hcell hx hxo HR
    go_wp2_with (go_at_call 100;refine Calls.mono HBad.out ?_;intro e w2 h2;obtain ⟨rfl,rfl⟩:=h2)
    exact ⟨rfl,rfl,rfl⟩
def ROpt (i:Int):Option Nat→Ending→Prop
 | some k,e=>e=.returned (.int .u8 (k:Int))
 | none,e=>e=.panicked (misF i)
set_option maxHeartbeats 1000000 in
theorem zcA {c:Nat} {i:Int} {p:PV} {w:World} (h:TyS c i p w) (hl:p.ds.length≤24) (nm:ByteArray) (sd:Nat) :
  Calls Tryz.prog 96 #[.pointer (some ⟨c,0,none⟩),.string nm,.int .u8 (sd:Int)] w fun e w'=>ROpt i (declK p.ds nm sd) e∧Below w.heap.size w w':=by
 have h0:=h.c0
 have h4:=h.c4
 have C:=hidI (kindOf_any w p.dv p.ds h.s.d (by omega) nm sd)
 obtain ⟨_,a,cap,hd,_⟩:=id h.s.d
 rw [hd] at h0 C
 have H4:=hidI h4
 obtain ⟨k,hk⟩:∃ k,kindD nm sd p.ds=k:=⟨_,rfl⟩
 have HD:Hid (declK p.ds nm sd=if k=0 then none else some k):=hidI (by unfold declK;rw [hk])
 rw [hk] at C
 rw [HD.out]
 have HOk:=hidI (zbS (.pointer (some ⟨c,0,none⟩)))
 clear h hd h4 hl hk HD
 by_cases hk0:k=0
 ·subst hk0
  go_enter Tryz.func96,Tryz.ntmps96
  go_wp2_with (first
   | (go_at_call 12;refine Calls.mono C.out ?_;intro e w1 h1;obtain ⟨rfl,hb1⟩:=h1;clear C;have HB:=hidI hb1;have CM:=hidI (zbN (zaJ hb1 H4.out));clear hb1)
   | (go_at_call 100;refine Calls.mono CM.out ?_;intro e w2 h2;obtain ⟨rfl,rfl⟩:=h2;clear CM))
  exact ⟨rfl,rfl,HB.out⟩
 ·have e1:((k:Int)==0)=false:=by rw [beq_eq_false_iff_ne];omega
  have e2:((k:Int) != 0)=true:=by rw [bne,e1];rfl
  rw [if_neg hk0]
  go_enter Tryz.func96,Tryz.ntmps96
  go_wp2_with (first
   | (go_at_call 12;refine Calls.mono C.out ?_;intro e w1 h1;obtain ⟨rfl,hb1⟩:=h1;clear C;have HB:=hidI hb1;clear hb1)
   | (go_at_call 100;refine Calls.mono (HOk.out _) ?_;intro e w2 h2;obtain ⟨rfl,rfl⟩:=h2;clear HOk))
  go_ret
  exact ⟨rfl,HB.out⟩
def afterOn (o:Oper):List Nat:=(o.after.toList.filter (Region.binds .any)).map (·.on)
def dstOf (ops:Array Oper) (i:Nat):Option Nat:=(ops[i]?).bind (·.dst)
def seqB (ops:Array Oper) (z:Nat):Bool:=
 decide (ops.size=z+1) && (List.range (z+1)).all (fun i=>match ops[i]? with|some o=>(afterOn o).all (fun k=>decide (k<i))|none=>false) &&
  (List.range z).all (fun i=>(List.range (z+1)).any fun j=>decide (i<j) && match ops[j]? with|some o=>(afterOn o).contains i|none=>false)
def dstB (ops:Array Oper) (z n:Nat):Bool:=
 (List.range z).all fun i=>match dstOf ops i with
  | some d=>decide (d<n) && (List.range z).all (fun j=>i==j || !(dstOf ops j==some d))
  | none=>false
structure Fr (ops:Array Oper) (vals:Nat→Value) (z:Nat) (a0 a:Act) (D:Nat→Prop):Prop where
 size:a.tmps.size=a0.tmps.size
 df:a.defers=a0.defers
 old:∀ k,(∀ i,i<z→dstOf ops i≠some k)→a.tmps[k]?=a0.tmps[k]?
 new:∀ j,D j→j<z→∀ d,dstOf ops j=some d→a.tmps[d]?=some (vals j)
def putTo (ops:Array Oper) (vals:Nat→Value) (a0:Act):Nat→Act
 | 0=>a0
 | m+1=>(putTo ops vals a0 m).put (dstOf ops m) (vals m)
theorem act_ext {a b:Act} (h1:a.tmps=b.tmps) (h2:a.defers=b.defers):a=b:=by cases a;cases b;cases h1;cases h2;rfl
theorem zcK {o:Oper} {k:Nat}:k∈afterOn o↔∃ e∈o.after,Region.binds .any e=true∧e.on=k:=by
 unfold afterOn
 simp only [List.mem_map,List.mem_filter,Array.mem_toList_iff]
 constructor
 ·rintro ⟨e,⟨h1,h2⟩,h3⟩;exact ⟨e,h1,h2,h3⟩
 ·rintro ⟨e,h1,h2,h3⟩;exact ⟨e,⟨h1,h2⟩,h3⟩
structure SeqOk (ops:Array Oper) (z n:Nat):Prop where
 size:ops.size=z+1
 back:∀ i o,ops[i]?=some o→∀ k∈afterOn o,k<i
 fore:∀ i,i<z→∃ j o,i<j∧j≤z∧ops[j]?=some o∧i∈afterOn o
 dst:∀ i,i<z→∃ d,dstOf ops i=some d∧d<n∧∀ j,j<z→j≠i→dstOf ops j≠some d
theorem seqOk {ops:Array Oper} {z n:Nat} (h:seqB ops z=true) (hd:dstB ops z n=true):SeqOk ops z n:=by
 unfold seqB at h
 simp only [Bool.and_eq_true,decide_eq_true_eq,List.all_eq_true,List.mem_range,List.any_eq_true] at h
 obtain ⟨⟨h1,h2⟩,h3⟩:=h
 refine ⟨h1,?_,?_,?_⟩
 ·intro i o ho k hk
  have hi:i<ops.size:=(Array.getElem?_eq_some_iff.1 ho).1
  have:=h2 i (by omega)
  rw [ho] at this
  exact of_decide_eq_true (List.all_eq_true.1 this k hk)
 ·intro i hi
  obtain ⟨j,hj,hx⟩:=h3 i hi
  cases ho:ops[j]? with
  | none=>rw [ho] at hx;simp at hx
  | some o=>
   rw [ho] at hx
   simp only [List.contains_iff_mem] at hx
   exact ⟨j,o,hx.1,by omega,ho,hx.2⟩
 ·intro i hi
  unfold dstB at hd
  have:=List.all_eq_true.1 hd i (List.mem_range.2 hi)
  cases hdi:dstOf ops i with
  | none=>rw [hdi] at this;cases this
  | some d=>
   rw [hdi] at this
   simp only [Bool.and_eq_true,decide_eq_true_eq,List.all_eq_true,List.mem_range,Bool.or_eq_true,beq_iff_eq,Bool.not_eq_true'] at this
   refine ⟨d,rfl,this.1,fun j hj hji e => ?_⟩
   rcases this.2 j hj with e'|e'
   ·exact hji e'.symm
   ·rw [e] at e';simp at e'
theorem put_size (a:Act) (d:Option Nat) (v:Value):(a.put d v).tmps.size=a.tmps.size:=by cases d<;>simp [Act.put]
theorem put_df (a:Act) (d:Option Nat) (v:Value):(a.put d v).defers=a.defers:=by cases d<;>rfl
theorem zcJ (a:Act) (d k:Nat) (v:Value):(a.put (some d) v).tmps[k]?=if d=k then (if d<a.tmps.size then some v else none) else a.tmps[k]?:=by
 simp only [Act.put,Array.getElem?_setIfInBounds]
theorem putTo_size (ops:Array Oper) (vals:Nat→Value) (a0:Act):∀ m,(putTo ops vals a0 m).tmps.size=a0.tmps.size
 | 0=>rfl
 | m+1=>by simp only [putTo];rw [put_size,putTo_size ops vals a0 m]
theorem putTo_df (ops:Array Oper) (vals:Nat→Value) (a0:Act):∀ m,(putTo ops vals a0 m).defers=a0.defers
 | 0=>rfl
 | m+1=>by simp only [putTo];rw [put_df,putTo_df ops vals a0 m]
theorem putTo_old (ops:Array Oper) (vals:Nat→Value) (a0:Act) (k:Nat):∀ m,(∀ i,i<m→dstOf ops i≠some k)→(putTo ops vals a0 m).tmps[k]?=a0.tmps[k]?
 | 0,_=>rfl
 | m+1,h=>by
  simp only [putTo]
  have ih:=putTo_old ops vals a0 k m (fun i hi=>h i (by omega))
  cases hd:dstOf ops m with
  | none=>exact ih
  | some d=>
   rw [zcJ,if_neg (fun e=>h m (by omega) (by rw [hd,e]))]
   exact ih
theorem putTo_new {ops:Array Oper} {z:Nat} (vals:Nat→Value) (a0:Act) (hok:SeqOk ops z a0.tmps.size) {i d:Nat} (hd:dstOf ops i=some d):∀ m,i<m→m≤z→(putTo ops vals a0 m).tmps[d]?=some (vals i)
 | 0,h,_=>absurd h (by omega)
 | m+1,h,hm=>by
  simp only [putTo]
  obtain ⟨d',hd',hlt,hne⟩:=hok.dst i (by omega)
  obtain rfl:d=d':=by rw [hd] at hd';exact Option.some.inj hd'
  by_cases him:i=m
  ·subst him
   rw [hd,zcJ,if_pos rfl,putTo_size,if_pos hlt]
  ·have ih:=putTo_new vals a0 hok hd m (by omega) (by omega)
   cases hdm:dstOf ops m with
   | none=>exact ih
   | some d2=>
    rw [zcJ,if_neg (fun e=>hne m (by omega) (Ne.symm him) (by rw [hdm,e]))]
    exact ih
theorem fr_all {ops:Array Oper} {vals:Nat→Value} {z:Nat} {a0 a:Act} (hok:SeqOk ops z a0.tmps.size) {D:Nat→Prop} (h:Fr ops vals z a0 a D) (hD:∀ j,j<z→D j):a=putTo ops vals a0 z:=by
 refine act_ext (Array.ext_getElem? fun k => ?_) (h.df.trans (putTo_df ops vals a0 z).symm)
 by_cases hk:∃ i,i<z∧dstOf ops i=some k
 ·obtain ⟨i,hi,hd⟩:=hk
  rw [h.new i (hD i hi) hi k hd,putTo_new vals a0 hok hd z hi (Nat.le_refl _)]
 ·have hk':∀ i,i<z→dstOf ops i≠some k:=fun i hi e=>hk ⟨i,hi,e⟩
  rw [h.old k hk',putTo_old ops vals a0 k z hk']
theorem zcD {l:Array Bool} {i:Nat} (h:l[i]?=some false):(l.setIfInBounds i true).toList.count false+1=l.toList.count false:=by
 have hi:i<l.toList.length:=by have:=(Array.getElem?_eq_some_iff.1 h).1;simpa using this
 have he:l.toList[i]=false:=by
  have:=(Array.getElem?_eq_some_iff.1 h).2
  simpa using this
 have h1:1≤l.toList.count false:=List.one_le_count_iff.2 (he▸List.getElem_mem hi)
 have h2:=List.count_set (a:=true) (b:=false) hi
 rw [he] at h2
 rw [Array.toList_setIfInBounds,h2]
 have e1:((false==false)=true):=rfl
 have e2:¬ ((true==false)=true):=by decide
 rw [if_pos e1,if_neg e2]
 omega
theorem zaD {o:Oper} {y:Nat→Option Bool} (h:o.guard=none):Region.wanted o y=true:=by
 unfold Region.wanted
 rw [h]
theorem st_pos {c:Bool} {p q:Prop} (h:c=true) (hp:p):if c=true then p else q:=by rw [if_pos h];exact hp
theorem st_neg {c:Bool} {p q:Prop} (h:c=false) (hq:q):if c=true then p else q:=by rw [if_neg (by rw [h];decide)];exact hq
theorem old_of {ops:Array Oper} {z k:Nat} (h:((List.range z).all fun i => !(dstOf ops i==some k))=true):∀ i,i<z→dstOf ops i≠some k:=by
 intro i hi e
 have:=List.all_eq_true.1 h i (List.mem_range.2 hi)
 rw [e] at this
 simp at this
theorem so {x:Option Oper} {o p:Oper} (h:x=some o) (k:x=some p):o=p:=Option.some.inj (h.symm.trans k)
theorem Fr.nw {ops:Array Oper} {vals:Nat→Value} {z:Nat} {a0 a:Act} {o:Oper} (hF:Fr ops vals z a0 a (·∈afterOn o)) (j d:Nat) (h:((afterOn o).contains j && decide (j<z) && (dstOf ops j==some d))=true:=by kernel_rfl):a.tmps[d]?=some (vals j):=by
 simp only [Bool.and_eq_true,decide_eq_true_eq,beq_iff_eq] at h
 exact hF.new j (List.contains_iff_mem.1 h.1.1) h.1.2 d h.2
theorem Fr.ev {ops:Array Oper} {vals:Nat→Value} {z:Nat} {a0 a:Act} {o:Oper} (hF:Fr ops vals z a0 a (·∈afterOn o)) (j d:Nat) (h:((afterOn o).contains j && decide (j<z) && (dstOf ops j==some d))=true:=by kernel_rfl):a.eval (.tmp d)=vals j:=zaP (hF.nw j d h)
theorem Fr.od {ops:Array Oper} {vals:Nat→Value} {z:Nat} {a0 a:Act} {D:Nat→Prop} (hF:Fr ops vals z a0 a D) (k:Nat) {v:Value} (e:a0.tmps[k]?=some v) (h:((List.range z).all fun i => !(dstOf ops i==some k))=true:=by kernel_rfl):a.eval (.tmp k)=v:=zaP ((hF.old k (old_of h)).trans e)
theorem zbF {P:Program} {Q:Exit→Act→World→Prop} {o:Oper} {a:Act} {w:World} {K:Act→World→Prop} {v:Value} (hr:(execOp a.eval o).run P w=.ok (.value v) w) (hk:K (a.put o.dst v) w):o.wp P a w K Q:=by
 unfold Oper.wp
 rw [hr,Oper.upon_value]
 exact hk
theorem zaS {P:Program} {Q:Exit→Act→World→Prop} {o:Oper} {a:Act} {w:World} {K:Act→World→Prop} {v:Value} {y:Nat→Option Bool} {q:Prop} (hg:o.guard=none) (hr:(execOp a.eval o).run P w=.ok (.value v) w) (hk:K (a.put o.dst v) w):if Region.wanted o y=true then o.wp P a w K Q else q:=st_pos (zaD hg) (zbF hr hk)
theorem zbR {ops:Array Oper} {o:Oper} {a:Act} {g d:Nat} {b:Bool} {p q:Prop} (hg:o.guard=some (g,b)) (hv:a.tmps[d]?=some (.bool b)) (hp:p) (hd:dstOf ops g=some d:=by kernel_rfl):if Region.wanted o (yielded ops a.tmps)=true then p else q:=by
 refine st_pos ?_ hp
 unfold Region.wanted
 rw [hg]
 show (yielded ops a.tmps g==some b)=true
 rw [yl_of hd hv]
 simp
theorem zbU {ops:Array Oper} {o:Oper} {a:Act} {g d:Nat} {b:Bool} {p q:Prop} (hg:o.guard=some (g,b)) (hv:a.tmps[d]?=some (.bool !b)) (hq:q) (hd:dstOf ops g=some d:=by kernel_rfl):if Region.wanted o (yielded ops a.tmps)=true then p else q:=by
 refine st_neg ?_ hq
 unfold Region.wanted
 rw [hg]
 show (yielded ops a.tmps g==some b)=false
 rw [yl_of hd hv]
 cases b<;>rfl
theorem zbJ {l:Array Bool} {i j:Nat} (h:i≠j):(l.setIfInBounds i true)[j]?=l[j]?:=by rw [Array.getElem?_setIfInBounds,if_neg h]
section
variable {P : Program} {ops : Array Oper} {Q : Exit → Act → World → Prop} {S : World → Prop} {vals : Nat → Value} {z : Nat} {a0 : Act}
theorem zbH {l:Array Bool} {i:Nat} {b c:Bool} (h:l[i]?=some b):l.getD i c=b:=by rw [Array.getD_eq_getD_getElem?,h];rfl
theorem wpAny_seq {oz:Oper} (hok:SeqOk ops z a0.tmps.size) (hz:ops[z]?=some oz)
  (hstep:∀ i o,i<z→ops[i]?=some o→∀ a w,Fr ops vals z a0 a (·∈afterOn o)→S w→∀ K:Act→World→Prop,(∀ v,S v→K (a.put o.dst (vals i)) v)→if Region.wanted o (yielded ops a.tmps)=true then o.wp P a w K Q else K (a.put o.dst undef) w)
  (hlast:∀ w,S w→∀ K:Act→World→Prop,(∀ b v,Q .normal b v→K b v)→if Region.wanted oz (yielded ops (putTo ops vals a0 z).tmps)=true then oz.wp P (putTo ops vals a0 z) w K Q else K ((putTo ops vals a0 z).put oz.dst undef) w) :
  ∀ (n:Nat) (l:Array Bool) (a:Act) (w:World),l.size=ops.size→(∀ (i:Nat) (o:Oper),l[i]?=some true→ops[i]?=some o→∀ k∈afterOn o,l[k]?=some true)→l[z]?=some false→Fr ops vals z a0 a (fun j=>l[j]?=some true)→l.toList.count false=n→S w→wpAny P .any ops Q n l a w:=by
 intro n
 induction n with
 | zero=>
  intro l a w _ _ h3 _ h5 _
  have:=zcD h3
  omega
 | succ n ih=>
  intro l a w h1 h2 h3 h4 h5 hS
  have hzs:z<l.size:=(Array.getElem?_eq_some_iff.1 h3).1
  have hcase:∀ k,k<l.size→l[k]?=some true∨l[k]?=some false:=fun k hk=>by
   rw [Array.getElem?_eq_getElem hk]
   cases l[k]<;>simp
  have hmem:∀ i,i∈Region.ready .any ops l↔l[i]?=some false∧∃ o,ops[i]?=some o∧∀ k∈afterOn o,l[k]?=some true:=by
   intro i
   rw [mem_ready]
   constructor
   ·rintro ⟨g1,o,ho,g2⟩
    have hi:i<l.size:=by rw [h1];exact (Array.getElem?_eq_some_iff.1 ho).1
    refine ⟨?_,o,ho,fun k hk => ?_⟩
    ·rcases hcase i hi with e|e
     ·rw [zbH e] at g1;cases g1
     ·exact e
    ·obtain ⟨e,he,hb,rfl⟩:=zcK.1 hk
     have g3:=g2 e he hb
     have hlt:=hok.back i o ho e.on hk
     rcases hcase e.on (by omega) with e'|e'
     ·exact e'
     ·rw [zbH e'] at g3;cases g3
   ·rintro ⟨g1,o,ho,g2⟩
    exact ⟨zbH g1,o,ho,fun e he hb=>zbH (g2 e.on (zcK.2 ⟨e,he,hb,rfl⟩))⟩
  refine ⟨fun hr => ?_,fun i hi => ?_⟩
  ·exfalso
   have key:∀ m,m≤z→(∀ k,k<m→l[k]?=some true):=by
    intro m
    induction m with
    | zero=>intro _ k hk;omega
    | succ m ihm=>
     intro hm k hk
     have prev:=ihm (by omega)
     by_cases hkm:k<m
     ·exact prev k hkm
     ·obtain rfl:k=m:=by omega
      rcases hcase k (by omega) with e|e
      ·exact e
      ·exfalso
       have hks:k<ops.size:=by omega
       have:k∈Region.ready .any ops l:=(hmem k).2 ⟨e,ops[k],Array.getElem?_eq_getElem hks,fun j hj=>prev j (hok.back k _ (Array.getElem?_eq_getElem hks) j hj)⟩
       rw [hr] at this
       simp at this
   have:z∈Region.ready .any ops l:=(hmem z).2 ⟨h3,oz,hz,fun j hj=>key z (Nat.le_refl _) j (hok.back z _ hz j hj)⟩
   rw [hr] at this
   simp at this
  ·obtain ⟨g1,o,ho,g2⟩:=(hmem i).1 hi
   by_cases hiz:i=z
   ·subst hiz
    obtain rfl:oz=o:=by rw [hz] at ho;exact Option.some.inj ho
    have hall:∀ (m j:Nat),i-j≤m→j<i→l[j]?=some true:=by
     intro m
     induction m with
     | zero=>intro j h1 h2;omega
     | succ m ihm=>
      intro j hj1 hj2
      obtain ⟨k,ok,hjk,hki,hok',hin⟩:=hok.fore j hj2
      by_cases hke:k=i
      ·subst hke
       obtain rfl:oz=ok:=by rw [hz] at hok';exact Option.some.inj hok'
       exact g2 j hin
      ·exact h2 k ok (ihm k (by omega) (by omega)) hok' j hin
    have ha:a=putTo ops vals a0 i:=fr_all hok h4 (fun j hj=>hall i j (by omega) hj)
    have hcnt:=zcD g1
    have hnone:∀ j:Nat,(l.setIfInBounds i true)[j]?≠some false:=by
     intro j hj
     rw [Array.getElem?_setIfInBounds] at hj
     split at hj
     ·first
      | (cases hj;done)
      | (split at hj<;>cases hj)
     ·have hjs:=(Array.getElem?_eq_some_iff.1 hj).1
      have:=hall i j (by omega) (by rw [h1,hok.size] at hjs;omega)
      rw [hj] at this;cases this
    have hc0:(l.setIfInBounds i true).toList.count false=0:=by
     refine List.count_eq_zero.2 fun hm => ?_
     obtain ⟨j,hj⟩:=List.getElem?_of_mem hm
     exact hnone j (by rw [←Array.getElem?_toList];exact hj)
    have hn0:n=0:=by omega
    subst hn0
    subst ha
    refine wpOp_step hz fun K' hK'=>hlast w hS K' fun b v hb=>hK' b v ⟨?_,hb⟩
    cases hr:Region.ready .any ops (l.setIfInBounds i true) with
    | nil=>rfl
    | cons j r=>
     exfalso
     have hj:j∈Region.ready .any ops (l.setIfInBounds i true):=by rw [hr];simp
     obtain ⟨q1,o',ho',_⟩:=mem_ready.1 hj
     have hjs:j<(l.setIfInBounds i true).size:=by rw [Array.size_setIfInBounds,h1];exact (Array.getElem?_eq_some_iff.1 ho').1
     refine hnone j ?_
     rw [Array.getElem?_eq_getElem hjs]
     rw [Array.getD_eq_getD_getElem?,Array.getElem?_eq_getElem hjs] at q1
     simpa using q1
   ·have hiz':i<z:=by
     have:=(Array.getElem?_eq_some_iff.1 ho).1
     rw [hok.size] at this;omega
    refine wpOp_step ho fun K' hK' => ?_
    refine hstep i o hiz' ho a w ⟨h4.size,h4.df,h4.old,fun j hj hjz d hd=>h4.new j (g2 j hj) hjz d hd⟩ hS K' fun v hv=>hK' _ _ ?_
    obtain ⟨di,hdi,hdlt,hdne⟩:=hok.dst i hiz'
    have hod:o.dst=some di:=by unfold dstOf at hdi;rw [ho] at hdi;exact hdi
    refine ih _ _ _ (by simpa using h1) ?_ ?_ ?_ (by have:=zcD g1;omega) hv
    ·intro j o' hj ho' k hk
     have hkk:l[k]?=some true:=by
      rw [Array.getElem?_setIfInBounds] at hj
      split at hj
      ·rename_i hij
       subst hij
       obtain rfl:o=o':=by rw [ho] at ho';exact Option.some.inj ho'
       exact g2 k hk
      ·exact h2 j o' hj ho' k hk
     rw [Array.getElem?_setIfInBounds]
     split
     ·rename_i hik
      subst hik
      rw [hkk] at g1;cases g1
     ·exact hkk
    ·rw [Array.getElem?_setIfInBounds,if_neg hiz]
     exact h3
    ·refine ⟨by rw [hod,put_size];exact h4.size,by rw [hod,put_df];exact h4.df,fun k hk => ?_,fun j hj hjz d hd => ?_⟩
     ·rw [hod,zcJ,if_neg (fun e=>hk i hiz' (by rw [hdi,e]))]
      exact h4.old k hk
     ·rw [hod,zcJ]
      by_cases hij:i=j
      ·subst hij
       obtain rfl:di=d:=by rw [hdi] at hd;exact Option.some.inj hd
       rw [if_pos rfl,h4.size,if_pos hdlt]
      ·rw [if_neg (fun e=>hdne j hjz (Ne.symm hij) (by rw [hd,e]))]
       refine h4.new j ?_ hjz d hd
       rw [Array.getElem?_setIfInBounds,if_neg hij] at hj
       exact hj
theorem wp_region_seq {id:Nat} {w:World} {oz:Oper} (vals:Nat→Value) (S:World→Prop) (z:Nat) (hm:P.follows .mixedOrders=true) (hsq:seqB ops z=true) (hdb:dstB ops z a0.tmps.size=true) (hz:ops[z]?=some oz) (hS:S w.drew)
  (hstep:∀ i o,i<z→ops[i]?=some o→∀ a w,Fr ops vals z a0 a (·∈afterOn o)→S w→∀ K:Act→World→Prop,(∀ v,S v→K (a.put o.dst (vals i)) v)→if Region.wanted o (yielded ops a.tmps)=true then o.wp P a w K Q else K (a.put o.dst undef) w)
  (hlast:∀ w,S w→∀ K:Act→World→Prop,(∀ b v,Q .normal b v→K b v)→if Region.wanted oz (yielded ops (putTo ops vals a0 z).tmps)=true then oz.wp P (putTo ops vals a0 z) w K Q else K ((putTo ops vals a0 z).put oz.dst undef) w) :
  (Code.region id ops true).wp P Q a0 w:=by
 have hok:=seqOk hsq hdb
 refine wp_region_any hm (wpAny_seq hok hz hstep hlast ops.size (Array.replicate ops.size false) a0 _ (by simp) ?_ ?_ ⟨rfl,rfl,fun _ _=>rfl,?_⟩ (by simp) hS)
 ·intro i o hi
  rw [Array.getElem?_replicate] at hi
  split at hi<;>cases hi
 ·rw [Array.getElem?_replicate,if_pos (by rw [hok.size];omega)]
 ·intro j hj
  rw [Array.getElem?_replicate] at hj
  split at hj<;>cases hj
end
def putA (f:Nat→Oper) (vals:Nat→Value) (a0:Act):Nat→Act
 | 0=>a0
 | m+1=>(putA f vals a0 m).put (f m).dst (vals m)
theorem putA_eq (f:Nat→Oper) (vals:Nat→Value) (a0:Act) (z:Nat):∀ m,m≤z→putTo (opsA f z) vals a0 m=putA f vals a0 m
 | 0,_=>rfl
 | m+1,h=>by
  simp only [putTo,putA]
  rw [putA_eq f vals a0 z m (by omega)]
  unfold dstOf
  rw [zaA f z (by omega)]
  rfl
theorem zaQ {P:Program} {Q:Exit→Act→World→Prop} {a0:Act} {id:Nat} {w:World} (f:Nat→Oper) (vals:Nat→Value) (S:World→Prop) (z:Nat) (hm:P.follows .mixedOrders=true) (hsq:seqB (opsA f z) z=true) (hdb:dstB (opsA f z) z a0.tmps.size=true) (hS:S w.drew)
  (hstep:∀ i,i<z→∀ a w,Fr (opsA f z) vals z a0 a (·∈afterOn (f i))→S w→∀ K:Act→World→Prop,(∀ v,S v→K (a.put (f i).dst (vals i)) v)→if Region.wanted (f i) (yielded (opsA f z) a.tmps)=true then (f i).wp P a w K Q else K (a.put (f i).dst undef) w)
  (hlast:∀ w,S w→∀ K:Act→World→Prop,(∀ b v,Q .normal b v→K b v)→if Region.wanted (f z) (yielded (opsA f z) (putA f vals a0 z).tmps)=true then (f z).wp P (putA f vals a0 z) w K Q else K ((putA f vals a0 z).put (f z).dst undef) w) :
  (Code.region id (opsA f z) true).wp P Q a0 w:=
 wp_region_seq vals S z hm hsq hdb (zaA f z (Nat.le_refl _)) hS (fun i o hi ho=>by obtain rfl:=so (zaA f z (Nat.le_of_lt hi)) ho;exact hstep i hi) (fun w h K hK=>by rw [putA_eq f vals a0 z z (Nat.le_refl _)];exact hlast w h K hK)
end Go.Proofs.YtmekkhfohmfjkaaGreatDoor
