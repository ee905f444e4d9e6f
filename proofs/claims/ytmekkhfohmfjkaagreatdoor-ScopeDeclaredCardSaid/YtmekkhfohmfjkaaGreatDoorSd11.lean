/-
  Part 11 of the proof: PLook, KindD, MapK, DeclK.
-/
import Derived.Test.YtmekkhfohmfjkaaGreatDoorSd10
import Derived.Test.YtmekkhfohmfjkaaGreatDoorSd02
import Derived.Test.YtmekkhfohmfjkaaGreatDoorSd06
namespace Go.Proofs.YtmekkhfohmfjkaaGreatDoor
open Go.RowKit Go.Deep Go.MapKept Go.WideMaps Go.WideShapes
theorem vw_getD (n:Nat):(vw n).getD (.int .u8 0)=.int .u8 (n:Int):=by
 unfold vw
 split
 ·subst_vars;rfl
 ·rfl
theorem vw_some (n:Nat):(vw n).isSome=decide (n≠0):=by unfold vw;split<;>simp_all
theorem opOf_le (s:ByteArray):opOf s≤19:=by
 unfold opOf
 split
 ·rename_i i h
  have:=(List.findIdx?_eq_some_iff_getElem.1 h).1
  simp only [opWs,List.length_cons,List.length_nil] at this
  omega
 ·omega
theorem stmtOf_le (s:ByteArray):stmtOf s≤7:=by
 unfold stmtOf;repeat' split
 all_goals omega
theorem actOf_le (s:ByteArray):actOf s≤3:=by
 unfold actOf;repeat' split
 all_goals omega
theorem exprOf_le (s:ByteArray):exprOf s≤9:=by
 unfold exprOf;repeat' split
 all_goals omega
section
variable {c : Cx} {w : World}
theorem look_op (hc:c.Ok) (hb:Below c.w0.heap.size c.w0 w) {s:ByteArray} (hs:s.size≤140737488355328):(Instr.lookup 104 (.map (some c.vo.o)) (.string s) false).run Tryz.prog w=.ok (.int .u8 (opOf s:Int)) w:=by
 have h:=look under_89 Tryz.underlying9 zero_89 (hc.voc.o.same (hb.block _ hc.voc.o.lt)) (s:=s) (by unfold maxLen;omega) false
 rw [voc_op,vw_getD] at h
 exact h
theorem look_op2 (hc:c.Ok) (hb:Below c.w0.heap.size c.w0 w) {s:ByteArray} (hs:s.size≤140737488355328):(Instr.lookup 104 (.map (some c.vo.o)) (.string s) true).run Tryz.prog w=.ok (.tuple #[.int .u8 (opOf s:Int),.bool (decide (opOf s≠0))]) w:=by
 have h:=look under_89 Tryz.underlying9 zero_89 (hc.voc.o.same (hb.block _ hc.voc.o.lt)) (s:=s) (by unfold maxLen;omega) true
 rw [voc_op,vw_getD,vw_some] at h
 exact h
theorem look_stmt (hc:c.Ok) (hb:Below c.w0.heap.size c.w0 w) {s:ByteArray} (hs:s.size≤140737488355328):(Instr.lookup 101 (.map (some c.vo.s)) (.string s) true).run Tryz.prog w=.ok (.tuple #[.int .u8 (stmtOf s:Int),.bool (decide (stmtOf s≠0))]) w:=by
 have h:=look under_86 Tryz.underlying9 zero_86 (hc.voc.s.same (hb.block _ hc.voc.s.lt)) (s:=s) (by unfold maxLen;omega) true
 rw [voc_stmt,vw_getD,vw_some] at h
 exact h
theorem look_act (hc:c.Ok) (hb:Below c.w0.heap.size c.w0 w) {s:ByteArray} (hs:s.size≤140737488355328):(Instr.lookup 102 (.map (some c.vo.a)) (.string s) true).run Tryz.prog w=.ok (.tuple #[.int .u8 (actOf s:Int),.bool (decide (actOf s≠0))]) w:=by
 have h:=look under_87 Tryz.underlying9 zero_87 (hc.voc.a.same (hb.block _ hc.voc.a.lt)) (s:=s) (by unfold maxLen;omega) true
 rw [voc_act,vw_getD,vw_some] at h
 exact h
theorem look_expr (hc:c.Ok) (hb:Below c.w0.heap.size c.w0 w) {s:ByteArray} (hs:s.size≤140737488355328):(Instr.lookup 103 (.map (some c.vo.x)) (.string s) true).run Tryz.prog w=.ok (.tuple #[.int .u8 (exprOf s:Int),.bool (decide (exprOf s≠0))]) w:=by
 have h:=look under_88 Tryz.underlying9 zero_88 (hc.voc.x.same (hb.block _ hc.voc.x.lt)) (s:=s) (by unfold maxLen;omega) true
 rw [voc_expr,vw_getD,vw_some] at h
 exact h
theorem look_decl (hc:c.Ok) (hb:Below c.w0.heap.size c.w0 w) {s:ByteArray} (hs:s.size≤140737488355328):(Instr.lookup 100 (.map (some c.vo.d)) (.string s) true).run Tryz.prog w=.ok (.tuple #[(decV (declOf s)).getD (.agg #[.string ⟨#[]⟩,.int .u8 0,.int .u8 0]),.bool (decV (declOf s)).isSome]) w:=by
 have h:=look under_85 Tryz.underlying9 zero_85 (hc.voc.d.same (hb.block _ hc.voc.d.lt)) (s:=s) (by unfold maxLen;omega) true
 rw [voc_decl] at h
 exact h
end
abbrev fval (x:FV):Value:=.agg #[.int .u8 x.1.k,.string x.1.s,.int .i64 x.1.n,x.2,.int .i64 x.1.p]
def redQ:Nat→Int
 | 6=>9223372036854775807
 | 7 => -9223372036854775808
 | 16=>1
 | _=>0
theorem redQ_any (o:Nat) (ho:o≤19) (w:World):Calls Tryz.prog 146 #[.int .u8 (o:Int)] w fun e w'=>e=.returned (.tuple #[.int .i64 (redQ o),.bool (redN o)])∧w=w':=by
 have hm:o=0∨o=1∨o=2∨o=3∨o=4∨o=5∨o=6∨o=7∨o=8∨o=9∨o=10∨o=11∨o=12∨o=13∨o=14∨o=15∨o=16∨o=17∨o=18∨o=19:=by omega
 rcases hm with rfl|rfl|rfl|rfl|rfl|rfl|rfl|rfl|rfl|rfl|rfl|rfl|rfl|rfl|rfl|rfl|rfl|rfl|rfl|rfl
 all_goals
  go_enter Tryz.func146,Tryz.ntmps146
  go_wp2
  go_ret2
  exact ⟨rfl,rfl⟩
theorem zbW (s t:ByteArray):(s.toList==t.toList)=decide (s=t):=by
 by_cases h:s=t
 ·subst h;simp
 ·rw [decide_eq_false h,beq_eq_false_iff_ne]
  intro e
  apply h
  rw [ByteArray.toList_eq,ByteArray.toList_eq] at e
  cases s;cases t
  simp only [ByteArray.mk.injEq]
  exact Array.toList_inj.1 (by simpa using e)
set_option maxHeartbeats 1000000 in
theorem looks_any {c:Cx} (hc:c.Ok) {p:PV} {X:List Rw} {w:World} (h:RdS c p X w) {n:Nat} {x:FV} (hx:c.fs[n]?=some x) (t:Nat):Calls Tryz.prog 121 #[.pointer (some ⟨c.B,0,none⟩),fval x,.int .i32 (t:Int)] w fun e w'=>e=.returned (.bool (looksP x.1 t))∧Below w.heap.size w w':=by
 have hs:=hc.txt n x hx
 obtain ⟨⟨xk,xs,xn,xks,xp⟩,kv⟩:=x
 simp only at hs
 clear hx
 have hlt:=h.lt
 by_cases t1:t=111
 ·subst t1
  have HR:Hid (looksP ⟨xk,xs,xn,xks,xp⟩ 111=redN (opOf xs)):=hidI (by simp [looksP])
  have HH:=hidI (h.alloc (.cells #[.int .u8 xk,.string xs,.int .i64 xn,kv,.int .i64 xp] 115))
  have HL:=hidI (look_op hc HH.out.drew.below hs)
  have HC:=hidI (fun W=>redQ_any (opOf xs) (opOf_le xs) W)
  have hB:=HH.out.drew.cell (j:=4) (u:=.map (some c.vo.o)) rfl
  have HB:=hidI hB
  have hF:((w.alloc (.cells #[.int .u8 xk,.string xs,.int .i64 xn,kv,.int .i64 xp] 115)).drew).cell? ⟨w.heap.size,1,none⟩=some (.string xs):=by go_simp
  have HF:=hidI hF
  clear h hF hB
  go_enter Tryz.func121,Tryz.ntmps121
  go_wp2
  refine regL (B:=c.B) (fb:=w.heap.size) (mo:=c.vo.o) (s:=xs) ⟨HB.out,HF.out,HL.out⟩ HC (fun _ _ _ _ _ h=>h) (hidI ?_)
  intro t7 t8 t12 t13 t14 t15 t16 t17 t18 t19 t20 t21 t22 t23 h8
  subst h8
  go_wp2
  go_ret
  exact ⟨by rw [HR.out];rfl,by exact belowT⟩
 have d1:((t:Int)==111)=false:=by rw [beq_eq_false_iff_ne];omega
 by_cases t2:t=119
 ·subst t2
  have HR:Hid (looksP ⟨xk,xs,xn,xks,xp⟩ 119=(decide (xs=⟨#[111,117,116]⟩) || decide (xs=⟨#[105,110]⟩))):=hidI (by simp [looksP])
  have b1:=zbW xs ⟨#[111,117,116]⟩
  have b2:=zbW xs ⟨#[105,110]⟩
  have l1:(⟨#[111,117,116]⟩:ByteArray).toList=[111,117,116]:=by decide +kernel
  have l2:(⟨#[105,110]⟩:ByteArray).toList=[105,110]:=by decide +kernel
  rw [l1] at b1
  rw [l2] at b2
  by_cases q1:xs=⟨#[111,117,116]⟩
  ·rw [decide_eq_true q1] at b1 HR
   clear h b2 l1 l2 q1
   go_enter Tryz.func121,Tryz.ntmps121
   go_wp2
   go_ret
   exact ⟨by rw [HR.out];rfl,by exact belowT⟩
  ·rw [decide_eq_false q1] at b1 HR
   obtain ⟨r,hr⟩:∃ r,decide (xs=⟨#[105,110]⟩)=r:=⟨_,rfl⟩
   rw [hr] at b2 HR
   clear h l1 l2 q1 hr
   go_enter Tryz.func121,Tryz.ntmps121
   go_wp2
   go_ret
   exact ⟨by rw [HR.out];rfl,by exact belowT⟩
 have d2:((t:Int)==119)=false:=by rw [beq_eq_false_iff_ne];omega
 by_cases t3:t=116∨t=102
 ·have HR:Hid (looksP ⟨xk,xs,xn,xks,xp⟩ t=(xk==1)):=hidI (by rcases t3 with rfl|rfl<;>simp [looksP])
  obtain ⟨r,hr⟩:∃ r,(xk==1)=r:=⟨_,rfl⟩
  rw [hr] at HR
  clear h
  rcases t3 with rfl|rfl
  all_goals
   go_enter Tryz.func121,Tryz.ntmps121
   go_wp2
   go_ret
   exact ⟨by rw [HR.out];rfl,by exact belowT⟩
 ·have HR:Hid (looksP ⟨xk,xs,xn,xks,xp⟩ t=true):=hidI (by simp [looksP,t1,t2,t3])
  have d3:((t:Int)==116)=false:=by rw [beq_eq_false_iff_ne];omega
  have d4:((t:Int)==102)=false:=by rw [beq_eq_false_iff_ne];omega
  clear h
  go_enter Tryz.func121,Tryz.ntmps121
  go_wp2
  go_ret
  exact ⟨by rw [HR.out];rfl,by exact belowT⟩
open Go.RowKit Go.Deep Go.MapKept
theorem flatD_get:∀ (l:List Dcl) (j i:Nat) (x:Dcl),l[j]?=some x→i<3→(flatD l)[j*3+i]?=(dcells x)[i]?
 | [],_,_,_,h,_=>by simp at h
 | y::r,0,i,x,h,hi=>by
  obtain rfl:y=x:=by simpa using h
  simp only [flatD,List.flatMap_cons,Nat.zero_mul,Nat.zero_add]
  rw [List.getElem?_append_left (by simpa [dcells] using hi)]
 | y::r,j+1,i,x,h,hi=>by
  have:=flatD_get r j i x (by simpa using h) hi
  rw [←this]
  simp only [flatD,List.flatMap_cons]
  rw [List.getElem?_append_right (by simp [dcells];omega)]
  congr 1
  simp [dcells];omega
def SeesD (w:World) (v:Value) (ds:List Dcl):Prop:=SeesC w v ds.length 3 (flatD ds)
theorem SeesD.cell {w:World} {v:Value} {ds:List Dcl} (h:SeesD w v ds) {j:Nat} {d:Dcl} (hd:ds[j]?=some d):∃ b o cap,v=.slice (some ⟨b,o,none⟩) ds.length cap∧w.cell? ⟨b,o+j*3,none⟩=some (.string d.name)∧w.cell? ⟨b,o+j*3+1,none⟩=some (.int .u8 (d.side:Int))∧w.cell? ⟨b,o+j*3+2,none⟩=some (.int .u8 (d.kind:Int)):=by
 have hj:=(List.getElem?_eq_some_iff.1 hd).1
 obtain ⟨_,a,cap,rfl,h0⟩:=h
 rcases h0 with h0|⟨b,o,rfl,hc⟩
 ·omega
 ·refine ⟨b,o,cap,rfl,?_,?_,?_⟩
  ·have:=hc (j*3+0) _ (by rw [flatD_get ds j 0 d hd (by omega)];rfl);simpa [Nat.add_assoc] using this
  ·have:=hc (j*3+1) _ (by rw [flatD_get ds j 1 d hd (by omega)];rfl);simpa [Nat.add_assoc] using this
  ·have:=hc (j*3+2) _ (by rw [flatD_get ds j 2 d hd (by omega)];rfl);simpa [Nat.add_assoc] using this
def isK (nm:ByteArray) (sd:Nat) (d:Dcl):Bool:=decide (d.name=nm) && decide (d.side=sd)
def kindD (nm:ByteArray) (sd:Nat):List Dcl→Nat
 | []=>0
 | d::r=>if isK nm sd d=true then d.kind else kindD nm sd r
theorem kindD_drop (nm:ByteArray) (sd:Nat) (ds:List Dcl) (j:Nat) (d:Dcl) (h:ds[j]?=some d):kindD nm sd (ds.drop j)=if isK nm sd d=true then d.kind else kindD nm sd (ds.drop (j+1)):=by
 have hj:=(List.getElem?_eq_some_iff.1 h).1
 have hv:=(List.getElem?_eq_some_iff.1 h).2
 rw [List.drop_eq_getElem_cons hj,hv]
 rfl
theorem eqU (a b:Nat):((a:Int)==(b:Int))=decide (a=b):=by
 by_cases h:a=b
 ·subst h;simp
 ·rw [decide_eq_false h,beq_eq_false_iff_ne];omega
set_option maxHeartbeats 1000000 in
theorem kindOf_any (w:World) (v:Value) (ds:List Dcl) (hv:SeesD w v ds) (hl:ds.length≤1000) (nm:ByteArray) (sd:Nat) :
  Calls Tryz.prog 12 #[v,.agg #[.string nm,.int .u8 (sd:Int)]] w fun e w'=>e=.returned (.int .u8 (kindD nm sd ds:Int))∧Below w.heap.size w w':=by
 obtain ⟨_,a,cap,rfl,_⟩:=id hv
 have HV:=hidI hv
 obtain ⟨m,hm⟩:∃ m,ds.length=m:=⟨_,rfl⟩
 have HM:=hidI hm
 rw [hm] at hl
 rw [hm]
 have HW:Hid (Below w.heap.size w (w.alloc (.cells #[.string nm,.int .u8 (sd:Int)] 25))):=hidI ((Below.refl _ _).alloc (Nat.le_refl _) _)
 clear hv hm
 go_enter Tryz.func12,Tryz.ntmps12
 go_wp2
 go_loopg [9] m (fun g s9 wx=>∃ j:Nat,j+g=m∧s9=.int .i64 (j:Int)∧Hid (kindD nm sd ds=kindD nm sd (ds.drop j))∧Hid (Below (w.alloc (.cells #[.string nm,.int .u8 (sd:Int)] 25)).heap.size (w.alloc (.cells #[.string nm,.int .u8 (sd:Int)] 25)) wx))
 case atStart=>exact ⟨0,by omega,rfl,hidI rfl,hidI (Below.refl _ _)⟩
 case round=>
  obtain ⟨j,hjg,rfl,HK,HB⟩:=hrel
  cases gk with
  | zero=>
   obtain rfl:m=j:=by omega
   have k1:decide ((m:Int)<(m:Int))=false:=by simp
   have HR:Hid (kindD nm sd ds=0):=hidI (by rw [HK.out,List.drop_of_length_le (by have:=HM.out;omega)];rfl)
   go_wp2
   go_ret
   exact ⟨by rw [HR.out];rfl,HW.out.trans (HB.out.mono (by simp))⟩
  | succ g=>
   have k1:(j:Int)<(m:Int):=by omega
   obtain ⟨d,hd⟩:∃ d,ds[j]?=some d:=⟨_,List.getElem?_eq_getElem (by have:=HM.out;omega)⟩
   obtain ⟨b,o,cap',hav,x0,x1,x2⟩:=HV.out.cell hd
   rw [HM.out] at hav
   cases hav
   have z:∀ {p:Addr} {v:Value},w.cell? p=some v→wr.cell? p=some v:=fun {p v} hc=>by
    have h1:=(HW.out.cell (World.block_lt_of_cell? w _ hc)).trans hc
    exact (HB.out.cell (World.block_lt_of_cell? _ _ h1)).trans h1
   have y:∀ {p:Addr} {v:Value},(w.alloc (.cells #[.string nm,.int .u8 (sd:Int)] 25)).cell? p=some v→wr.cell? p=some v:=fun {p v} hc=>(HB.out.cell (World.block_lt_of_cell? _ _ hc)).trans hc
   replace x0:=z x0
   replace x1:=z x1
   replace x2:=z x2
   have hb0:wr.cell? ⟨w.heap.size,0,none⟩=some (.string nm):=y (by go_simp)
   have hb1:wr.cell? ⟨w.heap.size,1,none⟩=some (.int .u8 (sd:Int)):=y (by go_simp)
   have ha:Below wr.heap.size wr (wr.alloc (.cells #[.string d.name,.int .u8 (d.side:Int),.int .u8 (d.kind:Int)] 56)):=(Below.refl _ _).alloc (Nat.le_refl _) _
   have hc0:=(ha.cell (World.block_lt_of_cell? wr _ hb0)).trans hb0
   have hc1:=(ha.cell (World.block_lt_of_cell? wr _ hb1)).trans hb1
   clear ha
   have HKD:=hidI (kindD_drop nm sd ds j d hd)
   have q1:=zbW d.name nm
   have q2:=eqU d.side sd
   have hlt:=HB.out.size
   simp only [World.size_alloc] at hlt
   have HBW:Hid (∀ W,Below (w.alloc (.cells #[.string nm,.int .u8 (sd:Int)] 25)).heap.size (w.alloc (.cells #[.string nm,.int .u8 (sd:Int)] 25)) W→Below w.heap.size w W):=hidI (fun W hW=>HW.out.trans (hW.mono (by simp)))
   clear z y hd
   by_cases c1:d.name=nm
   ·rw [decide_eq_true c1] at q1
    by_cases c2:d.side=sd
    ·rw [decide_eq_true c2] at q2
     have HR:Hid (kindD nm sd ds=d.kind):=hidI (by rw [HK.out,HKD.out,if_pos (by simp [isK,c1,c2])])
     clear HK HKD c1 c2
     go_wp2
     skip
     go_ret
     exact ⟨by rw [HR.out];rfl,HBW.out _ (HB.out.alloc (by have:=HB.out.size;simp at this ⊢;omega) (.cells #[.string d.name,.int .u8 (d.side:Int),.int .u8 (d.kind:Int)] 56))⟩
    ·rw [decide_eq_false c2] at q2
     have HR:Hid (kindD nm sd ds=kindD nm sd (ds.drop (j+1))):=hidI (by rw [HK.out,HKD.out,if_neg (by simp [isK,c2])])
     clear HK HKD c1 c2
     go_wp2
     skip
     go_roundg g
     case measure=>omega
     case rel=>exact ⟨j+1,by omega,by go_num,HR,hidI (HB.out.alloc (by have:=HB.out.size;simp at this ⊢;omega) (.cells #[.string d.name,.int .u8 (d.side:Int),.int .u8 (d.kind:Int)] 56))⟩
   ·rw [decide_eq_false c1] at q1
    have HR:Hid (kindD nm sd ds=kindD nm sd (ds.drop (j+1))):=hidI (by rw [HK.out,HKD.out,if_neg (by simp [isK,c1])])
    clear HK HKD c1
    go_wp2
    skip
    go_roundg g
    case measure=>omega
    case rel=>exact ⟨j+1,by omega,by go_num,HR,hidI (HB.out.alloc (by have:=HB.out.size;simp at this ⊢;omega) (.cells #[.string d.name,.int .u8 (d.side:Int),.int .u8 (d.kind:Int)] 56))⟩
set_option maxHeartbeats 1000000 in
theorem rkindOf_any (w:World) (v:Value) (ds:List Dcl) (hv:SeesD w v ds) (hl:ds.length≤1000) (nm:ByteArray) (sd:Nat) :
  Calls Tryz.prog 13 #[v,.agg #[.string nm,.int .u8 (sd:Int)]] w fun e w'=>e=.returned (.int .u8 (kindD nm sd ds:Int))∧Below w.heap.size w w':=by
 obtain ⟨_,a,cap,rfl,_⟩:=id hv
 have HV:=hidI hv
 obtain ⟨m,hm⟩:∃ m,ds.length=m:=⟨_,rfl⟩
 have HM:=hidI hm
 rw [hm] at hl
 rw [hm]
 have HW:Hid (Below w.heap.size w (w.alloc (.cells #[.string nm,.int .u8 (sd:Int)] 25))):=hidI ((Below.refl _ _).alloc (Nat.le_refl _) _)
 clear hv hm
 go_enter Tryz.func13,Tryz.ntmps13
 go_wp2
 go_loopg [5] m (fun g s9 wx=>∃ j:Nat,j+g=m∧s9=.int .i64 (j:Int)∧Hid (kindD nm sd ds=kindD nm sd (ds.drop j))∧Hid (Below (w.alloc (.cells #[.string nm,.int .u8 (sd:Int)] 25)).heap.size (w.alloc (.cells #[.string nm,.int .u8 (sd:Int)] 25)) wx))
 case atStart=>exact ⟨0,by omega,rfl,hidI rfl,hidI (Below.refl _ _)⟩
 case round=>
  obtain ⟨j,hjg,rfl,HK,HB⟩:=hrel
  cases gk with
  | zero=>
   obtain rfl:m=j:=by omega
   have k1:decide ((m:Int)<(m:Int))=false:=by simp
   have HR:Hid (kindD nm sd ds=0):=hidI (by rw [HK.out,List.drop_of_length_le (by have:=HM.out;omega)];rfl)
   go_wp2
   go_ret
   exact ⟨by rw [HR.out];rfl,HW.out.trans (HB.out.mono (by simp))⟩
  | succ g=>
   have k1:(j:Int)<(m:Int):=by omega
   obtain ⟨d,hd⟩:∃ d,ds[j]?=some d:=⟨_,List.getElem?_eq_getElem (by have:=HM.out;omega)⟩
   obtain ⟨b,o,cap',hav,x0,x1,x2⟩:=HV.out.cell hd
   rw [HM.out] at hav
   cases hav
   have z:∀ {p:Addr} {v:Value},w.cell? p=some v→wr.cell? p=some v:=fun {p v} hc=>by
    have h1:=(HW.out.cell (World.block_lt_of_cell? w _ hc)).trans hc
    exact (HB.out.cell (World.block_lt_of_cell? _ _ h1)).trans h1
   have y:∀ {p:Addr} {v:Value},(w.alloc (.cells #[.string nm,.int .u8 (sd:Int)] 25)).cell? p=some v→wr.cell? p=some v:=fun {p v} hc=>(HB.out.cell (World.block_lt_of_cell? _ _ hc)).trans hc
   replace x0:=z x0
   replace x1:=z x1
   replace x2:=z x2
   have hb0:wr.cell? ⟨w.heap.size,0,none⟩=some (.string nm):=y (by go_simp)
   have hb1:wr.cell? ⟨w.heap.size,1,none⟩=some (.int .u8 (sd:Int)):=y (by go_simp)
   have HKD:=hidI (kindD_drop nm sd ds j d hd)
   have q1:=zbW d.name nm
   have q2:=eqU d.side sd
   have hlt:=HB.out.size
   simp only [World.size_alloc] at hlt
   have HBW:Hid (∀ W,Below (w.alloc (.cells #[.string nm,.int .u8 (sd:Int)] 25)).heap.size (w.alloc (.cells #[.string nm,.int .u8 (sd:Int)] 25)) W→Below w.heap.size w W):=hidI (fun W hW=>HW.out.trans (hW.mono (by simp)))
   clear z y hd
   by_cases c1:d.name=nm
   ·rw [decide_eq_true c1] at q1
    by_cases c2:d.side=sd
    ·rw [decide_eq_true c2] at q2
     have HR:Hid (kindD nm sd ds=d.kind):=hidI (by rw [HK.out,HKD.out,if_pos (by simp [isK,c1,c2])])
     clear HK HKD c1 c2
     go_wp2
     go_quiet (fail)
     generalize nq=n1
     go_wp2
     go_ret
     exact ⟨by rw [HR.out];rfl,HBW.out _ (below_drewN HB.out n1)⟩
    ·rw [decide_eq_false c2] at q2
     have HR:Hid (kindD nm sd ds=kindD nm sd (ds.drop (j+1))):=hidI (by rw [HK.out,HKD.out,if_neg (by simp [isK,c2])])
     clear HK HKD c1 c2
     go_wp2
     go_quiet (fail)
     generalize nq=n1
     go_wp2
     go_roundg g
     case measure=>omega
     case rel=>exact ⟨j+1,by omega,by go_num,HR,hidI (below_drewN HB.out n1)⟩
   ·rw [decide_eq_false c1] at q1
    have HR:Hid (kindD nm sd ds=kindD nm sd (ds.drop (j+1))):=hidI (by rw [HK.out,HKD.out,if_neg (by simp [isK,c1])])
    clear HK HKD c1
    go_wp2
    go_quiet (fail)
    generalize nq=n1
    go_wp2
    go_roundg g
    case measure=>omega
    case rel=>exact ⟨j+1,by omega,by go_num,HR,hidI (below_drewN HB.out n1)⟩
open Go.RowKit Go.MapKept Go.WideMaps Go.WideShapes
open Go.ChangeMaps (setBlock heap_setBlock_same heap_setBlock_other)
section
structure Kys (P:Program) (tk:TypeId) (κ:Type) where
 key:κ→Value
 inj:∀ x y,key x=key y→x=y
 ok:κ→Prop
 law:WideMaps.KeyLaw P tk
 has:∀ x,ok x→∃ l,keyOf P tk (key x)=some l
variable {P : Program} {tk : TypeId} {κ : Type}
def updKy [DecidableEq κ] (f:κ→Option Value) (s:κ) (d:Value):κ→Option Value:=fun t=>if t=s then some d else f t
def SaysK (K:Kys P tk κ) (es:Array MapEntry) (clock:Nat) (f:κ→Option Value):Prop:=
 Stamped es clock∧(∀ x∈es.toList,∃ s d,K.ok s∧x.key=K.key s∧f s=some d∧x.val=d)∧(∀ s d,f s=some d→∃ x∈es.toList,x.key=K.key s)
def MapK (K:Kys P tk κ) (w:World) (mb:Nat) (f:κ→Option Value):Prop:=∃ es clock,w.heap[mb]?=some (.map es clock)∧SaysK K es clock f
theorem MapK.same {K:Kys P tk κ} {w w':World} {mb:Nat} {f:κ→Option Value} (h:MapK K w mb f) (e:w'.heap[mb]?=w.heap[mb]?):MapK K w' mb f:=by
 obtain ⟨es,clock,hb,hs⟩:=h
 exact ⟨es,clock,e.trans hb,hs⟩
theorem MapK.lt {K:Kys P tk κ} {w:World} {mb:Nat} {f:κ→Option Value} (h:MapK K w mb f):mb<w.heap.size:=by
 obtain ⟨es,clock,hb,_⟩:=h
 exact (Array.getElem?_eq_some_iff.1 hb).1
theorem mapK_made (K:Kys P tk κ) (w:World):MapK K (w.alloc (.map #[] 0)) w.heap.size (fun _=>none):=
 ⟨#[],0,(MapKept.heap_alloc w _).1,stamped_empty 0,by simp,by simp⟩
theorem SaysK.keyed {K:Kys P tk κ} {es:Array MapEntry} {clock:Nat} {f:κ→Option Value} (h:SaysK K es clock f):∀ e∈es.toList,∃ l,keyOf P tk e.key=some l:=by
 intro e he
 obtain ⟨s,d,hs,hk,_⟩:=h.2.1 e he
 exact hk▸K.has s hs
theorem lookK {K:Kys P tk κ} {tm ev:TypeId} (ht:P.underlying tm=some (.map tk ev)) {z:Value} (hz:∀ u:World,(zeroValue ev).run P u=.ok z u) {w:World} {mb:Nat} {f:κ→Option Value} (h:MapK K w mb f) {s:κ} (hs:K.ok s) (c:Bool) :
  (Instr.lookup tm (.map (some mb)) (K.key s) c).run P w=.ok (if c=true then .tuple #[(f s).getD z,.bool (f s).isSome] else (f s).getD z) w:=by
 obtain ⟨es,clock,hb,hS⟩:=h
 obtain ⟨kl,hkey⟩:=K.has s hs
 rcases K.law.find w hkey es.toList hS.keyed with ⟨h1,h2⟩|⟨j,e,h1,h2,h3⟩
 ·have hn:f s=none:=by
   cases hf:f s with
   | none=>rfl
   | some d=>
    obtain ⟨x,hx,hk⟩:=hS.2.2 s d hf
    exact absurd hk (h2 x hx)
  rw [hn]
  simp [Instr.lookup,run_underlying ht,MapKept.run_getObj_map hb,K.law.check w es.isEmpty hkey,h1,hz,Result.andThen]
 ·obtain ⟨s',d,_,hk,hf,hv⟩:=hS.2.1 e (List.mem_of_getElem? h2)
  obtain rfl:s=s':=K.inj _ _ (h3.symm.trans hk)
  rw [hf]
  simp [Instr.lookup,run_underlying ht,MapKept.run_getObj_map hb,K.law.check w es.isEmpty hkey,h1,Result.andThen,hv]
theorem storeK_at {K:Kys P tk κ} {tm ev:TypeId} (ht:P.underlying tm=some (.map tk ev)) {u:World} {mb clock j:Nat} {es:Array MapEntry} {e0:MapEntry} {f:κ→Option Value} {s:κ} (v:Value) (hb:u.heap[mb]?=some (.map es clock)) (hS:SaysK K es clock f) (hs:K.ok s) (hj:es.toList[j]?=some e0) (he:e0.key=K.key s) :
  (Instr.mapUpdate tm (.map (some mb)) (K.key s) v).run P u=.ok () (setBlock u mb (.map (es.modify j fun e=>{ key:=e0.key,val:=v,born:=e.born }) clock)):=by
 obtain ⟨kl,hkey⟩:=K.has s hs
 rcases K.law.find u hkey es.toList hS.keyed with ⟨_,h2⟩|⟨j',e',h1,h2,h3⟩
 ·exact absurd he (h2 e0 (List.mem_of_getElem? hj))
 ·obtain rfl:=nodup_at hS.1.2.2 h2 hj (h3.trans he.symm)
  have hj':es[j']?=some e0:=by rw [←Array.getElem?_toList];exact hj
  simp [Instr.mapUpdate,run_underlying ht,MapKept.run_getObj_map hb,K.law.check u false hkey,h1,hj',he,K.law.stays u hkey,MapKept.run_setObj_map _ hb,Result.andThen,setBlock]
theorem storeK_new {K:Kys P tk κ} {tm ev:TypeId} (ht:P.underlying tm=some (.map tk ev)) {u:World} {mb clock:Nat} {es:Array MapEntry} {f:κ→Option Value} {s:κ} (v:Value) (hb:u.heap[mb]?=some (.map es clock)) (hS:SaysK K es clock f) (hs:K.ok s) (hne:∀ e∈es.toList,e.key≠K.key s) :
  (Instr.mapUpdate tm (.map (some mb)) (K.key s) v).run P u=.ok () (setBlock u mb (.map (es.push { key:=K.key s,val:=v,born:=clock }) (clock+1))):=by
 obtain ⟨kl,hkey⟩:=K.has s hs
 rcases K.law.find u hkey es.toList hS.keyed with ⟨h1,_⟩|⟨j,e,h1,h2,h3⟩
 ·simp [Instr.mapUpdate,run_underlying ht,MapKept.run_getObj_map hb,K.law.check u false hkey,h1,MapKept.run_setObj_map _ hb,Result.andThen,setBlock]
 ·exact absurd h3 (hne e (List.mem_of_getElem? h2))
theorem storeK [DecidableEq κ] {K:Kys P tk κ} {tm ev:TypeId} (ht:P.underlying tm=some (.map tk ev)) {w:World} {mb:Nat} {f:κ→Option Value} (h:MapK K w mb f) {s:κ} (hs:K.ok s) (d:Value) :
  ∃ o:Obj,(∀ u:World,u.heap[mb]?=w.heap[mb]?→(Instr.mapUpdate tm (.map (some mb)) (K.key s) d).run P u=.ok () (setBlock u mb o))∧
   (∀ u:World,u.heap[mb]?=some o→(Instr.mapUpdate tm (.map (some mb)) (K.key s) d).run P u=.ok () (setBlock u mb o))∧
   (∀ u:World,u.heap[mb]?=some o→MapK K u mb (updKy f s d)):=by
 obtain ⟨es,clock,hb,hS⟩:=h
 by_cases hin:∃ e0∈es.toList,e0.key=K.key s
 ·obtain ⟨e0,hm,he⟩:=hin
  obtain ⟨j,hj⟩:=List.getElem?_of_mem hm
  have hlt:=(List.getElem?_eq_some_iff.1 hj).1
  have hm2:(es.modify j fun e=>{ key:=e0.key,val:=d,born:=e.born }).toList=es.toList.set j { key:=e0.key,val:=d,born:=e0.born }:=by
   rw [Array.toList_modify,ChangeMaps.modify_eq_set _ _ _ _ hj]
  have hS2:SaysK K (es.modify j fun e=>{ key:=e0.key,val:=d,born:=e.born }) clock (updKy f s d):=by
   refine ⟨stamped_modify hS.1 hj,fun x hx => ?_,fun t dt ht => ?_⟩
   ·rw [hm2] at hx
    obtain ⟨i,hi⟩:=List.getElem?_of_mem hx
    rw [List.getElem?_set] at hi
    by_cases hji:j=i
    ·rw [if_pos hji,if_pos hlt] at hi
     obtain rfl:=Option.some.inj hi
     exact ⟨s,d,hs,he,by simp [updKy],rfl⟩
    ·rw [if_neg hji] at hi
     obtain ⟨t,dt,h1,h2,h3,h4⟩:=hS.2.1 x (List.mem_of_getElem? hi)
     refine ⟨t,dt,h1,h2,?_,h4⟩
     have:t≠s:=fun e=>hji (nodup_at hS.1.2.2 hj hi (by rw [he,h2,e]))
     simp [updKy,this,h3]
   ·by_cases e:t=s
    ·subst e
     exact ⟨{ key:=e0.key,val:=d,born:=e0.born },by rw [hm2];exact List.mem_set hlt _,he⟩
    ·simp only [updKy,e,if_false] at ht
     obtain ⟨x,hx,hk⟩:=hS.2.2 t dt ht
     obtain ⟨i,hi⟩:=List.getElem?_of_mem hx
     refine ⟨x,?_,hk⟩
     rw [hm2]
     apply List.mem_of_getElem? (i:=i)
     rw [List.getElem?_set,if_neg,hi]
     intro hji
     subst hji
     rw [hj] at hi
     obtain rfl:=Option.some.inj hi
     rw [he] at hk
     exact e (K.inj _ _ hk.symm)
  refine ⟨.map (es.modify j fun e=>{ key:=e0.key,val:=d,born:=e.born }) clock,fun u hu=>storeK_at ht _ (hu.trans hb) hS hs hj he,fun u hu => ?_,fun u hu=>⟨_,_,hu,hS2⟩⟩
  have hj2:(es.modify j fun e=>{ key:=e0.key,val:=d,born:=e.born }).toList[j]?=some { key:=e0.key,val:=d,born:=e0.born }:=by
   rw [hm2,List.getElem?_set,if_pos rfl,if_pos hlt]
  have:=storeK_at ht d hu hS2 hs hj2 he
  rw [this]
  congr 2
  congr 1
  apply Array.ext'
  rw [Array.toList_modify,ChangeMaps.modify_eq_set _ _ _ _ hj2]
  exact WideElems.set_self _ _ _ hj2
 ·have hne:∀ e∈es.toList,e.key≠K.key s:=fun e he hk=>hin ⟨e,he,hk⟩
  have hS2:SaysK K (es.push { key:=K.key s,val:=d,born:=clock }) (clock+1) (updKy f s d):=by
   refine ⟨stamped_push hS.1 hne,fun x hx => ?_,fun t dt ht => ?_⟩
   ·rw [Array.toList_push,List.mem_append,List.mem_singleton] at hx
    rcases hx with hx|rfl
    ·obtain ⟨t,dt,h1,h2,h3,h4⟩:=hS.2.1 x hx
     refine ⟨t,dt,h1,h2,?_,h4⟩
     have:t≠s:=fun e=>hne x hx (by rw [h2,e])
     simp [updKy,this,h3]
    ·exact ⟨s,d,hs,rfl,by simp [updKy],rfl⟩
   ·by_cases e:t=s
    ·subst e
     exact ⟨{ key:=K.key t,val:=d,born:=clock },by simp,rfl⟩
    ·simp only [updKy,e,if_false] at ht
     obtain ⟨x,hx,hk⟩:=hS.2.2 t dt ht
     exact ⟨x,by simp [Array.mem_toList_iff.1 hx],hk⟩
  refine ⟨.map (es.push { key:=K.key s,val:=d,born:=clock }) (clock+1),fun u hu=>storeK_new ht _ (hu.trans hb) hS hs hne,fun u hu => ?_,fun u hu=>⟨_,_,hu,hS2⟩⟩
  have hj2:(es.push { key:=K.key s,val:=d,born:=clock }).toList[es.size]?=some { key:=K.key s,val:=d,born:=clock }:=by
   simp
  have:=storeK_at ht d hu hS2 hs hj2 rfl
  rw [this]
  congr 2
  congr 1
  apply Array.ext'
  rw [Array.toList_modify,ChangeMaps.modify_eq_set _ _ _ _ hj2]
  exact WideElems.set_self _ _ _ hj2
theorem entryK [DecidableEq κ] {K:Kys P tk κ} {tm ev:TypeId} (ht:P.underlying tm=some (.map tk ev)) {z:Value} (hz:∀ u:World,(zeroValue ev).run P u=.ok z u) {w:World} {mb:Nat} {f:κ→Option Value} (h:MapK K w mb f) {s:κ} (hs:K.ok s) :
  ∃ (st:Nat) (o1:Obj),(∀ u:World,u.heap[mb]?=w.heap[mb]?→(Instr.mapEntry tm (.map (some mb)) (K.key s)).run P u=.ok (.tuple #[(f s).getD z,goInt st]) (setBlock u mb o1))∧
   (∀ u:World,u.heap[mb]?=some o1→MapK K u mb (updKy f s ((f s).getD z)))∧
   ∀ d:Value,∃ o2:Obj,(∀ u:World,u.heap[mb]?=some o1→(Instr.entryStore tm (.map (some mb)) (goInt st) d).run P u=.ok () (setBlock u mb o2))∧(∀ u:World,u.heap[mb]?=some o2→MapK K u mb (updKy f s d)):=by
 have hlt:=h.lt
 obtain ⟨es,clock,hb,hS⟩:=id h
 obtain ⟨kl,hkey⟩:=K.has s hs
 have s1:=hS.1.1
 have s2:=hS.1.2.1
 have eqO:∀ {o E:Obj},setBlock w mb o=setBlock w mb E→o=E:=fun {o E} e=>by
  have h1:(setBlock w mb o).heap[mb]?=some o:=heap_setBlock_same hb o
  rw [e,heap_setBlock_same hb E] at h1
  exact (Option.some.inj h1).symm
 rcases K.law.find w hkey es.toList hS.keyed with ⟨h1,h2⟩|⟨j,e0,h1,h2,h3⟩
 ·have hn:f s=none:=by
   cases hf:f s with
   | none=>rfl
   | some d=>
    obtain ⟨x,hx,hk⟩:=hS.2.2 s d hf
    exact absurd hk (h2 x hx)
  have hput:∀ d:Value,∀ u:World,u.heap[mb]?=some (.map (es.push { key:=K.key s,val:=d,born:=clock }) (clock+1))→MapK K u mb (updKy f s d):=fun d u hu=>by
   obtain ⟨o,p1,_,p3⟩:=storeK ht h hs d
   have q1:=p1 w rfl
   rw [storeK_new ht d hb hS hs h2] at q1
   have q2:=eqO (by injection q1)
   exact p3 u (hu.trans (by rw [q2]))
  refine ⟨clock,.map (es.push { key:=K.key s,val:=z,born:=clock }) (clock+1),fun u hu => ?_,fun u hu => ?_,fun d=>⟨.map (es.push { key:=K.key s,val:=d,born:=clock }) (clock+1),fun u hu => ?_,hput d⟩⟩
  ·have hbu:=hu.trans hb
   obtain h1:(Instr.findKey tk (K.key s) es.toList).run P u=.ok none u:=by
    rcases K.law.find u hkey es.toList hS.keyed with ⟨g1,_⟩|⟨j',e',_,g2,g3⟩
    ·exact g1
    ·exact absurd g3 (h2 e' (List.mem_of_getElem? g2))
   rw [hn]
   simp [Instr.mapEntry,run_underlying ht,MapKept.run_getObj_map hbu,K.law.check u false hkey,h1,hz,MapKept.run_setObj_map _ hbu,Result.andThen,setBlock]
  ·rw [hn]
   exact hput z u hu
  ·have hidx:(es.push ⟨K.key s,z,clock⟩).findIdx? (fun e=>((e.born:Nat):Int)==((clock:Nat):Int))=some es.size:=by
    rw [WideElems.findIdx_arr]
    have:=WideElems.findIdx_born (l:=(es.push ⟨K.key s,z,clock⟩).toList) (j:=es.size) (e0:=⟨K.key s,z,clock⟩) (by
     simp only [Array.toList_push,List.map_append,List.map_cons,List.map_nil]
     refine List.nodup_append.2 ⟨s2,by simp,fun a ha c hc e1 => ?_⟩
     simp only [List.mem_singleton] at hc
     obtain ⟨x,hx,rfl⟩:=List.mem_map.1 ha
     have:=s1 x hx
     omega) (by simp)
    exact this
   have hmod:(es.push ⟨K.key s,z,clock⟩).modify es.size (fun e=>{ e with val:=d })=es.push ⟨K.key s,d,clock⟩:=by
    apply Array.ext'
    rw [Array.toList_modify,Array.toList_push,Array.toList_push,←Array.length_toList,WideElems.modify_last]
   simp [Instr.entryStore,MapKept.run_getObj_map hu,asInt,asIntOf,goInt,hidx,hmod,MapKept.run_setObj_map _ hu,Result.andThen,setBlock]
 ·have hj:es[j]?=some e0:=by simpa using h2
  obtain ⟨s',d0,_,hk,hf,hv⟩:=hS.2.1 e0 (List.mem_of_getElem? h2)
  obtain rfl:s=s':=K.inj _ _ (h3.symm.trans hk)
  have hsame:es.modify j (fun e=>{ e with key:=K.key s })=es:=by
   apply Array.ext'
   rw [Array.toList_modify,ChangeMaps.modify_eq_set _ _ _ _ h2]
   have:({ e0 with key:=K.key s }:MapEntry)=e0:=by rw [←h3]
   rw [this]
   exact WideElems.set_self _ _ _ h2
  have hput:∀ d:Value,∀ u:World,u.heap[mb]?=some (.map (es.modify j fun e=>{ key:=e0.key,val:=d,born:=e.born }) clock)→MapK K u mb (updKy f s d):=fun d u hu=>by
   obtain ⟨o,p1,_,p3⟩:=storeK ht h hs d
   have q1:=p1 w rfl
   rw [storeK_at ht d hb hS hs h2 h3] at q1
   have q2:=eqO (by injection q1)
   exact p3 u (hu.trans (by rw [q2]))
  have hself:es.modify j (fun e=>{ key:=e0.key,val:=d0,born:=e.born })=es:=by
   apply Array.ext'
   rw [Array.toList_modify,ChangeMaps.modify_eq_set _ _ _ _ h2]
   have:({ key:=e0.key,val:=d0,born:=e0.born }:MapEntry)=e0:=by rw [←hv]
   rw [this]
   exact WideElems.set_self _ _ _ h2
  refine ⟨e0.born,.map es clock,fun u hu => ?_,fun u hu => ?_,fun d=>⟨.map (es.modify j fun e=>{ key:=e0.key,val:=d,born:=e.born }) clock,fun u hu => ?_,hput d⟩⟩
  ·have hbu:=hu.trans hb
   obtain h1:(Instr.findKey tk (K.key s) es.toList).run P u=.ok (some (j,e0.val)) u:=by
    rcases K.law.find u hkey es.toList hS.keyed with ⟨_,g2⟩|⟨j',e',g1,g2,g3⟩
    ·exact absurd h3 (g2 e0 (List.mem_of_getElem? h2))
    ·obtain rfl:=nodup_at hS.1.2.2 g2 h2 (g3.trans h3.symm)
     obtain rfl:=Option.some.inj (g2.symm.trans h2)
     exact g1
   rw [hf]
   simp [Instr.mapEntry,run_underlying ht,MapKept.run_getObj_map hbu,K.law.check u false hkey,h1,hj,h3,K.law.stays u hkey,hsame,MapKept.run_setObj_map _ hbu,Result.andThen,setBlock,hv]
  ·rw [hf]
   exact hput d0 u (by rw [hself];exact hu)
  ·have hidx:es.findIdx? (fun e=>((e.born:Nat):Int)==((e0.born:Nat):Int))=some j:=by
    rw [WideElems.findIdx_arr]
    exact WideElems.findIdx_born s2 h2
   have hmod:es.modify j (fun e=>{ e with val:=d })=es.modify j (fun e=>{ key:=e0.key,val:=d,born:=e.born }):=by
    apply Array.ext'
    rw [Array.toList_modify,Array.toList_modify,ChangeMaps.modify_eq_set _ _ _ _ h2,ChangeMaps.modify_eq_set _ _ _ _ h2]
   simp [Instr.entryStore,MapKept.run_getObj_map hu,asInt,asIntOf,goInt,hidx,hmod,MapKept.run_setObj_map _ hu,Result.andThen,setBlock]
end
theorem laidOutM:laidOutB Tryz.prog=true:=by kernel_rfl
theorem lawKey:WideMaps.KeyLaw Tryz.prog 25:=deep_law_laid laidOutM (m:=2) (by decide) (of_decide_eq_true (by kernel_rfl)) (by kernel_rfl) (by kernel_rfl)
abbrev ke (s:ByteArray) (d:Nat):Value:=.agg #[.string s,.int .u8 (d:Int)]
theorem keyOf_ke {s:ByteArray} {d:Nat} (hs:s.size≤maxLen) (hd:d<256):∃ kl,keyOf Tryz.prog 25 (ke s d)=some kl:=by
 have hu:=Tryz.underlying25
 have hk:Tryz.prog.keyType 25=true:=by kernel_rfl
 obtain ⟨m,hm⟩:∃ m,Tryz.prog.types.size+1=m+2:=⟨Tryz.prog.types.size-1,by have:1≤Tryz.prog.types.size:=(by kernel_rfl:decide (1≤Tryz.prog.types.size)=true) |> of_decide_eq_true;omega⟩
 have hc9:Tryz.prog.cellsOf 9=1:=by kernel_rfl
 have hc31:Tryz.prog.cellsOf 23=1:=by kernel_rfl
 have hc33:Tryz.prog.cellsOf 25=2:=by kernel_rfl
 have hd2:(Lit.int .u8 (d:Int)).wf=true:=by
  simp only [Lit.wf,show IntKind.u8.min=0 from rfl,show IntKind.u8.max=255 from rfl,Bool.and_eq_true,decide_eq_true_eq]
  omega
 unfold keyOf ke
 simp only [hu]
 rw [if_pos (by simp [hk,Value.formed,hu,hc33]),hm]
 unfold Program.keyLits
 simp only [hu,Value.cells]
 rw [if_pos (by simp [hc33])]
 simp [hc9,hc31,Program.keyLits,Tryz.underlying9,Tryz.underlying23,hd2,hs]
def KK:Kys Tryz.prog 25 (ByteArray × Nat) where
 key:=fun x=>ke x.1 x.2
 inj:=fun x y h=>by
  have:x.1=y.1∧(x.2:Int)=(y.2:Int):=by simpa [ke] using h
  exact Prod.ext this.1 (by omega)
 ok:=fun x=>x.1.size≤maxLen∧x.2<256
 law:=lawKey
 has:=fun x h=>keyOf_ke h.1 h.2
def isDcl (nm:ByteArray) (sd kd:Nat):Bool:=nameB nm && (decide (1≤sd) && (decide (sd≤3) && (decide (1≤kd) && decide (kd≤2))))
set_option maxHeartbeats 1000000 in
theorem isDecl_any (nm:ByteArray) (sd kd:Nat) (hs:nm.size≤140737488355328) (w:World) (hL:Laid w):Calls Tryz.prog 21 #[.agg #[.string nm,.int .u8 (sd:Int),.int .u8 (kd:Int)]] w fun e w'=>e=.returned (.bool (isDcl nm sd kd))∧Below w.heap.size w w':=by
 have hA:Below w.heap.size w (w.alloc (.cells #[.string nm,.int .u8 (sd:Int),.int .u8 (kd:Int)] 56)):=(Below.refl _ _).alloc (Nat.le_refl _) _
 have C:=hidI (isName2_any nm hs (w.alloc (.cells #[.string nm,.int .u8 (sd:Int),.int .u8 (kd:Int)] 56)) (hL.on hA))
 have HA:=hidI hA
 have HC0:Hid ((w.alloc (.cells #[.string nm,.int .u8 (sd:Int),.int .u8 (kd:Int)] 56)).cell? ⟨w.heap.size,1,none⟩=some (.int .u8 (sd:Int))):=hidI (by go_simp)
 have HC1:Hid ((w.alloc (.cells #[.string nm,.int .u8 (sd:Int),.int .u8 (kd:Int)] 56)).cell? ⟨w.heap.size,2,none⟩=some (.int .u8 (kd:Int))):=hidI (by go_simp)
 have HR:Hid (isDcl nm sd kd=(nameB nm && (decide ((1:Int)≤(sd:Int)) && (decide ((sd:Int)≤3) && (decide ((1:Int)≤(kd:Int)) && decide ((kd:Int)≤2)))))):=hidI (by
  unfold isDcl
  rw [show decide (1≤sd)=decide ((1:Int)≤(sd:Int)) by congr 1;simp;omega,show decide (sd≤3)=decide ((sd:Int)≤3) by congr 1;simp;omega,show decide (1≤kd)=decide ((1:Int)≤(kd:Int)) by congr 1;simp;omega,show decide (kd≤2)=decide ((kd:Int)≤2) by congr 1;simp;omega])
 rw [HR.out]
 obtain ⟨b0,h0⟩:∃ b,nameB nm=b:=⟨_,rfl⟩
 obtain ⟨b1,h1⟩:∃ b,decide ((1:Int)≤(sd:Int))=b:=⟨_,rfl⟩
 obtain ⟨b2,h2⟩:∃ b,decide ((sd:Int)≤3)=b:=⟨_,rfl⟩
 obtain ⟨b3,h3⟩:∃ b,decide ((1:Int)≤(kd:Int))=b:=⟨_,rfl⟩
 obtain ⟨b4,h4⟩:∃ b,decide ((kd:Int)≤2)=b:=⟨_,rfl⟩
 rw [h0] at C
 rw [h0,h1,h2,h3,h4]
 clear hL hA HR h0
 cases b0<;>cases b1<;>cases b2<;>cases b3<;>cases b4
 all_goals
  go_enter Tryz.func21,Tryz.ntmps21
  go_wp2_with (go_at_call 35;refine C.out.mono ?_;intro e w1 hh;obtain ⟨rfl,hb1⟩:=hh;clear C;have c1:=(hb1.cell (World.block_lt_of_cell? _ _ HC0.out)).trans HC0.out;have c2:=(hb1.cell (World.block_lt_of_cell? _ _ HC1.out)).trans HC1.out)
  go_ret
  exact ⟨rfl,HA.out.trans (hb1.mono HA.out.size)⟩
@[go_sem] def opsKN:Nat→Oper
 | 0=>⟨some 3,.fieldAddr 56 (.tmp 1) 0,0, "scope.go:42",#[],none⟩
 | 1=>⟨some 4,.load 9 (.tmp 3),9, "scope.go:42",#[⟨0,.data⟩],none⟩
 | 2=>⟨some 5,.call ⟨.value (.func 36),#[.tmp 4],#[9]⟩,9, "scope.go:42",#[⟨1,.data⟩],none⟩
 | 3=>⟨some 6,.fieldAddr 56 (.tmp 1) 1,0, "scope.go:42",#[],none⟩
 | 4=>⟨some 7,.load 23 (.tmp 6),23, "scope.go:42",#[⟨3,.data⟩],none⟩
 | 5=>⟨some 8,.build 25 #[(0,.tmp 5),(1,.tmp 7)],25, "scope.go:42",#[⟨2,.data⟩,⟨4,.data⟩],none⟩
 | _=>⟨none,.store 25 (.tmp 2) (.tmp 8),0, "scope.go:42",#[⟨5,.data⟩,⟨2,.chain⟩,⟨0,.phase⟩,⟨1,.phase⟩,⟨2,.phase⟩,⟨3,.phase⟩,⟨4,.phase⟩,⟨5,.phase⟩],none⟩
def opsK:Array Oper:=opsA opsKN 6
theorem opsK_0:opsK[0]?=some (opsKN 0):=zaA opsKN 6 (by decide)
theorem opsK_1:opsK[1]?=some (opsKN 1):=zaA opsKN 6 (by decide)
theorem opsK_2:opsK[2]?=some (opsKN 2):=zaA opsKN 6 (by decide)
theorem opsK_3:opsK[3]?=some (opsKN 3):=zaA opsKN 6 (by decide)
theorem opsK_4:opsK[4]?=some (opsKN 4):=zaA opsKN 6 (by decide)
theorem opsK_5:opsK[5]?=some (opsKN 5):=zaA opsKN 6 (by decide)
theorem opsK_6:opsK[6]?=some (opsKN 6):=zaA opsKN 6 (by decide)
set_option maxRecDepth 100000 in
set_option maxHeartbeats 2000000 in
theorem regK {x0 x3 x4 x5 x6 x7 x8:Value} {Q:Exit→Act→World→Prop} {V0:World} {db kb:Nat} {nm:ByteArray} {sd:Int} {v0 v1:Value}
  (c0:V0.drew.cell? ⟨db,0,none⟩=some (.string nm)) (c1:V0.drew.cell? ⟨db,1,none⟩=some (.int .u8 sd)) (r0:V0.drew.cell? ⟨kb,0,none⟩=some v0) (r1:V0.drew.cell? ⟨kb,1,none⟩=some v1) (fz:∀ j,V0.drew.frozen? ⟨kb,j,none⟩=false)
  (HC:Hid (∀ W,Calls Tryz.prog 36 #[.string nm] W fun e w'=>e=.returned (.string nm)∧Below W.heap.size W w'))
  (hpan:∀ c (a:Act) w (dd:Tmp) vv,Q (.panic c) (a.put (some dd) vv) w→Q (.panic c) a w)
  (hQ:∀ (W:World) (t3 t4 t5 t6 t7 t8:Value),Below V0.drew.heap.size V0.drew W→Q .normal { tmps:=#[x0,.pointer (some ⟨db,0,none⟩),.pointer (some ⟨kb,0,none⟩),t3,t4,t5,t6,t7,t8],defers:=[] } ((W.setCell ⟨kb,0,none⟩ (.string nm)).setCell ⟨kb,1,none⟩ (.int .u8 sd))) :
  (Code.region 1 opsK true).wp Tryz.prog Q { tmps:=#[x0,.pointer (some ⟨db,0,none⟩),.pointer (some ⟨kb,0,none⟩),x3,x4,x5,x6,x7,x8],defers:=[] } V0:=by
 refine zbE (fun y=>(y.heap[db]?=V0.drew.heap[db]?∧y.heap[kb]?=V0.drew.heap[kb]?)) 6 Tryz.mixed ?_
 obtain ⟨V,hV⟩:∃ V,V0.drew=V:=⟨_,rfl⟩
 rw [hV] at c0 c1 r0 r1 fz hQ ⊢
 clear hV
 have HQ:=hidI hQ
 have HPan:=hidI hpan
 have hS0:(V.heap[db]?=V.heap[db]?∧V.heap[kb]?=V.heap[kb]?):=⟨rfl,rfl⟩
 have hDl:db<V.heap.size:=World.block_lt_of_cell? V _ c0
 have hKl:kb<V.heap.size:=World.block_lt_of_cell? V _ r0
 clear hQ hpan
 refine zaF [1,2,5,6] (i:=0) (v:=(.pointer (some ⟨db,0,none⟩))) opsK_0 HPan.out hS0 (fun y hy => ?_) ?_
 ·go_simp
 refine zaF [2,5,6] (i:=1) (v:=(.string nm)) opsK_1 HPan.out hS0 (fun y hy => ?_) ?_
 ·have q0:=(World.cell?_of_block (w:=V) (a:=⟨db,0,none⟩) hy.1).trans c0;go_simp
 refine zaF [4,5,6] (i:=3) (v:=(.pointer (some ⟨db,1,none⟩))) opsK_3 HPan.out hS0 (fun y hy => ?_) ?_
 ·go_simp
 refine zaF [5,6] (i:=4) (v:=(.int .u8 sd)) opsK_4 HPan.out hS0 (fun y hy => ?_) ?_
 ·have q1:=(World.cell?_of_block (w:=V) (a:=⟨db,1,none⟩) hy.1).trans c1;go_simp
 refine zbB (rs:=[2]) (by kernel_rfl) (by simp) fun j2 hj2 => ?_
 obtain rfl:j2=2:=by simpa using hj2
 refine zaN opsK_2 rfl fun K1 hK1 => ?_
 unfold Oper.wp
 go_simp
 refine Calls.mono (HC.out V) ?_
 intro e W1 h1
 obtain ⟨rfl,hb1⟩:=h1
 refine hK1 _ _ ⟨fun _=>⟨hb1.block _ hDl,hb1.block _ hKl⟩,?_⟩
 clear hK1 K1
 have hS1:(W1.heap[db]?=V.heap[db]?∧W1.heap[kb]?=V.heap[kb]?):=⟨hb1.block _ hDl,hb1.block _ hKl⟩
 refine zaF [6] (i:=5) (v:=(.agg #[.string nm,.int .u8 sd])) opsK_5 HPan.out hS1 (fun y hy => ?_) ?_
 ·go_simp
 refine zbN (by kernel_rfl) (by kernel_rfl) ?_ _
 refine zaN opsK_6 rfl fun K1 hK1 => ?_
 have s0:=(World.cell?_of_block (w:=V) (a:=⟨kb,0,none⟩) hS1.2).trans r0
 have s1:=(World.cell?_of_block (w:=V) (a:=⟨kb,1,none⟩) hS1.2).trans r1
 have g0:=(World.frozen?_of_block (w:=V) (a:=⟨kb,0,none⟩) hS1.2).trans (fz 0)
 have g1:=(World.frozen?_of_block (w:=V) (a:=⟨kb,1,none⟩) hS1.2).trans (fz 1)
 unfold Oper.wp
 go_simp
 refine hK1 _ _ ?_
 exact HQ.out W1 _ _ _ _ _ _ hb1
theorem keyOf_any (nm:ByteArray) (sd kd:Nat) (hs:nm.size≤140737488355328) (w:World):Calls Tryz.prog 22 #[.agg #[.string nm,.int .u8 (sd:Int),.int .u8 (kd:Int)]] w fun e w'=>e=.returned (.agg #[.string nm,.int .u8 (sd:Int)])∧Below w.heap.size w w':=by
 have HC:=hidI (fun W=>zdG nm hs W)
 have HB:Hid (Below w.heap.size w ((w.alloc (.cells #[.string nm,.int .u8 (sd:Int),.int .u8 (kd:Int)] 56)).alloc (.cells #[.string ⟨#[]⟩,.int .u8 0] 25))):=hidI (((Below.refl _ _).alloc (Nat.le_refl _) _).alloc (by simp) _)
 go_enter Tryz.func22,Tryz.ntmps22
 go_wp2
 have k0:((w.alloc (.cells #[.string nm,.int .u8 (sd:Int),.int .u8 (kd:Int)] 56)).alloc (.cells #[.string ⟨#[]⟩,.int .u8 0] 25)).cell? ⟨w.heap.size+1,0,none⟩=some (.string ⟨#[]⟩):=by go_simp
 have k1:((w.alloc (.cells #[.string nm,.int .u8 (sd:Int),.int .u8 (kd:Int)] 56)).alloc (.cells #[.string ⟨#[]⟩,.int .u8 0] 25)).cell? ⟨w.heap.size+1,1,none⟩=some (.int .u8 0):=by go_simp
 refine regK (db:=w.heap.size) (kb:=w.heap.size+1) (nm:=nm) (sd:=(sd:Int)) (v0:=.string ⟨#[]⟩) (v1:=.int .u8 0) (by go_simp) (by go_simp) (by go_simp) (by go_simp) (fun j=>by go_simp) HC (fun _ _ _ _ _ h=>h) ?_
 intro W t3 t4 t5 t6 t7 t8 hW
 have c0:=(hW.cell (World.block_lt_of_cell? _ _ k0)).trans k0
 have c1:=(hW.cell (World.block_lt_of_cell? _ _ k1)).trans k1
 have HBW:Hid (Below w.heap.size w W):=hidI (HB.out.trans (Below.mono ⟨hW.os,hW.tape,hW.output,hW.size,hW.block⟩ (by simp;omega)))
 clear hW k0 k1
 go_wp2
 refine bodyPost_ret (v:=.agg #[.string nm,.int .u8 (sd:Int)]) ?_ rfl ?_
 ·rw [zaC rfl]
  (go_simp<;>first|done|rfl)
 ·exact ⟨rfl,(HBW.out.setCell (by show w.heap.size≤w.heap.size+1;omega) _).setCell (by show w.heap.size≤w.heap.size+1;omega) _⟩
end Go.Proofs.YtmekkhfohmfjkaaGreatDoor
