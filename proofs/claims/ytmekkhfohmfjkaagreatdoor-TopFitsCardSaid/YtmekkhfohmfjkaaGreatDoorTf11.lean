/-
  Part 11 of the proof: PLook, RdB, PEach.
-/
import Derived.Test.YtmekkhfohmfjkaaGreatDoorTf10
import Derived.Test.YtmekkhfohmfjkaaGreatDoorTf07
import Derived.Test.YtmekkhfohmfjkaaGreatDoorTf06
namespace Go.Proofs.YtmekkhfohmfjkaaGreatDoor
open Go.RowKit Go.Deep Go.MapKept Go.WideMaps Go.WideShapes
theorem vw_getD (n:Nat):(vw n).getD (.int .u8 0)=.int .u8 (n:Int):=by
 unfold vw
 split
 ·subst_vars;rfl
 ·rfl
theorem vw_some (n:Nat):(vw n).isSome=decide (n≠0):=by unfold vw;split<;>simp_all
theorem opOf_le (s:ByteArray):opOf s≤19:=by
 unfold opOf
 split
 ·rename_i i h
  have:=(List.findIdx?_eq_some_iff_getElem.1 h).1
  simp only [opWs,List.length_cons,List.length_nil] at this
  omega
 ·omega
theorem stmtOf_le (s:ByteArray):stmtOf s≤7:=by
 unfold stmtOf;repeat' split
 all_goals omega
theorem actOf_le (s:ByteArray):actOf s≤3:=by
 unfold actOf;repeat' split
 all_goals omega
theorem exprOf_le (s:ByteArray):exprOf s≤9:=by
 unfold exprOf;repeat' split
 all_goals omega
section
variable {c : Cx} {w : World}
theorem look_op (hc:c.Ok) (hb:Below c.w0.heap.size c.w0 w) {s:ByteArray} (hs:s.size≤140737488355328):(Instr.lookup 104 (.map (some c.vo.o)) (.string s) false).run Tryz.prog w=.ok (.int .u8 (opOf s:Int)) w:=by
 have h:=look under_89 Tryz.underlying9 zero_89 (hc.voc.o.same (hb.block _ hc.voc.o.lt)) (s:=s) (by unfold maxLen;omega) false
 rw [voc_op,vw_getD] at h
 exact h
theorem look_op2 (hc:c.Ok) (hb:Below c.w0.heap.size c.w0 w) {s:ByteArray} (hs:s.size≤140737488355328):(Instr.lookup 104 (.map (some c.vo.o)) (.string s) true).run Tryz.prog w=.ok (.tuple #[.int .u8 (opOf s:Int),.bool (decide (opOf s≠0))]) w:=by
 have h:=look under_89 Tryz.underlying9 zero_89 (hc.voc.o.same (hb.block _ hc.voc.o.lt)) (s:=s) (by unfold maxLen;omega) true
 rw [voc_op,vw_getD,vw_some] at h
 exact h
theorem look_stmt (hc:c.Ok) (hb:Below c.w0.heap.size c.w0 w) {s:ByteArray} (hs:s.size≤140737488355328):(Instr.lookup 101 (.map (some c.vo.s)) (.string s) true).run Tryz.prog w=.ok (.tuple #[.int .u8 (stmtOf s:Int),.bool (decide (stmtOf s≠0))]) w:=by
 have h:=look under_86 Tryz.underlying9 zero_86 (hc.voc.s.same (hb.block _ hc.voc.s.lt)) (s:=s) (by unfold maxLen;omega) true
 rw [voc_stmt,vw_getD,vw_some] at h
 exact h
theorem look_act (hc:c.Ok) (hb:Below c.w0.heap.size c.w0 w) {s:ByteArray} (hs:s.size≤140737488355328):(Instr.lookup 102 (.map (some c.vo.a)) (.string s) true).run Tryz.prog w=.ok (.tuple #[.int .u8 (actOf s:Int),.bool (decide (actOf s≠0))]) w:=by
 have h:=look under_87 Tryz.underlying9 zero_87 (hc.voc.a.same (hb.block _ hc.voc.a.lt)) (s:=s) (by unfold maxLen;omega) true
 rw [voc_act,vw_getD,vw_some] at h
 exact h
theorem look_expr (hc:c.Ok) (hb:Below c.w0.heap.size c.w0 w) {s:ByteArray} (hs:s.size≤140737488355328):(Instr.lookup 103 (.map (some c.vo.x)) (.string s) true).run Tryz.prog w=.ok (.tuple #[.int .u8 (exprOf s:Int),.bool (decide (exprOf s≠0))]) w:=by
 have h:=look under_88 Tryz.underlying9 zero_88 (hc.voc.x.same (hb.block _ hc.voc.x.lt)) (s:=s) (by unfold maxLen;omega) true
 rw [voc_expr,vw_getD,vw_some] at h
 exact h
theorem look_decl (hc:c.Ok) (hb:Below c.w0.heap.size c.w0 w) {s:ByteArray} (hs:s.size≤140737488355328):(Instr.lookup 100 (.map (some c.vo.d)) (.string s) true).run Tryz.prog w=.ok (.tuple #[(decV (declOf s)).getD (.agg #[.string ⟨#[]⟩,.int .u8 0,.int .u8 0]),.bool (decV (declOf s)).isSome]) w:=by
 have h:=look under_85 Tryz.underlying9 zero_85 (hc.voc.d.same (hb.block _ hc.voc.d.lt)) (s:=s) (by unfold maxLen;omega) true
 rw [voc_decl] at h
 exact h
end
abbrev fval (x:FV):Value:=.agg #[.int .u8 x.1.k,.string x.1.s,.int .i64 x.1.n,x.2,.int .i64 x.1.p]
def redQ:Nat→Int
 | 6=>9223372036854775807
 | 7 => -9223372036854775808
 | 16=>1
 | _=>0
theorem redQ_any (o:Nat) (ho:o≤19) (w:World):Calls Tryz.prog 146 #[.int .u8 (o:Int)] w fun e w'=>e=.returned (.tuple #[.int .i64 (redQ o),.bool (redN o)])∧w=w':=by
 have hm:o=0∨o=1∨o=2∨o=3∨o=4∨o=5∨o=6∨o=7∨o=8∨o=9∨o=10∨o=11∨o=12∨o=13∨o=14∨o=15∨o=16∨o=17∨o=18∨o=19:=by omega
 rcases hm with rfl|rfl|rfl|rfl|rfl|rfl|rfl|rfl|rfl|rfl|rfl|rfl|rfl|rfl|rfl|rfl|rfl|rfl|rfl|rfl
 all_goals
  go_enter Tryz.func146,Tryz.ntmps146
  go_wp2
  go_ret2
  exact ⟨rfl,rfl⟩
theorem zcH (s t:ByteArray):(s.toList==t.toList)=decide (s=t):=by
 by_cases h:s=t
 ·subst h;simp
 ·rw [decide_eq_false h,beq_eq_false_iff_ne]
  intro e
  apply h
  rw [ByteArray.toList_eq,ByteArray.toList_eq] at e
  cases s;cases t
  simp only [ByteArray.mk.injEq]
  exact Array.toList_inj.1 (by simpa using e)
set_option maxHeartbeats 1000000 in
theorem looks_any {c:Cx} (hc:c.Ok) {p:PV} {X:List Rw} {w:World} (h:RdS c p X w) {n:Nat} {x:FV} (hx:c.fs[n]?=some x) (t:Nat):Calls Tryz.prog 121 #[.pointer (some ⟨c.B,0,none⟩),fval x,.int .i32 (t:Int)] w fun e w'=>e=.returned (.bool (looksP x.1 t))∧Below w.heap.size w w':=by
 have hs:=hc.txt n x hx
 obtain ⟨⟨xk,xs,xn,xks,xp⟩,kv⟩:=x
 simp only at hs
 clear hx
 have hlt:=h.lt
 by_cases t1:t=111
 ·subst t1
  have HR:Hid (looksP ⟨xk,xs,xn,xks,xp⟩ 111=redN (opOf xs)):=hidI (by simp [looksP])
  have HH:=hidI (h.alloc (.cells #[.int .u8 xk,.string xs,.int .i64 xn,kv,.int .i64 xp] 115))
  have HL:=hidI (look_op hc HH.out.drew.below hs)
  have HC:=hidI (fun W=>redQ_any (opOf xs) (opOf_le xs) W)
  have hB:=HH.out.drew.cell (j:=4) (u:=.map (some c.vo.o)) rfl
  have HB:=hidI hB
  have hF:((w.alloc (.cells #[.int .u8 xk,.string xs,.int .i64 xn,kv,.int .i64 xp] 115)).drew).cell? ⟨w.heap.size,1,none⟩=some (.string xs):=by go_simp
  have HF:=hidI hF
  clear h hF hB
  go_enter Tryz.func121,Tryz.ntmps121
  go_wp2
  refine regL (B:=c.B) (fb:=w.heap.size) (mo:=c.vo.o) (s:=xs) ⟨HB.out,HF.out,HL.out⟩ HC (fun _ _ _ _ _ h=>h) (hidI ?_)
  intro t7 t8 t12 t13 t14 t15 t16 t17 t18 t19 t20 t21 t22 t23 h8
  subst h8
  go_wp2
  go_ret
  exact ⟨by rw [HR.out];rfl,by exact belowT⟩
 have d1:((t:Int)==111)=false:=by rw [beq_eq_false_iff_ne];omega
 by_cases t2:t=119
 ·subst t2
  have HR:Hid (looksP ⟨xk,xs,xn,xks,xp⟩ 119=(decide (xs=⟨#[111,117,116]⟩) || decide (xs=⟨#[105,110]⟩))):=hidI (by simp [looksP])
  have b1:=zcH xs ⟨#[111,117,116]⟩
  have b2:=zcH xs ⟨#[105,110]⟩
  have l1:(⟨#[111,117,116]⟩:ByteArray).toList=[111,117,116]:=by decide +kernel
  have l2:(⟨#[105,110]⟩:ByteArray).toList=[105,110]:=by decide +kernel
  rw [l1] at b1
  rw [l2] at b2
  by_cases q1:xs=⟨#[111,117,116]⟩
  ·rw [decide_eq_true q1] at b1 HR
   clear h b2 l1 l2 q1
   go_enter Tryz.func121,Tryz.ntmps121
   go_wp2
   go_ret
   exact ⟨by rw [HR.out];rfl,by exact belowT⟩
  ·rw [decide_eq_false q1] at b1 HR
   obtain ⟨r,hr⟩:∃ r,decide (xs=⟨#[105,110]⟩)=r:=⟨_,rfl⟩
   rw [hr] at b2 HR
   clear h l1 l2 q1 hr
   go_enter Tryz.func121,Tryz.ntmps121
   go_wp2
   go_ret
   exact ⟨by rw [HR.out];rfl,by exact belowT⟩
 have d2:((t:Int)==119)=false:=by rw [beq_eq_false_iff_ne];omega
 by_cases t3:t=116∨t=102
 ·have HR:Hid (looksP ⟨xk,xs,xn,xks,xp⟩ t=(xk==1)):=hidI (by rcases t3 with rfl|rfl<;>simp [looksP])
  obtain ⟨r,hr⟩:∃ r,(xk==1)=r:=⟨_,rfl⟩
  rw [hr] at HR
  clear h
  rcases t3 with rfl|rfl
  all_goals
   go_enter Tryz.func121,Tryz.ntmps121
   go_wp2
   go_ret
   exact ⟨by rw [HR.out];rfl,by exact belowT⟩
 ·have HR:Hid (looksP ⟨xk,xs,xn,xks,xp⟩ t=true):=hidI (by simp [looksP,t1,t2,t3])
  have d3:((t:Int)==116)=false:=by rw [beq_eq_false_iff_ne];omega
  have d4:((t:Int)==102)=false:=by rw [beq_eq_false_iff_ne];omega
  clear h
  go_enter Tryz.func121,Tryz.ntmps121
  go_wp2
  go_ret
  exact ⟨by rw [HR.out];rfl,by exact belowT⟩
open Go.RowKit Go.Deep Go.MapKept
def NQ (q:ES):Nat:=q.1.length+q.2.length
def Bd {α:Type} (c:Cx) (r:RdE α):Prop:=∀ (n:Nat) (q q':ES) (a:α),n<c.fs.length→r n q=.ok (a,q')→NQ q'≤NQ q+c.sz n
section
variable {c : Cx}
theorem Cx.Ok.kids_lt (h:c.Ok) {n:Nat} (hn:n<c.fs.length):∀ k∈(frm c.l n).kids,n<k∧k<c.fs.length:=by
 have hx:=List.getElem?_eq_getElem hn
 rw [Cx.frm_at hx]
 exact h.kidlt n _ hx
theorem Cx.Ok.kids_sz (h:c.Ok) {n:Nat} (hn:n<c.fs.length):1+((frm c.l n).kids.map c.sz).sum≤c.sz n:=by
 have hx:=List.getElem?_eq_getElem hn
 rw [Cx.frm_at hx]
 exact h.szk n _ hx
theorem brkK_sub (l:List Frm) (n:Nat):∀ k∈brkK l n,k∈(frm l n).kids:=fun _ hk=>List.mem_of_mem_tail hk
theorem tail_sum (f:Nat→Nat) (l:List Nat):(l.tail.map f).sum≤(l.map f).sum:=by cases l<;>simp
theorem Cx.Ok.brk_sz (h:c.Ok) {n:Nat} (hn:n<c.fs.length):1+((brkK c.l n).map c.sz).sum≤c.sz n:=by
 have:=h.kids_sz hn
 have:=tail_sum c.sz (frm c.l n).kids
 unfold brkK
 omega
theorem Cx.Ok.brk_lt (h:c.Ok) {n:Nat} (hn:n<c.fs.length):∀ k∈brkK c.l n,n<k∧k<c.fs.length:=fun k hk=>h.kids_lt hn k (brkK_sub _ _ k hk)
theorem Cx.Ok.brk_len (h:c.Ok) {n:Nat} (hn:n<c.fs.length):(brkK c.l n).length≤400:=by
 have hx:=List.getElem?_eq_getElem hn
 have:=h.kidlen n _ hx
 unfold brkK
 rw [Cx.frm_at hx,List.length_tail]
 omega
theorem bd_rows {r:RdE Int} (h:Bd c r):∀ (ks:List Nat) (q q':ES) (is:List Int),(∀ k∈ks,k<c.fs.length)→rows r ks q=.ok (is,q')→NQ q'≤NQ q+(ks.map c.sz).sum
 | [],q,q',is,_,e=>by simp only [rows,Except.ok.injEq,Prod.mk.injEq] at e;obtain ⟨_,rfl⟩:=e;simp
 | k::ks,q,q',is,hk,e=>by
  simp only [rows] at e
  split at e
  ·cases e
  ·rename_i i q1 h1
   split at e
   ·cases e
   ·rename_i is' q2 h2
    simp only [Except.ok.injEq,Prod.mk.injEq] at e
    obtain ⟨_,rfl⟩:=e
    have a1:=h k q q1 i (hk k (by simp)) h1
    have a2:=bd_rows h ks q1 q2 is' (fun x hx=>hk x (by simp [hx])) h2
    simp only [List.map_cons,List.sum_cons]
    omega
theorem zdQ {α:Type}:Bd c (noE c.l:RdE α):=fun n q q' a _ e=>by simp [noE] at e
theorem bd_take (h:c.Ok) {ex st:RdE Int} {ac:RdE Actn} (h1:Bd c ex) (h2:Bd c ac) (h3:Bd c st) {k k':Ctn} {kid part:Nat} {q q':ES} (hk:kid<c.fs.length) (e:takeP c.l ex ac st k kid part q=.ok (k',q')):NQ q'≤NQ q+c.sz kid:=by
 have hz:=h.kids_sz hk
 unfold takeP at e
 repeat' split at e
 all_goals first
  | (cases e;done)
  | (simp only [Except.ok.injEq,Prod.mk.injEq] at e;obtain ⟨_,rfl⟩:=e;omega)
  | (rename_i hh;simp only [Except.ok.injEq,Prod.mk.injEq] at e;obtain ⟨_,rfl⟩:=e;first|exact h1 _ _ _ _ hk hh|exact h2 _ _ _ _ hk hh|exact h3 _ _ _ _ hk hh|(have:=bd_rows h3 _ _ _ _ (fun x hx=>(h.kids_lt hk x hx).2) hh;omega))
theorem bd_takes (h:c.Ok) {ex st:RdE Int} {ac:RdE Actn} (h1:Bd c ex) (h2:Bd c ac) (h3:Bd c st) (ps:List Nat):∀ (ks:List Nat) (i:Nat) (k k':Ctn) (q q':ES),(∀ x∈ks,x<c.fs.length)→takesP (takeP c.l ex ac st) ps ks i k q=.ok (k',q')→NQ q'≤NQ q+(ks.map c.sz).sum
 | [],i,k,k',q,q',_,e=>by simp only [takesP,Except.ok.injEq,Prod.mk.injEq] at e;obtain ⟨_,rfl⟩:=e;simp
 | x::ks,i,k,k',q,q',hk,e=>by
  simp only [takesP] at e
  split at e
  ·cases e
  ·rename_i k1 q1 e1
   have a1:=bd_take h h1 h2 h3 (hk x (by simp)) e1
   have a2:=bd_takes h h1 h2 h3 ps ks (i+1) k1 k' q1 q' (fun y hy=>hk y (by simp [hy])) e
   simp only [List.map_cons,List.sum_cons]
   omega
theorem bd_content (h:c.Ok) {ex st:RdE Int} {ac:RdE Actn} (h1:Bd c ex) (h2:Bd c ac) (h3:Bd c st) {ps ks:List Nat} {n:Nat} {k':Ctn} {q q':ES} (hk:∀ x∈ks,x<c.fs.length) (e:contentP c.l (takeP c.l ex ac st) ps n ks q=.ok (k',q')):NQ q'≤NQ q+(ks.map c.sz).sum:=by
 unfold contentP at e
 split at e
 ·exact bd_takes h h1 h2 h3 ps ks 0 ctn0 k' q q' hk e
 ·cases e
theorem bd_expr (h:c.Ok):∀ f:Nat,Bd c (pExpr c.l f)
 | 0=>fun n q q' a _ e=>by simp [pExpr] at e
 | f+1=>by
  intro n q q' a hn e
  have hz:=h.brk_sz hn
  have hl:=h.brk_lt hn
  simp only [pExpr] at e
  split at e
  ·simp only [addX,Except.ok.injEq,Prod.mk.injEq] at e;obtain ⟨_,rfl⟩:=e;simp only [NQ,List.length_append,List.length_cons,List.length_nil];omega
  split at e
  ·simp only [addX,Except.ok.injEq,Prod.mk.injEq] at e;obtain ⟨_,rfl⟩:=e;simp only [NQ,List.length_append,List.length_cons,List.length_nil];omega
  split at e
  ·simp only [addX,Except.ok.injEq,Prod.mk.injEq] at e;obtain ⟨_,rfl⟩:=e;simp only [NQ,List.length_append,List.length_cons,List.length_nil];omega
  split at e
  ·simp only [addX,Except.ok.injEq,Prod.mk.injEq] at e;obtain ⟨_,rfl⟩:=e;simp only [NQ,List.length_append,List.length_cons,List.length_nil];omega
  split at e
  ·split at e
   ·cases e
   ·split at e
    ·cases e
    ·rename_i is q1 e1
     have a1:=bd_rows (bd_expr h f) _ _ _ _ (fun x hx=>(hl x hx).2) e1
     simp only [addX,Except.ok.injEq,Prod.mk.injEq] at e;obtain ⟨_,rfl⟩:=e
     simp only [NQ,List.length_append,List.length_cons,List.length_nil] at a1 ⊢;omega
  ·split at e
   ·cases e
   ·split at e
    ·cases e
    ·rename_i k q1 e1
     have a1:=bd_content h zdQ zdQ zdQ (fun x hx=>(hl x hx).2) e1
     simp only [addX,Except.ok.injEq,Prod.mk.injEq] at e;obtain ⟨_,rfl⟩:=e
     simp only [NQ,List.length_append,List.length_cons,List.length_nil] at a1 ⊢;omega
theorem bd_act (h:c.Ok):Bd c (pAct c.l):=by
 intro n q q' a hn e
 have hz:=h.brk_sz hn
 have hl:=h.brk_lt hn
 unfold pAct at e
 split at e
 ·cases e
 ·split at e
  ·cases e
  ·rename_i k q1 e1
   have a1:=bd_content h (bd_expr h _) zdQ zdQ (fun x hx=>(hl x hx).2) e1
   simp only [Except.ok.injEq,Prod.mk.injEq] at e;obtain ⟨_,rfl⟩:=e
   omega
theorem bd_stmt (h:c.Ok):∀ f:Nat,Bd c (pStmt c.l f)
 | 0=>fun n q q' a _ e=>by simp [pStmt] at e
 | f+1=>by
  intro n q q' a hn e
  have hz:=h.brk_sz hn
  have hl:=h.brk_lt hn
  simp only [pStmt] at e
  split at e
  ·cases e
  ·split at e
   ·cases e
   ·rename_i k q1 e1
    have a1:=bd_content h (bd_expr h _) (bd_act h) (bd_stmt h f) (fun x hx=>(hl x hx).2) e1
    simp only [addS,Except.ok.injEq,Prod.mk.injEq] at e;obtain ⟨_,rfl⟩:=e
    simp only [NQ,List.length_append,List.length_cons,List.length_nil] at a1 ⊢;omega
end
structure Bad (c:Cx) (X:List Rw) (w:World):Prop where
 below:Below c.w0.heap.size c.w0 w
 rows:RowsP w c.w0.heap.size X
theorem Bad.sub {c:Cx} {X Y:List Rw} {w:World} (h:Bad c Y w) (hs:X.Sublist Y):Bad c X w:=⟨h.below,h.rows.sub hs⟩
theorem RdS.bad {c:Cx} {p:PV} {X Y:List Rw} {w:World} (h:RdS c p Y w) (hs:X.Sublist Y):Bad c X w:=⟨h.below,h.rows.sub (hs.trans (List.sublist_append_right _ _))⟩
def RPost {α:Type} (c:Cx) (X:List Rw) (p:PV) (ret:α→Value) (r:Except Int (α × ES)) (e:Ending) (w':World):Prop:=
 match r with
 | .error q=>e=.panicked (flt2 q)∧Bad c X w'
 | .ok (a,q)=>e=.returned (ret a)∧∃ p',p'.es=q∧(p'.ds,p'.dv)=(p.ds,p.dv)∧(p'.ms,p'.mv)=(p.ms,p.mv)∧RdS c p' X w'
abbrev rI:Int→Value:=fun i=>.int .i64 i
def RC {α:Type} (c:Cx) (F n:Nat) (ret:α→Value) (r:RdE α):Prop:=
 ∀ (p:PV) (X:List Rw) (w:World),RdS c p X w→NQ p.es+c.sz n≤1000→Calls Tryz.prog F #[.pointer (some ⟨c.B,0,none⟩),.int .i64 (n:Int)] w (RPost c X p ret (r n p.es))
def iRow (v:Value) (is:List Int):Rw:=⟨v,3,1,is.length,intsI is⟩
def EachPost (c:Cx) (X:List Rw) (p:PV) (r:Except Int (List Int × ES)) (e:Ending) (w':World):Prop:=
 match r with
 | .error q=>e=.panicked (flt2 q)∧Bad c X w'
 | .ok (is,q)=>∃ ov p',e=.returned ov∧p'.es=q∧(p'.ds,p'.dv)=(p.ds,p.dv)∧(p'.ms,p'.mv)=(p.ms,p.mv)∧RdS c p' (iRow ov is::X) w'
theorem rows_snoc {r:RdE Int}:∀ (ks:List Nat) (k:Nat) (q q1:ES) (is:List Int),rows r ks q=.ok (is,q1)→rows r (ks++[k]) q=(match r k q1 with|.error e=>.error e|.ok (i,q2)=>.ok (is++[i],q2))
 | [],k,q,q1,is,e=>by
  simp only [rows,Except.ok.injEq,Prod.mk.injEq] at e
  obtain ⟨rfl,rfl⟩:=e
  simp only [List.nil_append,rows]
  cases r k q with
  | error e=>rfl
  | ok x=>rfl
 | x::ks,k,q,q1,is,e=>by
  simp only [rows] at e
  simp only [List.cons_append,rows]
  cases hx:r x q with
  | error e9=>rw [hx] at e;cases e
  | ok y=>
   obtain ⟨i,q2⟩:=y
   rw [hx] at e
   simp only at e ⊢
   cases hy:rows r ks q2 with
   | error e9=>rw [hy] at e;cases e
   | ok z=>
    obtain ⟨is',q3⟩:=z
    rw [hy] at e
    simp only [Except.ok.injEq,Prod.mk.injEq] at e
    obtain ⟨rfl,rfl⟩:=e
    rw [rows_snoc ks k q2 q3 is' hy]
    cases r k q3 with
    | error e=>rfl
    | ok x=>rfl
theorem rows_err {r:RdE Int}:∀ (a b:List Nat) (q:ES) (e:Int),rows r a q=.error e→rows r (a++b) q=.error e
 | [],_,_,_,h=>by simp [rows] at h
 | x::a,b,q,e,h=>by
  simp only [rows] at h
  simp only [List.cons_append,rows]
  cases hx:r x q with
  | error e'=>rw [hx] at h;exact h
  | ok y=>
   obtain ⟨i,q2⟩:=y
   rw [hx] at h
   simp only at h ⊢
   cases hy:rows r a q2 with
   | error e'=>rw [hy] at h;rw [rows_err a b q2 e' hy];exact h
   | ok z=>rw [hy] at h;cases h
theorem rows_len {r:RdE Int}:∀ (ks:List Nat) (q q1:ES) (is:List Int),rows r ks q=.ok (is,q1)→is.length=ks.length
 | [],q,q1,is,e=>by simp only [rows,Except.ok.injEq,Prod.mk.injEq] at e;obtain ⟨rfl,rfl⟩:=e;rfl
 | x::ks,q,q1,is,e=>by
  simp only [rows] at e
  cases hx:r x q with
  | error e9=>rw [hx] at e;cases e
  | ok y=>
   obtain ⟨i,q2⟩:=y
   rw [hx] at e
   simp only at e
   cases hy:rows r ks q2 with
   | error e9=>rw [hy] at e;cases e
   | ok z=>
    obtain ⟨is',q3⟩:=z
    rw [hy] at e
    simp only [Except.ok.injEq,Prod.mk.injEq] at e
    obtain ⟨rfl,rfl⟩:=e
    simp [rows_len ks q2 q3 is' hy]
theorem take_sum_le (f:Nat→Nat) (l:List Nat) (j k:Nat) (h:l[j]?=some k):((l.take j).map f).sum+f k≤(l.map f).sum:=by
 have:l=l.take j++k::l.drop (j+1):=by
  have hj:=(List.getElem?_eq_some_iff.1 h).1
  have hv:=(List.getElem?_eq_some_iff.1 h).2
  rw [←hv,List.getElem_cons_drop,List.take_append_drop]
 have e:=congrArg (fun l=>(l.map f).sum) this
 simp only [List.map_append,List.map_cons,List.sum_append,List.sum_cons] at e
 omega
theorem RdS.seesK {c:Cx} {p:PV} {X:List Rw} {w:World} (h:RdS c p X w) {kv:Value} {ks:List Nat} (hk:SeesK c.w0 kv ks):SeesK w kv ks:=hk.below h.below (Nat.le_refl _)
set_option maxHeartbeats 2000000 in
theorem each_any {c:Cx} {F:Nat} {r:RdE Int} {ks:List Nat} {kv:Value} (hk:SeesK c.w0 kv ks) (hkl:ks.length≤400) (hlt:∀ k∈ks,k<c.fs.length) (HF:∀ k∈ks,RC c F k rI r) (hbd:Bd c r) {p:PV} {X:List Rw} {w:World} (h:RdS c p X w) (hN:NQ p.es+(ks.map c.sz).sum≤1000) (hF:F=148∨F=93) :
  Calls Tryz.prog 150 #[kv,.func (.func F) #[.pointer (some ⟨c.B,0,none⟩)] #[]] w (EachPost c X p (rows r ks p.es)):=by
 obtain ⟨_,a,cap,rfl,hcell⟩:=id hk
 obtain ⟨n,hn⟩:∃ n,ks.length=n:=⟨_,rfl⟩
 have HN:=hidI hn
 have HH:=hidI h
 have HK:=hidI hk
 have HHF:=hidI HF
 have HNN:=hidI hN
 rw [hn] at hkl
 rw [hn]
 clear hn h hk HF hN hcell
 have HSTART:Hid (RdS c p (iRow (.slice none 0 0) []::X) w):=hidI (HH.out.more (HH.out.rows.nil 3 1))
 go_enter Tryz.func150,Tryz.ntmps150
 go_wp2
 go_loopg [5,10] n (fun g s5 s10 wx=>∃ (j:Nat) (pj:PV) (is:List Int) (ov:Value),j+g=n∧ov=s5∧s10=.int .i64 (j:Int)∧Hid (rows r (ks.take j) p.es=.ok (is,pj.es))∧Hid ((pj.ds,pj.dv)=(p.ds,p.dv)∧(pj.ms,pj.mv)=(p.ms,p.mv))∧Hid (RdS c pj (iRow ov is::X) wx))
 case atStart=>exact ⟨0,p,[],_,by omega,rfl,rfl,hidI rfl,hidI ⟨rfl,rfl⟩,HSTART⟩
 case round=>
  obtain ⟨j,pj,is,ov,hjg,rfl,rfl,HR,HD,HS⟩:=hrel
  cases gk with
  | zero=>
   obtain rfl:n=j:=by omega
   have k1:decide ((n:Int)<(n:Int))=false:=by simp
   have HR2:Hid (rows r ks p.es=.ok (is,pj.es)):=hidI (by have:=HR.out;rwa [List.take_of_length_le (by have:=HN.out;omega)] at this)
   go_wp2
   go_ret
   rw [HR2.out]
   exact ⟨ov,pj,rfl,rfl,HD.out.1,HD.out.2,HS.out⟩
  | succ g=>
   have k1:(j:Int)<(n:Int):=by omega
   obtain ⟨k,hk⟩:∃ k,ks[j]?=some k:=⟨_,List.getElem?_eq_getElem (by have:=HN.out;omega)⟩
   have hmem:k∈ks:=List.mem_of_getElem? hk
   have hisl:is.length=j:=by rw [rows_len _ _ _ _ HR.out,List.length_take];have:=HN.out;omega
   obtain ⟨_,a',cap',hav,hcell⟩:=HS.out.seesK HK.out
   rw [HN.out] at hav
   cases hav
   rcases hcell with h0|⟨b,o,rfl,hcell⟩
   ·have:=HN.out;omega
   have x0:=hcell j _ (ints_get hk)
   have hbud:NQ pj.es+c.sz k≤1000:=by
    have a1:=bd_rows hbd _ _ _ _ (fun x hx=>hlt x (List.mem_of_mem_take hx)) HR.out
    have a2:=take_sum_le c.sz ks j k hk
    have:=HNN.out
    omega
   have C:=hidI (HHF.out k hmem pj (iRow ov is::X) wr HS.out hbud)
   have HTK:Hid (ks.take (j+1)=ks.take j++[k]):=hidI (by rw [List.take_add_one,hk];rfl)
   have HSN:=hidI (rows_snoc (r:=r) (ks.take j) k p.es pj.es is HR.out)
   have HDR:Hid (ks=ks.take (j+1)++ks.drop (j+1)):=hidI (List.take_append_drop _ _).symm
   clear hk hmem hcell hbud
   cases hr:r k pj.es with
   | error q=>
    have HE:Hid (rows r ks p.es=.error q):=hidI (by
     rw [HDR.out]
     refine rows_err _ _ _ _ ?_
     rw [HTK.out,HSN.out,hr])
    rw [hr] at C
    clear hr HSN HTK HDR
    rcases hF with rfl|rfl
    all_goals
     go_wp2_with (first
      | (go_at_call 148;refine C.out.mono ?_;intro e w1 h1;obtain ⟨rfl,hb1⟩:=h1;clear C)
      | (go_at_call 93;refine C.out.mono ?_;intro e w1 h1;obtain ⟨rfl,hb1⟩:=h1;clear C))
     refine ⟨rfl,?_⟩
     rw [HE.out]
     exact ⟨rfl,hb1.sub (.cons _ (.refl _))⟩
   | ok y=>
    obtain ⟨i,q⟩:=y
    have HE:Hid (rows r (ks.take (j+1)) p.es=.ok (is++[i],q)):=hidI (by rw [HTK.out,HSN.out,hr])
    rw [hr] at C
    clear hr HSN HTK HDR HR
    rcases hF with rfl|rfl
    all_goals
     go_wp2_with (first
      | (go_at_call 148;refine C.out.mono ?_;intro e w1 h1;obtain ⟨rfl,hb1⟩:=h1;clear C;refine Hid.out ?_)
      | (go_at_call 93;refine C.out.mono ?_;intro e w1 h1;obtain ⟨rfl,hb1⟩:=h1;clear C;refine Hid.out ?_))
     obtain ⟨p1,hes1,hds1,hms1,hS1⟩:=hb1
     have HO:=hidI (World.ownsRow.alloc (RowsP.head (r:=iRow ov is) hS1.first) (.cells #[.int .i64 i] 3))
     have HV:=hidI (zcU w1 3 1 #[.int .i64 i] rfl)
     have HS1:=hidI hS1
     have hb1:=hS1.size
     clear hS1
     refine hidI ?_
     go_wp2_with (at_builtin;go_must (refine zbT Tryz.underlying45 Tryz.info3z rfl (by decide) (by decide) rfl _ _ rfl c.w0.heap.size ov is.length (intsI is) rfl HO.out _ 1 [.int .i64 i] rfl HV.out (by simp [Value.oneCell']) (by omega) (by simp;omega) ?_);intro v9 w9 hown9 hgrow9 hat9;refine Hid.out ?_)
     have hP:=HS1.out.first.alloc (.cells #[.int .i64 i] 3)
     have hP2:RowsP w9 c.w0.heap.size (iRow v9 (is++[i])::(prows c p1++X)):=hP.put (r':=iRow v9 (is++[i])) hgrow9 (by
      show w9.ownsRow c.w0.heap.size 3 1 v9 (is++[i]).length (intsI (is++[i]))
      rw [List.length_append]
      simpa [intsI] using hown9) (.inr hat9)
     have HS9:Hid (RdS c p1 (iRow v9 (is++[i])::X) w9):=hidI ⟨(HS1.out.below.alloc hb1 _).grown hgrow9 (by simp;omega) (fun k hk=>(HO.out.lt k hk).1),hP2.perm List.perm_middle.symm⟩
     have HD1:Hid ((p1.ds,p1.dv)=(p.ds,p.dv)∧(p1.ms,p1.mv)=(p.ms,p.mv)):=hidI ⟨hds1.trans HD.out.1,hms1.trans HD.out.2⟩
     have HE1:Hid (rows r (ks.take (j+1)) p.es=.ok (is++[i],p1.es)):=hidI (by rw [hes1];exact HE.out)
     clear hown9 hgrow9 hat9 hP hP2 HS1 HO HV HS HE HD hes1 hds1 hms1
     refine hidI ?_
     go_wp2
     go_roundg g
     case measure=>omega
     case rel=>exact ⟨j+1,p1,is++[i],v9,by omega,rfl,by go_num,HE1,HD1,HS9⟩
end Go.Proofs.YtmekkhfohmfjkaaGreatDoor
