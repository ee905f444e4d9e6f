/-
  Part 13 of the proof: RdB, PEach, PTake.
-/
import Derived.Test.YtmekkhfohmfjkaaGreatDoorSf07
import Derived.Test.YtmekkhfohmfjkaaGreatDoorSf11
import Derived.Test.YtmekkhfohmfjkaaGreatDoorSf06
namespace Go.Proofs.YtmekkhfohmfjkaaGreatDoor
open Go.RowKit Go.Deep Go.MapKept
def NQ (q:ES):Nat:=q.1.length+q.2.length
def Bd {α:Type} (c:Cx) (r:RdE α):Prop:=∀ (n:Nat) (q q':ES) (a:α),n<c.fs.length→r n q=.ok (a,q')→NQ q'≤NQ q+c.sz n
section
variable {c : Cx}
theorem Cx.Ok.kids_lt (h:c.Ok) {n:Nat} (hn:n<c.fs.length):∀ k∈(frm c.l n).kids,n<k∧k<c.fs.length:=by
 have hx:=List.getElem?_eq_getElem hn
 rw [Cx.frm_at hx]
 exact h.kidlt n _ hx
theorem Cx.Ok.kids_sz (h:c.Ok) {n:Nat} (hn:n<c.fs.length):1+((frm c.l n).kids.map c.sz).sum≤c.sz n:=by
 have hx:=List.getElem?_eq_getElem hn
 rw [Cx.frm_at hx]
 exact h.szk n _ hx
theorem brkK_sub (l:List Frm) (n:Nat):∀ k∈brkK l n,k∈(frm l n).kids:=fun _ hk=>List.mem_of_mem_tail hk
theorem tail_sum (f:Nat→Nat) (l:List Nat):(l.tail.map f).sum≤(l.map f).sum:=by cases l<;>simp
theorem Cx.Ok.brk_sz (h:c.Ok) {n:Nat} (hn:n<c.fs.length):1+((brkK c.l n).map c.sz).sum≤c.sz n:=by
 have:=h.kids_sz hn
 have:=tail_sum c.sz (frm c.l n).kids
 unfold brkK
 omega
theorem Cx.Ok.brk_lt (h:c.Ok) {n:Nat} (hn:n<c.fs.length):∀ k∈brkK c.l n,n<k∧k<c.fs.length:=fun k hk=>h.kids_lt hn k (brkK_sub _ _ k hk)
theorem Cx.Ok.brk_len (h:c.Ok) {n:Nat} (hn:n<c.fs.length):(brkK c.l n).length≤400:=by
 have hx:=List.getElem?_eq_getElem hn
 have:=h.kidlen n _ hx
 unfold brkK
 rw [Cx.frm_at hx,List.length_tail]
 omega
theorem bd_rows {r:RdE Int} (h:Bd c r):∀ (ks:List Nat) (q q':ES) (is:List Int),(∀ k∈ks,k<c.fs.length)→rows r ks q=.ok (is,q')→NQ q'≤NQ q+(ks.map c.sz).sum
 | [],q,q',is,_,e=>by simp only [rows,Except.ok.injEq,Prod.mk.injEq] at e;obtain ⟨_,rfl⟩:=e;simp
 | k::ks,q,q',is,hk,e=>by
  simp only [rows] at e
  split at e
  ·cases e
  ·rename_i i q1 h1
   split at e
   ·cases e
   ·rename_i is' q2 h2
    simp only [Except.ok.injEq,Prod.mk.injEq] at e
    obtain ⟨_,rfl⟩:=e
    have a1:=h k q q1 i (hk k (by simp)) h1
    have a2:=bd_rows h ks q1 q2 is' (fun x hx=>hk x (by simp [hx])) h2
    simp only [List.map_cons,List.sum_cons]
    omega
theorem zdJ {α:Type}:Bd c (noE c.l:RdE α):=fun n q q' a _ e=>by simp [noE] at e
theorem bd_take (h:c.Ok) {ex st:RdE Int} {ac:RdE Actn} (h1:Bd c ex) (h2:Bd c ac) (h3:Bd c st) {k k':Ctn} {kid part:Nat} {q q':ES} (hk:kid<c.fs.length) (e:takeP c.l ex ac st k kid part q=.ok (k',q')):NQ q'≤NQ q+c.sz kid:=by
 have hz:=h.kids_sz hk
 unfold takeP at e
 repeat' split at e
 all_goals first
  | (cases e;done)
  | (simp only [Except.ok.injEq,Prod.mk.injEq] at e;obtain ⟨_,rfl⟩:=e;omega)
  | (rename_i hh;simp only [Except.ok.injEq,Prod.mk.injEq] at e;obtain ⟨_,rfl⟩:=e;first|exact h1 _ _ _ _ hk hh|exact h2 _ _ _ _ hk hh|exact h3 _ _ _ _ hk hh|(have:=bd_rows h3 _ _ _ _ (fun x hx=>(h.kids_lt hk x hx).2) hh;omega))
theorem bd_takes (h:c.Ok) {ex st:RdE Int} {ac:RdE Actn} (h1:Bd c ex) (h2:Bd c ac) (h3:Bd c st) (ps:List Nat):∀ (ks:List Nat) (i:Nat) (k k':Ctn) (q q':ES),(∀ x∈ks,x<c.fs.length)→takesP (takeP c.l ex ac st) ps ks i k q=.ok (k',q')→NQ q'≤NQ q+(ks.map c.sz).sum
 | [],i,k,k',q,q',_,e=>by simp only [takesP,Except.ok.injEq,Prod.mk.injEq] at e;obtain ⟨_,rfl⟩:=e;simp
 | x::ks,i,k,k',q,q',hk,e=>by
  simp only [takesP] at e
  split at e
  ·cases e
  ·rename_i k1 q1 e1
   have a1:=bd_take h h1 h2 h3 (hk x (by simp)) e1
   have a2:=bd_takes h h1 h2 h3 ps ks (i+1) k1 k' q1 q' (fun y hy=>hk y (by simp [hy])) e
   simp only [List.map_cons,List.sum_cons]
   omega
theorem bd_content (h:c.Ok) {ex st:RdE Int} {ac:RdE Actn} (h1:Bd c ex) (h2:Bd c ac) (h3:Bd c st) {ps ks:List Nat} {n:Nat} {k':Ctn} {q q':ES} (hk:∀ x∈ks,x<c.fs.length) (e:contentP c.l (takeP c.l ex ac st) ps n ks q=.ok (k',q')):NQ q'≤NQ q+(ks.map c.sz).sum:=by
 unfold contentP at e
 split at e
 ·exact bd_takes h h1 h2 h3 ps ks 0 ctn0 k' q q' hk e
 ·cases e
theorem bd_expr (h:c.Ok):∀ f:Nat,Bd c (pExpr c.l f)
 | 0=>fun n q q' a _ e=>by simp [pExpr] at e
 | f+1=>by
  intro n q q' a hn e
  have hz:=h.brk_sz hn
  have hl:=h.brk_lt hn
  simp only [pExpr] at e
  split at e
  ·simp only [addX,Except.ok.injEq,Prod.mk.injEq] at e;obtain ⟨_,rfl⟩:=e;simp only [NQ,List.length_append,List.length_cons,List.length_nil];omega
  split at e
  ·simp only [addX,Except.ok.injEq,Prod.mk.injEq] at e;obtain ⟨_,rfl⟩:=e;simp only [NQ,List.length_append,List.length_cons,List.length_nil];omega
  split at e
  ·simp only [addX,Except.ok.injEq,Prod.mk.injEq] at e;obtain ⟨_,rfl⟩:=e;simp only [NQ,List.length_append,List.length_cons,List.length_nil];omega
  split at e
  ·simp only [addX,Except.ok.injEq,Prod.mk.injEq] at e;obtain ⟨_,rfl⟩:=e;simp only [NQ,List.length_append,List.length_cons,List.length_nil];omega
  split at e
  ·split at e
   ·cases e
   ·split at e
    ·cases e
    ·rename_i is q1 e1
     have a1:=bd_rows (bd_expr h f) _ _ _ _ (fun x hx=>(hl x hx).2) e1
     simp only [addX,Except.ok.injEq,Prod.mk.injEq] at e;obtain ⟨_,rfl⟩:=e
     simp only [NQ,List.length_append,List.length_cons,List.length_nil] at a1 ⊢;omega
  ·split at e
   ·cases e
   ·split at e
    ·cases e
    ·rename_i k q1 e1
     have a1:=bd_content h zdJ zdJ zdJ (fun x hx=>(hl x hx).2) e1
     simp only [addX,Except.ok.injEq,Prod.mk.injEq] at e;obtain ⟨_,rfl⟩:=e
     simp only [NQ,List.length_append,List.length_cons,List.length_nil] at a1 ⊢;omega
theorem bd_act (h:c.Ok):Bd c (pAct c.l):=by
 intro n q q' a hn e
 have hz:=h.brk_sz hn
 have hl:=h.brk_lt hn
 unfold pAct at e
 split at e
 ·cases e
 ·split at e
  ·cases e
  ·rename_i k q1 e1
   have a1:=bd_content h (bd_expr h _) zdJ zdJ (fun x hx=>(hl x hx).2) e1
   simp only [Except.ok.injEq,Prod.mk.injEq] at e;obtain ⟨_,rfl⟩:=e
   omega
theorem bd_stmt (h:c.Ok):∀ f:Nat,Bd c (pStmt c.l f)
 | 0=>fun n q q' a _ e=>by simp [pStmt] at e
 | f+1=>by
  intro n q q' a hn e
  have hz:=h.brk_sz hn
  have hl:=h.brk_lt hn
  simp only [pStmt] at e
  split at e
  ·cases e
  ·split at e
   ·cases e
   ·rename_i k q1 e1
    have a1:=bd_content h (bd_expr h _) (bd_act h) (bd_stmt h f) (fun x hx=>(hl x hx).2) e1
    simp only [addS,Except.ok.injEq,Prod.mk.injEq] at e;obtain ⟨_,rfl⟩:=e
    simp only [NQ,List.length_append,List.length_cons,List.length_nil] at a1 ⊢;omega
end
structure Bad (c:Cx) (X:List Rw) (w:World):Prop where
 below:Below c.w0.heap.size c.w0 w
 rows:RowsP w c.w0.heap.size X
theorem Bad.sub {c:Cx} {X Y:List Rw} {w:World} (h:Bad c Y w) (hs:X.Sublist Y):Bad c X w:=⟨h.below,h.rows.sub hs⟩
theorem RdS.bad {c:Cx} {p:PV} {X Y:List Rw} {w:World} (h:RdS c p Y w) (hs:X.Sublist Y):Bad c X w:=⟨h.below,h.rows.sub (hs.trans (List.sublist_append_right _ _))⟩
def RPost {α:Type} (c:Cx) (X:List Rw) (p:PV) (ret:α→Value) (r:Except Int (α × ES)) (e:Ending) (w':World):Prop:=
 match r with
 | .error q=>e=.panicked (flt2 q)∧Bad c X w'
 | .ok (a,q)=>e=.returned (ret a)∧∃ p',p'.es=q∧(p'.ds,p'.dv)=(p.ds,p.dv)∧(p'.ms,p'.mv)=(p.ms,p.mv)∧RdS c p' X w'
abbrev rI:Int→Value:=fun i=>.int .i64 i
def RC {α:Type} (c:Cx) (F n:Nat) (ret:α→Value) (r:RdE α):Prop:=
 ∀ (p:PV) (X:List Rw) (w:World),RdS c p X w→NQ p.es+c.sz n≤1000→Calls Tryz.prog F #[.pointer (some ⟨c.B,0,none⟩),.int .i64 (n:Int)] w (RPost c X p ret (r n p.es))
def iRow (v:Value) (is:List Int):Rw:=⟨v,3,1,is.length,intsI is⟩
def EachPost (c:Cx) (X:List Rw) (p:PV) (r:Except Int (List Int × ES)) (e:Ending) (w':World):Prop:=
 match r with
 | .error q=>e=.panicked (flt2 q)∧Bad c X w'
 | .ok (is,q)=>∃ ov p',e=.returned ov∧p'.es=q∧(p'.ds,p'.dv)=(p.ds,p.dv)∧(p'.ms,p'.mv)=(p.ms,p.mv)∧RdS c p' (iRow ov is::X) w'
theorem rows_snoc {r:RdE Int}:∀ (ks:List Nat) (k:Nat) (q q1:ES) (is:List Int),rows r ks q=.ok (is,q1)→rows r (ks++[k]) q=(match r k q1 with|.error e=>.error e|.ok (i,q2)=>.ok (is++[i],q2))
 | [],k,q,q1,is,e=>by
  simp only [rows,Except.ok.injEq,Prod.mk.injEq] at e
  obtain ⟨rfl,rfl⟩:=e
  simp only [List.nil_append,rows]
  cases r k q with
  | error e=>rfl
  | ok x=>rfl
 | x::ks,k,q,q1,is,e=>by
  simp only [rows] at e
  simp only [List.cons_append,rows]
  cases hx:r x q with
  | error e9=>rw [hx] at e;cases e
  | ok y=>
   obtain ⟨i,q2⟩:=y
   rw [hx] at e
   simp only at e ⊢
   cases hy:rows r ks q2 with
   | error e9=>rw [hy] at e;cases e
   | ok z=>
    obtain ⟨is',q3⟩:=z
    rw [hy] at e
    simp only [Except.ok.injEq,Prod.mk.injEq] at e
    obtain ⟨rfl,rfl⟩:=e
    rw [rows_snoc ks k q2 q3 is' hy]
    cases r k q3 with
    | error e=>rfl
    | ok x=>rfl
theorem rows_err {r:RdE Int}:∀ (a b:List Nat) (q:ES) (e:Int),rows r a q=.error e→rows r (a++b) q=.error e
 | [],_,_,_,h=>by simp [rows] at h
 | x::a,b,q,e,h=>by
  simp only [rows] at h
  simp only [List.cons_append,rows]
  cases hx:r x q with
  | error e'=>rw [hx] at h;exact h
  | ok y=>
   obtain ⟨i,q2⟩:=y
   rw [hx] at h
   simp only at h ⊢
   cases hy:rows r a q2 with
   | error e'=>rw [hy] at h;rw [rows_err a b q2 e' hy];exact h
   | ok z=>rw [hy] at h;cases h
theorem rows_len {r:RdE Int}:∀ (ks:List Nat) (q q1:ES) (is:List Int),rows r ks q=.ok (is,q1)→is.length=ks.length
 | [],q,q1,is,e=>by simp only [rows,Except.ok.injEq,Prod.mk.injEq] at e;obtain ⟨rfl,rfl⟩:=e;rfl
 | x::ks,q,q1,is,e=>by
  simp only [rows] at e
  cases hx:r x q with
  | error e9=>rw [hx] at e;cases e
  | ok y=>
   obtain ⟨i,q2⟩:=y
   rw [hx] at e
   simp only at e
   cases hy:rows r ks q2 with
   | error e9=>rw [hy] at e;cases e
   | ok z=>
    obtain ⟨is',q3⟩:=z
    rw [hy] at e
    simp only [Except.ok.injEq,Prod.mk.injEq] at e
    obtain ⟨rfl,rfl⟩:=e
    simp [rows_len ks q2 q3 is' hy]
theorem take_sum_le (f:Nat→Nat) (l:List Nat) (j k:Nat) (h:l[j]?=some k):((l.take j).map f).sum+f k≤(l.map f).sum:=by
 have:l=l.take j++k::l.drop (j+1):=by
  have hj:=(List.getElem?_eq_some_iff.1 h).1
  have hv:=(List.getElem?_eq_some_iff.1 h).2
  rw [←hv,List.getElem_cons_drop,List.take_append_drop]
 have e:=congrArg (fun l=>(l.map f).sum) this
 simp only [List.map_append,List.map_cons,List.sum_append,List.sum_cons] at e
 omega
theorem RdS.seesK {c:Cx} {p:PV} {X:List Rw} {w:World} (h:RdS c p X w) {kv:Value} {ks:List Nat} (hk:SeesK c.w0 kv ks):SeesK w kv ks:=hk.below h.below (Nat.le_refl _)
set_option maxHeartbeats 2000000 in
theorem each_any {c:Cx} {F:Nat} {r:RdE Int} {ks:List Nat} {kv:Value} (hk:SeesK c.w0 kv ks) (hkl:ks.length≤400) (hlt:∀ k∈ks,k<c.fs.length) (HF:∀ k∈ks,RC c F k rI r) (hbd:Bd c r) {p:PV} {X:List Rw} {w:World} (h:RdS c p X w) (hN:NQ p.es+(ks.map c.sz).sum≤1000) (hF:F=148∨F=93) :
  Calls Tryz.prog 150 #[kv,.func (.func F) #[.pointer (some ⟨c.B,0,none⟩)] #[]] w (EachPost c X p (rows r ks p.es)):=by
 obtain ⟨_,a,cap,rfl,hcell⟩:=id hk
 obtain ⟨n,hn⟩:∃ n,ks.length=n:=⟨_,rfl⟩
 have HN:=hidI hn
 have HH:=hidI h
 have HK:=hidI hk
 have HHF:=hidI HF
 have HNN:=hidI hN
 rw [hn] at hkl
 rw [hn]
 clear hn h hk HF hN hcell
 have HSTART:Hid (RdS c p (iRow (.slice none 0 0) []::X) w):=hidI (HH.out.more (HH.out.rows.nil 3 1))
 go_enter Tryz.func150,Tryz.ntmps150
 go_wp2
 go_loopg [5,10] n (fun g s5 s10 wx=>∃ (j:Nat) (pj:PV) (is:List Int) (ov:Value),j+g=n∧ov=s5∧s10=.int .i64 (j:Int)∧Hid (rows r (ks.take j) p.es=.ok (is,pj.es))∧Hid ((pj.ds,pj.dv)=(p.ds,p.dv)∧(pj.ms,pj.mv)=(p.ms,p.mv))∧Hid (RdS c pj (iRow ov is::X) wx))
 case atStart=>exact ⟨0,p,[],_,by omega,rfl,rfl,hidI rfl,hidI ⟨rfl,rfl⟩,HSTART⟩
 case round=>
  obtain ⟨j,pj,is,ov,hjg,rfl,rfl,HR,HD,HS⟩:=hrel
  cases gk with
  | zero=>
   obtain rfl:n=j:=by omega
   have k1:decide ((n:Int)<(n:Int))=false:=by simp
   have HR2:Hid (rows r ks p.es=.ok (is,pj.es)):=hidI (by have:=HR.out;rwa [List.take_of_length_le (by have:=HN.out;omega)] at this)
   go_wp2
   go_ret
   rw [HR2.out]
   exact ⟨ov,pj,rfl,rfl,HD.out.1,HD.out.2,HS.out⟩
  | succ g=>
   have k1:(j:Int)<(n:Int):=by omega
   obtain ⟨k,hk⟩:∃ k,ks[j]?=some k:=⟨_,List.getElem?_eq_getElem (by have:=HN.out;omega)⟩
   have hmem:k∈ks:=List.mem_of_getElem? hk
   have hisl:is.length=j:=by rw [rows_len _ _ _ _ HR.out,List.length_take];have:=HN.out;omega
   obtain ⟨_,a',cap',hav,hcell⟩:=HS.out.seesK HK.out
   rw [HN.out] at hav
   cases hav
   rcases hcell with h0|⟨b,o,rfl,hcell⟩
   ·have:=HN.out;omega
   have x0:=hcell j _ (ints_get hk)
   have hbud:NQ pj.es+c.sz k≤1000:=by
    have a1:=bd_rows hbd _ _ _ _ (fun x hx=>hlt x (List.mem_of_mem_take hx)) HR.out
    have a2:=take_sum_le c.sz ks j k hk
    have:=HNN.out
    omega
   have C:=hidI (HHF.out k hmem pj (iRow ov is::X) wr HS.out hbud)
   have HTK:Hid (ks.take (j+1)=ks.take j++[k]):=hidI (by rw [List.take_add_one,hk];rfl)
   have HSN:=hidI (rows_snoc (r:=r) (ks.take j) k p.es pj.es is HR.out)
   have HDR:Hid (ks=ks.take (j+1)++ks.drop (j+1)):=hidI (List.take_append_drop _ _).symm
   clear hk hmem hcell hbud
   cases hr:r k pj.es with
   | error q=>
    have HE:Hid (rows r ks p.es=.error q):=hidI (by
     rw [HDR.out]
     refine rows_err _ _ _ _ ?_
     rw [HTK.out,HSN.out,hr])
    rw [hr] at C
    clear hr HSN HTK HDR
    rcases hF with rfl|rfl
    all_goals
     go_wp2_with (first
      | (go_at_call 148;refine C.out.mono ?_;intro e w1 h1;obtain ⟨rfl,hb1⟩:=h1;clear C)
      | (go_at_call 93;refine C.out.mono ?_;intro e w1 h1;obtain ⟨rfl,hb1⟩:=h1;clear C))
     refine ⟨rfl,?_⟩
     rw [HE.out]
     exact ⟨rfl,hb1.sub (.cons _ (.refl _))⟩
   | ok y=>
    obtain ⟨i,q⟩:=y
    have HE:Hid (rows r (ks.take (j+1)) p.es=.ok (is++[i],q)):=hidI (by rw [HTK.out,HSN.out,hr])
    rw [hr] at C
    clear hr HSN HTK HDR HR
    rcases hF with rfl|rfl
    all_goals
     go_wp2_with (first
      | (go_at_call 148;refine C.out.mono ?_;intro e w1 h1;obtain ⟨rfl,hb1⟩:=h1;clear C;refine Hid.out ?_)
      | (go_at_call 93;refine C.out.mono ?_;intro e w1 h1;obtain ⟨rfl,hb1⟩:=h1;clear C;refine Hid.out ?_))
     obtain ⟨p1,hes1,hds1,hms1,hS1⟩:=hb1
     have HO:=hidI (World.ownsRow.alloc (RowsP.head (r:=iRow ov is) hS1.first) (.cells #[.int .i64 i] 3))
     have HV:=hidI (zcF w1 3 1 #[.int .i64 i] rfl)
     have HS1:=hidI hS1
     have hb1:=hS1.size
     clear hS1
     refine hidI ?_
     go_wp2_with (at_builtin;go_must (refine zbP Tryz.underlying45 Tryz.info3z rfl (by decide) (by decide) rfl _ _ rfl c.w0.heap.size ov is.length (intsI is) rfl HO.out _ 1 [.int .i64 i] rfl HV.out (by simp [Value.oneCell']) (by omega) (by simp;omega) ?_);intro v9 w9 hown9 hgrow9 hat9;refine Hid.out ?_)
     have hP:=HS1.out.first.alloc (.cells #[.int .i64 i] 3)
     have hP2:RowsP w9 c.w0.heap.size (iRow v9 (is++[i])::(prows c p1++X)):=hP.put (r':=iRow v9 (is++[i])) hgrow9 (by
      show w9.ownsRow c.w0.heap.size 3 1 v9 (is++[i]).length (intsI (is++[i]))
      rw [List.length_append]
      simpa [intsI] using hown9) (.inr hat9)
     have HS9:Hid (RdS c p1 (iRow v9 (is++[i])::X) w9):=hidI ⟨(HS1.out.below.alloc hb1 _).grown hgrow9 (by simp;omega) (fun k hk=>(HO.out.lt k hk).1),hP2.perm List.perm_middle.symm⟩
     have HD1:Hid ((p1.ds,p1.dv)=(p.ds,p.dv)∧(p1.ms,p1.mv)=(p.ms,p.mv)):=hidI ⟨hds1.trans HD.out.1,hms1.trans HD.out.2⟩
     have HE1:Hid (rows r (ks.take (j+1)) p.es=.ok (is++[i],p1.es)):=hidI (by rw [hes1];exact HE.out)
     clear hown9 hgrow9 hat9 hP hP2 HS1 HO HV HS HE HD hes1 hds1 hms1
     refine hidI ?_
     go_wp2
     go_roundg g
     case measure=>omega
     case rel=>exact ⟨j+1,p1,is++[i],v9,by omega,rfl,by go_num,HE1,HD1,HS9⟩
def cBox (cb:Nat) (k:Ctn) (av tv ev:Value):Rw:=⟨bx cb,170,8,1,[.string k.name,.int .u8 (k.op:Int),.bool k.inn,.int .i64 k.e,.int .i64 k.cond,av,tv,ev]⟩
def aRow (v:Value) (as':List Actn):Rw:=⟨v,126,6,as'.length,flatAc as'⟩
def cRows (cb:Nat) (k:Ctn) (av tv ev:Value) (X:List Rw):List Rw:=cBox cb k av tv ev::aRow av k.acts::iRow tv k.thn::iRow ev k.els::X
def TakePost (c:Cx) (cb:Nat) (X:List Rw) (p:PV) (r:Except Int (Ctn × ES)) (e:Ending) (w':World):Prop:=
 match r with
 | .error q=>e=.panicked (flt2 q)∧Bad c X w'
 | .ok (k',q)=>e=.returned (.tuple #[])∧∃ p' av tv ev,p'.es=q∧(p'.ds,p'.dv)=(p.ds,p.dv)∧(p'.ms,p'.mv)=(p.ms,p.mv)∧RdS c p' (cRows cb k' av tv ev X) w'
section
variable {c : Cx} {p : PV} {X Y : List Rw} {w : World} {cb : Nat} {k : Ctn} {av tv ev : Value}
theorem RdS.perm (h:RdS c p X w) (hp:X.Perm Y):RdS c p Y w:=⟨h.below,h.rows.perm (hp.append_left _)⟩
theorem RdS.sub (h:RdS c p X w) (hp:Y.Sublist X):RdS c p Y w:=⟨h.below,h.rows.sub (hp.append_left _)⟩
theorem RdS.put1 {r r':Rw} (h:RdS c p (r::Y) w) {w':World} (hg:w.grownBy w' r.v.ownBlock) (ho:Own w' c.w0.heap.size r') (hb:r'.v.ownBlock=none∨r'.v.ownBlock=r.v.ownBlock∨r'.v.ownBlock=some w.heap.size):RdS c p (r'::Y) w':=
 ⟨h.below.grown hg h.size (fun k hk=>(h.first.head.lt k hk).1),(h.first.put hg ho hb).perm List.perm_middle.symm⟩
theorem RdS.setbox {B e size j:Nat} {xs:List Value} (h:RdS c p (⟨bx B,e,size,1,xs⟩::Y) w) (u:Value):RdS c p (⟨bx B,e,size,1,xs.set j u⟩::Y) (w.setCell ⟨B,j,none⟩ u):=by
 have hf:=h.first
 exact ⟨h.below.setCell (hf.head.lt B rfl).1 u,(hf.setc (g:=B) (cap:=1) (j:=j) rfl u).perm List.perm_middle.symm⟩
theorem RdS.cbox (h:RdS c p (cRows cb k av tv ev X) w):w.ownsRow c.w0.heap.size 170 8 (bx cb) 1 (cBox cb k av tv ev).xs:=RowsP.head (r:=cBox cb k av tv ev) h.first
theorem RdS.ccell (h:RdS c p (cRows cb k av tv ev X) w) {j:Nat} {u:Value} (hj:(cBox cb k av tv ev).xs[j]?=some u):w.cell? ⟨cb,j,none⟩=some u:=zaB h.cbox hj
theorem RdS.cfree (h:RdS c p (cRows cb k av tv ev X) w) (j:Nat):w.frozen? ⟨cb,j,none⟩=false:=zaP h.cbox j
theorem RdS.clt (h:RdS c p (cRows cb k av tv ev X) w):c.w0.heap.size≤cb∧cb<w.heap.size:=h.cbox.lt cb rfl
theorem RdS.second {a b:Rw} (h:RdS c p (a::b::Y) w):RowsP w c.w0.heap.size (b::a::(prows c p++Y)):=by
 have:=(h.perm (List.Perm.swap b a Y)).first
 exact this.perm ((List.perm_middle).cons b)
theorem RdS.third {a b d:Rw} (h:RdS c p (a::b::d::Y) w):RowsP w c.w0.heap.size (d::(prows c p++a::b::Y)):=by
 exact (h.perm (List.perm_middle (l₁:=[a,b]))).first
end
set_option maxHeartbeats 1000000 in
theorem take_n {c:Cx} (hc:c.Ok) {ex st:RdE Int} {ac:RdE Actn} {cb:Nat} {p:PV} {X:List Rw} {k:Ctn} {av tv ev:Value} {w:World} (h:RdS c p (cRows cb k av tv ev X) w) {n:Nat} (hn:n<c.fs.length)  :
  Calls Tryz.prog 123 #[.pointer (some ⟨c.B,0,none⟩),.pointer (some ⟨cb,0,none⟩),.int .i64 (n:Int),.int .i32 110] w (TakePost c cb X p (takeP c.l ex ac st k n 110 p.es)):=by
 obtain ⟨x,hx⟩:∃ x,c.fs[n]?=some x:=⟨_,List.getElem?_eq_getElem hn⟩
 have hs:=hc.txt n x hx
 have hfx:=Cx.frm_at hx
 have hkid:=(hc.kid n x hx).1
 obtain ⟨g,o,cap,hv,c0,c1,c2,c3,c4⟩:=hc.form h.below hx
 have b5:=h.cell (j:=5) (u:=c.fv) rfl
 rw [hv] at b5
 have e1:(n:Int)<(c.fs.length:Int):=by omega
 have e2:(0:Int)≤(n:Int):=by omega
 have HX:=hidI hx
 obtain ⟨⟨xk,xs,xn,xks,xp⟩,kv⟩:=x
 simp only at hs c0 c1 c2 c3 c4 hfx hkid
 obtain ⟨_,ka,kc,hkv,_⟩:=id hkid
 subst hkv
 have HR:Hid (takeP c.l ex ac st k n 110 p.es=(if nmOk xs=true then .ok ({ k with name:=xs },p.es) else .error xp)):=hidI (by simp [takeP,hfx])
 have HA:=hidI (h.alloc (.cells #[.int .u8 xk,.string xs,.int .i64 xn,.slice ka xks.length kc,.int .i64 xp] 115))
 have HH:=hidI h
 have HS:=hidI hs
 have hBlt:=h.lt
 have hClt:=h.clt
 have hsz:=h.size
 clear hv hfx h hx hs
 have C1:=hidI (zdE xs HS.out (w.alloc (.cells #[.int .u8 xk,.string xs,.int .i64 xn,.slice ka xks.length kc,.int .i64 xp] 115)) (hc.laid.on HA.out.below))
 have HTX:Hid ((w.alloc (.cells #[.int .u8 xk,.string xs,.int .i64 xn,.slice ka xks.length kc,.int .i64 xp] 115)).cell? ⟨w.heap.size,1,none⟩=some (.string xs)):=hidI (by go_simp)
 cases hnm:nameB xs with
 | false=>
  have HR2:Hid (takeP c.l ex ac st k n 110 p.es=.error xp):=hidI (by rw [HR.out,if_neg (by unfold nmOk;rw [hnm];simp)])
  rw [hnm] at C1
  have C2:Hid (∀ W,RdS c p (cRows cb k av tv ev X) W→Calls Tryz.prog 91 #[.pointer (some ⟨c.B,0,none⟩),.bool false,.int .i64 (n:Int)] W fun e w'=>e=.panicked (flt2 xp)∧W=w'):=hidI (fun W hW=>zcV hc hW HX.out)
  clear hnm HR
  go_enter Tryz.func123,Tryz.ntmps123
  go_wp2_with (first
   | (go_at_call 147;refine C1.out.mono ?_;intro e w1 h1;obtain ⟨rfl,hb1⟩:=h1;clear C1;have HS1:=hidI (HA.out.on hb1))
   | (go_at_call 91;refine Calls.mono (C2.out _ HS1.out) ?_;intro e w2 h2;obtain ⟨rfl,rfl⟩:=h2;clear C2))
  refine ⟨rfl,?_⟩
  rw [HR2.out]
  exact ⟨rfl,HS1.out.bad (.cons _ (.cons _ (.cons _ (.cons _ (.refl _)))))⟩
 | true=>
  have HR2:Hid (takeP c.l ex ac st k n 110 p.es=.ok ({ k with name:=xs },p.es)):=hidI (by rw [HR.out,if_pos (by unfold nmOk;exact hnm)])
  rw [hnm] at C1
  have C2:=hidI (fun W=>must_ok (.pointer (some ⟨c.B,0,none⟩)) (n:Int) W)
  have C3:=hidI (fun W=>zdG xs HS.out W)
  clear hnm HR
  go_enter Tryz.func123,Tryz.ntmps123
  go_wp2_with (first
   | (go_at_call 147;refine C1.out.mono ?_;intro e w1 h1;obtain ⟨rfl,hb1⟩:=h1;clear C1;have HS1:=hidI (HA.out.on hb1);have x1:=(hb1.cell (World.block_lt_of_cell? _ _ HTX.out)).trans HTX.out)
   | (go_at_call 91;refine Calls.mono (C2.out _) ?_;intro e w2 h2;obtain ⟨rfl,rfl⟩:=h2;clear C2)
   | (go_at_call 36;refine Calls.mono (C3.out _) ?_;intro e w3 h3;obtain ⟨rfl,hb3⟩:=h3;clear C3;have HS3:=hidI (HS1.out.on hb3);have k0:=HS3.out.ccell (j:=0) rfl;have f0:=HS3.out.cfree 0))
  go_end0
  rw [HR2.out]
  exact ⟨rfl,p,av,tv,ev,rfl,rfl,rfl,RdS.setbox (j:=0) HS3.out (.string xs)⟩
set_option maxHeartbeats 1000000 in
theorem take_o {c:Cx} (hc:c.Ok) {ex st:RdE Int} {ac:RdE Actn} {cb:Nat} {p:PV} {X:List Rw} {k:Ctn} {av tv ev:Value} {w:World} (h:RdS c p (cRows cb k av tv ev X) w) {n:Nat} (hn:n<c.fs.length)  :
  Calls Tryz.prog 123 #[.pointer (some ⟨c.B,0,none⟩),.pointer (some ⟨cb,0,none⟩),.int .i64 (n:Int),.int .i32 111] w (TakePost c cb X p (takeP c.l ex ac st k n 111 p.es)):=by
 obtain ⟨x,hx⟩:∃ x,c.fs[n]?=some x:=⟨_,List.getElem?_eq_getElem hn⟩
 have hs:=hc.txt n x hx
 have hfx:=Cx.frm_at hx
 have hkid:=(hc.kid n x hx).1
 obtain ⟨g,o,cap,hv,c0,c1,c2,c3,c4⟩:=hc.form h.below hx
 have b5:=h.cell (j:=5) (u:=c.fv) rfl
 rw [hv] at b5
 have e1:(n:Int)<(c.fs.length:Int):=by omega
 have e2:(0:Int)≤(n:Int):=by omega
 have HX:=hidI hx
 obtain ⟨⟨xk,xs,xn,xks,xp⟩,kv⟩:=x
 simp only at hs c0 c1 c2 c3 c4 hfx hkid
 obtain ⟨_,ka,kc,hkv,_⟩:=id hkid
 subst hkv
 have HR:Hid (takeP c.l ex ac st k n 111 p.es=.ok ({ k with op:=opOf xs },p.es)):=hidI (by simp [takeP,hfx])
 have HA:=hidI (h.alloc (.cells #[.int .u8 xk,.string xs,.int .i64 xn,.slice ka xks.length kc,.int .i64 xp] 115))
 have HH:=hidI h
 have HS:=hidI hs
 have hBlt:=h.lt
 have hClt:=h.clt
 have hsz:=h.size
 clear hv hfx h hx hs
 have HL:=hidI (look_op hc HA.out.drew.below HS.out)
 have HB:=hidI (HA.out.drew.cell (j:=4) (u:=.map (some c.vo.o)) rfl)
 have HF:Hid ((w.alloc (.cells #[.int .u8 xk,.string xs,.int .i64 xn,.slice ka xks.length kc,.int .i64 xp] 115)).drew.cell? ⟨w.heap.size,1,none⟩=some (.string xs)):=hidI (by go_simp)
 have HK:=hidI (HA.out.drew.ccell (j:=1) rfl)
 have HZ:=hidI (HA.out.drew.cfree 1)
 have HE:Hid (RdS c p (cRows cb { k with op:=opOf xs } av tv ev X) ((w.alloc (.cells #[.int .u8 xk,.string xs,.int .i64 xn,.slice ka xks.length kc,.int .i64 xp] 115)).drew.setCell ⟨cb,1,none⟩ (.int .u8 (opOf xs:Int)))):=hidI (RdS.setbox (j:=1) HA.out.drew (.int .u8 (opOf xs:Int)))
 go_enter Tryz.func123,Tryz.ntmps123
 go_wp2
 refine regO (B:=c.B) (fb:=w.heap.size) (mo:=c.vo.o) (s:=xs) ⟨HB.out,HF.out,HL.out⟩ HK.out HZ.out (fun _ _ _ _ _ h=>h) (hidI ?_)
 intro t33 t34 t35 t36 t37 t38 t39 t40 t41 t42 t43
 go_wp2
 go_end0
 rw [HR.out]
 exact ⟨rfl,p,av,tv,ev,rfl,rfl,rfl,HE.out⟩
set_option maxHeartbeats 1000000 in
theorem take_w {c:Cx} (hc:c.Ok) {ex st:RdE Int} {ac:RdE Actn} {cb:Nat} {p:PV} {X:List Rw} {k:Ctn} {av tv ev:Value} {w:World} (h:RdS c p (cRows cb k av tv ev X) w) {n:Nat} (hn:n<c.fs.length)  :
  Calls Tryz.prog 123 #[.pointer (some ⟨c.B,0,none⟩),.pointer (some ⟨cb,0,none⟩),.int .i64 (n:Int),.int .i32 119] w (TakePost c cb X p (takeP c.l ex ac st k n 119 p.es)):=by
 obtain ⟨x,hx⟩:∃ x,c.fs[n]?=some x:=⟨_,List.getElem?_eq_getElem hn⟩
 have hs:=hc.txt n x hx
 have hfx:=Cx.frm_at hx
 have hkid:=(hc.kid n x hx).1
 obtain ⟨g,o,cap,hv,c0,c1,c2,c3,c4⟩:=hc.form h.below hx
 have b5:=h.cell (j:=5) (u:=c.fv) rfl
 rw [hv] at b5
 have e1:(n:Int)<(c.fs.length:Int):=by omega
 have e2:(0:Int)≤(n:Int):=by omega
 have HX:=hidI hx
 obtain ⟨⟨xk,xs,xn,xks,xp⟩,kv⟩:=x
 simp only at hs c0 c1 c2 c3 c4 hfx hkid
 obtain ⟨_,ka,kc,hkv,_⟩:=id hkid
 subst hkv
 have HR:Hid (takeP c.l ex ac st k n 119 p.es=.ok ({ k with inn:=decide (xs=⟨#[105,110]⟩) },p.es)):=hidI (by simp [takeP,hfx])
 have HA:=hidI (h.alloc (.cells #[.int .u8 xk,.string xs,.int .i64 xn,.slice ka xks.length kc,.int .i64 xp] 115))
 have HH:=hidI h
 have HS:=hidI hs
 have hBlt:=h.lt
 have hClt:=h.clt
 have hsz:=h.size
 clear hv hfx h hx hs
 have b2:=zbU xs ⟨#[105,110]⟩
 have l2:(⟨#[105,110]⟩:ByteArray).toList=[105,110]:=by decide +kernel
 rw [l2] at b2
 obtain ⟨r,hr⟩:∃ r,decide (xs=⟨#[105,110]⟩)=r:=⟨_,rfl⟩
 rw [hr] at b2 HR
 have HE:Hid (RdS c p (cRows cb { k with inn:=r } av tv ev X) ((w.setCell ⟨cb,2,none⟩ (.bool r)).alloc (.cells #[.int .u8 xk,.string xs,.int .i64 xn,.slice ka xks.length kc,.int .i64 xp] 115))):=hidI (RdS.alloc (RdS.setbox (j:=2) HH.out (.bool r)) _)
 have k2:=HA.out.ccell (j:=2) rfl
 have f2:=HA.out.cfree 2
 clear l2 hr
 go_enter Tryz.func123,Tryz.ntmps123
 go_wp2
 go_end0
 rw [HR.out]
 exact ⟨rfl,p,av,tv,ev,rfl,rfl,rfl,HE.out⟩
set_option maxHeartbeats 1000000 in
theorem take_e {c:Cx} (hc:c.Ok) {ex st:RdE Int} {ac:RdE Actn} {cb:Nat} {p:PV} {X:List Rw} {k:Ctn} {av tv ev:Value} {w:World} (h:RdS c p (cRows cb k av tv ev X) w) {n:Nat} (hn:n<c.fs.length) (HE:RC c 148 n rI ex) (hN:NQ p.es+c.sz n≤1000) :
  Calls Tryz.prog 123 #[.pointer (some ⟨c.B,0,none⟩),.pointer (some ⟨cb,0,none⟩),.int .i64 (n:Int),.int .i32 101] w (TakePost c cb X p (takeP c.l ex ac st k n 101 p.es)):=by
 obtain ⟨x,hx⟩:∃ x,c.fs[n]?=some x:=⟨_,List.getElem?_eq_getElem hn⟩
 have hs:=hc.txt n x hx
 have hfx:=Cx.frm_at hx
 have hkid:=(hc.kid n x hx).1
 obtain ⟨g,o,cap,hv,c0,c1,c2,c3,c4⟩:=hc.form h.below hx
 have b5:=h.cell (j:=5) (u:=c.fv) rfl
 rw [hv] at b5
 have e1:(n:Int)<(c.fs.length:Int):=by omega
 have e2:(0:Int)≤(n:Int):=by omega
 have HX:=hidI hx
 obtain ⟨⟨xk,xs,xn,xks,xp⟩,kv⟩:=x
 simp only at hs c0 c1 c2 c3 c4 hfx hkid
 obtain ⟨_,ka,kc,hkv,_⟩:=id hkid
 subst hkv
 have HA:=hidI (h.alloc (.cells #[.int .u8 xk,.string xs,.int .i64 xn,.slice ka xks.length kc,.int .i64 xp] 115))
 have HH:=hidI h
 have HS:=hidI hs
 have hBlt:=h.lt
 have hClt:=h.clt
 have hsz:=h.size
 clear hv hfx h hx hs
 have C:=hidI (HE p (cRows cb k av tv ev X) _ HA.out hN)
 clear HE hN
 cases hr:ex n p.es with
 | error q=>
  have HR:Hid (takeP c.l ex ac st k n 101 p.es=.error q):=hidI (by simp [takeP,hr])
  rw [hr] at C
  clear hr
  go_enter Tryz.func123,Tryz.ntmps123
  go_wp2_with (go_at_call 148;refine C.out.mono ?_;intro e w1 h1;obtain ⟨rfl,hb1⟩:=h1;clear C)
  refine ⟨rfl,?_⟩
  rw [HR.out]
  exact ⟨rfl,hb1.sub (.cons _ (.cons _ (.cons _ (.cons _ (.refl _)))))⟩
 | ok y=>
  obtain ⟨i,q⟩:=y
  have HR:Hid (takeP c.l ex ac st k n 101 p.es=.ok ({ k with e:=i },q)):=hidI (by simp [takeP,hr])
  rw [hr] at C
  clear hr
  go_enter Tryz.func123,Tryz.ntmps123
  go_wp2_with (go_at_call 148;refine C.out.mono ?_;intro e w1 h1;obtain ⟨rfl,hb1⟩:=h1;clear C;refine Hid.out ?_)
  obtain ⟨p1,hes1,hds1,hms1,hS1⟩:=hb1
  have HS1:=hidI hS1
  have k3:=hS1.ccell (j:=3) rfl
  have f3:=hS1.cfree 3
  have HP1:=hidI (And.intro hes1 (And.intro hds1 hms1))
  clear hS1 hes1 hds1 hms1
  refine hidI ?_
  go_wp2
  go_end0
  rw [HR.out]
  exact ⟨rfl,p1,av,tv,ev,HP1.out.1,HP1.out.2.1,HP1.out.2.2,RdS.setbox (j:=3) HS1.out (.int .i64 i)⟩
set_option maxHeartbeats 1000000 in
theorem take_c {c:Cx} (hc:c.Ok) {ex st:RdE Int} {ac:RdE Actn} {cb:Nat} {p:PV} {X:List Rw} {k:Ctn} {av tv ev:Value} {w:World} (h:RdS c p (cRows cb k av tv ev X) w) {n:Nat} (hn:n<c.fs.length) (HE:RC c 148 n rI ex) (hN:NQ p.es+c.sz n≤1000) :
  Calls Tryz.prog 123 #[.pointer (some ⟨c.B,0,none⟩),.pointer (some ⟨cb,0,none⟩),.int .i64 (n:Int),.int .i32 99] w (TakePost c cb X p (takeP c.l ex ac st k n 99 p.es)):=by
 obtain ⟨x,hx⟩:∃ x,c.fs[n]?=some x:=⟨_,List.getElem?_eq_getElem hn⟩
 have hs:=hc.txt n x hx
 have hfx:=Cx.frm_at hx
 have hkid:=(hc.kid n x hx).1
 obtain ⟨g,o,cap,hv,c0,c1,c2,c3,c4⟩:=hc.form h.below hx
 have b5:=h.cell (j:=5) (u:=c.fv) rfl
 rw [hv] at b5
 have e1:(n:Int)<(c.fs.length:Int):=by omega
 have e2:(0:Int)≤(n:Int):=by omega
 have HX:=hidI hx
 obtain ⟨⟨xk,xs,xn,xks,xp⟩,kv⟩:=x
 simp only at hs c0 c1 c2 c3 c4 hfx hkid
 obtain ⟨_,ka,kc,hkv,_⟩:=id hkid
 subst hkv
 have HA:=hidI (h.alloc (.cells #[.int .u8 xk,.string xs,.int .i64 xn,.slice ka xks.length kc,.int .i64 xp] 115))
 have HH:=hidI h
 have HS:=hidI hs
 have hBlt:=h.lt
 have hClt:=h.clt
 have hsz:=h.size
 clear hv hfx h hx hs
 have C:=hidI (HE p (cRows cb k av tv ev X) _ HA.out hN)
 clear HE hN
 cases hr:ex n p.es with
 | error q=>
  have HR:Hid (takeP c.l ex ac st k n 99 p.es=.error q):=hidI (by simp [takeP,hr])
  rw [hr] at C
  clear hr
  go_enter Tryz.func123,Tryz.ntmps123
  go_wp2_with (go_at_call 148;refine C.out.mono ?_;intro e w1 h1;obtain ⟨rfl,hb1⟩:=h1;clear C)
  refine ⟨rfl,?_⟩
  rw [HR.out]
  exact ⟨rfl,hb1.sub (.cons _ (.cons _ (.cons _ (.cons _ (.refl _)))))⟩
 | ok y=>
  obtain ⟨i,q⟩:=y
  have HR:Hid (takeP c.l ex ac st k n 99 p.es=.ok ({ k with cond:=i },q)):=hidI (by simp [takeP,hr])
  rw [hr] at C
  clear hr
  go_enter Tryz.func123,Tryz.ntmps123
  go_wp2_with (go_at_call 148;refine C.out.mono ?_;intro e w1 h1;obtain ⟨rfl,hb1⟩:=h1;clear C;refine Hid.out ?_)
  obtain ⟨p1,hes1,hds1,hms1,hS1⟩:=hb1
  have HS1:=hidI hS1
  have k3:=hS1.ccell (j:=4) rfl
  have f3:=hS1.cfree 4
  have HP1:=hidI (And.intro hes1 (And.intro hds1 hms1))
  clear hS1 hes1 hds1 hms1
  refine hidI ?_
  go_wp2
  go_end0
  rw [HR.out]
  exact ⟨rfl,p1,av,tv,ev,HP1.out.1,HP1.out.2.1,HP1.out.2.2,RdS.setbox (j:=4) HS1.out (.int .i64 i)⟩
set_option maxHeartbeats 1000000 in
theorem take_t {c:Cx} (hc:c.Ok) {ex st:RdE Int} {ac:RdE Actn} {cb:Nat} {p:PV} {X:List Rw} {k:Ctn} {av tv ev:Value} {w:World} (h:RdS c p (cRows cb k av tv ev X) w) {n:Nat} (hn:n<c.fs.length) (HT:∀ m∈(frm c.l n).kids,RC c 93 m rI st) (hbd:Bd c st) (hN:NQ p.es+c.sz n≤1000) :
  Calls Tryz.prog 123 #[.pointer (some ⟨c.B,0,none⟩),.pointer (some ⟨cb,0,none⟩),.int .i64 (n:Int),.int .i32 116] w (TakePost c cb X p (takeP c.l ex ac st k n 116 p.es)):=by
 obtain ⟨x,hx⟩:∃ x,c.fs[n]?=some x:=⟨_,List.getElem?_eq_getElem hn⟩
 have hs:=hc.txt n x hx
 have hfx:=Cx.frm_at hx
 have hkid:=(hc.kid n x hx).1
 obtain ⟨g,o,cap,hv,c0,c1,c2,c3,c4⟩:=hc.form h.below hx
 have b5:=h.cell (j:=5) (u:=c.fv) rfl
 rw [hv] at b5
 have e1:(n:Int)<(c.fs.length:Int):=by omega
 have e2:(0:Int)≤(n:Int):=by omega
 have HX:=hidI hx
 obtain ⟨⟨xk,xs,xn,xks,xp⟩,kv⟩:=x
 simp only at hs c0 c1 c2 c3 c4 hfx hkid
 obtain ⟨_,ka,kc,hkv,_⟩:=id hkid
 subst hkv
 have HA:=hidI (h.alloc (.cells #[.int .u8 xk,.string xs,.int .i64 xn,.slice ka xks.length kc,.int .i64 xp] 115))
 have HH:=hidI h
 have HS:=hidI hs
 have hBlt:=h.lt
 have hClt:=h.clt
 have hsz:=h.size
 rw [hfx] at HT
 have hkl:=hc.kidlen n _ hx
 have hszn:=hc.szk n _ hx
 have hkd:=fun m hm=>(hc.kidlt n _ hx m hm).2
 simp only at hkl hszn hkd HT
 have HFX:=hidI hfx
 have C:=hidI (each_any (c:=c) (F:=93) (r:=st) (ks:=xks) hkid hkl hkd HT hbd HA.out (by omega) (.inr rfl))
 clear hszn hkd HT hkl
 clear hv hfx h hx hs
 cases hr:rows st xks p.es with
 | error q=>
  have HR:Hid (takeP c.l ex ac st k n 116 p.es=.error q):=hidI (by simp [takeP,HFX.out,hr])
  rw [hr] at C
  clear hr HFX
  go_enter Tryz.func123,Tryz.ntmps123
  go_wp2_with (go_at_call 150;refine C.out.mono ?_;intro e w1 h1;obtain ⟨rfl,hb1⟩:=h1;clear C)
  refine ⟨rfl,?_⟩
  rw [HR.out]
  exact ⟨rfl,hb1.sub (.cons _ (.cons _ (.cons _ (.cons _ (.refl _)))))⟩
 | ok y=>
  obtain ⟨is,q⟩:=y
  have HR:Hid (takeP c.l ex ac st k n 116 p.es=.ok ({ k with thn:=is },q)):=hidI (by simp [takeP,HFX.out,hr])
  rw [hr] at C
  clear hr HFX
  go_enter Tryz.func123,Tryz.ntmps123
  go_wp2_with (go_at_call 150;refine C.out.mono ?_;intro e w1 h1;obtain ⟨ov,p1,rfl,hb1⟩:=h1;clear C;refine Hid.out ?_)
  obtain ⟨hes1,hds1,hms1,hS1⟩:=hb1
  have s1:RdS c p1 (cBox cb k av tv ev::iRow ov is::aRow av k.acts::iRow tv k.thn::iRow ev k.els::X) w1:=hS1.perm (List.Perm.swap _ _ _)
  have k3:=zaB (RowsP.head (r:=cBox cb k av tv ev) s1.first) (j:=6) rfl
  have f3:=zaP (RowsP.head (r:=cBox cb k av tv ev) s1.first) 6
  have s2:=RdS.setbox (j:=6) s1 ov
  have HS2:Hid (RdS c p1 (cBox cb { k with thn:=is } av ov ev::aRow av k.acts::iRow ov is::iRow ev k.els::X) (w1.setCell ⟨cb,6,none⟩ ov)):=hidI ((s2.perm ((List.Perm.swap _ _ _).cons _)).sub (.cons_cons _ (.cons_cons _ (.cons_cons _ (.cons _ (.refl _))))))
  have HP1:=hidI (And.intro hes1 (And.intro hds1 hms1))
  obtain ⟨oa,oc,hov⟩:∃ oa oc,ov=.slice oa is.length oc:=zaE (RowsP.head (r:=iRow ov is) hS1.first)
  subst hov
  clear hS1 hes1 hds1 hms1 s1 s2
  refine hidI ?_
  go_wp2
  go_end0
  rw [HR.out]
  exact ⟨rfl,p1,_,_,_,HP1.out.1,HP1.out.2.1,HP1.out.2.2,HS2.out⟩
set_option maxHeartbeats 1000000 in
theorem take_f {c:Cx} (hc:c.Ok) {ex st:RdE Int} {ac:RdE Actn} {cb:Nat} {p:PV} {X:List Rw} {k:Ctn} {av tv ev:Value} {w:World} (h:RdS c p (cRows cb k av tv ev X) w) {n:Nat} (hn:n<c.fs.length) (HT:∀ m∈(frm c.l n).kids,RC c 93 m rI st) (hbd:Bd c st) (hN:NQ p.es+c.sz n≤1000) :
  Calls Tryz.prog 123 #[.pointer (some ⟨c.B,0,none⟩),.pointer (some ⟨cb,0,none⟩),.int .i64 (n:Int),.int .i32 102] w (TakePost c cb X p (takeP c.l ex ac st k n 102 p.es)):=by
 obtain ⟨x,hx⟩:∃ x,c.fs[n]?=some x:=⟨_,List.getElem?_eq_getElem hn⟩
 have hs:=hc.txt n x hx
 have hfx:=Cx.frm_at hx
 have hkid:=(hc.kid n x hx).1
 obtain ⟨g,o,cap,hv,c0,c1,c2,c3,c4⟩:=hc.form h.below hx
 have b5:=h.cell (j:=5) (u:=c.fv) rfl
 rw [hv] at b5
 have e1:(n:Int)<(c.fs.length:Int):=by omega
 have e2:(0:Int)≤(n:Int):=by omega
 have HX:=hidI hx
 obtain ⟨⟨xk,xs,xn,xks,xp⟩,kv⟩:=x
 simp only at hs c0 c1 c2 c3 c4 hfx hkid
 obtain ⟨_,ka,kc,hkv,_⟩:=id hkid
 subst hkv
 have HA:=hidI (h.alloc (.cells #[.int .u8 xk,.string xs,.int .i64 xn,.slice ka xks.length kc,.int .i64 xp] 115))
 have HH:=hidI h
 have HS:=hidI hs
 have hBlt:=h.lt
 have hClt:=h.clt
 have hsz:=h.size
 rw [hfx] at HT
 have hkl:=hc.kidlen n _ hx
 have hszn:=hc.szk n _ hx
 have hkd:=fun m hm=>(hc.kidlt n _ hx m hm).2
 simp only at hkl hszn hkd HT
 have HFX:=hidI hfx
 have C:=hidI (each_any (c:=c) (F:=93) (r:=st) (ks:=xks) hkid hkl hkd HT hbd HA.out (by omega) (.inr rfl))
 clear hszn hkd HT hkl
 clear hv hfx h hx hs
 cases hr:rows st xks p.es with
 | error q=>
  have HR:Hid (takeP c.l ex ac st k n 102 p.es=.error q):=hidI (by simp [takeP,HFX.out,hr])
  rw [hr] at C
  clear hr HFX
  go_enter Tryz.func123,Tryz.ntmps123
  go_wp2_with (go_at_call 150;refine C.out.mono ?_;intro e w1 h1;obtain ⟨rfl,hb1⟩:=h1;clear C)
  refine ⟨rfl,?_⟩
  rw [HR.out]
  exact ⟨rfl,hb1.sub (.cons _ (.cons _ (.cons _ (.cons _ (.refl _)))))⟩
 | ok y=>
  obtain ⟨is,q⟩:=y
  have HR:Hid (takeP c.l ex ac st k n 102 p.es=.ok ({ k with els:=is },q)):=hidI (by simp [takeP,HFX.out,hr])
  rw [hr] at C
  clear hr HFX
  go_enter Tryz.func123,Tryz.ntmps123
  go_wp2_with (go_at_call 150;refine C.out.mono ?_;intro e w1 h1;obtain ⟨ov,p1,rfl,hb1⟩:=h1;clear C;refine Hid.out ?_)
  obtain ⟨hes1,hds1,hms1,hS1⟩:=hb1
  have s1:RdS c p1 (cBox cb k av tv ev::iRow ov is::aRow av k.acts::iRow tv k.thn::iRow ev k.els::X) w1:=hS1.perm (List.Perm.swap _ _ _)
  have k3:=zaB (RowsP.head (r:=cBox cb k av tv ev) s1.first) (j:=7) rfl
  have f3:=zaP (RowsP.head (r:=cBox cb k av tv ev) s1.first) 7
  have s2:=RdS.setbox (j:=7) s1 ov
  have HS2:Hid (RdS c p1 (cBox cb { k with els:=is } av tv ov::aRow av k.acts::iRow tv k.thn::iRow ov is::X) (w1.setCell ⟨cb,7,none⟩ ov)):=hidI ((s2.perm (((List.Perm.swap _ _ _).trans ((List.Perm.swap _ _ _).cons _)).cons _)).sub (.cons_cons _ (.cons_cons _ (.cons_cons _ (.cons_cons _ (.cons _ (.refl _)))))))
  have HP1:=hidI (And.intro hes1 (And.intro hds1 hms1))
  obtain ⟨oa,oc,hov⟩:∃ oa oc,ov=.slice oa is.length oc:=zaE (RowsP.head (r:=iRow ov is) hS1.first)
  subst hov
  clear hS1 hes1 hds1 hms1 s1 s2
  refine hidI ?_
  go_wp2
  go_end0
  rw [HR.out]
  exact ⟨rfl,p1,_,_,_,HP1.out.1,HP1.out.2.1,HP1.out.2.2,HS2.out⟩
end Go.Proofs.YtmekkhfohmfjkaaGreatDoor
