/-
  Part 13 of the proof: TlM, RdB, PEach.
-/
import Derived.Test.YtmekkhfohmfjkaaGreatDoorSd02
import Derived.Test.YtmekkhfohmfjkaaGreatDoorSd07
import Derived.Test.YtmekkhfohmfjkaaGreatDoorSd11
import Derived.Test.YtmekkhfohmfjkaaGreatDoorSd06
namespace Go.Proofs.YtmekkhfohmfjkaaGreatDoor
open Go.RowKit Go.Deep Go.MapKept
structure TS where
 x:Nat
 s:Nat
 f:Nat
 d:Nat
 ts:List Tok
abbrev TM:=TS→Option TS
def opW (o:Nat):ByteArray:=if o=0 then emptyS else opWs.getD (o-1) emptyS
def stmtW:Nat→ByteArray
 | 1=>⟨#[115,101,116]⟩|2=>⟨#[102,111,108,100]⟩|3=>⟨#[101,97,99,104]⟩|4=>⟨#[105,102]⟩|5=>⟨#[119,104,105,108,101]⟩|6=>⟨#[108,111,111,112]⟩|7=>⟨#[98,102,115]⟩|_=>⟨#[]⟩
def actW:Nat→ByteArray
 | 1=>⟨#[112,117,116]⟩|2=>⟨#[112,117,115,104]⟩|3=>⟨#[112,117,108,108]⟩|_=>⟨#[]⟩
def exprW:Nat→ByteArray
 | 3=>⟨#[111,119,110]⟩|4=>⟨#[102,97,114]⟩|5=>⟨#[118,105,97]⟩|6=>⟨#[105,100]⟩|7=>⟨#[102,97,114,105,100]⟩|8=>⟨#[100,101,103]⟩|9=>⟨#[99,111,117,110,116]⟩|_=>⟨#[]⟩
def declW (sd kd:Nat):ByteArray:=
 if sd=1∧kd=1 then ⟨#[105,110,116]⟩ else if sd=1∧kd=2 then ⟨#[98,111,111,108]⟩ else if sd=2∧kd=1 then ⟨#[110,105,110,116]⟩ else if sd=2∧kd=2 then ⟨#[110,98,111,111,108]⟩ else if sd=3∧kd=1 then ⟨#[101,105,110,116]⟩ else if sd=3∧kd=2 then ⟨#[101,98,111,111,108]⟩ else ⟨#[]⟩
def declS (sd kd:Nat):List Nat:=if declW sd kd=(⟨#[]⟩:ByteArray) then [] else [110]
def wayW (b:Bool):ByteArray:=if b=true then ⟨#[105,110]⟩ else ⟨#[111,117,116]⟩
def tForm (t:Tok):TM:=fun σ=>if σ.f+1≤400 then some { σ with f:=σ.f+1,ts:=σ.ts++[t] } else none
def tWord (s:ByteArray):TM:=tForm ⟨3,s,0,0⟩
def tName (s:ByteArray):TM:=fun σ=>if nmOk s=true then tWord s σ else none
def tOpen:TM:=fun σ=>if σ.d+1≤12 then tForm ⟨1,emptyS,0,0⟩ { σ with d:=σ.d+1 } else none
def tClose (σ:TS):TS:={ σ with d:=σ.d-1,ts:=σ.ts++[⟨2,emptyS,0,0⟩] }
def tBrk (g:TM):TM:=fun σ=>match tOpen σ with
 | none=>none
 | some σ1=>match g σ1 with
  | none=>none
  | some σ2=>some (tClose σ2)
def tAll {α:Type} (g:α→TM):List α→TM
 | [],σ=>some σ
 | a::r,σ=>match g a σ with
  | none=>none
  | some σ1=>tAll g r σ1
def tSeq (g h:TM):TM:=fun σ=>match g σ with
 | none=>none
 | some σ1=>h σ1
def bareP (ps:List Nat) (c:Ctn):Bool:=
 (decide (c.name=(⟨#[]⟩:ByteArray)) || ps.contains 110) && (c.op==0 || ps.contains 111) && (!c.inn || ps.contains 119) &&
  (c.e == -1 || ps.contains 101) && (c.cond == -1 || ps.contains 99) && (c.acts.length==0 || ps.contains 97) &&
  (c.thn.length==0 || ps.contains 116 || ps.contains 115) && (c.els.length==0 || ps.contains 102)
def tShaped (wd:ByteArray) (ps:List Nat) (c:Ctn) (part:Nat→TM):TM:=fun σ=>
 if wd≠(⟨#[]⟩:ByteArray)∧bareP ps c=true then tBrk (tSeq (tWord wd) (tAll part ps)) σ else none
def tPart (ex:Int→TM) (ac:Actn→TM) (st:Int→TM) (c:Ctn) (part:Nat):TM:=fun σ=>
 if part=110 then tName c.name σ
 else if part=111 then (if redN c.op=true then tWord (opW c.op) σ else none)
 else if part=119 then tWord (wayW c.inn) σ
 else if part=101 then ex c.e σ
 else if part=99 then (if c.cond = -1 then some σ else ex c.cond σ)
 else if part=97 then (if 1≤c.acts.length∧c.acts.length≤6 then tAll ac c.acts σ else none)
 else if part=116 then tBrk (tAll st c.thn) σ
 else if part=102 then tBrk (tAll st c.els) σ
 else if part=115 then tAll st c.thn σ
 else some σ
def noT {α:Type}:α→TM:=fun _ _=>none
def tLit (of:Nat) (n:Int):TM:=fun σ=>
 if of=1 then tForm ⟨4,emptyS,n,0⟩ σ
 else if of=2∧n=1 then tWord ⟨#[116,114,117,101]⟩ σ
 else if of=2∧n=0 then tWord ⟨#[102,97,108,115,101]⟩ σ
 else none
def exp0:Exp:=⟨0,0,0,emptyS,0,[]⟩
def ctnX (e:Exp):Ctn:={ ctn0 with name:=e.name,inn:=decide (e.num=1) }
def tCall (ex:Int→TM) (o:Nat) (kids:List Int):TM:=fun σ=>
 if 0<arityN o∧kids.length=arityN o then tBrk (tSeq (tWord (opW o)) (tAll ex kids)) σ else none
def plainX (e:Exp):Exp:=
 if e.k=1 then ⟨1,e.of,0,emptyS,e.num,[]⟩ else if e.k=2 then ⟨2,0,0,e.name,0,[]⟩ else if e.k=10 then ⟨10,0,e.op,emptyS,0,e.kids⟩ else ⟨e.k,0,0,e.name,if e.num=1 then 1 else 0,[]⟩
def sameX (a b:Exp):Bool:=a.k==b.k && a.of==b.of && a.op==b.op && decide (a.name=b.name) && a.num==b.num && decide (a.kids=b.kids)
def tBody (ex:Int→TM) (e:Exp):TM:=
 if e.k=1 then tLit e.of e.num
 else if e.k=2 then fun σ=>if e.name≠(⟨#[116,114,117,101]⟩:ByteArray)∧e.name≠(⟨#[102,97,108,115,101]⟩:ByteArray) then tName e.name σ else none
 else if e.k=10 then tCall ex e.op e.kids
 else tShaped (exprW e.k) (exprSh e.k) (ctnX e) (tPart noT noT noT (ctnX e))
def tExpr (xs:List Exp):Nat→Int→TM
 | 0,_,_=>none
 | f+1,a,σ=>
  if 0≤a∧a<xs.length then
   match tBody (tExpr xs f) (xs.getD a.toNat exp0) σ with
   | none=>none
   | some σ1=>if sameX (xs.getD a.toNat exp0) (plainX (xs.getD a.toNat exp0))=true∧a=σ1.x then some { σ1 with x:=σ1.x+1 } else none
  else none
def ctnA (a:Actn):Ctn:=⟨a.name,a.op,a.inn,a.e,a.cond,[],[],[]⟩
def tAct (ex:Int→TM) (a:Actn):TM:=tShaped (actW a.k) (actSh a.k) (ctnA a) (tPart ex noT noT (ctnA a))
def ctnS (s:Stm):Ctn:=⟨s.name,s.op,false,s.e,s.cond,s.acts,s.thn,s.els⟩
def stm0:Stm:=⟨0,emptyS,0,0,0,[],[],[]⟩
def tStmt (ex:Int→TM) (ss:List Stm):Nat→Int→TM
 | 0,_,_=>none
 | f+1,a,σ=>
  if 0≤a∧a<ss.length then
   match tShaped (stmtW (ss.getD a.toNat stm0).k) (stmtSh (ss.getD a.toNat stm0).k) (ctnS (ss.getD a.toNat stm0)) (tPart ex (tAct ex) (tStmt ex ss f) (ctnS (ss.getD a.toNat stm0))) σ with
   | none=>none
   | some σ1=>if a=σ1.s then some { σ1 with s:=σ1.s+1 } else none
  else none
def ctnD (d:Dcl):Ctn:={ ctn0 with name:=d.name }
def tDecl (d:Dcl):TM:=tShaped (declW d.side d.kind) (declS d.side d.kind) (ctnD d) (tPart noT noT noT (ctnD d))
def tE (P:Prg):Int→TM:=tExpr P.exprs 401
def tProg (P:Prg):TM:=fun σ=>
 if P.decls.length≤24 then
  match tAll tDecl P.decls σ with
  | none=>none
  | some σ1=>match tAll (tStmt (tE P) P.stmts 401) P.main σ1 with
   | none=>none
   | some σ2=>if σ2.x=P.exprs.length∧σ2.s=P.stmts.length then some σ2 else none
 else none
def ts0:TS:=⟨0,0,0,0,[]⟩
def soundP (P:Prg):Bool:=(tProg P ts0).isSome
def Kp (r:TM):Prop:=∀ σ σ',r σ=some σ'→σ'.d=σ.d∧σ.f≤σ'.f∧(σ.f≤400→σ'.f≤400)
theorem kp_form (t:Tok):Kp (tForm t):=by
 intro σ σ' h
 unfold tForm at h
 split at h
 ·cases h;exact ⟨rfl,by simp,fun _=>by assumption⟩
 ·cases h
theorem zcR (s:ByteArray):Kp (tWord s):=kp_form _
theorem kp_name (s:ByteArray):Kp (tName s):=by
 intro σ σ' h
 unfold tName at h
 split at h
 ·exact zcR _ _ _ h
 ·cases h
theorem kp_seq {g h:TM} (hg:Kp g) (hh:Kp h):Kp (tSeq g h):=by
 intro σ σ' e
 unfold tSeq at e
 split at e
 ·cases e
 ·rename_i σ1 h1
  obtain ⟨a1,a2,a3⟩:=hg _ _ h1
  obtain ⟨b1,b2,b3⟩:=hh _ _ e
  exact ⟨b1.trans a1,Nat.le_trans a2 b2,fun x=>b3 (a3 x)⟩
theorem kp_all {α:Type} {g:α→TM} (hg:∀ a,Kp (g a)):∀ l:List α,Kp (tAll g l)
 | []=>by intro σ σ' h;cases h;exact ⟨rfl,Nat.le_refl _,fun x=>x⟩
 | a::r=>by
  intro σ σ' h
  unfold tAll at h
  split at h
  ·cases h
  ·rename_i σ1 h1
   obtain ⟨a1,a2,a3⟩:=hg a _ _ h1
   obtain ⟨b1,b2,b3⟩:=kp_all hg r _ _ h
   exact ⟨b1.trans a1,Nat.le_trans a2 b2,fun x=>b3 (a3 x)⟩
theorem kp_open {σ σ':TS} (h:tOpen σ=some σ'):σ'.d=σ.d+1∧σ'.f=σ.f+1∧σ'.f≤400∧σ.d+1≤12∧σ'.ts=σ.ts++[⟨1,emptyS,0,0⟩]∧σ'.x=σ.x∧σ'.s=σ.s:=by
 unfold tOpen at h
 split at h
 ·unfold tForm at h
  split at h
  ·cases h;exact ⟨rfl,rfl,by assumption,by assumption,rfl,rfl,rfl⟩
  ·cases h
 ·cases h
theorem kp_brk {g:TM} (hg:Kp g):Kp (tBrk g):=by
 intro σ σ' e
 unfold tBrk at e
 split at e
 ·cases e
 ·rename_i σ1 h1
  split at e
  ·cases e
  ·rename_i σ2 h2
   obtain ⟨a1,a2,a3,_⟩:=kp_open h1
   obtain ⟨b1,b2,b3⟩:=hg _ _ h2
   cases e
   refine ⟨?_,?_,fun _=>b3 a3⟩
   ·show σ2.d-1=σ.d
    omega
   ·show σ.f≤σ2.f
    omega
theorem kp_none:Kp (fun _=>none):=by intro σ σ' h;cases h
theorem zcC {c:Prop} [Decidable c] {g h:TM} (hg:Kp g) (hh:Kp h):Kp (fun σ=>if c then g σ else h σ):=by
 intro σ σ' e
 simp only at e
 split at e
 ·exact hg _ _ e
 ·exact hh _ _ e
theorem kp_ite2 {c:Prop} [Decidable c] {g h:TM} (hg:Kp g) (hh:Kp h):Kp (if c then g else h):=by
 split
 ·exact hg
 ·exact hh
theorem kp_id:Kp some:=by intro σ σ' h;cases h;exact ⟨rfl,Nat.le_refl _,fun x=>x⟩
theorem kp_shaped {wd:ByteArray} {ps:List Nat} {c:Ctn} {part:Nat→TM} (h:∀ a,Kp (part a)):Kp (tShaped wd ps c part):=
 zcC (kp_brk (kp_seq (zcR _) (kp_all h _))) kp_none
theorem kp_part {ex:Int→TM} {ac:Actn→TM} {st:Int→TM} {c:Ctn} (h1:∀ a,Kp (ex a)) (h2:∀ a,Kp (ac a)) (h3:∀ a,Kp (st a)) (part:Nat):Kp (tPart ex ac st c part):=
 zcC (kp_name _) (zcC (zcC (zcR _) kp_none) (zcC (zcR _) (zcC (h1 _) (zcC (zcC kp_id (h1 _)) (zcC (zcC (kp_all h2 _) kp_none) (zcC (kp_brk (kp_all h3 _)) (zcC (kp_brk (kp_all h3 _)) (zcC (kp_all h3 _) kp_id))))))))
theorem zdD {α:Type} (a:α):Kp (noT a):=kp_none
theorem kp_lit (of:Nat) (n:Int):Kp (tLit of n):=zcC (kp_form _) (zcC (zcR _) (zcC (zcR _) kp_none))
theorem kp_call {ex:Int→TM} (h1:∀ a,Kp (ex a)) (o:Nat) (kids:List Int):Kp (tCall ex o kids):=zcC (kp_brk (kp_seq (zcR _) (kp_all h1 _))) kp_none
theorem kp_body {ex:Int→TM} (h1:∀ a,Kp (ex a)) (e:Exp):Kp (tBody ex e):=
 kp_ite2 (kp_lit _ _) (kp_ite2 (zcC (kp_name _) kp_none) (kp_ite2 (kp_call h1 _ _) (kp_shaped (kp_part zdD zdD zdD))))
theorem kp_expr (xs:List Exp):∀ (f:Nat) (a:Int),Kp (tExpr xs f a)
 | 0,a=>by intro σ σ' h;cases h
 | f+1,a=>by
  intro σ σ' h
  unfold tExpr at h
  split at h
  ·split at h
   ·cases h
   ·rename_i σ1 h1
    split at h
    ·cases h
     have:=kp_body (kp_expr xs f) _ _ _ h1
     exact this
    ·cases h
  ·cases h
theorem kp_act {ex:Int→TM} (h1:∀ a,Kp (ex a)) (a:Actn):Kp (tAct ex a):=kp_shaped (kp_part h1 zdD zdD)
theorem kp_stmt {ex:Int→TM} (h1:∀ a,Kp (ex a)) (ss:List Stm):∀ (f:Nat) (a:Int),Kp (tStmt ex ss f a)
 | 0,a=>by intro σ σ' h;cases h
 | f+1,a=>by
  intro σ σ' h
  unfold tStmt at h
  split at h
  ·split at h
   ·cases h
   ·rename_i σ1 h2
    split at h
    ·cases h
     have:=kp_shaped (kp_part h1 (kp_act h1) (kp_stmt h1 ss f)) _ _ h2
     exact this
    ·cases h
  ·cases h
def NQ (q:ES):Nat:=q.1.length+q.2.length
def Bd {α:Type} (c:Cx) (r:RdE α):Prop:=∀ (n:Nat) (q q':ES) (a:α),n<c.fs.length→r n q=.ok (a,q')→NQ q'≤NQ q+c.sz n
section
variable {c : Cx}
theorem Cx.Ok.kids_lt (h:c.Ok) {n:Nat} (hn:n<c.fs.length):∀ k∈(frm c.l n).kids,n<k∧k<c.fs.length:=by
 have hx:=List.getElem?_eq_getElem hn
 rw [Cx.frm_at hx]
 exact h.kidlt n _ hx
theorem Cx.Ok.kids_sz (h:c.Ok) {n:Nat} (hn:n<c.fs.length):1+((frm c.l n).kids.map c.sz).sum≤c.sz n:=by
 have hx:=List.getElem?_eq_getElem hn
 rw [Cx.frm_at hx]
 exact h.szk n _ hx
theorem brkK_sub (l:List Frm) (n:Nat):∀ k∈brkK l n,k∈(frm l n).kids:=fun _ hk=>List.mem_of_mem_tail hk
theorem tail_sum (f:Nat→Nat) (l:List Nat):(l.tail.map f).sum≤(l.map f).sum:=by cases l<;>simp
theorem Cx.Ok.brk_sz (h:c.Ok) {n:Nat} (hn:n<c.fs.length):1+((brkK c.l n).map c.sz).sum≤c.sz n:=by
 have:=h.kids_sz hn
 have:=tail_sum c.sz (frm c.l n).kids
 unfold brkK
 omega
theorem Cx.Ok.brk_lt (h:c.Ok) {n:Nat} (hn:n<c.fs.length):∀ k∈brkK c.l n,n<k∧k<c.fs.length:=fun k hk=>h.kids_lt hn k (brkK_sub _ _ k hk)
theorem Cx.Ok.brk_len (h:c.Ok) {n:Nat} (hn:n<c.fs.length):(brkK c.l n).length≤400:=by
 have hx:=List.getElem?_eq_getElem hn
 have:=h.kidlen n _ hx
 unfold brkK
 rw [Cx.frm_at hx,List.length_tail]
 omega
theorem bd_rows {r:RdE Int} (h:Bd c r):∀ (ks:List Nat) (q q':ES) (is:List Int),(∀ k∈ks,k<c.fs.length)→rows r ks q=.ok (is,q')→NQ q'≤NQ q+(ks.map c.sz).sum
 | [],q,q',is,_,e=>by simp only [rows,Except.ok.injEq,Prod.mk.injEq] at e;obtain ⟨_,rfl⟩:=e;simp
 | k::ks,q,q',is,hk,e=>by
  simp only [rows] at e
  split at e
  ·cases e
  ·rename_i i q1 h1
   split at e
   ·cases e
   ·rename_i is' q2 h2
    simp only [Except.ok.injEq,Prod.mk.injEq] at e
    obtain ⟨_,rfl⟩:=e
    have a1:=h k q q1 i (hk k (by simp)) h1
    have a2:=bd_rows h ks q1 q2 is' (fun x hx=>hk x (by simp [hx])) h2
    simp only [List.map_cons,List.sum_cons]
    omega
theorem zdJ {α:Type}:Bd c (noE c.l:RdE α):=fun n q q' a _ e=>by simp [noE] at e
theorem bd_take (h:c.Ok) {ex st:RdE Int} {ac:RdE Actn} (h1:Bd c ex) (h2:Bd c ac) (h3:Bd c st) {k k':Ctn} {kid part:Nat} {q q':ES} (hk:kid<c.fs.length) (e:takeP c.l ex ac st k kid part q=.ok (k',q')):NQ q'≤NQ q+c.sz kid:=by
 have hz:=h.kids_sz hk
 unfold takeP at e
 repeat' split at e
 all_goals first
  | (cases e;done)
  | (simp only [Except.ok.injEq,Prod.mk.injEq] at e;obtain ⟨_,rfl⟩:=e;omega)
  | (rename_i hh;simp only [Except.ok.injEq,Prod.mk.injEq] at e;obtain ⟨_,rfl⟩:=e;first|exact h1 _ _ _ _ hk hh|exact h2 _ _ _ _ hk hh|exact h3 _ _ _ _ hk hh|(have:=bd_rows h3 _ _ _ _ (fun x hx=>(h.kids_lt hk x hx).2) hh;omega))
theorem bd_takes (h:c.Ok) {ex st:RdE Int} {ac:RdE Actn} (h1:Bd c ex) (h2:Bd c ac) (h3:Bd c st) (ps:List Nat):∀ (ks:List Nat) (i:Nat) (k k':Ctn) (q q':ES),(∀ x∈ks,x<c.fs.length)→takesP (takeP c.l ex ac st) ps ks i k q=.ok (k',q')→NQ q'≤NQ q+(ks.map c.sz).sum
 | [],i,k,k',q,q',_,e=>by simp only [takesP,Except.ok.injEq,Prod.mk.injEq] at e;obtain ⟨_,rfl⟩:=e;simp
 | x::ks,i,k,k',q,q',hk,e=>by
  simp only [takesP] at e
  split at e
  ·cases e
  ·rename_i k1 q1 e1
   have a1:=bd_take h h1 h2 h3 (hk x (by simp)) e1
   have a2:=bd_takes h h1 h2 h3 ps ks (i+1) k1 k' q1 q' (fun y hy=>hk y (by simp [hy])) e
   simp only [List.map_cons,List.sum_cons]
   omega
theorem bd_content (h:c.Ok) {ex st:RdE Int} {ac:RdE Actn} (h1:Bd c ex) (h2:Bd c ac) (h3:Bd c st) {ps ks:List Nat} {n:Nat} {k':Ctn} {q q':ES} (hk:∀ x∈ks,x<c.fs.length) (e:contentP c.l (takeP c.l ex ac st) ps n ks q=.ok (k',q')):NQ q'≤NQ q+(ks.map c.sz).sum:=by
 unfold contentP at e
 split at e
 ·exact bd_takes h h1 h2 h3 ps ks 0 ctn0 k' q q' hk e
 ·cases e
theorem bd_expr (h:c.Ok):∀ f:Nat,Bd c (pExpr c.l f)
 | 0=>fun n q q' a _ e=>by simp [pExpr] at e
 | f+1=>by
  intro n q q' a hn e
  have hz:=h.brk_sz hn
  have hl:=h.brk_lt hn
  simp only [pExpr] at e
  split at e
  ·simp only [addX,Except.ok.injEq,Prod.mk.injEq] at e;obtain ⟨_,rfl⟩:=e;simp only [NQ,List.length_append,List.length_cons,List.length_nil];omega
  split at e
  ·simp only [addX,Except.ok.injEq,Prod.mk.injEq] at e;obtain ⟨_,rfl⟩:=e;simp only [NQ,List.length_append,List.length_cons,List.length_nil];omega
  split at e
  ·simp only [addX,Except.ok.injEq,Prod.mk.injEq] at e;obtain ⟨_,rfl⟩:=e;simp only [NQ,List.length_append,List.length_cons,List.length_nil];omega
  split at e
  ·simp only [addX,Except.ok.injEq,Prod.mk.injEq] at e;obtain ⟨_,rfl⟩:=e;simp only [NQ,List.length_append,List.length_cons,List.length_nil];omega
  split at e
  ·split at e
   ·cases e
   ·split at e
    ·cases e
    ·rename_i is q1 e1
     have a1:=bd_rows (bd_expr h f) _ _ _ _ (fun x hx=>(hl x hx).2) e1
     simp only [addX,Except.ok.injEq,Prod.mk.injEq] at e;obtain ⟨_,rfl⟩:=e
     simp only [NQ,List.length_append,List.length_cons,List.length_nil] at a1 ⊢;omega
  ·split at e
   ·cases e
   ·split at e
    ·cases e
    ·rename_i k q1 e1
     have a1:=bd_content h zdJ zdJ zdJ (fun x hx=>(hl x hx).2) e1
     simp only [addX,Except.ok.injEq,Prod.mk.injEq] at e;obtain ⟨_,rfl⟩:=e
     simp only [NQ,List.length_append,List.length_cons,List.length_nil] at a1 ⊢;omega
theorem bd_act (h:c.Ok):Bd c (pAct c.l):=by
 intro n q q' a hn e
 have hz:=h.brk_sz hn
 have hl:=h.brk_lt hn
 unfold pAct at e
 split at e
 ·cases e
 ·split at e
  ·cases e
  ·rename_i k q1 e1
   have a1:=bd_content h (bd_expr h _) zdJ zdJ (fun x hx=>(hl x hx).2) e1
   simp only [Except.ok.injEq,Prod.mk.injEq] at e;obtain ⟨_,rfl⟩:=e
   omega
theorem bd_stmt (h:c.Ok):∀ f:Nat,Bd c (pStmt c.l f)
 | 0=>fun n q q' a _ e=>by simp [pStmt] at e
 | f+1=>by
  intro n q q' a hn e
  have hz:=h.brk_sz hn
  have hl:=h.brk_lt hn
  simp only [pStmt] at e
  split at e
  ·cases e
  ·split at e
   ·cases e
   ·rename_i k q1 e1
    have a1:=bd_content h (bd_expr h _) (bd_act h) (bd_stmt h f) (fun x hx=>(hl x hx).2) e1
    simp only [addS,Except.ok.injEq,Prod.mk.injEq] at e;obtain ⟨_,rfl⟩:=e
    simp only [NQ,List.length_append,List.length_cons,List.length_nil] at a1 ⊢;omega
end
structure Bad (c:Cx) (X:List Rw) (w:World):Prop where
 below:Below c.w0.heap.size c.w0 w
 rows:RowsP w c.w0.heap.size X
theorem Bad.sub {c:Cx} {X Y:List Rw} {w:World} (h:Bad c Y w) (hs:X.Sublist Y):Bad c X w:=⟨h.below,h.rows.sub hs⟩
theorem RdS.bad {c:Cx} {p:PV} {X Y:List Rw} {w:World} (h:RdS c p Y w) (hs:X.Sublist Y):Bad c X w:=⟨h.below,h.rows.sub (hs.trans (List.sublist_append_right _ _))⟩
def RPost {α:Type} (c:Cx) (X:List Rw) (p:PV) (ret:α→Value) (r:Except Int (α × ES)) (e:Ending) (w':World):Prop:=
 match r with
 | .error q=>e=.panicked (flt2 q)∧Bad c X w'
 | .ok (a,q)=>e=.returned (ret a)∧∃ p',p'.es=q∧(p'.ds,p'.dv)=(p.ds,p.dv)∧(p'.ms,p'.mv)=(p.ms,p.mv)∧RdS c p' X w'
abbrev rI:Int→Value:=fun i=>.int .i64 i
def RC {α:Type} (c:Cx) (F n:Nat) (ret:α→Value) (r:RdE α):Prop:=
 ∀ (p:PV) (X:List Rw) (w:World),RdS c p X w→NQ p.es+c.sz n≤1000→Calls Tryz.prog F #[.pointer (some ⟨c.B,0,none⟩),.int .i64 (n:Int)] w (RPost c X p ret (r n p.es))
def iRow (v:Value) (is:List Int):Rw:=⟨v,3,1,is.length,intsI is⟩
def EachPost (c:Cx) (X:List Rw) (p:PV) (r:Except Int (List Int × ES)) (e:Ending) (w':World):Prop:=
 match r with
 | .error q=>e=.panicked (flt2 q)∧Bad c X w'
 | .ok (is,q)=>∃ ov p',e=.returned ov∧p'.es=q∧(p'.ds,p'.dv)=(p.ds,p.dv)∧(p'.ms,p'.mv)=(p.ms,p.mv)∧RdS c p' (iRow ov is::X) w'
theorem rows_snoc {r:RdE Int}:∀ (ks:List Nat) (k:Nat) (q q1:ES) (is:List Int),rows r ks q=.ok (is,q1)→rows r (ks++[k]) q=(match r k q1 with|.error e=>.error e|.ok (i,q2)=>.ok (is++[i],q2))
 | [],k,q,q1,is,e=>by
  simp only [rows,Except.ok.injEq,Prod.mk.injEq] at e
  obtain ⟨rfl,rfl⟩:=e
  simp only [List.nil_append,rows]
  cases r k q with
  | error e=>rfl
  | ok x=>rfl
 | x::ks,k,q,q1,is,e=>by
  simp only [rows] at e
  simp only [List.cons_append,rows]
  cases hx:r x q with
  | error e9=>rw [hx] at e;cases e
  | ok y=>
   obtain ⟨i,q2⟩:=y
   rw [hx] at e
   simp only at e ⊢
   cases hy:rows r ks q2 with
   | error e9=>rw [hy] at e;cases e
   | ok z=>
    obtain ⟨is',q3⟩:=z
    rw [hy] at e
    simp only [Except.ok.injEq,Prod.mk.injEq] at e
    obtain ⟨rfl,rfl⟩:=e
    rw [rows_snoc ks k q2 q3 is' hy]
    cases r k q3 with
    | error e=>rfl
    | ok x=>rfl
theorem rows_err {r:RdE Int}:∀ (a b:List Nat) (q:ES) (e:Int),rows r a q=.error e→rows r (a++b) q=.error e
 | [],_,_,_,h=>by simp [rows] at h
 | x::a,b,q,e,h=>by
  simp only [rows] at h
  simp only [List.cons_append,rows]
  cases hx:r x q with
  | error e'=>rw [hx] at h;exact h
  | ok y=>
   obtain ⟨i,q2⟩:=y
   rw [hx] at h
   simp only at h ⊢
   cases hy:rows r a q2 with
   | error e'=>rw [hy] at h;rw [rows_err a b q2 e' hy];exact h
   | ok z=>rw [hy] at h;cases h
theorem rows_len {r:RdE Int}:∀ (ks:List Nat) (q q1:ES) (is:List Int),rows r ks q=.ok (is,q1)→is.length=ks.length
 | [],q,q1,is,e=>by simp only [rows,Except.ok.injEq,Prod.mk.injEq] at e;obtain ⟨rfl,rfl⟩:=e;rfl
 | x::ks,q,q1,is,e=>by
  simp only [rows] at e
  cases hx:r x q with
  | error e9=>rw [hx] at e;cases e
  | ok y=>
   obtain ⟨i,q2⟩:=y
   rw [hx] at e
   simp only at e
   cases hy:rows r ks q2 with
   | error e9=>rw [hy] at e;cases e
   | ok z=>
    obtain ⟨is',q3⟩:=z
    rw [hy] at e
    simp only [Except.ok.injEq,Prod.mk.injEq] at e
    obtain ⟨rfl,rfl⟩:=e
    simp [rows_len ks q2 q3 is' hy]
theorem take_sum_le (f:Nat→Nat) (l:List Nat) (j k:Nat) (h:l[j]?=some k):((l.take j).map f).sum+f k≤(l.map f).sum:=by
 have:l=l.take j++k::l.drop (j+1):=by
  have hj:=(List.getElem?_eq_some_iff.1 h).1
  have hv:=(List.getElem?_eq_some_iff.1 h).2
  rw [←hv,List.getElem_cons_drop,List.take_append_drop]
 have e:=congrArg (fun l=>(l.map f).sum) this
 simp only [List.map_append,List.map_cons,List.sum_append,List.sum_cons] at e
 omega
theorem RdS.seesK {c:Cx} {p:PV} {X:List Rw} {w:World} (h:RdS c p X w) {kv:Value} {ks:List Nat} (hk:SeesK c.w0 kv ks):SeesK w kv ks:=hk.below h.below (Nat.le_refl _)
set_option maxHeartbeats 2000000 in
theorem each_any {c:Cx} {F:Nat} {r:RdE Int} {ks:List Nat} {kv:Value} (hk:SeesK c.w0 kv ks) (hkl:ks.length≤400) (hlt:∀ k∈ks,k<c.fs.length) (HF:∀ k∈ks,RC c F k rI r) (hbd:Bd c r) {p:PV} {X:List Rw} {w:World} (h:RdS c p X w) (hN:NQ p.es+(ks.map c.sz).sum≤1000) (hF:F=148∨F=93) :
  Calls Tryz.prog 150 #[kv,.func (.func F) #[.pointer (some ⟨c.B,0,none⟩)] #[]] w (EachPost c X p (rows r ks p.es)):=by
 obtain ⟨_,a,cap,rfl,hcell⟩:=id hk
 obtain ⟨n,hn⟩:∃ n,ks.length=n:=⟨_,rfl⟩
 have HN:=hidI hn
 have HH:=hidI h
 have HK:=hidI hk
 have HHF:=hidI HF
 have HNN:=hidI hN
 rw [hn] at hkl
 rw [hn]
 clear hn h hk HF hN hcell
 have HSTART:Hid (RdS c p (iRow (.slice none 0 0) []::X) w):=hidI (HH.out.more (HH.out.rows.nil 3 1))
 go_enter Tryz.func150,Tryz.ntmps150
 go_wp2
 go_loopg [5,10] n (fun g s5 s10 wx=>∃ (j:Nat) (pj:PV) (is:List Int) (ov:Value),j+g=n∧ov=s5∧s10=.int .i64 (j:Int)∧Hid (rows r (ks.take j) p.es=.ok (is,pj.es))∧Hid ((pj.ds,pj.dv)=(p.ds,p.dv)∧(pj.ms,pj.mv)=(p.ms,p.mv))∧Hid (RdS c pj (iRow ov is::X) wx))
 case atStart=>exact ⟨0,p,[],_,by omega,rfl,rfl,hidI rfl,hidI ⟨rfl,rfl⟩,HSTART⟩
 case round=>
  obtain ⟨j,pj,is,ov,hjg,rfl,rfl,HR,HD,HS⟩:=hrel
  cases gk with
  | zero=>
   obtain rfl:n=j:=by omega
   have k1:decide ((n:Int)<(n:Int))=false:=by simp
   have HR2:Hid (rows r ks p.es=.ok (is,pj.es)):=hidI (by have:=HR.out;rwa [List.take_of_length_le (by have:=HN.out;omega)] at this)
   go_wp2
   go_ret
   rw [HR2.out]
   exact ⟨ov,pj,rfl,rfl,HD.out.1,HD.out.2,HS.out⟩
  | succ g=>
   have k1:(j:Int)<(n:Int):=by omega
   obtain ⟨k,hk⟩:∃ k,ks[j]?=some k:=⟨_,List.getElem?_eq_getElem (by have:=HN.out;omega)⟩
   have hmem:k∈ks:=List.mem_of_getElem? hk
   have hisl:is.length=j:=by rw [rows_len _ _ _ _ HR.out,List.length_take];have:=HN.out;omega
   obtain ⟨_,a',cap',hav,hcell⟩:=HS.out.seesK HK.out
   rw [HN.out] at hav
   cases hav
   rcases hcell with h0|⟨b,o,rfl,hcell⟩
   ·have:=HN.out;omega
   have x0:=hcell j _ (ints_get hk)
   have hbud:NQ pj.es+c.sz k≤1000:=by
    have a1:=bd_rows hbd _ _ _ _ (fun x hx=>hlt x (List.mem_of_mem_take hx)) HR.out
    have a2:=take_sum_le c.sz ks j k hk
    have:=HNN.out
    omega
   have C:=hidI (HHF.out k hmem pj (iRow ov is::X) wr HS.out hbud)
   have HTK:Hid (ks.take (j+1)=ks.take j++[k]):=hidI (by rw [List.take_add_one,hk];rfl)
   have HSN:=hidI (rows_snoc (r:=r) (ks.take j) k p.es pj.es is HR.out)
   have HDR:Hid (ks=ks.take (j+1)++ks.drop (j+1)):=hidI (List.take_append_drop _ _).symm
   clear hk hmem hcell hbud
   cases hr:r k pj.es with
   | error q=>
    have HE:Hid (rows r ks p.es=.error q):=hidI (by
     rw [HDR.out]
     refine rows_err _ _ _ _ ?_
     rw [HTK.out,HSN.out,hr])
    rw [hr] at C
    clear hr HSN HTK HDR
    rcases hF with rfl|rfl
    all_goals
     go_wp2_with (first
      | (go_at_call 148;refine C.out.mono ?_;intro e w1 h1;obtain ⟨rfl,hb1⟩:=h1;clear C)
      | (go_at_call 93;refine C.out.mono ?_;intro e w1 h1;obtain ⟨rfl,hb1⟩:=h1;clear C))
     refine ⟨rfl,?_⟩
     rw [HE.out]
     exact ⟨rfl,hb1.sub (.cons _ (.refl _))⟩
   | ok y=>
    obtain ⟨i,q⟩:=y
    have HE:Hid (rows r (ks.take (j+1)) p.es=.ok (is++[i],q)):=hidI (by rw [HTK.out,HSN.out,hr])
    rw [hr] at C
    clear hr HSN HTK HDR HR
    rcases hF with rfl|rfl
    all_goals
     go_wp2_with (first
      | (go_at_call 148;refine C.out.mono ?_;intro e w1 h1;obtain ⟨rfl,hb1⟩:=h1;clear C;refine Hid.out ?_)
      | (go_at_call 93;refine C.out.mono ?_;intro e w1 h1;obtain ⟨rfl,hb1⟩:=h1;clear C;refine Hid.out ?_))
     obtain ⟨p1,hes1,hds1,hms1,hS1⟩:=hb1
     have HO:=hidI (World.ownsRow.alloc (RowsP.head (r:=iRow ov is) hS1.first) (.cells #[.int .i64 i] 3))
     have HV:=hidI (zbT w1 3 1 #[.int .i64 i] rfl)
     have HS1:=hidI hS1
     have hb1:=hS1.size
     clear hS1
     refine hidI ?_
     go_wp2_with (at_builtin;go_must (refine zbF Tryz.underlying45 Tryz.info3z rfl (by decide) (by decide) rfl _ _ rfl c.w0.heap.size ov is.length (intsI is) rfl HO.out _ 1 [.int .i64 i] rfl HV.out (by simp [Value.oneCell']) (by omega) (by simp;omega) ?_);intro v9 w9 hown9 hgrow9 hat9;refine Hid.out ?_)
     have hP:=HS1.out.first.alloc (.cells #[.int .i64 i] 3)
     have hP2:RowsP w9 c.w0.heap.size (iRow v9 (is++[i])::(prows c p1++X)):=hP.put (r':=iRow v9 (is++[i])) hgrow9 (by
      show w9.ownsRow c.w0.heap.size 3 1 v9 (is++[i]).length (intsI (is++[i]))
      rw [List.length_append]
      simpa [intsI] using hown9) (.inr hat9)
     have HS9:Hid (RdS c p1 (iRow v9 (is++[i])::X) w9):=hidI ⟨(HS1.out.below.alloc hb1 _).grown hgrow9 (by simp;omega) (fun k hk=>(HO.out.lt k hk).1),hP2.perm List.perm_middle.symm⟩
     have HD1:Hid ((p1.ds,p1.dv)=(p.ds,p.dv)∧(p1.ms,p1.mv)=(p.ms,p.mv)):=hidI ⟨hds1.trans HD.out.1,hms1.trans HD.out.2⟩
     have HE1:Hid (rows r (ks.take (j+1)) p.es=.ok (is++[i],p1.es)):=hidI (by rw [hes1];exact HE.out)
     clear hown9 hgrow9 hat9 hP hP2 HS1 HO HV HS HE HD hes1 hds1 hms1
     refine hidI ?_
     go_wp2
     go_roundg g
     case measure=>omega
     case rel=>exact ⟨j+1,p1,is++[i],v9,by omega,rfl,by go_num,HE1,HD1,HS9⟩
end Go.Proofs.YtmekkhfohmfjkaaGreatDoor
