/-
  Part 4 of the proof: TlM, PExpr, PExpr2, PExpr3, PStmt, PAll, TlMem, Eng, Has, TlHas.
-/
import Derived.Test.YtfljimpgnlfipaaGreatDoorTE01
import Derived.Test.YtfljimpgnlfipaaGreatDoorTE03
import Derived.Lib.OthersKept
import Derived.Test.YtfljimpgnlfipaaGreatDoorTE02
import Derived.Shelf.Strings.Runes
import Derived.Test.YtfljimpgnlfipaaGreatDoorProg
namespace Go.Proofs.YtfljimpgnlfipaaGreatDoor
open Go.RowKit Go.Deep Go.MapKept
structure TS where
 x:Nat
 s:Nat
 f:Nat
 d:Nat
 ts:List Tok
abbrev TM:=TS→Option TS
def opW (o:Nat):ByteArray:=if o=0 then emptyS else opWs.getD (o-1) emptyS
def stmtW:Nat→ByteArray
 | 1=>⟨#[115,101,116]⟩|2=>⟨#[102,111,108,100]⟩|3=>⟨#[101,97,99,104]⟩|4=>⟨#[105,102]⟩|5=>⟨#[119,104,105,108,101]⟩|6=>⟨#[108,111,111,112]⟩|7=>⟨#[98,102,115]⟩|_=>⟨#[]⟩
def actW:Nat→ByteArray
 | 1=>⟨#[112,117,116]⟩|2=>⟨#[112,117,115,104]⟩|3=>⟨#[112,117,108,108]⟩|_=>⟨#[]⟩
def exprW:Nat→ByteArray
 | 3=>⟨#[111,119,110]⟩|4=>⟨#[102,97,114]⟩|5=>⟨#[118,105,97]⟩|6=>⟨#[105,100]⟩|7=>⟨#[102,97,114,105,100]⟩|8=>⟨#[100,101,103]⟩|9=>⟨#[99,111,117,110,116]⟩|_=>⟨#[]⟩
def declW (sd kd:Nat):ByteArray:=
 if sd=1∧kd=1 then ⟨#[105,110,116]⟩ else if sd=1∧kd=2 then ⟨#[98,111,111,108]⟩ else if sd=2∧kd=1 then ⟨#[110,105,110,116]⟩ else if sd=2∧kd=2 then ⟨#[110,98,111,111,108]⟩ else if sd=3∧kd=1 then ⟨#[101,105,110,116]⟩ else if sd=3∧kd=2 then ⟨#[101,98,111,111,108]⟩ else ⟨#[]⟩
def declS (sd kd:Nat):List Nat:=if declW sd kd=(⟨#[]⟩:ByteArray) then [] else [110]
def wayW (b:Bool):ByteArray:=if b=true then ⟨#[105,110]⟩ else ⟨#[111,117,116]⟩
def tForm (t:Tok):TM:=fun σ=>if σ.f+1≤400 then some { σ with f:=σ.f+1,ts:=σ.ts++[t] } else none
def tWord (s:ByteArray):TM:=tForm ⟨3,s,0,0⟩
def tName (s:ByteArray):TM:=fun σ=>if nmOk s=true then tWord s σ else none
def tOpen:TM:=fun σ=>if σ.d+1≤12 then tForm ⟨1,emptyS,0,0⟩ { σ with d:=σ.d+1 } else none
def tClose (σ:TS):TS:={ σ with d:=σ.d-1,ts:=σ.ts++[⟨2,emptyS,0,0⟩] }
def tBrk (g:TM):TM:=fun σ=>match tOpen σ with
 | none=>none
 | some σ1=>match g σ1 with
  | none=>none
  | some σ2=>some (tClose σ2)
def tAll {α:Type} (g:α→TM):List α→TM
 | [],σ=>some σ
 | a::r,σ=>match g a σ with
  | none=>none
  | some σ1=>tAll g r σ1
def tSeq (g h:TM):TM:=fun σ=>match g σ with
 | none=>none
 | some σ1=>h σ1
def bareP (ps:List Nat) (c:Ctn):Bool:=
 (decide (c.name=(⟨#[]⟩:ByteArray)) || ps.contains 110) && (c.op==0 || ps.contains 111) && (!c.inn || ps.contains 119) &&
  (c.e == -1 || ps.contains 101) && (c.cond == -1 || ps.contains 99) && (c.acts.length==0 || ps.contains 97) &&
  (c.thn.length==0 || ps.contains 116 || ps.contains 115) && (c.els.length==0 || ps.contains 102)
def tShaped (wd:ByteArray) (ps:List Nat) (c:Ctn) (part:Nat→TM):TM:=fun σ=>
 if wd≠(⟨#[]⟩:ByteArray)∧bareP ps c=true then tBrk (tSeq (tWord wd) (tAll part ps)) σ else none
def tPart (ex:Int→TM) (ac:Actn→TM) (st:Int→TM) (c:Ctn) (part:Nat):TM:=fun σ=>
 if part=110 then tName c.name σ
 else if part=111 then (if redN c.op=true then tWord (opW c.op) σ else none)
 else if part=119 then tWord (wayW c.inn) σ
 else if part=101 then ex c.e σ
 else if part=99 then (if c.cond = -1 then some σ else ex c.cond σ)
 else if part=97 then (if 1≤c.acts.length∧c.acts.length≤6 then tAll ac c.acts σ else none)
 else if part=116 then tBrk (tAll st c.thn) σ
 else if part=102 then tBrk (tAll st c.els) σ
 else if part=115 then tAll st c.thn σ
 else some σ
def noT {α:Type}:α→TM:=fun _ _=>none
def tLit (of:Nat) (n:Int):TM:=fun σ=>
 if of=1 then tForm ⟨4,emptyS,n,0⟩ σ
 else if of=2∧n=1 then tWord ⟨#[116,114,117,101]⟩ σ
 else if of=2∧n=0 then tWord ⟨#[102,97,108,115,101]⟩ σ
 else none
def exp0:Exp:=⟨0,0,0,emptyS,0,[]⟩
def ctnX (e:Exp):Ctn:={ ctn0 with name:=e.name,inn:=decide (e.num=1) }
def tCall (ex:Int→TM) (o:Nat) (kids:List Int):TM:=fun σ=>
 if 0<arityN o∧kids.length=arityN o then tBrk (tSeq (tWord (opW o)) (tAll ex kids)) σ else none
def plainX (e:Exp):Exp:=
 if e.k=1 then ⟨1,e.of,0,emptyS,e.num,[]⟩ else if e.k=2 then ⟨2,0,0,e.name,0,[]⟩ else if e.k=10 then ⟨10,0,e.op,emptyS,0,e.kids⟩ else ⟨e.k,0,0,e.name,if e.num=1 then 1 else 0,[]⟩
def sameX (a b:Exp):Bool:=a.k==b.k && a.of==b.of && a.op==b.op && decide (a.name=b.name) && a.num==b.num && decide (a.kids=b.kids)
def tBody (ex:Int→TM) (e:Exp):TM:=
 if e.k=1 then tLit e.of e.num
 else if e.k=2 then fun σ=>if e.name≠(⟨#[116,114,117,101]⟩:ByteArray)∧e.name≠(⟨#[102,97,108,115,101]⟩:ByteArray) then tName e.name σ else none
 else if e.k=10 then tCall ex e.op e.kids
 else tShaped (exprW e.k) (exprSh e.k) (ctnX e) (tPart noT noT noT (ctnX e))
def tExpr (xs:List Exp):Nat→Int→TM
 | 0,_,_=>none
 | f+1,a,σ=>
  if 0≤a∧a<xs.length then
   match tBody (tExpr xs f) (xs.getD a.toNat exp0) σ with
   | none=>none
   | some σ1=>if sameX (xs.getD a.toNat exp0) (plainX (xs.getD a.toNat exp0))=true∧a=σ1.x then some { σ1 with x:=σ1.x+1 } else none
  else none
def ctnA (a:Actn):Ctn:=⟨a.name,a.op,a.inn,a.e,a.cond,[],[],[]⟩
def tAct (ex:Int→TM) (a:Actn):TM:=tShaped (actW a.k) (actSh a.k) (ctnA a) (tPart ex noT noT (ctnA a))
def ctnS (s:Stm):Ctn:=⟨s.name,s.op,false,s.e,s.cond,s.acts,s.thn,s.els⟩
def stm0:Stm:=⟨0,emptyS,0,0,0,[],[],[]⟩
def tStmt (ex:Int→TM) (ss:List Stm):Nat→Int→TM
 | 0,_,_=>none
 | f+1,a,σ=>
  if 0≤a∧a<ss.length then
   match tShaped (stmtW (ss.getD a.toNat stm0).k) (stmtSh (ss.getD a.toNat stm0).k) (ctnS (ss.getD a.toNat stm0)) (tPart ex (tAct ex) (tStmt ex ss f) (ctnS (ss.getD a.toNat stm0))) σ with
   | none=>none
   | some σ1=>if a=σ1.s then some { σ1 with s:=σ1.s+1 } else none
  else none
def ctnD (d:Dcl):Ctn:={ ctn0 with name:=d.name }
def tDecl (d:Dcl):TM:=tShaped (declW d.side d.kind) (declS d.side d.kind) (ctnD d) (tPart noT noT noT (ctnD d))
def tE (P:Prg):Int→TM:=tExpr P.exprs 401
def tProg (P:Prg):TM:=fun σ=>
 if P.decls.length≤24 then
  match tAll tDecl P.decls σ with
  | none=>none
  | some σ1=>match tAll (tStmt (tE P) P.stmts 401) P.main σ1 with
   | none=>none
   | some σ2=>if σ2.x=P.exprs.length∧σ2.s=P.stmts.length then some σ2 else none
 else none
def ts0:TS:=⟨0,0,0,0,[]⟩
def soundP (P:Prg):Bool:=(tProg P ts0).isSome
def Kp (r:TM):Prop:=∀ σ σ',r σ=some σ'→σ'.d=σ.d∧σ.f≤σ'.f∧(σ.f≤400→σ'.f≤400)
theorem kp_form (t:Tok):Kp (tForm t):=by
 intro σ σ' h;unfold tForm at h;split at h
 ·cases h;exact ⟨rfl,by simp,fun _=>by assumption⟩
 ·cases h
theorem zdW (s:ByteArray):Kp (tWord s):=kp_form _
theorem kp_name (s:ByteArray):Kp (tName s):=by
 intro σ σ' h;unfold tName at h;split at h
 ·exact zdW _ _ _ h
 ·cases h
theorem kp_seq {g h:TM} (hg:Kp g) (hh:Kp h):Kp (tSeq g h):=by
 intro σ σ' e;unfold tSeq at e;split at e
 ·cases e
 ·rename_i σ1 h1
  obtain ⟨a1,a2,a3⟩:=hg _ _ h1;obtain ⟨b1,b2,b3⟩:=hh _ _ e;exact ⟨b1.trans a1,Nat.le_trans a2 b2,fun x=>b3 (a3 x)⟩
theorem kp_all {α:Type} {g:α→TM} (hg:∀ a,Kp (g a)):∀ l:List α,Kp (tAll g l)
 | []=>by intro σ σ' h;cases h;exact ⟨rfl,Nat.le_refl _,fun x=>x⟩
 | a::r=>by
  intro σ σ' h;unfold tAll at h;split at h
  ·cases h
  ·rename_i σ1 h1
   obtain ⟨a1,a2,a3⟩:=hg a _ _ h1;obtain ⟨b1,b2,b3⟩:=kp_all hg r _ _ h;exact ⟨b1.trans a1,Nat.le_trans a2 b2,fun x=>b3 (a3 x)⟩
theorem kp_open {σ σ':TS} (h:tOpen σ=some σ'):σ'.d=σ.d+1∧σ'.f=σ.f+1∧σ'.f≤400∧σ.d+1≤12∧σ'.ts=σ.ts++[⟨1,emptyS,0,0⟩]∧σ'.x=σ.x∧σ'.s=σ.s:=by
 unfold tOpen at h;split at h
 ·unfold tForm at h;split at h
  ·cases h;exact ⟨rfl,rfl,by assumption,by assumption,rfl,rfl,rfl⟩
  ·cases h
 ·cases h
theorem kp_brk {g:TM} (hg:Kp g):Kp (tBrk g):=by
 intro σ σ' e;unfold tBrk at e;split at e
 ·cases e
 ·rename_i σ1 h1
  split at e
  ·cases e
  ·rename_i σ2 h2
   obtain ⟨a1,a2,a3,_⟩:=kp_open h1;obtain ⟨b1,b2,b3⟩:=hg _ _ h2;cases e;refine ⟨?_,?_,fun _=>b3 a3⟩
   ·show σ2.d-1=σ.d;omega
   ·show σ.f≤σ2.f;omega
theorem kp_none:Kp (fun _=>none):=by intro σ σ' h;cases h
theorem zdF {c:Prop} [Decidable c] {g h:TM} (hg:Kp g) (hh:Kp h):Kp (fun σ=>if c then g σ else h σ):=by
 intro σ σ' e;simp only at e;split at e
 ·exact hg _ _ e
 ·exact hh _ _ e
theorem kp_ite2 {c:Prop} [Decidable c] {g h:TM} (hg:Kp g) (hh:Kp h):Kp (if c then g else h):=by
 split
 ·exact hg
 ·exact hh
theorem kp_id:Kp some:=by intro σ σ' h;cases h;exact ⟨rfl,Nat.le_refl _,fun x=>x⟩
theorem kp_shaped {wd:ByteArray} {ps:List Nat} {c:Ctn} {part:Nat→TM} (h:∀ a,Kp (part a)):Kp (tShaped wd ps c part):=
 zdF (kp_brk (kp_seq (zdW _) (kp_all h _))) kp_none
theorem kp_part {ex:Int→TM} {ac:Actn→TM} {st:Int→TM} {c:Ctn} (h1:∀ a,Kp (ex a)) (h2:∀ a,Kp (ac a)) (h3:∀ a,Kp (st a)) (part:Nat):Kp (tPart ex ac st c part):=
 zdF (kp_name _) (zdF (zdF (zdW _) kp_none) (zdF (zdW _) (zdF (h1 _) (zdF (zdF kp_id (h1 _)) (zdF (zdF (kp_all h2 _) kp_none) (zdF (kp_brk (kp_all h3 _)) (zdF (kp_brk (kp_all h3 _)) (zdF (kp_all h3 _) kp_id))))))))
theorem zeP {α:Type} (a:α):Kp (noT a):=kp_none
theorem kp_lit (of:Nat) (n:Int):Kp (tLit of n):=zdF (kp_form _) (zdF (zdW _) (zdF (zdW _) kp_none))
theorem kp_call {ex:Int→TM} (h1:∀ a,Kp (ex a)) (o:Nat) (kids:List Int):Kp (tCall ex o kids):=zdF (kp_brk (kp_seq (zdW _) (kp_all h1 _))) kp_none
theorem kp_body {ex:Int→TM} (h1:∀ a,Kp (ex a)) (e:Exp):Kp (tBody ex e):=
 kp_ite2 (kp_lit _ _) (kp_ite2 (zdF (kp_name _) kp_none) (kp_ite2 (kp_call h1 _ _) (kp_shaped (kp_part zeP zeP zeP))))
theorem kp_expr (xs:List Exp):∀ (f:Nat) (a:Int),Kp (tExpr xs f a)
 | 0,a=>by intro σ σ' h;cases h
 | f+1,a=>by
  intro σ σ' h;unfold tExpr at h;split at h
  ·split at h
   ·cases h
   ·rename_i σ1 h1
    split at h
    ·cases h;have:=kp_body (kp_expr xs f) _ _ _ h1;exact this
    ·cases h
  ·cases h
theorem kp_act {ex:Int→TM} (h1:∀ a,Kp (ex a)) (a:Actn):Kp (tAct ex a):=kp_shaped (kp_part h1 zeP zeP)
theorem kp_stmt {ex:Int→TM} (h1:∀ a,Kp (ex a)) (ss:List Stm):∀ (f:Nat) (a:Int),Kp (tStmt ex ss f a)
 | 0,a=>by intro σ σ' h;cases h
 | f+1,a=>by
  intro σ σ' h;unfold tStmt at h;split at h
  ·split at h
   ·cases h
   ·rename_i σ1 h2
    split at h
    ·cases h;have:=kp_shaped (kp_part h1 (kp_act h1) (kp_stmt h1 ss f)) _ _ h2;exact this
    ·cases h
  ·cases h
open Go.RowKit Go.Deep Go.MapKept
abbrev xval (x:Exp) (kv:Value):Value:=.agg #[.int .u8 (x.k:Int),.int .u8 (x.of:Int),.int .u8 (x.op:Int),.string x.name,.int .i64 x.num,kv]
end Go.Proofs.YtfljimpgnlfipaaGreatDoor



namespace Go.Proofs.YtfljimpgnlfipaaGreatDoor
open Go.RowKit Go.Deep Go.MapKept
def PV.prg (p:PV):Prg:=⟨p.ds,p.xs.map Prod.fst,p.ss.map SV.s,p.ms⟩
open Go.RowKit Go.Deep Go.MapKept
structure Tx where
 w0:World
 B:Nat
 P:PV
 put:Value
 pr:List Tok→List Rw→Prop
 K:List (Nat × ByteArray × Nat)
def tlBox (t:Tx) (σ:TS):Rw:=⟨bx t.B,184,9,1,[t.P.dv,t.P.xv,t.P.sv,t.P.mv,.int .i64 (σ.x:Int),.int .i64 (σ.s:Int),.int .i64 (σ.f:Int),.int .i64 (σ.d:Int),t.put]⟩
structure TlR (t:Tx) (σ:TS) (X:List Rw) (w:World):Prop where
 below:Below t.w0.heap.size t.w0 w
 rows:∃ Q,t.pr σ.ts Q∧RowsP w t.w0.heap.size (tlBox t σ::(Q++X))
 kept:∀ x∈t.K,w.heap[x.1]?=some (.stringIter x.2.1 x.2.2)
def TsOk (σ:TS):Prop:=σ.f≤400∧σ.ts.length+σ.d≤2*σ.f∧σ.d≤12
def TsOk1 (σ:TS):Prop:=σ.f≤400∧σ.ts.length+σ.d≤2*σ.f+1∧σ.d≤12
structure TlS (t:Tx) (σ:TS) (X:List Rw) (w:World):Prop where
 r:TlR t σ X w
 lim:TsOk σ
structure TBad (t:Tx) (X:List Rw) (w:World):Prop where
 below:Below t.w0.heap.size t.w0 w
 rows:RowsP w t.w0.heap.size X
theorem TsOk.one {σ:TS} (h:TsOk σ):TsOk1 σ:=⟨h.1,by have:=h.2.1;omega,h.2.2⟩
section
variable {t : Tx} {σ : TS} {X Y : List Rw} {w : World}
theorem keep_below {l:List (Nat × ByteArray × Nat)} (h:∀ x∈l,w.heap[x.1]?=some (.stringIter x.2.1 x.2.2)) {w':World} (hb:Below w.heap.size w w'):∀ x∈l,w'.heap[x.1]?=some (.stringIter x.2.1 x.2.2):=
 fun x hx=>(hb.block x.1 (Array.getElem?_eq_some_iff.1 (h x hx)).1).trans (h x hx)
theorem own_cells {base e size n B:Nat} {xs:List Value} (h:w.ownsRow base e size (bx B) n xs):∃ cur,w.heap[B]?=some (.cells cur e):=by
 rcases h.2 with ⟨h0,_⟩|⟨g',cap',cur,he,hb,hh,h1,h2,h3,h4⟩
 ·cases h0
 ·cases he;exact ⟨cur,hh⟩
theorem keep_ne {base e size n B:Nat} {xs:List Value} (h:w.ownsRow base e size (bx B) n xs) {x:Nat × ByteArray × Nat} (hx:w.heap[x.1]?=some (.stringIter x.2.1 x.2.2)):x.1≠B:=by
 obtain ⟨cur,hc⟩:=own_cells h;intro e;rw [e,hc] at hx;cases hx
theorem keep_set {base e size n B j:Nat} {xs:List Value} (h:w.ownsRow base e size (bx B) n xs) {l:List (Nat × ByteArray × Nat)} (hk:∀ x∈l,w.heap[x.1]?=some (.stringIter x.2.1 x.2.2)) (u:Value):∀ x∈l,(w.setCell ⟨B,j,none⟩ u).heap[x.1]?=some (.stringIter x.2.1 x.2.2):=
 fun x hx=>((grown_set w B j u).block x.1 (Array.getElem?_eq_some_iff.1 (hk x hx)).1 (fun e=>keep_ne h (hk x hx) (by cases e;rfl))).trans (hk x hx)
theorem TlR.on (h:TlR t σ X w) {w':World} (hb:Below w.heap.size w w'):TlR t σ X w':=by
 obtain ⟨Q,hq,hr⟩:=h.rows;exact ⟨h.below.trans (hb.mono h.below.size),⟨Q,hq,hr.below hb⟩,keep_below h.kept hb⟩
theorem TlR.drew (h:TlR t σ X w):TlR t σ X w.drew:=by
 obtain ⟨Q,hq,hr⟩:=h.rows;exact ⟨h.below.drew,⟨Q,hq,hr.drew⟩,h.kept⟩
theorem TlR.alloc (h:TlR t σ X w) (o:Obj):TlR t σ X (w.alloc o):=by
 obtain ⟨Q,hq,hr⟩:=h.rows;exact ⟨h.below.alloc h.below.size o,⟨Q,hq,hr.alloc o⟩,keep_below h.kept ((Below.refl w.heap.size w).alloc (Nat.le_refl _) o)⟩
theorem TlR.box (h:TlR t σ X w):w.ownsRow t.w0.heap.size 184 9 (bx t.B) 1 (tlBox t σ).xs:=by
 obtain ⟨Q,hq,hr⟩:=h.rows;exact RowsP.head (r:=tlBox t σ) hr
theorem TlR.cell (h:TlR t σ X w) {j:Nat} {u:Value} (hj:(tlBox t σ).xs[j]?=some u):w.cell? ⟨t.B,j,none⟩=some u:=zaA h.box hj
theorem TlR.free (h:TlR t σ X w) (j:Nat):w.frozen? ⟨t.B,j,none⟩=false:=zcT h.box j
theorem TlR.lt (h:TlR t σ X w):t.w0.heap.size≤t.B∧t.B<w.heap.size:=h.box.lt t.B rfl
theorem TlR.size (h:TlR t σ X w):t.w0.heap.size≤w.heap.size:=h.below.size
theorem TlR.more (h:TlR t σ X w) {w':World} {r:Rw} (hw:TlR t σ X w→∀ l,RowsP w t.w0.heap.size l→RowsP w' t.w0.heap.size (r::l)) (hb:Below w.heap.size w w'):TlR t σ (r::X) w':=by
 obtain ⟨Q,hq,hr⟩:=h.rows;refine ⟨h.below.trans (hb.mono h.below.size),⟨Q,hq,?_⟩,keep_below h.kept hb⟩;have:=hw h _ hr;exact this.perm (((List.perm_middle (l₁:=tlBox t σ::Q) (l₂:=X) (a:=r))).symm)
theorem TlR.newbox (h:TlR t σ X w) (e size:Nat) (xs:Array Value) (hs:xs.size=size):TlR t σ (⟨bx w.heap.size,e,size,1,xs.toList⟩::X) (w.alloc (.cells xs e)):=
 h.more (fun h l hl=>hl.add (r:=⟨bx w.heap.size,e,size,1,xs.toList⟩) (hl.alloc _) (box_new w t.w0.heap.size e size xs h.size hs) (fun k hk=>by cases hk;exact Nat.le_refl _)) ((Below.refl w.heap.size w).alloc (Nat.le_refl _) _)
theorem TlR.first {r:Rw} (h:TlR t σ (r::X) w):∃ Q,t.pr σ.ts Q∧RowsP w t.w0.heap.size (r::(tlBox t σ::(Q++X))):=by
 obtain ⟨Q,hq,hr⟩:=h.rows;exact ⟨Q,hq,hr.perm (List.perm_middle (l₁:=tlBox t σ::Q) (l₂:=X) (a:=r))⟩
theorem TlR.row {r:Rw} (h:TlR t σ (r::X) w):w.ownsRow t.w0.heap.size r.e r.size r.v r.n r.xs:=by
 obtain ⟨Q,hq,hr⟩:=h.first;exact hr.head
theorem TlR.sub (h:TlR t σ X w) (hs:Y.Sublist X):TlR t σ Y w:=by
 obtain ⟨Q,hq,hr⟩:=h.rows;exact ⟨h.below,⟨Q,hq,hr.sub ((hs.append_left Q).cons_cons _)⟩,h.kept⟩
theorem TlR.less {r:Rw} (h:TlR t σ (r::X) w):TlR t σ X w:=h.sub (.cons _ (.refl _))
theorem TlR.bad (h:TlR t σ X w) (hs:Y.Sublist X):TBad t Y w:=by
 obtain ⟨Q,hq,hr⟩:=h.rows;exact ⟨h.below,hr.sub ((hs.trans (List.sublist_append_right _ _)).cons _)⟩
theorem TBad.sub (h:TBad t X w) (hs:Y.Sublist X):TBad t Y w:=⟨h.below,h.rows.sub hs⟩
theorem TlR.setc (h:TlR t σ X w) (j:Nat) (u:Value) (σ':TS) (hts:σ'.ts=σ.ts) (hx:(tlBox t σ').xs=(tlBox t σ).xs.set j u):TlR t σ' X (w.setCell ⟨t.B,j,none⟩ u):=by
 obtain ⟨Q,hq,hr⟩:=h.rows;refine ⟨h.below.setCell h.lt.1 u,⟨Q,by rw [hts];exact hq,?_⟩,keep_set h.box h.kept u⟩;have h1:=hr.setc (r:=tlBox t σ) (g:=t.B) (cap:=1) (j:=j) rfl u;have e:({ tlBox t σ with xs:=(tlBox t σ).xs.set j u }:Rw)=tlBox t σ':=by
  rw [←hx];rfl
 rwa [e] at h1
theorem TlR.setbox {B e size j:Nat} {xs:List Value} (h:TlR t σ (⟨bx B,e,size,1,xs⟩::X) w) (u:Value):TlR t σ (⟨bx B,e,size,1,xs.set j u⟩::X) (w.setCell ⟨B,j,none⟩ u):=by
 obtain ⟨Q,hq,hr⟩:=h.first;exact ⟨h.below.setCell (hr.head.lt B rfl).1 u,⟨Q,hq,(hr.setc (g:=B) (cap:=1) (j:=j) rfl u).perm (List.perm_middle (l₁:=tlBox t σ::Q) (l₂:=X)).symm⟩,keep_set hr.head h.kept u⟩
def Tx.withK (t:Tx) (K:List (Nat × ByteArray × Nat)):Tx:={ t with K:=K }
theorem TlR.push (h:TlR t σ X w) {x:Nat × ByteArray × Nat} (hx:w.heap[x.1]?=some (.stringIter x.2.1 x.2.2)):TlR (t.withK (x::t.K)) σ X w:=
 ⟨h.below,h.rows,fun y hy=>by
  rcases List.mem_cons.1 hy with rfl|hy
  ·exact hx
  ·exact h.kept y hy⟩
theorem TlR.pop {x:Nat × ByteArray × Nat} (h:TlR (t.withK (x::t.K)) σ X w):TlR t σ X w:=⟨h.below,h.rows,fun y hy=>h.kept y (List.mem_cons_of_mem _ hy)⟩
theorem grown_iter (w:World) (k:Nat) (s:ByteArray) (p:Nat):w.grownBy (w.iterAt k s p) (some k):=
 ⟨rfl,rfl,rfl,by simp [World.iterAt],fun j _ hne=>by
  simp only [World.iterAt];rw [Array.getElem?_setIfInBounds,if_neg (fun e=>hne (by rw [e]))]⟩
theorem own_iter {base:Nat} {l:List Rw} (h:RowsP w base l) {k:Nat} {s:ByteArray} {p:Nat} (hk:w.heap[k]?=some (.stringIter s p)) (p':Nat):RowsP (w.iterAt k s p') base l:=by
 refine h.far (grown_iter w k s p') (fun r hr => ?_);cases hv:r.v.ownBlock with
 | none=>exact .inl rfl
 | some g=>
  refine .inr (fun e => ?_);cases e;rcases (h.own r hr).2 with ⟨h0,_⟩|⟨g',cap',cur,he,hb,hh,_⟩
  ·rw [h0] at hv;cases hv
  ·rw [he] at hv;cases hv;rw [hh] at hk;cases hk
theorem TlR.iter {k:Nat} {s:ByteArray} {p:Nat} (h:TlR (t.withK ((k,s,p)::t.K)) σ X w) (hk:t.w0.heap.size≤k) (hd:∀ y∈t.K,y.1≠k) (p':Nat):TlR (t.withK ((k,s,p')::t.K)) σ X (w.iterAt k s p'):=by
 have h0:=h.kept (k,s,p) (List.mem_cons_self ..);obtain ⟨Q,hq,hr⟩:=h.rows;refine ⟨h.below.grown (grown_iter w k s p') h.below.size (fun j hj=>by cases hj;exact hk),⟨Q,hq,own_iter hr h0 p'⟩,fun y hy => ?_⟩;rcases List.mem_cons.1 hy with rfl|hy
 ·exact _root_.Go.Lib.iterAt_heap w k s p p' h0
 ·have h1:=h.kept y (List.mem_cons_of_mem _ hy);exact ((grown_iter w k s p').block y.1 (Array.getElem?_eq_some_iff.1 h1).1 (fun e=>hd y hy (by cases e;rfl))).trans h1
theorem TlS.push (h:TlS t σ X w) {x:Nat × ByteArray × Nat} (hx:w.heap[x.1]?=some (.stringIter x.2.1 x.2.2)):TlS (t.withK (x::t.K)) σ X w:=⟨h.r.push hx,h.lim⟩
theorem TlS.pop {x:Nat × ByteArray × Nat} (h:TlS (t.withK (x::t.K)) σ X w):TlS t σ X w:=⟨h.r.pop,h.lim⟩
theorem TlS.iter {k:Nat} {s:ByteArray} {p:Nat} (h:TlS (t.withK ((k,s,p)::t.K)) σ X w) (hk:t.w0.heap.size≤k) (hd:∀ y∈t.K,y.1≠k) (p':Nat):TlS (t.withK ((k,s,p')::t.K)) σ X (w.iterAt k s p'):=⟨h.r.iter hk hd p',h.lim⟩
theorem TlR.klt (h:TlR t σ X w):∀ y∈t.K,y.1≠w.heap.size:=fun y hy e=>by
 have:=(Array.getElem?_eq_some_iff.1 (h.kept y hy)).1;omega
theorem TlS.on (h:TlS t σ X w) {w':World} (hb:Below w.heap.size w w'):TlS t σ X w':=⟨h.r.on hb,h.lim⟩
theorem TlS.drew (h:TlS t σ X w):TlS t σ X w.drew:=⟨h.r.drew,h.lim⟩
theorem TlS.alloc (h:TlS t σ X w) (o:Obj):TlS t σ X (w.alloc o):=⟨h.r.alloc o,h.lim⟩
theorem TlS.newbox (h:TlS t σ X w) (e size:Nat) (xs:Array Value) (hs:xs.size=size):TlS t σ (⟨bx w.heap.size,e,size,1,xs.toList⟩::X) (w.alloc (.cells xs e)):=⟨h.r.newbox e size xs hs,h.lim⟩
theorem TlS.sub (h:TlS t σ X w) (hs:Y.Sublist X):TlS t σ Y w:=⟨h.r.sub hs,h.lim⟩
theorem TlS.bad (h:TlS t σ X w) (hs:Y.Sublist X):TBad t Y w:=h.r.bad hs
end
def SmlN (s:ByteArray):Prop:=s.size≤140737488355328
def ActOk (a:Actn):Prop:=a.k<256∧a.op<256∧SmlN a.name
structure PrgOk (P:Prg):Prop where
 dl:P.decls.length≤1099511627776
 xl:P.exprs.length≤1099511627776
 sl:P.stmts.length≤1099511627776
 ml:P.main.length≤1099511627776
 d:∀ d∈P.decls,d.side<256∧d.kind<256∧SmlN d.name
 x:∀ x∈P.exprs,x.k<256∧x.of<256∧x.op<256∧SmlN x.name∧x.kids.length≤1099511627776
 s:∀ s∈P.stmts,s.k<256∧s.op<256∧SmlN s.name∧s.acts.length≤1099511627776∧s.thn.length≤1099511627776∧s.els.length≤1099511627776∧∀ a∈s.acts,ActOk a
structure SeesPv (w:World) (p:PV):Prop where
 d:SeesC w p.dv p.ds.length 3 (flatD p.ds)
 x:SeesC w p.xv p.xs.length 6 (flatX p.xs)
 s:SeesC w p.sv p.ss.length 8 (flatS p.ss)
 m:SeesC w p.mv p.ms.length 1 (intsI p.ms)
 xk:∀ x∈p.xs,SeesC w x.2 x.1.kids.length 1 (intsI x.1.kids)
 sa:∀ s∈p.ss,SeesC w s.av s.s.acts.length 6 (flatAc s.s.acts)
 st:∀ s∈p.ss,SeesC w s.tv s.s.thn.length 1 (intsI s.s.thn)
 se:∀ s∈p.ss,SeesC w s.ev s.s.els.length 1 (intsI s.s.els)
theorem SeesPv.below {w w':World} {p:PV} (h:SeesPv w p) (hb:Below w.heap.size w w'):SeesPv w' p:=
 ⟨h.d.below hb (Nat.le_refl _),h.x.below hb (Nat.le_refl _),h.s.below hb (Nat.le_refl _),h.m.below hb (Nat.le_refl _),fun x hx=>(h.xk x hx).below hb (Nat.le_refl _),fun x hx=>(h.sa x hx).below hb (Nat.le_refl _),fun x hx=>(h.st x hx).below hb (Nat.le_refl _),fun x hx=>(h.se x hx).below hb (Nat.le_refl _)⟩
abbrev flt3:List PanicEntry:=[{ v:=.iface 172 (.agg #[.int .i64 0,.int .i64 3]),recovered:=false }]
def TPost (t:Tx) (X:List Rw) (r:Option TS) (e:Ending) (w':World):Prop:=
 match r with
 | none=>e=.panicked flt3∧TBad t X w'
 | some σ'=>e=.returned (.tuple #[])∧TlS t σ' X w'
def PutOk (t:Tx) (F:Nat):Prop:=∀ (σ:TS) (X:List Rw) (w:World) (tk:Tok),TlR t σ X w→σ.ts.length≤1000→SmlN tk.s→Calls Tryz.prog F #[.agg #[.int .u8 tk.k,.string tk.s,.int .i64 tk.n,.int .i64 tk.p]] w fun e w'=>e=.returned (.tuple #[])∧TlR t { σ with ts:=σ.ts++[tk] } X w'
structure Tx.Ok (t:Tx) (F:Nat):Prop where
 laid:Laid t.w0
 sees:SeesPv t.w0 t.P
 ok:PrgOk t.P.prg
 isF:F=60
 put:t.put=.func (.func F) #[] #[]
 fnK:∀ K,PutOk (t.withK K) F
theorem Tx.Ok.fn {t:Tx} {F:Nat} (h:t.Ok F):t.put=.func (.func F) #[] #[]∧PutOk t F:=⟨h.put,h.fnK t.K⟩
theorem Tx.Ok.withK {t:Tx} {F:Nat} (h:t.Ok F) (K:List (Nat × ByteArray × Nat)):(t.withK K).Ok F:=⟨h.laid,h.sees,h.ok,h.isF,h.put,h.fnK⟩
open Go.RowKit Go.Deep Go.MapKept
theorem zaV {a:Act} {k:Nat} {v:Value} (h:a.tmps[k]?=some v):a.eval (.tmp k)=v:=by
 unfold Act.eval;simp only [Array.getD_eq_getD_getElem?,h,Option.getD_some]
theorem yl_of {ops:Array Oper} {t:Array Value} {j d:Nat} {b:Bool} (h1:(ops[j]?).bind (·.dst)=some d) (h2:t[d]?=some (.bool b)):yielded ops t j=some b:=by
 unfold yielded;rw [h1];simp only [Option.bind_some,h2]
theorem yl_un {ops:Array Oper} {t:Array Value} {j d:Nat} (h1:(ops[j]?).bind (·.dst)=some d) (h2:t[d]?=some undef):yielded ops t j=none:=by
 unfold yielded;rw [h1];simp only [Option.bind_some,h2,undef]
structure Put (a a1:Act) (n d:Nat) (v:Value):Prop where
 size:a1.tmps.size=n
 at_:a1.tmps[d]?=some v
 far:∀ j,d≠j→a1.tmps[j]?=a.tmps[j]?
 df:a1.defers=a.defers
theorem put_put {a:Act} {n d:Nat} (hs:a.tmps.size=n) (hd:d<n) (v:Value):Put a (a.put (some d) v) n d v:=by
 refine ⟨by simp [Act.put,hs],?_,?_,rfl⟩
 ·simp only [Act.put,Array.getElem?_setIfInBounds,hs,hd,if_true]
 ·intro j hj;simp only [Act.put,Array.getElem?_setIfInBounds,hj,if_false]
section
variable {P : Program} {ops : Array Oper} {rest : List Oper} {o : Oper} {a : Act} {Q : Exit → Act → World → Prop} {w w' : World} {n d : Nat} {v : Value}
theorem wl_op (hw:Region.wanted o (yielded ops a.tmps)=true) (hd:o.dst=some d) (hs:a.tmps.size=n) (hn:d<n) (hr:(execOp a.eval o).run P w=.ok (.value v) w') (h:∀ a1,Put a a1 n d v→wpList P ops Q rest a1 w'):wpList P ops Q (o::rest) a w:=
 wpList_step fun K hK=>by
  rw [if_pos hw];unfold Oper.wp;rw [hr,Oper.upon_value,hd];exact hK _ _ (h _ (put_put hs hn v))
theorem wl_skip (hw:Region.wanted o (yielded ops a.tmps)=false) (hd:o.dst=some d) (hs:a.tmps.size=n) (hn:d<n) (h:∀ a1,Put a a1 n d undef→wpList P ops Q rest a1 w):wpList P ops Q (o::rest) a w:=
 wpList_step fun K hK=>by
  rw [if_neg (by rw [hw];simp),hd];exact hK _ _ (h _ (put_put hs hn undef))
theorem wl_call {f:FuncId} {args:Array Value} {R:Ending→World→Prop} (hw:Region.wanted o (yielded ops a.tmps)=true) (hd:o.dst=some d) (hs:a.tmps.size=n) (hn:d<n) (hr:(execOp a.eval o).run P w=.ok (.enter f args) w) (hC:Calls P f args w R) (hR:∀ e w1,R e w1→∃ v,e=.returned v∧∀ a1,Put a a1 n d v→wpList P ops Q rest a1 w1):wpList P ops Q (o::rest) a w:=
 wpList_step fun K hK=>by
  rw [if_pos hw];unfold Oper.wp;rw [hr,Oper.upon_enter];refine hC.mono ?_;intro e w1 h1;obtain ⟨v,rfl,h2⟩:=hR e w1 h1;rw [hd];exact hK _ _ (h2 _ (put_put hs hn v))
end
end Go.Proofs.YtfljimpgnlfipaaGreatDoor
namespace Go.Proofs
open Go.Shelf
def Tryz.lays151_ren:Go.Shelf.Ren:=⟨fun|151=>224|152=>239|137=>247|119=>248|224=>249|225=>250|217=>253|266=>254|n=>n,fun|9=>9|21=>21|4=>4|3=>3|5=>5|0=>0|46=>202|n=>n,fun|n=>n⟩
theorem Tryz.lays151:Go.Proofs.Lays.n151 Tryz.prog Tryz.lays151_ren:={
 mixed:=by kernel_rfl
 f119:=Tryz.func248.trans (congrArg some (by kernel_rfl))
 f137:=Tryz.func247.trans (congrArg some (by kernel_rfl))
 f151:=Tryz.func224.trans (congrArg some (by kernel_rfl))
 f152:=Tryz.func239.trans (congrArg some (by kernel_rfl))
 f217:=Tryz.func253.trans (congrArg some (by kernel_rfl))
 f224:=Tryz.func249.trans (congrArg some (by kernel_rfl))
 f225:=Tryz.func250.trans (congrArg some (by kernel_rfl))
 f266:=Tryz.func254.trans (congrArg some (by kernel_rfl))
 t0:=Tryz.underlying0
 a0:=Tryz.isAgg0
 z0:=Tryz.sizeOf0
 v0:=Tryz.zeroValue0
 t3:=Tryz.underlying3
 a3:=Tryz.isAgg3
 z3:=Tryz.sizeOf3
 v3:=Tryz.zeroValue3
 t4:=Tryz.underlying4
 a4:=Tryz.isAgg4
 z4:=Tryz.sizeOf4
 v4:=Tryz.zeroValue4
 t5:=Tryz.underlying5
 a5:=Tryz.isAgg5
 z5:=Tryz.sizeOf5
 v5:=Tryz.zeroValue5
 t9:=Tryz.underlying9
 a9:=Tryz.isAgg9
 z9:=Tryz.sizeOf9
 v9:=Tryz.zeroValue9
 t21:=Tryz.underlying21
 a21:=Tryz.isAgg21
 z21:=Tryz.sizeOf21
 v21:=Tryz.zeroValue21
 t46:=Tryz.underlying202
 a46:=Tryz.isAgg202
 z46:=Tryz.sizeOf202
 v46:=Tryz.zeroValue202 }
open Go.RowKit Go.Lib in
theorem Tryz.strings_ContainsRune_ascii (s:ByteArray) (r:Int) (w:World) (h0:0≤r) (h1:r<128) :
  Calls Tryz.prog 224 #[.string s,.int .i32 r] w fun e w'=>e=.returned (.bool (decide (0≤Lib.indexByte s.data.toList r.toNat.toUInt8)))∧w'=w:=Any.strings_ContainsRune_ascii Tryz.lays151 s r w h0 h1
end Go.Proofs
namespace Go.Proofs.YtfljimpgnlfipaaGreatDoor
open Go.RowKit Go.Deep Go.MapKept
def hasB (p:ByteArray) (c:Nat):Bool:=decide (0≤Lib.indexByte p.data.toList c.toUInt8)
theorem has_any (sw sp:ByteArray) (c:Nat) (hc:c<128) (w:World):Calls Tryz.prog 208 #[.agg #[.string sw,.string sp],.int .i32 (c:Int)] w fun e w'=>e=.returned (.bool (hasB sp c))∧Below w.heap.size w w':=by
 have C:=hidI (fun W=>Tryz.strings_ContainsRune_ascii sp (c:Int) W (by omega) (by omega));go_enter Tryz.func208,Tryz.ntmps208
 go_wp2_with (go_at_call 224;refine (C.out _).mono ?_;intro e w1 h1;obtain ⟨rfl,rfl⟩:=h1;clear C)
 go_ret;exact ⟨rfl,by exact belowT⟩
end Go.Proofs.YtfljimpgnlfipaaGreatDoor
