/-
  Part 16 of the proof: TlMem, KindD, TyM, Eng, Has, TlHas.
-/
import Derived.Test.YtmekkhfohmfjkaaGreatDoorTf01
import Derived.Test.YtmekkhfohmfjkaaGreatDoorTf15
import Derived.Lib.OthersKept
import Derived.Test.YtmekkhfohmfjkaaGreatDoorTf11
import Derived.Test.YtmekkhfohmfjkaaGreatDoorTf02
import Derived.Shelf.Strings.Runes
import Derived.Test.YtmekkhfohmfjkaaGreatDoorProg
namespace Go.Proofs.YtmekkhfohmfjkaaGreatDoor
open Go.RowKit Go.Deep Go.MapKept
structure Tx where
 w0:World
 B:Nat
 P:PV
 put:Value
 pr:List Tok→List Rw→Prop
 K:List (Nat × ByteArray × Nat)
def tlBox (t:Tx) (σ:TS):Rw:=⟨bx t.B,174,9,1,[t.P.dv,t.P.xv,t.P.sv,t.P.mv,.int .i64 (σ.x:Int),.int .i64 (σ.s:Int),.int .i64 (σ.f:Int),.int .i64 (σ.d:Int),t.put]⟩
structure TlR (t:Tx) (σ:TS) (X:List Rw) (w:World):Prop where
 below:Below t.w0.heap.size t.w0 w
 rows:∃ Q,t.pr σ.ts Q∧RowsP w t.w0.heap.size (tlBox t σ::(Q++X))
 kept:∀ x∈t.K,w.heap[x.1]?=some (.stringIter x.2.1 x.2.2)
def TsOk (σ:TS):Prop:=σ.f≤400∧σ.ts.length+σ.d≤2*σ.f∧σ.d≤12
def TsOk1 (σ:TS):Prop:=σ.f≤400∧σ.ts.length+σ.d≤2*σ.f+1∧σ.d≤12
structure TlS (t:Tx) (σ:TS) (X:List Rw) (w:World):Prop where
 r:TlR t σ X w
 lim:TsOk σ
structure TBad (t:Tx) (X:List Rw) (w:World):Prop where
 below:Below t.w0.heap.size t.w0 w
 rows:RowsP w t.w0.heap.size X
theorem TsOk.one {σ:TS} (h:TsOk σ):TsOk1 σ:=⟨h.1,by have:=h.2.1;omega,h.2.2⟩
section
variable {t : Tx} {σ : TS} {X Y : List Rw} {w : World}
theorem keep_below {l:List (Nat × ByteArray × Nat)} (h:∀ x∈l,w.heap[x.1]?=some (.stringIter x.2.1 x.2.2)) {w':World} (hb:Below w.heap.size w w'):∀ x∈l,w'.heap[x.1]?=some (.stringIter x.2.1 x.2.2):=
 fun x hx=>(hb.block x.1 (Array.getElem?_eq_some_iff.1 (h x hx)).1).trans (h x hx)
theorem own_cells {base e size n B:Nat} {xs:List Value} (h:w.ownsRow base e size (bx B) n xs):∃ cur,w.heap[B]?=some (.cells cur e):=by
 rcases h.2 with ⟨h0,_⟩|⟨g',cap',cur,he,hb,hh,h1,h2,h3,h4⟩
 ·cases h0
 ·cases he
  exact ⟨cur,hh⟩
theorem keep_ne {base e size n B:Nat} {xs:List Value} (h:w.ownsRow base e size (bx B) n xs) {x:Nat × ByteArray × Nat} (hx:w.heap[x.1]?=some (.stringIter x.2.1 x.2.2)):x.1≠B:=by
 obtain ⟨cur,hc⟩:=own_cells h
 intro e
 rw [e,hc] at hx
 cases hx
theorem keep_set {base e size n B j:Nat} {xs:List Value} (h:w.ownsRow base e size (bx B) n xs) {l:List (Nat × ByteArray × Nat)} (hk:∀ x∈l,w.heap[x.1]?=some (.stringIter x.2.1 x.2.2)) (u:Value):∀ x∈l,(w.setCell ⟨B,j,none⟩ u).heap[x.1]?=some (.stringIter x.2.1 x.2.2):=
 fun x hx=>((zcC w B j u).block x.1 (Array.getElem?_eq_some_iff.1 (hk x hx)).1 (fun e=>keep_ne h (hk x hx) (by cases e;rfl))).trans (hk x hx)
theorem TlR.on (h:TlR t σ X w) {w':World} (hb:Below w.heap.size w w'):TlR t σ X w':=by
 obtain ⟨Q,hq,hr⟩:=h.rows
 exact ⟨h.below.trans (hb.mono h.below.size),⟨Q,hq,hr.below hb⟩,keep_below h.kept hb⟩
theorem TlR.drew (h:TlR t σ X w):TlR t σ X w.drew:=by
 obtain ⟨Q,hq,hr⟩:=h.rows
 exact ⟨h.below.drew,⟨Q,hq,hr.drew⟩,h.kept⟩
theorem TlR.alloc (h:TlR t σ X w) (o:Obj):TlR t σ X (w.alloc o):=by
 obtain ⟨Q,hq,hr⟩:=h.rows
 exact ⟨h.below.alloc h.below.size o,⟨Q,hq,hr.alloc o⟩,keep_below h.kept ((Below.refl w.heap.size w).alloc (Nat.le_refl _) o)⟩
theorem TlR.box (h:TlR t σ X w):w.ownsRow t.w0.heap.size 174 9 (bx t.B) 1 (tlBox t σ).xs:=by
 obtain ⟨Q,hq,hr⟩:=h.rows
 exact RowsP.head (r:=tlBox t σ) hr
theorem TlR.cell (h:TlR t σ X w) {j:Nat} {u:Value} (hj:(tlBox t σ).xs[j]?=some u):w.cell? ⟨t.B,j,none⟩=some u:=zaB h.box hj
theorem TlR.free (h:TlR t σ X w) (j:Nat):w.frozen? ⟨t.B,j,none⟩=false:=zaR h.box j
theorem TlR.lt (h:TlR t σ X w):t.w0.heap.size≤t.B∧t.B<w.heap.size:=h.box.lt t.B rfl
theorem TlR.size (h:TlR t σ X w):t.w0.heap.size≤w.heap.size:=h.below.size
theorem TlR.more (h:TlR t σ X w) {w':World} {r:Rw} (hw:TlR t σ X w→∀ l,RowsP w t.w0.heap.size l→RowsP w' t.w0.heap.size (r::l)) (hb:Below w.heap.size w w'):TlR t σ (r::X) w':=by
 obtain ⟨Q,hq,hr⟩:=h.rows
 refine ⟨h.below.trans (hb.mono h.below.size),⟨Q,hq,?_⟩,keep_below h.kept hb⟩
 have:=hw h _ hr
 exact this.perm (((List.perm_middle (l₁:=tlBox t σ::Q) (l₂:=X) (a:=r))).symm)
theorem TlR.newbox (h:TlR t σ X w) (e size:Nat) (xs:Array Value) (hs:xs.size=size):TlR t σ (⟨bx w.heap.size,e,size,1,xs.toList⟩::X) (w.alloc (.cells xs e)):=
 h.more (fun h l hl=>hl.add (r:=⟨bx w.heap.size,e,size,1,xs.toList⟩) (hl.alloc _) (zcM w t.w0.heap.size e size xs h.size hs) (fun k hk=>by cases hk;exact Nat.le_refl _)) ((Below.refl w.heap.size w).alloc (Nat.le_refl _) _)
theorem TlR.first {r:Rw} (h:TlR t σ (r::X) w):∃ Q,t.pr σ.ts Q∧RowsP w t.w0.heap.size (r::(tlBox t σ::(Q++X))):=by
 obtain ⟨Q,hq,hr⟩:=h.rows
 exact ⟨Q,hq,hr.perm (List.perm_middle (l₁:=tlBox t σ::Q) (l₂:=X) (a:=r))⟩
theorem TlR.row {r:Rw} (h:TlR t σ (r::X) w):w.ownsRow t.w0.heap.size r.e r.size r.v r.n r.xs:=by
 obtain ⟨Q,hq,hr⟩:=h.first
 exact hr.head
theorem TlR.sub (h:TlR t σ X w) (hs:Y.Sublist X):TlR t σ Y w:=by
 obtain ⟨Q,hq,hr⟩:=h.rows
 exact ⟨h.below,⟨Q,hq,hr.sub ((hs.append_left Q).cons_cons _)⟩,h.kept⟩
theorem TlR.less {r:Rw} (h:TlR t σ (r::X) w):TlR t σ X w:=h.sub (.cons _ (.refl _))
theorem TlR.bad (h:TlR t σ X w) (hs:Y.Sublist X):TBad t Y w:=by
 obtain ⟨Q,hq,hr⟩:=h.rows
 exact ⟨h.below,hr.sub ((hs.trans (List.sublist_append_right _ _)).cons _)⟩
theorem TBad.sub (h:TBad t X w) (hs:Y.Sublist X):TBad t Y w:=⟨h.below,h.rows.sub hs⟩
theorem TlR.setc (h:TlR t σ X w) (j:Nat) (u:Value) (σ':TS) (hts:σ'.ts=σ.ts) (hx:(tlBox t σ').xs=(tlBox t σ).xs.set j u):TlR t σ' X (w.setCell ⟨t.B,j,none⟩ u):=by
 obtain ⟨Q,hq,hr⟩:=h.rows
 refine ⟨h.below.setCell h.lt.1 u,⟨Q,by rw [hts];exact hq,?_⟩,keep_set h.box h.kept u⟩
 have h1:=hr.setc (r:=tlBox t σ) (g:=t.B) (cap:=1) (j:=j) rfl u
 have e:({ tlBox t σ with xs:=(tlBox t σ).xs.set j u }:Rw)=tlBox t σ':=by
  rw [←hx]
  rfl
 rwa [e] at h1
theorem TlR.setbox {B e size j:Nat} {xs:List Value} (h:TlR t σ (⟨bx B,e,size,1,xs⟩::X) w) (u:Value):TlR t σ (⟨bx B,e,size,1,xs.set j u⟩::X) (w.setCell ⟨B,j,none⟩ u):=by
 obtain ⟨Q,hq,hr⟩:=h.first
 exact ⟨h.below.setCell (hr.head.lt B rfl).1 u,⟨Q,hq,(hr.setc (g:=B) (cap:=1) (j:=j) rfl u).perm (List.perm_middle (l₁:=tlBox t σ::Q) (l₂:=X)).symm⟩,keep_set hr.head h.kept u⟩
def Tx.withK (t:Tx) (K:List (Nat × ByteArray × Nat)):Tx:={ t with K:=K }
theorem TlR.push (h:TlR t σ X w) {x:Nat × ByteArray × Nat} (hx:w.heap[x.1]?=some (.stringIter x.2.1 x.2.2)):TlR (t.withK (x::t.K)) σ X w:=
 ⟨h.below,h.rows,fun y hy=>by
  rcases List.mem_cons.1 hy with rfl|hy
  ·exact hx
  ·exact h.kept y hy⟩
theorem TlR.pop {x:Nat × ByteArray × Nat} (h:TlR (t.withK (x::t.K)) σ X w):TlR t σ X w:=⟨h.below,h.rows,fun y hy=>h.kept y (List.mem_cons_of_mem _ hy)⟩
theorem grown_iter (w:World) (k:Nat) (s:ByteArray) (p:Nat):w.grownBy (w.iterAt k s p) (some k):=
 ⟨rfl,rfl,rfl,by simp [World.iterAt],fun j _ hne=>by
  simp only [World.iterAt]
  rw [Array.getElem?_setIfInBounds,if_neg (fun e=>hne (by rw [e]))]⟩
theorem own_iter {base:Nat} {l:List Rw} (h:RowsP w base l) {k:Nat} {s:ByteArray} {p:Nat} (hk:w.heap[k]?=some (.stringIter s p)) (p':Nat):RowsP (w.iterAt k s p') base l:=by
 refine h.far (grown_iter w k s p') (fun r hr => ?_)
 cases hv:r.v.ownBlock with
 | none=>exact .inl rfl
 | some g=>
  refine .inr (fun e => ?_)
  cases e
  rcases (h.own r hr).2 with ⟨h0,_⟩|⟨g',cap',cur,he,hb,hh,_⟩
  ·rw [h0] at hv;cases hv
  ·rw [he] at hv
   cases hv
   rw [hh] at hk
   cases hk
theorem TlR.iter {k:Nat} {s:ByteArray} {p:Nat} (h:TlR (t.withK ((k,s,p)::t.K)) σ X w) (hk:t.w0.heap.size≤k) (hd:∀ y∈t.K,y.1≠k) (p':Nat):TlR (t.withK ((k,s,p')::t.K)) σ X (w.iterAt k s p'):=by
 have h0:=h.kept (k,s,p) (List.mem_cons_self ..)
 obtain ⟨Q,hq,hr⟩:=h.rows
 refine ⟨h.below.grown (grown_iter w k s p') h.below.size (fun j hj=>by cases hj;exact hk),⟨Q,hq,own_iter hr h0 p'⟩,fun y hy => ?_⟩
 rcases List.mem_cons.1 hy with rfl|hy
 ·exact _root_.Go.Lib.iterAt_heap w k s p p' h0
 ·have h1:=h.kept y (List.mem_cons_of_mem _ hy)
  exact ((grown_iter w k s p').block y.1 (Array.getElem?_eq_some_iff.1 h1).1 (fun e=>hd y hy (by cases e;rfl))).trans h1
theorem TlS.push (h:TlS t σ X w) {x:Nat × ByteArray × Nat} (hx:w.heap[x.1]?=some (.stringIter x.2.1 x.2.2)):TlS (t.withK (x::t.K)) σ X w:=⟨h.r.push hx,h.lim⟩
theorem TlS.pop {x:Nat × ByteArray × Nat} (h:TlS (t.withK (x::t.K)) σ X w):TlS t σ X w:=⟨h.r.pop,h.lim⟩
theorem TlS.iter {k:Nat} {s:ByteArray} {p:Nat} (h:TlS (t.withK ((k,s,p)::t.K)) σ X w) (hk:t.w0.heap.size≤k) (hd:∀ y∈t.K,y.1≠k) (p':Nat):TlS (t.withK ((k,s,p')::t.K)) σ X (w.iterAt k s p'):=⟨h.r.iter hk hd p',h.lim⟩
theorem TlR.klt (h:TlR t σ X w):∀ y∈t.K,y.1≠w.heap.size:=fun y hy e=>by
 have:=(Array.getElem?_eq_some_iff.1 (h.kept y hy)).1
 omega
theorem TlS.on (h:TlS t σ X w) {w':World} (hb:Below w.heap.size w w'):TlS t σ X w':=⟨h.r.on hb,h.lim⟩
theorem TlS.drew (h:TlS t σ X w):TlS t σ X w.drew:=⟨h.r.drew,h.lim⟩
theorem TlS.alloc (h:TlS t σ X w) (o:Obj):TlS t σ X (w.alloc o):=⟨h.r.alloc o,h.lim⟩
theorem TlS.newbox (h:TlS t σ X w) (e size:Nat) (xs:Array Value) (hs:xs.size=size):TlS t σ (⟨bx w.heap.size,e,size,1,xs.toList⟩::X) (w.alloc (.cells xs e)):=⟨h.r.newbox e size xs hs,h.lim⟩
theorem TlS.sub (h:TlS t σ X w) (hs:Y.Sublist X):TlS t σ Y w:=⟨h.r.sub hs,h.lim⟩
theorem TlS.bad (h:TlS t σ X w) (hs:Y.Sublist X):TBad t Y w:=h.r.bad hs
end
def SmlN (s:ByteArray):Prop:=s.size≤140737488355328
def ActOk (a:Actn):Prop:=a.k<256∧a.op<256∧SmlN a.name
structure PrgOk (P:Prg):Prop where
 dl:P.decls.length≤1099511627776
 xl:P.exprs.length≤1099511627776
 sl:P.stmts.length≤1099511627776
 ml:P.main.length≤1099511627776
 d:∀ d∈P.decls,d.side<256∧d.kind<256∧SmlN d.name
 x:∀ x∈P.exprs,x.k<256∧x.of<256∧x.op<256∧SmlN x.name∧x.kids.length≤1099511627776
 s:∀ s∈P.stmts,s.k<256∧s.op<256∧SmlN s.name∧s.acts.length≤1099511627776∧s.thn.length≤1099511627776∧s.els.length≤1099511627776∧∀ a∈s.acts,ActOk a
structure SeesPv (w:World) (p:PV):Prop where
 d:SeesC w p.dv p.ds.length 3 (flatD p.ds)
 x:SeesC w p.xv p.xs.length 6 (flatX p.xs)
 s:SeesC w p.sv p.ss.length 8 (flatS p.ss)
 m:SeesC w p.mv p.ms.length 1 (intsI p.ms)
 xk:∀ x∈p.xs,SeesC w x.2 x.1.kids.length 1 (intsI x.1.kids)
 sa:∀ s∈p.ss,SeesC w s.av s.s.acts.length 6 (flatAc s.s.acts)
 st:∀ s∈p.ss,SeesC w s.tv s.s.thn.length 1 (intsI s.s.thn)
 se:∀ s∈p.ss,SeesC w s.ev s.s.els.length 1 (intsI s.s.els)
theorem SeesPv.below {w w':World} {p:PV} (h:SeesPv w p) (hb:Below w.heap.size w w'):SeesPv w' p:=
 ⟨h.d.below hb (Nat.le_refl _),h.x.below hb (Nat.le_refl _),h.s.below hb (Nat.le_refl _),h.m.below hb (Nat.le_refl _),fun x hx=>(h.xk x hx).below hb (Nat.le_refl _),fun x hx=>(h.sa x hx).below hb (Nat.le_refl _),fun x hx=>(h.st x hx).below hb (Nat.le_refl _),fun x hx=>(h.se x hx).below hb (Nat.le_refl _)⟩
abbrev flt3:List PanicEntry:=[{ v:=.iface 111 (.agg #[.int .i64 0,.int .i64 3]),recovered:=false }]
def TPost (t:Tx) (X:List Rw) (r:Option TS) (e:Ending) (w':World):Prop:=
 match r with
 | none=>e=.panicked flt3∧TBad t X w'
 | some σ'=>e=.returned (.tuple #[])∧TlS t σ' X w'
def PutOk (t:Tx) (F:Nat):Prop:=∀ (σ:TS) (X:List Rw) (w:World) (tk:Tok),TlR t σ X w→σ.ts.length≤1000→SmlN tk.s→Calls Tryz.prog F #[.agg #[.int .u8 tk.k,.string tk.s,.int .i64 tk.n,.int .i64 tk.p]] w fun e w'=>e=.returned (.tuple #[])∧TlR t { σ with ts:=σ.ts++[tk] } X w'
structure Tx.Ok (t:Tx) (F:Nat):Prop where
 laid:Laid t.w0
 sees:SeesPv t.w0 t.P
 ok:PrgOk t.P.prg
 isF:F=52
 put:t.put=.func (.func F) #[] #[]
 fnK:∀ K,PutOk (t.withK K) F
theorem Tx.Ok.fn {t:Tx} {F:Nat} (h:t.Ok F):t.put=.func (.func F) #[] #[]∧PutOk t F:=⟨h.put,h.fnK t.K⟩
theorem Tx.Ok.withK {t:Tx} {F:Nat} (h:t.Ok F) (K:List (Nat × ByteArray × Nat)):(t.withK K).Ok F:=⟨h.laid,h.sees,h.ok,h.isF,h.put,h.fnK⟩
open Go.RowKit Go.Deep Go.MapKept
theorem flatD_get:∀ (l:List Dcl) (j i:Nat) (x:Dcl),l[j]?=some x→i<3→(flatD l)[j*3+i]?=(dcells x)[i]?
 | [],_,_,_,h,_=>by simp at h
 | y::r,0,i,x,h,hi=>by
  obtain rfl:y=x:=by simpa using h
  simp only [flatD,List.flatMap_cons,Nat.zero_mul,Nat.zero_add]
  rw [List.getElem?_append_left (by simpa [dcells] using hi)]
 | y::r,j+1,i,x,h,hi=>by
  have:=flatD_get r j i x (by simpa using h) hi
  rw [←this]
  simp only [flatD,List.flatMap_cons]
  rw [List.getElem?_append_right (by simp [dcells];omega)]
  congr 1
  simp [dcells];omega
def SeesD (w:World) (v:Value) (ds:List Dcl):Prop:=SeesC w v ds.length 3 (flatD ds)
theorem SeesD.cell {w:World} {v:Value} {ds:List Dcl} (h:SeesD w v ds) {j:Nat} {d:Dcl} (hd:ds[j]?=some d):∃ b o cap,v=.slice (some ⟨b,o,none⟩) ds.length cap∧w.cell? ⟨b,o+j*3,none⟩=some (.string d.name)∧w.cell? ⟨b,o+j*3+1,none⟩=some (.int .u8 (d.side:Int))∧w.cell? ⟨b,o+j*3+2,none⟩=some (.int .u8 (d.kind:Int)):=by
 have hj:=(List.getElem?_eq_some_iff.1 hd).1
 obtain ⟨_,a,cap,rfl,h0⟩:=h
 rcases h0 with h0|⟨b,o,rfl,hc⟩
 ·omega
 ·refine ⟨b,o,cap,rfl,?_,?_,?_⟩
  ·have:=hc (j*3+0) _ (by rw [flatD_get ds j 0 d hd (by omega)];rfl);simpa [Nat.add_assoc] using this
  ·have:=hc (j*3+1) _ (by rw [flatD_get ds j 1 d hd (by omega)];rfl);simpa [Nat.add_assoc] using this
  ·have:=hc (j*3+2) _ (by rw [flatD_get ds j 2 d hd (by omega)];rfl);simpa [Nat.add_assoc] using this
def isK (nm:ByteArray) (sd:Nat) (d:Dcl):Bool:=decide (d.name=nm) && decide (d.side=sd)
def kindD (nm:ByteArray) (sd:Nat):List Dcl→Nat
 | []=>0
 | d::r=>if isK nm sd d=true then d.kind else kindD nm sd r
theorem kindD_drop (nm:ByteArray) (sd:Nat) (ds:List Dcl) (j:Nat) (d:Dcl) (h:ds[j]?=some d):kindD nm sd (ds.drop j)=if isK nm sd d=true then d.kind else kindD nm sd (ds.drop (j+1)):=by
 have hj:=(List.getElem?_eq_some_iff.1 h).1
 have hv:=(List.getElem?_eq_some_iff.1 h).2
 rw [List.drop_eq_getElem_cons hj,hv]
 rfl
theorem eqU (a b:Nat):((a:Int)==(b:Int))=decide (a=b):=by
 by_cases h:a=b
 ·subst h;simp
 ·rw [decide_eq_false h,beq_eq_false_iff_ne];omega
set_option maxHeartbeats 1000000 in
theorem kindOf_any (w:World) (v:Value) (ds:List Dcl) (hv:SeesD w v ds) (hl:ds.length≤1000) (nm:ByteArray) (sd:Nat) :
  Calls Tryz.prog 12 #[v,.agg #[.string nm,.int .u8 (sd:Int)]] w fun e w'=>e=.returned (.int .u8 (kindD nm sd ds:Int))∧Below w.heap.size w w':=by
 obtain ⟨_,a,cap,rfl,_⟩:=id hv
 have HV:=hidI hv
 obtain ⟨m,hm⟩:∃ m,ds.length=m:=⟨_,rfl⟩
 have HM:=hidI hm
 rw [hm] at hl
 rw [hm]
 have HW:Hid (Below w.heap.size w (w.alloc (.cells #[.string nm,.int .u8 (sd:Int)] 25))):=hidI ((Below.refl _ _).alloc (Nat.le_refl _) _)
 clear hv hm
 go_enter Tryz.func12,Tryz.ntmps12
 go_wp2
 go_loopg [9] m (fun g s9 wx=>∃ j:Nat,j+g=m∧s9=.int .i64 (j:Int)∧Hid (kindD nm sd ds=kindD nm sd (ds.drop j))∧Hid (Below (w.alloc (.cells #[.string nm,.int .u8 (sd:Int)] 25)).heap.size (w.alloc (.cells #[.string nm,.int .u8 (sd:Int)] 25)) wx))
 case atStart=>exact ⟨0,by omega,rfl,hidI rfl,hidI (Below.refl _ _)⟩
 case round=>
  obtain ⟨j,hjg,rfl,HK,HB⟩:=hrel
  cases gk with
  | zero=>
   obtain rfl:m=j:=by omega
   have k1:decide ((m:Int)<(m:Int))=false:=by simp
   have HR:Hid (kindD nm sd ds=0):=hidI (by rw [HK.out,List.drop_of_length_le (by have:=HM.out;omega)];rfl)
   go_wp2
   go_ret
   exact ⟨by rw [HR.out];rfl,HW.out.trans (HB.out.mono (by simp))⟩
  | succ g=>
   have k1:(j:Int)<(m:Int):=by omega
   obtain ⟨d,hd⟩:∃ d,ds[j]?=some d:=⟨_,List.getElem?_eq_getElem (by have:=HM.out;omega)⟩
   obtain ⟨b,o,cap',hav,x0,x1,x2⟩:=HV.out.cell hd
   rw [HM.out] at hav
   cases hav
   have z:∀ {p:Addr} {v:Value},w.cell? p=some v→wr.cell? p=some v:=fun {p v} hc=>by
    have h1:=(HW.out.cell (World.block_lt_of_cell? w _ hc)).trans hc
    exact (HB.out.cell (World.block_lt_of_cell? _ _ h1)).trans h1
   have y:∀ {p:Addr} {v:Value},(w.alloc (.cells #[.string nm,.int .u8 (sd:Int)] 25)).cell? p=some v→wr.cell? p=some v:=fun {p v} hc=>(HB.out.cell (World.block_lt_of_cell? _ _ hc)).trans hc
   replace x0:=z x0
   replace x1:=z x1
   replace x2:=z x2
   have hb0:wr.cell? ⟨w.heap.size,0,none⟩=some (.string nm):=y (by go_simp)
   have hb1:wr.cell? ⟨w.heap.size,1,none⟩=some (.int .u8 (sd:Int)):=y (by go_simp)
   have ha:Below wr.heap.size wr (wr.alloc (.cells #[.string d.name,.int .u8 (d.side:Int),.int .u8 (d.kind:Int)] 56)):=(Below.refl _ _).alloc (Nat.le_refl _) _
   have hc0:=(ha.cell (World.block_lt_of_cell? wr _ hb0)).trans hb0
   have hc1:=(ha.cell (World.block_lt_of_cell? wr _ hb1)).trans hb1
   clear ha
   have HKD:=hidI (kindD_drop nm sd ds j d hd)
   have q1:=zcH d.name nm
   have q2:=eqU d.side sd
   have hlt:=HB.out.size
   simp only [World.size_alloc] at hlt
   have HBW:Hid (∀ W,Below (w.alloc (.cells #[.string nm,.int .u8 (sd:Int)] 25)).heap.size (w.alloc (.cells #[.string nm,.int .u8 (sd:Int)] 25)) W→Below w.heap.size w W):=hidI (fun W hW=>HW.out.trans (hW.mono (by simp)))
   clear z y hd
   by_cases c1:d.name=nm
   ·rw [decide_eq_true c1] at q1
    by_cases c2:d.side=sd
    ·rw [decide_eq_true c2] at q2
     have HR:Hid (kindD nm sd ds=d.kind):=hidI (by rw [HK.out,HKD.out,if_pos (by simp [isK,c1,c2])])
     clear HK HKD c1 c2
     go_wp2
     skip
     go_ret
     exact ⟨by rw [HR.out];rfl,HBW.out _ (HB.out.alloc (by have:=HB.out.size;simp at this ⊢;omega) (.cells #[.string d.name,.int .u8 (d.side:Int),.int .u8 (d.kind:Int)] 56))⟩
    ·rw [decide_eq_false c2] at q2
     have HR:Hid (kindD nm sd ds=kindD nm sd (ds.drop (j+1))):=hidI (by rw [HK.out,HKD.out,if_neg (by simp [isK,c2])])
     clear HK HKD c1 c2
     go_wp2
     skip
     go_roundg g
     case measure=>omega
     case rel=>exact ⟨j+1,by omega,by go_num,HR,hidI (HB.out.alloc (by have:=HB.out.size;simp at this ⊢;omega) (.cells #[.string d.name,.int .u8 (d.side:Int),.int .u8 (d.kind:Int)] 56))⟩
   ·rw [decide_eq_false c1] at q1
    have HR:Hid (kindD nm sd ds=kindD nm sd (ds.drop (j+1))):=hidI (by rw [HK.out,HKD.out,if_neg (by simp [isK,c1])])
    clear HK HKD c1
    go_wp2
    skip
    go_roundg g
    case measure=>omega
    case rel=>exact ⟨j+1,by omega,by go_num,HR,hidI (HB.out.alloc (by have:=HB.out.size;simp at this ⊢;omega) (.cells #[.string d.name,.int .u8 (d.side:Int),.int .u8 (d.kind:Int)] 56))⟩
open Go.RowKit Go.Deep Go.MapKept
def mayS (k w:Nat):Bool:=
 if k=3∨k=6∨k=8 then decide (w=2∨w=3)
 else if k=5 then decide (w=3∨w=4)
 else if k=4∨k=7 then decide (w=4)
 else true
def allK (one:Nat) (ks:List Nat):Bool:=ks.all fun k=>decide (k=one)
def calledK (o:Nat) (ks:List Nat):Option Nat:=
 if o=18 then (if ks.getD 0 0=2∧ks.getD 1 0=ks.getD 2 0 then some (ks.getD 1 0) else none)
 else if o=15∨o=16∨o=17 then (if allK 2 ks=true then some 2 else none)
 else if o=14 then (if allK 1 ks=true∧ks.getD 0 0=ks.getD 1 0 then some 2 else none)
 else if o=13 then (if ks.getD 0 0=ks.getD 1 0 then some 2 else none)
 else (if allK 1 ks=true then some 1 else none)
def declK (ds:List Dcl) (nm:ByteArray) (sd:Nat):Option Nat:=if kindD nm sd ds=0 then none else some (kindD nm sd ds)
def mapO {α β:Type} (g:α→Option β):List α→Option (List β)
 | []=>some []
 | a::r=>match g a with
  | none=>none
  | some b=>match mapO g r with
   | none=>none
   | some bs=>some (b::bs)
def kindE (ds:List Dcl) (g:Int→Option Nat) (w:Nat) (e:Exp):Option Nat:=
 if mayS e.k w=false then none
 else if e.k=1 then some e.of
 else if e.k=2 then declK ds e.name 1
 else if e.k=3∨e.k=4 then declK ds e.name 2
 else if e.k=5 then declK ds e.name 3
 else if e.k=10 then (match mapO g e.kids with|none=>none|some ks=>calledK e.op ks)
 else some 1
def kindX (ds:List Dcl) (xs:List Exp) (w:Nat):Nat→Int→Option Nat
 | 0,_=>none
 | f+1,a=>kindE ds (kindX ds xs w f) w (xs.getD a.toNat exp0)
def kX (P:Prg) (w:Nat) (a:Int):Option Nat:=kindX P.decls P.exprs w P.exprs.length a
def isO (r:Option Nat) (k:Nat):Bool:=decide (r=some k)
def condO (P:Prg) (a:Int):Bool:=decide (a = -1) || isO (kX P 2 a) 2
def takesO (o k:Nat):Bool:=isO (calledK o [k,k]) k
def actO (P:Prg) (a:Actn):Bool:=
 match declK P.decls a.name 2 with
 | none=>false
 | some k=>(if a.k=1 then isO (kX P 2 a.e) k else if a.k=2 then isO (kX P 3 a.e) k && takesO a.op k else if a.k=3 then isO (kX P 4 a.e) k && takesO a.op k else true) && condO P a.cond
def stmtO (P:Prg) (s:Stm):Bool:=
 if s.k=1 then (match declK P.decls s.name 1 with|none=>false|some k=>isO (kX P 1 s.e) k)
 else if s.k=2 then (match declK P.decls s.name 1 with|none=>false|some k=>isO (kX P 2 s.e) k && takesO s.op k && condO P s.cond)
 else if s.k=3 then s.acts.all (actO P)
 else if s.k=7 then decide (declK P.decls s.name 2=some 1) && isO (kX P 1 s.e) 1
 else if s.k=4∨s.k=5∨s.k=6 then isO (kX P 1 s.e) 2
 else true
def firstO (P:Prg):Nat→List Stm→Option Nat
 | _,[]=>none
 | i,s::r=>if stmtO P s=true then firstO P (i+1) r else some i
def WfX (xs:List Exp):Prop:=∀ (i:Nat) (e:Exp),xs[i]?=some e→e.k=10→(∀ b∈e.kids,0≤b∧b<(i:Int))∧(e.op=18→3≤e.kids.length)∧(e.op=13∨e.op=14→2≤e.kids.length)∧e.kids.length≤3
def InX (P:Prg) (a:Int):Prop:=0≤a∧a<(P.exprs.length:Int)
def WfA (P:Prg) (a:Actn):Prop:=InX P a.e∧(a.cond = -1∨InX P a.cond)∧(a.k=2∨a.k=3→a.op≠18)
def WfS (P:Prg) (s:Stm):Prop:=(s.k≠3→InX P s.e)∧(s.k=2→(s.cond = -1∨InX P s.cond)∧s.op≠18)∧(s.k=3→∀ a∈s.acts,WfA P a)
structure WfP (P:Prg):Prop where
 x:WfX P.exprs
 s:∀ s∈P.stmts,WfS P s
open Go.RowKit Go.Deep Go.MapKept
theorem zaP {a:Act} {k:Nat} {v:Value} (h:a.tmps[k]?=some v):a.eval (.tmp k)=v:=by
 unfold Act.eval
 simp only [Array.getD_eq_getD_getElem?,h,Option.getD_some]
theorem yl_of {ops:Array Oper} {t:Array Value} {j d:Nat} {b:Bool} (h1:(ops[j]?).bind (·.dst)=some d) (h2:t[d]?=some (.bool b)):yielded ops t j=some b:=by
 unfold yielded
 rw [h1]
 simp only [Option.bind_some,h2]
theorem yl_un {ops:Array Oper} {t:Array Value} {j d:Nat} (h1:(ops[j]?).bind (·.dst)=some d) (h2:t[d]?=some undef):yielded ops t j=none:=by
 unfold yielded
 rw [h1]
 simp only [Option.bind_some,h2,undef]
structure Put (a a1:Act) (n d:Nat) (v:Value):Prop where
 size:a1.tmps.size=n
 at_:a1.tmps[d]?=some v
 far:∀ j,d≠j→a1.tmps[j]?=a.tmps[j]?
 df:a1.defers=a.defers
theorem put_put {a:Act} {n d:Nat} (hs:a.tmps.size=n) (hd:d<n) (v:Value):Put a (a.put (some d) v) n d v:=by
 refine ⟨by simp [Act.put,hs],?_,?_,rfl⟩
 ·simp only [Act.put,Array.getElem?_setIfInBounds,hs,hd,if_true]
 ·intro j hj
  simp only [Act.put,Array.getElem?_setIfInBounds,hj,if_false]
section
variable {P : Program} {ops : Array Oper} {rest : List Oper} {o : Oper} {a : Act} {Q : Exit → Act → World → Prop} {w w' : World} {n d : Nat} {v : Value}
theorem wl_op (hw:Region.wanted o (yielded ops a.tmps)=true) (hd:o.dst=some d) (hs:a.tmps.size=n) (hn:d<n) (hr:(execOp a.eval o).run P w=.ok (.value v) w') (h:∀ a1,Put a a1 n d v→wpList P ops Q rest a1 w'):wpList P ops Q (o::rest) a w:=
 wpList_step fun K hK=>by
  rw [if_pos hw]
  unfold Oper.wp
  rw [hr,Oper.upon_value,hd]
  exact hK _ _ (h _ (put_put hs hn v))
theorem wl_skip (hw:Region.wanted o (yielded ops a.tmps)=false) (hd:o.dst=some d) (hs:a.tmps.size=n) (hn:d<n) (h:∀ a1,Put a a1 n d undef→wpList P ops Q rest a1 w):wpList P ops Q (o::rest) a w:=
 wpList_step fun K hK=>by
  rw [if_neg (by rw [hw];simp),hd]
  exact hK _ _ (h _ (put_put hs hn undef))
theorem wl_call {f:FuncId} {args:Array Value} {R:Ending→World→Prop} (hw:Region.wanted o (yielded ops a.tmps)=true) (hd:o.dst=some d) (hs:a.tmps.size=n) (hn:d<n) (hr:(execOp a.eval o).run P w=.ok (.enter f args) w) (hC:Calls P f args w R) (hR:∀ e w1,R e w1→∃ v,e=.returned v∧∀ a1,Put a a1 n d v→wpList P ops Q rest a1 w1):wpList P ops Q (o::rest) a w:=
 wpList_step fun K hK=>by
  rw [if_pos hw]
  unfold Oper.wp
  rw [hr,Oper.upon_enter]
  refine hC.mono ?_
  intro e w1 h1
  obtain ⟨v,rfl,h2⟩:=hR e w1 h1
  rw [hd]
  exact hK _ _ (h2 _ (put_put hs hn v))
end
end Go.Proofs.YtmekkhfohmfjkaaGreatDoor
namespace Go.Proofs
open Go.Shelf
def Tryz.lays151_ren:Go.Shelf.Ren:=⟨fun|151=>186|152=>191|137=>194|119=>195|224=>196|225=>197|217=>198|266=>199|n=>n,fun|9=>9|21=>21|4=>4|3=>3|5=>5|0=>0|46=>187|n=>n,fun|n=>n⟩
theorem Tryz.lays151:Go.Proofs.Lays.n151 Tryz.prog Tryz.lays151_ren:={
 mixed:=by kernel_rfl
 f119:=Tryz.func195.trans (congrArg some (by kernel_rfl))
 f137:=Tryz.func194.trans (congrArg some (by kernel_rfl))
 f151:=Tryz.func186.trans (congrArg some (by kernel_rfl))
 f152:=Tryz.func191.trans (congrArg some (by kernel_rfl))
 f217:=Tryz.func198.trans (congrArg some (by kernel_rfl))
 f224:=Tryz.func196.trans (congrArg some (by kernel_rfl))
 f225:=Tryz.func197.trans (congrArg some (by kernel_rfl))
 f266:=Tryz.func199.trans (congrArg some (by kernel_rfl))
 t0:=Tryz.underlying0
 a0:=Tryz.isAgg0
 z0:=Tryz.sizeOf0
 v0:=Tryz.zeroValue0
 t3:=Tryz.underlying3
 a3:=Tryz.isAgg3
 z3:=Tryz.sizeOf3
 v3:=Tryz.zeroValue3
 t4:=Tryz.underlying4
 a4:=Tryz.isAgg4
 z4:=Tryz.sizeOf4
 v4:=Tryz.zeroValue4
 t5:=Tryz.underlying5
 a5:=Tryz.isAgg5
 z5:=Tryz.sizeOf5
 v5:=Tryz.zeroValue5
 t9:=Tryz.underlying9
 a9:=Tryz.isAgg9
 z9:=Tryz.sizeOf9
 v9:=Tryz.zeroValue9
 t21:=Tryz.underlying21
 a21:=Tryz.isAgg21
 z21:=Tryz.sizeOf21
 v21:=Tryz.zeroValue21
 t46:=Tryz.underlying187
 a46:=Tryz.isAgg187
 z46:=Tryz.sizeOf187
 v46:=Tryz.zeroValue187 }
open Go.RowKit Go.Lib in
theorem Tryz.strings_ContainsRune_ascii (s:ByteArray) (r:Int) (w:World) (h0:0≤r) (h1:r<128) :
  Calls Tryz.prog 186 #[.string s,.int .i32 r] w fun e w'=>e=.returned (.bool (decide (0≤Lib.indexByte s.data.toList r.toNat.toUInt8)))∧w'=w:=Any.strings_ContainsRune_ascii Tryz.lays151 s r w h0 h1
end Go.Proofs
namespace Go.Proofs.YtmekkhfohmfjkaaGreatDoor
open Go.RowKit Go.Deep Go.MapKept
def hasB (p:ByteArray) (c:Nat):Bool:=decide (0≤Lib.indexByte p.data.toList c.toUInt8)
theorem has_any (sw sp:ByteArray) (c:Nat) (hc:c<128) (w:World):Calls Tryz.prog 172 #[.agg #[.string sw,.string sp],.int .i32 (c:Int)] w fun e w'=>e=.returned (.bool (hasB sp c))∧Below w.heap.size w w':=by
 have C:=hidI (fun W=>Tryz.strings_ContainsRune_ascii sp (c:Int) W (by omega) (by omega))
 go_enter Tryz.func172,Tryz.ntmps172
 go_wp2_with (go_at_call 186;refine (C.out _).mono ?_;intro e w1 h1;obtain ⟨rfl,rfl⟩:=h1;clear C)
 go_ret
 exact ⟨rfl,by exact belowT⟩
end Go.Proofs.YtmekkhfohmfjkaaGreatDoor
