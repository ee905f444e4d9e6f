/-
  Part 18 of the proof: TlMem, Has, TlHas.
-/
import Derived.Test.YtmekkhfohmfjkaaGreatDoorSd13
import Derived.Test.YtmekkhfohmfjkaaGreatDoorSd17
import Derived.Lib.OthersKept
import Derived.Shelf.Strings.Runes
import Derived.Test.YtmekkhfohmfjkaaGreatDoorProg
import Derived.Test.YtmekkhfohmfjkaaGreatDoorSd01
namespace Go.Proofs.YtmekkhfohmfjkaaGreatDoor
open Go.RowKit Go.Deep Go.MapKept
structure Tx where
 w0:World
 B:Nat
 P:PV
 put:Value
 pr:List Tok→List Rw→Prop
 K:List (Nat × ByteArray × Nat)
def tlBox (t:Tx) (σ:TS):Rw:=⟨bx t.B,174,9,1,[t.P.dv,t.P.xv,t.P.sv,t.P.mv,.int .i64 (σ.x:Int),.int .i64 (σ.s:Int),.int .i64 (σ.f:Int),.int .i64 (σ.d:Int),t.put]⟩
structure TlR (t:Tx) (σ:TS) (X:List Rw) (w:World):Prop where
 below:Below t.w0.heap.size t.w0 w
 rows:∃ Q,t.pr σ.ts Q∧RowsP w t.w0.heap.size (tlBox t σ::(Q++X))
 kept:∀ x∈t.K,w.heap[x.1]?=some (.stringIter x.2.1 x.2.2)
def TsOk (σ:TS):Prop:=σ.f≤400∧σ.ts.length+σ.d≤2*σ.f∧σ.d≤12
def TsOk1 (σ:TS):Prop:=σ.f≤400∧σ.ts.length+σ.d≤2*σ.f+1∧σ.d≤12
structure TlS (t:Tx) (σ:TS) (X:List Rw) (w:World):Prop where
 r:TlR t σ X w
 lim:TsOk σ
structure TBad (t:Tx) (X:List Rw) (w:World):Prop where
 below:Below t.w0.heap.size t.w0 w
 rows:RowsP w t.w0.heap.size X
theorem TsOk.one {σ:TS} (h:TsOk σ):TsOk1 σ:=⟨h.1,by have:=h.2.1;omega,h.2.2⟩
section
variable {t : Tx} {σ : TS} {X Y : List Rw} {w : World}
theorem keep_below {l:List (Nat × ByteArray × Nat)} (h:∀ x∈l,w.heap[x.1]?=some (.stringIter x.2.1 x.2.2)) {w':World} (hb:Below w.heap.size w w'):∀ x∈l,w'.heap[x.1]?=some (.stringIter x.2.1 x.2.2):=
 fun x hx=>(hb.block x.1 (Array.getElem?_eq_some_iff.1 (h x hx)).1).trans (h x hx)
theorem own_cells {base e size n B:Nat} {xs:List Value} (h:w.ownsRow base e size (bx B) n xs):∃ cur,w.heap[B]?=some (.cells cur e):=by
 rcases h.2 with ⟨h0,_⟩|⟨g',cap',cur,he,hb,hh,h1,h2,h3,h4⟩
 ·cases h0
 ·cases he
  exact ⟨cur,hh⟩
theorem keep_ne {base e size n B:Nat} {xs:List Value} (h:w.ownsRow base e size (bx B) n xs) {x:Nat × ByteArray × Nat} (hx:w.heap[x.1]?=some (.stringIter x.2.1 x.2.2)):x.1≠B:=by
 obtain ⟨cur,hc⟩:=own_cells h
 intro e
 rw [e,hc] at hx
 cases hx
theorem keep_set {base e size n B j:Nat} {xs:List Value} (h:w.ownsRow base e size (bx B) n xs) {l:List (Nat × ByteArray × Nat)} (hk:∀ x∈l,w.heap[x.1]?=some (.stringIter x.2.1 x.2.2)) (u:Value):∀ x∈l,(w.setCell ⟨B,j,none⟩ u).heap[x.1]?=some (.stringIter x.2.1 x.2.2):=
 fun x hx=>((zcB w B j u).block x.1 (Array.getElem?_eq_some_iff.1 (hk x hx)).1 (fun e=>keep_ne h (hk x hx) (by cases e;rfl))).trans (hk x hx)
theorem TlR.on (h:TlR t σ X w) {w':World} (hb:Below w.heap.size w w'):TlR t σ X w':=by
 obtain ⟨Q,hq,hr⟩:=h.rows
 exact ⟨h.below.trans (hb.mono h.below.size),⟨Q,hq,hr.below hb⟩,keep_below h.kept hb⟩
theorem TlR.drew (h:TlR t σ X w):TlR t σ X w.drew:=by
 obtain ⟨Q,hq,hr⟩:=h.rows
 exact ⟨h.below.drew,⟨Q,hq,hr.drew⟩,h.kept⟩
theorem TlR.alloc (h:TlR t σ X w) (o:Obj):TlR t σ X (w.alloc o):=by
 obtain ⟨Q,hq,hr⟩:=h.rows
 exact ⟨h.below.alloc h.below.size o,⟨Q,hq,hr.alloc o⟩,keep_below h.kept ((Below.refl w.heap.size w).alloc (Nat.le_refl _) o)⟩
theorem TlR.box (h:TlR t σ X w):w.ownsRow t.w0.heap.size 174 9 (bx t.B) 1 (tlBox t σ).xs:=by
 obtain ⟨Q,hq,hr⟩:=h.rows
 exact RowsP.head (r:=tlBox t σ) hr
theorem TlR.cell (h:TlR t σ X w) {j:Nat} {u:Value} (hj:(tlBox t σ).xs[j]?=some u):w.cell? ⟨t.B,j,none⟩=some u:=zaB h.box hj
theorem TlR.free (h:TlR t σ X w) (j:Nat):w.frozen? ⟨t.B,j,none⟩=false:=zaQ h.box j
theorem TlR.lt (h:TlR t σ X w):t.w0.heap.size≤t.B∧t.B<w.heap.size:=h.box.lt t.B rfl
theorem TlR.size (h:TlR t σ X w):t.w0.heap.size≤w.heap.size:=h.below.size
theorem TlR.more (h:TlR t σ X w) {w':World} {r:Rw} (hw:TlR t σ X w→∀ l,RowsP w t.w0.heap.size l→RowsP w' t.w0.heap.size (r::l)) (hb:Below w.heap.size w w'):TlR t σ (r::X) w':=by
 obtain ⟨Q,hq,hr⟩:=h.rows
 refine ⟨h.below.trans (hb.mono h.below.size),⟨Q,hq,?_⟩,keep_below h.kept hb⟩
 have:=hw h _ hr
 exact this.perm (((List.perm_middle (l₁:=tlBox t σ::Q) (l₂:=X) (a:=r))).symm)
theorem TlR.newbox (h:TlR t σ X w) (e size:Nat) (xs:Array Value) (hs:xs.size=size):TlR t σ (⟨bx w.heap.size,e,size,1,xs.toList⟩::X) (w.alloc (.cells xs e)):=
 h.more (fun h l hl=>hl.add (r:=⟨bx w.heap.size,e,size,1,xs.toList⟩) (hl.alloc _) (zcK w t.w0.heap.size e size xs h.size hs) (fun k hk=>by cases hk;exact Nat.le_refl _)) ((Below.refl w.heap.size w).alloc (Nat.le_refl _) _)
theorem TlR.first {r:Rw} (h:TlR t σ (r::X) w):∃ Q,t.pr σ.ts Q∧RowsP w t.w0.heap.size (r::(tlBox t σ::(Q++X))):=by
 obtain ⟨Q,hq,hr⟩:=h.rows
 exact ⟨Q,hq,hr.perm (List.perm_middle (l₁:=tlBox t σ::Q) (l₂:=X) (a:=r))⟩
theorem TlR.row {r:Rw} (h:TlR t σ (r::X) w):w.ownsRow t.w0.heap.size r.e r.size r.v r.n r.xs:=by
 obtain ⟨Q,hq,hr⟩:=h.first
 exact hr.head
theorem TlR.sub (h:TlR t σ X w) (hs:Y.Sublist X):TlR t σ Y w:=by
 obtain ⟨Q,hq,hr⟩:=h.rows
 exact ⟨h.below,⟨Q,hq,hr.sub ((hs.append_left Q).cons_cons _)⟩,h.kept⟩
theorem TlR.less {r:Rw} (h:TlR t σ (r::X) w):TlR t σ X w:=h.sub (.cons _ (.refl _))
theorem TlR.bad (h:TlR t σ X w) (hs:Y.Sublist X):TBad t Y w:=by
 obtain ⟨Q,hq,hr⟩:=h.rows
 exact ⟨h.below,hr.sub ((hs.trans (List.sublist_append_right _ _)).cons _)⟩
theorem TBad.sub (h:TBad t X w) (hs:Y.Sublist X):TBad t Y w:=⟨h.below,h.rows.sub hs⟩
theorem TlR.setc (h:TlR t σ X w) (j:Nat) (u:Value) (σ':TS) (hts:σ'.ts=σ.ts) (hx:(tlBox t σ').xs=(tlBox t σ).xs.set j u):TlR t σ' X (w.setCell ⟨t.B,j,none⟩ u):=by
 obtain ⟨Q,hq,hr⟩:=h.rows
 refine ⟨h.below.setCell h.lt.1 u,⟨Q,by rw [hts];exact hq,?_⟩,keep_set h.box h.kept u⟩
 have h1:=hr.setc (r:=tlBox t σ) (g:=t.B) (cap:=1) (j:=j) rfl u
 have e:({ tlBox t σ with xs:=(tlBox t σ).xs.set j u }:Rw)=tlBox t σ':=by
  rw [←hx]
  rfl
 rwa [e] at h1
theorem TlR.setbox {B e size j:Nat} {xs:List Value} (h:TlR t σ (⟨bx B,e,size,1,xs⟩::X) w) (u:Value):TlR t σ (⟨bx B,e,size,1,xs.set j u⟩::X) (w.setCell ⟨B,j,none⟩ u):=by
 obtain ⟨Q,hq,hr⟩:=h.first
 exact ⟨h.below.setCell (hr.head.lt B rfl).1 u,⟨Q,hq,(hr.setc (g:=B) (cap:=1) (j:=j) rfl u).perm (List.perm_middle (l₁:=tlBox t σ::Q) (l₂:=X)).symm⟩,keep_set hr.head h.kept u⟩
def Tx.withK (t:Tx) (K:List (Nat × ByteArray × Nat)):Tx:={ t with K:=K }
theorem TlR.push (h:TlR t σ X w) {x:Nat × ByteArray × Nat} (hx:w.heap[x.1]?=some (.stringIter x.2.1 x.2.2)):TlR (t.withK (x::t.K)) σ X w:=
 ⟨h.below,h.rows,fun y hy=>by
  rcases List.mem_cons.1 hy with rfl|hy
  ·exact hx
  ·exact h.kept y hy⟩
theorem TlR.pop {x:Nat × ByteArray × Nat} (h:TlR (t.withK (x::t.K)) σ X w):TlR t σ X w:=⟨h.below,h.rows,fun y hy=>h.kept y (List.mem_cons_of_mem _ hy)⟩
theorem grown_iter (w:World) (k:Nat) (s:ByteArray) (p:Nat):w.grownBy (w.iterAt k s p) (some k):=
 ⟨rfl,rfl,rfl,by simp [World.iterAt],fun j _ hne=>by
  simp only [World.iterAt]
  rw [Array.getElem?_setIfInBounds,if_neg (fun e=>hne (by rw [e]))]⟩
theorem own_iter {base:Nat} {l:List Rw} (h:RowsP w base l) {k:Nat} {s:ByteArray} {p:Nat} (hk:w.heap[k]?=some (.stringIter s p)) (p':Nat):RowsP (w.iterAt k s p') base l:=by
 refine h.far (grown_iter w k s p') (fun r hr => ?_)
 cases hv:r.v.ownBlock with
 | none=>exact .inl rfl
 | some g=>
  refine .inr (fun e => ?_)
  cases e
  rcases (h.own r hr).2 with ⟨h0,_⟩|⟨g',cap',cur,he,hb,hh,_⟩
  ·rw [h0] at hv;cases hv
  ·rw [he] at hv
   cases hv
   rw [hh] at hk
   cases hk
theorem TlR.iter {k:Nat} {s:ByteArray} {p:Nat} (h:TlR (t.withK ((k,s,p)::t.K)) σ X w) (hk:t.w0.heap.size≤k) (hd:∀ y∈t.K,y.1≠k) (p':Nat):TlR (t.withK ((k,s,p')::t.K)) σ X (w.iterAt k s p'):=by
 have h0:=h.kept (k,s,p) (List.mem_cons_self ..)
 obtain ⟨Q,hq,hr⟩:=h.rows
 refine ⟨h.below.grown (grown_iter w k s p') h.below.size (fun j hj=>by cases hj;exact hk),⟨Q,hq,own_iter hr h0 p'⟩,fun y hy => ?_⟩
 rcases List.mem_cons.1 hy with rfl|hy
 ·exact _root_.Go.Lib.iterAt_heap w k s p p' h0
 ·have h1:=h.kept y (List.mem_cons_of_mem _ hy)
  exact ((grown_iter w k s p').block y.1 (Array.getElem?_eq_some_iff.1 h1).1 (fun e=>hd y hy (by cases e;rfl))).trans h1
theorem TlS.push (h:TlS t σ X w) {x:Nat × ByteArray × Nat} (hx:w.heap[x.1]?=some (.stringIter x.2.1 x.2.2)):TlS (t.withK (x::t.K)) σ X w:=⟨h.r.push hx,h.lim⟩
theorem TlS.pop {x:Nat × ByteArray × Nat} (h:TlS (t.withK (x::t.K)) σ X w):TlS t σ X w:=⟨h.r.pop,h.lim⟩
theorem TlS.iter {k:Nat} {s:ByteArray} {p:Nat} (h:TlS (t.withK ((k,s,p)::t.K)) σ X w) (hk:t.w0.heap.size≤k) (hd:∀ y∈t.K,y.1≠k) (p':Nat):TlS (t.withK ((k,s,p')::t.K)) σ X (w.iterAt k s p'):=⟨h.r.iter hk hd p',h.lim⟩
theorem TlR.klt (h:TlR t σ X w):∀ y∈t.K,y.1≠w.heap.size:=fun y hy e=>by
 have:=(Array.getElem?_eq_some_iff.1 (h.kept y hy)).1
 omega
theorem TlS.on (h:TlS t σ X w) {w':World} (hb:Below w.heap.size w w'):TlS t σ X w':=⟨h.r.on hb,h.lim⟩
theorem TlS.drew (h:TlS t σ X w):TlS t σ X w.drew:=⟨h.r.drew,h.lim⟩
theorem TlS.alloc (h:TlS t σ X w) (o:Obj):TlS t σ X (w.alloc o):=⟨h.r.alloc o,h.lim⟩
theorem TlS.newbox (h:TlS t σ X w) (e size:Nat) (xs:Array Value) (hs:xs.size=size):TlS t σ (⟨bx w.heap.size,e,size,1,xs.toList⟩::X) (w.alloc (.cells xs e)):=⟨h.r.newbox e size xs hs,h.lim⟩
theorem TlS.sub (h:TlS t σ X w) (hs:Y.Sublist X):TlS t σ Y w:=⟨h.r.sub hs,h.lim⟩
theorem TlS.bad (h:TlS t σ X w) (hs:Y.Sublist X):TBad t Y w:=h.r.bad hs
end
def SmlN (s:ByteArray):Prop:=s.size≤140737488355328
def ActOk (a:Actn):Prop:=a.k<256∧a.op<256∧SmlN a.name
structure PrgOk (P:Prg):Prop where
 dl:P.decls.length≤1099511627776
 xl:P.exprs.length≤1099511627776
 sl:P.stmts.length≤1099511627776
 ml:P.main.length≤1099511627776
 d:∀ d∈P.decls,d.side<256∧d.kind<256∧SmlN d.name
 x:∀ x∈P.exprs,x.k<256∧x.of<256∧x.op<256∧SmlN x.name∧x.kids.length≤1099511627776
 s:∀ s∈P.stmts,s.k<256∧s.op<256∧SmlN s.name∧s.acts.length≤1099511627776∧s.thn.length≤1099511627776∧s.els.length≤1099511627776∧∀ a∈s.acts,ActOk a
structure SeesPv (w:World) (p:PV):Prop where
 d:SeesC w p.dv p.ds.length 3 (flatD p.ds)
 x:SeesC w p.xv p.xs.length 6 (flatX p.xs)
 s:SeesC w p.sv p.ss.length 8 (flatS p.ss)
 m:SeesC w p.mv p.ms.length 1 (intsI p.ms)
 xk:∀ x∈p.xs,SeesC w x.2 x.1.kids.length 1 (intsI x.1.kids)
 sa:∀ s∈p.ss,SeesC w s.av s.s.acts.length 6 (flatAc s.s.acts)
 st:∀ s∈p.ss,SeesC w s.tv s.s.thn.length 1 (intsI s.s.thn)
 se:∀ s∈p.ss,SeesC w s.ev s.s.els.length 1 (intsI s.s.els)
theorem SeesPv.below {w w':World} {p:PV} (h:SeesPv w p) (hb:Below w.heap.size w w'):SeesPv w' p:=
 ⟨h.d.below hb (Nat.le_refl _),h.x.below hb (Nat.le_refl _),h.s.below hb (Nat.le_refl _),h.m.below hb (Nat.le_refl _),fun x hx=>(h.xk x hx).below hb (Nat.le_refl _),fun x hx=>(h.sa x hx).below hb (Nat.le_refl _),fun x hx=>(h.st x hx).below hb (Nat.le_refl _),fun x hx=>(h.se x hx).below hb (Nat.le_refl _)⟩
abbrev flt3:List PanicEntry:=[{ v:=.iface 111 (.agg #[.int .i64 0,.int .i64 3]),recovered:=false }]
def TPost (t:Tx) (X:List Rw) (r:Option TS) (e:Ending) (w':World):Prop:=
 match r with
 | none=>e=.panicked flt3∧TBad t X w'
 | some σ'=>e=.returned (.tuple #[])∧TlS t σ' X w'
def PutOk (t:Tx) (F:Nat):Prop:=∀ (σ:TS) (X:List Rw) (w:World) (tk:Tok),TlR t σ X w→σ.ts.length≤1000→SmlN tk.s→Calls Tryz.prog F #[.agg #[.int .u8 tk.k,.string tk.s,.int .i64 tk.n,.int .i64 tk.p]] w fun e w'=>e=.returned (.tuple #[])∧TlR t { σ with ts:=σ.ts++[tk] } X w'
structure Tx.Ok (t:Tx) (F:Nat):Prop where
 laid:Laid t.w0
 sees:SeesPv t.w0 t.P
 ok:PrgOk t.P.prg
 isF:F=52
 put:t.put=.func (.func F) #[] #[]
 fnK:∀ K,PutOk (t.withK K) F
theorem Tx.Ok.fn {t:Tx} {F:Nat} (h:t.Ok F):t.put=.func (.func F) #[] #[]∧PutOk t F:=⟨h.put,h.fnK t.K⟩
theorem Tx.Ok.withK {t:Tx} {F:Nat} (h:t.Ok F) (K:List (Nat × ByteArray × Nat)):(t.withK K).Ok F:=⟨h.laid,h.sees,h.ok,h.isF,h.put,h.fnK⟩
end Go.Proofs.YtmekkhfohmfjkaaGreatDoor
namespace Go.Proofs
open Go.Shelf
def Tryz.lays151_ren:Go.Shelf.Ren:=⟨fun|151=>186|152=>191|137=>194|119=>195|224=>196|225=>197|217=>198|266=>199|n=>n,fun|9=>9|21=>21|4=>4|3=>3|5=>5|0=>0|46=>187|n=>n,fun|n=>n⟩
theorem Tryz.lays151:Go.Proofs.Lays.n151 Tryz.prog Tryz.lays151_ren:={
 mixed:=by kernel_rfl
 f119:=Tryz.func195.trans (congrArg some (by kernel_rfl))
 f137:=Tryz.func194.trans (congrArg some (by kernel_rfl))
 f151:=Tryz.func186.trans (congrArg some (by kernel_rfl))
 f152:=Tryz.func191.trans (congrArg some (by kernel_rfl))
 f217:=Tryz.func198.trans (congrArg some (by kernel_rfl))
 f224:=Tryz.func196.trans (congrArg some (by kernel_rfl))
 f225:=Tryz.func197.trans (congrArg some (by kernel_rfl))
 f266:=Tryz.func199.trans (congrArg some (by kernel_rfl))
 t0:=Tryz.underlying0
 a0:=Tryz.isAgg0
 z0:=Tryz.sizeOf0
 v0:=Tryz.zeroValue0
 t3:=Tryz.underlying3
 a3:=Tryz.isAgg3
 z3:=Tryz.sizeOf3
 v3:=Tryz.zeroValue3
 t4:=Tryz.underlying4
 a4:=Tryz.isAgg4
 z4:=Tryz.sizeOf4
 v4:=Tryz.zeroValue4
 t5:=Tryz.underlying5
 a5:=Tryz.isAgg5
 z5:=Tryz.sizeOf5
 v5:=Tryz.zeroValue5
 t9:=Tryz.underlying9
 a9:=Tryz.isAgg9
 z9:=Tryz.sizeOf9
 v9:=Tryz.zeroValue9
 t21:=Tryz.underlying21
 a21:=Tryz.isAgg21
 z21:=Tryz.sizeOf21
 v21:=Tryz.zeroValue21
 t46:=Tryz.underlying187
 a46:=Tryz.isAgg187
 z46:=Tryz.sizeOf187
 v46:=Tryz.zeroValue187 }
open Go.RowKit Go.Lib in
theorem Tryz.strings_ContainsRune_ascii (s:ByteArray) (r:Int) (w:World) (h0:0≤r) (h1:r<128) :
  Calls Tryz.prog 186 #[.string s,.int .i32 r] w fun e w'=>e=.returned (.bool (decide (0≤Lib.indexByte s.data.toList r.toNat.toUInt8)))∧w'=w:=Any.strings_ContainsRune_ascii Tryz.lays151 s r w h0 h1
end Go.Proofs
namespace Go.Proofs.YtmekkhfohmfjkaaGreatDoor
open Go.RowKit Go.Deep Go.MapKept
def hasB (p:ByteArray) (c:Nat):Bool:=decide (0≤Lib.indexByte p.data.toList c.toUInt8)
theorem has_any (sw sp:ByteArray) (c:Nat) (hc:c<128) (w:World):Calls Tryz.prog 172 #[.agg #[.string sw,.string sp],.int .i32 (c:Int)] w fun e w'=>e=.returned (.bool (hasB sp c))∧Below w.heap.size w w':=by
 have C:=hidI (fun W=>Tryz.strings_ContainsRune_ascii sp (c:Int) W (by omega) (by omega))
 go_enter Tryz.func172,Tryz.ntmps172
 go_wp2_with (go_at_call 186;refine (C.out _).mono ?_;intro e w1 h1;obtain ⟨rfl,rfl⟩:=h1;clear C)
 go_ret
 exact ⟨rfl,by exact belowT⟩
end Go.Proofs.YtmekkhfohmfjkaaGreatDoor
