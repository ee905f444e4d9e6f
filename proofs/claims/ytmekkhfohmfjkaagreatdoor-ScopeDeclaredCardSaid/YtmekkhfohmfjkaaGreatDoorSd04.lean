/-
  Part 4 of the proof: Rows2, RowsP, Seqs, Reg8.
-/
import Derived.Test.YtmekkhfohmfjkaaGreatDoorSd02
import Derived.Maps.AppendAt
import Derived.Lib.SmallJoins
import Derived.WalkSpells
import Derived.WalkLawsBesides
import Derived.Deep.LoopGhost
import Derived.Lib.SliceRun
import Derived.Deep.RegionHeldLaw
import Derived.Deep.AppendLies
import Derived.Deep.RegionHeld3
import Derived.Test.YtmekkhfohmfjkaaGreatDoorSd01
namespace Go.Proofs.YtmekkhfohmfjkaaGreatDoor
open Go.RowKit Go.Deep Go.MapKept
structure Rw where
 v:Value
 e:Nat
 size:Nat
 n:Nat
 xs:List Value
def Ap (a b:Value):Prop:=a.ownBlock=none∨a.ownBlock≠b.ownBlock
theorem Ap.symm {a b:Value} (h:Ap a b):Ap b a:=by
 rcases h with h|h
 ·cases hb:b.ownBlock with
  | none=>exact .inl hb
  | some k=>exact .inr (by rw [hb,h];simp)
 ·exact .inr (Ne.symm h)
def Own (w:World) (base:Nat) (r:Rw):Prop:=w.ownsRow base r.e r.size r.v r.n r.xs
structure RowsOk (w:World) (base:Nat) (l:List Rw):Prop where
 own:∀ r∈l,Own w base r
 apart:∀ (i j:Nat) (a b:Rw),l[i]?=some a→l[j]?=some b→i≠j→Ap a.v b.v
theorem RowsOk.at {w:World} {base:Nat} {l:List Rw} (h:RowsOk w base l) {i:Nat} {r:Rw} (hr:l[i]?=some r):w.ownsRow base r.e r.size r.v r.n r.xs:=h.own r (List.mem_of_getElem? hr)
theorem RowsOk.far {w w':World} {base:Nat} {l:List Rw} (h:RowsOk w base l) {row:Option Nat} (hg:w.grownBy w' row) (hne:∀ r∈l,r.v.ownBlock=none∨r.v.ownBlock≠row):RowsOk w' base l:=
 ⟨fun r hr=>(h.own r hr).kept hg (hne r hr),h.apart⟩
theorem RowsOk.alloc {w:World} {base:Nat} {l:List Rw} (h:RowsOk w base l) (o:Obj):RowsOk (w.alloc o) base l:=
 ⟨fun r hr=>World.ownsRow.alloc (h.own r hr) o,h.apart⟩
theorem owns_drew {w:World} {base e size n:Nat} {v:Value} {xs:List Value} (h:w.ownsRow base e size v n xs):w.drew.ownsRow base e size v n xs:=h
theorem RowsOk.drew {w:World} {base:Nat} {l:List Rw} (h:RowsOk w base l):RowsOk w.drew base l:=⟨fun r hr=>owns_drew (h.own r hr),h.apart⟩
theorem RowsOk.put {w w':World} {base:Nat} {l:List Rw} (h:RowsOk w base l) {i:Nat} {r r':Rw} (hr:l[i]?=some r) (hg:w.grownBy w' r.v.ownBlock) (ho:Own w' base r') (hb:r'.v.ownBlock=none∨r'.v.ownBlock=r.v.ownBlock∨r'.v.ownBlock=some w.heap.size):RowsOk w' base (l.set i r'):=by
 have hap:∀ j b,l[j]?=some b→i≠j→Ap r'.v b.v:=by
  intro j b hj hij
  rcases hb with e|e|e
  ·exact .inl e
  ·have:=h.apart i j r b hr hj hij
   unfold Ap at this ⊢
   rw [e];exact this
  ·refine .inr ?_
   rw [e]
   intro hk
   have:=(h.at hj).lt _ hk.symm
   omega
 constructor
 ·intro x hx
  obtain ⟨j,hj⟩:=List.getElem?_of_mem hx
  rw [List.getElem?_set] at hj
  by_cases hij:i=j
  ·subst hij
   have hlt:i<l.length:=(List.getElem?_eq_some_iff.1 hr).1
   simp only [if_true,hlt] at hj
   cases hj;exact ho
  ·simp only [hij,if_false] at hj
   exact (h.at hj).kept hg ((h.apart i j r x hr hj hij).symm)
 ·intro a b x y hx hy hab
  rw [List.getElem?_set] at hx hy
  have hlt:i<l.length:=(List.getElem?_eq_some_iff.1 hr).1
  by_cases ha:i=a
  ·subst ha
   have hb':¬ i=b:=hab
   simp only [if_true,hlt,Option.some.injEq] at hx
   simp only [hb',if_false] at hy
   subst hx
   exact hap b y hy hab
  ·simp only [ha,if_false] at hx
   by_cases hbb:i=b
   ·subst hbb
    simp only [if_true,hlt,Option.some.injEq] at hy
    subst hy
    exact (hap a x hx ha).symm
   ·simp only [hbb,if_false] at hy
    exact h.apart a b x y hx hy hab
theorem RowsOk.push {w:World} {base:Nat} {l:List Rw} (h:RowsOk w base l) (e size:Nat):RowsOk w base (l++[⟨.slice none 0 0,e,size,0,[]⟩]):=by
 constructor
 ·intro r hr
  rcases List.mem_append.1 hr with hr|hr
  ·exact h.own r hr
  ·obtain rfl:r=_:=by simpa using hr
   exact World.ownsRow_nil _ _ _ _
 ·intro i j a b ha hb hij
  have hn:Value.ownBlock (.slice none 0 0)=none:=rfl
  by_cases hi:i<l.length
  ·rw [List.getElem?_append_left hi] at ha
   by_cases hj:j<l.length
   ·rw [List.getElem?_append_left hj] at hb;exact h.apart i j a b ha hb hij
   ·rw [List.getElem?_append_right (by omega)] at hb
    obtain ⟨k,hk⟩:∃ k,j-l.length=k:=⟨_,rfl⟩
    rw [hk] at hb
    cases k with
    | zero=>simp at hb;subst hb;exact Ap.symm (.inl hn)
    | succ k=>simp at hb
  ·rw [List.getElem?_append_right (by omega)] at ha
   obtain ⟨k,hk⟩:∃ k,i-l.length=k:=⟨_,rfl⟩
   rw [hk] at ha
   cases k with
   | zero=>simp at ha;subst ha;exact .inl hn
   | succ k=>simp at ha
theorem own_setG {w:World} {base e size n g cap j:Nat} {xs:List Value} (h:w.ownsRow base e size (.slice (some ⟨g,0,none⟩) n cap) n xs) (u:Value):(w.setCell ⟨g,j,none⟩ u).ownsRow base e size (.slice (some ⟨g,0,none⟩) n cap) n (xs.set j u):=by
 refine ⟨by rw [List.length_set];exact h.1,?_⟩
 rcases h.2 with ⟨h0,_⟩|⟨g',cap',cur,he,hb,hh,h1,h2,h3,h4⟩
 ·cases h0
 ·simp only [Value.slice.injEq,Option.some.injEq,Addr.mk.injEq,and_true,true_and] at he
  obtain ⟨rfl,rfl⟩:=he
  refine .inr ⟨g,cap,cur.setIfInBounds j u,rfl,hb,heap_setCell_same _ _ _ _ _ _ hh,h1,h2,by simpa using h3,?_⟩
  rw [Array.toList_setIfInBounds,List.take_set,h4]
theorem zcB (w:World) (g j:Nat) (u:Value):w.grownBy (w.setCell ⟨g,j,none⟩ u) (some g):=⟨rfl,rfl,rfl,(Below.setCell (Below.refl 0 w) (Nat.zero_le _) u).size,fun k _ hne=>Below.heap_setCell w ⟨g,j,none⟩ u k (fun e=>hne (by rw [e]))⟩
theorem RowsOk.setc {w:World} {base:Nat} {l:List Rw} (h:RowsOk w base l) {i g cap j:Nat} {r:Rw} (hr:l[i]?=some r) (hv:r.v=.slice (some ⟨g,0,none⟩) r.n cap) (u:Value):RowsOk (w.setCell ⟨g,j,none⟩ u) base (l.set i { r with xs:=r.xs.set j u }):=by
 have ho:=h.at hr
 refine h.put hr (by rw [hv];exact zcB w g j u) ?_ (.inr (.inl rfl))
 unfold Own
 show (w.setCell ⟨g,j,none⟩ u).ownsRow base r.e r.size r.v r.n (r.xs.set j u)
 rw [hv] at ho ⊢
 exact own_setG ho u
theorem own_cut {w:World} {base e size n m:Nat} {a:Option Addr} {cap:Nat} {xs:List Value} (h:w.ownsRow base e size (.slice a n cap) n xs) (hm:m≤n) (ha:a≠none):w.ownsRow base e size (.slice a m cap) m (xs.take (m*size)):=by
 have hmul:m*size≤n*size:=Nat.mul_le_mul hm (Nat.le_refl _)
 refine ⟨by rw [List.length_take,h.1];omega,?_⟩
 rcases h.2 with ⟨h0,_⟩|⟨g',cap',cur,he,hb,hh,h1,h2,h3,h4⟩
 ·cases h0;exact absurd rfl ha
 ·cases he
  refine .inr ⟨g',cap,cur,rfl,hb,hh,by omega,h2,h3,?_⟩
  rw [←h4,List.take_take]
  congr 1
  omega
abbrev FV:=Frm × Value
def fcells (x:FV):List Value:=[.int .u8 x.1.k,.string x.1.s,.int .i64 x.1.n,x.2,.int .i64 x.1.p]
def flatF (l:List FV):List Value:=l.flatMap fcells
theorem flatF_append (a b:List FV):flatF (a++b)=flatF a++flatF b:=by simp [flatF]
theorem flatF_one (x:FV):flatF [x]=fcells x:=by simp [flatF]
theorem zcG:∀ (l:List FV) (j i:Nat) (x:FV),l[j]?=some x→i<5→(flatF l)[j*5+i]?=(fcells x)[i]?
 | [],_,_,_,h,_=>by simp at h
 | y::r,0,i,x,h,hi=>by
  obtain rfl:y=x:=by simpa using h
  simp only [flatF,List.flatMap_cons,Nat.zero_mul,Nat.zero_add]
  rw [List.getElem?_append_left (by simpa [fcells] using hi)]
 | y::r,j+1,i,x,h,hi=>by
  have:=zcG r j i x (by simpa using h) hi
  rw [←this]
  simp only [flatF,List.flatMap_cons]
  rw [List.getElem?_append_right (by simp [fcells];omega)]
  congr 1
  simp [fcells];omega
theorem flatF_set:∀ (l:List FV) (b:Nat) (g:Frm) (kv kv':Value) (ks:List Nat),l[b]?=some (g,kv)→flatF (l.set b ({ g with kids:=ks },kv'))=(flatF l).set (b*5+3) kv'
 | [],_,_,_,_,_,h=>by simp at h
 | y::r,0,g,kv,kv',ks,h=>by
  obtain rfl:y=(g,kv):=by simpa using h
  simp [flatF,fcells]
 | y::r,b+1,g,kv,kv',ks,h=>by
  have ih:=flatF_set r b g kv kv' ks (by simpa using h)
  unfold flatF at ih ⊢
  simp only [List.set_cons_succ,List.flatMap_cons]
  rw [ih]
  rw [show (b+1)*5+3=(fcells y).length+(b*5+3) by simp [fcells];omega]
  rw [List.set_append_right _ _ (by omega)]
  congr 2
  omega
def ints (l:List Nat):List Value:=l.map fun (n:Nat)=>Value.int .i64 (n:Int)
theorem ints_get {l:List Nat} {j x:Nat} (h:l[j]?=some x):(ints l)[j]?=some (.int .i64 (x:Int)):=by simp [ints,h]
theorem ints_append (a b:List Nat):ints (a++b)=ints a++ints b:=by simp [ints]
def bx (B:Nat):Value:=.slice (some ⟨B,0,none⟩) 1 1
def kidRow (x:FV):Rw:=⟨x.2,3,1,x.1.kids.length,ints x.1.kids⟩
def rrows (B:Nat) (fs:List FV) (top opn:List Nat) (fv tv ov:Value):List Rw:=
 ⟨bx B,94,3,1,[fv,tv,ov]⟩::⟨fv,115,5,fs.length,flatF fs⟩::⟨tv,3,1,top.length,ints top⟩::⟨ov,3,1,opn.length,ints opn⟩::⟨bx (B+1),96,2,1,[.int .i64 0,.int .i64 0]⟩::fs.map kidRow
def RD (w:World) (base B:Nat) (fs:List FV) (top opn:List Nat) (fv tv ov:Value):Prop:=RowsOk w base (rrows B fs top opn fv tv ov)
section
variable {w : World} {base B : Nat} {fs : List FV} {top opn : List Nat} {fv tv ov : Value}
theorem bx_cell {w:World} {base B e n:Nat} {xs:List Value} {j:Nat} {u:Value} (h:w.ownsRow base e 3 (bx B) n xs) (hj:xs[j]?=some u):w.cell? ⟨B,j,none⟩=some u:=by
 have:=World.ownsRow.cells h (g:=B) rfl j u hj
 rwa [show (⟨B,0,none⟩:Addr).add j=⟨B,0+j,none⟩ from Addr.add_lit ..,Nat.zero_add] at this
theorem RD.c0 (h:RD w base B fs top opn fv tv ov):w.cell? ⟨B,0,none⟩=some fv:=bx_cell (RowsOk.at (i:=0) h rfl) rfl
theorem RD.c1 (h:RD w base B fs top opn fv tv ov):w.cell? ⟨B,1,none⟩=some tv:=bx_cell (RowsOk.at (i:=0) h rfl) rfl
theorem RD.c2 (h:RD w base B fs top opn fv tv ov):w.cell? ⟨B,2,none⟩=some ov:=bx_cell (RowsOk.at (i:=0) h rfl) rfl
theorem zcU {w:World} {base e size n g cap:Nat} {xs:List Value} (h:w.ownsRow base e size (.slice (some ⟨g,0,none⟩) n cap) n xs) (j:Nat):w.frozen? ⟨g,j,none⟩=false:=by
 rcases h.2 with ⟨h0,_⟩|⟨g',cap',cur,he,hb,hh,h1,h2,h3,h4⟩
 ·cases h0
 ·simp only [Value.slice.injEq,Option.some.injEq,Addr.mk.injEq,and_true,true_and] at he
  obtain ⟨rfl,rfl⟩:=he
  unfold World.frozen?
  simp [hh]
theorem RD.free (h:RD w base B fs top opn fv tv ov) (j:Nat):w.frozen? ⟨B,j,none⟩=false:=zcU (RowsOk.at (i:=0) h rfl) j
theorem RD.lt (h:RD w base B fs top opn fv tv ov):base≤B∧B<w.heap.size:=(RowsOk.at (i:=0) h rfl).lt B rfl
theorem RD.fo (h:RD w base B fs top opn fv tv ov):w.ownsRow base 115 5 fv fs.length (flatF fs):=RowsOk.at (i:=1) h rfl
theorem RD.to (h:RD w base B fs top opn fv tv ov):w.ownsRow base 3 1 tv top.length (ints top):=RowsOk.at (i:=2) h rfl
theorem RD.oo (h:RD w base B fs top opn fv tv ov):w.ownsRow base 3 1 ov opn.length (ints opn):=RowsOk.at (i:=3) h rfl
theorem RD.eo (h:RD w base B fs top opn fv tv ov):w.ownsRow base 96 2 (bx (B+1)) 1 [.int .i64 0,.int .i64 0]:=RowsOk.at (i:=4) h rfl
theorem RD.kat {b:Nat} {x:FV} (hx:fs[b]?=some x):(rrows B fs top opn fv tv ov)[b+5]?=some (kidRow x):=by simp [rrows,hx]
theorem RD.ko (h:RD w base B fs top opn fv tv ov) {b:Nat} {x:FV} (hx:fs[b]?=some x):w.ownsRow base 3 1 x.2 x.1.kids.length (ints x.1.kids):=RowsOk.at (i:=b+5) h (RD.kat hx)
theorem RD.drew (h:RD w base B fs top opn fv tv ov):RD w.drew base B fs top opn fv tv ov:=RowsOk.drew h
theorem RD.alloc (h:RD w base B fs top opn fv tv ov) (o:Obj):RD (w.alloc o) base B fs top opn fv tv ov:=RowsOk.alloc h o
def RB (B:Nat) (fs:List FV) (top opn:List Nat) (fv tv ov:Value) (k:Nat):Prop:=∃ r∈rrows B fs top opn fv tv ov,r.v.ownBlock=some k
theorem RD.block (h:RD w base B fs top opn fv tv ov) {k:Nat} (hk:RB B fs top opn fv tv ov k):base≤k∧k<w.heap.size:=by
 obtain ⟨r,hr,e⟩:=hk
 exact (RowsOk.own h r hr).lt k e
structure Chg (R:Nat→Prop) (w w':World):Prop where
 os:w'.os=w.os
 tape:w'.tape=w.tape
 output:w'.output=w.output
 size:w.heap.size≤w'.heap.size
 block:∀ k,k<w.heap.size→¬ R k→w'.heap[k]?=w.heap[k]?
theorem Chg.refl (R:Nat→Prop) (w:World):Chg R w w:=⟨rfl,rfl,rfl,Nat.le_refl _,fun _ _ _=>rfl⟩
theorem Chg.grown {R:Nat→Prop} {a b c:World} (h:Chg R a b) {row:Option Nat} (hg:b.grownBy c row) (hr:∀ k,row=some k→k<a.heap.size→R k):Chg R a c:=
 ⟨hg.os.trans h.os,hg.tape.trans h.tape,hg.output.trans h.output,Nat.le_trans h.size hg.size,fun i hi hn=>(hg.block i (Nat.lt_of_lt_of_le hi h.size) (fun e=>hn (hr i e.symm hi))).trans (h.block i hi hn)⟩
theorem Chg.alloc {R:Nat→Prop} {a b:World} (h:Chg R a b) (o:Obj):Chg R a (b.alloc o):=h.grown (World.grownBy_alloc b o none) (fun _ e=>by cases e)
theorem Chg.drew {R:Nat→Prop} {a b:World} (h:Chg R a b):Chg R a b.drew:=⟨h.os,h.tape,h.output,h.size,h.block⟩
theorem Chg.setc {R:Nat→Prop} {a b:World} (h:Chg R a b) {g j:Nat} {u:Value} (hr:g<a.heap.size→R g):Chg R a (b.setCell ⟨g,j,none⟩ u):=h.grown (zcB b g j u) (fun k e hk=>by cases e;exact hr hk)
theorem Chg.below {R:Nat→Prop} {n:Nat} {a b:World} (h:Chg R a b) (hn:n≤a.heap.size) (hR:∀ k,k<n→¬ R k):Below n a b:=
 ⟨h.os,h.tape,h.output,h.size,fun k hk=>h.block k (Nat.lt_of_lt_of_le hk hn) (hR k hk)⟩
theorem Chg.cell {R:Nat→Prop} {a b:World} (h:Chg R a b) {p:Addr} {u:Value} (hc:a.cell? p=some u) (hr:¬ R p.block):b.cell? p=some u:=
 (World.cell?_of_block (w:=a) (h.block p.block (World.block_lt_of_cell? a _ hc) hr)).trans hc
theorem RD.putO (h:RD w base B fs top opn fv tv ov) {w':World} {ov':Value} {opn':List Nat} (hg:w.grownBy w' ov.ownBlock) (ho:w'.ownsRow base 3 1 ov' opn'.length (ints opn')) (hb:ov'.ownBlock=none∨ov'.ownBlock=ov.ownBlock∨ov'.ownBlock=some w.heap.size) :
  RD (w'.setCell ⟨B,2,none⟩ ov') base B fs top opn' fv tv ov':=by
 have h1:=RowsOk.put (i:=3) (r':=⟨ov',3,1,opn'.length,ints opn'⟩) h rfl hg ho hb
 exact RowsOk.setc (i:=0) (g:=B) (cap:=1) (j:=2) (r:=⟨bx B,94,3,1,[fv,tv,ov]⟩) h1 rfl rfl ov'
theorem RD.putT (h:RD w base B fs top opn fv tv ov) {w':World} {tv':Value} {top':List Nat} (hg:w.grownBy w' tv.ownBlock) (ho:w'.ownsRow base 3 1 tv' top'.length (ints top')) (hb:tv'.ownBlock=tv.ownBlock∨tv'.ownBlock=some w.heap.size) :
  RD (w'.setCell ⟨B,1,none⟩ tv') base B fs top' opn fv tv' ov:=by
 have h1:=RowsOk.put (i:=2) (r':=⟨tv',3,1,top'.length,ints top'⟩) h rfl hg ho (.inr hb)
 exact RowsOk.setc (i:=0) (g:=B) (cap:=1) (j:=1) (r:=⟨bx B,94,3,1,[fv,tv,ov]⟩) h1 rfl rfl tv'
theorem RD.putF (h:RD w base B fs top opn fv tv ov) {w':World} {fv':Value} {f:Frm} (hf:f.kids=[]) (hg:w.grownBy w' fv.ownBlock) (ho:w'.ownsRow base 115 5 fv' (fs.length+1) (flatF fs++fcells (f,.slice none 0 0))) (hb:fv'.ownBlock=fv.ownBlock∨fv'.ownBlock=some w.heap.size) :
  RD (w'.setCell ⟨B,0,none⟩ fv') base B (fs++[(f,Value.slice none 0 0)]) top opn fv' tv ov:=by
 have ho':w'.ownsRow base 115 5 fv' (fs++[(f,Value.slice none 0 0)]).length (flatF (fs++[(f,Value.slice none 0 0)])):=by
  rw [flatF_append,flatF_one,List.length_append];exact ho
 have h1:=RowsOk.put (i:=1) (r':=⟨fv',115,5,(fs++[(f,Value.slice none 0 0)]).length,flatF (fs++[(f,Value.slice none 0 0)])⟩) h rfl hg ho' (.inr hb)
 have h2:=RowsOk.setc (i:=0) (g:=B) (cap:=1) (j:=0) (r:=⟨bx B,94,3,1,[fv,tv,ov]⟩) h1 rfl rfl fv'
 have h3:=RowsOk.push h2 3 1
 unfold RD
 have e:rrows B (fs++[(f,Value.slice none 0 0)]) top opn fv' tv ov=((((rrows B fs top opn fv tv ov).set 1 ⟨fv',115,5,(fs++[(f,Value.slice none 0 0)]).length,flatF (fs++[(f,Value.slice none 0 0)])⟩).set 0 ⟨bx B,94,3,1,[fv',tv,ov]⟩)++[⟨.slice none 0 0,3,1,0,[]⟩]):=by
  simp [rrows,kidRow,hf,ints]
 rw [e]
 exact h3
theorem RD.putK (h:RD w base B fs top opn fv tv ov) {w':World} {b g cap:Nat} {x:FV} {kv':Value} {n:Nat} (hx:fs[b]?=some x) (hv:fv=.slice (some ⟨g,0,none⟩) fs.length cap) (hg:w.grownBy w' x.2.ownBlock) (ho:w'.ownsRow base 3 1 kv' (x.1.kids.length+1) (ints x.1.kids++[.int .i64 (n:Int)])) (hb:kv'.ownBlock=x.2.ownBlock∨kv'.ownBlock=some w.heap.size) :
  RD (w'.setCell ⟨g,b*5+3,none⟩ kv') base B (fs.set b (addKid n x.1,kv')) top opn fv tv ov:=by
 have ho':Own w' base (kidRow (addKid n x.1,kv')):=by
  unfold Own kidRow addKid
  show w'.ownsRow base 3 1 kv' (x.1.kids++[n]).length (ints (x.1.kids++[n]))
  rw [ints_append,List.length_append]
  exact ho
 have h1:=RowsOk.put (i:=b+5) h (RD.kat hx) hg ho' (.inr hb)
 have hlt:b<fs.length:=(List.getElem?_eq_some_iff.1 hx).1
 have h2:=RowsOk.setc (i:=1) (g:=g) (cap:=cap) (j:=b*5+3) (r:=⟨fv,115,5,fs.length,flatF fs⟩) h1 (by simp [rrows]) hv kv'
 unfold RD
 have e:rrows B (fs.set b (addKid n x.1,kv')) top opn fv tv ov=((rrows B fs top opn fv tv ov).set (b+5) (kidRow (addKid n x.1,kv'))).set 1 ⟨fv,115,5,fs.length,(flatF fs).set (b*5+3) kv'⟩:=by
  have e1:=flatF_set fs b x.1 x.2 kv' (x.1.kids++[n]) hx
  have e2:flatF (fs.set b (addKid n x.1,kv'))=(flatF fs).set (b*5+3) kv':=e1
  simp only [rrows,e2,List.length_set,List.map_set,List.set_cons_succ,List.set_cons_zero]
 rw [e]
 exact h2
end
section
variable {w : World} {base B : Nat} {fs : List FV} {top opn : List Nat} {fv tv ov : Value}
theorem own_some {w:World} {base e size n:Nat} {v:Value} {xs:List Value} (h:w.ownsRow base e size v n xs) (hn:0<n):∃ g cap,v=.slice (some ⟨g,0,none⟩) n cap∧base≤g∧g<w.heap.size:=by
 have hl:=h.lt
 rcases h.2 with ⟨_,h0⟩|⟨g,cap,cur,rfl,_⟩
 ·omega
 ·have:=hl g rfl
  exact ⟨g,cap,rfl,this.1,this.2⟩
theorem own_cell {w:World} {base e size n g cap:Nat} {xs:List Value} (h:w.ownsRow base e size (.slice (some ⟨g,0,none⟩) n cap) n xs) {j:Nat} {u:Value} (hj:xs[j]?=some u):w.cell? ⟨g,j,none⟩=some u:=by
 have:=World.ownsRow.cells h (g:=g) rfl j u hj
 rwa [show (⟨g,0,none⟩:Addr).add j=⟨g,0+j,none⟩ from Addr.add_lit ..,Nat.zero_add] at this
theorem inner_any (h:RD w base B fs top opn fv tv ov) (hG:opn.length≤12) {b:Nat} (hb:opn.getLast?=some b):Calls Tryz.prog 114 #[.pointer (some ⟨B,0,none⟩)] w fun e w'=>e=.returned (.int .i64 (b:Int))∧∃ n,w.drewN n=w':=by
 obtain ⟨pre,rfl⟩:∃ pre,opn=pre++[b]:=by
  rcases List.eq_nil_or_concat opn with rfl|⟨pre,x,rfl⟩
  ·simp at hb
  ·simp at hb;subst hb;exact ⟨pre,by simp⟩
 obtain ⟨g,cap,hv,_,_⟩:=own_some h.oo (by simp)
 have h2:=h.c2
 have ho:=h.oo
 rw [hv] at ho h2
 have hcell:=own_cell ho (j:=pre.length) (ints_get (x:=b) (by simp))
 simp only [List.length_append,List.length_cons,List.length_nil,Nat.zero_add] at h2 hG
 clear ho hb hv h
 obtain ⟨m,hm⟩:∃ m,pre.length=m:=⟨_,rfl⟩
 rw [hm] at h2 hG hcell
 have e1:IntKind.i64.wrap (((m+1:Nat):Int)-1)=(m:Int):=by rw [show (((m+1:Nat):Int)-1)=(m:Int) by omega];rw [IntKind.wrap_i64];omega
 have e2:(m:Int)<((m+1:Nat):Int):=by omega
 have e3:(0:Int)≤(m:Int):=by omega
 have e4:m<m+1:=by omega
 have e5:((m:Int)).toNat=m:=by omega
 go_enter Tryz.func114,Tryz.ntmps114
 go_wp2
 go_quiet (fail)
 generalize nq=n1
 go_wp2
 go_ret
 exact ⟨rfl,n1,rfl⟩
end
structure RowsP (w:World) (base:Nat) (l:List Rw):Prop where
 own:∀ r∈l,Own w base r
 apart:l.Pairwise (fun a b=>Ap a.v b.v)
theorem RowsP.perm {w:World} {base:Nat} {l m:List Rw} (h:RowsP w base l) (p:l.Perm m):RowsP w base m:=
 ⟨fun r hr=>h.own r (p.mem_iff.2 hr),(List.Perm.pairwise_iff (fun {_ _} h=>Ap.symm h) p).1 h.apart⟩
theorem RowsP.head {w:World} {base:Nat} {r:Rw} {l:List Rw} (h:RowsP w base (r::l)):w.ownsRow base r.e r.size r.v r.n r.xs:=h.own r (List.mem_cons_self)
theorem RowsP.rest {w:World} {base:Nat} {r:Rw} {l:List Rw} (h:RowsP w base (r::l)):RowsP w base l:=⟨fun x hx=>h.own x (List.mem_cons_of_mem _ hx),(List.pairwise_cons.1 h.apart).2⟩
theorem RowsP.far_head {w:World} {base:Nat} {r:Rw} {l:List Rw} (h:RowsP w base (r::l)):∀ x∈l,Ap r.v x.v:=(List.pairwise_cons.1 h.apart).1
theorem RowsP.lt {w:World} {base:Nat} {l:List Rw} (h:RowsP w base l) {r:Rw} (hr:r∈l) {k:Nat} (hk:r.v.ownBlock=some k):base≤k∧k<w.heap.size:=(h.own r hr).lt k hk
theorem RowsP.far {w w':World} {base:Nat} {l:List Rw} (h:RowsP w base l) {row:Option Nat} (hg:w.grownBy w' row) (hne:∀ r∈l,r.v.ownBlock=none∨r.v.ownBlock≠row):RowsP w' base l:=
 ⟨fun r hr=>(h.own r hr).kept hg (hne r hr),h.apart⟩
theorem RowsP.alloc {w:World} {base:Nat} {l:List Rw} (h:RowsP w base l) (o:Obj):RowsP (w.alloc o) base l:=⟨fun r hr=>World.ownsRow.alloc (h.own r hr) o,h.apart⟩
theorem RowsP.drew {w:World} {base:Nat} {l:List Rw} (h:RowsP w base l):RowsP w.drew base l:=⟨fun r hr=>owns_drew (h.own r hr),h.apart⟩
theorem RowsP.below {w w':World} {base:Nat} {l:List Rw} (h:RowsP w base l) (hb:Below w.heap.size w w'):RowsP w' base l:=⟨fun r hr=>zbQ (h.own r hr) hb (Nat.le_refl _),h.apart⟩
theorem RowsP.put {w w':World} {base:Nat} {r r':Rw} {l:List Rw} (h:RowsP w base (r::l)) (hg:w.grownBy w' r.v.ownBlock) (ho:Own w' base r') (hb:r'.v.ownBlock=none∨r'.v.ownBlock=r.v.ownBlock∨r'.v.ownBlock=some w.heap.size):RowsP w' base (r'::l):=by
 have hap:∀ x∈l,Ap r'.v x.v:=by
  intro x hx
  rcases hb with e|e|e
  ·exact .inl e
  ·have:=h.far_head x hx
   unfold Ap at this ⊢
   rw [e];exact this
  ·refine .inr ?_
   rw [e]
   intro hk
   have:=(h.lt (List.mem_cons_of_mem _ hx) hk.symm).2
   omega
 constructor
 ·intro x hx
  rcases List.mem_cons.1 hx with rfl|hx
  ·exact ho
  ·exact (h.own x (List.mem_cons_of_mem _ hx)).kept hg (Ap.symm (h.far_head x hx))
 ·exact List.pairwise_cons.2 ⟨hap,h.rest.apart⟩
theorem RowsP.setc {w:World} {base:Nat} {r:Rw} {l:List Rw} (h:RowsP w base (r::l)) {g cap j:Nat} (hv:r.v=.slice (some ⟨g,0,none⟩) r.n cap) (u:Value):RowsP (w.setCell ⟨g,j,none⟩ u) base ({ r with xs:=r.xs.set j u }::l):=by
 have ho:=h.head
 refine h.put (by rw [hv];exact zcB w g j u) ?_ (.inr (.inl rfl))
 unfold Own
 show (w.setCell ⟨g,j,none⟩ u).ownsRow base r.e r.size r.v r.n (r.xs.set j u)
 rw [hv] at ho ⊢
 exact own_setG ho u
theorem RowsP.nil {w:World} {base:Nat} {l:List Rw} (h:RowsP w base l) (e size:Nat):RowsP w base (⟨.slice none 0 0,e,size,0,[]⟩::l):=
 ⟨fun r hr=>by
  rcases List.mem_cons.1 hr with rfl|hr
  ·exact World.ownsRow_nil _ _ _ _
  ·exact h.own r hr,List.pairwise_cons.2 ⟨fun _ _=>.inl rfl,h.apart⟩⟩
theorem RowsP.add {w w':World} {base:Nat} {l:List Rw} (h:RowsP w base l) {r:Rw} (hl:RowsP w' base l) (ho:Own w' base r) (hb:∀ k,r.v.ownBlock=some k→w.heap.size≤k):RowsP w' base (r::l):=
 ⟨fun x hx=>by
  rcases List.mem_cons.1 hx with rfl|hx
  ·exact ho
  ·exact hl.own x hx,List.pairwise_cons.2 ⟨fun x hx=>by
   cases hk:r.v.ownBlock with
   | none=>exact .inl hk
   | some k=>
    refine .inr ?_
    rw [hk]
    intro e
    have:=(h.lt hx e.symm).2
    have:=hb k hk
    omega,hl.apart⟩⟩
theorem RowsP.sub {w:World} {base:Nat} {l m:List Rw} (h:RowsP w base l) (hs:m.Sublist l):RowsP w base m:=⟨fun r hr=>h.own r (hs.mem hr),h.apart.sublist hs⟩
theorem zaB {w:World} {base B e size n:Nat} {xs:List Value} {j:Nat} {u:Value} (h:w.ownsRow base e size (bx B) n xs) (hj:xs[j]?=some u):w.cell? ⟨B,j,none⟩=some u:=by
 have:=World.ownsRow.cells h (g:=B) rfl j u hj
 rwa [show (⟨B,0,none⟩:Addr).add j=⟨B,0+j,none⟩ from Addr.add_lit ..,Nat.zero_add] at this
theorem zaQ {w:World} {base B e size:Nat} {xs:List Value} (h:w.ownsRow base e size (bx B) 1 xs) (j:Nat):w.frozen? ⟨B,j,none⟩=false:=zcU h j
theorem zcK (w:World) (base e size:Nat) (xs:Array Value) (hb:base≤w.heap.size) (hs:xs.size=size):(w.alloc (.cells xs e)).ownsRow base e size (bx w.heap.size) 1 xs.toList:=by
 refine ⟨by simp [hs],.inr ⟨w.heap.size,1,xs,rfl,hb,(MapKept.heap_alloc w _).1,Nat.le_refl _,?_,?_,?_⟩⟩
 all_goals first|decide|omega|(rw [List.take_of_length_le (by simp [hs])])
open Go.RowKit Go.Shelf
attribute [local go_sem] Oper.semAt_some
def Keeps (T:Nat→Obj→Prop) (W W':World):Prop:=W.heap.size≤W'.heap.size∧∀ k o,T k o→W.heap[k]?=some o→W'.heap[k]?=some o
theorem Keeps.refl (T:Nat→Obj→Prop) (W:World):Keeps T W W:=⟨Nat.le_refl _,fun _ _ _ h=>h⟩
theorem Keeps.trans {T:Nat→Obj→Prop} {X Y Z:World} (h:Keeps T X Y) (k:Keeps T Y Z):Keeps T X Z:=⟨Nat.le_trans h.1 k.1,fun i o ht hi=>k.2 i o ht (h.2 i o ht hi)⟩
theorem Keeps.grown {T:Nat→Obj→Prop} {X Y:World} {row:Option Nat} (hg:X.grownBy Y row) (hr:∀ k o,row=some k→X.heap[k]?=some o→¬ T k o):Keeps T X Y:=
 ⟨hg.size,fun k o ht hk=>(hg.block k (Array.getElem?_eq_some_iff.1 hk).1 fun e=>hr k o e.symm hk ht).trans hk⟩
theorem Keeps.alloc (T:Nat→Obj→Prop) (W:World) (o:Obj):Keeps T W (W.alloc o):=Keeps.grown (World.grownBy_alloc W o none) fun _ _ e=>by cases e
theorem Keeps.cell {T:Nat→Obj→Prop} {W W':World} {p:Addr} {v:Value} (h:Keeps T W W') (ht:∀ o,T p.block o) (hc:W.cell? p=some v):W'.cell? p=some v:=by
 obtain ⟨o,ho,_⟩:=cells_of_cell hc
 have:=h.2 p.block o (ht o) ho
 unfold World.cell? at hc ⊢
 rw [this];rw [ho] at hc;exact hc
theorem keeps_of_below {n:Nat} {T:Nat→Obj→Prop} {W W':World} (h:Below n W W') (hT:∀ k o,T k o→W.heap[k]?=some o→k<n):Keeps T W W':=
 ⟨h.size,fun k o ht hk=>(h.block k (hT k o ht hk)).trans hk⟩
def Seq {α:Type} (g:Nat) (lb:Array Value) (encs:α→Array Value) (T:Nat→Obj→Prop) (S:List α→Prop) (R:List α→α→Prop) (w:World):Prop:=
 ∀ (l:Nat) (J Jx:List α→World→Prop) (W:World),Below w.heap.size w W→OwnFrom W.heap.size J→OwnFrom W.heap.size Jx→
  (∀ pre x W1,J pre W1→R pre x→YieldAt Fence.wide 0 Tryz.prog l (encs x) W1 fun e W'=>
   KeepsFrom W.heap.size W1 W'∧((e=.returned (.bool true)∧J (pre++[x]) W'∧Keeps T W1 W')∨(e=.returned (.bool false)∧Jx (pre++[x]) W')))→
  J [] W→
  CallsIn Fence.wide 0 Tryz.prog g (#[.func (.yield l) #[] #[]]++lb) W fun e W'=>(∃ v,e=.returned v)∧((∃ xs,S xs∧J xs W')∨(∃ pre,Jx pre W'))
theorem cell_al {W:World} {p:Addr} {v:Value} (o:Obj) (h:W.cell? p=some v):(W.alloc o).cell? p=some v:=
 (((Below.refl _ W).alloc (Nat.le_refl _) o).cell (World.block_lt_of_cell? W _ h)).trans h
theorem Tryz.info115x:(Tryz.prog.info? 115).map (fun i=>(i.zero,i.size,i.bytes))=some (some (.agg #[.int .u8 0,.string ⟨#[]⟩,.int .i64 0,.slice none 0 0,.int .i64 0]),5,64):=by kernel_rfl
theorem form_seen {W:World} (f:Frm):SeesC (W.alloc (.cells #[.int .u8 f.k,.string f.s,.int .i64 f.n,.slice none 0 0,.int .i64 f.p] 115)) (.slice (some ⟨W.heap.size,0,none⟩) 1 1) 1 5 (fcells (f,.slice none 0 0)):=by
 refine ⟨rfl,_,1,rfl,.inr ⟨W.heap.size,0,rfl,fun j c hc => ?_⟩⟩
 have hj:j<5:=by have:=(List.getElem?_eq_some_iff.1 hc).1;simpa [fcells] using this
 have hm:j=0∨j=1∨j=2∨j=3∨j=4:=by omega
 rcases hm with rfl|rfl|rfl|rfl|rfl<;>simp only [fcells,List.getElem?_cons_zero,List.getElem?_cons_succ,Option.some.injEq] at hc<;>subst hc<;>go_simp
theorem fcells_one (f:Frm):∀ c∈fcells (f,.slice none 0 0),c.oneCell'=true:=by
 intro c hc
 simp only [fcells,List.mem_cons,List.mem_nil_iff,or_false] at hc
 rcases hc with rfl|rfl|rfl|rfl|rfl<;>rfl
@[go_sem] def rr8N:Nat→Oper
 | 0=>⟨some 51,.move (.tmp 0),202, "parse.go:75",#[],none⟩
 | 1=>⟨some 52,.move (.tmp 0),202, "parse.go:75",#[],none⟩
 | 2=>⟨some 53,.nilCheck (.tmp 52),0, "parse.go:75",#[⟨1,.data⟩],none⟩
 | 3=>⟨some 54,.fieldAddr 94 (.tmp 53) 0,0, "parse.go:75",#[⟨2,.data⟩],none⟩
 | 4=>⟨some 55,.load 66 (.tmp 54),66, "parse.go:75",#[⟨3,.data⟩],none⟩
 | 5=>⟨some 56,.load 115 (.tmp 3),115, "parse.go:75",#[],none⟩
 | 6=>⟨some 57,.buildSlice 66 1 #[(0,.tmp 56)],66, "parse.go:75",#[⟨5,.data⟩],none⟩
 | 7=>⟨some 58,.call ⟨.builtin .append,#[.tmp 55,.tmp 57],#[66,66]⟩,66, "parse.go:75",#[⟨4,.data⟩,⟨6,.data⟩],none⟩
 | 8=>⟨some 59,.nilCheck (.tmp 51),0, "parse.go:75",#[⟨0,.data⟩,⟨0,.phase⟩,⟨1,.phase⟩,⟨2,.phase⟩,⟨3,.phase⟩,⟨4,.phase⟩,⟨5,.phase⟩,⟨6,.phase⟩,⟨7,.phase⟩],none⟩
 | 9=>⟨some 60,.fieldAddr 94 (.tmp 59) 0,0, "parse.go:75",#[⟨8,.data⟩,⟨0,.phase⟩,⟨1,.phase⟩,⟨2,.phase⟩,⟨3,.phase⟩,⟨4,.phase⟩,⟨5,.phase⟩,⟨6,.phase⟩,⟨7,.phase⟩],none⟩
 | _=>⟨none,.store 66 (.tmp 60) (.tmp 58),0, "parse.go:75",#[⟨9,.data⟩,⟨7,.data⟩,⟨7,.chain⟩,⟨0,.phase⟩,⟨1,.phase⟩,⟨2,.phase⟩,⟨3,.phase⟩,⟨4,.phase⟩,⟨5,.phase⟩,⟨6,.phase⟩,⟨7,.phase⟩],none⟩
def rr8:Array Oper:=opsA rr8N 10
theorem rr8_0:rr8[0]?=some (rr8N 0):=zaA rr8N 10 (by decide)
theorem rr8_1:rr8[1]?=some (rr8N 1):=zaA rr8N 10 (by decide)
theorem rr8_2:rr8[2]?=some (rr8N 2):=zaA rr8N 10 (by decide)
theorem rr8_3:rr8[3]?=some (rr8N 3):=zaA rr8N 10 (by decide)
theorem rr8_4:rr8[4]?=some (rr8N 4):=zaA rr8N 10 (by decide)
theorem rr8_5:rr8[5]?=some (rr8N 5):=zaA rr8N 10 (by decide)
theorem rr8_6:rr8[6]?=some (rr8N 6):=zaA rr8N 10 (by decide)
theorem rr8_7:rr8[7]?=some (rr8N 7):=zaA rr8N 10 (by decide)
theorem rr8_8:rr8[8]?=some (rr8N 8):=zaA rr8N 10 (by decide)
theorem rr8_9:rr8[9]?=some (rr8N 9):=zaA rr8N 10 (by decide)
theorem rr8_10:rr8[10]?=some (rr8N 10):=zaA rr8N 10 (by decide)
set_option maxRecDepth 100000 in
set_option maxHeartbeats 1500000 in
theorem reg8 {x1 x2 x4 x5 x6 x7 x8 x9 x10 x11 x12 x13 x14 x15 x16 x17 x18 x19 x20 x21 x22 x23 x24 x25 x26 x27 x28 x29 x30 x31 x32 x33 x34 x35 x36 x37 x38 x39 x40 x41 x42 x43 x44 x45 x46 x47 x48 x49 x50 x51 x52 x53 x54 x55 x56 x57 x58 x59 x60 x61:Value} {Q:Exit→Act→World→Prop} {V0:World} {B FB base:Nat} {fv:Value} {fs:List FV} {f:Frm}
  (hS0:V0.drew.cell? ⟨B,0,none⟩=some fv∧V0.drew.cell? ⟨FB,0,none⟩=some (.int .u8 f.k)∧V0.drew.cell? ⟨FB,1,none⟩=some (.string f.s)∧V0.drew.cell? ⟨FB,2,none⟩=some (.int .i64 f.n)∧V0.drew.cell? ⟨FB,3,none⟩=some (.slice none 0 0)∧V0.drew.cell? ⟨FB,4,none⟩=some (.int .i64 f.p)) (hfz:V0.drew.frozen? ⟨B,0,none⟩=false) (hown:V0.drew.ownsRow base 115 5 fv fs.length (flatF fs)) (hr:fs.length≤400) (hbase:base≤V0.drew.heap.size)
  (hg:fv.ownBlock≠some B) (hg2:fv.ownBlock≠some FB)
  (hpan:∀ c (a:Act) w (dd:Tmp) vv,Q (.panic c) (a.put (some dd) vv) w→Q (.panic c) a w)
  (hQ:∀ (W5:World) (u':Value) (t51 t52 t53 t54 t55 t56 t57 t58 t59 t60:Value),(V0.drew.alloc (.cells #[.int .u8 f.k,.string f.s,.int .i64 f.n,.slice none 0 0,.int .i64 f.p] 115)).grownBy W5 fv.ownBlock→W5.ownsRow base 115 5 u' (fs.length+1) (flatF fs++fcells (f,.slice none 0 0))→(u'.ownBlock=fv.ownBlock∨u'.ownBlock=some (V0.drew.heap.size+1))→Q .normal { tmps:=#[.pointer (some ⟨B,0,none⟩),x1,x2,.pointer (some ⟨FB,0,none⟩),x4,x5,x6,x7,x8,x9,x10,x11,x12,x13,x14,x15,x16,x17,x18,x19,x20,x21,x22,x23,x24,x25,x26,x27,x28,x29,x30,x31,x32,x33,x34,x35,x36,x37,x38,x39,x40,x41,x42,x43,x44,x45,x46,x47,x48,x49,x50,t51,t52,t53,t54,t55,t56,t57,t58,t59,t60,x61],defers:=[] } (W5.setCell ⟨B,0,none⟩ u')) :
  (Code.region 8 rr8 true).wp Tryz.prog Q { tmps:=#[.pointer (some ⟨B,0,none⟩),x1,x2,.pointer (some ⟨FB,0,none⟩),x4,x5,x6,x7,x8,x9,x10,x11,x12,x13,x14,x15,x16,x17,x18,x19,x20,x21,x22,x23,x24,x25,x26,x27,x28,x29,x30,x31,x32,x33,x34,x35,x36,x37,x38,x39,x40,x41,x42,x43,x44,x45,x46,x47,x48,x49,x50,x51,x52,x53,x54,x55,x56,x57,x58,x59,x60,x61],defers:=[] } V0:=by
 refine zbE (fun y=>y.cell? ⟨B,0,none⟩=some fv∧y.cell? ⟨FB,0,none⟩=some (.int .u8 f.k)∧y.cell? ⟨FB,1,none⟩=some (.string f.s)∧y.cell? ⟨FB,2,none⟩=some (.int .i64 f.n)∧y.cell? ⟨FB,3,none⟩=some (.slice none 0 0)∧y.cell? ⟨FB,4,none⟩=some (.int .i64 f.p)) 10 Tryz.mixed ?_
 obtain ⟨V,hV⟩:∃ V,V0.drew=V:=⟨_,rfl⟩
 rw [hV] at hS0 hfz hown hbase hQ ⊢
 clear hV
 have HOwn:=hidI hown
 have HQ:=hidI hQ
 have HPan:=hidI hpan
 have hgl:B<V.heap.size:=World.block_lt_of_cell? V _ hS0.1
 have hgl2:FB<V.heap.size:=World.block_lt_of_cell? V _ hS0.2.1
 have hu1:∃ ua ul uc,fv=.slice ua ul uc:=by
  rcases hown.2 with ⟨rfl,_⟩|⟨_,_,_,rfl,_⟩<;>exact ⟨_,_,_,rfl⟩
 obtain ⟨ua,ul,uc,rfl⟩:=hu1
 clear hown hQ hpan
 refine zaF [10] (i:=0) (v:=(.pointer (some ⟨B,0,none⟩))) rr8_0 HPan.out hS0 (fun y hy => ?_) ?_
 ·obtain ⟨hy0,hy1,hy2,hy3,hy4,hy5⟩:=hy
  go_simp
 refine zaF [10] (i:=1) (v:=(.pointer (some ⟨B,0,none⟩))) rr8_1 HPan.out hS0 (fun y hy => ?_) ?_
 ·obtain ⟨hy0,hy1,hy2,hy3,hy4,hy5⟩:=hy
  go_simp
 refine zaF [10] (i:=2) (v:=(.pointer (some ⟨B,0,none⟩))) rr8_2 HPan.out hS0 (fun y hy => ?_) ?_
 ·obtain ⟨hy0,hy1,hy2,hy3,hy4,hy5⟩:=hy
  go_simp
 refine zaF [10] (i:=3) (v:=(.pointer (some ⟨B,0,none⟩))) rr8_3 HPan.out hS0 (fun y hy => ?_) ?_
 ·obtain ⟨hy0,hy1,hy2,hy3,hy4,hy5⟩:=hy
  go_simp
 refine zaF [10] (i:=4) (v:=(.slice ua ul uc)) rr8_4 HPan.out hS0 (fun y hy => ?_) ?_
 ·obtain ⟨hy0,hy1,hy2,hy3,hy4,hy5⟩:=hy
  go_simp
 refine zaF [10] (i:=5) (v:=(.agg #[.int .u8 f.k,.string f.s,.int .i64 f.n,.slice none 0 0,.int .i64 f.p])) rr8_5 HPan.out hS0 (fun y hy => ?_) ?_
 ·obtain ⟨hy0,hy1,hy2,hy3,hy4,hy5⟩:=hy
  go_simp
 have HKS:Hid (∀ y:World,Below V.heap.size V y→y.cell? ⟨B,0,none⟩=some (.slice ua ul uc)∧y.cell? ⟨FB,0,none⟩=some (.int .u8 f.k)∧y.cell? ⟨FB,1,none⟩=some (.string f.s)∧y.cell? ⟨FB,2,none⟩=some (.int .i64 f.n)∧y.cell? ⟨FB,3,none⟩=some (.slice none 0 0)∧y.cell? ⟨FB,4,none⟩=some (.int .i64 f.p)):=hidI fun y hy=>⟨(hy.cell hgl).trans hS0.1,(hy.cell hgl2).trans hS0.2.1,(hy.cell hgl2).trans hS0.2.2.1,(hy.cell hgl2).trans hS0.2.2.2.1,(hy.cell hgl2).trans hS0.2.2.2.2.1,(hy.cell hgl2).trans hS0.2.2.2.2.2⟩
 clear hS0
 refine zbB (rs:=[6]) (by kernel_rfl) (by simp) fun j6 hj6 => ?_
 obtain rfl:j6=6:=by simpa using hj6
 refine zaN rr8_6 rfl fun K1 hK1 => ?_
 unfold Oper.wp
 go_simp
 have hA:Below V.heap.size V (V.alloc (.cells #[.int .u8 f.k,.string f.s,.int .i64 f.n,.slice none 0 0,.int .i64 f.p] 115)):=by exact belowT
 have hSA:=HKS.out _ hA
 refine hK1 _ _ ⟨fun _=>hSA,?_⟩
 clear hK1 K1
 have HO2:=hidI (HOwn.out.alloc (.cells #[.int .u8 f.k,.string f.s,.int .i64 f.n,.slice none 0 0,.int .i64 f.p] 115))
 have HV:=hidI (form_seen (W:=V) f)
 have hfA:(V.alloc (.cells #[.int .u8 f.k,.string f.s,.int .i64 f.n,.slice none 0 0,.int .i64 f.p] 115)).frozen? ⟨B,0,none⟩=false:=(hA.frozen (p:=⟨B,0,none⟩) hgl).trans hfz
 have hszA:(V.alloc (.cells #[.int .u8 f.k,.string f.s,.int .i64 f.n,.slice none 0 0,.int .i64 f.p] 115)).heap.size=V.heap.size+1:=by simp
 obtain ⟨VA,hVA⟩:∃ VA,V.alloc (.cells #[.int .u8 f.k,.string f.s,.int .i64 f.n,.slice none 0 0,.int .i64 f.p] 115)=VA:=⟨_,rfl⟩
 rw [hVA] at HO2 HV hSA hfA hszA ⊢
 have HVA:=hidI hVA
 clear hVA hA
 refine zbB (rs:=[7]) (by kernel_rfl) (by simp) fun j7 hj7 => ?_
 obtain rfl:j7=7:=by simpa using hj7
 refine zaN rr8_7 rfl fun K1 hK1 => ?_
 refine zbK Tryz.underlying66 Tryz.info115x rfl (by decide) (by decide) _ _ rfl base _ fs.length (flatF fs) rfl HO2.out _ 1 (fcells (f,.slice none 0 0)) rfl HV.out (fcells_one f) (by omega) (by omega) ?_
 intro u' W5 hown5 hgrow5 hat5
 have HO5:=hidI hown5
 have HG5:=hidI hgrow5
 have HA5:=hidI hat5
 have hS5:W5.cell? ⟨B,0,none⟩=some (.slice ua ul uc)∧W5.cell? ⟨FB,0,none⟩=some (.int .u8 f.k)∧W5.cell? ⟨FB,1,none⟩=some (.string f.s)∧W5.cell? ⟨FB,2,none⟩=some (.int .i64 f.n)∧W5.cell? ⟨FB,3,none⟩=some (.slice none 0 0)∧W5.cell? ⟨FB,4,none⟩=some (.int .i64 f.p):=⟨hgrow5.cell hSA.1 (fun e=>hg e.symm),hgrow5.cell hSA.2.1 (fun e=>hg2 e.symm),hgrow5.cell hSA.2.2.1 (fun e=>hg2 e.symm),hgrow5.cell hSA.2.2.2.1 (fun e=>hg2 e.symm),hgrow5.cell hSA.2.2.2.2.1 (fun e=>hg2 e.symm),hgrow5.cell hSA.2.2.2.2.2 (fun e=>hg2 e.symm)⟩
 have hf5:W5.frozen? ⟨B,0,none⟩=false:=(World.frozen?_of_block (w:=VA) (a:=⟨B,0,none⟩) (hgrow5.block B (by omega) (fun e=>hg e.symm))).trans hfA
 have hc5:=hS5.1
 obtain ⟨a6,l6,c6,hv6⟩:∃ a6 l6 c6,u'=.slice a6 l6 c6:=by
  rcases hown5.2 with ⟨rfl,_⟩|⟨_,_,_,rfl,_⟩<;>exact ⟨_,_,_,rfl⟩
 subst hv6
 refine hK1 _ _ ⟨fun _=>hS5,?_⟩
 clear hK1 K1 hown5 hgrow5 hat5 hSA
 refine zbB (rs:=[8]) (by kernel_rfl) (by simp) fun j8 hj8 => ?_
 obtain rfl:j8=8:=by simpa using hj8
 refine zaN rr8_8 rfl fun K1 hK1 => ?_
 unfold Oper.wp
 go_simp
 refine hK1 _ _ ⟨fun _=>hS5,?_⟩
 clear hK1 K1
 refine zbB (rs:=[9]) (by kernel_rfl) (by simp) fun j9 hj9 => ?_
 obtain rfl:j9=9:=by simpa using hj9
 refine zaN rr8_9 rfl fun K1 hK1 => ?_
 unfold Oper.wp
 go_simp
 refine hK1 _ _ ⟨fun _=>hS5,?_⟩
 clear hK1 K1
 refine zbN (by kernel_rfl) (by kernel_rfl) ?_ _
 refine zaN rr8_10 rfl fun K1 hK1 => ?_
 unfold Oper.wp
 go_simp
 refine hK1 _ _ ?_
 exact HQ.out W5 _ _ _ _ _ _ _ _ _ _ _ (by rw [HVA.out];exact HG5.out) HO5.out (by first|exact HA5.out|(rw [←hszA];exact HA5.out))
end Go.Proofs.YtmekkhfohmfjkaaGreatDoor
