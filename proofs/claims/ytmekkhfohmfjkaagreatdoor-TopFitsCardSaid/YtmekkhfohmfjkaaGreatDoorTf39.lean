/-
  Part 39 of the proof: Src.
-/
import Derived.Test.YtmekkhfohmfjkaaGreatDoorTf38
import Derived.Laws.CopyOwn
namespace Go.Proofs.YtmekkhfohmfjkaaGreatDoor
open Go.RowKit Go.Deep Go.MapKept
theorem SeesC.mono {w u:World} {n size:Nat} {v:Value} {cs:List Value} (h:SeesC w v n size cs) (hk:∀ (x:Addr) (c:Value),w.cell? x=some c→u.cell? x=some c):SeesC u v n size cs:=by
 obtain ⟨hl,a,cap,rfl,h⟩:=h
 refine ⟨hl,a,cap,rfl,?_⟩
 rcases h with h|⟨b,off,rfl,h⟩
 ·exact .inl h
 ·exact .inr ⟨b,off,rfl,fun j c hj=>hk _ _ (h j c hj)⟩
theorem SeesPv.mono {w u:World} {p:PV} (h:SeesPv w p) (hk:∀ (x:Addr) (c:Value),w.cell? x=some c→u.cell? x=some c):SeesPv u p:=
 ⟨h.d.mono hk,h.x.mono hk,h.s.mono hk,h.m.mono hk,fun x hx=>(h.xk x hx).mono hk,fun x hx=>(h.sa x hx).mono hk,fun x hx=>(h.st x hx).mono hk,fun x hx=>(h.se x hx).mono hk⟩
def KeepP (n:Nat) (w:World) (p:PV):Prop:=∀ u:World,(∀ (x:Addr) (c:Value),x.block≠n→w.cell? x=some c→u.cell? x=some c)→SeesPv u p
theorem KeepP.sees {n:Nat} {w:World} {p:PV} (h:KeepP n w p):SeesPv w p:=h w fun _ _ _ e=>e
theorem KeepP.mono {n:Nat} {w u:World} {p:PV} (h:KeepP n w p) (hk:∀ (x:Addr) (c:Value),x.block≠n→w.cell? x=some c→u.cell? x=some c):KeepP n u p:=
 fun v hv=>h v fun x c hx hc=>hv x c hx (hk x c hx hc)
theorem keep_of_lt {n:Nat} {w u:World} {p:PV} (h:SeesPv w p) (hn:w.heap.size≤n) (hk:∀ (x:Addr) (c:Value),x.block≠n→w.cell? x=some c→u.cell? x=some c):KeepP n u p:=
 fun v hv=>h.mono fun x c hc=>have:=World.block_lt_of_cell? w _ hc;hv x c (by omega) (hk x c (by omega) hc)
theorem zcP {w u:World} {base e size n m:Nat} {v:Value} {cs:List Value} (h:w.ownsRow base e size v n cs) (hm:m<base) (hk:∀ (x:Addr) (c:Value),x.block≠m→w.cell? x=some c→u.cell? x=some c):SeesC u v n size cs:=by
 have hs:=zbA h
 rcases h.2 with ⟨rfl,h0⟩|⟨g,cap,cur,rfl,hg,_⟩
 ·exact ⟨h.1,none,0,by rw [h0],.inl h0⟩
 ·obtain ⟨hl,a,cap',hv,h'⟩:=hs
  refine ⟨hl,a,cap',hv,?_⟩
  rcases h' with h'|⟨b,off,rfl,h'⟩
  ·exact .inl h'
  ·refine .inr ⟨b,off,rfl,fun j c hj=>hk _ _ ?_ (h' j c hj)⟩
   cases hv
   show g≠m
   omega
theorem keep_own {w:World} {base m:Nat} {p:PV} (h:OwnP w base p) (hm:m<base):KeepP m w p:=fun u hk=>{
 d:=zcP (h.own (dRow p) (by simp)) hm hk
 x:=zcP (h.own (xRow p) (by simp)) hm hk
 s:=zcP (h.own (sRow p) (by simp)) hm hk
 m:=zcP (h.own (mRow p) (by simp)) hm hk
 xk:=fun x hx=>zcP (h.own (kRow x) (by simp only [List.mem_cons,List.mem_append,List.mem_map];exact .inr (.inr (.inr (.inr (.inl ⟨x,hx,rfl⟩)))))) hm hk
 sa:=fun x hx=>zcP (h.own ⟨x.av,126,6,x.s.acts.length,flatAc x.s.acts⟩ (by simp only [List.mem_cons,List.mem_append,List.mem_flatMap];exact .inr (.inr (.inr (.inr (.inr ⟨x,hx,by simp [sRows]⟩)))))) hm hk
 st:=fun x hx=>zcP (h.own ⟨x.tv,3,1,x.s.thn.length,intsI x.s.thn⟩ (by simp only [List.mem_cons,List.mem_append,List.mem_flatMap];exact .inr (.inr (.inr (.inr (.inr ⟨x,hx,by simp [sRows]⟩)))))) hm hk
 se:=fun x hx=>zcP (h.own ⟨x.ev,3,1,x.s.els.length,intsI x.s.els⟩ (by simp only [List.mem_cons,List.mem_append,List.mem_flatMap];exact .inr (.inr (.inr (.inr (.inr ⟨x,hx,by simp [sRows]⟩)))))) hm hk }
def pcells (p:PV):Array Value:=#[p.dv,p.xv,p.sv,p.mv]
theorem SeesC.one {w:World} {n size:Nat} {v:Value} {cs:List Value} (h:SeesC w v n size cs):v.oneCell'=true:=by
 obtain ⟨_,a,cap,rfl,_⟩:=h
 rfl
theorem pcells_one {w:World} {p:PV} (h:SeesPv w p):(pcells p).all (·.oneCell')=true:=by
 simp [pcells,h.d.one,h.x.one,h.s.one,h.m.one]
structure SrcS (P:Prg) (W0:World) (c a s:Nat) (q:Nat × PV) (l:Array Bool) (y:World):Prop where
 below:Below W0.heap.size W0 y
 read:l[c]?=some true→q.2.prg=P∧SeesPv y q.2
 made:l[a]?=some true→W0.heap.size≤q.1∧(∃ cs:Array Value,y.heap[q.1]?=some (.cells cs 47 (0,0))∧cs.size=4∧(l[s]?=some true→cs=pcells q.2))∧(l[c]?=some true→KeepP q.1 y q.2)
theorem set_ne {l:Array Bool} {i j:Nat} (h:i≠j):(l.setIfInBounds i true)[j]?=l[j]?:=by rw [Array.getElem?_setIfInBounds,if_neg h]
theorem SrcS.pure {P:Prg} {W0 y:World} {c a s:Nat} {q:Nat × PV} {l:Array Bool} (h:SrcS P W0 c a s q l y) {i:Nat} (h1:i≠c) (h2:i≠a) (h3:i≠s):SrcS P W0 c a s q (l.setIfInBounds i true) y:=by
 refine ⟨h.below,?_,?_⟩
 ·rw [set_ne h1];exact h.read
 ·rw [set_ne h1,set_ne h2,set_ne h3];exact h.made
theorem SrcS.call {P:Prg} {W0 y y':World} {c a s:Nat} {q:Nat × PV} {l:Array Bool} (h:SrcS P W0 c a s q l y) (hca:c≠a) (hcs:c≠s) (hs:l[s]?≠some true) {p':PV} (hp:p'.prg=P) (ho:OwnP y' y.heap.size p') (hb:Below y.heap.size y y'):SrcS P W0 c a s (q.1,p') (l.setIfInBounds c true) y':=by
 refine ⟨h.below.trans (hb.mono h.below.size),fun _=>⟨hp,sees_own ho⟩,?_⟩
 rw [set_ne hca,set_ne hcs]
 intro ha
 obtain ⟨m1,⟨cs,m2,m3,_⟩,_⟩:=h.made ha
 have hlt:q.1<y.heap.size:=(Array.getElem?_eq_some_iff.1 m2).1
 exact ⟨m1,⟨cs,(hb.block _ hlt).trans m2,m3,fun e=>absurd e hs⟩,fun _=>keep_own ho hlt⟩
theorem SrcS.alloc {P:Prg} {W0 y:World} {c a s:Nat} {q:Nat × PV} {l:Array Bool} (h:SrcS P W0 c a s q l y) (hca:c≠a) (has:a≠s) (hs:l[s]?≠some true) (cs:Array Value) (hcs:cs.size=4):SrcS P W0 c a s (y.heap.size,q.2) (l.setIfInBounds a true) (y.alloc (.cells cs 47)):=by
 have hb:Below y.heap.size y (y.alloc (.cells cs 47)):=(Below.refl _ _).alloc (Nat.le_refl _) _
 refine ⟨h.below.trans (hb.mono h.below.size),?_,?_⟩
 ·rw [set_ne (Ne.symm hca)]
  intro hc
  exact ⟨(h.read hc).1,(h.read hc).2.below hb⟩
 ·rw [set_ne (Ne.symm hca),set_ne has]
  intro _
  refine ⟨h.below.size,⟨cs,heap_alloc_last y _,hcs,fun e=>absurd e hs⟩,fun hc=>keep_of_lt (h.read hc).2 (Nat.le_refl _) fun x v _ hv=>(hb.cell (World.block_lt_of_cell? y _ hv)).trans hv⟩
theorem SrcS.store {P:Prg} {W0 y:World} {c a s:Nat} {q:Nat × PV} {l:Array Bool} (h:SrcS P W0 c a s q l y) (_hcs:c≠s) (_has:a≠s) (hc:l[c]?=some true) (ha:l[a]?=some true):SrcS P W0 c a s q (l.setIfInBounds s true) (y.setRow q.1 (pcells q.2)):=by
 obtain ⟨m1,⟨cs,m2,m3,_⟩,m4⟩:=h.made ha
 have hk:=(m4 hc).mono (u:=y.setRow q.1 (pcells q.2)) fun x v hx hv=>(cell_setRow_other y q.1 _ x hx).trans hv
 refine ⟨below_setRow h.below m1 _,fun _=>⟨(h.read hc).1,hk.sees⟩,fun _=>⟨m1,⟨_,setRow_heap y q.1 cs _ _ _ m2,rfl,fun _=>rfl⟩,fun _=>hk⟩⟩
theorem SrcS.start (P:Prg) (W0:World) (c a s n:Nat) (q:Nat × PV):SrcS P W0 c a s q (Array.replicate n false) W0:=by
 have hr:∀ k:Nat,(Array.replicate n false)[k]?≠some true:=by
  intro k
  rw [Array.getElem?_replicate]
  split<;>simp
 exact ⟨Below.refl _ _,fun e=>absurd e (hr _),fun e=>absurd e (hr _)⟩
theorem SrcS.done {P:Prg} {W0 y:World} {c a s:Nat} {q:Nat × PV} {l:Array Bool} (h:SrcS P W0 c a s q l y) (hc:l[c]?=some true) (ha:l[a]?=some true) (hs:l[s]?=some true):q.2.prg=P∧SeesPv y q.2∧Below W0.heap.size W0 y∧W0.heap.size≤q.1∧q.1<y.heap.size∧y.cell? ⟨q.1,0,none⟩=some q.2.dv∧y.cell? ⟨q.1,1,none⟩=some q.2.xv∧y.cell? ⟨q.1,2,none⟩=some q.2.sv∧y.cell? ⟨q.1,3,none⟩=some q.2.mv:=by
 obtain ⟨m1,⟨cs,m2,m3,m5⟩,m4⟩:=h.made ha
 obtain rfl:=m5 hs
 have g:=fun j=>cell_of_row y q.1 j _ _ _ m2
 exact ⟨(h.read hc).1,(h.read hc).2,h.below,m1,(Array.getElem?_eq_some_iff.1 m2).1,g 0,g 1,g 2,g 3⟩
end Go.Proofs.YtmekkhfohmfjkaaGreatDoor
