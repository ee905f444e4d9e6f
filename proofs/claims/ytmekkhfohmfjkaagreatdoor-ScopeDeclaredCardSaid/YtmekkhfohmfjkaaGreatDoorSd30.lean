/-
  Part 30 of the proof: Into, WalkS.
-/
import Derived.Test.YtmekkhfohmfjkaaGreatDoorSd29
import Derived.Test.YtmekkhfohmfjkaaGreatDoorSd05
import Derived.Sort.LoopGhostIn
import Derived.TacticsInMore
namespace Go.Proofs.YtmekkhfohmfjkaaGreatDoor
open Go.RowKit Go.Deep Go.MapKept
theorem behind_any (own p n:Int) (w:World):Calls Tryz.prog 117 #[.int .i64 own,.int .i64 p,.int .i64 n] w fun e w'=>e=.returned (.bool (decide (own<p) && decide (p<n)))∧w=w':=by
 by_cases h1:own<p
 ·by_cases h2:p<n
  ·have q1:decide (own<p)=true:=by simp [h1]
   have q2:decide (p<n)=true:=by simp [h2]
   rw [q1,q2]
   go_enter Tryz.func117,Tryz.ntmps117
   go_wp2
   go_ret
   exact ⟨rfl,rfl⟩
  ·have q1:decide (own<p)=true:=by simp [h1]
   have q2:decide (p<n)=false:=by simp [h2]
   rw [q1,q2]
   go_enter Tryz.func117,Tryz.ntmps117
   go_wp2
   go_ret
   exact ⟨rfl,rfl⟩
 ·have q1:decide (own<p)=false:=by simp [h1]
  rw [q1]
  go_enter Tryz.func117,Tryz.ntmps117
  go_wp2
  go_ret
  exact ⟨rfl,rfl⟩
abbrev encP (x:Int × Int):Array Value:=#[.int .i64 x.1,.int .i64 x.2]
abbrev fn48 (Bl Bo By Bi:Nat):Value:=.func (.func 116) #[] #[.pointer (some ⟨Bl,0,none⟩),.pointer (some ⟨Bo,0,none⟩),.pointer (some ⟨By,0,none⟩),.pointer (some ⟨Bi,0,none⟩)]
structure Env (fv tv:Value) (ms:List MV) (top:List Int) (l Bl Bo By Bi:Nat) (W:World) (told:Int):Prop where
 fl:W.cell? ⟨Bl,0,none⟩=some fv
 sm:SeesM W fv ms
 tp:SeesC W tv top.length 1 (intsI top)
 to:W.cell? ⟨Bo,0,none⟩=some (.int .i64 told)
 tf:W.frozen? ⟨Bo,0,none⟩=false
 yi:W.cell? ⟨By,0,none⟩=some (.func (.yield l) #[] #[])
 it:W.cell? ⟨Bi,0,none⟩=some (fn48 Bl Bo By Bi)
def DV (fv tv:Value) (ms:List MV) (top:List Int) (v:Value) (n:Nat):Prop:=(v=fv∧n=ms.length)∨(v=tv∧n=top.length)∨∃ x∈ms,v=x.2∧n=x.1.kids.length
def Dat (fv tv:Value) (ms:List MV) (top:List Int) (Bl Bo By Bi k:Nat):Prop:=k=Bl∨k=Bo∨k=By∨k=Bi∨∃ v n,DV fv tv ms top v n∧0<n∧v.ownBlock=some k
theorem block_same {Tb:Nat→Prop} {W W':World} (h:Keeps (fun k o=>o.isCells=true∧Tb k) W W') {p:Addr} {v:Value} (hc:W.cell? p=some v) (ht:Tb p.block):W'.heap[p.block]?=W.heap[p.block]?:=by
 obtain ⟨o,ho,hi⟩:=cells_of_cell hc
 rw [h.2 p.block o ⟨hi,ht⟩ ho,ho]
theorem SeesC.keep {Tb:Nat→Prop} {W W':World} {n size:Nat} {v:Value} {cs:List Value} (h:SeesC W v n size cs) (hk:Keeps (fun k o=>o.isCells=true∧Tb k) W W') (ht:0<n→∀ k,v.ownBlock=some k→Tb k):SeesC W' v n size cs:=by
 obtain ⟨hl,a,cap,rfl,h⟩:=h
 refine ⟨hl,a,cap,rfl,?_⟩
 by_cases hn:n=0
 ·exact .inl hn
 rcases h with h|⟨b,off,rfl,h2⟩
 ·exact .inl h
 ·exact .inr ⟨b,off,rfl,fun j c hc=>(World.cell?_of_block (w:=W) (block_same hk (h2 j c hc) (ht (by omega) b rfl))).trans (h2 j c hc)⟩
theorem SeesC.grow {w w':World} {row:Option Nat} {n size:Nat} {v:Value} {cs:List Value} (h:SeesC w v n size cs) (hg:w.grownBy w' row) (hne:0<n→v.ownBlock≠row):SeesC w' v n size cs:=by
 by_cases hn:n=0
 ·obtain ⟨hl,a,cap,rfl,_⟩:=h
  exact ⟨hl,a,cap,rfl,.inl hn⟩
 ·exact h.grown hg (hne (by omega))
section
variable {fv tv : Value} {ms : List MV} {top : List Int} {l Bl Bo By Bi : Nat} {W W' : World} {told : Int}
theorem Env.keep {Tb:Nat→Prop} (h:Env fv tv ms top l Bl Bo By Bi W told) (hk:Keeps (fun k o=>o.isCells=true∧Tb k) W W') (hT:∀ k,Dat fv tv ms top Bl Bo By Bi k→Tb k):Env fv tv ms top l Bl Bo By Bi W' told:=by
 have c:∀ {p:Addr} {v:Value},W.cell? p=some v→Tb p.block→W'.cell? p=some v:=fun hc ht=>(World.cell?_of_block (w:=W) (block_same hk hc ht)).trans hc
 have d:∀ {v:Value} {n:Nat},DV fv tv ms top v n→0<n→∀ k,v.ownBlock=some k→Tb k:=fun hv hn k e=>hT k (.inr (.inr (.inr (.inr ⟨_,_,hv,hn,e⟩))))
 refine ⟨c h.fl (hT _ (.inl rfl)),⟨h.sm.row.keep hk (d (.inl ⟨rfl,rfl⟩)),fun i x hx=>(h.sm.kid i x hx).keep hk (d (.inr (.inr ⟨x,List.mem_of_getElem? hx,rfl,rfl⟩)))⟩,
  h.tp.keep hk (d (.inr (.inl ⟨rfl,rfl⟩))),c h.to (hT _ (.inr (.inl rfl))),?_,c h.yi (hT _ (.inr (.inr (.inl rfl)))),c h.it (hT _ (.inr (.inr (.inr (.inl rfl)))))⟩
 exact (World.frozen?_of_block (w:=W) (a:=⟨Bo,0,none⟩) (block_same hk h.to (hT _ (.inr (.inl rfl))))).trans h.tf
theorem Env.drew (h:Env fv tv ms top l Bl Bo By Bi W told):Env fv tv ms top l Bl Bo By Bi W.drew told:=⟨h.fl,⟨h.sm.row,h.sm.kid⟩,h.tp,h.to,h.tf,h.yi,h.it⟩
theorem Env.tell (h:Env fv tv ms top l Bl Bo By Bi W told) (hl:Bl≠Bo) (hy:By≠Bo) (hi:Bi≠Bo) (hd:∀ v n,DV fv tv ms top v n→0<n→v.ownBlock≠some Bo) (t':Int):Env fv tv ms top l Bl Bo By Bi (W.setCell ⟨Bo,0,none⟩ (.int .i64 t')) t':=by
 have c:∀ {p:Addr} {v:Value},W.cell? p=some v→p.block≠Bo→(W.setCell ⟨Bo,0,none⟩ (.int .i64 t')).cell? p=some v:=fun hc hne=>(World.cell?_of_block (w:=W) (Below.heap_setCell W ⟨Bo,0,none⟩ _ _ hne)).trans hc
 refine ⟨c h.fl hl,⟨h.sm.row.grow (zcB W Bo 0 _) (hd _ _ (.inl ⟨rfl,rfl⟩)),fun i x hx=>(h.sm.kid i x hx).grow (zcB W Bo 0 _) (hd _ _ (.inr (.inr ⟨x,List.mem_of_getElem? hx,rfl,rfl⟩)))⟩,
  h.tp.grow (zcB W Bo 0 _) (hd _ _ (.inr (.inl ⟨rfl,rfl⟩))),World.cell?_setCell_same W _ _ h.to,?_,c h.yi hy,c h.it hi⟩
 exact (World.frozen?_setCell _ _ _ _).trans h.tf
end
def PlaceV (tv:Value) (ms:List MV) (top:List Int) (pv:Value) (ps:List Int):Prop:=(pv=tv∧ps=top)∨∃ (i:Nat) (x:MV),ms[i]?=some x∧pv=x.2∧ps=x.1.kids
theorem Env.places {fv tv:Value} {ms:List MV} {top:List Int} {l Bl Bo By Bi:Nat} {W:World} {told:Int} (h:Env fv tv ms top l Bl Bo By Bi W told) {pv:Value} {ps:List Int} (hp:PlaceV tv ms top pv ps):SeesC W pv ps.length 1 (intsI ps):=by
 rcases hp with ⟨rfl,rfl⟩|⟨i,x,hx,rfl,rfl⟩
 ·exact h.tp
 ·exact h.sm.kid i x hx
def IPost (fv tv:Value) (ms:List MV) (top:List Int) (l Bl Bo By Bi:Nat) (J Jx:List (Int × Int)→World→Prop) (pre:List (Int × Int)) (t':Int) (ok:Bool) (bb:Bool) (W':World):Prop:=
 (bb=ok∧J pre W'∧Env fv tv ms top l Bl Bo By Bi W' t')∨(bb=false∧∃ q,Jx q W')
def IRes (fv tv:Value) (ms:List MV) (top:List Int) (l Bl Bo By Bi:Nat) (J Jx:List (Int × Int)→World→Prop) (pre:List (Int × Int)) (t':Int) (ok:Bool) (e:Ending) (W':World):Prop:=
 ∃ bb,e=.returned (.bool bb)∧IPost fv tv ms top l Bl Bo By Bi J Jx pre t' ok bb W'
set_option maxRecDepth 100000 in
set_option maxHeartbeats 4000000 in
theorem into_any (fv tv:Value) (ms:List MV) (top:List Int) (l Bl Bo By Bi N0:Nat) (Tb:Nat→Prop) (hT:∀ k,Dat fv tv ms top Bl Bo By Bi k→Tb k)
  (hl:Bl≠Bo) (hy:By≠Bo) (hi:Bi≠Bo) (hd:∀ v n,DV fv tv ms top v n→0<n→v.ownBlock≠some Bo)
  (hkl:∀ x∈ms,x.1.kids.length≤4611686018427387904) (htl:top.length≤4611686018427387904) (hml:ms.length≤4611686018427387904)
  (J Jx:List (Int × Int)→World→Prop) (hJd:∀ pre X,J pre X→J pre X.drew) (hJo:∀ pre X u,J pre X→J pre (X.setCell ⟨Bo,0,none⟩ u)) (all:List (Int × Int))
  (hY:∀ pre x W1,J pre W1→(pre++[x]) <+: all→YieldAt Fence.wide 0 Tryz.prog l (encP x) W1 fun e W'=>
   KeepsFrom N0 W1 W'∧((e=.returned (.bool true)∧J (pre++[x]) W'∧Keeps (fun k o=>o.isCells=true∧Tb k) W1 W')∨(e=.returned (.bool false)∧Jx (pre++[x]) W'))) :
  ∀ (m:Nat) (own up told:Int) (pv:Value) (ps:List Int) (t':Int) (ys:List (Int × Int)) (ok:Bool) (pre:List (Int × Int)) (W:World),((ms.length:Int)-own).toNat<m→0≤told→told≤401 → -1≤own→
   WalkR (kidsOf ms) ms.length told up own ps t' ys ok→PlaceV tv ms top pv ps→(∃ rest,pre++ys++rest=all)→J pre W→Env fv tv ms top l Bl Bo By Bi W told→
   CallsIn Fence.wide 0 Tryz.prog 116 #[.int .i64 up,.int .i64 own,pv,.pointer (some ⟨Bl,0,none⟩),.pointer (some ⟨Bo,0,none⟩),.pointer (some ⟨By,0,none⟩),.pointer (some ⟨Bi,0,none⟩)] W fun e W'=>IRes fv tv ms top l Bl Bo By Bi J Jx (pre++ys) t' ok e W':=by
 have HY:=hidI hY
 have HJd:=hidI hJd
 have HJo:=hidI hJo
 have HD:=hidI hd
 have HT:=hidI hT
 have HKL:=hidI hkl
 have CB:=hidI behind_any
 clear hY hJd hJo hd hT hkl
 intro m
 induction m with
 | zero=>intro own up told pv ps t' ys ok pre W hm;omega
 | succ m IH=>
  have HIH:=hidI IH
  clear IH
  intro own up told pv ps t' ys ok pre W hm ht0 ht1 hown hW hP hall hJ hE
  have HP:=hidI hP
  have HJ:=hidI hJ
  have HE:=hidI hE
  have HW:=hidI hW
  have HA:=hidI hall
  obtain ⟨hpl,pa,pc,rfl,_⟩:=hE.places hP
  have hpsl:ps.length≤4611686018427387904:=by
   rcases hP with ⟨_,rfl⟩|⟨i,x,hx,_,rfl⟩
   ·exact htl
   ·exact HKL.out x (List.mem_of_getElem? hx)
  clear hW hP hall hJ hE hpl
  refine callsIn_of_wp Tryz.func116 rfl trivial ?_ rfl
  simp only [Tryz.ntmps116,List.size_toArray,List.length_cons,List.length_nil,Nat.reduceAdd,Nat.reduceSub,Array.replicate_succ,Array.replicate_zero,List.push_toArray,List.append_toArray,List.nil_append,List.cons_append]
  gi_wp2
  gi_loopg [15] ps.length (fun g s15 wx=>∃ (i:Nat) (told1:Int) (ysr pre1:List (Int × Int)),i+g=ps.length∧s15=.int .i64 (i:Int)∧0≤told1∧told1≤401∧Hid (WalkR (kidsOf ms) ms.length told1 up own (ps.drop i) t' ysr ok)∧Hid (pre++ys=pre1++ysr)∧Hid (J pre1 wx)∧Hid (Env fv tv ms top l Bl Bo By Bi wx told1))
  case atStart=>exact ⟨0,told,ys,pre,by omega,rfl,ht0,ht1,HW.out,hidI rfl,HJ,HE⟩
  case round=>
   obtain ⟨i,told1,ysr,pre1,hig,rfl,hu0,hu1,HW1,HEQ,HJ1,HE1⟩:=hrel
   cases gk with
   | zero=>
    have hil:i=ps.length:=by omega
    have hw:=HW1.out
    rw [hil,List.drop_length] at hw
    have e1:¬ ((i:Int)<(ps.length:Int)):=by omega
    cases hw with
    | done=>
     have heq:=HEQ.out
     rw [List.append_nil] at heq
     gi_wp2
     go_ret
     exact ⟨true,rfl,.inl ⟨rfl,by first|exact HJ1.out|(rw [heq];exact HJ1.out),HE1.out⟩⟩
   | succ g=>
    have hil:i<ps.length:=by omega
    have e1:(i:Int)<(ps.length:Int):=by omega
    have e2:(0:Int)≤(i:Int):=by omega
    have e3:((i:Int)).toNat=i:=by omega
    have hgi:ps[i]?=some ps[i]:=List.getElem?_eq_getElem hil
    obtain ⟨p,hp⟩:∃ p,ps[i]=p:=⟨_,rfl⟩
    rw [hp] at hgi
    have hdr:ps.drop i=p::ps.drop (i+1):=by rw [List.drop_eq_getElem_cons hil,hp]
    have HW2:=hidI HW1.out
    rw [hdr] at HW2
    obtain ⟨_,pa',pc',hpv,hpcs⟩:=HE1.out.places HP.out
    cases hpv
    rcases hpcs with h0|⟨pb,po,rfl,hpc⟩
    ·omega
    have cp:=hpc i _ (zcF hgi)
    have cl:=HE1.out.fl
    have ct:=HE1.out.to
    obtain ⟨_,fa,fc,hfv,_⟩:=HE1.out.sm.row
    rw [hfv] at cl
    clear hpc hgi hp hdr
    by_cases hin:own<p∧p<(ms.length:Int)
    ·obtain ⟨pn,rfl⟩:∃ pn:Nat,p=(pn:Int):=⟨p.toNat,by omega⟩
     have hpl:pn<ms.length:=by omega
     have hxn:ms[pn]?=some ms[pn]:=List.getElem?_eq_getElem hpl
     obtain ⟨x,hx⟩:∃ x,ms[pn]=x:=⟨_,rfl⟩
     rw [hx] at hxn
     have hkid:kidsOf ms (pn:Int)=x.1.kids:=by unfold kidsOf;rw [Int.toNat_natCast,hxn]
     clear hx
     obtain ⟨fb,fo,hfa⟩:∃ fb fo,fa=some ⟨fb,fo,none⟩:=by
      obtain ⟨_,a',c',hv',h0'|⟨b',o',ha',_⟩⟩:=HE1.out.sm.row
      ·omega
      ·rw [hfv] at hv';cases hv';exact ⟨b',o',ha'⟩
     subst hfa
     have q:(decide (own<(pn:Int)) && decide ((pn:Int)<(ms.length:Int)))=true:=by simp [hin.1,hin.2]
     have CB1:Hid (∀ w:World,Calls Tryz.prog 117 #[.int .i64 own,.int .i64 (pn:Int),.int .i64 (ms.length:Int)] w fun e w'=>e=.returned (.bool true)∧w=w'):=hidI fun w=>by have:=CB.out own pn ms.length w;rwa [q] at this
     have hw:=HW2.out
     cases hw with
     | skip hno _=>exact absurd hin hno
     | full _ _ h4=>
      have heq:=HEQ.out
      rw [List.append_nil] at heq
      have q400:decide (400<t')=true:=by simp;omega
      clear q
      gi_wp2_with (refine ⟨trivial,rfl,?_⟩;gi_at_call 117;refine (callsIn_wide.2 (CB1.out _)).mono ?_;rintro e w' ⟨rfl,rfl⟩)
      refine ⟨fun f hf=>(by cases hf),?_⟩
      gi_wp2
      go_ret
      exact ⟨false,rfl,.inl ⟨rfl,by first|exact HJ1.out|(rw [heq];exact HJ1.out),HE1.out⟩⟩
     | @cut _ _ _ _ _ _ ys1 _ _ h4 hk1=>
      rw [hkid] at hk1
      have hu:¬ 400<told1:=by omega
      have hpre:(pre1++[(up,(pn:Int))]) <+: all:=by
       obtain ⟨rest,hrest⟩:=HA.out
       rw [HEQ.out] at hrest
       exact ⟨ys1++rest,by rw [←hrest];simp⟩
      obtain ⟨fn,tmps,assign,body,hyy,hYR⟩:=HY.out pre1 (up,(pn:Int)) wr HJ1.out hpre
      dsimp only [encP] at hyy
      have cy:=HE1.out.yi
      have q400:decide (400<told1)=false:=by simp;omega
      have HK:=hidI hk1
      clear hk1 q hpre
      gi_wp2_with (refine ⟨trivial,rfl,?_⟩;gi_at_call 117;refine (callsIn_wide.2 (CB1.out _)).mono ?_;rintro e w' ⟨rfl,rfl⟩)
      refine ⟨rfl,hYR.mono ?_⟩
      rintro e W3 ⟨hkf,⟨rfl,hJ3,hk3⟩|⟨rfl,hJx3⟩⟩
      ·have HE3:=hidI (HE1.out.keep hk3 HT.out)
       have HJ3:=hidI hJ3
       have ct3:=HE3.out.to
       have cf3:=HE3.out.tf
       have wt:IntKind.i64.wrap (told1+1)=told1+1:=by rw [IntKind.wrap_i64];omega
       have HE4:=hidI ((HE3.out.tell hl hy hi HD.out (told1+1)).drew)
       have HJ4:=hidI (HJd.out _ _ (HJo.out _ _ (.int .i64 (told1+1)) HJ3.out))
       have HC:=hidI (callsIn_wide.1 (HIH.out (pn:Int) told1 (told1+1) x.2 x.1.kids t' ys1 false (pre1++[(up,(pn:Int))]) (W3.setCell ⟨Bo,0,none⟩ (.int .i64 (told1+1))).drew (by omega) (by omega) (by omega) (by omega) HK.out (.inr ⟨pn,x,hxn,rfl,rfl⟩) (by
        obtain ⟨rest,hrest⟩:=HA.out
        rw [HEQ.out] at hrest
        exact ⟨rest,by rw [←hrest];simp⟩) HJ4.out HE4.out))
       obtain ⟨_,ka,kc,hkv,_⟩:=HE4.out.sm.kid pn x hxn
       rw [hkv] at HC
       have hk5:(W3.setCell ⟨Bo,0,none⟩ (.int .i64 (told1+1))).drew.cell? ⟨fb,fo+pn*5+3,none⟩=some (.slice ka x.1.kids.length kc):=by
        obtain ⟨_,a',c',hv',h0'|⟨b',o',ha',hc'⟩⟩:=HE4.out.sm.row
        ·omega
        ·rw [ha'] at hv'
         rw [hfv] at hv'
         cases hv'
         have:=hc' (pn*5+3) x.2 (by rw [flatM_get ms pn 3 x hxn (by omega)];rfl)
         rw [←Nat.add_assoc] at this
         rw [this,hkv]
       have cl4:=HE4.out.fl
       rw [hfv] at cl4
       have HS:=hidI (And.intro HE4.out.it (And.intro HE4.out.to (And.intro cl4 hk5)))
       clear hkf hJ3 hk3 hYR hyy cy hk5 cl4
       gi_wp2
       refine regW (By:=By) (td:=told1) (pn:=pn) (nf:=ms.length) hpl hu0 (by omega) (PW:=fun bb W'=>IPost fv tv ms top l Bl Bo By Bi J Jx (pre1++[(up,(pn:Int))]++ys1) t' false bb W') HS.out HC.out ?_
       intro W5 bb t36 t37 t38 t39 t40 t41 t42 t43 t44 t45 hPW
       have HPW:=hidI hPW
       clear hPW
       obtain rfl:bb=false:=by rcases HPW.out with ⟨h,_⟩|⟨h,_⟩<;>exact h
       gi_wp2
       go_ret
       rcases HPW.out with ⟨_,hJ5,hE5⟩|⟨_,hx5⟩
       ·exact ⟨false,rfl,.inl ⟨rfl,by rw [HEQ.out];simpa using hJ5,hE5⟩⟩
       ·exact ⟨false,rfl,.inr ⟨rfl,hx5⟩⟩
      ·have HJ3:=hidI hJx3
       clear hkf hJx3 hYR hyy cy
       gi_wp2
       go_ret
       exact ⟨false,rfl,.inr ⟨rfl,_,HJ3.out⟩⟩
     | @more _ _ _ _ t1 _ _ ys1 ys2 _ _ _ h4 hk1 hk2=>
      rw [hkid] at hk1
      have hu:¬ 400<told1:=by omega
      have hpre:(pre1++[(up,(pn:Int))]) <+: all:=by
       obtain ⟨rest,hrest⟩:=HA.out
       rw [HEQ.out] at hrest
       exact ⟨(ys1++ys2)++rest,by rw [←hrest];simp⟩
      obtain ⟨fn,tmps,assign,body,hyy,hYR⟩:=HY.out pre1 (up,(pn:Int)) wr HJ1.out hpre
      dsimp only [encP] at hyy
      have cy:=HE1.out.yi
      have q400:decide (400<told1)=false:=by simp;omega
      have HK:=hidI hk1
      have HK2:=hidI hk2
      clear hk1 hk2 q hpre
      gi_wp2_with (refine ⟨trivial,rfl,?_⟩;gi_at_call 117;refine (callsIn_wide.2 (CB1.out _)).mono ?_;rintro e w' ⟨rfl,rfl⟩)
      refine ⟨rfl,hYR.mono ?_⟩
      rintro e W3 ⟨hkf,⟨rfl,hJ3,hk3⟩|⟨rfl,hJx3⟩⟩
      ·have HE3:=hidI (HE1.out.keep hk3 HT.out)
       have HJ3:=hidI hJ3
       have ct3:=HE3.out.to
       have cf3:=HE3.out.tf
       have wt:IntKind.i64.wrap (told1+1)=told1+1:=by rw [IntKind.wrap_i64];omega
       have HE4:=hidI ((HE3.out.tell hl hy hi HD.out (told1+1)).drew)
       have HJ4:=hidI (HJd.out _ _ (HJo.out _ _ (.int .i64 (told1+1)) HJ3.out))
       have HC:=hidI (callsIn_wide.1 (HIH.out (pn:Int) told1 (told1+1) x.2 x.1.kids t1 ys1 true (pre1++[(up,(pn:Int))]) (W3.setCell ⟨Bo,0,none⟩ (.int .i64 (told1+1))).drew (by omega) (by omega) (by omega) (by omega) HK.out (.inr ⟨pn,x,hxn,rfl,rfl⟩) (by
        obtain ⟨rest,hrest⟩:=HA.out
        rw [HEQ.out] at hrest
        exact ⟨ys2++rest,by rw [←hrest];simp⟩) HJ4.out HE4.out))
       obtain ⟨_,ka,kc,hkv,_⟩:=HE4.out.sm.kid pn x hxn
       rw [hkv] at HC
       have hk5:(W3.setCell ⟨Bo,0,none⟩ (.int .i64 (told1+1))).drew.cell? ⟨fb,fo+pn*5+3,none⟩=some (.slice ka x.1.kids.length kc):=by
        obtain ⟨_,a',c',hv',h0'|⟨b',o',ha',hc'⟩⟩:=HE4.out.sm.row
        ·omega
        ·rw [ha'] at hv'
         rw [hfv] at hv'
         cases hv'
         have:=hc' (pn*5+3) x.2 (by rw [flatM_get ms pn 3 x hxn (by omega)];rfl)
         rw [←Nat.add_assoc] at this
         rw [this,hkv]
       have cl4:=HE4.out.fl
       rw [hfv] at cl4
       have HS:=hidI (And.intro HE4.out.it (And.intro HE4.out.to (And.intro cl4 hk5)))
       clear hkf hJ3 hk3 hYR hyy cy hk5 cl4
       gi_wp2
       refine regW (By:=By) (td:=told1) (pn:=pn) (nf:=ms.length) hpl hu0 (by omega) (PW:=fun bb W'=>IPost fv tv ms top l Bl Bo By Bi J Jx (pre1++[(up,(pn:Int))]++ys1) t1 true bb W') HS.out HC.out ?_
       intro W5 bb t36 t37 t38 t39 t40 t41 t42 t43 t44 t45 hPW
       have HPW:=hidI hPW
       clear hPW
       cases bb with
       | false=>
        gi_wp2
        go_ret
        rcases HPW.out with ⟨h,_⟩|⟨_,hx5⟩
        ·cases h
        ·exact ⟨false,rfl,.inr ⟨rfl,hx5⟩⟩
       | true=>
        gi_wp2
        go_roundg g
        case measure=>omega
        case rel=>
         rcases HPW.out with ⟨_,hJ5,hE5⟩|⟨h,_⟩
         ·exact ⟨i+1,t1,ys2,pre1++[(up,(pn:Int))]++ys1,by omega,by go_num,by have:=HK.out.told;omega,HK.out.most (by omega),HK2,hidI (by rw [HEQ.out];simp),hidI hJ5,hidI hE5⟩
         ·cases h
      ·have HJ3:=hidI hJx3
       clear hkf hJx3 hYR hyy cy
       gi_wp2
       go_ret
       exact ⟨false,rfl,.inr ⟨rfl,_,HJ3.out⟩⟩
    ·have q:(decide (own<p) && decide (p<(ms.length:Int)))=false:=by
      rw [Bool.and_eq_false_iff]
      by_cases h1:own<p
      ·exact .inr (by simp;exact Int.not_lt.1 fun h2=>hin ⟨h1,h2⟩)
      ·exact .inl (by simp;omega)
     have CB1:Hid (∀ w:World,Calls Tryz.prog 117 #[.int .i64 own,.int .i64 p,.int .i64 (ms.length:Int)] w fun e w'=>e=.returned (.bool false)∧w=w'):=hidI fun w=>by have:=CB.out own p ms.length w;rwa [q] at this
     have hw:=HW2.out
     cases hw with
     | skip _ hr=>
      have HR:=hidI hr
      clear hr q
      gi_wp2_with (refine ⟨trivial,rfl,?_⟩;gi_at_call 117;refine (callsIn_wide.2 (CB1.out _)).mono ?_;rintro e w' ⟨rfl,rfl⟩)
      go_roundg g
      case measure=>omega
      case rel=>exact ⟨i+1,told1,ysr,pre1,by omega,by go_num,hu0,hu1,HR,HEQ,HJ1,HE1⟩
     | full h1 h2=>exact absurd ⟨h1,h2⟩ hin
     | cut h1 h2=>exact absurd ⟨h1,h2⟩ hin
     | more h1 h2=>exact absurd ⟨h1,h2⟩ hin
open Go.RowKit Go.Shelf
attribute [local go_sem] Oper.semAt_some
abbrev TW (Tb:Nat→Prop):Nat→Obj→Prop:=fun k o=>o.isCells=true∧Tb k
theorem not_loop (Tb:Nat→Prop) {D:Nat}:∀ (k:Nat) (r:Loop),D≤k→¬ TW Tb k (.loop r):=fun _ _ _ h=>by cases h.1
def SeqW (g:Nat) (lb:Array Value) (Tb:Nat→Prop) (all:List (Int × Int)) (w:World):Prop:=
 ∀ (l:Nat) (J Jx:List (Int × Int)→World→Prop) (W:World),Below w.heap.size w W→W.heap.size=w.heap.size+2→OwnFrom W.heap.size J→
  (∀ pre X u k,w.heap.size+2≤k→k<w.heap.size+5→J pre X→J pre (X.setCell ⟨k,0,none⟩ u))→
  (∀ pre x W1,J pre W1→(pre++[x]) <+: all→YieldAt Fence.wide 0 Tryz.prog l (encP x) W1 fun e W'=>
   KeepsFrom W.heap.size W1 W'∧((e=.returned (.bool true)∧J (pre++[x]) W'∧Keeps (TW Tb) W1 W')∨(e=.returned (.bool false)∧Jx (pre++[x]) W')))→
  J [] W→
  CallsIn Fence.wide 0 Tryz.prog g (#[.func (.yield l) #[] #[]]++lb) W fun e W'=>(∃ v,e=.returned v)∧(J all W'∨(∃ pre,Jx pre W'))
set_option maxHeartbeats 1000000 in
theorem range_walk {g:Operand} {ps:Array Tmp} {assign body:Code} {Q:Exit→Act→World→Prop} {a:Act} {w:World} {gf:Nat} {lb:Array Value} (hg:a.eval g=.func (.func gf) #[] lb)
  (eg:∀ args w,(callFunc gf args).run Tryz.prog w=.ok (.enter gf args) w) {Tb:Nat→Prop} {all:List (Int × Int)} (hseq:SeqW gf lb Tb all w) (hps:ps.size=2)
  (I Ix:List (Int × Int)→World→Prop) (hI:OwnFrom w.heap.size I) (hIo:∀ pre X u k,w.heap.size+2≤k→k<w.heap.size+5→I pre X→I pre (X.setCell ⟨k,0,none⟩ u)) (hIx:OwnFrom w.heap.size Ix) (h0:I [] w) (Ax:List (Int × Int) × (Int × Int) × Act→World→Prop) (hAx:OwnFrom w.heap.size Ax)
  (hassign:∀ (l:Nat) (pre:List (Int × Int)) (x:Int × Int) (W:World) (K:Act→World→Prop),I pre W→(∀ a' W',KeepsFrom w.heap.size W W'→Keeps (TW Tb) W W'→Ax (pre,x,a') W'→K a' W')→
   assign.wpIn (WR l) 0 Tryz.prog (Exit.then K (fun _ _ _=>False)) { tmps:=(ps.zip (encP x)).foldl (fun t (p,v)=>t.setIfInBounds p v) a.tmps,defers:=[] } W)
  (hbody:∀ (l:Nat) (pre:List (Int × Int)) (x:Int × Int) (a':Act) (W:World),(pre++[x]) <+: all→Ax (pre,x,a') W→body.wpIn (WR l) 0 Tryz.prog (After w.heap.size (TW Tb) I Ix (pre++[x]) W) a' W)
  (hdone:∀ (D:Nat) (xs:List (Int × Int)) (W:World),w.heap.size≤D→xs=all→I xs W→W.heap[D]?=some (.deferred (some []))→Q .normal { a with defers:={ target:=.collected D,args:=#[] }::a.defers } W)
  (hstop:∀ (D:Nat) (pre:List (Int × Int)) (W:World),w.heap.size≤D→Ix pre W→W.heap[D]?=some (.deferred (some []))→Code.ret.wpIn Fence.wide 0 Tryz.prog Q { a with defers:={ target:=.collected D,args:=#[] }::a.defers } W) :
  (Code.rangeFunc g ps assign body).wpIn Fence.wide 0 Tryz.prog Q a w:=by
 refine wpIn_rangeFunc fun fn _ => ?_
 obtain ⟨rec,hrec⟩:∃ rec:LoopState→Option Code→Loop,rec=fun st pe=>{ state:=st,pending:=pe,fn:=fn,tmps:=a.tmps,params:=ps,assign:=assign,body:=body,defers:=w.heap.size }:=⟨_,rfl⟩
 obtain ⟨W1,hW1⟩:∃ W1,(w.alloc (.deferred (some []))).alloc (.loop (rec .ready none))=W1:=⟨_,rfl⟩
 have hs1:W1.heap.size=w.heap.size+2:=by rw [←hW1];simp
 have hb1:Books W1 w.heap.size (rec .ready none):=by
  rw [←hW1]
  refine ⟨?_,(Below.heap_alloc _ _ _ (by simp)).trans (World.alloc_heap_new w _)⟩
  have:=World.alloc_heap_new (w.alloc (.deferred (some []))) (.loop (rec .ready none))
  rwa [World.size_alloc] at this
 have hi1:I [] W1:=by rw [←hW1];exact hI.alloc _ (hI.alloc _ h0)
 have hw1:Below w.heap.size w W1:=by rw [←hW1];exact ((Below.refl _ w).alloc (Nat.le_refl _) _).alloc (by simp) _
 refine ⟨w.heap.size+1,[{ target:=.collected w.heap.size,args:=#[] }],W1,{ target:=.fn (.func gf) lb,args:=#[.func (.yield (w.heap.size+1)) #[] #[]] },W1,gf,
  #[.func (.yield (w.heap.size+1)) #[] #[]]++lb,W1,?_,?_,fun _ _=>trivial,?_,fun hd=>(by cases hd),?_⟩
 ·rw [←hW1,hrec];exact run_enterLoop_outer _ _ _ _ _
 ·simp only [resolve,hg]
  simp [go_sem]
 ·simp [invoke,go_sem,eg]
 refine (hseq (w.heap.size+1) (fun pre W=>I pre W∧Books W w.heap.size (rec .ready none)) (fun pre W=>Ix pre W∧Books W w.heap.size (rec .done (some .ret))) W1 hw1 hs1 ?own1 ?own2 ?round ⟨hi1,hb1⟩).mono ?_
 case own1=>
  rintro s X Y row ⟨hs,hb⟩ hg' hr
  refine ⟨hI s X Y row hs hg' fun r e=>⟨by have:=(hr r e).1;omega,(hr r e).2⟩,hb.grown (B:=W1.heap.size) hg' (by omega) fun k e=>(hr k e).1⟩
 case own2=>
  rintro pre X u k hk1 hk2 ⟨hs,hb⟩
  refine ⟨hIo pre X u k hk1 hk2 hs,?_,?_⟩
  ·exact (Below.heap_setCell X ⟨k,0,none⟩ u (w.heap.size+1) (by simp;omega)).trans hb.1
  ·exact (Below.heap_setCell X ⟨k,0,none⟩ u w.heap.size (by simp;omega)).trans hb.2
 case round=>
  rintro pre x W ⟨hi,hb⟩ hlen
  have hy:=run_yield (P:=Tryz.prog) (args:=encP x) hb.1 (by rw [hrec];exact hps.symm)
  rw [hrec] at hy
  refine ⟨fn,_,assign,body,hy,roundIn_of_wpIn trivial (hassign _ pre x W _ hi ?_)⟩
  intro a' W' hk1 hbl1 hax
  have hb':=hb.keeps hk1
  refine ⟨_,run_beginRound hb'.1 (by rw [hrec]),?_⟩
  obtain ⟨r2,hr2⟩:∃ r2,r2=({ rec .ready none with state:=.busy }:Loop):=⟨_,rfl⟩
  rw [←hr2]
  have hb2:Books _ _ r2:=hb'.put r2
  have hax2:=hAx.putObj (.loop r2) hax (by omega) hb'.1 rfl
  have hbl2:Keeps (TW Tb) W (W'.putObj (w.heap.size+1) (.loop r2)):=hbl1.trans (keeps_put (not_loop Tb) hb' _)
  have hkf2:KeepsFrom W1.heap.size W (W'.putObj (w.heap.size+1) (.loop r2)):=by rw [hs1];exact (zdF hk1 (by omega)).trans (from_put _ _ _)
  refine wpIn_mono (hbody _ pre x a' _ hlen hax2) ?_
  intro e a3 W3 hp
  cases e with
  | normal=>
   obtain ⟨hk3,hbl3,hi3⟩:=hp
   have hb3:=hb2.keeps hk3
   refine ⟨_,_,run_endRound none hb3.1,hkf2.trans ((zdF hk3 (by omega)).trans (by rw [hs1];exact from_put _ _ _)),.inl ⟨rfl,⟨hI.putObj _ hi3 (by omega) hb3.1 rfl,?_⟩,hbl2.trans (hbl3.trans (keeps_put (not_loop Tb) hb3 _))⟩⟩
   have:=hb3.put { r2 with state:=.ready,pending:=none }
   rw [hr2,hrec] at this ⊢
   exact this
  | ret=>
   obtain ⟨hk3,hi3⟩:=hp
   have hb3:=hb2.keeps hk3
   refine ⟨_,_,run_endRound (some .ret) hb3.1,hkf2.trans ((zdF hk3 (by omega)).trans (by rw [hs1];exact from_put _ _ _)),.inr ⟨rfl,hIx.putObj _ hi3 (by omega) hb3.1 rfl,?_⟩⟩
   have:=hb3.put { r2 with state:=.done,pending:=some .ret }
   rw [hr2,hrec] at this ⊢
   exact this
  | _=>exact hp.elim
 rintro e W2 ⟨⟨v,rfl⟩,⟨hi,hb⟩|⟨pre,hi,hb⟩⟩
 ·refine ⟨_,_,run_endLoop hb.1 (by rw [hrec];simp),?_⟩
  rw [hrec]
  exact hdone _ all _ (Nat.le_refl _) rfl (hI.putObj _ hi (by omega) hb.1 rfl) (hb.put _).2
 ·refine ⟨_,_,run_endLoop hb.1 (by rw [hrec];simp),?_⟩
  rw [hrec]
  exact hstop _ pre _ (Nat.le_refl _) (hIx.putObj _ hi (by omega) hb.1 rfl) (hb.put _).2
@[go_sem] theorem store_func (P:Program) (w:World) (a:Addr) (m:Mode) (fn:Go.Fn) (xs ys:Array Value):(Go.store a (.func fn xs ys) m).run P w=stored P w a (.func fn xs ys) m:=run_store P w a _ m rfl
theorem walk_any (fa ta:Option Addr) (fn fc tn tc:Nat) (w:World):Calls Tryz.prog 75 #[.slice fa fn fc,.slice ta tn tc] w fun e w'=>
  e=.returned (.func (.func 115) #[] #[.pointer (some ⟨w.heap.size,0,none⟩),.pointer (some ⟨w.heap.size+1,0,none⟩)])∧(w.alloc (.cells #[.slice fa fn fc] 66)).alloc (.cells #[.slice ta tn tc] 45)=w':=by
 have hmf:∀ (fn:Go.Fn) (first cap:Array Value) (w:World),(Instr.makeFunc fn first cap).run Tryz.prog w=.ok (.func fn first cap) w:=fun _ _ _ _=>rfl
 go_enter Tryz.func75,Tryz.ntmps75
 go_wp2
 go_ret
 exact ⟨rfl,rfl⟩
def WB (X:Nat→Prop) (n:Nat) (k:Nat):Prop:=¬ X k∧k<n+5
theorem sees_lt {w:World} {v:Value} {n size:Nat} {cs:List Value} (h:SeesC w v n size cs) (hs:0<size) (hn:0<n):∀ k,v.ownBlock=some k→k<w.heap.size:=by
 obtain ⟨hl,a,cap,rfl,h⟩:=h
 rcases h with h|⟨b,off,rfl,h⟩
 ·omega
 ·intro k hk
  cases hk
  have:0<cs.length:=by rw [hl];exact Nat.mul_pos hn hs
  exact World.block_lt_of_cell? w _ (h 0 _ (List.getElem?_eq_getElem this))
set_option maxHeartbeats 2000000 in
theorem walk_seq (fv tv:Value) (ms:List MV) (top:List Int) (Bl Bt:Nat) (X:Nat→Prop) (w:World) (hfl:w.cell? ⟨Bl,0,none⟩=some fv) (htl:w.cell? ⟨Bt,0,none⟩=some tv) (hsm:SeesM w fv ms) (htp:SeesC w tv top.length 1 (intsI top))
  (hXl:¬ X Bl) (hXn:∀ k,w.heap.size≤k→¬ X k) (hX:∀ v n,DV fv tv ms top v n→0<n→∀ k,v.ownBlock=some k→¬ X k)
  (hkl:∀ x∈ms,x.1.kids.length≤4611686018427387904) (htn:top.length≤4611686018427387904) (hml:ms.length≤4611686018427387904)
  {t':Int} {all:List (Int × Int)} {ok:Bool} (hW:WalkR (kidsOf ms) ms.length 0 (-1) (-1) top t' all ok) :
  SeqW 115 #[.pointer (some ⟨Bl,0,none⟩),.pointer (some ⟨Bt,0,none⟩)] (WB X w.heap.size) all w:=by
 intro l J Jx W hBW hsz hJ hJo hY h0
 have hmf:∀ (fn:Go.Fn) (first cap:Array Value) (w:World),(Instr.makeFunc fn first cap).run Tryz.prog w=.ok (.func fn first cap) w:=fun _ _ _ _=>rfl
 have hBll:Bl<w.heap.size:=World.block_lt_of_cell? w _ hfl
 have hBtl:Bt<w.heap.size:=World.block_lt_of_cell? w _ htl
 have hlow:∀ v n,DV fv tv ms top v n→0<n→∀ k,v.ownBlock=some k→k<w.heap.size:=by
  rintro v n (⟨rfl,rfl⟩|⟨rfl,rfl⟩|⟨x,hx,rfl,rfl⟩) hn
  ·exact sees_lt hsm.row (by decide) hn
  ·exact sees_lt htp (by decide) hn
  ·obtain ⟨i,hi⟩:=List.getElem?_of_mem hx
   exact sees_lt (hsm.kid i x hi) (by decide) hn
 have cl:W.cell? ⟨Bl,0,none⟩=some fv:=(hBW.cell (p:=⟨Bl,0,none⟩) hBll).trans hfl
 have ct:W.cell? ⟨Bt,0,none⟩=some tv:=(hBW.cell (p:=⟨Bt,0,none⟩) hBtl).trans htl
 obtain ⟨W3,hW3⟩:∃ W3,((W.alloc (.cells #[.func (.yield l) #[] #[]] 205)).alloc (.cells #[.int .i64 0] 3)).alloc (.cells #[fn48 Bl (W.heap.size+1) W.heap.size (W.heap.size+1+1)] 206)=W3:=⟨_,rfl⟩
 have hB3:Below W.heap.size W W3:=by rw [←hW3];exact belowT
 have hBw:Below w.heap.size w W3:=hBW.trans (hB3.mono hBW.size)
 have hE:Env fv tv ms top l Bl (W.heap.size+1) W.heap.size (W.heap.size+1+1) W3 0:=by
  refine ⟨(hBw.cell (p:=⟨Bl,0,none⟩) hBll).trans hfl,hsm.below hBw (Nat.le_refl _),htp.below hBw (Nat.le_refl _),?_,?_,?_,?_⟩<;>rw [←hW3]<;>go_simp
 have hJ3:J [] W3:=by rw [←hW3];exact hJ.alloc _ (hJ.alloc _ (hJ.alloc _ h0))
 have HI:=hidI (into_any fv tv ms top l Bl (W.heap.size+1) W.heap.size (W.heap.size+1+1) W.heap.size (WB X w.heap.size) (by
   rintro k (rfl|rfl|rfl|rfl|⟨v,n,hv,hn,e⟩)
   ·exact ⟨hXl,by omega⟩
   ·exact ⟨hXn _ (by omega),by omega⟩
   ·exact ⟨hXn _ (by omega),by omega⟩
   ·exact ⟨hXn _ (by omega),by omega⟩
   ·exact ⟨hX v n hv hn k e,by have:=hlow v n hv hn k e;omega⟩)
  (by omega) (by omega) (by omega) (fun v n hv hn e=>by have:=hlow v n hv hn _ e;omega) hkl htn hml J Jx (fun pre Y h=>hJ pre Y _ none h ⟨rfl,rfl,rfl,Nat.le_refl _,fun _ _ _=>rfl⟩ (fun _ e=>by cases e)) (fun pre Y u h=>hJo pre Y u _ (by omega) (by omega) h) all hY
  (((ms.length:Int)-(-1)).toNat+1) (-1) (-1) 0 tv top t' all ok [] W3 (by omega) (by omega) (by omega) (by omega) hW (.inl ⟨rfl,rfl⟩) ⟨[],by simp⟩ hJ3 hE)
 have it3:=hE.it
 have ct3:W3.cell? ⟨Bt,0,none⟩=some tv:=(hBw.cell (p:=⟨Bt,0,none⟩) hBtl).trans htl
 obtain ⟨_,ta,tc,rfl,_⟩:=htp
 clear hsz hB3 hBw hBW hY hJ hJo hJ3 hE hX hXn hXl hkl hlow hfl htl hsm h0 hW
 refine callsIn_of_wp Tryz.func115 rfl trivial ?_ rfl
 simp only [Tryz.ntmps115,List.size_toArray,List.length_cons,List.length_nil,Nat.reduceAdd,Nat.reduceSub,Array.replicate_succ,Array.replicate_zero,List.push_toArray,List.append_toArray,List.nil_append,List.cons_append]
 gi_wp2_with (refine ⟨trivial,rfl,?_⟩;gi_at_call 116;refine HI.out.mono ?_;rintro e W9 ⟨bb,rfl,hres⟩)
 go_end0
 refine ⟨⟨_,rfl⟩,?_⟩
 rcases hres with ⟨_,hJ9,_⟩|⟨_,hx⟩
 ·exact .inl (by simpa using hJ9)
 ·exact .inr hx
end Go.Proofs.YtmekkhfohmfjkaaGreatDoor
