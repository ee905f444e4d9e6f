/-
  Part 12 of the proof: Eng, Ord, Ord2.
-/
import Derived.Test.YtmekkhfohmfjkaaGreatDoorSd01
namespace Go.Proofs.YtmekkhfohmfjkaaGreatDoor
open Go.RowKit Go.Deep Go.MapKept
theorem zaP {a:Act} {k:Nat} {v:Value} (h:a.tmps[k]?=some v):a.eval (.tmp k)=v:=by
 unfold Act.eval
 simp only [Array.getD_eq_getD_getElem?,h,Option.getD_some]
theorem yl_of {ops:Array Oper} {t:Array Value} {j d:Nat} {b:Bool} (h1:(ops[j]?).bind (·.dst)=some d) (h2:t[d]?=some (.bool b)):yielded ops t j=some b:=by
 unfold yielded
 rw [h1]
 simp only [Option.bind_some,h2]
theorem yl_un {ops:Array Oper} {t:Array Value} {j d:Nat} (h1:(ops[j]?).bind (·.dst)=some d) (h2:t[d]?=some undef):yielded ops t j=none:=by
 unfold yielded
 rw [h1]
 simp only [Option.bind_some,h2,undef]
structure Put (a a1:Act) (n d:Nat) (v:Value):Prop where
 size:a1.tmps.size=n
 at_:a1.tmps[d]?=some v
 far:∀ j,d≠j→a1.tmps[j]?=a.tmps[j]?
 df:a1.defers=a.defers
theorem put_put {a:Act} {n d:Nat} (hs:a.tmps.size=n) (hd:d<n) (v:Value):Put a (a.put (some d) v) n d v:=by
 refine ⟨by simp [Act.put,hs],?_,?_,rfl⟩
 ·simp only [Act.put,Array.getElem?_setIfInBounds,hs,hd,if_true]
 ·intro j hj
  simp only [Act.put,Array.getElem?_setIfInBounds,hj,if_false]
section
variable {P : Program} {ops : Array Oper} {rest : List Oper} {o : Oper} {a : Act} {Q : Exit → Act → World → Prop} {w w' : World} {n d : Nat} {v : Value}
theorem wl_op (hw:Region.wanted o (yielded ops a.tmps)=true) (hd:o.dst=some d) (hs:a.tmps.size=n) (hn:d<n) (hr:(execOp a.eval o).run P w=.ok (.value v) w') (h:∀ a1,Put a a1 n d v→wpList P ops Q rest a1 w'):wpList P ops Q (o::rest) a w:=
 wpList_step fun K hK=>by
  rw [if_pos hw]
  unfold Oper.wp
  rw [hr,Oper.upon_value,hd]
  exact hK _ _ (h _ (put_put hs hn v))
theorem wl_skip (hw:Region.wanted o (yielded ops a.tmps)=false) (hd:o.dst=some d) (hs:a.tmps.size=n) (hn:d<n) (h:∀ a1,Put a a1 n d undef→wpList P ops Q rest a1 w):wpList P ops Q (o::rest) a w:=
 wpList_step fun K hK=>by
  rw [if_neg (by rw [hw];simp),hd]
  exact hK _ _ (h _ (put_put hs hn undef))
theorem wl_call {f:FuncId} {args:Array Value} {R:Ending→World→Prop} (hw:Region.wanted o (yielded ops a.tmps)=true) (hd:o.dst=some d) (hs:a.tmps.size=n) (hn:d<n) (hr:(execOp a.eval o).run P w=.ok (.enter f args) w) (hC:Calls P f args w R) (hR:∀ e w1,R e w1→∃ v,e=.returned v∧∀ a1,Put a a1 n d v→wpList P ops Q rest a1 w1):wpList P ops Q (o::rest) a w:=
 wpList_step fun K hK=>by
  rw [if_pos hw]
  unfold Oper.wp
  rw [hr,Oper.upon_enter]
  refine hC.mono ?_
  intro e w1 h1
  obtain ⟨v,rfl,h2⟩:=hR e w1 h1
  rw [hd]
  exact hK _ _ (h2 _ (put_put hs hn v))
end
def afterOn (o:Oper):List Nat:=(o.after.toList.filter (Region.binds .any)).map (·.on)
def dstOf (ops:Array Oper) (i:Nat):Option Nat:=(ops[i]?).bind (·.dst)
def seqB (ops:Array Oper) (z:Nat):Bool:=
 decide (ops.size=z+1) && (List.range (z+1)).all (fun i=>match ops[i]? with|some o=>(afterOn o).all (fun k=>decide (k<i))|none=>false) &&
  (List.range z).all (fun i=>(List.range (z+1)).any fun j=>decide (i<j) && match ops[j]? with|some o=>(afterOn o).contains i|none=>false)
def dstB (ops:Array Oper) (z n:Nat):Bool:=
 (List.range z).all fun i=>match dstOf ops i with
  | some d=>decide (d<n) && (List.range z).all (fun j=>i==j || !(dstOf ops j==some d))
  | none=>false
structure Fr (ops:Array Oper) (vals:Nat→Value) (z:Nat) (a0 a:Act) (D:Nat→Prop):Prop where
 size:a.tmps.size=a0.tmps.size
 df:a.defers=a0.defers
 old:∀ k,(∀ i,i<z→dstOf ops i≠some k)→a.tmps[k]?=a0.tmps[k]?
 new:∀ j,D j→j<z→∀ d,dstOf ops j=some d→a.tmps[d]?=some (vals j)
def putTo (ops:Array Oper) (vals:Nat→Value) (a0:Act):Nat→Act
 | 0=>a0
 | m+1=>(putTo ops vals a0 m).put (dstOf ops m) (vals m)
theorem act_ext {a b:Act} (h1:a.tmps=b.tmps) (h2:a.defers=b.defers):a=b:=by cases a;cases b;cases h1;cases h2;rfl
theorem zcE {o:Oper} {k:Nat}:k∈afterOn o↔∃ e∈o.after,Region.binds .any e=true∧e.on=k:=by
 unfold afterOn
 simp only [List.mem_map,List.mem_filter,Array.mem_toList_iff]
 constructor
 ·rintro ⟨e,⟨h1,h2⟩,h3⟩;exact ⟨e,h1,h2,h3⟩
 ·rintro ⟨e,h1,h2,h3⟩;exact ⟨e,⟨h1,h2⟩,h3⟩
structure SeqOk (ops:Array Oper) (z n:Nat):Prop where
 size:ops.size=z+1
 back:∀ i o,ops[i]?=some o→∀ k∈afterOn o,k<i
 fore:∀ i,i<z→∃ j o,i<j∧j≤z∧ops[j]?=some o∧i∈afterOn o
 dst:∀ i,i<z→∃ d,dstOf ops i=some d∧d<n∧∀ j,j<z→j≠i→dstOf ops j≠some d
theorem seqOk {ops:Array Oper} {z n:Nat} (h:seqB ops z=true) (hd:dstB ops z n=true):SeqOk ops z n:=by
 unfold seqB at h
 simp only [Bool.and_eq_true,decide_eq_true_eq,List.all_eq_true,List.mem_range,List.any_eq_true] at h
 obtain ⟨⟨h1,h2⟩,h3⟩:=h
 refine ⟨h1,?_,?_,?_⟩
 ·intro i o ho k hk
  have hi:i<ops.size:=(Array.getElem?_eq_some_iff.1 ho).1
  have:=h2 i (by omega)
  rw [ho] at this
  exact of_decide_eq_true (List.all_eq_true.1 this k hk)
 ·intro i hi
  obtain ⟨j,hj,hx⟩:=h3 i hi
  cases ho:ops[j]? with
  | none=>rw [ho] at hx;simp at hx
  | some o=>
   rw [ho] at hx
   simp only [List.contains_iff_mem] at hx
   exact ⟨j,o,hx.1,by omega,ho,hx.2⟩
 ·intro i hi
  unfold dstB at hd
  have:=List.all_eq_true.1 hd i (List.mem_range.2 hi)
  cases hdi:dstOf ops i with
  | none=>rw [hdi] at this;cases this
  | some d=>
   rw [hdi] at this
   simp only [Bool.and_eq_true,decide_eq_true_eq,List.all_eq_true,List.mem_range,Bool.or_eq_true,beq_iff_eq,Bool.not_eq_true'] at this
   refine ⟨d,rfl,this.1,fun j hj hji e => ?_⟩
   rcases this.2 j hj with e'|e'
   ·exact hji e'.symm
   ·rw [e] at e';simp at e'
theorem put_size (a:Act) (d:Option Nat) (v:Value):(a.put d v).tmps.size=a.tmps.size:=by cases d<;>simp [Act.put]
theorem put_df (a:Act) (d:Option Nat) (v:Value):(a.put d v).defers=a.defers:=by cases d<;>rfl
theorem zcD (a:Act) (d k:Nat) (v:Value):(a.put (some d) v).tmps[k]?=if d=k then (if d<a.tmps.size then some v else none) else a.tmps[k]?:=by
 simp only [Act.put,Array.getElem?_setIfInBounds]
theorem putTo_size (ops:Array Oper) (vals:Nat→Value) (a0:Act):∀ m,(putTo ops vals a0 m).tmps.size=a0.tmps.size
 | 0=>rfl
 | m+1=>by simp only [putTo];rw [put_size,putTo_size ops vals a0 m]
theorem putTo_df (ops:Array Oper) (vals:Nat→Value) (a0:Act):∀ m,(putTo ops vals a0 m).defers=a0.defers
 | 0=>rfl
 | m+1=>by simp only [putTo];rw [put_df,putTo_df ops vals a0 m]
theorem putTo_old (ops:Array Oper) (vals:Nat→Value) (a0:Act) (k:Nat):∀ m,(∀ i,i<m→dstOf ops i≠some k)→(putTo ops vals a0 m).tmps[k]?=a0.tmps[k]?
 | 0,_=>rfl
 | m+1,h=>by
  simp only [putTo]
  have ih:=putTo_old ops vals a0 k m (fun i hi=>h i (by omega))
  cases hd:dstOf ops m with
  | none=>exact ih
  | some d=>
   rw [zcD,if_neg (fun e=>h m (by omega) (by rw [hd,e]))]
   exact ih
theorem putTo_new {ops:Array Oper} {z:Nat} (vals:Nat→Value) (a0:Act) (hok:SeqOk ops z a0.tmps.size) {i d:Nat} (hd:dstOf ops i=some d):∀ m,i<m→m≤z→(putTo ops vals a0 m).tmps[d]?=some (vals i)
 | 0,h,_=>absurd h (by omega)
 | m+1,h,hm=>by
  simp only [putTo]
  obtain ⟨d',hd',hlt,hne⟩:=hok.dst i (by omega)
  obtain rfl:d=d':=by rw [hd] at hd';exact Option.some.inj hd'
  by_cases him:i=m
  ·subst him
   rw [hd,zcD,if_pos rfl,putTo_size,if_pos hlt]
  ·have ih:=putTo_new vals a0 hok hd m (by omega) (by omega)
   cases hdm:dstOf ops m with
   | none=>exact ih
   | some d2=>
    rw [zcD,if_neg (fun e=>hne m (by omega) (Ne.symm him) (by rw [hdm,e]))]
    exact ih
theorem fr_all {ops:Array Oper} {vals:Nat→Value} {z:Nat} {a0 a:Act} (hok:SeqOk ops z a0.tmps.size) {D:Nat→Prop} (h:Fr ops vals z a0 a D) (hD:∀ j,j<z→D j):a=putTo ops vals a0 z:=by
 refine act_ext (Array.ext_getElem? fun k => ?_) (h.df.trans (putTo_df ops vals a0 z).symm)
 by_cases hk:∃ i,i<z∧dstOf ops i=some k
 ·obtain ⟨i,hi,hd⟩:=hk
  rw [h.new i (hD i hi) hi k hd,putTo_new vals a0 hok hd z hi (Nat.le_refl _)]
 ·have hk':∀ i,i<z→dstOf ops i≠some k:=fun i hi e=>hk ⟨i,hi,e⟩
  rw [h.old k hk',putTo_old ops vals a0 k z hk']
theorem zbU {l:Array Bool} {i:Nat} (h:l[i]?=some false):(l.setIfInBounds i true).toList.count false+1=l.toList.count false:=by
 have hi:i<l.toList.length:=by have:=(Array.getElem?_eq_some_iff.1 h).1;simpa using this
 have he:l.toList[i]=false:=by
  have:=(Array.getElem?_eq_some_iff.1 h).2
  simpa using this
 have h1:1≤l.toList.count false:=List.one_le_count_iff.2 (he▸List.getElem_mem hi)
 have h2:=List.count_set (a:=true) (b:=false) hi
 rw [he] at h2
 rw [Array.toList_setIfInBounds,h2]
 have e1:((false==false)=true):=rfl
 have e2:¬ ((true==false)=true):=by decide
 rw [if_pos e1,if_neg e2]
 omega
theorem zaD {o:Oper} {y:Nat→Option Bool} (h:o.guard=none):Region.wanted o y=true:=by
 unfold Region.wanted
 rw [h]
theorem st_pos {c:Bool} {p q:Prop} (h:c=true) (hp:p):if c=true then p else q:=by rw [if_pos h];exact hp
theorem st_neg {c:Bool} {p q:Prop} (h:c=false) (hq:q):if c=true then p else q:=by rw [if_neg (by rw [h];decide)];exact hq
theorem old_of {ops:Array Oper} {z k:Nat} (h:((List.range z).all fun i => !(dstOf ops i==some k))=true):∀ i,i<z→dstOf ops i≠some k:=by
 intro i hi e
 have:=List.all_eq_true.1 h i (List.mem_range.2 hi)
 rw [e] at this
 simp at this
theorem so {x:Option Oper} {o p:Oper} (h:x=some o) (k:x=some p):o=p:=Option.some.inj (h.symm.trans k)
theorem Fr.nw {ops:Array Oper} {vals:Nat→Value} {z:Nat} {a0 a:Act} {o:Oper} (hF:Fr ops vals z a0 a (·∈afterOn o)) (j d:Nat) (h:((afterOn o).contains j && decide (j<z) && (dstOf ops j==some d))=true:=by kernel_rfl):a.tmps[d]?=some (vals j):=by
 simp only [Bool.and_eq_true,decide_eq_true_eq,beq_iff_eq] at h
 exact hF.new j (List.contains_iff_mem.1 h.1.1) h.1.2 d h.2
theorem Fr.ev {ops:Array Oper} {vals:Nat→Value} {z:Nat} {a0 a:Act} {o:Oper} (hF:Fr ops vals z a0 a (·∈afterOn o)) (j d:Nat) (h:((afterOn o).contains j && decide (j<z) && (dstOf ops j==some d))=true:=by kernel_rfl):a.eval (.tmp d)=vals j:=zaP (hF.nw j d h)
theorem Fr.od {ops:Array Oper} {vals:Nat→Value} {z:Nat} {a0 a:Act} {D:Nat→Prop} (hF:Fr ops vals z a0 a D) (k:Nat) {v:Value} (e:a0.tmps[k]?=some v) (h:((List.range z).all fun i => !(dstOf ops i==some k))=true:=by kernel_rfl):a.eval (.tmp k)=v:=zaP ((hF.old k (old_of h)).trans e)
theorem zaR {P:Program} {Q:Exit→Act→World→Prop} {o:Oper} {a:Act} {w:World} {K:Act→World→Prop} {v:Value} (hr:(execOp a.eval o).run P w=.ok (.value v) w) (hk:K (a.put o.dst v) w):o.wp P a w K Q:=by
 unfold Oper.wp
 rw [hr,Oper.upon_value]
 exact hk
theorem zaW {P:Program} {Q:Exit→Act→World→Prop} {o:Oper} {a:Act} {w:World} {K:Act→World→Prop} {v:Value} {y:Nat→Option Bool} {q:Prop} (hg:o.guard=none) (hr:(execOp a.eval o).run P w=.ok (.value v) w) (hk:K (a.put o.dst v) w):if Region.wanted o y=true then o.wp P a w K Q else q:=st_pos (zaD hg) (zaR hr hk)
theorem zbC {ops:Array Oper} {o:Oper} {a:Act} {g d:Nat} {b:Bool} {p q:Prop} (hg:o.guard=some (g,b)) (hv:a.tmps[d]?=some (.bool b)) (hp:p) (hd:dstOf ops g=some d:=by kernel_rfl):if Region.wanted o (yielded ops a.tmps)=true then p else q:=by
 refine st_pos ?_ hp
 unfold Region.wanted
 rw [hg]
 show (yielded ops a.tmps g==some b)=true
 rw [yl_of hd hv]
 simp
theorem zcA {ops:Array Oper} {o:Oper} {a:Act} {g d:Nat} {b:Bool} {p q:Prop} (hg:o.guard=some (g,b)) (hv:a.tmps[d]?=some (.bool !b)) (hq:q) (hd:dstOf ops g=some d:=by kernel_rfl):if Region.wanted o (yielded ops a.tmps)=true then p else q:=by
 refine st_neg ?_ hq
 unfold Region.wanted
 rw [hg]
 show (yielded ops a.tmps g==some b)=false
 rw [yl_of hd hv]
 cases b<;>rfl
theorem zbP {l:Array Bool} {i j:Nat} (h:i≠j):(l.setIfInBounds i true)[j]?=l[j]?:=by rw [Array.getElem?_setIfInBounds,if_neg h]
section
variable {P : Program} {ops : Array Oper} {Q : Exit → Act → World → Prop} {S : World → Prop} {vals : Nat → Value} {z : Nat} {a0 : Act}
theorem zbJ {l:Array Bool} {i:Nat} {b c:Bool} (h:l[i]?=some b):l.getD i c=b:=by rw [Array.getD_eq_getD_getElem?,h];rfl
theorem wpAny_seq {oz:Oper} (hok:SeqOk ops z a0.tmps.size) (hz:ops[z]?=some oz)
  (hstep:∀ i o,i<z→ops[i]?=some o→∀ a w,Fr ops vals z a0 a (·∈afterOn o)→S w→∀ K:Act→World→Prop,(∀ v,S v→K (a.put o.dst (vals i)) v)→if Region.wanted o (yielded ops a.tmps)=true then o.wp P a w K Q else K (a.put o.dst undef) w)
  (hlast:∀ w,S w→∀ K:Act→World→Prop,(∀ b v,Q .normal b v→K b v)→if Region.wanted oz (yielded ops (putTo ops vals a0 z).tmps)=true then oz.wp P (putTo ops vals a0 z) w K Q else K ((putTo ops vals a0 z).put oz.dst undef) w) :
  ∀ (n:Nat) (l:Array Bool) (a:Act) (w:World),l.size=ops.size→(∀ (i:Nat) (o:Oper),l[i]?=some true→ops[i]?=some o→∀ k∈afterOn o,l[k]?=some true)→l[z]?=some false→Fr ops vals z a0 a (fun j=>l[j]?=some true)→l.toList.count false=n→S w→wpAny P .any ops Q n l a w:=by
 intro n
 induction n with
 | zero=>
  intro l a w _ _ h3 _ h5 _
  have:=zbU h3
  omega
 | succ n ih=>
  intro l a w h1 h2 h3 h4 h5 hS
  have hzs:z<l.size:=(Array.getElem?_eq_some_iff.1 h3).1
  have hcase:∀ k,k<l.size→l[k]?=some true∨l[k]?=some false:=fun k hk=>by
   rw [Array.getElem?_eq_getElem hk]
   cases l[k]<;>simp
  have hmem:∀ i,i∈Region.ready .any ops l↔l[i]?=some false∧∃ o,ops[i]?=some o∧∀ k∈afterOn o,l[k]?=some true:=by
   intro i
   rw [mem_ready]
   constructor
   ·rintro ⟨g1,o,ho,g2⟩
    have hi:i<l.size:=by rw [h1];exact (Array.getElem?_eq_some_iff.1 ho).1
    refine ⟨?_,o,ho,fun k hk => ?_⟩
    ·rcases hcase i hi with e|e
     ·rw [zbJ e] at g1;cases g1
     ·exact e
    ·obtain ⟨e,he,hb,rfl⟩:=zcE.1 hk
     have g3:=g2 e he hb
     have hlt:=hok.back i o ho e.on hk
     rcases hcase e.on (by omega) with e'|e'
     ·exact e'
     ·rw [zbJ e'] at g3;cases g3
   ·rintro ⟨g1,o,ho,g2⟩
    exact ⟨zbJ g1,o,ho,fun e he hb=>zbJ (g2 e.on (zcE.2 ⟨e,he,hb,rfl⟩))⟩
  refine ⟨fun hr => ?_,fun i hi => ?_⟩
  ·exfalso
   have key:∀ m,m≤z→(∀ k,k<m→l[k]?=some true):=by
    intro m
    induction m with
    | zero=>intro _ k hk;omega
    | succ m ihm=>
     intro hm k hk
     have prev:=ihm (by omega)
     by_cases hkm:k<m
     ·exact prev k hkm
     ·obtain rfl:k=m:=by omega
      rcases hcase k (by omega) with e|e
      ·exact e
      ·exfalso
       have hks:k<ops.size:=by omega
       have:k∈Region.ready .any ops l:=(hmem k).2 ⟨e,ops[k],Array.getElem?_eq_getElem hks,fun j hj=>prev j (hok.back k _ (Array.getElem?_eq_getElem hks) j hj)⟩
       rw [hr] at this
       simp at this
   have:z∈Region.ready .any ops l:=(hmem z).2 ⟨h3,oz,hz,fun j hj=>key z (Nat.le_refl _) j (hok.back z _ hz j hj)⟩
   rw [hr] at this
   simp at this
  ·obtain ⟨g1,o,ho,g2⟩:=(hmem i).1 hi
   by_cases hiz:i=z
   ·subst hiz
    obtain rfl:oz=o:=by rw [hz] at ho;exact Option.some.inj ho
    have hall:∀ (m j:Nat),i-j≤m→j<i→l[j]?=some true:=by
     intro m
     induction m with
     | zero=>intro j h1 h2;omega
     | succ m ihm=>
      intro j hj1 hj2
      obtain ⟨k,ok,hjk,hki,hok',hin⟩:=hok.fore j hj2
      by_cases hke:k=i
      ·subst hke
       obtain rfl:oz=ok:=by rw [hz] at hok';exact Option.some.inj hok'
       exact g2 j hin
      ·exact h2 k ok (ihm k (by omega) (by omega)) hok' j hin
    have ha:a=putTo ops vals a0 i:=fr_all hok h4 (fun j hj=>hall i j (by omega) hj)
    have hcnt:=zbU g1
    have hnone:∀ j:Nat,(l.setIfInBounds i true)[j]?≠some false:=by
     intro j hj
     rw [Array.getElem?_setIfInBounds] at hj
     split at hj
     ·first
      | (cases hj;done)
      | (split at hj<;>cases hj)
     ·have hjs:=(Array.getElem?_eq_some_iff.1 hj).1
      have:=hall i j (by omega) (by rw [h1,hok.size] at hjs;omega)
      rw [hj] at this;cases this
    have hc0:(l.setIfInBounds i true).toList.count false=0:=by
     refine List.count_eq_zero.2 fun hm => ?_
     obtain ⟨j,hj⟩:=List.getElem?_of_mem hm
     exact hnone j (by rw [←Array.getElem?_toList];exact hj)
    have hn0:n=0:=by omega
    subst hn0
    subst ha
    refine wpOp_step hz fun K' hK'=>hlast w hS K' fun b v hb=>hK' b v ⟨?_,hb⟩
    cases hr:Region.ready .any ops (l.setIfInBounds i true) with
    | nil=>rfl
    | cons j r=>
     exfalso
     have hj:j∈Region.ready .any ops (l.setIfInBounds i true):=by rw [hr];simp
     obtain ⟨q1,o',ho',_⟩:=mem_ready.1 hj
     have hjs:j<(l.setIfInBounds i true).size:=by rw [Array.size_setIfInBounds,h1];exact (Array.getElem?_eq_some_iff.1 ho').1
     refine hnone j ?_
     rw [Array.getElem?_eq_getElem hjs]
     rw [Array.getD_eq_getD_getElem?,Array.getElem?_eq_getElem hjs] at q1
     simpa using q1
   ·have hiz':i<z:=by
     have:=(Array.getElem?_eq_some_iff.1 ho).1
     rw [hok.size] at this;omega
    refine wpOp_step ho fun K' hK' => ?_
    refine hstep i o hiz' ho a w ⟨h4.size,h4.df,h4.old,fun j hj hjz d hd=>h4.new j (g2 j hj) hjz d hd⟩ hS K' fun v hv=>hK' _ _ ?_
    obtain ⟨di,hdi,hdlt,hdne⟩:=hok.dst i hiz'
    have hod:o.dst=some di:=by unfold dstOf at hdi;rw [ho] at hdi;exact hdi
    refine ih _ _ _ (by simpa using h1) ?_ ?_ ?_ (by have:=zbU g1;omega) hv
    ·intro j o' hj ho' k hk
     have hkk:l[k]?=some true:=by
      rw [Array.getElem?_setIfInBounds] at hj
      split at hj
      ·rename_i hij
       subst hij
       obtain rfl:o=o':=by rw [ho] at ho';exact Option.some.inj ho'
       exact g2 k hk
      ·exact h2 j o' hj ho' k hk
     rw [Array.getElem?_setIfInBounds]
     split
     ·rename_i hik
      subst hik
      rw [hkk] at g1;cases g1
     ·exact hkk
    ·rw [Array.getElem?_setIfInBounds,if_neg hiz]
     exact h3
    ·refine ⟨by rw [hod,put_size];exact h4.size,by rw [hod,put_df];exact h4.df,fun k hk => ?_,fun j hj hjz d hd => ?_⟩
     ·rw [hod,zcD,if_neg (fun e=>hk i hiz' (by rw [hdi,e]))]
      exact h4.old k hk
     ·rw [hod,zcD]
      by_cases hij:i=j
      ·subst hij
       obtain rfl:di=d:=by rw [hdi] at hd;exact Option.some.inj hd
       rw [if_pos rfl,h4.size,if_pos hdlt]
      ·rw [if_neg (fun e=>hdne j hjz (Ne.symm hij) (by rw [hd,e]))]
       refine h4.new j ?_ hjz d hd
       rw [Array.getElem?_setIfInBounds,if_neg hij] at hj
       exact hj
theorem wp_region_seq {id:Nat} {w:World} {oz:Oper} (vals:Nat→Value) (S:World→Prop) (z:Nat) (hm:P.follows .mixedOrders=true) (hsq:seqB ops z=true) (hdb:dstB ops z a0.tmps.size=true) (hz:ops[z]?=some oz) (hS:S w.drew)
  (hstep:∀ i o,i<z→ops[i]?=some o→∀ a w,Fr ops vals z a0 a (·∈afterOn o)→S w→∀ K:Act→World→Prop,(∀ v,S v→K (a.put o.dst (vals i)) v)→if Region.wanted o (yielded ops a.tmps)=true then o.wp P a w K Q else K (a.put o.dst undef) w)
  (hlast:∀ w,S w→∀ K:Act→World→Prop,(∀ b v,Q .normal b v→K b v)→if Region.wanted oz (yielded ops (putTo ops vals a0 z).tmps)=true then oz.wp P (putTo ops vals a0 z) w K Q else K ((putTo ops vals a0 z).put oz.dst undef) w) :
  (Code.region id ops true).wp P Q a0 w:=by
 have hok:=seqOk hsq hdb
 refine wp_region_any hm (wpAny_seq hok hz hstep hlast ops.size (Array.replicate ops.size false) a0 _ (by simp) ?_ ?_ ⟨rfl,rfl,fun _ _=>rfl,?_⟩ (by simp) hS)
 ·intro i o hi
  rw [Array.getElem?_replicate] at hi
  split at hi<;>cases hi
 ·rw [Array.getElem?_replicate,if_pos (by rw [hok.size];omega)]
 ·intro j hj
  rw [Array.getElem?_replicate] at hj
  split at hj<;>cases hj
end
def putA (f:Nat→Oper) (vals:Nat→Value) (a0:Act):Nat→Act
 | 0=>a0
 | m+1=>(putA f vals a0 m).put (f m).dst (vals m)
theorem putA_eq (f:Nat→Oper) (vals:Nat→Value) (a0:Act) (z:Nat):∀ m,m≤z→putTo (opsA f z) vals a0 m=putA f vals a0 m
 | 0,_=>rfl
 | m+1,h=>by
  simp only [putTo,putA]
  rw [putA_eq f vals a0 z m (by omega)]
  unfold dstOf
  rw [zaA f z (by omega)]
  rfl
theorem zaU {P:Program} {Q:Exit→Act→World→Prop} {a0:Act} {id:Nat} {w:World} (f:Nat→Oper) (vals:Nat→Value) (S:World→Prop) (z:Nat) (hm:P.follows .mixedOrders=true) (hsq:seqB (opsA f z) z=true) (hdb:dstB (opsA f z) z a0.tmps.size=true) (hS:S w.drew)
  (hstep:∀ i,i<z→∀ a w,Fr (opsA f z) vals z a0 a (·∈afterOn (f i))→S w→∀ K:Act→World→Prop,(∀ v,S v→K (a.put (f i).dst (vals i)) v)→if Region.wanted (f i) (yielded (opsA f z) a.tmps)=true then (f i).wp P a w K Q else K (a.put (f i).dst undef) w)
  (hlast:∀ w,S w→∀ K:Act→World→Prop,(∀ b v,Q .normal b v→K b v)→if Region.wanted (f z) (yielded (opsA f z) (putA f vals a0 z).tmps)=true then (f z).wp P (putA f vals a0 z) w K Q else K ((putA f vals a0 z).put (f z).dst undef) w) :
  (Code.region id (opsA f z) true).wp P Q a0 w:=
 wp_region_seq vals S z hm hsq hdb (zaA f z (Nat.le_refl _)) hS (fun i o hi ho=>by obtain rfl:=so (zaA f z (Nat.le_of_lt hi)) ho;exact hstep i hi) (fun w h K hK=>by rw [putA_eq f vals a0 z z (Nat.le_refl _)];exact hlast w h K hK)
def dstB2 (ops:Array Oper) (z n:Nat):Bool:=
 (List.range z).all fun i=>match dstOf ops i with
  | some d=>decide (d<n) && (List.range z).all (fun j=>i==j || !(dstOf ops j==some d))
  | none=>true
structure SeqOk2 (ops:Array Oper) (z n:Nat):Prop where
 size:ops.size=z+1
 back:∀ i o,ops[i]?=some o→∀ k∈afterOn o,k<i
 fore:∀ i,i<z→∃ j o,i<j∧j≤z∧ops[j]?=some o∧i∈afterOn o
 dst:∀ i,i<z→∀ d,dstOf ops i=some d→d<n∧∀ j,j<z→j≠i→dstOf ops j≠some d
theorem seqOk2 {ops:Array Oper} {z n:Nat} (h:seqB ops z=true) (hd:dstB2 ops z n=true):SeqOk2 ops z n:=by
 unfold seqB at h
 simp only [Bool.and_eq_true,decide_eq_true_eq,List.all_eq_true,List.mem_range,List.any_eq_true] at h
 obtain ⟨⟨h1,h2⟩,h3⟩:=h
 refine ⟨h1,?_,?_,?_⟩
 ·intro i o ho k hk
  have hi:i<ops.size:=(Array.getElem?_eq_some_iff.1 ho).1
  have:=h2 i (by omega)
  rw [ho] at this
  exact of_decide_eq_true (List.all_eq_true.1 this k hk)
 ·intro i hi
  obtain ⟨j,hj,hx⟩:=h3 i hi
  cases ho:ops[j]? with
  | none=>rw [ho] at hx;simp at hx
  | some o=>
   rw [ho] at hx
   simp only [List.contains_iff_mem] at hx
   exact ⟨j,o,hx.1,by omega,ho,hx.2⟩
 ·intro i hi d hdi
  unfold dstB2 at hd
  have:=List.all_eq_true.1 hd i (List.mem_range.2 hi)
  rw [hdi] at this
  simp only [Bool.and_eq_true,decide_eq_true_eq,List.all_eq_true,List.mem_range,Bool.or_eq_true,beq_iff_eq,Bool.not_eq_true'] at this
  refine ⟨this.1,fun j hj hji e => ?_⟩
  rcases this.2 j hj with e'|e'
  ·exact hji e'.symm
  ·rw [e] at e';simp at e'
theorem putTo_new2 {ops:Array Oper} {z:Nat} (vals:Nat→Value) (a0:Act) (hok:SeqOk2 ops z a0.tmps.size) {i d:Nat} (hd:dstOf ops i=some d):∀ m,i<m→m≤z→(putTo ops vals a0 m).tmps[d]?=some (vals i)
 | 0,h,_=>absurd h (by omega)
 | m+1,h,hm=>by
  simp only [putTo]
  obtain ⟨hlt,hne⟩:=hok.dst i (by omega) d hd
  by_cases him:i=m
  ·subst him
   rw [hd,zcD,if_pos rfl,putTo_size,if_pos hlt]
  ·have ih:=putTo_new2 vals a0 hok hd m (by omega) (by omega)
   cases hdm:dstOf ops m with
   | none=>exact ih
   | some d2=>
    rw [zcD,if_neg (fun e=>hne m (by omega) (Ne.symm him) (by rw [hdm,e]))]
    exact ih
theorem fr_all2 {ops:Array Oper} {vals:Nat→Value} {z:Nat} {a0 a:Act} (hok:SeqOk2 ops z a0.tmps.size) {D:Nat→Prop} (h:Fr ops vals z a0 a D) (hD:∀ j,j<z→D j):a=putTo ops vals a0 z:=by
 refine act_ext (Array.ext_getElem? fun k => ?_) (h.df.trans (putTo_df ops vals a0 z).symm)
 by_cases hk:∃ i,i<z∧dstOf ops i=some k
 ·obtain ⟨i,hi,hd⟩:=hk
  rw [h.new i (hD i hi) hi k hd,putTo_new2 vals a0 hok hd z hi (Nat.le_refl _)]
 ·have hk':∀ i,i<z→dstOf ops i≠some k:=fun i hi e=>hk ⟨i,hi,e⟩
  rw [h.old k hk',putTo_old ops vals a0 k z hk']
section
variable {P : Program} {ops : Array Oper} {Q : Exit → Act → World → Prop} {S : Array Bool → World → Prop} {vals : Nat → Value} {z : Nat} {a0 : Act}
theorem wpAny_seq2 {oz:Oper} (hok:SeqOk2 ops z a0.tmps.size) (hz:ops[z]?=some oz)
  (hstep:∀ i o,i<z→ops[i]?=some o→∀ a w (l:Array Bool),Fr ops vals z a0 a (·∈afterOn o)→l.size=z+1→l[i]?=some false→(∀ k∈afterOn o,l[k]?=some true)→S l w→∀ K:Act→World→Prop,(∀ v,S (l.setIfInBounds i true) v→K (a.put o.dst (vals i)) v)→if Region.wanted o (yielded ops a.tmps)=true then o.wp P a w K Q else K (a.put o.dst undef) w)
  (hlast:∀ w (l:Array Bool),(∀ j,j<z→l[j]?=some true)→S l w→∀ K:Act→World→Prop,(∀ b v,Q .normal b v→K b v)→if Region.wanted oz (yielded ops (putTo ops vals a0 z).tmps)=true then oz.wp P (putTo ops vals a0 z) w K Q else K ((putTo ops vals a0 z).put oz.dst undef) w) :
  ∀ (n:Nat) (l:Array Bool) (a:Act) (w:World),l.size=ops.size→(∀ (i:Nat) (o:Oper),l[i]?=some true→ops[i]?=some o→∀ k∈afterOn o,l[k]?=some true)→l[z]?=some false→Fr ops vals z a0 a (fun j=>l[j]?=some true)→l.toList.count false=n→S l w→wpAny P .any ops Q n l a w:=by
 intro n
 induction n with
 | zero=>
  intro l a w _ _ h3 _ h5 _
  have:=zbU h3
  omega
 | succ n ih=>
  intro l a w h1 h2 h3 h4 h5 hS
  have hzs:z<l.size:=(Array.getElem?_eq_some_iff.1 h3).1
  have hcase:∀ k,k<l.size→l[k]?=some true∨l[k]?=some false:=fun k hk=>by
   rw [Array.getElem?_eq_getElem hk]
   cases l[k]<;>simp
  have hmem:∀ i,i∈Region.ready .any ops l↔l[i]?=some false∧∃ o,ops[i]?=some o∧∀ k∈afterOn o,l[k]?=some true:=by
   intro i
   rw [mem_ready]
   constructor
   ·rintro ⟨g1,o,ho,g2⟩
    have hi:i<l.size:=by rw [h1];exact (Array.getElem?_eq_some_iff.1 ho).1
    refine ⟨?_,o,ho,fun k hk => ?_⟩
    ·rcases hcase i hi with e|e
     ·rw [zbJ e] at g1;cases g1
     ·exact e
    ·obtain ⟨e,he,hb,rfl⟩:=zcE.1 hk
     have g3:=g2 e he hb
     have hlt:=hok.back i o ho e.on hk
     rcases hcase e.on (by omega) with e'|e'
     ·exact e'
     ·rw [zbJ e'] at g3;cases g3
   ·rintro ⟨g1,o,ho,g2⟩
    exact ⟨zbJ g1,o,ho,fun e he hb=>zbJ (g2 e.on (zcE.2 ⟨e,he,hb,rfl⟩))⟩
  refine ⟨fun hr => ?_,fun i hi => ?_⟩
  ·exfalso
   have key:∀ m,m≤z→(∀ k,k<m→l[k]?=some true):=by
    intro m
    induction m with
    | zero=>intro _ k hk;omega
    | succ m ihm=>
     intro hm k hk
     have prev:=ihm (by omega)
     by_cases hkm:k<m
     ·exact prev k hkm
     ·obtain rfl:k=m:=by omega
      rcases hcase k (by omega) with e|e
      ·exact e
      ·exfalso
       have hks:k<ops.size:=by omega
       have:k∈Region.ready .any ops l:=(hmem k).2 ⟨e,ops[k],Array.getElem?_eq_getElem hks,fun j hj=>prev j (hok.back k _ (Array.getElem?_eq_getElem hks) j hj)⟩
       rw [hr] at this
       simp at this
   have:z∈Region.ready .any ops l:=(hmem z).2 ⟨h3,oz,hz,fun j hj=>key z (Nat.le_refl _) j (hok.back z _ hz j hj)⟩
   rw [hr] at this
   simp at this
  ·obtain ⟨g1,o,ho,g2⟩:=(hmem i).1 hi
   by_cases hiz:i=z
   ·subst hiz
    obtain rfl:oz=o:=by rw [hz] at ho;exact Option.some.inj ho
    have hall:∀ (m j:Nat),i-j≤m→j<i→l[j]?=some true:=by
     intro m
     induction m with
     | zero=>intro j h1 h2;omega
     | succ m ihm=>
      intro j hj1 hj2
      obtain ⟨k,ok,hjk,hki,hok',hin⟩:=hok.fore j hj2
      by_cases hke:k=i
      ·subst hke
       obtain rfl:oz=ok:=by rw [hz] at hok';exact Option.some.inj hok'
       exact g2 j hin
      ·exact h2 k ok (ihm k (by omega) (by omega)) hok' j hin
    have ha:a=putTo ops vals a0 i:=fr_all2 hok h4 (fun j hj=>hall i j (by omega) hj)
    have hcnt:=zbU g1
    have hnone:∀ j:Nat,(l.setIfInBounds i true)[j]?≠some false:=by
     intro j hj
     rw [Array.getElem?_setIfInBounds] at hj
     split at hj
     ·first
      | (cases hj;done)
      | (split at hj<;>cases hj)
     ·have hjs:=(Array.getElem?_eq_some_iff.1 hj).1
      have:=hall i j (by omega) (by rw [h1,hok.size] at hjs;omega)
      rw [hj] at this;cases this
    have hc0:(l.setIfInBounds i true).toList.count false=0:=by
     refine List.count_eq_zero.2 fun hm => ?_
     obtain ⟨j,hj⟩:=List.getElem?_of_mem hm
     exact hnone j (by rw [←Array.getElem?_toList];exact hj)
    have hn0:n=0:=by omega
    subst hn0
    subst ha
    refine wpOp_step hz fun K' hK'=>hlast w l (fun j hj=>hall i j (by omega) hj) hS K' fun b v hb=>hK' b v ⟨?_,hb⟩
    cases hr:Region.ready .any ops (l.setIfInBounds i true) with
    | nil=>rfl
    | cons j r=>
     exfalso
     have hj:j∈Region.ready .any ops (l.setIfInBounds i true):=by rw [hr];simp
     obtain ⟨q1,o',ho',_⟩:=mem_ready.1 hj
     have hjs:j<(l.setIfInBounds i true).size:=by rw [Array.size_setIfInBounds,h1];exact (Array.getElem?_eq_some_iff.1 ho').1
     refine hnone j ?_
     rw [Array.getElem?_eq_getElem hjs]
     rw [Array.getD_eq_getD_getElem?,Array.getElem?_eq_getElem hjs] at q1
     simpa using q1
   ·have hiz':i<z:=by
     have:=(Array.getElem?_eq_some_iff.1 ho).1
     rw [hok.size] at this;omega
    refine wpOp_step ho fun K' hK' => ?_
    refine hstep i o hiz' ho a w l ⟨h4.size,h4.df,h4.old,fun j hj hjz d hd=>h4.new j (g2 j hj) hjz d hd⟩ (by rw [h1,hok.size]) g1 g2 hS K' fun v hv=>hK' _ _ ?_
    have hod:o.dst=dstOf ops i:=by unfold dstOf;rw [ho];rfl
    refine ih _ _ _ (by simpa using h1) ?_ ?_ ?_ (by have:=zbU g1;omega) hv
    ·intro j o' hj ho' k hk
     have hkk:l[k]?=some true:=by
      rw [Array.getElem?_setIfInBounds] at hj
      split at hj
      ·rename_i hij
       subst hij
       obtain rfl:o=o':=by rw [ho] at ho';exact Option.some.inj ho'
       exact g2 k hk
      ·exact h2 j o' hj ho' k hk
     rw [Array.getElem?_setIfInBounds]
     split
     ·rename_i hik
      subst hik
      rw [hkk] at g1;cases g1
     ·exact hkk
    ·rw [Array.getElem?_setIfInBounds,if_neg hiz]
     exact h3
    ·refine ⟨by rw [put_size];exact h4.size,by rw [put_df];exact h4.df,fun k hk => ?_,fun j hj hjz d hd => ?_⟩
     ·rw [hod]
      cases hdi:dstOf ops i with
      | none=>exact h4.old k hk
      | some di=>
       rw [zcD,if_neg (fun e=>hk i hiz' (by rw [hdi,e]))]
       exact h4.old k hk
     ·rw [hod]
      by_cases hij:i=j
      ·subst hij
       rw [hd,zcD,if_pos rfl,h4.size,if_pos (hok.dst i hiz' d hd).1]
      ·have hold:a.tmps[d]?=some (vals j):=by
        refine h4.new j ?_ hjz d hd
        rw [Array.getElem?_setIfInBounds,if_neg hij] at hj
        exact hj
       cases hdi:dstOf ops i with
       | none=>exact hold
       | some di=>
        rw [zcD,if_neg (fun e=>(hok.dst j hjz d hd).2 i hiz' hij (by rw [hdi,e]))]
        exact hold
theorem wp_region_seq2 {id:Nat} {w:World} {oz:Oper} (vals:Nat→Value) (S:Array Bool→World→Prop) (z:Nat) (hm:P.follows .mixedOrders=true) (hsq:seqB ops z=true) (hdb:dstB2 ops z a0.tmps.size=true) (hz:ops[z]?=some oz) (hS:S (Array.replicate ops.size false) w.drew)
  (hstep:∀ i o,i<z→ops[i]?=some o→∀ a w (l:Array Bool),Fr ops vals z a0 a (·∈afterOn o)→l.size=z+1→l[i]?=some false→(∀ k∈afterOn o,l[k]?=some true)→S l w→∀ K:Act→World→Prop,(∀ v,S (l.setIfInBounds i true) v→K (a.put o.dst (vals i)) v)→if Region.wanted o (yielded ops a.tmps)=true then o.wp P a w K Q else K (a.put o.dst undef) w)
  (hlast:∀ w (l:Array Bool),(∀ j,j<z→l[j]?=some true)→S l w→∀ K:Act→World→Prop,(∀ b v,Q .normal b v→K b v)→if Region.wanted oz (yielded ops (putTo ops vals a0 z).tmps)=true then oz.wp P (putTo ops vals a0 z) w K Q else K ((putTo ops vals a0 z).put oz.dst undef) w) :
  (Code.region id ops true).wp P Q a0 w:=by
 have hok:=seqOk2 hsq hdb
 refine wp_region_any hm (wpAny_seq2 hok hz hstep hlast ops.size (Array.replicate ops.size false) a0 _ (by simp) ?_ ?_ ⟨rfl,rfl,fun _ _=>rfl,?_⟩ (by simp) hS)
 ·intro i o hi
  rw [Array.getElem?_replicate] at hi
  split at hi<;>cases hi
 ·rw [Array.getElem?_replicate,if_pos (by rw [hok.size];omega)]
 ·intro j hj
  rw [Array.getElem?_replicate] at hj
  split at hj<;>cases hj
end
theorem zbR {P:Program} {Q:Exit→Act→World→Prop} {a0:Act} {id:Nat} {w:World} (f:Nat→Oper) (vals:Nat→Value) (S:Array Bool→World→Prop) (z:Nat) (hm:P.follows .mixedOrders=true) (hsq:seqB (opsA f z) z=true) (hdb:dstB2 (opsA f z) z a0.tmps.size=true) (hS:S (Array.replicate (opsA f z).size false) w.drew)
  (hstep:∀ i,i<z→∀ a w (l:Array Bool),Fr (opsA f z) vals z a0 a (·∈afterOn (f i))→l.size=z+1→l[i]?=some false→(∀ k∈afterOn (f i),l[k]?=some true)→S l w→∀ K:Act→World→Prop,(∀ v,S (l.setIfInBounds i true) v→K (a.put (f i).dst (vals i)) v)→if Region.wanted (f i) (yielded (opsA f z) a.tmps)=true then (f i).wp P a w K Q else K (a.put (f i).dst undef) w)
  (hlast:∀ w (l:Array Bool),(∀ j,j<z→l[j]?=some true)→S l w→∀ K:Act→World→Prop,(∀ b v,Q .normal b v→K b v)→if Region.wanted (f z) (yielded (opsA f z) (putA f vals a0 z).tmps)=true then (f z).wp P (putA f vals a0 z) w K Q else K ((putA f vals a0 z).put (f z).dst undef) w) :
  (Code.region id (opsA f z) true).wp P Q a0 w:=
 wp_region_seq2 vals S z hm hsq hdb (zaA f z (Nat.le_refl _)) hS (fun i o hi ho=>by obtain rfl:=so (zaA f z (Nat.le_of_lt hi)) ho;exact hstep i hi) (fun w l h1 h K hK=>by rw [putA_eq f vals a0 z z (Nat.le_refl _)];exact hlast w l h1 h K hK)
end Go.Proofs.YtmekkhfohmfjkaaGreatDoor
