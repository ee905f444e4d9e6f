/-
  Part 6 of the proof: Ord, Ord2, Ord3, DrM.
-/
import Derived.Test.YtfljimpgnlfipaaGreatDoorTE04
import Derived.Test.YtfljimpgnlfipaaGreatDoorTE02
import Derived.Test.YtfljimpgnlfipaaGreatDoorTE03
import Derived.Test.YtfljimpgnlfipaaGreatDoorTE05
namespace Go.Proofs.YtfljimpgnlfipaaGreatDoor
open Go.RowKit Go.Deep Go.MapKept
def afterOn (o:Oper):List Nat:=(o.after.toList.filter (Region.binds .any)).map (·.on)
def dstOf (ops:Array Oper) (i:Nat):Option Nat:=(ops[i]?).bind (·.dst)
def seqB (ops:Array Oper) (z:Nat):Bool:=
 decide (ops.size=z+1) && (List.range (z+1)).all (fun i=>match ops[i]? with|some o=>(afterOn o).all (fun k=>decide (k<i))|none=>false) &&
  (List.range z).all (fun i=>(List.range (z+1)).any fun j=>decide (i<j) && match ops[j]? with|some o=>(afterOn o).contains i|none=>false)
def dstB (ops:Array Oper) (z n:Nat):Bool:=
 (List.range z).all fun i=>match dstOf ops i with
  | some d=>decide (d<n) && (List.range z).all (fun j=>i==j || !(dstOf ops j==some d))
  | none=>false
structure Fr (ops:Array Oper) (vals:Nat→Value) (z:Nat) (a0 a:Act) (D:Nat→Prop):Prop where
 size:a.tmps.size=a0.tmps.size
 df:a.defers=a0.defers
 old:∀ k,(∀ i,i<z→dstOf ops i≠some k)→a.tmps[k]?=a0.tmps[k]?
 new:∀ j,D j→j<z→∀ d,dstOf ops j=some d→a.tmps[d]?=some (vals j)
def putTo (ops:Array Oper) (vals:Nat→Value) (a0:Act):Nat→Act
 | 0=>a0
 | m+1=>(putTo ops vals a0 m).put (dstOf ops m) (vals m)
theorem act_ext {a b:Act} (h1:a.tmps=b.tmps) (h2:a.defers=b.defers):a=b:=by cases a;cases b;cases h1;cases h2;rfl
theorem zfC {o:Oper} {k:Nat}:k∈afterOn o↔∃ e∈o.after,Region.binds .any e=true∧e.on=k:=by
 unfold afterOn;simp only [List.mem_map,List.mem_filter,Array.mem_toList_iff];constructor
 ·rintro ⟨e,⟨h1,h2⟩,h3⟩;exact ⟨e,h1,h2,h3⟩
 ·rintro ⟨e,h1,h2,h3⟩;exact ⟨e,⟨h1,h2⟩,h3⟩
structure SeqOk (ops:Array Oper) (z n:Nat):Prop where
 size:ops.size=z+1
 back:∀ i o,ops[i]?=some o→∀ k∈afterOn o,k<i
 fore:∀ i,i<z→∃ j o,i<j∧j≤z∧ops[j]?=some o∧i∈afterOn o
 dst:∀ i,i<z→∃ d,dstOf ops i=some d∧d<n∧∀ j,j<z→j≠i→dstOf ops j≠some d
theorem seqOk {ops:Array Oper} {z n:Nat} (h:seqB ops z=true) (hd:dstB ops z n=true):SeqOk ops z n:=by
 unfold seqB at h;simp only [Bool.and_eq_true,decide_eq_true_eq,List.all_eq_true,List.mem_range,List.any_eq_true] at h;obtain ⟨⟨h1,h2⟩,h3⟩:=h;refine ⟨h1,?_,?_,?_⟩
 ·intro i o ho k hk;have hi:i<ops.size:=(Array.getElem?_eq_some_iff.1 ho).1;have:=h2 i (by omega);rw [ho] at this;exact of_decide_eq_true (List.all_eq_true.1 this k hk)
 ·intro i hi;obtain ⟨j,hj,hx⟩:=h3 i hi;cases ho:ops[j]? with
  | none=>rw [ho] at hx;simp at hx
  | some o=>
   rw [ho] at hx;simp only [List.contains_iff_mem] at hx;exact ⟨j,o,hx.1,by omega,ho,hx.2⟩
 ·intro i hi;unfold dstB at hd;have:=List.all_eq_true.1 hd i (List.mem_range.2 hi);cases hdi:dstOf ops i with
  | none=>rw [hdi] at this;cases this
  | some d=>
   rw [hdi] at this;simp only [Bool.and_eq_true,decide_eq_true_eq,List.all_eq_true,List.mem_range,Bool.or_eq_true,beq_iff_eq,Bool.not_eq_true'] at this;refine ⟨d,rfl,this.1,fun j hj hji e => ?_⟩;rcases this.2 j hj with e'|e'
   ·exact hji e'.symm
   ·rw [e] at e';simp at e'
theorem put_size (a:Act) (d:Option Nat) (v:Value):(a.put d v).tmps.size=a.tmps.size:=by cases d<;>simp [Act.put]
theorem put_df (a:Act) (d:Option Nat) (v:Value):(a.put d v).defers=a.defers:=by cases d<;>rfl
theorem zeJ (a:Act) (d k:Nat) (v:Value):(a.put (some d) v).tmps[k]?=if d=k then (if d<a.tmps.size then some v else none) else a.tmps[k]?:=by
 simp only [Act.put,Array.getElem?_setIfInBounds]
theorem putTo_size (ops:Array Oper) (vals:Nat→Value) (a0:Act):∀ m,(putTo ops vals a0 m).tmps.size=a0.tmps.size
 | 0=>rfl
 | m+1=>by simp only [putTo];rw [put_size,putTo_size ops vals a0 m]
theorem putTo_df (ops:Array Oper) (vals:Nat→Value) (a0:Act):∀ m,(putTo ops vals a0 m).defers=a0.defers
 | 0=>rfl
 | m+1=>by simp only [putTo];rw [put_df,putTo_df ops vals a0 m]
theorem putTo_old (ops:Array Oper) (vals:Nat→Value) (a0:Act) (k:Nat):∀ m,(∀ i,i<m→dstOf ops i≠some k)→(putTo ops vals a0 m).tmps[k]?=a0.tmps[k]?
 | 0,_=>rfl
 | m+1,h=>by
  simp only [putTo];have ih:=putTo_old ops vals a0 k m (fun i hi=>h i (by omega));cases hd:dstOf ops m with
  | none=>exact ih
  | some d=>
   rw [zeJ,if_neg (fun e=>h m (by omega) (by rw [hd,e]))];exact ih
theorem putTo_new {ops:Array Oper} {z:Nat} (vals:Nat→Value) (a0:Act) (hok:SeqOk ops z a0.tmps.size) {i d:Nat} (hd:dstOf ops i=some d):∀ m,i<m→m≤z→(putTo ops vals a0 m).tmps[d]?=some (vals i)
 | 0,h,_=>absurd h (by omega)
 | m+1,h,hm=>by
  simp only [putTo];obtain ⟨d',hd',hlt,hne⟩:=hok.dst i (by omega);obtain rfl:d=d':=by rw [hd] at hd';exact Option.some.inj hd'
  by_cases him:i=m
  ·subst him;rw [hd,zeJ,if_pos rfl,putTo_size,if_pos hlt]
  ·have ih:=putTo_new vals a0 hok hd m (by omega) (by omega);cases hdm:dstOf ops m with
   | none=>exact ih
   | some d2=>
    rw [zeJ,if_neg (fun e=>hne m (by omega) (Ne.symm him) (by rw [hdm,e]))];exact ih
theorem fr_all {ops:Array Oper} {vals:Nat→Value} {z:Nat} {a0 a:Act} (hok:SeqOk ops z a0.tmps.size) {D:Nat→Prop} (h:Fr ops vals z a0 a D) (hD:∀ j,j<z→D j):a=putTo ops vals a0 z:=by
 refine act_ext (Array.ext_getElem? fun k => ?_) (h.df.trans (putTo_df ops vals a0 z).symm);by_cases hk:∃ i,i<z∧dstOf ops i=some k
 ·obtain ⟨i,hi,hd⟩:=hk;rw [h.new i (hD i hi) hi k hd,putTo_new vals a0 hok hd z hi (Nat.le_refl _)]
 ·have hk':∀ i,i<z→dstOf ops i≠some k:=fun i hi e=>hk ⟨i,hi,e⟩
  rw [h.old k hk',putTo_old ops vals a0 k z hk']
theorem zeB {l:Array Bool} {i:Nat} (h:l[i]?=some false):(l.setIfInBounds i true).toList.count false+1=l.toList.count false:=by
 have hi:i<l.toList.length:=by have:=(Array.getElem?_eq_some_iff.1 h).1;simpa using this
 have he:l.toList[i]=false:=by
  have:=(Array.getElem?_eq_some_iff.1 h).2;simpa using this
 have h1:1≤l.toList.count false:=List.one_le_count_iff.2 (he▸List.getElem_mem hi);have h2:=List.count_set (a:=true) (b:=false) hi;rw [he] at h2;rw [Array.toList_setIfInBounds,h2];have e1:((false==false)=true):=rfl;have e2:¬ ((true==false)=true):=by decide
 rw [if_pos e1,if_neg e2];omega
theorem zaG {o:Oper} {y:Nat→Option Bool} (h:o.guard=none):Region.wanted o y=true:=by
 unfold Region.wanted;rw [h]
theorem st_pos {c:Bool} {p q:Prop} (h:c=true) (hp:p):if c=true then p else q:=by rw [if_pos h];exact hp
theorem st_neg {c:Bool} {p q:Prop} (h:c=false) (hq:q):if c=true then p else q:=by rw [if_neg (by rw [h];decide)];exact hq
theorem old_of {ops:Array Oper} {z k:Nat} (h:((List.range z).all fun i => !(dstOf ops i==some k))=true):∀ i,i<z→dstOf ops i≠some k:=by
 intro i hi e;have:=List.all_eq_true.1 h i (List.mem_range.2 hi);rw [e] at this;simp at this
theorem so {x:Option Oper} {o p:Oper} (h:x=some o) (k:x=some p):o=p:=Option.some.inj (h.symm.trans k)
theorem Fr.nw {ops:Array Oper} {vals:Nat→Value} {z:Nat} {a0 a:Act} {o:Oper} (hF:Fr ops vals z a0 a (·∈afterOn o)) (j d:Nat) (h:((afterOn o).contains j && decide (j<z) && (dstOf ops j==some d))=true:=by kernel_rfl):a.tmps[d]?=some (vals j):=by
 simp only [Bool.and_eq_true,decide_eq_true_eq,beq_iff_eq] at h;exact hF.new j (List.contains_iff_mem.1 h.1.1) h.1.2 d h.2
theorem Fr.ev {ops:Array Oper} {vals:Nat→Value} {z:Nat} {a0 a:Act} {o:Oper} (hF:Fr ops vals z a0 a (·∈afterOn o)) (j d:Nat) (h:((afterOn o).contains j && decide (j<z) && (dstOf ops j==some d))=true:=by kernel_rfl):a.eval (.tmp d)=vals j:=zaV (hF.nw j d h)
theorem Fr.od {ops:Array Oper} {vals:Nat→Value} {z:Nat} {a0 a:Act} {D:Nat→Prop} (hF:Fr ops vals z a0 a D) (k:Nat) {v:Value} (e:a0.tmps[k]?=some v) (h:((List.range z).all fun i => !(dstOf ops i==some k))=true:=by kernel_rfl):a.eval (.tmp k)=v:=zaV ((hF.old k (old_of h)).trans e)
theorem zaP {P:Program} {Q:Exit→Act→World→Prop} {o:Oper} {a:Act} {w:World} {K:Act→World→Prop} {v:Value} (hr:(execOp a.eval o).run P w=.ok (.value v) w) (hk:K (a.put o.dst v) w):o.wp P a w K Q:=by
 unfold Oper.wp;rw [hr,Oper.upon_value];exact hk
theorem zaU {P:Program} {Q:Exit→Act→World→Prop} {o:Oper} {a:Act} {w:World} {K:Act→World→Prop} {v:Value} {y:Nat→Option Bool} {q:Prop} (hg:o.guard=none) (hr:(execOp a.eval o).run P w=.ok (.value v) w) (hk:K (a.put o.dst v) w):if Region.wanted o y=true then o.wp P a w K Q else q:=st_pos (zaG hg) (zaP hr hk)
theorem zbA {ops:Array Oper} {o:Oper} {a:Act} {g d:Nat} {b:Bool} {p q:Prop} (hg:o.guard=some (g,b)) (hv:a.tmps[d]?=some (.bool b)) (hp:p) (hd:dstOf ops g=some d:=by kernel_rfl):if Region.wanted o (yielded ops a.tmps)=true then p else q:=by
 refine st_pos ?_ hp;unfold Region.wanted;rw [hg];show (yielded ops a.tmps g==some b)=true;rw [yl_of hd hv];simp
theorem zaK {ops:Array Oper} {o:Oper} {a:Act} {g d:Nat} {b:Bool} {p q:Prop} (hg:o.guard=some (g,b)) (hv:a.tmps[d]?=some (.bool !b)) (hq:q) (hd:dstOf ops g=some d:=by kernel_rfl):if Region.wanted o (yielded ops a.tmps)=true then p else q:=by
 refine st_neg ?_ hq;unfold Region.wanted;rw [hg];show (yielded ops a.tmps g==some b)=false;rw [yl_of hd hv];cases b<;>rfl
theorem zbM {l:Array Bool} {i j:Nat} (h:i≠j):(l.setIfInBounds i true)[j]?=l[j]?:=by rw [Array.getElem?_setIfInBounds,if_neg h]
section
variable {P : Program} {ops : Array Oper} {Q : Exit → Act → World → Prop} {S : World → Prop} {vals : Nat → Value} {z : Nat} {a0 : Act}
theorem zcB {l:Array Bool} {i:Nat} {b c:Bool} (h:l[i]?=some b):l.getD i c=b:=by rw [Array.getD_eq_getD_getElem?,h];rfl
theorem wpAny_seq {oz:Oper} (hok:SeqOk ops z a0.tmps.size) (hz:ops[z]?=some oz)
  (hstep:∀ i o,i<z→ops[i]?=some o→∀ a w,Fr ops vals z a0 a (·∈afterOn o)→S w→∀ K:Act→World→Prop,(∀ v,S v→K (a.put o.dst (vals i)) v)→if Region.wanted o (yielded ops a.tmps)=true then o.wp P a w K Q else K (a.put o.dst undef) w)
  (hlast:∀ w,S w→∀ K:Act→World→Prop,(∀ b v,Q .normal b v→K b v)→if Region.wanted oz (yielded ops (putTo ops vals a0 z).tmps)=true then oz.wp P (putTo ops vals a0 z) w K Q else K ((putTo ops vals a0 z).put oz.dst undef) w) :
  ∀ (n:Nat) (l:Array Bool) (a:Act) (w:World),l.size=ops.size→(∀ (i:Nat) (o:Oper),l[i]?=some true→ops[i]?=some o→∀ k∈afterOn o,l[k]?=some true)→l[z]?=some false→Fr ops vals z a0 a (fun j=>l[j]?=some true)→l.toList.count false=n→S w→wpAny P .any ops Q n l a w:=by
 intro n
 induction n with
 | zero=>
  intro l a w _ _ h3 _ h5 _;have:=zeB h3;omega
 | succ n ih=>
  intro l a w h1 h2 h3 h4 h5 hS;have hzs:z<l.size:=(Array.getElem?_eq_some_iff.1 h3).1;have hcase:∀ k,k<l.size→l[k]?=some true∨l[k]?=some false:=fun k hk=>by
   rw [Array.getElem?_eq_getElem hk];cases l[k]<;>simp
  have hmem:∀ i,i∈Region.ready .any ops l↔l[i]?=some false∧∃ o,ops[i]?=some o∧∀ k∈afterOn o,l[k]?=some true:=by
   intro i;rw [mem_ready];constructor
   ·rintro ⟨g1,o,ho,g2⟩;have hi:i<l.size:=by rw [h1];exact (Array.getElem?_eq_some_iff.1 ho).1
    refine ⟨?_,o,ho,fun k hk => ?_⟩
    ·rcases hcase i hi with e|e
     ·rw [zcB e] at g1;cases g1
     ·exact e
    ·obtain ⟨e,he,hb,rfl⟩:=zfC.1 hk;have g3:=g2 e he hb;have hlt:=hok.back i o ho e.on hk;rcases hcase e.on (by omega) with e'|e'
     ·exact e'
     ·rw [zcB e'] at g3;cases g3
   ·rintro ⟨g1,o,ho,g2⟩;exact ⟨zcB g1,o,ho,fun e he hb=>zcB (g2 e.on (zfC.2 ⟨e,he,hb,rfl⟩))⟩
  refine ⟨fun hr => ?_,fun i hi => ?_⟩
  ·exfalso;have key:∀ m,m≤z→(∀ k,k<m→l[k]?=some true):=by
    intro m
    induction m with
    | zero=>intro _ k hk;omega
    | succ m ihm=>
     intro hm k hk;have prev:=ihm (by omega);by_cases hkm:k<m
     ·exact prev k hkm
     ·obtain rfl:k=m:=by omega
      rcases hcase k (by omega) with e|e
      ·exact e
      ·exfalso;have hks:k<ops.size:=by omega
       have:k∈Region.ready .any ops l:=(hmem k).2 ⟨e,ops[k],Array.getElem?_eq_getElem hks,fun j hj=>prev j (hok.back k _ (Array.getElem?_eq_getElem hks) j hj)⟩;rw [hr] at this;simp at this
   have:z∈Region.ready .any ops l:=(hmem z).2 ⟨h3,oz,hz,fun j hj=>key z (Nat.le_refl _) j (hok.back z _ hz j hj)⟩;rw [hr] at this;simp at this
  ·obtain ⟨g1,o,ho,g2⟩:=(hmem i).1 hi;by_cases hiz:i=z
   ·subst hiz;obtain rfl:oz=o:=by rw [hz] at ho;exact Option.some.inj ho
    have hall:∀ (m j:Nat),i-j≤m→j<i→l[j]?=some true:=by
     intro m
     induction m with
     | zero=>intro j h1 h2;omega
     | succ m ihm=>
      intro j hj1 hj2;obtain ⟨k,ok,hjk,hki,hok',hin⟩:=hok.fore j hj2;by_cases hke:k=i
      ·subst hke;obtain rfl:oz=ok:=by rw [hz] at hok';exact Option.some.inj hok'
       exact g2 j hin
      ·exact h2 k ok (ihm k (by omega) (by omega)) hok' j hin
    have ha:a=putTo ops vals a0 i:=fr_all hok h4 (fun j hj=>hall i j (by omega) hj);have hcnt:=zeB g1;have hnone:∀ j:Nat,(l.setIfInBounds i true)[j]?≠some false:=by
     intro j hj;rw [Array.getElem?_setIfInBounds] at hj;split at hj
     ·first
      | (cases hj;done)
      | (split at hj<;>cases hj)
     ·have hjs:=(Array.getElem?_eq_some_iff.1 hj).1;have:=hall i j (by omega) (by rw [h1,hok.size] at hjs;omega);rw [hj] at this;cases this
    have hc0:(l.setIfInBounds i true).toList.count false=0:=by
     refine List.count_eq_zero.2 fun hm => ?_
     obtain ⟨j,hj⟩:=List.getElem?_of_mem hm;exact hnone j (by rw [←Array.getElem?_toList];exact hj)
    have hn0:n=0:=by omega
    subst hn0;subst ha;refine wpOp_step hz fun K' hK'=>hlast w hS K' fun b v hb=>hK' b v ⟨?_,hb⟩
    cases hr:Region.ready .any ops (l.setIfInBounds i true) with
    | nil=>rfl
    | cons j r=>
     exfalso;have hj:j∈Region.ready .any ops (l.setIfInBounds i true):=by rw [hr];simp
     obtain ⟨q1,o',ho',_⟩:=mem_ready.1 hj;have hjs:j<(l.setIfInBounds i true).size:=by rw [Array.size_setIfInBounds,h1];exact (Array.getElem?_eq_some_iff.1 ho').1
     refine hnone j ?_;rw [Array.getElem?_eq_getElem hjs];rw [Array.getD_eq_getD_getElem?,Array.getElem?_eq_getElem hjs] at q1;simpa using q1
   ·have hiz':i<z:=by
     have:=(Array.getElem?_eq_some_iff.1 ho).1;rw [hok.size] at this;omega
    refine wpOp_step ho fun K' hK' => ?_
    refine hstep i o hiz' ho a w ⟨h4.size,h4.df,h4.old,fun j hj hjz d hd=>h4.new j (g2 j hj) hjz d hd⟩ hS K' fun v hv=>hK' _ _ ?_
    obtain ⟨di,hdi,hdlt,hdne⟩:=hok.dst i hiz';have hod:o.dst=some di:=by unfold dstOf at hdi;rw [ho] at hdi;exact hdi
    refine ih _ _ _ (by simpa using h1) ?_ ?_ ?_ (by have:=zeB g1;omega) hv
    ·intro j o' hj ho' k hk;have hkk:l[k]?=some true:=by
      rw [Array.getElem?_setIfInBounds] at hj;split at hj
      ·rename_i hij
       subst hij;obtain rfl:o=o':=by rw [ho] at ho';exact Option.some.inj ho'
       exact g2 k hk
      ·exact h2 j o' hj ho' k hk
     rw [Array.getElem?_setIfInBounds];split
     ·rename_i hik
      subst hik;rw [hkk] at g1;cases g1
     ·exact hkk
    ·rw [Array.getElem?_setIfInBounds,if_neg hiz];exact h3
    ·refine ⟨by rw [hod,put_size];exact h4.size,by rw [hod,put_df];exact h4.df,fun k hk => ?_,fun j hj hjz d hd => ?_⟩
     ·rw [hod,zeJ,if_neg (fun e=>hk i hiz' (by rw [hdi,e]))];exact h4.old k hk
     ·rw [hod,zeJ];by_cases hij:i=j
      ·subst hij;obtain rfl:di=d:=by rw [hdi] at hd;exact Option.some.inj hd
       rw [if_pos rfl,h4.size,if_pos hdlt]
      ·rw [if_neg (fun e=>hdne j hjz (Ne.symm hij) (by rw [hd,e]))];refine h4.new j ?_ hjz d hd;rw [Array.getElem?_setIfInBounds,if_neg hij] at hj;exact hj
theorem wp_region_seq {id:Nat} {w:World} {oz:Oper} (vals:Nat→Value) (S:World→Prop) (z:Nat) (hm:P.follows .mixedOrders=true) (hsq:seqB ops z=true) (hdb:dstB ops z a0.tmps.size=true) (hz:ops[z]?=some oz) (hS:S w.drew)
  (hstep:∀ i o,i<z→ops[i]?=some o→∀ a w,Fr ops vals z a0 a (·∈afterOn o)→S w→∀ K:Act→World→Prop,(∀ v,S v→K (a.put o.dst (vals i)) v)→if Region.wanted o (yielded ops a.tmps)=true then o.wp P a w K Q else K (a.put o.dst undef) w)
  (hlast:∀ w,S w→∀ K:Act→World→Prop,(∀ b v,Q .normal b v→K b v)→if Region.wanted oz (yielded ops (putTo ops vals a0 z).tmps)=true then oz.wp P (putTo ops vals a0 z) w K Q else K ((putTo ops vals a0 z).put oz.dst undef) w) :
  (Code.region id ops true).wp P Q a0 w:=by
 have hok:=seqOk hsq hdb;refine wp_region_any hm (wpAny_seq hok hz hstep hlast ops.size (Array.replicate ops.size false) a0 _ (by simp) ?_ ?_ ⟨rfl,rfl,fun _ _=>rfl,?_⟩ (by simp) hS)
 ·intro i o hi;rw [Array.getElem?_replicate] at hi;split at hi<;>cases hi
 ·rw [Array.getElem?_replicate,if_pos (by rw [hok.size];omega)]
 ·intro j hj;rw [Array.getElem?_replicate] at hj;split at hj<;>cases hj
end
def putA (f:Nat→Oper) (vals:Nat→Value) (a0:Act):Nat→Act
 | 0=>a0
 | m+1=>(putA f vals a0 m).put (f m).dst (vals m)
theorem putA_eq (f:Nat→Oper) (vals:Nat→Value) (a0:Act) (z:Nat):∀ m,m≤z→putTo (opsA f z) vals a0 m=putA f vals a0 m
 | 0,_=>rfl
 | m+1,h=>by
  simp only [putTo,putA];rw [putA_eq f vals a0 z m (by omega)];unfold dstOf;rw [zdA f z (by omega)];rfl
theorem zaQ {P:Program} {Q:Exit→Act→World→Prop} {a0:Act} {id:Nat} {w:World} (f:Nat→Oper) (vals:Nat→Value) (S:World→Prop) (z:Nat) (hm:P.follows .mixedOrders=true) (hsq:seqB (opsA f z) z=true) (hdb:dstB (opsA f z) z a0.tmps.size=true) (hS:S w.drew)
  (hstep:∀ i,i<z→∀ a w,Fr (opsA f z) vals z a0 a (·∈afterOn (f i))→S w→∀ K:Act→World→Prop,(∀ v,S v→K (a.put (f i).dst (vals i)) v)→if Region.wanted (f i) (yielded (opsA f z) a.tmps)=true then (f i).wp P a w K Q else K (a.put (f i).dst undef) w)
  (hlast:∀ w,S w→∀ K:Act→World→Prop,(∀ b v,Q .normal b v→K b v)→if Region.wanted (f z) (yielded (opsA f z) (putA f vals a0 z).tmps)=true then (f z).wp P (putA f vals a0 z) w K Q else K ((putA f vals a0 z).put (f z).dst undef) w) :
  (Code.region id (opsA f z) true).wp P Q a0 w:=
 wp_region_seq vals S z hm hsq hdb (zdA f z (Nat.le_refl _)) hS (fun i o hi ho=>by obtain rfl:=so (zdA f z (Nat.le_of_lt hi)) ho;exact hstep i hi) (fun w h K hK=>by rw [putA_eq f vals a0 z z (Nat.le_refl _)];exact hlast w h K hK)
open Go.RowKit Go.Deep Go.MapKept
def dstB2 (ops:Array Oper) (z n:Nat):Bool:=
 (List.range z).all fun i=>match dstOf ops i with
  | some d=>decide (d<n) && (List.range z).all (fun j=>i==j || !(dstOf ops j==some d))
  | none=>true
structure SeqOk2 (ops:Array Oper) (z n:Nat):Prop where
 size:ops.size=z+1
 back:∀ i o,ops[i]?=some o→∀ k∈afterOn o,k<i
 fore:∀ i,i<z→∃ j o,i<j∧j≤z∧ops[j]?=some o∧i∈afterOn o
 dst:∀ i,i<z→∀ d,dstOf ops i=some d→d<n∧∀ j,j<z→j≠i→dstOf ops j≠some d
theorem seqOk2 {ops:Array Oper} {z n:Nat} (h:seqB ops z=true) (hd:dstB2 ops z n=true):SeqOk2 ops z n:=by
 unfold seqB at h;simp only [Bool.and_eq_true,decide_eq_true_eq,List.all_eq_true,List.mem_range,List.any_eq_true] at h;obtain ⟨⟨h1,h2⟩,h3⟩:=h;refine ⟨h1,?_,?_,?_⟩
 ·intro i o ho k hk;have hi:i<ops.size:=(Array.getElem?_eq_some_iff.1 ho).1;have:=h2 i (by omega);rw [ho] at this;exact of_decide_eq_true (List.all_eq_true.1 this k hk)
 ·intro i hi;obtain ⟨j,hj,hx⟩:=h3 i hi;cases ho:ops[j]? with
  | none=>rw [ho] at hx;simp at hx
  | some o=>
   rw [ho] at hx;simp only [List.contains_iff_mem] at hx;exact ⟨j,o,hx.1,by omega,ho,hx.2⟩
 ·intro i hi d hdi;unfold dstB2 at hd;have:=List.all_eq_true.1 hd i (List.mem_range.2 hi);rw [hdi] at this;simp only [Bool.and_eq_true,decide_eq_true_eq,List.all_eq_true,List.mem_range,Bool.or_eq_true,beq_iff_eq,Bool.not_eq_true'] at this;refine ⟨this.1,fun j hj hji e => ?_⟩;rcases this.2 j hj with e'|e'
  ·exact hji e'.symm
  ·rw [e] at e';simp at e'
theorem putTo_new2 {ops:Array Oper} {z:Nat} (vals:Nat→Value) (a0:Act) (hok:SeqOk2 ops z a0.tmps.size) {i d:Nat} (hd:dstOf ops i=some d):∀ m,i<m→m≤z→(putTo ops vals a0 m).tmps[d]?=some (vals i)
 | 0,h,_=>absurd h (by omega)
 | m+1,h,hm=>by
  simp only [putTo];obtain ⟨hlt,hne⟩:=hok.dst i (by omega) d hd;by_cases him:i=m
  ·subst him;rw [hd,zeJ,if_pos rfl,putTo_size,if_pos hlt]
  ·have ih:=putTo_new2 vals a0 hok hd m (by omega) (by omega);cases hdm:dstOf ops m with
   | none=>exact ih
   | some d2=>
    rw [zeJ,if_neg (fun e=>hne m (by omega) (Ne.symm him) (by rw [hdm,e]))];exact ih
theorem fr_all2 {ops:Array Oper} {vals:Nat→Value} {z:Nat} {a0 a:Act} (hok:SeqOk2 ops z a0.tmps.size) {D:Nat→Prop} (h:Fr ops vals z a0 a D) (hD:∀ j,j<z→D j):a=putTo ops vals a0 z:=by
 refine act_ext (Array.ext_getElem? fun k => ?_) (h.df.trans (putTo_df ops vals a0 z).symm);by_cases hk:∃ i,i<z∧dstOf ops i=some k
 ·obtain ⟨i,hi,hd⟩:=hk;rw [h.new i (hD i hi) hi k hd,putTo_new2 vals a0 hok hd z hi (Nat.le_refl _)]
 ·have hk':∀ i,i<z→dstOf ops i≠some k:=fun i hi e=>hk ⟨i,hi,e⟩
  rw [h.old k hk',putTo_old ops vals a0 k z hk']
section
variable {P : Program} {ops : Array Oper} {Q : Exit → Act → World → Prop} {S : Array Bool → World → Prop} {vals : Nat → Value} {z : Nat} {a0 : Act}
theorem wpAny_seq2 {oz:Oper} (hok:SeqOk2 ops z a0.tmps.size) (hz:ops[z]?=some oz)
  (hstep:∀ i o,i<z→ops[i]?=some o→∀ a w (l:Array Bool),Fr ops vals z a0 a (·∈afterOn o)→l.size=z+1→l[i]?=some false→(∀ k∈afterOn o,l[k]?=some true)→S l w→∀ K:Act→World→Prop,(∀ v,S (l.setIfInBounds i true) v→K (a.put o.dst (vals i)) v)→if Region.wanted o (yielded ops a.tmps)=true then o.wp P a w K Q else K (a.put o.dst undef) w)
  (hlast:∀ w (l:Array Bool),(∀ j,j<z→l[j]?=some true)→S l w→∀ K:Act→World→Prop,(∀ b v,Q .normal b v→K b v)→if Region.wanted oz (yielded ops (putTo ops vals a0 z).tmps)=true then oz.wp P (putTo ops vals a0 z) w K Q else K ((putTo ops vals a0 z).put oz.dst undef) w) :
  ∀ (n:Nat) (l:Array Bool) (a:Act) (w:World),l.size=ops.size→(∀ (i:Nat) (o:Oper),l[i]?=some true→ops[i]?=some o→∀ k∈afterOn o,l[k]?=some true)→l[z]?=some false→Fr ops vals z a0 a (fun j=>l[j]?=some true)→l.toList.count false=n→S l w→wpAny P .any ops Q n l a w:=by
 intro n
 induction n with
 | zero=>
  intro l a w _ _ h3 _ h5 _;have:=zeB h3;omega
 | succ n ih=>
  intro l a w h1 h2 h3 h4 h5 hS;have hzs:z<l.size:=(Array.getElem?_eq_some_iff.1 h3).1;have hcase:∀ k,k<l.size→l[k]?=some true∨l[k]?=some false:=fun k hk=>by
   rw [Array.getElem?_eq_getElem hk];cases l[k]<;>simp
  have hmem:∀ i,i∈Region.ready .any ops l↔l[i]?=some false∧∃ o,ops[i]?=some o∧∀ k∈afterOn o,l[k]?=some true:=by
   intro i;rw [mem_ready];constructor
   ·rintro ⟨g1,o,ho,g2⟩;have hi:i<l.size:=by rw [h1];exact (Array.getElem?_eq_some_iff.1 ho).1
    refine ⟨?_,o,ho,fun k hk => ?_⟩
    ·rcases hcase i hi with e|e
     ·rw [zcB e] at g1;cases g1
     ·exact e
    ·obtain ⟨e,he,hb,rfl⟩:=zfC.1 hk;have g3:=g2 e he hb;have hlt:=hok.back i o ho e.on hk;rcases hcase e.on (by omega) with e'|e'
     ·exact e'
     ·rw [zcB e'] at g3;cases g3
   ·rintro ⟨g1,o,ho,g2⟩;exact ⟨zcB g1,o,ho,fun e he hb=>zcB (g2 e.on (zfC.2 ⟨e,he,hb,rfl⟩))⟩
  refine ⟨fun hr => ?_,fun i hi => ?_⟩
  ·exfalso;have key:∀ m,m≤z→(∀ k,k<m→l[k]?=some true):=by
    intro m
    induction m with
    | zero=>intro _ k hk;omega
    | succ m ihm=>
     intro hm k hk;have prev:=ihm (by omega);by_cases hkm:k<m
     ·exact prev k hkm
     ·obtain rfl:k=m:=by omega
      rcases hcase k (by omega) with e|e
      ·exact e
      ·exfalso;have hks:k<ops.size:=by omega
       have:k∈Region.ready .any ops l:=(hmem k).2 ⟨e,ops[k],Array.getElem?_eq_getElem hks,fun j hj=>prev j (hok.back k _ (Array.getElem?_eq_getElem hks) j hj)⟩;rw [hr] at this;simp at this
   have:z∈Region.ready .any ops l:=(hmem z).2 ⟨h3,oz,hz,fun j hj=>key z (Nat.le_refl _) j (hok.back z _ hz j hj)⟩;rw [hr] at this;simp at this
  ·obtain ⟨g1,o,ho,g2⟩:=(hmem i).1 hi;by_cases hiz:i=z
   ·subst hiz;obtain rfl:oz=o:=by rw [hz] at ho;exact Option.some.inj ho
    have hall:∀ (m j:Nat),i-j≤m→j<i→l[j]?=some true:=by
     intro m
     induction m with
     | zero=>intro j h1 h2;omega
     | succ m ihm=>
      intro j hj1 hj2;obtain ⟨k,ok,hjk,hki,hok',hin⟩:=hok.fore j hj2;by_cases hke:k=i
      ·subst hke;obtain rfl:oz=ok:=by rw [hz] at hok';exact Option.some.inj hok'
       exact g2 j hin
      ·exact h2 k ok (ihm k (by omega) (by omega)) hok' j hin
    have ha:a=putTo ops vals a0 i:=fr_all2 hok h4 (fun j hj=>hall i j (by omega) hj);have hcnt:=zeB g1;have hnone:∀ j:Nat,(l.setIfInBounds i true)[j]?≠some false:=by
     intro j hj;rw [Array.getElem?_setIfInBounds] at hj;split at hj
     ·first
      | (cases hj;done)
      | (split at hj<;>cases hj)
     ·have hjs:=(Array.getElem?_eq_some_iff.1 hj).1;have:=hall i j (by omega) (by rw [h1,hok.size] at hjs;omega);rw [hj] at this;cases this
    have hc0:(l.setIfInBounds i true).toList.count false=0:=by
     refine List.count_eq_zero.2 fun hm => ?_
     obtain ⟨j,hj⟩:=List.getElem?_of_mem hm;exact hnone j (by rw [←Array.getElem?_toList];exact hj)
    have hn0:n=0:=by omega
    subst hn0;subst ha;refine wpOp_step hz fun K' hK'=>hlast w l (fun j hj=>hall i j (by omega) hj) hS K' fun b v hb=>hK' b v ⟨?_,hb⟩
    cases hr:Region.ready .any ops (l.setIfInBounds i true) with
    | nil=>rfl
    | cons j r=>
     exfalso;have hj:j∈Region.ready .any ops (l.setIfInBounds i true):=by rw [hr];simp
     obtain ⟨q1,o',ho',_⟩:=mem_ready.1 hj;have hjs:j<(l.setIfInBounds i true).size:=by rw [Array.size_setIfInBounds,h1];exact (Array.getElem?_eq_some_iff.1 ho').1
     refine hnone j ?_;rw [Array.getElem?_eq_getElem hjs];rw [Array.getD_eq_getD_getElem?,Array.getElem?_eq_getElem hjs] at q1;simpa using q1
   ·have hiz':i<z:=by
     have:=(Array.getElem?_eq_some_iff.1 ho).1;rw [hok.size] at this;omega
    refine wpOp_step ho fun K' hK' => ?_
    refine hstep i o hiz' ho a w l ⟨h4.size,h4.df,h4.old,fun j hj hjz d hd=>h4.new j (g2 j hj) hjz d hd⟩ (by rw [h1,hok.size]) g1 g2 hS K' fun v hv=>hK' _ _ ?_
    have hod:o.dst=dstOf ops i:=by unfold dstOf;rw [ho];rfl
    refine ih _ _ _ (by simpa using h1) ?_ ?_ ?_ (by have:=zeB g1;omega) hv
    ·intro j o' hj ho' k hk;have hkk:l[k]?=some true:=by
      rw [Array.getElem?_setIfInBounds] at hj;split at hj
      ·rename_i hij
       subst hij;obtain rfl:o=o':=by rw [ho] at ho';exact Option.some.inj ho'
       exact g2 k hk
      ·exact h2 j o' hj ho' k hk
     rw [Array.getElem?_setIfInBounds];split
     ·rename_i hik
      subst hik;rw [hkk] at g1;cases g1
     ·exact hkk
    ·rw [Array.getElem?_setIfInBounds,if_neg hiz];exact h3
    ·refine ⟨by rw [put_size];exact h4.size,by rw [put_df];exact h4.df,fun k hk => ?_,fun j hj hjz d hd => ?_⟩
     ·rw [hod];cases hdi:dstOf ops i with
      | none=>exact h4.old k hk
      | some di=>
       rw [zeJ,if_neg (fun e=>hk i hiz' (by rw [hdi,e]))];exact h4.old k hk
     ·rw [hod];by_cases hij:i=j
      ·subst hij;rw [hd,zeJ,if_pos rfl,h4.size,if_pos (hok.dst i hiz' d hd).1]
      ·have hold:a.tmps[d]?=some (vals j):=by
        refine h4.new j ?_ hjz d hd;rw [Array.getElem?_setIfInBounds,if_neg hij] at hj;exact hj
       cases hdi:dstOf ops i with
       | none=>exact hold
       | some di=>
        rw [zeJ,if_neg (fun e=>(hok.dst j hjz d hd).2 i hiz' hij (by rw [hdi,e]))];exact hold
theorem wp_region_seq2 {id:Nat} {w:World} {oz:Oper} (vals:Nat→Value) (S:Array Bool→World→Prop) (z:Nat) (hm:P.follows .mixedOrders=true) (hsq:seqB ops z=true) (hdb:dstB2 ops z a0.tmps.size=true) (hz:ops[z]?=some oz) (hS:S (Array.replicate ops.size false) w.drew)
  (hstep:∀ i o,i<z→ops[i]?=some o→∀ a w (l:Array Bool),Fr ops vals z a0 a (·∈afterOn o)→l.size=z+1→l[i]?=some false→(∀ k∈afterOn o,l[k]?=some true)→S l w→∀ K:Act→World→Prop,(∀ v,S (l.setIfInBounds i true) v→K (a.put o.dst (vals i)) v)→if Region.wanted o (yielded ops a.tmps)=true then o.wp P a w K Q else K (a.put o.dst undef) w)
  (hlast:∀ w (l:Array Bool),(∀ j,j<z→l[j]?=some true)→S l w→∀ K:Act→World→Prop,(∀ b v,Q .normal b v→K b v)→if Region.wanted oz (yielded ops (putTo ops vals a0 z).tmps)=true then oz.wp P (putTo ops vals a0 z) w K Q else K ((putTo ops vals a0 z).put oz.dst undef) w) :
  (Code.region id ops true).wp P Q a0 w:=by
 have hok:=seqOk2 hsq hdb;refine wp_region_any hm (wpAny_seq2 hok hz hstep hlast ops.size (Array.replicate ops.size false) a0 _ (by simp) ?_ ?_ ⟨rfl,rfl,fun _ _=>rfl,?_⟩ (by simp) hS)
 ·intro i o hi;rw [Array.getElem?_replicate] at hi;split at hi<;>cases hi
 ·rw [Array.getElem?_replicate,if_pos (by rw [hok.size];omega)]
 ·intro j hj;rw [Array.getElem?_replicate] at hj;split at hj<;>cases hj
end
theorem zdC {P:Program} {Q:Exit→Act→World→Prop} {a0:Act} {id:Nat} {w:World} (f:Nat→Oper) (vals:Nat→Value) (S:Array Bool→World→Prop) (z:Nat) (hm:P.follows .mixedOrders=true) (hsq:seqB (opsA f z) z=true) (hdb:dstB2 (opsA f z) z a0.tmps.size=true) (hS:S (Array.replicate (opsA f z).size false) w.drew)
  (hstep:∀ i,i<z→∀ a w (l:Array Bool),Fr (opsA f z) vals z a0 a (·∈afterOn (f i))→l.size=z+1→l[i]?=some false→(∀ k∈afterOn (f i),l[k]?=some true)→S l w→∀ K:Act→World→Prop,(∀ v,S (l.setIfInBounds i true) v→K (a.put (f i).dst (vals i)) v)→if Region.wanted (f i) (yielded (opsA f z) a.tmps)=true then (f i).wp P a w K Q else K (a.put (f i).dst undef) w)
  (hlast:∀ w (l:Array Bool),(∀ j,j<z→l[j]?=some true)→S l w→∀ K:Act→World→Prop,(∀ b v,Q .normal b v→K b v)→if Region.wanted (f z) (yielded (opsA f z) (putA f vals a0 z).tmps)=true then (f z).wp P (putA f vals a0 z) w K Q else K ((putA f vals a0 z).put (f z).dst undef) w) :
  (Code.region id (opsA f z) true).wp P Q a0 w:=
 wp_region_seq2 vals S z hm hsq hdb (zdA f z (Nat.le_refl _)) hS (fun i o hi ho=>by obtain rfl:=so (zdA f z (Nat.le_of_lt hi)) ho;exact hstep i hi) (fun w l h1 h K hK=>by rw [putA_eq f vals a0 z z (Nat.le_refl _)];exact hlast w l h1 h K hK)
end Go.Proofs.YtfljimpgnlfipaaGreatDoor

namespace Go.Proofs.YtfljimpgnlfipaaGreatDoor
open Go.RowKit Go.Deep Go.MapKept
structure Dx where
 w0:World
 B:Nat
 fv:Value
 fs:List FV
 sz:Nat→Nat
 mv:Value
def Dx.l (c:Dx):List Frm:=c.fs.map Prod.fst
structure Dx.Ok (c:Dx):Prop where
 row:SeesC c.w0 c.fv c.fs.length 5 (flatF c.fs)
 kid:∀ (i:Nat) (x:FV),c.fs[i]?=some x→SeesC c.w0 x.2 x.1.kids.length 1 (ints x.1.kids)∧Roomy x.2
 len:c.fs.length≤400
 kidlt:∀ (i:Nat) (x:FV),c.fs[i]?=some x→∀ k∈x.1.kids,i<k∧k<c.fs.length
 kidlen:∀ (i:Nat) (x:FV),c.fs[i]?=some x→x.1.kids.length≤400
 txt:∀ (i:Nat) (x:FV),c.fs[i]?=some x→x.1.s.size≤140737488355328
 szk:∀ (i:Nat) (x:FV),c.fs[i]?=some x→1+(x.1.kids.map c.sz).sum≤c.sz i
def wcells:Option (Int × Int)→List Value
 | none=>[.bool false,.int .i64 0,.int .i64 0]
 | some (a,y)=>[.bool true,.int .i64 a,.int .i64 y]
def dbox (c:Dx) (p:PV) (er:Option (Int × Int)):Rw:=⟨bx c.B,101,8,1,[c.fv,p.dv,p.xv,p.sv,p.mv]++wcells er⟩
def drows (c:Dx) (p:PV) (er:Option (Int × Int)):List Rw:=dbox c p er::dRow p::xRow p::sRow p::mRow p::(p.xs.map kRow++p.ss.flatMap sRows)
def PV.many (p:PV):Nat:=p.xs.length+p.ss.length
structure DrS (c:Dx) (p:PV) (er:Option (Int × Int)) (X:List Rw) (w:World):Prop where
 below:Below c.w0.heap.size c.w0 w
 rows:RowsP w c.w0.heap.size (drows c p er++X)
 ok:PrgOk p.prg∧p.mv=c.mv
section
variable {c : Dx} {p : PV} {er : Option (Int × Int)} {X : List Rw} {w w' : World} {u : Value}
theorem DrS.on (h:DrS c p er X w) {w':World} (hb:Below w.heap.size w w'):DrS c p er X w':=⟨h.below.trans (hb.mono h.below.size),h.rows.below hb,h.ok⟩
theorem DrS.drew (h:DrS c p er X w):DrS c p er X w.drew:=⟨h.below.drew,h.rows.drew,h.ok⟩
theorem DrS.alloc (h:DrS c p er X w) (o:Obj):DrS c p er X (w.alloc o):=⟨h.below.alloc h.below.size o,h.rows.alloc o,h.ok⟩
theorem DrS.box (h:DrS c p er X w):w.ownsRow c.w0.heap.size 101 8 (bx c.B) 1 (dbox c p er).xs:=RowsP.head (r:=dbox c p er) h.rows
theorem DrS.cell (h:DrS c p er X w) {j:Nat} {u:Value} (hj:(dbox c p er).xs[j]?=some u):w.cell? ⟨c.B,j,none⟩=some u:=zaA h.box hj
theorem DrS.free (h:DrS c p er X w) (j:Nat):w.frozen? ⟨c.B,j,none⟩=false:=zcT h.box j
theorem DrS.lt (h:DrS c p er X w):c.w0.heap.size≤c.B∧c.B<w.heap.size:=h.box.lt c.B rfl
theorem DrS.size (h:DrS c p er X w):c.w0.heap.size≤w.heap.size:=h.below.size
theorem DrS.more (h:DrS c p er X w) {r:Rw} (hr:RowsP w c.w0.heap.size (r::(drows c p er++X))):DrS c p er (r::X) w:=
 ⟨h.below,hr.perm (List.perm_middle.symm),h.ok⟩
theorem DrS.less {r:Rw} (h:DrS c p er (r::X) w):DrS c p er X w:=
 ⟨h.below,(h.rows.perm List.perm_middle).rest,h.ok⟩
theorem DrS.first {r:Rw} (h:DrS c p er (r::X) w):RowsP w c.w0.heap.size (r::(drows c p er++X)):=h.rows.perm List.perm_middle
theorem DrS.var (h:DrS c p er X w) (cs:Array Value) (ty:TypeId) (n:Nat) (hn:cs.size=n):DrS c p er (⟨bx w.heap.size,ty,n,1,cs.toList⟩::X) (w.alloc (.cells cs ty)):=
 (h.alloc _).more ((h.rows).add (r:=⟨bx w.heap.size,ty,n,1,cs.toList⟩) ((h.rows).alloc _) (box_new w _ ty n cs h.size hn) (fun k hk=>by cases hk;exact Nat.le_refl _))
theorem DrS.setv {V ty n j:Nat} {xs:List Value} (h:DrS c p er (⟨bx V,ty,n,1,xs⟩::X) w) (v:Value):DrS c p er (⟨bx V,ty,n,1,xs.set j v⟩::X) (w.setCell ⟨V,j,none⟩ v):=by
 have h1:=h.first.setc (g:=V) (cap:=1) (j:=j) rfl v;have hl:=(h.first.head.lt V rfl).1;exact ⟨h.below.setCell hl v,h1.perm (List.perm_middle.symm),h.ok⟩
theorem DrS.vcell {V ty n:Nat} {xs:List Value} (h:DrS c p er (⟨bx V,ty,n,1,xs⟩::X) w) {j:Nat} {v:Value} (hj:xs[j]?=some v):w.cell? ⟨V,j,none⟩=some v:=zaA h.first.head hj
theorem DrS.vfree {V ty n:Nat} {xs:List Value} (h:DrS c p er (⟨bx V,ty,n,1,xs⟩::X) w) (j:Nat):w.frozen? ⟨V,j,none⟩=false:=zcT h.first.head j
theorem DrS.vlt {V ty n:Nat} {xs:List Value} (h:DrS c p er (⟨bx V,ty,n,1,xs⟩::X) w):c.w0.heap.size≤V∧V<w.heap.size:=h.first.head.lt V rfl
theorem DrS.fail (h:DrS c p none X w) (a y:Int):DrS c p (some (a,y)) X (((w.setCell ⟨c.B,5,none⟩ (.bool true)).setCell ⟨c.B,6,none⟩ (.int .i64 a)).setCell ⟨c.B,7,none⟩ (.int .i64 y)):=by
 have h1:=((h.rows.setc (r:=dbox c p none) (g:=c.B) (cap:=1) (j:=5) rfl (.bool true)).setc (g:=c.B) (cap:=1) (j:=6) rfl (.int .i64 a)).setc (g:=c.B) (cap:=1) (j:=7) rfl (.int .i64 y);exact ⟨((h.below.setCell h.lt.1 _).setCell h.lt.1 _).setCell h.lt.1 _,h1,h.ok⟩
theorem DrS.xown (h:DrS c p er X w):RowsP w c.w0.heap.size (xRow p::dbox c p er::dRow p::sRow p::mRow p::((p.xs.map kRow++p.ss.flatMap sRows)++X)):=h.rows.perm (perm_app5 _ _ _ _ _ _)
theorem DrS.sown (h:DrS c p er X w):RowsP w c.w0.heap.size (sRow p::dbox c p er::dRow p::xRow p::mRow p::((p.xs.map kRow++p.ss.flatMap sRows)++X)):=h.rows.perm (perm_app5s _ _ _ _ _ _)
theorem DrS.down (h:DrS c p er X w):RowsP w c.w0.heap.size (dRow p::dbox c p er::xRow p::sRow p::mRow p::((p.xs.map kRow++p.ss.flatMap sRows)++X)):=h.rows.perm (perm_app5d _ _ _ _ _ _)
theorem DrS.mown (h:DrS c p er X w):RowsP w c.w0.heap.size (mRow p::dbox c p er::dRow p::xRow p::sRow p::((p.xs.map kRow++p.ss.flatMap sRows)++X)):=h.rows.perm (perm_app5m _ _ _ _ _ _)
theorem DrS.addX {x:Exp} {kv:Value} (h:DrS c p er (iRow kv x.kids::X) w) (hx:x.k<256∧x.of<256∧x.op<256∧SmlN x.name∧x.kids.length≤1099511627776) (hm:p.xs.length<1099511627776) (hg:w.grownBy w' p.xv.ownBlock) (ho:w'.ownsRow c.w0.heap.size 82 6 u (p.xs.length+1) (flatX p.xs++xcells (x,kv))) (hb:u.ownBlock=p.xv.ownBlock∨u.ownBlock=some w.heap.size):DrS c { p with xs:=p.xs++[(x,kv)],xv:=u } er X (w'.setCell ⟨c.B,2,none⟩ u):=by
 have h1:=rows_swap (j:=2) (r':=xRow { p with xs:=p.xs++[(x,kv)],xv:=u }) h.xown hg (by
  show w'.ownsRow c.w0.heap.size 82 6 u (p.xs++[(x,kv)]).length (flatX (p.xs++[(x,kv)]));rw [List.length_append,flatX_snoc];exact ho) hb
 refine ⟨zeW (n:=0) (base:=0) (r':=xRow p) h.below h.xown hg h.lt.1 rfl rfl rfl u,?_,?_⟩
 ·have h2:=h1.perm ((List.perm_middle (l₁:=[dRow p]) (a:=xRow { p with xs:=p.xs++[(x,kv)],xv:=u })).symm.cons _);refine h2.perm (.cons _ (.cons _ (.cons _ (.cons _ (.cons _ ?_)))));have:=perm_kid (p.xs.map kRow) (p.ss.flatMap sRows) X (iRow kv x.kids);simpa [kRow,iRow] using this
 ·have ho:=h.ok.1;refine ⟨⟨ho.dl,?_,ho.sl,ho.ml,ho.d,?_,ho.s⟩,h.ok.2⟩
  ·simp [PV.prg];omega
  ·intro y hy;simp only [PV.prg,List.map_append,List.map_cons,List.map_nil,List.mem_append,List.mem_singleton] at hy;rcases hy with hy|rfl
   ·exact ho.x y hy
   ·exact hx
theorem DrS.addS {s:SV} (h:DrS c p er (aRow s.av s.s.acts::iRow s.tv s.s.thn::iRow s.ev s.s.els::X) w) (hs:s.s.k<256∧s.s.op<256∧SmlN s.s.name∧s.s.acts.length≤1099511627776∧s.s.thn.length≤1099511627776∧s.s.els.length≤1099511627776∧∀ a∈s.s.acts,ActOk a) (hm:p.ss.length<1099511627776) (hg:w.grownBy w' p.sv.ownBlock) (ho:w'.ownsRow c.w0.heap.size 49 8 u (p.ss.length+1) (flatS p.ss++scells s)) (hb:u.ownBlock=p.sv.ownBlock∨u.ownBlock=some w.heap.size):DrS c { p with ss:=p.ss++[s],sv:=u } er X (w'.setCell ⟨c.B,3,none⟩ u):=by
 have h1:=rows_swap (j:=3) (r':=sRow { p with ss:=p.ss++[s],sv:=u }) h.sown hg (by
  show w'.ownsRow c.w0.heap.size 49 8 u (p.ss++[s]).length (flatS (p.ss++[s]));rw [List.length_append,flatS_snoc];exact ho) hb
 refine ⟨zeW (n:=0) (base:=0) (r':=sRow p) h.below h.sown hg h.lt.1 rfl rfl rfl u,?_,?_⟩
 ·have h2:=h1.perm ((List.perm_middle (l₁:=[dRow p,xRow p]) (a:=sRow { p with ss:=p.ss++[s],sv:=u })).symm.cons _);refine h2.perm (.cons _ (.cons _ (.cons _ (.cons _ (.cons _ ?_)))));simp [sRows,iRow,aRow]
 ·have ho:=h.ok.1;refine ⟨⟨ho.dl,ho.xl,?_,ho.ml,ho.d,ho.x,?_⟩,h.ok.2⟩
  ·simp [PV.prg];omega
  ·intro y hy;simp only [PV.prg,List.map_append,List.map_cons,List.map_nil,List.mem_append,List.mem_singleton] at hy;rcases hy with hy|rfl
   ·exact ho.s y hy
   ·exact hs
theorem DrS.addD {d:Dcl} (h:DrS c p er X w) (hd:d.side<256∧d.kind<256∧SmlN d.name) (hm:p.ds.length<1099511627776) (hg:w.grownBy w' p.dv.ownBlock) (ho:w'.ownsRow c.w0.heap.size 106 3 u (p.ds.length+1) (flatD p.ds++dcells d)) (hb:u.ownBlock=p.dv.ownBlock∨u.ownBlock=some w.heap.size):DrS c { p with ds:=p.ds++[d],dv:=u } er X (w'.setCell ⟨c.B,1,none⟩ u):=by
 have h1:=rows_swap (j:=1) (r':=dRow { p with ds:=p.ds++[d],dv:=u }) h.down hg (by
  show w'.ownsRow c.w0.heap.size 106 3 u (p.ds++[d]).length (flatD (p.ds++[d]));rw [List.length_append,flatD_snoc];exact ho) hb
 refine ⟨zeW (n:=0) (base:=0) (r':=dRow p) h.below h.down hg h.lt.1 rfl rfl rfl u,h1,?_⟩;have ho:=h.ok.1;refine ⟨⟨?_,ho.xl,ho.sl,ho.ml,?_,ho.x,ho.s⟩,h.ok.2⟩
 ·simp [PV.prg];omega
 ·intro y hy;simp only [PV.prg,List.mem_append,List.mem_singleton] at hy;rcases hy with hy|rfl
  ·exact ho.d y hy
  ·exact hd
theorem DrS.addM {i:Int} (h:DrS c p er X w) (hm:p.ms.length<1099511627776) (hg:w.grownBy w' p.mv.ownBlock) (ho:w'.ownsRow c.w0.heap.size 3 1 u (p.ms.length+1) (intsI p.ms++[.int .i64 i])) (hb:u.ownBlock=p.mv.ownBlock∨u.ownBlock=some w.heap.size):DrS { c with mv:=u } { p with ms:=p.ms++[i],mv:=u } er X (w'.setCell ⟨c.B,4,none⟩ u):=by
 have h1:=rows_swap (j:=4) (r':=mRow { p with ms:=p.ms++[i],mv:=u }) h.mown hg (by
  show w'.ownsRow c.w0.heap.size 3 1 u (p.ms++[i]).length (intsI (p.ms++[i]));rw [List.length_append];simpa [intsI] using ho) hb
 refine ⟨zeW (n:=0) (base:=0) (r':=mRow p) h.below h.mown hg h.lt.1 rfl rfl rfl u,?_,?_⟩
 ·exact h1.perm ((List.perm_middle (l₁:=[dRow p,xRow p,sRow p]) (a:=mRow { p with ms:=p.ms++[i],mv:=u })).symm.cons _)
 ·have ho:=h.ok.1;exact ⟨⟨ho.dl,ho.xl,ho.sl,by simp [PV.prg];omega,ho.d,ho.x,ho.s⟩,rfl⟩
theorem zbJ {r:Rw} {L:List Rw} (h:RowsP w c.w0.heap.size (r::dbox c p er::L)):r.v.ownBlock≠some c.B:=by
 rcases h.far_head (dbox c p er) (by simp) with e|e
 ·rw [e];simp
 ·exact e
end
theorem Dx.frm_at {c:Dx} {n:Nat} {x:FV} (hx:c.fs[n]?=some x):frm c.l n=x.1:=by
 unfold frm Dx.l;rw [List.getD_eq_getElem?_getD,List.getElem?_map,hx];rfl
theorem Dx.Ok.form {c:Dx} (h:c.Ok) {w:World} (hw:Below c.w0.heap.size c.w0 w) {n:Nat} {x:FV} (hx:c.fs[n]?=some x) :
  ∃ g o cap,c.fv=.slice (some ⟨g,o,none⟩) c.fs.length cap∧w.cell? ⟨g,o+n*5,none⟩=some (.int .u8 x.1.k)∧w.cell? ⟨g,o+n*5+1,none⟩=some (.string x.1.s)∧w.cell? ⟨g,o+n*5+2,none⟩=some (.int .i64 x.1.n)∧w.cell? ⟨g,o+n*5+3,none⟩=some x.2∧w.cell? ⟨g,o+n*5+4,none⟩=some (.int .i64 x.1.p):=by
 have hn:n<c.fs.length:=(List.getElem?_eq_some_iff.1 hx).1;obtain ⟨_,a,cap,hv,h0⟩:=h.row.below hw (Nat.le_refl _);rcases h0 with h0|⟨g,o,rfl,hc⟩
 ·omega
 ·refine ⟨g,o,cap,hv,?_,?_,?_,?_,?_⟩
  ·have:=hc (n*5+0) _ (by rw [zcV c.fs n 0 x hx (by omega)];rfl);simpa [Nat.add_assoc] using this
  ·have:=hc (n*5+1) _ (by rw [zcV c.fs n 1 x hx (by omega)];rfl);simpa [Nat.add_assoc] using this
  ·have:=hc (n*5+2) _ (by rw [zcV c.fs n 2 x hx (by omega)];rfl);simpa [Nat.add_assoc] using this
  ·have:=hc (n*5+3) _ (by rw [zcV c.fs n 3 x hx (by omega)];rfl);simpa [Nat.add_assoc] using this
  ·have:=hc (n*5+4) _ (by rw [zcV c.fs n 4 x hx (by omega)];rfl);simpa [Nat.add_assoc] using this
end Go.Proofs.YtfljimpgnlfipaaGreatDoor
