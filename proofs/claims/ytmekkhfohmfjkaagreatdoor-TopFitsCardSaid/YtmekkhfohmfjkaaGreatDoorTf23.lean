/-
  Part 23 of the proof: Ord2, TlG.
-/
import Derived.Test.YtmekkhfohmfjkaaGreatDoorTf18
import Derived.Test.YtmekkhfohmfjkaaGreatDoorTf22
namespace Go.Proofs.YtmekkhfohmfjkaaGreatDoor
open Go.RowKit Go.Deep Go.MapKept
def dstB2 (ops:Array Oper) (z n:Nat):Bool:=
 (List.range z).all fun i=>match dstOf ops i with
  | some d=>decide (d<n) && (List.range z).all (fun j=>i==j || !(dstOf ops j==some d))
  | none=>true
structure SeqOk2 (ops:Array Oper) (z n:Nat):Prop where
 size:ops.size=z+1
 back:∀ i o,ops[i]?=some o→∀ k∈afterOn o,k<i
 fore:∀ i,i<z→∃ j o,i<j∧j≤z∧ops[j]?=some o∧i∈afterOn o
 dst:∀ i,i<z→∀ d,dstOf ops i=some d→d<n∧∀ j,j<z→j≠i→dstOf ops j≠some d
theorem seqOk2 {ops:Array Oper} {z n:Nat} (h:seqB ops z=true) (hd:dstB2 ops z n=true):SeqOk2 ops z n:=by
 unfold seqB at h
 simp only [Bool.and_eq_true,decide_eq_true_eq,List.all_eq_true,List.mem_range,List.any_eq_true] at h
 obtain ⟨⟨h1,h2⟩,h3⟩:=h
 refine ⟨h1,?_,?_,?_⟩
 ·intro i o ho k hk
  have hi:i<ops.size:=(Array.getElem?_eq_some_iff.1 ho).1
  have:=h2 i (by omega)
  rw [ho] at this
  exact of_decide_eq_true (List.all_eq_true.1 this k hk)
 ·intro i hi
  obtain ⟨j,hj,hx⟩:=h3 i hi
  cases ho:ops[j]? with
  | none=>rw [ho] at hx;simp at hx
  | some o=>
   rw [ho] at hx
   simp only [List.contains_iff_mem] at hx
   exact ⟨j,o,hx.1,by omega,ho,hx.2⟩
 ·intro i hi d hdi
  unfold dstB2 at hd
  have:=List.all_eq_true.1 hd i (List.mem_range.2 hi)
  rw [hdi] at this
  simp only [Bool.and_eq_true,decide_eq_true_eq,List.all_eq_true,List.mem_range,Bool.or_eq_true,beq_iff_eq,Bool.not_eq_true'] at this
  refine ⟨this.1,fun j hj hji e => ?_⟩
  rcases this.2 j hj with e'|e'
  ·exact hji e'.symm
  ·rw [e] at e';simp at e'
theorem putTo_new2 {ops:Array Oper} {z:Nat} (vals:Nat→Value) (a0:Act) (hok:SeqOk2 ops z a0.tmps.size) {i d:Nat} (hd:dstOf ops i=some d):∀ m,i<m→m≤z→(putTo ops vals a0 m).tmps[d]?=some (vals i)
 | 0,h,_=>absurd h (by omega)
 | m+1,h,hm=>by
  simp only [putTo]
  obtain ⟨hlt,hne⟩:=hok.dst i (by omega) d hd
  by_cases him:i=m
  ·subst him
   rw [hd,zcJ,if_pos rfl,putTo_size,if_pos hlt]
  ·have ih:=putTo_new2 vals a0 hok hd m (by omega) (by omega)
   cases hdm:dstOf ops m with
   | none=>exact ih
   | some d2=>
    rw [zcJ,if_neg (fun e=>hne m (by omega) (Ne.symm him) (by rw [hdm,e]))]
    exact ih
theorem fr_all2 {ops:Array Oper} {vals:Nat→Value} {z:Nat} {a0 a:Act} (hok:SeqOk2 ops z a0.tmps.size) {D:Nat→Prop} (h:Fr ops vals z a0 a D) (hD:∀ j,j<z→D j):a=putTo ops vals a0 z:=by
 refine act_ext (Array.ext_getElem? fun k => ?_) (h.df.trans (putTo_df ops vals a0 z).symm)
 by_cases hk:∃ i,i<z∧dstOf ops i=some k
 ·obtain ⟨i,hi,hd⟩:=hk
  rw [h.new i (hD i hi) hi k hd,putTo_new2 vals a0 hok hd z hi (Nat.le_refl _)]
 ·have hk':∀ i,i<z→dstOf ops i≠some k:=fun i hi e=>hk ⟨i,hi,e⟩
  rw [h.old k hk',putTo_old ops vals a0 k z hk']
section
variable {P : Program} {ops : Array Oper} {Q : Exit → Act → World → Prop} {S : Array Bool → World → Prop} {vals : Nat → Value} {z : Nat} {a0 : Act}
theorem wpAny_seq2 {oz:Oper} (hok:SeqOk2 ops z a0.tmps.size) (hz:ops[z]?=some oz)
  (hstep:∀ i o,i<z→ops[i]?=some o→∀ a w (l:Array Bool),Fr ops vals z a0 a (·∈afterOn o)→l.size=z+1→l[i]?=some false→(∀ k∈afterOn o,l[k]?=some true)→S l w→∀ K:Act→World→Prop,(∀ v,S (l.setIfInBounds i true) v→K (a.put o.dst (vals i)) v)→if Region.wanted o (yielded ops a.tmps)=true then o.wp P a w K Q else K (a.put o.dst undef) w)
  (hlast:∀ w (l:Array Bool),(∀ j,j<z→l[j]?=some true)→S l w→∀ K:Act→World→Prop,(∀ b v,Q .normal b v→K b v)→if Region.wanted oz (yielded ops (putTo ops vals a0 z).tmps)=true then oz.wp P (putTo ops vals a0 z) w K Q else K ((putTo ops vals a0 z).put oz.dst undef) w) :
  ∀ (n:Nat) (l:Array Bool) (a:Act) (w:World),l.size=ops.size→(∀ (i:Nat) (o:Oper),l[i]?=some true→ops[i]?=some o→∀ k∈afterOn o,l[k]?=some true)→l[z]?=some false→Fr ops vals z a0 a (fun j=>l[j]?=some true)→l.toList.count false=n→S l w→wpAny P .any ops Q n l a w:=by
 intro n
 induction n with
 | zero=>
  intro l a w _ _ h3 _ h5 _
  have:=zcD h3
  omega
 | succ n ih=>
  intro l a w h1 h2 h3 h4 h5 hS
  have hzs:z<l.size:=(Array.getElem?_eq_some_iff.1 h3).1
  have hcase:∀ k,k<l.size→l[k]?=some true∨l[k]?=some false:=fun k hk=>by
   rw [Array.getElem?_eq_getElem hk]
   cases l[k]<;>simp
  have hmem:∀ i,i∈Region.ready .any ops l↔l[i]?=some false∧∃ o,ops[i]?=some o∧∀ k∈afterOn o,l[k]?=some true:=by
   intro i
   rw [mem_ready]
   constructor
   ·rintro ⟨g1,o,ho,g2⟩
    have hi:i<l.size:=by rw [h1];exact (Array.getElem?_eq_some_iff.1 ho).1
    refine ⟨?_,o,ho,fun k hk => ?_⟩
    ·rcases hcase i hi with e|e
     ·rw [zbH e] at g1;cases g1
     ·exact e
    ·obtain ⟨e,he,hb,rfl⟩:=zcK.1 hk
     have g3:=g2 e he hb
     have hlt:=hok.back i o ho e.on hk
     rcases hcase e.on (by omega) with e'|e'
     ·exact e'
     ·rw [zbH e'] at g3;cases g3
   ·rintro ⟨g1,o,ho,g2⟩
    exact ⟨zbH g1,o,ho,fun e he hb=>zbH (g2 e.on (zcK.2 ⟨e,he,hb,rfl⟩))⟩
  refine ⟨fun hr => ?_,fun i hi => ?_⟩
  ·exfalso
   have key:∀ m,m≤z→(∀ k,k<m→l[k]?=some true):=by
    intro m
    induction m with
    | zero=>intro _ k hk;omega
    | succ m ihm=>
     intro hm k hk
     have prev:=ihm (by omega)
     by_cases hkm:k<m
     ·exact prev k hkm
     ·obtain rfl:k=m:=by omega
      rcases hcase k (by omega) with e|e
      ·exact e
      ·exfalso
       have hks:k<ops.size:=by omega
       have:k∈Region.ready .any ops l:=(hmem k).2 ⟨e,ops[k],Array.getElem?_eq_getElem hks,fun j hj=>prev j (hok.back k _ (Array.getElem?_eq_getElem hks) j hj)⟩
       rw [hr] at this
       simp at this
   have:z∈Region.ready .any ops l:=(hmem z).2 ⟨h3,oz,hz,fun j hj=>key z (Nat.le_refl _) j (hok.back z _ hz j hj)⟩
   rw [hr] at this
   simp at this
  ·obtain ⟨g1,o,ho,g2⟩:=(hmem i).1 hi
   by_cases hiz:i=z
   ·subst hiz
    obtain rfl:oz=o:=by rw [hz] at ho;exact Option.some.inj ho
    have hall:∀ (m j:Nat),i-j≤m→j<i→l[j]?=some true:=by
     intro m
     induction m with
     | zero=>intro j h1 h2;omega
     | succ m ihm=>
      intro j hj1 hj2
      obtain ⟨k,ok,hjk,hki,hok',hin⟩:=hok.fore j hj2
      by_cases hke:k=i
      ·subst hke
       obtain rfl:oz=ok:=by rw [hz] at hok';exact Option.some.inj hok'
       exact g2 j hin
      ·exact h2 k ok (ihm k (by omega) (by omega)) hok' j hin
    have ha:a=putTo ops vals a0 i:=fr_all2 hok h4 (fun j hj=>hall i j (by omega) hj)
    have hcnt:=zcD g1
    have hnone:∀ j:Nat,(l.setIfInBounds i true)[j]?≠some false:=by
     intro j hj
     rw [Array.getElem?_setIfInBounds] at hj
     split at hj
     ·first
      | (cases hj;done)
      | (split at hj<;>cases hj)
     ·have hjs:=(Array.getElem?_eq_some_iff.1 hj).1
      have:=hall i j (by omega) (by rw [h1,hok.size] at hjs;omega)
      rw [hj] at this;cases this
    have hc0:(l.setIfInBounds i true).toList.count false=0:=by
     refine List.count_eq_zero.2 fun hm => ?_
     obtain ⟨j,hj⟩:=List.getElem?_of_mem hm
     exact hnone j (by rw [←Array.getElem?_toList];exact hj)
    have hn0:n=0:=by omega
    subst hn0
    subst ha
    refine wpOp_step hz fun K' hK'=>hlast w l (fun j hj=>hall i j (by omega) hj) hS K' fun b v hb=>hK' b v ⟨?_,hb⟩
    cases hr:Region.ready .any ops (l.setIfInBounds i true) with
    | nil=>rfl
    | cons j r=>
     exfalso
     have hj:j∈Region.ready .any ops (l.setIfInBounds i true):=by rw [hr];simp
     obtain ⟨q1,o',ho',_⟩:=mem_ready.1 hj
     have hjs:j<(l.setIfInBounds i true).size:=by rw [Array.size_setIfInBounds,h1];exact (Array.getElem?_eq_some_iff.1 ho').1
     refine hnone j ?_
     rw [Array.getElem?_eq_getElem hjs]
     rw [Array.getD_eq_getD_getElem?,Array.getElem?_eq_getElem hjs] at q1
     simpa using q1
   ·have hiz':i<z:=by
     have:=(Array.getElem?_eq_some_iff.1 ho).1
     rw [hok.size] at this;omega
    refine wpOp_step ho fun K' hK' => ?_
    refine hstep i o hiz' ho a w l ⟨h4.size,h4.df,h4.old,fun j hj hjz d hd=>h4.new j (g2 j hj) hjz d hd⟩ (by rw [h1,hok.size]) g1 g2 hS K' fun v hv=>hK' _ _ ?_
    have hod:o.dst=dstOf ops i:=by unfold dstOf;rw [ho];rfl
    refine ih _ _ _ (by simpa using h1) ?_ ?_ ?_ (by have:=zcD g1;omega) hv
    ·intro j o' hj ho' k hk
     have hkk:l[k]?=some true:=by
      rw [Array.getElem?_setIfInBounds] at hj
      split at hj
      ·rename_i hij
       subst hij
       obtain rfl:o=o':=by rw [ho] at ho';exact Option.some.inj ho'
       exact g2 k hk
      ·exact h2 j o' hj ho' k hk
     rw [Array.getElem?_setIfInBounds]
     split
     ·rename_i hik
      subst hik
      rw [hkk] at g1;cases g1
     ·exact hkk
    ·rw [Array.getElem?_setIfInBounds,if_neg hiz]
     exact h3
    ·refine ⟨by rw [put_size];exact h4.size,by rw [put_df];exact h4.df,fun k hk => ?_,fun j hj hjz d hd => ?_⟩
     ·rw [hod]
      cases hdi:dstOf ops i with
      | none=>exact h4.old k hk
      | some di=>
       rw [zcJ,if_neg (fun e=>hk i hiz' (by rw [hdi,e]))]
       exact h4.old k hk
     ·rw [hod]
      by_cases hij:i=j
      ·subst hij
       rw [hd,zcJ,if_pos rfl,h4.size,if_pos (hok.dst i hiz' d hd).1]
      ·have hold:a.tmps[d]?=some (vals j):=by
        refine h4.new j ?_ hjz d hd
        rw [Array.getElem?_setIfInBounds,if_neg hij] at hj
        exact hj
       cases hdi:dstOf ops i with
       | none=>exact hold
       | some di=>
        rw [zcJ,if_neg (fun e=>(hok.dst j hjz d hd).2 i hiz' hij (by rw [hdi,e]))]
        exact hold
theorem wp_region_seq2 {id:Nat} {w:World} {oz:Oper} (vals:Nat→Value) (S:Array Bool→World→Prop) (z:Nat) (hm:P.follows .mixedOrders=true) (hsq:seqB ops z=true) (hdb:dstB2 ops z a0.tmps.size=true) (hz:ops[z]?=some oz) (hS:S (Array.replicate ops.size false) w.drew)
  (hstep:∀ i o,i<z→ops[i]?=some o→∀ a w (l:Array Bool),Fr ops vals z a0 a (·∈afterOn o)→l.size=z+1→l[i]?=some false→(∀ k∈afterOn o,l[k]?=some true)→S l w→∀ K:Act→World→Prop,(∀ v,S (l.setIfInBounds i true) v→K (a.put o.dst (vals i)) v)→if Region.wanted o (yielded ops a.tmps)=true then o.wp P a w K Q else K (a.put o.dst undef) w)
  (hlast:∀ w (l:Array Bool),(∀ j,j<z→l[j]?=some true)→S l w→∀ K:Act→World→Prop,(∀ b v,Q .normal b v→K b v)→if Region.wanted oz (yielded ops (putTo ops vals a0 z).tmps)=true then oz.wp P (putTo ops vals a0 z) w K Q else K ((putTo ops vals a0 z).put oz.dst undef) w) :
  (Code.region id ops true).wp P Q a0 w:=by
 have hok:=seqOk2 hsq hdb
 refine wp_region_any hm (wpAny_seq2 hok hz hstep hlast ops.size (Array.replicate ops.size false) a0 _ (by simp) ?_ ?_ ⟨rfl,rfl,fun _ _=>rfl,?_⟩ (by simp) hS)
 ·intro i o hi
  rw [Array.getElem?_replicate] at hi
  split at hi<;>cases hi
 ·rw [Array.getElem?_replicate,if_pos (by rw [hok.size];omega)]
 ·intro j hj
  rw [Array.getElem?_replicate] at hj
  split at hj<;>cases hj
end
theorem zcE {P:Program} {Q:Exit→Act→World→Prop} {a0:Act} {id:Nat} {w:World} (f:Nat→Oper) (vals:Nat→Value) (S:Array Bool→World→Prop) (z:Nat) (hm:P.follows .mixedOrders=true) (hsq:seqB (opsA f z) z=true) (hdb:dstB2 (opsA f z) z a0.tmps.size=true) (hS:S (Array.replicate (opsA f z).size false) w.drew)
  (hstep:∀ i,i<z→∀ a w (l:Array Bool),Fr (opsA f z) vals z a0 a (·∈afterOn (f i))→l.size=z+1→l[i]?=some false→(∀ k∈afterOn (f i),l[k]?=some true)→S l w→∀ K:Act→World→Prop,(∀ v,S (l.setIfInBounds i true) v→K (a.put (f i).dst (vals i)) v)→if Region.wanted (f i) (yielded (opsA f z) a.tmps)=true then (f i).wp P a w K Q else K (a.put (f i).dst undef) w)
  (hlast:∀ w (l:Array Bool),(∀ j,j<z→l[j]?=some true)→S l w→∀ K:Act→World→Prop,(∀ b v,Q .normal b v→K b v)→if Region.wanted (f z) (yielded (opsA f z) (putA f vals a0 z).tmps)=true then (f z).wp P (putA f vals a0 z) w K Q else K ((putA f vals a0 z).put (f z).dst undef) w) :
  (Code.region id (opsA f z) true).wp P Q a0 w:=
 wp_region_seq2 vals S z hm hsq hdb (zaA f z (Nat.le_refl _)) hS (fun i o hi ho=>by obtain rfl:=so (zaA f z (Nat.le_of_lt hi)) ho;exact hstep i hi) (fun w l h1 h K hK=>by rw [putA_eq f vals a0 z z (Nat.le_refl _)];exact hlast w l h1 h K hK)
def qe6N:Nat→Oper
 | 0=>⟨some 16,.move (.tmp 0),45, "slices.go:25",#[],none⟩
 | 1=>⟨some 17,.move (.tmp 5),3, "slices.go:25",#[],none⟩
 | 2=>⟨some 18,.indexAddr 45 (.tmp 16) (.tmp 17),0, "slices.go:25",#[⟨0,.data⟩,⟨1,.data⟩],none⟩
 | 3=>⟨some 19,.load 3 (.tmp 18),3, "slices.go:25",#[⟨2,.data⟩],none⟩
 | 4=>⟨some 20,.move (.tmp 1),45, "slices.go:25",#[],none⟩
 | 5=>⟨some 21,.move (.tmp 5),3, "slices.go:25",#[],none⟩
 | 6=>⟨some 22,.indexAddr 45 (.tmp 20) (.tmp 21),0, "slices.go:25",#[⟨4,.data⟩,⟨5,.data⟩],none⟩
 | 7=>⟨some 23,.load 3 (.tmp 22),3, "slices.go:25",#[⟨6,.data⟩],none⟩
 | _=>⟨some 24,.binOp .neq 3 (.tmp 19) (.tmp 23) 3,4, "slices.go:25",#[⟨3,.data⟩,⟨7,.data⟩],none⟩
set_option maxRecDepth 100000 in
set_option maxHeartbeats 2000000 in
theorem equal_any (l1 l2:List Int) (v1 v2:Value) (w:World) (h1:SeesC w v1 l1.length 1 (intsI l1)) (h2:SeesC w v2 l2.length 1 (intsI l2)) (hl:l1.length≤1099511627776):Calls Tryz.prog 193 #[v1,v2] w fun e w'=>e=.returned (.bool (decide (l1=l2)))∧Below w.heap.size w w':=by
 obtain ⟨_,a1,c1,rfl,hc1⟩:=h1
 obtain ⟨_,a2,c2,rfl,hc2⟩:=h2
 by_cases hlen:l1.length=l2.length
 ·obtain ⟨n,hn⟩:∃ n,l1.length=n:=⟨_,rfl⟩
  have HN:=hidI hn
  have HN2:Hid (l2.length=n):=hidI (by omega)
  have HC1:=hidI hc1
  have HC2:=hidI hc2
  have e2:l2.length=n:=by omega
  rw [hn] at hl
  rw [hn,e2]
  clear hlen hn e2 hc1 hc2
  go_enter Tryz.func193,Tryz.ntmps193
  go_wp2
  go_loopg [13] n (fun g s13 wx=>∃ j:Nat,j+g=n∧s13=.int .i64 (j:Int)∧Hid (l1.take j=l2.take j)∧Hid (Below w.heap.size w wx))
  case atStart=>exact ⟨0,by omega,rfl,hidI rfl,hidI (Below.refl _ _)⟩
  case round=>
   obtain ⟨j,hjg,rfl,HT,HB⟩:=hrel
   cases gk with
   | zero=>
    obtain rfl:n=j:=by omega
    have k1:decide ((n:Int)<(n:Int))=false:=by simp
    have HR:Hid (decide (l1=l2)=true):=hidI (decide_eq_true (by
     have:=HT.out
     rwa [List.take_of_length_le (by have:=HN.out;omega),List.take_of_length_le (by have:=HN2.out;omega)] at this))
    go_wp2
    go_ret
    rw [HR.out]
    exact ⟨rfl,HB.out⟩
   | succ g=>
    have k1:(j:Int)<(n:Int):=by omega
    obtain ⟨x,hx⟩:∃ x,l1[j]?=some x:=⟨_,List.getElem?_eq_getElem (by have:=HN.out;omega)⟩
    obtain ⟨y,hy⟩:∃ y,l2[j]?=some y:=⟨_,List.getElem?_eq_getElem (by have:=HN2.out;omega)⟩
    obtain ⟨b1,o1,ha1,hc1⟩:∃ b o,a1=some ⟨b,o,none⟩∧w.cell? ⟨b,o+j,none⟩=some (.int .i64 x):=by
     rcases HC1.out with h0|⟨b,o,e,hc⟩
     ·have:=HN.out;omega
     ·exact ⟨b,o,e,hc j _ (zcQ hx)⟩
    obtain ⟨b2,o2,ha2,hc2⟩:∃ b o,a2=some ⟨b,o,none⟩∧w.cell? ⟨b,o+j,none⟩=some (.int .i64 y):=by
     rcases HC2.out with h0|⟨b,o,e,hc⟩
     ·have:=HN2.out;omega
     ·exact ⟨b,o,e,hc j _ (zcQ hy)⟩
    subst ha1 ha2
    have HX1:=hidI hc1
    have HX2:=hidI hc2
    have HTT:Hid (∀ z,l1.take j++[z]=l1.take (j+1)→True):=hidI (fun _ _=>trivial)
    have HS1:Hid (x=y→l1.take (j+1)=l2.take (j+1)):=hidI (fun e=>by rw [List.take_add_one,List.take_add_one,hx,hy,e,HT.out])
    have HS2:Hid (x≠y→decide (l1=l2)=false):=hidI (fun e=>decide_eq_false (fun e2=>e (by rw [e2,hy] at hx;exact (Option.some.inj hx).symm)))
    clear hc1 hc2 hx hy HTT
    go_wp2
    by_cases hxy:x=y
    ·have d1:(x==y)=true:=by rw [hxy];simp
     have HN3:=hidI (HS1.out hxy)
     clear HS1 HS2 hxy
     refine zaQ qe6N (fun i=>match i with|0=>.slice (some ⟨b1,o1,none⟩) n c1|1=>.int .i64 (j:Int)|2=>.pointer (some ⟨b1,o1+j,none⟩)|3=>.int .i64 x|4=>.slice (some ⟨b2,o2,none⟩) n c2|5=>.int .i64 (j:Int)|6=>.pointer (some ⟨b2,o2+j,none⟩)|7=>.int .i64 y|_=>undef) (fun y=>Below w.heap.size w y) 8 Tryz.mixed (by kernel_rfl) (by kernel_rfl) HB.out.drew ?_ ?_
     ·intro i9 hi9 a9 w9 hF9 hS9 K9 hK9
      have hc9:i9=0∨i9=1∨i9=2∨i9=3∨i9=4∨i9=5∨i9=6∨i9=7:=by omega
      clear hi9
      rcases hc9 with rfl|rfl|rfl|rfl|rfl|rfl|rfl|rfl
      ·have e0:=hF9.od 0 (v:=.slice (some ⟨b1,o1,none⟩) n c1) rfl
       refine zaS rfl ?_ (hK9 _ hS9)
       clear hF9
       simp only [qe6N,execOp,e0]
       first|done|(go_simp<;>omega)
      ·have e5:=hF9.od 5 (v:=.int .i64 (j:Int)) rfl
       refine zaS rfl ?_ (hK9 _ hS9)
       clear hF9
       simp only [qe6N,execOp,e5]
       first|done|(go_simp<;>omega)
      ·have e16:=hF9.ev 0 16
       have e17:=hF9.ev 1 17
       refine zaS rfl ?_ (hK9 _ hS9)
       clear hF9
       simp only [qe6N,execOp,e16,e17]
       first|done|(go_simp<;>omega)
      ·have e18:=hF9.ev 2 18
       have q0:=zaJ hS9 HX1.out
       refine zaS rfl ?_ (hK9 _ hS9)
       clear hF9
       simp only [qe6N,execOp,e18]
       first|done|(go_simp<;>omega)
      ·have e1:=hF9.od 1 (v:=.slice (some ⟨b2,o2,none⟩) n c2) rfl
       refine zaS rfl ?_ (hK9 _ hS9)
       clear hF9
       simp only [qe6N,execOp,e1]
       first|done|(go_simp<;>omega)
      ·have e5:=hF9.od 5 (v:=.int .i64 (j:Int)) rfl
       refine zaS rfl ?_ (hK9 _ hS9)
       clear hF9
       simp only [qe6N,execOp,e5]
       first|done|(go_simp<;>omega)
      ·have e20:=hF9.ev 4 20
       have e21:=hF9.ev 5 21
       refine zaS rfl ?_ (hK9 _ hS9)
       clear hF9
       simp only [qe6N,execOp,e20,e21]
       first|done|(go_simp<;>omega)
      ·have e22:=hF9.ev 6 22
       have q0:=zaJ hS9 HX2.out
       refine zaS rfl ?_ (hK9 _ hS9)
       clear hF9
       simp only [qe6N,execOp,e22]
       first|done|(go_simp<;>omega)
     ·intro w9 hS9 K9 hK9
      simp only [putA,qe6N]
      rw [if_pos (zaD rfl)]
      unfold Oper.wp
      go_simp
      refine hK9 _ _ ?_
      clear hK9 K9
      have HB9:=hidI hS9
      clear hS9
      go_wp2
      go_roundg g
      case measure=>omega
      case rel=>exact ⟨j+1,by omega,by go_num,HN3,HB9⟩
    ·have d1:(x==y)=false:=by rw [beq_eq_false_iff_ne];exact hxy
     have HR:=hidI (HS2.out hxy)
     clear HS1 HS2 hxy
     refine zaQ qe6N (fun i=>match i with|0=>.slice (some ⟨b1,o1,none⟩) n c1|1=>.int .i64 (j:Int)|2=>.pointer (some ⟨b1,o1+j,none⟩)|3=>.int .i64 x|4=>.slice (some ⟨b2,o2,none⟩) n c2|5=>.int .i64 (j:Int)|6=>.pointer (some ⟨b2,o2+j,none⟩)|7=>.int .i64 y|_=>undef) (fun y=>Below w.heap.size w y) 8 Tryz.mixed (by kernel_rfl) (by kernel_rfl) HB.out.drew ?_ ?_
     ·intro i9 hi9 a9 w9 hF9 hS9 K9 hK9
      have hc9:i9=0∨i9=1∨i9=2∨i9=3∨i9=4∨i9=5∨i9=6∨i9=7:=by omega
      clear hi9
      rcases hc9 with rfl|rfl|rfl|rfl|rfl|rfl|rfl|rfl
      ·have e0:=hF9.od 0 (v:=.slice (some ⟨b1,o1,none⟩) n c1) rfl
       refine zaS rfl ?_ (hK9 _ hS9)
       clear hF9
       simp only [qe6N,execOp,e0]
       first|done|(go_simp<;>omega)
      ·have e5:=hF9.od 5 (v:=.int .i64 (j:Int)) rfl
       refine zaS rfl ?_ (hK9 _ hS9)
       clear hF9
       simp only [qe6N,execOp,e5]
       first|done|(go_simp<;>omega)
      ·have e16:=hF9.ev 0 16
       have e17:=hF9.ev 1 17
       refine zaS rfl ?_ (hK9 _ hS9)
       clear hF9
       simp only [qe6N,execOp,e16,e17]
       first|done|(go_simp<;>omega)
      ·have e18:=hF9.ev 2 18
       have q0:=zaJ hS9 HX1.out
       refine zaS rfl ?_ (hK9 _ hS9)
       clear hF9
       simp only [qe6N,execOp,e18]
       first|done|(go_simp<;>omega)
      ·have e1:=hF9.od 1 (v:=.slice (some ⟨b2,o2,none⟩) n c2) rfl
       refine zaS rfl ?_ (hK9 _ hS9)
       clear hF9
       simp only [qe6N,execOp,e1]
       first|done|(go_simp<;>omega)
      ·have e5:=hF9.od 5 (v:=.int .i64 (j:Int)) rfl
       refine zaS rfl ?_ (hK9 _ hS9)
       clear hF9
       simp only [qe6N,execOp,e5]
       first|done|(go_simp<;>omega)
      ·have e20:=hF9.ev 4 20
       have e21:=hF9.ev 5 21
       refine zaS rfl ?_ (hK9 _ hS9)
       clear hF9
       simp only [qe6N,execOp,e20,e21]
       first|done|(go_simp<;>omega)
      ·have e22:=hF9.ev 6 22
       have q0:=zaJ hS9 HX2.out
       refine zaS rfl ?_ (hK9 _ hS9)
       clear hF9
       simp only [qe6N,execOp,e22]
       first|done|(go_simp<;>omega)
     ·intro w9 hS9 K9 hK9
      simp only [putA,qe6N]
      rw [if_pos (zaD rfl)]
      unfold Oper.wp
      go_simp
      refine hK9 _ _ ?_
      clear hK9 K9
      have HB9:=hidI hS9
      clear hS9
      go_wp2
      go_ret
      rw [HR.out]
      exact ⟨rfl,HB9.out⟩
 ·have HR:Hid (decide (l1=l2)=false):=hidI (decide_eq_false (fun e=>hlen (by rw [e])))
  have d1:((l1.length:Int)==(l2.length:Int))=false:=by rw [beq_eq_false_iff_ne];omega
  clear hlen hc1 hc2
  go_enter Tryz.func193,Tryz.ntmps193
  go_wp2
  go_ret
  rw [HR.out]
  exact ⟨rfl,by exact belowT⟩
theorem zdT (a b:Nat):((a:Int)==(b:Int))=(a==b):=by
 rw [Bool.eq_iff_iff,beq_iff_eq,beq_iff_eq]
 omega
set_option maxRecDepth 100000 in
set_option maxHeartbeats 4000000 in
theorem same2_any (p q:Exp) (a1 a2:Option Addr) (c1 c2:Nat) (W:World) (h1:SeesC W (.slice a1 p.kids.length c1) p.kids.length 1 (intsI p.kids)) (h2:SeesC W (.slice a2 q.kids.length c2) q.kids.length 1 (intsI q.kids)) (hl:p.kids.length≤1099511627776):Calls Tryz.prog 189 #[.agg #[.int .u8 (p.k:Int),.int .u8 (p.of:Int),.int .u8 (p.op:Int),.string p.name,.int .i64 p.num,.slice a1 p.kids.length c1],.agg #[.int .u8 (q.k:Int),.int .u8 (q.of:Int),.int .u8 (q.op:Int),.string q.name,.int .i64 q.num,.slice a2 q.kids.length c2]] W fun e w'=>e=.returned (.bool (sameX p q))∧Below W.heap.size W w':=by
 have hbb:Below W.heap.size W ((W.alloc (.cells #[.int .u8 (p.k:Int),.int .u8 (p.of:Int),.int .u8 (p.op:Int),.string p.name,.int .i64 p.num,.slice a1 p.kids.length c1] 190)).alloc (.cells #[.int .u8 (q.k:Int),.int .u8 (q.of:Int),.int .u8 (q.op:Int),.string q.name,.int .i64 q.num,.slice a2 q.kids.length c2] 190)):=by exact belowT
 have CE:=hidI (equal_any p.kids q.kids _ _ _ (h1.below hbb (Nat.le_refl _)) (h2.below hbb (Nat.le_refl _)) hl)
 have HB:=hidI hbb
 have HM:Hid (sameX p q=(p.k==q.k && p.of==q.of && p.op==q.op && decide (p.name=q.name) && p.num==q.num && decide (p.kids=q.kids))):=hidI rfl
 clear h1 h2 hl hbb
 cases d0:((p.k:Int)==(q.k:Int)) with
 | false=>
  have HR:Hid (sameX p q=false):=hidI (by
   rw [zdT] at d0
   rw [HM.out,d0]
   simp)
  clear CE HM
  go_enter Tryz.func189,Tryz.ntmps189
  go_wp2
  go_ret
  rw [HR.out]
  exact ⟨rfl,HB.out⟩
 | true=>
  cases d1:((p.of:Int)==(q.of:Int)) with
  | false=>
   have HR:Hid (sameX p q=false):=hidI (by
    rw [zdT] at d1
    rw [HM.out,d1]
    simp)
   clear CE HM
   go_enter Tryz.func189,Tryz.ntmps189
   go_wp2
   go_ret
   rw [HR.out]
   exact ⟨rfl,HB.out⟩
  | true=>
   cases d2:((p.op:Int)==(q.op:Int)) with
   | false=>
    have HR:Hid (sameX p q=false):=hidI (by
     rw [zdT] at d2
     rw [HM.out,d2]
     simp)
    clear CE HM
    go_enter Tryz.func189,Tryz.ntmps189
    go_wp2
    go_ret
    rw [HR.out]
    exact ⟨rfl,HB.out⟩
   | true=>
    cases d3:(p.name.toList==q.name.toList) with
    | false=>
     have HR:Hid (sameX p q=false):=hidI (by
      rw [zcH] at d3
      rw [HM.out,d3]
      simp)
     clear CE HM
     go_enter Tryz.func189,Tryz.ntmps189
     go_wp2
     go_ret
     rw [HR.out]
     exact ⟨rfl,HB.out⟩
    | true=>
     cases d4:(p.num==q.num) with
     | false=>
      have HR:Hid (sameX p q=false):=hidI (by
       rw [HM.out,d4]
       simp)
      clear CE HM
      go_enter Tryz.func189,Tryz.ntmps189
      go_wp2
      go_ret
      rw [HR.out]
      exact ⟨rfl,HB.out⟩
     | true=>
      have HR:Hid (sameX p q=decide (p.kids=q.kids)):=hidI (by
       rw [zdT] at d0 d1 d2
       rw [zcH] at d3
       rw [HM.out,d0,d1,d2,d3,d4]
       simp)
      clear HM
      go_enter Tryz.func189,Tryz.ntmps189
      go_wp2_with (go_at_call 193;refine CE.out.mono ?_;intro e w1 h1;obtain ⟨rfl,hb1⟩:=h1;clear CE)
      go_ret
      rw [HR.out]
      exact ⟨rfl,HB.out.trans (hb1.mono HB.out.size)⟩
set_option maxHeartbeats 2000000 in
theorem lit_any {t:Tx} {F:Nat} (hk:t.Ok F) {σ:TS} {X:List Rw} {w:World} (of:Nat) (n:Int) (h:TlS t σ X w):Calls Tryz.prog 187 #[.pointer (some ⟨t.B,0,none⟩),.int .u8 (of:Int),.int .i64 n] w (TPost t X (tLit of n σ)):=by
 have CM:=hidI (fun W=>zbM (.pointer (some ⟨t.B,0,none⟩)) W)
 by_cases h1:of=1
 ·subst h1
  have CX:=hidI (form_any hk (tk:=⟨4,⟨#[]⟩,n,0⟩) h.r h.lim.one (by show (⟨#[]⟩:ByteArray).size≤140737488355328;decide))
  have HM:Hid (tLit 1 n σ=tForm ⟨4,⟨#[]⟩,n,0⟩ σ):=hidI rfl
  rw [HM.out]
  clear h HM
  cases hr:tForm ⟨4,⟨#[]⟩,n,0⟩ σ with
  | none=>
   rw [hr] at CX
   clear hr
   go_enter Tryz.func187,Tryz.ntmps187
   go_wp2_with (first
    | (go_at_call 124;refine Calls.mono (CM.out _) ?_;intro e w2 h2;obtain ⟨rfl,rfl⟩:=h2;clear CM)
    | (go_at_call 173;refine Calls.mono CX.out ?_;intro e w1 h1;obtain ⟨rfl,hb1⟩:=h1;clear CX))
   exact ⟨rfl,rfl,hb1⟩
  | some σ1=>
   rw [hr] at CX
   clear hr
   go_enter Tryz.func187,Tryz.ntmps187
   go_wp2_with (first
    | (go_at_call 124;refine Calls.mono (CM.out _) ?_;intro e w2 h2;obtain ⟨rfl,rfl⟩:=h2;clear CM)
    | (go_at_call 173;refine Calls.mono CX.out ?_;intro e w1 h1;obtain ⟨rfl,hb1⟩:=h1;clear CX))
   go_end0
   exact ⟨rfl,hb1⟩
 have d1:((of:Int)==1)=false:=by rw [beq_eq_false_iff_ne];omega
 by_cases h2:of=2∧n=1
 ·obtain ⟨rfl,rfl⟩:=h2
  have CX:=hidI (zdB hk (s:=⟨#[116,114,117,101]⟩) h (by unfold SmlN;decide))
  have HM:Hid (tLit 2 1 σ=tWord ⟨#[116,114,117,101]⟩ σ):=hidI rfl
  rw [HM.out]
  clear h HM h1 d1
  cases hr:tWord ⟨#[116,114,117,101]⟩ σ with
  | none=>
   rw [hr] at CX
   clear hr
   go_enter Tryz.func187,Tryz.ntmps187
   go_wp2_with (first
    | (go_at_call 124;refine Calls.mono (CM.out _) ?_;intro e w2 h2;obtain ⟨rfl,rfl⟩:=h2;clear CM)
    | (go_at_call 154;refine Calls.mono CX.out ?_;intro e w1 h1;obtain ⟨rfl,hb1⟩:=h1;clear CX))
   exact ⟨rfl,rfl,hb1⟩
  | some σ1=>
   rw [hr] at CX
   clear hr
   go_enter Tryz.func187,Tryz.ntmps187
   go_wp2_with (first
    | (go_at_call 124;refine Calls.mono (CM.out _) ?_;intro e w2 h2;obtain ⟨rfl,rfl⟩:=h2;clear CM)
    | (go_at_call 154;refine Calls.mono CX.out ?_;intro e w1 h1;obtain ⟨rfl,hb1⟩:=h1;clear CX))
   go_end0
   exact ⟨rfl,hb1⟩
 by_cases h3:of=2∧n=0
 ·obtain ⟨rfl,rfl⟩:=h3
  have CX:=hidI (zdB hk (s:=⟨#[102,97,108,115,101]⟩) h (by unfold SmlN;decide))
  have HM:Hid (tLit 2 0 σ=tWord ⟨#[102,97,108,115,101]⟩ σ):=hidI rfl
  rw [HM.out]
  clear h HM h1 h2 d1
  cases hr:tWord ⟨#[102,97,108,115,101]⟩ σ with
  | none=>
   rw [hr] at CX
   clear hr
   go_enter Tryz.func187,Tryz.ntmps187
   go_wp2_with (first
    | (go_at_call 124;refine Calls.mono (CM.out _) ?_;intro e w2 h2;obtain ⟨rfl,rfl⟩:=h2;clear CM)
    | (go_at_call 154;refine Calls.mono CX.out ?_;intro e w1 h1;obtain ⟨rfl,hb1⟩:=h1;clear CX))
   exact ⟨rfl,rfl,hb1⟩
  | some σ1=>
   rw [hr] at CX
   clear hr
   go_enter Tryz.func187,Tryz.ntmps187
   go_wp2_with (first
    | (go_at_call 124;refine Calls.mono (CM.out _) ?_;intro e w2 h2;obtain ⟨rfl,rfl⟩:=h2;clear CM)
    | (go_at_call 154;refine Calls.mono CX.out ?_;intro e w1 h1;obtain ⟨rfl,hb1⟩:=h1;clear CX))
   go_end0
   exact ⟨rfl,hb1⟩
 have HR:Hid (tLit of n σ=none):=hidI (by unfold tLit;rw [if_neg h1,if_neg h2,if_neg h3])
 have CM2:=hidI (fun W=>zbC (.pointer (some ⟨t.B,0,none⟩)) W)
 have HB:=hidI (h.bad (.refl _))
 clear CM h
 by_cases h4:of=2
 ·subst h4
  have d2:(n==1)=false:=by rw [beq_eq_false_iff_ne];exact fun e=>h2 ⟨rfl,e⟩
  have d3:(n==0)=false:=by rw [beq_eq_false_iff_ne];exact fun e=>h3 ⟨rfl,e⟩
  clear h1 h2 h3 d1
  go_enter Tryz.func187,Tryz.ntmps187
  go_wp2_with (go_at_call 124;refine Calls.mono (CM2.out _) ?_;intro e w2 h2;obtain ⟨rfl,rfl⟩:=h2;clear CM2)
  refine ⟨rfl,?_⟩
  rw [HR.out]
  exact ⟨rfl,HB.out⟩
 ·have d2:((of:Int)==2)=false:=by rw [beq_eq_false_iff_ne];omega
  clear h1 h2 h3 h4
  go_enter Tryz.func187,Tryz.ntmps187
  go_wp2_with (go_at_call 124;refine Calls.mono (CM2.out _) ?_;intro e w2 h2;obtain ⟨rfl,rfl⟩:=h2;clear CM2)
  refine ⟨rfl,?_⟩
  rw [HR.out]
  exact ⟨rfl,HB.out⟩
end Go.Proofs.YtmekkhfohmfjkaaGreatDoor
