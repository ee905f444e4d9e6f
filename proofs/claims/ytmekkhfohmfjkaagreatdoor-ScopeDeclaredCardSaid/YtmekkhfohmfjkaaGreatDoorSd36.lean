/-
  Part 36 of the proof: Ord3, LvA, FrM.
-/
import Derived.Test.YtmekkhfohmfjkaaGreatDoorSd12
import Derived.Test.YtmekkhfohmfjkaaGreatDoorSd35
import Derived.Test.YtmekkhfohmfjkaaGreatDoorSd11
namespace Go.Proofs.YtmekkhfohmfjkaaGreatDoor
open Go.RowKit Go.Deep Go.MapKept
section
variable {P : Program} {ops : Array Oper} {Q : Exit → Act → World → Prop} {σ : Type} {S : σ → Array Bool → World → Prop} {vals : σ → Nat → Value} {z : Nat} {a0 : Act}
theorem wpAny_seq3 {oz:Oper} (hok:SeqOk2 ops z a0.tmps.size) (hz:ops[z]?=some oz)
  (hstep:∀ i o,i<z→ops[i]?=some o→∀ (q:σ) a w (l:Array Bool),Fr ops (vals q) z a0 a (·∈afterOn o)→l.size=z+1→l[i]?=some false→(∀ k∈afterOn o,l[k]?=some true)→(∀ (j:Nat) (oj:Oper),l[j]?=some true→ops[j]?=some oj→∀ k∈afterOn oj,l[k]?=some true)→S q l w→∀ K:Act→World→Prop,(∀ q' v,(∀ j,j≠i→l[j]?=some true→vals q' j=vals q j)→S q' (l.setIfInBounds i true) v→K (a.put o.dst (vals q' i)) v)→if Region.wanted o (yielded ops a.tmps)=true then o.wp P a w K Q else K (a.put o.dst undef) w)
  (hlast:∀ (q:σ) w (l:Array Bool),(∀ j,j<z→l[j]?=some true)→S q l w→∀ K:Act→World→Prop,(∀ b v,Q .normal b v→K b v)→if Region.wanted oz (yielded ops (putTo ops (vals q) a0 z).tmps)=true then oz.wp P (putTo ops (vals q) a0 z) w K Q else K ((putTo ops (vals q) a0 z).put oz.dst undef) w) :
  ∀ (n:Nat) (q:σ) (l:Array Bool) (a:Act) (w:World),l.size=ops.size→(∀ (i:Nat) (o:Oper),l[i]?=some true→ops[i]?=some o→∀ k∈afterOn o,l[k]?=some true)→l[z]?=some false→Fr ops (vals q) z a0 a (fun j=>l[j]?=some true)→l.toList.count false=n→S q l w→wpAny P .any ops Q n l a w:=by
 intro n
 induction n with
 | zero=>
  intro q l a w _ _ h3 _ h5 _
  have:=zbU h3
  omega
 | succ n ih=>
  intro q l a w h1 h2 h3 h4 h5 hS
  have hzs:z<l.size:=(Array.getElem?_eq_some_iff.1 h3).1
  have hcase:∀ k,k<l.size→l[k]?=some true∨l[k]?=some false:=fun k hk=>by
   rw [Array.getElem?_eq_getElem hk]
   cases l[k]<;>simp
  have hmem:∀ i,i∈Region.ready .any ops l↔l[i]?=some false∧∃ o,ops[i]?=some o∧∀ k∈afterOn o,l[k]?=some true:=by
   intro i
   rw [mem_ready]
   constructor
   ·rintro ⟨g1,o,ho,g2⟩
    have hi:i<l.size:=by rw [h1];exact (Array.getElem?_eq_some_iff.1 ho).1
    refine ⟨?_,o,ho,fun k hk => ?_⟩
    ·rcases hcase i hi with e|e
     ·rw [zbJ e] at g1;cases g1
     ·exact e
    ·obtain ⟨e,he,hb,rfl⟩:=zcE.1 hk
     have g3:=g2 e he hb
     have hlt:=hok.back i o ho e.on hk
     rcases hcase e.on (by omega) with e'|e'
     ·exact e'
     ·rw [zbJ e'] at g3;cases g3
   ·rintro ⟨g1,o,ho,g2⟩
    exact ⟨zbJ g1,o,ho,fun e he hb=>zbJ (g2 e.on (zcE.2 ⟨e,he,hb,rfl⟩))⟩
  refine ⟨fun hr => ?_,fun i hi => ?_⟩
  ·exfalso
   have key:∀ m,m≤z→(∀ k,k<m→l[k]?=some true):=by
    intro m
    induction m with
    | zero=>intro _ k hk;omega
    | succ m ihm=>
     intro hm k hk
     have prev:=ihm (by omega)
     by_cases hkm:k<m
     ·exact prev k hkm
     ·obtain rfl:k=m:=by omega
      rcases hcase k (by omega) with e|e
      ·exact e
      ·exfalso
       have hks:k<ops.size:=by omega
       have:k∈Region.ready .any ops l:=(hmem k).2 ⟨e,ops[k],Array.getElem?_eq_getElem hks,fun j hj=>prev j (hok.back k _ (Array.getElem?_eq_getElem hks) j hj)⟩
       rw [hr] at this
       simp at this
   have:z∈Region.ready .any ops l:=(hmem z).2 ⟨h3,oz,hz,fun j hj=>key z (Nat.le_refl _) j (hok.back z _ hz j hj)⟩
   rw [hr] at this
   simp at this
  ·obtain ⟨g1,o,ho,g2⟩:=(hmem i).1 hi
   by_cases hiz:i=z
   ·subst hiz
    obtain rfl:oz=o:=by rw [hz] at ho;exact Option.some.inj ho
    have hall:∀ (m j:Nat),i-j≤m→j<i→l[j]?=some true:=by
     intro m
     induction m with
     | zero=>intro j h1 h2;omega
     | succ m ihm=>
      intro j hj1 hj2
      obtain ⟨k,ok,hjk,hki,hok',hin⟩:=hok.fore j hj2
      by_cases hke:k=i
      ·subst hke
       obtain rfl:oz=ok:=by rw [hz] at hok';exact Option.some.inj hok'
       exact g2 j hin
      ·exact h2 k ok (ihm k (by omega) (by omega)) hok' j hin
    have ha:a=putTo ops (vals q) a0 i:=fr_all2 hok h4 (fun j hj=>hall i j (by omega) hj)
    have hcnt:=zbU g1
    have hnone:∀ j:Nat,(l.setIfInBounds i true)[j]?≠some false:=by
     intro j hj
     rw [Array.getElem?_setIfInBounds] at hj
     split at hj
     ·first
      | (cases hj;done)
      | (split at hj<;>cases hj)
     ·have hjs:=(Array.getElem?_eq_some_iff.1 hj).1
      have:=hall i j (by omega) (by rw [h1,hok.size] at hjs;omega)
      rw [hj] at this;cases this
    have hc0:(l.setIfInBounds i true).toList.count false=0:=by
     refine List.count_eq_zero.2 fun hm => ?_
     obtain ⟨j,hj⟩:=List.getElem?_of_mem hm
     exact hnone j (by rw [←Array.getElem?_toList];exact hj)
    have hn0:n=0:=by omega
    subst hn0
    subst ha
    refine wpOp_step hz fun K' hK'=>hlast q w l (fun j hj=>hall i j (by omega) hj) hS K' fun b v hb=>hK' b v ⟨?_,hb⟩
    cases hr:Region.ready .any ops (l.setIfInBounds i true) with
    | nil=>rfl
    | cons j r=>
     exfalso
     have hj:j∈Region.ready .any ops (l.setIfInBounds i true):=by rw [hr];simp
     obtain ⟨q1,o',ho',_⟩:=mem_ready.1 hj
     have hjs:j<(l.setIfInBounds i true).size:=by rw [Array.size_setIfInBounds,h1];exact (Array.getElem?_eq_some_iff.1 ho').1
     refine hnone j ?_
     rw [Array.getElem?_eq_getElem hjs]
     rw [Array.getD_eq_getD_getElem?,Array.getElem?_eq_getElem hjs] at q1
     simpa using q1
   ·have hiz':i<z:=by
     have:=(Array.getElem?_eq_some_iff.1 ho).1
     rw [hok.size] at this;omega
    refine wpOp_step ho fun K' hK' => ?_
    refine hstep i o hiz' ho q a w l ⟨h4.size,h4.df,h4.old,fun j hj hjz d hd=>h4.new j (g2 j hj) hjz d hd⟩ (by rw [h1,hok.size]) g1 g2 h2 hS K' fun q' v hqq hv=>hK' _ _ ?_
    have hod:o.dst=dstOf ops i:=by unfold dstOf;rw [ho];rfl
    refine ih q' _ _ _ (by simpa using h1) ?_ ?_ ?_ (by have:=zbU g1;omega) hv
    ·intro j o' hj ho' k hk
     have hkk:l[k]?=some true:=by
      rw [Array.getElem?_setIfInBounds] at hj
      split at hj
      ·rename_i hij
       subst hij
       obtain rfl:o=o':=by rw [ho] at ho';exact Option.some.inj ho'
       exact g2 k hk
      ·exact h2 j o' hj ho' k hk
     rw [Array.getElem?_setIfInBounds]
     split
     ·rename_i hik
      subst hik
      rw [hkk] at g1;cases g1
     ·exact hkk
    ·rw [Array.getElem?_setIfInBounds,if_neg hiz]
     exact h3
    ·refine ⟨by rw [put_size];exact h4.size,by rw [put_df];exact h4.df,fun k hk => ?_,fun j hj hjz d hd => ?_⟩
     ·rw [hod]
      cases hdi:dstOf ops i with
      | none=>exact h4.old k hk
      | some di=>
       rw [zcD,if_neg (fun e=>hk i hiz' (by rw [hdi,e]))]
       exact h4.old k hk
     ·rw [hod]
      by_cases hij:i=j
      ·subst hij
       rw [hd,zcD,if_pos rfl,h4.size,if_pos (hok.dst i hiz' d hd).1]
      ·have hj':l[j]?=some true:=by
        rw [Array.getElem?_setIfInBounds,if_neg hij] at hj
        exact hj
       have hold:a.tmps[d]?=some (vals q' j):=by
        rw [hqq j (fun e=>hij e.symm) hj']
        exact h4.new j hj' hjz d hd
       cases hdi:dstOf ops i with
       | none=>exact hold
       | some di=>
        rw [zcD,if_neg (fun e=>(hok.dst j hjz d hd).2 i hiz' hij (by rw [hdi,e]))]
        exact hold
theorem wp_region_seq3 {id:Nat} {w:World} {oz:Oper} {σ:Type} (vals:σ→Nat→Value) (S:σ→Array Bool→World→Prop) (q0:σ) (z:Nat) (hm:P.follows .mixedOrders=true) (hsq:seqB ops z=true) (hdb:dstB2 ops z a0.tmps.size=true) (hz:ops[z]?=some oz) (hS:S q0 (Array.replicate ops.size false) w.drew)
  (hstep:∀ i o,i<z→ops[i]?=some o→∀ (q:σ) a w (l:Array Bool),Fr ops (vals q) z a0 a (·∈afterOn o)→l.size=z+1→l[i]?=some false→(∀ k∈afterOn o,l[k]?=some true)→(∀ (j:Nat) (oj:Oper),l[j]?=some true→ops[j]?=some oj→∀ k∈afterOn oj,l[k]?=some true)→S q l w→∀ K:Act→World→Prop,(∀ q' v,(∀ j,j≠i→l[j]?=some true→vals q' j=vals q j)→S q' (l.setIfInBounds i true) v→K (a.put o.dst (vals q' i)) v)→if Region.wanted o (yielded ops a.tmps)=true then o.wp P a w K Q else K (a.put o.dst undef) w)
  (hlast:∀ (q:σ) w (l:Array Bool),(∀ j,j<z→l[j]?=some true)→S q l w→∀ K:Act→World→Prop,(∀ b v,Q .normal b v→K b v)→if Region.wanted oz (yielded ops (putTo ops (vals q) a0 z).tmps)=true then oz.wp P (putTo ops (vals q) a0 z) w K Q else K ((putTo ops (vals q) a0 z).put oz.dst undef) w) :
  (Code.region id ops true).wp P Q a0 w:=by
 have hok:=seqOk2 hsq hdb
 refine wp_region_any hm (wpAny_seq3 hok hz hstep hlast ops.size q0 (Array.replicate ops.size false) a0 _ (by simp) ?_ ?_ ⟨rfl,rfl,fun _ _=>rfl,?_⟩ (by simp) hS)
 ·intro i o hi
  rw [Array.getElem?_replicate] at hi
  split at hi<;>cases hi
 ·rw [Array.getElem?_replicate,if_pos (by rw [hok.size];omega)]
 ·intro j hj
  rw [Array.getElem?_replicate] at hj
  split at hj<;>cases hj
end
theorem wp_region_seq3A {P:Program} {Q:Exit→Act→World→Prop} {a0:Act} {id:Nat} {w:World} {σ:Type} (f:Nat→Oper) (vals:σ→Nat→Value) (S:σ→Array Bool→World→Prop) (q0:σ) (z:Nat) (hm:P.follows .mixedOrders=true) (hsq:seqB (opsA f z) z=true) (hdb:dstB2 (opsA f z) z a0.tmps.size=true) (hS:S q0 (Array.replicate (opsA f z).size false) w.drew)
  (hstep:∀ i,i<z→∀ (q:σ) a w (l:Array Bool),Fr (opsA f z) (vals q) z a0 a (·∈afterOn (f i))→l.size=z+1→l[i]?=some false→(∀ k∈afterOn (f i),l[k]?=some true)→(∀ j,j≤z→l[j]?=some true→∀ k∈afterOn (f j),l[k]?=some true)→S q l w→∀ K:Act→World→Prop,(∀ q' v,(∀ j,j≠i→l[j]?=some true→vals q' j=vals q j)→S q' (l.setIfInBounds i true) v→K (a.put (f i).dst (vals q' i)) v)→if Region.wanted (f i) (yielded (opsA f z) a.tmps)=true then (f i).wp P a w K Q else K (a.put (f i).dst undef) w)
  (hlast:∀ (q:σ) w (l:Array Bool),(∀ j,j<z→l[j]?=some true)→S q l w→∀ K:Act→World→Prop,(∀ b v,Q .normal b v→K b v)→if Region.wanted (f z) (yielded (opsA f z) (putA f (vals q) a0 z).tmps)=true then (f z).wp P (putA f (vals q) a0 z) w K Q else K ((putA f (vals q) a0 z).put (f z).dst undef) w) :
  (Code.region id (opsA f z) true).wp P Q a0 w:=
 wp_region_seq3 vals S q0 z hm hsq hdb (zaA f z (Nat.le_refl _)) hS (fun i o hi ho q a w l h1 h2 h3 h4 h5=>by obtain rfl:=so (zaA f z (Nat.le_of_lt hi)) ho;exact hstep i hi q a w l h1 h2 h3 h4 (fun j hj hl=>h5 j (f j) hl (zaA f z hj))) (fun q w l h1 h K hK=>by rw [putA_eq f (vals q) a0 z z (Nat.le_refl _)];exact hlast q w l h1 h K hK)
theorem setne {l:Array Bool} {i j:Nat} (h:i≠j):(l.setIfInBounds i true)[j]?=l[j]?:=by rw [Array.getElem?_setIfInBounds,if_neg h]
structure LvS (w:World) (L1 L2:List Value) (q:Value × Value) (l:Array Bool) (y:World):Prop where
 b:Below w.heap.size w y
 u:l[1]?=some true→SeesC y q.1 1 2 L1
 n:l[3]?=some true→SeesC y q.2 2 2 L2
theorem LvS.start (w:World) (L1 L2:List Value) (q:Value × Value) (n:Nat):LvS w L1 L2 q (Array.replicate n false) w.drew:=by
 have hr:∀ k:Nat,(Array.replicate n false)[k]?≠some true:=by
  intro k
  rw [Array.getElem?_replicate]
  split<;>simp
 exact ⟨(Below.refl _ _).drew,fun e=>absurd e (hr _),fun e=>absurd e (hr _)⟩
theorem LvS.keep {w y:World} {L1 L2:List Value} {q:Value × Value} {l:Array Bool} (h:LvS w L1 L2 q l y) {i:Nat} (h1:i≠1) (h3:i≠3):LvS w L1 L2 q (l.setIfInBounds i true) y:=by
 refine ⟨h.b,?_,?_⟩
 ·rw [setne h1];exact h.u
 ·rw [setne h3];exact h.n
theorem LvS.used {w y y':World} {L1 L2:List Value} {q:Value × Value} {l:Array Bool} (h:LvS w L1 L2 q l y) {v:Value} (hv:SeesC y' v 1 2 L1) (hb:Below y.heap.size y y'):LvS w L1 L2 (v,q.2) (l.setIfInBounds 1 true) y':=by
 refine ⟨h.b.trans (hb.mono h.b.size),fun _=>hv,?_⟩
 rw [setne (by decide)]
 exact fun e=>SeesC.below (h.n e) hb (Nat.le_refl _)
theorem LvS.unused {w y y':World} {L1 L2:List Value} {q:Value × Value} {l:Array Bool} (h:LvS w L1 L2 q l y) {v:Value} (hv:SeesC y' v 2 2 L2) (hb:Below y.heap.size y y'):LvS w L1 L2 (q.1,v) (l.setIfInBounds 3 true) y':=by
 refine ⟨h.b.trans (hb.mono h.b.size),?_,fun _=>hv⟩
 rw [setne (by decide)]
 exact fun e=>SeesC.below (h.u e) hb (Nat.le_refl _)
def lvuN:Nat→Oper
 | 0=>⟨some 12,.load 47 (.tmp 1),47, "law.go:16",#[],none⟩
 | 1=>⟨some 13,.call ⟨.value (.func 24),#[.tmp 12],#[47]⟩,27, "law.go:16",#[⟨0,.data⟩],none⟩
 | 2=>⟨some 14,.load 47 (.tmp 1),47, "law.go:16",#[],none⟩
 | 3=>⟨some 15,.call ⟨.value (.func 25),#[.tmp 14],#[47]⟩,27, "law.go:16",#[⟨2,.data⟩,⟨1,.chain⟩],none⟩
 | 4=>⟨some 4,.assign (.tmp 13),27, "law.go:16",#[⟨1,.data⟩,⟨3,.chain⟩,⟨0,.phase⟩,⟨1,.phase⟩,{ on:=2,ground:=Go.Ground.textOnly Go.Departure.lateStores },{ on:=3,ground:=Go.Ground.textOnly Go.Departure.lateStoresUnsure }],none⟩
 | _=>⟨some 5,.assign (.tmp 15),27, "law.go:16",#[⟨3,.data⟩,⟨4,.chain⟩,⟨0,.phase⟩,⟨1,.phase⟩,⟨2,.phase⟩,⟨3,.phase⟩,⟨4,.phase⟩],none⟩
set_option maxRecDepth 100000 in
set_option maxHeartbeats 4000000 in
theorem regLvU (w:World) (B:Nat) (dv xv sv mv:Value) (L1 L2:List Value) (h0:w.cell? ⟨B,0,none⟩=some dv) (h1:w.cell? ⟨B,1,none⟩=some xv) (h2:w.cell? ⟨B,2,none⟩=some sv) (h3:w.cell? ⟨B,3,none⟩=some mv)
  (hU:∀ y,Below w.heap.size w y→Calls Tryz.prog 24 #[.agg #[dv,xv,sv,mv]] y fun e y'=>∃ v,e=.returned v∧SeesC y' v 1 2 L1∧Below y.heap.size y y')
  (hN:∀ y,Below w.heap.size w y→Calls Tryz.prog 25 #[.agg #[dv,xv,sv,mv]] y fun e y'=>∃ v,e=.returned v∧SeesC y' v 2 2 L2∧Below y.heap.size y y')
  {Q:Exit→Act→World→Prop} {x0 x2 x3 x4 x5 x6 x7 x8 x9 x10 x11 x12 x13 x14 x15 x16 x17 x18 x19 x20 x21 x22 x23 x24 x25 x26 x27 x28 x29 x30 x31 x32 x33 x34 x35 x36 x37 x38 x39 x40 x41 x42 x43 x44 x45 x46 x47 x48 x49 x50 x51 x52 x53 x54 x55 x56 x57:Value} {ri:Nat}
  (h:∀ (v1 v2:Value) (y:World),SeesC y v1 1 2 L1→SeesC y v2 2 2 L2→Below w.heap.size w y→Q .normal ⟨#[x0,.pointer (some ⟨B,0,none⟩),x2,x3,v1,v2,x6,x7,x8,x9,x10,x11,.agg #[dv,xv,sv,mv],v1,.agg #[dv,xv,sv,mv],v2,x16,x17,x18,x19,x20,x21,x22,x23,x24,x25,x26,x27,x28,x29,x30,x31,x32,x33,x34,x35,x36,x37,x38,x39,x40,x41,x42,x43,x44,x45,x46,x47,x48,x49,x50,x51,x52,x53,x54,x55,x56,x57],[]⟩ y) :
  (Code.region ri (opsA lvuN 5) true).wp Tryz.prog Q ⟨#[x0,.pointer (some ⟨B,0,none⟩),x2,x3,x4,x5,x6,x7,x8,x9,x10,x11,x12,x13,x14,x15,x16,x17,x18,x19,x20,x21,x22,x23,x24,x25,x26,x27,x28,x29,x30,x31,x32,x33,x34,x35,x36,x37,x38,x39,x40,x41,x42,x43,x44,x45,x46,x47,x48,x49,x50,x51,x52,x53,x54,x55,x56,x57],[]⟩ w:=by
 refine wp_region_seq3A lvuN (fun (q:Value × Value) j0=>match j0 with|0=>.agg #[dv,xv,sv,mv]|1=>q.1|2=>.agg #[dv,xv,sv,mv]|3=>q.2|4=>q.1|_=>undef) (LvS w L1 L2) (undef,undef) 5 Tryz.mixed (by kernel_rfl) (by kernel_rfl) (LvS.start w L1 L2 _ _) ?_ ?_
 ·intro i9 hi9 q9 a9 w9 l9 hF9 hL9 hl9 hA9 hC9 hS9 K9 hK9
  have hc9:i9=0∨i9=1∨i9=2∨i9=3∨i9=4:=by omega
  clear hi9
  rcases hc9 with rfl|rfl|rfl|rfl|rfl
  ·have e1:=hF9.od 1 (v:=.pointer (some ⟨B,0,none⟩)) rfl
   have y0:=zaJ hS9.b h0
   have y1:=zaJ hS9.b h1
   have y2:=zaJ hS9.b h2
   have y3:=zaJ hS9.b h3
   refine zaW rfl ?_ (hK9 q9 w9 (fun _ _ _=>rfl) (hS9.keep (by decide) (by decide)))
   clear hF9 hA9
   simp only [lvuN,execOp,e1]
   first|done|(go_simp<;>omega)
  ·rw [if_pos (zaD rfl)]
   unfold Oper.wp
   have f12:=hF9.nw 0 12
   have hr9:(execOp a9.eval (lvuN 1)).run Tryz.prog w9=.ok (.enter 24 #[.agg #[dv,xv,sv,mv]]) w9:=by
    simp only [lvuN,execOp]
    go_simp
   rw [hr9,Oper.upon_enter]
   refine Calls.mono (hU w9 hS9.b) ?_
   intro e w10 h10
   obtain ⟨v10,rfl,hv10,hb10⟩:=h10
   refine hK9 (v10,q9.2) w10 ?_ (hS9.used hv10 hb10)
   intro j9 hj9 hd9
   have h4:¬ l9[4]?=some true:=fun e=>by
    have h1:=hC9 4 (by decide) e 1 (List.contains_iff_mem.1 (by kernel_rfl))
    rw [hl9] at h1;cases h1
   have hjz:=(Array.getElem?_eq_some_iff.1 hd9).1
   rw [hL9] at hjz
   have hcj:j9=0∨j9=1∨j9=2∨j9=3∨j9=4∨j9=5:=by omega
   clear hjz
   rcases hcj with rfl|rfl|rfl|rfl|rfl|rfl
   all_goals first|rfl|exact absurd rfl hj9|exact absurd hd9 h4
  ·have e1:=hF9.od 1 (v:=.pointer (some ⟨B,0,none⟩)) rfl
   have y0:=zaJ hS9.b h0
   have y1:=zaJ hS9.b h1
   have y2:=zaJ hS9.b h2
   have y3:=zaJ hS9.b h3
   refine zaW rfl ?_ (hK9 q9 w9 (fun _ _ _=>rfl) (hS9.keep (by decide) (by decide)))
   clear hF9 hA9
   simp only [lvuN,execOp,e1]
   first|done|(go_simp<;>omega)
  ·rw [if_pos (zaD rfl)]
   unfold Oper.wp
   have f14:=hF9.nw 2 14
   have hr9:(execOp a9.eval (lvuN 3)).run Tryz.prog w9=.ok (.enter 25 #[.agg #[dv,xv,sv,mv]]) w9:=by
    simp only [lvuN,execOp]
    go_simp
   rw [hr9,Oper.upon_enter]
   refine Calls.mono (hN w9 hS9.b) ?_
   intro e w10 h10
   obtain ⟨v10,rfl,hv10,hb10⟩:=h10
   refine hK9 (q9.1,v10) w10 ?_ (hS9.unused hv10 hb10)
   intro j9 hj9 hd9
   have hjz:=(Array.getElem?_eq_some_iff.1 hd9).1
   rw [hL9] at hjz
   have hcj:j9=0∨j9=1∨j9=2∨j9=3∨j9=4∨j9=5:=by omega
   clear hjz
   rcases hcj with rfl|rfl|rfl|rfl|rfl|rfl
   all_goals first|rfl|exact absurd rfl hj9
  ·have e13:=hF9.ev 1 13
   refine zaW rfl ?_ (hK9 q9 w9 (fun _ _ _=>rfl) (hS9.keep (by decide) (by decide)))
   clear hF9 hA9
   simp only [lvuN,execOp,e13]
   first|done|(go_simp<;>omega)
 ·intro q9 w9 l9 hall9 hS9 K9 hK9
  simp only [putA,lvuN]
  rw [if_pos (zaD rfl)]
  unfold Oper.wp
  have hr9:=hS9.u (hall9 1 (by decide))
  have hr8:=hS9.n (hall9 3 (by decide))
  go_simp
  exact hK9 _ _ (h _ _ _ hr9 hr8 hS9.b)
def lvcN:Nat→Oper
 | 0=>⟨some 19,.move (.tmp 3),28, "law.go:18",#[],none⟩
 | 1=>⟨some 20,.binOp .eql 28 (.tmp 19) (.const (.int .i64 0)) 28,4, "law.go:18",#[⟨0,.data⟩],none⟩
 | 2=>⟨some 21,.move (.tmp 20),4, "law.go:18",#[⟨1,.data⟩],none⟩
 | 3=>⟨some 22,.move (.tmp 4),27, "law.go:18",#[⟨2,.guard⟩],some (2,true)⟩
 | 4=>⟨some 23,.call ⟨.builtin .len,#[.tmp 22],#[27]⟩,3, "law.go:18",#[⟨3,.data⟩,⟨2,.guard⟩],some (2,true)⟩
 | 5=>⟨some 24,.binOp .eql 3 (.tmp 23) (.const (.int .i64 1)) 3,4, "law.go:18",#[⟨4,.data⟩,⟨2,.guard⟩],some (2,true)⟩
 | 6=>⟨some 25,.pick (.tmp 21) (.tmp 24) (.const (.bool false)),4, "law.go:18",#[⟨2,.data⟩,⟨5,.data⟩],none⟩
 | 7=>⟨some 26,.move (.tmp 25),4, "law.go:18",#[⟨6,.data⟩,⟨2,.chain⟩],none⟩
 | 8=>⟨some 27,.move (.tmp 4),27, "law.go:18",#[⟨7,.guard⟩],some (7,true)⟩
 | 9=>⟨some 28,.indexAddr 27 (.tmp 27) (.const (.int .i64 0)),0, "law.go:18",#[⟨8,.data⟩,⟨7,.guard⟩],some (7,true)⟩
 | 10=>⟨some 29,.fieldAddr 25 (.tmp 28) 1,0, "law.go:18",#[⟨9,.data⟩,⟨7,.guard⟩],some (7,true)⟩
 | 11=>⟨some 30,.load 23 (.tmp 29),23, "law.go:18",#[⟨10,.data⟩,⟨7,.guard⟩],some (7,true)⟩
 | 12=>⟨some 31,.binOp .eql 23 (.tmp 30) (.const (.int .u8 1)) 23,4, "law.go:18",#[⟨11,.data⟩,⟨7,.guard⟩],some (7,true)⟩
 | 13=>⟨some 32,.pick (.tmp 26) (.tmp 31) (.const (.bool false)),4, "law.go:18",#[⟨7,.data⟩,⟨12,.data⟩],none⟩
 | 14=>⟨some 33,.move (.tmp 32),4, "law.go:18",#[⟨13,.data⟩,⟨7,.chain⟩],none⟩
 | 15=>⟨some 34,.move (.tmp 5),27, "law.go:18",#[⟨14,.guard⟩],some (14,true)⟩
 | 16=>⟨some 35,.call ⟨.builtin .len,#[.tmp 34],#[27]⟩,3, "law.go:18",#[⟨15,.data⟩,⟨14,.guard⟩],some (14,true)⟩
 | 17=>⟨some 36,.binOp .eql 3 (.tmp 35) (.const (.int .i64 2)) 3,4, "law.go:18",#[⟨16,.data⟩,⟨14,.guard⟩],some (14,true)⟩
 | 18=>⟨some 37,.pick (.tmp 33) (.tmp 36) (.const (.bool false)),4, "law.go:18",#[⟨14,.data⟩,⟨17,.data⟩],none⟩
 | 19=>⟨some 38,.move (.tmp 37),4, "law.go:18",#[⟨18,.data⟩,⟨14,.chain⟩],none⟩
 | 20=>⟨some 39,.move (.tmp 6),36, "law.go:18",#[⟨19,.guard⟩],some (19,true)⟩
 | 21=>⟨some 40,.call ⟨.builtin .len,#[.tmp 39],#[36]⟩,3, "law.go:18",#[⟨20,.data⟩,⟨19,.guard⟩],some (19,true)⟩
 | 22=>⟨some 41,.binOp .eql 3 (.tmp 40) (.const (.int .i64 2)) 3,4, "law.go:18",#[⟨21,.data⟩,⟨19,.guard⟩],some (19,true)⟩
 | 23=>⟨some 42,.pick (.tmp 38) (.tmp 41) (.const (.bool false)),4, "law.go:18",#[⟨19,.data⟩,⟨22,.data⟩],none⟩
 | 24=>⟨some 43,.move (.tmp 42),4, "law.go:18",#[⟨23,.data⟩,⟨19,.chain⟩],none⟩
 | 25=>⟨some 44,.move (.tmp 6),36, "law.go:18",#[⟨24,.guard⟩],some (24,true)⟩
 | 26=>⟨some 45,.indexAddr 36 (.tmp 44) (.const (.int .i64 1)),0, "law.go:18",#[⟨25,.data⟩,⟨24,.guard⟩],some (24,true)⟩
 | 27=>⟨some 46,.load 9 (.tmp 45),9, "law.go:18",#[⟨26,.data⟩,⟨24,.guard⟩],some (24,true)⟩
 | 28=>⟨some 47,.binOp .eql 9 (.tmp 46) (.const (.string ⟨#[113,49]⟩)) 9,4, "law.go:18",#[⟨27,.data⟩,⟨24,.guard⟩],some (24,true)⟩
 | 29=>⟨some 48,.pick (.tmp 43) (.tmp 47) (.const (.bool false)),4, "law.go:18",#[⟨24,.data⟩,⟨28,.data⟩],none⟩
 | 30=>⟨some 49,.move (.tmp 48),4, "law.go:18",#[⟨29,.data⟩,⟨24,.chain⟩],none⟩
 | 31=>⟨some 50,.fieldAddr 47 (.tmp 1) 0,0, "law.go:18",#[⟨30,.guard⟩],some (30,true)⟩
 | 32=>⟨some 51,.load 22 (.tmp 50),22, "law.go:18",#[⟨31,.data⟩,⟨30,.guard⟩],some (30,true)⟩
 | 33=>⟨some 52,.move (.tmp 4),27, "law.go:18",#[⟨30,.guard⟩],some (30,true)⟩
 | 34=>⟨some 53,.indexAddr 27 (.tmp 52) (.const (.int .i64 0)),0, "law.go:18",#[⟨33,.data⟩,⟨30,.guard⟩],some (30,true)⟩
 | 35=>⟨some 54,.load 25 (.tmp 53),25, "law.go:18",#[⟨34,.data⟩,⟨30,.guard⟩],some (30,true)⟩
 | 36=>⟨some 55,.call ⟨.value (.func 12),#[.tmp 51,.tmp 54],#[22,25]⟩,33, "law.go:18",#[⟨32,.data⟩,⟨35,.data⟩,⟨30,.chain⟩,⟨30,.guard⟩],some (30,true)⟩
 | 37=>⟨some 56,.binOp .eql 33 (.tmp 55) (.const (.int .u8 1)) 33,4, "law.go:18",#[⟨36,.data⟩,⟨30,.guard⟩],some (30,true)⟩
 | 38=>⟨some 57,.pick (.tmp 49) (.tmp 56) (.const (.bool false)),4, "law.go:18",#[⟨30,.data⟩,⟨37,.data⟩],none⟩
 | _=>⟨some 0,.assign (.tmp 57),4, "law.go:18",#[⟨38,.data⟩,⟨36,.chain⟩,⟨0,.phase⟩,⟨1,.phase⟩,⟨2,.phase⟩,⟨3,.phase⟩,⟨4,.phase⟩,⟨5,.phase⟩,⟨6,.phase⟩,⟨7,.phase⟩,⟨8,.phase⟩,⟨9,.phase⟩,⟨10,.phase⟩,⟨11,.phase⟩,⟨12,.phase⟩,⟨13,.phase⟩,⟨14,.phase⟩,⟨15,.phase⟩,⟨16,.phase⟩,⟨17,.phase⟩,⟨18,.phase⟩,⟨19,.phase⟩,⟨20,.phase⟩,⟨21,.phase⟩,⟨22,.phase⟩,⟨23,.phase⟩,⟨24,.phase⟩,⟨25,.phase⟩,⟨26,.phase⟩,⟨27,.phase⟩,⟨28,.phase⟩,⟨29,.phase⟩,⟨30,.phase⟩,⟨31,.phase⟩,⟨32,.phase⟩,⟨33,.phase⟩,⟨34,.phase⟩,⟨35,.phase⟩,⟨36,.phase⟩,⟨37,.phase⟩,⟨38,.phase⟩],none⟩
set_option maxRecDepth 100000 in
set_option maxHeartbeats 8000000 in
theorem regLvC (w:World) (B ub uo uc nb no nc fb fo fc dn dc:Nat) (da:Option Addr) (nm:ByteArray) (h0:w.cell? ⟨ub,uo,none⟩=some (.string nm)) (h1:w.cell? ⟨ub,uo+1,none⟩=some (.int .u8 1)) (h2:w.cell? ⟨fb,fo+1,none⟩=some (.string ⟨#[113,49]⟩)) (h3:w.cell? ⟨B,0,none⟩=some (.slice da dn dc))
  (hKd:∀ y,Below w.heap.size w y→Calls Tryz.prog 12 #[.slice da dn dc,.agg #[.string nm,.int .u8 1]] y fun e y'=>e=.returned (.int .u8 1)∧Below y.heap.size y y')
  {Q:Exit→Act→World→Prop} {x0 x2 x7 x8 x9 x10 x11 x12 x13 x14 x15 x16 x17 x18 x19 x20 x21 x22 x23 x24 x25 x26 x27 x28 x29 x30 x31 x32 x33 x34 x35 x36 x37 x38 x39 x40 x41 x42 x43 x44 x45 x46 x47 x48 x49 x50 x51 x52 x53 x54 x55 x56 x57:Value} {ri:Nat}
  (h:∀ (y:World),Below w.heap.size w y→Q .normal ⟨#[.bool true,.pointer (some ⟨B,0,none⟩),x2,.int .i64 0,.slice (some ⟨ub,uo,none⟩) 1 uc,.slice (some ⟨nb,no,none⟩) 2 nc,.slice (some ⟨fb,fo,none⟩) 2 fc,x7,x8,x9,x10,x11,x12,x13,x14,x15,x16,x17,x18,.int .i64 0,.bool true,.bool true,.slice (some ⟨ub,uo,none⟩) 1 uc,.int .i64 1,.bool true,.bool true,.bool true,.slice (some ⟨ub,uo,none⟩) 1 uc,.pointer (some ⟨ub,uo,none⟩),.pointer (some ⟨ub,uo+1,none⟩),.int .u8 1,.bool true,.bool true,.bool true,.slice (some ⟨nb,no,none⟩) 2 nc,.int .i64 2,.bool true,.bool true,.bool true,.slice (some ⟨fb,fo,none⟩) 2 fc,.int .i64 2,.bool true,.bool true,.bool true,.slice (some ⟨fb,fo,none⟩) 2 fc,.pointer (some ⟨fb,fo+1,none⟩),.string ⟨#[113,49]⟩,.bool true,.bool true,.bool true,.pointer (some ⟨B,0,none⟩),.slice da dn dc,.slice (some ⟨ub,uo,none⟩) 1 uc,.pointer (some ⟨ub,uo,none⟩),.agg #[.string nm,.int .u8 1],.int .u8 1,.bool true,.bool true],[]⟩ y) :
  (Code.region ri (opsA lvcN 39) true).wp Tryz.prog Q ⟨#[x0,.pointer (some ⟨B,0,none⟩),x2,.int .i64 0,.slice (some ⟨ub,uo,none⟩) 1 uc,.slice (some ⟨nb,no,none⟩) 2 nc,.slice (some ⟨fb,fo,none⟩) 2 fc,x7,x8,x9,x10,x11,x12,x13,x14,x15,x16,x17,x18,x19,x20,x21,x22,x23,x24,x25,x26,x27,x28,x29,x30,x31,x32,x33,x34,x35,x36,x37,x38,x39,x40,x41,x42,x43,x44,x45,x46,x47,x48,x49,x50,x51,x52,x53,x54,x55,x56,x57],[]⟩ w:=by
 refine zaU lvcN (fun i=>match i with|0=>.int .i64 0|1=>.bool true|2=>.bool true|3=>.slice (some ⟨ub,uo,none⟩) 1 uc|4=>.int .i64 1|5=>.bool true|6=>.bool true|7=>.bool true|8=>.slice (some ⟨ub,uo,none⟩) 1 uc|9=>.pointer (some ⟨ub,uo,none⟩)|10=>.pointer (some ⟨ub,uo+1,none⟩)|11=>.int .u8 1|12=>.bool true|13=>.bool true|14=>.bool true|15=>.slice (some ⟨nb,no,none⟩) 2 nc|16=>.int .i64 2|17=>.bool true|18=>.bool true|19=>.bool true|20=>.slice (some ⟨fb,fo,none⟩) 2 fc|21=>.int .i64 2|22=>.bool true|23=>.bool true|24=>.bool true|25=>.slice (some ⟨fb,fo,none⟩) 2 fc|26=>.pointer (some ⟨fb,fo+1,none⟩)|27=>.string ⟨#[113,49]⟩|28=>.bool true|29=>.bool true|30=>.bool true|31=>.pointer (some ⟨B,0,none⟩)|32=>.slice da dn dc|33=>.slice (some ⟨ub,uo,none⟩) 1 uc|34=>.pointer (some ⟨ub,uo,none⟩)|35=>.agg #[.string nm,.int .u8 1]|36=>.int .u8 1|37=>.bool true|38=>.bool true|_=>undef) (fun y=>Below w.heap.size w y) 39 Tryz.mixed (by kernel_rfl) (by kernel_rfl) (Below.refl _ _).drew ?_ ?_
 ·intro i9 hi9 a9 w9 hF9 hS9 K9 hK9
  have hc9:i9=0∨i9=1∨i9=2∨i9=3∨i9=4∨i9=5∨i9=6∨i9=7∨i9=8∨i9=9∨i9=10∨i9=11∨i9=12∨i9=13∨i9=14∨i9=15∨i9=16∨i9=17∨i9=18∨i9=19∨i9=20∨i9=21∨i9=22∨i9=23∨i9=24∨i9=25∨i9=26∨i9=27∨i9=28∨i9=29∨i9=30∨i9=31∨i9=32∨i9=33∨i9=34∨i9=35∨i9=36∨i9=37∨i9=38:=by omega
  clear hi9
  rcases hc9 with rfl|rfl|rfl|rfl|rfl|rfl|rfl|rfl|rfl|rfl|rfl|rfl|rfl|rfl|rfl|rfl|rfl|rfl|rfl|rfl|rfl|rfl|rfl|rfl|rfl|rfl|rfl|rfl|rfl|rfl|rfl|rfl|rfl|rfl|rfl|rfl|rfl|rfl|rfl
  ·have e3:=hF9.od 3 (v:=.int .i64 0) rfl
   refine zaW rfl ?_ (hK9 _ hS9)
   clear hF9
   simp only [lvcN,execOp,e3]
   first|done|(go_simp<;>omega)
  ·have e19:=hF9.ev 0 19
   refine zaW rfl ?_ (hK9 _ hS9)
   clear hF9
   simp only [lvcN,execOp,e19]
   first|done|(go_simp<;>omega)
  ·have e20:=hF9.ev 1 20
   refine zaW rfl ?_ (hK9 _ hS9)
   clear hF9
   simp only [lvcN,execOp,e20]
   first|done|(go_simp<;>omega)
  ·have e4:=hF9.od 4 (v:=.slice (some ⟨ub,uo,none⟩) 1 uc) rfl
   refine zbC rfl (hF9.nw 2 21) ?_
   refine zaR ?_ (hK9 _ hS9)
   clear hF9
   simp only [lvcN,execOp,e4]
   first|done|(go_simp<;>omega)
  ·have f22:=hF9.nw 3 22
   refine zbC rfl (hF9.nw 2 21) ?_
   refine zaR ?_ (hK9 _ hS9)
   clear hF9
   simp only [lvcN,execOp]
   first|done|(go_simp<;>omega)
  ·have e23:=hF9.ev 4 23
   refine zbC rfl (hF9.nw 2 21) ?_
   refine zaR ?_ (hK9 _ hS9)
   clear hF9
   simp only [lvcN,execOp,e23]
   first|done|(go_simp<;>omega)
  ·have e21:=hF9.ev 2 21
   have e24:=hF9.ev 5 24
   refine zaW rfl ?_ (hK9 _ hS9)
   clear hF9
   simp only [lvcN,execOp,e21,e24]
   first|done|(go_simp<;>omega)
  ·have e25:=hF9.ev 6 25
   refine zaW rfl ?_ (hK9 _ hS9)
   clear hF9
   simp only [lvcN,execOp,e25]
   first|done|(go_simp<;>omega)
  ·have e4:=hF9.od 4 (v:=.slice (some ⟨ub,uo,none⟩) 1 uc) rfl
   refine zbC rfl (hF9.nw 7 26) ?_
   refine zaR ?_ (hK9 _ hS9)
   clear hF9
   simp only [lvcN,execOp,e4]
   first|done|(go_simp<;>omega)
  ·have e27:=hF9.ev 8 27
   refine zbC rfl (hF9.nw 7 26) ?_
   refine zaR ?_ (hK9 _ hS9)
   clear hF9
   simp only [lvcN,execOp,e27]
   first|done|(go_simp<;>omega)
  ·have e28:=hF9.ev 9 28
   refine zbC rfl (hF9.nw 7 26) ?_
   refine zaR ?_ (hK9 _ hS9)
   clear hF9
   simp only [lvcN,execOp,e28]
   first|done|(go_simp<;>omega)
  ·have e29:=hF9.ev 10 29
   refine zbC rfl (hF9.nw 7 26) ?_
   have y1:=zaJ hS9 h1
   refine zaR ?_ (hK9 _ hS9)
   clear hF9
   simp only [lvcN,execOp,e29]
   first|done|(go_simp<;>omega)
  ·have e30:=hF9.ev 11 30
   refine zbC rfl (hF9.nw 7 26) ?_
   refine zaR ?_ (hK9 _ hS9)
   clear hF9
   simp only [lvcN,execOp,e30]
   first|done|(go_simp<;>omega)
  ·have e26:=hF9.ev 7 26
   have e31:=hF9.ev 12 31
   refine zaW rfl ?_ (hK9 _ hS9)
   clear hF9
   simp only [lvcN,execOp,e26,e31]
   first|done|(go_simp<;>omega)
  ·have e32:=hF9.ev 13 32
   refine zaW rfl ?_ (hK9 _ hS9)
   clear hF9
   simp only [lvcN,execOp,e32]
   first|done|(go_simp<;>omega)
  ·have e5:=hF9.od 5 (v:=.slice (some ⟨nb,no,none⟩) 2 nc) rfl
   refine zbC rfl (hF9.nw 14 33) ?_
   refine zaR ?_ (hK9 _ hS9)
   clear hF9
   simp only [lvcN,execOp,e5]
   first|done|(go_simp<;>omega)
  ·have f34:=hF9.nw 15 34
   refine zbC rfl (hF9.nw 14 33) ?_
   refine zaR ?_ (hK9 _ hS9)
   clear hF9
   simp only [lvcN,execOp]
   first|done|(go_simp<;>omega)
  ·have e35:=hF9.ev 16 35
   refine zbC rfl (hF9.nw 14 33) ?_
   refine zaR ?_ (hK9 _ hS9)
   clear hF9
   simp only [lvcN,execOp,e35]
   first|done|(go_simp<;>omega)
  ·have e33:=hF9.ev 14 33
   have e36:=hF9.ev 17 36
   refine zaW rfl ?_ (hK9 _ hS9)
   clear hF9
   simp only [lvcN,execOp,e33,e36]
   first|done|(go_simp<;>omega)
  ·have e37:=hF9.ev 18 37
   refine zaW rfl ?_ (hK9 _ hS9)
   clear hF9
   simp only [lvcN,execOp,e37]
   first|done|(go_simp<;>omega)
  ·have e6:=hF9.od 6 (v:=.slice (some ⟨fb,fo,none⟩) 2 fc) rfl
   refine zbC rfl (hF9.nw 19 38) ?_
   refine zaR ?_ (hK9 _ hS9)
   clear hF9
   simp only [lvcN,execOp,e6]
   first|done|(go_simp<;>omega)
  ·have f39:=hF9.nw 20 39
   refine zbC rfl (hF9.nw 19 38) ?_
   refine zaR ?_ (hK9 _ hS9)
   clear hF9
   simp only [lvcN,execOp]
   first|done|(go_simp<;>omega)
  ·have e40:=hF9.ev 21 40
   refine zbC rfl (hF9.nw 19 38) ?_
   refine zaR ?_ (hK9 _ hS9)
   clear hF9
   simp only [lvcN,execOp,e40]
   first|done|(go_simp<;>omega)
  ·have e38:=hF9.ev 19 38
   have e41:=hF9.ev 22 41
   refine zaW rfl ?_ (hK9 _ hS9)
   clear hF9
   simp only [lvcN,execOp,e38,e41]
   first|done|(go_simp<;>omega)
  ·have e42:=hF9.ev 23 42
   refine zaW rfl ?_ (hK9 _ hS9)
   clear hF9
   simp only [lvcN,execOp,e42]
   first|done|(go_simp<;>omega)
  ·have e6:=hF9.od 6 (v:=.slice (some ⟨fb,fo,none⟩) 2 fc) rfl
   refine zbC rfl (hF9.nw 24 43) ?_
   refine zaR ?_ (hK9 _ hS9)
   clear hF9
   simp only [lvcN,execOp,e6]
   first|done|(go_simp<;>omega)
  ·have e44:=hF9.ev 25 44
   refine zbC rfl (hF9.nw 24 43) ?_
   refine zaR ?_ (hK9 _ hS9)
   clear hF9
   simp only [lvcN,execOp,e44]
   first|done|(go_simp<;>omega)
  ·have e45:=hF9.ev 26 45
   refine zbC rfl (hF9.nw 24 43) ?_
   have y2:=zaJ hS9 h2
   refine zaR ?_ (hK9 _ hS9)
   clear hF9
   simp only [lvcN,execOp,e45]
   first|done|(go_simp<;>omega)
  ·have e46:=hF9.ev 27 46
   refine zbC rfl (hF9.nw 24 43) ?_
   refine zaR ?_ (hK9 _ hS9)
   clear hF9
   simp only [lvcN,execOp,e46]
   first|done|(go_simp<;>omega)
  ·have e43:=hF9.ev 24 43
   have e47:=hF9.ev 28 47
   refine zaW rfl ?_ (hK9 _ hS9)
   clear hF9
   simp only [lvcN,execOp,e43,e47]
   first|done|(go_simp<;>omega)
  ·have e48:=hF9.ev 29 48
   refine zaW rfl ?_ (hK9 _ hS9)
   clear hF9
   simp only [lvcN,execOp,e48]
   first|done|(go_simp<;>omega)
  ·have e1:=hF9.od 1 (v:=.pointer (some ⟨B,0,none⟩)) rfl
   refine zbC rfl (hF9.nw 30 49) ?_
   refine zaR ?_ (hK9 _ hS9)
   clear hF9
   simp only [lvcN,execOp,e1]
   first|done|(go_simp<;>omega)
  ·have e50:=hF9.ev 31 50
   refine zbC rfl (hF9.nw 30 49) ?_
   have y3:=zaJ hS9 h3
   refine zaR ?_ (hK9 _ hS9)
   clear hF9
   simp only [lvcN,execOp,e50]
   first|done|(go_simp<;>omega)
  ·have e4:=hF9.od 4 (v:=.slice (some ⟨ub,uo,none⟩) 1 uc) rfl
   refine zbC rfl (hF9.nw 30 49) ?_
   refine zaR ?_ (hK9 _ hS9)
   clear hF9
   simp only [lvcN,execOp,e4]
   first|done|(go_simp<;>omega)
  ·have e52:=hF9.ev 33 52
   refine zbC rfl (hF9.nw 30 49) ?_
   refine zaR ?_ (hK9 _ hS9)
   clear hF9
   simp only [lvcN,execOp,e52]
   first|done|(go_simp<;>omega)
  ·have e53:=hF9.ev 34 53
   refine zbC rfl (hF9.nw 30 49) ?_
   have y0:=zaJ hS9 h0
   have y1:=zaJ hS9 h1
   refine zaR ?_ (hK9 _ hS9)
   clear hF9
   simp only [lvcN,execOp,e53]
   first|done|(go_simp<;>omega)
  ·refine zbC rfl (hF9.nw 30 49) ?_
   unfold Oper.wp
   have f51:=hF9.nw 32 51
   have f54:=hF9.nw 35 54
   have hr9:(execOp a9.eval (lvcN 36)).run Tryz.prog w9=.ok (.enter 12 #[.slice da dn dc,.agg #[.string nm,.int .u8 1]]) w9:=by
    simp only [lvcN,execOp]
    go_simp
   rw [hr9,Oper.upon_enter]
   refine Calls.mono (hKd w9 hS9) ?_
   intro e w10 h10
   obtain ⟨rfl,hb10⟩:=h10
   exact hK9 _ (hS9.trans (hb10.mono hS9.size))
  ·have e55:=hF9.ev 36 55
   refine zbC rfl (hF9.nw 30 49) ?_
   refine zaR ?_ (hK9 _ hS9)
   clear hF9
   simp only [lvcN,execOp,e55]
   first|done|(go_simp<;>omega)
  ·have e49:=hF9.ev 30 49
   have e56:=hF9.ev 37 56
   refine zaW rfl ?_ (hK9 _ hS9)
   clear hF9
   simp only [lvcN,execOp,e49,e56]
   first|done|(go_simp<;>omega)
 ·intro w9 hS9 K9 hK9
  simp only [putA,lvcN]
  rw [if_pos (zaD rfl)]
  unfold Oper.wp
  go_simp
  exact hK9 _ _ (h _ hS9)
def qn (i:Nat):ByteArray:=⟨(113::Lib.itoa (i:Int)).toArray⟩
theorem itoa_nat (n:Nat):Lib.itoa (n:Int)=Lib.decDigits n:=by
 unfold Lib.itoa
 rw [if_neg (by omega),show ((n:Int)).toNat=n by omega]
theorem qn_inj {i k:Nat} (h:qn i=qn k):i=k:=by
 simp only [qn,ByteArray.mk.injEq,itoa_nat] at h
 have h1:Lib.decDigits i=Lib.decDigits k:=by simpa using h
 rw [←(zcH i).2.1,h1,(zcH k).2.1]
def cntN (p:Nat→Bool):Nat→Nat
 | 0=>0
 | j+1=>cntN p j+if p j=true then 1 else 0
theorem cntN_or (p q:Nat→Bool):∀ j,cntN (fun i=>p i || q i) j≤cntN p j+cntN q j
 | 0=>Nat.le_refl _
 | j+1=>by
  have:=cntN_or p q j
  simp only [cntN,Bool.or_eq_true]
  split<;>split<;>split<;>first|omega|(rename_i a b c;simp_all)
theorem cntN_none {p:Nat→Bool}:∀ j,(∀ i,i<j→p i=false)→cntN p j=0
 | 0,_=>rfl
 | j+1,h=>by
  rw [cntN,cntN_none j (fun i hi=>h i (by omega)),h j (by omega)]
  rfl
theorem cntN_one {p:Nat→Bool} (h:∀ i k,p i=true→p k=true→i=k):∀ j,cntN p j≤1
 | 0=>Nat.zero_le _
 | j+1=>by
  rw [cntN]
  by_cases hj:p j=true
  ·rw [cntN_none j (fun i hi=>by
    cases hp:p i with
    | false=>rfl
    | true=>have:=h i j hp hj;omega),if_pos hj]
   omega
  ·have:=cntN_one h j
   rw [if_neg hj]
   omega
def tkn (ds:List Dcl) (i:Nat):Bool:=ds.any fun d=>decide (d.name=qn i)
theorem tkn_few:∀ (ds:List Dcl) (j:Nat),cntN (tkn ds) j≤ds.length
 | [],j=>by
  have h:cntN (tkn []) j=0:=cntN_none j (fun _ _=>rfl)
  rw [h];exact Nat.zero_le _
 | d::r,j=>by
  have e:tkn (d::r)=fun i=>decide (d.name=qn i) || tkn r i:=by
   funext i
   simp [tkn]
  have h1:=cntN_or (fun i=>decide (d.name=qn i)) (tkn r) j
  have h2:=cntN_one (p:=fun i=>decide (d.name=qn i)) (fun i k hi hk=>qn_inj ((of_decide_eq_true hi).symm.trans (of_decide_eq_true hk))) j
  have h3:=tkn_few r j
  rw [e,List.length_cons]
  omega
def frs (ds:List Dcl):Nat→List ByteArray
 | 0=>[]
 | i+1=>if tkn ds i=true then frs ds i else frs ds i++[qn i]
theorem frs_len (ds:List Dcl):∀ j,(frs ds j).length+cntN (tkn ds) j=j
 | 0=>rfl
 | j+1=>by
  have:=frs_len ds j
  rw [frs,cntN]
  split
  ·omega
  ·rw [List.length_append,List.length_singleton];omega
theorem frs_many (ds:List Dcl) (j:Nat):j≤(frs ds j).length+ds.length:=by
 have:=frs_len ds j
 have:=tkn_few ds j
 omega
theorem frs_le (ds:List Dcl) (j:Nat):(frs ds j).length≤j:=by
 have:=frs_len ds j
 omega
theorem frs_prefix (ds:List Dcl) (j:Nat):∀ k,frs ds j <+: frs ds (j+k)
 | 0=>List.prefix_refl _
 | k+1=>by
  have h:=frs_prefix ds j k
  show frs ds j <+: frs ds (j+k+1)
  rw [frs]
  split
  ·exact h
  ·exact h.trans (List.prefix_append _ _)
def freshL (ds:List Dcl) (n:Int):List ByteArray:=(frs ds (ds.length+64)).take (min n 64).toNat
theorem freshL_at {ds:List Dcl} {n:Int} {j:Nat} (hj:j≤ds.length+64) (h1:(frs ds j).length=(min n 64).toNat):freshL ds n=frs ds j:=by
 have h:=frs_prefix ds j (ds.length+64-j)
 rw [show j+(ds.length+64-j)=ds.length+64 by omega] at h
 unfold freshL
 rw [←h1]
 exact (List.prefix_iff_eq_take.1 h).symm
theorem freshL_len (ds:List Dcl) (n:Int):(freshL ds n).length=(min n 64).toNat:=by
 have:=frs_many ds (ds.length+64)
 unfold freshL
 rw [List.length_take]
 omega
theorem qn_size {i:Nat} (h:(i:Int)≤9223372036854775807):(qn i).size≤22:=by
 have:=Lib.itoa_length_le (i:Int) (by omega) h
 show ((113::Lib.itoa (i:Int)).toArray).size≤22
 simp only [List.size_toArray,List.length_cons]
 omega
def cntD (ds:List Dcl) (t:ByteArray):Nat:=ds.countP fun d=>decide (d.name=t)
def cntF (ds:List Dcl):Fn:=fun t=>if cntD ds t=0 then none else some (.int .i64 (cntD ds t:Int))
theorem cntF_get (ds:List Dcl) (t:ByteArray):(cntF ds t).getD (.int .i64 0)=.int .i64 (cntD ds t:Int):=by
 unfold cntF
 split
 ·rename_i h
  rw [h];rfl
 ·rfl
theorem cntF_add (ds:List Dcl) (d:Dcl):cntF (ds++[d])=upd (cntF ds) d.name (.int .i64 ((cntD ds d.name:Int)+1)):=by
 funext t
 simp only [cntF,upd,cntD,List.countP_append]
 by_cases e:t=d.name
 ·subst e
  simp
 ·have e2:¬ d.name=t:=fun h=>e h.symm
  simp [e,e2]
theorem cntD_le (ds:List Dcl) (t:ByteArray):cntD ds t≤ds.length:=List.countP_le_length
theorem tkn_cnt (ds:List Dcl) (i:Nat):((cntD ds (qn i):Int)==0) = !tkn ds i:=by
 cases h:tkn ds i with
 | false=>
  have:cntD ds (qn i)=0:=List.countP_eq_zero.2 (fun d hd=>by
   have:=List.any_eq_false.1 h d hd
   simpa using this)
  rw [this];rfl
 | true=>
  obtain ⟨d,hd,h2⟩:=List.any_eq_true.1 h
  have:0<cntD ds (qn i):=List.countP_pos_iff.2 ⟨d,hd,h2⟩
  simp
  omega
theorem itoa55 (n:Int) (w:World) (hn:In64 n) (ht:Tab w):Calls Tryz.prog 66 #[.int .i64 n,.int .i64 10] w fun e w'=>e=.returned (.string ⟨(Lib.itoa n).toArray⟩)∧Below w.heap.size w w':=
 (Any.internal_strconv_FormatInt_10 (ρ:=Tryz.laysM173_ren) { Tryz.laysM173 with } n hn.1 hn.2 w ht).mono (by rintro e w' ⟨rfl,k,os,rfl⟩;exact ⟨rfl,below_grow _ _ _⟩)
theorem itoa34 (n:Int) (w:World) (hn:In64 n) (ht:Tab w):Calls Tryz.prog 41 #[.int .i64 n] w fun e w'=>e=.returned (.string ⟨(Lib.itoa n).toArray⟩)∧Below w.heap.size w w':=by
 go_enter Tryz.func41,Tryz.ntmps41
 go_wp2_with (go_at_call 66;refine (itoa55 n w hn ht).mono ?_;rintro e w' ⟨rfl,hb⟩)
 go_ret
 exact ⟨rfl,hb⟩
theorem itoa_any (n:Int) (w:World) (hn:In64 n) (ht:Tab w):Calls Tryz.prog 26 #[.int .i64 n] w fun e w'=>e=.returned (.string ⟨(Lib.itoa n).toArray⟩)∧Below w.heap.size w w':=by
 go_enter Tryz.func26,Tryz.ntmps26
 go_wp2_with (go_at_call 41;refine (itoa34 n w hn ht).mono ?_;rintro e w' ⟨rfl,hb⟩)
 go_ret
 exact ⟨rfl,hb⟩
end Go.Proofs.YtmekkhfohmfjkaaGreatDoor
