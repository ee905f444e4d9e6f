/-
  Part 22 of the proof: RParse7, OpenT, TRightM, PSrc.
-/
import Derived.Test.YtfljimpgnlfipaaGreatDoorTE21
import Derived.Test.YtfljimpgnlfipaaGreatDoorTE20
namespace Go.Proofs.YtfljimpgnlfipaaGreatDoor
open Go.RowKit Go.Deep Go.MapKept
theorem cell_new (w:World) (cs:Array Value) (t:TypeId) (j:Nat) (c:Value) (h:cs.toList[j]?=some c):(w.alloc (.cells cs t)).cell? ⟨w.heap.size,j,none⟩=some c:=by
 unfold World.cell?;rw [World.alloc_heap_new];have:cs[j]?=some c:=by rw [←Array.getElem?_toList];exact h
 simpa using this
theorem zdJ {B:Nat} {a w:World} (h:Below B a w) (n:Nat):Below B a (w.drewN n):=⟨h.os,h.tape,h.output,h.size,h.block⟩
theorem zeQ {W w4:World} {o:Obj} (hg:(W.alloc o).grownBy w4 (some W.heap.size)):W.grownBy w4 none:=
 ⟨hg.os,hg.tape,hg.output,by have:=hg.size;simp at this;omega,fun k hk _=>(hg.block k (by simp;omega) (by simp;omega)).trans (Below.heap_alloc W o k hk)⟩
theorem ints_one (l:List Nat):∀ c∈ints l,c.oneCell'=true:=by
 intro c hc;simp only [ints,List.mem_map] at hc;obtain ⟨n,_,rfl⟩:=hc;rfl
theorem form_at {W:World} {b:Nat} (f:Frm) (h:b=W.heap.size):SeesC (W.alloc (.cells #[.int .u8 f.k,.string f.s,.int .i64 f.n,.slice none 0 0,.int .i64 f.p] 97)) (.slice (some ⟨b,0,none⟩) 1 1) 1 5 (fcells (f,.slice none 0 0)):=by subst h;exact form_seen f
theorem zeM {σ:St} {t:Tok} (hk:t.k=1∨t.k=3∨t.k=4) (h1:¬ ((t.k=1∧σ.opn.length=12)∨σ.forms.length=400)):step σ t=.ok (if t.k=1 then { addF (formOf t) σ with opn:=σ.opn++[σ.forms.length] } else addF (formOf t) σ):=by
 have h2:¬ t.k=2:=by rcases hk with h|h|h<;>rw [h]<;>decide
 have hf:¬ σ.forms.length=400:=fun e=>h1 (.inr e)
 unfold step;rw [if_neg h2];by_cases hk1:t.k=1
 ·rw [if_pos hk1,if_pos hk1,if_neg (fun e=>h1 (.inl ⟨hk1,e⟩)),if_neg hf]
 ·rw [if_neg hk1,if_neg hk1,if_pos (hk.resolve_left hk1),if_neg hf]
theorem zeR {W W1 w2:World} {o:Obj} {row:Option Nat} (h:W.grownBy W1 none) (hg:(W1.alloc o).grownBy w2 row) (hr:∀ k,row=some k→W.heap.size≤k):W.grownBy w2 none:=
 ⟨hg.os.trans h.os,hg.tape.trans h.tape,hg.output.trans h.output,by have:=hg.size;have:=h.size;simp at *;omega,fun k hk _=>(hg.block k (by have:=h.size;simp;omega) (fun e=>by have:=hr k e.symm;omega)).trans ((Below.heap_alloc W1 o k (by have:=h.size;omega)).trans (h.block k hk (by simp)))⟩
theorem steps_good:∀ (l:List Tok) (σ σ':St),Good σ→steps l σ=.ok σ'→Good σ'
 | [],σ,σ',h,e=>by cases e;exact h
 | t::r,σ,σ',h,e=>by
  unfold steps at e;cases hs:step σ t with
  | error q=>rw [hs] at e;cases e
  | ok σ1=>rw [hs] at e;exact steps_good r σ1 σ' (step_good h hs) e
theorem zcF {l:List Tok} {σ':St} (e:steps l begin0=.ok σ'):Good σ':=steps_good l _ _ good_begin e
theorem ints_take (l:List Nat) (m:Nat):ints (l.take m)=(ints l).take m:=by simp [ints,List.map_take]
end Go.Proofs.YtfljimpgnlfipaaGreatDoor

namespace Go.Proofs.YtfljimpgnlfipaaGreatDoor
open Go.RowKit Go.Deep Go.MapKept
inductive Seg (K:Nat→List Nat):Nat→Nat→List Nat→Prop
 | nil (lo:Nat):Seg K lo lo []
 | cons {lo mid hi:Nat} {r:List Nat}:Seg K (lo+1) mid (K lo)→Seg K mid hi r→Seg K lo hi (lo::r)
theorem Seg.le {K:Nat→List Nat} {lo hi:Nat} {l:List Nat} (h:Seg K lo hi l):lo≤hi:=by
 induction h with
 | nil=>exact Nat.le_refl _
 | cons _ _ ih1 ih2=>omega
theorem Seg.same {K K':Nat→List Nat} {lo hi:Nat} {l:List Nat} (h:Seg K lo hi l):(∀ i,lo≤i→i<hi→K' i=K i)→Seg K' lo hi l:=by
 induction h with
 | nil=>intro _;exact .nil _
 | @cons lo mid hi r h1 h2 ih1 ih2=>
  intro he;have l1:=h1.le;have l2:=h2.le;refine .cons (mid:=mid) ?_ (ih2 fun i a b=>he i (by omega) b);rw [he lo (Nat.le_refl _) (by omega)];exact ih1 fun i a b=>he i (by omega) (by omega)
theorem Seg.append {K:Nat→List Nat} {lo mid hi:Nat} {a b:List Nat} (h:Seg K lo mid a) (h2:Seg K mid hi b):Seg K lo hi (a++b):=by
 induction h with
 | nil=>exact h2
 | cons h1 _ _ ih2=>exact .cons h1 (ih2 h2)
theorem Seg.split {K:Nat→List Nat}:∀ {a:List Nat} {lo hi:Nat} {b:List Nat},Seg K lo hi (a++b)→∃ mid,Seg K lo mid a∧Seg K mid hi b
 | [],lo,_,_,h=>⟨lo,.nil _,h⟩
 | x::a,lo,hi,b,h=>by
  cases h with
  | cons h1 h2=>
   obtain ⟨mid,h3,h4⟩:=Seg.split h2;exact ⟨mid,.cons h1 h3,h4⟩
inductive Spine (K:Nat→List Nat):List Nat→List Nat→Prop
 | nil (l:List Nat):Spine K l []
 | cons {l:List Nat} {b:Nat} {r:List Nat}:l.getLast?=some b→Spine K (K b) r→Spine K l (b::r)
def put (K:Nat→List Nat) (b n:Nat):Nat→List Nat:=fun i=>if i=b then K b++[n] else K i
theorem Seg.add {K:Nat→List Nat} {n:Nat} (hn:K n=[]):∀ {r:List Nat} {b:Nat} {l:List Nat} {lo:Nat},Seg K lo n l→Spine K l (r++[b])→Seg (put K b n) lo (n+1) l
 | [],b,l,lo,h,hs=>by
  cases hs with
  | cons hl _=>
   obtain ⟨a,rfl⟩:∃ a,l=a++[b]:=by
    rcases List.eq_nil_or_concat l with rfl|⟨a,x,rfl⟩
    ·simp at hl
    ·simp at hl;subst hl;exact ⟨a,by simp⟩
   obtain ⟨mid,h1,h2⟩:=h.split;cases h2 with
   | @cons _ m2 _ _ h3 h4=>
    cases h4;have l3:=h3.le;refine (h1.same fun i _ hi=>by unfold put;rw [if_neg (by omega)]).append (.cons (mid:=n+1) ?_ (.nil _));have e:put K b n b=K b++[n]:=by unfold put;rw [if_pos rfl]
    rw [e];refine (h3.same fun i hi _=>by unfold put;rw [if_neg (by omega)]).append (.cons (mid:=n+1) ?_ (.nil _));have e2:put K b n n=[]:=by unfold put;rw [if_neg (by omega),hn]
    rw [e2];exact .nil _
 | c::r,b,l,lo,h,hs=>by
  cases hs with
  | cons hl hs2=>
   obtain ⟨a,rfl⟩:∃ a,l=a++[c]:=by
    rcases List.eq_nil_or_concat l with rfl|⟨a,x,rfl⟩
    ·simp at hl
    ·simp at hl;subst hl;exact ⟨a,by simp⟩
   obtain ⟨mid,h1,h2⟩:=h.split;cases h2 with
   | @cons _ m2 _ _ h3 h4=>
    cases h4;have l3:=h3.le;have hb:c<b:=by
     have:∀ (q:List Nat) (x:Nat) (l:List Nat) (lo hi:Nat),Seg K lo hi l→Spine K l (q++[x])→lo≤x:=by
      intro q
      induction q with
      | nil=>
       intro x l lo hi hq hsq;cases hsq with
       | cons hx _=>
        obtain ⟨a,rfl⟩:∃ a,l=a++[x]:=by
         rcases List.eq_nil_or_concat l with rfl|⟨a,y,rfl⟩
         ·simp at hx
         ·simp at hx;subst hx;exact ⟨a,by simp⟩
        obtain ⟨m,g1,g2⟩:=hq.split;cases g2;exact g1.le
      | cons y q ih=>
       intro x l lo hi hq hsq;cases hsq with
       | cons hx hs3=>
        obtain ⟨a,rfl⟩:∃ a,l=a++[y]:=by
         rcases List.eq_nil_or_concat l with rfl|⟨a,z,rfl⟩
         ·simp at hx
         ·simp at hx;subst hx;exact ⟨a,by simp⟩
        obtain ⟨m,g1,g2⟩:=hq.split;cases g2 with
        | cons g3 _=>
         have:=ih x _ _ _ g3 hs3;have:=g1.le;omega
     have:=this r b _ _ _ h3 hs2;omega
    refine (h1.same fun i _ hi=>by unfold put;rw [if_neg (by omega)]).append (.cons (mid:=n+1) ?_ (.nil _));have e:put K b n c=K c:=by unfold put;rw [if_neg (by omega)]
    rw [e];exact Seg.add hn h3 hs2
open Go.RowKit Go.Deep Go.MapKept
theorem zeN {l:List Nat} {x:Nat} (h:l.getLast?=some x):∃ a,l=a++[x]:=by
 rcases List.eq_nil_or_concat l with rfl|⟨a,y,rfl⟩
 ·simp at h
 ·simp at h;subst h;exact ⟨a,by simp⟩
theorem spine_le {K:Nat→List Nat}:∀ (q:List Nat) {x:Nat} {l:List Nat} {lo hi:Nat},Seg K lo hi l→Spine K l (q++[x])→lo≤x
 | [],x,l,lo,hi,hq,hs=>by
  cases hs with
  | cons hx _=>
   obtain ⟨a,rfl⟩:=zeN hx;obtain ⟨m,g1,g2⟩:=hq.split;cases g2;exact g1.le
 | y::q,x,l,lo,hi,hq,hs=>by
  cases hs with
  | cons hx hs3=>
   obtain ⟨a,rfl⟩:=zeN hx;obtain ⟨m,g1,g2⟩:=hq.split;cases g2 with
   | cons g3 _=>
    have:=spine_le q g3 hs3;have:=g1.le;omega
theorem spine_put {K:Nat→List Nat} {n:Nat}:∀ {r:List Nat} {b:Nat} {l:List Nat} {lo:Nat},Seg K lo n l→Spine K l (r++[b])→Spine (put K b n) l (r++[b])∧Spine (put K b n) l (r++[b]++[n])
 | [],b,l,lo,h,hs=>by
  cases hs with
  | cons hl _=>
   refine ⟨.cons hl (.nil _),.cons hl (.cons ?_ (.nil _))⟩;unfold put;rw [if_pos rfl];simp
 | c::r,b,l,lo,h,hs=>by
  cases hs with
  | cons hl hs2=>
   have hl':=hl;obtain ⟨a,rfl⟩:=zeN hl;obtain ⟨mid,h1,h2⟩:=h.split;cases h2 with
   | cons h3 h4=>
    cases h4;have hcb:=spine_le r h3 hs2;have e:put K b n c=K c:=by unfold put;rw [if_neg (by omega)]
    obtain ⟨g1,g2⟩:=spine_put h3 hs2;exact ⟨.cons hl' (by rw [e];exact g1),.cons hl' (by rw [e];exact g2)⟩
theorem Spine.init {K:Nat→List Nat}:∀ {r:List Nat} {b:Nat} {l:List Nat},Spine K l (r++[b])→Spine K l r
 | [],_,l,_=>.nil l
 | _::_,_,_,h=>by
  cases h with
  | cons hl hs=>exact .cons hl hs.init
def Kof (fs:List Frm) (i:Nat):List Nat:=match fs[i]? with|some f=>f.kids|none=>[]
theorem Kof_append {fs:List Frm} {f:Frm} (hf:f.kids=[]):Kof (fs++[f])=Kof fs:=by
 funext i;unfold Kof;by_cases h:i<fs.length
 ·rw [List.getElem?_append_left h]
 ·rw [List.getElem?_append_right (by omega),List.getElem?_eq_none (by omega:fs.length≤i)];obtain ⟨j,hj⟩:∃ j,i-fs.length=j:=⟨_,rfl⟩;rw [hj];cases j with
  | zero=>simp [hf]
  | succ j=>simp
theorem Kof_modify {fs:List Frm} {b n:Nat} (hb:b<fs.length):Kof (fs.modify b (addKid n))=put (Kof fs) b n:=by
 funext i;unfold put Kof;rw [List.getElem?_modify];by_cases h:i=b
 ·subst h;rw [if_pos rfl,List.getElem?_eq_getElem hb];simp [addKid]
 ·rw [if_neg h];cases hi:fs[i]? with
  | none=>rfl
  | some f=>simp [Ne.symm h]
theorem Kof_out {fs:List Frm} {n:Nat} (h:fs.length≤n):Kof fs n=[]:=by unfold Kof;rw [List.getElem?_eq_none h]
structure Formed (f:Frm):Prop where
 is:(f.k=1∧f.s=emptyS∧f.n=0)∨(f.k=3∧f.n=0∧f.kids=[])∨(f.k=4∧f.s=emptyS∧f.kids=[])
structure Shape (σ:St) (lv:List Nat):Prop where
 seg:Seg (Kof σ.forms) 0 σ.forms.length σ.top
 spine:Spine (Kof σ.forms) σ.top σ.opn
 form:∀ (i:Nat) (f:Frm),σ.forms[i]?=some f→Formed f
 opk:∀ (b:Nat) (f:Frm),b∈σ.opn→σ.forms[b]?=some f→f.k=1
 ll:lv.length=σ.forms.length
 lo:∀ (i:Nat) (f:Frm),σ.forms[i]?=some f→f.k=1→lv.getD i 0<12
 lk:∀ (i:Nat) (f:Frm) (c:Nat),σ.forms[i]?=some f→c∈f.kids→i<c∧c<σ.forms.length∧lv.getD c 0=lv.getD i 0+1
 lop:∀ (j b:Nat),σ.opn[j]?=some b→lv.getD b 0=j
theorem shape_begin:Shape begin0 []:=⟨.nil 0,.nil _,fun i f h=>by simp [begin0] at h,fun b f h=>by simp [begin0] at h,rfl,fun i f h=>by simp [begin0] at h,fun i f c h=>by simp [begin0] at h,fun j b h=>by simp [begin0] at h⟩
theorem gd_old (lv:List Nat) (x i:Nat) (h:i<lv.length):(lv++[x]).getD i 0=lv.getD i 0:=by
 rw [List.getD_eq_getElem?_getD,List.getD_eq_getElem?_getD,List.getElem?_append_left h]
theorem gd_new (lv:List Nat) (x i:Nat) (h:i=lv.length):(lv++[x]).getD i 0=x:=by
 subst h;rw [List.getD_eq_getElem?_getD];simp
theorem zeF {α:Type} {l:List α} {f x:α} {i:Nat} (h:(l++[f])[i]?=some x):(i<l.length∧l[i]?=some x)∨(i=l.length∧x=f):=by
 by_cases hi:i<l.length
 ·rw [List.getElem?_append_left hi] at h;exact .inl ⟨hi,h⟩
 ·rw [List.getElem?_append_right (by omega)] at h;obtain ⟨j,hj⟩:∃ j,i-l.length=j:=⟨_,rfl⟩;rw [hj] at h;cases j with
  | zero=>simp at h;exact .inr ⟨by omega,h.symm⟩
  | succ j=>simp at h
theorem shape_add {σ:St} {lv:List Nat} (h:Shape σ lv) (hG:Good σ) {f:Frm} (hk:f.kids=[]) (hf:Formed f) (h12:f.k=1→σ.opn.length<12) :
  Shape (addF f σ) (lv++[σ.opn.length])∧Spine (Kof (addF f σ).forms) (addF f σ).top (σ.opn++[σ.forms.length]):=by
 obtain ⟨forms,top,opn⟩:=σ;simp only at h12;have hll:=h.ll;simp only at hll;cases hb:opn.getLast? with
 | none=>
  obtain rfl:opn=[]:=by simpa using hb
  have ea:addF f ⟨forms,top,[]⟩=⟨forms++[f],top++[forms.length],[]⟩:=by simp [addF]
  rw [ea];have hK:=Kof_append (fs:=forms) hk;have hseg:=h.seg;simp only at hseg;refine ⟨⟨?_,.nil _,?_,fun b f' hb'=>by simp at hb',by simp [hll],?_,?_,fun j b hj=>by simp at hj⟩,?_⟩
  ·show Seg (Kof (forms++[f])) 0 (forms++[f]).length (top++[forms.length]);rw [hK,List.length_append];refine hseg.append (.cons (mid:=forms.length+1) ?_ (.nil _));rw [Kof_out (Nat.le_refl _)];exact .nil _
  ·intro i g hg;rcases zeF hg with ⟨_,hg⟩|⟨_,rfl⟩
   ·exact h.form i g hg
   ·exact hf
  ·intro i g hg hg1;rcases zeF hg with ⟨hi,hg⟩|⟨hi,rfl⟩
   ·rw [gd_old _ _ _ (by omega)];exact h.lo i g hg hg1
   ·rw [gd_new _ _ _ (by omega)];simp
  ·intro i g c hg hc;rcases zeF hg with ⟨hi,hg⟩|⟨_,rfl⟩
   ·obtain ⟨a1,a2,a3⟩:=h.lk i g c hg hc;simp only at a2;rw [gd_old _ _ _ (by omega),gd_old _ _ _ (by omega)];exact ⟨a1,by simp;omega,a3⟩
   ·rw [hk] at hc;simp at hc
  ·show Spine (Kof (forms++[f])) (top++[forms.length]) [forms.length];exact .cons (by simp) (.nil _)
 | some b=>
  obtain ⟨r,hr⟩:=zeN hb;have hbl:b<forms.length:=hG.open_lt b (List.mem_of_getLast? hb);have ea:addF f ⟨forms,top,opn⟩=⟨forms.modify b (addKid forms.length)++[f],top,opn⟩:=by unfold addF;simp only [hb]
  rw [ea];have hK:Kof (forms.modify b (addKid forms.length)++[f])=put (Kof forms) b forms.length:=by rw [Kof_append hk,Kof_modify hbl]
  have hsp:=h.spine;have hsg:=h.seg;simp only at hsp hsg;rw [hr] at hsp;obtain ⟨s1,s2⟩:=spine_put hsg hsp;have hml:(forms.modify b (addKid forms.length)).length=forms.length:=by simp
  have hmod:∀ (i:Nat) (g:Frm),(forms.modify b (addKid forms.length))[i]?=some g→(i≠b∧forms[i]?=some g)∨(i=b∧∃ g0,forms[b]?=some g0∧g=addKid forms.length g0):=by
   intro i g hg;rw [List.getElem?_modify] at hg;by_cases hib:b=i
   ·subst hib;rw [List.getElem?_eq_getElem hbl] at hg;simp at hg;exact .inr ⟨rfl,_,List.getElem?_eq_getElem hbl,hg.symm⟩
   ·cases hi:forms[i]? with
    | none=>rw [hi] at hg;simp at hg
    | some g0=>rw [hi] at hg;simp [hib] at hg;exact .inl ⟨fun e=>hib e.symm,by rw [hg]⟩
  have hbk:∀ g0,forms[b]?=some g0→g0.k=1:=fun g0 hg=>h.opk b g0 (List.mem_of_getLast? hb) hg
  have hopl:opn.length=r.length+1:=by rw [hr];simp
  have hlb:lv.getD b 0=r.length:=h.lop r.length b (by show opn[r.length]?=some b;rw [hr];simp);refine ⟨⟨?_,?_,?_,?_,by simp [hll],?_,?_,?_⟩,?_⟩
  ·show Seg (Kof (forms.modify b (addKid forms.length)++[f])) 0 (forms.modify b (addKid forms.length)++[f]).length top;rw [hK,List.length_append,hml];exact Seg.add (Kof_out (Nat.le_refl _)) hsg hsp
  ·show Spine (Kof (forms.modify b (addKid forms.length)++[f])) top opn;rw [hK,hr];exact s1
  ·intro i g hg;rcases zeF hg with ⟨_,hg⟩|⟨_,rfl⟩
   ·rcases hmod i g hg with ⟨_,hg⟩|⟨_,g0,hg0,rfl⟩
    ·exact h.form i g hg
    ·refine ⟨.inl ?_⟩;have hk1:=hbk g0 hg0;rcases (h.form b g0 hg0).is with a|⟨a,_⟩|⟨a,_⟩
     ·exact a
     ·rw [hk1] at a;cases a
     ·rw [hk1] at a;cases a
   ·exact hf
  ·intro b' g hb' hg;have hbl':=hG.open_lt b' hb';simp only at hbl';rcases zeF hg with ⟨_,hg⟩|⟨e,_⟩
   ·rcases hmod b' g hg with ⟨_,hg⟩|⟨rfl,g0,hg0,rfl⟩
    ·exact h.opk b' g hb' hg
    ·exact hbk g0 hg0
   ·rw [hml] at e;omega
  ·intro i g hg hg1;rcases zeF hg with ⟨hi,hg⟩|⟨hi,rfl⟩
   ·rw [hml] at hi;rw [gd_old _ _ _ (by omega)];rcases hmod i g hg with ⟨_,hg⟩|⟨rfl,g0,hg0,rfl⟩
    ·exact h.lo i g hg hg1
    ·exact h.lo _ g0 hg0 hg1
   ·rw [hml] at hi;rw [gd_new _ _ _ (by omega)];exact h12 hg1
  ·intro i g c hg hc;rcases zeF hg with ⟨hi,hg⟩|⟨_,rfl⟩
   ·rw [hml] at hi;rw [gd_old _ _ i (by omega)];rcases hmod i g hg with ⟨_,hg⟩|⟨rfl,g0,hg0,rfl⟩
    ·obtain ⟨a1,a2,a3⟩:=h.lk i g c hg hc;simp only at a2;rw [gd_old _ _ c (by omega)];exact ⟨a1,by simp;omega,a3⟩
    ·simp only [addKid,List.mem_append,List.mem_singleton] at hc;rcases hc with hc|rfl
     ·obtain ⟨a1,a2,a3⟩:=h.lk _ g0 c hg0 hc;simp only at a2;rw [gd_old _ _ c (by omega)];exact ⟨a1,by simp;omega,a3⟩
     ·rw [gd_new _ _ _ (by omega),hlb];exact ⟨hbl,by simp,hopl⟩
   ·rw [hk] at hc;simp at hc
  ·intro j b' hj;have hbl':=hG.open_lt b' (List.mem_of_getElem? hj);simp only at hbl';rw [gd_old _ _ _ (by omega)];exact h.lop j b' hj
  ·show Spine (Kof (forms.modify b (addKid forms.length)++[f])) top (opn++[forms.length]);rw [hK,hr];exact s2
theorem formed_of (t:Tok) (h:t.k=1∨t.k=3∨t.k=4):Formed (formOf t)∧(formOf t).k=t.k:=by
 unfold formOf;rcases h with h|h|h<;>simp only [h]
 ·exact ⟨⟨.inl ⟨rfl,rfl,rfl⟩⟩,rfl⟩
 ·exact ⟨⟨.inr (.inl ⟨rfl,rfl,rfl⟩)⟩,rfl⟩
 ·exact ⟨⟨.inr (.inr ⟨rfl,rfl,rfl⟩)⟩,rfl⟩
open Go.RowKit Go.Deep Go.MapKept
def isF (t:Tok):Bool:=t.k==1 || t.k==3 || t.k==4
def strip (f:Frm):Int × ByteArray:=(f.k,f.s)
structure Cnt (l:List Tok) (σ:St):Prop where
 same:σ.forms.map strip=(l.filter isF).map fun t=>strip (formOf t)
 open_:(l.filter fun t=>t.k==2).length+σ.opn.length=(σ.forms.filter fun f=>f.k==1).length
theorem strip_add (f:Frm) (σ:St):(addF f σ).forms.map strip=σ.forms.map strip++[strip f]:=by
 unfold addF;split
 ·simp
 ·rename_i b _
  simp only [List.map_append,List.map_cons,List.map_nil,List.append_cancel_right_eq];apply List.ext_getElem?;intro i;rw [List.getElem?_map,List.getElem?_modify,List.getElem?_map];cases σ.forms[i]? with
  | none=>rfl
  | some g=>by_cases h:b=i<;>simp [h,strip,addKid]
theorem count_strip (fs:List Frm):(fs.filter fun f=>f.k==1).length=((fs.map strip).filter fun p=>p.1==1).length:=by
 induction fs with
 | nil=>rfl
 | cons f r ih=>simp only [List.map_cons,List.filter_cons,strip];split<;>simp [ih]
theorem cnt_step {l:List Tok} {σ σ':St} {t:Tok} (h:Cnt l σ) (he:step σ t=.ok σ'):Cnt (l++[t]) σ':=by
 by_cases h2:t.k=2
 ·unfold step at he;rw [if_pos h2] at he;split at he
  ·cases he
  ·rename_i hn
   cases he;have hf:isF t=false:=by simp [isF,h2]
   refine ⟨by rw [List.filter_append];simp [hf,h.same],?_⟩;have:=h.open_;have h0:0<σ.opn.length:=List.length_pos_iff.2 hn;rw [List.filter_append];simp [h2];omega
 ·by_cases hk:t.k=1∨t.k=3∨t.k=4
  ·have hf:isF t=true:=by rcases hk with h|h|h<;>simp [isF,h]
   have h2b:(t.k==2)=false:=by simp [h2]
   have hkk:=(formed_of t hk).2;have key:σ'.forms=(addF (formOf t) σ).forms∧σ'.opn=(if t.k=1 then σ.opn++[σ.forms.length] else σ.opn):=by
    unfold step at he;rw [if_neg h2] at he;by_cases h1:t.k=1
    ·rw [if_pos h1] at he;split at he
     ·cases he
     ·split at he
      ·cases he
      ·cases he;exact ⟨rfl,by rw [if_pos h1]⟩
    ·rw [if_neg h1,if_pos (hk.resolve_left h1)] at he;split at he
     ·cases he
     ·cases he;exact ⟨rfl,by rw [if_neg h1,addF_opn]⟩
   have hs:σ'.forms.map strip=σ.forms.map strip++[strip (formOf t)]:=by rw [key.1,strip_add]
   refine ⟨by rw [hs,h.same,List.filter_append];simp [hf],?_⟩;have:=h.open_;rw [count_strip] at this ⊢;rw [hs,key.2,List.filter_append,List.filter_append];by_cases h1:t.k=1
   ·have e1:(strip (formOf t)).1=1:=by show (formOf t).k=1;rw [hkk,h1]
    simp [h1,e1];omega
   ·have e1:((strip (formOf t)).1==1)=false:=by show ((formOf t).k==1)=false;rw [hkk];simp [h1]
    simp [h2b,h1,e1];omega
  ·have hf:isF t=false:=by simp only [not_or] at hk;simp [isF,hk.1,hk.2.1,hk.2.2]
   have e:σ'=σ:=by
    unfold step at he;simp only [not_or] at hk;rw [if_neg h2,if_neg hk.1,if_neg (by simp [hk.2.1,hk.2.2])] at he;cases he;rfl
   subst e;have h2b:(t.k==2)=false:=by simp [h2]
   refine ⟨by rw [List.filter_append];simp [hf,h.same],?_⟩;rw [List.filter_append];simpa [h2b] using h.open_
theorem shape_step {σ σ':St} {lv:List Nat} {t:Tok} (h:Shape σ lv) (hG:Good σ) (hv:∀ x∈lv,x≤12) (he:step σ t=.ok σ'):∃ lv',Shape σ' lv'∧∀ x∈lv',x≤12:=by
 have hv2:∀ x∈lv++[σ.opn.length],x≤12:=by
  intro x hx;rcases List.mem_append.1 hx with hx|hx
  ·exact hv x hx
  ·obtain rfl:x=σ.opn.length:=by simpa using hx
   exact hG.open_len
 by_cases h2:t.k=2
 ·unfold step at he;rw [if_pos h2] at he;split at he
  ·cases he
  ·rename_i hn
   cases he;obtain ⟨b,hb⟩:∃ b,σ.opn.getLast?=some b:=by cases hq:σ.opn.getLast? with|none=>exact absurd (List.getLast?_eq_none_iff.1 hq) hn|some bb=>exact ⟨bb,rfl⟩
   obtain ⟨r,hr⟩:=zeN hb;have hd:σ.opn.dropLast=r:=by rw [hr];simp
   refine ⟨lv,⟨h.seg,?_,h.form,?_,h.ll,h.lo,h.lk,?_⟩,hv⟩
   ·show Spine _ _ σ.opn.dropLast;rw [hd];have:=h.spine;rw [hr] at this;exact this.init
   ·intro b' f hb' hf;exact h.opk b' f ((List.dropLast_sublist _).mem hb') hf
   ·intro j b' hj;refine h.lop j b' ?_;have hj':σ.opn.dropLast[j]?=some b':=hj;have hjl:=(List.getElem?_eq_some_iff.1 hj').1;rw [hd] at hj' hjl;rw [hr,List.getElem?_append_left hjl];exact hj'
 ·by_cases hk:t.k=1∨t.k=3∨t.k=4
  ·obtain ⟨hF,hFk⟩:=formed_of t hk;unfold step at he;rw [if_neg h2] at he;by_cases h1:t.k=1
   ·rw [if_pos h1] at he;split at he
    ·cases he
    ·rename_i h12
     split at he
     ·cases he
     ·cases he;have hlt:σ.opn.length<12:=by have:=hG.open_len;omega
      obtain ⟨hs,hsp⟩:=shape_add h hG (zfF t) hF (fun _=>hlt);refine ⟨_,⟨hs.seg,hsp,hs.form,?_,hs.ll,hs.lo,hs.lk,?_⟩,hv2⟩
      ·intro b f hb hf;rcases List.mem_append.1 hb with hb|hb
       ·exact hs.opk b f (by rw [addF_opn];exact hb) hf
       ·obtain rfl:b=σ.forms.length:=by simpa using hb
        have hf':(addF (formOf t) σ).forms[σ.forms.length]?=some f:=hf;have:(addF (formOf t) σ).forms[σ.forms.length]?=some (formOf t):=by
         unfold addF;split
         ·simp
         ·rename_i b _
          have e:=List.length_modify (addKid σ.forms.length) σ.forms b;show (σ.forms.modify b (addKid σ.forms.length)++[formOf t])[σ.forms.length]?=_;rw [List.getElem?_append_right (by omega),e];simp
        rw [this] at hf';cases hf';rw [hFk,h1]
      ·intro j b hj;rcases zeF hj with ⟨_,hj⟩|⟨rfl,rfl⟩
       ·exact hs.lop j b (by rw [addF_opn];exact hj)
       ·exact gd_new _ _ _ h.ll.symm
   ·rw [if_neg h1,if_pos (hk.resolve_left h1)] at he;split at he
    ·cases he
    ·cases he;obtain ⟨hs,_⟩:=shape_add h hG (zfF t) hF (fun e=>absurd (hFk▸e) h1);exact ⟨_,hs,hv2⟩
  ·have e:σ'=σ:=by
    unfold step at he;simp only [not_or] at hk;rw [if_neg h2,if_neg hk.1,if_neg (by simp [hk.2.1,hk.2.2])] at he;cases he;rfl
   subst e;exact ⟨lv,h,hv⟩
theorem shape_steps:∀ (l:List Tok) (σ σ':St) (pre:List Tok) (lv:List Nat),Shape σ lv→Good σ→(∀ x∈lv,x≤12)→Cnt pre σ→steps l σ=.ok σ'→∃ lv',Shape σ' lv'∧(∀ x∈lv',x≤12)∧Cnt (pre++l) σ'
 | [],σ,σ',pre,lv,h,_,hv,hc,he=>by cases he;exact ⟨lv,h,hv,by simpa using hc⟩
 | t::r,σ,σ',pre,lv,h,hG,hv,hc,he=>by
  unfold steps at he;cases hs:step σ t with
  | error q=>rw [hs] at he;cases he
  | ok σ1=>
   rw [hs] at he;obtain ⟨lv1,h1,hv1⟩:=shape_step h hG hv hs;obtain ⟨lv2,h2,hv2,hc2⟩:=shape_steps r σ1 σ' (pre++[t]) lv1 h1 (step_good hG hs) hv1 (cnt_step hc hs) he;exact ⟨lv2,h2,hv2,by simpa using hc2⟩
theorem shape_parse {l:List Tok} {σ:St} (h:parse l=.ok σ):∃ lv,Shape σ lv∧(∀ x∈lv,x≤12)∧Cnt l σ∧σ.opn=[]:=by
 unfold parse at h;cases hs:steps l begin0 with
 | error e=>rw [hs] at h;cases h
 | ok σ1=>
  rw [hs] at h;simp only at h;unfold finish at h;split at h
  ·rename_i hn
   cases h;obtain ⟨lv,a,b,c⟩:=shape_steps l begin0 σ [] [] shape_begin good_begin (by simp) ⟨rfl,rfl⟩ hs;exact ⟨lv,a,b,by simpa using c,by simpa using hn⟩
  ·cases h
open Go.RowKit Go.Deep Go.MapKept
def castI (l:List Nat):List Int:=l.map fun (n:Nat)=>(n:Int)
theorem kids_at {ms:List MV} {fs:List Frm} (h:ms.map Prod.fst=fs.map toFm) (i:Nat):kidsOf ms (i:Int)=castI (Kof fs i):=by
 have hi:(ms.map Prod.fst)[i]?=(fs.map toFm)[i]?:=by rw [h]
 rw [List.getElem?_map,List.getElem?_map] at hi;unfold kidsOf Kof castI;rw [Int.toNat_natCast];cases hm:ms[i]? with
 | none=>
  rw [hm] at hi;cases hf:fs[i]? with
  | none=>rfl
  | some f=>rw [hf] at hi;simp at hi
 | some x=>
  rw [hm] at hi;cases hf:fs[i]? with
  | none=>rw [hf] at hi;simp at hi
  | some f=>
   rw [hf] at hi;simp only [Option.map_some,Option.some.injEq] at hi;simp only;rw [hi];rfl
def sumTo (K:Nat→List Nat):Nat→Nat
 | 0=>0
 | n+1=>sumTo K n+(K n).length
theorem named_sum {ms:List MV} {fs:List Frm} (h:ms.map Prod.fst=fs.map toFm) (top:List Int):∀ j,j≤ms.length→namedN (ms.take j) top=(top.length:Int)+(sumTo (Kof fs) j:Int)
 | 0,_=>by simp [namedN,sumTo]
 | j+1,hj=>by
  have hx:ms[j]?=some ms[j]:=List.getElem?_eq_getElem (by omega);rw [named_next ms top j _ hx,named_sum h top j (by omega)];have hk:=kids_at h j;unfold kidsOf at hk;rw [Int.toNat_natCast,hx] at hk;simp only at hk;rw [hk];simp [castI,sumTo];omega
theorem zfG {ds:List Int} {own:Int} {B:Int} (hB:0≤B):∀ (ps:List Int) (acc:Int),acc≤B→(∀ p∈ps,own<p→p<(ds.length:Int)→ds.getD p.toNat 0≤B)→ps.foldl (deepF ds own) acc≤B
 | [],_,ha,_=>ha
 | p::r,acc,ha,h=>by
  refine zfG hB r _ ?_ fun q hq=>h q (by simp [hq])
  unfold deepF;split
  ·rename_i hp
   have:=h p (by simp) hp.1 hp.2;omega
  ·exact ha
theorem depth_le {σ:St} {lv:List Nat} (hS:Shape σ lv) (hv:∀ x∈lv,x≤12) {ms:List MV} (h:ms.map Prod.fst=σ.forms.map toFm):∀ (k:Nat),k≤ms.length→∀ (i:Nat),(dall ms k).getD i 0≤12-(lv.getD i 0:Int)
 | 0,_,i=>by
  have h1:(dall ms 0).getD i 0=0:=by
   show (List.replicate ms.length (0:Int)).getD i 0=0;rw [List.getD_eq_getElem?_getD];cases hg:(List.replicate ms.length (0:Int))[i]? with
   | none=>rfl
   | some d=>have:=List.mem_of_getElem? hg;simp at this;simp [this.2]
  have h2:lv.getD i 0≤12:=by
   rw [List.getD_eq_getElem?_getD];cases hg:lv[i]? with
   | none=>simp
   | some d=>simpa using hv d (List.mem_of_getElem? hg)
  omega
 | k+1,hk,i=>by
  have ih:=depth_le hS hv h k (by omega);have hlen:ms.length=σ.forms.length:=by have:=congrArg List.length h;simpa using this
  show ((dall ms k).set (ms.length-1-k) (dval ms (dall ms k) (ms.length-1-k))).getD i 0≤_;rw [List.getD_eq_getElem?_getD,List.getElem?_set];by_cases hi:ms.length-1-k=i
  ·rw [if_pos hi];have hil:i<(dall ms k).length:=by rw [dall_len];omega
   rw [if_pos (by omega)];show dval ms (dall ms k) (ms.length-1-k)≤_;rw [hi];have hil2:i<ms.length:=by omega
   have hx:ms[i]?=some ms[i]:=List.getElem?_eq_getElem hil2;have hf:σ.forms[i]?=some (σ.forms[i]'(by omega)):=List.getElem?_eq_getElem _;obtain ⟨f,hfe⟩:∃ f,σ.forms[i]'(by omega)=f:=⟨_,rfl⟩;rw [hfe] at hf;have hxf:ms[i].1=toFm f:=by
    have e:(ms.map Prod.fst)[i]?=(σ.forms.map toFm)[i]?:=by rw [h]
    rw [List.getElem?_map,List.getElem?_map,hx,hf] at e;simpa using e
   have h2:lv.getD i 0≤12:=by
    rw [List.getD_eq_getElem?_getD];cases hg:lv[i]? with
    | none=>simp
    | some d=>simpa using hv d (List.mem_of_getElem? hg)
   unfold dval;rw [hx];simp only [hxf];by_cases hk1:f.k=1
   ·rw [if_pos (show (toFm f).k=1 from hk1)];have hlo:=hS.lo i f hf hk1;have:deepest (dall ms k) i (toFm f).kids≤11-(lv.getD i 0:Int):=by
     refine zfG (by omega) _ 0 (by omega) ?_;intro p hp _ _;obtain ⟨c,hc,rfl⟩:=List.mem_map.1 (show p∈f.kids.map (fun (n:Nat)=>(n:Int)) from hp);obtain ⟨_,_,hlc⟩:=hS.lk i f c hf hc;have:=ih c;rw [Int.toNat_natCast];omega
    omega
   ·rw [if_neg (show ¬ (toFm f).k=1 from hk1)];have hkids:f.kids=[]:=by
     rcases (hS.form i f hf).is with ⟨a,_⟩|⟨_,_,a⟩|⟨_,_,a⟩
     ·exact absurd a hk1
     iterate 2 exact a
    have:deepest (dall ms k) i (toFm f).kids=0:=by simp [toFm,hkids,deepest]
    omega
  ·rw [if_neg hi,←List.getD_eq_getElem?_getD];exact ih i
theorem depthOf_le {σ:St} {lv:List Nat} (hS:Shape σ lv) (hv:∀ x∈lv,x≤12) {ms:List MV} (h:ms.map Prod.fst=σ.forms.map toFm) (top:List Int):depthOf ms top≤12:=by
 unfold depthOf deepest;refine zfG (by omega) _ 0 (by omega) ?_;intro p _ _ _;have:=depth_le hS hv h ms.length (Nat.le_refl _) p.toNat;omega
open Go.RowKit Go.Deep Go.MapKept
noncomputable def nmF (f:Frm):Bool := !(f.k==3) || (kindW f.s==3)
noncomputable def nmT (t:Tok):Bool := !(t.k==3) || (kindW t.s==3)
theorem empty_list:emptyS.toList=[]:=by rw [ByteArray.toList_eq];rfl
theorem okF_formed {f:Frm} (h:Formed f):okF (toFm f)=nmF f:=by
 unfold okF nmF toFm;rcases h.is with ⟨h1,h2,h3⟩|⟨h1,h2,h3⟩|⟨h1,h2,h3⟩
 ·simp [h1,h2,h3,empty_list]
 ·simp [h1,h2,h3]
 ·simp [h1,h2,h3,empty_list]
theorem named_same {l:List Tok} {σ:St} (h:Cnt l σ):σ.forms.all nmF=l.all nmT:=by
 have e1:σ.forms.all nmF=(σ.forms.map strip).all (fun p => !(p.1==3) || (kindW p.2==3)):=by rw [List.all_map];rfl
 rw [e1,h.same,List.all_map];clear e1 h
 induction l with
 | nil=>rfl
 | cons t r ih=>
  rw [List.filter_cons];by_cases hf:isF t=true
  ·rw [if_pos hf];simp only [List.all_cons,ih];congr 1;have hk:t.k=1∨t.k=3∨t.k=4:=by simpa [isF,or_assoc] using hf
   unfold nmT strip formOf;rcases hk with h|h|h<;>simp [h]
  ·rw [if_neg hf];simp only [List.all_cons,ih];have h3:¬ t.k=3:=fun e=>hf (by simp [isF,e])
   unfold nmT;simp [h3]
theorem text_small {l:List Tok} {σ:St} (h:Cnt l σ) (hs:∀ t∈l,t.s.size≤140737488355328):∀ f∈σ.forms,f.s.size≤140737488355328:=by
 intro f hf;have:strip f∈σ.forms.map strip:=List.mem_map.2 ⟨f,hf,rfl⟩;rw [h.same] at this;obtain ⟨t,ht,he⟩:=List.mem_map.1 this;have ht':=hs t (List.mem_filter.1 ht).1;have e2:(formOf t).s=f.s:=congrArg Prod.snd he;rw [←e2];unfold formOf;split
 ·exact Nat.le_of_ble_eq_true rfl
 ·split
  ·exact ht'
  ·exact Nat.le_of_ble_eq_true rfl
theorem len_same {ms:List MV} {fs:List Frm} (h:ms.map Prod.fst=fs.map toFm):ms.length=fs.length:=by have:=congrArg List.length h;simpa using this
theorem fm_at {ms:List MV} {fs:List Frm} (h:ms.map Prod.fst=fs.map toFm) {i:Nat} {x:MV} (hx:ms[i]?=some x):∃ f,fs[i]?=some f∧x.1=toFm f:=by
 have e:(ms.map Prod.fst)[i]?=(fs.map toFm)[i]?:=by rw [h]
 rw [List.getElem?_map,List.getElem?_map,hx] at e;cases hf:fs[i]? with
 | none=>rw [hf] at e;simp at e
 | some f=>rw [hf] at e;simp at e;exact ⟨f,rfl,e⟩
open Go.RowKit Go.Deep Go.MapKept
def szF (K:Nat→List Nat):Nat→Nat→Nat
 | 0,_=>1
 | f+1,n=>1+((K n).map (szF K f)).sum
theorem sum_le {f g:Nat→Nat}:∀ (l:List Nat),(∀ x∈l,f x≤g x)→(l.map f).sum≤(l.map g).sum
 | [],_=>Nat.le_refl _
 | a::l,h=>by
  have h1:=h a (by simp);have h2:=sum_le l (fun x hx=>h x (by simp [hx]));simp only [List.map_cons,List.sum_cons];omega
theorem szF_step (K:Nat→List Nat):∀ (f n:Nat),szF K f n≤szF K (f+1) n
 | 0,n=>by simp only [szF];omega
 | f+1,n=>by
  have:=sum_le (f:=szF K f) (g:=szF K (f+1)) (K n) (fun x _=>szF_step K f x);simp only [szF] at this ⊢;omega
theorem szF_mono (K:Nat→List Nat) {f g:Nat} (h:f≤g) (n:Nat):szF K f n≤szF K g n:=by
 induction h with
 | refl=>exact Nat.le_refl _
 | step _ ih=>exact Nat.le_trans ih (szF_step K _ n)
theorem szF_seg {K:Nat→List Nat} {lo hi:Nat} {l:List Nat} (h:Seg K lo hi l):∀ f,(l.map (szF K f)).sum≤hi-lo:=by
 induction h with
 | nil=>intro f;simp
 | cons h1 h2 ih1 ih2=>
  intro f;have l1:=h1.le;have l2:=h2.le;have a2:=ih2 f;simp only [List.map_cons,List.sum_cons];cases f with
  | zero=>simp only [szF] at a2 ⊢;omega
  | succ f=>
   have a1:=ih1 f;simp only [szF] at a2 ⊢;omega
theorem seg_mem {K:Nat→List Nat} {lo hi:Nat} {l:List Nat} (h:Seg K lo hi l):∀ k∈l,k<hi:=by
 induction h with
 | nil=>intro k hk;simp at hk
 | cons h1 h2 ih1 ih2=>
  intro k hk;have:=h1.le;have:=h2.le;rcases List.mem_cons.1 hk with rfl|hk
  ·omega
  ·exact ih2 k hk
theorem kof_at {fs:List FV} {i:Nat} {x:FV} (hx:fs[i]?=some x):Kof (fs.map Prod.fst) i=x.1.kids:=by
 unfold Kof;rw [List.getElem?_map,hx];rfl
theorem ints_cast (l:List Nat):intsI (castI l)=ints l:=by simp [intsI,castI,ints]
end Go.Proofs.YtfljimpgnlfipaaGreatDoor
