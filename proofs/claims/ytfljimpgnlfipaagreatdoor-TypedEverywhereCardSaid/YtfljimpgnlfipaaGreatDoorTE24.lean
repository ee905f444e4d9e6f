/-
  Part 24 of the proof: RRtD, DrVp, DrV4, ToksD.
-/
import Derived.Test.YtfljimpgnlfipaaGreatDoorTE22
import Derived.Test.YtfljimpgnlfipaaGreatDoorTE23
import Derived.BigQuiet
import Derived.Test.YtfljimpgnlfipaaGreatDoorTE21
import Derived.Test.YtfljimpgnlfipaaGreatDoorTE03
import Derived.Laws.MakeOwn
import Derived.Maps.AppendAt
import Derived.OneCell
import Derived.WalkLawsBesides
namespace Go.Proofs.YtfljimpgnlfipaaGreatDoor
open Go.RowKit Go.Deep Go.MapKept
inductive SegI (K:Int→List Int):Int→Int→List Int→Prop
 | nil (lo:Int):SegI K lo lo []
 | cons {lo mid hi:Int} {r:List Int}:SegI K (lo+1) mid (K lo)→SegI K mid hi r→SegI K lo hi (lo::r)
theorem SegI.le {K:Int→List Int} {lo hi:Int} {l:List Int} (h:SegI K lo hi l):lo≤hi:=by
 induction h with
 | nil=>exact Int.le_refl _
 | cons _ _ ih1 ih2=>omega
set_option maxHeartbeats 1000000 in
theorem rplain_any (x:Fm) (ka:Option Addr) (kc:Nat) (hs:x.s.size≤140737488355328) (w:World) :
  Calls Tryz.prog 99 #[.agg #[.int .u8 x.k,.string x.s,.int .i64 x.n,.slice ka x.kids.length kc,.int .i64 x.p]] w fun e w'=>e=.returned (.bool (okF x))∧Below w.heap.size w w':=by
 have CK:=hidI (fun w=>rkind_any x.s hs w);have hbA:Below w.heap.size w (w.alloc (.cells #[.int .u8 x.k,.string x.s,.int .i64 x.n,.slice ka x.kids.length kc,.int .i64 x.p] 97)):=by (repeat (first|exact Below.refl _ _|assumption|refine Below.drew ?_|refine Below.alloc ?_ (by first|omega|(simp;done)|(simp;omega)) _|refine Below.setCell ?_ (by first|omega|(simp;done)|(simp;omega)) _))
 have HBA:=hidI hbA;clear hbA hs;obtain ⟨k,s,n,kids,p⟩:=x;simp only at CK HBA ⊢;obtain ⟨kl,hkl⟩:∃ kl:Nat,kids.length=kl:=⟨_,rfl⟩;unfold okF;simp only [hkl];rw [hkl] at HBA;clear hkl;by_cases h1:k=1
 ·subst h1;rw [if_pos rfl];obtain ⟨b1,q1⟩:∃ b,(s.toList==([]:List UInt8))=b:=⟨_,rfl⟩;obtain ⟨b2,q2⟩:∃ b,(n==0)=b:=⟨_,rfl⟩;rw [q1,q2];cases b1<;>cases b2;all_goals
   go_enter Tryz.func99,Tryz.ntmps99;go_wp2;go_ret;exact ⟨rfl,HBA.out⟩
 rw [if_neg h1];have g1:(k==1)=false:=by simp [h1]
 by_cases h3:k=3
 ·subst h3;rw [if_pos rfl];obtain ⟨K,hK⟩:∃ K,kindW s=K:=⟨_,rfl⟩;rw [hK] at CK ⊢;obtain ⟨b1,q1⟩:∃ b,(K==3)=b:=⟨_,rfl⟩;obtain ⟨b2,q2⟩:∃ b,(n==0)=b:=⟨_,rfl⟩;obtain ⟨b3,q3⟩:∃ b,((kl:Int)==0)=b:=⟨_,rfl⟩;rw [q1,q2,q3];cases b2<;>cases b3
  case true.true=>
   cases b1;all_goals
    go_enter Tryz.func99,Tryz.ntmps99
    go_wp2_with (go_at_call 51;refine (CK.out _).mono ?_;rintro e w1 ⟨rfl,hb1⟩;have HB1:=hidI hb1;clear hb1)
    go_ret;exact ⟨rfl,HBA.out.trans (HB1.out.mono HBA.out.size)⟩
  all_goals
   rw [show ((b1 && _) && _)=false by cases b1<;>rfl];clear CK;go_enter Tryz.func99,Tryz.ntmps99;go_wp2;go_ret;exact ⟨rfl,HBA.out⟩
 rw [if_neg h3];have g3:(k==3)=false:=by simp [h3]
 by_cases h4:k=4
 ·subst h4;rw [if_pos rfl];obtain ⟨b1,q1⟩:∃ b,(s.toList==([]:List UInt8))=b:=⟨_,rfl⟩;obtain ⟨b2,q2⟩:∃ b,((kl:Int)==0)=b:=⟨_,rfl⟩;rw [q1,q2];cases b1<;>cases b2;all_goals
   go_enter Tryz.func99,Tryz.ntmps99;go_wp2;go_ret;exact ⟨rfl,HBA.out⟩
 rw [if_neg h4];have g4:(k==4)=false:=by simp [h4]
 go_enter Tryz.func99,Tryz.ntmps99;go_wp2;go_ret;exact ⟨rfl,HBA.out⟩
theorem SegI.one {K:Int→List Int} {lo h1 h2:Int} {l:List Int} (a:SegI K lo h1 l) (b:SegI K lo h2 l):h1=h2:=by
 induction a generalizing h2 with
 | nil lo=>cases b;rfl
 | cons _ _ ih1 ih2=>
  cases b with
  | cons c1 c2=>
   have:=ih1 c1;subst this;exact ih2 c2
theorem SegI.cut {K:Int→List Int} {hi:Int}:∀ {a:List Int} {lo:Int} {b:List Int},SegI K lo hi (a++b)→∃ mid,SegI K lo mid a∧SegI K mid hi b
 | [],lo,b,h=>⟨lo,.nil lo,h⟩
 | x::a,lo,b,h=>by
  cases h with
  | cons h1 h2=>
   obtain ⟨m,q1,q2⟩:=SegI.cut (a:=a) h2;exact ⟨m,.cons h1 q1,q2⟩
theorem SegI.snoc {K:Int→List Int} {lo mid hi:Int} {a:List Int} (h:SegI K lo mid a) (hk:SegI K (mid+1) hi (K mid)):SegI K lo hi (a++[mid]):=by
 induction h with
 | nil lo=>exact .cons hk (.nil _)
 | cons c1 _ _ ih2=>exact .cons c1 (ih2 hk)
def ThrR (K:Int→List Int) (N n:Int) (l:List Int) (q:Int):Prop:=(0≤q∧q≤N∧SegI K n q l)∨(q = -1∧∀ h,h≤N→¬ SegI K n h l)
theorem thr_stop {K:Int→List Int} {N n m:Int} {l:List Int} {i:Nat} {p:Int} (h:SegI K n m (l.take i)) (hp:l[i]?=some p) (hbad:∀ h,h≤N→p=m→m<N→¬ SegI K (m+1) h (K m)):ThrR K N n l (-1):=by
 refine .inr ⟨rfl,fun hh hN hs => ?_⟩;have hl:=(List.getElem?_eq_some_iff.1 hp).1;have e:l=l.take i++p::l.drop (i+1):=by
  conv=>lhs;rw [←List.take_append_drop i l]
  congr 1;rw [List.drop_eq_getElem_cons hl,(List.getElem?_eq_some_iff.1 hp).2]
 rw [e] at hs;obtain ⟨mid,s1,s2⟩:=hs.cut;have:=s1.one h;subst this;cases s2 with
 | @cons _ mm _ _ c1 c2=>
  have l1:=c1.le;have l2:=c2.le;exact hbad mm (by omega) rfl (by omega) c1
set_option maxHeartbeats 1000000 in
theorem through_any (fv:Value) (ms:List MV) (w:World) (hm:SeesM w fv ms) (hml:ms.length≤1000000) (hkl:∀ x∈ms,x.1.kids.length≤4611686018427387904) :
  ∀ (f:Nat) (pv:Value) (ps:List Int) (n:Nat),ms.length-n<f→n≤ms.length→ps.length≤4611686018427387904→SeesC w pv ps.length 1 (intsI ps)→
  Calls Tryz.prog 100 #[fv,pv,.int .i64 (n:Int)] w fun e w'=>(∃ q,e=.returned (.int .i64 q)∧Hid (ThrR (kidsOf ms) ms.length n ps q))∧w=w':=by
 obtain ⟨_,fa,fc,hfv,_⟩:=hm.row;have HM:=hidI hm;have HKL:=hidI hkl;subst hfv;clear hm hkl;intro f
 induction f with
 | zero=>intro pv ps n h;omega
 | succ f IH=>
  have HIH:=hidI IH;clear IH;intro pv ps n hf hn hpl hps;obtain ⟨_,pa,pc,rfl,hpc⟩:=hps;have HPC:=hidI hpc;clear hpc;go_enter Tryz.func100,Tryz.ntmps100;go_wp2
  go_loopg [2,7] ps.length (fun g s2 s7 wx=>∃ i m:Nat,i+g=ps.length∧s7=.int .i64 (i:Int)∧s2=.int .i64 (m:Int)∧n≤m∧m≤ms.length∧Hid (SegI (kidsOf ms) n m (ps.take i))∧w=wx)
  case atStart=>exact ⟨0,n,by omega,rfl,rfl,Nat.le_refl _,hn,hidI (.nil _),rfl⟩
  case round=>
   obtain ⟨i,m,hi,rfl,rfl,hnm,hmN,HS,rfl⟩:=hrel;cases gk with
   | zero=>
    have hil:i=ps.length:=by omega
    have e1:¬ ((i:Int)<(ps.length:Int)):=by omega
    subst hil;rw [List.take_length] at HS;go_wp2;go_ret;exact ⟨⟨_,rfl,hidI (.inl ⟨by omega,by omega,HS.out⟩)⟩,rfl⟩
   | succ g=>
    have hil:i<ps.length:=by omega
    have e1:(i:Int)<(ps.length:Int):=by omega
    have e2:(0:Int)≤(i:Int):=by omega
    have e3:((i:Int)).toNat=i:=by omega
    have hgi:ps[i]?=some ps[i]:=List.getElem?_eq_getElem hil;obtain ⟨p,hp⟩:∃ p,ps[i]=p:=⟨_,rfl⟩;rw [hp] at hgi;rcases HPC.out with h0|⟨pb,po,rfl,hpc⟩
    ·omega
    have cp:=hpc i _ (zcA hgi);have HG:=hidI hgi;clear hpc hp hgi;by_cases hmN2:(ms.length:Int)≤(m:Int)
    ·have HR:Hid (ThrR (kidsOf ms) ms.length n ps (-1)):=hidI (thr_stop HS.out HG.out (fun h _ _ hh=>by omega));go_wp2;go_ret;exact ⟨⟨_,rfl,HR⟩,rfl⟩
    have hml2:m<ms.length:=by omega
    have f1:¬ ((ms.length:Int)≤(m:Int)):=hmN2;by_cases hpm:p=(m:Int)
    ·subst hpm;have f2:(m:Int)<(ms.length:Int):=by omega
     have f3:(0:Int)≤(m:Int):=by omega
     have f4:((m:Int)).toNat=m:=by omega
     have hx:ms[m]?=some ms[m]:=List.getElem?_eq_getElem hml2;obtain ⟨x,hxe⟩:∃ x,ms[m]=x:=⟨_,rfl⟩;rw [hxe] at hx;obtain ⟨fb,fo,fc',ka,kc,hv1,hk1,x0,x1,x2,x3,x4⟩:=HM.out.load hx;cases hv1;have hks:=HM.out.kid m x hx;rw [hk1] at hks;have hkm:kidsOf ms (m:Int)=x.1.kids:=by unfold kidsOf;rw [f4,hx]
     have HC:=hidI (HIH.out (.slice ka x.1.kids.length kc) x.1.kids (m+1) (by omega) (by omega) (HKL.out x (List.mem_of_getElem? hx)) hks);rw [show (((m+1:Nat)):Int)=(m:Int)+1 by omega,←hkm] at HC;rw [hkm] at HC;have HK:=hidI hkm;have wm:IntKind.i64.wrap ((m:Int)+1)=(m:Int)+1:=by rw [IntKind.wrap_i64];omega
     obtain ⟨kl,hkl⟩:∃ kl,x.1.kids.length=kl:=⟨_,rfl⟩;rw [hkl] at HC x3;clear hxe hx hk1 hks hkm x0 x1 x2 x4 hkl
     go_wp2_with (go_at_call 100;refine HC.out.mono ?_;rintro e w1 ⟨⟨q,rfl,HQ⟩,rfl⟩;refine Hid.out ?_)
     rcases HQ.out with ⟨q0,qN,qs⟩|⟨rfl,qn⟩
     ·obtain ⟨qq,rfl⟩:∃ qq:Nat,q=(qq:Int):=⟨q.toNat,by omega⟩;have g1:¬ ((qq:Int)<0):=by omega
      have hle:=qs.le;have HS2:Hid (SegI (kidsOf ms) n qq (ps.take (i+1))):=hidI (by
       rw [List.take_add_one,HG.out];rw [←HK.out] at qs;exact HS.out.snoc qs)
      clear qs q0 HQ;refine hidI ?_;go_wp2;go_roundg g
      case measure=>omega
      case rel=>exact ⟨i+1,qq,by omega,by go_num,rfl,by omega,by omega,HS2,rfl⟩
     ·have HR:Hid (ThrR (kidsOf ms) ms.length n ps (-1)):=hidI (thr_stop HS.out HG.out (fun h hN _ _=>by rw [HK.out];exact qn h hN));clear qn HQ;refine hidI ?_;go_wp2;go_ret;exact ⟨⟨_,rfl,HR⟩,rfl⟩
    ·have HR:Hid (ThrR (kidsOf ms) ms.length n ps (-1)):=hidI (thr_stop HS.out HG.out (fun h _ hh _=>absurd hh hpm));have g2:(p==(m:Int))=false:=by simp [hpm]
     go_wp2;go_ret;exact ⟨⟨_,rfl,HR⟩,rfl⟩
theorem thr_iff {ms:List MV} {top:List Int} {q:Int} (h:ThrR (kidsOf ms) ms.length 0 top q):q=ms.length↔SegI (kidsOf ms) 0 ms.length top:=by
 rcases h with ⟨_,_,h3⟩|⟨rfl,h2⟩
 ·exact ⟨fun e=>by rw [←e];exact h3,fun e=>h3.one e⟩
 ·exact ⟨fun e=>by omega,fun e=>absurd e (h2 _ (Int.le_refl _))⟩
theorem dall_zero (ms:List MV):∀ (k j:Nat),j+k<ms.length→(dall ms k)[j]?=some 0
 | 0,j,h=>by unfold dall;rw [List.getElem?_replicate,if_pos (by omega)]
 | k+1,j,h=>by
  unfold dall;rw [List.getElem?_set_ne (by omega)];exact dall_zero ms k j (by omega)
theorem set_same {l:List Int} {j:Nat} {x:Int} (h:l[j]?=some x):l.set j x=l:=by
 obtain ⟨hj,rfl⟩:=List.getElem?_eq_some_iff.1 h;exact List.set_getElem_self hj
set_option maxRecDepth 100000 in
set_option maxHeartbeats 4000000 in
theorem rdepth_any (fv tv:Value) (ms:List MV) (top:List Int) (w:World) (hm:SeesM w fv ms) (ht:SeesC w tv top.length 1 (intsI top)) (hml:ms.length≤1000000) (hkl:∀ x∈ms,x.1.kids.length≤4611686018427387904) (htl:top.length≤4611686018427387904) (hleaf:∀ x∈ms,x.1.k≠1→x.1.kids=[]) :
  Calls Tryz.prog 101 #[fv,tv] w fun e w'=>e=.returned (.int .i64 (depthOf ms top))∧Below w.heap.size w w':=by
 obtain ⟨i0,hi,hz0,hz1,hz2⟩:=Tryz.info3parts;obtain ⟨_,fa,fc,hfv,_⟩:=hm.row;obtain ⟨_,ta,tc,rfl,htc⟩:=ht;have HM:=hidI hm;have HTC:=hidI htc;have HKL:=hidI hkl;have HLF:=hidI hleaf;have wn:IntKind.i64.wrap ((ms.length:Int)-1)=(ms.length:Int)-1:=by rw [IntKind.wrap_i64];omega
 subst hfv;clear hm htc hkl hleaf;go_enter Tryz.func101,Tryz.ntmps101
 go_wp2_with (at_make;go_must (refine wpList_make_full _ rfl _ _ 25 rfl w.heap.size 3 i0 (.int .i64 0) 1 Tryz.underlying25 hi hz0 hz1 _ _ _ _ ms.length rfl rfl rfl rfl (by rw [hz2];omega) (by unfold maxLen;omega) (Nat.le_refl _) ?_);intro w1 hown1 hgrow1;refine Hid.out ?_)
 rw [show (Value.int .i64 0).cells=#[Value.int .i64 0] from rfl,Nat.mul_one,made_ints] at hown1;have hb1:Below w.heap.size w w1:=(Below.refl _ w).grown hgrow1 (Nat.le_refl _) (fun _ e=>by cases e);refine hidI ?_;have HO1:=hidI hown1;have HB1:=hidI hb1;clear hown1 hgrow1 hb1;go_wp2
 go_loopg [6] ms.length (fun g s6 wx=>∃ k:Nat,k+g=ms.length∧s6=.int .i64 ((g:Int)-1)∧Hid (wx.ownsRow w.heap.size 3 1 (.slice (some ⟨w.heap.size,0,none⟩) ms.length ms.length) ms.length (intsI (dall ms k)))∧Hid (Below w.heap.size w wx))
 case atStart=>exact ⟨0,by omega,rfl,HO1,HB1⟩
 case round=>
  obtain ⟨k,hk,rfl,HO,HB⟩:=hrel;have hdl:=dall_len ms k;cases gk with
  | zero=>
   have e1:¬ ((0:Int)≤((0:Nat):Int)-1):=by omega
   obtain rfl:k=ms.length:=by omega
   have HDP:Hid (depthOf ms top=top.foldl (deepF (dall ms ms.length) (-1)) 0):=hidI rfl;obtain ⟨ds,hds⟩:∃ ds,dall ms ms.length=ds:=⟨_,rfl⟩;rw [hds] at HDP HO hdl;clear hds;go_wp2
   go_loopg [9,10] top.length (fun g2 s9 s10 wx=>∃ i:Nat,i+g2=top.length∧s10=.int .i64 (i:Int)∧s9=.int .i64 ((top.take i).foldl (deepF ds (-1)) 0)∧wr=wx)
   case atStart=>exact ⟨0,by omega,rfl,rfl,rfl⟩
   case round=>
    obtain ⟨i,hi,rfl,rfl,rfl⟩:=hrel;cases gk with
    | zero=>
     have hil:i=top.length:=by omega
     have e1:¬ ((i:Int)<(top.length:Int)):=by omega
     subst hil;rw [List.take_length];go_wp2;go_ret;exact ⟨by rw [HDP.out];rfl,HB.out⟩
    | succ g2=>
     have hil:i<top.length:=by omega
     have e1:(i:Int)<(top.length:Int):=by omega
     have e2:(0:Int)≤(i:Int):=by omega
     have e3:((i:Int)).toNat=i:=by omega
     have hgi:top[i]?=some top[i]:=List.getElem?_eq_getElem hil;obtain ⟨p,hp⟩:∃ p,top[i]=p:=⟨_,rfl⟩;rw [hp] at hgi;rcases HTC.out with h0|⟨pb,po,rfl,hpc⟩
     ·omega
     have hpbl:pb<w.heap.size:=World.block_lt_of_cell? w _ (hpc i _ (zcA hgi));have cp:=(HB.out.cell (p:=⟨pb,po+i,none⟩) hpbl).trans (hpc i _ (zcA hgi));have ht:(top.take (i+1)).foldl (deepF ds (-1)) 0=deepF ds (-1) ((top.take i).foldl (deepF ds (-1)) 0) p:=by rw [List.take_add_one,hgi];simp
     have HT:=hidI ht;obtain ⟨acc,hacc⟩:∃ acc,(top.take i).foldl (deepF ds (-1)) 0=acc:=⟨_,rfl⟩;rw [hacc] at HT ⊢;clear hpc hp ht hacc hgi hpbl;by_cases h0:(0:Int)≤p
     ·by_cases h1:p<(ms.length:Int)
      ·obtain ⟨pn,rfl⟩:∃ pn:Nat,p=(pn:Int):=⟨p.toNat,by omega⟩;have hpl2:pn<ds.length:=by omega
       have hgd:ds[pn]?=some (ds.getD pn 0):=by rw [List.getD_eq_getElem?_getD,List.getElem?_eq_getElem hpl2];rfl
       have cd:=zcW HO.out (zcA hgd);obtain ⟨dd,hdd⟩:∃ dd,ds.getD pn 0=dd:=⟨_,rfl⟩;rw [hdd] at cd;have e6:((pn:Int)).toNat=pn:=by omega
       have hF:deepF ds (-1) acc (pn:Int)=max acc dd:=by unfold deepF;rw [if_pos (by omega),e6,hdd]
       clear hgd hdd;by_cases h2:acc<dd
       ·have HF:Hid (deepF ds (-1) acc (pn:Int)=dd):=hidI (by rw [hF];omega);clear hF;go_wp2;go_roundg g2
        case measure=>omega
        case rel=>exact ⟨i+1,by omega,by go_num,by rw [HT.out,HF.out],rfl⟩
       ·have HF:Hid (deepF ds (-1) acc (pn:Int)=acc):=hidI (by rw [hF];omega);clear hF;go_wp2;go_roundg g2
        case measure=>omega
        case rel=>exact ⟨i+1,by omega,by go_num,by rw [HT.out,HF.out],rfl⟩
      ·have HF:Hid (deepF ds (-1) acc p=acc):=hidI (by unfold deepF;rw [if_neg (by omega)]);go_wp2;go_roundg g2
       case measure=>omega
       case rel=>exact ⟨i+1,by omega,by go_num,by rw [HT.out,HF.out],rfl⟩
     ·have HF:Hid (deepF ds (-1) acc p=acc):=hidI (by unfold deepF;rw [if_neg (by omega)]);go_wp2;go_roundg g2
      case measure=>omega
      case rel=>exact ⟨i+1,by omega,by go_num,by rw [HT.out,HF.out],rfl⟩
  | succ g=>
   have hgn:ms.length-1-k=g:=by omega
   have hgl:g<ms.length:=by omega
   have hxn:ms[g]?=some ms[g]:=List.getElem?_eq_getElem hgl;obtain ⟨x,hx⟩:∃ x,ms[g]=x:=⟨_,rfl⟩;rw [hx] at hxn;obtain ⟨fb,fo,fc',ka,kc,hv1,hk1,x0,x1,x2,x3,x4⟩:=(HM.out.below HB.out (Nat.le_refl _)).load hxn;cases hv1;have hzr:=dall_zero ms k g (by omega);have HDA:Hid (dall ms (k+1)=(dall ms k).set g (dval ms (dall ms k) g)):=hidI (by show (dall ms k).set _ _=_;rw [hgn]);have HDV:Hid (dval ms (dall ms k) g=if x.1.k=1 then min (deepest (dall ms k) g x.1.kids+1) 13 else deepest (dall ms k) g x.1.kids):=hidI (by unfold dval;rw [hxn]);have hdle:=deepest_le (dall_le ms k) (g:Int) x.1.kids;have HX:=hidI hxn;obtain ⟨ds,hds⟩:∃ ds,dall ms k=ds:=⟨_,rfl⟩;rw [hds] at HDA HDV HO hdl hzr hdle;have e0:(((g+1:Nat):Int)-1)=(g:Int):=by omega
   rw [e0];have e1:(0:Int)≤(g:Int):=by omega
   have e2:(g:Int)<(ms.length:Int):=by omega
   have e3:((g:Int)).toNat=g:=by omega
   have wg:IntKind.i64.wrap ((g:Int)-1)=(g:Int)-1:=by rw [IntKind.wrap_i64];omega
   have hfbl:fb<w.heap.size:=by
    have:=sees_lt HM.out.row (by decide) (by omega) fb rfl;exact this
   clear hx hds x1 x2 x4 hxn;by_cases hq1:x.1.k=1
   ·rw [hq1] at x0;have HDV2:=hidI HDV.out;rw [if_pos hq1] at HDV2;have hkll:=HKL.out x (List.mem_of_getElem? HX.out);have HKE:=hidI hk1;obtain ⟨kids,hkids⟩:∃ kids,x.1.kids=kids:=⟨_,rfl⟩;have HKS:Hid (SeesC w (.slice ka kids.length kc) kids.length 1 (intsI kids)):=hidI (by
     have:=HM.out.kid g x HX.out;rw [hk1,hkids] at this;exact this)
    rw [hkids] at x3 HDV2 hdle hkll;have HX3:Hid (w.cell? ⟨fb,fo+g*5+3,none⟩=some (.slice ka kids.length kc)):=hidI ((HB.out.cell (p:=⟨fb,fo+g*5+3,none⟩) hfbl).symm.trans x3);clear hkids hk1 HKE;go_wp2
    go_loopg [7] kids.length (fun g2 s7 wx=>∃ i:Nat,i+g2=kids.length∧s7=.int .i64 (i:Int)∧Hid (wx.ownsRow w.heap.size 3 1 (.slice (some ⟨w.heap.size,0,none⟩) ms.length ms.length) ms.length (intsI (ds.set g ((kids.take i).foldl (deepF ds g) 0))))∧Hid (Below w.heap.size w wx))
    case atStart=>exact ⟨0,by omega,rfl,hidI (by rw [show (kids.take 0).foldl (deepF ds g) 0=0 from rfl,set_same hzr];exact HO.out),HB⟩
    case round=>
     clear x0 x3;obtain ⟨i,hi,rfl,HOi,HBi⟩:=hrel;have x3:=(HBi.out.cell (p:=⟨fb,fo+g*5+3,none⟩) hfbl).trans HX3.out;cases gk with
     | zero=>
      have hil:i=kids.length:=by omega
      have f1:¬ ((i:Int)<(kids.length:Int)):=by omega
      subst hil;rw [List.take_length] at HOi;have HDV3:Hid (dval ms ds g=min (kids.foldl (deepF ds g) 0+1) 13):=hidI HDV2.out;have hdl2:0≤kids.foldl (deepF ds g) 0∧kids.foldl (deepF ds g) 0≤13:=hdle;obtain ⟨d,hd⟩:∃ d,kids.foldl (deepF ds g) 0=d:=⟨_,rfl⟩;rw [hd] at HOi HDV3 hdl2;have hcd:(ds.set g d)[g]?=some d:=by rw [List.getElem?_set_self (by omega)]
      have hu:=zcW HOi.out (zcA hcd);have hfz:=own_free HOi.out g;have HO3:=hidI (own_setG (j:=g) HOi.out (.int .i64 (d+1)));have wd:IntKind.i64.wrap (d+1)=d+1:=by rw [IntKind.wrap_i64];omega
      clear hcd hdle hd HDV2;by_cases h12:d≤12
      ·go_wp2;go_roundg g
       case measure=>omega
       case rel=>
        refine ⟨k+1,by omega,by first|rfl|go_num,hidI ?_,hidI (HBi.out.setCell (Nat.le_refl _) _)⟩;have:=HO3.out;rw [←intsI_set,List.set_set] at this;rw [HDA.out,HDV3.out,show min (d+1) 13=d+1 by omega];exact this
      ·go_wp2;go_roundg g
       case measure=>omega
       case rel=>
        refine ⟨k+1,by omega,by first|rfl|go_num,hidI ?_,HBi⟩;rw [HDA.out,HDV3.out,show min (d+1) 13=d by omega];exact HOi.out
     | succ g2=>
      have hil:i<kids.length:=by omega
      have f1:(i:Int)<(kids.length:Int):=by omega
      have f2:(0:Int)≤(i:Int):=by omega
      have f3:((i:Int)).toNat=i:=by omega
      have hgi:kids[i]?=some kids[i]:=List.getElem?_eq_getElem hil;obtain ⟨p,hp⟩:∃ p,kids[i]=p:=⟨_,rfl⟩;rw [hp] at hgi;obtain ⟨_,_,_,hke,hk0|⟨kb,ko,hka,hkc⟩⟩:=HKS.out
      ·omega
      cases hke;subst hka;have hkbl:kb<w.heap.size:=World.block_lt_of_cell? w _ (hkc i _ (zcA hgi));have cp:=(HBi.out.cell (p:=⟨kb,ko+i,none⟩) hkbl).trans (hkc i _ (zcA hgi));have HT:Hid ((kids.take (i+1)).foldl (deepF ds g) 0=deepF ds g ((kids.take i).foldl (deepF ds g) 0) p):=hidI (by rw [List.take_add_one,hgi];simp);obtain ⟨acc,hacc⟩:∃ acc,(kids.take i).foldl (deepF ds g) 0=acc:=⟨_,rfl⟩;rw [hacc] at HT HOi;have hca:(ds.set g acc)[g]?=some acc:=by rw [List.getElem?_set_self (by omega)]
      have ca:=zcW HOi.out (zcA hca);clear hkc hp hacc hgi hkbl hca;by_cases h0:(g:Int)<p
      ·by_cases h1:p<(ms.length:Int)
       ·obtain ⟨pn,rfl⟩:∃ pn:Nat,p=(pn:Int):=⟨p.toNat,by omega⟩;have hpl2:pn<ds.length:=by omega
        have hgd:(ds.set g acc)[pn]?=some (ds.getD pn 0):=by rw [List.getElem?_set_ne (by omega),List.getD_eq_getElem?_getD,List.getElem?_eq_getElem hpl2];rfl
        have cd:=zcW HOi.out (zcA hgd);obtain ⟨dd,hdd⟩:∃ dd,ds.getD pn 0=dd:=⟨_,rfl⟩;rw [hdd] at cd;have e6:((pn:Int)).toNat=pn:=by omega
        have e7:(0:Int)≤(pn:Int):=by omega
        have hF:deepF ds g acc (pn:Int)=max acc dd:=by unfold deepF;rw [if_pos (by omega),e6,hdd]
        have d0:decide ((g:Int)<(pn:Int))=true:=by simp;omega
        have d1:decide ((pn:Int)<(ms.length:Int))=true:=by simp;omega
        clear hgd hdd;by_cases h2:acc<dd
        ·have HF:Hid (deepF ds g acc (pn:Int)=dd):=hidI (by rw [hF];omega);have d2:decide (acc<dd)=true:=by simp [h2]
         have HCs:Hid (∀ n,(wr.drewN n).cell? ⟨w.heap.size,g,none⟩=some (.int .i64 acc)∧(wr.drewN n).cell? ⟨w.heap.size,pn,none⟩=some (.int .i64 dd)∧(wr.drewN n).frozen? ⟨w.heap.size,g,none⟩=false∧Hid (((wr.drewN n).setCell ⟨w.heap.size,g,none⟩ (.int .i64 dd)).ownsRow w.heap.size 3 1 (.slice (some ⟨w.heap.size,0,none⟩) ms.length ms.length) ms.length (intsI (ds.set g dd)))∧Hid (Below w.heap.size w (wr.drewN n))):=hidI fun n=>by
          have ho:(wr.drewN n).ownsRow w.heap.size 3 1 (.slice (some ⟨w.heap.size,0,none⟩) ms.length ms.length) ms.length (intsI (ds.set g acc)):=HOi.out;refine ⟨ca,cd,own_free ho g,hidI ?_,hidI ⟨HBi.out.1,HBi.out.2,HBi.out.3,HBi.out.4,HBi.out.5⟩⟩;have:=own_setG (j:=g) ho (.int .i64 dd);rw [←intsI_set,List.set_set] at this;exact this
         clear hF;go_wp2;go_quiet (fail);generalize nq=n1;have hcs:=HCs.out n1;obtain ⟨wq,hwq⟩:∃ wq,wr.drewN n1=wq:=⟨_,rfl⟩;rw [hwq] at hcs ⊢;obtain ⟨u1,u2,u3,HOq,HBq⟩:=hcs;clear hwq HCs ca cd;go_wp2;go_roundg g2
         case measure=>omega
         case rel=>exact ⟨i+1,by omega,by go_num,hidI (by rw [HT.out,HF.out];exact HOq.out),hidI (HBq.out.setCell (Nat.le_refl _) _)⟩
        ·have HF:Hid (deepF ds g acc (pn:Int)=acc):=hidI (by rw [hF];omega);have d2:decide (acc<dd)=false:=by simp;omega
         clear hF;go_wp2;go_quiet (fail);generalize nq=n1;go_wp2;go_roundg g2
         case measure=>omega
         case rel=>exact ⟨i+1,by omega,by go_num,hidI (by rw [HT.out,HF.out];exact HOi.out),hidI ⟨HBi.out.1,HBi.out.2,HBi.out.3,HBi.out.4,HBi.out.5⟩⟩
       ·have HF:Hid (deepF ds g acc p=acc):=hidI (by unfold deepF;rw [if_neg (by omega)]);have d0:decide ((g:Int)<p)=true:=by simp;omega
        have d1:decide (p<(ms.length:Int))=false:=by simp;omega
        go_wp2;go_quiet (fail);generalize nq=n1;go_wp2;go_roundg g2
        case measure=>omega
        case rel=>exact ⟨i+1,by omega,by go_num,hidI (by rw [HT.out,HF.out];exact HOi.out),hidI ⟨HBi.out.1,HBi.out.2,HBi.out.3,HBi.out.4,HBi.out.5⟩⟩
      ·have HF:Hid (deepF ds g acc p=acc):=hidI (by unfold deepF;rw [if_neg (by omega)]);have d0:decide ((g:Int)<p)=false:=by simp;omega
       go_wp2;go_quiet (fail);generalize nq=n1;go_wp2;go_roundg g2
       case measure=>omega
       case rel=>exact ⟨i+1,by omega,by go_num,hidI (by rw [HT.out,HF.out];exact HOi.out),hidI ⟨HBi.out.1,HBi.out.2,HBi.out.3,HBi.out.4,HBi.out.5⟩⟩
   ·have q1:(x.1.k==1)=false:=by simp [hq1]
    have hkn:=HLF.out x (List.mem_of_getElem? HX.out) hq1;have HDV2:=hidI HDV.out;rw [if_neg hq1,hkn] at HDV2;have HE:Hid (dall ms (k+1)=ds):=hidI (by rw [HDA.out,HDV2.out];exact set_same hzr);clear hkn HDV2;go_wp2;go_roundg g
    case measure=>omega
    case rel=>exact ⟨k+1,by omega,by first|rfl|go_num,hidI (by rw [HE.out];exact HO.out),HB⟩
def RightP (ms:List MV) (top:List Int):Prop:=ms.length≤400∧(∀ x∈ms,okF x.1=true)∧SegI (kidsOf ms) 0 ms.length top∧depthOf ms top≤12
open Classical in
noncomputable def isR (ms:List MV) (top:List Int):Bool:=decide (RightP ms top)
theorem isR_true {ms:List MV} {top:List Int} (h:RightP ms top):isR ms top=true:=by unfold isR;simp [h]
theorem isR_false {ms:List MV} {top:List Int} (h:¬ RightP ms top):isR ms top=false:=by unfold isR;simp [h]
theorem okF_leaf {x:Fm} (h:okF x=true) (hk:x.k≠1):x.kids=[]:=by
 unfold okF at h;rw [if_neg hk] at h;have:((x.kids.length:Int)==0)=true→x.kids=[]:=fun h=>List.length_eq_zero_iff.1 (by have:=eq_of_beq h;omega)
 split at h
 ·simp only [Bool.and_eq_true] at h;exact this h.2
 ·split at h
  ·simp only [Bool.and_eq_true] at h;exact this h.2
  ·cases h
set_option maxHeartbeats 2000000 in
theorem rright_any (fv tv:Value) (ms:List MV) (top:List Int) (w:World) (hm:SeesM w fv ms) (ht:SeesC w tv top.length 1 (intsI top)) (htl:top.length≤281474976710656) (hkl:∀ x∈ms,x.1.kids.length≤281474976710656) (hsl:∀ x∈ms,x.1.s.size≤140737488355328) :
  Calls Tryz.prog 53 #[fv,tv] w fun e w'=>e=.returned (.bool (isR ms top))∧Below w.heap.size w w':=by
 obtain ⟨_,fa,fc,hfv,_⟩:=hm.row;have ht2:=ht;obtain ⟨_,ta,tc,htv,_⟩:=ht2;subst hfv;subst htv;obtain ⟨R,hR⟩:∃ R,isR ms top=R:=⟨_,rfl⟩;rw [hR];have HRR:=hidI hR;clear hR;by_cases hn:ms.length≤400
 ·have e400:¬ (400:Int)<(ms.length:Int):=by omega
  have HM:=hidI hm;have HT:=hidI ht;have HKL:=hidI hkl;have HSL:=hidI hsl;clear hm ht hkl hsl;go_enter Tryz.func53,Tryz.ntmps53;go_wp2
  go_loopg [5] ms.length (fun g s5 wx=>∃ i:Nat,i+g=ms.length∧s5=.int .i64 (i:Int)∧Hid (∀ (j:Nat) (x:MV),j<i→ms[j]?=some x→okF x.1=true)∧Hid (Below w.heap.size w wx))
  case atStart=>exact ⟨0,by omega,rfl,hidI (fun j x hj=>by omega),hidI (Below.refl _ _)⟩
  case round=>
   obtain ⟨i,hi,rfl,HA,HB⟩:=hrel;cases gk with
   | zero=>
    have hil:i=ms.length:=by omega
    have e1:¬ ((i:Int)<(ms.length:Int)):=by omega
    subst hil;have hok:∀ x∈ms,okF x.1=true:=fun x hx=>by
     obtain ⟨j,hj⟩:=List.getElem?_of_mem hx;exact HA.out j x (List.getElem?_eq_some_iff.1 hj).1 hj
    have HOK:=hidI hok;have hsm:=HM.out.below HB.out (Nat.le_refl _);have hst:=HT.out.below HB.out (Nat.le_refl _);have hk2:∀ x∈ms,x.1.kids.length≤4611686018427387904:=fun x hx=>by have:=HKL.out x hx;omega
    have C1:=hidI (through_any _ ms wr hsm (by omega) hk2 _ _ top 0 (Nat.lt_succ_self _) (by omega) (by omega) hst);have C2:=hidI (rdepth_any _ _ ms top wr hsm hst (by omega) hk2 (by omega) (fun x hx hk=>okF_leaf (hok x hx) hk));rw [show (((0:Nat)):Int)=0 from rfl] at C1;clear hok hsm hst hk2
    go_wp2_with (go_at_call 100;refine C1.out.mono ?_;rintro e w1 ⟨⟨q,rfl,HQ⟩,rfl⟩;refine Hid.out ?_)
    clear C1;have hq:=thr_iff HQ.out;by_cases hqn:q=(ms.length:Int)
    ·have hs:=hq.1 hqn;have b1:(q==(ms.length:Int))=true:=by simp [hqn]
     obtain ⟨b2,hb2⟩:∃ b:Bool,decide (depthOf ms top≤12)=b:=⟨_,rfl⟩;have HR:Hid (R=b2):=hidI (by
      rw [←hb2,←HRR.out];by_cases hd:depthOf ms top≤12
      ·rw [isR_true ⟨hn,HOK.out,hs,hd⟩,decide_eq_true hd]
      ·rw [isR_false (fun h=>hd h.2.2.2),decide_eq_false hd])
     obtain ⟨D,hD⟩:∃ D,depthOf ms top=D:=⟨_,rfl⟩;rw [hD] at C2 hb2;subst hqn;clear hq hs HQ hD b1;refine hidI ?_
     go_wp2_with (go_at_call 101;refine C2.out.mono ?_;rintro e w1 ⟨rfl,hb⟩;have HB1:=hidI (HB.out.trans (hb.mono HB.out.size));clear hb)
     go_ret;exact ⟨by rw [HR.out];rfl,HB1.out⟩
    ·have b1:(q==(ms.length:Int))=false:=by simp [hqn]
     have HR:Hid (R=false):=hidI (HRR.out.symm.trans (isR_false (fun h=>hqn (hq.2 h.2.2.1))));clear hq HQ C2;refine hidI ?_;go_wp2;go_ret;exact ⟨by rw [HR.out];rfl,HB.out⟩
   | succ g=>
    have hil:i<ms.length:=by omega
    have hxn:ms[i]?=some ms[i]:=List.getElem?_eq_getElem hil;obtain ⟨x,hx⟩:∃ x,ms[i]=x:=⟨_,rfl⟩;rw [hx] at hxn;obtain ⟨fb,fo,fc',ka,kc,hfv,hkv,y0,y1,y2,y3,y4⟩:=(HM.out.below HB.out (Nat.le_refl _)).load hxn;cases hfv;have e2:(i:Int)<(ms.length:Int):=by omega
    have e3:(0:Int)≤(i:Int):=by omega
    have e4:((i:Int)).toNat=i:=by omega
    have HC:=hidI (rplain_any x.1 ka kc (HSL.out x (List.mem_of_getElem? hxn)) wr);have HX:=hidI hxn;clear hx hxn hkv;cases hb:okF x.1 with
    | false=>
     rw [hb] at HC;have HR:Hid (R=false):=hidI (HRR.out.symm.trans<|isR_false (fun h=>by have:=h.2.1 x (List.mem_of_getElem? HX.out);rw [hb] at this;cases this));clear hb
     go_wp2_with (go_at_call 99;refine HC.out.mono ?_;rintro e w1 ⟨rfl,hb⟩;have HB1:=hidI (HB.out.trans (hb.mono HB.out.size));clear hb)
     go_ret;exact ⟨by rw [HR.out];rfl,HB1.out⟩
    | true=>
     rw [hb] at HC;have HB2:=hidI hb;clear hb
     go_wp2_with (go_at_call 99;refine HC.out.mono ?_;rintro e w1 ⟨rfl,hb⟩;have HB1:=hidI (HB.out.trans (hb.mono HB.out.size));clear hb)
     go_roundg g
     case measure=>omega
     case rel=>
      refine ⟨i+1,by omega,by go_num,hidI (fun j y hj hy => ?_),HB1⟩;by_cases e:j=i
      ·subst e;rw [HX.out] at hy;cases hy;exact HB2.out
      ·exact HA.out j y (by omega) hy
 ·have e400:(400:Int)<(ms.length:Int):=by omega
  have HR:Hid (R=false):=hidI (HRR.out.symm.trans (isR_false (fun h=>hn h.1)));clear hm ht hkl hsl;go_enter Tryz.func53,Tryz.ntmps53;go_wp2;go_ret;exact ⟨by rw [HR.out];rfl,Below.refl _ _⟩
theorem word_szs {t:Txt} {p:Nat} {b:Option Nat} {q:Piece} (h:q∈word t p b):q.2.length≤t.length:=by
 cases b with
 | none=>simp [word] at h
 | some b=>
  simp only [word,List.mem_singleton] at h;subst h;simp only [List.length_take,List.length_drop];omega
theorem run_szs {t:Txt}:∀ (r:Txt) (p:Nat) (b:Option Nat) (k:Bool) (q:Piece),q∈run t p b k r→q.2.length≤t.length+1
 | [],p,b,k,q,h=>by
  have:q∈word t p b:=by cases k<;>simpa [run] using h
  have:=word_szs this;omega
 | c::r,p,b,true,q,h=>by
  simp only [run] at h;split at h
  iterate 2 exact run_szs r _ _ _ q h
 | c::r,p,b,false,q,h=>by
  simp only [run] at h;split at h
  ·rcases List.mem_append.1 h with h|h
   ·have:=word_szs h;omega
   ·exact run_szs r _ _ _ q h
  split at h
  ·rcases List.mem_append.1 h with h|h
   ·have:=word_szs h;omega
   rcases List.mem_cons.1 h with rfl|h
   ·simp
   ·exact run_szs r _ _ _ q h
  split at h
  ·rcases List.mem_append.1 h with h|h
   ·have:=word_szs h;omega
   ·exact run_szs r _ _ _ q h
  ·exact run_szs r _ _ _ q h
theorem bad_none:∀ (ps:List Piece) (c:Nat),c≤600→bad c ps=none→c+ps.length≤600∧∀ q∈ps,kindP q.2≠0
 | [],c,hc,_=>⟨by simpa using hc,fun q hq=>by simp at hq⟩
 | q::r,c,hc,h=>by
  unfold bad at h;split at h
  ·cases h
  ·next hk=>
   split at h
   ·cases h
   ·next h6=>
    obtain ⟨h1,h2⟩:=bad_none r (c+1) (by omega) h;refine ⟨by simp only [List.length_cons];omega,fun x hx => ?_⟩;rcases List.mem_cons.1 hx with rfl|hx
    ·exact hk
    ·exact h2 x hx
theorem bad_some:∀ (ps:List Piece) (c:Nat) {x:Int × Int},bad c ps=some x→x.2=8∨x.2=4
 | [],c,x,h=>by cases h
 | q::r,c,x,h=>by
  unfold bad at h;split at h
  ·cases h;exact .inl rfl
  ·split at h
   ·cases h;exact .inr rfl
   ·exact bad_some r (c+1) h
structure TokOk (ts:List Tok):Prop where
 sz:∀ t∈ts,t.s.size≤140737488355328
 len:ts.length≤100000
 nm:ts.all nmT=true
theorem nmT_tok (q:Piece):nmT (tok q)=true:=by
 unfold nmT tok;by_cases h3:kindP q.2=3
 ·have hk:kindW (bytesOf q.2)=3:=by
   unfold kindP at h3;split at h3
   ·cases h3
   ·split at h3
    ·cases h3
    ·exact h3
  simp [hk]
 ·simp [h3]
theorem lex_cases (s:ByteArray):(∃ ts,lexRes s=(ts,0,0)∧TokOk ts)∨∃ a y,lexRes s=([],a,y)∧y≠0:=by
 unfold lexRes;by_cases hs:3000<s.size
 ·rw [if_pos hs];exact .inr ⟨_,_,rfl,by decide⟩
 ·rw [if_neg hs];cases hb:bad 0 (pieces s.data.toList) with
  | some x=>
   obtain ⟨a,y⟩:=x;refine .inr ⟨a,y,rfl,?_⟩;have h9:=bad_some _ _ hb;simp only at h9;omega
  | none=>
   obtain ⟨h1,h2⟩:=bad_none _ 0 (by omega) hb;refine .inl ⟨_,rfl,?_,?_,?_⟩
   ·intro t ht;obtain ⟨q,hq,rfl⟩:=List.mem_map.1 ht;have h3:=run_szs _ _ _ _ q hq;have h4:(bytesOf q.2).size=q.2.length:=by simp [bytesOf,ByteArray.size]
    have h5:s.data.toList.length=s.size:=by rw [Array.length_toList];rfl
    show (bytesOf q.2).size≤_;omega
   ·rw [List.length_map];omega
   ·rw [List.all_map,List.all_eq_true];exact fun q _=>nmT_tok q
theorem Seg.toI {K:Nat→List Nat} {KI:Int→List Int} (hK:∀ i:Nat,KI (i:Int)=castI (K i)) {lo hi:Nat} {l:List Nat} (h:Seg K lo hi l):SegI KI (lo:Int) (hi:Int) (castI l):=by
 induction h with
 | nil lo=>exact SegI.nil _
 | cons h1 h2 ih1 ih2=>
  refine SegI.cons ?_ ih2;rw [hK];exact ih1
theorem isR_parsed {l:List Tok} {σ:St} {lv:List Nat} (hS:Shape σ lv) (hv:∀ x∈lv,x≤12) (hC:Cnt l σ) (hG:Good σ) (hnm:l.all nmT=true) {ms:List MV} (hms:ms.map Prod.fst=σ.forms.map toFm):isR ms (castI σ.top)=true:=by
 have hlen:=len_same hms;have h400:=hG.len;refine isR_true ⟨by omega,fun x hx => ?_,?_,depthOf_le hS hv hms _⟩
 ·obtain ⟨i,hi⟩:=List.getElem?_of_mem hx;obtain ⟨f,hf,e⟩:=fm_at hms hi;rw [←named_same hC] at hnm;rw [e,okF_formed (hS.form i f hf)];exact List.all_eq_true.1 hnm f (List.mem_of_getElem? hf)
 ·have h:=Seg.toI (kids_at hms) hS.seg;rw [hlen];exact h
set_option maxHeartbeats 1000000 in
theorem dread_parsed {l:List Tok} {σ:St} (hp:parse l=.ok σ) (ht:TokOk l) {w:World} {fv tv:Value} (hF:SeesF w fv σ.forms) (hT:SeesC w tv σ.top.length 1 (ints σ.top)) :
  Calls Tryz.prog 26 #[fv,tv] w (DRead (rdTop σ.forms σ.top pv0.prg) w):=by
 obtain ⟨lv,hS,hv,hC,hop⟩:=shape_parse hp;have hG:Good σ:=by
  unfold parse at hp;split at hp
  ·cases hp
  ·rename_i σ1 h1
   have hg:=zcF h1;unfold finish at hp;split at hp
   ·cases hp;exact hg
   ·cases hp
 have hF2:=hF;obtain ⟨fs,hfs,hrow,hkid⟩:=hF;have hlen:fs.length=σ.forms.length:=by rw [←hfs];simp
 have hget:∀ (i:Nat) (x:FV),fs[i]?=some x→σ.forms[i]?=some x.1:=fun i x hx=>by rw [←hfs,List.getElem?_map,hx];rfl
 rw [←hfs];refine dread_any (fs:=fs) (ts:=σ.top) (sz:=fun n=>szF (Kof σ.forms) (σ.forms.length-n) n) hrow hkid (by have:=hG.len;omega) (fun i x hx k hk => ?_) (fun i x hx => ?_) (fun i x hx=>text_small hC ht.sz x.1 (List.mem_of_getElem? (hget i x hx))) (fun i x hx => ?_) hT (by have:=hG.top_len;have:=hG.len;omega) (fun k hk => ?_) ?_ (fun W hW => ?_)
 ·have:=hS.lk i x.1 k (hget i x hx) hk;omega
 ·have:=hG.kid_len x.1 (List.mem_of_getElem? (hget i x hx));have:=hG.len;omega
 ·have hi:=(List.getElem?_eq_some_iff.1 hx).1;have hK:Kof σ.forms i=x.1.kids:=by rw [←hfs];exact kof_at hx
  obtain ⟨d,hd⟩:∃ d,σ.forms.length-i=d+1:=⟨σ.forms.length-i-1,by omega⟩;show 1+(x.1.kids.map fun n=>szF (Kof σ.forms) (σ.forms.length-n) n).sum≤szF (Kof σ.forms) (σ.forms.length-i) i;rw [hd];simp only [szF,hK];have:=sum_le (f:=fun n=>szF (Kof σ.forms) (σ.forms.length-n) n) (g:=szF (Kof σ.forms) d) x.1.kids (fun k hk=>szF_mono _ (by have:=(hS.lk i x.1 k (hget i x hx) hk).1;omega) k);omega
 ·have:=seg_mem hS.seg k hk;omega
 ·have h1:=szF_seg hS.seg σ.forms.length;have h2:=sum_le (f:=fun n=>szF (Kof σ.forms) (σ.forms.length-n) n) (g:=szF (Kof σ.forms) σ.forms.length) σ.top (fun k _=>szF_mono _ (by omega) k);have:=hG.len;omega
 ·obtain ⟨ms,hms,hm,_⟩:=seesM_of (hF2.below hW);have hR:=isR_parsed hS hv hC hG ht.nm hms;have hlm:=len_same hms;have hmem:∀ x∈ms,∃ f∈σ.forms,x.1=toFm f:=fun x hx=>by
   obtain ⟨i,hi⟩:=List.getElem?_of_mem hx;obtain ⟨f,hf,e⟩:=fm_at hms hi;exact ⟨f,List.mem_of_getElem? hf,e⟩
  have h1:=rright_any fv tv ms (castI σ.top) W hm (by rw [ints_cast];simpa [castI] using hT.below hW (Nat.le_refl _)) (by have:=hG.top_len;have:=hG.len;simp [castI];omega) (fun x hx=>by
   obtain ⟨f,hf,e⟩:=hmem x hx;have:=hG.kid_len f hf;have:=hG.len;rw [e];simp [toFm];omega) (fun x hx=>by
   obtain ⟨f,hf,e⟩:=hmem x hx;rw [e];exact text_small hC ht.sz f hf)
  rw [hR] at h1;exact h1
theorem rspaced_any (c:Int) (w:World):Calls Tryz.prog 49 #[.int .u8 c] w fun e w'=>e=.returned (.bool (spI c))∧w=w':=by
 unfold spI;obtain ⟨b1,h1⟩:∃ b,(c==32)=b:=⟨_,rfl⟩;obtain ⟨b2,h2⟩:∃ b,(c==9)=b:=⟨_,rfl⟩;obtain ⟨b3,h3⟩:∃ b,(c==10)=b:=⟨_,rfl⟩;rw [h1,h2,h3];cases b1<;>cases b2<;>cases b3;all_goals
  go_enter Tryz.func49,Tryz.ntmps49;go_wp2;go_ret;exact ⟨rfl,rfl⟩
theorem ends_any (c:Int) (w:World):Calls Tryz.prog 50 #[.int .u8 c] w fun e w'=>e=.returned (.bool (endI c))∧w=w':=by
 have C:=hidI (rspaced_any c);unfold endI;obtain ⟨b1,h1⟩:∃ b,spI c=b:=⟨_,rfl⟩;obtain ⟨b2,h2⟩:∃ b,(c==40)=b:=⟨_,rfl⟩;obtain ⟨b3,h3⟩:∃ b,(c==41)=b:=⟨_,rfl⟩;obtain ⟨b4,h4⟩:∃ b,(c==59)=b:=⟨_,rfl⟩;rw [h1] at C;rw [h1,h2,h3,h4];cases b1<;>cases b2<;>cases b3<;>cases b4;all_goals
  go_enter Tryz.func50,Tryz.ntmps50
  go_wp2_with (go_at_call 49;refine Calls.mono (C.out _) ?_;rintro e w' ⟨rfl,rfl⟩)
  go_ret;exact ⟨rfl,rfl⟩
end Go.Proofs.YtfljimpgnlfipaaGreatDoor
