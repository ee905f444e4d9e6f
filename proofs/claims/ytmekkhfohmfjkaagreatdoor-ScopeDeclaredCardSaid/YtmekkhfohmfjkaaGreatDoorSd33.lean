/-
  Part 33 of the proof: SizeW, RPrs, RParse7, OpenT.
-/
import Derived.Test.YtmekkhfohmfjkaaGreatDoorSd30
import Derived.Test.YtmekkhfohmfjkaaGreatDoorSd32
import Derived.Laws.OwnMore
namespace Go.Proofs.YtmekkhfohmfjkaaGreatDoor
open Go.RowKit Go.Deep Go.MapKept
attribute [local go_sem] Oper.semAt_some
def SzI (w:World) (B:Nat) (pre:List (Int × Int)) (W:World):Prop:=Boxed W B 3 (.int .i64 (pre.length:Int))∧Below w.heap.size w W
theorem SzI.kept {w:World} {B B':Nat} (hB:w.heap.size≤B') (hl:B<B'):OwnFrom B' (SzI w B):=by
 rintro pre X Y row ⟨h1,h2⟩ hg hr
 refine ⟨?_,h2.grown hg h2.size (fun k e=>Nat.le_trans hB (hr k e).1)⟩
 exact (hg.block B h1.lt (fun e=>by have:=(hr B e.symm).1;omega)).trans h1
open Go.RowKit Go.Deep Go.MapKept
def deepF (ds:List Int) (own:Int) (acc p:Int):Int:=if own<p∧p<(ds.length:Int) then max acc (ds.getD p.toNat 0) else acc
def deepest (ds:List Int) (own:Int) (ps:List Int):Int:=ps.foldl (deepF ds own) 0
theorem deepest_any (dv pv:Value) (ds ps:List Int) (own:Int) (ho : -1≤own) (w:World) (hd:SeesC w dv ds.length 1 (intsI ds)) (hp:SeesC w pv ps.length 1 (intsI ps)) (hpl:ps.length≤4611686018427387904) :
  Calls Tryz.prog 118 #[dv,.int .i64 own,pv] w fun e w'=>e=.returned (.int .i64 (deepest ds own ps))∧w=w':=by
 obtain ⟨_,da,dc,rfl,hdc⟩:=hd
 obtain ⟨_,pa,pc,rfl,hpc⟩:=hp
 have CB:=hidI behind_any
 have HDC:=hidI hdc
 have HPC:=hidI hpc
 clear hdc hpc
 go_enter Tryz.func118,Tryz.ntmps118
 go_wp2
 go_loopg [7,12] ps.length (fun g s7 s12 wx=>∃ i:Nat,i+g=ps.length∧s12=.int .i64 (i:Int)∧s7=.int .i64 ((ps.take i).foldl (deepF ds own) 0)∧w=wx)
 case atStart=>exact ⟨0,by omega,rfl,rfl,rfl⟩
 case round=>
  obtain ⟨i,hi,rfl,rfl,rfl⟩:=hrel
  cases gk with
  | zero=>
   have hil:i=ps.length:=by omega
   have e1:¬ ((i:Int)<(ps.length:Int)):=by omega
   subst hil
   rw [List.take_length]
   go_wp2
   go_ret
   exact ⟨rfl,rfl⟩
  | succ g=>
   have hil:i<ps.length:=by omega
   have e1:(i:Int)<(ps.length:Int):=by omega
   have e2:(0:Int)≤(i:Int):=by omega
   have e3:((i:Int)).toNat=i:=by omega
   have hgi:ps[i]?=some ps[i]:=List.getElem?_eq_getElem hil
   obtain ⟨p,hp⟩:∃ p,ps[i]=p:=⟨_,rfl⟩
   rw [hp] at hgi
   rcases HPC.out with h0|⟨pb,po,rfl,hpc⟩
   ·omega
   have cp:=hpc i _ (zcF hgi)
   have ht:(ps.take (i+1)).foldl (deepF ds own) 0=deepF ds own ((ps.take i).foldl (deepF ds own) 0) p:=by rw [List.take_add_one,hgi];simp
   have HT:=hidI ht
   obtain ⟨acc,hacc⟩:∃ acc,(ps.take i).foldl (deepF ds own) 0=acc:=⟨_,rfl⟩
   rw [hacc] at HT ⊢
   clear hpc hp ht hacc
   by_cases hin:own<p∧p<(ds.length:Int)
   ·obtain ⟨pn,rfl⟩:∃ pn:Nat,p=(pn:Int):=⟨p.toNat,by omega⟩
    have q:(decide (own<(pn:Int)) && decide ((pn:Int)<(ds.length:Int)))=true:=by simp [hin.1,hin.2]
    have CB1:Hid (∀ w:World,Calls Tryz.prog 117 #[.int .i64 own,.int .i64 (pn:Int),.int .i64 (ds.length:Int)] w fun e w'=>e=.returned (.bool true)∧w=w'):=hidI fun w=>by have:=CB.out own pn ds.length w;rwa [q] at this
    have hpl2:pn<ds.length:=by omega
    rcases HDC.out with h0|⟨db,d0,rfl,hdc⟩
    ·omega
    have hgd:ds[pn]?=some (ds.getD pn 0):=by rw [List.getD_eq_getElem?_getD,List.getElem?_eq_getElem hpl2];rfl
    have cd:=hdc pn _ (zcF hgd)
    obtain ⟨dd,hdd⟩:∃ dd,ds.getD pn 0=dd:=⟨_,rfl⟩
    rw [hdd] at cd
    have e4:(pn:Int)<(ds.length:Int):=by omega
    have e5:(0:Int)≤(pn:Int):=by omega
    have e6:((pn:Int)).toNat=pn:=by omega
    have HF:Hid (deepF ds own acc (pn:Int)=max acc dd):=hidI (by unfold deepF;rw [if_pos hin,e6,hdd])
    clear q hdc hgd hdd hin
    go_wp2_with (go_at_call 117;refine (CB1.out _).mono ?_;rintro e w' ⟨rfl,rfl⟩)
    go_roundg g
    case measure=>omega
    case rel=>exact ⟨i+1,by omega,by go_num,by rw [HT.out,HF.out],rfl⟩
   ·have q:(decide (own<p) && decide (p<(ds.length:Int)))=false:=by
     rw [Bool.and_eq_false_iff]
     by_cases h1:own<p
     ·exact .inr (by simp;exact Int.not_lt.1 fun h2=>hin ⟨h1,h2⟩)
     ·exact .inl (by simp;omega)
    have CB1:Hid (∀ w:World,Calls Tryz.prog 117 #[.int .i64 own,.int .i64 p,.int .i64 (ds.length:Int)] w fun e w'=>e=.returned (.bool false)∧w=w'):=hidI fun w=>by have:=CB.out own p ds.length w;rwa [q] at this
    have HF:Hid (deepF ds own acc p=acc):=hidI (by unfold deepF;rw [if_neg hin])
    clear q hin
    go_wp2_with (go_at_call 117;refine (CB1.out _).mono ?_;rintro e w' ⟨rfl,rfl⟩)
    go_roundg g
    case measure=>omega
    case rel=>exact ⟨i+1,by omega,by go_num,by rw [HT.out,HF.out],rfl⟩
open Go.RowKit Go.Deep Go.MapKept
def dval (ms:List MV) (ds:List Int) (i:Nat):Int:=match ms[i]? with|none=>0|some x=>if x.1.k=1 then min (deepest ds i x.1.kids+1) 13 else deepest ds i x.1.kids
def dall (ms:List MV):Nat→List Int
 | 0=>List.replicate ms.length 0
 | k+1=>(dall ms k).set (ms.length-1-k) (dval ms (dall ms k) (ms.length-1-k))
def depthOf (ms:List MV) (top:List Int):Int:=deepest (dall ms ms.length) (-1) top
theorem dall_len (ms:List MV):∀ k,(dall ms k).length=ms.length
 | 0=>by simp [dall]
 | k+1=>by simp [dall,dall_len ms k]
theorem deepF_le {ds:List Int} (h:∀ d∈ds,0≤d∧d≤13) (own acc p:Int) (ha:0≤acc∧acc≤13):0≤deepF ds own acc p∧deepF ds own acc p≤13:=by
 unfold deepF
 split
 ·have:0≤ds.getD p.toNat 0∧ds.getD p.toNat 0≤13:=by
   rw [List.getD_eq_getElem?_getD]
   cases hg:ds[p.toNat]? with
   | none=>simp
   | some d=>simpa using h d (List.mem_of_getElem? hg)
  omega
 ·exact ha
theorem foldl_le {ds:List Int} (h:∀ d∈ds,0≤d∧d≤13) (own:Int):∀ (ps:List Int) (acc:Int),0≤acc∧acc≤13→0≤ps.foldl (deepF ds own) acc∧ps.foldl (deepF ds own) acc≤13
 | [],_,ha=>ha
 | p::r,acc,ha=>foldl_le h own r _ (deepF_le h own acc p ha)
theorem deepest_le {ds:List Int} (h:∀ d∈ds,0≤d∧d≤13) (own:Int) (ps:List Int):0≤deepest ds own ps∧deepest ds own ps≤13:=foldl_le h own ps 0 (by omega)
theorem dval_le {ms:List MV} {ds:List Int} (h:∀ d∈ds,0≤d∧d≤13) (i:Nat):0≤dval ms ds i∧dval ms ds i≤13:=by
 unfold dval
 split
 ·omega
 ·split
  ·have:=deepest_le h i;rename_i x _ _;have:=this x.1.kids;omega
  ·exact deepest_le h i _
theorem dall_le (ms:List MV):∀ k,∀ d∈dall ms k,0≤d∧d≤13
 | 0,d,hd=>by obtain ⟨_,rfl⟩:=List.mem_replicate.1 hd;omega
 | k+1,d,hd=>by
  rcases List.mem_or_eq_of_mem_set hd with h|rfl
  ·exact dall_le ms k d h
  ·exact dval_le (dall_le ms k) _
theorem intsI_set (l:List Int) (i:Nat) (x:Int):intsI (l.set i x)=(intsI l).set i (.int .i64 x):=by simp [intsI,List.map_set]
theorem made_ints (n:Nat):(madeCells #[Value.int .i64 0] n).toList=intsI (List.replicate n 0):=by
 rw [toList_madeCells_one]
 simp [intsI]
theorem Tryz.info3parts:∃ i0,Tryz.prog.info? 3=some i0∧i0.zero=some (.int .i64 0)∧i0.size=1∧i0.bytes=8:=by
 obtain ⟨i0,hi,hz0,hz1,hz2⟩:=info_parts Tryz.info3x
 exact ⟨i0,hi,hz0,hz1,hz2⟩
theorem SeesM.cellAt {w:World} {v:Value} {ms:List MV} (h:SeesM w v ms) {i:Nat} {x:MV} (hx:ms[i]?=some x):∃ fb fo fc,v=.slice (some ⟨fb,fo,none⟩) ms.length fc∧∀ j u,j<5→(mcells x)[j]?=some u→w.cell? ⟨fb,fo+i*5+j,none⟩=some u:=by
 obtain ⟨_,a,c,rfl,h0|⟨b,o,rfl,hc⟩⟩:=h.row
 ·have:=(List.getElem?_eq_some_iff.1 hx).1;omega
 ·refine ⟨b,o,c,rfl,fun j u hj hu => ?_⟩
  have:=hc (i*5+j) u (by rw [flatM_get ms i j x hx hj];exact hu)
  rwa [←Nat.add_assoc] at this
set_option maxHeartbeats 2000000 in
theorem depth_any (fv tv:Value) (ms:List MV) (top:List Int) (w:World) (hm:SeesM w fv ms) (ht:SeesC w tv top.length 1 (intsI top)) (hml:ms.length≤1000000) (hkl:∀ x∈ms,x.1.kids.length≤4611686018427387904) (htl:top.length≤4611686018427387904) :
  Calls Tryz.prog 76 #[fv,tv] w fun e w'=>e=.returned (.int .i64 (depthOf ms top))∧Below w.heap.size w w':=by
 obtain ⟨i0,hi,hz0,hz1,hz2⟩:=Tryz.info3parts
 obtain ⟨_,fa,fc,hfv,_⟩:=hm.row
 have HM:=hidI hm
 have HT:=hidI ht
 have HKL:=hidI hkl
 have wn:IntKind.i64.wrap ((ms.length:Int)-1)=(ms.length:Int)-1:=by rw [IntKind.wrap_i64];omega
 subst hfv
 clear hm ht hkl
 go_enter Tryz.func76,Tryz.ntmps76
 go_wp2_with (at_make;go_must (refine wpList_make_full _ rfl _ _ 45 rfl w.heap.size 3 i0 (.int .i64 0) 1 Tryz.underlying45 hi hz0 hz1 _ _ _ _ ms.length rfl rfl rfl rfl (by rw [hz2];omega) (by unfold maxLen;omega) (Nat.le_refl _) ?_);intro w1 hown1 hgrow1;refine Hid.out ?_)
 rw [show (Value.int .i64 0).cells=#[Value.int .i64 0] from rfl,Nat.mul_one,made_ints] at hown1
 have hb1:Below w.heap.size w w1:=(Below.refl _ w).grown hgrow1 (Nat.le_refl _) (fun _ e=>by cases e)
 refine hidI ?_
 have HO1:=hidI hown1
 have HB1:=hidI hb1
 clear hown1 hgrow1 hb1
 go_wp2
 go_loopg [6] ms.length (fun g s6 wx=>∃ k:Nat,k+g=ms.length∧s6=.int .i64 ((g:Int)-1)∧Hid (wx.ownsRow w.heap.size 3 1 (.slice (some ⟨w.heap.size,0,none⟩) ms.length ms.length) ms.length (intsI (dall ms k)))∧Hid (Below w.heap.size w wx))
 case atStart=>exact ⟨0,by omega,rfl,HO1,HB1⟩
 case round=>
  obtain ⟨k,hk,rfl,HO,HB⟩:=hrel
  have hdl:=dall_len ms k
  cases gk with
  | zero=>
   have e1:¬ ((0:Int)≤((0:Nat):Int)-1):=by omega
   obtain rfl:k=ms.length:=by omega
   have HC:=hidI (deepest_any (.slice (some ⟨w.heap.size,0,none⟩) ms.length ms.length) tv (dall ms ms.length) top (-1) (by omega) wr (by rw [hdl];exact zaS HO.out) (HT.out.below HB.out (Nat.le_refl _)) htl)
   clear hdl
   go_wp2_with (go_at_call 118;refine HC.out.mono ?_;rintro e w' ⟨rfl,rfl⟩)
   go_ret
   exact ⟨rfl,HB.out⟩
  | succ g=>
   have hgn:ms.length-1-k=g:=by omega
   have hgl:g<ms.length:=by omega
   have hxn:ms[g]?=some ms[g]:=List.getElem?_eq_getElem hgl
   obtain ⟨x,hx⟩:∃ x,ms[g]=x:=⟨_,rfl⟩
   rw [hx] at hxn
   have hsm:=HM.out.below HB.out (Nat.le_refl _)
   obtain ⟨fb,fo,fc',hfv,hcs⟩:=hsm.cellAt hxn
   cases hfv
   have ck:=hcs 3 x.2 (by omega) rfl
   have c0:=hcs 0 (.int .u8 x.1.k) (by omega) rfl
   have hks:=hsm.kid g x hxn
   have hks2:=hks
   obtain ⟨_,ka,kc,hkv,_⟩:=hks2
   have hds:=deepest_le (dall_le ms k) (g:Int) x.1.kids
   have HC:=hidI (deepest_any (.slice (some ⟨w.heap.size,0,none⟩) ms.length ms.length) x.2 (dall ms k) x.1.kids (g:Int) (by omega) wr (by rw [hdl];exact zaS HO.out) hks (HKL.out x (List.mem_of_getElem? hxn)))
   obtain ⟨d,hdd⟩:∃ d,deepest (dall ms k) (g:Int) x.1.kids=d:=⟨_,rfl⟩
   have HDV:Hid (dval ms (dall ms k) g=if x.1.k=1 then min (d+1) 13 else d):=hidI (by unfold dval;rw [hxn];simp only [hdd])
   have HDA:Hid (dall ms (k+1)=(dall ms k).set g (dval ms (dall ms k) g)):=hidI (by show (dall ms k).set _ _=_;rw [hgn])
   rw [hkv] at ck HC
   rw [hdd] at HC hds
   have e0:(((g+1:Nat):Int)-1)=(g:Int):=by omega
   rw [e0]
   have e1:(0:Int)≤(g:Int):=by omega
   have e2:(g:Int)<(ms.length:Int):=by omega
   have e3:((g:Int)).toNat=g:=by omega
   have hcell:∃ u,wr.cell? ⟨w.heap.size,g,none⟩=some (.int .i64 u):=by
    have hg2:(dall ms k)[g]?=some ((dall ms k)[g]'(by rw [hdl];exact hgl)):=List.getElem?_eq_getElem _
    exact ⟨_,own_cell HO.out (zcF hg2)⟩
   obtain ⟨u,hu⟩:=hcell
   have hfz:=zcU HO.out g
   have HO2:=hidI (own_setG (j:=g) HO.out (.int .i64 d))
   have wg:IntKind.i64.wrap ((g:Int)-1)=(g:Int)-1:=by rw [IntKind.wrap_i64];omega
   have hw2:(wr.setCell ⟨w.heap.size,g,none⟩ (.int .i64 d)).cell? ⟨w.heap.size,g,none⟩=some (.int .i64 d):=World.cell?_setCell_same wr _ _ hu
   have hfz2:(wr.setCell ⟨w.heap.size,g,none⟩ (.int .i64 d)).frozen? ⟨w.heap.size,g,none⟩=false:=(World.frozen?_setCell _ _ _ _).trans hfz
   have hfbl:fb<w.heap.size:=by
    have:=sees_lt HM.out.row (by decide) (by omega) fb rfl
    exact this
   have c0':(wr.setCell ⟨w.heap.size,g,none⟩ (.int .i64 d)).cell? ⟨fb,fo+g*5,none⟩=some (.int .u8 x.1.k):=(World.cell?_of_block (w:=wr) (Below.heap_setCell wr ⟨w.heap.size,g,none⟩ _ fb (by simp;omega))).trans c0
   clear hx hsm hcs hks hkv hdd hxn hdl
   by_cases hk1:x.1.k=1
   ·rw [hk1] at c0'
    have HDV2:=hidI HDV.out
    rw [if_pos hk1] at HDV2
    have wd:IntKind.i64.wrap (d+1)=d+1:=by rw [IntKind.wrap_i64];omega
    have HO3:=hidI (own_setG (j:=g) HO2.out (.int .i64 (min (d+1) 13)))
    go_wp2_with (go_at_call 118;refine HC.out.mono ?_;rintro e w' ⟨rfl,rfl⟩)
    go_roundg g
    case measure=>omega
    case rel=>
     refine ⟨k+1,by omega,by first|rfl|go_num,?_,hidI ((HB.out.setCell (Nat.le_refl _) _).setCell (Nat.le_refl _) _)⟩
     have:=HO3.out
     rw [List.set_set] at this
     rw [HDA.out,HDV2.out,intsI_set]
     exact this
   ·have HDV2:=hidI HDV.out
    rw [if_neg hk1] at HDV2
    have q1:(x.1.k==1)=false:=by simp [hk1]
    go_wp2_with (go_at_call 118;refine HC.out.mono ?_;rintro e w' ⟨rfl,rfl⟩)
    go_roundg g
    case measure=>omega
    case rel=>
     refine ⟨k+1,by omega,by first|rfl|go_num,?_,hidI (HB.out.setCell (Nat.le_refl _) _)⟩
     rw [HDA.out,HDV2.out,intsI_set]
     exact HO2.out
open Go.RowKit Go.Deep Go.MapKept
noncomputable def okF (x:Fm):Bool:=
 if x.k=1 then (x.s.toList==([]:List UInt8)) && (x.n==0)
 else if x.k=3 then (kindW x.s==3) && (x.n==0) && ((x.kids.length:Int)==0)
 else if x.k=4 then (x.s.toList==([]:List UInt8)) && ((x.kids.length:Int)==0)
 else false
set_option maxHeartbeats 1000000 in
theorem isRight_any (x:Fm) (ka:Option Addr) (kc:Nat) (hs:x.s.size≤140737488355328) (w:World) (hL:Laid w) :
  Calls Tryz.prog 74 #[.agg #[.int .u8 x.k,.string x.s,.int .i64 x.n,.slice ka x.kids.length kc,.int .i64 x.p]] w fun e w'=>e=.returned (.bool (okF x))∧Below w.heap.size w w':=by
 have CK:=hidI (fun w h=>kind_any x.s hs w h)
 have hbA:Below w.heap.size w (w.alloc (.cells #[.int .u8 x.k,.string x.s,.int .i64 x.n,.slice ka x.kids.length kc,.int .i64 x.p] 115)):=by exact belowT
 have HLA:=hidI (hL.on hbA)
 have HBA:=hidI hbA
 clear hL hbA hs
 obtain ⟨k,s,n,kids,p⟩:=x
 simp only at CK HLA HBA ⊢
 obtain ⟨kl,hkl⟩:∃ kl:Nat,kids.length=kl:=⟨_,rfl⟩
 unfold okF
 simp only [hkl]
 rw [hkl] at HLA HBA
 clear hkl
 by_cases h1:k=1
 ·subst h1
  rw [if_pos rfl]
  obtain ⟨b1,q1⟩:∃ b,(s.toList==([]:List UInt8))=b:=⟨_,rfl⟩
  obtain ⟨b2,q2⟩:∃ b,(n==0)=b:=⟨_,rfl⟩
  rw [q1,q2]
  cases b1<;>cases b2
  all_goals
   go_enter Tryz.func74,Tryz.ntmps74
   go_wp2
   go_ret
   exact ⟨rfl,HBA.out⟩
 rw [if_neg h1]
 have g1:(k==1)=false:=by simp [h1]
 by_cases h3:k=3
 ·subst h3
  rw [if_pos rfl]
  obtain ⟨K,hK⟩:∃ K,kindW s=K:=⟨_,rfl⟩
  rw [hK] at CK ⊢
  obtain ⟨b1,q1⟩:∃ b,(K==3)=b:=⟨_,rfl⟩
  obtain ⟨b2,q2⟩:∃ b,(n==0)=b:=⟨_,rfl⟩
  obtain ⟨b3,q3⟩:∃ b,((kl:Int)==0)=b:=⟨_,rfl⟩
  rw [q1,q2,q3]
  have ct:∀ w1,Below (w.alloc (.cells #[.int .u8 3,.string s,.int .i64 n,.slice ka kl kc,.int .i64 p] 115)).heap.size (w.alloc (.cells #[.int .u8 3,.string s,.int .i64 n,.slice ka kl kc,.int .i64 p] 115)) w1→w1.cell? ⟨w.heap.size,2,none⟩=some (.int .i64 n)∧w1.cell? ⟨w.heap.size,3,none⟩=some (.slice ka kl kc):=fun w1 h=>⟨(h.cell (p:=⟨w.heap.size,2,none⟩) (by simp)).trans (by go_simp),(h.cell (p:=⟨w.heap.size,3,none⟩) (by simp)).trans (by go_simp)⟩
  have CT:=hidI ct
  clear ct
  cases b1<;>cases b2<;>cases b3
  all_goals
   go_enter Tryz.func74,Tryz.ntmps74
   go_wp2_with (go_at_call 57;refine (CK.out _ HLA.out).mono ?_;rintro e w1 ⟨rfl,hb1⟩;have ⟨y2,y3⟩:=CT.out w1 hb1;have HB1:=hidI hb1;clear hb1)
   go_ret
   exact ⟨rfl,HBA.out.trans (HB1.out.mono HBA.out.size)⟩
 rw [if_neg h3]
 have g3:(k==3)=false:=by simp [h3]
 by_cases h4:k=4
 ·subst h4
  rw [if_pos rfl]
  obtain ⟨b1,q1⟩:∃ b,(s.toList==([]:List UInt8))=b:=⟨_,rfl⟩
  obtain ⟨b2,q2⟩:∃ b,((kl:Int)==0)=b:=⟨_,rfl⟩
  rw [q1,q2]
  cases b1<;>cases b2
  all_goals
   go_enter Tryz.func74,Tryz.ntmps74
   go_wp2
   go_ret
   exact ⟨rfl,HBA.out⟩
 rw [if_neg h4]
 have g4:(k==4)=false:=by simp [h4]
 go_enter Tryz.func74,Tryz.ntmps74
 go_wp2
 go_ret
 exact ⟨rfl,HBA.out⟩
open Go.RowKit Go.Deep Go.MapKept
theorem right_long (fv tv:Value) (ms:List MV) (top:List Int) (w:World) (hm:SeesM w fv ms) (ht:SeesC w tv top.length 1 (intsI top)) (hn:400<ms.length) :
  Calls Tryz.prog 46 #[fv,tv] w fun e w'=>e=.returned (.bool false)∧Below w.heap.size w w':=by
 obtain ⟨_,fa,fc,rfl,_⟩:=hm.row
 obtain ⟨_,ta,tc,rfl,_⟩:=ht
 have e1:(400:Int)<(ms.length:Int):=by omega
 clear hm
 go_enter Tryz.func46,Tryz.ntmps46
 go_wp2
 refine bodyPost_ret (v:=.bool false) (by rw [zbS rfl];go_simp) rfl ?_
 exact ⟨rfl,by exact belowT⟩
theorem SeesM.load {w:World} {v:Value} {ms:List MV} (h:SeesM w v ms) {i:Nat} {x:MV} (hx:ms[i]?=some x):∃ fb fo fc ka kc,v=.slice (some ⟨fb,fo,none⟩) ms.length fc∧x.2=.slice ka x.1.kids.length kc∧w.cell? ⟨fb,fo+i*5,none⟩=some (.int .u8 x.1.k)∧w.cell? ⟨fb,fo+i*5+1,none⟩=some (.string x.1.s)∧w.cell? ⟨fb,fo+i*5+2,none⟩=some (.int .i64 x.1.n)∧w.cell? ⟨fb,fo+i*5+3,none⟩=some (.slice ka x.1.kids.length kc)∧w.cell? ⟨fb,fo+i*5+4,none⟩=some (.int .i64 x.1.p):=by
 obtain ⟨fb,fo,fc,rfl,hc⟩:=h.cellAt hx
 obtain ⟨_,ka,kc,hkv,_⟩:=h.kid i x hx
 refine ⟨fb,fo,fc,ka,kc,rfl,hkv,hc 0 _ (by omega) rfl,hc 1 _ (by omega) rfl,hc 2 _ (by omega) rfl,?_,hc 4 _ (by omega) rfl⟩
 rw [←hkv]
 exact hc 3 _ (by omega) rfl
set_option maxHeartbeats 2000000 in
theorem right_bad (fv tv:Value) (ms:List MV) (top:List Int) (w:World) (hL:Laid w) (hm:SeesM w fv ms) (ht:SeesC w tv top.length 1 (intsI top)) (hn:ms.length≤400) (htl:top.length≤281474976710656) (hkl:∀ x∈ms,x.1.kids.length≤281474976710656) (hsl:∀ x∈ms,x.1.s.size≤140737488355328)
  (m:Nat) (hml:m<ms.length) (hok:∀ i x,i<m→ms[i]?=some x→okF x.1=true) (hbad:∀ x,ms[m]?=some x→okF x.1=false) :
  Calls Tryz.prog 46 #[fv,tv] w fun e w'=>e=.returned (.bool false)∧Below w.heap.size w w':=by
 obtain ⟨_,fa,fc,hfv,_⟩:=hm.row
 obtain ⟨_,ta,tc,rfl,_⟩:=ht
 subst hfv
 have HM:=hidI hm
 have HL:=hidI hL
 have HOK:=hidI hok
 have HBAD:=hidI hbad
 have HKL:=hidI hkl
 have HSL:=hidI hsl
 have e1:¬ (400:Int)<(ms.length:Int):=by omega
 have g0:=Boxed.new w 4 (.bool false)
 have HG0:=hidI g0
 have HB0:Hid (Below w.heap.size w (w.alloc (.cells #[.bool false] 4))):=hidI (by exact belowT)
 clear hm hok hbad hL hkl hsl g0
 go_enter Tryz.func46,Tryz.ntmps46
 go_wp2
 go_loopg [5,18] (m+1) (fun g s5 s18 wx=>∃ (i:Nat) (nm:Int),i+g=m+1∧0<g∧s18=.int .i64 (i:Int)∧s5=.int .i64 nm∧0≤nm∧nm≤281474976710656*((i:Int)+1)∧Hid (Boxed wx w.heap.size 4 (.bool false))∧Hid (Below w.heap.size w wx))
 case atStart=>exact ⟨0,top.length,by omega,by omega,rfl,rfl,by omega,by omega,HG0,HB0⟩
 case round=>
  obtain ⟨i,nm,hi,hgk,rfl,rfl,hn0,hn1,HG,HB⟩:=hrel
  cases gk with
  | zero=>omega
  | succ g=>
   have hil:i<ms.length:=by omega
   have hxn:ms[i]?=some ms[i]:=List.getElem?_eq_getElem hil
   obtain ⟨x,hx⟩:∃ x,ms[i]=x:=⟨_,rfl⟩
   rw [hx] at hxn
   have hsm:=HM.out.below HB.out (Nat.le_refl _)
   obtain ⟨fb,fo,fc',ka,kc,hfv,hkv,y0,y1,y2,y3,y4⟩:=hsm.load hxn
   cases hfv
   have e2:(i:Int)<(ms.length:Int):=by omega
   have e3:(0:Int)≤(i:Int):=by omega
   have e4:((i:Int)).toNat=i:=by omega
   have hkx:=HKL.out x (List.mem_of_getElem? hxn)
   have hbA:Below wr.heap.size wr (wr.alloc (.cells #[.int .u8 x.1.k,.string x.1.s,.int .i64 x.1.n,.slice ka x.1.kids.length kc,.int .i64 x.1.p] 115)):=by exact belowT
   have hLA:=(HL.out.on HB.out).on hbA
   have HC:=hidI (isRight_any x.1 ka kc (HSL.out x (List.mem_of_getElem? hxn)) _ hLA)
   have HBA:=hidI (HB.out.trans (hbA.mono HB.out.size))
   have hGA:=HG.out.alloc (.cells #[.int .u8 x.1.k,.string x.1.s,.int .i64 x.1.n,.slice ka x.1.kids.length kc,.int .i64 x.1.p] 115)
   have HGA:=hidI hGA
   have hks:(wr.alloc (.cells #[.int .u8 x.1.k,.string x.1.s,.int .i64 x.1.n,.slice ka x.1.kids.length kc,.int .i64 x.1.p] 115)).cell? ⟨wr.heap.size,3,none⟩=some (.slice ka x.1.kids.length kc):=by go_simp
   have HKS:=hidI hks
   have hszA:wr.heap.size<(wr.alloc (.cells #[.int .u8 x.1.k,.string x.1.s,.int .i64 x.1.n,.slice ka x.1.kids.length kc,.int .i64 x.1.p] 115)).heap.size:=by simp
   have wk:IntKind.i64.wrap (nm+(x.1.kids.length:Int))=nm+(x.1.kids.length:Int):=by rw [IntKind.wrap_i64];omega
   cases g with
   | zero=>
    obtain rfl:i=m:=by omega
    have hb:=HBAD.out x hxn
    rw [hb] at HC
    clear hx hsm hxn hkv hbA hLA hks hGA hb
    go_wp2_with (go_at_call 74;refine HC.out.mono ?_;rintro e w1 ⟨rfl,hb1⟩;have hz:=zcJ HGA.out hb1;have hzc:=hz.cell;have hzf:=hz.frozen;have HB1:=hidI hb1;have HZ:=hidI hz;clear hb1 hz)
    have hzs:=World.cell?_setCell_same w1 ⟨w.heap.size,0,none⟩ (.bool false) hzc
    refine bodyPost_ret (v:=.bool false) (by rw [zbS rfl];go_simp) rfl ?_
    exact ⟨rfl,(HBA.out.trans (HB1.out.mono HBA.out.size)).setCell (Nat.le_refl _) _⟩
   | succ g=>
    have hb:=HOK.out i x (by omega) hxn
    rw [hb] at HC
    clear hx hsm hxn hkv hbA hLA hks hGA hb
    go_wp2_with (go_at_call 74;refine HC.out.mono ?_;rintro e w1 ⟨rfl,hb1⟩;have hz:=zcJ HGA.out hb1;have hks1:=(hb1.cell (p:=⟨wr.heap.size,3,none⟩) hszA).trans HKS.out;have HB1:=hidI hb1;have HZ:=hidI hz;clear hb1 hz)
    go_roundg (g+1)
    case measure=>omega
    case rel=>exact ⟨i+1,nm+(x.1.kids.length:Int),by omega,by omega,by go_num,rfl,by omega,by omega,HZ,hidI (HBA.out.trans (HB1.out.mono HBA.out.size))⟩
open Go.RowKit Go.Deep Go.MapKept
attribute [local go_sem] Oper.semAt_some
def InOrd (ys:List (Int × Int)):Prop:=∀ (i:Nat) (y:Int × Int),ys[i]?=some y→y.2=(i:Int)
instance (ys:List (Int × Int)):Decidable (InOrd ys):=decidable_of_iff ((List.range ys.length).all (fun i=>match ys[i]? with|some y=>y.2==(i:Int)|none=>true)=true) (by
 simp only [List.all_eq_true,List.mem_range]
 constructor
 ·intro h i y hy
  have:=h i (List.getElem?_eq_some_iff.1 hy).1
  rw [hy] at this
  simpa using this
 ·intro h i _
  cases hy:ys[i]? with
  | none=>rfl
  | some y=>simpa using h i y hy)
def namedN (ms:List MV) (top:List Int):Int:=(ms.map fun x=>(x.1.kids.length:Int)).foldl (·+·) (top.length:Int)
theorem named_next (ms:List MV) (top:List Int) (i:Nat) (x:MV) (h:ms[i]?=some x):namedN (ms.take (i+1)) top=namedN (ms.take i) top+(x.1.kids.length:Int):=by
 unfold namedN
 rw [List.take_add_one,h]
 simp
def RgI (w:World) (N:Nat) (pre:List (Int × Int)) (W:World):Prop:=Boxed W w.heap.size 4 (.bool false)∧Boxed W N 3 (.int .i64 (pre.length:Int))∧Below w.heap.size w W∧InOrd pre
def RgX (w:World) (all:List (Int × Int)) (_:List (Int × Int)) (W:World):Prop:=Boxed W w.heap.size 4 (.bool false)∧Below w.heap.size w W∧¬ InOrd all
theorem RgI.kept {w:World} {N B':Nat} (hB:w.heap.size<B') (hl:N<B'):OwnFrom B' (RgI w N):=by
 rintro pre X Y row ⟨h0,h1,h2,h3⟩ hg hr
 refine ⟨h0.kept hg (fun e => ?_),h1.kept hg (fun e => ?_),h2.grown hg h2.size (fun k e=>Nat.le_trans (Nat.le_of_lt hB) (hr k e).1),h3⟩
 ·have:=(hr _ e.symm).1;omega
 ·have:=(hr _ e.symm).1;omega
theorem RgX.kept {w:World} {B':Nat} {all:List (Int × Int)} (hB:w.heap.size<B'):OwnFrom B' (RgX w all):=by
 rintro pre X Y row ⟨h0,h2,h3⟩ hg hr
 refine ⟨h0.kept hg (fun e => ?_),h2.grown hg h2.size (fun k e=>Nat.le_trans (Nat.le_of_lt hB) (hr k e).1),h3⟩
 have:=(hr _ e.symm).1;omega
theorem RgI.box {w:World} {N:Nat} {pre:List (Int × Int)} {X:World} (h:RgI w N pre X) {k:Nat} (u:Value) (hk:w.heap.size<k) (hne:N≠k):RgI w N pre (X.setCell ⟨k,0,none⟩ u):=
 ⟨(Below.heap_setCell X ⟨k,0,none⟩ u _ (by simp;omega)).trans h.1,(Below.heap_setCell X ⟨k,0,none⟩ u N hne).trans h.2.1,h.2.2.1.setCell (by simp;omega) u,h.2.2.2⟩
theorem inOrd_next {pre:List (Int × Int)} {x:Int × Int} (h:InOrd pre) (hx:x.2=(pre.length:Int)):InOrd (pre++[x]):=by
 intro i y hy
 by_cases hi:i<pre.length
 ·rw [List.getElem?_append_left hi] at hy;exact h i y hy
 ·rw [List.getElem?_append_right (by omega)] at hy
  obtain ⟨j,hj⟩:∃ j,i-pre.length=j:=⟨_,rfl⟩
  rw [hj] at hy
  cases j with
  | zero=>simp at hy;subst hy;rw [hx];omega
  | succ j=>simp at hy
theorem inOrd_not {pre all:List (Int × Int)} {x:Int × Int} (hp:(pre++[x]) <+: all) (hx:¬ x.2=(pre.length:Int)):¬ InOrd all:=by
 intro h
 obtain ⟨r,hr⟩:=hp
 exact hx (h pre.length x (by rw [←hr];simp))
set_option maxRecDepth 100000 in
set_option maxHeartbeats 8000000 in
theorem right_walk (fv tv:Value) (ms:List MV) (top:List Int) (w:World) (hL:Laid w) (hm:SeesM w fv ms) (ht:SeesC w tv top.length 1 (intsI top)) (hn:ms.length≤400) (htl:top.length≤281474976710656) (hkl:∀ x∈ms,x.1.kids.length≤281474976710656) (hsl:∀ x∈ms,x.1.s.size≤140737488355328)
  (hok:∀ (i:Nat) (x:MV),ms[i]?=some x→okF x.1=true) {t':Int} {all:List (Int × Int)} {ok:Bool} (hW:WalkR (kidsOf ms) ms.length 0 (-1) (-1) top t' all ok) :
  Calls Tryz.prog 46 #[fv,tv] w fun e w'=>e=.returned (.bool (decide (InOrd all) && (decide ((all.length:Int)=ms.length) && (decide (namedN ms top=ms.length) && decide (depthOf ms top≤12)))))∧Below w.heap.size w w':=by
 obtain ⟨RR,hRR⟩:∃ b:Bool,(decide (InOrd all) && (decide ((all.length:Int)=ms.length) && (decide (namedN ms top=ms.length) && decide (depthOf ms top≤12))))=b:=⟨_,rfl⟩
 rw [hRR]
 have HRR:=hidI hRR
 clear hRR
 have ht2:=ht
 obtain ⟨_,fa,fc,hfv,_⟩:=hm.row
 obtain ⟨_,ta,tc,htv,_⟩:=ht
 subst hfv
 subst htv
 have HM:=hidI hm
 have HT:=hidI ht2
 have HL:=hidI hL
 have HOK:=hidI hok
 have HKL:=hidI hkl
 have HSL:=hidI hsl
 have HW:=hidI hW
 have e1:¬ (400:Int)<(ms.length:Int):=by omega
 have g0:=Boxed.new w 4 (.bool false)
 have HG0:=hidI g0
 have HB0:Hid (Below w.heap.size w (w.alloc (.cells #[.bool false] 4))):=hidI (by exact belowT)
 clear hm ht2 hok hL hkl hsl g0 hW
 refine (callsIn_wide (n:=0)).1 ?_
 refine callsIn_of_wp_marks Tryz.func46 rfl trivial ?_ rfl
 simp only [Tryz.ntmps46,List.size_toArray,List.length_cons,List.length_nil,Nat.reduceAdd,Nat.reduceSub,Array.replicate_succ,Array.replicate_zero,List.push_toArray,List.append_toArray,List.nil_append,List.cons_append]
 gi_wp2
 gi_loopg [5,18] ms.length (fun g s5 s18 wx=>∃ (i:Nat),i+g=ms.length∧s18=.int .i64 (i:Int)∧s5=.int .i64 (namedN (ms.take i) top)∧0≤namedN (ms.take i) top∧namedN (ms.take i) top≤281474976710656*((i:Int)+1)∧Hid (Boxed wx w.heap.size 4 (.bool false))∧Hid (Below w.heap.size w wx))
 case atStart=>exact ⟨0,by omega,rfl,by simp [namedN],by simp [namedN],by simp [namedN];omega,HG0,HB0⟩
 case round=>
  obtain ⟨i,hi,rfl,rfl,hn0,hn1,HG,HB⟩:=hrel
  cases gk with
  | zero=>
   obtain rfl:i=ms.length:=by omega
   have e2:¬ ((ms.length:Int)<(ms.length:Int)):=by omega
   rw [List.take_length] at hn0 hn1 ⊢
   have hG:=HG.out
   gi_wp2_with (refine ⟨trivial,rfl,?_⟩;gi_at_call 75;refine (callsIn_wide.2 (walk_any _ _ _ _ _ _ _)).mono ?_;rintro e w' ⟨rfl,rfl⟩)
   have hwl:w.heap.size<wr.heap.size:=HG.out.lt
   have hb0:Below wr.heap.size wr (((wr.alloc (.cells #[.int .i64 0] 3)).alloc (.cells #[.slice fa ms.length fc] 66)).alloc (.cells #[.slice ta top.length tc] 45)):=by exact belowT
   have k0:=((HG.out.alloc (.cells #[.int .i64 0] 3)).alloc (.cells #[.slice fa ms.length fc] 66)).alloc (.cells #[.slice ta top.length tc] 45)
   have k1:=((Boxed.new wr 3 (.int .i64 0)).alloc (.cells #[.slice fa ms.length fc] 66)).alloc (.cells #[.slice ta top.length tc] 45)
   have k2:=(Boxed.new (wr.alloc (.cells #[.int .i64 0] 3)) 66 (.slice fa ms.length fc)).alloc (.cells #[.slice ta top.length tc] 45)
   have k3:=Boxed.new ((wr.alloc (.cells #[.int .i64 0] 3)).alloc (.cells #[.slice fa ms.length fc] 66)) 45 (.slice ta top.length tc)
   simp only [World.size_alloc] at k2 k3
   have hsz:(((wr.alloc (.cells #[.int .i64 0] 3)).alloc (.cells #[.slice fa ms.length fc] 66)).alloc (.cells #[.slice ta top.length tc] 45)).heap.size=wr.heap.size+3:=by simp
   obtain ⟨W0,hW0⟩:∃ W0,((wr.alloc (.cells #[.int .i64 0] 3)).alloc (.cells #[.slice fa ms.length fc] 66)).alloc (.cells #[.slice ta top.length tc] 45)=W0:=⟨_,rfl⟩
   rw [hW0] at hb0 k0 k1 k2 k3 hsz ⊢
   clear hW0
   have hbw:Below w.heap.size w W0:=HB.out.trans (hb0.mono HB.out.size)
   have hsm0:=HM.out.below hbw (Nat.le_refl _)
   have htp0:=HT.out.below hbw (Nat.le_refl _)
   have hseq:=walk_seq (.slice fa ms.length fc) (.slice ta top.length tc) ms top (wr.heap.size+1) (wr.heap.size+1+1) (fun k=>k=w.heap.size∨k=wr.heap.size) W0 k2.cell k3.cell hsm0 htp0 (by omega) (fun k hk=>by omega) (by
     rintro v n (⟨rfl,rfl⟩|⟨rfl,rfl⟩|⟨x,hx,rfl,rfl⟩) hn k hk
     ·have:=sees_lt HM.out.row (by decide) hn k hk;omega
     ·have:=sees_lt HT.out (by decide) hn k hk;omega
     ·obtain ⟨i,hi⟩:=List.getElem?_of_mem hx
      have:=sees_lt (HM.out.kid i x hi) (by decide) hn k hk;omega) (fun x hx=>by have:=HKL.out x hx;omega) (by omega) (by omega) HW.out
   have hmost:=HW.out.most (by omega)
   have htold:=HW.out.told
   refine range_walk (gf:=115) (lb:=#[.pointer (some ⟨wr.heap.size+1,0,none⟩),.pointer (some ⟨wr.heap.size+1+1,0,none⟩)]) rfl (enters_of Tryz.func115 (by kernel_rfl) rfl) hseq rfl
    (RgI w wr.heap.size) (RgX w all) ?hI ?hIo ?hIx ?h0
    (fun st W=>RgI w wr.heap.size st.1 W∧st.2.2={ tmps:=#[.slice fa ms.length fc,.slice ta top.length tc,undef,undef,.pointer (some ⟨w.heap.size,0,none⟩),.int .i64 (namedN ms top),undef,u7,.pointer (some ⟨wr.heap.size,0,none⟩),undef,.int .i64 st.2.1.2,.slice fa ms.length fc,.int .i64 (ms.length:Int),.bool false,.slice ta top.length tc,.int .i64 (top.length:Int),.slice fa ms.length fc,.int .i64 (ms.length:Int),.int .i64 (ms.length:Int),.bool false,u20,u21,u22,u23,u24,u25,u26,u27,u28,u29,u30,.slice fa ms.length fc,.slice ta top.length tc,.func (.func 115) #[] #[.pointer (some ⟨wr.heap.size+1,0,none⟩),.pointer (some ⟨wr.heap.size+1+1,0,none⟩)],.int .i64 st.2.1.1,.int .i64 st.2.1.2,undef,undef,undef,undef,undef,undef,undef,undef,undef,undef,undef,undef,undef,undef,undef,undef,undef,undef,undef,undef,undef],defers:=[] })
    ?hAx ?assign ?body ?done ?stop
   case hI=>exact RgI.kept (by omega) (by omega)
   case hIo=>exact fun pre X u k h1 h2 h=>h.box u (by omega) (by omega)
   case hIx=>exact RgX.kept (by omega)
   case h0=>exact ⟨k0,k1,hbw,fun i y hy=>by simp at hy⟩
   case hAx=>
    rintro st X Y row ⟨h1,ha⟩ hg hrow
    exact ⟨RgI.kept (B':=W0.heap.size) (by omega) (by omega) st.1 X Y row h1 hg hrow,ha⟩
   case assign=>
    rintro l pre x W K hi hK
    dsimp only [encP]
    gi_wp2
    exact hK _ _ (KeepsFrom.refl _ _) (Keeps.refl _ _) ⟨hi,rfl⟩
   case body=>
    rintro l pre ⟨xu,xp⟩ a' W hR ⟨hi,ha⟩
    dsimp only at ha
    subst ha
    obtain ⟨q0,q1,q2,q3⟩:=hi
    have hlen:pre.length<all.length:=by have:=hR.length_le;simp at this;omega
    have c0:=q0.cell
    have f0:=q0.frozen
    have c1:=q1.cell
    have f1:=q1.frozen
    have hw1:IntKind.i64.wrap ((pre.length:Int)+1)=(pre.length:Int)+1:=by rw [IntKind.wrap_i64];omega
    have Q0:=hidI q0
    have Q1:=hidI q1
    have Q2:=hidI q2
    have Q3:=hidI q3
    have HR:=hidI hR
    clear q0 q1 q2 q3 hR
    by_cases hxp:xp=(pre.length:Int)
    ·subst hxp
     gi_wp2
     refine ⟨(KeepsOthers.setCell _ _ _).from _,Keeps.grown (grownBy_setCell' W wr.heap.size _) (fun k o e _ ht => ?_),?_,?_,?_,?_⟩
     ·cases e;exact ht.2.1 (.inr rfl)
     ·exact (Below.heap_setCell W ⟨wr.heap.size,0,none⟩ _ w.heap.size (by simp;omega)).trans Q0.out
     ·have:=Q1.out.set (.int .i64 ((pre.length:Int)+1))
      rw [List.length_append]
      exact this
     ·exact Q2.out.setCell (by simp;omega) _
     ·exact inOrd_next Q3.out rfl
    ·have HX:=hidI (inOrd_not HR.out hxp)
     have qx:(xp==(pre.length:Int))=false:=by simp [hxp]
     gi_wp2
     refine ⟨(KeepsOthers.setCell _ _ _).from _,?_,?_,?_⟩
     ·exact Q0.out.set _
     ·exact Q2.out.setCell (Nat.le_refl _) _
     ·exact HX.out
   case done=>
    rintro D xs W hD rfl ⟨q0,q1,q2,q3⟩ hK
    have c0:=q0.cell
    have f0:=q0.frozen
    have c1:=q1.cell
    have hDl:D<W.heap.size:=(Array.getElem?_eq_some_iff.1 hK).1
    have HD:=hidI (depth_any (.slice fa ms.length fc) (.slice ta top.length tc) ms top W (HM.out.below q2 (Nat.le_refl _)) (HT.out.below q2 (Nat.le_refl _)) (by omega) (fun x hx=>by have:=HKL.out x hx;omega) (by omega))
    have Q0:=hidI q0
    have Q2:=hidI q2
    have hord:decide (InOrd xs)=true:=by simp [q3]
    have hR2:=HRR.out
    rw [hord,Bool.true_and] at hR2
    clear q0 q1 q2 q3 hord k0 k1 k2 k3 hseq hsm0 htp0 hmost htold
    obtain ⟨dp,hdp⟩:∃ dp,depthOf ms top=dp:=⟨_,rfl⟩
    rw [hdp] at HD hR2
    obtain ⟨nm,hnm⟩:∃ nm,namedN ms top=nm:=⟨_,rfl⟩
    rw [hnm] at hR2 ⊢
    by_cases h1:(xs.length:Int)=ms.length
    ·have p1:((xs.length:Int)==(ms.length:Int))=true:=by simp [h1]
     rw [decide_eq_true h1,Bool.true_and] at hR2
     by_cases h2:nm=ms.length
     ·have p2:(nm==(ms.length:Int))=true:=by simp [h2]
      rw [decide_eq_true h2,Bool.true_and] at hR2
      have hR3:=hidI hR2
      clear hR2 h1 h2 hdp hnm
      gi_wp2
      refine ⟨trivial,rfl,(callsIn_wide.2 HD.out).mono ?_⟩
      rintro e w1 ⟨rfl,hb1⟩
      have hz:=zcJ Q0.out hb1
      have hzc:=hz.cell
      have hzf:=hz.frozen
      have hK1:w1.heap[D]?=some (.deferred (some [])):=(hb1.block D hDl).trans hK
      have hB1:=Q2.out.trans (hb1.mono Q2.out.size)
      have HB1:=hidI hB1
      have HZ:=hidI hz
      have HK1:=hidI hK1
      obtain ⟨bb,hbb⟩:∃ bb,decide (dp≤12)=bb:=⟨_,rfl⟩
      have hR4:=hR3.out
      rw [hbb] at hR4
      have HR4:=hidI hR4
      clear hb1 hz hB1 hK1 hK hR4 HD
      gi_wp2
      have hK':(w1.setCell ⟨w.heap.size,0,none⟩ (.bool bb)).heap[D]?=some (.deferred (some [])):=(Below.heap_setCell w1 ⟨w.heap.size,0,none⟩ _ D (by simp;omega)).trans HK1.out
      have hbl:=HB1.out.setCell (p:=⟨w.heap.size,0,none⟩) (Nat.le_refl _) (.bool bb)
      have d0:Boxed ((w1.setCell ⟨w.heap.size,0,none⟩ (.bool bb)).putObj D (.deferred none)) w.heap.size 4 (.bool bb):=(World.putObj_heap_other (by omega)).trans (HZ.out.set _)
      have z0:=d0.cell
      refine ⟨by simp,.inl ⟨_,_,rfl,run_takeDeferred hK',?_⟩⟩
      refine ⟨.bool bb,?_,by rw [←HR4.out],hbl.trans (belowK_b (w:=w) (Nat.le_refl _) _ D _ _ (by omega) hK' rfl rfl)⟩
      rw [zbS rfl]
      go_simp
     ·have p2:(nm==(ms.length:Int))=false:=by simp [h2]
      rw [decide_eq_false h2,Bool.false_and] at hR2
      have hR3:=hidI hR2
      clear hR2 h1 h2 hdp hnm
      gi_wp2
      refine ⟨trivial,?_⟩
      gi_wp2
      have hzs:=(Q0.out.set (.bool false)).cell
      have hK':(W.setCell ⟨w.heap.size,0,none⟩ (.bool false)).heap[D]?=some (.deferred (some [])):=(Below.heap_setCell W ⟨w.heap.size,0,none⟩ _ D (by simp;omega)).trans hK
      have hbl:=Q2.out.setCell (p:=⟨w.heap.size,0,none⟩) (Nat.le_refl _) (.bool false)
      have d0:Boxed ((W.setCell ⟨w.heap.size,0,none⟩ (.bool false)).putObj D (.deferred none)) w.heap.size 4 (.bool false):=(World.putObj_heap_other (by omega)).trans (Q0.out.set _)
      have z0:=d0.cell
      refine ⟨by simp,.inl ⟨_,_,rfl,run_takeDeferred hK',?_⟩⟩
      refine ⟨.bool false,?_,by rw [←hR3.out],hbl.trans (belowK_b (w:=w) (Nat.le_refl _) _ D _ _ (by omega) hK' rfl rfl)⟩
      rw [zbS rfl]
      go_simp
    ·have p1:((xs.length:Int)==(ms.length:Int))=false:=by simp [h1]
     rw [decide_eq_false h1,Bool.false_and] at hR2
     have hR3:=hidI hR2
     clear hR2 h1 hdp hnm
     gi_wp2
     refine ⟨trivial,?_⟩
     gi_wp2
     have hzs:=(Q0.out.set (.bool false)).cell
     have hK':(W.setCell ⟨w.heap.size,0,none⟩ (.bool false)).heap[D]?=some (.deferred (some [])):=(Below.heap_setCell W ⟨w.heap.size,0,none⟩ _ D (by simp;omega)).trans hK
     have hbl:=Q2.out.setCell (p:=⟨w.heap.size,0,none⟩) (Nat.le_refl _) (.bool false)
     have d0:Boxed ((W.setCell ⟨w.heap.size,0,none⟩ (.bool false)).putObj D (.deferred none)) w.heap.size 4 (.bool false):=(World.putObj_heap_other (by omega)).trans (Q0.out.set _)
     have z0:=d0.cell
     refine ⟨by simp,.inl ⟨_,_,rfl,run_takeDeferred hK',?_⟩⟩
     refine ⟨.bool false,?_,by rw [←hR3.out],hbl.trans (belowK_b (w:=w) (Nat.le_refl _) _ D _ _ (by omega) hK' rfl rfl)⟩
     rw [zbS rfl]
     go_simp
   case stop=>
    rintro D pre W hD ⟨q0,q2,q3⟩ hK
    have d0:Boxed (W.putObj D (.deferred none)) w.heap.size 4 (.bool false):=(World.putObj_heap_other (by omega)).trans q0
    have z0:=d0.cell
    have Q2:=hidI q2
    have hord:decide (InOrd all)=false:=by simp [q3]
    have hR2:=HRR.out
    rw [hord,Bool.false_and] at hR2
    subst hR2
    clear q0 q2 q3 hord k0 k1 k2 k3 hseq hsm0 htp0
    gi_wp2
    refine ⟨by simp,.inl ⟨_,_,rfl,run_takeDeferred hK,?_⟩⟩
    refine ⟨.bool false,?_,rfl,Q2.out.trans (belowK_b (w:=w) (Nat.le_refl _) W D _ _ (by omega) hK rfl rfl)⟩
    rw [zbS rfl]
    go_simp
  | succ g=>
   have hil:i<ms.length:=by omega
   have hxn:ms[i]?=some ms[i]:=List.getElem?_eq_getElem hil
   obtain ⟨x,hx⟩:∃ x,ms[i]=x:=⟨_,rfl⟩
   rw [hx] at hxn
   have hsm:=HM.out.below HB.out (Nat.le_refl _)
   obtain ⟨fb,fo,fc',ka,kc,hfv,hkv,y0,y1,y2,y3,y4⟩:=hsm.load hxn
   cases hfv
   have e2:(i:Int)<(ms.length:Int):=by omega
   have e3:(0:Int)≤(i:Int):=by omega
   have e4:((i:Int)).toNat=i:=by omega
   have hkx:=HKL.out x (List.mem_of_getElem? hxn)
   have hbA:Below wr.heap.size wr (wr.alloc (.cells #[.int .u8 x.1.k,.string x.1.s,.int .i64 x.1.n,.slice ka x.1.kids.length kc,.int .i64 x.1.p] 115)):=by exact belowT
   have hLA:=(HL.out.on HB.out).on hbA
   have HC:=hidI (isRight_any x.1 ka kc (HSL.out x (List.mem_of_getElem? hxn)) _ hLA)
   have HBA:=hidI (HB.out.trans (hbA.mono HB.out.size))
   have hGA:=HG.out.alloc (.cells #[.int .u8 x.1.k,.string x.1.s,.int .i64 x.1.n,.slice ka x.1.kids.length kc,.int .i64 x.1.p] 115)
   have HGA:=hidI hGA
   have hks:(wr.alloc (.cells #[.int .u8 x.1.k,.string x.1.s,.int .i64 x.1.n,.slice ka x.1.kids.length kc,.int .i64 x.1.p] 115)).cell? ⟨wr.heap.size,3,none⟩=some (.slice ka x.1.kids.length kc):=by go_simp
   have HKS:=hidI hks
   have hszA:wr.heap.size<(wr.alloc (.cells #[.int .u8 x.1.k,.string x.1.s,.int .i64 x.1.n,.slice ka x.1.kids.length kc,.int .i64 x.1.p] 115)).heap.size:=by simp
   have HNN:=hidI (named_next ms top i x hxn)
   obtain ⟨nm,hnm⟩:∃ nm,namedN (ms.take i) top=nm:=⟨_,rfl⟩
   rw [hnm] at hn0 hn1 HNN ⊢
   have wk:IntKind.i64.wrap (nm+(x.1.kids.length:Int))=nm+(x.1.kids.length:Int):=by rw [IntKind.wrap_i64];omega
   have hb:=HOK.out i x hxn
   rw [hb] at HC
   clear hx hsm hxn hkv hbA hLA hks hGA hb hnm
   gi_wp2_with (refine ⟨trivial,rfl,?_⟩;gi_at_call 74;refine (callsIn_wide.2 HC.out).mono ?_;rintro e w1 ⟨rfl,hb1⟩;have hz:=zcJ HGA.out hb1;have hks1:=(hb1.cell (p:=⟨wr.heap.size,3,none⟩) hszA).trans HKS.out;have HB1:=hidI hb1;have HZ:=hidI hz;clear hb1 hz)
   go_roundg g
   case measure=>omega
   case rel=>exact ⟨i+1,by omega,by go_num,by rw [HNN.out],by rw [HNN.out];omega,by rw [HNN.out];omega,HZ,hidI (HBA.out.trans (HB1.out.mono HBA.out.size))⟩
end Go.Proofs.YtmekkhfohmfjkaaGreatDoor

namespace Go.Proofs.YtmekkhfohmfjkaaGreatDoor
open Go.RowKit Go.Deep Go.MapKept
theorem steps_good:∀ (l:List Tok) (σ σ':St),Good σ→steps l σ=.ok σ'→Good σ'
 | [],σ,σ',h,e=>by cases e;exact h
 | t::r,σ,σ',h,e=>by
  unfold steps at e
  cases hs:step σ t with
  | error q=>rw [hs] at e;cases e
  | ok σ1=>rw [hs] at e;exact steps_good r σ1 σ' (step_good h hs) e
theorem steps_good_at {l:List Tok} {σ':St} (e:steps l begin0=.ok σ'):Good σ':=steps_good l _ _ good_begin e
end Go.Proofs.YtmekkhfohmfjkaaGreatDoor

