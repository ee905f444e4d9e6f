/-
  Part 15 of the proof: PCont, PAdd, PExpr.
-/
import Derived.Test.YtmekkhfohmfjkaaGreatDoorSd14
namespace Go.Proofs.YtmekkhfohmfjkaaGreatDoor
open Go.RowKit Go.Deep Go.MapKept
abbrev cval (k:Ctn) (av tv ev:Value):Value:=.agg #[.string k.name,.int .u8 (k.op:Int),.bool k.inn,.int .i64 k.e,.int .i64 k.cond,av,tv,ev]
def ContPost (c:Cx) (X:List Rw) (p:PV) (r:Except Int (Ctn × ES)) (e:Ending) (w':World):Prop:=
 match r with
 | .error q=>e=.panicked (flt2 q)∧Bad c X w'
 | .ok (k,q)=>∃ p' av tv ev,e=.returned (cval k av tv ev)∧p'.es=q∧(p'.ds,p'.dv)=(p.ds,p.dv)∧(p'.ms,p'.mv)=(p.ms,p.mv)∧RdS c p' (aRow av k.acts::iRow tv k.thn::iRow ev k.els::X) w'
abbrev Tk:=Ctn→Nat→Nat→ES→Except Int (Ctn × ES)
def TC (c:Cx) (part kid:Nat) (tk:Tk):Prop:=
 ∀ (p:PV) (X:List Rw) (k:Ctn) (av tv ev:Value) (w:World) (cb:Nat),RdS c p (cRows cb k av tv ev X) w→NQ p.es+c.sz kid≤1000→k.acts.length≤900→k.thn.length≤900→
  Calls Tryz.prog 123 #[.pointer (some ⟨c.B,0,none⟩),.pointer (some ⟨cb,0,none⟩),.int .i64 (kid:Int),.int .i32 (part:Int)] w (TakePost c cb X p (tk k kid part p.es))
structure TK (c:Cx) (tk:Tk) (ps ks:List Nat):Prop where
 call:∀ (i kid:Nat),ks[i]?=some kid→0<ps.length→TC c (nthP ps i) kid tk
 grow:∀ (k k':Ctn) (kid part:Nat) (q q':ES),kid<c.fs.length→tk k kid part q=.ok (k',q')→k'.acts.length≤k.acts.length+1∧(k'.thn.length≤k.thn.length+1∨k'.thn.length≤400)
 bd:∀ (k k':Ctn) (kid part:Nat) (q q':ES),kid<c.fs.length→tk k kid part q=.ok (k',q')→NQ q'≤NQ q+c.sz kid
theorem lookAll_drop (l:List Frm) (ps:List Nat):∀ (ks:List Nat) (j i k:Nat),ks[j]?=some k→lookAll l ps (ks.drop j) i=(looksP (frm l k) (nthP ps i) && lookAll l ps (ks.drop (j+1)) (i+1)):=by
 intro ks j i k h
 have hj:=(List.getElem?_eq_some_iff.1 h).1
 have hv:=(List.getElem?_eq_some_iff.1 h).2
 rw [List.drop_eq_getElem_cons hj,hv]
 rfl
theorem takesP_drop (tk:Tk) (ps:List Nat) (ks:List Nat) (j i k:Nat) (cn:Ctn) (q:ES) (h:ks[j]?=some k):takesP tk ps (ks.drop j) i cn q=(match tk cn k (nthP ps i) q with|.error p=>.error p|.ok (c',q')=>takesP tk ps (ks.drop (j+1)) (i+1) c' q'):=by
 have hj:=(List.getElem?_eq_some_iff.1 h).1
 have hv:=(List.getElem?_eq_some_iff.1 h).2
 rw [List.drop_eq_getElem_cons hj,hv]
 simp only [takesP]
 cases tk cn k (nthP ps i) q with
 | error e=>rfl
 | ok x=>rfl
def shRow (sb:Nat) (sw sp:ByteArray):Rw:=⟨bx sb,151,2,1,[.string sw,.string sp]⟩
def rsRow (rb:Nat):Rw:=⟨bx rb,170,8,1,[.string ⟨#[]⟩,.int .u8 0,.bool false,.int .i64 0,.int .i64 0,.slice none 0 0,.slice none 0 0,.slice none 0 0]⟩
theorem most_pos {ps:List Nat} {m:Nat} (h:fitsP ps m=true) (hm:0<m):0<ps.length:=by
 unfold fitsP at h
 rw [decide_eq_true_eq] at h
 cases ps with
 | nil=>simp [mostP] at h;omega
 | cons _ _=>simp
set_option maxHeartbeats 4000000 in
theorem zdT {c:Cx} (hc:c.Ok) {tk:Tk} {ks:List Nat} {kv:Value} {sw sp:ByteArray} (hasc:∀ (i:Nat) (h:i<sp.size),(sp[i]'h).toNat<128) (hb:sp.size≤10) (hk:SeesK c.w0 kv ks) (hkl:ks.length≤400) (hlt:∀ k∈ks,k<c.fs.length) (HT:TK c tk (ptL sp) ks) {p:PV} {X:List Rw} {w:World} (h:RdS c p X w) {n:Nat} (hn:n<c.fs.length) (hN:NQ p.es+(ks.map c.sz).sum≤1000) :
  Calls Tryz.prog 92 #[.pointer (some ⟨c.B,0,none⟩),.int .i64 (n:Int),kv,.agg #[.string sw,.string sp]] w (ContPost c X p (contentP c.l tk (ptL sp) n ks p.es)):=by
 obtain ⟨_,a,cap,rfl,_⟩:=id hk
 obtain ⟨m,hm⟩:∃ m,ks.length=m:=⟨_,rfl⟩
 have HM:=hidI hm
 have HK:=hidI hk
 have HHT:=hidI HT
 have HNN:=hidI hN
 have HLT:=hidI hlt
 obtain ⟨x,hx⟩:∃ x,c.fs[n]?=some x:=⟨_,List.getElem?_eq_getElem hn⟩
 have HX:=hidI hx
 have HFX:Hid (frm c.l n=x.1):=hidI (Cx.frm_at hx)
 have s1:RdS c p (rsRow (w.heap.size+1)::shRow w.heap.size sw sp::X) ((w.alloc (.cells #[.string sw,.string sp] 151)).alloc (.cells #[.string ⟨#[]⟩,.int .u8 0,.bool false,.int .i64 0,.int .i64 0,.slice none 0 0,.slice none 0 0,.slice none 0 0] 170)):=by
  have a1:RdS c p (shRow w.heap.size sw sp::X) (w.alloc (.cells #[.string sw,.string sp] 151)):=RdS.more (h.alloc _) (h.rows.add (h.rows.alloc _) (zcK w c.w0.heap.size 151 2 #[.string sw,.string sp] h.size rfl) (fun k hk=>by cases hk;exact Nat.le_refl _))
  have hsz:(w.alloc (.cells #[.string sw,.string sp] 151)).heap.size=w.heap.size+1:=by simp
  have a2:=zcK (w.alloc (.cells #[.string sw,.string sp] 151)) c.w0.heap.size 170 8 #[.string ⟨#[]⟩,.int .u8 0,.bool false,.int .i64 0,.int .i64 0,.slice none 0 0,.slice none 0 0,.slice none 0 0] (by rw [hsz];have:=h.size;omega) rfl
  rw [hsz] at a2
  refine RdS.more (a1.alloc _) (a1.rows.add (a1.rows.alloc _) a2 (fun k hk=>by cases hk;rw [hsz];exact Nat.le_refl _))
 have HS1:=hidI s1
 have C1:=hidI (fun W=>fits_any sw sp hasc hb m W)
 have hNth:∀ (i:Nat) (W:World),0<sp.size→Calls Tryz.prog 122 #[.agg #[.string sw,.string sp],.int .i64 (i:Int)] W fun e w'=>e=.returned (.int .i32 (nthP (ptL sp) i:Int))∧Below W.heap.size W w':=fun i W h0=>nth_any sw sp h0 (by omega) i W
 have HNth:=hidI hNth
 rw [hm] at hkl
 rw [hm]
 have sh0:=zaB (RowsP.head (r:=shRow w.heap.size sw sp) s1.less.first) (j:=0) rfl
 have sh1:=zaB (RowsP.head (r:=shRow w.heap.size sw sp) s1.less.first) (j:=1) rfl
 clear hm hk HT hN hlt hx hNth s1 h
 cases hfit:fitsP (ptL sp) m with
 | false=>
  have HR:Hid (contentP c.l tk (ptL sp) n ks p.es=.error x.1.p):=hidI (by unfold contentP;rw [HM.out,hfit,if_neg (by simp),HFX.out])
  rw [hfit] at C1
  have C2:Hid (∀ W,RdS c p (rsRow (w.heap.size+1)::shRow w.heap.size sw sp::X) W→Calls Tryz.prog 91 #[.pointer (some ⟨c.B,0,none⟩),.bool false,.int .i64 (n:Int)] W fun e w'=>e=.panicked (flt2 x.1.p)∧W=w'):=hidI (fun W hW=>zcV hc hW HX.out)
  clear hfit
  go_enter Tryz.func92,Tryz.ntmps92
  go_wp2_with (first
   | (go_at_call 120;refine Calls.mono (C1.out _) ?_;intro e w1 h1;obtain ⟨rfl,hb1⟩:=h1;clear C1;have HS2:=hidI (HS1.out.on hb1))
   | (go_at_call 91;refine Calls.mono (C2.out _ HS2.out) ?_;intro e w2 h2;obtain ⟨rfl,rfl⟩:=h2;clear C2))
  refine ⟨rfl,?_⟩
  rw [HR.out]
  exact ⟨rfl,HS2.out.bad (.cons _ (.cons _ (.refl _)))⟩
 | true=>
  have HFIT:=hidI hfit
  rw [hfit] at C1
  have C2:=hidI (fun W=>must_ok (.pointer (some ⟨c.B,0,none⟩)) (n:Int) W)
  clear hfit
  go_enter Tryz.func92,Tryz.ntmps92
  go_wp2_with (first
   | (go_at_call 120;refine Calls.mono (C1.out _) ?_;intro e w1 h1;obtain ⟨rfl,hb1⟩:=h1;clear C1;have HS2:=hidI (HS1.out.on hb1))
   | (go_at_call 91;refine Calls.mono (C2.out _) ?_;intro e w2 h2;obtain ⟨rfl,rfl⟩:=h2;clear C2))
  clear HS1 sh0 sh1
  go_loopg [23] m (fun g s23 wx=>∃ j:Nat,j+g=m∧s23=.int .i64 (j:Int)∧Hid (lookAll c.l (ptL sp) ks 0=lookAll c.l (ptL sp) (ks.drop j) j)∧Hid (RdS c p (rsRow (w.heap.size+1)::shRow w.heap.size sw sp::X) wx))
  case atStart=>exact ⟨0,by omega,rfl,hidI rfl,HS2⟩
  case round=>
   obtain ⟨j,hjg,rfl,HLK,HS⟩:=hrel
   clear HS2
   cases gk with
   | zero=>
    obtain rfl:m=j:=by omega
    have k1:decide ((m:Int)<(m:Int))=false:=by simp
    have HLA:Hid (contentP c.l tk (ptL sp) n ks p.es=takesP tk (ptL sp) ks 0 ctn0 p.es):=hidI (by
     have hl:=HLK.out
     rw [List.drop_of_length_le (by have:=HM.out;omega)] at hl
     unfold contentP
     rw [HM.out,HFIT.out,hl,if_pos ⟨rfl,rfl⟩])
    clear HLK
    rename World=>W0
    have HSC:Hid (RdS c p (cRows W0.heap.size ctn0 (.slice none 0 0) (.slice none 0 0) (.slice none 0 0) (rsRow (w.heap.size+1)::shRow w.heap.size sw sp::X)) (W0.alloc (.cells #[.string ⟨#[]⟩,.int .u8 0,.bool false,.int .i64 (-1),.int .i64 (-1),.slice none 0 0,.slice none 0 0,.slice none 0 0] 170))):=hidI (by
     have h0:=HS.out
     have a0:RdS c p (cBox W0.heap.size ctn0 (.slice none 0 0) (.slice none 0 0) (.slice none 0 0)::rsRow (w.heap.size+1)::shRow w.heap.size sw sp::X) (W0.alloc (.cells #[.string ⟨#[]⟩,.int .u8 0,.bool false,.int .i64 (-1),.int .i64 (-1),.slice none 0 0,.slice none 0 0,.slice none 0 0] 170)):=RdS.more (h0.alloc _) (h0.rows.add (h0.rows.alloc _) (zcK W0 c.w0.heap.size 170 8 #[.string ⟨#[]⟩,.int .u8 0,.bool false,.int .i64 (-1),.int .i64 (-1),.slice none 0 0,.slice none 0 0,.slice none 0 0] h0.size rfl) (fun k hk=>by cases hk;exact Nat.le_refl _))
     have a1:=RdS.more a0 (a0.rows.nil 3 1)
     have a2:=RdS.more a1 (a1.rows.nil 3 1)
     have a3:=RdS.more a2 (a2.rows.nil 126 6)
     exact a3.perm (List.perm_middle (l₁:=[aRow (.slice none 0 0) [],iRow (.slice none 0 0) [],iRow (.slice none 0 0) []])))
    clear HS
    go_wp2
    obtain ⟨cb,hcb⟩:∃ cb,W0.heap.size=cb:=⟨_,rfl⟩
    rw [hcb] at HSC ⊢
    clear hcb
    go_loopg [47] m (fun g s47 wx=>∃ (j:Nat) (k:Ctn) (pj:PV) (av tv ev:Value),j+g=m∧s47=.int .i64 (j:Int)∧Hid (takesP tk (ptL sp) ks 0 ctn0 p.es=takesP tk (ptL sp) (ks.drop j) j k pj.es)∧Hid ((pj.ds,pj.dv)=(p.ds,p.dv)∧(pj.ms,pj.mv)=(p.ms,p.mv)∧k.acts.length≤j∧k.thn.length≤400+j∧NQ pj.es≤NQ p.es+((ks.take j).map c.sz).sum)∧Hid (RdS c pj (cRows cb k av tv ev (rsRow (w.heap.size+1)::shRow w.heap.size sw sp::X)) wx))
    case atStart=>exact ⟨0,ctn0,p,_,_,_,by omega,rfl,hidI rfl,hidI ⟨rfl,rfl,Nat.zero_le _,Nat.zero_le _,by simp⟩,HSC⟩
    case round=>
     obtain ⟨j,k,pj,av,tv,ev,hjg,rfl,HTP,HD,HS⟩:=hrel
     clear HSC
     cases gk with
     | zero=>
      obtain rfl:m=j:=by omega
      have k1:decide ((m:Int)<(m:Int))=false:=by simp
      have HRES:Hid (contentP c.l tk (ptL sp) n ks p.es=.ok (k,pj.es)):=hidI (by
       rw [HLA.out,HTP.out,List.drop_of_length_le (by have:=HM.out;omega)]
       rfl)
      have hS:=HS.out
      obtain ⟨aa,ac,hav⟩:=zaE hS.second.head
      obtain ⟨ta,tc,htv⟩:=zaE hS.third.head
      obtain ⟨ea,ec,hev⟩:=zaE ((hS.perm (List.perm_middle (l₁:=[cBox cb k av tv ev,aRow av k.acts,iRow tv k.thn]))).first).head
      have hav':av=.slice aa k.acts.length ac:=hav
      have htv':tv=.slice ta k.thn.length tc:=htv
      have hev':ev=.slice ea k.els.length ec:=hev
      have s0:RdS c pj (rsRow (w.heap.size+1)::cBox cb k av tv ev::aRow av k.acts::iRow tv k.thn::iRow ev k.els::shRow w.heap.size sw sp::X) wr:=hS.perm (List.perm_middle (l₁:=[cBox cb k av tv ev,aRow av k.acts,iRow tv k.thn,iRow ev k.els]))
      have HFIN:=hidI ((RdS.less (RdS.setbox (j:=7) (RdS.setbox (j:=6) (RdS.setbox (j:=5) (RdS.setbox (j:=4) (RdS.setbox (j:=3) (RdS.setbox (j:=2) (RdS.setbox (j:=1) (RdS.setbox (j:=0) s0 (.string k.name)) (.int .u8 (k.op:Int))) (.bool k.inn)) (.int .i64 k.e)) (.int .i64 k.cond)) (av)) (tv)) (ev))).sub (.cons _ (.cons_cons _ (.cons_cons _ (.cons_cons _ (.cons _ (.refl X)))))))
      have q0:=hS.ccell (j:=0) rfl
      have q1:=hS.ccell (j:=1) rfl
      have q2:=hS.ccell (j:=2) rfl
      have q3:=hS.ccell (j:=3) rfl
      have q4:=hS.ccell (j:=4) rfl
      have q5:=hS.ccell (j:=5) rfl
      have q6:=hS.ccell (j:=6) rfl
      have q7:=hS.ccell (j:=7) rfl
      have hr:=RowsP.head (r:=rsRow (w.heap.size+1)) s0.first
      have r0:=zaB hr (j:=0) rfl
      have r1:=zaB hr (j:=1) rfl
      have r2:=zaB hr (j:=2) rfl
      have r3:=zaB hr (j:=3) rfl
      have r4:=zaB hr (j:=4) rfl
      have r5:=zaB hr (j:=5) rfl
      have r6:=zaB hr (j:=6) rfl
      have r7:=zaB hr (j:=7) rfl
      have z0:=zaQ hr 0
      have z1:=zaQ hr 1
      have z2:=zaQ hr 2
      have z3:=zaQ hr 3
      have z4:=zaQ hr 4
      have z5:=zaQ hr 5
      have z6:=zaQ hr 6
      have z7:=zaQ hr 7
      rw [hav'] at q5
      rw [htv'] at q6
      rw [hev'] at q7
      rw [hav',htv',hev'] at HFIN
      clear hS s0 hr hav htv hev HS
      go_wp2
      refine bodyPost_ret (v:=cval k (.slice aa k.acts.length ac) (.slice ta k.thn.length tc) (.slice ea k.els.length ec)) ?_ rfl ?_
      ·rw [zaC rfl]
       go_simp
      ·rw [HRES.out]
       exact ⟨pj,_,_,_,rfl,rfl,HD.out.1,HD.out.2.1,HFIN.out⟩
     | succ g=>
      have k1:(j:Int)<(m:Int):=by omega
      obtain ⟨kd,hkd⟩:∃ kd,ks[j]?=some kd:=⟨_,List.getElem?_eq_getElem (by have:=HM.out;omega)⟩
      have hkl2:=HLT.out kd (List.mem_of_getElem? hkd)
      obtain ⟨_,a',cap',hav,hcell⟩:=HS.out.seesK HK.out
      rw [HM.out] at hav
      cases hav
      rcases hcell with h0|⟨b,o,rfl,hcell⟩
      ·have:=HM.out;omega
      have x0:=hcell j _ (ints_get hkd)
      have h0:0<sp.size:=by
       have:=most_pos HFIT.out (by omega)
       rwa [ptL_len] at this
      have HN1:=hidI (fun W=>HNth.out j W h0)
      have sh0:=zaB (RowsP.head (r:=shRow w.heap.size sw sp) (HS.out.perm (List.perm_middle (l₁:=[cBox cb k av tv ev,aRow av k.acts,iRow tv k.thn,iRow ev k.els,rsRow (w.heap.size+1)]))).first) (j:=0) rfl
      have sh1:=zaB (RowsP.head (r:=shRow w.heap.size sw sp) (HS.out.perm (List.perm_middle (l₁:=[cBox cb k av tv ev,aRow av k.acts,iRow tv k.thn,iRow ev k.els,rsRow (w.heap.size+1)]))).first) (j:=1) rfl
      have hbud:NQ pj.es+c.sz kd≤1000:=by
       have a1:=HD.out.2.2.2.2
       have a2:=take_sum_le c.sz ks j kd hkd
       have:=HNN.out
       omega
      have C:=hidI (fun W hW=>HHT.out.call j kd hkd (by rw [ptL_len];exact h0) pj (rsRow (w.heap.size+1)::shRow w.heap.size sw sp::X) k av tv ev W cb hW hbud (by have:=HD.out.2.2.1;omega) (by have:=HD.out.2.2.2.1;omega))
      have HTD:=hidI (takesP_drop tk (ptL sp) ks j j kd k pj.es hkd)
      have HTS:Hid (((ks.take (j+1)).map c.sz).sum=((ks.take j).map c.sz).sum+c.sz kd):=hidI (by rw [List.take_add_one,hkd];simp)
      clear hcell hkd h0 hbud
      cases hr:tk k kd (nthP (ptL sp) j) pj.es with
      | error q=>
       have HRES:Hid (contentP c.l tk (ptL sp) n ks p.es=.error q):=hidI (by rw [HLA.out,HTP.out,HTD.out,hr])
       rw [hr] at C
       clear hr HTD
       go_wp2_with (first
        | (go_at_call 122;refine Calls.mono (HN1.out _) ?_;intro e w3 h3;obtain ⟨rfl,hb3⟩:=h3;clear HN1;have HS3:=hidI (HS.out.on hb3))
        | (go_at_call 123;refine Calls.mono (C.out _ HS3.out) ?_;intro e w4 h4;obtain ⟨rfl,hb4⟩:=h4;clear C))
       refine ⟨rfl,?_⟩
       rw [HRES.out]
       exact ⟨rfl,hb4.sub (.cons _ (.cons _ (.refl _)))⟩
      | ok z=>
       obtain ⟨k',q⟩:=z
       have HTP2:Hid (takesP tk (ptL sp) ks 0 ctn0 p.es=takesP tk (ptL sp) (ks.drop (j+1)) (j+1) k' q):=hidI (by rw [HTP.out,HTD.out,hr])
       have HG:=hidI (HHT.out.grow _ _ _ _ _ _ hkl2 hr)
       have HBD:=hidI (HHT.out.bd _ _ _ _ _ _ hkl2 hr)
       rw [hr] at C
       clear hr HTD HTP
       go_wp2_with (first
        | (go_at_call 122;refine Calls.mono (HN1.out _) ?_;intro e w3 h3;obtain ⟨rfl,hb3⟩:=h3;clear HN1;have HS3:=hidI (HS.out.on hb3))
        | (go_at_call 123;refine Calls.mono (C.out _ HS3.out) ?_;intro e w4 h4;obtain ⟨rfl,hb4⟩:=h4;clear C;refine Hid.out ?_))
       obtain ⟨p4,av4,tv4,ev4,hes4,hds4,hms4,hS4⟩:=hb4
       have HS4:=hidI hS4
       have HTP4:Hid (takesP tk (ptL sp) ks 0 ctn0 p.es=takesP tk (ptL sp) (ks.drop (j+1)) (j+1) k' p4.es):=hidI (by rw [hes4];exact HTP2.out)
       have HD4:Hid ((p4.ds,p4.dv)=(p.ds,p.dv)∧(p4.ms,p4.mv)=(p.ms,p.mv)∧k'.acts.length≤j+1∧k'.thn.length≤400+(j+1)∧NQ p4.es≤NQ p.es+((ks.take (j+1)).map c.sz).sum):=hidI (by
        obtain ⟨i1,i2,i3,i4,i5⟩:=HD.out
        obtain ⟨g1,g2⟩:=HG.out
        have b1:=HBD.out
        refine ⟨hds4.trans i1,hms4.trans i2,by omega,by omega,?_⟩
        rw [HTS.out,hes4]
        omega)
       clear hes4 hds4 hms4 hS4 HTP2 HG HBD HTS HD HS HS3 hb3 x0 sh0 sh1
       refine hidI ?_
       go_wp2
       go_roundg g
       case measure=>omega
       case rel=>exact ⟨j+1,k',p4,av4,tv4,ev4,by omega,by go_num,HTP4,HD4,HS4⟩
   | succ g=>
    have k1:(j:Int)<(m:Int):=by omega
    obtain ⟨kd,hkd⟩:∃ kd,ks[j]?=some kd:=⟨_,List.getElem?_eq_getElem (by have:=HM.out;omega)⟩
    have hkl2:=HLT.out kd (List.mem_of_getElem? hkd)
    obtain ⟨y,hy⟩:∃ y,c.fs[kd]?=some y:=⟨_,List.getElem?_eq_getElem hkl2⟩
    obtain ⟨fg,fo,fc,hfv,d0,d1,d2,d3,d4⟩:=hc.form HS.out.drew.below hy
    have HB5:=hidI (HS.out.drew.cell (j:=5) (u:=c.fv) rfl)
    rw [hfv] at HB5
    obtain ⟨_,a',cap',hav,hcell⟩:=HS.out.seesK HK.out
    rw [HM.out] at hav
    cases hav
    rcases hcell with h0|⟨b,o,rfl,hcell⟩
    ·have:=HM.out;omega
    have x0:=hcell j _ (ints_get hkd)
    have h0:0<sp.size:=by
     have:=most_pos HFIT.out (by omega)
     rwa [ptL_len] at this
    have HFY:Hid (frm c.l kd=y.1):=hidI (Cx.frm_at hy)
    have HLD:=hidI (lookAll_drop c.l (ptL sp) ks j j kd hkd)
    have HSB:=RowsP.head (r:=shRow w.heap.size sw sp) HS.out.drew.less.first
    have HS0:=hidI (zaB HSB (j:=0) rfl)
    have HS1:=hidI (zaB HSB (j:=1) rfl)
    have HDC:=hidI (And.intro d0 (And.intro d1 (And.intro d2 (And.intro d3 d4))))
    have HN1:=hidI (fun W=>HNth.out j W h0)
    have HE:Hid ((kd:Int)<(c.fs.length:Int)∧(0:Int)≤(kd:Int)):=hidI (by omega)
    have HON:Hid (∀ W,Below wr.drew.heap.size wr.drew W→RdS c p (rsRow (w.heap.size+1)::shRow w.heap.size sw sp::X) W):=hidI (fun W hW=>HS.out.drew.on hW)
    have HLO:Hid (∀ W,Below wr.drew.heap.size wr.drew W→Calls Tryz.prog 121 #[.pointer (some ⟨c.B,0,none⟩),fval y,.int .i32 (nthP (ptL sp) j:Int)] W fun e w'=>e=.returned (.bool (looksP y.1 (nthP (ptL sp) j)))∧Below wr.drew.heap.size wr.drew w'):=hidI (fun W hW=>(looks_any hc (HON.out W hW) hy (nthP (ptL sp) j)).mono fun e w' h=>⟨h.1,hW.trans (h.2.mono hW.size)⟩)
    clear d0 d1 d2 d3 d4 hcell hkd hy hfv HSB h0 hkl2
    obtain ⟨r,hr⟩:∃ r,looksP y.1 (nthP (ptL sp) j)=r:=⟨_,rfl⟩
    rw [hr] at HLO
    cases r with
    | true=>
     have HLK2:Hid (lookAll c.l (ptL sp) ks 0=lookAll c.l (ptL sp) (ks.drop (j+1)) (j+1)):=hidI (by rw [HLK.out,HLD.out,HFY.out,hr,Bool.true_and])
     clear HLK HLD hr
     go_wp2
     refine regC (B:=c.B) (sb:=w.heap.size) (g:=fg) (o:=fo) (fl:=c.fs.length) (fc:=fc) (kid:=kd) (r:=true) (pc:=(nthP (ptL sp) j:Int)) HB5.out HDC.out.1 HDC.out.2.1 HDC.out.2.2.1 HDC.out.2.2.2.1 HDC.out.2.2.2.2 HS0.out HS1.out HE.out.1 HE.out.2 (Below.refl _ _) HN1 HLO (hidI fun W hW=>(must_ok _ _ W).mono fun e w' h=>.inl ⟨h.1,h.2▸hW,rfl⟩) (fun _ _ _ _ _ h=>h) (hidI ?_)
     intro W t28 t29 t30 t31 t32 t33 t34 t35 t36 t37 t38 t39 t40 t41 t42 _ hW
     have HSW:=hidI (HON.out W hW)
     clear hW
     go_wp2
     go_roundg g
     case measure=>omega
     case rel=>exact ⟨j+1,by omega,by go_num,HLK2,HSW⟩
    | false=>
     have HR:Hid (contentP c.l tk (ptL sp) n ks p.es=.error x.1.p):=hidI (by
      have:lookAll c.l (ptL sp) ks 0=false:=by rw [HLK.out,HLD.out,HFY.out,hr,Bool.false_and]
      unfold contentP
      rw [this,if_neg (by simp),HFX.out])
     clear HLK HLD hr
     go_wp2
     refine regC (B:=c.B) (sb:=w.heap.size) (g:=fg) (o:=fo) (fl:=c.fs.length) (fc:=fc) (kid:=kd) (r:=false) (pc:=(nthP (ptL sp) j:Int)) HB5.out HDC.out.1 HDC.out.2.1 HDC.out.2.2.1 HDC.out.2.2.2.1 HDC.out.2.2.2.2 HS0.out HS1.out HE.out.1 HE.out.2 (Below.refl _ _) HN1 HLO (hidI fun W hW=>(zcV hc (HON.out W hW) HX.out).mono fun e w' h=>.inr ⟨_,h.1,fun a ha=>⟨ha,by rw [HR.out];exact ⟨rfl,h.2▸(HON.out W hW).bad (.cons _ (.cons _ (.refl _)))⟩⟩⟩) (fun _ _ _ _ _ h=>h) (hidI ?_)
     intro W t28 t29 t30 t31 t32 t33 t34 t35 t36 t37 t38 t39 t40 t41 t42 hr
     cases hr
section
variable {c : Cx} {p : PV} {X : List Rw} {w w' : World} {u : Value}
theorem perm_app5 {α:Type} (b d x s m:α) (L:List α):(b::d::x::s::m::L).Perm (x::b::d::s::m::L):=List.perm_middle (l₁:=[b,d])
theorem perm_app5s {α:Type} (b d x s m:α) (L:List α):(b::d::x::s::m::L).Perm (s::b::d::x::m::L):=List.perm_middle (l₁:=[b,d,x])
theorem perm_app5d {α:Type} (b d x s m:α) (L:List α):(b::d::x::s::m::L).Perm (d::b::x::s::m::L):=List.perm_middle (l₁:=[b])
theorem perm_app5m {α:Type} (b d x s m:α) (L:List α):(b::d::x::s::m::L).Perm (m::b::d::x::s::L):=List.perm_middle (l₁:=[b,d,x,s])
theorem rows_swap {B e size j:Nat} {r r':Rw} {bs:List Value} {L:List Rw} {base:Nat} (h:RowsP w base (r::⟨bx B,e,size,1,bs⟩::L)) (hg:w.grownBy w' r.v.ownBlock) (ho:Own w' base r') (hb:r'.v.ownBlock=r.v.ownBlock∨r'.v.ownBlock=some w.heap.size):RowsP (w'.setCell ⟨B,j,none⟩ r'.v) base (⟨bx B,e,size,1,bs.set j r'.v⟩::r'::L):=by
 have h1:=h.put hg ho (.inr hb)
 exact (h1.perm (List.Perm.swap _ _ _)).setc (g:=B) (cap:=1) (j:=j) rfl r'.v
theorem below_swap {n:Nat} {r r':Rw} {base:Nat} {B j:Nat} {L:List Rw} {w0:World} (hb:Below w0.heap.size w0 w) (h:RowsP w w0.heap.size (r::L)) (hg:w.grownBy w' r.v.ownBlock) (hB:w0.heap.size≤B) (_:n=n) (_:base=base) (_:r'=r') (v:Value):Below w0.heap.size w0 (w'.setCell ⟨B,j,none⟩ v):=
 (hb.grown hg hb.size (fun k hk=>(h.head.lt k hk).1)).setCell hB v
theorem RdS.xown (h:RdS c p X w):RowsP w c.w0.heap.size (xRow p::boxRow c p::dRow p::sRow p::mRow p::((p.xs.map kRow++p.ss.flatMap sRows)++X)):=h.rows.perm (perm_app5 _ _ _ _ _ _)
theorem RdS.sown (h:RdS c p X w):RowsP w c.w0.heap.size (sRow p::boxRow c p::dRow p::xRow p::mRow p::((p.xs.map kRow++p.ss.flatMap sRows)++X)):=h.rows.perm (perm_app5s _ _ _ _ _ _)
theorem RdS.down (h:RdS c p X w):RowsP w c.w0.heap.size (dRow p::boxRow c p::xRow p::sRow p::mRow p::((p.xs.map kRow++p.ss.flatMap sRows)++X)):=h.rows.perm (perm_app5d _ _ _ _ _ _)
theorem RdS.mown (h:RdS c p X w):RowsP w c.w0.heap.size (mRow p::boxRow c p::dRow p::xRow p::sRow p::((p.xs.map kRow++p.ss.flatMap sRows)++X)):=h.rows.perm (perm_app5m _ _ _ _ _ _)
theorem perm_kid {α:Type} (A Bs X:List α) (r:α):((A++Bs)++r::X).Perm (((A++[r])++Bs)++X):=by
 have h1:((A++Bs)++r::X).Perm (r::((A++Bs)++X)):=List.perm_middle
 have h2:(((A++[r])++Bs)++X).Perm (r::((A++Bs)++X)):=by
  have:((A++[r])++Bs)++X=A++r::(Bs++X):=by simp
  rw [this,List.append_assoc]
  exact List.perm_middle
 exact h1.trans h2.symm
theorem RdS.addX {x:Exp} {kv:Value} (h:RdS c p (iRow kv x.kids::X) w) (hg:w.grownBy w' p.xv.ownBlock) (ho:w'.ownsRow c.w0.heap.size 190 6 u (p.xs.length+1) (flatX p.xs++xcells (x,kv))) (hb:u.ownBlock=p.xv.ownBlock∨u.ownBlock=some w.heap.size):RdS c { p with xs:=p.xs++[(x,kv)],xv:=u } X (w'.setCell ⟨c.B,7,none⟩ u):=by
 have h1:=rows_swap (j:=7) (r':=xRow { p with xs:=p.xs++[(x,kv)],xv:=u }) h.xown hg (by
  show w'.ownsRow c.w0.heap.size 190 6 u (p.xs++[(x,kv)]).length (flatX (p.xs++[(x,kv)]))
  rw [List.length_append,flatX_snoc]
  exact ho) hb
 refine ⟨below_swap (n:=0) (base:=0) (r':=xRow p) h.below h.xown hg h.lt.1 rfl rfl rfl u,?_⟩
 have h2:=h1.perm ((List.perm_middle (l₁:=[dRow p]) (a:=xRow { p with xs:=p.xs++[(x,kv)],xv:=u })).symm.cons _)
 refine h2.perm (.cons _ (.cons _ (.cons _ (.cons _ (.cons _ ?_)))))
 have:=perm_kid (p.xs.map kRow) (p.ss.flatMap sRows) X (iRow kv x.kids)
 simpa [kRow,iRow] using this
theorem RdS.addS {s:SV} (h:RdS c p (aRow s.av s.s.acts::iRow s.tv s.s.thn::iRow s.ev s.s.els::X) w) (hg:w.grownBy w' p.sv.ownBlock) (ho:w'.ownsRow c.w0.heap.size 78 8 u (p.ss.length+1) (flatS p.ss++scells s)) (hb:u.ownBlock=p.sv.ownBlock∨u.ownBlock=some w.heap.size):RdS c { p with ss:=p.ss++[s],sv:=u } X (w'.setCell ⟨c.B,8,none⟩ u):=by
 have h1:=rows_swap (j:=8) (r':=sRow { p with ss:=p.ss++[s],sv:=u }) h.sown hg (by
  show w'.ownsRow c.w0.heap.size 78 8 u (p.ss++[s]).length (flatS (p.ss++[s]))
  rw [List.length_append,flatS_snoc]
  exact ho) hb
 refine ⟨below_swap (n:=0) (base:=0) (r':=sRow p) h.below h.sown hg h.lt.1 rfl rfl rfl u,?_⟩
 have h2:=h1.perm ((List.perm_middle (l₁:=[dRow p,xRow p]) (a:=sRow { p with ss:=p.ss++[s],sv:=u })).symm.cons _)
 refine h2.perm (.cons _ (.cons _ (.cons _ (.cons _ (.cons _ ?_)))))
 simp [sRows,iRow,aRow]
theorem RdS.addD {d:Dcl} (h:RdS c p X w) (hg:w.grownBy w' p.dv.ownBlock) (ho:w'.ownsRow c.w0.heap.size 56 3 u (p.ds.length+1) (flatD p.ds++dcells d)) (hb:u.ownBlock=p.dv.ownBlock∨u.ownBlock=some w.heap.size):RdS c { p with ds:=p.ds++[d],dv:=u } X (w'.setCell ⟨c.B,6,none⟩ u):=by
 have h1:=rows_swap (j:=6) (r':=dRow { p with ds:=p.ds++[d],dv:=u }) h.down hg (by
  show w'.ownsRow c.w0.heap.size 56 3 u (p.ds++[d]).length (flatD (p.ds++[d]))
  rw [List.length_append,flatD_snoc]
  exact ho) hb
 exact ⟨below_swap (n:=0) (base:=0) (r':=dRow p) h.below h.down hg h.lt.1 rfl rfl rfl u,h1⟩
theorem RdS.addM {i:Int} (h:RdS c p X w) (hg:w.grownBy w' p.mv.ownBlock) (ho:w'.ownsRow c.w0.heap.size 3 1 u (p.ms.length+1) (intsI p.ms++[.int .i64 i])) (hb:u.ownBlock=p.mv.ownBlock∨u.ownBlock=some w.heap.size):RdS c { p with ms:=p.ms++[i],mv:=u } X (w'.setCell ⟨c.B,9,none⟩ u):=by
 have h1:=rows_swap (j:=9) (r':=mRow { p with ms:=p.ms++[i],mv:=u }) h.mown hg (by
  show w'.ownsRow c.w0.heap.size 3 1 u (p.ms++[i]).length (intsI (p.ms++[i]))
  rw [List.length_append]
  simpa [intsI] using ho) hb
 refine ⟨below_swap (n:=0) (base:=0) (r':=mRow p) h.below h.mown hg h.lt.1 rfl rfl rfl u,?_⟩
 exact h1.perm ((List.perm_middle (l₁:=[dRow p,xRow p,sRow p]) (a:=mRow { p with ms:=p.ms++[i],mv:=u })).symm.cons _)
theorem box_apart {r:Rw} {L:List Rw} (h:RowsP w c.w0.heap.size (r::boxRow c p::L)):r.v.ownBlock≠some c.B:=by
 rcases h.far_head (boxRow c p) (by simp) with e|e
 ·rw [e];simp
 ·exact e
end
theorem grow_take {c:Cx} (hc:c.Ok) {ex st:RdE Int} {ac:RdE Actn} {k k':Ctn} {kid part:Nat} {q q':ES} (hk:kid<c.fs.length) (e:takeP c.l ex ac st k kid part q=.ok (k',q')):k'.acts.length≤k.acts.length+1∧(k'.thn.length≤k.thn.length+1∨k'.thn.length≤400):=by
 have hkl:(frm c.l kid).kids.length≤400:=by
  have hx:=List.getElem?_eq_getElem hk
  rw [Cx.frm_at hx]
  exact hc.kidlen kid _ hx
 unfold takeP at e
 repeat' split at e
 all_goals first
  | (cases e;done)
  | (rename_i hh;simp only [Except.ok.injEq,Prod.mk.injEq] at e;obtain ⟨rfl,_⟩:=e;refine ⟨by simp,?_⟩;right;simp only;rw [rows_len _ _ _ _ hh];exact hkl)
  | (simp only [Except.ok.injEq,Prod.mk.injEq] at e;obtain ⟨rfl,_⟩:=e;refine ⟨by simp,?_⟩;left;simp;done)
def Lts:List Nat:=[110,111,119,101,99,97,116,102,115]
theorem nth_mem {ps:List Nat} (h:0<ps.length) (i:Nat):nthP ps i∈ps:=by
 unfold nthP
 rw [List.getD_eq_getElem?_getD,List.getElem?_eq_getElem (by omega)]
 exact List.getElem_mem _
theorem tk_take {c:Cx} (hc:c.Ok) {ex st:RdE Int} {ac:RdE Actn} {ps ks:List Nat} (hp:∀ x∈ps,x∈Lts) (hks:∀ k∈ks,k<c.fs.length) (b1:Bd c ex) (b2:Bd c ac) (b3:Bd c st)
  (he:(101∈ps∨99∈ps)→∀ k∈ks,RC c 148 k rI ex) (ha:97∈ps→∀ k∈ks,RC c 149 k rA ac) (hs:115∈ps→∀ k∈ks,RC c 93 k rI st) (ht:(116∈ps∨102∈ps)→∀ k∈ks,∀ m∈(frm c.l k).kids,RC c 93 m rI st):TK c (takeP c.l ex ac st) ps ks where
 grow:=fun k k' kid part q q' hk e=>grow_take hc hk e
 bd:=fun k k' kid part q q' hk e=>bd_take hc b1 b2 b3 hk e
 call:=by
  intro i kid hi h0 p X k av tv ev w cb hS hN h1 h2
  have hmem:=nth_mem h0 i
  have hkm:=List.mem_of_getElem? hi
  have hkl:=hks kid hkm
  have hL:=hp _ hmem
  obtain ⟨q,hq⟩:∃ q,nthP ps i=q:=⟨_,rfl⟩
  rw [hq] at hmem hL
  rw [hq]
  simp only [Lts,List.mem_cons,List.not_mem_nil,or_false] at hL
  rcases hL with rfl|rfl|rfl|rfl|rfl|rfl|rfl|rfl|rfl
  ·exact take_n hc hS hkl
  ·exact take_o hc hS hkl
  ·exact take_w hc hS hkl
  ·exact take_e hc hS hkl (he (.inl hmem) kid hkm) hN
  ·exact take_c hc hS hkl (he (.inr hmem) kid hkm) hN
  ·exact take_a hc hS hkl (ha hmem kid hkm) hN h1
  ·exact take_t hc hS hkl (ht (.inl hmem) kid hkm) b3 hN
  ·exact take_f hc hS hkl (ht (.inr hmem) kid hkm) b3 hN
  ·exact take_s hc hS hkl (hs hmem kid hkm) hN h2
def pWrit (l:List Frm) (f n:Nat) (q:ES):Except Int (Exp × ES):=
 if (frm l n).k=4 then .ok (⟨1,1,0,emptyS,(frm l n).n,[]⟩,q)
 else if (frm l n).s=⟨#[116,114,117,101]⟩ then .ok (⟨1,2,0,emptyS,1,[]⟩,q)
 else if (frm l n).s=⟨#[102,97,108,115,101]⟩ then .ok (⟨1,2,0,emptyS,0,[]⟩,q)
 else if nmOk (frm l n).s=true then .ok (⟨2,0,0,(frm l n).s,0,[]⟩,q)
 else if opOf (brkW l n)≠0 then
  if (brkK l n).length≠arityN (opOf (brkW l n)) then .error (frm l n).p
  else match rows (pExpr l f) (brkK l n) q with
   | .error p=>.error p
   | .ok (is,q')=>.ok (⟨10,0,opOf (brkW l n),emptyS,0,is⟩,q')
 else if exprOf (brkW l n)=0 then .error (frm l n).p
 else match contentP l (takeP l (noE l) (noE l) (noE l)) (exprSh (exprOf (brkW l n))) n (brkK l n) q with
  | .error p=>.error p
  | .ok (c,q')=>.ok (⟨exprOf (brkW l n),0,0,c.name,if c.inn=true then 1 else 0,[]⟩,q')
theorem pExpr_succ (l:List Frm) (f n:Nat) (q:ES):pExpr l (f+1) n q=(match pWrit l f n q with|.error p=>.error p|.ok (x,q')=>addX q' x):=by
 simp only [pExpr,pWrit]
 by_cases h1:(frm l n).k=4
 ·simp only [if_pos h1]
 simp only [if_neg h1]
 by_cases h2:(frm l n).s=⟨#[116,114,117,101]⟩
 ·simp only [if_pos h2]
 simp only [if_neg h2]
 by_cases h3:(frm l n).s=⟨#[102,97,108,115,101]⟩
 ·simp only [if_pos h3]
 simp only [if_neg h3]
 by_cases h4:nmOk (frm l n).s=true
 ·simp only [if_pos h4]
 simp only [if_neg h4]
 by_cases h5:opOf (brkW l n)≠0
 ·simp only [if_pos h5]
  by_cases h6:(brkK l n).length≠arityN (opOf (brkW l n))
  ·simp only [if_pos h6]
  simp only [if_neg h6]
  cases rows (pExpr l f) (brkK l n) q with
  | error e=>rfl
  | ok y=>rfl
 simp only [if_neg h5]
 by_cases h6:exprOf (brkW l n)=0
 ·simp only [if_pos h6]
 simp only [if_neg h6]
 cases contentP l (takeP l (noE l) (noE l) (noE l)) (exprSh (exprOf (brkW l n))) n (brkK l n) q with
 | error e=>rfl
 | ok y=>rfl
abbrev xval (x:Exp) (kv:Value):Value:=.agg #[.int .u8 (x.k:Int),.int .u8 (x.of:Int),.int .u8 (x.op:Int),.string x.name,.int .i64 x.num,kv]
def WrPost (c:Cx) (X:List Rw) (p:PV) (r:Except Int (Exp × ES)) (e:Ending) (w':World):Prop:=
 match r with
 | .error q=>e=.panicked (flt2 q)∧Bad c X w'
 | .ok (x,q)=>∃ p' kv,e=.returned (xval x kv)∧p'.es=q∧(p'.ds,p'.dv)=(p.ds,p.dv)∧(p'.ms,p'.mv)=(p.ms,p.mv)∧RdS c p' (iRow kv x.kids::X) w'
theorem brkW_sz {c:Cx} (hc:c.Ok) {n:Nat} (hn:n<c.fs.length):(brkW c.l n).size≤140737488355328:=by
 have hx:=List.getElem?_eq_getElem hn
 unfold brkW
 rw [Cx.frm_at hx]
 split
 ·decide
 ·rename_i m r h
  have hm:=(hc.kidlt n _ hx m (by rw [h];simp)).2
  rw [Cx.frm_at (List.getElem?_eq_getElem hm)]
  exact hc.txt m _ (List.getElem?_eq_getElem hm)
def xBox (rb:Nat):Rw:=⟨bx rb,190,6,1,[.int .u8 0,.int .u8 0,.int .u8 0,.string ⟨#[]⟩,.int .i64 0,.slice none 0 0]⟩
theorem RdS.nil {c:Cx} {p:PV} {X:List Rw} {w:World} (h:RdS c p X w):RdS c p (iRow (.slice none 0 0) []::X) w:=RdS.more h (h.rows.nil 3 1)
theorem exprSh_asc (k:Nat) (h1:1≤k) (h2:k≤10):(∀ (i:Nat) (h:i<(exprPt k).size),((exprPt k)[i]'h).toNat<128)∧(exprPt k).size≤10∧ptL (exprPt k)=exprSh k∧(∀ x∈exprSh k,x∈Lts)∧¬ (101∈exprSh k∨99∈exprSh k)∧¬ 97∈exprSh k∧¬ 115∈exprSh k∧¬ (116∈exprSh k∨102∈exprSh k):=by
 have hm:k=1∨k=2∨k=3∨k=4∨k=5∨k=6∨k=7∨k=8∨k=9∨k=10:=by omega
 rcases hm with rfl|rfl|rfl|rfl|rfl|rfl|rfl|rfl|rfl|rfl<;>refine ⟨by decide,by decide,by decide +kernel,by decide,by decide,by decide,by decide,by decide⟩
set_option maxHeartbeats 2000000 in
theorem zdK {c:Cx} (hc:c.Ok) {f:Nat} {p:PV} {X:List Rw} {w:World} (h:RdS c p X w) {n:Nat} (hn:n<c.fs.length) (hlit:(frm c.l n).k=4∨(frm c.l n).s=⟨#[116,114,117,101]⟩∨(frm c.l n).s=⟨#[102,97,108,115,101]⟩∨nmOk (frm c.l n).s=true) :
  Calls Tryz.prog 171 #[.pointer (some ⟨c.B,0,none⟩),.int .i64 (n:Int)] w (WrPost c X p (pWrit c.l f n p.es)):=by
 obtain ⟨x,hx⟩:∃ x,c.fs[n]?=some x:=⟨_,List.getElem?_eq_getElem hn⟩
 have hs:=hc.txt n x hx
 have hfx:=Cx.frm_at hx
 have hkid:=(hc.kid n x hx).1
 obtain ⟨g,o,cap,hv,c0,c1,c2,c3,c4⟩:=hc.form (h.alloc (.cells #[.int .u8 0,.int .u8 0,.int .u8 0,.string ⟨#[]⟩,.int .i64 0,.slice none 0 0] 190)).below hx
 have b5:=(h.alloc (.cells #[.int .u8 0,.int .u8 0,.int .u8 0,.string ⟨#[]⟩,.int .i64 0,.slice none 0 0] 190)).cell (j:=5) (u:=c.fv) rfl
 rw [hv] at b5
 have e1:(n:Int)<(c.fs.length:Int):=by omega
 have e2:(0:Int)≤(n:Int):=by omega
 have HX:=hidI hx
 obtain ⟨⟨xk,xs,xn,xks,xp⟩,kv⟩:=x
 simp only at hs c0 c1 c2 c3 c4 hfx hkid
 obtain ⟨_,ka,kc,hkv,_⟩:=hkid
 subst hkv
 have HS:=hidI hs
 have HH:=hidI h
 have HFX:=hidI hfx
 have hBlt:=h.lt
 have hsz:=h.size
 clear hv hfx h hx hs
 rw [HFX.out] at hlit
 simp only at hlit
 by_cases h1:xk=4
 ·have HR:Hid (pWrit c.l f n p.es=.ok (⟨1,1,0,emptyS,xn,[]⟩,p.es)):=hidI (by simp [pWrit,HFX.out,h1])
  subst h1
  clear hlit
  go_enter Tryz.func171,Tryz.ntmps171
  go_wp2
  refine bodyPost_ret (v:=xval ⟨1,1,0,emptyS,xn,[]⟩ (.slice none 0 0)) ?_ rfl ?_
  ·rw [zaC rfl]
   (go_simp<;>first|done|rfl|exact ⟨rfl,rfl⟩)
  ·rw [HR.out]
   exact ⟨p,_,rfl,rfl,rfl,rfl,(HH.out.on (by exact belowT)).nil⟩

 have d1:(xk==4)=false:=by simpa using h1
 have bt:=zbW xs ⟨#[116,114,117,101]⟩
 have bf:=zbW xs ⟨#[102,97,108,115,101]⟩
 have lt_:(⟨#[116,114,117,101]⟩:ByteArray).toList=[116,114,117,101]:=by decide +kernel
 have lf_:(⟨#[102,97,108,115,101]⟩:ByteArray).toList=[102,97,108,115,101]:=by decide +kernel
 rw [lt_] at bt
 rw [lf_] at bf
 have CW1:=hidI (fun W=>asWord_any true W)
 have CW0:=hidI (fun W=>asWord_any false W)
 by_cases h2:xs=⟨#[116,114,117,101]⟩
 ·have HR:Hid (pWrit c.l f n p.es=.ok (⟨1,2,0,emptyS,1,[]⟩,p.es)):=hidI (by simp [pWrit,HFX.out,h1,h2])
  rw [decide_eq_true h2] at bt
  clear hlit h1 h2 bf lt_ lf_ CW0
  go_enter Tryz.func171,Tryz.ntmps171
  go_wp2_with (go_at_call 184;refine Calls.mono (CW1.out _) ?_;intro e w1 h1;obtain ⟨rfl,rfl⟩:=h1;clear CW1)
  refine bodyPost_ret (v:=xval ⟨1,2,0,emptyS,1,[]⟩ (.slice none 0 0)) ?_ rfl ?_
  ·rw [zaC rfl]
   (go_simp<;>first|done|rfl|exact ⟨rfl,rfl⟩)
  ·rw [HR.out]
   exact ⟨p,_,rfl,rfl,rfl,rfl,(HH.out.on (by exact belowT)).nil⟩
 by_cases h3:xs=⟨#[102,97,108,115,101]⟩
 ·have HR:Hid (pWrit c.l f n p.es=.ok (⟨1,2,0,emptyS,0,[]⟩,p.es)):=hidI (by simp [pWrit,HFX.out,h1,h3])
  rw [decide_eq_false h2] at bt
  rw [decide_eq_true h3] at bf
  clear hlit h1 h2 h3 lt_ lf_ CW1
  go_enter Tryz.func171,Tryz.ntmps171
  go_wp2_with (go_at_call 184;refine Calls.mono (CW0.out _) ?_;intro e w1 h1;obtain ⟨rfl,rfl⟩:=h1;clear CW0)
  refine bodyPost_ret (v:=xval ⟨1,2,0,emptyS,0,[]⟩ (.slice none 0 0)) ?_ rfl ?_
  ·rw [zaC rfl]
   (go_simp<;>first|done|rfl|exact ⟨rfl,rfl⟩)
  ·rw [HR.out]
   exact ⟨p,_,rfl,rfl,rfl,rfl,(HH.out.on (by exact belowT)).nil⟩
 have h4:nameB xs=true:=by
  rcases hlit with h|h|h|h
  ·exact absurd h h1
  ·exact absurd h h2
  ·exact absurd h h3
  ·exact h
 have HR:Hid (pWrit c.l f n p.es=.ok (⟨2,0,0,xs,0,[]⟩,p.es)):=hidI (by simp [pWrit,HFX.out,h1,h2,h3,nmOk,h4])
 rw [decide_eq_false h2] at bt
 rw [decide_eq_false h3] at bf
 have HA:=hidI ((HH.out.alloc (.cells #[.int .u8 0,.int .u8 0,.int .u8 0,.string ⟨#[]⟩,.int .i64 0,.slice none 0 0] 190)).alloc (.cells #[.int .u8 xk,.string xs,.int .i64 xn,.slice ka xks.length kc,.int .i64 xp] 115))
 have C1:=hidI (zdE xs HS.out ((w.alloc (.cells #[.int .u8 0,.int .u8 0,.int .u8 0,.string ⟨#[]⟩,.int .i64 0,.slice none 0 0] 190)).alloc (.cells #[.int .u8 xk,.string xs,.int .i64 xn,.slice ka xks.length kc,.int .i64 xp] 115)) (hc.laid.on HA.out.below))
 rw [h4] at C1
 have C3:=hidI (fun W=>zdG xs HS.out W)
 have HTX:Hid (((w.alloc (.cells #[.int .u8 0,.int .u8 0,.int .u8 0,.string ⟨#[]⟩,.int .i64 0,.slice none 0 0] 190)).alloc (.cells #[.int .u8 xk,.string xs,.int .i64 xn,.slice ka xks.length kc,.int .i64 xp] 115)).cell? ⟨w.heap.size+1,1,none⟩=some (.string xs)):=hidI (by go_simp)
 have HRX:Hid (RdS c p (xBox w.heap.size::X) ((w.alloc (.cells #[.int .u8 0,.int .u8 0,.int .u8 0,.string ⟨#[]⟩,.int .i64 0,.slice none 0 0] 190)).alloc (.cells #[.int .u8 xk,.string xs,.int .i64 xn,.slice ka xks.length kc,.int .i64 xp] 115))):=hidI (by
  have h0:=HH.out
  exact RdS.alloc (RdS.more (h0.alloc _) (h0.rows.add (r:=xBox w.heap.size) (h0.rows.alloc _) (zcK w c.w0.heap.size 190 6 #[.int .u8 0,.int .u8 0,.int .u8 0,.string ⟨#[]⟩,.int .i64 0,.slice none 0 0] h0.size rfl) (fun k hk=>by cases hk;exact Nat.le_refl _))) _)
 clear hlit h1 h2 h3 h4 lt_ lf_ CW1 CW0
 go_enter Tryz.func171,Tryz.ntmps171
 go_wp2_with (first
  | (go_at_call 147;refine C1.out.mono ?_;intro e w1 h1;obtain ⟨rfl,hb1⟩:=h1;clear C1;have HS1:=hidI (HRX.out.on hb1);have x1:=(hb1.cell (World.block_lt_of_cell? _ _ HTX.out)).trans HTX.out)
  | (go_at_call 36;refine Calls.mono (C3.out _) ?_;intro e w3 h3;obtain ⟨rfl,hb3⟩:=h3;clear C3;refine Hid.out ?_))
 have HS3:=hidI (HS1.out.on hb3)
 have hr:=RowsP.head (r:=xBox w.heap.size) HS3.out.first
 have r0:=zaB hr (j:=0) rfl
 have z0:=zaQ hr 0
 have r1:=zaB hr (j:=1) rfl
 have z1:=zaQ hr 1
 have r2:=zaB hr (j:=2) rfl
 have z2:=zaQ hr 2
 have r3:=zaB hr (j:=3) rfl
 have z3:=zaQ hr 3
 have r4:=zaB hr (j:=4) rfl
 have z4:=zaQ hr 4
 have r5:=zaB hr (j:=5) rfl
 have z5:=zaQ hr 5
 have HFIN:=hidI (RdS.less (RdS.setbox (j:=5) (RdS.setbox (j:=4) (RdS.setbox (j:=3) (RdS.setbox (j:=2) (RdS.setbox (j:=1) (RdS.setbox (j:=0) HS3.out (.int .u8 2)) (.int .u8 0)) (.int .u8 0)) (.string xs)) (.int .i64 0)) (.slice none 0 0)))
 clear hr HS1 HS3 x1
 refine hidI ?_
 go_wp2
 refine bodyPost_ret (v:=xval ⟨2,0,0,xs,0,[]⟩ (.slice none 0 0)) ?_ rfl ?_
 ·rw [zaC rfl]
  (go_simp<;>first|done|rfl|exact ⟨rfl,rfl⟩)
 ·rw [HR.out]
  exact ⟨p,_,rfl,rfl,rfl,rfl,HFIN.out.nil⟩
end Go.Proofs.YtmekkhfohmfjkaaGreatDoor
