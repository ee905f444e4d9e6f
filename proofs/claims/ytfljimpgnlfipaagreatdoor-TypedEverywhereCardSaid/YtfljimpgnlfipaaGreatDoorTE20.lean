/-
  Part 20 of the proof: DrT7, DrT8, Catch2, PCgt, PRead, DrV0, DrV1, DrV2.
-/
import Derived.Test.YtfljimpgnlfipaaGreatDoorTE16
import Derived.Test.YtfljimpgnlfipaaGreatDoorTE19
import Derived.Test.YtfljimpgnlfipaaGreatDoorTE18
import Derived.Test.YtfljimpgnlfipaaGreatDoorTE14
import Derived.Test.YtfljimpgnlfipaaGreatDoorTE15
import Derived.Test.YtfljimpgnlfipaaGreatDoorTE17
import Derived.Test.YtfljimpgnlfipaaGreatDoorTE03
import Derived.Test.YtfljimpgnlfipaaGreatDoorTE04
namespace Go.Proofs.YtfljimpgnlfipaaGreatDoor
open Go.RowKit Go.Deep Go.MapKept
theorem DrS.els {c:Dx} {p:PV} {er:Option (Int × Int)} {r1 r2 r3 A T:Rw} {X:List Rw} {w:World} (h:DrS c p er (r1::r2::A::T::r3::X) w):DrS c p er (r2::A::T::r1::X) w:=
 (h.permX ((List.perm_middle (a:=r3) (l₁:=[r1,r2,A,T]) (l₂:=X)).trans (List.Perm.cons r3 (List.perm_middle (a:=r1) (l₁:=[r2,A,T]) (l₂:=X)).symm))).less
theorem if_end {l:List Frm} {f n k0 k1 k2:Nat} {q q6 q7:ES} {wd:ByteArray} {er4 er6 er7:Option (Int × Int)} {v4:Int} {es4:List Exp} {is is7:List Int} (hh:headF l n=some (wd,[k0,k1,k2])) (n1:wd=(⟨#[105,102]⟩:ByteArray)) (z1:(frm l k1).k=1) (z2:(frm l k2).k=1) (h2:StepR (rdExpr l (big l)) k0 none q.1 er4 v4 es4) (h3:RowsR (rdStmt l f) (frm l k1).kids er4 (es4,q.2) is er6 q6) (h4:RowsR (rdStmt l f) (frm l k2).kids er6 q6 is7 er7 q7) :
  (er7=none∧rdStmt l (f+1) n q=addS q7 ⟨4,emptyS,0,v4, -1,[],is,is7⟩)∨∃ a,er7=some (a,8)∧rdStmt l (f+1) n q=.error a:=by
 have hr:rdStmt l (f+1) n q=(match rdE l k0 q.1 with
   | .error p=>Except.error p
   | .ok (e,es1)=>match rows (rdStmt l f) (frm l k1).kids (es1,q.2) with
    | .error p=>.error p
    | .ok (t,q2)=>match rows (rdStmt l f) (frm l k2).kids q2 with
     | .error p=>.error p
     | .ok (u,q3)=>addS q3 ⟨4,emptyS,0,e, -1,[],t,u⟩):=by
  have nn:∀ {b:ByteArray} {P:Prop},(⟨#[105,102]⟩:ByteArray)≠b→¬ (wd=b∧P):=fun hw h=>hw (n1.symm.trans h.1)
  simp only [rdStmt,hh];rw [if_neg (nn (by decide)),if_neg (nn (by decide)),if_neg (nn (by decide)),if_pos ⟨n1,rfl,z1,z2⟩];rfl
 rw [hr];simp only [StepR] at h2;unfold rdE;cases he:rdExpr l (big l) k0 q.1 with
 | error a=>
  rw [he] at h2;simp only at h2;subst h2;simp only [RowsR] at h3;subst h3;exact .inr ⟨a,h4,rfl⟩
 | ok r=>
  obtain ⟨e,es1⟩:=r;rw [he] at h2;obtain ⟨rfl,rfl,rfl⟩:=h2;rcases h3.end with ⟨rfl,ht⟩|⟨a,rfl,ht⟩
  ·rcases h4.end with ⟨rfl,hu⟩|⟨a,rfl,hu⟩
   ·exact .inl ⟨rfl,by simp only;rw [ht];simp only;rw [hu]⟩
   ·exact .inr ⟨a,rfl,by simp only;rw [ht];simp only;rw [hu]⟩
  ·simp only [RowsR] at h4;exact .inr ⟨a,h4,by simp only;rw [ht]⟩
set_option maxRecDepth 100000 in
set_option maxHeartbeats 16000000 in
theorem dstmt_if {c:Dx} (hc:c.Ok) {f n:Nat} (hn:n<c.fs.length) {p:PV} {X:List Rw} {w:World} (h:DrS c p none X w) (hN:p.many+c.sz n≤999) {wd:ByteArray} {k0 k1 k2:Nat} (IH1:∀ k∈(frm c.l k1).kids,DS2 c f k) (IH2:∀ k∈(frm c.l k2).kids,DS2 c f k) (hh:headF c.l n=some (wd,[k0,k1,k2])) (n1:wd=(⟨#[105,102]⟩:ByteArray)) (hzk1:(frm c.l k1).k=1) (hzk2:(frm c.l k2).k=1) :
  Calls Tryz.prog 56 #[.pointer (some ⟨c.B,0,none⟩),.int .i64 (n:Int)] w (DsPost c p X (f+1) n):=by
 have HN:=hidI hN;have hz:=hc.kids_sz hn;have HZ:=hidI hz;have HZ1:Hid (1≤c.sz n):=hidI (by omega);have hkl:=hc.kids_lt hn;have e1:(n:Int)<(c.fs.length:Int):=by omega
 have e2:(0:Int)≤(n:Int):=by omega
 obtain ⟨g,o,cap,xp,W1,HFP,HC4,HFV,HW1,HS1,HKN⟩:=zeD hc hn h;have hv:=HFV.out;have hkn0:=HKN.out;have CH:=hidI (zbC hc HS1.out hn);obtain ⟨m0,hks⟩:=zaW hh;have hk0:k0<c.fs.length:=(hkl k0 (by rw [hks];simp)).2;have hk1:k1<c.fs.length:=(hkl k1 (by rw [hks];simp)).2;have hk2:k2<c.fs.length:=(hkl k2 (by rw [hks];simp)).2;have HZ2:Hid (1+(c.sz k0+c.sz k1+c.sz k2)≤c.sz n):=hidI (by
  have:=HZ.out;rw [hks] at this;simp only [List.map_cons,List.sum_cons,List.map_nil,List.sum_nil] at this;omega)
 have CH2:=hidI (zbQ CH.out hh);obtain ⟨b_set,b_fold,b_each,b_if,b_while,b_loop,b_bfs⟩:=zcQ wd;rw [decide_eq_true n1] at b_if;rw [decide_eq_false (by rw [n1];decide)] at b_set b_fold b_each b_while b_loop b_bfs;obtain ⟨x1,hx1⟩:∃ x1,c.fs[k1]?=some x1:=⟨_,List.getElem?_eq_getElem hk1⟩;have hfx1:=Dx.frm_at hx1;obtain ⟨z1,hze1⟩:∃ z1,x1.1.k=z1:=⟨_,rfl⟩;have HD1:Hid (∀ u:World,Below c.w0.heap.size c.w0 u→u.cell? ⟨g,o+k1*5,none⟩=some (.int .u8 z1)):=hidI (fun u hu=>by
  obtain ⟨g2,o2,cap2,hv2,q0,_⟩:=hc.form hu hx1;rw [hv] at hv2;cases hv2;rw [←hze1];exact q0)
 have HM1:Hid ((k1:Int)<(c.fs.length:Int)):=hidI (by omega);obtain ⟨hkk1,hkr1⟩:=hc.kid k1 x1 hx1;obtain ⟨_,qa1,qc1,hxv1,_⟩:=id hkk1;have HSL1:Hid (SeesR c.w0 (.slice qa1 x1.1.kids.length qc1) x1.1.kids.length 1 (ints x1.1.kids)):=hidI (hxv1▸⟨hkk1,hkr1⟩);have HKC1:Hid (∀ u:World,Below c.w0.heap.size c.w0 u→u.cell? ⟨g,o+k1*5+3,none⟩=some (.slice qa1 x1.1.kids.length qc1)):=hidI (fun u hu=>by
  obtain ⟨g2,o2,cap2,hv2,_,_,_,q3,_⟩:=hc.form hu hx1;rw [hv] at hv2;cases hv2;rw [←hxv1];exact q3)
 have HSZ1:=hidI (hc.szk k1 x1 hx1);have HKN1:=hidI (hc.kidlen k1 x1 hx1);have HIH1:Hid (∀ k∈x1.1.kids,DS2 c f k):=hidI (by rw [←hfx1];exact IH1);have HFX1:=hidI hfx1;have HZK1:=hidI hzk1;rw [hfx1,hze1] at hzk1;subst hzk1;obtain ⟨x2,hx2⟩:∃ x2,c.fs[k2]?=some x2:=⟨_,List.getElem?_eq_getElem hk2⟩;have hfx2:=Dx.frm_at hx2;obtain ⟨z2,hze2⟩:∃ z2,x2.1.k=z2:=⟨_,rfl⟩;have HD2:Hid (∀ u:World,Below c.w0.heap.size c.w0 u→u.cell? ⟨g,o+k2*5,none⟩=some (.int .u8 z2)):=hidI (fun u hu=>by
  obtain ⟨g2,o2,cap2,hv2,q0,_⟩:=hc.form hu hx2;rw [hv] at hv2;cases hv2;rw [←hze2];exact q0)
 have HM2:Hid ((k2:Int)<(c.fs.length:Int)):=hidI (by omega);obtain ⟨hkk2,hkr2⟩:=hc.kid k2 x2 hx2;obtain ⟨_,qa2,qc2,hxv2,_⟩:=id hkk2;have HSL2:Hid (SeesR c.w0 (.slice qa2 x2.1.kids.length qc2) x2.1.kids.length 1 (ints x2.1.kids)):=hidI (hxv2▸⟨hkk2,hkr2⟩);have HKC2:Hid (∀ u:World,Below c.w0.heap.size c.w0 u→u.cell? ⟨g,o+k2*5+3,none⟩=some (.slice qa2 x2.1.kids.length qc2)):=hidI (fun u hu=>by
  obtain ⟨g2,o2,cap2,hv2,_,_,_,q3,_⟩:=hc.form hu hx2;rw [hv] at hv2;cases hv2;rw [←hxv2];exact q3)
 have HSZ2:=hidI (hc.szk k2 x2 hx2);have HKN2:=hidI (hc.kidlen k2 x2 hx2);have HIH2:Hid (∀ k∈x2.1.kids,DS2 c f k):=hidI (by rw [←hfx2];exact IH2);have HFX2:=hidI hfx2;have HZK2:=hidI hzk2;rw [hfx2,hze2] at hzk2;subst hzk2;have HHH:=hidI hh;have HN1:=hidI n1;clear hv h hn hN hz hkl hkn0 CH hh hks n1 IH1 IH2 hx1 hfx1 hze1 hkk1 hkr1 hxv1 hx2 hfx2 hze2 hkk2 hkr2 hxv2;go_enter Tryz.func56,Tryz.ntmps56
 go_wp2_with (go_at_call 54;rw [HW1.out];refine CH2.out.mono ?_;rintro e w2 ⟨kv,rfl,hkv,hb2⟩;obtain ⟨_,qa,qc,rfl,_⟩:=id hkv;obtain ⟨kb,ko,rfl,_,_⟩:=zaB hkv (HS1.out.on hb2).below (i:=0) (k:=k0) rfl;have HKV:=hidI hkv;simp only [List.length_cons,List.length_nil,Nat.zero_add,Nat.reduceAdd];have HS2:=hidI (HS1.out.on hb2);have hs2:=HS1.out.on hb2;clear hb2 CH2;obtain ⟨_,_,e9,kq1,_⟩:=zaB HKV.out hs2.below (i:=1) (k:=k1) rfl;cases e9;obtain ⟨_,_,e9,kq2,_⟩:=zaB HKV.out hs2.below (i:=2) (k:=k2) rfl;cases e9;have b0:=hs2.cell (j:=0) (u:=c.fv) rfl;rw [HFV.out] at b0;clear hs2 hkv)
 refine regIf5 _ wd b_if b0 kq1 HM1.out (HD1.out _ HS2.out.below) kq2 HM2.out (HD2.out _ HS2.out.below) (fun y hy => ?_);clear b0 kq1 kq2;have hs3:=HS2.out.on hy;have HS3:=hidI hs3;obtain ⟨_,_,e9,kq0,_⟩:=zaB HKV.out hs3.below (i:=0) (k:=k0) rfl;cases e9;replace kq0:y.cell? ⟨kb,ko,none⟩=some (.int .i64 (k0:Int)):=kq0;clear hs3 hy HS2
 go_wp2_with (go_at_call 102;refine Calls.mono (zbK hc hk0 p none _ _ HS3.out (by have:=HZ2.out;have:=HN.out;omega)) ?_;rintro e w4 ⟨p4,er4,v4,rfl,h4,d1,d2,d3,hm4,hs4⟩;have H4:=hidI ((h4.setv (j:=0) (.int .u8 4)).setv (j:=3) (.int .i64 v4));have HD4:=hidI (And.intro d1 (And.intro d2 d3));have HM4:=hidI hm4;have HS4:=hidI hs4;have r0:=h4.vcell (j:=0) rfl;have z0:=h4.vfree 0;have r3:=h4.vcell (j:=3) rfl;have z3:=h4.vfree 3;clear kq0 HS3 d1 d2 d3 hm4 hs4 h4)
 clear r0 z0 r3 z3;have hd:=H4.out.drew;have HHD:=hidI hd;have hb0:=hd.cell (j:=0) (u:=c.fv) rfl;rw [HFV.out] at hb0;obtain ⟨_,_,e9,kq,_⟩:=zaB HKV.out hd.below (i:=1) (k:=k1) rfl;cases e9;refine drgT (B:=c.B) (cb:=w.heap.size) (m:=k1) (P:=fun v W=>∃ p6 er6 is1,DrS c p6 er6 (⟨bx w.heap.size,49,8,1,[.int .u8 4,.string ⟨#[]⟩,.int .u8 0,.int .i64 v4,.int .i64 (-1),.slice none 0 0,.slice none 0 0,.slice none 0 0]⟩::aRow (.slice none 0 0) []::iRow v is1::iRow (.slice none 0 0) []::X) W∧(∃ a c',v=.slice a is1.length c')∧p6.ds=p4.ds∧p6.ms=p4.ms∧p6.many≤p4.many+(x1.1.kids.map c.sz).sum∧is1.length≤x1.1.kids.length∧RowsR (rdStmt c.l f) x1.1.kids er4 p4.es is1 er6 p6.es) ⟨hb0,kq,HKC1.out _ hd.below⟩ HM1.out ((dstmts_er HIH1.out hd HSL1.out HKN1.out (by have:=HZ2.out;have:=HN.out;have:=HM4.out;have:=HSZ1.out;omega)).mono fun e w' h9 => ?_) (fun _ _ _ _ _ h=>h) ?_
 ·obtain ⟨p6,er6,is1,kv6,rfl,h6,d1,d2,hm6,hil6,hs6⟩:=h9;obtain ⟨va,vc,hkv⟩:∃ va vc,kv6=.slice va is1.length vc:=zaH (RowsP.head (r:=iRow kv6 is1) h6.first);subst hkv;have hbb:=h6.cell (j:=0) (u:=c.fv) rfl;rw [HFV.out] at hbb;obtain ⟨_,_,e9,kq,_⟩:=zaB HKV.out h6.below (i:=1) (k:=k1) rfl;cases e9;exact ⟨va,_,vc,_,rfl,⟨hbb,kq,HKC1.out _ h6.below⟩,h6.thn.vcell (j:=6) rfl,h6.thn.vfree 6,p6,er6,is1,h6.thn,⟨va,vc,rfl⟩,d1,d2,hm6,hil6,hs6⟩
 ·intro v1 W11 aB ay al au ar aK aC az af an aw ad aD hP;obtain ⟨p6,er6,is1,h6,⟨va1,vc1,rfl⟩,d1,d2,hm6,hil6,hs6⟩:=hP;have H16:=hidI (h6.setv (j:=6) (.slice va1 is1.length vc1));have HD16:=hidI (And.intro d1 d2);have HM16:=hidI hm6;have HIL1:=hidI hil6;have HS16:=hidI hs6;obtain ⟨W12,hW12⟩:∃ W12,W11.setCell ⟨w.heap.size,6,none⟩ (.slice va1 is1.length vc1)=W12:=⟨_,rfl⟩;rw [hW12] at H16 ⊢;clear h6 d1 d2 hm6 hil6 hs6 hd hb0 kq hW12;go_wp2;have hd:=H16.out.drew;have HHD:=hidI hd;have hb0:=hd.cell (j:=0) (u:=c.fv) rfl;rw [HFV.out] at hb0;obtain ⟨_,_,e9,kq,_⟩:=zaB HKV.out hd.below (i:=2) (k:=k2) rfl;cases e9;refine drgU (B:=c.B) (cb:=w.heap.size) (m:=k2) (P:=fun v W=>∃ p7 er7 is2,DrS c p7 er7 (⟨bx w.heap.size,49,8,1,[.int .u8 4,.string ⟨#[]⟩,.int .u8 0,.int .i64 v4,.int .i64 (-1),.slice none 0 0,(.slice va1 is1.length vc1),.slice none 0 0]⟩::aRow (.slice none 0 0) []::iRow (.slice va1 is1.length vc1) is1::iRow v is2::X) W∧(∃ a c',v=.slice a is2.length c')∧p7.ds=p6.ds∧p7.ms=p6.ms∧p7.many≤p6.many+(x2.1.kids.map c.sz).sum∧is2.length≤x2.1.kids.length∧RowsR (rdStmt c.l f) x2.1.kids er6 p6.es is2 er7 p7.es) ⟨hb0,kq,HKC2.out _ hd.below⟩ HM2.out ((dstmts_er HIH2.out hd HSL2.out HKN2.out (by have:=HZ2.out;have:=HN.out;have:=HM4.out;have:=HSZ1.out;have:=HSZ2.out;have:=HM16.out;omega)).mono fun e w' h9 => ?_) (fun _ _ _ _ _ h=>h) ?_
  ·obtain ⟨p7,er7,is2,kv6,rfl,h6,d1,d2,hm6,hil6,hs6⟩:=h9;obtain ⟨va,vc,hkv⟩:∃ va vc,kv6=.slice va is2.length vc:=zaH (RowsP.head (r:=iRow kv6 is2) h6.first);subst hkv;have hbb:=h6.cell (j:=0) (u:=c.fv) rfl;rw [HFV.out] at hbb;obtain ⟨_,_,e9,kq,_⟩:=zaB HKV.out h6.below (i:=2) (k:=k2) rfl;cases e9;exact ⟨va,_,vc,_,rfl,⟨hbb,kq,HKC2.out _ h6.below⟩,h6.els.vcell (j:=7) rfl,h6.els.vfree 7,p7,er7,is2,h6.els,⟨va,vc,rfl⟩,d1,d2,hm6,hil6,hs6⟩
  ·intro v2 W21 av aq aF aG ai aH aJ aE ac aA ab ao ax hP;obtain ⟨p7,er7,is2,h6,⟨va2,vc2,rfl⟩,d1,d2,hm6,hil6,hs6⟩:=hP;have H26:=hidI (h6.setv (j:=7) (.slice va2 is2.length vc2));have HD26:=hidI (And.intro d1 d2);have HM26:=hidI hm6;have HIL2:=hidI hil6;have HS26:=hidI hs6;obtain ⟨W22,hW22⟩:∃ W22,W21.setCell ⟨w.heap.size,7,none⟩ (.slice va2 is2.length vc2)=W22:=⟨_,rfl⟩;rw [hW22] at H26 ⊢;clear h6 d1 d2 hm6 hil6 hs6 hd hb0 kq hW22;go_wp2;have HMT:Hid (p7.many+1≤p.many+c.sz n):=hidI (by have:=HZ2.out;have:=HM4.out;have:=HM16.out;have:=HM26.out;have:=HSZ1.out;have:=HSZ2.out;omega);have HTD:=hidI H26.out.drew;have HPL:Hid (p7.ss.length≤999):=hidI (by have:=HMT.out;have:=HN.out;have:=HZ1.out;unfold PV.many at *;omega);refine drgS (B:=c.B) (eb:=w.heap.size) (base:=c.w0.heap.size) (n:=p7.ss.length) (u:=p7.sv) (xs:=flatS p7.ss) (HTD.out.cell (j:=3) rfl) (HTD.out.vcell (j:=0) rfl) (HTD.out.vcell (j:=1) rfl) (HTD.out.vcell (j:=2) rfl) (HTD.out.vcell (j:=3) rfl) (HTD.out.vcell (j:=4) rfl) (HTD.out.vcell (j:=5) rfl) (HTD.out.vcell (j:=6) rfl) (HTD.out.vcell (j:=7) rfl) (HTD.out.free 3) HTD.out.sown.head (by have:=HPL.out;omega) HTD.out.size (zbJ HTD.out.sown) HTD.out.vfarS (by
    intro v hv;simp only [List.mem_cons,List.not_mem_nil,or_false] at hv;rcases hv with rfl|rfl|rfl|rfl|rfl|rfl|rfl|rfl<;>rfl) (fun _ _ _ _ _ h=>h) ?_
   intro W5 u' aM aL aI aN ag ae ap am aa aj ak ah hg ho ha;have s5:=DrS.addS (s:=⟨⟨4,emptyS,0,v4, -1,[],is1,is2⟩,.slice none 0 0,(.slice va1 is1.length vc1),(.slice va2 is2.length vc2)⟩) (HTD.out.less.alloc (.cells #[.int .u8 4,.string ⟨#[]⟩,.int .u8 0,.int .i64 v4,.int .i64 (-1),.slice none 0 0,(.slice va1 is1.length vc1),(.slice va2 is2.length vc2)] 49)) ⟨by show 4<256;omega,by show 0<256;omega,(by unfold SmlN;decide:SmlN emptyS),by simp,(by have:=HIL1.out;have:=HKN1.out;show is1.length≤_;omega),(by have:=HIL2.out;have:=HKN2.out;show is2.length≤_;omega),by simp⟩ (by have:=HPL.out;omega) hg ho (by simpa using ha);have HS5:=hidI s5;obtain ⟨ml,hml⟩:∃ ml,p7.ss.length=ml:=⟨_,rfl⟩;obtain ⟨ua,uc,hu⟩:∃ ua uc,u'=.slice ua (p7.ss.length+1) uc:=zaH ho;rw [hml] at hu;subst hu;have c7:=s5.cell (j:=3) (u:=.slice ua (ml+1) uc) rfl;have hml2:ml≤999:=hml▸HPL.out;have e9:IntKind.i64.wrap (((ml+1:Nat):Int)-1)=(ml:Int):=by rw [show (((ml+1:Nat):Int)-1)=(ml:Int) by omega,IntKind.wrap_i64];omega
   obtain ⟨W6,hW6⟩:∃ W6,W5.setCell ⟨c.B,3,none⟩ (.slice ua (ml+1) uc)=W6:=⟨_,rfl⟩;rw [hW6] at HS5 c7 ⊢;have HML:=hidI hml;clear hg ho ha s5 HTD hW6 hml;go_wp2;go_ret;rw [←HML.out];have hee:p4.es=(p4.xs.map Prod.fst,p.es.2):=by
    unfold PV.es;rw [HD4.out.2.2]
   have h6:=HS16.out;have h7:=HS26.out;rw [hee,←HFX1.out] at h6;rw [←HFX2.out] at h7;rcases if_end (f:=f) (q:=p.es) HHH.out HN1.out HZK1.out HZK2.out HS4.out h6 h7 with ⟨rfl,hr⟩|⟨a,rfl,hr⟩
   ·exact DsPost.ok hr rfl HS5.out ((HD26.out.1.trans HD16.out.1).trans HD4.out.1) ((HD26.out.2.trans HD16.out.2).trans HD4.out.2.1) HMT.out
   ·exact DsPost.bad hr HS5.out ((HD26.out.1.trans HD16.out.1).trans HD4.out.1) ((HD26.out.2.trans HD16.out.2).trans HD4.out.2.1) (by have:=HMT.out;simp [PV.many] at this ⊢;omega)
theorem dstmt_step {c:Dx} (hc:c.Ok) {f n:Nat} (hn:n<c.fs.length) (IH:∀ k,n<k→k<c.fs.length→DS2 c f k):DS2 c (f+1) n:=by
 intro p X w h hN;cases hh:headF c.l n with
 | none=>exact dstmt_none hc hn h hN hh
 | some q=>
  obtain ⟨wd,ks⟩:=q;obtain ⟨m0,hks⟩:=zaW hh;have hkt:∀ k∈ks,n<k∧k<c.fs.length:=fun k hk=>hc.kids_lt hn k (by rw [hks];exact List.mem_cons_of_mem _ hk)
  have IHK:∀ k∈ks,DS2 c f k:=fun k hk=>IH k (hkt k hk).1 (hkt k hk).2
  by_cases h0:wd=(⟨#[115,101,116]⟩:ByteArray)
  ·by_cases hl:ks.length=2
   ·obtain ⟨k0,k1,rfl⟩:=len2e hl;exact dstmt_set hc hn h hN hh h0
   exact zdD hc hn h hN hh (.inr (.inl ⟨h0,hl⟩))
  by_cases h1:wd=(⟨#[102,111,108,100]⟩:ByteArray)
  ·by_cases hl:ks.length=3
   ·obtain ⟨k0,k1,k2,rfl⟩:=len3e hl;cases hr:redN (opOf (wordF c.l k1)) with
    | false=>exact dstmt_fold3_bad hc hn h hN hh h1 hr
    | true=>exact dstmt_fold3 hc hn h hN hh h1 hr
   by_cases hl4:ks.length=4
   ·obtain ⟨k0,k1,k2,k3,rfl⟩:=len4e hl4;cases hr:redN (opOf (wordF c.l k1)) with
    | false=>exact dstmt_fold4_bad hc hn h hN hh h1 hr
    | true=>exact dstmt_fold4 hc hn h hN hh h1 hr
   exact zdD hc hn h hN hh (.inr (.inr (.inl ⟨h1,fun e=>e.elim hl hl4⟩)))
  by_cases h2:wd=(⟨#[101,97,99,104]⟩:ByteArray)
  ·by_cases hl:ks.length=0
   ·exact zdD hc hn h hN hh (.inr (.inr (.inr (.inl ⟨h2,hl⟩))))
   by_cases hl6:ks.length≤6
   ·exact dstmt_each hc hn h hN hh h2 (by omega) hl6
   exact zdD hc hn h hN hh (.inr (.inr (.inr (.inr (.inl ⟨h2,by omega⟩)))))
  by_cases h3:wd=(⟨#[105,102]⟩:ByteArray)
  ·by_cases hl:ks.length=3
   ·obtain ⟨k0,k1,k2,rfl⟩:=len3e hl;by_cases z1:(frm c.l k1).k=1
    ·by_cases z2:(frm c.l k2).k=1
     ·have e1:=hkt k1 (by simp);have e2:=hkt k2 (by simp);exact dstmt_if hc hn h hN (fun k hk=>IH k (by have:=hc.kids_lt e1.2 k hk;omega) (hc.kids_lt e1.2 k hk).2) (fun k hk=>IH k (by have:=hc.kids_lt e2.2 k hk;omega) (hc.kids_lt e2.2 k hk).2) hh h3 z1 z2
     exact dstmt_bad_ifk2 hc hn h hN hh h3 z1 z2
    exact dstmt_bad_ifk1 hc hn h hN hh h3 z1
   exact zdD hc hn h hN hh (.inr (.inr (.inr (.inr (.inr (.inr (.inr (.inr (⟨h3,hl⟩)))))))))
  by_cases h4:wd=(⟨#[119,104,105,108,101]⟩:ByteArray)
  ·cases ks with
   | nil=>exact zdD hc hn h hN hh (.inr (.inr (.inr (.inr (.inr (.inl ⟨h4,rfl⟩))))))
   | cons k0 rest=>exact dstmt_while hc hn h hN (fun k hk=>IHK k (List.mem_cons_of_mem _ hk)) hh h4
  by_cases h5:wd=(⟨#[108,111,111,112]⟩:ByteArray)
  ·cases ks with
   | nil=>exact zdD hc hn h hN hh (.inr (.inr (.inr (.inr (.inr (.inr (.inl ⟨h5,rfl⟩)))))))
   | cons k0 rest=>exact dstmt_loop hc hn h hN (fun k hk=>IHK k (List.mem_cons_of_mem _ hk)) hh h5
  by_cases h6:wd=(⟨#[98,102,115]⟩:ByteArray)
  ·by_cases hl:ks.length<2
   ·exact zdD hc hn h hN hh (.inr (.inr (.inr (.inr (.inr (.inr (.inr (.inl ⟨h6,hl⟩))))))))
   match ks,hl,hh,IHK with
   | k0::k1::rest,_,hh,IHK=>exact dstmt_bfs hc hn h hN (fun k hk=>IHK k (List.mem_cons_of_mem _ (List.mem_cons_of_mem _ hk))) hh h6
   | [],hl,_,_=>exact absurd (by simp) hl
   | [_],hl,_,_=>exact absurd (by simp) hl
  exact zdD hc hn h hN hh (.inl ⟨h0,h1,h2,h3,h4,h5,h6⟩)
theorem dstmt_all {c:Dx} (hc:c.Ok):∀ (f n:Nat),n<c.fs.length→c.fs.length-n≤f→DS2 c f n
 | 0,n,h1,h2=>by omega
 | f+1,n,h1,h2=>dstmt_step hc h1 (fun k hk hk2=>dstmt_all hc f k hk2 (by omega))
theorem dstmt_any {c:Dx} (hc:c.Ok) {n:Nat} (hn:n<c.fs.length):DS2 c (big c.l) n:=dstmt_all hc (big c.l) n hn (by unfold big Dx.l;rw [List.length_map];omega)
theorem assert96 (v:Value) (w:World):(Instr.typeAssert (.iface 172 v) 20 172 false).run Tryz.prog w=.ok v w:=by kernel_rfl
theorem catch2_fault (E:Nat) (x y p er:Int) (older:List PanicEntry) (w:World) (h0:w.cell? ⟨E,0,none⟩=some (.int .i64 x)) (h1:w.cell? ⟨E,1,none⟩=some (.int .i64 y)) (hz:∀ j,w.frozen? ⟨E,j,none⟩=false) :
  CallsD Tryz.prog 146 #[.pointer (some ⟨E,0,none⟩)] (.panicking ({ v:=.iface 172 (.agg #[.int .i64 p,.int .i64 er]),recovered:=false }::older)) w fun e u' w'=>
   e=.returned (.tuple #[])∧u'=.panicking ({ v:=.iface 172 (.agg #[.int .i64 p,.int .i64 er]),recovered:=true }::older)∧w'=(w.setCell ⟨E,0,none⟩ (.int .i64 p)).setCell ⟨E,1,none⟩ (.int .i64 er):=by
 have hz0:=hz 0;have hz1:=hz 1;refine callsD_of_wpS Tryz.func146 rfl fun c₀ cs hu => ?_
 apply wpS_seq;apply wpS_region;simp [wpOpsS,go_sem,recoverD,hu,Tryz.ntmps146,Exit.thenS];apply wpS_seq;apply wpS_region;simp [wpOpsS,go_sem,Exit.thenS];refine wpS_cond (t:=true) (by simp [Act.eval,Array.replicate]) ?_;simp only [if_true];apply wpS_region;simp [wpOpsS,go_sem,assert96,h0,h1,hz0,hz1];simp [bodyPostS,results,Tryz.results146]
theorem catch2_idle (E:Nat) (w:World) :
  CallsD Tryz.prog 146 #[.pointer (some ⟨E,0,none⟩)] .returning w fun e u' w'=>e=.returned (.tuple #[])∧u'=.returning∧w'=w:=by
 refine callsD_of_wpS Tryz.func146 rfl fun c₀ cs hu => ?_
 apply wpS_seq;apply wpS_region;simp [wpOpsS,go_sem,recoverD,hu,Tryz.ntmps146,Exit.thenS];refine wpS_of_wp ?_;go_wp2;cases c₀
 simp_all [bodyPostS,results,Tryz.results146]
def fBox (fb:Nat):Rw:=⟨bx fb,172,2,1,[.int .i64 0,.int .i64 0]⟩
def pv0:PV:=⟨[],[],[],[],.slice none 0 0,.slice none 0 0,.slice none 0 0,.slice none 0 0⟩
def OwnP (w:World) (base:Nat) (p:PV):Prop:=RowsP w base (dRow p::xRow p::sRow p::mRow p::(p.xs.map kRow++p.ss.flatMap sRows))
abbrev pval (p:PV):Value:=.agg #[p.dv,p.xv,p.sv,p.mv]
theorem RowsP.base {w:World} {b b':Nat} {l:List Rw} (h:RowsP w b l) (hb:b'≤b):RowsP w b' l:=
 ⟨fun r hr=>by
  have ho:=h.own r hr;refine ⟨ho.1,?_⟩;rcases ho.2 with h0|⟨g,cap,cur,e,hg,rest⟩
  ·exact .inl h0
  ·exact .inr ⟨g,cap,cur,e,by omega,rest⟩,h.apart⟩
theorem zdB {fn:Func} {p q r:Tmp} {ty:TypeId} (h:fn.results=#[.cell p ty,.tmp q,.tmp r]) (tmps:Array Value) (P:Program) (w:World) :
  (results fn tmps).run P w=((asAddr (tmps.getD p undef)).run P w).andThen fun a w₁=>((loadVar ty a).run P w₁).andThen fun v w₂=>.ok (.tuple #[v,tmps.getD q undef,tmps.getD r undef]) w₂:=by
 simp only [results,h];simp [Sem.run_bind,Result.andThen]
theorem pv0_ok:PrgOk pv0.prg:=by
 constructor<;>simp [pv0,PV.prg]
theorem DrS.begin {c:Dx} {w:World} (hw:Below c.w0.heap.size c.w0 w) (hB:c.B=w.heap.size) (hm:c.mv=.slice none 0 0):DrS c pv0 none [] (w.alloc (.cells #[c.fv,.slice none 0 0,.slice none 0 0,.slice none 0 0,.slice none 0 0,.bool false,.int .i64 0,.int .i64 0] 101)):=by
 have h0:RowsP w c.w0.heap.size []:=⟨fun r hr=>absurd hr (by simp),List.Pairwise.nil⟩;have h1:=(((h0.nil 3 1).nil 49 8).nil 82 6).nil 106 3;have h2:=h1.add (r:=⟨bx w.heap.size,101,8,1,[c.fv,.slice none 0 0,.slice none 0 0,.slice none 0 0,.slice none 0 0,.bool false,.int .i64 0,.int .i64 0]⟩) (h1.alloc _) (box_new w c.w0.heap.size 101 8 #[c.fv,.slice none 0 0,.slice none 0 0,.slice none 0 0,.slice none 0 0,.bool false,.int .i64 0,.int .i64 0] hw.size rfl) (fun k hk=>by cases hk;exact Nat.le_refl _);refine ⟨hw.alloc hw.size _,?_,pv0_ok,hm.symm⟩;rw [←hB] at h2;exact h2
def TopR (l:List Frm) (ks:List Nat) (T:Except (Int × Int) Prg) (er:Option (Int × Int)) (P:Prg):Prop:=match er with
 | none=>rdTop l ks P=T
 | some x=>T=.error x
theorem rdTop_stmt {l:List Frm} {n:Nat} {r:List Nat} {P:Prg} (hd:∀ w k,headF l n=some (w,k)→declOf w=none):rdTop l (n::r) P=(match rdStmt l (big l) n (P.exprs,P.stmts) with
  | .error q=>.error (q,8)
  | .ok (i,q)=>rdTop l r { P with exprs:=q.1,stmts:=q.2,main:=P.main++[i] }):=by
 simp only [rdTop];cases hh:headF l n with
 | none=>rfl
 | some q=>
  obtain ⟨w,k⟩:=q;simp only;rw [hd w k hh];rfl
theorem TopR.stmt {l:List Frm} {n:Nat} {ks:List Nat} {T:Except (Int × Int) Prg} {p p2:PV} {er2:Option (Int × Int)} {v:Int} {u:Value} (h:TopR l (n::ks) T none p.prg) (hd:∀ w k,headF l n=some (w,k)→declOf w=none) (hs:StepR (rdStmt l (big l)) n none p.es er2 v p2.es) (hds:p2.ds=p.ds) (hms:p2.ms=p.ms):TopR l ks T er2 ({ p2 with ms:=p2.ms++[v],mv:=u }:PV).prg:=by
 simp only [TopR] at h;rw [rdTop_stmt hd] at h;simp only [StepR] at hs;have e:(p.prg.exprs,p.prg.stmts)=p.es:=rfl;rw [e] at h;cases hr:rdStmt l (big l) n p.es with
 | error a=>
  rw [hr] at hs h;simp only at hs h;subst hs;exact h.symm
 | ok q=>
  obtain ⟨i,q⟩:=q;rw [hr] at hs h;simp only at hs h;obtain ⟨rfl,rfl,hq⟩:=hs;simp only [TopR];rw [←h,←hq];simp only [PV.prg,PV.es,hds,hms]
theorem rdTop_decl {l:List Frm} {n:Nat} {r:List Nat} {P:Prg} {w:ByteArray} {kids:List Nat} {sd kd:Nat} (hh:headF l n=some (w,kids)) (hd:declOf w=some (sd,kd)):rdTop l (n::r) P=(if kids.length≠1∨P.main≠[] then .error ((frm l n).p,8)
  else if 24≤P.decls.length then .error ((frm l n).p,4)
  else match nameF l (kids.headD 0) with
   | .error q=>.error (q,8)
   | .ok s=>rdTop l r { P with decls:=P.decls++[⟨s,sd,kd⟩] }):=by
 simp only [rdTop,hh,hd];rfl
section
variable {l : List Frm} {n : Nat} {ks : List Nat} {T : Except (Int × Int) Prg} {p : PV} {w : ByteArray} {kids : List Nat} {sd kd : Nat}
theorem TopR.decl_bad8 {P:Prg} (h:TopR l (n::ks) T none p.prg) (hh:headF l n=some (w,kids)) (hd:declOf w=some (sd,kd)) (hb:kids.length≠1∨p.prg.main≠[]):TopR l ks T (some ((frm l n).p,8)) P:=by
 simp only [TopR] at h ⊢;rw [rdTop_decl hh hd,if_pos hb] at h;exact h.symm
theorem TopR.decl_bad4 {P:Prg} (h:TopR l (n::ks) T none p.prg) (hh:headF l n=some (w,kids)) (hd:declOf w=some (sd,kd)) (hb:¬ (kids.length≠1∨p.prg.main≠[])) (hl:24≤p.prg.decls.length):TopR l ks T (some ((frm l n).p,4)) P:=by
 simp only [TopR] at h ⊢;rw [rdTop_decl hh hd,if_neg hb,if_pos hl] at h;exact h.symm
theorem TopR.decl {k0:Nat} {er2:Option (Int × Int)} {s:ByteArray} {u:Value} (h:TopR l (n::ks) T none p.prg) (hh:headF l n=some (w,[k0])) (hd:declOf w=some (sd,kd)) (hm:p.ms=[]) (hl:¬ 24≤p.prg.decls.length) (hn:NameR (nameF l k0) er2 s):TopR l ks T er2 ({ p with ds:=p.ds++[⟨s,sd,kd⟩],dv:=u }:PV).prg:=by
 simp only [TopR] at h;have e:¬ (([k0]:List Nat).length≠1∨p.prg.main≠[]):=by
  rintro (h1|h1)
  ·exact h1 rfl
  ·exact h1 hm
 rw [rdTop_decl hh hd,if_neg e,if_neg hl] at h;simp only [List.headD_cons] at h;unfold NameR at hn;cases hr:nameF l k0 with
 | error a=>
  rw [hr] at hn h;simp only at hn h;subst hn;exact h.symm
 | ok t=>
  rw [hr] at hn h;obtain ⟨rfl,rfl⟩:=hn;exact h
end
end Go.Proofs.YtfljimpgnlfipaaGreatDoor
