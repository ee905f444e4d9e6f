/-
  Part 13 of the proof: DrB2, DrC, DrG, DrS0.
-/
import Derived.Test.YtfljimpgnlfipaaGreatDoorTE11
import Derived.Test.YtfljimpgnlfipaaGreatDoorTE10
import Derived.Test.YtfljimpgnlfipaaGreatDoorTE12
namespace Go.Proofs.YtfljimpgnlfipaaGreatDoor
open Go.RowKit Go.Deep Go.MapKept
set_option maxRecDepth 100000 in
set_option maxHeartbeats 16000000 in
theorem dact_pull4_red {c:Dx} (hc:c.Ok) {n:Nat} (hn:n<c.fs.length) {p:PV} {X:List Rw} {w:World} (h:DrS c p none X w) (hN:p.many+c.sz n≤999) {wd:ByteArray} {k0 k1 k2 k3:Nat} (hh:headF c.l n=some (wd,[k0,k1,k2,k3])) (n1:wd=(⟨#[112,117,108,108]⟩:ByteArray)) (hr:redN (opOf (wordF c.l k1))=false) :
  Calls Tryz.prog 104 #[.pointer (some ⟨c.B,0,none⟩),.int .i64 (n:Int)] w (DaPost c p X n):=by
 have HN:=hidI hN;have hz:=hc.kids_sz hn;have HZ:=hidI hz;have hkl:=hc.kids_lt hn;have e1:(n:Int)<(c.fs.length:Int):=by omega
 have e2:(0:Int)≤(n:Int):=by omega
 obtain ⟨g,o,cap,xp,W1,HFP,HC4,HFV,HW1,HS1,HKN⟩:=zcU hc hn h;have hkn0:=HKN.out;have CH:=hidI (zbC hc HS1.out hn);obtain ⟨m0,hks⟩:=zaW hh;have hk0:k0<c.fs.length:=(hkl k0 (by rw [hks];simp)).2;have hk1:k1<c.fs.length:=(hkl k1 (by rw [hks];simp)).2;have hk2:k2<c.fs.length:=(hkl k2 (by rw [hks];simp)).2;have hk3:k3<c.fs.length:=(hkl k3 (by rw [hks];simp)).2;have HZ2:Hid (1+(c.sz k0+c.sz k1+c.sz k2+c.sz k3)≤c.sz n):=hidI (by
  have:=HZ.out;rw [hks] at this;simp only [List.map_cons,List.sum_cons,List.map_nil,List.sum_nil] at this;omega)
 have CH2:=hidI (zbQ CH.out hh);obtain ⟨bp,bs,bl⟩:=zbU wd;rw [decide_eq_false (by rw [n1];decide)] at bp;rw [decide_eq_false (by rw [n1];decide)] at bs;rw [decide_eq_true n1] at bl;obtain ⟨o9,ho⟩:∃ o9,opOf (wordF c.l k1)=o9:=⟨_,rfl⟩;have ho2:o9≤19:=ho▸zbW _;obtain ⟨d9,hdw⟩:∃ d9,wordF c.l k2=d9:=⟨_,rfl⟩;have HR:=hidI ((push_err (es:=p.xs.map Prod.fst) hh (by rw [n1];decide) (.inr ⟨n1,rfl⟩) (.inl hr)).trans (congrArg _ HFP.out));obtain ⟨bo,bi⟩:=zcG d9;have HHO:=hidI ho;have HHR:=hidI hr;have HHW:=hidI hdw;clear bo bi;clear h hn hN hz hkl hkn0 CH hks hh n1 hr ho hdw;go_enter Tryz.func104,Tryz.ntmps104
 go_wp2_with (first
  | (go_at_call 54;rw [HW1.out];refine CH2.out.mono ?_;rintro e w2 ⟨kv,rfl,hkv,hb2⟩;obtain ⟨_,qa,qc,rfl,_⟩:=id hkv;obtain ⟨kb,ko,rfl,_,_⟩:=zaB hkv (HS1.out.on hb2).below (i:=0) (k:=k0) rfl;have HKV:=hidI hkv;simp only [List.length_cons,List.length_nil,Nat.zero_add,Nat.reduceAdd];have HS2:=hidI (HS1.out.on hb2);have hs2:=HS1.out.on hb2;clear hb2 CH2;obtain ⟨_,_,e9,kq1,_⟩:=zaB HKV.out hs2.below (i:=1) (k:=k1) rfl;cases e9;clear hs2 hkv)
  | (go_at_call 103;refine Calls.mono (red_at hc hk1 HHO.out HHR.out HS2.out) ?_;rintro e w3 ⟨rfl,hb3⟩;have HS3:=hidI (HS2.out.on hb3);have hs3:=HS2.out.on hb3;clear kq1 hb3;obtain ⟨_,_,e9,kq2,_⟩:=zaB HKV.out hs3.below (i:=2) (k:=k2) rfl;cases e9;have r0:=hs3.vcell (j:=0) rfl;have z0:=hs3.vfree 0;have r1:=hs3.vcell (j:=1) rfl;have z1:=hs3.vfree 1;have r2:=hs3.vcell (j:=2) rfl;have z2:=hs3.vfree 2;have r3:=hs3.vcell (j:=3) rfl;have z3:=hs3.vfree 3;have r4:=hs3.vcell (j:=4) rfl;have z4:=hs3.vfree 4;have r5:=hs3.vcell (j:=5) rfl;have z5:=hs3.vfree 5;have b0:=hs3.cell (j:=0) (u:=c.fv) rfl;rw [HFV.out] at b0;have y4:=HC4.out _ hs3.below;clear hs3)
  | (go_at_call 154;refine Calls.mono (zdN hc hk2 HHW.out HS3.out) ?_;rintro e w9 ⟨rfl,hw⟩;obtain rfl:=hw.symm)
  | (go_at_call 57;refine Calls.mono (zbG HS3.out xp 8) ?_;rintro e w6 ⟨rfl,h6⟩;have H6:=hidI h6;clear r0 r1 r2 r3 r4 r5 z0 z1 z2 z3 z4 z5;have r0:=h6.vcell (j:=0) rfl;have z0:=h6.vfree 0;have r1:=h6.vcell (j:=1) rfl;have z1:=h6.vfree 1;have r2:=h6.vcell (j:=2) rfl;have z2:=h6.vfree 2;have r3:=h6.vcell (j:=3) rfl;have z3:=h6.vfree 3;have r4:=h6.vcell (j:=4) rfl;have z4:=h6.vfree 4;have r5:=h6.vcell (j:=5) rfl;have z5:=h6.vfree 5;have q0:=h6.less.vcell (j:=0) rfl;have u0:=h6.less.vfree 0;have q1:=h6.less.vcell (j:=1) rfl;have u1:=h6.less.vfree 1;have q2:=h6.less.vcell (j:=2) rfl;have u2:=h6.less.vfree 2;have q3:=h6.less.vcell (j:=3) rfl;have u3:=h6.less.vfree 3;have q4:=h6.less.vcell (j:=4) rfl;have u4:=h6.less.vfree 4;have q5:=h6.less.vcell (j:=5) rfl;have u5:=h6.less.vfree 5;clear h6))
 refine bodyPost_ret (v:=.agg #[.int .u8 0,.string ⟨#[]⟩,.int .u8 0,.bool false,.int .i64 (-1),.int .i64 (-1)]) ?_ rfl ?_
 ·rw [zaC rfl]
  (go_simp<;>first|done|rfl)
 ·exact DaPost.bad (a:=⟨0,⟨#[]⟩,0,false, -1, -1⟩) HR.out (H6.out.less.fill6 _ _ _ _ _ _) rfl rfl rfl (by omega) ⟨by decide,by decide,by unfold SmlN;decide⟩
set_option maxRecDepth 100000 in
set_option maxHeartbeats 16000000 in
theorem dact_pull4_dir {c:Dx} (hc:c.Ok) {n:Nat} (hn:n<c.fs.length) {p:PV} {X:List Rw} {w:World} (h:DrS c p none X w) (hN:p.many+c.sz n≤999) {wd:ByteArray} {k0 k1 k2 k3:Nat} (hh:headF c.l n=some (wd,[k0,k1,k2,k3])) (n1:wd=(⟨#[112,117,108,108]⟩:ByteArray)) (hr:redN (opOf (wordF c.l k1))=true) (hd:¬ (wordF c.l k2=(⟨#[111,117,116]⟩:ByteArray)∨wordF c.l k2=(⟨#[105,110]⟩:ByteArray))) :
  Calls Tryz.prog 104 #[.pointer (some ⟨c.B,0,none⟩),.int .i64 (n:Int)] w (DaPost c p X n):=by
 have HN:=hidI hN;have hz:=hc.kids_sz hn;have HZ:=hidI hz;have hkl:=hc.kids_lt hn;have e1:(n:Int)<(c.fs.length:Int):=by omega
 have e2:(0:Int)≤(n:Int):=by omega
 obtain ⟨g,o,cap,xp,W1,HFP,HC4,HFV,HW1,HS1,HKN⟩:=zcU hc hn h;have hkn0:=HKN.out;have CH:=hidI (zbC hc HS1.out hn);obtain ⟨m0,hks⟩:=zaW hh;have hk0:k0<c.fs.length:=(hkl k0 (by rw [hks];simp)).2;have hk1:k1<c.fs.length:=(hkl k1 (by rw [hks];simp)).2;have hk2:k2<c.fs.length:=(hkl k2 (by rw [hks];simp)).2;have hk3:k3<c.fs.length:=(hkl k3 (by rw [hks];simp)).2;have HZ2:Hid (1+(c.sz k0+c.sz k1+c.sz k2+c.sz k3)≤c.sz n):=hidI (by
  have:=HZ.out;rw [hks] at this;simp only [List.map_cons,List.sum_cons,List.map_nil,List.sum_nil] at this;omega)
 have CH2:=hidI (zbQ CH.out hh);obtain ⟨bp,bs,bl⟩:=zbU wd;rw [decide_eq_false (by rw [n1];decide)] at bp;rw [decide_eq_false (by rw [n1];decide)] at bs;rw [decide_eq_true n1] at bl;obtain ⟨o9,ho⟩:∃ o9,opOf (wordF c.l k1)=o9:=⟨_,rfl⟩;have ho2:o9≤19:=ho▸zbW _;obtain ⟨d9,hdw⟩:∃ d9,wordF c.l k2=d9:=⟨_,rfl⟩;have HR:=hidI ((push_err (es:=p.xs.map Prod.fst) hh (by rw [n1];decide) (.inr ⟨n1,rfl⟩) (.inr hd)).trans (congrArg _ HFP.out));obtain ⟨bo,bi⟩:=zcG d9;have HHO:=hidI ho;have HHR:=hidI hr;have HHW:=hidI hdw;rw [hdw] at hd;rw [decide_eq_false (fun h=>hd (.inl h))] at bo;rw [decide_eq_false (fun h=>hd (.inr h))] at bi;clear hd;clear h hn hN hz hkl hkn0 CH hks hh n1 hr ho hdw;go_enter Tryz.func104,Tryz.ntmps104
 go_wp2_with (first
  | (go_at_call 54;rw [HW1.out];refine CH2.out.mono ?_;rintro e w2 ⟨kv,rfl,hkv,hb2⟩;obtain ⟨_,qa,qc,rfl,_⟩:=id hkv;obtain ⟨kb,ko,rfl,_,_⟩:=zaB hkv (HS1.out.on hb2).below (i:=0) (k:=k0) rfl;have HKV:=hidI hkv;simp only [List.length_cons,List.length_nil,Nat.zero_add,Nat.reduceAdd];have HS2:=hidI (HS1.out.on hb2);have hs2:=HS1.out.on hb2;clear hb2 CH2;obtain ⟨_,_,e9,kq1,_⟩:=zaB HKV.out hs2.below (i:=1) (k:=k1) rfl;cases e9;clear hs2 hkv)
  | (go_at_call 103;refine Calls.mono (red_at hc hk1 HHO.out HHR.out HS2.out) ?_;rintro e w3 ⟨rfl,hb3⟩;have HS3:=hidI (HS2.out.on hb3);have hs3:=HS2.out.on hb3;clear kq1 hb3;obtain ⟨_,_,e9,kq2,_⟩:=zaB HKV.out hs3.below (i:=2) (k:=k2) rfl;cases e9;have r0:=hs3.vcell (j:=0) rfl;have z0:=hs3.vfree 0;have r1:=hs3.vcell (j:=1) rfl;have z1:=hs3.vfree 1;have r2:=hs3.vcell (j:=2) rfl;have z2:=hs3.vfree 2;have r3:=hs3.vcell (j:=3) rfl;have z3:=hs3.vfree 3;have r4:=hs3.vcell (j:=4) rfl;have z4:=hs3.vfree 4;have r5:=hs3.vcell (j:=5) rfl;have z5:=hs3.vfree 5;have b0:=hs3.cell (j:=0) (u:=c.fv) rfl;rw [HFV.out] at b0;have y4:=HC4.out _ hs3.below;clear hs3)
  | (go_at_call 154;refine Calls.mono (zdN hc hk2 HHW.out HS3.out) ?_;rintro e w9 ⟨rfl,hw⟩;obtain rfl:=hw.symm)
  | (go_at_call 57;refine Calls.mono (zbG HS3.out xp 8) ?_;rintro e w6 ⟨rfl,h6⟩;have H6:=hidI h6;clear r0 r1 r2 r3 r4 r5 z0 z1 z2 z3 z4 z5;have r0:=h6.vcell (j:=0) rfl;have z0:=h6.vfree 0;have r1:=h6.vcell (j:=1) rfl;have z1:=h6.vfree 1;have r2:=h6.vcell (j:=2) rfl;have z2:=h6.vfree 2;have r3:=h6.vcell (j:=3) rfl;have z3:=h6.vfree 3;have r4:=h6.vcell (j:=4) rfl;have z4:=h6.vfree 4;have r5:=h6.vcell (j:=5) rfl;have z5:=h6.vfree 5;have q0:=h6.less.vcell (j:=0) rfl;have u0:=h6.less.vfree 0;have q1:=h6.less.vcell (j:=1) rfl;have u1:=h6.less.vfree 1;have q2:=h6.less.vcell (j:=2) rfl;have u2:=h6.less.vfree 2;have q3:=h6.less.vcell (j:=3) rfl;have u3:=h6.less.vfree 3;have q4:=h6.less.vcell (j:=4) rfl;have u4:=h6.less.vfree 4;have q5:=h6.less.vcell (j:=5) rfl;have u5:=h6.less.vfree 5;clear h6))
 refine bodyPost_ret (v:=.agg #[.int .u8 0,.string ⟨#[]⟩,.int .u8 0,.bool false,.int .i64 (-1),.int .i64 (-1)]) ?_ rfl ?_
 ·rw [zaC rfl]
  (go_simp<;>first|done|rfl)
 ·exact DaPost.bad (a:=⟨0,⟨#[]⟩,0,false, -1, -1⟩) HR.out (H6.out.less.fill6 _ _ _ _ _ _) rfl rfl rfl (by omega) ⟨by decide,by decide,by unfold SmlN;decide⟩
set_option maxRecDepth 100000 in
set_option maxHeartbeats 16000000 in
theorem dact_pull4_out {c:Dx} (hc:c.Ok) {n:Nat} (hn:n<c.fs.length) {p:PV} {X:List Rw} {w:World} (h:DrS c p none X w) (hN:p.many+c.sz n≤999) {wd:ByteArray} {k0 k1 k2 k3:Nat} (hh:headF c.l n=some (wd,[k0,k1,k2,k3])) (n1:wd=(⟨#[112,117,108,108]⟩:ByteArray)) (hr:redN (opOf (wordF c.l k1))=true) (hd:wordF c.l k2=(⟨#[111,117,116]⟩:ByteArray)) :
  Calls Tryz.prog 104 #[.pointer (some ⟨c.B,0,none⟩),.int .i64 (n:Int)] w (DaPost c p X n):=by
 have HN:=hidI hN;have hz:=hc.kids_sz hn;have HZ:=hidI hz;have hkl:=hc.kids_lt hn;have e1:(n:Int)<(c.fs.length:Int):=by omega
 have e2:(0:Int)≤(n:Int):=by omega
 obtain ⟨g,o,cap,xp,W1,HFP,HC4,HFV,HW1,HS1,HKN⟩:=zcU hc hn h;have hkn0:=HKN.out;have CH:=hidI (zbC hc HS1.out hn);obtain ⟨m0,hks⟩:=zaW hh;have hk0:k0<c.fs.length:=(hkl k0 (by rw [hks];simp)).2;have hk1:k1<c.fs.length:=(hkl k1 (by rw [hks];simp)).2;have hk2:k2<c.fs.length:=(hkl k2 (by rw [hks];simp)).2;have hk3:k3<c.fs.length:=(hkl k3 (by rw [hks];simp)).2;have HZ2:Hid (1+(c.sz k0+c.sz k1+c.sz k2+c.sz k3)≤c.sz n):=hidI (by
  have:=HZ.out;rw [hks] at this;simp only [List.map_cons,List.sum_cons,List.map_nil,List.sum_nil] at this;omega)
 have CH2:=hidI (zbQ CH.out hh);obtain ⟨bp,bs,bl⟩:=zbU wd;rw [decide_eq_false (by rw [n1];decide)] at bp;rw [decide_eq_false (by rw [n1];decide)] at bs;rw [decide_eq_true n1] at bl;obtain ⟨o9,ho⟩:∃ o9,opOf (wordF c.l k1)=o9:=⟨_,rfl⟩;have ho2:o9≤19:=ho▸zbW _;obtain ⟨d9,hdw⟩:∃ d9,wordF c.l k2=d9:=⟨_,rfl⟩;have HR:=hidI (push_ok (es:=p.xs.map Prod.fst) hh (by rw [n1];decide) (.inr ⟨n1,rfl⟩) hr (.inl hd) (if_pos n1) ho (by rw [hd];decide:_=false));obtain ⟨bo,bi⟩:=zcG d9;have HHO:=hidI ho;have HHR:=hidI hr;have HHW:=hidI hdw;rw [hdw] at hd;rw [decide_eq_true hd] at bo;rw [decide_eq_false (by rw [hd];decide)] at bi;clear hd;clear h hn hN hz hkl hkn0 CH hks hh n1 hr ho hdw;have hw2:IntKind.i64.wrap (3+1)=4:=by decide
 go_enter Tryz.func104,Tryz.ntmps104
 go_wp2_with (first
  | (go_at_call 54;rw [HW1.out];refine CH2.out.mono ?_;rintro e w2 ⟨kv,rfl,hkv,hb2⟩;obtain ⟨_,qa,qc,rfl,_⟩:=id hkv;obtain ⟨kb,ko,rfl,_,_⟩:=zaB hkv (HS1.out.on hb2).below (i:=0) (k:=k0) rfl;have HKV:=hidI hkv;simp only [List.length_cons,List.length_nil,Nat.zero_add,Nat.reduceAdd];have HS2:=hidI (HS1.out.on hb2);have hs2:=HS1.out.on hb2;clear hb2 CH2;obtain ⟨_,_,e9,kq1,_⟩:=zaB HKV.out hs2.below (i:=1) (k:=k1) rfl;cases e9;clear hs2 hkv)
  | (go_at_call 103;refine Calls.mono (red_at hc hk1 HHO.out HHR.out HS2.out) ?_;rintro e w3 ⟨rfl,hb3⟩;have HS3:=hidI (HS2.out.on hb3);have hs3:=HS2.out.on hb3;clear kq1 hb3;obtain ⟨_,_,e9,kq2,_⟩:=zaB HKV.out hs3.below (i:=2) (k:=k2) rfl;cases e9;have r0:=hs3.vcell (j:=0) rfl;have z0:=hs3.vfree 0;have r1:=hs3.vcell (j:=1) rfl;have z1:=hs3.vfree 1;have r2:=hs3.vcell (j:=2) rfl;have z2:=hs3.vfree 2;have r3:=hs3.vcell (j:=3) rfl;have z3:=hs3.vfree 3;have r4:=hs3.vcell (j:=4) rfl;have z4:=hs3.vfree 4;have r5:=hs3.vcell (j:=5) rfl;have z5:=hs3.vfree 5;obtain ⟨_,_,e9,kq0,_⟩:=zaB HKV.out ((((hs3.setv (j:=0) (.int .u8 2)).setv (j:=2) (.int .u8 (o9:Int))).setv (j:=3) (.bool false)).setv (j:=0) (.int .u8 3)).below (i:=0) (k:=k0) rfl;cases e9;replace kq0:((((w3.setCell ⟨w.heap.size+1,0,none⟩ (.int .u8 2)).setCell ⟨w.heap.size+1,2,none⟩ (.int .u8 (o9:Int))).setCell ⟨w.heap.size+1,3,none⟩ (.bool false)).setCell ⟨w.heap.size+1,0,none⟩ (.int .u8 3)).cell? ⟨kb,ko,none⟩=some (.int .i64 (k0:Int)):=kq0;clear hs3)
  | (go_at_call 154;refine Calls.mono (zdN hc hk2 HHW.out HS3.out) ?_;rintro e w9 ⟨rfl,hw⟩;obtain rfl:=hw.symm)
  | (go_at_call 58;refine Calls.mono (zbS hc ((((HS3.out.setv (j:=0) (.int .u8 2)).setv (j:=2) (.int .u8 (o9:Int))).setv (j:=3) (.bool false)).setv (j:=0) (.int .u8 3)) hk0) ?_;rintro e w4 ⟨s,er1,rfl,h4,hsm,hnr⟩;have H4:=hidI h4;have HSM:=hidI hsm;have HNR:=hidI hnr;clear r0 r1 r2 r3 r4 r5 z0 z1 z2 z3 z4 z5 kq0 kq2 hsm hnr;have r1:=h4.vcell (j:=1) rfl;have z1:=h4.vfree 1;obtain ⟨_,_,e9,kq3,_⟩:=zaB HKV.out (h4.setv (j:=1) (.string s)).below (i:=3) (k:=k3) rfl;cases e9;clear h4)
  | (go_at_call 102;refine Calls.mono (zbK hc hk3 p er1 _ _ (H4.out.setv (j:=1) (.string s)) (by have:=HZ2.out;have:=HN.out;omega)) ?_;rintro e w5 ⟨p5,er5,v5,rfl,h5,d1,d2,d3,hm5,hs5⟩;have H5:=hidI h5;have HD5:=hidI (And.intro d1 (And.intro d2 d3));have HM5:=hidI hm5;have HS5:=hidI hs5;clear r1 z1 kq3 H4 d1 d2 d3 hm5 hs5;have r0:=h5.vcell (j:=0) rfl;have z0:=h5.vfree 0;have r1:=h5.vcell (j:=1) rfl;have z1:=h5.vfree 1;have r2:=h5.vcell (j:=2) rfl;have z2:=h5.vfree 2;have r3:=h5.vcell (j:=3) rfl;have z3:=h5.vfree 3;have r4:=h5.vcell (j:=4) rfl;have z4:=h5.vfree 4;have r5:=h5.vcell (j:=5) rfl;have z5:=h5.vfree 5;have q0:=h5.less.vcell (j:=0) rfl;have u0:=h5.less.vfree 0;have q1:=h5.less.vcell (j:=1) rfl;have u1:=h5.less.vfree 1;have q2:=h5.less.vcell (j:=2) rfl;have u2:=h5.less.vfree 2;have q3:=h5.less.vcell (j:=3) rfl;have u3:=h5.less.vfree 3;have q4:=h5.less.vcell (j:=4) rfl;have u4:=h5.less.vfree 4;have q5:=h5.less.vcell (j:=5) rfl;have u5:=h5.less.vfree 5;clear h5))
 refine bodyPost_ret (v:=.agg #[.int .u8 3,.string s,.int .u8 (o9:Int),.bool false,.int .i64 v5,.int .i64 (-1)]) ?_ rfl ?_
 ·rw [zaC rfl];have hF:=(H5.out.setv (j:=4) (.int .i64 v5)).less.fill6r (.int .u8 3) (.string s) (.int .u8 (o9:Int)) (.bool false) (.int .i64 v5) (.int .i64 (-1));exact zeE _ _ _ _ _ _ _ _ (hF.vcell (j:=0) rfl) (hF.vcell (j:=1) rfl) (hF.vcell (j:=2) rfl) (hF.vcell (j:=3) rfl) (hF.vcell (j:=4) rfl) (hF.vcell (j:=5) rfl)
 ·refine ⟨p5,er5,⟨3,s,o9,false,v5, -1⟩,rfl,(H5.out.setv (j:=4) (.int .i64 v5)).less.fill6 _ _ _ _ _ _,HD5.out.1,HD5.out.2.1,HD5.out.2.2,by have:=HZ2.out;have:=HM5.out;omega,⟨by show 3<256;omega,by show o9<256;omega,HSM.out⟩,?_⟩;rw [HR.out];exact zdT HNR.out HS5.out (CondR.none (by simp))
set_option maxRecDepth 100000 in
set_option maxHeartbeats 16000000 in
theorem dact_pull4_in {c:Dx} (hc:c.Ok) {n:Nat} (hn:n<c.fs.length) {p:PV} {X:List Rw} {w:World} (h:DrS c p none X w) (hN:p.many+c.sz n≤999) {wd:ByteArray} {k0 k1 k2 k3:Nat} (hh:headF c.l n=some (wd,[k0,k1,k2,k3])) (n1:wd=(⟨#[112,117,108,108]⟩:ByteArray)) (hr:redN (opOf (wordF c.l k1))=true) (hd:wordF c.l k2=(⟨#[105,110]⟩:ByteArray)) :
  Calls Tryz.prog 104 #[.pointer (some ⟨c.B,0,none⟩),.int .i64 (n:Int)] w (DaPost c p X n):=by
 have HN:=hidI hN;have hz:=hc.kids_sz hn;have HZ:=hidI hz;have hkl:=hc.kids_lt hn;have e1:(n:Int)<(c.fs.length:Int):=by omega
 have e2:(0:Int)≤(n:Int):=by omega
 obtain ⟨g,o,cap,xp,W1,HFP,HC4,HFV,HW1,HS1,HKN⟩:=zcU hc hn h;have hkn0:=HKN.out;have CH:=hidI (zbC hc HS1.out hn);obtain ⟨m0,hks⟩:=zaW hh;have hk0:k0<c.fs.length:=(hkl k0 (by rw [hks];simp)).2;have hk1:k1<c.fs.length:=(hkl k1 (by rw [hks];simp)).2;have hk2:k2<c.fs.length:=(hkl k2 (by rw [hks];simp)).2;have hk3:k3<c.fs.length:=(hkl k3 (by rw [hks];simp)).2;have HZ2:Hid (1+(c.sz k0+c.sz k1+c.sz k2+c.sz k3)≤c.sz n):=hidI (by
  have:=HZ.out;rw [hks] at this;simp only [List.map_cons,List.sum_cons,List.map_nil,List.sum_nil] at this;omega)
 have CH2:=hidI (zbQ CH.out hh);obtain ⟨bp,bs,bl⟩:=zbU wd;rw [decide_eq_false (by rw [n1];decide)] at bp;rw [decide_eq_false (by rw [n1];decide)] at bs;rw [decide_eq_true n1] at bl;obtain ⟨o9,ho⟩:∃ o9,opOf (wordF c.l k1)=o9:=⟨_,rfl⟩;have ho2:o9≤19:=ho▸zbW _;obtain ⟨d9,hdw⟩:∃ d9,wordF c.l k2=d9:=⟨_,rfl⟩;have HR:=hidI (push_ok (es:=p.xs.map Prod.fst) hh (by rw [n1];decide) (.inr ⟨n1,rfl⟩) hr (.inr hd) (if_pos n1) ho (by rw [hd];decide:_=true));obtain ⟨bo,bi⟩:=zcG d9;have HHO:=hidI ho;have HHR:=hidI hr;have HHW:=hidI hdw;rw [hdw] at hd;rw [decide_eq_false (by rw [hd];decide)] at bo;rw [decide_eq_true hd] at bi;clear hd;clear h hn hN hz hkl hkn0 CH hks hh n1 hr ho hdw;have hw2:IntKind.i64.wrap (3+1)=4:=by decide
 go_enter Tryz.func104,Tryz.ntmps104
 go_wp2_with (first
  | (go_at_call 54;rw [HW1.out];refine CH2.out.mono ?_;rintro e w2 ⟨kv,rfl,hkv,hb2⟩;obtain ⟨_,qa,qc,rfl,_⟩:=id hkv;obtain ⟨kb,ko,rfl,_,_⟩:=zaB hkv (HS1.out.on hb2).below (i:=0) (k:=k0) rfl;have HKV:=hidI hkv;simp only [List.length_cons,List.length_nil,Nat.zero_add,Nat.reduceAdd];have HS2:=hidI (HS1.out.on hb2);have hs2:=HS1.out.on hb2;clear hb2 CH2;obtain ⟨_,_,e9,kq1,_⟩:=zaB HKV.out hs2.below (i:=1) (k:=k1) rfl;cases e9;clear hs2 hkv)
  | (go_at_call 103;refine Calls.mono (red_at hc hk1 HHO.out HHR.out HS2.out) ?_;rintro e w3 ⟨rfl,hb3⟩;have HS3:=hidI (HS2.out.on hb3);have hs3:=HS2.out.on hb3;clear kq1 hb3;obtain ⟨_,_,e9,kq2,_⟩:=zaB HKV.out hs3.below (i:=2) (k:=k2) rfl;cases e9;have r0:=hs3.vcell (j:=0) rfl;have z0:=hs3.vfree 0;have r1:=hs3.vcell (j:=1) rfl;have z1:=hs3.vfree 1;have r2:=hs3.vcell (j:=2) rfl;have z2:=hs3.vfree 2;have r3:=hs3.vcell (j:=3) rfl;have z3:=hs3.vfree 3;have r4:=hs3.vcell (j:=4) rfl;have z4:=hs3.vfree 4;have r5:=hs3.vcell (j:=5) rfl;have z5:=hs3.vfree 5;obtain ⟨_,_,e9,kq0,_⟩:=zaB HKV.out ((((hs3.setv (j:=0) (.int .u8 2)).setv (j:=2) (.int .u8 (o9:Int))).setv (j:=3) (.bool true)).setv (j:=0) (.int .u8 3)).below (i:=0) (k:=k0) rfl;cases e9;replace kq0:((((w3.setCell ⟨w.heap.size+1,0,none⟩ (.int .u8 2)).setCell ⟨w.heap.size+1,2,none⟩ (.int .u8 (o9:Int))).setCell ⟨w.heap.size+1,3,none⟩ (.bool true)).setCell ⟨w.heap.size+1,0,none⟩ (.int .u8 3)).cell? ⟨kb,ko,none⟩=some (.int .i64 (k0:Int)):=kq0;clear hs3)
  | (go_at_call 154;refine Calls.mono (zdN hc hk2 HHW.out HS3.out) ?_;rintro e w9 ⟨rfl,hw⟩;obtain rfl:=hw.symm)
  | (go_at_call 58;refine Calls.mono (zbS hc ((((HS3.out.setv (j:=0) (.int .u8 2)).setv (j:=2) (.int .u8 (o9:Int))).setv (j:=3) (.bool true)).setv (j:=0) (.int .u8 3)) hk0) ?_;rintro e w4 ⟨s,er1,rfl,h4,hsm,hnr⟩;have H4:=hidI h4;have HSM:=hidI hsm;have HNR:=hidI hnr;clear r0 r1 r2 r3 r4 r5 z0 z1 z2 z3 z4 z5 kq0 kq2 hsm hnr;have r1:=h4.vcell (j:=1) rfl;have z1:=h4.vfree 1;obtain ⟨_,_,e9,kq3,_⟩:=zaB HKV.out (h4.setv (j:=1) (.string s)).below (i:=3) (k:=k3) rfl;cases e9;clear h4)
  | (go_at_call 102;refine Calls.mono (zbK hc hk3 p er1 _ _ (H4.out.setv (j:=1) (.string s)) (by have:=HZ2.out;have:=HN.out;omega)) ?_;rintro e w5 ⟨p5,er5,v5,rfl,h5,d1,d2,d3,hm5,hs5⟩;have H5:=hidI h5;have HD5:=hidI (And.intro d1 (And.intro d2 d3));have HM5:=hidI hm5;have HS5:=hidI hs5;clear r1 z1 kq3 H4 d1 d2 d3 hm5 hs5;have r0:=h5.vcell (j:=0) rfl;have z0:=h5.vfree 0;have r1:=h5.vcell (j:=1) rfl;have z1:=h5.vfree 1;have r2:=h5.vcell (j:=2) rfl;have z2:=h5.vfree 2;have r3:=h5.vcell (j:=3) rfl;have z3:=h5.vfree 3;have r4:=h5.vcell (j:=4) rfl;have z4:=h5.vfree 4;have r5:=h5.vcell (j:=5) rfl;have z5:=h5.vfree 5;have q0:=h5.less.vcell (j:=0) rfl;have u0:=h5.less.vfree 0;have q1:=h5.less.vcell (j:=1) rfl;have u1:=h5.less.vfree 1;have q2:=h5.less.vcell (j:=2) rfl;have u2:=h5.less.vfree 2;have q3:=h5.less.vcell (j:=3) rfl;have u3:=h5.less.vfree 3;have q4:=h5.less.vcell (j:=4) rfl;have u4:=h5.less.vfree 4;have q5:=h5.less.vcell (j:=5) rfl;have u5:=h5.less.vfree 5;clear h5))
 refine bodyPost_ret (v:=.agg #[.int .u8 3,.string s,.int .u8 (o9:Int),.bool true,.int .i64 v5,.int .i64 (-1)]) ?_ rfl ?_
 ·rw [zaC rfl];have hF:=(H5.out.setv (j:=4) (.int .i64 v5)).less.fill6r (.int .u8 3) (.string s) (.int .u8 (o9:Int)) (.bool true) (.int .i64 v5) (.int .i64 (-1));exact zeE _ _ _ _ _ _ _ _ (hF.vcell (j:=0) rfl) (hF.vcell (j:=1) rfl) (hF.vcell (j:=2) rfl) (hF.vcell (j:=3) rfl) (hF.vcell (j:=4) rfl) (hF.vcell (j:=5) rfl)
 ·refine ⟨p5,er5,⟨3,s,o9,true,v5, -1⟩,rfl,(H5.out.setv (j:=4) (.int .i64 v5)).less.fill6 _ _ _ _ _ _,HD5.out.1,HD5.out.2.1,HD5.out.2.2,by have:=HZ2.out;have:=HM5.out;omega,⟨by show 3<256;omega,by show o9<256;omega,HSM.out⟩,?_⟩;rw [HR.out];exact zdT HNR.out HS5.out (CondR.none (by simp))
theorem len2e {α:Type}:∀ {l:List α},l.length=2→∃ a b,l=[a,b]
 | [a,b],_=>⟨a,b,rfl⟩
theorem len3e {α:Type}:∀ {l:List α},l.length=3→∃ a b c,l=[a,b,c]
 | [a,b,c],_=>⟨a,b,c,rfl⟩
theorem len4e {α:Type}:∀ {l:List α},l.length=4→∃ a b c d,l=[a,b,c,d]
 | [a,b,c,d],_=>⟨a,b,c,d,rfl⟩
theorem len5e {α:Type}:∀ {l:List α},l.length=5→∃ a b c d e,l=[a,b,c,d,e]
 | [a,b,c,d,e],_=>⟨a,b,c,d,e,rfl⟩
theorem dact_any {c:Dx} (hc:c.Ok) {n:Nat} (hn:n<c.fs.length) {p:PV} {X:List Rw} {w:World} (h:DrS c p none X w) (hN:p.many+c.sz n≤999) :
  Calls Tryz.prog 104 #[.pointer (some ⟨c.B,0,none⟩),.int .i64 (n:Int)] w (DaPost c p X n):=by
 cases hh:headF c.l n with
 | none=>exact dact_none hc hn h hN hh
 | some q=>
  obtain ⟨wd,ks⟩:=q;by_cases h1:wd=(⟨#[112,117,116]⟩:ByteArray)
  ·by_cases h2:ks.length=2
   ·obtain ⟨k0,k1,rfl⟩:=len2e h2;exact dact_put2 hc hn h hN hh h1
   by_cases h3:ks.length=3
   ·obtain ⟨k0,k1,k2,rfl⟩:=len3e h3;exact dact_put3 hc hn h hN hh h1
   exact dact_bad hc hn h hN hh (.inr (.inl ⟨h1,fun e=>e.elim h2 h3⟩))
  by_cases h2:wd=(⟨#[112,117,115,104]⟩:ByteArray)
  ·by_cases h4:ks.length=4
   ·obtain ⟨k0,k1,k2,k3,rfl⟩:=len4e h4;cases hr:redN (opOf (wordF c.l k1)) with
    | false=>exact dact_push4_red hc hn h hN hh h2 hr
    | true=>
     by_cases ho:wordF c.l k2=(⟨#[111,117,116]⟩:ByteArray)
     ·exact dact_push4_out hc hn h hN hh h2 hr ho
     by_cases hi:wordF c.l k2=(⟨#[105,110]⟩:ByteArray)
     ·exact dact_push4_in hc hn h hN hh h2 hr hi
     exact dact_push4_dir hc hn h hN hh h2 hr (fun e=>e.elim ho hi)
   by_cases h5:ks.length=5
   ·obtain ⟨k0,k1,k2,k3,k4,rfl⟩:=len5e h5;cases hr:redN (opOf (wordF c.l k1)) with
    | false=>exact dact_push5_red hc hn h hN hh h2 hr
    | true=>
     by_cases ho:wordF c.l k2=(⟨#[111,117,116]⟩:ByteArray)
     ·exact dact_push5_out hc hn h hN hh h2 hr ho
     by_cases hi:wordF c.l k2=(⟨#[105,110]⟩:ByteArray)
     ·exact dact_push5_in hc hn h hN hh h2 hr hi
     exact dact_push5_dir hc hn h hN hh h2 hr (fun e=>e.elim ho hi)
   exact dact_bad hc hn h hN hh (.inr (.inr (.inl ⟨h2,fun e=>e.elim h4 h5⟩)))
  by_cases h3:wd=(⟨#[112,117,108,108]⟩:ByteArray)
  ·by_cases h4:ks.length=4
   ·obtain ⟨k0,k1,k2,k3,rfl⟩:=len4e h4;cases hr:redN (opOf (wordF c.l k1)) with
    | false=>exact dact_pull4_red hc hn h hN hh h3 hr
    | true=>
     by_cases ho:wordF c.l k2=(⟨#[111,117,116]⟩:ByteArray)
     ·exact dact_pull4_out hc hn h hN hh h3 hr ho
     by_cases hi:wordF c.l k2=(⟨#[105,110]⟩:ByteArray)
     ·exact dact_pull4_in hc hn h hN hh h3 hr hi
     exact dact_pull4_dir hc hn h hN hh h3 hr (fun e=>e.elim ho hi)
   exact dact_bad hc hn h hN hh (.inr (.inr (.inr ⟨h3,h4⟩)))
  exact dact_bad hc hn h hN hh (.inl ⟨h1,h2,h3⟩)
def DsPost (c:Dx) (p:PV) (X:List Rw) (f n:Nat) (e:Ending) (w':World):Prop:=
 ∃ p' er' v,e=.returned (.int .i64 v)∧DrS c p' er' X w'∧p'.ds=p.ds∧p'.ms=p.ms∧p'.many≤p.many+c.sz n∧StepR (rdStmt c.l f) n none p.es er' v p'.es
def DS2 (c:Dx) (f n:Nat):Prop:=∀ (p:PV) (X:List Rw) (w:World),DrS c p none X w→p.many+c.sz n≤999→Calls Tryz.prog 56 #[.pointer (some ⟨c.B,0,none⟩),.int .i64 (n:Int)] w (DsPost c p X f n)
def DtPost (c:Dx) (p:PV) (X:List Rw) (f:Nat) (ks:List Nat) (e:Ending) (w':World):Prop:=
 ∃ p' er' is kv,e=.returned kv∧DrS c p' er' (iRow kv is::X) w'∧p'.ds=p.ds∧p'.ms=p.ms∧p'.many≤p.many+(ks.map c.sz).sum∧is.length≤ks.length∧Going (rdStmt c.l f) [] (rows (rdStmt c.l f) ks p.es) is er' p'.es
theorem DrS.putr {c:Dx} {p:PV} {er:Option (Int × Int)} {X:List Rw} {w w':World} {r r':Rw} (h:DrS c p er (r::X) w) (hg:w.grownBy w' r.v.ownBlock) (ho:Own w' c.w0.heap.size r') (hb:r'.v.ownBlock=r.v.ownBlock∨r'.v.ownBlock=some w.heap.size):DrS c p er (r'::X) w':=
 ⟨h.below.grown hg h.below.size (fun k hk=>(h.first.head.lt k hk).1),((h.first.put hg ho (.inr hb)).perm List.perm_middle.symm),h.ok⟩
set_option maxRecDepth 100000 in
set_option maxHeartbeats 8000000 in
theorem dstmts_any {c:Dx} {f:Nat} {ks:List Nat} (IH:∀ k∈ks,DS2 c f k) {p:PV} {X:List Rw} {w:World} (h:DrS c p none X w) {lv:Value} (hv:SeesC c.w0 lv ks.length 1 (ints ks)) (hkn:ks.length≤400) (hN:p.many+(ks.map c.sz).sum≤999) :
  Calls Tryz.prog 105 #[.pointer (some ⟨c.B,0,none⟩),lv] w (DtPost c p X f ks):=by
 obtain ⟨_,qa,qc,rfl,_⟩:=id hv;obtain ⟨kl,hkl0⟩:∃ kl,ks.length=kl:=⟨_,rfl⟩;obtain ⟨T,hT⟩:∃ T,rows (rdStmt c.l f) ks p.es=T:=⟨_,rfl⟩;have HG0:Hid (Going (rdStmt c.l f) (ks.drop 0) T [] none p.es):=hidI (by rw [←hT];exact Going.start _ _ _);have HKV:=hidI hv;have HKL:=hidI hkl0;have HIH:=hidI IH;have HN:=hidI hN;have HS0:=hidI h.nilI;have HT:=hidI hT;rw [hkl0] at hkn ⊢;clear hv IH hN h hT;go_enter Tryz.func105,Tryz.ntmps105;go_wp2
 go_loopg [5,6] kl (fun g s5 s6 wx=>∃ (i:Nat) (p':PV) (er':Option (Int × Int)) (is:List Int) (kv:Value),i+g=kl∧kv=s5∧s6=.int .i64 (i:Int)∧is.length=i∧Hid (DrS c p' er' (iRow kv is::X) wx)∧Hid (p'.ds=p.ds∧p'.ms=p.ms)∧Hid (p'.many+((ks.drop i).map c.sz).sum≤p.many+(ks.map c.sz).sum)∧Hid (Going (rdStmt c.l f) (ks.drop i) T is er' p'.es))
 case atStart=>exact ⟨0,p,none,[],.slice none 0 0,by omega,rfl,rfl,rfl,HS0,hidI ⟨rfl,rfl⟩,hidI (by simp),HG0⟩
 case round=>
  clear HS0 HG0;obtain ⟨i,p',er',is,kv,hi,rfl,rfl,hil,HD,HPP,HM,HG⟩:=hrel;have HMM:Hid (p'.many≤p.many+(ks.map c.sz).sum):=hidI (by have:=HM.out;omega);subst hil;cases er' with
  | some x=>
   have hg:Going (rdStmt c.l f) [] (rows (rdStmt c.l f) ks p.es) is (some x) p'.es:=by
    have:=HG.out;rw [HT.out];exact this
   have HG2:=hidI hg;have HIL:Hid (is.length≤ks.length):=hidI (by have:=HKL.out;omega);have b5:=HD.out.cell (j:=5) (u:=.bool true) rfl;clear hg HG HM;cases gk with
   | zero=>
    obtain rfl:kl=is.length:=by omega
    have k1:decide ((is.length:Int)<(is.length:Int))=false:=by simp
    go_wp2;go_ret;exact ⟨p',_,is,kv,rfl,HD.out,HPP.out.1,HPP.out.2,HMM.out,HIL.out,HG2.out⟩
   | succ g=>
    have k1:(is.length:Int)<(kl:Int):=by omega
    go_wp2;go_ret;exact ⟨p',_,is,kv,rfl,HD.out,HPP.out.1,HPP.out.2,HMM.out,HIL.out,HG2.out⟩
  | none=>
   have b5:=HD.out.cell (j:=5) (u:=.bool false) rfl;cases gk with
   | zero=>
    obtain rfl:kl=is.length:=by omega
    have k1:decide ((is.length:Int)<(is.length:Int))=false:=by simp
    have hd0:ks.drop is.length=[]:=List.drop_eq_nil_of_le (by have:=HKL.out;omega);have hg:=HG.out;rw [hd0,←HT.out] at hg;have HG2:=hidI hg;have HIL:Hid (is.length≤ks.length):=hidI (by have:=HKL.out;omega);clear hg HG HM hd0;go_wp2;go_ret;exact ⟨p',_,is,kv,rfl,HD.out,HPP.out.1,HPP.out.2,HMM.out,HIL.out,HG2.out⟩
   | succ g=>
    have k1:(is.length:Int)<(kl:Int):=by omega
    obtain ⟨k,hk⟩:∃ k,ks[is.length]?=some k:=⟨_,List.getElem?_eq_getElem (by have:=HKL.out;omega)⟩;have hkm:=List.mem_of_getElem? hk;have hdr:ks.drop is.length=k::ks.drop (is.length+1):=by
     rw [List.drop_eq_getElem_cons (by have:=HKL.out;omega)];congr 1;exact Option.some.inj ((List.getElem?_eq_getElem _).symm.trans hk)
    obtain ⟨kb,ko,rfl,kq,_⟩:=zaB HKV.out HD.out.below hk;have hm:=HM.out;have hg:=HG.out;rw [hdr] at hm hg;simp only [List.map_cons,List.sum_cons] at hm;have hbd:p'.many+c.sz k≤999:=by have:=HN.out;omega
    have HC:=hidI (HIH.out k hkm p' _ _ HD.out hbd);have HM2:=hidI hm;have HG2:=hidI hg;have hil2:is.length≤1000:=by omega
    clear hm hg hdr hbd hkm HG HM HMM hk
    go_wp2_with (first
     | (go_at_call 56;refine HC.out.mono ?_;rintro e w9 ⟨p2,er2,v,rfl,hS2,q1,q2,q3,q4⟩;have HS2:=hidI hS2;have HQ:=hidI (And.intro q1 q2);have HQ3:=hidI q3;have HQ4:=hidI q4;have HO2:=hidI (World.ownsRow.alloc hS2.first.head (.cells #[.int .i64 v] 3));have HVS:=hidI (zdR w9 3 1 #[.int .i64 v] rfl);have hz9:=hS2.size;clear hS2 q1 q2 q3 q4 HC kq b5)
     | (at_builtin;go_must (refine zaF Tryz.underlying25 Tryz.info3z rfl (by decide) (by decide) rfl _ _ rfl c.w0.heap.size kv is.length (intsI is) rfl HO2.out _ 1 [.int .i64 v] rfl HVS.out (by simp [Value.oneCell']) (by omega) (by simp;omega) ?_);intro v9 w10 hown9 hgrow9 hat9;refine Hid.out ?_))
    have s5:=DrS.putr (r':=iRow v9 (is++[v])) (HS2.out.alloc (.cells #[.int .i64 v] 3)) hgrow9 (by
     show w10.ownsRow c.w0.heap.size 3 1 v9 (is++[v]).length (intsI (is++[v]));rw [List.length_append];simpa [intsI] using hown9) (by simpa [iRow] using hat9)
    have HS5:=hidI s5;have HP9:Hid (p2.ds=p.ds∧p2.ms=p.ms):=hidI ⟨HQ.out.1.trans HPP.out.1,HQ.out.2.trans HPP.out.2⟩;have HM9:Hid (p2.many+((ks.drop (is.length+1)).map c.sz).sum≤p.many+(ks.map c.sz).sum):=hidI (by have:=HM2.out;have:=HQ3.out;omega);have HG9:=hidI (HG2.out.step HQ4.out);clear hown9 hgrow9 hat9 s5 HS2 HO2 HVS HM2 HG2 HPP HQ HQ3 HQ4 HD;refine hidI ?_;go_wp2;go_roundg g
    case measure=>omega
    case rel=>exact ⟨is.length+1,p2,er2,is++[v],v9,by omega,rfl,by go_num,by simp,HS5,HP9,HM9,HG9⟩
theorem DrS.nilA {c:Dx} {p:PV} {er:Option (Int × Int)} {X:List Rw} {w:World} (h:DrS c p er X w):DrS c p er (aRow (.slice none 0 0) []::X) w:=h.more (h.rows.nil 75 6)
theorem DrS.vfarS {c:Dx} {p:PV} {er:Option (Int × Int)} {X:List Rw} {w:World} {V ty n:Nat} {bs:List Value} (h:DrS c p er (⟨bx V,ty,n,1,bs⟩::X) w):p.sv.ownBlock≠some V:=by
 have h1:=h.first.far_head (sRow p) (by simp [drows]);rcases h1 with e|e
 ·cases e
 ·exact fun e2=>e e2.symm
theorem DsPost.bad {c:Dx} {p p':PV} {X:List Rw} {f n:Nat} {w':World} {a v:Int} (hr:rdStmt c.l f n p.es=.error a) (h:DrS c p' (some (a,8)) X w') (h1:p'.ds=p.ds) (h2:p'.ms=p.ms) (h4:p'.many≤p.many+c.sz n):DsPost c p X f n (.returned (.int .i64 v)) w':=by
 refine ⟨_,_,_,rfl,h,h1,h2,h4,?_⟩;simp only [StepR];rw [hr]
theorem DsPost.ok {c:Dx} {p p':PV} {X:List Rw} {f n:Nat} {w':World} {sv:SV} {u:Value} {q:ES} (hr:rdStmt c.l f n p.es=addS q sv.s) (hq:p'.es=q) (h:DrS c { p' with ss:=p'.ss++[sv],sv:=u } none X w') (h1:p'.ds=p.ds) (h2:p'.ms=p.ms) (h4:p'.many+1≤p.many+c.sz n):DsPost c p X f n (.returned (.int .i64 (p'.ss.length:Int))) w':=by
 refine ⟨_,_,_,rfl,h,h1,h2,by simp [PV.many] at h4 ⊢;omega,?_⟩;simp only [StepR];rw [hr,←hq];simp [addS,PV.es]
theorem zeD {c:Dx} (hc:c.Ok) {n:Nat} (hn:n<c.fs.length) {p:PV} {X:List Rw} {w:World} (h:DrS c p none X w):∃ (g o cap:Nat) (xp:Int) (W1:World),Hid ((frm c.l n).p=xp)∧Hid (∀ u:World,Below c.w0.heap.size c.w0 u→u.cell? ⟨g,o+n*5+4,none⟩=some (.int .i64 xp))∧Hid (c.fv=.slice (some ⟨g,o,none⟩) c.fs.length cap)∧Hid (w.alloc (.cells #[.int .u8 0,.string ⟨#[]⟩,.int .u8 0,.int .i64 (-1),.int .i64 (-1),.slice none 0 0,.slice none 0 0,.slice none 0 0] 49)=W1)∧Hid (DrS c p none (⟨bx w.heap.size,49,8,1,[.int .u8 0,.string ⟨#[]⟩,.int .u8 0,.int .i64 (-1),.int .i64 (-1),.slice none 0 0,.slice none 0 0,.slice none 0 0]⟩::aRow (.slice none 0 0) []::iRow (.slice none 0 0) []::iRow (.slice none 0 0) []::X) W1)∧Hid ((frm c.l n).kids.length≤400):=by
 obtain ⟨x,hx⟩:∃ x,c.fs[n]?=some x:=⟨_,List.getElem?_eq_getElem hn⟩;obtain ⟨g,o,cap,hv,y0,y1,y2,y3,y4⟩:=hc.form h.below hx;have hfx:=Dx.frm_at hx;have hkn0:=hc.kidlen n x hx;obtain ⟨xp,hxp⟩:∃ xp,x.1.p=xp:=⟨_,rfl⟩;have HFP:Hid ((frm c.l n).p=xp):=hidI (by rw [hfx,hxp]);have HC4:Hid (∀ u:World,Below c.w0.heap.size c.w0 u→u.cell? ⟨g,o+n*5+4,none⟩=some (.int .i64 xp)):=hidI (fun u hu=>by
  obtain ⟨g2,o2,cap2,hv2,_,_,_,_,q4⟩:=hc.form hu hx;rw [hv] at hv2;cases hv2;rw [←hxp];exact q4)
 have HFV:Hid (c.fv=.slice (some ⟨g,o,none⟩) c.fs.length cap):=hidI hv;obtain ⟨W1,hW1⟩:∃ W1,w.alloc (.cells #[.int .u8 0,.string ⟨#[]⟩,.int .u8 0,.int .i64 (-1),.int .i64 (-1),.slice none 0 0,.slice none 0 0,.slice none 0 0] 49)=W1:=⟨_,rfl⟩;have HS1:Hid (DrS c p none (⟨bx w.heap.size,49,8,1,[.int .u8 0,.string ⟨#[]⟩,.int .u8 0,.int .i64 (-1),.int .i64 (-1),.slice none 0 0,.slice none 0 0,.slice none 0 0]⟩::aRow (.slice none 0 0) []::iRow (.slice none 0 0) []::iRow (.slice none 0 0) []::X) W1):=hidI (by
  have h1:=(h.nilI.nilI.nilA).var #[.int .u8 0,.string ⟨#[]⟩,.int .u8 0,.int .i64 (-1),.int .i64 (-1),.slice none 0 0,.slice none 0 0,.slice none 0 0] 49 8 rfl;rw [hW1] at h1;exact h1)
 have HW1:=hidI hW1;exact ⟨g,o,cap,xp,W1,HFP,HC4,HFV,HW1,HS1,hidI (by rw [hfx];exact hkn0)⟩
theorem zcQ (wd:ByteArray):(wd.toList==[115,101,116])=decide (wd=(⟨#[115,101,116]⟩:ByteArray))∧(wd.toList==[102,111,108,100])=decide (wd=(⟨#[102,111,108,100]⟩:ByteArray))∧(wd.toList==[101,97,99,104])=decide (wd=(⟨#[101,97,99,104]⟩:ByteArray))∧(wd.toList==[105,102])=decide (wd=(⟨#[105,102]⟩:ByteArray))∧(wd.toList==[119,104,105,108,101])=decide (wd=(⟨#[119,104,105,108,101]⟩:ByteArray))∧(wd.toList==[108,111,111,112])=decide (wd=(⟨#[108,111,111,112]⟩:ByteArray))∧(wd.toList==[98,102,115])=decide (wd=(⟨#[98,102,115]⟩:ByteArray)):=⟨zdP _ _ _ (by decide +kernel),zdP _ _ _ (by decide +kernel),zdP _ _ _ (by decide +kernel),zdP _ _ _ (by decide +kernel),zdP _ _ _ (by decide +kernel),zdP _ _ _ (by decide +kernel),zdP _ _ _ (by decide +kernel)⟩
end Go.Proofs.YtfljimpgnlfipaaGreatDoor
