/-
  Part 10 of the proof: DrE4, DrE5, DrF, DrA0, DrA1.
-/
import Derived.Test.YtfljimpgnlfipaaGreatDoorTE09
namespace Go.Proofs.YtfljimpgnlfipaaGreatDoor
open Go.RowKit Go.Deep Go.MapKept
set_option maxRecDepth 100000 in
set_option maxHeartbeats 16000000 in
theorem dexpr_deg {c:Dx} (hc:c.Ok) {f n:Nat} (hn:n<c.fs.length) {p:PV} {X:List Rw} {w:World} (h:DrS c p none X w) (hN:p.many+c.sz n≤999) {wd:ByteArray} {ks:List Nat} (hk4:¬ (frm c.l n).k=4) (hk3:¬ (frm c.l n).k=3) (hh:headF c.l n=some (wd,ks)) (hc0:colOf wd=0) (hb0:bareOf wd=0) (hd:wd=(⟨#[100,101,103]⟩:ByteArray)) :
  Calls Tryz.prog 102 #[.pointer (some ⟨c.B,0,none⟩),.int .i64 (n:Int)] w (DxPost c p none X (f+1) n):=by
 have HN:=hidI hN;have hz:=hc.kids_sz hn;have hz1:1≤c.sz n:=by omega
 have HZ:=hidI hz;have HZ1:=hidI hz1;have hkl:=hc.kids_lt hn;obtain ⟨x,hx⟩:∃ x,c.fs[n]?=some x:=⟨_,List.getElem?_eq_getElem hn⟩;obtain ⟨g,o,cap,hv,y0,y1,y2,y3,y4⟩:=hc.form h.below hx;have b0:=h.cell (j:=0) (u:=c.fv) rfl;have b5:=h.cell (j:=5) (u:=.bool false) rfl;rw [hv] at b0;have e1:(n:Int)<(c.fs.length:Int):=by omega
 have e2:(0:Int)≤(n:Int):=by omega
 have hfx:=Dx.frm_at hx;have htx:=hc.txt n x hx;obtain ⟨hk,_⟩:=hc.kid n x hx;have hkn0:=hc.kidlen n x hx;obtain ⟨⟨xk,xs,xn,xks,xp⟩,xv⟩:=x;simp only at y0 y1 y2 y3 y4 hfx htx hk hkn0;have hkv:∃ ka kc,xv=.slice ka xks.length kc:=by
  obtain ⟨_,a,cap,e,_⟩:=hk;exact ⟨a,cap,e⟩
 obtain ⟨ka,kc,rfl⟩:=hkv;obtain ⟨W1,hW1⟩:∃ W1,w.alloc (.cells #[.int .u8 xk,.string xs,.int .i64 xn,.slice ka xks.length kc,.int .i64 xp] 97)=W1:=⟨_,rfl⟩;have HS1:Hid (DrS c p none X W1):=hidI (hW1▸h.alloc _);have HW1:=hidI hW1;have a4:W1.cell? ⟨w.heap.size,4,none⟩=some (.int .i64 xp):=by
  rw [←hW1,cell_of_row _ w.heap.size 4 _ _ (0,0) (MapKept.heap_alloc w _).1];rfl
 have HA4:=hidI a4;have HNL:=hidI hn;rw [hfx] at hk4 hk3;simp only at hk4 hk3;have d4:(xk==4)=false:=by simpa using hk4
 have d3:(xk==3)=false:=by simpa using hk3
 have CH:=hidI (zbC hc HS1.out HNL.out);have CF:=hidI (fun (W:World) (hb:Below W1.heap.size W1 W)=>zbG (HS1.out.on hb) xp 8);clear hv h hx hk hn htx hN hz hz1 hW1 a4;obtain ⟨m0,hks⟩:=zaW hh;have hk2:∀ k∈ks,k<c.fs.length:=fun k hk=>(hkl k (by rw [hks];exact List.mem_cons_of_mem _ hk)).2
 have HZ2:Hid (1+(ks.map c.sz).sum≤c.sz n):=hidI (by
  have:=HZ.out;rw [hks] at this;simp only [List.map_cons,List.sum_cons] at this;omega)
 have hkn:ks.length≤400:=by
  have:=hkn0;rw [show xks=m0::ks from (by rw [←hks,hfx])] at this;simp only [List.length_cons] at this;omega
 have HRD:Hid (∀ es,rdExpr c.l (f+1) n es=_):=hidI (fun es=>zfA (es:=es) (by rw [hfx];exact hk4) (by rw [hfx];exact hk3) hh);have HFP:Hid ((frm c.l n).p=xp):=hidI (by rw [hfx]);have CH2:Hid (Calls Tryz.prog 54 #[.pointer (some ⟨c.B,0,none⟩),.int .i64 (n:Int)] W1 fun e w'=>∃ kv,e=.returned (.tuple #[.string wd,kv,.bool true])∧SeesC c.w0 kv ks.length 1 (ints ks)∧Below W1.heap.size W1 w'):=hidI (by
  refine CH.out.mono fun e w' h => ?_
  unfold HdPost at h;rw [hh] at h;obtain ⟨⟨kv,h1,h2⟩,h3⟩:=h;exact ⟨kv,h1,h2,h3⟩)
 have HK2:=hidI hk2;obtain ⟨cw,hcw⟩:∃ cw,colOf wd=cw:=⟨_,rfl⟩;obtain ⟨bw,hbw⟩:∃ bw,bareOf wd=bw:=⟨_,rfl⟩;obtain ⟨ow,how⟩:∃ ow,opOf wd=ow:=⟨_,rfl⟩;have how2:ow≤19:=how▸zbW wd;have CC:Hid (∀ W,Calls Tryz.prog 152 #[.string wd] W fun e w'=>e=.returned (.int .u8 (cw:Int))∧w'=W):=hidI (fun W=>by rw [←hcw];exact zfH wd W);have CB:Hid (∀ W,Calls Tryz.prog 153 #[.string wd] W fun e w'=>e=.returned (.int .u8 (bw:Int))∧w'=W):=hidI (fun W=>by rw [←hbw];exact dbare_any wd W);have CO:Hid (∀ W,Calls Tryz.prog 155 #[.string wd] W fun e w'=>e=.returned (.tuple #[.int .u8 (ow:Int),.bool (decide (ow≠0))])∧Below W.heap.size W w'):=hidI (fun W=>by rw [←how];exact zeA wd W);have CA:=hidI (fun W=>darity_any ow how2 W);have bd:=zbT wd (⟨#[100,101,103]⟩:ByteArray);rw [show (⟨#[100,101,103]⟩:ByteArray).toList=[100,101,103] from by decide +kernel] at bd;obtain ⟨kl,hkl0⟩:∃ kl,ks.length=kl:=⟨_,rfl⟩;have hkl1:kl≤400:=hkl0▸hkn;have hcw2:cw<256:=hcw▸colOf_lt wd;have hbw2:bw<256:=hbw▸bareOf_lt wd;clear hfx hkl hk4 hk3 hh CH hks hk2 hkn;rw [hcw] at hc0;rw [hbw] at hb0;have fc:((cw:Int)==0)=true:=eq_beq hc0;have fc2:(cw:Int)=0:=by omega
 have fb:((bw:Int)==0)=true:=eq_beq hb0;have fb2:(bw:Int)=0:=by omega
 rw [decide_eq_true hd] at bd;have ho0:ow=0:=by rw [←how,hd];exact deg_alone
 have fo:decide (ow≠0)=false:=by simp [ho0]
 by_cases h1:kl=1
 ·have fl:((kl:Int)==1)=true:=eq_beq h1;obtain ⟨k0,rfl⟩:∃ k0,ks=[k0]:=List.length_eq_one_iff.1 (hkl0.trans h1);have hk0:=HK2.out k0 (by simp);obtain ⟨wf,hwf⟩:∃ wf,wordF c.l k0=wf:=⟨_,rfl⟩;have CW:Hid (∀ W,Below W1.heap.size W1 W→Calls Tryz.prog 154 #[.pointer (some ⟨c.B,0,none⟩),.int .i64 (k0:Int)] W fun e w'=>e=.returned (.string wf)∧w'=W):=hidI (fun W hb=>by rw [←hwf];exact dword_any hc (HS1.out.on hb) hk0);have b1:=zbT wf (⟨#[111,117,116]⟩:ByteArray);rw [show (⟨#[111,117,116]⟩:ByteArray).toList=[111,117,116] from by decide +kernel] at b1;have b2:=zbT wf (⟨#[105,110]⟩:ByteArray);rw [show (⟨#[105,110]⟩:ByteArray).toList=[105,110] from by decide +kernel] at b2;by_cases hw1:wf=(⟨#[111,117,116]⟩:ByteArray)
  ·rw [decide_eq_true hw1] at b1;have HR:Hid (rdExpr c.l (f+1) n (p.xs.map Prod.fst)=addE (p.xs.map Prod.fst) ⟨8,0,0,emptyS,0,[]⟩):=hidI (by rw [HRD.out,if_neg (by rw [hcw];simp [hc0]),if_neg (by rw [hbw];simp [hb0]),if_pos ⟨hd,rfl,hwf.trans hw1⟩]);clear HRD HZ2 HK2;clear hd how hcw hbw;clear hw1 b2;go_enter Tryz.func102,Tryz.ntmps102
   go_wp2_with (first
    | (go_at_call 54;rw [HW1.out];refine CH2.out.mono ?_;rintro e w2 ⟨kv,rfl,hkv,hb2⟩;obtain ⟨_,qa,qc,rfl,_⟩:=id hkv;obtain ⟨kb,ko,rfl,kq,_⟩:=zaB hkv (HS1.out.on hb2).below (i:=0) (k:=k0) rfl;have kq:w2.cell? ⟨kb,ko,none⟩=some (.int .i64 (k0:Int)):=kq;have HB2:=hidI hb2;have a4:=zaJ hb2 HA4.out;clear hb2 CH2 hkv)
    | (go_at_call 152;refine Calls.mono (CC.out _) ?_;rintro e wc ⟨rfl,rfl⟩)
    | (go_at_call 153;refine Calls.mono (CB.out _) ?_;rintro e wb ⟨rfl,rfl⟩)
    | (go_at_call 154;refine Calls.mono (CW.out _ HB2.out) ?_;rintro e wb ⟨rfl,rfl⟩)
    | (go_at_call 151;refine Calls.mono (zdE (x:=⟨8,0,0,emptyS,0,[]⟩) (kv:=.slice none 0 0) (HS1.out.on HB2.out).nilI (xok (by decide) (by decide) (by decide) (by unfold SmlN;decide)) (by have:=HN.out;unfold PV.many at this;omega)) ?_;rintro e wa ⟨rfl,u,ha⟩;have HAD:=hidI ha;clear ha))
   go_ret;exact DxPost.add HR.out HZ1.out HAD.out
  rw [decide_eq_false hw1] at b1;by_cases hw2:wf=(⟨#[105,110]⟩:ByteArray)
  ·rw [decide_eq_true hw2] at b2;have HR:Hid (rdExpr c.l (f+1) n (p.xs.map Prod.fst)=addE (p.xs.map Prod.fst) ⟨8,0,0,emptyS,1,[]⟩):=hidI (by rw [HRD.out,if_neg (by rw [hcw];simp [hc0]),if_neg (by rw [hbw];simp [hb0]),if_neg (fun h=>hw1 (hwf.symm.trans h.2.2)),if_pos ⟨hd,rfl,hwf.trans hw2⟩]);clear HRD HZ2 HK2;clear hd how hcw hbw;clear hw1 hw2;go_enter Tryz.func102,Tryz.ntmps102
   go_wp2_with (first
    | (go_at_call 54;rw [HW1.out];refine CH2.out.mono ?_;rintro e w2 ⟨kv,rfl,hkv,hb2⟩;obtain ⟨_,qa,qc,rfl,_⟩:=id hkv;obtain ⟨kb,ko,rfl,kq,_⟩:=zaB hkv (HS1.out.on hb2).below (i:=0) (k:=k0) rfl;have kq:w2.cell? ⟨kb,ko,none⟩=some (.int .i64 (k0:Int)):=kq;have HB2:=hidI hb2;have a4:=zaJ hb2 HA4.out;clear hb2 CH2 hkv)
    | (go_at_call 152;refine Calls.mono (CC.out _) ?_;rintro e wc ⟨rfl,rfl⟩)
    | (go_at_call 153;refine Calls.mono (CB.out _) ?_;rintro e wb ⟨rfl,rfl⟩)
    | (go_at_call 154;refine Calls.mono (CW.out _ HB2.out) ?_;rintro e wb ⟨rfl,rfl⟩)
    | (go_at_call 151;refine Calls.mono (zdE (x:=⟨8,0,0,emptyS,1,[]⟩) (kv:=.slice none 0 0) (HS1.out.on HB2.out).nilI (xok (by decide) (by decide) (by decide) (by unfold SmlN;decide)) (by have:=HN.out;unfold PV.many at this;omega)) ?_;rintro e wa ⟨rfl,u,ha⟩;have HAD:=hidI ha;clear ha))
   go_ret;exact DxPost.add HR.out HZ1.out HAD.out
  rw [decide_eq_false hw2] at b2;have HR:Hid (rdExpr c.l (f+1) n (p.xs.map Prod.fst)=.error xp):=hidI (by rw [HRD.out,if_neg (by rw [hcw];simp [hc0]),if_neg (by rw [hbw];simp [hb0]),if_neg (fun h=>hw1 (hwf.symm.trans h.2.2)),if_neg (fun h=>hw2 (hwf.symm.trans h.2.2)),if_pos (.inl (how.trans ho0)),HFP.out]);clear HRD HZ2 HK2;clear hd how hcw hbw;clear hw1 hw2;go_enter Tryz.func102,Tryz.ntmps102
  go_wp2_with (first
   | (go_at_call 54;rw [HW1.out];refine CH2.out.mono ?_;rintro e w2 ⟨kv,rfl,hkv,hb2⟩;obtain ⟨_,qa,qc,rfl,_⟩:=id hkv;obtain ⟨kb,ko,rfl,kq,_⟩:=zaB hkv (HS1.out.on hb2).below (i:=0) (k:=k0) rfl;have kq:w2.cell? ⟨kb,ko,none⟩=some (.int .i64 (k0:Int)):=kq;have HB2:=hidI hb2;have a4:=zaJ hb2 HA4.out;clear hb2 CH2 hkv)
   | (go_at_call 152;refine Calls.mono (CC.out _) ?_;rintro e wc ⟨rfl,rfl⟩)
   | (go_at_call 153;refine Calls.mono (CB.out _) ?_;rintro e wb ⟨rfl,rfl⟩)
   | (go_at_call 154;refine Calls.mono (CW.out _ HB2.out) ?_;rintro e wb ⟨rfl,rfl⟩)
   | (go_at_call 155;refine Calls.mono (CO.out _) ?_;rintro e w5 ⟨rfl,hb5⟩;rw [fo];have HB5:=hidI (HB2.out.trans (hb5.mono HB2.out.size));have a5:=zaJ hb5 a4;clear hb5 CO)
   | (go_at_call 57;refine Calls.mono (CF.out _ HB5.out) ?_;rintro e w6 ⟨rfl,h6⟩;have H6:=hidI h6;clear h6))
  go_ret;exact DxPost.bad HR.out H6.out rfl rfl rfl (by omega)
 ·have fl:((kl:Int)==1)=false:=ne_beq h1;have HR:Hid (rdExpr c.l (f+1) n (p.xs.map Prod.fst)=.error xp):=hidI (by rw [HRD.out,if_neg (by rw [hcw];simp [hc0]),if_neg (by rw [hbw];simp [hb0]),if_neg (fun h=>h1 (hkl0.symm.trans h.2.1)),if_neg (fun h=>h1 (hkl0.symm.trans h.2.1)),if_pos (.inl (how.trans ho0)),HFP.out]);clear HRD HZ2 HK2;clear hd how hcw hbw;go_enter Tryz.func102,Tryz.ntmps102
  go_wp2_with (first
   | (go_at_call 54;rw [HW1.out];refine CH2.out.mono ?_;rintro e w2 ⟨kv,rfl,hkv,hb2⟩;obtain ⟨_,qa,qc,rfl,_⟩:=id hkv;rw [hkl0];have HB2:=hidI hb2;have a4:=zaJ hb2 HA4.out;clear hb2 CH2 hkv)
   | (go_at_call 152;refine Calls.mono (CC.out _) ?_;rintro e wc ⟨rfl,rfl⟩)
   | (go_at_call 153;refine Calls.mono (CB.out _) ?_;rintro e wb ⟨rfl,rfl⟩)
   | (go_at_call 155;refine Calls.mono (CO.out _) ?_;rintro e w5 ⟨rfl,hb5⟩;rw [fo];have HB5:=hidI (HB2.out.trans (hb5.mono HB2.out.size));have a5:=zaJ hb5 a4;clear hb5 CO)
   | (go_at_call 57;refine Calls.mono (CF.out _ HB5.out) ?_;rintro e w6 ⟨rfl,h6⟩;have H6:=hidI h6;clear h6))
  go_ret;exact DxPost.bad HR.out H6.out rfl rfl rfl (by omega)
set_option maxRecDepth 100000 in
set_option maxHeartbeats 16000000 in
theorem dexpr_op {c:Dx} (hc:c.Ok) {f n:Nat} (hn:n<c.fs.length) (IH:∀ k∈(frm c.l n).kids,DE c f k) {p:PV} {X:List Rw} {w:World} (h:DrS c p none X w) (hN:p.many+c.sz n≤999) {wd:ByteArray} {ks:List Nat} (hk4:¬ (frm c.l n).k=4) (hk3:¬ (frm c.l n).k=3) (hh:headF c.l n=some (wd,ks)) (hc0:colOf wd=0) (hb0:bareOf wd=0) (hd:¬ wd=(⟨#[100,101,103]⟩:ByteArray)) :
  Calls Tryz.prog 102 #[.pointer (some ⟨c.B,0,none⟩),.int .i64 (n:Int)] w (DxPost c p none X (f+1) n):=by
 have HN:=hidI hN;have hz:=hc.kids_sz hn;have hz1:1≤c.sz n:=by omega
 have HZ:=hidI hz;have HZ1:=hidI hz1;have hkl:=hc.kids_lt hn;obtain ⟨x,hx⟩:∃ x,c.fs[n]?=some x:=⟨_,List.getElem?_eq_getElem hn⟩;obtain ⟨g,o,cap,hv,y0,y1,y2,y3,y4⟩:=hc.form h.below hx;have b0:=h.cell (j:=0) (u:=c.fv) rfl;have b5:=h.cell (j:=5) (u:=.bool false) rfl;rw [hv] at b0;have e1:(n:Int)<(c.fs.length:Int):=by omega
 have e2:(0:Int)≤(n:Int):=by omega
 have hfx:=Dx.frm_at hx;have htx:=hc.txt n x hx;obtain ⟨hk,_⟩:=hc.kid n x hx;have hkn0:=hc.kidlen n x hx;obtain ⟨⟨xk,xs,xn,xks,xp⟩,xv⟩:=x;simp only at y0 y1 y2 y3 y4 hfx htx hk hkn0;have hkv:∃ ka kc,xv=.slice ka xks.length kc:=by
  obtain ⟨_,a,cap,e,_⟩:=hk;exact ⟨a,cap,e⟩
 obtain ⟨ka,kc,rfl⟩:=hkv;obtain ⟨W1,hW1⟩:∃ W1,w.alloc (.cells #[.int .u8 xk,.string xs,.int .i64 xn,.slice ka xks.length kc,.int .i64 xp] 97)=W1:=⟨_,rfl⟩;have HS1:Hid (DrS c p none X W1):=hidI (hW1▸h.alloc _);have HW1:=hidI hW1;have a4:W1.cell? ⟨w.heap.size,4,none⟩=some (.int .i64 xp):=by
  rw [←hW1,cell_of_row _ w.heap.size 4 _ _ (0,0) (MapKept.heap_alloc w _).1];rfl
 have HA4:=hidI a4;have HNL:=hidI hn;rw [hfx] at hk4 hk3;simp only at hk4 hk3;have d4:(xk==4)=false:=by simpa using hk4
 have d3:(xk==3)=false:=by simpa using hk3
 have CH:=hidI (zbC hc HS1.out HNL.out);have CF:=hidI (fun (W:World) (hb:Below W1.heap.size W1 W)=>zbG (HS1.out.on hb) xp 8);clear hv h hx hk hn htx hN hz hz1 hW1 a4;obtain ⟨m0,hks⟩:=zaW hh;have hk2:∀ k∈ks,k<c.fs.length:=fun k hk=>(hkl k (by rw [hks];exact List.mem_cons_of_mem _ hk)).2
 have IH2:∀ k∈ks,DE c f k:=fun k hk=>IH k (by rw [hks];exact List.mem_cons_of_mem _ hk)
 have HZ2:Hid (1+(ks.map c.sz).sum≤c.sz n):=hidI (by
  have:=HZ.out;rw [hks] at this;simp only [List.map_cons,List.sum_cons] at this;omega)
 have hkn:ks.length≤400:=by
  have:=hkn0;rw [show xks=m0::ks from (by rw [←hks,hfx])] at this;simp only [List.length_cons] at this;omega
 have HRD:Hid (∀ es,rdExpr c.l (f+1) n es=_):=hidI (fun es=>zfA (es:=es) (by rw [hfx];exact hk4) (by rw [hfx];exact hk3) hh);have HFP:Hid ((frm c.l n).p=xp):=hidI (by rw [hfx]);have CH2:Hid (Calls Tryz.prog 54 #[.pointer (some ⟨c.B,0,none⟩),.int .i64 (n:Int)] W1 fun e w'=>∃ kv,e=.returned (.tuple #[.string wd,kv,.bool true])∧SeesC c.w0 kv ks.length 1 (ints ks)∧Below W1.heap.size W1 w'):=hidI (by
  refine CH.out.mono fun e w' h => ?_
  unfold HdPost at h;rw [hh] at h;obtain ⟨⟨kv,h1,h2⟩,h3⟩:=h;exact ⟨kv,h1,h2,h3⟩)
 have HK2:=hidI hk2;have HIH:=hidI IH2;obtain ⟨cw,hcw⟩:∃ cw,colOf wd=cw:=⟨_,rfl⟩;obtain ⟨bw,hbw⟩:∃ bw,bareOf wd=bw:=⟨_,rfl⟩;obtain ⟨ow,how⟩:∃ ow,opOf wd=ow:=⟨_,rfl⟩;have how2:ow≤19:=how▸zbW wd;have CC:Hid (∀ W,Calls Tryz.prog 152 #[.string wd] W fun e w'=>e=.returned (.int .u8 (cw:Int))∧w'=W):=hidI (fun W=>by rw [←hcw];exact zfH wd W);have CB:Hid (∀ W,Calls Tryz.prog 153 #[.string wd] W fun e w'=>e=.returned (.int .u8 (bw:Int))∧w'=W):=hidI (fun W=>by rw [←hbw];exact dbare_any wd W);have CO:Hid (∀ W,Calls Tryz.prog 155 #[.string wd] W fun e w'=>e=.returned (.tuple #[.int .u8 (ow:Int),.bool (decide (ow≠0))])∧Below W.heap.size W w'):=hidI (fun W=>by rw [←how];exact zeA wd W);have CA:=hidI (fun W=>darity_any ow how2 W);have bd:=zbT wd (⟨#[100,101,103]⟩:ByteArray);rw [show (⟨#[100,101,103]⟩:ByteArray).toList=[100,101,103] from by decide +kernel] at bd;obtain ⟨kl,hkl0⟩:∃ kl,ks.length=kl:=⟨_,rfl⟩;have hkl1:kl≤400:=hkl0▸hkn;have hcw2:cw<256:=hcw▸colOf_lt wd;have hbw2:bw<256:=hbw▸bareOf_lt wd;clear IH hfx hkl hk4 hk3 hh CH hks hk2 IH2 hkn;rw [hcw] at hc0;rw [hbw] at hb0;have fc:((cw:Int)==0)=true:=eq_beq hc0;have fc2:(cw:Int)=0:=by omega
 have fb:((bw:Int)==0)=true:=eq_beq hb0;have fb2:(bw:Int)=0:=by omega
 rw [decide_eq_false hd] at bd;by_cases ho0:ow=0
 ·have fo:decide (ow≠0)=false:=by simp [ho0]
  have HR:Hid (rdExpr c.l (f+1) n (p.xs.map Prod.fst)=.error xp):=hidI (by rw [HRD.out,if_neg (by rw [hcw];simp [hc0]),if_neg (by rw [hbw];simp [hb0]),if_neg (fun h=>hd h.1),if_neg (fun h=>hd h.1),if_pos (.inl (how.trans ho0)),HFP.out]);clear HRD HZ2 HIH HK2;go_enter Tryz.func102,Tryz.ntmps102
  go_wp2_with (first
   | (go_at_call 54;rw [HW1.out];refine CH2.out.mono ?_;rintro e w2 ⟨kv,rfl,hkv,hb2⟩;obtain ⟨_,qa,qc,rfl,_⟩:=id hkv;rw [hkl0];have HB2:=hidI hb2;have a4:=zaJ hb2 HA4.out;clear hb2 CH2 hkv)
   | (go_at_call 152;refine Calls.mono (CC.out _) ?_;rintro e wc ⟨rfl,rfl⟩)
   | (go_at_call 153;refine Calls.mono (CB.out _) ?_;rintro e wb ⟨rfl,rfl⟩)
   | (go_at_call 155;refine Calls.mono (CO.out _) ?_;rintro e w5 ⟨rfl,hb5⟩;rw [fo];have HB5:=hidI (HB2.out.trans (hb5.mono HB2.out.size));have a5:=zaJ hb5 a4;clear hb5 CO)
   | (go_at_call 57;refine Calls.mono (CF.out _ HB5.out) ?_;rintro e w6 ⟨rfl,h6⟩;have H6:=hidI h6;clear h6))
  go_ret;exact DxPost.bad HR.out H6.out rfl rfl rfl (by omega)
 have fo:decide (ow≠0)=true:=by simp [ho0]
 obtain ⟨ar,har⟩:∃ ar,arityN ow=ar:=⟨_,rfl⟩;have har3:ar≤3:=har▸(arityN_le ow).1;have har1:1≤ar:=har▸(arityN_le ow).2 (by omega) how2;rw [har] at CA;by_cases hla:kl=ar
 ·subst hla;have fa:((kl:Int)==(kl:Int))=true:=by simp
  obtain ⟨T,hT⟩:∃ T,rows (rdExpr c.l f) ks (p.xs.map Prod.fst)=T:=⟨_,rfl⟩;have HR:Hid (rdExpr c.l (f+1) n (p.xs.map Prod.fst)=match (generalizing:=false) T with
   | .error p=>.error p
   | .ok (is,es')=>addE es' ⟨10,0,ow,emptyS,0,is⟩):=hidI (by rw [HRD.out,if_neg (by rw [hcw];simp [hc0]),if_neg (by rw [hbw];simp [hb0]),if_neg (fun h=>hd h.1),if_neg (fun h=>hd h.1),if_neg (by rw [how,har,hkl0];simp [ho0]),how,hT];rfl)
  have HG0:Hid (Going (rdExpr c.l f) (ks.drop 0) T [] none (p.xs.map Prod.fst)):=hidI (by rw [←hT];exact Going.start _ _ _);have HRD0:=HRD;obtain ⟨k0,hk0⟩:∃ k0,ks[0]?=some k0:=⟨_,List.getElem?_eq_getElem (by omega)⟩;have hkl3:=hkl0;have HKL0:=hidI hkl0;clear HRD HRD0 HK2;go_enter Tryz.func102,Tryz.ntmps102
  go_wp2_with (first
   | (go_at_call 54;rw [HW1.out];refine CH2.out.mono ?_;rintro e w2 ⟨kv,rfl,hkv,hb2⟩;obtain ⟨_,qa,qc,rfl,_⟩:=id hkv;obtain ⟨kb,ko,rfl,_,hkb⟩:=zaB hkv (HS1.out.on hb2).below hk0;rw [hkl0];have HKV:=hidI hkv;have HKB:=hidI hkb;have HB2:=hidI hb2;have a4:=zaJ hb2 HA4.out;clear hb2 CH2 hkv hkb)
   | (go_at_call 152;refine Calls.mono (CC.out _) ?_;rintro e wc ⟨rfl,rfl⟩)
   | (go_at_call 153;refine Calls.mono (CB.out _) ?_;rintro e wb ⟨rfl,rfl⟩)
   | (go_at_call 155;refine Calls.mono (CO.out _) ?_;rintro e w5 ⟨rfl,hb5⟩;rw [fo];have HSX:Hid (DrS c p none (⟨bx w5.heap.size,82,6,1,[.int .u8 10,.int .u8 0,.int .u8 (ow:Int),.string ⟨#[]⟩,.int .i64 0,.slice none 0 0]⟩::iRow (.slice none 0 0) []::X) (w5.alloc (.cells #[.int .u8 10,.int .u8 0,.int .u8 (ow:Int),.string ⟨#[]⟩,.int .i64 0,.slice none 0 0] 82))):=hidI ((HS1.out.on (HB2.out.trans (hb5.mono HB2.out.size))).nilI.var #[.int .u8 10,.int .u8 0,.int .u8 (ow:Int),.string ⟨#[]⟩,.int .i64 0,.slice none 0 0] 82 6 rfl);clear hb5 CO)
   | (go_at_call 156;refine Calls.mono (CA.out _) ?_;rintro e wb ⟨rfl,hw⟩;obtain rfl:=hw.symm))
  clear CC CB CA a4 bd
  go_loopg [13] kl (fun g s13 wx=>∃ (i:Nat) (p':PV) (er':Option (Int × Int)) (is:List Int) (kv:Value),i+g=kl∧s13=.int .i64 (i:Int)∧is.length=i∧Hid (DrS c p' er' (⟨bx w5.heap.size,82,6,1,[.int .u8 10,.int .u8 0,.int .u8 (ow:Int),.string ⟨#[]⟩,.int .i64 0,kv]⟩::iRow kv is::X) wx)∧Hid (p'.ds=p.ds∧p'.ms=p.ms∧p'.ss=p.ss)∧Hid (p'.many+((ks.drop i).map c.sz).sum≤p.many+(ks.map c.sz).sum)∧Hid (Going (rdExpr c.l f) (ks.drop i) T is er' (p'.xs.map Prod.fst)))
  case atStart=>exact ⟨0,p,none,[],.slice none 0 0,by omega,rfl,rfl,HSX,hidI ⟨rfl,rfl,rfl⟩,hidI (by simp),HG0⟩
  case round=>
   clear HSX HG0;obtain ⟨i,p',er',is,kv,hi,rfl,hil,HD,HPP,HM,HG⟩:=hrel;obtain ⟨va,vc,hkv⟩:∃ va vc,kv=.slice va is.length vc:=zaH (RowsP.head (r:=iRow kv is) HD.out.less.first);subst hkv;cases gk with
   | zero=>
    obtain rfl:kl=i:=by omega
    subst hil;have k1:decide ((is.length:Int)<(is.length:Int))=false:=by simp
    have hd0:ks.drop is.length=[]:=List.drop_eq_nil_of_le (by have:=HKL0.out;omega);have hm:=HM.out;have hg:=HG.out;rw [hd0] at hm hg;have HM2:Hid (p'.many+1≤p.many+c.sz n):=hidI (by
     have:=HZ2.out;simp only [List.map_nil,List.sum_nil] at hm;omega)
    have HG2:=hidI hg;have hpl:p'.xs.length≤999:=by
     have h1:=HM2.out;have h2:=HN.out;have h3:p'.xs.length≤p'.many:=by unfold PV.many;omega
     omega
    have x0:=HD.out.vcell (j:=0) rfl;have x1:=HD.out.vcell (j:=1) rfl;have x2:=HD.out.vcell (j:=2) rfl;have x3:=HD.out.vcell (j:=3) rfl;have x4:=HD.out.vcell (j:=4) rfl;have x5:=HD.out.vcell (j:=5) rfl;have HA:=hidI (zdE (x:=⟨10,0,ow,emptyS,0,is⟩) (kv:=.slice va is.length vc) HD.out.less (xokc (by omega) (by omega)) hpl);clear hd0 hm hg HG HM hpl
    go_wp2_with (go_at_call 151;refine HA.out.mono ?_;rintro e wa ⟨rfl,u,ha⟩;have HAD:=hidI ha;clear ha)
    go_ret;exact DxPost.call HR.out HG2.out HAD.out HPP.out.1 HPP.out.2.1 HPP.out.2.2 HM2.out
   | succ g=>
    have k1:(i:Int)<(kl:Int):=by omega
    obtain ⟨k,hk⟩:∃ k,ks[i]?=some k:=⟨_,List.getElem?_eq_getElem (by have:=HKL0.out;omega)⟩;have hkm:=List.mem_of_getElem? hk;have hdr:ks.drop i=k::ks.drop (i+1):=by
     rw [List.drop_eq_getElem_cons (by have:=HKL0.out;omega)];congr 1;exact Option.some.inj ((List.getElem?_eq_getElem _).symm.trans hk)
    have hd:=HD.out.drew;obtain ⟨kb2,ko2,e9,kq,hkb⟩:=zaB HKV.out hd.below hk;cases e9;have hm:=HM.out;have hg:=HG.out;rw [hdr] at hm hg;simp only [List.map_cons,List.sum_cons] at hm;have hbd:p'.many+c.sz k≤999:=by
     have h1:=HZ2.out;have h2:=HN.out;omega
    have HC:=hidI (HIH.out k hkm p' er' _ _ hd hbd);have HM2:=hidI hm;have HG2:=hidI hg;have HHD:=hidI hd;have HKQ:=hidI kq;have hBV:=hd.vapart;have hKB:(Value.slice va is.length vc).ownBlock≠some kb:=fun e=>by have:=(hd.less.first.head.lt kb e).1;omega
    have hil2:is.length≤1000:=by omega
    have HKk:=hidI hk;clear hm hg hdr hbd hkm HG HM hd kq hk;subst hil;go_wp2;refine drgK (B:=c.B) (cb:=w5.heap.size) (base:=c.w0.heap.size) (n:=is.length) (kb:=kb) (ko:=ko) (ii:=is.length) (kl:=kl) (kc:=qc) (km:=(k:Int)) (u:=.slice va is.length vc) (xs:=intsI is) (P:=fun v W=>∃ p2 er2,DrS c p2 er2 (⟨bx w5.heap.size,82,6,1,[.int .u8 10,.int .u8 0,.int .u8 (ow:Int),.string ⟨#[]⟩,.int .i64 0,.slice va is.length vc]⟩::iRow (.slice va is.length vc) is::X) W∧p2.ds=p'.ds∧p2.ms=p'.ms∧p2.ss=p'.ss∧p2.many≤p'.many+c.sz k∧StepR (rdExpr c.l f) k er' (p'.xs.map Prod.fst) er2 v (p2.xs.map Prod.fst)) ⟨HHD.out.vcell (j:=5) rfl,HKQ.out⟩ k1 ⟨_,_,_,rfl⟩ hil2 hBV hKB (HC.out.mono fun e w' h9 => ?_) (fun v x hx=>by simp only [List.mem_singleton] at hx;subst hx;rfl) (fun _ _ _ _ _ h=>h) ?_
    ·obtain ⟨p2,er2,v,he,hS,h1,h2,h3,h4,h5⟩:=h9;obtain ⟨kb3,ko3,e8,kq3,_⟩:=zaB HKV.out hS.below HKk.out;cases e8;exact ⟨v,he,⟨hS.vcell (j:=5) rfl,kq3⟩,hS.vfree 5,hS.less.first.head,hS.size,p2,er2,hS,h1,h2,h3,h4,h5⟩
    ·intro v WA W5 u' t160 t161 t162 t163 t164 t165 t166 t167 t168 t169 t170 hP hg9 ho9 ha9;obtain ⟨p2,er2,hS2,q1,q2,q3,q4,q5⟩:=hP;have s5:=DrS.swap (j:=5) (r':=iRow u' (is++[v])) (hS2.alloc (.cells #[.int .i64 v] 3)) hg9 (by
      show W5.ownsRow c.w0.heap.size 3 1 u' (is++[v]).length (intsI (is++[v]));rw [List.length_append];simpa [intsI] using ho9) (by simpa [iRow] using ha9)
     have HS5:=hidI s5;have HQ9:Hid (p2.ds=p.ds∧p2.ms=p.ms∧p2.ss=p.ss):=hidI ⟨q1.trans HPP.out.1,q2.trans HPP.out.2.1,q3.trans HPP.out.2.2⟩;have HM9:Hid (p2.many+((ks.drop (is.length+1)).map c.sz).sum≤p.many+(ks.map c.sz).sum):=hidI (by have:=HM2.out;omega);have HG9:=hidI (HG2.out.step q5);obtain ⟨W6,hW6⟩:∃ W6,W5.setCell ⟨w5.heap.size,5,none⟩ u'=W6:=⟨_,rfl⟩;rw [show (iRow u' (is++[v])).v=u' from rfl,hW6] at HS5;rw [hW6];clear hg9 ho9 ha9 s5 hS2 q1 q2 q3 q4 q5 hW6 HC HHD HKQ HKk HM2 HG2 HPP;go_wp2;go_roundg g
     case measure=>omega
     case rel=>exact ⟨is.length+1,p2,er2,is++[v],u',by omega,by go_num,by simp,HS5,HQ9,HM9,HG9⟩
 ·have fa:=ne_beq hla;have fa2:¬ (kl:Int)=(ar:Int):=by omega
  have HR:Hid (rdExpr c.l (f+1) n (p.xs.map Prod.fst)=.error xp):=hidI (by rw [HRD.out,if_neg (by rw [hcw];simp [hc0]),if_neg (by rw [hbw];simp [hb0]),if_neg (fun h=>hd h.1),if_neg (fun h=>hd h.1),if_pos (.inr (by rw [how,har,hkl0];exact hla)),HFP.out]);clear HRD HZ2 HIH HK2;go_enter Tryz.func102,Tryz.ntmps102
  go_wp2_with (first
   | (go_at_call 54;rw [HW1.out];refine CH2.out.mono ?_;rintro e w2 ⟨kv,rfl,hkv,hb2⟩;obtain ⟨_,qa,qc,rfl,_⟩:=id hkv;rw [hkl0];have HB2:=hidI hb2;have a4:=zaJ hb2 HA4.out;clear hb2 CH2 hkv)
   | (go_at_call 152;refine Calls.mono (CC.out _) ?_;rintro e wc ⟨rfl,rfl⟩)
   | (go_at_call 153;refine Calls.mono (CB.out _) ?_;rintro e wb ⟨rfl,rfl⟩)
   | (go_at_call 155;refine Calls.mono (CO.out _) ?_;rintro e w5 ⟨rfl,hb5⟩;rw [fo];have HB5:=hidI (HB2.out.trans (hb5.mono HB2.out.size));have a5:=zaJ hb5 a4;clear hb5 CO)
   | (go_at_call 156;refine Calls.mono (CA.out _) ?_;rintro e wb ⟨rfl,hw⟩;obtain rfl:=hw.symm)
   | (go_at_call 57;refine Calls.mono (CF.out _ HB5.out) ?_;rintro e w6 ⟨rfl,h6⟩;have H6:=hidI h6;clear h6))
  go_ret;exact DxPost.bad HR.out H6.out rfl rfl rfl (by omega)
set_option maxRecDepth 100000 in
set_option maxHeartbeats 4000000 in
theorem dexpr_step {c:Dx} (hc:c.Ok) {f n:Nat} (hn:n<c.fs.length) (IH:∀ k∈(frm c.l n).kids,DE c f k):DE c (f+1) n:=by
 intro p er X w h hN;cases er with
 | some q=>
  have HH:=hidI h;have r5:=h.cell (j:=5) (u:=.bool true) rfl;clear h IH hN;go_enter Tryz.func102,Tryz.ntmps102;go_wp2;go_ret;exact ⟨p,some q,_,rfl,HH.out,rfl,rfl,rfl,by omega,rfl⟩
 | none=>
  by_cases h4:(frm c.l n).k=4
  ·exact dexpr_leaf hc hn h hN (.inl h4)
  by_cases h3:(frm c.l n).k=3
  ·exact dexpr_leaf hc hn h hN (.inr (.inl h3))
  cases hh:headF c.l n with
  | none=>exact dexpr_leaf hc hn h hN (.inr (.inr hh))
  | some q=>
   obtain ⟨wd,ks⟩:=q;by_cases hc0:colOf wd=0
   ·by_cases hb0:bareOf wd=0
    ·by_cases hd:wd=(⟨#[100,101,103]⟩:ByteArray)
     ·exact dexpr_deg hc hn h hN h4 h3 hh hc0 hb0 hd
     ·exact dexpr_op hc hn IH h hN h4 h3 hh hc0 hb0 hd
    ·exact dexpr_bare hc hn h hN h4 h3 hh hc0 hb0
   ·exact dexpr_col hc hn h hN h4 h3 hh hc0
theorem dexpr_all {c:Dx} (hc:c.Ok):∀ (f n:Nat),n<c.fs.length→c.fs.length-n≤f→DE c f n
 | 0,n,h1,h2=>by omega
 | f+1,n,h1,h2=>dexpr_step hc h1 (fun k hk=>by
  have:=hc.kids_lt h1 k hk;exact dexpr_all hc f k this.2 (by omega))
theorem zbK {c:Dx} (hc:c.Ok) {n:Nat} (hn:n<c.fs.length):DE c (big c.l) n:=dexpr_all hc (big c.l) n hn (by unfold big Dx.l;rw [List.length_map];omega)
def NameR (r:Except Int ByteArray) (er:Option (Int × Int)) (s:ByteArray):Prop:=match r with
 | .ok t=>er=none∧s=t
 | .error a=>er=some (a,8)
theorem zbS {c:Dx} (hc:c.Ok) {p:PV} {X:List Rw} {w:World} (h:DrS c p none X w) {n:Nat} (hn:n<c.fs.length):Calls Tryz.prog 58 #[.pointer (some ⟨c.B,0,none⟩),.int .i64 (n:Int)] w fun e w'=>∃ s er,e=.returned (.string s)∧DrS c p er X w'∧SmlN s∧NameR (nameF c.l n) er s:=by
 refine (dname_any hc h hn).mono fun e w' h9 => ?_
 unfold NmPost at h9;cases hnm:nameF c.l n with
 | ok s=>
  rw [hnm] at h9;exact ⟨s,none,h9.1,h9.2.1,h9.2.2,rfl,rfl⟩
 | error a=>
  rw [hnm] at h9;exact ⟨⟨#[]⟩,_,h9.1,h9.2,by unfold SmlN;decide,rfl⟩
theorem redN_zero:redN 0=false:=by decide
set_option maxRecDepth 100000 in
set_option maxHeartbeats 4000000 in
theorem zdM {c:Dx} (hc:c.Ok) {p:PV} {er:Option (Int × Int)} {X:List Rw} {w:World} (h:DrS c p er X w) {n:Nat} (hn:n<c.fs.length):Calls Tryz.prog 103 #[.pointer (some ⟨c.B,0,none⟩),.int .i64 (n:Int)] w fun e w'=>e=.returned (.tuple #[.int .u8 (opOf (wordF c.l n):Int),.bool (redN (opOf (wordF c.l n)))])∧Below w.heap.size w w':=by
 have CW:=hidI (dword_any hc h hn);obtain ⟨wf,hwf⟩:∃ wf,wordF c.l n=wf:=⟨_,rfl⟩;obtain ⟨o,ho⟩:∃ o,opOf wf=o:=⟨_,rfl⟩;have ho2:o≤19:=ho▸zbW wf;have CO:=hidI (fun W=>zeA wf W);rw [hwf] at CW ⊢;rw [ho] at CO ⊢;have CR:=hidI (fun W=>dred_any o ho2 W);clear h hn hwf ho;by_cases h0:o=0
 ·have fo:decide (o≠0)=false:=by simp [h0]
  subst h0;go_enter Tryz.func103,Tryz.ntmps103
  go_wp2_with (first
   | (go_at_call 154;refine CW.out.mono ?_;rintro e w1 ⟨rfl,hw⟩;obtain rfl:=hw.symm)
   | (go_at_call 155;refine Calls.mono (CO.out _) ?_;rintro e w2 ⟨rfl,hb2⟩;rw [fo];have HB:=hidI hb2;clear hb2))
  go_ret2;exact ⟨by rw [redN_zero];rfl,HB.out⟩
 ·have fo:decide (o≠0)=true:=by simp [h0]
  obtain ⟨b,hb⟩:∃ b,redN o=b:=⟨_,rfl⟩;rw [hb] at CR ⊢;clear hb;go_enter Tryz.func103,Tryz.ntmps103
  go_wp2_with (first
   | (go_at_call 154;refine CW.out.mono ?_;rintro e w1 ⟨rfl,hw⟩;obtain rfl:=hw.symm)
   | (go_at_call 155;refine Calls.mono (CO.out _) ?_;rintro e w2 ⟨rfl,hb2⟩;rw [fo];have HB:=hidI hb2;clear hb2)
   | (go_at_call 157;refine Calls.mono (CR.out _) ?_;rintro e w3 ⟨⟨q,rfl⟩,hw⟩;obtain rfl:=hw.symm))
  go_ret2;exact ⟨rfl,HB.out⟩
def DaPost (c:Dx) (p:PV) (X:List Rw) (n:Nat) (e:Ending) (w':World):Prop:=
 ∃ (p':PV) (er':Option (Int × Int)) (a:Actn),e=.returned (.agg #[.int .u8 (a.k:Int),.string a.name,.int .u8 (a.op:Int),.bool a.inn,.int .i64 a.e,.int .i64 a.cond])∧DrS c p' er' X w'∧p'.ds=p.ds∧p'.ms=p.ms∧p'.ss=p.ss∧p'.many≤p.many+c.sz n∧ActOk a∧
 (match rdAct c.l n (p.xs.map Prod.fst) with
  | .ok (a',es')=>er'=none∧a=a'∧p'.xs.map Prod.fst=es'
  | .error x=>er'=some (x,8))
theorem DrS.fill6 {c:Dx} {p:PV} {er:Option (Int × Int)} {X:List Rw} {w:World} {V:Nat} {a0 a1 a2 a3 a4 a5:Value} (h:DrS c p er (⟨bx V,75,6,1,[a0,a1,a2,a3,a4,a5]⟩::X) w) (b0 b1 b2 b3 b4 b5:Value):DrS c p er X ((((((w.setCell ⟨V,0,none⟩ b0).setCell ⟨V,1,none⟩ b1).setCell ⟨V,2,none⟩ b2).setCell ⟨V,3,none⟩ b3).setCell ⟨V,4,none⟩ b4).setCell ⟨V,5,none⟩ b5):=
 ((((((h.setv (j:=0) b0).setv (j:=1) b1).setv (j:=2) b2).setv (j:=3) b3).setv (j:=4) b4).setv (j:=5) b5).less
theorem DaPost.bad {c:Dx} {p p':PV} {X:List Rw} {n:Nat} {w':World} {x:Int} {a:Actn} (hr:rdAct c.l n (p.xs.map Prod.fst)=.error x) (h:DrS c p' (some (x,8)) X w') (h1:p'.ds=p.ds) (h2:p'.ms=p.ms) (h3:p'.ss=p.ss) (h4:p'.many≤p.many+c.sz n) (ha:ActOk a):DaPost c p X n (.returned (.agg #[.int .u8 (a.k:Int),.string a.name,.int .u8 (a.op:Int),.bool a.inn,.int .i64 a.e,.int .i64 a.cond])) w':=by
 refine ⟨p',_,a,rfl,h,h1,h2,h3,h4,ha,?_⟩;rw [hr]
theorem zeE (V:Nat) (Wf:World) (b0 b1 b2 b3 b4 b5:Value) (l0:Wf.cell? ⟨V,0,none⟩=some b0) (l1:Wf.cell? ⟨V,1,none⟩=some b1) (l2:Wf.cell? ⟨V,2,none⟩=some b2) (l3:Wf.cell? ⟨V,3,none⟩=some b3) (l4:Wf.cell? ⟨V,4,none⟩=some b4) (l5:Wf.cell? ⟨V,5,none⟩=some b5) :
  ((asAddr (.pointer (some ⟨V,0,none⟩))).run Tryz.prog Wf).andThen (fun a w₁=>(loadVar 75 a).run Tryz.prog w₁)=.ok (.agg #[b0,b1,b2,b3,b4,b5]) Wf:=by
 go_simp
theorem DrS.fill6r {c:Dx} {p:PV} {er:Option (Int × Int)} {X:List Rw} {w:World} {V:Nat} {a0 a1 a2 a3 a4 a5:Value} (h:DrS c p er (⟨bx V,75,6,1,[a0,a1,a2,a3,a4,a5]⟩::X) w) (b0 b1 b2 b3 b4 b5:Value):DrS c p er (⟨bx V,75,6,1,[b0,b1,b2,b3,b4,b5]⟩::X) ((((((w.setCell ⟨V,0,none⟩ b0).setCell ⟨V,1,none⟩ b1).setCell ⟨V,2,none⟩ b2).setCell ⟨V,3,none⟩ b3).setCell ⟨V,4,none⟩ b4).setCell ⟨V,5,none⟩ b5):=
 ((((((h.setv (j:=0) b0).setv (j:=1) b1).setv (j:=2) b2).setv (j:=3) b3).setv (j:=4) b4).setv (j:=5) b5)
def CondR (C:List Exp→Except Int (Int × List Exp)) (er:Option (Int × Int)) (es:List Exp) (er2:Option (Int × Int)) (v:Int) (es2:List Exp):Prop:=
 match er with
 | some x=>er2=some x
 | none=>match C es with
  | .ok (i,es')=>er2=none∧v=i∧es2=es'
  | .error a=>er2=some (a,8)
theorem act_end {l:List Frm} {k0 k1 K O:Nat} {I:Bool} {es es4 es5:List Exp} {er1 er4 er5:Option (Int × Int)} {s:ByteArray} {v4 v5:Int} {C:List Exp→Except Int (Int × List Exp)} (h1:NameR (nameF l k0) er1 s) (h2:StepR (rdExpr l (big l)) k1 er1 es er4 v4 es4) (h3:CondR C er4 es4 er5 v5 es5) :
  match (match nameF l k0 with
   | .error p=>Except.error p
   | .ok s=>match rdE l k1 es with
    | .error p=>.error p
    | .ok (e,es1)=>match C es1 with
     | .error p=>.error p
     | .ok (d,es2)=>.ok ((⟨K,s,O,I,e,d⟩:Actn),es2)) with
  | .ok (a',es')=>er5=none∧(⟨K,s,O,I,v4,v5⟩:Actn)=a'∧es5=es'
  | .error x=>er5=some (x,8):=by
 unfold NameR at h1;cases hn:nameF l k0 with
 | error a=>
  rw [hn] at h1;simp only at h1 ⊢;subst h1;simp only [StepR] at h2;subst h2;exact h3
 | ok t=>
  rw [hn] at h1;obtain ⟨rfl,rfl⟩:=h1;simp only [StepR] at h2;simp only;unfold rdE;cases he:rdExpr l (big l) k1 es with
  | error a=>
   rw [he] at h2;simp only at h2 ⊢;subst h2;exact h3
  | ok q=>
   obtain ⟨e,es1⟩:=q;rw [he] at h2;simp only at h2 ⊢;obtain ⟨rfl,rfl,rfl⟩:=h2;simp only [CondR] at h3;cases hc:C es4 with
   | error a=>
    rw [hc] at h3;exact h3
   | ok q2=>
    obtain ⟨d,es2⟩:=q2;rw [hc] at h3;obtain ⟨rfl,rfl,rfl⟩:=h3;exact ⟨rfl,rfl,rfl⟩
theorem zcU {c:Dx} (hc:c.Ok) {n:Nat} (hn:n<c.fs.length) {p:PV} {X:List Rw} {w:World} (h:DrS c p none X w):∃ (g o cap:Nat) (xp:Int) (W1:World),Hid ((frm c.l n).p=xp)∧Hid (∀ u:World,Below c.w0.heap.size c.w0 u→u.cell? ⟨g,o+n*5+4,none⟩=some (.int .i64 xp))∧Hid (c.fv=.slice (some ⟨g,o,none⟩) c.fs.length cap)∧Hid ((w.alloc (.cells #[.int .u8 0,.string ⟨#[]⟩,.int .u8 0,.bool false,.int .i64 0,.int .i64 0] 75)).alloc (.cells #[.int .u8 0,.string ⟨#[]⟩,.int .u8 0,.bool false,.int .i64 (-1),.int .i64 (-1)] 75)=W1)∧Hid (DrS c p none (⟨bx (w.heap.size+1),75,6,1,[.int .u8 0,.string ⟨#[]⟩,.int .u8 0,.bool false,.int .i64 (-1),.int .i64 (-1)]⟩::⟨bx w.heap.size,75,6,1,[.int .u8 0,.string ⟨#[]⟩,.int .u8 0,.bool false,.int .i64 0,.int .i64 0]⟩::X) W1)∧Hid ((frm c.l n).kids.length≤400):=by
 obtain ⟨x,hx⟩:∃ x,c.fs[n]?=some x:=⟨_,List.getElem?_eq_getElem hn⟩;obtain ⟨g,o,cap,hv,y0,y1,y2,y3,y4⟩:=hc.form h.below hx;have hfx:=Dx.frm_at hx;have hkn0:=hc.kidlen n x hx;obtain ⟨xp,hxp⟩:∃ xp,x.1.p=xp:=⟨_,rfl⟩;have HFP:Hid ((frm c.l n).p=xp):=hidI (by rw [hfx,hxp]);have HC4:Hid (∀ u:World,Below c.w0.heap.size c.w0 u→u.cell? ⟨g,o+n*5+4,none⟩=some (.int .i64 xp)):=hidI (fun u hu=>by
  obtain ⟨g2,o2,cap2,hv2,_,_,_,_,q4⟩:=hc.form hu hx;rw [hv] at hv2;cases hv2;rw [←hxp];exact q4)
 have HFV:Hid (c.fv=.slice (some ⟨g,o,none⟩) c.fs.length cap):=hidI hv;obtain ⟨W1,hW1⟩:∃ W1,(w.alloc (.cells #[.int .u8 0,.string ⟨#[]⟩,.int .u8 0,.bool false,.int .i64 0,.int .i64 0] 75)).alloc (.cells #[.int .u8 0,.string ⟨#[]⟩,.int .u8 0,.bool false,.int .i64 (-1),.int .i64 (-1)] 75)=W1:=⟨_,rfl⟩;have HS1:Hid (DrS c p none (⟨bx (w.heap.size+1),75,6,1,[.int .u8 0,.string ⟨#[]⟩,.int .u8 0,.bool false,.int .i64 (-1),.int .i64 (-1)]⟩::⟨bx w.heap.size,75,6,1,[.int .u8 0,.string ⟨#[]⟩,.int .u8 0,.bool false,.int .i64 0,.int .i64 0]⟩::X) W1):=hidI (by
  have h1:=(h.var #[.int .u8 0,.string ⟨#[]⟩,.int .u8 0,.bool false,.int .i64 0,.int .i64 0] 75 6 rfl).var #[.int .u8 0,.string ⟨#[]⟩,.int .u8 0,.bool false,.int .i64 (-1),.int .i64 (-1)] 75 6 rfl;rw [hW1] at h1;simpa using h1)
 have HW1:=hidI hW1;exact ⟨g,o,cap,xp,W1,HFP,HC4,HFV,HW1,HS1,hidI (by rw [hfx];exact hkn0)⟩
theorem zdP (wd t:ByteArray) (l:List UInt8) (h:t.toList=l):(wd.toList==l)=decide (wd=t):=by subst h;exact zbT wd t
theorem zbU (wd:ByteArray):(wd.toList==[112,117,116])=decide (wd=(⟨#[112,117,116]⟩:ByteArray))∧(wd.toList==[112,117,115,104])=decide (wd=(⟨#[112,117,115,104]⟩:ByteArray))∧(wd.toList==[112,117,108,108])=decide (wd=(⟨#[112,117,108,108]⟩:ByteArray)):=⟨zdP _ _ _ (by decide +kernel),zdP _ _ _ (by decide +kernel),zdP _ _ _ (by decide +kernel)⟩
theorem zcG (wd:ByteArray):(wd.toList==[111,117,116])=decide (wd=(⟨#[111,117,116]⟩:ByteArray))∧(wd.toList==[105,110])=decide (wd=(⟨#[105,110]⟩:ByteArray)):=⟨zdP _ _ _ (by decide +kernel),zdP _ _ _ (by decide +kernel)⟩
theorem red_at {c:Dx} (hc:c.Ok) {n:Nat} (hn:n<c.fs.length) {o:Nat} {b:Bool} (ho:opOf (wordF c.l n)=o) (hr:redN (opOf (wordF c.l n))=b) {p:PV} {er:Option (Int × Int)} {X:List Rw} {w:World} (h:DrS c p er X w):Calls Tryz.prog 103 #[.pointer (some ⟨c.B,0,none⟩),.int .i64 (n:Int)] w fun e w'=>e=.returned (.tuple #[.int .u8 (o:Int),.bool b])∧Below w.heap.size w w':=by
 have h9:=zdM hc h hn;rw [hr,ho] at h9;exact h9
theorem zdN {c:Dx} (hc:c.Ok) {n:Nat} (hn:n<c.fs.length) {d:ByteArray} (hd:wordF c.l n=d) {p:PV} {er:Option (Int × Int)} {X:List Rw} {w:World} (h:DrS c p er X w):Calls Tryz.prog 154 #[.pointer (some ⟨c.B,0,none⟩),.int .i64 (n:Int)] w fun e w'=>e=.returned (.string d)∧w'=w:=by
 have h9:=dword_any hc h hn;rw [hd] at h9;exact h9
theorem zbQ {c:Dx} {n:Nat} {w:World} {wd:ByteArray} {ks:List Nat} (h:Calls Tryz.prog 54 #[.pointer (some ⟨c.B,0,none⟩),.int .i64 (n:Int)] w (HdPost c n w)) (hh:headF c.l n=some (wd,ks)):Calls Tryz.prog 54 #[.pointer (some ⟨c.B,0,none⟩),.int .i64 (n:Int)] w fun e w'=>∃ kv,e=.returned (.tuple #[.string wd,kv,.bool true])∧SeesC c.w0 kv ks.length 1 (ints ks)∧Below w.heap.size w w':=by
 refine h.mono fun e w' h => ?_
 unfold HdPost at h;rw [hh] at h;obtain ⟨⟨kv,h1,h2⟩,h3⟩:=h;exact ⟨kv,h1,h2,h3⟩
set_option maxRecDepth 100000 in
set_option maxHeartbeats 16000000 in
theorem dact_none {c:Dx} (hc:c.Ok) {n:Nat} (hn:n<c.fs.length) {p:PV} {X:List Rw} {w:World} (h:DrS c p none X w) (hN:p.many+c.sz n≤999) (hh:headF c.l n=none) :
  Calls Tryz.prog 104 #[.pointer (some ⟨c.B,0,none⟩),.int .i64 (n:Int)] w (DaPost c p X n):=by
 have HN:=hidI hN;have hz:=hc.kids_sz hn;have HZ:=hidI hz;have hkl:=hc.kids_lt hn;have e1:(n:Int)<(c.fs.length:Int):=by omega
 have e2:(0:Int)≤(n:Int):=by omega
 obtain ⟨g,o,cap,xp,W1,HFP,HC4,HFV,HW1,HS1,HKN⟩:=zcU hc hn h;have hkn0:=HKN.out;have CH:=hidI (zbC hc HS1.out hn);have HR:Hid (rdAct c.l n (p.xs.map Prod.fst)=.error xp):=hidI (by unfold rdAct;rw [hh];simp only;rw [HFP.out]);have CH2:Hid (Calls Tryz.prog 54 #[.pointer (some ⟨c.B,0,none⟩),.int .i64 (n:Int)] W1 fun e w'=>e=.returned (.tuple #[.string ⟨#[]⟩,.slice none 0 0,.bool false])∧Below W1.heap.size W1 w'):=hidI (by have:=CH.out;unfold HdPost at this;rwa [hh] at this);clear h hn hN hz hkl hkn0 hh CH;go_enter Tryz.func104,Tryz.ntmps104
 go_wp2_with (first
  | (go_at_call 54;rw [HW1.out];refine CH2.out.mono ?_;rintro e w2 ⟨rfl,hb2⟩;have HS2:=hidI (HS1.out.on hb2);have hs2:=HS1.out.on hb2;clear hb2 CH2;have r0:=hs2.vcell (j:=0) rfl;have z0:=hs2.vfree 0;have r1:=hs2.vcell (j:=1) rfl;have z1:=hs2.vfree 1;have r2:=hs2.vcell (j:=2) rfl;have z2:=hs2.vfree 2;have r3:=hs2.vcell (j:=3) rfl;have z3:=hs2.vfree 3;have r4:=hs2.vcell (j:=4) rfl;have z4:=hs2.vfree 4;have r5:=hs2.vcell (j:=5) rfl;have z5:=hs2.vfree 5;have b0:=hs2.cell (j:=0) (u:=c.fv) rfl;rw [HFV.out] at b0;have y4:=HC4.out _ hs2.below;clear hs2)
  | (go_at_call 57;refine Calls.mono (zbG HS2.out xp 8) ?_;rintro e w6 ⟨rfl,h6⟩;have H6:=hidI h6;clear r0 r1 r2 r3 r4 r5 z0 z1 z2 z3 z4 z5;have r0:=h6.vcell (j:=0) rfl;have z0:=h6.vfree 0;have r1:=h6.vcell (j:=1) rfl;have z1:=h6.vfree 1;have r2:=h6.vcell (j:=2) rfl;have z2:=h6.vfree 2;have r3:=h6.vcell (j:=3) rfl;have z3:=h6.vfree 3;have r4:=h6.vcell (j:=4) rfl;have z4:=h6.vfree 4;have r5:=h6.vcell (j:=5) rfl;have z5:=h6.vfree 5;have q0:=h6.less.vcell (j:=0) rfl;have u0:=h6.less.vfree 0;have q1:=h6.less.vcell (j:=1) rfl;have u1:=h6.less.vfree 1;have q2:=h6.less.vcell (j:=2) rfl;have u2:=h6.less.vfree 2;have q3:=h6.less.vcell (j:=3) rfl;have u3:=h6.less.vfree 3;have q4:=h6.less.vcell (j:=4) rfl;have u4:=h6.less.vfree 4;have q5:=h6.less.vcell (j:=5) rfl;have u5:=h6.less.vfree 5;clear h6))
 refine bodyPost_ret (v:=.agg #[.int .u8 0,.string ⟨#[]⟩,.int .u8 0,.bool false,.int .i64 (-1),.int .i64 (-1)]) ?_ rfl ?_
 ·rw [zaC rfl]
  (go_simp<;>first|done|rfl)
 ·exact DaPost.bad (a:=⟨0,⟨#[]⟩,0,false, -1, -1⟩) HR.out (H6.out.less.fill6 _ _ _ _ _ _) rfl rfl rfl (by omega) ⟨by decide,by decide,by unfold SmlN;decide⟩
end Go.Proofs.YtfljimpgnlfipaaGreatDoor
