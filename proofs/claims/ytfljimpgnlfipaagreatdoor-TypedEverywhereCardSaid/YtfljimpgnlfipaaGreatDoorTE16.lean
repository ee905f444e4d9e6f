/-
  Part 16 of the proof: DrNr, DrT0, DrT1, DrT2, DrT3.
-/
import Derived.Test.YtfljimpgnlfipaaGreatDoorTE07
import Derived.Test.YtfljimpgnlfipaaGreatDoorTE15
import Derived.Test.YtfljimpgnlfipaaGreatDoorTE14
namespace Go.Proofs.YtfljimpgnlfipaaGreatDoor
open Go.RowKit Go.Deep Go.MapKept
def SeesR (w:World) (v:Value) (n size:Nat) (cs:List Value):Prop:=SeesC w v n size cs∧Roomy v
def HdPostR (c:Dx) (n:Nat) (w:World) (e:Ending) (w':World):Prop:=
 (match headF c.l n with
  | none=>e=.returned (.tuple #[.string ⟨#[]⟩,.slice none 0 0,.bool false])
  | some (s,ks)=>∃ kv,e=.returned (.tuple #[.string s,kv,.bool true])∧SeesR c.w0 kv ks.length 1 (ints ks))∧Below w.heap.size w w'
set_option maxHeartbeats 4000000 in
theorem dhead_roomy {c:Dx} (hc:c.Ok) {p:PV} {er:Option (Int × Int)} {X:List Rw} {w:World} (h:DrS c p er X w) {n:Nat} (hn:n<c.fs.length):Calls Tryz.prog 54 #[.pointer (some ⟨c.B,0,none⟩),.int .i64 (n:Int)] w (HdPostR c n w):=by
 obtain ⟨x,hx⟩:∃ x,c.fs[n]?=some x:=⟨_,List.getElem?_eq_getElem hn⟩;obtain ⟨g,o,cap,hv,y0,y1,y2,y3,y4⟩:=hc.form h.below hx;have b0:=h.cell (j:=0) (u:=c.fv) rfl;rw [hv] at b0;have e1:(n:Int)<(c.fs.length:Int):=by omega
 have e2:(0:Int)≤(n:Int):=by omega
 obtain ⟨hk,hr⟩:=hc.kid n x hx;have hkl:=hc.kidlen n x hx;have hfx:=Dx.frm_at hx;have hfm:∀ m y,c.fs[m]?=some y→frm c.l m=y.1:=fun m y hy=>Dx.frm_at hy
 obtain ⟨⟨xk,xs,xn,xks,xp⟩,xv⟩:=x;simp only at y0 y1 y2 y3 y4 hk hkl hfx;have hkv:∃ ka kc,xv=.slice ka xks.length kc:=by
  obtain ⟨_,a,cap,e,_⟩:=hk;exact ⟨a,cap,e⟩
 obtain ⟨ka,kc,rfl⟩:=hkv;by_cases hk1:xk=1
 ·subst hk1;cases xks with
  | nil=>
   have hH:headF c.l n=none:=by unfold headF;rw [hfx];rfl
   have HP:Hid (∀ w',Below w.heap.size w w'→HdPostR c n w (.returned (.tuple #[.string ⟨#[]⟩,.slice none 0 0,.bool false])) w'):=hidI fun w' hb=>⟨by rw [hH],hb⟩
   clear hv h hx hk hr hH hfx hfm hn;go_enter Tryz.func54,Tryz.ntmps54;go_wp2;go_quiet (fail);generalize nq=n1;go_wp2;go_ret3;exact HP.out _ (below_drewN belowT n1)
  | cons m r=>
   have hml:=(hc.kidlt n _ hx m (by simp)).2;obtain ⟨y,hy⟩:∃ y,c.fs[m]?=some y:=⟨_,List.getElem?_eq_getElem hml⟩;obtain ⟨g',o',cap',hv',d0,d1,_,_,_⟩:=hc.form h.below hy;rw [hv] at hv';cases hv';obtain ⟨hl1,ka',kc',hkv,h0⟩:=hk;cases hkv;rcases h0 with h0|⟨kb,ko,rfl,hcell⟩
   ·simp at h0
   have k0:w.cell? ⟨kb,ko,none⟩=some (.int .i64 (m:Int)):=by
    have:=hcell 0 (.int .i64 (m:Int)) (by simp [ints]);exact (h.below.cell (World.block_lt_of_cell? c.w0 _ this)).trans this
   have hrc:r.length+1≤kc:=by
    obtain ⟨_,_,_,e,hle⟩:=hr;cases e;simpa using hle
   have hH:headF c.l n=if y.1.k=3 then some (y.1.s,r) else none:=by unfold headF;rw [hfx];simp only [if_true];rw [hfm m y hy]
   have HK1:Hid (SeesR c.w0 (.slice (some ⟨kb,ko+1,none⟩) r.length (kc-1)) r.length 1 (ints r)):=hidI (by
    refine ⟨?_,⟨_,_,_,rfl,by omega⟩⟩;refine ⟨by simp [ints],some ⟨kb,ko+1,none⟩,kc-1,rfl,.inr ⟨kb,ko+1,rfl,fun j u hj => ?_⟩⟩;have:=hcell (j+1) u (by simpa [ints] using hj);rwa [show ko+(j+1)=ko+1+j by omega] at this)
   have HK0:Hid (r.length=0→SeesR c.w0 (.slice (some ⟨kb,ko,none⟩) 0 0) r.length 1 (ints r)):=hidI (fun h0=>⟨⟨by simp [ints],some ⟨kb,ko,none⟩,0,by rw [h0],.inl h0⟩,⟨_,_,_,rfl,Nat.le_refl _⟩⟩);simp only [List.length_cons] at y3 hkl;have m1:(m:Int)<(c.fs.length:Int):=by omega
   have m2:(0:Int)≤(m:Int):=by omega
   have HBV:Hid (∀ (q:Addr) (v:Value),w.cell? q=some v→∀ cs ty,(w.alloc (.cells cs ty)).cell? q=some v):=hidI (fun q v hq cs ty=>zaJ (belowT:Below w.heap.size w (w.alloc (.cells cs ty))) hq);have q1:(((r.length+1:Nat):Int)==0)=false:=by rw [beq_eq_false_iff_ne];omega
   obtain ⟨⟨yk,ys,yn,yks,yp⟩,yv⟩:=y;simp only at d0 d1 hH;by_cases hy3:yk=3
   ·subst hy3;rw [if_pos rfl] at hH;have HP:Hid (∀ w' kv,SeesR c.w0 kv r.length 1 (ints r)→Below w.heap.size w w'→HdPostR c n w (.returned (.tuple #[.string ys,kv,.bool true])) w'):=hidI fun w' kv hs hb=>⟨by rw [hH];exact ⟨kv,rfl,hs⟩,hb⟩
    obtain ⟨rl,hrl⟩:∃ rl,r.length=rl:=⟨_,rfl⟩;rw [hrl] at y3 HK1 HK0 hrc hkl q1 HP;clear hv h hx hr hH hfx hfm hcell hl1 hy hml hrl;by_cases hkc:kc=1
    ·subst hkc;obtain rfl:rl=0:=by omega
     have HK2:=hidI (HK0.out rfl);clear HK0 HK1;go_enter Tryz.func54,Tryz.ntmps54;go_wp2;have v0:=HBV.out _ _ b0;have v1:=HBV.out _ _ k0;have v2:=HBV.out _ _ d0;have v3:=HBV.out _ _ d1;go_quiet (fail);generalize nq=n1;go_wp2;go_quiet (fail);generalize nq=n2;go_wp2;go_ret3;exact HP.out _ _ HK2.out (below_drewN (below_drewN belowT n1) n2)
    ·have hk2:¬ kc-1=0:=by omega
     clear HK0;go_enter Tryz.func54,Tryz.ntmps54;go_wp2;have v0:=HBV.out _ _ b0;have v1:=HBV.out _ _ k0;have v2:=HBV.out _ _ d0;have v3:=HBV.out _ _ d1;go_quiet (fail);generalize nq=n1;go_wp2;go_quiet (fail);generalize nq=n2;go_wp2;go_ret3;exact HP.out _ _ HK1.out (below_drewN (below_drewN belowT n1) n2)
   ·have hy4:(yk==3)=false:=by simpa using hy3
    rw [if_neg hy3] at hH;have HP:Hid (∀ w',Below w.heap.size w w'→HdPostR c n w (.returned (.tuple #[.string ⟨#[]⟩,.slice none 0 0,.bool false])) w'):=hidI fun w' hb=>⟨by rw [hH],hb⟩
    clear hv h hx hr hH hfx hfm hcell hl1 hy hml HK1 HK0;go_enter Tryz.func54,Tryz.ntmps54;go_wp2;have v0:=HBV.out _ _ b0;have v1:=HBV.out _ _ k0;have v2:=HBV.out _ _ d0;go_quiet (fail);generalize nq=n1;go_wp2;go_ret3;exact HP.out _ (below_drewN belowT n1);have h9:(yk != 3)=false:=(‹((r.length:Int)+1==0)=false∧(yk != 3)=false›).2;simp [hy3] at h9
 ·have d1:(xk==1)=false:=by simpa using hk1
  have hH:headF c.l n=none:=by unfold headF;rw [hfx];rw [if_neg hk1]
  have HP:Hid (∀ w',Below w.heap.size w w'→HdPostR c n w (.returned (.tuple #[.string ⟨#[]⟩,.slice none 0 0,.bool false])) w'):=hidI fun w' hb=>⟨by rw [hH],hb⟩
  have h0:(w.alloc (.cells #[.int .u8 xk,.string xs,.int .i64 xn,.slice ka xks.length kc,.int .i64 xp] 97)).cell? ⟨w.heap.size,0,none⟩=some (.int .u8 xk):=by go_simp
  have H0:=hidI h0;have HK1:=hidI hk1;clear hv h hx hk hr hH hfx hfm h0 hk1 d1;go_enter Tryz.func54,Tryz.ntmps54;go_wp2;refine regHd _ _ _ xk HK1.out H0.out (fun y hy => ?_);have HY:=hidI ((belowT:Below w.heap.size w (w.alloc (.cells #[.int .u8 xk,.string xs,.int .i64 xn,.slice ka xks.length kc,.int .i64 xp] 97))).trans (hy.mono (by simp)));clear hy;go_wp2;go_ret3;exact HP.out _ HY.out
theorem SeesR.from {w0:World} {a:Option Addr} {cap kl:Nat} {ks:List Nat} (hl:ks.length=kl) (h:SeesR w0 (.slice a ks.length cap) ks.length 1 (ints ks)) (j:Nat) (hj:j≤ks.length):SeesR w0 (sliced a j kl cap 1) (ks.drop j).length 1 (ints (ks.drop j)):=by
 subst hl;obtain ⟨⟨_,a',c',e,h0⟩,⟨_,_,_,e2,hle⟩⟩:=h;cases e;cases e2;refine ⟨⟨by simp [ints],_,cap-j,by unfold sliced;rw [List.length_drop],?_⟩,⟨_,_,_,rfl,by omega⟩⟩;by_cases hz:ks.length=j
 ·exact .inl (by simp;omega)
 ·rcases h0 with h0|⟨b,off,rfl,hc⟩
  ·omega
  ·refine .inr ⟨b,off+j,by rw [if_neg (by omega)];simp [Addr.add],fun i u hu => ?_⟩;have:=hc (j+i) u (by simpa [ints,List.getElem?_drop] using hu);rwa [←Nat.add_assoc] at this
theorem SeesR.from1 {w0:World} {b o j kl qc n:Nat} {cs:List Value} (h:SeesR w0 (sliced (some ⟨b,o,none⟩) j kl qc 1) n 1 cs) (hj:¬ j=0) (hq:¬ qc=j):SeesR w0 (.slice (some ⟨b,o+j,none⟩) (kl-j) (qc-j)) n 1 cs:=by
 unfold sliced at h;rw [if_neg hq] at h;simpa [Addr.add,hj] using h
theorem SeesR.from0 {w0:World} {a:Option Addr} {j kl n:Nat} {cs:List Value} (h:SeesR w0 (sliced a j kl j 1) n 1 cs):SeesR w0 (.slice a (kl-j) 0) n 1 cs:=by
 unfold sliced at h;rw [if_pos rfl,Nat.sub_self] at h;exact h
def RowsR {α:Type} (g:Nat→α→Except Int (Int × α)) (ks:List Nat) (er:Option (Int × Int)) (q:α) (is:List Int) (er2:Option (Int × Int)) (q2:α):Prop:=
 match er with
 | none=>Going g [] (rows g ks q) is er2 q2
 | some x=>er2=some x
def DtR (c:Dx) (p:PV) (er:Option (Int × Int)) (X:List Rw) (f:Nat) (ks:List Nat) (e:Ending) (w':World):Prop:=
 ∃ p' er' is kv,e=.returned kv∧DrS c p' er' (iRow kv is::X) w'∧p'.ds=p.ds∧p'.ms=p.ms∧p'.many≤p.many+(ks.map c.sz).sum∧is.length≤ks.length∧RowsR (rdStmt c.l f) ks er p.es is er' p'.es
theorem dstmts_er {c:Dx} {f:Nat} {ks:List Nat} (IH:∀ k∈ks,DS2 c f k) {p:PV} {er:Option (Int × Int)} {X:List Rw} {w:World} (h:DrS c p er X w) {lv:Value} (hv:SeesR c.w0 lv ks.length 1 (ints ks)) (hkn:ks.length≤400) (hN:p.many+(ks.map c.sz).sum≤999) :
  Calls Tryz.prog 105 #[.pointer (some ⟨c.B,0,none⟩),lv] w (DtR c p er X f ks):=by
 cases er with
 | none=>
  refine (dstmts_any IH h hv.1 hkn hN).mono ?_;rintro e w' ⟨p',er',is,kv,h1,h2,h3,h4,h5,h6,h7⟩;exact ⟨p',er',is,kv,h1,h2,h3,h4,h5,h6,h7⟩
 | some x=>
  obtain ⟨_,qa,qc,rfl,_⟩:=id hv.1;refine (dstmts_bad h qa ks.length qc hkn).mono ?_;rintro e w' ⟨h1,h2⟩;exact ⟨p,some x,[],_,h1,h2,rfl,rfl,by omega,by simp,rfl⟩
theorem DrS.permX {c:Dx} {p:PV} {er:Option (Int × Int)} {X Y:List Rw} {w:World} (h:DrS c p er X w) (hp:X.Perm Y):DrS c p er Y w:=⟨h.below,h.rows.perm (hp.append_left _),h.ok⟩
theorem DrS.thn {c:Dx} {p:PV} {er:Option (Int × Int)} {r1 r2 r3 A:Rw} {X:List Rw} {w:World} (h:DrS c p er (r1::r2::A::r3::X) w):DrS c p er (r2::A::r1::X) w:=
 (h.permX ((List.perm_middle (a:=r3) (l₁:=[r1,r2,A]) (l₂:=X)).trans (List.Perm.cons r3 (List.perm_middle (a:=r1) (l₁:=[r2,A]) (l₂:=X)).symm))).less
theorem RowsR.end {α:Type} {g:Nat→α→Except Int (Int × α)} {ks:List Nat} {q q2:α} {is:List Int} {er2:Option (Int × Int)} (h:RowsR g ks none q is er2 q2):(er2=none∧rows g ks q=.ok (is,q2))∨∃ a,er2=some (a,8)∧rows g ks q=.error a:=by
 simp only [RowsR,Going] at h;cases er2 with
 | none=>exact .inl ⟨rfl,by simpa [rows] using h⟩
 | some x=>
  obtain ⟨a,rfl,h⟩:=h;exact .inr ⟨a,rfl,h⟩
theorem wl_end {l:List Frm} {f n k0:Nat} {ks:List Nat} {q q6:ES} {wd:ByteArray} {er4 er6:Option (Int × Int)} {v4:Int} {es4:List Exp} {is:List Int} (hh:headF l n=some (wd,k0::ks)) (n1:wd=(⟨#[119,104,105,108,101]⟩:ByteArray)∨wd=(⟨#[108,111,111,112]⟩:ByteArray)) (h2:StepR (rdExpr l (big l)) k0 none q.1 er4 v4 es4) (h3:RowsR (rdStmt l f) ks er4 (es4,q.2) is er6 q6) :
  (er6=none∧rdStmt l (f+1) n q=addS q6 ⟨if wd=(⟨#[108,111,111,112]⟩:ByteArray) then 6 else 5,emptyS,0,v4, -1,[],is,[]⟩)∨∃ a,er6=some (a,8)∧rdStmt l (f+1) n q=.error a:=by
 have hr:rdStmt l (f+1) n q=(match rdE l k0 q.1 with
   | .error p=>Except.error p
   | .ok (e,es1)=>match rows (rdStmt l f) ks (es1,q.2) with
    | .error p=>.error p
    | .ok (t,q2)=>addS q2 ⟨if wd=(⟨#[108,111,111,112]⟩:ByteArray) then 6 else 5,emptyS,0,e, -1,[],t,[]⟩):=by
  have nn:∀ {b:ByteArray} {P:Prop},(⟨#[119,104,105,108,101]⟩:ByteArray)≠b→(⟨#[108,111,111,112]⟩:ByteArray)≠b→¬ (wd=b∧P):=fun hw hl h=>n1.elim (fun e=>hw (e.symm.trans h.1)) (fun e=>hl (e.symm.trans h.1))
  simp only [rdStmt,hh];rw [if_neg (nn (by decide) (by decide)),if_neg (nn (by decide) (by decide)),if_neg (nn (by decide) (by decide)),if_neg (nn (by decide) (by decide)),if_pos ⟨n1,by simp⟩];rfl
 rw [hr];simp only [StepR] at h2;unfold rdE;cases he:rdExpr l (big l) k0 q.1 with
 | error a=>
  rw [he] at h2;simp only at h2;subst h2;exact .inr ⟨a,h3,rfl⟩
 | ok r=>
  obtain ⟨e,es1⟩:=r;rw [he] at h2;obtain ⟨rfl,rfl,rfl⟩:=h2;rcases h3.end with ⟨rfl,ht⟩|⟨a,rfl,ht⟩
  ·exact .inl ⟨rfl,by simp only;rw [ht]⟩
  ·exact .inr ⟨a,rfl,by simp only;rw [ht]⟩
set_option maxRecDepth 100000 in
set_option maxHeartbeats 16000000 in
theorem dstmt_while {c:Dx} (hc:c.Ok) {f n:Nat} (hn:n<c.fs.length) {p:PV} {X:List Rw} {w:World} (h:DrS c p none X w) (hN:p.many+c.sz n≤999) {wd:ByteArray} {k0:Nat} {rest:List Nat} (IH:∀ k∈rest,DS2 c f k) (hh:headF c.l n=some (wd,k0::rest)) (n1:wd=(⟨#[119,104,105,108,101]⟩:ByteArray)) :
  Calls Tryz.prog 56 #[.pointer (some ⟨c.B,0,none⟩),.int .i64 (n:Int)] w (DsPost c p X (f+1) n):=by
 have HN:=hidI hN;have hz:=hc.kids_sz hn;have HZ:=hidI hz;have HZ1:Hid (1≤c.sz n):=hidI (by omega);have hkl:=hc.kids_lt hn;have e1:(n:Int)<(c.fs.length:Int):=by omega
 have e2:(0:Int)≤(n:Int):=by omega
 obtain ⟨g,o,cap,xp,W1,HFP,HC4,HFV,HW1,HS1,HKN⟩:=zeD hc hn h;have hv:=HFV.out;have hkn0:=HKN.out;have CH:=hidI (dhead_roomy hc HS1.out hn);obtain ⟨m0,hks⟩:=zaW hh;have hk0:k0<c.fs.length:=(hkl k0 (by rw [hks];simp)).2;have HZ2:Hid (1+(c.sz k0)+(rest.map c.sz).sum≤c.sz n):=hidI (by
  have:=HZ.out;rw [hks] at this;simp only [List.map_cons,List.sum_cons] at this;omega)
 have hrl:rest.length≤400:=by
  have h1:=hkn0;rw [hks] at h1;simp only [List.length_cons] at h1;omega
 have CH2:Hid (Calls Tryz.prog 54 #[.pointer (some ⟨c.B,0,none⟩),.int .i64 (n:Int)] W1 fun e w'=>∃ kv,e=.returned (.tuple #[.string wd,kv,.bool true])∧SeesR c.w0 kv (k0::rest).length 1 (ints (k0::rest))∧Below W1.heap.size W1 w'):=hidI (by
  refine CH.out.mono fun e w' h => ?_
  unfold HdPostR at h;rw [hh] at h;obtain ⟨⟨kv,h1,h2⟩,h3⟩:=h;exact ⟨kv,h1,h2,h3⟩)
 obtain ⟨kl,hkl0⟩:∃ kl,(k0::rest).length=kl:=⟨_,rfl⟩;have hkl1:kl=rest.length+1:=by rw [←hkl0];simp
 have f1:(1:Int)≤(kl:Int):=by omega
 have HRL:=hidI hrl;have HKL0:=hidI hkl0;clear hkl1;have HIH:=hidI IH;obtain ⟨b_set,b_fold,b_each,b_if,b_while,b_loop,b_bfs⟩:=zcQ wd;rw [decide_eq_true n1] at b_while;rw [decide_eq_false (by rw [n1];decide)] at b_set b_fold b_each b_if b_loop b_bfs;have HHH:=hidI hh;have HN1:=hidI n1;clear hv h hn hN hz hkl hkn0 CH hh hks n1 IH hkl0 hrl;go_enter Tryz.func56,Tryz.ntmps56
 go_wp2_with (go_at_call 54;rw [HW1.out];refine CH2.out.mono ?_;rintro e w2 ⟨kv,rfl,hkv,hb2⟩;obtain ⟨_,qa,qc,rfl,_⟩:=id hkv.1;obtain ⟨kb,ko,rfl,_,_⟩:=zaB hkv.1 (HS1.out.on hb2).below (i:=0) (k:=k0) rfl;have HKV:=hidI hkv.1;have HSL:Hid (SeesR c.w0 (sliced (some ⟨kb,ko,none⟩) 1 kl qc 1) rest.length 1 (ints rest)):=hidI (hkv.from HKL0.out 1 (by simp));rw [HKL0.out];have HS2:=hidI (HS1.out.on hb2);have hs2:=HS1.out.on hb2;clear hb2 CH2;obtain ⟨_,_,e9,kq0,_⟩:=zaB HKV.out hs2.below (i:=0) (k:=k0) rfl;cases e9;replace kq0:w2.cell? ⟨kb,ko,none⟩=some (.int .i64 (k0:Int)):=kq0;clear hs2 hkv)
 refine regIf1 _ wd b_if (fun y hy => ?_);have hs3:=HS2.out.on hy;have HS3:=hidI hs3;obtain ⟨_,_,e9,kq0,_⟩:=zaB HKV.out hs3.below (i:=0) (k:=k0) rfl;cases e9;replace kq0:y.cell? ⟨kb,ko,none⟩=some (.int .i64 (k0:Int)):=kq0;clear hs3 hy HS2;by_cases hq:qc=1
 case' pos=>
  subst hq;have HSX:=hidI HSL.out.from0
 case' neg=>have HSX:=hidI (HSL.out.from1 (by decide) hq)
 all_goals
  go_wp2_with (first
   | (go_at_call 102;refine Calls.mono (zbK hc hk0 p none _ _ HS3.out (by have:=HZ2.out;have:=HN.out;omega)) ?_;rintro e w4 ⟨p4,er4,v4,rfl,h4,d1,d2,d3,hm4,hs4⟩;have H4:=hidI h4;have HD4:=hidI (And.intro d1 (And.intro d2 d3));have HM4:=hidI hm4;have HS4:=hidI hs4;have r0:=h4.vcell (j:=0) rfl;have z0:=h4.vfree 0;have r3:=h4.vcell (j:=3) rfl;have z3:=h4.vfree 3;clear kq0 HS3 d1 d2 d3 hm4 hs4 h4)
   | (go_at_call 105;refine Calls.mono (dstmts_er HIH.out ((H4.out.setv (j:=0) (.int .u8 5)).setv (j:=3) (.int .i64 v4)) HSX.out HRL.out (by have:=HZ2.out;have:=HN.out;have:=HM4.out;omega)) ?_;rintro e w6 ⟨p6,er6,is,kv6,rfl,h6,d1,d2,hm6,hil6,hs6⟩;obtain ⟨va,vc,hkv⟩:∃ va vc,kv6=.slice va is.length vc:=zaH (RowsP.head (r:=iRow kv6 is) h6.first);subst hkv;have H6:=hidI h6.thn;have HD6:=hidI (And.intro d1 d2);have HM6:=hidI hm6;have HIL:=hidI hil6;have HS6:=hidI hs6;have r6:=h6.thn.vcell (j:=6) rfl;have z6:=h6.thn.vfree 6;clear r0 z0 r3 z3 H4 d1 d2 hm6 hil6 hs6 h6;refine Hid.out ?_))
  have HMT:Hid (p6.many+1≤p.many+c.sz n):=hidI (by have:=HZ2.out;have:=HM4.out;have:=HM6.out;omega);have HTT:=hidI (H6.out.setv (j:=6) (.slice va is.length vc));refine hidI ?_;go_wp2;have HTD:=hidI HTT.out.drew;have HPL:Hid (p6.ss.length≤999):=hidI (by have:=HMT.out;have:=HN.out;have:=HZ1.out;unfold PV.many at *;omega);refine drgS (B:=c.B) (eb:=w.heap.size) (base:=c.w0.heap.size) (n:=p6.ss.length) (u:=p6.sv) (xs:=flatS p6.ss) (HTD.out.cell (j:=3) rfl) (HTD.out.vcell (j:=0) rfl) (HTD.out.vcell (j:=1) rfl) (HTD.out.vcell (j:=2) rfl) (HTD.out.vcell (j:=3) rfl) (HTD.out.vcell (j:=4) rfl) (HTD.out.vcell (j:=5) rfl) (HTD.out.vcell (j:=6) rfl) (HTD.out.vcell (j:=7) rfl) (HTD.out.free 3) HTD.out.sown.head (by have:=HPL.out;omega) HTD.out.size (zbJ HTD.out.sown) HTD.out.vfarS (by
   intro v hv;simp only [List.mem_cons,List.not_mem_nil,or_false] at hv;rcases hv with rfl|rfl|rfl|rfl|rfl|rfl|rfl|rfl<;>rfl) (fun _ _ _ _ _ h=>h) ?_
  intro W5 u' t277 t278 t279 t280 t281 t282 t283 t284 t285 t286 t287 t288 hg ho ha;have s5:=DrS.addS (s:=⟨⟨5,emptyS,0,v4, -1,[],is,[]⟩,.slice none 0 0,.slice va is.length vc,.slice none 0 0⟩) (HTD.out.less.alloc (.cells #[.int .u8 5,.string ⟨#[]⟩,.int .u8 0,.int .i64 v4,.int .i64 (-1),.slice none 0 0,.slice va is.length vc,.slice none 0 0] 49)) ⟨by show 5<256;omega,by show 0<256;omega,(by unfold SmlN;decide:SmlN emptyS),by simp,(by have:=HIL.out;have:=HRL.out;show is.length≤_;omega),by simp,by simp⟩ (by have:=HPL.out;omega) hg ho (by simpa using ha);have HS5:=hidI s5;obtain ⟨ml,hml⟩:∃ ml,p6.ss.length=ml:=⟨_,rfl⟩;obtain ⟨ua,uc,hu⟩:∃ ua uc,u'=.slice ua (p6.ss.length+1) uc:=zaH ho;rw [hml] at hu;subst hu;have c7:=s5.cell (j:=3) (u:=.slice ua (ml+1) uc) rfl;have hml2:ml≤999:=hml▸HPL.out;have e9:IntKind.i64.wrap (((ml+1:Nat):Int)-1)=(ml:Int):=by rw [show (((ml+1:Nat):Int)-1)=(ml:Int) by omega,IntKind.wrap_i64];omega
  obtain ⟨W6,hW6⟩:∃ W6,W5.setCell ⟨c.B,3,none⟩ (.slice ua (ml+1) uc)=W6:=⟨_,rfl⟩;rw [hW6] at HS5 c7 ⊢;have HML:=hidI hml;clear hg ho ha s5 HTD hW6 hml;go_wp2;go_ret;rw [←HML.out];have hee:p4.es=(p4.xs.map Prod.fst,p.es.2):=by
   unfold PV.es;rw [HD4.out.2.2]
  have h6:=HS6.out;rw [hee] at h6;rcases wl_end (f:=f) (q:=p.es) HHH.out (.inl HN1.out) HS4.out h6 with ⟨rfl,hr⟩|⟨a,rfl,hr⟩
  ·rw [if_neg (by rw [HN1.out];decide)] at hr;exact DsPost.ok hr rfl HS5.out (HD6.out.1.trans HD4.out.1) (HD6.out.2.trans HD4.out.2.1) HMT.out
  ·exact DsPost.bad hr HS5.out (HD6.out.1.trans HD4.out.1) (HD6.out.2.trans HD4.out.2.1) (by have:=HMT.out;simp [PV.many] at this ⊢;omega)
set_option maxRecDepth 100000 in
set_option maxHeartbeats 16000000 in
theorem dstmt_loop {c:Dx} (hc:c.Ok) {f n:Nat} (hn:n<c.fs.length) {p:PV} {X:List Rw} {w:World} (h:DrS c p none X w) (hN:p.many+c.sz n≤999) {wd:ByteArray} {k0:Nat} {rest:List Nat} (IH:∀ k∈rest,DS2 c f k) (hh:headF c.l n=some (wd,k0::rest)) (n1:wd=(⟨#[108,111,111,112]⟩:ByteArray)) :
  Calls Tryz.prog 56 #[.pointer (some ⟨c.B,0,none⟩),.int .i64 (n:Int)] w (DsPost c p X (f+1) n):=by
 have HN:=hidI hN;have hz:=hc.kids_sz hn;have HZ:=hidI hz;have HZ1:Hid (1≤c.sz n):=hidI (by omega);have hkl:=hc.kids_lt hn;have e1:(n:Int)<(c.fs.length:Int):=by omega
 have e2:(0:Int)≤(n:Int):=by omega
 obtain ⟨g,o,cap,xp,W1,HFP,HC4,HFV,HW1,HS1,HKN⟩:=zeD hc hn h;have hv:=HFV.out;have hkn0:=HKN.out;have CH:=hidI (dhead_roomy hc HS1.out hn);obtain ⟨m0,hks⟩:=zaW hh;have hk0:k0<c.fs.length:=(hkl k0 (by rw [hks];simp)).2;have HZ2:Hid (1+(c.sz k0)+(rest.map c.sz).sum≤c.sz n):=hidI (by
  have:=HZ.out;rw [hks] at this;simp only [List.map_cons,List.sum_cons] at this;omega)
 have hrl:rest.length≤400:=by
  have h1:=hkn0;rw [hks] at h1;simp only [List.length_cons] at h1;omega
 have CH2:Hid (Calls Tryz.prog 54 #[.pointer (some ⟨c.B,0,none⟩),.int .i64 (n:Int)] W1 fun e w'=>∃ kv,e=.returned (.tuple #[.string wd,kv,.bool true])∧SeesR c.w0 kv (k0::rest).length 1 (ints (k0::rest))∧Below W1.heap.size W1 w'):=hidI (by
  refine CH.out.mono fun e w' h => ?_
  unfold HdPostR at h;rw [hh] at h;obtain ⟨⟨kv,h1,h2⟩,h3⟩:=h;exact ⟨kv,h1,h2,h3⟩)
 obtain ⟨kl,hkl0⟩:∃ kl,(k0::rest).length=kl:=⟨_,rfl⟩;have hkl1:kl=rest.length+1:=by rw [←hkl0];simp
 have f1:(1:Int)≤(kl:Int):=by omega
 have HRL:=hidI hrl;have HKL0:=hidI hkl0;clear hkl1;have HIH:=hidI IH;obtain ⟨b_set,b_fold,b_each,b_if,b_while,b_loop,b_bfs⟩:=zcQ wd;rw [decide_eq_true n1] at b_loop;rw [decide_eq_false (by rw [n1];decide)] at b_set b_fold b_each b_if b_while b_bfs;have HHH:=hidI hh;have HN1:=hidI n1;clear hv h hn hN hz hkl hkn0 CH hh hks n1 IH hkl0 hrl;go_enter Tryz.func56,Tryz.ntmps56
 go_wp2_with (go_at_call 54;rw [HW1.out];refine CH2.out.mono ?_;rintro e w2 ⟨kv,rfl,hkv,hb2⟩;obtain ⟨_,qa,qc,rfl,_⟩:=id hkv.1;obtain ⟨kb,ko,rfl,_,_⟩:=zaB hkv.1 (HS1.out.on hb2).below (i:=0) (k:=k0) rfl;have HKV:=hidI hkv.1;have HSL:Hid (SeesR c.w0 (sliced (some ⟨kb,ko,none⟩) 1 kl qc 1) rest.length 1 (ints rest)):=hidI (hkv.from HKL0.out 1 (by simp));rw [HKL0.out];have HS2:=hidI (HS1.out.on hb2);have hs2:=HS1.out.on hb2;clear hb2 CH2;obtain ⟨_,_,e9,kq0,_⟩:=zaB HKV.out hs2.below (i:=0) (k:=k0) rfl;cases e9;replace kq0:w2.cell? ⟨kb,ko,none⟩=some (.int .i64 (k0:Int)):=kq0;clear hs2 hkv)
 refine regIf1 _ wd b_if (fun y hy => ?_);have hs3:=HS2.out.on hy;have HS3:=hidI hs3;obtain ⟨_,_,e9,kq0,_⟩:=zaB HKV.out hs3.below (i:=0) (k:=k0) rfl;cases e9;replace kq0:y.cell? ⟨kb,ko,none⟩=some (.int .i64 (k0:Int)):=kq0;clear hs3 hy HS2;by_cases hq:qc=1
 case' pos=>
  subst hq;have HSX:=hidI HSL.out.from0
 case' neg=>have HSX:=hidI (HSL.out.from1 (by decide) hq)
 all_goals
  go_wp2_with (first
   | (go_at_call 102;refine Calls.mono (zbK hc hk0 p none _ _ HS3.out (by have:=HZ2.out;have:=HN.out;omega)) ?_;rintro e w4 ⟨p4,er4,v4,rfl,h4,d1,d2,d3,hm4,hs4⟩;have H4:=hidI h4;have HD4:=hidI (And.intro d1 (And.intro d2 d3));have HM4:=hidI hm4;have HS4:=hidI hs4;have r0:=h4.vcell (j:=0) rfl;have z0:=h4.vfree 0;have r3:=h4.vcell (j:=3) rfl;have z3:=h4.vfree 3;clear kq0 HS3 d1 d2 d3 hm4 hs4 h4)
   | (go_at_call 105;refine Calls.mono (dstmts_er HIH.out (((H4.out.setv (j:=0) (.int .u8 5)).setv (j:=3) (.int .i64 v4)).setv (j:=0) (.int .u8 6)) HSX.out HRL.out (by have:=HZ2.out;have:=HN.out;have:=HM4.out;omega)) ?_;rintro e w6 ⟨p6,er6,is,kv6,rfl,h6,d1,d2,hm6,hil6,hs6⟩;obtain ⟨va,vc,hkv⟩:∃ va vc,kv6=.slice va is.length vc:=zaH (RowsP.head (r:=iRow kv6 is) h6.first);subst hkv;have H6:=hidI h6.thn;have HD6:=hidI (And.intro d1 d2);have HM6:=hidI hm6;have HIL:=hidI hil6;have HS6:=hidI hs6;have r6:=h6.thn.vcell (j:=6) rfl;have z6:=h6.thn.vfree 6;clear r0 z0 r3 z3 H4 d1 d2 hm6 hil6 hs6 h6;refine Hid.out ?_))
  have HMT:Hid (p6.many+1≤p.many+c.sz n):=hidI (by have:=HZ2.out;have:=HM4.out;have:=HM6.out;omega);have HTT:=hidI (H6.out.setv (j:=6) (.slice va is.length vc));refine hidI ?_;go_wp2;have HTD:=hidI HTT.out.drew;have HPL:Hid (p6.ss.length≤999):=hidI (by have:=HMT.out;have:=HN.out;have:=HZ1.out;unfold PV.many at *;omega);refine drgS (B:=c.B) (eb:=w.heap.size) (base:=c.w0.heap.size) (n:=p6.ss.length) (u:=p6.sv) (xs:=flatS p6.ss) (HTD.out.cell (j:=3) rfl) (HTD.out.vcell (j:=0) rfl) (HTD.out.vcell (j:=1) rfl) (HTD.out.vcell (j:=2) rfl) (HTD.out.vcell (j:=3) rfl) (HTD.out.vcell (j:=4) rfl) (HTD.out.vcell (j:=5) rfl) (HTD.out.vcell (j:=6) rfl) (HTD.out.vcell (j:=7) rfl) (HTD.out.free 3) HTD.out.sown.head (by have:=HPL.out;omega) HTD.out.size (zbJ HTD.out.sown) HTD.out.vfarS (by
   intro v hv;simp only [List.mem_cons,List.not_mem_nil,or_false] at hv;rcases hv with rfl|rfl|rfl|rfl|rfl|rfl|rfl|rfl<;>rfl) (fun _ _ _ _ _ h=>h) ?_
  intro W5 u' t277 t278 t279 t280 t281 t282 t283 t284 t285 t286 t287 t288 hg ho ha;have s5:=DrS.addS (s:=⟨⟨6,emptyS,0,v4, -1,[],is,[]⟩,.slice none 0 0,.slice va is.length vc,.slice none 0 0⟩) (HTD.out.less.alloc (.cells #[.int .u8 6,.string ⟨#[]⟩,.int .u8 0,.int .i64 v4,.int .i64 (-1),.slice none 0 0,.slice va is.length vc,.slice none 0 0] 49)) ⟨by show 6<256;omega,by show 0<256;omega,(by unfold SmlN;decide:SmlN emptyS),by simp,(by have:=HIL.out;have:=HRL.out;show is.length≤_;omega),by simp,by simp⟩ (by have:=HPL.out;omega) hg ho (by simpa using ha);have HS5:=hidI s5;obtain ⟨ml,hml⟩:∃ ml,p6.ss.length=ml:=⟨_,rfl⟩;obtain ⟨ua,uc,hu⟩:∃ ua uc,u'=.slice ua (p6.ss.length+1) uc:=zaH ho;rw [hml] at hu;subst hu;have c7:=s5.cell (j:=3) (u:=.slice ua (ml+1) uc) rfl;have hml2:ml≤999:=hml▸HPL.out;have e9:IntKind.i64.wrap (((ml+1:Nat):Int)-1)=(ml:Int):=by rw [show (((ml+1:Nat):Int)-1)=(ml:Int) by omega,IntKind.wrap_i64];omega
  obtain ⟨W6,hW6⟩:∃ W6,W5.setCell ⟨c.B,3,none⟩ (.slice ua (ml+1) uc)=W6:=⟨_,rfl⟩;rw [hW6] at HS5 c7 ⊢;have HML:=hidI hml;clear hg ho ha s5 HTD hW6 hml;go_wp2;go_ret;rw [←HML.out];have hee:p4.es=(p4.xs.map Prod.fst,p.es.2):=by
   unfold PV.es;rw [HD4.out.2.2]
  have h6:=HS6.out;rw [hee] at h6;rcases wl_end (f:=f) (q:=p.es) HHH.out (.inr HN1.out) HS4.out h6 with ⟨rfl,hr⟩|⟨a,rfl,hr⟩
  ·rw [if_pos HN1.out] at hr;exact DsPost.ok hr rfl HS5.out (HD6.out.1.trans HD4.out.1) (HD6.out.2.trans HD4.out.2.1) HMT.out
  ·exact DsPost.bad hr HS5.out (HD6.out.1.trans HD4.out.1) (HD6.out.2.trans HD4.out.2.1) (by have:=HMT.out;simp [PV.many] at this ⊢;omega)
theorem bfs_end {l:List Frm} {f n k0 k1:Nat} {ks:List Nat} {q q6:ES} {wd:ByteArray} {er1 er4 er6:Option (Int × Int)} {s:ByteArray} {v4:Int} {es4:List Exp} {is:List Int} (hh:headF l n=some (wd,k0::k1::ks)) (n1:wd=(⟨#[98,102,115]⟩:ByteArray)) (h1:NameR (nameF l k0) er1 s) (h2:StepR (rdExpr l (big l)) k1 er1 q.1 er4 v4 es4) (h3:RowsR (rdStmt l f) ks er4 (es4,q.2) is er6 q6) :
  (er6=none∧rdStmt l (f+1) n q=addS q6 ⟨7,s,0,v4, -1,[],is,[]⟩)∨∃ a,er6=some (a,8)∧rdStmt l (f+1) n q=.error a:=by
 have hr:rdStmt l (f+1) n q=(match nameF l k0 with
   | .error p=>Except.error p
   | .ok s=>match rdE l k1 q.1 with
    | .error p=>.error p
    | .ok (e,es1)=>match rows (rdStmt l f) ks (es1,q.2) with
     | .error p=>.error p
     | .ok (t,q2)=>addS q2 ⟨7,s,0,e, -1,[],t,[]⟩):=by
  have nn:∀ {b:ByteArray} {P:Prop},(⟨#[98,102,115]⟩:ByteArray)≠b→¬ (wd=b∧P):=fun hw h=>hw (n1.symm.trans h.1)
  simp only [rdStmt,hh];rw [if_neg (nn (by decide)),if_neg (nn (by decide)),if_neg (nn (by decide)),if_neg (nn (by decide)),if_neg (fun h=>h.1.elim (fun e=>absurd (n1.symm.trans e) (by decide)) (fun e=>absurd (n1.symm.trans e) (by decide))),if_pos ⟨n1,by simp⟩];rfl
 rw [hr];unfold NameR at h1;cases hn:nameF l k0 with
 | error a=>
  rw [hn] at h1;simp only at h1;subst h1;simp only [StepR] at h2;subst h2;exact .inr ⟨a,h3,rfl⟩
 | ok t=>
  rw [hn] at h1;obtain ⟨rfl,rfl⟩:=h1;simp only [StepR] at h2;simp only;unfold rdE;cases he:rdExpr l (big l) k1 q.1 with
  | error a=>
   rw [he] at h2;simp only at h2;subst h2;exact .inr ⟨a,h3,rfl⟩
  | ok r=>
   obtain ⟨e,es1⟩:=r;rw [he] at h2;obtain ⟨rfl,rfl,rfl⟩:=h2;rcases h3.end with ⟨rfl,ht⟩|⟨a,rfl,ht⟩
   ·exact .inl ⟨rfl,by simp only;rw [ht]⟩
   ·exact .inr ⟨a,rfl,by simp only;rw [ht]⟩
set_option maxRecDepth 100000 in
set_option maxHeartbeats 16000000 in
theorem dstmt_bfs {c:Dx} (hc:c.Ok) {f n:Nat} (hn:n<c.fs.length) {p:PV} {X:List Rw} {w:World} (h:DrS c p none X w) (hN:p.many+c.sz n≤999) {wd:ByteArray} {k0 k1:Nat} {rest:List Nat} (IH:∀ k∈rest,DS2 c f k) (hh:headF c.l n=some (wd,k0::k1::rest)) (n1:wd=(⟨#[98,102,115]⟩:ByteArray)) :
  Calls Tryz.prog 56 #[.pointer (some ⟨c.B,0,none⟩),.int .i64 (n:Int)] w (DsPost c p X (f+1) n):=by
 have HN:=hidI hN;have hz:=hc.kids_sz hn;have HZ:=hidI hz;have HZ1:Hid (1≤c.sz n):=hidI (by omega);have hkl:=hc.kids_lt hn;have e1:(n:Int)<(c.fs.length:Int):=by omega
 have e2:(0:Int)≤(n:Int):=by omega
 obtain ⟨g,o,cap,xp,W1,HFP,HC4,HFV,HW1,HS1,HKN⟩:=zeD hc hn h;have hv:=HFV.out;have hkn0:=HKN.out;have CH:=hidI (dhead_roomy hc HS1.out hn);obtain ⟨m0,hks⟩:=zaW hh;have hk0:k0<c.fs.length:=(hkl k0 (by rw [hks];simp)).2;have hk1:k1<c.fs.length:=(hkl k1 (by rw [hks];simp)).2;have HZ2:Hid (1+(c.sz k0+c.sz k1)+(rest.map c.sz).sum≤c.sz n):=hidI (by
  have:=HZ.out;rw [hks] at this;simp only [List.map_cons,List.sum_cons] at this;omega)
 have hrl:rest.length≤400:=by
  have h1:=hkn0;rw [hks] at h1;simp only [List.length_cons] at h1;omega
 have CH2:Hid (Calls Tryz.prog 54 #[.pointer (some ⟨c.B,0,none⟩),.int .i64 (n:Int)] W1 fun e w'=>∃ kv,e=.returned (.tuple #[.string wd,kv,.bool true])∧SeesR c.w0 kv (k0::k1::rest).length 1 (ints (k0::k1::rest))∧Below W1.heap.size W1 w'):=hidI (by
  refine CH.out.mono fun e w' h => ?_
  unfold HdPostR at h;rw [hh] at h;obtain ⟨⟨kv,h1,h2⟩,h3⟩:=h;exact ⟨kv,h1,h2,h3⟩)
 obtain ⟨kl,hkl0⟩:∃ kl,(k0::k1::rest).length=kl:=⟨_,rfl⟩;have hkl1:kl=rest.length+2:=by rw [←hkl0];simp
 have f1:(2:Int)≤(kl:Int):=by omega
 have HRL:=hidI hrl;have HKL0:=hidI hkl0;clear hkl1;have HIH:=hidI IH;obtain ⟨b_set,b_fold,b_each,b_if,b_while,b_loop,b_bfs⟩:=zcQ wd;rw [decide_eq_true n1] at b_bfs;rw [decide_eq_false (by rw [n1];decide)] at b_set b_fold b_each b_if b_while b_loop;have HHH:=hidI hh;have HN1:=hidI n1;clear hv h hn hN hz hkl hkn0 CH hh hks n1 IH hkl0 hrl;go_enter Tryz.func56,Tryz.ntmps56
 go_wp2_with (go_at_call 54;rw [HW1.out];refine CH2.out.mono ?_;rintro e w2 ⟨kv,rfl,hkv,hb2⟩;obtain ⟨_,qa,qc,rfl,_⟩:=id hkv.1;obtain ⟨kb,ko,rfl,_,_⟩:=zaB hkv.1 (HS1.out.on hb2).below (i:=0) (k:=k0) rfl;have HKV:=hidI hkv.1;have HSL:Hid (SeesR c.w0 (sliced (some ⟨kb,ko,none⟩) 2 kl qc 1) rest.length 1 (ints rest)):=hidI (hkv.from HKL0.out 2 (by simp));rw [HKL0.out];have HS2:=hidI (HS1.out.on hb2);have hs2:=HS1.out.on hb2;clear hb2 CH2;obtain ⟨_,_,e9,kq0,_⟩:=zaB HKV.out hs2.below (i:=0) (k:=k0) rfl;cases e9;replace kq0:w2.cell? ⟨kb,ko,none⟩=some (.int .i64 (k0:Int)):=kq0;clear hs2 hkv)
 refine regIf1 _ wd b_if (fun y hy => ?_);have hs3:=HS2.out.on hy;have HS3:=hidI hs3;obtain ⟨_,_,e9,kq0,_⟩:=zaB HKV.out hs3.below (i:=0) (k:=k0) rfl;cases e9;replace kq0:y.cell? ⟨kb,ko,none⟩=some (.int .i64 (k0:Int)):=kq0;clear hs3 hy HS2;by_cases hq:qc=2
 case' pos=>
  subst hq;have HSX:=hidI HSL.out.from0
 case' neg=>have HSX:=hidI (HSL.out.from1 (by decide) hq)
 all_goals
  go_wp2_with (first
   | (go_at_call 58;refine Calls.mono (zbS hc HS3.out hk0) ?_;rintro e w3 ⟨s,er1,rfl,h3,hsm,hnr⟩;have H3:=hidI h3;have HSM:=hidI hsm;have HNR:=hidI hnr;clear kq0 HS3 hsm hnr;have r0:=h3.vcell (j:=0) rfl;have z0:=h3.vfree 0;have r1:=h3.vcell (j:=1) rfl;have z1:=h3.vfree 1;obtain ⟨_,_,e9,kq1,_⟩:=zaB HKV.out ((h3.setv (j:=0) (.int .u8 7)).setv (j:=1) (.string s)).below (i:=1) (k:=k1) rfl;cases e9;clear h3)
   | (go_at_call 102;refine Calls.mono (zbK hc hk1 p er1 _ _ ((H3.out.setv (j:=0) (.int .u8 7)).setv (j:=1) (.string s)) (by have:=HZ2.out;have:=HN.out;omega)) ?_;rintro e w4 ⟨p4,er4,v4,rfl,h4,d1,d2,d3,hm4,hs4⟩;have H4:=hidI h4;have HD4:=hidI (And.intro d1 (And.intro d2 d3));have HM4:=hidI hm4;have HS4:=hidI hs4;have r3:=h4.vcell (j:=3) rfl;have z3:=h4.vfree 3;clear kq1 r0 z0 r1 z1 H3 d1 d2 d3 hm4 hs4 h4)
   | (go_at_call 105;refine Calls.mono (dstmts_er HIH.out (H4.out.setv (j:=3) (.int .i64 v4)) HSX.out HRL.out (by have:=HZ2.out;have:=HN.out;have:=HM4.out;omega)) ?_;rintro e w6 ⟨p6,er6,is,kv6,rfl,h6,d1,d2,hm6,hil6,hs6⟩;obtain ⟨va,vc,hkv⟩:∃ va vc,kv6=.slice va is.length vc:=zaH (RowsP.head (r:=iRow kv6 is) h6.first);subst hkv;have H6:=hidI h6.thn;have HD6:=hidI (And.intro d1 d2);have HM6:=hidI hm6;have HIL:=hidI hil6;have HS6:=hidI hs6;have r6:=h6.thn.vcell (j:=6) rfl;have z6:=h6.thn.vfree 6;clear r3 z3 H4 d1 d2 hm6 hil6 hs6 h6;refine Hid.out ?_))
  have HMT:Hid (p6.many+1≤p.many+c.sz n):=hidI (by have:=HZ2.out;have:=HM4.out;have:=HM6.out;omega);have HTT:=hidI (H6.out.setv (j:=6) (.slice va is.length vc));refine hidI ?_;go_wp2;have HTD:=hidI HTT.out.drew;have HPL:Hid (p6.ss.length≤999):=hidI (by have:=HMT.out;have:=HN.out;have:=HZ1.out;unfold PV.many at *;omega);refine drgS (B:=c.B) (eb:=w.heap.size) (base:=c.w0.heap.size) (n:=p6.ss.length) (u:=p6.sv) (xs:=flatS p6.ss) (HTD.out.cell (j:=3) rfl) (HTD.out.vcell (j:=0) rfl) (HTD.out.vcell (j:=1) rfl) (HTD.out.vcell (j:=2) rfl) (HTD.out.vcell (j:=3) rfl) (HTD.out.vcell (j:=4) rfl) (HTD.out.vcell (j:=5) rfl) (HTD.out.vcell (j:=6) rfl) (HTD.out.vcell (j:=7) rfl) (HTD.out.free 3) HTD.out.sown.head (by have:=HPL.out;omega) HTD.out.size (zbJ HTD.out.sown) HTD.out.vfarS (by
   intro v hv;simp only [List.mem_cons,List.not_mem_nil,or_false] at hv;rcases hv with rfl|rfl|rfl|rfl|rfl|rfl|rfl|rfl<;>rfl) (fun _ _ _ _ _ h=>h) ?_
  intro W5 u' t277 t278 t279 t280 t281 t282 t283 t284 t285 t286 t287 t288 hg ho ha;have s5:=DrS.addS (s:=⟨⟨7,s,0,v4, -1,[],is,[]⟩,.slice none 0 0,(.slice va is.length vc),.slice none 0 0⟩) (HTD.out.less.alloc (.cells #[.int .u8 7,.string s,.int .u8 0,.int .i64 v4,.int .i64 (-1),.slice none 0 0,(.slice va is.length vc),.slice none 0 0] 49)) ⟨by show 7<256;omega,by show 0<256;omega,HSM.out,by simp,(by have:=HIL.out;have:=HRL.out;show is.length≤_;omega),by simp,by simp⟩ (by have:=HPL.out;omega) hg ho (by simpa using ha);have HS5:=hidI s5;obtain ⟨ml,hml⟩:∃ ml,p6.ss.length=ml:=⟨_,rfl⟩;obtain ⟨ua,uc,hu⟩:∃ ua uc,u'=.slice ua (p6.ss.length+1) uc:=zaH ho;rw [hml] at hu;subst hu;have c7:=s5.cell (j:=3) (u:=.slice ua (ml+1) uc) rfl;have hml2:ml≤999:=hml▸HPL.out;have e9:IntKind.i64.wrap (((ml+1:Nat):Int)-1)=(ml:Int):=by rw [show (((ml+1:Nat):Int)-1)=(ml:Int) by omega,IntKind.wrap_i64];omega
  obtain ⟨W6,hW6⟩:∃ W6,W5.setCell ⟨c.B,3,none⟩ (.slice ua (ml+1) uc)=W6:=⟨_,rfl⟩;rw [hW6] at HS5 c7 ⊢;have HML:=hidI hml;clear hg ho ha s5 HTD hW6 hml;go_wp2;go_ret;rw [←HML.out];have hee:p4.es=(p4.xs.map Prod.fst,p.es.2):=by
   unfold PV.es;rw [HD4.out.2.2]
  have h6:=HS6.out;rw [hee] at h6;rcases bfs_end (f:=f) (q:=p.es) HHH.out HN1.out HNR.out HS4.out h6 with ⟨rfl,hr⟩|⟨a,rfl,hr⟩
  ·exact DsPost.ok hr rfl HS5.out (HD6.out.1.trans HD4.out.1) (HD6.out.2.trans HD4.out.2.1) HMT.out
  ·exact DsPost.bad hr HS5.out (HD6.out.1.trans HD4.out.1) (HD6.out.2.trans HD4.out.2.1) (by have:=HMT.out;simp [PV.many] at this ⊢;omega)
end Go.Proofs.YtfljimpgnlfipaaGreatDoor
