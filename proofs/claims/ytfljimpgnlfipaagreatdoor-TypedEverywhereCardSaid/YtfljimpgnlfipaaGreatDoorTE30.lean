/-
  Part 30 of the proof: TlD.
-/
import Derived.Test.YtfljimpgnlfipaaGreatDoorTE29
namespace Go.Proofs.YtfljimpgnlfipaaGreatDoor
open Go.RowKit Go.Deep Go.MapKept
theorem c8 {w:World} {base b:Nat} {k:Ctn} {a1 a2 a3:Option Addr} {c1 c2 c3:Nat} (h:Own w base (cBx b k a1 c1 a2 c2 a3 c3)):w.cell? ⟨b,0,none⟩=some (.string k.name)∧w.cell? ⟨b,1,none⟩=some (.int .u8 (k.op:Int))∧w.cell? ⟨b,2,none⟩=some (.bool k.inn)∧w.cell? ⟨b,3,none⟩=some (.int .i64 k.e)∧w.cell? ⟨b,4,none⟩=some (.int .i64 k.cond)∧w.cell? ⟨b,5,none⟩=some (.slice a1 k.acts.length c1)∧w.cell? ⟨b,6,none⟩=some (.slice a2 k.thn.length c2)∧w.cell? ⟨b,7,none⟩=some (.slice a3 k.els.length c3):=
 ⟨zaA h rfl,zaA h rfl,zaA h rfl,zaA h rfl,zaA h rfl,zaA h rfl,zaA h rfl,zaA h rfl⟩
def AtC (t:Tx) (F:Nat) (r:TM) (f0:Nat) (i:Int):Prop:=
 ∀ (K:List (Nat × ByteArray × Nat)) (σ1:TS) (Y:List Rw) (w1:World),TlS (t.withK K) σ1 Y w1→f0≤σ1.f→Calls Tryz.prog F #[.pointer (some ⟨t.B,0,none⟩),.int .i64 i] w1 (TPost (t.withK K) Y (r σ1))
theorem opWd_eq (o:Nat) (h:o≤19):opWd o=opW o∧SmlN (opWd o):=by
 have hm:o=0∨o=1∨o=2∨o=3∨o=4∨o=5∨o=6∨o=7∨o=8∨o=9∨o=10∨o=11∨o=12∨o=13∨o=14∨o=15∨o=16∨o=17∨o=18∨o=19:=by omega
 rcases hm with rfl|rfl|rfl|rfl|rfl|rfl|rfl|rfl|rfl|rfl|rfl|rfl|rfl|rfl|rfl|rfl|rfl|rfl|rfl|rfl<;>exact ⟨rfl,by unfold SmlN;decide +kernel⟩
theorem way_f {t:Tx} {F:Nat} (hk:t.Ok F) {σ:TS} {X:List Rw} {w:World} (h:TlS t σ X w):Calls Tryz.prog 211 #[.pointer (some ⟨t.B,0,none⟩),.bool false] w (TPost t X (tWord (wayW false) σ)):=by
 have C:=hidI (zeC hk (s:=⟨#[111,117,116]⟩) h (by unfold SmlN;decide));have HM:Hid (tWord (wayW false) σ=tWord ⟨#[111,117,116]⟩ σ):=hidI rfl;rw [HM.out];clear h HM;cases hr:tWord ⟨#[111,117,116]⟩ σ with
 | none=>
  rw [hr] at C;clear hr;go_enter Tryz.func211,Tryz.ntmps211
  go_wp2_with (go_at_call 191;refine Calls.mono (C.out) ?_;intro e w1 h1;obtain ⟨rfl,hb1⟩:=h1;clear C)
  exact ⟨rfl,rfl,hb1⟩
 | some σ1=>
  rw [hr] at C;clear hr;go_enter Tryz.func211,Tryz.ntmps211
  go_wp2_with (go_at_call 191;refine Calls.mono (C.out) ?_;intro e w1 h1;obtain ⟨rfl,hb1⟩:=h1;clear C)
  go_end0;exact ⟨rfl,hb1⟩
theorem way_t {t:Tx} {F:Nat} (hk:t.Ok F) {σ:TS} {X:List Rw} {w:World} (h:TlS t σ X w):Calls Tryz.prog 211 #[.pointer (some ⟨t.B,0,none⟩),.bool true] w (TPost t X (tWord (wayW true) σ)):=by
 have C:=hidI (zeC hk (s:=⟨#[105,110]⟩) h (by unfold SmlN;decide));have HM:Hid (tWord (wayW true) σ=tWord ⟨#[105,110]⟩ σ):=hidI rfl;rw [HM.out];clear h HM;cases hr:tWord ⟨#[105,110]⟩ σ with
 | none=>
  rw [hr] at C;clear hr;go_enter Tryz.func211,Tryz.ntmps211
  go_wp2_with (go_at_call 191;refine Calls.mono (C.out) ?_;intro e w1 h1;obtain ⟨rfl,hb1⟩:=h1;clear C)
  exact ⟨rfl,rfl,hb1⟩
 | some σ1=>
  rw [hr] at C;clear hr;go_enter Tryz.func211,Tryz.ntmps211
  go_wp2_with (go_at_call 191;refine Calls.mono (C.out) ?_;intro e w1 h1;obtain ⟨rfl,hb1⟩:=h1;clear C)
  go_end0;exact ⟨rfl,hb1⟩
theorem way_any {t:Tx} {F:Nat} (hk:t.Ok F) {σ:TS} {X:List Rw} {w:World} (b:Bool) (h:TlS t σ X w):Calls Tryz.prog 211 #[.pointer (some ⟨t.B,0,none⟩),.bool b] w (TPost t X (tWord (wayW b) σ)):=by
 cases b
 ·exact way_f hk h
 ·exact way_t hk h
set_option maxRecDepth 100000 in
set_option maxHeartbeats 2000000 in
theorem part_n {t:Tx} {F:Nat} (hk:t.Ok F) {ex:Int→TM} {ac:Actn→TM} {st:Int→TM} {k:Ctn} {a1:Option Addr} {c1:Nat} {a2:Option Addr} {c2:Nat} {a3:Option Addr} {c3:Nat} {f0:Nat} (hn:SmlN k.name):PartC t k a1 c1 a2 c2 a3 c3 (tPart ex ac st k) 110 f0:=by
 intro K σ X w h hf;have hk:=hk.withK K;have HA:Hid (TlS (t.withK K) σ (cBx (w.heap.size+1) k a1 c1 a2 c2 a3 c3::tBx w.heap.size t.B::X) ((w.alloc (.cells #[.pointer (some ⟨t.B,0,none⟩)] 234)).alloc (.cells #[.string k.name,.int .u8 (k.op:Int),.bool k.inn,.int .i64 k.e,.int .i64 k.cond,.slice a1 k.acts.length c1,.slice a2 k.thn.length c2,.slice a3 k.els.length c3] 226))):=hidI (by
  have h0:=((h.newbox 234 1 #[.pointer (some ⟨t.B,0,none⟩)] rfl).newbox 226 8 #[.string k.name,.int .u8 (k.op:Int),.bool k.inn,.int .i64 k.e,.int .i64 k.cond,.slice a1 k.acts.length c1,.slice a2 k.thn.length c2,.slice a3 k.els.length c3] rfl);simp only [World.size_alloc] at h0;exact h0)
 have HM:Hid (tPart ex ac st k 110 σ=tName k.name σ):=hidI (by simp only [tPart];rfl);have q0:=zaA (HA.out.r.own (r:=tBx w.heap.size t.B) (by simp)) (j:=0) rfl;obtain ⟨q10,q11,q12,q13,q14,q15,q16,q17⟩:=c8 (HA.out.r.own (r:=cBx (w.heap.size+1) k a1 c1 a2 c2 a3 c3) (by simp));have CX:=hidI (tname_any hk HA.out hn);clear hn;rw [HM.out];clear h HM;cases hr:tName k.name σ with
 | none=>
  rw [hr] at CX;clear hr;go_enter Tryz.func192,Tryz.ntmps192
  go_wp2_with (go_at_call 210;refine Calls.mono (CX.out) ?_;intro e w1 h1;obtain ⟨rfl,hb1⟩:=h1;clear CX)
  exact ⟨rfl,rfl,hb1.sub (.cons _ (.cons _ (.refl _)))⟩
 | some σ1=>
  rw [hr] at CX;clear hr;go_enter Tryz.func192,Tryz.ntmps192
  go_wp2_with (go_at_call 210;refine Calls.mono (CX.out) ?_;intro e w1 h1;obtain ⟨rfl,hb1⟩:=h1;clear CX)
  go_end0;exact ⟨rfl,hb1.sub (.cons _ (.cons _ (.refl _)))⟩
set_option maxRecDepth 100000 in
set_option maxHeartbeats 2000000 in
theorem part_w {t:Tx} {F:Nat} (hk:t.Ok F) {ex:Int→TM} {ac:Actn→TM} {st:Int→TM} {k:Ctn} {a1:Option Addr} {c1:Nat} {a2:Option Addr} {c2:Nat} {a3:Option Addr} {c3:Nat} {f0:Nat} :PartC t k a1 c1 a2 c2 a3 c3 (tPart ex ac st k) 119 f0:=by
 intro K σ X w h hf;have hk:=hk.withK K;have HA:Hid (TlS (t.withK K) σ (cBx (w.heap.size+1) k a1 c1 a2 c2 a3 c3::tBx w.heap.size t.B::X) ((w.alloc (.cells #[.pointer (some ⟨t.B,0,none⟩)] 234)).alloc (.cells #[.string k.name,.int .u8 (k.op:Int),.bool k.inn,.int .i64 k.e,.int .i64 k.cond,.slice a1 k.acts.length c1,.slice a2 k.thn.length c2,.slice a3 k.els.length c3] 226))):=hidI (by
  have h0:=((h.newbox 234 1 #[.pointer (some ⟨t.B,0,none⟩)] rfl).newbox 226 8 #[.string k.name,.int .u8 (k.op:Int),.bool k.inn,.int .i64 k.e,.int .i64 k.cond,.slice a1 k.acts.length c1,.slice a2 k.thn.length c2,.slice a3 k.els.length c3] rfl);simp only [World.size_alloc] at h0;exact h0)
 have HM:Hid (tPart ex ac st k 119 σ=tWord (wayW k.inn) σ):=hidI (by simp only [tPart];rfl);have q0:=zaA (HA.out.r.own (r:=tBx w.heap.size t.B) (by simp)) (j:=0) rfl;obtain ⟨q10,q11,q12,q13,q14,q15,q16,q17⟩:=c8 (HA.out.r.own (r:=cBx (w.heap.size+1) k a1 c1 a2 c2 a3 c3) (by simp));have CX:=hidI (way_any hk k.inn HA.out);rw [HM.out];clear h HM;cases hr:tWord (wayW k.inn) σ with
 | none=>
  rw [hr] at CX;clear hr;go_enter Tryz.func192,Tryz.ntmps192
  go_wp2_with (go_at_call 211;refine Calls.mono (CX.out) ?_;intro e w1 h1;obtain ⟨rfl,hb1⟩:=h1;clear CX)
  exact ⟨rfl,rfl,hb1.sub (.cons _ (.cons _ (.refl _)))⟩
 | some σ1=>
  rw [hr] at CX;clear hr;go_enter Tryz.func192,Tryz.ntmps192
  go_wp2_with (go_at_call 211;refine Calls.mono (CX.out) ?_;intro e w1 h1;obtain ⟨rfl,hb1⟩:=h1;clear CX)
  go_end0;exact ⟨rfl,hb1.sub (.cons _ (.cons _ (.refl _)))⟩
set_option maxRecDepth 100000 in
set_option maxHeartbeats 2000000 in
theorem part_e {t:Tx} {F:Nat} (hk:t.Ok F) {ex:Int→TM} {ac:Actn→TM} {st:Int→TM} {k:Ctn} {a1:Option Addr} {c1:Nat} {a2:Option Addr} {c2:Nat} {a3:Option Addr} {c3:Nat} {f0:Nat} (HE:AtC t 212 (ex k.e) f0 k.e):PartC t k a1 c1 a2 c2 a3 c3 (tPart ex ac st k) 101 f0:=by
 intro K σ X w h hf;have hk:=hk.withK K;have HA:Hid (TlS (t.withK K) σ (cBx (w.heap.size+1) k a1 c1 a2 c2 a3 c3::tBx w.heap.size t.B::X) ((w.alloc (.cells #[.pointer (some ⟨t.B,0,none⟩)] 234)).alloc (.cells #[.string k.name,.int .u8 (k.op:Int),.bool k.inn,.int .i64 k.e,.int .i64 k.cond,.slice a1 k.acts.length c1,.slice a2 k.thn.length c2,.slice a3 k.els.length c3] 226))):=hidI (by
  have h0:=((h.newbox 234 1 #[.pointer (some ⟨t.B,0,none⟩)] rfl).newbox 226 8 #[.string k.name,.int .u8 (k.op:Int),.bool k.inn,.int .i64 k.e,.int .i64 k.cond,.slice a1 k.acts.length c1,.slice a2 k.thn.length c2,.slice a3 k.els.length c3] rfl);simp only [World.size_alloc] at h0;exact h0)
 have HM:Hid (tPart ex ac st k 101 σ=ex k.e σ):=hidI (by simp only [tPart];rfl);have q0:=zaA (HA.out.r.own (r:=tBx w.heap.size t.B) (by simp)) (j:=0) rfl;obtain ⟨q10,q11,q12,q13,q14,q15,q16,q17⟩:=c8 (HA.out.r.own (r:=cBx (w.heap.size+1) k a1 c1 a2 c2 a3 c3) (by simp));have CX:=hidI (HE K σ _ _ HA.out hf);clear HE;rw [HM.out];clear h HM;cases hr:ex k.e σ with
 | none=>
  rw [hr] at CX;clear hr;go_enter Tryz.func192,Tryz.ntmps192
  go_wp2_with (go_at_call 212;refine Calls.mono (CX.out) ?_;intro e w1 h1;obtain ⟨rfl,hb1⟩:=h1;clear CX)
  exact ⟨rfl,rfl,hb1.sub (.cons _ (.cons _ (.refl _)))⟩
 | some σ1=>
  rw [hr] at CX;clear hr;go_enter Tryz.func192,Tryz.ntmps192
  go_wp2_with (go_at_call 212;refine Calls.mono (CX.out) ?_;intro e w1 h1;obtain ⟨rfl,hb1⟩:=h1;clear CX)
  go_end0;exact ⟨rfl,hb1.sub (.cons _ (.cons _ (.refl _)))⟩
set_option maxRecDepth 100000 in
set_option maxHeartbeats 2000000 in
theorem part_c {t:Tx} {F:Nat} (hk:t.Ok F) {ex:Int→TM} {ac:Actn→TM} {st:Int→TM} {k:Ctn} {a1:Option Addr} {c1:Nat} {a2:Option Addr} {c2:Nat} {a3:Option Addr} {c3:Nat} {f0:Nat} (HE:k.cond ≠ -1→AtC t 212 (ex k.cond) f0 k.cond):PartC t k a1 c1 a2 c2 a3 c3 (tPart ex ac st k) 99 f0:=by
 intro K σ X w h hf;have hk:=hk.withK K;have HA:Hid (TlS (t.withK K) σ (cBx (w.heap.size+1) k a1 c1 a2 c2 a3 c3::tBx w.heap.size t.B::X) ((w.alloc (.cells #[.pointer (some ⟨t.B,0,none⟩)] 234)).alloc (.cells #[.string k.name,.int .u8 (k.op:Int),.bool k.inn,.int .i64 k.e,.int .i64 k.cond,.slice a1 k.acts.length c1,.slice a2 k.thn.length c2,.slice a3 k.els.length c3] 226))):=hidI (by
  have h0:=((h.newbox 234 1 #[.pointer (some ⟨t.B,0,none⟩)] rfl).newbox 226 8 #[.string k.name,.int .u8 (k.op:Int),.bool k.inn,.int .i64 k.e,.int .i64 k.cond,.slice a1 k.acts.length c1,.slice a2 k.thn.length c2,.slice a3 k.els.length c3] rfl);simp only [World.size_alloc] at h0;exact h0)
 have HM:Hid (tPart ex ac st k 99 σ=(if k.cond = -1 then some σ else ex k.cond σ)):=hidI (by simp only [tPart];rfl);have q0:=zaA (HA.out.r.own (r:=tBx w.heap.size t.B) (by simp)) (j:=0) rfl;obtain ⟨q10,q11,q12,q13,q14,q15,q16,q17⟩:=c8 (HA.out.r.own (r:=cBx (w.heap.size+1) k a1 c1 a2 c2 a3 c3) (by simp));by_cases hc:k.cond = -1
 ·have HM2:Hid (tPart ex ac st k 99 σ=some σ):=hidI (by rw [HM.out,if_pos hc]);have d1:(k.cond == -1)=true:=by rw [hc];rfl
  clear HM HE hc h;go_enter Tryz.func192,Tryz.ntmps192;go_wp2;go_end0;rw [HM2.out];exact ⟨rfl,HA.out.sub (.cons _ (.cons _ (.refl _)))⟩
 ·have CX:=hidI (HE hc K σ _ _ HA.out hf);have d1:(k.cond == -1)=false:=by rw [beq_eq_false_iff_ne];exact hc
  have HM:Hid (tPart ex ac st k 99 σ=ex k.cond σ):=hidI (by rw [HM.out,if_neg hc]);clear HE hc;rw [HM.out];clear h HM;cases hr:ex k.cond σ with
  | none=>
   rw [hr] at CX;clear hr;go_enter Tryz.func192,Tryz.ntmps192
   go_wp2_with (go_at_call 212;refine Calls.mono (CX.out) ?_;intro e w1 h1;obtain ⟨rfl,hb1⟩:=h1;clear CX)
   exact ⟨rfl,rfl,hb1.sub (.cons _ (.cons _ (.refl _)))⟩
  | some σ1=>
   rw [hr] at CX;clear hr;go_enter Tryz.func192,Tryz.ntmps192
   go_wp2_with (go_at_call 212;refine Calls.mono (CX.out) ?_;intro e w1 h1;obtain ⟨rfl,hb1⟩:=h1;clear CX)
   go_end0;exact ⟨rfl,hb1.sub (.cons _ (.cons _ (.refl _)))⟩
set_option maxRecDepth 100000 in
set_option maxHeartbeats 2000000 in
theorem part_s {t:Tx} {F:Nat} (hk:t.Ok F) {ex:Int→TM} {ac:Actn→TM} {st:Int→TM} {k:Ctn} {a1:Option Addr} {c1:Nat} {a2:Option Addr} {c2:Nat} {a3:Option Addr} {c3:Nat} {f0:Nat} (HR:∀ (K:List (Nat × ByteArray × Nat)) (σ1:TS) (Y:List Rw) (w1:World),TlS (t.withK K) σ1 Y w1→f0≤σ1.f→Calls Tryz.prog 160 #[.pointer (some ⟨t.B,0,none⟩),.slice a2 k.thn.length c2] w1 (TPost (t.withK K) Y (tAll st k.thn σ1))):PartC t k a1 c1 a2 c2 a3 c3 (tPart ex ac st k) 115 f0:=by
 intro K σ X w h hf;have hk:=hk.withK K;have HA:Hid (TlS (t.withK K) σ (cBx (w.heap.size+1) k a1 c1 a2 c2 a3 c3::tBx w.heap.size t.B::X) ((w.alloc (.cells #[.pointer (some ⟨t.B,0,none⟩)] 234)).alloc (.cells #[.string k.name,.int .u8 (k.op:Int),.bool k.inn,.int .i64 k.e,.int .i64 k.cond,.slice a1 k.acts.length c1,.slice a2 k.thn.length c2,.slice a3 k.els.length c3] 226))):=hidI (by
  have h0:=((h.newbox 234 1 #[.pointer (some ⟨t.B,0,none⟩)] rfl).newbox 226 8 #[.string k.name,.int .u8 (k.op:Int),.bool k.inn,.int .i64 k.e,.int .i64 k.cond,.slice a1 k.acts.length c1,.slice a2 k.thn.length c2,.slice a3 k.els.length c3] rfl);simp only [World.size_alloc] at h0;exact h0)
 have HM:Hid (tPart ex ac st k 115 σ=tAll st k.thn σ):=hidI (by simp only [tPart];rfl);have q0:=zaA (HA.out.r.own (r:=tBx w.heap.size t.B) (by simp)) (j:=0) rfl;obtain ⟨q10,q11,q12,q13,q14,q15,q16,q17⟩:=c8 (HA.out.r.own (r:=cBx (w.heap.size+1) k a1 c1 a2 c2 a3 c3) (by simp));have CX:=hidI (HR K σ _ _ HA.out hf);clear HR;rw [HM.out];clear h HM;cases hr:tAll st k.thn σ with
 | none=>
  rw [hr] at CX;clear hr;go_enter Tryz.func192,Tryz.ntmps192
  go_wp2_with (go_at_call 160;refine Calls.mono (CX.out) ?_;intro e w1 h1;obtain ⟨rfl,hb1⟩:=h1;clear CX)
  exact ⟨rfl,rfl,hb1.sub (.cons _ (.cons _ (.refl _)))⟩
 | some σ1=>
  rw [hr] at CX;clear hr;go_enter Tryz.func192,Tryz.ntmps192
  go_wp2_with (go_at_call 160;refine Calls.mono (CX.out) ?_;intro e w1 h1;obtain ⟨rfl,hb1⟩:=h1;clear CX)
  go_end0;exact ⟨rfl,hb1.sub (.cons _ (.cons _ (.refl _)))⟩
set_option maxRecDepth 100000 in
set_option maxHeartbeats 2000000 in
theorem part_a {t:Tx} {F:Nat} (hk:t.Ok F) {ex:Int→TM} {ac:Actn→TM} {st:Int→TM} {k:Ctn} {a1:Option Addr} {c1:Nat} {a2:Option Addr} {c2:Nat} {a3:Option Addr} {c3:Nat} {f0:Nat} (HR:1≤k.acts.length∧k.acts.length≤6→∀ (K:List (Nat × ByteArray × Nat)) (σ1:TS) (Y:List Rw) (w1:World),TlS (t.withK K) σ1 Y w1→f0≤σ1.f→Calls Tryz.prog 213 #[.pointer (some ⟨t.B,0,none⟩),.slice a1 k.acts.length c1] w1 (TPost (t.withK K) Y (tAll ac k.acts σ1)))
  (HN:¬ (1≤k.acts.length∧k.acts.length≤6)→∀ (K:List (Nat × ByteArray × Nat)) (σ1:TS) (Y:List Rw) (w1:World),TlS (t.withK K) σ1 Y w1→Calls Tryz.prog 213 #[.pointer (some ⟨t.B,0,none⟩),.slice a1 k.acts.length c1] w1 (TPost (t.withK K) Y none)):PartC t k a1 c1 a2 c2 a3 c3 (tPart ex ac st k) 97 f0:=by
 intro K σ X w h hf;have hk:=hk.withK K;have HA:Hid (TlS (t.withK K) σ (cBx (w.heap.size+1) k a1 c1 a2 c2 a3 c3::tBx w.heap.size t.B::X) ((w.alloc (.cells #[.pointer (some ⟨t.B,0,none⟩)] 234)).alloc (.cells #[.string k.name,.int .u8 (k.op:Int),.bool k.inn,.int .i64 k.e,.int .i64 k.cond,.slice a1 k.acts.length c1,.slice a2 k.thn.length c2,.slice a3 k.els.length c3] 226))):=hidI (by
  have h0:=((h.newbox 234 1 #[.pointer (some ⟨t.B,0,none⟩)] rfl).newbox 226 8 #[.string k.name,.int .u8 (k.op:Int),.bool k.inn,.int .i64 k.e,.int .i64 k.cond,.slice a1 k.acts.length c1,.slice a2 k.thn.length c2,.slice a3 k.els.length c3] rfl);simp only [World.size_alloc] at h0;exact h0)
 have HM:Hid (tPart ex ac st k 97 σ=(if 1≤k.acts.length∧k.acts.length≤6 then tAll ac k.acts σ else none)):=hidI (by simp only [tPart];rfl);have q0:=zaA (HA.out.r.own (r:=tBx w.heap.size t.B) (by simp)) (j:=0) rfl;obtain ⟨q10,q11,q12,q13,q14,q15,q16,q17⟩:=c8 (HA.out.r.own (r:=cBx (w.heap.size+1) k a1 c1 a2 c2 a3 c3) (by simp));have CX:Hid (Calls Tryz.prog 213 #[.pointer (some ⟨t.B,0,none⟩),.slice a1 k.acts.length c1] ((w.alloc (.cells #[.pointer (some ⟨t.B,0,none⟩)] 234)).alloc (.cells #[.string k.name,.int .u8 (k.op:Int),.bool k.inn,.int .i64 k.e,.int .i64 k.cond,.slice a1 k.acts.length c1,.slice a2 k.thn.length c2,.slice a3 k.els.length c3] 226)) (TPost (t.withK K) (cBx (w.heap.size+1) k a1 c1 a2 c2 a3 c3::tBx w.heap.size t.B::X) (if 1≤k.acts.length∧k.acts.length≤6 then tAll ac k.acts σ else none))):=hidI (by
  by_cases hc:1≤k.acts.length∧k.acts.length≤6
  ·rw [if_pos hc];exact HR hc K σ _ _ HA.out hf
  ·rw [if_neg hc];exact HN hc K σ _ _ HA.out)
 clear HR HN;rw [HM.out];clear h HM;cases hr:(if 1≤k.acts.length∧k.acts.length≤6 then tAll ac k.acts σ else none) with
 | none=>
  rw [hr] at CX;clear hr;go_enter Tryz.func192,Tryz.ntmps192
  go_wp2_with (go_at_call 213;refine Calls.mono (CX.out) ?_;intro e w1 h1;obtain ⟨rfl,hb1⟩:=h1;clear CX)
  exact ⟨rfl,rfl,hb1.sub (.cons _ (.cons _ (.refl _)))⟩
 | some σ1=>
  rw [hr] at CX;clear hr;go_enter Tryz.func192,Tryz.ntmps192
  go_wp2_with (go_at_call 213;refine Calls.mono (CX.out) ?_;intro e w1 h1;obtain ⟨rfl,hb1⟩:=h1;clear CX)
  go_end0;exact ⟨rfl,hb1.sub (.cons _ (.cons _ (.refl _)))⟩
theorem part_tc {t:Tx} {st:Int→TM} {k:Ctn} {a1:Option Addr} {c1:Nat} {a2:Option Addr} {c2:Nat} {a3:Option Addr} {c3:Nat} {σ:TS} {X:List Rw} {w:World} {tb cb:Nat} (h:TlS t σ (cBx cb k a1 c1 a2 c2 a3 c3::tBx tb t.B::X) w)
  (HR:∀ (Y:List Rw) (w1:World),TlS t σ Y w1→Calls Tryz.prog 160 #[.pointer (some ⟨t.B,0,none⟩),.slice a2 k.thn.length c2] w1 (TPost t Y (tAll st k.thn σ))) :
  Calls Tryz.prog 214 #[.pointer (some ⟨tb,0,none⟩),.pointer (some ⟨cb,0,none⟩)] w (TPost t (cBx cb k a1 c1 a2 c2 a3 c3::tBx tb t.B::X) (tAll st k.thn σ)):=by
 have q0:=zaA (h.r.own (r:=tBx tb t.B) (by simp)) (j:=0) rfl;have q1:=zaA (h.r.own (r:=cBx cb k a1 c1 a2 c2 a3 c3) (by simp)) (j:=6) rfl;have CX:=hidI (HR _ _ h);clear h HR;cases hr:tAll st k.thn σ with
 | none=>
  rw [hr] at CX;clear hr;go_enter Tryz.func214,Tryz.ntmps214
  go_wp2_with (go_at_call 160;refine Calls.mono (CX.out) ?_;intro e w1 h1;obtain ⟨rfl,hb1⟩:=h1;clear CX)
  exact ⟨rfl,rfl,hb1⟩
 | some σ1=>
  rw [hr] at CX;clear hr;go_enter Tryz.func214,Tryz.ntmps214
  go_wp2_with (go_at_call 160;refine Calls.mono (CX.out) ?_;intro e w1 h1;obtain ⟨rfl,hb1⟩:=h1;clear CX)
  go_end0;exact ⟨rfl,hb1⟩
set_option maxRecDepth 100000 in
set_option maxHeartbeats 2000000 in
theorem part_t {t:Tx} {F:Nat} (hk:t.Ok F) {ex:Int→TM} {ac:Actn→TM} {st:Int→TM} {k:Ctn} {a1:Option Addr} {c1:Nat} {a2:Option Addr} {c2:Nat} {a3:Option Addr} {c3:Nat} {f0:Nat} (hst:∀ a,Kp (st a)) (HR:∀ (K:List (Nat × ByteArray × Nat)) (σ1:TS) (Y:List Rw) (w1:World),TlS (t.withK K) σ1 Y w1→f0+1≤σ1.f→Calls Tryz.prog 160 #[.pointer (some ⟨t.B,0,none⟩),.slice a2 k.thn.length c2] w1 (TPost (t.withK K) Y (tAll st k.thn σ1))):PartC t k a1 c1 a2 c2 a3 c3 (tPart ex ac st k) 116 f0:=by
 intro K σ X w h hf;have hk:=hk.withK K;have HA:Hid (TlS (t.withK K) σ (cBx (w.heap.size+1) k a1 c1 a2 c2 a3 c3::tBx w.heap.size t.B::X) ((w.alloc (.cells #[.pointer (some ⟨t.B,0,none⟩)] 234)).alloc (.cells #[.string k.name,.int .u8 (k.op:Int),.bool k.inn,.int .i64 k.e,.int .i64 k.cond,.slice a1 k.acts.length c1,.slice a2 k.thn.length c2,.slice a3 k.els.length c3] 226))):=hidI (by
  have h0:=((h.newbox 234 1 #[.pointer (some ⟨t.B,0,none⟩)] rfl).newbox 226 8 #[.string k.name,.int .u8 (k.op:Int),.bool k.inn,.int .i64 k.e,.int .i64 k.cond,.slice a1 k.acts.length c1,.slice a2 k.thn.length c2,.slice a3 k.els.length c3] rfl);simp only [World.size_alloc] at h0;exact h0)
 have HM:Hid (tPart ex ac st k 116 σ=tBrk (tAll st k.thn) σ):=hidI (by simp only [tPart];rfl);have q0:=zaA (HA.out.r.own (r:=tBx w.heap.size t.B) (by simp)) (j:=0) rfl;obtain ⟨q10,q11,q12,q13,q14,q15,q16,q17⟩:=c8 (HA.out.r.own (r:=cBx (w.heap.size+1) k a1 c1 a2 c2 a3 c3) (by simp));have hmf:∀ (fn:Go.Fn) (first cap:Array Value) (w:World),(Instr.makeFunc fn first cap).run Tryz.prog w=.ok (.func fn first cap) w:=fun _ _ _ _=>rfl
 have CX:=hidI (brk2_any hk HA.out (G:=214) (caps:=#[.pointer (some ⟨w.heap.size,0,none⟩),.pointer (some ⟨w.heap.size+1,0,none⟩)]) (.inr (.inr (.inl ⟨rfl,_,_,rfl⟩))) (kp_all hst k.thn) (fun σ1 w1 h1 hf1=>part_tc h1 (fun Y w2 h2=>HR K σ1 Y w2 h2 (by omega))));clear HR hst;rw [HM.out];clear h HM;cases hr:tBrk (tAll st k.thn) σ with
 | none=>
  rw [hr] at CX;clear hr;go_enter Tryz.func192,Tryz.ntmps192
  go_wp2_with (go_at_call 189;refine Calls.mono (CX.out) ?_;intro e w1 h1;obtain ⟨rfl,hb1⟩:=h1;clear CX)
  exact ⟨rfl,rfl,hb1.sub (.cons _ (.cons _ (.refl _)))⟩
 | some σ1=>
  rw [hr] at CX;clear hr;go_enter Tryz.func192,Tryz.ntmps192
  go_wp2_with (go_at_call 189;refine Calls.mono (CX.out) ?_;intro e w1 h1;obtain ⟨rfl,hb1⟩:=h1;clear CX)
  go_end0;exact ⟨rfl,hb1.sub (.cons _ (.cons _ (.refl _)))⟩
theorem part_fc {t:Tx} {st:Int→TM} {k:Ctn} {a1:Option Addr} {c1:Nat} {a2:Option Addr} {c2:Nat} {a3:Option Addr} {c3:Nat} {σ:TS} {X:List Rw} {w:World} {tb cb:Nat} (h:TlS t σ (cBx cb k a1 c1 a2 c2 a3 c3::tBx tb t.B::X) w)
  (HR:∀ (Y:List Rw) (w1:World),TlS t σ Y w1→Calls Tryz.prog 160 #[.pointer (some ⟨t.B,0,none⟩),.slice a3 k.els.length c3] w1 (TPost t Y (tAll st k.els σ))) :
  Calls Tryz.prog 215 #[.pointer (some ⟨tb,0,none⟩),.pointer (some ⟨cb,0,none⟩)] w (TPost t (cBx cb k a1 c1 a2 c2 a3 c3::tBx tb t.B::X) (tAll st k.els σ)):=by
 have q0:=zaA (h.r.own (r:=tBx tb t.B) (by simp)) (j:=0) rfl;have q1:=zaA (h.r.own (r:=cBx cb k a1 c1 a2 c2 a3 c3) (by simp)) (j:=7) rfl;have CX:=hidI (HR _ _ h);clear h HR;cases hr:tAll st k.els σ with
 | none=>
  rw [hr] at CX;clear hr;go_enter Tryz.func215,Tryz.ntmps215
  go_wp2_with (go_at_call 160;refine Calls.mono (CX.out) ?_;intro e w1 h1;obtain ⟨rfl,hb1⟩:=h1;clear CX)
  exact ⟨rfl,rfl,hb1⟩
 | some σ1=>
  rw [hr] at CX;clear hr;go_enter Tryz.func215,Tryz.ntmps215
  go_wp2_with (go_at_call 160;refine Calls.mono (CX.out) ?_;intro e w1 h1;obtain ⟨rfl,hb1⟩:=h1;clear CX)
  go_end0;exact ⟨rfl,hb1⟩
set_option maxRecDepth 100000 in
set_option maxHeartbeats 2000000 in
theorem part_f {t:Tx} {F:Nat} (hk:t.Ok F) {ex:Int→TM} {ac:Actn→TM} {st:Int→TM} {k:Ctn} {a1:Option Addr} {c1:Nat} {a2:Option Addr} {c2:Nat} {a3:Option Addr} {c3:Nat} {f0:Nat} (hst:∀ a,Kp (st a)) (HR:∀ (K:List (Nat × ByteArray × Nat)) (σ1:TS) (Y:List Rw) (w1:World),TlS (t.withK K) σ1 Y w1→f0+1≤σ1.f→Calls Tryz.prog 160 #[.pointer (some ⟨t.B,0,none⟩),.slice a3 k.els.length c3] w1 (TPost (t.withK K) Y (tAll st k.els σ1))):PartC t k a1 c1 a2 c2 a3 c3 (tPart ex ac st k) 102 f0:=by
 intro K σ X w h hf;have hk:=hk.withK K;have HA:Hid (TlS (t.withK K) σ (cBx (w.heap.size+1) k a1 c1 a2 c2 a3 c3::tBx w.heap.size t.B::X) ((w.alloc (.cells #[.pointer (some ⟨t.B,0,none⟩)] 234)).alloc (.cells #[.string k.name,.int .u8 (k.op:Int),.bool k.inn,.int .i64 k.e,.int .i64 k.cond,.slice a1 k.acts.length c1,.slice a2 k.thn.length c2,.slice a3 k.els.length c3] 226))):=hidI (by
  have h0:=((h.newbox 234 1 #[.pointer (some ⟨t.B,0,none⟩)] rfl).newbox 226 8 #[.string k.name,.int .u8 (k.op:Int),.bool k.inn,.int .i64 k.e,.int .i64 k.cond,.slice a1 k.acts.length c1,.slice a2 k.thn.length c2,.slice a3 k.els.length c3] rfl);simp only [World.size_alloc] at h0;exact h0)
 have HM:Hid (tPart ex ac st k 102 σ=tBrk (tAll st k.els) σ):=hidI (by simp only [tPart];rfl);have q0:=zaA (HA.out.r.own (r:=tBx w.heap.size t.B) (by simp)) (j:=0) rfl;obtain ⟨q10,q11,q12,q13,q14,q15,q16,q17⟩:=c8 (HA.out.r.own (r:=cBx (w.heap.size+1) k a1 c1 a2 c2 a3 c3) (by simp));have hmf:∀ (fn:Go.Fn) (first cap:Array Value) (w:World),(Instr.makeFunc fn first cap).run Tryz.prog w=.ok (.func fn first cap) w:=fun _ _ _ _=>rfl
 have CX:=hidI (brk2_any hk HA.out (G:=215) (caps:=#[.pointer (some ⟨w.heap.size,0,none⟩),.pointer (some ⟨w.heap.size+1,0,none⟩)]) (.inr (.inr (.inr ⟨rfl,_,_,rfl⟩))) (kp_all hst k.els) (fun σ1 w1 h1 hf1=>part_fc h1 (fun Y w2 h2=>HR K σ1 Y w2 h2 (by omega))));clear HR hst;rw [HM.out];clear h HM;cases hr:tBrk (tAll st k.els) σ with
 | none=>
  rw [hr] at CX;clear hr;go_enter Tryz.func192,Tryz.ntmps192
  go_wp2_with (go_at_call 189;refine Calls.mono (CX.out) ?_;intro e w1 h1;obtain ⟨rfl,hb1⟩:=h1;clear CX)
  exact ⟨rfl,rfl,hb1.sub (.cons _ (.cons _ (.refl _)))⟩
 | some σ1=>
  rw [hr] at CX;clear hr;go_enter Tryz.func192,Tryz.ntmps192
  go_wp2_with (go_at_call 189;refine Calls.mono (CX.out) ?_;intro e w1 h1;obtain ⟨rfl,hb1⟩:=h1;clear CX)
  go_end0;exact ⟨rfl,hb1.sub (.cons _ (.cons _ (.refl _)))⟩
def po7N:Nat→Oper
 | 0=>⟨some 26,.load 234 (.tmp 3),234, "tell.go:144",#[],none⟩
 | 1=>⟨some 27,.fieldAddr 226 (.tmp 5) 1,0, "tell.go:144",#[],none⟩
 | 2=>⟨some 28,.load 47 (.tmp 27),47, "tell.go:144",#[⟨1,.data⟩],none⟩
 | 3=>⟨some 29,.call ⟨.value (.func 144),#[.tmp 28],#[47]⟩,9, "tell.go:144",#[⟨2,.data⟩],none⟩
 | _=>⟨some 30,.call ⟨.value (.func 191),#[.tmp 26,.tmp 29],#[234,9]⟩,0, "tell.go:144",#[⟨0,.data⟩,⟨3,.data⟩,⟨3,.chain⟩],none⟩
set_option maxRecDepth 100000 in
set_option maxHeartbeats 2000000 in
theorem part_o {t:Tx} {F:Nat} (hk:t.Ok F) {ex:Int→TM} {ac:Actn→TM} {st:Int→TM} {k:Ctn} {a1:Option Addr} {c1:Nat} {a2:Option Addr} {c2:Nat} {a3:Option Addr} {c3:Nat} {f0:Nat} :PartC t k a1 c1 a2 c2 a3 c3 (tPart ex ac st k) 111 f0:=by
 intro K σ X w h hf;have hk:=hk.withK K;have HA:Hid (TlS (t.withK K) σ (cBx (w.heap.size+1) k a1 c1 a2 c2 a3 c3::tBx w.heap.size t.B::X) ((w.alloc (.cells #[.pointer (some ⟨t.B,0,none⟩)] 234)).alloc (.cells #[.string k.name,.int .u8 (k.op:Int),.bool k.inn,.int .i64 k.e,.int .i64 k.cond,.slice a1 k.acts.length c1,.slice a2 k.thn.length c2,.slice a3 k.els.length c3] 226))):=hidI (by
  have h0:=((h.newbox 234 1 #[.pointer (some ⟨t.B,0,none⟩)] rfl).newbox 226 8 #[.string k.name,.int .u8 (k.op:Int),.bool k.inn,.int .i64 k.e,.int .i64 k.cond,.slice a1 k.acts.length c1,.slice a2 k.thn.length c2,.slice a3 k.els.length c3] rfl);simp only [World.size_alloc] at h0;exact h0)
 have HM:Hid (tPart ex ac st k 111 σ=(if redN k.op=true then tWord (opW k.op) σ else none)):=hidI (by simp only [tPart];rfl);have q0:=zaA (HA.out.r.own (r:=tBx w.heap.size t.B) (by simp)) (j:=0) rfl;obtain ⟨q10,q11,q12,q13,q14,q15,q16,q17⟩:=c8 (HA.out.r.own (r:=cBx (w.heap.size+1) k a1 c1 a2 c2 a3 c3) (by simp));have CR:=hidI (fun W=>redK k.op W);cases hr:redN k.op with
 | false=>
  have HM:Hid (tPart ex ac st k 111 σ=none):=hidI (by rw [HM.out,hr];rfl);have CM:=hidI (fun W=>zbF (.pointer (some ⟨t.B,0,none⟩)) W);rw [hr] at CR;clear hr h;go_enter Tryz.func192,Tryz.ntmps192
  go_wp2_with (first
   | (go_at_call 203;refine Calls.mono (CR.out _) ?_;intro e w1 h1;obtain ⟨⟨q9,rfl⟩,rfl⟩:=h1;clear CR)
   | (go_at_call 158;refine Calls.mono (CM.out _) ?_;intro e w2 h2;obtain ⟨rfl,rfl⟩:=h2;clear CM))
  refine ⟨rfl,?_⟩;rw [HM.out];exact ⟨rfl,HA.out.bad (.cons _ (.cons _ (.refl _)))⟩
 | true=>
  have HM:Hid (tPart ex ac st k 111 σ=tWord (opW k.op) σ):=hidI (by rw [HM.out,hr];rfl);have HO:Hid (k.op≤19):=hidI (by unfold redN at hr;have:=of_decide_eq_true hr;omega);have CM:=hidI (fun W=>zbP (.pointer (some ⟨t.B,0,none⟩)) W);rw [hr] at CR;clear hr h;go_enter Tryz.func192,Tryz.ntmps192
  go_wp2_with (first
   | (go_at_call 203;refine Calls.mono (CR.out _) ?_;intro e w1 h1;obtain ⟨⟨q9,rfl⟩,rfl⟩:=h1;clear CR)
   | (go_at_call 158;refine Calls.mono (CM.out _) ?_;intro e w2 h2;obtain ⟨rfl,rfl⟩:=h2;clear CM))
  refine zaQ po7N (fun i=>match i with|0=>.pointer (some ⟨t.B,0,none⟩)|1=>.pointer (some ⟨w.heap.size+1,1,none⟩)|2=>.int .u8 (k.op:Int)|3=>.string (opWd k.op)|_=>undef) (fun y=>TlS (t.withK K) σ (cBx (w.heap.size+1) k a1 c1 a2 c2 a3 c3::tBx w.heap.size t.B::X) y) 4 Tryz.mixed (by kernel_rfl) (by kernel_rfl) HA.out.drew ?_ ?_
  ·intro i9 hi9 a9 w9 hF9 hS9 K9 hK9;have hc9:i9=0∨i9=1∨i9=2∨i9=3:=by omega
   clear hi9;rcases hc9 with rfl|rfl|rfl|rfl
   ·have e3:=hF9.od 3 (v:=.pointer (some ⟨w.heap.size,0,none⟩)) rfl;have q0:=zaA (hS9.r.own (r:=tBx w.heap.size t.B) (by simp)) (j:=0) rfl;refine zaU rfl ?_ (hK9 _ hS9);clear hF9;simp only [po7N,execOp,e3];first|done|(go_simp<;>omega)
   ·have e5:=hF9.od 5 (v:=.pointer (some ⟨w.heap.size+1,0,none⟩)) rfl;refine zaU rfl ?_ (hK9 _ hS9);clear hF9;simp only [po7N,execOp,e5];first|done|(go_simp<;>omega)
   ·have e27:=hF9.ev 1 27;have q0:=zaA (hS9.r.own (r:=cBx (w.heap.size+1) k a1 c1 a2 c2 a3 c3) (by simp)) (j:=1) rfl;refine zaU rfl ?_ (hK9 _ hS9);clear hF9;simp only [po7N,execOp,e27];first|done|(go_simp<;>omega)
   ·rw [if_pos (zaG rfl)];unfold Oper.wp;have f28:=hF9.nw 2 28;have hr9:(execOp a9.eval (po7N 3)).run Tryz.prog w9=.ok (.enter 144 #[.int .u8 (k.op:Int)]) w9:=by
     simp only [po7N,execOp];go_simp
    rw [hr9,Oper.upon_enter];refine Calls.mono (opWord_any k.op HO.out w9) ?_;rintro e9 w8 ⟨rfl,hb⟩;exact hK9 _ (hS9.on hb)
  ·intro w9 hS9 K9 hK9;simp only [putA,po7N];rw [if_pos (zaG rfl)];unfold Oper.wp;go_simp;have CW:=hidI (zeC hk hS9 (opWd_eq k.op HO.out).2);rw [←(opWd_eq k.op HO.out).1] at HM;have HS9:=hidI hS9;clear hS9;cases hr:tWord (opWd k.op) σ with
   | none=>
    rw [hr] at CW HM;refine Calls.mono CW.out ?_;rintro e w2 ⟨rfl,hb2⟩;refine ⟨rfl,?_⟩;rw [HM.out];exact ⟨rfl,hb2.sub (.cons _ (.cons _ (.refl _)))⟩
   | some σ1=>
    rw [hr] at CW HM;refine Calls.mono CW.out ?_;rintro e w2 ⟨rfl,hb2⟩;refine hK9 _ _ ?_;clear hK9 K9 CW hr;go_wp2;go_end0;rw [HM.out];exact ⟨rfl,hb2.sub (.cons _ (.cons _ (.refl _)))⟩
end Go.Proofs.YtfljimpgnlfipaaGreatDoor
