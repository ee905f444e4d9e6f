/-
  Part 33 of the proof: TlI0, TyC, TyD.
-/
import Derived.Test.YtfljimpgnlfipaaGreatDoorTE32
import Derived.Test.YtfljimpgnlfipaaGreatDoorTE28
namespace Go.Proofs.YtfljimpgnlfipaaGreatDoor
open Go.RowKit Go.Deep Go.MapKept
def expr1 (ex:Int→TM) (xs:List Exp) (a:Int):TM:=fun σ=>
 if 0≤a∧a<xs.length then
  match tBody ex (xs.getD a.toNat exp0) σ with
  | none=>none
  | some σ1=>if sameX (xs.getD a.toNat exp0) (plainX (xs.getD a.toNat exp0))=true∧a=σ1.x then some { σ1 with x:=σ1.x+1 } else none
 else none
theorem tExpr_succ (xs:List Exp) (f:Nat) (a:Int):tExpr xs (f+1) a=expr1 (tExpr xs f) xs a:=rfl
def xBx (b k of op:Nat) (nm:ByteArray) (num:Int) (v:Value):Rw:=⟨bx b,82,6,1,[.int .u8 (k:Int),.int .u8 (of:Int),.int .u8 (op:Int),.string nm,.int .i64 num,v]⟩
theorem sees_nil (w:World):SeesC w (.slice none 0 0) ([]:List Int).length 1 (intsI []):=⟨rfl,none,0,rfl,.inl rfl⟩
theorem zbR (x:XV):(xcells x).length=6:=rfl
theorem exprPt_asc (k:Nat):(∀ (i:Nat) (h:i<(exprPt k).size),((exprPt k)[i]'h).toNat<128)∧ptL (exprPt k)=exprSh k∧(∀ x∈exprSh k,x=110∨x=119)∧SmlN (exprWd k)∧exprWd k=exprW k:=by
 by_cases h:k≤10
 ·have hm:k=0∨k=1∨k=2∨k=3∨k=4∨k=5∨k=6∨k=7∨k=8∨k=9∨k=10:=by omega
  rcases hm with rfl|rfl|rfl|rfl|rfl|rfl|rfl|rfl|rfl|rfl|rfl<;>exact ⟨by decide,by decide +kernel,by decide,by unfold SmlN;decide +kernel,rfl⟩
 ·have e1:exprPt k=⟨#[]⟩:=by unfold exprPt;split<;>first|rfl|omega
  have e2:exprSh k=[]:=by unfold exprSh;split<;>first|rfl|omega
  have e3:exprWd k=⟨#[]⟩:=by unfold exprWd;split<;>first|rfl|omega
  have e4:exprW k=⟨#[]⟩:=by unfold exprW;split<;>first|rfl|omega
  rw [e1,e2,e3,e4];exact ⟨by decide,by decide +kernel,by simp,by unfold SmlN;decide,rfl⟩
def xl7N:Nat→Oper
 | 0=>⟨some 54,.fieldAddr 82 (.tmp 4) 1,0, "tell.go:80",#[],none⟩
 | 1=>⟨some 55,.load 36 (.tmp 54),36, "tell.go:80",#[⟨0,.data⟩],none⟩
 | 2=>⟨some 56,.fieldAddr 82 (.tmp 4) 4,0, "tell.go:80",#[{ on:=5,ground:=Go.Ground.gcOnly Go.Departure.lateStores }],none⟩
 | 3=>⟨some 57,.load 80 (.tmp 56),80, "tell.go:80",#[⟨2,.data⟩,{ on:=5,ground:=Go.Ground.gcOnly Go.Departure.lateStores }],none⟩
 | 4=>⟨some 58,.fieldAddr 82 (.tmp 5) 1,0, "tell.go:80",#[⟨0,.phase⟩,⟨1,.phase⟩,{ on:=2,ground:=Go.Ground.textOnly Go.Departure.lateStores },{ on:=3,ground:=Go.Ground.textOnly Go.Departure.lateStores }],none⟩
 | 5=>⟨none,.store 36 (.tmp 58) (.tmp 55),0, "tell.go:80",#[⟨4,.data⟩,⟨1,.data⟩,⟨0,.phase⟩,⟨1,.phase⟩,{ on:=2,ground:=Go.Ground.textOnly Go.Departure.lateStores },{ on:=3,ground:=Go.Ground.textOnly Go.Departure.lateStores }],none⟩
 | 6=>⟨some 59,.fieldAddr 82 (.tmp 5) 4,0, "tell.go:80",#[⟨0,.phase⟩,⟨1,.phase⟩,⟨2,.phase⟩,⟨3,.phase⟩,⟨4,.phase⟩,⟨5,.phase⟩],none⟩
 | _=>⟨none,.store 80 (.tmp 59) (.tmp 57),0, "tell.go:80",#[⟨6,.data⟩,⟨3,.data⟩,⟨5,.chain⟩,⟨0,.phase⟩,⟨1,.phase⟩,⟨2,.phase⟩,⟨3,.phase⟩,⟨4,.phase⟩,⟨5,.phase⟩],none⟩
def xl14N:Nat→Oper
 | 0=>⟨some 87,.fieldAddr 82 (.tmp 4) 2,0, "tell.go:87",#[],none⟩
 | 1=>⟨some 88,.load 47 (.tmp 87),47, "tell.go:87",#[⟨0,.data⟩],none⟩
 | 2=>⟨some 89,.fieldAddr 82 (.tmp 4) 5,0, "tell.go:87",#[{ on:=5,ground:=Go.Ground.gcOnly Go.Departure.lateStores }],none⟩
 | 3=>⟨some 90,.load 25 (.tmp 89),25, "tell.go:87",#[⟨2,.data⟩,{ on:=5,ground:=Go.Ground.gcOnly Go.Departure.lateStores }],none⟩
 | 4=>⟨some 91,.fieldAddr 82 (.tmp 5) 2,0, "tell.go:87",#[⟨0,.phase⟩,⟨1,.phase⟩,{ on:=2,ground:=Go.Ground.textOnly Go.Departure.lateStores },{ on:=3,ground:=Go.Ground.textOnly Go.Departure.lateStores }],none⟩
 | 5=>⟨none,.store 47 (.tmp 91) (.tmp 88),0, "tell.go:87",#[⟨4,.data⟩,⟨1,.data⟩,⟨0,.phase⟩,⟨1,.phase⟩,{ on:=2,ground:=Go.Ground.textOnly Go.Departure.lateStores },{ on:=3,ground:=Go.Ground.textOnly Go.Departure.lateStores }],none⟩
 | 6=>⟨some 92,.fieldAddr 82 (.tmp 5) 5,0, "tell.go:87",#[⟨0,.phase⟩,⟨1,.phase⟩,⟨2,.phase⟩,⟨3,.phase⟩,⟨4,.phase⟩,⟨5,.phase⟩],none⟩
 | _=>⟨none,.store 25 (.tmp 92) (.tmp 90),0, "tell.go:87",#[⟨6,.data⟩,⟨3,.data⟩,⟨5,.chain⟩,⟨0,.phase⟩,⟨1,.phase⟩,⟨2,.phase⟩,⟨3,.phase⟩,⟨4,.phase⟩,⟨5,.phase⟩],none⟩
def xl4N:Nat→Oper
 | 0=>⟨some 33,.fieldAddr 82 (.tmp 4) 3,0, "tell.go:90",#[],none⟩
 | 1=>⟨some 34,.load 9 (.tmp 33),9, "tell.go:90",#[⟨0,.data⟩],none⟩
 | 2=>⟨some 35,.fieldAddr 82 (.tmp 4) 4,0, "tell.go:90",#[],none⟩
 | 3=>⟨some 36,.load 80 (.tmp 35),80, "tell.go:90",#[⟨2,.data⟩],none⟩
 | 4=>⟨some 37,.binOp .eql 80 (.tmp 36) (.const (.int .i64 1)) 80,4, "tell.go:90",#[⟨3,.data⟩],none⟩
 | 5=>⟨some 38,.call ⟨.value (.func 227),#[.tmp 37],#[4]⟩,80, "tell.go:90",#[⟨4,.data⟩],none⟩
 | 6=>⟨some 39,.fieldAddr 82 (.tmp 5) 3,0, "tell.go:90",#[⟨0,.phase⟩,⟨1,.phase⟩,{ on:=2,ground:=Go.Ground.textOnly Go.Departure.lateStores },{ on:=3,ground:=Go.Ground.textOnly Go.Departure.lateStores },{ on:=4,ground:=Go.Ground.textOnly Go.Departure.lateStores },{ on:=5,ground:=Go.Ground.textOnly Go.Departure.lateStoresUnsure }],none⟩
 | 7=>⟨none,.store 9 (.tmp 39) (.tmp 34),0, "tell.go:90",#[⟨6,.data⟩,⟨1,.data⟩,⟨5,.chain⟩,⟨0,.phase⟩,⟨1,.phase⟩,{ on:=2,ground:=Go.Ground.textOnly Go.Departure.lateStores },{ on:=3,ground:=Go.Ground.textOnly Go.Departure.lateStores },{ on:=4,ground:=Go.Ground.textOnly Go.Departure.lateStores },{ on:=5,ground:=Go.Ground.textOnly Go.Departure.lateStoresUnsure }],none⟩
 | 8=>⟨some 40,.fieldAddr 82 (.tmp 5) 4,0, "tell.go:90",#[⟨0,.phase⟩,⟨1,.phase⟩,⟨2,.phase⟩,⟨3,.phase⟩,⟨4,.phase⟩,⟨5,.phase⟩,⟨6,.phase⟩,⟨7,.phase⟩],none⟩
 | _=>⟨none,.store 80 (.tmp 40) (.tmp 38),0, "tell.go:90",#[⟨8,.data⟩,⟨5,.data⟩,⟨7,.chain⟩,⟨0,.phase⟩,⟨1,.phase⟩,⟨2,.phase⟩,⟨3,.phase⟩,⟨4,.phase⟩,⟨5,.phase⟩,⟨6,.phase⟩,⟨7,.phase⟩],none⟩
def xl5N:Nat→Oper
 | 0=>⟨some 41,.move (.tmp 0),234, "tell.go:91",#[],none⟩
 | 1=>⟨some 42,.fieldAddr 82 (.tmp 4) 0,0, "tell.go:91",#[],none⟩
 | 2=>⟨some 43,.load 79 (.tmp 42),79, "tell.go:91",#[⟨1,.data⟩],none⟩
 | 3=>⟨some 44,.call ⟨.value (.func 142),#[.tmp 43],#[79]⟩,210, "tell.go:91",#[⟨2,.data⟩],none⟩
 | 4=>⟨some 45,.fieldAddr 82 (.tmp 4) 3,0, "tell.go:91",#[],none⟩
 | 5=>⟨some 46,.load 9 (.tmp 45),9, "tell.go:91",#[⟨4,.data⟩],none⟩
 | 6=>⟨some 47,.fieldAddr 82 (.tmp 4) 4,0, "tell.go:91",#[],none⟩
 | 7=>⟨some 48,.load 80 (.tmp 47),80, "tell.go:91",#[⟨6,.data⟩],none⟩
 | 8=>⟨some 49,.binOp .eql 80 (.tmp 48) (.const (.int .i64 1)) 80,4, "tell.go:91",#[⟨7,.data⟩],none⟩
 | 9=>⟨some 50,.build 226 #[(0,.tmp 46),(2,.tmp 49),(3,.const (.int .i64 (-1))),(4,.const (.int .i64 (-1)))],226, "tell.go:91",#[⟨5,.data⟩,⟨8,.data⟩],none⟩
 | _=>⟨some 51,.call ⟨.value (.func 159),#[.tmp 41,.tmp 44,.tmp 50],#[234,210,226]⟩,0, "tell.go:91",#[⟨0,.data⟩,⟨3,.data⟩,⟨9,.data⟩,⟨3,.chain⟩],none⟩
set_option maxHeartbeats 2000000 in
theorem kind_1 {c:Nat} {i:Int} {p:PV} {w:World} {wh j:Nat} {G:Int→Option Nat} {R:Option Nat} {eof eop:Nat} {enm:ByteArray} {enum:Int} {ekids:List Int} {ka:Option Addr} {kc:Nat} (h:TyS c i p w) (hx:p.xs[j]?=some (⟨1,eof,eop,enm,enum,ekids⟩,.slice ka ekids.length kc))
  (hR:kindE p.ds G wh ⟨1,eof,eop,enm,enum,ekids⟩=R) :
  Calls Tryz.prog 34 #[.pointer (some ⟨c,0,none⟩),.int .i64 (j:Int),.int .u8 (wh:Int)] w fun e w'=>ROpt i R e∧Below w.heap.size w w':=by
 have hj:j<p.xs.length:=(List.getElem?_eq_some_iff.1 hx).1;obtain ⟨_,xa,xc,hxv,hxc⟩:=id h.s.x;obtain ⟨xb,xo,rfl,hcell⟩:∃ b off,xa=some ⟨b,off,none⟩∧∀ (q:Nat) (z:Value),(flatX p.xs)[q]?=some z→w.cell? ⟨b,off+q,none⟩=some z:=by
  rcases hxc with h|h
  ·omega
  ·exact h
 have h1:=h.c1;rw [hxv] at h1;have gx:∀ (q:Nat) (z:Value),q<6→(xcells (⟨1,eof,eop,enm,enum,ekids⟩,.slice ka ekids.length kc))[q]?=some z→w.cell? ⟨xb,xo+(j*6+q),none⟩=some z:=fun q z hq hz=>hcell _ _ (by unfold flatX;rw [zbE xcells 6 zbR p.xs j q _ hx hq];exact hz)
 have x0:=gx 0 _ (by omega) rfl;have x1:=gx 1 _ (by omega) rfl;have x2:=gx 2 _ (by omega) rfl;have x3:=gx 3 _ (by omega) rfl;have x4:=gx 4 _ (by omega) rfl;have x5:=gx 5 _ (by omega) rfl;simp only [←Nat.add_assoc,Nat.add_zero] at x0 x1 x2 x3 x4 x5;obtain ⟨n,hn⟩:∃ n,p.xs.length=n:=⟨_,rfl⟩;rw [hn] at h1 hj;have k1:(j:Int)<(n:Int):=by omega
 have HT:=hidI h;have HOk:=hidI (zcS (.pointer (some ⟨c,0,none⟩)));have HB1:Hid (Below w.heap.size w (w.alloc (.cells #[.int .u8 1,.int .u8 (eof:Int),.int .u8 (eop:Int),.string enm,.int .i64 enum,.slice ka ekids.length kc] 82))):=hidI ((Below.refl _ _).alloc (Nat.le_refl _) _);have HT1:=hidI (HT.out.on HB1.out);have HBad:=hidI (zbV HT1.out.c4);cases hm:mayS 1 wh with
 | false=>
  have HR:Hid (R=none):=hidI (by rw [←hR];unfold kindE;rw [if_pos hm]);have CMy:=hidI (zcJ 1 wh);rw [hm] at CMy;clear h hx hcell gx hR hm hxc hxv hn;go_enter Tryz.func34,Tryz.ntmps34
  go_wp2_with (first|(go_at_call 72;refine Calls.mono (CMy.out _) ?_;intro e w9 h9;obtain ⟨rfl,rfl⟩:=h9)|(go_at_call 71;refine Calls.mono (HBad.out) ?_;intro e w9 h9;obtain ⟨rfl,rfl⟩:=h9))
  exact ⟨rfl,by rw [HR.out];rfl,HB1.out⟩
 | true=>
  have CMy:=hidI (zcJ 1 wh);rw [hm] at CMy;have HR:Hid (R=some eof):=hidI (by rw [←hR];unfold kindE;rw [if_neg (by rw [hm];simp)];simp);clear h hx hcell gx hR hm hxc hxv hn;go_enter Tryz.func34,Tryz.ntmps34
  go_wp2_with (first|(go_at_call 72;refine Calls.mono (CMy.out _) ?_;intro e w9 h9;obtain ⟨rfl,rfl⟩:=h9)|(go_at_call 71;refine Calls.mono (HOk.out _) ?_;intro e w9 h9;obtain ⟨rfl,rfl⟩:=h9))
  go_ret;exact ⟨by rw [HR.out];rfl,HB1.out⟩
set_option maxHeartbeats 2000000 in
theorem kind_2 {c:Nat} {i:Int} {p:PV} {w:World} {wh j:Nat} {G:Int→Option Nat} {R:Option Nat} {eof eop:Nat} {enm:ByteArray} {enum:Int} {ekids:List Int} {ka:Option Addr} {kc:Nat} (h:TyS c i p w) (hd:p.ds.length≤24) (hx:p.xs[j]?=some (⟨2,eof,eop,enm,enum,ekids⟩,.slice ka ekids.length kc))
  (hR:kindE p.ds G wh ⟨2,eof,eop,enm,enum,ekids⟩=R) :
  Calls Tryz.prog 34 #[.pointer (some ⟨c,0,none⟩),.int .i64 (j:Int),.int .u8 (wh:Int)] w fun e w'=>ROpt i R e∧Below w.heap.size w w':=by
 have hj:j<p.xs.length:=(List.getElem?_eq_some_iff.1 hx).1;obtain ⟨_,xa,xc,hxv,hxc⟩:=id h.s.x;obtain ⟨xb,xo,rfl,hcell⟩:∃ b off,xa=some ⟨b,off,none⟩∧∀ (q:Nat) (z:Value),(flatX p.xs)[q]?=some z→w.cell? ⟨b,off+q,none⟩=some z:=by
  rcases hxc with h|h
  ·omega
  ·exact h
 have h1:=h.c1;rw [hxv] at h1;have gx:∀ (q:Nat) (z:Value),q<6→(xcells (⟨2,eof,eop,enm,enum,ekids⟩,.slice ka ekids.length kc))[q]?=some z→w.cell? ⟨xb,xo+(j*6+q),none⟩=some z:=fun q z hq hz=>hcell _ _ (by unfold flatX;rw [zbE xcells 6 zbR p.xs j q _ hx hq];exact hz)
 have x0:=gx 0 _ (by omega) rfl;have x1:=gx 1 _ (by omega) rfl;have x2:=gx 2 _ (by omega) rfl;have x3:=gx 3 _ (by omega) rfl;have x4:=gx 4 _ (by omega) rfl;have x5:=gx 5 _ (by omega) rfl;simp only [←Nat.add_assoc,Nat.add_zero] at x0 x1 x2 x3 x4 x5;obtain ⟨n,hn⟩:∃ n,p.xs.length=n:=⟨_,rfl⟩;rw [hn] at h1 hj;have k1:(j:Int)<(n:Int):=by omega
 have HT:=hidI h;have HOk:=hidI (zcS (.pointer (some ⟨c,0,none⟩)));have HB1:Hid (Below w.heap.size w (w.alloc (.cells #[.int .u8 (2:Int),.int .u8 (eof:Int),.int .u8 (eop:Int),.string enm,.int .i64 enum,.slice ka ekids.length kc] 82))):=hidI ((Below.refl _ _).alloc (Nat.le_refl _) _);have HT1:=hidI (HT.out.on HB1.out);have HBad:=hidI (zbV HT1.out.c4);cases hm:mayS 2 wh with
 | false=>
  have HR:Hid (R=none):=hidI (by rw [←hR];unfold kindE;rw [if_pos hm]);have CMy:=hidI (zcJ 2 wh);rw [hm] at CMy;clear h hx hcell gx hR hm hxc hxv hn;go_enter Tryz.func34,Tryz.ntmps34
  go_wp2_with (first|(go_at_call 72;refine Calls.mono (CMy.out _) ?_;intro e w9 h9;obtain ⟨rfl,rfl⟩:=h9)|(go_at_call 71;refine Calls.mono (HBad.out) ?_;intro e w9 h9;obtain ⟨rfl,rfl⟩:=h9))
  exact ⟨rfl,by rw [HR.out];rfl,HB1.out⟩
 | true=>
  have CMy:=hidI (zcJ 2 wh);rw [hm] at CMy;have HR:Hid (R=declK p.ds enm 1):=hidI (by rw [←hR];unfold kindE;rw [if_neg (by rw [hm];simp)];simp);have CD:=hidI (zeV HT1.out hd enm 1);cases hr:declK p.ds enm 1 with
  | none=>
   rw [hr] at HR CD;clear h hx hcell gx hR hm hxc hxv hn hr;go_enter Tryz.func34,Tryz.ntmps34
   go_wp2_with (first|(go_at_call 72;refine Calls.mono (CMy.out _) ?_;intro e w9 h9;obtain ⟨rfl,rfl⟩:=h9)|(go_at_call 71;refine Calls.mono (HOk.out _) ?_;intro e w9 h9;obtain ⟨rfl,rfl⟩:=h9)|(go_at_call 73;refine Calls.mono CD.out ?_;intro e w9 h9;obtain ⟨h9,hb9⟩:=h9;have h9:e=_:=h9;subst h9))
   exact ⟨rfl,by rw [HR.out];rfl,HB1.out.trans (hb9.mono HB1.out.size)⟩
  | some q=>
   rw [hr] at HR CD;clear h hx hcell gx hR hm hxc hxv hn hr;go_enter Tryz.func34,Tryz.ntmps34
   go_wp2_with (first|(go_at_call 72;refine Calls.mono (CMy.out _) ?_;intro e w9 h9;obtain ⟨rfl,rfl⟩:=h9)|(go_at_call 71;refine Calls.mono (HOk.out _) ?_;intro e w9 h9;obtain ⟨rfl,rfl⟩:=h9)|(go_at_call 73;refine Calls.mono CD.out ?_;intro e w9 h9;obtain ⟨h9,hb9⟩:=h9;have h9:e=_:=h9;subst h9))
   go_ret;exact ⟨by rw [HR.out];rfl,HB1.out.trans (hb9.mono HB1.out.size)⟩
set_option maxHeartbeats 2000000 in
theorem kind_3 {c:Nat} {i:Int} {p:PV} {w:World} {wh j:Nat} {G:Int→Option Nat} {R:Option Nat} {eof eop:Nat} {enm:ByteArray} {enum:Int} {ekids:List Int} {ka:Option Addr} {kc:Nat} (h:TyS c i p w) (hd:p.ds.length≤24) (hx:p.xs[j]?=some (⟨3,eof,eop,enm,enum,ekids⟩,.slice ka ekids.length kc))
  (hR:kindE p.ds G wh ⟨3,eof,eop,enm,enum,ekids⟩=R) :
  Calls Tryz.prog 34 #[.pointer (some ⟨c,0,none⟩),.int .i64 (j:Int),.int .u8 (wh:Int)] w fun e w'=>ROpt i R e∧Below w.heap.size w w':=by
 have hj:j<p.xs.length:=(List.getElem?_eq_some_iff.1 hx).1;obtain ⟨_,xa,xc,hxv,hxc⟩:=id h.s.x;obtain ⟨xb,xo,rfl,hcell⟩:∃ b off,xa=some ⟨b,off,none⟩∧∀ (q:Nat) (z:Value),(flatX p.xs)[q]?=some z→w.cell? ⟨b,off+q,none⟩=some z:=by
  rcases hxc with h|h
  ·omega
  ·exact h
 have h1:=h.c1;rw [hxv] at h1;have gx:∀ (q:Nat) (z:Value),q<6→(xcells (⟨3,eof,eop,enm,enum,ekids⟩,.slice ka ekids.length kc))[q]?=some z→w.cell? ⟨xb,xo+(j*6+q),none⟩=some z:=fun q z hq hz=>hcell _ _ (by unfold flatX;rw [zbE xcells 6 zbR p.xs j q _ hx hq];exact hz)
 have x0:=gx 0 _ (by omega) rfl;have x1:=gx 1 _ (by omega) rfl;have x2:=gx 2 _ (by omega) rfl;have x3:=gx 3 _ (by omega) rfl;have x4:=gx 4 _ (by omega) rfl;have x5:=gx 5 _ (by omega) rfl;simp only [←Nat.add_assoc,Nat.add_zero] at x0 x1 x2 x3 x4 x5;obtain ⟨n,hn⟩:∃ n,p.xs.length=n:=⟨_,rfl⟩;rw [hn] at h1 hj;have k1:(j:Int)<(n:Int):=by omega
 have HT:=hidI h;have HOk:=hidI (zcS (.pointer (some ⟨c,0,none⟩)));have HB1:Hid (Below w.heap.size w (w.alloc (.cells #[.int .u8 (3:Int),.int .u8 (eof:Int),.int .u8 (eop:Int),.string enm,.int .i64 enum,.slice ka ekids.length kc] 82))):=hidI ((Below.refl _ _).alloc (Nat.le_refl _) _);have HT1:=hidI (HT.out.on HB1.out);have HBad:=hidI (zbV HT1.out.c4);cases hm:mayS 3 wh with
 | false=>
  have HR:Hid (R=none):=hidI (by rw [←hR];unfold kindE;rw [if_pos hm]);have CMy:=hidI (zcJ 3 wh);rw [hm] at CMy;clear h hx hcell gx hR hm hxc hxv hn;go_enter Tryz.func34,Tryz.ntmps34
  go_wp2_with (first|(go_at_call 72;refine Calls.mono (CMy.out _) ?_;intro e w9 h9;obtain ⟨rfl,rfl⟩:=h9)|(go_at_call 71;refine Calls.mono (HBad.out) ?_;intro e w9 h9;obtain ⟨rfl,rfl⟩:=h9))
  exact ⟨rfl,by rw [HR.out];rfl,HB1.out⟩
 | true=>
  have CMy:=hidI (zcJ 3 wh);rw [hm] at CMy;have HR:Hid (R=declK p.ds enm 2):=hidI (by rw [←hR];unfold kindE;rw [if_neg (by rw [hm];simp)];simp);have CD:=hidI (zeV HT1.out hd enm 2);cases hr:declK p.ds enm 2 with
  | none=>
   rw [hr] at HR CD;clear h hx hcell gx hR hm hxc hxv hn hr;go_enter Tryz.func34,Tryz.ntmps34
   go_wp2_with (first|(go_at_call 72;refine Calls.mono (CMy.out _) ?_;intro e w9 h9;obtain ⟨rfl,rfl⟩:=h9)|(go_at_call 71;refine Calls.mono (HOk.out _) ?_;intro e w9 h9;obtain ⟨rfl,rfl⟩:=h9)|(go_at_call 73;refine Calls.mono CD.out ?_;intro e w9 h9;obtain ⟨h9,hb9⟩:=h9;have h9:e=_:=h9;subst h9))
   exact ⟨rfl,by rw [HR.out];rfl,HB1.out.trans (hb9.mono HB1.out.size)⟩
  | some q=>
   rw [hr] at HR CD;clear h hx hcell gx hR hm hxc hxv hn hr;go_enter Tryz.func34,Tryz.ntmps34
   go_wp2_with (first|(go_at_call 72;refine Calls.mono (CMy.out _) ?_;intro e w9 h9;obtain ⟨rfl,rfl⟩:=h9)|(go_at_call 71;refine Calls.mono (HOk.out _) ?_;intro e w9 h9;obtain ⟨rfl,rfl⟩:=h9)|(go_at_call 73;refine Calls.mono CD.out ?_;intro e w9 h9;obtain ⟨h9,hb9⟩:=h9;have h9:e=_:=h9;subst h9))
   go_ret;exact ⟨by rw [HR.out];rfl,HB1.out.trans (hb9.mono HB1.out.size)⟩
set_option maxHeartbeats 2000000 in
theorem kind_4 {c:Nat} {i:Int} {p:PV} {w:World} {wh j:Nat} {G:Int→Option Nat} {R:Option Nat} {eof eop:Nat} {enm:ByteArray} {enum:Int} {ekids:List Int} {ka:Option Addr} {kc:Nat} (h:TyS c i p w) (hd:p.ds.length≤24) (hx:p.xs[j]?=some (⟨4,eof,eop,enm,enum,ekids⟩,.slice ka ekids.length kc))
  (hR:kindE p.ds G wh ⟨4,eof,eop,enm,enum,ekids⟩=R) :
  Calls Tryz.prog 34 #[.pointer (some ⟨c,0,none⟩),.int .i64 (j:Int),.int .u8 (wh:Int)] w fun e w'=>ROpt i R e∧Below w.heap.size w w':=by
 have hj:j<p.xs.length:=(List.getElem?_eq_some_iff.1 hx).1;obtain ⟨_,xa,xc,hxv,hxc⟩:=id h.s.x;obtain ⟨xb,xo,rfl,hcell⟩:∃ b off,xa=some ⟨b,off,none⟩∧∀ (q:Nat) (z:Value),(flatX p.xs)[q]?=some z→w.cell? ⟨b,off+q,none⟩=some z:=by
  rcases hxc with h|h
  ·omega
  ·exact h
 have h1:=h.c1;rw [hxv] at h1;have gx:∀ (q:Nat) (z:Value),q<6→(xcells (⟨4,eof,eop,enm,enum,ekids⟩,.slice ka ekids.length kc))[q]?=some z→w.cell? ⟨xb,xo+(j*6+q),none⟩=some z:=fun q z hq hz=>hcell _ _ (by unfold flatX;rw [zbE xcells 6 zbR p.xs j q _ hx hq];exact hz)
 have x0:=gx 0 _ (by omega) rfl;have x1:=gx 1 _ (by omega) rfl;have x2:=gx 2 _ (by omega) rfl;have x3:=gx 3 _ (by omega) rfl;have x4:=gx 4 _ (by omega) rfl;have x5:=gx 5 _ (by omega) rfl;simp only [←Nat.add_assoc,Nat.add_zero] at x0 x1 x2 x3 x4 x5;obtain ⟨n,hn⟩:∃ n,p.xs.length=n:=⟨_,rfl⟩;rw [hn] at h1 hj;have k1:(j:Int)<(n:Int):=by omega
 have HT:=hidI h;have HOk:=hidI (zcS (.pointer (some ⟨c,0,none⟩)));have HB1:Hid (Below w.heap.size w (w.alloc (.cells #[.int .u8 (4:Int),.int .u8 (eof:Int),.int .u8 (eop:Int),.string enm,.int .i64 enum,.slice ka ekids.length kc] 82))):=hidI ((Below.refl _ _).alloc (Nat.le_refl _) _);have HT1:=hidI (HT.out.on HB1.out);have HBad:=hidI (zbV HT1.out.c4);cases hm:mayS 4 wh with
 | false=>
  have HR:Hid (R=none):=hidI (by rw [←hR];unfold kindE;rw [if_pos hm]);have CMy:=hidI (zcJ 4 wh);rw [hm] at CMy;clear h hx hcell gx hR hm hxc hxv hn;go_enter Tryz.func34,Tryz.ntmps34
  go_wp2_with (first|(go_at_call 72;refine Calls.mono (CMy.out _) ?_;intro e w9 h9;obtain ⟨rfl,rfl⟩:=h9)|(go_at_call 71;refine Calls.mono (HBad.out) ?_;intro e w9 h9;obtain ⟨rfl,rfl⟩:=h9))
  exact ⟨rfl,by rw [HR.out];rfl,HB1.out⟩
 | true=>
  have CMy:=hidI (zcJ 4 wh);rw [hm] at CMy;have HR:Hid (R=declK p.ds enm 2):=hidI (by rw [←hR];unfold kindE;rw [if_neg (by rw [hm];simp)];simp);have CD:=hidI (zeV HT1.out hd enm 2);cases hr:declK p.ds enm 2 with
  | none=>
   rw [hr] at HR CD;clear h hx hcell gx hR hm hxc hxv hn hr;go_enter Tryz.func34,Tryz.ntmps34
   go_wp2_with (first|(go_at_call 72;refine Calls.mono (CMy.out _) ?_;intro e w9 h9;obtain ⟨rfl,rfl⟩:=h9)|(go_at_call 71;refine Calls.mono (HOk.out _) ?_;intro e w9 h9;obtain ⟨rfl,rfl⟩:=h9)|(go_at_call 73;refine Calls.mono CD.out ?_;intro e w9 h9;obtain ⟨h9,hb9⟩:=h9;have h9:e=_:=h9;subst h9))
   exact ⟨rfl,by rw [HR.out];rfl,HB1.out.trans (hb9.mono HB1.out.size)⟩
  | some q=>
   rw [hr] at HR CD;clear h hx hcell gx hR hm hxc hxv hn hr;go_enter Tryz.func34,Tryz.ntmps34
   go_wp2_with (first|(go_at_call 72;refine Calls.mono (CMy.out _) ?_;intro e w9 h9;obtain ⟨rfl,rfl⟩:=h9)|(go_at_call 71;refine Calls.mono (HOk.out _) ?_;intro e w9 h9;obtain ⟨rfl,rfl⟩:=h9)|(go_at_call 73;refine Calls.mono CD.out ?_;intro e w9 h9;obtain ⟨h9,hb9⟩:=h9;have h9:e=_:=h9;subst h9))
   go_ret;exact ⟨by rw [HR.out];rfl,HB1.out.trans (hb9.mono HB1.out.size)⟩
set_option maxHeartbeats 2000000 in
theorem kind_5 {c:Nat} {i:Int} {p:PV} {w:World} {wh j:Nat} {G:Int→Option Nat} {R:Option Nat} {eof eop:Nat} {enm:ByteArray} {enum:Int} {ekids:List Int} {ka:Option Addr} {kc:Nat} (h:TyS c i p w) (hd:p.ds.length≤24) (hx:p.xs[j]?=some (⟨5,eof,eop,enm,enum,ekids⟩,.slice ka ekids.length kc))
  (hR:kindE p.ds G wh ⟨5,eof,eop,enm,enum,ekids⟩=R) :
  Calls Tryz.prog 34 #[.pointer (some ⟨c,0,none⟩),.int .i64 (j:Int),.int .u8 (wh:Int)] w fun e w'=>ROpt i R e∧Below w.heap.size w w':=by
 have hj:j<p.xs.length:=(List.getElem?_eq_some_iff.1 hx).1;obtain ⟨_,xa,xc,hxv,hxc⟩:=id h.s.x;obtain ⟨xb,xo,rfl,hcell⟩:∃ b off,xa=some ⟨b,off,none⟩∧∀ (q:Nat) (z:Value),(flatX p.xs)[q]?=some z→w.cell? ⟨b,off+q,none⟩=some z:=by
  rcases hxc with h|h
  ·omega
  ·exact h
 have h1:=h.c1;rw [hxv] at h1;have gx:∀ (q:Nat) (z:Value),q<6→(xcells (⟨5,eof,eop,enm,enum,ekids⟩,.slice ka ekids.length kc))[q]?=some z→w.cell? ⟨xb,xo+(j*6+q),none⟩=some z:=fun q z hq hz=>hcell _ _ (by unfold flatX;rw [zbE xcells 6 zbR p.xs j q _ hx hq];exact hz)
 have x0:=gx 0 _ (by omega) rfl;have x1:=gx 1 _ (by omega) rfl;have x2:=gx 2 _ (by omega) rfl;have x3:=gx 3 _ (by omega) rfl;have x4:=gx 4 _ (by omega) rfl;have x5:=gx 5 _ (by omega) rfl;simp only [←Nat.add_assoc,Nat.add_zero] at x0 x1 x2 x3 x4 x5;obtain ⟨n,hn⟩:∃ n,p.xs.length=n:=⟨_,rfl⟩;rw [hn] at h1 hj;have k1:(j:Int)<(n:Int):=by omega
 have HT:=hidI h;have HOk:=hidI (zcS (.pointer (some ⟨c,0,none⟩)));have HB1:Hid (Below w.heap.size w (w.alloc (.cells #[.int .u8 (5:Int),.int .u8 (eof:Int),.int .u8 (eop:Int),.string enm,.int .i64 enum,.slice ka ekids.length kc] 82))):=hidI ((Below.refl _ _).alloc (Nat.le_refl _) _);have HT1:=hidI (HT.out.on HB1.out);have HBad:=hidI (zbV HT1.out.c4);cases hm:mayS 5 wh with
 | false=>
  have HR:Hid (R=none):=hidI (by rw [←hR];unfold kindE;rw [if_pos hm]);have CMy:=hidI (zcJ 5 wh);rw [hm] at CMy;clear h hx hcell gx hR hm hxc hxv hn;go_enter Tryz.func34,Tryz.ntmps34
  go_wp2_with (first|(go_at_call 72;refine Calls.mono (CMy.out _) ?_;intro e w9 h9;obtain ⟨rfl,rfl⟩:=h9)|(go_at_call 71;refine Calls.mono (HBad.out) ?_;intro e w9 h9;obtain ⟨rfl,rfl⟩:=h9))
  exact ⟨rfl,by rw [HR.out];rfl,HB1.out⟩
 | true=>
  have CMy:=hidI (zcJ 5 wh);rw [hm] at CMy;have HR:Hid (R=declK p.ds enm 3):=hidI (by rw [←hR];unfold kindE;rw [if_neg (by rw [hm];simp)];simp);have CD:=hidI (zeV HT1.out hd enm 3);cases hr:declK p.ds enm 3 with
  | none=>
   rw [hr] at HR CD;clear h hx hcell gx hR hm hxc hxv hn hr;go_enter Tryz.func34,Tryz.ntmps34
   go_wp2_with (first|(go_at_call 72;refine Calls.mono (CMy.out _) ?_;intro e w9 h9;obtain ⟨rfl,rfl⟩:=h9)|(go_at_call 71;refine Calls.mono (HOk.out _) ?_;intro e w9 h9;obtain ⟨rfl,rfl⟩:=h9)|(go_at_call 73;refine Calls.mono CD.out ?_;intro e w9 h9;obtain ⟨h9,hb9⟩:=h9;have h9:e=_:=h9;subst h9))
   exact ⟨rfl,by rw [HR.out];rfl,HB1.out.trans (hb9.mono HB1.out.size)⟩
  | some q=>
   rw [hr] at HR CD;clear h hx hcell gx hR hm hxc hxv hn hr;go_enter Tryz.func34,Tryz.ntmps34
   go_wp2_with (first|(go_at_call 72;refine Calls.mono (CMy.out _) ?_;intro e w9 h9;obtain ⟨rfl,rfl⟩:=h9)|(go_at_call 71;refine Calls.mono (HOk.out _) ?_;intro e w9 h9;obtain ⟨rfl,rfl⟩:=h9)|(go_at_call 73;refine Calls.mono CD.out ?_;intro e w9 h9;obtain ⟨h9,hb9⟩:=h9;have h9:e=_:=h9;subst h9))
   go_ret;exact ⟨by rw [HR.out];rfl,HB1.out.trans (hb9.mono HB1.out.size)⟩
set_option maxHeartbeats 2000000 in
theorem kind_x {c:Nat} {i:Int} {p:PV} {w:World} {wh j:Nat} {G:Int→Option Nat} {R:Option Nat} {ek:Nat} (hek:ek≠1∧ek≠2∧ek≠3∧ek≠4∧ek≠5∧ek≠10) {eof eop:Nat} {enm:ByteArray} {enum:Int} {ekids:List Int} {ka:Option Addr} {kc:Nat} (h:TyS c i p w) (hx:p.xs[j]?=some (⟨ek,eof,eop,enm,enum,ekids⟩,.slice ka ekids.length kc))
  (hR:kindE p.ds G wh ⟨ek,eof,eop,enm,enum,ekids⟩=R) :
  Calls Tryz.prog 34 #[.pointer (some ⟨c,0,none⟩),.int .i64 (j:Int),.int .u8 (wh:Int)] w fun e w'=>ROpt i R e∧Below w.heap.size w w':=by
 have hj:j<p.xs.length:=(List.getElem?_eq_some_iff.1 hx).1;obtain ⟨_,xa,xc,hxv,hxc⟩:=id h.s.x;obtain ⟨xb,xo,rfl,hcell⟩:∃ b off,xa=some ⟨b,off,none⟩∧∀ (q:Nat) (z:Value),(flatX p.xs)[q]?=some z→w.cell? ⟨b,off+q,none⟩=some z:=by
  rcases hxc with h|h
  ·omega
  ·exact h
 have h1:=h.c1;rw [hxv] at h1;have gx:∀ (q:Nat) (z:Value),q<6→(xcells (⟨ek,eof,eop,enm,enum,ekids⟩,.slice ka ekids.length kc))[q]?=some z→w.cell? ⟨xb,xo+(j*6+q),none⟩=some z:=fun q z hq hz=>hcell _ _ (by unfold flatX;rw [zbE xcells 6 zbR p.xs j q _ hx hq];exact hz)
 have x0:=gx 0 _ (by omega) rfl;have x1:=gx 1 _ (by omega) rfl;have x2:=gx 2 _ (by omega) rfl;have x3:=gx 3 _ (by omega) rfl;have x4:=gx 4 _ (by omega) rfl;have x5:=gx 5 _ (by omega) rfl;simp only [←Nat.add_assoc,Nat.add_zero] at x0 x1 x2 x3 x4 x5;obtain ⟨n,hn⟩:∃ n,p.xs.length=n:=⟨_,rfl⟩;rw [hn] at h1 hj;have k1:(j:Int)<(n:Int):=by omega
 have HT:=hidI h;have HOk:=hidI (zcS (.pointer (some ⟨c,0,none⟩)));have d1:((ek:Int)==1)=false:=by rw [beq_eq_false_iff_ne];omega
 have d2:((ek:Int)==2)=false:=by rw [beq_eq_false_iff_ne];omega
 have d3:((ek:Int)==3)=false:=by rw [beq_eq_false_iff_ne];omega
 have d4:((ek:Int)==4)=false:=by rw [beq_eq_false_iff_ne];omega
 have d5:((ek:Int)==5)=false:=by rw [beq_eq_false_iff_ne];omega
 have d10:((ek:Int)==10)=false:=by rw [beq_eq_false_iff_ne];omega
 have HB1:Hid (Below w.heap.size w (w.alloc (.cells #[.int .u8 (ek:Int),.int .u8 (eof:Int),.int .u8 (eop:Int),.string enm,.int .i64 enum,.slice ka ekids.length kc] 82))):=hidI ((Below.refl _ _).alloc (Nat.le_refl _) _);have HT1:=hidI (HT.out.on HB1.out);have HBad:=hidI (zbV HT1.out.c4);cases hm:mayS ek wh with
 | false=>
  have HR:Hid (R=none):=hidI (by rw [←hR];unfold kindE;rw [if_pos hm]);have CMy:=hidI (zcJ ek wh);rw [hm] at CMy;clear h hx hcell gx hR hm hxc hxv hn hek;go_enter Tryz.func34,Tryz.ntmps34
  go_wp2_with (first|(go_at_call 72;refine Calls.mono (CMy.out _) ?_;intro e w9 h9;obtain ⟨rfl,rfl⟩:=h9)|(go_at_call 71;refine Calls.mono (HBad.out) ?_;intro e w9 h9;obtain ⟨rfl,rfl⟩:=h9))
  exact ⟨rfl,by rw [HR.out];rfl,HB1.out⟩
 | true=>
  have CMy:=hidI (zcJ ek wh);rw [hm] at CMy;have HR:Hid (R=some 1):=hidI (by rw [←hR];unfold kindE;rw [if_neg (by rw [hm];simp)];simp [hek]);clear h hx hcell gx hR hm hxc hxv hn hek;go_enter Tryz.func34,Tryz.ntmps34
  go_wp2_with (first|(go_at_call 72;refine Calls.mono (CMy.out _) ?_;intro e w9 h9;obtain ⟨rfl,rfl⟩:=h9)|(go_at_call 71;refine Calls.mono (HOk.out _) ?_;intro e w9 h9;obtain ⟨rfl,rfl⟩:=h9))
  go_ret;exact ⟨by rw [HR.out];rfl,HB1.out⟩
theorem infoKind:(Tryz.prog.info? 36).map (fun i=>(i.zero,i.size,i.bytes))=some (some (.int .u8 0),1,1):=by kernel_rfl
def kvals (ks:List Nat):List Value:=ks.map fun (k:Nat)=>Value.int .u8 (k:Int)
theorem kvals_snoc (ks:List Nat) (y:Nat):kvals (ks++[y])=kvals ks++[.int .u8 (y:Int)]:=by simp [kvals]
theorem mapO_snoc {α β:Type} (g:α→Option β) (b:α):∀ l:List α,mapO g (l++[b])=match mapO g l with|none=>none|some ks=>(match g b with|none=>none|some k=>some (ks++[k]))
 | []=>by
  simp only [List.nil_append,mapO];cases g b<;>rfl
 | a::r=>by
  simp only [List.cons_append,mapO,mapO_snoc g b r];cases g a with
  | none=>rfl
  | some x=>
   cases mapO g r with
   | none=>rfl
   | some ks=>cases g b<;>rfl
theorem mapO_bad {α β:Type} {g:α→Option β} {b:α} {r:List α} (hb:g b=none):∀ {l:List α} {ks:List β},mapO g l=some ks→mapO g (l++b::r)=none
 | [],_,_=>by simp only [List.nil_append,mapO,hb]
 | a::l,ks,h=>by
  simp only [mapO] at h;simp only [List.cons_append,mapO];cases ha:g a with
  | none=>rfl
  | some x=>
   rw [ha] at h;simp only at h;cases hl:mapO g l with
   | none=>rw [hl] at h;cases h
   | some bs=>rw [mapO_bad hb hl]
set_option maxHeartbeats 2000000 in
theorem kind_10 {c:Nat} {i:Int} {p:PV} {w:World} {wh j:Nat} {G:Int→Option Nat} {R:Option Nat} {eof eop:Nat} {enm:ByteArray} {enum:Int} {ekids:List Int} {ka:Option Addr} {kc:Nat} (h:TyS c i p w) (hx:p.xs[j]?=some (⟨10,eof,eop,enm,enum,ekids⟩,.slice ka ekids.length kc)) (IH:∀ (b:Int) (u:World),TyS c i p u→0≤b→b<(j:Int)→Calls Tryz.prog 34 #[.pointer (some ⟨c,0,none⟩),.int .i64 b,.int .u8 (wh:Int)] u fun e w'=>ROpt i (G b) e∧Below u.heap.size u w') (hk1:∀ b∈ekids,0≤b∧b<(j:Int)) (hk2:eop=18→3≤ekids.length) (hk3:eop=13∨eop=14→2≤ekids.length) (hk4:ekids.length≤3)
  (hR:kindE p.ds G wh ⟨10,eof,eop,enm,enum,ekids⟩=R) :
  Calls Tryz.prog 34 #[.pointer (some ⟨c,0,none⟩),.int .i64 (j:Int),.int .u8 (wh:Int)] w fun e w'=>ROpt i R e∧Below w.heap.size w w':=by
 have hj:j<p.xs.length:=(List.getElem?_eq_some_iff.1 hx).1;obtain ⟨_,xa,xc,hxv,hxc⟩:=id h.s.x;obtain ⟨xb,xo,rfl,hcell⟩:∃ b off,xa=some ⟨b,off,none⟩∧∀ (q:Nat) (z:Value),(flatX p.xs)[q]?=some z→w.cell? ⟨b,off+q,none⟩=some z:=by
  rcases hxc with h|h
  ·omega
  ·exact h
 have h1:=h.c1;rw [hxv] at h1;have gx:∀ (q:Nat) (z:Value),q<6→(xcells (⟨10,eof,eop,enm,enum,ekids⟩,.slice ka ekids.length kc))[q]?=some z→w.cell? ⟨xb,xo+(j*6+q),none⟩=some z:=fun q z hq hz=>hcell _ _ (by unfold flatX;rw [zbE xcells 6 zbR p.xs j q _ hx hq];exact hz)
 have x0:=gx 0 _ (by omega) rfl;have x1:=gx 1 _ (by omega) rfl;have x2:=gx 2 _ (by omega) rfl;have x3:=gx 3 _ (by omega) rfl;have x4:=gx 4 _ (by omega) rfl;have x5:=gx 5 _ (by omega) rfl;simp only [←Nat.add_assoc,Nat.add_zero] at x0 x1 x2 x3 x4 x5;obtain ⟨n,hn⟩:∃ n,p.xs.length=n:=⟨_,rfl⟩;rw [hn] at h1 hj;have k1:(j:Int)<(n:Int):=by omega
 have HT:=hidI h;have HOk:=hidI (zcS (.pointer (some ⟨c,0,none⟩)));have HIH:=hidI IH;have HK1:=hidI hk1;have HK2:=hidI hk2;have HK3:=hidI hk3;have HSK:=hidI (h.s.xk _ (List.mem_of_getElem? hx));clear IH hk1 hk2 hk3;have HB1:Hid (Below w.heap.size w (w.alloc (.cells #[.int .u8 (10:Int),.int .u8 (eof:Int),.int .u8 (eop:Int),.string enm,.int .i64 enum,.slice ka ekids.length kc] 82))):=hidI ((Below.refl _ _).alloc (Nat.le_refl _) _);have HT1:=hidI (HT.out.on HB1.out);have HBad:=hidI (zbV HT1.out.c4);cases hm:mayS 10 wh with
 | false=>
  have HR:Hid (R=none):=hidI (by rw [←hR];unfold kindE;rw [if_pos hm]);have CMy:=hidI (zcJ 10 wh);rw [hm] at CMy;clear h hx hcell gx hR hm hxc hxv hn;go_enter Tryz.func34,Tryz.ntmps34
  go_wp2_with (first|(go_at_call 72;refine Calls.mono (CMy.out _) ?_;intro e w9 h9;obtain ⟨rfl,rfl⟩:=h9)|(go_at_call 71;refine Calls.mono (HBad.out) ?_;intro e w9 h9;obtain ⟨rfl,rfl⟩:=h9))
  exact ⟨rfl,by rw [HR.out];rfl,HB1.out⟩
 | true=>
  have CMy:=hidI (zcJ 10 wh);rw [hm] at CMy;have HR:Hid (R=match mapO G ekids with|none=>none|some ks=>calledK eop ks):=hidI (by rw [←hR];unfold kindE;rw [if_neg (by rw [hm];simp)];simp;rfl);obtain ⟨n3,hn3⟩:∃ n,ekids.length=n:=⟨_,rfl⟩;have HN3:=hidI hn3;rw [hn3] at x5 hk4;obtain ⟨W1,hW1⟩:∃ W1,w.alloc (.cells #[.int .u8 (10:Int),.int .u8 (eof:Int),.int .u8 (eop:Int),.string enm,.int .i64 enum,.slice ka ekids.length kc] 82)=W1:=⟨_,rfl⟩;have z2:W1.cell? ⟨w.heap.size,2,none⟩=some (.int .u8 (eop:Int)):=by rw [←hW1];go_simp
  have HZ2:=hidI z2;have HZ0:Hid (W1.cell? ⟨w.heap.size,0,none⟩=some (.int .u8 10)):=hidI (by rw [←hW1];go_simp);have HZ5:Hid (W1.cell? ⟨w.heap.size,5,none⟩=some (.slice ka n3 kc)):=hidI (by rw [←hW1,←hn3];go_simp);have HS1:Hid (W1.heap.size=w.heap.size+1):=hidI (by rw [←hW1];simp);rw [hn3] at hW1;have HW1:=hidI hW1;rw [show w.alloc (.cells #[.int .u8 (10:Int),.int .u8 (eof:Int),.int .u8 (eop:Int),.string enm,.int .i64 enum,.slice ka ekids.length kc] 82)=W1 by rw [←hW1,hn3]] at HB1 HT1 HBad;clear h hx hcell gx hR hm hxc hxv hn hn3 hW1 z2;rw [HN3.out] at HSK;go_enter Tryz.func34,Tryz.ntmps34
  go_wp2_with (first|(go_at_call 72;refine Calls.mono (CMy.out _) ?_;intro e w9 h9;obtain ⟨rfl,rfl⟩:=h9)|(go_at_call 71;refine Calls.mono (HOk.out _) ?_;intro e w9 h9;obtain ⟨rfl,rfl⟩:=h9;refine Hid.out ?_))
  refine hidI ?_;rw [HW1.out];have HSK1:=hidI (HSK.out.below HB1.out (Nat.le_refl _));clear HBad CMy HOk HSK;have z0:=HZ0.out;have z5:=HZ5.out;go_wp2
  go_loopg [8,55] n3 (fun g s8 s55 wx=>∃ (q:Nat) (ks:List Nat) (v:Value),q+g=n3∧v=s8∧s55=.int .i64 (q:Int)∧ks.length=q∧Hid (mapO G (ekids.take q)=some ks)∧Hid (wx.ownsRow W1.heap.size 36 1 v q (kvals ks))∧Hid (Below W1.heap.size W1 wx))
  case atStart=>exact ⟨0,[],_,by omega,rfl,rfl,rfl,hidI rfl,hidI (World.ownsRow_nil _ _ _ _),hidI (Below.refl _ _)⟩
  case round=>
   obtain ⟨q,ks,v,hq,rfl,rfl,hks,HMP,HOW,HBW⟩:=hrel;have HT2:=hidI (HT1.out.on HBW.out);cases gk with
   | zero=>
    obtain rfl:n3=q:=by omega
    have k4:decide ((n3:Int)<(n3:Int))=false:=by simp
    have hmp:=HMP.out;rw [List.take_of_length_le (by have:=HN3.out;omega)] at hmp;have HR2:Hid (R=calledK eop ks):=hidI (by rw [HR.out,hmp]);have hv2:=zbD HOW.out;rw [←hks] at hv2;have CC:=hidI (ccalled_any HT2.out.c4 eop v ks hv2 (by omega) (fun e=>by have:=HK2.out e;have:=HN3.out;omega) (fun e=>by have:=HK3.out e;have:=HN3.out;omega));have z3:=zaJ HBW.out HZ2.out;clear hmp hv2 HMP HOW HK1 HK2 HK3 HIH HR;cases hr:calledK eop ks with
    | none=>
     rw [hr] at HR2 CC;clear hr
     go_wp2_with (go_at_call 74;refine Calls.mono CC.out ?_;intro e w9 h9;obtain ⟨h9,hb9⟩:=h9;have h9:e=_:=h9;subst h9)
     exact ⟨rfl,by rw [HR2.out];rfl,HB1.out.trans ((HBW.out.trans (hb9.mono HBW.out.size)).mono HB1.out.size)⟩
    | some y=>
     rw [hr] at HR2 CC;clear hr
     go_wp2_with (go_at_call 74;refine Calls.mono CC.out ?_;intro e w9 h9;obtain ⟨h9,hb9⟩:=h9;have h9:e=_:=h9;subst h9)
     go_ret;exact ⟨by rw [HR2.out];rfl,HB1.out.trans ((HBW.out.trans (hb9.mono HBW.out.size)).mono HB1.out.size)⟩
   | succ g=>
    have k4:(q:Int)<(n3:Int):=by omega
    obtain ⟨b,hb⟩:∃ b,ekids[q]?=some b:=⟨_,List.getElem?_eq_getElem (by have:=HN3.out;omega)⟩;have hdr:ekids=ekids.take q++b::ekids.drop (q+1):=by
     have hlt:q<ekids.length:=by have:=HN3.out;omega
     have:ekids[q]=b:=Option.some.inj ((List.getElem?_eq_getElem hlt).symm.trans hb);rw [←this,List.getElem_cons_drop,List.take_append_drop]
    have HDR:=hidI hdr;have htk:ekids.take (q+1)=ekids.take q++[b]:=by
     rw [List.take_add_one,hb];rfl
    have HTK:=hidI htk;obtain ⟨hb0,hbj⟩:=HK1.out b (List.mem_of_getElem? hb);obtain ⟨_,ka2,kc2,hkv,hkc⟩:=id HSK1.out;obtain ⟨rfl,rfl⟩:ka2=ka∧kc2=kc:=by cases hkv;exact ⟨rfl,rfl⟩
    obtain ⟨kb,ko,rfl,hkk⟩:∃ b off,ka2=some ⟨b,off,none⟩∧∀ (q:Nat) (z:Value),(intsI ekids)[q]?=some z→W1.cell? ⟨b,off+q,none⟩=some z:=by
     rcases hkc with h|h
     ·omega
     ·exact h
    have xq:=zaJ HBW.out (hkk q (.int .i64 b) (by unfold intsI;rw [List.getElem?_map,hb];rfl));have CI:=hidI (HIH.out b _ HT2.out hb0 hbj);clear hb hdr htk hkv hkc hkk hb0 hbj;cases hr:G b with
    | none=>
     have HR2:Hid (R=none):=hidI (by rw [HR.out,HDR.out,mapO_bad hr HMP.out]);rw [hr] at CI;clear hr HMP HOW HK1 HK2 HK3 HIH HR HDR HTK
     go_wp2_with (go_at_call 34;refine Calls.mono CI.out ?_;intro e w9 h9;obtain ⟨h9,hb9⟩:=h9;have h9:e=_:=h9;subst h9)
     exact ⟨rfl,by rw [HR2.out];rfl,HB1.out.trans ((HBW.out.trans (hb9.mono HBW.out.size)).mono HB1.out.size)⟩
    | some y=>
     have HMP2:Hid (mapO G (ekids.take (q+1))=some (ks++[y])):=hidI (by rw [HTK.out,mapO_snoc,HMP.out,hr]);rw [hr] at CI;clear hr HMP HDR HTK
     go_wp2_with (go_at_call 34;refine Calls.mono CI.out ?_;intro e w8 h9;obtain ⟨h9,hb9⟩:=h9;have h9:e=_:=h9;subst h9;refine Hid.out ?_)
     have HB8:=hidI (HBW.out.trans (hb9.mono HBW.out.size));have HO:=hidI (World.ownsRow.alloc (zcN HOW.out hb9 (Nat.le_refl _)) (.cells #[.int .u8 (y:Int)] 36));have HV:=hidI (zdR w8 36 1 #[.int .u8 (y:Int)] rfl);have hz8:=HB8.out.size;clear hb9 HOW CI;refine hidI ?_
     go_wp2_with (at_builtin;go_must (refine zaF Tryz.underlying131 infoKind rfl (by decide) (by decide) rfl _ _ rfl W1.heap.size v q (kvals ks) rfl HO.out _ 1 [.int .u8 (y:Int)] rfl HV.out (by simp [Value.oneCell']) (by omega) (by simp;omega) ?_);intro v9 w9 hown9 hgrow9 hat9;refine Hid.out ?_)
     have HB9:Hid (Below W1.heap.size W1 w9):=hidI ((HB8.out.alloc hz8 _).grown hgrow9 (by simp;omega) (fun k hk=>(HO.out.lt k hk).1));have HO9:Hid (w9.ownsRow W1.heap.size 36 1 v9 (q+1) (kvals (ks++[y]))):=hidI (by rw [kvals_snoc];exact hown9);clear hown9 hgrow9 hat9 HO HV HB8 hz8;refine hidI ?_;go_wp2;go_roundg g
     case measure=>omega
     case rel=>exact ⟨q+1,ks++[y],v9,by omega,rfl,by go_num,by rw [List.length_append];simp;omega,HMP2,HO9,HB9⟩
end Go.Proofs.YtfljimpgnlfipaaGreatDoor
