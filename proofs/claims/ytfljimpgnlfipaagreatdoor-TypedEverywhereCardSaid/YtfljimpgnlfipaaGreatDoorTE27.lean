/-
  Part 27 of the proof: DrV5, LexC, KindD, TyM, TyA.
-/
import Derived.Test.YtfljimpgnlfipaaGreatDoorTE24
import Derived.Test.YtfljimpgnlfipaaGreatDoorTE25
import Derived.Test.YtfljimpgnlfipaaGreatDoorTE26
import Derived.Test.YtfljimpgnlfipaaGreatDoorTE22
import Derived.Test.YtfljimpgnlfipaaGreatDoorTE03
import Derived.Test.YtfljimpgnlfipaaGreatDoorTE04
import Derived.Test.YtfljimpgnlfipaaGreatDoorTE05
namespace Go.Proofs.YtfljimpgnlfipaaGreatDoor
open Go.RowKit Go.Deep Go.MapKept
noncomputable def srcD (s:ByteArray):Except (Int × Int) Prg:=match lexRes s with
 | (ts,a,y)=>if y=0 then (match parse ts with
  | .ok σ=>rdTop σ.forms σ.top pv0.prg
  | .error q=>.error q) else .error (a,y)
set_option maxHeartbeats 4000000 in
theorem dsource_any (s:ByteArray) (w:World):Calls Tryz.prog 9 #[.string s] w (DRead (srcD s) w):=by
 have hbA:Below w.heap.size w (w.alloc (.cells #[.slice none 0 0,.slice none 0 0,.slice none 0 0,.slice none 0 0] 27)):=by exact belowT
 have C0:=rtoks_any s (w.alloc (.cells #[.slice none 0 0,.slice none 0 0,.slice none 0 0,.slice none 0 0] 27));have HBA:=hidI hbA;have hf0:∀ j,(w.alloc (.cells #[.slice none 0 0,.slice none 0 0,.slice none 0 0,.slice none 0 0] 27)).frozen? ⟨w.heap.size,j,none⟩=false:=fun j=>by go_simp
 have HRC:Hid (∀ u:World,Below (w.heap.size+1) (w.alloc (.cells #[.slice none 0 0,.slice none 0 0,.slice none 0 0,.slice none 0 0] 27)) u→(u.cell? ⟨w.heap.size,0,none⟩=some (.slice none 0 0)∧u.cell? ⟨w.heap.size,1,none⟩=some (.slice none 0 0)∧u.cell? ⟨w.heap.size,2,none⟩=some (.slice none 0 0)∧u.cell? ⟨w.heap.size,3,none⟩=some (.slice none 0 0))∧∀ j,u.frozen? ⟨w.heap.size,j,none⟩=false):=hidI (fun u hu=>by
  refine ⟨⟨(hu.cell (Nat.lt_succ_self _)).trans (by go_simp),(hu.cell (Nat.lt_succ_self _)).trans (by go_simp),(hu.cell (Nat.lt_succ_self _)).trans (by go_simp),(hu.cell (Nat.lt_succ_self _)).trans (by go_simp)⟩,fun j => ?_⟩;exact (hu.frozen (p:=⟨w.heap.size,j,none⟩) (Nat.lt_succ_self _)).trans (hf0 j))
 have hz0:(w.alloc (.cells #[.slice none 0 0,.slice none 0 0,.slice none 0 0,.slice none 0 0] 27)).heap.size=w.heap.size+1:=by simp
 have HZ0:=hidI hz0;clear hf0 hbA hz0;rcases lex_cases s with ⟨ts,hl,ht⟩|⟨a,y,hl,hy⟩
 ·have C1:Hid (Calls Tryz.prog 24 #[.string s] (w.alloc (.cells #[.slice none 0 0,.slice none 0 0,.slice none 0 0,.slice none 0 0] 27)) fun e w'=>∃ a1 c1,e=.returned (.tuple #[.slice a1 ts.length c1,.int .i64 0,.int .i64 0])∧SeesC w' (.slice a1 ts.length c1) ts.length 4 (flatT ts)∧Below (w.alloc (.cells #[.slice none 0 0,.slice none 0 0,.slice none 0 0,.slice none 0 0] 27)).heap.size (w.alloc (.cells #[.slice none 0 0,.slice none 0 0,.slice none 0 0,.slice none 0 0] 27)) w'):=hidI (C0.mono (by
   rintro e w' ⟨v,rfl,v',rfl,h2,h3⟩;rw [hl] at h2 ⊢;obtain ⟨_,a1,c1,hv,_⟩:=id h2;subst hv;exact ⟨a1,c1,rfl,h2,h3⟩))
  clear C0;cases hp:parse ts with
  | error q=>
   obtain ⟨qa,qy⟩:=q;have hq:=tparse_err hp;have hne:(qy==0)=false:=by rcases hq with h|h<;>(simp only at h;rw [h];rfl)
   have hne2:¬ qy=0:=by rcases hq with h|h<;>(simp only at h;rw [h];decide)
   have hR:srcD s=.error (qa,qy):=by
    unfold srcD;rw [hl];simp only [if_true];rw [hp]
   have C2:Hid (∀ W v,SeesC W v ts.length 4 (flatT ts)→Calls Tryz.prog 25 #[v] W fun e w'=>∃ fv tv,e=.returned (.tuple #[fv,tv,.int .i64 qa,.int .i64 qy])∧Below W.heap.size W w'):=hidI (fun W v hv=>by
    have h9:=rtparse_any ts v W hv ht.len;rw [hp] at h9;refine h9.mono fun e w' h8 => ?_
    exact ⟨_,_,h8.1,h8.2⟩)
   rw [hR];clear hl ht hp hq hR;go_enter Tryz.func9,Tryz.ntmps9
   go_wp2_with (first
    | (go_at_call 24;refine C1.out.mono ?_;intro e w1 h1;obtain ⟨a1,c1,rfl,hs1,hb1⟩:=h1;clear C1;have HS1:=hidI hs1;have HB1:=hidI hb1;clear hs1 hb1)
    | (go_at_call 25;refine Calls.mono (C2.out _ _ HS1.out) ?_;intro e w2 h2;obtain ⟨fv,tv,rfl,hb2⟩:=h2;clear C2;have HB2:=hidI (HB1.out.trans (hb2.mono HB1.out.size));have h9:=HRC.out _ (HZ0.out▸HB2.out);obtain ⟨⟨r0,r1,r2,r3⟩,rf⟩:=h9;have z0:=rf 0;have z1:=rf 1;have z2:=rf 2;have z3:=rf 3;clear hb2 rf))
   try go_region
   try go_wp2
   refine bodyPost_ret (v:=.tuple #[.agg #[.slice none 0 0,.slice none 0 0,.slice none 0 0,.slice none 0 0],.int .i64 qa,.int .i64 qy]) ?_ rfl ?_
   ·rw [zdB rfl]
    (go_simp<;>first|done|rfl)
   ·refine ⟨rfl,?_⟩;have h8:=HBA.out.trans (HB2.out.mono HBA.out.size)
    repeat (first|exact h8|refine Below.drew ?_|refine below_drewN ?_ _|refine Below.setCell ?_ (by first|exact Nat.le_refl _|omega|(simp;done)|(simp;omega)) _)
  | ok σ=>
   have hR:srcD s=rdTop σ.forms σ.top pv0.prg:=by
    unfold srcD;rw [hl];simp only [if_true];rw [hp]
   have C2:Hid (∀ W v,SeesC W v ts.length 4 (flatT ts)→Calls Tryz.prog 25 #[v] W fun e w'=>∃ fv tv,e=.returned (.tuple #[fv,tv,.int .i64 0,.int .i64 0])∧SeesF w' fv σ.forms∧SeesC w' tv σ.top.length 1 (ints σ.top)∧Below W.heap.size W w'):=hidI (fun W v hv=>by
    have h9:=rtparse_any ts v W hv ht.len;rw [hp] at h9;exact h9)
   obtain ⟨T,hT⟩:∃ T,rdTop σ.forms σ.top pv0.prg=T:=⟨_,rfl⟩;have C3:Hid (∀ W fv tv,SeesF W fv σ.forms→SeesC W tv σ.top.length 1 (ints σ.top)→Calls Tryz.prog 26 #[fv,tv] W (DRead T W)):=hidI (fun W fv tv hF hT2=>hT▸dread_parsed hp ht hF hT2);rw [hR,hT];clear hl ht hp hR hT;cases T with
   | error x=>
    obtain ⟨xa,xy⟩:=x;go_enter Tryz.func9,Tryz.ntmps9
    go_wp2_with (first
     | (go_at_call 24;refine C1.out.mono ?_;intro e w1 h1;obtain ⟨a1,c1,rfl,hs1,hb1⟩:=h1;clear C1;have HS1:=hidI hs1;have HB1:=hidI hb1;clear hs1 hb1)
     | (go_at_call 25;refine Calls.mono (C2.out _ _ HS1.out) ?_;intro e w2 h2;obtain ⟨fv,tv,rfl,hF2,hT2,hb2⟩:=h2;clear C2;have HF2:=hidI hF2;have HT2:=hidI hT2;have HB2:=hidI (HB1.out.trans (hb2.mono HB1.out.size));clear hF2 hT2 hb2)
     | (go_at_call 26;refine Calls.mono (C3.out _ _ _ HF2.out HT2.out) ?_;intro e w3 h3;obtain ⟨h3,hb3⟩:=h3;have h3:e=.returned (.tuple #[.agg #[.slice none 0 0,.slice none 0 0,.slice none 0 0,.slice none 0 0],.int .i64 xa,.int .i64 xy]):=h3;subst h3;clear C3;have HB3:=hidI (HB2.out.trans (hb3.mono HB2.out.size));have h9:=HRC.out _ (HZ0.out▸HB3.out);obtain ⟨⟨r0,r1,r2,r3⟩,rf⟩:=h9;have z0:=rf 0;have z1:=rf 1;have z2:=rf 2;have z3:=rf 3;clear hb3 rf))
    refine bodyPost_ret (v:=.tuple #[.agg #[.slice none 0 0,.slice none 0 0,.slice none 0 0,.slice none 0 0],.int .i64 xa,.int .i64 xy]) ?_ rfl ?_
    ·rw [zdB rfl]
     (go_simp<;>first|done|rfl)
    ·refine ⟨rfl,?_⟩;have h8:=HBA.out.trans (HB3.out.mono HBA.out.size)
     repeat (first|exact h8|refine Below.drew ?_|refine below_drewN ?_ _|refine Below.setCell ?_ (by first|exact Nat.le_refl _|omega|(simp;done)|(simp;omega)) _)
   | ok P=>
    go_enter Tryz.func9,Tryz.ntmps9
    go_wp2_with (first
     | (go_at_call 24;refine C1.out.mono ?_;intro e w1 h1;obtain ⟨a1,c1,rfl,hs1,hb1⟩:=h1;clear C1;have HS1:=hidI hs1;have HB1:=hidI hb1;clear hs1 hb1)
     | (go_at_call 25;refine Calls.mono (C2.out _ _ HS1.out) ?_;intro e w2 h2;obtain ⟨fv,tv,rfl,hF2,hT2,hb2⟩:=h2;clear C2;have HF2:=hidI hF2;have HT2:=hidI hT2;have HB2:=hidI (HB1.out.trans (hb2.mono HB1.out.size));clear hF2 hT2 hb2)
     | (go_at_call 26;refine Calls.mono (C3.out _ _ _ HF2.out HT2.out) ?_;intro e w3 h3;obtain ⟨⟨hPO,p',hp',rfl,hO3⟩,hb3⟩:=h3;clear C3;refine Hid.out ?_))
    have HB3:=hidI (HB2.out.trans (hb3.mono HB2.out.size));have h9:=HRC.out _ (HZ0.out▸HB3.out);obtain ⟨⟨r0,r1,r2,r3⟩,rf⟩:=h9;have z0:=rf 0;have z1:=rf 1;have z2:=rf 2;have z3:=rf 3;have hw2:w.heap.size<w2.heap.size:=by have:=HB2.out.size;have:=HZ0.out;omega
    obtain ⟨da,dc,hdv⟩:∃ da dc,p'.dv=.slice da p'.ds.length dc:=zaH (RowsP.head (r:=dRow p') hO3);obtain ⟨xa,xc,hxv⟩:∃ xa xc,p'.xv=.slice xa p'.xs.length xc:=zaH (RowsP.head (r:=xRow p') hO3.rest);obtain ⟨sa,sc,hsv⟩:∃ sa sc,p'.sv=.slice sa p'.ss.length sc:=zaH (RowsP.head (r:=sRow p') hO3.rest.rest);obtain ⟨ma,mc,hmv⟩:∃ ma mc,p'.mv=.slice ma p'.ms.length mc:=zaH (RowsP.head (r:=mRow p') hO3.rest.rest.rest);have HV4:=hidI (And.intro hdv (And.intro hxv (And.intro hsv hmv)));have hpv:pval p'=.agg #[.slice da p'.ds.length dc,.slice xa p'.xs.length xc,.slice sa p'.ss.length sc,.slice ma p'.ms.length mc]:=by rw [pval,hdv,hxv,hsv,hmv]
    have HO3:=hidI hO3;have HP':=hidI hp';have HPO:=hidI hPO;rw [hpv];clear hdv hxv hsv hmv hpv hO3 hp' hb3 rf hPO;refine hidI ?_;go_wp2;refine bodyPost_ret (v:=.tuple #[.agg #[.slice da p'.ds.length dc,.slice xa p'.xs.length xc,.slice sa p'.ss.length sc,.slice ma p'.ms.length mc],.int .i64 0,.int .i64 0]) ?_ rfl ?_
    ·rw [zdB rfl]
     (go_simp<;>first|done|rfl)
    ·obtain ⟨e1,e2,e3,e4⟩:=HV4.out;refine ⟨⟨HPO.out,p',HP'.out,by rw [pval,e1,e2,e3,e4],?_⟩,?_⟩
     ·exact RowsP.base ((((OwnP.far HO3.out hw2 0 _).far hw2 1 _).far hw2 2 _).far hw2 3 _) (by omega)
     ·have h8:=HBA.out.trans (HB3.out.mono HBA.out.size)
      repeat (first|exact h8|refine Below.drew ?_|refine below_drewN ?_ _|refine Below.setCell ?_ (by first|exact Nat.le_refl _|omega|(simp;done)|(simp;omega)) _)
 ·have C1:Hid (Calls Tryz.prog 24 #[.string s] (w.alloc (.cells #[.slice none 0 0,.slice none 0 0,.slice none 0 0,.slice none 0 0] 27)) fun e w'=>∃ v,e=.returned (.tuple #[v,.int .i64 a,.int .i64 y])∧Below (w.alloc (.cells #[.slice none 0 0,.slice none 0 0,.slice none 0 0,.slice none 0 0] 27)).heap.size (w.alloc (.cells #[.slice none 0 0,.slice none 0 0,.slice none 0 0,.slice none 0 0] 27)) w'):=hidI (C0.mono (by
   rintro e w' ⟨v,rfl,v',rfl,h2,h3⟩;rw [hl];exact ⟨_,rfl,h3⟩))
  have hR:srcD s=.error (a,y):=by
   unfold srcD;rw [hl];simp only [if_neg hy]
  have hne:(y==0)=false:=by rw [beq_eq_false_iff_ne];exact hy
  rw [hR];clear C0 hl hR;go_enter Tryz.func9,Tryz.ntmps9
  go_wp2_with (go_at_call 24;refine C1.out.mono ?_;intro e w1 h1;obtain ⟨v,rfl,hb1⟩:=h1;clear C1;have HB1:=hidI hb1;have h9:=HRC.out _ (HZ0.out▸hb1);obtain ⟨⟨r0,r1,r2,r3⟩,rf⟩:=h9;have z0:=rf 0;have z1:=rf 1;have z2:=rf 2;have z3:=rf 3;clear hb1 rf)
  try go_region
  try go_wp2
  refine bodyPost_ret (v:=.tuple #[.agg #[.slice none 0 0,.slice none 0 0,.slice none 0 0,.slice none 0 0],.int .i64 a,.int .i64 y]) ?_ rfl ?_
  ·rw [zdB rfl]
   (go_simp<;>first|done|rfl)
  ·refine ⟨rfl,?_⟩;have h8:=HBA.out.trans (HB1.out.mono HBA.out.size)
   repeat (first|exact h8|refine Below.drew ?_|refine below_drewN ?_ _|refine Below.setCell ?_ (by first|exact Nat.le_refl _|omega|(simp;done)|(simp;omega)) _)
def dig1 (l:Txt):Bool:=match l with|[c]=>decide (48≤c.toNat∧c.toNat≤57)|_=>false
def begins (l:Txt):Bool:=match l with|c::_=>decide (c≠45∧¬ (48≤c.toNat∧c.toNat≤57))|[]=>false
def okW (l:Txt):Bool:=l==[40] || l==[41] || dig1 l || (begins l && (nameB (bytesOf l) || opB (bytesOf l)))
def kcW (l:Txt):Int:=if l=[40] then 1 else if l=[41] then 2 else if dig1 l=true then 4 else 3
def numC (l:Txt):Int:=match l with|[c]=>if 48≤c.toNat∧c.toNat≤57 then (c.toNat:Int)-48 else 0|_=>0
def tokW (q:Piece):Tok:=⟨kcW q.2,bytesOf q.2,numC q.2,(q.1:Int)⟩
theorem itoa_dig {n:Nat} (h:n<10):Lib.itoa (n:Int)=[UInt8.ofNat (48+n)]:=by
 unfold Lib.itoa;rw [if_neg (by omega),show ((n:Int)).toNat=n by omega,zeT (by omega)]
theorem num_dig {c:UInt8} (h:48≤c.toNat∧c.toNat≤57):isNum (bytesOf [c])∧numV (bytesOf [c])=(c.toNat:Int)-48:=by
 obtain ⟨n,hn⟩:∃ n,c.toNat=48+n:=⟨c.toNat-48,by omega⟩;have hc:c=UInt8.ofNat (48+n):=by rw [←hn];simp
 have hit:=itoa_dig (n:=n) (by omega);have e:(bytesOf [c]).data.toList=Lib.itoa (n:Int):=by rw [hit,←hc];rfl
 have hin:In64 (n:Int):=⟨by omega,by omega⟩;have is:isNum (bytesOf [c]):=⟨(n:Int),hin,e⟩;refine ⟨is,?_⟩;obtain ⟨h1,h2⟩:=numV_in is;have p1:=parse_itoa (numV (bytesOf [c])) h1.1 h1.2;rw [←h2,e,parse_itoa (n:Int) hin.1 hin.2] at p1;have:=(Lib.NumEnd.ok.inj p1).symm;omega
theorem kind_ok {l:Txt} (h:okW l=true):kindP l=kcW l∧kcW l≠0∧numP l=numC l:=by
 unfold okW at h;by_cases h1:l=[40]
 ·subst h1;refine ⟨?_,by decide,?_⟩<;>simp [kindP,kcW,numP,numC]
 by_cases h2:l=[41]
 ·subst h2;refine ⟨?_,by decide,?_⟩<;>simp [kindP,kcW,numP,numC]
 simp only [Bool.or_eq_true,beq_iff_eq,h1,h2,false_or,Bool.and_eq_true] at h;rcases h with h|⟨hb,hn⟩
 ·obtain ⟨c,rfl,hc⟩:∃ c,l=[c]∧(48≤c.toNat∧c.toNat≤57):=by
   unfold dig1 at h;split at h
   ·rename_i c;exact ⟨c,rfl,of_decide_eq_true h⟩
   ·cases h
  obtain ⟨is,nv⟩:=num_dig hc;have hk:kindP [c]=4:=by unfold kindP;rw [if_neg h1,if_neg h2];unfold kindW;rw [if_pos is]
  have hk2:kcW [c]=4:=by unfold kcW;rw [if_neg h1,if_neg h2,if_pos h]
  refine ⟨hk.trans hk2.symm,by rw [hk2];decide,?_⟩;unfold numP numC;rw [if_pos hk,nv];simp only [if_pos hc]
 ·obtain ⟨c,r,rfl,hc⟩:∃ c r,l=c::r∧(c≠45∧¬ (48≤c.toNat∧c.toNat≤57)):=by
   unfold begins at hb;split at hb
   ·rename_i c r;exact ⟨c,r,rfl,of_decide_eq_true hb⟩
   ·cases hb
  have hnum:¬ isNum (bytesOf (c::r)):=not_num2 (c:=c) (r:=r) (by simp [bytesOf]) hc.1 (by
   unfold Dig;intro hd;have h1:=hd.1;have h2:=hd.2;exact hc.2 ⟨by simpa using h1,by simpa using h2⟩)
  have hd0:dig1 (c::r)=false:=by
   unfold dig1;split
   ·rename_i c' he
    cases he;exact decide_eq_false hc.2
   ·rfl
  have hk:kindP (c::r)=3:=by
   unfold kindP;rw [if_neg h1,if_neg h2];unfold kindW;rw [if_neg hnum,if_pos (by rcases hn with h|h<;>simp [h])]
  have hk2:kcW (c::r)=3:=by unfold kcW;rw [if_neg h1,if_neg h2,if_neg (by rw [hd0];simp)]
  refine ⟨hk.trans hk2.symm,by rw [hk2];decide,?_⟩;unfold numP numC;rw [if_neg (by rw [hk];decide)];split
  ·rename_i c' he
   cases he;rw [if_neg hc.2]
  ·rfl
theorem bad_ok:∀ (ps:List Piece) (c:Nat),(∀ q∈ps,okW q.2=true)→c+ps.length≤600→bad c ps=none
 | [],_,_,_=>rfl
 | q::r,c,h,hl=>by
  simp only [List.length_cons] at hl;obtain ⟨a1,a2,_⟩:=kind_ok (h q (by simp));unfold bad;rw [if_neg (by rw [a1];exact a2),if_neg (by omega)];exact bad_ok r (c+1) (fun x hx=>h x (by simp [hx])) (by omega)
theorem lex_ok {s:Txt} (h:((pieces s).all fun q=>okW q.2)=true) (hl:(pieces s).length≤600) (hn:s.length≤3000):lexRes (bytesOf s)=((pieces s).map tokW,0,0):=by
 have ha:∀ q∈pieces s,okW q.2=true:=List.all_eq_true.1 h;have hm:(pieces s).map tok=(pieces s).map tokW:=List.map_congr_left fun q hq=>by
  obtain ⟨a1,_,a3⟩:=kind_ok (ha q hq);unfold tok tokW;rw [a1,a3]
 have hd:(bytesOf s).data.toList=s:=by simp [bytesOf]
 have hsz:(bytesOf s).size=s.length:=by simp [bytesOf,ByteArray.size]
 unfold lexRes;rw [if_neg (by rw [hsz];omega),hd,bad_ok _ 0 ha (by omega),hm]
theorem flatD_get:∀ (l:List Dcl) (j i:Nat) (x:Dcl),l[j]?=some x→i<3→(flatD l)[j*3+i]?=(dcells x)[i]?
 | [],_,_,_,h,_=>by simp at h
 | y::r,0,i,x,h,hi=>by
  obtain rfl:y=x:=by simpa using h
  simp only [flatD,List.flatMap_cons,Nat.zero_mul,Nat.zero_add];rw [List.getElem?_append_left (by simpa [dcells] using hi)]
 | y::r,j+1,i,x,h,hi=>by
  have:=flatD_get r j i x (by simpa using h) hi;rw [←this];simp only [flatD,List.flatMap_cons];rw [List.getElem?_append_right (by simp [dcells];omega)];congr 1;simp [dcells];omega
def SeesD (w:World) (v:Value) (ds:List Dcl):Prop:=SeesC w v ds.length 3 (flatD ds)
theorem SeesD.cell {w:World} {v:Value} {ds:List Dcl} (h:SeesD w v ds) {j:Nat} {d:Dcl} (hd:ds[j]?=some d):∃ b o cap,v=.slice (some ⟨b,o,none⟩) ds.length cap∧w.cell? ⟨b,o+j*3,none⟩=some (.string d.name)∧w.cell? ⟨b,o+j*3+1,none⟩=some (.int .u8 (d.side:Int))∧w.cell? ⟨b,o+j*3+2,none⟩=some (.int .u8 (d.kind:Int)):=by
 have hj:=(List.getElem?_eq_some_iff.1 hd).1;obtain ⟨_,a,cap,rfl,h0⟩:=h;rcases h0 with h0|⟨b,o,rfl,hc⟩
 ·omega
 ·refine ⟨b,o,cap,rfl,?_,?_,?_⟩
  ·have:=hc (j*3+0) _ (by rw [flatD_get ds j 0 d hd (by omega)];rfl);simpa [Nat.add_assoc] using this
  ·have:=hc (j*3+1) _ (by rw [flatD_get ds j 1 d hd (by omega)];rfl);simpa [Nat.add_assoc] using this
  ·have:=hc (j*3+2) _ (by rw [flatD_get ds j 2 d hd (by omega)];rfl);simpa [Nat.add_assoc] using this
def isK (nm:ByteArray) (sd:Nat) (d:Dcl):Bool:=decide (d.name=nm) && decide (d.side=sd)
def kindD (nm:ByteArray) (sd:Nat):List Dcl→Nat
 | []=>0
 | d::r=>if isK nm sd d=true then d.kind else kindD nm sd r
theorem kindD_drop (nm:ByteArray) (sd:Nat) (ds:List Dcl) (j:Nat) (d:Dcl) (h:ds[j]?=some d):kindD nm sd (ds.drop j)=if isK nm sd d=true then d.kind else kindD nm sd (ds.drop (j+1)):=by
 have hj:=(List.getElem?_eq_some_iff.1 h).1;have hv:=(List.getElem?_eq_some_iff.1 h).2;rw [List.drop_eq_getElem_cons hj,hv];rfl
theorem eqU (a b:Nat):((a:Int)==(b:Int))=decide (a=b):=by
 by_cases h:a=b
 ·subst h;simp
 ·rw [decide_eq_false h,beq_eq_false_iff_ne];omega
set_option maxHeartbeats 1000000 in
theorem kindOf_any (w:World) (v:Value) (ds:List Dcl) (hv:SeesD w v ds) (hl:ds.length≤1000) (nm:ByteArray) (sd:Nat) :
  Calls Tryz.prog 112 #[v,.agg #[.string nm,.int .u8 (sd:Int)]] w fun e w'=>e=.returned (.int .u8 (kindD nm sd ds:Int))∧Below w.heap.size w w':=by
 obtain ⟨_,a,cap,rfl,_⟩:=id hv;have HV:=hidI hv;obtain ⟨m,hm⟩:∃ m,ds.length=m:=⟨_,rfl⟩;have HM:=hidI hm;rw [hm] at hl;rw [hm];have HW:Hid (Below w.heap.size w (w.alloc (.cells #[.string nm,.int .u8 (sd:Int)] 117))):=hidI ((Below.refl _ _).alloc (Nat.le_refl _) _);clear hv hm;go_enter Tryz.func112,Tryz.ntmps112;go_wp2
 go_loopg [9] m (fun g s9 wx=>∃ j:Nat,j+g=m∧s9=.int .i64 (j:Int)∧Hid (kindD nm sd ds=kindD nm sd (ds.drop j))∧Hid (Below (w.alloc (.cells #[.string nm,.int .u8 (sd:Int)] 117)).heap.size (w.alloc (.cells #[.string nm,.int .u8 (sd:Int)] 117)) wx))
 case atStart=>exact ⟨0,by omega,rfl,hidI rfl,hidI (Below.refl _ _)⟩
 case round=>
  obtain ⟨j,hjg,rfl,HK,HB⟩:=hrel;cases gk with
  | zero=>
   obtain rfl:m=j:=by omega
   have k1:decide ((m:Int)<(m:Int))=false:=by simp
   have HR:Hid (kindD nm sd ds=0):=hidI (by rw [HK.out,List.drop_of_length_le (by have:=HM.out;omega)];rfl);go_wp2;go_ret;exact ⟨by rw [HR.out];rfl,HW.out.trans (HB.out.mono (by simp))⟩
  | succ g=>
   have k1:(j:Int)<(m:Int):=by omega
   obtain ⟨d,hd⟩:∃ d,ds[j]?=some d:=⟨_,List.getElem?_eq_getElem (by have:=HM.out;omega)⟩;obtain ⟨b,o,cap',hav,x0,x1,x2⟩:=HV.out.cell hd;rw [HM.out] at hav;cases hav;have z:∀ {p:Addr} {v:Value},w.cell? p=some v→wr.cell? p=some v:=fun {p v} hc=>by
    have h1:=(HW.out.cell (World.block_lt_of_cell? w _ hc)).trans hc;exact (HB.out.cell (World.block_lt_of_cell? _ _ h1)).trans h1
   have y:∀ {p:Addr} {v:Value},(w.alloc (.cells #[.string nm,.int .u8 (sd:Int)] 117)).cell? p=some v→wr.cell? p=some v:=fun {p v} hc=>(HB.out.cell (World.block_lt_of_cell? _ _ hc)).trans hc
   replace x0:=z x0;replace x1:=z x1;replace x2:=z x2;have hb0:wr.cell? ⟨w.heap.size,0,none⟩=some (.string nm):=y (by go_simp);have hb1:wr.cell? ⟨w.heap.size,1,none⟩=some (.int .u8 (sd:Int)):=y (by go_simp);have ha:Below wr.heap.size wr (wr.alloc (.cells #[.string d.name,.int .u8 (d.side:Int),.int .u8 (d.kind:Int)] 106)):=(Below.refl _ _).alloc (Nat.le_refl _) _;have hc0:=(ha.cell (World.block_lt_of_cell? wr _ hb0)).trans hb0;have hc1:=(ha.cell (World.block_lt_of_cell? wr _ hb1)).trans hb1;clear ha;have HKD:=hidI (kindD_drop nm sd ds j d hd);have q1:=zbT d.name nm;have q2:=eqU d.side sd;have hlt:=HB.out.size;simp only [World.size_alloc] at hlt;have HBW:Hid (∀ W,Below (w.alloc (.cells #[.string nm,.int .u8 (sd:Int)] 117)).heap.size (w.alloc (.cells #[.string nm,.int .u8 (sd:Int)] 117)) W→Below w.heap.size w W):=hidI (fun W hW=>HW.out.trans (hW.mono (by simp)));clear z y hd;by_cases c1:d.name=nm
   ·rw [decide_eq_true c1] at q1;by_cases c2:d.side=sd
    ·rw [decide_eq_true c2] at q2;have HR:Hid (kindD nm sd ds=d.kind):=hidI (by rw [HK.out,HKD.out,if_pos (by simp [isK,c1,c2])]);clear HK HKD c1 c2;go_wp2;skip;go_ret;exact ⟨by rw [HR.out];rfl,HBW.out _ (HB.out.alloc (by have:=HB.out.size;simp at this ⊢;omega) (.cells #[.string d.name,.int .u8 (d.side:Int),.int .u8 (d.kind:Int)] 106))⟩
    ·rw [decide_eq_false c2] at q2;have HR:Hid (kindD nm sd ds=kindD nm sd (ds.drop (j+1))):=hidI (by rw [HK.out,HKD.out,if_neg (by simp [isK,c2])]);clear HK HKD c1 c2;go_wp2;skip;go_roundg g
     case measure=>omega
     case rel=>exact ⟨j+1,by omega,by go_num,HR,hidI (HB.out.alloc (by have:=HB.out.size;simp at this ⊢;omega) (.cells #[.string d.name,.int .u8 (d.side:Int),.int .u8 (d.kind:Int)] 106))⟩
   ·rw [decide_eq_false c1] at q1;have HR:Hid (kindD nm sd ds=kindD nm sd (ds.drop (j+1))):=hidI (by rw [HK.out,HKD.out,if_neg (by simp [isK,c1])]);clear HK HKD c1;go_wp2;skip;go_roundg g
    case measure=>omega
    case rel=>exact ⟨j+1,by omega,by go_num,HR,hidI (HB.out.alloc (by have:=HB.out.size;simp at this ⊢;omega) (.cells #[.string d.name,.int .u8 (d.side:Int),.int .u8 (d.kind:Int)] 106))⟩
def mayS (k w:Nat):Bool:=
 if k=3∨k=6∨k=8 then decide (w=2∨w=3)
 else if k=5 then decide (w=3∨w=4)
 else if k=4∨k=7 then decide (w=4)
 else true
def allK (one:Nat) (ks:List Nat):Bool:=ks.all fun k=>decide (k=one)
def calledK (o:Nat) (ks:List Nat):Option Nat:=
 if o=18 then (if ks.getD 0 0=2∧ks.getD 1 0=ks.getD 2 0 then some (ks.getD 1 0) else none)
 else if o=15∨o=16∨o=17 then (if allK 2 ks=true then some 2 else none)
 else if o=14 then (if allK 1 ks=true∧ks.getD 0 0=ks.getD 1 0 then some 2 else none)
 else if o=13 then (if ks.getD 0 0=ks.getD 1 0 then some 2 else none)
 else (if allK 1 ks=true then some 1 else none)
def declK (ds:List Dcl) (nm:ByteArray) (sd:Nat):Option Nat:=if kindD nm sd ds=0 then none else some (kindD nm sd ds)
def mapO {α β:Type} (g:α→Option β):List α→Option (List β)
 | []=>some []
 | a::r=>match g a with
  | none=>none
  | some b=>match mapO g r with
   | none=>none
   | some bs=>some (b::bs)
def kindE (ds:List Dcl) (g:Int→Option Nat) (w:Nat) (e:Exp):Option Nat:=
 if mayS e.k w=false then none
 else if e.k=1 then some e.of
 else if e.k=2 then declK ds e.name 1
 else if e.k=3∨e.k=4 then declK ds e.name 2
 else if e.k=5 then declK ds e.name 3
 else if e.k=10 then (match mapO g e.kids with|none=>none|some ks=>calledK e.op ks)
 else some 1
def kindX (ds:List Dcl) (xs:List Exp) (w:Nat):Nat→Int→Option Nat
 | 0,_=>none
 | f+1,a=>kindE ds (kindX ds xs w f) w (xs.getD a.toNat exp0)
def kX (P:Prg) (w:Nat) (a:Int):Option Nat:=kindX P.decls P.exprs w P.exprs.length a
def isO (r:Option Nat) (k:Nat):Bool:=decide (r=some k)
def condO (P:Prg) (a:Int):Bool:=decide (a = -1) || isO (kX P 2 a) 2
def takesO (o k:Nat):Bool:=isO (calledK o [k,k]) k
def actO (P:Prg) (a:Actn):Bool:=
 match declK P.decls a.name 2 with
 | none=>false
 | some k=>(if a.k=1 then isO (kX P 2 a.e) k else if a.k=2 then isO (kX P 3 a.e) k && takesO a.op k else if a.k=3 then isO (kX P 4 a.e) k && takesO a.op k else true) && condO P a.cond
def stmtO (P:Prg) (s:Stm):Bool:=
 if s.k=1 then (match declK P.decls s.name 1 with|none=>false|some k=>isO (kX P 1 s.e) k)
 else if s.k=2 then (match declK P.decls s.name 1 with|none=>false|some k=>isO (kX P 2 s.e) k && takesO s.op k && condO P s.cond)
 else if s.k=3 then s.acts.all (actO P)
 else if s.k=7 then decide (declK P.decls s.name 2=some 1) && isO (kX P 1 s.e) 1
 else if s.k=4∨s.k=5∨s.k=6 then isO (kX P 1 s.e) 2
 else true
def firstO (P:Prg):Nat→List Stm→Option Nat
 | _,[]=>none
 | i,s::r=>if stmtO P s=true then firstO P (i+1) r else some i
def WfX (xs:List Exp):Prop:=∀ (i:Nat) (e:Exp),xs[i]?=some e→e.k=10→(∀ b∈e.kids,0≤b∧b<(i:Int))∧(e.op=18→3≤e.kids.length)∧(e.op=13∨e.op=14→2≤e.kids.length)∧e.kids.length≤3
def InX (P:Prg) (a:Int):Prop:=0≤a∧a<(P.exprs.length:Int)
def WfA (P:Prg) (a:Actn):Prop:=InX P a.e∧(a.cond = -1∨InX P a.cond)∧(a.k=2∨a.k=3→a.op≠18)
def WfS (P:Prg) (s:Stm):Prop:=(s.k≠3→InX P s.e)∧(s.k=2→(s.cond = -1∨InX P s.cond)∧s.op≠18)∧(s.k=3→∀ a∈s.acts,WfA P a)
structure WfP (P:Prg):Prop where
 x:WfX P.exprs
 s:∀ s∈P.stmts,WfS P s
abbrev misF (i:Int):List PanicEntry:=[{ v:=.iface 120 (.agg #[.int .i64 i]),recovered:=false }]
structure TyS (c:Nat) (i:Int) (p:PV) (w:World):Prop where
 c0:w.cell? ⟨c,0,none⟩=some p.dv
 c1:w.cell? ⟨c,1,none⟩=some p.xv
 c2:w.cell? ⟨c,2,none⟩=some p.sv
 c3:w.cell? ⟨c,3,none⟩=some p.mv
 c4:w.cell? ⟨c,4,none⟩=some (.int .i64 i)
 s:SeesPv w p
theorem TyS.on {c:Nat} {i:Int} {p:PV} {w w':World} (h:TyS c i p w) (hb:Below w.heap.size w w'):TyS c i p w':=
 ⟨zaJ hb h.c0,zaJ hb h.c1,zaJ hb h.c2,zaJ hb h.c3,zaJ hb h.c4,h.s.below hb⟩
theorem zcS (a:Value) (w:World):Calls Tryz.prog 71 #[a,.bool true] w fun e w'=>e=.returned (.tuple #[])∧w=w':=by
 go_enter Tryz.func71,Tryz.ntmps71;go_wp2;go_end0;exact ⟨rfl,rfl⟩
theorem zbV {c:Nat} {i:Int} {w:World} (h:w.cell? ⟨c,4,none⟩=some (.int .i64 i)):Calls Tryz.prog 71 #[.pointer (some ⟨c,0,none⟩),.bool false] w fun e w'=>e=.panicked (misF i)∧w=w':=by
 go_enter Tryz.func71,Tryz.ntmps71;go_wp2;exact ⟨rfl,rfl,rfl⟩
def MPost (i:Int) (b:Bool) (e:Ending):Prop:=if b=true then e=.returned (.tuple #[]) else e=.panicked (misF i)
theorem natU (a b:Nat):((a:Int)==(b:Int))=decide (a=b):=eqU a b
theorem mayS_3_2 (W:World):Calls Tryz.prog 72 #[.int .u8 3,.int .u8 2] W fun e w'=>e=.returned (.bool true)∧W=w':=by
 skip;go_enter Tryz.func72,Tryz.ntmps72;go_wp2;go_ret;exact ⟨rfl,rfl⟩
theorem mayS_3_3 (W:World):Calls Tryz.prog 72 #[.int .u8 3,.int .u8 3] W fun e w'=>e=.returned (.bool true)∧W=w':=by
 skip;go_enter Tryz.func72,Tryz.ntmps72;go_wp2;go_ret;exact ⟨rfl,rfl⟩
theorem mayS_3_4 (W:World):Calls Tryz.prog 72 #[.int .u8 3,.int .u8 4] W fun e w'=>e=.returned (.bool false)∧W=w':=by
 skip;go_enter Tryz.func72,Tryz.ntmps72;go_wp2;go_ret;exact ⟨rfl,rfl⟩
theorem mayS_3_x (w:Nat) (hw:w≠2∧w≠3∧w≠4) (W:World):Calls Tryz.prog 72 #[.int .u8 3,.int .u8 (w:Int)] W fun e w'=>e=.returned (.bool false)∧W=w':=by
 have q2:((w:Int)==2)=false:=by rw [beq_eq_false_iff_ne];omega
 have q3:((w:Int)==3)=false:=by rw [beq_eq_false_iff_ne];omega
 have q4:((w:Int)==4)=false:=by rw [beq_eq_false_iff_ne];omega
 clear hw;go_enter Tryz.func72,Tryz.ntmps72;go_wp2;go_ret;exact ⟨rfl,rfl⟩
theorem mayS_6_2 (W:World):Calls Tryz.prog 72 #[.int .u8 6,.int .u8 2] W fun e w'=>e=.returned (.bool true)∧W=w':=by
 skip;go_enter Tryz.func72,Tryz.ntmps72;go_wp2;go_ret;exact ⟨rfl,rfl⟩
theorem mayS_6_3 (W:World):Calls Tryz.prog 72 #[.int .u8 6,.int .u8 3] W fun e w'=>e=.returned (.bool true)∧W=w':=by
 skip;go_enter Tryz.func72,Tryz.ntmps72;go_wp2;go_ret;exact ⟨rfl,rfl⟩
theorem mayS_6_4 (W:World):Calls Tryz.prog 72 #[.int .u8 6,.int .u8 4] W fun e w'=>e=.returned (.bool false)∧W=w':=by
 skip;go_enter Tryz.func72,Tryz.ntmps72;go_wp2;go_ret;exact ⟨rfl,rfl⟩
theorem mayS_6_x (w:Nat) (hw:w≠2∧w≠3∧w≠4) (W:World):Calls Tryz.prog 72 #[.int .u8 6,.int .u8 (w:Int)] W fun e w'=>e=.returned (.bool false)∧W=w':=by
 have q2:((w:Int)==2)=false:=by rw [beq_eq_false_iff_ne];omega
 have q3:((w:Int)==3)=false:=by rw [beq_eq_false_iff_ne];omega
 have q4:((w:Int)==4)=false:=by rw [beq_eq_false_iff_ne];omega
 clear hw;go_enter Tryz.func72,Tryz.ntmps72;go_wp2;go_ret;exact ⟨rfl,rfl⟩
theorem mayS_8_2 (W:World):Calls Tryz.prog 72 #[.int .u8 8,.int .u8 2] W fun e w'=>e=.returned (.bool true)∧W=w':=by
 skip;go_enter Tryz.func72,Tryz.ntmps72;go_wp2;go_ret;exact ⟨rfl,rfl⟩
theorem mayS_8_3 (W:World):Calls Tryz.prog 72 #[.int .u8 8,.int .u8 3] W fun e w'=>e=.returned (.bool true)∧W=w':=by
 skip;go_enter Tryz.func72,Tryz.ntmps72;go_wp2;go_ret;exact ⟨rfl,rfl⟩
theorem mayS_8_4 (W:World):Calls Tryz.prog 72 #[.int .u8 8,.int .u8 4] W fun e w'=>e=.returned (.bool false)∧W=w':=by
 skip;go_enter Tryz.func72,Tryz.ntmps72;go_wp2;go_ret;exact ⟨rfl,rfl⟩
theorem mayS_8_x (w:Nat) (hw:w≠2∧w≠3∧w≠4) (W:World):Calls Tryz.prog 72 #[.int .u8 8,.int .u8 (w:Int)] W fun e w'=>e=.returned (.bool false)∧W=w':=by
 have q2:((w:Int)==2)=false:=by rw [beq_eq_false_iff_ne];omega
 have q3:((w:Int)==3)=false:=by rw [beq_eq_false_iff_ne];omega
 have q4:((w:Int)==4)=false:=by rw [beq_eq_false_iff_ne];omega
 clear hw;go_enter Tryz.func72,Tryz.ntmps72;go_wp2;go_ret;exact ⟨rfl,rfl⟩
theorem mayS_5_2 (W:World):Calls Tryz.prog 72 #[.int .u8 5,.int .u8 2] W fun e w'=>e=.returned (.bool false)∧W=w':=by
 skip;go_enter Tryz.func72,Tryz.ntmps72;go_wp2;go_ret;exact ⟨rfl,rfl⟩
theorem mayS_5_3 (W:World):Calls Tryz.prog 72 #[.int .u8 5,.int .u8 3] W fun e w'=>e=.returned (.bool true)∧W=w':=by
 skip;go_enter Tryz.func72,Tryz.ntmps72;go_wp2;go_ret;exact ⟨rfl,rfl⟩
theorem mayS_5_4 (W:World):Calls Tryz.prog 72 #[.int .u8 5,.int .u8 4] W fun e w'=>e=.returned (.bool true)∧W=w':=by
 skip;go_enter Tryz.func72,Tryz.ntmps72;go_wp2;go_ret;exact ⟨rfl,rfl⟩
theorem mayS_5_x (w:Nat) (hw:w≠2∧w≠3∧w≠4) (W:World):Calls Tryz.prog 72 #[.int .u8 5,.int .u8 (w:Int)] W fun e w'=>e=.returned (.bool false)∧W=w':=by
 have q2:((w:Int)==2)=false:=by rw [beq_eq_false_iff_ne];omega
 have q3:((w:Int)==3)=false:=by rw [beq_eq_false_iff_ne];omega
 have q4:((w:Int)==4)=false:=by rw [beq_eq_false_iff_ne];omega
 clear hw;go_enter Tryz.func72,Tryz.ntmps72;go_wp2;go_ret;exact ⟨rfl,rfl⟩
theorem mayS_4_2 (W:World):Calls Tryz.prog 72 #[.int .u8 4,.int .u8 2] W fun e w'=>e=.returned (.bool false)∧W=w':=by
 skip;go_enter Tryz.func72,Tryz.ntmps72;go_wp2;go_ret;exact ⟨rfl,rfl⟩
theorem mayS_4_3 (W:World):Calls Tryz.prog 72 #[.int .u8 4,.int .u8 3] W fun e w'=>e=.returned (.bool false)∧W=w':=by
 skip;go_enter Tryz.func72,Tryz.ntmps72;go_wp2;go_ret;exact ⟨rfl,rfl⟩
theorem mayS_4_4 (W:World):Calls Tryz.prog 72 #[.int .u8 4,.int .u8 4] W fun e w'=>e=.returned (.bool true)∧W=w':=by
 skip;go_enter Tryz.func72,Tryz.ntmps72;go_wp2;go_ret;exact ⟨rfl,rfl⟩
theorem mayS_4_x (w:Nat) (hw:w≠2∧w≠3∧w≠4) (W:World):Calls Tryz.prog 72 #[.int .u8 4,.int .u8 (w:Int)] W fun e w'=>e=.returned (.bool false)∧W=w':=by
 have q2:((w:Int)==2)=false:=by rw [beq_eq_false_iff_ne];omega
 have q3:((w:Int)==3)=false:=by rw [beq_eq_false_iff_ne];omega
 have q4:((w:Int)==4)=false:=by rw [beq_eq_false_iff_ne];omega
 clear hw;go_enter Tryz.func72,Tryz.ntmps72;go_wp2;go_ret;exact ⟨rfl,rfl⟩
theorem mayS_7_2 (W:World):Calls Tryz.prog 72 #[.int .u8 7,.int .u8 2] W fun e w'=>e=.returned (.bool false)∧W=w':=by
 skip;go_enter Tryz.func72,Tryz.ntmps72;go_wp2;go_ret;exact ⟨rfl,rfl⟩
theorem mayS_7_3 (W:World):Calls Tryz.prog 72 #[.int .u8 7,.int .u8 3] W fun e w'=>e=.returned (.bool false)∧W=w':=by
 skip;go_enter Tryz.func72,Tryz.ntmps72;go_wp2;go_ret;exact ⟨rfl,rfl⟩
theorem mayS_7_4 (W:World):Calls Tryz.prog 72 #[.int .u8 7,.int .u8 4] W fun e w'=>e=.returned (.bool true)∧W=w':=by
 skip;go_enter Tryz.func72,Tryz.ntmps72;go_wp2;go_ret;exact ⟨rfl,rfl⟩
theorem mayS_7_x (w:Nat) (hw:w≠2∧w≠3∧w≠4) (W:World):Calls Tryz.prog 72 #[.int .u8 7,.int .u8 (w:Int)] W fun e w'=>e=.returned (.bool false)∧W=w':=by
 have q2:((w:Int)==2)=false:=by rw [beq_eq_false_iff_ne];omega
 have q3:((w:Int)==3)=false:=by rw [beq_eq_false_iff_ne];omega
 have q4:((w:Int)==4)=false:=by rw [beq_eq_false_iff_ne];omega
 clear hw;go_enter Tryz.func72,Tryz.ntmps72;go_wp2;go_ret;exact ⟨rfl,rfl⟩
theorem mayS_x_2 (k:Nat) (hk:k≠3∧k≠6∧k≠8∧k≠5∧k≠4∧k≠7) (W:World):Calls Tryz.prog 72 #[.int .u8 (k:Int),.int .u8 2] W fun e w'=>e=.returned (.bool true)∧W=w':=by
 have d3:((k:Int)==3)=false:=by rw [beq_eq_false_iff_ne];omega
 have d4:((k:Int)==4)=false:=by rw [beq_eq_false_iff_ne];omega
 have d5:((k:Int)==5)=false:=by rw [beq_eq_false_iff_ne];omega
 have d6:((k:Int)==6)=false:=by rw [beq_eq_false_iff_ne];omega
 have d7:((k:Int)==7)=false:=by rw [beq_eq_false_iff_ne];omega
 have d8:((k:Int)==8)=false:=by rw [beq_eq_false_iff_ne];omega
 clear hk;go_enter Tryz.func72,Tryz.ntmps72;go_wp2;go_ret;exact ⟨rfl,rfl⟩
theorem mayS_x_3 (k:Nat) (hk:k≠3∧k≠6∧k≠8∧k≠5∧k≠4∧k≠7) (W:World):Calls Tryz.prog 72 #[.int .u8 (k:Int),.int .u8 3] W fun e w'=>e=.returned (.bool true)∧W=w':=by
 have d3:((k:Int)==3)=false:=by rw [beq_eq_false_iff_ne];omega
 have d4:((k:Int)==4)=false:=by rw [beq_eq_false_iff_ne];omega
 have d5:((k:Int)==5)=false:=by rw [beq_eq_false_iff_ne];omega
 have d6:((k:Int)==6)=false:=by rw [beq_eq_false_iff_ne];omega
 have d7:((k:Int)==7)=false:=by rw [beq_eq_false_iff_ne];omega
 have d8:((k:Int)==8)=false:=by rw [beq_eq_false_iff_ne];omega
 clear hk;go_enter Tryz.func72,Tryz.ntmps72;go_wp2;go_ret;exact ⟨rfl,rfl⟩
theorem mayS_x_4 (k:Nat) (hk:k≠3∧k≠6∧k≠8∧k≠5∧k≠4∧k≠7) (W:World):Calls Tryz.prog 72 #[.int .u8 (k:Int),.int .u8 4] W fun e w'=>e=.returned (.bool true)∧W=w':=by
 have d3:((k:Int)==3)=false:=by rw [beq_eq_false_iff_ne];omega
 have d4:((k:Int)==4)=false:=by rw [beq_eq_false_iff_ne];omega
 have d5:((k:Int)==5)=false:=by rw [beq_eq_false_iff_ne];omega
 have d6:((k:Int)==6)=false:=by rw [beq_eq_false_iff_ne];omega
 have d7:((k:Int)==7)=false:=by rw [beq_eq_false_iff_ne];omega
 have d8:((k:Int)==8)=false:=by rw [beq_eq_false_iff_ne];omega
 clear hk;go_enter Tryz.func72,Tryz.ntmps72;go_wp2;go_ret;exact ⟨rfl,rfl⟩
theorem mayS_x_x (k:Nat) (hk:k≠3∧k≠6∧k≠8∧k≠5∧k≠4∧k≠7) (w:Nat) (hw:w≠2∧w≠3∧w≠4) (W:World):Calls Tryz.prog 72 #[.int .u8 (k:Int),.int .u8 (w:Int)] W fun e w'=>e=.returned (.bool true)∧W=w':=by
 have d3:((k:Int)==3)=false:=by rw [beq_eq_false_iff_ne];omega
 have d4:((k:Int)==4)=false:=by rw [beq_eq_false_iff_ne];omega
 have d5:((k:Int)==5)=false:=by rw [beq_eq_false_iff_ne];omega
 have d6:((k:Int)==6)=false:=by rw [beq_eq_false_iff_ne];omega
 have d7:((k:Int)==7)=false:=by rw [beq_eq_false_iff_ne];omega
 have d8:((k:Int)==8)=false:=by rw [beq_eq_false_iff_ne];omega
 have q2:((w:Int)==2)=false:=by rw [beq_eq_false_iff_ne];omega
 have q3:((w:Int)==3)=false:=by rw [beq_eq_false_iff_ne];omega
 have q4:((w:Int)==4)=false:=by rw [beq_eq_false_iff_ne];omega
 clear hk hw;go_enter Tryz.func72,Tryz.ntmps72;go_wp2;go_ret;exact ⟨rfl,rfl⟩
theorem zcJ (k w:Nat) (W:World):Calls Tryz.prog 72 #[.int .u8 (k:Int),.int .u8 (w:Int)] W fun e w'=>e=.returned (.bool (mayS k w))∧W=w':=by
 have hk:k=3∨k=6∨k=8∨k=5∨k=4∨k=7∨(k≠3∧k≠6∧k≠8∧k≠5∧k≠4∧k≠7):=by omega
 have hw:w=2∨w=3∨w=4∨(w≠2∧w≠3∧w≠4):=by omega
 rcases hk with rfl|rfl|rfl|rfl|rfl|rfl|hk
 ·rcases hw with rfl|rfl|rfl|hw
  ·exact mayS_3_2 W
  ·exact mayS_3_3 W
  ·exact mayS_3_4 W
  ·rw [show mayS 3 w=false by simp [mayS,hw]];exact mayS_3_x w hw W
 ·rcases hw with rfl|rfl|rfl|hw
  ·exact mayS_6_2 W
  ·exact mayS_6_3 W
  ·exact mayS_6_4 W
  ·rw [show mayS 6 w=false by simp [mayS,hw]];exact mayS_6_x w hw W
 ·rcases hw with rfl|rfl|rfl|hw
  ·exact mayS_8_2 W
  ·exact mayS_8_3 W
  ·exact mayS_8_4 W
  ·rw [show mayS 8 w=false by simp [mayS,hw]];exact mayS_8_x w hw W
 ·rcases hw with rfl|rfl|rfl|hw
  ·exact mayS_5_2 W
  ·exact mayS_5_3 W
  ·exact mayS_5_4 W
  ·rw [show mayS 5 w=false by simp [mayS,hw]];exact mayS_5_x w hw W
 ·rcases hw with rfl|rfl|rfl|hw
  ·exact mayS_4_2 W
  ·exact mayS_4_3 W
  ·exact mayS_4_4 W
  ·rw [show mayS 4 w=false by simp [mayS,hw]];exact mayS_4_x w hw W
 ·rcases hw with rfl|rfl|rfl|hw
  ·exact mayS_7_2 W
  ·exact mayS_7_3 W
  ·exact mayS_7_4 W
  ·rw [show mayS 7 w=false by simp [mayS,hw]];exact mayS_7_x w hw W
 ·rcases hw with rfl|rfl|rfl|hw
  ·rw [show mayS k 2=true by simp [mayS,hk]];exact mayS_x_2 k hk W
  ·rw [show mayS k 3=true by simp [mayS,hk]];exact mayS_x_3 k hk W
  ·rw [show mayS k 4=true by simp [mayS,hk]];exact mayS_x_4 k hk W
  ·rw [show mayS k w=true by simp [mayS,hk]];exact mayS_x_x k hk w hw W
set_option maxHeartbeats 1000000 in
theorem ceach_any {c:Nat} {i:Int} {w:World} (h:w.cell? ⟨c,4,none⟩=some (.int .i64 i)) (v:Value) (ks:List Nat) (hv:SeesC w v ks.length 1 (ks.map fun (k:Nat)=>Value.int .u8 (k:Int))) (hl:ks.length≤1000) (one:Nat) :
  Calls Tryz.prog 113 #[.pointer (some ⟨c,0,none⟩),v,.int .u8 (one:Int)] w fun e w'=>MPost i (allK one ks) e∧w=w':=by
 obtain ⟨_,a,cap,rfl,hc⟩:=hv;obtain ⟨n,hn⟩:∃ n,ks.length=n:=⟨_,rfl⟩;have HC:=hidI hc;have HN:=hidI hn;have H:=hidI h;rw [hn] at hl ⊢;clear hc hn;have HOk:=hidI (zcS (.pointer (some ⟨c,0,none⟩)) w);have HBad:=hidI (zbV h);clear h;obtain ⟨R,hR⟩:∃ R,allK one ks=R:=⟨_,rfl⟩;rw [hR];have HR:=hidI hR;clear hR;go_enter Tryz.func113,Tryz.ntmps113;go_wp2
 go_loopg [10] n (fun g s10 wx=>∃ j:Nat,j+g=n∧s10=.int .i64 (j:Int)∧Hid (allK one (ks.drop j)=R)∧w=wx)
 case atStart=>exact ⟨0,by omega,rfl,hidI (by simpa using HR.out),rfl⟩
 case round=>
  obtain ⟨j,hj,rfl,HX,rfl⟩:=hrel;cases gk with
  | zero=>
   obtain rfl:n=j:=by omega
   have k1:decide ((n:Int)<(n:Int))=false:=by simp
   have hX:=HX.out;rw [List.drop_eq_nil_of_le (by have:=HN.out;omega)] at hX;have hRt:R=true:=hX.symm;subst hRt;clear hX HX HR;go_wp2;go_end0;exact ⟨rfl,rfl⟩
  | succ g=>
   have k1:(j:Int)<(n:Int):=by omega
   obtain ⟨x,hx⟩:∃ x,ks[j]?=some x:=⟨_,List.getElem?_eq_getElem (by have:=HN.out;omega)⟩;obtain ⟨b,off,rfl,hcell⟩:∃ b off,a=some ⟨b,off,none⟩∧∀ (q:Nat) (z:Value),(ks.map fun (k:Nat)=>Value.int .u8 (k:Int))[q]?=some z→w.cell? ⟨b,off+q,none⟩=some z:=by
    rcases HC.out with h|h
    ·have:=HN.out;omega
    ·exact h
   have hx0:=hcell j (.int .u8 (x:Int)) (by rw [List.getElem?_map,hx];rfl);have hX:=HX.out;rw [List.drop_eq_getElem_cons (by have:=HN.out;omega),show ks[j]'(by have:=HN.out;omega)=x from Option.some.inj ((List.getElem?_eq_getElem _).symm.trans hx)] at hX;simp only [allK,List.all_cons] at hX;by_cases hxo:x=one
   ·have e1:((x:Int)==(one:Int))=true:=by rw [natU];simpa using hxo
    rw [decide_eq_true hxo,Bool.true_and] at hX;have HXX:=hidI hX;clear hX HX hcell hx hxo
    go_wp2_with (go_at_call 71;refine Calls.mono HOk.out ?_;intro e w2 h2;obtain ⟨rfl,rfl⟩:=h2)
    go_roundg g
    case measure=>omega
    case rel=>exact ⟨j+1,by omega,by go_num,HXX,rfl⟩
   ·have e1:((x:Int)==(one:Int))=false:=by rw [natU];simpa using hxo
    rw [decide_eq_false hxo,Bool.false_and] at hX;have hRf:R=false:=hX.symm;subst hRf;clear hX HX hcell hx hxo HR
    go_wp2_with (go_at_call 71;refine Calls.mono HBad.out ?_;intro e w2 h2;obtain ⟨rfl,rfl⟩:=h2)
    exact ⟨rfl,rfl,rfl⟩
def ROpt (i:Int):Option Nat→Ending→Prop
 | some k,e=>e=.returned (.int .u8 (k:Int))
 | none,e=>e=.panicked (misF i)
set_option maxHeartbeats 1000000 in
theorem zeV {c:Nat} {i:Int} {p:PV} {w:World} (h:TyS c i p w) (hl:p.ds.length≤24) (nm:ByteArray) (sd:Nat) :
  Calls Tryz.prog 73 #[.pointer (some ⟨c,0,none⟩),.string nm,.int .u8 (sd:Int)] w fun e w'=>ROpt i (declK p.ds nm sd) e∧Below w.heap.size w w':=by
 have h0:=h.c0;have h4:=h.c4;have C:=hidI (kindOf_any w p.dv p.ds h.s.d (by omega) nm sd);obtain ⟨_,a,cap,hd,_⟩:=id h.s.d;rw [hd] at h0 C;have H4:=hidI h4;obtain ⟨k,hk⟩:∃ k,kindD nm sd p.ds=k:=⟨_,rfl⟩;have HD:Hid (declK p.ds nm sd=if k=0 then none else some k):=hidI (by unfold declK;rw [hk]);rw [hk] at C;rw [HD.out];have HOk:=hidI (zcS (.pointer (some ⟨c,0,none⟩)));clear h hd h4 hl hk HD;by_cases hk0:k=0
 ·subst hk0;go_enter Tryz.func73,Tryz.ntmps73
  go_wp2_with (first
   | (go_at_call 112;refine Calls.mono C.out ?_;intro e w1 h1;obtain ⟨rfl,hb1⟩:=h1;clear C;have HB:=hidI hb1;have CM:=hidI (zbV (zaJ hb1 H4.out));clear hb1)
   | (go_at_call 71;refine Calls.mono CM.out ?_;intro e w2 h2;obtain ⟨rfl,rfl⟩:=h2;clear CM))
  exact ⟨rfl,rfl,HB.out⟩
 ·have e1:((k:Int)==0)=false:=by rw [beq_eq_false_iff_ne];omega
  have e2:((k:Int) != 0)=true:=by rw [bne,e1];rfl
  rw [if_neg hk0];go_enter Tryz.func73,Tryz.ntmps73
  go_wp2_with (first
   | (go_at_call 112;refine Calls.mono C.out ?_;intro e w1 h1;obtain ⟨rfl,hb1⟩:=h1;clear C;have HB:=hidI hb1;clear hb1)
   | (go_at_call 71;refine Calls.mono (HOk.out _) ?_;intro e w2 h2;obtain ⟨rfl,rfl⟩:=h2;clear HOk))
  go_ret;exact ⟨rfl,HB.out⟩
end Go.Proofs.YtfljimpgnlfipaaGreatDoor
