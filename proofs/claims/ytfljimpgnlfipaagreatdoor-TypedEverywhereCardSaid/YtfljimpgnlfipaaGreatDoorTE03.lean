/-
  Part 3 of the proof: RowsP, Seqs, Reg8, AddT, AddK, Reg5, Toks, RToks, Range, PFun, Reg11, Reg9, Take, EndW, Catch, ReadW, PParse, Forms, PMem, RegX, RegY, PBrk, PFit, RegZ, PLook, RdB, PEach, PTake, PTake2, PCont, PAdd.
-/
import Derived.Test.YtfljimpgnlfipaaGreatDoorTE02
import Derived.Maps.AppendAt
import Derived.Lib.SmallJoins
import Derived.WalkSpells
import Derived.WalkLawsBesides
import Derived.Deep.LoopGhost
import Derived.Lib.SliceRun
import Derived.Deep.RegionHeldLaw
import Derived.Deep.AppendLies
import Derived.Deep.RegionHeld3
import Derived.Test.YtfljimpgnlfipaaGreatDoorTE01
import Derived.Test.YtfljimpgnlfipaaGreatDoorTE00
import Derived.Laws.MakeOwn
import Derived.OneCell
import Derived.Laws.ResultCell
import Derived.Tactics
import Derived.Tactics2
import Derived.Defers
import Derived.Recover
import Derived.Laws.Pointers
namespace Go.Proofs.YtfljimpgnlfipaaGreatDoor
open Go.RowKit Go.Deep Go.MapKept
structure RowsP (w:World) (base:Nat) (l:List Rw):Prop where
 own:∀ r∈l,Own w base r
 apart:l.Pairwise (fun a b=>Ap a.v b.v)
theorem RowsP.perm {w:World} {base:Nat} {l m:List Rw} (h:RowsP w base l) (p:l.Perm m):RowsP w base m:=
 ⟨fun r hr=>h.own r (p.mem_iff.2 hr),(List.Perm.pairwise_iff (fun {_ _} h=>Ap.symm h) p).1 h.apart⟩
theorem RowsP.head {w:World} {base:Nat} {r:Rw} {l:List Rw} (h:RowsP w base (r::l)):w.ownsRow base r.e r.size r.v r.n r.xs:=h.own r (List.mem_cons_self)
theorem RowsP.rest {w:World} {base:Nat} {r:Rw} {l:List Rw} (h:RowsP w base (r::l)):RowsP w base l:=⟨fun x hx=>h.own x (List.mem_cons_of_mem _ hx),(List.pairwise_cons.1 h.apart).2⟩
theorem RowsP.far_head {w:World} {base:Nat} {r:Rw} {l:List Rw} (h:RowsP w base (r::l)):∀ x∈l,Ap r.v x.v:=(List.pairwise_cons.1 h.apart).1
theorem RowsP.lt {w:World} {base:Nat} {l:List Rw} (h:RowsP w base l) {r:Rw} (hr:r∈l) {k:Nat} (hk:r.v.ownBlock=some k):base≤k∧k<w.heap.size:=(h.own r hr).lt k hk
theorem RowsP.far {w w':World} {base:Nat} {l:List Rw} (h:RowsP w base l) {row:Option Nat} (hg:w.grownBy w' row) (hne:∀ r∈l,r.v.ownBlock=none∨r.v.ownBlock≠row):RowsP w' base l:=
 ⟨fun r hr=>(h.own r hr).kept hg (hne r hr),h.apart⟩
theorem RowsP.alloc {w:World} {base:Nat} {l:List Rw} (h:RowsP w base l) (o:Obj):RowsP (w.alloc o) base l:=⟨fun r hr=>World.ownsRow.alloc (h.own r hr) o,h.apart⟩
theorem RowsP.drew {w:World} {base:Nat} {l:List Rw} (h:RowsP w base l):RowsP w.drew base l:=⟨fun r hr=>owns_drew (h.own r hr),h.apart⟩
theorem RowsP.below {w w':World} {base:Nat} {l:List Rw} (h:RowsP w base l) (hb:Below w.heap.size w w'):RowsP w' base l:=⟨fun r hr=>zcN (h.own r hr) hb (Nat.le_refl _),h.apart⟩
theorem RowsP.put {w w':World} {base:Nat} {r r':Rw} {l:List Rw} (h:RowsP w base (r::l)) (hg:w.grownBy w' r.v.ownBlock) (ho:Own w' base r') (hb:r'.v.ownBlock=none∨r'.v.ownBlock=r.v.ownBlock∨r'.v.ownBlock=some w.heap.size):RowsP w' base (r'::l):=by
 have hap:∀ x∈l,Ap r'.v x.v:=by
  intro x hx;rcases hb with e|e|e
  ·exact .inl e
  ·have:=h.far_head x hx;unfold Ap at this ⊢;rw [e];exact this
  ·refine .inr ?_;rw [e];intro hk;have:=(h.lt (List.mem_cons_of_mem _ hx) hk.symm).2;omega
 constructor
 ·intro x hx;rcases List.mem_cons.1 hx with rfl|hx
  ·exact ho
  ·exact (h.own x (List.mem_cons_of_mem _ hx)).kept hg (Ap.symm (h.far_head x hx))
 ·exact List.pairwise_cons.2 ⟨hap,h.rest.apart⟩
theorem RowsP.setc {w:World} {base:Nat} {r:Rw} {l:List Rw} (h:RowsP w base (r::l)) {g cap j:Nat} (hv:r.v=.slice (some ⟨g,0,none⟩) r.n cap) (u:Value):RowsP (w.setCell ⟨g,j,none⟩ u) base ({ r with xs:=r.xs.set j u }::l):=by
 have ho:=h.head;refine h.put (by rw [hv];exact grown_set w g j u) ?_ (.inr (.inl rfl));unfold Own;show (w.setCell ⟨g,j,none⟩ u).ownsRow base r.e r.size r.v r.n (r.xs.set j u);rw [hv] at ho ⊢;exact own_setG ho u
theorem RowsP.nil {w:World} {base:Nat} {l:List Rw} (h:RowsP w base l) (e size:Nat):RowsP w base (⟨.slice none 0 0,e,size,0,[]⟩::l):=
 ⟨fun r hr=>by
  rcases List.mem_cons.1 hr with rfl|hr
  ·exact World.ownsRow_nil _ _ _ _
  ·exact h.own r hr,List.pairwise_cons.2 ⟨fun _ _=>.inl rfl,h.apart⟩⟩
theorem RowsP.add {w w':World} {base:Nat} {l:List Rw} (h:RowsP w base l) {r:Rw} (hl:RowsP w' base l) (ho:Own w' base r) (hb:∀ k,r.v.ownBlock=some k→w.heap.size≤k):RowsP w' base (r::l):=
 ⟨fun x hx=>by
  rcases List.mem_cons.1 hx with rfl|hx
  ·exact ho
  ·exact hl.own x hx,List.pairwise_cons.2 ⟨fun x hx=>by
   cases hk:r.v.ownBlock with
   | none=>exact .inl hk
   | some k=>
    refine .inr ?_;rw [hk];intro e;have:=(h.lt hx e.symm).2;have:=hb k hk;omega,hl.apart⟩⟩
theorem RowsP.sub {w:World} {base:Nat} {l m:List Rw} (h:RowsP w base l) (hs:m.Sublist l):RowsP w base m:=⟨fun r hr=>h.own r (hs.mem hr),h.apart.sublist hs⟩
theorem zaA {w:World} {base B e size n:Nat} {xs:List Value} {j:Nat} {u:Value} (h:w.ownsRow base e size (bx B) n xs) (hj:xs[j]?=some u):w.cell? ⟨B,j,none⟩=some u:=by
 have:=World.ownsRow.cells h (g:=B) rfl j u hj;rwa [show (⟨B,0,none⟩:Addr).add j=⟨B,0+j,none⟩ from Addr.add_lit ..,Nat.zero_add] at this
theorem zcT {w:World} {base B e size:Nat} {xs:List Value} (h:w.ownsRow base e size (bx B) 1 xs) (j:Nat):w.frozen? ⟨B,j,none⟩=false:=own_free h j
theorem box_new (w:World) (base e size:Nat) (xs:Array Value) (hb:base≤w.heap.size) (hs:xs.size=size):(w.alloc (.cells xs e)).ownsRow base e size (bx w.heap.size) 1 xs.toList:=by
 refine ⟨by simp [hs],.inr ⟨w.heap.size,1,xs,rfl,hb,(MapKept.heap_alloc w _).1,Nat.le_refl _,?_,?_,?_⟩⟩;all_goals first|decide|omega|(rw [List.take_of_length_le (by simp [hs])])
open Go.RowKit Go.Shelf
attribute [local go_sem] Oper.semAt_some
theorem zcH {W:World} {p:Addr} {v:Value} (o:Obj) (h:W.cell? p=some v):(W.alloc o).cell? p=some v:=
 (((Below.refl _ W).alloc (Nat.le_refl _) o).cell (World.block_lt_of_cell? W _ h)).trans h
open Go.RowKit Go.Deep Go.MapKept
theorem Tryz.info97x:(Tryz.prog.info? 97).map (fun i=>(i.zero,i.size,i.bytes))=some (some (.agg #[.int .u8 0,.string ⟨#[]⟩,.int .i64 0,.slice none 0 0,.int .i64 0]),5,64):=by kernel_rfl
theorem form_seen {W:World} (f:Frm):SeesC (W.alloc (.cells #[.int .u8 f.k,.string f.s,.int .i64 f.n,.slice none 0 0,.int .i64 f.p] 97)) (.slice (some ⟨W.heap.size,0,none⟩) 1 1) 1 5 (fcells (f,.slice none 0 0)):=by
 refine ⟨rfl,_,1,rfl,.inr ⟨W.heap.size,0,rfl,fun j c hc => ?_⟩⟩;have hj:j<5:=by have:=(List.getElem?_eq_some_iff.1 hc).1;simpa [fcells] using this
 have hm:j=0∨j=1∨j=2∨j=3∨j=4:=by omega
 rcases hm with rfl|rfl|rfl|rfl|rfl<;>simp only [fcells,List.getElem?_cons_zero,List.getElem?_cons_succ,Option.some.injEq] at hc<;>subst hc<;>go_simp
theorem zdV (f:Frm):∀ c∈fcells (f,.slice none 0 0),c.oneCell'=true:=by
 intro c hc;simp only [fcells,List.mem_cons,List.mem_nil_iff,or_false] at hc;rcases hc with rfl|rfl|rfl|rfl|rfl<;>rfl
open Go.RowKit Go.Deep Go.MapKept
theorem Tryz.info3x:(Tryz.prog.info? 3).map (fun i=>(i.zero,i.size,i.bytes))=some (some (.int .i64 0),1,8):=by kernel_rfl
theorem int_seen {W:World} (x:Int):SeesC (W.alloc (.cells #[.int .i64 x] 3)) (.slice (some ⟨W.heap.size,0,none⟩) 1 1) 1 1 [.int .i64 x]:=by
 refine ⟨rfl,_,1,rfl,.inr ⟨W.heap.size,0,rfl,fun j c hc => ?_⟩⟩;have hj:j<1:=by have:=(List.getElem?_eq_some_iff.1 hc).1;simpa using this
 obtain rfl:j=0:=by omega
 simp only [List.getElem?_cons_zero,Option.some.injEq] at hc;subst hc;go_simp
theorem int_at {W:World} {b:Nat} (x:Int) (h:b=W.heap.size):SeesC (W.alloc (.cells #[.int .i64 x] 3)) (.slice (some ⟨b,0,none⟩) 1 1) 1 1 [.int .i64 x]:=by subst h;exact int_seen x
open Go.RowKit Go.Deep Go.MapKept
section
variable {w : World} {base B : Nat} {fs : List FV} {top opn : List Nat} {fv tv ov : Value}
theorem addF_last {fs:List FV} {top opn:List Nat} {b:Nat} {x:FV} {kv kv2:Value} (f:Frm) (hb:opn.getLast?=some b) (hx:fs[b]?=some x) :
  addF f ⟨fs.map Prod.fst,top,opn⟩=⟨(fs.set b (addKid fs.length x.1,kv)++[(f,kv2)]).map Prod.fst,top,opn⟩:=by
 unfold addF;rw [hb];simp only [List.map_append,List.map_cons,List.map_nil,List.length_map,St.mk.injEq,and_true,List.append_cancel_right_eq];apply List.ext_getElem?;intro i;rw [List.getElem?_modify,List.map_set,List.getElem?_set,List.getElem?_map,List.length_map];have hbl:b<fs.length:=(List.getElem?_eq_some_iff.1 hx).1;by_cases hi:b=i
 ·subst hi;obtain ⟨_,rfl⟩:=List.getElem?_eq_some_iff.1 hx;simp [hbl]
 ·simp [hi]
end
end Go.Proofs.YtfljimpgnlfipaaGreatDoor

namespace Go.Proofs.YtfljimpgnlfipaaGreatDoor
open Go.RowKit Go.Deep Go.MapKept
def bytesOf (t:Txt):ByteArray:=⟨t.toArray⟩
noncomputable def kindP (l:Txt):Int:=if l=[40] then 1 else if l=[41] then 2 else kindW (bytesOf l)
noncomputable def numP (l:Txt):Int:=if kindP l=4 then numV (bytesOf l) else 0
noncomputable def tok (q:Piece):Tok:=⟨kindP q.2,bytesOf q.2,numP q.2,(q.1:Int)⟩
noncomputable def bad:Nat→List Piece→Option (Int × Int)
 | _,[]=>none
 | c,q::r=>if kindP q.2=0 then some ((q.1:Int),8) else if c=600 then some ((q.1:Int),4) else bad (c+1) r
noncomputable def lexRes (s:ByteArray):List Tok × Int × Int:=
 if 3000<s.size then ([],0,4) else match bad 0 (pieces s.data.toList) with
  | some pe=>([],pe)
  | none=>((pieces s.data.toList).map tok,0,0)
theorem run_end {t:Txt} {p b:Nat} {r:Txt} (h:r=[]∨∃ c r',r=c::r'∧ends c=true):run t p (some b) false r=(b,(t.drop b).take (p-b))::run t p none false r:=by
 rcases h with rfl|⟨c,r',rfl,hc⟩
 ·simp [run,word]
 ·unfold ends at hc;simp only [run,word];by_cases h59:c=59
  ·simp [h59]
  ·by_cases hb:bracket c=true
   ·simp [h59,hb]
   ·have hsp:spaced c=true:=by simpa [h59,hb] using hc
    simp [h59,hb,hsp]
theorem run_word {t:Txt} {p:Nat} {b:Option Nat} {c:UInt8} {r:Txt} (h:ends c=false):run t p b false (c::r)=run t (p+1) (some (b.getD p)) false r:=by
 unfold ends at h;simp only [Bool.or_eq_false_iff,beq_eq_false_iff_ne] at h;simp [run,h.2,h.1.1,h.1.2]
theorem run_space {t:Txt} {p:Nat} {c:UInt8} {r:Txt} (h:spaced c=true):run t p none false (c::r)=run t (p+1) none false r:=by
 have h59:c≠59:=fun e=>by subst e;revert h;decide
 have hb:bracket c=false:=by
  unfold spaced at h;simp only [Bool.or_eq_true,beq_iff_eq] at h;rcases h with (rfl|rfl)|rfl<;>decide
 simp [run,word,h59,hb,h]
theorem run_bracket {t:Txt} {p:Nat} {c:UInt8} {r:Txt} (h:bracket c=true):run t p none false (c::r)=(p,[c])::run t (p+1) none false r:=by
 have h59:c≠59:=fun e=>by subst e;revert h;decide
 simp [run,word,h59,h]
theorem run_mark {t:Txt} {p:Nat} {r:Txt}:run t p none false (59::r)=run t p none true (59::r):=by simp [run,word]
theorem run_in {t:Txt} {p:Nat} {c:UInt8} {r:Txt} (h:c≠10):run t p none true (c::r)=run t (p+1) none true r:=by simp [run,h]
theorem run_out {t:Txt} {p:Nat} {r:Txt} (h:r=[]∨∃ r',r=10::r'):run t p none true r=run t p none false r:=by
 rcases h with rfl|⟨r',rfl⟩
 ·simp [run]
 ·rw [run_space (by decide)];simp [run]
def spI (c:Int):Bool:=c==32 || c==9 || c==10
def endI (c:Int):Bool:=spI c || c==40 || c==41 || c==59
theorem u8_eq (c:UInt8) (n:Nat) (hn:n<256):((c.toNat:Int)==(n:Int))=(c==UInt8.ofNat n):=by
 rw [Bool.eq_iff_iff];simp only [beq_iff_eq];constructor
 ·intro h;have h':c.toNat=n:=by omega
  apply UInt8.toNat_inj.1;rw [h',UInt8.toNat_ofNat'];omega
 ·intro h;rw [h,UInt8.toNat_ofNat'];omega
theorem spI_eq (c:UInt8):spI (c.toNat:Int)=spaced c:=by
 unfold spI spaced;have h1:((c.toNat:Int)==32)=(c==32):=u8_eq c 32 (by decide);have h2:((c.toNat:Int)==9)=(c==9):=u8_eq c 9 (by decide);have h3:((c.toNat:Int)==10)=(c==10):=u8_eq c 10 (by decide);rw [h1,h2,h3]
theorem endI_eq (c:UInt8):endI (c.toNat:Int)=ends c:=by
 unfold endI ends bracket;have h1:((c.toNat:Int)==40)=(c==40):=u8_eq c 40 (by decide);have h2:((c.toNat:Int)==41)=(c==41):=u8_eq c 41 (by decide);have h3:((c.toNat:Int)==59)=(c==59):=u8_eq c 59 (by decide);rw [spI_eq,h1,h2,h3];simp only [Bool.or_assoc]
open Go.RowKit Go.Deep Go.MapKept
theorem slice_at (s:ByteArray) (i m:Nat) (h:i+m≤s.size) (w:World):(Instr.slice 9 (.string s) (some (.int .i64 (i:Int))) (some (.int .i64 ((i:Int)+(m:Int)))) none).run Tryz.prog w=.ok (.string (bytesOf ((s.data.toList.drop i).take m))) w:=by
 rw [run_slice_string w 9 s .i64 .i64 _ _ Tryz.underlying9 (by omega) (by omega) (by omega)];congr 2;apply ByteArray.ext;simp only [bytesOf,ByteArray.data_extract];apply Array.toList_inj.1;rw [Array.toList_extract,List.extract_eq_take_drop];rw [show ((i:Int)+(m:Int)).toNat-((i:Int)).toNat=m by omega,Int.toNat_natCast]
theorem tok_at {W:World} {b:Nat} (x:Tok) (h:b=W.heap.size):SeesC (W.alloc (.cells #[.int .u8 x.k,.string x.s,.int .i64 x.n,.int .i64 x.p] 92)) (.slice (some ⟨b,0,none⟩) 1 1) 1 4 x.cells:=by subst h;exact tok_seen x
theorem tok_cells0 (wr:World) (i:Int):(wr.alloc (.cells #[.int .u8 0,.string ⟨#[]⟩,.int .i64 0,.int .i64 i] 92)).cell? ⟨wr.heap.size,0,none⟩=some (.int .u8 0)∧(wr.alloc (.cells #[.int .u8 0,.string ⟨#[]⟩,.int .i64 0,.int .i64 i] 92)).cell? ⟨wr.heap.size,1,none⟩=some (.string ⟨#[]⟩)∧(wr.alloc (.cells #[.int .u8 0,.string ⟨#[]⟩,.int .i64 0,.int .i64 i] 92)).cell? ⟨wr.heap.size,2,none⟩=some (.int .i64 0)∧(wr.alloc (.cells #[.int .u8 0,.string ⟨#[]⟩,.int .i64 0,.int .i64 i] 92)).cell? ⟨wr.heap.size,3,none⟩=some (.int .i64 i):=by
 refine ⟨?_,?_,?_,?_⟩<;>go_simp
theorem tok_free (wr:World) (i:Int) (k:Nat):(wr.alloc (.cells #[.int .u8 0,.string ⟨#[]⟩,.int .i64 0,.int .i64 i] 92)).frozen? ⟨wr.heap.size,k,none⟩=false:=by go_simp
theorem bytes_size (t:Txt):(bytesOf t).size=t.length:=by
 unfold bytesOf ByteArray.size;exact List.size_toArray
theorem kind_cases (s:ByteArray):kindW s=0∨kindW s=3∨kindW s=4:=by
 unfold kindW;split
 ·exact .inr (.inr rfl)
 ·split
  ·exact .inr (.inl rfl)
  ·exact .inl rfl
theorem num_ok {s:ByteArray} (h:kindW s=4):numE s=0:=by
 unfold kindW at h;unfold numE;split at h
 ·rename_i hn
  rw [if_pos hn]
 ·split at h<;>exact absurd h (by decide)
theorem kind_word {l:Txt} {c:UInt8} {r:Txt} {m:Nat} (h:l=c::r) (h1:1≤m) (h40:c≠40) (h41:c≠41):kindP (l.take m)=kindW (bytesOf (l.take m)):=by
 subst h;obtain ⟨k,rfl⟩:∃ k,m=k+1:=⟨m-1,by omega⟩;unfold kindP;rw [List.take_succ_cons,if_neg (by intro e;exact h40 (List.cons.inj e).1),if_neg (by intro e;exact h41 (List.cons.inj e).1)]
def TInv (s:ByteArray) (w:World) (i:Nat) (D:List Piece) (v:Value) (wx:World):Prop:=
 wx.ownsRow w.heap.size 92 4 v D.length (flatT (D.map tok))∧Below w.heap.size w wx∧pieces s.data.toList=D++run s.data.toList i none false (s.data.toList.drop i)∧
 bad 0 (pieces s.data.toList)=bad D.length (run s.data.toList i none false (s.data.toList.drop i))∧D.length≤600
theorem TInv.zero (s:ByteArray) (w:World):TInv s w 0 [] (.slice none 0 0) w:=by
 refine ⟨?_,Below.refl _ _,by simp [pieces],by simp [pieces],by simp⟩;exact ⟨rfl,.inl ⟨rfl,rfl⟩⟩
theorem TInv.move {s:ByteArray} {w:World} {i j:Nat} {D:List Piece} {v:Value} {wx:World} (h:TInv s w i D v wx) (e:run s.data.toList i none false (s.data.toList.drop i)=run s.data.toList j none false (s.data.toList.drop j)):TInv s w j D v wx:=by
 obtain ⟨h1,h2,h3,h4,h5⟩:=h;exact ⟨h1,h2,by rw [←e];exact h3,by rw [←e];exact h4,h5⟩
theorem sign_byte (s:ByteArray) (i:Nat) (h:i<s.size):sign s i=((s.get! i).toNat:Int):=by
 rw [sign_get s i h];congr 2;simp [ByteArray.get!,getElem!_pos,h];rfl
def RTPost (s:ByteArray) (w:World) (e:Value) (w':World):Prop:=
 ∃ v,e=.tuple #[v,.int .i64 (lexRes s).2.1,.int .i64 (lexRes s).2.2]∧SeesC w' v (lexRes s).1.length 4 (flatT (lexRes s).1)∧Below w.heap.size w w'
theorem TInv.done {s:ByteArray} {w:World} {D:List Piece} {v:Value} {wx:World} (hn:s.size≤3000) (h:TInv s w s.size D v wx):RTPost s w (.tuple #[v,.int .i64 0,.int .i64 0]) wx:=by
 obtain ⟨h1,h2,h3,h4,h5⟩:=h;have hd:s.data.toList.drop s.size=[]:=by
  apply List.drop_eq_nil_of_le;rw [Array.length_toList];exact Nat.le_refl _
 rw [hd] at h3 h4;simp only [run,word,List.append_nil,bad] at h3 h4;have hl:lexRes s=(D.map tok,0,0):=by
  unfold lexRes;rw [if_neg (by omega),h4,h3]
 refine ⟨v,by rw [hl],?_,h2⟩;rw [hl];have:=zbD h1;simpa using this
theorem zeH {s:ByteArray} {w:World} {i m:Nat} {D:List Piece} {v:Value} {wx:World} {r:List Piece} (hn:s.size≤3000) (h:TInv s w i D v wx) (e:run s.data.toList i none false (s.data.toList.drop i)=(i,(s.data.toList.drop i).take m)::r)
  {p:Int} (hp:kindP ((s.data.toList.drop i).take m)=0∧p=8∨kindP ((s.data.toList.drop i).take m)≠0∧D.length=600∧p=4) {w':World} (hb:Below w.heap.size w w'):RTPost s w (.tuple #[.slice none 0 0,.int .i64 i,.int .i64 p]) w':=by
 obtain ⟨h1,h2,h3,h4,h5⟩:=h;rw [e] at h4;have hl:lexRes s=([],(i:Int),p):=by
  unfold lexRes;rw [if_neg (by omega),h4];rcases hp with ⟨hk,rfl⟩|⟨hk,h6,rfl⟩
  ·simp [bad,hk]
  ·simp [bad,hk,h6]
 refine ⟨_,by rw [hl],?_,hb⟩;rw [hl];exact ⟨rfl,none,0,rfl,.inl rfl⟩
theorem TInv.more {s:ByteArray} {w:World} {i m:Nat} {D:List Piece} {v:Value} {wx:World} (h:TInv s w i D v wx) (e:run s.data.toList i none false (s.data.toList.drop i)=(i,(s.data.toList.drop i).take m)::run s.data.toList (i+m) none false (s.data.toList.drop (i+m)))
  (hk:kindP ((s.data.toList.drop i).take m)≠0) (hD:D.length<600) {v':Value} {w':World} (ho:w'.ownsRow w.heap.size 92 4 v' (D.length+1) (flatT (D.map tok)++(tok (i,(s.data.toList.drop i).take m)).cells)) (hb:Below w.heap.size w w') :
  TInv s w (i+m) (D++[(i,(s.data.toList.drop i).take m)]) v' w':=by
 obtain ⟨h1,h2,h3,h4,h5⟩:=h;refine ⟨?_,hb,?_,?_,?_⟩
 ·rw [List.length_append,List.map_append,flatT_append,List.map_singleton,flatT_one];exact ho
 ·rw [h3,e];simp
 ·rw [h4,e];simp [bad,hk,Nat.ne_of_lt hD]
 ·simp;omega
end Go.Proofs.YtfljimpgnlfipaaGreatDoor

namespace Go.Proofs.YtfljimpgnlfipaaGreatDoor
open Go.RowKit Go.Deep Go.MapKept
theorem clone_any (s:ByteArray) (hs:s.size≤140737488355328) (w:World):Calls Tryz.prog 41 #[.string s] w fun e w'=>e=.returned (.string s)∧Below w.heap.size w w':=by
 have C:=hidI (fun w=>Any.stringslite_Clone Tryz.laysM316 s w (by omega));go_enter Tryz.func41,Tryz.ntmps41
 go_wp2_with (go_at_call 86;refine Calls.mono (C.out _) ?_;rintro e w' ⟨rfl,hb⟩;have HB:=hidI hb;clear hb)
 go_ret;exact ⟨rfl,HB.out⟩
end Go.Proofs.YtfljimpgnlfipaaGreatDoor





namespace Go.Proofs.YtfljimpgnlfipaaGreatDoor
open Go.RowKit Go.Deep Go.MapKept
def ReadOk (w:World) (σ:St) (e:Ending) (w':World):Prop:=
 ∃ fs top opn fv tv ov,e=.returned (.tuple #[.agg #[fv,tv,ov],.agg #[.int .i64 0,.int .i64 0]])∧RD w' w.heap.size w.heap.size fs top opn fv tv ov∧σ=⟨fs.map Prod.fst,top,opn⟩∧Below w.heap.size w w'
def IsSl (v:Value):Prop:=∃ a n c,v=.slice a n c
def ReadRes (w:World) (r:Except (Int × Int) St) (e:Ending) (w':World):Prop:=
 match r with
 | .error q=>∃ fv tv ov,IsSl fv∧IsSl tv∧IsSl ov∧e=.returned (.tuple #[.agg #[fv,tv,ov],.agg #[.int .i64 q.1,.int .i64 q.2]])∧Below w.heap.size w w'
 | .ok σ=>ReadOk w σ e w'
theorem steps_append (a b:List Tok):∀ (σ:St),steps (a++b) σ=(match steps a σ with|.error e=>.error e|.ok σ'=>steps b σ':Except (Int × Int) St):=by
 induction a with
 | nil=>intro σ;rfl
 | cons t r ih=>
  intro σ;simp only [List.cons_append,steps];cases step σ t with
  | error e=>rfl
  | ok σ'=>exact ih σ'
theorem zcP {ts:List Tok} {j:Nat} {t:Tok} {σ σ0:St} (hj:ts[j]?=some t) (h:steps (ts.take j) σ0=.ok σ):steps (ts.take (j+1)) σ0=step σ t:=by
 rw [List.take_add_one,hj,steps_append,h];show (match step σ t with|.error e=>.error e|.ok σ'=>steps [] σ':Except (Int × Int) St)=step σ t;cases step σ t<;>rfl
theorem steps_stop {ts:List Tok} {j:Nat} {t:Tok} {σ σ0:St} {q:Int × Int} (hj:ts[j]?=some t) (h:steps (ts.take j) σ0=.ok σ) (hq:step σ t=.error q):steps ts σ0=.error q:=by
 have h1:=zcP hj h;rw [hq] at h1;rw [←List.take_append_drop (j+1) ts,steps_append,h1]
theorem parse_stop {ts:List Tok} {j:Nat} {t:Tok} {σ:St} {q:Int × Int} (hj:ts[j]?=some t) (h:steps (ts.take j) begin0=.ok σ) (hq:step σ t=.error q):parse ts=.error q:=by
 unfold parse;rw [steps_stop hj h hq]
theorem parse_end {ts:List Tok} {σ:St} (h:steps ts begin0=.ok σ):parse ts=finish σ:=by
 unfold parse;rw [h]
open Go.RowKit Go.Deep Go.MapKept
theorem zcK {fn:Func} {t u v x:Tmp} (h:fn.results=#[.tmp t,.tmp u,.tmp v,.tmp x]) (tmps:Array Value) (P:Program) (w:World) :
  (results fn tmps).run P w=.ok (.tuple #[tmps.getD t undef,tmps.getD u undef,tmps.getD v undef,tmps.getD x undef]) w:=by
 simp [results,h]
def Roomy (v:Value):Prop:=∃ a n c,v=.slice a n c∧n≤c
theorem roomy_of {w:World} {base e size n:Nat} {v:Value} {xs:List Value} (h:w.ownsRow base e size v n xs):Roomy v:=by
 rcases h.2 with ⟨rfl,rfl⟩|⟨g,cap,cur,rfl,r⟩
 ·exact ⟨_,_,_,rfl,Nat.le_refl _⟩
 ·exact ⟨_,_,_,rfl,r.2.2.1⟩
def SeesF (w:World) (v:Value) (l:List Frm):Prop:=
 ∃ fs:List FV,fs.map Prod.fst=l∧SeesC w v fs.length 5 (flatF fs)∧∀ (i:Nat) (x:FV),fs[i]?=some x→SeesC w x.2 x.1.kids.length 1 (ints x.1.kids)∧Roomy x.2
theorem SeesF.below {w w':World} {v:Value} {l:List Frm} (h:SeesF w v l) (hb:Below w.heap.size w w'):SeesF w' v l:=by
 obtain ⟨fs,h1,h2,h3⟩:=h;exact ⟨fs,h1,h2.below hb (Nat.le_refl _),fun i x hx=>⟨(h3 i x hx).1.below hb (Nat.le_refl _),(h3 i x hx).2⟩⟩
theorem step_err {σ:St} {t:Tok} {q:Int × Int} (h:step σ t=.error q):q.2=4∨q.2=8:=by
 unfold step at h;split at h
 ·split at h
  ·cases h;exact .inr rfl
  ·cases h
 ·split at h
  ·split at h
   ·cases h;exact .inl rfl
   ·split at h
    ·cases h;exact .inl rfl
    ·cases h
  ·split at h
   ·split at h
    ·cases h;exact .inl rfl
    ·cases h
   ·cases h
theorem steps_err:∀ (l:List Tok) (σ:St) (q:Int × Int),steps l σ=.error q→q.2=4∨q.2=8
 | [],_,_,h=>by cases h
 | t::r,σ,q,h=>by
  unfold steps at h;cases hs:step σ t with
  | error e=>rw [hs] at h;cases h;exact step_err hs
  | ok σ'=>rw [hs] at h;exact steps_err r σ' q h
theorem tparse_err {l:List Tok} {q:Int × Int} (h:parse l=.error q):q.2=4∨q.2=8:=by
 unfold parse at h;cases hs:steps l begin0 with
 | error e=>rw [hs] at h;cases h;exact steps_err _ _ _ hs
 | ok σ=>
  rw [hs] at h;simp only at h;unfold finish at h;split at h
  ·cases h
  ·cases h;exact .inr rfl
def PRes (w:World) (r:Except (Int × Int) St) (e:Ending) (w':World):Prop:=
 match r with
 | .error q=>e=.returned (.tuple #[.slice none 0 0,.slice none 0 0,.int .i64 q.1,.int .i64 q.2])∧Below w.heap.size w w'
 | .ok σ=>∃ fv tv,e=.returned (.tuple #[fv,tv,.int .i64 0,.int .i64 0])∧SeesF w' fv σ.forms∧SeesC w' tv σ.top.length 1 (ints σ.top)∧Below w.heap.size w w'
open Go.RowKit Go.Deep Go.MapKept
structure Fm where
 k:Int
 s:ByteArray
 n:Int
 kids:List Int
 p:Int
abbrev MV:=Fm × Value
def mcells (x:MV):List Value:=[.int .u8 x.1.k,.string x.1.s,.int .i64 x.1.n,x.2,.int .i64 x.1.p]
def flatM (l:List MV):List Value:=l.flatMap mcells
theorem flatM_get:∀ (l:List MV) (j i:Nat) (x:MV),l[j]?=some x→i<5→(flatM l)[j*5+i]?=(mcells x)[i]?
 | [],_,_,_,h,_=>by simp at h
 | y::r,0,i,x,h,hi=>by
  obtain rfl:y=x:=by simpa using h
  simp only [flatM,List.flatMap_cons,Nat.zero_mul,Nat.zero_add];rw [List.getElem?_append_left (by simpa [mcells] using hi)]
 | y::r,j+1,i,x,h,hi=>by
  have:=flatM_get r j i x (by simpa using h) hi;rw [←this];simp only [flatM,List.flatMap_cons];rw [List.getElem?_append_right (by simp [mcells];omega)];congr 1;simp [mcells];omega
def intsI (l:List Int):List Value:=l.map fun n=>Value.int .i64 n
theorem zcA {l:List Int} {j:Nat} {x:Int} (h:l[j]?=some x):(intsI l)[j]?=some (.int .i64 x):=by simp [intsI,h]
structure SeesM (w:World) (v:Value) (ms:List MV):Prop where
 row:SeesC w v ms.length 5 (flatM ms)
 kid:∀ (i:Nat) (x:MV),ms[i]?=some x→SeesC w x.2 x.1.kids.length 1 (intsI x.1.kids)
theorem SeesM.below {w w':World} {v:Value} {ms:List MV} {B:Nat} (h:SeesM w v ms) (hb:Below B w w') (hB:w.heap.size≤B):SeesM w' v ms:=
 ⟨h.row.below hb hB,fun i x hx=>(h.kid i x hx).below hb hB⟩
def toFm (f:Frm):Fm:=⟨f.k,f.s,f.n,f.kids.map fun (n:Nat)=>(n:Int),f.p⟩
theorem seesM_of {w:World} {v:Value} {l:List Frm} (h:SeesF w v l):∃ ms:List MV,ms.map Prod.fst=l.map toFm∧SeesM w v ms∧∀ x∈ms,Roomy x.2:=by
 obtain ⟨fs,rfl,h1,h2⟩:=h;have e1:flatM (fs.map fun x=>(toFm x.1,x.2))=flatF fs:=by
  unfold flatM flatF;rw [List.flatMap_map];rfl
 refine ⟨fs.map fun x=>(toFm x.1,x.2),by simp,⟨?_,?_⟩,fun x hx => ?_⟩
 ·rw [e1,List.length_map];exact h1
 ·intro i x hx;rw [List.getElem?_map] at hx;cases hf:fs[i]? with
  | none=>rw [hf] at hx;simp at hx
  | some y=>
   rw [hf] at hx;simp only [Option.map_some,Option.some.injEq] at hx;subst hx;have:=(h2 i y hf).1;have e2:intsI (toFm y.1).kids=ints y.1.kids:=by simp [intsI,ints,toFm]
   show SeesC w y.2 (toFm y.1).kids.length 1 (intsI (toFm y.1).kids);rw [e2];simpa [toFm] using this
 ·obtain ⟨y,hy,rfl⟩:=List.mem_map.1 hx;obtain ⟨i,hi⟩:=List.getElem?_of_mem hy;exact (h2 i y hi).2
def kidsOf (ms:List MV) (p:Int):List Int:=match ms[p.toNat]? with|some x=>x.1.kids|none=>[]
open Go.RowKit Go.Deep Go.MapKept
abbrev XV:=Exp × Value
structure SV where
 s:Stm
 av:Value
 tv:Value
 ev:Value
def dcells (d:Dcl):List Value:=[.string d.name,.int .u8 (d.side:Int),.int .u8 (d.kind:Int)]
def xcells (x:XV):List Value:=[.int .u8 (x.1.k:Int),.int .u8 (x.1.of:Int),.int .u8 (x.1.op:Int),.string x.1.name,.int .i64 x.1.num,x.2]
def acells (a:Actn):List Value:=[.int .u8 (a.k:Int),.string a.name,.int .u8 (a.op:Int),.bool a.inn,.int .i64 a.e,.int .i64 a.cond]
def scells (s:SV):List Value:=[.int .u8 (s.s.k:Int),.string s.s.name,.int .u8 (s.s.op:Int),.int .i64 s.s.e,.int .i64 s.s.cond,s.av,s.tv,s.ev]
def flatD (l:List Dcl):List Value:=l.flatMap dcells
def flatX (l:List XV):List Value:=l.flatMap xcells
def flatAc (l:List Actn):List Value:=l.flatMap acells
def flatS (l:List SV):List Value:=l.flatMap scells
theorem flatD_snoc (l:List Dcl) (x:Dcl):flatD (l++[x])=flatD l++dcells x:=by simp [flatD]
theorem flatX_snoc (l:List XV) (x:XV):flatX (l++[x])=flatX l++xcells x:=by simp [flatX]
theorem flatAc_snoc (l:List Actn) (x:Actn):flatAc (l++[x])=flatAc l++acells x:=by simp [flatAc]
theorem flatS_snoc (l:List SV) (x:SV):flatS (l++[x])=flatS l++scells x:=by simp [flatS]
structure PV where
 ds:List Dcl
 xs:List XV
 ss:List SV
 ms:List Int
 dv:Value
 xv:Value
 sv:Value
 mv:Value
def PV.es (p:PV):ES:=(p.xs.map Prod.fst,p.ss.map SV.s)
def kRow (x:XV):Rw:=⟨x.2,3,1,x.1.kids.length,intsI x.1.kids⟩
def sRows (s:SV):List Rw:=[⟨s.av,75,6,s.s.acts.length,flatAc s.s.acts⟩,⟨s.tv,3,1,s.s.thn.length,intsI s.s.thn⟩,⟨s.ev,3,1,s.s.els.length,intsI s.s.els⟩]
def dRow (p:PV):Rw:=⟨p.dv,106,3,p.ds.length,flatD p.ds⟩
def xRow (p:PV):Rw:=⟨p.xv,82,6,p.xs.length,flatX p.xs⟩
def sRow (p:PV):Rw:=⟨p.sv,49,8,p.ss.length,flatS p.ss⟩
def mRow (p:PV):Rw:=⟨p.mv,3,1,p.ms.length,intsI p.ms⟩
open Go.RowKit Go.Deep Go.MapKept
theorem zdR (V:World) (e size:Nat) (xs:Array Value) (hs:xs.size=size):SeesC (V.alloc (.cells xs e)) (.slice (some ⟨V.heap.size,0,none⟩) 1 1) 1 size xs.toList:=by
 refine ⟨by simp [hs],some ⟨V.heap.size,0,none⟩,1,rfl,.inr ⟨V.heap.size,0,rfl,fun j c hj => ?_⟩⟩;have h:=heap_alloc_last V (.cells xs e);have:=cell_of_row (V.alloc (.cells xs e)) V.heap.size (0+j) xs e (0,0) h;rw [this];simpa using hj
theorem Tryz.info82:(Tryz.prog.info? 82).map (fun i=>(i.zero,i.size,i.bytes))=some (some (.agg #[.int .u8 0,.int .u8 0,.int .u8 0,.string ⟨#[]⟩,.int .i64 0,.slice none 0 0]),6,56):=by kernel_rfl
theorem Tryz.info49:(Tryz.prog.info? 49).map (fun i=>(i.zero,i.size,i.bytes))=some (some (.agg #[.int .u8 0,.string ⟨#[]⟩,.int .u8 0,.int .i64 0,.int .i64 0,.slice none 0 0,.slice none 0 0,.slice none 0 0]),8,120):=by kernel_rfl
theorem Tryz.info106:(Tryz.prog.info? 106).map (fun i=>(i.zero,i.size,i.bytes))=some (some (.agg #[.string ⟨#[]⟩,.int .u8 0,.int .u8 0]),3,24):=by kernel_rfl
open Go.RowKit Go.Deep Go.MapKept
theorem Tryz.info75:(Tryz.prog.info? 75).map (fun i=>(i.zero,i.size,i.bytes))=some (some (.agg #[.int .u8 0,.string ⟨#[]⟩,.int .u8 0,.bool false,.int .i64 0,.int .i64 0]),6,48):=by kernel_rfl
theorem Tryz.info3z:(Tryz.prog.info? 3).map (fun i=>(i.zero,i.size,i.bytes))=some (some (.int .i64 0),1,8):=by kernel_rfl
open Go.RowKit Go.Deep Go.MapKept
theorem redN_any (o:Nat) (ho:o≤19) (w:World):Calls Tryz.prog 203 #[.int .u8 (o:Int)] w fun e w'=>(∃ q,e=.returned (.tuple #[.int .i64 q,.bool (redN o)]))∧w=w':=by
 have hm:o=0∨o=1∨o=2∨o=3∨o=4∨o=5∨o=6∨o=7∨o=8∨o=9∨o=10∨o=11∨o=12∨o=13∨o=14∨o=15∨o=16∨o=17∨o=18∨o=19:=by omega
 rcases hm with rfl|rfl|rfl|rfl|rfl|rfl|rfl|rfl|rfl|rfl|rfl|rfl|rfl|rfl|rfl|rfl|rfl|rfl|rfl|rfl
 all_goals
  go_enter Tryz.func203,Tryz.ntmps203;go_wp2;go_ret2;exact ⟨⟨_,rfl⟩,rfl⟩
theorem arityN_any (o:Nat) (ho:o≤19) (w:World):Calls Tryz.prog 238 #[.int .u8 (o:Int)] w fun e w'=>e=.returned (.int .i64 (arityN o:Int))∧w=w':=by
 have hm:o=0∨o=1∨o=2∨o=3∨o=4∨o=5∨o=6∨o=7∨o=8∨o=9∨o=10∨o=11∨o=12∨o=13∨o=14∨o=15∨o=16∨o=17∨o=18∨o=19:=by omega
 rcases hm with rfl|rfl|rfl|rfl|rfl|rfl|rfl|rfl|rfl|rfl|rfl|rfl|rfl|rfl|rfl|rfl|rfl|rfl|rfl|rfl
 all_goals
  go_enter Tryz.func238,Tryz.ntmps238;go_wp2;go_ret;exact ⟨rfl,rfl⟩
def asW (b:Bool):Int:=if b=true then 1 else 0
theorem asWord_any (b:Bool) (w:World):Calls Tryz.prog 227 #[.bool b] w fun e w'=>e=.returned (.int .i64 (asW b))∧w=w':=by
 cases b;all_goals
  go_enter Tryz.func227,Tryz.ntmps227;go_wp2;go_ret;exact ⟨rfl,rfl⟩
open Go.RowKit Go.Deep Go.MapKept
theorem not_num2 {s:ByteArray} {c:UInt8} {r:Txt} (h:s.data.toList=c::r) (h1:c≠45) (h2:¬ Dig c):¬ isNum s:=by
 rintro ⟨v,hv,e⟩;rw [h] at e;rcases ok_itoa hv.1 hv.2 with ⟨_,ok,_⟩|⟨_,ds,e2,_⟩
 ·exact h2 (ok.2.2.2.1 c (by rw [←e];simp))
 ·rw [e2] at e;exact h1 (List.cons.inj e).1
theorem kind_letter {s:ByteArray} (h0:0<s.size) (hl:letter (sign s 0)=true):(kindW s==3)=nameB s:=by
 obtain ⟨c,r,hs⟩:∃ c r,s.data.toList=c::r:=by
  cases h:s.data.toList with
  | nil=>
   have:s.size=0:=by
    have:=congrArg List.length h;simpa using this
   omega
  | cons c r=>exact ⟨c,r,rfl⟩
 have hc:sign s 0=(c.toNat:Int):=by
  unfold sign;have:s.data[0]?=some c:=by rw [←Array.getElem?_toList,hs];rfl
  rw [Array.getD_eq_getD_getElem?,this];rfl
 rw [hc] at hl;unfold letter at hl;simp only [Bool.and_eq_true,decide_eq_true_eq] at hl;have hnum:¬ isNum s:=not_num2 hs (by rintro rfl;simp at hl) (by
  unfold Dig;intro hd;have h1:=hd.2;have:c.toNat≤57:=by simpa using h1
  omega)
 have hop:opB s=false:=by
  unfold opB;rw [List.any_eq_false];intro i hi;have hi':=List.mem_range.1 hi;rw [beq_iff_eq,ByteArray.toList_eq,hs];intro e;have e1:=(List.cons.inj e).1;subst e1;have hm:i=0∨i=1∨i=2∨i=3∨i=4∨i=5∨i=6∨i=7∨i=8∨i=9:=by omega
  rcases hm with rfl|rfl|rfl|rfl|rfl|rfl|rfl|rfl|rfl|rfl<;>simp [opc] at hl
 unfold kindW;rw [if_neg hnum,hop,Bool.false_or];cases nameB s<;>rfl
theorem name_first {s:ByteArray} (h0:0<s.size) (hl:letter (sign s 0)=false):nameB s=false:=by
 unfold nameB;have:(List.range s.size).all (fun i=>goodAt (sign s i) i)=false:=by
  rw [List.all_eq_false];exact ⟨0,List.mem_range.2 h0,by unfold goodAt;rw [hl];simp⟩
 rw [this];rfl
theorem name_empty:nameB ⟨#[]⟩=false:=by decide +kernel
theorem ba_empty {s:ByteArray} (h:¬ s=⟨#[]⟩):0<s.size∧(s.toList==[])=false:=by
 cases s with
 | mk d=>
  have hd:d≠#[]:=fun e=>h (by rw [e])
  have hz:0<d.size:=Array.size_pos_iff.2 hd;refine ⟨hz,?_⟩;rw [beq_eq_false_iff_ne,ByteArray.toList_eq];intro e;exact hd (Array.toList_eq_nil_iff.1 (by simpa using e))
theorem isName_any (s:ByteArray) (hs:s.size≤140737488355328) (w:World) (hL:Laid w):Calls Tryz.prog 204 #[.string s] w fun e w'=>e=.returned (.bool (nameB s))∧Below w.heap.size w w':=by
 by_cases he:s=⟨#[]⟩
 ·subst he;rw [name_empty];clear hL;go_enter Tryz.func204,Tryz.ntmps204;go_wp2;go_ret;exact ⟨rfl,Below.refl _ _⟩
 ·obtain ⟨h0,he2⟩:=ba_empty he;have hi:=sign_at s 0 h0;simp only [Int.natCast_zero] at hi;by_cases hl:letter (sign s 0)=true
  ·have HK:=hidI (kind_letter h0 hl);have C:=hidI (kind_any s hs w hL);unfold letter at hl;simp only [Bool.and_eq_true,decide_eq_true_eq] at hl;obtain ⟨l1,l2⟩:=hl;obtain ⟨k,hk⟩:∃ k,kindW s=k:=⟨_,rfl⟩;rw [hk] at HK C;obtain ⟨b,hb⟩:∃ b,(k==3)=b:=⟨_,rfl⟩;rw [hb] at HK;rw [←HK.out];clear hL hk HK;generalize sign s 0=c0 at hi l1 l2;go_enter Tryz.func204,Tryz.ntmps204
   go_wp2_with (go_at_call 126;refine C.out.mono ?_;rintro e w1 ⟨rfl,hb1⟩;clear C)
   go_ret;exact ⟨rfl,hb1⟩
  ·have hl2:letter (sign s 0)=false:=by simpa using hl
   rw [name_first h0 hl2];unfold letter at hl2;generalize sign s 0=c0 at hi hl2;clear hL hl;by_cases l1:97≤c0
   ·have l2:¬ c0≤122:=by simpa [l1] using hl2
    clear hl2;go_enter Tryz.func204,Tryz.ntmps204;go_wp2;go_ret;exact ⟨rfl,Below.refl _ _⟩
   ·clear hl2;go_enter Tryz.func204,Tryz.ntmps204;go_wp2;go_ret;exact ⟨rfl,Below.refl _ _⟩
theorem isName2_any (s:ByteArray) (hs:s.size≤140737488355328) (w:World) (hL:Laid w):Calls Tryz.prog 107 #[.string s] w fun e w'=>e=.returned (.bool (nameB s))∧Below w.heap.size w w':=by
 by_cases he:s=⟨#[]⟩
 ·subst he;rw [name_empty];clear hL;go_enter Tryz.func107,Tryz.ntmps107;go_wp2;go_ret;exact ⟨rfl,Below.refl _ _⟩
 ·obtain ⟨h0,he2⟩:=ba_empty he;have hi:=sign_at s 0 h0;simp only [Int.natCast_zero] at hi;by_cases hl:letter (sign s 0)=true
  ·have HK:=hidI (kind_letter h0 hl);have C:=hidI (kind_any s hs w hL);unfold letter at hl;simp only [Bool.and_eq_true,decide_eq_true_eq] at hl;obtain ⟨l1,l2⟩:=hl;obtain ⟨k,hk⟩:∃ k,kindW s=k:=⟨_,rfl⟩;rw [hk] at HK C;obtain ⟨b,hb⟩:∃ b,(k==3)=b:=⟨_,rfl⟩;rw [hb] at HK;rw [←HK.out];clear hL hk HK;generalize sign s 0=c0 at hi l1 l2;go_enter Tryz.func107,Tryz.ntmps107
   go_wp2_with (go_at_call 126;refine C.out.mono ?_;rintro e w1 ⟨rfl,hb1⟩;clear C)
   go_ret;exact ⟨rfl,hb1⟩
  ·have hl2:letter (sign s 0)=false:=by simpa using hl
   rw [name_first h0 hl2];unfold letter at hl2;generalize sign s 0=c0 at hi hl2;clear hL hl;by_cases l1:97≤c0
   ·have l2:¬ c0≤122:=by simpa [l1] using hl2
    clear hl2;go_enter Tryz.func107,Tryz.ntmps107;go_wp2;go_ret;exact ⟨rfl,Below.refl _ _⟩
   ·clear hl2;go_enter Tryz.func107,Tryz.ntmps107;go_wp2;go_ret;exact ⟨rfl,Below.refl _ _⟩
def ptL (s:ByteArray):List Nat:=s.data.toList.map UInt8.toNat
theorem ptL_len (s:ByteArray):(ptL s).length=s.size:=by simp [ptL]
end Go.Proofs.YtfljimpgnlfipaaGreatDoor

namespace Go.Proofs.YtfljimpgnlfipaaGreatDoor
open Go.RowKit Go.Deep Go.MapKept Go.WideMaps Go.WideShapes
theorem zbW (s:ByteArray):opOf s≤19:=by
 unfold opOf;split
 ·rename_i i h
  have:=(List.findIdx?_eq_some_iff_getElem.1 h).1;simp only [opWs,List.length_cons,List.length_nil] at this;omega
 ·omega
theorem zbT (s t:ByteArray):(s.toList==t.toList)=decide (s=t):=by
 by_cases h:s=t
 ·subst h;simp
 ·rw [decide_eq_false h,beq_eq_false_iff_ne];intro e;apply h;rw [ByteArray.toList_eq,ByteArray.toList_eq] at e;cases s;cases t;simp only [ByteArray.mk.injEq];exact Array.toList_inj.1 (by simpa using e)
end Go.Proofs.YtfljimpgnlfipaaGreatDoor

namespace Go.Proofs.YtfljimpgnlfipaaGreatDoor
open Go.RowKit Go.Deep Go.MapKept
def iRow (v:Value) (is:List Int):Rw:=⟨v,3,1,is.length,intsI is⟩
open Go.RowKit Go.Deep Go.MapKept
def aRow (v:Value) (as':List Actn):Rw:=⟨v,75,6,as'.length,flatAc as'⟩
end Go.Proofs.YtfljimpgnlfipaaGreatDoor


namespace Go.Proofs.YtfljimpgnlfipaaGreatDoor
open Go.RowKit Go.Deep Go.MapKept
section
variable {w w' : World} {u : Value}
theorem perm_app5 {α:Type} (b d x s m:α) (L:List α):(b::d::x::s::m::L).Perm (x::b::d::s::m::L):=List.perm_middle (l₁:=[b,d])
theorem perm_app5s {α:Type} (b d x s m:α) (L:List α):(b::d::x::s::m::L).Perm (s::b::d::x::m::L):=List.perm_middle (l₁:=[b,d,x])
theorem perm_app5d {α:Type} (b d x s m:α) (L:List α):(b::d::x::s::m::L).Perm (d::b::x::s::m::L):=List.perm_middle (l₁:=[b])
theorem perm_app5m {α:Type} (b d x s m:α) (L:List α):(b::d::x::s::m::L).Perm (m::b::d::x::s::L):=List.perm_middle (l₁:=[b,d,x,s])
theorem rows_swap {B e size j:Nat} {r r':Rw} {bs:List Value} {L:List Rw} {base:Nat} (h:RowsP w base (r::⟨bx B,e,size,1,bs⟩::L)) (hg:w.grownBy w' r.v.ownBlock) (ho:Own w' base r') (hb:r'.v.ownBlock=r.v.ownBlock∨r'.v.ownBlock=some w.heap.size):RowsP (w'.setCell ⟨B,j,none⟩ r'.v) base (⟨bx B,e,size,1,bs.set j r'.v⟩::r'::L):=by
 have h1:=h.put hg ho (.inr hb);exact (h1.perm (List.Perm.swap _ _ _)).setc (g:=B) (cap:=1) (j:=j) rfl r'.v
theorem zeW {n:Nat} {r r':Rw} {base:Nat} {B j:Nat} {L:List Rw} {w0:World} (hb:Below w0.heap.size w0 w) (h:RowsP w w0.heap.size (r::L)) (hg:w.grownBy w' r.v.ownBlock) (hB:w0.heap.size≤B) (_:n=n) (_:base=base) (_:r'=r') (v:Value):Below w0.heap.size w0 (w'.setCell ⟨B,j,none⟩ v):=
 (hb.grown hg hb.size (fun k hk=>(h.head.lt k hk).1)).setCell hB v
theorem perm_kid {α:Type} (A Bs X:List α) (r:α):((A++Bs)++r::X).Perm (((A++[r])++Bs)++X):=by
 have h1:((A++Bs)++r::X).Perm (r::((A++Bs)++X)):=List.perm_middle;have h2:(((A++[r])++Bs)++X).Perm (r::((A++Bs)++X)):=by
  have:((A++[r])++Bs)++X=A++r::(Bs++X):=by simp
  rw [this,List.append_assoc];exact List.perm_middle
 exact h1.trans h2.symm
end
end Go.Proofs.YtfljimpgnlfipaaGreatDoor
