/-
  Part 2 of the proof: MapG, TreeM, ProgM, RdM, Round, POpW, PDecl.
-/
import Derived.Test.YtmekkhfohmfjkaaGreatDoorSd01
import Derived.Maps.Own
import Derived.WideKeyEntry
import Derived.DeepKeys4
import Derived.StringKeys
import Derived.Test.YtmekkhfohmfjkaaGreatDoorSd00
import Derived.Test.YtmekkhfohmfjkaaGreatDoorChecked
import Derived.RangeFuncNested
import Derived.RangeFuncBound
import Derived.RangeFuncCalls
import Derived.RangeFuncLeaves
import Derived.Shelf.Abstract
import Derived.Shelf.RegionOpen
import Derived.WalkKit
import Derived.OwnWalkIn
import Derived.TacticsInMore
import Derived.LoopNIn
import Derived.LoopIn
import Derived.OrdersHeld
import Derived.BigQuiet
import Derived.Deep.WholeRow
namespace Go.Proofs.YtmekkhfohmfjkaaGreatDoor
open Go.RowKit Go.MapKept Go.WideMaps Go.WideShapes
open Go.ChangeMaps (setBlock heap_setBlock_same heap_setBlock_other)
theorem nodup_at {l:List MapEntry} (h:(l.map (·.key)).Nodup) {i j:Nat} {x y:MapEntry} (hi:l[i]?=some x) (hj:l[j]?=some y) (e:x.key=y.key):i=j:=by
 have hi':(l.map (·.key))[i]?=some x.key:=by simp [hi]
 have hj':(l.map (·.key))[j]?=some y.key:=by simp [hj]
 have li:i<(l.map (·.key)).length:=(List.getElem?_eq_some_iff.1 hi').1
 have lj:j<(l.map (·.key)).length:=(List.getElem?_eq_some_iff.1 hj').1
 have hne:=List.pairwise_iff_getElem.1 h
 have a1:=(List.getElem?_eq_some_iff.1 hi').2
 have a2:=(List.getElem?_eq_some_iff.1 hj').2
 rcases Nat.lt_trichotomy i j with h1|h1|h1
 ·exact absurd (a1.trans (e.trans a2.symm)) (hne i j li lj h1)
 ·exact h1
 ·exact absurd (a2.trans (e.symm.trans a1.symm)) (hne j i lj li h1)
abbrev Fn:=ByteArray→Option Value
def upd (f:Fn) (s:ByteArray) (d:Value):Fn:=fun t=>if t=s then some d else f t
def Says (es:Array MapEntry) (clock:Nat) (f:Fn):Prop:=
 Stamped es clock∧(∀ x∈es.toList,∃ s d,s.size≤maxLen∧x.key=.string s∧f s=some d∧x.val=d)∧(∀ s d,f s=some d→∃ x∈es.toList,x.key=.string s)
def MapG (w:World) (mb:Nat) (f:Fn):Prop:=∃ es clock,w.heap[mb]?=some (.map es clock)∧Says es clock f
theorem MapG.same {w w':World} {mb:Nat} {f:Fn} (h:MapG w mb f) (e:w'.heap[mb]?=w.heap[mb]?):MapG w' mb f:=by
 obtain ⟨es,clock,hb,hs⟩:=h
 exact ⟨es,clock,e.trans hb,hs⟩
theorem MapG.lt {w:World} {mb:Nat} {f:Fn} (h:MapG w mb f):mb<w.heap.size:=by
 obtain ⟨es,clock,hb,_⟩:=h
 exact (Array.getElem?_eq_some_iff.1 hb).1
theorem zdB (w:World):MapG (w.alloc (.map #[] 0)) w.heap.size (fun _=>none):=
 ⟨#[],0,(MapKept.heap_alloc w _).1,stamped_empty 0,by simp,by simp⟩
theorem Says.keyed {P:Program} {tk:TypeId} (h9:P.underlying tk=some .string) {es:Array MapEntry} {clock:Nat} {f:Fn} (h:Says es clock f):∀ e∈es.toList,∃ l,keyOf P tk e.key=some l:=by
 intro e he
 obtain ⟨s,d,hs,hk,_⟩:=h.2.1 e he
 exact ⟨_,hk▸keyOf_string_mk h9 hs⟩
theorem look {P:Program} {tm tk ev:TypeId} (ht:P.underlying tm=some (.map tk ev)) (h9:P.underlying tk=some .string) {z:Value} (hz:∀ u:World,(zeroValue ev).run P u=.ok z u) {w:World} {mb:Nat} {f:Fn} (h:MapG w mb f) {s:ByteArray} (hs:s.size≤maxLen) (c:Bool) :
  (Instr.lookup tm (.map (some mb)) (.string s) c).run P w=.ok (if c=true then .tuple #[(f s).getD z,.bool (f s).isSome] else (f s).getD z) w:=by
 obtain ⟨es,clock,hb,hS⟩:=h
 have hkey:=keyOf_string_mk h9 hs
 rcases (string_law h9).find w hkey es.toList (hS.keyed h9) with ⟨h1,h2⟩|⟨j,e,h1,h2,h3⟩
 ·have hn:f s=none:=by
   cases hf:f s with
   | none=>rfl
   | some d=>
    obtain ⟨x,hx,hk⟩:=hS.2.2 s d hf
    exact absurd hk (h2 x hx)
  rw [hn]
  simp [Instr.lookup,run_underlying ht,MapKept.run_getObj_map hb,(string_law h9).check w es.isEmpty hkey,h1,hz,Result.andThen]
 ·obtain ⟨s',d,_,hk,hf,hv⟩:=hS.2.1 e (List.mem_of_getElem? h2)
  obtain rfl:s=s':=by rw [hk] at h3;simpa using h3.symm
  rw [hf]
  simp [Instr.lookup,run_underlying ht,MapKept.run_getObj_map hb,(string_law h9).check w es.isEmpty hkey,h1,Result.andThen,hv]
theorem stamped_modify {es:Array MapEntry} {clock j:Nat} {e0:MapEntry} {v:Value} (h:Stamped es clock) (hj:es.toList[j]?=some e0):Stamped (es.modify j fun e=>{ key:=e0.key,val:=v,born:=e.born }) clock:=by
 have hm:(es.modify j fun e=>{ key:=e0.key,val:=v,born:=e.born }).toList=es.toList.set j { key:=e0.key,val:=v,born:=e0.born }:=by
  rw [Array.toList_modify,ChangeMaps.modify_eq_set _ _ _ _ hj]
 have hlt:=(List.getElem?_eq_some_iff.1 hj).1
 have heq:=(List.getElem?_eq_some_iff.1 hj).2
 refine ⟨fun x hx => ?_,?_,?_⟩
 ·rw [hm] at hx
  rcases List.mem_or_eq_of_mem_set hx with hx|rfl
  ·exact h.1 x hx
  ·exact h.1 e0 (List.mem_of_getElem? hj)
 ·rw [hm,List.map_set]
  have:(es.toList.map (·.born)).set j e0.born=es.toList.map (·.born):=by
   apply List.ext_getElem?
   intro i
   rw [List.getElem?_set]
   split
   ·rename_i hi;subst hi;simp [hj];simpa using hlt
   ·rfl
  simp only [this];exact h.2.1
 ·rw [hm,List.map_set]
  have:(es.toList.map (·.key)).set j e0.key=es.toList.map (·.key):=by
   apply List.ext_getElem?
   intro i
   rw [List.getElem?_set]
   split
   ·rename_i hi;subst hi;simp [hj];simpa using hlt
   ·rfl
  simp only [this];exact h.2.2
theorem stamped_push {es:Array MapEntry} {clock:Nat} {k v:Value} (h:Stamped es clock) (hne:∀ e∈es.toList,e.key≠k):Stamped (es.push { key:=k,val:=v,born:=clock }) (clock+1):=by
 refine ⟨fun x hx => ?_,?_,?_⟩
 ·rw [Array.toList_push,List.mem_append,List.mem_singleton] at hx
  rcases hx with hx|rfl
  ·have:=h.1 x hx;omega
  ·simp
 ·rw [Array.toList_push,List.map_append,List.nodup_append]
  refine ⟨h.2.1,by simp,fun a ha b hb => ?_⟩
  obtain ⟨x,hx,rfl⟩:=List.mem_map.1 ha
  obtain rfl:b=clock:=by simpa using hb
  have:=h.1 x hx
  omega
 ·rw [Array.toList_push,List.map_append,List.nodup_append]
  refine ⟨h.2.2,by simp,fun a ha b hb => ?_⟩
  obtain ⟨x,hx,rfl⟩:=List.mem_map.1 ha
  obtain rfl:b=k:=by simpa using hb
  exact hne x hx
theorem store_at {P:Program} {tm tk ev:TypeId} (ht:P.underlying tm=some (.map tk ev)) (h9:P.underlying tk=some .string) {u:World} {mb clock j:Nat} {es:Array MapEntry} {e0:MapEntry} {f:Fn} {s:ByteArray} (v:Value) (hb:u.heap[mb]?=some (.map es clock)) (hS:Says es clock f) (hs:s.size≤maxLen) (hj:es.toList[j]?=some e0) (he:e0.key=.string s) :
  (Instr.mapUpdate tm (.map (some mb)) (.string s) v).run P u=.ok () (setBlock u mb (.map (es.modify j fun e=>{ key:=e0.key,val:=v,born:=e.born }) clock)):=by
 have hkey:=keyOf_string_mk h9 hs
 rcases (string_law h9).find u hkey es.toList (hS.keyed h9) with ⟨_,h2⟩|⟨j',e',h1,h2,h3⟩
 ·exact absurd he (h2 e0 (List.mem_of_getElem? hj))
 ·obtain rfl:=nodup_at hS.1.2.2 h2 hj (h3.trans he.symm)
  have hj':es[j']?=some e0:=by rw [←Array.getElem?_toList];exact hj
  simp [Instr.mapUpdate,run_underlying ht,MapKept.run_getObj_map hb,(string_law h9).check u false hkey,h1,hj',he,(string_law h9).stays u hkey,MapKept.run_setObj_map _ hb,Result.andThen,setBlock]
theorem store_new {P:Program} {tm tk ev:TypeId} (ht:P.underlying tm=some (.map tk ev)) (h9:P.underlying tk=some .string) {u:World} {mb clock:Nat} {es:Array MapEntry} {f:Fn} {s:ByteArray} (v:Value) (hb:u.heap[mb]?=some (.map es clock)) (hS:Says es clock f) (hs:s.size≤maxLen) (hne:∀ e∈es.toList,e.key≠.string s) :
  (Instr.mapUpdate tm (.map (some mb)) (.string s) v).run P u=.ok () (setBlock u mb (.map (es.push { key:=.string s,val:=v,born:=clock }) (clock+1))):=by
 have hkey:=keyOf_string_mk h9 hs
 rcases (string_law h9).find u hkey es.toList (hS.keyed h9) with ⟨h1,_⟩|⟨j,e,h1,h2,h3⟩
 ·simp [Instr.mapUpdate,run_underlying ht,MapKept.run_getObj_map hb,(string_law h9).check u false hkey,h1,MapKept.run_setObj_map _ hb,Result.andThen,setBlock]
 ·exact absurd h3 (hne e (List.mem_of_getElem? h2))
theorem store {P:Program} {tm tk ev:TypeId} (ht:P.underlying tm=some (.map tk ev)) (h9:P.underlying tk=some .string) {w:World} {mb:Nat} {f:Fn} (h:MapG w mb f) {s:ByteArray} (hs:s.size≤maxLen) (d:Value) :
  ∃ o:Obj,(∀ u:World,u.heap[mb]?=w.heap[mb]?→(Instr.mapUpdate tm (.map (some mb)) (.string s) d).run P u=.ok () (setBlock u mb o))∧
   (∀ u:World,u.heap[mb]?=some o→(Instr.mapUpdate tm (.map (some mb)) (.string s) d).run P u=.ok () (setBlock u mb o))∧
   (∀ u:World,u.heap[mb]?=some o→MapG u mb (upd f s d)):=by
 obtain ⟨es,clock,hb,hS⟩:=h
 by_cases hin:∃ e0∈es.toList,e0.key=.string s
 ·obtain ⟨e0,hm,he⟩:=hin
  obtain ⟨j,hj⟩:=List.getElem?_of_mem hm
  have hlt:=(List.getElem?_eq_some_iff.1 hj).1
  have hm2:(es.modify j fun e=>{ key:=e0.key,val:=d,born:=e.born }).toList=es.toList.set j { key:=e0.key,val:=d,born:=e0.born }:=by
   rw [Array.toList_modify,ChangeMaps.modify_eq_set _ _ _ _ hj]
  have hS2:Says (es.modify j fun e=>{ key:=e0.key,val:=d,born:=e.born }) clock (upd f s d):=by
   refine ⟨stamped_modify hS.1 hj,fun x hx => ?_,fun t dt ht => ?_⟩
   ·rw [hm2] at hx
    obtain ⟨i,hi⟩:=List.getElem?_of_mem hx
    rw [List.getElem?_set] at hi
    by_cases hji:j=i
    ·rw [if_pos hji,if_pos hlt] at hi
     obtain rfl:=Option.some.inj hi
     exact ⟨s,d,hs,he,by simp [upd],rfl⟩
    ·rw [if_neg hji] at hi
     obtain ⟨t,dt,h1,h2,h3,h4⟩:=hS.2.1 x (List.mem_of_getElem? hi)
     refine ⟨t,dt,h1,h2,?_,h4⟩
     have:t≠s:=fun e=>hji (nodup_at hS.1.2.2 hj hi (by rw [he,h2,e]))
     simp [upd,this,h3]
   ·by_cases e:t=s
    ·subst e
     exact ⟨{ key:=e0.key,val:=d,born:=e0.born },by rw [hm2];exact List.mem_set hlt _,he⟩
    ·simp only [upd,e,if_false] at ht
     obtain ⟨x,hx,hk⟩:=hS.2.2 t dt ht
     obtain ⟨i,hi⟩:=List.getElem?_of_mem hx
     refine ⟨x,?_,hk⟩
     rw [hm2]
     apply List.mem_of_getElem? (i:=i)
     rw [List.getElem?_set,if_neg,hi]
     intro hji
     subst hji
     rw [hj] at hi
     obtain rfl:=Option.some.inj hi
     rw [he] at hk
     exact e (by simpa using hk.symm)
  refine ⟨.map (es.modify j fun e=>{ key:=e0.key,val:=d,born:=e.born }) clock,fun u hu=>store_at ht h9 _ (hu.trans hb) hS hs hj he,fun u hu => ?_,fun u hu=>⟨_,_,hu,hS2⟩⟩
  have hj2:(es.modify j fun e=>{ key:=e0.key,val:=d,born:=e.born }).toList[j]?=some { key:=e0.key,val:=d,born:=e0.born }:=by
   rw [hm2,List.getElem?_set,if_pos rfl,if_pos hlt]
  have:=store_at ht h9 d hu hS2 hs hj2 he
  rw [this]
  congr 2
  congr 1
  apply Array.ext'
  rw [Array.toList_modify,ChangeMaps.modify_eq_set _ _ _ _ hj2]
  exact WideElems.set_self _ _ _ hj2
 ·have hne:∀ e∈es.toList,e.key≠.string s:=fun e he hk=>hin ⟨e,he,hk⟩
  have hS2:Says (es.push { key:=.string s,val:=d,born:=clock }) (clock+1) (upd f s d):=by
   refine ⟨stamped_push hS.1 hne,fun x hx => ?_,fun t dt ht => ?_⟩
   ·rw [Array.toList_push,List.mem_append,List.mem_singleton] at hx
    rcases hx with hx|rfl
    ·obtain ⟨t,dt,h1,h2,h3,h4⟩:=hS.2.1 x hx
     refine ⟨t,dt,h1,h2,?_,h4⟩
     have:t≠s:=fun e=>hne x hx (by rw [h2,e])
     simp [upd,this,h3]
    ·exact ⟨s,d,hs,rfl,by simp [upd],rfl⟩
   ·by_cases e:t=s
    ·subst e
     exact ⟨{ key:=.string t,val:=d,born:=clock },by simp,rfl⟩
    ·simp only [upd,e,if_false] at ht
     obtain ⟨x,hx,hk⟩:=hS.2.2 t dt ht
     exact ⟨x,by simp [Array.mem_toList_iff.1 hx],hk⟩
  refine ⟨.map (es.push { key:=.string s,val:=d,born:=clock }) (clock+1),fun u hu=>store_new ht h9 _ (hu.trans hb) hS hs hne,fun u hu => ?_,fun u hu=>⟨_,_,hu,hS2⟩⟩
  have hj2:(es.push { key:=.string s,val:=d,born:=clock }).toList[es.size]?=some { key:=.string s,val:=d,born:=clock }:=by
   simp
  have:=store_at ht h9 d hu hS2 hs hj2 rfl
  rw [this]
  congr 2
  congr 1
  apply Array.ext'
  rw [Array.toList_modify,ChangeMaps.modify_eq_set _ _ _ _ hj2]
  exact WideElems.set_self _ _ _ hj2
open Go.RowKit Go.Deep Go.MapKept
structure Frm where
 k:Int
 s:ByteArray
 n:Int
 kids:List Nat
 p:Int
structure St where
 forms:List Frm
 top:List Nat
 opn:List Nat
def emptyS:ByteArray:=⟨#[]⟩
def addKid (n:Nat) (g:Frm):Frm:={ g with kids:=g.kids++[n] }
def addF (f:Frm) (σ:St):St:=
 match σ.opn.getLast? with
 | none=>{ σ with forms:=σ.forms++[f],top:=σ.top++[σ.forms.length] }
 | some b=>{ σ with forms:=σ.forms.modify b (addKid σ.forms.length)++[f] }
def formOf (t:Tok):Frm:=if t.k=1 then ⟨1,emptyS,0,[],t.p⟩ else if t.k=3 then ⟨3,t.s,0,[],t.p⟩ else ⟨4,emptyS,t.n,[],t.p⟩
def step (σ:St) (t:Tok):Except (Int × Int) St:=
 if t.k=2 then (if σ.opn=[] then .error (t.p,8) else .ok { σ with opn:=σ.opn.dropLast })
 else if t.k=1 then (if σ.opn.length=12 then .error (t.p,4) else if σ.forms.length=400 then .error (t.p,4) else .ok { addF (formOf t) σ with opn:=σ.opn++[σ.forms.length] })
 else if t.k=3∨t.k=4 then (if σ.forms.length=400 then .error (t.p,4) else .ok (addF (formOf t) σ))
 else .ok σ
def steps:List Tok→St→Except (Int × Int) St
 | [],σ=>.ok σ
 | t::r,σ=>match step σ t with
  | .error e=>.error e
  | .ok σ'=>steps r σ'
def atOf (l:List Frm) (b:Nat):Int:=match l[b]? with|some f=>f.p|none=>0
def finish (σ:St):Except (Int × Int) St:=
 match σ.opn.getLast? with
 | none=>.ok σ
 | some b=>.error (atOf σ.forms b,8)
def begin0:St:=⟨[],[],[]⟩
def parse (l:List Tok):Except (Int × Int) St:=
 match steps l begin0 with
 | .error e=>.error e
 | .ok σ=>finish σ
structure Good (σ:St):Prop where
 open_lt:∀ b∈σ.opn,b<σ.forms.length
 open_len:σ.opn.length≤12
 len:σ.forms.length≤400
 top_len:σ.top.length≤σ.forms.length
 kid_len:∀ f∈σ.forms,f.kids.length≤σ.forms.length
theorem good_begin:Good begin0:=⟨by simp [begin0],by simp [begin0],by simp [begin0],by simp [begin0],by simp [begin0]⟩
theorem addF_opn (f:Frm) (σ:St):(addF f σ).opn=σ.opn:=by unfold addF;split<;>rfl
theorem addF_len (f:Frm) (σ:St):(addF f σ).forms.length=σ.forms.length+1:=by unfold addF;split<;>simp
theorem addF_top (f:Frm) (σ:St):(addF f σ).top.length≤σ.top.length+1:=by unfold addF;split<;>simp
theorem addF_good {f:Frm} {σ:St} (h:Good σ) (hf:f.kids=[]) (hl:σ.forms.length<400):Good (addF f σ):=by
 refine ⟨fun b hb => ?_,?_,?_,?_,?_⟩
 ·rw [addF_opn] at hb;rw [addF_len];have:=h.open_lt b hb;omega
 ·rw [addF_opn];exact h.open_len
 ·rw [addF_len];omega
 ·rw [addF_len];have:=addF_top f σ;have:=h.top_len;omega
 ·intro g hg
  rw [addF_len]
  unfold addF at hg
  split at hg
  ·simp only [List.mem_append,List.mem_singleton] at hg
   rcases hg with hg|rfl
   ·have:=h.kid_len g hg;omega
   ·rw [hf];simp
  ·simp only [List.mem_append,List.mem_singleton] at hg
   rcases hg with hg|rfl
   ·obtain ⟨i,hi⟩:=List.getElem?_of_mem hg
    rw [List.getElem?_modify] at hi
    cases hs:σ.forms[i]? with
    | none=>rw [hs] at hi;simp at hi
    | some q=>
     have hq:=h.kid_len q (List.mem_of_getElem? hs)
     rw [hs] at hi
     simp only [Option.map_eq_map,Option.map_some,Option.some.injEq] at hi
     subst hi
     split
     ·simp only [addKid,List.length_append,List.length_cons,List.length_nil];omega
     ·omega
   ·rw [hf];simp
theorem zdR (t:Tok):(formOf t).kids=[]:=by unfold formOf;split;rfl;split<;>rfl
theorem step_good {σ σ':St} {t:Tok} (h:Good σ) (he:step σ t=.ok σ'):Good σ':=by
 unfold step at he
 split at he
 ·split at he
  ·cases he
  ·cases he
   exact ⟨fun b hb=>h.open_lt b ((List.dropLast_sublist _).mem hb),by have:=h.open_len;simp;omega,h.len,h.top_len,h.kid_len⟩
 ·split at he
  ·split at he
   ·cases he
   ·split at he
    ·cases he
    ·cases he
     have hl:=h.len
     have g:=addF_good (f:=formOf t) h (zdR t) (by omega)
     have ho:=h.open_len
     refine ⟨fun b hb => ?_,by simp;omega,g.len,g.top_len,g.kid_len⟩
     simp only [List.mem_append,List.mem_singleton] at hb
     show b<(addF (formOf t) σ).forms.length
     rw [addF_len]
     rcases hb with hb|rfl
     ·have:=h.open_lt b hb;omega
     ·omega
  ·split at he
   ·split at he
    ·cases he
    ·cases he
     have hl:=h.len
     exact addF_good h (zdR t) (by omega)
   ·cases he;exact h
structure Dcl where
 name:ByteArray
 side:Nat
 kind:Nat
structure Exp where
 k:Nat
 of:Nat
 op:Nat
 name:ByteArray
 num:Int
 kids:List Int
structure Actn where
 k:Nat
 name:ByteArray
 op:Nat
 inn:Bool
 e:Int
 cond:Int
structure Stm where
 k:Nat
 name:ByteArray
 op:Nat
 e:Int
 cond:Int
 acts:List Actn
 thn:List Int
 els:List Int
structure Prg where
 decls:List Dcl
 exprs:List Exp
 stmts:List Stm
 main:List Int
def nmOk (s:ByteArray):Bool:=nameB s
def opWs:List ByteArray:=[(⟨#[43]⟩:ByteArray),(⟨#[45]⟩:ByteArray),(⟨#[42]⟩:ByteArray),(⟨#[47]⟩:ByteArray),(⟨#[37]⟩:ByteArray),(⟨#[109,105,110]⟩:ByteArray),(⟨#[109,97,120]⟩:ByteArray),(⟨#[115,104,108]⟩:ByteArray),(⟨#[115,104,114]⟩:ByteArray),(⟨#[38]⟩:ByteArray),(⟨#[124]⟩:ByteArray),(⟨#[94]⟩:ByteArray),(⟨#[61]⟩:ByteArray),(⟨#[60]⟩:ByteArray),(⟨#[110,111,116]⟩:ByteArray),(⟨#[97,110,100]⟩:ByteArray),(⟨#[111,114]⟩:ByteArray),(⟨#[105,102]⟩:ByteArray),(⟨#[110,97,114,114,111,119]⟩:ByteArray)]
def opOf (s:ByteArray):Nat:=match opWs.findIdx? (fun x=>decide (s=x)) with|some i=>i+1|none=>0
def arityN (o:Nat):Nat:=if o=0∨19<o then 0 else if o=15 then 1 else if o=18 then 3 else 2
def redN (o:Nat):Bool:=decide (o=1∨o=6∨o=7∨o=16∨o=17)
def declOf (s:ByteArray):Option (Nat × Nat):=
 if s=(⟨#[105,110,116]⟩:ByteArray) then some (1,1) else if s=(⟨#[98,111,111,108]⟩:ByteArray) then some (1,2) else if s=(⟨#[110,105,110,116]⟩:ByteArray) then some (2,1) else if s=(⟨#[110,98,111,111,108]⟩:ByteArray) then some (2,2) else if s=(⟨#[101,105,110,116]⟩:ByteArray) then some (3,1) else if s=(⟨#[101,98,111,111,108]⟩:ByteArray) then some (3,2) else none
def frm (l:List Frm) (n:Nat):Frm:=l.getD n ⟨0,emptyS,0,[],0⟩
def rows {α:Type} (g:Nat→α→Except Int (Int × α)):List Nat→α→Except Int (List Int × α)
 | [],es=>.ok ([],es)
 | n::r,es=>match g n es with
  | .error p=>.error p
  | .ok (i,es')=>match rows g r es' with
   | .error p=>.error p
   | .ok (is,es'')=>.ok (i::is,es'')
def big (l:List Frm):Nat:=l.length+1
abbrev ES:=List Exp × List Stm
def addS (q:ES) (s:Stm):Except Int (Int × ES):=.ok ((q.2.length:Int),(q.1,q.2++[s]))
def brkW (l:List Frm) (n:Nat):ByteArray:=match (frm l n).kids with|[]=>emptyS|m::_=>(frm l m).s
def brkK (l:List Frm) (n:Nat):List Nat:=(frm l n).kids.tail
def stmtOf (s:ByteArray):Nat:=if s=(⟨#[115,101,116]⟩:ByteArray) then 1 else if s=(⟨#[102,111,108,100]⟩:ByteArray) then 2 else if s=(⟨#[101,97,99,104]⟩:ByteArray) then 3 else if s=(⟨#[105,102]⟩:ByteArray) then 4 else if s=(⟨#[119,104,105,108,101]⟩:ByteArray) then 5 else if s=(⟨#[108,111,111,112]⟩:ByteArray) then 6 else if s=(⟨#[98,102,115]⟩:ByteArray) then 7 else 0
def actOf (s:ByteArray):Nat:=if s=(⟨#[112,117,116]⟩:ByteArray) then 1 else if s=(⟨#[112,117,115,104]⟩:ByteArray) then 2 else if s=(⟨#[112,117,108,108]⟩:ByteArray) then 3 else 0
def exprOf (s:ByteArray):Nat:=if s=(⟨#[111,119,110]⟩:ByteArray) then 3 else if s=(⟨#[102,97,114]⟩:ByteArray) then 4 else if s=(⟨#[118,105,97]⟩:ByteArray) then 5 else if s=(⟨#[105,100]⟩:ByteArray) then 6 else if s=(⟨#[102,97,114,105,100]⟩:ByteArray) then 7 else if s=(⟨#[100,101,103]⟩:ByteArray) then 8 else if s=(⟨#[99,111,117,110,116]⟩:ByteArray) then 9 else 0
def stmtSh:Nat→List Nat
 | 1=>[110,101]|2=>[110,111,101,99]|3=>[97]|4=>[101,116,102]|5=>[101,115]|6=>[101,115]|7=>[110,101,115]|_=>[]
def actSh:Nat→List Nat
 | 1=>[110,101,99]|2=>[110,111,119,101,99]|3=>[110,111,119,101]|_=>[]
def exprSh:Nat→List Nat
 | 3=>[110]|4=>[110]|5=>[110]|8=>[119]|_=>[]
def leastP (ps:List Nat):Nat:=(ps.map fun c=>if c=99∨c=115 then 0 else 1).sum
def mostP (ps:List Nat):Nat:=(ps.map fun c=>if c=97 then 6 else if c=115 then 400 else 1).sum
def fitsP (ps:List Nat) (many:Nat):Bool:=decide (leastP ps≤many∧many≤mostP ps)
def nthP (ps:List Nat) (i:Nat):Nat:=ps.getD (min i (ps.length-1)) 0
def looksP (f:Frm) (c:Nat):Bool:=
 if c=111 then redN (opOf f.s) else if c=119 then decide (f.s=(⟨#[111,117,116]⟩:ByteArray)∨f.s=(⟨#[105,110]⟩:ByteArray)) else if c=116∨c=102 then f.k==1 else true
structure Ctn where
 name:ByteArray
 op:Nat
 inn:Bool
 e:Int
 cond:Int
 acts:List Actn
 thn:List Int
 els:List Int
def ctn0:Ctn:=⟨emptyS,0,false, -1, -1,[],[],[]⟩
abbrev RdE (α:Type):=Nat→ES→Except Int (α × ES)
def takeP (l:List Frm) (ex:RdE Int) (ac:RdE Actn) (st:RdE Int) (c:Ctn) (kid part:Nat) (q:ES):Except Int (Ctn × ES):=
 if part=110 then (if nmOk (frm l kid).s=true then .ok ({ c with name:=(frm l kid).s },q) else .error (frm l kid).p)
 else if part=111 then .ok ({ c with op:=opOf (frm l kid).s },q)
 else if part=119 then .ok ({ c with inn:=decide ((frm l kid).s=(⟨#[105,110]⟩:ByteArray)) },q)
 else if part=101 then (match ex kid q with|.error p=>.error p|.ok (i,q')=>.ok ({ c with e:=i },q'))
 else if part=99 then (match ex kid q with|.error p=>.error p|.ok (i,q')=>.ok ({ c with cond:=i },q'))
 else if part=97 then (match ac kid q with|.error p=>.error p|.ok (a,q')=>.ok ({ c with acts:=c.acts++[a] },q'))
 else if part=116 then (match rows st (frm l kid).kids q with|.error p=>.error p|.ok (is,q')=>.ok ({ c with thn:=is },q'))
 else if part=102 then (match rows st (frm l kid).kids q with|.error p=>.error p|.ok (is,q')=>.ok ({ c with els:=is },q'))
 else if part=115 then (match st kid q with|.error p=>.error p|.ok (i,q')=>.ok ({ c with thn:=c.thn++[i] },q'))
 else .ok (c,q)
def takesP (tk:Ctn→Nat→Nat→ES→Except Int (Ctn × ES)) (ps:List Nat):List Nat→Nat→Ctn→ES→Except Int (Ctn × ES)
 | [],_,c,q=>.ok (c,q)
 | kid::r,i,c,q=>match tk c kid (nthP ps i) q with
  | .error p=>.error p
  | .ok (c',q')=>takesP tk ps r (i+1) c' q'
def lookAll (l:List Frm) (ps:List Nat):List Nat→Nat→Bool
 | [],_=>true
 | kid::r,i=>looksP (frm l kid) (nthP ps i) && lookAll l ps r (i+1)
def contentP (l:List Frm) (tk:Ctn→Nat→Nat→ES→Except Int (Ctn × ES)) (ps:List Nat) (n:Nat) (kids:List Nat) (q:ES):Except Int (Ctn × ES):=
 if fitsP ps kids.length=true∧lookAll l ps kids 0=true then takesP tk ps kids 0 ctn0 q else .error (frm l n).p
def noE {α:Type} (l:List Frm):RdE α:=fun n _=>.error (frm l n).p
def addX (q:ES) (x:Exp):Except Int (Int × ES):=.ok ((q.1.length:Int),(q.1++[x],q.2))
def pExpr (l:List Frm):Nat→RdE Int
 | 0,n,_=>.error (frm l n).p
 | f+1,n,q=>
  if (frm l n).k=4 then addX q ⟨1,1,0,emptyS,(frm l n).n,[]⟩
  else if (frm l n).s=(⟨#[116,114,117,101]⟩:ByteArray) then addX q ⟨1,2,0,emptyS,1,[]⟩
  else if (frm l n).s=(⟨#[102,97,108,115,101]⟩:ByteArray) then addX q ⟨1,2,0,emptyS,0,[]⟩
  else if nmOk (frm l n).s=true then addX q ⟨2,0,0,(frm l n).s,0,[]⟩
  else if opOf (brkW l n)≠0 then
   if (brkK l n).length≠arityN (opOf (brkW l n)) then .error (frm l n).p
   else match rows (pExpr l f) (brkK l n) q with
    | .error p=>.error p
    | .ok (is,q')=>addX q' ⟨10,0,opOf (brkW l n),emptyS,0,is⟩
  else if exprOf (brkW l n)=0 then .error (frm l n).p
  else match contentP l (takeP l (noE l) (noE l) (noE l)) (exprSh (exprOf (brkW l n))) n (brkK l n) q with
   | .error p=>.error p
   | .ok (c,q')=>addX q' ⟨exprOf (brkW l n),0,0,c.name,if c.inn=true then 1 else 0,[]⟩
def pE (l:List Frm):RdE Int:=pExpr l (big l)
def pAct (l:List Frm):RdE Actn:=fun n q=>
 if actOf (brkW l n)=0 then .error (frm l n).p
 else match contentP l (takeP l (pE l) (noE l) (noE l)) (actSh (actOf (brkW l n))) n (brkK l n) q with
  | .error p=>.error p
  | .ok (c,q')=>.ok (⟨actOf (brkW l n),c.name,c.op,c.inn,c.e,c.cond⟩,q')
def pStmt (l:List Frm):Nat→RdE Int
 | 0,n,_=>.error (frm l n).p
 | f+1,n,q=>
  if stmtOf (brkW l n)=0 then .error (frm l n).p
  else match contentP l (takeP l (pE l) (pAct l) (pStmt l f)) (stmtSh (stmtOf (brkW l n))) n (brkK l n) q with
   | .error p=>.error p
   | .ok (c,q')=>addS q' ⟨stmtOf (brkW l n),c.name,c.op,c.e,c.cond,c.acts,c.thn,c.els⟩
def pTop (l:List Frm):List Nat→Prg→Except Int Prg
 | [],p=>.ok p
 | n::r,p=>
  match declOf (brkW l n) with
  | some (sd,kd)=>
   if p.main≠[] then .error (frm l n).p
   else match contentP l (takeP l (noE l) (noE l) (noE l)) [110] n (brkK l n) (p.exprs,p.stmts) with
    | .error e=>.error e
    | .ok (c,_)=>pTop l r { p with decls:=p.decls++[⟨c.name,sd,kd⟩] }
  | none=>match pStmt l (big l) n (p.exprs,p.stmts) with
   | .error e=>.error e
   | .ok (i,q)=>pTop l r { p with exprs:=q.1,stmts:=q.2,main:=p.main++[i] }
def prg0:Prg:=⟨[],[],[],[]⟩
open Go.RowKit
abbrev WR (l:Nat):Fence:=Fence.wide.inRound l
def noDefer (ops:Array Oper):Bool:=ops.all fun o=>match o.op with|.defer _=>false|_=>true
theorem noDefer_spec {ops:Array Oper} (h:noDefer ops=true) {i:Nat} {o:Oper} (ho:ops[i]?=some o) (c:Call):o.op≠.defer c:=by
 intro e
 have hm:o∈ops:=Array.mem_of_getElem? ho
 have h1:=(Array.all_eq_true'.1 h) o hm
 rw [e] at h1
 cases h1
theorem rowsIn_wide {n l:Nat} {P:Program} {row:String} {args:Array Value} {w:World} {R:Value→World→Prop} (h:Rows P row args w R):RowsIn (WR l) n P row args w R:=by
 intro c cs _
 obtain ⟨v,w',hr,hs⟩:=h c cs
 exact ⟨v,w',hr,stepsIn_wide.2 hs⟩
theorem uponIn_of {l n:Nat} {P:Program} {o:Oper} {a:Act} {K:Act→World→Prop} {Q:Exit→Act→World→Prop} {r:Result Next} (h:o.upon P a K Q r):o.uponIn (WR l) n P a K Q r:=by
 cases r with
 | ok x w'=>
  cases x with
  | value v=>exact h
  | skip=>exact h
  | defer d=>exact h
  | enter f args=>exact ⟨fun hd=>(by cases hd),CallsIn.inRound l (callsIn_wide.2 h)⟩
  | row row args=>exact ⟨fun hd=>(by cases hd),rowsIn_wide h⟩
  | _=>exact h.elim
 | halt x w'=>cases x<;>first|exact h|exact h.elim
theorem opIn_of {l n:Nat} {P:Program} {o:Oper} {a:Act} {w:World} {K:Act→World→Prop} {Q:Exit→Act→World→Prop} (hd:∀ c,o.op≠.defer c) (h:o.wp P a w K Q):o.wpIn (WR l) n P a w K Q:=by
 refine ⟨fun _ _=>trivial,?_⟩
 rw [show (WR l).round=some l from rfl,Oper.semAt_some l _ _ hd]
 exact uponIn_of h
theorem wpOpIn_of {l n:Nat} {P:Program} {ops:Array Oper} {Q:Exit→Act→World→Prop} (hd:noDefer ops=true) (hQ:¬ LetsOut Q) {i:Nat} {K:Act→World→Prop} {a:Act} {w:World} (h:wpOp P ops Q i K a w) :
  wpOpIn (WR l) n P ops Q i K a w:=by
 unfold wpOp at h
 unfold wpOpIn
 cases ho:ops[i]? with
 | none=>rw [ho] at h;exact h
 | some o=>
  rw [ho] at h
  simp only at h ⊢
  split
  ·rename_i hw
   rw [if_pos hw] at h
   rcases h with h|⟨_,h⟩
   ·exact opIn_of (noDefer_spec hd ho) h
   ·exact absurd h hQ
  ·rename_i hw
   rw [if_neg hw] at h
   exact ⟨fun _ _=>trivial,h⟩
theorem wpAnyIn_of {l n:Nat} {P:Program} {md:Region.Mode} {ops:Array Oper} {Q:Exit→Act→World→Prop} (hd:noDefer ops=true) (hQ:¬ LetsOut Q) :
  ∀ (fuel:Nat) (listed:Array Bool) (a:Act) (w:World),wpAny P md ops Q fuel listed a w→wpAnyIn (WR l) n P md ops Q fuel listed a w
 | 0,_,_,_,h=>h
 | fuel+1,_,_,_,h=>⟨h.1,fun i hi=>wpOpIn_mono (fun a' w' h'=>wpAnyIn_of hd hQ fuel _ a' w' h') (wpOpIn_of hd hQ (h.2 i hi))⟩
def Goes (R:Act→World→Prop):Exit→Act→World→Prop
 | .normal,a,w=>R a w
 | _,_,_=>False
theorem goes_out (R:Act→World→Prop):¬ LetsOut (Goes R):=fun ⟨_,_,h⟩=>h
theorem goes_imp {R:Act→World→Prop} {Q:Exit→Act→World→Prop} (h:∀ a w,R a w→Q .normal a w):∀ e a w,Goes R e a w→Q e a w:=fun e a w hg=>by cases e<;>first|exact h a w hg|exact hg.elim
theorem Tryz.mixed:Tryz.prog.follows .mixedOrders=true:=by kernel_rfl
def opVals:Array Value:=#[.string ⟨#[]⟩,.string ⟨#[43]⟩,.string ⟨#[45]⟩,.string ⟨#[42]⟩,.string ⟨#[47]⟩,.string ⟨#[37]⟩,.string ⟨#[109,105,110]⟩,.string ⟨#[109,97,120]⟩,.string ⟨#[115,104,108]⟩,.string ⟨#[115,104,114]⟩,.string ⟨#[38]⟩,.string ⟨#[124]⟩,.string ⟨#[94]⟩,.string ⟨#[61]⟩,.string ⟨#[60]⟩,.string ⟨#[110,111,116]⟩,.string ⟨#[97,110,100]⟩,.string ⟨#[111,114]⟩,.string ⟨#[105,102]⟩,.string ⟨#[110,97,114,114,111,119]⟩]
def opZeros:Array Value:=#[.string ⟨#[]⟩,.string ⟨#[]⟩,.string ⟨#[]⟩,.string ⟨#[]⟩,.string ⟨#[]⟩,.string ⟨#[]⟩,.string ⟨#[]⟩,.string ⟨#[]⟩,.string ⟨#[]⟩,.string ⟨#[]⟩,.string ⟨#[]⟩,.string ⟨#[]⟩,.string ⟨#[]⟩,.string ⟨#[]⟩,.string ⟨#[]⟩,.string ⟨#[]⟩,.string ⟨#[]⟩,.string ⟨#[]⟩,.string ⟨#[]⟩,.string ⟨#[]⟩]
theorem wpList_run {P:Program} {ops:Array Oper} {rest:List Oper} {o:Oper} {a:Act} {Q:Exit→Act→World→Prop} {w w':World} {v:Value} (hg:o.guard=none) (hr:(execOp a.eval o).run P w=.ok (.value v) w') (h:wpList P ops Q rest (a.put o.dst v) w'):wpList P ops Q (o::rest) a w:=
 wpList_plain hg fun _ hK=>by
  unfold Oper.wp
  rw [hr]
  exact hK _ _ h
theorem wpList_skip {P:Program} {ops:Array Oper} {rest:List Oper} {o:Oper} {a:Act} {Q:Exit→Act→World→Prop} {w w':World} (hg:o.guard=none) (hr:(execOp a.eval o).run P w=.ok .skip w') (h:wpList P ops Q rest (a.put o.dst undef) w'):wpList P ops Q (o::rest) a w:=
 wpList_plain hg fun _ hK=>by
  unfold Oper.wp
  rw [hr]
  exact hK _ _ h
theorem op_one:opVals.all (·.oneCell')=true:=by kernel_rfl
theorem op_size:(Tryz.prog.info? 209).map (·.size)=some opVals.size:=by kernel_rfl
theorem op_zero:(Tryz.prog.info? 209).map (fun i=>(i.zero,i.size))=some (some (.agg opZeros),20):=by kernel_rfl
theorem op_under:Tryz.prog.underlying 209=some (.array 20 9):=by kernel_rfl
set_option maxRecDepth 20000 in
theorem opWords_any (w:World):Calls Tryz.prog 119 #[] w fun e w'=>e=.returned (.agg opVals)∧w'=w.alloc (.cells opVals 209):=by
 go_enter Tryz.func119,Tryz.ntmps119
 refine wp_seq ?_
 refine wp_region_list ?_
 refine wpList_run (v:=.pointer (some ⟨w.heap.size,0,none⟩)) (w':=w.alloc (.cells opZeros 209)) rfl ?_ ?_
 ·have hz:=(zero_of_info op_zero).1
  simp [execOp,Instr.alloc,newVar,newRow,hz,Result.andThen,Value.cells]
 refine wpList_nil ?_
 simp only [Exit.then]
 refine wp_seq ?_
 refine wp_region_list ?_
 refine wpList_run (v:=.agg opVals) (w':=w.alloc (.cells opZeros 209)) rfl (by kernel_rfl) ?_
 refine wpList_skip (w':=w.alloc (.cells opVals 209)) rfl ?_ ?_
 ·have hs:=run_storeAt_new (P:=Tryz.prog) w 209 opZeros opVals op_size rfl op_one
  simp only [execOp,Sem.run_bind]
  show ((Sem.run Tryz.prog (Instr.storeAt 209 (.pointer (some ⟨w.heap.size,0,none⟩)) (.agg opVals)) (w.alloc (.cells opZeros 209))).andThen fun a w'=>Sem.run Tryz.prog (pure Next.skip) w')=_
  rw [hs]
  rfl
 refine wpList_nil ?_
 simp only [Exit.then]
 refine wp_ret ?_
 refine bodyPost_ret (v:=.agg opVals) ?_ rfl ⟨rfl,rfl⟩
 rw [zaC rfl]
 exact run_loadVar_new w 209 opVals 20 9 op_under op_size
def opWd (o:Nat):ByteArray:=match opVals[o]? with|some (.string s)=>s|_=>⟨#[]⟩
theorem opWord_any (o:Nat) (ho:o≤19) (w:World):Calls Tryz.prog 87 #[.int .u8 (o:Int)] w fun e w'=>e=.returned (.string (opWd o))∧Below w.heap.size w w':=by
 have C:=hidI (opWords_any w)
 have h1:((o:Int)>19)=False:=by simp;omega
 have hi:(Instr.index 209 (.agg opVals) (.int .u8 (o:Int))).run Tryz.prog (w.alloc (.cells opVals 209))=.ok (.string (opWd o)) (w.alloc (.cells opVals 209)):=by
  have hm:o=0∨o=1∨o=2∨o=3∨o=4∨o=5∨o=6∨o=7∨o=8∨o=9∨o=10∨o=11∨o=12∨o=13∨o=14∨o=15∨o=16∨o=17∨o=18∨o=19:=by omega
  rcases hm with rfl|rfl|rfl|rfl|rfl|rfl|rfl|rfl|rfl|rfl|rfl|rfl|rfl|rfl|rfl|rfl|rfl|rfl|rfl|rfl<;>(show _=_;kernel_rfl)
 generalize hov:opVals=ov at C hi
 clear hov
 go_enter Tryz.func87,Tryz.ntmps87
 go_wp2_with (go_at_call 119;refine C.out.mono ?_;rintro e w1 ⟨rfl,rfl⟩;clear C)
 go_ret
 exact ⟨rfl,by exact belowT⟩
theorem declSh11 (w:World):Calls Tryz.prog 88 #[.int .u8 1,.int .u8 1] w (ShPost w ⟨#[105,110,116]⟩ ⟨#[110]⟩):=by
 go_enter Tryz.func88,Tryz.ntmps88
 go_wp2
 go_region
 all_goals
  go_wp2
  (try simp only [Exit.inBlock,Exit.then])
  refine bodyPost_ret (v:=.agg #[.string ⟨#[105,110,116]⟩,.string ⟨#[110]⟩]) ?_ rfl ⟨by simp,?_⟩
  ·rw [zaC rfl]
   go_simp
   kernel_rfl
  ·exact belowT
theorem declSh12 (w:World):Calls Tryz.prog 88 #[.int .u8 1,.int .u8 2] w (ShPost w ⟨#[98,111,111,108]⟩ ⟨#[110]⟩):=by
 go_enter Tryz.func88,Tryz.ntmps88
 go_wp2
 go_region
 all_goals
  go_wp2
  (try simp only [Exit.inBlock,Exit.then])
  refine bodyPost_ret (v:=.agg #[.string ⟨#[98,111,111,108]⟩,.string ⟨#[110]⟩]) ?_ rfl ⟨by simp,?_⟩
  ·rw [zaC rfl]
   go_simp
   kernel_rfl
  ·exact belowT
theorem declSh21 (w:World):Calls Tryz.prog 88 #[.int .u8 2,.int .u8 1] w (ShPost w ⟨#[110,105,110,116]⟩ ⟨#[110]⟩):=by
 go_enter Tryz.func88,Tryz.ntmps88
 go_wp2
 go_region
 all_goals
  go_wp2
  (try simp only [Exit.inBlock,Exit.then])
  refine bodyPost_ret (v:=.agg #[.string ⟨#[110,105,110,116]⟩,.string ⟨#[110]⟩]) ?_ rfl ⟨by simp,?_⟩
  ·rw [zaC rfl]
   go_simp
   kernel_rfl
  ·exact belowT
theorem declSh22 (w:World):Calls Tryz.prog 88 #[.int .u8 2,.int .u8 2] w (ShPost w ⟨#[110,98,111,111,108]⟩ ⟨#[110]⟩):=by
 go_enter Tryz.func88,Tryz.ntmps88
 go_wp2
 go_region
 all_goals
  go_wp2
  (try simp only [Exit.inBlock,Exit.then])
  refine bodyPost_ret (v:=.agg #[.string ⟨#[110,98,111,111,108]⟩,.string ⟨#[110]⟩]) ?_ rfl ⟨by simp,?_⟩
  ·rw [zaC rfl]
   go_simp
   kernel_rfl
  ·exact belowT
theorem declSh31 (w:World):Calls Tryz.prog 88 #[.int .u8 3,.int .u8 1] w (ShPost w ⟨#[101,105,110,116]⟩ ⟨#[110]⟩):=by
 go_enter Tryz.func88,Tryz.ntmps88
 go_wp2
 go_region
 all_goals
  go_wp2
  (try simp only [Exit.inBlock,Exit.then])
  refine bodyPost_ret (v:=.agg #[.string ⟨#[101,105,110,116]⟩,.string ⟨#[110]⟩]) ?_ rfl ⟨by simp,?_⟩
  ·rw [zaC rfl]
   go_simp
   kernel_rfl
  ·exact belowT
theorem declSh32 (w:World):Calls Tryz.prog 88 #[.int .u8 3,.int .u8 2] w (ShPost w ⟨#[101,98,111,111,108]⟩ ⟨#[110]⟩):=by
 go_enter Tryz.func88,Tryz.ntmps88
 go_wp2
 go_region
 all_goals
  go_wp2
  (try simp only [Exit.inBlock,Exit.then])
  refine bodyPost_ret (v:=.agg #[.string ⟨#[101,98,111,111,108]⟩,.string ⟨#[110]⟩]) ?_ rfl ⟨by simp,?_⟩
  ·rw [zaC rfl]
   go_simp
   kernel_rfl
  ·exact belowT
end Go.Proofs.YtmekkhfohmfjkaaGreatDoor
