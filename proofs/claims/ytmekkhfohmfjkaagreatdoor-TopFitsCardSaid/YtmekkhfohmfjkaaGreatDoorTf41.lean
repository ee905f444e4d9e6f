/-
  Part 41 of the proof: ArrI.
-/
import Derived.Lib.SmallJoins
import Derived.OpenShut
namespace Go.Proofs.YtmekkhfohmfjkaaGreatDoor
open Go.ChangeShapes Go.WideShapes Go.RowKit
theorem open_intarray {H:Type} {enc:TypeId × Value→H} {P:Program} {w:World} {base b0:Nat} {spare:Nat→Bool} {held:Bool} {r:Reach} {t e:TypeId} {n:Nat} {k:IntKind} {v:Value} {d:DataW H} {p:List MemPlace}
  (ht:P.underlying t=some (.array n e)) (he:P.underlying e=some (.int k)) (hce:P.cellsOf e=1) (hct:P.cellsOf t=n)
  (hv:Value.okWide P w r b0 t v) (h:DataW.Trod enc P w base spare held t v d p) :
  ∃ zs:List Int,zs.length=n∧v=.agg (zs.map fun z=>Value.int k z).toArray∧∀ z∈zs,(Lit.int k z).wf=true:=by
 have hv':=hv
 simp only [Value.okWide,ht] at hv'
 obtain ⟨cs,rfl,hsz,_⟩:=hv'
 obtain ⟨fuel,hf⟩:=h
 obtain ⟨xs,m,_,_,hl,_,hi⟩:=DataW.trod_array ht hf
 have hl':cs.toList.length=n:=by simpa [Value.cells,hct] using hl
 have hone:∀ i,i<n→∃ z,cs.toList[i]?=some (.int k z)∧(Lit.int k z).wf=true:=fun i hin=>by
  have h1:=hi i hin
  rw [hce,Nat.mul_one] at h1
  have hx:∃ y,xs[i]?=some y:=⟨xs[i],by simp⟩
  obtain ⟨y,hy⟩:=hx
  rw [hy] at h1
  obtain ⟨z,hz,_,hw⟩:=DataW.trod_int he h1
  refine ⟨z,?_,hw⟩
  have:=congrArg (·[0]?) hz
  simpa [Value.cells,List.getElem?_take,List.getElem?_drop] using this
 have key:∀ l:List Value,(∀ i,i<l.length→∃ z,l[i]?=some (.int k z)∧(Lit.int k z).wf=true)→∃ zs:List Int,zs.length=l.length∧l=zs.map (fun z=>Value.int k z)∧∀ z∈zs,(Lit.int k z).wf=true:=by
  intro l
  induction l with
  | nil=>intro _;exact ⟨[],rfl,rfl,by simp⟩
  | cons c r ih=>
   intro hh
   obtain ⟨z,hz,hw⟩:=hh 0 (by simp)
   obtain ⟨zs,h1,h2,h3⟩:=ih (fun i hi=>by simpa using hh (i+1) (by simpa using hi))
   simp at hz
   subst hz
   exact ⟨z::zs,by simp [h1],by simp [h2],by simpa using ⟨hw,h3⟩⟩
 obtain ⟨zs,h1,h2,h3⟩:=key cs.toList (fun i hi=>hone i (by omega))
 exact ⟨zs,by omega,by rw [←h2],h3⟩
theorem open_bool1 {H:Type} {enc:TypeId × Value→H} {P:Program} {w:World} {base b0:Nat} {spare:Nat→Bool} {held:Bool} {r:Reach} {t:TypeId} {v:Value} {d:DataW H} {ps:List MemPlace}
  (ht:P.underlying t=some .bool) (hv:Value.okWide P w r b0 t v) (h:DataW.Trod enc P w base spare held t v d ps):∃ b,v=.bool b∧d=.lit (.bool b)∧ps=[]:=by
 have hb:∃ b,v=.bool b:=by
  cases v<;>simp_all [Value.okWide,Cell.okWide,Cell.ok]
 obtain ⟨b,rfl⟩:=hb
 obtain ⟨fuel,hf⟩:=h
 obtain ⟨b',h,hx⟩:=DataW.trod_bool ht hf
 simp [Value.cells] at h
 subst h
 exact ⟨_,rfl,by simpa using congrArg Prod.fst hx,by simpa using congrArg Prod.snd hx⟩
end Go.Proofs.YtmekkhfohmfjkaaGreatDoor
