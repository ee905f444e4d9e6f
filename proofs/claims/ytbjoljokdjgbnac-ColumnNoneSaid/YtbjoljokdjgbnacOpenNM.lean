/-
  Arguments as the laws take them: a deed, two numbers.
-/
import Derived.Test.YtbjoljokdjgbnacGG
import Derived.Lib.SmallJoins
namespace Go.Proofs.Ytbjoljokdjgbnac
open Go.ChangeShapes Go.WideShapes Go.ChangeAt Go.RowKit Go.Deep Go.Joins
set_option maxRecDepth 100000 in
theorem open_deedarg {H : Type} {enc : TypeId × Value → H} {W : World} {base : Nat} {v : Value} {d : DataW H} {p : List MemPlace} (hv : Value.okWide Try.prog W .any base 38 v)
    (h1 : DataW.Trod enc Try.prog W 0 (fun _ => true) true 38 v d p) : ∃ y : Deed, v = .agg #[.int .i64 y.k, .string y.s, .int .u8 y.d, .int .u8 y.q, .int .i64 y.i, .int .i64 y.x, .slice y.a y.n y.cap] ∧ y.ok W.heap.size W := by
  simp only [Value.okWide, Try.underlying38] at hv
  obtain ⟨cs, rfl, hsz, _⟩ := hv
  obtain ⟨fuel, hf⟩ := h1
  have hl : cs.toList.length = 7 := by
    have c7 : Try.prog.cellsOf 38 = 7 := by kernel_rfl
    rw [c7] at hsz
    simpa using hsz
  obtain ⟨y, hy, hok⟩ := open_deed hl hf
  refine ⟨y, ?_, hok⟩
  obtain rfl : cs = _ := Array.toList_inj.1 (hy.trans (by rfl : _ = (#[Value.int .i64 y.k, .string y.s, .int .u8 y.d, .int .u8 y.q, .int .i64 y.i, .int .i64 y.x, .slice y.a y.n y.cap] : Array Value).toList))
  rfl
theorem open_intarray {H : Type} {enc : TypeId × Value → H} {P : Program} {w : World} {base b0 : Nat} {spare : Nat → Bool} {held : Bool} {r : Reach} {t e : TypeId} {n : Nat} {k : IntKind} {v : Value} {d : DataW H} {p : List MemPlace}
    (ht : P.underlying t = some (.array n e)) (he : P.underlying e = some (.int k)) (hce : P.cellsOf e = 1) (hct : P.cellsOf t = n)
    (hv : Value.okWide P w r b0 t v) (h : DataW.Trod enc P w base spare held t v d p) :
    ∃ zs : List Int, zs.length = n ∧ v = .agg (zs.map fun z => Value.int k z).toArray ∧ ∀ z ∈ zs, (Lit.int k z).wf = true := by
  have hv' := hv
  simp only [Value.okWide, ht] at hv'
  obtain ⟨cs, rfl, hsz, _⟩ := hv'
  obtain ⟨fuel, hf⟩ := h
  obtain ⟨xs, m, _, _, hl, _, hi⟩ := DataW.trod_array ht hf
  have hl' : cs.toList.length = n := by simpa [Value.cells, hct] using hl
  have hone : ∀ i, i < n → ∃ z, cs.toList[i]? = some (.int k z) ∧ (Lit.int k z).wf = true := fun i hin => by
    have h1 := hi i hin
    rw [hce, Nat.mul_one] at h1
    have hx : ∃ y, xs[i]? = some y := ⟨xs[i], by simp⟩
    obtain ⟨y, hy⟩ := hx
    rw [hy] at h1
    obtain ⟨z, hz, _, hw⟩ := DataW.trod_int he h1
    refine ⟨z, ?_, hw⟩
    have := congrArg (·[0]?) hz
    simpa [Value.cells, List.getElem?_take, List.getElem?_drop] using this
  have key : ∀ l : List Value, (∀ i, i < l.length → ∃ z, l[i]? = some (.int k z) ∧ (Lit.int k z).wf = true) → ∃ zs : List Int, zs.length = l.length ∧ l = zs.map (fun z => Value.int k z) ∧ ∀ z ∈ zs, (Lit.int k z).wf = true := by
    intro l
    induction l with
    | nil => intro _; exact ⟨[], rfl, rfl, by simp⟩
    | cons c r ih =>
      intro hh
      obtain ⟨z, hz, hw⟩ := hh 0 (by simp)
      obtain ⟨zs, h1, h2, h3⟩ := ih (fun i hi => by simpa using hh (i + 1) (by simpa using hi))
      simp at hz
      subst hz
      exact ⟨z :: zs, by simp [h1], by simp [h2], by simpa using ⟨hw, h3⟩⟩
  obtain ⟨zs, h1, h2, h3⟩ := key cs.toList (fun i hi => hone i (by omega))
  exact ⟨zs, by omega, by rw [← h2], h3⟩
theorem two_of {l : List Int} (h : l.length = 2) : ∃ x y, l = [x, y] := by
  match l, h with
  | [x, y], _ => exact ⟨x, y, rfl⟩
end Go.Proofs.Ytbjoljokdjgbnac
