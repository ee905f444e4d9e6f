/-
  Arguments as the laws of Agg take them, besides.
-/
import Derived.Test.YthjpoemgoeckbaaOpenA
import Derived.Test.YthjpoemgoeckbaaRAgg
import Derived.Lib.SmallJoins
import Derived.OpenShut
namespace Go.Proofs.Ythjpoemgoeckbaa
open Go.ChangeShapes Go.WideShapes Go.ChangeAt Go.RowKit Go.Deep
theorem nat_u64 {a : Int} (h : (Lit.int .u64 a).wf = true) : ∃ n : Nat, a = (n : Int) ∧ n < 18446744073709551616 := by
  have e1 : IntKind.u64.min = 0 := rfl
  have e2 : IntKind.u64.max = 18446744073709551615 := rfl
  simp only [Lit.wf, e1, e2, Bool.and_eq_true, decide_eq_true_eq] at h
  exact ⟨a.toNat, by omega, by omega⟩
theorem nat_u8 {a : Int} (h : (Lit.int .u8 a).wf = true) : ∃ n : Nat, a = (n : Int) ∧ n < 256 := by
  have e1 : IntKind.u8.min = 0 := rfl
  have e2 : IntKind.u8.max = 255 := rfl
  simp only [Lit.wf, e1, e2, Bool.and_eq_true, decide_eq_true_eq] at h
  exact ⟨a.toNat, by omega, by omega⟩
theorem two_of {l : List Int} (h : l.length = 2) : ∃ x y, l = [x, y] := by
  match l, h with
  | [x, y], _ => exact ⟨x, y, rfl⟩
theorem open_intarray {H : Type} {enc : TypeId × Value → H} {P : Program} {w : World} {base b0 : Nat} {spare : Nat → Bool} {held : Bool} {r : Reach} {t e : TypeId} {n : Nat} {k : IntKind} {v : Value} {d : DataW H} {p : List MemPlace}
    (ht : P.underlying t = some (.array n e)) (he : P.underlying e = some (.int k)) (hce : P.cellsOf e = 1) (hct : P.cellsOf t = n)
    (hv : Value.okWide P w r b0 t v) (h : DataW.Trod enc P w base spare held t v d p) :
    ∃ zs : List Int, zs.length = n ∧ v = .agg (zs.map fun z => Value.int k z).toArray ∧ ∀ z ∈ zs, (Lit.int k z).wf = true := by
  have hv' := hv
  simp only [Value.okWide, ht] at hv'
  obtain ⟨cs, rfl, hsz, _⟩ := hv'
  obtain ⟨fuel, hf⟩ := h
  obtain ⟨xs, m, _, _, hl, _, hi⟩ := DataW.trod_array ht hf
  have hl' : cs.toList.length = n := by simpa [Value.cells, hct] using hl
  have hone : ∀ i, i < n → ∃ z, cs.toList[i]? = some (.int k z) ∧ (Lit.int k z).wf = true := fun i hin => by
    have h1 := hi i hin
    rw [hce, Nat.mul_one] at h1
    have hx : ∃ y, xs[i]? = some y := ⟨xs[i], by simp⟩
    obtain ⟨y, hy⟩ := hx
    rw [hy] at h1
    obtain ⟨z, hz, _, hw⟩ := DataW.trod_int he h1
    refine ⟨z, ?_, hw⟩
    have := congrArg (·[0]?) hz
    simpa [Value.cells, List.getElem?_take, List.getElem?_drop] using this
  have key : ∀ l : List Value, (∀ i, i < l.length → ∃ z, l[i]? = some (.int k z) ∧ (Lit.int k z).wf = true) → ∃ zs : List Int, zs.length = l.length ∧ l = zs.map (fun z => Value.int k z) ∧ ∀ z ∈ zs, (Lit.int k z).wf = true := by
    intro l
    induction l with
    | nil => intro _; exact ⟨[], rfl, rfl, by simp⟩
    | cons c r ih =>
      intro hh
      obtain ⟨z, hz, hw⟩ := hh 0 (by simp)
      obtain ⟨zs, h1, h2, h3⟩ := ih (fun i hi => by simpa using hh (i + 1) (by simpa using hi))
      simp at hz
      subst hz
      exact ⟨z :: zs, by simp [h1], by simp [h2], by simpa using ⟨hw, h3⟩⟩
  obtain ⟨zs, h1, h2, h3⟩ := key cs.toList (fun i hi => hone i (by omega))
  exact ⟨zs, by omega, by rw [← h2], h3⟩
set_option maxRecDepth 100000 in
theorem open_words {H : Type} {enc : TypeId × Value → H} {W : World} {base : Nat} {v : Value} {d : DataW H} {p : List MemPlace} (hv : Value.okWide Try.prog W .any base 39 v)
    (h1 : DataW.Trod enc Try.prog W 0 (fun _ => true) true 39 v d p) : ∃ zs : List Int, SeesW W v zs ∧ ∀ z ∈ zs, In64 z := by
  obtain ⟨ad, len, cap, rfl⟩ := okWide_slice Try.underlying39 hv
  obtain ⟨fuel, hf⟩ := h1
  rcases open_ints Try.underlying39 Try.underlying41 (by kernel_rfl) hf with ⟨hcs, _⟩ | ⟨x, l, c, zs, hcs, _, hl, hm, hz, _, hcell, hwz⟩
  · simp [Value.cells] at hcs
    obtain ⟨rfl, rfl, rfl⟩ := hcs
    exact ⟨[], ⟨none, 0, rfl, Nat.le_refl _, .inl rfl⟩, by simp⟩
  · simp [Value.cells] at hcs
    obtain ⟨rfl, rfl, rfl⟩ := hcs
    have hz' : zs.length = cap := by simpa using hz
    have htl : (zs.take len).length = len := by rw [List.length_take]; omega
    refine ⟨zs.take len, ⟨some x, cap, by rw [htl], by rw [htl]; exact hl, ?_⟩, fun z hz => in64 (hwz z (List.mem_of_mem_take hz))⟩
    by_cases h0 : len = 0
    · left; rw [h0]; rfl
    right
    obtain ⟨b, off, spot⟩ := x
    have hc := hcell 0 (by omega)
    have hspot : spot = none := by simpa [Addr.add] using World.cell?_spot hc
    subst hspot
    refine ⟨b, off, rfl, fun j y hy => ?_⟩
    have hj : j < len := by have := (List.getElem?_eq_some_iff.1 hy).1; rw [htl] at this; exact this
    have := hcell j (by omega)
    rw [Addr.add_lit] at this
    rw [this]
    have hy2 := (List.getElem?_eq_some_iff.1 hy).2
    rw [List.getElem_take] at hy2
    rw [← hy2]
    simp [List.getD, show j < zs.length by omega]
set_option maxRecDepth 100000 in
theorem open_deedarg {H : Type} {enc : TypeId × Value → H} {W : World} {base : Nat} {v : Value} {d : DataW H} {p : List MemPlace} (hv : Value.okWide Try.prog W .any base 54 v)
    (h1 : DataW.Trod enc Try.prog W 0 (fun _ => true) true 54 v d p) : ∃ y : Msg, v = y.value ∧ y.inr := by
  simp only [Value.okWide, Try.underlying54] at hv
  obtain ⟨cs, rfl, hsz, _⟩ := hv
  obtain ⟨fuel, hf⟩ := h1
  have hl : cs.toList.length = 3 := by
    have c3 : Try.prog.cellsOf 54 = 3 := by kernel_rfl
    rw [c3] at hsz
    simpa using hsz
  obtain ⟨y, hy, hok⟩ := open_deed hl hf
  refine ⟨y, ?_, hok⟩
  obtain rfl : cs = _ := Array.toList_inj.1 (hy.trans (by rfl : _ = (#[Value.int .i64 y.to, .int .i64 y.tag, .int .i64 y.val] : Array Value).toList))
  rfl
set_option maxRecDepth 100000 in
theorem open_deedsc {H : Type} {enc : TypeId × Value → H} {W : World} {fuel : Nat} {cs : List Value} {x : DataW H × List MemPlace} (hf : DataW.trod enc Try.prog W 0 (fun _ => true) true fuel 23 cs = some x) : ∃ v, cs = [v] ∧ ∃ xs : List Msg, SeesM W v xs ∧ ∀ x ∈ xs, x.inr := by
  obtain ⟨dd, pp⟩ := x
  rcases open_slice Try.underlying23 hf with ⟨hcs, _⟩ | ⟨x, l, c, m, n, D, Pl, hcs, _, hl, hm, hmm, _, hx⟩
  · subst hcs
    exact ⟨_, rfl, [], SeesM.nil, by simp⟩
  · subst hcs
    have hmc : m = c := by simpa using hmm
    subst hmc
    have c3 : Try.prog.cellsOf 54 = 3 := by kernel_rfl
    rw [c3] at hx
    have each : ∀ i, i < m → ∃ y : Msg, (W.cell? (x.add (i * 3)) = some (.int .i64 y.to) ∧ W.cell? (x.add (i * 3 + 1)) = some (.int .i64 y.tag) ∧ W.cell? (x.add (i * 3 + 2)) = some (.int .i64 y.val)) ∧ y.inr := by
      intro i hi
      obtain ⟨cs', h1, h2⟩ := hx i hi
      obtain ⟨_, hlen, hcell⟩ := World.cells?_some h1
      obtain ⟨y, rfl, hok⟩ := open_deed hlen h2
      have e := fun j hj => hcell j hj
      simp only [add_add] at e
      exact ⟨y, ⟨e 0 (by omega), e 1 (by omega), e 2 (by omega)⟩, hok⟩
    obtain ⟨f, hf'⟩ := choose_lt each
    refine ⟨_, rfl, (List.range l).map f, ⟨some x, m, by simp, by simpa using hl, ?_⟩, fun y hy => ?_⟩
    · by_cases h0 : l = 0
      · left; rw [h0]; rfl
      right
      obtain ⟨b, off, spot⟩ := x
      have hc := (hf' 0 (by omega)).1.1
      have hspot : spot = none := by simpa [Addr.add] using World.cell?_spot hc
      subst hspot
      refine ⟨b, off, rfl, fun j y hy => ?_⟩
      have hj : j < l := by have := (List.getElem?_eq_some_iff.1 hy).1; simpa using this
      have hfj : y = f j := by rw [List.getElem?_map] at hy; simp [hj] at hy; exact hy.symm
      have e := (hf' j (by omega)).1
      simp only [Addr.add_lit, ← Nat.add_assoc] at e
      rw [hfj]
      exact e
    · obtain ⟨j, hj, rfl⟩ := List.mem_map.1 hy
      exact (hf' j (by have := List.mem_range.1 hj; omega)).2
set_option maxRecDepth 100000 in
theorem open_adeeds {H : Type} {enc : TypeId × Value → H} {W : World} {base : Nat} {v : Value} {d : DataW H} {p : List MemPlace} (hv : Value.okWide Try.prog W .any base 34 v)
    (h1 : DataW.Trod enc Try.prog W 0 (fun _ => true) true 34 v d p) : ∃ (s0 s1 : Value), v = .agg #[s0, s1] ∧ ∃ xs ys : List Msg, (SeesM W s0 xs ∧ ∀ x ∈ xs, x.inr) ∧ (SeesM W s1 ys ∧ ∀ x ∈ ys, x.inr) := by
  simp only [Value.okWide, Try.underlying34] at hv
  obtain ⟨cs, rfl, hsz, _⟩ := hv
  obtain ⟨fuel, hf⟩ := h1
  obtain ⟨xs, m, _, _, hl, _, hi⟩ := DataW.trod_array Try.underlying34 hf
  have c1 : Try.prog.cellsOf 23 = 1 := by kernel_rfl
  have c2 : Try.prog.cellsOf 34 = 2 := by kernel_rfl
  have hl' : cs.toList.length = 2 := by simpa [Value.cells, c2] using hl
  have g0 := hi 0 (by omega)
  have g1 := hi 1 (by omega)
  rw [c1] at g0 g1
  obtain ⟨x0, hx0⟩ : ∃ y, xs[0]? = some y := ⟨xs[0], by simp⟩
  obtain ⟨x1, hx1⟩ : ∃ y, xs[1]? = some y := ⟨xs[1], by simp⟩
  rw [hx0] at g0
  rw [hx1] at g1
  obtain ⟨s0, e0, l0, hs0⟩ := open_deedsc g0
  obtain ⟨s1, e1, l1, hs1⟩ := open_deedsc g1
  obtain ⟨cl⟩ := cs
  match cl, hl' with
  | [a, b], _ =>
    simp [Value.cells] at e0 e1
    subst e0 e1
    exact ⟨_, _, rfl, l0, l1, hs0, hs1⟩
end Go.Proofs.Ythjpoemgoeckbaa
