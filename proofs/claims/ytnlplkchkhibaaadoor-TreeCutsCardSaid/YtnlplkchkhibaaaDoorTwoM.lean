/-
  Two lists of forms, one behind the other, have the shape of forms; what has it is right.
-/
import Derived.Test.YtnlplkchkhibaaaDoorHigher
namespace Go.Proofs.YtnlplkchkhibaaaDoor
open Go.RowKit Go.Deep Go.MapKept
theorem Seg.mem {K : Nat → List Nat} {lo hi : Nat} {l : List Nat} (h : Seg K lo hi l) : ∀ p ∈ l, lo ≤ p ∧ p < hi := by
  induction h with
  | nil => intro p hp; cases hp
  | @cons lo mid hi r h1 h2 ih1 ih2 =>
    intro p hp
    have l1 := h1.le
    have l2 := h2.le
    rcases List.mem_cons.1 hp with rfl | hp
    · omega
    · have := ih2 p hp; omega
theorem Seg.shift {K K' : Nat → List Nat} {n lo hi : Nat} {l : List Nat} (h : Seg K lo hi l) : (∀ i, lo ≤ i → i < hi → K' (i + n) = (K i).map (· + n)) → Seg K' (lo + n) (hi + n) (l.map (· + n)) := by
  induction h with
  | nil => intro _; exact .nil _
  | @cons lo mid hi r h1 h2 ih1 ih2 =>
    intro he
    have l1 := h1.le
    have l2 := h2.le
    rw [List.map_cons]
    refine .cons (mid := mid + n) ?_ (ih2 fun i a b => he i (by omega) b)
    rw [he lo (Nat.le_refl _) (by omega)]
    have := ih1 fun i a b => he i (by omega) (by omega)
    rw [show lo + n + 1 = lo + 1 + n by omega]
    exact this
def shiftF (n : Nat) (f : Frm) : Frm := ⟨f.k, f.s, f.n, f.kids.map (· + n), f.p⟩
def bothS (σ τ : St) : St := ⟨σ.forms ++ τ.forms.map (shiftF σ.forms.length), σ.top ++ τ.top.map (· + σ.forms.length), []⟩
theorem getD_left {a b : List Nat} {i : Nat} (h : i < a.length) : (a ++ b).getD i 0 = a.getD i 0 := by
  rw [List.getD_eq_getElem?_getD, List.getD_eq_getElem?_getD, List.getElem?_append_left h]
theorem getD_right {a b : List Nat} {i : Nat} : (a ++ b).getD (i + a.length) 0 = b.getD i 0 := by
  rw [List.getD_eq_getElem?_getD, List.getD_eq_getElem?_getD, List.getElem?_append_right (by omega), Nat.add_sub_cancel]
theorem both_at {σ τ : St} {i : Nat} {f : Frm} (h : (bothS σ τ).forms[i]? = some f) : (i < σ.forms.length ∧ σ.forms[i]? = some f) ∨ ∃ j g, i = j + σ.forms.length ∧ τ.forms[j]? = some g ∧ f = shiftF σ.forms.length g := by
  simp only [bothS] at h
  by_cases hi : i < σ.forms.length
  · rw [List.getElem?_append_left hi] at h
    exact .inl ⟨hi, h⟩
  · rw [List.getElem?_append_right (by omega), List.getElem?_map] at h
    cases hg : τ.forms[i - σ.forms.length]? with
    | none => rw [hg] at h; cases h
    | some g =>
      rw [hg] at h
      exact .inr ⟨i - σ.forms.length, g, by omega, hg, by simpa using h.symm⟩
theorem formed_shift {f : Frm} (n : Nat) (h : Formed f) : Formed (shiftF n f) := by
  refine ⟨h.is.imp (fun h => h) (Or.imp (fun h => ⟨h.1, h.2.1, ?_⟩) (fun h => ⟨h.1, h.2.1, ?_⟩))⟩ <;> simp [shiftF, h.2.2]
theorem shape_both {σ τ : St} {lv lv' : List Nat} (h : Shape σ lv) (h' : Shape τ lv') : Shape (bothS σ τ) (lv ++ lv') := by
  have hlen : (bothS σ τ).forms.length = τ.forms.length + σ.forms.length := by simp [bothS]; omega
  refine ⟨?_, .nil _, ?_, fun b f hb => by simp [bothS] at hb, ?_, ?_, ?_, fun j b hb => by simp [bothS] at hb⟩
  · rw [hlen]
    refine Seg.append (mid := σ.forms.length) (h.seg.same fun i _ hi => ?_) ?_
    · unfold Kof
      simp only [bothS]
      rw [List.getElem?_append_left hi]
    · have := h'.seg.shift (n := σ.forms.length) (K' := Kof (bothS σ τ).forms) (fun i _ hi => by
        unfold Kof
        simp only [bothS]
        rw [List.getElem?_append_right (by omega), Nat.add_sub_cancel, List.getElem?_map, List.getElem?_eq_getElem hi]
        rfl)
      rw [Nat.zero_add] at this
      exact this
  · intro i f hf
    rcases both_at hf with ⟨_, h1⟩ | ⟨j, g, _, h1, rfl⟩
    · exact h.form i f h1
    · exact formed_shift _ (h'.form j g h1)
  · rw [List.length_append, h.ll, h'.ll, hlen]; omega
  · intro i f hf hk
    rcases both_at hf with ⟨hi, h1⟩ | ⟨j, g, rfl, h1, rfl⟩
    · rw [getD_left (by rw [h.ll]; exact hi)]
      exact h.lo i f h1 hk
    · rw [← h.ll, getD_right]
      exact h'.lo j g h1 hk
  · intro i f c hf hc
    rw [hlen]
    rcases both_at hf with ⟨hi, h1⟩ | ⟨j, g, rfl, h1, rfl⟩
    · obtain ⟨a1, a2, a3⟩ := h.lk i f c h1 hc
      refine ⟨a1, by omega, ?_⟩
      rw [getD_left (by rw [h.ll]; exact a2), getD_left (by rw [h.ll]; exact hi)]
      exact a3
    · simp only [shiftF, List.mem_map] at hc
      obtain ⟨d, hd, rfl⟩ := hc
      obtain ⟨a1, a2, a3⟩ := h'.lk j g d h1 hd
      refine ⟨by omega, by omega, ?_⟩
      rw [← h.ll, getD_right, getD_right]
      exact a3
theorem Shape.few {σ : St} {lv : List Nat} (h : Shape σ lv) : σ.top.length ≤ σ.forms.length := by
  have := h.seg.sum
  simp [sumTo] at this
  omega
/-- What has the shape of forms is right. -/
theorem right_shape {σ : St} {lv : List Nat} (hS : Shape σ lv) (hv : ∀ x ∈ lv, x ≤ 12) (hn : σ.forms.all nmF = true) (h400 : σ.forms.length ≤ 400) (hk : ∀ f ∈ σ.forms, f.kids.length ≤ 400) (hs : ∀ f ∈ σ.forms, f.s.size ≤ 140737488355328) {ms : List MV} (hms : ms.map Prod.fst = σ.forms.map toFm) (fv tv : Value) (W : World) (hL : Laid W) (hm : SeesM W fv ms) (ht : SeesC W tv (castI σ.top).length 1 (intsI (castI σ.top))) :
    Calls Tryd.prog 17 #[fv, tv] W fun e w' => e = .returned (.bool true) ∧ Below W.heap.size W w' := by
  have hlen := len_same hms
  have htop := hS.few
  have htl : (castI σ.top).length ≤ 281474976710656 := by simp [castI]; omega
  have hmem : ∀ x ∈ ms, ∃ f ∈ σ.forms, x.1 = toFm f := fun x hx => by
    obtain ⟨i, hi⟩ := List.getElem?_of_mem hx
    obtain ⟨f, hf, e⟩ := fm_at hms hi
    exact ⟨f, List.mem_of_getElem? hf, e⟩
  have hkl : ∀ x ∈ ms, x.1.kids.length ≤ 281474976710656 := fun x hx => by
    obtain ⟨f, hf, e⟩ := hmem x hx
    have := hk f hf
    rw [e]
    simp [toFm]
    omega
  have hsl : ∀ x ∈ ms, x.1.s.size ≤ 140737488355328 := fun x hx => by
    obtain ⟨f, hf, e⟩ := hmem x hx
    rw [e]
    exact hs f hf
  have hok : ∀ (i : Nat) (x : MV), ms[i]? = some x → okF x.1 = true := fun i x hx => by
    obtain ⟨f, hf, e⟩ := fm_at hms hx
    rw [e, okF_formed (hS.form i f hf)]
    exact List.all_eq_true.1 hn f (List.mem_of_getElem? hf)
  obtain ⟨ys, hw, hyl, hyo⟩ := walk_seg hms hS.seg (by omega) 0 (-1) (-1) (by omega) (by omega) (by omega)
  have h := right_walk fv tv ms (castI σ.top) W hL hm ht (by omega) htl hkl hsl hok hw
  have e1 : InOrd ys := fun i y hy => by have := hyo i y hy; simpa using this
  have e2 : (ys.length : Int) = ms.length := by rw [hyl]; omega
  have e3 : namedN ms (castI σ.top) = ms.length := by
    have h1 := named_sum hms (castI σ.top) ms.length (Nat.le_refl _)
    rw [List.take_length] at h1
    rw [h1, hlen]
    have h2 := hS.seg.sum
    simp [castI, sumTo] at h2 ⊢
    omega
  have e4 := depthOf_le hS hv hms (castI σ.top)
  rw [decide_eq_true e1, decide_eq_true e2, decide_eq_true e3, decide_eq_true e4] at h
  exact h
theorem up_cast {l : List Nat} {n : Nat} (hl : ∀ p ∈ l, p < 1000) (hn : n < 1000) : up (n : Int) (castI l) = castI (l.map (· + n)) := by
  simp only [up, castI, List.map_map]
  refine List.map_congr_left fun p hp => ?_
  have := hl p hp
  simp only [Function.comp]
  rw [IntKind.wrap_i64]
  omega
theorem up_form {f : Frm} {n : Nat} (hl : ∀ p ∈ f.kids, p < 1000) (hn : n < 1000) : upF (n : Int) (toFm f) = toFm (shiftF n f) := by
  have := up_cast hl hn
  simp only [castI] at this
  simp only [upF, toFm, shiftF, this]
theorem shift_zero (f : Frm) : shiftF 0 f = f := by simp [shiftF]
theorem both_forms {σ τ : St} {lv lv' : List Nat} (h : Shape σ lv) (h' : Shape τ lv') (hl : σ.forms.length ≤ 400) (hl' : τ.forms.length ≤ 400) {ms ns xs : List MV} (hm : ms.map Prod.fst = σ.forms.map toFm) (hn : ns.map Prod.fst = τ.forms.map toFm) (hx : xs.map Prod.fst = ms.map (fun x => upF 0 x.1) ++ ns.map (fun x => upF (ms.length : Int) x.1)) : xs.map Prod.fst = (bothS σ τ).forms.map toFm := by
  have hlen := len_same hm
  have em : ms.map (fun x => upF 0 x.1) = σ.forms.map toFm := by
    rw [show (fun x : MV => upF 0 x.1) = upF 0 ∘ Prod.fst from rfl, ← List.map_map, hm, List.map_map]
    refine List.map_congr_left fun f hf => ?_
    obtain ⟨i, hi⟩ := List.getElem?_of_mem hf
    have := up_form (n := 0) (fun p hp => by have := (h.lk i f p hi hp).2.1; omega) (by omega)
    rw [shift_zero] at this
    exact this
  have en : ns.map (fun x => upF (ms.length : Int) x.1) = (τ.forms.map (shiftF σ.forms.length)).map toFm := by
    rw [show (fun x : MV => upF (ms.length : Int) x.1) = upF (ms.length : Int) ∘ Prod.fst from rfl, ← List.map_map, hn, List.map_map, List.map_map]
    refine List.map_congr_left fun f hf => ?_
    obtain ⟨i, hi⟩ := List.getElem?_of_mem hf
    rw [hlen]
    exact up_form (fun p hp => by have := (h'.lk i f p hi hp).2.1; omega) (by omega)
  rw [hx, em, en, bothS, List.map_append]
theorem both_top {σ τ : St} {lv lv' : List Nat} (h : Shape σ lv) (h' : Shape τ lv') (hl : σ.forms.length ≤ 400) (hl' : τ.forms.length ≤ 400) : up 0 (castI σ.top) ++ up (σ.forms.length : Int) (castI τ.top) = castI (bothS σ τ).top := by
  have e1 := up_cast (n := 0) (l := σ.top) (fun p hp => by have := (h.seg.mem p hp).2; omega) (by omega)
  have e2 := up_cast (n := σ.forms.length) (l := τ.top) (fun p hp => by have := (h'.seg.mem p hp).2; omega) (by omega)
  rw [show ((0 : Nat) : Int) = 0 from rfl] at e1
  rw [e1, e2]
  simp [castI, bothS]
end Go.Proofs.YtnlplkchkhibaaaDoor
/-
  A form, with all below it, built anew by the walk: it is that piece of the forms, moved down.
-/
namespace Go.Proofs.YtnlplkchkhibaaaDoor
open Go.RowKit Go.Deep Go.MapKept
def addKids (ks : List Nat) (g : Frm) : Frm := ⟨g.k, g.s, g.n, g.kids ++ ks, g.p⟩
def bare (f : Frm) : Frm := ⟨f.k, f.s, f.n, [], f.p⟩
def downF (a : Nat) (f : Frm) : Frm := ⟨f.k, f.s, f.n, f.kids.map (· - a), f.p⟩
def upd (A : List Frm) (i : Int) (ks : List Nat) : List Frm := if i < 0 then A else A.modify i.toNat (addKids ks)
def stepA (fs : List Frm) (A : List Frm) (y : Int × Int) : List Frm := upd A y.1 [A.length] ++ (fs[y.2.toNat]?.toList.map bare)
def part (fs : List Frm) (a lo hi : Nat) : List Frm := ((fs.drop lo).take (hi - lo)).map (downF a)
theorem addKids_nil : addKids [] = id := by funext g; simp [addKids]
theorem upd_nil (A : List Frm) (i : Int) : upd A i [] = A := by
  unfold upd
  split
  · rfl
  · rw [addKids_nil, List.modify_id]
theorem upd_length (A : List Frm) (i : Int) (ks : List Nat) : (upd A i ks).length = A.length := by
  unfold upd
  split
  · rfl
  · simp
theorem upd_append {A B : List Frm} {i : Int} {ks : List Nat} (h : i < 0 ∨ i.toNat < A.length) : upd (A ++ B) i ks = upd A i ks ++ B := by
  unfold upd
  split
  · rfl
  · rename_i hi
    rcases h with h | h
    · exact absurd h hi
    · refine List.ext_getElem? fun j => ?_
      rw [List.getElem?_modify]
      by_cases hj : j < A.length
      · rw [List.getElem?_append_left hj, List.getElem?_append_left (by simpa using hj), List.getElem?_modify]
      · rw [List.getElem?_append_right (by omega), List.getElem?_append_right (by simpa using hj), List.length_modify]
        have : ¬ i.toNat = j := by omega
        cases B[j - A.length]? <;> simp [this]
theorem upd_twice (A : List Frm) (i : Int) (ks ks' : List Nat) : upd (upd A i ks) i ks' = upd A i (ks ++ ks') := by
  unfold upd
  split
  · rfl
  · refine List.ext_getElem? fun j => ?_
    rw [List.getElem?_modify, List.getElem?_modify, List.getElem?_modify]
    by_cases hj : i.toNat = j
    · subst hj
      cases A[i.toNat]? <;> simp [addKids]
    · cases A[j]? <;> simp [hj]
theorem upd_last (X : List Frm) (g : Frm) (ks : List Nat) : upd (X ++ [g]) (X.length : Int) ks = X ++ [addKids ks g] := by
  unfold upd
  rw [if_neg (by omega), Int.toNat_natCast]
  refine List.ext_getElem? fun j => ?_
  rw [List.getElem?_modify]
  by_cases hj : j < X.length
  · rw [List.getElem?_append_left hj, List.getElem?_append_left hj]
    have : ¬ X.length = j := by omega
    cases X[j]? <;> simp [this]
  · rw [List.getElem?_append_right (by omega), List.getElem?_append_right (by omega)]
    by_cases he : j = X.length
    · subst he; simp
    · obtain ⟨m, hm⟩ : ∃ m, j - X.length = m + 1 := ⟨j - X.length - 1, by omega⟩
      simp [hm]
theorem part_nil (fs : List Frm) (a lo : Nat) : part fs a lo lo = [] := by simp [part]
theorem part_cons {fs : List Frm} {a lo hi : Nat} {f : Frm} (hf : fs[lo]? = some f) (h : lo < hi) : part fs a lo hi = downF a f :: part fs a (lo + 1) hi := by
  obtain ⟨hl, rfl⟩ := List.getElem?_eq_some_iff.1 hf
  unfold part
  rw [List.drop_eq_getElem_cons hl, show hi - lo = (hi - (lo + 1)) + 1 by omega, List.take_succ_cons, List.map_cons]
theorem part_join {fs : List Frm} {a lo mid hi : Nat} (h1 : lo ≤ mid) (h2 : mid ≤ hi) : part fs a lo mid ++ part fs a mid hi = part fs a lo hi := by
  unfold part
  rw [← List.map_append]
  rw [show hi - lo = (mid - lo) + (hi - mid) by omega, List.take_add, List.drop_drop, show lo + (mid - lo) = mid by omega]
theorem part_length {fs : List Frm} {a lo hi : Nat} (h : hi ≤ fs.length) : (part fs a lo hi).length = hi - lo := by
  simp [part]; omega
theorem walk_build {ms : List MV} {fs : List Frm} (h : ms.map Prod.fst = fs.map toFm) {lo hi : Nat} {l : List Nat} (hs : Seg (Kof fs) lo hi l) : hi ≤ ms.length → ∀ (told up own : Int), own < lo → 0 ≤ told → told + ((hi : Int) - lo) ≤ 401 →
    ∃ ys, WalkR (kidsOf ms) ms.length told up own (castI l) (told + ((hi : Int) - lo)) ys true ∧ ys.length = hi - lo ∧ ∀ (A : List Frm) (a : Nat), (A.length : Int) = told → A.length + a = lo → (up < 0 ∨ up.toNat < A.length) → ys.foldl (stepA fs) A = upd A up (l.map (· - a)) ++ part fs a lo hi := by
  have hlen := len_same h
  induction hs with
  | nil lo =>
    intro _ told up own _ _ _
    refine ⟨[], ?_, by simp, fun A a _ _ _ => ?_⟩
    · rw [show told + ((lo : Int) - lo) = told by omega]
      exact .done _ _ _
    · rw [part_nil]
      simp [upd_nil]
  | @cons lo mid hi r h1 h2 ih1 ih2 =>
    intro hn told up own ho h0 h4
    have l1 := h1.le
    have l2 := h2.le
    obtain ⟨ys1, w1, n1, o1⟩ := ih1 (by omega) (told + 1) told (lo : Int) (by omega) (by omega) (by omega)
    obtain ⟨ys2, w2, n2, o2⟩ := ih2 hn (told + ((mid : Int) - lo)) up own (by omega) (by omega) (by omega)
    rw [show told + 1 + ((mid : Int) - ((lo + 1 : Nat) : Int)) = told + ((mid : Int) - lo) by omega] at w1
    rw [show told + ((mid : Int) - lo) + ((hi : Int) - mid) = told + ((hi : Int) - lo) by omega] at w2
    have q1 : (lo : Int) < (ms.length : Int) := by omega
    have q2 : told ≤ 400 := by omega
    refine ⟨(up, (lo : Int)) :: (ys1 ++ ys2), .more ho q1 q2 (by rw [kids_at h]; exact w1) w2, by simp [n1, n2]; omega, ?_⟩
    intro A a hA ha hu
    have hlo : lo < fs.length := by omega
    have hf : fs[lo]? = some fs[lo] := List.getElem?_eq_getElem hlo
    obtain ⟨f, hff⟩ : ∃ f, fs[lo] = f := ⟨_, rfl⟩
    rw [hff] at hf
    have hK : Kof fs lo = f.kids := by unfold Kof; rw [hf]
    have s1 : stepA fs A (up, (lo : Int)) = upd A up [A.length] ++ [bare f] := by
      unfold stepA
      simp only [Int.toNat_natCast, hf, Option.toList_some, List.map_cons, List.map_nil]
    have hX : (upd A up [A.length]).length = A.length := upd_length _ _ _
    have s2 : ys1.foldl (stepA fs) (upd A up [A.length] ++ [bare f]) = upd A up [A.length] ++ part fs a lo mid := by
      rw [o1 (upd A up [A.length] ++ [bare f]) a (by simp [hX]; omega) (by simp [hX]; omega) (by right; simp [hX]; omega)]
      have hl := upd_last (upd A up [A.length]) (bare f) ((Kof fs lo).map (· - a))
      rw [hX, hA] at hl
      rw [hl, hK, part_cons hf (by omega)]
      simp [addKids, bare, downF]
    have hp : (part fs a lo mid).length = mid - lo := part_length (by omega)
    rw [List.foldl_cons, List.foldl_append, s1, s2]
    rw [o2 (upd A up [A.length] ++ part fs a lo mid) a (by simp [hX, hp]; omega) (by simp [hX, hp]; omega) (hu.imp id fun h => by simp [hX]; omega)]
    rw [upd_append (hu.imp id fun h => by rw [hX]; exact h), upd_twice, List.append_assoc, part_join (by omega) (by omega)]
    rw [List.map_cons, show lo - a = A.length by omega]
    rfl
/-- Any place begins a piece of its own. -/
theorem Seg.at {K : Nat → List Nat} {lo hi : Nat} {l : List Nat} (h : Seg K lo hi l) : ∀ a, lo ≤ a → a < hi → ∃ mid, Seg K (a + 1) mid (K a) ∧ mid ≤ hi := by
  induction h with
  | nil => intro a h1 h2; omega
  | @cons lo mid hi r h1 h2 ih1 ih2 =>
    intro a ha hb
    have l1 := h1.le
    have l2 := h2.le
    by_cases e : a = lo
    · subst e; exact ⟨mid, h1, l2⟩
    · by_cases hm : a < mid
      · obtain ⟨m, q1, q2⟩ := ih1 a (by omega) hm
        exact ⟨m, q1, by omega⟩
      · exact ih2 a (by omega) hb
end Go.Proofs.YtnlplkchkhibaaaDoor
/-
  A form, with all below it, moved down, has the shape of forms.
-/
namespace Go.Proofs.YtnlplkchkhibaaaDoor
open Go.RowKit Go.Deep Go.MapKept
theorem Seg.down {K K' : Nat → List Nat} {a lo hi : Nat} {l : List Nat} (h : Seg K lo hi l) : a ≤ lo → (∀ i, lo ≤ i → i < hi → K' (i - a) = (K i).map (· - a)) → Seg K' (lo - a) (hi - a) (l.map (· - a)) := by
  induction h with
  | nil => intro _ _; exact .nil _
  | @cons lo mid hi r h1 h2 ih1 ih2 =>
    intro hl he
    have l1 := h1.le
    have l2 := h2.le
    rw [List.map_cons]
    refine .cons (mid := mid - a) ?_ (ih2 (by omega) fun i x y => he i (by omega) y)
    rw [he lo (Nat.le_refl _) (by omega)]
    have := ih1 (by omega) fun i x y => he i (by omega) (by omega)
    rw [show lo - a + 1 = lo + 1 - a by omega]
    exact this
def aloneS (σ : St) (a mid : Nat) : St := ⟨part σ.forms a a mid, [0], []⟩
theorem part_at {fs : List Frm} {a mid i : Nat} {f : Frm} (h : (part fs a a mid)[i]? = some f) : i + a < mid ∧ ∃ g, fs[i + a]? = some g ∧ f = downF a g := by
  unfold part at h
  rw [List.getElem?_map] at h
  by_cases hi : i < mid - a
  · rw [List.getElem?_take_of_lt hi, List.getElem?_drop] at h
    rw [Nat.add_comm a i] at h
    cases hg : fs[i + a]? with
    | none => rw [hg] at h; cases h
    | some g =>
      rw [hg] at h
      exact ⟨by omega, g, rfl, by simpa using h.symm⟩
  · rw [List.getElem?_take_eq_none (by omega)] at h
    cases h
theorem part_has {fs : List Frm} {a mid i : Nat} (h1 : a ≤ i) (h2 : i < mid) (h3 : mid ≤ fs.length) : Kof (part fs a a mid) (i - a) = (Kof fs i).map (· - a) := by
  have hi : i < fs.length := by omega
  have hp : (part fs a a mid)[i - a]? = some (downF a fs[i]) := by
    unfold part
    rw [List.getElem?_map, List.getElem?_take_of_lt (by omega), List.getElem?_drop, show a + (i - a) = i by omega, List.getElem?_eq_getElem hi]
    rfl
  unfold Kof
  rw [hp, List.getElem?_eq_getElem hi]
  rfl
theorem getD_cut {lv : List Nat} {a m i : Nat} (h : i < m) : ((lv.drop a).take m).getD i 0 = lv.getD (i + a) 0 := by
  rw [List.getD_eq_getElem?_getD, List.getD_eq_getElem?_getD, List.getElem?_take_of_lt h, List.getElem?_drop, Nat.add_comm a i]
theorem formed_down {f : Frm} (n : Nat) (h : Formed f) : Formed (downF n f) := by
  refine ⟨h.is.imp (fun h => h) (Or.imp (fun h => ⟨h.1, h.2.1, ?_⟩) (fun h => ⟨h.1, h.2.1, ?_⟩))⟩ <;> simp [downF, h.2.2]
theorem shape_alone {σ : St} {lv : List Nat} (h : Shape σ lv) {a mid : Nat} (hs : Seg (Kof σ.forms) (a + 1) mid (Kof σ.forms a)) (hm : mid ≤ σ.forms.length) : Shape (aloneS σ a mid) ((lv.drop a).take (mid - a)) := by
  have hle := hs.le
  have hlen : (aloneS σ a mid).forms.length = mid - a := part_length hm
  have hseg : Seg (Kof σ.forms) a mid [a] := .cons hs (.nil _)
  refine ⟨?_, .nil _, ?_, fun b f hb => by simp [aloneS] at hb, ?_, ?_, ?_, fun j b hb => by simp [aloneS] at hb⟩
  · rw [hlen]
    have := hseg.down (a := a) (K' := Kof (aloneS σ a mid).forms) (Nat.le_refl _) (fun i h1 h2 => part_has h1 h2 hm)
    simpa [aloneS] using this
  · intro i f hf
    obtain ⟨_, g, hg, rfl⟩ := part_at hf
    exact formed_down _ (h.form _ g hg)
  · rw [hlen, List.length_take, List.length_drop, h.ll]; omega
  · intro i f hf hk
    obtain ⟨hi, g, hg, rfl⟩ := part_at hf
    rw [getD_cut (by omega)]
    exact h.lo _ g hg hk
  · intro i f c hf hc
    rw [hlen]
    obtain ⟨hi, g, hg, rfl⟩ := part_at hf
    simp only [downF, List.mem_map] at hc
    obtain ⟨d, hd, rfl⟩ := hc
    obtain ⟨a1, a2, a3⟩ := h.lk _ g d hg hd
    obtain ⟨m, q1, q2⟩ := hseg.at (i + a) (by omega) hi
    have hK : Kof σ.forms (i + a) = g.kids := by unfold Kof; rw [hg]
    rw [hK] at q1
    have q3 := q1.mem d hd
    refine ⟨by omega, by omega, ?_⟩
    rw [getD_cut (by omega), getD_cut (by omega), show d - a + a = d by omega]
    exact a3
theorem part_mem {fs : List Frm} {a lo hi : Nat} {f : Frm} (h : f ∈ part fs a lo hi) : ∃ g ∈ fs, f = downF a g := by
  obtain ⟨g, hg, rfl⟩ := List.mem_map.1 h
  exact ⟨g, List.mem_of_mem_drop (List.mem_of_mem_take hg), rfl⟩
theorem nm_down {fs : List Frm} {a lo hi : Nat} (h : fs.all nmF = true) : (part fs a lo hi).all nmF = true := by
  refine List.all_eq_true.2 fun f hf => ?_
  obtain ⟨g, hg, rfl⟩ := part_mem hf
  exact List.all_eq_true.1 h g hg
theorem nm_both {σ τ : St} (h : σ.forms.all nmF = true) (h' : τ.forms.all nmF = true) : (bothS σ τ).forms.all nmF = true := by
  refine List.all_eq_true.2 fun f hf => ?_
  simp only [bothS, List.mem_append, List.mem_map] at hf
  rcases hf with hf | ⟨g, hg, rfl⟩
  · exact List.all_eq_true.1 h f hf
  · exact List.all_eq_true.1 h' g hg
/-- The walk from one place builds the form there, alone. -/
theorem alone_built {σ : St} {lv : List Nat} (h : Shape σ lv) (h400 : σ.forms.length ≤ 400) {ms : List MV} (hms : ms.map Prod.fst = σ.forms.map toFm) {a : Nat} (ha : a < σ.forms.length) :
    ∃ mid ys, Seg (Kof σ.forms) (a + 1) mid (Kof σ.forms a) ∧ mid ≤ σ.forms.length ∧ WalkR (kidsOf ms) ms.length 0 (-1) (-1) [(a : Int)] ((mid : Int) - a) ys true ∧ ys.length = mid - a ∧ ys.foldl (stepA σ.forms) [] = (aloneS σ a mid).forms := by
  have hlen := len_same hms
  obtain ⟨mid, hs, hm⟩ := h.seg.at a (Nat.zero_le _) ha
  have hle := hs.le
  obtain ⟨ys, hw, hyl, hb⟩ := walk_build hms (Seg.cons hs (.nil mid)) (by omega) 0 (-1) (-1) (by omega) (by omega) (by omega)
  refine ⟨mid, ys, hs, hm, by simpa [castI] using hw, hyl, ?_⟩
  rw [hb [] a rfl (by simp) (by left; omega)]
  rfl
end Go.Proofs.YtnlplkchkhibaaaDoor
