/-
  The places of all nodes' edges are as many as the edges; a place of a node's is an edge of its own.
-/
import Derived.Test.YtbjoljokdjgbnacPlaces
import Derived.Test.YtbjoljokdjgbnacCheck
namespace Go.Proofs.Ytbjoljokdjgbnac
/-- The places of the edges that leave the first v nodes. -/
def cols (es : Edges) (v : Nat) : List Int := (List.range v).flatMap fun (u : Nat) => places es u false
theorem cols_succ (es : Edges) (v : Nat) : cols es (v + 1) = cols es v ++ places es v false := by simp [cols, List.range_succ]
/-- The edges' end. -/
def endOf (inn : Bool) (x : Int × Int) : Int := if inn then x.2 else x.1
theorem upto_count (es : Edges) (v : Int) (inn : Bool) (j : Nat) : ∀ (k : Nat) (h : k ≤ es.length), (((upto es k h).filter (sel v inn)).map (fun x => (x.1.1 : Int))).count (j : Int) = if j < k ∧ (es[j]?.map (endOf inn)) = some v then 1 else 0
  | 0, _ => by simp [upto]
  | k + 1, h => by
    have ih := upto_count es v inn j k (by omega)
    simp only [upto, List.filter_append, List.map_append, List.count_append, ih]
    by_cases hs : endOf inn es[k] = v
    · have hs' : sel v inn (⟨(k, es[k]), by simp⟩ : At es) = true := by simpa [sel, endOf] using hs
      rw [List.filter_cons, if_pos hs']
      simp only [List.filter_nil, List.map_cons, List.map_nil, List.count_cons, List.count_nil]
      by_cases hj : j = k
      · subst hj
        have e0 : es[j]? = some es[j] := List.getElem?_eq_getElem _
        have q1 : ¬ (j < j ∧ (es[j]?.map (endOf inn)) = some v) := by omega
        have q2 : j < j + 1 ∧ (es[j]?.map (endOf inn)) = some v := ⟨by omega, by rw [e0]; exact congrArg some hs⟩
        rw [if_neg q1, if_pos q2]
        simp
      · have e1 : ¬ ((k : Int) = (j : Int)) := by omega
        have e2 : (j < k + 1 ∧ (es[j]?.map (endOf inn)) = some v) ↔ (j < k ∧ (es[j]?.map (endOf inn)) = some v) := by constructor <;> (rintro ⟨q1, q2⟩; exact ⟨by omega, q2⟩)
        simp only [e2]; simp [e1]
    · have hs' : ¬ sel v inn (⟨(k, es[k]), by simp⟩ : At es) = true := by simpa [sel, endOf] using hs
      rw [List.filter_cons, if_neg hs']
      simp only [List.filter_nil, List.map_nil, List.count_nil, Nat.add_zero]
      by_cases hj : j = k
      · subst hj
        have e0 : es[j]? = some es[j] := List.getElem?_eq_getElem _
        have q1 : ¬ (j < j ∧ (es[j]?.map (endOf inn)) = some v) := by omega
        have q2 : ¬ (j < j + 1 ∧ (es[j]?.map (endOf inn)) = some v) := by rw [e0]; rintro ⟨_, h⟩; exact hs (Option.some.inj h)
        rw [if_neg q1, if_neg q2]
      · have e2 : (j < k + 1 ∧ (es[j]?.map (endOf inn)) = some v) ↔ (j < k ∧ (es[j]?.map (endOf inn)) = some v) := by constructor <;> (rintro ⟨q1, q2⟩; exact ⟨by omega, q2⟩)
        simp only [e2]
theorem places_count (es : Edges) (v : Int) (inn : Bool) (j : Nat) (hj : j < es.length) : (places es v inn).count (j : Int) = if endOf inn es[j] = v then 1 else 0 := by
  unfold places
  rw [upto_count]
  simp [hj]
theorem upto_mem (es : Edges) : ∀ (k : Nat) (h : k ≤ es.length) (x : At es), x ∈ upto es k h → x.1.1 < k
  | 0, _, x, hx => by simp [upto] at hx
  | k + 1, h, x, hx => by
    simp only [upto, List.mem_append, List.mem_singleton] at hx
    rcases hx with hx | rfl
    · have := upto_mem es k (by omega) x hx; omega
    · simp
theorem places_mem {es : Edges} {v : Int} {inn : Bool} {p : Int} (h : p ∈ places es v inn) : 0 ≤ p ∧ p < es.length := by
  unfold places at h
  obtain ⟨x, hx, rfl⟩ := List.mem_map.1 h
  have := upto_mem es _ _ x (List.mem_filter.1 hx).1
  omega
theorem upto_out (es : Edges) (v : Int) : ∀ (k : Nat) (h : k ≤ es.length), ((upto es k h).filter (sel v false)).length = (es.take k).countP (fun x => decide (x.1 = v))
  | 0, _ => by simp [upto]
  | k + 1, h => by
    have ih := upto_out es v k (by omega)
    have hk : k < es.length := h
    rw [List.take_add_one, List.getElem?_eq_getElem hk, List.countP_append]
    simp only [upto, List.filter_append, List.length_append, ih, Option.toList]
    congr 1
    by_cases hs : es[k].1 = v
    · have hs' : sel v false (⟨(k, es[k]), by simp⟩ : At es) = true := by simpa [sel] using hs
      rw [List.filter_cons, if_pos hs']; simp [hs]
    · have hs' : ¬ sel v false (⟨(k, es[k]), by simp⟩ : At es) = true := by simpa [sel] using hs
      rw [List.filter_cons, if_neg hs']; simp [hs]
theorem places_out (es : Edges) (v : Int) : (places es v false).length = es.countP (fun x => decide (x.1 = v)) := by
  unfold places
  rw [List.length_map, upto_out, List.take_length]
theorem countP_step (v : Nat) : ∀ es : Edges, es.countP (fun x => decide (0 ≤ x.1 ∧ x.1 < ((v + 1 : Nat) : Int))) = es.countP (fun x => decide (0 ≤ x.1 ∧ x.1 < (v : Int))) + es.countP (fun x => decide (x.1 = (v : Int)))
  | [] => rfl
  | x :: r => by
    have ih := countP_step v r
    simp only [List.countP_cons, ih]
    by_cases a1 : 0 ≤ x.1 ∧ x.1 < (v : Int)
    · have a2 : ¬ x.1 = (v : Int) := by omega
      have a3 : 0 ≤ x.1 ∧ x.1 < ((v + 1 : Nat) : Int) := by omega
      rw [decide_eq_true a1, decide_eq_false a2, decide_eq_true a3]; simp only [if_true, if_false, Bool.false_eq_true]; omega
    · by_cases a2 : x.1 = (v : Int)
      · have a3 : 0 ≤ x.1 ∧ x.1 < ((v + 1 : Nat) : Int) := by omega
        rw [decide_eq_false a1, decide_eq_true a2, decide_eq_true a3]; simp only [if_true, if_false, Bool.false_eq_true]; omega
      · have a3 : ¬ (0 ≤ x.1 ∧ x.1 < ((v + 1 : Nat) : Int)) := by omega
        rw [decide_eq_false a1, decide_eq_false a2, decide_eq_false a3]; simp only [if_false, Bool.false_eq_true]; omega
theorem cols_count (es : Edges) : ∀ v : Nat, (cols es v).length = es.countP (fun x => decide (0 ≤ x.1 ∧ x.1 < (v : Int)))
  | 0 => by
    have : (fun x : Int × Int => decide (0 ≤ x.1 ∧ x.1 < ((0 : Nat) : Int))) = fun _ => false := by funext x; simp
    rw [this]; simp [cols]
  | v + 1 => by rw [cols_succ, List.length_append, cols_count es v, places_out, countP_step]
theorem cols_all (es : Edges) (N : Nat) (h : ∀ x ∈ es, good N x = true) : (cols es N).length = es.length := by
  rw [cols_count, List.countP_eq_length]
  intro x hx
  have := h x hx
  simp only [good, Bool.and_eq_true, decide_eq_true_eq] at this
  simp; omega
/-- A place among those of the edges that leave v is an edge that leaves v. -/
theorem places_from {es : Edges} {v : Int} {p : Int} (h : p ∈ places es v false) : ∃ (j : Nat) (x : Int × Int), p = j ∧ es[j]? = some x ∧ x.1 = v := by
  obtain ⟨h0, h1⟩ := places_mem h
  obtain ⟨j, rfl⟩ : ∃ j : Nat, p = j := ⟨p.toNat, by omega⟩
  have hj : j < es.length := by omega
  have hc := places_count es v false j hj
  have hp : 0 < (places es v false).count (j : Int) := List.count_pos_iff.2 h
  refine ⟨j, es[j], rfl, List.getElem?_eq_getElem hj, ?_⟩
  by_cases e : endOf false es[j] = v
  · exact e
  · rw [if_neg e] at hc; omega
end Go.Proofs.Ytbjoljokdjgbnac
