/-
  Each edge leaves one node, and comes to one: how often the places of all nodes have each.
-/
import Derived.Test.YtbjoljokdjgbnaaRowsOf
namespace Go.Proofs.Ytbjoljokdjgbnaa
/-- At the places ps k more. -/
def addAt (k : Int) (ls ps : List Int) : List Int := ps.foldl (fun ls p => ls.set p.toNat (ls.getD p.toNat 0 + k)) ls
theorem addAt_length (k : Int) : ∀ (ps ls : List Int), (addAt k ls ps).length = ls.length
  | [], _ => rfl
  | p :: ps, ls => by
    have := addAt_length k ps (ls.set p.toNat (ls.getD p.toNat 0 + k))
    simpa [addAt] using this
theorem addAt_snoc (k : Int) (ls ps : List Int) (p : Int) : addAt k ls (ps ++ [p]) = (addAt k ls ps).set p.toNat ((addAt k ls ps).getD p.toNat 0 + k) := by simp [addAt]
theorem getD_set (ls : List Int) (i j : Nat) (z : Int) (hj : j < ls.length) : (ls.set i z).getD j 0 = if i = j then z else ls.getD j 0 := by
  simp only [List.getD, List.getElem?_set]
  by_cases h : i = j
  · subst h; simp [hj]
  · simp [h]
theorem addAt_get (k : Int) : ∀ (ps ls : List Int) (j : Nat), j < ls.length → (∀ p ∈ ps, 0 ≤ p) → (addAt k ls ps).getD j 0 = ls.getD j 0 + k * (ps.count (j : Int) : Int)
  | [], ls, j, _, _ => by simp [addAt]
  | p :: ps, ls, j, hj, h => by
    have h0 := h p (by simp)
    have := addAt_get k ps (ls.set p.toNat (ls.getD p.toNat 0 + k)) j (by simpa using hj) (fun q hq => h q (by simp [hq]))
    have e1 : addAt k ls (p :: ps) = addAt k (ls.set p.toNat (ls.getD p.toNat 0 + k)) ps := rfl
    rw [e1, this, getD_set _ _ _ _ hj, List.count_cons]
    by_cases hp : p.toNat = j
    · have : p = (j : Int) := by omega
      subst this
      simp [Int.mul_add]
      omega
    · have : ¬ p = (j : Int) := by omega
      simp [hp, this]
/-- The edges' end. -/
def endOf (inn : Bool) (x : Int × Int) : Int := if inn then x.2 else x.1
theorem upto_count (es : Edges) (v : Int) (inn : Bool) (j : Nat) : ∀ (k : Nat) (h : k ≤ es.length), (((upto es k h).filter (sel v inn)).map (fun x => (x.1.1 : Int))).count (j : Int) = if j < k ∧ (es[j]?.map (endOf inn)) = some v then 1 else 0
  | 0, _ => by simp [upto]
  | k + 1, h => by
    have ih := upto_count es v inn j k (by omega)
    simp only [upto, List.filter_append, List.map_append, List.count_append, ih]
    by_cases hs : endOf inn es[k] = v
    · have hs' : sel v inn (⟨(k, es[k]), by simp⟩ : At es) = true := by simpa [sel, endOf] using hs
      rw [List.filter_cons, if_pos hs']
      simp only [List.filter_nil, List.map_cons, List.map_nil, List.count_cons, List.count_nil]
      by_cases hj : j = k
      · subst hj
        have e0 : es[j]? = some es[j] := List.getElem?_eq_getElem _
        have q1 : ¬ (j < j ∧ (es[j]?.map (endOf inn)) = some v) := by omega
        have q2 : j < j + 1 ∧ (es[j]?.map (endOf inn)) = some v := ⟨by omega, by rw [e0]; exact congrArg some hs⟩
        rw [if_neg q1, if_pos q2]
        simp
      · have e1 : ¬ ((k : Int) = (j : Int)) := by omega
        have e2 : (j < k + 1 ∧ (es[j]?.map (endOf inn)) = some v) ↔ (j < k ∧ (es[j]?.map (endOf inn)) = some v) := by constructor <;> (rintro ⟨q1, q2⟩; exact ⟨by omega, q2⟩)
        simp only [e2]; simp [e1]
    · have hs' : ¬ sel v inn (⟨(k, es[k]), by simp⟩ : At es) = true := by simpa [sel, endOf] using hs
      rw [List.filter_cons, if_neg hs']
      simp only [List.filter_nil, List.map_nil, List.count_nil, Nat.add_zero]
      by_cases hj : j = k
      · subst hj
        have e0 : es[j]? = some es[j] := List.getElem?_eq_getElem _
        have q1 : ¬ (j < j ∧ (es[j]?.map (endOf inn)) = some v) := by omega
        have q2 : ¬ (j < j + 1 ∧ (es[j]?.map (endOf inn)) = some v) := by rw [e0]; rintro ⟨_, h⟩; exact hs (Option.some.inj h)
        rw [if_neg q1, if_neg q2]
      · have e2 : (j < k + 1 ∧ (es[j]?.map (endOf inn)) = some v) ↔ (j < k ∧ (es[j]?.map (endOf inn)) = some v) := by constructor <;> (rintro ⟨q1, q2⟩; exact ⟨by omega, q2⟩)
        simp only [e2]
theorem places_count (es : Edges) (v : Int) (inn : Bool) (j : Nat) (hj : j < es.length) : (places es v inn).count (j : Int) = if endOf inn es[j] = v then 1 else 0 := by
  unfold places
  rw [upto_count]
  simp [hj]
theorem upto_mem (es : Edges) : ∀ (k : Nat) (h : k ≤ es.length) (x : At es), x ∈ upto es k h → x.1.1 < k
  | 0, _, x, hx => by simp [upto] at hx
  | k + 1, h, x, hx => by
    simp only [upto, List.mem_append, List.mem_singleton] at hx
    rcases hx with hx | rfl
    · have := upto_mem es k (by omega) x hx; omega
    · simp
theorem places_mem {es : Edges} {v : Int} {inn : Bool} {p : Int} (h : p ∈ places es v inn) : 0 ≤ p ∧ p < es.length := by
  unfold places at h
  obtain ⟨x, hx, rfl⟩ := List.mem_map.1 h
  have := upto_mem es _ _ x (List.mem_filter.1 hx).1
  omega
/-- The counts behind v nodes. -/
def counts (es : Edges) : Nat → List Int
  | 0 => List.replicate es.length 0
  | v + 1 => addAt 100 (addAt 1 (counts es v) (places es v false)) (places es v true)
theorem counts_length (es : Edges) : ∀ v, (counts es v).length = es.length
  | 0 => by simp [counts]
  | v + 1 => by simp [counts, addAt_length, counts_length es v]
theorem counts_get (es : Edges) (j : Nat) (hj : j < es.length) (h1 : 0 ≤ es[j].1) (h2 : 0 ≤ es[j].2) : ∀ v : Nat, (counts es v).getD j 0 = (if es[j].1 < (v : Int) then 1 else 0) + (if es[j].2 < (v : Int) then 100 else 0)
  | 0 => by
    have e1 : ¬ es[j].1 < ((0 : Nat) : Int) := by omega
    have e2 : ¬ es[j].2 < ((0 : Nat) : Int) := by omega
    rw [if_neg e1, if_neg e2]
    simp [counts, List.getD, hj]
  | v + 1 => by
    have ih := counts_get es j hj h1 h2 v
    have l1 := counts_length es v
    unfold counts
    rw [addAt_get _ _ _ _ (by rw [addAt_length, l1]; exact hj) (fun p hp => (places_mem hp).1), addAt_get _ _ _ _ (by rw [l1]; exact hj) (fun p hp => (places_mem hp).1), ih, places_count es v false j hj, places_count es v true j hj]
    simp only [endOf, if_true, Bool.false_eq_true, if_false]
    by_cases a1 : es[j].1 < (v : Int) <;> by_cases a2 : es[j].2 < (v : Int) <;> by_cases a3 : es[j].1 = (v : Int) <;> by_cases a4 : es[j].2 = (v : Int) <;> simp only [a1, a2, a3, a4, if_true, if_false] <;> (try omega) <;> (repeat (first | rw [if_pos (by omega)] | rw [if_neg (by omega)])) <;> simp <;> omega
/-- All of them, each once. -/
theorem counts_all (es : Edges) (N : Nat) (h : ∀ x ∈ es, good N x = true) (j : Nat) (hj : j < es.length) : (counts es N).getD j 0 = 101 := by
  have := h es[j] (List.getElem_mem hj)
  simp only [good, Bool.and_eq_true, decide_eq_true_eq] at this
  rw [counts_get es j hj this.1.1 this.2.1, if_pos this.1.2, if_pos this.2.2]
  rfl
theorem upto_out (es : Edges) (v : Int) : ∀ (k : Nat) (h : k ≤ es.length), ((upto es k h).filter (sel v false)).length = (es.take k).countP (fun x => decide (x.1 = v))
  | 0, _ => by simp [upto]
  | k + 1, h => by
    have ih := upto_out es v k (by omega)
    have hk : k < es.length := h
    rw [List.take_add_one, List.getElem?_eq_getElem hk, List.countP_append]
    simp only [upto, List.filter_append, List.length_append, ih, Option.toList]
    congr 1
    by_cases hs : es[k].1 = v
    · have hs' : sel v false (⟨(k, es[k]), by simp⟩ : At es) = true := by simpa [sel] using hs
      rw [List.filter_cons, if_pos hs']; simp [hs]
    · have hs' : ¬ sel v false (⟨(k, es[k]), by simp⟩ : At es) = true := by simpa [sel] using hs
      rw [List.filter_cons, if_neg hs']; simp [hs]
theorem places_out (es : Edges) (v : Int) : (places es v false).length = es.countP (fun x => decide (x.1 = v)) := by
  unfold places
  rw [List.length_map, upto_out, List.take_length]
theorem countP_step (v : Nat) : ∀ es : Edges, es.countP (fun x => decide (0 ≤ x.1 ∧ x.1 < ((v + 1 : Nat) : Int))) = es.countP (fun x => decide (0 ≤ x.1 ∧ x.1 < (v : Int))) + es.countP (fun x => decide (x.1 = (v : Int)))
  | [] => rfl
  | x :: r => by
    have ih := countP_step v r
    simp only [List.countP_cons, ih]
    by_cases a1 : 0 ≤ x.1 ∧ x.1 < (v : Int)
    · have a2 : ¬ x.1 = (v : Int) := by omega
      have a3 : 0 ≤ x.1 ∧ x.1 < ((v + 1 : Nat) : Int) := by omega
      rw [decide_eq_true a1, decide_eq_false a2, decide_eq_true a3]; simp only [if_true, if_false, Bool.false_eq_true]; omega
    · by_cases a2 : x.1 = (v : Int)
      · have a3 : 0 ≤ x.1 ∧ x.1 < ((v + 1 : Nat) : Int) := by omega
        rw [decide_eq_false a1, decide_eq_true a2, decide_eq_true a3]; simp only [if_true, if_false, Bool.false_eq_true]; omega
      · have a3 : ¬ (0 ≤ x.1 ∧ x.1 < ((v + 1 : Nat) : Int)) := by omega
        rw [decide_eq_false a1, decide_eq_false a2, decide_eq_false a3]; simp only [if_false, Bool.false_eq_true]; omega
theorem cols_count (es : Edges) : ∀ v : Nat, (cols es v).length = es.countP (fun x => decide (0 ≤ x.1 ∧ x.1 < (v : Int)))
  | 0 => by
    have : (fun x : Int × Int => decide (0 ≤ x.1 ∧ x.1 < ((0 : Nat) : Int))) = fun _ => false := by funext x; simp
    rw [this]; simp [cols]
  | v + 1 => by rw [cols_succ, List.length_append, cols_count es v, places_out, countP_step]
theorem cols_all (es : Edges) (N : Nat) (h : ∀ x ∈ es, good N x = true) : (cols es N).length = es.length := by
  rw [cols_count, List.countP_eq_length]
  intro x hx
  have := h x hx
  simp only [good, Bool.and_eq_true, decide_eq_true_eq] at this
  simp; omega
theorem cols_prefix (es : Edges) (u : Nat) : ∀ k, ∃ r, cols es (u + k) = cols es u ++ r
  | 0 => ⟨[], by simp⟩
  | k + 1 => by
    obtain ⟨r, hr⟩ := cols_prefix es u k
    exact ⟨r ++ places es ((u + k : Nat) : Int) false, by rw [← Nat.add_assoc, cols_succ, hr, List.append_assoc]⟩
theorem cols_part (es : Edges) {v N : Nat} (h : v < N) : ∃ r, cols es N = cols es v ++ (places es v false ++ r) := by
  obtain ⟨r, hr⟩ := cols_prefix es (v + 1) (N - (v + 1))
  rw [show v + 1 + (N - (v + 1)) = N by omega] at hr
  exact ⟨r, by rw [hr, cols_succ, List.append_assoc]⟩
end Go.Proofs.Ytbjoljokdjgbnaa
