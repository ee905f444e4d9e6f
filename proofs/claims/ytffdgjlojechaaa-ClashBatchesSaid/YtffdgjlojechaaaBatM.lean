/-
  Rows none of which hangs on the order: both ways to put them together; what holds of them.
-/
import Derived.Test.YtffdgjlojechaaaRowsL
namespace Go.Proofs.Ytffdgjlojechaaa
/-- As the document puts them together. -/
def rb : List (List Deed) → List Deed → List Deed → List (List Deed)
  | out, row, [] => if row.length = 0 then out else out ++ [row]
  | out, row, x :: r => if (R (row ++ [x])).2 ≠ 0 ∨ 6 < (row ++ [x]).length then rb (out ++ [row]) [x] r else rb out (row ++ [x]) r
theorem apart_snoc {row : List Deed} {x : Deed} : Apart (row ++ [x]) ↔ Apart row ∧ row.any (fun y => cl y x) = false := by
  unfold Apart
  rw [List.pairwise_append, List.any_eq_false]
  constructor
  · rintro ⟨h1, _, h3⟩
    exact ⟨h1, fun y hy => by simpa using h3 y hy x (by simp)⟩
  · rintro ⟨h1, h2⟩
    refine ⟨h1, List.pairwise_singleton _ _, fun y hy z hz => ?_⟩
    obtain rfl := List.mem_singleton.1 hz
    simpa using h2 y hy
theorem R_ne {l : List Deed} : (R l).2 ≠ 0 ↔ ¬ Apart l := by rw [← R_iff]
theorem addTo_snoc (out : List (List Deed)) (row : List Deed) (x : Deed) : addTo (out ++ [row]) x = out ++ [row ++ [x]] := by
  unfold addTo
  have hl : (out ++ [row]).length - 1 = out.length := by simp
  rw [hl, List.getD_eq_getElem?_getD, List.getElem?_append_right (Nat.le_refl _)]
  simp
theorem getD_snoc (out : List (List Deed)) (row : List Deed) : (out ++ [row]).getD ((out ++ [row]).length - 1) [] = row := by
  have hl : (out ++ [row]).length - 1 = out.length := by simp
  rw [hl, List.getD_eq_getElem?_getD, List.getElem?_append_right (Nat.le_refl _)]
  simp
theorem tells_one (x : Deed) : Tells [x] (upd none' x.s x.does) := tells_more tells_nil (by simp [hits])
theorem batch_rb : ∀ (l : List Deed) (out : List (List Deed)) (row : List Deed) (f : Fn), Tells row f → Apart row → row.length ≠ 0 → row.length ≤ 6 → batch (out ++ [row]) f l = rb out row l
  | [], out, row, f, _, _, h0, _ => by simp [batch, rb, h0]
  | x :: r, out, row, f, ht, ha, h0, h6 => by
    unfold batch rb
    have hnew : newRow (out ++ [row]) f x = true ↔ ((R (row ++ [x])).2 ≠ 0 ∨ 6 < (row ++ [x]).length) := by
      unfold newRow
      rw [getD_snoc, hits_any ht x, R_ne, apart_snoc]
      simp only [Bool.or_eq_true, decide_eq_true_eq, List.length_append, List.length_cons, List.length_nil]
      constructor
      · rintro (h | h)
        · exact .inr (by omega)
        · exact .inl (fun hh => by rw [hh.2] at h; cases h)
      · rintro (h | h)
        · refine .inr ?_
          cases hc : row.any (fun y => cl y x) with
          | true => rfl
          | false => exact absurd ⟨ha, hc⟩ h
        · exact .inl (by omega)
    by_cases hn : newRow (out ++ [row]) f x = true
    · rw [if_pos hn, if_pos (hnew.1 hn), addTo_snoc]
      exact batch_rb r (out ++ [row]) [x] _ (tells_one x) (List.pairwise_singleton _ _) (by simp) (by simp)
    · have hn' := fun h => hn (hnew.2 h)
      rw [if_neg hn, if_neg hn', addTo_snoc]
      have hap : Apart (row ++ [x]) := by
        rcases Classical.em (Apart (row ++ [x])) with h | h
        · exact h
        · exact absurd (.inl (R_ne.2 h)) hn'
      have hlen : (row ++ [x]).length ≤ 6 := by
        rcases Nat.lt_or_ge 6 (row ++ [x]).length with h | h
        · exact absurd (.inr h) hn'
        · exact h
      refine batch_rb r out (row ++ [x]) _ (tells_more ht ?_) hap (by simp) hlen
      rw [hits_any ht x]
      exact (apart_snoc.1 hap).2
theorem batch_is_rb (l : List Deed) : batch [] none' l = rb [] [] l := by
  cases l with
  | nil => simp [batch, rb]
  | cons x r =>
    unfold batch rb
    have hn : newRow [] none' x = true := by simp [newRow]
    have hno : ¬ ((R ([] ++ [x])).2 ≠ 0 ∨ 6 < ([] ++ [x] : List Deed).length) := by
      rintro (h | h)
      · exact R_ne.1 h (List.pairwise_singleton _ _)
      · simp at h
    rw [if_pos hn, if_neg hno, addTo_snoc]
    exact batch_rb r [] [x] _ (tells_one x) (List.pairwise_singleton _ _) (by simp) (by simp)
/-- What holds of rows. -/
structure GoodRows (B : List (List Deed)) : Prop where
  each : ∀ r ∈ B, Apart r ∧ 1 ≤ r.length ∧ r.length ≤ 6
  chain : ∀ (i : Nat) (r : List Deed) (x : Deed) (t : List Deed), B[i]? = some r → B[i + 1]? = some (x :: t) → r.length < 6 → ¬ Apart (r ++ [x])
theorem good_snoc {out : List (List Deed)} {row : List Deed} {x : Deed} (h : GoodRows (out ++ [row])) (hb : ¬ Apart (row ++ [x]) ∨ 6 ≤ row.length) : GoodRows ((out ++ [row]) ++ [[x]]) := by
  refine ⟨fun r hr => ?_, fun i r y t hi hj hl => ?_⟩
  · rcases List.mem_append.1 hr with hr | hr
    · exact h.each r hr
    · obtain rfl := List.mem_singleton.1 hr
      exact ⟨List.pairwise_singleton _ _, by simp, by simp⟩
  · by_cases hlt : i + 1 < (out ++ [row]).length
    · rw [List.getElem?_append_left (by omega)] at hi
      rw [List.getElem?_append_left hlt] at hj
      exact h.chain i r y t hi hj hl
    · have hjl := (List.getElem?_eq_some_iff.1 hj).1
      simp only [List.length_append, List.length_cons, List.length_nil] at hlt hjl
      have hie : i = out.length := by omega
      subst hie
      rw [List.getElem?_append_right (by simp)] at hj
      simp at hj
      obtain ⟨rfl, rfl⟩ := hj
      rw [List.getElem?_append_left (by simp), List.getElem?_append_right (Nat.le_refl _)] at hi
      simp at hi
      subst hi
      rcases hb with hb | hb
      · exact hb
      · omega
theorem good_grow {out : List (List Deed)} {row : List Deed} {x : Deed} (h : GoodRows (out ++ [row])) (h0 : row.length ≠ 0) (ha : Apart (row ++ [x])) (h6 : (row ++ [x]).length ≤ 6) : GoodRows (out ++ [row ++ [x]]) := by
  refine ⟨fun r hr => ?_, fun i r y t hi hj hl => ?_⟩
  · rcases List.mem_append.1 hr with hr | hr
    · exact h.each r (List.mem_append.2 (.inl hr))
    · obtain rfl := List.mem_singleton.1 hr
      exact ⟨ha, by simp, h6⟩
  · by_cases hlt : i + 1 < out.length
    · rw [List.getElem?_append_left (by omega)] at hi
      rw [List.getElem?_append_left hlt] at hj
      exact h.chain i r y t (by rw [List.getElem?_append_left (by omega)]; exact hi) (by rw [List.getElem?_append_left hlt]; exact hj) hl
    · have hjl := (List.getElem?_eq_some_iff.1 hj).1
      simp only [List.length_append, List.length_cons, List.length_nil] at hjl
      have hie : i + 1 = out.length := by omega
      rw [List.getElem?_append_left (by omega)] at hi
      rw [hie, List.getElem?_append_right (Nat.le_refl _)] at hj
      simp at hj
      cases row with
      | nil => simp at h0
      | cons y' t' =>
        simp at hj
        obtain ⟨rfl, rfl⟩ := hj
        exact h.chain i r y' t' (by rw [List.getElem?_append_left (by omega)]; exact hi) (by rw [hie, List.getElem?_append_right (Nat.le_refl _)]; simp) hl
theorem rb_good : ∀ (l : List Deed) (out : List (List Deed)) (row : List Deed), row.length ≠ 0 → GoodRows (out ++ [row]) → GoodRows (rb out row l) ∧ (rb out row l).flatten = (out ++ [row]).flatten ++ l
  | [], out, row, h0, hg => by simp [rb, h0, hg]
  | x :: r, out, row, h0, hg => by
    unfold rb
    have hrow := hg.each row (by simp)
    split
    · rename_i hc
      obtain ⟨h1, h2⟩ := rb_good r (out ++ [row]) [x] (by simp) (good_snoc hg (by
        rcases hc with hc | hc
        · exact .inl (R_ne.1 hc)
        · exact .inr (by simp at hc; omega)))
      exact ⟨h1, by rw [h2]; simp⟩
    · rename_i hc
      have hap : Apart (row ++ [x]) := by
        rcases Classical.em (Apart (row ++ [x])) with h | h
        · exact h
        · exact absurd (.inl (R_ne.2 h)) hc
      have hlen : (row ++ [x]).length ≤ 6 := by
        rcases Nat.lt_or_ge 6 (row ++ [x]).length with h | h
        · exact absurd (.inr h) hc
        · exact h
      obtain ⟨h1, h2⟩ := rb_good r out (row ++ [x]) (by simp) (good_grow hg h0 hap hlen)
      exact ⟨h1, by rw [h2]; simp⟩
theorem batch_good (l : List Deed) : GoodRows (batch [] none' l) ∧ (batch [] none' l).flatten = l := by
  rw [batch_is_rb]
  cases l with
  | nil => exact ⟨⟨by simp [rb], by simp [rb]⟩, by simp [rb]⟩
  | cons x r =>
    unfold rb
    have hno : ¬ ((R ([] ++ [x])).2 ≠ 0 ∨ 6 < ([] ++ [x] : List Deed).length) := by
      rintro (h | h)
      · exact R_ne.1 h (List.pairwise_singleton _ _)
      · simp at h
    rw [if_neg hno]
    have hg : GoodRows ([] ++ [[x]]) := ⟨fun r hr => by
      obtain rfl : r = [x] := by simpa using hr
      exact ⟨List.pairwise_singleton _ _, by simp, by simp⟩, fun i r y t hi hj => by simp at hj⟩
    have := rb_good r [] [x] (by simp) hg
    exact ⟨this.1, by simpa using this.2⟩
end Go.Proofs.Ytffdgjlojechaaa
