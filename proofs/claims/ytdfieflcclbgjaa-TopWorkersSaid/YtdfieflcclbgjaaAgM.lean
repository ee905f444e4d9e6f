/-
  Parts of the program's Agg, and the numbers that the document's has taken in: mathematics alone.
-/
import Derived.Test.YtdfieflcclbgjaaPAgg3
namespace Go.Proofs.Ytdfieflcclbgjaa
theorem partR_snoc (o : Nat) (row : List Int) (z : Int) : partR o (row ++ [z]) = opTwo o (partR o row) z := by unfold partR; rw [List.foldl_append]; rfl
theorem partR_nil (o : Nat) : partR o [] = redW (o : Int) := rfl
/-- Each worker's part is what it took in. -/
def Parts (o n : Nat) (ps : List Int) (rows : List (List Int)) : Prop := ps.length = 4 ∧ rows.length = n ∧ n ≤ 4 ∧ ∀ (j : Nat) (r : List Int), rows[j]? = some r → ps[j]? = some (partR o r)
theorem Parts.get {o n : Nat} {ps : List Int} {rows : List (List Int)} (h : Parts o n ps rows) {j : Nat} (hj : j < n) : ∃ r, rows[j]? = some r ∧ ps[j]? = some (partR o r) := by
  obtain ⟨r, hr⟩ : ∃ r, rows[j]? = some r := ⟨_, List.getElem?_eq_getElem (by rw [h.2.1]; exact hj)⟩
  exact ⟨r, hr, h.2.2.2 j r hr⟩
theorem Parts.take {o n : Nat} {ps : List Int} {rows : List (List Int)} (h : Parts o n ps rows) {wk : Nat} {row : List Int} (hr : rows[wk]? = some row) (z : Int) : Parts o n (ps.set wk (opTwo o (partR o row) z)) (rows.set wk (row ++ [z])) := by
  refine ⟨by rw [List.length_set]; exact h.1, by rw [List.length_set]; exact h.2.1, h.2.2.1, fun j r hj => ?_⟩
  have hwl := (List.getElem?_eq_some_iff.1 hr).1
  rw [List.getElem?_set] at hj ⊢
  by_cases e : wk = j
  · subst e
    rw [if_pos rfl, if_pos hwl] at hj
    rw [if_pos rfl, if_pos (by rw [h.1]; have := h.2.1; have := h.2.2.1; omega)]
    cases hj
    rw [partR_snoc]
  · rw [if_neg e] at hj ⊢
    exact h.2.2.2 j r hj
theorem parts_clear {o n : Nat} {ps : List Int} (hl : ps.length = 4) (hn : n ≤ 4) : Parts o n (clr (redW (o : Int)) ps n) (List.replicate n []) := by
  refine ⟨by rw [clr_len]; exact hl, by simp, hn, fun j r hj => ?_⟩
  rw [List.getElem?_replicate] at hj
  split at hj
  · rename_i h
    cases hj
    rw [clr_get _ _ _ _ (by omega), if_pos h]
    rfl
  · cases hj
theorem count_rows (rows : List (List Int)) : countR rows = (rows.map List.length).sum := rfl
theorem sum_set : ∀ (l : List Nat) (i x y : Nat), l[i]? = some x → (l.set i y).sum + x = l.sum + y
  | [], i, x, y, h => by simp at h
  | a :: r, 0, x, y, h => by
    simp at h
    subst h
    simp
    omega
  | a :: r, i + 1, x, y, h => by
    have := sum_set r i x y (by simpa using h)
    simp
    omega
theorem count_set {rows : List (List Int)} {wk : Nat} {row : List Int} (h : rows[wk]? = some row) (z : Int) : countR (rows.set wk (row ++ [z])) = countR rows + 1 := by
  unfold countR
  rw [List.map_set]
  have := sum_set (rows.map List.length) wk row.length (row ++ [z]).length (by rw [List.getElem?_map, h]; rfl)
  simp at this ⊢
  omega
theorem count_nil (n : Nat) : countR (List.replicate n []) = 0 := by
  unfold countR
  induction n with
  | zero => rfl
  | succ n ih => rw [List.replicate_succ, List.map_cons, List.sum_cons, ih]; rfl
theorem count_zip : ∀ (A O : List (List Int)), A.length = O.length → countR (List.zipWith (· ++ ·) A O) = countR A + countR O
  | [], [], _ => rfl
  | a :: A, b :: O, h => by
    have := count_zip A O (by simpa using h)
    unfold countR at this ⊢
    simp at this ⊢
    omega
  | [], _ :: _, h => by simp at h
  | _ :: _, [], h => by simp at h
theorem Parts.whole {o n : Nat} {ps : List Int} {rows : List (List Int)} (h : Parts o n ps rows) (k : Nat) : wholeP o n ps k = wholeR o rows k := by
  unfold wholeP wholeR
  rw [h.2.1]
  have key : ∀ (l : List Int) (a : Int), (∀ z ∈ l, ∃ q : Nat, z = (q : Int) ∧ q < n) → l.foldl (fun a j => opTwo o a (ps.getD j.toNat 0)) a = l.foldl (fun a j => opTwo o a (partR o (rows.getD j.toNat []))) a := by
    intro l
    induction l with
    | nil => intro a _; rfl
    | cons z r ih =>
      intro a hz
      obtain ⟨q, rfl, hq⟩ := hz z (by simp)
      obtain ⟨rw', h1, h2⟩ := h.get hq
      rw [List.foldl_cons, List.foldl_cons, ih _ (fun y hy => hz y (by simp [hy]))]
      congr 1
      simp [List.getD, h1, h2]
  refine key _ _ fun z hz => ?_
  obtain ⟨i, hi⟩ := List.mem_iff_getElem?.1 hz
  exact fromL_get' (by have := h.2.2.1; omega) hi
def tru (z : Int) : Int := if z = 0 then 0 else 1
theorem tru01 (z : Int) : tru z = 0 ∨ tru z = 1 := by unfold tru; split <;> simp
theorem tru0 (z : Int) : tru z = 0 ↔ z = 0 := by unfold tru; split <;> simp_all
theorem op17_tru (a z : Int) : opTwo 17 a (tru z) = opTwo 17 a z := by rw [op17, op17]; simp [tru0]
theorem op16_tru (a z : Int) : opTwo 16 a (tru z) = opTwo 16 a z := by rw [op16, op16]; simp [tru0]
theorem fold_tru {o : Nat} (h : o = 16 ∨ o = 17) : ∀ (row : List Int) (a : Int), (row.map tru).foldl (opTwo o) a = row.foldl (opTwo o) a
  | [], _ => rfl
  | z :: r, a => by
    rw [List.map_cons, List.foldl_cons, List.foldl_cons, fold_tru h r]
    rcases h with rfl | rfl
    · rw [op16_tru]
    · rw [op17_tru]
theorem fold01 {o : Nat} (h : o = 16 ∨ o = 17) : ∀ (row : List Int) (a : Int), (a = 0 ∨ a = 1) → (row.foldl (opTwo o) a = 0 ∨ row.foldl (opTwo o) a = 1)
  | [], _, ha => ha
  | z :: r, a, _ => by
    rw [List.foldl_cons]
    refine fold01 h r _ ?_
    rcases h with rfl | rfl
    · rw [op16]; split <;> simp
    · rw [op17]; split <;> simp
theorem op_in {o : Nat} (h : o = 1 ∨ o = 6 ∨ o = 7) {a b : Int} (ha : In64 a) (hb : In64 b) : In64 (opTwo o a b) := by
  rcases h with rfl | rfl | rfl
  · exact (groups_of (.inl rfl)).1.1 a b ha hb
  · exact (groups_of (.inr (.inl rfl))).1.1 a b ha hb
  · exact (groups_of (.inr (.inr rfl))).1.1 a b ha hb
/-- A part that takes another one in is both rows' part. -/
theorem merge_part {o : Nat} (ho : many5 o) (A O : List Int) (hA : ∀ z ∈ A, In64 z) (hO : ∀ z ∈ O, In64 z) : opTwo o (partR o A) (partR o O) = partR o (A ++ O) := by
  have hAO : partR o (A ++ O) = O.foldl (opTwo o) (partR o A) := by unfold partR; rw [List.foldl_append]
  rw [hAO]
  by_cases h : o = 1 ∨ o = 6 ∨ o = 7
  · have g := groups_of h
    exact fold_part g.1 g.2 _ (fold_in g.1 A _ g.2.1 hA) O hO
  · have h' : o = 16 ∨ o = 17 := by unfold many5 at ho; omega
    have hx : partR o A = 0 ∨ partR o A = 1 := by
      unfold partR
      refine fold01 h' A _ ?_
      rcases h' with rfl | rfl
      · exact .inr rfl
      · exact .inl rfl
    have e : partR o O = partR o (O.map tru) := by unfold partR; rw [fold_tru h']
    rw [e, ← fold_tru h' O]
    have ht : ∀ z ∈ O.map tru, z = 0 ∨ z = 1 := fun z hz => by
      obtain ⟨y, _, rfl⟩ := List.mem_map.1 hz
      exact tru01 y
    rcases h' with rfl | rfl
    · exact fold_part groups_and neutral_and _ hx _ ht
    · exact fold_part groups_or neutral_or _ hx _ ht
theorem zip_get {A O : List (List Int)} {j : Nat} {r : List Int} (h : (List.zipWith (· ++ ·) A O)[j]? = some r) : ∃ a b, A[j]? = some a ∧ O[j]? = some b ∧ r = a ++ b := by
  rw [List.getElem?_zipWith] at h
  split at h
  · rename_i a b ha hb
    exact ⟨a, b, ha, hb, by simpa using h.symm⟩
  · cases h
theorem Parts.merge {o n : Nat} {ps qs : List Int} {A O : List (List Int)} (ho : many5 o) (h : Parts o n ps A) (h' : Parts o n qs O) (hA : ∀ r ∈ A, ∀ z ∈ r, In64 z) (hO : ∀ r ∈ O, ∀ z ∈ r, In64 z) : Parts o n (mrg o ps qs n) (List.zipWith (· ++ ·) A O) := by
  refine ⟨by rw [mrg_len]; exact h.1, by rw [List.length_zipWith, h.2.1, h'.2.1]; omega, h.2.2.1, fun j r hj => ?_⟩
  obtain ⟨a, b, ha, hb, rfl⟩ := zip_get hj
  have hjn : j < n := by have := (List.getElem?_eq_some_iff.1 ha).1; rw [h.2.1] at this; exact this
  rw [mrg_get o ps qs n j (by rw [h.1]; have := h.2.2.1; omega), if_pos hjn]
  have e1 := h.2.2.2 j a ha
  have e2 := h'.2.2.2 j b hb
  rw [← merge_part ho a b (hA a (List.mem_of_getElem? ha)) (hO b (List.mem_of_getElem? hb))]
  simp [List.getD, e1, e2]
end Go.Proofs.Ytdfieflcclbgjaa
