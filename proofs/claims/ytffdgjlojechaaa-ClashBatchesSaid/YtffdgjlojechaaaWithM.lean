/-
  Names by their bytes, each once: one more among them; all of a list.
-/
import Derived.Test.YtffdgjlojechaaaWrites
namespace Go.Proofs.Ytffdgjlojechaaa
open Go.Lib
def place (ts : List Txt) (t : Txt) : Nat := (ts.takeWhile fun u => decide (u < t)).length
def withT (ts : List Txt) (t : Txt) : List Txt := if ts[place ts t]? = some t then ts else ts.take (place ts t) ++ [t] ++ ts.drop (place ts t)
theorem place_le (ts : List Txt) (t : Txt) : place ts t ≤ ts.length := (List.takeWhile_sublist _).length_le
theorem place_lt {ts : List Txt} {t : Txt} : ∀ {i : Nat}, i < place ts t → ∃ u, ts[i]? = some u ∧ u < t := by
  unfold place
  induction ts with
  | nil => intro i h; simp at h
  | cons a r ih =>
    intro i h
    rw [List.takeWhile_cons] at h
    by_cases ha : a < t
    · simp only [ha, decide_true, if_true, List.length_cons] at h
      cases i with
      | zero => exact ⟨a, rfl, ha⟩
      | succ i => exact ih (by omega)
    · simp [ha] at h
theorem place_at {ts : List Txt} {t u : Txt} : ts[place ts t]? = some u → ¬ u < t := by
  unfold place
  induction ts with
  | nil => intro h; simp at h
  | cons a r ih =>
    intro h
    rw [List.takeWhile_cons] at h
    by_cases ha : a < t
    · simp only [ha, decide_true, if_true, List.length_cons, List.getElem?_cons_succ] at h
      exact ih h
    · simp only [ha, decide_false, Bool.false_eq_true, if_false, List.length_nil, List.getElem?_cons_zero, Option.some.injEq] at h
      rw [← h]; exact ha
/-- Rising. -/
def Up (l : List Txt) : Prop := l.Pairwise (· < ·)
theorem lt_of_ne {a b : Txt} (h : ¬ a < b) (hne : a ≠ b) : b < a := by
  have h1 : b ≤ a := List.not_lt.1 h
  rcases Classical.em (b < a) with h2 | h2
  · exact h2
  · exact absurd (List.le_antisymm (List.not_lt.1 h2) h1) hne
theorem withT_up {ts : List Txt} {t : Txt} (h : Up ts) : Up (withT ts t) := by
  unfold withT
  split
  · exact h
  · rename_i hne
    have hsplit : ts.take (place ts t) ++ ts.drop (place ts t) = ts := List.take_append_drop _ _
    have h' := h
    rw [← hsplit] at h'
    obtain ⟨h1, h2, h3⟩ := List.pairwise_append.1 h'
    have lo : ∀ a ∈ ts.take (place ts t), a < t := by
      intro a ha
      obtain ⟨i, hi⟩ := List.getElem?_of_mem ha
      rw [List.getElem?_take] at hi
      split at hi
      · rename_i hlt
        obtain ⟨u, hu, hut⟩ := place_lt hlt
        rw [hi] at hu
        obtain rfl := Option.some.inj hu
        exact hut
      · cases hi
    have hi : ∀ b ∈ ts.drop (place ts t), t < b := by
      intro b hb
      cases hd : ts.drop (place ts t) with
      | nil => rw [hd] at hb; simp at hb
      | cons c r =>
        have hc : ts[place ts t]? = some c := by
          have := List.getElem?_drop (xs := ts) (i := place ts t) (j := 0)
          rw [hd] at this
          simpa using this.symm
        have hct : t < c := lt_of_ne (place_at hc) (fun e => hne (by rw [hc, e]))
        rw [hd] at hb h2
        rcases List.mem_cons.1 hb with rfl | hb
        · exact hct
        · exact List.lt_trans hct ((List.pairwise_cons.1 h2).1 b hb)
    unfold Up
    rw [List.append_assoc, List.pairwise_append]
    refine ⟨h1, List.pairwise_cons.2 ⟨fun b hb => hi b hb, h2⟩, fun a ha b hb => ?_⟩
    rcases List.mem_cons.1 hb with rfl | hb
    · exact lo a ha
    · exact h3 a ha b hb
theorem withT_mem {ts : List Txt} {t u : Txt} : u ∈ withT ts t ↔ u = t ∨ u ∈ ts := by
  unfold withT
  split
  · rename_i h
    constructor
    · exact fun hu => .inr hu
    · rintro (rfl | hu)
      · exact List.mem_of_getElem? h
      · exact hu
  · have hsplit : u ∈ ts ↔ u ∈ ts.take (place ts t) ∨ u ∈ ts.drop (place ts t) := by
      rw [← List.mem_append, List.take_append_drop]
    rw [hsplit]
    simp only [List.append_assoc, List.mem_append, List.mem_cons, List.mem_nil_iff, or_false]
    constructor
    · rintro (h | h | h)
      · exact .inr (.inl h)
      · exact .inl h
      · exact .inr (.inr h)
    · rintro (h | h | h)
      · exact .inr (.inl h)
      · exact .inl h
      · exact .inr (.inr h)
/-- Rising lists with the same members are the same. -/
theorem up_ext : ∀ {a b : List Txt}, Up a → Up b → (∀ u, u ∈ a ↔ u ∈ b) → a = b
  | [], [], _, _, _ => rfl
  | [], y :: r, _, _, h => absurd ((h y).2 (by simp)) (by simp)
  | x :: r, [], _, _, h => absurd ((h x).1 (by simp)) (by simp)
  | x :: r, y :: s, ha, hb, h => by
    obtain ⟨a1, a2⟩ := List.pairwise_cons.1 ha
    obtain ⟨b1, b2⟩ := List.pairwise_cons.1 hb
    have hxy : x = y := by
      rcases List.mem_cons.1 ((h x).1 (by simp)) with e | e
      · exact e
      · rcases List.mem_cons.1 ((h y).2 (by simp)) with e' | e'
        · exact e'.symm
        · exact absurd (List.lt_trans (a1 y e') (b1 x e)) (List.lt_irrefl x)
    subst hxy
    congr 1
    refine up_ext a2 b2 fun u => ?_
    have hn : ∀ {l : List Txt}, (∀ b ∈ l, x < b) → u ∈ l → u ≠ x := fun hl hu e => List.lt_irrefl x (by rw [← e] at hl ⊢; exact hl u hu)
    constructor
    · intro hu
      rcases List.mem_cons.1 ((h u).1 (List.mem_cons_of_mem _ hu)) with e | e
      · exact absurd e (hn a1 hu)
      · exact e
    · intro hu
      rcases List.mem_cons.1 ((h u).2 (List.mem_cons_of_mem _ hu)) with e | e
      · exact absurd e (hn b1 hu)
      · exact e
theorem compact_spec (d : Array Txt) (hs : d.toList.Pairwise (· ≤ ·)) : ∀ m, m ≤ d.size → Up (compactUpTo d m) ∧ ∀ u, u ∈ compactUpTo d m ↔ u ∈ d.toList.take m := by
  intro m
  induction m with
  | zero => intro _; simp [compactUpTo, Up]
  | succ m ih =>
    intro hm
    obtain ⟨h1, h2⟩ := ih (by omega)
    rw [compactUpTo_succ]
    have hdm : d[m]! = d[m] := getElem!_pos d m (by omega)
    have htk : d.toList.take (m + 1) = d.toList.take m ++ [d[m]] := by
      rw [List.take_add_one, Array.getElem?_toList, Array.getElem?_eq_getElem (by omega)]; rfl
    have hle : ∀ u ∈ d.toList.take m, u ≤ d[m] := by
      intro u hu
      have h' := hs
      rw [← List.take_append_drop m d.toList] at h'
      refine (List.pairwise_append.1 h').2.2 u hu d[m] ?_
      exact List.mem_of_getElem? (i := 0) (by rw [List.getElem?_drop, Array.getElem?_toList, Nat.add_zero]; exact Array.getElem?_eq_getElem (by omega))
    cases hk : keeps d m with
    | true =>
      simp only [if_true, hdm]
      refine ⟨List.pairwise_append.2 ⟨h1, by simp, fun a ha b hb => ?_⟩, fun u => ?_⟩
      · obtain rfl := List.mem_singleton.1 hb
        have ham := (h2 a).1 ha
        have hal := hle a ham
        rcases Classical.em (a < d[m]) with h | h
        · exact h
        · exfalso
          have hae : a = d[m] := List.le_antisymm hal (List.not_lt.1 h)
          -- the one ahead is as large
          obtain ⟨i, hi⟩ := List.getElem?_of_mem ham
          rw [List.getElem?_take] at hi
          split at hi
          · rename_i him
            simp only [keeps, decide_eq_true_eq] at hk
            rcases hk with rfl | hk
            · omega
            · have hm1 : d[m - 1]! = d[m - 1] := getElem!_pos d (m - 1) (by omega)
              rw [hdm, hm1] at hk
              have l1 : d[m - 1] ≤ d[m] := hle _ (List.mem_of_getElem? (i := m - 1) (by rw [List.getElem?_take, if_pos (by omega), Array.getElem?_toList, Array.getElem?_eq_getElem (by omega)]))
              have l2 : a ≤ d[m - 1] := by
                by_cases hie : i = m - 1
                · subst hie
                  rw [Array.getElem?_toList, Array.getElem?_eq_getElem (by omega)] at hi
                  rw [Option.some.inj hi]
                  exact List.le_refl _
                · have := List.pairwise_iff_getElem.1 hs i (m - 1) (by simp; omega) (by simp; omega) (by omega)
                  rw [List.getElem?_eq_getElem (by simp; omega)] at hi
                  rw [← Option.some.inj hi]
                  simpa using this
              exact hk (List.le_antisymm (hae ▸ l2) l1)
          · cases hi
      · rw [List.mem_append, h2, htk, List.mem_append]
    | false =>
      simp only [Bool.false_eq_true, if_false, List.append_nil]
      refine ⟨h1, fun u => ?_⟩
      rw [h2, htk, List.mem_append]
      constructor
      · exact fun h => .inl h
      · rintro (h | h)
        · exact h
        · obtain rfl := List.mem_singleton.1 h
          simp only [keeps, decide_eq_false_iff_not, not_or, Classical.not_not] at hk
          obtain ⟨h0, he⟩ := hk
          have hm1 : d[m - 1]! = d[m - 1] := getElem!_pos d (m - 1) (by omega)
          rw [hdm, hm1] at he
          rw [he]
          exact List.mem_of_getElem? (i := m - 1) (by rw [List.getElem?_take, if_pos (by omega), Array.getElem?_toList, Array.getElem?_eq_getElem (by omega)])
theorem uniq_up (ts : List Txt) : Up (uniq ts) ∧ ∀ u, u ∈ uniq ts ↔ u ∈ ts := by
  unfold uniq compact
  have hs : (ts.mergeSort fun x y => decide (x ≤ y)).Pairwise (· ≤ ·) := by
    have := List.pairwise_mergeSort (le := fun x y : Txt => decide (x ≤ y)) (fun a b c h1 h2 => by simp only [decide_eq_true_eq] at *; exact List.le_trans h1 h2) (fun a b => by simp only [Bool.or_eq_true, decide_eq_true_eq]; exact List.le_total a b) ts
    exact this.imp (fun h => by simpa using h)
  have h := compact_spec (ts.mergeSort fun x y => decide (x ≤ y)).toArray (by simpa using hs) (ts.mergeSort fun x y => decide (x ≤ y)).length (by simp)
  refine ⟨h.1, fun u => ?_⟩
  rw [h.2, show (ts.mergeSort fun x y => decide (x ≤ y)).toArray.toList = (ts.mergeSort fun x y => decide (x ≤ y)) from rfl, List.take_length]
  simp
theorem fold_up (ts : List Txt) : ∀ acc, Up acc → Up (ts.foldl withT acc) ∧ ∀ u, u ∈ ts.foldl withT acc ↔ u ∈ acc ∨ u ∈ ts := by
  induction ts with
  | nil => intro acc h; exact ⟨h, by simp⟩
  | cons t r ih =>
    intro acc h
    obtain ⟨h1, h2⟩ := ih (withT acc t) (withT_up h)
    refine ⟨h1, fun u => ?_⟩
    rw [List.foldl_cons, h2, withT_mem, List.mem_cons]
    constructor
    · rintro ((e | e) | e)
      · exact .inr (.inl e)
      · exact .inl e
      · exact .inr (.inr e)
    · rintro (e | e | e)
      · exact .inl (.inr e)
      · exact .inl (.inl e)
      · exact .inr e
/-- Both ways to write names are one. -/
theorem uniq_fold (ts : List Txt) : uniq ts = ts.foldl withT [] := by
  obtain ⟨h1, h2⟩ := uniq_up ts
  obtain ⟨h3, h4⟩ := fold_up ts [] List.Pairwise.nil
  exact up_ext h1 h3 fun u => by rw [h2, h4]; simp
end Go.Proofs.Ytffdgjlojechaaa
