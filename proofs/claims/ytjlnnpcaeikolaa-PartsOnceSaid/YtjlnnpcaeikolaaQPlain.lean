/-
  Plain facts on orders: an order has each number once; the order that takes one back; one order behind another one.
-/
import Derived.Test.YtjlnnpcaeikolaaQTurn
namespace Go.Proofs.Ytjlnnpcaeikolaa.Perm
theorem right_free {n : Nat} : ∀ {l : List Int} {sn : List Bool}, sn.length = 16 → n ≤ 16 → rightF n sn l = true → (∀ v ∈ l, sn.getD v.toNat false = false) ∧ l.Nodup
  | [], _, _, _, _ => ⟨by simp, List.nodup_nil⟩
  | u :: r, sn, hs, hn, h => by
    simp only [rightF] at h
    split at h
    · cases h
    · rename_i hc
      have hu : u.toNat < sn.length := by omega
      have hfree : sn.getD u.toNat false = false := by
        cases hx : sn.getD u.toNat false
        · rfl
        · exact absurd (Or.inr (Or.inr hx)) hc
      have ih := right_free (by simpa using hs) hn h
      have hin := rightF_range h
      refine ⟨fun v hv => ?_, List.nodup_cons.2 ⟨fun hm => ?_, ih.2⟩⟩
      · rcases List.mem_cons.1 hv with rfl | hv
        · exact hfree
        · have := ih.1 v hv
          rw [getD_set hu] at this
          by_cases e : v.toNat = u.toNat
          · rw [if_pos e] at this; cases this
          · rwa [if_neg e] at this
      · have := ih.1 u hm
        rw [getD_set hu, if_pos rfl] at this
        cases this
theorem right_of {n : Nat} : ∀ {l : List Int} {sn : List Bool}, sn.length = 16 → n ≤ 16 → (∀ v ∈ l, 0 ≤ v ∧ v < (n : Int) ∧ sn.getD v.toNat false = false) → l.Nodup → rightF n sn l = true
  | [], _, _, _, _, _ => rfl
  | u :: r, sn, hs, hn, h, hd => by
    have hu := h u (List.mem_cons_self ..)
    have hul : u.toNat < sn.length := by omega
    simp only [rightF]
    rw [if_neg (by rintro (h1 | h1 | h1) <;> first | omega | (rw [hu.2.2] at h1; cases h1))]
    rw [List.nodup_cons] at hd
    refine right_of (by simpa using hs) hn (fun v hv => ?_) hd.2
    have hv' := h v (List.mem_cons_of_mem _ hv)
    refine ⟨hv'.1, hv'.2.1, ?_⟩
    rw [getD_set hul, if_neg (fun e => hd.1 ?_)]
    · exact hv'.2.2
    · have : v = u := by omega
      rw [← this]; exact hv
theorem below_zero {sn : List Bool} : ∀ {n : Nat}, below sn n ≠ 0 → ∃ j, j < n ∧ sn.getD j false = false
  | 0, h => absurd rfl h
  | n + 1, h => by
    cases hx : sn.getD n false
    · exact ⟨n, by omega, hx⟩
    · rw [below_seen hx] at h
      obtain ⟨j, hj, hf⟩ := below_zero h
      exact ⟨j, by omega, hf⟩
theorem right_all {n : Nat} : ∀ {l : List Int} {sn : List Bool}, sn.length = 16 → n ≤ 16 → rightF n sn l = true → below sn n = l.length → ∀ j, j < n → sn.getD j false = false → (j : Int) ∈ l
  | [], sn, _, _, _, hb, j, hj, hf => by
    have := below_lt hj hf
    simp at hb
    omega
  | u :: r, sn, hs, hn, h, hb, j, hj, hf => by
    simp only [rightF] at h
    split at h
    · cases h
    · rename_i hc
      have hul : u.toNat < sn.length := by omega
      have hfree : sn.getD u.toNat false = false := by
        cases hx : sn.getD u.toNat false
        · rfl
        · exact absurd (Or.inr (Or.inr hx)) hc
      by_cases e : j = u.toNat
      · have : (j : Int) = u := by omega
        rw [this]; exact List.mem_cons_self ..
      · refine List.mem_cons_of_mem _ (right_all (by simpa using hs) hn h ?_ j hj ?_)
        · rw [below_set hul hfree, if_pos (by omega), hb]; rfl
        · rw [getD_set hul, if_neg e]; exact hf
theorem cover_le {n : Nat} : ∀ {l : List Int} {sn : List Bool}, sn.length = 16 → n ≤ 16 → (∀ j, j < n → sn.getD j false = false → (j : Int) ∈ l) → below sn n ≤ l.length
  | [], sn, _, _, h => by
    by_cases hb : below sn n = 0
    · simp [hb]
    · obtain ⟨j, hj, hf⟩ := below_zero hb
      have := h j hj hf
      simp at this
  | u :: r, sn, hs, hn, h => by
    by_cases hc : 0 ≤ u ∧ u < (n : Int) ∧ sn.getD u.toNat false = false
    · have hul : u.toNat < sn.length := by omega
      have ih := cover_le (l := r) (sn := sn.set u.toNat true) (by simpa using hs) hn (fun j hj hf => by
        rw [getD_set hul] at hf
        split at hf
        · cases hf
        · rename_i hne
          rcases List.mem_cons.1 (h j hj hf) with e | hm
          · omega
          · exact hm)
      rw [below_set hul hc.2.2, if_pos (by omega)] at ih
      rw [List.length_cons]
      omega
    · have ih := cover_le (l := r) hs hn (fun j hj hf => by
        rcases List.mem_cons.1 (h j hj hf) with e | hm
        · exact absurd ⟨by omega, by omega, by rw [← e, Int.toNat_natCast]; exact hf⟩ hc
        · exact hm)
      rw [List.length_cons]
      omega
theorem cover_right {n : Nat} : ∀ {l : List Int} {sn : List Bool}, sn.length = 16 → n ≤ 16 → (∀ j, j < n → sn.getD j false = false → (j : Int) ∈ l) → below sn n = l.length → rightF n sn l = true
  | [], _, _, _, _, _ => rfl
  | u :: r, sn, hs, hn, h, hb => by
    have hc : 0 ≤ u ∧ u < (n : Int) ∧ sn.getD u.toNat false = false := by
      refine Classical.byContradiction fun hc => ?_
      have ih := cover_le (l := r) hs hn (fun j hj hf => by
        rcases List.mem_cons.1 (h j hj hf) with e | hm
        · exact absurd ⟨by omega, by omega, by rw [← e, Int.toNat_natCast]; exact hf⟩ hc
        · exact hm)
      rw [List.length_cons] at hb
      omega
    have hul : u.toNat < sn.length := by omega
    simp only [rightF]
    rw [if_neg (by rintro (h1 | h1 | h1) <;> first | omega | (rw [hc.2.2] at h1; cases h1))]
    refine cover_right (by simpa using hs) hn (fun j hj hf => ?_) ?_
    · rw [getD_set hul] at hf
      split at hf
      · cases hf
      · rcases List.mem_cons.1 (h j hj hf) with e | hm
        · omega
        · exact hm
    · rw [below_set hul hc.2.2, if_pos (by omega), hb]; rfl
theorem none_free (j : Nat) : none16.getD j false = false := by
  simp only [none16, List.getD, List.getElem?_replicate]
  split <;> rfl
theorem inj_of {p : List Int} (h : rightB p = true) {i j : Nat} (hi : i < p.length) (hj : j < p.length) (e : p.getD i 0 = p.getD j 0) : i = j := by
  have hd := (right_free rfl (rightB_parts h).1 (rightB_parts h).2).2
  have e1 : p.getD i 0 = p[i] := by simp [List.getD, hi]
  have e2 : p.getD j 0 = p[j] := by simp [List.getD, hj]
  rw [e1, e2] at e
  have hp := List.pairwise_iff_getElem.1 hd
  rcases Nat.lt_trichotomy i j with hlt | he | hlt
  · exact absurd e (hp i j hi hj hlt)
  · exact he
  · exact absurd e.symm (hp j i hj hi hlt)
theorem all_of {p : List Int} (h : rightB p = true) {j : Nat} (hj : j < p.length) : ∃ i, i < p.length ∧ p.getD i 0 = (j : Int) := by
  have hm := right_all rfl (rightB_parts h).1 (rightB_parts h).2 (below_none _) j hj (none_free j)
  obtain ⟨i, hi, he⟩ := List.getElem_of_mem hm
  exact ⟨i, hi, by simp [List.getD, hi, he]⟩
theorem right_mk {p : List Int} (hl : p.length ≤ 16) (hr : ∀ i, i < p.length → 0 ≤ p.getD i 0 ∧ p.getD i 0 < (p.length : Int)) (hi : ∀ i j, i < p.length → j < p.length → p.getD i 0 = p.getD j 0 → i = j) : rightB p = true := by
  unfold rightB
  rw [decide_eq_true hl, Bool.true_and]
  refine right_of rfl hl (fun v hv => ?_) ?_
  · obtain ⟨i, hil, rfl⟩ := List.getElem_of_mem hv
    have := hr i hil
    rw [show p.getD i 0 = p[i] by simp [List.getD, hil]] at this
    exact ⟨this.1, this.2, none_free _⟩
  · refine List.pairwise_iff_getElem.2 fun i j h1 h2 hlt e => ?_
    have := hi i j h1 h2 (by simp [List.getD, h1, h2, e])
    omega
theorem cover_mk {p : List Int} (hl : p.length ≤ 16) (h : ∀ j, j < p.length → (j : Int) ∈ p) : rightB p = true := by
  unfold rightB
  rw [decide_eq_true hl, Bool.true_and]
  exact cover_right rfl hl (fun j hj _ => h j hj) (below_none _)
theorem turnL_length (p l : List Int) : (turnL p l).length = p.length := by simp [turnL]
theorem turnL_get {p : List Int} (l : List Int) {i : Nat} (hi : i < p.length) : (turnL p l).getD i 0 = l.getD (p.getD i 0).toNat 0 := by
  simp [turnL, List.getD, hi]
end Go.Proofs.Ytjlnnpcaeikolaa.Perm
