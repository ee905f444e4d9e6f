/-
  Signs of words: none that parts words; how long words are.
-/
import Derived.Test.YtmihhebcchpmcaaGreatDoorToks
import Derived.Test.YtmihhebcchpmcaaGreatDoorTellM
import Derived.Test.YtmihhebcchpmcaaGreatDoorTRightM
namespace Go.Proofs.YtmihhebcchpmcaaGreatDoor
open Go.RowKit
/-- A sign that is one of a word's. -/
def plain (c : UInt8) : Prop := c ≠ 59 ∧ bracket c = false ∧ spaced c = false
theorem plain_ten {c : UInt8} (h : plain c) : c ≠ 10 := fun e => by
  have := h.2.2
  rw [e] at this
  simp [spaced] at this
theorem plain_of {c : UInt8} (h : 33 ≤ c.toNat) (h40 : c.toNat ≠ 40) (h41 : c.toNat ≠ 41) (h59 : c.toNat ≠ 59) : plain c := by
  have key : ∀ n : UInt8, n.toNat ≠ c.toNat → c ≠ n := fun n hn e => hn (by rw [e])
  refine ⟨key 59 (by simpa using fun e => h59 e.symm), ?_, ?_⟩
  · unfold bracket
    rw [beq_eq_false_iff_ne.2 (key 40 (by simpa using fun e => h40 e.symm)), beq_eq_false_iff_ne.2 (key 41 (by simpa using fun e => h41 e.symm))]
    rfl
  · unfold spaced
    rw [beq_eq_false_iff_ne.2 (key 32 (by simp; omega)), beq_eq_false_iff_ne.2 (key 9 (by simp; omega)), beq_eq_false_iff_ne.2 (key 10 (by simp; omega))]
    rfl
theorem dig_plain {c : UInt8} (h : Dig c) : plain c := plain_of (by have := h.1; omega) (by have := h.1; omega) (by have := h.1; omega) (by have := h.2; omega)
theorem itoa_plain (v : Int) : (∀ c ∈ Lib.itoa v, plain c) ∧ Lib.itoa v ≠ [] := by
  unfold Lib.itoa
  split
  · obtain ⟨h1, _⟩ := dec_facts v.natAbs
    refine ⟨fun c hc => ?_, by simp⟩
    rcases List.mem_cons.1 hc with rfl | hc
    · exact plain_of (by decide) (by decide) (by decide) (by decide)
    · exact dig_plain (h1 c hc)
  · obtain ⟨h1, _, h3, _⟩ := dec_facts v.toNat
    exact ⟨fun c hc => dig_plain (h1 c hc), h3⟩
theorem itoa_len {v : Int} (h : In64 v) : (Lib.itoa v).length ≤ 21 := Lib.itoa_length_le v h.1 h.2
theorem opc_plain (i : Nat) (h : i < 10) : plain (opc i) := by
  have : i = 0 ∨ i = 1 ∨ i = 2 ∨ i = 3 ∨ i = 4 ∨ i = 5 ∨ i = 6 ∨ i = 7 ∨ i = 8 ∨ i = 9 := by omega
  rcases this with rfl | rfl | rfl | rfl | rfl | rfl | rfl | rfl | rfl | rfl <;> exact plain_of (by decide) (by decide) (by decide) (by decide)
/-- What is a word by its kind has signs of words alone. -/
theorem word_plain {s : ByteArray} (h : kindW s = 3) : (∀ c ∈ s.data.toList, plain c) ∧ s.data.toList ≠ [] ∧ s.data.toList.length ≤ 8 := by
  unfold kindW at h
  split at h
  · simp at h
  · split at h
    · rename_i hb
      rcases Bool.or_eq_true _ _ ▸ hb with ho | hn
      · unfold opB at ho
        rw [List.any_eq_true] at ho
        obtain ⟨i, hi, hs⟩ := ho
        have hs2 : s.data.toList = [opc i] := by rw [← ByteArray.toList_eq]; simpa using hs
        rw [hs2]
        exact ⟨fun c hc => by rw [List.mem_singleton.1 hc]; exact opc_plain i (by simpa using hi), by simp, by simp⟩
      · unfold nameB at hn
        rw [Bool.and_eq_true, Bool.and_eq_true] at hn
        obtain ⟨ha, h1, h8⟩ := hn
        have hsz : s.data.toList.length = s.size := by rw [Array.length_toList]; rfl
        have h1' : 1 ≤ s.size := of_decide_eq_true h1
        have h8' : s.size ≤ 8 := of_decide_eq_true h8
        refine ⟨fun c hc => ?_, fun e => by rw [e] at hsz; simp at hsz; omega, by omega⟩
        obtain ⟨i, hi⟩ := List.getElem?_of_mem hc
        have hil : i < s.size := by rw [← hsz]; exact (List.getElem?_eq_some_iff.1 hi).1
        have hg := List.all_eq_true.1 ha i (List.mem_range.2 hil)
        have hsn : sign s i = (c.toNat : Int) := by
          unfold sign
          congr 2
          rw [Array.getD_eq_getD_getElem?, ← Array.getElem?_toList, hi]
          rfl
        simp only [hsn, goodAt, letter, digit, Bool.or_eq_true, Bool.and_eq_true, decide_eq_true_eq] at hg
        refine plain_of ?_ ?_ ?_ ?_ <;> (rcases hg with ⟨g1, g2⟩ | ⟨⟨g1, g2⟩, _⟩ <;> omega)
    · simp at h
end Go.Proofs.YtmihhebcchpmcaaGreatDoor
/-
  How many lines and how many signs a text has: none ends within a line; with kids on lines of their own there are no more lines than forms.
-/
namespace Go.Proofs.YtmihhebcchpmcaaGreatDoor
open Go.RowKit Go.Deep Go.MapKept
def lineT (fs : List Fm) (gap : GapF) (t : Int) : List UInt8 := txt fs gap (fs.length + 1) t 0 ++ [10]
def prn (fs : List Fm) (gap : GapF) (top : List Int) : List UInt8 := top.flatMap (lineT fs gap)
def nl (l : List UInt8) : Nat := l.count 10
theorem nl_append (a b : List UInt8) : nl (a ++ b) = nl a + nl b := List.count_append
theorem nl_none {l : List UInt8} (h : ∀ c ∈ l, plain c) : nl l = 0 := List.count_eq_zero.2 fun hm => plain_ten (h 10 hm) rfl
/-- A form that can be told. -/
def Told (f : Fm) : Prop := f.k = 1 ∨ (f.k = 3 ∧ kindW f.s = 3) ∨ (f.k = 4 ∧ In64 f.n)
theorem nl_flat {α : Type} (l : List α) (g : α → List UInt8) : nl (l.flatMap g) = (l.map fun x => nl (g x)).sum := by
  induction l with
  | nil => rfl
  | cons x r ih => simp only [List.flatMap_cons, nl_append, List.map_cons, List.sum_cons, ih]
theorem len_flat {α : Type} (l : List α) (g : α → List UInt8) : (l.flatMap g).length = (l.map fun x => (g x).length).sum := by
  induction l with
  | nil => rfl
  | cons x r ih => simp only [List.flatMap_cons, List.length_append, List.map_cons, List.sum_cons, ih]
theorem sum_zero {l : List Nat} (h : ∀ x ∈ l, x = 0) : l.sum = 0 := by
  induction l with
  | nil => rfl
  | cons x r ih => rw [List.sum_cons, h x (by simp), ih fun y hy => h y (by simp [hy])]
theorem nl_gapB (ks : List Int) (n d : Nat) : nl (gapB ks n d) = 0 := by
  unfold gapB
  split <;> rfl
/-- On one line nothing ends. -/
theorem nl_txtB {fs : List Fm} (hT : ∀ f ∈ fs, Told f) : ∀ (m : Nat) (a : Int) (d : Nat), nl (txt fs gapB m a d) = 0
  | 0, a, d => rfl
  | m + 1, a, d => by
    unfold txt
    cases hf : fs[a.toNat]? with
    | none => rfl
    | some f =>
      simp only
      rcases hT f (List.mem_of_getElem? hf) with h1 | ⟨h3, hk⟩ | ⟨h4, hn⟩
      · rw [if_pos h1]
        show nl ([40] ++ (_ ++ [41])) = 0
        rw [nl_append, nl_append, nl_flat, sum_zero]
        · rfl
        · intro x hx
          obtain ⟨p, _, rfl⟩ := List.mem_map.1 hx
          rw [nl_append, nl_gapB, nl_txtB hT m p.1 (d + 1)]
      · rw [if_neg (by omega), if_pos h3]
        exact nl_none (word_plain hk).1
      · rw [if_neg (by omega), if_neg (by omega), if_pos h4]
        exact nl_none (itoa_plain _).1
theorem nl_prnB {fs : List Fm} (hT : ∀ f ∈ fs, Told f) (top : List Int) : nl (prn fs gapB top) = top.length := by
  unfold prn
  induction top with
  | nil => rfl
  | cons t r ih => rw [List.flatMap_cons, nl_append, ih]; unfold lineT; rw [nl_append, nl_txtB hT]; simp [nl]; omega
theorem nl_gapL (fs : List Fm) (ks : List Int) (n d : Nat) : nl (gapL fs ks n d) ≤ 1 := by
  unfold gapL
  split
  · show nl ([10] ++ List.replicate (2 * d) 32) ≤ 1
    rw [nl_append]
    have : nl (List.replicate (2 * d) (32 : UInt8)) = 0 := List.count_eq_zero.2 fun hm => by rw [List.mem_replicate] at hm; exact absurd hm.2 (by decide)
    rw [this]; decide
  · rw [nl_gapB]; omega
theorem len_gapL (fs : List Fm) (ks : List Int) (n d : Nat) (h : d ≤ 1000) : (gapL fs ks n d).length ≤ 2001 := by
  unfold gapL
  split
  · simp; omega
  · unfold gapB; split <;> simp
theorem len_gapB (ks : List Int) (n d : Nat) : (gapB ks n d).length ≤ 2001 := by
  unfold gapB; split <;> simp
theorem sum_idx {l : List Int} (g : Int → Nat) (e : Nat) (h : Int → Nat → Nat) (hh : ∀ c i, h c i ≤ e + g c) : ∀ s : Nat, ((l.zipIdx s).map fun p => h p.1 p.2).sum ≤ l.length * e + (l.map g).sum := by
  induction l with
  | nil => intro s; simp
  | cons x r ih =>
    intro s
    have := ih (s + 1)
    have h1 := hh x s
    simp only [List.zipIdx_cons, List.map_cons, List.sum_cons, List.length_cons, Nat.add_mul, Nat.one_mul]
    omega
/-- With kids on lines of their own there are fewer ends of lines than forms. -/
theorem nl_seg {fs : List Frm} (hT : ∀ f ∈ fs, Told (toFm f)) {lo hi : Nat} {l : List Nat} (h : Seg (Kof fs) lo hi l) : hi ≤ fs.length → ∀ m d : Nat, hi - lo < m → ((castI l).map fun p => nl (txt (fs.map toFm) (gapL (fs.map toFm)) m p d)).sum + l.length ≤ hi - lo := by
  induction h with
  | nil lo => intro _ m d _; simp [castI]
  | @cons lo mid hi r h1 h2 ih1 ih2 =>
    intro hh m d hm
    have l1 := h1.le
    have l2 := h2.le
    obtain ⟨m, rfl⟩ : ∃ k, m = k + 1 := ⟨m - 1, by omega⟩
    have i2 := ih2 hh (m + 1) d (by omega)
    have hlt : lo < fs.length := by omega
    have hf : fs[lo]? = some fs[lo] := List.getElem?_eq_getElem hlt
    have hfm : (fs.map toFm)[lo]? = some (toFm fs[lo]) := by simp [hf]
    have key : nl (txt (fs.map toFm) (gapL (fs.map toFm)) (m + 1) (lo : Int) d) + 1 ≤ mid - lo := by
      rcases hT fs[lo] (List.getElem_mem hlt) with k1 | ⟨k3, hk⟩ | ⟨k4, hn⟩
      · rw [txt_open hfm k1]
        have i1 := ih1 (by omega) m (d + 1) (by omega)
        have hK : Kof fs lo = fs[lo].kids := by unfold Kof; rw [hf]
        have hkc : (toFm fs[lo]).kids = castI fs[lo].kids := rfl
        rw [hK] at i1
        show nl ([40] ++ (_ ++ [41])) + 1 ≤ _
        rw [nl_append, nl_append, nl_flat]
        have hs := sum_idx (l := (toFm fs[lo]).kids) (fun c => nl (txt (fs.map toFm) (gapL (fs.map toFm)) m c (d + 1))) 1 (fun c i => nl (gapL (fs.map toFm) (toFm fs[lo]).kids i (d + 1) ++ txt (fs.map toFm) (gapL (fs.map toFm)) m c (d + 1))) (fun c i => by simp only [nl_append]; have := nl_gapL (fs.map toFm) (toFm fs[lo]).kids i (d + 1); omega) 0
        have e1 : nl [40] = 0 := rfl
        have e2 : nl [41] = 0 := rfl
        have e3 : (castI fs[lo].kids).length = fs[lo].kids.length := by simp [castI]
        rw [hkc] at hs
        rw [hkc]
        simp only [e3] at hs
        omega
      · rw [txt_name hfm k3, nl_none (word_plain hk).1]; omega
      · rw [txt_num hfm k4, nl_none (itoa_plain _).1]; omega
    simp only [castI, List.map_cons, List.sum_cons, List.length_cons] at i2 ⊢
    omega
set_option maxRecDepth 100000 in
/-- How long texts are. -/
theorem len_seg {fs : List Frm} (gap : GapF) (hg : ∀ ks n d, d ≤ 1000 → (gap ks n d).length ≤ 2001) (hT : ∀ f ∈ fs, Told (toFm f)) {lo hi : Nat} {l : List Nat} (h : Seg (Kof fs) lo hi l) : hi ≤ fs.length → ∀ m d : Nat, hi - lo < m → d + (hi - lo) ≤ 1000 → ((castI l).map fun p => (txt (fs.map toFm) gap m p d).length).sum + l.length * 2001 ≤ (hi - lo) * 3000 := by
  induction h with
  | nil lo => intro _ m d _ _; simp [castI]
  | @cons lo mid hi r h1 h2 ih1 ih2 =>
    intro hh m d hm hd
    have l1 := h1.le
    have l2 := h2.le
    obtain ⟨m, rfl⟩ : ∃ k, m = k + 1 := ⟨m - 1, by omega⟩
    have i2 := ih2 hh (m + 1) d (by omega) (by omega)
    have hlt : lo < fs.length := by omega
    have hf : fs[lo]? = some fs[lo] := List.getElem?_eq_getElem hlt
    have hfm : (fs.map toFm)[lo]? = some (toFm fs[lo]) := by simp [hf]
    have key : (txt (fs.map toFm) gap (m + 1) (lo : Int) d).length + 2001 ≤ (mid - lo) * 3000 := by
      rcases hT fs[lo] (List.getElem_mem hlt) with k1 | ⟨k3, hk⟩ | ⟨k4, hn⟩
      · rw [txt_open hfm k1]
        have i1 := ih1 (by omega) m (d + 1) (by omega) (by omega)
        have hK : Kof fs lo = fs[lo].kids := by unfold Kof; rw [hf]
        have hkc : (toFm fs[lo]).kids = castI fs[lo].kids := rfl
        rw [hK] at i1
        simp only [List.length_cons, List.length_append, List.length_nil]
        rw [len_flat]
        have hs := sum_idx (l := (toFm fs[lo]).kids) (fun c => (txt (fs.map toFm) gap m c (d + 1)).length) 2001 (fun c i => (gap (toFm fs[lo]).kids i (d + 1) ++ txt (fs.map toFm) gap m c (d + 1)).length) (fun c i => by simp only [List.length_append]; have := hg (toFm fs[lo]).kids i (d + 1) (by omega); omega) 0
        have e3 : (castI fs[lo].kids).length = fs[lo].kids.length := by simp [castI]
        rw [hkc] at hs
        rw [hkc]
        simp only [e3] at hs
        omega
      · rw [txt_name hfm k3]; have := (word_plain hk).2.2; simp only [toFm] at this ⊢; omega
      · rw [txt_num hfm k4]; have := itoa_len hn; simp only [toFm] at this ⊢; omega
    simp only [castI, List.map_cons, List.sum_cons, List.length_cons] at i2 ⊢
    omega
theorem nl_prnL {σ : St} {lv : List Nat} (hS : Shape σ lv) (hT : ∀ f ∈ σ.forms, Told (toFm f)) : σ.top.length ≤ nl (prn (σ.forms.map toFm) (gapL (σ.forms.map toFm)) (castI σ.top)) ∧ nl (prn (σ.forms.map toFm) (gapL (σ.forms.map toFm)) (castI σ.top)) ≤ σ.forms.length := by
  have h := nl_seg hT hS.seg (Nat.le_refl _) (σ.forms.length + 1) 0 (by omega)
  have e : nl (prn (σ.forms.map toFm) (gapL (σ.forms.map toFm)) (castI σ.top)) = ((castI σ.top).map fun p => nl (txt (σ.forms.map toFm) (gapL (σ.forms.map toFm)) (σ.forms.length + 1) p 0)).sum + (castI σ.top).length := by
    unfold prn
    rw [nl_flat]
    generalize castI σ.top = l
    induction l with
    | nil => rfl
    | cons x r ih =>
      simp only [List.map_cons, List.sum_cons, List.length_cons, ih]
      unfold lineT
      rw [nl_append, List.length_map]
      have : nl [10] = 1 := rfl
      omega
  have e3 : (castI σ.top).length = σ.top.length := by simp [castI]
  rw [e]
  omega
theorem len_prn {σ : St} {lv : List Nat} (hS : Shape σ lv) (hT : ∀ f ∈ σ.forms, Told (toFm f)) (h4 : σ.forms.length ≤ 400) (gap : GapF) (hg : ∀ ks n d, d ≤ 1000 → (gap ks n d).length ≤ 2001) : (prn (σ.forms.map toFm) gap (castI σ.top)).length ≤ 1200000 := by
  have h := len_seg gap hg hT hS.seg (Nat.le_refl _) (σ.forms.length + 1) 0 (by omega) (by omega)
  have e : (prn (σ.forms.map toFm) gap (castI σ.top)).length = ((castI σ.top).map fun p => (txt (σ.forms.map toFm) gap (σ.forms.length + 1) p 0).length).sum + (castI σ.top).length := by
    unfold prn
    rw [len_flat]
    generalize castI σ.top = l
    induction l with
    | nil => rfl
    | cons x r ih =>
      simp only [List.map_cons, List.sum_cons, List.length_cons, ih]
      unfold lineT
      rw [List.length_append, List.length_map]
      simp only [List.length_cons, List.length_nil]
      omega
  have e3 : (castI σ.top).length = σ.top.length := by simp [castI]
  rw [e]
  omega
end Go.Proofs.YtmihhebcchpmcaaGreatDoor
