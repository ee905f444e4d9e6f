/-
  What forms that are right are like: they can be told, and their text is not long.
-/
import Derived.Test.YtmihhebcchpmcaaGreatDoorRRt
import Derived.Test.YtmihhebcchpmcaaGreatDoorRText
import Derived.Test.YtmihhebcchpmcaaGreatDoorBackQ
import Derived.Test.YtmihhebcchpmcaaGreatDoorSameS
namespace Go.Proofs.YtmihhebcchpmcaaGreatDoor
open Go.RowKit Go.Deep Go.MapKept Go.Shelf
section
variable {ms : List MV} {top : List Int} (h : RightP ms top)
include h
theorem RightP.told (hn : ∀ x ∈ ms, In64 x.1.n) : ∀ f ∈ formsOf ms, Told f := by
  intro f hf
  obtain ⟨x, hx, rfl⟩ := List.mem_map.1 hf
  have ho := h.2.1 x hx
  unfold okF at ho
  by_cases h1 : x.1.k = 1
  · exact .inl h1
  · rw [if_neg h1] at ho
    by_cases h3 : x.1.k = 3
    · rw [if_pos h3] at ho
      simp only [Bool.and_eq_true, beq_iff_eq] at ho
      exact .inr (.inl ⟨h3, ho.1.1⟩)
    · rw [if_neg h3] at ho
      by_cases h4 : x.1.k = 4
      · exact .inr (.inr ⟨h4, hn x hx⟩)
      · rw [if_neg h4] at ho
        cases ho
theorem RightP.kid : ∀ (i : Nat) (x : MV), ms[i]? = some x → ∀ c ∈ x.1.kids, (i : Int) < c ∧ c < (ms.length : Int) := by
  intro i x hx c hc
  have hi := (List.getElem?_eq_some_iff.1 hx).1
  have hk : kidsOf ms (i : Int) = x.1.kids := by unfold kidsOf; rw [show ((i : Int)).toNat = i by omega, hx]
  exact h.2.2.1.mem.2 (i : Int) (by omega) (by omega) c (by rw [hk]; exact hc)
theorem RightP.tops : ∀ t ∈ top, 0 ≤ t ∧ t < (ms.length : Int) := h.2.2.1.mem.1
theorem RightP.tellable (hn : ∀ x ∈ ms, In64 x.1.n) (hf : ∀ x ∈ ms, x.1.kids.length ≤ 4611686018427387904) : Tellable ms := ⟨fun i x hx _ c hc => h.kid i x hx c hc, hn, hf⟩
theorem RightP.nice (hn : ∀ x ∈ ms, In64 x.1.n) (hf : ∀ x ∈ ms, x.1.kids.length ≤ 4611686018427387904) : Nice ms (fun _ => True) :=
  ⟨fun i x _ hx _ c hc => ⟨(h.kid i x hx c hc).1, (h.kid i x hx c hc).2, trivial⟩, fun i x _ hx => by
    rcases h.told hn x.1 (List.mem_map_of_mem (List.mem_of_getElem? hx)) with a | ⟨a, _⟩ | ⟨a, _⟩
    · exact .inl a
    · exact .inr (.inl a)
    · exact .inr (.inr a), hn, hf⟩
theorem RightP.len (hn : ∀ x ∈ ms, In64 x.1.n) (gap : GapF) (hg : ∀ ks n d, d ≤ 1000 → (gap ks n d).length ≤ 2001) : (prn (formsOf ms) gap top).length ≤ 1200000 := by
  obtain ⟨fs, hms, hs, hc⟩ := nat_of h.2.2.1
  have hl := len_same hms
  have h4 := h.1
  have hfo : formsOf ms = fs.map toFm := hms
  have hT : ∀ f ∈ fs, Told (toFm f) := fun f hf => h.told hn _ (by rw [hfo]; exact List.mem_map_of_mem hf)
  have hh := len_seg gap hg hT hs (Nat.le_refl _) (fs.length + 1) 0 (by omega) (by omega)
  rw [hc] at hh
  rw [hfo]
  have e : (prn (fs.map toFm) gap top).length = (top.map fun p => (txt (fs.map toFm) gap (fs.length + 1) p 0).length).sum + top.length := by
    unfold prn
    rw [len_flat]
    clear hh hs hc h
    induction top with
    | nil => rfl
    | cons t r ih =>
      simp only [List.map_cons, List.sum_cons, List.length_cons]
      rw [ih]
      simp only [lineT, List.length_append, List.length_map, List.length_cons, List.length_nil]
      omega
  rw [e]
  have : (top.map Int.toNat).length = top.length := by simp
  omega
theorem RightP.txt_len (hn : ∀ x ∈ ms, In64 x.1.n) (gap : GapF) (hg : ∀ ks n d, d ≤ 1000 → (gap ks n d).length ≤ 2001) : ∀ t ∈ top, (txt (formsOf ms) gap (ms.length + 1) t 0).length ≤ 1200000 := by
  intro t ht
  have h1 := h.len hn gap hg
  have h2 : (lineT (formsOf ms) gap t).length ≤ (prn (formsOf ms) gap top).length := by
    clear h1
    unfold prn
    clear h
    induction top with
    | nil => simp at ht
    | cons a r ih =>
      simp only [List.flatMap_cons, List.length_append]
      rcases List.mem_cons.1 ht with rfl | ht
      · omega
      · have := ih ht; omega
  have h3 : (formsOf ms).length = ms.length := by simp [formsOf]
  unfold lineT at h2
  rw [h3] at h2
  simp only [List.length_append] at h2
  omega
end
theorem okF_key {f g : Fm} (hf : okF f = true) (hg : okF g = true) (hk : f.k = g.k) (hs : f.k = 3 → f.s.data.toList = g.s.data.toList) (hn : f.k = 4 → f.n = g.n) : f.s = g.s ∧ f.n = g.n := by
  have ext : ∀ {a b : ByteArray}, a.data.toList = b.data.toList → a = b := fun {a b} e => by
    cases a; cases b
    simp only [ByteArray.mk.injEq]
    exact Array.toList_inj.1 e
  have emp : ∀ {a : ByteArray}, (a.toList == ([] : List UInt8)) = true → a = ⟨#[]⟩ := fun {a} e => by
    have h0 : a.toList = [] := by simpa using e
    have := ByteArray.toList_eq a
    refine ext ?_
    rw [← this, h0]
  unfold okF at hf hg
  by_cases h1 : f.k = 1
  · rw [if_pos h1] at hf
    rw [if_pos (by omega)] at hg
    simp only [Bool.and_eq_true] at hf hg
    exact ⟨(emp hf.1).trans (emp hg.1).symm, by have := eq_of_beq hf.2; have := eq_of_beq hg.2; omega⟩
  · rw [if_neg h1] at hf
    rw [if_neg (by omega)] at hg
    by_cases h3 : f.k = 3
    · rw [if_pos h3] at hf
      rw [if_pos (by omega)] at hg
      simp only [Bool.and_eq_true] at hf hg
      exact ⟨ext (hs h3), by have := eq_of_beq hf.1.2; have := eq_of_beq hg.1.2; omega⟩
    · rw [if_neg h3] at hf
      rw [if_neg (by omega)] at hg
      by_cases h4 : f.k = 4
      · rw [if_pos h4] at hf
        rw [if_pos (by omega)] at hg
        simp only [Bool.and_eq_true] at hf hg
        exact ⟨(emp hf.1).trans (emp hg.1).symm, hn h4⟩
      · rw [if_neg h4] at hf
        cases hf
def keyF9 (f : Fm) : Int × ByteArray × Int × List Int := (f.k, f.s, f.n, f.kids)
theorem key_at9 {A B : List Fm} (h : A.map keyF9 = B.map keyF9) (i : Nat) : (A[i]?).map keyF9 = (B[i]?).map keyF9 := by rw [← List.getElem?_map, ← List.getElem?_map, h]
theorem txt_key {A B : List Fm} (h : A.map keyF9 = B.map keyF9) (gap : GapF) : ∀ (m : Nat) (a : Int) (d : Nat), txt A gap m a d = txt B gap m a d
  | 0, a, d => rfl
  | m + 1, a, d => by
    unfold txt
    have hk := key_at9 h a.toNat
    cases ha : A[a.toNat]? with
    | none =>
      rw [ha] at hk
      cases hb : B[a.toNat]? with
      | none => rfl
      | some y => rw [hb] at hk; simp at hk
    | some x =>
      rw [ha] at hk
      cases hb : B[a.toNat]? with
      | none => rw [hb] at hk; simp at hk
      | some y =>
        rw [hb] at hk
        simp only [Option.map_some, Option.some.injEq, keyF9, Prod.mk.injEq] at hk
        obtain ⟨e1, e2, e3, e4⟩ := hk
        simp only [e1, e2, e3, e4, txt_key h gap m]
theorem ekey9 (l : List MV) : l.map keyM = (formsOf l).map keyF9 := by unfold formsOf; rw [List.map_map]; rfl
/-- Forms that are right are the same just if their texts are. -/
theorem same_words {ms ns : List MV} {top : List Int} (h : RightP ms top) (h' : RightP ns top) (hn : ∀ x ∈ ms, In64 x.1.n) (hn' : ∀ x ∈ ns, In64 x.1.n) : prn (formsOf ms) gapB top = prn (formsOf ns) gapB top ↔ ms.map keyM = ns.map keyM := by
  obtain ⟨fs, hms, hs, hc⟩ := nat_of h.2.2.1
  obtain ⟨gs, hns, hs', hc'⟩ := nat_of h'.2.2.1
  have hfo : formsOf ms = fs.map toFm := hms
  have hgo : formsOf ns = gs.map toFm := hns
  have ekey : ∀ l : List MV, l.map keyM = (formsOf l).map fun f => (f.k, f.s, f.n, f.kids) := fun l => by unfold formsOf; rw [List.map_map]; rfl
  constructor
  · intro e
    have w1 := words_prn gapOk_B (h.told hn) top
    have w2 := words_prn gapOk_B (h'.told hn') top
    rw [e, w2] at w1
    have hT : ∀ f ∈ fs, Told (toFm f) := fun f hf => h.told hn _ (by rw [hfo]; exact List.mem_map_of_mem hf)
    have hT' : ∀ f ∈ gs, Told (toFm f) := fun f hf => h'.told hn' _ (by rw [hgo]; exact List.mem_map_of_mem hf)
    have leaf : ∀ {ms : List MV} {fs : List Frm}, RightP ms top → ms.map Prod.fst = fs.map toFm → ∀ f ∈ fs, f.k ≠ 1 → f.kids = [] := by
      intro ms fs hR hm f hf hk
      have : toFm f ∈ ms.map Prod.fst := by rw [hm]; exact List.mem_map_of_mem hf
      obtain ⟨x, hx, he⟩ := List.mem_map.1 this
      have := okF_leaf (hR.2.1 x hx) (by rw [he]; exact hk)
      rw [he] at this
      simpa [toFm] using this
    have l1 : (formsOf ms).length = fs.length := by rw [hfo]; simp
    have l2 : (formsOf ns).length = gs.length := by rw [hgo]; simp
    rw [l1, l2, hfo, hgo] at w1
    obtain ⟨r1, r2, _, r4⟩ := words_inj hT hT' (leaf h hms) (leaf h' hns) hs (Nat.le_refl _) gs.length (top.map Int.toNat) (fs.length + 1) (gs.length + 1) [] [] hs' (Nat.le_refl _) (by omega) (by omega) (.inl rfl) (.inl rfl) (by rw [hc]; simpa using w1.symm)
    rw [ekey, ekey, hfo, hgo]
    refine List.ext_getElem? fun i => ?_
    simp only [List.getElem?_map]
    by_cases hi : i < fs.length
    · have hi2 : i < gs.length := by omega
      have hf : fs[i]? = some fs[i] := List.getElem?_eq_getElem hi
      have hg : gs[i]? = some gs[i] := List.getElem?_eq_getElem hi2
      have hk := r4 i (by omega) hi
      rw [hf, hg] at hk
      simp only [Option.map_some, Option.some.injEq, kfw, Prod.mk.injEq] at hk
      rw [hf, hg]
      simp only [Option.map_some, Option.some.injEq, Prod.mk.injEq]
      have mf := List.getElem_mem hi
      have mg := List.getElem_mem hi2
      obtain ⟨k1, k2, k3⟩ := wd_kind (hT _ mf) (hT' _ mg) hk.2.1
      have okf : ∀ {ms : List MV} {fs : List Frm}, RightP ms top → ms.map Prod.fst = fs.map toFm → ∀ f ∈ fs, okF (toFm f) = true := by
        intro ms fs hR hm f hf
        have : toFm f ∈ ms.map Prod.fst := by rw [hm]; exact List.mem_map_of_mem hf
        obtain ⟨x, hx, he⟩ := List.mem_map.1 this
        rw [← he]
        exact hR.2.1 x hx
      obtain ⟨q1, q2⟩ := okF_key (f := toFm fs[i]) (g := toFm gs[i]) (okf h hms _ mf) (okf h' hns _ mg) k1 k2 k3
      refine ⟨k1, q1, q2, ?_⟩
      simp only [toFm]
      rw [hk.2.2]
    · rw [List.getElem?_eq_none (show fs.length ≤ i by omega), List.getElem?_eq_none (show gs.length ≤ i by omega)]
  · intro e
    have hk : (formsOf ms).map keyF9 = (formsOf ns).map keyF9 := by rw [← ekey9, ← ekey9]; exact e
    have hl : (formsOf ms).length = (formsOf ns).length := by have := congrArg List.length hk; simpa using this
    unfold prn
    congr 1
    funext t
    unfold lineT
    rw [hl, txt_key hk gapB]
end Go.Proofs.YtmihhebcchpmcaaGreatDoor
