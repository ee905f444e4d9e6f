/-
  Words tell forms: lists of forms that are right and have the same words are the same.
-/
import Derived.Test.YtmihhebcchpmcaaGreatDoorBackQ
namespace Go.Proofs.YtmihhebcchpmcaaGreatDoor
open Go.RowKit Go.Deep Go.MapKept Go.Shelf
def Ends (r : List Txt) : Prop := r = [] ∨ ∃ q, r = [41] :: q
theorem itoa_same {a b : Int} (ha : In64 a) (hb : In64 b) (h : Lib.itoa a = Lib.itoa b) : a = b := by
  have p1 := parse_itoa a ha.1 ha.2
  rw [h, parse_itoa b hb.1 hb.2] at p1
  exact (Lib.NumEnd.ok.inj p1).symm
/-- What a form's word tells: what it is. -/
theorem wd_cases {f : Frm} (h : Told (toFm f)) : (f.k = 1 ∧ wd f = [40]) ∨ (f.k ≠ 1 ∧ (∀ c ∈ wd f, plain c) ∧ wd f ≠ []) := by
  rcases h with h1 | ⟨h3, hk⟩ | ⟨h4, hn⟩
  · have h1' : f.k = 1 := h1
    exact .inl ⟨h1', by unfold wd; rw [if_pos h1']⟩
  · have h3' : f.k = 3 := h3
    obtain ⟨p1, p2, _⟩ := word_plain hk
    have e : wd f = f.s.data.toList := by unfold wd; rw [if_neg (by omega), if_pos h3']
    rw [e]
    exact .inr ⟨by omega, p1, p2⟩
  · have h4' : f.k = 4 := h4
    obtain ⟨p1, p2⟩ := itoa_plain f.n
    have e : wd f = Lib.itoa f.n := by unfold wd; rw [if_neg (by omega), if_neg (by omega)]
    rw [e]
    exact .inr ⟨by omega, p1, p2⟩
theorem wd_ne {f : Frm} (h : Told (toFm f)) : wd f ≠ [41] := by
  rcases wd_cases h with ⟨_, e⟩ | ⟨_, p, _⟩
  · rw [e]; decide
  · intro e
    rw [e] at p
    have := (p 41 (by simp)).2.1
    exact absurd this (by decide)
theorem wd_open {f g : Frm} (hf : Told (toFm f)) (hg : Told (toFm g)) (h : wd f = wd g) (h1 : f.k = 1) : g.k = 1 := by
  rcases wd_cases hf with ⟨_, e⟩ | ⟨n, _⟩
  · rcases wd_cases hg with ⟨e1, _⟩ | ⟨_, p, _⟩
    · exact e1
    · rw [← h, e] at p
      exact absurd (p 40 (by simp)).2.1 (by decide)
  · exact absurd h1 n
theorem wd_kind {f g : Frm} (hf : Told (toFm f)) (hg : Told (toFm g)) (h : wd f = wd g) : f.k = g.k ∧ (f.k = 3 → f.s.data.toList = g.s.data.toList) ∧ (f.k = 4 → f.n = g.n) := by
  by_cases h1 : f.k = 1
  · have := wd_open hf hg h h1
    exact ⟨by omega, fun e => by omega, fun e => by omega⟩
  have g1 : ¬ g.k = 1 := fun e => h1 (wd_open hg hf h.symm e)
  have num : ∀ {s : ByteArray} {n : Int}, kindW s = 3 → In64 n → s.data.toList = Lib.itoa n → False := fun {s n} hk hn e => by
    unfold kindW at hk
    rw [if_pos ⟨n, hn, e⟩] at hk
    exact absurd hk (by decide)
  have ef : wd f = if f.k = 3 then f.s.data.toList else Lib.itoa f.n := by unfold wd; rw [if_neg h1]
  have eg : wd g = if g.k = 3 then g.s.data.toList else Lib.itoa g.n := by unfold wd; rw [if_neg g1]
  rcases hf with a1 | ⟨a3, ak⟩ | ⟨a4, an⟩
  · exact absurd a1 h1
  · have a3' : f.k = 3 := a3
    rw [if_pos a3'] at ef
    rcases hg with b1 | ⟨b3, bk⟩ | ⟨b4, bn⟩
    · exact absurd b1 g1
    · have b3' : g.k = 3 := b3
      rw [if_pos b3'] at eg
      exact ⟨by omega, fun _ => by rw [← ef, ← eg, h], fun e => by omega⟩
    · have b4' : g.k = 4 := b4
      rw [if_neg (by omega)] at eg
      exact absurd (num ak bn (by show f.s.data.toList = Lib.itoa g.n; rw [← ef, ← eg, h])) (fun h => h)
  · have a4' : f.k = 4 := a4
    rw [if_neg (by omega)] at ef
    rcases hg with b1 | ⟨b3, bk⟩ | ⟨b4, bn⟩
    · exact absurd b1 g1
    · have b3' : g.k = 3 := b3
      rw [if_pos b3'] at eg
      exact absurd (num bk an (by show g.s.data.toList = Lib.itoa f.n; rw [← ef, ← eg, h])) (fun h => h)
    · have b4' : g.k = 4 := b4
      rw [if_neg (by omega)] at eg
      exact ⟨by omega, fun e => by omega, fun _ => itoa_same an bn (by rw [← ef, ← eg, h])⟩
theorem words_at {fs : List Frm} {i : Nat} {f : Frm} (m : Nat) (hf : fs[i]? = some f) (hT : Told (toFm f)) : wordsF (fs.map toFm) (m + 1) (i : Int) = wd f :: (if f.k = 1 then (castI f.kids).flatMap (wordsF (fs.map toFm) m) ++ [[41]] else []) := by
  have hfm : (fs.map toFm)[i]? = some (toFm f) := by simp [hf]
  unfold wordsF
  rw [show ((i : Int)).toNat = i by omega, hfm]
  simp only
  by_cases h1 : f.k = 1
  · rw [if_pos (show (toFm f).k = 1 from h1), if_pos h1]
    unfold wd
    rw [if_pos h1]
    rfl
  · rw [if_neg (show ¬ (toFm f).k = 1 from h1), if_neg h1]
    unfold wd
    rw [if_neg h1]
    rcases hT with t1 | ⟨t3, _⟩ | ⟨t4, _⟩
    · exact absurd t1 h1
    · have : f.k = 3 := t3
      rw [if_pos (show (toFm f).k = 3 from t3), if_pos this]
      rfl
    · have : f.k = 4 := t4
      rw [if_neg (show ¬ (toFm f).k = 3 by simp only [toFm]; omega), if_pos (show (toFm f).k = 4 from t4), if_neg (by omega)]
      rfl
def kfw (f : Frm) : Int × Txt × List Nat := (f.k, wd f, f.kids)
theorem words_inj {fs gs : List Frm} (hT : ∀ f ∈ fs, Told (toFm f)) (hT' : ∀ f ∈ gs, Told (toFm f)) (hkw : ∀ f ∈ fs, f.k ≠ 1 → f.kids = []) (hkw' : ∀ f ∈ gs, f.k ≠ 1 → f.kids = []) {lo hi : Nat} {l : List Nat} (h : Seg (Kof fs) lo hi l) :
    hi ≤ fs.length → ∀ (hi' : Nat) (l' : List Nat) (m m' : Nat) (r r' : List Txt), Seg (Kof gs) lo hi' l' → hi' ≤ gs.length → hi - lo < m → hi' - lo < m' → Ends r → Ends r' →
      (castI l).flatMap (wordsF (fs.map toFm) m) ++ r = (castI l').flatMap (wordsF (gs.map toFm) m') ++ r' → hi = hi' ∧ l = l' ∧ r = r' ∧ ∀ i, lo ≤ i → i < hi → (fs[i]?).map kfw = (gs[i]?).map kfw := by
  induction h with
  | nil lo =>
    intro _ hi' l' m m' r r' h' hh' _ hm' hr hr' e
    cases h' with
    | nil => exact ⟨rfl, rfl, by simpa [castI] using e, fun i a b => by omega⟩
    | @cons _ mid' _ q' g1 g2 =>
      exfalso
      have l1 := g1.le
      have l2 := g2.le
      obtain ⟨m', rfl⟩ : ∃ k, m' = k + 1 := ⟨m' - 1, by omega⟩
      have hlt : lo < gs.length := by omega
      have hg : gs[lo]? = some gs[lo] := List.getElem?_eq_getElem hlt
      have ht := hT' _ (List.getElem_mem hlt)
      simp only [castI, List.map_nil, List.flatMap_nil, List.nil_append, List.map_cons, List.flatMap_cons, List.append_assoc] at e
      rw [words_at m' hg ht] at e
      rcases hr with rfl | ⟨q, rfl⟩
      · simp at e
      · simp only [List.cons_append, List.cons.injEq] at e
        exact wd_ne ht e.1.symm
  | @cons lo mid hi q h1 h2 ih1 ih2 =>
    intro hh hi' l' m m' r r' h' hh' hm hm' hr hr' e
    have l1 := h1.le
    have l2 := h2.le
    obtain ⟨m, rfl⟩ : ∃ k, m = k + 1 := ⟨m - 1, by omega⟩
    have hlt : lo < fs.length := by omega
    have hf : fs[lo]? = some fs[lo] := List.getElem?_eq_getElem hlt
    have ht := hT _ (List.getElem_mem hlt)
    have hk := hkw _ (List.getElem_mem hlt)
    have hK : Kof fs lo = fs[lo].kids := by unfold Kof; rw [hf]
    obtain ⟨f0, hf0⟩ : ∃ f0, fs[lo] = f0 := ⟨_, rfl⟩
    rw [hf0] at hf ht hk hK
    have ef : (castI (lo :: q)).flatMap (wordsF (fs.map toFm) (m + 1)) ++ r = wd f0 :: ((if f0.k = 1 then (castI f0.kids).flatMap (wordsF (fs.map toFm) m) ++ [[41]] else []) ++ ((castI q).flatMap (wordsF (fs.map toFm) (m + 1)) ++ r)) := by
      simp only [castI, List.map_cons, List.flatMap_cons, List.append_assoc]
      rw [words_at m hf ht]
      simp only [castI, List.cons_append]
    rw [ef] at e
    cases h' with
    | nil =>
      exfalso
      simp only [castI, List.map_nil, List.flatMap_nil, List.nil_append] at e
      rcases hr' with rfl | ⟨q, rfl⟩
      · cases e
      · simp only [List.cons.injEq] at e
        exact wd_ne ht e.1
    | @cons _ mid' _ q' g1 g2 =>
      have l1' := g1.le
      have l2' := g2.le
      obtain ⟨m', rfl⟩ : ∃ k, m' = k + 1 := ⟨m' - 1, by omega⟩
      have hlt' : lo < gs.length := by omega
      have hg : gs[lo]? = some gs[lo] := List.getElem?_eq_getElem hlt'
      have ht' := hT' _ (List.getElem_mem hlt')
      have hk' := hkw' _ (List.getElem_mem hlt')
      have hK' : Kof gs lo = gs[lo].kids := by unfold Kof; rw [hg]
      obtain ⟨g0, hg0⟩ : ∃ g0, gs[lo] = g0 := ⟨_, rfl⟩
      rw [hg0] at hg ht' hk' hK'
      have eg : (castI (lo :: q')).flatMap (wordsF (gs.map toFm) (m' + 1)) ++ r' = wd g0 :: ((if g0.k = 1 then (castI g0.kids).flatMap (wordsF (gs.map toFm) m') ++ [[41]] else []) ++ ((castI q').flatMap (wordsF (gs.map toFm) (m' + 1)) ++ r')) := by
        simp only [castI, List.map_cons, List.flatMap_cons, List.append_assoc]
        rw [words_at m' hg ht']
        simp only [castI, List.cons_append]
      rw [eg, List.cons.injEq] at e
      obtain ⟨ew, e⟩ := e
      have hkind := (wd_kind ht ht' ew).1
      by_cases hk1 : f0.k = 1
      · have hk1' : g0.k = 1 := by omega
        rw [if_pos hk1, if_pos hk1'] at e
        simp only [List.append_assoc, List.singleton_append] at e
        rw [hK] at ih1
        rw [hK'] at g1
        obtain ⟨i1, i2, i3, i4⟩ := ih1 (by omega) mid' g0.kids m m' _ _ g1 (by omega) (by omega) (by omega) (.inr ⟨_, rfl⟩) (.inr ⟨_, rfl⟩) e
        subst i1
        rw [List.cons.injEq] at i3
        obtain ⟨j1, j2, j3, j4⟩ := ih2 hh hi' q' (m + 1) (m' + 1) r r' g2 hh' (by omega) (by omega) hr hr' i3.2
        refine ⟨j1, by rw [j2], j3, fun i a b => ?_⟩
        by_cases hi0 : i = lo
        · subst hi0
          rw [hf, hg]
          simp only [Option.map_some, kfw, ew, hkind, i2]
        by_cases him : i < mid
        · exact i4 i (by omega) him
        · exact j4 i (by omega) b
      · have hk1' : ¬ g0.k = 1 := by omega
        rw [if_neg hk1, if_neg hk1'] at e
        simp only [List.nil_append] at e
        have hn := hk hk1
        have hn' := hk' hk1'
        have hmid : mid = lo + 1 := by rw [hK, hn] at h1; cases h1; rfl
        have hmid' : mid' = lo + 1 := by rw [hK', hn'] at g1; cases g1; rfl
        subst hmid hmid'
        obtain ⟨j1, j2, j3, j4⟩ := ih2 hh hi' q' (m + 1) (m' + 1) r r' g2 hh' (by omega) (by omega) hr hr' e
        refine ⟨j1, by rw [j2], j3, fun i a b => ?_⟩
        by_cases hi0 : i = lo
        · subst hi0
          rw [hf, hg]
          simp only [Option.map_some, kfw, ew, hkind, hn, hn']
        · exact j4 i (by omega) b
end Go.Proofs.YtmihhebcchpmcaaGreatDoor
