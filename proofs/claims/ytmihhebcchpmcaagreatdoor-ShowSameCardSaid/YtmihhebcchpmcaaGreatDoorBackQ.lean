/-
  What is read of a printed text is what was printed, but for places.
-/
import Derived.Test.YtmihhebcchpmcaaGreatDoorBackP
namespace Go.Proofs.YtmihhebcchpmcaaGreatDoor
open Go.RowKit Go.Deep Go.MapKept Go.Shelf
def sl {α : Type} (l : List α) (lo hi : Nat) : List α := (l.drop lo).take (hi - lo)
theorem sl_nil {α : Type} (l : List α) (lo : Nat) : sl l lo lo = [] := by simp [sl]
theorem sl_cons {α : Type} {l : List α} {lo hi : Nat} {x : α} (h : l[lo]? = some x) (hh : lo < hi) : sl l lo hi = x :: sl l (lo + 1) hi := by
  unfold sl
  have hlt := (List.getElem?_eq_some_iff.1 h).1
  rw [List.drop_eq_getElem_cons hlt, show hi - lo = (hi - (lo + 1)) + 1 by omega, List.take_succ_cons]
  congr 1
  rw [List.getElem?_eq_getElem hlt] at h
  exact Option.some.inj h
theorem sl_join {α : Type} (l : List α) {lo mid hi : Nat} (h1 : lo ≤ mid) (h2 : mid ≤ hi) : sl l lo hi = sl l lo mid ++ sl l mid hi := by
  unfold sl
  rw [show hi - lo = (mid - lo) + (hi - mid) by omega, List.take_add, List.drop_drop, show lo + (mid - lo) = mid by omega]
theorem sl_len {α : Type} {l : List α} {lo hi : Nat} (h : hi ≤ l.length) : (sl l lo hi).length = hi - lo := by
  unfold sl
  rw [List.length_take, List.length_drop]
  omega
theorem shuts_succ (n : Nat) : shuts (n + 1) = shuts n ++ [[41]] := by rw [← shuts_add]; rfl
/-- Words as they stand are words bracket by bracket. -/
theorem flat_seg {fs : List Frm} {lv : List Nat} (hl : lv.length = fs.length) (hT : ∀ f ∈ fs, Told (toFm f)) (hkw : ∀ f ∈ fs, f.k ≠ 1 → f.kids = []) (hkid : ∀ (i : Nat) (f : Frm) (c : Nat), fs[i]? = some f → c ∈ f.kids → lv.getD c 0 = lv.getD i 0 + 1) {lo hi : Nat} {l : List Nat} (h : Seg (Kof fs) lo hi l) :
    hi ≤ fs.length → ∀ (m d cur : Nat), hi - lo < m → d ≤ cur → (∀ p ∈ l, lv.getD p 0 = d) →
      (flatW (sl fs lo hi) (sl lv lo hi) cur).1 ++ shuts ((flatW (sl fs lo hi) (sl lv lo hi) cur).2 - d) = shuts (cur - d) ++ (castI l).flatMap (wordsF (fs.map toFm) m) ∧ d ≤ (flatW (sl fs lo hi) (sl lv lo hi) cur).2 := by
  induction h with
  | nil lo =>
    intro _ m d cur _ hd _
    rw [sl_nil, sl_nil]
    simp [flatW, castI, hd]
  | @cons lo mid hi r h1 h2 ih1 ih2 =>
    intro hh m d cur hm hd hlev
    have l1 := h1.le
    have l2 := h2.le
    obtain ⟨m, rfl⟩ : ∃ k, m = k + 1 := ⟨m - 1, by omega⟩
    have hlt : lo < fs.length := by omega
    have hf : fs[lo]? = some fs[lo] := List.getElem?_eq_getElem hlt
    have hfm : (fs.map toFm)[lo]? = some (toFm fs[lo]) := by simp [hf]
    have hld : lv[lo]? = some d := by
      have hlt2 : lo < lv.length := by omega
      have e := hlev lo (by simp)
      rw [List.getD_eq_getElem?_getD, List.getElem?_eq_getElem hlt2] at e
      rw [List.getElem?_eq_getElem hlt2]
      simpa using e
    have hK : Kof fs lo = fs[lo].kids := by unfold Kof; rw [hf]
    have hmem : fs[lo] ∈ fs := List.getElem_mem hlt
    have hrest : ∀ p ∈ r, lv.getD p 0 = d := fun p hp => hlev p (by simp [hp])
    have hnl : (sl fs (lo + 1) mid).length = (sl lv (lo + 1) mid).length := by rw [sl_len (by omega), sl_len (by omega)]
    rw [sl_cons hf (by omega), sl_cons hld (by omega), sl_join fs l1 l2, sl_join lv l1 l2]
    simp only [flatW]
    rw [flatW_append _ _ _ _ _ hnl]
    obtain ⟨f0, hf0⟩ : ∃ f0, fs[lo] = f0 := ⟨_, rfl⟩
    rw [hf0] at hfm hK hmem hf ⊢
    by_cases hk1 : f0.k = 1
    · have hu : ups f0 = 1 := by unfold ups; rw [if_pos hk1]
      have hwd : wd f0 = [40] := by unfold wd; rw [if_pos hk1]
      have hkl : ∀ p ∈ Kof fs lo, lv.getD p 0 = d + 1 := fun p hp => by
        rw [hK] at hp
        rw [hkid lo f0 p hf hp, hlev lo (by simp)]
      obtain ⟨i1, i1'⟩ := ih1 (by omega) m (d + 1) (d + 1) (by omega) (Nat.le_refl _) hkl
      rw [hu]
      obtain ⟨A, hA⟩ : ∃ A, flatW (sl fs (lo + 1) mid) (sl lv (lo + 1) mid) (d + 1) = A := ⟨_, rfl⟩
      rw [hA] at i1 i1' ⊢
      obtain ⟨i2, i2'⟩ := ih2 hh (m + 1) d A.2 (by omega) (by omega) hrest
      refine ⟨?_, i2'⟩
      have hw : wordsF (fs.map toFm) (m + 1) (lo : Int) = [40] :: ((castI f0.kids).flatMap (wordsF (fs.map toFm) m) ++ [[41]]) := by
        unfold wordsF
        rw [show ((lo : Int)).toNat = lo by omega, hfm]
        simp only
        rw [if_pos (show (toFm f0).k = 1 from hk1)]
        rfl
      rw [hwd]
      simp only [List.append_assoc, List.cons_append]
      rw [i2]
      simp only [castI, List.map_cons, List.flatMap_cons] at hw ⊢
      rw [hw]
      rw [show A.2 - d = (A.2 - (d + 1)) + 1 by omega, shuts_succ]
      simp only [List.cons_append, List.append_assoc]
      congr 2
      rw [← List.append_assoc A.1, i1, hK]
      simp [shuts, castI]
    · have hu : ups f0 = 0 := by unfold ups; rw [if_neg hk1]
      have hkn : f0.kids = [] := hkw f0 hmem hk1
      have hmid : mid = lo + 1 := by
        rw [hK, hkn] at h1
        cases h1
        rfl
      subst hmid
      rw [sl_nil, sl_nil, hu]
      simp only [flatW, List.nil_append, Nat.add_zero]
      obtain ⟨i2, i2'⟩ := ih2 hh (m + 1) d d (by omega) (Nat.le_refl _) hrest
      refine ⟨?_, i2'⟩
      have hw : wordsF (fs.map toFm) (m + 1) (lo : Int) = [wd f0] := by
        unfold wordsF
        rw [show ((lo : Int)).toNat = lo by omega, hfm]
        simp only
        rw [if_neg (show ¬ (toFm f0).k = 1 from hk1)]
        unfold wd
        rw [if_neg hk1]
        rcases hT f0 hmem with t1 | ⟨t3, _⟩ | ⟨t4, _⟩
        · exact absurd t1 hk1
        · have : f0.k = 3 := t3
          rw [if_pos (show (toFm f0).k = 3 from t3), if_pos this]
          rfl
        · have : f0.k = 4 := t4
          rw [if_neg (show ¬ (toFm f0).k = 3 by simp only [toFm]; omega), if_pos (show (toFm f0).k = 4 from t4), if_neg (by omega)]
          rfl
      simp only [List.append_assoc, List.cons_append]
      rw [i2]
      simp only [castI, List.map_cons, List.flatMap_cons] at hw ⊢
      rw [hw]
      simp [shuts]
theorem tok_kinds {q : Piece} (h : kindP q.2 ≠ 0) : (tok q).k = 1 ∨ (tok q).k = 2 ∨ (tok q).k = 3 ∨ (tok q).k = 4 := by
  show kindP q.2 = 1 ∨ kindP q.2 = 2 ∨ kindP q.2 = 3 ∨ kindP q.2 = 4
  unfold kindP at h ⊢
  split
  · exact .inl rfl
  · split
    · exact .inr (.inl rfl)
    · rename_i h1 h2
      rw [if_neg h1, if_neg h2] at h
      rcases kind_cases (bytesOf q.2) with e | e | e
      · exact absurd e h
      · exact .inr (.inr (.inl e))
      · exact .inr (.inr (.inr e))
/-- A token of a text says its word. -/
theorem wd_tok {q : Piece} (h : kindP q.2 ≠ 0) : wdT (tok q) = q.2 := by
  have hk := tok_kinds h
  have hkk : (tok q).k = kindP q.2 := rfl
  unfold wdT
  by_cases h2 : (tok q).k = 2
  · rw [if_pos h2]
    rw [hkk] at h2
    unfold kindP at h2
    split at h2
    · cases h2
    · split at h2
      · rename_i e; exact e.symm
      · rcases kind_cases (bytesOf q.2) with e | e | e <;> rw [e] at h2 <;> cases h2
  · rw [if_neg h2]
    unfold formOf
    by_cases h1 : (tok q).k = 1
    · rw [if_pos h1]
      rw [hkk] at h1
      unfold kindP at h1
      split at h1
      · rename_i e; rw [e]; rfl
      · split at h1
        · cases h1
        · rcases kind_cases (bytesOf q.2) with e | e | e <;> rw [e] at h1 <;> cases h1
    · rw [if_neg h1]
      by_cases h3 : (tok q).k = 3
      · rw [if_pos h3]
        unfold wd
        rw [if_neg (by simp), if_pos rfl]
        simp [tok, bytesOf]
      · rw [if_neg h3]
        unfold wd
        rw [if_neg (by simp), if_neg (by simp)]
        have h4 : (tok q).k = 4 := by omega
        rw [hkk] at h4
        show Lib.itoa (numP q.2) = q.2
        unfold numP
        rw [if_pos h4]
        unfold kindP at h4
        split at h4
        · cases h4
        · split at h4
          · cases h4
          · unfold kindW at h4
            split at h4
            · rename_i hn
              have := (numV_in hn).2
              rw [← this]
              simp [bytesOf]
            · split at h4 <;> cases h4
/-- The words of a text are those of what is read of it. -/
theorem words_read {s : ByteArray} {σ : St} {T : List Tok} {lv0 : List Nat} (hr : Rd T σ lv0) (hp : parse ((pieces s.data.toList).map tok) = .ok σ) (hk : ∀ q ∈ pieces s.data.toList, kindP q.2 ≠ 0) : (pieces s.data.toList).map Prod.snd = (castI σ.top).flatMap (wordsF (σ.forms.map toFm) (σ.forms.length + 1)) := by
  obtain ⟨lv, hl, ho⟩ := lev_parse (fun t ht => by obtain ⟨q, hq, rfl⟩ := List.mem_map.1 ht; exact tok_kinds (hk q hq)) hp
  have hw := hl.words
  rw [ho] at hw
  have e1 : ((pieces s.data.toList).map tok).map wdT = (pieces s.data.toList).map Prod.snd := by
    rw [List.map_map]
    exact List.map_congr_left fun q hq => wd_tok (hk q hq)
  rw [e1] at hw
  have hfs := flat_seg hl.len hr.told (fun f hf h1 => by
      obtain ⟨i, hi⟩ := List.getElem?_of_mem hf
      rcases (hr.shape.form i f hi).is with ⟨a, _⟩ | ⟨_, _, a⟩ | ⟨_, _, a⟩
      · exact absurd a h1
      · exact a
      · exact a) (fun i f c hf hc => (hl.kid i f c hf hc).2) hr.shape.seg (Nat.le_refl _) (σ.forms.length + 1) 0 0 (by omega) (Nat.le_refl _) (fun p hp => (hl.top p hp).2)
  have e2 : sl σ.forms 0 σ.forms.length = σ.forms := by simp [sl]
  have e3 : sl lv 0 σ.forms.length = lv := by rw [← hl.len]; simp [sl]
  rw [e2, e3] at hfs
  rw [hw]
  have := hfs.1
  simpa [shuts] using this
def key4 (f : Frm) : Int × ByteArray × Int × List Nat := (f.k, f.s, f.n, f.kids)
/-- The same but for places. -/
structure Alike (σ τ : St) : Prop where
  forms : σ.forms.map key4 = τ.forms.map key4
  top : σ.top = τ.top
  opn : σ.opn = τ.opn
theorem Alike.len {σ τ : St} (h : Alike σ τ) : σ.forms.length = τ.forms.length := by have := congrArg List.length h.forms; simpa using this
def keyT (t : Tok) : Int × ByteArray × Int := (t.k, t.s, t.n)
theorem form_alike {t u : Tok} (h : keyT t = keyT u) : key4 (formOf t) = key4 (formOf u) := by
  unfold keyT at h
  simp only [Prod.mk.injEq] at h
  obtain ⟨h1, h2, h3⟩ := h
  unfold formOf
  rw [h1]
  split
  · rfl
  · split
    · simp [key4, h2]
    · simp [key4, h3]
theorem key4_mod (b n : Nat) {A B : List Frm} (h : A.map key4 = B.map key4) : (A.modify b (addKid n)).map key4 = (B.modify b (addKid n)).map key4 := by
  apply List.ext_getElem?
  intro i
  have hi : (A[i]?).map key4 = (B[i]?).map key4 := by rw [← List.getElem?_map, ← List.getElem?_map, h]
  rw [List.getElem?_map, List.getElem?_modify, List.getElem?_map, List.getElem?_modify]
  cases ha : A[i]? with
  | none =>
    rw [ha] at hi
    cases hb : B[i]? with
    | none => rfl
    | some y => rw [hb] at hi; simp at hi
  | some x =>
    rw [ha] at hi
    cases hb : B[i]? with
    | none => rw [hb] at hi; simp at hi
    | some y =>
      rw [hb] at hi
      simp only [Option.map_some, Option.some.injEq] at hi
      by_cases hbi : b = i
      · simp [hbi, key4, addKid] at hi ⊢
        exact ⟨hi.1, hi.2.1, hi.2.2.1, hi.2.2.2⟩
      · simp [hbi, hi]
theorem add_alike {σ τ : St} {f g : Frm} (h : Alike σ τ) (hf : key4 f = key4 g) : Alike (addF f σ) (addF g τ) := by
  unfold addF
  rw [h.opn]
  split
  · exact ⟨by simp [h.forms, hf], by simp [h.top, h.len], rfl⟩
  · rename_i b _
    exact ⟨by simp only [List.map_append, List.map_cons, List.map_nil, hf, h.len, key4_mod b _ h.forms], h.top, rfl⟩
theorem step_alike {σ τ σ' : St} {t u : Tok} (h : Alike σ τ) (hk : keyT t = keyT u) (he : step σ t = .ok σ') : ∃ τ', step τ u = .ok τ' ∧ Alike σ' τ' := by
  have hkk : t.k = u.k := by unfold keyT at hk; simp only [Prod.mk.injEq] at hk; exact hk.1
  have hf := form_alike hk
  have ha := add_alike h hf
  have hl := h.len
  unfold step at he ⊢
  rw [hkk, h.opn, hl] at he
  split at he
  · rename_i h2
    rw [if_pos h2]
    split at he
    · cases he
    · rename_i hn
      rw [if_neg hn]
      cases he
      exact ⟨_, rfl, h.forms, h.top, rfl⟩
  · rename_i h2
    rw [if_neg h2]
    split at he
    · rename_i h1
      rw [if_pos h1]
      split at he
      · cases he
      · rename_i h12
        rw [if_neg h12]
        split at he
        · cases he
        · rename_i h4
          rw [if_neg h4]
          cases he
          exact ⟨_, rfl, ha.forms, ha.top, rfl⟩
    · rename_i h1
      rw [if_neg h1]
      split at he
      · rename_i h34
        rw [if_pos h34]
        split at he
        · cases he
        · rename_i h4
          rw [if_neg h4]
          cases he
          exact ⟨_, rfl, ha⟩
      · rename_i h34
        rw [if_neg h34]
        cases he
        exact ⟨_, rfl, h⟩
theorem steps_alike : ∀ (l m : List Tok) (σ τ σ' : St), Alike σ τ → l.map keyT = m.map keyT → steps l σ = .ok σ' → ∃ τ', steps m τ = .ok τ' ∧ Alike σ' τ'
  | [], [], σ, τ, σ', h, _, he => by unfold steps at he; cases he; exact ⟨τ, rfl, h⟩
  | t :: l, u :: m, σ, τ, σ', h, hk, he => by
    simp only [List.map_cons, List.cons.injEq] at hk
    unfold steps at he
    cases hs : step σ t with
    | error e => rw [hs] at he; cases he
    | ok σ1 =>
      rw [hs] at he
      obtain ⟨τ1, h1, h2⟩ := step_alike h hk.1 hs
      obtain ⟨τ', h3, h4⟩ := steps_alike l m σ1 τ1 σ' h2 hk.2 he
      exact ⟨τ', by unfold steps; rw [h1]; exact h3, h4⟩
  | [], u :: m, σ, τ, σ', _, hk, _ => by simp at hk
  | t :: l, [], σ, τ, σ', _, hk, _ => by simp at hk
theorem parse_alike {l m : List Tok} {σ : St} (hk : l.map keyT = m.map keyT) (h : parse l = .ok σ) : ∃ τ, parse m = .ok τ ∧ Alike σ τ := by
  unfold parse at h ⊢
  cases hs : steps l begin0 with
  | error e => rw [hs] at h; cases h
  | ok σ1 =>
    rw [hs] at h
    simp only at h
    obtain ⟨τ1, h1, h2⟩ := steps_alike l m begin0 begin0 σ1 ⟨rfl, rfl, rfl⟩ hk hs
    rw [h1]
    simp only
    unfold finish at h ⊢
    rw [h2.opn] at h
    split at h
    · rename_i hn
      cases h
      exact ⟨τ1, rfl, h2⟩
    · cases h
theorem bad_ok : ∀ (l : List Piece) (c : Nat), (∀ q ∈ l, kindP q.2 ≠ 0) → c + l.length ≤ 600 → bad c l = none
  | [], _, _, _ => rfl
  | q :: r, c, h, hl => by
    simp only [List.length_cons] at hl
    unfold bad
    rw [if_neg (h q (by simp)), if_neg (by omega)]
    exact bad_ok r (c + 1) (fun x hx => h x (by simp [hx])) (by omega)
theorem read_parts {s : ByteArray} {σ : St} (h : readR s = some σ) : s.size ≤ 3000 ∧ (lexRes s).1 = (pieces s.data.toList).map tok ∧ (∀ q ∈ pieces s.data.toList, kindP q.2 ≠ 0) ∧ (pieces s.data.toList).length ≤ 600 ∧ parse ((pieces s.data.toList).map tok) = .ok σ := by
  unfold readR at h
  split at h
  · rename_i h0
    split at h
    · rename_i σ' hp
      cases h
      have hsz : ¬ 3000 < s.size := fun hh => by
        unfold lexRes at h0
        rw [if_pos hh] at h0
        simp at h0
      cases hb : bad 0 (pieces s.data.toList) with
      | some pe =>
        exfalso
        have hk : ∀ (l : List Piece) (c : Nat) (p : Int × Int), bad c l = some p → p.2 = 8 ∨ p.2 = 4 := by
          intro l
          induction l with
          | nil => intro c p e; simp [bad] at e
          | cons q r ih =>
            intro c p e
            unfold bad at e
            split at e
            · cases e; exact .inl rfl
            · split at e
              · cases e; exact .inr rfl
              · exact ih _ _ e
        unfold lexRes at h0
        rw [if_neg hsz, hb] at h0
        have := hk _ _ _ hb
        simp only at h0
        omega
      | none =>
        obtain ⟨b1, b2⟩ := bad_none 0 _ (by omega) hb
        have e1 : (lexRes s).1 = (pieces s.data.toList).map tok := by unfold lexRes; rw [if_neg hsz, hb]
        rw [e1] at hp
        exact ⟨by omega, e1, b2, by omega, hp⟩
    · cases h
  · cases h
/-- What is read of a printed text is what was printed, but for places. -/
theorem read_back {s : ByteArray} {σ : St} {T : List Tok} {lv : List Nat} (hr : Rd T σ lv) (h : readR s = some σ) {gap : GapF} (hg : GapOk gap) (hl : (prn (σ.forms.map toFm) gap (castI σ.top)).length ≤ 3000) :
    ∃ τ, readR ⟨(prn (σ.forms.map toFm) gap (castI σ.top)).toArray⟩ = some τ ∧ Alike σ τ := by
  obtain ⟨_, _, hk, hn, hp⟩ := read_parts h
  have hw := words_read hr hp hk
  have hw2 := words_prn hg (fs := σ.forms.map toFm) (fun f hf => by obtain ⟨g, hg, rfl⟩ := List.mem_map.1 hf; exact hr.told g hg) (castI σ.top)
  rw [List.length_map, ← hw] at hw2
  obtain ⟨P, hP⟩ : ∃ P, prn (σ.forms.map toFm) gap (castI σ.top) = P := ⟨_, rfl⟩
  rw [hP] at hw2 hl ⊢
  have hk2 : ∀ q ∈ pieces P, kindP q.2 ≠ 0 := fun q hq => by
    have : q.2 ∈ (pieces s.data.toList).map Prod.snd := by rw [← hw2]; exact List.mem_map_of_mem hq
    obtain ⟨q', hq', e⟩ := List.mem_map.1 this
    rw [← e]
    exact hk q' hq'
  have hn2 : (pieces P).length ≤ 600 := by have := congrArg List.length hw2; simp at this; omega
  have hkey : ((pieces s.data.toList).map tok).map keyT = ((pieces P).map tok).map keyT := by
    have e : ∀ l : List Piece, (l.map tok).map keyT = (l.map Prod.snd).map fun w => (kindP w, bytesOf w, numP w) := fun l => by rw [List.map_map, List.map_map]; rfl
    rw [e, e, hw2]
  obtain ⟨τ, hτ, ha⟩ := parse_alike hkey hp
  refine ⟨τ, ?_, ha⟩
  have hd : (⟨P.toArray⟩ : ByteArray).data.toList = P := by simp
  have hsz : ¬ 3000 < (⟨P.toArray⟩ : ByteArray).size := by
    show ¬ 3000 < P.toArray.size
    simp; omega
  have e1 : lexRes ⟨P.toArray⟩ = ((pieces P).map tok, 0, 0) := by
    unfold lexRes
    rw [if_neg hsz, hd, bad_ok (pieces P) 0 hk2 (by omega)]
  unfold readR
  rw [e1]
  simp only [if_true, hτ]
end Go.Proofs.YtmihhebcchpmcaaGreatDoor
