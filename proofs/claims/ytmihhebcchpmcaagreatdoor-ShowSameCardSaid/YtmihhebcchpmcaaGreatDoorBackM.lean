/-
  What is read of a printed text: its words are the forms' words, with whatever blanks between; and the words of a text are those of what is read of it.
-/
import Derived.Test.YtmihhebcchpmcaaGreatDoorReadM
namespace Go.Proofs.YtmihhebcchpmcaaGreatDoor
open Go.RowKit Go.Deep Go.MapKept Go.Shelf
def flush (cur : Txt) : List Txt := if cur = [] then [] else [cur]
def lexA : Txt → Txt → List Txt
  | cur, [] => flush cur
  | cur, c :: r => if bracket c then flush cur ++ [c] :: lexA [] r else if spaced c then flush cur ++ lexA [] r else lexA (cur ++ [c]) r
/-- Words without places. -/
theorem run_lexA (t : Txt) : ∀ (r : Txt) (p : Nat) (b : Option Nat) (cur : Txt), (∀ c ∈ r, c ≠ 59) → t.drop p = r → p ≤ t.length → ((b = none ∧ cur = []) ∨ ∃ b0, b = some b0 ∧ b0 < p ∧ cur = (t.drop b0).take (p - b0)) → (run t p b false r).map Prod.snd = lexA cur r := by
  intro r
  have hw : ∀ (p : Nat) (b : Option Nat) (cur : Txt), p ≤ t.length → ((b = none ∧ cur = []) ∨ ∃ b0, b = some b0 ∧ b0 < p ∧ cur = (t.drop b0).take (p - b0)) → (word t p b).map Prod.snd = flush cur := by
    rintro p b cur hp (⟨rfl, rfl⟩ | ⟨b0, rfl, hb, rfl⟩)
    · rfl
    · have : (t.drop b0).take (p - b0) ≠ [] := fun e => by
        have := congrArg List.length e
        simp at this
        omega
      simp [word, flush, this]
  induction r with
  | nil =>
    intro p b cur _ _ hp hb
    simp only [run, lexA]
    exact hw p b cur hp hb
  | cons c r ih =>
    intro p b cur h59 hd hp hb
    have hc : c ≠ 59 := h59 c (by simp)
    have hr : ∀ c ∈ r, c ≠ 59 := fun x hx => h59 x (by simp [hx])
    have hlt : p < t.length := by
      rcases Nat.lt_or_ge p t.length with h | h
      · exact h
      · rw [List.drop_eq_nil_of_le h] at hd; cases hd
    have hd1 : t.drop (p + 1) = r := by rw [← List.drop_drop, hd]; rfl
    have hg : t[p]? = some c := by have := congrArg List.head? hd; rw [List.head?_drop] at this; simpa using this
    simp only [run, lexA]
    rw [if_neg hc]
    by_cases hbr : bracket c = true
    · rw [if_pos hbr, if_pos hbr, List.map_append, List.map_cons, hw p b cur hp hb, ih (p + 1) none [] hr hd1 hlt (.inl ⟨rfl, rfl⟩)]
    · rw [if_neg hbr, if_neg hbr]
      by_cases hsp : spaced c = true
      · rw [if_pos hsp, if_pos hsp, List.map_append, hw p b cur hp hb, ih (p + 1) none [] hr hd1 hlt (.inl ⟨rfl, rfl⟩)]
      · rw [if_neg hsp, if_neg hsp]
        refine ih (p + 1) _ _ hr hd1 hlt (.inr ?_)
        rcases hb with ⟨rfl, rfl⟩ | ⟨b0, rfl, hb0, rfl⟩
        · refine ⟨p, rfl, by omega, ?_⟩
          rw [hd, show p + 1 - p = 1 by omega]
          rfl
        · refine ⟨b0, rfl, by omega, ?_⟩
          rw [show p + 1 - b0 = (p - b0) + 1 by omega, List.take_add_one, List.getElem?_drop, show b0 + (p - b0) = p by omega, hg]
          rfl
theorem pieces_lexA {t : Txt} (h : ∀ c ∈ t, c ≠ 59) : (pieces t).map Prod.snd = lexA [] t := run_lexA t t 0 none [] h rfl (Nat.zero_le _) (.inl ⟨rfl, rfl⟩)
theorem lexA_plain : ∀ (w : Txt) (cur r : Txt), (∀ c ∈ w, plain c) → lexA cur (w ++ r) = lexA (cur ++ w) r
  | [], cur, r, _ => by simp
  | c :: w, cur, r, h => by
    have hc := h c (by simp)
    rw [List.cons_append, lexA, hc.2.1, hc.2.2]
    simp only [Bool.false_eq_true, if_false]
    rw [lexA_plain w (cur ++ [c]) r (fun x hx => h x (by simp [hx])), List.append_assoc]
    rfl
/-- Here a word is at its end. -/
def Stop (r : Txt) : Prop := r = [] ∨ ∃ c r', r = c :: r' ∧ (bracket c = true ∨ spaced c = true)
theorem lexA_stop (cur : Txt) {r : Txt} (h : Stop r) : lexA cur r = flush cur ++ lexA [] r := by
  rcases h with rfl | ⟨c, r', rfl, hc⟩
  · simp [lexA, flush]
  · have hf : flush [] = [] := rfl
    rw [lexA, lexA, hf]
    by_cases hb : bracket c = true
    · rw [if_pos hb, if_pos hb]; rfl
    · have hs : spaced c = true := hc.resolve_left hb
      rw [if_neg hb, if_neg hb, if_pos hs, if_pos hs]; rfl
theorem lexA_space : ∀ (g r : Txt), (∀ c ∈ g, spaced c = true ∧ bracket c = false) → lexA [] (g ++ r) = lexA [] r
  | [], r, _ => rfl
  | c :: g, r, h => by
    obtain ⟨h1, h2⟩ := h c (by simp)
    rw [List.cons_append, lexA, h2, h1]
    simp only [Bool.false_eq_true, if_false, if_true]
    rw [lexA_space g r fun x hx => h x (by simp [hx])]
    rfl
theorem lexA_word {w r : Txt} (h : ∀ c ∈ w, plain c) (hn : w ≠ []) (hr : Stop r) : lexA [] (w ++ r) = w :: lexA [] r := by
  rw [lexA_plain w [] r h, List.nil_append, lexA_stop w hr]
  simp [flush, hn]
theorem lexA_br {c : UInt8} (h : bracket c = true) (r : Txt) : lexA [] (c :: r) = [c] :: lexA [] r := by
  rw [lexA, if_pos h]; rfl
def wordsF (fs : List Fm) : Nat → Int → List Txt
  | 0, _ => []
  | m + 1, a => match fs[a.toNat]? with
    | none => []
    | some f => if f.k = 1 then [40] :: (f.kids.flatMap (wordsF fs m) ++ [[41]]) else if f.k = 3 then [f.s.data.toList] else if f.k = 4 then [Lib.itoa f.n] else []
/-- Blanks between kids. -/
structure GapOk (gap : GapF) : Prop where
  sp : ∀ ks n d, ∀ c ∈ gap ks n d, spaced c = true ∧ bracket c = false
  some : ∀ ks n d, n ≠ 0 → gap ks n d ≠ []
theorem gapOk_B : GapOk gapB := by
  refine ⟨fun ks n d c hc => ?_, fun ks n d hn => ?_⟩
  · unfold gapB at hc
    split at hc
    · simp at hc
    · simp at hc; subst hc; decide
  · unfold gapB; rw [if_neg hn]; simp
theorem gapOk_L (fs : List Fm) : GapOk (gapL fs) := by
  refine ⟨fun ks n d c hc => ?_, fun ks n d hn => ?_⟩
  · unfold gapL at hc
    split at hc
    · rcases List.mem_cons.1 hc with rfl | hc
      · decide
      · rw [List.mem_replicate] at hc; rw [hc.2]; decide
    · exact gapOk_B.sp ks n d c hc
  · unfold gapL
    split
    · simp
    · exact gapOk_B.some ks n d hn
theorem stop_kids {fs : List Fm} {gap : GapF} (hg : GapOk gap) (m d : Nat) (ks l : List Int) (s : Nat) (hs : s ≠ 0) (r : Txt) : Stop ((l.zipIdx s).flatMap (fun p => gap ks p.2 (d + 1) ++ txt fs gap m p.1 (d + 1)) ++ 41 :: r) := by
  cases l with
  | nil => exact .inr ⟨41, r, rfl, .inl (by decide)⟩
  | cons c l =>
    simp only [List.zipIdx_cons, List.flatMap_cons]
    have hn := hg.some ks s (d + 1) hs
    cases hgap : gap ks s (d + 1) with
    | nil => exact absurd hgap hn
    | cons x y => exact .inr ⟨x, _, rfl, .inr (hg.sp ks s (d + 1) x (by rw [hgap]; simp)).1⟩
theorem lexA_txt {fs : List Fm} {gap : GapF} (hg : GapOk gap) (hT : ∀ f ∈ fs, Told f) : ∀ (m : Nat) (a : Int) (d : Nat) (r : Txt), Stop r → lexA [] (txt fs gap m a d ++ r) = wordsF fs m a ++ lexA [] r
  | 0, a, d, r, _ => rfl
  | m + 1, a, d, r, hr => by
    unfold txt wordsF
    cases hf : fs[a.toNat]? with
    | none => rfl
    | some f =>
      simp only
      rcases hT f (List.mem_of_getElem? hf) with h1 | ⟨h3, hk⟩ | ⟨h4, hn⟩
      · rw [if_pos h1, if_pos h1]
        have key : ∀ (l : List Int) (s : Nat), lexA [] ((l.zipIdx s).flatMap (fun p => gap f.kids p.2 (d + 1) ++ txt fs gap m p.1 (d + 1)) ++ 41 :: r) = l.flatMap (wordsF fs m) ++ lexA [] (41 :: r) := by
          intro l
          induction l with
          | nil => intro s; rfl
          | cons c l ih =>
            intro s
            simp only [List.zipIdx_cons, List.flatMap_cons, List.append_assoc]
            rw [lexA_space _ _ (hg.sp f.kids s (d + 1)), lexA_txt hg hT m c (d + 1) _ (stop_kids hg m d f.kids l (s + 1) (by omega) r), ih (s + 1)]
        have := key f.kids 0
        rw [List.cons_append, lexA_br (by decide), List.append_assoc, List.singleton_append, this, lexA_br (c := 41) (by decide)]
        simp
      · have n1 : ¬ f.k = 1 := by omega
        simp only [if_neg n1, if_pos h3]
        obtain ⟨p1, p2, _⟩ := word_plain hk
        exact lexA_word p1 p2 hr
      · have n1 : ¬ f.k = 1 := by omega
        have n3 : ¬ f.k = 3 := by omega
        simp only [if_neg n1, if_neg n3, if_pos h4]
        obtain ⟨p1, p2⟩ := itoa_plain f.n
        exact lexA_word p1 p2 hr
theorem lexA_prn {fs : List Fm} {gap : GapF} (hg : GapOk gap) (hT : ∀ f ∈ fs, Told f) (top : List Int) : lexA [] (prn fs gap top) = top.flatMap (wordsF fs (fs.length + 1)) := by
  unfold prn
  induction top with
  | nil => rfl
  | cons t r ih =>
    rw [List.flatMap_cons, List.flatMap_cons]
    show lexA [] ((txt fs gap (fs.length + 1) t 0 ++ [10]) ++ r.flatMap (lineT fs gap)) = _
    have hst : Stop ([10] ++ r.flatMap (lineT fs gap)) := .inr ⟨10, _, rfl, .inr (by decide)⟩
    rw [List.append_assoc, lexA_txt hg hT _ _ _ _ hst]
    rw [lexA_space [10] _ (fun c hc => by rw [List.mem_singleton.1 hc]; decide), ih]
theorem no59_txt {fs : List Fm} {gap : GapF} (hg : GapOk gap) (hT : ∀ f ∈ fs, Told f) : ∀ (m : Nat) (a : Int) (d : Nat), ∀ c ∈ txt fs gap m a d, c ≠ 59
  | 0, a, d, c, hc => by simp [txt] at hc
  | m + 1, a, d, c, hc => by
    unfold txt at hc
    cases hf : fs[a.toNat]? with
    | none => rw [hf] at hc; simp at hc
    | some f =>
      rw [hf] at hc
      simp only at hc
      rcases hT f (List.mem_of_getElem? hf) with h1 | ⟨h3, hk⟩ | ⟨h4, hn⟩
      · rw [if_pos h1] at hc
        rcases List.mem_cons.1 hc with rfl | hc
        · decide
        · rcases List.mem_append.1 hc with hc | hc
          · obtain ⟨p, _, hc⟩ := List.mem_flatMap.1 hc
            rcases List.mem_append.1 hc with hc | hc
            · intro e; have := (hg.sp _ _ _ c hc).1; rw [e] at this; revert this; decide
            · exact no59_txt hg hT m p.1 (d + 1) c hc
          · rw [List.mem_singleton.1 hc]; decide
      · rw [if_neg (by omega), if_pos h3] at hc
        exact ((word_plain hk).1 c hc).1
      · rw [if_neg (by omega), if_neg (by omega), if_pos h4] at hc
        exact ((itoa_plain f.n).1 c hc).1
theorem no59_prn {fs : List Fm} {gap : GapF} (hg : GapOk gap) (hT : ∀ f ∈ fs, Told f) (top : List Int) : ∀ c ∈ prn fs gap top, c ≠ 59 := by
  intro c hc
  obtain ⟨t, _, hc⟩ := List.mem_flatMap.1 hc
  unfold lineT at hc
  rcases List.mem_append.1 hc with hc | hc
  · exact no59_txt hg hT _ _ _ c hc
  · rw [List.mem_singleton.1 hc]; decide
/-- The words of a printed text. -/
theorem words_prn {fs : List Fm} {gap : GapF} (hg : GapOk gap) (hT : ∀ f ∈ fs, Told f) (top : List Int) : (pieces (prn fs gap top)).map Prod.snd = top.flatMap (wordsF fs (fs.length + 1)) :=
  (pieces_lexA (no59_prn hg hT top)).trans (lexA_prn hg hT top)
end Go.Proofs.YtmihhebcchpmcaaGreatDoor
