/-
  What is read of a printed text: its words are the forms' words, with whatever blanks between; and the words of a text are those of what is read of it.
-/
import Derived.Test.YtmihhebcchpmcaaGreatDoorReadM
namespace Go.Proofs.YtmihhebcchpmcaaGreatDoor
open Go.RowKit Go.Deep Go.MapKept Go.Shelf
def flush (cur : Txt) : List Txt := if cur = [] then [] else [cur]
def lexA : Txt → Txt → List Txt
  | cur, [] => flush cur
  | cur, c :: r => if bracket c then flush cur ++ [c] :: lexA [] r else if spaced c then flush cur ++ lexA [] r else lexA (cur ++ [c]) r
/-- Words without places. -/
theorem run_lexA (t : Txt) : ∀ (r : Txt) (p : Nat) (b : Option Nat) (cur : Txt), (∀ c ∈ r, c ≠ 59) → t.drop p = r → p ≤ t.length → ((b = none ∧ cur = []) ∨ ∃ b0, b = some b0 ∧ b0 < p ∧ cur = (t.drop b0).take (p - b0)) → (run t p b false r).map Prod.snd = lexA cur r := by
  intro r
  have hw : ∀ (p : Nat) (b : Option Nat) (cur : Txt), p ≤ t.length → ((b = none ∧ cur = []) ∨ ∃ b0, b = some b0 ∧ b0 < p ∧ cur = (t.drop b0).take (p - b0)) → (word t p b).map Prod.snd = flush cur := by
    rintro p b cur hp (⟨rfl, rfl⟩ | ⟨b0, rfl, hb, rfl⟩)
    · rfl
    · have : (t.drop b0).take (p - b0) ≠ [] := fun e => by
        have := congrArg List.length e
        simp at this
        omega
      simp [word, flush, this]
  induction r with
  | nil =>
    intro p b cur _ _ hp hb
    simp only [run, lexA]
    exact hw p b cur hp hb
  | cons c r ih =>
    intro p b cur h59 hd hp hb
    have hc : c ≠ 59 := h59 c (by simp)
    have hr : ∀ c ∈ r, c ≠ 59 := fun x hx => h59 x (by simp [hx])
    have hlt : p < t.length := by
      rcases Nat.lt_or_ge p t.length with h | h
      · exact h
      · rw [List.drop_eq_nil_of_le h] at hd; cases hd
    have hd1 : t.drop (p + 1) = r := by rw [← List.drop_drop, hd]; rfl
    have hg : t[p]? = some c := by have := congrArg List.head? hd; rw [List.head?_drop] at this; simpa using this
    simp only [run, lexA]
    rw [if_neg hc]
    by_cases hbr : bracket c = true
    · rw [if_pos hbr, if_pos hbr, List.map_append, List.map_cons, hw p b cur hp hb, ih (p + 1) none [] hr hd1 hlt (.inl ⟨rfl, rfl⟩)]
    · rw [if_neg hbr, if_neg hbr]
      by_cases hsp : spaced c = true
      · rw [if_pos hsp, if_pos hsp, List.map_append, hw p b cur hp hb, ih (p + 1) none [] hr hd1 hlt (.inl ⟨rfl, rfl⟩)]
      · rw [if_neg hsp, if_neg hsp]
        refine ih (p + 1) _ _ hr hd1 hlt (.inr ?_)
        rcases hb with ⟨rfl, rfl⟩ | ⟨b0, rfl, hb0, rfl⟩
        · refine ⟨p, rfl, by omega, ?_⟩
          rw [hd, show p + 1 - p = 1 by omega]
          rfl
        · refine ⟨b0, rfl, by omega, ?_⟩
          rw [show p + 1 - b0 = (p - b0) + 1 by omega, List.take_add_one, List.getElem?_drop, show b0 + (p - b0) = p by omega, hg]
          rfl
theorem pieces_lexA {t : Txt} (h : ∀ c ∈ t, c ≠ 59) : (pieces t).map Prod.snd = lexA [] t := run_lexA t t 0 none [] h rfl (Nat.zero_le _) (.inl ⟨rfl, rfl⟩)
theorem lexA_plain : ∀ (w : Txt) (cur r : Txt), (∀ c ∈ w, plain c) → lexA cur (w ++ r) = lexA (cur ++ w) r
  | [], cur, r, _ => by simp
  | c :: w, cur, r, h => by
    have hc := h c (by simp)
    rw [List.cons_append, lexA, hc.2.1, hc.2.2]
    simp only [Bool.false_eq_true, if_false]
    rw [lexA_plain w (cur ++ [c]) r (fun x hx => h x (by simp [hx])), List.append_assoc]
    rfl
/-- Here a word is at its end. -/
def Stop (r : Txt) : Prop := r = [] ∨ ∃ c r', r = c :: r' ∧ (bracket c = true ∨ spaced c = true)
theorem lexA_stop (cur : Txt) {r : Txt} (h : Stop r) : lexA cur r = flush cur ++ lexA [] r := by
  rcases h with rfl | ⟨c, r', rfl, hc⟩
  · simp [lexA, flush]
  · have hf : flush [] = [] := rfl
    rw [lexA, lexA, hf]
    by_cases hb : bracket c = true
    · rw [if_pos hb, if_pos hb]; rfl
    · have hs : spaced c = true := hc.resolve_left hb
      rw [if_neg hb, if_neg hb, if_pos hs, if_pos hs]; rfl
theorem lexA_space : ∀ (g r : Txt), (∀ c ∈ g, spaced c = true ∧ bracket c = false) → lexA [] (g ++ r) = lexA [] r
  | [], r, _ => rfl
  | c :: g, r, h => by
    obtain ⟨h1, h2⟩ := h c (by simp)
    rw [List.cons_append, lexA, h2, h1]
    simp only [Bool.false_eq_true, if_false, if_true]
    rw [lexA_space g r fun x hx => h x (by simp [hx])]
    rfl
theorem lexA_word {w r : Txt} (h : ∀ c ∈ w, plain c) (hn : w ≠ []) (hr : Stop r) : lexA [] (w ++ r) = w :: lexA [] r := by
  rw [lexA_plain w [] r h, List.nil_append, lexA_stop w hr]
  simp [flush, hn]
theorem lexA_br {c : UInt8} (h : bracket c = true) (r : Txt) : lexA [] (c :: r) = [c] :: lexA [] r := by
  rw [lexA, if_pos h]; rfl
def wordsF (fs : List Fm) : Nat → Int → List Txt
  | 0, _ => []
  | m + 1, a => match fs[a.toNat]? with
    | none => []
    | some f => if f.k = 1 then [40] :: (f.kids.flatMap (wordsF fs m) ++ [[41]]) else if f.k = 3 then [f.s.data.toList] else if f.k = 4 then [Lib.itoa f.n] else []
/-- Blanks between kids. -/
structure GapOk (gap : GapF) : Prop where
  sp : ∀ ks n d, ∀ c ∈ gap ks n d, spaced c = true ∧ bracket c = false
  some : ∀ ks n d, n ≠ 0 → gap ks n d ≠ []
theorem gapOk_B : GapOk gapB := by
  refine ⟨fun ks n d c hc => ?_, fun ks n d hn => ?_⟩
  · unfold gapB at hc
    split at hc
    · simp at hc
    · simp at hc; subst hc; decide
  · unfold gapB; rw [if_neg hn]; simp
theorem gapOk_L (fs : List Fm) : GapOk (gapL fs) := by
  refine ⟨fun ks n d c hc => ?_, fun ks n d hn => ?_⟩
  · unfold gapL at hc
    split at hc
    · rcases List.mem_cons.1 hc with rfl | hc
      · decide
      · rw [List.mem_replicate] at hc; rw [hc.2]; decide
    · exact gapOk_B.sp ks n d c hc
  · unfold gapL
    split
    · simp
    · exact gapOk_B.some ks n d hn
theorem stop_kids {fs : List Fm} {gap : GapF} (hg : GapOk gap) (m d : Nat) (ks l : List Int) (s : Nat) (hs : s ≠ 0) (r : Txt) : Stop ((l.zipIdx s).flatMap (fun p => gap ks p.2 (d + 1) ++ txt fs gap m p.1 (d + 1)) ++ 41 :: r) := by
  cases l with
  | nil => exact .inr ⟨41, r, rfl, .inl (by decide)⟩
  | cons c l =>
    simp only [List.zipIdx_cons, List.flatMap_cons]
    have hn := hg.some ks s (d + 1) hs
    cases hgap : gap ks s (d + 1) with
    | nil => exact absurd hgap hn
    | cons x y => exact .inr ⟨x, _, rfl, .inr (hg.sp ks s (d + 1) x (by rw [hgap]; simp)).1⟩
theorem lexA_txt {fs : List Fm} {gap : GapF} (hg : GapOk gap) (hT : ∀ f ∈ fs, Told f) : ∀ (m : Nat) (a : Int) (d : Nat) (r : Txt), Stop r → lexA [] (txt fs gap m a d ++ r) = wordsF fs m a ++ lexA [] r
  | 0, a, d, r, _ => rfl
  | m + 1, a, d, r, hr => by
    unfold txt wordsF
    cases hf : fs[a.toNat]? with
    | none => rfl
    | some f =>
      simp only
      rcases hT f (List.mem_of_getElem? hf) with h1 | ⟨h3, hk⟩ | ⟨h4, hn⟩
      · rw [if_pos h1, if_pos h1]
        have key : ∀ (l : List Int) (s : Nat), lexA [] ((l.zipIdx s).flatMap (fun p => gap f.kids p.2 (d + 1) ++ txt fs gap m p.1 (d + 1)) ++ 41 :: r) = l.flatMap (wordsF fs m) ++ lexA [] (41 :: r) := by
          intro l
          induction l with
          | nil => intro s; rfl
          | cons c l ih =>
            intro s
            simp only [List.zipIdx_cons, List.flatMap_cons, List.append_assoc]
            rw [lexA_space _ _ (hg.sp f.kids s (d + 1)), lexA_txt hg hT m c (d + 1) _ (stop_kids hg m d f.kids l (s + 1) (by omega) r), ih (s + 1)]
        have := key f.kids 0
        rw [List.cons_append, lexA_br (by decide), List.append_assoc, List.singleton_append, this, lexA_br (c := 41) (by decide)]
        simp
      · have n1 : ¬ f.k = 1 := by omega
        simp only [if_neg n1, if_pos h3]
        obtain ⟨p1, p2, _⟩ := word_plain hk
        exact lexA_word p1 p2 hr
      · have n1 : ¬ f.k = 1 := by omega
        have n3 : ¬ f.k = 3 := by omega
        simp only [if_neg n1, if_neg n3, if_pos h4]
        obtain ⟨p1, p2⟩ := itoa_plain f.n
        exact lexA_word p1 p2 hr
theorem lexA_prn {fs : List Fm} {gap : GapF} (hg : GapOk gap) (hT : ∀ f ∈ fs, Told f) (top : List Int) : lexA [] (prn fs gap top) = top.flatMap (wordsF fs (fs.length + 1)) := by
  unfold prn
  induction top with
  | nil => rfl
  | cons t r ih =>
    rw [List.flatMap_cons, List.flatMap_cons]
    show lexA [] ((txt fs gap (fs.length + 1) t 0 ++ [10]) ++ r.flatMap (lineT fs gap)) = _
    have hst : Stop ([10] ++ r.flatMap (lineT fs gap)) := .inr ⟨10, _, rfl, .inr (by decide)⟩
    rw [List.append_assoc, lexA_txt hg hT _ _ _ _ hst]
    rw [lexA_space [10] _ (fun c hc => by rw [List.mem_singleton.1 hc]; decide), ih]
theorem no59_txt {fs : List Fm} {gap : GapF} (hg : GapOk gap) (hT : ∀ f ∈ fs, Told f) : ∀ (m : Nat) (a : Int) (d : Nat), ∀ c ∈ txt fs gap m a d, c ≠ 59
  | 0, a, d, c, hc => by simp [txt] at hc
  | m + 1, a, d, c, hc => by
    unfold txt at hc
    cases hf : fs[a.toNat]? with
    | none => rw [hf] at hc; simp at hc
    | some f =>
      rw [hf] at hc
      simp only at hc
      rcases hT f (List.mem_of_getElem? hf) with h1 | ⟨h3, hk⟩ | ⟨h4, hn⟩
      · rw [if_pos h1] at hc
        rcases List.mem_cons.1 hc with rfl | hc
        · decide
        · rcases List.mem_append.1 hc with hc | hc
          · obtain ⟨p, _, hc⟩ := List.mem_flatMap.1 hc
            rcases List.mem_append.1 hc with hc | hc
            · intro e; have := (hg.sp _ _ _ c hc).1; rw [e] at this; revert this; decide
            · exact no59_txt hg hT m p.1 (d + 1) c hc
          · rw [List.mem_singleton.1 hc]; decide
      · rw [if_neg (by omega), if_pos h3] at hc
        exact ((word_plain hk).1 c hc).1
      · rw [if_neg (by omega), if_neg (by omega), if_pos h4] at hc
        exact ((itoa_plain f.n).1 c hc).1
theorem no59_prn {fs : List Fm} {gap : GapF} (hg : GapOk gap) (hT : ∀ f ∈ fs, Told f) (top : List Int) : ∀ c ∈ prn fs gap top, c ≠ 59 := by
  intro c hc
  obtain ⟨t, _, hc⟩ := List.mem_flatMap.1 hc
  unfold lineT at hc
  rcases List.mem_append.1 hc with hc | hc
  · exact no59_txt hg hT _ _ _ c hc
  · rw [List.mem_singleton.1 hc]; decide
/-- The words of a printed text. -/
theorem words_prn {fs : List Fm} {gap : GapF} (hg : GapOk gap) (hT : ∀ f ∈ fs, Told f) (top : List Int) : (pieces (prn fs gap top)).map Prod.snd = top.flatMap (wordsF fs (fs.length + 1)) :=
  (pieces_lexA (no59_prn hg hT top)).trans (lexA_prn hg hT top)
end Go.Proofs.YtmihhebcchpmcaaGreatDoor
/-
  The words of a text are those of the forms that are read of it; and forms hang on the words alone.
-/
namespace Go.Proofs.YtmihhebcchpmcaaGreatDoor
open Go.RowKit Go.Deep Go.MapKept Go.Shelf
def wd (f : Frm) : Txt := if f.k = 1 then [40] else if f.k = 3 then f.s.data.toList else Lib.itoa f.n
def ups (f : Frm) : Nat := if f.k = 1 then 1 else 0
def shuts (n : Nat) : List Txt := List.replicate n [41]
theorem shuts_add (a b : Nat) : shuts a ++ shuts b = shuts (a + b) := by unfold shuts; rw [List.replicate_append_replicate]
/-- Words as forms stand, with as many ends of brackets between as levels fall. -/
def flatW : List Frm → List Nat → Nat → List Txt × Nat
  | f :: fs, d :: lv, cur => (shuts (cur - d) ++ wd f :: (flatW fs lv (d + ups f)).1, (flatW fs lv (d + ups f)).2)
  | _, _, cur => ([], cur)
theorem flatW_append : ∀ (A : List Frm) (la : List Nat) (B : List Frm) (lb : List Nat) (cur : Nat), A.length = la.length → flatW (A ++ B) (la ++ lb) cur = ((flatW A la cur).1 ++ (flatW B lb (flatW A la cur).2).1, (flatW B lb (flatW A la cur).2).2)
  | [], [], B, lb, cur, _ => by simp [flatW]
  | f :: A, d :: la, B, lb, cur, h => by
    simp only [List.length_cons, Nat.add_right_cancel_iff] at h
    simp only [List.cons_append, flatW, flatW_append A la B lb (d + ups f) h, List.append_assoc]
  | [], d :: la, B, lb, cur, h => by simp at h
  | f :: A, [], B, lb, cur, h => by simp at h
def key3 (f : Frm) : Int × ByteArray × Int := (f.k, f.s, f.n)
theorem flatW_same : ∀ (A B : List Frm) (lv : List Nat) (cur : Nat), A.map key3 = B.map key3 → flatW A lv cur = flatW B lv cur
  | [], [], lv, cur, _ => rfl
  | a :: A, b :: B, [], cur, _ => rfl
  | a :: A, b :: B, d :: lv, cur, h => by
    simp only [List.map_cons, List.cons.injEq] at h
    obtain ⟨h1, h2⟩ := h
    unfold key3 at h1
    simp only [Prod.mk.injEq] at h1
    obtain ⟨e1, e2, e3⟩ := h1
    have hw : wd a = wd b := by unfold wd; rw [e1, e2, e3]
    have hu : ups a = ups b := by unfold ups; rw [e1]
    simp only [flatW, hw, hu, flatW_same A B lv (d + ups b) h2]
  | [], b :: B, lv, cur, h => by simp at h
  | a :: A, [], lv, cur, h => by simp at h
theorem key3_add (b n : Nat) (fs : List Frm) : (fs.modify b (addKid n)).map key3 = fs.map key3 := by
  apply List.ext_getElem?
  intro i
  rw [List.getElem?_map, List.getElem?_modify, List.getElem?_map]
  cases fs[i]? with
  | none => rfl
  | some g => by_cases h : b = i <;> simp [h, key3, addKid]
/-- What a token says. -/
def wdT (t : Tok) : Txt := if t.k = 2 then [41] else wd (formOf t)
/-- How tokens read so far stand in what has been read. -/
structure Lev (T : List Tok) (σ : St) (lv : List Nat) : Prop where
  len : lv.length = σ.forms.length
  kid : ∀ (i : Nat) (f : Frm) (c : Nat), σ.forms[i]? = some f → c ∈ f.kids → c < σ.forms.length ∧ lv.getD c 0 = lv.getD i 0 + 1
  top : ∀ t ∈ σ.top, t < σ.forms.length ∧ lv.getD t 0 = 0
  opn : ∀ (j b : Nat), σ.opn[j]? = some b → b < σ.forms.length ∧ lv.getD b 0 = j
  le : σ.opn.length ≤ (flatW σ.forms lv 0).2
  words : T.map wdT = (flatW σ.forms lv 0).1 ++ shuts ((flatW σ.forms lv 0).2 - σ.opn.length)
theorem getD_old {lv : List Nat} {x i : Nat} (h : i < lv.length) : (lv ++ [x]).getD i 0 = lv.getD i 0 := by
  simp [List.getD_eq_getElem?_getD, List.getElem?_append_left h]
theorem getD_new {lv : List Nat} {x : Nat} : (lv ++ [x]).getD lv.length 0 = x := by simp [List.getD_eq_getElem?_getD]
theorem kids_old {fs : List Frm} {b n i : Nat} {g f : Frm} (h : (fs.modify b (addKid n) ++ [g])[i]? = some f) (hg : g.kids = []) {c : Nat} (hc : c ∈ f.kids) : ∃ f0, fs[i]? = some f0 ∧ (c ∈ f0.kids ∨ (i = b ∧ c = n)) := by
  by_cases hi : i < fs.length
  · rw [List.getElem?_append_left (by simpa using hi), List.getElem?_modify] at h
    cases hx : fs[i]? with
    | none => rw [hx] at h; simp at h
    | some f0 =>
      rw [hx] at h
      refine ⟨f0, rfl, ?_⟩
      by_cases hb : b = i
      · simp [hb] at h
        rw [← h] at hc
        simp only [addKid, List.mem_append, List.mem_singleton] at hc
        rcases hc with hc | hc
        · exact .inl hc
        · exact .inr ⟨hb.symm, hc⟩
      · simp [hb] at h
        rw [← h] at hc
        exact .inl hc
  · have hle : fs.length ≤ i := by omega
    rw [List.getElem?_append_right (by simpa using hle)] at h
    have : f = g := by
      cases hj : i - (fs.modify b (addKid n)).length with
      | zero => rw [hj] at h; simpa using h.symm
      | succ j => rw [hj] at h; simp at h
    rw [this, hg] at hc
    cases hc
/-- A form more, in the innermost bracket that is open. -/
theorem lev_add {T : List Tok} {σ : St} {lv : List Nat} (h : Lev T σ lv) {t : Tok} (hk : t.k = 1 ∨ t.k = 3 ∨ t.k = 4) :
    (lv ++ [σ.opn.length]).length = (addF (formOf t) σ).forms.length ∧
    (∀ (i : Nat) (f : Frm) (c : Nat), (addF (formOf t) σ).forms[i]? = some f → c ∈ f.kids → c < (addF (formOf t) σ).forms.length ∧ (lv ++ [σ.opn.length]).getD c 0 = (lv ++ [σ.opn.length]).getD i 0 + 1) ∧
    (∀ p ∈ (addF (formOf t) σ).top, p < (addF (formOf t) σ).forms.length ∧ (lv ++ [σ.opn.length]).getD p 0 = 0) ∧
    (addF (formOf t) σ).opn = σ.opn ∧
    flatW (addF (formOf t) σ).forms (lv ++ [σ.opn.length]) 0 = ((T ++ [t]).map wdT, σ.opn.length + ups (formOf t)) := by
  have hkids : (formOf t).kids = [] := by unfold formOf; split <;> (try rfl); split <;> rfl
  have h2 : t.k ≠ 2 := by omega
  have hwt : wdT t = wd (formOf t) := by unfold wdT; rw [if_neg h2]
  have hfl : ∀ fs : List Frm, fs.map key3 = σ.forms.map key3 → fs.length = σ.forms.length → flatW (fs ++ [formOf t]) (lv ++ [σ.opn.length]) 0 = ((T ++ [t]).map wdT, σ.opn.length + ups (formOf t)) := by
    intro fs hfs hl
    rw [flatW_append fs lv _ _ 0 (by rw [hl, h.len]), flatW_same fs σ.forms lv 0 hfs]
    simp only [flatW, List.map_append, List.map_cons, List.map_nil, h.words, hwt, List.append_assoc]
  unfold addF
  cases hl : σ.opn.getLast? with
  | none =>
    simp only
    refine ⟨by simp [h.len], fun i f c hf hc => ?_, fun p hp => ?_, trivial, hfl σ.forms rfl rfl⟩
    · have hi : i < σ.forms.length := by
        by_cases hi : i < σ.forms.length
        · exact hi
        · rw [List.getElem?_append_right (by omega)] at hf
          cases hj : i - σ.forms.length with
          | zero => rw [hj] at hf; simp at hf; rw [← hf, hkids] at hc; cases hc
          | succ j => rw [hj] at hf; simp at hf
      rw [List.getElem?_append_left hi] at hf
      obtain ⟨h1, h3⟩ := h.kid i f c hf hc
      rw [getD_old (by rw [h.len]; exact h1), getD_old (by rw [h.len]; exact hi), List.length_append]
      exact ⟨by simp; omega, h3⟩
    · rw [List.mem_append, List.mem_singleton] at hp
      rcases hp with hp | hp
      · obtain ⟨h1, h3⟩ := h.top p hp
        rw [getD_old (by rw [h.len]; exact h1), List.length_append]
        exact ⟨by simp; omega, h3⟩
      · have ho : σ.opn = [] := List.getLast?_eq_none_iff.1 hl
        rw [hp, ← h.len, getD_new, List.length_append, ho]
        exact ⟨by simp [h.len], rfl⟩
  | some b =>
    simp only
    have hne : σ.opn ≠ [] := fun e => by rw [e] at hl; simp at hl
    have hb := h.opn (σ.opn.length - 1) b (by rw [← List.getLast?_eq_getElem?]; exact hl)
    have hpos : 0 < σ.opn.length := List.length_pos_iff.2 hne
    have hml : (σ.forms.modify b (addKid σ.forms.length)).length = σ.forms.length := by simp
    refine ⟨by simp [h.len], fun i f c hf hc => ?_, fun p hp => ?_, trivial, hfl _ (key3_add b _ σ.forms) hml⟩
    · obtain ⟨f0, hf0, hcase⟩ := kids_old hf hkids hc
      have hi : i < σ.forms.length := (List.getElem?_eq_some_iff.1 hf0).1
      rcases hcase with hc0 | ⟨hib, hcn⟩
      · obtain ⟨h1, h3⟩ := h.kid i f0 c hf0 hc0
        rw [getD_old (by rw [h.len]; exact h1), getD_old (by rw [h.len]; exact hi), List.length_append, hml]
        exact ⟨by simp; omega, h3⟩
      · have e1 : (lv ++ [σ.opn.length]).getD c 0 = σ.opn.length := by rw [hcn, ← h.len]; exact getD_new
        have e2 : (lv ++ [σ.opn.length]).getD i 0 = lv.getD i 0 := getD_old (by rw [h.len]; exact hi)
        have hb2 := hb.2
        rw [← hib] at hb2
        rw [e1, e2, hb2, hcn, List.length_append, hml]
        exact ⟨by simp, by omega⟩
    · obtain ⟨h1, h3⟩ := h.top p hp
      rw [getD_old (by rw [h.len]; exact h1), List.length_append, hml]
      exact ⟨by simp; omega, h3⟩
theorem lev_step {T : List Tok} {σ σ' : St} {lv : List Nat} {t : Tok} (h : Lev T σ lv) (ht : t.k = 1 ∨ t.k = 2 ∨ t.k = 3 ∨ t.k = 4) (he : step σ t = .ok σ') : ∃ lv', Lev (T ++ [t]) σ' lv' := by
  unfold step at he
  split at he
  · rename_i h2
    split at he
    · cases he
    · rename_i hn
      cases he
      have hpos : 0 < σ.opn.length := List.length_pos_iff.2 hn
      refine ⟨lv, h.len, h.kid, h.top, fun j b hj => ?_, ?_, ?_⟩
      · simp only [List.dropLast_eq_take, List.getElem?_take] at hj
        split at hj
        · exact h.opn j b hj
        · cases hj
      · have := h.le
        simp only [List.length_dropLast]
        omega
      · have hle := h.le
        have hw : wdT t = [41] := by unfold wdT; rw [if_pos h2]
        simp only [List.map_append, List.map_cons, List.map_nil, h.words, hw, List.length_dropLast, List.append_assoc]
        congr 1
        rw [show (flatW σ.forms lv 0).2 - (σ.opn.length - 1) = ((flatW σ.forms lv 0).2 - σ.opn.length) + 1 by omega, ← shuts_add]
        rfl
  · rename_i h2
    split at he
    · rename_i h1
      split at he
      · cases he
      · split at he
        · cases he
        · cases he
          obtain ⟨a1, a2, a3, a4, a5⟩ := lev_add h (t := t) (.inl h1)
          have hu : ups (formOf t) = 1 := by unfold ups formOf; rw [if_pos h1, if_pos rfl]
          have hln : (addF (formOf t) σ).forms.length = σ.forms.length + 1 := addF_len _ _
          refine ⟨lv ++ [σ.opn.length], a1, a2, a3, fun j b hj => ?_, ?_, ?_⟩
          · by_cases hjl : j < σ.opn.length
            · rw [List.getElem?_append_left hjl] at hj
              obtain ⟨b1, b2⟩ := h.opn j b hj
              show b < (addF (formOf t) σ).forms.length ∧ _
              rw [getD_old (by rw [h.len]; exact b1), hln]
              exact ⟨by omega, b2⟩
            · rw [List.getElem?_append_right (by omega)] at hj
              cases hq : j - σ.opn.length with
              | zero =>
                rw [hq] at hj
                simp at hj
                show b < (addF (formOf t) σ).forms.length ∧ _
                rw [← hj, hln, ← h.len, getD_new]
                exact ⟨by omega, by omega⟩
              | succ q => rw [hq] at hj; simp at hj
          · show (σ.opn ++ [σ.forms.length]).length ≤ (flatW (addF (formOf t) σ).forms (lv ++ [σ.opn.length]) 0).2
            rw [a5, hu]; simp
          · show _ = (flatW (addF (formOf t) σ).forms (lv ++ [σ.opn.length]) 0).1 ++ shuts ((flatW (addF (formOf t) σ).forms (lv ++ [σ.opn.length]) 0).2 - (σ.opn ++ [σ.forms.length]).length)
            rw [a5, hu]
            simp [shuts]
    · rename_i h1
      split at he
      · rename_i h34
        split at he
        · cases he
        · cases he
          obtain ⟨a1, a2, a3, a4, a5⟩ := lev_add h (t := t) (.inr h34)
          have hu : ups (formOf t) = 0 := by unfold ups formOf; rw [if_neg h1]; split <;> simp
          have hln : (addF (formOf t) σ).forms.length = σ.forms.length + 1 := addF_len _ _
          refine ⟨lv ++ [σ.opn.length], a1, a2, a3, fun j b hj => ?_, ?_, ?_⟩
          · rw [a4] at hj
            obtain ⟨b1, b2⟩ := h.opn j b hj
            rw [getD_old (by rw [h.len]; exact b1), hln]
            exact ⟨by omega, b2⟩
          · rw [a5, a4, hu]; simp
          · rw [a5, a4, hu]; simp [shuts]
      · omega
theorem lev_steps : ∀ (l T : List Tok) (σ σ' : St) (lv : List Nat), Lev T σ lv → (∀ t ∈ l, t.k = 1 ∨ t.k = 2 ∨ t.k = 3 ∨ t.k = 4) → steps l σ = .ok σ' → ∃ lv', Lev (T ++ l) σ' lv'
  | [], T, σ, σ', lv, h, _, he => by unfold steps at he; cases he; rw [List.append_nil]; exact ⟨lv, h⟩
  | t :: r, T, σ, σ', lv, h, ht, he => by
    unfold steps at he
    cases hs : step σ t with
    | error e => rw [hs] at he; cases he
    | ok σ1 =>
      rw [hs] at he
      obtain ⟨lv1, h1⟩ := lev_step h (ht t (by simp)) hs
      have := lev_steps r (T ++ [t]) σ1 σ' lv1 h1 (fun x hx => ht x (by simp [hx])) he
      rwa [List.append_assoc] at this
theorem lev_parse {l : List Tok} {σ : St} (ht : ∀ t ∈ l, t.k = 1 ∨ t.k = 2 ∨ t.k = 3 ∨ t.k = 4) (h : parse l = .ok σ) : ∃ lv, Lev l σ lv ∧ σ.opn = [] := by
  unfold parse at h
  cases hs : steps l begin0 with
  | error e => rw [hs] at h; cases h
  | ok σ1 =>
    rw [hs] at h
    simp only at h
    unfold finish at h
    split at h
    · rename_i hn
      cases h
      obtain ⟨lv, hl⟩ := lev_steps l [] begin0 _ [] ⟨rfl, by simp [begin0], by simp [begin0], by simp [begin0], by simp [begin0], by simp [begin0, flatW, shuts]⟩ ht hs
      exact ⟨lv, by simpa using hl, List.getLast?_eq_none_iff.1 hn⟩
    · cases h
end Go.Proofs.YtmihhebcchpmcaaGreatDoor
/-
  What is read of a printed text is what was printed, but for places.
-/
namespace Go.Proofs.YtmihhebcchpmcaaGreatDoor
open Go.RowKit Go.Deep Go.MapKept Go.Shelf
def sl {α : Type} (l : List α) (lo hi : Nat) : List α := (l.drop lo).take (hi - lo)
theorem sl_nil {α : Type} (l : List α) (lo : Nat) : sl l lo lo = [] := by simp [sl]
theorem sl_cons {α : Type} {l : List α} {lo hi : Nat} {x : α} (h : l[lo]? = some x) (hh : lo < hi) : sl l lo hi = x :: sl l (lo + 1) hi := by
  unfold sl
  have hlt := (List.getElem?_eq_some_iff.1 h).1
  rw [List.drop_eq_getElem_cons hlt, show hi - lo = (hi - (lo + 1)) + 1 by omega, List.take_succ_cons]
  congr 1
  rw [List.getElem?_eq_getElem hlt] at h
  exact Option.some.inj h
theorem sl_join {α : Type} (l : List α) {lo mid hi : Nat} (h1 : lo ≤ mid) (h2 : mid ≤ hi) : sl l lo hi = sl l lo mid ++ sl l mid hi := by
  unfold sl
  rw [show hi - lo = (mid - lo) + (hi - mid) by omega, List.take_add, List.drop_drop, show lo + (mid - lo) = mid by omega]
theorem sl_len {α : Type} {l : List α} {lo hi : Nat} (h : hi ≤ l.length) : (sl l lo hi).length = hi - lo := by
  unfold sl
  rw [List.length_take, List.length_drop]
  omega
theorem shuts_succ (n : Nat) : shuts (n + 1) = shuts n ++ [[41]] := by rw [← shuts_add]; rfl
/-- Words as they stand are words bracket by bracket. -/
theorem flat_seg {fs : List Frm} {lv : List Nat} (hl : lv.length = fs.length) (hT : ∀ f ∈ fs, Told (toFm f)) (hkw : ∀ f ∈ fs, f.k ≠ 1 → f.kids = []) (hkid : ∀ (i : Nat) (f : Frm) (c : Nat), fs[i]? = some f → c ∈ f.kids → lv.getD c 0 = lv.getD i 0 + 1) {lo hi : Nat} {l : List Nat} (h : Seg (Kof fs) lo hi l) :
    hi ≤ fs.length → ∀ (m d cur : Nat), hi - lo < m → d ≤ cur → (∀ p ∈ l, lv.getD p 0 = d) →
      (flatW (sl fs lo hi) (sl lv lo hi) cur).1 ++ shuts ((flatW (sl fs lo hi) (sl lv lo hi) cur).2 - d) = shuts (cur - d) ++ (castI l).flatMap (wordsF (fs.map toFm) m) ∧ d ≤ (flatW (sl fs lo hi) (sl lv lo hi) cur).2 := by
  induction h with
  | nil lo =>
    intro _ m d cur _ hd _
    rw [sl_nil, sl_nil]
    simp [flatW, castI, hd]
  | @cons lo mid hi r h1 h2 ih1 ih2 =>
    intro hh m d cur hm hd hlev
    have l1 := h1.le
    have l2 := h2.le
    obtain ⟨m, rfl⟩ : ∃ k, m = k + 1 := ⟨m - 1, by omega⟩
    have hlt : lo < fs.length := by omega
    have hf : fs[lo]? = some fs[lo] := List.getElem?_eq_getElem hlt
    have hfm : (fs.map toFm)[lo]? = some (toFm fs[lo]) := by simp [hf]
    have hld : lv[lo]? = some d := by
      have hlt2 : lo < lv.length := by omega
      have e := hlev lo (by simp)
      rw [List.getD_eq_getElem?_getD, List.getElem?_eq_getElem hlt2] at e
      rw [List.getElem?_eq_getElem hlt2]
      simpa using e
    have hK : Kof fs lo = fs[lo].kids := by unfold Kof; rw [hf]
    have hmem : fs[lo] ∈ fs := List.getElem_mem hlt
    have hrest : ∀ p ∈ r, lv.getD p 0 = d := fun p hp => hlev p (by simp [hp])
    have hnl : (sl fs (lo + 1) mid).length = (sl lv (lo + 1) mid).length := by rw [sl_len (by omega), sl_len (by omega)]
    rw [sl_cons hf (by omega), sl_cons hld (by omega), sl_join fs l1 l2, sl_join lv l1 l2]
    simp only [flatW]
    rw [flatW_append _ _ _ _ _ hnl]
    obtain ⟨f0, hf0⟩ : ∃ f0, fs[lo] = f0 := ⟨_, rfl⟩
    rw [hf0] at hfm hK hmem hf ⊢
    by_cases hk1 : f0.k = 1
    · have hu : ups f0 = 1 := by unfold ups; rw [if_pos hk1]
      have hwd : wd f0 = [40] := by unfold wd; rw [if_pos hk1]
      have hkl : ∀ p ∈ Kof fs lo, lv.getD p 0 = d + 1 := fun p hp => by
        rw [hK] at hp
        rw [hkid lo f0 p hf hp, hlev lo (by simp)]
      obtain ⟨i1, i1'⟩ := ih1 (by omega) m (d + 1) (d + 1) (by omega) (Nat.le_refl _) hkl
      rw [hu]
      obtain ⟨A, hA⟩ : ∃ A, flatW (sl fs (lo + 1) mid) (sl lv (lo + 1) mid) (d + 1) = A := ⟨_, rfl⟩
      rw [hA] at i1 i1' ⊢
      obtain ⟨i2, i2'⟩ := ih2 hh (m + 1) d A.2 (by omega) (by omega) hrest
      refine ⟨?_, i2'⟩
      have hw : wordsF (fs.map toFm) (m + 1) (lo : Int) = [40] :: ((castI f0.kids).flatMap (wordsF (fs.map toFm) m) ++ [[41]]) := by
        unfold wordsF
        rw [show ((lo : Int)).toNat = lo by omega, hfm]
        simp only
        rw [if_pos (show (toFm f0).k = 1 from hk1)]
        rfl
      rw [hwd]
      simp only [List.append_assoc, List.cons_append]
      rw [i2]
      simp only [castI, List.map_cons, List.flatMap_cons] at hw ⊢
      rw [hw]
      rw [show A.2 - d = (A.2 - (d + 1)) + 1 by omega, shuts_succ]
      simp only [List.cons_append, List.append_assoc]
      congr 2
      rw [← List.append_assoc A.1, i1, hK]
      simp [shuts, castI]
    · have hu : ups f0 = 0 := by unfold ups; rw [if_neg hk1]
      have hkn : f0.kids = [] := hkw f0 hmem hk1
      have hmid : mid = lo + 1 := by
        rw [hK, hkn] at h1
        cases h1
        rfl
      subst hmid
      rw [sl_nil, sl_nil, hu]
      simp only [flatW, List.nil_append, Nat.add_zero]
      obtain ⟨i2, i2'⟩ := ih2 hh (m + 1) d d (by omega) (Nat.le_refl _) hrest
      refine ⟨?_, i2'⟩
      have hw : wordsF (fs.map toFm) (m + 1) (lo : Int) = [wd f0] := by
        unfold wordsF
        rw [show ((lo : Int)).toNat = lo by omega, hfm]
        simp only
        rw [if_neg (show ¬ (toFm f0).k = 1 from hk1)]
        unfold wd
        rw [if_neg hk1]
        rcases hT f0 hmem with t1 | ⟨t3, _⟩ | ⟨t4, _⟩
        · exact absurd t1 hk1
        · have : f0.k = 3 := t3
          rw [if_pos (show (toFm f0).k = 3 from t3), if_pos this]
          rfl
        · have : f0.k = 4 := t4
          rw [if_neg (show ¬ (toFm f0).k = 3 by simp only [toFm]; omega), if_pos (show (toFm f0).k = 4 from t4), if_neg (by omega)]
          rfl
      simp only [List.append_assoc, List.cons_append]
      rw [i2]
      simp only [castI, List.map_cons, List.flatMap_cons] at hw ⊢
      rw [hw]
      simp [shuts]
theorem tok_kinds {q : Piece} (h : kindP q.2 ≠ 0) : (tok q).k = 1 ∨ (tok q).k = 2 ∨ (tok q).k = 3 ∨ (tok q).k = 4 := by
  show kindP q.2 = 1 ∨ kindP q.2 = 2 ∨ kindP q.2 = 3 ∨ kindP q.2 = 4
  unfold kindP at h ⊢
  split
  · exact .inl rfl
  · split
    · exact .inr (.inl rfl)
    · rename_i h1 h2
      rw [if_neg h1, if_neg h2] at h
      rcases kind_cases (bytesOf q.2) with e | e | e
      · exact absurd e h
      · exact .inr (.inr (.inl e))
      · exact .inr (.inr (.inr e))
/-- A token of a text says its word. -/
theorem wd_tok {q : Piece} (h : kindP q.2 ≠ 0) : wdT (tok q) = q.2 := by
  have hk := tok_kinds h
  have hkk : (tok q).k = kindP q.2 := rfl
  unfold wdT
  by_cases h2 : (tok q).k = 2
  · rw [if_pos h2]
    rw [hkk] at h2
    unfold kindP at h2
    split at h2
    · cases h2
    · split at h2
      · rename_i e; exact e.symm
      · rcases kind_cases (bytesOf q.2) with e | e | e <;> rw [e] at h2 <;> cases h2
  · rw [if_neg h2]
    unfold formOf
    by_cases h1 : (tok q).k = 1
    · rw [if_pos h1]
      rw [hkk] at h1
      unfold kindP at h1
      split at h1
      · rename_i e; rw [e]; rfl
      · split at h1
        · cases h1
        · rcases kind_cases (bytesOf q.2) with e | e | e <;> rw [e] at h1 <;> cases h1
    · rw [if_neg h1]
      by_cases h3 : (tok q).k = 3
      · rw [if_pos h3]
        unfold wd
        rw [if_neg (by simp), if_pos rfl]
        simp [tok, bytesOf]
      · rw [if_neg h3]
        unfold wd
        rw [if_neg (by simp), if_neg (by simp)]
        have h4 : (tok q).k = 4 := by omega
        rw [hkk] at h4
        show Lib.itoa (numP q.2) = q.2
        unfold numP
        rw [if_pos h4]
        unfold kindP at h4
        split at h4
        · cases h4
        · split at h4
          · cases h4
          · unfold kindW at h4
            split at h4
            · rename_i hn
              have := (numV_in hn).2
              rw [← this]
              simp [bytesOf]
            · split at h4 <;> cases h4
/-- The words of a text are those of what is read of it. -/
theorem words_read {s : ByteArray} {σ : St} {T : List Tok} {lv0 : List Nat} (hr : Rd T σ lv0) (hp : parse ((pieces s.data.toList).map tok) = .ok σ) (hk : ∀ q ∈ pieces s.data.toList, kindP q.2 ≠ 0) : (pieces s.data.toList).map Prod.snd = (castI σ.top).flatMap (wordsF (σ.forms.map toFm) (σ.forms.length + 1)) := by
  obtain ⟨lv, hl, ho⟩ := lev_parse (fun t ht => by obtain ⟨q, hq, rfl⟩ := List.mem_map.1 ht; exact tok_kinds (hk q hq)) hp
  have hw := hl.words
  rw [ho] at hw
  have e1 : ((pieces s.data.toList).map tok).map wdT = (pieces s.data.toList).map Prod.snd := by
    rw [List.map_map]
    exact List.map_congr_left fun q hq => wd_tok (hk q hq)
  rw [e1] at hw
  have hfs := flat_seg hl.len hr.told (fun f hf h1 => by
      obtain ⟨i, hi⟩ := List.getElem?_of_mem hf
      rcases (hr.shape.form i f hi).is with ⟨a, _⟩ | ⟨_, _, a⟩ | ⟨_, _, a⟩
      · exact absurd a h1
      · exact a
      · exact a) (fun i f c hf hc => (hl.kid i f c hf hc).2) hr.shape.seg (Nat.le_refl _) (σ.forms.length + 1) 0 0 (by omega) (Nat.le_refl _) (fun p hp => (hl.top p hp).2)
  have e2 : sl σ.forms 0 σ.forms.length = σ.forms := by simp [sl]
  have e3 : sl lv 0 σ.forms.length = lv := by rw [← hl.len]; simp [sl]
  rw [e2, e3] at hfs
  rw [hw]
  have := hfs.1
  simpa [shuts] using this
def key4 (f : Frm) : Int × ByteArray × Int × List Nat := (f.k, f.s, f.n, f.kids)
/-- The same but for places. -/
structure Alike (σ τ : St) : Prop where
  forms : σ.forms.map key4 = τ.forms.map key4
  top : σ.top = τ.top
  opn : σ.opn = τ.opn
theorem Alike.len {σ τ : St} (h : Alike σ τ) : σ.forms.length = τ.forms.length := by have := congrArg List.length h.forms; simpa using this
def keyT (t : Tok) : Int × ByteArray × Int := (t.k, t.s, t.n)
theorem form_alike {t u : Tok} (h : keyT t = keyT u) : key4 (formOf t) = key4 (formOf u) := by
  unfold keyT at h
  simp only [Prod.mk.injEq] at h
  obtain ⟨h1, h2, h3⟩ := h
  unfold formOf
  rw [h1]
  split
  · rfl
  · split
    · simp [key4, h2]
    · simp [key4, h3]
theorem key4_mod (b n : Nat) {A B : List Frm} (h : A.map key4 = B.map key4) : (A.modify b (addKid n)).map key4 = (B.modify b (addKid n)).map key4 := by
  apply List.ext_getElem?
  intro i
  have hi : (A[i]?).map key4 = (B[i]?).map key4 := by rw [← List.getElem?_map, ← List.getElem?_map, h]
  rw [List.getElem?_map, List.getElem?_modify, List.getElem?_map, List.getElem?_modify]
  cases ha : A[i]? with
  | none =>
    rw [ha] at hi
    cases hb : B[i]? with
    | none => rfl
    | some y => rw [hb] at hi; simp at hi
  | some x =>
    rw [ha] at hi
    cases hb : B[i]? with
    | none => rw [hb] at hi; simp at hi
    | some y =>
      rw [hb] at hi
      simp only [Option.map_some, Option.some.injEq] at hi
      by_cases hbi : b = i
      · simp [hbi, key4, addKid] at hi ⊢
        exact ⟨hi.1, hi.2.1, hi.2.2.1, hi.2.2.2⟩
      · simp [hbi, hi]
theorem add_alike {σ τ : St} {f g : Frm} (h : Alike σ τ) (hf : key4 f = key4 g) : Alike (addF f σ) (addF g τ) := by
  unfold addF
  rw [h.opn]
  split
  · exact ⟨by simp [h.forms, hf], by simp [h.top, h.len], rfl⟩
  · rename_i b _
    exact ⟨by simp only [List.map_append, List.map_cons, List.map_nil, hf, h.len, key4_mod b _ h.forms], h.top, rfl⟩
theorem step_alike {σ τ σ' : St} {t u : Tok} (h : Alike σ τ) (hk : keyT t = keyT u) (he : step σ t = .ok σ') : ∃ τ', step τ u = .ok τ' ∧ Alike σ' τ' := by
  have hkk : t.k = u.k := by unfold keyT at hk; simp only [Prod.mk.injEq] at hk; exact hk.1
  have hf := form_alike hk
  have ha := add_alike h hf
  have hl := h.len
  unfold step at he ⊢
  rw [hkk, h.opn, hl] at he
  split at he
  · rename_i h2
    rw [if_pos h2]
    split at he
    · cases he
    · rename_i hn
      rw [if_neg hn]
      cases he
      exact ⟨_, rfl, h.forms, h.top, rfl⟩
  · rename_i h2
    rw [if_neg h2]
    split at he
    · rename_i h1
      rw [if_pos h1]
      split at he
      · cases he
      · rename_i h12
        rw [if_neg h12]
        split at he
        · cases he
        · rename_i h4
          rw [if_neg h4]
          cases he
          exact ⟨_, rfl, ha.forms, ha.top, rfl⟩
    · rename_i h1
      rw [if_neg h1]
      split at he
      · rename_i h34
        rw [if_pos h34]
        split at he
        · cases he
        · rename_i h4
          rw [if_neg h4]
          cases he
          exact ⟨_, rfl, ha⟩
      · rename_i h34
        rw [if_neg h34]
        cases he
        exact ⟨_, rfl, h⟩
theorem steps_alike : ∀ (l m : List Tok) (σ τ σ' : St), Alike σ τ → l.map keyT = m.map keyT → steps l σ = .ok σ' → ∃ τ', steps m τ = .ok τ' ∧ Alike σ' τ'
  | [], [], σ, τ, σ', h, _, he => by unfold steps at he; cases he; exact ⟨τ, rfl, h⟩
  | t :: l, u :: m, σ, τ, σ', h, hk, he => by
    simp only [List.map_cons, List.cons.injEq] at hk
    unfold steps at he
    cases hs : step σ t with
    | error e => rw [hs] at he; cases he
    | ok σ1 =>
      rw [hs] at he
      obtain ⟨τ1, h1, h2⟩ := step_alike h hk.1 hs
      obtain ⟨τ', h3, h4⟩ := steps_alike l m σ1 τ1 σ' h2 hk.2 he
      exact ⟨τ', by unfold steps; rw [h1]; exact h3, h4⟩
  | [], u :: m, σ, τ, σ', _, hk, _ => by simp at hk
  | t :: l, [], σ, τ, σ', _, hk, _ => by simp at hk
theorem parse_alike {l m : List Tok} {σ : St} (hk : l.map keyT = m.map keyT) (h : parse l = .ok σ) : ∃ τ, parse m = .ok τ ∧ Alike σ τ := by
  unfold parse at h ⊢
  cases hs : steps l begin0 with
  | error e => rw [hs] at h; cases h
  | ok σ1 =>
    rw [hs] at h
    simp only at h
    obtain ⟨τ1, h1, h2⟩ := steps_alike l m begin0 begin0 σ1 ⟨rfl, rfl, rfl⟩ hk hs
    rw [h1]
    simp only
    unfold finish at h ⊢
    rw [h2.opn] at h
    split at h
    · rename_i hn
      cases h
      exact ⟨τ1, rfl, h2⟩
    · cases h
theorem bad_ok : ∀ (l : List Piece) (c : Nat), (∀ q ∈ l, kindP q.2 ≠ 0) → c + l.length ≤ 600 → bad c l = none
  | [], _, _, _ => rfl
  | q :: r, c, h, hl => by
    simp only [List.length_cons] at hl
    unfold bad
    rw [if_neg (h q (by simp)), if_neg (by omega)]
    exact bad_ok r (c + 1) (fun x hx => h x (by simp [hx])) (by omega)
theorem read_parts {s : ByteArray} {σ : St} (h : readR s = some σ) : s.size ≤ 3000 ∧ (lexRes s).1 = (pieces s.data.toList).map tok ∧ (∀ q ∈ pieces s.data.toList, kindP q.2 ≠ 0) ∧ (pieces s.data.toList).length ≤ 600 ∧ parse ((pieces s.data.toList).map tok) = .ok σ := by
  unfold readR at h
  split at h
  · rename_i h0
    split at h
    · rename_i σ' hp
      cases h
      have hsz : ¬ 3000 < s.size := fun hh => by
        unfold lexRes at h0
        rw [if_pos hh] at h0
        simp at h0
      cases hb : bad 0 (pieces s.data.toList) with
      | some pe =>
        exfalso
        have hk : ∀ (l : List Piece) (c : Nat) (p : Int × Int), bad c l = some p → p.2 = 8 ∨ p.2 = 4 := by
          intro l
          induction l with
          | nil => intro c p e; simp [bad] at e
          | cons q r ih =>
            intro c p e
            unfold bad at e
            split at e
            · cases e; exact .inl rfl
            · split at e
              · cases e; exact .inr rfl
              · exact ih _ _ e
        unfold lexRes at h0
        rw [if_neg hsz, hb] at h0
        have := hk _ _ _ hb
        simp only at h0
        omega
      | none =>
        obtain ⟨b1, b2⟩ := bad_none 0 _ (by omega) hb
        have e1 : (lexRes s).1 = (pieces s.data.toList).map tok := by unfold lexRes; rw [if_neg hsz, hb]
        rw [e1] at hp
        exact ⟨by omega, e1, b2, by omega, hp⟩
    · cases h
  · cases h
/-- What is read of a printed text is what was printed, but for places. -/
theorem read_back {s : ByteArray} {σ : St} {T : List Tok} {lv : List Nat} (hr : Rd T σ lv) (h : readR s = some σ) {gap : GapF} (hg : GapOk gap) (hl : (prn (σ.forms.map toFm) gap (castI σ.top)).length ≤ 3000) :
    ∃ τ, readR ⟨(prn (σ.forms.map toFm) gap (castI σ.top)).toArray⟩ = some τ ∧ Alike σ τ := by
  obtain ⟨_, _, hk, hn, hp⟩ := read_parts h
  have hw := words_read hr hp hk
  have hw2 := words_prn hg (fs := σ.forms.map toFm) (fun f hf => by obtain ⟨g, hg, rfl⟩ := List.mem_map.1 hf; exact hr.told g hg) (castI σ.top)
  rw [List.length_map, ← hw] at hw2
  obtain ⟨P, hP⟩ : ∃ P, prn (σ.forms.map toFm) gap (castI σ.top) = P := ⟨_, rfl⟩
  rw [hP] at hw2 hl ⊢
  have hk2 : ∀ q ∈ pieces P, kindP q.2 ≠ 0 := fun q hq => by
    have : q.2 ∈ (pieces s.data.toList).map Prod.snd := by rw [← hw2]; exact List.mem_map_of_mem hq
    obtain ⟨q', hq', e⟩ := List.mem_map.1 this
    rw [← e]
    exact hk q' hq'
  have hn2 : (pieces P).length ≤ 600 := by have := congrArg List.length hw2; simp at this; omega
  have hkey : ((pieces s.data.toList).map tok).map keyT = ((pieces P).map tok).map keyT := by
    have e : ∀ l : List Piece, (l.map tok).map keyT = (l.map Prod.snd).map fun w => (kindP w, bytesOf w, numP w) := fun l => by rw [List.map_map, List.map_map]; rfl
    rw [e, e, hw2]
  obtain ⟨τ, hτ, ha⟩ := parse_alike hkey hp
  refine ⟨τ, ?_, ha⟩
  have hd : (⟨P.toArray⟩ : ByteArray).data.toList = P := by simp
  have hsz : ¬ 3000 < (⟨P.toArray⟩ : ByteArray).size := by
    show ¬ 3000 < P.toArray.size
    simp; omega
  have e1 : lexRes ⟨P.toArray⟩ = ((pieces P).map tok, 0, 0) := by
    unfold lexRes
    rw [if_neg hsz, hd, bad_ok (pieces P) 0 hk2 (by omega)]
  unfold readR
  rw [e1]
  simp only [if_true, hτ]
end Go.Proofs.YtmihhebcchpmcaaGreatDoor
/-
  Words tell forms: lists of forms that are right and have the same words are the same.
-/
namespace Go.Proofs.YtmihhebcchpmcaaGreatDoor
open Go.RowKit Go.Deep Go.MapKept Go.Shelf
def Ends (r : List Txt) : Prop := r = [] ∨ ∃ q, r = [41] :: q
theorem itoa_same {a b : Int} (ha : In64 a) (hb : In64 b) (h : Lib.itoa a = Lib.itoa b) : a = b := by
  have p1 := parse_itoa a ha.1 ha.2
  rw [h, parse_itoa b hb.1 hb.2] at p1
  exact (Lib.NumEnd.ok.inj p1).symm
/-- What a form's word tells: what it is. -/
theorem wd_cases {f : Frm} (h : Told (toFm f)) : (f.k = 1 ∧ wd f = [40]) ∨ (f.k ≠ 1 ∧ (∀ c ∈ wd f, plain c) ∧ wd f ≠ []) := by
  rcases h with h1 | ⟨h3, hk⟩ | ⟨h4, hn⟩
  · have h1' : f.k = 1 := h1
    exact .inl ⟨h1', by unfold wd; rw [if_pos h1']⟩
  · have h3' : f.k = 3 := h3
    obtain ⟨p1, p2, _⟩ := word_plain hk
    have e : wd f = f.s.data.toList := by unfold wd; rw [if_neg (by omega), if_pos h3']
    rw [e]
    exact .inr ⟨by omega, p1, p2⟩
  · have h4' : f.k = 4 := h4
    obtain ⟨p1, p2⟩ := itoa_plain f.n
    have e : wd f = Lib.itoa f.n := by unfold wd; rw [if_neg (by omega), if_neg (by omega)]
    rw [e]
    exact .inr ⟨by omega, p1, p2⟩
theorem wd_ne {f : Frm} (h : Told (toFm f)) : wd f ≠ [41] := by
  rcases wd_cases h with ⟨_, e⟩ | ⟨_, p, _⟩
  · rw [e]; decide
  · intro e
    rw [e] at p
    have := (p 41 (by simp)).2.1
    exact absurd this (by decide)
theorem wd_open {f g : Frm} (hf : Told (toFm f)) (hg : Told (toFm g)) (h : wd f = wd g) (h1 : f.k = 1) : g.k = 1 := by
  rcases wd_cases hf with ⟨_, e⟩ | ⟨n, _⟩
  · rcases wd_cases hg with ⟨e1, _⟩ | ⟨_, p, _⟩
    · exact e1
    · rw [← h, e] at p
      exact absurd (p 40 (by simp)).2.1 (by decide)
  · exact absurd h1 n
theorem wd_kind {f g : Frm} (hf : Told (toFm f)) (hg : Told (toFm g)) (h : wd f = wd g) : f.k = g.k ∧ (f.k = 3 → f.s.data.toList = g.s.data.toList) ∧ (f.k = 4 → f.n = g.n) := by
  by_cases h1 : f.k = 1
  · have := wd_open hf hg h h1
    exact ⟨by omega, fun e => by omega, fun e => by omega⟩
  have g1 : ¬ g.k = 1 := fun e => h1 (wd_open hg hf h.symm e)
  have num : ∀ {s : ByteArray} {n : Int}, kindW s = 3 → In64 n → s.data.toList = Lib.itoa n → False := fun {s n} hk hn e => by
    unfold kindW at hk
    rw [if_pos ⟨n, hn, e⟩] at hk
    exact absurd hk (by decide)
  have ef : wd f = if f.k = 3 then f.s.data.toList else Lib.itoa f.n := by unfold wd; rw [if_neg h1]
  have eg : wd g = if g.k = 3 then g.s.data.toList else Lib.itoa g.n := by unfold wd; rw [if_neg g1]
  rcases hf with a1 | ⟨a3, ak⟩ | ⟨a4, an⟩
  · exact absurd a1 h1
  · have a3' : f.k = 3 := a3
    rw [if_pos a3'] at ef
    rcases hg with b1 | ⟨b3, bk⟩ | ⟨b4, bn⟩
    · exact absurd b1 g1
    · have b3' : g.k = 3 := b3
      rw [if_pos b3'] at eg
      exact ⟨by omega, fun _ => by rw [← ef, ← eg, h], fun e => by omega⟩
    · have b4' : g.k = 4 := b4
      rw [if_neg (by omega)] at eg
      exact absurd (num ak bn (by show f.s.data.toList = Lib.itoa g.n; rw [← ef, ← eg, h])) (fun h => h)
  · have a4' : f.k = 4 := a4
    rw [if_neg (by omega)] at ef
    rcases hg with b1 | ⟨b3, bk⟩ | ⟨b4, bn⟩
    · exact absurd b1 g1
    · have b3' : g.k = 3 := b3
      rw [if_pos b3'] at eg
      exact absurd (num bk an (by show g.s.data.toList = Lib.itoa f.n; rw [← ef, ← eg, h])) (fun h => h)
    · have b4' : g.k = 4 := b4
      rw [if_neg (by omega)] at eg
      exact ⟨by omega, fun e => by omega, fun _ => itoa_same an bn (by rw [← ef, ← eg, h])⟩
theorem words_at {fs : List Frm} {i : Nat} {f : Frm} (m : Nat) (hf : fs[i]? = some f) (hT : Told (toFm f)) : wordsF (fs.map toFm) (m + 1) (i : Int) = wd f :: (if f.k = 1 then (castI f.kids).flatMap (wordsF (fs.map toFm) m) ++ [[41]] else []) := by
  have hfm : (fs.map toFm)[i]? = some (toFm f) := by simp [hf]
  unfold wordsF
  rw [show ((i : Int)).toNat = i by omega, hfm]
  simp only
  by_cases h1 : f.k = 1
  · rw [if_pos (show (toFm f).k = 1 from h1), if_pos h1]
    unfold wd
    rw [if_pos h1]
    rfl
  · rw [if_neg (show ¬ (toFm f).k = 1 from h1), if_neg h1]
    unfold wd
    rw [if_neg h1]
    rcases hT with t1 | ⟨t3, _⟩ | ⟨t4, _⟩
    · exact absurd t1 h1
    · have : f.k = 3 := t3
      rw [if_pos (show (toFm f).k = 3 from t3), if_pos this]
      rfl
    · have : f.k = 4 := t4
      rw [if_neg (show ¬ (toFm f).k = 3 by simp only [toFm]; omega), if_pos (show (toFm f).k = 4 from t4), if_neg (by omega)]
      rfl
def kfw (f : Frm) : Int × Txt × List Nat := (f.k, wd f, f.kids)
theorem words_inj {fs gs : List Frm} (hT : ∀ f ∈ fs, Told (toFm f)) (hT' : ∀ f ∈ gs, Told (toFm f)) (hkw : ∀ f ∈ fs, f.k ≠ 1 → f.kids = []) (hkw' : ∀ f ∈ gs, f.k ≠ 1 → f.kids = []) {lo hi : Nat} {l : List Nat} (h : Seg (Kof fs) lo hi l) :
    hi ≤ fs.length → ∀ (hi' : Nat) (l' : List Nat) (m m' : Nat) (r r' : List Txt), Seg (Kof gs) lo hi' l' → hi' ≤ gs.length → hi - lo < m → hi' - lo < m' → Ends r → Ends r' →
      (castI l).flatMap (wordsF (fs.map toFm) m) ++ r = (castI l').flatMap (wordsF (gs.map toFm) m') ++ r' → hi = hi' ∧ l = l' ∧ r = r' ∧ ∀ i, lo ≤ i → i < hi → (fs[i]?).map kfw = (gs[i]?).map kfw := by
  induction h with
  | nil lo =>
    intro _ hi' l' m m' r r' h' hh' _ hm' hr hr' e
    cases h' with
    | nil => exact ⟨rfl, rfl, by simpa [castI] using e, fun i a b => by omega⟩
    | @cons _ mid' _ q' g1 g2 =>
      exfalso
      have l1 := g1.le
      have l2 := g2.le
      obtain ⟨m', rfl⟩ : ∃ k, m' = k + 1 := ⟨m' - 1, by omega⟩
      have hlt : lo < gs.length := by omega
      have hg : gs[lo]? = some gs[lo] := List.getElem?_eq_getElem hlt
      have ht := hT' _ (List.getElem_mem hlt)
      simp only [castI, List.map_nil, List.flatMap_nil, List.nil_append, List.map_cons, List.flatMap_cons, List.append_assoc] at e
      rw [words_at m' hg ht] at e
      rcases hr with rfl | ⟨q, rfl⟩
      · simp at e
      · simp only [List.cons_append, List.cons.injEq] at e
        exact wd_ne ht e.1.symm
  | @cons lo mid hi q h1 h2 ih1 ih2 =>
    intro hh hi' l' m m' r r' h' hh' hm hm' hr hr' e
    have l1 := h1.le
    have l2 := h2.le
    obtain ⟨m, rfl⟩ : ∃ k, m = k + 1 := ⟨m - 1, by omega⟩
    have hlt : lo < fs.length := by omega
    have hf : fs[lo]? = some fs[lo] := List.getElem?_eq_getElem hlt
    have ht := hT _ (List.getElem_mem hlt)
    have hk := hkw _ (List.getElem_mem hlt)
    have hK : Kof fs lo = fs[lo].kids := by unfold Kof; rw [hf]
    obtain ⟨f0, hf0⟩ : ∃ f0, fs[lo] = f0 := ⟨_, rfl⟩
    rw [hf0] at hf ht hk hK
    have ef : (castI (lo :: q)).flatMap (wordsF (fs.map toFm) (m + 1)) ++ r = wd f0 :: ((if f0.k = 1 then (castI f0.kids).flatMap (wordsF (fs.map toFm) m) ++ [[41]] else []) ++ ((castI q).flatMap (wordsF (fs.map toFm) (m + 1)) ++ r)) := by
      simp only [castI, List.map_cons, List.flatMap_cons, List.append_assoc]
      rw [words_at m hf ht]
      simp only [castI, List.cons_append]
    rw [ef] at e
    cases h' with
    | nil =>
      exfalso
      simp only [castI, List.map_nil, List.flatMap_nil, List.nil_append] at e
      rcases hr' with rfl | ⟨q, rfl⟩
      · cases e
      · simp only [List.cons.injEq] at e
        exact wd_ne ht e.1
    | @cons _ mid' _ q' g1 g2 =>
      have l1' := g1.le
      have l2' := g2.le
      obtain ⟨m', rfl⟩ : ∃ k, m' = k + 1 := ⟨m' - 1, by omega⟩
      have hlt' : lo < gs.length := by omega
      have hg : gs[lo]? = some gs[lo] := List.getElem?_eq_getElem hlt'
      have ht' := hT' _ (List.getElem_mem hlt')
      have hk' := hkw' _ (List.getElem_mem hlt')
      have hK' : Kof gs lo = gs[lo].kids := by unfold Kof; rw [hg]
      obtain ⟨g0, hg0⟩ : ∃ g0, gs[lo] = g0 := ⟨_, rfl⟩
      rw [hg0] at hg ht' hk' hK'
      have eg : (castI (lo :: q')).flatMap (wordsF (gs.map toFm) (m' + 1)) ++ r' = wd g0 :: ((if g0.k = 1 then (castI g0.kids).flatMap (wordsF (gs.map toFm) m') ++ [[41]] else []) ++ ((castI q').flatMap (wordsF (gs.map toFm) (m' + 1)) ++ r')) := by
        simp only [castI, List.map_cons, List.flatMap_cons, List.append_assoc]
        rw [words_at m' hg ht']
        simp only [castI, List.cons_append]
      rw [eg, List.cons.injEq] at e
      obtain ⟨ew, e⟩ := e
      have hkind := (wd_kind ht ht' ew).1
      by_cases hk1 : f0.k = 1
      · have hk1' : g0.k = 1 := by omega
        rw [if_pos hk1, if_pos hk1'] at e
        simp only [List.append_assoc, List.singleton_append] at e
        rw [hK] at ih1
        rw [hK'] at g1
        obtain ⟨i1, i2, i3, i4⟩ := ih1 (by omega) mid' g0.kids m m' _ _ g1 (by omega) (by omega) (by omega) (.inr ⟨_, rfl⟩) (.inr ⟨_, rfl⟩) e
        subst i1
        rw [List.cons.injEq] at i3
        obtain ⟨j1, j2, j3, j4⟩ := ih2 hh hi' q' (m + 1) (m' + 1) r r' g2 hh' (by omega) (by omega) hr hr' i3.2
        refine ⟨j1, by rw [j2], j3, fun i a b => ?_⟩
        by_cases hi0 : i = lo
        · subst hi0
          rw [hf, hg]
          simp only [Option.map_some, kfw, ew, hkind, i2]
        by_cases him : i < mid
        · exact i4 i (by omega) him
        · exact j4 i (by omega) b
      · have hk1' : ¬ g0.k = 1 := by omega
        rw [if_neg hk1, if_neg hk1'] at e
        simp only [List.nil_append] at e
        have hn := hk hk1
        have hn' := hk' hk1'
        have hmid : mid = lo + 1 := by rw [hK, hn] at h1; cases h1; rfl
        have hmid' : mid' = lo + 1 := by rw [hK', hn'] at g1; cases g1; rfl
        subst hmid hmid'
        obtain ⟨j1, j2, j3, j4⟩ := ih2 hh hi' q' (m + 1) (m' + 1) r r' g2 hh' (by omega) (by omega) hr hr' e
        refine ⟨j1, by rw [j2], j3, fun i a b => ?_⟩
        by_cases hi0 : i = lo
        · subst hi0
          rw [hf, hg]
          simp only [Option.map_some, kfw, ew, hkind, hn, hn']
        · exact j4 i (by omega) b
end Go.Proofs.YtmihhebcchpmcaaGreatDoor
