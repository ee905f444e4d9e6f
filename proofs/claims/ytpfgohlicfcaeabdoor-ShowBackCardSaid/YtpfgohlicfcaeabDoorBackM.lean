/-
  What is read of a printed text: its words are the forms' words, with whatever blanks between; and the words of a text are those of what is read of it.
-/
import Derived.Test.YtpfgohlicfcaeabDoorReadM
namespace Go.Proofs.YtpfgohlicfcaeabDoor
open Go.RowKit Go.Deep Go.MapKept Go.Shelf
def flush (cur : Txt) : List Txt := if cur = [] then [] else [cur]
def lexA : Txt → Txt → List Txt
  | cur, [] => flush cur
  | cur, c :: r => if bracket c then flush cur ++ [c] :: lexA [] r else if spaced c then flush cur ++ lexA [] r else lexA (cur ++ [c]) r
/-- Words without places. -/
theorem run_lexA (t : Txt) : ∀ (r : Txt) (p : Nat) (b : Option Nat) (cur : Txt), (∀ c ∈ r, c ≠ 59) → t.drop p = r → p ≤ t.length → ((b = none ∧ cur = []) ∨ ∃ b0, b = some b0 ∧ b0 < p ∧ cur = (t.drop b0).take (p - b0)) → (run t p b false r).map Prod.snd = lexA cur r := by
  intro r
  have hw : ∀ (p : Nat) (b : Option Nat) (cur : Txt), p ≤ t.length → ((b = none ∧ cur = []) ∨ ∃ b0, b = some b0 ∧ b0 < p ∧ cur = (t.drop b0).take (p - b0)) → (word t p b).map Prod.snd = flush cur := by
    rintro p b cur hp (⟨rfl, rfl⟩ | ⟨b0, rfl, hb, rfl⟩)
    · rfl
    · have : (t.drop b0).take (p - b0) ≠ [] := fun e => by
        have := congrArg List.length e
        simp at this
        omega
      simp [word, flush, this]
  induction r with
  | nil =>
    intro p b cur _ _ hp hb
    simp only [run, lexA]
    exact hw p b cur hp hb
  | cons c r ih =>
    intro p b cur h59 hd hp hb
    have hc : c ≠ 59 := h59 c (by simp)
    have hr : ∀ c ∈ r, c ≠ 59 := fun x hx => h59 x (by simp [hx])
    have hlt : p < t.length := by
      rcases Nat.lt_or_ge p t.length with h | h
      · exact h
      · rw [List.drop_eq_nil_of_le h] at hd; cases hd
    have hd1 : t.drop (p + 1) = r := by rw [← List.drop_drop, hd]; rfl
    have hg : t[p]? = some c := by have := congrArg List.head? hd; rw [List.head?_drop] at this; simpa using this
    simp only [run, lexA]
    rw [if_neg hc]
    by_cases hbr : bracket c = true
    · rw [if_pos hbr, if_pos hbr, List.map_append, List.map_cons, hw p b cur hp hb, ih (p + 1) none [] hr hd1 hlt (.inl ⟨rfl, rfl⟩)]
    · rw [if_neg hbr, if_neg hbr]
      by_cases hsp : spaced c = true
      · rw [if_pos hsp, if_pos hsp, List.map_append, hw p b cur hp hb, ih (p + 1) none [] hr hd1 hlt (.inl ⟨rfl, rfl⟩)]
      · rw [if_neg hsp, if_neg hsp]
        refine ih (p + 1) _ _ hr hd1 hlt (.inr ?_)
        rcases hb with ⟨rfl, rfl⟩ | ⟨b0, rfl, hb0, rfl⟩
        · refine ⟨p, rfl, by omega, ?_⟩
          rw [hd, show p + 1 - p = 1 by omega]
          rfl
        · refine ⟨b0, rfl, by omega, ?_⟩
          rw [show p + 1 - b0 = (p - b0) + 1 by omega, List.take_add_one, List.getElem?_drop, show b0 + (p - b0) = p by omega, hg]
          rfl
theorem pieces_lexA {t : Txt} (h : ∀ c ∈ t, c ≠ 59) : (pieces t).map Prod.snd = lexA [] t := run_lexA t t 0 none [] h rfl (Nat.zero_le _) (.inl ⟨rfl, rfl⟩)
theorem lexA_plain : ∀ (w : Txt) (cur r : Txt), (∀ c ∈ w, plain c) → lexA cur (w ++ r) = lexA (cur ++ w) r
  | [], cur, r, _ => by simp
  | c :: w, cur, r, h => by
    have hc := h c (by simp)
    rw [List.cons_append, lexA, hc.2.1, hc.2.2]
    simp only [Bool.false_eq_true, if_false]
    rw [lexA_plain w (cur ++ [c]) r (fun x hx => h x (by simp [hx])), List.append_assoc]
    rfl
/-- Here a word is at its end. -/
def Stop (r : Txt) : Prop := r = [] ∨ ∃ c r', r = c :: r' ∧ (bracket c = true ∨ spaced c = true)
theorem lexA_stop (cur : Txt) {r : Txt} (h : Stop r) : lexA cur r = flush cur ++ lexA [] r := by
  rcases h with rfl | ⟨c, r', rfl, hc⟩
  · simp [lexA, flush]
  · have hf : flush [] = [] := rfl
    rw [lexA, lexA, hf]
    by_cases hb : bracket c = true
    · rw [if_pos hb, if_pos hb]; rfl
    · have hs : spaced c = true := hc.resolve_left hb
      rw [if_neg hb, if_neg hb, if_pos hs, if_pos hs]; rfl
theorem lexA_space : ∀ (g r : Txt), (∀ c ∈ g, spaced c = true ∧ bracket c = false) → lexA [] (g ++ r) = lexA [] r
  | [], r, _ => rfl
  | c :: g, r, h => by
    obtain ⟨h1, h2⟩ := h c (by simp)
    rw [List.cons_append, lexA, h2, h1]
    simp only [Bool.false_eq_true, if_false, if_true]
    rw [lexA_space g r fun x hx => h x (by simp [hx])]
    rfl
theorem lexA_word {w r : Txt} (h : ∀ c ∈ w, plain c) (hn : w ≠ []) (hr : Stop r) : lexA [] (w ++ r) = w :: lexA [] r := by
  rw [lexA_plain w [] r h, List.nil_append, lexA_stop w hr]
  simp [flush, hn]
theorem lexA_br {c : UInt8} (h : bracket c = true) (r : Txt) : lexA [] (c :: r) = [c] :: lexA [] r := by
  rw [lexA, if_pos h]; rfl
def wordsF (fs : List Fm) : Nat → Int → List Txt
  | 0, _ => []
  | m + 1, a => match fs[a.toNat]? with
    | none => []
    | some f => if f.k = 1 then [40] :: (f.kids.flatMap (wordsF fs m) ++ [[41]]) else if f.k = 3 then [f.s.data.toList] else if f.k = 4 then [Lib.itoa f.n] else []
/-- Blanks between kids. -/
structure GapOk (gap : GapF) : Prop where
  sp : ∀ ks n d, ∀ c ∈ gap ks n d, spaced c = true ∧ bracket c = false
  some : ∀ ks n d, n ≠ 0 → gap ks n d ≠ []
theorem gapOk_B : GapOk gapB := by
  refine ⟨fun ks n d c hc => ?_, fun ks n d hn => ?_⟩
  · unfold gapB at hc
    split at hc
    · simp at hc
    · simp at hc; subst hc; decide
  · unfold gapB; rw [if_neg hn]; simp
theorem gapOk_L (fs : List Fm) : GapOk (gapL fs) := by
  refine ⟨fun ks n d c hc => ?_, fun ks n d hn => ?_⟩
  · unfold gapL at hc
    split at hc
    · rcases List.mem_cons.1 hc with rfl | hc
      · decide
      · rw [List.mem_replicate] at hc; rw [hc.2]; decide
    · exact gapOk_B.sp ks n d c hc
  · unfold gapL
    split
    · simp
    · exact gapOk_B.some ks n d hn
theorem stop_kids {fs : List Fm} {gap : GapF} (hg : GapOk gap) (m d : Nat) (ks l : List Int) (s : Nat) (hs : s ≠ 0) (r : Txt) : Stop ((l.zipIdx s).flatMap (fun p => gap ks p.2 (d + 1) ++ txt fs gap m p.1 (d + 1)) ++ 41 :: r) := by
  cases l with
  | nil => exact .inr ⟨41, r, rfl, .inl (by decide)⟩
  | cons c l =>
    simp only [List.zipIdx_cons, List.flatMap_cons]
    have hn := hg.some ks s (d + 1) hs
    cases hgap : gap ks s (d + 1) with
    | nil => exact absurd hgap hn
    | cons x y => exact .inr ⟨x, _, rfl, .inr (hg.sp ks s (d + 1) x (by rw [hgap]; simp)).1⟩
theorem lexA_txt {fs : List Fm} {gap : GapF} (hg : GapOk gap) (hT : ∀ f ∈ fs, Told f) : ∀ (m : Nat) (a : Int) (d : Nat) (r : Txt), Stop r → lexA [] (txt fs gap m a d ++ r) = wordsF fs m a ++ lexA [] r
  | 0, a, d, r, _ => rfl
  | m + 1, a, d, r, hr => by
    unfold txt wordsF
    cases hf : fs[a.toNat]? with
    | none => rfl
    | some f =>
      simp only
      rcases hT f (List.mem_of_getElem? hf) with h1 | ⟨h3, hk⟩ | ⟨h4, hn⟩
      · rw [if_pos h1, if_pos h1]
        have key : ∀ (l : List Int) (s : Nat), lexA [] ((l.zipIdx s).flatMap (fun p => gap f.kids p.2 (d + 1) ++ txt fs gap m p.1 (d + 1)) ++ 41 :: r) = l.flatMap (wordsF fs m) ++ lexA [] (41 :: r) := by
          intro l
          induction l with
          | nil => intro s; rfl
          | cons c l ih =>
            intro s
            simp only [List.zipIdx_cons, List.flatMap_cons, List.append_assoc]
            rw [lexA_space _ _ (hg.sp f.kids s (d + 1)), lexA_txt hg hT m c (d + 1) _ (stop_kids hg m d f.kids l (s + 1) (by omega) r), ih (s + 1)]
        have := key f.kids 0
        rw [List.cons_append, lexA_br (by decide), List.append_assoc, List.singleton_append, this, lexA_br (c := 41) (by decide)]
        simp
      · have n1 : ¬ f.k = 1 := by omega
        simp only [if_neg n1, if_pos h3]
        obtain ⟨p1, p2, _⟩ := word_plain hk
        exact lexA_word p1 p2 hr
      · have n1 : ¬ f.k = 1 := by omega
        have n3 : ¬ f.k = 3 := by omega
        simp only [if_neg n1, if_neg n3, if_pos h4]
        obtain ⟨p1, p2⟩ := itoa_plain f.n
        exact lexA_word p1 p2 hr
theorem lexA_prn {fs : List Fm} {gap : GapF} (hg : GapOk gap) (hT : ∀ f ∈ fs, Told f) (top : List Int) : lexA [] (prn fs gap top) = top.flatMap (wordsF fs (fs.length + 1)) := by
  unfold prn
  induction top with
  | nil => rfl
  | cons t r ih =>
    rw [List.flatMap_cons, List.flatMap_cons]
    show lexA [] ((txt fs gap (fs.length + 1) t 0 ++ [10]) ++ r.flatMap (lineT fs gap)) = _
    have hst : Stop ([10] ++ r.flatMap (lineT fs gap)) := .inr ⟨10, _, rfl, .inr (by decide)⟩
    rw [List.append_assoc, lexA_txt hg hT _ _ _ _ hst]
    rw [lexA_space [10] _ (fun c hc => by rw [List.mem_singleton.1 hc]; decide), ih]
theorem no59_txt {fs : List Fm} {gap : GapF} (hg : GapOk gap) (hT : ∀ f ∈ fs, Told f) : ∀ (m : Nat) (a : Int) (d : Nat), ∀ c ∈ txt fs gap m a d, c ≠ 59
  | 0, a, d, c, hc => by simp [txt] at hc
  | m + 1, a, d, c, hc => by
    unfold txt at hc
    cases hf : fs[a.toNat]? with
    | none => rw [hf] at hc; simp at hc
    | some f =>
      rw [hf] at hc
      simp only at hc
      rcases hT f (List.mem_of_getElem? hf) with h1 | ⟨h3, hk⟩ | ⟨h4, hn⟩
      · rw [if_pos h1] at hc
        rcases List.mem_cons.1 hc with rfl | hc
        · decide
        · rcases List.mem_append.1 hc with hc | hc
          · obtain ⟨p, _, hc⟩ := List.mem_flatMap.1 hc
            rcases List.mem_append.1 hc with hc | hc
            · intro e; have := (hg.sp _ _ _ c hc).1; rw [e] at this; revert this; decide
            · exact no59_txt hg hT m p.1 (d + 1) c hc
          · rw [List.mem_singleton.1 hc]; decide
      · rw [if_neg (by omega), if_pos h3] at hc
        exact ((word_plain hk).1 c hc).1
      · rw [if_neg (by omega), if_neg (by omega), if_pos h4] at hc
        exact ((itoa_plain f.n).1 c hc).1
theorem no59_prn {fs : List Fm} {gap : GapF} (hg : GapOk gap) (hT : ∀ f ∈ fs, Told f) (top : List Int) : ∀ c ∈ prn fs gap top, c ≠ 59 := by
  intro c hc
  obtain ⟨t, _, hc⟩ := List.mem_flatMap.1 hc
  unfold lineT at hc
  rcases List.mem_append.1 hc with hc | hc
  · exact no59_txt hg hT _ _ _ c hc
  · rw [List.mem_singleton.1 hc]; decide
/-- The words of a printed text. -/
theorem words_prn {fs : List Fm} {gap : GapF} (hg : GapOk gap) (hT : ∀ f ∈ fs, Told f) (top : List Int) : (pieces (prn fs gap top)).map Prod.snd = top.flatMap (wordsF fs (fs.length + 1)) :=
  (pieces_lexA (no59_prn hg hT top)).trans (lexA_prn hg hT top)
end Go.Proofs.YtpfgohlicfcaeabDoor
/-
  The words of a text are those of the forms that are read of it; and forms hang on the words alone.
-/
namespace Go.Proofs.YtpfgohlicfcaeabDoor
open Go.RowKit Go.Deep Go.MapKept Go.Shelf
def wd (f : Frm) : Txt := if f.k = 1 then [40] else if f.k = 3 then f.s.data.toList else Lib.itoa f.n
def ups (f : Frm) : Nat := if f.k = 1 then 1 else 0
def shuts (n : Nat) : List Txt := List.replicate n [41]
theorem shuts_add (a b : Nat) : shuts a ++ shuts b = shuts (a + b) := by unfold shuts; rw [List.replicate_append_replicate]
/-- Words as forms stand, with as many ends of brackets between as levels fall. -/
def flatW : List Frm → List Nat → Nat → List Txt × Nat
  | f :: fs, d :: lv, cur => (shuts (cur - d) ++ wd f :: (flatW fs lv (d + ups f)).1, (flatW fs lv (d + ups f)).2)
  | _, _, cur => ([], cur)
theorem flatW_append : ∀ (A : List Frm) (la : List Nat) (B : List Frm) (lb : List Nat) (cur : Nat), A.length = la.length → flatW (A ++ B) (la ++ lb) cur = ((flatW A la cur).1 ++ (flatW B lb (flatW A la cur).2).1, (flatW B lb (flatW A la cur).2).2)
  | [], [], B, lb, cur, _ => by simp [flatW]
  | f :: A, d :: la, B, lb, cur, h => by
    simp only [List.length_cons, Nat.add_right_cancel_iff] at h
    simp only [List.cons_append, flatW, flatW_append A la B lb (d + ups f) h, List.append_assoc]
  | [], d :: la, B, lb, cur, h => by simp at h
  | f :: A, [], B, lb, cur, h => by simp at h
def key3 (f : Frm) : Int × ByteArray × Int := (f.k, f.s, f.n)
theorem flatW_same : ∀ (A B : List Frm) (lv : List Nat) (cur : Nat), A.map key3 = B.map key3 → flatW A lv cur = flatW B lv cur
  | [], [], lv, cur, _ => rfl
  | a :: A, b :: B, [], cur, _ => rfl
  | a :: A, b :: B, d :: lv, cur, h => by
    simp only [List.map_cons, List.cons.injEq] at h
    obtain ⟨h1, h2⟩ := h
    unfold key3 at h1
    simp only [Prod.mk.injEq] at h1
    obtain ⟨e1, e2, e3⟩ := h1
    have hw : wd a = wd b := by unfold wd; rw [e1, e2, e3]
    have hu : ups a = ups b := by unfold ups; rw [e1]
    simp only [flatW, hw, hu, flatW_same A B lv (d + ups b) h2]
  | [], b :: B, lv, cur, h => by simp at h
  | a :: A, [], lv, cur, h => by simp at h
theorem key3_add (b n : Nat) (fs : List Frm) : (fs.modify b (addKid n)).map key3 = fs.map key3 := by
  apply List.ext_getElem?
  intro i
  rw [List.getElem?_map, List.getElem?_modify, List.getElem?_map]
  cases fs[i]? with
  | none => rfl
  | some g => by_cases h : b = i <;> simp [h, key3, addKid]
/-- What a token says. -/
def wdT (t : Tok) : Txt := if t.k = 2 then [41] else wd (formOf t)
/-- How tokens read so far stand in what has been read. -/
structure Lev (T : List Tok) (σ : St) (lv : List Nat) : Prop where
  len : lv.length = σ.forms.length
  kid : ∀ (i : Nat) (f : Frm) (c : Nat), σ.forms[i]? = some f → c ∈ f.kids → c < σ.forms.length ∧ lv.getD c 0 = lv.getD i 0 + 1
  top : ∀ t ∈ σ.top, t < σ.forms.length ∧ lv.getD t 0 = 0
  opn : ∀ (j b : Nat), σ.opn[j]? = some b → b < σ.forms.length ∧ lv.getD b 0 = j
  le : σ.opn.length ≤ (flatW σ.forms lv 0).2
  words : T.map wdT = (flatW σ.forms lv 0).1 ++ shuts ((flatW σ.forms lv 0).2 - σ.opn.length)
theorem getD_old {lv : List Nat} {x i : Nat} (h : i < lv.length) : (lv ++ [x]).getD i 0 = lv.getD i 0 := by
  simp [List.getD_eq_getElem?_getD, List.getElem?_append_left h]
theorem getD_new {lv : List Nat} {x : Nat} : (lv ++ [x]).getD lv.length 0 = x := by simp [List.getD_eq_getElem?_getD]
theorem kids_old {fs : List Frm} {b n i : Nat} {g f : Frm} (h : (fs.modify b (addKid n) ++ [g])[i]? = some f) (hg : g.kids = []) {c : Nat} (hc : c ∈ f.kids) : ∃ f0, fs[i]? = some f0 ∧ (c ∈ f0.kids ∨ (i = b ∧ c = n)) := by
  by_cases hi : i < fs.length
  · rw [List.getElem?_append_left (by simpa using hi), List.getElem?_modify] at h
    cases hx : fs[i]? with
    | none => rw [hx] at h; simp at h
    | some f0 =>
      rw [hx] at h
      refine ⟨f0, rfl, ?_⟩
      by_cases hb : b = i
      · simp [hb] at h
        rw [← h] at hc
        simp only [addKid, List.mem_append, List.mem_singleton] at hc
        rcases hc with hc | hc
        · exact .inl hc
        · exact .inr ⟨hb.symm, hc⟩
      · simp [hb] at h
        rw [← h] at hc
        exact .inl hc
  · have hle : fs.length ≤ i := by omega
    rw [List.getElem?_append_right (by simpa using hle)] at h
    have : f = g := by
      cases hj : i - (fs.modify b (addKid n)).length with
      | zero => rw [hj] at h; simpa using h.symm
      | succ j => rw [hj] at h; simp at h
    rw [this, hg] at hc
    cases hc
/-- A form more, in the innermost bracket that is open. -/
theorem lev_add {T : List Tok} {σ : St} {lv : List Nat} (h : Lev T σ lv) {t : Tok} (hk : t.k = 1 ∨ t.k = 3 ∨ t.k = 4) :
    (lv ++ [σ.opn.length]).length = (addF (formOf t) σ).forms.length ∧
    (∀ (i : Nat) (f : Frm) (c : Nat), (addF (formOf t) σ).forms[i]? = some f → c ∈ f.kids → c < (addF (formOf t) σ).forms.length ∧ (lv ++ [σ.opn.length]).getD c 0 = (lv ++ [σ.opn.length]).getD i 0 + 1) ∧
    (∀ p ∈ (addF (formOf t) σ).top, p < (addF (formOf t) σ).forms.length ∧ (lv ++ [σ.opn.length]).getD p 0 = 0) ∧
    (addF (formOf t) σ).opn = σ.opn ∧
    flatW (addF (formOf t) σ).forms (lv ++ [σ.opn.length]) 0 = ((T ++ [t]).map wdT, σ.opn.length + ups (formOf t)) := by
  have hkids : (formOf t).kids = [] := by unfold formOf; split <;> (try rfl); split <;> rfl
  have h2 : t.k ≠ 2 := by omega
  have hwt : wdT t = wd (formOf t) := by unfold wdT; rw [if_neg h2]
  have hfl : ∀ fs : List Frm, fs.map key3 = σ.forms.map key3 → fs.length = σ.forms.length → flatW (fs ++ [formOf t]) (lv ++ [σ.opn.length]) 0 = ((T ++ [t]).map wdT, σ.opn.length + ups (formOf t)) := by
    intro fs hfs hl
    rw [flatW_append fs lv _ _ 0 (by rw [hl, h.len]), flatW_same fs σ.forms lv 0 hfs]
    simp only [flatW, List.map_append, List.map_cons, List.map_nil, h.words, hwt, List.append_assoc]
  unfold addF
  cases hl : σ.opn.getLast? with
  | none =>
    simp only
    refine ⟨by simp [h.len], fun i f c hf hc => ?_, fun p hp => ?_, trivial, hfl σ.forms rfl rfl⟩
    · have hi : i < σ.forms.length := by
        by_cases hi : i < σ.forms.length
        · exact hi
        · rw [List.getElem?_append_right (by omega)] at hf
          cases hj : i - σ.forms.length with
          | zero => rw [hj] at hf; simp at hf; rw [← hf, hkids] at hc; cases hc
          | succ j => rw [hj] at hf; simp at hf
      rw [List.getElem?_append_left hi] at hf
      obtain ⟨h1, h3⟩ := h.kid i f c hf hc
      rw [getD_old (by rw [h.len]; exact h1), getD_old (by rw [h.len]; exact hi), List.length_append]
      exact ⟨by simp; omega, h3⟩
    · rw [List.mem_append, List.mem_singleton] at hp
      rcases hp with hp | hp
      · obtain ⟨h1, h3⟩ := h.top p hp
        rw [getD_old (by rw [h.len]; exact h1), List.length_append]
        exact ⟨by simp; omega, h3⟩
      · have ho : σ.opn = [] := List.getLast?_eq_none_iff.1 hl
        rw [hp, ← h.len, getD_new, List.length_append, ho]
        exact ⟨by simp [h.len], rfl⟩
  | some b =>
    simp only
    have hne : σ.opn ≠ [] := fun e => by rw [e] at hl; simp at hl
    have hb := h.opn (σ.opn.length - 1) b (by rw [← List.getLast?_eq_getElem?]; exact hl)
    have hpos : 0 < σ.opn.length := List.length_pos_iff.2 hne
    have hml : (σ.forms.modify b (addKid σ.forms.length)).length = σ.forms.length := by simp
    refine ⟨by simp [h.len], fun i f c hf hc => ?_, fun p hp => ?_, trivial, hfl _ (key3_add b _ σ.forms) hml⟩
    · obtain ⟨f0, hf0, hcase⟩ := kids_old hf hkids hc
      have hi : i < σ.forms.length := (List.getElem?_eq_some_iff.1 hf0).1
      rcases hcase with hc0 | ⟨hib, hcn⟩
      · obtain ⟨h1, h3⟩ := h.kid i f0 c hf0 hc0
        rw [getD_old (by rw [h.len]; exact h1), getD_old (by rw [h.len]; exact hi), List.length_append, hml]
        exact ⟨by simp; omega, h3⟩
      · have e1 : (lv ++ [σ.opn.length]).getD c 0 = σ.opn.length := by rw [hcn, ← h.len]; exact getD_new
        have e2 : (lv ++ [σ.opn.length]).getD i 0 = lv.getD i 0 := getD_old (by rw [h.len]; exact hi)
        have hb2 := hb.2
        rw [← hib] at hb2
        rw [e1, e2, hb2, hcn, List.length_append, hml]
        exact ⟨by simp, by omega⟩
    · obtain ⟨h1, h3⟩ := h.top p hp
      rw [getD_old (by rw [h.len]; exact h1), List.length_append, hml]
      exact ⟨by simp; omega, h3⟩
theorem lev_step {T : List Tok} {σ σ' : St} {lv : List Nat} {t : Tok} (h : Lev T σ lv) (ht : t.k = 1 ∨ t.k = 2 ∨ t.k = 3 ∨ t.k = 4) (he : step σ t = .ok σ') : ∃ lv', Lev (T ++ [t]) σ' lv' := by
  unfold step at he
  split at he
  · rename_i h2
    split at he
    · cases he
    · rename_i hn
      cases he
      have hpos : 0 < σ.opn.length := List.length_pos_iff.2 hn
      refine ⟨lv, h.len, h.kid, h.top, fun j b hj => ?_, ?_, ?_⟩
      · simp only [List.dropLast_eq_take, List.getElem?_take] at hj
        split at hj
        · exact h.opn j b hj
        · cases hj
      · have := h.le
        simp only [List.length_dropLast]
        omega
      · have hle := h.le
        have hw : wdT t = [41] := by unfold wdT; rw [if_pos h2]
        simp only [List.map_append, List.map_cons, List.map_nil, h.words, hw, List.length_dropLast, List.append_assoc]
        congr 1
        rw [show (flatW σ.forms lv 0).2 - (σ.opn.length - 1) = ((flatW σ.forms lv 0).2 - σ.opn.length) + 1 by omega, ← shuts_add]
        rfl
  · rename_i h2
    split at he
    · rename_i h1
      split at he
      · cases he
      · split at he
        · cases he
        · cases he
          obtain ⟨a1, a2, a3, a4, a5⟩ := lev_add h (t := t) (.inl h1)
          have hu : ups (formOf t) = 1 := by unfold ups formOf; rw [if_pos h1, if_pos rfl]
          have hln : (addF (formOf t) σ).forms.length = σ.forms.length + 1 := addF_len _ _
          refine ⟨lv ++ [σ.opn.length], a1, a2, a3, fun j b hj => ?_, ?_, ?_⟩
          · by_cases hjl : j < σ.opn.length
            · rw [List.getElem?_append_left hjl] at hj
              obtain ⟨b1, b2⟩ := h.opn j b hj
              show b < (addF (formOf t) σ).forms.length ∧ _
              rw [getD_old (by rw [h.len]; exact b1), hln]
              exact ⟨by omega, b2⟩
            · rw [List.getElem?_append_right (by omega)] at hj
              cases hq : j - σ.opn.length with
              | zero =>
                rw [hq] at hj
                simp at hj
                show b < (addF (formOf t) σ).forms.length ∧ _
                rw [← hj, hln, ← h.len, getD_new]
                exact ⟨by omega, by omega⟩
              | succ q => rw [hq] at hj; simp at hj
          · show (σ.opn ++ [σ.forms.length]).length ≤ (flatW (addF (formOf t) σ).forms (lv ++ [σ.opn.length]) 0).2
            rw [a5, hu]; simp
          · show _ = (flatW (addF (formOf t) σ).forms (lv ++ [σ.opn.length]) 0).1 ++ shuts ((flatW (addF (formOf t) σ).forms (lv ++ [σ.opn.length]) 0).2 - (σ.opn ++ [σ.forms.length]).length)
            rw [a5, hu]
            simp [shuts]
    · rename_i h1
      split at he
      · rename_i h34
        split at he
        · cases he
        · cases he
          obtain ⟨a1, a2, a3, a4, a5⟩ := lev_add h (t := t) (.inr h34)
          have hu : ups (formOf t) = 0 := by unfold ups formOf; rw [if_neg h1]; split <;> simp
          have hln : (addF (formOf t) σ).forms.length = σ.forms.length + 1 := addF_len _ _
          refine ⟨lv ++ [σ.opn.length], a1, a2, a3, fun j b hj => ?_, ?_, ?_⟩
          · rw [a4] at hj
            obtain ⟨b1, b2⟩ := h.opn j b hj
            rw [getD_old (by rw [h.len]; exact b1), hln]
            exact ⟨by omega, b2⟩
          · rw [a5, a4, hu]; simp
          · rw [a5, a4, hu]; simp [shuts]
      · omega
theorem lev_steps : ∀ (l T : List Tok) (σ σ' : St) (lv : List Nat), Lev T σ lv → (∀ t ∈ l, t.k = 1 ∨ t.k = 2 ∨ t.k = 3 ∨ t.k = 4) → steps l σ = .ok σ' → ∃ lv', Lev (T ++ l) σ' lv'
  | [], T, σ, σ', lv, h, _, he => by unfold steps at he; cases he; rw [List.append_nil]; exact ⟨lv, h⟩
  | t :: r, T, σ, σ', lv, h, ht, he => by
    unfold steps at he
    cases hs : step σ t with
    | error e => rw [hs] at he; cases he
    | ok σ1 =>
      rw [hs] at he
      obtain ⟨lv1, h1⟩ := lev_step h (ht t (by simp)) hs
      have := lev_steps r (T ++ [t]) σ1 σ' lv1 h1 (fun x hx => ht x (by simp [hx])) he
      rwa [List.append_assoc] at this
theorem lev_parse {l : List Tok} {σ : St} (ht : ∀ t ∈ l, t.k = 1 ∨ t.k = 2 ∨ t.k = 3 ∨ t.k = 4) (h : parse l = .ok σ) : ∃ lv, Lev l σ lv ∧ σ.opn = [] := by
  unfold parse at h
  cases hs : steps l begin0 with
  | error e => rw [hs] at h; cases h
  | ok σ1 =>
    rw [hs] at h
    simp only at h
    unfold finish at h
    split at h
    · rename_i hn
      cases h
      obtain ⟨lv, hl⟩ := lev_steps l [] begin0 _ [] ⟨rfl, by simp [begin0], by simp [begin0], by simp [begin0], by simp [begin0], by simp [begin0, flatW, shuts]⟩ ht hs
      exact ⟨lv, by simpa using hl, List.getLast?_eq_none_iff.1 hn⟩
    · cases h
end Go.Proofs.YtpfgohlicfcaeabDoor
/-
  What is read of a printed text is what was printed, but for places.
-/
namespace Go.Proofs.YtpfgohlicfcaeabDoor
open Go.RowKit Go.Deep Go.MapKept Go.Shelf
def sl {α : Type} (l : List α) (lo hi : Nat) : List α := (l.drop lo).take (hi - lo)
theorem sl_nil {α : Type} (l : List α) (lo : Nat) : sl l lo lo = [] := by simp [sl]
theorem sl_cons {α : Type} {l : List α} {lo hi : Nat} {x : α} (h : l[lo]? = some x) (hh : lo < hi) : sl l lo hi = x :: sl l (lo + 1) hi := by
  unfold sl
  have hlt := (List.getElem?_eq_some_iff.1 h).1
  rw [List.drop_eq_getElem_cons hlt, show hi - lo = (hi - (lo + 1)) + 1 by omega, List.take_succ_cons]
  congr 1
  rw [List.getElem?_eq_getElem hlt] at h
  exact Option.some.inj h
theorem sl_join {α : Type} (l : List α) {lo mid hi : Nat} (h1 : lo ≤ mid) (h2 : mid ≤ hi) : sl l lo hi = sl l lo mid ++ sl l mid hi := by
  unfold sl
  rw [show hi - lo = (mid - lo) + (hi - mid) by omega, List.take_add, List.drop_drop, show lo + (mid - lo) = mid by omega]
theorem sl_len {α : Type} {l : List α} {lo hi : Nat} (h : hi ≤ l.length) : (sl l lo hi).length = hi - lo := by
  unfold sl
  rw [List.length_take, List.length_drop]
  omega
theorem shuts_succ (n : Nat) : shuts (n + 1) = shuts n ++ [[41]] := by rw [← shuts_add]; rfl
/-- Words as they stand are words bracket by bracket. -/
theorem flat_seg {fs : List Frm} {lv : List Nat} (hl : lv.length = fs.length) (hT : ∀ f ∈ fs, Told (toFm f)) (hkw : ∀ f ∈ fs, f.k ≠ 1 → f.kids = []) (hkid : ∀ (i : Nat) (f : Frm) (c : Nat), fs[i]? = some f → c ∈ f.kids → lv.getD c 0 = lv.getD i 0 + 1) {lo hi : Nat} {l : List Nat} (h : Seg (Kof fs) lo hi l) :
    hi ≤ fs.length → ∀ (m d cur : Nat), hi - lo < m → d ≤ cur → (∀ p ∈ l, lv.getD p 0 = d) →
      (flatW (sl fs lo hi) (sl lv lo hi) cur).1 ++ shuts ((flatW (sl fs lo hi) (sl lv lo hi) cur).2 - d) = shuts (cur - d) ++ (castI l).flatMap (wordsF (fs.map toFm) m) ∧ d ≤ (flatW (sl fs lo hi) (sl lv lo hi) cur).2 := by
  induction h with
  | nil lo =>
    intro _ m d cur _ hd _
    rw [sl_nil, sl_nil]
    simp [flatW, castI, hd]
  | @cons lo mid hi r h1 h2 ih1 ih2 =>
    intro hh m d cur hm hd hlev
    have l1 := h1.le
    have l2 := h2.le
    obtain ⟨m, rfl⟩ : ∃ k, m = k + 1 := ⟨m - 1, by omega⟩
    have hlt : lo < fs.length := by omega
    have hf : fs[lo]? = some fs[lo] := List.getElem?_eq_getElem hlt
    have hfm : (fs.map toFm)[lo]? = some (toFm fs[lo]) := by simp [hf]
    have hld : lv[lo]? = some d := by
      have hlt2 : lo < lv.length := by omega
      have e := hlev lo (by simp)
      rw [List.getD_eq_getElem?_getD, List.getElem?_eq_getElem hlt2] at e
      rw [List.getElem?_eq_getElem hlt2]
      simpa using e
    have hK : Kof fs lo = fs[lo].kids := by unfold Kof; rw [hf]
    have hmem : fs[lo] ∈ fs := List.getElem_mem hlt
    have hrest : ∀ p ∈ r, lv.getD p 0 = d := fun p hp => hlev p (by simp [hp])
    have hnl : (sl fs (lo + 1) mid).length = (sl lv (lo + 1) mid).length := by rw [sl_len (by omega), sl_len (by omega)]
    rw [sl_cons hf (by omega), sl_cons hld (by omega), sl_join fs l1 l2, sl_join lv l1 l2]
    simp only [flatW]
    rw [flatW_append _ _ _ _ _ hnl]
    obtain ⟨f0, hf0⟩ : ∃ f0, fs[lo] = f0 := ⟨_, rfl⟩
    rw [hf0] at hfm hK hmem hf ⊢
    by_cases hk1 : f0.k = 1
    · have hu : ups f0 = 1 := by unfold ups; rw [if_pos hk1]
      have hwd : wd f0 = [40] := by unfold wd; rw [if_pos hk1]
      have hkl : ∀ p ∈ Kof fs lo, lv.getD p 0 = d + 1 := fun p hp => by
        rw [hK] at hp
        rw [hkid lo f0 p hf hp, hlev lo (by simp)]
      obtain ⟨i1, i1'⟩ := ih1 (by omega) m (d + 1) (d + 1) (by omega) (Nat.le_refl _) hkl
      rw [hu]
      obtain ⟨A, hA⟩ : ∃ A, flatW (sl fs (lo + 1) mid) (sl lv (lo + 1) mid) (d + 1) = A := ⟨_, rfl⟩
      rw [hA] at i1 i1' ⊢
      obtain ⟨i2, i2'⟩ := ih2 hh (m + 1) d A.2 (by omega) (by omega) hrest
      refine ⟨?_, i2'⟩
      have hw : wordsF (fs.map toFm) (m + 1) (lo : Int) = [40] :: ((castI f0.kids).flatMap (wordsF (fs.map toFm) m) ++ [[41]]) := by
        unfold wordsF
        rw [show ((lo : Int)).toNat = lo by omega, hfm]
        simp only
        rw [if_pos (show (toFm f0).k = 1 from hk1)]
        rfl
      rw [hwd]
      simp only [List.append_assoc, List.cons_append]
      rw [i2]
      simp only [castI, List.map_cons, List.flatMap_cons] at hw ⊢
      rw [hw]
      rw [show A.2 - d = (A.2 - (d + 1)) + 1 by omega, shuts_succ]
      simp only [List.cons_append, List.append_assoc]
      congr 2
      rw [← List.append_assoc A.1, i1, hK]
      simp [shuts, castI]
    · have hu : ups f0 = 0 := by unfold ups; rw [if_neg hk1]
      have hkn : f0.kids = [] := hkw f0 hmem hk1
      have hmid : mid = lo + 1 := by
        rw [hK, hkn] at h1
        cases h1
        rfl
      subst hmid
      rw [sl_nil, sl_nil, hu]
      simp only [flatW, List.nil_append, Nat.add_zero]
      obtain ⟨i2, i2'⟩ := ih2 hh (m + 1) d d (by omega) (Nat.le_refl _) hrest
      refine ⟨?_, i2'⟩
      have hw : wordsF (fs.map toFm) (m + 1) (lo : Int) = [wd f0] := by
        unfold wordsF
        rw [show ((lo : Int)).toNat = lo by omega, hfm]
        simp only
        rw [if_neg (show ¬ (toFm f0).k = 1 from hk1)]
        unfold wd
        rw [if_neg hk1]
        rcases hT f0 hmem with t1 | ⟨t3, _⟩ | ⟨t4, _⟩
        · exact absurd t1 hk1
        · have : f0.k = 3 := t3
          rw [if_pos (show (toFm f0).k = 3 from t3), if_pos this]
          rfl
        · have : f0.k = 4 := t4
          rw [if_neg (show ¬ (toFm f0).k = 3 by simp only [toFm]; omega), if_pos (show (toFm f0).k = 4 from t4), if_neg (by omega)]
          rfl
      simp only [List.append_assoc, List.cons_append]
      rw [i2]
      simp only [castI, List.map_cons, List.flatMap_cons] at hw ⊢
      rw [hw]
      simp [shuts]
theorem tok_kinds {q : Piece} (h : kindP q.2 ≠ 0) : (tok q).k = 1 ∨ (tok q).k = 2 ∨ (tok q).k = 3 ∨ (tok q).k = 4 := by
  show kindP q.2 = 1 ∨ kindP q.2 = 2 ∨ kindP q.2 = 3 ∨ kindP q.2 = 4
  unfold kindP at h ⊢
  split
  · exact .inl rfl
  · split
    · exact .inr (.inl rfl)
    · rename_i h1 h2
      rw [if_neg h1, if_neg h2] at h
      rcases kind_cases (bytesOf q.2) with e | e | e
      · exact absurd e h
      · exact .inr (.inr (.inl e))
      · exact .inr (.inr (.inr e))
/-- A token of a text says its word. -/
theorem wd_tok {q : Piece} (h : kindP q.2 ≠ 0) : wdT (tok q) = q.2 := by
  have hk := tok_kinds h
  have hkk : (tok q).k = kindP q.2 := rfl
  unfold wdT
  by_cases h2 : (tok q).k = 2
  · rw [if_pos h2]
    rw [hkk] at h2
    unfold kindP at h2
    split at h2
    · cases h2
    · split at h2
      · rename_i e; exact e.symm
      · rcases kind_cases (bytesOf q.2) with e | e | e <;> rw [e] at h2 <;> cases h2
  · rw [if_neg h2]
    unfold formOf
    by_cases h1 : (tok q).k = 1
    · rw [if_pos h1]
      rw [hkk] at h1
      unfold kindP at h1
      split at h1
      · rename_i e; rw [e]; rfl
      · split at h1
        · cases h1
        · rcases kind_cases (bytesOf q.2) with e | e | e <;> rw [e] at h1 <;> cases h1
    · rw [if_neg h1]
      by_cases h3 : (tok q).k = 3
      · rw [if_pos h3]
        unfold wd
        rw [if_neg (by simp), if_pos rfl]
        simp [tok, bytesOf]
      · rw [if_neg h3]
        unfold wd
        rw [if_neg (by simp), if_neg (by simp)]
        have h4 : (tok q).k = 4 := by omega
        rw [hkk] at h4
        show Lib.itoa (numP q.2) = q.2
        unfold numP
        rw [if_pos h4]
        unfold kindP at h4
        split at h4
        · cases h4
        · split at h4
          · cases h4
          · unfold kindW at h4
            split at h4
            · rename_i hn
              have := (numV_in hn).2
              rw [← this]
              simp [bytesOf]
            · split at h4 <;> cases h4
/-- The words of a text are those of what is read of it. -/
theorem words_read {s : ByteArray} {σ : St} {T : List Tok} {lv0 : List Nat} (hr : Rd T σ lv0) (hp : parse ((pieces s.data.toList).map tok) = .ok σ) (hk : ∀ q ∈ pieces s.data.toList, kindP q.2 ≠ 0) : (pieces s.data.toList).map Prod.snd = (castI σ.top).flatMap (wordsF (σ.forms.map toFm) (σ.forms.length + 1)) := by
  obtain ⟨lv, hl, ho⟩ := lev_parse (fun t ht => by obtain ⟨q, hq, rfl⟩ := List.mem_map.1 ht; exact tok_kinds (hk q hq)) hp
  have hw := hl.words
  rw [ho] at hw
  have e1 : ((pieces s.data.toList).map tok).map wdT = (pieces s.data.toList).map Prod.snd := by
    rw [List.map_map]
    exact List.map_congr_left fun q hq => wd_tok (hk q hq)
  rw [e1] at hw
  have hfs := flat_seg hl.len hr.told (fun f hf h1 => by
      obtain ⟨i, hi⟩ := List.getElem?_of_mem hf
      rcases (hr.shape.form i f hi).is with ⟨a, _⟩ | ⟨_, _, a⟩ | ⟨_, _, a⟩
      · exact absurd a h1
      · exact a
      · exact a) (fun i f c hf hc => (hl.kid i f c hf hc).2) hr.shape.seg (Nat.le_refl _) (σ.forms.length + 1) 0 0 (by omega) (Nat.le_refl _) (fun p hp => (hl.top p hp).2)
  have e2 : sl σ.forms 0 σ.forms.length = σ.forms := by simp [sl]
  have e3 : sl lv 0 σ.forms.length = lv := by rw [← hl.len]; simp [sl]
  rw [e2, e3] at hfs
  rw [hw]
  have := hfs.1
  simpa [shuts] using this
def key4 (f : Frm) : Int × ByteArray × Int × List Nat := (f.k, f.s, f.n, f.kids)
/-- The same but for places. -/
structure Alike (σ τ : St) : Prop where
  forms : σ.forms.map key4 = τ.forms.map key4
  top : σ.top = τ.top
  opn : σ.opn = τ.opn
theorem Alike.len {σ τ : St} (h : Alike σ τ) : σ.forms.length = τ.forms.length := by have := congrArg List.length h.forms; simpa using this
def keyT (t : Tok) : Int × ByteArray × Int := (t.k, t.s, t.n)
theorem form_alike {t u : Tok} (h : keyT t = keyT u) : key4 (formOf t) = key4 (formOf u) := by
  unfold keyT at h
  simp only [Prod.mk.injEq] at h
  obtain ⟨h1, h2, h3⟩ := h
  unfold formOf
  rw [h1]
  split
  · rfl
  · split
    · simp [key4, h2]
    · simp [key4, h3]
theorem key4_mod (b n : Nat) {A B : List Frm} (h : A.map key4 = B.map key4) : (A.modify b (addKid n)).map key4 = (B.modify b (addKid n)).map key4 := by
  apply List.ext_getElem?
  intro i
  have hi : (A[i]?).map key4 = (B[i]?).map key4 := by rw [← List.getElem?_map, ← List.getElem?_map, h]
  rw [List.getElem?_map, List.getElem?_modify, List.getElem?_map, List.getElem?_modify]
  cases ha : A[i]? with
  | none =>
    rw [ha] at hi
    cases hb : B[i]? with
    | none => rfl
    | some y => rw [hb] at hi; simp at hi
  | some x =>
    rw [ha] at hi
    cases hb : B[i]? with
    | none => rw [hb] at hi; simp at hi
    | some y =>
      rw [hb] at hi
      simp only [Option.map_some, Option.some.injEq] at hi
      by_cases hbi : b = i
      · simp [hbi, key4, addKid] at hi ⊢
        exact ⟨hi.1, hi.2.1, hi.2.2.1, hi.2.2.2⟩
      · simp [hbi, hi]
theorem add_alike {σ τ : St} {f g : Frm} (h : Alike σ τ) (hf : key4 f = key4 g) : Alike (addF f σ) (addF g τ) := by
  unfold addF
  rw [h.opn]
  split
  · exact ⟨by simp [h.forms, hf], by simp [h.top, h.len], rfl⟩
  · rename_i b _
    exact ⟨by simp only [List.map_append, List.map_cons, List.map_nil, hf, h.len, key4_mod b _ h.forms], h.top, rfl⟩
theorem step_alike {σ τ σ' : St} {t u : Tok} (h : Alike σ τ) (hk : keyT t = keyT u) (he : step σ t = .ok σ') : ∃ τ', step τ u = .ok τ' ∧ Alike σ' τ' := by
  have hkk : t.k = u.k := by unfold keyT at hk; simp only [Prod.mk.injEq] at hk; exact hk.1
  have hf := form_alike hk
  have ha := add_alike h hf
  have hl := h.len
  unfold step at he ⊢
  rw [hkk, h.opn, hl] at he
  split at he
  · rename_i h2
    rw [if_pos h2]
    split at he
    · cases he
    · rename_i hn
      rw [if_neg hn]
      cases he
      exact ⟨_, rfl, h.forms, h.top, rfl⟩
  · rename_i h2
    rw [if_neg h2]
    split at he
    · rename_i h1
      rw [if_pos h1]
      split at he
      · cases he
      · rename_i h12
        rw [if_neg h12]
        split at he
        · cases he
        · rename_i h4
          rw [if_neg h4]
          cases he
          exact ⟨_, rfl, ha.forms, ha.top, rfl⟩
    · rename_i h1
      rw [if_neg h1]
      split at he
      · rename_i h34
        rw [if_pos h34]
        split at he
        · cases he
        · rename_i h4
          rw [if_neg h4]
          cases he
          exact ⟨_, rfl, ha⟩
      · rename_i h34
        rw [if_neg h34]
        cases he
        exact ⟨_, rfl, h⟩
theorem steps_alike : ∀ (l m : List Tok) (σ τ σ' : St), Alike σ τ → l.map keyT = m.map keyT → steps l σ = .ok σ' → ∃ τ', steps m τ = .ok τ' ∧ Alike σ' τ'
  | [], [], σ, τ, σ', h, _, he => by unfold steps at he; cases he; exact ⟨τ, rfl, h⟩
  | t :: l, u :: m, σ, τ, σ', h, hk, he => by
    simp only [List.map_cons, List.cons.injEq] at hk
    unfold steps at he
    cases hs : step σ t with
    | error e => rw [hs] at he; cases he
    | ok σ1 =>
      rw [hs] at he
      obtain ⟨τ1, h1, h2⟩ := step_alike h hk.1 hs
      obtain ⟨τ', h3, h4⟩ := steps_alike l m σ1 τ1 σ' h2 hk.2 he
      exact ⟨τ', by unfold steps; rw [h1]; exact h3, h4⟩
  | [], u :: m, σ, τ, σ', _, hk, _ => by simp at hk
  | t :: l, [], σ, τ, σ', _, hk, _ => by simp at hk
theorem parse_alike {l m : List Tok} {σ : St} (hk : l.map keyT = m.map keyT) (h : parse l = .ok σ) : ∃ τ, parse m = .ok τ ∧ Alike σ τ := by
  unfold parse at h ⊢
  cases hs : steps l begin0 with
  | error e => rw [hs] at h; cases h
  | ok σ1 =>
    rw [hs] at h
    simp only at h
    obtain ⟨τ1, h1, h2⟩ := steps_alike l m begin0 begin0 σ1 ⟨rfl, rfl, rfl⟩ hk hs
    rw [h1]
    simp only
    unfold finish at h ⊢
    rw [h2.opn] at h
    split at h
    · rename_i hn
      cases h
      exact ⟨τ1, rfl, h2⟩
    · cases h
theorem bad_ok : ∀ (l : List Piece) (c : Nat), (∀ q ∈ l, kindP q.2 ≠ 0) → c + l.length ≤ 600 → bad c l = none
  | [], _, _, _ => rfl
  | q :: r, c, h, hl => by
    simp only [List.length_cons] at hl
    unfold bad
    rw [if_neg (h q (by simp)), if_neg (by omega)]
    exact bad_ok r (c + 1) (fun x hx => h x (by simp [hx])) (by omega)
theorem read_parts {s : ByteArray} {σ : St} (h : readR s = some σ) : s.size ≤ 3000 ∧ (lexRes s).1 = (pieces s.data.toList).map tok ∧ (∀ q ∈ pieces s.data.toList, kindP q.2 ≠ 0) ∧ (pieces s.data.toList).length ≤ 600 ∧ parse ((pieces s.data.toList).map tok) = .ok σ := by
  unfold readR at h
  split at h
  · rename_i h0
    split at h
    · rename_i σ' hp
      cases h
      have hsz : ¬ 3000 < s.size := fun hh => by
        unfold lexRes at h0
        rw [if_pos hh] at h0
        simp at h0
      cases hb : bad 0 (pieces s.data.toList) with
      | some pe =>
        exfalso
        have hk : ∀ (l : List Piece) (c : Nat) (p : Int × Int), bad c l = some p → p.2 = 8 ∨ p.2 = 4 := by
          intro l
          induction l with
          | nil => intro c p e; simp [bad] at e
          | cons q r ih =>
            intro c p e
            unfold bad at e
            split at e
            · cases e; exact .inl rfl
            · split at e
              · cases e; exact .inr rfl
              · exact ih _ _ e
        unfold lexRes at h0
        rw [if_neg hsz, hb] at h0
        have := hk _ _ _ hb
        simp only at h0
        omega
      | none =>
        obtain ⟨b1, b2⟩ := bad_none 0 _ (by omega) hb
        have e1 : (lexRes s).1 = (pieces s.data.toList).map tok := by unfold lexRes; rw [if_neg hsz, hb]
        rw [e1] at hp
        exact ⟨by omega, e1, b2, by omega, hp⟩
    · cases h
  · cases h
/-- What is read of a printed text is what was printed, but for places. -/
theorem read_back {s : ByteArray} {σ : St} {T : List Tok} {lv : List Nat} (hr : Rd T σ lv) (h : readR s = some σ) {gap : GapF} (hg : GapOk gap) (hl : (prn (σ.forms.map toFm) gap (castI σ.top)).length ≤ 3000) :
    ∃ τ, readR ⟨(prn (σ.forms.map toFm) gap (castI σ.top)).toArray⟩ = some τ ∧ Alike σ τ := by
  obtain ⟨_, _, hk, hn, hp⟩ := read_parts h
  have hw := words_read hr hp hk
  have hw2 := words_prn hg (fs := σ.forms.map toFm) (fun f hf => by obtain ⟨g, hg, rfl⟩ := List.mem_map.1 hf; exact hr.told g hg) (castI σ.top)
  rw [List.length_map, ← hw] at hw2
  obtain ⟨P, hP⟩ : ∃ P, prn (σ.forms.map toFm) gap (castI σ.top) = P := ⟨_, rfl⟩
  rw [hP] at hw2 hl ⊢
  have hk2 : ∀ q ∈ pieces P, kindP q.2 ≠ 0 := fun q hq => by
    have : q.2 ∈ (pieces s.data.toList).map Prod.snd := by rw [← hw2]; exact List.mem_map_of_mem hq
    obtain ⟨q', hq', e⟩ := List.mem_map.1 this
    rw [← e]
    exact hk q' hq'
  have hn2 : (pieces P).length ≤ 600 := by have := congrArg List.length hw2; simp at this; omega
  have hkey : ((pieces s.data.toList).map tok).map keyT = ((pieces P).map tok).map keyT := by
    have e : ∀ l : List Piece, (l.map tok).map keyT = (l.map Prod.snd).map fun w => (kindP w, bytesOf w, numP w) := fun l => by rw [List.map_map, List.map_map]; rfl
    rw [e, e, hw2]
  obtain ⟨τ, hτ, ha⟩ := parse_alike hkey hp
  refine ⟨τ, ?_, ha⟩
  have hd : (⟨P.toArray⟩ : ByteArray).data.toList = P := by simp
  have hsz : ¬ 3000 < (⟨P.toArray⟩ : ByteArray).size := by
    show ¬ 3000 < P.toArray.size
    simp; omega
  have e1 : lexRes ⟨P.toArray⟩ = ((pieces P).map tok, 0, 0) := by
    unfold lexRes
    rw [if_neg hsz, hd, bad_ok (pieces P) 0 hk2 (by omega)]
  unfold readR
  rw [e1]
  simp only [if_true, hτ]
end Go.Proofs.YtpfgohlicfcaeabDoor
/-
  Same: forms that are the same but for places are told to be the same.
-/
namespace Go.Proofs.YtpfgohlicfcaeabDoor
open Go.RowKit Go.Deep Go.MapKept Go.Shelf
theorem below_drewN8 (w : World) (n : Nat) : Below w.heap.size w (w.drewN n) := ⟨rfl, rfl, rfl, Nat.le_refl _, fun _ _ => rfl⟩
theorem equal_ok (v u : Value) (ks : List Int) (w : World) (hv : SeesC w v ks.length 1 (intsI ks)) (hu : SeesC w u ks.length 1 (intsI ks)) (hl : ks.length ≤ 4611686018427387904) :
    Calls Tryd.prog 23 #[v, u] w fun e w' => e = .returned (.bool true) ∧ Below w.heap.size w w' := by
  obtain ⟨_, a, c, rfl, h1⟩ := hv
  obtain ⟨_, a', c', rfl, h2⟩ := hu
  by_cases h0 : ks.length = 0
  · rw [h0]
    refine (Tryd.slices_Equal_int_empty a a' c 0 c' w (by omega)).mono ?_
    rintro e w' ⟨rfl, rfl⟩
    exact ⟨rfl, Below.refl _ _⟩
  · obtain ⟨b, off, rfl, hc⟩ := h1.resolve_left h0
    obtain ⟨b', off', rfl, hc'⟩ := h2.resolve_left h0
    have hcell : ∀ (b off : Nat), (∀ (j : Nat) (c : Value), (intsI ks)[j]? = some c → w.cell? ⟨b, off + j, none⟩ = some c) → ∀ j, j < ks.length → w.cell? ⟨b, off + j, none⟩ = some (.int .i64 (ks.getD j 0)) := fun b off h j hj => by
      refine h j _ (intsI_get ?_)
      rw [List.getD_eq_getElem?_getD, List.getElem?_eq_getElem hj]
      rfl
    refine (Tryd.slices_Equal_int b off ks.length c b' off' ks.length c' ks ks w (Nat.le_refl _) (Nat.le_refl _) (by omega) (by omega) (hcell b off hc) (hcell b' off' hc')).mono ?_
    rintro e w' ⟨rfl, q, rfl⟩
    exact ⟨by simp, below_drewN8 w q⟩
def keyM (x : MV) : Int × ByteArray × Int × List Int := (x.1.k, x.1.s, x.1.n, x.1.kids)
set_option maxHeartbeats 1000000 in
theorem alike_ok (k : Int) (s : ByteArray) (n p q : Int) (a a' : Option Addr) (c c' : Nat) (ks : List Int) (w : World) (hv : SeesC w (.slice a ks.length c) ks.length 1 (intsI ks)) (hu : SeesC w (.slice a' ks.length c') ks.length 1 (intsI ks)) (hl : ks.length ≤ 4611686018427387904) :
    Calls Tryd.prog 25 #[.agg #[.int .u8 k, .string s, .int .i64 n, .slice a ks.length c, .int .i64 p], .agg #[.int .u8 k, .string s, .int .i64 n, .slice a' ks.length c', .int .i64 q]] w fun e w' => e = .returned (.bool true) ∧ Below w.heap.size w w' := by
  have CE := hidI fun (y : World) (hy : Below w.heap.size w y) => equal_ok _ _ ks y (hv.below hy (Nat.le_refl _)) (hu.below hy (Nat.le_refl _)) hl
  have hb : Below w.heap.size w ((w.alloc (.cells #[.int .u8 k, .string s, .int .i64 n, .slice a ks.length c, .int .i64 p] 35)).alloc (.cells #[.int .u8 k, .string s, .int .i64 n, .slice a' ks.length c', .int .i64 q] 35)) := by (repeat (first | exact Below.refl _ _ | assumption | refine Below.drew ?_ | refine Below.alloc ?_ (by first | omega | (simp; done) | (simp; omega)) _ | refine Below.setCell ?_ (by first | omega | (simp; done) | (simp; omega)) _))
  have HB := hidI hb
  clear hv hu hb
  go_enter Tryd.func25, Tryd.ntmps25
  go_wp2_with (go_at_call 23; refine (CE.out _ HB.out).mono ?_; rintro e w1 ⟨rfl, hb1⟩; have HB1 := hidI (HB.out.trans (hb1.mono HB.out.size)); clear hb1)
  go_ret
  exact ⟨by simp, HB1.out⟩
set_option maxHeartbeats 1000000 in
theorem equalFunc_ok (fv gv : Value) (ms ns : List MV) (w : World) (hm : SeesM w fv ms) (hn : SeesM w gv ns) (hk : ms.map keyM = ns.map keyM) (hml : ms.length ≤ 100000) (hfew : ∀ x ∈ ms, x.1.kids.length ≤ 4611686018427387904) :
    Calls Tryd.prog 24 #[fv, gv, .func (.func 25) #[] #[]] w fun e w' => e = .returned (.bool true) ∧ Below w.heap.size w w' := by
  have hlen : ns.length = ms.length := by have := congrArg List.length hk; simpa using this.symm
  obtain ⟨_, fa, fc, hfv, _⟩ := hm.row
  obtain ⟨_, ga, gc, hgv, _⟩ := hn.row
  rw [hlen] at hgv
  subst hfv
  subst hgv
  have HM := hidI hm
  have HN := hidI hn
  have HK := hidI hk
  have HF := hidI hfew
  have HLen := hidI hlen
  clear hm hn hk hfew hlen
  go_enter Tryd.func24, Tryd.ntmps24
  go_wp2
  go_loopg [17] ms.length (fun g s17 wx => ∃ i : Nat, i + g = ms.length ∧ s17 = .int .i64 (i : Int) ∧ Hid (Below w.heap.size w wx))
  case atStart => exact ⟨0, by omega, rfl, hidI (Below.refl _ _)⟩
  case round =>
    obtain ⟨i, hi, rfl, HX⟩ := hrel
    cases gk with
    | zero =>
      have i1 : ¬ ((i : Int) < (ms.length : Int)) := by omega
      go_wp2
      go_ret
      exact ⟨rfl, HX.out⟩
    | succ g =>
      have hil : i < ms.length := by omega
      have hil2 : i < ns.length := by rw [HLen.out]; exact hil
      obtain ⟨x, hx⟩ : ∃ x, ms[i]? = some x := ⟨_, List.getElem?_eq_getElem hil⟩
      obtain ⟨y, hy⟩ : ∃ y, ns[i]? = some y := ⟨_, List.getElem?_eq_getElem hil2⟩
      have hkey : keyM x = keyM y := by
        have := congrArg (fun l => l[i]?) HK.out
        simp only [List.getElem?_map, hx, hy, Option.map_some, Option.some.injEq] at this
        exact this
      unfold keyM at hkey
      simp only [Prod.mk.injEq] at hkey
      obtain ⟨k1, k2, k3, k4⟩ := hkey
      have hsm := HM.out.below HX.out (Nat.le_refl _)
      have hsn := HN.out.below HX.out (Nat.le_refl _)
      obtain ⟨fb, fo, fc', ka, kc, hfv, hkv, y0, y1, y2, y3, y4⟩ := hsm.load hx
      obtain ⟨gb, go', gc', la, lc, hgv, hlv, z0, z1, z2, z3, z4⟩ := hsn.load hy
      rw [HLen.out] at hgv
      cases hfv
      cases hgv
      have q1 := hsm.kid i x hx
      have q2 := hsn.kid i y hy
      rw [hkv] at q1
      rw [hlv] at q2
      rw [← k4] at q2 z3
      rw [← k1] at z0
      rw [← k2] at z1
      rw [← k3] at z2
      have hfx := HF.out x (List.mem_of_getElem? hx)
      have CA := hidI fun (Y : World) (hY : Below wr.heap.size wr Y) => alike_ok x.1.k x.1.s x.1.n x.1.p y.1.p ka la kc lc x.1.kids Y (q1.below hY (Nat.le_refl _)) (q2.below hY (Nat.le_refl _)) hfx
      have hb2 : Below wr.heap.size wr ((wr.alloc (.cells #[.int .u8 x.1.k, .string x.1.s, .int .i64 x.1.n, .slice ka x.1.kids.length kc, .int .i64 x.1.p] 35)).alloc (.cells #[.int .u8 x.1.k, .string x.1.s, .int .i64 x.1.n, .slice la x.1.kids.length lc, .int .i64 y.1.p] 35)) := by (repeat (first | exact Below.refl _ _ | assumption | refine Below.drew ?_ | refine Below.alloc ?_ (by first | omega | (simp; done) | (simp; omega)) _ | refine Below.setCell ?_ (by first | omega | (simp; done) | (simp; omega)) _))
      have HB2 := hidI hb2
      have hA : Below wr.heap.size wr (wr.alloc (.cells #[.int .u8 x.1.k, .string x.1.s, .int .i64 x.1.n, .slice ka x.1.kids.length kc, .int .i64 x.1.p] 35)) := by (repeat (first | exact Below.refl _ _ | assumption | refine Below.drew ?_ | refine Below.alloc ?_ (by first | omega | (simp; done) | (simp; omega)) _ | refine Below.setCell ?_ (by first | omega | (simp; done) | (simp; omega)) _))
      have lt1 := World.block_lt_of_cell? wr _ z0
      have z0' := (hA.cell lt1).trans z0
      have z1' := (hA.cell (p := ⟨gb, go' + i * 5 + 1, none⟩) lt1).trans z1
      have z2' := (hA.cell (p := ⟨gb, go' + i * 5 + 2, none⟩) lt1).trans z2
      have z3' := (hA.cell (p := ⟨gb, go' + i * 5 + 3, none⟩) lt1).trans z3
      have z4' := (hA.cell (p := ⟨gb, go' + i * 5 + 4, none⟩) lt1).trans z4
      have i1 : (i : Int) < (ms.length : Int) := by omega
      have i2 : (0 : Int) ≤ (i : Int) := by omega
      have i3 : ((i : Int)).toNat = i := by omega
      clear q1 q2 hkv hlv hsm hsn k1 k2 k3 k4 hb2 hA hx hy hil hil2 hfx
      go_wp2_with (go_at_call 25; refine (CA.out _ HB2.out).mono ?_; rintro e w1 ⟨rfl, hb1⟩; have HB1 := hidI (HX.out.trans ((HB2.out.trans (hb1.mono HB2.out.size)).mono HX.out.size)); clear hb1)
      go_roundg g
      case measure => omega
      case rel => exact ⟨i + 1, by omega, by go_num, HB1⟩
set_option maxHeartbeats 1000000 in
theorem same_ok (fv tv gv uv : Value) (ms ns : List MV) (top : List Int) (w : World) (hm : SeesM w fv ms) (hn : SeesM w gv ns) (hk : ms.map keyM = ns.map keyM) (hml : ms.length ≤ 100000) (hfew : ∀ x ∈ ms, x.1.kids.length ≤ 4611686018427387904) (ht : SeesC w tv top.length 1 (intsI top)) (hu : SeesC w uv top.length 1 (intsI top)) (htl : top.length ≤ 4611686018427387904) (hR1 : RightC fv tv true w) (hR2 : RightC gv uv true w) :
    Calls Tryd.prog 11 #[fv, tv, gv, uv] w fun e w' => e = .returned (.bool true) ∧ Below w.heap.size w w' := by
  have C1 := hidI (hR1 w (Below.refl _ _))
  have C2 := hidI hR2
  have C3 := hidI fun (y : World) (hy : Below w.heap.size w y) => equal_ok tv uv top y (ht.below hy (Nat.le_refl _)) (hu.below hy (Nat.le_refl _)) htl
  have C4 := hidI fun (y : World) (hy : Below w.heap.size w y) => equalFunc_ok fv gv ms ns y (hm.below hy (Nat.le_refl _)) (hn.below hy (Nat.le_refl _)) hk hml hfew
  clear hm hn hk hfew ht hu hR1 hR2
  go_enter Tryd.func11, Tryd.ntmps11
  go_wp2_with (go_at_call 22; refine C1.out.mono ?_; rintro e w1 ⟨rfl, hb1⟩; have HB1 := hidI hb1; clear hb1 C1; refine Hid.out ?_)
  refine hidI ?_
  go_wp2_with (go_at_call 22; refine (C2.out _ HB1.out).mono ?_; rintro e w2 ⟨rfl, hb2⟩; have HB2 := hidI (HB1.out.trans (hb2.mono HB1.out.size)); clear hb2 C2; refine Hid.out ?_)
  refine hidI ?_
  go_wp2_with (first
    | (go_at_call 23; refine (C3.out _ HB2.out).mono ?_; rintro e w3 ⟨rfl, hb3⟩; have HB3 := hidI (HB2.out.trans (hb3.mono HB2.out.size)); clear hb3)
    | (go_at_call 24; refine (C4.out _ HB3.out).mono ?_; rintro e w4 ⟨rfl, hb4⟩; have HB4 := hidI (HB3.out.trans (hb4.mono HB3.out.size)); clear hb4))
  go_ret
  exact ⟨rfl, HB4.out⟩
end Go.Proofs.YtpfgohlicfcaeabDoor
/-
  Reading any text; texts of forms that are the same but for places.
-/
namespace Go.Proofs.YtpfgohlicfcaeabDoor
open Go.RowKit Go.Deep Go.MapKept Go.Shelf
theorem run_sub2 {t : Txt} : ∀ (r : Txt) (p : Nat) (b : Option Nat) (k : Bool), ∀ q ∈ run t p b k r, q.2.length ≤ max t.length 1 := by
  intro r
  have hw : ∀ (p : Nat) (b : Option Nat), ∀ q ∈ word t p b, q.2.length ≤ max t.length 1 := by
    intro p b q hq
    cases b with
    | none => simp [word] at hq
    | some b => simp [word] at hq; subst hq; simp only [List.length_take, List.length_drop]; omega
  induction r with
  | nil =>
    intro p b k q hq
    cases k <;> exact hw p b q (by simpa [run] using hq)
  | cons c r ih =>
    intro p b k q hq
    cases k with
    | true =>
      simp only [run] at hq
      split at hq <;> exact ih _ _ _ q hq
    | false =>
      simp only [run] at hq
      split at hq
      · rcases List.mem_append.1 hq with h | h
        · exact hw p b q h
        · exact ih _ _ _ q h
      · split at hq
        · rcases List.mem_append.1 hq with h | h
          · exact hw p b q h
          · rcases List.mem_cons.1 h with rfl | h
            · simp; omega
            · exact ih _ _ _ q h
        · split at hq
          · rcases List.mem_append.1 hq with h | h
            · exact hw p b q h
            · exact ih _ _ _ q h
          · exact ih _ _ _ q hq
theorem lex_ok3 (s : ByteArray) : (lexRes s).1.length ≤ 600 ∧ ∀ t ∈ (lexRes s).1, TokOk t := by
  unfold lexRes
  by_cases h : 3000 < s.size
  · rw [if_pos h]; simp
  rw [if_neg h]
  split
  · simp
  · rename_i hb
    obtain ⟨h1, h2⟩ := bad_none 0 _ (by omega) hb
    refine ⟨by simpa using h1, fun t ht => ?_⟩
    obtain ⟨q, hq, rfl⟩ := List.mem_map.1 ht
    have hl := run_sub2 _ _ _ _ q hq
    have hsz : s.data.toList.length = s.size := by rw [Array.length_toList]; rfl
    refine ⟨fun h3 => ?_, fun h4 => ?_, ?_⟩
    · have h3' : kindP q.2 = 3 := h3
      unfold kindP at h3'
      split at h3'
      · simp at h3'
      · split at h3'
        · simp at h3'
        · exact h3'
    · have h4' : kindP q.2 = 4 := h4
      show In64 (numP q.2)
      unfold numP
      rw [if_pos h4']
      unfold kindP at h4'
      split at h4'
      · simp at h4'
      · split at h4'
        · simp at h4'
        · unfold kindW at h4'
          split at h4'
          · rename_i hn; exact (numV_in hn).1
          · split at h4' <;> simp at h4'
    · show (bytesOf q.2).size ≤ 3000
      rw [bytes_size]
      omega
set_option maxHeartbeats 1000000 in
theorem read9_any (s : ByteArray) (w : World) : Calls Tryd.prog 7 #[.string s] w fun e w' => ReadPost s w e w' := by
  have CT := hidI (rtoks_any s w)
  have hlen := (lex_ok3 s).1
  have CP := hidI fun (v : Value) (y : World) (hv : SeesC y v (lexRes s).1.length 4 (flatT (lexRes s).1)) => rtparse_any (lexRes s).1 v y hv (by omega)
  have HR : Hid (readR s = if (lexRes s).2.2 = 0 then (match parse (lexRes s).1 with | .ok σ => some σ | .error _ => none) else none) := hidI rfl
  unfold ReadPost
  rw [HR.out]
  obtain ⟨lr, hlr⟩ : ∃ lr, lexRes s = lr := ⟨_, rfl⟩
  have HT : Hid (∀ v w', RTPost s w v w' → ∃ u, v = .tuple #[u, .int .i64 lr.2.1, .int .i64 lr.2.2] ∧ SeesC w' u lr.1.length 4 (flatT lr.1) ∧ Below w.heap.size w w') := hidI fun v w' hp => by rw [← hlr]; exact hp
  rw [hlr] at CP ⊢
  clear hlr hlen HR
  by_cases h0 : lr.2.2 = 0
  · rw [if_pos h0]
    rw [h0] at HT
    cases hp : parse lr.1 with
    | error q =>
      rw [hp] at CP
      have hq := tparse_err hp
      have hne : (q.2 == 0) = false := by rcases hq with h | h <;> rw [h] <;> rfl
      have hne2 : ¬ q.2 = 0 := by rcases hq with h | h <;> rw [h] <;> decide
      clear hp hq h0
      go_enter Tryd.func7, Tryd.ntmps7
      go_wp2_with (go_at_call 16; refine CT.out.mono ?_; rintro e w1 ⟨v, rfl, hv⟩; obtain ⟨u, rfl, hu, hb1⟩ := HT.out _ _ hv; have HU := hidI hu; have HB1 := hidI hb1; clear hv hu hb1; refine Hid.out ?_)
      refine hidI ?_
      go_wp2_with (go_at_call 17; refine (CP.out _ _ HU.out).mono ?_; rintro e w2 ⟨rfl, hb2⟩; have HB2 := hidI (HB1.out.trans (hb2.mono HB1.out.size)); clear hb2)
      refine bodyPost_ret (results_3t rfl _ _ _) rfl ?_
      exact ⟨⟨_, _, rfl⟩, HB2.out⟩
    | ok σ =>
      rw [hp] at CP
      clear hp h0
      go_enter Tryd.func7, Tryd.ntmps7
      go_wp2_with (go_at_call 16; refine CT.out.mono ?_; rintro e w1 ⟨v, rfl, hv⟩; obtain ⟨u, rfl, hu, hb1⟩ := HT.out _ _ hv; have HU := hidI hu; have HB1 := hidI hb1; clear hv hu hb1; refine Hid.out ?_)
      refine hidI ?_
      go_wp2_with (go_at_call 17; refine (CP.out _ _ HU.out).mono ?_; rintro e w2 ⟨fv, tv, rfl, hf, ht, hb2⟩; have HF := hidI hf; have HTt := hidI ht; have HB2 := hidI (HB1.out.trans (hb2.mono HB1.out.size)); clear hf ht hb2)
      refine bodyPost_ret (results_3t rfl _ _ _) rfl ?_
      exact ⟨_, _, rfl, HF.out, HTt.out, HB2.out⟩
  · rw [if_neg h0]
    have hne : (lr.2.2 == 0) = false := by simp [h0]
    go_enter Tryd.func7, Tryd.ntmps7
    go_wp2_with (go_at_call 16; refine CT.out.mono ?_; rintro e w1 ⟨v, rfl, hv⟩; obtain ⟨u, rfl, hu, hb1⟩ := HT.out _ _ hv; have HB1 := hidI hb1; clear hv hu hb1)
    refine bodyPost_ret (results_3t rfl _ _ _) rfl ?_
    exact ⟨⟨_, _, rfl⟩, HB1.out⟩
theorem rd_of3 {s : ByteArray} {σ : St} (hr : readR s = some σ) : ∃ lv, Rd (lexRes s).1 σ lv := by
  unfold readR at hr
  split at hr
  · split at hr
    · rename_i σ' hp
      cases hr
      obtain ⟨lv, h1, h2, h3, _⟩ := shape_parse hp
      have ho := (lex_ok3 s).2
      refine ⟨lv, h1, h2, h3, parse_good hp, fun t ht => by have := (ho t ht).2.2; omega, ?_, told_parse ho hp⟩
      rw [List.all_eq_true]
      intro t ht
      unfold nmT
      by_cases hk : t.k = 3
      · simp [hk, (ho t ht).1 hk]
      · simp [hk]
    · cases hr
  · cases hr
def keyF (f : Fm) : Int × ByteArray × Int × List Int := (f.k, f.s, f.n, f.kids)
theorem key_at {A B : List Fm} (h : A.map keyF = B.map keyF) (i : Nat) : (A[i]?).map keyF = (B[i]?).map keyF := by rw [← List.getElem?_map, ← List.getElem?_map, h]
theorem txt_alike {A B : List Fm} (h : A.map keyF = B.map keyF) (gap : GapF) : ∀ (m : Nat) (a : Int) (d : Nat), txt A gap m a d = txt B gap m a d
  | 0, a, d => rfl
  | m + 1, a, d => by
    unfold txt
    have hk := key_at h a.toNat
    cases ha : A[a.toNat]? with
    | none =>
      rw [ha] at hk
      cases hb : B[a.toNat]? with
      | none => rfl
      | some y => rw [hb] at hk; simp at hk
    | some x =>
      rw [ha] at hk
      cases hb : B[a.toNat]? with
      | none => rw [hb] at hk; simp at hk
      | some y =>
        rw [hb] at hk
        simp only [Option.map_some, Option.some.injEq, keyF, Prod.mk.injEq] at hk
        obtain ⟨e1, e2, e3, e4⟩ := hk
        simp only [e1, e2, e3, e4, txt_alike h gap m]
theorem keyF_of {σ τ : St} (h : Alike σ τ) : (σ.forms.map toFm).map keyF = (τ.forms.map toFm).map keyF := by
  have e : ∀ l : List Frm, (l.map toFm).map keyF = (l.map key4).map fun p => (p.1, p.2.1, p.2.2.1, castI p.2.2.2) := fun l => by rw [List.map_map, List.map_map]; rfl
  rw [e, e, h.forms]
theorem prn_alike {σ τ : St} (h : Alike σ τ) : prn (τ.forms.map toFm) gapB (castI τ.top) = prn (σ.forms.map toFm) gapB (castI σ.top) := by
  unfold prn
  rw [h.top]
  congr 1
  funext t
  unfold lineT
  rw [List.length_map, List.length_map, h.len, txt_alike (keyF_of h) gapB]
theorem keyM_of {σ τ : St} (h : Alike σ τ) {ms ns : List MV} (hm : ms.map Prod.fst = σ.forms.map toFm) (hn : ns.map Prod.fst = τ.forms.map toFm) : ms.map keyM = ns.map keyM := by
  have e : ∀ l : List MV, l.map keyM = (l.map Prod.fst).map keyF := fun l => by rw [List.map_map]; rfl
  rw [e, e, hm, hn, keyF_of h]
theorem read_weak (s : ByteArray) (w : World) : Calls Tryd.prog 7 #[.string s] w fun e w' => (∃ fv tv b, e = .returned (.tuple #[fv, tv, .bool b])) ∧ Below w.heap.size w w' := by
  refine (read9_any s w).mono ?_
  intro e w' h
  unfold ReadPost at h
  split at h
  · obtain ⟨⟨fv, tv, rfl⟩, hb⟩ := h
    exact ⟨⟨fv, tv, false, rfl⟩, hb⟩
  · obtain ⟨fv, tv, rfl, _, _, hb⟩ := h
    exact ⟨⟨fv, tv, true, rfl⟩, hb⟩
theorem read_some {s : ByteArray} {σ : St} (h : readR s = some σ) (w : World) : Calls Tryd.prog 7 #[.string s] w fun e w' => ∃ fv tv, e = .returned (.tuple #[fv, tv, .bool true]) ∧ SeesF w' fv σ.forms ∧ SeesC w' tv σ.top.length 1 (ints σ.top) ∧ Below w.heap.size w w' := by
  have := read9_any s w
  unfold ReadPost at this
  rw [h] at this
  exact this
/-- What has been read lies in memory, for all that follows. -/
structure Lies (w : World) (σ : St) (lv : List Nat) (T : List Tok) (fv tv : Value) (ms : List MV) : Prop where
  rd : Rd T σ lv
  same : ms.map Prod.fst = σ.forms.map toFm
  sees : SeesM w fv ms
  tops : SeesC w tv (castI σ.top).length 1 (intsI (castI σ.top))
  room : ∀ x ∈ ms, Roomy x.2
theorem Lies.on {w w' : World} {σ : St} {lv : List Nat} {T : List Tok} {fv tv : Value} {ms : List MV} (h : Lies w σ lv T fv tv ms) (hb : Below w.heap.size w w') : Lies w' σ lv T fv tv ms :=
  ⟨h.rd, h.same, h.sees.below hb (Nat.le_refl _), h.tops.below hb (Nat.le_refl _), h.room⟩
theorem lies_of {w : World} {s : ByteArray} {σ : St} (h : readR s = some σ) {fv tv : Value} (hf : SeesF w fv σ.forms) (ht : SeesC w tv σ.top.length 1 (ints σ.top)) : ∃ lv ms, Lies w σ lv (lexRes s).1 fv tv ms := by
  obtain ⟨lv, hr⟩ := rd_of3 h
  obtain ⟨ms, h1, h2, h3⟩ := seesM_of hf
  exact ⟨lv, ms, hr, h1, h2, sees_ints ht, h3⟩
theorem Lies.len {w : World} {σ : St} {lv : List Nat} {T : List Tok} {fv tv : Value} {ms : List MV} (h : Lies w σ lv T fv tv ms) : ms.length ≤ 400 := by have := len_same h.same; have := h.rd.good.len; omega
theorem Lies.tlen {w : World} {σ : St} {lv : List Nat} {T : List Tok} {fv tv : Value} {ms : List MV} (h : Lies w σ lv T fv tv ms) : (castI σ.top).length ≤ 400 := by have := h.rd.good.len; have := h.rd.good.top_len; simp [castI]; omega
section
variable {w : World} {σ : St} {lv : List Nat} {T : List Tok} {fv tv : Value} {ms : List MV} (h : Lies w σ lv T fv tv ms) (hL : Laid w)
include h hL
theorem Lies.right : RightC fv tv true w := h.rd.right h.same hL h.sees h.tops
theorem Lies.print : Calls Tryd.prog 9 #[fv, tv] w fun e w' => e = .returned (.tuple #[.string ⟨(prn (σ.forms.map toFm) gapB (castI σ.top)).toArray⟩, .int .i64 0]) ∧ Below w.heap.size w w' := by
  have hfo : formsOf ms = σ.forms.map toFm := h.same
  have hl := len_prn h.rd.shape h.rd.told h.rd.good.len gapB (fun ks n d _ => len_gapB ks n d)
  have h1 := h.len
  have h2 := h.tlen
  have := print_any fv tv ms (castI σ.top) w h.sees h.tops (h.right hL) (h.rd.tellable h.same) (by omega) hL.tab (h.rd.tops h.same) (by omega) (by rw [hfo]; omega)
  rw [hfo] at this
  exact this
theorem Lies.pretty : Calls Tryd.prog 10 #[fv, tv] w fun e w' => e = .returned (.tuple #[.string ⟨(prn (σ.forms.map toFm) (gapL (σ.forms.map toFm)) (castI σ.top)).toArray⟩, .int .i64 0]) ∧ Below w.heap.size w w' := by
  have hfo : formsOf ms = σ.forms.map toFm := h.same
  have hl := len_prn h.rd.shape h.rd.told h.rd.good.len (gapL (σ.forms.map toFm)) (fun ks n d hd => len_gapL _ ks n d hd)
  have h1 := h.len
  have h2 := h.tlen
  have := pretty_any fv tv ms (castI σ.top) w h.sees h.tops (h.right hL) (h.rd.tellable h.same) (by omega) hL.tab (h.rd.tops h.same) (by omega) (by rw [hfo]; omega) h.room
  rw [hfo] at this
  exact this
theorem Lies.alike {τ : St} {lv' : List Nat} {T' : List Tok} {gv uv : Value} {ns : List MV} (h' : Lies w τ lv' T' gv uv ns) (ha : Alike σ τ) : Calls Tryd.prog 11 #[fv, tv, gv, uv] w fun e w' => e = .returned (.bool true) ∧ Below w.heap.size w w' := by
  have h1 := h.len
  have h2 := h.tlen
  have ht := h'.tops
  rw [← ha.top] at ht
  exact same_ok fv tv gv uv ms ns (castI σ.top) w h.sees h'.sees (keyM_of ha h.same h'.same) (by omega) (h.rd.tellable h.same).few h.tops ht (by omega) (h.right hL) (h'.right hL)
end
end Go.Proofs.YtpfgohlicfcaeabDoor
/-
  ShowBack: what is read of Print is the same form, and is printed so again; so it is of lines.
-/
namespace Go.Proofs.YtpfgohlicfcaeabDoor
open Go.RowKit Go.Deep Go.MapKept Go.Shelf
set_option maxRecDepth 100000 in
set_option maxHeartbeats 4000000 in
theorem showBack_law (s : ByteArray) (w : World) (hL : Laid w) : Calls Tryd.prog 3 #[.string s] w fun e w' => e = .returned (.bool true) ∧ Below w.heap.size w w' := by
  have HL := hidI hL
  clear hL
  have ql : ∀ w, (Builtin.len_ #[9] 3 #[.string s]).run Tryd.prog w = .ok (.int .i64 (s.size : Int)) w := fun w => by rw [run_len_string w 9 3 s Tryd.underlying9]; rfl
  by_cases hc : 700 < s.size
  · have qs : ∀ w, (Instr.slice 9 (.string s) none (some (.int .i64 700)) none).run Tryd.prog w = .ok (.string (bytesOf (s.data.toList.take 700))) w := fun w => by exact cut_string s 700 (by omega) w
    obtain ⟨s1, hs1⟩ : ∃ s1, bytesOf (s.data.toList.take 700) = s1 := ⟨_, rfl⟩
    rw [hs1] at qs
    have e0 : (700 : Int) < (s.size : Int) := by omega
    obtain ⟨n, hn⟩ : ∃ n, s.size = n := ⟨_, rfl⟩
    rw [hn] at ql e0
    clear hs1 hn hc
    cases hr : readR s1 with
    | none =>
      have CR0 := read9_any s1 w
      unfold ReadPost at CR0
      rw [hr] at CR0
      have CR := hidI CR0
      clear CR0 hr
      go_enter Tryd.func3, Tryd.ntmps3
      go_wp2_with (first
        | (go_at_call 7; refine CR.out.mono ?_; rintro e w1 ⟨⟨fv, tv, rfl⟩, hb1⟩; have HB1 := hidI hb1; clear hb1)
        | (go_at_call 8; refine (live8_any _ (HL.out.on HB1.out)).mono ?_; rintro e w2 ⟨rfl, hb2⟩; have HB2 := hidI (HB1.out.trans (hb2.mono HB1.out.size)); clear hb2))
      go_ret
      exact ⟨rfl, HB2.out⟩
    | some σ =>
      have CR := hidI (read_some hr w)
      have HR := hidI hr
      obtain ⟨PB, hPB⟩ : ∃ PB, prn (σ.forms.map toFm) gapB (castI σ.top) = PB := ⟨_, rfl⟩
      obtain ⟨PL, hPL⟩ : ∃ PL, prn (σ.forms.map toFm) (gapL (σ.forms.map toFm)) (castI σ.top) = PL := ⟨_, rfl⟩
      have HPB := hidI hPB
      have HPL := hidI hPL
      obtain ⟨SB, hSB⟩ : ∃ SB, (⟨PB.toArray⟩ : ByteArray) = SB := ⟨_, rfl⟩
      obtain ⟨SL, hSL⟩ : ∃ SL, (⟨PL.toArray⟩ : ByteArray) = SL := ⟨_, rfl⟩
      have zB : SB.size = PB.length := by rw [← hSB]; show PB.toArray.size = _; simp
      have zL : SL.size = PL.length := by rw [← hSL]; show PL.toArray.size = _; simp
      have qB : ∀ w, (Builtin.len_ #[9] 3 #[.string SB]).run Tryd.prog w = .ok (.int .i64 (PB.length : Int)) w := fun w => by rw [run_len_string w 9 3 SB Tryd.underlying9, zB]; rfl
      have qL : ∀ w, (Builtin.len_ #[9] 3 #[.string SL]).run Tryd.prog w = .ok (.int .i64 (PL.length : Int)) w := fun w => by rw [run_len_string w 9 3 SL Tryd.underlying9, zL]; rfl
      have HSB := hidI hSB
      have HSL := hidI hSL
      clear hr zB zL hPB hPL hSB hSL
      go_enter Tryd.func3, Tryd.ntmps3
      go_wp2_with (go_at_call 7; refine CR.out.mono ?_; rintro e w1 ⟨fv, tv, rfl, hf, ht, hb1⟩; have HF := hidI hf; have HT0 := hidI ht; have HB1 := hidI hb1; clear hf ht hb1 CR; refine Hid.out ?_)
      refine hidI ?_
      obtain ⟨lv, ms, hli⟩ := lies_of HR.out HF.out HT0.out
      obtain ⟨_, fa, fc, hfv, _⟩ := hli.sees.row
      obtain ⟨_, ta, tc, htv, _⟩ := id hli.tops
      obtain ⟨N, hN⟩ : ∃ N, ms.length = N := ⟨_, rfl⟩
      obtain ⟨K, hK⟩ : ∃ K, (castI σ.top).length = K := ⟨_, rfl⟩
      rw [hN] at hfv
      rw [hK] at htv
      subst hfv
      subst htv
      have HLi := hidI hli
      clear hli hN hK HF HT0
      have CP : Hid (∀ y, Below w1.heap.size w1 y → Calls Tryd.prog 9 #[.slice fa N fc, .slice ta K tc] y fun e w' => e = .returned (.tuple #[.string SB, .int .i64 0]) ∧ Below y.heap.size y w') := hidI fun y hy => by
        have := (HLi.out.on hy).print ((HL.out.on HB1.out).on hy)
        rw [HPB.out, HSB.out] at this
        exact this
      have CQ : Hid (∀ y, Below w1.heap.size w1 y → Calls Tryd.prog 10 #[.slice fa N fc, .slice ta K tc] y fun e w' => e = .returned (.tuple #[.string SL, .int .i64 0]) ∧ Below y.heap.size y w') := hidI fun y hy => by
        have := (HLi.out.on hy).pretty ((HL.out.on HB1.out).on hy)
        rw [HPL.out, HSL.out] at this
        exact this
      go_wp2_with (go_at_call 9; refine (CP.out _ (Below.refl _ _)).mono ?_; rintro e w2 ⟨rfl, hb2⟩; have HB2 := hidI hb2; clear hb2 CP; refine Hid.out ?_)
      refine hidI ?_
      go_wp2_with (go_at_call 10; refine (CQ.out _ HB2.out).mono ?_; rintro e w3 ⟨rfl, hb3⟩; have HB3 := hidI (HB2.out.trans (hb3.mono HB2.out.size)); clear hb3 CQ; refine Hid.out ?_)
      refine hidI ?_
      by_cases hl3 : PL.length ≤ 3000 ∧ PB.length ≤ 3000
      · obtain ⟨hlL, hlB⟩ := hl3
        have hrb := read_back HLi.out.rd HR.out gapOk_B (by rw [HPB.out]; exact hlB)
        have hrl := read_back HLi.out.rd HR.out (gapOk_L (σ.forms.map toFm)) (by rw [HPL.out]; exact hlL)
        rw [HPB.out, HSB.out] at hrb
        rw [HPL.out, HSL.out] at hrl
        obtain ⟨τ, hτ, hat⟩ := hrb
        obtain ⟨υ, hυ, hau⟩ := hrl
        have C1 := hidI fun (y : World) => read_some hτ y
        have C2 := hidI fun (y : World) => read_some hυ y
        have Hτ := hidI hτ
        have Hυ := hidI hυ
        have Hat := hidI hat
        have Hau := hidI hau
        have e1 : ¬ (3000 : Int) < (PL.length : Int) := by omega
        have e2 : ¬ (3000 : Int) < (PB.length : Int) := by omega
        clear hτ hυ hat hau hlL hlB
        go_wp2_with (go_at_call 7; refine (C1.out _).mono ?_; rintro e w4 ⟨gv, uv, rfl, hf, ht, hb4⟩; have HF := hidI hf; have HT0 := hidI ht; have HS4 := hidI hb4; have HB4 := hidI (HB3.out.trans (hb4.mono HB3.out.size)); clear hf ht hb4 C1; refine Hid.out ?_)
        refine hidI ?_
        go_wp2_with (go_at_call 7; refine (C2.out _).mono ?_; rintro e w5 ⟨gv2, uv2, rfl, hf, ht, hb5⟩; have HF2 := hidI hf; have HT2 := hidI ht; have HS5 := hidI hb5; have HB5 := hidI (HB4.out.trans (hb5.mono HB4.out.size)); clear hf ht hb5 C2; refine Hid.out ?_)
        refine hidI ?_
        obtain ⟨lv1, ns, hl1⟩ := lies_of Hτ.out HF.out HT0.out
        obtain ⟨lv2, os, hl2⟩ := lies_of Hυ.out HF2.out HT2.out
        obtain ⟨_, ga, gc, hgv, _⟩ := hl1.sees.row
        obtain ⟨_, ua, uc, huv, _⟩ := id hl1.tops
        obtain ⟨_, ga2, gc2, hgv2, _⟩ := hl2.sees.row
        obtain ⟨_, ua2, uc2, huv2, _⟩ := id hl2.tops
        have h15 := hl1.on HS5.out
        obtain ⟨N1, hN1⟩ : ∃ N1, ns.length = N1 := ⟨_, rfl⟩
        obtain ⟨K1, hK1⟩ : ∃ K1, (castI τ.top).length = K1 := ⟨_, rfl⟩
        obtain ⟨N2, hN2⟩ : ∃ N2, os.length = N2 := ⟨_, rfl⟩
        obtain ⟨K2, hK2⟩ : ∃ K2, (castI υ.top).length = K2 := ⟨_, rfl⟩
        rw [hN1] at hgv
        rw [hK1] at huv
        rw [hN2] at hgv2
        rw [hK2] at huv2
        subst hgv
        subst huv
        subst hgv2
        subst huv2
        have H1 := hidI h15
        have H2 := hidI hl2
        have HW5 : Hid (Laid w5) := hidI ((HL.out.on HB1.out).on HB5.out)
        have H0 := hidI (HLi.out.on HB5.out)
        have CPr : Hid (∀ y, Below w5.heap.size w5 y → Calls Tryd.prog 9 #[.slice ga N1 gc, .slice ua K1 uc] y fun e w' => e = .returned (.tuple #[.string SB, .int .i64 0]) ∧ Below y.heap.size y w') := hidI fun y hy => by
          have := (H1.out.on hy).print (HW5.out.on hy)
          rw [prn_alike Hat.out, HPB.out, HSB.out] at this
          exact this
        have CS1 := hidI fun (y : World) (hy : Below w5.heap.size w5 y) => (H0.out.on hy).alike (HW5.out.on hy) (H1.out.on hy) Hat.out
        have CS2 := hidI fun (y : World) (hy : Below w5.heap.size w5 y) => (H0.out.on hy).alike (HW5.out.on hy) (H2.out.on hy) Hau.out
        clear hl1 hl2 h15 hN1 hK1 hN2 hK2 HF HT0 HF2 HT2 HS4 HS5
        go_wp2_with (go_at_call 9; refine (CPr.out _ (Below.refl _ _)).mono ?_; rintro e w6 ⟨rfl, hb6⟩; have HB6 := hidI hb6; clear hb6 CPr; refine Hid.out ?_)
        refine hidI ?_
        go_wp2_with (go_at_call 8; refine (live8_any _ (HW5.out.on HB6.out)).mono ?_; rintro e w7 ⟨rfl, hb7⟩; have HB7 := hidI (HB6.out.trans (hb7.mono HB6.out.size)); clear hb7; refine Hid.out ?_)
        refine hidI ?_
        go_wp2_with (go_at_call 11; refine (CS1.out _ HB7.out).mono ?_; rintro e w8 ⟨rfl, hb8⟩; have HB8 := hidI (HB7.out.trans (hb8.mono HB7.out.size)); clear hb8 CS1; refine Hid.out ?_)
        refine hidI ?_
        go_wp2_with (go_at_call 11; refine (CS2.out _ HB8.out).mono ?_; rintro e w9 ⟨rfl, hb9⟩; have HB9 := hidI (HB8.out.trans (hb9.mono HB8.out.size)); clear hb9 CS2)
        go_ret
        exact ⟨by simp, HB1.out.trans ((HB5.out.trans (HB9.out.mono HB5.out.size)).mono HB1.out.size)⟩
      · have C1 := hidI fun (y : World) => read_weak SB y
        have C2 := hidI fun (y : World) => read_weak SL y
        have HC : Hid (PL.length ≤ 3000 → ¬ PB.length ≤ 3000) := hidI fun a b => hl3 ⟨a, b⟩
        clear hl3
        go_wp2_with (go_at_call 7; refine (C1.out _).mono ?_; rintro e w4 ⟨⟨gv, uv, bb, rfl⟩, hb4⟩; have HB4 := hidI (HB3.out.trans (hb4.mono HB3.out.size)); clear hb4 C1; refine Hid.out ?_)
        refine hidI ?_
        go_wp2_with (go_at_call 7; refine (C2.out _).mono ?_; rintro e w5 ⟨⟨gv2, uv2, bb2, rfl⟩, hb5⟩; have HB5 := hidI (HB4.out.trans (hb5.mono HB4.out.size)); clear hb5 C2; refine Hid.out ?_)
        refine hidI ?_
        have HW5 : Hid (Laid w5) := hidI ((HL.out.on HB1.out).on HB5.out)
        by_cases hlL : 3000 < PL.length
        · have e1 : (3000 : Int) < (PL.length : Int) := by omega
          clear hlL
          go_wp2_with (go_at_call 8; refine (live8_any _ HW5.out).mono ?_; rintro e w6 ⟨rfl, hb6⟩; have HB6 := hidI (HB5.out.trans (hb6.mono HB5.out.size)); clear hb6)
          go_ret
          exact ⟨rfl, HB1.out.trans (HB6.out.mono HB1.out.size)⟩
        · have e1 : ¬ (3000 : Int) < (PL.length : Int) := by omega
          have hlB := HC.out (by omega)
          have e2 : (3000 : Int) < (PB.length : Int) := by omega
          clear hlL hlB
          go_wp2_with (go_at_call 8; refine (live8_any _ HW5.out).mono ?_; rintro e w6 ⟨rfl, hb6⟩; have HB6 := hidI (HB5.out.trans (hb6.mono HB5.out.size)); clear hb6)
          go_ret
          exact ⟨rfl, HB1.out.trans (HB6.out.mono HB1.out.size)⟩
  · have e0 : ¬ (700 : Int) < (s.size : Int) := by omega
    obtain ⟨n, hn⟩ : ∃ n, s.size = n := ⟨_, rfl⟩
    rw [hn] at ql e0
    clear hn hc
    cases hr : readR s with
    | none =>
      have CR0 := read9_any s w
      unfold ReadPost at CR0
      rw [hr] at CR0
      have CR := hidI CR0
      clear CR0 hr
      go_enter Tryd.func3, Tryd.ntmps3
      go_wp2_with (first
        | (go_at_call 7; refine CR.out.mono ?_; rintro e w1 ⟨⟨fv, tv, rfl⟩, hb1⟩; have HB1 := hidI hb1; clear hb1)
        | (go_at_call 8; refine (live8_any _ (HL.out.on HB1.out)).mono ?_; rintro e w2 ⟨rfl, hb2⟩; have HB2 := hidI (HB1.out.trans (hb2.mono HB1.out.size)); clear hb2))
      go_ret
      exact ⟨rfl, HB2.out⟩
    | some σ =>
      have CR := hidI (read_some hr w)
      have HR := hidI hr
      obtain ⟨PB, hPB⟩ : ∃ PB, prn (σ.forms.map toFm) gapB (castI σ.top) = PB := ⟨_, rfl⟩
      obtain ⟨PL, hPL⟩ : ∃ PL, prn (σ.forms.map toFm) (gapL (σ.forms.map toFm)) (castI σ.top) = PL := ⟨_, rfl⟩
      have HPB := hidI hPB
      have HPL := hidI hPL
      obtain ⟨SB, hSB⟩ : ∃ SB, (⟨PB.toArray⟩ : ByteArray) = SB := ⟨_, rfl⟩
      obtain ⟨SL, hSL⟩ : ∃ SL, (⟨PL.toArray⟩ : ByteArray) = SL := ⟨_, rfl⟩
      have zB : SB.size = PB.length := by rw [← hSB]; show PB.toArray.size = _; simp
      have zL : SL.size = PL.length := by rw [← hSL]; show PL.toArray.size = _; simp
      have qB : ∀ w, (Builtin.len_ #[9] 3 #[.string SB]).run Tryd.prog w = .ok (.int .i64 (PB.length : Int)) w := fun w => by rw [run_len_string w 9 3 SB Tryd.underlying9, zB]; rfl
      have qL : ∀ w, (Builtin.len_ #[9] 3 #[.string SL]).run Tryd.prog w = .ok (.int .i64 (PL.length : Int)) w := fun w => by rw [run_len_string w 9 3 SL Tryd.underlying9, zL]; rfl
      have HSB := hidI hSB
      have HSL := hidI hSL
      clear hr zB zL hPB hPL hSB hSL
      go_enter Tryd.func3, Tryd.ntmps3
      go_wp2_with (go_at_call 7; refine CR.out.mono ?_; rintro e w1 ⟨fv, tv, rfl, hf, ht, hb1⟩; have HF := hidI hf; have HT0 := hidI ht; have HB1 := hidI hb1; clear hf ht hb1 CR; refine Hid.out ?_)
      refine hidI ?_
      obtain ⟨lv, ms, hli⟩ := lies_of HR.out HF.out HT0.out
      obtain ⟨_, fa, fc, hfv, _⟩ := hli.sees.row
      obtain ⟨_, ta, tc, htv, _⟩ := id hli.tops
      obtain ⟨N, hN⟩ : ∃ N, ms.length = N := ⟨_, rfl⟩
      obtain ⟨K, hK⟩ : ∃ K, (castI σ.top).length = K := ⟨_, rfl⟩
      rw [hN] at hfv
      rw [hK] at htv
      subst hfv
      subst htv
      have HLi := hidI hli
      clear hli hN hK HF HT0
      have CP : Hid (∀ y, Below w1.heap.size w1 y → Calls Tryd.prog 9 #[.slice fa N fc, .slice ta K tc] y fun e w' => e = .returned (.tuple #[.string SB, .int .i64 0]) ∧ Below y.heap.size y w') := hidI fun y hy => by
        have := (HLi.out.on hy).print ((HL.out.on HB1.out).on hy)
        rw [HPB.out, HSB.out] at this
        exact this
      have CQ : Hid (∀ y, Below w1.heap.size w1 y → Calls Tryd.prog 10 #[.slice fa N fc, .slice ta K tc] y fun e w' => e = .returned (.tuple #[.string SL, .int .i64 0]) ∧ Below y.heap.size y w') := hidI fun y hy => by
        have := (HLi.out.on hy).pretty ((HL.out.on HB1.out).on hy)
        rw [HPL.out, HSL.out] at this
        exact this
      go_wp2_with (go_at_call 9; refine (CP.out _ (Below.refl _ _)).mono ?_; rintro e w2 ⟨rfl, hb2⟩; have HB2 := hidI hb2; clear hb2 CP; refine Hid.out ?_)
      refine hidI ?_
      go_wp2_with (go_at_call 10; refine (CQ.out _ HB2.out).mono ?_; rintro e w3 ⟨rfl, hb3⟩; have HB3 := hidI (HB2.out.trans (hb3.mono HB2.out.size)); clear hb3 CQ; refine Hid.out ?_)
      refine hidI ?_
      by_cases hl3 : PL.length ≤ 3000 ∧ PB.length ≤ 3000
      · obtain ⟨hlL, hlB⟩ := hl3
        have hrb := read_back HLi.out.rd HR.out gapOk_B (by rw [HPB.out]; exact hlB)
        have hrl := read_back HLi.out.rd HR.out (gapOk_L (σ.forms.map toFm)) (by rw [HPL.out]; exact hlL)
        rw [HPB.out, HSB.out] at hrb
        rw [HPL.out, HSL.out] at hrl
        obtain ⟨τ, hτ, hat⟩ := hrb
        obtain ⟨υ, hυ, hau⟩ := hrl
        have C1 := hidI fun (y : World) => read_some hτ y
        have C2 := hidI fun (y : World) => read_some hυ y
        have Hτ := hidI hτ
        have Hυ := hidI hυ
        have Hat := hidI hat
        have Hau := hidI hau
        have e1 : ¬ (3000 : Int) < (PL.length : Int) := by omega
        have e2 : ¬ (3000 : Int) < (PB.length : Int) := by omega
        clear hτ hυ hat hau hlL hlB
        go_wp2_with (go_at_call 7; refine (C1.out _).mono ?_; rintro e w4 ⟨gv, uv, rfl, hf, ht, hb4⟩; have HF := hidI hf; have HT0 := hidI ht; have HS4 := hidI hb4; have HB4 := hidI (HB3.out.trans (hb4.mono HB3.out.size)); clear hf ht hb4 C1; refine Hid.out ?_)
        refine hidI ?_
        go_wp2_with (go_at_call 7; refine (C2.out _).mono ?_; rintro e w5 ⟨gv2, uv2, rfl, hf, ht, hb5⟩; have HF2 := hidI hf; have HT2 := hidI ht; have HS5 := hidI hb5; have HB5 := hidI (HB4.out.trans (hb5.mono HB4.out.size)); clear hf ht hb5 C2; refine Hid.out ?_)
        refine hidI ?_
        obtain ⟨lv1, ns, hl1⟩ := lies_of Hτ.out HF.out HT0.out
        obtain ⟨lv2, os, hl2⟩ := lies_of Hυ.out HF2.out HT2.out
        obtain ⟨_, ga, gc, hgv, _⟩ := hl1.sees.row
        obtain ⟨_, ua, uc, huv, _⟩ := id hl1.tops
        obtain ⟨_, ga2, gc2, hgv2, _⟩ := hl2.sees.row
        obtain ⟨_, ua2, uc2, huv2, _⟩ := id hl2.tops
        have h15 := hl1.on HS5.out
        obtain ⟨N1, hN1⟩ : ∃ N1, ns.length = N1 := ⟨_, rfl⟩
        obtain ⟨K1, hK1⟩ : ∃ K1, (castI τ.top).length = K1 := ⟨_, rfl⟩
        obtain ⟨N2, hN2⟩ : ∃ N2, os.length = N2 := ⟨_, rfl⟩
        obtain ⟨K2, hK2⟩ : ∃ K2, (castI υ.top).length = K2 := ⟨_, rfl⟩
        rw [hN1] at hgv
        rw [hK1] at huv
        rw [hN2] at hgv2
        rw [hK2] at huv2
        subst hgv
        subst huv
        subst hgv2
        subst huv2
        have H1 := hidI h15
        have H2 := hidI hl2
        have HW5 : Hid (Laid w5) := hidI ((HL.out.on HB1.out).on HB5.out)
        have H0 := hidI (HLi.out.on HB5.out)
        have CPr : Hid (∀ y, Below w5.heap.size w5 y → Calls Tryd.prog 9 #[.slice ga N1 gc, .slice ua K1 uc] y fun e w' => e = .returned (.tuple #[.string SB, .int .i64 0]) ∧ Below y.heap.size y w') := hidI fun y hy => by
          have := (H1.out.on hy).print (HW5.out.on hy)
          rw [prn_alike Hat.out, HPB.out, HSB.out] at this
          exact this
        have CS1 := hidI fun (y : World) (hy : Below w5.heap.size w5 y) => (H0.out.on hy).alike (HW5.out.on hy) (H1.out.on hy) Hat.out
        have CS2 := hidI fun (y : World) (hy : Below w5.heap.size w5 y) => (H0.out.on hy).alike (HW5.out.on hy) (H2.out.on hy) Hau.out
        clear hl1 hl2 h15 hN1 hK1 hN2 hK2 HF HT0 HF2 HT2 HS4 HS5
        go_wp2_with (go_at_call 9; refine (CPr.out _ (Below.refl _ _)).mono ?_; rintro e w6 ⟨rfl, hb6⟩; have HB6 := hidI hb6; clear hb6 CPr; refine Hid.out ?_)
        refine hidI ?_
        go_wp2_with (go_at_call 8; refine (live8_any _ (HW5.out.on HB6.out)).mono ?_; rintro e w7 ⟨rfl, hb7⟩; have HB7 := hidI (HB6.out.trans (hb7.mono HB6.out.size)); clear hb7; refine Hid.out ?_)
        refine hidI ?_
        go_wp2_with (go_at_call 11; refine (CS1.out _ HB7.out).mono ?_; rintro e w8 ⟨rfl, hb8⟩; have HB8 := hidI (HB7.out.trans (hb8.mono HB7.out.size)); clear hb8 CS1; refine Hid.out ?_)
        refine hidI ?_
        go_wp2_with (go_at_call 11; refine (CS2.out _ HB8.out).mono ?_; rintro e w9 ⟨rfl, hb9⟩; have HB9 := hidI (HB8.out.trans (hb9.mono HB8.out.size)); clear hb9 CS2)
        go_ret
        exact ⟨by simp, HB1.out.trans ((HB5.out.trans (HB9.out.mono HB5.out.size)).mono HB1.out.size)⟩
      · have C1 := hidI fun (y : World) => read_weak SB y
        have C2 := hidI fun (y : World) => read_weak SL y
        have HC : Hid (PL.length ≤ 3000 → ¬ PB.length ≤ 3000) := hidI fun a b => hl3 ⟨a, b⟩
        clear hl3
        go_wp2_with (go_at_call 7; refine (C1.out _).mono ?_; rintro e w4 ⟨⟨gv, uv, bb, rfl⟩, hb4⟩; have HB4 := hidI (HB3.out.trans (hb4.mono HB3.out.size)); clear hb4 C1; refine Hid.out ?_)
        refine hidI ?_
        go_wp2_with (go_at_call 7; refine (C2.out _).mono ?_; rintro e w5 ⟨⟨gv2, uv2, bb2, rfl⟩, hb5⟩; have HB5 := hidI (HB4.out.trans (hb5.mono HB4.out.size)); clear hb5 C2; refine Hid.out ?_)
        refine hidI ?_
        have HW5 : Hid (Laid w5) := hidI ((HL.out.on HB1.out).on HB5.out)
        by_cases hlL : 3000 < PL.length
        · have e1 : (3000 : Int) < (PL.length : Int) := by omega
          clear hlL
          go_wp2_with (go_at_call 8; refine (live8_any _ HW5.out).mono ?_; rintro e w6 ⟨rfl, hb6⟩; have HB6 := hidI (HB5.out.trans (hb6.mono HB5.out.size)); clear hb6)
          go_ret
          exact ⟨rfl, HB1.out.trans (HB6.out.mono HB1.out.size)⟩
        · have e1 : ¬ (3000 : Int) < (PL.length : Int) := by omega
          have hlB := HC.out (by omega)
          have e2 : (3000 : Int) < (PB.length : Int) := by omega
          clear hlL hlB
          go_wp2_with (go_at_call 8; refine (live8_any _ HW5.out).mono ?_; rintro e w6 ⟨rfl, hb6⟩; have HB6 := hidI (HB5.out.trans (hb6.mono HB5.out.size)); clear hb6)
          go_ret
          exact ⟨rfl, HB1.out.trans (HB6.out.mono HB1.out.size)⟩
end Go.Proofs.YtpfgohlicfcaeabDoor
