/-
  The words of a text are those of the forms that are read of it; and forms hang on the words alone.
-/
import Derived.Test.YtmihhebcchpmcaaGreatDoorBackM
namespace Go.Proofs.YtmihhebcchpmcaaGreatDoor
open Go.RowKit Go.Deep Go.MapKept Go.Shelf
def wd (f : Frm) : Txt := if f.k = 1 then [40] else if f.k = 3 then f.s.data.toList else Lib.itoa f.n
def ups (f : Frm) : Nat := if f.k = 1 then 1 else 0
def shuts (n : Nat) : List Txt := List.replicate n [41]
theorem shuts_add (a b : Nat) : shuts a ++ shuts b = shuts (a + b) := by unfold shuts; rw [List.replicate_append_replicate]
/-- Words as forms stand, with as many ends of brackets between as levels fall. -/
def flatW : List Frm → List Nat → Nat → List Txt × Nat
  | f :: fs, d :: lv, cur => (shuts (cur - d) ++ wd f :: (flatW fs lv (d + ups f)).1, (flatW fs lv (d + ups f)).2)
  | _, _, cur => ([], cur)
theorem flatW_append : ∀ (A : List Frm) (la : List Nat) (B : List Frm) (lb : List Nat) (cur : Nat), A.length = la.length → flatW (A ++ B) (la ++ lb) cur = ((flatW A la cur).1 ++ (flatW B lb (flatW A la cur).2).1, (flatW B lb (flatW A la cur).2).2)
  | [], [], B, lb, cur, _ => by simp [flatW]
  | f :: A, d :: la, B, lb, cur, h => by
    simp only [List.length_cons, Nat.add_right_cancel_iff] at h
    simp only [List.cons_append, flatW, flatW_append A la B lb (d + ups f) h, List.append_assoc]
  | [], d :: la, B, lb, cur, h => by simp at h
  | f :: A, [], B, lb, cur, h => by simp at h
def key3 (f : Frm) : Int × ByteArray × Int := (f.k, f.s, f.n)
theorem flatW_same : ∀ (A B : List Frm) (lv : List Nat) (cur : Nat), A.map key3 = B.map key3 → flatW A lv cur = flatW B lv cur
  | [], [], lv, cur, _ => rfl
  | a :: A, b :: B, [], cur, _ => rfl
  | a :: A, b :: B, d :: lv, cur, h => by
    simp only [List.map_cons, List.cons.injEq] at h
    obtain ⟨h1, h2⟩ := h
    unfold key3 at h1
    simp only [Prod.mk.injEq] at h1
    obtain ⟨e1, e2, e3⟩ := h1
    have hw : wd a = wd b := by unfold wd; rw [e1, e2, e3]
    have hu : ups a = ups b := by unfold ups; rw [e1]
    simp only [flatW, hw, hu, flatW_same A B lv (d + ups b) h2]
  | [], b :: B, lv, cur, h => by simp at h
  | a :: A, [], lv, cur, h => by simp at h
theorem key3_add (b n : Nat) (fs : List Frm) : (fs.modify b (addKid n)).map key3 = fs.map key3 := by
  apply List.ext_getElem?
  intro i
  rw [List.getElem?_map, List.getElem?_modify, List.getElem?_map]
  cases fs[i]? with
  | none => rfl
  | some g => by_cases h : b = i <;> simp [h, key3, addKid]
/-- What a token says. -/
def wdT (t : Tok) : Txt := if t.k = 2 then [41] else wd (formOf t)
/-- How tokens read so far stand in what has been read. -/
structure Lev (T : List Tok) (σ : St) (lv : List Nat) : Prop where
  len : lv.length = σ.forms.length
  kid : ∀ (i : Nat) (f : Frm) (c : Nat), σ.forms[i]? = some f → c ∈ f.kids → c < σ.forms.length ∧ lv.getD c 0 = lv.getD i 0 + 1
  top : ∀ t ∈ σ.top, t < σ.forms.length ∧ lv.getD t 0 = 0
  opn : ∀ (j b : Nat), σ.opn[j]? = some b → b < σ.forms.length ∧ lv.getD b 0 = j
  le : σ.opn.length ≤ (flatW σ.forms lv 0).2
  words : T.map wdT = (flatW σ.forms lv 0).1 ++ shuts ((flatW σ.forms lv 0).2 - σ.opn.length)
theorem getD_old {lv : List Nat} {x i : Nat} (h : i < lv.length) : (lv ++ [x]).getD i 0 = lv.getD i 0 := by
  simp [List.getD_eq_getElem?_getD, List.getElem?_append_left h]
theorem getD_new {lv : List Nat} {x : Nat} : (lv ++ [x]).getD lv.length 0 = x := by simp [List.getD_eq_getElem?_getD]
theorem kids_old {fs : List Frm} {b n i : Nat} {g f : Frm} (h : (fs.modify b (addKid n) ++ [g])[i]? = some f) (hg : g.kids = []) {c : Nat} (hc : c ∈ f.kids) : ∃ f0, fs[i]? = some f0 ∧ (c ∈ f0.kids ∨ (i = b ∧ c = n)) := by
  by_cases hi : i < fs.length
  · rw [List.getElem?_append_left (by simpa using hi), List.getElem?_modify] at h
    cases hx : fs[i]? with
    | none => rw [hx] at h; simp at h
    | some f0 =>
      rw [hx] at h
      refine ⟨f0, rfl, ?_⟩
      by_cases hb : b = i
      · simp [hb] at h
        rw [← h] at hc
        simp only [addKid, List.mem_append, List.mem_singleton] at hc
        rcases hc with hc | hc
        · exact .inl hc
        · exact .inr ⟨hb.symm, hc⟩
      · simp [hb] at h
        rw [← h] at hc
        exact .inl hc
  · have hle : fs.length ≤ i := by omega
    rw [List.getElem?_append_right (by simpa using hle)] at h
    have : f = g := by
      cases hj : i - (fs.modify b (addKid n)).length with
      | zero => rw [hj] at h; simpa using h.symm
      | succ j => rw [hj] at h; simp at h
    rw [this, hg] at hc
    cases hc
/-- A form more, in the innermost bracket that is open. -/
theorem lev_add {T : List Tok} {σ : St} {lv : List Nat} (h : Lev T σ lv) {t : Tok} (hk : t.k = 1 ∨ t.k = 3 ∨ t.k = 4) :
    (lv ++ [σ.opn.length]).length = (addF (formOf t) σ).forms.length ∧
    (∀ (i : Nat) (f : Frm) (c : Nat), (addF (formOf t) σ).forms[i]? = some f → c ∈ f.kids → c < (addF (formOf t) σ).forms.length ∧ (lv ++ [σ.opn.length]).getD c 0 = (lv ++ [σ.opn.length]).getD i 0 + 1) ∧
    (∀ p ∈ (addF (formOf t) σ).top, p < (addF (formOf t) σ).forms.length ∧ (lv ++ [σ.opn.length]).getD p 0 = 0) ∧
    (addF (formOf t) σ).opn = σ.opn ∧
    flatW (addF (formOf t) σ).forms (lv ++ [σ.opn.length]) 0 = ((T ++ [t]).map wdT, σ.opn.length + ups (formOf t)) := by
  have hkids : (formOf t).kids = [] := by unfold formOf; split <;> (try rfl); split <;> rfl
  have h2 : t.k ≠ 2 := by omega
  have hwt : wdT t = wd (formOf t) := by unfold wdT; rw [if_neg h2]
  have hfl : ∀ fs : List Frm, fs.map key3 = σ.forms.map key3 → fs.length = σ.forms.length → flatW (fs ++ [formOf t]) (lv ++ [σ.opn.length]) 0 = ((T ++ [t]).map wdT, σ.opn.length + ups (formOf t)) := by
    intro fs hfs hl
    rw [flatW_append fs lv _ _ 0 (by rw [hl, h.len]), flatW_same fs σ.forms lv 0 hfs]
    simp only [flatW, List.map_append, List.map_cons, List.map_nil, h.words, hwt, List.append_assoc]
  unfold addF
  cases hl : σ.opn.getLast? with
  | none =>
    simp only
    refine ⟨by simp [h.len], fun i f c hf hc => ?_, fun p hp => ?_, trivial, hfl σ.forms rfl rfl⟩
    · have hi : i < σ.forms.length := by
        by_cases hi : i < σ.forms.length
        · exact hi
        · rw [List.getElem?_append_right (by omega)] at hf
          cases hj : i - σ.forms.length with
          | zero => rw [hj] at hf; simp at hf; rw [← hf, hkids] at hc; cases hc
          | succ j => rw [hj] at hf; simp at hf
      rw [List.getElem?_append_left hi] at hf
      obtain ⟨h1, h3⟩ := h.kid i f c hf hc
      rw [getD_old (by rw [h.len]; exact h1), getD_old (by rw [h.len]; exact hi), List.length_append]
      exact ⟨by simp; omega, h3⟩
    · rw [List.mem_append, List.mem_singleton] at hp
      rcases hp with hp | hp
      · obtain ⟨h1, h3⟩ := h.top p hp
        rw [getD_old (by rw [h.len]; exact h1), List.length_append]
        exact ⟨by simp; omega, h3⟩
      · have ho : σ.opn = [] := List.getLast?_eq_none_iff.1 hl
        rw [hp, ← h.len, getD_new, List.length_append, ho]
        exact ⟨by simp [h.len], rfl⟩
  | some b =>
    simp only
    have hne : σ.opn ≠ [] := fun e => by rw [e] at hl; simp at hl
    have hb := h.opn (σ.opn.length - 1) b (by rw [← List.getLast?_eq_getElem?]; exact hl)
    have hpos : 0 < σ.opn.length := List.length_pos_iff.2 hne
    have hml : (σ.forms.modify b (addKid σ.forms.length)).length = σ.forms.length := by simp
    refine ⟨by simp [h.len], fun i f c hf hc => ?_, fun p hp => ?_, trivial, hfl _ (key3_add b _ σ.forms) hml⟩
    · obtain ⟨f0, hf0, hcase⟩ := kids_old hf hkids hc
      have hi : i < σ.forms.length := (List.getElem?_eq_some_iff.1 hf0).1
      rcases hcase with hc0 | ⟨hib, hcn⟩
      · obtain ⟨h1, h3⟩ := h.kid i f0 c hf0 hc0
        rw [getD_old (by rw [h.len]; exact h1), getD_old (by rw [h.len]; exact hi), List.length_append, hml]
        exact ⟨by simp; omega, h3⟩
      · have e1 : (lv ++ [σ.opn.length]).getD c 0 = σ.opn.length := by rw [hcn, ← h.len]; exact getD_new
        have e2 : (lv ++ [σ.opn.length]).getD i 0 = lv.getD i 0 := getD_old (by rw [h.len]; exact hi)
        have hb2 := hb.2
        rw [← hib] at hb2
        rw [e1, e2, hb2, hcn, List.length_append, hml]
        exact ⟨by simp, by omega⟩
    · obtain ⟨h1, h3⟩ := h.top p hp
      rw [getD_old (by rw [h.len]; exact h1), List.length_append, hml]
      exact ⟨by simp; omega, h3⟩
theorem lev_step {T : List Tok} {σ σ' : St} {lv : List Nat} {t : Tok} (h : Lev T σ lv) (ht : t.k = 1 ∨ t.k = 2 ∨ t.k = 3 ∨ t.k = 4) (he : step σ t = .ok σ') : ∃ lv', Lev (T ++ [t]) σ' lv' := by
  unfold step at he
  split at he
  · rename_i h2
    split at he
    · cases he
    · rename_i hn
      cases he
      have hpos : 0 < σ.opn.length := List.length_pos_iff.2 hn
      refine ⟨lv, h.len, h.kid, h.top, fun j b hj => ?_, ?_, ?_⟩
      · simp only [List.dropLast_eq_take, List.getElem?_take] at hj
        split at hj
        · exact h.opn j b hj
        · cases hj
      · have := h.le
        simp only [List.length_dropLast]
        omega
      · have hle := h.le
        have hw : wdT t = [41] := by unfold wdT; rw [if_pos h2]
        simp only [List.map_append, List.map_cons, List.map_nil, h.words, hw, List.length_dropLast, List.append_assoc]
        congr 1
        rw [show (flatW σ.forms lv 0).2 - (σ.opn.length - 1) = ((flatW σ.forms lv 0).2 - σ.opn.length) + 1 by omega, ← shuts_add]
        rfl
  · rename_i h2
    split at he
    · rename_i h1
      split at he
      · cases he
      · split at he
        · cases he
        · cases he
          obtain ⟨a1, a2, a3, a4, a5⟩ := lev_add h (t := t) (.inl h1)
          have hu : ups (formOf t) = 1 := by unfold ups formOf; rw [if_pos h1, if_pos rfl]
          have hln : (addF (formOf t) σ).forms.length = σ.forms.length + 1 := addF_len _ _
          refine ⟨lv ++ [σ.opn.length], a1, a2, a3, fun j b hj => ?_, ?_, ?_⟩
          · by_cases hjl : j < σ.opn.length
            · rw [List.getElem?_append_left hjl] at hj
              obtain ⟨b1, b2⟩ := h.opn j b hj
              show b < (addF (formOf t) σ).forms.length ∧ _
              rw [getD_old (by rw [h.len]; exact b1), hln]
              exact ⟨by omega, b2⟩
            · rw [List.getElem?_append_right (by omega)] at hj
              cases hq : j - σ.opn.length with
              | zero =>
                rw [hq] at hj
                simp at hj
                show b < (addF (formOf t) σ).forms.length ∧ _
                rw [← hj, hln, ← h.len, getD_new]
                exact ⟨by omega, by omega⟩
              | succ q => rw [hq] at hj; simp at hj
          · show (σ.opn ++ [σ.forms.length]).length ≤ (flatW (addF (formOf t) σ).forms (lv ++ [σ.opn.length]) 0).2
            rw [a5, hu]; simp
          · show _ = (flatW (addF (formOf t) σ).forms (lv ++ [σ.opn.length]) 0).1 ++ shuts ((flatW (addF (formOf t) σ).forms (lv ++ [σ.opn.length]) 0).2 - (σ.opn ++ [σ.forms.length]).length)
            rw [a5, hu]
            simp [shuts]
    · rename_i h1
      split at he
      · rename_i h34
        split at he
        · cases he
        · cases he
          obtain ⟨a1, a2, a3, a4, a5⟩ := lev_add h (t := t) (.inr h34)
          have hu : ups (formOf t) = 0 := by unfold ups formOf; rw [if_neg h1]; split <;> simp
          have hln : (addF (formOf t) σ).forms.length = σ.forms.length + 1 := addF_len _ _
          refine ⟨lv ++ [σ.opn.length], a1, a2, a3, fun j b hj => ?_, ?_, ?_⟩
          · rw [a4] at hj
            obtain ⟨b1, b2⟩ := h.opn j b hj
            rw [getD_old (by rw [h.len]; exact b1), hln]
            exact ⟨by omega, b2⟩
          · rw [a5, a4, hu]; simp
          · rw [a5, a4, hu]; simp [shuts]
      · omega
theorem lev_steps : ∀ (l T : List Tok) (σ σ' : St) (lv : List Nat), Lev T σ lv → (∀ t ∈ l, t.k = 1 ∨ t.k = 2 ∨ t.k = 3 ∨ t.k = 4) → steps l σ = .ok σ' → ∃ lv', Lev (T ++ l) σ' lv'
  | [], T, σ, σ', lv, h, _, he => by unfold steps at he; cases he; rw [List.append_nil]; exact ⟨lv, h⟩
  | t :: r, T, σ, σ', lv, h, ht, he => by
    unfold steps at he
    cases hs : step σ t with
    | error e => rw [hs] at he; cases he
    | ok σ1 =>
      rw [hs] at he
      obtain ⟨lv1, h1⟩ := lev_step h (ht t (by simp)) hs
      have := lev_steps r (T ++ [t]) σ1 σ' lv1 h1 (fun x hx => ht x (by simp [hx])) he
      rwa [List.append_assoc] at this
theorem lev_parse {l : List Tok} {σ : St} (ht : ∀ t ∈ l, t.k = 1 ∨ t.k = 2 ∨ t.k = 3 ∨ t.k = 4) (h : parse l = .ok σ) : ∃ lv, Lev l σ lv ∧ σ.opn = [] := by
  unfold parse at h
  cases hs : steps l begin0 with
  | error e => rw [hs] at h; cases h
  | ok σ1 =>
    rw [hs] at h
    simp only at h
    unfold finish at h
    split at h
    · rename_i hn
      cases h
      obtain ⟨lv, hl⟩ := lev_steps l [] begin0 _ [] ⟨rfl, by simp [begin0], by simp [begin0], by simp [begin0], by simp [begin0], by simp [begin0, flatW, shuts]⟩ ht hs
      exact ⟨lv, by simpa using hl, List.getLast?_eq_none_iff.1 hn⟩
    · cases h
end Go.Proofs.YtmihhebcchpmcaaGreatDoor
