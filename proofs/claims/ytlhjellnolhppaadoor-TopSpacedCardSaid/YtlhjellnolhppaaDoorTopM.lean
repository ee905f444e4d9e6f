/-
  Words with blanks between: their pieces, and where they stand.
-/
import Derived.Test.YtlhjellnolhppaaDoorPlaces
namespace Go.Proofs.YtlhjellnolhppaaDoor
/-- A text that is a word. -/
def wordy (l : Txt) : Prop := kindW (bytesOf l) = 3 ∨ kindW (bytesOf l) = 4
theorem dig_ends {c : UInt8} (h : Dig c) : ends c = false := by
  have key : ∀ n : UInt8, n.toNat < 48 ∨ 57 < n.toNat → (c == n) = false := fun n hn => by
    rw [beq_eq_false_iff_ne]
    intro e
    subst e
    unfold Dig at h
    omega
  unfold ends spaced bracket
  rw [key 32 (by decide), key 9 (by decide), key 10 (by decide), key 40 (by decide), key 41 (by decide), key 59 (by decide)]
  rfl
theorem good_ends {c : UInt8} {i : Nat} (h : goodAt (c.toNat : Int) i = true) : ends c = false := by
  have hc : (97 ≤ c.toNat ∧ c.toNat ≤ 122) ∨ (48 ≤ c.toNat ∧ c.toNat ≤ 57) := by
    unfold goodAt letter digit at h
    simp only [Bool.or_eq_true, Bool.and_eq_true, decide_eq_true_eq] at h
    omega
  have key : ∀ n : UInt8, (n.toNat < 48 ∨ 57 < n.toNat) ∧ (n.toNat < 97 ∨ 122 < n.toNat) → (c == n) = false := fun n hn => by
    rw [beq_eq_false_iff_ne]
    intro e
    subst e
    omega
  unfold ends spaced bracket
  rw [key 32 (by decide), key 9 (by decide), key 10 (by decide), key 40 (by decide), key 41 (by decide), key 59 (by decide)]
  rfl
theorem op_ends : ∀ i, i < 10 → ends (opc i) = false := by decide
theorem wordy_facts {l : Txt} (h : wordy l) : 1 ≤ l.length ∧ l.length ≤ 20 ∧ ∀ c ∈ l, ends c = false := by
  have hb : (bytesOf l).data.toList = l := by simp [bytesOf]
  by_cases hn : isNum (bytesOf l)
  · obtain ⟨v, hv, e⟩ := hn
    rw [hb] at e
    rcases ok_itoa hv.1 hv.2 with ⟨_, ok, _⟩ | ⟨_, ds, e2, ok, _⟩
    · rw [← e] at ok
      refine ⟨List.length_pos_iff.2 ok.1, by have := ok.2.1; omega, fun c hc => dig_ends (ok.2.2.2.1 c hc)⟩
    · rw [e, e2]
      refine ⟨by simp, by have := ok.2.1; simp; omega, fun c hc => ?_⟩
      rcases List.mem_cons.1 hc with rfl | hc
      · decide
      · exact dig_ends (ok.2.2.2.1 c hc)
  · have hk : opB (bytesOf l) = true ∨ nameB (bytesOf l) = true := by
      unfold wordy kindW at h
      rw [if_neg hn] at h
      by_cases ho : (opB (bytesOf l) || nameB (bytesOf l)) = true
      · simpa using ho
      · rw [if_neg ho] at h
        rcases h with h | h <;> exact absurd h (by decide)
    rcases hk with hk | hk
    · unfold opB at hk
      rw [List.any_eq_true] at hk
      obtain ⟨i, hi, he⟩ := hk
      rw [ByteArray.toList_eq, hb] at he
      have he' : l = [opc i] := by simpa using he
      subst he'
      refine ⟨by simp, by simp, fun c hc => ?_⟩
      rw [List.mem_singleton] at hc
      subst hc
      exact op_ends i (List.mem_range.1 hi)
    · unfold nameB at hk
      simp only [Bool.and_eq_true, List.all_eq_true, decide_eq_true_eq] at hk
      rw [bytes_size] at hk
      refine ⟨hk.2.1, by omega, fun c hc => ?_⟩
      obtain ⟨i, hi, he⟩ := List.getElem_of_mem hc
      have h1 := hk.1 i (List.mem_range.2 hi)
      have h2 : sign (bytesOf l) i = (c.toNat : Int) := by
        unfold sign
        simp only [bytesOf]
        rw [Array.getD_eq_getD_getElem?]
        simp [hi, he]
      rw [h2] at h1
      exact good_ends h1
theorem run_over (t : Txt) : ∀ (l rest : Txt) (p : Nat) (b : Option Nat), (∀ c ∈ l, ends c = false) → l ≠ [] → run t p b false (l ++ rest) = run t (p + l.length) (some (b.getD p)) false rest
  | [], _, _, _, _, h => absurd rfl h
  | [c], rest, p, b, h, _ => by rw [List.singleton_append, run_word (h c (by simp))]; rfl
  | c :: d :: l, rest, p, b, h, _ => by
    rw [List.cons_append, run_word (h c (by simp)), run_over t (d :: l) rest (p + 1) (some (b.getD p)) (fun x hx => h x (List.mem_cons_of_mem _ hx)) (by simp)]
    simp only [Option.getD_some, List.length_cons]
    congr 1
    omega
def joinW (ws : List Txt) : Txt := ws.flatMap fun l => l ++ [32]
theorem joinW_cons (l : Txt) (r : List Txt) : joinW (l :: r) = l ++ 32 :: joinW r := by simp [joinW]
theorem joinW_snoc (ws : List Txt) (l : Txt) : joinW (ws ++ [l]) = joinW ws ++ (l ++ [32]) := by simp [joinW]
def spots : Nat → List Txt → List Piece
  | _, [] => []
  | e, l :: r => (e, l) :: spots (e + l.length + 1) r
theorem run_join (t : Txt) : ∀ (ws : List Txt) (p : Nat), (∀ l ∈ ws, wordy l) → t.drop p = joinW ws → run t p none false (joinW ws) = spots p ws
  | [], p, _, _ => by simp [joinW, run, word, spots]
  | l :: r, p, h, hd => by
    obtain ⟨h1, _, h3⟩ := wordy_facts (h l (by simp))
    rw [joinW_cons] at hd ⊢
    have hne : l ≠ [] := by intro e; subst e; simp at h1
    rw [run_over t l (32 :: joinW r) p none h3 hne, Option.getD_none, run_end (.inr ⟨32, joinW r, rfl, by decide⟩), Nat.add_sub_cancel_left, hd, List.take_left, run_space (by decide)]
    rw [run_join t r (p + l.length + 1) (fun x hx => h x (List.mem_cons_of_mem _ hx)) (by rw [Nat.add_assoc, ← List.drop_drop, hd, ← List.drop_drop]; simp)]
    rfl
theorem pieces_join (ws : List Txt) (h : ∀ l ∈ ws, wordy l) : pieces (joinW ws) = spots 0 ws := run_join (joinW ws) ws 0 h rfl
theorem kindP_word {l : Txt} (h : wordy l) : kindP l = kindW (bytesOf l) ∧ kindP l ≠ 0 := by
  obtain ⟨_, _, h3⟩ := wordy_facts h
  have e1 : ¬ l = [40] := by intro e; subst e; exact absurd (h3 40 (by simp)) (by decide)
  have e2 : ¬ l = [41] := by intro e; subst e; exact absurd (h3 41 (by simp)) (by decide)
  have e3 : kindP l = kindW (bytesOf l) := by unfold kindP; rw [if_neg e1, if_neg e2]
  refine ⟨e3, ?_⟩
  rw [e3]
  rcases h with h | h <;> rw [h] <;> decide
theorem bad_spots : ∀ (ws : List Txt) (e c : Nat), (∀ l ∈ ws, wordy l) → c + ws.length ≤ 600 → bad c (spots e ws) = none
  | [], _, _, _, _ => rfl
  | l :: r, e, c, h, hc => by
    rw [List.length_cons] at hc
    simp only [spots, bad]
    rw [if_neg (kindP_word (h l (by simp))).2, if_neg (by omega)]
    exact bad_spots r _ (c + 1) (fun x hx => h x (List.mem_cons_of_mem _ hx)) (by omega)
theorem joinW_len : ∀ (ws : List Txt), (∀ l ∈ ws, wordy l) → (joinW ws).length ≤ 21 * ws.length
  | [], _ => by simp [joinW]
  | l :: r, h => by
    have h1 := (wordy_facts (h l (by simp))).2.1
    have h2 := joinW_len r (fun x hx => h x (List.mem_cons_of_mem _ hx))
    rw [joinW_cons, List.length_append, List.length_cons, List.length_cons]
    omega
theorem lex_join (ws : List Txt) (h : ∀ l ∈ ws, wordy l) (hn : ws.length ≤ 20) : lexRes (bytesOf (joinW ws)) = ((spots 0 ws).map tok, 0, 0) := by
  have hb : (bytesOf (joinW ws)).data.toList = joinW ws := by simp [bytesOf]
  have hl := joinW_len ws h
  unfold lexRes
  rw [if_neg (by rw [bytes_size]; omega), hb, pieces_join ws h, bad_spots ws 0 0 h (by omega)]
theorem spots_get : ∀ (ws : List Txt) (e i : Nat) (l : Txt), ws[i]? = some l → ∃ p, (spots e ws)[i]? = some (p, l) ∧ e ≤ p ∧ p + l.length ≤ e + (joinW ws).length
  | [], _, _, _, h => by simp at h
  | x :: r, e, 0, l, h => by
    obtain rfl : x = l := by simpa using h
    refine ⟨e, rfl, Nat.le_refl _, ?_⟩
    rw [joinW_cons, List.length_append]; omega
  | x :: r, e, i + 1, l, h => by
    obtain ⟨p, h1, h2, h3⟩ := spots_get r (e + x.length + 1) i l (by simpa using h)
    refine ⟨p, by simpa [spots] using h1, by omega, ?_⟩
    rw [joinW_cons, List.length_append, List.length_cons]; omega
theorem spots_length : ∀ (ws : List Txt) (e : Nat), (spots e ws).length = ws.length
  | [], _ => rfl
  | _ :: r, _ => by simp only [spots, List.length_cons, spots_length r]
theorem ln_plain_from : ∀ (t : Txt) (a b : Nat), (∀ c ∈ t, c ≠ 10) → t.foldl lnF (a, b) = (a, b + t.length)
  | [], _, _, _ => rfl
  | c :: t, a, b, h => by
    rw [List.foldl_cons, show lnF (a, b) c = (a, b + 1) by simp [lnF, h c (by simp)], ln_plain_from t a (b + 1) (fun x hx => h x (List.mem_cons_of_mem _ hx)), List.length_cons]
    congr 1
    omega
theorem join_plain (ws : List Txt) (h : ∀ l ∈ ws, wordy l) : ∀ c ∈ joinW ws, c ≠ 10 := by
  intro c hc e
  subst e
  unfold joinW at hc
  rw [List.mem_flatMap] at hc
  obtain ⟨l, hl, hm⟩ := hc
  rcases List.mem_append.1 hm with hm | hm
  · exact absurd ((wordy_facts (h l hl)).2.2 10 hm) (by decide)
  · simp at hm
theorem line_join (ws : List Txt) (h : ∀ l ∈ ws, wordy l) (p : Nat) (hp : p ≤ (joinW ws).length) : lineOf (bytesOf (joinW ws)) (p : Int) = (0, p) := by
  have hb : (bytesOf (joinW ws)).data.toList = joinW ws := by simp [bytesOf]
  unfold lineOf clamp
  rw [bytes_size, hb, if_neg (by omega), Int.toNat_natCast, Nat.min_eq_left hp]
  unfold lnOf
  rw [ln_plain_from _ 0 0 (fun c hc => join_plain ws h c (List.mem_of_mem_take hc)), List.length_take, Nat.min_eq_left hp, Nat.zero_add]
end Go.Proofs.YtlhjellnolhppaaDoor
