/-
  Ways: a node has a level just if a way leads there.
-/
import Derived.Test.YtbjoljokdjgbnacBase
namespace Go.Proofs.Ytbjoljokdjgbnac
/-- A way of any number of edges. -/
inductive Way (es : Edges) : Nat → Nat → Prop
  | here (a : Nat) : Way es a a
  | on {a b c : Nat} : Way es a b → ((b : Int), (c : Int)) ∈ es → Way es a c
theorem Way.trans {es : Edges} {a b c : Nat} (h : Way es a b) (k : Way es b c) : Way es a c := by
  induction k with
  | here => exact h
  | on _ he ih => exact .on ih he
theorem Way.first {es : Edges} {a b c : Nat} (he : ((a : Int), (b : Int)) ∈ es) (k : Way es b c) : Way es a c := Way.trans (.on (.here a) he) k
/-- How many below N p takes. -/
def many (p : Nat → Bool) (N : Nat) : Nat := (List.range N).countP p
theorem many_succ (p : Nat → Bool) (N : Nat) : many p (N + 1) = many p N + (if p N then 1 else 0) := by
  simp [many, List.range_succ, List.countP_append, List.countP_singleton]
theorem many_le (p : Nat → Bool) : ∀ N, many p N ≤ N
  | 0 => by simp [many]
  | N + 1 => by have := many_le p N; rw [many_succ]; split <;> omega
theorem many_mono {p q : Nat → Bool} : ∀ {N : Nat}, (∀ t, t < N → p t = true → q t = true) → many p N ≤ many q N
  | 0, _ => by simp [many]
  | N + 1, h => by
    have ih := many_mono (N := N) (fun t ht => h t (by omega))
    rw [many_succ, many_succ]
    by_cases hp : p N = true
    · rw [if_pos hp, if_pos (h N (by omega) hp)]; omega
    · rw [if_neg hp]; omega
theorem many_more {p q : Nat → Bool} : ∀ {N : Nat}, (∀ t, t < N → p t = true → q t = true) → (∃ t, t < N ∧ p t = false ∧ q t = true) → many p N + 1 ≤ many q N
  | 0, _, ⟨t, ht, _⟩ => by omega
  | N + 1, h, ⟨t, ht, h1, h2⟩ => by
    rw [many_succ, many_succ]
    by_cases e : t = N
    · subst e
      have ih := many_mono (N := t) (fun s hs => h s (by omega))
      rw [h1, h2]; simp; omega
    · have ih := many_more (N := N) (fun s hs => h s (by omega)) ⟨t, by omega, h1, h2⟩
      by_cases hp : p N = true
      · rw [if_pos hp, if_pos (h N (by omega) hp)]; omega
      · rw [if_neg hp]; omega
/-- What holds of levels behind k rounds. -/
structure Lev (es : Edges) (N root k : Nat) (ls : List Int) : Prop where
  len : ls.length = N
  top : ∀ t, t < N → ls.getD t 0 ≤ k
  low : ∀ t, t < N → -1 ≤ ls.getD t 0
  on : ∀ p q : Nat, ((p : Int), (q : Int)) ∈ es → 0 ≤ ls.getD p 0 → ls.getD p 0 < k → 0 ≤ ls.getD q 0
  way : ∀ t, t < N → 0 ≤ ls.getD t 0 → Way es root t
  cnt : (∃ t, t < N ∧ ls.getD t 0 = k) → k + 1 ≤ many (fun t => decide (0 ≤ ls.getD t 0)) N
  begin : 0 ≤ ls.getD root 0
/-- One edge within round k: what has been looked at (fs) is done. -/
structure Mid (es : Edges) (N root k : Nat) (l0 ls : List Int) (fs : Edges) : Prop where
  len : ls.length = N
  keep : ∀ t, t < N → 0 ≤ l0.getD t 0 → ls.getD t 0 = l0.getD t 0
  new : ∀ t, t < N → l0.getD t 0 < 0 → (ls.getD t 0 = l0.getD t 0 ∨ (ls.getD t 0 = (k : Int) + 1 ∧ Way es root t ∧ ∃ s, s < N ∧ l0.getD s 0 = k))
  done : ∀ p q : Nat, ((p : Int), (q : Int)) ∈ fs → ls.getD p 0 = k → 0 ≤ ls.getD q 0
theorem mid_step {es : Edges} {N root k : Nat} {l0 ls : List Int} {fs : Edges} {p q : Nat} (h0 : Lev es N root k l0) (h : Mid es N root k l0 ls fs) (hp : p < N) (hq : q < N) (he : ((p : Int), (q : Int)) ∈ es) : Mid es N root k l0 (lstep (k : Int) ls ((p : Int), (q : Int))) (fs ++ [((p : Int), (q : Int))]) := by
  rw [lstep_nat]
  by_cases hc : ls.getD p 0 = (k : Int) ∧ ls.getD q 0 < 0
  · rw [if_pos hc]
    have hq0 : l0.getD q 0 < 0 := by
      by_cases h1 : 0 ≤ l0.getD q 0
      · have := h.keep q hq h1; omega
      · omega
    have hp0 : l0.getD p 0 = k := by
      by_cases h1 : 0 ≤ l0.getD p 0
      · have := h.keep p hp h1; omega
      · rcases h.new p hp (by omega) with h2 | ⟨h2, _⟩ <;> omega
    refine ⟨by rw [List.length_set]; exact h.len, fun t ht h1 => ?_, fun t ht h1 => ?_, fun a b hab h1 => ?_⟩
    · rw [getD_set _ _ _ _ (by rw [h.len]; exact ht)]
      by_cases e : q = t
      · subst e; omega
      · rw [if_neg e]; exact h.keep t ht h1
    · rw [getD_set _ _ _ _ (by rw [h.len]; exact ht)]
      by_cases e : q = t
      · subst e
        rw [if_pos rfl]
        exact .inr ⟨rfl, .on (h0.way p hp (by omega)) he, p, hp, hp0⟩
      · rw [if_neg e]; exact h.new t ht h1
    · by_cases hal : a < ls.length
      · rw [getD_set _ _ _ _ hal] at h1
        by_cases e : q = a
        · rw [if_pos e] at h1; omega
        · rw [if_neg e] at h1
          by_cases hbl : b < ls.length
          · rw [getD_set _ _ _ _ hbl]
            by_cases e2 : q = b
            · rw [if_pos e2]; omega
            · rw [if_neg e2]
              rcases List.mem_append.1 hab with h2 | h2
              · exact h.done a b h2 h1
              · simp only [List.mem_singleton, Prod.mk.injEq, Int.natCast_inj] at h2
                exact absurd h2.2.symm e2
          · have : (ls.set q ((k : Int) + 1)).getD b 0 = 0 := by simp [List.getD, hbl]
            rw [this]; omega
      · have h3 : (ls.set q ((k : Int) + 1)).getD a 0 = 0 := by simp [List.getD, hal]
        have h4 : ls.getD a 0 = 0 := by simp [List.getD, hal]
        by_cases hbl : b < ls.length
        · rw [getD_set _ _ _ _ hbl]
          by_cases e2 : q = b
          · rw [if_pos e2]; omega
          · rw [if_neg e2]
            rcases List.mem_append.1 hab with h2 | h2
            · exact h.done a b h2 (by omega)
            · simp only [List.mem_singleton, Prod.mk.injEq, Int.natCast_inj] at h2
              exact absurd h2.2.symm e2
        · have : (ls.set q ((k : Int) + 1)).getD b 0 = 0 := by simp [List.getD, hbl]
          rw [this]; omega
  · rw [if_neg hc]
    refine ⟨h.len, h.keep, h.new, fun a b hab h1 => ?_⟩
    rcases List.mem_append.1 hab with h2 | h2
    · exact h.done a b h2 h1
    · simp only [List.mem_singleton, Prod.mk.injEq, Int.natCast_inj] at h2
      rw [h2.1] at h1
      rw [h2.2]
      by_cases h3 : ls.getD q 0 < 0
      · exact absurd ⟨h1, h3⟩ hc
      · omega
theorem mid_all {es : Edges} {N root k : Nat} {l0 : List Int} (hg : ∀ x ∈ es, good N x = true) (h0 : Lev es N root k l0) : ∀ (fs rs : Edges) (ls : List Int), es = fs ++ rs → Mid es N root k l0 ls fs → Mid es N root k l0 (rs.foldl (lstep (k : Int)) ls) es
  | fs, [], ls, he, h => by rw [List.append_nil] at he; rw [he] at h ⊢; exact h
  | fs, x :: rs, ls, he, h => by
    have hx : x ∈ es := by rw [he]; simp
    have hgx := hg x hx
    simp only [good, Bool.and_eq_true, decide_eq_true_eq] at hgx
    obtain ⟨x1, x2⟩ := x
    dsimp only at hgx
    obtain ⟨p, rfl⟩ : ∃ p : Nat, x1 = p := ⟨x1.toNat, by omega⟩
    obtain ⟨q, rfl⟩ : ∃ q : Nat, x2 = q := ⟨x2.toNat, by omega⟩
    rw [List.foldl_cons]
    exact mid_all hg h0 (fs ++ [((p : Int), (q : Int))]) rs _ (by rw [he]; simp) (mid_step h0 h (by omega) (by omega) hx)
theorem lev_round {es : Edges} {N root k : Nat} {l0 : List Int} (hroot : root < N) (hg : ∀ x ∈ es, good N x = true) (h0 : Lev es N root k l0) : Lev es N root (k + 1) (es.foldl (lstep (k : Int)) l0) := by
  have h : Mid es N root k l0 (es.foldl (lstep (k : Int)) l0) es := mid_all hg h0 [] es l0 rfl ⟨h0.len, fun _ _ _ => rfl, fun _ _ _ => .inl rfl, fun _ _ h => by simp at h⟩
  obtain ⟨ls, hls⟩ : ∃ ls, es.foldl (lstep (k : Int)) l0 = ls := ⟨_, rfl⟩
  rw [hls] at h ⊢
  have val : ∀ t, t < N → (0 ≤ l0.getD t 0 ∧ ls.getD t 0 = l0.getD t 0) ∨ (l0.getD t 0 < 0 ∧ ls.getD t 0 = l0.getD t 0) ∨ (l0.getD t 0 < 0 ∧ ls.getD t 0 = (k : Int) + 1 ∧ Way es root t ∧ ∃ s, s < N ∧ l0.getD s 0 = k) := fun t ht => by
    by_cases h1 : 0 ≤ l0.getD t 0
    · exact .inl ⟨h1, h.keep t ht h1⟩
    · rcases h.new t ht (by omega) with h2 | h2
      · exact .inr (.inl ⟨by omega, h2⟩)
      · exact .inr (.inr ⟨by omega, h2⟩)
  have mem : ∀ {p q : Nat}, ((p : Int), (q : Int)) ∈ es → p < N ∧ q < N := fun {p q} he => by
    have := hg _ he
    simp only [good, Bool.and_eq_true, decide_eq_true_eq] at this
    omega
  refine ⟨h.len, fun t ht => ?_, fun t ht => ?_, fun p q he h1 h2 => ?_, fun t ht h1 => ?_, fun ⟨t, ht, h1⟩ => ?_, ?_⟩
  · have := h0.top t ht
    rcases val t ht with h1 | h1 | h1 <;> omega
  · have := h0.low t ht
    rcases val t ht with h1 | h1 | h1 <;> omega
  · obtain ⟨hp, hq⟩ := mem he
    by_cases h3 : ls.getD p 0 = k
    · exact h.done p q he h3
    · rcases val p hp with h4 | h4 | h4
      · have := h0.on p q he (by omega) (by omega)
        rw [h.keep q hq this]; exact this
      · omega
      · omega
  · rcases val t ht with h2 | h2 | h2
    · exact h0.way t ht h2.1
    · omega
    · exact h2.2.2.1
  · rcases val t ht with h2 | h2 | ⟨h2, _, _, s, hs, hs2⟩
    · have := h0.top t ht; omega
    · omega
    · have hc := h0.cnt ⟨s, hs, hs2⟩
      have := many_more (N := N) (p := fun t => decide (0 ≤ l0.getD t 0)) (q := fun t => decide (0 ≤ ls.getD t 0)) (fun u hu hpu => by
        have h5 := of_decide_eq_true hpu
        have h6 := h.keep u hu h5
        exact decide_eq_true (by omega)) ⟨t, ht, decide_eq_false (by omega), decide_eq_true (by omega)⟩
      omega
  · have := h.keep root hroot h0.begin
    rw [this]; exact h0.begin
theorem lev_zero {es : Edges} {N root : Nat} (hroot : root < N) : Lev es N root 0 ((List.replicate N (-1)).set root 0) := by
  have val : ∀ t, t < N → ((List.replicate N (-1)).set root 0 : List Int).getD t 0 = if root = t then 0 else -1 := fun t ht => by
    rw [getD_set _ _ _ _ (by simpa using ht)]
    split
    · rfl
    · simp [List.getD, ht]
  refine ⟨by simp, fun t ht => ?_, fun t ht => ?_, fun p q he h1 h2 => by omega, fun t ht h1 => ?_, fun _ => ?_, ?_⟩
  · rw [val t ht]; split <;> omega
  · rw [val t ht]; split <;> omega
  · rw [val t ht] at h1
    by_cases e : root = t
    · subst e; exact .here _
    · rw [if_neg e] at h1; omega
  · have := many_more (N := N) (p := fun _ => false) (q := fun t => decide (0 ≤ ((List.replicate N (-1)).set root 0 : List Int).getD t 0)) (fun _ _ h => by simp at h) ⟨root, hroot, rfl, by rw [val root hroot]; simp⟩
    omega
  · rw [val root hroot]; simp
theorem lev_all {es : Edges} {N root : Nat} (hroot : root < N) (hg : ∀ x ∈ es, good N x = true) : ∀ k, Lev es N root k ((List.range k).foldl (lround es) ((List.replicate N (-1)).set root 0))
  | 0 => lev_zero hroot
  | k + 1 => by
    rw [List.range_succ, List.foldl_append, List.foldl_cons, List.foldl_nil]
    exact lev_round hroot hg (lev_all hroot hg k)
/-- A node has a level just if a way leads there. -/
theorem levels_way {es : Edges} {N root t : Nat} (hroot : root < N) (ht : t < N) (hg : ∀ x ∈ es, good N x = true) : 0 ≤ (levels N es root).getD t 0 ↔ Way es root t := by
  have hl : levels N es root = (List.range N).foldl (lround es) ((List.replicate N (-1)).set root 0) := by
    unfold levels; rw [if_pos (by omega)]; simp
  have h := lev_all hroot hg N
  rw [← hl] at h
  refine ⟨h.way t ht, fun hw => ?_⟩
  have hno : ∀ s, s < N → (levels N es root).getD s 0 < N := fun s hs => by
    have h1 := h.top s hs
    by_cases e : (levels N es root).getD s 0 = N
    · have := h.cnt ⟨s, hs, e⟩
      have := many_le (fun t => decide (0 ≤ (levels N es root).getD t 0)) N
      omega
    · omega
  have : ∀ u, Way es root u → u < N → 0 ≤ (levels N es root).getD u 0 := fun u hu => by
    induction hu with
    | here => exact fun _ => h.begin
    | on _ he ih =>
      intro hc
      have hm := hg _ he
      simp only [good, Bool.and_eq_true, decide_eq_true_eq] at hm
      have h1 := ih (by omega)
      exact h.on _ _ he h1 (hno _ (by omega))
  exact this t hw ht
end Go.Proofs.Ytbjoljokdjgbnac
