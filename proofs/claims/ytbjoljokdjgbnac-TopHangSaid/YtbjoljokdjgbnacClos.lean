/-
  Which nodes ways of one edge or more lead to: reckoned round by round.
-/
import Derived.Test.YtbjoljokdjgbnacPath
namespace Go.Proofs.Ytbjoljokdjgbnac
def rstep (S : Nat → Bool) (x : Int × Int) : Nat → Bool := if S x.1.toNat then (fun t => decide (t = x.2.toNat) || S t) else S
def riter (es : Edges) (S : Nat → Bool) : Nat → Nat → Bool
  | 0 => S
  | k + 1 => es.foldl rstep (riter es S k)
/-- The nodes that an edge of es leads to from a. -/
def direct (es : Edges) (a : Nat) : Nat → Bool := fun t => decide (((a : Int), (t : Int)) ∈ es)
def Closed (es : Edges) (S : Nat → Bool) : Prop := ∀ p q : Nat, ((p : Int), (q : Int)) ∈ es → S p = true → S q = true
theorem rstep_grows (S : Nat → Bool) (x : Int × Int) (t : Nat) (h : S t = true) : rstep S x t = true := by
  unfold rstep; split <;> simp [h]
theorem rfold_grows : ∀ (fs : Edges) (S : Nat → Bool) (t : Nat), S t = true → fs.foldl rstep S t = true
  | [], _, _, h => h
  | x :: r, S, t, h => by rw [List.foldl_cons]; exact rfold_grows r _ t (rstep_grows S x t h)
theorem riter_grows (es : Edges) (S : Nat → Bool) : ∀ (k t : Nat), S t = true → riter es S k t = true
  | 0, _, h => h
  | k + 1, t, h => rfold_grows es _ t (riter_grows es S k t h)
theorem rfold_does : ∀ (fs : Edges) (S : Nat → Bool) (p q : Nat), ((p : Int), (q : Int)) ∈ fs → S p = true → fs.foldl rstep S q = true
  | [], _, _, _, h, _ => by simp at h
  | x :: r, S, p, q, h, hp => by
    rw [List.foldl_cons]
    rcases List.mem_cons.1 h with h | h
    · subst h
      refine rfold_grows r _ q ?_
      unfold rstep
      simp [hp]
    · exact rfold_does r _ p q h (rstep_grows S x p hp)
theorem closed_step {es : Edges} {N : Nat} {S : Nat → Bool} (hg : ∀ x ∈ es, good N x = true) (h : Closed es S) : ∀ (fs : Edges), (∀ x ∈ fs, x ∈ es) → fs.foldl rstep S = S
  | [], _ => rfl
  | x :: r, hs => by
    have hx := hs x (by simp)
    have hgx := hg x hx
    simp only [good, Bool.and_eq_true, decide_eq_true_eq] at hgx
    have h1 : rstep S x = S := by
      unfold rstep
      by_cases hp : S x.1.toNat = true
      · rw [if_pos hp]
        have := h x.1.toNat x.2.toNat (by rw [Int.toNat_of_nonneg hgx.1.1, Int.toNat_of_nonneg hgx.2.1]; exact hx) hp
        funext t
        by_cases e : t = x.2.toNat
        · subst e; simp [this]
        · simp [e]
      · rw [if_neg hp]
    rw [List.foldl_cons, h1]
    exact closed_step hg h r (fun y hy => hs y (by simp [hy]))
theorem riter_closed {es : Edges} {N : Nat} {S : Nat → Bool} (hg : ∀ x ∈ es, good N x = true) : ∀ k, Closed es (riter es S k) ∨ many S N + k ≤ many (riter es S k) N
  | 0 => .inr (by simp [riter])
  | k + 1 => by
    rcases riter_closed (S := S) hg k with h | h
    · left
      show Closed es (es.foldl rstep (riter es S k))
      rw [closed_step hg h es (fun _ hx => hx)]; exact h
    · by_cases hn : ∃ t, t < N ∧ riter es S k t = false ∧ riter es S (k + 1) t = true
      · have := many_more (N := N) (fun t _ ht => rfold_grows es (riter es S k) t ht) hn
        right
        have e : many (es.foldl rstep (riter es S k)) N = many (riter es S (k + 1)) N := rfl
        omega
      · left
        intro p q he hp
        have hgx := hg _ he
        simp only [good, Bool.and_eq_true, decide_eq_true_eq] at hgx
        have hpk : riter es S k p = true := by
          by_cases h1 : riter es S k p = true
          · exact h1
          · exact absurd ⟨p, by omega, by simpa using h1, hp⟩ hn
        exact rfold_does es _ p q he hpk
theorem riter_N {es : Edges} {N a : Nat} (hg : ∀ x ∈ es, good N x = true) : Closed es (riter es (direct es a) N) := by
  rcases riter_closed (S := direct es a) (N := N) hg N with h | h
  · exact h
  · have h1 := many_le (riter es (direct es a) N) N
    have h0 : many (direct es a) N = 0 := by omega
    have hno : ∀ t, t < N → direct es a t = false := fun t ht => by
      by_cases h2 : direct es a t = true
      · have := many_more (N := N) (p := fun _ => false) (q := direct es a) (fun _ _ h => by simp at h) ⟨t, ht, rfl, h2⟩
        omega
      · simpa using h2
    have hc : Closed es (direct es a) := fun p q he hp => by
      have hgx := hg _ he
      simp only [good, Bool.and_eq_true, decide_eq_true_eq] at hgx
      rw [hno p (by omega)] at hp; cases hp
    have : ∀ k, riter es (direct es a) k = direct es a := by
      intro k
      induction k with
      | zero => rfl
      | succ k ih =>
        show es.foldl rstep (riter es (direct es a) k) = _
        rw [ih, closed_step hg hc es (fun _ hx => hx)]
    rw [this]; exact hc
theorem rfold_sound {es : Edges} {N a : Nat} (hg : ∀ x ∈ es, good N x = true) : ∀ (fs : Edges) (S : Nat → Bool), (∀ x ∈ fs, x ∈ es) → (∀ t, S t = true → ∃ y : Nat, ((a : Int), (y : Int)) ∈ es ∧ Way es y t) → ∀ t, fs.foldl rstep S t = true → ∃ y : Nat, ((a : Int), (y : Int)) ∈ es ∧ Way es y t
  | [], _, _, h, t, ht => h t ht
  | x :: r, S, hs, h, t, ht => by
    rw [List.foldl_cons] at ht
    refine rfold_sound hg r _ (fun y hy => hs y (by simp [hy])) (fun u hu => ?_) t ht
    unfold rstep at hu
    split at hu
    · rename_i hp
      simp only [Bool.or_eq_true, decide_eq_true_eq] at hu
      rcases hu with rfl | hu
      · obtain ⟨y, h1, h2⟩ := h _ hp
        have hx := hs x (by simp)
        have hgx := hg x hx
        simp only [good, Bool.and_eq_true, decide_eq_true_eq] at hgx
        exact ⟨y, h1, .on h2 (by rw [Int.toNat_of_nonneg hgx.1.1, Int.toNat_of_nonneg hgx.2.1]; exact hx)⟩
      · exact h u hu
    · exact h u hu
theorem riter_sound {es : Edges} {N a : Nat} (hg : ∀ x ∈ es, good N x = true) : ∀ k t, riter es (direct es a) k t = true → ∃ y : Nat, ((a : Int), (y : Int)) ∈ es ∧ Way es y t
  | 0, t, h => ⟨t, by simpa [riter, direct] using h, .here _⟩
  | k + 1, t, h => rfold_sound hg es _ (fun _ hx => hx) (riter_sound hg k) t h
/-- Behind N rounds: just those that ways lead to. -/
theorem riter_way {es : Edges} {N a : Nat} (hg : ∀ x ∈ es, good N x = true) (t : Nat) : riter es (direct es a) N t = true ↔ ∃ y : Nat, ((a : Int), (y : Int)) ∈ es ∧ Way es y t := by
  refine ⟨riter_sound hg N t, fun ⟨y, h1, h2⟩ => ?_⟩
  have hc := riter_N (a := a) hg
  induction h2 with
  | here => exact riter_grows es _ N _ (by simpa [direct] using h1)
  | on hw he ih => exact hc _ _ he (ih ⟨_, h1, hw⟩)
/-- What Reaches tells. -/
def reach (N : Nat) (es : Edges) (v t : Nat) : Bool := es.any fun x => decide (x.1 = (v : Int)) && decide (0 ≤ (levels N es x.2).getD t 0)
theorem reach_riter {es : Edges} {N v t : Nat} (hg : ∀ x ∈ es, good N x = true) (ht : t < N) : reach N es v t = riter es (direct es v) N t := by
  rw [Bool.eq_iff_iff, riter_way hg]
  unfold reach
  rw [List.any_eq_true]
  constructor
  · rintro ⟨x, hx, h⟩
    have hgx := hg x hx
    simp only [good, Bool.and_eq_true, decide_eq_true_eq] at hgx h
    obtain ⟨x1, x2⟩ := x
    dsimp only at hgx h
    obtain ⟨y, rfl⟩ : ∃ y : Nat, x2 = y := ⟨x2.toNat, by omega⟩
    refine ⟨y, by rw [← h.1]; exact hx, (levels_way (by omega) ht hg).1 h.2⟩
  · rintro ⟨y, h1, h2⟩
    have hgx := hg _ h1
    simp only [good, Bool.and_eq_true, decide_eq_true_eq] at hgx
    refine ⟨_, h1, ?_⟩
    simp only [decide_true, Bool.true_and, decide_eq_true_eq]
    exact (levels_way (by omega) ht hg).2 h2
end Go.Proofs.Ytbjoljokdjgbnac
