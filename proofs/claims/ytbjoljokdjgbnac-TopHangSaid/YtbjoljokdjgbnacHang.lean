/-
  Nodes that hang together: their numbers are alike just if ways lead between them, edges gone either way; and how levels rise.
-/
import Derived.Test.YtbjoljokdjgbnacClos
import Derived.Test.YtbjoljokdjgbnacJoinM
namespace Go.Proofs.Ytbjoljokdjgbnac
def swap (x : Int × Int) : Int × Int := (x.2, x.1)
theorem rstep_nat2 (S : Nat → Bool) (p q : Nat) : rstep S ((p : Int), (q : Int)) = if S p then (fun t => decide (t = q) || S t) else S := by
  unfold rstep; simp only [Int.toNat_natCast]
/-- Each edge both ways. -/
def ways2 (es : Edges) : Edges := es.flatMap fun x => [x, swap x]
theorem mem_ways2 {es : Edges} {x : Int × Int} : x ∈ ways2 es ↔ x ∈ es ∨ swap x ∈ es := by
  unfold ways2
  rw [List.mem_flatMap]
  constructor
  · rintro ⟨y, hy, h⟩
    simp only [List.mem_cons, List.not_mem_nil, or_false] at h
    rcases h with rfl | rfl
    · exact .inl hy
    · exact .inr (by simpa [swap] using hy)
  · rintro (h | h)
    · exact ⟨x, h, by simp⟩
    · exact ⟨swap x, h, by simp [swap]⟩
theorem good_swap {N : Int} {x : Int × Int} (h : good N x = true) : good N (swap x) = true := by
  simp only [good, Bool.and_eq_true, decide_eq_true_eq] at h ⊢
  dsimp only [swap]
  omega
theorem good_ways2 {N : Int} {es : Edges} (h : ∀ x ∈ es, good N x = true) : ∀ x ∈ ways2 es, good N x = true := fun x hx => by
  rcases mem_ways2.1 hx with h1 | h1
  · exact h x h1
  · have := good_swap (h _ h1); simpa [swap] using this
theorem Way.back {es : Edges} {a b : Nat} (h : Way (ways2 es) a b) : Way (ways2 es) b a := by
  induction h with
  | here => exact .here _
  | on _ he ih =>
    refine Way.first ?_ ih
    rcases mem_ways2.1 he with h1 | h1
    · exact mem_ways2.2 (.inr (by simpa [swap] using h1))
    · exact mem_ways2.2 (.inl (by simpa [swap] using h1))
theorem riter_full {es : Edges} {N : Nat} {S : Nat → Bool} (hg : ∀ x ∈ es, good N x = true) (h1 : 1 ≤ many S N) : Closed es (riter es S N) := by
  rcases riter_closed (S := S) (N := N) hg N with h | h
  · exact h
  · have := many_le (riter es S N) N
    omega
/-- The nodes whose number is c at most. -/
def upTo (N : Nat) (ls : List Int) (c : Int) : Nat → Bool := fun t => decide (t < N ∧ ls.getD t 0 ≤ c)
theorem upTo_step {N : Nat} {ls : List Int} {c : Int} {p q : Nat} (hl : ls.length = N) (hp : p < N) (hq : q < N) : [((p : Int), (q : Int)), swap ((p : Int), (q : Int))].foldl rstep (upTo N ls c) = upTo N (jstep ls ((p : Int), (q : Int))) c := by
  have e1 : swap ((p : Int), (q : Int)) = ((q : Int), (p : Int)) := rfl
  rw [List.foldl_cons, List.foldl_cons, List.foldl_nil, e1, rstep_nat2, rstep_nat2, jstep_nat]
  funext t
  obtain ⟨a, ha⟩ : ∃ a, ls.getD p 0 = a := ⟨_, rfl⟩
  obtain ⟨b, hb⟩ : ∃ b, ls.getD q 0 = b := ⟨_, rfl⟩
  have vp : upTo N ls c p = decide (a ≤ c) := by unfold upTo; rw [ha]; simp [hp]
  have vq : upTo N ls c q = decide (b ≤ c) := by unfold upTo; rw [hb]; simp [hq]
  rw [ha, hb]
  have rhs : upTo N ((ls.set p (min a b)).set q (min a b)) c t = if t = q then decide (min a b ≤ c) else if t = p then decide (min a b ≤ c) else upTo N ls c t := by
    unfold upTo
    by_cases ht : t < N
    · rw [getD_set _ _ _ _ (by rw [List.length_set, hl]; exact ht), getD_set _ _ _ _ (by rw [hl]; exact ht)]
      by_cases h1 : t = q
      · subst h1; simp [hq]
      · rw [if_neg (fun e => h1 e.symm), if_neg h1]
        by_cases h2 : t = p
        · subst h2; simp [hp]
        · rw [if_neg (fun e => h2 e.symm), if_neg h2]
    · have h1 : ¬ t = q := fun e => ht (e ▸ hq)
      have h2 : ¬ t = p := fun e => ht (e ▸ hp)
      rw [if_neg h1, if_neg h2]
      simp [ht]
  rw [rhs]
  have hmin : decide (min a b ≤ c) = (decide (a ≤ c) || decide (b ≤ c)) := by
    rw [← Bool.decide_or]; exact decide_eq_decide.2 (by omega)
  rw [hmin]
  by_cases h1 : a ≤ c
  · have vp' : upTo N ls c p = true := by rw [vp]; simpa using h1
    rw [vp']
    simp only [if_true]
    by_cases e : t = q
    · subst e; simp [h1]
    · by_cases e2 : t = p
      · subst e2; simp [h1, vp']
      · simp [e, e2]
  · have vp' : upTo N ls c p = false := by rw [vp]; simpa using h1
    rw [vp']
    simp only [Bool.false_eq_true, if_false]
    by_cases h2 : b ≤ c
    · have vq' : upTo N ls c q = true := by rw [vq]; simpa using h2
      rw [vq']
      simp only [if_true]
      by_cases e : t = q
      · subst e; simp [h2, vq']
      · by_cases e2 : t = p
        · subst e2; simp [h2]
        · simp [e, e2]
    · have vq' : upTo N ls c q = false := by rw [vq]; simpa using h2
      rw [vq']
      simp only [Bool.false_eq_true, if_false]
      by_cases e : t = q
      · subst e; simp [h1, h2, vq']
      · by_cases e2 : t = p
        · subst e2; simp [h1, h2, vp', e]
        · simp [e, e2]
theorem upTo_fold {N : Nat} {c : Int} : ∀ (es : Edges) (ls : List Int), ls.length = N → (∀ x ∈ es, good N x = true) → (ways2 es).foldl rstep (upTo N ls c) = upTo N (es.foldl jstep ls) c
  | [], _, _, _ => rfl
  | x :: r, ls, hl, hg => by
    have hgx := hg x (by simp)
    simp only [good, Bool.and_eq_true, decide_eq_true_eq] at hgx
    obtain ⟨x1, x2⟩ := x
    dsimp only at hgx
    obtain ⟨p, rfl⟩ : ∃ p : Nat, x1 = p := ⟨x1.toNat, by omega⟩
    obtain ⟨q, rfl⟩ : ∃ q : Nat, x2 = q := ⟨x2.toNat, by omega⟩
    have e1 : ways2 (((p : Int), (q : Int)) :: r) = [((p : Int), (q : Int)), swap ((p : Int), (q : Int))] ++ ways2 r := rfl
    rw [e1, List.foldl_append, upTo_step hl (by omega) (by omega), List.foldl_cons]
    exact upTo_fold r _ (by rw [jstep_length]; exact hl) (fun y hy => hg y (by simp [hy]))
theorem upTo_iter {N : Nat} {c : Int} {es : Edges} (hg : ∀ x ∈ es, good N x = true) : ∀ k, riter (ways2 es) (upTo N (selfs N) c) k = upTo N (jlev N es k) c
  | 0 => rfl
  | k + 1 => by
    show (ways2 es).foldl rstep (riter (ways2 es) (upTo N (selfs N) c) k) = _
    rw [upTo_iter hg k, upTo_fold es _ (jlev_length N es k) hg, jlev_succ]
/-- Each number is a node's to which a way leads. -/
theorem jlab_step {N : Nat} {es : Edges} : ∀ (fs : Edges) (ls : List Int), ls.length = N → (∀ x ∈ fs, x ∈ es) → (∀ x ∈ es, good N x = true) → (∀ t, t < N → ∃ s : Nat, s ≤ t ∧ ls.getD t 0 = (s : Int) ∧ Way (ways2 es) t s) → ∀ t, t < N → ∃ s : Nat, s ≤ t ∧ (fs.foldl jstep ls).getD t 0 = (s : Int) ∧ Way (ways2 es) t s
  | [], _, _, _, _, h => h
  | x :: r, ls, hl, hf, hg, h => by
    rw [List.foldl_cons]
    refine jlab_step r _ (by rw [jstep_length]; exact hl) (fun y hy => hf y (by simp [hy])) hg ?_
    have hx := hf x (by simp)
    have hgx := hg x hx
    simp only [good, Bool.and_eq_true, decide_eq_true_eq] at hgx
    obtain ⟨x1, x2⟩ := x
    dsimp only at hgx
    obtain ⟨p, rfl⟩ : ∃ p : Nat, x1 = p := ⟨x1.toNat, by omega⟩
    obtain ⟨q, rfl⟩ : ∃ q : Nat, x2 = q := ⟨x2.toNat, by omega⟩
    have hp : p < N := by omega
    have hq : q < N := by omega
    intro t ht
    rw [jstep_nat, getD_set _ _ _ _ (by rw [List.length_set, hl]; exact ht), getD_set _ _ _ _ (by rw [hl]; exact ht)]
    obtain ⟨a, ha1, ha2, ha3⟩ := h p hp
    obtain ⟨b, hb1, hb2, hb3⟩ := h q hq
    have epq : ((p : Int), (q : Int)) ∈ ways2 es := mem_ways2.2 (.inl hx)
    have eqp : ((q : Int), (p : Int)) ∈ ways2 es := mem_ways2.2 (.inr hx)
    rw [ha2, hb2]
    by_cases hab : a ≤ b
    · rw [Int.min_eq_left (by omega)]
      by_cases e : q = t
      · subst e
        rw [if_pos rfl]
        exact ⟨a, by omega, rfl, Way.first eqp ha3⟩
      · rw [if_neg e]
        by_cases e2 : p = t
        · subst e2
          rw [if_pos rfl]
          exact ⟨a, ha1, rfl, ha3⟩
        · rw [if_neg e2]; exact h t ht
    · rw [Int.min_eq_right (by omega)]
      by_cases e : q = t
      · subst e
        rw [if_pos rfl]
        exact ⟨b, hb1, rfl, hb3⟩
      · rw [if_neg e]
        by_cases e2 : p = t
        · subst e2
          rw [if_pos rfl]
          exact ⟨b, by omega, rfl, Way.first epq hb3⟩
        · rw [if_neg e2]; exact h t ht
theorem jlab {N : Nat} {es : Edges} (hg : ∀ x ∈ es, good N x = true) : ∀ k t, t < N → ∃ s : Nat, s ≤ t ∧ (jlev N es k).getD t 0 = (s : Int) ∧ Way (ways2 es) t s
  | 0, t, ht => ⟨t, Nat.le_refl _, by simp [jlev, selfs, List.getD, ht], .here _⟩
  | k + 1, t, ht => by rw [jlev_succ]; exact jlab_step es _ (jlev_length N es k) (fun _ h => h) hg (jlab hg k) t ht
/-- Along an edge the numbers are alike. -/
theorem joined_edge {N p q : Nat} {es : Edges} (hg : ∀ x ∈ es, good N x = true) (he : ((p : Int), (q : Int)) ∈ ways2 es) : (joined N es).getD q 0 ≤ (joined N es).getD p 0 := by
  have hj : joined N es = jlev N es N := rfl
  have hgx := good_ways2 hg _ he
  simp only [good, Bool.and_eq_true, decide_eq_true_eq] at hgx
  have hp : p < N := by omega
  obtain ⟨s, hs1, hs2, _⟩ := jlab hg N p hp
  have hc := riter_full (es := ways2 es) (N := N) (S := upTo N (selfs N) ((joined N es).getD p 0)) (good_ways2 hg) (by
    have := many_more (N := N) (p := fun _ => false) (q := upTo N (selfs N) ((joined N es).getD p 0)) (fun _ _ h => by simp at h) ⟨0, by omega, rfl, by
      unfold upTo
      rw [hj, hs2]
      have : (selfs N).getD 0 0 = 0 := by simp [selfs, List.getD]; cases N <;> simp
      rw [this]; simp; omega⟩
    omega)
  rw [upTo_iter hg, ← hj] at hc
  have := hc p q he (by unfold upTo; simp [hp])
  unfold upTo at this
  exact (of_decide_eq_true this).2
theorem joined_way {N a b : Nat} {es : Edges} (hg : ∀ x ∈ es, good N x = true) (h : Way (ways2 es) a b) : (joined N es).getD b 0 = (joined N es).getD a 0 := by
  have le : ∀ {a b : Nat}, Way (ways2 es) a b → (joined N es).getD b 0 ≤ (joined N es).getD a 0 := fun {a b} h => by
    induction h with
    | here => exact Int.le_refl _
    | on _ he ih => exact Int.le_trans (joined_edge hg he) ih
  have h1 := le h
  have h2 := le h.back
  omega
/-- Nodes' numbers are alike just if ways lead between them. -/
theorem joined_iff {N a b : Nat} {es : Edges} (hg : ∀ x ∈ es, good N x = true) (ha : a < N) (hb : b < N) : (joined N es).getD a 0 = (joined N es).getD b 0 ↔ Way (ways2 es) a b := by
  refine ⟨fun h => ?_, fun h => (joined_way hg h).symm⟩
  obtain ⟨s, _, hs2, hs3⟩ := jlab hg N a ha
  obtain ⟨u, _, hu2, hu3⟩ := jlab hg N b hb
  have e : s = u := by
    have h1 : (joined N es).getD a 0 = (s : Int) := hs2
    have h2 : (joined N es).getD b 0 = (u : Int) := hu2
    omega
  subst e
  exact hs3.trans hu3.back
theorem joined_le {N t : Nat} {es : Edges} (hg : ∀ x ∈ es, good N x = true) (ht : t < N) : (joined N es).getD t 0 ≤ (t : Int) ∧ 0 ≤ (joined N es).getD t 0 := by
  obtain ⟨s, hs1, hs2, _⟩ := jlab hg N t ht
  have h1 : (joined N es).getD t 0 = (s : Int) := hs2
  omega
theorem Way.mono {es fs : Edges} {a b : Nat} (h : Way es a b) (hs : ∀ x, x ∈ es → x ∈ fs) : Way fs a b := by
  induction h with
  | here => exact .here _
  | on _ he ih => exact .on ih (hs _ he)
/-- Levels rise by 1 at most. -/
theorem lev_rise {es : Edges} {N root : Nat} (hroot : root < N) (hg : ∀ x ∈ es, good N x = true) : ∀ k (p q : Nat), ((p : Int), (q : Int)) ∈ es → 0 ≤ ((List.range k).foldl (lround es) ((List.replicate N (-1)).set root 0)).getD p 0 → ((List.range k).foldl (lround es) ((List.replicate N (-1)).set root 0)).getD p 0 < k → ((List.range k).foldl (lround es) ((List.replicate N (-1)).set root 0)).getD q 0 ≤ ((List.range k).foldl (lround es) ((List.replicate N (-1)).set root 0)).getD p 0 + 1
  | 0, p, q, _, h1, h2 => by omega
  | k + 1, p, q, he, h1, h2 => by
    have h0 := lev_all hroot hg k
    have h3 := lev_all hroot hg (k + 1)
    have hgx := hg _ he
    simp only [good, Bool.and_eq_true, decide_eq_true_eq] at hgx
    have ih := lev_rise hroot hg k p q he
    have hm : Mid es N root k ((List.range k).foldl (lround es) ((List.replicate N (-1)).set root 0)) ((List.range (k + 1)).foldl (lround es) ((List.replicate N (-1)).set root 0)) es := by
      rw [List.range_succ, List.foldl_append, List.foldl_cons, List.foldl_nil]
      exact mid_all hg h0 [] es _ rfl ⟨h0.len, fun _ _ _ => rfl, fun _ _ _ => .inl rfl, fun _ _ h => by simp at h⟩
    obtain ⟨l0, hl0⟩ : ∃ l0, (List.range k).foldl (lround es) ((List.replicate N (-1)).set root 0) = l0 := ⟨_, rfl⟩
    obtain ⟨l1, hl1⟩ : ∃ l1, (List.range (k + 1)).foldl (lround es) ((List.replicate N (-1)).set root 0) = l1 := ⟨_, rfl⟩
    rw [hl0] at h0 ih hm
    rw [hl1] at h3 hm h1 h2 ⊢
    have hq := h3.top q (by omega)
    by_cases e : l1.getD p 0 = k
    · omega
    · have hp0 : 0 ≤ l0.getD p 0 := by
        by_cases h4 : 0 ≤ l0.getD p 0
        · exact h4
        · rcases hm.new p (by omega) (by omega) with h5 | ⟨h5, _⟩ <;> omega
      have hpk := hm.keep p (by omega) hp0
      have hq0 := h0.on p q he hp0 (by omega)
      have hqk := hm.keep q (by omega) hq0
      have := ih hp0 (by omega)
      omega
theorem levels_rise {es : Edges} {N root p q : Nat} (hroot : root < N) (hg : ∀ x ∈ es, good N x = true) (he : ((p : Int), (q : Int)) ∈ es) (h : 0 ≤ (levels N es root).getD p 0) : 0 ≤ (levels N es root).getD q 0 ∧ (levels N es root).getD q 0 ≤ (levels N es root).getD p 0 + 1 := by
  have hgx := hg _ he
  simp only [good, Bool.and_eq_true, decide_eq_true_eq] at hgx
  have hp : p < N := by omega
  have hq : q < N := by omega
  refine ⟨(levels_way hroot hq hg).2 (.on ((levels_way hroot hp hg).1 h) he), ?_⟩
  have hl : levels N es root = (List.range N).foldl (lround es) ((List.replicate N (-1)).set root 0) := by
    unfold levels; rw [if_pos (by omega)]; simp
  have hL := lev_all hroot hg N
  rw [hl] at h ⊢
  refine lev_rise hroot hg N p q he h ?_
  have h1 := hL.top p hp
  by_cases e : ((List.range N).foldl (lround es) ((List.replicate N (-1)).set root 0)).getD p 0 = N
  · have := hL.cnt ⟨p, hp, e⟩
    have := many_le (fun t => decide (0 ≤ ((List.range N).foldl (lround es) ((List.replicate N (-1)).set root 0)).getD t 0)) N
    omega
  · omega
theorem levels_root {es : Edges} {N root : Nat} (hroot : root < N) (hg : ∀ x ∈ es, good N x = true) : (levels N es root).getD root 0 = 0 := by
  have hl : levels N es root = (List.range N).foldl (lround es) ((List.replicate N (-1)).set root 0) := by
    unfold levels; rw [if_pos (by omega)]; simp
  rw [hl]
  have : ∀ k, ((List.range k).foldl (lround es) ((List.replicate N (-1)).set root 0)).getD root 0 = 0 := by
    intro k
    induction k with
    | zero => show ((List.replicate N (-1)).set root 0 : List Int).getD root 0 = 0; rw [getD_set _ _ _ _ (by simpa using hroot), if_pos rfl]
    | succ k ih =>
      have h0 := lev_all hroot hg k
      have hm : Mid es N root k ((List.range k).foldl (lround es) ((List.replicate N (-1)).set root 0)) ((List.range (k + 1)).foldl (lround es) ((List.replicate N (-1)).set root 0)) es := by
        rw [List.range_succ, List.foldl_append, List.foldl_cons, List.foldl_nil]
        exact mid_all hg h0 [] es _ rfl ⟨h0.len, fun _ _ _ => rfl, fun _ _ _ => .inl rfl, fun _ _ h => by simp at h⟩
      rw [hm.keep root hroot (by omega)]; exact ih
  exact this N
end Go.Proofs.Ytbjoljokdjgbnac
