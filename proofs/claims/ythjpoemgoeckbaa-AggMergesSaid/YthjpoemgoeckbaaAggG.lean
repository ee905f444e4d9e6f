/-
  The law of AggMerges.
-/
import Derived.Test.YthjpoemgoeckbaaAggL
import Derived.Test.YthjpoemgoeckbaaARows
namespace Go.Proofs.Ythjpoemgoeckbaa
open Go.RowKit Go.Deep Go.MapKept
/-- A pair, or none. -/
def St (w : World) (N : Nat → Prop) (a r : Value) (L : Nat) : Prop := (a = .pointer none ∧ r = .pointer none) ∨ ∃ p q o n rows, a = .pointer (some ⟨p, 0, none⟩) ∧ r = .pointer (some ⟨q, 0, none⟩) ∧ Duo w N p q o n rows L
def blk : Value → Option Nat
  | .pointer (some a) => some a.block
  | _ => none
/-- Two pairs apart, none of them below B. -/
structure Two (w : World) (B : Nat) (N : Nat → Prop) (a r b s : Value) (L M : Nat) : Prop where
  one : St w N a r L
  two : St w N b s M
  far : ∀ x y, (blk a = some x ∨ blk r = some x) → (blk b = some y ∨ blk s = some y) → x ≠ y
  low : ∀ x, (blk a = some x ∨ blk r = some x) → B ≤ x
theorem St.below {w w' : World} {N : Nat → Prop} {a r : Value} {L : Nat} (h : St w N a r L) (hb : Below w.heap.size w w') : St w' N a r L := by
  rcases h with h | ⟨p, q, o, n, rows, h1, h2, h3⟩
  · exact .inl h
  · exact .inr ⟨p, q, o, n, rows, h1, h2, h3.below hb⟩
theorem St.chg {w w' : World} {N S : Nat → Prop} {a r : Value} {L : Nat} (h : St w N a r L) (hg : Chg w w' S) (hS : ∀ b, S b → N b) (hn : ∀ x, (blk a = some x ∨ blk r = some x) → ¬ S x) : St w' N a r L := by
  rcases h with h | ⟨p, q, o, n, rows, rfl, rfl, h3⟩
  · exact .inl h
  · exact .inr ⟨p, q, o, n, rows, rfl, rfl, h3.chg hg hS (hn p (.inl rfl)) (hn q (.inr rfl))⟩
theorem Two.below {w w' : World} {B : Nat} {N : Nat → Prop} {a r b s : Value} {L M : Nat} (h : Two w B N a r b s L M) (hb : Below w.heap.size w w') : Two w' B N a r b s L M := ⟨h.one.below hb, h.two.below hb, h.far, h.low⟩
theorem same_st {w : World} {N : Nat → Prop} {a r : Value} {L : Nat} (h : St w N a r L) (hL : L ≤ 5000) (k : Nat) (hk : k < 18446744073709551616) : Calls Try.prog 10 #[a, r, .int .u64 (k : Int)] w fun e w' => e = .returned (.bool true) ∧ Below w.heap.size w w' := by
  rcases h with ⟨rfl, rfl⟩ | ⟨p, q, o, n, rows, rfl, rfl, h3⟩
  · refine (same_nil w k).mono ?_
    rintro e w' ⟨rfl, rfl⟩
    exact ⟨rfl, Below.refl _ _⟩
  · exact same_any h3 hL k hk
theorem fit_zip {A O : List (List Int)} (hA : ∀ r ∈ A, ∀ z ∈ r, In64 z) (hO : ∀ r ∈ O, ∀ z ∈ r, In64 z) : ∀ r ∈ List.zipWith (· ++ ·) A O, ∀ z ∈ r, In64 z := fun r hr z hz => by
  obtain ⟨j, hj⟩ := List.mem_iff_getElem?.1 hr
  obtain ⟨a, b, ha, hb, rfl⟩ := zip_get hj
  rcases List.mem_append.1 hz with hz | hz
  · exact hA a (List.mem_of_getElem? ha) z hz
  · exact hO b (List.mem_of_getElem? hb) z hz
theorem duo_merge {w w1 w2 : World} {N : Nat → Prop} {p q o n L M : Nat} {A O : List (List Int)} {ps qs : List Int} (h : Duo w N p q o n A L) (hPs : Parts o n ps A) (hQs : Parts o n qs O) (hO : ∀ r ∈ O, ∀ z ∈ r, In64 z) (hc : countR O ≤ M)
    (h1 : PAg w1 p o n ((countR A : Nat) + (countR O : Nat)) (mrg o ps qs n)) (hg : w1.grownBy w2 (some q)) (hR : RAg w2 N q o (List.zipWith (· ++ ·) A O)) : Duo w2 N p q o n (List.zipWith (· ++ ·) A O) (L + M) := by
  have hl : A.length = O.length := by rw [hPs.2.1, hQs.2.1]
  have hz := count_zip A O hl
  have hf := h.few
  refine ⟨⟨_, ?_, Parts.merge h.m5 hPs hQs h.fit hO⟩, hR, h.m5, h.n1, h.np, h.ne, fit_zip h.fit hO, by omega⟩
  rw [hz]
  have := h1.grown hg (fun e => h.ne (by cases e; rfl))
  simpa using this
def MP (E : Int) (P : World → Prop) (e : Ending) (w : World) : Prop := e = .returned (.int .i64 E) ∧ P w
set_option maxRecDepth 100000 in
theorem merge_key {w : World} {B : Nat} {N : Nat → Prop} {a r b s : Value} {L M : Nat} (h : Two w B N a r b s L M) (hB : B ≤ w.heap.size) (hL : L ≤ 500) (hM : M ≤ 500) : ∃ (E : Int) (P : World → Prop), Calls Try.prog 11 #[a, b] w (MP E P) ∧ ∀ w1, P w1 → Calls Try.prog 12 #[r, s] w1 (MP E fun w2 => Two w2 B N a r b s (L + M) M ∧ Below B w w2) := by
  obtain ⟨h1, h2, hf, hlow⟩ := h
  rcases h1 with ⟨rfl, rfl⟩ | ⟨p, q, o, n, A, rfl, rfl, hD⟩
  · refine ⟨1, fun W => w = W, ?_, ?_⟩
    · have hb : b = .pointer none ∨ ∃ q, b = .pointer (some ⟨q, 0, none⟩) := by
        rcases h2 with ⟨rfl, _⟩ | ⟨p, _, _, _, _, rfl, _⟩
        · exact .inl rfl
        · exact .inr ⟨p, rfl⟩
      exact (pmerge_nil1 b hb w).mono fun e w' h => h
    · rintro w1 rfl
      have hs : ∃ x, s = .pointer x := by
        rcases h2 with ⟨_, rfl⟩ | ⟨_, q, _, _, _, _, rfl, _⟩
        · exact ⟨_, rfl⟩
        · exact ⟨_, rfl⟩
      obtain ⟨x, rfl⟩ := hs
      refine (rmerge_nil none x w (.inl rfl)).mono ?_
      rintro e w' ⟨rfl, rfl⟩
      exact ⟨rfl, ⟨.inl ⟨rfl, rfl⟩, h2, hf, hlow⟩, Below.refl _ _⟩
  · have hD' := hD.more (show L ≤ L + M by omega)
    have hpB : B ≤ p := hlow p (.inl rfl)
    have hqB : B ≤ q := hlow q (.inr rfl)
    rcases h2 with ⟨rfl, rfl⟩ | ⟨p', q', o', n', O, rfl, rfl, hE⟩
    · refine ⟨1, fun W => w = W, (pmerge_nil2 p w).mono fun e w' h => h, ?_⟩
      rintro w1 rfl
      refine (rmerge_nil _ none w (.inr rfl)).mono ?_
      rintro e w' ⟨rfl, rfl⟩
      exact ⟨rfl, ⟨.inr ⟨p, q, o, n, A, rfl, rfl, hD'⟩, .inl ⟨rfl, rfl⟩, hf, hlow⟩, Below.refl _ _⟩
    · obtain ⟨ps, hP, hPs⟩ := hD.pg
      obtain ⟨qs, hQ, hQs⟩ := hE.pg
      have hpp : p ≠ p' := hf p p' (.inl rfl) (.inl rfl)
      have hqp : q ≠ p' := hf q p' (.inr rfl) (.inl rfl)
      have hpq' : p ≠ q' := hf p q' (.inl rfl) (.inr rfl)
      have hqq' : q ≠ q' := hf q q' (.inr rfl) (.inr rfl)
      by_cases hsame : o = o' ∧ n = n'
      · obtain ⟨rfl, rfl⟩ := hsame
        have hfA := hD.few
        have hfO := hE.few
        refine ⟨0, fun W => PAg W p o n ((countR A : Nat) + (countR O : Nat)) (mrg o ps qs n) ∧ w.grownBy W (some p), ?_, ?_⟩
        · refine (pmerge_two hP hQ hpp hD.m5 hD.len.2 (by omega) (by omega) (by omega)).mono ?_
          rintro e w' ⟨rfl, h1, h2⟩
          exact ⟨rfl, h1, h2⟩
        · rintro w1 ⟨hA1, hg1⟩
          have hR1 := hD.rg.grown hg1 (fun b e => by cases e; exact hD.np) (fun e => hD.ne (by cases e; rfl))
          have hS1 := hE.rg.grown hg1 (fun b e => by cases e; exact hD.np) (fun e => hpq' (by cases e; rfl))
          refine (rmerge_any hR1 hS1 (by rw [hPs.2.1, hQs.2.1]) (by have := hD.len; omega) (fun r hr => by have := row_few hr; omega) (fun r hr => by have := row_few hr; omega)).mono ?_
          rintro e w2 ⟨rfl, hR2, hg2⟩
          have hc : Chg w w2 (pq p q) := (chg_grown hg1 (.inl rfl)).trans (chg_grown hg2 (.inr rfl))
          refine ⟨rfl, ⟨.inr ⟨p, q, o, n, _, rfl, rfl, duo_merge hD hPs hQs hE.fit hfO hA1 hg2 hR2⟩, ?_, hf, hlow⟩, hc.toBelow (fun k hk => by rcases hk with rfl | rfl; exact hpB; exact hqB) hB⟩
          exact .inr ⟨p', q', o, n, O, rfl, rfl, hE.chg hc hD.two (fun e => by rcases e with e | e; exact hpp e.symm; exact hqp e.symm) (fun e => by rcases e with e | e; exact hpq' e.symm; exact hqq' e.symm)⟩
      · refine ⟨2, fun W => Below w.heap.size w W, ?_, ?_⟩
        · refine (pmerge_bad hP hQ hsame).mono ?_
          rintro e w' ⟨rfl, hb⟩
          exact ⟨rfl, hb⟩
        · intro w1 hb1
          have hD1 := hD'.below hb1
          have hE1 := hE.below hb1
          refine (rmerge_bad hD1.rg hE1.rg ?_).mono ?_
          · rw [hPs.2.1, hQs.2.1]
            by_cases e : o = o'
            · exact .inr fun e2 => hsame ⟨e, e2⟩
            · exact .inl e
          rintro e w2 ⟨rfl, hb2⟩
          exact ⟨rfl, ⟨.inr ⟨p, q, o, n, A, rfl, rfl, hD1.below hb2⟩, .inr ⟨p', q', o', n', O, rfl, rfl, hE1.below hb2⟩, hf, hlow⟩, (hb1.trans (hb2.mono hb1.size)).mono hB⟩
set_option maxRecDepth 100000 in
theorem self_key {w : World} {B : Nat} {N : Nat → Prop} {a r b s : Value} {L M : Nat} (h : Two w B N a r b s L M) (hB : B ≤ w.heap.size) (hL : L ≤ 1000) : ∃ (E : Int) (P : World → Prop), Calls Try.prog 11 #[a, a] w (MP E P) ∧ ∀ w1, P w1 → Calls Try.prog 12 #[r, r] w1 (MP E fun w2 => St w2 N a r (L + L) ∧ Below B w w2) := by
  obtain ⟨h1, _, _, hlow⟩ := h
  rcases h1 with ⟨rfl, rfl⟩ | ⟨p, q, o, n, A, rfl, rfl, hD⟩
  · refine ⟨1, fun W => w = W, (pmerge_nil1 _ (.inl rfl) w).mono fun e w' h => h, ?_⟩
    rintro w1 rfl
    refine (rmerge_nil none none w (.inl rfl)).mono ?_
    rintro e w' ⟨rfl, rfl⟩
    exact ⟨rfl, .inl ⟨rfl, rfl⟩, Below.refl _ _⟩
  · have hpB : B ≤ p := hlow p (.inl rfl)
    have hqB : B ≤ q := hlow q (.inr rfl)
    obtain ⟨ps, hP, hPs⟩ := hD.pg
    have hfA := hD.few
    refine ⟨0, fun W => PAg W p o n ((countR A : Nat) + (countR A : Nat)) (mrg o ps ps n) ∧ w.grownBy W (some p), ?_, ?_⟩
    · refine (pmerge_self hP hD.m5 hD.len.2 (by omega) (by omega)).mono ?_
      rintro e w' ⟨rfl, h1, h2⟩
      exact ⟨rfl, h1, h2⟩
    · rintro w1 ⟨hA1, hg1⟩
      have hR1 := hD.rg.grown hg1 (fun b e => by cases e; exact hD.np) (fun e => hD.ne (by cases e; rfl))
      refine (rmerge_any hR1 hR1 rfl (by have := hD.len; omega) (fun r hr => by have := row_few hr; omega) (fun r hr => by have := row_few hr; omega)).mono ?_
      rintro e w2 ⟨rfl, hR2, hg2⟩
      have hc : Chg w w2 (pq p q) := (chg_grown hg1 (.inl rfl)).trans (chg_grown hg2 (.inr rfl))
      exact ⟨rfl, .inr ⟨p, q, o, n, _, rfl, rfl, duo_merge hD hPs hPs hD.fit hfA hA1 hg2 hR2⟩, hc.toBelow (fun k hk => by rcases hk with rfl | rfl; exact hpB; exact hqB) hB⟩
/-- What a play leaves. -/
def PlSt (w : World) (e : Ending) (w' : World) : Prop := ∃ a r, e = .returned (.tuple #[a, r, .bool true]) ∧ Below w.heap.size w w' ∧ ((a = .pointer none ∧ r = .pointer none) ∨ ∃ p q o n rows, a = .pointer (some ⟨p, 0, none⟩) ∧ r = .pointer (some ⟨q, 0, none⟩) ∧ w.heap.size ≤ p ∧ w.heap.size ≤ q ∧ Duo w' (fun k => k < w.heap.size ∨ k = p ∨ k = q) p q o n rows 50)
theorem play_st (w : World) (o : Nat) (n : Int) (v : Value) (xs : List Msg) (hv : SeesM w v xs) (hi : ∀ x ∈ xs, x.inr) : Calls Try.prog 8 #[.int .u8 (o : Int), .int .i64 n, v] w (PlSt w) := by
  rcases good_or o n with hbad | ⟨ho, h1, h4⟩
  · refine (play_nil w o n v xs hbad hv).mono ?_
    rintro e w' ⟨rfl, hb⟩
    exact ⟨_, _, rfl, hb, .inl ⟨rfl, rfl⟩⟩
  · obtain ⟨n, rfl⟩ : ∃ n' : Nat, n = (n' : Int) := ⟨n.toNat, by omega⟩
    refine (play_any w o n v xs ho (by omega) (by omega) hv hi).mono ?_
    rintro e w' ⟨p, q, rows, rfl, hp, hq, hb, hd⟩
    exact ⟨_, _, rfl, hb, .inr ⟨p, q, o, n, rows, rfl, rfl, hp, hq, hd⟩⟩
theorem two_plays {w w1 w2 : World} {a r b s : Value} (hb1 : Below w.heap.size w w1)
    (h1 : (a = .pointer none ∧ r = .pointer none) ∨ ∃ p q o n rows, a = .pointer (some ⟨p, 0, none⟩) ∧ r = .pointer (some ⟨q, 0, none⟩) ∧ w.heap.size ≤ p ∧ w.heap.size ≤ q ∧ Duo w1 (fun k => k < w.heap.size ∨ k = p ∨ k = q) p q o n rows 50)
    (hb2 : Below w1.heap.size w1 w2)
    (h2 : (b = .pointer none ∧ s = .pointer none) ∨ ∃ p q o n rows, b = .pointer (some ⟨p, 0, none⟩) ∧ s = .pointer (some ⟨q, 0, none⟩) ∧ w1.heap.size ≤ p ∧ w1.heap.size ≤ q ∧ Duo w2 (fun k => k < w1.heap.size ∨ k = p ∨ k = q) p q o n rows 50) :
    ∃ N, Two w2 w.heap.size N a r b s 50 50 := by
  have hs := hb1.size
  rcases h1 with ⟨rfl, rfl⟩ | ⟨p, q, o, n, A, rfl, rfl, hp, hq, hD⟩
  · rcases h2 with ⟨rfl, rfl⟩ | ⟨p', q', o', n', O, rfl, rfl, hp', hq', hE⟩
    · exact ⟨fun _ => False, .inl ⟨rfl, rfl⟩, .inl ⟨rfl, rfl⟩, fun x y h _ => by simp [blk] at h, fun x h => by simp [blk] at h⟩
    · exact ⟨_, .inl ⟨rfl, rfl⟩, .inr ⟨p', q', o', n', O, rfl, rfl, hE⟩, fun x y h _ => by simp [blk] at h, fun x h => by simp [blk] at h⟩
  · have hlow : ∀ x, (blk (.pointer (some ⟨p, 0, none⟩)) = some x ∨ blk (.pointer (some ⟨q, 0, none⟩)) = some x) → w.heap.size ≤ x := fun x h => by
      simp only [blk, Option.some.injEq] at h
      rcases h with rfl | rfl
      · exact hp
      · exact hq
    rcases h2 with ⟨rfl, rfl⟩ | ⟨p', q', o', n', O, rfl, rfl, hp', hq', hE⟩
    · exact ⟨_, .inr ⟨p, q, o, n, A, rfl, rfl, hD.below hb2⟩, .inl ⟨rfl, rfl⟩, fun x y _ h => by simp [blk] at h, hlow⟩
    · obtain ⟨ps, hP, hPs⟩ := hD.pg
      have hpl := hP.lt
      have hql := hD.rg.lt
      obtain ⟨qs, hQ, hQs⟩ := hE.pg
      have hpl' := hQ.lt
      have hql' := hE.rg.lt
      have hs2 := hb2.size
      refine ⟨fun k => k < w.heap.size ∨ k = p ∨ k = q ∨ k = p' ∨ k = q', .inr ⟨p, q, o, n, A, rfl, rfl, ?_⟩, .inr ⟨p', q', o', n', O, rfl, rfl, ?_⟩, ?_, hlow⟩
      · exact ⟨⟨ps, hP.below hb2 (Nat.le_refl _), hPs⟩, hD.rg.wide hb2 (fun k hk => by rcases hk with hk | hk | hk | rfl | rfl; exact .inl (.inl hk); exact .inl (.inr (.inl hk)); exact .inl (.inr (.inr hk)); exact .inr hp'; exact .inr hq') (fun k hk => by rcases hk with hk | rfl | rfl | rfl | rfl <;> omega) (.inr (.inr (.inl rfl))), hD.m5, hD.n1, .inr (.inl rfl), hD.ne, hD.fit, hD.few⟩
      · exact ⟨⟨qs, hQ, hQs⟩, hE.rg.less (fun k hk => by rcases hk with hk | rfl | rfl | hk | hk; exact .inl (by omega); exact .inl hpl; exact .inl hql; exact .inr (.inl hk); exact .inr (.inr hk)) (.inr (.inr (.inr (.inr rfl)))), hE.m5, hE.n1, .inr (.inr (.inr (.inl rfl))), hE.ne, hE.fit, hE.few⟩
      · intro x y hx hy
        simp only [blk, Option.some.injEq] at hx hy
        rcases hx with rfl | rfl <;> rcases hy with rfl | rfl <;> omega
set_option maxRecDepth 100000 in
set_option maxHeartbeats 2000000 in
theorem aggMerges_law (w : World) (o0 o1 n0 n1 : Nat) (hn0 : n0 < 256) (hn1 : n1 < 256) (s0 s1 : Value) (xs ys : List Msg) (hx : SeesM w s0 xs ∧ ∀ x ∈ xs, x.inr) (hy : SeesM w s1 ys ∧ ∀ x ∈ ys, x.inr) :
    Calls Try.prog 4 #[.agg #[.int .u8 (o0 : Int), .int .u8 (o1 : Int)], .agg #[.int .u8 (n0 : Int), .int .u8 (n1 : Int)], .agg #[s0, s1]] w fun e w' => e = .returned (.bool true) ∧ Below w.heap.size w w' := by
  obtain ⟨a0, c0, rfl, _, _⟩ := hx.1
  obtain ⟨a1, c1, rfl, _, _⟩ := hy.1
  obtain ⟨l0, hl0⟩ : ∃ l0, xs.length = l0 := ⟨_, rfl⟩
  obtain ⟨l1, hl1⟩ : ∃ l1, ys.length = l1 := ⟨_, rfl⟩
  have HX := hidI hx
  have HY := hidI hy
  rw [hl0] at HX ⊢
  rw [hl1] at HY ⊢
  clear hx hy hl0 hl1
  have hb0 : Below w.heap.size w (((w.alloc (.cells #[.int .u8 (o0 : Int), .int .u8 (o1 : Int)] 32)).alloc (.cells #[.int .u8 (n0 : Int), .int .u8 (n1 : Int)] 33)).alloc (.cells #[.slice a0 l0 c0, .slice a1 l1 c1] 34)) := by (repeat (first | exact Below.refl _ _ | assumption | refine Below.drew ?_ | refine Below.alloc ?_ (by first | omega | (simp; done) | (simp; omega)) _ | refine Below.setCell ?_ (by first | omega | (simp; done) | (simp; omega)) _))
  have HB0 := hidI hb0
  have k0 : (((w.alloc (.cells #[.int .u8 (o0 : Int), .int .u8 (o1 : Int)] 32)).alloc (.cells #[.int .u8 (n0 : Int), .int .u8 (n1 : Int)] 33)).alloc (.cells #[.slice a0 l0 c0, .slice a1 l1 c1] 34)).cell? ⟨w.heap.size, 1, none⟩ = some (.int .u8 (o1 : Int)) := by go_simp
  have k1 : (((w.alloc (.cells #[.int .u8 (o0 : Int), .int .u8 (o1 : Int)] 32)).alloc (.cells #[.int .u8 (n0 : Int), .int .u8 (n1 : Int)] 33)).alloc (.cells #[.slice a0 l0 c0, .slice a1 l1 c1] 34)).cell? ⟨w.heap.size + 1, 1, none⟩ = some (.int .u8 (n1 : Int)) := by go_simp
  have k2 : (((w.alloc (.cells #[.int .u8 (o0 : Int), .int .u8 (o1 : Int)] 32)).alloc (.cells #[.int .u8 (n0 : Int), .int .u8 (n1 : Int)] 33)).alloc (.cells #[.slice a0 l0 c0, .slice a1 l1 c1] 34)).cell? ⟨w.heap.size + 2, 1, none⟩ = some (.slice a1 l1 c1) := by go_simp
  have HK := hidI (And.intro k0 (And.intro k1 k2))
  have HSz : Hid ((((w.alloc (.cells #[.int .u8 (o0 : Int), .int .u8 (o1 : Int)] 32)).alloc (.cells #[.int .u8 (n0 : Int), .int .u8 (n1 : Int)] 33)).alloc (.cells #[.slice a0 l0 c0, .slice a1 l1 c1] 34)).heap.size = w.heap.size + 3) := hidI (by simp)
  clear k0 k1 k2 hb0
  have wn0 : IntKind.i64.wrap (n0 : Int) = (n0 : Int) := by rw [IntKind.wrap_i64]; omega
  have wn1 : IntKind.i64.wrap (n1 : Int) = (n1 : Int) := by rw [IntKind.wrap_i64]; omega
  have C1 := hidI (play_st _ o0 ((n0 : Int) % 5) _ xs (HX.out.1.below HB0.out (Nat.le_refl _)) HX.out.2)
  go_enter Try.func4, Try.ntmps4
  go_wp2_with (go_at_call 8; refine Calls.mono C1.out ?_; rintro e w2 ⟨a, r, rfl, hb2, hst2⟩; refine Hid.out ?_)
  refine hidI ?_
  have HB2 := hidI hb2
  have HS2 := hidI hst2
  generalize ((w.alloc (.cells #[.int .u8 (o0 : Int), .int .u8 (o1 : Int)] 32)).alloc (.cells #[.int .u8 (n0 : Int), .int .u8 (n1 : Int)] 33)).alloc (.cells #[.slice a0 l0 c0, .slice a1 l1 c1] 34) = w1 at *
  have HBw2 := hidI (HB0.out.trans (hb2.mono HB0.out.size))
  have hsz := HSz.out
  have m0 : w2.cell? ⟨w.heap.size, 1, none⟩ = some (.int .u8 (o1 : Int)) := (hb2.cell (p := ⟨w.heap.size, 1, none⟩) (by show w.heap.size < _; omega)).trans HK.out.1
  have m1 : w2.cell? ⟨w.heap.size + 1, 1, none⟩ = some (.int .u8 (n1 : Int)) := (hb2.cell (p := ⟨w.heap.size + 1, 1, none⟩) (by show w.heap.size + 1 < _; omega)).trans HK.out.2.1
  have m2 : w2.cell? ⟨w.heap.size + 2, 1, none⟩ = some (.slice a1 l1 c1) := (hb2.cell (p := ⟨w.heap.size + 2, 1, none⟩) (by show w.heap.size + 2 < _; omega)).trans HK.out.2.2
  clear hb2 hst2 C1 hsz HK
  have C2 := hidI (play_st w2 o1 ((n1 : Int) % 5) _ ys (HY.out.1.below HBw2.out (Nat.le_refl _)) HY.out.2)
  go_wp2_with (go_at_call 8; refine Calls.mono C2.out ?_; rintro e w3 ⟨b, s, rfl, hb3, hst3⟩; refine Hid.out ?_)
  refine hidI ?_
  obtain ⟨N, hT3⟩ := two_plays HB2.out HS2.out hb3 hst3
  have HT3 := hidI hT3
  have HBw3 := hidI (HBw2.out.trans (hb3.mono HBw2.out.size))
  have HB3 := hidI (HB2.out.trans (hb3.mono HB2.out.size))
  clear hT3 hb3 hst3 C2 HS2 m0 m1 m2 HB2
  have C3 := hidI (live_any w3)
  go_wp2_with (go_at_call 9; refine Calls.mono C3.out ?_; rintro e w4 ⟨rfl, hb4⟩; refine Hid.out ?_)
  refine hidI ?_
  have HT4 := hidI (HT3.out.below hb4)
  have HB4 := hidI (HB3.out.trans (hb4.mono HB3.out.size))
  clear hb4 C3 HT3
  obtain ⟨E, P, hA, hR⟩ := merge_key HT4.out HB4.out.size (by omega) (by omega)
  have C4 := hidI hA
  have C5 := hidI hR
  clear hA hR
  go_wp2_with (go_at_call 11; refine Calls.mono C4.out ?_; rintro e w5 ⟨rfl, hp5⟩; refine Hid.out ?_)
  refine hidI ?_
  have C5' := hidI (C5.out w5 hp5)
  clear C4 C5 hp5
  have kE : (E == E) = true := by simp
  go_wp2_with (go_at_call 12; refine Calls.mono C5'.out ?_; rintro e w6 ⟨rfl, hT6, hb6⟩; refine Hid.out ?_)
  refine hidI ?_
  have HT6 := hidI hT6
  have HB6 := hidI (HB4.out.trans hb6)
  clear C5' hT6 hb6 HT4
  have S1 : Hid (Calls Try.prog 10 #[a, r, .int .u64 5] w6 fun e w' => e = .returned (.bool true) ∧ Below w6.heap.size w6 w') := hidI (same_st HT6.out.one (by omega) 5 (by omega))
  go_wp2_with (go_at_call 10; refine Calls.mono S1.out ?_; rintro e w7 ⟨rfl, hb7⟩; refine Hid.out ?_)
  refine hidI ?_
  have HT7 := hidI (HT6.out.below hb7)
  have HB7 := hidI (HB6.out.trans (hb7.mono HB6.out.size))
  clear S1 hb7 HT6
  have S2 : Hid (Calls Try.prog 10 #[b, s, .int .u64 5] w7 fun e w' => e = .returned (.bool true) ∧ Below w7.heap.size w7 w') := hidI (same_st HT7.out.two (by omega) 5 (by omega))
  go_wp2_with (go_at_call 10; refine Calls.mono S2.out ?_; rintro e w8 ⟨rfl, hb8⟩; refine Hid.out ?_)
  refine hidI ?_
  have HT8 := hidI (HT7.out.below hb8)
  have HB8 := hidI (HB7.out.trans (hb8.mono HB7.out.size))
  clear S2 hb8 HT7
  obtain ⟨E2, P2, hA2, hR2⟩ := self_key HT8.out HB8.out.size (by omega)
  have C6 := hidI hA2
  have C7 := hidI hR2
  clear hA2 hR2
  go_wp2_with (go_at_call 11; refine Calls.mono C6.out ?_; rintro e w9 ⟨rfl, hp9⟩; refine Hid.out ?_)
  refine hidI ?_
  have C7' := hidI (C7.out w9 hp9)
  clear C6 C7 hp9
  have kE2 : (E2 == E2) = true := by simp
  go_wp2_with (go_at_call 12; refine Calls.mono C7'.out ?_; rintro e w10 ⟨rfl, hT10, hb10⟩; refine Hid.out ?_)
  refine hidI ?_
  have HB10 := hidI (HB8.out.trans hb10)
  have S3 : Hid (Calls Try.prog 10 #[a, r, .int .u64 2] w10 fun e w' => e = .returned (.bool true) ∧ Below w10.heap.size w10 w') := hidI (same_st hT10 (by omega) 2 (by omega))
  clear C7' hT10 hb10
  go_wp2_with (go_at_call 10; refine Calls.mono S3.out ?_; rintro e w11 ⟨rfl, hb11⟩; refine Hid.out ?_)
  refine hidI ?_
  have HB11 := hidI (HB0.out.trans ((HB10.out.trans (hb11.mono HB10.out.size)).mono HB0.out.size))
  clear S3 hb11
  go_wp2
  go_ret
  exact ⟨rfl, HB11.out⟩
end Go.Proofs.Ythjpoemgoeckbaa
