/-
  Whose a node is: what Of comes to.
-/
import Derived.Test.YtjlnnpcaeikolaaPSeq
import Derived.Laws.ResultCell
namespace Go.Proofs.Ytjlnnpcaeikolaa
open Go.RowKit Go.Shelf
attribute [local go_sem] Oper.semAt_some
/-- The function that walk hands back yields all nodes, to whatever leaves alone what lay ahead of n₀. -/
theorem walk_seq (Bg n₀ : Nat) (T : Nat → Obj → Prop) (hT : ∀ k o, k < n₀ → T k o) (hTB : ∀ o, T Bg o) (pp : Option Addr) (n k : Nat) (wk : Nat → Nat) (w0 w : World) (hp : IsP w0 pp n k wk) (hn : w0.heap.size ≤ n₀) (hn₀ : n₀ ≤ w.heap.size) (hb : Below n₀ w0 w) (hB : w.cell? ⟨Bg, 0, none⟩ = some (.pointer pp)) :
    Seq 37 #[.pointer (some ⟨Bg, 0, none⟩)] (encP (n := n) (k := k) (wk := wk)) T (fun ys => ys = pall n k wk k (Nat.le_refl _)) (pall n k wk k (Nat.le_refl _)).length w := by
  intro l J Jx W hW hJ _ hY h0
  have hB' : W.cell? ⟨Bg, 0, none⟩ = some (.pointer pp) := (hW.cell (p := ⟨Bg, 0, none⟩) (World.block_lt_of_cell? w _ hB)).trans hB
  have hbW := hb.trans (hW.mono hn₀)
  rcases hp with ⟨rfl, rfl, rfl⟩ | ⟨pb, rfl, ⟨_, h12, _, h4⟩, _, c0, c1, hr⟩
  · exact walk1_nil l Bg J Jx W hB' h0
  · have hl := World.block_lt_of_cell? w0 _ c1
    refine walk1_in l Bg pb n k n₀ wk T hT J Jx W W hJ hY hB' hTB (Nat.lt_of_lt_of_le hl hn) h4 h12 ((hbW.cell (p := ⟨pb, 1, none⟩) (Nat.lt_of_lt_of_le hl hn)).trans c1) (fun u hu => ?_) h0
    obtain ⟨v, hc, a, cap, rfl, hs⟩ := hr u hu
    refine ⟨a, cap, (hbW.cell (p := ⟨pb, 2 + u, none⟩) (Nat.lt_of_lt_of_le hl hn)).trans hc, ?_⟩
    rcases hs with hs | ⟨b, off, rfl, hs⟩
    · exact .inl hs
    · by_cases h0 : (mem n wk u).length = 0
      · exact .inl (List.eq_nil_of_length_eq_zero h0)
      · have hbl := World.block_lt_of_cell? w0 _ (hs 0 (by omega))
        exact .inr ⟨b, off, rfl, Nat.lt_of_lt_of_le hbl hn, fun j hj => (hbW.cell (p := ⟨b, off + j, none⟩) (Nat.lt_of_lt_of_le hbl hn)).trans (hs j hj)⟩
/-- A node's worker; -1 of none. -/
def ofP (n : Nat) (wk : Nat → Nat) (v : Int) : Int := if 0 ≤ v ∧ v < n then (wk v.toNat : Int) else -1
theorem ofP_at {n k : Nat} {wk : Nat → Nat} (x : Own1 n k wk) : ofP n wk x.1.2 = (x.1.1 : Int) := by
  obtain ⟨⟨u, z⟩, hu, hz⟩ := x
  obtain ⟨v, rfl, hv, rfl⟩ := mem_mem.1 hz
  simp only [ofP]
  rw [if_pos (by omega)]
  simp
/-- None of them is v. -/
def FreeOf {n k : Nat} {wk : Nat → Nat} (v : Int) (pre : List (Own1 n k wk)) : Prop := ∀ x ∈ pre, x.1.2 ≠ v
theorem FreeOf.snoc {n k : Nat} {wk : Nat → Nat} {v : Int} {pre : List (Own1 n k wk)} {x : Own1 n k wk} (h : FreeOf v pre) (hx : x.1.2 ≠ v) : FreeOf v (pre ++ [x]) := fun y hy => by
  rcases List.mem_append.1 hy with hy | hy
  · exact h y hy
  · rw [List.mem_singleton] at hy; subst hy; exact hx
theorem ofP_not {n k : Nat} {wk : Nat → Nat} {v : Int} (hk : ∀ v, v < n → wk v < k) (h : ∀ x ∈ pall n k wk k (Nat.le_refl _), x.1.2 ≠ v) : ofP n wk v = -1 := by
  unfold ofP
  rw [if_neg]
  rintro ⟨h1, h2⟩
  obtain ⟨m, rfl⟩ : ∃ m : Nat, v = m := ⟨v.toNat, by omega⟩
  have hm : m < n := by omega
  exact h ⟨(wk m, (m : Int)), hk m hm, mem_mem.2 ⟨m, rfl, hm, rfl⟩⟩ (pall_mem _ k _ (hk m hm)) rfl
theorem IsP.lt {w : World} {pp : Option Addr} {n k : Nat} {wk : Nat → Nat} (h : IsP w pp n k wk) : ∀ v, v < n → wk v < k := by
  rcases h with ⟨_, rfl, _⟩ | ⟨_, _, _, h, _⟩
  · intro v hv; omega
  · exact h
theorem results_one {fn : Func} {p : Tmp} {ty : TypeId} (h : fn.results = #[.cell p ty]) (tmps : Array Value) (P : Program) (w : World) :
    (results fn tmps).run P w = ((asAddr (tmps.getD p undef)).run P w).andThen fun a w₁ => (loadVar ty a).run P w₁ := by
  simp only [results, h]
  simp [Sem.run_bind, Result.andThen]
set_option maxRecDepth 100000 in
set_option maxHeartbeats 4000000 in
theorem of_any (pp : Option Addr) (n k : Nat) (wk : Nat → Nat) (v : Int) (w : World) (hp : IsP w pp n k wk) :
    Calls Try.prog 11 #[.pointer pp, .int .i64 v] w fun e w' => e = .returned (.int .i64 (ofP n wk v)) ∧ Below w.heap.size w w' := by
  refine (callsIn_wide (n := 0)).1 ?_
  refine callsIn_of_wp_marks Try.func11 rfl trivial ?_ rfl
  simp only [Try.ntmps11, List.size_toArray, List.length_cons, List.length_nil, Nat.reduceAdd, Nat.reduceSub, Array.replicate_succ, Array.replicate_zero, List.push_toArray, List.append_toArray, List.nil_append, List.cons_append]
  gi_wp2_with (refine ⟨trivial, rfl, ?_⟩; gi_at_call 31; refine (callsIn_wide.2 (walk_any _ _)).mono ?_; rintro e w' ⟨rfl, rfl⟩)
  have bV := ((Boxed.new w 3 (.int .i64 v)).alloc (.cells #[.int .i64 0] 3)).alloc (.cells #[.pointer pp] 25)
  have bR := (Boxed.new (w.alloc (.cells #[.int .i64 v] 3)) 3 (.int .i64 0)).alloc (.cells #[.pointer pp] 25)
  have bG := Boxed.new ((w.alloc (.cells #[.int .i64 v] 3)).alloc (.cells #[.int .i64 0] 3)) 25 (.pointer pp)
  simp only [World.size_alloc] at bR bG
  have hB0 : Below w.heap.size w (((w.alloc (.cells #[.int .i64 v] 3)).alloc (.cells #[.int .i64 0] 3)).alloc (.cells #[.pointer pp] 25)) := (((Below.refl _ w).alloc (Nat.le_refl _) _).alloc (by simp) _).alloc (by simp; omega) _
  have hsz : (((w.alloc (.cells #[.int .i64 v] 3)).alloc (.cells #[.int .i64 0] 3)).alloc (.cells #[.pointer pp] 25)).heap.size = w.heap.size + 3 := by simp
  obtain ⟨W0, hW0⟩ : ∃ W0, ((w.alloc (.cells #[.int .i64 v] 3)).alloc (.cells #[.int .i64 0] 3)).alloc (.cells #[.pointer pp] 25) = W0 := ⟨_, rfl⟩
  rw [hW0] at bV bR bG hB0 hsz ⊢
  clear hW0
  have hlt := hidI hp.lt
  refine range_law (gf := 37) (lb := #[.pointer (some ⟨w.heap.size + 1 + 1, 0, none⟩)]) rfl (enters_of Try.func37 (by kernel_rfl) rfl)
    (T := fun k _ => k ≤ w.heap.size ∨ k = w.heap.size + 1 + 1) (fun k _ hk ht => by omega)
    (walk_seq (w.heap.size + 1 + 1) w.heap.size _ (fun k o hk => .inl (by omega)) (fun o => .inr rfl) pp n k wk w W0 hp (Nat.le_refl _) (by omega) hB0 bG.cell) (fun _ => rfl)
    (fun pre W => FreeOf v pre ∧ Boxed W w.heap.size 3 (.int .i64 v) ∧ Boxed W (w.heap.size + 1) 3 (.int .i64 0) ∧ Below w.heap.size w W)
    (fun _ W => Boxed W (w.heap.size + 1) 3 (.int .i64 (ofP n wk v)) ∧ Below w.heap.size w W)
    ?hI ?hIx ?h0
    (fun s W => (FreeOf v s.1 ∧ Boxed W w.heap.size 3 (.int .i64 v) ∧ Boxed W (w.heap.size + 1) 3 (.int .i64 0) ∧ Below w.heap.size w W) ∧ s.2.2 = { tmps := #[.pointer pp, .int .i64 v, undef, .pointer (some ⟨w.heap.size, 0, none⟩), .pointer (some ⟨w.heap.size + 1, 0, none⟩), .int .i64 (s.2.1.1.1 : Int), .int .i64 s.2.1.1.2, .pointer pp, .func (.func 37) #[] #[.pointer (some ⟨w.heap.size + 1 + 1, 0, none⟩)], .int .i64 (s.2.1.1.1 : Int), .int .i64 s.2.1.1.2, undef, undef, undef, undef], defers := [] })
    ?hAx ?assign ?body ?done ?stop
  case hI =>
    rintro pre X Y row ⟨h1, h2, h3, h4⟩ hg hrow
    have hr' : ∀ r, row = some r → ∃ o : Obj, X.heap[r]? = some o ∧ o.isCells = false := fun r e => (hrow r e).2
    exact ⟨h1, boxed_own w.heap.size 3 (fun (_ : Unit) => Value.int .i64 v) () X Y row h2 hg hr', boxed_own (w.heap.size + 1) 3 (fun (_ : Unit) => Value.int .i64 0) () X Y row h3 hg hr', (ownFrom_below (β := Unit) (n₀ := w.heap.size) (B := W0.heap.size) (w₀ := w) (Nat.le_refl _) (by omega)) () X Y row h4 hg hrow⟩
  case hIx =>
    rintro pre X Y row ⟨h3, h4⟩ hg hrow
    have hr' : ∀ r, row = some r → ∃ o : Obj, X.heap[r]? = some o ∧ o.isCells = false := fun r e => (hrow r e).2
    exact ⟨boxed_own (w.heap.size + 1) 3 (fun (_ : Unit) => Value.int .i64 (ofP n wk v)) () X Y row h3 hg hr', (ownFrom_below (β := Unit) (n₀ := w.heap.size) (B := W0.heap.size) (w₀ := w) (Nat.le_refl _) (by omega)) () X Y row h4 hg hrow⟩
  case h0 => exact ⟨fun x hx => (by cases hx), bV, bR, hB0⟩
  case hAx =>
    rintro s X Y row ⟨⟨h1, h2, h3, h4⟩, ha⟩ hg hrow
    have hr' : ∀ r, row = some r → ∃ o : Obj, X.heap[r]? = some o ∧ o.isCells = false := fun r e => (hrow r e).2
    exact ⟨⟨h1, boxed_own w.heap.size 3 (fun (_ : Unit) => Value.int .i64 v) () X Y row h2 hg hr', boxed_own (w.heap.size + 1) 3 (fun (_ : Unit) => Value.int .i64 0) () X Y row h3 hg hr', (ownFrom_below (β := Unit) (n₀ := w.heap.size) (B := W0.heap.size) (w₀ := w) (Nat.le_refl _) (by omega)) () X Y row h4 hg hrow⟩, ha⟩
  case assign =>
    rintro l pre x W K hi hK
    dsimp only [encP]
    gi_wp2
    exact hK _ _ (KeepsFrom.refl _ _) (Keeps.refl _ _) ⟨hi, rfl⟩
  case body =>
    rintro l pre x a' W hlen ⟨⟨h1, h2, h3, h4⟩, ha⟩
    dsimp only at ha h1
    subst ha
    have cv := h2.cell
    have cr := h3.cell
    have fr := h3.frozen
    have H1 := hidI h1
    have H4 := hidI h4
    have H2 := hidI h2
    have H3 := hidI h3
    have HX := hidI (ofP_at x)
    have hsW := h4.size
    clear h1 h4 h2 h3 hlen
    obtain ⟨⟨u, z⟩, hx⟩ := x
    have HXX := hidI hx
    dsimp only at HX
    by_cases hs : z = v
    · subst hs
      gi_wp2
      refine ⟨(KeepsOthers.setCell _ _ _).from _, ?_, H4.out.setCell (p := ⟨w.heap.size + 1, 0, none⟩) (by simp) _⟩
      rw [HX.out]
      exact H3.out.set _
    · have hd : (z == v) = false := by simp [hs]
      gi_wp2
      exact ⟨KeepsFrom.refl _ _, Keeps.refl _ _, H1.out.snoc hs, H2.out, H3.out, H4.out⟩
  case done =>
    rintro D xs W hD rfl ⟨h1, h2, h3, h4⟩ hK
    have hr := ofP_not hlt.out h1
    have cr := h3.cell
    have fr := h3.frozen
    have HR := hidI hr
    clear hr
    gi_wp2
    have hK' : (W.setCell ⟨w.heap.size + 1, 0, none⟩ (.int .i64 (-1))).heap[D]? = some (.deferred (some [])) := (Below.heap_setCell W ⟨w.heap.size + 1, 0, none⟩ _ D (by simp only; omega)).trans hK
    have h5 : Boxed (W.setCell ⟨w.heap.size + 1, 0, none⟩ (.int .i64 (-1))) (w.heap.size + 1) 3 (.int .i64 (-1)) := h3.set _
    have h6 : Below w.heap.size w (W.setCell ⟨w.heap.size + 1, 0, none⟩ (.int .i64 (-1))) := h4.setCell (p := ⟨w.heap.size + 1, 0, none⟩) (by simp) _
    obtain ⟨W2, hW2⟩ : ∃ W2, W.setCell ⟨w.heap.size + 1, 0, none⟩ (.int .i64 (-1)) = W2 := ⟨_, rfl⟩
    rw [hW2] at hK' h5 h6 ⊢
    clear hW2
    have h7 : Boxed (W2.putObj D (.deferred none)) (w.heap.size + 1) 3 (.int .i64 (-1)) := (World.putObj_heap_other (by omega)).trans h5
    have c7 := h7.cell
    refine ⟨by simp, .inl ⟨_, _, rfl, run_takeDeferred hK', ?_⟩⟩
    refine ⟨.int .i64 (-1), ?_, by rw [HR.out], h6.trans (belowK_b (w := w) (Nat.le_refl _) W2 D _ _ (by omega) hK' rfl rfl)⟩
    rw [results_one rfl]
    go_simp
  case stop =>
    rintro D pre W hD ⟨h3, h4⟩ hK
    have h7 : Boxed (W.putObj D (.deferred none)) (w.heap.size + 1) 3 (.int .i64 (ofP n wk v)) := (World.putObj_heap_other (by omega)).trans h3
    have c7 := h7.cell
    gi_wp2
    refine ⟨by simp, .inl ⟨_, _, rfl, run_takeDeferred hK, ?_⟩⟩
    refine ⟨.int .i64 (ofP n wk v), ?_, rfl, h4.trans (belowK_b (w := w) (Nat.le_refl _) W D _ _ (by omega) hK rfl rfl)⟩
    rw [results_one rfl]
    go_simp
end Go.Proofs.Ytjlnnpcaeikolaa
