/-
  A graph: what New comes to.
-/
import Derived.Test.YtbjoljokdjgbnacMap
import Derived.Deep.AppendLies
namespace Go.Proofs.Ytbjoljokdjgbnac
open Go.RowKit Go.MapKept Go.Shelf
open Go.ChangeMaps (setBlock heap_setBlock_same heap_setBlock_other)
attribute [local go_sem] Oper.semAt_some
/-- The places, of those of pre, of the edges from p to q. -/
def betw (pre : List (Nat × (Int × Int))) (p q : Int) : List Int := (pre.filter fun x => decide (x.2.1 = p ∧ x.2.2 = q)).map fun x => (x.1 : Int)
theorem betw_snoc (pre : List (Nat × (Int × Int))) (x : Nat × (Int × Int)) : betw (pre ++ [x]) = upd (betw pre) x.2.1 x.2.2 (betw pre x.2.1 x.2.2 ++ [(x.1 : Int)]) := by
  funext p q
  unfold upd
  by_cases h : p = x.2.1 ∧ q = x.2.2
  · rw [if_pos h, h.1, h.2]; simp [betw, List.filter_append]
  · rw [if_neg h]
    have : ¬ (x.2.1 = p ∧ x.2.2 = q) := fun e => h ⟨e.1.symm, e.2.symm⟩
    simp [betw, List.filter_append, this]
theorem MapAt.below {w w' : World} {b base B : Nat} {f : Int → Int → List Int} (h : MapAt w b base f) (hb : Below B w w') (hB : w.heap.size ≤ B) : MapAt w' b base f := by
  obtain ⟨es, clock, h1, h2, h3, h4⟩ := h
  have hbl : b < w.heap.size := (Array.getElem?_eq_some_iff.1 h1).1
  refine ⟨es, clock, (hb.block b (by omega)).trans h1, h2, fun x hx => ?_, h4⟩
  obtain ⟨p, q, wp, wq, ek, ho⟩ := h3 x hx
  exact ⟨p, q, wp, wq, ek, ownsInts_of ho fun g hg => hb.block g (by have := (ho.1.lt g hg).2; omega)⟩
theorem MapAt.grown {w w' : World} {b base : Nat} {f : Int → Int → List Int} {row : Option Nat} (h : MapAt w b base f) (hg : w.grownBy w' row) (hr : ∀ r, row = some r → b < r ∧ ∃ o : Obj, w.heap[r]? = some o ∧ o.isCells = false) : MapAt w' b base f := by
  obtain ⟨es, clock, h1, h2, h3, h4⟩ := h
  have hbl : b < w.heap.size := (Array.getElem?_eq_some_iff.1 h1).1
  refine ⟨es, clock, (hg.block b hbl fun e => ?_).trans h1, h2, fun x hx => ?_, h4⟩
  · have := (hr b e.symm).1; omega
  · obtain ⟨p, q, wp, wq, ek, ho⟩ := h3 x hx
    refine ⟨p, q, wp, wq, ek, ho.kept hg ?_⟩
    rcases ho.1.2 with ⟨hv, _⟩ | ⟨g, cap, cur, hv, _, hgb, _⟩
    · rw [hv]; exact .inl rfl
    · rw [hv]
      refine .inr fun e => ?_
      obtain ⟨_, o, ho', hc⟩ := hr g (by simpa [Value.ownBlock] using e.symm)
      rw [hgb] at ho'; cases ho'; cases hc
/-- A graph of n nodes with the edges es. -/
def IsG (w : World) (gp : Option Addr) (n : Int) (es : Edges) : Prop :=
  (gp = none ∧ n = 0 ∧ es = []) ∨ ∃ gb v mb base, gp = some ⟨gb, 0, none⟩ ∧ 1 ≤ n ∧ n ≤ 12 ∧ es.length ≤ 30 ∧ (∀ x ∈ es, good n x = true) ∧ w.cell? ⟨gb, 0, none⟩ = some (.int .i64 n) ∧ w.cell? ⟨gb, 1, none⟩ = some v ∧ SeesE w v es ∧
    w.cell? ⟨gb, 2, none⟩ = some (.map (some mb)) ∧ MapAt w mb base (betw ((upto es es.length (Nat.le_refl _)).map (·.1)))
theorem IsG.walks {w : World} {gp : Option Addr} {n : Int} {es : Edges} (h : IsG w gp n es) : Walks w gp es := by
  rcases h with ⟨h1, _, h2⟩ | ⟨gb, v, _, _, h1, _, _, _, _, _, h2, h3, _⟩
  · exact .inl ⟨h1, h2⟩
  · exact .inr ⟨gb, v, h1, h2, h3⟩
theorem IsG.short {w : World} {gp : Option Addr} {n : Int} {es : Edges} (h : IsG w gp n es) : es.length ≤ 30 := by
  rcases h with ⟨_, _, rfl⟩ | ⟨gb, v, _, _, h1, _, _, h3, _⟩
  · simp
  · exact h3
theorem IsG.below {w w' : World} {gp : Option Addr} {n : Int} {es : Edges} {B : Nat} (h : IsG w gp n es) (hb : Below B w w') (hB : w.heap.size ≤ B) : IsG w' gp n es := by
  rcases h with h | ⟨gb, v, mb, base, h1, h2, h3, h4, h5, c0, c1, hs, c2, hm⟩
  · exact .inl h
  · have hl : gb < B := Nat.lt_of_lt_of_le (World.block_lt_of_cell? w _ c0) hB
    exact .inr ⟨gb, v, mb, base, h1, h2, h3, h4, h5, (hb.cell (p := ⟨gb, 0, none⟩) hl).trans c0, (hb.cell (p := ⟨gb, 1, none⟩) hl).trans c1, hs.below hb hB, (hb.cell (p := ⟨gb, 2, none⟩) hl).trans c2, hm.below hb hB⟩
/-- walk's function, where the edges lie ahead of n₀ and the graph anywhere. -/
theorem walk_seq2 (Bg n₀ gb : Nat) (T : Nat → Obj → Prop) (hT : ∀ k o, k < n₀ → T k o) (v : Value) (es : Edges) (hr : es.length ≤ 1000000) (w0 w : World) (hv : SeesE w0 v es) (hn : w0.heap.size ≤ n₀) (hb : Below n₀ w0 w) (hn₀ : n₀ ≤ w.heap.size) (hg : w.cell? ⟨gb, 1, none⟩ = some v) (hB : w.cell? ⟨Bg, 0, none⟩ = some (.pointer (some ⟨gb, 0, none⟩))) :
    Seq 76 #[.pointer (some ⟨Bg, 0, none⟩)] (encA (es := es)) T (fun ys => ys = upto es es.length (Nat.le_refl _)) es.length w := by
  intro l J Jx W hW hJ _ hY h0
  have hB' := (hW.cell (p := ⟨Bg, 0, none⟩) (World.block_lt_of_cell? w _ hB)).trans hB
  have hg' := (hW.cell (p := ⟨gb, 1, none⟩) (World.block_lt_of_cell? w _ hg)).trans hg
  have hv' := hv.below (hb.trans (hW.mono hn₀)) hn
  obtain ⟨a, cap, rfl, hs⟩ := hv
  by_cases h1 : es = []
  · subst h1
    exact walk1_none l Bg gb cap a J Jx W hB' hg' h0
  · rcases hs with hs | ⟨b, off, rfl, hl⟩
    · exact absurd hs h1
    · have hlt := hl.block_lt h1
      exact walk1_in l Bg gb b off cap T es hr (fun o => hT b o (by omega)) J Jx W W hJ hY hB' hg' (hl.below (hb.trans (hW.mono hn₀)) (by omega)) h0
theorem wf_small {a : Int} (h : 0 ≤ a ∧ a < 12) : Wf a := by
  have e1 : IntKind.i64.min = -9223372036854775808 := rfl
  have e2 : IntKind.i64.max = 9223372036854775807 := rfl
  simp only [Wf, Lit.wf, e1, e2, Bool.and_eq_true, decide_eq_true_eq]
  omega
theorem below_setBlock (u : World) (b : Nat) (o : Obj) : Below b u (setBlock u b o) := ⟨rfl, rfl, rfl, by simp [setBlock], fun k hk => by simp [setBlock, show b ≠ k by omega]⟩
theorem wf_nat {k : Nat} (h : k ≤ 1000000) : Wf (k : Int) := by
  have e1 : IntKind.i64.min = -9223372036854775808 := rfl
  have e2 : IntKind.i64.max = 9223372036854775807 := rfl
  simp only [Wf, Lit.wf, e1, e2, Bool.and_eq_true, decide_eq_true_eq]
  omega
theorem new_nil (n : Int) (v : Value) (es : Edges) (w : World) (hv : SeesE w v es) (hc : (check n es).2 = 11) :
    Calls Try.prog 27 #[.int .i64 n, v] w fun e w' => e = .returned (.pointer none) ∧ Below w.heap.size w w' := by
  have C : Hid _ := check_any n v es w hv
  obtain ⟨a, cap, rfl, _⟩ := hv
  refine (callsIn_wide (n := 0)).1 ?_
  refine callsIn_of_wp_marks Try.func27 rfl trivial ?_ rfl
  simp only [Try.ntmps27, List.size_toArray, List.length_cons, List.length_nil, Nat.reduceAdd, Nat.reduceSub, Array.replicate_succ, Array.replicate_zero, List.push_toArray, List.append_toArray, List.nil_append, List.cons_append]
  gi_wp2_with (refine ⟨trivial, rfl, ?_⟩; gi_at_call 28; refine (callsIn_wide.2 C.out).mono ?_; rintro e w' ⟨rfl, hb⟩; rw [hc])
  exact ⟨_, results_tmp rfl _ _ _, rfl, hb⟩
set_option maxRecDepth 100000 in
set_option maxHeartbeats 4000000 in
theorem new_ok (n : Int) (v : Value) (es : Edges) (w : World) (hv : SeesE w v es) (h1 : 1 ≤ n) (h2 : n ≤ 12) (h3 : es.length ≤ 30) (hgd : ∀ x ∈ es, good n x = true) :
    Calls Try.prog 27 #[.int .i64 n, v] w fun e w' => ∃ gb, e = .returned (.pointer (some ⟨gb, 0, none⟩)) ∧ IsG w' (some ⟨gb, 0, none⟩) n es ∧ Below w.heap.size w w' := by
  have hck : check n es = (0, 0) := by
    unfold check
    rw [if_neg (by omega), findIdx_none fun j x hx => hgd x (List.mem_of_getElem? hx)]
  have C : Hid _ := check_any n v es w hv
  have D : Hid (∀ w', Below w.heap.size w w' → Calls Try.prog 60 #[v] w' fun e w'' => ∃ u, e = .returned u ∧ SeesE w'' u es ∧ Below w'.heap.size w' w'') := fun w' hb => cloneE_any v es w' h3 (hv.below hb (Nat.le_refl _))
  obtain ⟨a, cap, rfl, hs⟩ := hv
  clear hs
  refine (callsIn_wide (n := 0)).1 ?_
  refine callsIn_of_wp_marks Try.func27 rfl trivial ?_ rfl
  have hmm := @run_makeMap Try.prog
  simp only [Try.ntmps27, List.size_toArray, List.length_cons, List.length_nil, Nat.reduceAdd, Nat.reduceSub, Array.replicate_succ, Array.replicate_zero, List.push_toArray, List.append_toArray, List.nil_append, List.cons_append]
  gi_wp2_with (first | (refine ⟨trivial, rfl, ?_⟩; gi_at_call 28; refine (callsIn_wide.2 C.out).mono ?_; rintro e w1 ⟨rfl, hb1⟩; rw [hck]) | (refine ⟨trivial, rfl, ?_⟩; gi_at_call 60; refine (callsIn_wide.2 (D.out _ hb1)).mono ?_; rintro e w2 ⟨u, rfl, hu, hb2⟩; obtain ⟨ua, ucap, rfl, huu⟩ := hu) | (refine ⟨trivial, rfl, ?_⟩; gi_at_call 61; refine (callsIn_wide.2 (walk_any _ _)).mono ?_; rintro e w' ⟨rfl, rfl⟩))
  clear C D hmm
  obtain ⟨gs, hgs⟩ : ∃ gs : Obj, gs = .cells #[.int .i64 n, .slice ua es.length ucap, .map (some w2.heap.size)] 103 (0, 0) := ⟨_, rfl⟩
  obtain ⟨gx, hgx⟩ : ∃ gx : Obj, gx = .cells #[.pointer (some ⟨w2.heap.size + 1, 0, none⟩)] 63 (0, 0) := ⟨_, rfl⟩
  have bM : MapAt ((((w2.alloc (.map #[] 0)).alloc gs).alloc gx).alloc gx) w2.heap.size (w2.heap.size + 4) (fun _ _ => []) := by
    refine (((mapAt_made w2 (w2.heap.size + 4) (by omega)).below (((Below.refl _ _).alloc (Nat.le_refl _) gs).alloc (by simp) gx) (Nat.le_refl _))).below ((Below.refl _ _).alloc (Nat.le_refl _) gx) (Nat.le_refl _)
  have bS : ((((w2.alloc (.map #[] 0)).alloc gs).alloc gx).alloc gx).heap[w2.heap.size + 1]? = some gs := by
    rw [Below.heap_alloc _ _ _ (by simp), Below.heap_alloc _ _ _ (by simp)]
    have := World.alloc_heap_new (w2.alloc (.map #[] 0)) gs
    rwa [World.size_alloc] at this
  have bX : ((((w2.alloc (.map #[] 0)).alloc gs).alloc gx).alloc gx).heap[w2.heap.size + 1 + 1]? = some gx := by
    rw [Below.heap_alloc _ _ _ (by simp)]
    have := World.alloc_heap_new ((w2.alloc (.map #[] 0)).alloc gs) gx
    rwa [World.size_alloc, World.size_alloc] at this
  have bG : ((((w2.alloc (.map #[] 0)).alloc gs).alloc gx).alloc gx).heap[w2.heap.size + 1 + 1 + 1]? = some gx := by
    have := World.alloc_heap_new (((w2.alloc (.map #[] 0)).alloc gs).alloc gx) gx
    rwa [World.size_alloc, World.size_alloc, World.size_alloc] at this
  have hB0 : Below w2.heap.size w2 ((((w2.alloc (.map #[] 0)).alloc gs).alloc gx).alloc gx) := ((((Below.refl _ w2).alloc (Nat.le_refl _) _).alloc (by simp) _).alloc (by simp; omega) _).alloc (by simp; omega) _
  have hsz : ((((w2.alloc (.map #[] 0)).alloc gs).alloc gx).alloc gx).heap.size = w2.heap.size + 4 := by simp
  rw [← hgs, ← hgx]
  obtain ⟨W0, hW0⟩ : ∃ W0, (((w2.alloc (.map #[] 0)).alloc gs).alloc gx).alloc gx = W0 := ⟨_, rfl⟩
  rw [hW0] at bM bS bX bG hB0 hsz ⊢
  clear hW0
  have hS0 : SeesE w2 (.slice ua es.length ucap) es := ⟨ua, ucap, rfl, huu⟩
  have cB : W0.cell? ⟨w2.heap.size + 1 + 1 + 1, 0, none⟩ = some (.pointer (some ⟨w2.heap.size + 1, 0, none⟩)) := by simp [World.cell?, bG, hgx]
  have cG : W0.cell? ⟨w2.heap.size + 1, 1, none⟩ = some (.slice ua es.length ucap) := by simp [World.cell?, bS, hgs]
  have hm1 := hb1.size
  have hm2 := hb2.size
  refine range_law (gf := 76) (lb := #[.pointer (some ⟨w2.heap.size + 1 + 1 + 1, 0, none⟩)]) rfl (enters_of Try.func76 (by kernel_rfl) rfl) (T := fun k _ => k < w2.heap.size) (fun k _ hk ht => by omega)
    (walk_seq2 (w2.heap.size + 1 + 1 + 1) w2.heap.size (w2.heap.size + 1) _ (fun _ _ h => h) (.slice ua es.length ucap) es (by omega) w2 W0 hS0 (Nat.le_refl _) hB0 (by omega) cG cB) (fun _ => rfl)
    (fun pre W => (MapAt W w2.heap.size (w2.heap.size + 4) (betw (pre.map (·.1))) ∧ (∀ p q, (betw (pre.map (·.1)) p q).length ≤ pre.length)) ∧ (W.heap[w2.heap.size + 1]? = some gs ∧ W.heap[w2.heap.size + 1 + 1]? = some gx) ∧ (Below w2.heap.size w2 W ∧ w2.heap.size + 4 ≤ W.heap.size))
    (fun _ _ => False)
    ?hI (fun _ _ _ _ hs _ _ => hs) ?h0
    (fun s W => ∃ Bx, ((MapAt W w2.heap.size (w2.heap.size + 4) (betw (s.1.map (·.1))) ∧ (∀ p q, (betw (s.1.map (·.1)) p q).length ≤ s.1.length)) ∧ (W.heap[w2.heap.size + 1]? = some gs ∧ W.heap[w2.heap.size + 1 + 1]? = some gx) ∧ (Below w2.heap.size w2 W ∧ w2.heap.size + 4 ≤ W.heap.size)) ∧
      (W.heap[Bx]? = some (.cells #[.int .i64 s.2.1.1.2.1, .int .i64 s.2.1.1.2.2] 69 (0, 0)) ∧ w2.heap.size + 4 ≤ Bx) ∧ s.2.2 = { tmps := #[.int .i64 n, .slice a es.length cap, undef, undef, .pointer none, .int .i64 0, .int .i64 0, .pointer (some ⟨w2.heap.size + 1 + 1, 0, none⟩), .int .i64 (s.2.1.1.1 : Int), .pointer (some ⟨Bx, 0, none⟩), .tuple #[.int .i64 0, .int .i64 0], .int .i64 n, .slice a es.length cap, .tuple #[.int .i64 0, .int .i64 0], .int .i64 0, .int .i64 0, .int .i64 0, .bool false, .int .i64 n, .slice a es.length cap, .slice ua es.length ucap, .map (some w2.heap.size), .agg #[.int .i64 n, .slice ua es.length ucap, .map (some w2.heap.size)], .pointer (some ⟨w2.heap.size + 1, 0, none⟩), .pointer (some ⟨w2.heap.size + 1, 0, none⟩), .func (.func 76) #[] #[.pointer (some ⟨w2.heap.size + 1 + 1 + 1, 0, none⟩)], .int .i64 (s.2.1.1.1 : Int), .agg #[.int .i64 s.2.1.1.2.1, .int .i64 s.2.1.1.2.2], undef, undef, undef, undef, undef, undef, undef, undef, undef, undef, undef, undef], defers := [] })
    ?hAx ?assign ?body ?done ?stop
  case stop => exact fun _ _ _ _ h => h.elim
  case h0 => exact ⟨⟨bM, fun p q => by simp [betw]⟩, ⟨bS, bX⟩, hB0, by omega⟩
  case hI =>
    rintro pre X Y row ⟨⟨hm, hl⟩, ⟨hs1, hs2⟩, hbl, hle⟩ hg hrow
    refine ⟨⟨hm.grown hg fun r e => ⟨by have := (hrow r e).1; omega, (hrow r e).2⟩, hl⟩, ⟨?_, ?_⟩, ownFrom_below (β := Unit) (B := W0.heap.size) (Nat.le_refl _) (by omega) () X Y row hbl hg hrow, Nat.le_trans hle hg.size⟩
    · exact (hg.block _ (by omega) fun e => by have := (hrow _ e.symm).1; omega).trans hs1
    · exact (hg.block _ (by omega) fun e => by have := (hrow _ e.symm).1; omega).trans hs2
  case hAx =>
    rintro s X Y row ⟨Bx, ⟨⟨hm, hl⟩, ⟨hs1, hs2⟩, hbl, hle⟩, ⟨hx, hxl⟩, ha⟩ hg hrow
    refine ⟨Bx, ⟨⟨hm.grown hg fun r e => ⟨by have := (hrow r e).1; omega, (hrow r e).2⟩, hl⟩, ⟨?_, ?_⟩, ownFrom_below (β := Unit) (B := W0.heap.size) (Nat.le_refl _) (by omega) () X Y row hbl hg hrow, Nat.le_trans hle hg.size⟩, ⟨?_, hxl⟩, ha⟩
    · exact (hg.block _ (by omega) fun e => by have := (hrow _ e.symm).1; omega).trans hs1
    · exact (hg.block _ (by omega) fun e => by have := (hrow _ e.symm).1; omega).trans hs2
    · refine (hg.block _ (Array.getElem?_eq_some_iff.1 hx).1 fun e => ?_).trans hx
      obtain ⟨_, o, ho, hc⟩ := hrow _ e.symm
      rw [hx] at ho; cases ho; cases hc
  case assign =>
    rintro l pre x W K ⟨⟨hm, hl⟩, ⟨hs1, hs2⟩, hbl, hle⟩ hK
    dsimp only [encA]
    gi_wp2
    refine hK _ _ ((KeepsOthers.alloc _ _).from _) (Keeps.alloc _ _ _) ⟨W.heap.size, ⟨⟨hm.below ((Below.refl _ W).alloc (Nat.le_refl _) _) (Nat.le_refl _), hl⟩, ⟨(Below.heap_alloc _ _ _ (by omega)).trans hs1, (Below.heap_alloc _ _ _ (by omega)).trans hs2⟩, hbl.alloc (by omega) _, by simp; omega⟩, ⟨World.alloc_heap_new W _, hle⟩, rfl⟩
  case done =>
    rintro D xs W hD rfl ⟨⟨hm, hl⟩, ⟨hs1, hs2⟩, hbl, hle⟩ hK
    have c7 : W.cell? ⟨w2.heap.size + 1 + 1, 0, none⟩ = some (.pointer (some ⟨w2.heap.size + 1, 0, none⟩)) := by simp [World.cell?, hs2, hgx]
    gi_wp2
    refine ⟨by simp, .inl ⟨_, _, rfl, run_takeDeferred hK, ?_⟩⟩
    have hP : Below w2.heap.size w2 (W.putObj D (.deferred none)) := hbl.trans (belowK_b (w := w2) (Nat.le_refl _) W D _ _ (by omega) hK rfl rfl)
    have hs1' : (W.putObj D (.deferred none)).heap[w2.heap.size + 1]? = some gs := (World.putObj_heap_other (by omega)).trans hs1
    refine ⟨_, results_tmp rfl _ _ _, w2.heap.size + 1, rfl, ?_, ?_⟩
    · refine .inr ⟨w2.heap.size + 1, _, w2.heap.size, w2.heap.size + 4, rfl, h1, h2, h3, hgd, ?_, ?_, hS0.below hP (Nat.le_refl _), ?_, ?_⟩
      · simp [World.cell?, hs1', hgs]
      · simp [World.cell?, hs1', hgs]
      · simp [World.cell?, hs1', hgs]
      · exact hm.grown (grownBy_putObj' W D _) fun r e => by cases e; exact ⟨by omega, _, hK, rfl⟩
    · exact hb1.trans ((hb2.mono hm1).trans (hP.mono (by omega)))
  case body =>
    rintro l pre x a' W hlen ⟨Bx, ⟨⟨hm, hl⟩, ⟨hs1, hs2⟩, hbl, hle⟩, ⟨hx, hxl⟩, ha⟩
    dsimp only at hm hl hx ha hlen
    subst ha
    obtain ⟨px, qx⟩ : Wf x.1.2.1 ∧ Wf x.1.2.2 := by
      have hg := hgd x.1.2 (List.mem_of_getElem? x.2)
      simp only [good, Bool.and_eq_true, decide_eq_true_eq] at hg
      exact ⟨wf_small ⟨hg.1.1, by omega⟩, wf_small ⟨hg.2.1, by omega⟩⟩
    have ix : x.1.1 < es.length := (List.getElem?_eq_some_iff.1 x.2).1
    obtain ⟨S, hS⟩ : ∃ S : World → Prop, S = fun w' => w'.cell? ⟨w2.heap.size + 1 + 1, 0, none⟩ = some (.pointer (some ⟨w2.heap.size + 1, 0, none⟩)) ∧ w'.cell? ⟨w2.heap.size + 1, 2, none⟩ = some (.map (some w2.heap.size)) ∧ w'.cell? ⟨Bx, 0, none⟩ = some (.int .i64 x.1.2.1) ∧ w'.cell? ⟨Bx, 1, none⟩ = some (.int .i64 x.1.2.2) := ⟨_, rfl⟩
    have SW : ∀ u : World, u.heap[w2.heap.size + 1]? = some gs → u.heap[w2.heap.size + 1 + 1]? = some gx → u.heap[Bx]? = W.heap[Bx]? → S u := fun u a1 a2 a3 => by
      rw [hx] at a3
      rw [hS]
      exact ⟨by simp [World.cell?, a2, hgx], by simp [World.cell?, a1, hgs], by simp [World.cell?, a3], by simp [World.cell?, a3]⟩
    obtain ⟨v, st, m1, mc1, hE, hO, hback⟩ := mapAt_step hm px qx
    have hBxl : Bx < W.heap.size := (Array.getElem?_eq_some_iff.1 hx).1
    obtain ⟨tmp, htmp⟩ : ∃ tmp : Obj, tmp = .cells #[.int .i64 (x.1.1 : Int)] 3 (0, 0) := ⟨_, rfl⟩
    obtain ⟨u1, hu1⟩ : ∃ u1, u1 = (W.alloc tmp).drew := ⟨_, rfl⟩
    have u1b : ∀ k, k < W.heap.size → u1.heap[k]? = W.heap[k]? := fun k hk => by rw [hu1]; exact Below.heap_alloc W tmp k hk
    have u1s : u1.heap.size = W.heap.size + 1 := by rw [hu1]; exact World.size_alloc _ _
    have u1t : u1.heap[W.heap.size]? = some tmp := by rw [hu1]; exact World.alloc_heap_new W tmp
    obtain ⟨u2, hu2⟩ : ∃ u2, u2 = setBlock u1 w2.heap.size m1 := ⟨_, rfl⟩
    have u2b : ∀ k, k ≠ w2.heap.size → u2.heap[k]? = u1.heap[k]? := fun k hk => by rw [hu2]; simp [setBlock, Ne.symm hk]
    have u2m : u2.heap[w2.heap.size]? = some m1 := by rw [hu2]; simp only [setBlock]; rw [Array.getElem?_setIfInBounds_self_of_lt (by omega)]
    have u2s : u2.heap.size = W.heap.size + 1 := by rw [hu2]; simp [setBlock, u1s]
    have hE1 : (Instr.mapEntry 101 (.map (some w2.heap.size)) (.agg #[.int .i64 x.1.2.1, .int .i64 x.1.2.2])).run Try.prog u1 = .ok (.tuple #[v, goInt st]) u2 := by
      rw [hu2]; exact hE u1 (u1b _ (by omega))
    have hO2 : u2.ownsInts (w2.heap.size + 4) 3 .i64 v (betw (pre.map (·.1)) x.1.2.1 x.1.2.2) := ownsInts_of hO fun g hg => by
      have := hO.1.lt g hg
      rw [u2b g (by omega)]; exact u1b g this.2
    have hvB : some Bx ≠ v.ownBlock := fun e => by
      rcases hO.1.2 with ⟨hv, _⟩ | ⟨g, cp, cur, hv, _, hgb, _⟩
      · rw [hv] at e; cases e
      · rw [hv] at e
        obtain rfl : Bx = g := by simpa [Value.ownBlock] using e
        rw [hx] at hgb; cases hgb
    have hvk : ∀ k, k < w2.heap.size + 4 → some k ≠ v.ownBlock := fun k hk e => by have := (hO.1.lt k e.symm).1; omega
    have hzl := hl x.1.2.1 x.1.2.2
    have S0 : S W.drew := SW W.drew hs1 hs2 rfl
    have S1 : S u1 := SW u1 ((u1b _ (by omega)).trans hs1) ((u1b _ (by omega)).trans hs2) (u1b _ hBxl)
    have S2 : S u2 := SW u2 ((u2b _ (by omega)).trans ((u1b _ (by omega)).trans hs1)) ((u2b _ (by omega)).trans ((u1b _ (by omega)).trans hs2)) ((u2b _ (by omega)).trans (u1b _ hBxl))
    have B2 : Below w2.heap.size W u2 := by
      rw [hu2, hu1]
      exact (((Below.refl _ W).alloc (by omega) tmp).drew).trans (below_setBlock _ _ _)
    have ct : u2.cell? ⟨W.heap.size, 0, none⟩ = some (.int .i64 (x.1.1 : Int)) := by
      have : u2.heap[W.heap.size]? = some tmp := (u2b _ (by omega)).trans u1t
      simp [World.cell?, this, htmp]
    obtain ⟨i0, hi, hz0, hz1, hz2⟩ := info_parts Try.info3
    gi_wp2
    refine round_held S (by kernel_rfl) ?_
    refine wpAnyH_take (i := 5) (v := .int .i64 (x.1.1 : Int)) rfl (by kernel_rfl) (by kernel_rfl) (by kernel_rfl) (fun _ _ _ h => h) (.inl ⟨by rfl, fun u hu => ?_⟩) S0 ?_
    · go_simp
    refine wpAnyH_take (i := 0) (v := .pointer (some ⟨w2.heap.size + 1, 0, none⟩)) rfl (by kernel_rfl) (by kernel_rfl) (by kernel_rfl) (fun _ _ _ h => h) (.inl ⟨by rfl, fun u hu => ?_⟩) S0 ?_
    · rw [hS] at hu; obtain ⟨q1, q2, q3, q4⟩ := hu; go_simp
    refine wpAnyH_take (i := 1) (v := .pointer (some ⟨w2.heap.size + 1, 0, none⟩)) rfl (by kernel_rfl) (by kernel_rfl) (by kernel_rfl) (fun _ _ _ h => h) (.inl ⟨by rfl, fun u hu => ?_⟩) S0 ?_
    · go_simp
    refine wpAnyH_take (i := 2) (v := .pointer (some ⟨w2.heap.size + 1, 2, none⟩)) rfl (by kernel_rfl) (by kernel_rfl) (by kernel_rfl) (fun _ _ _ h => h) (.inl ⟨by rfl, fun u hu => ?_⟩) S0 ?_
    · go_simp
    refine wpAnyH_take (i := 3) (v := .map (some w2.heap.size)) rfl (by kernel_rfl) (by kernel_rfl) (by kernel_rfl) (fun _ _ _ h => h) (.inl ⟨by rfl, fun u hu => ?_⟩) S0 ?_
    · rw [hS] at hu; obtain ⟨q1, q2, q3, q4⟩ := hu; go_simp
    refine wpAnyH_take (i := 4) (v := .agg #[.int .i64 x.1.2.1, .int .i64 x.1.2.2]) rfl (by kernel_rfl) (by kernel_rfl) (by kernel_rfl) (fun _ _ _ h => h) (.inl ⟨by rfl, fun u hu => ?_⟩) S0 ?_
    · rw [hS] at hu; obtain ⟨q1, q2, q3, q4⟩ := hu; go_simp
    refine wpAnyH_all (rs := [6]) (by kernel_rfl) (by simp) fun i hi6 => ?_
    obtain rfl : i = 6 := by simpa using hi6
    refine wpOp_step rfl fun K hK => ?_
    rw [if_pos (by rfl)]
    unfold Oper.wp
    go_simp
    rw [← htmp, ← hu1]
    refine hK _ _ ⟨S1, ?_⟩
    clear hK K hu1 hu2 htmp hS
    refine wpAnyH_all (rs := [7]) (by kernel_rfl) (by simp) fun i hi7 => ?_
    obtain rfl : i = 7 := by simpa using hi7
    refine wpOp_step rfl fun K hK => ?_
    rw [if_pos (by rfl)]
    unfold Oper.wp
    go_simp
    refine hK _ _ ⟨S2, ?_⟩
    clear hK K
    refine wpAnyH_take (i := 8) (v := v) rfl (by kernel_rfl) (by kernel_rfl) (by kernel_rfl) (fun _ _ _ h => h) (.inl ⟨by rfl, fun u hu => ?_⟩) S2 ?_
    · go_simp
    refine wpAnyH_take (i := 10) (v := goInt st) rfl (by kernel_rfl) (by kernel_rfl) (by kernel_rfl) (fun _ _ _ h => h) (.inl ⟨by rfl, fun u hu => ?_⟩) S2 ?_
    · go_simp
    refine wpAnyH_all (rs := [9]) (by kernel_rfl) (by simp) fun i hi9 => ?_
    obtain rfl : i = 9 := by simpa using hi9
    refine wpOp_step rfl fun K hK => ?_
    rw [if_pos (by rfl)]
    refine wp_append_lies u2 _ _ 70 rfl (w2.heap.size + 4) 3 i0 (.int .i64 0) 1 8 Try.underlying70 hi hz0 hz1 hz2 rfl (by decide) v _ _ rfl hO2.1 ⟨W.heap.size, 0, none⟩ 1 1 [.int .i64 (x.1.1 : Int)] rfl rfl ?n1 (by simp [Value.oneCell']) (by decide) ?n2 ?n3 (by omega) _ rfl ?n4
    case n1 =>
      intro j u hj
      obtain rfl : j = 0 := by
        cases j with
        | zero => rfl
        | succ j => simp at hj
      simp at hj; subst hj
      rw [add_at]
      exact ct
    case n2 => unfold maxLen; omega
    case n3 => omega
    intro g cp u3 hown3 hg3 hat3 hlt3
    have u3b : ∀ k, k < u2.heap.size → some k ≠ v.ownBlock → u3.heap[k]? = u2.heap[k]? := fun k hk hne => hg3.block k hk hne
    have hO3 : u3.ownsInts (w2.heap.size + 4) 3 .i64 (.slice (some ⟨g, 0, none⟩) ((betw (pre.map (·.1)) x.1.2.1 x.1.2.2).length + 1) cp) (betw (pre.map (·.1)) x.1.2.1 x.1.2.2 ++ [(x.1.1 : Int)]) := by
      refine ⟨?_, fun z hz => ?_⟩
      · simpa using hown3
      · rcases List.mem_append.1 hz with hz | hz
        · exact hO.2 z hz
        · simp at hz; subst hz; exact wf_nat (by omega)
    obtain ⟨m2, mc2, hst, hmap⟩ := hback u3 _ _ ((u3b _ (by omega) (hvk _ (by omega))).trans u2m) (fun k hk hne hv => ((u3b k (by omega) hv).trans (u2b k hne)).trans (u1b k hk)) hO3 (by
      rcases hat3 with h | h
      · exact .inl h.symm
      · exact .inr ⟨g, rfl, by omega⟩)
    have S3 : S u3 := SW u3 ((u3b _ (by omega) (hvk _ (by omega))).trans ((u2b _ (by omega)).trans ((u1b _ (by omega)).trans hs1))) ((u3b _ (by omega) (hvk _ (by omega))).trans ((u2b _ (by omega)).trans ((u1b _ (by omega)).trans hs2))) ((u3b _ (by omega) hvB).trans ((u2b _ (by omega)).trans (u1b _ hBxl)))
    refine hK _ _ ⟨S3, ?_⟩
    clear hK K
    refine wpAnyH_all (rs := [11]) (by kernel_rfl) (by simp) fun i hi11 => ?_
    obtain rfl : i = 11 := by simpa using hi11
    refine wpOp_step rfl fun K hK => ?_
    rw [if_pos (by rfl)]
    unfold Oper.wp
    have hst' : (Instr.entryStore 101 (.map (some w2.heap.size)) (.int .i64 st) (.slice (some ⟨g, 0, none⟩) ((betw (pre.map (·.1)) x.1.2.1 x.1.2.2).length + 1) cp)).run Try.prog u3 = .ok () (setBlock u3 w2.heap.size m2) := hst
    have B4 : Below w2.heap.size W (setBlock u3 w2.heap.size m2) := (B2.grown hg3 (by omega) (fun k e => by have := (hO.1.lt k e).1; omega)).trans (below_setBlock _ _ _)
    obtain ⟨u4, hu4⟩ : ∃ u4, u4 = setBlock u3 w2.heap.size m2 := ⟨_, rfl⟩
    have u4b : ∀ k, k ≠ w2.heap.size → u4.heap[k]? = u3.heap[k]? := fun k hk => by rw [hu4]; simp [setBlock, Ne.symm hk]
    have u4s : u4.heap.size = u3.heap.size := by rw [hu4]; simp [setBlock]
    rw [← hu4] at hst hst' hmap B4
    clear hu4
    have u4W : ∀ k, k < W.heap.size → k ≠ w2.heap.size → some k ≠ v.ownBlock → u4.heap[k]? = W.heap[k]? := fun k hk hne hv => (u4b k hne).trans (((u3b k (by omega) hv).trans (u2b k hne)).trans (u1b k hk))
    have g1 := (u4W _ (by omega) (by omega) (hvk _ (by omega))).trans hs1
    have g2 := (u4W _ (by omega) (by omega) (hvk _ (by omega))).trans hs2
    have S4 : S u4 := SW u4 g1 g2 (u4W _ hBxl (by omega) hvB)
    have hsz3 := hg3.size
    have hfin : KeepsFrom W0.heap.size W u4 ∧ Keeps (fun k _ => k < w2.heap.size) W u4 ∧ ((MapAt u4 w2.heap.size (w2.heap.size + 4) (betw ((pre ++ [x]).map (·.1))) ∧ (∀ p q, (betw ((pre ++ [x]).map (·.1)) p q).length ≤ (pre ++ [x]).length)) ∧ (u4.heap[w2.heap.size + 1]? = some gs ∧ u4.heap[w2.heap.size + 1 + 1]? = some gx) ∧ (Below w2.heap.size w2 u4 ∧ w2.heap.size + 4 ≤ u4.heap.size)) := by
      refine ⟨⟨by omega, fun k o hk ho hc => ?_⟩, ⟨by omega, fun k o hk ho => (B4.block k hk).trans ho⟩, ⟨?_, fun p q => ?_⟩, ⟨g1, g2⟩, hbl.trans B4, by omega⟩
      · refine (u4W k (Array.getElem?_eq_some_iff.1 ho).1 (by omega) fun e => ?_).trans ho
        rcases hO.1.2 with ⟨hv, _⟩ | ⟨g', cp', cur, hv, _, hgb, _⟩
        · rw [hv] at e; cases e
        · rw [hv] at e
          obtain rfl : k = g' := by simpa [Value.ownBlock] using e
          rw [hgb] at ho; cases ho; cases hc
      · rw [List.map_append, List.map_cons, List.map_nil, betw_snoc]; exact hmap
      · rw [List.map_append, List.map_cons, List.map_nil, betw_snoc]
        unfold upd
        split
        · simp; exact hl _ _
        · have := hl p q; simp; omega
    clear hmap B4 u4W u4b u4s
    go_simp
    refine hK _ _ ⟨S4, ?_⟩
    clear hK K
    refine wpAnyH_done (by kernel_rfl) ?_ _
    exact hfin
end Go.Proofs.Ytbjoljokdjgbnac
