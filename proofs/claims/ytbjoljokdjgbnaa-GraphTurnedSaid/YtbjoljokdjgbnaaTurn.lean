/-
  A graph turned: what Turned comes to.
-/
import Derived.Test.YtbjoljokdjgbnaaSameG
import Derived.Test.YtbjoljokdjgbnaaDec
import Derived.Test.YtbjoljokdjgbnaaWide
namespace Go.Proofs.Ytbjoljokdjgbnaa
open Go.RowKit Go.Shelf Go.Deep
attribute [local go_sem] Oper.semAt_some
def swap (x : Int × Int) : Int × Int := (x.2, x.1)
/-- Block b is a row of the edges ls. -/
def RowE (W : World) (b : Nat) (ls : Edges) : Prop := W.heap[b]? = some (.cells (flat ls).toArray 55 (0, 0))
theorem make2 (c : Nat) (hc : c ≤ 1000) (W : World) : (Instr.makeSlice 22 (.int .i64 (c : Int)) (.int .i64 (c : Int))).run Try.prog W = .ok (.slice (some ⟨W.heap.size, 0, none⟩) c c) (W.alloc (.cells (madeCells #[.int .i64 0, .int .i64 0] (c * 2)) 55)) := by
  obtain ⟨i0, hi, hz0, hz1, hz2⟩ := info_parts Try.info55
  have := run_make (P := Try.prog) W 22 55 i0 (.agg #[.int .i64 0, .int .i64 0]) Try.underlying22 hi hz0 .i64 .i64 (c : Int) (c : Int) (by omega) (by omega) (by rw [hz2]; omega) (by omega)
  rw [hz1] at this
  simp only [Int.toNat_natCast] at this
  exact this
theorem RowE.lt {W : World} {b : Nat} {ls : Edges} (h : RowE W b ls) : b < W.heap.size := (Array.getElem?_eq_some_iff.1 h).1
theorem RowE.cell {W : World} {b : Nat} {ls : Edges} (h : RowE W b ls) {i : Nat} {x : Int × Int} (hx : ls[i]? = some x) : W.cell? ⟨b, i * 2, none⟩ = some (.int .i64 x.1) ∧ W.cell? ⟨b, i * 2 + 1, none⟩ = some (.int .i64 x.2) := by
  obtain ⟨f1, f2⟩ := flat_at ls i x hx
  rw [cell_of_row W b _ _ 55 (0, 0) h, cell_of_row W b _ _ 55 (0, 0) h]
  exact ⟨by simpa using f1, by simpa using f2⟩
theorem RowE.frozen {W : World} {b : Nat} {ls : Edges} (h : RowE W b ls) (j : Nat) : W.frozen? ⟨b, j, none⟩ = false := by
  simp [World.frozen?, show W.heap[b]? = _ from h]
theorem RowE.kept {W W' : World} {row : Option Nat} {b : Nat} {ls : Edges} (h : RowE W b ls) (hg : W.grownBy W' row) (hne : some b ≠ row) : RowE W' b ls := (hg.block b h.lt hne).trans h
theorem flat_set : ∀ (ls : Edges) (i : Nat) (x : Int × Int), flat (ls.set i x) = ((flat ls).set (i * 2) (.int .i64 x.1)).set (i * 2 + 1) (.int .i64 x.2)
  | [], i, x => by simp [flat]
  | y :: r, 0, x => by simp [flat]
  | y :: r, i + 1, x => by
    have ih := flat_set r i x
    rw [show (i + 1) * 2 = i * 2 + 1 + 1 by omega]
    simp [flat, ih]
theorem heap_set {W : World} {b : Nat} {cs : Array Value} {t : TypeId} (h : W.heap[b]? = some (.cells cs t (0, 0))) (j : Nat) (v : Value) : (W.setCell ⟨b, j, none⟩ v).heap[b]? = some (.cells (cs.setIfInBounds j v) t (0, 0)) := by
  obtain ⟨hlt, hk⟩ := Array.getElem?_eq_some_iff.1 h
  show (W.heap.modify b _)[b]? = _
  rw [Array.getElem?_eq_getElem (by rw [Array.size_modify]; exact hlt), Array.getElem_modify_self, hk]
  simp
theorem RowE.set {W : World} {b : Nat} {ls : Edges} (h : RowE W b ls) (i : Nat) (x : Int × Int) : RowE ((W.setCell ⟨b, i * 2, none⟩ (.int .i64 x.1)).setCell ⟨b, i * 2 + 1, none⟩ (.int .i64 x.2)) b (ls.set i x) := by
  unfold RowE
  rw [heap_set (heap_set h _ _) _ _, flat_set]
  simp
theorem made_rowE (w : World) (m : Nat) : RowE (w.alloc (.cells (madeCells #[.int .i64 0, .int .i64 0] (m * 2)) 55)) w.heap.size (List.replicate m (0, 0)) := by
  have := World.alloc_heap_new w (.cells (madeCells #[.int .i64 0, .int .i64 0] (m * 2)) 55)
  unfold RowE
  rw [this]
  congr 2
  apply Array.ext'
  apply List.ext_getElem
  · simp [madeCells, flat_length]
  · intro i h1 h2
    have hi : i < m * 2 := by simpa [madeCells] using h1
    have h3 : (List.replicate m ((0, 0) : Int × Int))[i / 2]? = some (0, 0) := by rw [List.getElem?_replicate, if_pos (by omega)]
    obtain ⟨f1, f2⟩ := flat_at _ _ _ h3
    have hfl : (flat (List.replicate m ((0, 0) : Int × Int)))[i]? = some (.int .i64 0) := by
      rcases Nat.mod_two_eq_zero_or_one i with e | e
      · rwa [show i / 2 * 2 = i by omega] at f1
      · rwa [show i / 2 * 2 + 1 = i by omega] at f2
    have e2 : (flat (List.replicate m ((0, 0) : Int × Int)))[i]'(by simpa using h2) = .int .i64 0 := by
      have := List.getElem?_eq_getElem (l := flat (List.replicate m ((0, 0) : Int × Int))) (i := i) (by simpa using h2)
      rw [this] at hfl; exact Option.some.inj hfl
    have e1 : (madeCells #[Value.int .i64 0, Value.int .i64 0] (m * 2)).toList[i]'(by simpa using h1) = .int .i64 0 := by
      simp only [madeCells, Array.toList_map, Array.toList_range, List.getElem_map, List.getElem_range]
      rcases Nat.mod_two_eq_zero_or_one i with e | e <;> simp [e]
    rw [e1]
    exact e2.symm
/-- The edges met, turned, at their places. -/
def tfill {es : Edges} (m : Nat) (pre : List (At es)) : Edges := pre.foldl (fun ls x => ls.set x.1.1 (swap x.1.2)) (List.replicate m (0, 0))
theorem tfill_snoc {es : Edges} (m : Nat) (pre : List (At es)) (x : At es) : tfill m (pre ++ [x]) = (tfill m pre).set x.1.1 (swap x.1.2) := by simp [tfill]
theorem tfill_length {es : Edges} (m : Nat) : ∀ (pre : List (At es)) , (tfill m pre).length = m := by
  intro pre
  have : ∀ (pre : List (At es)) (ls : Edges), (pre.foldl (fun ls x => ls.set x.1.1 (swap x.1.2)) ls).length = ls.length := by
    intro pre
    induction pre with
    | nil => intro ls; rfl
    | cons x r ih => intro ls; rw [List.foldl_cons, ih]; simp
  unfold tfill; rw [this]; simp
theorem tfill_upto (es : Edges) : ∀ (k : Nat) (h : k ≤ es.length), tfill es.length (upto es k h) = (es.take k).map swap ++ List.replicate (es.length - k) (0, 0)
  | 0, _ => by simp [tfill, upto]
  | k + 1, h => by
    have ih := tfill_upto es k (by omega)
    have hk : k < es.length := h
    simp only [upto]
    rw [tfill_snoc, ih]
    rw [show es.length - k = (es.length - (k + 1)) + 1 by omega, List.replicate_succ, List.take_add_one, List.getElem?_eq_getElem hk]
    rw [List.set_append_right _ _ (by simp; omega)]
    simp only [List.length_map, List.length_take, show k - min k es.length = 0 by omega, List.set_cons_zero, List.map_append, Option.toList, List.map_cons, List.map_nil, List.append_assoc, List.cons_append, List.nil_append]
theorem tfill_all (es : Edges) : tfill es.length (upto es es.length (Nat.le_refl _)) = es.map swap := by
  rw [tfill_upto]; simp
theorem ne_put {w : World} {D : Nat} {o : Obj} (hD : w.heap[D]? = some o) (hc : o.isCells = false) {p : Addr} {v : Value} (h : w.cell? p = some v) : some p.block ≠ some D := by
  intro e
  obtain ⟨o', ho, hcc⟩ := cells_of_cell h
  rw [Option.some.inj e, hD] at ho
  cases ho
  rw [hc] at hcc; cases hcc
theorem IsG.put {w : World} {gp : Option Addr} {n : Int} {es : Edges} {D : Nat} {x : Option (List Deferred)} {o' : Obj} (h : IsG w gp n es) (hD : w.heap[D]? = some (.deferred x)) : IsG (w.putObj D o') gp n es := by
  have hc : Obj.isCells (.deferred x) = false := rfl
  have hg := grownBy_putObj' w D o'
  rcases h with h | ⟨gb, v, mb, base, h1, h2, h3, h4, h5, c0, c1, hs, c2, hm⟩
  · exact .inl h
  · refine .inr ⟨gb, v, mb, base, h1, h2, h3, h4, h5, kept_cell hg c0 (ne_put hD hc c0), kept_cell hg c1 (ne_put hD hc c1), ?_, kept_cell hg c2 (ne_put hD hc c2), ?_⟩
    · obtain ⟨a, cap, rfl, hs⟩ := hs
      refine ⟨a, cap, rfl, ?_⟩
      rcases hs with hs | ⟨b, off, rfl, hl⟩
      · exact .inl hs
      · exact .inr ⟨b, off, rfl, fun j y hy => ⟨kept_cell hg (hl j y hy).1 (ne_put hD hc (hl j y hy).1), kept_cell hg (hl j y hy).2 (ne_put hD hc (hl j y hy).2)⟩⟩
    · obtain ⟨ms, clock, m1, m2, m3, m4⟩ := hm
      have hbl : mb < w.heap.size := (Array.getElem?_eq_some_iff.1 m1).1
      refine ⟨ms, clock, (hg.block mb hbl fun e => ?_).trans m1, m2, fun y hy => ?_, m4⟩
      · rw [Option.some.inj e, hD] at m1; cases m1
      · obtain ⟨p, q, wp, wq, ek, ho⟩ := m3 y hy
        refine ⟨p, q, wp, wq, ek, ho.kept hg ?_⟩
        rcases ho.1.2 with ⟨hv, _⟩ | ⟨g, cap, cur, hv, _, hgb, _⟩
        · rw [hv]; exact .inl rfl
        · rw [hv]
          refine .inr fun e => ?_
          have e' : g = D := by simpa [Value.ownBlock] using e
          rw [e', hD] at hgb; cases hgb
set_option maxRecDepth 100000 in
set_option maxHeartbeats 4000000 in
theorem turned_walk (gb : Nat) (n : Int) (es : Edges) (w : World) (hg : IsG w (some ⟨gb, 0, none⟩) n es) :
    Calls Try.prog 33 #[.pointer (some ⟨gb, 0, none⟩)] w fun e w' => ∃ tb, e = .returned (.pointer (some ⟨tb, 0, none⟩)) ∧ IsG w' (some ⟨tb, 0, none⟩) n (es.map swap) ∧ Below w.heap.size w w' := by
  have HG := hidI hg
  rcases hg with ⟨h, _⟩ | ⟨gb', v, mb, base, h, h1, h2, h3, hgd, c0, c1, hse, c2, hm⟩
  · cases h
  cases h
  obtain ⟨ea, ecap, rfl, _⟩ := hse
  clear hm c2
  have HGD := hidI hgd
  clear hgd
  have mk := make2 es.length (by omega)
  obtain ⟨m, hm⟩ : ∃ m, es.length = m := ⟨_, rfl⟩
  rw [hm] at h3 c1 mk
  have HM := hidI hm
  clear hm
  refine (callsIn_wide (n := 0)).1 ?_
  refine callsIn_of_wp_marks Try.func33 rfl trivial ?_ rfl
  simp only [Try.ntmps33, List.size_toArray, List.length_cons, List.length_nil, Nat.reduceAdd, Nat.reduceSub, Array.replicate_succ, Array.replicate_zero, List.push_toArray, List.append_toArray, List.nil_append, List.cons_append]
  gi_wp2_with (refine ⟨trivial, rfl, ?_⟩; gi_at_call 38; refine (callsIn_wide.2 (walk_any _ _)).mono ?_; rintro e w' ⟨rfl, rfl⟩)
  obtain ⟨vx, hvx⟩ : ∃ vx : Obj, vx = .cells #[.slice (some ⟨w.heap.size, 0, none⟩) m m] 22 (0, 0) := ⟨_, rfl⟩
  obtain ⟨gx, hgx⟩ : ∃ gx : Obj, gx = .cells #[.pointer (some ⟨gb, 0, none⟩)] 27 (0, 0) := ⟨_, rfl⟩
  have bR := made_rowE w m
  rw [← hvx, ← hgx]
  obtain ⟨w0, hw0⟩ : ∃ w0, w.alloc (.cells (madeCells #[.int .i64 0, .int .i64 0] (m * 2)) 55) = w0 := ⟨_, rfl⟩
  rw [hw0] at bR ⊢
  have s0 : w0.heap.size = w.heap.size + 1 := by rw [← hw0]; simp
  have B0 : Below w.heap.size w w0 := by rw [← hw0]; exact (Below.refl _ w).alloc (Nat.le_refl _) _
  clear hw0
  have bR0 : RowE ((w0.alloc vx).alloc gx) w.heap.size (List.replicate m (0, 0)) := (Below.heap_alloc _ _ _ (by simp; omega)).trans ((Below.heap_alloc _ _ _ (by omega)).trans bR)
  have bV : ((w0.alloc vx).alloc gx).heap[w.heap.size + 1]? = some vx := by
    rw [Below.heap_alloc _ _ _ (by simp; omega)]
    have := World.alloc_heap_new w0 vx
    rwa [s0] at this
  have bG : ((w0.alloc vx).alloc gx).heap[w.heap.size + 1 + 1]? = some gx := by
    have := World.alloc_heap_new (w0.alloc vx) gx
    rwa [World.size_alloc, s0] at this
  have hB0 : Below w.heap.size w ((w0.alloc vx).alloc gx) := (B0.alloc (by omega) _).alloc (by simp; omega) _
  have hsz : ((w0.alloc vx).alloc gx).heap.size = w.heap.size + 3 := by simp [s0]
  obtain ⟨W0, hW0⟩ : ∃ W0, (w0.alloc vx).alloc gx = W0 := ⟨_, rfl⟩
  rw [hW0] at bR0 bV bG hB0 hsz ⊢
  clear hW0 bR B0 s0
  have cB : W0.cell? ⟨w.heap.size + 1 + 1, 0, none⟩ = some (.pointer (some ⟨gb, 0, none⟩)) := by simp [World.cell?, bG, hgx]
  clear mk
  refine range_law (gf := 56) (lb := #[.pointer (some ⟨w.heap.size + 1 + 1, 0, none⟩)]) rfl (enters_of Try.func56 (by kernel_rfl) rfl) (T := fun k _ => k < w.heap.size) (fun k _ hk ht => by omega)
    (walk_seq (w.heap.size + 1 + 1) w.heap.size _ (fun _ _ h => h) (some ⟨gb, 0, none⟩) es (by have := HM.out; omega) w W0 HG.out.walks (Nat.le_refl _) (by omega) hB0 cB) (fun _ => rfl)
    (fun pre W => RowE W w.heap.size (tfill m pre) ∧ W.heap[w.heap.size + 1]? = some vx ∧ (Below w.heap.size w W ∧ w.heap.size + 3 ≤ W.heap.size))
    (fun _ _ => False)
    ?hI (fun _ _ _ _ hs _ _ => hs) ?h0
    (fun s W => ∃ Bx, (RowE W w.heap.size (tfill m s.1) ∧ W.heap[w.heap.size + 1]? = some vx ∧ (Below w.heap.size w W ∧ w.heap.size + 3 ≤ W.heap.size)) ∧
      (W.heap[Bx]? = some (.cells #[.int .i64 s.2.1.1.2.1, .int .i64 s.2.1.1.2.2] 55 (0, 0)) ∧ w.heap.size + 3 ≤ Bx) ∧ s.2.2 = { tmps := #[.pointer (some ⟨gb, 0, none⟩), undef, .pointer none, .pointer (some ⟨w.heap.size + 1, 0, none⟩), .int .i64 (s.2.1.1.1 : Int), .pointer (some ⟨Bx, 0, none⟩), .pointer (some ⟨gb, 0, none⟩), .bool false, .pointer (some ⟨gb, 0, none⟩), .pointer (some ⟨gb, 0, none⟩), .pointer (some ⟨gb, 1, none⟩), .slice ea m ecap, .int .i64 (m : Int), .slice (some ⟨w.heap.size, 0, none⟩) m m, .pointer (some ⟨gb, 0, none⟩), .func (.func 56) #[] #[.pointer (some ⟨w.heap.size + 1 + 1, 0, none⟩)], .int .i64 (s.2.1.1.1 : Int), .agg #[.int .i64 s.2.1.1.2.1, .int .i64 s.2.1.1.2.2], undef, undef, undef, undef, undef, undef, undef, undef, undef, undef, undef, undef, undef, undef], defers := [] })
    ?hAx ?assign ?body ?done ?stop
  case stop => exact fun _ _ _ _ h => h.elim
  case h0 => exact ⟨bR0, bV, hB0, by omega⟩
  case hI =>
    rintro pre X Y row ⟨hr, hv, hbl, hle⟩ hg hrow
    refine ⟨hr.kept hg (fun e => by have := (hrow _ e.symm).1; omega), ?_, ownFrom_below (β := Unit) (B := W0.heap.size) (Nat.le_refl _) (by omega) () X Y row hbl hg hrow, Nat.le_trans hle hg.size⟩
    exact (hg.block _ (by omega) fun e => by have := (hrow _ e.symm).1; omega).trans hv
  case hAx =>
    rintro s X Y row ⟨Bx, ⟨hr, hv, hbl, hle⟩, ⟨hx, hxl⟩, ha⟩ hg hrow
    refine ⟨Bx, ⟨hr.kept hg (fun e => by have := (hrow _ e.symm).1; omega), ?_, ownFrom_below (β := Unit) (B := W0.heap.size) (Nat.le_refl _) (by omega) () X Y row hbl hg hrow, Nat.le_trans hle hg.size⟩, ⟨?_, hxl⟩, ha⟩
    · exact (hg.block _ (by omega) fun e => by have := (hrow _ e.symm).1; omega).trans hv
    · refine (hg.block _ (Array.getElem?_eq_some_iff.1 hx).1 fun e => ?_).trans hx
      obtain ⟨_, o, ho, hc⟩ := hrow _ e.symm
      rw [hx] at ho; cases ho; cases hc
  case assign =>
    rintro l pre x W K ⟨hr, hv, hbl, hle⟩ hK
    dsimp only [encA]
    gi_wp2
    refine hK _ _ ((KeepsOthers.alloc _ _).from _) (Keeps.alloc _ _ _) ⟨W.heap.size, ⟨(Below.heap_alloc _ _ _ (by omega)).trans hr, (Below.heap_alloc _ _ _ (by omega)).trans hv, hbl.alloc (by omega) _, by simp; omega⟩, ⟨World.alloc_heap_new W _, hle⟩, rfl⟩
  case body =>
    rintro l pre x a' W hlen ⟨Bx, ⟨hr, hv, hbl, hle⟩, ⟨hx, hxl⟩, ha⟩
    dsimp only at hr hx ha hlen
    subst ha
    have ix : x.1.1 < m := by have := (List.getElem?_eq_some_iff.1 x.2).1; have := HM.out; omega
    have hcv : W.cell? ⟨w.heap.size + 1, 0, none⟩ = some (.slice (some ⟨w.heap.size, 0, none⟩) m m) := by simp [World.cell?, hv, hvx]
    have cx1 : W.cell? ⟨Bx, 0, none⟩ = some (.int .i64 x.1.2.1) := by simp [World.cell?, hx]
    have cx2 : W.cell? ⟨Bx, 1, none⟩ = some (.int .i64 x.1.2.2) := by simp [World.cell?, hx]
    obtain ⟨o1, o2⟩ := hr.cell (i := x.1.1) (x := (tfill m pre)[x.1.1]'(by rw [tfill_length]; exact ix)) (List.getElem?_eq_getElem _)
    have f1 := hr.frozen (x.1.1 * 2)
    have f2 := hr.frozen (x.1.1 * 2 + 1)
    have k1 : (x.1.1 : Int) < (m : Int) := by omega
    gi_wp2
    have g1 := grownBy_set W w.heap.size (x.1.1 * 2) (.int .i64 x.1.2.2)
    have g2 := grownBy_set (W.setCell ⟨w.heap.size, x.1.1 * 2, none⟩ (.int .i64 x.1.2.2)) w.heap.size (x.1.1 * 2 + 1) (.int .i64 x.1.2.1)
    refine ⟨((KeepsOthers.setCell W _ _).trans (KeepsOthers.setCell _ _ _)).from _, (Keeps.grown g1 fun k o e _ ht => by cases e; omega).trans (Keeps.grown g2 fun k o e _ ht => by cases e; omega), ?_, ?_, ?_, ?_⟩
    · rw [tfill_snoc]; exact hr.set x.1.1 (swap x.1.2)
    · have := g1.size
      exact (g2.block _ (by omega) (by simp)).trans ((g1.block _ (by omega) (by simp)).trans hv)
    · exact (hbl.setCell (p := ⟨w.heap.size, x.1.1 * 2, none⟩) (Nat.le_refl _) _).setCell (p := ⟨w.heap.size, x.1.1 * 2 + 1, none⟩) (Nat.le_refl _) _
    · have := g1.size; have := g2.size; omega
  case done =>
    rintro D xs W hD rfl ⟨hr, hv, hbl, hle⟩ hK
    have hfill : tfill m (upto es es.length (Nat.le_refl _)) = es.map swap := by rw [← HM.out]; exact tfill_all es
    rw [hfill] at hr
    have d0 : W.cell? ⟨gb, 0, none⟩ = some (.int .i64 n) := (hbl.cell (p := ⟨gb, 0, none⟩) (World.block_lt_of_cell? w _ c0)).trans c0
    have d1 : W.cell? ⟨w.heap.size + 1, 0, none⟩ = some (.slice (some ⟨w.heap.size, 0, none⟩) m m) := by simp [World.cell?, hv, hvx]
    have hgw : gb < w.heap.size := World.block_lt_of_cell? w _ c0
    have hsw : SeesE W.drew (.slice (some ⟨w.heap.size, 0, none⟩) m m) (es.map swap) := by
      refine ⟨_, m, by rw [List.length_map, HM.out], .inr ⟨w.heap.size, 0, rfl, fun j y hy => ?_⟩⟩
      have := hr.cell hy
      rw [Nat.zero_add]; exact this
    have hgs : ∀ y ∈ es.map swap, good n y = true := fun y hy => by
      obtain ⟨x, hx, rfl⟩ := List.mem_map.1 hy
      have := HGD.out x hx
      simp only [good, Bool.and_eq_true, decide_eq_true_eq] at this ⊢
      dsimp only [swap]
      omega
    have C := hidI (new_ok n _ (es.map swap) W.drew hsw h1 h2 (by rw [List.length_map, HM.out]; exact h3) hgs)
    clear hsw hgs
    obtain ⟨S, hS⟩ : ∃ S : World → Prop, S = fun w' => w'.cell? ⟨gb, 0, none⟩ = some (.int .i64 n) ∧ w'.cell? ⟨w.heap.size + 1, 0, none⟩ = some (.slice (some ⟨w.heap.size, 0, none⟩) m m) := ⟨_, rfl⟩
    have S0 : S W.drew := by rw [hS]; exact ⟨d0, d1⟩
    gi_wp2
    refine wide_held S ?_
    refine wpAnyH_take (i := 0) (v := .pointer (some ⟨gb, 0, none⟩)) rfl (by kernel_rfl) (by kernel_rfl) (by kernel_rfl) (fun _ _ _ h => h) (.inl ⟨by rfl, fun u hu => ?_⟩) S0 ?_
    · go_simp
    refine wpAnyH_take (i := 1) (v := .pointer (some ⟨gb, 0, none⟩)) rfl (by kernel_rfl) (by kernel_rfl) (by kernel_rfl) (fun _ _ _ h => h) (.inl ⟨by rfl, fun u hu => ?_⟩) S0 ?_
    · go_simp
    refine wpAnyH_take (i := 2) (v := .pointer (some ⟨gb, 0, none⟩)) rfl (by kernel_rfl) (by kernel_rfl) (by kernel_rfl) (fun _ _ _ h => h) (.inl ⟨by rfl, fun u hu => ?_⟩) S0 ?_
    · go_simp
    refine wpAnyH_take (i := 3) (v := .int .i64 n) rfl (by kernel_rfl) (by kernel_rfl) (by kernel_rfl) (fun _ _ _ h => h) (.inl ⟨by rfl, fun u hu => ?_⟩) S0 ?_
    · rw [hS] at hu; obtain ⟨q1, q2⟩ := hu; go_simp
    refine wpAnyH_take (i := 4) (v := .slice (some ⟨w.heap.size, 0, none⟩) m m) rfl (by kernel_rfl) (by kernel_rfl) (by kernel_rfl) (fun _ _ _ h => h) (.inl ⟨by rfl, fun u hu => ?_⟩) S0 ?_
    · rw [hS] at hu; obtain ⟨q1, q2⟩ := hu; go_simp
    refine wpAnyH_all (rs := [5]) (by kernel_rfl) (by simp) fun i hi5 => ?_
    obtain rfl : i = 5 := by simpa using hi5
    refine wpOp_step rfl fun K hKK => ?_
    rw [if_pos (by rfl)]
    unfold Oper.wp
    go_simp
    refine Calls.mono C.out ?_
    rintro e w5 ⟨tb, rfl, hg5, hb5⟩
    have S5 : S w5 := by
      rw [hS]
      exact ⟨(hb5.cell (p := ⟨gb, 0, none⟩) (World.block_lt_of_cell? W _ d0)).trans d0, (hb5.cell (p := ⟨w.heap.size + 1, 0, none⟩) (World.block_lt_of_cell? W _ d1)).trans d1⟩
    refine hKK _ _ ⟨S5, ?_⟩
    clear hKK K
    refine wpAnyH_take (i := 6) (v := .pointer (some ⟨tb, 0, none⟩)) rfl (by kernel_rfl) (by kernel_rfl) (by kernel_rfl) (fun _ _ _ h => h) (.inl ⟨by rfl, fun u hu => ?_⟩) S5 ?_
    · go_simp
    refine wpAnyH_done (by kernel_rfl) ?_ _
    have HG5 := hidI hg5
    have HB5 := hidI hb5
    clear hg5 hb5 C
    simp only [Goes]
    gi_wp2
    have hDW : D < W.heap.size := (Array.getElem?_eq_some_iff.1 hK).1
    have hK5 : w5.heap[D]? = some (.deferred (some [])) := (HB5.out.block D hDW).trans hK
    have hW5 : W.heap.size ≤ w5.heap.size := HB5.out.size
    refine ⟨by simp, .inl ⟨_, _, rfl, run_takeDeferred hK5, ?_⟩⟩
    refine ⟨_, results_tmp rfl _ _ _, tb, rfl, HG5.out.put hK5, ?_⟩
    exact (hbl.trans (((Below.refl w.heap.size W).drew).trans (HB5.out.mono (show w.heap.size ≤ W.heap.size by omega)))).trans (belowK_b (w := w) (Nat.le_refl _) w5 D _ _ (by omega) hK5 rfl rfl)
theorem swap_swap (es : Edges) : (es.map swap).map swap = es := by
  rw [List.map_map]
  have : (swap ∘ swap) = id := by funext x; rfl
  rw [this, List.map_id]
/-- The edges that come to a node of the graph turned are those that left it. -/
theorem places_swap (es : Edges) (v : Int) (inn : Bool) : places (es.map swap) v inn = places es v (!inn) := by
  rw [places_pick, places_pick, List.length_map]
  unfold pick
  congr 1
  apply List.filter_congr
  intro j hj
  have hj' : j < es.length := by simpa using hj
  have e1 : (es.map swap).getD j (0, 0) = swap (es.getD j (0, 0)) := by simp [List.getD, hj']
  rw [e1]
  cases inn <;> rfl
set_option maxRecDepth 100000 in
set_option maxHeartbeats 2000000 in
theorem rturned_walk (rb : Nat) (n : Int) (es : Edges) (w : World) (hg : IsR w (some ⟨rb, 0, none⟩) n es) :
    Calls Try.prog 34 #[.pointer (some ⟨rb, 0, none⟩)] w fun e w' => ∃ tb, e = .returned (.pointer (some ⟨tb, 0, none⟩)) ∧ IsR w' (some ⟨tb, 0, none⟩) n (es.map swap) ∧ Below w.heap.size w w' := by
  obtain ⟨i0, hi, hz0, hz1, hz2⟩ := info_parts Try.info55
  have HG := hidI hg
  rcases hg with ⟨h, _⟩ | ⟨rb', v, h, h1, h2, h3, hgd, c0, c1, hse⟩
  · cases h
  cases h
  obtain ⟨ea, ecap, rfl, hse⟩ := hse
  have HSE := hidI hse
  have HGD := hidI hgd
  have hrb : rb < w.heap.size := World.block_lt_of_cell? w _ c0
  obtain ⟨m, hm⟩ : ∃ m, es.length = m := ⟨_, rfl⟩
  rw [hm] at h3 c1
  have HM := hidI hm
  clear hse hgd hm
  go_enter Try.func34, Try.ntmps34
  go_wp2
  go_loopg [3, 4] m (fun g s3 s4 wx => ∃ (i : Nat), i + g = m ∧ s4 = .int .i64 i ∧ wx.ownsRow w.heap.size 55 2 s3 i (flat ((es.take i).map swap)) ∧ Below w.heap.size w wx ∧ w.heap.size ≤ wx.heap.size)
  case atStart => exact ⟨0, by omega, rfl, World.ownsRow_nil _ _ _ _, Below.refl _ _, Nat.le_refl _⟩
  case round =>
    obtain ⟨i, hig, rfl, ho, hbl, hsz⟩ := hrel
    have HO := hidI ho
    have HB := hidI hbl
    have d0 : wr.cell? ⟨rb, 0, none⟩ = some (.int .i64 n) := (hbl.cell (p := ⟨rb, 0, none⟩) hrb).trans c0
    have d1 : wr.cell? ⟨rb, 1, none⟩ = some (.slice ea m ecap) := (hbl.cell (p := ⟨rb, 1, none⟩) hrb).trans c1
    clear ho hbl
    cases gk with
    | zero =>
      have hil : i = m := by omega
      subst hil
      have hsee : SeesE wr u3 (es.map swap) := by
        have := HO.out
        rw [List.take_of_length_le (by rw [HM.out]; exact Nat.le_refl _)] at this
        exact seesE_of_owns (base := w.heap.size) (by rw [List.length_map, HM.out]; exact this)
      have hgs : ∀ y ∈ es.map swap, good n y = true := fun y hy => by
        obtain ⟨x, hx, rfl⟩ := List.mem_map.1 hy
        have := HGD.out x hx
        simp only [good, Bool.and_eq_true, decide_eq_true_eq] at this ⊢
        dsimp only [swap]
        omega
      obtain ⟨a3, c3, rfl, _⟩ := id hsee
      have HS := hidI hsee
      have HGS := hidI hgs
      clear hsee hgs
      go_wp2
      go_ret
      refine ⟨wr.heap.size, rfl, .inr ⟨wr.heap.size, _, rfl, h1, h2, by rw [List.length_map, HM.out]; exact h3, HGS.out, cell_pair0 _ _ _ _, cell_pair1 _ _ _ _, ?_⟩, HB.out.alloc HB.out.size _⟩
      have h9 := HS.out.below ((Below.refl _ wr).alloc (Nat.le_refl _) (.cells #[.int .i64 n, .slice a3 es.length c3] 64)) (Nat.le_refl _)
      rw [List.length_map] at h9
      exact h9
    | succ g =>
      have hlt : i < m := by omega
      have k3 : (i : Int) < (m : Int) := by omega
      obtain ⟨x, hx⟩ : ∃ x, es[i]? = some x := ⟨es[i]'(by have := HM.out; omega), List.getElem?_eq_getElem _⟩
      have HX := hidI hx
      rcases HSE.out with h0 | ⟨b, off, rfl, hl⟩
      · have := HM.out; rw [h0] at this; simp at this; omega
      have hbw : b < w.heap.size := World.block_lt_of_cell? w _ (hl i x hx).1
      have e1 : wr.cell? ⟨b, off + i * 2, none⟩ = some (.int .i64 x.1) := (HB.out.cell (p := ⟨b, off + i * 2, none⟩) hbw).trans (hl i x hx).1
      have e2 : wr.cell? ⟨b, off + i * 2 + 1, none⟩ = some (.int .i64 x.2) := (HB.out.cell (p := ⟨b, off + i * 2 + 1, none⟩) hbw).trans (hl i x hx).2
      clear hx hl
      have hnw : ∀ (j : Nat) (u : Value), [Value.int .i64 x.2, .int .i64 x.1][j]? = some u → (wr.alloc (.cells #[.int .i64 x.2, .int .i64 x.1] 55)).drew.cell? ((⟨wr.heap.size, 0, none⟩ : Addr).add j) = some u := pair_new wr (.int .i64 x.2) (.int .i64 x.1) 55
      have hne : some b ≠ u3.ownBlock := fun hk => by have := (HO.out.lt b hk.symm).1; omega
      have hne2 : some rb ≠ u3.ownBlock := fun hk => by have := (HO.out.lt rb hk.symm).1; omega
      have D1 : Hid ((wr.alloc (.cells #[.int .i64 x.2, .int .i64 x.1] 55)).drew.cell? ⟨b, off + i * 2, none⟩ = some (.int .i64 x.1)) := cell_al _ e1
      have D2 : Hid ((wr.alloc (.cells #[.int .i64 x.2, .int .i64 x.1] 55)).drew.cell? ⟨b, off + i * 2 + 1, none⟩ = some (.int .i64 x.2)) := cell_al _ e2
      have D3 : Hid ((wr.alloc (.cells #[.int .i64 x.2, .int .i64 x.1] 55)).drew.cell? ⟨rb, 1, none⟩ = some (.slice (some ⟨b, off, none⟩) m ecap)) := cell_al _ d1
      have HOD : Hid ((wr.alloc (.cells #[.int .i64 x.2, .int .i64 x.1] 55)).drew.ownsRow w.heap.size 55 2 u3 i (flat ((es.take i).map swap))) := HO.out.alloc _
      have HNW := hidI hnw
      have HNE := hidI hne
      have HNE2 := hidI hne2
      have Q1 : Hid (i + 1 ≤ maxLen) := hidI (by unfold maxLen; omega)
      have Q2 : Hid ((i + 1) * 16 ≤ 140737488355328) := hidI (by omega)
      have Q3 : Hid (w.heap.size ≤ (wr.alloc (.cells #[.int .i64 x.2, .int .i64 x.1] 55)).drew.heap.size) := hidI (by simp; omega)
      clear hne hne2 hnw
      go_wp2
      go_region_held_law (fun w' => w'.cell? ⟨b, off + i * 2, none⟩ = some (.int .i64 x.1) ∧ w'.cell? ⟨b, off + i * 2 + 1, none⟩ = some (.int .i64 x.2) ∧ w'.cell? ⟨rb, 1, none⟩ = some (.slice (some ⟨b, off, none⟩) m ecap))
        (first | assumption | exact ⟨D1.out, D2.out, D3.out⟩ | exact ⟨kept_cell hgrow D1.out HNE.out, kept_cell hgrow D2.out HNE.out, kept_cell hgrow D3.out HNE2.out⟩ | go_keep)
        ((refine step_append_lies _ rfl _ _ 22 rfl w.heap.size 55 i0 (.agg #[.int .i64 0, .int .i64 0]) 2 16 Try.underlying22 hi hz0 hz1 hz2 rfl (by decide) u3 i _ rfl HOD.out ⟨wr.heap.size, 0, none⟩ 1 1 [.int .i64 x.2, .int .i64 x.1] rfl rfl HNW.out (by simp [Value.oneCell']) (by decide) Q1.out Q2.out Q3.out _ rfl ?_; intro gq capq wq hown' hgrow _ _))
      have HO4 := hidI hown'
      have HR4 := hidI hgrow
      clear hown' hgrow
      go_wp2
      go_roundg g
      case measure => omega
      case rel =>
        have f1 : flat ((es.take (i + 1)).map swap) = flat ((es.take i).map swap) ++ [.int .i64 x.2, .int .i64 x.1] := by
          rw [List.take_add_one, HX.out]; simp [flat_append, flat, swap]
        have h5 := HB.out.size
        refine ⟨i + 1, by omega, by go_num, ?_, ?_, ?_⟩
        · rw [f1]; exact HO4.out
        · exact ((HB.out.alloc h5 _).drew).grown HR4.out (by simp; omega) (by intro k hk; have := HO.out.lt k hk; omega)
        · have := HR4.out.size; simp at *; omega
end Go.Proofs.Ytbjoljokdjgbnaa
