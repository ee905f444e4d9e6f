/-
  The places of the edges at a node: what (*Graph).placesAt, Out, In and Degree come to.
-/
import Derived.Test.YtbjoljokdjgbnacAt
import Derived.Maps.AppendAt
import Derived.Lib.SmallJoins
namespace Go.Proofs.Ytbjoljokdjgbnac
open Go.RowKit Go.Shelf
attribute [local go_sem] Oper.semAt_some
theorem hidI {p : Prop} (h : p) : Hid p := h
/-- The value v reads as the numbers zs in the world w. -/
def Sees (w : World) (v : Value) (zs : List Int) : Prop :=
  ∃ (a : Option Addr) (cap : Nat), v = .slice a zs.length cap ∧ (zs = [] ∨ ∃ b off, a = some ⟨b, off, none⟩ ∧ ∀ j, j < zs.length → w.cell? ⟨b, off + j, none⟩ = some (.int .i64 (zs.getD j 0)))
theorem Sees.below {w w' : World} {v : Value} {zs : List Int} {B : Nat} (h : Sees w v zs) (hb : Below B w w') (hB : w.heap.size ≤ B) : Sees w' v zs := by
  obtain ⟨a, cap, rfl, h⟩ := h
  refine ⟨a, cap, rfl, ?_⟩
  rcases h with h | ⟨b, off, rfl, hc⟩
  · exact .inl h
  · exact .inr ⟨b, off, rfl, fun j hj => (hb.cell (p := ⟨b, off + j, none⟩) (Nat.lt_of_lt_of_le (World.block_lt_of_cell? w _ (hc j hj)) hB)).trans (hc j hj)⟩
theorem add_at (g j : Nat) : (⟨g, 0, none⟩ : Addr).add j = ⟨g, j, none⟩ := by unfold Addr.add; split <;> simp_all
theorem sees_of_owns {w : World} {base e : Nat} {v : Value} {zs : List Int} (h : w.ownsRow base e 1 v zs.length (zs.map (Value.int .i64))) : Sees w v zs := by
  rcases Joins.ownsRow_forms h with ⟨rfl, h0⟩ | ⟨g, cap, rfl⟩
  · exact ⟨none, 0, by rw [h0], .inl (List.eq_nil_of_length_eq_zero h0)⟩
  · refine ⟨_, cap, rfl, .inr ⟨g, 0, rfl, fun j hj => ?_⟩⟩
    rw [Nat.zero_add, ← add_at]
    exact World.ownsRow.cells h rfl j _ (by simp [List.getD, hj])
/-- A box that holds a slice of one's own, appended to. -/
theorem box_appended {W w1 : World} {n₀ B : Nat} {t e : TypeId} {size : Nat} {v v' : Value} {k m : Nat} {xs ys : List Value} {tmp : Obj} {T : Nat → Obj → Prop}
    (hv : Boxed W B t v) (hte : t ≠ e) (hrow : W.ownsRow n₀ e size v k xs) (hown' : w1.ownsRow n₀ e size v' m ys) (hgrow : (W.alloc tmp).grownBy w1 v.ownBlock)
    (hT1 : ∀ u, ¬ T B (.cells #[u] t (0, 0))) (hT2 : ∀ k cs u, n₀ ≤ k → ¬ T k (.cells cs e u)) :
    Boxed w1 B t v ∧ Boxed (w1.setCell ⟨B, 0, none⟩ v') B t v' ∧ (w1.setCell ⟨B, 0, none⟩ v').ownsRow n₀ e size v' m ys ∧ KeepsOthers W (w1.setCell ⟨B, 0, none⟩ v') ∧ Keeps T W (w1.setCell ⟨B, 0, none⟩ v') := by
  have hv1 : Boxed w1 B t v := (hv.alloc tmp).kept hgrow (hv.not_row hte hrow)
  refine ⟨hv1, hv1.set v', hown'.kept (grownBy_setCell' w1 B v') (.inr (hv1.not_row hte hown').symm), ?_, ?_⟩
  · refine ((KeepsOthers.alloc W tmp).trans (KeepsOthers.of_grownBy hgrow fun j o ej hj => ?_)).trans (KeepsOthers.setCell _ _ _)
    rcases (hrow.alloc tmp).2 with ⟨rfl, _⟩ | ⟨g, cap, cur, rfl, _, hgb, _⟩
    · simp [Value.ownBlock] at ej
    · obtain rfl : g = j := by simpa [Value.ownBlock] using ej
      rw [hgb] at hj; cases hj; rfl
  · refine ((Keeps.alloc T W tmp).trans (Keeps.grown hgrow fun j o ej hj => ?_)).trans (Keeps.grown (grownBy_setCell' w1 B v') fun j o ej hj => by cases ej; rw [show w1.heap[B]? = _ from hv1] at hj; cases hj; exact hT1 _)
    rcases (hrow.alloc tmp).2 with ⟨rfl, _⟩ | ⟨g, cap, cur, rfl, hb, hgb, _⟩
    · simp [Value.ownBlock] at ej
    · obtain rfl : g = j := by simpa [Value.ownBlock] using ej
      rw [hgb] at hj; cases hj; exact hT2 _ _ _ hb
theorem below_set {n B : Nat} {w W w1 : World} {e : TypeId} {size k : Nat} {v v' : Value} {xs : List Value} {tmp : Obj} {n₀ : Nat} (h : Below n w W) (hn : n ≤ W.heap.size) (hB : n ≤ B) (hn₀ : n ≤ n₀) (hrow : W.ownsRow n₀ e size v k xs) (hgrow : (W.alloc tmp).grownBy w1 v.ownBlock) :
    Below n w (w1.setCell ⟨B, 0, none⟩ v') := by
  refine ((h.alloc hn tmp).grown hgrow (by simp; omega) fun j ej => ?_).setCell (p := ⟨B, 0, none⟩) hB v'
  rcases hrow.2 with ⟨rfl, _⟩ | ⟨g, cap, cur, rfl, hb, _, _⟩
  · simp [Value.ownBlock] at ej
  · obtain rfl : g = j := by simpa [Value.ownBlock] using ej
    omega
theorem ownFrom_size {β : Type} (B n : Nat) : OwnFrom B (fun (_ : β) (W : World) => n ≤ W.heap.size) := fun _ _ _ _ hs hg _ => Nat.le_trans hs hg.size
theorem Try.info3 : (Try.prog.info? 3).map (fun i => (i.zero, i.size, i.bytes)) = some (some (.int .i64 0), 1, 8) := by kernel_rfl
/-- The places of the edges at v. -/
def places (es : Edges) (v : Int) (inn : Bool) : List Int := ((upto es es.length (Nat.le_refl _)).filter (sel v inn)).map (fun x => (x.1.1 : Int))
/-- The slice v, if it lies anywhere, lies from n on. -/
def Fresh (n : Nat) (v : Value) : Prop := ∀ k, v.ownBlock = some k → n ≤ k
set_option maxRecDepth 100000 in
set_option maxHeartbeats 4000000 in
theorem placesAt_new (gp : Option Addr) (v : Int) (inn : Bool) (es : Edges) (hr : es.length ≤ 1000000) (w : World) (hw : Walks w gp es) :
    Calls Try.prog 64 #[.pointer gp, .int .i64 v, .bool inn] w fun e w' => ∃ u, e = .returned u ∧ Sees w' u (places es v inn) ∧ Below w.heap.size w w' ∧ Fresh w.heap.size u := by
  obtain ⟨i0, hi, hz0, hz1, hz2⟩ := info_parts Try.info3
  refine (callsIn_wide (n := 0)).1 ?_
  refine callsIn_of_wp_marks Try.func64 rfl trivial ?_ rfl
  simp only [Try.ntmps64, List.size_toArray, List.length_cons, List.length_nil, Nat.reduceAdd, Nat.reduceSub, Array.replicate_succ, Array.replicate_zero, List.push_toArray, List.append_toArray, List.nil_append, List.cons_append]
  gi_wp2_with (refine ⟨trivial, rfl, ?_⟩; gi_at_call 77; refine (callsIn_wide.2 (at_any _ _ _ _)).mono ?_; rintro e w' ⟨rfl, rfl⟩)
  have bP := (((Boxed.new w 70 (.slice none 0 0)).alloc (.cells #[.pointer gp] 63)).alloc (.cells #[.int .i64 v] 3)).alloc (.cells #[.bool inn] 4)
  have bG := ((Boxed.new (w.alloc (.cells #[.slice none 0 0] 70)) 63 (.pointer gp)).alloc (.cells #[.int .i64 v] 3)).alloc (.cells #[.bool inn] 4)
  have bV := (Boxed.new ((w.alloc (.cells #[.slice none 0 0] 70)).alloc (.cells #[.pointer gp] 63)) 3 (.int .i64 v)).alloc (.cells #[.bool inn] 4)
  have bI := Boxed.new (((w.alloc (.cells #[.slice none 0 0] 70)).alloc (.cells #[.pointer gp] 63)).alloc (.cells #[.int .i64 v] 3)) 4 (.bool inn)
  simp only [World.size_alloc] at bG bV bI
  have hB0 : Below w.heap.size w ((((w.alloc (.cells #[.slice none 0 0] 70)).alloc (.cells #[.pointer gp] 63)).alloc (.cells #[.int .i64 v] 3)).alloc (.cells #[.bool inn] 4)) := ((((Below.refl _ w).alloc (Nat.le_refl _) _).alloc (by simp) _).alloc (by simp; omega) _).alloc (by simp; omega) _
  have hsz : ((((w.alloc (.cells #[.slice none 0 0] 70)).alloc (.cells #[.pointer gp] 63)).alloc (.cells #[.int .i64 v] 3)).alloc (.cells #[.bool inn] 4)).heap.size = w.heap.size + 4 := by simp
  obtain ⟨W0, hW0⟩ : ∃ W0, (((w.alloc (.cells #[.slice none 0 0] 70)).alloc (.cells #[.pointer gp] 63)).alloc (.cells #[.int .i64 v] 3)).alloc (.cells #[.bool inn] 4) = W0 := ⟨_, rfl⟩
  rw [hW0] at bP bG bV bI hB0 hsz ⊢
  clear hW0
  refine range_law (gf := 88) (lb := #[.pointer (some ⟨w.heap.size + 1, 0, none⟩), .pointer (some ⟨w.heap.size + 1 + 1 + 1, 0, none⟩), .pointer (some ⟨w.heap.size + 1 + 1, 0, none⟩)]) rfl (enters_of Try.func88 (by kernel_rfl) rfl)
    (T := fun k o => (k < w.heap.size + 4 ∧ k ≠ w.heap.size) ∨ ∃ u, o = .cells #[u] 121 (0, 0)) (fun k _ hk ht => by rcases ht with ht | ⟨_, ht⟩; exact absurd ht.1 (by omega); cases ht)
    (at1_in (w.heap.size + 1) (w.heap.size + 1 + 1 + 1) (w.heap.size + 1 + 1) w.heap.size _ (fun k o hk => .inl ⟨by omega, by omega⟩) (fun o => .inl ⟨by omega, by omega⟩) (fun o => .inl ⟨by omega, by omega⟩) (fun k u => .inr ⟨u, rfl⟩) gp v inn es hr w W0 hw (Nat.le_refl _) (by omega) hB0 bG.cell bI.cell bV.cell) (fun _ => rfl)
    (fun pre W => (∃ u, Boxed W w.heap.size 70 u ∧ W.ownsRow (w.heap.size + 4) 3 1 u pre.length (pre.map fun x => Value.int .i64 (x.1.1 : Int)) ∧ True) ∧ (Below w.heap.size w W ∧ w.heap.size + 4 ≤ W.heap.size))
    (fun _ _ => False)
    (OwnFrom.and (Own.from (holdsRow_own (w.heap.size + 4) w.heap.size 70 3 1 (fun pre : List (At es) => pre.length) (fun pre => pre.map fun x => Value.int .i64 (x.1.1 : Int)) (fun _ _ => True)) _) (OwnFrom.and (ownFrom_below (Nat.le_refl _) (by omega)) (ownFrom_size _ _)))
    (fun _ _ _ _ hs _ _ => hs)
    ⟨⟨_, bP, World.ownsRow_nil _ _ _ _, trivial⟩, hB0, by omega⟩
    (fun s W => ((∃ u, Boxed W w.heap.size 70 u ∧ W.ownsRow (w.heap.size + 4) 3 1 u s.1.length (s.1.map fun x => Value.int .i64 (x.1.1 : Int)) ∧ True) ∧ (Below w.heap.size w W ∧ w.heap.size + 4 ≤ W.heap.size)) ∧ s.2.2 = { tmps := #[.pointer gp, .int .i64 v, .bool inn, undef, undef, undef, .slice none 0 0, .pointer (some ⟨w.heap.size, 0, none⟩), .int .i64 (s.2.1.1.1 : Int), .pointer gp, .int .i64 v, .bool inn, .func (.func 88) #[] #[.pointer (some ⟨w.heap.size + 1, 0, none⟩), .pointer (some ⟨w.heap.size + 1 + 2, 0, none⟩), .pointer (some ⟨w.heap.size + 1 + 1, 0, none⟩)], .int .i64 (s.2.1.1.1 : Int), .agg #[.int .i64 s.2.1.1.2.1, .int .i64 s.2.1.1.2.2], undef, undef, undef, undef, undef], defers := [] })
    (OwnFrom.and (OwnFrom.and (Own.from (holdsRow_own (w.heap.size + 4) w.heap.size 70 3 1 (fun s : List (At es) × At es × Act => s.1.length) (fun s => s.1.map fun x => Value.int .i64 (x.1.1 : Int)) (fun _ _ => True)) _) (OwnFrom.and (ownFrom_below (Nat.le_refl _) (by omega)) (ownFrom_size _ _))) (ownFrom_pure _ _))
    ?assign ?body ?done ?stop
  case assign =>
    rintro l pre x W K hi hK
    dsimp only [encA]
    gi_wp2
    exact hK _ _ (KeepsFrom.refl _ _) (Keeps.refl _ _) ⟨hi, rfl⟩
  case body =>
    rintro l pre x a' W hlen ⟨⟨⟨u, hv, hrow, -⟩, hB, hle⟩, ha⟩
    dsimp only at ha hrow hlen
    subst ha
    have hc := hv.cell
    have hf := hv.frozen
    have hT1 : ∀ u : Value, ¬ ((w.heap.size < w.heap.size + 4 ∧ w.heap.size ≠ w.heap.size) ∨ ∃ u', Obj.cells #[u] 70 (0, 0) = .cells #[u'] 121 (0, 0)) := by
      rintro u (ht | ⟨_, ht⟩)
      · exact ht.2 rfl
      · cases ht
    have hT2 : ∀ (k : Nat) (cs : Array Value) (u : Nat × Nat), w.heap.size + 4 ≤ k → ¬ ((k < w.heap.size + 4 ∧ k ≠ w.heap.size) ∨ ∃ u', Obj.cells cs 3 u = .cells #[u'] 121 (0, 0)) := by
      rintro k cs u hk (ht | ⟨_, ht⟩)
      · exact absurd ht.1 (by omega)
      · cases ht
    have hm : pre.length + 1 ≤ 1000000 := by omega
    gi_wp2_with (gi_at_builtin; refine wpListIn_append_own _ rfl _ _ 70 rfl (w.heap.size + 4) 3 i0 (.int .i64 0) 1 8 Try.underlying70 hi hz0 hz1 hz2 rfl (by decide) _ _ _ rfl (hrow.alloc _) ⟨W.heap.size, 0, none⟩ 1 1 [.int .i64 (x.1.1 : Int)] rfl rfl (cell_one_new _ _ _) (by simp [Value.oneCell']) (by unfold maxLen; omega) (by omega) (by simp; omega) ?_; intro v' w1 hown' hgrow _; obtain ⟨g', cap', rfl⟩ := ownsRow_succ hown'; obtain ⟨hv1, hv2, hr2, hk2, hb2⟩ := box_appended hv (by decide) hrow hown' hgrow (T := fun k o => (k < w.heap.size + 4 ∧ k ≠ w.heap.size) ∨ ∃ u, o = .cells #[u] 121 (0, 0)) hT1 hT2; have hc1 := hv1.cell; have hf1 := hv1.frozen; have hbl := below_set (v' := Value.slice (some ⟨g', 0, none⟩) (pre.length + 1) cap') hB hB.size (Nat.le_refl _) (by omega) hrow hgrow)
    refine ⟨hk2.from _, hb2, ⟨_, hv2, ?_, trivial⟩, hbl, by have := hk2.size; omega⟩
    simpa using hr2
  case done =>
    rintro D xs W hD rfl ⟨⟨u, hv, hrow, -⟩, hB, hle⟩ hK
    have hc := hv.cell
    gi_wp2
    have hS : Sees (W.putObj D (.deferred none)) u (places es v inn) := by
      refine sees_of_owns (base := w.heap.size + 4) (e := 3) (ownsRow_putObj ?_ _ hK rfl)
      have e1 : (places es v inn).length = (List.filter (sel v inn) (upto es es.length (Nat.le_refl _))).length := by simp [places]
      have e2 : (places es v inn).map (Value.int .i64) = List.map (fun x => Value.int .i64 (x.1.1 : Int)) (List.filter (sel v inn) (upto es es.length (Nat.le_refl _))) := by simp [places]
      rw [e1, e2]; exact hrow
    refine ⟨by simp, .inl ⟨_, _, rfl, run_takeDeferred hK, ?_⟩⟩
    exact ⟨_, results_tmp rfl _ _ _, u, rfl, hS, hB.trans (belowK_b (w := w) (Nat.le_refl _) W D _ _ (by omega) hK rfl rfl), fun k hk => by have := (hrow.lt k hk).1; omega⟩
  case stop =>
    rintro D pre W hD h
    exact h.elim
theorem placesAt_any (gp : Option Addr) (v : Int) (inn : Bool) (es : Edges) (hr : es.length ≤ 1000000) (w : World) (hw : Walks w gp es) :
    Calls Try.prog 64 #[.pointer gp, .int .i64 v, .bool inn] w fun e w' => ∃ u, e = .returned u ∧ Sees w' u (places es v inn) ∧ Below w.heap.size w w' :=
  (placesAt_new gp v inn es hr w hw).mono fun _ _ ⟨u, h1, h2, h3, _⟩ => ⟨u, h1, h2, h3⟩
theorem out_new (gp : Option Addr) (v : Int) (es : Edges) (hr : es.length ≤ 1000000) (w : World) (hw : Walks w gp es) :
    Calls Try.prog 31 #[.pointer gp, .int .i64 v] w fun e w' => ∃ u, e = .returned u ∧ Sees w' u (places es v false) ∧ Below w.heap.size w w' ∧ Fresh w.heap.size u := by
  have C : Hid _ := placesAt_new gp v false es hr w hw
  clear hw
  go_enter Try.func31, Try.ntmps31
  go_wp2_with (go_at_call 64; refine Calls.mono C.out ?_; rintro e w1 ⟨u, rfl, hs, hb, hf⟩; refine Hid.out ?_)
  refine hidI ?_
  have hs' : Hid _ := hs
  have hb' : Hid _ := hb
  have hf' := hidI hf
  clear hs hb hf
  go_wp2
  go_ret
  exact ⟨_, rfl, hs'.out, hb'.out, hf'.out⟩
theorem out_any (gp : Option Addr) (v : Int) (es : Edges) (hr : es.length ≤ 1000000) (w : World) (hw : Walks w gp es) :
    Calls Try.prog 31 #[.pointer gp, .int .i64 v] w fun e w' => ∃ u, e = .returned u ∧ Sees w' u (places es v false) ∧ Below w.heap.size w w' :=
  (out_new gp v es hr w hw).mono fun _ _ ⟨u, h1, h2, h3, _⟩ => ⟨u, h1, h2, h3⟩
end Go.Proofs.Ytbjoljokdjgbnac
