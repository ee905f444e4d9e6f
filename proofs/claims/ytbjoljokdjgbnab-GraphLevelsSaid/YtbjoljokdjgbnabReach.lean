/-
  Which nodes ways lead to: what Reaches comes to.
-/
import Derived.Test.YtbjoljokdjgbnabRowsAt
import Derived.Test.YtbjoljokdjgbnabWide
namespace Go.Proofs.Ytbjoljokdjgbnab
open Go.RowKit Go.MapKept Go.Shelf Go.Deep
attribute [local go_sem] Oper.semAt_some
theorem make38 (c : Nat) (hc : c ≤ 1000) (W : World) : (Instr.makeSlice 30 (.int .i64 (c : Int)) (.int .i64 (c : Int))).run Try.prog W = .ok (.slice (some ⟨W.heap.size, 0, none⟩) c c) (W.alloc (.cells (madeCells #[.slice none 0 0] c) 35)) := by
  obtain ⟨i0, hi, hz0, hz1, hz2⟩ := info_parts Try.info35
  have := run_make (P := Try.prog) W 30 35 i0 (.slice none 0 0) Try.underlying30 hi hz0 .i64 .i64 (c : Int) (c : Int) (by omega) (by omega) (by rw [hz2]; omega) (by omega)
  rw [hz1] at this
  simp only [Int.toNat_natCast, Nat.mul_one] at this
  exact this
/-- Block b is a row of slices. -/
def VRow (W : World) (b : Nat) (vs : List Value) : Prop := W.heap[b]? = some (.cells vs.toArray 35 (0, 0))
theorem VRow.lt {W : World} {b : Nat} {vs : List Value} (h : VRow W b vs) : b < W.heap.size := (Array.getElem?_eq_some_iff.1 h).1
theorem VRow.cell {W : World} {b : Nat} {vs : List Value} (h : VRow W b vs) {j : Nat} {v : Value} (hj : vs[j]? = some v) : W.cell? ⟨b, j, none⟩ = some v := by
  rw [cell_of_row W b j _ 35 (0, 0) h]; simpa using hj
theorem VRow.frozen {W : World} {b : Nat} {vs : List Value} (h : VRow W b vs) (j : Nat) : W.frozen? ⟨b, j, none⟩ = false := by
  simp [World.frozen?, show W.heap[b]? = _ from h]
theorem VRow.kept {W W' : World} {row : Option Nat} {b : Nat} {vs : List Value} (h : VRow W b vs) (hg : W.grownBy W' row) (hne : some b ≠ row) : VRow W' b vs := (hg.block b h.lt hne).trans h
theorem VRow.set {W : World} {b : Nat} {vs : List Value} (h : VRow W b vs) (j : Nat) (v : Value) : VRow (W.setCell ⟨b, j, none⟩ v) b (vs.set j v) := by
  obtain ⟨hlt, hk⟩ := Array.getElem?_eq_some_iff.1 h
  show (W.heap.modify b _)[b]? = _
  rw [Array.getElem?_eq_getElem (by rw [Array.size_modify]; exact hlt), Array.getElem_modify_self, hk]
  simp
theorem made_vrow (w : World) (N : Nat) : VRow (w.alloc (.cells (madeCells #[.slice none 0 0] N) 35)) w.heap.size (List.replicate N (.slice none 0 0)) := by
  have := World.alloc_heap_new w (.cells (madeCells #[.slice none 0 0] N) 35)
  unfold VRow
  rw [this, made_cells]
theorem reaches_nil (w : World) : Calls Try.prog 14 #[.pointer none] w fun e w' => e = .returned (.slice none 0 0) ∧ Below w.heap.size w w' := by
  go_enter Try.func14, Try.ntmps14
  go_wp2
  go_ret
  exact ⟨rfl, (Below.refl _ w).alloc (Nat.le_refl _) _⟩
/-- Whether a way leads there from the end of one of the edges. -/
def accum (N : Nat) (es : Edges) (pre : List (At es)) (t : Nat) : Bool := pre.any fun x => decide (0 ≤ (levels N es x.1.2.2).getD t 0)
theorem grown_own {W X Y : World} {b : Nat} {row : Option Nat} (h : W.grownBy X (some b)) (hg : X.grownBy Y row) (hr : ∀ r, row = some r → W.heap.size ≤ r) : W.grownBy Y (some b) :=
  ⟨hg.1.trans h.1, hg.2.trans h.2, hg.3.trans h.3, Nat.le_trans h.4 hg.4, fun k hk hne => (hg.block k (Nat.lt_of_lt_of_le hk h.size) fun e => by have := hr k e.symm; omega).trans (h.block k hk hne)⟩
/-- The slices of the rows that are there, and nil ones. -/
def vrows (N : Nat) (gs : Nat → Nat) (k : Nat) : List Value := rowsAt N gs k ++ List.replicate (N - k) (.slice none 0 0)
theorem upto_edges (es : Edges) : (upto es es.length (Nat.le_refl _)).map (·.1.2) = es := by
  have : ∀ (k : Nat) (h : k ≤ es.length), (upto es k h).map (·.1.2) = es.take k := by
    intro k
    induction k with
    | zero => intro _; simp [upto]
    | succ k ih =>
      intro h
      rw [upto, List.map_append, ih (by omega), List.take_succ_eq_append_getElem (by omega)]
      rfl
  rw [this, List.take_length]
theorem brow_put {N t : Nat} {S : Nat → Bool} {b : Bool} : (brow N S).set t b = brow N (fun u => if u = t then b else S u) := by
  apply List.ext_getElem
  · simp [brow]
  · intro i h1 h2
    simp only [brow, List.getElem_set, List.getElem_map, List.getElem_range]
    by_cases e : t = i
    · subst e; simp
    · have : ¬ i = t := fun h => e h.symm
      simp [e, this]
theorem vrows_succ {N j r : Nat} {gs : Nat → Nat} (h : j < N) : vrows N (fun i => if i = j then r else gs i) (j + 1) = (vrows N gs j).set j (.slice (some ⟨r, 0, none⟩) N N) := by
  have hl : (rowsAt N gs j).length = j := by simp [rowsAt]
  unfold vrows
  rw [rowsAt_succ, List.set_append_right _ _ (by rw [hl]; exact Nat.le_refl _), hl, Nat.sub_self]
  obtain ⟨d, hd⟩ : ∃ d, N - j = d + 1 := ⟨N - j - 1, by omega⟩
  rw [hd, show N - (j + 1) = d by omega, List.replicate_succ, List.set_cons_zero, List.append_assoc]
  rfl
theorem accum_reach (N : Nat) (es : Edges) (j t : Nat) : accum N es ((upto es es.length (Nat.le_refl _)).filter (sel (j : Int) false)) t = reach N es j t := by
  unfold accum reach
  rw [List.any_filter]
  have h := upto_edges es
  have : es.any (fun x => decide (x.1 = (j : Int)) && decide (0 ≤ (levels N es x.2).getD t 0)) = ((upto es es.length (Nat.le_refl _)).map (·.1.2)).any (fun x => decide (x.1 = (j : Int)) && decide (0 ≤ (levels N es x.2).getD t 0)) := by rw [h]
  rw [this, List.any_map]
  rfl
set_option maxRecDepth 100000 in
set_option maxHeartbeats 8000000 in
theorem reaches_walk (gb N : Nat) (es : Edges) (w : World) (hg : IsG w (some ⟨gb, 0, none⟩) (N : Int) es) :
    Calls Try.prog 14 #[.pointer (some ⟨gb, 0, none⟩)] w fun e w' => ∃ u, e = .returned u ∧ SeesM w' u N (reach N es) ∧ Below w.heap.size w w' := by
  have HG := hidI hg
  have hwk := hg.walks
  have hsh := hg.short
  rcases hg with ⟨h, _⟩ | ⟨gb', v, mb, base, e, h1, h2, h3, hgd, c0, c1, hse, c2, hm⟩
  · cases h
  obtain rfl : gb = gb' := by simpa using e
  have hgl := World.block_lt_of_cell? w _ c0
  dsimp only at hgl
  have hN : N ≤ 12 := by omega
  have hmk := make38 N (by omega)
  clear hm c2 hse
  refine (callsIn_wide (n := 0)).1 ?_
  refine callsIn_of_wp_marks Try.func14 rfl trivial ?_ rfl
  simp only [Try.ntmps14, List.size_toArray, List.length_cons, List.length_nil, Nat.reduceAdd, Nat.reduceSub, Array.replicate_succ, Array.replicate_zero, List.push_toArray, List.append_toArray, List.nil_append, List.cons_append]
  gi_wp2
  have r0 := made_vrow (w.alloc (.cells #[.pointer (some ⟨gb, 0, none⟩)] 24)) N
  rw [World.size_alloc] at r0
  have x0 := ((Boxed.new w 24 (.pointer (some ⟨gb, 0, none⟩))).alloc (.cells (madeCells #[.slice none 0 0] N) 35)).alloc (.cells #[.slice (some ⟨w.heap.size + 1, 0, none⟩) N N] 30)
  have y0 := Boxed.new ((w.alloc (.cells #[.pointer (some ⟨gb, 0, none⟩)] 24)).alloc (.cells (madeCells #[.slice none 0 0] N) 35)) 30 (.slice (some ⟨w.heap.size + 1, 0, none⟩) N N)
  rw [World.size_alloc, World.size_alloc] at y0
  have r1 := r0.kept (World.grownBy_alloc _ (.cells #[.slice (some ⟨w.heap.size + 1, 0, none⟩) N N] 30) none) (by simp)
  have hB0 : Below w.heap.size w (((w.alloc (.cells #[.pointer (some ⟨gb, 0, none⟩)] 24)).alloc (.cells (madeCells #[.slice none 0 0] N) 35)).alloc (.cells #[.slice (some ⟨w.heap.size + 1, 0, none⟩) N N] 30)) := (((Below.refl _ w).alloc (Nat.le_refl _) _).alloc (by simp) _).alloc (by simp; omega) _
  have hsz : (((w.alloc (.cells #[.pointer (some ⟨gb, 0, none⟩)] 24)).alloc (.cells (madeCells #[.slice none 0 0] N) 35)).alloc (.cells #[.slice (some ⟨w.heap.size + 1, 0, none⟩) N N] 30)).heap.size = w.heap.size + 3 := by simp
  obtain ⟨W0, hW0⟩ : ∃ W0, ((w.alloc (.cells #[.pointer (some ⟨gb, 0, none⟩)] 24)).alloc (.cells (madeCells #[.slice none 0 0] N) 35)).alloc (.cells #[.slice (some ⟨w.heap.size + 1, 0, none⟩) N N] 30) = W0 := ⟨_, rfl⟩
  rw [hW0] at x0 y0 r1 hB0 hsz ⊢
  clear hW0 hmk r0
  refine wpIn_loop_ghost_k (fun g a W => ∃ (j : Nat) (gs : Nat → Nat) (u4 u19 u20 u21 u22 u23 u24 u25 u26 u27 u28 u29 u30 u31 u62 : Value) (Ds : List Nat), j + g = N ∧ a = { tmps := #[.pointer (some ⟨gb, 0, none⟩), .pointer (some ⟨w.heap.size, 0, none⟩), .slice none 0 0, .pointer (some ⟨w.heap.size + 1 + 1, 0, none⟩), u4, undef, undef, undef, undef, .pointer (some ⟨gb, 0, none⟩), .bool false, .pointer (some ⟨gb, 0, none⟩), .pointer (some ⟨gb, 0, none⟩), .pointer (some ⟨gb, 0, none⟩), .int .i64 (N : Int), .slice (some ⟨w.heap.size + 1, 0, none⟩) N N, .slice (some ⟨w.heap.size + 1, 0, none⟩) N N, .int .i64 (N : Int), .int .i64 (j : Int), u19, u20, u21, u22, u23, u24, u25, u26, u27, u28, u29, u30, u31, undef, undef, undef, undef, undef, undef, undef, undef, undef, undef, undef, undef, undef, undef, undef, undef, undef, undef, undef, undef, undef, undef, undef, undef, undef, undef, undef, undef, undef, undef, u62, undef], defers := marks Ds } ∧
      VRow W (w.heap.size + 1) (vrows N gs j) ∧ (∀ i, i < j → BRow W (gs i) (brow N (reach N es i)) ∧ w.heap.size + 3 ≤ gs i) ∧ (∀ i k, i < j → k < j → gs i = gs k → i = k) ∧ Boxed W w.heap.size 24 (.pointer (some ⟨gb, 0, none⟩)) ∧ Boxed W (w.heap.size + 1 + 1) 30 (.slice (some ⟨w.heap.size + 1, 0, none⟩) N N) ∧ Below w.heap.size w W ∧ Ds.Nodup ∧ ∀ D ∈ Ds, w.heap.size + 3 ≤ D ∧ W.heap[D]? = some (.deferred (some []))) N
    ⟨0, fun _ => 0, undef, undef, undef, undef, undef, undef, undef, undef, undef, undef, undef, undef, undef, undef, undef, [], by omega, rfl, by simpa [vrows, rowsAt] using r1, fun i hi => absurd hi (by omega), fun i k hi => absurd hi (by omega), x0, y0, hB0, by simp, by simp⟩ ?_
  rintro g a W ⟨j, gs, u4, u19, u20, u21, u22, u23, u24, u25, u26, u27, u28, u29, u30, u31, u62, Ds, hjg, rfl, hvr, hrows, hinj, hbg, hbr, hbel, hnd, hds⟩ J K hJ hK
  have hJ' := hidI hJ
  have hK' := hidI hK
  have hds' := hidI hds
  have HRS := hidI hrows
  have HIJ := hidI hinj
  clear hJ hK hds hrows hinj x0 y0 r1
  have cbg := hbg.cell
  have cbr := hbr.cell
  have hW3 : w.heap.size + 3 ≤ W.heap.size := by have := hbr.lt; omega
  by_cases hjk : j < N
  · have cN : W.cell? ⟨gb, 0, none⟩ = some (.int .i64 (N : Int)) := (hbel.cell (p := ⟨gb, 0, none⟩) hgl).trans c0
    gi_wp2
    -- region 7
    have z0 := Boxed.new W 3 (.int .i64 (j : Int))
    have z1 := hbg.alloc (.cells #[.int .i64 (j : Int)] 3)
    have z2 := hbr.alloc (.cells #[.int .i64 (j : Int)] 3)
    have z3 := cell_al (.cells #[.int .i64 (j : Int)] 3) cN
    have z4 := hvr.kept (World.grownBy_alloc W (.cells #[.int .i64 (j : Int)] 3) none) (by simp)
    have z5 := World.grownBy_alloc W (.cells #[.int .i64 (j : Int)] 3) none
    have z6 : (W.alloc (.cells #[.int .i64 (j : Int)] 3)).heap.size = W.heap.size + 1 := by simp
    obtain ⟨S, hS⟩ : ∃ S : World → Prop, S = fun w' => w'.cell? ⟨w.heap.size + 1 + 1, 0, none⟩ = some (.slice (some ⟨w.heap.size + 1, 0, none⟩) N N) ∧ w'.cell? ⟨W.heap.size, 0, none⟩ = some (.int .i64 (j : Int)) ∧ w'.cell? ⟨w.heap.size, 0, none⟩ = some (.pointer (some ⟨gb, 0, none⟩)) ∧ w'.cell? ⟨gb, 0, none⟩ = some (.int .i64 (N : Int)) := ⟨_, rfl⟩
    refine wide_held S ?_
    have mk := make69 N (by omega)
    obtain ⟨W1, hW1⟩ : ∃ W1, (W.alloc (.cells #[.int .i64 (j : Int)] 3)).drew = W1 := ⟨_, rfl⟩
    rw [hW1]
    have y0 : Boxed W1 W.heap.size 3 (.int .i64 (j : Int)) := by rw [← hW1]; exact z0
    have y1 : Boxed W1 w.heap.size 24 (.pointer (some ⟨gb, 0, none⟩)) := by rw [← hW1]; exact z1
    have y2 : Boxed W1 (w.heap.size + 1 + 1) 30 (.slice (some ⟨w.heap.size + 1, 0, none⟩) N N) := by rw [← hW1]; exact z2
    have y3 : W1.cell? ⟨gb, 0, none⟩ = some (.int .i64 (N : Int)) := by rw [← hW1]; exact z3
    have y4 : VRow W1 (w.heap.size + 1) (vrows N gs j) := by rw [← hW1]; exact z4
    have y5 : W.grownBy W1 none := by rw [← hW1]; exact ⟨z5.1, z5.2, z5.3, z5.4, z5.5⟩
    have y6 : W1.heap.size = W.heap.size + 1 := by rw [← hW1]; exact z6
    clear hW1 z0 z1 z2 z3 z4 z5 z6
    have S1 : S W1 := by rw [hS]; exact ⟨y2.cell, y0.cell, y1.cell, y3⟩
    refine wpAnyH_take (i := 0) (v := .slice (some ⟨w.heap.size + 1, 0, none⟩) N N) rfl (by kernel_rfl) (by kernel_rfl) (by kernel_rfl) (fun _ _ _ h => h) (.inl ⟨by rfl, fun u hu => ?_⟩) S1 ?_
    · rw [hS] at hu; obtain ⟨q0, q1, q2, q3⟩ := hu; go_simp
    refine wpAnyH_take (i := 1) (v := .int .i64 (j : Int)) rfl (by kernel_rfl) (by kernel_rfl) (by kernel_rfl) (fun _ _ _ h => h) (.inl ⟨by rfl, fun u hu => ?_⟩) S1 ?_
    · rw [hS] at hu; obtain ⟨q0, q1, q2, q3⟩ := hu; go_simp
    refine wpAnyH_take (i := 2) (v := .pointer (some ⟨gb, 0, none⟩)) rfl (by kernel_rfl) (by kernel_rfl) (by kernel_rfl) (fun _ _ _ h => h) (.inl ⟨by rfl, fun u hu => ?_⟩) S1 ?_
    · rw [hS] at hu; obtain ⟨q0, q1, q2, q3⟩ := hu; go_simp
    refine wpAnyH_take (i := 3) (v := .pointer (some ⟨gb, 0, none⟩)) rfl (by kernel_rfl) (by kernel_rfl) (by kernel_rfl) (fun _ _ _ h => h) (.inl ⟨by rfl, fun u hu => ?_⟩) S1 ?_
    · go_simp
    refine wpAnyH_take (i := 4) (v := .pointer (some ⟨gb, 0, none⟩)) rfl (by kernel_rfl) (by kernel_rfl) (by kernel_rfl) (fun _ _ _ h => h) (.inl ⟨by rfl, fun u hu => ?_⟩) S1 ?_
    · go_simp
    refine wpAnyH_take (i := 5) (v := .int .i64 (N : Int)) rfl (by kernel_rfl) (by kernel_rfl) (by kernel_rfl) (fun _ _ _ h => h) (.inl ⟨by rfl, fun u hu => ?_⟩) S1 ?_
    · rw [hS] at hu; obtain ⟨q0, q1, q2, q3⟩ := hu; go_simp
    refine wpAnyH_all (rs := [6]) (by kernel_rfl) (by simp) fun ii hi6 => ?_
    obtain rfl : ii = 6 := by simpa using hi6
    refine wpOp_step rfl fun K1 hK1 => ?_
    rw [if_pos (by rfl)]
    unfold Oper.wp
    go_simp
    have v1 := made_brow W1 N
    have v2 := World.grownBy_alloc W1 (.cells (madeCells #[.bool false] N) 4) none
    have v3 : (W1.alloc (.cells (madeCells #[.bool false] N) 4)).heap.size = W.heap.size + 2 := by simp [y6]
    have S2 : S (W1.alloc (.cells (madeCells #[.bool false] N) 4)) := by rw [hS]; exact ⟨cell_al _ y2.cell, cell_al _ y0.cell, cell_al _ y1.cell, cell_al _ y3⟩
    have y4' := y4.kept v2 (by simp)
    rw [y6] at v1
    refine hK1 _ _ ⟨S2, ?_⟩
    clear hK1 K1
    obtain ⟨W1', hW1'⟩ : ∃ W1', W1.alloc (.cells (madeCells #[.bool false] N) 4) = W1' := ⟨_, rfl⟩
    rw [hW1'] at v1 v2 v3 S2 y4' ⊢
    clear hW1'
    refine wpAnyH_take (i := 7) (v := .pointer (some ⟨w.heap.size + 1, j, none⟩)) rfl (by kernel_rfl) (by kernel_rfl) (by kernel_rfl) (fun _ _ _ h => h) (.inl ⟨by rfl, fun u hu => ?_⟩) S2 ?_
    · go_simp
    refine wpAnyH_all (rs := [8]) (by kernel_rfl) (by simp) fun ii hi8 => ?_
    obtain rfl : ii = 8 := by simpa using hi8
    refine wpOp_step rfl fun K1 hK1 => ?_
    rw [if_pos (by rfl)]
    have f0 : (vrows N gs j)[j]? = some (.slice none 0 0) := by
      have hl : (rowsAt N gs j).length = j := by simp [rowsAt]
      unfold vrows
      rw [List.getElem?_append_right (by rw [hl]; exact Nat.le_refl _), hl, Nat.sub_self, List.getElem?_replicate, if_pos (by omega)]
    have f1 := y4'.cell f0
    have f2 := y4'.frozen j
    unfold Oper.wp
    go_simp
    have g1 := grownBy_set W1' (w.heap.size + 1) j (.slice (some ⟨W.heap.size + 1, 0, none⟩) N N)
    have y7 := y4'.set j (.slice (some ⟨W.heap.size + 1, 0, none⟩) N N)
    obtain ⟨W2, hW2⟩ : ∃ W2, W1'.setCell ⟨w.heap.size + 1, j, none⟩ (.slice (some ⟨W.heap.size + 1, 0, none⟩) N N) = W2 := ⟨_, rfl⟩
    have sW0 : (W1'.setCell ⟨w.heap.size + 1, j, none⟩ (.slice (some ⟨W.heap.size + 1, 0, none⟩) N N)).heap.size = W1'.heap.size := by simp [World.setCell]
    rw [hW2] at g1 y7 sW0 ⊢
    clear hW2
    have gW : W.grownBy W2 (some (w.heap.size + 1)) := gtrans (gtrans (row := some (w.heap.size + 1)) ⟨y5.1, y5.2, y5.3, y5.4, fun k hk _ => y5.5 k hk (by simp)⟩ ⟨v2.1, v2.2, v2.3, v2.4, fun k hk _ => v2.5 k hk (by simp)⟩) g1
    have v4 := v1.kept g1 (by simp; omega)
    have sW2 : W2.heap.size = W.heap.size + 2 := by omega
    have S3 : S W2 := by
      rw [hS] at S2 ⊢
      exact ⟨kept_cell g1 S2.1 (by simp), kept_cell g1 S2.2.1 (by simp; omega), kept_cell g1 S2.2.2.1 (by simp), kept_cell g1 S2.2.2.2 (by simp; omega)⟩
    refine hK1 _ _ ⟨S3, ?_⟩
    rw [hS] at S3
    obtain ⟨t1, t2, t3, t4⟩ := S3
    have SW2 := hidI sW2
    clear hK1 K1 f0 f1 f2 S2 S1 sW2 sW0 v3 y6
    refine wpAnyH_done (by kernel_rfl) ?_ _
    simp only [Goes]
    gi_wp2_with (refine ⟨trivial, rfl, ?_⟩; gi_at_call 39; refine (callsIn_wide.2 (at_any _ _ _ _)).mono ?_; rintro e w' ⟨rfl, rfl⟩)
    have q0 := ((Boxed.new W2 24 (.pointer (some ⟨gb, 0, none⟩))).alloc (.cells #[.int .i64 (j : Int)] 3)).alloc (.cells #[.bool false] 4)
    have q1 := (Boxed.new (W2.alloc (.cells #[.pointer (some ⟨gb, 0, none⟩)] 24)) 3 (.int .i64 (j : Int))).alloc (.cells #[.bool false] 4)
    have q2 := Boxed.new ((W2.alloc (.cells #[.pointer (some ⟨gb, 0, none⟩)] 24)).alloc (.cells #[.int .i64 (j : Int)] 3)) 4 (.bool false)
    rw [World.size_alloc] at q1
    rw [World.size_alloc, World.size_alloc] at q2
    have q3 : W2.grownBy (((W2.alloc (.cells #[.pointer (some ⟨gb, 0, none⟩)] 24)).alloc (.cells #[.int .i64 (j : Int)] 3)).alloc (.cells #[.bool false] 4)) none := gtrans (gtrans (World.grownBy_alloc _ _ none) (World.grownBy_alloc _ _ none)) (World.grownBy_alloc _ _ none)
    have q4 : (((W2.alloc (.cells #[.pointer (some ⟨gb, 0, none⟩)] 24)).alloc (.cells #[.int .i64 (j : Int)] 3)).alloc (.cells #[.bool false] 4)).heap.size = W2.heap.size + 3 := by simp
    obtain ⟨W3, hW3e⟩ : ∃ W3, ((W2.alloc (.cells #[.pointer (some ⟨gb, 0, none⟩)] 24)).alloc (.cells #[.int .i64 (j : Int)] 3)).alloc (.cells #[.bool false] 4) = W3 := ⟨_, rfl⟩
    rw [hW3e] at q0 q1 q2 q3 q4 ⊢
    clear hW3e
    have gW3 : W.grownBy W3 (some (w.heap.size + 1)) := gtrans gW ⟨q3.1, q3.2, q3.3, q3.4, fun k hk _ => q3.5 k hk (by simp)⟩
    have hb3 : Below w.heap.size w W3 := hbel.grown gW3 (by omega) (fun k e => by cases e; omega)
    have hsW : W.heap.size + 2 ≤ W2.heap.size := by have := SW2.out; omega
    have hs3 : W2.heap.size + 3 ≤ W3.heap.size := by omega
    clear q4
    have r3 : BRow W3 (W.heap.size + 1) (brow N (fun _ => false)) := v4.kept q3 (by simp)
    have v5 : VRow W3 (w.heap.size + 1) ((vrows N gs j).set j (.slice (some ⟨W.heap.size + 1, 0, none⟩) N N)) := y7.kept q3 (by simp)
    have d1 : W3.cell? ⟨w.heap.size + 1 + 1, 0, none⟩ = some (.slice (some ⟨w.heap.size + 1, 0, none⟩) N N) := kept_cell q3 t1 (by simp)
    have d2 : W3.cell? ⟨W.heap.size, 0, none⟩ = some (.int .i64 (j : Int)) := kept_cell q3 t2 (by simp)
    have d3 : W3.cell? ⟨w.heap.size, 0, none⟩ = some (.pointer (some ⟨gb, 0, none⟩)) := kept_cell q3 t3 (by simp)
    have d4 : W3.cell? ⟨w.heap.size + 1, j, none⟩ = some (.slice (some ⟨W.heap.size + 1, 0, none⟩) N N) := v5.cell (by
      have hl : (vrows N gs j).length = N := by simp [vrows, rowsAt]; omega
      rw [List.getElem?_set_self (by rw [hl]; exact hjk)])
    clear t1 t2 t3 t4 g1 v1 v2 v4 y0 y1 y2 y3 y4 y4' y5 y7
    refine range_law (gf := 69) (lb := #[.pointer (some ⟨W2.heap.size, 0, none⟩), .pointer (some ⟨W2.heap.size + 2, 0, none⟩), .pointer (some ⟨W2.heap.size + 1, 0, none⟩)]) rfl (enters_of Try.func69 (by kernel_rfl) rfl)
      (T := fun k o => k < w.heap.size ∨ k = W2.heap.size + 1 ∨ k = W2.heap.size + 2 ∨ ∃ u, o = .cells #[u] 122 (0, 0)) (fun k _ hk ht => by rcases ht with ht | ht | ht | ⟨_, ht⟩; omega; omega; omega; cases ht)
      (at1_in W2.heap.size (W2.heap.size + 2) (W2.heap.size + 1) w.heap.size _ (fun k o hk => .inl hk) (fun o => .inr (.inr (.inl rfl))) (fun o => .inr (.inl rfl)) (fun k u => .inr (.inr (.inr ⟨u, rfl⟩))) (some ⟨gb, 0, none⟩) (j : Int) false es (by omega) w W3 hwk (Nat.le_refl _) (by omega) hb3 q0.cell q2.cell q1.cell) (fun _ => rfl)
      (fun pre V => BRow V (W.heap.size + 1) (brow N (accum N es pre)) ∧ W3.grownBy V (some (W.heap.size + 1)))
      (fun _ _ => False) ?hI (fun _ _ _ _ hs _ _ => hs) ?h0
      (fun s V => ∃ Bx, (BRow V (W.heap.size + 1) (brow N (accum N es s.1)) ∧ W3.grownBy V (some (W.heap.size + 1))) ∧ (V.heap[Bx]? = some (.cells #[.int .i64 s.2.1.1.2.1, .int .i64 s.2.1.1.2.2] 34 (0, 0)) ∧ W3.heap.size ≤ Bx) ∧ s.2.2 = { tmps := #[.pointer (some ⟨gb, 0, none⟩), .pointer (some ⟨w.heap.size, 0, none⟩), .slice none 0 0, .pointer (some ⟨w.heap.size + 1 + 1, 0, none⟩), .pointer (some ⟨W.heap.size, 0, none⟩), undef, .pointer (some ⟨Bx, 0, none⟩), undef, undef, .pointer (some ⟨gb, 0, none⟩), .bool false, .pointer (some ⟨gb, 0, none⟩), .pointer (some ⟨gb, 0, none⟩), .pointer (some ⟨gb, 0, none⟩), .int .i64 (N : Int), .slice (some ⟨w.heap.size + 1, 0, none⟩) N N, .slice (some ⟨w.heap.size + 1, 0, none⟩) N N, .int .i64 (N : Int), .int .i64 (j : Int), .bool true, .int .i64 (j : Int), .slice (some ⟨w.heap.size + 1, 0, none⟩) N N, .int .i64 (j : Int), .pointer (some ⟨gb, 0, none⟩), .pointer (some ⟨gb, 0, none⟩), .pointer (some ⟨gb, 0, none⟩), .int .i64 (N : Int), .slice (some ⟨W.heap.size + 1, 0, none⟩) N N, .pointer (some ⟨w.heap.size + 1, j, none⟩), .pointer (some ⟨gb, 0, none⟩), .int .i64 (j : Int), .func (.func 69) #[] #[.pointer (some ⟨W2.heap.size, 0, none⟩), .pointer (some ⟨W2.heap.size + 2, 0, none⟩), .pointer (some ⟨W2.heap.size + 1, 0, none⟩)], .int .i64 (s.2.1.1.1 : Int), .agg #[.int .i64 s.2.1.1.2.1, .int .i64 s.2.1.1.2.2], undef, undef, undef, undef, undef, undef, undef, undef, undef, undef, undef, undef, undef, undef, undef, undef, undef, undef, undef, undef, undef, undef, undef, undef, undef, undef, undef, undef, u62, undef], defers := [] })
      ?hAx ?assign ?body ?done ?stop
    case stop => exact fun _ _ _ _ h => h.elim
    case h0 => exact ⟨by rw [brow_congr (S := accum N es []) (T := fun _ => false) (fun t _ => rfl)]; exact r3, World.grownBy.refl _ _⟩
    case hI =>
      rintro pre X Y row ⟨i1, i2⟩ hg hrw
      refine ⟨i1.kept hg (fun e => ?_), grown_own i2 hg (fun r e => (hrw r e).1)⟩
      have := (hrw _ e.symm).1; omega
    case hAx =>
      rintro s X Y row ⟨Bx, ⟨i1, i2⟩, ⟨hx, hxl⟩, ha⟩ hg hrw
      refine ⟨Bx, ⟨i1.kept hg (fun e => ?_), grown_own i2 hg (fun r e => (hrw r e).1)⟩, ⟨?_, hxl⟩, ha⟩
      · have := (hrw _ e.symm).1; omega
      · refine (hg.block _ (Array.getElem?_eq_some_iff.1 hx).1 fun e => ?_).trans hx
        obtain ⟨_, o, ho, hc⟩ := hrw _ e.symm
        rw [hx] at ho; cases ho; cases hc
    case assign =>
      rintro l pre x V Kx ⟨i1, i2⟩ hKx
      dsimp only [encA]
      gi_wp2
      exact hKx _ _ ((KeepsOthers.alloc _ _).from _) (Keeps.alloc _ _ _) ⟨V.heap.size, ⟨i1.kept (World.grownBy_alloc V _ none) (by simp), gtrans i2 (World.grownBy_alloc V _ (some (W.heap.size + 1)))⟩, ⟨World.alloc_heap_new V _, i2.size⟩, rfl⟩
    case done =>
      rintro D xs V hD rfl ⟨i1, i2⟩ hKD
      have n1 : VRow V (w.heap.size + 1) (vrows N (fun i => if i = j then W.heap.size + 1 else gs i) (j + 1)) := by
        rw [vrows_succ hjk]; exact v5.kept i2 (by simp; omega)
      have n2 : ∀ i, i < j + 1 → BRow V ((fun i => if i = j then W.heap.size + 1 else gs i) i) (brow N (reach N es i)) ∧ w.heap.size + 3 ≤ (fun i => if i = j then W.heap.size + 1 else gs i) i := fun i hi => by
        dsimp only
        by_cases e : i = j
        · rw [if_pos e]
          refine ⟨?_, by omega⟩
          rw [e, brow_congr (fun t _ => (accum_reach N es j t).symm)]
          exact i1
        · rw [if_neg e]
          obtain ⟨b1, b2⟩ := HRS.out i (by omega)
          have := b1.lt
          exact ⟨(b1.kept gW3 (by simp; omega)).kept i2 (by simp; omega), b2⟩
      have n3 : ∀ i k, i < j + 1 → k < j + 1 → (fun i => if i = j then W.heap.size + 1 else gs i) i = (fun i => if i = j then W.heap.size + 1 else gs i) k → i = k := fun i k hi hk e => by
        dsimp only at e
        by_cases e1 : i = j <;> by_cases e2 : k = j
        · omega
        · rw [if_pos e1, if_neg e2] at e
          have := (HRS.out k (by omega)).1.lt; omega
        · rw [if_neg e1, if_pos e2] at e
          have := (HRS.out i (by omega)).1.lt; omega
        · rw [if_neg e1, if_neg e2] at e
          exact HIJ.out i k (by omega) (by omega) e
      have hdl : ∀ D ∈ Ds, D < W.heap.size := fun D hD => (Array.getElem?_eq_some_iff.1 (hds'.out D hD).2).1
      have hgo : ∀ u, K { tmps := #[.pointer (some ⟨gb, 0, none⟩), .pointer (some ⟨w.heap.size, 0, none⟩), .slice none 0 0, .pointer (some ⟨w.heap.size + 1 + 1, 0, none⟩), .pointer (some ⟨W.heap.size, 0, none⟩), undef, undef, undef, undef, .pointer (some ⟨gb, 0, none⟩), .bool false, .pointer (some ⟨gb, 0, none⟩), .pointer (some ⟨gb, 0, none⟩), .pointer (some ⟨gb, 0, none⟩), .int .i64 (N : Int), .slice (some ⟨w.heap.size + 1, 0, none⟩) N N, .slice (some ⟨w.heap.size + 1, 0, none⟩) N N, .int .i64 (N : Int), .int .i64 ((j + 1 : Nat) : Int), .bool true, .int .i64 (j : Int), .slice (some ⟨w.heap.size + 1, 0, none⟩) N N, .int .i64 (j : Int), .pointer (some ⟨gb, 0, none⟩), .pointer (some ⟨gb, 0, none⟩), .pointer (some ⟨gb, 0, none⟩), .int .i64 (N : Int), .slice (some ⟨W.heap.size + 1, 0, none⟩) N N, .pointer (some ⟨w.heap.size + 1, j, none⟩), .pointer (some ⟨gb, 0, none⟩), .int .i64 (j : Int), .func (.func 69) #[] #[.pointer (some ⟨W2.heap.size, 0, none⟩), .pointer (some ⟨W2.heap.size + 2, 0, none⟩), .pointer (some ⟨W2.heap.size + 1, 0, none⟩)], undef, undef, undef, undef, undef, undef, undef, undef, undef, undef, undef, undef, undef, undef, undef, undef, undef, undef, undef, undef, undef, undef, undef, undef, undef, undef, undef, undef, undef, undef, u, undef], defers := marks (D :: Ds) } V := fun u =>
        hK'.out _ _ ⟨g - 1, by omega, hJ'.out _ _ _ ⟨j + 1, _, _, _, _, _, _, _, _, _, _, _, _, _, _, _, _, D :: Ds, by omega, rfl, n1, n2, n3, (hbg.kept gW3 (by simp)).kept i2 (by simp; omega), (hbr.kept gW3 (by simp)).kept i2 (by simp; omega), hb3.grown i2 (by have := hb3.size; omega) (fun k e => by cases e; omega), List.nodup_cons.2 ⟨fun h => by have := hdl D h; omega, hnd⟩, fun D' hD' => by
          rcases List.mem_cons.1 hD' with rfl | h
          · exact ⟨by omega, hKD⟩
          · have h1 := hds'.out D' h
            have h2 := hdl D' h
            exact ⟨h1.1, (i2.block D' (by omega) (by simp; omega)).trans ((gW3.block D' h2 (by simp; omega)).trans h1.2)⟩⟩⟩
      have hgo' := hidI hgo
      clear hgo i1 i2 n1 n2 n3
      gi_wp2
      exact hgo'.out _
    case body =>
      rintro l pre ⟨⟨i, p, q⟩, hx0⟩ a' V hlen ⟨Bx, ⟨i1, i2⟩, ⟨hx, hxl⟩, ha⟩
      dsimp only at hx ha hlen i1
      subst ha
      have hg0 := hgd (p, q) (List.mem_of_getElem? hx0)
      simp only [good, Bool.and_eq_true, decide_eq_true_eq] at hg0
      obtain ⟨q, rfl⟩ : ∃ q' : Nat, q = (q' : Int) := ⟨q.toNat, by omega⟩
      have hVb : Below w.heap.size w V := hb3.grown i2 (by have := hb3.size; omega) (fun k e => by cases e; omega)
      have hVs := i2.size
      have e1 : V.cell? ⟨w.heap.size, 0, none⟩ = some (.pointer (some ⟨gb, 0, none⟩)) := kept_cell i2 d3 (by simp; omega)
      have e2 : V.cell? ⟨Bx, 1, none⟩ = some (.int .i64 (q : Int)) := by simp [World.cell?, hx]
      have C := hidI (levels_any (some ⟨gb, 0, none⟩) N (q : Int) es V (HG.out.below hVb (Nat.le_refl _)) (by omega))
      gi_wp2_with (refine ⟨trivial, rfl, ?_⟩; gi_at_call 13; refine (CallsIn.inRound l (callsIn_wide.2 C.out)).mono ?_; rintro e V1 ⟨u, rfl, hu, hbV⟩; refine Hid.out ?_)
      refine hidI ?_
      have hll := levels_length N es (q : Int)
      obtain ⟨ua, ucap, rfl, huc⟩ := hu
      rw [hll] at huc ⊢
      rcases huc with huc | ⟨ub, uo, rfl, huc⟩
      · rw [huc] at hll; simp at hll; omega
      have j1 : BRow V1 (W.heap.size + 1) (brow N (accum N es pre)) := (hbV.block _ i1.lt).trans i1
      have j2 : W3.grownBy V1 (some (W.heap.size + 1)) := grown_own i2 (row := none) ⟨hbV.1, hbV.2, hbV.3, hbV.4, fun k hk _ => hbV.block k hk⟩ (fun r e => by cases e)
      have hne : ub ≠ W.heap.size + 1 := fun e => by
        have h1 := huc 0 (by omega)
        rw [e, cell_of_row V1 _ _ _ 4 (0, 0) j1] at h1
        simp at h1
      have J1 := hidI j1
      have J2 := hidI j2
      have HUC := hidI huc
      have HBV := hidI hbV
      have I1 := hidI i1
      have I2 := hidI i2
      have HX := hidI hx
      obtain ⟨lv, hlv⟩ : ∃ lv, levels N es (q : Int) = lv := ⟨_, rfl⟩
      rw [hlv] at HUC hll
      have HLV := hidI hlv
      have HVB := hidI hVb
      clear C j1 j2 huc hbV i1 i2 hx e1 e2 hlv hVb hg0
      gi_wp2
      gi_loopg [39] N (fun gh s39 wy => ∃ (t : Nat), t + gh = N ∧ s39 = .int .i64 t ∧ BRow wy (W.heap.size + 1) (brow N (fun x => accum N es pre x || (decide (x < t) && decide (0 ≤ lv.getD x 0)))) ∧ V1.grownBy wy (some (W.heap.size + 1)))
      case atStart =>
        refine ⟨0, by omega, rfl, ?_, World.grownBy.refl _ _⟩
        rw [brow_congr (T := accum N es pre) (fun x _ => by simp)]
        exact J1.out
      case round =>
        obtain ⟨t, htg, rfl, hrow, hgr⟩ := hrel
        have HR := hidI hrow
        have HGR := hidI hgr
        clear hrow hgr
        cases gk with
        | zero =>
          have htN : t = N := by omega
          subst htN
          have hfin : KeepsFrom W3.heap.size V wr ∧ Keeps (fun k o => k < w.heap.size ∨ k = W2.heap.size + 1 ∨ k = W2.heap.size + 2 ∨ ∃ u, o = .cells #[u] 122 (0, 0)) V wr ∧ BRow wr (W.heap.size + 1) (brow t (accum t es (pre ++ [(⟨(i, p, (q : Int)), hx0⟩ : At es)]))) ∧ W3.grownBy wr (some (W.heap.size + 1)) := by
            have hs1 := HBV.out.size
            have hs2 := HGR.out.size
            have hs3' := I2.out.size
            refine ⟨⟨by omega, fun k o hk ho hc => ?_⟩, ⟨by omega, fun k o ht ho => ?_⟩, ?_, gtrans J2.out HGR.out⟩
            · have hkl := (Array.getElem?_eq_some_iff.1 ho).1
              exact (HGR.out.block k (by omega) (by simp; omega)).trans ((HBV.out.block k hkl).trans ho)
            · have hkl := (Array.getElem?_eq_some_iff.1 ho).1
              refine (HGR.out.block k (by omega) fun e => ?_).trans ((HBV.out.block k hkl).trans ho)
              have e' : k = W.heap.size + 1 := by simpa using e
              rcases ht with ht | ht | ht | ⟨u', ht⟩
              · omega
              · omega
              · omega
              · rw [e', show V.heap[W.heap.size + 1]? = _ from I1.out, ht] at ho
                simp at ho
            · rw [brow_congr (T := fun x => accum t es pre x || (decide (x < t) && decide (0 ≤ lv.getD x 0))) (fun x hx => ?_)]
              · exact HR.out
              · rw [decide_eq_true hx, Bool.true_and, ← HLV.out]
                simp [accum, List.any_append]
          have HF := hidI hfin
          clear hfin
          gi_wp2
          exact HF.out
        | succ gh =>
          have htN : t < N := by omega
          have cz : wr.cell? ⟨ub, uo + t, none⟩ = some (.int .i64 (lv.getD t 0)) := kept_cell HGR.out (HUC.out t (by omega)) (by simp; omega)
          have f1 := HR.out.cell (j := t) (by rw [brow_length]; exact htN)
          rw [brow_get htN] at f1
          have f2 := HR.out.frozen t
          have g3 := gtrans J2.out HGR.out
          have a1 : wr.cell? ⟨w.heap.size + 1 + 1, 0, none⟩ = some (.slice (some ⟨w.heap.size + 1, 0, none⟩) N N) := kept_cell g3 d1 (by simp; omega)
          have a2 : wr.cell? ⟨W.heap.size, 0, none⟩ = some (.int .i64 (j : Int)) := kept_cell g3 d2 (by simp)
          have a3 : wr.cell? ⟨w.heap.size + 1, j, none⟩ = some (.slice (some ⟨W.heap.size + 1, 0, none⟩) N N) := kept_cell g3 d4 (by simp; omega)
          obtain ⟨z, hz⟩ : ∃ z, lv.getD t 0 = z := ⟨_, rfl⟩
          rw [hz] at cz
          obtain ⟨ob, hob⟩ : ∃ ob, (accum N es pre t || (decide (t < t) && decide (0 ≤ lv.getD t 0))) = ob := ⟨_, rfl⟩
          rw [hob] at f1
          have HOB := hidI hob
          have HZ := hidI hz
          clear hob hz g3
          gi_wp2
          obtain ⟨S, hS⟩ : ∃ S : World → Prop, S = fun w' => w'.cell? ⟨w.heap.size + 1 + 1, 0, none⟩ = some (.slice (some ⟨w.heap.size + 1, 0, none⟩) N N) ∧ w'.cell? ⟨W.heap.size, 0, none⟩ = some (.int .i64 (j : Int)) ∧ w'.cell? ⟨w.heap.size + 1, j, none⟩ = some (.slice (some ⟨W.heap.size + 1, 0, none⟩) N N) := ⟨_, rfl⟩
          refine round_held S (by kernel_rfl) ?_
          have UB : Hid (BRow wr.drew (W.heap.size + 1) (brow N (fun x => accum N es pre x || (decide (x < t) && decide (0 ≤ lv.getD x 0))))) := HR.out
          have UG : Hid (V1.grownBy wr.drew (some (W.heap.size + 1))) := ⟨HGR.out.1, HGR.out.2, HGR.out.3, HGR.out.4, HGR.out.5⟩
          obtain ⟨U, hU⟩ : ∃ U, wr.drew = U := ⟨_, rfl⟩
          have S0 : S U := by rw [← hU, hS]; exact ⟨a1, a2, a3⟩
          have b1 : U.cell? ⟨W.heap.size + 1, t, none⟩ = some (.bool ob) := by rw [← hU]; exact f1
          have b2 : U.frozen? ⟨W.heap.size + 1, t, none⟩ = false := by rw [← hU]; exact f2
          rw [hU] at UB UG ⊢
          clear hU a1 a2 a3 f1 f2 cz
          refine wpAnyH_take (i := 0) (v := .slice (some ⟨w.heap.size + 1, 0, none⟩) N N) rfl (by kernel_rfl) (by kernel_rfl) (by kernel_rfl) (fun _ _ _ h => h) (.inl ⟨by rfl, fun u hu => ?_⟩) S0 ?_
          · rw [hS] at hu; obtain ⟨q0, q1, q2⟩ := hu; go_simp
          refine wpAnyH_take (i := 1) (v := .int .i64 (j : Int)) rfl (by kernel_rfl) (by kernel_rfl) (by kernel_rfl) (fun _ _ _ h => h) (.inl ⟨by rfl, fun u hu => ?_⟩) S0 ?_
          · rw [hS] at hu; obtain ⟨q0, q1, q2⟩ := hu; go_simp
          refine wpAnyH_take (i := 2) (v := .pointer (some ⟨w.heap.size + 1, j, none⟩)) rfl (by kernel_rfl) (by kernel_rfl) (by kernel_rfl) (fun _ _ _ h => h) (.inl ⟨by rfl, fun u hu => ?_⟩) S0 ?_
          · go_simp
          refine wpAnyH_take (i := 3) (v := .slice (some ⟨W.heap.size + 1, 0, none⟩) N N) rfl (by kernel_rfl) (by kernel_rfl) (by kernel_rfl) (fun _ _ _ h => h) (.inl ⟨by rfl, fun u hu => ?_⟩) S0 ?_
          · rw [hS] at hu; obtain ⟨q0, q1, q2⟩ := hu; go_simp
          refine wpAnyH_take (i := 4) (v := .int .i64 (t : Int)) rfl (by kernel_rfl) (by kernel_rfl) (by kernel_rfl) (fun _ _ _ h => h) (.inl ⟨by rfl, fun u hu => ?_⟩) S0 ?_
          · go_simp
          refine wpAnyH_take (i := 5) (v := .slice (some ⟨w.heap.size + 1, 0, none⟩) N N) rfl (by kernel_rfl) (by kernel_rfl) (by kernel_rfl) (fun _ _ _ h => h) (.inl ⟨by rfl, fun u hu => ?_⟩) S0 ?_
          · rw [hS] at hu; obtain ⟨q0, q1, q2⟩ := hu; go_simp
          refine wpAnyH_take (i := 6) (v := .int .i64 (j : Int)) rfl (by kernel_rfl) (by kernel_rfl) (by kernel_rfl) (fun _ _ _ h => h) (.inl ⟨by rfl, fun u hu => ?_⟩) S0 ?_
          · rw [hS] at hu; obtain ⟨q0, q1, q2⟩ := hu; go_simp
          refine wpAnyH_take (i := 7) (v := .pointer (some ⟨w.heap.size + 1, j, none⟩)) rfl (by kernel_rfl) (by kernel_rfl) (by kernel_rfl) (fun _ _ _ h => h) (.inl ⟨by rfl, fun u hu => ?_⟩) S0 ?_
          · go_simp
          refine wpAnyH_take (i := 8) (v := .slice (some ⟨W.heap.size + 1, 0, none⟩) N N) rfl (by kernel_rfl) (by kernel_rfl) (by kernel_rfl) (fun _ _ _ h => h) (.inl ⟨by rfl, fun u hu => ?_⟩) S0 ?_
          · rw [hS] at hu; obtain ⟨q0, q1, q2⟩ := hu; go_simp
          refine wpAnyH_take (i := 9) (v := .int .i64 (t : Int)) rfl (by kernel_rfl) (by kernel_rfl) (by kernel_rfl) (fun _ _ _ h => h) (.inl ⟨by rfl, fun u hu => ?_⟩) S0 ?_
          · go_simp
          refine wpAnyH_take (i := 10) (v := .pointer (some ⟨W.heap.size + 1, t, none⟩)) rfl (by kernel_rfl) (by kernel_rfl) (by kernel_rfl) (fun _ _ _ h => h) (.inl ⟨by rfl, fun u hu => ?_⟩) S0 ?_
          · go_simp
          refine wpAnyH_all (rs := [11]) (by kernel_rfl) (by simp) fun ii hi11 => ?_
          obtain rfl : ii = 11 := by simpa using hi11
          refine wpOp_step rfl fun K1 hK1 => ?_
          rw [if_pos (by rfl)]
          unfold Oper.wp
          go_simp
          refine hK1 _ _ ⟨S0, ?_⟩
          clear hK1 K1
          cases ob with
          | true =>
            refine wpAnyH_take (i := 12) (v := .bool true) rfl (by kernel_rfl) (by kernel_rfl) (by kernel_rfl) (fun _ _ _ h => h) (.inl ⟨by rfl, fun u hu => ?_⟩) S0 ?_
            · go_simp
            refine wpAnyH_take (i := 13) (v := undef) rfl (by kernel_rfl) (by kernel_rfl) (by kernel_rfl) (fun _ _ _ h => h) (.inr ⟨by rfl, rfl⟩) S0 ?_
            refine wpAnyH_take (i := 14) (v := undef) rfl (by kernel_rfl) (by kernel_rfl) (by kernel_rfl) (fun _ _ _ h => h) (.inr ⟨by rfl, rfl⟩) S0 ?_
            refine wpAnyH_take (i := 15) (v := .bool true) rfl (by kernel_rfl) (by kernel_rfl) (by kernel_rfl) (fun _ _ _ h => h) (.inl ⟨by rfl, fun u hu => ?_⟩) S0 ?_
            · go_simp
            refine wpAnyH_take (i := 16) (v := .pointer (some ⟨W.heap.size + 1, t, none⟩)) rfl (by kernel_rfl) (by kernel_rfl) (by kernel_rfl) (fun _ _ _ h => h) (.inl ⟨by rfl, fun u hu => ?_⟩) S0 ?_
            · go_simp
            refine wpAnyH_all (rs := [17]) (by kernel_rfl) (by simp) fun ii hi17 => ?_
            obtain rfl : ii = 17 := by simpa using hi17
            refine wpOp_step rfl fun K1 hK1 => ?_
            rw [if_pos (by rfl)]
            unfold Oper.wp
            go_simp
            have S1 : S (U.setCell ⟨W.heap.size + 1, t, none⟩ (.bool true)) := by
              rw [hS]
              have gU := grownBy_set U (W.heap.size + 1) t (.bool true)
              rw [hS] at S0
              exact ⟨kept_cell gU S0.1 (by simp; omega), kept_cell gU S0.2.1 (by simp), kept_cell gU S0.2.2 (by simp; omega)⟩
            refine hK1 _ _ ⟨S1, ?_⟩
            clear hK1 K1
            refine wpAnyH_done (by kernel_rfl) ?_ _
            simp only [Goes]
            have nU := UB.out.set t true
            have gU := gtrans UG.out (grownBy_set U (W.heap.size + 1) t (.bool true))
            obtain ⟨U2, hU2⟩ : ∃ U2, U.setCell ⟨W.heap.size + 1, t, none⟩ (.bool true) = U2 := ⟨_, rfl⟩
            rw [hU2] at nU gU ⊢
            have NU := hidI nU
            have GU := hidI gU
            clear nU gU hU2 S1 S0
            gi_wp2
            go_roundg gh
            case measure => omega
            case rel =>
              refine ⟨t + 1, by omega, by go_num, ?_, GU.out⟩
              have hthis := NU.out
              rw [brow_put] at hthis
              rw [brow_congr (T := fun u => if u = t then true else accum N es pre u || (decide (u < t) && decide (0 ≤ lv.getD u 0))) (fun x hx => ?_)]
              · exact hthis
              · by_cases e : x = t
                · subst e
                  have h0 := HOB.out
                  rw [decide_eq_false (Nat.lt_irrefl x), Bool.false_and, Bool.or_false] at h0
                  rw [if_pos rfl, h0, Bool.true_or]
                · rw [if_neg e]
                  congr 2
                  exact decide_eq_decide.2 (by omega)
          | false =>
            refine wpAnyH_take (i := 12) (v := .bool false) rfl (by kernel_rfl) (by kernel_rfl) (by kernel_rfl) (fun _ _ _ h => h) (.inl ⟨by rfl, fun u hu => ?_⟩) S0 ?_
            · go_simp
            refine wpAnyH_take (i := 13) (v := .int .i64 z) rfl (by kernel_rfl) (by kernel_rfl) (by kernel_rfl) (fun _ _ _ h => h) (.inl ⟨by rfl, fun u hu => ?_⟩) S0 ?_
            · go_simp
            refine wpAnyH_take (i := 14) (v := .bool (decide (0 ≤ z))) rfl (by kernel_rfl) (by kernel_rfl) (by kernel_rfl) (fun _ _ _ h => h) (.inl ⟨by rfl, fun u hu => ?_⟩) S0 ?_
            · go_simp
            refine wpAnyH_take (i := 15) (v := .bool (decide (0 ≤ z))) rfl (by kernel_rfl) (by kernel_rfl) (by kernel_rfl) (fun _ _ _ h => h) (.inl ⟨by rfl, fun u hu => ?_⟩) S0 ?_
            · go_simp
            refine wpAnyH_take (i := 16) (v := .pointer (some ⟨W.heap.size + 1, t, none⟩)) rfl (by kernel_rfl) (by kernel_rfl) (by kernel_rfl) (fun _ _ _ h => h) (.inl ⟨by rfl, fun u hu => ?_⟩) S0 ?_
            · go_simp
            refine wpAnyH_all (rs := [17]) (by kernel_rfl) (by simp) fun ii hi17 => ?_
            obtain rfl : ii = 17 := by simpa using hi17
            refine wpOp_step rfl fun K1 hK1 => ?_
            rw [if_pos (by rfl)]
            unfold Oper.wp
            go_simp
            have S1 : S (U.setCell ⟨W.heap.size + 1, t, none⟩ (.bool (decide (0 ≤ z)))) := by
              rw [hS]
              have gU := grownBy_set U (W.heap.size + 1) t (.bool (decide (0 ≤ z)))
              rw [hS] at S0
              exact ⟨kept_cell gU S0.1 (by simp; omega), kept_cell gU S0.2.1 (by simp), kept_cell gU S0.2.2 (by simp; omega)⟩
            refine hK1 _ _ ⟨S1, ?_⟩
            clear hK1 K1
            refine wpAnyH_done (by kernel_rfl) ?_ _
            simp only [Goes]
            have nU := UB.out.set t (decide (0 ≤ z))
            have gU := gtrans UG.out (grownBy_set U (W.heap.size + 1) t (.bool (decide (0 ≤ z))))
            obtain ⟨U2, hU2⟩ : ∃ U2, U.setCell ⟨W.heap.size + 1, t, none⟩ (.bool (decide (0 ≤ z))) = U2 := ⟨_, rfl⟩
            rw [hU2] at nU gU ⊢
            have NU := hidI nU
            have GU := hidI gU
            clear nU gU hU2 S1 S0
            gi_wp2
            go_roundg gh
            case measure => omega
            case rel =>
              refine ⟨t + 1, by omega, by go_num, ?_, GU.out⟩
              have hthis := NU.out
              rw [brow_put] at hthis
              rw [brow_congr (T := fun u => if u = t then decide (0 ≤ z) else accum N es pre u || (decide (u < t) && decide (0 ≤ lv.getD u 0))) (fun x hx => ?_)]
              · exact hthis
              · by_cases e : x = t
                · subst e
                  have h0 := HOB.out
                  rw [decide_eq_false (Nat.lt_irrefl x), Bool.false_and, Bool.or_false] at h0
                  rw [if_pos rfl, h0, Bool.false_or, HZ.out, decide_eq_true (Nat.lt_succ_self x), Bool.true_and]
                · rw [if_neg e]
                  congr 2
                  exact decide_eq_decide.2 (by omega)
  · obtain rfl : j = N := by omega
    gi_wp2
    refine leaves_marks (B := w.heap.size + 3) (t := 2) rfl (fun V => VRow V (w.heap.size + 1) (vrows j gs j) ∧ (∀ i, i < j → BRow V (gs i) (brow j (reach j es i))) ∧ Below w.heap.size w V) (fun V D hD hB hA => ⟨hA.1.kept (grownBy_putObj' V D _) (by simp; omega), fun i hi => (hA.2.1 i hi).kept (grownBy_putObj' V D _) (fun e => ?_), hA.2.2.trans (belowK_b (w := w) (Nat.le_refl _) V D _ _ (by omega) hD rfl rfl)⟩) (fun V hA => ?_) Ds W hnd (fun D hD => hds'.out D hD) ⟨hvr, fun i hi => (HRS.out i hi).1, hbel⟩
    · have h1 := hA.2.1 i hi
      have e' : gs i = D := by simpa using e
      rw [e'] at h1
      rw [show V.heap[D]? = _ from h1] at hD
      cases hD
    · refine ⟨.slice (some ⟨w.heap.size + 1, 0, none⟩) j j, rfl, ?_, hA.2.2⟩
      refine Mat.sees (base := 0) (gs := gs) ⟨fun i hi => ?_, hA.2.1, HIJ.out, fun i hi => ⟨by have := (HRS.out i hi).2; omega, Nat.zero_le _⟩⟩
      exact hA.1.cell (by simp [vrows, rowsAt, hi])
theorem reaches_any (gp : Option Addr) (N : Nat) (es : Edges) (w : World) (hg : IsG w gp (N : Int) es) :
    Calls Try.prog 14 #[.pointer gp] w fun e w' => ∃ u, e = .returned u ∧ SeesM w' u N (reach N es) ∧ Below w.heap.size w w' := by
  rcases id hg with ⟨rfl, h0, rfl⟩ | ⟨gb, v, mb, base, rfl, hr⟩
  · obtain rfl : N = 0 := by omega
    refine (reaches_nil w).mono ?_
    rintro e w' ⟨rfl, hb⟩
    exact ⟨_, rfl, ⟨none, 0, rfl, .inl rfl⟩, hb⟩
  · exact reaches_walk gb N es w hg
end Go.Proofs.Ytbjoljokdjgbnab
