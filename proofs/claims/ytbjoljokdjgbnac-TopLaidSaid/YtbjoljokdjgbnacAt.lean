/-
  The edges at a node, walked: what (*Graph).at and its function yield.
-/
import Derived.Test.YtbjoljokdjgbnacRange
namespace Go.Proofs.Ytbjoljokdjgbnac
open Go.RowKit Go.Shelf
attribute [local go_sem] Oper.semAt_some
/-- Does the edge leave v, or come to it? -/
def sel (v : Int) (inn : Bool) {es : Edges} (x : At es) : Bool := decide ((if inn then x.1.2.2 else x.1.2.1) = v)
theorem cell_pair0 (W : World) (u v : Value) (t : TypeId) : (W.alloc (.cells #[u, v] t)).cell? ⟨W.heap.size, 0, none⟩ = some u := by
  unfold World.cell?; rw [World.alloc_heap_new]; rfl
theorem cell_pair1 (W : World) (u v : Value) (t : TypeId) : (W.alloc (.cells #[u, v] t)).cell? ⟨W.heap.size, 1, none⟩ = some v := by
  unfold World.cell?; rw [World.alloc_heap_new]; rfl
theorem cell_al {W : World} {p : Addr} {v : Value} (o : Obj) (h : W.cell? p = some v) : (W.alloc o).cell? p = some v :=
  (((Below.refl _ W).alloc (Nat.le_refl _) o).cell (World.block_lt_of_cell? W _ h)).trans h
set_option maxRecDepth 100000 in
set_option maxHeartbeats 4000000 in
theorem at1_in (Bg Bi Bv n₀ : Nat) (T : Nat → Obj → Prop) (hT : ∀ k o, k < n₀ → T k o) (hTi : ∀ o, T Bi o) (hTv : ∀ o, T Bv o) (hTy : ∀ k v, T k (.cells #[v] 121 (0, 0))) (gp : Option Addr) (v : Int) (inn : Bool) (es : Edges) (hr : es.length ≤ 1000000)
    (w0 w : World) (hw : Walks w0 gp es) (hn : w0.heap.size ≤ n₀) (hn₀ : n₀ ≤ w.heap.size) (hb : Below n₀ w0 w)
    (hBg : w.cell? ⟨Bg, 0, none⟩ = some (.pointer gp)) (hBi : w.cell? ⟨Bi, 0, none⟩ = some (.bool inn)) (hBv : w.cell? ⟨Bv, 0, none⟩ = some (.int .i64 v)) :
    Seq 88 #[.pointer (some ⟨Bg, 0, none⟩), .pointer (some ⟨Bi, 0, none⟩), .pointer (some ⟨Bv, 0, none⟩)] (encA (es := es)) T (fun ys => ys = (upto es es.length (Nat.le_refl _)).filter (sel v inn)) es.length w := by
  intro l J Jx W hW hJ hJx hY h0
  have c1 : W.cell? ⟨Bg, 0, none⟩ = some (.pointer gp) := (hW.cell (p := ⟨Bg, 0, none⟩) (World.block_lt_of_cell? w _ hBg)).trans hBg
  have c2 : W.cell? ⟨Bi, 0, none⟩ = some (.bool inn) := (hW.cell (p := ⟨Bi, 0, none⟩) (World.block_lt_of_cell? w _ hBi)).trans hBi
  have c3 : W.cell? ⟨Bv, 0, none⟩ = some (.int .i64 v) := (hW.cell (p := ⟨Bv, 0, none⟩) (World.block_lt_of_cell? w _ hBv)).trans hBv
  have lg := World.block_lt_of_cell? W _ c1
  have li := World.block_lt_of_cell? W _ c2
  have lv := World.block_lt_of_cell? W _ c3
  dsimp only at lg li lv
  refine callsIn_of_wp_marks Try.func88 rfl trivial ?_ rfl
  simp only [Try.ntmps88, List.size_toArray, List.length_cons, List.length_nil, Nat.reduceAdd, Nat.reduceSub, Array.replicate_succ, Array.replicate_zero, List.push_toArray, List.append_toArray, List.nil_append, List.cons_append]
  gi_wp2_with (refine ⟨trivial, rfl, ?_⟩; gi_at_call 61; refine (callsIn_wide.2 (walk_any _ _)).mono ?_; rintro e w' ⟨rfl, rfl⟩)
  have bY := (Boxed.new W 121 (.func (.yield l) #[] #[])).alloc (.cells #[.pointer gp] 63)
  have bG := Boxed.new (W.alloc (.cells #[.func (.yield l) #[] #[]] 121)) 63 (.pointer gp)
  have hBel : Below W.heap.size W ((W.alloc (.cells #[.func (.yield l) #[] #[]] 121)).alloc (.cells #[.pointer gp] 63)) := ((Below.refl _ W).alloc (Nat.le_refl _) _).alloc (by simp) _
  have hJ0 : J [] ((W.alloc (.cells #[.func (.yield l) #[] #[]] 121)).alloc (.cells #[.pointer gp] 63)) := hJ.alloc _ (hJ.alloc _ h0)
  simp only [World.size_alloc] at bG
  obtain ⟨W0, hW0⟩ : ∃ W0, (W.alloc (.cells #[.func (.yield l) #[] #[]] 121)).alloc (.cells #[.pointer gp] 63) = W0 := ⟨_, rfl⟩
  have hsz : W0.heap.size = W.heap.size + 2 := by rw [← hW0]; simp
  rw [hW0] at bY bG hBel hJ0 ⊢
  clear hW0
  have hWsz := hW.size
  refine range_law (gf := 76) (lb := #[.pointer (some ⟨W.heap.size + 1, 0, none⟩)]) rfl (enters_of Try.func76 (by kernel_rfl) rfl) (T := fun k _ => k < n₀) (fun k _ hk ht => by omega)
    (walk_seq (W.heap.size + 1) n₀ _ (fun _ _ h => h) gp es hr w0 W0 hw hn (by omega) (hb.trans ((hW.mono hn₀).trans (hBel.mono (by omega)))) bG.cell) (fun _ => rfl)
    (fun pre W' => (J (pre.filter (sel v inn)) W' ∧ (pre.filter (sel v inn)).length ≤ pre.length) ∧ Boxed W' W.heap.size 121 (.func (.yield l) #[] #[]) ∧ W'.cell? ⟨Bi, 0, none⟩ = some (.bool inn) ∧ W'.cell? ⟨Bv, 0, none⟩ = some (.int .i64 v))
    (fun _ W' => ∃ q, Jx q W')
    ?hI ?hIx ?h0
    (fun s W' => ∃ Bx, ((J (s.1.filter (sel v inn)) W' ∧ (s.1.filter (sel v inn)).length ≤ s.1.length) ∧ Boxed W' W.heap.size 121 (.func (.yield l) #[] #[]) ∧ W'.cell? ⟨Bi, 0, none⟩ = some (.bool inn) ∧ W'.cell? ⟨Bv, 0, none⟩ = some (.int .i64 v)) ∧
      W'.cell? ⟨Bx, 0, none⟩ = some (.int .i64 s.2.1.1.2.1) ∧ W'.cell? ⟨Bx, 1, none⟩ = some (.int .i64 s.2.1.1.2.2) ∧ s.2.2 = { tmps := #[.func (.yield l) #[] #[], .pointer (some ⟨Bg, 0, none⟩), .pointer (some ⟨Bi, 0, none⟩), .pointer (some ⟨Bv, 0, none⟩), .pointer (some ⟨W.heap.size, 0, none⟩), .int .i64 (s.2.1.1.1 : Int), .pointer (some ⟨Bx, 0, none⟩), undef, .pointer gp, .func (.func 76) #[] #[.pointer (some ⟨W.heap.size + 1, 0, none⟩)], .int .i64 (s.2.1.1.1 : Int), .agg #[.int .i64 s.2.1.1.2.1, .int .i64 s.2.1.1.2.2], undef, undef, undef, undef, undef, undef, undef, undef, undef, undef, undef, undef, undef, undef, undef], defers := [] })
    ?hAx ?assign ?body ?done ?stop
  case assign =>
    rintro l' pre x W' K ⟨⟨hj, hl⟩, hy, hi, hv⟩ hK
    dsimp only [encA]
    gi_wp2
    refine hK _ _ ((KeepsOthers.alloc _ _).from _) (Keeps.alloc _ _ _) ⟨W'.heap.size, ⟨⟨hJ.alloc _ hj, hl⟩, hy.alloc _, ?_, ?_⟩, cell_pair0 _ _ _ _, cell_pair1 _ _ _ _, rfl⟩
    · exact cell_al _ hi
    · exact cell_al _ hv
  case hI =>
    rintro pre X Y row ⟨⟨hj, hl⟩, hy, hi, hv⟩ hg hrow
    exact ⟨⟨hJ _ X Y row hj hg fun r e => ⟨by have := (hrow r e).1; omega, (hrow r e).2⟩, hl⟩, boxed_own W.heap.size 121 (fun (_ : Unit) => Value.func (.yield l) #[] #[]) () X Y row hy hg (fun r e => (hrow r e).2), cell_kept hi hg (fun r e => (hrow r e).2), cell_kept hv hg (fun r e => (hrow r e).2)⟩
  case hIx =>
    rintro pre X Y row ⟨q, hq⟩ hg hrow
    exact ⟨q, hJx _ X Y row hq hg fun r e => ⟨by have := (hrow r e).1; omega, (hrow r e).2⟩⟩
  case h0 =>
    exact ⟨⟨hJ0, by simp⟩, bY, (hBel.cell (p := ⟨Bi, 0, none⟩) li).trans c2, (hBel.cell (p := ⟨Bv, 0, none⟩) lv).trans c3⟩
  case hAx =>
    rintro s X Y row ⟨Bx, ⟨⟨hj, hl⟩, hy, hi, hv⟩, hx1, hx2, ha⟩ hg hrow
    have hr' : ∀ r, row = some r → ∃ o : Obj, X.heap[r]? = some o ∧ o.isCells = false := fun r e => (hrow r e).2
    exact ⟨Bx, ⟨⟨hJ _ X Y row hj hg fun r e => ⟨by have := (hrow r e).1; omega, (hrow r e).2⟩, hl⟩, boxed_own W.heap.size 121 (fun (_ : Unit) => Value.func (.yield l) #[] #[]) () X Y row hy hg hr', cell_kept hi hg hr', cell_kept hv hg hr'⟩, cell_kept hx1 hg hr', cell_kept hx2 hg hr', ha⟩
  case body =>
    rintro l' pre x a' W' hlen ⟨Bx, ⟨⟨hj, hl⟩, hy, hi, hv⟩, hx1, hx2, ha⟩
    dsimp only at hj hl hy hi hv hx1 hx2 ha hlen
    subst ha
    have cy := hy.cell
    have hfl : (pre.filter (sel v inn)).length < es.length := by omega
    have hlx : (List.filter (sel v inn) (pre ++ [x])).length ≤ (pre ++ [x]).length := List.length_filter_le _ _
    have hgo : ∀ W3, KeepsFrom W.heap.size W' W3 → Keeps T W' W3 → J (List.filter (sel v inn) (pre ++ [x])) W3 → After W0.heap.size (fun k _ => k < n₀) (fun pre W' => (J (pre.filter (sel v inn)) W' ∧ (pre.filter (sel v inn)).length ≤ pre.length) ∧ Boxed W' W.heap.size 121 (.func (.yield l) #[] #[]) ∧ W'.cell? ⟨Bi, 0, none⟩ = some (.bool inn) ∧ W'.cell? ⟨Bv, 0, none⟩ = some (.int .i64 v)) (fun _ W' => ∃ q, Jx q W') (pre ++ [x]) W' .normal { tmps := #[], defers := [] } W3 :=
      fun W3 k1 k2 j3 => ⟨from_mono k1 (by omega), k2.mono hT, ⟨j3, hlx⟩, k2.2 _ _ (hTy _ _) hy, k2.cell hTi hi, k2.cell hTv hv⟩
    have hgo' : Hid _ := hgo
    clear hgo hTi hTv hTy hT
    have hYx : Hid _ := hY (pre.filter (sel v inn)) x W' hj hfl
    clear hY
    cases inn with
    | false =>
      by_cases hs : x.1.2.1 = v
      · obtain ⟨fn, tmps, assign, body, hyr, hR⟩ := hYx.out
        dsimp only [encA] at hyr
        rw [hs] at hyr
        have hfx : List.filter (sel v false) (pre ++ [x]) = List.filter (sel v false) pre ++ [x] := by simp [List.filter_append, sel, hs]
        rw [hfx] at hgo'
        gi_wp2
        refine ⟨rfl, RoundIn.mono (F := WR l') hR ?_⟩
        rintro e W3 ⟨k1, ⟨rfl, hJ3, k2⟩ | ⟨rfl, hJx3⟩⟩
        · gi_wp2
          exact hgo'.out W3 k1 k2 hJ3
        · gi_wp2
          exact ⟨from_mono k1 (by omega), _, hJx3⟩
      · have hfx : List.filter (sel v false) (pre ++ [x]) = List.filter (sel v false) pre := by simp [List.filter_append, sel, hs]
        rw [hfx] at hgo'
        have hd : (x.1.2.1 == v) = false := by simp [hs]
        gi_wp2
        refine ⟨fun _ h => (by cases h), ?_⟩
        gi_wp2
        exact hgo'.out W' (KeepsFrom.refl _ _) (Keeps.refl _ _) hj
    | true =>
      by_cases hs : x.1.2.2 = v
      · obtain ⟨fn, tmps, assign, body, hyr, hR⟩ := hYx.out
        dsimp only [encA] at hyr
        rw [hs] at hyr
        have hfx : List.filter (sel v true) (pre ++ [x]) = List.filter (sel v true) pre ++ [x] := by simp [List.filter_append, sel, hs]
        rw [hfx] at hgo'
        gi_wp2
        refine ⟨rfl, RoundIn.mono (F := WR l') hR ?_⟩
        rintro e W3 ⟨k1, ⟨rfl, hJ3, k2⟩ | ⟨rfl, hJx3⟩⟩
        · gi_wp2
          exact hgo'.out W3 k1 k2 hJ3
        · gi_wp2
          exact ⟨from_mono k1 (by omega), _, hJx3⟩
      · have hfx : List.filter (sel v true) (pre ++ [x]) = List.filter (sel v true) pre := by simp [List.filter_append, sel, hs]
        rw [hfx] at hgo'
        have hd : (x.1.2.2 == v) = false := by simp [hs]
        gi_wp2
        refine ⟨fun _ h => (by cases h), ?_⟩
        gi_wp2
        exact hgo'.out W' (KeepsFrom.refl _ _) (Keeps.refl _ _) hj
  case done =>
    rintro D xs W' hD rfl ⟨⟨hj, hl⟩, hy, hi, hv⟩ hK
    gi_wp2
    refine ⟨by simp, .inl ⟨_, _, rfl, run_takeDeferred hK, ?_⟩⟩
    exact ⟨_, results_none rfl _ _ _, ⟨_, rfl⟩, .inl ⟨_, rfl, hJ.putObj _ hj (by omega) hK rfl⟩⟩
  case stop =>
    rintro D pre W' hD ⟨q, hq⟩ hK
    gi_wp2
    refine ⟨by simp, .inl ⟨_, _, rfl, run_takeDeferred hK, ?_⟩⟩
    exact ⟨_, results_none rfl _ _ _, ⟨_, rfl⟩, .inr ⟨q, hJx.putObj _ hq (by omega) hK rfl⟩⟩
set_option maxHeartbeats 1000000 in
/-- at: all three are boxed; the function captures the boxes. -/
theorem at_any (gp : Option Addr) (v : Int) (inn : Bool) (w : World) :
    Calls Try.prog 77 #[.pointer gp, .int .i64 v, .bool inn] w fun e w' => e = .returned (.func (.func 88) #[] #[.pointer (some ⟨w.heap.size, 0, none⟩), .pointer (some ⟨w.heap.size + 2, 0, none⟩), .pointer (some ⟨w.heap.size + 1, 0, none⟩)]) ∧ w' = ((w.alloc (.cells #[.pointer gp] 63)).alloc (.cells #[.int .i64 v] 3)).alloc (.cells #[.bool inn] 4) := by
  go_enter Try.func77, Try.ntmps77
  go_wp2
  go_ret
  exact ⟨by simp, rfl⟩
end Go.Proofs.Ytbjoljokdjgbnac
