/-
  The nodes that hang together: what Joined comes to.
-/
import Derived.Test.YtbjoljokdjgbnacWide
import Derived.Test.YtbjoljokdjgbnacBase
namespace Go.Proofs.Ytbjoljokdjgbnac
open Go.RowKit Go.MapKept Go.Shelf Go.Deep
attribute [local go_sem] Oper.semAt_some
/-- One edge: both its ends have the lesser number. -/
def jstep (ls : List Int) (x : Int × Int) : List Int := (ls.set x.1.toNat (min (ls.getD x.1.toNat 0) (ls.getD x.2.toNat 0))).set x.2.toNat (min (ls.getD x.1.toNat 0) (ls.getD x.2.toNat 0))
def jround (es : Edges) (ls : List Int) (_ : Nat) : List Int := es.foldl jstep ls
/-- The nodes' own numbers. -/
def selfs (N : Nat) : List Int := (List.range N).map fun (v : Nat) => (v : Int)
/-- What Joined tells. -/
def joined (N : Nat) (es : Edges) : List Int := (List.range N).foldl (jround es) (selfs N)
theorem jstep_length (ls : List Int) (x : Int × Int) : (jstep ls x).length = ls.length := by unfold jstep; simp
theorem jround_length : ∀ (es : Edges) (ls : List Int), (es.foldl jstep ls).length = ls.length
  | [], _ => rfl
  | x :: r, ls => by rw [List.foldl_cons, jround_length r, jstep_length]
theorem jfold_length (es : Edges) : ∀ (l : List Nat) (ls : List Int), (l.foldl (jround es) ls).length = ls.length
  | [], _ => rfl
  | k :: r, ls => by rw [List.foldl_cons, jfold_length es r]; exact jround_length es ls
theorem selfs_length (N : Nat) : (selfs N).length = N := by simp [selfs]
theorem joined_nil (w : World) : Calls Try.prog 33 #[.pointer none] w fun e w' => e = .returned (.slice none 0 0) ∧ w = w' := by
  go_enter Try.func33, Try.ntmps33
  go_wp2
  go_ret
  exact ⟨rfl, rfl⟩
set_option maxRecDepth 100000 in
set_option maxHeartbeats 4000000 in
theorem joined_walk (gb N : Nat) (es : Edges) (w : World) (hg : IsG w (some ⟨gb, 0, none⟩) (N : Int) es) :
    Calls Try.prog 33 #[.pointer (some ⟨gb, 0, none⟩)] w fun e w' => ∃ u, e = .returned u ∧ Sees w' u (joined N es) ∧ Below w.heap.size w w' := by
  have hwk := hg.walks
  have hsh := hg.short
  rcases hg with ⟨h, _⟩ | ⟨gb', v, mb, base, e, h1, h2, h3, hgd, c0, c1, hse, c2, hm⟩
  · cases h
  obtain rfl : gb = gb' := by simpa using e
  have hgl := World.block_lt_of_cell? w _ c0
  dsimp only at hgl
  have hN : N ≤ 12 := by omega
  have hmk := run_make_row' (P := Try.prog) 70 3 (.int .i64 0) 8 Try.underlying70 Try.info3 rfl .i64 .i64 N (by omega) (by omega)
  clear hm c2 hse
  refine (callsIn_wide (n := 0)).1 ?_
  refine callsIn_of_wp_marks Try.func33 rfl trivial ?_ rfl
  simp only [Try.ntmps33, List.size_toArray, List.length_cons, List.length_nil, Nat.reduceAdd, Nat.reduceSub, Array.replicate_succ, Array.replicate_zero, List.push_toArray, List.append_toArray, List.nil_append, List.cons_append]
  gi_wp2
  have r0 := (made_row w N).alloc (.cells #[.slice (some ⟨w.heap.size, 0, none⟩) N N] 70)
  have b0 := Boxed.new (w.alloc (.cells (madeCells #[.int .i64 0] N) 3)) 70 (.slice (some ⟨w.heap.size, 0, none⟩) N N)
  rw [World.size_alloc] at b0
  have hB0 : Below w.heap.size w ((w.alloc (.cells (madeCells #[.int .i64 0] N) 3)).alloc (.cells #[.slice (some ⟨w.heap.size, 0, none⟩) N N] 70)) := ((Below.refl _ w).alloc (Nat.le_refl _) _).alloc (by simp) _
  have hsz : ((w.alloc (.cells (madeCells #[.int .i64 0] N) 3)).alloc (.cells #[.slice (some ⟨w.heap.size, 0, none⟩) N N] 70)).heap.size = w.heap.size + 2 := by simp
  obtain ⟨W0, hW0⟩ : ∃ W0, (w.alloc (.cells (madeCells #[.int .i64 0] N) 3)).alloc (.cells #[.slice (some ⟨w.heap.size, 0, none⟩) N N] 70) = W0 := ⟨_, rfl⟩
  rw [hW0] at r0 b0 hB0 hsz ⊢
  clear hW0 hmk
  gi_loopw [17] (fun i wr => ∃ k : Nat, k ≤ N ∧ i = .int .i64 k ∧ Row wr w.heap.size (selfs k ++ List.replicate (N - k) 0) ∧ Boxed wr (w.heap.size + 1) 70 (.slice (some ⟨w.heap.size, 0, none⟩) N N) ∧ Below w.heap.size w wr)
    (fun i _ => N - (intOf i).toNat)
  case atStart => exact ⟨0, Nat.zero_le _, rfl, by simpa [selfs] using r0, b0, hB0⟩
  case round =>
    obtain ⟨k, hk, rfl, hrw, hbx, hbl⟩ := hrel
    have cb := hbx.cell
    by_cases hlt : k < N
    · have ck := hrw.cell (j := k) (by simp [selfs]; omega)
      have cf := hrw.frozen k
      gi_wp2
      go_roundw
      case measure => simp [intOf]; omega
      case rel =>
        refine ⟨k + 1, by omega, by go_num, ?_, hbx.kept (grownBy_set wr w.heap.size k _) (by simp), hbl.setCell (p := ⟨w.heap.size, k, none⟩) (Nat.le_refl _) _⟩
        have := hrw.set k (k : Int)
        have e : (selfs k ++ List.replicate (N - k) 0 : List Int).set k (k : Int) = selfs (k + 1) ++ List.replicate (N - (k + 1)) 0 := by
          rw [List.set_append_right _ _ (by rw [selfs_length]; exact Nat.le_refl _), selfs_length]
          obtain ⟨d, hd⟩ : ∃ d, N - k = d + 1 := ⟨N - k - 1, by omega⟩
          rw [hd, show N - (k + 1) = d by omega]
          simp [selfs, List.range_succ, List.replicate_succ]
        rw [e] at this
        exact this
    · obtain rfl : k = N := by omega
      have hrw' : Row wr w.heap.size (selfs k) := by simpa using hrw
      have c0' : wr.cell? ⟨gb, 0, none⟩ = some (.int .i64 (k : Int)) := (hbl.cell (p := ⟨gb, 0, none⟩) hgl).trans c0
      clear hrw
      gi_wp2
      clear cb
      have hws1 : w.heap.size + 2 ≤ wr.heap.size := by have := hbx.lt; omega
      obtain ⟨l0, hl0⟩ : ∃ l0, l0 = selfs k := ⟨_, rfl⟩
      have hl0n : l0.length = k := by rw [hl0, selfs_length]
      have hres : joined k es = (List.range k).foldl (jround es) l0 := by unfold joined; rw [hl0]
      rw [← hl0] at hrw'
      clear hl0 c0'
      refine wpIn_loop_ghost_k (fun g a W => ∃ (j : Nat) (u30 u31 u32 u56 : Value) (Ds : List Nat), j + g = k ∧ a = { tmps := #[.pointer (some ⟨gb, 0, none⟩), undef, .slice none 0 0, .pointer (some ⟨w.heap.size + 1, 0, none⟩), u4, undef, undef, undef, .pointer (some ⟨gb, 0, none⟩), .bool false, .pointer (some ⟨gb, 0, none⟩), .pointer (some ⟨gb, 0, none⟩), .pointer (some ⟨gb, 0, none⟩), .int .i64 (k : Int), .slice (some ⟨w.heap.size, 0, none⟩) k k, .slice (some ⟨w.heap.size, 0, none⟩) k k, .int .i64 (k : Int), .int .i64 (k : Int), .bool false, u19, u20, u21, u22, u23, u24, .pointer (some ⟨gb, 0, none⟩), .pointer (some ⟨gb, 0, none⟩), .pointer (some ⟨gb, 0, none⟩), .int .i64 (k : Int), .int .i64 (j : Int), u30, u31, u32, undef, undef, undef, undef, undef, undef, undef, undef, undef, undef, undef, undef, undef, undef, undef, undef, undef, undef, undef, undef, undef, undef, undef, u56, undef], defers := marks Ds } ∧
          Row W w.heap.size ((List.range j).foldl (jround es) l0) ∧ Boxed W (w.heap.size + 1) 70 (.slice (some ⟨w.heap.size, 0, none⟩) k k) ∧ Below w.heap.size w W ∧ Ds.Nodup ∧ ∀ D ∈ Ds, w.heap.size + 2 ≤ D ∧ W.heap[D]? = some (.deferred (some []))) k
        ⟨0, undef, undef, undef, undef, [], by omega, rfl, by simpa using hrw', hbx, hbl, by simp, by simp⟩ ?_
      rintro g a W ⟨j, u30, u31, u32, u56, Ds, hjg, rfl, hrow, hbox, hbel, hnd, hds⟩ J K hJ hK
      have hJ' := hidI hJ
      have hK' := hidI hK
      have hds' := hidI hds
      clear hJ hK hds
      have cbx := hbox.cell
      by_cases hjk : j < k
      · gi_wp2_with (refine ⟨trivial, rfl, ?_⟩; gi_at_call 61; refine (callsIn_wide.2 (walk_any _ _)).mono ?_; rintro e w' ⟨rfl, rfl⟩)
        have b1 := hbox.lt
        have r2 := hrow.alloc (.cells #[.pointer (some ⟨gb, 0, none⟩)] 63)
        have x2 := hbox.alloc (.cells #[.pointer (some ⟨gb, 0, none⟩)] 63)
        have g2 := Boxed.new W 63 (.pointer (some ⟨gb, 0, none⟩))
        have hb2 : Below W.heap.size W (W.alloc (.cells #[.pointer (some ⟨gb, 0, none⟩)] 63)) := (Below.refl _ W).alloc (Nat.le_refl _) _
        have hs2 : (W.alloc (.cells #[.pointer (some ⟨gb, 0, none⟩)] 63)).heap.size = W.heap.size + 1 := by simp
        obtain ⟨W2, hW2⟩ : ∃ W2, W.alloc (.cells #[.pointer (some ⟨gb, 0, none⟩)] 63) = W2 := ⟨_, rfl⟩
        rw [hW2] at r2 x2 g2 hb2 hs2 ⊢
        clear hW2
        have hbe2 : Below w.heap.size w W2 := hbel.trans (hb2.mono (by omega))
        obtain ⟨cur, hcur⟩ : ∃ cur, cur = (List.range j).foldl (jround es) l0 := ⟨_, rfl⟩
        have hcn : cur.length = k := by rw [hcur]; exact (jfold_length es (List.range j) l0).trans hl0n
        rw [← hcur] at r2
        have hdl : ∀ D ∈ Ds, D < W.heap.size := fun D hD => (Array.getElem?_eq_some_iff.1 (hds'.out D hD).2).1
        refine range_law (gf := 76) (lb := #[.pointer (some ⟨W.heap.size, 0, none⟩)]) rfl (enters_of Try.func76 (by kernel_rfl) rfl) (T := fun k' _ => k' < w.heap.size) (fun k' _ hk' ht => by omega)
          (walk_seq W.heap.size w.heap.size _ (fun _ _ h => h) _ es (by omega) w W2 hwk (Nat.le_refl _) (by omega) hbe2 g2.cell) (fun _ => rfl)
          (fun pre V => Row V w.heap.size ((pre.map (·.1.2)).foldl jstep cur) ∧ Boxed V (w.heap.size + 1) 70 (.slice (some ⟨w.heap.size, 0, none⟩) k k) ∧ Below w.heap.size w V ∧ ∀ D ∈ Ds, V.heap[D]? = some (.deferred (some [])))
          (fun _ _ => False) ?hI (fun _ _ _ _ hs _ _ => hs) ?h0
          (fun s V => ∃ Bx, (Row V w.heap.size ((s.1.map (·.1.2)).foldl jstep cur) ∧ Boxed V (w.heap.size + 1) 70 (.slice (some ⟨w.heap.size, 0, none⟩) k k) ∧ Below w.heap.size w V ∧ ∀ D ∈ Ds, V.heap[D]? = some (.deferred (some []))) ∧ V.heap[Bx]? = some (.cells #[.int .i64 s.2.1.1.2.1, .int .i64 s.2.1.1.2.2] 69 (0, 0)) ∧ s.2.2 = { tmps := #[.pointer (some ⟨gb, 0, none⟩), undef, .slice none 0 0, .pointer (some ⟨w.heap.size + 1, 0, none⟩), u4, undef, .pointer (some ⟨Bx, 0, none⟩), undef, .pointer (some ⟨gb, 0, none⟩), .bool false, .pointer (some ⟨gb, 0, none⟩), .pointer (some ⟨gb, 0, none⟩), .pointer (some ⟨gb, 0, none⟩), .int .i64 (k : Int), .slice (some ⟨w.heap.size, 0, none⟩) k k, .slice (some ⟨w.heap.size, 0, none⟩) k k, .int .i64 (k : Int), .int .i64 (k : Int), .bool false, u19, u20, u21, u22, u23, u24, .pointer (some ⟨gb, 0, none⟩), .pointer (some ⟨gb, 0, none⟩), .pointer (some ⟨gb, 0, none⟩), .int .i64 (k : Int), .int .i64 (j : Int), .bool true, .pointer (some ⟨gb, 0, none⟩), .func (.func 76) #[] #[.pointer (some ⟨W.heap.size, 0, none⟩)], .int .i64 (s.2.1.1.1 : Int), .agg #[.int .i64 s.2.1.1.2.1, .int .i64 s.2.1.1.2.2], undef, undef, undef, undef, undef, undef, undef, undef, undef, undef, undef, undef, undef, undef, undef, undef, undef, undef, undef, undef, undef, u56, undef], defers := [] })
          ?hAx ?assign ?body ?done ?stop
        case stop => exact fun _ _ _ _ h => h.elim
        case h0 => exact ⟨by simpa using r2, x2, hbe2, fun D hD => (hb2.block D (hdl D hD)).trans (hds'.out D hD).2⟩
        case hI =>
          rintro pre X Y row ⟨i1, i2, i4, i5⟩ hg hrw
          have hr' : ∀ r, row = some r → ∃ o : Obj, X.heap[r]? = some o ∧ o.isCells = false := fun r e => (hrw r e).2
          exact ⟨row_own w.heap.size (fun (_ : Unit) => _) () X Y row i1 hg hr', boxed_own (w.heap.size + 1) 70 (fun (_ : Unit) => _) () X Y row i2 hg hr', ownFrom_below (β := Unit) (B := W2.heap.size) (Nat.le_refl _) (by omega) () X Y row i4 hg hrw,
            fun D hD => (hg.block D (Array.getElem?_eq_some_iff.1 (i5 D hD)).1 fun e => by have := (hrw D e.symm).1; have := hdl D hD; omega).trans (i5 D hD)⟩
        case hAx =>
          rintro s X Y row ⟨Bx, ⟨i1, i2, i4, i5⟩, hx, ha⟩ hg hrw
          have hr' : ∀ r, row = some r → ∃ o : Obj, X.heap[r]? = some o ∧ o.isCells = false := fun r e => (hrw r e).2
          refine ⟨Bx, ⟨row_own w.heap.size (fun (_ : Unit) => _) () X Y row i1 hg hr', boxed_own (w.heap.size + 1) 70 (fun (_ : Unit) => _) () X Y row i2 hg hr', ownFrom_below (β := Unit) (B := W2.heap.size) (Nat.le_refl _) (by omega) () X Y row i4 hg hrw,
            fun D hD => (hg.block D (Array.getElem?_eq_some_iff.1 (i5 D hD)).1 fun e => by have := (hrw D e.symm).1; have := hdl D hD; omega).trans (i5 D hD)⟩, ?_, ha⟩
          refine (hg.block _ (Array.getElem?_eq_some_iff.1 hx).1 fun e => ?_).trans hx
          obtain ⟨_, o, ho, hc⟩ := hrw _ e.symm
          rw [hx] at ho; cases ho; cases hc
        case assign =>
          rintro l pre x V Kx ⟨i1, i2, i4, i5⟩ hKx
          dsimp only [encA]
          gi_wp2
          exact hKx _ _ ((KeepsOthers.alloc _ _).from _) (Keeps.alloc _ _ _) ⟨V.heap.size, ⟨i1.alloc _, i2.alloc _, i4.alloc (by have := i4.size; omega) _, fun D hD => (Below.heap_alloc _ _ _ (Array.getElem?_eq_some_iff.1 (i5 D hD)).1).trans (i5 D hD)⟩, World.alloc_heap_new V _, rfl⟩
        case done =>
          rintro D xs V hD rfl ⟨i1, i2, i4, i5⟩ hKD
          have hfin : Row V w.heap.size ((List.range (j + 1)).foldl (jround es) l0) := by
            rw [upto_fold jstep cur es es.length (Nat.le_refl _), List.take_length] at i1
            rw [List.range_succ, List.foldl_append, List.foldl_cons, List.foldl_nil, ← hcur]
            exact i1
          have hgo : ∀ u, K { tmps := #[.pointer (some ⟨gb, 0, none⟩), undef, .slice none 0 0, .pointer (some ⟨w.heap.size + 1, 0, none⟩), u4, undef, undef, undef, .pointer (some ⟨gb, 0, none⟩), .bool false, .pointer (some ⟨gb, 0, none⟩), .pointer (some ⟨gb, 0, none⟩), .pointer (some ⟨gb, 0, none⟩), .int .i64 (k : Int), .slice (some ⟨w.heap.size, 0, none⟩) k k, .slice (some ⟨w.heap.size, 0, none⟩) k k, .int .i64 (k : Int), .int .i64 (k : Int), .bool false, u19, u20, u21, u22, u23, u24, .pointer (some ⟨gb, 0, none⟩), .pointer (some ⟨gb, 0, none⟩), .pointer (some ⟨gb, 0, none⟩), .int .i64 (k : Int), .int .i64 ((j + 1 : Nat) : Int), .bool true, .pointer (some ⟨gb, 0, none⟩), .func (.func 76) #[] #[.pointer (some ⟨W.heap.size, 0, none⟩)], undef, undef, undef, undef, undef, undef, undef, undef, undef, undef, undef, undef, undef, undef, undef, undef, undef, undef, undef, undef, undef, undef, undef, u, undef], defers := marks (D :: Ds) } V := fun u =>
            hK'.out _ _ ⟨g - 1, by omega, hJ'.out _ _ _ ⟨j + 1, _, _, _, _, D :: Ds, by omega, rfl, hfin, i2, i4, List.nodup_cons.2 ⟨fun h => by have := hdl D h; omega, hnd⟩, fun D' hD' => by
              rcases List.mem_cons.1 hD' with rfl | h
              · exact ⟨by omega, hKD⟩
              · exact ⟨(hds'.out D' h).1, i5 D' h⟩⟩⟩
          have hgo' := hidI hgo
          clear hgo i1 i2 i4 i5 hfin
          gi_wp2
          exact hgo'.out _
        case body =>
          rintro l pre ⟨⟨i, p, q⟩, hx0⟩ a' V hlen ⟨Bx, ⟨i1, i2, i4, i5⟩, hx, ha⟩
          dsimp only at hx ha hlen i1
          subst ha
          have hg0 := hgd (p, q) (List.mem_of_getElem? hx0)
          simp only [good, Bool.and_eq_true, decide_eq_true_eq] at hg0
          obtain ⟨p, rfl⟩ : ∃ p' : Nat, p = (p' : Int) := ⟨p.toNat, by omega⟩
          obtain ⟨q, rfl⟩ : ∃ q' : Nat, q = (q' : Int) := ⟨q.toNat, by omega⟩
          obtain ⟨ls, hls⟩ : ∃ ls, ls = (pre.map (·.1.2)).foldl jstep cur := ⟨_, rfl⟩
          have hln : ls.length = k := by rw [hls, jround_length]; exact hcn
          have hnx : ((pre ++ [(⟨(i, (p : Int), (q : Int)), hx0⟩ : At es)]).map (·.1.2)).foldl jstep cur = (ls.set p (min (ls.getD p 0) (ls.getD q 0))).set q (min (ls.getD p 0) (ls.getD q 0)) := by rw [List.map_append, List.foldl_append, hls]; rfl
          rw [← hls] at i1
          have hp : p < k := by omega
          have hq : q < k := by omega
          have e1 := i2.cell
          have e3 : V.cell? ⟨Bx, 0, none⟩ = some (.int .i64 (p : Int)) := by simp [World.cell?, hx]
          have e4 : V.cell? ⟨Bx, 1, none⟩ = some (.int .i64 (q : Int)) := by simp [World.cell?, hx]
          have e5 := i1.cell (j := p) (by omega)
          have e6 := i1.cell (j := q) (by omega)
          have hfin : ∀ V' a', KeepsFrom W2.heap.size V V' → Keeps (fun k' _ => k' < w.heap.size) V V' → (Row V' w.heap.size (((pre ++ [(⟨(i, (p : Int), (q : Int)), hx0⟩ : At es)]).map (·.1.2)).foldl jstep cur) ∧ Boxed V' (w.heap.size + 1) 70 (.slice (some ⟨w.heap.size, 0, none⟩) k k) ∧ Below w.heap.size w V' ∧ ∀ D ∈ Ds, V'.heap[D]? = some (.deferred (some []))) → After W2.heap.size (fun k' _ => k' < w.heap.size) (fun pre V => Row V w.heap.size ((pre.map (·.1.2)).foldl jstep cur) ∧ Boxed V (w.heap.size + 1) 70 (.slice (some ⟨w.heap.size, 0, none⟩) k k) ∧ Below w.heap.size w V ∧ ∀ D ∈ Ds, V.heap[D]? = some (.deferred (some []))) (fun _ _ => False) (pre ++ [(⟨(i, (p : Int), (q : Int)), hx0⟩ : At es)]) V .normal a' V' := fun V' _ a1 a2 a3 => ⟨a1, a2, a3⟩
          rw [hnx] at hfin
          have hfin' := hidI hfin
          have hi5 := hidI i5
          have hls' := hidI hls
          clear hfin i5 hnx hls
          obtain ⟨z, hz⟩ : ∃ z, ls.getD p 0 = z := ⟨_, rfl⟩
          obtain ⟨y, hy⟩ : ∃ y, ls.getD q 0 = y := ⟨_, rfl⟩
          rw [hz] at e5 hfin'
          rw [hy] at e6 hfin'
          gi_wp2
          refine round_quiet (by kernel_rfl) (by kernel_rfl) ?_
          repeat (go_big_quiet_step (fail))
          have hmn : ∃ mn, (if y < z then y else z) = mn ∧ min z y = mn := ⟨_, rfl, by rw [Int.min_def]; split <;> split <;> omega⟩
          obtain ⟨mn, hm1, hm2⟩ := hmn
          rw [hm2] at hfin'
          rw [hm1]
          refine wpQuiet_nil ?_
          intro _ hw'
          obtain ⟨nq, hw''⟩ := hw'
          subst hw''
          obtain ⟨V1, hV1⟩ : ∃ V1, (V.drewN nq).drew = V1 := ⟨_, rfl⟩
          have j1 : Row V1 w.heap.size ls := by rw [← hV1]; exact i1
          have j2 : Boxed V1 (w.heap.size + 1) 70 (.slice (some ⟨w.heap.size, 0, none⟩) k k) := by rw [← hV1]; exact i2
          have j4 : Below w.heap.size w V1 := by rw [← hV1]; exact ⟨i4.os, i4.tape, i4.output, i4.size, i4.block⟩
          have jx : V1.heap[Bx]? = some (.cells #[.int .i64 (p : Int), .int .i64 (q : Int)] 69 (0, 0)) := by rw [← hV1]; exact hx
          have j5 : ∀ D ∈ Ds, V1.heap[D]? = some (.deferred (some [])) := by rw [← hV1]; exact hi5.out
          have jk : ∀ V', KeepsFrom W2.heap.size V1 V' → KeepsFrom W2.heap.size V V' := by rw [← hV1]; exact fun V' h => ⟨h.size, h.same⟩
          have jt : ∀ V', Keeps (fun k' _ => k' < w.heap.size) V1 V' → Keeps (fun k' _ => k' < w.heap.size) V V' := by rw [← hV1]; exact fun V' h => ⟨h.1, h.2⟩
          have J5 := hidI j5
          have HV1 := hidI hV1
          have JK := hidI jk
          have JT := hidI jt
          have HX := hidI hx
          clear hV1 i1 i2 i4 hx e1 e3 e4 e5 e6 hi5 j5 jk jt hz hy hm1 hm2
          obtain ⟨S, hS⟩ : ∃ S : World → Prop, S = fun w' => w'.cell? ⟨w.heap.size + 1, 0, none⟩ = some (.slice (some ⟨w.heap.size, 0, none⟩) k k) ∧ w'.cell? ⟨Bx, 0, none⟩ = some (.int .i64 (p : Int)) ∧ w'.cell? ⟨Bx, 1, none⟩ = some (.int .i64 (q : Int)) := ⟨_, rfl⟩
          have hBxne : Bx ≠ w.heap.size := fun e => by
            rw [e, show V1.heap[w.heap.size]? = _ from j1] at jx; simp at jx
          have SW : ∀ u : World, u.heap[w.heap.size + 1]? = V1.heap[w.heap.size + 1]? → u.heap[Bx]? = V1.heap[Bx]? → S u := fun u a1 a2 => by
            rw [hS]
            rw [show V1.heap[w.heap.size + 1]? = _ from j2] at a1
            rw [jx] at a2
            exact ⟨by simp [World.cell?, a1], by simp [World.cell?, a2], by simp [World.cell?, a2]⟩
          have S0 : S V1 := SW _ rfl rfl
          gi_wp2
          refine round_held S (by kernel_rfl) ?_
          rw [HV1.out]
          clear HV1
          refine wpAnyH_take (i := 0) (v := .slice (some ⟨w.heap.size, 0, none⟩) k k) rfl (by kernel_rfl) (by kernel_rfl) (by kernel_rfl) (fun _ _ _ h => h) (.inl ⟨by rfl, fun u hu => ?_⟩) S0 ?_
          · rw [hS] at hu; obtain ⟨q1, q2, q3⟩ := hu; go_simp
          refine wpAnyH_take (i := 1) (v := .pointer (some ⟨Bx, 0, none⟩)) rfl (by kernel_rfl) (by kernel_rfl) (by kernel_rfl) (fun _ _ _ h => h) (.inl ⟨by rfl, fun u hu => ?_⟩) S0 ?_
          · go_simp
          refine wpAnyH_take (i := 2) (v := .int .i64 (p : Int)) rfl (by kernel_rfl) (by kernel_rfl) (by kernel_rfl) (fun _ _ _ h => h) (.inl ⟨by rfl, fun u hu => ?_⟩) S0 ?_
          · rw [hS] at hu; obtain ⟨q1, q2, q3⟩ := hu; go_simp
          refine wpAnyH_take (i := 3) (v := .slice (some ⟨w.heap.size, 0, none⟩) k k) rfl (by kernel_rfl) (by kernel_rfl) (by kernel_rfl) (fun _ _ _ h => h) (.inl ⟨by rfl, fun u hu => ?_⟩) S0 ?_
          · rw [hS] at hu; obtain ⟨q1, q2, q3⟩ := hu; go_simp
          refine wpAnyH_take (i := 4) (v := .pointer (some ⟨Bx, 1, none⟩)) rfl (by kernel_rfl) (by kernel_rfl) (by kernel_rfl) (fun _ _ _ h => h) (.inl ⟨by rfl, fun u hu => ?_⟩) S0 ?_
          · go_simp
          refine wpAnyH_take (i := 5) (v := .int .i64 (q : Int)) rfl (by kernel_rfl) (by kernel_rfl) (by kernel_rfl) (fun _ _ _ h => h) (.inl ⟨by rfl, fun u hu => ?_⟩) S0 ?_
          · rw [hS] at hu; obtain ⟨q1, q2, q3⟩ := hu; go_simp
          refine wpAnyH_take (i := 6) (v := .int .i64 mn) rfl (by kernel_rfl) (by kernel_rfl) (by kernel_rfl) (fun _ _ _ h => h) (.inl ⟨by rfl, fun u hu => ?_⟩) S0 ?_
          · go_simp
          refine wpAnyH_take (i := 7) (v := .int .i64 mn) rfl (by kernel_rfl) (by kernel_rfl) (by kernel_rfl) (fun _ _ _ h => h) (.inl ⟨by rfl, fun u hu => ?_⟩) S0 ?_
          · go_simp
          refine wpAnyH_take (i := 8) (v := .pointer (some ⟨w.heap.size, p, none⟩)) rfl (by kernel_rfl) (by kernel_rfl) (by kernel_rfl) (fun _ _ _ h => h) (.inl ⟨by rfl, fun u hu => ?_⟩) S0 ?_
          · go_simp
          refine wpAnyH_all (rs := [9]) (by kernel_rfl) (by simp) fun ii hi9 => ?_
          obtain rfl : ii = 9 := by simpa using hi9
          refine wpOp_step rfl fun K hKK => ?_
          rw [if_pos (by rfl)]
          have f1 : V1.cell? ⟨w.heap.size, p, none⟩ = some (.int .i64 (ls.getD p 0)) := j1.cell (by omega)
          have f2 : V1.frozen? ⟨w.heap.size, p, none⟩ = false := j1.frozen p
          have k2 := j1.set p mn
          have g1 := grownBy_set V1 w.heap.size p (.int .i64 mn)
          unfold Oper.wp
          go_simp
          obtain ⟨V2, hV2⟩ : ∃ V2, V1.setCell ⟨w.heap.size, p, none⟩ (.int .i64 mn) = V2 := ⟨_, rfl⟩
          have ko2 : KeepsOthers V1 V2 := by rw [← hV2]; exact KeepsOthers.setCell _ _ _
          rw [hV2] at k2 g1 ⊢
          have S1 : S V2 := SW V2 (g1.block _ (by have := j2.lt; omega) (by simp)) (g1.block _ (Array.getElem?_eq_some_iff.1 jx).1 (by simpa using hBxne))
          refine hKK _ _ ⟨S1, ?_⟩
          clear hKK K f1 f2 hV2
          refine wpAnyH_take (i := 10) (v := .pointer (some ⟨w.heap.size, q, none⟩)) rfl (by kernel_rfl) (by kernel_rfl) (by kernel_rfl) (fun _ _ _ h => h) (.inl ⟨by rfl, fun u hu => ?_⟩) S1 ?_
          · go_simp
          refine wpAnyH_all (rs := [11]) (by kernel_rfl) (by simp) fun ii hi11 => ?_
          obtain rfl : ii = 11 := by simpa using hi11
          refine wpOp_step rfl fun K hKK => ?_
          rw [if_pos (by rfl)]
          have f1 := k2.cell (j := q) (by simp; omega)
          have f2 := k2.frozen q
          have k3 := k2.set q mn
          have g2' := grownBy_set V2 w.heap.size q (.int .i64 mn)
          unfold Oper.wp
          go_simp
          obtain ⟨V3, hV3⟩ : ∃ V3, V2.setCell ⟨w.heap.size, q, none⟩ (.int .i64 mn) = V3 := ⟨_, rfl⟩
          have ko3 : KeepsOthers V2 V3 := by rw [← hV3]; exact KeepsOthers.setCell _ _ _
          rw [hV3] at k3 g2' ⊢
          have hs21 := g1.size
          have S2 : S V3 := SW V3 ((g2'.block _ (by have := j2.lt; omega) (by simp)).trans (g1.block _ (by have := j2.lt; omega) (by simp))) ((g2'.block _ (by have := (Array.getElem?_eq_some_iff.1 jx).1; omega) (by simpa using hBxne)).trans (g1.block _ (Array.getElem?_eq_some_iff.1 jx).1 (by simpa using hBxne)))
          refine hKK _ _ ⟨S2, ?_⟩
          clear hKK K f1 f2 hV3
          refine wpAnyH_done (by kernel_rfl) ?_ _
          have hs32 := g2'.size
          exact hfin'.out V3 { tmps := #[], defers := [] } (JK.out V3 ((ko2.trans ko3).from _)) (JT.out V3 ((Keeps.grown (T := fun k' _ => k' < w.heap.size) g1 (fun k' o e _ => by cases e; omega)).trans (Keeps.grown (T := fun k' _ => k' < w.heap.size) g2' (fun k' o e _ => by cases e; omega))))
            ⟨k3, (j2.kept g1 (by simp)).kept g2' (by simp), (j4.grown g1 (by have := j4.size; omega) (fun k' e => by cases e; exact Nat.le_refl _)).grown g2' (by have := j4.size; omega) (fun k' e => by cases e; exact Nat.le_refl _),
              fun D hD => by
                have hne : w.heap.size + 2 ≤ D := (hds'.out D hD).1
                have hlt := (Array.getElem?_eq_some_iff.1 (J5.out D hD)).1
                exact (g2'.block D (by omega) (by simp; omega)).trans ((g1.block D hlt (by simp; omega)).trans (J5.out D hD))⟩
      · obtain rfl : j = k := by omega
        gi_wp2
        refine leaves_marks (B := w.heap.size + 2) (t := 2) rfl (fun V => Row V w.heap.size ((List.range j).foldl (jround es) l0) ∧ Below w.heap.size w V) (fun V D hD hB hA => ⟨hA.1.kept (grownBy_putObj' V D _) (by simp; omega), hA.2.trans (belowK_b (w := w) (Nat.le_refl _) V D _ _ (by omega) hD rfl rfl)⟩) (fun V hA => ?_) Ds W hnd (fun D hD => hds'.out D hD) ⟨hrow, hbel⟩
        refine ⟨.slice (some ⟨w.heap.size, 0, none⟩) j j, rfl, ?_, hA.2⟩
        have h := hA.1.sees (cap := j)
        rwa [jfold_length, hl0n] at h
theorem joined_any (gp : Option Addr) (N : Nat) (es : Edges) (w : World) (hg : IsG w gp (N : Int) es) :
    Calls Try.prog 33 #[.pointer gp] w fun e w' => ∃ u, e = .returned u ∧ Sees w' u (joined N es) ∧ Below w.heap.size w w' := by
  rcases id hg with ⟨rfl, h0, rfl⟩ | ⟨gb, v, mb, base, rfl, hr⟩
  · obtain rfl : N = 0 := by omega
    refine (joined_nil w).mono ?_
    rintro e w' ⟨rfl, rfl⟩
    exact ⟨_, rfl, ⟨none, 0, rfl, .inl rfl⟩, Below.refl _ _⟩
  · exact joined_walk gb N es w hg
end Go.Proofs.Ytbjoljokdjgbnac
