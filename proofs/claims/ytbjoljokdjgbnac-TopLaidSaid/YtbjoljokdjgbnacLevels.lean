/-
  How far nodes are: what Levels comes to.
-/
import Derived.Test.YtbjoljokdjgbnacNew
import Derived.Deep.OwnRows
import Derived.Sort.LoopGhostIn
namespace Go.Proofs.Ytbjoljokdjgbnac
open Go.RowKit Go.MapKept Go.Shelf Go.Deep
attribute [local go_sem] Oper.semAt_some
/-- Block b is a row of the numbers ls. -/
def Row (W : World) (b : Nat) (ls : List Int) : Prop := W.heap[b]? = some (.cells (ls.map (Value.int .i64)).toArray 3 (0, 0))
theorem Row.lt {W : World} {b : Nat} {ls : List Int} (h : Row W b ls) : b < W.heap.size := (Array.getElem?_eq_some_iff.1 h).1
theorem Row.cell {W : World} {b : Nat} {ls : List Int} (h : Row W b ls) {j : Nat} (hj : j < ls.length) : W.cell? ⟨b, j, none⟩ = some (.int .i64 (ls.getD j 0)) := by
  simp [World.cell?, show W.heap[b]? = _ from h, hj, List.getD]
theorem Row.frozen {W : World} {b : Nat} {ls : List Int} (h : Row W b ls) (j : Nat) : W.frozen? ⟨b, j, none⟩ = false := by
  simp [World.frozen?, show W.heap[b]? = _ from h]
theorem Row.kept {W W' : World} {row : Option Nat} {b : Nat} {ls : List Int} (h : Row W b ls) (hg : W.grownBy W' row) (hne : some b ≠ row) : Row W' b ls := (hg.block b h.lt hne).trans h
theorem Row.alloc {W : World} {b : Nat} {ls : List Int} (h : Row W b ls) (o : Obj) : Row (W.alloc o) b ls := h.kept (World.grownBy_alloc W o none) (by simp)
theorem Row.set {W : World} {b : Nat} {ls : List Int} (h : Row W b ls) (j : Nat) (z : Int) : Row (W.setCell ⟨b, j, none⟩ (.int .i64 z)) b (ls.set j z) := by
  obtain ⟨hlt, hk⟩ := Array.getElem?_eq_some_iff.1 h
  show (W.heap.modify b _)[b]? = _
  rw [Array.getElem?_eq_getElem (by rw [Array.size_modify]; exact hlt), Array.getElem_modify_self, hk]
  simp [List.map_set]
theorem row_own {β : Type} (b : Nat) (f : β → List Int) : Own (fun s W => Row W b (f s)) := fun s X Y row hs hg hrow =>
  hs.kept hg (fun e' => by obtain ⟨o, ho, hc⟩ := hrow b e'.symm; rw [show X.heap[b]? = _ from hs] at ho; cases ho; cases hc)
theorem grownBy_set (W : World) (b j : Nat) (v : Value) : W.grownBy (W.setCell ⟨b, j, none⟩ v) (some b) :=
  ⟨rfl, rfl, rfl, (KeepsWalks.setCell W _ v).size, fun k _ hk => Below.heap_setCell _ _ _ k (fun e => hk (by rw [e]))⟩
theorem Row.sees {W : World} {b cap : Nat} {ls : List Int} (h : Row W b ls) : Sees W (.slice (some ⟨b, 0, none⟩) ls.length cap) ls :=
  ⟨_, cap, rfl, .inr ⟨b, 0, rfl, fun j hj => by rw [Nat.zero_add]; exact h.cell hj⟩⟩
/-- The marks of what is put off, at the blocks Ds. -/
def marks (Ds : List Nat) : List Deferred := Ds.map fun D => { target := .collected D, args := #[] }
/-- One edge, looked at. -/
def lstep (k : Int) (ls : List Int) (x : Int × Int) : List Int := if ls.getD x.1.toNat 0 = k ∧ ls.getD x.2.toNat 0 < 0 then ls.set x.2.toNat (k + 1) else ls
def lround (es : Edges) (ls : List Int) (k : Nat) : List Int := es.foldl (lstep (k : Int)) ls
/-- What Levels tells. -/
def levels (N : Nat) (es : Edges) (root : Int) : List Int :=
  if 0 ≤ root ∧ root < (N : Int) then (List.range N).foldl (lround es) ((List.replicate N (-1)).set root.toNat 0) else List.replicate N (-1)
theorem leaves_marks {fn : Func} {tmps : Array Value} {R : Ending → World → Prop} {t : Tmp} {B : Nat} (hr : fn.results = #[.tmp t]) (A : World → Prop) (hA : ∀ w D, w.heap[D]? = some (.deferred (some [])) → B ≤ D → A w → A (w.putObj D (.deferred none)))
    (hR : ∀ w, A w → R (.returned (tmps.getD t undef)) w) : ∀ (Ds : List Nat) (w : World), Ds.Nodup → (∀ D ∈ Ds, B ≤ D ∧ w.heap[D]? = some (.deferred (some []))) → A w → LeavesInM Fence.wide 0 Try.prog fn tmps R (marks Ds) .returning w
  | [], w, _, _, ha => ⟨_, results_tmp hr _ _ _, hR w ha⟩
  | D :: Ds, w, hn, hd, ha => by
    obtain ⟨hB, hD⟩ := hd D (by simp)
    refine ⟨by simp, .inl ⟨D, _, rfl, run_takeDeferred hD, ?_⟩⟩
    refine leaves_marks hr A hA hR Ds _ (List.nodup_cons.1 hn).2 (fun D' hD' => ⟨(hd D' (by simp [hD'])).1, ?_⟩) (hA w D hD hB ha)
    exact (World.putObj_heap_other (fun e => (List.nodup_cons.1 hn).1 (by rw [← e]; exact hD'))).trans (hd D' (by simp [hD'])).2
theorem lstep_length (k : Int) (ls : List Int) (x : Int × Int) : (lstep k ls x).length = ls.length := by unfold lstep; split <;> simp
theorem lround_length (k : Int) : ∀ (es : Edges) (ls : List Int), (es.foldl (lstep k) ls).length = ls.length
  | [], _ => rfl
  | x :: r, ls => by rw [List.foldl_cons, lround_length k r, lstep_length]
theorem upto_fold {β : Type} (f : β → Int × Int → β) (b : β) (es : Edges) : ∀ (k : Nat) (h : k ≤ es.length), ((upto es k h).map (·.1.2)).foldl f b = (es.take k).foldl f b
  | 0, _ => by simp [upto]
  | k + 1, h => by
    rw [upto, List.map_append, List.foldl_append, upto_fold f b es k (by omega), List.take_succ_eq_append_getElem (by omega), List.foldl_append]
    rfl
theorem fold_length (es : Edges) : ∀ (l : List Nat) (ls : List Int), (l.foldl (lround es) ls).length = ls.length
  | [], _ => rfl
  | k :: r, ls => by rw [List.foldl_cons, fold_length es r]; exact lround_length (k : Int) es ls
theorem made_cells (z : Value) (n : Nat) : madeCells #[z] n = (List.replicate n z).toArray := by
  apply Array.ext'
  apply List.ext_getElem
  · simp [madeCells]
  · intro i h1 h2
    simp [madeCells, Nat.mod_one]
theorem made_row (w : World) (N : Nat) : Row (w.alloc (.cells (madeCells #[.int .i64 0] N) 3)) w.heap.size (List.replicate N 0) := by
  have := World.alloc_heap_new w (.cells (madeCells #[.int .i64 0] N) 3)
  unfold Row
  rw [this, made_cells]
  simp
set_option maxRecDepth 100000 in
set_option maxHeartbeats 4000000 in
theorem levels_walk (gb N : Nat) (root : Int) (es : Edges) (w : World) (hg : IsG w (some ⟨gb, 0, none⟩) (N : Int) es) (hroot : -9223372036854775808 ≤ root ∧ root ≤ 9223372036854775807) :
    Calls Try.prog 34 #[.pointer (some ⟨gb, 0, none⟩), .int .i64 root] w fun e w' => ∃ u, e = .returned u ∧ Sees w' u (levels N es root) ∧ Below w.heap.size w w' := by
  have hwk := hg.walks
  have hsh := hg.short
  rcases hg with ⟨h, _⟩ | ⟨gb', v, mb, base, e, h1, h2, h3, hgd, c0, c1, hse, c2, hm⟩
  · cases h
  obtain rfl : gb = gb' := by simpa using e
  have hgl := World.block_lt_of_cell? w _ c0
  dsimp only at hgl
  have hN : N ≤ 12 := by omega
  have hmk := run_make_row' (P := Try.prog) 70 3 (.int .i64 0) 8 Try.underlying70 Try.info3 rfl .i64 .i64 N (by omega) (by omega)
  clear hm c2 hse
  refine (callsIn_wide (n := 0)).1 ?_
  refine callsIn_of_wp_marks Try.func34 rfl trivial ?_ rfl
  simp only [Try.ntmps34, List.size_toArray, List.length_cons, List.length_nil, Nat.reduceAdd, Nat.reduceSub, Array.replicate_succ, Array.replicate_zero, List.push_toArray, List.append_toArray, List.nil_append, List.cons_append]
  gi_wp2
  have r0 := (made_row w N).alloc (.cells #[.slice (some ⟨w.heap.size, 0, none⟩) N N] 70)
  have b0 := Boxed.new (w.alloc (.cells (madeCells #[.int .i64 0] N) 3)) 70 (.slice (some ⟨w.heap.size, 0, none⟩) N N)
  rw [World.size_alloc] at b0
  have hB0 : Below w.heap.size w ((w.alloc (.cells (madeCells #[.int .i64 0] N) 3)).alloc (.cells #[.slice (some ⟨w.heap.size, 0, none⟩) N N] 70)) := ((Below.refl _ w).alloc (Nat.le_refl _) _).alloc (by simp) _
  have hsz : ((w.alloc (.cells (madeCells #[.int .i64 0] N) 3)).alloc (.cells #[.slice (some ⟨w.heap.size, 0, none⟩) N N] 70)).heap.size = w.heap.size + 2 := by simp
  obtain ⟨W0, hW0⟩ : ∃ W0, (w.alloc (.cells (madeCells #[.int .i64 0] N) 3)).alloc (.cells #[.slice (some ⟨w.heap.size, 0, none⟩) N N] 70) = W0 := ⟨_, rfl⟩
  rw [hW0] at r0 b0 hB0 hsz ⊢
  clear hW0 hmk
  gi_loopw [19] (fun i wr => ∃ k : Nat, k ≤ N ∧ i = .int .i64 k ∧ Row wr w.heap.size (List.replicate k (-1) ++ List.replicate (N - k) 0) ∧ Boxed wr (w.heap.size + 1) 70 (.slice (some ⟨w.heap.size, 0, none⟩) N N) ∧ Below w.heap.size w wr)
    (fun i _ => N - (intOf i).toNat)
  case atStart => exact ⟨0, Nat.zero_le _, rfl, by simpa using r0, b0, hB0⟩
  case round =>
    obtain ⟨k, hk, rfl, hrw, hbx, hbl⟩ := hrel
    have cb := hbx.cell
    by_cases hlt : k < N
    · have ck := hrw.cell (j := k) (by simp; omega)
      have cf := hrw.frozen k
      gi_wp2
      go_roundw
      case measure => simp [intOf]; omega
      case rel =>
        refine ⟨k + 1, by omega, by go_num, ?_, hbx.kept (grownBy_set wr w.heap.size k _) (by simp), hbl.setCell (p := ⟨w.heap.size, k, none⟩) (Nat.le_refl _) _⟩
        have := hrw.set k (-1)
        have e : (List.replicate k (-1) ++ List.replicate (N - k) 0 : List Int).set k (-1) = List.replicate (k + 1) (-1) ++ List.replicate (N - (k + 1)) 0 := by
          rw [List.set_append_right _ _ (by simp)]
          obtain ⟨d, hd⟩ : ∃ d, N - k = d + 1 := ⟨N - k - 1, by omega⟩
          rw [hd, show N - (k + 1) = d by omega]
          rw [List.replicate_succ' (n := k), List.append_assoc]
          simp [List.replicate_succ]
        rw [e] at this
        exact this
    · obtain rfl : k = N := by omega
      have hrw' : Row wr w.heap.size (List.replicate k (-1)) := by simpa using hrw
      have c0' : wr.cell? ⟨gb, 0, none⟩ = some (.int .i64 (k : Int)) := (hbl.cell (p := ⟨gb, 0, none⟩) hgl).trans c0
      clear hrw
      by_cases hin : 0 ≤ root ∧ root < (k : Int)
      · obtain ⟨r, rfl⟩ : ∃ r : Nat, root = (r : Int) := ⟨root.toNat, by omega⟩
        have hrk : r < k := by omega
        have hd : (decide ((0 : Int) ≤ (r : Int)) && decide ((r : Int) < (k : Int))) = true := by simp; omega
        have ck := hrw'.cell (j := r) (by simp; omega)
        have cf := hrw'.frozen r
        gi_wp2_with (refine ⟨trivial, rfl, ?_⟩; gi_at_call 63; refine (callsIn_wide.2 (isNode_any _ _ _)).mono ?_; rintro e w' ⟨rfl, rfl⟩; rw [hd])
        clear ck cf
        have hrw1 : Row (wr.setCell ⟨w.heap.size, r, none⟩ (.int .i64 0)) w.heap.size ((List.replicate k (-1)).set r 0) := hrw'.set r 0
        have hbx1 : Boxed (wr.setCell ⟨w.heap.size, r, none⟩ (.int .i64 0)) (w.heap.size + 1) 70 (.slice (some ⟨w.heap.size, 0, none⟩) k k) := hbx.kept (grownBy_set wr w.heap.size r _) (by simp)
        have hbl1 : Below w.heap.size w (wr.setCell ⟨w.heap.size, r, none⟩ (.int .i64 0)) := hbl.setCell (p := ⟨w.heap.size, r, none⟩) (Nat.le_refl _) _
        have hws1 : w.heap.size + 2 ≤ (wr.setCell ⟨w.heap.size, r, none⟩ (.int .i64 0)).heap.size := by have := hbx1.lt; omega
        obtain ⟨W1, hW1⟩ : ∃ W1, wr.setCell ⟨w.heap.size, r, none⟩ (.int .i64 0) = W1 := ⟨_, rfl⟩
        rw [hW1] at hrw1 hbx1 hbl1 hws1 ⊢
        clear hW1 hrw' hbx hbl cb c0'
        obtain ⟨l0, hl0⟩ : ∃ l0, l0 = (List.replicate k (-1) : List Int).set r 0 := ⟨_, rfl⟩
        have hl0n : l0.length = k := by rw [hl0]; simp
        have hres : levels k es (r : Int) = (List.range k).foldl (lround es) l0 := by unfold levels; rw [if_pos hin, hl0]; simp
        rw [← hl0] at hrw1
        clear hl0
        refine wpIn_loop_ghost_k (fun g a W => ∃ (j : Nat) (u7 u42 u43 u44 u45 u69 : Value) (Ds : List Nat), j + g = k ∧ a = { tmps := #[.pointer (some ⟨gb, 0, none⟩), .int .i64 (r : Int), undef, undef, .slice none 0 0, .pointer (some ⟨w.heap.size + 1, 0, none⟩), u6, u7, undef, undef, .pointer (some ⟨gb, 0, none⟩), .bool false, .pointer (some ⟨gb, 0, none⟩), .pointer (some ⟨gb, 0, none⟩), .pointer (some ⟨gb, 0, none⟩), .int .i64 (k : Int), .slice (some ⟨w.heap.size, 0, none⟩) k k, .slice (some ⟨w.heap.size, 0, none⟩) k k, .int .i64 (k : Int), .int .i64 (k : Int), .bool false, u21, u22, u23, u24, u25, .pointer (some ⟨gb, 0, none⟩), .pointer (some ⟨gb, 0, none⟩), .pointer (some ⟨gb, 0, none⟩), .int .i64 (k : Int), .int .i64 (r : Int), .bool true, .bool false, undef, .slice (some ⟨w.heap.size, 0, none⟩) k k, .int .i64 (r : Int), .pointer (some ⟨w.heap.size, r, none⟩), .pointer (some ⟨gb, 0, none⟩), .pointer (some ⟨gb, 0, none⟩), .pointer (some ⟨gb, 0, none⟩), .int .i64 (k : Int), .int .i64 (j : Int), u42, u43, u44, u45, undef, undef, undef, undef, undef, undef, undef, undef, undef, undef, undef, undef, undef, undef, undef, undef, undef, undef, undef, undef, undef, undef, undef, u69, undef], defers := marks Ds } ∧
            Row W w.heap.size ((List.range j).foldl (lround es) l0) ∧ Boxed W (w.heap.size + 1) 70 (.slice (some ⟨w.heap.size, 0, none⟩) k k) ∧ Below w.heap.size w W ∧ Ds.Nodup ∧ ∀ D ∈ Ds, w.heap.size + 2 ≤ D ∧ W.heap[D]? = some (.deferred (some []))) k
          ⟨0, undef, undef, undef, undef, undef, undef, [], by omega, rfl, by simpa using hrw1, hbx1, hbl1, by simp, by simp⟩ ?_
        rintro g a W ⟨j, u7, u42, u43, u44, u45, u69, Ds, hjg, rfl, hrow, hbox, hbel, hnd, hds⟩ J K hJ hK
        have hJ' : Hid _ := hJ
        have hK' : Hid _ := hK
        have hds' : Hid _ := hds
        clear hJ hK hds
        have cbx := hbox.cell
        by_cases hjk : j < k
        · gi_wp2_with (refine ⟨trivial, rfl, ?_⟩; gi_at_call 61; refine (callsIn_wide.2 (walk_any _ _)).mono ?_; rintro e w' ⟨rfl, rfl⟩)
          have b1 := hbox.lt
          have r2 := (hrow.alloc (.cells #[.int .i64 (j : Int)] 3)).alloc (.cells #[.pointer (some ⟨gb, 0, none⟩)] 63)
          have x2 := (hbox.alloc (.cells #[.int .i64 (j : Int)] 3)).alloc (.cells #[.pointer (some ⟨gb, 0, none⟩)] 63)
          have k2 := (Boxed.new W 3 (.int .i64 (j : Int))).alloc (.cells #[.pointer (some ⟨gb, 0, none⟩)] 63)
          have g2 := Boxed.new (W.alloc (.cells #[.int .i64 (j : Int)] 3)) 63 (.pointer (some ⟨gb, 0, none⟩))
          rw [World.size_alloc] at g2
          have hb2 : Below W.heap.size W ((W.alloc (.cells #[.int .i64 (j : Int)] 3)).alloc (.cells #[.pointer (some ⟨gb, 0, none⟩)] 63)) := ((Below.refl _ W).alloc (Nat.le_refl _) _).alloc (by simp) _
          have hs2 : ((W.alloc (.cells #[.int .i64 (j : Int)] 3)).alloc (.cells #[.pointer (some ⟨gb, 0, none⟩)] 63)).heap.size = W.heap.size + 2 := by simp
          obtain ⟨W2, hW2⟩ : ∃ W2, (W.alloc (.cells #[.int .i64 (j : Int)] 3)).alloc (.cells #[.pointer (some ⟨gb, 0, none⟩)] 63) = W2 := ⟨_, rfl⟩
          rw [hW2] at r2 x2 k2 g2 hb2 hs2 ⊢
          clear hW2
          have hbe2 : Below w.heap.size w W2 := hbel.trans (hb2.mono (by omega))
          obtain ⟨cur, hcur⟩ : ∃ cur, cur = (List.range j).foldl (lround es) l0 := ⟨_, rfl⟩
          have hcn : cur.length = k := by rw [hcur]; exact (fold_length es (List.range j) l0).trans hl0n
          rw [← hcur] at r2
          have hdl : ∀ D ∈ Ds, D < W.heap.size := fun D hD => (Array.getElem?_eq_some_iff.1 (hds'.out D hD).2).1
          refine range_law (gf := 76) (lb := #[.pointer (some ⟨W.heap.size + 1, 0, none⟩)]) rfl (enters_of Try.func76 (by kernel_rfl) rfl) (T := fun k' _ => k' < w.heap.size) (fun k' _ hk' ht => by omega)
            (walk_seq (W.heap.size + 1) w.heap.size _ (fun _ _ h => h) _ es (by omega) w W2 hwk (Nat.le_refl _) (by omega) hbe2 g2.cell) (fun _ => rfl)
            (fun pre V => Row V w.heap.size ((pre.map (·.1.2)).foldl (lstep (j : Int)) cur) ∧ Boxed V (w.heap.size + 1) 70 (.slice (some ⟨w.heap.size, 0, none⟩) k k) ∧ Boxed V W.heap.size 3 (.int .i64 (j : Int)) ∧ Below w.heap.size w V ∧ ∀ D ∈ Ds, V.heap[D]? = some (.deferred (some [])))
            (fun _ _ => False) ?hI (fun _ _ _ _ hs _ _ => hs) ?h0
            (fun s V => ∃ Bx, (Row V w.heap.size ((s.1.map (·.1.2)).foldl (lstep (j : Int)) cur) ∧ Boxed V (w.heap.size + 1) 70 (.slice (some ⟨w.heap.size, 0, none⟩) k k) ∧ Boxed V W.heap.size 3 (.int .i64 (j : Int)) ∧ Below w.heap.size w V ∧ ∀ D ∈ Ds, V.heap[D]? = some (.deferred (some []))) ∧ V.heap[Bx]? = some (.cells #[.int .i64 s.2.1.1.2.1, .int .i64 s.2.1.1.2.2] 69 (0, 0)) ∧ s.2.2 = { tmps := #[.pointer (some ⟨gb, 0, none⟩), .int .i64 (r : Int), undef, undef, .slice none 0 0, .pointer (some ⟨w.heap.size + 1, 0, none⟩), u6, .pointer (some ⟨W.heap.size, 0, none⟩), undef, .pointer (some ⟨Bx, 0, none⟩), .pointer (some ⟨gb, 0, none⟩), .bool false, .pointer (some ⟨gb, 0, none⟩), .pointer (some ⟨gb, 0, none⟩), .pointer (some ⟨gb, 0, none⟩), .int .i64 (k : Int), .slice (some ⟨w.heap.size, 0, none⟩) k k, .slice (some ⟨w.heap.size, 0, none⟩) k k, .int .i64 (k : Int), .int .i64 (k : Int), .bool false, u21, u22, u23, u24, u25, .pointer (some ⟨gb, 0, none⟩), .pointer (some ⟨gb, 0, none⟩), .pointer (some ⟨gb, 0, none⟩), .int .i64 (k : Int), .int .i64 (r : Int), .bool true, .bool false, undef, .slice (some ⟨w.heap.size, 0, none⟩) k k, .int .i64 (r : Int), .pointer (some ⟨w.heap.size, r, none⟩), .pointer (some ⟨gb, 0, none⟩), .pointer (some ⟨gb, 0, none⟩), .pointer (some ⟨gb, 0, none⟩), .int .i64 (k : Int), .int .i64 (j : Int), .bool true, .int .i64 (j : Int), .pointer (some ⟨gb, 0, none⟩), .func (.func 76) #[] #[.pointer (some ⟨W.heap.size + 1, 0, none⟩)], .int .i64 (s.2.1.1.1 : Int), .agg #[.int .i64 s.2.1.1.2.1, .int .i64 s.2.1.1.2.2], undef, undef, undef, undef, undef, undef, undef, undef, undef, undef, undef, undef, undef, undef, undef, undef, undef, undef, undef, undef, undef, u69, undef], defers := [] })
            ?hAx ?assign ?body ?done ?stop
          case stop => exact fun _ _ _ _ h => h.elim
          case h0 => exact ⟨by simpa using r2, x2, k2, hbe2, fun D hD => (hb2.block D (hdl D hD)).trans (hds'.out D hD).2⟩
          case hI =>
            rintro pre X Y row ⟨i1, i2, i3, i4, i5⟩ hg hrw
            have hr' : ∀ r, row = some r → ∃ o : Obj, X.heap[r]? = some o ∧ o.isCells = false := fun r e => (hrw r e).2
            exact ⟨row_own w.heap.size (fun (_ : Unit) => _) () X Y row i1 hg hr', boxed_own (w.heap.size + 1) 70 (fun (_ : Unit) => _) () X Y row i2 hg hr', boxed_own W.heap.size 3 (fun (_ : Unit) => _) () X Y row i3 hg hr', ownFrom_below (β := Unit) (B := W2.heap.size) (Nat.le_refl _) (by omega) () X Y row i4 hg hrw,
              fun D hD => (hg.block D (Array.getElem?_eq_some_iff.1 (i5 D hD)).1 fun e => by have := (hrw D e.symm).1; have := hdl D hD; omega).trans (i5 D hD)⟩
          case hAx =>
            rintro s X Y row ⟨Bx, ⟨i1, i2, i3, i4, i5⟩, hx, ha⟩ hg hrw
            have hr' : ∀ r, row = some r → ∃ o : Obj, X.heap[r]? = some o ∧ o.isCells = false := fun r e => (hrw r e).2
            refine ⟨Bx, ⟨row_own w.heap.size (fun (_ : Unit) => _) () X Y row i1 hg hr', boxed_own (w.heap.size + 1) 70 (fun (_ : Unit) => _) () X Y row i2 hg hr', boxed_own W.heap.size 3 (fun (_ : Unit) => _) () X Y row i3 hg hr', ownFrom_below (β := Unit) (B := W2.heap.size) (Nat.le_refl _) (by omega) () X Y row i4 hg hrw,
              fun D hD => (hg.block D (Array.getElem?_eq_some_iff.1 (i5 D hD)).1 fun e => by have := (hrw D e.symm).1; have := hdl D hD; omega).trans (i5 D hD)⟩, ?_, ha⟩
            refine (hg.block _ (Array.getElem?_eq_some_iff.1 hx).1 fun e => ?_).trans hx
            obtain ⟨_, o, ho, hc⟩ := hrw _ e.symm
            rw [hx] at ho; cases ho; cases hc
          case assign =>
            rintro l pre x V Kx ⟨i1, i2, i3, i4, i5⟩ hKx
            dsimp only [encA]
            gi_wp2
            exact hKx _ _ ((KeepsOthers.alloc _ _).from _) (Keeps.alloc _ _ _) ⟨V.heap.size, ⟨i1.alloc _, i2.alloc _, i3.alloc _, i4.alloc (by have := i4.size; omega) _, fun D hD => (Below.heap_alloc _ _ _ (Array.getElem?_eq_some_iff.1 (i5 D hD)).1).trans (i5 D hD)⟩, World.alloc_heap_new V _, rfl⟩
          case done =>
            rintro D xs V hD rfl ⟨i1, i2, i3, i4, i5⟩ hKD
            have hfin : Row V w.heap.size ((List.range (j + 1)).foldl (lround es) l0) := by
              rw [upto_fold (lstep (j : Int)) cur es es.length (Nat.le_refl _), List.take_length] at i1
              rw [List.range_succ, List.foldl_append, List.foldl_cons, List.foldl_nil, ← hcur]
              exact i1
            have hgo : ∀ u, K { tmps := #[.pointer (some ⟨gb, 0, none⟩), .int .i64 (r : Int), undef, undef, .slice none 0 0, .pointer (some ⟨w.heap.size + 1, 0, none⟩), u6, .pointer (some ⟨W.heap.size, 0, none⟩), undef, undef, .pointer (some ⟨gb, 0, none⟩), .bool false, .pointer (some ⟨gb, 0, none⟩), .pointer (some ⟨gb, 0, none⟩), .pointer (some ⟨gb, 0, none⟩), .int .i64 (k : Int), .slice (some ⟨w.heap.size, 0, none⟩) k k, .slice (some ⟨w.heap.size, 0, none⟩) k k, .int .i64 (k : Int), .int .i64 (k : Int), .bool false, u21, u22, u23, u24, u25, .pointer (some ⟨gb, 0, none⟩), .pointer (some ⟨gb, 0, none⟩), .pointer (some ⟨gb, 0, none⟩), .int .i64 (k : Int), .int .i64 (r : Int), .bool true, .bool false, undef, .slice (some ⟨w.heap.size, 0, none⟩) k k, .int .i64 (r : Int), .pointer (some ⟨w.heap.size, r, none⟩), .pointer (some ⟨gb, 0, none⟩), .pointer (some ⟨gb, 0, none⟩), .pointer (some ⟨gb, 0, none⟩), .int .i64 (k : Int), .int .i64 ((j + 1 : Nat) : Int), .bool true, .int .i64 (j : Int), .pointer (some ⟨gb, 0, none⟩), .func (.func 76) #[] #[.pointer (some ⟨W.heap.size + 1, 0, none⟩)], undef, undef, undef, undef, undef, undef, undef, undef, undef, undef, undef, undef, undef, undef, undef, undef, undef, undef, undef, undef, undef, undef, undef, u, undef], defers := marks (D :: Ds) } V := fun u =>
              hK'.out _ _ ⟨g - 1, by omega, hJ'.out _ _ _ ⟨j + 1, _, _, _, _, _, _, D :: Ds, by omega, rfl, hfin, i2, i4, List.nodup_cons.2 ⟨fun h => by have := hdl D h; omega, hnd⟩, fun D' hD' => by
                rcases List.mem_cons.1 hD' with rfl | h
                · exact ⟨by omega, hKD⟩
                · exact ⟨(hds'.out D' h).1, i5 D' h⟩⟩⟩
            have hgo' : Hid _ := hgo
            clear hgo i1 i2 i3 i4 i5 hfin
            gi_wp2
            exact hgo'.out _
          case body =>
            rintro l pre ⟨⟨i, p, q⟩, hx0⟩ a' V hlen ⟨Bx, ⟨i1, i2, i3, i4, i5⟩, hx, ha⟩
            dsimp only at hx ha hlen i1
            subst ha
            have hg0 := hgd (p, q) (List.mem_of_getElem? hx0)
            simp only [good, Bool.and_eq_true, decide_eq_true_eq] at hg0
            obtain ⟨p, rfl⟩ : ∃ p' : Nat, p = (p' : Int) := ⟨p.toNat, by omega⟩
            obtain ⟨q, rfl⟩ : ∃ q' : Nat, q = (q' : Int) := ⟨q.toNat, by omega⟩
            obtain ⟨ls, hls⟩ : ∃ ls, ls = (pre.map (·.1.2)).foldl (lstep (j : Int)) cur := ⟨_, rfl⟩
            have hln : ls.length = k := by rw [hls, lround_length]; exact hcn
            have hnx : ((pre ++ [(⟨(i, (p : Int), (q : Int)), hx0⟩ : At es)]).map (·.1.2)).foldl (lstep (j : Int)) cur = lstep (j : Int) ls ((p : Int), (q : Int)) := by rw [List.map_append, List.foldl_append, hls]; rfl
            rw [← hls] at i1
            have hp : p < k := by omega
            have hq : q < k := by omega
            have e1 := i2.cell
            have e2 := i3.cell
            have e3 : V.cell? ⟨Bx, 0, none⟩ = some (.int .i64 (p : Int)) := by simp [World.cell?, hx]
            have e4 : V.cell? ⟨Bx, 1, none⟩ = some (.int .i64 (q : Int)) := by simp [World.cell?, hx]
            have e5 := i1.cell (j := p) (by omega)
            have e6 := i1.cell (j := q) (by omega)
            have e7 := i1.frozen q
            have hfin : ∀ V' a', KeepsFrom W2.heap.size V V' → Keeps (fun k' _ => k' < w.heap.size) V V' → (Row V' w.heap.size (((pre ++ [(⟨(i, (p : Int), (q : Int)), hx0⟩ : At es)]).map (·.1.2)).foldl (lstep (j : Int)) cur) ∧ Boxed V' (w.heap.size + 1) 70 (.slice (some ⟨w.heap.size, 0, none⟩) k k) ∧ Boxed V' W.heap.size 3 (.int .i64 (j : Int)) ∧ Below w.heap.size w V' ∧ ∀ D ∈ Ds, V'.heap[D]? = some (.deferred (some []))) → After W2.heap.size (fun k' _ => k' < w.heap.size) (fun pre V => Row V w.heap.size ((pre.map (·.1.2)).foldl (lstep (j : Int)) cur) ∧ Boxed V (w.heap.size + 1) 70 (.slice (some ⟨w.heap.size, 0, none⟩) k k) ∧ Boxed V W.heap.size 3 (.int .i64 (j : Int)) ∧ Below w.heap.size w V ∧ ∀ D ∈ Ds, V.heap[D]? = some (.deferred (some []))) (fun _ _ => False) (pre ++ [(⟨(i, (p : Int), (q : Int)), hx0⟩ : At es)]) V .normal a' V' := fun V' _ a1 a2 a3 => ⟨a1, a2, a3⟩
            rw [hnx] at hfin
            have hfin' : Hid _ := hfin
            have hi5 : Hid _ := i5
            have hls' : Hid _ := hls
            clear hfin i5 hnx hls
            obtain ⟨z, hz⟩ : ∃ z, ls.getD p 0 = z := ⟨_, rfl⟩
            obtain ⟨y, hy⟩ : ∃ y, ls.getD q 0 = y := ⟨_, rfl⟩
            rw [hz] at e5
            rw [hy] at e6
            by_cases hA : z = (j : Int)
            · subst hA
              by_cases hB : y < 0
              · have hst : lstep (j : Int) ls ((p : Int), (q : Int)) = ls.set q ((j : Int) + 1) := by
                  unfold lstep; rw [if_pos (by simp [List.getD] at hz hy; simp [hz, hy, hB])]; simp
                rw [hst] at hfin'
                clear hst hz hy
                gi_wp2
                refine round_quiet (by kernel_rfl) (by kernel_rfl) ?_
                repeat (go_big_quiet_step (fail))
                refine wpQuiet_nil ?_
                intro _ hw'
                obtain ⟨nq, hw''⟩ := hw'
                subst hw''
                have e7' : (V.drewN nq).frozen? ⟨w.heap.size, q, none⟩ = false := e7
                have e6' : (V.drewN nq).cell? ⟨w.heap.size, q, none⟩ = some (.int .i64 y) := e6
                gi_wp2
                have j1 : Row (V.drewN nq) w.heap.size ls := i1
                have j2 : Boxed (V.drewN nq) (w.heap.size + 1) 70 (.slice (some ⟨w.heap.size, 0, none⟩) k k) := i2
                have j3 : Boxed (V.drewN nq) W.heap.size 3 (.int .i64 (j : Int)) := i3
                have j4 : Below w.heap.size w (V.drewN nq) := ⟨i4.os, i4.tape, i4.output, i4.size, i4.block⟩
                have gs := grownBy_set (V.drewN nq) w.heap.size q (.int .i64 ((j : Int) + 1))
                exact hfin'.out _ _ ⟨((KeepsOthers.setCell (V.drewN nq) ⟨w.heap.size, q, none⟩ (.int .i64 ((j : Int) + 1))).from W2.heap.size).size, ((KeepsOthers.setCell (V.drewN nq) ⟨w.heap.size, q, none⟩ (.int .i64 ((j : Int) + 1))).from W2.heap.size).same⟩
                  ⟨(Keeps.grown (T := fun k' _ => k' < w.heap.size) gs (fun k' o e _ => by cases e; omega)).1, (Keeps.grown (T := fun k' _ => k' < w.heap.size) gs (fun k' o e _ => by cases e; omega)).2⟩
                  ⟨j1.set q _, j2.kept gs (by simp), j3.kept gs (by simp; omega), j4.setCell (p := ⟨w.heap.size, q, none⟩) (Nat.le_refl _) _, fun D hD => (gs.block D (Array.getElem?_eq_some_iff.1 (hi5.out D hD)).1 (by have := (hds'.out D hD).1; simp; omega)).trans (hi5.out D hD)⟩
              · have hst : lstep (j : Int) ls ((p : Int), (q : Int)) = ls := by
                  unfold lstep; rw [if_neg (by simp [List.getD] at hz hy; simp [hz, hy]; omega)]
                rw [hst] at hfin'
                have hBd : decide (y < 0) = false := by simp; omega
                clear hst hz hy
                gi_wp2
                refine round_quiet (by kernel_rfl) (by kernel_rfl) ?_
                repeat (go_big_quiet_step (fail))
                refine wpQuiet_nil ?_
                intro _ hw'
                obtain ⟨nq, hw''⟩ := hw'
                subst hw''
                gi_wp2
                exact hfin'.out _ _ ⟨Nat.le_refl _, fun _ _ _ h _ => h⟩ ⟨Nat.le_refl _, fun _ _ _ h => h⟩ ⟨i1, i2, i3, ⟨i4.os, i4.tape, i4.output, i4.size, i4.block⟩, hi5.out⟩
            · have hst : lstep (j : Int) ls ((p : Int), (q : Int)) = ls := by
                unfold lstep; rw [if_neg (by simp [List.getD] at hz hy; simp [hz, hA])]
              rw [hst] at hfin'
              have hAd : (z == (j : Int)) = false := by simp [hA]
              clear hst hz hy
              gi_wp2
              refine round_quiet (by kernel_rfl) (by kernel_rfl) ?_
              repeat (go_big_quiet_step (fail))
              refine wpQuiet_nil ?_
              intro _ hw'
              obtain ⟨nq, hw''⟩ := hw'
              subst hw''
              gi_wp2
              exact hfin'.out _ _ ⟨Nat.le_refl _, fun _ _ _ h _ => h⟩ ⟨Nat.le_refl _, fun _ _ _ h => h⟩ ⟨i1, i2, i3, ⟨i4.os, i4.tape, i4.output, i4.size, i4.block⟩, hi5.out⟩
        · obtain rfl : j = k := by omega
          gi_wp2
          refine leaves_marks (B := w.heap.size + 2) (t := 4) rfl (fun V => Row V w.heap.size ((List.range j).foldl (lround es) l0) ∧ Below w.heap.size w V) (fun V D hD hB hA => ⟨hA.1.kept (grownBy_putObj' V D _) (by simp; omega), hA.2.trans (belowK_b (w := w) (Nat.le_refl _) V D _ _ (by omega) hD rfl rfl)⟩) (fun V hA => ?_) Ds W hnd (fun D hD => hds'.out D hD) ⟨hrow, hbel⟩
          refine ⟨.slice (some ⟨w.heap.size, 0, none⟩) j j, rfl, ?_, hA.2⟩
          have h := hA.1.sees (cap := j)
          rwa [fold_length, hl0n] at h
      · have hd : (decide (0 ≤ root) && decide (root < (k : Int))) = false := by simp; omega
        gi_wp2_with (refine ⟨trivial, rfl, ?_⟩; gi_at_call 63; refine (callsIn_wide.2 (isNode_any _ _ _)).mono ?_; rintro e w' ⟨rfl, rfl⟩; rw [hd])
        have hS : Sees wr (.slice (some ⟨w.heap.size, 0, none⟩) k k) (levels k es root) := by
          unfold levels
          rw [if_neg hin]
          have := hrw'.sees (cap := k)
          rwa [List.length_replicate] at this
        exact ⟨_, results_tmp rfl _ _ _, .slice (some ⟨w.heap.size, 0, none⟩) k k, rfl, hS, hbl⟩
end Go.Proofs.Ytbjoljokdjgbnac
