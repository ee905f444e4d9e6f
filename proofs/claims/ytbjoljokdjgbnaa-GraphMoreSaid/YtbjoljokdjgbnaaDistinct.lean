/-
  The distinct edges: what Distinct comes to, the program's and the document's.
-/
import Derived.Test.YtbjoljokdjgbnaaMapN
import Derived.Test.YtbjoljokdjgbnaaRGraph
import Derived.Test.YtbjoljokdjgbnaaDec
namespace Go.Proofs.Ytbjoljokdjgbnaa
open Go.RowKit Go.Deep
open Go.ChangeMaps (setBlock)
/-- How often x stands among the first k. -/
def cnt (es : Edges) (k : Nat) (p q : Int) : Int := ((es.take k).count (p, q) : Nat)
def fresh (es : Edges) (j : Nat) : Bool := decide (¬ (es.getD j (0, 0)).1 = (es.getD j (0, 0)).2) && decide ((es.take j).count (es.getD j (0, 0)) = 0)
/-- The distinct ones of the first k. -/
def dist (es : Edges) (k : Nat) : Edges := ((List.range k).filter (fresh es)).map fun j => es.getD j (0, 0)
theorem dist_succ (es : Edges) (k : Nat) : dist es (k + 1) = dist es k ++ (if fresh es k then [es.getD k (0, 0)] else []) := by
  simp only [dist, List.range_succ, List.filter_append, List.map_append]
  congr 1
  by_cases h : fresh es k <;> simp [h]
theorem dist_length (es : Edges) (k : Nat) : (dist es k).length ≤ k := by
  unfold dist
  rw [List.length_map]
  exact Nat.le_trans (List.length_filter_le _ _) (by simp)
theorem cnt_succ (es : Edges) (k : Nat) (x : Int × Int) (hx : es[k]? = some x) : cnt es (k + 1) = updN (cnt es k) x.1 x.2 (cnt es k x.1 x.2 + 1) := by
  funext p q
  unfold cnt updN
  rw [List.take_add_one, hx, List.count_append]
  by_cases h : p = x.1 ∧ q = x.2
  · rw [if_pos h, h.1, h.2]
    simp
  · rw [if_neg h]
    have : ¬ x = (p, q) := fun e => h (by rw [e]; exact ⟨rfl, rfl⟩)
    simp [this]
theorem cnt_le (es : Edges) (k : Nat) (p q : Int) : 0 ≤ cnt es k p q ∧ cnt es k p q ≤ k := by
  unfold cnt
  have := List.count_le_length (a := (p, q)) (l := es.take k)
  simp at this
  omega
theorem lie_one (W : World) (x : Int × Int) (t : TypeId) : SeesE (W.alloc (.cells #[.int .i64 x.1, .int .i64 x.2] t)) (.slice (some ⟨W.heap.size, 0, none⟩) 1 1) [x] := by
  refine ⟨_, 1, rfl, .inr ⟨W.heap.size, 0, rfl, fun j y hy => ?_⟩⟩
  match j, hy with
  | 0, hy => cases hy; exact ⟨cell_pair0 _ _ _ _, cell_pair1 _ _ _ _⟩
  | j + 1, hy => simp at hy
theorem setBlock_grown (u : World) (b : Nat) (o : Obj) : u.grownBy (setBlock u b o) (some b) :=
  ⟨rfl, rfl, rfl, by simp [setBlock], fun k _ hk => by simp [setBlock]; rw [Array.getElem?_setIfInBounds_ne]; exact fun e => hk (by rw [e])⟩
set_option maxRecDepth 100000 in
set_option maxHeartbeats 4000000 in
theorem distinct_walk (a : Option Addr) (cap : Nat) (es : Edges) (w : World) (hs : es = [] ∨ ∃ b off, a = some ⟨b, off, none⟩ ∧ Lie w b off es) (h32 : es.length ≤ 32) (hwf : ∀ x ∈ es, Wf x.1 ∧ Wf x.2) :
    Calls Try.prog 23 #[.slice a es.length cap] w fun e w' => ∃ u, e = .returned u ∧ SeesE w' u (dist es es.length) ∧ Below w.heap.size w w' := by
  obtain ⟨m, hm⟩ : ∃ m, es.length = m := ⟨_, rfl⟩
  rw [hm] at h32 ⊢
  have HM := hidI hm
  have HS := hidI hs
  have HW := hidI hwf
  have hmm := @run_makeMap Try.prog
  clear hm hs hwf
  go_enter Try.func23, Try.ntmps23
  go_wp2
  clear hmm
  have HMN := hidI (mapN_made w)
  go_loopg [3, 10] m (fun g s3 s10 wx => ∃ (i : Nat), i + g = m ∧ s10 = .int .i64 i ∧ wx.ownsRow (w.heap.size + 1) 55 2 s3 (dist es i).length (flat (dist es i)) ∧ MapN wx w.heap.size (cnt es i) ∧ Below w.heap.size w wx ∧ w.heap.size + 1 ≤ wx.heap.size)
  case atStart =>
    refine ⟨0, by omega, rfl, World.ownsRow_nil _ _ _ _, ?_, (Below.refl _ w).alloc (Nat.le_refl _) _, by simp⟩
    exact HMN.out
  case round =>
    obtain ⟨i, hig, rfl, ho, hmp, hbl, hsz⟩ := hrel
    have HO := hidI ho
    have HP := hidI hmp
    have HB := hidI hbl
    clear ho hmp hbl HMN
    cases gk with
    | zero =>
      have hil : i = m := by omega
      subst hil
      go_wp2
      go_ret
      exact ⟨_, rfl, seesE_of_owns (base := w.heap.size + 1) HO.out, HB.out⟩
    | succ g =>
      have hlt : i < m := by omega
      obtain ⟨x, hx⟩ : ∃ x, es[i]? = some x := ⟨es[i]'(by have := HM.out; omega), List.getElem?_eq_getElem _⟩
      rcases HS.out with h0 | ⟨b, off, rfl, hl⟩
      · have := HM.out; rw [h0] at this; simp at this; omega
      have hbw : b < w.heap.size := World.block_lt_of_cell? w _ (hl i x hx).1
      have e1 : wr.cell? ⟨b, off + i * 2, none⟩ = some (.int .i64 x.1) := (HB.out.cell (p := ⟨b, off + i * 2, none⟩) hbw).trans (hl i x hx).1
      have e2 : wr.cell? ⟨b, off + i * 2 + 1, none⟩ = some (.int .i64 x.2) := (HB.out.cell (p := ⟨b, off + i * 2 + 1, none⟩) hbw).trans (hl i x hx).2
      obtain ⟨wp, wq⟩ := HW.out x (List.mem_of_getElem? hx)
      have hgt : es.getD i (0, 0) = x := by simp [List.getD, hx]
      have hds := dist_succ es i
      have hdl := dist_length es i
      have hcs := cnt_succ es i x hx
      have hcl := cnt_le es i x.1 x.2
      have hfr : fresh es i = (decide (¬ x.1 = x.2) && decide (cnt es i x.1 x.2 = 0)) := by
        unfold fresh cnt; rw [hgt]; congr 1; simp
      rw [hgt] at hds
      have HDS := hidI hds
      have HCS := hidI hcs
      have HFR := hidI hfr
      clear hds hcs hfr hgt hx hl
      obtain ⟨bx, hbx⟩ : ∃ bx : Obj, bx = .cells #[.int .i64 x.1, .int .i64 x.2] 55 (0, 0) := ⟨_, rfl⟩
      go_wp2
      have x0 : (wr.alloc (.cells #[.int .i64 x.1, .int .i64 x.2] 55)).heap[wr.heap.size]? = some bx := by rw [hbx]; exact World.alloc_heap_new wr _
      have m0 : MapN (wr.alloc (.cells #[.int .i64 x.1, .int .i64 x.2] 55)) w.heap.size (cnt es i) := HP.out.kept (Below.heap_alloc _ _ _ (by omega))
      have o0 := HO.out.alloc (.cells #[.int .i64 x.1, .int .i64 x.2] 55)
      have b0 : Below w.heap.size w (wr.alloc (.cells #[.int .i64 x.1, .int .i64 x.2] 55)) := HB.out.alloc HB.out.size _
      have s0 : (wr.alloc (.cells #[.int .i64 x.1, .int .i64 x.2] 55)).heap.size = wr.heap.size + 1 := by simp
      obtain ⟨W1, hW1⟩ : ∃ W1, wr.alloc (.cells #[.int .i64 x.1, .int .i64 x.2] 55) = W1 := ⟨_, rfl⟩
      rw [hW1] at x0 m0 o0 b0 s0 ⊢
      clear hW1 e1 e2
      obtain ⟨Bx, hBx⟩ : ∃ Bx, wr.heap.size = Bx := ⟨_, rfl⟩
      rw [hBx] at x0 s0 hsz ⊢
      obtain ⟨c, hc⟩ : ∃ c, cnt es i x.1 x.2 = c := ⟨_, rfl⟩
      rw [hc] at hcl
      have m0d : MapN W1.drew w.heap.size (cnt es i) := m0
      have hlk := mapN_lookup m0d wp wq
      rw [hc] at hlk
      obtain ⟨v, st, m1, he, hm1, hback⟩ := mapN_step m0d wp wq
      have hlk1 := mapN_lookup hm1 wp wq
      rw [hc] at hlk1
      have wc : IntKind.i64.wrap (c + 1) = c + 1 := by rw [IntKind.wrap_i64]; omega
      have d1 : W1.cell? ⟨Bx, 0, none⟩ = some (.int .i64 x.1) := by simp [World.cell?, x0, hbx]
      have d2 : W1.cell? ⟨Bx, 1, none⟩ = some (.int .i64 x.2) := by simp [World.cell?, x0, hbx]
      have gU1 := setBlock_grown W1.drew w.heap.size m1
      have hU1m : (setBlock W1.drew w.heap.size m1).heap[w.heap.size]? = some m1 := by
        have : w.heap.size < W1.drew.heap.size := m0d.lt
        simp only [setBlock]; rw [Array.getElem?_setIfInBounds_self_of_lt this]
      obtain ⟨U1, hU1⟩ : ∃ U1, setBlock W1.drew w.heap.size m1 = U1 := ⟨_, rfl⟩
      rw [hU1] at he gU1 hU1m hlk1
      obtain ⟨m2, hst, hmn⟩ := hback U1 (c + 1) hU1m
      have gU2 := setBlock_grown U1 w.heap.size m2
      obtain ⟨U2, hU2⟩ : ∃ U2, setBlock U1 w.heap.size m2 = U2 := ⟨_, rfl⟩
      rw [hU2] at hst hmn gU2
      clear hU1 hU2 hback m0 hU1m hm1
      have t1 : U1.cell? ⟨Bx, 0, none⟩ = some (.int .i64 x.1) := kept_cell gU1 d1 (by simp; omega)
      have t2 : U1.cell? ⟨Bx, 1, none⟩ = some (.int .i64 x.2) := kept_cell gU1 d2 (by simp; omega)
      have t3 : U2.cell? ⟨Bx, 0, none⟩ = some (.int .i64 x.1) := kept_cell gU2 t1 (by simp; omega)
      have t4 : U2.cell? ⟨Bx, 1, none⟩ = some (.int .i64 x.2) := kept_cell gU2 t2 (by simp; omega)
      have hlk2 := mapN_lookup hmn wp wq
      have hup : updN (cnt es i) x.1 x.2 (c + 1) x.1 x.2 = c + 1 := by simp [updN]
      rw [hup] at hlk2
      have hne : ∀ row, u3.ownBlock = some row → some row ≠ some w.heap.size := fun row hk => by have := (HO.out.lt row hk).1; simp; omega
      have own_ne : u3.ownBlock ≠ some w.heap.size := fun e => hne _ e rfl
      have o0d : W1.drew.ownsRow (w.heap.size + 1) 55 2 u3 (dist es i).length (flat (dist es i)) := o0
      have o2 := (o0d.kept gU1 (.inr own_ne)).kept gU2 (.inr own_ne)
      have z1 := gU1.size
      have z2 := gU2.size
      have zd : W1.drew.heap.size = W1.heap.size := rfl
      have b2 : Below w.heap.size w U2 := ((b0.drew).grown gU1 (by omega) (fun k e => by cases e; exact Nat.le_refl _)).grown gU2 (by omega) (fun k e => by cases e; exact Nat.le_refl _)
      have sU2 : w.heap.size + 1 ≤ U2.heap.size := by omega
      rw [← hc, ← HCS.out] at hmn
      have O2 := hidI o2
      have B2 := hidI b2
      have MN := hidI hmn
      have GU1 := hidI gU1
      have GU2 := hidI gU2
      clear hne own_ne o0d o2 b2 hmn gU1 gU2 o0 b0 m0d z1 z2 zd x0 hbx
      go_region
      have bl := World.block_lt_of_cell? U2 _ t3
      by_cases hc0 : c = 0
      · by_cases hxx : x.1 = x.2
        · have hxd : (x.1 == x.2) = true := by simpa using hxx
          have hxd2 : decide (x.1 = x.2) = true := by simpa using hxx
          have hf : fresh es i = false := by rw [HFR.out]; simp [hxx]
          have HF := hidI hf
          clear hf hxx
          subst hc0
          go_wp2
          go_roundg g
          case measure => omega
          case rel =>
            refine ⟨i + 1, by omega, by go_num, ?_, MN.out, B2.out, sU2⟩
            rw [HDS.out, HF.out]; simpa using O2.out
        · have hxd : (x.1 == x.2) = false := by simpa using hxx
          have hxd2 : decide (x.1 = x.2) = false := by simpa using hxx
          have hf : fresh es i = true := by rw [HFR.out]; simp [hxx, hc, hc0]
          have HF := hidI hf
          have HXX := hidI hxx
          have O3 := hidI (O2.out.alloc (.cells #[.int .i64 x.1, .int .i64 x.2] 55))
          have S3 := hidI (lie_one U2 x 55)
          have K3 : Hid ((dist es i).length + [x].length ≤ 1000000) := hidI (by simp; omega)
          have K4 : Hid (w.heap.size + 1 ≤ (U2.alloc (.cells #[.int .i64 x.1, .int .i64 x.2] 55)).heap.size) := hidI (by simp; omega)
          clear hf hxx
          subst hc0
          go_wp2_with (at_builtin; refine wpList_append_seesE rfl _ _ rfl (w.heap.size + 1) _ _ _ rfl O3.out _ [x] rfl S3.out K3.out K4.out ?_; intro v' w1 hown' hgrow' hat')
          have own_ne : some w.heap.size ≠ u3.ownBlock := fun e => by have := (O2.out.lt _ e.symm).1; omega
          go_roundg g
          case measure => omega
          case rel =>
            refine ⟨i + 1, by omega, by go_num, ?_, ?_, ?_, ?_⟩
            · rw [HDS.out, HF.out]; simpa [flat_append, flat] using hown'
            · refine MN.out.kept ?_
              exact (hgrow'.block _ (by simp; omega) own_ne).trans (Below.heap_alloc _ _ _ (by omega))
            · exact (B2.out.alloc B2.out.size _).grown hgrow' (by simp; omega) (fun k hk => by have := (O2.out.lt k hk).1; omega)
            · have := hgrow'.size; simp at this; omega
      · have hcd : (c + 1 == 1) = false := by simp; omega
        have hcd2 : decide (c + 1 = 1) = false := by simp; omega
        have hcd3 : decide (c = 0) = false := by simpa using hc0
        have hf : fresh es i = false := by rw [HFR.out, hc]; simp [hc0]
        have HF := hidI hf
        clear hf
        go_wp2
        go_roundg g
        case measure => omega
        case rel =>
          refine ⟨i + 1, by omega, by go_num, ?_, MN.out, B2.out, sU2⟩
          rw [HDS.out, HF.out]; simpa using O2.out
theorem distinct_any (v : Value) (es : Edges) (w : World) (hv : SeesE w v es) (h32 : es.length ≤ 32) (hwf : ∀ x ∈ es, Wf x.1 ∧ Wf x.2) :
    Calls Try.prog 23 #[v] w fun e w' => ∃ u, e = .returned u ∧ SeesE w' u (dist es es.length) ∧ Below w.heap.size w w' := by
  obtain ⟨a, cap, rfl, hs⟩ := hv
  exact distinct_walk a cap es w hs h32 hwf
end Go.Proofs.Ytbjoljokdjgbnaa
