/-
  Parts that are made: what New comes to.
-/
import Derived.Test.YtjlnnpcaeikolaaPLists
namespace Go.Proofs.Ytjlnnpcaeikolaa
open Go.RowKit Go.Deep
theorem Lists.start (w : World) (n k : Value) : Lists (w.alloc (.cells #[n, k, .slice none 0 0, .slice none 0 0, .slice none 0 0, .slice none 0 0] 50)) w.heap.size (w.heap.size + 1) (fun _ => []) := by
  refine ⟨fun _ => .slice none 0 0, fun u hu => ⟨?_, ?_, World.ownsRow_nil _ _ _ _⟩, fun u u' g _ _ h => by cases h⟩
  · have : u = 0 ∨ u = 1 ∨ u = 2 ∨ u = 3 := by omega
    rcases this with rfl | rfl | rfl | rfl <;> go_simp
  · have : u = 0 ∨ u = 1 ∨ u = 2 ∨ u = 3 := by omega
    rcases this with rfl | rfl | rfl | rfl <;> go_simp
theorem one_new (W : World) (v : Value) (t : TypeId) : ∀ (i : Nat) (x : Value), [v][i]? = some x → (W.alloc (.cells #[v] t)).cell? ((⟨W.heap.size, 0, none⟩ : Addr).add i) = some x := by
  intro i x hx
  cases i with
  | zero => simp at hx; subst hx; rw [add_at]; unfold World.cell?; rw [World.alloc_heap_new]; rfl
  | succ i => simp at hx
set_option maxRecDepth 100000 in
set_option maxHeartbeats 8000000 in
theorem new_ok (n k : Nat) (hm : mayP n k) (v0 : Value) (bys : List Int) (w : World) (hv : Sees w v0 bys) :
    Calls Try.prog 8 #[.int .i64 (n : Int), .int .i64 (k : Int), v0] w fun e w' => ∃ pb, e = .returned (.pointer (some ⟨pb, 0, none⟩)) ∧ IsP w' (some ⟨pb, 0, none⟩) n k (wkOf k bys) ∧ Below w.heap.size w w' := by
  obtain ⟨i0, hi, hz0, hz1, hz2⟩ := info_parts Try.info3
  have C := hidI (may_yes n k w hm)
  obtain ⟨m1, m2, m3, m4⟩ := hm
  obtain ⟨a, cap, rfl, hs⟩ := hv
  obtain ⟨L, hL⟩ : ∃ L, bys.length = L := ⟨_, rfl⟩
  rw [hL] at hs ⊢
  have HL := hidI hL
  have HS := hidI hs
  clear hL hs
  have c0 : (w.alloc (.cells #[.int .i64 (n : Int), .int .i64 (k : Int), .slice none 0 0, .slice none 0 0, .slice none 0 0, .slice none 0 0] 50)).cell? ⟨w.heap.size, 0, none⟩ = some (.int .i64 (n : Int)) := by go_simp
  have c1 : (w.alloc (.cells #[.int .i64 (n : Int), .int .i64 (k : Int), .slice none 0 0, .slice none 0 0, .slice none 0 0, .slice none 0 0] 50)).cell? ⟨w.heap.size, 1, none⟩ = some (.int .i64 (k : Int)) := by go_simp
  have HC0 := hidI c0
  have HC1 := hidI c1
  have HLS := hidI (Lists.start w (.int .i64 (n : Int)) (.int .i64 (k : Int)))
  have HB0 : Hid (Below w.heap.size w (w.alloc (.cells #[.int .i64 (n : Int), .int .i64 (k : Int), .slice none 0 0, .slice none 0 0, .slice none 0 0, .slice none 0 0] 50))) := (Below.refl _ w).alloc (Nat.le_refl _) _
  clear c0 c1
  go_enter Try.func8, Try.ntmps8
  go_wp2_with (go_at_call 29; refine Calls.mono C.out ?_; rintro e w' ⟨rfl, rfl⟩)
  go_loopg [19] n (fun g s19 wr => ∃ (v : Nat), v + g = n ∧ s19 = .int .i64 v ∧ Lists wr w.heap.size (w.heap.size + 1) (mem v (wkOf k bys)) ∧ wr.cell? ⟨w.heap.size, 0, none⟩ = some (.int .i64 (n : Int)) ∧ wr.cell? ⟨w.heap.size, 1, none⟩ = some (.int .i64 (k : Int)) ∧ Below w.heap.size w wr)
  case atStart => exact ⟨0, by omega, rfl, HLS.out, HC0.out, HC1.out, HB0.out⟩
  case round =>
    obtain ⟨v, hvg, rfl, hls, c0, c1, hbl⟩ := hrel
    have HX := hidI hls
    have HB := hidI hbl
    have HC0' := hidI c0
    have HC1' := hidI c1
    have hszr : w.heap.size < wr.heap.size := World.block_lt_of_cell? wr _ c0
    clear hls hbl c0 c1 HLS HC0 HC1 HB0
    cases gk with
    | zero =>
      have hvn : v = n := by omega
      subst hvn
      go_wp2
      go_ret
      refine ⟨_, rfl, .inr ⟨_, rfl, ⟨by omega, by omega, by omega, by omega⟩, fun u _ => wkOf_lt (by omega) _ _, HC0'.out, HC1'.out, fun u hu => ?_⟩, HB.out⟩
      obtain ⟨vs, h1, _⟩ := HX.out
      obtain ⟨q1, _, q3⟩ := h1 u hu
      exact ⟨vs u, q1, sees_of_owns q3⟩
    | succ g =>
      have hvn : (v : Int) < (n : Int) := by omega
      by_cases hvL : v < L
      · have hvL2 : (v : Int) < (L : Int) := by omega
        rcases HS.out with h0 | ⟨b, off, rfl, hc⟩
        · have := HL.out; rw [h0] at this; simp at this; omega
        have hbw : b < w.heap.size := World.block_lt_of_cell? w _ (hc v hvL)
        have cb : wr.cell? ⟨b, off + v, none⟩ = some (.int .i64 (bys.getD v 0)) := (HB.out.cell (p := ⟨b, off + v, none⟩) hbw).trans (hc v hvL)
        obtain ⟨u, hu, huk⟩ : ∃ u : Nat, bys.getD v 0 % (k : Int) = u ∧ u = wkOf k bys v := by
          have h1 := Int.emod_nonneg (bys.getD v 0) (b := (k : Int)) (by omega)
          refine ⟨(bys.getD v 0 % (k : Int)).toNat, by omega, ?_⟩
          unfold wkOf
          rw [if_pos (by rw [HL.out]; exact hvL)]
        have CM : Hid (Calls Try.prog 30 #[.int .i64 (bys.getD v 0), .int .i64 (k : Int)] wr fun e w' => e = .returned (.int .i64 (u : Int)) ∧ wr = w') := by
          have := modulo_any (bys.getD v 0) k (by omega) (by omega) wr
          rw [hu] at this
          exact this
        have huk4 : u < k := by rw [huk]; exact wkOf_lt (by omega) _ _
        have HU := hidI huk
        obtain ⟨z, hz⟩ : ∃ z, bys.getD v 0 = z := ⟨_, rfl⟩
        rw [hz] at cb CM
        clear hc hu huk hz
        go_wp2_with (go_at_call 30; refine Calls.mono CM.out ?_; rintro e w' ⟨rfl, rfl⟩)
        obtain ⟨vs, h1, h2⟩ := HX.out
        have hu4 : u < 4 := by omega
        have hu42 : (u : Int) < 4 := by omega
        obtain ⟨q1, q2, q3⟩ := h1 u hu4
        have H1 := hidI h1
        have H2 := hidI h2
        have Q3 : Hid ((wr.drew.alloc (.cells #[.int .i64 (v : Int)] 3)).ownsRow (w.heap.size + 1) 3 1 (vs u) (mem v (wkOf k bys) u).length ((mem v (wkOf k bys) u).map (Value.int .i64))) := q3.alloc _
        have d1 : wr.drew.cell? ⟨w.heap.size, 2 + u, none⟩ = some (vs u) := q1
        have d2 : (wr.drew.alloc (.cells #[.int .i64 (v : Int)] 3)).cell? ⟨w.heap.size, 2 + u, none⟩ = some (vs u) := cell_al _ d1
        have hml := mem_length v (wkOf k bys) u
        have hneb : some w.heap.size ≠ (vs u).ownBlock := fun e => by have := (q3.lt w.heap.size e.symm).1; omega
        obtain ⟨vu, hvu⟩ : ∃ vu, vs u = vu := ⟨_, rfl⟩
        rw [hvu] at d1 d2 Q3 hneb
        have HVU := hidI hvu
        have D2 := hidI d2
        clear h1 h2 q1 q2 q3 HX hvu
        refine wp_region_held (S := fun _ => True) Try.mixed ?_
        show wpAnyH _ _ _ _ _ _ _ _ wr.drew
        obtain ⟨W0, hW0⟩ : ∃ W0, wr.drew = W0 := ⟨_, rfl⟩
        rw [hW0] at d1 D2 d2 Q3 ⊢
        refine wpAnyH_take (i := 0) (v := .pointer (some ⟨w.heap.size, 0, none⟩)) rfl (by kernel_rfl) (by kernel_rfl) (by kernel_rfl) (fun _ _ _ h => h) (.inl ⟨by rfl, fun y hy => ?_⟩) trivial ?_
        · go_simp
        refine wpAnyH_take (i := 1) (v := .int .i64 (u : Int)) rfl (by kernel_rfl) (by kernel_rfl) (by kernel_rfl) (fun _ _ _ h => h) (.inl ⟨by rfl, fun y hy => ?_⟩) trivial ?_
        · go_simp
        refine wpAnyH_take (i := 2) (v := .pointer (some ⟨w.heap.size, 0, none⟩)) rfl (by kernel_rfl) (by kernel_rfl) (by kernel_rfl) (fun _ _ _ h => h) (.inl ⟨by rfl, fun y hy => ?_⟩) trivial ?_
        · go_simp
        refine wpAnyH_take (i := 3) (v := .int .i64 (u : Int)) rfl (by kernel_rfl) (by kernel_rfl) (by kernel_rfl) (fun _ _ _ h => h) (.inl ⟨by rfl, fun y hy => ?_⟩) trivial ?_
        · go_simp
        refine wpAnyH_take (i := 4) (v := .pointer (some ⟨w.heap.size, 0, none⟩)) rfl (by kernel_rfl) (by kernel_rfl) (by kernel_rfl) (fun _ _ _ h => h) (.inl ⟨by rfl, fun y hy => ?_⟩) trivial ?_
        · go_simp
        refine wpAnyH_take (i := 5) (v := .pointer (some ⟨w.heap.size, 2, none⟩)) rfl (by kernel_rfl) (by kernel_rfl) (by kernel_rfl) (fun _ _ _ h => h) (.inl ⟨by rfl, fun y hy => ?_⟩) trivial ?_
        · go_simp
        refine wpAnyH_take (i := 6) (v := .pointer (some ⟨w.heap.size, 2 + u, none⟩)) rfl (by kernel_rfl) (by kernel_rfl) (by kernel_rfl) (fun _ _ _ h => h) (.inl ⟨by rfl, fun y hy => ?_⟩) trivial ?_
        · go_simp
        refine wpAnyH_take (i := 8) (v := .int .i64 (v : Int)) rfl (by kernel_rfl) (by kernel_rfl) (by kernel_rfl) (fun _ _ _ h => h) (.inl ⟨by rfl, fun y hy => ?_⟩) trivial ?_
        · go_simp
        refine wpAnyH_take (i := 11) (v := .pointer (some ⟨w.heap.size, 0, none⟩)) rfl (by kernel_rfl) (by kernel_rfl) (by kernel_rfl) (fun _ _ _ h => h) (.inl ⟨by rfl, fun y hy => ?_⟩) trivial ?_
        · go_simp
        refine wpAnyH_take (i := 12) (v := .pointer (some ⟨w.heap.size, 2, none⟩)) rfl (by kernel_rfl) (by kernel_rfl) (by kernel_rfl) (fun _ _ _ h => h) (.inl ⟨by rfl, fun y hy => ?_⟩) trivial ?_
        · go_simp
        refine wpAnyH_all (rs := [7, 9]) (by kernel_rfl) (by simp) fun i hi => ?_
        have hi79 : i = 7 ∨ i = 9 := by simpa using hi
        clear hi
        rcases hi79 with rfl | rfl
        · refine wpOp_step rfl fun K1 hK1 => ?_
          rw [if_pos (by rfl)]
          unfold Oper.wp
          go_simp
          refine hK1 _ _ ⟨trivial, ?_⟩
          clear hK1 K1
          refine wpAnyH_all (rs := [9]) (by kernel_rfl) (by simp) fun i hix => ?_
          obtain rfl : i = 9 := by simpa using hix
          refine wpOp_step rfl fun K1 hK1 => ?_
          rw [if_pos (by rfl)]
          unfold Oper.wp
          go_simp
          refine hK1 _ _ ⟨trivial, ?_⟩
          clear hK1 K1
          refine wpAnyH_all (rs := [10]) (by kernel_rfl) (by simp) fun i hix => ?_
          obtain rfl : i = 10 := by simpa using hix
          refine wpOp_step rfl fun K1 hK1 => ?_
          rw [if_pos (by rfl)]
          refine wp_append_lies _ _ _ 23 rfl (w.heap.size + 1) 3 i0 (.int .i64 0) 1 8 Try.underlying23 hi hz0 hz1 hz2 rfl (by decide) vu _ _ rfl Q3.out ⟨W0.heap.size, 0, none⟩ 1 1 [.int .i64 (v : Int)] rfl rfl (one_new _ _ _) (by simp [Value.oneCell']) (by decide) (by unfold maxLen; omega) (by omega) (by rw [← hW0]; simp; omega) _ rfl ?_
          intro gq cp W3 hown3 hg3 hat3 hlt3
          have e3 : W3.cell? ⟨w.heap.size, 2 + u, none⟩ = some vu := kept_cell hg3 D2.out hneb
          have e4 : W3.frozen? ⟨w.heap.size, 2 + u, none⟩ = false := by
            have f1 := (H1.out u hu4).2.1
            have s1 : W3.heap[w.heap.size]? = (W0.alloc (.cells #[.int .i64 (v : Int)] 3)).heap[w.heap.size]? := hg3.block _ (by rw [← hW0]; simp; omega) hneb
            have s2 : (W0.alloc (.cells #[.int .i64 (v : Int)] 3)).heap[w.heap.size]? = W0.heap[w.heap.size]? := Below.heap_alloc _ _ _ (by rw [← hW0]; exact hszr)
            rw [← f1]
            exact World.frozen?_of_block (by rw [s1, s2, ← hW0]; rfl)
          refine hK1 _ _ ⟨trivial, ?_⟩
          clear hK1 K1
          have LP : Hid (Lists (W3.setCell ⟨w.heap.size, 2 + u, none⟩ (.slice (some ⟨gq, 0, none⟩) ((mem v (wkOf k bys) u).length + 1) cp)) w.heap.size (w.heap.size + 1) (mem (v + 1) (wkOf k bys))) := by
            refine Lists.put (W := W0) (by omega) hu4 (by rw [← hW0]; exact H1.out) H2.out hown3 (by rw [HVU.out]; exact hg3) (by rw [HVU.out]; rcases hat3 with h | h; exact .inl h; exact .inr (by simp at h; omega)) (mem_succ_same HU.out.symm) (fun u' hu' => mem_succ_other fun e => hu' (by rw [HU.out]; exact e.symm))
          have BP : Hid (Below w.heap.size w (W3.setCell ⟨w.heap.size, 2 + u, none⟩ (.slice (some ⟨gq, 0, none⟩) ((mem v (wkOf k bys) u).length + 1) cp))) := by
            have B1 : Below w.heap.size w W0 := by rw [← hW0]; exact HB.out.drew
            have B2 : w.heap.size ≤ W0.heap.size := by rw [← hW0]; exact Nat.le_of_lt hszr
            refine Below.setCell (p := ⟨w.heap.size, 2 + u, none⟩) (Below.grown (B1.alloc B2 _) hg3 (by rw [← hW0]; simp; omega) fun j ej => ?_) (by simp) _
            have := (Q3.out.lt j ej).1; omega
          have CP0 : Hid ((W3.setCell ⟨w.heap.size, 2 + u, none⟩ (.slice (some ⟨gq, 0, none⟩) ((mem v (wkOf k bys) u).length + 1) cp)).cell? ⟨w.heap.size, 0, none⟩ = some (.int .i64 (n : Int))) := (World.cell?_setCell_other _ _ _ _ (by intro hh; simp only [Addr.mk.injEq] at hh; omega)).trans (kept_cell hg3 (cell_al _ (by rw [← hW0]; exact HC0'.out)) hneb)
          have CP1 : Hid ((W3.setCell ⟨w.heap.size, 2 + u, none⟩ (.slice (some ⟨gq, 0, none⟩) ((mem v (wkOf k bys) u).length + 1) cp)).cell? ⟨w.heap.size, 1, none⟩ = some (.int .i64 (k : Int))) := (World.cell?_setCell_other _ _ _ _ (by intro hh; simp only [Addr.mk.injEq] at hh; omega)).trans (kept_cell hg3 (cell_al _ (by rw [← hW0]; exact HC1'.out)) hneb)
          refine wpAnyH_take (i := 13) (v := .pointer (some ⟨w.heap.size, 2 + u, none⟩)) rfl (by kernel_rfl) (by kernel_rfl) (by kernel_rfl) (fun _ _ _ h => h) (.inl ⟨by rfl, fun y hy => ?_⟩) trivial ?_
          · go_simp
          refine wpAnyH_all (rs := [14]) (by kernel_rfl) (by simp) fun i hix => ?_
          obtain rfl : i = 14 := by simpa using hix
          refine wpOp_step rfl fun K1 hK1 => ?_
          rw [if_pos (by rfl)]
          unfold Oper.wp
          go_simp
          refine hK1 _ _ ⟨trivial, ?_⟩
          clear hK1 K1
          refine wpAnyH_done (by kernel_rfl) ?_ _
          go_wp2
          go_roundg g
          case measure => omega
          case rel => exact ⟨v + 1, by omega, by go_num, LP.out, CP0.out, CP1.out, BP.out⟩
        · refine wpOp_step rfl fun K1 hK1 => ?_
          rw [if_pos (by rfl)]
          unfold Oper.wp
          go_simp
          refine hK1 _ _ ⟨trivial, ?_⟩
          clear hK1 K1
          refine wpAnyH_all (rs := [7]) (by kernel_rfl) (by simp) fun i hix => ?_
          obtain rfl : i = 7 := by simpa using hix
          refine wpOp_step rfl fun K1 hK1 => ?_
          rw [if_pos (by rfl)]
          unfold Oper.wp
          go_simp
          refine hK1 _ _ ⟨trivial, ?_⟩
          clear hK1 K1
          refine wpAnyH_all (rs := [10]) (by kernel_rfl) (by simp) fun i hix => ?_
          obtain rfl : i = 10 := by simpa using hix
          refine wpOp_step rfl fun K1 hK1 => ?_
          rw [if_pos (by rfl)]
          refine wp_append_lies _ _ _ 23 rfl (w.heap.size + 1) 3 i0 (.int .i64 0) 1 8 Try.underlying23 hi hz0 hz1 hz2 rfl (by decide) vu _ _ rfl Q3.out ⟨W0.heap.size, 0, none⟩ 1 1 [.int .i64 (v : Int)] rfl rfl (one_new _ _ _) (by simp [Value.oneCell']) (by decide) (by unfold maxLen; omega) (by omega) (by rw [← hW0]; simp; omega) _ rfl ?_
          intro gq cp W3 hown3 hg3 hat3 hlt3
          have e3 : W3.cell? ⟨w.heap.size, 2 + u, none⟩ = some vu := kept_cell hg3 D2.out hneb
          have e4 : W3.frozen? ⟨w.heap.size, 2 + u, none⟩ = false := by
            have f1 := (H1.out u hu4).2.1
            have s1 : W3.heap[w.heap.size]? = (W0.alloc (.cells #[.int .i64 (v : Int)] 3)).heap[w.heap.size]? := hg3.block _ (by rw [← hW0]; simp; omega) hneb
            have s2 : (W0.alloc (.cells #[.int .i64 (v : Int)] 3)).heap[w.heap.size]? = W0.heap[w.heap.size]? := Below.heap_alloc _ _ _ (by rw [← hW0]; exact hszr)
            rw [← f1]
            exact World.frozen?_of_block (by rw [s1, s2, ← hW0]; rfl)
          refine hK1 _ _ ⟨trivial, ?_⟩
          clear hK1 K1
          have LP : Hid (Lists (W3.setCell ⟨w.heap.size, 2 + u, none⟩ (.slice (some ⟨gq, 0, none⟩) ((mem v (wkOf k bys) u).length + 1) cp)) w.heap.size (w.heap.size + 1) (mem (v + 1) (wkOf k bys))) := by
            refine Lists.put (W := W0) (by omega) hu4 (by rw [← hW0]; exact H1.out) H2.out hown3 (by rw [HVU.out]; exact hg3) (by rw [HVU.out]; rcases hat3 with h | h; exact .inl h; exact .inr (by simp at h; omega)) (mem_succ_same HU.out.symm) (fun u' hu' => mem_succ_other fun e => hu' (by rw [HU.out]; exact e.symm))
          have BP : Hid (Below w.heap.size w (W3.setCell ⟨w.heap.size, 2 + u, none⟩ (.slice (some ⟨gq, 0, none⟩) ((mem v (wkOf k bys) u).length + 1) cp))) := by
            have B1 : Below w.heap.size w W0 := by rw [← hW0]; exact HB.out.drew
            have B2 : w.heap.size ≤ W0.heap.size := by rw [← hW0]; exact Nat.le_of_lt hszr
            refine Below.setCell (p := ⟨w.heap.size, 2 + u, none⟩) (Below.grown (B1.alloc B2 _) hg3 (by rw [← hW0]; simp; omega) fun j ej => ?_) (by simp) _
            have := (Q3.out.lt j ej).1; omega
          have CP0 : Hid ((W3.setCell ⟨w.heap.size, 2 + u, none⟩ (.slice (some ⟨gq, 0, none⟩) ((mem v (wkOf k bys) u).length + 1) cp)).cell? ⟨w.heap.size, 0, none⟩ = some (.int .i64 (n : Int))) := (World.cell?_setCell_other _ _ _ _ (by intro hh; simp only [Addr.mk.injEq] at hh; omega)).trans (kept_cell hg3 (cell_al _ (by rw [← hW0]; exact HC0'.out)) hneb)
          have CP1 : Hid ((W3.setCell ⟨w.heap.size, 2 + u, none⟩ (.slice (some ⟨gq, 0, none⟩) ((mem v (wkOf k bys) u).length + 1) cp)).cell? ⟨w.heap.size, 1, none⟩ = some (.int .i64 (k : Int))) := (World.cell?_setCell_other _ _ _ _ (by intro hh; simp only [Addr.mk.injEq] at hh; omega)).trans (kept_cell hg3 (cell_al _ (by rw [← hW0]; exact HC1'.out)) hneb)
          refine wpAnyH_take (i := 13) (v := .pointer (some ⟨w.heap.size, 2 + u, none⟩)) rfl (by kernel_rfl) (by kernel_rfl) (by kernel_rfl) (fun _ _ _ h => h) (.inl ⟨by rfl, fun y hy => ?_⟩) trivial ?_
          · go_simp
          refine wpAnyH_all (rs := [14]) (by kernel_rfl) (by simp) fun i hix => ?_
          obtain rfl : i = 14 := by simpa using hix
          refine wpOp_step rfl fun K1 hK1 => ?_
          rw [if_pos (by rfl)]
          unfold Oper.wp
          go_simp
          refine hK1 _ _ ⟨trivial, ?_⟩
          clear hK1 K1
          refine wpAnyH_done (by kernel_rfl) ?_ _
          go_wp2
          go_roundg g
          case measure => omega
          case rel => exact ⟨v + 1, by omega, by go_num, LP.out, CP0.out, CP1.out, BP.out⟩
      · have hvL2 : decide ((v : Int) < (L : Int)) = false := by simp; omega
        obtain ⟨u, hu0⟩ : ∃ u : Nat, u = 0 := ⟨0, rfl⟩
        have HU : Hid (u = wkOf k bys v) := by
          unfold wkOf
          rw [if_neg (by rw [HL.out]; exact hvL)]
          exact hu0
        have huk4 : u < k := by omega
        have hu00 : Value.int .i64 (0 : Int) = Value.int .i64 (u : Int) := by rw [hu0]; rfl
        have HU0 := hidI hu00
        clear hu0 hu00
        go_wp2
        rw [HU0.out]
        obtain ⟨vs, h1, h2⟩ := HX.out
        have hu4 : u < 4 := by omega
        have hu42 : (u : Int) < 4 := by omega
        obtain ⟨q1, q2, q3⟩ := h1 u hu4
        have H1 := hidI h1
        have H2 := hidI h2
        have Q3 : Hid ((wr.drew.alloc (.cells #[.int .i64 (v : Int)] 3)).ownsRow (w.heap.size + 1) 3 1 (vs u) (mem v (wkOf k bys) u).length ((mem v (wkOf k bys) u).map (Value.int .i64))) := q3.alloc _
        have d1 : wr.drew.cell? ⟨w.heap.size, 2 + u, none⟩ = some (vs u) := q1
        have d2 : (wr.drew.alloc (.cells #[.int .i64 (v : Int)] 3)).cell? ⟨w.heap.size, 2 + u, none⟩ = some (vs u) := cell_al _ d1
        have hml := mem_length v (wkOf k bys) u
        have hneb : some w.heap.size ≠ (vs u).ownBlock := fun e => by have := (q3.lt w.heap.size e.symm).1; omega
        obtain ⟨vu, hvu⟩ : ∃ vu, vs u = vu := ⟨_, rfl⟩
        rw [hvu] at d1 d2 Q3 hneb
        have HVU := hidI hvu
        have D2 := hidI d2
        clear h1 h2 q1 q2 q3 HX hvu
        refine wp_region_held (S := fun _ => True) Try.mixed ?_
        show wpAnyH _ _ _ _ _ _ _ _ wr.drew
        obtain ⟨W0, hW0⟩ : ∃ W0, wr.drew = W0 := ⟨_, rfl⟩
        rw [hW0] at d1 D2 d2 Q3 ⊢
        refine wpAnyH_take (i := 0) (v := .pointer (some ⟨w.heap.size, 0, none⟩)) rfl (by kernel_rfl) (by kernel_rfl) (by kernel_rfl) (fun _ _ _ h => h) (.inl ⟨by rfl, fun y hy => ?_⟩) trivial ?_
        · go_simp
        refine wpAnyH_take (i := 1) (v := .int .i64 (u : Int)) rfl (by kernel_rfl) (by kernel_rfl) (by kernel_rfl) (fun _ _ _ h => h) (.inl ⟨by rfl, fun y hy => ?_⟩) trivial ?_
        · go_simp
        refine wpAnyH_take (i := 2) (v := .pointer (some ⟨w.heap.size, 0, none⟩)) rfl (by kernel_rfl) (by kernel_rfl) (by kernel_rfl) (fun _ _ _ h => h) (.inl ⟨by rfl, fun y hy => ?_⟩) trivial ?_
        · go_simp
        refine wpAnyH_take (i := 3) (v := .int .i64 (u : Int)) rfl (by kernel_rfl) (by kernel_rfl) (by kernel_rfl) (fun _ _ _ h => h) (.inl ⟨by rfl, fun y hy => ?_⟩) trivial ?_
        · go_simp
        refine wpAnyH_take (i := 4) (v := .pointer (some ⟨w.heap.size, 0, none⟩)) rfl (by kernel_rfl) (by kernel_rfl) (by kernel_rfl) (fun _ _ _ h => h) (.inl ⟨by rfl, fun y hy => ?_⟩) trivial ?_
        · go_simp
        refine wpAnyH_take (i := 5) (v := .pointer (some ⟨w.heap.size, 2, none⟩)) rfl (by kernel_rfl) (by kernel_rfl) (by kernel_rfl) (fun _ _ _ h => h) (.inl ⟨by rfl, fun y hy => ?_⟩) trivial ?_
        · go_simp
        refine wpAnyH_take (i := 6) (v := .pointer (some ⟨w.heap.size, 2 + u, none⟩)) rfl (by kernel_rfl) (by kernel_rfl) (by kernel_rfl) (fun _ _ _ h => h) (.inl ⟨by rfl, fun y hy => ?_⟩) trivial ?_
        · go_simp
        refine wpAnyH_take (i := 8) (v := .int .i64 (v : Int)) rfl (by kernel_rfl) (by kernel_rfl) (by kernel_rfl) (fun _ _ _ h => h) (.inl ⟨by rfl, fun y hy => ?_⟩) trivial ?_
        · go_simp
        refine wpAnyH_take (i := 11) (v := .pointer (some ⟨w.heap.size, 0, none⟩)) rfl (by kernel_rfl) (by kernel_rfl) (by kernel_rfl) (fun _ _ _ h => h) (.inl ⟨by rfl, fun y hy => ?_⟩) trivial ?_
        · go_simp
        refine wpAnyH_take (i := 12) (v := .pointer (some ⟨w.heap.size, 2, none⟩)) rfl (by kernel_rfl) (by kernel_rfl) (by kernel_rfl) (fun _ _ _ h => h) (.inl ⟨by rfl, fun y hy => ?_⟩) trivial ?_
        · go_simp
        refine wpAnyH_all (rs := [7, 9]) (by kernel_rfl) (by simp) fun i hi => ?_
        have hi79 : i = 7 ∨ i = 9 := by simpa using hi
        clear hi
        rcases hi79 with rfl | rfl
        · refine wpOp_step rfl fun K1 hK1 => ?_
          rw [if_pos (by rfl)]
          unfold Oper.wp
          go_simp
          refine hK1 _ _ ⟨trivial, ?_⟩
          clear hK1 K1
          refine wpAnyH_all (rs := [9]) (by kernel_rfl) (by simp) fun i hix => ?_
          obtain rfl : i = 9 := by simpa using hix
          refine wpOp_step rfl fun K1 hK1 => ?_
          rw [if_pos (by rfl)]
          unfold Oper.wp
          go_simp
          refine hK1 _ _ ⟨trivial, ?_⟩
          clear hK1 K1
          refine wpAnyH_all (rs := [10]) (by kernel_rfl) (by simp) fun i hix => ?_
          obtain rfl : i = 10 := by simpa using hix
          refine wpOp_step rfl fun K1 hK1 => ?_
          rw [if_pos (by rfl)]
          refine wp_append_lies _ _ _ 23 rfl (w.heap.size + 1) 3 i0 (.int .i64 0) 1 8 Try.underlying23 hi hz0 hz1 hz2 rfl (by decide) vu _ _ rfl Q3.out ⟨W0.heap.size, 0, none⟩ 1 1 [.int .i64 (v : Int)] rfl rfl (one_new _ _ _) (by simp [Value.oneCell']) (by decide) (by unfold maxLen; omega) (by omega) (by rw [← hW0]; simp; omega) _ rfl ?_
          intro gq cp W3 hown3 hg3 hat3 hlt3
          have e3 : W3.cell? ⟨w.heap.size, 2 + u, none⟩ = some vu := kept_cell hg3 D2.out hneb
          have e4 : W3.frozen? ⟨w.heap.size, 2 + u, none⟩ = false := by
            have f1 := (H1.out u hu4).2.1
            have s1 : W3.heap[w.heap.size]? = (W0.alloc (.cells #[.int .i64 (v : Int)] 3)).heap[w.heap.size]? := hg3.block _ (by rw [← hW0]; simp; omega) hneb
            have s2 : (W0.alloc (.cells #[.int .i64 (v : Int)] 3)).heap[w.heap.size]? = W0.heap[w.heap.size]? := Below.heap_alloc _ _ _ (by rw [← hW0]; exact hszr)
            rw [← f1]
            exact World.frozen?_of_block (by rw [s1, s2, ← hW0]; rfl)
          refine hK1 _ _ ⟨trivial, ?_⟩
          clear hK1 K1
          have LP : Hid (Lists (W3.setCell ⟨w.heap.size, 2 + u, none⟩ (.slice (some ⟨gq, 0, none⟩) ((mem v (wkOf k bys) u).length + 1) cp)) w.heap.size (w.heap.size + 1) (mem (v + 1) (wkOf k bys))) := by
            refine Lists.put (W := W0) (by omega) hu4 (by rw [← hW0]; exact H1.out) H2.out hown3 (by rw [HVU.out]; exact hg3) (by rw [HVU.out]; rcases hat3 with h | h; exact .inl h; exact .inr (by simp at h; omega)) (mem_succ_same HU.out.symm) (fun u' hu' => mem_succ_other fun e => hu' (by rw [HU.out]; exact e.symm))
          have BP : Hid (Below w.heap.size w (W3.setCell ⟨w.heap.size, 2 + u, none⟩ (.slice (some ⟨gq, 0, none⟩) ((mem v (wkOf k bys) u).length + 1) cp))) := by
            have B1 : Below w.heap.size w W0 := by rw [← hW0]; exact HB.out.drew
            have B2 : w.heap.size ≤ W0.heap.size := by rw [← hW0]; exact Nat.le_of_lt hszr
            refine Below.setCell (p := ⟨w.heap.size, 2 + u, none⟩) (Below.grown (B1.alloc B2 _) hg3 (by rw [← hW0]; simp; omega) fun j ej => ?_) (by simp) _
            have := (Q3.out.lt j ej).1; omega
          have CP0 : Hid ((W3.setCell ⟨w.heap.size, 2 + u, none⟩ (.slice (some ⟨gq, 0, none⟩) ((mem v (wkOf k bys) u).length + 1) cp)).cell? ⟨w.heap.size, 0, none⟩ = some (.int .i64 (n : Int))) := (World.cell?_setCell_other _ _ _ _ (by intro hh; simp only [Addr.mk.injEq] at hh; omega)).trans (kept_cell hg3 (cell_al _ (by rw [← hW0]; exact HC0'.out)) hneb)
          have CP1 : Hid ((W3.setCell ⟨w.heap.size, 2 + u, none⟩ (.slice (some ⟨gq, 0, none⟩) ((mem v (wkOf k bys) u).length + 1) cp)).cell? ⟨w.heap.size, 1, none⟩ = some (.int .i64 (k : Int))) := (World.cell?_setCell_other _ _ _ _ (by intro hh; simp only [Addr.mk.injEq] at hh; omega)).trans (kept_cell hg3 (cell_al _ (by rw [← hW0]; exact HC1'.out)) hneb)
          refine wpAnyH_take (i := 13) (v := .pointer (some ⟨w.heap.size, 2 + u, none⟩)) rfl (by kernel_rfl) (by kernel_rfl) (by kernel_rfl) (fun _ _ _ h => h) (.inl ⟨by rfl, fun y hy => ?_⟩) trivial ?_
          · go_simp
          refine wpAnyH_all (rs := [14]) (by kernel_rfl) (by simp) fun i hix => ?_
          obtain rfl : i = 14 := by simpa using hix
          refine wpOp_step rfl fun K1 hK1 => ?_
          rw [if_pos (by rfl)]
          unfold Oper.wp
          go_simp
          refine hK1 _ _ ⟨trivial, ?_⟩
          clear hK1 K1
          refine wpAnyH_done (by kernel_rfl) ?_ _
          go_wp2
          go_roundg g
          case measure => omega
          case rel => exact ⟨v + 1, by omega, by go_num, LP.out, CP0.out, CP1.out, BP.out⟩
        · refine wpOp_step rfl fun K1 hK1 => ?_
          rw [if_pos (by rfl)]
          unfold Oper.wp
          go_simp
          refine hK1 _ _ ⟨trivial, ?_⟩
          clear hK1 K1
          refine wpAnyH_all (rs := [7]) (by kernel_rfl) (by simp) fun i hix => ?_
          obtain rfl : i = 7 := by simpa using hix
          refine wpOp_step rfl fun K1 hK1 => ?_
          rw [if_pos (by rfl)]
          unfold Oper.wp
          go_simp
          refine hK1 _ _ ⟨trivial, ?_⟩
          clear hK1 K1
          refine wpAnyH_all (rs := [10]) (by kernel_rfl) (by simp) fun i hix => ?_
          obtain rfl : i = 10 := by simpa using hix
          refine wpOp_step rfl fun K1 hK1 => ?_
          rw [if_pos (by rfl)]
          refine wp_append_lies _ _ _ 23 rfl (w.heap.size + 1) 3 i0 (.int .i64 0) 1 8 Try.underlying23 hi hz0 hz1 hz2 rfl (by decide) vu _ _ rfl Q3.out ⟨W0.heap.size, 0, none⟩ 1 1 [.int .i64 (v : Int)] rfl rfl (one_new _ _ _) (by simp [Value.oneCell']) (by decide) (by unfold maxLen; omega) (by omega) (by rw [← hW0]; simp; omega) _ rfl ?_
          intro gq cp W3 hown3 hg3 hat3 hlt3
          have e3 : W3.cell? ⟨w.heap.size, 2 + u, none⟩ = some vu := kept_cell hg3 D2.out hneb
          have e4 : W3.frozen? ⟨w.heap.size, 2 + u, none⟩ = false := by
            have f1 := (H1.out u hu4).2.1
            have s1 : W3.heap[w.heap.size]? = (W0.alloc (.cells #[.int .i64 (v : Int)] 3)).heap[w.heap.size]? := hg3.block _ (by rw [← hW0]; simp; omega) hneb
            have s2 : (W0.alloc (.cells #[.int .i64 (v : Int)] 3)).heap[w.heap.size]? = W0.heap[w.heap.size]? := Below.heap_alloc _ _ _ (by rw [← hW0]; exact hszr)
            rw [← f1]
            exact World.frozen?_of_block (by rw [s1, s2, ← hW0]; rfl)
          refine hK1 _ _ ⟨trivial, ?_⟩
          clear hK1 K1
          have LP : Hid (Lists (W3.setCell ⟨w.heap.size, 2 + u, none⟩ (.slice (some ⟨gq, 0, none⟩) ((mem v (wkOf k bys) u).length + 1) cp)) w.heap.size (w.heap.size + 1) (mem (v + 1) (wkOf k bys))) := by
            refine Lists.put (W := W0) (by omega) hu4 (by rw [← hW0]; exact H1.out) H2.out hown3 (by rw [HVU.out]; exact hg3) (by rw [HVU.out]; rcases hat3 with h | h; exact .inl h; exact .inr (by simp at h; omega)) (mem_succ_same HU.out.symm) (fun u' hu' => mem_succ_other fun e => hu' (by rw [HU.out]; exact e.symm))
          have BP : Hid (Below w.heap.size w (W3.setCell ⟨w.heap.size, 2 + u, none⟩ (.slice (some ⟨gq, 0, none⟩) ((mem v (wkOf k bys) u).length + 1) cp))) := by
            have B1 : Below w.heap.size w W0 := by rw [← hW0]; exact HB.out.drew
            have B2 : w.heap.size ≤ W0.heap.size := by rw [← hW0]; exact Nat.le_of_lt hszr
            refine Below.setCell (p := ⟨w.heap.size, 2 + u, none⟩) (Below.grown (B1.alloc B2 _) hg3 (by rw [← hW0]; simp; omega) fun j ej => ?_) (by simp) _
            have := (Q3.out.lt j ej).1; omega
          have CP0 : Hid ((W3.setCell ⟨w.heap.size, 2 + u, none⟩ (.slice (some ⟨gq, 0, none⟩) ((mem v (wkOf k bys) u).length + 1) cp)).cell? ⟨w.heap.size, 0, none⟩ = some (.int .i64 (n : Int))) := (World.cell?_setCell_other _ _ _ _ (by intro hh; simp only [Addr.mk.injEq] at hh; omega)).trans (kept_cell hg3 (cell_al _ (by rw [← hW0]; exact HC0'.out)) hneb)
          have CP1 : Hid ((W3.setCell ⟨w.heap.size, 2 + u, none⟩ (.slice (some ⟨gq, 0, none⟩) ((mem v (wkOf k bys) u).length + 1) cp)).cell? ⟨w.heap.size, 1, none⟩ = some (.int .i64 (k : Int))) := (World.cell?_setCell_other _ _ _ _ (by intro hh; simp only [Addr.mk.injEq] at hh; omega)).trans (kept_cell hg3 (cell_al _ (by rw [← hW0]; exact HC1'.out)) hneb)
          refine wpAnyH_take (i := 13) (v := .pointer (some ⟨w.heap.size, 2 + u, none⟩)) rfl (by kernel_rfl) (by kernel_rfl) (by kernel_rfl) (fun _ _ _ h => h) (.inl ⟨by rfl, fun y hy => ?_⟩) trivial ?_
          · go_simp
          refine wpAnyH_all (rs := [14]) (by kernel_rfl) (by simp) fun i hix => ?_
          obtain rfl : i = 14 := by simpa using hix
          refine wpOp_step rfl fun K1 hK1 => ?_
          rw [if_pos (by rfl)]
          unfold Oper.wp
          go_simp
          refine hK1 _ _ ⟨trivial, ?_⟩
          clear hK1 K1
          refine wpAnyH_done (by kernel_rfl) ?_ _
          go_wp2
          go_roundg g
          case measure => omega
          case rel => exact ⟨v + 1, by omega, by go_num, LP.out, CP0.out, CP1.out, BP.out⟩
end Go.Proofs.Ytjlnnpcaeikolaa
