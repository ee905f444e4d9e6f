/-
  Columns: a column declared.
-/
import Derived.Test.YtbjoljokdjgbnacMapC
namespace Go.Proofs.Ytbjoljokdjgbnac
open Go.RowKit Go.MapKept
open Go.ChangeMaps (setBlock)
theorem sb_cell {u : World} {b n i : Nat} {o : Obj} (h : n ≠ b) : (setBlock u b o).cell? ⟨n, i, none⟩ = u.cell? ⟨n, i, none⟩ := World.cell?_of_block (by simp [setBlock, Ne.symm h])
theorem sb_same {u : World} {b : Nat} {o : Obj} (h : b < u.heap.size) : (setBlock u b o).heap[b]? = some o := by simp [setBlock, h]
theorem make36 (c : Nat) (hc : c ≤ 1000) (W : World) : (Instr.makeSlice 36 (.int .i64 (c : Int)) (.int .i64 (c : Int))).run Try.prog W = .ok (.slice (some ⟨W.heap.size, 0, none⟩) c c) (W.alloc (.cells (madeCells #[.int .i64 0] c) 35)) := by
  obtain ⟨i0, hi, hz0, hz1, hz2⟩ := info_parts (show (Try.prog.info? 35).map (fun i => (i.zero, i.size, i.bytes)) = some (some (.int .i64 0), 1, 8) by kernel_rfl)
  have := run_make (P := Try.prog) W 36 35 i0 (.int .i64 0) Try.underlying36 hi hz0 .i64 .i64 (c : Int) (c : Int) (by omega) (by omega) (by rw [hz2]; omega) (by omega)
  rw [hz1] at this
  simp only [Int.toNat_natCast, Nat.mul_one] at this
  exact this
set_option maxRecDepth 100000 in
set_option maxHeartbeats 2000000 in
theorem declare_ok (tb mb : Nat) (n m : Int) (s : ByteArray) (d q : Int) (es : Array MapEntry) (clock : Nat) (w : World) (c0 : w.cell? ⟨tb, 0, none⟩ = some (.int .i64 n)) (c1 : w.cell? ⟨tb, 1, none⟩ = some (.int .i64 m)) (c2 : w.cell? ⟨tb, 2, none⟩ = some (.map (some mb)))
    (hb : w.heap[mb]? = some (.map es clock)) (hky : Keyed es) (hs : s.size ≤ maxLen) (hwd : Wf8 d) (hne : ∀ e ∈ es.toList, e.key ≠ ke s d) (L : Nat) (hL : sideLen n m d = L) (hL30 : L ≤ 30) (hn : isName s = true) (hd : side d = true) (hq : kind q = true) (h24 : es.size < 24) :
    Calls Try.prog 15 #[.pointer (some ⟨tb, 0, none⟩), ke s d, .int .u8 q] w fun e w' => e = .returned (.int .i64 0) ∧ ∃ w3 r, Below w.heap.size w w3 ∧ w.heap.size ≤ r ∧ w3.heap[r]? = some (.cells (madeCells #[.int .i64 0] L) 35) ∧ w' = setBlock w3 mb (.map (es.push { key := ke s d, val := .agg #[.int .u8 q, .slice (some ⟨r, 0, none⟩) L L], born := clock }) (clock + 1)) := by
  have hk := look_none hb hky hs hwd hne
  have htb := World.block_lt_of_cell? w _ c2
  simp only at htb
  have hm : mb < w.heap.size := (Array.getElem?_eq_some_iff.1 hb).1
  have CK : Hid (∀ u, Below w.heap.size w u → Calls Try.prog 21 #[.pointer (some ⟨tb, 0, none⟩), ke s d] u fun e w' => e = .returned (.int .u8 0) ∧ Below u.heap.size u w') :=
    hidI fun u hu => kindOf_none tb mb s d u ((hu.cell (p := ⟨tb, 2, none⟩) htb).trans c2) (Nat.lt_of_lt_of_le hm hu.size) fun v hv => hk v (hv.trans (hu.block mb hm))
  have CN : Hid (∀ u, Calls Try.prog 49 #[.string s] u fun e w' => e = .returned (.bool true) ∧ Below u.heap.size u w') := hidI fun u => hn ▸ name_any s u
  have CS : Hid (∀ u, Calls Try.prog 50 #[.int .u8 d] u fun e w' => e = .returned (.bool true) ∧ u = w') := hidI fun u => hd ▸ side_any d u
  have CQ : Hid (∀ u, Calls Try.prog 51 #[.int .u8 q] u fun e w' => e = .returned (.bool true) ∧ u = w') := hidI fun u => hq ▸ kind_any q u
  have hnt : tb ≠ mb := fun e => by
    subst e
    simp [World.cell?, hb] at c2
  have hnw : w.heap.size ≠ mb := by omega
  have CV : Hid (∀ u v, u.heap[mb]? = some (.map (es.push { key := ke s d, val := v, born := clock }) (clock + 1)) → (Instr.mapUpdate 76 (.map (some mb)) (ke s d) v).run Try.prog u = .ok () (setBlock u mb (.map (es.push { key := ke s d, val := v, born := clock }) (clock + 1)))) := hidI fun u v hu => store_again v hu hky hs hwd hne
  have CU : Hid (∀ u v, Below w.heap.size w u → (Instr.mapUpdate 76 (.map (some mb)) (ke s d) v).run Try.prog u = .ok () (setBlock u mb (.map (es.push { key := ke s d, val := v, born := clock }) (clock + 1)))) := hidI fun u v hu => store_new v ((hu.block mb hm).trans hb) hky hs hwd hne
  have CLn : Hid (∀ u, Below w.heap.size w u → Calls Try.prog 23 #[.pointer (some ⟨tb, 0, none⟩), .int .u8 d] u fun e w' => e = .returned (.int .i64 (L : Int)) ∧ u = w') := hidI fun u hu => hL ▸ len_any tb n m d u ((hu.cell (p := ⟨tb, 0, none⟩) htb).trans c0) ((hu.cell (p := ⟨tb, 1, none⟩) htb).trans c1)
  have CC : Hid (∀ u, Below w.heap.size w u → u.cell? ⟨tb, 2, none⟩ = some (.map (some mb))) := hidI fun u hu => (hu.cell (p := ⟨tb, 2, none⟩) htb).trans c2
  have hmk := make36 L (by omega)
  clear hk hky hne
  go_enter Try.func15, Try.ntmps15
  go_wp2_with (go_at_call 49; refine Calls.mono (CN.out _) ?_; rintro e w1 ⟨rfl, hb1⟩; refine Hid.out ?_)
  refine hidI ?_
  have B1 : Hid (Below w.heap.size w w1) := hidI (Below.trans (by (repeat (first | exact Below.refl _ _ | assumption | refine Below.drew ?_ | refine Below.alloc ?_ (by first | omega | (simp; done) | (simp; omega)) _ | refine Below.setCell ?_ (by first | omega | (simp; done) | (simp; omega)) _))) (hb1.mono (by simp)))
  have g0 : w1.cell? ⟨w.heap.size, 0, none⟩ = some (.string s) := by
    refine (hb1.cell (p := ⟨w.heap.size, 0, none⟩) (by simp)).trans ?_
    go_simp
  have g1 : w1.cell? ⟨w.heap.size, 1, none⟩ = some (.int .u8 d) := by
    refine (hb1.cell (p := ⟨w.heap.size, 1, none⟩) (by simp)).trans ?_
    go_simp
  have hsz := hb1.size
  simp only [World.size_alloc] at hsz
  clear hb1 CN
  go_wp2_with (first | (go_at_call 50; refine Calls.mono (CS.out _) ?_; rintro e w' ⟨rfl, rfl⟩) | (go_at_call 51; refine Calls.mono (CQ.out _) ?_; rintro e w' ⟨rfl, rfl⟩) | (go_at_call 21; refine Calls.mono (CK.out _ B1.out) ?_; rintro e w2 ⟨rfl, hb2⟩; refine Hid.out ?_))
  refine hidI ?_
  have B2 : Hid (Below w.heap.size w w2) := hidI (B1.out.trans (hb2.mono B1.out.size))
  have g2 : w2.cell? ⟨w.heap.size, 0, none⟩ = some (.string s) := (hb2.cell (p := ⟨w.heap.size, 0, none⟩) (by simp only; omega)).trans g0
  have g3 : w2.cell? ⟨w.heap.size, 1, none⟩ = some (.int .u8 d) := (hb2.cell (p := ⟨w.heap.size, 1, none⟩) (by simp only; omega)).trans g1
  have hsz2 := hb2.size
  have m0 := (B2.out.cell (p := ⟨tb, 0, none⟩) htb).trans c0
  have m1 := (B2.out.cell (p := ⟨tb, 1, none⟩) htb).trans c1
  have m2 := (B2.out.cell (p := ⟨tb, 2, none⟩) htb).trans c2
  have m3 := (B2.out.block mb hm).trans hb
  have k24 : decide (24 ≤ (es.size : Int)) = false := by simp; omega
  clear hb2 CK CS CQ g0 g1 c0 c1 c2 hb B1
  have ql : (Builtin.len_ #[76] 3 #[.map (some mb)]).run Try.prog w2 = .ok (.int .i64 (es.size : Int)) w2 := run_len_map w2 76 3 mb es clock Try.underlying76 m3
  go_wp2
  clear ql m0 m1 m2 m3
  go_region_held3 (fun w' => w'.cell? ⟨tb, 2, none⟩ = some (.map (some mb)) ∧ w'.cell? ⟨w.heap.size, 0, none⟩ = some (.string s) ∧ w'.cell? ⟨w.heap.size, 1, none⟩ = some (.int .u8 d) ∧ (Instr.mapUpdate 76 (.map (some mb)) (ke s d) (.agg #[.int .u8 q, .slice (some ⟨w2.heap.size, 0, none⟩) L L])).run Try.prog w' = .ok () (setBlock w' mb (.map (es.push { key := ke s d, val := .agg #[.int .u8 q, .slice (some ⟨w2.heap.size, 0, none⟩) L L], born := clock }) (clock + 1))))
    (first
      | (have := B2.out; exact ⟨CC.out _ (by (repeat (first | exact Below.refl _ _ | assumption | refine Below.drew ?_ | refine Below.alloc ?_ (by first | omega | (simp; done) | (simp; omega)) _ | refine Below.setCell ?_ (by first | omega | (simp; done) | (simp; omega)) _))), by go_keep, by go_keep, CU.out _ _ (by (repeat (first | exact Below.refl _ _ | assumption | refine Below.drew ?_ | refine Below.alloc ?_ (by first | omega | (simp; done) | (simp; omega)) _ | refine Below.setCell ?_ (by first | omega | (simp; done) | (simp; omega)) _)))⟩)
      | (have := B2.out; exact ⟨(sb_cell hnt).trans (CC.out _ (by (repeat (first | exact Below.refl _ _ | assumption | refine Below.drew ?_ | refine Below.alloc ?_ (by first | omega | (simp; done) | (simp; omega)) _ | refine Below.setCell ?_ (by first | omega | (simp; done) | (simp; omega)) _)))), (sb_cell hnw).trans (by go_keep), (sb_cell hnw).trans (by go_keep), CV.out _ _ (sb_same (by simp; omega))⟩))
    ((go_at_call 23; refine Calls.mono (CLn.out _ (by have := B2.out; (repeat (first | exact Below.refl _ _ | assumption | refine Below.drew ?_ | refine Below.alloc ?_ (by first | omega | (simp; done) | (simp; omega)) _ | refine Below.setCell ?_ (by first | omega | (simp; done) | (simp; omega)) _)))) ?_; rintro e w' ⟨rfl, rfl⟩))
  all_goals
    go_wp2
    go_ret
    refine ⟨rfl, _, w2.heap.size, ?_, B2.out.size, ?_, rfl⟩
    · have := B2.out; (repeat (first | exact Below.refl _ _ | assumption | refine Below.drew ?_ | refine Below.alloc ?_ (by first | omega | (simp; done) | (simp; omega)) _ | refine Below.setCell ?_ (by first | omega | (simp; done) | (simp; omega)) _))
    · exact World.alloc_heap_new w2 _
end Go.Proofs.Ytbjoljokdjgbnac
