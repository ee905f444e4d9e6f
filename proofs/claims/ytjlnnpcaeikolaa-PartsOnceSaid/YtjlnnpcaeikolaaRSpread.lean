/-
  The document's Spread, and the law PartsSpread, walked.
-/
import Derived.Test.YtjlnnpcaeikolaaRMore
namespace Go.Proofs.Ytjlnnpcaeikolaa
open Go.RowKit Go.Deep
theorem rspread_nil (n k : Int) (kk : Nat) (w : World) (h : ¬ mayP n k) : Calls Try.prog 28 #[.int .i64 n, .int .i64 k, .int .u64 (kk : Int)] w fun e w' => e = .returned (.slice none 0 0) ∧ w = w' := by
  have C := hidI (rnew_nil n k none 0 0 w h)
  clear h
  go_enter Try.func28, Try.ntmps28
  go_wp2_with (go_at_call 10; refine Calls.mono C.out ?_; rintro e w' ⟨rfl, rfl⟩)
  go_ret
  exact ⟨rfl, rfl⟩
set_option maxRecDepth 100000 in
set_option maxHeartbeats 4000000 in
theorem rspread_ok (n k : Nat) (hm : mayP n k) (kk : Nat) (hkk : kk < 18446744073709551616) (w : World) :
    Calls Try.prog 28 #[.int .i64 (n : Int), .int .i64 (k : Int), .int .u64 (kk : Int)] w fun e w' => ∃ v ps, e = .returned v ∧ ps.length = n ∧ Perm.Steps n Perm.none16 (kk % Perm.fac n) ps ∧ Sees w' v ((List.range n).map (spr ps k n)) ∧ Below w.heap.size w w' := by
  obtain ⟨i3, hi, hz0, hz1, hz2⟩ := info_parts Try.info3
  have C := hidI (rnew_ok n k hm (.slice none 0 0) [] w ⟨none, 0, rfl, .inl rfl⟩)
  obtain ⟨m1, m2, m3, m4⟩ := hm
  go_enter Try.func28, Try.ntmps28
  go_wp2_with (go_at_call 10; refine Calls.mono C.out ?_; rintro e w0 ⟨rb, rfl, _, hb0⟩; refine Hid.out ?_)
  refine hidI ?_
  have HB0 := hidI hb0
  have CF := hidI (Perm.refFrom_walk n kk w0 (by omega) hkk)
  clear C hb0
  go_wp2_with (go_at_call 35; refine Calls.mono CF.out ?_; rintro e w1 ⟨xv, ps, rfl, hpl, hst, hs1, hb1⟩; refine Hid.out ?_)
  refine hidI ?_
  have HST := hidI hst
  have HPL := hidI hpl
  have HS1 := hidI (ofPerm hs1)
  have HB1 := hidI (HB0.out.trans (hb1.mono HB0.out.size))
  have HR := hidI (Perm.rightB_range (right_of_steps hst hpl (by omega)))
  clear CF hst hpl hs1 hb1 HB0
  go_wp2_with (at_make; refine wpList_make_row _ rfl _ _ 23 rfl 3 i3 (.int .i64 0) Try.underlying23 hi hz0 hz1 rfl .i64 .i64 n rfl rfl (by rw [hz2]; omega) (by omega) ?_; refine Hid.out ?_)
  refine hidI ?_
  have hrow : Perm.Row (w1.alloc (.cells (madeCells #[.int .i64 0] n) 3)) w1.heap.size n (fun _ => 0) := World.rowIs_made w1 (.int .i64 0) n 3
  have HB2 := hidI (HB1.out.alloc HB1.out.size (.cells (madeCells #[.int .i64 0] n) 3))
  have hlv : ∃ b off xc, xv = .slice (some ⟨b, off, none⟩) n xc ∧ b < w1.heap.size ∧ ∀ j, j < n → w1.cell? ⟨b, off + j, none⟩ = some (.int .i64 (ps.getD j 0)) := by
    obtain ⟨a, cap, he, h⟩ := HS1.out
    rw [HPL.out] at he h
    rcases h with h | ⟨b, off, rfl, hc⟩
    · have := HPL.out; rw [h] at this; simp at this; omega
    · exact ⟨b, off, cap, he, World.block_lt_of_cell? w1 _ (hc 0 (by omega)), hc⟩
  obtain ⟨b, off, xc, rfl, hbw, hc⟩ := hlv
  have HC : Hid (∀ j, j < n → (w1.alloc (.cells (madeCells #[.int .i64 0] n) 3)).cell? ⟨b, off + j, none⟩ = some (.int .i64 (ps.getD j 0))) := fun j hj => cell_al _ (hc j hj)
  have hG := HB1.out.size
  obtain ⟨G, hGe⟩ : ∃ G, w1.heap.size = G := ⟨_, rfl⟩
  rw [hGe] at hrow hG hbw
  rw [hGe]
  generalize w1.alloc (.cells (madeCells #[.int .i64 0] n) 3) = w2 at hrow HB2 HC ⊢
  have HROW := hidI hrow
  clear hGe HS1 HB1 hrow hc
  clear w1
  go_wp2
  go_loopg [10] n (fun g s10 wx => ∃ (i : Nat), i + g = n ∧ s10 = .int .i64 i ∧ Perm.Row wx G n (spr ps k i) ∧ (∀ j, j < n → wx.cell? ⟨b, off + j, none⟩ = some (.int .i64 (ps.getD j 0))) ∧ Below w.heap.size w wx)
  case atStart => exact ⟨0, by omega, rfl, HROW.out, HC.out, HB2.out⟩
  case round =>
    clear HROW HC HB2
    obtain ⟨i, hig, rfl, hrow, hss, hb⟩ := hrel
    cases gk with
    | zero =>
      have hil : i = n := by omega
      subst hil
      have HS := hidI (ofPerm (hrow.sees (by omega)))
      have HB := hidI hb
      clear hrow hss hb
      go_wp2
      go_ret
      exact ⟨_, ps, rfl, HPL.out, HST.out, HS.out, HB.out⟩
    | succ g =>
      have hlt : i < n := by omega
      have hlt2 : (i : Int) < (n : Int) := by omega
      obtain ⟨q, hq, hql⟩ := HR.out i (by have := HPL.out; omega)
      rw [HPL.out] at hql
      have hx : wr.cell? ⟨b, off + i, none⟩ = some (.int .i64 (q : Int)) := by rw [hss i hlt, hq]
      have hql2 : (q : Int) < (n : Int) := by omega
      have ht := tmod_nat i k
      have hk0 : (k : Int) ≠ 0 := by omega
      have hk00 : ¬ k = 0 := by omega
      have hmk : i % k < k := Nat.mod_lt _ (by omega)
      obtain ⟨r, hr⟩ : ∃ r, i % k = r := ⟨_, rfl⟩
      rw [hr] at ht hmk
      have w3 : IntKind.i64.wrap (r : Int) = (r : Int) := wrap_small (by omega) (by omega)
      have hfr : wr.drew.frozen? ⟨G, q, none⟩ = false := World.rowIs.frozen hrow q
      have hcl : wr.drew.cell? ⟨G, q, none⟩ = some (.int .i64 (spr ps k i q)) := World.rowIs.cell hrow hql
      have hxd : wr.drew.cell? ⟨b, off + i, none⟩ = some (.int .i64 (q : Int)) := hx
      have hrow' : Perm.Row (wr.drew.setCell ⟨G, q, none⟩ (.int .i64 (r : Int))) G n (spr ps k (i + 1)) := Perm.Row.put (w := wr.drew) (f := spr ps k i) hrow q (r : Int) (fun j hj => by
        simp only [spr, hq, Int.toNat_natCast, hr])
      have hb' : Below w.heap.size w (wr.drew.setCell ⟨G, q, none⟩ (.int .i64 (r : Int))) := hb.drew.setCell (p := ⟨G, q, none⟩) hG _
      have hs' : ∀ j, j < n → (wr.drew.setCell ⟨G, q, none⟩ (.int .i64 (r : Int))).cell? ⟨b, off + j, none⟩ = some (.int .i64 (ps.getD j 0)) := fun j hj => (World.cell?_setCell_far wr.drew ⟨G, q, none⟩ ⟨b, off + j, none⟩ _ (by simp only; omega)).trans (hss j hj)
      have HH := hidI hrow'
      have HH2 := hidI hb'
      have HH3 := hidI hs'
      have hxs : (wr.drew.setCell ⟨G, q, none⟩ (.int .i64 (r : Int))).cell? ⟨b, off + i, none⟩ = some (.int .i64 (q : Int)) := by rw [hs' i hlt, hq]
      clear hrow' hrow hq hr hb' hs' hss hb
      go_wp2
      go_region_held3 (fun w' => w'.cell? ⟨b, off + i, none⟩ = some (.int .i64 (q : Int)))
        (first | assumption | exact hxd | exact hxs)
        (fail)
      all_goals
        go_wp2
        go_roundg g
        case measure => omega
        case rel => exact ⟨i + 1, by omega, by go_num, HH.out, HH3.out, HH2.out⟩
end Go.Proofs.Ytjlnnpcaeikolaa
