/-
  A worker's nodes in the order of a number: what Order comes to; numbers that spread nodes: what Spread comes to.
-/
import Derived.Test.YtjlnnpcaeikolaaPOpen
import Derived.Test.YtjlnnpcaeikolaaQPlain
import Derived.Test.YtjlnnpcaeikolaaQRefFrom
namespace Go.Proofs.Ytjlnnpcaeikolaa
open Go.RowKit Go.Deep
theorem toPerm {w : World} {v : Value} {zs : List Int} (h : Sees w v zs) (hl : zs.length ≤ 1000000) : Perm.Sees w v zs := by
  obtain ⟨a, cap, h1, h2⟩ := h
  exact ⟨a, cap, h1, by omega, h2⟩
theorem ofPerm {w : World} {v : Value} {zs : List Int} (h : Perm.Sees w v zs) : Sees w v zs := by
  obtain ⟨a, cap, h1, _, h2⟩ := h
  exact ⟨a, cap, h1, h2⟩
theorem right_of_steps {n k : Nat} {ps : List Int} (h : Perm.Steps n Perm.none16 k ps) (hl : ps.length = n) (hn : n ≤ 16) : Perm.rightB ps = true := by
  unfold Perm.rightB
  rw [hl, Perm.right_steps h]
  simp [hn]
/-- perm.From, by what is read of it. -/
theorem from_any (n k : Nat) (w : World) (h : n ≤ 16) (hk : k < 18446744073709551616) :
    Calls Try.prog 33 #[.int .i64 n, .int .u64 k] w fun e w' => ∃ (g : Nat) (ps : List Int), e = .returned (.tuple #[.slice (some ⟨g, 0, none⟩) n n, .int .i64 0]) ∧ ps.length = n ∧ Perm.Steps n Perm.none16 (k % Perm.fac n) ps ∧ Sees w' (.slice (some ⟨g, 0, none⟩) n n) ps ∧ Below w.heap.size w w' := by
  refine (Perm.from_walk n k w h hk).mono ?_
  rintro e w' ⟨g, ps, rfl, h1, h2, h3, h4⟩
  exact ⟨g, ps, rfl, h1, h2, sees_of_owns (base := w.heap.size) (e := 3) (by rw [h1]; exact h3), h4⟩
theorem turn_ok (v u : Value) (p l : List Int) (w : World) (hv : Sees w v p) (hu : Sees w u l) (hr : Perm.rightB p = true) (hl : l.length = p.length) :
    Calls Try.prog 34 #[v, u] w fun e w' => ∃ x, e = .returned (.tuple #[x, .int .i64 0]) ∧ Sees w' x (Perm.turnL p l) ∧ Below w.heap.size w w' := by
  have h16 := (Perm.rightB_parts hr).1
  refine (Perm.turn_any v u p l w (toPerm hv (by omega)) (toPerm hu (by omega))).mono ?_
  have hb : Perm.turnB p l = true := by unfold Perm.turnB; simp [hr, hl]
  rintro e w' ⟨x, rfl, h1, h2⟩
  refine ⟨x, by rw [Perm.turnE, if_pos hb], ?_, h2⟩
  rw [Perm.turnW, if_pos hb] at h1
  exact ofPerm h1
theorem memI_length (n k : Nat) (wk : Nat → Nat) (u : Int) : (memI n k wk u).length ≤ n := by
  unfold memI
  split
  · exact mem_length n wk _
  · simp
theorem IsP.le {w : World} {pp : Option Addr} {n k : Nat} {wk : Nat → Nat} (h : IsP w pp n k wk) : n ≤ 12 := by
  rcases h with ⟨_, rfl, _⟩ | ⟨_, _, h, _⟩
  · omega
  · exact h.2.1
set_option maxRecDepth 100000 in
set_option maxHeartbeats 1000000 in
theorem order_any (pp : Option Addr) (n k : Nat) (wk : Nat → Nat) (u : Int) (kk : Nat) (hkk : kk < 18446744073709551616) (w : World) (hp : IsP w pp n k wk) :
    Calls Try.prog 16 #[.pointer pp, .int .i64 u, .int .u64 (kk : Int)] w fun e w' => ∃ v ps, e = .returned v ∧ ps.length = (memI n k wk u).length ∧ Perm.Steps (memI n k wk u).length Perm.none16 (kk % Perm.fac (memI n k wk u).length) ps ∧ Sees w' v (Perm.turnL ps (memI n k wk u)) ∧ Below w.heap.size w w' := by
  have CM := hidI (members_any pp n k wk u w hp)
  have h12 := hp.le
  have hml := memI_length n k wk u
  obtain ⟨l, hl⟩ : ∃ l, memI n k wk u = l := ⟨_, rfl⟩
  rw [hl] at CM hml ⊢
  clear hl hp
  go_enter Try.func16, Try.ntmps16
  go_wp2_with (go_at_call 14; refine Calls.mono CM.out ?_; rintro e w1 ⟨v1, rfl, hs1, hb1⟩; refine Hid.out ?_)
  refine hidI ?_
  have HS1 := hidI hs1
  have HB1 := hidI hb1
  obtain ⟨a, cap, rfl, _⟩ := hs1
  have CF := hidI (from_any l.length kk w1 (by omega) hkk)
  clear CM hb1
  go_wp2_with (go_at_call 33; refine Calls.mono CF.out ?_; rintro e w2 ⟨g, ps, rfl, hpl, hst, hs2, hb2⟩; refine Hid.out ?_)
  refine hidI ?_
  have HST := hidI hst
  have HPL := hidI hpl
  have HB2 := hidI (HB1.out.trans (hb2.mono HB1.out.size))
  have CT := hidI (turn_ok _ _ ps l w2 hs2 (HS1.out.below hb2 (Nat.le_refl _)) (right_of_steps hst hpl (by omega)) hpl.symm)
  clear CF hb2 hst hpl hs2 HS1 HB1
  go_wp2_with (go_at_call 34; refine Calls.mono CT.out ?_; rintro e w3 ⟨x, rfl, hs3, hb3⟩; refine Hid.out ?_)
  refine hidI ?_
  have HS3 := hidI hs3
  have HB3 := hidI (HB2.out.trans (hb3.mono HB2.out.size))
  clear CT hs3 hb3 HB2
  go_wp2
  go_ret
  exact ⟨_, ps, rfl, HPL.out, HST.out, HS3.out, HB3.out⟩
/-- What Spread has set behind i nodes. -/
def spr (ps : List Int) (k : Nat) : Nat → Nat → Int
  | 0, _ => 0
  | i + 1, j => if j = (ps.getD i 0).toNat then ((i % k : Nat) : Int) else spr ps k i j
theorem spread_nil (n k : Int) (kk : Nat) (w : World) (h : ¬ mayP n k) : Calls Try.prog 27 #[.int .i64 n, .int .i64 k, .int .u64 (kk : Int)] w fun e w' => e = .returned (.slice none 0 0) ∧ w = w' := by
  have C := hidI (may_no n k w h)
  clear h
  go_enter Try.func27, Try.ntmps27
  go_wp2_with (go_at_call 29; refine Calls.mono C.out ?_; rintro e w' ⟨rfl, rfl⟩)
  go_ret
  exact ⟨rfl, rfl⟩
theorem tmod_nat (i k : Nat) : ((i : Int)).tmod (k : Int) = ((i % k : Nat) : Int) := by
  rw [Int.tmod_eq_emod_of_nonneg (by omega)]; rfl
set_option maxRecDepth 100000 in
set_option maxHeartbeats 2000000 in
theorem spread_ok (n k : Nat) (hm : mayP n k) (kk : Nat) (hkk : kk < 18446744073709551616) (w : World) :
    Calls Try.prog 27 #[.int .i64 (n : Int), .int .i64 (k : Int), .int .u64 (kk : Int)] w fun e w' => ∃ v ps, e = .returned v ∧ ps.length = n ∧ Perm.Steps n Perm.none16 (kk % Perm.fac n) ps ∧ Sees w' v ((List.range n).map (spr ps k n)) ∧ Below w.heap.size w w' := by
  obtain ⟨i3, hi, hz0, hz1, hz2⟩ := info_parts Try.info3
  have C := hidI (may_yes n k w hm)
  obtain ⟨m1, m2, m3, m4⟩ := hm
  have CF := hidI (from_any n kk w (by omega) hkk)
  go_enter Try.func27, Try.ntmps27
  go_wp2_with (first | (go_at_call 29; refine Calls.mono C.out ?_; rintro e w' ⟨rfl, rfl⟩) | (go_at_call 33; refine Calls.mono CF.out ?_; rintro e w1 ⟨g0, ps, rfl, hpl, hst, hs1, hb1⟩; refine Hid.out ?_))
  refine hidI ?_
  have HST := hidI hst
  have HPL := hidI hpl
  have HS1 := hidI hs1
  have HB1 := hidI hb1
  have HR := hidI (Perm.rightB_range (right_of_steps hst hpl (by omega)))
  clear C CF hst hpl hs1 hb1
  go_wp2_with (at_make; refine wpList_make_row _ rfl _ _ 23 rfl 3 i3 (.int .i64 0) Try.underlying23 hi hz0 hz1 rfl .i64 .i64 n rfl rfl (by rw [hz2]; omega) (by omega) ?_; refine Hid.out ?_)
  refine hidI ?_
  have hrow : Perm.Row (w1.alloc (.cells (madeCells #[.int .i64 0] n) 3)) w1.heap.size n (fun _ => 0) := World.rowIs_made w1 (.int .i64 0) n 3
  have HB2 := hidI (HB1.out.alloc HB1.out.size (.cells (madeCells #[.int .i64 0] n) 3))
  have HS2 := hidI (HS1.out.below ((Below.refl _ w1).alloc (Nat.le_refl _) (.cells (madeCells #[.int .i64 0] n) 3)) (Nat.le_refl _))
  have hg0 : g0 < w1.heap.size := by
    obtain ⟨a, cap, he, h⟩ := HS1.out
    rcases h with h | ⟨b, off, rfl, hc⟩
    · have := HPL.out; rw [h] at this; simp at this; omega
    · cases he; exact World.block_lt_of_cell? w1 _ (hc 0 (by have := HPL.out; omega))
  have hG := HB1.out.size
  obtain ⟨G, hGe⟩ : ∃ G, w1.heap.size = G := ⟨_, rfl⟩
  rw [hGe] at hrow hG hg0
  rw [hGe]
  generalize w1.alloc (.cells (madeCells #[.int .i64 0] n) 3) = w2 at hrow HB2 HS2 ⊢
  have HROW := hidI hrow
  clear hGe HS1 HB1 hrow
  clear w1
  go_wp2
  go_loopg [26] n (fun g s26 wx => ∃ (i : Nat), i + g = n ∧ s26 = .int .i64 i ∧ Perm.Row wx G n (spr ps k i) ∧ Sees wx (.slice (some ⟨g0, 0, none⟩) n n) ps ∧ Below w.heap.size w wx)
  case atStart => exact ⟨0, by omega, rfl, HROW.out, HS2.out, HB2.out⟩
  case round =>
    clear HROW HS2 HB2
    obtain ⟨i, hig, rfl, hrow, hss, hb⟩ := hrel
    cases gk with
    | zero =>
      have hil : i = n := by omega
      subst hil
      have HS := hidI (ofPerm (hrow.sees (by omega)))
      have HB := hidI hb
      clear hrow hss hb
      go_wp2
      go_ret
      exact ⟨_, ps, rfl, HPL.out, HST.out, HS.out, HB.out⟩
    | succ g =>
      have hlt : i < n := by omega
      have hlt2 : (i : Int) < (n : Int) := by omega
      obtain ⟨q, hq, hql⟩ := HR.out i (by have := HPL.out; omega)
      rw [HPL.out] at hql
      have HSS := hidI hss
      obtain ⟨a, cap, he, h⟩ := hss
      rcases h with h | ⟨b, off, hae, hc⟩
      · have := HPL.out; rw [h] at this; simp at this; omega
      have hx : wr.cell? ⟨g0, i, none⟩ = some (.int .i64 (q : Int)) := by
        cases he
        cases hae
        have := hc i (by have := HPL.out; omega)
        rw [Nat.zero_add, hq] at this
        exact this
      have hql2 : (q : Int) < (n : Int) := by omega
      have ht := tmod_nat i k
      have hk0 : (k : Int) ≠ 0 := by omega
      have hmk : i % k < k := Nat.mod_lt _ (by omega)
      obtain ⟨r, hr⟩ : ∃ r, i % k = r := ⟨_, rfl⟩
      rw [hr] at ht hmk
      have w3 : IntKind.i64.wrap (r : Int) = (r : Int) := wrap_small (by omega) (by omega)
      have hfr : wr.frozen? ⟨G, q, none⟩ = false := World.rowIs.frozen hrow q
      have hcl := World.rowIs.cell hrow hql
      have hrow' : Perm.Row (wr.setCell ⟨G, q, none⟩ (.int .i64 (r : Int))) G n (spr ps k (i + 1)) := hrow.put q (r : Int) (fun j hj => by
        simp only [spr, hq, Int.toNat_natCast, hr])
      have hb' : Below w.heap.size w (wr.setCell ⟨G, q, none⟩ (.int .i64 (r : Int))) := hb.setCell (p := ⟨G, q, none⟩) hG _
      have hs' : Sees (wr.setCell ⟨G, q, none⟩ (.int .i64 (r : Int))) (.slice (some ⟨g0, 0, none⟩) n n) ps := by
        obtain ⟨a, cap, he, h⟩ := HSS.out
        refine ⟨a, cap, he, ?_⟩
        rcases h with h | ⟨b, off, hae, hc⟩
        · exact .inl h
        · refine .inr ⟨b, off, hae, fun j hj => ?_⟩
          have hbb : b = g0 := by cases he; cases hae; rfl
          exact (World.cell?_setCell_far wr ⟨G, q, none⟩ ⟨b, off + j, none⟩ _ (by simp only; omega)).trans (hc j hj)
      have HH := hidI hrow'
      have HH2 := hidI hb'
      have HH3 := hidI hs'
      clear hrow' hrow hq hr hb' hs' hc he hae HSS hb
      go_wp2
      go_roundg g
      case measure => omega
      case rel => exact ⟨i + 1, by omega, by go_num, HH.out, HH3.out, HH2.out⟩
end Go.Proofs.Ytjlnnpcaeikolaa
