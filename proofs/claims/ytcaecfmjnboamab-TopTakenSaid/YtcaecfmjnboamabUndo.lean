/-
  The call of the law PermUndoes.
-/
import Derived.Test.YtcaecfmjnboamabPlain
import Derived.Test.YtcaecfmjnboamabBack
namespace Go.Proofs.Ytcaecfmjnboamab
open Go.RowKit Go.Deep
def SeesAll (w : World) (l : List (Value × List Int)) : Prop := ∀ x ∈ l, Sees w x.1 x.2
theorem SeesAll.below {w w' : World} {l : List (Value × List Int)} {B : Nat} (h : SeesAll w l) (hb : Below B w w') (hB : w.heap.size ≤ B) : SeesAll w' l := fun x hx => (h x hx).below hb hB
theorem SeesAll.put {w : World} {l : List (Value × List Int)} (h : SeesAll w l) {v : Value} {zs : List Int} (hv : Sees w v zs) : SeesAll w ((v, zs) :: l) := by
  intro x hx
  rcases List.mem_cons.1 hx with rfl | hx
  · exact hv
  · exact h x hx
theorem turn_good {p l : List Int} (hp : rightB p = true) (hl : l.length = p.length) : turnE p l = 0 ∧ turnW p l = turnL p l := by
  have : turnB p l = true := by unfold turnB; rw [hp, decide_eq_true hl]; rfl
  exact ⟨by unfold turnE; rw [if_pos this], by unfold turnW; rw [if_pos this]⟩
theorem back_good {p : List Int} (hp : rightB p = true) : backE p = 0 ∧ backW p = backL p :=
  ⟨by unfold backE; rw [if_pos hp], by unfold backW; rw [if_pos hp]⟩
theorem then_good {p q : List Int} (hp : rightB p = true) (hq : rightB q = true) (hl : p.length = q.length) : thenE p q = 0 ∧ thenW p q = turnL q p := by
  have h := turn_good hq hl
  exact ⟨by unfold thenE; rw [if_pos hp]; exact h.1, by unfold thenW; rw [if_pos hp]; exact h.2⟩
theorem turn_ok (v u : Value) (p l : List Int) (w : World) (hv : Sees w v p) (hu : Sees w u l) (hp : rightB p = true) (hl : l.length = p.length) :
    Calls Try.prog 20 #[v, u] w fun e w' => ∃ x, e = .returned (.tuple #[x, .int .i64 0]) ∧ Sees w' x (turnL p l) ∧ Below w.heap.size w w' := by
  have := turn_any v u p l w hv hu
  rwa [(turn_good hp hl).1, (turn_good hp hl).2] at this
theorem back_ok (v : Value) (p : List Int) (w : World) (hv : Sees w v p) (hp : rightB p = true) :
    Calls Try.prog 22 #[v] w fun e w' => ∃ x, e = .returned (.tuple #[x, .int .i64 0]) ∧ Sees w' x (backL p) ∧ Below w.heap.size w w' := by
  have := back_any v p w hv
  rwa [(back_good hp).1, (back_good hp).2] at this
theorem then_ok (v u : Value) (p q : List Int) (w : World) (hv : Sees w v p) (hu : Sees w u q) (hp : rightB p = true) (hq : rightB q = true) (hl : p.length = q.length) :
    Calls Try.prog 24 #[v, u] w fun e w' => ∃ x, e = .returned (.tuple #[x, .int .i64 0]) ∧ Sees w' x (turnL q p) ∧ Below w.heap.size w w' := by
  have := then_any v u p q w hv hu
  rwa [(then_good hp hq hl).1, (then_good hp hq hl).2] at this
theorem from_ok (n k : Nat) (w : World) (h : n ≤ 16) (hk : k < 18446744073709551616) :
    Calls Try.prog 9 #[.int .i64 n, .int .u64 k] w fun e w' => ∃ (x : Value) (p : List Int), e = .returned (.tuple #[x, .int .i64 0]) ∧ p.length = n ∧ rightB p = true ∧ Sees w' x p ∧ Below w.heap.size w w' := by
  refine (from_walk n k w h hk).mono ?_
  rintro e w' ⟨g, ps, rfl, hp, hs, ho, hb⟩
  exact ⟨_, ps, rfl, hp, rightB_steps (by omega) (by rw [hp]; exact hs), sees_own ho (by omega), hb⟩
theorem two_cell (w : World) (a b : Value) (t : TypeId) : (w.alloc (.cells #[a, b] t)).cell? ⟨w.heap.size, 1, none⟩ = some b :=
  World.rowIs.cell (World.rowIs_alloc w #[a, b] t (fun j => if j = 0 then a else b) (by
    intro i hi
    match i, hi with
    | 0, _ | 1, _ => rfl
    | n + 2, h => exact absurd h (by simp))) (show 1 < 2 by decide)
set_option maxHeartbeats 2000000 in
theorem permUndoes_any (n x y sd : Nat) (hn : n < 256) (hx : x < 18446744073709551616) (hy : y < 18446744073709551616) (hsd : sd < 256) (w : World) :
    Calls Try.prog 6 #[.int .u8 n, .agg #[.int .u64 x, .int .u64 y], .int .u8 sd] w fun e w' => e = .returned (.bool true) ∧ Below w.heap.size w w' := by
  obtain ⟨i3, hi, hz0, hz1, hz2⟩ := info_parts info3
  obtain ⟨m, hm⟩ : ∃ m, n % 17 = m := ⟨_, rfl⟩
  have em : (n : Int).tmod 17 = (m : Int) := by rw [← hm]; rfl
  have hm16 : m ≤ 16 := by omega
  clear hm
  have CX : Hid (∀ w : World, _) := fun w => from_ok m x w hm16 hx
  have CY : Hid (∀ w : World, _) := fun w => from_ok m y w hm16 hy
  have CL : Hid (∀ w : World, _) := fun w => live_any w
  go_enter Try.func6, Try.ntmps6
  go_wp2_with (go_at_call 9; refine Calls.mono (CX.out _) ?_; rintro e w1 ⟨vp, p, rfl, hpl, hpr, hSp, hb1⟩; refine Hid.out ?_)
  refine hidI ?_
  have hsw : w.heap.size < w1.heap.size := by have := hb1.size; simp at this; omega
  have hcy : w1.cell? ⟨w.heap.size, 1, none⟩ = some (.int .u64 y) := (hb1.cell (p := ⟨w.heap.size, 1, none⟩) (by simp)).trans (two_cell w _ _ 42)
  have hbw1 : Below w.heap.size w w1 := ((Below.refl _ w).alloc (Nat.le_refl _) _).trans (hb1.mono (by simp))
  clear hb1 hsw
  go_wp2_with (go_at_call 9; refine Calls.mono (CY.out _) ?_; rintro e w2 ⟨vq, q, rfl, hql, hqr, hSq, hb2⟩; refine Hid.out ?_)
  refine hidI ?_
  have hA : SeesAll w2 [(vp, p), (vq, q)] := by
    intro z hz
    rcases List.mem_cons.1 hz with rfl | hz
    · exact hSp.below hb2 (Nat.le_refl _)
    · rcases List.mem_cons.1 hz with rfl | hz
      · exact hSq
      · cases hz
  have hbw2 : Below w.heap.size w w2 := hbw1.trans (hb2.mono hbw1.size)
  clear hSp hSq hb2 hbw1 hcy CX CY
  have HA : Hid _ := hA
  clear hA
  go_wp2
  go_loopg [12, 13] m (fun g s12 s13 wx => ∃ (i : Nat) (cur : List Int), i + g = m ∧ s13 = .int .i64 i ∧ cur.length = i ∧ wx.ownsRow w2.heap.size 3 1 s12 i (cur.map (Value.int .i64)) ∧ Below w2.heap.size w2 wx)
  case atStart => exact ⟨0, [], by omega, rfl, rfl, World.ownsRow_nil _ _ _ _, Below.refl _ _⟩
  case round =>
    obtain ⟨i, cur, hig, rfl, hcl, hown, hb⟩ := hrel
    cases gk with
    | zero =>
      have hil : i = m := by omega
      subst hil
      have hbw : Below w.heap.size w wr := hbw2.trans (hb.mono hbw2.size)
      have HA : Hid (SeesAll wr [(u12, cur), (vp, p), (vq, q)]) := (SeesAll.below HA.out hb (Nat.le_refl _)).put (sees_own hown (by omega))
      clear hown hb hbw2
      obtain ⟨a, ha⟩ : ∃ a, turnL p cur = a := ⟨_, rfl⟩
      have hal : a.length = p.length := by rw [← ha, turnL_length]
      obtain ⟨bk, hbk⟩ : ∃ bk, backL p = bk := ⟨_, rfl⟩
      have hbr : rightB bk = true := by rw [← hbk]; exact back_right hpr
      have hbl : bk.length = p.length := by rw [← hbk, backL_length]
      have hba : turnL bk a = cur := by rw [← hbk, ← ha]; exact back_takes hpr (by omega)
      obtain ⟨bo, hbo⟩ : ∃ bo, turnL q p = bo := ⟨_, rfl⟩
      have hbor : rightB bo = true := by rw [← hbo]; exact then_right hpr hqr (by omega)
      have hbol : bo.length = q.length := by rw [← hbo, turnL_length]
      obtain ⟨d, hd⟩ : ∃ d, turnL q a = d := ⟨_, rfl⟩
      have hdl : d.length = q.length := by rw [← hd, turnL_length]
      have hbc : turnL bo cur = d := by rw [← hbo, ← hd, ← ha]; exact then_takes hqr (by omega)
      go_wp2_with (go_at_call 20; refine Calls.mono (turn_ok _ _ p cur _ (HA.out (vp, p) (by simp)) (HA.out (u12, cur) (by simp)) hpr (by omega)) ?_; rintro e w3 ⟨va, rfl, hS, hb⟩; refine Hid.out ?_)
      refine hidI ?_
      rw [ha] at hS
      have HA : Hid (SeesAll w3 ((va, a) :: [(u12, cur), (vp, p), (vq, q)])) := (SeesAll.below HA.out hb (Nat.le_refl _)).put hS
      have hbw : Below w.heap.size w w3 := hbw.trans (hb.mono hbw.size)
      clear hS hb
      go_wp2_with (go_at_call 22; refine Calls.mono (back_ok _ p _ (HA.out (vp, p) (by simp)) hpr) ?_; rintro e w4 ⟨vb, rfl, hS, hb⟩; refine Hid.out ?_)
      refine hidI ?_
      rw [hbk] at hS
      have HA : Hid (SeesAll w4 ((vb, bk) :: ((va, a) :: [(u12, cur), (vp, p), (vq, q)]))) := (SeesAll.below HA.out hb (Nat.le_refl _)).put hS
      have hbw : Below w.heap.size w w4 := hbw.trans (hb.mono hbw.size)
      clear hS hb
      go_wp2_with (go_at_call 20; refine Calls.mono (turn_ok _ _ bk a _ (HA.out (vb, bk) (by simp)) (HA.out (va, a) (by simp)) hbr (by omega)) ?_; rintro e w5 ⟨vc, rfl, hS, hb⟩; refine Hid.out ?_)
      refine hidI ?_
      rw [hba] at hS
      have HA : Hid (SeesAll w5 ((vc, cur) :: ((vb, bk) :: ((va, a) :: [(u12, cur), (vp, p), (vq, q)])))) := (SeesAll.below HA.out hb (Nat.le_refl _)).put hS
      have hbw : Below w.heap.size w w5 := hbw.trans (hb.mono hbw.size)
      clear hS hb
      go_wp2_with (go_at_call 24; refine Calls.mono (then_ok _ _ p q _ (HA.out (vp, p) (by simp)) (HA.out (vq, q) (by simp)) hpr hqr (by omega)) ?_; rintro e w6 ⟨vd, rfl, hS, hb⟩; refine Hid.out ?_)
      refine hidI ?_
      rw [hbo] at hS
      have HA : Hid (SeesAll w6 ((vd, bo) :: ((vc, cur) :: ((vb, bk) :: ((va, a) :: [(u12, cur), (vp, p), (vq, q)]))))) := (SeesAll.below HA.out hb (Nat.le_refl _)).put hS
      have hbw : Below w.heap.size w w6 := hbw.trans (hb.mono hbw.size)
      clear hS hb
      go_wp2_with (go_at_call 20; refine Calls.mono (turn_ok _ _ bo cur _ (HA.out (vd, bo) (by simp)) (HA.out (u12, cur) (by simp)) hbor (by omega)) ?_; rintro e w7 ⟨ve, rfl, hS, hb⟩; refine Hid.out ?_)
      refine hidI ?_
      rw [hbc] at hS
      have HA : Hid (SeesAll w7 ((ve, d) :: ((vd, bo) :: ((vc, cur) :: ((vb, bk) :: ((va, a) :: [(u12, cur), (vp, p), (vq, q)])))))) := (SeesAll.below HA.out hb (Nat.le_refl _)).put hS
      have hbw : Below w.heap.size w w7 := hbw.trans (hb.mono hbw.size)
      clear hS hb
      go_wp2_with (go_at_call 20; refine Calls.mono (turn_ok _ _ q a _ (HA.out (vq, q) (by simp)) (HA.out (va, a) (by simp)) hqr (by omega)) ?_; rintro e w8 ⟨vf, rfl, hS, hb⟩; refine Hid.out ?_)
      refine hidI ?_
      rw [hd] at hS
      have HA : Hid (SeesAll w8 ((vf, d) :: ((ve, d) :: ((vd, bo) :: ((vc, cur) :: ((vb, bk) :: ((va, a) :: [(u12, cur), (vp, p), (vq, q)]))))))) := (SeesAll.below HA.out hb (Nat.le_refl _)).put hS
      have hbw : Below w.heap.size w w8 := hbw.trans (hb.mono hbw.size)
      clear hS hb
      go_wp2_with (go_at_call 14; refine Calls.mono (CL.out _) ?_; rintro e w9 ⟨rfl, hb⟩; refine Hid.out ?_)
      refine hidI ?_
      have HA : Hid (SeesAll w9 _) := SeesAll.below HA.out hb (Nat.le_refl _)
      have hbw : Below w.heap.size w w9 := hbw.trans (hb.mono hbw.size)
      clear hb
      go_wp2_with (go_at_call 15; refine Calls.mono (same_any _ _ cur _ (HA.out (vc, cur) (by simp)) (HA.out (u12, cur) (by simp)) (by omega)) ?_; rintro e wa ⟨rfl, hb⟩; refine Hid.out ?_)
      refine hidI ?_
      have HA : Hid (SeesAll wa _) := SeesAll.below HA.out hb (Nat.le_refl _)
      have hbw : Below w.heap.size w wa := hbw.trans (hb.mono hbw.size)
      clear hb
      go_wp2_with (go_at_call 15; refine Calls.mono (same_any _ _ d _ (HA.out (ve, d) (by simp)) (HA.out (vf, d) (by simp)) (by omega)) ?_; rintro e wb ⟨rfl, hb⟩; refine Hid.out ?_)
      refine hidI ?_
      have hbw : Below w.heap.size w wb := hbw.trans (hb.mono hbw.size)
      go_wp2
      go_ret
      exact ⟨rfl, hbw⟩
    | succ g =>
      have hlt : (i : Int) < (m : Int) := by omega
      go_wp2_with (at_builtin; refine wpList_append_own _ rfl _ _ 23 rfl w2.heap.size 3 i3 (.int .i64 0) 1 8 Try.underlying23 hi hz0 hz1 hz2 rfl (by decide) _ _ _ rfl (hown.alloc _) ⟨wr.heap.size, 0, none⟩ 1 1 [.int .i64 _] rfl rfl (cell_one_new _ _ _) (by intro u hu; simp at hu; subst hu; rfl) (by unfold maxLen; omega) (by omega) (by have := hb.size; simp; omega) ?_; intro v6 w6 hown6 hg6 hnl; clear hnl; refine Hid.out ?_)
      refine hidI ?_
      obtain ⟨cur', hcl', hown6'⟩ : ∃ cur' : List Int, cur'.length = i + 1 ∧ w6.ownsRow w2.heap.size 3 1 v6 (i + 1) (cur'.map (Value.int .i64)) := ⟨cur ++ [_], by simp [hcl], by rw [List.map_append]; exact hown6⟩
      have hb6 : Below w2.heap.size w2 w6 := (hb.alloc hb.size _).grown hg6 (by have := hb.size; simp; omega) (fun q hq => (hown.lt q hq).1)
      clear hown hown6 hg6 hb
      go_wp2
      go_roundg g
      case measure => omega
      case rel => exact ⟨i + 1, cur', by omega, by go_num, hcl', hown6', hb6⟩
end Go.Proofs.Ytcaecfmjnboamab
