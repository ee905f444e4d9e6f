/-
  The call of the document's Groups: what it comes to.
-/
import Derived.Test.YtcaecfmjnboamabGroups
namespace Go.Proofs.Ytcaecfmjnboamab
open Go.RowKit Go.Deep
theorem bit_rem {cuts i : Nat} (hi : i < 64) : (((cuts / 2 ^ i : Nat) : Int) % 2 == 1) = bitB cuts i := by
  unfold bitB
  rw [decide_eq_true hi, Bool.true_and]
  rcases Nat.mod_two_eq_zero_or_one (cuts / 2 ^ i) with h0 | h0
  · have : ((cuts / 2 ^ i : Nat) : Int) % 2 = 0 := by omega
    rw [this, h0]; rfl
  · have : ((cuts / 2 ^ i : Nat) : Int) % 2 = 1 := by omega
    rw [this, h0]; rfl
theorem half_step (cuts i : Nat) : cuts / 2 ^ i / 2 = cuts / 2 ^ (i + 1) := by rw [Nat.div_div_eq_div_mul, Nat.pow_succ]
set_option maxHeartbeats 4000000 in
theorem refGroups_walk (b off len cap : Nat) (zs : List Int) (cuts : Nat) (hcu : cuts < 18446744073709551616) (w : World) (h : len ≤ 1000000) (hz : zs.length = len)
    (hc : ∀ j, j < len → w.cell? ⟨b, off + j, none⟩ = some (.int .i64 (zs.getD j 0))) (hbw : b < w.heap.size) :
    Calls Try.prog 28 #[.slice (some ⟨b, off, none⟩) len cap, .int .u64 cuts] w fun e w' => ∃ v, e = .returned v ∧ RowsOut w w' v (groupsL cuts 0 [] zs) ∧ Below w.heap.size w w' := by
  obtain ⟨i3, hi, hz0, hz1, hz2⟩ := info_parts info3
  obtain ⟨i23, hi', hz0', hz1', hz2'⟩ := info_parts info23
  have HC : Hid (∀ j, j < len → w.cell? ⟨b, off + j, none⟩ = some (.int .i64 (zs.getD j 0))) := hc
  clear hc
  go_enter Try.func28, Try.ntmps28
  go_wp2
  go_loopg [1, 5, 6, 7] len (fun g s1 s5 s6 s7 wx => ∃ (i c : Nat) (done : List (List Int)) (vs : List Value) (cur : List Int) (base : Nat), i + g = len ∧ s7 = .int .i64 i ∧ s1 = .int .u64 c ∧ Aside (c = cuts / 2 ^ i) ∧ c < 18446744073709551616 ∧ done.length ≤ i ∧ cur.length ≤ i ∧ Aside (g = 0 → cur = []) ∧ w.heap.size ≤ base ∧ base ≤ wx.heap.size ∧
      wx.ownsRow w.heap.size 23 1 s5 done.length vs ∧ RowsAt wx w.heap.size vs done ∧ (∀ v ∈ vs, ∀ k, v.ownBlock = some k → k < base) ∧
      wx.ownsRow base 3 1 s6 cur.length (cur.map (Value.int .i64)) ∧ Aside (done ++ groupsL cuts i cur (zs.drop i) = groupsL cuts 0 [] zs) ∧ Below w.heap.size w wx)
  case atStart => exact ⟨0, cuts, [], [], [], w.heap.size, by omega, rfl, rfl, by show _ = _; simp, hcu, by simp, by simp, fun _ => rfl, Nat.le_refl _, Nat.le_refl _, World.ownsRow_nil _ _ _ _, ⟨rfl, by simp⟩, by simp, World.ownsRow_nil _ _ _ _, rfl, Below.refl _ _⟩
  case round =>
    obtain ⟨i, c, done, vs, cur, base, hig, rfl, rfl, HCU, hc64, hdl, hcl, HG, hbb, hbs, hown5, hrows, hlow, hown6, HI, hb⟩ := hrel
    cases gk with
    | zero =>
      have hil : i = len := by omega
      subst hil
      have hdrop : zs.drop i = [] := List.drop_eq_nil_of_le (by omega)
      have HI' := HI.out
      rw [hdrop, groupsL, if_pos (HG.out rfl), List.append_nil] at HI'
      have HJ : Aside _ := HI'
      clear HI' HI hdrop
      go_wp2
      go_ret
      exact ⟨_, rfl, by rw [← HJ.out]; exact ⟨vs, hown5, hrows⟩, hb⟩
    | succ g =>
      have hlt : i < len := by omega
      have hcell : wr.cell? ⟨b, off + i, none⟩ = some (.int .i64 (zs.getD i 0)) := (hb.cell (p := ⟨b, off + i, none⟩) hbw).trans (HC.out i hlt)
      obtain ⟨z, hzz⟩ : ∃ z, z = zs.getD i 0 := ⟨_, rfl⟩
      rw [← hzz] at hcell
      have HZ : Hid _ := hzz
      clear hzz
      go_wp2_with (at_builtin; refine wpList_append_own _ rfl _ _ 23 rfl base 3 i3 (.int .i64 0) 1 8 Try.underlying23 hi hz0 hz1 hz2 rfl (by decide) _ _ _ rfl (hown6.alloc _) ⟨wr.heap.size, 0, none⟩ 1 1 [.int .i64 z] rfl rfl (cell_one_new _ _ _) (by intro u hu; simp at hu; subst hu; rfl) (by unfold maxLen; omega) (by omega) (by simp; omega) ?_; intro v6 w1 hown6' hg1 hnl; clear hnl; refine Hid.out ?_)
      refine hidI ?_
      have hform : ∃ g6 c6, v6 = .slice (some ⟨g6, 0, none⟩) (cur.length + 1) c6 := Joins.ownsRow_form hown6' (by omega)
      obtain ⟨g6, c6, hv6⟩ := hform
      rw [hv6] at hown6' ⊢
      clear hv6 v6
      have hstep := groups_step cuts (i := i) (zs := zs) (by omega) cur
      rw [← HZ.out] at hstep
      have HS : Aside _ := hstep
      clear hstep
      have ho5 : w1.ownsRow w.heap.size 23 1 u5 done.length vs := (hown5.alloc (.cells #[.int .i64 z] 3)).kept hg1 (own_ne (hown5.alloc (.cells #[.int .i64 z] 3)) (hown6.alloc (.cells #[.int .i64 z] 3)) (by decide))
      have hr1 : RowsAt w1 w.heap.size vs done := (hrows.alloc (.cells #[.int .i64 z] 3)).kept hg1 (fun v hv => by
        obtain ⟨l, hl⟩ := hrows.own hv
        cases hvb : v.ownBlock with
        | none => exact .inl rfl
        | some q =>
          refine .inr (fun he => ?_)
          have h1 := hlow v hv q hvb
          have h2 := (hown6.lt q he.symm).1
          omega)
      have hb1 : Below w.heap.size w w1 := (hb.alloc hb.size (.cells #[.int .i64 z] 3)).grown hg1 (by have := hb.size; simp; omega) (fun q hq => Nat.le_trans hbb (hown6.lt q hq).1)
      have hsz1 : wr.heap.size ≤ w1.heap.size := by have := hg1.size; simp at this; omega
      clear hown5 hown6 hrows hg1 hb
      obtain ⟨c2, hc2⟩ : ∃ c2, c / 2 = c2 := ⟨_, rfl⟩
      have hq2 : (c : Int) / 2 = (c2 : Int) := by omega
      have hc64' : c2 < 18446744073709551616 := by omega
      have HCU' : Aside (c2 = cuts / 2 ^ (i + 1)) := by show _ = _; rw [← hc2, HCU.out, half_step]
      clear hc2
      have ho6 : w1.ownsRow base 3 1 (.slice (some ⟨g6, 0, none⟩) (cur.length + 1) c6) (cur ++ [z]).length ((cur ++ [z]).map (Value.int .i64)) := by
        rw [List.map_append, List.length_append]; exact hown6'
      have HBI : i < 64 → (((c : Nat) : Int) % 2 == 1) = bitB cuts i := fun h64 => by rw [HCU.out]; exact bit_rem h64
      by_cases hlast : bitB cuts i = true ∨ i + 1 = len
      · have hend : Aside ((done ++ [cur ++ [z]]) ++ groupsL cuts (i + 1) [] (zs.drop (i + 1)) = groupsL cuts 0 [] zs) := by
          show _ = _
          by_cases hbit : bitB cuts i = true
          · rw [← HI.out, HS.out, if_pos hbit, List.append_assoc]; rfl
          · have hl : i + 1 = len := by rcases hlast with h1 | h1; exact absurd h1 hbit; exact h1
            have hdrop : zs.drop (i + 1) = [] := List.drop_eq_nil_of_le (by omega)
            rw [← HI.out, HS.out, if_neg hbit, hdrop]
            simp [groupsL]
        cases hbit : bitB cuts i
        · have hl : i + 1 = len := by rcases hlast with h1 | h1; rw [hbit] at h1; cases h1; exact h1
          rw [hbit] at HBI
          have qn : ((i : Int) == (len : Int) - 1) = true := by simp; omega
          by_cases h64 : i < 64
          · have q64 : (i : Int) < 64 := by omega
            have qb := HBI h64
            clear HBI hbit hlast
            go_wp2_with (at_builtin; refine wpList_append_own _ rfl _ _ 38 rfl w.heap.size 23 i23 (.slice none 0 0) 1 24 Try.underlying38 hi' hz0' hz1' hz2' rfl (by decide) _ _ _ rfl (ho5.alloc _) ⟨w1.heap.size, 0, none⟩ 1 1 [.slice (some ⟨g6, 0, none⟩) (cur.length + 1) c6] rfl rfl (cell_one_new _ _ _) (by intro u hu; simp at hu; subst hu; rfl) (by unfold maxLen; omega) (by omega) (by have := hb1.size; simp; omega) ?_; intro v5 w2 hown5' hg2 hnl; clear hnl; refine Hid.out ?_)
            refine hidI ?_
            have ho6' : w2.ownsRow w.heap.size 3 1 (.slice (some ⟨g6, 0, none⟩) (cur.length + 1) c6) (cur ++ [z]).length ((cur ++ [z]).map (Value.int .i64)) :=
              Joins.ownsRow_le ((ho6.alloc (.cells #[.slice (some ⟨g6, 0, none⟩) (cur.length + 1) c6] 23)).kept hg2 (own_ne (ho6.alloc (.cells #[.slice (some ⟨g6, 0, none⟩) (cur.length + 1) c6] 23)) (ho5.alloc (.cells #[.slice (some ⟨g6, 0, none⟩) (cur.length + 1) c6] 23)) (by decide))) hbb
            have hr2 : RowsAt w2 w.heap.size vs done := (hr1.alloc (.cells #[.slice (some ⟨g6, 0, none⟩) (cur.length + 1) c6] 23)).kept hg2 (fun v hv => by
              obtain ⟨l, hl⟩ := hr1.own hv
              exact own_ne (hl.alloc (.cells #[.slice (some ⟨g6, 0, none⟩) (cur.length + 1) c6] 23)) (ho5.alloc (.cells #[.slice (some ⟨g6, 0, none⟩) (cur.length + 1) c6] 23)) (by decide))
            have hsz2 : w1.heap.size ≤ w2.heap.size := by have := hg2.size; simp at this; omega
            have hb2 : Below w.heap.size w w2 := (hb1.alloc hb1.size (.cells #[.slice (some ⟨g6, 0, none⟩) (cur.length + 1) c6] 23)).grown hg2 (by have := hb1.size; simp; omega) (fun q hq => (ho5.lt q hq).1)
            have hlow2 : ∀ v ∈ vs ++ [.slice (some ⟨g6, 0, none⟩) (cur.length + 1) c6], ∀ k, v.ownBlock = some k → k < w2.heap.size := fun v hv k hk => by
              rcases List.mem_append.1 hv with hv | hv
              · have := hlow v hv k hk; omega
              · simp at hv; subst hv; exact (ho6'.lt k hk).2
            clear hg2
            go_wp2
            go_roundg g
            case measure => omega
            case rel => exact ⟨i + 1, c2, done ++ [cur ++ [z]], vs ++ [.slice (some ⟨g6, 0, none⟩) (cur.length + 1) c6], [], w2.heap.size, by omega, by go_num, by go_num, HCU', hc64', by simp; omega, by simp, fun _ => rfl, by have := hb2.size; omega, Nat.le_refl _, by rw [List.length_append]; exact hown5', hr2.push (by simp) ho6', hlow2, World.ownsRow_nil _ _ _ _, hend, hb2⟩
          · have q64 : decide ((i : Int) < 64) = false := by simp; omega
            clear HBI hbit hlast
            go_wp2_with (at_builtin; refine wpList_append_own _ rfl _ _ 38 rfl w.heap.size 23 i23 (.slice none 0 0) 1 24 Try.underlying38 hi' hz0' hz1' hz2' rfl (by decide) _ _ _ rfl (ho5.alloc _) ⟨w1.heap.size, 0, none⟩ 1 1 [.slice (some ⟨g6, 0, none⟩) (cur.length + 1) c6] rfl rfl (cell_one_new _ _ _) (by intro u hu; simp at hu; subst hu; rfl) (by unfold maxLen; omega) (by omega) (by have := hb1.size; simp; omega) ?_; intro v5 w2 hown5' hg2 hnl; clear hnl; refine Hid.out ?_)
            refine hidI ?_
            have ho6' : w2.ownsRow w.heap.size 3 1 (.slice (some ⟨g6, 0, none⟩) (cur.length + 1) c6) (cur ++ [z]).length ((cur ++ [z]).map (Value.int .i64)) :=
              Joins.ownsRow_le ((ho6.alloc (.cells #[.slice (some ⟨g6, 0, none⟩) (cur.length + 1) c6] 23)).kept hg2 (own_ne (ho6.alloc (.cells #[.slice (some ⟨g6, 0, none⟩) (cur.length + 1) c6] 23)) (ho5.alloc (.cells #[.slice (some ⟨g6, 0, none⟩) (cur.length + 1) c6] 23)) (by decide))) hbb
            have hr2 : RowsAt w2 w.heap.size vs done := (hr1.alloc (.cells #[.slice (some ⟨g6, 0, none⟩) (cur.length + 1) c6] 23)).kept hg2 (fun v hv => by
              obtain ⟨l, hl⟩ := hr1.own hv
              exact own_ne (hl.alloc (.cells #[.slice (some ⟨g6, 0, none⟩) (cur.length + 1) c6] 23)) (ho5.alloc (.cells #[.slice (some ⟨g6, 0, none⟩) (cur.length + 1) c6] 23)) (by decide))
            have hsz2 : w1.heap.size ≤ w2.heap.size := by have := hg2.size; simp at this; omega
            have hb2 : Below w.heap.size w w2 := (hb1.alloc hb1.size (.cells #[.slice (some ⟨g6, 0, none⟩) (cur.length + 1) c6] 23)).grown hg2 (by have := hb1.size; simp; omega) (fun q hq => (ho5.lt q hq).1)
            have hlow2 : ∀ v ∈ vs ++ [.slice (some ⟨g6, 0, none⟩) (cur.length + 1) c6], ∀ k, v.ownBlock = some k → k < w2.heap.size := fun v hv k hk => by
              rcases List.mem_append.1 hv with hv | hv
              · have := hlow v hv k hk; omega
              · simp at hv; subst hv; exact (ho6'.lt k hk).2
            clear hg2
            go_wp2
            go_roundg g
            case measure => omega
            case rel => exact ⟨i + 1, c2, done ++ [cur ++ [z]], vs ++ [.slice (some ⟨g6, 0, none⟩) (cur.length + 1) c6], [], w2.heap.size, by omega, by go_num, by go_num, HCU', hc64', by simp; omega, by simp, fun _ => rfl, by have := hb2.size; omega, Nat.le_refl _, by rw [List.length_append]; exact hown5', hr2.push (by simp) ho6', hlow2, World.ownsRow_nil _ _ _ _, hend, hb2⟩
        · have h64 : i < 64 := by unfold bitB at hbit; rw [Bool.and_eq_true] at hbit; exact of_decide_eq_true hbit.1
          have q64 : (i : Int) < 64 := by omega
          have qb := HBI h64
          rw [hbit] at qb
          clear HBI hbit hlast
          go_wp2_with (at_builtin; refine wpList_append_own _ rfl _ _ 38 rfl w.heap.size 23 i23 (.slice none 0 0) 1 24 Try.underlying38 hi' hz0' hz1' hz2' rfl (by decide) _ _ _ rfl (ho5.alloc _) ⟨w1.heap.size, 0, none⟩ 1 1 [.slice (some ⟨g6, 0, none⟩) (cur.length + 1) c6] rfl rfl (cell_one_new _ _ _) (by intro u hu; simp at hu; subst hu; rfl) (by unfold maxLen; omega) (by omega) (by have := hb1.size; simp; omega) ?_; intro v5 w2 hown5' hg2 hnl; clear hnl; refine Hid.out ?_)
          refine hidI ?_
          have ho6' : w2.ownsRow w.heap.size 3 1 (.slice (some ⟨g6, 0, none⟩) (cur.length + 1) c6) (cur ++ [z]).length ((cur ++ [z]).map (Value.int .i64)) :=
            Joins.ownsRow_le ((ho6.alloc (.cells #[.slice (some ⟨g6, 0, none⟩) (cur.length + 1) c6] 23)).kept hg2 (own_ne (ho6.alloc (.cells #[.slice (some ⟨g6, 0, none⟩) (cur.length + 1) c6] 23)) (ho5.alloc (.cells #[.slice (some ⟨g6, 0, none⟩) (cur.length + 1) c6] 23)) (by decide))) hbb
          have hr2 : RowsAt w2 w.heap.size vs done := (hr1.alloc (.cells #[.slice (some ⟨g6, 0, none⟩) (cur.length + 1) c6] 23)).kept hg2 (fun v hv => by
            obtain ⟨l, hl⟩ := hr1.own hv
            exact own_ne (hl.alloc (.cells #[.slice (some ⟨g6, 0, none⟩) (cur.length + 1) c6] 23)) (ho5.alloc (.cells #[.slice (some ⟨g6, 0, none⟩) (cur.length + 1) c6] 23)) (by decide))
          have hsz2 : w1.heap.size ≤ w2.heap.size := by have := hg2.size; simp at this; omega
          have hb2 : Below w.heap.size w w2 := (hb1.alloc hb1.size (.cells #[.slice (some ⟨g6, 0, none⟩) (cur.length + 1) c6] 23)).grown hg2 (by have := hb1.size; simp; omega) (fun q hq => (ho5.lt q hq).1)
          have hlow2 : ∀ v ∈ vs ++ [.slice (some ⟨g6, 0, none⟩) (cur.length + 1) c6], ∀ k, v.ownBlock = some k → k < w2.heap.size := fun v hv k hk => by
            rcases List.mem_append.1 hv with hv | hv
            · have := hlow v hv k hk; omega
            · simp at hv; subst hv; exact (ho6'.lt k hk).2
          clear hg2
          go_wp2
          go_roundg g
          case measure => omega
          case rel => exact ⟨i + 1, c2, done ++ [cur ++ [z]], vs ++ [.slice (some ⟨g6, 0, none⟩) (cur.length + 1) c6], [], w2.heap.size, by omega, by go_num, by go_num, HCU', hc64', by simp; omega, by simp, fun _ => rfl, by have := hb2.size; omega, Nat.le_refl _, by rw [List.length_append]; exact hown5', hr2.push (by simp) ho6', hlow2, World.ownsRow_nil _ _ _ _, hend, hb2⟩
      · have hbit : bitB cuts i = false := by
          cases hx : bitB cuts i
          · rfl
          · exact absurd (Or.inl hx) hlast
        have hnl : i + 1 ≠ len := fun e => hlast (Or.inr e)
        have hend : Aside (done ++ groupsL cuts (i + 1) (cur ++ [z]) (zs.drop (i + 1)) = groupsL cuts 0 [] zs) := by
          show _ = _
          rw [← HI.out, HS.out, if_neg (by rw [hbit]; decide)]
        have qn : ((i : Int) == (len : Int) - 1) = false := by simp; omega
        rw [hbit] at HBI
        by_cases h64 : i < 64
        · have q64 : (i : Int) < 64 := by omega
          have qb := HBI h64
          clear HBI hbit hlast
          go_wp2
          go_roundg g
          case measure => omega
          case rel => exact ⟨i + 1, c2, done, vs, cur ++ [z], base, by omega, by go_num, by go_num, HCU', hc64', by omega, by simp; omega, fun e => absurd e (by omega), hbb, by omega, ho5, hr1, hlow, ho6, hend, hb1⟩
        · have q64 : decide ((i : Int) < 64) = false := by simp; omega
          clear HBI hbit hlast
          go_wp2
          go_roundg g
          case measure => omega
          case rel => exact ⟨i + 1, c2, done, vs, cur ++ [z], base, by omega, by go_num, by go_num, HCU', hc64', by omega, by simp; omega, fun e => absurd e (by omega), hbb, by omega, ho5, hr1, hlow, ho6, hend, hb1⟩
theorem refGroups_empty (a : Option Addr) (cap cuts : Nat) (w : World) :
    Calls Try.prog 28 #[.slice a 0 cap, .int .u64 cuts] w fun e w' => e = .returned (.slice none 0 0) ∧ Below w.heap.size w w' := by
  go_enter Try.func28, Try.ntmps28
  go_wp2
  refine wp_loop_rounds 1 ?_
  rw [rounds_succ]
  go_wp2
  go_ret
  exact ⟨rfl, Below.refl _ _⟩
theorem refGroups_any (v : Value) (zs : List Int) (cuts : Nat) (hcu : cuts < 18446744073709551616) (w : World) (h : Sees w v zs) (hl : zs.length ≤ 1000000) :
    Calls Try.prog 28 #[v, .int .u64 cuts] w fun e w' => ∃ u, e = .returned u ∧ RowsOut w w' u (groupsL cuts 0 [] zs) ∧ Below w.heap.size w w' := by
  obtain ⟨a, cap, rfl, _, h⟩ := h
  have hempty : zs = [] → Calls Try.prog 28 #[.slice a zs.length cap, .int .u64 cuts] w fun e w' => ∃ u, e = .returned u ∧ RowsOut w w' u (groupsL cuts 0 [] zs) ∧ Below w.heap.size w w' := by
    rintro rfl
    refine (refGroups_empty a cap cuts w).mono ?_
    rintro e w' ⟨rfl, hb⟩
    exact ⟨_, rfl, ⟨[], World.ownsRow_nil _ _ _ _, rfl, by simp⟩, hb⟩
  rcases h with h0 | ⟨b, off, rfl, hc⟩
  · exact hempty h0
  · by_cases h0 : zs = []
    · exact hempty h0
    · have hpos : 0 < zs.length := List.length_pos_iff.2 h0
      exact refGroups_walk b off zs.length cap zs cuts hcu w hl rfl hc (World.block_lt_of_cell? w _ (hc 0 hpos))
end Go.Proofs.Ytcaecfmjnboamab
