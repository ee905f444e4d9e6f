/-
  The call of perm.Groups: what it comes to.
-/
import Derived.Test.YtcaecfmjnboamabFrom
import Derived.Lib.SmallJoins
namespace Go.Proofs.Ytcaecfmjnboamab
open Go.RowKit Go.Deep
theorem info23 : (Try.prog.info? 23).map (fun i => (i.zero, i.size, i.bytes)) = some (some (.slice none 0 0), 1, 24) := by kernel_rfl
def bitB (cuts i : Nat) : Bool := decide (i < 64) && decide (cuts / 2 ^ i % 2 = 1)
/-- The things in rows: behind the i-th one a row ends, if the bit i is set. -/
def groupsL (cuts : Nat) : Nat → List Int → List Int → List (List Int)
  | _, row, [] => if row = [] then [] else [row]
  | i, row, z :: r => if bitB cuts i = true then (row ++ [z]) :: groupsL cuts (i + 1) [] r else groupsL cuts (i + 1) (row ++ [z]) r
/-- The slice values vs own the rows of numbers ls. -/
def RowsAt (w : World) (B : Nat) (vs : List Value) (ls : List (List Int)) : Prop :=
  vs.length = ls.length ∧ ∀ (t : Nat) (v : Value) (l : List Int), vs[t]? = some v → ls[t]? = some l → l ≠ [] ∧ w.ownsRow B 3 1 v l.length (l.map (Value.int .i64))
theorem RowsAt.kept {w w' : World} {B : Nat} {vs : List Value} {ls : List (List Int)} {row : Option Nat} (h : RowsAt w B vs ls) (hg : w.grownBy w' row) (hne : ∀ v ∈ vs, v.ownBlock = none ∨ v.ownBlock ≠ row) : RowsAt w' B vs ls :=
  ⟨h.1, fun t v l hv hl => ⟨(h.2 t v l hv hl).1, (h.2 t v l hv hl).2.kept hg (hne v (List.mem_of_getElem? hv))⟩⟩
theorem RowsAt.push {w : World} {B : Nat} {vs : List Value} {ls : List (List Int)} {v : Value} {l : List Int} (h : RowsAt w B vs ls) (hl : l ≠ []) (ho : w.ownsRow B 3 1 v l.length (l.map (Value.int .i64))) : RowsAt w B (vs ++ [v]) (ls ++ [l]) := by
  refine ⟨by simp [h.1], fun t u m hu hm => ?_⟩
  by_cases ht : t < vs.length
  · rw [List.getElem?_append_left ht] at hu
    rw [List.getElem?_append_left (by rw [← h.1]; exact ht)] at hm
    exact h.2 t u m hu hm
  · rw [List.getElem?_append_right (by omega)] at hu
    rw [List.getElem?_append_right (by have := h.1; omega), ← h.1] at hm
    cases hx : t - vs.length with
    | zero =>
      rw [hx] at hu hm
      simp at hu hm
      subst hu hm
      exact ⟨hl, ho⟩
    | succ q => rw [hx] at hu; simp at hu
theorem RowsAt.alloc {w : World} {B : Nat} {vs : List Value} {ls : List (List Int)} (h : RowsAt w B vs ls) (o : Obj) : RowsAt (w.alloc o) B vs ls :=
  ⟨h.1, fun t v l hv hl => ⟨(h.2 t v l hv hl).1, (h.2 t v l hv hl).2.alloc o⟩⟩
theorem RowsAt.own {w : World} {B : Nat} {vs : List Value} {ls : List (List Int)} (h : RowsAt w B vs ls) {v : Value} (hv : v ∈ vs) : ∃ l : List Int, w.ownsRow B 3 1 v l.length (l.map (Value.int .i64)) := by
  obtain ⟨t, ht⟩ := List.getElem?_of_mem hv
  have htl : t < ls.length := by rw [← h.1]; exact (List.getElem?_eq_some_iff.1 ht).1
  exact ⟨ls[t], (h.2 t v ls[t] ht (List.getElem?_eq_getElem htl)).2⟩
/-- Two rows of other types lie in other blocks. -/
theorem own_ne {w : World} {B B' n m s s' : Nat} {e e' : TypeId} {v u : Value} {xs ys : List Value} (h : w.ownsRow B e s v n xs) (h' : w.ownsRow B' e' s' u m ys) (hne : e ≠ e') : v.ownBlock = none ∨ v.ownBlock ≠ u.ownBlock := by
  rcases h.2 with ⟨rfl, _⟩ | ⟨g, c, cur, rfl, _, hh, _⟩
  · exact .inl rfl
  · right
    intro he
    rcases h'.2 with ⟨rfl, _⟩ | ⟨g', c', cur', rfl, _, hh', _⟩
    · cases he
    · have : g = g' := by simpa [Value.ownBlock] using he
      subst this
      rw [hh] at hh'
      simp at hh'
      exact hne hh'.2
theorem bit_and {cuts i : Nat} (h : cuts < 18446744073709551616) (hi : i < 64) : (bits .and .u64 ((cuts : Int) / 2 ^ i) 1 == 1) = bitB cuts i := by
  have e : (cuts : Int) / 2 ^ i = ((cuts / 2 ^ i : Nat) : Int) := by simp
  have hle : cuts / 2 ^ i ≤ cuts := Nat.div_le_self _ _
  have e2 : bits .and .u64 (((cuts / 2 ^ i : Nat) : Int)) 1 = ((cuts / 2 ^ i % 2 : Nat) : Int) := by
    rw [show (1 : Int) = ((1 : Nat) : Int) from rfl, u64_and_nat _ _ (by omega) (by omega), Nat.and_one_is_mod]
  rw [e, e2]
  unfold bitB
  rw [decide_eq_true hi, Bool.true_and]
  rcases Nat.mod_two_eq_zero_or_one (cuts / 2 ^ i) with h0 | h0 <;> rw [h0] <;> rfl
theorem groups_step (cuts : Nat) {i : Nat} {zs : List Int} (hi : i < zs.length) (cur : List Int) :
    groupsL cuts i cur (zs.drop i) = if bitB cuts i = true then (cur ++ [zs.getD i 0]) :: groupsL cuts (i + 1) [] (zs.drop (i + 1)) else groupsL cuts (i + 1) (cur ++ [zs.getD i 0]) (zs.drop (i + 1)) := by
  have e : zs.getD i 0 = zs[i] := by simp [List.getD, hi]
  rw [List.drop_eq_getElem_cons hi, groupsL, e]
theorem hidI {p : Prop} (h : p) : Hid p := h
set_option maxHeartbeats 2000000 in
theorem groups_walk (b off len cap : Nat) (zs : List Int) (cuts : Nat) (hcu : cuts < 18446744073709551616) (w : World) (h : len ≤ 1000000) (hz : zs.length = len)
    (hc : ∀ j, j < len → w.cell? ⟨b, off + j, none⟩ = some (.int .i64 (zs.getD j 0))) (hbw : b < w.heap.size) :
    Calls Try.prog 27 #[.slice (some ⟨b, off, none⟩) len cap, .int .u64 cuts] w fun e w' => ∃ v vs, e = .returned v ∧ w'.ownsRow w.heap.size 23 1 v (groupsL cuts 0 [] zs).length vs ∧ RowsAt w' w.heap.size vs (groupsL cuts 0 [] zs) ∧ Below w.heap.size w w' := by
  obtain ⟨i3, hi, hz0, hz1, hz2⟩ := info_parts info3
  obtain ⟨i23, hi', hz0', hz1', hz2'⟩ := info_parts info23
  have HC : Hid (∀ j, j < len → w.cell? ⟨b, off + j, none⟩ = some (.int .i64 (zs.getD j 0))) := hc
  clear hc
  go_enter Try.func27, Try.ntmps27
  go_wp2
  go_loopg [5, 6, 11] len (fun g s5 s6 s11 wx => ∃ (i : Nat) (done : List (List Int)) (vs : List Value) (cur : List Int) (base : Nat), i + g = len ∧ s11 = .int .i64 i ∧ done.length ≤ i ∧ cur.length ≤ i ∧ w.heap.size ≤ base ∧ base ≤ wx.heap.size ∧
      wx.ownsRow w.heap.size 23 1 s5 done.length vs ∧ RowsAt wx w.heap.size vs done ∧ (∀ v ∈ vs, ∀ k, v.ownBlock = some k → k < base) ∧
      wx.ownsRow base 3 1 s6 cur.length (cur.map (Value.int .i64)) ∧ Aside (done ++ groupsL cuts i cur (zs.drop i) = groupsL cuts 0 [] zs) ∧ Below w.heap.size w wx)
  case atStart => exact ⟨0, [], [], [], w.heap.size, by omega, rfl, by simp, by simp, Nat.le_refl _, Nat.le_refl _, World.ownsRow_nil _ _ _ _, ⟨rfl, by simp⟩, by simp, World.ownsRow_nil _ _ _ _, rfl, Below.refl _ _⟩
  case round =>
    obtain ⟨i, done, vs, cur, base, hig, rfl, hdl, hcl, hbb, hbs, hown5, hrows, hlow, hown6, HI, hb⟩ := hrel
    cases gk with
    | zero =>
      have hil : i = len := by omega
      subst hil
      have hdrop : zs.drop i = [] := List.drop_eq_nil_of_le (by omega)
      have HI' := HI.out
      rw [hdrop, groupsL] at HI'
      by_cases hcn : cur = []
      · subst hcn
        rw [if_pos rfl, List.append_nil] at HI'
        have HJ : Aside _ := HI'
        clear HI' HI hdrop
        rcases Joins.ownsRow_forms hown6 with ⟨rfl, _⟩ | ⟨g6, c6, rfl⟩
        · go_wp2
          go_ret
          exact ⟨_, vs, rfl, by rw [← HJ.out]; exact hown5, by rw [← HJ.out]; exact hrows, hb⟩
        · go_wp2
          go_ret
          exact ⟨_, vs, rfl, by rw [← HJ.out]; exact hown5, by rw [← HJ.out]; exact hrows, hb⟩
      · rw [if_neg hcn] at HI'
        have HJ : Aside _ := HI'
        clear HI' HI hdrop
        have hpos : 0 < cur.length := List.length_pos_iff.2 hcn
        have qpos : (0 : Int) < (cur.length : Int) := by omega
        obtain ⟨g6, c6, hf⟩ := Joins.ownsRow_form hown6 hpos
        subst hf
        go_wp2_with (at_builtin; refine wpList_append_own _ rfl _ _ 38 rfl w.heap.size 23 i23 (.slice none 0 0) 1 24 Try.underlying38 hi' hz0' hz1' hz2' rfl (by decide) _ _ _ rfl (hown5.alloc _) ⟨wr.heap.size, 0, none⟩ 1 1 [.slice (some ⟨g6, 0, none⟩) cur.length c6] rfl rfl (cell_one_new _ _ _) (by intro u hu; simp at hu; subst hu; rfl) (by unfold maxLen; omega) (by omega) (by have := hb.size; simp; omega) ?_; intro v5 w2 hown5' hg2 hnl; clear hnl)
        have ho6' : w2.ownsRow w.heap.size 3 1 (.slice (some ⟨g6, 0, none⟩) cur.length c6) cur.length (cur.map (Value.int .i64)) :=
          Joins.ownsRow_le ((hown6.alloc (.cells #[.slice (some ⟨g6, 0, none⟩) cur.length c6] 23)).kept hg2 (own_ne (hown6.alloc (.cells #[.slice (some ⟨g6, 0, none⟩) cur.length c6] 23)) (hown5.alloc (.cells #[.slice (some ⟨g6, 0, none⟩) cur.length c6] 23)) (by decide))) hbb
        have hr2 : RowsAt w2 w.heap.size vs done := (hrows.alloc (.cells #[.slice (some ⟨g6, 0, none⟩) cur.length c6] 23)).kept hg2 (fun v hv => by
          obtain ⟨l, hl⟩ := hrows.own hv
          exact own_ne (hl.alloc (.cells #[.slice (some ⟨g6, 0, none⟩) cur.length c6] 23)) (hown5.alloc (.cells #[.slice (some ⟨g6, 0, none⟩) cur.length c6] 23)) (by decide))
        have hb2 : Below w.heap.size w w2 := (hb.alloc hb.size (.cells #[.slice (some ⟨g6, 0, none⟩) cur.length c6] 23)).grown hg2 (by have := hb.size; simp; omega) (fun q hq => (hown5.lt q hq).1)
        go_ret
        exact ⟨v5, vs ++ [.slice (some ⟨g6, 0, none⟩) cur.length c6], rfl, by rw [← HJ.out, List.length_append]; exact hown5', by rw [← HJ.out]; exact hr2.push hcn ho6', hb2⟩
    | succ g =>
      have hlt : i < len := by omega
      have hcell : wr.cell? ⟨b, off + i, none⟩ = some (.int .i64 (zs.getD i 0)) := (hb.cell (p := ⟨b, off + i, none⟩) hbw).trans (HC.out i hlt)
      obtain ⟨z, hzz⟩ : ∃ z, z = zs.getD i 0 := ⟨_, rfl⟩
      rw [← hzz] at hcell
      have HZ : Hid _ := hzz
      clear hzz
      go_wp2_with (at_builtin; refine wpList_append_own _ rfl _ _ 23 rfl base 3 i3 (.int .i64 0) 1 8 Try.underlying23 hi hz0 hz1 hz2 rfl (by decide) _ _ _ rfl (hown6.alloc _) ⟨wr.heap.size, 0, none⟩ 1 1 [.int .i64 z] rfl rfl (cell_one_new _ _ _) (by intro u hu; simp at hu; subst hu; rfl) (by unfold maxLen; omega) (by omega) (by simp; omega) ?_; intro v6 w1 hown6' hg1 hnl; clear hnl; refine Hid.out ?_)
      refine hidI ?_
      have hform : ∃ g6 c6, v6 = .slice (some ⟨g6, 0, none⟩) (cur.length + 1) c6 := Joins.ownsRow_form hown6' (by omega)
      obtain ⟨g6, c6, hv6⟩ := hform
      rw [hv6] at hown6' ⊢
      clear hv6 v6
      have hstep := groups_step cuts (i := i) (zs := zs) (by omega) cur
      rw [← HZ.out] at hstep
      have HS : Aside _ := hstep
      clear hstep
      have ho5 : w1.ownsRow w.heap.size 23 1 u5 done.length vs := (hown5.alloc (.cells #[.int .i64 z] 3)).kept hg1 (own_ne (hown5.alloc (.cells #[.int .i64 z] 3)) (hown6.alloc (.cells #[.int .i64 z] 3)) (by decide))
      have hr1 : RowsAt w1 w.heap.size vs done := (hrows.alloc (.cells #[.int .i64 z] 3)).kept hg1 (fun v hv => by
        obtain ⟨l, hl⟩ := hrows.own hv
        cases hvb : v.ownBlock with
        | none => exact .inl rfl
        | some q =>
          refine .inr (fun he => ?_)
          have h1 := hlow v hv q hvb
          have h2 := (hown6.lt q he.symm).1
          omega)
      have hb1 : Below w.heap.size w w1 := (hb.alloc hb.size (.cells #[.int .i64 z] 3)).grown hg1 (by have := hb.size; simp; omega) (fun q hq => Nat.le_trans hbb (hown6.lt q hq).1)
      have hsz1 : wr.heap.size ≤ w1.heap.size := by have := hg1.size; simp at this; omega
      clear hown5 hown6 hrows hg1 hb
      cases hbit : bitB cuts i
      · have HB : Aside (bitB cuts i = false) := hbit
        have hend : Aside (done ++ groupsL cuts (i + 1) (cur ++ [z]) (zs.drop (i + 1)) = groupsL cuts 0 [] zs) := by
          show _ = _
          rw [← HI.out, HS.out, if_neg (by rw [hbit]; decide)]
        have ho6 : w1.ownsRow base 3 1 (.slice (some ⟨g6, 0, none⟩) (cur.length + 1) c6) (cur ++ [z]).length ((cur ++ [z]).map (Value.int .i64)) := by
          rw [List.map_append, List.length_append]; exact hown6'
        by_cases h64 : i < 64
        · have q64 : (i : Int) < 64 := by omega
          have qb := bit_and hcu h64
          rw [hbit] at qb
          clear hbit
          go_wp2
          go_roundg g
          case measure => omega
          case rel => exact ⟨i + 1, done, vs, cur ++ [z], base, by omega, by go_num, by omega, by simp; omega, hbb, by omega, ho5, hr1, hlow, ho6, hend, hb1⟩
        · have q64 : decide ((i : Int) < 64) = false := by simp; omega
          clear hbit
          go_wp2
          go_roundg g
          case measure => omega
          case rel => exact ⟨i + 1, done, vs, cur ++ [z], base, by omega, by go_num, by omega, by simp; omega, hbb, by omega, ho5, hr1, hlow, ho6, hend, hb1⟩
      · have h64 : i < 64 := by unfold bitB at hbit; rw [Bool.and_eq_true] at hbit; exact of_decide_eq_true hbit.1
        have q64 : (i : Int) < 64 := by omega
        have qb := bit_and hcu h64
        rw [hbit] at qb
        have hend : Aside ((done ++ [cur ++ [z]]) ++ groupsL cuts (i + 1) [] (zs.drop (i + 1)) = groupsL cuts 0 [] zs) := by
          show _ = _
          rw [← HI.out, HS.out, if_pos hbit, List.append_assoc]; rfl
        clear hbit
        go_wp2_with (at_builtin; refine wpList_append_own _ rfl _ _ 38 rfl w.heap.size 23 i23 (.slice none 0 0) 1 24 Try.underlying38 hi' hz0' hz1' hz2' rfl (by decide) _ _ _ rfl (ho5.alloc _) ⟨w1.heap.size, 0, none⟩ 1 1 [.slice (some ⟨g6, 0, none⟩) (cur.length + 1) c6] rfl rfl (cell_one_new _ _ _) (by intro u hu; simp at hu; subst hu; rfl) (by unfold maxLen; omega) (by omega) (by have := hb1.size; simp; omega) ?_; intro v5 w2 hown5' hg2 hnl; clear hnl)
        have ho6 : w1.ownsRow base 3 1 (.slice (some ⟨g6, 0, none⟩) (cur.length + 1) c6) (cur ++ [z]).length ((cur ++ [z]).map (Value.int .i64)) := by
          rw [List.map_append, List.length_append]; exact hown6'
        have ho6' : w2.ownsRow w.heap.size 3 1 (.slice (some ⟨g6, 0, none⟩) (cur.length + 1) c6) (cur ++ [z]).length ((cur ++ [z]).map (Value.int .i64)) :=
          Joins.ownsRow_le ((ho6.alloc (.cells #[.slice (some ⟨g6, 0, none⟩) (cur.length + 1) c6] 23)).kept hg2 (own_ne (ho6.alloc (.cells #[.slice (some ⟨g6, 0, none⟩) (cur.length + 1) c6] 23)) (ho5.alloc (.cells #[.slice (some ⟨g6, 0, none⟩) (cur.length + 1) c6] 23)) (by decide))) hbb
        have hr2 : RowsAt w2 w.heap.size vs done := (hr1.alloc (.cells #[.slice (some ⟨g6, 0, none⟩) (cur.length + 1) c6] 23)).kept hg2 (fun v hv => by
          obtain ⟨l, hl⟩ := hr1.own hv
          exact own_ne (hl.alloc (.cells #[.slice (some ⟨g6, 0, none⟩) (cur.length + 1) c6] 23)) (ho5.alloc (.cells #[.slice (some ⟨g6, 0, none⟩) (cur.length + 1) c6] 23)) (by decide))
        have hsz2 : w1.heap.size ≤ w2.heap.size := by have := hg2.size; simp at this; omega
        have hb2 : Below w.heap.size w w2 := (hb1.alloc hb1.size (.cells #[.slice (some ⟨g6, 0, none⟩) (cur.length + 1) c6] 23)).grown hg2 (by have := hb1.size; simp; omega) (fun q hq => (ho5.lt q hq).1)
        go_roundg g
        case measure => omega
        case rel => exact ⟨i + 1, done ++ [cur ++ [z]], vs ++ [.slice (some ⟨g6, 0, none⟩) (cur.length + 1) c6], [], w2.heap.size, by omega, by go_num, by simp; omega, by simp, by have := hb2.size; omega, Nat.le_refl _, by rw [List.length_append]; exact hown5', hr2.push (by simp) ho6', fun v hv k hk => by
            rcases List.mem_append.1 hv with hv | hv
            · have := hlow v hv k hk; omega
            · simp at hv; subst hv; exact (ho6'.lt k hk).2, World.ownsRow_nil _ _ _ _, hend, hb2⟩
theorem groups_empty (a : Option Addr) (cap cuts : Nat) (w : World) :
    Calls Try.prog 27 #[.slice a 0 cap, .int .u64 cuts] w fun e w' => e = .returned (.slice none 0 0) ∧ Below w.heap.size w w' := by
  go_enter Try.func27, Try.ntmps27
  go_wp2
  refine wp_loop_rounds 1 ?_
  rw [rounds_succ]
  go_wp2
  go_ret
  exact ⟨rfl, Below.refl _ _⟩
/-- What the rows of a list come to: a slice of slices. -/
def RowsOut (w w' : World) (v : Value) (ls : List (List Int)) : Prop := ∃ vs, w'.ownsRow w.heap.size 23 1 v ls.length vs ∧ RowsAt w' w.heap.size vs ls
theorem groups_any (v : Value) (zs : List Int) (cuts : Nat) (hcu : cuts < 18446744073709551616) (w : World) (h : Sees w v zs) (hl : zs.length ≤ 1000000) :
    Calls Try.prog 27 #[v, .int .u64 cuts] w fun e w' => ∃ u, e = .returned u ∧ RowsOut w w' u (groupsL cuts 0 [] zs) ∧ Below w.heap.size w w' := by
  obtain ⟨a, cap, rfl, _, h⟩ := h
  have hempty : zs = [] → Calls Try.prog 27 #[.slice a zs.length cap, .int .u64 cuts] w fun e w' => ∃ u, e = .returned u ∧ RowsOut w w' u (groupsL cuts 0 [] zs) ∧ Below w.heap.size w w' := by
    rintro rfl
    refine (groups_empty a cap cuts w).mono ?_
    rintro e w' ⟨rfl, hb⟩
    exact ⟨_, rfl, ⟨[], World.ownsRow_nil _ _ _ _, rfl, by simp⟩, hb⟩
  rcases h with h0 | ⟨b, off, rfl, hc⟩
  · exact hempty h0
  · by_cases h0 : zs = []
    · exact hempty h0
    · have hpos : 0 < zs.length := List.length_pos_iff.2 h0
      refine (groups_walk b off zs.length cap zs cuts hcu w hl rfl hc (World.block_lt_of_cell? w _ (hc 0 hpos))).mono ?_
      rintro e w' ⟨v, vs, rfl, h1, h2, hb⟩
      exact ⟨v, rfl, ⟨vs, h1, h2⟩, hb⟩
end Go.Proofs.Ytcaecfmjnboamab
