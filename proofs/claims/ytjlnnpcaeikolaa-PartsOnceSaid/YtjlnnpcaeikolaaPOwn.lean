/-
  A worker's nodes, and their order, lie in rows of their own.
-/
import Derived.Test.YtjlnnpcaeikolaaPPlays
namespace Go.Proofs.Ytjlnnpcaeikolaa
namespace Perm
open Go.RowKit Go.Deep
set_option maxHeartbeats 1000000 in
theorem turn_walkN (b off b' off' len cap cap' : Nat) (p l : List Int) (w : World) (hr : rightB p = true) (hp : p.length = len) (hl : l.length = len)
    (hc : ∀ j, j < len → w.cell? ⟨b, off + j, none⟩ = some (.int .i64 (p.getD j 0)))
    (hc' : ∀ j, j < len → w.cell? ⟨b', off' + j, none⟩ = some (.int .i64 (l.getD j 0))) (hpos : 0 < len) :
    Calls Try.prog 34 #[.slice (some ⟨b, off, none⟩) len cap, .slice (some ⟨b', off', none⟩) len cap'] w fun e w' => ∃ g, e = .returned (.tuple #[.slice (some ⟨g, 0, none⟩) len len, .int .i64 0]) ∧ Sees w' (.slice (some ⟨g, 0, none⟩) len len) (turnL p l) ∧ w.heap.size ≤ g ∧ Below w.heap.size w w' := by
  obtain ⟨i3, hi, hz0, hz1, hz2⟩ := info_parts info3
  have hb1 : b < w.heap.size := World.block_lt_of_cell? w _ (hc 0 hpos)
  have hb2 : b' < w.heap.size := World.block_lt_of_cell? w _ (hc' 0 hpos)
  have h16 : len ≤ 16 := by rw [← hp]; exact (rightB_parts hr).1
  have HR : Hid _ := rightB_range hr
  have C := right_any (.slice (some ⟨b, off, none⟩) len cap) p w ⟨_, cap, by rw [hp], by omega, .inr ⟨b, off, rfl, by rw [hp]; exact hc⟩⟩
  rw [hr] at C
  have c : Hid _ := C
  have HC : Hid _ := hc
  have HC' : Hid _ := hc'
  clear C hc hc' hr
  have q : ((len : Int) == (len : Int)) = true := by simp
  go_enter Try.func34, Try.ntmps34
  go_wp2_with (first | (go_at_call 40; refine Calls.mono c.out ?_; rintro e w1 ⟨rfl, hbb⟩) | (at_make; refine wpList_make_row _ rfl _ _ 23 rfl 3 i3 (.int .i64 0) Try.underlying23 hi hz0 hz1 rfl .i64 .i64 len rfl rfl (by rw [hz2]; omega) (by omega) ?_; refine Hid.out ?_))
  refine hidI ?_
  have hrow : Row (w1.alloc (.cells (madeCells #[.int .i64 0] len) 3)) w1.heap.size len (fun _ => 0) := World.rowIs_made w1 (.int .i64 0) len 3
  have hb3 := hbb.alloc hbb.size (.cells (madeCells #[.int .i64 0] len) 3)
  have hG := hbb.size
  obtain ⟨G, hGe⟩ : ∃ G, w1.heap.size = G := ⟨_, rfl⟩
  rw [hGe] at hrow hG
  rw [hGe]
  generalize w1.alloc (.cells (madeCells #[.int .i64 0] len) 3) = w2 at hrow hb3 ⊢
  clear hbb c hGe
  clear w1
  go_wp2
  go_loopg [24] len (fun g s24 wx => ∃ (i : Nat), i + g = len ∧ s24 = .int .i64 i ∧ Row wx G len (fun j => if j < i then l.getD (p.getD j 0).toNat 0 else 0) ∧ Below w.heap.size w wx)
  case atStart => exact ⟨0, by omega, rfl, by simpa using hrow, hb3⟩
  case round =>
    clear hrow hb3
    obtain ⟨i, hig, rfl, hrow, hb⟩ := hrel
    cases gk with
    | zero =>
      have hil : i = len := by omega
      subst hil
      have hS := hrow.sees h16
      have e1 : (List.range i).map (fun j => if j < i then l.getD (p.getD j 0).toNat 0 else 0) = turnL p l := by
        rw [← turnL_range, hp]
        apply List.map_congr_left
        intro j hj
        rw [if_pos (List.mem_range.1 hj)]
      rw [e1] at hS
      go_wp2
      go_ret2
      exact ⟨G, rfl, hS, hG, hb⟩
    | succ g =>
      have hlt : i < len := by omega
      obtain ⟨q, hq, hql⟩ := HR.out i (by omega)
      rw [hp] at hql
      have hx : wr.cell? ⟨b, off + i, none⟩ = some (.int .i64 (q : Int)) := by rw [hb.cell (p := ⟨b, off + i, none⟩) hb1, HC.out i hlt, hq]
      have hy : wr.cell? ⟨b', off' + q, none⟩ = some (.int .i64 (l.getD q 0)) := (hb.cell (p := ⟨b', off' + q, none⟩) hb2).trans (HC'.out q hql)
      obtain ⟨z, hz⟩ : ∃ z, l.getD q 0 = z := ⟨_, rfl⟩
      rw [hz] at hy
      have hfr : wr.frozen? ⟨G, i, none⟩ = false := World.rowIs.frozen hrow i
      have hcl := World.rowIs.cell hrow hlt
      have hrow' : Row (wr.setCell ⟨G, i, none⟩ (.int .i64 z)) G len (fun j => if j < i + 1 then l.getD (p.getD j 0).toNat 0 else 0) := hrow.put i z (fun j hj => by
        by_cases e : j = i
        · subst e; rw [if_pos (by omega), if_pos rfl, hq, Int.toNat_natCast, hz]
        · rw [if_neg e]
          by_cases h1 : j < i
          · rw [if_pos h1, if_pos (by omega)]
          · rw [if_neg h1, if_neg (by omega)])
      have hb' : Below w.heap.size w (wr.setCell ⟨G, i, none⟩ (.int .i64 z)) := hb.setCell hG _
      have HH : Hid _ := hrow'
      clear hrow' hrow hq hz
      go_wp2
      go_roundg g
      case measure => omega
      case rel => exact ⟨i + 1, by omega, by go_num, HH.out, hb'⟩
end Perm
open Go.RowKit Go.Deep
/-- The value v reads as the numbers zs, in a row from n on. -/
def SeesN (n : Nat) (w : World) (v : Value) (zs : List Int) : Prop :=
  ∃ (a : Option Addr) (cap : Nat), v = .slice a zs.length cap ∧ (zs = [] ∨ ∃ b off, a = some ⟨b, off, none⟩ ∧ n ≤ b ∧ ∀ j, j < zs.length → w.cell? ⟨b, off + j, none⟩ = some (.int .i64 (zs.getD j 0)))
theorem SeesN.sees {n : Nat} {w : World} {v : Value} {zs : List Int} (h : SeesN n w v zs) : Sees w v zs := by
  obtain ⟨a, cap, rfl, h⟩ := h
  refine ⟨a, cap, rfl, ?_⟩
  rcases h with h | ⟨b, off, rfl, _, hc⟩
  · exact .inl h
  · exact .inr ⟨b, off, rfl, hc⟩
theorem SeesN.mono {n n' : Nat} {w : World} {v : Value} {zs : List Int} (h : SeesN n w v zs) (hn : n' ≤ n) : SeesN n' w v zs := by
  obtain ⟨a, cap, rfl, h⟩ := h
  refine ⟨a, cap, rfl, ?_⟩
  rcases h with h | ⟨b, off, rfl, hb, hc⟩
  · exact .inl h
  · exact .inr ⟨b, off, rfl, by omega, hc⟩
theorem SeesN.below {n B : Nat} {w w' : World} {v : Value} {zs : List Int} (h : SeesN n w v zs) (hb : Below B w w') (hB : w.heap.size ≤ B) : SeesN n w' v zs := by
  obtain ⟨a, cap, rfl, h⟩ := h
  refine ⟨a, cap, rfl, ?_⟩
  rcases h with h | ⟨b, off, rfl, hn, hc⟩
  · exact .inl h
  · exact .inr ⟨b, off, rfl, hn, fun j hj => (hb.cell (p := ⟨b, off + j, none⟩) (Nat.lt_of_lt_of_le (World.block_lt_of_cell? w _ (hc j hj)) hB)).trans (hc j hj)⟩
theorem SeesN.set {n : Nat} {w : World} {v : Value} {zs : List Int} (h : SeesN n w v zs) {G i : Nat} (hG : G < n) (x : Value) : SeesN n (w.setCell ⟨G, i, none⟩ x) v zs := by
  obtain ⟨a, cap, rfl, h⟩ := h
  refine ⟨a, cap, rfl, ?_⟩
  rcases h with h | ⟨b, off, rfl, hn, hc⟩
  · exact .inl h
  · exact .inr ⟨b, off, rfl, hn, fun j hj => (World.cell?_setCell_far w ⟨G, i, none⟩ ⟨b, off + j, none⟩ _ (by simp only; omega)).trans (hc j hj)⟩
theorem seesN_of_owns {w : World} {base e : Nat} {v : Value} {zs : List Int} (h : w.ownsRow base e 1 v zs.length (zs.map (Value.int .i64))) : SeesN base w v zs := by
  rcases Joins.ownsRow_forms h with ⟨rfl, h0⟩ | ⟨g, cap, rfl⟩
  · exact ⟨none, 0, by rw [h0], .inl (List.eq_nil_of_length_eq_zero h0)⟩
  · refine ⟨_, cap, rfl, .inr ⟨g, 0, rfl, (h.lt g rfl).1, fun j hj => ?_⟩⟩
    rw [Nat.zero_add, ← add_at]
    exact World.ownsRow.cells h rfl j _ (by simp [List.getD, hj])
set_option maxRecDepth 100000 in
set_option maxHeartbeats 1000000 in
theorem clone_walkN (x : Addr) (cap : Nat) (zs : List Int) (w : World) (hl : zs.length ≤ 100000) (hv : Sees w (.slice (some x) zs.length cap) zs) :
    Calls Try.prog 32 #[.slice (some x) zs.length cap] w fun e w' => ∃ u, e = .returned u ∧ SeesN w.heap.size w' u zs ∧ Below w.heap.size w w' := by
  have HV := hidI (hv.below ((Below.refl _ w).alloc (Nat.le_refl _) (.cells #[] 3)) (Nat.le_refl _))
  have HO := hidI (World.ownsRow_made (base := w.heap.size) (e := 3) (size := 1) w #[] 0 (Nat.le_refl _) (by unfold maxLen; omega) rfl)
  have q23 := nil23
  have u23 : ∀ w, Sem.run Try.prog (underlying 23) w = .ok (TypeDesc.slice 3) w := run_underlying Try.underlying23
  clear hv
  go_enter Try.func32, Try.ntmps32
  go_wp2_with (at_builtin; refine wpList_append_ints rfl _ _ rfl w.heap.size _ 0 [] rfl HO.out _ zs rfl HV.out (by omega) (by simp) ?_; intro v' w1 hown' hgrow' hat')
  go_ret
  refine ⟨v', rfl, seesN_of_owns (e := 3) (by simpa using hown'), ?_⟩
  exact ((Below.refl _ w).alloc (Nat.le_refl _) _).grown hgrow' (by simp) (fun k hk => (HO.out.lt k hk).1)
theorem clone_new (v : Value) (zs : List Int) (w : World) (hl : zs.length ≤ 100000) (hv : Sees w v zs) :
    Calls Try.prog 32 #[v] w fun e w' => ∃ u, e = .returned u ∧ SeesN w.heap.size w' u zs ∧ Below w.heap.size w w' := by
  have hv' := hv
  obtain ⟨a, cap, rfl, hs⟩ := hv
  cases a with
  | some x => exact clone_walkN x cap zs w hl hv'
  | none =>
    refine (clone_nil zs.length cap w).mono ?_
    rintro e w' ⟨rfl, rfl⟩
    rcases hs with h0 | ⟨b, off, h, _⟩
    · subst h0; exact ⟨_, rfl, ⟨none, 0, rfl, .inl rfl⟩, Below.refl _ _⟩
    · cases h
set_option maxRecDepth 100000 in
set_option maxHeartbeats 1000000 in
theorem members_new (pp : Option Addr) (n k : Nat) (wk : Nat → Nat) (u : Int) (w : World) (hp : IsP w pp n k wk) :
    Calls Try.prog 14 #[.pointer pp, .int .i64 u] w fun e w' => ∃ v, e = .returned v ∧ SeesN w.heap.size w' v (memI n k wk u) ∧ Below w.heap.size w w' := by
  have CW := hidI (workers_any pp n k wk w hp)
  by_cases h1 : u < 0
  · have hm : memI n k wk u = [] := by unfold memI; rw [if_neg (by omega)]
    rw [hm]
    clear hm CW hp
    go_enter Try.func14, Try.ntmps14
    go_wp2
    go_ret
    exact ⟨_, rfl, ⟨none, 0, rfl, .inl rfl⟩, Below.refl _ _⟩
  · have hd1 : decide (u < 0) = false := by simp; omega
    by_cases h2 : (k : Int) ≤ u
    · have hm : memI n k wk u = [] := by unfold memI; rw [if_neg (by omega)]
      rw [hm]
      clear hm hp h1
      go_enter Try.func14, Try.ntmps14
      go_wp2_with (go_at_call 19; refine Calls.mono CW.out ?_; rintro e w' ⟨rfl, rfl⟩)
      go_ret
      exact ⟨_, rfl, ⟨none, 0, rfl, .inl rfl⟩, Below.refl _ _⟩
    · have hm : memI n k wk u = mem n wk u.toNat := by unfold memI; rw [if_pos (by omega)]
      rw [hm]
      obtain ⟨m, rfl⟩ : ∃ m : Nat, u = m := ⟨u.toNat, by omega⟩
      simp only [Int.toNat_natCast]
      rcases hp with ⟨_, _, rfl⟩ | ⟨pb, rfl, ⟨_, h12, _, h4⟩, _, c0, c1, hr⟩
      · omega
      obtain ⟨v, hc, hs⟩ := hr m (by omega)
      have CC := hidI (clone_new v _ w (by have := mem_length n wk m; omega) hs)
      have hd2 : decide ((k : Int) ≤ (m : Int)) = false := by simp; omega
      have hd3 : decide (k ≤ m) = false := by simp; omega
      have hm4 : (m : Int) < 4 := by omega
      clear hm h1 h2 hs hr
      go_enter Try.func14, Try.ntmps14
      go_wp2_with (first | (go_at_call 19; refine Calls.mono CW.out ?_; rintro e w' ⟨rfl, rfl⟩) | (go_at_call 32; refine Calls.mono CC.out ?_; rintro e w1 ⟨v1, rfl, hs1, hb1⟩; refine Hid.out ?_))
      refine hidI ?_
      have HS1 := hidI hs1
      have HB1 := hidI hb1
      clear hs1 hb1 CC CW
      go_wp2
      go_ret
      exact ⟨_, rfl, HS1.out, HB1.out⟩

theorem turn_new (v u : Value) (p l : List Int) (w : World) (hv : Sees w v p) (hu : Sees w u l) (hr : Perm.rightB p = true) (hl : l.length = p.length) :
    Calls Try.prog 34 #[v, u] w fun e w' => ∃ x, e = .returned (.tuple #[x, .int .i64 0]) ∧ SeesN w.heap.size w' x (Perm.turnL p l) ∧ Below w.heap.size w w' := by
  by_cases h0 : p.length = 0
  · refine (turn_ok v u p l w hv hu hr hl).mono ?_
    rintro e w' ⟨x, rfl, ⟨a, cap, rfl, _⟩, h2⟩
    exact ⟨_, rfl, ⟨a, cap, rfl, .inl (List.eq_nil_of_length_eq_zero (by rw [Perm.turnL_length]; exact h0))⟩, h2⟩
  · obtain ⟨a, cap, rfl, h1⟩ := hv
    obtain ⟨a', cap', rfl, h1'⟩ := hu
    rcases h1 with h1 | ⟨b, off, rfl, hc⟩
    · rw [h1] at h0; simp at h0
    rcases h1' with h1' | ⟨b', off', rfl, hc'⟩
    · rw [h1'] at hl; simp at hl; omega
    rw [hl] at hc' ⊢
    refine (Perm.turn_walkN b off b' off' p.length cap cap' p l w hr rfl hl hc hc' (by omega)).mono ?_
    rintro e w' ⟨g, rfl, h2, h3, h4⟩
    refine ⟨_, rfl, ?_, h4⟩
    obtain ⟨x, xc, he, _, h5⟩ := h2
    refine ⟨x, xc, he, ?_⟩
    rcases h5 with h5 | ⟨c, o, rfl, h5⟩
    · exact .inl h5
    · simp only [Value.slice.injEq, Option.some.injEq, Addr.mk.injEq] at he
      exact .inr ⟨c, o, rfl, by omega, h5⟩
set_option maxRecDepth 100000 in
set_option maxHeartbeats 1000000 in
theorem order_new (pp : Option Addr) (n k : Nat) (wk : Nat → Nat) (u : Int) (kk : Nat) (hkk : kk < 18446744073709551616) (w : World) (hp : IsP w pp n k wk) :
    Calls Try.prog 16 #[.pointer pp, .int .i64 u, .int .u64 (kk : Int)] w fun e w' => ∃ v ps, e = .returned v ∧ ps.length = (memI n k wk u).length ∧ Perm.Steps (memI n k wk u).length Perm.none16 (kk % Perm.fac (memI n k wk u).length) ps ∧ SeesN w.heap.size w' v (Perm.turnL ps (memI n k wk u)) ∧ Below w.heap.size w w' := by
  have CM := hidI (members_any pp n k wk u w hp)
  have h12 := hp.le
  have hml := memI_length n k wk u
  obtain ⟨l, hl⟩ : ∃ l, memI n k wk u = l := ⟨_, rfl⟩
  rw [hl] at CM hml ⊢
  clear hl hp
  go_enter Try.func16, Try.ntmps16
  go_wp2_with (go_at_call 14; refine Calls.mono CM.out ?_; rintro e w1 ⟨v1, rfl, hs1, hb1⟩; refine Hid.out ?_)
  refine hidI ?_
  have HS1 := hidI hs1
  have HB1 := hidI hb1
  obtain ⟨a, cap, rfl, _⟩ := hs1
  have CF := hidI (from_any l.length kk w1 (by omega) hkk)
  clear CM hb1
  go_wp2_with (go_at_call 33; refine Calls.mono CF.out ?_; rintro e w2 ⟨g, ps, rfl, hpl, hst, hs2, hb2⟩; refine Hid.out ?_)
  refine hidI ?_
  have HST := hidI hst
  have HPL := hidI hpl
  have HB2 := hidI (HB1.out.trans (hb2.mono HB1.out.size))
  have CT := hidI (turn_new _ _ ps l w2 hs2 (HS1.out.below hb2 (Nat.le_refl _)) (right_of_steps hst hpl (by omega)) hpl.symm)
  clear CF hb2 hst hpl hs2 HS1 HB1
  go_wp2_with (go_at_call 34; refine Calls.mono CT.out ?_; rintro e w3 ⟨x, rfl, hs3, hb3⟩; refine Hid.out ?_)
  refine hidI ?_
  have HS3 := hidI hs3
  have HB3 := hidI (HB2.out.trans (hb3.mono HB2.out.size))
  have HB2s := hidI HB2.out.size
  clear CT hs3 hb3 HB2
  go_wp2
  go_ret
  exact ⟨_, ps, rfl, HPL.out, HST.out, HS3.out.mono HB2s.out, HB3.out⟩

end Go.Proofs.Ytjlnnpcaeikolaa
