/-
  The calls of the document's Turn, Back and Then: what they come to.
-/
import Derived.Test.YtjlnnpcaeikolaaQRefRight
import Derived.Lib.SmallJoins
namespace Go.Proofs.Ytjlnnpcaeikolaa.Perm
open Go.RowKit Go.Deep
theorem sees_own {w : World} {base n : Nat} {v : Value} {zs : List Int} (h : w.ownsRow base 3 1 v n (zs.map (Value.int .i64))) (hl : n ≤ 1000000) : Sees w v zs := by
  have hn : zs.length = n := by have := h.1; simpa using this
  rcases Joins.ownsRow_forms h with ⟨rfl, h0⟩ | ⟨g, cap, rfl⟩
  · have : zs = [] := List.eq_nil_of_length_eq_zero (by omega)
    subst this
    exact ⟨none, 0, rfl, by simp, .inl rfl⟩
  · refine ⟨some ⟨g, 0, none⟩, cap, by rw [hn], by omega, .inr ⟨g, 0, rfl, fun j hj => ?_⟩⟩
    have := World.ownsRow.cells h rfl j (.int .i64 (zs.getD j 0)) (by simp [List.getD, hj])
    rw [Nat.zero_add]
    rw [show (⟨g, 0, none⟩ : Addr).add j = ⟨g, j, none⟩ by unfold Addr.add; split <;> simp_all] at this
    exact this
theorem refTurn_not (v u : Value) (p : List Int) (w : World) (hv : Sees w v p) (hr : rightB p = false) :
    Calls Try.prog 36 #[v, u] w fun e w' => e = .returned (.tuple #[.slice none 0 0, .int .i64 3]) ∧ Below w.heap.size w w' := by
  have C := refRight_any v p w hv
  rw [hr] at C
  have c : Hid _ := C
  clear C
  go_enter Try.func36, Try.ntmps36
  go_wp2_with (go_at_call 42; refine Calls.mono c.out ?_; rintro e w1 ⟨rfl, rfl⟩)
  go_ret2
  exact ⟨rfl, Below.refl _ _⟩
theorem refTurn_other (v u : Value) (p l : List Int) (w : World) (hv : Sees w v p) (hu : Sees w u l) (hr : rightB p = true) (hl : l.length ≠ p.length) :
    Calls Try.prog 36 #[v, u] w fun e w' => e = .returned (.tuple #[.slice none 0 0, .int .i64 3]) ∧ Below w.heap.size w w' := by
  have C := refRight_any v p w hv
  rw [hr] at C
  have c : Hid _ := C
  clear C
  obtain ⟨a, cap, rfl, _, _⟩ := hv
  obtain ⟨a', cap', rfl, _, _⟩ := hu
  have q : ((l.length : Int) == (p.length : Int)) = false := by simp; omega
  go_enter Try.func36, Try.ntmps36
  go_wp2_with (go_at_call 42; refine Calls.mono c.out ?_; rintro e w1 ⟨rfl, rfl⟩)
  go_ret2
  exact ⟨rfl, Below.refl _ _⟩
theorem take_map_succ {p : List Int} (l : List Int) {i : Nat} (h : i < p.length) : ((turnL p l).take (i + 1)).map (Value.int .i64) = ((turnL p l).take i).map (Value.int .i64) ++ [.int .i64 (l.getD (p.getD i 0).toNat 0)] := by
  have hl : i < (turnL p l).length := by rw [turnL_length]; exact h
  rw [List.take_succ_eq_append_getElem hl, List.map_append]
  have := turnL_get l h
  rw [show (turnL p l).getD i 0 = (turnL p l)[i] by simp [List.getD, hl]] at this
  rw [this]
  rfl
set_option maxHeartbeats 1000000 in
theorem refTurn_walk (b off b' off' len cap cap' : Nat) (p l : List Int) (w : World) (hr : rightB p = true) (hp : p.length = len) (hl : l.length = len)
    (hc : ∀ j, j < len → w.cell? ⟨b, off + j, none⟩ = some (.int .i64 (p.getD j 0)))
    (hc' : ∀ j, j < len → w.cell? ⟨b', off' + j, none⟩ = some (.int .i64 (l.getD j 0))) (hpos : 0 < len) :
    Calls Try.prog 36 #[.slice (some ⟨b, off, none⟩) len cap, .slice (some ⟨b', off', none⟩) len cap'] w fun e w' => ∃ x, e = .returned (.tuple #[x, .int .i64 0]) ∧ Sees w' x (turnL p l) ∧ Below w.heap.size w w' := by
  obtain ⟨i3, hi, hz0, hz1, hz2⟩ := info_parts info3
  have hb1 : b < w.heap.size := World.block_lt_of_cell? w _ (hc 0 hpos)
  have hb2 : b' < w.heap.size := World.block_lt_of_cell? w _ (hc' 0 hpos)
  have h16 : len ≤ 16 := by rw [← hp]; exact (rightB_parts hr).1
  have HR : Hid _ := rightB_range hr
  have C := refRight_any (.slice (some ⟨b, off, none⟩) len cap) p w ⟨_, cap, by rw [hp], by omega, .inr ⟨b, off, rfl, by rw [hp]; exact hc⟩⟩
  rw [hr] at C
  have c : Hid _ := C
  have HC : Hid _ := hc
  have HC' : Hid _ := hc'
  clear C hc hc' hr
  have q : ((len : Int) == (len : Int)) = true := by simp
  go_enter Try.func36, Try.ntmps36
  go_wp2_with (go_at_call 42; refine Calls.mono c.out ?_; rintro e w1 ⟨rfl, rfl⟩)
  go_loopg [6, 7] len (fun g s6 s7 wx => ∃ (i : Nat), i + g = len ∧ s7 = .int .i64 i ∧ wx.ownsRow w.heap.size 3 1 s6 i (((turnL p l).take i).map (Value.int .i64)) ∧ Below w.heap.size w wx)
  case atStart => exact ⟨0, by omega, rfl, World.ownsRow_nil _ _ _ _, Below.refl _ _⟩
  case round =>
    obtain ⟨i, hig, rfl, hown, hb⟩ := hrel
    cases gk with
    | zero =>
      have hil : i = len := by omega
      subst hil
      rw [List.take_of_length_le (by rw [turnL_length]; omega)] at hown
      have hS := sees_own hown (by omega)
      go_wp2
      go_ret2
      exact ⟨u6, rfl, hS, hb⟩
    | succ g =>
      have hlt : i < len := by omega
      obtain ⟨q, hq, hql⟩ := HR.out i (by omega)
      rw [hp] at hql
      have hx : wr.cell? ⟨b, off + i, none⟩ = some (.int .i64 (q : Int)) := by rw [hb.cell (p := ⟨b, off + i, none⟩) hb1, HC.out i hlt, hq]
      have hy : wr.cell? ⟨b', off' + q, none⟩ = some (.int .i64 (l.getD q 0)) := (hb.cell (p := ⟨b', off' + q, none⟩) hb2).trans (HC'.out q hql)
      have hts := take_map_succ (p := p) l (i := i) (by omega)
      rw [hq, Int.toNat_natCast] at hts
      obtain ⟨z, hz⟩ : ∃ z, l.getD q 0 = z := ⟨_, rfl⟩
      rw [hz] at hy hts
      have HT : Hid _ := hts
      clear hts hq hz
      go_wp2_with (at_builtin; refine wpList_append_own _ rfl _ _ 23 rfl w.heap.size 3 i3 (.int .i64 0) 1 8 Try.underlying23 hi hz0 hz1 hz2 rfl (by decide) _ _ _ rfl (hown.alloc _) ⟨wr.heap.size, 0, none⟩ 1 1 [.int .i64 z] rfl rfl (cell_one_new _ _ _) (by intro u hu; simp at hu; subst hu; rfl) (by unfold maxLen; omega) (by omega) (by have := hb.size; simp; omega) ?_; intro v6 w6 hown6 hg6 hnl; clear hnl; refine Hid.out ?_)
      refine hidI ?_
      rw [← HT.out] at hown6
      have hb6 : Below w.heap.size w w6 := (hb.alloc hb.size _).grown hg6 (by have := hb.size; simp; omega) (fun q hq => (hown.lt q hq).1)
      clear hown hg6 hb
      go_wp2
      go_roundg g
      case measure => omega
      case rel => exact ⟨i + 1, by omega, by go_num, hown6, hb6⟩
theorem refTurn_empty (a a' : Option Addr) (cap cap' : Nat) (w : World) :
    Calls Try.prog 36 #[.slice a 0 cap, .slice a' 0 cap'] w fun e w' => ∃ x, e = .returned (.tuple #[x, .int .i64 0]) ∧ Sees w' x [] ∧ Below w.heap.size w w' := by
  have c : Hid _ := refRight_empty a cap w
  go_enter Try.func36, Try.ntmps36
  go_wp2_with (go_at_call 42; refine Calls.mono c.out ?_; rintro e w1 ⟨rfl, rfl⟩)
  refine wp_loop_rounds 1 ?_
  rw [rounds_succ]
  go_wp2
  go_ret2
  exact ⟨_, rfl, sees_nil _, Below.refl _ _⟩
theorem refTurn_any (v u : Value) (p l : List Int) (w : World) (hv : Sees w v p) (hu : Sees w u l) :
    Calls Try.prog 36 #[v, u] w fun e w' => ∃ x, e = .returned (.tuple #[x, .int .i64 (turnE p l)]) ∧ Sees w' x (turnW p l) ∧ Below w.heap.size w w' := by
  unfold turnE turnW turnB
  cases hr : rightB p
  · refine (refTurn_not v u p w hv hr).mono ?_
    rintro e w' ⟨rfl, hb⟩
    exact ⟨_, rfl, sees_nil _, hb⟩
  · by_cases hl : l.length = p.length
    · rw [decide_eq_true hl, Bool.and_self, if_pos rfl, if_pos rfl]
      obtain ⟨a, cap, rfl, _, hs⟩ := hv
      obtain ⟨a', cap', rfl, _, hs'⟩ := hu
      by_cases h0 : p = []
      · subst h0
        rw [hl]
        exact refTurn_empty a a' cap cap' w
      · rcases hs with h1 | ⟨b, off, rfl, hc⟩
        · exact absurd h1 h0
        have hpos : 0 < p.length := List.length_pos_iff.2 h0
        rcases hs' with h1 | ⟨b', off', rfl, hc'⟩
        · subst h1; simp at hl; omega
        rw [hl] at hc' ⊢
        refine (refTurn_walk b off b' off' p.length cap cap' p l w hr rfl hl hc hc' hpos).mono ?_
        rintro e w' ⟨x, rfl, hS, hb⟩
        exact ⟨_, rfl, hS, hb⟩
    · rw [decide_eq_false hl]
      refine (refTurn_other v u p l w hv hu hr hl).mono ?_
      rintro e w' ⟨rfl, hb⟩
      exact ⟨_, rfl, sees_nil _, hb⟩
end Go.Proofs.Ytjlnnpcaeikolaa.Perm
