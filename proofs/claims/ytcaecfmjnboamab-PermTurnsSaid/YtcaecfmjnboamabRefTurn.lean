/-
  The calls of the document's Turn, Back and Then: what they come to.
-/
import Derived.Test.YtcaecfmjnboamabRefRight
namespace Go.Proofs.Ytcaecfmjnboamab
open Go.RowKit Go.Deep
theorem refTurn_not (v u : Value) (p : List Int) (w : World) (hv : Sees w v p) (hr : rightB p = false) :
    Calls Try.prog 21 #[v, u] w fun e w' => e = .returned (.tuple #[.slice none 0 0, .int .i64 3]) ∧ Below w.heap.size w w' := by
  have C := refRight_any v p w hv
  rw [hr] at C
  have c : Hid _ := C
  clear C
  go_enter Try.func21, Try.ntmps21
  go_wp2_with (go_at_call 17; refine Calls.mono c.out ?_; rintro e w1 ⟨rfl, rfl⟩)
  go_ret2
  exact ⟨rfl, Below.refl _ _⟩
theorem refTurn_other (v u : Value) (p l : List Int) (w : World) (hv : Sees w v p) (hu : Sees w u l) (hr : rightB p = true) (hl : l.length ≠ p.length) :
    Calls Try.prog 21 #[v, u] w fun e w' => e = .returned (.tuple #[.slice none 0 0, .int .i64 3]) ∧ Below w.heap.size w w' := by
  have C := refRight_any v p w hv
  rw [hr] at C
  have c : Hid _ := C
  clear C
  obtain ⟨a, cap, rfl, _, _⟩ := hv
  obtain ⟨a', cap', rfl, _, _⟩ := hu
  have q : ((l.length : Int) == (p.length : Int)) = false := by simp; omega
  go_enter Try.func21, Try.ntmps21
  go_wp2_with (go_at_call 17; refine Calls.mono c.out ?_; rintro e w1 ⟨rfl, rfl⟩)
  go_ret2
  exact ⟨rfl, Below.refl _ _⟩
theorem take_map_succ {p : List Int} (l : List Int) {i : Nat} (h : i < p.length) : ((turnL p l).take (i + 1)).map (Value.int .i64) = ((turnL p l).take i).map (Value.int .i64) ++ [.int .i64 (l.getD (p.getD i 0).toNat 0)] := by
  have hl : i < (turnL p l).length := by rw [turnL_length]; exact h
  rw [List.take_succ_eq_append_getElem hl, List.map_append]
  have := turnL_get l h
  rw [show (turnL p l).getD i 0 = (turnL p l)[i] by simp [List.getD, hl]] at this
  rw [this]
  rfl
set_option maxHeartbeats 1000000 in
theorem refTurn_walk (b off b' off' len cap cap' : Nat) (p l : List Int) (w : World) (hr : rightB p = true) (hp : p.length = len) (hl : l.length = len)
    (hc : ∀ j, j < len → w.cell? ⟨b, off + j, none⟩ = some (.int .i64 (p.getD j 0)))
    (hc' : ∀ j, j < len → w.cell? ⟨b', off' + j, none⟩ = some (.int .i64 (l.getD j 0))) (hpos : 0 < len) :
    Calls Try.prog 21 #[.slice (some ⟨b, off, none⟩) len cap, .slice (some ⟨b', off', none⟩) len cap'] w fun e w' => ∃ x, e = .returned (.tuple #[x, .int .i64 0]) ∧ Sees w' x (turnL p l) ∧ Below w.heap.size w w' := by
  obtain ⟨i3, hi, hz0, hz1, hz2⟩ := info_parts info3
  have hb1 : b < w.heap.size := World.block_lt_of_cell? w _ (hc 0 hpos)
  have hb2 : b' < w.heap.size := World.block_lt_of_cell? w _ (hc' 0 hpos)
  have h16 : len ≤ 16 := by rw [← hp]; exact (rightB_parts hr).1
  have HR : Hid _ := rightB_range hr
  have C := refRight_any (.slice (some ⟨b, off, none⟩) len cap) p w ⟨_, cap, by rw [hp], by omega, .inr ⟨b, off, rfl, by rw [hp]; exact hc⟩⟩
  rw [hr] at C
  have c : Hid _ := C
  have HC : Hid _ := hc
  have HC' : Hid _ := hc'
  clear C hc hc' hr
  have q : ((len : Int) == (len : Int)) = true := by simp
  go_enter Try.func21, Try.ntmps21
  go_wp2_with (go_at_call 17; refine Calls.mono c.out ?_; rintro e w1 ⟨rfl, rfl⟩)
  go_loopg [6, 7] len (fun g s6 s7 wx => ∃ (i : Nat), i + g = len ∧ s7 = .int .i64 i ∧ wx.ownsRow w.heap.size 3 1 s6 i (((turnL p l).take i).map (Value.int .i64)) ∧ Below w.heap.size w wx)
  case atStart => exact ⟨0, by omega, rfl, World.ownsRow_nil _ _ _ _, Below.refl _ _⟩
  case round =>
    obtain ⟨i, hig, rfl, hown, hb⟩ := hrel
    cases gk with
    | zero =>
      have hil : i = len := by omega
      subst hil
      rw [List.take_of_length_le (by rw [turnL_length]; omega)] at hown
      have hS := sees_own hown (by omega)
      go_wp2
      go_ret2
      exact ⟨u6, rfl, hS, hb⟩
    | succ g =>
      have hlt : i < len := by omega
      obtain ⟨q, hq, hql⟩ := HR.out i (by omega)
      rw [hp] at hql
      have hx : wr.cell? ⟨b, off + i, none⟩ = some (.int .i64 (q : Int)) := by rw [hb.cell (p := ⟨b, off + i, none⟩) hb1, HC.out i hlt, hq]
      have hy : wr.cell? ⟨b', off' + q, none⟩ = some (.int .i64 (l.getD q 0)) := (hb.cell (p := ⟨b', off' + q, none⟩) hb2).trans (HC'.out q hql)
      have hts := take_map_succ (p := p) l (i := i) (by omega)
      rw [hq, Int.toNat_natCast] at hts
      obtain ⟨z, hz⟩ : ∃ z, l.getD q 0 = z := ⟨_, rfl⟩
      rw [hz] at hy hts
      have HT : Hid _ := hts
      clear hts hq hz
      go_wp2_with (at_builtin; refine wpList_append_own _ rfl _ _ 23 rfl w.heap.size 3 i3 (.int .i64 0) 1 8 Try.underlying23 hi hz0 hz1 hz2 rfl (by decide) _ _ _ rfl (hown.alloc _) ⟨wr.heap.size, 0, none⟩ 1 1 [.int .i64 z] rfl rfl (cell_one_new _ _ _) (by intro u hu; simp at hu; subst hu; rfl) (by unfold maxLen; omega) (by omega) (by have := hb.size; simp; omega) ?_; intro v6 w6 hown6 hg6 hnl; clear hnl; refine Hid.out ?_)
      refine hidI ?_
      rw [← HT.out] at hown6
      have hb6 : Below w.heap.size w w6 := (hb.alloc hb.size _).grown hg6 (by have := hb.size; simp; omega) (fun q hq => (hown.lt q hq).1)
      clear hown hg6 hb
      go_wp2
      go_roundg g
      case measure => omega
      case rel => exact ⟨i + 1, by omega, by go_num, hown6, hb6⟩
theorem refTurn_empty (a a' : Option Addr) (cap cap' : Nat) (w : World) :
    Calls Try.prog 21 #[.slice a 0 cap, .slice a' 0 cap'] w fun e w' => ∃ x, e = .returned (.tuple #[x, .int .i64 0]) ∧ Sees w' x [] ∧ Below w.heap.size w w' := by
  have c : Hid _ := refRight_empty a cap w
  go_enter Try.func21, Try.ntmps21
  go_wp2_with (go_at_call 17; refine Calls.mono c.out ?_; rintro e w1 ⟨rfl, rfl⟩)
  refine wp_loop_rounds 1 ?_
  rw [rounds_succ]
  go_wp2
  go_ret2
  exact ⟨_, rfl, sees_nil _, Below.refl _ _⟩
theorem refTurn_any (v u : Value) (p l : List Int) (w : World) (hv : Sees w v p) (hu : Sees w u l) :
    Calls Try.prog 21 #[v, u] w fun e w' => ∃ x, e = .returned (.tuple #[x, .int .i64 (turnE p l)]) ∧ Sees w' x (turnW p l) ∧ Below w.heap.size w w' := by
  unfold turnE turnW turnB
  cases hr : rightB p
  · refine (refTurn_not v u p w hv hr).mono ?_
    rintro e w' ⟨rfl, hb⟩
    exact ⟨_, rfl, sees_nil _, hb⟩
  · by_cases hl : l.length = p.length
    · rw [decide_eq_true hl, Bool.and_self, if_pos rfl, if_pos rfl]
      obtain ⟨a, cap, rfl, _, hs⟩ := hv
      obtain ⟨a', cap', rfl, _, hs'⟩ := hu
      by_cases h0 : p = []
      · subst h0
        rw [hl]
        exact refTurn_empty a a' cap cap' w
      · rcases hs with h1 | ⟨b, off, rfl, hc⟩
        · exact absurd h1 h0
        have hpos : 0 < p.length := List.length_pos_iff.2 h0
        rcases hs' with h1 | ⟨b', off', rfl, hc'⟩
        · subst h1; simp at hl; omega
        rw [hl] at hc' ⊢
        refine (refTurn_walk b off b' off' p.length cap cap' p l w hr rfl hl hc hc' hpos).mono ?_
        rintro e w' ⟨x, rfl, hS, hb⟩
        exact ⟨_, rfl, hS, hb⟩
    · rw [decide_eq_false hl]
      refine (refTurn_other v u p l w hv hu hr hl).mono ?_
      rintro e w' ⟨rfl, hb⟩
      exact ⟨_, rfl, sees_nil _, hb⟩
theorem refBack_not (v : Value) (p : List Int) (w : World) (hv : Sees w v p) (hr : rightB p = false) :
    Calls Try.prog 23 #[v] w fun e w' => e = .returned (.tuple #[.slice none 0 0, .int .i64 3]) ∧ Below w.heap.size w w' := by
  have C := refRight_any v p w hv
  rw [hr] at C
  have c : Hid _ := C
  clear C
  go_enter Try.func23, Try.ntmps23
  go_wp2_with (go_at_call 17; refine Calls.mono c.out ?_; rintro e w1 ⟨rfl, rfl⟩)
  go_ret2
  exact ⟨rfl, Below.refl _ _⟩
theorem refBack_empty (a : Option Addr) (cap : Nat) (w : World) :
    Calls Try.prog 23 #[.slice a 0 cap] w fun e w' => ∃ x, e = .returned (.tuple #[x, .int .i64 0]) ∧ Sees w' x [] ∧ Below w.heap.size w w' := by
  obtain ⟨i3, hi, hz0, hz1, hz2⟩ := info_parts info3
  have c : Hid _ := refRight_empty a cap w
  go_enter Try.func23, Try.ntmps23
  go_wp2_with (first | (go_at_call 17; refine Calls.mono c.out ?_; rintro e w1 ⟨rfl, rfl⟩) | (at_make; refine wpList_make_row _ rfl _ _ 23 rfl 3 i3 (.int .i64 0) Try.underlying23 hi hz0 hz1 rfl .i64 .i64 0 rfl rfl (by rw [hz2]; omega) (by omega) ?_; refine Hid.out ?_))
  refine hidI ?_
  have hb3 := (Below.refl w.heap.size w).alloc (Nat.le_refl _) (.cells (madeCells #[.int .i64 0] 0) 3)
  go_wp2
  refine wp_loop_rounds 1 ?_
  rw [rounds_succ]
  go_wp2
  go_ret2
  exact ⟨_, rfl, ⟨_, 0, rfl, by simp, .inl rfl⟩, hb3⟩
set_option maxHeartbeats 1000000 in
theorem refBack_walk (b off len cap : Nat) (p : List Int) (w : World) (hr : rightB p = true) (hp : p.length = len)
    (hc : ∀ j, j < len → w.cell? ⟨b, off + j, none⟩ = some (.int .i64 (p.getD j 0))) (hpos : 0 < len) :
    Calls Try.prog 23 #[.slice (some ⟨b, off, none⟩) len cap] w fun e w' => ∃ g, e = .returned (.tuple #[.slice (some ⟨g, 0, none⟩) len len, .int .i64 0]) ∧ Sees w' (.slice (some ⟨g, 0, none⟩) len len) (backL p) ∧ Below w.heap.size w w' := by
  obtain ⟨i3, hi, hz0, hz1, hz2⟩ := info_parts info3
  have hb1 : b < w.heap.size := World.block_lt_of_cell? w _ (hc 0 hpos)
  have h16 : len ≤ 16 := by rw [← hp]; exact (rightB_parts hr).1
  have HR : Hid _ := rightB_range hr
  have C := refRight_any (.slice (some ⟨b, off, none⟩) len cap) p w ⟨_, cap, by rw [hp], by omega, .inr ⟨b, off, rfl, by rw [hp]; exact hc⟩⟩
  rw [hr] at C
  have c : Hid _ := C
  have HC : Hid _ := hc
  clear C hc hr
  go_enter Try.func23, Try.ntmps23
  go_wp2_with (first | (go_at_call 17; refine Calls.mono c.out ?_; rintro e w1 ⟨rfl, rfl⟩) | (at_make; refine wpList_make_row _ rfl _ _ 23 rfl 3 i3 (.int .i64 0) Try.underlying23 hi hz0 hz1 rfl .i64 .i64 len rfl rfl (by rw [hz2]; omega) (by omega) ?_; refine Hid.out ?_))
  refine hidI ?_
  have hrow : Row (w.alloc (.cells (madeCells #[.int .i64 0] len) 3)) w.heap.size len (fun _ => 0) := World.rowIs_made w (.int .i64 0) len 3
  have hb3 := (Below.refl w.heap.size w).alloc (Nat.le_refl _) (.cells (madeCells #[.int .i64 0] len) 3)
  generalize w.alloc (.cells (madeCells #[.int .i64 0] len) 3) = w2 at hrow hb3 ⊢
  clear c
  go_wp2
  go_loopg [5] len (fun g s5 wx => ∃ (i : Nat), i + g = len ∧ s5 = .int .i64 i ∧ Row wx w.heap.size len (backAt p i) ∧ Below w.heap.size w wx)
  case atStart => exact ⟨0, by omega, rfl, hrow, hb3⟩
  case round =>
    clear hrow hb3
    obtain ⟨i, hig, rfl, hrow, hb⟩ := hrel
    cases gk with
    | zero =>
      have hil : i = len := by omega
      subst hil
      have hS := hrow.sees h16
      have e1 : (List.range i).map (backAt p i) = backL p := by
        unfold backL
        rw [hp]
      rw [e1] at hS
      go_wp2
      go_ret2
      exact ⟨w.heap.size, rfl, hS, hb⟩
    | succ g =>
      have hlt : i < len := by omega
      obtain ⟨q, hq, hql⟩ := HR.out i (by omega)
      rw [hp] at hql
      have hx : wr.cell? ⟨b, off + i, none⟩ = some (.int .i64 (q : Int)) := by rw [hb.cell (p := ⟨b, off + i, none⟩) hb1, HC.out i hlt, hq]
      have hfr : wr.frozen? ⟨w.heap.size, q, none⟩ = false := World.rowIs.frozen hrow q
      have hcl := World.rowIs.cell hrow hql
      have hrow' : Row (wr.setCell ⟨w.heap.size, q, none⟩ (.int .i64 i)) w.heap.size len (backAt p (i + 1)) := hrow.put q i (fun j hj => by
        simp only [backAt]
        rw [hq]
        by_cases e : j = q
        · subst e; rw [if_pos rfl, if_pos rfl]
        · rw [if_neg e, if_neg (by omega)])
      have hb' : Below w.heap.size w (wr.setCell ⟨w.heap.size, q, none⟩ (.int .i64 i)) := hb.setCell (Nat.le_refl _) _
      have HH : Hid _ := hrow'
      clear hrow' hrow hq
      go_wp2
      go_roundg g
      case measure => omega
      case rel => exact ⟨i + 1, by omega, by go_num, HH.out, hb'⟩
theorem refBack_any (v : Value) (p : List Int) (w : World) (hv : Sees w v p) :
    Calls Try.prog 23 #[v] w fun e w' => ∃ x, e = .returned (.tuple #[x, .int .i64 (backE p)]) ∧ Sees w' x (backW p) ∧ Below w.heap.size w w' := by
  unfold backE backW
  cases hr : rightB p
  · refine (refBack_not v p w hv hr).mono ?_
    rintro e w' ⟨rfl, hb⟩
    exact ⟨_, rfl, sees_nil _, hb⟩
  · rw [if_pos rfl, if_pos rfl]
    obtain ⟨a, cap, rfl, _, hs⟩ := hv
    by_cases h0 : p = []
    · subst h0
      exact refBack_empty a cap w
    · rcases hs with h1 | ⟨b, off, rfl, hc⟩
      · exact absurd h1 h0
      refine (refBack_walk b off p.length cap p w hr rfl hc (List.length_pos_iff.2 h0)).mono ?_
      rintro e w' ⟨g, rfl, hS, hb⟩
      exact ⟨_, rfl, hS, hb⟩
theorem refThen_any (v u : Value) (p q : List Int) (w : World) (hv : Sees w v p) (hu : Sees w u q) :
    Calls Try.prog 25 #[v, u] w fun e w' => ∃ x, e = .returned (.tuple #[x, .int .i64 (thenE p q)]) ∧ Sees w' x (thenW p q) ∧ Below w.heap.size w w' := by
  have C := refRight_any v p w hv
  have C2 := refRight_any u q w hu
  unfold thenE thenW
  cases hr : rightB p
  · rw [hr] at C
    have c : Hid _ := C
    clear C C2
    go_enter Try.func25, Try.ntmps25
    go_wp2_with (go_at_call 17; refine Calls.mono c.out ?_; rintro e w1 ⟨rfl, rfl⟩)
    go_ret2
    exact ⟨_, rfl, sees_nil _, Below.refl _ _⟩
  · rw [hr] at C
    rw [if_pos rfl, if_pos rfl]
    cases hq : rightB q
    · rw [hq] at C2
      have e1 : turnB q p = false := by unfold turnB; rw [hq]; rfl
      have e2 : turnE q p = 3 := by unfold turnE; rw [e1]; rfl
      have e3 : turnW q p = [] := by unfold turnW; rw [e1]; rfl
      rw [e2, e3]
      have c : Hid _ := C
      have c2 : Hid _ := C2
      clear C C2
      go_enter Try.func25, Try.ntmps25
      go_wp2_with (go_at_call 17; refine Calls.mono c.out ?_; rintro e w1 ⟨rfl, rfl⟩; refine Hid.out ?_)
      refine hidI ?_
      go_wp2_with (go_at_call 17; refine Calls.mono c2.out ?_; rintro e w1 ⟨rfl, rfl⟩)
      go_ret2
      exact ⟨_, rfl, sees_nil _, Below.refl _ _⟩
    · rw [hq] at C2
      have c : Hid _ := C
      have c2 : Hid _ := C2
      clear C C2
      obtain ⟨er, her⟩ : ∃ er, turnE q p = er := ⟨_, rfl⟩
      rw [her]
      have D : Hid _ := refTurn_any u v q p w hu hv
      rw [her] at D
      clear her
      go_enter Try.func25, Try.ntmps25
      go_wp2_with (go_at_call 17; refine Calls.mono c.out ?_; rintro e w1 ⟨rfl, rfl⟩; refine Hid.out ?_)
      refine hidI ?_
      go_wp2_with (go_at_call 17; refine Calls.mono c2.out ?_; rintro e w1 ⟨rfl, rfl⟩; refine Hid.out ?_)
      refine hidI ?_
      go_wp2_with (go_at_call 21; refine Calls.mono D.out ?_; rintro e w2 ⟨x, rfl, hS, hb2⟩)
      go_ret2
      exact ⟨x, rfl, hS, hb2⟩
end Go.Proofs.Ytcaecfmjnboamab
