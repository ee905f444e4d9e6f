/-
  The document's Agg: New, Clear; nil.
-/
import Derived.Test.YthjpoemgoeckbaaRAgg3
namespace Go.Proofs.Ythjpoemgoeckbaa
open Go.RowKit Go.Deep Go.MapKept Go.Sort
theorem make83 (c : Nat) (hc : c ≤ 1000) (W : World) : (Instr.makeSlice 65 (.int .i64 (c : Int)) (.int .i64 (c : Int))).run Try.prog W = .ok (.slice (some ⟨W.heap.size, 0, none⟩) c c) (W.alloc (.cells (madeCells #[.slice none 0 0] c) 39)) := by
  obtain ⟨i0, hi, hz0, hz1, hz2⟩ := info_parts Try.info39
  have := run_make (P := Try.prog) W 65 39 i0 (.slice none 0 0) Try.underlying65 hi hz0 .i64 .i64 (c : Int) (c : Int) (by omega) (by omega) (by rw [hz2]; omega) (by omega)
  rw [hz1] at this
  simp only [Int.toNat_natCast, Nat.mul_one] at this
  exact this
theorem rows_nil (w : World) (N : Nat → Prop) (n : Nat) (hN : ¬ N w.heap.size) : SeesRows (w.alloc (.cells (madeCells #[.slice none 0 0] n) 39)) N (.slice (some ⟨w.heap.size, 0, none⟩) n n) (List.replicate n []) := by
  refine ⟨List.replicate n (.slice none 0 0), ⟨by simp, _, _, by rw [List.length_replicate], ?_⟩, fun b hb => ?_, fun j v r hv hr => ?_⟩
  · refine .inr ⟨w.heap.size, 0, rfl, fun j c hc => ?_⟩
    rw [Nat.zero_add]
    have hj := (List.getElem?_eq_some_iff.1 hc).1
    rw [List.length_replicate] at hj
    have e := List.eq_of_mem_replicate (List.mem_of_getElem? hc)
    subst e
    have hh := (heap_alloc w (.cells (madeCells #[.slice none 0 0] n) 39)).1
    unfold World.cell?
    simp only [hh]
    simp [madeCells, hj, Nat.mod_one]
  · have e : some w.heap.size = some b := hb
    cases e
    exact ⟨by simp, hN⟩
  · have h1 := List.eq_of_mem_replicate (List.mem_of_getElem? hv)
    have h2 := List.eq_of_mem_replicate (List.mem_of_getElem? hr)
    subst h1 h2
    exact ⟨⟨none, 0, rfl, Nat.le_refl _, .inl rfl⟩, fun b hb => by simp [Value.ownBlock] at hb⟩
theorem rnew_bad (o n : Int) (w : World) (h : redB o = false ∨ n < 1 ∨ 4 < n) : Calls Try.prog 23 #[.int .u8 o, .int .i64 n] w fun e w' => e = .returned (.pointer none) ∧ w = w' := by
  cases hr : redB o with
  | false =>
    go_enter Try.func23, Try.ntmps23
    go_wp2_with (go_at_call 14; refine (reducesR_any _ _).mono ?_; rintro e w' ⟨rfl, rfl⟩)
    go_ret
    exact ⟨rfl, rfl⟩
  | true =>
    by_cases h1 : n < 1
    · go_enter Try.func23, Try.ntmps23
      go_wp2_with (go_at_call 14; refine (reducesR_any _ _).mono ?_; rintro e w' ⟨rfl, rfl⟩)
      go_ret
      exact ⟨rfl, rfl⟩
    · have h2 : 4 < n := by
        rcases h with h | h | h
        · rw [hr] at h; cases h
        · exact absurd h h1
        · exact h
      have q1 : decide (n < 1) = false := by simpa using h1
      clear h
      go_enter Try.func23, Try.ntmps23
      go_wp2_with (go_at_call 14; refine (reducesR_any _ _).mono ?_; rintro e w' ⟨rfl, rfl⟩)
      go_ret
      exact ⟨rfl, rfl⟩
theorem RAg.first {w : World} {N : Nat → Prop} {o n : Nat} (hN : ∀ k, N k → k ≤ w.heap.size + 1) (hN1 : ¬ N w.heap.size) (hp : N (w.heap.size + 1)) : RAg ((w.alloc (.cells (madeCells #[.slice none 0 0] n) 39)).alloc (.cells #[.int .u8 (o : Int), .slice (some ⟨w.heap.size, 0, none⟩) n n] 67)) N (w.heap.size + 1) o (List.replicate n []) := by
  have hb := (Below.refl (w.alloc (.cells (madeCells #[.slice none 0 0] n) 39)).heap.size (w.alloc (.cells (madeCells #[.slice none 0 0] n) 39))).alloc (Nat.le_refl _) (.cells #[.int .u8 (o : Int), .slice (some ⟨w.heap.size, 0, none⟩) n n] 67)
  have hr := (rows_nil w N n hN1).grown (grown_of_below hb (Nat.le_refl _)) (by simp)
  exact ⟨by simp, hp, fun k hk => by have := hN k hk; simp; omega, by go_simp, ⟨.slice (some ⟨w.heap.size, 0, none⟩) n n, by go_simp, hr⟩, by go_simp⟩
def NewPost (w : World) (o n : Nat) (e : Ending) (w' : World) : Prop := ∃ p, e = .returned (.pointer (some ⟨p, 0, none⟩)) ∧ w.heap.size ≤ p ∧ Below w.heap.size w w' ∧ ∀ N : Nat → Prop, (∀ k, N k → k < w.heap.size ∨ k = p) → N p → RAg w' N p o (List.replicate n [])
theorem rnew_any (o n : Nat) (w : World) (h : redB (o : Int) = true) (h1 : 1 ≤ n) (h4 : n ≤ 4) : Calls Try.prog 23 #[.int .u8 (o : Int), .int .i64 (n : Int)] w (NewPost w o n) := by
  have HB : Hid (Below w.heap.size w ((w.alloc (.cells (madeCells #[.slice none 0 0] n) 39)).alloc (.cells #[.int .u8 (o : Int), .slice (some ⟨w.heap.size, 0, none⟩) n n] 67))) := hidI (by (repeat (first | exact Below.refl _ _ | assumption | refine Below.drew ?_ | refine Below.alloc ?_ (by first | omega | (simp; done) | (simp; omega)) _ | refine Below.setCell ?_ (by first | omega | (simp; done) | (simp; omega)) _)))
  have HR : Hid (∀ N : Nat → Prop, (∀ k, N k → k < w.heap.size ∨ k = w.heap.size + 1) → N (w.heap.size + 1) → RAg ((w.alloc (.cells (madeCells #[.slice none 0 0] n) 39)).alloc (.cells #[.int .u8 (o : Int), .slice (some ⟨w.heap.size, 0, none⟩) n n] 67)) N (w.heap.size + 1) o (List.replicate n [])) := hidI fun N h1 h2 => RAg.first (fun k hk => by have := h1 k hk; omega) (fun hk => by have := h1 _ hk; omega) h2
  have MK := make83 n (by omega) w
  have q1 : decide ((n : Int) < 1) = false := by rw [decide_eq_false_iff_not]; omega
  have q2 : decide (4 < (n : Int)) = false := by rw [decide_eq_false_iff_not]; omega
  have q3 : decide (4 < n) = false := by rw [decide_eq_false_iff_not]; omega
  go_enter Try.func23, Try.ntmps23
  go_wp2_with (go_at_call 14; refine (reducesR_any _ _).mono ?_; rintro e w' ⟨rfl, rfl⟩)
  go_ret
  exact ⟨w.heap.size + 1, rfl, by omega, HB.out, HR.out⟩
theorem rclear_nil (w : World) : Calls Try.prog 34 #[.pointer none] w fun e w' => e = .returned (.tuple #[]) ∧ w = w' := by
  go_enter Try.func34, Try.ntmps34
  go_wp2
  go_end0
  exact ⟨rfl, rfl⟩
theorem rtake_nil (k x : Int) (w : World) : Calls Try.prog 30 #[.pointer none, .int .i64 k, .int .i64 x] w fun e w' => e = .returned (.int .i64 1) ∧ w = w' := by
  have C : Hid (Calls Try.prog 36 #[.pointer none, .int .i64 k] w fun e w' => e = .returned (.int .i64 1) ∧ w = w') := hidI (by
    go_enter Try.func36, Try.ntmps36
    go_wp2
    go_ret
    exact ⟨rfl, rfl⟩)
  go_enter Try.func30, Try.ntmps30
  go_wp2_with (go_at_call 36; refine Calls.mono C.out ?_; rintro e w' ⟨rfl, rfl⟩)
  go_ret
  exact ⟨rfl, rfl⟩
theorem rpart_nil (k : Int) (w : World) : Calls Try.prog 24 #[.pointer none, .int .i64 k] w fun e w' => e = .returned (.tuple #[.int .i64 0, .int .i64 1]) ∧ w = w' := by
  have C : Hid (Calls Try.prog 36 #[.pointer none, .int .i64 k] w fun e w' => e = .returned (.int .i64 1) ∧ w = w') := hidI (by
    go_enter Try.func36, Try.ntmps36
    go_wp2
    go_ret
    exact ⟨rfl, rfl⟩)
  go_enter Try.func24, Try.ntmps24
  go_wp2_with (go_at_call 36; refine Calls.mono C.out ?_; rintro e w' ⟨rfl, rfl⟩)
  go_ret2
  exact ⟨rfl, rfl⟩
theorem rwhole_nil (k : Int) (w : World) : Calls Try.prog 25 #[.pointer none, .int .u64 k] w fun e w' => e = .returned (.tuple #[.int .i64 0, .int .i64 1]) ∧ w = w' := by
  go_enter Try.func25, Try.ntmps25
  go_wp2
  go_ret2
  exact ⟨rfl, rfl⟩
theorem clear_end {w W : World} {N : Nat → Prop} {p o : Nat} {rows rows' : List (List Int)} {lv : Value} (hb : Below w.heap.size w W) (h : RAg W N p o rows) (hr : SeesRows W N lv rows') : RAg (W.setCell ⟨p, 1, none⟩ lv) N p o rows' ∧ w.grownBy (W.setCell ⟨p, 1, none⟩ lv) (some p) := by
  have g2 : W.grownBy (W.setCell ⟨p, 1, none⟩ lv) (some p) := ⟨rfl, rfl, rfl, by simp, fun k _ hk => heap_setCell_other W ⟨p, 1, none⟩ k _ (fun e => hk (by simp [e]))⟩
  obtain ⟨lv0, k1, _⟩ := h.c1
  exact ⟨⟨Nat.lt_of_lt_of_le h.lt g2.size, h.mem, fun k hk => Nat.lt_of_lt_of_le (h.few k hk) g2.size, (World.cell?_setCell_other _ _ _ _ (by intro hh; simp only [Addr.mk.injEq] at hh; omega)).trans h.c0, ⟨lv, World.cell?_setCell_same _ _ _ k1, hr.grown g2 (fun b e => by cases e; exact h.mem)⟩, by rw [World.frozen?_setCell]; exact h.f1⟩, ⟨g2.os.trans hb.os, g2.tape.trans hb.tape, g2.output.trans hb.output, Nat.le_trans hb.size g2.size, fun k hk hne => (g2.block k (Nat.lt_of_lt_of_le hk hb.size) hne).trans (hb.block k hk)⟩⟩
theorem rclear_any {w : World} {N : Nat → Prop} {p o : Nat} {rows : List (List Int)} (h : RAg w N p o rows) (h4 : rows.length ≤ 4) : Calls Try.prog 34 #[.pointer (some ⟨p, 0, none⟩)] w fun e w' => e = .returned (.tuple #[]) ∧ RAg w' N p o (List.replicate rows.length []) ∧ w.grownBy w' (some p) := by
  have H := hidI h
  obtain ⟨lv, k1, vs, ⟨_, a, cap, rfl, _⟩, _, _⟩ := h.c1
  obtain ⟨n, hn⟩ : ∃ n, rows.length = n := ⟨_, rfl⟩
  rw [hn] at k1 h4 ⊢
  have f1 := h.f1
  have hpw := h.lt
  have hpn : p ≠ w.heap.size := by omega
  have MK := make83 n (by omega) w
  clear h hn
  go_enter Try.func34, Try.ntmps34
  go_wp2
  go_end0
  have hb := (Below.refl w.heap.size w).alloc (Nat.le_refl _) (.cells (madeCells #[.slice none 0 0] n) 39)
  have h1 := H.out.below hb (Nat.le_refl _)
  have hr := rows_nil w N n (fun hN => by have := H.out.few _ hN; omega)
  have hce := clear_end hb h1 hr
  have e : (w.alloc (.cells (madeCells #[.slice none 0 0] n) 39)).setCell ⟨p, 1, none⟩ (.slice (some ⟨w.heap.size, 0, none⟩) n n) = (w.setCell ⟨p, 1, none⟩ (.slice (some ⟨w.heap.size, 0, none⟩) n n)).alloc (.cells (madeCells #[.slice none 0 0] n) 39) := by go_simp
  rw [e] at hce
  exact ⟨rfl, hce⟩
end Go.Proofs.Ythjpoemgoeckbaa
