/-
  The document's Agg: an operation, and the numbers that each worker took in.
-/
import Derived.Test.YthjpoemgoeckbaaRegP
import Derived.Test.YthjpoemgoeckbaaRTaken
namespace Go.Proofs.Ythjpoemgoeckbaa
open Go.RowKit Go.Deep Go.MapKept Go.Sort
/-- Numbers lie in a row. -/
def SeesW (w : World) (v : Value) (zs : List Int) : Prop :=
  ∃ (a : Option Addr) (cap : Nat), v = .slice a zs.length cap ∧ zs.length ≤ cap ∧ (zs = [] ∨ ∃ b off, a = some ⟨b, off, none⟩ ∧ ∀ (j : Nat) (z : Int), zs[j]? = some z → w.cell? ⟨b, off + j, none⟩ = some (.int .i64 z))
def cellsW (zs : List Int) : List Value := zs.map (Value.int .i64)
theorem cellsW_one (zs : List Int) : ∀ c ∈ cellsW zs, c.oneCell' = true := by
  intro c hc
  obtain ⟨z, _, rfl⟩ := List.mem_map.1 hc
  rfl
theorem SeesW.sees {w : World} {v : Value} {zs : List Int} (h : SeesW w v zs) : SeesC w v zs.length 1 (cellsW zs) := by
  obtain ⟨a, cap, rfl, _, h⟩ := h
  refine ⟨by simp [cellsW], a, cap, rfl, ?_⟩
  rcases h with rfl | ⟨b, off, rfl, h⟩
  · exact .inl rfl
  · refine .inr ⟨b, off, rfl, fun j c hc => ?_⟩
    simp only [cellsW, List.getElem?_map, Option.map_eq_some_iff] at hc
    obtain ⟨z, hz, rfl⟩ := hc
    exact h j z hz
theorem seesW_of_owns {w : World} {base e n : Nat} {v : Value} {zs : List Int} (h : w.ownsRow base e 1 v n (cellsW zs)) : SeesW w v zs := by
  have hn : n = zs.length := by have := h.1; simp [cellsW] at this; omega
  subst hn
  obtain ⟨a, cap, rfl, hc⟩ := own_cap h
  obtain ⟨_, a', cap', he, h'⟩ := seesC_of_owns h
  cases he
  refine ⟨_, _, rfl, hc, ?_⟩
  rcases h' with h0 | ⟨b, off, rfl, h'⟩
  · exact .inl (List.eq_nil_of_length_eq_zero h0)
  · exact .inr ⟨b, off, rfl, fun j z hz => h' j _ (by simp [cellsW, hz])⟩
theorem SeesW.grown {w w' : World} {row : Option Nat} {v : Value} {zs : List Int} (h : SeesW w v zs) (hg : w.grownBy w' row) (hne : ∀ b, v.ownBlock = some b → row ≠ some b) : SeesW w' v zs := by
  obtain ⟨a, cap, rfl, hc, h⟩ := h
  refine ⟨a, cap, rfl, hc, h.imp_right ?_⟩
  rintro ⟨b, off, rfl, h2⟩
  exact ⟨b, off, rfl, fun j z hz => hg.cell (h2 j z hz) (fun e => hne b rfl (by simpa [Value.ownBlock] using e.symm))⟩
theorem SeesC.grown2 {w w' : World} {row : Option Nat} {n size : Nat} {v : Value} {cs : List Value} (h : SeesC w v n size cs) (hg : w.grownBy w' row) (hne : ∀ b, v.ownBlock = some b → row ≠ some b) : SeesC w' v n size cs := by
  obtain ⟨hl, a, cap, rfl, h⟩ := h
  refine ⟨hl, a, cap, rfl, h.imp_right ?_⟩
  rintro ⟨b, off, rfl, h2⟩
  exact ⟨b, off, rfl, fun j c hc => hg.cell (h2 j c hc) (fun e => hne b rfl (by simpa [Value.ownBlock] using e.symm))⟩
/-- Rows of numbers, in no block of N. -/
def SeesRows (w : World) (N : Nat → Prop) (lv : Value) (rows : List (List Int)) : Prop :=
  ∃ (vs : List Value), SeesC w lv rows.length 1 vs ∧ (∀ b, lv.ownBlock = some b → b < w.heap.size ∧ ¬ N b) ∧ ∀ (j : Nat) (v : Value) (r : List Int), vs[j]? = some v → rows[j]? = some r → SeesW w v r ∧ ∀ b, v.ownBlock = some b → b < w.heap.size ∧ ¬ N b
theorem SeesRows.grown {w w' : World} {N : Nat → Prop} {row : Option Nat} {lv : Value} {rows : List (List Int)} (h : SeesRows w N lv rows) (hg : w.grownBy w' row) (hr : ∀ b, row = some b → N b) : SeesRows w' N lv rows := by
  obtain ⟨vs, h1, h2, h3⟩ := h
  refine ⟨vs, h1.grown2 hg fun b hb e => (h2 b hb).2 (hr b e), fun b hb => ⟨Nat.lt_of_lt_of_le (h2 b hb).1 hg.size, (h2 b hb).2⟩, fun j v r hv hr' => ?_⟩
  obtain ⟨k1, k2⟩ := h3 j v r hv hr'
  exact ⟨k1.grown hg fun b hb e => (k2 b hb).2 (hr b e), fun b hb => ⟨Nat.lt_of_lt_of_le (k2 b hb).1 hg.size, (k2 b hb).2⟩⟩
/-- The document's Agg at p. -/
structure RAg (w : World) (N : Nat → Prop) (p o : Nat) (rows : List (List Int)) : Prop where
  lt : p < w.heap.size
  mem : N p
  few : ∀ k, N k → k < w.heap.size
  c0 : w.cell? ⟨p, 0, none⟩ = some (.int .u8 (o : Int))
  c1 : ∃ lv, w.cell? ⟨p, 1, none⟩ = some lv ∧ SeesRows w N lv rows
  f1 : w.frozen? ⟨p, 1, none⟩ = false
theorem grown_of_below {w w' : World} {B : Nat} (h : Below B w w') (hB : w.heap.size ≤ B) : w.grownBy w' none := ⟨h.os, h.tape, h.output, h.size, fun k hk _ => h.block k (Nat.lt_of_lt_of_le hk hB)⟩
theorem RAg.grown {w w' : World} {N : Nat → Prop} {row : Option Nat} {p o : Nat} {rows : List (List Int)} (h : RAg w N p o rows) (hg : w.grownBy w' row) (hr : ∀ b, row = some b → N b) (hp : row ≠ some p) : RAg w' N p o rows := by
  obtain ⟨lv, k1, k2⟩ := h.c1
  have hb : w'.heap[p]? = w.heap[p]? := hg.block p h.lt (Ne.symm hp)
  refine ⟨Nat.lt_of_lt_of_le h.lt hg.size, h.mem, fun k hk => Nat.lt_of_lt_of_le (h.few k hk) hg.size, (World.cell?_of_block hb).trans h.c0, ⟨lv, (World.cell?_of_block hb).trans k1, k2.grown hg hr⟩, ?_⟩
  have := h.f1
  unfold World.frozen? at this ⊢
  simp only at this ⊢
  rw [hb]
  exact this
theorem RAg.below {w w' : World} {B : Nat} {N : Nat → Prop} {p o : Nat} {rows : List (List Int)} (h : RAg w N p o rows) (hb : Below B w w') (hB : w.heap.size ≤ B) : RAg w' N p o rows := h.grown (grown_of_below hb hB) (by simp) (by simp)
def mayE (n : Nat) (k : Int) : Int := if 0 ≤ k ∧ k < (n : Int) then 0 else 2
theorem rmay_any {w : World} {N : Nat → Prop} {p o : Nat} {rows : List (List Int)} (h : RAg w N p o rows) (k : Int) : Calls Try.prog 36 #[.pointer (some ⟨p, 0, none⟩), .int .i64 k] w fun e w' => e = .returned (.int .i64 (mayE rows.length k)) ∧ w = w' := by
  obtain ⟨lv, k1, vs, ⟨_, a, cap, rfl, _⟩, _, _⟩ := h.c1
  obtain ⟨n, hn⟩ : ∃ n, rows.length = n := ⟨_, rfl⟩
  rw [hn] at k1 ⊢
  clear hn
  by_cases h0 : k < 0
  · have e : mayE n k = 2 := if_neg (by omega)
    rw [e]
    clear e
    go_enter Try.func36, Try.ntmps36
    go_wp2
    go_ret
    exact ⟨rfl, rfl⟩
  · have q0 : decide (k < 0) = false := by simpa using h0
    by_cases h1 : (n : Int) ≤ k
    · have e : mayE n k = 2 := if_neg (by omega)
      rw [e]
      clear e
      go_enter Try.func36, Try.ntmps36
      go_wp2
      go_ret
      exact ⟨rfl, rfl⟩
    · have q1 : decide ((n : Int) ≤ k) = false := by simpa using h1
      have e : mayE n k = 0 := if_pos (by omega)
      rw [e]
      clear e
      go_enter Try.func36, Try.ntmps36
      go_wp2
      go_ret
      exact ⟨rfl, rfl⟩
def partR (o : Nat) (row : List Int) : Int := row.foldl (opTwo o) (redW (o : Int))
theorem rpart_bad {w : World} {N : Nat → Prop} {p o : Nat} {rows : List (List Int)} (h : RAg w N p o rows) (k : Int) (hk : mayE rows.length k = 2) : Calls Try.prog 24 #[.pointer (some ⟨p, 0, none⟩), .int .i64 k] w fun e w' => e = .returned (.tuple #[.int .i64 0, .int .i64 2]) ∧ w = w' := by
  have C := hidI (rmay_any h k)
  rw [hk] at C
  clear h hk
  go_enter Try.func24, Try.ntmps24
  go_wp2_with (go_at_call 36; refine Calls.mono C.out ?_; rintro e w' ⟨rfl, rfl⟩)
  go_ret2
  exact ⟨rfl, rfl⟩
set_option maxRecDepth 100000 in
set_option maxHeartbeats 1000000 in
theorem rpart_any {w : World} {N : Nat → Prop} {p o : Nat} {rows : List (List Int)} (h : RAg w N p o rows) (wk : Nat) (row : List Int) (hw : rows[wk]? = some row) (hm : many5 o) (hl : row.length ≤ 10000) : Calls Try.prog 24 #[.pointer (some ⟨p, 0, none⟩), .int .i64 (wk : Int)] w fun e w' => e = .returned (.tuple #[.int .i64 (partR o row), .int .i64 0]) ∧ Below w.heap.size w w' := by
  have hwl := (List.getElem?_eq_some_iff.1 hw).1
  have C := hidI (rmay_any h (wk : Int))
  rw [show mayE rows.length (wk : Int) = 0 from if_pos (by omega)] at C
  obtain ⟨lv, k1, vs, ⟨hvl, a, cap, rfl, hs⟩, _, hrows⟩ := h.c1
  obtain ⟨v, hv⟩ : ∃ v, vs[wk]? = some v := ⟨_, List.getElem?_eq_getElem (by omega)⟩
  obtain ⟨⟨ra, rc, rfl, _, hr⟩, _⟩ := hrows wk v row hv hw
  obtain ⟨lb, lo, rfl, hcell⟩ : ∃ lb lo, a = some ⟨lb, lo, none⟩ ∧ w.cell? ⟨lb, lo + wk, none⟩ = some (.slice ra row.length rc) := by
    rcases hs with h0 | ⟨lb, lo, rfl, hc⟩
    · omega
    · exact ⟨lb, lo, rfl, hc wk _ hv⟩
  have HR := hidI hr
  have HC0 := hidI h.c0
  have HM := hidI hm
  have HK1 := hidI k1
  have HCL := hidI hcell
  obtain ⟨n, hn⟩ : ∃ n, rows.length = n := ⟨_, rfl⟩
  rw [hn] at hwl k1 HK1
  obtain ⟨m, hm2⟩ : ∃ m, row.length = m := ⟨_, rfl⟩
  have HML := hidI hm2
  obtain ⟨R, hR⟩ : ∃ R, partR o row = R := ⟨_, rfl⟩
  have HRes := hidI hR
  rw [hR]
  rw [hm2] at hl hcell HCL
  have c0 := h.c0
  have kw : (wk : Int) < (n : Int) := by omega
  clear hs hrows hr hv hw h hm hn hm2 hR
  go_enter Try.func24, Try.ntmps24
  go_wp2_with (first | (go_at_call 36; refine Calls.mono C.out ?_; rintro e w' ⟨rfl, rfl⟩) | (go_at_call 14; refine (reducesR_any _ _).mono ?_; rintro e w' ⟨rfl, rfl⟩))
  clear C
  go_loopg [7, 9] m (fun g s7 s9 wx => ∃ (i : Nat) (acc : Int), i + g = m ∧ s7 = .int .i64 acc ∧ Hid (acc = (row.take i).foldl (opTwo o) (redW (o : Int))) ∧ s9 = .int .i64 (i : Int) ∧ Hid (Below w.heap.size w wx))
  case atStart => exact ⟨0, _, by omega, rfl, hidI rfl, rfl, hidI (Below.refl _ _)⟩
  case round =>
    obtain ⟨i, acc, hig, rfl, HA, rfl, HB⟩ := hrel
    have kk : ∀ {p : Addr} {v : Value}, w.cell? p = some v → wr.cell? p = some v := fun {p v} hc => (HB.out.cell (World.block_lt_of_cell? w _ hc)).trans hc
    have d0 := kk HC0.out
    have d1 := kk HK1.out
    have d2 := kk HCL.out
    clear c0 k1 hcell
    cases gk with
    | zero =>
      obtain rfl : m = i := by omega
      have k7 : decide ((m : Int) < (m : Int)) = false := by simp
      clear kk
      go_wp2
      go_ret2
      refine ⟨?_, HB.out⟩
      have hy := HA.out
      rw [List.take_of_length_le (by have := HML.out; omega)] at hy
      have e : acc = R := by rw [hy, ← HRes.out]; rfl
      rw [e]
      rfl
    | succ g =>
      have k7 : (i : Int) < (m : Int) := by omega
      obtain ⟨z, hz⟩ : ∃ z, row[i]? = some z := ⟨_, List.getElem?_eq_getElem (by have := HML.out; omega)⟩
      obtain ⟨rb, ro, rfl, hzc⟩ : ∃ rb ro, ra = some ⟨rb, ro, none⟩ ∧ wr.cell? ⟨rb, ro + i, none⟩ = some (.int .i64 z) := by
        rcases HR.out with h0 | ⟨rb, ro, rfl, hc⟩
        · rw [h0] at hz; simp at hz
        · exact ⟨rb, ro, rfl, kk (hc i z hz)⟩
      have HTK : Hid ((row.take (i + 1)).foldl (opTwo o) (redW (o : Int)) = opTwo o ((row.take i).foldl (opTwo o) (redW (o : Int))) z) := hidI (by rw [List.take_add_one, hz]; simp)
      have HSd : Hid (wr.drew.cell? ⟨p, 0, none⟩ = some (.int .u8 (o : Int)) ∧ wr.drew.cell? ⟨p, 1, none⟩ = some (.slice (some ⟨lb, lo, none⟩) n cap) ∧ wr.drew.cell? ⟨lb, lo + wk, none⟩ = some (.slice (some ⟨rb, ro, none⟩) m rc) ∧ wr.drew.cell? ⟨rb, ro + i, none⟩ = some (.int .i64 z)) := hidI ⟨d0, d1, d2, hzc⟩
      clear kk hz
      go_wp2
      refine regP (wk := wk) (i := i) (o := o) (acc := acc) (z := z) HSd.out HM.out (by omega) (by omega) (fun _ _ _ _ _ h => h) ?_
      intro W t36 t37 t38 t39 t40 t41 t42 t43 t44 t45 t46 t47 t48 t49 t50 t51 t52 t53 t54 t55 hb9
      have HB9 : Hid (Below w.heap.size w W) := hidI (HB.out.trans (Below.trans (Below.mono (Below.refl _ wr).drew HB.out.size) (hb9.mono HB.out.size)))
      clear hb9 d0 d1 d2 hzc HSd
      go_wp2
      go_roundg g
      case measure => omega
      case rel => exact ⟨i + 1, opTwo o acc z, by omega, rfl, hidI (by rw [HTK.out, ← HA.out]), by go_num, HB9⟩
end Go.Proofs.Ythjpoemgoeckbaa
