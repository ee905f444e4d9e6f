/-
  ColumnLast, walked.
-/
import Derived.Test.YtbjoljokdjgbnabLastM0M
namespace Go.Proofs.Ytbjoljokdjgbnab
open Go.RowKit Go.Deep Go.MapKept
theorem whole_sets {w : World} {b0 tb mb rb : Nat} {cs : List Column} {os : List One} (hW0 : Whole w tb mb 3 2 cs) (hB : Book w (NB tb mb cs) rb 3 2 os) (hL : Lows b0 tb mb rb cs) {s : ByteArray} {d : Int} (hs : s.size ≤ maxLen) (hd : Wf8 d) (i x : Int) (hx : setE cs s d i x = 0) :
    Calls Try.prog 22 #[.pointer (some ⟨tb, 0, none⟩), ke s d, .int .i64 i, .int .i64 x] w fun e w' => e = .returned (.int .i64 0) ∧ Whole w' tb mb 3 2 (setC cs s d i x) ∧ Book w' (NB tb mb (setC cs s d i x)) rb 3 2 os ∧ Below b0 w w' ∧ Lows b0 tb mb rb (setC cs s d i x) := by
  refine (whole_put hW0 hs hd i x).mono ?_
  rintro e w' ⟨rfl, _, p2⟩
  obtain ⟨c, hc, _, _, hg, hW⟩ := p2 hx
  have hcr : NB tb mb cs c.row := .inr (.inr ⟨c, hc, rfl⟩)
  have hrows : (setC cs s d i x).map Column.row = cs.map Column.row := rows_map cs s d fun vs => vs.set i.toNat x
  have hrb := hB.rb
  refine ⟨by rw [hx], hW, hB.grown hg (fun b hb => by cases hb; exact hcr) (fun k hk => hW.lt hk) (fun k hk => .inl (NB_rows hrows hk)), ⟨hg.os, hg.tape, hg.output, hg.size, fun k hk => hg.block k (by have := hL.2.2.1; omega) fun e => ?_⟩, hL.1, hL.2.1, hL.2.2.1, fun c' hc' => ?_⟩
  · cases e; have := hL.2.2.2 c hc; omega
  · have : c'.row ∈ cs.map Column.row := by rw [← hrows]; exact List.mem_map.2 ⟨c', hc', rfl⟩
    obtain ⟨c2, hc2, he⟩ := List.mem_map.1 this
    rw [← he]; exact hL.2.2.2 c2 hc2
set_option maxRecDepth 100000 in
set_option maxHeartbeats 1000000 in
theorem last_walk {w : World} (v : Value) (xs : List Deed) (hv : SeesD w v xs) (hok : ∀ x ∈ xs, x.ok w.heap.size w) (s : ByteArray) (d : Int) (hs : s.size ≤ maxLen) (hd : Wf8 d) (x0 x1 : Int) (_ : (Lit.int .i64 x0).wf = true) (_ : (Lit.int .i64 x1).wf = true) :
    Calls Try.prog 6 #[v, ke s d, .agg #[.int .i64 x0, .int .i64 x1]] w fun e w' => e = .returned (.bool true) ∧ Below w.heap.size w w' := by
  have hbW : Below w.heap.size w ((w.alloc (.cells #[.string s, .int .u8 d] 40)).alloc (.cells #[.int .i64 x0, .int .i64 x1] 52)) := (by (repeat (first | exact Below.refl _ _ | assumption | refine Below.drew ?_ | refine Below.alloc ?_ (by first | omega | (simp; done) | (simp; omega)) _ | refine Below.setCell ?_ (by first | omega | (simp; done) | (simp; omega)) _)))
  have CP := hidI (play_any ((w.alloc (.cells #[.string s, .int .u8 d] 40)).alloc (.cells #[.int .i64 x0, .int .i64 x1] 52)) v xs (hv.below hbW) fun x hx => (hok x hx).more hbW)
  have CV := hidI liveC_any
  have HBW := hidI hbW
  clear hv hok hbW
  go_enter Try.func6, Try.ntmps6
  go_wp2_with (go_at_call 16; refine Calls.mono CP.out ?_; rintro e w1 ⟨tb, mb, rb, cs, os, rfl, hB1, hb1⟩; refine Hid.out ?_)
  refine hidI ?_
  have z1 : ∀ {p : Addr} {v : Value}, ((w.alloc (.cells #[.string s, .int .u8 d] 40)).alloc (.cells #[.int .i64 x0, .int .i64 x1] 52)).cell? p = some v → w1.cell? p = some v := fun {p v} hc => (hb1.cell (World.block_lt_of_cell? _ _ hc)).trans hc
  have g0 : w1.cell? ⟨w.heap.size, 0, none⟩ = some (.string s) := z1 (by go_simp)
  have g1 : w1.cell? ⟨w.heap.size, 1, none⟩ = some (.int .u8 d) := z1 (by go_simp)
  have g2 : w1.cell? ⟨w.heap.size + 1, 0, none⟩ = some (.int .i64 x0) := z1 (by go_simp)
  have g3 : w1.cell? ⟨w.heap.size + 1, 1, none⟩ = some (.int .i64 x1) := z1 (by go_simp)
  have HB1 := hidI hB1
  have HW1 : Hid (Below w.heap.size w w1) := hidI (HBW.out.trans (hb1.mono HBW.out.size))
  clear z1 hB1 hb1 CP
  go_wp2_with (go_at_call 17; refine Calls.mono (CV.out _) ?_; rintro e w2 ⟨rfl, hb2⟩; refine Hid.out ?_)
  refine hidI ?_
  have HB2 := hidI (HB1.out.below hb2 (Nat.le_refl _))
  have HW2 : Hid (Below w.heap.size w w2) := hidI (HW1.out.trans (hb2.mono HW1.out.size))
  have z2 : ∀ {p : Addr} {v : Value}, w1.cell? p = some v → w2.cell? p = some v := fun {p v} hc => (hb2.cell (World.block_lt_of_cell? w1 _ hc)).trans hc
  have f0 := z2 g0
  have f1 := z2 g1
  have f2 := z2 g2
  have f3 := z2 g3
  clear z2 hb2 HB1 HW1 CV g0 g1 g2 g3
  obtain ⟨iv, hiv⟩ : ∃ iv, bits BinOp.and IntKind.i64 x0 3 = iv := ⟨_, rfl⟩
  have hsz : w.heap.size + 2 ≤ w2.heap.size := by
    have := World.block_lt_of_cell? w2 ⟨w.heap.size + 1, 0, none⟩ f2
    simp only at this; omega
  have hWs : ((w.alloc (.cells #[.string s, .int .u8 d] 40)).alloc (.cells #[.int .i64 x0, .int .i64 x1] 52)).heap.size = w.heap.size + 2 := by simp
  rw [hWs] at HB2
  obtain ⟨c, hc⟩ : ∃ c, setE cs s d iv x1 = c := ⟨_, rfl⟩
  by_cases hc0 : c = 0
  · subst hc0
    have HC := hidI hc
    have CT := hidI (whole_sets HB2.out.1 HB2.out.2.1 HB2.out.2.2.2 hs hd iv x1 HC.out)
    clear hc
    go_wp2_with (go_at_call 22; refine Calls.mono CT.out ?_; rintro e w3 ⟨rfl, hW3, hK3, hb3, hL3⟩; refine Hid.out ?_)
    refine hidI ?_
    have HWh3 := hidI hW3
    have HKk3 := hidI hK3
    have HLl3 := hidI hL3
    have HW3 : Hid (Below w.heap.size w w3) := hidI (HW2.out.trans (hb3.mono (by omega)))
    have HB23 := hidI hb3
    have z3 : ∀ {p : Addr} {v : Value}, p.block < w.heap.size + 2 → w2.cell? p = some v → w3.cell? p = some v := fun {p v} hp hc => (hb3.cell hp).trans hc
    have e0 := z3 (by simp only; omega) f0
    have e1 := z3 (by simp only; omega) f1
    have e2 := z3 (by simp only; omega) f2
    have e3 := z3 (by simp only; omega) f3
    clear z3 hW3 hK3 hL3 hb3 f0 f1 f2 f3 CT
    have CG := hidI (whole_get HWh3.out hs hd iv)
    rw [get_set HC.out] at CG
    go_wp2_with (go_at_call 23; refine Calls.mono CG.out ?_; rintro e w4 ⟨rfl, hb4⟩; refine Hid.out ?_)
    refine hidI ?_
    have HWh4 := hidI (HWh3.out.below hb4 (Nat.le_refl _))
    have HKk4 := hidI (HKk3.out.below hb4 (Nat.le_refl _))
    have HW4 : Hid (Below w.heap.size w w4) := hidI (HW3.out.trans (hb4.mono HW3.out.size))
    have z4 : ∀ {p : Addr} {v : Value}, w3.cell? p = some v → w4.cell? p = some v := fun {p v} hc => (hb4.cell (World.block_lt_of_cell? w3 _ hc)).trans hc
    have d0 := z4 e0
    have d1 := z4 e1
    have d3 := z4 e3
    clear z4 hb4 e0 e1 e2 e3 CG HWh3 HKk3 HW3
    have hap := HB2.out.1.2.2.2.2.2.1
    have h24 := HB2.out.2.2.1.few HB2.out.1
    obtain ⟨hb1, hb2, hb3⟩ := set_back HB2.out.1 HC.out
    obtain ⟨was, hwas⟩ : ∃ was, (getE cs s d iv).1 = was := ⟨_, rfl⟩
    rw [hwas] at hb2 hb3
    have CH : Hid (Calls Try.prog 24 #[.pointer (some ⟨rb, 0, none⟩), ke s d, .int .i64 iv] w4 fun e u => e = .returned (.tuple #[.int .i64 was, .int .i64 0]) ∧ Below w4.heap.size w4 u) := hidI (by
      have := rget_any rb 3 2 os s d iv w4 HKk4.out.of (by omega)
      rwa [HB2.out.2.2.1.get hap, hwas, hb1] at this)
    have HBK := hidI (And.intro hb2 hb3)
    clear hb1 hb2 hb3 hwas hap
    go_wp2_with (go_at_call 24; refine Calls.mono CH.out ?_; rintro e w5 ⟨rfl, hb5⟩; refine Hid.out ?_)
    refine hidI ?_
    have HWh5 := hidI (HWh4.out.below hb5 (Nat.le_refl _))
    have HKk5 := hidI (HKk4.out.below hb5 (Nat.le_refl _))
    have HW5 : Hid (Below w.heap.size w w5) := hidI (HW4.out.trans (hb5.mono HW4.out.size))
    have z5 : ∀ {p : Addr} {v : Value}, w4.cell? p = some v → w5.cell? p = some v := fun {p v} hc => (hb5.cell (World.block_lt_of_cell? w4 _ hc)).trans hc
    have e0 := z5 d0
    have e1 := z5 d1
    have e3 := z5 d3
    clear z5 hb5 d0 d1 d3 CH HWh4 HKk4 HW4
    have CT2 := hidI (whole_sets HWh5.out HKk5.out HLl3.out hs hd iv was HBK.out.1)
    have k1 : (x1 == x1) = true := by simp
    go_wp2_with (go_at_call 22; refine Calls.mono CT2.out ?_; rintro e w6 ⟨rfl, hW6, hK6, hb6, hL6⟩; refine Hid.out ?_)
    refine hidI ?_
    rw [HBK.out.2] at hW6 hK6 hL6
    have HB6 : Hid (Both w6 (w.heap.size + 2) tb mb rb cs os) := hidI ⟨hW6, hK6, HB2.out.2.2.1, hL6⟩
    have HW6 : Hid (Below w.heap.size w w6) := hidI (HW5.out.trans (hb6.mono (by omega)))
    have z6 : ∀ {p : Addr} {v : Value}, p.block < w.heap.size + 2 → w5.cell? p = some v → w6.cell? p = some v := fun {p v} hp hc => (hb6.cell hp).trans hc
    have d0 := z6 (by simp only; omega) e0
    have d1 := z6 (by simp only; omega) e1
    clear z6 hW6 hK6 hL6 hb6 e0 e1 e3 CT2
    have CS := hidI (same_any HB6.out s d hs hd)
    go_wp2_with (go_at_call 18; refine Calls.mono CS.out ?_; rintro e w7 ⟨rfl, hb7⟩; refine Hid.out ?_)
    refine hidI ?_
    have HW7 : Hid (Below w.heap.size w w7) := hidI (HW6.out.trans (hb7.mono HW6.out.size))
    clear hb7 CS
    go_wp2
    go_ret
    exact ⟨rfl, HW7.out⟩
  · have CT : Hid (Calls Try.prog 22 #[.pointer (some ⟨tb, 0, none⟩), ke s d, .int .i64 iv, .int .i64 x1] w2 fun e w' => e = .returned (.int .i64 c) ∧ Below w2.heap.size w2 w') := hidI ((whole_put HB2.out.1 hs hd iv x1).mono (by
      rintro e w' ⟨rfl, p1, _⟩
      rw [hc]
      exact ⟨rfl, p1 (by rw [hc]; exact hc0)⟩))
    have k1 : (c == 0) = false := by simpa using hc0
    clear hc hc0
    go_wp2_with (go_at_call 22; refine Calls.mono CT.out ?_; rintro e w3 ⟨rfl, hb3⟩; refine Hid.out ?_)
    refine hidI ?_
    have HB3 := hidI (HB2.out.below hb3 (Nat.le_refl _))
    have HW3 : Hid (Below w.heap.size w w3) := hidI (HW2.out.trans (hb3.mono HW2.out.size))
    have e0 := (hb3.cell (World.block_lt_of_cell? w2 _ f0)).trans f0
    have e1 := (hb3.cell (World.block_lt_of_cell? w2 _ f1)).trans f1
    clear hb3 CT f0 f1 f2 f3
    have CS := hidI (same_any HB3.out s d hs hd)
    go_wp2_with (go_at_call 18; refine Calls.mono CS.out ?_; rintro e w4 ⟨rfl, hb4⟩; refine Hid.out ?_)
    refine hidI ?_
    have HW4 : Hid (Below w.heap.size w w4) := hidI (HW3.out.trans (hb4.mono HW3.out.size))
    clear hb4 CS
    go_wp2
    go_ret
    exact ⟨rfl, HW4.out⟩
end Go.Proofs.Ytbjoljokdjgbnab
