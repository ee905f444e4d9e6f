/-
  Whether acts hang on the order does not hang on their order.
-/
import Derived.Test.YtffdgjlojechaaaFewer
namespace Go.Proofs.Ytffdgjlojechaaa
open Go.RowKit Go.Deep Go.MapKept
theorem own_setC {w : World} {base e size n g cap i : Nat} {xs : List Value} (h : w.ownsRow base e size (.slice (some ⟨g, 0, none⟩) n cap) n xs) (u : Value) : (w.setCell ⟨g, i, none⟩ u).ownsRow base e size (.slice (some ⟨g, 0, none⟩) n cap) n (xs.set i u) := by
  refine ⟨by rw [List.length_set]; exact h.1, ?_⟩
  rcases h.2 with ⟨h0, _⟩ | ⟨g', cap', cur, he, hb, hh, h1, h2, h3, h4⟩
  · cases h0
  · simp only [Value.slice.injEq, Option.some.injEq, Addr.mk.injEq, and_true, true_and] at he
    obtain ⟨rfl, rfl⟩ := he
    refine .inr ⟨g, cap, cur.setIfInBounds i u, rfl, hb, heap_setCell_same _ _ _ _ _ _ hh, h1, h2, by simpa using h3, ?_⟩
    rw [Array.toList_setIfInBounds, List.take_set, h4]
/-- An act stored into a row, cell by cell. -/
def stA (w : World) (G j : Nat) (x : Deed) : World := (((((w.setCell ⟨G, j * 6, none⟩ (.int .u8 x.k)).setCell ⟨G, j * 6 + 1, none⟩ (.string x.s)).setCell ⟨G, j * 6 + 2, none⟩ (.int .u8 x.o)).setCell ⟨G, j * 6 + 3, none⟩ (.bool x.i)).setCell ⟨G, j * 6 + 4, none⟩ (.int .i64 x.e)).setCell ⟨G, j * 6 + 5, none⟩ (.int .i64 x.c)
theorem flatA_set (ys : List Deed) (j : Nat) (x : Deed) : ((((((flatA ys).set (j * 6) (.int .u8 x.k)).set (j * 6 + 1) (.string x.s)).set (j * 6 + 2) (.int .u8 x.o)).set (j * 6 + 3) (.bool x.i)).set (j * 6 + 4) (.int .i64 x.e)).set (j * 6 + 5) (.int .i64 x.c) = flatA (ys.set j x) := by
  have hl := flatA_length ys
  apply List.ext_getElem?
  intro m
  have hl2 := flatA_length (ys.set j x)
  rw [List.length_set] at hl2
  by_cases hm : m < ys.length * 6
  · by_cases hj : m / 6 = j
    · have hjl : j < ys.length := by omega
      have hg := flatA_get (ys.set j x) j (m % 6) x (by rw [List.getElem?_set, if_pos rfl, if_pos hjl]) (by omega)
      rw [show j * 6 + m % 6 = m by omega] at hg
      rw [hg]
      simp only [List.getElem?_set, List.length_set, hl]
      have hc : m % 6 = 0 ∨ m % 6 = 1 ∨ m % 6 = 2 ∨ m % 6 = 3 ∨ m % 6 = 4 ∨ m % 6 = 5 := by omega
      rcases hc with h | h | h | h | h | h <;> rw [h]
      · obtain rfl : m = j * 6 := by omega
        simp [Deed.cells, hm]
      · obtain rfl : m = j * 6 + 1 := by omega
        simp [Deed.cells, hm]
      · obtain rfl : m = j * 6 + 2 := by omega
        simp [Deed.cells, hm]
      · obtain rfl : m = j * 6 + 3 := by omega
        simp [Deed.cells, hm]
      · obtain rfl : m = j * 6 + 4 := by omega
        simp [Deed.cells, hm]
      · obtain rfl : m = j * 6 + 5 := by omega
        simp [Deed.cells, hm]
    · obtain ⟨y, hy⟩ : ∃ y, ys[m / 6]? = some y := ⟨_, List.getElem?_eq_getElem (by omega)⟩
      have hg := flatA_get (ys.set j x) (m / 6) (m % 6) y (by rw [List.getElem?_set, if_neg (fun e => hj e.symm)]; exact hy) (by omega)
      have hg' := flatA_get ys (m / 6) (m % 6) y hy (by omega)
      rw [show m / 6 * 6 + m % 6 = m by omega] at hg hg'
      rw [hg, ← hg']
      rw [List.getElem?_set_ne (by omega), List.getElem?_set_ne (by omega), List.getElem?_set_ne (by omega), List.getElem?_set_ne (by omega), List.getElem?_set_ne (by omega), List.getElem?_set_ne (by omega)]
  · rw [List.getElem?_eq_none (by simp; omega), List.getElem?_eq_none (by omega)]
theorem own_stA {w : World} {base n G cap : Nat} {ys : List Deed} (j : Nat) (x : Deed) (h : w.ownsRow base 39 6 (.slice (some ⟨G, 0, none⟩) n cap) n (flatA ys)) : (stA w G j x).ownsRow base 39 6 (.slice (some ⟨G, 0, none⟩) n cap) n (flatA (ys.set j x)) := by
  rw [← flatA_set]
  exact own_setC (own_setC (own_setC (own_setC (own_setC (own_setC h _) _) _) _) _) _
theorem below_stA {B : Nat} {w u : World} {G : Nat} (j : Nat) (x : Deed) (h : Below B w u) (hG : B ≤ G) : Below B w (stA u G j x) :=
  ((((((h.setCell hG _).setCell hG _).setCell hG _).setCell hG _).setCell hG _).setCell hG _)
theorem apart_iff (l : List Deed) : Apart l ↔ ∀ (i j : Nat) (a b : Deed), i ≠ j → l[i]? = some a → l[j]? = some b → cl a b = false := by
  unfold Apart
  rw [List.pairwise_iff_getElem]
  constructor
  · intro h i j a b hij hi hj
    obtain ⟨h1, rfl⟩ := List.getElem?_eq_some_iff.1 hi
    obtain ⟨h2, rfl⟩ := List.getElem?_eq_some_iff.1 hj
    rcases Nat.lt_or_gt_of_ne hij with hlt | hlt
    · exact h i j h1 h2 hlt
    · rw [cl_symm]; exact h j i h2 h1 hlt
  · intro h i j h1 h2 hlt
    exact h i j _ _ (by omega) (List.getElem?_eq_getElem h1) (List.getElem?_eq_getElem h2)
theorem swap_get {ys : List Deed} {i0 i1 : Nat} {y0 y1 : Deed} (h0 : ys[i0]? = some y0) (h1 : ys[i1]? = some y1) (m : Nat) : ((ys.set i0 y1).set i1 y0)[m]? = ys[if m = i1 then i0 else if m = i0 then i1 else m]? := by
  have l0 := (List.getElem?_eq_some_iff.1 h0).1
  have l1 := (List.getElem?_eq_some_iff.1 h1).1
  rw [List.getElem?_set, List.getElem?_set, List.length_set]
  by_cases e1 : i1 = m
  · subst e1; simp [l1, h0]
  · have e1' : ¬ m = i1 := fun e => e1 e.symm
    by_cases e0 : i0 = m
    · subst e0
      simp only [if_neg e1, if_neg e1', if_true, if_pos l0]
      exact h1.symm
    · have e0' : ¬ m = i0 := fun e => e0 e.symm
      simp only [if_neg e1, if_neg e1', if_neg e0, if_neg e0']
theorem swap_apart {ys : List Deed} {i0 i1 : Nat} {y0 y1 : Deed} (h0 : ys[i0]? = some y0) (h1 : ys[i1]? = some y1) : Apart ((ys.set i0 y1).set i1 y0) ↔ Apart ys := by
  rw [apart_iff, apart_iff]
  constructor
  · intro h i j a b hij hi hj
    have inv : ∀ m, ((ys.set i0 y1).set i1 y0)[if m = i1 then i0 else if m = i0 then i1 else m]? = ys[m]? := by
      intro m
      rw [swap_get h0 h1]
      congr 1
      by_cases e1 : m = i1
      · by_cases e2 : i0 = i1 <;> simp [e1, e2]
      · by_cases e0 : m = i0 <;> simp [e1, e0]
    refine h (if i = i1 then i0 else if i = i0 then i1 else i) (if j = i1 then i0 else if j = i0 then i1 else j) a b ?_ (by rw [inv]; exact hi) (by rw [inv]; exact hj)
    split <;> split <;> (try split) <;> (try split) <;> omega
  · intro h i j a b hij hi hj
    rw [swap_get h0 h1] at hi hj
    refine h _ _ a b ?_ hi hj
    split <;> split <;> (try split) <;> (try split) <;> omega
theorem okA_set {ys : List Deed} {i : Nat} {x : Deed} (h : okA ys) (hx : x.s.size ≤ 140737488355328) : okA (ys.set i x) := fun y hy => by
  rcases List.mem_or_eq_of_mem_set hy with hy | rfl
  · exact h y hy
  · exact hx
set_option maxRecDepth 100000 in
set_option maxHeartbeats 2000000 in
theorem turns_any (w : World) (a : Option Addr) (n cap : Nat) (xs : List Deed) (hv : SeesA w (.slice a n cap) xs) (hcap : n ≤ cap) (hok : okA xs) (x0 x1 : Nat) (hx0 : x0 < 256) (hx1 : x1 < 256) :
    Calls Try.prog 4 #[.slice a n cap, .agg #[.int .u8 (x0 : Int), .int .u8 (x1 : Int)]] w fun e w' => e = .returned (.bool true) ∧ Below w.heap.size w w' := by
  have C7 := hidI (fun u => few_any a n cap u hcap)
  have hv14 := few_sees hv
  have hok14 : okA (xs.take 14) := fun x hx => hok x (List.mem_of_mem_take hx)
  have hl14 : (xs.take 14).length ≤ 14 := by rw [List.length_take]; omega
  have hn14 : (xs.take 14).length = min n 14 := by
    obtain ⟨_, _, he, _⟩ := hv14
    simp only [Value.slice.injEq] at he
    exact he.2.1.symm
  obtain ⟨k, hk⟩ : ∃ k, min n 14 = k := ⟨_, rfl⟩
  obtain ⟨ys, hys⟩ : ∃ ys, xs.take 14 = ys := ⟨_, rfl⟩
  rw [hys] at hv14 hok14 hl14 hn14
  rw [hk] at hv14 C7 hn14
  have HV := hidI hv14
  have HO := hidI hok14
  have HN := hidI hn14
  have hk14 : k ≤ 14 := by omega
  have CL := hidI live_any
  clear hv hcap hok hv14 hok14 hl14 hn14 hk hys
  obtain ⟨W0, hW0⟩ : ∃ W0, w.alloc (.cells #[.int .u8 (x0 : Int), .int .u8 (x1 : Int)] 35) = W0 := ⟨_, rfl⟩
  have hb0 : Below w.heap.size w W0 := by rw [← hW0]; (repeat (first | exact Below.refl _ _ | assumption | refine Below.drew ?_ | refine Below.alloc ?_ (by first | omega | (simp; done) | (simp; omega)) _ | refine Below.setCell ?_ (by first | omega | (simp; done) | (simp; omega)) _))
  by_cases hk0 : k = 0
  · subst hk0
    go_enter Try.func4, Try.ntmps4
    go_wp2_with (first | (go_at_call 7; refine Calls.mono (C7.out _) ?_; rintro e w' ⟨rfl, rfl⟩) | (go_at_call 10; refine Calls.mono (CL.out _) ?_; rintro e w3 ⟨rfl, hb3⟩; have H3 := hidI hb3; clear hb3))
    go_ret
    exact ⟨rfl, hb0.trans (H3.out.mono hb0.size)⟩
  · have kz : ((k : Int) == 0) = false := by simp; omega
    have kz' : decide ((k : Int) = 0) = false := by simp; omega
    have HE : Hid ((W0.alloc (.cells #[] 39)).ownsRow w.heap.size 39 6 (.slice (some ⟨W0.heap.size, 0, none⟩) 0 0) 0 []) := hidI (World.ownsRow_made (base := w.heap.size) (e := 39) (size := 6) W0 #[] 0 hb0.size (by unfold maxLen; omega) rfl)
    have HS : Hid (SeesC (W0.alloc (.cells #[] 39)) (.slice a k cap) k 6 (flatA ys)) := hidI (by have := seesC_of_A (HV.out.below (B := w.heap.size) (w' := W0.alloc (.cells #[] 39)) (hb0.alloc hb0.size _) (Nat.le_refl _)); rwa [HN.out] at this)
    have q0 : (W0.alloc (.cells #[] 39)).cell? ⟨w.heap.size, 0, none⟩ = some (.int .u8 (x0 : Int)) := by subst hW0; go_simp
    have q1 : (W0.alloc (.cells #[] 39)).cell? ⟨w.heap.size, 1, none⟩ = some (.int .u8 (x1 : Int)) := by subst hW0; go_simp
    have q2 : w.heap.size < W0.heap.size := by subst hW0; simp
    have Q0 := hidI q0
    have Q1 := hidI q1
    clear q0 q1
    go_enter Try.func4, Try.ntmps4
    go_wp2_with (first | (go_at_call 7; refine Calls.mono (C7.out _) ?_; rintro e w' ⟨rfl, rfl⟩) | (at_builtin; go_must (refine wpList_append_any Try.underlying22 Try.info39 rfl (by decide) (by decide) rfl _ _ rfl w.heap.size (.slice (some ⟨W0.heap.size, 0, none⟩) 0 0) 0 [] rfl HE.out _ k (flatA ys) rfl HS.out flatA_cells (by omega) (by have := hb0.size; simp; omega) ?_); intro v5 w1 hown1 hgrow1 hat1; refine Hid.out ?_))
    refine hidI ?_
    rw [Nat.zero_add, List.nil_append] at hown1
    have hb1 : Below w.heap.size w w1 := (hb0.alloc hb0.size _).grown hgrow1 (by have := hb0.size; simp; omega) (fun j hj => (HE.out.lt j hj).1)
    obtain ⟨G, c5, rfl⟩ : ∃ G c5, v5 = .slice (some ⟨G, 0, none⟩) k c5 := by
      rcases hown1.2 with ⟨_, h0⟩ | ⟨g1, cap1, _, h1, _⟩
      · omega
      · exact ⟨_, _, h1⟩
    have g0 : w1.cell? ⟨w.heap.size, 0, none⟩ = some (.int .u8 (x0 : Int)) := hgrow1.cell Q0.out (by simp [Value.ownBlock]; omega)
    have g1 : w1.cell? ⟨w.heap.size, 1, none⟩ = some (.int .u8 (x1 : Int)) := hgrow1.cell Q1.out (by simp [Value.ownBlock]; omega)
    have HO1 := hidI hown1
    have HB1 := hidI hb1
    have kn : ¬ (k : Int) = 0 := by omega
    have kw0 : IntKind.i64.wrap (x0 : Int) = (x0 : Int) := by simp [IntKind.wrap, IntKind.bits, IntKind.signed]; omega
    have kw1 : IntKind.i64.wrap (x1 : Int) = (x1 : Int) := by simp [IntKind.wrap, IntKind.bits, IntKind.signed]; omega
    clear hown1 hgrow1 hat1 HE HS C7 hb1 hW0 hb0
    obtain ⟨i0, he0, hi0⟩ : ∃ i0 : Nat, (x0 : Int) % (k : Int) = (i0 : Int) ∧ i0 < k := ⟨x0 % k, by simp, Nat.mod_lt _ (by omega)⟩
    obtain ⟨i1, he1, hi1⟩ : ∃ i1 : Nat, (x1 : Int) % (k : Int) = (i1 : Int) ∧ i1 < k := ⟨x1 % k, by simp, Nat.mod_lt _ (by omega)⟩
    have hj0 : (i0 : Int) < (k : Int) := by omega
    have hj1 : (i1 : Int) < (k : Int) := by omega
    obtain ⟨y0, hy0⟩ : ∃ y, ys[i0]? = some y := ⟨_, List.getElem?_eq_getElem (by have := HN.out; omega)⟩
    obtain ⟨y1, hy1⟩ : ∃ y, ys[i1]? = some y := ⟨_, List.getElem?_eq_getElem (by have := HN.out; omega)⟩
    have hcell : ∀ (j : Nat) (y : Deed), ys[j]? = some y → w1.cell? ⟨G, j * 6, none⟩ = some (.int .u8 y.k) ∧ w1.cell? ⟨G, j * 6 + 1, none⟩ = some (.string y.s) ∧ w1.cell? ⟨G, j * 6 + 2, none⟩ = some (.int .u8 y.o) ∧ w1.cell? ⟨G, j * 6 + 3, none⟩ = some (.bool y.i) ∧ w1.cell? ⟨G, j * 6 + 4, none⟩ = some (.int .i64 y.e) ∧ w1.cell? ⟨G, j * 6 + 5, none⟩ = some (.int .i64 y.c) := fun j y hy => by
      have hc := fun m (hm : m < 6) => World.ownsRow.cells HO1.out rfl (j * 6 + m) _ ((flatA_get ys j m y hy hm).trans (List.getElem?_eq_getElem (by simpa [Deed.cells] using hm)))
      have h0 := hc 0 (by omega); have h1 := hc 1 (by omega); have h2 := hc 2 (by omega); have h3 := hc 3 (by omega); have h4 := hc 4 (by omega); have h5 := hc 5 (by omega)
      simp only [Addr.add_lit, Nat.zero_add, Nat.add_zero, Deed.cells] at h0 h1 h2 h3 h4 h5
      exact ⟨h0, h1, h2, h3, h4, h5⟩
    have hfree : ∀ j, w1.frozen? ⟨G, j, none⟩ = false := own_free HO1.out
    obtain ⟨a0, a1, a2, a3, a4, a5⟩ := hcell i0 y0 hy0
    obtain ⟨b0, b1, b2, b3, b4, b5⟩ := hcell i1 y1 hy1
    clear hcell
    have hG := (HO1.out.lt G rfl).1
    have HY0 := hidI hy0
    by_cases h01 : i0 = i1
    · subst h01
      obtain rfl : y0 = y1 := Option.some.inj (hy0.symm.trans hy1)
      have HY1 := hidI hy0
      go_wp2
      go_region
      clear g0 g1
      go_wp2
      go_region
      change Exit.then _ _ Exit.normal _ (stA (stA w1 G i0 y0) G i0 y0).drew.drew
      have hzs : Hid ((stA (stA w1 G i0 y0) G i0 y0).drew.drew.ownsRow w.heap.size 39 6 (.slice (some ⟨G, 0, none⟩) k c5) k (flatA ((ys.set i0 y0).set i0 y0))) := hidI (own_below (own_stA i0 y0 (own_stA i0 y0 HO1.out)) (B := (stA (stA w1 G i0 y0) G i0 y0).heap.size) (Below.refl _ _).drew.drew (Nat.le_refl _))
      have hzb : Hid (Below w.heap.size w (stA (stA w1 G i0 y0) G i0 y0).drew.drew) := hidI (below_stA i0 y0 (below_stA i0 y0 HB1.out hG) hG).drew.drew
      generalize (stA (stA w1 G i0 y0) G i0 y0).drew.drew = wz at *
      obtain ⟨zs, hzse⟩ : ∃ zs, (ys.set i0 y0).set i0 y0 = zs := ⟨_, rfl⟩
      have HAP : Hid (Apart zs ↔ Apart ys) := hidI (by rw [← hzse]; exact swap_apart HY0.out HY1.out)
      have HOZ : Hid (okA zs) := hidI (by rw [← hzse]; exact okA_set (okA_set HO.out (HO.out _ (List.mem_of_getElem? HY1.out))) (HO.out _ (List.mem_of_getElem? HY0.out)))
      have HLZ : Hid (zs.length = k) := hidI (by rw [← hzse, List.length_set, List.length_set]; exact HN.out)
      rw [hzse] at hzs
      clear hzse
      have C1 := hidI (region_R wz _ ys (HV.out.below hzb.out (Nat.le_refl _)) HO.out (by have := HN.out; omega))
      have C2 : Hid (∀ u : World, Below wz.heap.size wz u → Calls Try.prog 8 #[.slice (some ⟨G, 0, none⟩) k c5] u fun e w' => e = .returned (.tuple #[.int .i64 (R zs).1, .int .i64 (R zs).2]) ∧ Below u.heap.size u w') := hidI fun u hu => region_R u _ zs (seesA_of_C (seesC_of_owns (by rw [HLZ.out]; exact own_below hzs.out hu (Nat.le_refl _)))) HOZ.out (by have := HLZ.out; omega)
      obtain ⟨c, d, c', h1, h2⟩ : ∃ c d c', R ys = (c, d) ∧ R zs = (c', d) := by
        by_cases hA : Apart ys
        · exact ⟨0, 0, 0, R_ok hA, R_ok (HAP.out.2 hA)⟩
        · refine ⟨(R ys).1, 10, (R zs).1, ?_, ?_⟩
          · rw [← R_bad hA]
          · rw [← R_bad (fun h => hA (HAP.out.1 h))]
      rw [h1] at C1
      rw [h2] at C2
      clear h1 h2
      go_wp2_with (go_at_call 8; refine Calls.mono C1.out ?_; rintro e w3 ⟨rfl, hb3⟩; refine Hid.out ?_)
      refine hidI ?_
      have H3 := hidI hb3
      clear hb3
      go_wp2_with (go_at_call 8; refine Calls.mono (C2.out _ H3.out) ?_; rintro e w4 ⟨rfl, hb4⟩; refine Hid.out ?_)
      refine hidI ?_
      have H4 := hidI (H3.out.trans (hb4.mono H3.out.size))
      clear hb4
      go_wp2_with (go_at_call 10; refine Calls.mono (CL.out _) ?_; rintro e w5 ⟨rfl, hb5⟩; refine Hid.out ?_)
      refine hidI ?_
      have H5 := hidI (H4.out.trans (hb5.mono H4.out.size))
      clear hb5
      go_wp2
      go_ret
      exact ⟨rfl, hzb.out.trans (H5.out.mono hzb.out.size)⟩
    · have HY1 := hidI hy1
      have n00 : (i1 * 6 = i0 * 6) = False := by simp; omega
      have m00 : (i0 * 6 = i1 * 6) = False := by simp; omega
      have n01 : (i1 * 6 = i0 * 6 + 1) = False := by simp; omega
      have m01 : (i0 * 6 + 1 = i1 * 6) = False := by simp; omega
      have n02 : (i1 * 6 = i0 * 6 + 2) = False := by simp; omega
      have m02 : (i0 * 6 + 2 = i1 * 6) = False := by simp; omega
      have n03 : (i1 * 6 = i0 * 6 + 3) = False := by simp; omega
      have m03 : (i0 * 6 + 3 = i1 * 6) = False := by simp; omega
      have n04 : (i1 * 6 = i0 * 6 + 4) = False := by simp; omega
      have m04 : (i0 * 6 + 4 = i1 * 6) = False := by simp; omega
      have n05 : (i1 * 6 = i0 * 6 + 5) = False := by simp; omega
      have m05 : (i0 * 6 + 5 = i1 * 6) = False := by simp; omega
      have n10 : (i1 * 6 + 1 = i0 * 6) = False := by simp; omega
      have m10 : (i0 * 6 = i1 * 6 + 1) = False := by simp; omega
      have n11 : (i1 * 6 + 1 = i0 * 6 + 1) = False := by simp; omega
      have m11 : (i0 * 6 + 1 = i1 * 6 + 1) = False := by simp; omega
      have n12 : (i1 * 6 + 1 = i0 * 6 + 2) = False := by simp; omega
      have m12 : (i0 * 6 + 2 = i1 * 6 + 1) = False := by simp; omega
      have n13 : (i1 * 6 + 1 = i0 * 6 + 3) = False := by simp; omega
      have m13 : (i0 * 6 + 3 = i1 * 6 + 1) = False := by simp; omega
      have n14 : (i1 * 6 + 1 = i0 * 6 + 4) = False := by simp; omega
      have m14 : (i0 * 6 + 4 = i1 * 6 + 1) = False := by simp; omega
      have n15 : (i1 * 6 + 1 = i0 * 6 + 5) = False := by simp; omega
      have m15 : (i0 * 6 + 5 = i1 * 6 + 1) = False := by simp; omega
      have n20 : (i1 * 6 + 2 = i0 * 6) = False := by simp; omega
      have m20 : (i0 * 6 = i1 * 6 + 2) = False := by simp; omega
      have n21 : (i1 * 6 + 2 = i0 * 6 + 1) = False := by simp; omega
      have m21 : (i0 * 6 + 1 = i1 * 6 + 2) = False := by simp; omega
      have n22 : (i1 * 6 + 2 = i0 * 6 + 2) = False := by simp; omega
      have m22 : (i0 * 6 + 2 = i1 * 6 + 2) = False := by simp; omega
      have n23 : (i1 * 6 + 2 = i0 * 6 + 3) = False := by simp; omega
      have m23 : (i0 * 6 + 3 = i1 * 6 + 2) = False := by simp; omega
      have n24 : (i1 * 6 + 2 = i0 * 6 + 4) = False := by simp; omega
      have m24 : (i0 * 6 + 4 = i1 * 6 + 2) = False := by simp; omega
      have n25 : (i1 * 6 + 2 = i0 * 6 + 5) = False := by simp; omega
      have m25 : (i0 * 6 + 5 = i1 * 6 + 2) = False := by simp; omega
      have n30 : (i1 * 6 + 3 = i0 * 6) = False := by simp; omega
      have m30 : (i0 * 6 = i1 * 6 + 3) = False := by simp; omega
      have n31 : (i1 * 6 + 3 = i0 * 6 + 1) = False := by simp; omega
      have m31 : (i0 * 6 + 1 = i1 * 6 + 3) = False := by simp; omega
      have n32 : (i1 * 6 + 3 = i0 * 6 + 2) = False := by simp; omega
      have m32 : (i0 * 6 + 2 = i1 * 6 + 3) = False := by simp; omega
      have n33 : (i1 * 6 + 3 = i0 * 6 + 3) = False := by simp; omega
      have m33 : (i0 * 6 + 3 = i1 * 6 + 3) = False := by simp; omega
      have n34 : (i1 * 6 + 3 = i0 * 6 + 4) = False := by simp; omega
      have m34 : (i0 * 6 + 4 = i1 * 6 + 3) = False := by simp; omega
      have n35 : (i1 * 6 + 3 = i0 * 6 + 5) = False := by simp; omega
      have m35 : (i0 * 6 + 5 = i1 * 6 + 3) = False := by simp; omega
      have n40 : (i1 * 6 + 4 = i0 * 6) = False := by simp; omega
      have m40 : (i0 * 6 = i1 * 6 + 4) = False := by simp; omega
      have n41 : (i1 * 6 + 4 = i0 * 6 + 1) = False := by simp; omega
      have m41 : (i0 * 6 + 1 = i1 * 6 + 4) = False := by simp; omega
      have n42 : (i1 * 6 + 4 = i0 * 6 + 2) = False := by simp; omega
      have m42 : (i0 * 6 + 2 = i1 * 6 + 4) = False := by simp; omega
      have n43 : (i1 * 6 + 4 = i0 * 6 + 3) = False := by simp; omega
      have m43 : (i0 * 6 + 3 = i1 * 6 + 4) = False := by simp; omega
      have n44 : (i1 * 6 + 4 = i0 * 6 + 4) = False := by simp; omega
      have m44 : (i0 * 6 + 4 = i1 * 6 + 4) = False := by simp; omega
      have n45 : (i1 * 6 + 4 = i0 * 6 + 5) = False := by simp; omega
      have m45 : (i0 * 6 + 5 = i1 * 6 + 4) = False := by simp; omega
      have n50 : (i1 * 6 + 5 = i0 * 6) = False := by simp; omega
      have m50 : (i0 * 6 = i1 * 6 + 5) = False := by simp; omega
      have n51 : (i1 * 6 + 5 = i0 * 6 + 1) = False := by simp; omega
      have m51 : (i0 * 6 + 1 = i1 * 6 + 5) = False := by simp; omega
      have n52 : (i1 * 6 + 5 = i0 * 6 + 2) = False := by simp; omega
      have m52 : (i0 * 6 + 2 = i1 * 6 + 5) = False := by simp; omega
      have n53 : (i1 * 6 + 5 = i0 * 6 + 3) = False := by simp; omega
      have m53 : (i0 * 6 + 3 = i1 * 6 + 5) = False := by simp; omega
      have n54 : (i1 * 6 + 5 = i0 * 6 + 4) = False := by simp; omega
      have m54 : (i0 * 6 + 4 = i1 * 6 + 5) = False := by simp; omega
      have n55 : (i1 * 6 + 5 = i0 * 6 + 5) = False := by simp; omega
      have m55 : (i0 * 6 + 5 = i1 * 6 + 5) = False := by simp; omega
      go_wp2
      go_region
      clear g0 g1
      go_wp2
      go_region
      change Exit.then _ _ Exit.normal _ (stA (stA w1 G i0 y1) G i1 y0).drew.drew
      have hzs : Hid ((stA (stA w1 G i0 y1) G i1 y0).drew.drew.ownsRow w.heap.size 39 6 (.slice (some ⟨G, 0, none⟩) k c5) k (flatA ((ys.set i0 y1).set i1 y0))) := hidI (own_below (own_stA i1 y0 (own_stA i0 y1 HO1.out)) (B := (stA (stA w1 G i0 y1) G i1 y0).heap.size) (Below.refl _ _).drew.drew (Nat.le_refl _))
      have hzb : Hid (Below w.heap.size w (stA (stA w1 G i0 y1) G i1 y0).drew.drew) := hidI (below_stA i1 y0 (below_stA i0 y1 HB1.out hG) hG).drew.drew
      generalize (stA (stA w1 G i0 y1) G i1 y0).drew.drew = wz at *
      obtain ⟨zs, hzse⟩ : ∃ zs, (ys.set i0 y1).set i1 y0 = zs := ⟨_, rfl⟩
      have HAP : Hid (Apart zs ↔ Apart ys) := hidI (by rw [← hzse]; exact swap_apart HY0.out HY1.out)
      have HOZ : Hid (okA zs) := hidI (by rw [← hzse]; exact okA_set (okA_set HO.out (HO.out _ (List.mem_of_getElem? HY1.out))) (HO.out _ (List.mem_of_getElem? HY0.out)))
      have HLZ : Hid (zs.length = k) := hidI (by rw [← hzse, List.length_set, List.length_set]; exact HN.out)
      rw [hzse] at hzs
      clear hzse
      have C1 := hidI (region_R wz _ ys (HV.out.below hzb.out (Nat.le_refl _)) HO.out (by have := HN.out; omega))
      have C2 : Hid (∀ u : World, Below wz.heap.size wz u → Calls Try.prog 8 #[.slice (some ⟨G, 0, none⟩) k c5] u fun e w' => e = .returned (.tuple #[.int .i64 (R zs).1, .int .i64 (R zs).2]) ∧ Below u.heap.size u w') := hidI fun u hu => region_R u _ zs (seesA_of_C (seesC_of_owns (by rw [HLZ.out]; exact own_below hzs.out hu (Nat.le_refl _)))) HOZ.out (by have := HLZ.out; omega)
      obtain ⟨c, d, c', h1, h2⟩ : ∃ c d c', R ys = (c, d) ∧ R zs = (c', d) := by
        by_cases hA : Apart ys
        · exact ⟨0, 0, 0, R_ok hA, R_ok (HAP.out.2 hA)⟩
        · refine ⟨(R ys).1, 10, (R zs).1, ?_, ?_⟩
          · rw [← R_bad hA]
          · rw [← R_bad (fun h => hA (HAP.out.1 h))]
      rw [h1] at C1
      rw [h2] at C2
      clear h1 h2
      go_wp2_with (go_at_call 8; refine Calls.mono C1.out ?_; rintro e w3 ⟨rfl, hb3⟩; refine Hid.out ?_)
      refine hidI ?_
      have H3 := hidI hb3
      clear hb3
      go_wp2_with (go_at_call 8; refine Calls.mono (C2.out _ H3.out) ?_; rintro e w4 ⟨rfl, hb4⟩; refine Hid.out ?_)
      refine hidI ?_
      have H4 := hidI (H3.out.trans (hb4.mono H3.out.size))
      clear hb4
      go_wp2_with (go_at_call 10; refine Calls.mono (CL.out _) ?_; rintro e w5 ⟨rfl, hb5⟩; refine Hid.out ?_)
      refine hidI ?_
      have H5 := hidI (H4.out.trans (hb5.mono H4.out.size))
      clear hb5
      go_wp2
      go_ret
      exact ⟨rfl, hzb.out.trans (H5.out.mono hzb.out.size)⟩
end Go.Proofs.Ytffdgjlojechaaa
