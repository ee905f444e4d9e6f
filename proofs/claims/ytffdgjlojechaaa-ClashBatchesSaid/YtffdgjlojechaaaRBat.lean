/-
  The document's Batches.
-/
import Derived.Test.YtffdgjlojechaaaReg6
import Derived.Test.YtffdgjlojechaaaBatM
import Derived.Test.YtffdgjlojechaaaRRegion
namespace Go.Proofs.Ytffdgjlojechaaa
open Go.RowKit Go.Deep Go.MapKept
/-- Rows of acts that lie in rows of one's own. -/
structure RowsO (w : World) (base : Nat) (v : Value) (rows : List (List Deed)) (vs : List Value) : Prop where
  own : w.ownsRow base 22 1 v rows.length vs
  each : ∀ (j : Nat) (r : List Deed) (u : Value), rows[j]? = some r → vs[j]? = some u → w.ownsRow base 39 6 u r.length (flatA r)
theorem RowsO.below {w w' : World} {base B : Nat} {v : Value} {rows : List (List Deed)} {vs : List Value} (h : RowsO w base v rows vs) (hb : Below B w w') (hB : w.heap.size ≤ B) : RowsO w' base v rows vs :=
  ⟨own_below h.own hb hB, fun j r u hr hu => own_below (h.each j r u hr hu) hb hB⟩
theorem RowsO.push {w w' : World} {base : Nat} {v v' : Value} {rows : List (List Deed)} {vs : List Value} {u : Value} {r : List Deed} (h : RowsO w base v rows vs) (hr : w.ownsRow base 39 6 u r.length (flatA r)) (ho : w'.ownsRow base 22 1 v' (rows.length + 1) (vs ++ [u])) (hg : w.grownBy w' v.ownBlock) : RowsO w' base v' (rows ++ [r]) (vs ++ [u]) := by
  have hl : vs.length = rows.length := by simpa using h.own.1
  have keep : ∀ {u : Value} {r : List Deed}, w.ownsRow base 39 6 u r.length (flatA r) → w'.ownsRow base 39 6 u r.length (flatA r) := fun hk => own_grown hk hg fun k hk2 e => own_ne h.own hk (by decide) e hk2
  refine ⟨by simpa using ho, fun j r2 u2 hr2 hu2 => ?_⟩
  by_cases hj : j < rows.length
  · rw [List.getElem?_append_left hj] at hr2
    rw [List.getElem?_append_left (by omega)] at hu2
    exact keep (h.each j r2 u2 hr2 hu2)
  · have hjl := (List.getElem?_eq_some_iff.1 hr2).1
    simp only [List.length_append, List.length_cons, List.length_nil] at hjl
    have hje : j = rows.length := by omega
    rw [hje, List.getElem?_append_right (Nat.le_refl _)] at hr2
    rw [hje, ← hl, List.getElem?_append_right (Nat.le_refl _)] at hu2
    simp at hr2 hu2
    subst hr2 hu2
    exact keep hr
theorem row_seen {W : World} (a : Option Addr) (n c : Nat) : SeesC (W.alloc (.cells #[.slice a n c] 22)) (.slice (some ⟨W.heap.size, 0, none⟩) 1 1) 1 1 [.slice a n c] := by
  refine ⟨rfl, _, 1, rfl, .inr ⟨W.heap.size, 0, rfl, fun j u hu => ?_⟩⟩
  have hj := (List.getElem?_eq_some_iff.1 hu).1
  obtain rfl : j = 0 := by simpa using hj
  obtain rfl : Value.slice a n c = u := by simpa using hu
  go_simp
theorem own_slice {w : World} {base e size n : Nat} {v : Value} {xs : List Value} (h : w.ownsRow base e size v n xs) : ∃ a c, v = .slice a n c := by
  rcases h.2 with ⟨rfl, rfl⟩ | ⟨_, _, _, rfl, _⟩ <;> exact ⟨_, _, rfl⟩
theorem one_own {W : World} {base : Nat} (hb : base ≤ W.heap.size) (x : Deed) : (W.alloc (.cells #[.int .u8 x.k, .string x.s, .int .u8 x.o, .bool x.i, .int .i64 x.e, .int .i64 x.c] 39)).ownsRow base 39 6 (.slice (some ⟨W.heap.size, 0, none⟩) 1 1) [x].length (flatA [x]) := by
  refine ⟨flatA_length [x], .inr ⟨W.heap.size, 1, _, rfl, hb, heap_alloc_new W _, Nat.le_refl _, by unfold maxLen; omega, rfl, ?_⟩⟩
  rw [flatA_one]
  rfl
def RInv (w wx : World) (xs : List Deed) (RES : List (List Deed)) (i : Nat) (v3 v4 : Value) (n3 n4 : Nat) : Prop :=
  ∃ out row vs, RowsO wx w.heap.size v3 out vs ∧ out.length = n3 ∧ wx.ownsRow w.heap.size 39 6 v4 row.length (flatA row) ∧ row.length = n4 ∧ n3 ≤ i ∧ n4 ≤ i ∧ rb out row (xs.drop i) = RES ∧ Below w.heap.size w wx
set_option maxRecDepth 100000 in
set_option maxHeartbeats 2000000 in
theorem rbatches_any (w : World) (v : Value) (xs : List Deed) (hv : SeesA w v xs) (hlen : xs.length ≤ 900) :
    Calls Try.prog 16 #[v] w fun e w' => ∃ v' vs, e = .returned v' ∧ RowsO w' w.heap.size v' (rb [] [] xs) vs ∧ Below w.heap.size w w' := by
  obtain ⟨a, cap, rfl, hL⟩ := hv
  have HL := hidI hL
  obtain ⟨k, hk⟩ : ∃ k, xs.length = k := ⟨_, rfl⟩
  have HK := hidI hk
  rw [hk] at hlen ⊢
  obtain ⟨RES, hRES⟩ : ∃ RES, rb [] [] xs = RES := ⟨_, rfl⟩
  have HRES0 := hidI hRES
  rw [hRES]
  clear hL hk hRES
  go_enter Try.func16, Try.ntmps16
  go_wp2
  go_loopg [3, 4, 5] k (fun g s3 s4 s5 wx => ∃ (i : Nat) (a3 : Option Addr) (n3 c3 : Nat) (a4 : Option Addr) (n4 c4 : Nat), i + g = k ∧ s3 = .slice a3 n3 c3 ∧ s4 = .slice a4 n4 c4 ∧ s5 = .int .i64 i ∧ Hid (RInv w wx xs RES i (.slice a3 n3 c3) (.slice a4 n4 c4) n3 n4))
  case atStart => exact ⟨0, none, 0, 0, none, 0, 0, by omega, rfl, rfl, rfl, hidI ⟨[], [], [], ⟨World.ownsRow_nil _ _ _ _, fun j r u hr => by simp at hr⟩, rfl, World.ownsRow_nil _ _ _ _, rfl, Nat.le_refl _, Nat.le_refl _, by simpa using HRES0.out, Below.refl _ _⟩⟩
  case round =>
    obtain ⟨i, a3, n3, c3, a4, n4, c4, hig, rfl, rfl, rfl, HX⟩ := hrel
    obtain ⟨out, row, vs, hR, hl3, ho4, hl4, hi3, hi4, hres, hbel⟩ := HX.out
    have hbs := hbel.size
    cases gk with
    | zero =>
      obtain rfl : k = i := by omega
      rw [List.drop_eq_nil_of_le (by have := HK.out; omega), rb] at hres
      have k1 : decide ((k : Int) < (k : Int)) = false := by simp
      by_cases h0 : n4 = 0
      · rw [if_pos (by omega)] at hres
        subst h0
        have HRES := hidI hres
        have HR := hidI hR
        have HBl := hidI hbel
        clear hres hR hbel ho4 hl3 hl4
        go_wp2
        go_ret
        exact ⟨_, vs, rfl, by rw [← HRES.out]; exact HR.out, HBl.out⟩
      · rw [if_neg (by omega)] at hres
        have k2 : (0 : Int) < (n4 : Int) := by omega
        obtain ⟨wz1, hwz1⟩ : ∃ wz1, wr.alloc (.cells #[.slice a4 n4 c4] 22) = wz1 := ⟨_, rfl⟩
        have hz1 : Below wr.heap.size wr wz1 := by rw [← hwz1]; (repeat (first | exact Below.refl _ _ | assumption | refine Below.drew ?_ | refine Below.alloc ?_ (by first | omega | (simp; done) | (simp; omega)) _ | refine Below.setCell ?_ (by first | omega | (simp; done) | (simp; omega)) _))
        have hR1 := hR.below hz1 (Nat.le_refl _)
        have ho1 := own_below ho4 hz1 (Nat.le_refl _)
        have HO4 : Hid (wz1.ownsRow w.heap.size 22 1 (.slice a3 n3 c3) n3 vs) := hidI (by have := hR1.own; rwa [hl3] at this)
        have HV4 : Hid (SeesC wz1 (.slice (some ⟨wr.heap.size, 0, none⟩) 1 1) 1 1 [.slice a4 n4 c4]) := hidI (by rw [← hwz1]; exact row_seen _ _ _)
        have hsz1 := hz1.size
        have HR1 := hidI hR1
        have HO1 := hidI ho1
        have HRES := hidI hres
        have HBl := hidI hbel
        have HZ1 := hidI hz1
        have HL3 := hidI hl3
        clear hres hR hbel ho4 hl4 hR1 ho1 hz1 hl3
        go_wp2_with (at_builtin; go_must (refine wpList_append_any Try.underlying32 Try.info22 rfl (by decide) (by decide) rfl _ _ rfl w.heap.size (.slice a3 n3 c3) n3 _ rfl HO4.out _ 1 [.slice a4 n4 c4] rfl HV4.out (by simp [Value.oneCell']) (by omega) (by omega) ?_); intro v9 w9 hown9 hgrow9 hat9; refine Hid.out ?_)
        refine hidI ?_
        have HF : Hid (RowsO w9 w.heap.size v9 RES (vs ++ [.slice a4 n4 c4]) ∧ Below w.heap.size w w9) := hidI (by
          refine ⟨?_, (HBl.out.trans (HZ1.out.mono hbs)).grown hgrow9 (by omega) (fun j hj => (HO4.out.lt j hj).1)⟩
          rw [← HRES.out]
          exact HR1.out.push HO1.out (by rw [HL3.out]; exact hown9) hgrow9)
        clear hown9 hgrow9 hat9
        go_wp2
        go_ret
        exact ⟨v9, _, rfl, HF.out.1, HF.out.2⟩
    | succ g =>
      have k1 : (i : Int) < (k : Int) := by omega
      obtain ⟨x, hx⟩ : ∃ x, xs[i]? = some x := ⟨_, List.getElem?_eq_getElem (by have := HK.out; omega)⟩
      rcases HL.out with hnil | ⟨b, off, rfl, hlie⟩
      · subst hnil; simp at hx
      have hcells := hlie i x hx
      have hdrop : xs.drop i = x :: xs.drop (i + 1) := by
        rw [List.drop_eq_getElem_cons (by have := HK.out; omega)]
        congr 1
        exact Option.some.inj ((List.getElem?_eq_getElem _).symm.trans hx)
      rw [hdrop, rb] at hres
      have KC : Hid (∀ u : World, Below w.heap.size w u → u.cell? ⟨b, off + i * 6, none⟩ = some (.int .u8 x.k) ∧ u.cell? ⟨b, off + i * 6 + 1, none⟩ = some (.string x.s) ∧ u.cell? ⟨b, off + i * 6 + 2, none⟩ = some (.int .u8 x.o) ∧ u.cell? ⟨b, off + i * 6 + 3, none⟩ = some (.bool x.i) ∧ u.cell? ⟨b, off + i * 6 + 4, none⟩ = some (.int .i64 x.e) ∧ u.cell? ⟨b, off + i * 6 + 5, none⟩ = some (.int .i64 x.c)) := hidI fun u hu => by
        obtain ⟨c0, c1, c2, c3, c4, c5⟩ := hcells
        have kk : ∀ {p : Addr} {v : Value}, w.cell? p = some v → u.cell? p = some v := fun {p v} hc => (hu.cell (World.block_lt_of_cell? w _ hc)).trans hc
        exact ⟨kk c0, kk c1, kk c2, kk c3, kk c4, kk c5⟩
      have hrl : row.length ≤ 1000 := by omega
      have HRV := hidI (seesC_of_owns ho4)
      have HR := hidI hR
      have HO4 := hidI ho4
      have HL3 := hidI hl3
      have HL4 := hidI hl4
      have HRES := hidI hres
      have HBl := hidI hbel
      clear hlie hcells hdrop hx hR ho4 hl3 hl4 hres hbel HX
      go_wp2
      refine reg6 (r := row) (x := x) (KC.out _ HBl.out.drew) (by omega) (HRV.out.below (Below.refl _ _).drew (Nat.le_refl _)) hrl (fun _ _ _ _ _ h => h) ?_
      intro w1 v9 t15 t16 t17 t18 t19 t20 t21 t22 t23 hb9 ho9
      have hb1 : Below wr.heap.size wr w1 := (Below.refl _ _).drew.trans hb9
      have HB1 := hidI hb1
      have hs1 := hb1.size
      have ho9' : w1.ownsRow w.heap.size 39 6 v9 (row ++ [x]).length (flatA (row ++ [x])) := by
        have h1 := Joins.ownsRow_le ho9 (show w.heap.size ≤ wr.drew.heap.size from hbs)
        rw [flatA_append, flatA_one, List.length_append]
        exact h1
      obtain ⟨a9, c9, hv9⟩ := own_slice ho9'
      have hl9 : (row ++ [x]).length = n4 + 1 := by rw [List.length_append, HL4.out]; rfl
      rw [hl9] at hv9
      subst hv9
      have HO9 := hidI ho9'
      have C := hidI (rregion_any w1 _ (row ++ [x]) (seesA_of_C (seesC_of_owns ho9')) (by omega))
      clear hb9 ho9 hb1 ho9' HRV
      obtain ⟨c, d, hRr⟩ : ∃ c d, R (row ++ [x]) = (c, d) := ⟨_, _, rfl⟩
      have HRr := hidI hRr
      rw [hRr] at C
      clear hRr
      go_wp2_with (go_at_call 9; refine Calls.mono C.out ?_; rintro e w2 ⟨rfl, hb2⟩; refine Hid.out ?_)
      refine hidI ?_
      have hs2 := hb2.size
      have HB2 := hidI (HB1.out.trans (hb2.mono hs1))
      have HO2 := hidI (own_below HO9.out hb2 (Nat.le_refl _))
      clear hb2 C HB1 HO9
      by_cases hnew : d ≠ 0 ∨ 6 < n4 + 1
      · have HRES2 : Hid (rb (out ++ [row]) [x] (xs.drop (i + 1)) = RES) := hidI (by
          rw [← HRES.out, if_pos]
          rw [HRr.out, hl9]
          exact hnew)
        obtain ⟨wz1, hwz1⟩ : ∃ wz1, w2.alloc (.cells #[.slice a4 n4 c4] 22) = wz1 := ⟨_, rfl⟩
        have hz1 : Below wr.heap.size wr wz1 := by rw [← hwz1]; exact HB2.out.alloc (by omega) _
        have HR1 := hidI (HR.out.below hz1 (Nat.le_refl _))
        have HO1 := hidI (own_below HO4.out hz1 (Nat.le_refl _))
        have HOV : Hid (wz1.ownsRow w.heap.size 22 1 (.slice a3 n3 c3) n3 vs) := hidI (by have := HR1.out.own; rwa [HL3.out] at this)
        have HV4 : Hid (SeesC wz1 (.slice (some ⟨w2.heap.size, 0, none⟩) 1 1) 1 1 [.slice a4 n4 c4]) := hidI (by rw [← hwz1]; exact row_seen _ _ _)
        have hsz1 : wr.heap.size ≤ wz1.heap.size := hz1.size
        have HZ1 := hidI hz1
        clear hz1
        rcases Classical.em (d = 0) with hd | hd
        · subst hd
          have k6 : (6 : Int) < ((n4 + 1 : Nat) : Int) := by omega
          have k6' : (6 : Int) < (n4 : Int) + 1 := by omega
          clear hnew
          go_wp2_with (at_builtin; go_must (refine wpList_append_any Try.underlying32 Try.info22 rfl (by decide) (by decide) rfl _ _ rfl w.heap.size (.slice a3 n3 c3) n3 _ rfl HOV.out _ 1 [.slice a4 n4 c4] rfl HV4.out (by simp [Value.oneCell']) (by omega) (by omega) ?_); intro v8 w8 hown8 hgrow8 hat8; refine Hid.out ?_)
          refine hidI ?_
          have hs8 := hgrow8.size
          have HR8 : Hid (RowsO w8 w.heap.size v8 (out ++ [row]) (vs ++ [.slice a4 n4 c4])) := hidI (HR1.out.push HO1.out (by rw [HL3.out]; exact hown8) hgrow8)
          have HB8 : Hid (Below w.heap.size w w8) := hidI ((HBl.out.trans (HZ1.out.mono hbs)).grown hgrow8 (by omega) (fun j hj => (HOV.out.lt j hj).1))
          obtain ⟨a8, c8, hv8⟩ := own_slice hown8
          subst hv8
          clear hown8 hgrow8 hat8
          obtain ⟨d0, d1, d2, d3, d4, d5⟩ := KC.out _ HB8.out
          have hs8w : w.heap.size ≤ w8.heap.size := HB8.out.size
          have HA8 := hidI (one_own (W := w8) (base := w.heap.size) hs8w x)
          go_wp2
          go_roundg g
          case measure => omega
          case rel =>
            refine ⟨i + 1, _, _, _, _, _, _, by omega, rfl, rfl, by go_num, hidI ?_⟩
            have hA : Below w8.heap.size w8 (w8.alloc (.cells #[.int .u8 x.k, .string x.s, .int .u8 x.o, .bool x.i, .int .i64 x.e, .int .i64 x.c] 39)) := by (repeat (first | exact Below.refl _ _ | assumption | refine Below.drew ?_ | refine Below.alloc ?_ (by first | omega | (simp; done) | (simp; omega)) _ | refine Below.setCell ?_ (by first | omega | (simp; done) | (simp; omega)) _))
            exact ⟨out ++ [row], [x], _, HR8.out.below hA (Nat.le_refl _), by rw [List.length_append, HL3.out]; rfl, HA8.out, rfl, by omega, by omega, HRES2.out, HB8.out.trans (hA.mono hs8w)⟩
        · have kd : (d == 0) = false := by simpa using hd
          have kd' : decide (d = 0) = false := by simpa using hd
          clear hnew
          go_wp2_with (at_builtin; go_must (refine wpList_append_any Try.underlying32 Try.info22 rfl (by decide) (by decide) rfl _ _ rfl w.heap.size (.slice a3 n3 c3) n3 _ rfl HOV.out _ 1 [.slice a4 n4 c4] rfl HV4.out (by simp [Value.oneCell']) (by omega) (by omega) ?_); intro v8 w8 hown8 hgrow8 hat8; refine Hid.out ?_)
          refine hidI ?_
          have hs8 := hgrow8.size
          have HR8 : Hid (RowsO w8 w.heap.size v8 (out ++ [row]) (vs ++ [.slice a4 n4 c4])) := hidI (HR1.out.push HO1.out (by rw [HL3.out]; exact hown8) hgrow8)
          have HB8 : Hid (Below w.heap.size w w8) := hidI ((HBl.out.trans (HZ1.out.mono hbs)).grown hgrow8 (by omega) (fun j hj => (HOV.out.lt j hj).1))
          obtain ⟨a8, c8, hv8⟩ := own_slice hown8
          subst hv8
          clear hown8 hgrow8 hat8
          obtain ⟨d0, d1, d2, d3, d4, d5⟩ := KC.out _ HB8.out
          have hs8w : w.heap.size ≤ w8.heap.size := HB8.out.size
          have HA8 := hidI (one_own (W := w8) (base := w.heap.size) hs8w x)
          go_wp2
          go_roundg g
          case measure => omega
          case rel =>
            refine ⟨i + 1, _, _, _, _, _, _, by omega, rfl, rfl, by go_num, hidI ?_⟩
            have hA : Below w8.heap.size w8 (w8.alloc (.cells #[.int .u8 x.k, .string x.s, .int .u8 x.o, .bool x.i, .int .i64 x.e, .int .i64 x.c] 39)) := by (repeat (first | exact Below.refl _ _ | assumption | refine Below.drew ?_ | refine Below.alloc ?_ (by first | omega | (simp; done) | (simp; omega)) _ | refine Below.setCell ?_ (by first | omega | (simp; done) | (simp; omega)) _))
            exact ⟨out ++ [row], [x], _, HR8.out.below hA (Nat.le_refl _), by rw [List.length_append, HL3.out]; rfl, HA8.out, rfl, by omega, by omega, HRES2.out, HB8.out.trans (hA.mono hs8w)⟩
      · have hd : d = 0 := by omega
        subst hd
        have k6 : decide ((6 : Int) < ((n4 + 1 : Nat) : Int)) = false := by simp; omega
        have k6' : decide ((6 : Int) < (n4 : Int) + 1) = false := by simp; omega
        have HRES2 : Hid (rb out (row ++ [x]) (xs.drop (i + 1)) = RES) := hidI (by
          rw [← HRES.out, if_neg]
          rw [HRr.out, hl9]
          exact hnew)
        clear hnew
        go_wp2
        go_roundg g
        case measure => omega
        case rel =>
          refine ⟨i + 1, _, _, _, _, _, _, by omega, rfl, rfl, by go_num, hidI ?_⟩
          exact ⟨out, row ++ [x], vs, HR.out.below HB2.out (Nat.le_refl _), HL3.out, HO2.out, hl9, by omega, by omega, HRES2.out, HBl.out.trans (HB2.out.mono hbs)⟩
end Go.Proofs.Ytffdgjlojechaaa
