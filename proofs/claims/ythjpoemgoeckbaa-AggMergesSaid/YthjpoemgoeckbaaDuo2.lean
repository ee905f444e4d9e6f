/-
  The laws' same, play, live.
-/
import Derived.Test.YthjpoemgoeckbaaDuo
import Derived.Test.YthjpoemgoeckbaaOpenA
namespace Go.Proofs.Ythjpoemgoeckbaa
open Go.RowKit Go.Deep Go.MapKept
set_option maxRecDepth 100000 in
set_option maxHeartbeats 1000000 in
theorem same_any {w : World} {N : Nat → Prop} {p q o n L : Nat} {rows : List (List Int)} (h : Duo w N p q o n rows L) (hL : L ≤ 5000) (k : Nat) (hk : k < 18446744073709551616) :
    Calls Try.prog 10 #[.pointer (some ⟨p, 0, none⟩), .pointer (some ⟨q, 0, none⟩), .int .u64 (k : Int)] w fun e w' => e = .returned (.bool true) ∧ Below w.heap.size w w' := by
  have HD : Hid (∀ W, Below w.heap.size w W → Duo W N p q o n rows L) := hidI fun W hW => h.below hW
  have HRow : Hid (∀ r ∈ rows, r.length ≤ 10000) := hidI fun r hr => by have := row_few hr; have := h.few; omega
  have HN := hidI h.len
  clear h
  go_enter Try.func10, Try.ntmps10
  go_wp2
  go_loopg [7] 6 (fun g s7 wx => ∃ i : Nat, i + g = 6 ∧ s7 = .int .i64 ((i : Int) - 1) ∧ Hid (Below w.heap.size w wx))
  case atStart => exact ⟨0, by omega, rfl, hidI (Below.refl _ _)⟩
  case round =>
    obtain ⟨i, hig, rfl, HB⟩ := hrel
    have hDx := HD.out wr HB.out
    obtain ⟨ps, hP, hPs⟩ := hDx.pg
    cases gk with
    | zero =>
      obtain rfl : i = 6 := by omega
      have hwh := hPs.whole k
      have C1 := hidI (pwhole_any hP hDx.m5 HN.out.2 k hk)
      rw [hwh] at C1
      have HW := hidI hDx
      obtain ⟨T, hT⟩ : ∃ T, wholeR o rows k = T := ⟨_, rfl⟩
      rw [hT] at C1
      have HT := hidI hT
      have HP := hidI hP
      clear hT hwh hP hPs hDx
      go_wp2_with (go_at_call 16; refine Calls.mono C1.out ?_; rintro e w2 ⟨rfl, hb2⟩; refine Hid.out ?_)
      refine hidI ?_
      have HB2 := hidI (HB.out.trans (hb2.mono HB.out.size))
      clear hb2 C1
      have hD2 := HD.out w2 HB2.out
      have C2 := hidI (rwhole_any hD2.rg k hk hD2.m5 (by have := HN.out; omega) HRow.out)
      rw [HT.out] at C2
      clear hD2
      go_wp2_with (go_at_call 25; refine Calls.mono C2.out ?_; rintro e w3 ⟨rfl, hb3⟩; refine Hid.out ?_)
      refine hidI ?_
      have HB3 := hidI (HB2.out.trans (hb3.mono HB2.out.size))
      clear hb3 C2
      have hD3 := HD.out w3 HB3.out
      obtain ⟨ps3, hP3, _⟩ := hD3.pg
      have C3 := hidI (pcount_any hP3)
      have C4 := hidI (rcount_any hD3.rg (by have := HN.out; omega) HRow.out)
      clear hP3 hD3
      have kT : (T == T) = true := by simp
      obtain ⟨ct, hct⟩ : ∃ ct : Int, ((countR rows : Nat) : Int) = ct := ⟨_, rfl⟩
      rw [hct] at C3 C4
      have kC : (ct == ct) = true := by simp
      clear hct
      go_wp2_with (first | (go_at_call 18; refine Calls.mono C3.out ?_; rintro e w' ⟨rfl, rfl⟩) | (go_at_call 26; refine Calls.mono C4.out ?_; rintro e w' ⟨rfl, rfl⟩))
      go_ret
      exact ⟨rfl, HB3.out⟩
    | succ g =>
      have hi6 : i < 6 := by omega
      obtain ⟨kk, hkk⟩ : ∃ kk : Int, (i : Int) - 1 = kk := ⟨_, rfl⟩
      have hk4 : kk ≤ 4 := by omega
      have hkm : -1 ≤ kk := by omega
      have key : ∃ X E, (Calls Try.prog 17 #[.pointer (some ⟨p, 0, none⟩), .int .i64 kk] wr fun e w' => e = .returned (.tuple #[.int .i64 X, .int .i64 E]) ∧ wr = w') ∧ (Calls Try.prog 24 #[.pointer (some ⟨q, 0, none⟩), .int .i64 kk] wr fun e w' => e = .returned (.tuple #[.int .i64 X, .int .i64 E]) ∧ Below wr.heap.size wr w') := by
        by_cases hr : 0 ≤ kk ∧ kk < (n : Int)
        · obtain ⟨wk, rfl⟩ : ∃ wk : Nat, kk = (wk : Int) := ⟨kk.toNat, by omega⟩
          have hwk : wk < n := by omega
          obtain ⟨row, hrow, hpr⟩ := hPs.get hwk
          exact ⟨_, 0, ppart_any hP wk _ hwk hpr, rpart_any hDx.rg wk row hrow hDx.m5 (HRow.out row (List.mem_of_getElem? hrow))⟩
        · have hm : mayE n kk = 2 := if_neg hr
          refine ⟨0, 2, ppart_bad hP kk hm, (rpart_bad hDx.rg kk (by rw [HN.out.1]; exact hm)).mono ?_⟩
          rintro e w' ⟨rfl, rfl⟩
          exact ⟨rfl, Below.refl _ _⟩
      obtain ⟨X, E, hA, hR⟩ := key
      have C1 := hidI hA
      have C2 := hidI hR
      have HKK := hidI hkk
      rw [hkk]
      clear hA hR hP hPs hDx hkk
      have kX : (X == X) = true := by simp
      have kE : (E == E) = true := by simp
      have kX' : (X != X) = false := by simp
      have kE' : (E != E) = false := by simp
      go_wp2_with (first | (go_at_call 17; refine Calls.mono C1.out ?_; rintro e w' ⟨rfl, rfl⟩) | (go_at_call 24; refine Calls.mono C2.out ?_; rintro e w2 ⟨rfl, hb2⟩; refine Hid.out ?_))
      refine hidI ?_
      have HB2 := hidI (HB.out.trans (hb2.mono HB.out.size))
      clear hb2 C1 C2
      go_wp2
      go_roundg g
      case measure => omega
      case rel => exact ⟨i + 1, by omega, by rw [← HKK.out]; go_num, HB2⟩
set_option maxRecDepth 100000 in
set_option maxHeartbeats 1000000 in
theorem same_nil (w : World) (k : Nat) : Calls Try.prog 10 #[.pointer none, .pointer none, .int .u64 (k : Int)] w fun e w' => e = .returned (.bool true) ∧ w = w' := by
  have C1 := hidI (fun kk => ppart_nil kk w)
  have C2 := hidI (fun kk => rpart_nil kk w)
  have C3 := hidI (pwhole_nil k w)
  have C4 := hidI (rwhole_nil (k : Int) w)
  have C5 := hidI (pcount_nil w)
  have C6 := hidI (rcount_nil w)
  go_enter Try.func10, Try.ntmps10
  go_wp2
  go_loopg [7] 6 (fun g s7 wx => ∃ i : Nat, i + g = 6 ∧ s7 = .int .i64 ((i : Int) - 1) ∧ w = wx)
  case atStart => exact ⟨0, by omega, rfl, rfl⟩
  case round =>
    obtain ⟨i, hig, rfl, rfl⟩ := hrel
    cases gk with
    | zero =>
      obtain rfl : i = 6 := by omega
      go_wp2_with (first | (go_at_call 16; refine Calls.mono C3.out ?_; rintro e w' ⟨rfl, rfl⟩) | (go_at_call 25; refine Calls.mono C4.out ?_; rintro e w' ⟨rfl, rfl⟩) | (go_at_call 18; refine Calls.mono C5.out ?_; rintro e w' ⟨rfl, rfl⟩) | (go_at_call 26; refine Calls.mono C6.out ?_; rintro e w' ⟨rfl, rfl⟩))
      go_ret
      exact ⟨rfl, rfl⟩
    | succ g =>
      obtain ⟨kk, hkk⟩ : ∃ kk : Int, (i : Int) - 1 = kk := ⟨_, rfl⟩
      have hk4 : kk ≤ 4 := by omega
      have hkm : -1 ≤ kk := by omega
      have HKK := hidI hkk
      rw [hkk]
      clear hkk
      go_wp2_with (first | (go_at_call 17; refine Calls.mono (C1.out _) ?_; rintro e w' ⟨rfl, rfl⟩) | (go_at_call 24; refine Calls.mono (C2.out _) ?_; rintro e w' ⟨rfl, rfl⟩))
      go_roundg g
      case measure => omega
      case rel => exact ⟨i + 1, by omega, by rw [← HKK.out]; go_num, rfl⟩
set_option maxRecDepth 100000 in
set_option maxHeartbeats 1000000 in
theorem do_nil (w : World) (x : Msg) : Calls Try.prog 21 #[.pointer none, .pointer none, x.value] w fun e w' => e = .returned (.bool true) ∧ Below w.heap.size w w' := by
  obtain ⟨xk, xw, xz⟩ := x
  unfold Msg.value
  simp only
  have HB : Hid (Below w.heap.size w (w.alloc (.cells #[.int .i64 xk, .int .i64 xw, .int .i64 xz] 54))) := hidI ((Below.refl _ w).alloc (Nat.le_refl _) _)
  by_cases h0 : xk = 0
  · subst h0
    have HDc : Hid ((w.alloc (.cells #[.int .i64 0, .int .i64 xw, .int .i64 xz] 54)).drew.cell? ⟨w.heap.size, 1, none⟩ = some (.int .i64 xw) ∧ (w.alloc (.cells #[.int .i64 0, .int .i64 xw, .int .i64 xz] 54)).drew.cell? ⟨w.heap.size, 2, none⟩ = some (.int .i64 xz)) := hidI ⟨by go_simp, by go_simp⟩
    have k0 : ((0 : Int) == 0) = true := by simp
    go_enter Try.func21, Try.ntmps21
    go_wp2
    refine regDo (bd := w.heap.size) (k := xw) (z := xz) (E := 1) (P1 := fun W => W = (w.alloc (.cells #[.int .i64 0, .int .i64 xw, .int .i64 xz] 54)).drew) (P2 := fun W => W = (w.alloc (.cells #[.int .i64 0, .int .i64 xw, .int .i64 xz] 54)).drew) HDc.out ?_ ?_ ?_ ?_ (fun _ _ _ _ _ h => h) ?_
    · refine (ptake_nil xw xz _).mono ?_
      rintro e w' ⟨rfl, rfl⟩
      exact ⟨rfl, rfl⟩
    · rintro W rfl
      exact HDc.out
    · rintro W rfl
      refine (rtake_nil xw xz _).mono ?_
      rintro e w' ⟨rfl, rfl⟩
      exact ⟨rfl, rfl⟩
    · rintro W rfl
      exact HDc.out
    intro W t11 t12 t13 t14 t15 t16 t17 t18 t19 t20 t21 t22 t23 hp2
    have HP : Hid (Below w.heap.size w W) := hidI (by rw [hp2]; exact HB.out.drew)
    clear hp2
    go_wp2
    go_ret
    exact ⟨rfl, HP.out⟩
  · have k0 : (xk == 0) = false := by simpa using h0
    by_cases h1 : xk = 1
    · subst h1
      have k1 : ((1 : Int) == 0) = false := by decide
      go_enter Try.func21, Try.ntmps21
      go_wp2_with (first | (go_at_call 22; refine Calls.mono (pclear_nil _) ?_; rintro e w' ⟨rfl, rfl⟩) | (go_at_call 34; refine Calls.mono (rclear_nil _) ?_; rintro e w' ⟨rfl, rfl⟩))
      go_ret
      exact ⟨rfl, HB.out⟩
    · have k1 : (xk == 1) = false := by simpa using h1
      go_enter Try.func21, Try.ntmps21
      go_wp2
      go_ret
      exact ⟨rfl, HB.out⟩
theorem SeesM.cell {w : World} {v : Value} {xs : List Msg} (h : SeesM w v xs) {j : Nat} {x : Msg} (hx : xs[j]? = some x) : ∃ b off cap, v = .slice (some ⟨b, off, none⟩) xs.length cap ∧ w.cell? ⟨b, off + j * 3, none⟩ = some (.int .i64 x.to) ∧ w.cell? ⟨b, off + j * 3 + 1, none⟩ = some (.int .i64 x.tag) ∧ w.cell? ⟨b, off + j * 3 + 2, none⟩ = some (.int .i64 x.val) := by
  obtain ⟨a, cap, rfl, _, h⟩ := h
  rcases h with rfl | ⟨b, off, rfl, h⟩
  · simp at hx
  · exact ⟨b, off, cap, rfl, h j x hx⟩
def PlPost (w : World) (o n : Nat) (e : Ending) (w' : World) : Prop := ∃ p q rows, e = .returned (.tuple #[.pointer (some ⟨p, 0, none⟩), .pointer (some ⟨q, 0, none⟩), .bool true]) ∧ w.heap.size ≤ p ∧ w.heap.size ≤ q ∧ Below w.heap.size w w' ∧ Duo w' (fun k => k < w.heap.size ∨ k = p ∨ k = q) p q o n rows 50
set_option maxRecDepth 100000 in
set_option maxHeartbeats 1000000 in
theorem play_any (w : World) (o n : Nat) (v : Value) (xs : List Msg) (ho : many5 o) (h1 : 1 ≤ n) (h4 : n ≤ 4) (hv : SeesM w v xs) (hi : ∀ x ∈ xs, x.inr) :
    Calls Try.prog 8 #[.int .u8 (o : Int), .int .i64 (n : Int), v] w (PlPost w o n) := by
  obtain ⟨a, cap, rfl, hcap, hL⟩ := hv
  have HV : Hid (SeesM w (.slice a xs.length cap) xs) := hidI ⟨a, cap, rfl, hcap, hL⟩
  have HIn := hidI hi
  clear hL hcap hi
  obtain ⟨m, hm⟩ : ∃ m, xs.length = m := ⟨_, rfl⟩
  have HM := hidI hm
  rw [hm] at HV ⊢
  clear hm
  have C1 := hidI (pnew_any o n w ho h1 h4)
  go_enter Try.func8, Try.ntmps8
  go_wp2_with (go_at_call 13; refine Calls.mono C1.out ?_; rintro e w1 ⟨p, rfl, hp1, hA1, hb1⟩; refine Hid.out ?_)
  refine hidI ?_
  have HB1 := hidI hb1
  have HA1 := hidI hA1
  have hpl := hA1.lt
  clear C1 hb1 hA1
  have C2 := hidI (rnew_any o n w1 (redB_of ho) h1 h4)
  go_wp2_with (go_at_call 23; refine Calls.mono C2.out ?_; rintro e w2 ⟨q, rfl, hq1, hb2, hR2⟩; refine Hid.out ?_)
  refine hidI ?_
  have hsz1 := HB1.out.size
  have HB2 := hidI (HB1.out.trans (hb2.mono hsz1))
  have HD2 : Hid (Duo w2 (fun k => k < w.heap.size ∨ k = p ∨ k = q) p q o n (List.replicate n []) 0) := hidI ⟨⟨_, by rw [count_nil]; exact HA1.out.below hb2 (Nat.le_refl _), parts_clear rfl h4⟩, hR2 _ (fun k hk => by rcases hk with hk | rfl | rfl; exact .inl (by omega); exact .inl hpl; exact .inr rfl) (.inr (.inr rfl)), ho, h1, .inr (.inl rfl), by omega, fun r hr z hz => by rw [List.eq_of_mem_replicate hr] at hz; simp at hz, by rw [count_nil]; exact Nat.le_refl _⟩
  have hqw : w.heap.size ≤ q := by omega
  clear C2 hb2 hR2 HA1
  obtain ⟨K, hK⟩ : ∃ K, min m 50 = K := ⟨_, rfl⟩
  go_wp2
  go_loopg [11] K (fun g s11 wx => ∃ (i : Nat) (rows : List (List Int)), i + g = K ∧ s11 = .int .i64 (i : Int) ∧ Hid (Duo wx (fun k => k < w.heap.size ∨ k = p ∨ k = q) p q o n rows i) ∧ Hid (Below w.heap.size w wx))
  case atStart => exact ⟨0, _, by omega, rfl, HD2, HB2⟩
  case round =>
    obtain ⟨i, rows, hig, rfl, HD, HB⟩ := hrel
    have hszr := HB.out.size
    cases gk with
    | zero =>
      have hiK : i = min m 50 := by omega
      have HP : Hid (PlPost w o n (.returned (.tuple #[.pointer (some ⟨p, 0, none⟩), .pointer (some ⟨q, 0, none⟩), .bool true])) wr) := hidI ⟨p, q, rows, rfl, hp1, hqw, HB.out, HD.out.more (by omega)⟩
      by_cases hi : i < m
      · have i50 : i = 50 := by omega
        have j1 : (i : Int) < (m : Int) := by omega
        have j2 : decide ((i : Int) < 50) = false := by rw [decide_eq_false_iff_not]; omega
        have H50 := hidI i50
        clear hiK hK i50
        go_wp2
        go_ret3
        exact HP.out
      · have j1 : decide ((i : Int) < (m : Int)) = false := by rw [decide_eq_false_iff_not]; omega
        have j1' : decide (i < m) = false := by rw [decide_eq_false_iff_not]; omega
        clear hiK hK
        go_wp2
        go_ret3
        exact HP.out
    | succ g =>
      have j1 : (i : Int) < (m : Int) := by omega
      have j2 : (i : Int) < 50 := by omega
      obtain ⟨x, hx⟩ : ∃ x, xs[i]? = some x := ⟨_, List.getElem?_eq_getElem (by have := HM.out; omega)⟩
      obtain ⟨b1, o1, c1, e1, x0, x1, x2⟩ := HV.out.cell hx
      rw [HM.out] at e1
      cases e1
      have kk : ∀ {p : Addr} {v : Value}, w.cell? p = some v → wr.cell? p = some v := fun {p v} hc => (HB.out.cell (World.block_lt_of_cell? w _ hc)).trans hc
      replace x0 := kk x0
      replace x1 := kk x1
      replace x2 := kk x2
      have CD := hidI (do_any HD.out (by omega) x (HIn.out x (List.mem_of_getElem? hx)).2.2)
      unfold Msg.value at CD
      clear kk hx hK
      go_wp2_with (go_at_call 21; refine Calls.mono CD.out ?_; rintro e w3 ⟨rfl, hd3, hc3⟩; refine Hid.out ?_)
      refine hidI ?_
      have HD3 := hidI hd3
      have HB3 : Hid (Below w.heap.size w w3) := hidI (HB.out.trans (hc3.toBelow (fun k hk => by rcases hk with rfl | rfl; exact hp1; exact hqw) hszr))
      clear hd3 hc3 CD x0 x1 x2
      go_wp2
      go_roundg g
      case measure => omega
      case rel => exact ⟨i + 1, _, by omega, by go_num, HD3, HB3⟩
set_option maxRecDepth 100000 in
set_option maxHeartbeats 1000000 in
theorem play_nil (w : World) (o : Nat) (n : Int) (v : Value) (xs : List Msg) (hbad : redB (o : Int) = false ∨ n < 1 ∨ 4 < n) (hv : SeesM w v xs) :
    Calls Try.prog 8 #[.int .u8 (o : Int), .int .i64 n, v] w fun e w' => e = .returned (.tuple #[.pointer none, .pointer none, .bool true]) ∧ Below w.heap.size w w' := by
  obtain ⟨a, cap, rfl, hcap, hL⟩ := hv
  have HV : Hid (SeesM w (.slice a xs.length cap) xs) := hidI ⟨a, cap, rfl, hcap, hL⟩
  clear hL hcap
  obtain ⟨m, hm⟩ : ∃ m, xs.length = m := ⟨_, rfl⟩
  have HM := hidI hm
  rw [hm] at HV ⊢
  clear hm
  have C1 := hidI (pnew_bad o n w hbad)
  have C2 := hidI (rnew_bad (o : Int) n w hbad)
  clear hbad
  obtain ⟨K, hK⟩ : ∃ K, min m 50 = K := ⟨_, rfl⟩
  go_enter Try.func8, Try.ntmps8
  go_wp2_with (first | (go_at_call 13; refine Calls.mono C1.out ?_; rintro e w1 ⟨rfl, rfl⟩) | (go_at_call 23; refine Calls.mono C2.out ?_; rintro e w1 ⟨rfl, rfl⟩))
  go_loopg [11] K (fun g s11 wx => ∃ (i : Nat), i + g = K ∧ s11 = .int .i64 (i : Int) ∧ Hid (Below w.heap.size w wx))
  case atStart => exact ⟨0, by omega, rfl, hidI (Below.refl _ _)⟩
  case round =>
    obtain ⟨i, hig, rfl, HB⟩ := hrel
    have hszr := HB.out.size
    cases gk with
    | zero =>
      have hiK : i = min m 50 := by omega
      by_cases hi : i < m
      · have i50 : i = 50 := by omega
        have j1 : (i : Int) < (m : Int) := by omega
        have j2 : decide ((i : Int) < 50) = false := by rw [decide_eq_false_iff_not]; omega
        have H50 := hidI i50
        clear hiK hK i50
        go_wp2
        go_ret3
        exact ⟨rfl, HB.out⟩
      · have j1 : decide ((i : Int) < (m : Int)) = false := by rw [decide_eq_false_iff_not]; omega
        have j1' : decide (i < m) = false := by rw [decide_eq_false_iff_not]; omega
        clear hiK hK
        go_wp2
        go_ret3
        exact ⟨rfl, HB.out⟩
    | succ g =>
      have j1 : (i : Int) < (m : Int) := by omega
      have j2 : (i : Int) < 50 := by omega
      obtain ⟨x, hx⟩ : ∃ x, xs[i]? = some x := ⟨_, List.getElem?_eq_getElem (by have := HM.out; omega)⟩
      obtain ⟨b1, o1, c1, e1, x0, x1, x2⟩ := HV.out.cell hx
      rw [HM.out] at e1
      cases e1
      have kk : ∀ {p : Addr} {v : Value}, w.cell? p = some v → wr.cell? p = some v := fun {p v} hc => (HB.out.cell (World.block_lt_of_cell? w _ hc)).trans hc
      replace x0 := kk x0
      replace x1 := kk x1
      replace x2 := kk x2
      have CD := hidI (do_nil wr x)
      unfold Msg.value at CD
      clear kk hx hK
      go_wp2_with (go_at_call 21; refine Calls.mono CD.out ?_; rintro e w3 ⟨rfl, hb3⟩; refine Hid.out ?_)
      refine hidI ?_
      have HB3 := hidI (HB.out.trans (hb3.mono hszr))
      clear hb3 CD x0 x1 x2
      go_wp2
      go_roundg g
      case measure => omega
      case rel => exact ⟨i + 1, by omega, by go_num, HB3⟩
theorem live_whole : wholeP 1 2 [3, 4, 0, 0] 1 = 7 := by decide +kernel
set_option maxRecDepth 100000 in
set_option maxHeartbeats 1000000 in
theorem live_any (w : World) : Calls Try.prog 9 #[] w fun e w' => e = .returned (.bool true) ∧ Below w.heap.size w w' := by
  have C1 := hidI (pnew_any 1 2 w (.inl rfl) (by omega) (by omega))
  go_enter Try.func9, Try.ntmps9
  go_wp2_with (go_at_call 13; refine Calls.mono C1.out ?_; rintro e w1 ⟨p, rfl, hp1, hA1, hb1⟩; refine Hid.out ?_)
  refine hidI ?_
  have HB1 := hidI hb1
  have hA1' : PAg w1 p 1 2 0 [0, 0, 0, 0] := hA1
  have C2 := ptake_any hA1' (.inl rfl) 0 0 3 (by omega) rfl (by omega) (by omega)
  have e1 : ([0, 0, 0, 0] : List Int).set 0 (opTwo 1 0 3) = [3, 0, 0, 0] := by decide +kernel
  have e2 : (0 : Int) + 1 = 1 := rfl
  rw [e1, e2] at C2
  have C2' : Hid (Calls Try.prog 15 #[.pointer (some ⟨p, 0, none⟩), .int .i64 0, .int .i64 3] w1 (TkPost w1 p 1 2 1 [3, 0, 0, 0])) := hidI C2
  clear C1 hb1 hA1 hA1' C2 e1 e2
  go_wp2_with (go_at_call 15; refine Calls.mono C2'.out ?_; rintro e w2 ⟨rfl, ha2, hg2⟩; refine Hid.out ?_)
  refine hidI ?_
  have HB2 := hidI (grown_below HB1.out hg2 hp1)
  have C3 := ptake_any ha2 (.inl rfl) 1 0 4 (by omega) rfl (by omega) (by omega)
  have e3 : ([3, 0, 0, 0] : List Int).set 1 (opTwo 1 0 4) = [3, 4, 0, 0] := by decide +kernel
  have e4 : (1 : Int) + 1 = 2 := rfl
  rw [e3, e4] at C3
  have C3' : Hid (Calls Try.prog 15 #[.pointer (some ⟨p, 0, none⟩), .int .i64 1, .int .i64 4] w2 (TkPost w2 p 1 2 2 [3, 4, 0, 0])) := hidI C3
  clear C2' ha2 hg2 C3 e3 e4
  go_wp2_with (go_at_call 15; refine Calls.mono C3'.out ?_; rintro e w3 ⟨rfl, ha3, hg3⟩; refine Hid.out ?_)
  refine hidI ?_
  have HB3 := hidI (grown_below HB2.out hg3 hp1)
  have HA3 := hidI ha3
  have C4 := pwhole_any ha3 (.inl rfl) (by omega) 1 (by omega)
  rw [live_whole] at C4
  have C4' : Hid (Calls Try.prog 16 #[.pointer (some ⟨p, 0, none⟩), .int .u64 1] w3 fun e w' => e = .returned (.tuple #[.int .i64 7, .int .i64 0]) ∧ Below w3.heap.size w3 w') := hidI C4
  clear C3' ha3 hg3 C4
  go_wp2_with (go_at_call 16; refine Calls.mono C4'.out ?_; rintro e w4 ⟨rfl, hb4⟩; refine Hid.out ?_)
  refine hidI ?_
  have HB4 := hidI (HB3.out.trans (hb4.mono HB3.out.size))
  have HA4 := hidI (HA3.out.below hb4 (Nat.le_refl _))
  have C5 : Hid (Calls Try.prog 17 #[.pointer (some ⟨p, 0, none⟩), .int .i64 1] w4 fun e w' => e = .returned (.tuple #[.int .i64 4, .int .i64 0]) ∧ w4 = w') := hidI (ppart_any HA4.out 1 4 (by omega) rfl)
  have C6 := hidI (pcount_any HA4.out)
  clear C4' hb4
  go_wp2_with (first | (go_at_call 17; refine Calls.mono C5.out ?_; rintro e w' ⟨rfl, rfl⟩) | (go_at_call 18; refine Calls.mono C6.out ?_; rintro e w' ⟨rfl, rfl⟩))
  go_ret
  exact ⟨rfl, HB4.out⟩
end Go.Proofs.Ythjpoemgoeckbaa
