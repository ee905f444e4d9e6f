/-
  The laws of AggPlays, AggNone, AggForks.
-/
import Derived.Test.YthjpoemgoeckbaaDuo2
import Derived.Test.YthjpoemgoeckbaaRFork
namespace Go.Proofs.Ythjpoemgoeckbaa
open Go.RowKit Go.Deep Go.MapKept
theorem wrap_len (m : Nat) : IntKind.u64.wrap (m : Int) = ((m % 18446744073709551616 : Nat) : Int) := by rw [IntKind.wrap_u64]; omega
theorem good_or (o : Nat) (n : Int) : (redB (o : Int) = false ∨ n < 1 ∨ 4 < n) ∨ (many5 o ∧ 1 ≤ n ∧ n ≤ 4) := by
  cases h : redB (o : Int) with
  | false => exact .inl (.inl rfl)
  | true =>
    by_cases h1 : n < 1
    · exact .inl (.inr (.inl h1))
    · by_cases h2 : 4 < n
      · exact .inl (.inr (.inr h2))
      · exact .inr ⟨redB_many h, by omega, by omega⟩
set_option maxRecDepth 100000 in
set_option maxHeartbeats 1000000 in
theorem aggPlays_law (w : World) (o : Nat) (n : Int) (v : Value) (xs : List Msg) (hv : SeesM w v xs) (hi : ∀ x ∈ xs, x.inr) :
    Calls Try.prog 3 #[.int .u8 (o : Int), .int .i64 n, v] w fun e w' => e = .returned (.bool true) ∧ Below w.heap.size w w' := by
  have HV := hidI hv
  obtain ⟨a, cap, rfl, _, _⟩ := hv
  obtain ⟨m, hm⟩ : ∃ m, xs.length = m := ⟨_, rfl⟩
  have hcv := wrap_len m
  obtain ⟨k, hk⟩ : ∃ k, m % 18446744073709551616 = k := ⟨_, rfl⟩
  have hkb : k < 18446744073709551616 := by omega
  rw [hk] at hcv
  rcases good_or o n with hbad | ⟨ho, h1, h4⟩
  · have C1 := hidI (play_nil w o n _ xs hbad HV.out)
    rw [hm] at C1 ⊢
    clear hm hk hbad
    go_enter Try.func3, Try.ntmps3
    go_wp2_with (go_at_call 8; refine Calls.mono C1.out ?_; rintro e w1 ⟨rfl, hb1⟩; refine Hid.out ?_)
    refine hidI ?_
    have HB1 := hidI hb1
    clear hb1 C1
    have C2 := hidI (live_any w1)
    go_wp2_with (go_at_call 9; refine Calls.mono C2.out ?_; rintro e w2 ⟨rfl, hb2⟩; refine Hid.out ?_)
    refine hidI ?_
    have HB2 := hidI (HB1.out.trans (hb2.mono HB1.out.size))
    clear hb2 C2
    have C3 := hidI (same_nil w2 k)
    go_wp2_with (go_at_call 10; refine Calls.mono C3.out ?_; rintro e w3 ⟨rfl, rfl⟩)
    go_ret
    exact ⟨rfl, HB2.out⟩
  · obtain ⟨n, rfl⟩ : ∃ n' : Nat, n = (n' : Int) := ⟨n.toNat, by omega⟩
    have C1 := hidI (play_any w o n _ xs ho (by omega) (by omega) HV.out hi)
    rw [hm] at C1 ⊢
    clear hm hk hi
    go_enter Try.func3, Try.ntmps3
    go_wp2_with (go_at_call 8; refine Calls.mono C1.out ?_; rintro e w1 ⟨p, q, rows, rfl, hp, hq, hb1, hd1⟩; refine Hid.out ?_)
    refine hidI ?_
    have HB1 := hidI hb1
    have HD1 := hidI hd1
    clear hb1 C1 hd1
    have C2 := hidI (live_any w1)
    go_wp2_with (go_at_call 9; refine Calls.mono C2.out ?_; rintro e w2 ⟨rfl, hb2⟩; refine Hid.out ?_)
    refine hidI ?_
    have HB2 := hidI (HB1.out.trans (hb2.mono HB1.out.size))
    have HD2 := hidI (HD1.out.below hb2)
    clear hb2 C2
    have C3 := hidI (same_any HD2.out (by omega) k hkb)
    go_wp2_with (go_at_call 10; refine Calls.mono C3.out ?_; rintro e w3 ⟨rfl, hb3⟩; refine Hid.out ?_)
    refine hidI ?_
    have HB3 := hidI (HB2.out.trans (hb3.mono HB2.out.size))
    clear hb3 C3
    go_wp2
    go_ret
    exact ⟨rfl, HB3.out⟩
set_option maxRecDepth 100000 in
set_option maxHeartbeats 1000000 in
theorem aggNone_law (w : World) (x : Msg) (o : Nat) (n : Int) :
    Calls Try.prog 7 #[x.value, .int .u8 (o : Int), .int .i64 n] w fun e w' => e = .returned (.bool true) ∧ Below w.heap.size w w' := by
  obtain ⟨xk, xw, xz⟩ := x
  unfold Msg.value
  simp only
  have HB0 : Hid (Below w.heap.size w (w.alloc (.cells #[.int .i64 xk, .int .i64 xw, .int .i64 xz] 54))) := hidI ((Below.refl _ w).alloc (Nat.le_refl _) _)
  have d1 : (w.alloc (.cells #[.int .i64 xk, .int .i64 xw, .int .i64 xz] 54)).cell? ⟨w.heap.size, 1, none⟩ = some (.int .i64 xw) := by go_simp
  have d2 : (w.alloc (.cells #[.int .i64 xk, .int .i64 xw, .int .i64 xz] 54)).cell? ⟨w.heap.size, 2, none⟩ = some (.int .i64 xz) := by go_simp
  have HDc := hidI (And.intro d1 d2)
  have hlt : w.heap.size < (w.alloc (.cells #[.int .i64 xk, .int .i64 xw, .int .i64 xz] 54)).heap.size := by simp
  have HW := hidI hlt
  clear d1 d2 hlt
  have C1 := hidI pclear_nil
  have C2 := hidI (fun W => pwhole_nil 3 W)
  have C3 := hidI ppart_nil
  have CL := hidI (live_any (w.alloc (.cells #[.int .i64 xk, .int .i64 xw, .int .i64 xz] 54)))
  go_enter Try.func7, Try.ntmps7
  go_wp2_with (first | (go_at_call 22; refine Calls.mono (C1.out _) ?_; rintro e w1 ⟨rfl, rfl⟩) | (go_at_call 16; refine Calls.mono (C2.out _) ?_; rintro e w1 ⟨rfl, rfl⟩) | (go_at_call 17; refine Calls.mono (C3.out _ _) ?_; rintro e w1 ⟨rfl, rfl⟩) | (go_at_call 9; refine Calls.mono CL.out ?_; rintro e w1 ⟨rfl, hb1⟩; refine Hid.out ?_))
  refine hidI ?_
  have HB1 := hidI (HB0.out.trans (hb1.mono HB0.out.size))
  have e1 : w1.cell? ⟨w.heap.size, 1, none⟩ = some (.int .i64 xw) := (hb1.cell (p := ⟨w.heap.size, 1, none⟩) HW.out).trans HDc.out.1
  have e2 : w1.cell? ⟨w.heap.size, 2, none⟩ = some (.int .i64 xz) := (hb1.cell (p := ⟨w.heap.size, 2, none⟩) HW.out).trans HDc.out.2
  clear hb1 CL C1 C2 C3 HDc
  have C4 := hidI ptake_nil
  have C5 := hidI pcount_nil
  have C6 := hidI pfork_nil
  have C7 := hidI (pmerge_nil1 (.pointer none) (.inl rfl))
  rcases good_or o n with hbad | ⟨ho, h1, h4⟩
  · have C8 := hidI (fun W => pnew_bad o n W hbad)
    have C9 := hidI (fun W => rnew_bad (o : Int) n W hbad)
    clear hbad
    go_wp2_with (first | (go_at_call 15; refine Calls.mono (C4.out _ _ _) ?_; rintro e w2 ⟨rfl, rfl⟩) | (go_at_call 18; refine Calls.mono (C5.out _) ?_; rintro e w2 ⟨rfl, rfl⟩) | (go_at_call 19; refine Calls.mono (C6.out _) ?_; rintro e w2 ⟨rfl, rfl⟩) | (go_at_call 11; refine Calls.mono (C7.out _) ?_; rintro e w2 ⟨rfl, rfl⟩) | (go_at_call 13; refine Calls.mono (C8.out _) ?_; rintro e w2 ⟨rfl, rfl⟩) | (go_at_call 23; refine Calls.mono (C9.out _) ?_; rintro e w2 ⟨rfl, rfl⟩))
    go_ret
    exact ⟨rfl, HB1.out⟩
  · obtain ⟨n, rfl⟩ : ∃ n' : Nat, n = (n' : Int) := ⟨n.toNat, by omega⟩
    have C8 := hidI (pnew_any o n w1 ho (by omega) (by omega))
    have C9 := hidI (fun W => rnew_any o n W (redB_of ho) (by omega) (by omega))
    clear ho
    go_wp2_with (first | (go_at_call 15; refine Calls.mono (C4.out _ _ _) ?_; rintro e w2 ⟨rfl, rfl⟩) | (go_at_call 18; refine Calls.mono (C5.out _) ?_; rintro e w2 ⟨rfl, rfl⟩) | (go_at_call 19; refine Calls.mono (C6.out _) ?_; rintro e w2 ⟨rfl, rfl⟩) | (go_at_call 11; refine Calls.mono (C7.out _) ?_; rintro e w2 ⟨rfl, rfl⟩) | (go_at_call 13; refine Calls.mono C8.out ?_; rintro e w2 ⟨p, rfl, _, _, hb2⟩; refine Hid.out ?_))
    refine hidI ?_
    have HB2 := hidI (HB1.out.trans (hb2.mono HB1.out.size))
    clear hb2 e1 e2 C4 C5 C6 C7 C8
    go_wp2_with (go_at_call 23; refine Calls.mono (C9.out _) ?_; rintro e w3 ⟨q, rfl, _, hb3, _⟩; refine Hid.out ?_)
    refine hidI ?_
    have HB3 := hidI (HB2.out.trans (hb3.mono HB2.out.size))
    clear hb3 C9
    go_wp2
    go_ret
    exact ⟨rfl, HB3.out⟩
set_option maxRecDepth 100000 in
set_option maxHeartbeats 1000000 in
theorem aggForks_law (w : World) (o : Nat) (v u : Value) (xs ys : List Msg) (hv : SeesM w v xs) (hi : ∀ x ∈ xs, x.inr) (hu : SeesM w u ys) (hj : ∀ x ∈ ys, x.inr) :
    Calls Try.prog 6 #[.int .u8 (o : Int), v, u] w fun e w' => e = .returned (.bool true) ∧ Below w.heap.size w w' := by
  obtain ⟨a, cap, rfl, hcap, hL⟩ := hu
  have HU : Hid (SeesM w (.slice a ys.length cap) ys) := hidI ⟨a, cap, rfl, hcap, hL⟩
  have HIn := hidI hj
  clear hL hcap hj
  obtain ⟨m, hm⟩ : ∃ m, ys.length = m := ⟨_, rfl⟩
  have HM := hidI hm
  rw [hm] at HU ⊢
  clear hm
  obtain ⟨K, hK⟩ : ∃ K, min m 14 = K := ⟨_, rfl⟩
  rcases good_or o 3 with hbad | ⟨ho, _, _⟩
  · have C1 := hidI (play_nil w o 3 _ xs hbad hv)
    clear hbad hv hi
    go_enter Try.func6, Try.ntmps6
    go_wp2_with (go_at_call 8; refine Calls.mono C1.out ?_; rintro e w1 ⟨rfl, hb1⟩; refine Hid.out ?_)
    refine hidI ?_
    have HB1 := hidI hb1
    clear hb1 C1
    have C2 := hidI (live_any w1)
    have C6 := hidI pfork_nil
    have C7 := hidI rfork_nil
    go_wp2_with (first | (go_at_call 9; refine Calls.mono C2.out ?_; rintro e w2 ⟨rfl, hb2⟩; refine Hid.out ?_))
    refine hidI ?_
    have HB2 := hidI (HB1.out.trans (hb2.mono HB1.out.size))
    clear hb2 C2
    go_wp2_with (first | (go_at_call 19; refine Calls.mono (C6.out _) ?_; rintro e w3 ⟨rfl, rfl⟩) | (go_at_call 20; refine Calls.mono (C7.out _) ?_; rintro e w3 ⟨rfl, rfl⟩))
    clear C6 C7
    go_loopg [12] K (fun g s12 wx => ∃ (i : Nat), i + g = K ∧ s12 = .int .i64 (i : Int) ∧ Hid (Below w.heap.size w wx))
    case atStart => exact ⟨0, by omega, rfl, HB2⟩
    case round =>
      obtain ⟨i, hig, rfl, HB⟩ := hrel
      have hszr := HB.out.size
      cases gk with
      | zero =>
        have hiK : i = min m 14 := by omega
        have S1 : Hid (Calls Try.prog 10 #[.pointer none, .pointer none, .int .u64 1] wr fun e w' => e = .returned (.bool true) ∧ wr = w') := hidI (same_nil wr 1)
        have S2 : Hid (Calls Try.prog 10 #[.pointer none, .pointer none, .int .u64 2] wr fun e w' => e = .returned (.bool true) ∧ wr = w') := hidI (same_nil wr 2)
        by_cases hi : i < m
        · have i50 : i = 14 := by omega
          have j1 : (i : Int) < (m : Int) := by omega
          have j2 : decide ((i : Int) < 14) = false := by rw [decide_eq_false_iff_not]; omega
          have H50 := hidI i50
          clear hiK hK i50
          go_wp2_with (go_at_call 10; refine Calls.mono S1.out ?_; rintro e w3 ⟨rfl, rfl⟩; refine Hid.out ?_)
          refine hidI ?_
          clear S1
          go_wp2_with (go_at_call 10; refine Calls.mono S2.out ?_; rintro e w3 ⟨rfl, rfl⟩; refine Hid.out ?_)
          refine hidI ?_
          clear S2
          go_wp2
          go_ret
          exact ⟨rfl, HB.out⟩
        · have j1 : decide ((i : Int) < (m : Int)) = false := by rw [decide_eq_false_iff_not]; omega
          have j1' : decide (i < m) = false := by rw [decide_eq_false_iff_not]; omega
          clear hiK hK
          go_wp2_with (go_at_call 10; refine Calls.mono S1.out ?_; rintro e w3 ⟨rfl, rfl⟩; refine Hid.out ?_)
          refine hidI ?_
          clear S1
          go_wp2_with (go_at_call 10; refine Calls.mono S2.out ?_; rintro e w3 ⟨rfl, rfl⟩; refine Hid.out ?_)
          refine hidI ?_
          clear S2
          go_wp2
          go_ret
          exact ⟨rfl, HB.out⟩
      | succ g =>
        have j1 : (i : Int) < (m : Int) := by omega
        have j2 : (i : Int) < 14 := by omega
        obtain ⟨x, hx⟩ : ∃ x, ys[i]? = some x := ⟨_, List.getElem?_eq_getElem (by have := HM.out; omega)⟩
        obtain ⟨b1, o1, c1, e1, x0, x1, x2⟩ := HU.out.cell hx
        rw [HM.out] at e1
        cases e1
        have kk : ∀ {p : Addr} {v : Value}, w.cell? p = some v → wr.cell? p = some v := fun {p v} hc => (HB.out.cell (World.block_lt_of_cell? w _ hc)).trans hc
        replace x0 := kk x0
        replace x1 := kk x1
        replace x2 := kk x2
        have CD := hidI (do_nil wr x)
        unfold Msg.value at CD
        clear kk hx hK
        go_wp2_with (go_at_call 21; refine Calls.mono CD.out ?_; rintro e w3 ⟨rfl, hb3⟩; refine Hid.out ?_)
        refine hidI ?_
        have HB3 := hidI (HB.out.trans (hb3.mono hszr))
        clear hb3 CD x0 x1 x2
        go_wp2
        go_roundg g
        case measure => omega
        case rel => exact ⟨i + 1, by omega, by go_num, HB3⟩
  · have C1 := hidI (play_any w o 3 _ xs ho (by omega) (by omega) hv hi)
    clear hv hi
    go_enter Try.func6, Try.ntmps6
    go_wp2_with (go_at_call 8; refine Calls.mono C1.out ?_; rintro e w1 ⟨p, q, rows, rfl, hp, hq, hb1, hd1⟩; refine Hid.out ?_)
    refine hidI ?_
    have HB1 := hidI hb1
    have HD1 := hidI hd1
    clear hb1 C1 hd1
    have C2 := hidI (live_any w1)
    go_wp2_with (go_at_call 9; refine Calls.mono C2.out ?_; rintro e w2 ⟨rfl, hb2⟩; refine Hid.out ?_)
    refine hidI ?_
    have HB2 := hidI (HB1.out.trans (hb2.mono HB1.out.size))
    have HD2 := hidI (HD1.out.below hb2)
    clear hb2 C2 HD1 HB1
    obtain ⟨ps, hP2, hPs2⟩ := HD2.out.pg
    have HPs := hidI hPs2
    have C3 := hidI (pfork_any hP2)
    have hpl := hP2.lt
    have hql := HD2.out.rg.lt
    clear hP2 hPs2
    go_wp2_with (go_at_call 19; refine Calls.mono C3.out ?_; rintro e w3 ⟨f, rfl, hf, hA3, hb3⟩; refine Hid.out ?_)
    refine hidI ?_
    have HB3 := hidI (HB2.out.trans (hb3.mono HB2.out.size))
    have hfl := hA3.lt
    have HR3 : Hid (RAg w3 (fun k => k < w.heap.size ∨ k = p ∨ k = q ∨ k = f) q o rows) := hidI (HD2.out.rg.wide hb3 (fun k hk => by rcases hk with hk | hk | hk | rfl; exact .inl (.inl hk); exact .inl (.inr (.inl hk)); exact .inl (.inr (.inr hk)); exact .inr hf) (fun k hk => by have := hb3.size; have := HB2.out.size; rcases hk with hk | rfl | rfl | rfl; omega; omega; omega; exact hfl) (.inr (.inr (.inl rfl))))
    have HA3 := hidI hA3
    have HP3 : Hid (∃ ps, PAg w3 p o 3 (countR rows : Nat) ps ∧ Parts o 3 ps rows) := hidI (by obtain ⟨ps', h1, h2⟩ := HD2.out.pg; exact ⟨ps', h1.below hb3 (Nat.le_refl _), h2⟩)
    have HBs := hidI hb3.size
    clear hb3 C3 hA3
    have C4 := hidI (rfork_any HR3.out (by have := HD2.out.len; omega))
    go_wp2_with (go_at_call 20; refine Calls.mono C4.out ?_; rintro e w4 ⟨g, rfl, hg, hb4, hR4⟩; refine Hid.out ?_)
    refine hidI ?_
    have HB4 := hidI (HB3.out.trans (hb4.mono HB3.out.size))
    have hbs := HBs.out
    have hws := HB2.out.size
    have HD4 : Hid (Duo w4 (fun k => k < w.heap.size ∨ k = p ∨ k = q ∨ k = f ∨ k = g) p q o 3 rows 50) := hidI (by
      obtain ⟨ps', h1, h2⟩ := HP3.out
      have hgl : g < w4.heap.size := (hR4 (fun k => k < w.heap.size ∨ k = p ∨ k = q ∨ k = f ∨ k = g) (fun k hk => by rcases hk with hk | hk | hk | hk | hk; exact .inl (.inl hk); exact .inl (.inr (.inl hk)); exact .inl (.inr (.inr (.inl hk))); exact .inl (.inr (.inr (.inr hk))); exact .inr hk) (.inr (.inr (.inr (.inr rfl))))).lt
      refine ⟨⟨ps', h1.below hb4 (Nat.le_refl _), h2⟩, HR3.out.wide hb4 (fun k hk => by rcases hk with hk | hk | hk | hk | rfl; exact .inl (.inl hk); exact .inl (.inr (.inl hk)); exact .inl (.inr (.inr (.inl hk))); exact .inl (.inr (.inr (.inr hk))); exact .inr hg) (fun k hk => by have := hb4.size; rcases hk with hk | rfl | rfl | rfl | rfl; omega; omega; omega; omega; exact hgl) (.inr (.inr (.inl rfl))), HD2.out.m5, HD2.out.n1, .inr (.inl rfl), HD2.out.ne, HD2.out.fit, HD2.out.few⟩)
    have HE4 : Hid (Duo w4 (fun k => k < w.heap.size ∨ k = p ∨ k = q ∨ k = f ∨ k = g) f g o 3 rows 50) := hidI (by
      refine ⟨⟨ps, HA3.out.below hb4 (Nat.le_refl _), HPs.out⟩, hR4 _ (fun k hk => by rcases hk with hk | hk | hk | hk | hk; exact .inl (.inl hk); exact .inl (.inr (.inl hk)); exact .inl (.inr (.inr (.inl hk))); exact .inl (.inr (.inr (.inr hk))); exact .inr hk) (.inr (.inr (.inr (.inr rfl)))), HD2.out.m5, HD2.out.n1, .inr (.inr (.inr (.inl rfl))), by omega, HD2.out.fit, HD2.out.few⟩)
    have HAp : Hid (w.heap.size ≤ f ∧ w.heap.size ≤ g ∧ p ≠ f ∧ p ≠ g ∧ q ≠ f ∧ q ≠ g) := hidI (by omega)
    clear hb4 C4 hR4 HR3 HA3 HP3 HPs HD2 HB2 HB3 HBs hbs hws hpl hql hfl
    go_wp2
    go_loopg [12] K (fun gg s12 wx => ∃ (i : Nat) (sows : List (List Int)), i + gg = K ∧ s12 = .int .i64 (i : Int) ∧ Hid (Below w.heap.size w wx) ∧ Hid (Duo wx (fun k => k < w.heap.size ∨ k = p ∨ k = q ∨ k = f ∨ k = g) p q o 3 rows 50) ∧ Hid (Duo wx (fun k => k < w.heap.size ∨ k = p ∨ k = q ∨ k = f ∨ k = g) f g o 3 sows (50 + i)))
    case atStart => exact ⟨0, rows, by omega, rfl, HB4, HD4, HE4⟩
    case round =>
      obtain ⟨i, sows, hig, rfl, HB, HD, HE⟩ := hrel
      have hszr := HB.out.size
      cases gk with
      | zero =>
        have hiK : i = min m 14 := by omega
        have S1 : Hid (Calls Try.prog 10 #[.pointer (some ⟨p, 0, none⟩), .pointer (some ⟨q, 0, none⟩), .int .u64 1] wr fun e w' => e = .returned (.bool true) ∧ Below wr.heap.size wr w') := hidI (same_any HD.out (by omega) 1 (by omega))
        have HS2 : Hid (∀ W, Below wr.heap.size wr W → Calls Try.prog 10 #[.pointer (some ⟨f, 0, none⟩), .pointer (some ⟨g, 0, none⟩), .int .u64 2] W fun e w' => e = .returned (.bool true) ∧ Below W.heap.size W w') := hidI fun W hW => same_any (HE.out.below hW) (by omega) 2 (by omega)
        by_cases hi : i < m
        · have i50 : i = 14 := by omega
          have j1 : (i : Int) < (m : Int) := by omega
          have j2 : decide ((i : Int) < 14) = false := by rw [decide_eq_false_iff_not]; omega
          have H50 := hidI i50
          clear hiK hK i50
          go_wp2_with (go_at_call 10; refine Calls.mono S1.out ?_; rintro e w5 ⟨rfl, hb5⟩; refine Hid.out ?_)
          refine hidI ?_
          have HB5 := hidI hb5
          have HBw := hidI (HB.out.trans (hb5.mono hszr))
          clear hb5 S1
          have S2 := hidI (HS2.out w5 HB5.out)
          go_wp2_with (go_at_call 10; refine Calls.mono S2.out ?_; rintro e w6 ⟨rfl, hb6⟩; refine Hid.out ?_)
          refine hidI ?_
          have HBz := hidI (HBw.out.trans (hb6.mono HBw.out.size))
          clear hb6 S2
          go_wp2
          go_ret
          exact ⟨rfl, HBz.out⟩
        · have j1 : decide ((i : Int) < (m : Int)) = false := by rw [decide_eq_false_iff_not]; omega
          have j1' : decide (i < m) = false := by rw [decide_eq_false_iff_not]; omega
          clear hiK hK
          go_wp2_with (go_at_call 10; refine Calls.mono S1.out ?_; rintro e w5 ⟨rfl, hb5⟩; refine Hid.out ?_)
          refine hidI ?_
          have HB5 := hidI hb5
          have HBw := hidI (HB.out.trans (hb5.mono hszr))
          clear hb5 S1
          have S2 := hidI (HS2.out w5 HB5.out)
          go_wp2_with (go_at_call 10; refine Calls.mono S2.out ?_; rintro e w6 ⟨rfl, hb6⟩; refine Hid.out ?_)
          refine hidI ?_
          have HBz := hidI (HBw.out.trans (hb6.mono HBw.out.size))
          clear hb6 S2
          go_wp2
          go_ret
          exact ⟨rfl, HBz.out⟩
      | succ gg =>
        have j1 : (i : Int) < (m : Int) := by omega
        have j2 : (i : Int) < 14 := by omega
        obtain ⟨x, hx⟩ : ∃ x, ys[i]? = some x := ⟨_, List.getElem?_eq_getElem (by have := HM.out; omega)⟩
        obtain ⟨b1, o1, c1, e1, x0, x1, x2⟩ := HU.out.cell hx
        rw [HM.out] at e1
        cases e1
        have kk : ∀ {p : Addr} {v : Value}, w.cell? p = some v → wr.cell? p = some v := fun {p v} hc => (HB.out.cell (World.block_lt_of_cell? w _ hc)).trans hc
        replace x0 := kk x0
        replace x1 := kk x1
        replace x2 := kk x2
        have CD := hidI (do_any HE.out (by omega) x (HIn.out x (List.mem_of_getElem? hx)).2.2)
        unfold Msg.value at CD
        clear kk hx hK
        go_wp2_with (go_at_call 21; refine Calls.mono CD.out ?_; rintro e w5 ⟨rfl, hd5, hc5⟩; refine Hid.out ?_)
        refine hidI ?_
        have HE5 := hidI hd5
        have hap := HAp.out
        have HB5 : Hid (Below w.heap.size w w5) := hidI (HB.out.trans (hc5.toBelow (fun k hk => by rcases hk with rfl | rfl; exact hap.1; exact hap.2.1) hszr))
        have HD5 := hidI (HD.out.chg hc5 HE.out.two (fun e => by rcases e with e | e; exact hap.2.2.1 e; exact hap.2.2.2.1 e) (fun e => by rcases e with e | e; exact hap.2.2.2.2.1 e; exact hap.2.2.2.2.2 e))
        clear hd5 hc5 CD x0 x1 x2 hap
        go_wp2
        go_roundg gg
        case measure => omega
        case rel => exact ⟨i + 1, _, by omega, by go_num, HB5, HD5, HE5⟩
end Go.Proofs.Ythjpoemgoeckbaa
