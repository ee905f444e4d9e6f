/-
  The law of TopPosted.
-/
import Derived.Test.YtdfieflcclbgjabPTurn
import Derived.Test.YtdfieflcclbgjabPEnc
import Derived.Test.YtdfieflcclbgjabPDec
import Derived.Test.YtdfieflcclbgjabPSorted
import Derived.Test.YtdfieflcclbgjabPFor
import Derived.Test.YtdfieflcclbgjabBytesP
import Derived.Test.YtdfieflcclbgjabOpenM
import Derived.Laws.Bits128
namespace Go.Proofs.Ytdfieflcclbgjab
open Go.RowKit Go.Deep Go.MapKept Go.Sort
theorem nat_u64 {a : Int} (h : (Lit.int .u64 a).wf = true) : ∃ n : Nat, a = (n : Int) ∧ n < 18446744073709551616 := by
  have e1 : IntKind.u64.min = 0 := rfl
  have e2 : IntKind.u64.max = 18446744073709551615 := rfl
  simp only [Lit.wf, e1, e2, Bool.and_eq_true, decide_eq_true_eq] at h
  exact ⟨a.toNat, by omega, by omega⟩
theorem and3 (n : Int) : bits .and .i64 n 3 = n % 4 := by
  have h3 : (BitVec.ofInt 64 3).toNat = 2 ^ 2 - 1 := by decide
  have key : (BitVec.ofInt 64 n &&& BitVec.ofInt 64 3).toNat = (n % ((2 ^ 64 : Nat) : Int)).toNat % 2 ^ 2 := by
    rw [BitVec.toNat_and, BitVec.toNat_ofInt, h3, Nat.and_two_pow_sub_one_eq_mod]
  show IntKind.i64.wrap ((BitVec.ofInt 64 n &&& BitVec.ofInt 64 3).toNat : Nat) = n % 4
  rw [key, IntKind.wrap_i64]
  omega
theorem and7 (n : Int) : bits .and .i64 n 7 = n % 8 := by
  have h3 : (BitVec.ofInt 64 7).toNat = 2 ^ 3 - 1 := by decide
  have key : (BitVec.ofInt 64 n &&& BitVec.ofInt 64 7).toNat = (n % ((2 ^ 64 : Nat) : Int)).toNat % 2 ^ 3 := by
    rw [BitVec.toNat_and, BitVec.toNat_ofInt, h3, Nat.and_two_pow_sub_one_eq_mod]
  show IntKind.i64.wrap ((BitVec.ofInt 64 n &&& BitVec.ofInt 64 7).toNat : Nat) = n % 8
  rw [key, IntKind.wrap_i64]
  omega
/-- A message as the law has it. -/
def nrp (x : Msg) : Msg := ⟨x.to % 8, x.tag % 4, x.val⟩
theorem nrp_ok {x : Msg} (h : x.inr) : okM (nrp x) = true ∧ In64 (nrp x).val := by
  refine ⟨decide_eq_true ?_, h.2.2⟩
  simp only [nrp]
  omega
theorem sb_of {w : World} {u : Value} {bs : List Int} (h : SeesC w u bs.length 1 (cellsB bs)) (hr : Room u) : ∃ (a : Option Addr) (c : Nat), u = .slice a bs.length c ∧ SB w a c bs := by
  obtain ⟨_, a, c, rfl, h⟩ := h
  obtain ⟨a', m, c', e, hm⟩ := hr
  cases e
  refine ⟨a, c, rfl, hm, h.imp_right ?_⟩
  rintro ⟨b, off, rfl, h2⟩
  exact ⟨b, off, rfl, fun j z hz => h2 j _ (by simp [cellsB, hz])⟩
theorem none9 {xs ms : List Msg} (h : ms = xs.map nrp) : (ms.filter fun m => m.to == 9) = [] := by
  subst h
  rw [List.filter_eq_nil_iff]
  intro x hx
  obtain ⟨y, _, rfl⟩ := List.mem_map.1 hx
  simp only [nrp, beq_iff_eq]
  omega
set_option maxRecDepth 100000 in
set_option maxHeartbeats 4000000 in
theorem topPosted_law (w : World) (v : Value) (xs : List Msg) (hv : SeesM w v xs) (hi : ∀ x ∈ xs, x.inr) (k : Nat) (hk : k < 18446744073709551616) :
    Calls Try.prog 3 #[v, .int .u64 k] w fun e w' => e = .returned (.bool true) ∧ Below w.heap.size w w' := by
  obtain ⟨a, cap, he1, hcap, hL⟩ := hv
  have HV : Hid (SeesM w v xs) := hidI ⟨a, cap, he1, hcap, hL⟩
  subst he1
  clear hL hcap
  have HIn := hidI hi
  clear hi
  obtain ⟨L, hL⟩ : ∃ L, xs.length = L := ⟨_, rfl⟩
  have HN := hidI hL
  rw [hL] at HV ⊢
  clear hL
  obtain ⟨n, hn⟩ : ∃ n, min L 30 = n := ⟨_, rfl⟩
  have hn30 : n ≤ 30 := by omega
  have hnL : n ≤ L := by omega
  have HC : Hid (n = L ∨ (n = 30 ∧ 30 < L)) := hidI (by omega)
  clear hn
  obtain ⟨B, hB⟩ : ∃ B, w.heap.size = B := ⟨_, rfl⟩
  have HBB := hidI hB
  rw [hB]
  clear hB
  go_enter Try.func3, Try.ntmps3
  go_wp2
  go_loopg [5, 6] n (fun g s5 s6 wx => ∃ (i : Nat) (v5 : Value), i + g = n ∧ v5 = s5 ∧ s6 = .int .i64 (i : Int) ∧ Hid (wx.ownsRow B 26 3 v5 i (flatM ((xs.take i).map nrp))) ∧ Hid (Below B w wx))
  case atStart => exact ⟨0, _, by omega, rfl, rfl, hidI (World.ownsRow_nil _ _ _ _), hidI (Below.refl _ _)⟩
  case round =>
    obtain ⟨i, v5, hig, rfl, rfl, HO, HBx⟩ := hrel
    have HSx : Hid (B ≤ wr.heap.size) := hidI (by have := HBx.out.size; have := HBB.out; omega)
    have hszx := HSx.out
    cases gk with
    | succ g =>
      have k1 : (i : Int) < (L : Int) := by omega
      have k2 : (i : Int) < 30 := by omega
      obtain ⟨x, hx⟩ : ∃ x, xs[i]? = some x := ⟨_, List.getElem?_eq_getElem (by have := HN.out; omega)⟩
      obtain ⟨b1, o1, c1, e1, x0, x1, x2⟩ := HV.out.cell hx
      rw [HN.out] at e1
      cases e1
      have kk : ∀ {p : Addr} {v : Value}, w.cell? p = some v → wr.cell? p = some v := fun {p v} hc => (HBx.out.cell (by have := World.block_lt_of_cell? w _ hc; rw [HBB.out] at this; exact this)).trans hc
      replace x0 := kk x0
      replace x1 := kk x1
      replace x2 := kk x2
      clear kk
      have HTK : Hid ((xs.take (i + 1)).map nrp = (xs.take i).map nrp ++ [nrp x]) := hidI (by rw [List.take_add_one, hx]; simp)
      clear hx
      obtain ⟨xt, xg, xv⟩ := x
      simp only at x0 x1 x2
      have HNr : Hid (nrp ⟨xt, xg, xv⟩ = ⟨xt % 8, xg % 4, xv⟩) := hidI rfl
      have a7 := and7 xt
      have a3 := and3 xg
      obtain ⟨q, hq⟩ : ∃ q, xg % 4 = q := ⟨_, rfl⟩
      obtain ⟨p, hp⟩ : ∃ p, xt % 8 = p := ⟨_, rfl⟩
      rw [hq] at HNr a3
      rw [hp] at HNr a7
      have HPQ := hidI (And.intro hp hq)
      clear hp hq
      have HOA := hidI (World.ownsRow.alloc (World.ownsRow.alloc HO.out (.cells #[.int .i64 p, .int .i64 q, .int .i64 xv] 26)) (.cells #[.int .i64 p, .int .i64 q, .int .i64 xv] 26))
      have HSM := hidI (msg_seen (W := wr.alloc (.cells #[.int .i64 p, .int .i64 q, .int .i64 xv] 26)) ⟨p, q, xv⟩)
      simp only [World.size_alloc] at HSM
      go_wp2_with (at_builtin; go_must (refine wpList_append_any Try.underlying22 Try.info26 rfl (by decide) (by decide) rfl _ _ rfl B _ i _ rfl HOA.out _ 1 (Msg.cells ⟨p, q, xv⟩) rfl HSM.out (cells_one _) (by simp; omega) (by simp; omega) ?_); intro v9 w9 hown9 hgrow9 _; refine Hid.out ?_)
      refine hidI ?_
      have HB9 : Hid (Below B w w9) := hidI (Below.grown ((HBx.out.alloc HSx.out _).alloc (by simp; omega) _) hgrow9 (by simp; omega) (fun k hk => (HOA.out.lt k hk).1))
      have HO9 : Hid (w9.ownsRow B 26 3 v9 (i + 1) (flatM ((xs.take (i + 1)).map nrp))) := hidI (by
        rw [HTK.out, HNr.out, flatM_append, flatM_one]
        exact hown9)
      clear hown9 hgrow9 HOA HSM
      go_wp2
      go_roundg g
      case measure => omega
      case rel => exact ⟨i + 1, v9, by omega, rfl, by go_num, HO9, HB9⟩
    | zero =>
      obtain rfl : n = i := by omega
      have HM0 : Hid (SeesM wr v5 ((xs.take n).map nrp)) := hidI (seesM_of_owns HO.out)
      have hnm : ((xs.take n).map nrp).length = n := by rw [List.length_map, List.length_take]; have := HN.out; omega
      have HOk : Hid (∀ x ∈ (xs.take n).map nrp, okM x = true ∧ In64 x.val) := hidI fun x hx => by
        obtain ⟨y, hy, rfl⟩ := List.mem_map.1 hx
        exact nrp_ok (HIn.out y (List.mem_of_mem_take hy))
      have HF9 := hidI (none9 (xs := xs.take n) rfl)
      obtain ⟨ms, hms⟩ : ∃ ms, (xs.take n).map nrp = ms := ⟨_, rfl⟩
      rw [hms] at HM0 hnm HOk HF9
      have HNM := hidI hnm
      clear hms HO hnm
      obtain ⟨a5, c5, e5, hc5⟩ : ∃ a5 c5, v5 = .slice a5 n c5 ∧ n ≤ c5 := by
        obtain ⟨a5, c5, e5, hc5, _⟩ := HM0.out
        rw [HNM.out] at e5 hc5
        exact ⟨a5, c5, e5, hc5⟩
      subst e5
      clear hc5
      obtain ⟨W0, hW0⟩ : ∃ W0 : World, W0 = wr := ⟨wr, rfl⟩
      subst hW0
      have C1 := hidI (pturned_any W0 _ ms k hk HM0.out (by rw [HNM.out]; omega))
      have C2 : Hid (∀ (w2 : World) (v2 : Value), SeesM w2 v2 (turnM k ms) → Calls Try.prog 5 #[v2] w2 (EncPost w2 (encMs (turnM k ms)))) := hidI fun w2 v2 h2 => by
        refine (pencode_any w2 v2 (turnM k ms) h2 (by rw [turnM_length, HNM.out]; omega)).mono ?_
        rintro e w' (⟨h, _⟩ | ⟨_, h⟩)
        · have : (turnM k ms).all okM = true := List.all_eq_true.2 fun x hx => (HOk.out x ((turnM_perm k ms).mem_iff.1 hx)).1
          rw [this] at h
          cases h
        · exact h
      have C3 : Hid (∀ (w3 : World) (u : Value), SeesC w3 u (encMs (turnM k ms)).length 1 (cellsB (encMs (turnM k ms))) → Room u → Calls Try.prog 6 #[u] w3 (DecPost w3 (.ok (turnM k ms)))) := hidI fun w3 u hu hr => by
        obtain ⟨a, c, rfl, hs⟩ := sb_of hu hr
        have := pdecode_any w3 a c _ hs (encMs_isB fun x hx => (HOk.out x ((turnM_perm k ms).mem_iff.1 hx)).1) (by rw [encMs_len, turnM_length, HNM.out]; omega)
        rw [decs_enc fun x hx => HOk.out x ((turnM_perm k ms).mem_iff.1 hx)] at this
        exact this
      have HTL : Hid ((encMs (turnM k ms)).length = 10 * n) := hidI (by rw [encMs_len, turnM_length, HNM.out]; omega)
      have HPS : Hid (sortM (turnM k ms) = sortM ms) := hidI (sortM_eq (turnM_perm k ms))
      have HT0 : Hid ((turnM k ms).length = n) := hidI (by rw [turnM_length, HNM.out])
      have HSL : Hid ((sortM ms).length = n) := hidI (by rw [(sortM_perm ms).length_eq, HNM.out])
      obtain ⟨ts, hts⟩ : ∃ ts, turnM k ms = ts := ⟨_, rfl⟩
      rw [hts] at C1 C2 C3 HTL HPS HT0
      clear hts
      have hcase := HC.out
      rcases hcase with hE | ⟨hE, hE2⟩
      · have k1 : decide ((n : Int) < (L : Int)) = false := by simp; omega
        subst hE
        go_wp2_with (go_at_call 4; refine Calls.mono C1.out ?_; rintro e w1 ⟨v1, rfl, hs1, hb1⟩; refine Hid.out ?_)
        refine hidI ?_
        have HB1 := hidI (HBx.out.trans (hb1.mono HSx.out))
        have HM1 := hidI (HM0.out.below hb1 (Nat.le_refl _))
        have HT1 := hidI hs1
        have HS1 := hidI (Nat.le_trans HSx.out hb1.size)
        clear hb1 hs1 C1 HM0
        have D2 := hidI (C2.out w1 v1 HT1.out)
        go_wp2_with (go_at_call 5; refine Calls.mono D2.out ?_; rintro e w2 ⟨u2, rfl, hs2, hb2, hr2⟩; refine Hid.out ?_)
        refine hidI ?_
        have HB2 := hidI (HB1.out.trans (hb2.mono HS1.out))
        have HM2 := hidI (HM1.out.below hb2 (Nat.le_refl _))
        have HT2 := hidI (HT1.out.below hb2 (Nat.le_refl _))
        have HS2 := hidI (Nat.le_trans HS1.out hb2.size)
        have D3 := hidI (C3.out w2 u2 hs2 hr2)
        obtain ⟨a2, c2, e2⟩ : ∃ a2 c2, u2 = .slice a2 (10 * n) c2 := by
          obtain ⟨_, a2, c2, e2, _⟩ := hs2
          rw [HTL.out] at e2
          exact ⟨a2, c2, e2⟩
        subst e2
        clear hb2 hs2 hr2 D2 C2 C3 HM1 HT1
        go_wp2_with (go_at_call 6; refine Calls.mono D3.out ?_; rintro e w3 ⟨hb3, v3, rfl, hs3⟩; refine Hid.out ?_)
        refine hidI ?_
        have HB3 := hidI (HB2.out.trans (hb3.mono HS2.out))
        have HM3 := hidI (HM2.out.below hb3 (Nat.le_refl _))
        have HT3 := hidI (HT2.out.below hb3 (Nat.le_refl _))
        have HS3 := hidI (Nat.le_trans HS2.out hb3.size)
        have HD3 := hidI hs3
        obtain ⟨a3, c3, e3⟩ : ∃ a3 c3, v3 = .slice a3 n c3 := by
          obtain ⟨a3, c3, e3, _⟩ := hs3
          rw [HT0.out] at e3
          exact ⟨a3, c3, e3⟩
        subst e3
        clear hb3 hs3 D3 HM2 HT2
        have C4 := hidI (psorted_any w3 _ _ HD3.out (by rw [HT0.out]; omega))
        rw [HPS.out] at C4
        have kM : (((10 * n : Nat) : Int) != 10 * (n : Int)) = false := by simp
        have kM2 : ((10 * (n : Int)) != 10 * (n : Int)) = false := by simp
        have kN : ((n : Int) != (n : Int)) = false := by simp
        go_wp2_with (go_at_call 7; refine Calls.mono C4.out ?_; rintro e w4 ⟨v4, rfl, hs4, hb4⟩; refine Hid.out ?_)
        refine hidI ?_
        have HB4 := hidI (HB3.out.trans (hb4.mono HS3.out))
        have HM4 := hidI (HM3.out.below hb4 (Nat.le_refl _))
        have HT4 := hidI (HT3.out.below hb4 (Nat.le_refl _))
        have HD4 := hidI (HD3.out.below hb4 (Nat.le_refl _))
        have HS4 := hidI (Nat.le_trans HS3.out hb4.size)
        have HX4 := hidI hs4
        clear hb4 hs4 C4 HM3 HT3 HD3
        have C5 := hidI (psorted_any w4 _ _ HM4.out (by rw [HNM.out]; omega))
        go_wp2_with (go_at_call 7; refine Calls.mono C5.out ?_; rintro e w5 ⟨v5, rfl, hs5, hb5⟩; refine Hid.out ?_)
        refine hidI ?_
        have HB5 := hidI (HB4.out.trans (hb5.mono HS4.out))
        have HM5 := hidI (HM4.out.below hb5 (Nat.le_refl _))
        have HT5 := hidI (HT4.out.below hb5 (Nat.le_refl _))
        have HD5 := hidI (HD4.out.below hb5 (Nat.le_refl _))
        have HX5 := hidI (HX4.out.below hb5 (Nat.le_refl _))
        have HS5 := hidI (Nat.le_trans HS4.out hb5.size)
        have HY5 := hidI hs5
        clear hb5 hs5 C5 HM4 HT4 HD4 HX4
        obtain ⟨a4, c4, e4⟩ : ∃ a4 c4, v4 = .slice a4 n c4 := by
          obtain ⟨a4, c4, e4, _⟩ := HX5.out
          rw [HSL.out] at e4
          exact ⟨a4, c4, e4⟩
        subst e4
        go_wp2
        go_loopg [16] n (fun g s16 wx => ∃ (j : Nat), j + g = n ∧ s16 = .int .i64 (j : Int) ∧ Hid (Below w5.heap.size w5 wx))
        case atStart => exact ⟨0, by omega, rfl, hidI (Below.refl _ _)⟩
        case round =>
          obtain ⟨j, hjg, rfl, HBj⟩ := hrel
          cases gk with
          | zero =>
            obtain rfl : n = j := by omega
            have k3 : decide ((n : Int) < (n : Int)) = false := by simp
            have HB6 := hidI (HB5.out.trans (HBj.out.mono HS5.out))
            have HM6 := hidI (HM5.out.below HBj.out (Nat.le_refl _))
            have HS6 := hidI (Nat.le_trans HS5.out HBj.out.size)
            have C6 := hidI (pfor_any wr _ ms 9 HM6.out (by rw [HNM.out]; omega))
            rw [HF9.out] at C6
            have q22 := nil22
            go_wp2_with (go_at_call 8; refine Calls.mono C6.out ?_; rintro e w7 ⟨v7, rfl, hs7, hb7⟩; refine Hid.out ?_)
            refine hidI ?_
            obtain ⟨a7, c7, e7, _⟩ := hs7
            subst e7
            have HB7 := hidI (HB6.out.trans (hb7.mono HS6.out))
            have HM7 := hidI (HM6.out.below hb7 (Nat.le_refl _))
            have HS7 := hidI (Nat.le_trans HS6.out hb7.size)
            clear hb7 C6 HM6
            cases a7 with
            | none =>
              go_wp2
              go_ret
              exact ⟨rfl, HB7.out⟩
            | some ad =>
              have C7 := hidI (pfor_any w7 _ ms 9 HM7.out (by rw [HNM.out]; omega))
              rw [HF9.out] at C7
              go_wp2_with (go_at_call 8; refine Calls.mono C7.out ?_; rintro e w8 ⟨v8, rfl, hs8, hb8⟩; refine Hid.out ?_)
              refine hidI ?_
              obtain ⟨a8, c8, e8, _⟩ := hs8
              subst e8
              have HB8 := hidI (HB7.out.trans (hb8.mono HS7.out))
              clear hb8
              go_wp2
              go_ret
              exact ⟨rfl, HB8.out⟩
          | succ g =>
            have k3 : (j : Int) < (n : Int) := by omega
            obtain ⟨x, hx⟩ : ∃ x, (sortM ms)[j]? = some x := ⟨_, List.getElem?_eq_getElem (by have := HSL.out; omega)⟩
            obtain ⟨y, hy⟩ : ∃ y, ts[j]? = some y := ⟨_, List.getElem?_eq_getElem (by have := HT0.out; omega)⟩
            obtain ⟨b1, o1, d1, e1, x0, x1, x2⟩ := HX5.out.cell hx
            obtain ⟨b2, o2, d2, e2, y0, y1, y2⟩ := HY5.out.cell hx
            obtain ⟨b3, o3, d3, e3, z0, z1, z2⟩ := HD5.out.cell hy
            obtain ⟨b4, o4, d4, e4, t0, t1, t2⟩ := HT5.out.cell hy
            rw [HSL.out] at e1 e2
            rw [HT0.out] at e3 e4
            cases e1
            subst e2
            cases e3
            subst e4
            have kk : ∀ {p : Addr} {v : Value}, w5.cell? p = some v → ∀ d os, (grow (redrawn wr d) os).cell? p = some v := fun {p v} hc d os => cell_regrown ((HBj.out.cell (World.block_lt_of_cell? w5 _ hc)).trans hc) d os
            replace x0 := kk x0
            replace x1 := kk x1
            replace x2 := kk x2
            replace y0 := kk y0
            replace y1 := kk y1
            replace y2 := kk y2
            replace z0 := kk z0
            replace z1 := kk z1
            replace z2 := kk z2
            replace t0 := kk t0
            replace t1 := kk t1
            replace t2 := kk t2
            clear kk hx hy
            go_wp2
            refine wp_region_quiet_below (by kernel_rfl) (by kernel_rfl) ?_
            repeat (first | go_big_quiet_step (fail) | quiet_step (fail))
            refine wpQuiet_nil ?_
            intro _ hw'
            obtain ⟨⟨dq, osq⟩, hw''⟩ := hw'
            subst hw''
            have HW := hidI (HBj.out.trans ((below_regrown wr dq osq).mono HBj.out.size))
            generalize grow (redrawn wr dq) osq = w7 at *
            clear x0 x1 x2 y0 y1 y2 z0 z1 z2 t0 t1 t2
            go_wp2
            go_roundg g
            case measure => omega
            case rel => exact ⟨j + 1, by omega, by go_num, HW⟩
      · have k1 : (n : Int) < (L : Int) := by omega
        have k2 : decide ((n : Int) < 30) = false := by simp; omega
        have HE := hidI hE
        clear hE hE2 hnL
        go_wp2_with (go_at_call 4; refine Calls.mono C1.out ?_; rintro e w1 ⟨v1, rfl, hs1, hb1⟩; refine Hid.out ?_)
        refine hidI ?_
        have HB1 := hidI (HBx.out.trans (hb1.mono HSx.out))
        have HM1 := hidI (HM0.out.below hb1 (Nat.le_refl _))
        have HT1 := hidI hs1
        have HS1 := hidI (Nat.le_trans HSx.out hb1.size)
        clear hb1 hs1 C1 HM0
        have D2 := hidI (C2.out w1 v1 HT1.out)
        go_wp2_with (go_at_call 5; refine Calls.mono D2.out ?_; rintro e w2 ⟨u2, rfl, hs2, hb2, hr2⟩; refine Hid.out ?_)
        refine hidI ?_
        have HB2 := hidI (HB1.out.trans (hb2.mono HS1.out))
        have HM2 := hidI (HM1.out.below hb2 (Nat.le_refl _))
        have HT2 := hidI (HT1.out.below hb2 (Nat.le_refl _))
        have HS2 := hidI (Nat.le_trans HS1.out hb2.size)
        have D3 := hidI (C3.out w2 u2 hs2 hr2)
        obtain ⟨a2, c2, e2⟩ : ∃ a2 c2, u2 = .slice a2 (10 * n) c2 := by
          obtain ⟨_, a2, c2, e2, _⟩ := hs2
          rw [HTL.out] at e2
          exact ⟨a2, c2, e2⟩
        subst e2
        clear hb2 hs2 hr2 D2 C2 C3 HM1 HT1
        go_wp2_with (go_at_call 6; refine Calls.mono D3.out ?_; rintro e w3 ⟨hb3, v3, rfl, hs3⟩; refine Hid.out ?_)
        refine hidI ?_
        have HB3 := hidI (HB2.out.trans (hb3.mono HS2.out))
        have HM3 := hidI (HM2.out.below hb3 (Nat.le_refl _))
        have HT3 := hidI (HT2.out.below hb3 (Nat.le_refl _))
        have HS3 := hidI (Nat.le_trans HS2.out hb3.size)
        have HD3 := hidI hs3
        obtain ⟨a3, c3, e3⟩ : ∃ a3 c3, v3 = .slice a3 n c3 := by
          obtain ⟨a3, c3, e3, _⟩ := hs3
          rw [HT0.out] at e3
          exact ⟨a3, c3, e3⟩
        subst e3
        clear hb3 hs3 D3 HM2 HT2
        have C4 := hidI (psorted_any w3 _ _ HD3.out (by rw [HT0.out]; omega))
        rw [HPS.out] at C4
        have kM : (((10 * n : Nat) : Int) != 10 * (n : Int)) = false := by simp
        have kM2 : ((10 * (n : Int)) != 10 * (n : Int)) = false := by simp
        have kN : ((n : Int) != (n : Int)) = false := by simp
        go_wp2_with (go_at_call 7; refine Calls.mono C4.out ?_; rintro e w4 ⟨v4, rfl, hs4, hb4⟩; refine Hid.out ?_)
        refine hidI ?_
        have HB4 := hidI (HB3.out.trans (hb4.mono HS3.out))
        have HM4 := hidI (HM3.out.below hb4 (Nat.le_refl _))
        have HT4 := hidI (HT3.out.below hb4 (Nat.le_refl _))
        have HD4 := hidI (HD3.out.below hb4 (Nat.le_refl _))
        have HS4 := hidI (Nat.le_trans HS3.out hb4.size)
        have HX4 := hidI hs4
        clear hb4 hs4 C4 HM3 HT3 HD3
        have C5 := hidI (psorted_any w4 _ _ HM4.out (by rw [HNM.out]; omega))
        go_wp2_with (go_at_call 7; refine Calls.mono C5.out ?_; rintro e w5 ⟨v5, rfl, hs5, hb5⟩; refine Hid.out ?_)
        refine hidI ?_
        have HB5 := hidI (HB4.out.trans (hb5.mono HS4.out))
        have HM5 := hidI (HM4.out.below hb5 (Nat.le_refl _))
        have HT5 := hidI (HT4.out.below hb5 (Nat.le_refl _))
        have HD5 := hidI (HD4.out.below hb5 (Nat.le_refl _))
        have HX5 := hidI (HX4.out.below hb5 (Nat.le_refl _))
        have HS5 := hidI (Nat.le_trans HS4.out hb5.size)
        have HY5 := hidI hs5
        clear hb5 hs5 C5 HM4 HT4 HD4 HX4
        obtain ⟨a4, c4, e4⟩ : ∃ a4 c4, v4 = .slice a4 n c4 := by
          obtain ⟨a4, c4, e4, _⟩ := HX5.out
          rw [HSL.out] at e4
          exact ⟨a4, c4, e4⟩
        subst e4
        go_wp2
        go_loopg [16] n (fun g s16 wx => ∃ (j : Nat), j + g = n ∧ s16 = .int .i64 (j : Int) ∧ Hid (Below w5.heap.size w5 wx))
        case atStart => exact ⟨0, by omega, rfl, hidI (Below.refl _ _)⟩
        case round =>
          obtain ⟨j, hjg, rfl, HBj⟩ := hrel
          cases gk with
          | zero =>
            obtain rfl : n = j := by omega
            have k3 : decide ((n : Int) < (n : Int)) = false := by simp
            have HB6 := hidI (HB5.out.trans (HBj.out.mono HS5.out))
            have HM6 := hidI (HM5.out.below HBj.out (Nat.le_refl _))
            have HS6 := hidI (Nat.le_trans HS5.out HBj.out.size)
            have C6 := hidI (pfor_any wr _ ms 9 HM6.out (by rw [HNM.out]; omega))
            rw [HF9.out] at C6
            have q22 := nil22
            go_wp2_with (go_at_call 8; refine Calls.mono C6.out ?_; rintro e w7 ⟨v7, rfl, hs7, hb7⟩; refine Hid.out ?_)
            refine hidI ?_
            obtain ⟨a7, c7, e7, _⟩ := hs7
            subst e7
            have HB7 := hidI (HB6.out.trans (hb7.mono HS6.out))
            have HM7 := hidI (HM6.out.below hb7 (Nat.le_refl _))
            have HS7 := hidI (Nat.le_trans HS6.out hb7.size)
            clear hb7 C6 HM6
            cases a7 with
            | none =>
              go_wp2
              go_ret
              exact ⟨rfl, HB7.out⟩
            | some ad =>
              have C7 := hidI (pfor_any w7 _ ms 9 HM7.out (by rw [HNM.out]; omega))
              rw [HF9.out] at C7
              go_wp2_with (go_at_call 8; refine Calls.mono C7.out ?_; rintro e w8 ⟨v8, rfl, hs8, hb8⟩; refine Hid.out ?_)
              refine hidI ?_
              obtain ⟨a8, c8, e8, _⟩ := hs8
              subst e8
              have HB8 := hidI (HB7.out.trans (hb8.mono HS7.out))
              clear hb8
              go_wp2
              go_ret
              exact ⟨rfl, HB8.out⟩
          | succ g =>
            have k3 : (j : Int) < (n : Int) := by omega
            obtain ⟨x, hx⟩ : ∃ x, (sortM ms)[j]? = some x := ⟨_, List.getElem?_eq_getElem (by have := HSL.out; omega)⟩
            obtain ⟨y, hy⟩ : ∃ y, ts[j]? = some y := ⟨_, List.getElem?_eq_getElem (by have := HT0.out; omega)⟩
            obtain ⟨b1, o1, d1, e1, x0, x1, x2⟩ := HX5.out.cell hx
            obtain ⟨b2, o2, d2, e2, y0, y1, y2⟩ := HY5.out.cell hx
            obtain ⟨b3, o3, d3, e3, z0, z1, z2⟩ := HD5.out.cell hy
            obtain ⟨b4, o4, d4, e4, t0, t1, t2⟩ := HT5.out.cell hy
            rw [HSL.out] at e1 e2
            rw [HT0.out] at e3 e4
            cases e1
            subst e2
            cases e3
            subst e4
            have kk : ∀ {p : Addr} {v : Value}, w5.cell? p = some v → ∀ d os, (grow (redrawn wr d) os).cell? p = some v := fun {p v} hc d os => cell_regrown ((HBj.out.cell (World.block_lt_of_cell? w5 _ hc)).trans hc) d os
            replace x0 := kk x0
            replace x1 := kk x1
            replace x2 := kk x2
            replace y0 := kk y0
            replace y1 := kk y1
            replace y2 := kk y2
            replace z0 := kk z0
            replace z1 := kk z1
            replace z2 := kk z2
            replace t0 := kk t0
            replace t1 := kk t1
            replace t2 := kk t2
            clear kk hx hy
            go_wp2
            refine wp_region_quiet_below (by kernel_rfl) (by kernel_rfl) ?_
            repeat (first | go_big_quiet_step (fail) | quiet_step (fail))
            refine wpQuiet_nil ?_
            intro _ hw'
            obtain ⟨⟨dq, osq⟩, hw''⟩ := hw'
            subst hw''
            have HW := hidI (HBj.out.trans ((below_regrown wr dq osq).mono HBj.out.size))
            generalize grow (redrawn wr dq) osq = w7 at *
            clear x0 x1 x2 y0 y1 y2 z0 z1 z2 t0 t1 t2
            go_wp2
            go_roundg g
            case measure => omega
            case rel => exact ⟨j + 1, by omega, by go_num, HW⟩
theorem topPosted_walk {w : World} (v : Value) (xs : List Msg) (hv : SeesM w v xs) (hi : ∀ x ∈ xs, x.inr) (k : Nat) (hk : k < 18446744073709551616) :
    Calls Try.prog 3 #[v, .int .u64 k] w fun e w' => e = .returned (.bool true) ∧ Below w.heap.size w w' := topPosted_law w v xs hv hi k hk
end Go.Proofs.Ytdfieflcclbgjab
