/-
  Workers that are dealt nodes in turns cut no more edges than there are: the law TopDealt, walked.
-/
import Derived.Test.YtjlnnpcaeikolaaPMath
namespace Go.Proofs.Ytjlnnpcaeikolaa
open Go.RowKit Go.Deep
set_option maxRecDepth 100000 in
set_option maxHeartbeats 8000000 in
theorem dealt_in (x y : Nat) (hx : x < 256) (hy : y < 256) (kk : Nat) (hkk : kk < 18446744073709551616) (lvv : Value) (fs : Edges) (w : World) (hs : SeesE w lvv fs) (h40 : fs.length ≤ 40) :
    Calls Try.prog 7 #[.agg #[.int .u8 (x : Int), .int .u8 (y : Int)], .int .u64 (kk : Int), lvv] w fun e w' => e = .returned (.bool true) ∧ Below w.heap.size w w' := by
  have HS := hidI hs
  obtain ⟨m, hm⟩ : ∃ m, fs.length = m := ⟨_, rfl⟩
  have hlv : ∃ la lcap, lvv = .slice la m lcap := by obtain ⟨a, c, h, _⟩ := hs; exact ⟨a, c, by rw [← hm]; exact h⟩
  obtain ⟨la, lcap, rfl⟩ := hlv
  rw [hm] at h40
  have hd : decide ((40 : Int) < (m : Int)) = false := by simp; omega
  have HM := hidI hm
  clear hs hm
  obtain ⟨N, hN⟩ : ∃ N, x % 12 + 1 = N := ⟨_, rfl⟩
  obtain ⟨K, hK⟩ : ∃ K, y % 4 + 1 = K := ⟨_, rfl⟩
  have hN1 : 1 ≤ N ∧ N ≤ 12 := by omega
  have hK1 : 1 ≤ K ∧ K ≤ 4 := by omega
  have t1 : ((x : Int)).tmod 12 = ((N - 1 : Nat) : Int) := by rw [show (12 : Int) = ((12 : Nat) : Int) from rfl, tmod_nat]; congr 1; omega
  have t2 : ((y : Int)).tmod 4 = ((K - 1 : Nat) : Int) := by rw [show (4 : Int) = ((4 : Nat) : Int) from rfl, tmod_nat]; congr 1; omega
  obtain ⟨N0, hN0⟩ : ∃ N0, N - 1 = N0 := ⟨_, rfl⟩
  obtain ⟨K0, hK0⟩ : ∃ K0, K - 1 = K0 := ⟨_, rfl⟩
  rw [hN0] at t1
  rw [hK0] at t2
  have wx : IntKind.i64.wrap (x : Int) = (x : Int) := wrap_small (by omega) (by omega)
  have wy : IntKind.i64.wrap (y : Int) = (y : Int) := wrap_small (by omega) (by omega)
  have w1 : IntKind.i64.wrap (N0 : Int) = (N0 : Int) := wrap_small (by omega) (by omega)
  have w2 : IntKind.i64.wrap (K0 : Int) = (K0 : Int) := wrap_small (by omega) (by omega)
  have w3 : IntKind.i64.wrap ((N0 : Int) + 1) = (N : Int) := by rw [wrap_small (by omega) (by omega)]; omega
  have w4 : IntKind.i64.wrap ((K0 : Int) + 1) = (K : Int) := by rw [wrap_small (by omega) (by omega)]; omega
  clear hN hK hN0 hK0
  go_enter Try.func7, Try.ntmps7
  go_wp2
  go_quiet (fail)
  generalize nq = n1
  have HB0 : Hid (Below w.heap.size w ((w.alloc (.cells #[.int .u8 (x : Int), .int .u8 (y : Int)] 39)).drewN n1)) := below_dn ((Below.refl _ w).alloc (Nat.le_refl _) _) n1
  obtain ⟨W, hW⟩ : ∃ W, (w.alloc (.cells #[.int .u8 (x : Int), .int .u8 (y : Int)] 39)).drewN n1 = W := ⟨_, rfl⟩
  rw [hW] at HB0 ⊢
  clear hW t1 t2 wx wy w1 w2 w3 w4
  have CS := hidI (spread_ok N K (by unfold mayP; omega) kk hkk W)
  go_wp2_with (go_at_call 27; refine Calls.mono CS.out ?_; rintro e w1 ⟨sv, ps, rfl, hpl, hst, hs1, hb1⟩; refine Hid.out ?_)
  refine hidI ?_
  have HRT := hidI (right_of_steps hst hpl (by omega))
  have HPL := hidI hpl
  have HB1 := hidI (HB0.out.trans (hb1.mono HB0.out.size))
  have CN := hidI (new_ok N K (by unfold mayP; omega) sv (sprL ps K N) w1 hs1)
  clear CS hst hpl hs1 hb1 HB0
  go_wp2_with (go_at_call 8; refine Calls.mono CN.out ?_; rintro e w2 ⟨pb, rfl, hp2, hb2⟩; refine Hid.out ?_)
  refine hidI ?_
  have HB2 := hidI (HB1.out.trans (hb2.mono HB1.out.size))
  have HP2 := hidI hp2
  have HEV := hidI (sprL_even HRT.out (k := K) (n := N) (by omega) (by omega) HPL.out (by omega))
  obtain ⟨wk, hwk⟩ : ∃ wk, wkOf K (sprL ps K N) = wk := ⟨_, rfl⟩
  rw [hwk] at HP2 HEV
  have HS2 := hidI (HS.out.below HB2.out (Nat.le_refl _))
  clear CN hp2 hb2 HB1 hwk HRT HPL
  go_wp2
  go_loopg [10, 11] K (fun g s10 s11 wr => ∃ (u : Nat), u + g = K ∧ s11 = .int .i64 u ∧ s10 = .int .i64 (lens N wk u : Int) ∧ Below w2.heap.size w2 wr)
  case atStart => exact ⟨0, by omega, rfl, rfl, Below.refl _ _⟩
  case round =>
    obtain ⟨u, hug, rfl, rfl, hbl⟩ := hrel
    have HB := hidI hbl
    cases gk with
    | succ g =>
      have huK : u < K := by omega
      have huK2 : (u : Int) < (K : Int) := by omega
      have CO := hidI (order_any (some ⟨pb, 0, none⟩) N K wk (u : Int) kk hkk wr (HP2.out.below hbl (Nat.le_refl _)))
      have hl1 := lens_le N wk (u + 1)
      rw [memI_nat huK] at CO
      have hl2 : lens N wk (u + 1) = lens N wk u + (mem N wk u).length := rfl
      have HL2 := hidI hl2
      obtain ⟨s, hs⟩ : ∃ s, lens N wk u = s := ⟨_, rfl⟩
      rw [hs] at hl2 HL2 ⊢
      obtain ⟨q, hq⟩ : ∃ q, (mem N wk u).length = q := ⟨_, rfl⟩
      rw [hq] at hl2 HL2 CO
      rw [hl2] at hl1
      clear hbl hl2 hs hq
      go_wp2_with (go_at_call 16; refine Calls.mono CO.out ?_; rintro e w3 ⟨ov, qs, rfl, hql, _, hs3, hb3⟩; refine Hid.out ?_)
      refine hidI ?_
      have HB3 := hidI (HB.out.trans (hb3.mono HB.out.size))
      obtain ⟨oa, ocap, rfl, _⟩ := hs3
      have hol : (Perm.turnL qs (mem N wk u)).length = q := by rw [Perm.turnL_length, hql]
      rw [hol]
      clear CO hol hb3 hql
      go_wp2
      go_roundg g
      case measure => omega
      case rel => exact ⟨u + 1, by omega, by go_num, by rw [HL2.out]; go_num, HB3.out⟩
    | zero =>
      have huK : u = K := by omega
      subst huK
      have hall := lens_all HP2.out.lt
      rw [hall]
      have CE : Hid (Calls Try.prog 25 #[.pointer (some ⟨pb, 0, none⟩)] wr fun e w' => e = .returned (.bool true) ∧ Below wr.heap.size wr w') := by
        have := even_some pb N u wk wr (HP2.out.below hbl (Nat.le_refl _))
        rw [HEV.out] at this
        exact this
      have hle : cutP N wk fs ≤ m := by have := cutP_le N wk fs; rw [HM.out] at this; exact this
      have CC : Hid (∀ W', Below w2.heap.size w2 W' → Calls Try.prog 23 #[.pointer (some ⟨pb, 0, none⟩), .slice la m lcap] W' fun e w' => e = .returned (.int .i64 (cutP N wk fs : Int)) ∧ Below W'.heap.size W' w') := fun W' hb => cut_any _ _ _ _ _ fs W' (HP2.out.below hb (Nat.le_refl _)) (HS2.out.below hb (Nat.le_refl _)) (by rw [HM.out]; omega)
      obtain ⟨c, hc⟩ : ∃ c, cutP N wk fs = c := ⟨_, rfl⟩
      rw [hc] at hle CC
      have hle2 : (c : Int) ≤ (m : Int) := by omega
      clear hall hbl hc
      go_wp2_with (go_at_call 25; refine Calls.mono CE.out ?_; rintro e w3 ⟨rfl, hb3⟩; refine Hid.out ?_)
      refine hidI ?_
      have HB3 := hidI (HB.out.trans (hb3.mono HB.out.size))
      have C1 := hidI (CC.out w3 HB3.out)
      clear CE hb3 HB
      go_wp2_with (go_at_call 23; refine Calls.mono C1.out ?_; rintro e w4 ⟨rfl, hb4⟩; refine Hid.out ?_)
      refine hidI ?_
      have HB4 := hidI (HB3.out.trans (hb4.mono HB3.out.size))
      have C2 := hidI (CC.out w4 HB4.out)
      clear C1 hb4 HB3
      go_wp2_with (go_at_call 23; refine Calls.mono C2.out ?_; rintro e w5 ⟨rfl, hb5⟩; refine Hid.out ?_)
      refine hidI ?_
      have HB5 := hidI (HB2.out.trans ((HB4.out.trans (hb5.mono HB4.out.size)).mono HB2.out.size))
      clear C2 CC hb5 HB4
      go_wp2
      go_ret
      exact ⟨rfl, HB5.out⟩
set_option maxRecDepth 100000 in
set_option maxHeartbeats 8000000 in
theorem dealt_over (x y : Nat) (hx : x < 256) (hy : y < 256) (kk : Nat) (hkk : kk < 18446744073709551616) (ux : Addr) (len lcap : Nat) (fs : Edges) (w : World) (hs : SeesE w (.slice (some ux) 40 lcap) fs) (hlen : 40 < len) (hcap : len ≤ lcap) (hmx : lcap ≤ 9223372036854775807) :
    Calls Try.prog 7 #[.agg #[.int .u8 (x : Int), .int .u8 (y : Int)], .int .u64 (kk : Int), .slice (some ux) len lcap] w fun e w' => e = .returned (.bool true) ∧ Below w.heap.size w w' := by
  have HS := hidI hs
  have hm : fs.length = 40 := by obtain ⟨a, c, h, _⟩ := hs; simp only [Value.slice.injEq] at h; omega
  have h100 : (40 : Int) < (len : Int) := by omega
  have HM := hidI hm
  clear hs hm
  obtain ⟨N, hN⟩ : ∃ N, x % 12 + 1 = N := ⟨_, rfl⟩
  obtain ⟨K, hK⟩ : ∃ K, y % 4 + 1 = K := ⟨_, rfl⟩
  have hN1 : 1 ≤ N ∧ N ≤ 12 := by omega
  have hK1 : 1 ≤ K ∧ K ≤ 4 := by omega
  have t1 : ((x : Int)).tmod 12 = ((N - 1 : Nat) : Int) := by rw [show (12 : Int) = ((12 : Nat) : Int) from rfl, tmod_nat]; congr 1; omega
  have t2 : ((y : Int)).tmod 4 = ((K - 1 : Nat) : Int) := by rw [show (4 : Int) = ((4 : Nat) : Int) from rfl, tmod_nat]; congr 1; omega
  obtain ⟨N0, hN0⟩ : ∃ N0, N - 1 = N0 := ⟨_, rfl⟩
  obtain ⟨K0, hK0⟩ : ∃ K0, K - 1 = K0 := ⟨_, rfl⟩
  rw [hN0] at t1
  rw [hK0] at t2
  have wx : IntKind.i64.wrap (x : Int) = (x : Int) := wrap_small (by omega) (by omega)
  have wy : IntKind.i64.wrap (y : Int) = (y : Int) := wrap_small (by omega) (by omega)
  have w1 : IntKind.i64.wrap (N0 : Int) = (N0 : Int) := wrap_small (by omega) (by omega)
  have w2 : IntKind.i64.wrap (K0 : Int) = (K0 : Int) := wrap_small (by omega) (by omega)
  have w3 : IntKind.i64.wrap ((N0 : Int) + 1) = (N : Int) := by rw [wrap_small (by omega) (by omega)]; omega
  have w4 : IntKind.i64.wrap ((K0 : Int) + 1) = (K : Int) := by rw [wrap_small (by omega) (by omega)]; omega
  clear hN hK hN0 hK0
  go_enter Try.func7, Try.ntmps7
  go_wp2
  go_quiet (fail)
  generalize nq = n1
  have HB0 : Hid (Below w.heap.size w ((w.alloc (.cells #[.int .u8 (x : Int), .int .u8 (y : Int)] 39)).drewN n1)) := below_dn ((Below.refl _ w).alloc (Nat.le_refl _) _) n1
  obtain ⟨W, hW⟩ : ∃ W, (w.alloc (.cells #[.int .u8 (x : Int), .int .u8 (y : Int)] 39)).drewN n1 = W := ⟨_, rfl⟩
  rw [hW] at HB0 ⊢
  clear hW t1 t2 wx wy w1 w2 w3 w4
  have CS := hidI (spread_ok N K (by unfold mayP; omega) kk hkk W)
  go_wp2_with (go_at_call 27; refine Calls.mono CS.out ?_; rintro e w1 ⟨sv, ps, rfl, hpl, hst, hs1, hb1⟩; refine Hid.out ?_)
  refine hidI ?_
  have HRT := hidI (right_of_steps hst hpl (by omega))
  have HPL := hidI hpl
  have HB1 := hidI (HB0.out.trans (hb1.mono HB0.out.size))
  have CN := hidI (new_ok N K (by unfold mayP; omega) sv (sprL ps K N) w1 hs1)
  clear CS hst hpl hs1 hb1 HB0
  go_wp2_with (go_at_call 8; refine Calls.mono CN.out ?_; rintro e w2 ⟨pb, rfl, hp2, hb2⟩; refine Hid.out ?_)
  refine hidI ?_
  have HB2 := hidI (HB1.out.trans (hb2.mono HB1.out.size))
  have HP2 := hidI hp2
  have HEV := hidI (sprL_even HRT.out (k := K) (n := N) (by omega) (by omega) HPL.out (by omega))
  obtain ⟨wk, hwk⟩ : ∃ wk, wkOf K (sprL ps K N) = wk := ⟨_, rfl⟩
  rw [hwk] at HP2 HEV
  have HS2 := hidI (HS.out.below HB2.out (Nat.le_refl _))
  clear CN hp2 hb2 HB1 hwk HRT HPL
  go_wp2
  go_loopg [10, 11] K (fun g s10 s11 wr => ∃ (u : Nat), u + g = K ∧ s11 = .int .i64 u ∧ s10 = .int .i64 (lens N wk u : Int) ∧ Below w2.heap.size w2 wr)
  case atStart => exact ⟨0, by omega, rfl, rfl, Below.refl _ _⟩
  case round =>
    obtain ⟨u, hug, rfl, rfl, hbl⟩ := hrel
    have HB := hidI hbl
    cases gk with
    | succ g =>
      have huK : u < K := by omega
      have huK2 : (u : Int) < (K : Int) := by omega
      have CO := hidI (order_any (some ⟨pb, 0, none⟩) N K wk (u : Int) kk hkk wr (HP2.out.below hbl (Nat.le_refl _)))
      have hl1 := lens_le N wk (u + 1)
      rw [memI_nat huK] at CO
      have hl2 : lens N wk (u + 1) = lens N wk u + (mem N wk u).length := rfl
      have HL2 := hidI hl2
      obtain ⟨s, hs⟩ : ∃ s, lens N wk u = s := ⟨_, rfl⟩
      rw [hs] at hl2 HL2 ⊢
      obtain ⟨q, hq⟩ : ∃ q, (mem N wk u).length = q := ⟨_, rfl⟩
      rw [hq] at hl2 HL2 CO
      rw [hl2] at hl1
      clear hbl hl2 hs hq
      go_wp2_with (go_at_call 16; refine Calls.mono CO.out ?_; rintro e w3 ⟨ov, qs, rfl, hql, _, hs3, hb3⟩; refine Hid.out ?_)
      refine hidI ?_
      have HB3 := hidI (HB.out.trans (hb3.mono HB.out.size))
      obtain ⟨oa, ocap, rfl, _⟩ := hs3
      have hol : (Perm.turnL qs (mem N wk u)).length = q := by rw [Perm.turnL_length, hql]
      rw [hol]
      clear CO hol hb3 hql
      go_wp2
      go_roundg g
      case measure => omega
      case rel => exact ⟨u + 1, by omega, by go_num, by rw [HL2.out]; go_num, HB3.out⟩
    | zero =>
      have huK : u = K := by omega
      subst huK
      have hall := lens_all HP2.out.lt
      rw [hall]
      have CE : Hid (Calls Try.prog 25 #[.pointer (some ⟨pb, 0, none⟩)] wr fun e w' => e = .returned (.bool true) ∧ Below wr.heap.size wr w') := by
        have := even_some pb N u wk wr (HP2.out.below hbl (Nat.le_refl _))
        rw [HEV.out] at this
        exact this
      have hle : cutP N wk fs ≤ 40 := by have := cutP_le N wk fs; rw [HM.out] at this; exact this
      have CC : Hid (∀ W', Below w2.heap.size w2 W' → Calls Try.prog 23 #[.pointer (some ⟨pb, 0, none⟩), .slice (some ux) 40 lcap] W' fun e w' => e = .returned (.int .i64 (cutP N wk fs : Int)) ∧ Below W'.heap.size W' w') := fun W' hb => cut_any _ _ _ _ _ fs W' (HP2.out.below hb (Nat.le_refl _)) (HS2.out.below hb (Nat.le_refl _)) (by rw [HM.out]; omega)
      obtain ⟨c, hc⟩ : ∃ c, cutP N wk fs = c := ⟨_, rfl⟩
      rw [hc] at hle CC
      have hle2 : (c : Int) ≤ (40 : Int) := by omega
      clear hall hbl hc
      go_wp2_with (go_at_call 25; refine Calls.mono CE.out ?_; rintro e w3 ⟨rfl, hb3⟩; refine Hid.out ?_)
      refine hidI ?_
      have HB3 := hidI (HB.out.trans (hb3.mono HB.out.size))
      have C1 := hidI (CC.out w3 HB3.out)
      clear CE hb3 HB
      go_wp2_with (go_at_call 23; refine Calls.mono C1.out ?_; rintro e w4 ⟨rfl, hb4⟩; refine Hid.out ?_)
      refine hidI ?_
      have HB4 := hidI (HB3.out.trans (hb4.mono HB3.out.size))
      have C2 := hidI (CC.out w4 HB4.out)
      clear C1 hb4 HB3
      go_wp2_with (go_at_call 23; refine Calls.mono C2.out ?_; rintro e w5 ⟨rfl, hb5⟩; refine Hid.out ?_)
      refine hidI ?_
      have HB5 := hidI (HB2.out.trans ((HB4.out.trans (hb5.mono HB4.out.size)).mono HB2.out.size))
      clear C2 CC hb5 HB4
      go_wp2
      go_ret
      exact ⟨rfl, HB5.out⟩
/-- As the statement has its arguments. -/
theorem topDealt_any (x y : Nat) (hx : x < 256) (hy : y < 256) (kk : Nat) (hkk : kk < 18446744073709551616) {W : World} (v : Value) (es : Edges) (hv : ArgE W v es) (_ : ∀ x ∈ es, Wf x.1 ∧ Wf x.2) :
    Calls Try.prog 7 #[.agg #[.int .u8 (x : Int), .int .u8 (y : Int)], .int .u64 (kk : Int), v] W fun e w' => e = .returned (.bool true) ∧ Below W.heap.size W w' := by
  by_cases hl : es.length ≤ 40
  · exact dealt_in x y hx hy kk hkk v es W hv.1 hl
  · obtain ⟨⟨a, cap, rfl, hs⟩, a', len', cap', he, q1, q2⟩ := hv
    cases he
    rcases hs with h0 | ⟨b, off, rfl, hc⟩
    · subst h0; simp at hl
    have e40 : (es.take 40).length = 40 := by rw [List.length_take]; omega
    refine dealt_over x y hx hy kk hkk _ _ _ (es.take 40) W ⟨some ⟨b, off, none⟩, cap, by rw [e40], .inr ⟨b, off, rfl, fun j x hx => hc j x ?_⟩⟩ (by omega) q1 q2
    rw [List.getElem?_take] at hx
    split at hx
    · exact hx
    · cases hx
end Go.Proofs.Ytjlnnpcaeikolaa
