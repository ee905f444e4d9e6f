/-
  Whose each node is, each worker's nodes, and their order, is just what the document says: the law PartsPlays, walked.
-/
import Derived.Test.YtjlnnpcaeikolaaPSpread
namespace Go.Proofs.Ytjlnnpcaeikolaa
open Go.RowKit Go.Deep
def cntOf (a b c : Int) : Nat := if 1 ≤ a ∧ a ≤ 12 ∧ 1 ≤ b ∧ b ≤ 4 then c.toNat else 0
theorem cntOf_yes {a b c : Int} (h : mayP a b) : cntOf a b c = c.toNat := by unfold cntOf; unfold mayP at h; rw [if_pos h]
theorem cntOf_no {a b c : Int} (h : ¬ mayP a b) : cntOf a b c = 0 := by unfold cntOf; unfold mayP at h; rw [if_neg h]
theorem new_any (a b : Int) (v0 : Value) (bys : List Int) (w : World) (hv : Sees w v0 bys) :
    Calls Try.prog 8 #[.int .i64 a, .int .i64 b, v0] w fun e w' => ∃ pp, e = .returned (.pointer pp) ∧ IsP w' pp (cntOf a b a) (cntOf a b b) (wkOf (cntOf a b b) bys) ∧ Below w.heap.size w w' := by
  by_cases h : mayP a b
  · obtain ⟨n, rfl⟩ : ∃ n : Nat, a = n := ⟨a.toNat, by unfold mayP at h; omega⟩
    obtain ⟨k, rfl⟩ : ∃ k : Nat, b = k := ⟨b.toNat, by unfold mayP at h; omega⟩
    rw [cntOf_yes h, cntOf_yes h]
    simp only [Int.toNat_natCast]
    refine (new_ok n k h v0 bys w hv).mono ?_
    rintro e w' ⟨pb, rfl, h1, h2⟩
    exact ⟨_, rfl, h1, h2⟩
  · rw [cntOf_no h, cntOf_no h]
    obtain ⟨x, c, rfl, _⟩ := hv
    refine (new_nil a b x _ c w h).mono ?_
    rintro e w' ⟨rfl, rfl⟩
    exact ⟨none, rfl, .inl ⟨rfl, rfl, rfl⟩, Below.refl _ _⟩
theorem rnew_any (a b : Int) (v0 : Value) (bys : List Int) (w : World) (hv : Sees w v0 bys) :
    Calls Try.prog 10 #[.int .i64 a, .int .i64 b, v0] w fun e w' => ∃ rp, e = .returned (.pointer rp) ∧ IsR w' rp (cntOf a b a) (cntOf a b b) (wkOf (cntOf a b b) bys) ∧ Below w.heap.size w w' := by
  by_cases h : mayP a b
  · obtain ⟨n, rfl⟩ : ∃ n : Nat, a = n := ⟨a.toNat, by unfold mayP at h; omega⟩
    obtain ⟨k, rfl⟩ : ∃ k : Nat, b = k := ⟨b.toNat, by unfold mayP at h; omega⟩
    rw [cntOf_yes h, cntOf_yes h]
    simp only [Int.toNat_natCast]
    refine (rnew_ok n k h v0 bys w hv).mono ?_
    rintro e w' ⟨pb, rfl, h1, h2⟩
    exact ⟨_, rfl, h1, h2⟩
  · rw [cntOf_no h, cntOf_no h]
    obtain ⟨x, c, rfl, _⟩ := hv
    refine (rnew_nil a b x _ c w h).mono ?_
    rintro e w' ⟨rfl, rfl⟩
    exact ⟨none, rfl, .inl ⟨rfl, rfl, rfl⟩, Below.refl _ _⟩
set_option maxRecDepth 100000 in
set_option maxHeartbeats 16000000 in
theorem plays_in (a b : Int) (v0 : Value) (bys : List Int) (lvv : Value) (fs : Edges) (w : World) (ha : ArgI w v0 bys) (hs : SeesE w lvv fs) (h40 : fs.length ≤ 40) :
    Calls Try.prog 3 #[.agg #[.int .i64 a, .int .i64 b], v0, lvv] w fun e w' => e = .returned (.bool true) ∧ Below w.heap.size w w' := by
  have HS := hidI hs
  have HA1 := hidI ha.1
  have HA2 := hidI ha.2
  obtain ⟨m, hm⟩ : ∃ m, fs.length = m := ⟨_, rfl⟩
  have hlv : ∃ la lcap, lvv = .slice la m lcap := by obtain ⟨a, c, h, _⟩ := hs; exact ⟨a, c, by rw [← hm]; exact h⟩
  obtain ⟨la, lcap, rfl⟩ := hlv
  rw [hm] at h40
  have hd : decide ((40 : Int) < (m : Int)) = false := by simp; omega
  have HM := hidI hm
  clear hs hm
  have HB0 : Hid (Below w.heap.size w (w.alloc (.cells #[.int .i64 a, .int .i64 b] 22))) := (Below.refl _ w).alloc (Nat.le_refl _) _
  have c0 : (w.alloc (.cells #[.int .i64 a, .int .i64 b] 22)).cell? ⟨w.heap.size, 0, none⟩ = some (.int .i64 a) := cell_pair0 _ _ _ _
  have c1 : (w.alloc (.cells #[.int .i64 a, .int .i64 b] 22)).cell? ⟨w.heap.size, 1, none⟩ = some (.int .i64 b) := cell_pair1 _ _ _ _
  have hsz : (w.alloc (.cells #[.int .i64 a, .int .i64 b] 22)).heap.size = w.heap.size + 1 := by simp
  have HC0 := hidI c0
  have HC1 := hidI c1
  have HSZ := hidI hsz
  clear c0 c1 hsz ha
  go_enter Try.func3, Try.ntmps3
  go_wp2
  obtain ⟨W, hW⟩ : ∃ W, w.alloc (.cells #[.int .i64 a, .int .i64 b] 22) = W := ⟨_, rfl⟩
  rw [hW] at HB0 HC0 HC1 HSZ ⊢
  clear hW
  have F0 : Hid (∀ u, Below W.heap.size W u → u.cell? ⟨w.heap.size, 0, none⟩ = some (.int .i64 a)) := fun u hu => (hu.cell (p := ⟨w.heap.size, 0, none⟩) (by rw [HSZ.out]; simp)).trans HC0.out
  have F1 : Hid (∀ u, Below W.heap.size W u → u.cell? ⟨w.heap.size, 1, none⟩ = some (.int .i64 b)) := fun u hu => (hu.cell (p := ⟨w.heap.size, 1, none⟩) (by rw [HSZ.out]; simp)).trans HC1.out
  have CF : Hid (∀ u, Below W.heap.size W u → Calls Try.prog 9 #[v0] u fun e w' => ∃ x, e = .returned x ∧ Sees u x (bys.take 20) ∧ u = w') := fun u hu => few_any v0 bys u ⟨HA1.out.below (HB0.out.trans (hu.mono HB0.out.size)) (Nat.le_refl _), HA2.out⟩
  have CN : Hid (∀ (u : World) (x : Value), Below W.heap.size W u → Sees u x (bys.take 20) → Calls Try.prog 8 #[.int .i64 a, .int .i64 b, x] u fun e w' => ∃ pp, e = .returned (.pointer pp) ∧ IsP w' pp (cntOf a b a) (cntOf a b b) (wkOf (cntOf a b b) (bys.take 20)) ∧ Below u.heap.size u w' ∧ Below W.heap.size W w') := fun u x hu hx => by
    refine (new_any a b x _ u hx).mono ?_
    rintro e w' ⟨pp, rfl, h1, h2⟩
    exact ⟨pp, rfl, h1, h2, hu.trans (h2.mono hu.size)⟩
  have CR : Hid (∀ (u : World) (x : Value), Below W.heap.size W u → Sees u x (bys.take 20) → Calls Try.prog 10 #[.int .i64 a, .int .i64 b, x] u fun e w' => ∃ pp, e = .returned (.pointer pp) ∧ IsR w' pp (cntOf a b a) (cntOf a b b) (wkOf (cntOf a b b) (bys.take 20)) ∧ Below u.heap.size u w' ∧ Below W.heap.size W w') := fun u x hu hx => by
    refine (rnew_any a b x _ u hx).mono ?_
    rintro e w' ⟨pp, rfl, h1, h2⟩
    exact ⟨pp, rfl, h1, h2, hu.trans (h2.mono hu.size)⟩
  have s0 : Hid (Below W.heap.size W W.drew) := (Below.refl _ W).drew
  clear HC0 HC1 HSZ
  generalize cntOf a b a = n at *
  generalize cntOf a b b = k at *
  go_region_held3 (fun w' => Hid (Below W.heap.size W w') ∧ w'.cell? ⟨w.heap.size, 0, none⟩ = some (.int .i64 a) ∧ w'.cell? ⟨w.heap.size, 1, none⟩ = some (.int .i64 b))
    (first | assumption | exact ⟨kr, F0.out _ kr.out, F1.out _ kr.out⟩ | exact ⟨kk, F0.out _ kk.out, F1.out _ kk.out⟩ | exact ⟨s0, F0.out _ s0.out, F1.out _ s0.out⟩)
    ((first | (go_at_call 9; refine Calls.mono (CF.out _ (by first | exact kk.out | exact s0.out)) ?_; rintro e w' ⟨xx, rfl, hxx, rfl⟩; have XX := hidI hxx; clear hxx) | (go_at_call 8; refine Calls.mono (CN.out _ _ (by exact s0.out) XX.out) ?_; rintro e w1 ⟨pp, rfl, hp1, hb1, hb1'⟩; have PP := hidI hp1; have kk := hidI hb1'; clear hp1 hb1 hb1' XX) | (go_at_call 10; refine Calls.mono (CR.out _ _ (by exact kk.out) XX.out) ?_; rintro e w2 ⟨rp, rfl, hr2, hb2, hb2'⟩; have RR := hidI hr2; have PP2 := hidI (PP.out.below hb2 (Nat.le_refl _)); have kr := hidI hb2'; clear hr2 hb2 hb2' XX PP)))
  all_goals
    have HB2 := hidI (HB0.out.trans (kr.out.mono HB0.out.size))
    have HS2 := hidI (HS.out.below HB2.out (Nat.le_refl _))
    have HK := hidI PP2.out.lt
    have h12 := PP2.out.le
    clear F0 F1 CF CN CR kk kr s0 HB0 HS HA1 HA2
    generalize wkOf k (List.take 20 bys) = wk at *
    go_wp2
    go_loopg [9] 14 (fun g s9 wr => ∃ (i : Nat) (z : Int), i + g = 14 ∧ s9 = .int .i64 z ∧ z = (i : Int) - 1 ∧ Below w2.heap.size w2 wr)
    case atStart => exact ⟨0, -1, by omega, rfl, by omega, Below.refl _ _⟩
    case round =>
      obtain ⟨i, z, hig, rfl, hzi, hbl⟩ := hrel
      have HB := hidI hbl
      cases gk with
      | zero =>
        have hz13 : z = 13 := by omega
        subst hz13
        have CL := hidI (live_any wr)
        clear hzi hig hbl
        go_wp2_with (go_at_call 18; refine Calls.mono CL.out ?_; rintro e w3 ⟨rfl, hb3⟩; refine Hid.out ?_)
        refine hidI ?_
        have HB3 := hidI (HB.out.trans (hb3.mono HB.out.size))
        have P3 := hidI (PP2.out.below HB3.out (Nat.le_refl _))
        have R3 := hidI (RR.out.below HB3.out (Nat.le_refl _))
        have C19 := hidI (workers_any _ _ _ _ w3 P3.out)
        have C20 := hidI (rworkers_any _ _ _ _ w3 R3.out)
        have C21 := hidI (nodes_any _ _ _ _ w3 P3.out)
        have C22 := hidI (rnodes_any _ _ _ _ w3 R3.out)
        have C23 := hidI (cut_any _ _ _ _ _ fs w3 P3.out (HS2.out.below HB3.out (Nat.le_refl _)) (by rw [HM.out]; omega))
        have hle : cutP n wk fs ≤ m := by have := cutP_le n wk fs; rw [HM.out] at this; exact this
        obtain ⟨c, hc⟩ : ∃ c, cutP n wk fs = c := ⟨_, rfl⟩
        rw [hc] at C23 hle
        have HCE := hidI hc
        clear CL hb3 HB hc
        rcases P3.out with ⟨rfl, hn0, hk0⟩ | ⟨pb, rfl, hm1, _⟩
        · have hrn : rp = none := by
            rcases R3.out with ⟨rfl, _⟩ | ⟨_, _, _, h, _⟩
            · rfl
            · omega
          subst hrn
          go_wp2_with (first | (go_at_call 19; refine Calls.mono C19.out ?_; rintro e w' ⟨rfl, rfl⟩) | (go_at_call 20; refine Calls.mono C20.out ?_; rintro e w' ⟨rfl, rfl⟩) | (go_at_call 21; refine Calls.mono C21.out ?_; rintro e w' ⟨rfl, rfl⟩) | (go_at_call 22; refine Calls.mono C22.out ?_; rintro e w' ⟨rfl, rfl⟩) | (go_at_call 23; refine Calls.mono C23.out ?_; rintro e w4 ⟨rfl, hb4⟩; refine Hid.out ?_))
          refine hidI ?_
          have HB4 := hidI (HB3.out.trans (hb4.mono HB3.out.size))
          have C24 := hidI (rcut_any _ _ _ _ _ fs w4 (RR.out.below HB4.out (Nat.le_refl _)) (HS2.out.below HB4.out (Nat.le_refl _)) (by rw [HM.out]; omega))
          rw [HCE.out] at C24
          clear C19 C20 C21 C22 C23 hb4 HB3 P3 R3
          go_wp2_with (go_at_call 24; refine Calls.mono C24.out ?_; rintro e w5 ⟨rfl, hb5⟩; refine Hid.out ?_)
          refine hidI ?_
          have HB5 := hidI (HB2.out.trans ((HB4.out.trans (hb5.mono HB4.out.size)).mono HB2.out.size))
          have C25 := hidI (even_nil w5)
          have C26 := hidI (reven_nil w5)
          clear C24 hb5 HB4
          go_wp2_with (first | (go_at_call 25; refine Calls.mono C25.out ?_; rintro e w' ⟨rfl, rfl⟩) | (go_at_call 26; refine Calls.mono C26.out ?_; rintro e w' ⟨rfl, rfl⟩))
          go_ret
          exact ⟨rfl, HB5.out⟩
        · have hrn : ∃ rb, rp = some ⟨rb, 0, none⟩ := by
            rcases R3.out with ⟨_, h, _⟩ | ⟨rb, _, rfl, _⟩
            · omega
            · exact ⟨rb, rfl⟩
          obtain ⟨rb, rfl⟩ := hrn
          go_wp2_with (first | (go_at_call 19; refine Calls.mono C19.out ?_; rintro e w' ⟨rfl, rfl⟩) | (go_at_call 20; refine Calls.mono C20.out ?_; rintro e w' ⟨rfl, rfl⟩) | (go_at_call 21; refine Calls.mono C21.out ?_; rintro e w' ⟨rfl, rfl⟩) | (go_at_call 22; refine Calls.mono C22.out ?_; rintro e w' ⟨rfl, rfl⟩) | (go_at_call 23; refine Calls.mono C23.out ?_; rintro e w4 ⟨rfl, hb4⟩; refine Hid.out ?_))
          refine hidI ?_
          have HB4 := hidI (HB3.out.trans (hb4.mono HB3.out.size))
          have C24 := hidI (rcut_any _ _ _ _ _ fs w4 (RR.out.below HB4.out (Nat.le_refl _)) (HS2.out.below HB4.out (Nat.le_refl _)) (by rw [HM.out]; omega))
          rw [HCE.out] at C24
          clear C19 C20 C21 C22 C23 hb4 HB3 P3 R3
          go_wp2_with (go_at_call 24; refine Calls.mono C24.out ?_; rintro e w5 ⟨rfl, hb5⟩; refine Hid.out ?_)
          refine hidI ?_
          have HB5 := hidI (HB4.out.trans (hb5.mono HB4.out.size))
          have C25 := hidI (even_some pb n k wk w5 (PP2.out.below HB5.out (Nat.le_refl _)))
          clear C24 hb5 HB4
          go_wp2_with (go_at_call 25; refine Calls.mono C25.out ?_; rintro e w6 ⟨rfl, hb6⟩; refine Hid.out ?_)
          refine hidI ?_
          have HB6 := hidI (HB5.out.trans (hb6.mono HB5.out.size))
          have C26 := hidI (reven_some rb n k wk w6 (RR.out.below HB6.out (Nat.le_refl _)))
          clear C25 hb6 HB5
          go_wp2_with (go_at_call 26; refine Calls.mono C26.out ?_; rintro e w7 ⟨rfl, hb7⟩; refine Hid.out ?_)
          refine hidI ?_
          have HB7 := hidI (HB2.out.trans ((HB6.out.trans (hb7.mono HB6.out.size)).mono HB2.out.size))
          clear C26 hb7 HB6
          go_wp2
          go_ret
          exact ⟨by simp, HB7.out⟩
      | succ g =>
        have hz12 : z ≤ 12 := by omega
        have hzm : -1 ≤ z := by omega
        have HZI := hidI hzi
        clear hzi
        have P0 := hidI (PP2.out.below hbl (Nat.le_refl _))
        have R0 := hidI (RR.out.below hbl (Nat.le_refl _))
        have C11 := hidI (of_any pp n k wk z wr P0.out)
        clear hbl
        go_wp2_with (go_at_call 11; refine Calls.mono C11.out ?_; rintro e w3 ⟨rfl, hb3⟩; refine Hid.out ?_)
        refine hidI ?_
        have HB3 := hidI (HB.out.trans (hb3.mono HB.out.size))
        have P3 := hidI (PP2.out.below HB3.out (Nat.le_refl _))
        have R3 := hidI (RR.out.below HB3.out (Nat.le_refl _))
        have C12 := hidI (rof_any rp n k wk z w3 R3.out)
        have C14 := hidI (members_any pp n k wk z w3 P3.out)
        clear C11 hb3 HB P0 R0
        generalize ofP n wk z = oz at *
        go_wp2_with (first | (go_at_call 12; refine Calls.mono C12.out ?_; rintro e w' ⟨rfl, rfl⟩) | (go_at_call 14; refine Calls.mono C14.out ?_; rintro e w4 ⟨mv, rfl, hs4, hb4⟩; refine Hid.out ?_))
        refine hidI ?_
        have HB4 := hidI (HB3.out.trans (hb4.mono HB3.out.size))
        have R4 := hidI (RR.out.below HB4.out (Nat.le_refl _))
        have C15 := hidI (rmembers_any rp n k wk z w4 R4.out)
        rw [memZ_eq HK.out] at C15
        have HS4 := hidI hs4
        clear C12 C14 hb4 hs4 HB3 P3 R3
        go_wp2_with (go_at_call 15; refine Calls.mono C15.out ?_; rintro e w5 ⟨rv, rfl, hs5, hb5⟩; refine Hid.out ?_)
        refine hidI ?_
        have HB5 := hidI (HB4.out.trans (hb5.mono HB4.out.size))
        have C13 := hidI (same_eq _ _ _ w5 (HS4.out.below hb5 (Nat.le_refl _)) hs5 (by have := memI_length n k wk z; omega))
        clear C15 hb5 hs5 HS4 HB4 R4
        go_wp2_with (go_at_call 13; refine Calls.mono C13.out ?_; rintro e w6 ⟨rfl, hb6⟩; refine Hid.out ?_)
        refine hidI ?_
        have HB6 := hidI (HB5.out.trans (hb6.mono HB5.out.size))
        have C16 := hidI (order_any pp n k wk z 7 (by omega) w6 (PP2.out.below HB6.out (Nat.le_refl _)))
        rw [show ((7 : Nat) : Int) = 7 from rfl] at C16
        clear C13 hb6 HB5
        go_wp2_with (go_at_call 16; refine Calls.mono C16.out ?_; rintro e w7 ⟨ov, ps, rfl, hpl, hst, hs7, hb7⟩; refine Hid.out ?_)
        refine hidI ?_
        have HB7 := hidI (HB6.out.trans (hb7.mono HB6.out.size))
        have C17 := hidI (rorder_any rp n k wk z 7 (by omega) w7 (RR.out.below HB7.out (Nat.le_refl _)))
        rw [memZ_eq HK.out, show ((7 : Nat) : Int) = 7 from rfl] at C17
        have HST := hidI hst
        have HPL := hidI hpl
        have HS7 := hidI hs7
        clear C16 hb7 hst hpl hs7 HB6
        go_wp2_with (go_at_call 17; refine Calls.mono C17.out ?_; rintro e w8 ⟨rv2, qs, rfl, hql, hsq, hs8, hb8⟩; refine Hid.out ?_)
        refine hidI ?_
        have hqp : qs = ps := Perm.steps_same (by rw [hql, HPL.out]) hsq HST.out
        subst hqp
        have HB8 := hidI (HB7.out.trans (hb8.mono HB7.out.size))
        have C13 := hidI (same_eq _ _ _ w8 (HS7.out.below hb8 (Nat.le_refl _)) hs8 (by rw [Perm.turnL_length, hql]; have := memI_length n k wk z; omega))
        clear C17 hb8 hsq hql hs8 HS7 HB7 HST HPL
        go_wp2_with (go_at_call 13; refine Calls.mono C13.out ?_; rintro e w9 ⟨rfl, hb9⟩; refine Hid.out ?_)
        refine hidI ?_
        have HB9 := hidI (HB8.out.trans (hb9.mono HB8.out.size))
        clear C13 hb9 HB8
        go_wp2
        go_roundg g
        case measure => omega
        case rel => exact ⟨i + 1, z + 1, by omega, by go_num, by have := HZI.out; omega, HB9.out⟩
set_option maxRecDepth 100000 in
set_option maxHeartbeats 16000000 in
theorem plays_over (a b : Int) (v0 : Value) (bys : List Int) (ux : Addr) (len lcap : Nat) (fs : Edges) (w : World) (ha : ArgI w v0 bys) (hs : SeesE w (.slice (some ux) 40 lcap) fs) (hlen : 40 < len) (hcap : len ≤ lcap) (hmx : lcap ≤ 9223372036854775807) :
    Calls Try.prog 3 #[.agg #[.int .i64 a, .int .i64 b], v0, .slice (some ux) len lcap] w fun e w' => e = .returned (.bool true) ∧ Below w.heap.size w w' := by
  have HS := hidI hs
  have HA1 := hidI ha.1
  have HA2 := hidI ha.2
  have hm : fs.length = 40 := by obtain ⟨a, c, h, _⟩ := hs; simp only [Value.slice.injEq] at h; omega
  have h100 : (40 : Int) < (len : Int) := by omega
  have HM := hidI hm
  clear hs hm
  have HB0 : Hid (Below w.heap.size w (w.alloc (.cells #[.int .i64 a, .int .i64 b] 22))) := (Below.refl _ w).alloc (Nat.le_refl _) _
  have c0 : (w.alloc (.cells #[.int .i64 a, .int .i64 b] 22)).cell? ⟨w.heap.size, 0, none⟩ = some (.int .i64 a) := cell_pair0 _ _ _ _
  have c1 : (w.alloc (.cells #[.int .i64 a, .int .i64 b] 22)).cell? ⟨w.heap.size, 1, none⟩ = some (.int .i64 b) := cell_pair1 _ _ _ _
  have hsz : (w.alloc (.cells #[.int .i64 a, .int .i64 b] 22)).heap.size = w.heap.size + 1 := by simp
  have HC0 := hidI c0
  have HC1 := hidI c1
  have HSZ := hidI hsz
  clear c0 c1 hsz ha
  go_enter Try.func3, Try.ntmps3
  go_wp2
  obtain ⟨W, hW⟩ : ∃ W, w.alloc (.cells #[.int .i64 a, .int .i64 b] 22) = W := ⟨_, rfl⟩
  rw [hW] at HB0 HC0 HC1 HSZ ⊢
  clear hW
  have F0 : Hid (∀ u, Below W.heap.size W u → u.cell? ⟨w.heap.size, 0, none⟩ = some (.int .i64 a)) := fun u hu => (hu.cell (p := ⟨w.heap.size, 0, none⟩) (by rw [HSZ.out]; simp)).trans HC0.out
  have F1 : Hid (∀ u, Below W.heap.size W u → u.cell? ⟨w.heap.size, 1, none⟩ = some (.int .i64 b)) := fun u hu => (hu.cell (p := ⟨w.heap.size, 1, none⟩) (by rw [HSZ.out]; simp)).trans HC1.out
  have CF : Hid (∀ u, Below W.heap.size W u → Calls Try.prog 9 #[v0] u fun e w' => ∃ x, e = .returned x ∧ Sees u x (bys.take 20) ∧ u = w') := fun u hu => few_any v0 bys u ⟨HA1.out.below (HB0.out.trans (hu.mono HB0.out.size)) (Nat.le_refl _), HA2.out⟩
  have CN : Hid (∀ (u : World) (x : Value), Below W.heap.size W u → Sees u x (bys.take 20) → Calls Try.prog 8 #[.int .i64 a, .int .i64 b, x] u fun e w' => ∃ pp, e = .returned (.pointer pp) ∧ IsP w' pp (cntOf a b a) (cntOf a b b) (wkOf (cntOf a b b) (bys.take 20)) ∧ Below u.heap.size u w' ∧ Below W.heap.size W w') := fun u x hu hx => by
    refine (new_any a b x _ u hx).mono ?_
    rintro e w' ⟨pp, rfl, h1, h2⟩
    exact ⟨pp, rfl, h1, h2, hu.trans (h2.mono hu.size)⟩
  have CR : Hid (∀ (u : World) (x : Value), Below W.heap.size W u → Sees u x (bys.take 20) → Calls Try.prog 10 #[.int .i64 a, .int .i64 b, x] u fun e w' => ∃ pp, e = .returned (.pointer pp) ∧ IsR w' pp (cntOf a b a) (cntOf a b b) (wkOf (cntOf a b b) (bys.take 20)) ∧ Below u.heap.size u w' ∧ Below W.heap.size W w') := fun u x hu hx => by
    refine (rnew_any a b x _ u hx).mono ?_
    rintro e w' ⟨pp, rfl, h1, h2⟩
    exact ⟨pp, rfl, h1, h2, hu.trans (h2.mono hu.size)⟩
  have s0 : Hid (Below W.heap.size W W.drew) := (Below.refl _ W).drew
  clear HC0 HC1 HSZ
  generalize cntOf a b a = n at *
  generalize cntOf a b b = k at *
  go_region_held3 (fun w' => Hid (Below W.heap.size W w') ∧ w'.cell? ⟨w.heap.size, 0, none⟩ = some (.int .i64 a) ∧ w'.cell? ⟨w.heap.size, 1, none⟩ = some (.int .i64 b))
    (first | assumption | exact ⟨kr, F0.out _ kr.out, F1.out _ kr.out⟩ | exact ⟨kk, F0.out _ kk.out, F1.out _ kk.out⟩ | exact ⟨s0, F0.out _ s0.out, F1.out _ s0.out⟩)
    ((first | (go_at_call 9; refine Calls.mono (CF.out _ (by first | exact kk.out | exact s0.out)) ?_; rintro e w' ⟨xx, rfl, hxx, rfl⟩; have XX := hidI hxx; clear hxx) | (go_at_call 8; refine Calls.mono (CN.out _ _ (by exact s0.out) XX.out) ?_; rintro e w1 ⟨pp, rfl, hp1, hb1, hb1'⟩; have PP := hidI hp1; have kk := hidI hb1'; clear hp1 hb1 hb1' XX) | (go_at_call 10; refine Calls.mono (CR.out _ _ (by exact kk.out) XX.out) ?_; rintro e w2 ⟨rp, rfl, hr2, hb2, hb2'⟩; have RR := hidI hr2; have PP2 := hidI (PP.out.below hb2 (Nat.le_refl _)); have kr := hidI hb2'; clear hr2 hb2 hb2' XX PP)))
  all_goals
    have HB2 := hidI (HB0.out.trans (kr.out.mono HB0.out.size))
    have HS2 := hidI (HS.out.below HB2.out (Nat.le_refl _))
    have HK := hidI PP2.out.lt
    have h12 := PP2.out.le
    clear F0 F1 CF CN CR kk kr s0 HB0 HS HA1 HA2
    generalize wkOf k (List.take 20 bys) = wk at *
    go_wp2
    go_loopg [9] 14 (fun g s9 wr => ∃ (i : Nat) (z : Int), i + g = 14 ∧ s9 = .int .i64 z ∧ z = (i : Int) - 1 ∧ Below w2.heap.size w2 wr)
    case atStart => exact ⟨0, -1, by omega, rfl, by omega, Below.refl _ _⟩
    case round =>
      obtain ⟨i, z, hig, rfl, hzi, hbl⟩ := hrel
      have HB := hidI hbl
      cases gk with
      | zero =>
        have hz13 : z = 13 := by omega
        subst hz13
        have CL := hidI (live_any wr)
        clear hzi hig hbl
        go_wp2_with (go_at_call 18; refine Calls.mono CL.out ?_; rintro e w3 ⟨rfl, hb3⟩; refine Hid.out ?_)
        refine hidI ?_
        have HB3 := hidI (HB.out.trans (hb3.mono HB.out.size))
        have P3 := hidI (PP2.out.below HB3.out (Nat.le_refl _))
        have R3 := hidI (RR.out.below HB3.out (Nat.le_refl _))
        have C19 := hidI (workers_any _ _ _ _ w3 P3.out)
        have C20 := hidI (rworkers_any _ _ _ _ w3 R3.out)
        have C21 := hidI (nodes_any _ _ _ _ w3 P3.out)
        have C22 := hidI (rnodes_any _ _ _ _ w3 R3.out)
        have C23 := hidI (cut_any _ _ _ _ _ fs w3 P3.out (HS2.out.below HB3.out (Nat.le_refl _)) (by rw [HM.out]; omega))
        have hle : cutP n wk fs ≤ 40 := by have := cutP_le n wk fs; rw [HM.out] at this; exact this
        obtain ⟨c, hc⟩ : ∃ c, cutP n wk fs = c := ⟨_, rfl⟩
        rw [hc] at C23 hle
        have HCE := hidI hc
        clear CL hb3 HB hc
        rcases P3.out with ⟨rfl, hn0, hk0⟩ | ⟨pb, rfl, hm1, _⟩
        · have hrn : rp = none := by
            rcases R3.out with ⟨rfl, _⟩ | ⟨_, _, _, h, _⟩
            · rfl
            · omega
          subst hrn
          go_wp2_with (first | (go_at_call 19; refine Calls.mono C19.out ?_; rintro e w' ⟨rfl, rfl⟩) | (go_at_call 20; refine Calls.mono C20.out ?_; rintro e w' ⟨rfl, rfl⟩) | (go_at_call 21; refine Calls.mono C21.out ?_; rintro e w' ⟨rfl, rfl⟩) | (go_at_call 22; refine Calls.mono C22.out ?_; rintro e w' ⟨rfl, rfl⟩) | (go_at_call 23; refine Calls.mono C23.out ?_; rintro e w4 ⟨rfl, hb4⟩; refine Hid.out ?_))
          refine hidI ?_
          have HB4 := hidI (HB3.out.trans (hb4.mono HB3.out.size))
          have C24 := hidI (rcut_any _ _ _ _ _ fs w4 (RR.out.below HB4.out (Nat.le_refl _)) (HS2.out.below HB4.out (Nat.le_refl _)) (by rw [HM.out]; omega))
          rw [HCE.out] at C24
          clear C19 C20 C21 C22 C23 hb4 HB3 P3 R3
          go_wp2_with (go_at_call 24; refine Calls.mono C24.out ?_; rintro e w5 ⟨rfl, hb5⟩; refine Hid.out ?_)
          refine hidI ?_
          have HB5 := hidI (HB2.out.trans ((HB4.out.trans (hb5.mono HB4.out.size)).mono HB2.out.size))
          have C25 := hidI (even_nil w5)
          have C26 := hidI (reven_nil w5)
          clear C24 hb5 HB4
          go_wp2_with (first | (go_at_call 25; refine Calls.mono C25.out ?_; rintro e w' ⟨rfl, rfl⟩) | (go_at_call 26; refine Calls.mono C26.out ?_; rintro e w' ⟨rfl, rfl⟩))
          go_ret
          exact ⟨rfl, HB5.out⟩
        · have hrn : ∃ rb, rp = some ⟨rb, 0, none⟩ := by
            rcases R3.out with ⟨_, h, _⟩ | ⟨rb, _, rfl, _⟩
            · omega
            · exact ⟨rb, rfl⟩
          obtain ⟨rb, rfl⟩ := hrn
          go_wp2_with (first | (go_at_call 19; refine Calls.mono C19.out ?_; rintro e w' ⟨rfl, rfl⟩) | (go_at_call 20; refine Calls.mono C20.out ?_; rintro e w' ⟨rfl, rfl⟩) | (go_at_call 21; refine Calls.mono C21.out ?_; rintro e w' ⟨rfl, rfl⟩) | (go_at_call 22; refine Calls.mono C22.out ?_; rintro e w' ⟨rfl, rfl⟩) | (go_at_call 23; refine Calls.mono C23.out ?_; rintro e w4 ⟨rfl, hb4⟩; refine Hid.out ?_))
          refine hidI ?_
          have HB4 := hidI (HB3.out.trans (hb4.mono HB3.out.size))
          have C24 := hidI (rcut_any _ _ _ _ _ fs w4 (RR.out.below HB4.out (Nat.le_refl _)) (HS2.out.below HB4.out (Nat.le_refl _)) (by rw [HM.out]; omega))
          rw [HCE.out] at C24
          clear C19 C20 C21 C22 C23 hb4 HB3 P3 R3
          go_wp2_with (go_at_call 24; refine Calls.mono C24.out ?_; rintro e w5 ⟨rfl, hb5⟩; refine Hid.out ?_)
          refine hidI ?_
          have HB5 := hidI (HB4.out.trans (hb5.mono HB4.out.size))
          have C25 := hidI (even_some pb n k wk w5 (PP2.out.below HB5.out (Nat.le_refl _)))
          clear C24 hb5 HB4
          go_wp2_with (go_at_call 25; refine Calls.mono C25.out ?_; rintro e w6 ⟨rfl, hb6⟩; refine Hid.out ?_)
          refine hidI ?_
          have HB6 := hidI (HB5.out.trans (hb6.mono HB5.out.size))
          have C26 := hidI (reven_some rb n k wk w6 (RR.out.below HB6.out (Nat.le_refl _)))
          clear C25 hb6 HB5
          go_wp2_with (go_at_call 26; refine Calls.mono C26.out ?_; rintro e w7 ⟨rfl, hb7⟩; refine Hid.out ?_)
          refine hidI ?_
          have HB7 := hidI (HB2.out.trans ((HB6.out.trans (hb7.mono HB6.out.size)).mono HB2.out.size))
          clear C26 hb7 HB6
          go_wp2
          go_ret
          exact ⟨by simp, HB7.out⟩
      | succ g =>
        have hz12 : z ≤ 12 := by omega
        have hzm : -1 ≤ z := by omega
        have HZI := hidI hzi
        clear hzi
        have P0 := hidI (PP2.out.below hbl (Nat.le_refl _))
        have R0 := hidI (RR.out.below hbl (Nat.le_refl _))
        have C11 := hidI (of_any pp n k wk z wr P0.out)
        clear hbl
        go_wp2_with (go_at_call 11; refine Calls.mono C11.out ?_; rintro e w3 ⟨rfl, hb3⟩; refine Hid.out ?_)
        refine hidI ?_
        have HB3 := hidI (HB.out.trans (hb3.mono HB.out.size))
        have P3 := hidI (PP2.out.below HB3.out (Nat.le_refl _))
        have R3 := hidI (RR.out.below HB3.out (Nat.le_refl _))
        have C12 := hidI (rof_any rp n k wk z w3 R3.out)
        have C14 := hidI (members_any pp n k wk z w3 P3.out)
        clear C11 hb3 HB P0 R0
        generalize ofP n wk z = oz at *
        go_wp2_with (first | (go_at_call 12; refine Calls.mono C12.out ?_; rintro e w' ⟨rfl, rfl⟩) | (go_at_call 14; refine Calls.mono C14.out ?_; rintro e w4 ⟨mv, rfl, hs4, hb4⟩; refine Hid.out ?_))
        refine hidI ?_
        have HB4 := hidI (HB3.out.trans (hb4.mono HB3.out.size))
        have R4 := hidI (RR.out.below HB4.out (Nat.le_refl _))
        have C15 := hidI (rmembers_any rp n k wk z w4 R4.out)
        rw [memZ_eq HK.out] at C15
        have HS4 := hidI hs4
        clear C12 C14 hb4 hs4 HB3 P3 R3
        go_wp2_with (go_at_call 15; refine Calls.mono C15.out ?_; rintro e w5 ⟨rv, rfl, hs5, hb5⟩; refine Hid.out ?_)
        refine hidI ?_
        have HB5 := hidI (HB4.out.trans (hb5.mono HB4.out.size))
        have C13 := hidI (same_eq _ _ _ w5 (HS4.out.below hb5 (Nat.le_refl _)) hs5 (by have := memI_length n k wk z; omega))
        clear C15 hb5 hs5 HS4 HB4 R4
        go_wp2_with (go_at_call 13; refine Calls.mono C13.out ?_; rintro e w6 ⟨rfl, hb6⟩; refine Hid.out ?_)
        refine hidI ?_
        have HB6 := hidI (HB5.out.trans (hb6.mono HB5.out.size))
        have C16 := hidI (order_any pp n k wk z 7 (by omega) w6 (PP2.out.below HB6.out (Nat.le_refl _)))
        rw [show ((7 : Nat) : Int) = 7 from rfl] at C16
        clear C13 hb6 HB5
        go_wp2_with (go_at_call 16; refine Calls.mono C16.out ?_; rintro e w7 ⟨ov, ps, rfl, hpl, hst, hs7, hb7⟩; refine Hid.out ?_)
        refine hidI ?_
        have HB7 := hidI (HB6.out.trans (hb7.mono HB6.out.size))
        have C17 := hidI (rorder_any rp n k wk z 7 (by omega) w7 (RR.out.below HB7.out (Nat.le_refl _)))
        rw [memZ_eq HK.out, show ((7 : Nat) : Int) = 7 from rfl] at C17
        have HST := hidI hst
        have HPL := hidI hpl
        have HS7 := hidI hs7
        clear C16 hb7 hst hpl hs7 HB6
        go_wp2_with (go_at_call 17; refine Calls.mono C17.out ?_; rintro e w8 ⟨rv2, qs, rfl, hql, hsq, hs8, hb8⟩; refine Hid.out ?_)
        refine hidI ?_
        have hqp : qs = ps := Perm.steps_same (by rw [hql, HPL.out]) hsq HST.out
        subst hqp
        have HB8 := hidI (HB7.out.trans (hb8.mono HB7.out.size))
        have C13 := hidI (same_eq _ _ _ w8 (HS7.out.below hb8 (Nat.le_refl _)) hs8 (by rw [Perm.turnL_length, hql]; have := memI_length n k wk z; omega))
        clear C17 hb8 hsq hql hs8 HS7 HB7 HST HPL
        go_wp2_with (go_at_call 13; refine Calls.mono C13.out ?_; rintro e w9 ⟨rfl, hb9⟩; refine Hid.out ?_)
        refine hidI ?_
        have HB9 := hidI (HB8.out.trans (hb9.mono HB8.out.size))
        clear C13 hb9 HB8
        go_wp2
        go_roundg g
        case measure => omega
        case rel => exact ⟨i + 1, z + 1, by omega, by go_num, by have := HZI.out; omega, HB9.out⟩
/-- As the statement has its arguments. -/
theorem partsPlays_any (a b : Int) (_ : Wf a) (_ : Wf b) {W : World} (v0 : Value) (bys : List Int) (ha : ArgI W v0 bys) (_ : ∀ z ∈ bys, Wf z) (v : Value) (es : Edges) (hv : ArgE W v es) (_ : ∀ x ∈ es, Wf x.1 ∧ Wf x.2) :
    Calls Try.prog 3 #[.agg #[.int .i64 a, .int .i64 b], v0, v] W fun e w' => e = .returned (.bool true) ∧ Below W.heap.size W w' := by
  by_cases hl : es.length ≤ 40
  · exact plays_in a b v0 bys v es W ha hv.1 hl
  · obtain ⟨⟨x, cap, rfl, hs⟩, a', len', cap', he, q1, q2⟩ := hv
    cases he
    rcases hs with h0 | ⟨bb, off, rfl, hc⟩
    · subst h0; simp at hl
    have e40 : (es.take 40).length = 40 := by rw [List.length_take]; omega
    refine plays_over a b v0 bys _ _ _ (es.take 40) W ha ⟨some ⟨bb, off, none⟩, cap, by rw [e40], .inr ⟨bb, off, rfl, fun j x hx => hc j x ?_⟩⟩ (by omega) q1 q2
    rw [List.getElem?_take] at hx
    split at hx
    · exact hx
    · cases hx
end Go.Proofs.Ytjlnnpcaeikolaa
