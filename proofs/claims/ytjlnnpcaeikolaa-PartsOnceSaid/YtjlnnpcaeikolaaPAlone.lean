/-
  With one worker no edge leads to another one: the law PartsAlone, walked.
-/
import Derived.Test.YtjlnnpcaeikolaaPLive
namespace Go.Proofs.Ytjlnnpcaeikolaa
open Go.RowKit Go.Deep
/-- An argument that reads as the edges es. -/
def ArgE (w : World) (v : Value) (es : Edges) : Prop := SeesE w v es ∧ ∃ a len cap, v = .slice a len cap ∧ len ≤ cap ∧ cap ≤ 9223372036854775807
abbrev Wf (a : Int) : Prop := (Lit.int .i64 a).wf = true
theorem wkOf_one (bys : List Int) (v : Nat) : wkOf 1 bys v = 0 := by have := wkOf_lt (k := 1) (by omega) bys v; omega
theorem cut_one (n : Nat) (bys : List Int) (es : Edges) : cutP n (wkOf 1 bys) es = 0 := by
  unfold cutP
  rw [List.countP_eq_zero]
  intro x _
  have h : ∀ z, ofP n (wkOf 1 bys) z = 0 ∨ ofP n (wkOf 1 bys) z = -1 := fun z => by
    unfold ofP
    split
    · left; rw [wkOf_one]; rfl
    · right; rfl
  unfold crosses
  rcases h x.1 with h1 | h1 <;> rcases h x.2 with h2 | h2 <;> rw [h1, h2] <;> decide
theorem mem_one (n : Nat) (bys : List Int) : (mem n (wkOf 1 bys) 0).length = n := by
  unfold mem
  rw [List.length_map, List.filter_eq_self.2 (fun v _ => by simp [wkOf_one])]
  simp
set_option maxRecDepth 100000 in
set_option maxHeartbeats 8000000 in
theorem alone_in (v0 : Value) (bys : List Int) (lvv : Value) (fs : Edges) (w : World) (ha : ArgI w v0 bys) (hs : SeesE w lvv fs) (h40 : fs.length ≤ 40) :
    Calls Try.prog 6 #[v0, lvv] w fun e w' => e = .returned (.bool true) ∧ Below w.heap.size w w' := by
  have HS := hidI hs
  have HA1 := hidI ha.1
  have HA2 := hidI ha.2
  obtain ⟨m, hm⟩ : ∃ m, fs.length = m := ⟨_, rfl⟩
  have hlv : ∃ la lcap, lvv = .slice la m lcap := by obtain ⟨a, c, h, _⟩ := hs; exact ⟨a, c, by rw [← hm]; exact h⟩
  obtain ⟨la, lcap, rfl⟩ := hlv
  rw [hm] at h40
  have hd : decide ((40 : Int) < (m : Int)) = false := by simp; omega
  have HM := hidI hm
  clear hs hm
  have CF := hidI (few_any v0 bys w ha)
  clear ha
  go_enter Try.func6, Try.ntmps6
  go_wp2_with (go_at_call 9; refine Calls.mono CF.out ?_; rintro e w' ⟨u0, rfl, hu0, rfl⟩; refine Hid.out ?_)
  refine hidI ?_
  have HU0 := hidI hu0
  have C1 := hidI (new_ok 6 1 (by unfold mayP; omega) u0 _ w hu0)
  clear hu0
  go_wp2_with (go_at_call 8; refine Calls.mono C1.out ?_; rintro e w1 ⟨p1, rfl, hp1, hb1⟩; refine Hid.out ?_)
  refine hidI ?_
  have HP1 := hidI hp1
  have HB1 := hidI hb1
  have CF1 : Hid (Calls Try.prog 9 #[v0] w1 fun e w' => ∃ u, e = .returned u ∧ Sees w1 u (bys.take 20) ∧ w1 = w') := few_any v0 bys w1 ⟨HA1.out.below hb1 (Nat.le_refl _), HA2.out⟩
  clear hp1 hb1 C1 CF
  go_wp2_with (go_at_call 9; refine Calls.mono CF1.out ?_; rintro e w' ⟨u1, rfl, hu1, rfl⟩; refine Hid.out ?_)
  refine hidI ?_
  have C2 := hidI (new_ok 6 2 (by unfold mayP; omega) u1 _ w1 hu1)
  clear hu1 CF1
  go_wp2_with (go_at_call 8; refine Calls.mono C2.out ?_; rintro e w2 ⟨p2, rfl, hp2, hb2⟩; refine Hid.out ?_)
  refine hidI ?_
  have HQ1 := hidI (HP1.out.below hb2 (Nat.le_refl _))
  have HQ2 := hidI hp2
  have HB2 := hidI (HB1.out.trans (hb2.mono HB1.out.size))
  have CL := hidI (live_any w2)
  clear hp2 hb2 C2 HP1 HB1 HU0
  go_wp2_with (go_at_call 18; refine Calls.mono CL.out ?_; rintro e w3 ⟨rfl, hb3⟩; refine Hid.out ?_)
  refine hidI ?_
  have HR1 := hidI (HQ1.out.below hb3 (Nat.le_refl _))
  have HR2 := hidI (HQ2.out.below hb3 (Nat.le_refl _))
  have HB3 := hidI (HB2.out.trans (hb3.mono HB2.out.size))
  have HS3 := hidI (HS.out.below HB3.out (Nat.le_refl _))
  clear hb3 CL HQ1 HQ2 HB2 HS
  go_wp2
  go_loopg [7, 8] m (fun g s7 s8 wr => ∃ (i : Nat), i + g = m ∧ s8 = .int .i64 i ∧ s7 = .int .i64 (cutP 6 (wkOf 2 (bys.take 20)) (fs.take i) : Int) ∧ Below w3.heap.size w3 wr)
  case atStart => exact ⟨0, by omega, rfl, by simp [cutP], Below.refl _ _⟩
  case round =>
    obtain ⟨i, hig, rfl, rfl, hbl⟩ := hrel
    have HB := hidI hbl
    cases gk with
    | zero =>
      have hil : m = i := by omega
      subst hil
      have ht : fs.take m = fs := List.take_of_length_le (by rw [HM.out]; exact Nat.le_refl _)
      have hle : cutP 6 (wkOf 2 (bys.take 20)) fs ≤ m := by have := cutP_le 6 (wkOf 2 (bys.take 20)) fs; rw [HM.out] at this; exact this
      rw [ht]
      have CC1 : Hid (Calls Try.prog 23 #[.pointer (some ⟨p1, 0, none⟩), .slice la m lcap] wr fun e w' => e = .returned (.int .i64 0) ∧ Below wr.heap.size wr w') := by
        have := cut_any _ _ _ _ _ fs wr (HR1.out.below hbl (Nat.le_refl _)) (HS3.out.below hbl (Nat.le_refl _)) (by rw [HM.out]; omega)
        rw [cut_one] at this
        exact this
      obtain ⟨c, hc⟩ : ∃ c, cutP 6 (wkOf 2 (bys.take 20)) fs = c := ⟨_, rfl⟩
      rw [hc] at hle ⊢
      have HCE := hidI hc
      clear ht hc hbl
      go_wp2_with (go_at_call 23; refine Calls.mono CC1.out ?_; rintro e w4 ⟨rfl, hb4⟩; refine Hid.out ?_)
      refine hidI ?_
      have HB4 := hidI (HB.out.trans (hb4.mono HB.out.size))
      have CC2 : Hid (Calls Try.prog 23 #[.pointer (some ⟨p2, 0, none⟩), .slice la m lcap] w4 fun e w' => e = .returned (.int .i64 (c : Int)) ∧ Below w4.heap.size w4 w') := by
        have := cut_any _ _ _ _ _ fs w4 (HR2.out.below HB4.out (Nat.le_refl _)) (HS3.out.below HB4.out (Nat.le_refl _)) (by rw [HM.out]; omega)
        rw [HCE.out] at this
        exact this
      clear CC1 hb4 HB
      go_wp2_with (go_at_call 23; refine Calls.mono CC2.out ?_; rintro e w5 ⟨rfl, hb5⟩; refine Hid.out ?_)
      refine hidI ?_
      have HB5 := hidI (HB4.out.trans (hb5.mono HB4.out.size))
      have CM := hidI (members_any (some ⟨p1, 0, none⟩) _ _ _ 0 w5 (HR1.out.below HB5.out (Nat.le_refl _)))
      clear CC2 hb5 HB4
      go_wp2_with (go_at_call 14; refine Calls.mono CM.out ?_; rintro e w6 ⟨mv, rfl, hs6, hb6⟩; refine Hid.out ?_)
      refine hidI ?_
      have HB6 := hidI (HB3.out.trans ((HB5.out.trans (hb6.mono HB5.out.size)).mono HB3.out.size))
      obtain ⟨ma, mcap, rfl, _⟩ := hs6
      have hml : (memI 6 1 (wkOf 1 (bys.take 20)) 0).length = 6 := by
        unfold memI
        rw [if_pos (by omega)]
        exact mem_one 6 _
      rw [hml]
      clear hml CM hb6 HB5
      go_wp2
      go_ret
      exact ⟨rfl, HB6.out⟩
    | succ g =>
      have hlt : i < m := by omega
      have hlt2 : (i : Int) < (m : Int) := by omega
      obtain ⟨x, hx⟩ : ∃ x, fs[i]? = some x := ⟨fs[i]'(by have := HM.out; omega), List.getElem?_eq_getElem _⟩
      have HX := hidI (cutP_next (n := 6) (wk := wkOf 2 (bys.take 20)) hx)
      obtain ⟨la', lcap', he, hlc⟩ := HS3.out
      rw [HM.out] at he
      cases he
      rcases hlc with h0 | ⟨b, off, rfl, hc⟩
      · have := HM.out; rw [h0] at this; simp at this; omega
      skip
      have hbw : b < w3.heap.size := World.block_lt_of_cell? w3 _ (hc i x hx).1
      have hcl : cutP 6 (wkOf 2 (bys.take 20)) (fs.take i) ≤ i := Nat.le_trans (cutP_le _ _ _) (by rw [List.length_take]; omega)
      obtain ⟨x1, x2⟩ := x
      have D0 : Hid (∀ u, Below w3.heap.size w3 u → u.cell? ⟨b, off + i * 2, none⟩ = some (.int .i64 x1)) := fun u hu => (hu.cell (p := ⟨b, off + i * 2, none⟩) hbw).trans (hc i _ hx).1
      have D1 : Hid (∀ u, Below w3.heap.size w3 u → u.cell? ⟨b, off + i * 2 + 1, none⟩ = some (.int .i64 x2)) := fun u hu => (hu.cell (p := ⟨b, off + i * 2 + 1, none⟩) hbw).trans (hc i _ hx).2
      have C1 : Hid (∀ (u : World) (z : Int), Below w3.heap.size w3 u → Calls Try.prog 11 #[.pointer (some ⟨p2, 0, none⟩), .int .i64 z] u fun e w' => e = .returned (.int .i64 (ofP 6 (wkOf 2 (bys.take 20)) z)) ∧ Below w3.heap.size w3 w') := fun u z hu => by
        refine (of_any (some ⟨p2, 0, none⟩) 6 2 _ z u (HR2.out.below hu (Nat.le_refl _))).mono ?_
        rintro e w' ⟨rfl, hb⟩
        exact ⟨rfl, hu.trans (hb.mono hu.size)⟩
      have HCR : Hid (crosses 6 (wkOf 2 (bys.take 20)) (x1, x2) = (decide (0 ≤ ofP 6 (wkOf 2 (bys.take 20)) x1) && decide (0 ≤ ofP 6 (wkOf 2 (bys.take 20)) x2) && !decide (ofP 6 (wkOf 2 (bys.take 20)) x1 = ofP 6 (wkOf 2 (bys.take 20)) x2))) := rfl
      obtain ⟨c, hcc⟩ : ∃ c, cutP 6 (wkOf 2 (bys.take 20)) (fs.take i) = c := ⟨_, rfl⟩
      rw [hcc] at HX hcl ⊢
      have s0 : Hid (Below w3.heap.size w3 wr.drew) := hbl.drew
      clear hc hx hcc hbl
      go_wp2
      go_region_held3 (fun w' => Hid (Below w3.heap.size w3 w') ∧ w'.cell? ⟨b, off + i * 2, none⟩ = some (.int .i64 x1) ∧ w'.cell? ⟨b, off + i * 2 + 1, none⟩ = some (.int .i64 x2))
        (first | assumption | exact ⟨kk, D0.out _ kk.out, D1.out _ kk.out⟩ | exact ⟨s0, D0.out _ s0.out, D1.out _ s0.out⟩)
        ((go_at_call 11; refine Calls.mono (C1.out _ _ (by first | exact kk.out | exact s0.out)) ?_; rintro e w' ⟨rfl, hb'⟩; have kk := hidI hb'; clear hb'))
      all_goals
        have HBW := hidI kk.out
        generalize ofP 6 (wkOf 2 (bys.take 20)) x1 = p at *
        generalize ofP 6 (wkOf 2 (bys.take 20)) x2 = q at *
        by_cases h1 : 0 ≤ p
        · by_cases h2 : 0 ≤ q
          · by_cases h3 : p = q
            · subst h3
              have hcr : crosses 6 (wkOf 2 (bys.take 20)) (x1, x2) = false := by rw [HCR.out]; simp
              rw [hcr] at HX
              clear HCR hcr
              go_wp2
              go_roundg g
              case measure => omega
              case rel => exact ⟨i + 1, by omega, by go_num, by rw [HX.out]; rfl, HBW.out⟩
            · have hcr : crosses 6 (wkOf 2 (bys.take 20)) (x1, x2) = true := by rw [HCR.out]; simp [h1, h2, h3]
              rw [hcr] at HX
              have h4 : (p == q) = false := by simp [h3]
              have h5 : decide (p = q) = false := by simp [h3]
              clear HCR hcr
              go_wp2
              go_roundg g
              case measure => omega
              case rel => exact ⟨i + 1, by omega, by go_num, by rw [HX.out]; go_num, HBW.out⟩
          · have hcr : crosses 6 (wkOf 2 (bys.take 20)) (x1, x2) = false := by rw [HCR.out]; simp [h2]
            rw [hcr] at HX
            have h4 : decide (0 ≤ q) = false := by simp [h2]
            clear HCR hcr
            go_wp2
            go_roundg g
            case measure => omega
            case rel => exact ⟨i + 1, by omega, by go_num, by rw [HX.out]; rfl, HBW.out⟩
        · have hcr : crosses 6 (wkOf 2 (bys.take 20)) (x1, x2) = false := by rw [HCR.out]; simp [h1]
          rw [hcr] at HX
          have h4 : decide (0 ≤ p) = false := by simp [h1]
          clear HCR hcr
          go_wp2
          go_roundg g
          case measure => omega
          case rel => exact ⟨i + 1, by omega, by go_num, by rw [HX.out]; rfl, HBW.out⟩
set_option maxRecDepth 100000 in
set_option maxHeartbeats 8000000 in
theorem alone_over (v0 : Value) (bys : List Int) (ux : Addr) (len lcap : Nat) (fs : Edges) (w : World) (ha : ArgI w v0 bys) (hs : SeesE w (.slice (some ux) 40 lcap) fs) (hlen : 40 < len) (hcap : len ≤ lcap) (hmx : lcap ≤ 9223372036854775807) :
    Calls Try.prog 6 #[v0, .slice (some ux) len lcap] w fun e w' => e = .returned (.bool true) ∧ Below w.heap.size w w' := by
  have HS := hidI hs
  have HA1 := hidI ha.1
  have HA2 := hidI ha.2
  have hm : fs.length = 40 := by obtain ⟨a, c, h, _⟩ := hs; simp only [Value.slice.injEq] at h; omega
  have h100 : (40 : Int) < (len : Int) := by omega
  have HM := hidI hm
  clear hs hm
  have CF := hidI (few_any v0 bys w ha)
  clear ha
  go_enter Try.func6, Try.ntmps6
  go_wp2_with (go_at_call 9; refine Calls.mono CF.out ?_; rintro e w' ⟨u0, rfl, hu0, rfl⟩; refine Hid.out ?_)
  refine hidI ?_
  have HU0 := hidI hu0
  have C1 := hidI (new_ok 6 1 (by unfold mayP; omega) u0 _ w hu0)
  clear hu0
  go_wp2_with (go_at_call 8; refine Calls.mono C1.out ?_; rintro e w1 ⟨p1, rfl, hp1, hb1⟩; refine Hid.out ?_)
  refine hidI ?_
  have HP1 := hidI hp1
  have HB1 := hidI hb1
  have CF1 : Hid (Calls Try.prog 9 #[v0] w1 fun e w' => ∃ u, e = .returned u ∧ Sees w1 u (bys.take 20) ∧ w1 = w') := few_any v0 bys w1 ⟨HA1.out.below hb1 (Nat.le_refl _), HA2.out⟩
  clear hp1 hb1 C1 CF
  go_wp2_with (go_at_call 9; refine Calls.mono CF1.out ?_; rintro e w' ⟨u1, rfl, hu1, rfl⟩; refine Hid.out ?_)
  refine hidI ?_
  have C2 := hidI (new_ok 6 2 (by unfold mayP; omega) u1 _ w1 hu1)
  clear hu1 CF1
  go_wp2_with (go_at_call 8; refine Calls.mono C2.out ?_; rintro e w2 ⟨p2, rfl, hp2, hb2⟩; refine Hid.out ?_)
  refine hidI ?_
  have HQ1 := hidI (HP1.out.below hb2 (Nat.le_refl _))
  have HQ2 := hidI hp2
  have HB2 := hidI (HB1.out.trans (hb2.mono HB1.out.size))
  have CL := hidI (live_any w2)
  clear hp2 hb2 C2 HP1 HB1 HU0
  go_wp2_with (go_at_call 18; refine Calls.mono CL.out ?_; rintro e w3 ⟨rfl, hb3⟩; refine Hid.out ?_)
  refine hidI ?_
  have HR1 := hidI (HQ1.out.below hb3 (Nat.le_refl _))
  have HR2 := hidI (HQ2.out.below hb3 (Nat.le_refl _))
  have HB3 := hidI (HB2.out.trans (hb3.mono HB2.out.size))
  have HS3 := hidI (HS.out.below HB3.out (Nat.le_refl _))
  clear hb3 CL HQ1 HQ2 HB2 HS
  go_wp2
  go_loopg [7, 8] 40 (fun g s7 s8 wr => ∃ (i : Nat), i + g = 40 ∧ s8 = .int .i64 i ∧ s7 = .int .i64 (cutP 6 (wkOf 2 (bys.take 20)) (fs.take i) : Int) ∧ Below w3.heap.size w3 wr)
  case atStart => exact ⟨0, by omega, rfl, by simp [cutP], Below.refl _ _⟩
  case round =>
    obtain ⟨i, hig, rfl, rfl, hbl⟩ := hrel
    have HB := hidI hbl
    cases gk with
    | zero =>
      have hil : 40 = i := by omega
      subst hil
      have ht : fs.take 40 = fs := List.take_of_length_le (by rw [HM.out]; exact Nat.le_refl _)
      have hle : cutP 6 (wkOf 2 (bys.take 20)) fs ≤ 40 := by have := cutP_le 6 (wkOf 2 (bys.take 20)) fs; rw [HM.out] at this; exact this
      rw [ht]
      have CC1 : Hid (Calls Try.prog 23 #[.pointer (some ⟨p1, 0, none⟩), .slice (some ux) 40 lcap] wr fun e w' => e = .returned (.int .i64 0) ∧ Below wr.heap.size wr w') := by
        have := cut_any _ _ _ _ _ fs wr (HR1.out.below hbl (Nat.le_refl _)) (HS3.out.below hbl (Nat.le_refl _)) (by rw [HM.out]; omega)
        rw [cut_one] at this
        exact this
      obtain ⟨c, hc⟩ : ∃ c, cutP 6 (wkOf 2 (bys.take 20)) fs = c := ⟨_, rfl⟩
      rw [hc] at hle ⊢
      have HCE := hidI hc
      clear ht hc hbl
      go_wp2_with (go_at_call 23; refine Calls.mono CC1.out ?_; rintro e w4 ⟨rfl, hb4⟩; refine Hid.out ?_)
      refine hidI ?_
      have HB4 := hidI (HB.out.trans (hb4.mono HB.out.size))
      have CC2 : Hid (Calls Try.prog 23 #[.pointer (some ⟨p2, 0, none⟩), .slice (some ux) 40 lcap] w4 fun e w' => e = .returned (.int .i64 (c : Int)) ∧ Below w4.heap.size w4 w') := by
        have := cut_any _ _ _ _ _ fs w4 (HR2.out.below HB4.out (Nat.le_refl _)) (HS3.out.below HB4.out (Nat.le_refl _)) (by rw [HM.out]; omega)
        rw [HCE.out] at this
        exact this
      clear CC1 hb4 HB
      go_wp2_with (go_at_call 23; refine Calls.mono CC2.out ?_; rintro e w5 ⟨rfl, hb5⟩; refine Hid.out ?_)
      refine hidI ?_
      have HB5 := hidI (HB4.out.trans (hb5.mono HB4.out.size))
      have CM := hidI (members_any (some ⟨p1, 0, none⟩) _ _ _ 0 w5 (HR1.out.below HB5.out (Nat.le_refl _)))
      clear CC2 hb5 HB4
      go_wp2_with (go_at_call 14; refine Calls.mono CM.out ?_; rintro e w6 ⟨mv, rfl, hs6, hb6⟩; refine Hid.out ?_)
      refine hidI ?_
      have HB6 := hidI (HB3.out.trans ((HB5.out.trans (hb6.mono HB5.out.size)).mono HB3.out.size))
      obtain ⟨ma, mcap, rfl, _⟩ := hs6
      have hml : (memI 6 1 (wkOf 1 (bys.take 20)) 0).length = 6 := by
        unfold memI
        rw [if_pos (by omega)]
        exact mem_one 6 _
      rw [hml]
      clear hml CM hb6 HB5
      go_wp2
      go_ret
      exact ⟨rfl, HB6.out⟩
    | succ g =>
      have hlt : i < 40 := by omega
      have hlt2 : (i : Int) < (40 : Int) := by omega
      obtain ⟨x, hx⟩ : ∃ x, fs[i]? = some x := ⟨fs[i]'(by have := HM.out; omega), List.getElem?_eq_getElem _⟩
      have HX := hidI (cutP_next (n := 6) (wk := wkOf 2 (bys.take 20)) hx)
      obtain ⟨la', lcap', he, hlc⟩ := HS3.out
      rw [HM.out] at he
      cases he
      rcases hlc with h0 | ⟨b, off, hux, hc⟩
      · have := HM.out; rw [h0] at this; simp at this
      cases hux
      have hbw : b < w3.heap.size := World.block_lt_of_cell? w3 _ (hc i x hx).1
      have hcl : cutP 6 (wkOf 2 (bys.take 20)) (fs.take i) ≤ i := Nat.le_trans (cutP_le _ _ _) (by rw [List.length_take]; omega)
      obtain ⟨x1, x2⟩ := x
      have D0 : Hid (∀ u, Below w3.heap.size w3 u → u.cell? ⟨b, off + i * 2, none⟩ = some (.int .i64 x1)) := fun u hu => (hu.cell (p := ⟨b, off + i * 2, none⟩) hbw).trans (hc i _ hx).1
      have D1 : Hid (∀ u, Below w3.heap.size w3 u → u.cell? ⟨b, off + i * 2 + 1, none⟩ = some (.int .i64 x2)) := fun u hu => (hu.cell (p := ⟨b, off + i * 2 + 1, none⟩) hbw).trans (hc i _ hx).2
      have C1 : Hid (∀ (u : World) (z : Int), Below w3.heap.size w3 u → Calls Try.prog 11 #[.pointer (some ⟨p2, 0, none⟩), .int .i64 z] u fun e w' => e = .returned (.int .i64 (ofP 6 (wkOf 2 (bys.take 20)) z)) ∧ Below w3.heap.size w3 w') := fun u z hu => by
        refine (of_any (some ⟨p2, 0, none⟩) 6 2 _ z u (HR2.out.below hu (Nat.le_refl _))).mono ?_
        rintro e w' ⟨rfl, hb⟩
        exact ⟨rfl, hu.trans (hb.mono hu.size)⟩
      have HCR : Hid (crosses 6 (wkOf 2 (bys.take 20)) (x1, x2) = (decide (0 ≤ ofP 6 (wkOf 2 (bys.take 20)) x1) && decide (0 ≤ ofP 6 (wkOf 2 (bys.take 20)) x2) && !decide (ofP 6 (wkOf 2 (bys.take 20)) x1 = ofP 6 (wkOf 2 (bys.take 20)) x2))) := rfl
      obtain ⟨c, hcc⟩ : ∃ c, cutP 6 (wkOf 2 (bys.take 20)) (fs.take i) = c := ⟨_, rfl⟩
      rw [hcc] at HX hcl ⊢
      have s0 : Hid (Below w3.heap.size w3 wr.drew) := hbl.drew
      clear hc hx hcc hbl
      go_wp2
      go_region_held3 (fun w' => Hid (Below w3.heap.size w3 w') ∧ w'.cell? ⟨b, off + i * 2, none⟩ = some (.int .i64 x1) ∧ w'.cell? ⟨b, off + i * 2 + 1, none⟩ = some (.int .i64 x2))
        (first | assumption | exact ⟨kk, D0.out _ kk.out, D1.out _ kk.out⟩ | exact ⟨s0, D0.out _ s0.out, D1.out _ s0.out⟩)
        ((go_at_call 11; refine Calls.mono (C1.out _ _ (by first | exact kk.out | exact s0.out)) ?_; rintro e w' ⟨rfl, hb'⟩; have kk := hidI hb'; clear hb'))
      all_goals
        have HBW := hidI kk.out
        generalize ofP 6 (wkOf 2 (bys.take 20)) x1 = p at *
        generalize ofP 6 (wkOf 2 (bys.take 20)) x2 = q at *
        by_cases h1 : 0 ≤ p
        · by_cases h2 : 0 ≤ q
          · by_cases h3 : p = q
            · subst h3
              have hcr : crosses 6 (wkOf 2 (bys.take 20)) (x1, x2) = false := by rw [HCR.out]; simp
              rw [hcr] at HX
              clear HCR hcr
              go_wp2
              go_roundg g
              case measure => omega
              case rel => exact ⟨i + 1, by omega, by go_num, by rw [HX.out]; rfl, HBW.out⟩
            · have hcr : crosses 6 (wkOf 2 (bys.take 20)) (x1, x2) = true := by rw [HCR.out]; simp [h1, h2, h3]
              rw [hcr] at HX
              have h4 : (p == q) = false := by simp [h3]
              have h5 : decide (p = q) = false := by simp [h3]
              clear HCR hcr
              go_wp2
              go_roundg g
              case measure => omega
              case rel => exact ⟨i + 1, by omega, by go_num, by rw [HX.out]; go_num, HBW.out⟩
          · have hcr : crosses 6 (wkOf 2 (bys.take 20)) (x1, x2) = false := by rw [HCR.out]; simp [h2]
            rw [hcr] at HX
            have h4 : decide (0 ≤ q) = false := by simp [h2]
            clear HCR hcr
            go_wp2
            go_roundg g
            case measure => omega
            case rel => exact ⟨i + 1, by omega, by go_num, by rw [HX.out]; rfl, HBW.out⟩
        · have hcr : crosses 6 (wkOf 2 (bys.take 20)) (x1, x2) = false := by rw [HCR.out]; simp [h1]
          rw [hcr] at HX
          have h4 : decide (0 ≤ p) = false := by simp [h1]
          clear HCR hcr
          go_wp2
          go_roundg g
          case measure => omega
          case rel => exact ⟨i + 1, by omega, by go_num, by rw [HX.out]; rfl, HBW.out⟩
/-- As the statement has its arguments. -/
theorem partsAlone_any {W : World} (v0 : Value) (bys : List Int) (ha : ArgI W v0 bys) (_ : ∀ z ∈ bys, Wf z) (v : Value) (es : Edges) (hv : ArgE W v es) (_ : ∀ x ∈ es, Wf x.1 ∧ Wf x.2) :
    Calls Try.prog 6 #[v0, v] W fun e w' => e = .returned (.bool true) ∧ Below W.heap.size W w' := by
  by_cases hl : es.length ≤ 40
  · exact alone_in v0 bys v es W ha hv.1 hl
  · obtain ⟨⟨a, cap, rfl, hs⟩, a', len', cap', he, q1, q2⟩ := hv
    cases he
    rcases hs with h0 | ⟨b, off, rfl, hc⟩
    · subst h0; simp at hl
    have e40 : (es.take 40).length = 40 := by rw [List.length_take]; omega
    refine alone_over v0 bys _ _ _ (es.take 40) W ha ⟨some ⟨b, off, none⟩, cap, by rw [e40], .inr ⟨b, off, rfl, fun j x hx => hc j x ?_⟩⟩ (by omega) q1 q2
    rw [List.getElem?_take] at hx
    split at hx
    · exact hx
    · cases hx
end Go.Proofs.Ytjlnnpcaeikolaa
