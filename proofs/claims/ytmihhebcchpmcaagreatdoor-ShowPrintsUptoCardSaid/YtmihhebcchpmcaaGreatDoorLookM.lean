/-
  Forms that may be told, by the count: all below them may; the document's count.
-/
import Derived.Test.YtmihhebcchpmcaaGreatDoorPrn
import Derived.Test.YtmihhebcchpmcaaGreatDoorRText
namespace Go.Proofs.YtmihhebcchpmcaaGreatDoor
open Go.RowKit Go.Deep Go.MapKept Go.Shelf
/-- A form that may be told. -/
def Gd (fs : List Fm) (i : Nat) : Prop := ∃ m s, (lookF fs m i s).1 = true
theorem lookK_all {L : Nat → Nat → Bool × Nat} {i n : Nat} : ∀ {ks : List Int} {s : Nat}, (lookK L i n ks s).1 = true → ∀ c ∈ ks, (i : Int) < c ∧ c < (n : Int) ∧ ∃ s', (L c.toNat s').1 = true
  | [], _, _, c, hc => by simp at hc
  | k :: r, s, h, c, hc => by
    unfold lookK at h
    split at h
    · cases h
    · rename_i h1
      split at h
      · rename_i h2
        rcases List.mem_cons.1 hc with rfl | hc
        · exact ⟨by omega, by omega, s, h2⟩
        · exact lookK_all h c hc
      · cases h
theorem nice_gd {ms : List MV} (hn : ∀ x ∈ ms, In64 x.1.n) (hf : ∀ x ∈ ms, x.1.kids.length ≤ 4611686018427387904) : Nice ms (Gd (formsOf ms)) := by
  have hl : (formsOf ms).length = ms.length := by simp [formsOf]
  have key : ∀ (i : Nat) (x : MV), Gd (formsOf ms) i → ms[i]? = some x → ∃ m s, (if x.1.k = 1 then lookK (lookF (formsOf ms) m) i ms.length x.1.kids (s + 1) else (x.1.k == 3 || x.1.k == 4, s + 1)).1 = true := by
    rintro i x ⟨m, s, h⟩ hx
    cases m with
    | zero => cases h
    | succ m =>
      unfold lookF at h
      split at h
      · cases h
      · rw [forms_at hx, hl] at h
        exact ⟨m, s, h⟩
  refine ⟨fun i x hg hx hk c hc => ?_, fun i x hg hx => ?_, hn, hf⟩
  · obtain ⟨m, s, h⟩ := key i x hg hx
    rw [if_pos hk] at h
    obtain ⟨h1, h2, s', h3⟩ := lookK_all h c hc
    exact ⟨h1, h2, m, s', h3⟩
  · obtain ⟨m, s, h⟩ := key i x hg hx
    by_cases hk : x.1.k = 1
    · exact .inl hk
    · rw [if_neg hk] at h
      simp only [Bool.or_eq_true, beq_iff_eq] at h
      exact .inr h
/-- How many may yet be gone through. -/
def mayV (r : Bool × Nat) : Int := if r.1 then 400 - (r.2 : Int) else -1
set_option maxRecDepth 100000 in
set_option maxHeartbeats 2000000 in
theorem rmay_any (fv : Value) (ms : List MV) (w0 : World) (hsm : SeesM w0 fv ms) (hml : ms.length ≤ 100000) (hfew : ∀ x ∈ ms, x.1.kids.length ≤ 4611686018427387904) :
    ∀ (m i s : Nat) (W : World), i < ms.length → ms.length - i < m → s ≤ 400 → Below w0.heap.size w0 W →
      Calls Tryz.prog 27 #[fv, .int .i64 (i : Int), .int .i64 (400 - (s : Int))] W fun e w' => e = .returned (.int .i64 (mayV (lookF (formsOf ms) m i s))) ∧ Below W.heap.size W w' := by
  have HSM := hidI hsm
  have HF := hidI hfew
  clear hsm hfew
  intro m
  induction m with
  | zero => intro i s W hi hm; omega
  | succ m IH =>
    have HIH := hidI IH
    clear IH
    intro i s W hi hm hs hbl
    obtain ⟨x, hx⟩ : ∃ x, ms[i]? = some x := ⟨_, List.getElem?_eq_getElem hi⟩
    have HX := hidI hx
    have HBL := hidI hbl
    obtain ⟨fb, fo, fc, ka, kc, hfv, hkv, y0, y1, y2, y3, y4⟩ := (HSM.out.below hbl (Nat.le_refl _)).load hx
    subst hfv
    have i1 : (i : Int) < (ms.length : Int) := by omega
    have i2 : (0 : Int) ≤ (i : Int) := by omega
    have i3 : ((i : Int)).toNat = i := by omega
    have hfl : (formsOf ms).length = ms.length := by simp [formsOf]
    have hfx := forms_at hx
    obtain ⟨L0, hL0⟩ : ∃ l : Int, 400 - (s : Int) = l := ⟨_, rfl⟩
    have HL0 := hidI hL0
    rw [hL0]
    obtain ⟨w1, hw1⟩ : ∃ w1, W.alloc (.cells #[.int .u8 x.1.k, .string x.1.s, .int .i64 x.1.n, .slice ka x.1.kids.length kc, .int .i64 x.1.p] 56) = w1 := ⟨_, rfl⟩
    have hF1 : FormH w1 W.heap.size x.1 (.slice ka x.1.kids.length kc) := by unfold FormH; rw [← hw1]; exact (MapKept.heap_alloc W _).1
    have HF1 := hidI hF1
    have HB1 : Hid (Below W.heap.size W w1) := hidI (by rw [← hw1]; exact (Below.refl _ W).alloc (Nat.le_refl _) _)
    have hz1 : W.heap.size < w1.heap.size := (Array.getElem?_eq_some_iff.1 hF1).1
    have HW1 := hidI hw1
    clear hx hbl hF1 hw1
    by_cases h4 : 400 ≤ s
    · have hr : lookF (formsOf ms) (m + 1) i s = (false, s + 1) := by unfold lookF; rw [if_pos h4]
      rw [hr]
      have e1 : L0 < 1 := by omega
      have hm1 : mayV (false, s + 1) = -1 := rfl
      rw [hm1]
      clear hr hm1 hL0 hfx hfl
      go_enter Tryz.func27, Tryz.ntmps27
      go_wp2
      go_ret
      exact ⟨rfl, by rw [HW1.out]; exact HB1.out⟩
    have hr : lookF (formsOf ms) (m + 1) i s = if x.1.k = 1 then lookK (lookF (formsOf ms) m) i ms.length x.1.kids (s + 1) else (x.1.k == 3 || x.1.k == 4, s + 1) := by
      rw [lookF, if_neg h4, hfx, hfl]
    rw [hr]
    have e1 : ¬ L0 < 1 := by omega
    have e2 : IntKind.i64.wrap (L0 - 1) = L0 - 1 := by rw [IntKind.wrap_i64]; omega
    clear hr hfx hfl
    by_cases hk1 : x.1.k = 1
    · rw [if_pos hk1]
      have n1 : (x.1.k == 1) = true := by simp [hk1]
      have n1' : (x.1.k != 1) = false := by simp [hk1]
      obtain ⟨L, hL⟩ : ∃ L, lookF (formsOf ms) m = L := ⟨_, rfl⟩
      have HLe : Hid (∀ i s, s ≤ 400 → (L i s).2 ≤ 401 ∧ ((L i s).1 = true → (L i s).2 ≤ 400)) := hidI (by rw [← hL]; exact lookF_le (formsOf ms) m)
      rw [hL] at HIH ⊢
      clear hL
      obtain ⟨R, hR⟩ : ∃ R, mayV (lookK L i ms.length x.1.kids (s + 1)) = R := ⟨_, rfl⟩
      rw [hR]
      have HR := hidI hR
      have hs1 : s + 1 ≤ 400 := by omega
      have hL1 : L0 - 1 = 400 - ((s + 1 : Nat) : Int) := by omega
      have HL1 := hidI hL1
      rw [hk1] at y0
      clear hR hL0 hL1 h4
      have HK1 := hidI hk1
      have HW2 := HW1.out
      rw [hk1] at HW2
      have HW3 := hidI HW2
      clear HW2 HW1
      go_enter Tryz.func27, Tryz.ntmps27
      go_wp2
      rw [HW3.out]
      clear HW3 y0 y1 y2 y3 y4 e1 e2
      obtain ⟨bf, hbf⟩ : ∃ bf, W.heap.size = bf := ⟨_, rfl⟩
      rw [hbf] at HF1 hz1 HB1 ⊢
      have HBf := hidI hbf
      clear hbf
      obtain ⟨L2, hL2⟩ : ∃ l : Int, L0 - 1 = l := ⟨_, rfl⟩
      rw [hL2] at HL1 ⊢
      clear hL2
      go_loopg [2, 8] x.1.kids.length (fun g s2 s8 wx => ∃ (j : Nat) (v : Int), j + g = x.1.kids.length ∧ s2 = .int .i64 v ∧ s8 = .int .i64 (j : Int) ∧ Hid ((∃ s' : Nat, v = 400 - (s' : Int) ∧ s' ≤ 400 ∧ lookK L i ms.length x.1.kids (s + 1) = lookK L i ms.length (x.1.kids.drop j) s') ∨ (v = -1 ∧ R = -1)) ∧ Hid (Below w1.heap.size w1 wx))
      case atStart => exact ⟨0, L2, by omega, rfl, rfl, hidI (.inl ⟨s + 1, HL1.out, hs1, by simp⟩), hidI (Below.refl _ _)⟩
      case round =>
        obtain ⟨j, v, hj, rfl, rfl, HV, HX1⟩ := hrel
        have HF2 := hidI (HF1.out.below HX1.out hz1)
        have hc1 := HF2.out.cell
        have c0 := hc1.1
        have c3 := hc1.2.2.2
        rw [HK1.out] at c0
        clear hc1
        have hfin : Hid (Below bf W wr) := hidI (HB1.out.trans (HX1.out.mono (by omega)))
        rcases HV.out with ⟨s', hv, hs', hlk⟩ | ⟨hv, hR1⟩
        · have v0 : 0 ≤ v := by omega
          have HLK := hidI hlk
          have Hv := hidI hv
          clear hlk HV
          cases gk with
          | zero =>
            have hjl : j = x.1.kids.length := by omega
            have hd : x.1.kids.drop j = [] := by rw [hjl]; simp
            have j1 : ¬ ((j : Int) < (x.1.kids.length : Int)) := by omega
            have hRv : R = v := by rw [← HR.out, HLK.out, hd]; simp [lookK, mayV]; omega
            have HRv := hidI hRv
            clear hd hjl hRv hv
            go_wp2
            go_ret
            exact ⟨by rw [HRv.out] <;> first | rfl | skip, by rw [HBf.out]; exact hfin.out⟩
          | succ g =>
            have hjl : j < x.1.kids.length := by omega
            have hjb : j < 4611686018427387904 := by have := HF.out x (List.mem_of_getElem? HX.out); omega
            obtain ⟨c, hc⟩ : ∃ c, x.1.kids[j]? = some c := ⟨_, List.getElem?_eq_getElem hjl⟩
            have hdr : x.1.kids.drop j = c :: x.1.kids.drop (j + 1) := by rw [List.drop_eq_getElem_cons hjl]; congr 1; rw [List.getElem?_eq_getElem hjl] at hc; exact Option.some.inj hc
            have hbw : Below w0.heap.size w0 wr := HBL.out.trans (by have h := hfin.out; exact h.mono (by rw [← HBf.out]; exact HBL.out.size))
            have HBW := hidI hbw
            have hkc : ∃ kb ko, ka = some ⟨kb, ko, none⟩ ∧ wr.cell? ⟨kb, ko + j, none⟩ = some (.int .i64 c) := by
              have hkd := (HSM.out.below hbw (Nat.le_refl _)).kid i x HX.out
              rw [hkv] at hkd
              obtain ⟨_, ka', kc', he, h00 | ⟨kb, ko, rfl, hcc⟩⟩ := hkd
              · exact absurd hjl (by omega)
              · cases he
                exact ⟨kb, ko, rfl, hcc j _ (intsI_get hc)⟩
            obtain ⟨kb, ko, rfl, ck⟩ := hkc
            have j1 : (j : Int) < (x.1.kids.length : Int) := by omega
            have j2 : (0 : Int) ≤ (j : Int) := by omega
            have j3 : ((j : Int)).toNat = j := by omega
            clear hbw hc
            by_cases hb1 : c ≤ (i : Int)
            · have hRv : R = -1 := by rw [← HR.out, HLK.out, hdr, lookK, if_pos (.inl hb1)]; rfl
              have HRv := hidI hRv
              clear hRv hdr hv
              go_wp2
              go_ret
              exact ⟨by rw [HRv.out] <;> first | rfl | skip, by rw [HBf.out]; exact hfin.out⟩
            by_cases hb2 : (ms.length : Int) ≤ c
            · have hRv : R = -1 := by rw [← HR.out, HLK.out, hdr, lookK, if_pos (.inr hb2)]; rfl
              have HRv := hidI hRv
              clear hRv hdr hv
              go_wp2
              go_ret
              exact ⟨by rw [HRv.out] <;> first | rfl | skip, by rw [HBf.out]; exact hfin.out⟩
            obtain ⟨q, rfl⟩ : ∃ q : Nat, c = (q : Int) := ⟨c.toNat, by omega⟩
            have hv2 : lookK L i ms.length (x.1.kids.drop j) s' = if (L q s').1 then lookK L i ms.length (x.1.kids.drop (j + 1)) (L q s').2 else (false, (L q s').2) := by rw [hdr, lookK, if_neg (by omega)]; rfl
            have hCL := HIH.out q s' wr (by omega) (by omega) hs' HBW.out
            rw [← hv] at hCL
            have CL := hidI hCL
            have hle := (HLe.out q s' hs').2
            obtain ⟨r, hr⟩ : ∃ r, L q s' = r := ⟨_, rfl⟩
            rw [hr] at CL hle hv2
            obtain ⟨rb, rs⟩ := r
            have HV2 := hidI hv2
            obtain ⟨mv, hmv⟩ : ∃ mv, mayV (rb, rs) = mv := ⟨_, rfl⟩
            rw [hmv] at CL
            have HNx : Hid ((∃ s' : Nat, mv = 400 - (s' : Int) ∧ s' ≤ 400 ∧ lookK L i ms.length x.1.kids (s + 1) = lookK L i ms.length (x.1.kids.drop (j + 1)) s') ∨ (mv = -1 ∧ R = -1)) := hidI (by
              cases rb with
              | true => exact .inl ⟨rs, by rw [← hmv]; simp [mayV], hle rfl, by rw [HLK.out, HV2.out]; simp⟩
              | false => exact .inr ⟨by rw [← hmv]; simp [mayV], by rw [← HR.out, HLK.out, HV2.out]; simp [mayV]⟩)
            clear hv2 hdr hr hmv hle hv hCL HV2
            go_wp2_with (go_at_call 27; refine CL.out.mono ?_; rintro e w2 ⟨rfl, hb2⟩; have HB2' := hidI (HX1.out.trans (hb2.mono HX1.out.size)); clear hb2)
            go_roundg g
            case measure => omega
            case rel => exact ⟨j + 1, mv, by omega, rfl, by go_num, HNx, HB2'⟩
        · have v0 : ¬ 0 ≤ v := by omega
          subst hv
          have HR1 := hidI hR1
          clear HV hR1
          by_cases hjl : (j : Int) < (x.1.kids.length : Int)
          · go_wp2
            go_ret
            exact ⟨by rw [HR1.out] <;> first | rfl | skip, by rw [HBf.out]; exact hfin.out⟩
          · go_wp2
            go_ret
            exact ⟨by rw [HR1.out] <;> first | rfl | skip, by rw [HBf.out]; exact hfin.out⟩
    · rw [if_neg hk1]
      have n1 : (x.1.k == 1) = false := by simp [hk1]
      have HF2 := HF1.out.cell
      have c0 := HF2.1
      have c3 := HF2.2.2.2
      clear HF2
      by_cases hk3 : x.1.k = 3 ∨ x.1.k = 4
      · have hmv : mayV (x.1.k == 3 || x.1.k == 4, s + 1) = L0 - 1 := by
          have : (x.1.k == 3 || x.1.k == 4) = true := by rcases hk3 with h | h <;> simp [h]
          rw [this]; simp [mayV]; omega
        rw [hmv]
        clear hmv hL0
        rw [← HW1.out] at c0 c3
        by_cases hk0 : (0 : Int) < (x.1.kids.length : Int)
        · rcases hk3 with hk3 | hk3
          · rw [hk3] at y0 c0 c3 HW1
            clear hk3 hk1 n1
            go_enter Tryz.func27, Tryz.ntmps27
            go_wp2
            refine wp_loop_rounds 1 ?_
            rw [rounds_succ]
            go_wp2
            go_ret
            exact ⟨rfl, by rw [HW1.out]; exact HB1.out⟩
          · rw [hk3] at y0 c0 c3 HW1
            clear hk3 hk1 n1
            go_enter Tryz.func27, Tryz.ntmps27
            go_wp2
            refine wp_loop_rounds 1 ?_
            rw [rounds_succ]
            go_wp2
            go_ret
            exact ⟨rfl, by rw [HW1.out]; exact HB1.out⟩
        · rcases hk3 with hk3 | hk3
          · rw [hk3] at y0 c0 c3 HW1
            clear hk3 hk1 n1
            go_enter Tryz.func27, Tryz.ntmps27
            go_wp2
            refine wp_loop_rounds 1 ?_
            rw [rounds_succ]
            go_wp2
            go_ret
            exact ⟨rfl, by rw [HW1.out]; exact HB1.out⟩
          · rw [hk3] at y0 c0 c3 HW1
            clear hk3 hk1 n1
            go_enter Tryz.func27, Tryz.ntmps27
            go_wp2
            refine wp_loop_rounds 1 ?_
            rw [rounds_succ]
            go_wp2
            go_ret
            exact ⟨rfl, by rw [HW1.out]; exact HB1.out⟩
      · have hmv : mayV (x.1.k == 3 || x.1.k == 4, s + 1) = -1 := by
          have : (x.1.k == 3 || x.1.k == 4) = false := by simp; omega
          rw [this]; simp [mayV]
        rw [hmv]
        have n3 : (x.1.k == 3) = false := by simp; omega
        have n4 : (x.1.k == 4) = false := by simp; omega
        have a3 : ¬ x.1.k = 3 := by omega
        have a4 : ¬ x.1.k = 4 := by omega
        have m1 : (x.1.k != 1) = true := by simp [hk1]
        have m3 : (x.1.k != 3) = true := by simp [a3]
        have m4 : (x.1.k != 4) = true := by simp [a4]
        clear hmv hL0 c0 c3 hk3
        go_enter Tryz.func27, Tryz.ntmps27
        go_wp2
        go_ret
        exact ⟨rfl, by rw [HW1.out]; exact HB1.out⟩
end Go.Proofs.YtmihhebcchpmcaaGreatDoor
