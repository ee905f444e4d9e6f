/-
  The document's text of a form.
-/
import Derived.Test.YtmihhebcchpmcaaGreatDoorLinesM
import Derived.Test.YtmihhebcchpmcaaGreatDoorTellB
namespace Go.Proofs.YtmihhebcchpmcaaGreatDoor
open Go.RowKit Go.Deep Go.MapKept Go.Shelf
/-- Forms that can be told from some places on. -/
structure Nice (ms : List MV) (G : Nat → Prop) : Prop where
  kid : ∀ (i : Nat) (x : MV), G i → ms[i]? = some x → x.1.k = 1 → ∀ c ∈ x.1.kids, (i : Int) < c ∧ c < (ms.length : Int) ∧ G c.toNat
  is : ∀ (i : Nat) (x : MV), G i → ms[i]? = some x → x.1.k = 1 ∨ x.1.k = 3 ∨ x.1.k = 4
  num : ∀ x ∈ ms, In64 x.1.n
  few : ∀ x ∈ ms, x.1.kids.length ≤ 4611686018427387904
theorem rdigits_any (n : Int) (w : World) (hn : In64 n) (ht : Tab w) :
    Calls Tryz.prog 40 #[.int .i64 n] w fun e w' => e = .returned (.string (bytesOf (Lib.itoa n))) ∧ Below w.heap.size w w' := by
  have h := Tryz.strconv_FormatInt_10 n hn.1 hn.2 w ht
  have HC := hidI h
  clear h
  go_enter Tryz.func40, Tryz.ntmps40
  go_wp2_with (go_at_call 59; refine HC.out.mono ?_; rintro e w' ⟨rfl, n, os, rfl⟩)
  go_ret
  exact ⟨rfl, below_grow w _ _⟩
theorem cat_run (a b : List UInt8) (h : a.length + b.length ≤ 9223372036854775807) (w : World) : (Op.stringOp .add (bytesOf a) (bytesOf b)).run Tryz.prog w = .ok (.string (bytesOf (a ++ b))) w := add_run a b h w
theorem gapB_d (ks ks' : List Int) (n d d' : Nat) : gapB ks n d = gapB ks' n d' := rfl
set_option maxRecDepth 100000 in
set_option maxHeartbeats 2000000 in
theorem rtext_any (fv : Value) (ms : List MV) (G : Nat → Prop) (w0 : World) (hsm : SeesM w0 fv ms) (hN : Nice ms G) (hml : ms.length ≤ 100000) (hTab : Tab w0) :
    ∀ (m i d : Nat) (W : World), i < ms.length → ms.length - i < m → G i → (txt (formsOf ms) gapB m (i : Int) d).length ≤ 140737488355328 → Below w0.heap.size w0 W →
      Calls Tryz.prog 22 #[fv, .int .i64 (i : Int)] W fun e w' => e = .returned (.string (bytesOf (txt (formsOf ms) gapB m (i : Int) d))) ∧ Below W.heap.size W w' := by
  have HSM := hidI hsm
  have HN := hidI hN
  have HTab := hidI hTab
  clear hsm hN hTab
  intro m
  induction m with
  | zero => intro i d W hi hm; omega
  | succ m IH =>
    have HIH := hidI IH
    clear IH
    intro i d W hi hm hGi hlen hbl
    obtain ⟨x, hx⟩ : ∃ x, ms[i]? = some x := ⟨_, List.getElem?_eq_getElem hi⟩
    have HX := hidI hx
    have HBL := hidI hbl
    have HGi := hidI hGi
    have his := HN.out.is i x hGi hx
    obtain ⟨fb, fo, fc, ka, kc, hfv, hkv, y0, y1, y2, y3, y4⟩ := (HSM.out.below hbl (Nat.le_refl _)).load hx
    subst hfv
    have i1 : (i : Int) < (ms.length : Int) := by omega
    have i2 : (0 : Int) ≤ (i : Int) := by omega
    have i3 : ((i : Int)).toNat = i := by omega
    have HLen := hidI hlen
    clear hx hbl hGi hlen
    by_cases hk3 : x.1.k = 3
    · have htx : txt (formsOf ms) gapB (m + 1) (i : Int) d = x.1.s.data.toList := txt_name (forms_at HX.out) hk3
      rw [htx]
      have hbs : bytesOf x.1.s.data.toList = x.1.s := by simp [bytesOf]
      rw [hbs]
      rw [hk3] at y0
      clear htx his
      go_enter Tryz.func22, Tryz.ntmps22
      go_wp2
      go_ret
      exact ⟨rfl, (Below.refl _ W).alloc (Nat.le_refl _) _⟩
    by_cases hk4 : x.1.k = 4
    · have htx : txt (formsOf ms) gapB (m + 1) (i : Int) d = Lib.itoa x.1.n := txt_num (forms_at HX.out) hk4
      rw [htx]
      rw [hk4] at y0
      have hb1 : Below W.heap.size W (W.alloc (.cells #[.int .u8 4, .string x.1.s, .int .i64 x.1.n, .slice ka x.1.kids.length kc, .int .i64 x.1.p] 56)) := (Below.refl _ W).alloc (Nat.le_refl _) _
      have CD := hidI (rdigits_any x.1.n _ (HN.out.num x (List.mem_of_getElem? HX.out)) (HTab.out.on (HBL.out.trans (hb1.mono HBL.out.size))))
      have HB1 := hidI hb1
      clear htx his hb1
      go_enter Tryz.func22, Tryz.ntmps22
      go_wp2_with (go_at_call 40; refine CD.out.mono ?_; rintro e w2 ⟨rfl, hb2⟩; have HB2 := hidI (HB1.out.trans (hb2.mono HB1.out.size)); clear hb2)
      go_ret
      exact ⟨rfl, HB2.out⟩
    · have hk1 : x.1.k = 1 := by omega
      rw [hk1] at y0
      have htx : txt (formsOf ms) gapB (m + 1) (i : Int) d = 40 :: (x.1.kids.zipIdx.flatMap (fun p => gapB x.1.kids p.2 (d + 1) ++ txt (formsOf ms) gapB m p.1 (d + 1)) ++ [41]) := txt_open (forms_at HX.out) hk1
      have hl2 : 2 + (x.1.kids.zipIdx.flatMap (fun p => gapB x.1.kids p.2 (d + 1) ++ txt (formsOf ms) gapB m p.1 (d + 1))).length ≤ 140737488355328 := by
        have := HLen.out
        rw [htx] at this
        simp at this ⊢
        omega
      obtain ⟨R, hR⟩ : ∃ R, txt (formsOf ms) gapB (m + 1) (i : Int) d = R := ⟨_, rfl⟩
      rw [hR]
      rw [hR, ← kidsT_all] at htx
      rw [← kidsT_all] at hl2
      have HR := hidI htx
      have HL2 := hidI hl2
      clear htx hl2 hR HLen his hk3 hk4
      obtain ⟨w1, hw1⟩ : ∃ w1, W.alloc (.cells #[.int .u8 1, .string x.1.s, .int .i64 x.1.n, .slice ka x.1.kids.length kc, .int .i64 x.1.p] 56) = w1 := ⟨_, rfl⟩
      have hF1 : FormH w1 W.heap.size x.1 (.slice ka x.1.kids.length kc) := by unfold FormH; rw [hk1, ← hw1]; exact (MapKept.heap_alloc W _).1
      have HF1 := hidI hF1
      have HB1 : Hid (Below W.heap.size W w1) := hidI (by rw [← hw1]; exact (Below.refl _ W).alloc (Nat.le_refl _) _)
      have hz1 : W.heap.size < w1.heap.size := (Array.getElem?_eq_some_iff.1 hF1).1
      have HW1 := hidI hw1
      clear hF1 hw1
      go_enter Tryz.func22, Tryz.ntmps22
      go_wp2
      rw [HW1.out]
      clear HW1 y0 y1 y2 y3 y4
      obtain ⟨bf, hbf⟩ : ∃ bf, W.heap.size = bf := ⟨_, rfl⟩
      rw [hbf] at HF1 hz1 HB1 ⊢
      have HBf := hidI hbf
      clear hbf
      go_loopg [6, 7] x.1.kids.length (fun g s6 s7 wx => ∃ (j : Nat) (A : List UInt8), j + g = x.1.kids.length ∧ s6 = .string (bytesOf A) ∧ s7 = .int .i64 (j : Int) ∧ Hid (A = 40 :: kidsT (formsOf ms) gapB m d x.1.kids j) ∧ Hid (Below w1.heap.size w1 wx))
      case atStart => exact ⟨0, [40], by omega, rfl, rfl, hidI (by rw [kidsT_zero]), hidI (Below.refl _ _)⟩
      case round =>
        obtain ⟨j, A, hj, rfl, rfl, HA, HX1⟩ := hrel
        have HF2 := hidI (HF1.out.below HX1.out hz1)
        have c3 := HF2.out.cell.2.2.2
        cases gk with
        | zero =>
          have hjl : j = x.1.kids.length := by omega
          subst hjl
          have j1 : ¬ ((x.1.kids.length : Int) < (x.1.kids.length : Int)) := by omega
          have hA := HA.out
          have s1 : ∀ w : World, (Op.stringOp .add (bytesOf A) { data := #[41] }).run Tryz.prog w = .ok (.string (bytesOf R)) w := fun w => by
            rw [HR.out, ← List.cons_append, ← hA]
            exact cat_run A [41] (by rw [hA]; have := HL2.out; simp; omega) w
          clear hA
          go_wp2
          go_ret
          refine ⟨rfl, ?_⟩
          rw [HBf.out]
          exact HB1.out.trans (HX1.out.mono (by omega))
        | succ g =>
          have hjl : j < x.1.kids.length := by omega
          have hjb : j < 4611686018427387904 := by have := HN.out.few x (List.mem_of_getElem? HX.out); omega
          obtain ⟨c, hc⟩ : ∃ c, x.1.kids[j]? = some c := ⟨_, List.getElem?_eq_getElem hjl⟩
          have hcr := HN.out.kid i x HGi.out HX.out hk1 c (List.mem_of_getElem? hc)
          obtain ⟨q, rfl⟩ : ∃ q : Nat, c = (q : Int) := ⟨c.toNat, by omega⟩
          have hle := kidsT_le (formsOf ms) gapB m d x.1.kids (j + 1)
          rw [← kidsT_all, kidsT_succ hc] at hle
          simp only [List.length_append] at hle
          have hkc : ∃ kb ko, ka = some ⟨kb, ko, none⟩ ∧ wr.cell? ⟨kb, ko + j, none⟩ = some (.int .i64 (q : Int)) := by
            have hkd := (HSM.out.below (HBL.out.trans ((HB1.out.trans (HX1.out.mono (by omega))).mono (by rw [← HBf.out]; exact HBL.out.size))) (Nat.le_refl _)).kid i x HX.out
            rw [hkv] at hkd
            obtain ⟨_, ka', kc', he, h00 | ⟨kb, ko, rfl, hcc⟩⟩ := hkd
            · exact absurd hjl (by omega)
            · cases he
              exact ⟨kb, ko, rfl, hcc j _ (intsI_get hc)⟩
          obtain ⟨kb, ko, rfl, ck⟩ := hkc
          have CT := hidI (HIH.out q (d + 1) wr (by omega) (by omega) (by simpa using hcr.2.2) (by have := HL2.out; omega) (HBL.out.trans ((HB1.out.trans (HX1.out.mono (by omega))).mono (by rw [← HBf.out]; exact HBL.out.size))))
          obtain ⟨T, hT⟩ : ∃ T, txt (formsOf ms) gapB m (q : Int) (d + 1) = T := ⟨_, rfl⟩
          have hS := kidsT_succ (fs := formsOf ms) (gap := gapB) (m := m) (d := d) hc
          rw [hT] at CT hle hS
          have HS := hidI hS
          have hA := HA.out
          have hlA : A.length = 1 + (kidsT (formsOf ms) gapB m d x.1.kids j).length := by rw [hA]; simp; omega
          have hl3 := HL2.out
          have j1 : (j : Int) < (x.1.kids.length : Int) := by omega
          have j2 : (0 : Int) ≤ (j : Int) := by omega
          have j3 : ((j : Int)).toNat = j := by omega
          by_cases hj0 : j = 0
          · have s2 : ∀ w : World, (Op.stringOp .add (bytesOf A) (bytesOf T)).run Tryz.prog w = .ok (.string (bytesOf (A ++ T))) w := fun w => cat_run A T (by omega) w
            have j4 : ¬ (0 : Int) < (j : Int) := by omega
            have HJ0 := hidI hj0
            clear hj0 hA hlA hl3 hle hS hT hcr hc
            go_wp2_with (go_at_call 22; refine CT.out.mono ?_; rintro e w4 ⟨rfl, hw4⟩; have HP4 := hidI hw4; clear hw4)
            go_roundg g
            case measure => omega
            case rel => exact ⟨j + 1, A ++ T, by omega, rfl, by go_num, hidI (by rw [HS.out, HA.out]; unfold gapB; rw [if_pos HJ0.out]; simp), hidI (HX1.out.trans (HP4.out.mono HX1.out.size))⟩
          · have s1 : ∀ w : World, (Op.stringOp .add (bytesOf A) { data := #[32] }).run Tryz.prog w = .ok (.string (bytesOf (A ++ [32]))) w := fun w => cat_run A [32] (by simp; omega) w
            have hg : (gapB x.1.kids j (d + 1)).length = 1 := by unfold gapB; rw [if_neg hj0]; rfl
            have s2 : ∀ w : World, (Op.stringOp .add (bytesOf (A ++ [32])) (bytesOf T)).run Tryz.prog w = .ok (.string (bytesOf (A ++ [32] ++ T))) w := fun w => cat_run (A ++ [32]) T (by simp; omega) w
            have j4 : (0 : Int) < (j : Int) := by omega
            have HJ0 := hidI hj0
            clear hj0 hA hlA hl3 hle hS hT hcr hc hg
            go_wp2_with (go_at_call 22; refine CT.out.mono ?_; rintro e w4 ⟨rfl, hw4⟩; have HP4 := hidI hw4; clear hw4)
            go_roundg g
            case measure => omega
            case rel => exact ⟨j + 1, A ++ [32] ++ T, by omega, by first | rfl | simp, by go_num, hidI (by rw [HS.out, HA.out]; unfold gapB; rw [if_neg HJ0.out]; simp), hidI (HX1.out.trans (HP4.out.mono HX1.out.size))⟩
end Go.Proofs.YtmihhebcchpmcaaGreatDoor
