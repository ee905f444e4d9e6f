/-
  The document's text in lines.
-/
import Derived.Test.YtmihhebcchpmcaaGreatDoorRPrint
import Derived.Test.YtmihhebcchpmcaaGreatDoorLookM
import Derived.Test.YtmihhebcchpmcaaGreatDoorTellO
import Derived.Test.YtmihhebcchpmcaaGreatDoorFew9
namespace Go.Proofs.YtmihhebcchpmcaaGreatDoor
open Go.RowKit Go.Deep Go.MapKept Go.Shelf
theorem txt_leafI (fs : List Fm) (a : Int) (h : isOp fs a = false) (g g' : GapF) : ∀ (m d d' : Nat), txt fs g m a d = txt fs g' m a d'
  | 0, _, _ => rfl
  | m + 1, d, d' => by
    unfold txt
    unfold isOp at h
    cases hf : fs[a.toNat]? with
    | none => rfl
    | some f =>
      rw [hf] at h
      simp only at h
      have h1 : ¬ f.k = 1 := by simpa using h
      simp only
      rw [if_neg h1, if_neg h1]
theorem gapL_B {fs : List Fm} {ks : List Int} {n : Nat} (d : Nat) (h : (ks.take (n + 1)).any (isOp fs) = false) : gapL fs ks n d = gapB ks n d := by
  unfold gapL
  rw [h]
  rfl
theorem any_none {fs : List Fm} {ks : List Int} (h : ∀ c ∈ ks, isOp fs c = false) : ks.any (isOp fs) = false := by
  rw [List.any_eq_false]
  intro c hc
  rw [h c hc]
  simp
theorem txt_noOpen {fs : List Fm} {i : Nat} {f : Fm} (hf : fs[i]? = some f) (hk : f.k = 1) (h : ∀ c ∈ f.kids, isOp fs c = false) (m d : Nat) : txt fs (gapL fs) (m + 1) (i : Int) d = txt fs gapB (m + 1) (i : Int) d := by
  rw [txt_open hf hk, txt_open hf hk]
  congr 2
  rw [List.flatMap_def, List.flatMap_def]
  congr 1
  refine List.map_congr_left fun p hp => ?_
  have hm : p.1 ∈ f.kids := by
    have := List.mem_zipIdx hp
    rw [this.2.2]
    exact List.getElem_mem _
  rw [gapL_B (d + 1) (any_none fun c hc => h c (List.mem_of_mem_take hc)), txt_leafI fs p.1 (h _ hm) (gapL fs) gapB m (d + 1) (d + 1)]
/-- Where the first bracket stands. -/
def firstOp (fs : List Fm) (ks : List Int) : Nat := (ks.takeWhile fun c => !isOp fs c).length
theorem firstOp_le (fs : List Fm) : ∀ ks : List Int, firstOp fs ks ≤ ks.length
  | [] => Nat.le_refl _
  | c :: r => by
    have := firstOp_le fs r
    unfold firstOp at this ⊢
    simp only [List.takeWhile_cons]
    split
    · simp only [List.length_cons]; omega
    · simp
theorem firstOp_take (fs : List Fm) : ∀ ks : List Int, ∀ c ∈ ks.take (firstOp fs ks), isOp fs c = false
  | [], c, hc => by simp at hc
  | k :: r, c, hc => by
    unfold firstOp at hc
    simp only [List.takeWhile_cons] at hc
    cases hk : isOp fs k with
    | true => rw [hk] at hc; simp at hc
    | false =>
      rw [hk] at hc
      simp only [Bool.not_false, if_true, List.length_cons, List.take_succ_cons, List.mem_cons] at hc
      rcases hc with rfl | hc
      · exact hk
      · exact firstOp_take fs r c hc
theorem firstOp_at (fs : List Fm) : ∀ (ks : List Int) (c : Int), ks[firstOp fs ks]? = some c → isOp fs c = true
  | [], c, h => by simp at h
  | k :: r, c, h => by
    unfold firstOp at h
    simp only [List.takeWhile_cons] at h
    cases hk : isOp fs k with
    | true => rw [hk] at h; simp at h; rw [← h]; exact hk
    | false =>
      rw [hk] at h
      simp only [Bool.not_false, if_true, List.length_cons, List.getElem?_cons_succ] at h
      exact firstOp_at fs r c h
set_option maxRecDepth 100000 in
set_option maxHeartbeats 1500000 in
theorem rpretty_any (fv : Value) (ms : List MV) (w0 : World) (hsm : SeesM w0 fv ms) (hN : Nice ms (fun _ => True)) (hleaf : ∀ x ∈ ms, x.1.k ≠ 1 → x.1.kids = []) (hml : ms.length ≤ 100000) (hTab : Tab w0) :
    ∀ (m i d : Nat) (W : World), i < ms.length → ms.length - i < m → d + m ≤ 1000000 → (txt (formsOf ms) (gapL (formsOf ms)) m (i : Int) d).length ≤ 140737488355328 → Below w0.heap.size w0 W →
      Calls Tryz.prog 29 #[fv, .int .i64 (i : Int), .int .i64 ((d + 1 : Nat) : Int)] W fun e w' => e = .returned (.string (bytesOf (txt (formsOf ms) (gapL (formsOf ms)) m (i : Int) d))) ∧ Below W.heap.size W w' := by
  have HSM := hidI hsm
  have HN := hidI hN
  have HLf := hidI hleaf
  have HTab := hidI hTab
  clear hsm hN hTab hleaf
  intro m
  induction m with
  | zero => intro i d W hi hm; omega
  | succ m IH =>
    have HIH := hidI IH
    clear IH
    intro i d W hi hm hd hlen hbl
    obtain ⟨x, hx⟩ : ∃ x, ms[i]? = some x := ⟨_, List.getElem?_eq_getElem hi⟩
    have HX := hidI hx
    have HBL := hidI hbl
    have hxm := List.mem_of_getElem? hx
    have hfew := HN.out.few x hxm
    obtain ⟨fb, fo, fc, ka, kc, hfv, hkv, y0, y1, y2, y3, y4⟩ := (HSM.out.below hbl (Nat.le_refl _)).load hx
    subst hfv
    have i1 : (i : Int) < (ms.length : Int) := by omega
    have i2 : (0 : Int) ≤ (i : Int) := by omega
    have i3 : ((i : Int)).toNat = i := by omega
    have HLen := hidI hlen
    have CT0 := hidI fun (y : World) (hb : (txt (formsOf ms) gapB (m + 1) (i : Int) d).length ≤ 140737488355328) (hy : Below w0.heap.size w0 y) => rtext_any (.slice (some ⟨fb, fo, none⟩) ms.length fc) ms (fun _ => True) w0 HSM.out HN.out hml HTab.out (m + 1) i d y hi hm trivial hb hy
    obtain ⟨w1, hw1⟩ : ∃ w1, W.alloc (.cells #[.int .u8 x.1.k, .string x.1.s, .int .i64 x.1.n, .slice ka x.1.kids.length kc, .int .i64 x.1.p] 56) = w1 := ⟨_, rfl⟩
    have hF1 : FormH w1 W.heap.size x.1 (.slice ka x.1.kids.length kc) := by unfold FormH; rw [← hw1]; exact (MapKept.heap_alloc W _).1
    have HF1 := hidI hF1
    have HB1 : Hid (Below W.heap.size W w1) := hidI (by rw [← hw1]; exact (Below.refl _ W).alloc (Nat.le_refl _) _)
    have hz1 : W.heap.size < w1.heap.size := (Array.getElem?_eq_some_iff.1 hF1).1
    have HW1 := hidI hw1
    have hcl := hF1.cell
    have c0 := hcl.1
    have c3 := hcl.2.2.2
    have HW1b : Hid (Below w0.heap.size w0 w1) := hidI (HBL.out.trans (HB1.out.mono HBL.out.size))
    clear hx hbl hlen hF1 hw1 hcl
    by_cases hk1 : x.1.k = 1
    · obtain ⟨F, hF⟩ : ∃ F, firstOp (formsOf ms) x.1.kids = F := ⟨_, rfl⟩
      have hFle := firstOp_le (formsOf ms) x.1.kids
      have hFt := firstOp_take (formsOf ms) x.1.kids
      have hFa := firstOp_at (formsOf ms) x.1.kids
      rw [hF] at hFle hFt hFa
      have HFt := hidI hFt
      have HFa := hidI hFa
      have hkr : ∀ c ∈ x.1.kids, (i : Int) < c ∧ c < (ms.length : Int) := fun c hc => by have := HN.out.kid i x trivial HX.out hk1 c hc; exact ⟨this.1, this.2.1⟩
      have HKr := hidI hkr
      rw [hk1] at y0 c0
      have HW2 := HW1.out
      rw [hk1] at HW2
      have HW3 := hidI HW2
      obtain ⟨bf, hbf⟩ : ∃ bf, W.heap.size = bf := ⟨_, rfl⟩
      have HBf := hidI hbf
      obtain ⟨R, hR⟩ : ∃ R, txt (formsOf ms) (gapL (formsOf ms)) (m + 1) (i : Int) d = R := ⟨_, rfl⟩
      rw [hR]
      have HR := hidI hR
      have HK1 := hidI hk1
      have HKind : Hid (∀ (j : Nat), j < x.1.kids.length → ∃ (q : Nat) (kb ko : Nat) (kk : Int), x.1.kids[j]? = some (q : Int) ∧ q < ms.length ∧ i < q ∧ ka = some ⟨kb, ko, none⟩ ∧ w1.cell? ⟨kb, ko + j, none⟩ = some (.int .i64 (q : Int)) ∧ w1.cell? ⟨fb, fo + q * 5, none⟩ = some (.int .u8 kk) ∧ isOp (formsOf ms) (q : Int) = (kk == 1)) := hidI (by
        intro j hj
        obtain ⟨c, hc⟩ : ∃ c, x.1.kids[j]? = some c := ⟨_, List.getElem?_eq_getElem hj⟩
        have hcr := hkr c (List.mem_of_getElem? hc)
        obtain ⟨q, rfl⟩ : ∃ q : Nat, c = (q : Int) := ⟨c.toNat, by omega⟩
        have hsm1 := HSM.out.below HW1b.out (Nat.le_refl _)
        have hkd := hsm1.kid i x HX.out
        rw [hkv] at hkd
        obtain ⟨_, ka', kc', he, h00 | ⟨kb, ko, rfl, hcc⟩⟩ := hkd
        · exact absurd hj (by omega)
        · cases he
          obtain ⟨y, hy⟩ : ∃ y, ms[q]? = some y := ⟨_, List.getElem?_eq_getElem (by omega)⟩
          obtain ⟨fb', fo', fc', ka2, kc2, hfv2, _, z0, _⟩ := hsm1.load hy
          cases hfv2
          exact ⟨q, kb, ko, y.1.k, hc, by omega, by omega, rfl, hcc j _ (intsI_get hc), z0, isOp_at hy⟩)
      clear hF hFt hFa hkr hbf hR hk1 HW2 HW1
      obtain ⟨D, hD⟩ : ∃ D : Nat, d + 1 = D := ⟨_, rfl⟩
      have hDD : ((d + 1 : Nat) : Int) = (D : Int) := by rw [hD]
      rw [hDD]
      have hDb : D ≤ 1000001 := by omega
      have hwd : IntKind.i64.wrap ((D : Int) + 1) = ((D + 1 : Nat) : Int) := by rw [IntKind.wrap_i64]; omega
      have HD := hidI hD
      clear hDD hD
      go_enter Tryz.func29, Tryz.ntmps29
      go_wp2
      rw [HW3.out]
      rw [HBf.out] at c0 c3 HF1 hz1 HB1 ⊢
      clear HW3 y0 y1 y2 y3 y4
      go_loopg [8] F (fun g s8 wx => ∃ j : Nat, j + g = F ∧ s8 = .int .i64 (j : Int) ∧ w1 = wx)
      case atStart => exact ⟨0, by omega, rfl, rfl⟩
      case round =>
        obtain ⟨j, hj, rfl, rfl⟩ := hrel
        cases gk with
        | succ g =>
          obtain ⟨q, kb, ko, kk, hc, hq1, hq2, rfl, ck, cq, hop⟩ := HKind.out j (by omega)
          have hop2 : isOp (formsOf ms) (q : Int) = false := HFt.out _ (by
            have : (x.1.kids.take F)[j]? = some (q : Int) := by rw [List.getElem?_take, if_pos (by omega)]; exact hc
            exact List.mem_of_getElem? this)
          rw [hop2] at hop
          have n1 : ¬ kk = 1 := by intro e; rw [e] at hop; simp at hop
          have n2 : (kk != 1) = true := by simp [n1]
          have n3 : (kk == 1) = false := by simp [n1]
          have j1 : (j : Int) < (x.1.kids.length : Int) := by omega
          have j2 : (0 : Int) ≤ (j : Int) := by omega
          have j3 : ((j : Int)).toNat = j := by omega
          have q1 : (q : Int) < (ms.length : Int) := by omega
          have q2 : (0 : Int) ≤ (q : Int) := by omega
          have q3 : ((q : Int)).toNat = q := by omega
          clear hop hop2 hc
          go_wp2
          go_roundg g
          case measure => omega
          case rel => exact ⟨j + 1, by omega, by go_num, rfl⟩
        | zero =>
          have hjF : F = j := by omega
          subst hjF
          by_cases hFl : F = x.1.kids.length
          · have j1 : ¬ ((F : Int) < (x.1.kids.length : Int)) := by omega
            have e1 : (F : Int) = (x.1.kids.length : Int) := by omega
            have e2 : ((F : Int) == (x.1.kids.length : Int)) = true := by simp [hFl]
            have hno : R = txt (formsOf ms) gapB (m + 1) (i : Int) d := by
              rw [← HR.out]
              exact txt_noOpen (forms_at HX.out) HK1.out (fun c hc => HFt.out c (by rw [hFl, List.take_length]; exact hc)) m d
            have HNo := hidI hno
            have CT := hidI (CT0.out w1 (by rw [← hno, ← HR.out]; exact HLen.out) HW1b.out)
            obtain ⟨T, hT⟩ : ∃ T, txt (formsOf ms) gapB (m + 1) (i : Int) d = T := ⟨_, rfl⟩
            rw [hT] at CT HNo
            clear hno hT hFl
            go_wp2_with (go_at_call 22; refine CT.out.mono ?_; rintro e w4 ⟨rfl, hw4⟩; have HP4 := hidI hw4; clear hw4)
            go_ret
            exact ⟨by rw [HNo.out] <;> first | rfl | skip, by rw [HBf.out]; exact HB1.out.trans (HP4.out.mono (by omega))⟩
          · obtain ⟨q, kb, ko, kk, hc, hq1, hq2, rfl, ck, cq, hop⟩ := HKind.out F (by omega)
            have hop2 := HFa.out _ hc
            rw [hop2] at hop
            have hkk : kk = 1 := by simpa using hop.symm
            subst hkk
            have j1 : (F : Int) < (x.1.kids.length : Int) := by omega
            have j2 : (0 : Int) ≤ (F : Int) := by omega
            have j3 : ((F : Int)).toNat = F := by omega
            have q1 : (q : Int) < (ms.length : Int) := by omega
            have q2 : (0 : Int) ≤ (q : Int) := by omega
            have q3 : ((q : Int)).toNat = q := by omega
            have e1 : ¬ (F : Int) = (x.1.kids.length : Int) := by omega
            have e2 : ((F : Int) == (x.1.kids.length : Int)) = false := by rw [beq_eq_false_iff_ne]; exact e1
            have hany : ∀ j, F ≤ j → j < x.1.kids.length → (x.1.kids.take (j + 1)).any (isOp (formsOf ms)) = true := fun j h1 h2 => by
              rw [List.any_eq_true]
              refine ⟨(q : Int), ?_, hop2⟩
              have : (x.1.kids.take (j + 1))[F]? = some (q : Int) := by rw [List.getElem?_take, if_pos (by omega)]; exact hc
              exact List.mem_of_getElem? this
            have HAny := hidI hany
            have htx : R = 40 :: (kidsT (formsOf ms) (gapL (formsOf ms)) m d x.1.kids x.1.kids.length ++ [41]) := by
              rw [← HR.out, kidsT_all]
              exact txt_open (forms_at HX.out) HK1.out
            have HTX := hidI htx
            have hl2 : 2 + (kidsT (formsOf ms) (gapL (formsOf ms)) m d x.1.kids x.1.kids.length).length ≤ 140737488355328 := by
              have h1 := HLen.out
              rw [HR.out, htx] at h1
              simp at h1 ⊢
              omega
            have HL2 := hidI hl2
            clear hop hop2 hc hany htx hl2
            go_wp2
            clear j1 j2 j3 q1 q2 q3 e1 e2 ck cq
            go_loopg [9, 10] x.1.kids.length (fun g s9 s10 wx => ∃ (j : Nat) (A : List UInt8), j + g = x.1.kids.length ∧ s9 = .string (bytesOf A) ∧ s10 = .int .i64 (j : Int) ∧ Hid (A = 40 :: kidsT (formsOf ms) (gapL (formsOf ms)) m d x.1.kids j) ∧ Hid (Below w1.heap.size w1 wx))
            case atStart => exact ⟨0, [40], by omega, rfl, rfl, hidI (by rw [kidsT_zero]), hidI (Below.refl _ _)⟩
            case round =>
              obtain ⟨j, A, hj, rfl, rfl, HA, HX1⟩ := hrel
              have HF2 := hidI (HF1.out.below HX1.out hz1)
              have c3r := HF2.out.cell.2.2.2
              have HBW : Hid (Below w0.heap.size w0 wr) := hidI (HW1b.out.trans (HX1.out.mono HW1b.out.size))
              cases gk with
              | zero =>
                have hjl : j = x.1.kids.length := by omega
                subst hjl
                have j1 : ¬ ((x.1.kids.length : Int) < (x.1.kids.length : Int)) := by omega
                have hA := HA.out
                have s1 : ∀ w : World, (Op.stringOp .add (bytesOf A) { data := #[41] }).run Tryz.prog w = .ok (.string (bytesOf R)) w := fun w => by
                  rw [HTX.out, ← List.cons_append, ← hA]
                  exact cat_run A [41] (by rw [hA]; have := HL2.out; simp; omega) w
                clear hA
                go_wp2
                go_ret
                refine ⟨rfl, ?_⟩
                rw [HBf.out]
                exact HB1.out.trans (HX1.out.mono (by omega))
              | succ g =>
                obtain ⟨c, kb2, ko2, kk2, hc, hc1, hc2, he, ck0, _, _⟩ := HKind.out j (by omega)
                cases he
                have ck : wr.cell? ⟨kb, ko + j, none⟩ = some (.int .i64 (c : Int)) := (HX1.out.cell (World.block_lt_of_cell? w1 _ ck0)).trans ck0
                have hle := kidsT_le (formsOf ms) (gapL (formsOf ms)) m d x.1.kids (j + 1)
                rw [← kidsT_all, kidsT_succ hc] at hle
                simp only [List.length_append] at hle
                have hS := kidsT_succ (fs := formsOf ms) (gap := gapL (formsOf ms)) (m := m) (d := d) hc
                have hA := HA.out
                have hlA : A.length = 1 + (kidsT (formsOf ms) (gapL (formsOf ms)) m d x.1.kids j).length := by rw [hA]; simp; omega
                have hl3 := HL2.out
                have j1 : (j : Int) < (x.1.kids.length : Int) := by omega
                have j2 : (0 : Int) ≤ (j : Int) := by omega
                have j3 : ((j : Int)).toNat = j := by omega
                by_cases hjF : F ≤ j
                · have f1 : (F : Int) ≤ (j : Int) := by omega
                  have hgL : gapL (formsOf ms) x.1.kids j (d + 1) = 10 :: List.replicate (2 * (d + 1)) 32 := by unfold gapL; rw [if_pos (HAny.out j hjF (by omega))]
                  rw [hgL] at hle hS
                  have hCT := fun (y : World) (hy : Below w0.heap.size w0 y) => HIH.out c (d + 1) y (by omega) (by omega) (by omega) (by omega) hy
                  rw [HD.out] at hCT hle hS
                  obtain ⟨T, hT⟩ : ∃ T, txt (formsOf ms) (gapL (formsOf ms)) m (c : Int) D = T := ⟨_, rfl⟩
                  rw [hT] at hCT hle hS
                  have CT := hidI hCT
                  have HS := hidI hS
                  simp only [List.length_cons, List.length_replicate] at hle
                  have s1 : ∀ w : World, (Op.stringOp .add (bytesOf A) { data := #[10] }).run Tryz.prog w = .ok (.string (bytesOf (A ++ [10]))) w := fun w => cat_run A [10] (by simp; omega) w
                  have HlA := hidI hlA
                  have Hle := hidI hle
                  clear hA hlA hl3 hle hS hT hCT hgL hc
                  go_wp2
                  go_loopg [9, 11] D (fun g' s9 s11 wy => ∃ (k : Nat) (E : List UInt8), k + g' = D ∧ s9 = .string (bytesOf E) ∧ s11 = .int .i64 (k : Int) ∧ Hid (E = A ++ [10] ++ List.replicate (2 * k) 32) ∧ wr = wy)
                  case atStart => exact ⟨0, A ++ [10], by omega, rfl, rfl, hidI (by simp), rfl⟩
                  case round =>
                    obtain ⟨k, E, hk, rfl, rfl, HE, rfl⟩ := hrel
                    cases gk with
                    | succ g' =>
                      have k1 : (k : Int) < (D : Int) := by omega
                      have s2 : ∀ w : World, (Op.stringOp .add (bytesOf E) { data := #[32, 32] }).run Tryz.prog w = .ok (.string (bytesOf (E ++ [32, 32]))) w := fun w => cat_run E [32, 32] (by rw [HE.out]; have := HlA.out; have := Hle.out; have := HL2.out; simp; omega) w
                      go_wp2
                      go_roundg g'
                      case measure => omega
                      case rel => exact ⟨k + 1, E ++ [32, 32], by omega, rfl, by go_num, hidI (by rw [HE.out, show 2 * (k + 1) = 2 * k + 2 by omega, ← List.replicate_append_replicate]; simp [List.replicate]), rfl⟩
                    | zero =>
                      have hkD : D = k := by omega
                      subst hkD
                      have k1 : ¬ ((D : Int) < (D : Int)) := by omega
                      have s3 : ∀ w : World, (Op.stringOp .add (bytesOf E) (bytesOf T)).run Tryz.prog w = .ok (.string (bytesOf (E ++ T))) w := fun w => cat_run E T (by rw [HE.out]; have := HlA.out; have := Hle.out; have := HL2.out; simp; omega) w
                      have CT2 := hidI (CT.out wr HBW.out)
                      go_wp2_with (go_at_call 29; refine CT2.out.mono ?_; rintro e w4 ⟨rfl, hw4⟩; have HP4 := hidI hw4; clear hw4)
                      go_roundg g
                      case measure => omega
                      case rel => exact ⟨j + 1, E ++ T, by omega, rfl, by go_num, hidI (by rw [HS.out, HE.out, HA.out]; simp), hidI (HX1.out.trans (HP4.out.mono HX1.out.size))⟩
                · have f1 : ¬ (F : Int) ≤ (j : Int) := by omega
                  have hnop : isOp (formsOf ms) (c : Int) = false := HFt.out _ (by
                    have : (x.1.kids.take F)[j]? = some (c : Int) := by rw [List.getElem?_take, if_pos (by omega)]; exact hc
                    exact List.mem_of_getElem? this)
                  have hgL : gapL (formsOf ms) x.1.kids j (d + 1) = gapB x.1.kids j (d + 1) := gapL_B (d + 1) (any_none fun c hc => HFt.out c (by
                    obtain ⟨p, hp⟩ := List.getElem?_of_mem hc
                    rw [List.getElem?_take] at hp
                    split at hp
                    · have : (x.1.kids.take F)[p]? = some c := by rw [List.getElem?_take, if_pos (by omega)]; exact hp
                      exact List.mem_of_getElem? this
                    · cases hp))
                  have hTe := txt_leafI (formsOf ms) (c : Int) hnop (gapL (formsOf ms)) gapB m (d + 1) (d + 1)
                  have hTl : (txt (formsOf ms) gapB m (c : Int) (d + 1)).length ≤ 140737488355328 := by rw [← hTe]; omega
                  rw [hgL, hTe] at hle hS
                  have hCT := rtext_any (.slice (some ⟨fb, fo, none⟩) ms.length fc) ms (fun _ => True) w0 HSM.out HN.out hml HTab.out m c (d + 1) wr hc1 (by omega) trivial hTl HBW.out
                  obtain ⟨T, hT⟩ : ∃ T, txt (formsOf ms) gapB m (c : Int) (d + 1) = T := ⟨_, rfl⟩
                  rw [hT] at hCT hle hS
                  have CT := hidI hCT
                  have HS := hidI hS
                  by_cases hj0 : j = 0
                  · have s2 : ∀ w : World, (Op.stringOp .add (bytesOf A) (bytesOf T)).run Tryz.prog w = .ok (.string (bytesOf (A ++ T))) w := fun w => cat_run A T (by omega) w
                    have j4 : ¬ (0 : Int) < (j : Int) := by omega
                    have HJ0 := hidI hj0
                    clear hj0 hA hlA hl3 hle hS hT hCT hgL hTe hTl hnop hc
                    go_wp2_with (go_at_call 22; refine CT.out.mono ?_; rintro e w4 ⟨rfl, hw4⟩; have HP4 := hidI hw4; clear hw4)
                    go_roundg g
                    case measure => omega
                    case rel => exact ⟨j + 1, A ++ T, by omega, rfl, by go_num, hidI (by rw [HS.out, HA.out]; unfold gapB; rw [if_pos HJ0.out]; simp), hidI (HX1.out.trans (HP4.out.mono HX1.out.size))⟩
                  · have hg1 : (gapB x.1.kids j (d + 1)).length = 1 := by unfold gapB; rw [if_neg hj0]; rfl
                    have s1 : ∀ w : World, (Op.stringOp .add { data := #[32] } (bytesOf T)).run Tryz.prog w = .ok (.string (bytesOf ([32] ++ T))) w := fun w => cat_run [32] T (by simp; omega) w
                    have s2 : ∀ w : World, (Op.stringOp .add (bytesOf A) (bytesOf ([32] ++ T))).run Tryz.prog w = .ok (.string (bytesOf (A ++ ([32] ++ T)))) w := fun w => cat_run A ([32] ++ T) (by simp; omega) w
                    obtain ⟨U, hU⟩ : ∃ U, [32] ++ T = U := ⟨_, rfl⟩
                    rw [hU] at s1 s2
                    have HU := hidI hU
                    have j4 : (0 : Int) < (j : Int) := by omega
                    have HJ0 := hidI hj0
                    clear hj0 hA hlA hl3 hle hS hT hCT hgL hTe hTl hnop hc hg1 hU
                    go_wp2_with (go_at_call 22; refine CT.out.mono ?_; rintro e w4 ⟨rfl, hw4⟩; have HP4 := hidI hw4; clear hw4)
                    go_roundg g
                    case measure => omega
                    case rel => exact ⟨j + 1, A ++ U, by omega, rfl, by go_num, hidI (by rw [HS.out, HA.out, ← HU.out]; unfold gapB; rw [if_neg HJ0.out]; simp), hidI (HX1.out.trans (HP4.out.mono HX1.out.size))⟩
    · have hk0 : x.1.kids = [] := HLf.out x hxm hk1
      have n2 : (x.1.k != 1) = true := by simp [hk1]
      have n3 : (x.1.k == 1) = false := by simp [hk1]
      have hTe : txt (formsOf ms) (gapL (formsOf ms)) (m + 1) (i : Int) d = txt (formsOf ms) gapB (m + 1) (i : Int) d := txt_leafI (formsOf ms) (i : Int) (by rw [isOp_at HX.out, n3]) _ _ (m + 1) d d
      rw [hTe]
      obtain ⟨T, hT⟩ : ∃ T, txt (formsOf ms) gapB (m + 1) (i : Int) d = T := ⟨_, rfl⟩
      have CT := hidI (CT0.out w1 (by rw [← hTe]; exact HLen.out) HW1b.out)
      rw [hT] at CT ⊢
      have hkl : x.1.kids.length = 0 := by rw [hk0]; rfl
      rw [hkl] at c3 y3
      have HW2 := HW1.out
      rw [hkl] at HW2
      have HW3 := hidI HW2
      clear hTe hT hk0 HW2 HW1
      go_enter Tryz.func29, Tryz.ntmps29
      go_wp2
      rw [HW3.out]
      clear HW3 y0 y1 y2 y3 y4
      refine wp_loop_rounds 1 ?_
      rw [rounds_succ]
      go_wp2_with (go_at_call 22; refine CT.out.mono ?_; rintro e w4 ⟨rfl, hw4⟩; have HP4 := hidI hw4; clear hw4)
      go_ret
      exact ⟨rfl, HB1.out.trans (HP4.out.mono (by omega))⟩
end Go.Proofs.YtmihhebcchpmcaaGreatDoor
/-
  ShowPrints: Pretty, One and Lines of both, and the law.
-/
namespace Go.Proofs.YtmihhebcchpmcaaGreatDoor
open Go.RowKit Go.Deep Go.MapKept Go.Shelf
noncomputable def ptyR (ms : List MV) (top : List Int) : List UInt8 := if isR ms top then prn (formsOf ms) (gapL (formsOf ms)) top else []
set_option maxHeartbeats 2000000 in
theorem rprettyA_any (fv tv : Value) (ms : List MV) (top : List Int) (w : World) (h : Ok9 w fv tv ms top) :
    Calls Tryz.prog 12 #[fv, tv] w fun e w' => e = .returned (.tuple #[.string (bytesOf (ptyR ms top)), .int .i64 (prnE ms top)]) ∧ Below w.heap.size w w' := by
  have CR := hidI h.rright
  obtain ⟨_, fa, fc, hfv, _⟩ := h.sees.row
  obtain ⟨_, ta, tc, htv, _⟩ := id h.tops
  subst hfv
  subst htv
  have HO := hidI h
  obtain ⟨P, hP⟩ : ∃ P, ptyR ms top = P := ⟨_, rfl⟩
  obtain ⟨E, hE⟩ : ∃ E, prnE ms top = E := ⟨_, rfl⟩
  rw [hP, hE]
  unfold ptyR at hP
  unfold prnE at hE
  obtain ⟨b, hb⟩ : ∃ b, isR ms top = b := ⟨_, rfl⟩
  rw [hb] at CR hP hE
  clear h
  cases b with
  | false =>
    simp only [Bool.false_eq_true, if_false] at hP hE
    subst hP
    subst hE
    have e0 : bytesOf [] = ⟨#[]⟩ := rfl
    rw [e0]
    clear e0
    go_enter Tryz.func12, Tryz.ntmps12
    go_wp2_with (go_at_call 21; refine CR.out.mono ?_; rintro e w1 ⟨rfl, hb1⟩; have HB1 := hidI hb1; clear hb1)
    go_ret2
    exact ⟨rfl, HB1.out⟩
  | true =>
    simp only [if_true] at hP hE
    subst hE
    have hRP := isR_iff.1 hb
    have HNi := hidI (hRP.nice HO.out.num HO.out.few4)
    have HTo := hidI hRP.tops
    have HLn := hidI (hRP.len HO.out.num (gapL (formsOf ms)) (fun ks n d hd => len_gapL (formsOf ms) ks n d hd))
    have HTl := hidI (hRP.txt_len HO.out.num (gapL (formsOf ms)) (fun ks n d hd => len_gapL (formsOf ms) ks n d hd))
    have HLf : Hid (∀ x ∈ ms, x.1.k ≠ 1 → x.1.kids = []) := hidI fun x hx hk => okF_leaf (hRP.2.1 x hx) hk
    have HP := hidI hP
    have hml := HO.out.len
    have htl := HO.out.tlen
    have hfl : (formsOf ms).length = ms.length := by simp [formsOf]
    have Hfl := hidI hfl
    clear hb hP hRP hfl
    go_enter Tryz.func12, Tryz.ntmps12
    go_wp2_with (go_at_call 21; refine CR.out.mono ?_; rintro e w1 ⟨rfl, hb1⟩; have HB1 := hidI hb1; clear hb1 CR; refine Hid.out ?_)
    refine hidI ?_
    go_wp2
    go_loopg [6, 7] top.length (fun g s6 s7 wx => ∃ (j : Nat) (A : List UInt8), j + g = top.length ∧ s6 = .string (bytesOf A) ∧ s7 = .int .i64 (j : Int) ∧ Hid (A = prn (formsOf ms) (gapL (formsOf ms)) (top.take j)) ∧ Hid (Below w.heap.size w wx))
    case atStart => exact ⟨0, [], by omega, rfl, rfl, hidI (by simp [prn]), HB1⟩
    case round =>
      obtain ⟨j, A, hj, rfl, rfl, HA, HX⟩ := hrel
      cases gk with
      | zero =>
        have hjl : j = top.length := by omega
        have j1 : ¬ ((j : Int) < (top.length : Int)) := by omega
        have hAP : P = A := by rw [HA.out, ← HP.out, hjl, List.take_length]
        have HAP := hidI hAP
        clear hAP hjl
        go_wp2
        go_ret2
        exact ⟨by rw [HAP.out] <;> first | rfl | skip, HX.out⟩
      | succ g =>
        have hjl : j < top.length := by omega
        obtain ⟨c, hc⟩ : ∃ c, top[j]? = some c := ⟨_, List.getElem?_eq_getElem hjl⟩
        have hcm := List.mem_of_getElem? hc
        have hcr := HTo.out c hcm
        obtain ⟨q, rfl⟩ : ∃ q : Nat, c = (q : Int) := ⟨c.toNat, by omega⟩
        have hck : ∃ kb ko, ta = some ⟨kb, ko, none⟩ ∧ wr.cell? ⟨kb, ko + j, none⟩ = some (.int .i64 (q : Int)) := by
          obtain ⟨_, ka', kc', he, h00 | ⟨kb, ko, rfl, hcc⟩⟩ := HO.out.tops.below HX.out (Nat.le_refl _)
          · exact absurd hjl (by omega)
          · cases he
            exact ⟨kb, ko, rfl, hcc j _ (intsI_get hc)⟩
        obtain ⟨kb, ko, rfl, ck⟩ := hck
        have hCT := rpretty_any (.slice fa ms.length fc) ms w HO.out.sees HNi.out HLf.out (by omega) HO.out.laid.tab (ms.length + 1) q 0 wr (by omega) (by omega) (by omega) (by have := HTl.out _ hcm; omega) HX.out
        rw [show (((0 + 1 : Nat)) : Int) = 1 from rfl] at hCT
        have CT := hidI hCT
        have hsu := prn_succ (fs := formsOf ms) (gap := gapL (formsOf ms)) hc
        unfold lineT at hsu
        rw [Hfl.out] at hsu
        have hle := prn_le (formsOf ms) (gapL (formsOf ms)) top (j + 1)
        rw [hsu] at hle
        obtain ⟨T, hT⟩ : ∃ T, txt (formsOf ms) (gapL (formsOf ms)) (ms.length + 1) (q : Int) 0 = T := ⟨_, rfl⟩
        rw [hT] at CT hsu hle
        rw [← HA.out] at hle hsu
        have HS := hidI hsu
        have hl2 := HLn.out
        simp only [List.length_append, List.length_cons, List.length_nil] at hle
        have s1 : ∀ w : World, (Op.stringOp .add (bytesOf T) { data := #[10] }).run Tryz.prog w = .ok (.string (bytesOf (T ++ [10]))) w := fun w => cat_run T [10] (by simp; omega) w
        have s2 : ∀ w : World, (Op.stringOp .add (bytesOf A) (bytesOf (T ++ [10]))).run Tryz.prog w = .ok (.string (bytesOf (A ++ (T ++ [10])))) w := fun w => cat_run A (T ++ [10]) (by simp; omega) w
        have j1 : (j : Int) < (top.length : Int) := by omega
        have j2 : (0 : Int) ≤ (j : Int) := by omega
        have j3 : ((j : Int)).toNat = j := by omega
        clear hl2 hle hsu hT hcr hcm hc hCT
        go_wp2_with (go_at_call 29; refine CT.out.mono ?_; rintro e w4 ⟨rfl, hw4⟩; have HP4 := hidI hw4; clear hw4)
        go_roundg g
        case measure => omega
        case rel => exact ⟨j + 1, A ++ (T ++ [10]), by omega, by first | rfl | simp, by go_num, hidI (by rw [HS.out]), hidI (HX.out.trans (HP4.out.mono HX.out.size))⟩
theorem ppretty_any (fv tv : Value) (ms : List MV) (top : List Int) (w : World) (h : Ok9 w fv tv ms top) :
    Calls Tryz.prog 11 #[fv, tv] w fun e w' => e = .returned (.tuple #[.string (bytesOf (ptyR ms top)), .int .i64 (prnE ms top)]) ∧ Below w.heap.size w w' := by
  unfold ptyR prnE
  cases hb : isR ms top with
  | true =>
    have hRP := isR_iff.1 hb
    have hl := hRP.len h.num (gapL (formsOf ms)) (fun ks n d hd => len_gapL (formsOf ms) ks n d hd)
    simp only [if_true]
    have hml := h.len
    have htl := h.tlen
    exact pretty_any fv tv ms top w h.sees h.tops (fun W hW => by have := (h.on hW).pright; rw [hb] at this; exact this) (hRP.tellable h.num h.few4) (by omega) h.laid.tab hRP.tops (by omega) (by omega) h.room
  | false =>
    simp only [Bool.false_eq_true, if_false]
    have CR := fun W (hW : Below w.heap.size w W) => (h.on hW).pright
    rw [hb] at CR
    have CR := hidI CR
    obtain ⟨_, fa, fc, hfv, _⟩ := h.sees.row
    obtain ⟨_, ta, tc, htv, _⟩ := id h.tops
    subst hfv
    subst htv
    have e0 : bytesOf [] = ⟨#[]⟩ := rfl
    rw [e0]
    have CP : Hid (∀ (fn : Value) W, Below w.heap.size w W → Calls Tryz.prog 19 #[.slice fa ms.length fc, .slice ta top.length tc, fn] W fun e w' => e = .returned (.tuple #[.string ⟨#[]⟩, .int .i64 3]) ∧ Below W.heap.size W w') := hidI (by
      clear h hb e0
      intro fn W hW
      have CR1 := hidI (CR.out W hW)
      clear CR
      go_enter Tryz.func19, Tryz.ntmps19
      go_wp2_with (go_at_call 18; refine CR1.out.mono ?_; rintro e w1 ⟨rfl, hb1⟩; have HB1 := hidI hb1; clear hb1)
      go_ret2
      exact ⟨rfl, HB1.out⟩)
    clear CR h hb e0
    go_enter Tryz.func11, Tryz.ntmps11
    go_wp2_with (first
      | (go_at_call 28; refine (lines_any fa ms.length fc _).mono ?_; rintro e w1 ⟨rfl, _, _, hb1⟩; have HB1 := hidI hb1; clear hb1)
      | (go_at_call 19; refine (CP.out _ _ HB1.out).mono ?_; rintro e w2 ⟨rfl, hb2⟩; have HB2 := hidI (HB1.out.trans (hb2.mono HB1.out.size)); clear hb2))
    go_ret2
    exact ⟨rfl, HB2.out⟩
/-- One's answer. -/
noncomputable def oneR (ms : List MV) (at' : Int) : List UInt8 := if 0 ≤ at' ∧ at' < (ms.length : Int) then (if (lookF (formsOf ms) (ms.length + 1) at'.toNat 0).1 then txt (formsOf ms) gapB (ms.length + 1) at' 0 else []) else []
def oneE (ms : List MV) (at' : Int) : Int := if 0 ≤ at' ∧ at' < (ms.length : Int) then (if (lookF (formsOf ms) (ms.length + 1) at'.toNat 0).1 then 0 else 3) else 2
set_option maxHeartbeats 2000000 in
theorem pone_any (fv tv : Value) (ms : List MV) (top : List Int) (at' : Int) (w : World) (h : Ok9 w fv tv ms top) (hlen : (oneR ms at').length ≤ 140737488355328) :
    Calls Tryz.prog 9 #[fv, .int .i64 at'] w fun e w' => e = .returned (.tuple #[.string (bytesOf (oneR ms at')), .int .i64 (oneE ms at')]) ∧ Below w.heap.size w w' := by
  have hml := h.len
  by_cases hr : 0 ≤ at' ∧ at' < (ms.length : Int)
  · obtain ⟨i, rfl⟩ : ∃ i : Nat, at' = (i : Int) := ⟨at'.toNat, by omega⟩
    have hi : i < ms.length := by omega
    unfold oneR at hlen ⊢
    unfold oneE
    rw [if_pos hr] at hlen ⊢
    rw [if_pos hr]
    rw [show ((i : Int)).toNat = i by omega] at hlen ⊢
    cases hlk : (lookF (formsOf ms) (ms.length + 1) i 0).1 with
    | true =>
      rw [hlk] at hlen
      simp only [if_true] at hlen ⊢
      exact oneO_ok fv ms i w h.sees hi (Gd (formsOf ms)) (nice_gd h.num h.few4) ⟨_, _, hlk⟩ (by omega) h.laid.tab hlk hlen
    | false =>
      simp only [Bool.false_eq_true, if_false]
      have CI := isForm_any fv ms i w h.sees hi (by omega) h.few4
      rw [hlk] at CI
      have CI := hidI CI
      obtain ⟨_, fa, fc, hfv, _⟩ := h.sees.row
      subst hfv
      have e0 : bytesOf [] = ⟨#[]⟩ := rfl
      rw [e0]
      have i1 : ¬ (i : Int) < 0 := by omega
      have i2 : ¬ (ms.length : Int) ≤ (i : Int) := by omega
      clear h hlk hlen e0 hr
      go_enter Tryz.func9, Tryz.ntmps9
      go_wp2_with (go_at_call 23; refine CI.out.mono ?_; rintro e w1 ⟨rfl, hb1⟩; have HB1 := hidI hb1; clear hb1 CI)
      go_ret2
      exact ⟨rfl, HB1.out⟩
  · unfold oneR oneE
    rw [if_neg hr, if_neg hr]
    obtain ⟨_, fa, fc, hfv, _⟩ := h.sees.row
    subst hfv
    have e0 : bytesOf [] = ⟨#[]⟩ := rfl
    rw [e0]
    clear h e0 hlen
    by_cases h0 : at' < 0
    · clear hr
      go_enter Tryz.func9, Tryz.ntmps9
      go_wp2
      go_ret2
      exact ⟨rfl, Below.refl _ _⟩
    · have h1 : (ms.length : Int) ≤ at' := by omega
      clear hr
      go_enter Tryz.func9, Tryz.ntmps9
      go_wp2
      go_ret2
      exact ⟨rfl, Below.refl _ _⟩
set_option maxHeartbeats 2000000 in
theorem rone_any (fv tv : Value) (ms : List MV) (top : List Int) (at' : Int) (w : World) (h : Ok9 w fv tv ms top) (hlen : (oneR ms at').length ≤ 140737488355328) :
    Calls Tryz.prog 10 #[fv, .int .i64 at'] w fun e w' => e = .returned (.tuple #[.string (bytesOf (oneR ms at')), .int .i64 (oneE ms at')]) ∧ Below w.heap.size w w' := by
  have hml := h.len
  obtain ⟨_, fa, fc, hfv, _⟩ := h.sees.row
  subst hfv
  by_cases hr : 0 ≤ at' ∧ at' < (ms.length : Int)
  · obtain ⟨i, rfl⟩ : ∃ i : Nat, at' = (i : Int) := ⟨at'.toNat, by omega⟩
    have hi : i < ms.length := by omega
    unfold oneR at hlen ⊢
    unfold oneE
    rw [if_pos hr] at hlen ⊢
    rw [if_pos hr]
    rw [show ((i : Int)).toNat = i by omega] at hlen ⊢
    have hCM := rmay_any _ ms w h.sees (by omega) h.few4 (ms.length + 1) i 0 w hi (by omega) (by omega) (Below.refl _ _)
    rw [show (400 : Int) - ((0 : Nat) : Int) = 400 by omega] at hCM
    have hle := lookF_le (formsOf ms) (ms.length + 1) i 0 (by omega)
    have i1 : ¬ (i : Int) < 0 := by omega
    have i2 : ¬ (ms.length : Int) ≤ (i : Int) := by omega
    obtain ⟨r, hlk⟩ : ∃ r, lookF (formsOf ms) (ms.length + 1) i 0 = r := ⟨_, rfl⟩
    obtain ⟨rb, rs⟩ := r
    rw [hlk] at hCM hlen hle ⊢
    cases rb with
    | true =>
      simp only [if_true] at hlen ⊢
      have hle2 : rs ≤ 400 := hle.2 rfl
      obtain ⟨mv, hmv⟩ : ∃ mv, mayV (true, rs) = mv := ⟨_, rfl⟩
      rw [hmv] at hCM
      have hmv0 : ¬ mv < 0 := by rw [← hmv]; simp [mayV]; omega
      have CM := hidI hCM
      have CT := hidI fun (y : World) (hy : Below w.heap.size w y) => rtext_any _ ms (Gd (formsOf ms)) w h.sees (nice_gd h.num h.few4) (by omega) h.laid.tab (ms.length + 1) i 0 y hi (by omega) ⟨ms.length + 1, 0, by rw [hlk]⟩ hlen hy
      obtain ⟨T, hT⟩ : ∃ T, txt (formsOf ms) gapB (ms.length + 1) (i : Int) 0 = T := ⟨_, rfl⟩
      rw [hT] at CT ⊢
      clear h hlk hlen hCM hle hmv hT hr
      go_enter Tryz.func10, Tryz.ntmps10
      go_wp2_with (first
        | (go_at_call 27; refine CM.out.mono ?_; rintro e w1 ⟨rfl, hb1⟩; have HB1 := hidI hb1; clear hb1)
        | (go_at_call 22; refine (CT.out _ HB1.out).mono ?_; rintro e w2 ⟨rfl, hb2⟩; have HB2 := hidI (HB1.out.trans (hb2.mono HB1.out.size)); clear hb2))
      go_ret2
      exact ⟨rfl, HB2.out⟩
    | false =>
      simp only [Bool.false_eq_true, if_false]
      have hmv : mayV (false, rs) = -1 := rfl
      rw [hmv] at hCM
      have CM := hidI hCM
      have e0 : bytesOf [] = ⟨#[]⟩ := rfl
      rw [e0]
      clear h hlk hlen hCM hle hmv e0 hr
      go_enter Tryz.func10, Tryz.ntmps10
      go_wp2_with (go_at_call 27; refine CM.out.mono ?_; rintro e w1 ⟨rfl, hb1⟩; have HB1 := hidI hb1; clear hb1)
      go_ret2
      exact ⟨rfl, HB1.out⟩
  · unfold oneR oneE
    rw [if_neg hr, if_neg hr]
    have e0 : bytesOf [] = ⟨#[]⟩ := rfl
    rw [e0]
    clear h e0 hlen
    by_cases h0 : at' < 0
    · clear hr
      go_enter Tryz.func10, Tryz.ntmps10
      go_wp2
      go_ret2
      exact ⟨rfl, Below.refl _ _⟩
    · have h1 : (ms.length : Int) ≤ at' := by omega
      clear hr
      go_enter Tryz.func10, Tryz.ntmps10
      go_wp2
      go_ret2
      exact ⟨rfl, Below.refl _ _⟩
/-- The document's Lines. -/
theorem rlines_any (l : List UInt8) (hl : l.length ≤ 4611686018427387904) (w : World) : Calls Tryz.prog 15 #[.string (bytesOf l)] w fun e w' => e = .returned (.int .i64 ((nl l : Int) + 1)) ∧ w = w' := by
  have hsz : (bytesOf l).size = l.length := by simp [bytesOf, ByteArray.size]
  obtain ⟨R, hR⟩ : ∃ R : Int, (nl l : Int) + 1 = R := ⟨_, rfl⟩
  rw [hR]
  have HR := hidI hR
  have hcnt : ∀ j, j ≤ l.length → nl (l.take j) ≤ l.length := fun j _ => by
    unfold nl
    have := List.count_le_length (l := l.take j) (a := (10 : UInt8))
    rw [List.length_take] at this
    omega
  have HC := hidI hcnt
  have HSz := hidI hsz
  clear hR hcnt hsz
  go_enter Tryz.func15, Tryz.ntmps15
  go_wp2
  go_loopg [3, 4] l.length (fun g s3 s4 wx => ∃ (j : Nat) (n : Int), j + g = l.length ∧ s3 = .int .i64 n ∧ s4 = .int .i64 (j : Int) ∧ Hid (n = (nl (l.take j) : Int) + 1) ∧ w = wx)
  case atStart => exact ⟨0, 1, by omega, rfl, rfl, hidI (by simp [nl]), rfl⟩
  case round =>
    obtain ⟨j, n, hj, rfl, rfl, HN, rfl⟩ := hrel
    have hsz := HSz.out
    cases gk with
    | zero =>
      have hjl : j = l.length := by omega
      have j1 : ¬ ((j : Int) < ((bytesOf l).size : Int)) := by rw [hsz]; omega
      have hRn : R = n := by rw [HN.out, ← HR.out, hjl, List.take_length]
      have HRn := hidI hRn
      clear hRn hjl hsz
      go_wp2
      go_ret
      exact ⟨by rw [HRn.out] <;> first | rfl | skip, rfl⟩
    | succ g =>
      have hjl : j < l.length := by omega
      have j1 : (j : Int) < ((bytesOf l).size : Int) := by rw [hsz]; omega
      have j2 : (0 : Int) ≤ (j : Int) := by omega
      have j3 : ((j : Int)).toNat = j := by omega
      have j4 : j < (bytesOf l).size := by omega
      have hsn : sign (bytesOf l) j = ((l[j]).toNat : Int) := by
        unfold sign
        congr 2
        rw [Array.getD_eq_getD_getElem?, ← Array.getElem?_toList]
        simp [bytesOf, List.getElem?_eq_getElem hjl]
        try rfl
      have htk : l.take (j + 1) = l.take j ++ [l[j]] := by rw [List.take_add_one, List.getElem?_eq_getElem hjl]; rfl
      have hcn := HC.out j (by omega)
      have hwn : IntKind.i64.wrap (n + 1) = n + 1 := by rw [IntKind.wrap_i64, HN.out]; omega
      have q1 : ∀ w, (Instr.index 9 (.string (bytesOf l)) (.int .i64 (j : Int))).run Tryz.prog w = .ok (.int .u8 (sign (bytesOf l) j)) w := fun w => sign_at (bytesOf l) j j4 w
      obtain ⟨z, hz⟩ : ∃ z, sign (bytesOf l) j = z := ⟨_, rfl⟩
      rw [hz] at q1 hsn
      by_cases h10 : l[j] = 10
      · have z10 : z = 10 := by rw [hsn, h10]; rfl
        have Hn1 : Hid (n + 1 = (nl (l.take (j + 1)) : Int) + 1) := hidI (by have h1 : nl [10] = 1 := rfl; rw [htk, nl_append, HN.out, h10, h1]; omega)
        subst z10
        clear hsn htk hcn hz h10 hsz j4 hjl
        go_wp2
        go_roundg g
        case measure => omega
        case rel => exact ⟨j + 1, n + 1, by omega, by first | rfl | go_num, by go_num, Hn1, rfl⟩
      · have z10 : ¬ z = 10 := by
          rw [hsn]
          intro e
          exact h10 (UInt8.toNat_inj.1 (by have h1 : (10 : UInt8).toNat = 10 := rfl; rw [h1]; omega))
        have z11 : (z == 10) = false := by rw [beq_eq_false_iff_ne]; exact z10
        have Hn1 : Hid (n = (nl (l.take (j + 1)) : Int) + 1) := hidI (by
          rw [htk, nl_append, HN.out]
          have : nl [l[j]] = 0 := by unfold nl; rw [List.count_eq_zero]; simp; exact fun e => h10 e.symm
          rw [this]
          omega)
        clear hsn htk hcn hz h10 hsz j4 hjl
        go_wp2
        go_roundg g
        case measure => omega
        case rel => exact ⟨j + 1, n, by omega, rfl, by go_num, Hn1, rfl⟩
theorem plines_any (l : List UInt8) (hl : l.length ≤ 4611686018427387904) (w : World) : Calls Tryz.prog 14 #[.string (bytesOf l)] w fun e w' => e = .returned (.int .i64 ((nl l : Int) + 1)) ∧ w = w' := by
  have := count_any (bytesOf l) (by simpa [bytesOf] using hl) w
  simpa [bytesOf] using this
set_option maxHeartbeats 4000000 in
theorem showPrints_law (ms : List MV) (top : List Int) (a b : Option Addr) (cap capt : Nat) (at' : Int) (hc : ms.length ≤ cap) (hct : top.length ≤ capt) (w : World) (hL : Laid w) (hsm : SeesM w (.slice a ms.length cap) ms) (ht : SeesC w (.slice b top.length capt) top.length 1 (intsI top))
      (hn : ∀ x ∈ ms, In64 x.1.n) (hk : ∀ x ∈ ms, x.1.kids.length ≤ 17592186044416) (hs : ∀ x ∈ ms, x.1.s.size ≤ 140737488355328) (hr : ∀ x ∈ ms, Roomy x.2) (hlen : (oneR (ms.take 405) at').length ≤ 140737488355328) :
    Calls Tryz.prog 3 #[.slice a ms.length cap, .slice b top.length capt, .int .i64 at'] w fun e w' => e = .returned (.bool true) ∧ Below w.heap.size w w' := by
  obtain ⟨v, hv, cf⟩ := forms_any a cap ms hc w hsm
  obtain ⟨u, hu, cp⟩ := places_any b capt top hct w ht
  have o1 : Ok9 w v u (ms.take 405) (top.take 100) := ⟨hL, hv, hu, fun x hx => hn x (List.mem_of_mem_take hx), fun x hx => hk x (List.mem_of_mem_take hx), fun x hx => hs x (List.mem_of_mem_take hx), fun x hx => hr x (List.mem_of_mem_take hx), by rw [List.length_take]; omega, by rw [List.length_take]; omega⟩
  have hpl : (prnR (ms.take 405) (top.take 100)).length ≤ 4611686018427387904 := by
    unfold prnR
    cases hb : isR (ms.take 405) (top.take 100) with
    | true => have := (isR_iff.1 hb).len o1.num gapB (fun ks n d _ => len_gapB ks n d); simp only [if_true]; omega
    | false => simp
  have CF := hidI cf
  have CP := hidI cp
  have CL := hidI fun W (hW : Below w.heap.size w W) => live8_any W (hL.on hW)
  have C1 := hidI (pprint_any v u _ _ w o1)
  have C2 := hidI fun W (hW : Below w.heap.size w W) => rprint_any v u _ _ W (o1.on hW)
  have C3 := hidI fun W (hW : Below w.heap.size w W) => pone_any v u _ _ at' W (o1.on hW) hlen
  have C4 := hidI fun W (hW : Below w.heap.size w W) => rone_any v u _ _ at' W (o1.on hW) hlen
  have C5 := hidI fun W (hW : Below w.heap.size w W) => ppretty_any v u _ _ W (o1.on hW)
  have C6 := hidI fun W (hW : Below w.heap.size w W) => rprettyA_any v u _ _ W (o1.on hW)
  have C7 := hidI fun (W : World) => plines_any _ hpl W
  have C8 := hidI fun (W : World) => rlines_any _ hpl W
  obtain ⟨P, hP⟩ : ∃ P, prnR (ms.take 405) (top.take 100) = P := ⟨_, rfl⟩
  obtain ⟨E, hE⟩ : ∃ E, prnE (ms.take 405) (top.take 100) = E := ⟨_, rfl⟩
  obtain ⟨O, hO⟩ : ∃ O, oneR (ms.take 405) at' = O := ⟨_, rfl⟩
  obtain ⟨F, hF⟩ : ∃ F, oneE (ms.take 405) at' = F := ⟨_, rfl⟩
  obtain ⟨Y, hY⟩ : ∃ Y, ptyR (ms.take 405) (top.take 100) = Y := ⟨_, rfl⟩
  rw [hP] at C7 C8
  rw [hP, hE] at C1 C2
  rw [hO, hF] at C3 C4
  rw [hY, hE] at C5 C6
  obtain ⟨L, hL2⟩ : ∃ L, (nl P : Int) + 1 = L := ⟨_, rfl⟩
  rw [hL2] at C7 C8
  clear hv hu cf cp o1 hpl hP hE hO hF hY hsm ht hn hk hs hr hc hct hL hlen hL2
  go_enter Tryz.func3, Tryz.ntmps3
  go_wp2_with (first
    | (go_at_call 5; refine (CF.out _).mono ?_; rintro e w' ⟨rfl, rfl⟩)
    | (go_at_call 6; refine (CP.out _).mono ?_; rintro e w' ⟨rfl, rfl⟩)
    | (go_at_call 7; refine C1.out.mono ?_; rintro e w1 ⟨rfl, hb⟩; have Q1 := hidI hb; clear hb; refine Hid.out ?_))
  refine hidI ?_
  go_wp2_with (go_at_call 8; refine (C2.out _ Q1.out).mono ?_; rintro e w2 ⟨rfl, hb⟩; have Q2 := hidI (Q1.out.trans (hb.mono Q1.out.size)); clear hb; refine Hid.out ?_)
  refine hidI ?_
  go_wp2_with (go_at_call 9; refine (C3.out _ Q2.out).mono ?_; rintro e w3 ⟨rfl, hb⟩; have Q3 := hidI (Q2.out.trans (hb.mono Q2.out.size)); clear hb; refine Hid.out ?_)
  refine hidI ?_
  go_wp2_with (go_at_call 10; refine (C4.out _ Q3.out).mono ?_; rintro e w4 ⟨rfl, hb⟩; have Q4 := hidI (Q3.out.trans (hb.mono Q3.out.size)); clear hb; refine Hid.out ?_)
  refine hidI ?_
  go_wp2_with (go_at_call 11; refine (C5.out _ Q4.out).mono ?_; rintro e w5 ⟨rfl, hb⟩; have Q5 := hidI (Q4.out.trans (hb.mono Q4.out.size)); clear hb; refine Hid.out ?_)
  refine hidI ?_
  go_wp2_with (go_at_call 12; refine (C6.out _ Q5.out).mono ?_; rintro e w6 ⟨rfl, hb⟩; have Q6 := hidI (Q5.out.trans (hb.mono Q5.out.size)); clear hb; refine Hid.out ?_)
  refine hidI ?_
  go_wp2_with (first
    | (go_at_call 13; refine (CL.out _ Q6.out).mono ?_; rintro e w7 ⟨rfl, hb⟩; have Q7 := hidI (Q6.out.trans (hb.mono Q6.out.size)); clear hb)
    | (go_at_call 14; refine (C7.out _).mono ?_; rintro e w' ⟨rfl, rfl⟩)
    | (go_at_call 15; refine (C8.out _).mono ?_; rintro e w' ⟨rfl, rfl⟩))
  go_ret
  exact ⟨by simp, Q7.out⟩
end Go.Proofs.YtmihhebcchpmcaaGreatDoor
/-
  One's text is not long, where the words are not.
-/
namespace Go.Proofs.YtmihhebcchpmcaaGreatDoor
open Go.RowKit Go.Deep Go.MapKept Go.Shelf
theorem gapB_le (ks : List Int) (n d : Nat) : (gapB ks n d).length ≤ 1 := by
  unfold gapB
  split <;> simp
theorem lookK_len {fs : List Fm} {L : Nat → Nat → Bool × Nat} {i n m d : Nat} {ks : List Int} (hL : ∀ q s, (L q s).1 = true → (txt fs gapB m (q : Int) (d + 1)).length + 1 + s * 1048600 ≤ (L q s).2 * 1048600) :
    ∀ (l : List Int) (t s : Nat), (lookK L i n l s).1 = true → ((l.zipIdx t).flatMap (fun p => gapB ks p.2 (d + 1) ++ txt fs gapB m p.1 (d + 1))).length + s * 1048600 ≤ (lookK L i n l s).2 * 1048600
  | [], t, s, _ => by simp [lookK]
  | c :: r, t, s, h => by
    unfold lookK at h ⊢
    split at h
    · cases h
    · rename_i h1
      rw [if_neg h1]
      split at h
      · rename_i h2
        rw [if_pos h2]
        have hc := hL c.toNat s h2
        rw [show ((c.toNat : Nat) : Int) = c by omega] at hc
        have hr := lookK_len (ks := ks) hL r (t + 1) _ h
        have hg := gapB_le ks t (d + 1)
        simp only [List.zipIdx_cons, List.flatMap_cons, List.length_append]
        omega
      · cases h
theorem look_len {fs : List Fm} (hs : ∀ f ∈ fs, f.s.size ≤ 1048576) (hn : ∀ f ∈ fs, In64 f.n) : ∀ (m i s d : Nat), (lookF fs m i s).1 = true → (txt fs gapB m (i : Int) d).length + 1 + s * 1048600 ≤ (lookF fs m i s).2 * 1048600
  | 0, i, s, d, h => by cases h
  | m + 1, i, s, d, h => by
    unfold lookF at h ⊢
    split at h
    · cases h
    · rename_i h4
      rw [if_neg h4]
      cases hf : fs[i]? with
      | none => rw [hf] at h; cases h
      | some f =>
        rw [hf] at h
        simp only at h ⊢
        have hm := List.mem_of_getElem? hf
        by_cases hk1 : f.k = 1
        · rw [if_pos hk1] at h ⊢
          have hh := lookK_len (ks := f.kids) (fun q s hq => look_len hs hn m q s (d + 1) hq) f.kids 0 (s + 1) h
          rw [txt_open hf hk1]
          simp only [List.length_cons, List.length_append, List.length_nil]
          have : (s + 1) * 1048600 = s * 1048600 + 1048600 := by omega
          omega
        · rw [if_neg hk1] at h ⊢
          simp only [Bool.or_eq_true, beq_iff_eq] at h
          simp only
          rcases h with h3 | h4
          · rw [txt_name hf h3]
            have := hs f hm
            have e : f.s.data.toList.length = f.s.size := by rw [Array.length_toList]; rfl
            omega
          · rw [txt_num hf h4]
            have := itoa_len (hn f hm)
            omega
theorem one_len {ms : List MV} (at' : Int) (hs : ∀ x ∈ ms, x.1.s.size ≤ 1048576) (hn : ∀ x ∈ ms, In64 x.1.n) : (oneR ms at').length ≤ 140737488355328 := by
  unfold oneR
  split
  · rename_i hr
    split
    · rename_i hlk
      have h1 := look_len (fs := formsOf ms) (fun f hf => by obtain ⟨x, hx, rfl⟩ := List.mem_map.1 hf; exact hs x hx) (fun f hf => by obtain ⟨x, hx, rfl⟩ := List.mem_map.1 hf; exact hn x hx) (ms.length + 1) at'.toNat 0 0 hlk
      have h2 := (lookF_le (formsOf ms) (ms.length + 1) at'.toNat 0 (by omega)).2 hlk
      rw [show ((at'.toNat : Nat) : Int) = at' by omega] at h1
      omega
    · simp
  · simp
end Go.Proofs.YtmihhebcchpmcaaGreatDoor
