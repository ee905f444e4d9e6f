/-
  Part 42 of the proof: TmA.
-/
import Derived.Test.YtmekkhfohmfjkaaGreatDoorTm41
namespace Go.Proofs.YtmekkhfohmfjkaaGreatDoor
open Go.RowKit Go.Deep Go.MapKept
theorem below_drewW (B : Nat) (w : World) : Below B w w.drew := (Below.refl _ _).drew
theorem meet_facts {i k : Nat} (h : meetB i k = true) : ∃ P, readT (meetT i k) = some P ∧ goodT (meetT i k) = true ∧ (checkP P).1 = 0 ∧ ((checkP P).2 = 0 ∨ (checkP P).2 = 10) ∧ PrgOk P ∧ (∀ s ∈ P.stmts, s.acts.length ≤ 1000) ∧ decide ((checkP P).2 = 0) = (otherM i k || alikeM i k) := by
 unfold meetB at h
 rw [Bool.and_eq_true] at h
 obtain ⟨h1, h2⟩ := h
 cases hr : readT (meetT i k) with
 | none => rw [hr] at h2; cases h2
 | some P =>
  rw [hr] at h2
  simp only [Bool.and_eq_true, decide_eq_true_eq, beq_iff_eq] at h2
  obtain ⟨⟨a, b⟩, c⟩ := h2
  have h3 := h1
  simp only [goodT, Bool.and_eq_true] at h3
  rw [hr] at h3
  have h4 := prgB_ok h3.2
  exact ⟨P, rfl, h1, a, c, h4.1, h4.2.2, b⟩
def tm3o0 : Oper := ⟨some 27, .move (.tmp 5), 36, "top06.go:36", #[], none⟩
def tm3o1 : Oper := ⟨some 28, .move (.tmp 6), 3, "top06.go:36", #[], none⟩
def tm3o2 : Oper := ⟨some 29, .indexAddr 36 (.tmp 27) (.tmp 28), 0, "top06.go:36", #[⟨0, .data⟩, ⟨1, .data⟩], none⟩
def tm3o3 : Oper := ⟨some 30, .load 9 (.tmp 29), 9, "top06.go:36", #[⟨2, .data⟩], none⟩
def tm3o4 : Oper := ⟨some 31, .binOp .add 9 (.const (.string ⟨#[40, 110, 105, 110, 116, 32, 120, 41, 32, 40, 110, 105, 110, 116, 32, 121, 41, 32, 40, 101, 97, 99, 104, 32]⟩)) (.tmp 30) 9, 9, "top06.go:36", #[⟨3, .data⟩], none⟩
def tm3o5 : Oper := ⟨some 32, .binOp .add 9 (.tmp 31) (.const (.string ⟨#[32]⟩)) 9, 9, "top06.go:36", #[⟨4, .data⟩], none⟩
def tm3o6 : Oper := ⟨some 33, .move (.tmp 5), 36, "top06.go:36", #[], none⟩
def tm3o7 : Oper := ⟨some 34, .move (.tmp 7), 3, "top06.go:36", #[], none⟩
def tm3o8 : Oper := ⟨some 35, .indexAddr 36 (.tmp 33) (.tmp 34), 0, "top06.go:36", #[⟨6, .data⟩, ⟨7, .data⟩], none⟩
def tm3o9 : Oper := ⟨some 36, .load 9 (.tmp 35), 9, "top06.go:36", #[⟨8, .data⟩], none⟩
def tm3o10 : Oper := ⟨some 37, .binOp .add 9 (.tmp 32) (.tmp 36) 9, 9, "top06.go:36", #[⟨5, .data⟩, ⟨9, .data⟩], none⟩
def tm3o11 : Oper := ⟨some 38, .binOp .add 9 (.tmp 37) (.const (.string ⟨#[41]⟩)) 9, 9, "top06.go:36", #[⟨10, .data⟩], none⟩
def tm3o12 : Oper := ⟨some 39, .call ⟨.value (.func 18), #[.tmp 38], #[9]⟩, 48, "top06.go:36", #[⟨11, .data⟩], none⟩
def tm3o13 : Oper := ⟨some 26, .move (.tmp 39), 48, "top06.go:36", #[⟨12, .data⟩], none⟩
def tm3o14 : Oper := ⟨some 40, .extract (.tmp 26) 0, 47, "top06.go:36", #[⟨13, .data⟩], none⟩
def tm3o15 : Oper := ⟨some 41, .extract (.tmp 26) 1, 3, "top06.go:36", #[⟨13, .data⟩, { on := 18, ground := Go.Ground.gcOnly Go.Departure.lateStores }], none⟩
def tm3o16 : Oper := ⟨some 42, .extract (.tmp 26) 2, 28, "top06.go:36", #[⟨13, .data⟩, { on := 19, ground := Go.Ground.gcOnly Go.Departure.lateStores }], none⟩
def tm3o17 : Oper := ⟨some 8, .alloc 47, 0, "top06.go:36", #[], none⟩
def tm3o18 : Oper := ⟨none, .store 47 (.tmp 8) (.tmp 40), 0, "top06.go:36", #[⟨17, .data⟩, ⟨14, .data⟩, ⟨12, .chain⟩, ⟨0, .phase⟩, ⟨1, .phase⟩, ⟨2, .phase⟩, ⟨3, .phase⟩, ⟨4, .phase⟩, ⟨5, .phase⟩, ⟨6, .phase⟩, ⟨7, .phase⟩, ⟨8, .phase⟩, ⟨9, .phase⟩, ⟨10, .phase⟩, ⟨11, .phase⟩, ⟨12, .phase⟩, ⟨13, .phase⟩, ⟨14, .phase⟩, { on := 15, ground := Go.Ground.textOnly Go.Departure.lateStores }, { on := 16, ground := Go.Ground.textOnly Go.Departure.lateStores }, ⟨17, .phase⟩], none⟩
def tm3o19 : Oper := ⟨some 9, .assign (.tmp 41), 3, "top06.go:36", #[⟨15, .data⟩, ⟨18, .chain⟩, ⟨0, .phase⟩, ⟨1, .phase⟩, ⟨2, .phase⟩, ⟨3, .phase⟩, ⟨4, .phase⟩, ⟨5, .phase⟩, ⟨6, .phase⟩, ⟨7, .phase⟩, ⟨8, .phase⟩, ⟨9, .phase⟩, ⟨10, .phase⟩, ⟨11, .phase⟩, ⟨12, .phase⟩, ⟨13, .phase⟩, ⟨14, .phase⟩, ⟨15, .phase⟩, { on := 16, ground := Go.Ground.textOnly Go.Departure.lateStores }, ⟨17, .phase⟩, ⟨18, .phase⟩], none⟩
def tm3o20 : Oper := ⟨some 10, .assign (.tmp 42), 28, "top06.go:36", #[⟨16, .data⟩, ⟨19, .chain⟩, ⟨0, .phase⟩, ⟨1, .phase⟩, ⟨2, .phase⟩, ⟨3, .phase⟩, ⟨4, .phase⟩, ⟨5, .phase⟩, ⟨6, .phase⟩, ⟨7, .phase⟩, ⟨8, .phase⟩, ⟨9, .phase⟩, ⟨10, .phase⟩, ⟨11, .phase⟩, ⟨12, .phase⟩, ⟨13, .phase⟩, ⟨14, .phase⟩, ⟨15, .phase⟩, ⟨16, .phase⟩, ⟨17, .phase⟩, ⟨18, .phase⟩, ⟨19, .phase⟩], none⟩
def tm3 : Array Oper := #[tm3o0, tm3o1, tm3o2, tm3o3, tm3o4, tm3o5, tm3o6, tm3o7, tm3o8, tm3o9, tm3o10, tm3o11, tm3o12, tm3o13, tm3o14, tm3o15, tm3o16, tm3o17, tm3o18, tm3o19, tm3o20]
theorem tm3_0 : tm3[0]? = some tm3o0 := by kernel_rfl
theorem tm3_1 : tm3[1]? = some tm3o1 := by kernel_rfl
theorem tm3_2 : tm3[2]? = some tm3o2 := by kernel_rfl
theorem tm3_3 : tm3[3]? = some tm3o3 := by kernel_rfl
theorem tm3_4 : tm3[4]? = some tm3o4 := by kernel_rfl
theorem tm3_5 : tm3[5]? = some tm3o5 := by kernel_rfl
theorem tm3_6 : tm3[6]? = some tm3o6 := by kernel_rfl
theorem tm3_7 : tm3[7]? = some tm3o7 := by kernel_rfl
theorem tm3_8 : tm3[8]? = some tm3o8 := by kernel_rfl
theorem tm3_9 : tm3[9]? = some tm3o9 := by kernel_rfl
theorem tm3_10 : tm3[10]? = some tm3o10 := by kernel_rfl
theorem tm3_11 : tm3[11]? = some tm3o11 := by kernel_rfl
theorem tm3_12 : tm3[12]? = some tm3o12 := by kernel_rfl
theorem tm3_13 : tm3[13]? = some tm3o13 := by kernel_rfl
theorem tm3_14 : tm3[14]? = some tm3o14 := by kernel_rfl
theorem tm3_15 : tm3[15]? = some tm3o15 := by kernel_rfl
theorem tm3_16 : tm3[16]? = some tm3o16 := by kernel_rfl
theorem tm3_17 : tm3[17]? = some tm3o17 := by kernel_rfl
theorem tm3_18 : tm3[18]? = some tm3o18 := by kernel_rfl
theorem tm3_19 : tm3[19]? = some tm3o19 := by kernel_rfl
theorem tm3_20 : tm3[20]? = some tm3o20 := by kernel_rfl
theorem tm3_d0 : dstOf tm3 0 = some 27 := by kernel_rfl
theorem tm3_d1 : dstOf tm3 1 = some 28 := by kernel_rfl
theorem tm3_d2 : dstOf tm3 2 = some 29 := by kernel_rfl
theorem tm3_d3 : dstOf tm3 3 = some 30 := by kernel_rfl
theorem tm3_d4 : dstOf tm3 4 = some 31 := by kernel_rfl
theorem tm3_d5 : dstOf tm3 5 = some 32 := by kernel_rfl
theorem tm3_d6 : dstOf tm3 6 = some 33 := by kernel_rfl
theorem tm3_d7 : dstOf tm3 7 = some 34 := by kernel_rfl
theorem tm3_d8 : dstOf tm3 8 = some 35 := by kernel_rfl
theorem tm3_d9 : dstOf tm3 9 = some 36 := by kernel_rfl
theorem tm3_d10 : dstOf tm3 10 = some 37 := by kernel_rfl
theorem tm3_d11 : dstOf tm3 11 = some 38 := by kernel_rfl
theorem tm3_d12 : dstOf tm3 12 = some 39 := by kernel_rfl
theorem tm3_d13 : dstOf tm3 13 = some 26 := by kernel_rfl
theorem tm3_d14 : dstOf tm3 14 = some 40 := by kernel_rfl
theorem tm3_d15 : dstOf tm3 15 = some 41 := by kernel_rfl
theorem tm3_d16 : dstOf tm3 16 = some 42 := by kernel_rfl
theorem tm3_d17 : dstOf tm3 17 = some 8 := by kernel_rfl
theorem tm3_d19 : dstOf tm3 19 = some 9 := by kernel_rfl
theorem dstOf_nonetm3 : dstOf tm3 18 = none := by kernel_rfl
set_option maxRecDepth 100000 in
set_option maxHeartbeats 4000000 in
theorem topMeets_law (a : Int) (ha0 : 0 ≤ a) (ha1 : a ≤ 255) (b : Int) (hb0 : 0 ≤ b) (hb1 : b ≤ 255) (w : World) (hL : Laid w) :
    Calls Tryz.prog 6 #[.int .u8 a, .int .u8 b] w fun e w' => e = .returned (.bool true) ∧ Below w.heap.size w w' := by
  obtain ⟨a, rfl⟩ := Int.eq_ofNat_of_zero_le ha0
  obtain ⟨b, rfl⟩ := Int.eq_ofNat_of_zero_le hb0
  obtain ⟨i, r1, hi7⟩ : ∃ i : Nat, (a : Int).tmod 7 = (i : Int) ∧ i < 7 := ⟨a % 7, rfl, by omega⟩
  obtain ⟨k, r2, hk7⟩ : ∃ k : Nat, (b : Int).tmod 7 = (k : Int) ∧ k < 7 := ⟨b % 7, rfl, by omega⟩
  have HM := hidI (meet_all i hi7 k hk7)
  have HI : Hid (i < 7 ∧ k < 7) := hidI ⟨hi7, hk7⟩
  clear hi7 hk7
  have HL := hidI hL
  clear hL
  go_enter Tryz.func6, Tryz.ntmps6
  go_wp2
  refine wp_region_quiet_below (by kernel_rfl) (by kernel_rfl) ?_
  repeat (first | go_big_quiet_step (fail) | quiet_step (fail))
  refine wpQuiet_nil ?_
  intro _ hw'
  obtain ⟨⟨dq, osq⟩, hw''⟩ := hw'
  subst hw''
  go_wp2
  have hB0 : Below (w.heap.size + 1) (w.alloc (.cells rowT 9)) («Sort».grow (redrawn (w.alloc (.cells rowT 9)) dq) osq) := (below_regrown _ dq osq).mono (by simp)
  have hwb : Below w.heap.size w («Sort».grow (redrawn (w.alloc (.cells rowT 9)) dq) osq) := ((Below.refl _ _).alloc (Nat.le_refl _) _).trans (hB0.mono (by omega))
  obtain ⟨w2, hw2⟩ : ∃ w2, «Sort».grow (redrawn (w.alloc (.cells rowT 9)) dq) osq = w2 := ⟨_, rfl⟩
  change Code.wp _ _ _ _ («Sort».grow (redrawn (w.alloc (.cells rowT 9)) dq) osq)
  rw [hw2] at hB0 hwb ⊢
  clear hw2
  obtain ⟨hi7, hk7⟩ := HI.out
  obtain ⟨PP, HP, HG, hc1, hc2, hOk, hAc, hc3⟩ := meet_facts HM.out
  have hL0 : Laid w2.drew := HL.out.on (hwb.trans (below_drewW _ _))
  replace hB0 : Below (w.heap.size + 1) (w.alloc (.cells rowT 9)) w2.drew := hB0.trans (below_drewW _ _)
  replace hwb : Below w.heap.size w w2.drew := hwb.trans (below_drewW _ _)
  clear HM r1 r2
  obtain ⟨ti, hti⟩ : ∃ ti, actsT.getD i [] = ti := ⟨_, rfl⟩
  obtain ⟨tk, htk⟩ : ∃ tk, actsT.getD k [] = tk := ⟨_, rfl⟩
  obtain ⟨m4, h4⟩ : ∃ m, headT ++ ti = m := ⟨_, rfl⟩
  obtain ⟨m5, h5⟩ : ∃ m, m4 ++ [32] = m := ⟨_, rfl⟩
  obtain ⟨m10, h10⟩ : ∃ m, m5 ++ tk = m := ⟨_, rfl⟩
  obtain ⟨m11, h11⟩ : ∃ m, m10 ++ [41] = m := ⟨_, rfl⟩
  have hmm : meetT i k = m11 := by rw [← h11, ← h10, ← h5, ← h4, ← hti, ← htk]; rfl
  rw [hmm] at HP HG
  have HLn : Hid (headT.length ≤ 24 ∧ ti.length ≤ 20 ∧ tk.length ≤ 20 ∧ m4.length ≤ 50 ∧ m5.length ≤ 60 ∧ m10.length ≤ 90) := hidI (by
    have l0 : headT.length = 24 := rfl
    have l1 := acts_len i
    have l2 := acts_len k
    rw [hti] at l1
    rw [htk] at l2
    have l4 := congrArg List.length h4
    have l5 := congrArg List.length h5
    have l10 := congrArg List.length h10
    simp only [List.length_append, List.length_cons, List.length_nil] at l4 l5 l10
    omega)
  have HTI := hidI hti
  have HTK := hidI htk
  have H4 := hidI h4
  have H5 := hidI h5
  have H10 := hidI h10
  have H11 := hidI h11
  clear hti htk h4 h5 h10 h11 hmm
  refine wp_region_seq3 (ops := tm3) (fun (q : Nat × PV) j0 => match j0 with | 0 => .slice (some ⟨w.heap.size, 0, none⟩) 7 7 | 1 => .int .i64 (i : Int) | 2 => .pointer (some ⟨w.heap.size, i, none⟩) | 3 => .string (bytesOf (ti)) | 4 => .string (bytesOf (m4)) | 5 => .string (bytesOf (m5)) | 6 => .slice (some ⟨w.heap.size, 0, none⟩) 7 7 | 7 => .int .i64 (k : Int) | 8 => .pointer (some ⟨w.heap.size, k, none⟩) | 9 => .string (bytesOf (tk)) | 10 => .string (bytesOf (m10)) | 11 => .string (bytesOf (m11)) | 12 => .tuple #[pval q.2, .int .i64 0, .int .i64 0] | 13 => .tuple #[pval q.2, .int .i64 0, .int .i64 0] | 14 => pval q.2 | 15 => .int .i64 0 | 16 => .int .i64 0 | 17 => .pointer (some ⟨q.1, 0, none⟩) | 18 => undef | 19 => .int .i64 0 | _ => undef) (SrcS PP w2.drew 12 17 18) (0, pv0) 20 Tryz.mixed (by kernel_rfl) (by kernel_rfl) tm3_20 (SrcS.start _ _ _ _ _ _ _) ?_ ?_
  · intro i9 o9 hi9 ho9 q9 a9 w9 l9 hF9 hL9 hl9 hA9 hC9 hS9 K9 hK9
    have hc9 : i9 = 0 ∨ i9 = 1 ∨ i9 = 2 ∨ i9 = 3 ∨ i9 = 4 ∨ i9 = 5 ∨ i9 = 6 ∨ i9 = 7 ∨ i9 = 8 ∨ i9 = 9 ∨ i9 = 10 ∨ i9 = 11 ∨ i9 = 12 ∨ i9 = 13 ∨ i9 = 14 ∨ i9 = 15 ∨ i9 = 16 ∨ i9 = 17 ∨ i9 = 18 ∨ i9 = 19 := by omega
    clear hi9
    rcases hc9 with rfl | rfl | rfl | rfl | rfl | rfl | rfl | rfl | rfl | rfl | rfl | rfl | rfl | rfl | rfl | rfl | rfl | rfl | rfl | rfl
    · obtain rfl := so tm3_0 ho9
      have e5 := hF9.od 5 (v := .slice (some ⟨w.heap.size, 0, none⟩) 7 7) rfl
      refine zaV rfl ?_ (hK9 q9 w9 (fun _ _ _ => rfl) (hS9.pure (by decide) (by decide) (by decide)))
      clear ho9 hF9
      simp only [tm3o0, execOp, e5]
      first | done | (go_simp <;> omega)
    · obtain rfl := so tm3_1 ho9
      have e6 := hF9.od 6 (v := .int .i64 (i : Int)) rfl
      refine zaV rfl ?_ (hK9 q9 w9 (fun _ _ _ => rfl) (hS9.pure (by decide) (by decide) (by decide)))
      clear ho9 hF9
      simp only [tm3o1, execOp, e6]
      first | done | (go_simp <;> omega)
    · obtain rfl := so tm3_2 ho9
      have e27 := hF9.ev 0 27
      have e28 := hF9.ev 1 28
      have u1 : (i : Int) < 7 := by omega
      refine zaV rfl ?_ (hK9 q9 w9 (fun _ _ _ => rfl) (hS9.pure (by decide) (by decide) (by decide)))
      clear ho9 hF9
      simp only [tm3o2, execOp, e27, e28]
      first | done | (go_simp <;> omega)
    · obtain rfl := so tm3_3 ho9
      have e29 := hF9.ev 2 29
      have HB9 := hB0.trans (hS9.below.mono (by have := hB0.size; simpa using this))
      have u1 := rowT_cell hi7 HB9
      rw [HTI.out] at u1
      refine zaV rfl ?_ (hK9 q9 w9 (fun _ _ _ => rfl) (hS9.pure (by decide) (by decide) (by decide)))
      clear ho9 hF9
      simp only [tm3o3, execOp, e29]
      first | done | (go_simp <;> omega)
    · obtain rfl := so tm3_4 ho9
      have e30 := hF9.ev 3 30
      have ha : (Op.stringOp .add ⟨#[40, 110, 105, 110, 116, 32, 120, 41, 32, 40, 110, 105, 110, 116, 32, 121, 41, 32, 40, 101, 97, 99, 104, 32]⟩ (bytesOf (ti))).run Tryz.prog w9 = .ok (.string (bytesOf m4)) w9 := by
        have h := add_bytes Tryz.prog w9 headT ti (by have := HLn.out; omega) (by have := HLn.out; first | omega | (simp; done))
        rw [H4.out] at h
        exact h
      refine zaV rfl ?_ (hK9 q9 w9 (fun _ _ _ => rfl) (hS9.pure (by decide) (by decide) (by decide)))
      clear ho9 hF9
      simp only [tm3o4, execOp, e30]
      first | done | (go_simp <;> omega)
    · obtain rfl := so tm3_5 ho9
      have e31 := hF9.ev 4 31
      have ha : (Op.stringOp .add (bytesOf (m4)) ⟨#[32]⟩).run Tryz.prog w9 = .ok (.string (bytesOf m5)) w9 := by
        have h := add_bytes Tryz.prog w9 m4 [32] (by have := HLn.out; omega) (by have := HLn.out; first | omega | (simp; done))
        rw [H5.out] at h
        exact h
      refine zaV rfl ?_ (hK9 q9 w9 (fun _ _ _ => rfl) (hS9.pure (by decide) (by decide) (by decide)))
      clear ho9 hF9
      simp only [tm3o5, execOp, e31]
      first | done | (go_simp <;> omega)
    · obtain rfl := so tm3_6 ho9
      have e5 := hF9.od 5 (v := .slice (some ⟨w.heap.size, 0, none⟩) 7 7) rfl
      refine zaV rfl ?_ (hK9 q9 w9 (fun _ _ _ => rfl) (hS9.pure (by decide) (by decide) (by decide)))
      clear ho9 hF9
      simp only [tm3o6, execOp, e5]
      first | done | (go_simp <;> omega)
    · obtain rfl := so tm3_7 ho9
      have e7 := hF9.od 7 (v := .int .i64 (k : Int)) rfl
      refine zaV rfl ?_ (hK9 q9 w9 (fun _ _ _ => rfl) (hS9.pure (by decide) (by decide) (by decide)))
      clear ho9 hF9
      simp only [tm3o7, execOp, e7]
      first | done | (go_simp <;> omega)
    · obtain rfl := so tm3_8 ho9
      have e33 := hF9.ev 6 33
      have e34 := hF9.ev 7 34
      have u1 : (k : Int) < 7 := by omega
      refine zaV rfl ?_ (hK9 q9 w9 (fun _ _ _ => rfl) (hS9.pure (by decide) (by decide) (by decide)))
      clear ho9 hF9
      simp only [tm3o8, execOp, e33, e34]
      first | done | (go_simp <;> omega)
    · obtain rfl := so tm3_9 ho9
      have e35 := hF9.ev 8 35
      have HB9 := hB0.trans (hS9.below.mono (by have := hB0.size; simpa using this))
      have u1 := rowT_cell hk7 HB9
      rw [HTK.out] at u1
      refine zaV rfl ?_ (hK9 q9 w9 (fun _ _ _ => rfl) (hS9.pure (by decide) (by decide) (by decide)))
      clear ho9 hF9
      simp only [tm3o9, execOp, e35]
      first | done | (go_simp <;> omega)
    · obtain rfl := so tm3_10 ho9
      have e32 := hF9.ev 5 32
      have e36 := hF9.ev 9 36
      have ha : (Op.stringOp .add (bytesOf (m5)) (bytesOf (tk))).run Tryz.prog w9 = .ok (.string (bytesOf m10)) w9 := by
        have h := add_bytes Tryz.prog w9 m5 tk (by have := HLn.out; omega) (by have := HLn.out; first | omega | (simp; done))
        rw [H10.out] at h
        exact h
      refine zaV rfl ?_ (hK9 q9 w9 (fun _ _ _ => rfl) (hS9.pure (by decide) (by decide) (by decide)))
      clear ho9 hF9
      simp only [tm3o10, execOp, e32, e36]
      first | done | (go_simp <;> omega)
    · obtain rfl := so tm3_11 ho9
      have e37 := hF9.ev 10 37
      have ha : (Op.stringOp .add (bytesOf (m10)) ⟨#[41]⟩).run Tryz.prog w9 = .ok (.string (bytesOf m11)) w9 := by
        have h := add_bytes Tryz.prog w9 m10 [41] (by have := HLn.out; omega) (by have := HLn.out; first | omega | (simp; done))
        rw [H11.out] at h
        exact h
      refine zaV rfl ?_ (hK9 q9 w9 (fun _ _ _ => rfl) (hS9.pure (by decide) (by decide) (by decide)))
      clear ho9 hF9
      simp only [tm3o11, execOp, e37]
      first | done | (go_simp <;> omega)
    · obtain rfl := so tm3_12 ho9
      have e38 := hF9.ev 11 38
      rw [if_pos (zaJ rfl)]
      unfold Oper.wp
      have f38 := hF9.nw 11 38
      have hs9 : l9[18]? ≠ some true := fun e => by
        have h1 := hC9 18 _ e tm3_18 14 (List.contains_iff_mem.1 (by kernel_rfl))
        replace h1 := hC9 14 _ h1 tm3_14 13 (List.contains_iff_mem.1 (by kernel_rfl))
        replace h1 := hC9 13 _ h1 tm3_13 12 (List.contains_iff_mem.1 (by kernel_rfl))
        rw [hl9] at h1; cases h1
      have hn13 : ¬ l9[13]? = some true := fun e => by
        have h1 := hC9 13 _ e tm3_13 12 (List.contains_iff_mem.1 (by kernel_rfl))
        rw [hl9] at h1; cases h1
      have hn14 : ¬ l9[14]? = some true := fun e => by
        have h1 := hC9 14 _ e tm3_14 13 (List.contains_iff_mem.1 (by kernel_rfl))
        exact hn13 h1
      have hr9 : (execOp a9.eval tm3o12).run Tryz.prog w9 = .ok (.enter 18 #[.string (bytesOf m11)]) w9 := by
        simp only [tm3o12, execOp]
        go_simp
      rw [hr9, Oper.upon_enter]
      refine Calls.mono (goodT_source HG HP w9 (hL0.on hS9.below)) ?_
      rintro e9 w10 ⟨p9, hp9, rfl, ho9, hb9⟩
      refine hK9 (q9.1, p9) w10 ?_ (hS9.call (by decide) (by decide) hs9 hp9 ho9 hb9)
      intro j9 hj9 hd9
      have hjz := (Array.getElem?_eq_some_iff.1 hd9).1
      rw [hL9] at hjz
      have hcj : j9 = 0 ∨ j9 = 1 ∨ j9 = 2 ∨ j9 = 3 ∨ j9 = 4 ∨ j9 = 5 ∨ j9 = 6 ∨ j9 = 7 ∨ j9 = 8 ∨ j9 = 9 ∨ j9 = 10 ∨ j9 = 11 ∨ j9 = 12 ∨ j9 = 13 ∨ j9 = 14 ∨ j9 = 15 ∨ j9 = 16 ∨ j9 = 17 ∨ j9 = 18 ∨ j9 = 19 ∨ j9 = 20 := by omega
      clear hjz
      rcases hcj with rfl | rfl | rfl | rfl | rfl | rfl | rfl | rfl | rfl | rfl | rfl | rfl | rfl | rfl | rfl | rfl | rfl | rfl | rfl | rfl | rfl
      all_goals first | rfl | exact absurd rfl hj9 | exact absurd hd9 (by assumption)
    · obtain rfl := so tm3_13 ho9
      have e39 := hF9.ev 12 39
      refine zaV rfl ?_ (hK9 q9 w9 (fun _ _ _ => rfl) (hS9.pure (by decide) (by decide) (by decide)))
      clear ho9 hF9
      simp only [tm3o13, execOp, e39]
      first | done | (go_simp <;> omega)
    · obtain rfl := so tm3_14 ho9
      have e26 := hF9.ev 13 26
      refine zaV rfl ?_ (hK9 q9 w9 (fun _ _ _ => rfl) (hS9.pure (by decide) (by decide) (by decide)))
      clear ho9 hF9
      simp only [tm3o14, execOp, e26]
      first | done | (go_simp <;> omega)
    · obtain rfl := so tm3_15 ho9
      have e26 := hF9.ev 13 26
      refine zaV rfl ?_ (hK9 q9 w9 (fun _ _ _ => rfl) (hS9.pure (by decide) (by decide) (by decide)))
      clear ho9 hF9
      simp only [tm3o15, execOp, e26]
      first | done | (go_simp <;> omega)
    · obtain rfl := so tm3_16 ho9
      have e26 := hF9.ev 13 26
      refine zaV rfl ?_ (hK9 q9 w9 (fun _ _ _ => rfl) (hS9.pure (by decide) (by decide) (by decide)))
      clear ho9 hF9
      simp only [tm3o16, execOp, e26]
      first | done | (go_simp <;> omega)
    · obtain rfl := so tm3_17 ho9
      rw [if_pos (zaJ rfl)]
      unfold Oper.wp
      have hs9 : l9[18]? ≠ some true := fun e => by
        have h1 := hC9 18 _ e tm3_18 17 (List.contains_iff_mem.1 (by kernel_rfl))
        rw [hl9] at h1; cases h1
      have hr9 : (execOp a9.eval tm3o17).run Tryz.prog w9 = .ok (.value (.pointer (some ⟨w9.heap.size, 0, none⟩))) (w9.alloc (.cells #[.slice none 0 0, .slice none 0 0, .slice none 0 0, .slice none 0 0] 47)) := by
        simp only [tm3o17, execOp]
        go_simp
      rw [hr9, Oper.upon_value]
      refine hK9 (w9.heap.size, q9.2) _ ?_ (hS9.alloc (by decide) (by decide) hs9 _ rfl)
      intro j9 hj9 hd9
      have hjz := (Array.getElem?_eq_some_iff.1 hd9).1
      rw [hL9] at hjz
      have hcj : j9 = 0 ∨ j9 = 1 ∨ j9 = 2 ∨ j9 = 3 ∨ j9 = 4 ∨ j9 = 5 ∨ j9 = 6 ∨ j9 = 7 ∨ j9 = 8 ∨ j9 = 9 ∨ j9 = 10 ∨ j9 = 11 ∨ j9 = 12 ∨ j9 = 13 ∨ j9 = 14 ∨ j9 = 15 ∨ j9 = 16 ∨ j9 = 17 ∨ j9 = 18 ∨ j9 = 19 ∨ j9 = 20 := by omega
      clear hjz
      rcases hcj with rfl | rfl | rfl | rfl | rfl | rfl | rfl | rfl | rfl | rfl | rfl | rfl | rfl | rfl | rfl | rfl | rfl | rfl | rfl | rfl | rfl
      all_goals first | rfl | exact absurd rfl hj9 | exact absurd hd9 (by assumption)
    · obtain rfl := so tm3_18 ho9
      have e8 := hF9.ev 17 8
      have e40 := hF9.ev 14 40
      rw [if_pos (zaJ rfl)]
      have h1 := hA9 17 (List.contains_iff_mem.1 (by kernel_rfl))
      have h2 := hA9 14 (List.contains_iff_mem.1 (by kernel_rfl))
      replace h2 := hC9 14 _ h2 tm3_14 13 (List.contains_iff_mem.1 (by kernel_rfl))
      replace h2 := hC9 13 _ h2 tm3_13 12 (List.contains_iff_mem.1 (by kernel_rfl))
      obtain ⟨m1, ⟨cs9, m2, m3, _⟩, _⟩ := hS9.made h1
      refine wp_store_row 47 _ _ rfl q9.1 (pcells q9.2) e8 e40 47 cs9 m2 (by rfl) m3 (pcells_one (hS9.read h2).2) ?_
      exact hK9 q9 _ (fun _ _ _ => rfl) (hS9.store (by decide) (by decide) h2 h1)
    · obtain rfl := so tm3_19 ho9
      have e41 := hF9.ev 15 41
      refine zaV rfl ?_ (hK9 q9 w9 (fun _ _ _ => rfl) (hS9.pure (by decide) (by decide) (by decide)))
      clear ho9 hF9
      simp only [tm3o19, execOp, e41]
      first | done | (go_simp <;> omega)
  · intro q9 w9 l9 hall9 hS9 K9 hK9
    obtain ⟨hp9, hv9, hb9, hq9, hz9, y0, y1, y2, y3⟩ := hS9.done (hall9 12 (by decide)) (hall9 17 (by decide)) (hall9 18 (by decide))
    clear hall9 hS9
    simp only [putTo, dstOf_nonetm3, tm3_d0, tm3_d1, tm3_d2, tm3_d3, tm3_d4, tm3_d5, tm3_d6, tm3_d7, tm3_d8, tm3_d9, tm3_d10, tm3_d11, tm3_d12, tm3_d13, tm3_d14, tm3_d15, tm3_d16, tm3_d17, tm3_d19, tm3o20]
    rw [if_pos (zaJ rfl)]
    unfold Oper.wp
    go_simp
    refine hK9 _ _ ?_
    clear hK9 K9
    obtain ⟨n, p⟩ := q9
    simp only at hp9 hv9 hq9 hz9 y0 y1 y2 y3
    have HB := hidI hb9
    have HP9 := hidI hp9
    have HV := hidI hv9
    obtain ⟨_, da, dc, hd, _⟩ := id hv9.d
    obtain ⟨_, xa, xc, hx, _⟩ := id hv9.x
    obtain ⟨_, sa, sc, hs, _⟩ := id hv9.s
    obtain ⟨_, ma, mc, hm, _⟩ := id hv9.m
    have C := hidI (check_any p w9 (hL0.on hb9) hv9 (hp9 ▸ hOk) (fun _ s hs => hAc s.s (by rw [← hp9]; simp [PV.prg]; exact ⟨s, hs, rfl⟩)))
    rw [hp9, hc1] at C
    obtain ⟨r2, hr2⟩ : ∃ r2, (checkP PP).2 = r2 := ⟨_, rfl⟩
    rw [hr2] at C hc2 hc3
    have HR : Hid (r2 = 0 ∨ r2 = 10) := hidI hc2
    have HE := hidI hc3
    clear hr2 hc1 hc2 hc3 hOk hAc HP HG
    rw [hd] at y0
    rw [hx] at y1
    rw [hs] at y2
    rw [hm] at y3
    rw [hd, hx, hs, hm] at C
    clear hd hx hs hm hv9 hp9 hb9 hq9
    have HZ := hidI hz9
    clear hz9
    go_wp2_with (go_at_call 20; refine C.out.mono ?_; intro e w3 h3; obtain ⟨rfl, hb3⟩ := h3; clear C; have HB3 := hidI hb3; clear hb3; refine Hid.out ?_)
    refine hidI ?_
    have h9 : Below w.heap.size w w9 := hwb.trans (HB.out.mono hwb.size)
    have HF : Hid (Below w.heap.size w w3) := hidI (h9.trans (HB3.out.mono h9.size))
    clear h9 HB3 HB hwb hB0 HP9 HV HZ HLn HTI HTK H4 H5 H10 H11 hL0 HI HL y0 y1 y2 y3
    have ci : i = 0 ∨ i = 1 ∨ i = 2 ∨ i = 3 ∨ i = 4 ∨ i = 5 ∨ i = 6 := by omega
    have ck : k = 0 ∨ k = 1 ∨ k = 2 ∨ k = 3 ∨ k = 4 ∨ k = 5 ∨ k = 6 := by omega
    have cr := HR.out
    clear hi7 hk7 HR
    rcases ci with rfl | rfl | rfl | rfl | rfl | rfl | rfl <;> rcases ck with rfl | rfl | rfl | rfl | rfl | rfl | rfl <;> rcases cr with rfl | rfl
    all_goals first
      | exact absurd HE.out (by decide)
      | (clear HE
         go_wp2
         go_ret
         exact ⟨rfl, HF.out⟩)
end Go.Proofs.YtmekkhfohmfjkaaGreatDoor
