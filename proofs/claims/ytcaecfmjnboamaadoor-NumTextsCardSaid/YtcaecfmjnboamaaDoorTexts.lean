/-
  The statement NumTexts: its function comes to true at every number, text and bytes.
-/
import Derived.Test.YtcaecfmjnboamaaDoorParse
import Derived.Test.YtcaecfmjnboamaaDoorBytes
import Derived.Test.YtcaecfmjnboamaaDoorArrEq
import Derived.Lib.QuietBelow
import Derived.BigQuiet
namespace Go.Proofs.YtcaecfmjnboamaaDoor
open Go.RowKit
open Go.Sort (grow)
theorem Hid.mk' {p : Prop} (h : p) : Hid p := h
theorem digitsR_any (n : Int) (w : World) (hn : In64 n) (ht : Tab w) :
    Calls Tryd.prog 37 #[.int .i64 n] w fun e w' => e = .returned (.string ⟨(Lib.itoa n).toArray⟩) ∧ Below w.heap.size w w' := by
  go_enter Tryd.func37, Tryd.ntmps37
  go_wp2_with (go_at_call 47; refine (Tryd.strconv_FormatInt_10 n hn.1 hn.2 w ht).mono ?_; rintro e w' ⟨rfl, k, os, rfl⟩)
  go_ret
  exact ⟨rfl, below_grow _ _ _⟩
theorem both_parse (s : ByteArray) (hl : s.size ≤ 281474976710656) : ∃ pv pe : Int,
    (∀ w, Tab w → Sent w → Calls Tryd.prog 34 #[.string s] w fun e w' => e = .returned (.tuple #[.int .i64 pv, .int .i64 pe]) ∧ Below w.heap.size w w') ∧
    (∀ w, Calls Tryd.prog 35 #[.string s] w fun e w' => e = .returned (.tuple #[.int .i64 pv, .int .i64 pe]) ∧ w = w') := by
  by_cases h : ∃ v, In64 v ∧ s.data.toList = Lib.itoa v
  · obtain ⟨v, hv, h⟩ := h
    exact ⟨v, 0, fun w ht _ => parse_yes s hl v hv h w ht, fun w => refParse_yes s hl v hv h w⟩
  · have h' : ∀ v, In64 v → s.data.toList ≠ Lib.itoa v := fun v hv e => h ⟨v, hv, e⟩
    exact ⟨0, 3, fun w ht hs => parse_no s hl h' w ht hs, fun w => refParse_no s hl h' w⟩
theorem bytes_parts {a : Int} (h : In64 a) : ∃ a0 a1 a2 a3 a4 a5 a6 a7 : Int, by8 a = #[.int .u8 a0, .int .u8 a1, .int .u8 a2, .int .u8 a3, .int .u8 a4, .int .u8 a5, .int .u8 a6, .int .u8 a7] ∧ jn a0 a1 a2 a3 a4 a5 a6 a7 = a ∧ (0 ≤ a0 ∧ a0 ≤ 255) ∧ (0 ≤ a1 ∧ a1 ≤ 255) ∧ (0 ≤ a2 ∧ a2 ≤ 255) ∧ (0 ≤ a3 ∧ a3 ≤ 255) ∧ (0 ≤ a4 ∧ a4 ≤ 255) ∧ (0 ≤ a5 ∧ a5 ≤ 255) ∧ (0 ≤ a6 ∧ a6 ≤ 255) ∧ (0 ≤ a7 ∧ a7 ≤ 255) :=
  ⟨_, _, _, _, _, _, _, _, rfl, jn_by8 h, ⟨by omega, by omega⟩, ⟨by omega, by omega⟩, ⟨by omega, by omega⟩, ⟨by omega, by omega⟩, ⟨by omega, by omega⟩, ⟨by omega, by omega⟩, ⟨by omega, by omega⟩, ⟨by omega, by omega⟩⟩
set_option maxHeartbeats 4000000 in
theorem numTexts_walk (a : Int) (ha : In64 a) (s : ByteArray) (hl : s.size ≤ 281474976710656) (b0 b1 b2 b3 b4 b5 b6 b7 : Int) (hb0 : 0 ≤ b0 ∧ b0 ≤ 255) (hb1 : 0 ≤ b1 ∧ b1 ≤ 255) (hb2 : 0 ≤ b2 ∧ b2 ≤ 255) (hb3 : 0 ≤ b3 ∧ b3 ≤ 255) (hb4 : 0 ≤ b4 ∧ b4 ≤ 255) (hb5 : 0 ≤ b5 ∧ b5 ≤ 255) (hb6 : 0 ≤ b6 ∧ b6 ≤ 255) (hb7 : 0 ≤ b7 ∧ b7 ≤ 255) (w : World) (ht : Tab w) (hsn : Sent w) :
    Calls Tryd.prog 6 #[.int .i64 a, .string s, .agg #[.int .u8 b0, .int .u8 b1, .int .u8 b2, .int .u8 b3, .int .u8 b4, .int .u8 b5, .int .u8 b6, .int .u8 b7]] w fun e w' => e = .returned (.bool true) ∧ Below w.heap.size w w' := by
  obtain ⟨pv, pe, hP, hR⟩ := both_parse s hl
  obtain ⟨a0, a1, a2, a3, a4, a5, a6, a7, hby, hjn, ha0, ha1, ha2, ha3, ha4, ha5, ha6, ha7⟩ := bytes_parts ha
  have hbj := by8_jn b0 b1 b2 b3 b4 b5 b6 b7 hb0 hb1 hb2 hb3 hb4 hb5 hb6 hb7
  obtain ⟨J, hJ⟩ : ∃ J, J = jn b0 b1 b2 b3 b4 b5 b6 b7 := ⟨_, rfl⟩
  have cA := fun w => join_any a0 a1 a2 a3 a4 a5 a6 a7 ha0 ha1 ha2 ha3 ha4 ha5 ha6 ha7 w
  have cJ := fun w => join_any b0 b1 b2 b3 b4 b5 b6 b7 hb0 hb1 hb2 hb3 hb4 hb5 hb6 hb7 w
  have cR := fun w => joinR_any b0 b1 b2 b3 b4 b5 b6 b7 hb0 hb1 hb2 hb3 hb4 hb5 hb6 hb7 w
  rw [hjn] at cA
  rw [← hJ] at cJ cR hbj
  have cBA := fun w => bytes_any a w
  have cBR := fun w => bytesR_any a w
  have cBJ := fun w => bytes_any J w
  rw [hby] at cBA cBR
  rw [hbj] at cBJ
  obtain ⟨D, hD⟩ : ∃ D : ByteArray, D = ⟨(Lib.itoa a).toArray⟩ := ⟨_, rfl⟩
  have hDl : D.data.toList = Lib.itoa a := by rw [hD]
  have hDs : D.size ≤ 281474976710656 := by
    rw [Lib.size_eq, hDl]
    have := Lib.itoa_length_le a ha.1 ha.2
    omega
  have cD := fun (w : World) (ht : Tab w) => digits_any a w ha ht
  have cDR := fun (w : World) (ht : Tab w) => digitsR_any a w ha ht
  rw [← hD] at cD cDR
  have cP := fun (w : World) (ht : Tab w) => parse_yes D hDs a ha hDl w ht
  have CA : Hid (∀ w, _) := cA
  have CJ : Hid (∀ w, _) := cJ
  have CR : Hid (∀ w, _) := cR
  have CBA : Hid (∀ w, _) := cBA
  have CBR : Hid (∀ w, _) := cBR
  have CBJ : Hid (∀ w, _) := cBJ
  have CD : Hid (∀ w, _) := cD
  have CDR : Hid (∀ w, _) := cDR
  have CP : Hid (∀ w, _) := cP
  have HP : Hid (∀ w, _) := hP
  have HR : Hid (∀ w, _) := hR
  clear hby hjn hbj hJ hD hDl hDs cA cJ cR cBA cBR cBJ cD cDR cP hP hR ha0 hb0 ha1 hb1 ha2 hb2 ha3 hb3 ha4 hb4 ha5 hb5 ha6 hb6 ha7 hb7
  have HB : Below w.heap.size w (w.alloc (.cells #[.int .u8 b0, .int .u8 b1, .int .u8 b2, .int .u8 b3, .int .u8 b4, .int .u8 b5, .int .u8 b6, .int .u8 b7] 38)) := (Below.refl _ _).alloc (Nat.le_refl _) _
  have HN : Hid (w.heap.size < (w.alloc (.cells #[.int .u8 b0, .int .u8 b1, .int .u8 b2, .int .u8 b3, .int .u8 b4, .int .u8 b5, .int .u8 b6, .int .u8 b7] 38)).heap.size) := by show _ < _; simp
  have HX : Hid ((w.alloc (.cells #[.int .u8 b0, .int .u8 b1, .int .u8 b2, .int .u8 b3, .int .u8 b4, .int .u8 b5, .int .u8 b6, .int .u8 b7] 38)).heap[w.heap.size]? = some (.cells #[.int .u8 b0, .int .u8 b1, .int .u8 b2, .int .u8 b3, .int .u8 b4, .int .u8 b5, .int .u8 b6, .int .u8 b7] 38 (0, 0))) := heap_alloc_new w _
  go_enter Tryd.func6, Tryd.ntmps6
  go_wp2_with fail
  generalize w.alloc (.cells #[.int .u8 b0, .int .u8 b1, .int .u8 b2, .int .u8 b3, .int .u8 b4, .int .u8 b5, .int .u8 b6, .int .u8 b7] 38) = w0 at HB HN HX ⊢
  refine (HP.out _ (ht.on HB) (hsn.on HB)).mono ?_
  rintro e w1 ⟨rfl, hb1⟩
  have HX := Hid.mk' ((hb1.block w.heap.size HN.out).trans HX.out)
  have HN := Hid.mk' (Nat.lt_of_lt_of_le HN.out hb1.size)
  have HB := HB.trans (hb1.mono HB.size)
  clear hb1
  go_wp2_with fail
  refine (HR.out _).mono ?_
  rintro e w2 ⟨rfl, rfl⟩
  go_wp2_with fail
  refine (CD.out _ (ht.on HB)).mono ?_
  rintro e w2 ⟨rfl, hb1⟩
  have HX := Hid.mk' ((hb1.block w.heap.size HN.out).trans HX.out)
  have HN := Hid.mk' (Nat.lt_of_lt_of_le HN.out hb1.size)
  have HB := HB.trans (hb1.mono HB.size)
  clear hb1
  go_wp2_with fail
  refine (CP.out _ (ht.on HB)).mono ?_
  rintro e w3 ⟨rfl, hb1⟩
  have HX := Hid.mk' ((hb1.block w.heap.size HN.out).trans HX.out)
  have HN := Hid.mk' (Nat.lt_of_lt_of_le HN.out hb1.size)
  have HB := HB.trans (hb1.mono HB.size)
  clear hb1
  go_wp2_with fail
  have HT : Hid (Tab w3) := ht.on HB
  have k9 : Hid (∀ d os, Calls Tryd.prog 9 #[] (grow (redrawn w3 d) os) fun e w'' => e = .returned (.bool true) ∧ ∃ p : Regrown, w'' = grow (redrawn w3 p.d) p.os) := fun d os => Calls.regrown_of (live_any _ (HT.out.on (below_regrown _ _ _)))
  have k36 : Hid (∀ d os, Calls Tryd.prog 36 #[.int .i64 a] (grow (redrawn w3 d) os) fun e w'' => e = .returned (.string D) ∧ ∃ p : Regrown, w'' = grow (redrawn w3 p.d) p.os) := fun d os => Calls.regrown_of (CD.out _ (HT.out.on (below_regrown _ _ _)))
  have k37 : Hid (∀ d os, Calls Tryd.prog 37 #[.int .i64 a] (grow (redrawn w3 d) os) fun e w'' => e = .returned (.string D) ∧ ∃ p : Regrown, w'' = grow (redrawn w3 p.d) p.os) := fun d os => Calls.regrown_of (CDR.out _ (HT.out.on (below_regrown _ _ _)))
  have k38 : Hid (∀ d os, Calls Tryd.prog 38 #[.int .i64 a] (grow (redrawn w3 d) os) fun e w'' => e = .returned (.agg #[.int .u8 a0, .int .u8 a1, .int .u8 a2, .int .u8 a3, .int .u8 a4, .int .u8 a5, .int .u8 a6, .int .u8 a7]) ∧ ∃ p : Regrown, w'' = grow (redrawn w3 p.d) p.os) := fun d os => Calls.regrown_of (CBA.out _)
  have k39 : Hid (∀ d os, Calls Tryd.prog 39 #[.int .i64 a] (grow (redrawn w3 d) os) fun e w'' => e = .returned (.agg #[.int .u8 a0, .int .u8 a1, .int .u8 a2, .int .u8 a3, .int .u8 a4, .int .u8 a5, .int .u8 a6, .int .u8 a7]) ∧ ∃ p : Regrown, w'' = grow (redrawn w3 p.d) p.os) := fun d os => Calls.regrown_of (CBR.out _)
  have k40 : Hid (∀ d os, Calls Tryd.prog 40 #[.agg #[.int .u8 b0, .int .u8 b1, .int .u8 b2, .int .u8 b3, .int .u8 b4, .int .u8 b5, .int .u8 b6, .int .u8 b7]] (grow (redrawn w3 d) os) fun e w'' => e = .returned (.int .i64 J) ∧ ∃ p : Regrown, w'' = grow (redrawn w3 p.d) p.os) := fun d os => Calls.regrown_of (CJ.out _)
  have k41 : Hid (∀ d os, Calls Tryd.prog 41 #[.agg #[.int .u8 b0, .int .u8 b1, .int .u8 b2, .int .u8 b3, .int .u8 b4, .int .u8 b5, .int .u8 b6, .int .u8 b7]] (grow (redrawn w3 d) os) fun e w'' => e = .returned (.int .i64 J) ∧ ∃ p : Regrown, w'' = grow (redrawn w3 p.d) p.os) := fun d os => Calls.regrown_of (CR.out _)
  have k40a : Hid (∀ d os, Calls Tryd.prog 40 #[.agg #[.int .u8 a0, .int .u8 a1, .int .u8 a2, .int .u8 a3, .int .u8 a4, .int .u8 a5, .int .u8 a6, .int .u8 a7]] (grow (redrawn w3 d) os) fun e w'' => e = .returned (.int .i64 a) ∧ ∃ p : Regrown, w'' = grow (redrawn w3 p.d) p.os) := fun d os => Calls.regrown_of (CA.out _)
  have k38j : Hid (∀ d os, Calls Tryd.prog 38 #[.int .i64 J] (grow (redrawn w3 d) os) fun e w'' => e = .returned (.agg #[.int .u8 b0, .int .u8 b1, .int .u8 b2, .int .u8 b3, .int .u8 b4, .int .u8 b5, .int .u8 b6, .int .u8 b7]) ∧ ∃ p : Regrown, w'' = grow (redrawn w3 p.d) p.os) := fun d os => Calls.regrown_of (CBJ.out _)
  have q0 := fun d os => cell_regrown (show w3.cell? ⟨w.heap.size, 0, none⟩ = some (.int .u8 b0) by rw [Joins.cell_of_block HX.out]; rfl) d os
  have q1 := fun d os => cell_regrown (show w3.cell? ⟨w.heap.size, 1, none⟩ = some (.int .u8 b1) by rw [Joins.cell_of_block HX.out]; rfl) d os
  have q2 := fun d os => cell_regrown (show w3.cell? ⟨w.heap.size, 2, none⟩ = some (.int .u8 b2) by rw [Joins.cell_of_block HX.out]; rfl) d os
  have q3 := fun d os => cell_regrown (show w3.cell? ⟨w.heap.size, 3, none⟩ = some (.int .u8 b3) by rw [Joins.cell_of_block HX.out]; rfl) d os
  have q4 := fun d os => cell_regrown (show w3.cell? ⟨w.heap.size, 4, none⟩ = some (.int .u8 b4) by rw [Joins.cell_of_block HX.out]; rfl) d os
  have q5 := fun d os => cell_regrown (show w3.cell? ⟨w.heap.size, 5, none⟩ = some (.int .u8 b5) by rw [Joins.cell_of_block HX.out]; rfl) d os
  have q6 := fun d os => cell_regrown (show w3.cell? ⟨w.heap.size, 6, none⟩ = some (.int .u8 b6) by rw [Joins.cell_of_block HX.out]; rfl) d os
  have q7 := fun d os => cell_regrown (show w3.cell? ⟨w.heap.size, 7, none⟩ = some (.int .u8 b7) by rw [Joins.cell_of_block HX.out]; rfl) d os
  clear ht hsn CA CJ CR CBA CBR CBJ CD CDR CP HP HR
  have eqA := fun w => eq8 a0 a1 a2 a3 a4 a5 a6 a7 w
  have eqB := fun w => eq8 b0 b1 b2 b3 b4 b5 b6 b7 w
  have hgd : Tryd.prog.eqGuardType Tryd.prog.depth 38 = false := by kernel_rfl
  refine wp_region_quiet_below (by kernel_rfl) (by kernel_rfl) ?_
  repeat (first | go_big_quiet_step ((first | (go_at_call 9; exact k9.out _ _) | (go_at_call 36; exact k36.out _ _) | (go_at_call 37; exact k37.out _ _) | (go_at_call 39; exact k39.out _ _) | (go_at_call 41; exact k41.out _ _) | (go_at_call 38; first | with_reducible exact k38.out _ _ | with_reducible exact k38j.out _ _) | (go_at_call 40; first | with_reducible exact k40.out _ _ | with_reducible exact k40a.out _ _))) | quiet_step ((first | (go_at_call 9; exact k9.out _ _) | (go_at_call 36; exact k36.out _ _) | (go_at_call 37; exact k37.out _ _) | (go_at_call 39; exact k39.out _ _) | (go_at_call 41; exact k41.out _ _) | (go_at_call 38; first | with_reducible exact k38.out _ _ | with_reducible exact k38j.out _ _) | (go_at_call 40; first | with_reducible exact k40.out _ _ | with_reducible exact k40a.out _ _))))
  refine wpQuiet_nil ?_
  intro _ hw'
  obtain ⟨⟨dq, osq⟩, hw''⟩ := hw'
  subst hw''
  go_wp2
  go_ret
  exact ⟨rfl, HB.trans ((below_regrown w3 dq osq).mono HB.size)⟩
end Go.Proofs.YtcaecfmjnboamaaDoor
