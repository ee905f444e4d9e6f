/-
  Nodes that are spread are even: the law PartsSpread, walked.
-/
import Derived.Test.YtjlnnpcaeikolaaRSpread
namespace Go.Proofs.Ytjlnnpcaeikolaa
open Go.RowKit Go.Deep
set_option maxRecDepth 100000 in
set_option maxHeartbeats 4000000 in
theorem spreads_not (a b : Int) (h : ¬ mayP a b) (kk : Nat) (w : World) : Calls Try.prog 5 #[.agg #[.int .i64 a, .int .i64 b], .int .u64 (kk : Int)] w fun e w' => e = .returned (.bool true) ∧ Below w.heap.size w w' := by
  have HB0 : Hid (Below w.heap.size w (w.alloc (.cells #[.int .i64 a, .int .i64 b] 22))) := (Below.refl _ w).alloc (Nat.le_refl _) _
  have c0 : Hid ((w.alloc (.cells #[.int .i64 a, .int .i64 b] 22)).cell? ⟨w.heap.size, 0, none⟩ = some (.int .i64 a)) := cell_pair0 _ _ _ _
  have c1 : Hid ((w.alloc (.cells #[.int .i64 a, .int .i64 b] 22)).cell? ⟨w.heap.size, 1, none⟩ = some (.int .i64 b)) := cell_pair1 _ _ _ _
  have hsz : (w.alloc (.cells #[.int .i64 a, .int .i64 b] 22)).heap.size = w.heap.size + 1 := by simp
  have CS := hidI (spread_nil a b kk (w.alloc (.cells #[.int .i64 a, .int .i64 b] 22)) h)
  go_enter Try.func5, Try.ntmps5
  go_wp2_with (go_at_call 27; refine Calls.mono CS.out ?_; rintro e w' ⟨rfl, rfl⟩; refine Hid.out ?_)
  refine hidI ?_
  clear CS
  obtain ⟨W, hW⟩ : ∃ W, w.alloc (.cells #[.int .i64 a, .int .i64 b] 22) = W := ⟨_, rfl⟩
  rw [hW] at HB0 c0 c1 hsz ⊢
  clear hW
  have F0 : Hid (∀ u, Below W.heap.size W u → u.cell? ⟨w.heap.size, 0, none⟩ = some (.int .i64 a)) := fun u hu => (hu.cell (p := ⟨w.heap.size, 0, none⟩) (by rw [hsz]; simp)).trans c0.out
  have F1 : Hid (∀ u, Below W.heap.size W u → u.cell? ⟨w.heap.size, 1, none⟩ = some (.int .i64 b)) := fun u hu => (hu.cell (p := ⟨w.heap.size, 1, none⟩) (by rw [hsz]; simp)).trans c1.out
  have CL := hidI (live_any W)
  clear c0 c1 hsz
  go_wp2_with (go_at_call 18; refine Calls.mono CL.out ?_; rintro e w1 ⟨rfl, hb1⟩; refine Hid.out ?_)
  refine hidI ?_
  have HB1 := hidI hb1
  have d0 := F0.out w1 hb1
  have d1 := F1.out w1 hb1
  have CR := hidI (rspread_nil a b kk w1 h)
  have CE := hidI (same_eq (.slice none 0 0) (.slice none 0 0) [] w1 ⟨none, 0, rfl, .inl rfl⟩ ⟨none, 0, rfl, .inl rfl⟩ (by simp))
  clear CL hb1
  go_wp2_with (first | (go_at_call 28; refine Calls.mono CR.out ?_; rintro e w' ⟨rfl, rfl⟩) | (go_at_call 13; refine Calls.mono CE.out ?_; rintro e w2 ⟨rfl, hb2⟩; refine Hid.out ?_))
  refine hidI ?_
  have HB2 := hidI (HB1.out.trans (hb2.mono HB1.out.size))
  have e0 := F0.out w2 HB2.out
  have e1 := F1.out w2 HB2.out
  have CN := hidI (new_nil a b none 0 0 w2 h)
  have HB3 := hidI (HB0.out.trans (HB2.out.mono HB0.out.size))
  clear CR CE hb2 d0 d1 HB1 HB2 HB0 F0 F1 h
  go_wp2_with (go_at_call 8; refine Calls.mono CN.out ?_; rintro e w' ⟨rfl, rfl⟩; refine Hid.out ?_)
  refine hidI ?_
  clear CN e0 e1
  go_wp2
  go_ret
  exact ⟨rfl, HB3.out⟩
set_option maxRecDepth 100000 in
set_option maxHeartbeats 4000000 in
theorem spreads_ok (n k : Nat) (h : mayP n k) (kk : Nat) (hkk : kk < 18446744073709551616) (w : World) : Calls Try.prog 5 #[.agg #[.int .i64 (n : Int), .int .i64 (k : Int)], .int .u64 (kk : Int)] w fun e w' => e = .returned (.bool true) ∧ Below w.heap.size w w' := by
  have HB0 : Hid (Below w.heap.size w (w.alloc (.cells #[.int .i64 (n : Int), .int .i64 (k : Int)] 22))) := (Below.refl _ w).alloc (Nat.le_refl _) _
  have c0 : Hid ((w.alloc (.cells #[.int .i64 (n : Int), .int .i64 (k : Int)] 22)).cell? ⟨w.heap.size, 0, none⟩ = some (.int .i64 (n : Int))) := cell_pair0 _ _ _ _
  have c1 : Hid ((w.alloc (.cells #[.int .i64 (n : Int), .int .i64 (k : Int)] 22)).cell? ⟨w.heap.size, 1, none⟩ = some (.int .i64 (k : Int))) := cell_pair1 _ _ _ _
  have hsz : (w.alloc (.cells #[.int .i64 (n : Int), .int .i64 (k : Int)] 22)).heap.size = w.heap.size + 1 := by simp
  have CS := hidI (spread_ok n k h kk hkk (w.alloc (.cells #[.int .i64 (n : Int), .int .i64 (k : Int)] 22)))
  have HM := hidI h
  obtain ⟨m1, m2, m3, m4⟩ := h
  go_enter Try.func5, Try.ntmps5
  go_wp2_with (go_at_call 27; refine Calls.mono CS.out ?_; rintro e w1 ⟨sv, ps, rfl, hpl, hst, hs1, hb1⟩; refine Hid.out ?_)
  refine hidI ?_
  clear CS
  obtain ⟨W, hW⟩ : ∃ W, w.alloc (.cells #[.int .i64 (n : Int), .int .i64 (k : Int)] 22) = W := ⟨_, rfl⟩
  rw [hW] at HB0 c0 c1 hsz hb1
  clear hW
  have F0 : Hid (∀ u, Below W.heap.size W u → u.cell? ⟨w.heap.size, 0, none⟩ = some (.int .i64 (n : Int))) := fun u hu => (hu.cell (p := ⟨w.heap.size, 0, none⟩) (by rw [hsz]; simp)).trans c0.out
  have F1 : Hid (∀ u, Below W.heap.size W u → u.cell? ⟨w.heap.size, 1, none⟩ = some (.int .i64 (k : Int))) := fun u hu => (hu.cell (p := ⟨w.heap.size, 1, none⟩) (by rw [hsz]; simp)).trans c1.out
  have CL := hidI (live_any w1)
  have HB1 := hidI hb1
  have HS1 := hidI hs1
  have HST := hidI hst
  have HPL := hidI hpl
  have hsv : ∃ sa sc, sv = .slice sa n sc := by obtain ⟨sa, sc, rfl, _⟩ := hs1; exact ⟨sa, sc, by simp⟩
  obtain ⟨sa, sc, rfl⟩ := hsv
  clear c0 c1 hsz hb1 hs1 hst hpl
  go_wp2_with (go_at_call 18; refine Calls.mono CL.out ?_; rintro e w2 ⟨rfl, hb2⟩; refine Hid.out ?_)
  refine hidI ?_
  have HS2 := hidI (HS1.out.below hb2 (Nat.le_refl _))
  have HB2 := hidI (HB1.out.trans (hb2.mono HB1.out.size))
  have d0 := F0.out w2 HB2.out
  have d1 := F1.out w2 HB2.out
  have CR := hidI (rspread_ok n k HM.out kk hkk w2)
  clear CL hb2 HS1 HB1
  go_wp2_with (go_at_call 28; refine Calls.mono CR.out ?_; rintro e w3 ⟨rv, qs, rfl, hql, hsq, hs3, hb3⟩; refine Hid.out ?_)
  refine hidI ?_
  have hqp : qs = ps := Perm.steps_same (by rw [hql, HPL.out]) hsq HST.out
  subst hqp
  have HS3 := hidI (HS2.out.below hb3 (Nat.le_refl _))
  have HB3 := hidI (HB2.out.trans (hb3.mono HB2.out.size))
  have CE := hidI (same_eq _ _ _ w3 HS3.out hs3 (by simp; omega))
  clear CR hb3 hql hsq hs3 HS2 HB2 d0 d1
  go_wp2_with (go_at_call 13; refine Calls.mono CE.out ?_; rintro e w4 ⟨rfl, hb4⟩; refine Hid.out ?_)
  refine hidI ?_
  have HS4 := hidI (HS3.out.below hb4 (Nat.le_refl _))
  have HB4 := hidI (HB3.out.trans (hb4.mono HB3.out.size))
  have e0 := F0.out w4 HB4.out
  have e1 := F1.out w4 HB4.out
  have CN := hidI (new_ok n k HM.out _ (sprL qs k n) w4 HS4.out)
  clear CE hb4 HS3 HB3
  go_wp2_with (go_at_call 8; refine Calls.mono CN.out ?_; rintro e w5 ⟨pb, rfl, hp5, hb5⟩; refine Hid.out ?_)
  refine hidI ?_
  have HB5 := hidI (HB4.out.trans (hb5.mono HB4.out.size))
  have HRT := hidI (right_of_steps HST.out HPL.out (by omega))
  have CV : Hid (Calls Try.prog 25 #[.pointer (some ⟨pb, 0, none⟩)] w5 fun e w' => e = .returned (.bool true) ∧ Below w5.heap.size w5 w') := by
    have := even_some pb n k _ w5 hp5
    rw [sprL_even HRT.out (by omega) (by omega) HPL.out (by omega)] at this
    exact this
  have HP5 := hidI hp5
  have hn0 : ((n : Int) == 0) = false := by simp; omega
  have hn1 : decide ((n : Int) = 0) = false := by simp; omega
  have hn2 : ¬ n = 0 := by omega
  clear CN hp5 hb5 HS4 HB4 e0 e1
  go_wp2_with (go_at_call 25; refine Calls.mono CV.out ?_; rintro e w6 ⟨rfl, hb6⟩; refine Hid.out ?_)
  refine hidI ?_
  have HB6 := hidI (HB0.out.trans ((HB5.out.trans (hb6.mono HB5.out.size)).mono HB0.out.size))
  have CD := hidI (nodes_any _ _ _ _ w6 (HP5.out.below hb6 (Nat.le_refl _)))
  clear CV hb6 HB5 HP5
  go_wp2_with (go_at_call 21; refine Calls.mono CD.out ?_; rintro e w' ⟨rfl, rfl⟩; refine Hid.out ?_)
  refine hidI ?_
  clear CD
  go_wp2
  go_ret
  exact ⟨rfl, HB6.out⟩
/-- As the statement has its arguments. -/
theorem partsSpread_any (a b : Int) (_ : Wf a) (_ : Wf b) (kk : Nat) (hkk : kk < 18446744073709551616) {W : World} :
    Calls Try.prog 5 #[.agg #[.int .i64 a, .int .i64 b], .int .u64 (kk : Int)] W fun e w' => e = .returned (.bool true) ∧ Below W.heap.size W w' := by
  by_cases h : mayP a b
  · obtain ⟨n, rfl⟩ : ∃ n : Nat, a = n := ⟨a.toNat, by unfold mayP at h; omega⟩
    obtain ⟨k, rfl⟩ : ∃ k : Nat, b = k := ⟨b.toNat, by unfold mayP at h; omega⟩
    exact spreads_ok n k h kk hkk W
  · exact spreads_not a b h kk W
end Go.Proofs.Ytjlnnpcaeikolaa
