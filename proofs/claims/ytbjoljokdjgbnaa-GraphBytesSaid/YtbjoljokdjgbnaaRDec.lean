/-
  The document's Decode.
-/
import Derived.Test.YtbjoljokdjgbnaaREnc
namespace Go.Proofs.Ytbjoljokdjgbnaa
open Go.RowKit Go.Deep
/-- The first k edges that bytes say. -/
def pairsTo (bs : List Int) (k : Nat) : Edges := (List.range k).map fun j => (bs.getD (2 + 2 * j) 0, bs.getD (2 + 2 * j + 1) 0)
theorem pairsTo_length (bs : List Int) (k : Nat) : (pairsTo bs k).length = k := by simp [pairsTo]
theorem pairsTo_succ (bs : List Int) (k : Nat) : pairsTo bs (k + 1) = pairsTo bs k ++ [(bs.getD (2 + 2 * k) 0, bs.getD (2 + 2 * k + 1) 0)] := by simp [pairsTo, List.range_succ]
theorem pairsTo_enc (n : Int) (es : Edges) : pairsTo (enc n es) es.length = es := by
  apply List.ext_getElem
  · rw [pairsTo_length]
  · intro j h1 h2
    obtain ⟨a1, a2⟩ := enc_at (n := n) (List.getElem?_eq_getElem h2)
    simp only [pairsTo, List.getElem_map, List.getElem_range]
    rw [a1, a2]
/-- What the document's Decode comes to. -/
def Dec (bs : List Int) (w : World) (e : Ending) (w' : World) : Prop :=
  (((fw bs).2 = false ∧ e = .returned (.tuple #[.int .i64 0, .slice none 0 0, .int .i64 (fw bs).1, .int .i64 3])) ∨
    ((fw bs).2 = true ∧ ∃ u k, (bs.length : Int) = 2 + 2 * (k : Nat) ∧ e = .returned (.tuple #[.int .i64 (bs.getD 0 0), u, .int .i64 0, .int .i64 0]) ∧ SeesE w' u (pairsTo bs k))) ∧ Below w.heap.size w w'
theorem rdecode_none (a : Option Addr) (cap : Nat) (w : World) : Calls Try.prog 28 #[.slice a 0 cap] w (Dec [] w) := by
  go_enter Try.func28, Try.ntmps28
  go_wp2
  refine bodyPost_ret (results_tmp4 rfl _ _ _) rfl ?_
  exact ⟨.inl ⟨rfl, rfl⟩, Below.refl _ _⟩
set_option maxRecDepth 100000 in
set_option maxHeartbeats 2000000 in
theorem rdecode_some (b off cap : Nat) (bs : List Int) (w : World) (hc : ∀ j, j < bs.length → w.cell? ⟨b, off + j, none⟩ = some (.int .u8 (bs.getD j 0))) (h0 : 0 < bs.length) (hr : ∀ x ∈ bs, 0 ≤ x ∧ x < 256) (hl : bs.length ≤ 9223372036854775807) :
    Calls Try.prog 28 #[.slice (some ⟨b, off, none⟩) bs.length cap] w (Dec bs w) := by
  obtain ⟨i0, hi, hz0, hz1, hz2⟩ := info_parts Try.info55
  have c0 := hc 0 h0
  rw [Nat.add_zero] at c0
  have hbw : b < w.heap.size := World.block_lt_of_cell? w _ c0
  have y2 := hr (bs.getD 0 0) (by simp [List.getD, h0])
  obtain ⟨y, hy⟩ : ∃ y, bs.getD 0 0 = y := ⟨_, rfl⟩
  rw [hy] at c0 y2
  obtain ⟨y0, y1⟩ := y2
  have wy : IntKind.i64.wrap y = y := by rw [IntKind.wrap_i64]; omega
  have HY := hidI hy
  have HC := hidI hc
  have HR := hidI hr
  obtain ⟨m, hm⟩ : ∃ m, bs.length = m := ⟨_, rfl⟩
  rw [hm] at h0 hl ⊢
  have HM := hidI hm
  have l1 : decide ((m : Int) < 1) = false := by simp; omega
  clear hy hc hr hm
  have bad : ∀ (i : Nat), i < m → wrongAt bs i = true → (∀ j, j < i → wrongAt bs j = false) → fw bs = ((i : Int), false) := fun i h1 h2 h3 => fw_some (by rw [HM.out]; exact h1) h2 h3
  have BAD := hidI bad
  clear bad
  by_cases g1 : y < 1
  · have hf := BAD.out 0 h0 (by unfold wrongAt; rw [if_pos rfl, HY.out]; simp; omega) (fun j hj => absurd hj (by omega))
    have HF := hidI hf
    clear hf
    go_enter Try.func28, Try.ntmps28
    go_wp2
    refine bodyPost_ret (results_tmp4 rfl _ _ _) rfl ?_
    exact ⟨.inl ⟨by rw [HF.out], by rw [HF.out]; rfl⟩, Below.refl _ _⟩
  have e1 : decide (y < 1) = false := by simpa using g1
  by_cases g2 : 12 < y
  · have hf := BAD.out 0 h0 (by unfold wrongAt; rw [if_pos rfl, HY.out]; simp; omega) (fun j hj => absurd hj (by omega))
    have HF := hidI hf
    clear hf
    go_enter Try.func28, Try.ntmps28
    go_wp2
    refine bodyPost_ret (results_tmp4 rfl _ _ _) rfl ?_
    exact ⟨.inl ⟨by rw [HF.out], by rw [HF.out]; rfl⟩, Below.refl _ _⟩
  have e2 : decide (12 < y) = false := by simpa using g2
  have r0 : wrongAt bs 0 = false := by unfold wrongAt; rw [if_pos rfl, HY.out]; simp; omega
  by_cases g3 : m = 1
  · subst g3
    have hf : fw bs = (1, false) := by
      rw [fw_none (fun j hj => by rw [HM.out] at hj; obtain rfl : j = 0 := by omega
                                  exact r0), HM.out]
      simp [endAt]
    have HF := hidI hf
    clear hf r0
    go_enter Try.func28, Try.ntmps28
    go_wp2
    refine bodyPost_ret (results_tmp4 rfl _ _ _) rfl ?_
    exact ⟨.inl ⟨by rw [HF.out], by rw [HF.out]; rfl⟩, Below.refl _ _⟩
  have l2 : decide ((m : Int) < 2) = false := by simp; omega
  have l3 : (1 : Int) < (m : Int) := by omega
  have c1 := HC.out 1 (by rw [HM.out]; omega)
  have z2 := HR.out (bs.getD 1 0) (by have := HM.out; simp [List.getD, show 1 < bs.length by omega])
  obtain ⟨z, hz⟩ : ∃ z, bs.getD 1 0 = z := ⟨_, rfl⟩
  rw [hz] at c1 z2
  obtain ⟨z0, z1⟩ := z2
  have HZ := hidI hz
  clear hz
  obtain ⟨k, rfl⟩ : ∃ k : Nat, z = k := ⟨z.toNat, by omega⟩
  have wk : IntKind.i64.wrap (k : Int) = k := by rw [IntKind.wrap_i64]; omega
  have HG3 := hidI g3
  have R0 := hidI r0
  clear g3 r0
  by_cases g4 : 30 < k
  · have hf := BAD.out 1 (by omega) (by unfold wrongAt; rw [if_neg (by decide), if_pos rfl, HZ.out]; simp; omega) (fun j hj => (show j = 0 by omega) ▸ R0.out)
    have HF := hidI hf
    have g5 : (30 : Int) < (k : Int) := by omega
    clear hf
    go_enter Try.func28, Try.ntmps28
    go_wp2
    refine bodyPost_ret (results_tmp4 rfl _ _ _) rfl ?_
    exact ⟨.inl ⟨by rw [HF.out], by rw [HF.out]; rfl⟩, Below.refl _ _⟩
  have e5 : decide ((30 : Int) < (k : Int)) = false := by simp; omega
  have r1 : wrongAt bs 1 = false := by unfold wrongAt; rw [if_neg (by decide), if_pos rfl, HZ.out]; simp; omega
  have R1 := hidI r1
  clear r1
  obtain ⟨E, hE⟩ : ∃ E, 2 + 2 * k = E := ⟨_, rfl⟩
  have wr' : ∀ (i : Nat), 2 ≤ i → wrongAt bs i = (decide (2 + 2 * (k : Int) ≤ (i : Int)) || !(decide (0 ≤ bs.getD i 0) && decide (bs.getD i 0 < y))) := fun i h => by
    unfold wrongAt; rw [if_neg (by omega), if_neg (by omega), HY.out, HZ.out]
  have WR := hidI wr'
  clear wr'
  go_enter Try.func28, Try.ntmps28
  go_wp2
  go_loopg [8, 9] (2 * k) (fun g s8 s9 wx => ∃ (i : Nat), i + g = 2 + 2 * k ∧ 2 ≤ i ∧ s9 = .int .i64 i ∧ (∀ j, j < i → wrongAt bs j = false) ∧ i ≤ m ∧ wx.ownsRow w.heap.size 55 2 s8 ((i - 2) / 2) (flat (pairsTo bs ((i - 2) / 2))) ∧ Below w.heap.size w wx ∧ w.heap.size ≤ wx.heap.size)
  case atStart =>
    refine ⟨2, by omega, by omega, rfl, fun j hj => ?_, by omega, World.ownsRow_nil _ _ _ _, Below.refl _ _, Nat.le_refl _⟩
    by_cases hj0 : j = 0
    · subst hj0; exact R0.out
    · obtain rfl : j = 1 := by omega
      exact R1.out
  case round =>
    obtain ⟨i, hig, hi2, rfl, hall, him, ho, hbl, hsz⟩ := hrel
    have HA := hidI hall
    have HO := hidI ho
    have HB := hidI hbl
    clear hall ho hbl
    cases gk with
    | zero =>
      have hiE : (i : Int) = 2 + 2 * (k : Int) := by omega
      have d1 : decide ((i : Int) < 2 + 2 * (k : Int)) = false := by simp; omega
      by_cases g6 : 2 + 2 * (k : Int) < (m : Int)
      · have hf := BAD.out i (by omega) (by rw [WR.out i hi2]; simp; omega) HA.out
        have HF := hidI hf
        have HIE := hidI hiE
        clear hf hiE
        go_wp2
        refine bodyPost_ret (results_tmp4 rfl _ _ _) rfl ?_
        exact ⟨.inl ⟨by rw [HF.out], by rw [HF.out]; simp only [HIE.out]; rfl⟩, HB.out⟩
      · have d2 : decide (2 + 2 * (k : Int) < (m : Int)) = false := by simpa using g6
        have hf : (fw bs).2 = true := by
          rw [fw_none (fun j hj => HA.out j (by rw [HM.out] at hj; omega))]
          unfold endAt
          rw [if_neg (by rw [HM.out]; omega), HZ.out, HM.out]
          simp; omega
        have HF := hidI hf
        have HIE := hidI hiE
        clear hf hiE
        go_wp2
        refine bodyPost_ret (results_tmp4 rfl _ _ _) rfl ?_
        refine ⟨.inr ⟨HF.out, _, k, by rw [HM.out]; have := HIE.out; omega, by rw [HY.out]; rfl, seesE_of_owns (base := w.heap.size) ?_⟩, HB.out⟩
        have := HO.out
        rw [show (i - 2) / 2 = k by have := HIE.out; omega] at this
        rw [pairsTo_length]
        exact this
    | succ g =>
      have d1 : (i : Int) < 2 + 2 * (k : Int) := by omega
      by_cases g6 : i = m
      · have hf : fw bs = ((m : Int), false) := by
          rw [fw_none (fun j hj => HA.out j (by rw [HM.out] at hj; omega)), HM.out]
          unfold endAt
          rw [if_neg (by omega), HZ.out]
          simp; omega
        have HF := hidI hf
        clear hf
        subst g6
        go_wp2
        refine bodyPost_ret (results_tmp4 rfl _ _ _) rfl ?_
        exact ⟨.inl ⟨by rw [HF.out], by rw [HF.out]; rfl⟩, HB.out⟩
      have hlt : i < m := by omega
      have k3 : (i : Int) < (m : Int) := by omega
      have d2 : decide ((m : Int) ≤ (i : Int)) = false := by simp; omega
      have HI6 := hidI g6
      have x2 := HR.out (bs.getD i 0) (by have := HM.out; simp [List.getD, show i < bs.length by omega])
      have cx := HC.out i (by rw [HM.out]; exact hlt)
      have wri := WR.out i hi2
      obtain ⟨x, hx⟩ : ∃ x, bs.getD i 0 = x := ⟨_, rfl⟩
      rw [hx] at x2 cx wri
      obtain ⟨x0, x1⟩ := x2
      have HX := hidI hx
      have HW := hidI wri
      have c3 : wr.cell? ⟨b, off + i, none⟩ = some (.int .u8 x) := (HB.out.cell (p := ⟨b, off + i, none⟩) hbw).trans cx
      have wx : IntKind.i64.wrap x = x := by rw [IntKind.wrap_i64]; omega
      clear hx wri cx g6
      by_cases g7 : y ≤ x
      · have hf := BAD.out i hlt (by rw [HW.out]; simp; omega) HA.out
        have HF := hidI hf
        clear hf
        go_wp2
        refine bodyPost_ret (results_tmp4 rfl _ _ _) rfl ?_
        exact ⟨.inl ⟨by rw [HF.out], by rw [HF.out]; rfl⟩, HB.out⟩
      have d3 : decide (y ≤ x) = false := by simpa using g7
      have hwi : wrongAt bs i = false := by rw [HW.out]; simp; omega
      have hall' : ∀ j, j < i + 1 → wrongAt bs j = false := fun j hj => by
        by_cases hji : j = i
        · subst hji; exact hwi
        · exact HA.out j (by omega)
      have HA' := hidI hall'
      clear hall' hwi
      rcases Nat.mod_two_eq_zero_or_one i with hp | hp
      · have t1 : (i : Int).tmod 2 = 0 := by rw [Int.tmod_eq_emod_of_nonneg (by omega)]; omega
        have HP := hidI hp
        clear hp
        go_wp2
        go_roundg g
        case measure => omega
        case rel =>
          refine ⟨i + 1, by omega, by omega, by go_num, HA'.out, by omega, ?_, HB.out, hsz⟩
          rw [show (i + 1 - 2) / 2 = (i - 2) / 2 by have := HP.out; omega]
          exact HO.out
      · have t1 : (i : Int).tmod 2 = 1 := by rw [Int.tmod_eq_emod_of_nonneg (by omega)]; omega
        obtain ⟨p, rfl⟩ : ∃ p, i = p + 1 := ⟨i - 1, by omega⟩
        obtain ⟨q, hq⟩ : ∃ q, p = 2 + 2 * q := ⟨(p - 2) / 2, by omega⟩
        have t2 : ((p : Int) + 1).tmod 2 = 1 := t1
        have u2 := HR.out (bs.getD p 0) (by have := HM.out; simp [List.getD, show p < bs.length by omega])
        have cu := HC.out p (by rw [HM.out]; omega)
        obtain ⟨v, hv⟩ : ∃ v, bs.getD p 0 = v := ⟨_, rfl⟩
        rw [hv] at u2 cu
        obtain ⟨v0, v1⟩ := u2
        have c4 : wr.cell? ⟨b, off + p, none⟩ = some (.int .u8 v) := (HB.out.cell (p := ⟨b, off + p, none⟩) hbw).trans cu
        have wv : IntKind.i64.wrap v = v := by rw [IntKind.wrap_i64]; omega
        have k1 : (p : Int) + 1 < (m : Int) := by omega
        have k0 : (0 : Int) ≤ (p : Int) + 1 := by omega
        have k2 : ((p : Int) + 1).toNat = p + 1 := by omega
        have k4 : (p : Int) < (m : Int) := by omega
        have k5 : IntKind.i64.wrap ((p : Int) + 1) = (p : Int) + 1 := by rw [IntKind.wrap_i64]; omega
        have k6 : IntKind.i64.wrap (p : Int) = (p : Int) := by rw [IntKind.wrap_i64]; omega
        have hp2 : pairsTo bs (q + 1) = pairsTo bs q ++ [(v, x)] := by
          rw [pairsTo_succ, ← hq, hv, HX.out]
        have eq1 : (p + 1 - 2) / 2 = q := by omega
        rw [eq1] at HO
        have HP2 := hidI hp2
        have HQ := hidI hq
        clear hv cu hq hp2 t1 hp eq1
        have hnw : ∀ (j : Nat) (u : Value), [Value.int .i64 v, .int .i64 x][j]? = some u → (wr.alloc (.cells #[.int .i64 v, .int .i64 x] 55)).drew.cell? ((⟨wr.heap.size, 0, none⟩ : Addr).add j) = some u := pair_new wr (.int .i64 v) (.int .i64 x) 55
        have hne : some b ≠ u8.ownBlock := fun hk => by have := (HO.out.lt b hk.symm).1; omega
        have d1' : (wr.alloc (.cells #[.int .i64 v, .int .i64 x] 55)).drew.cell? ⟨b, off + p, none⟩ = some (.int .u8 v) := cell_al _ c4
        have d2' : (wr.alloc (.cells #[.int .i64 v, .int .i64 x] 55)).drew.cell? ⟨b, off + (p + 1), none⟩ = some (.int .u8 x) := cell_al _ c3
        have hod : (wr.alloc (.cells #[.int .i64 v, .int .i64 x] 55)).drew.ownsRow w.heap.size 55 2 u8 q (flat (pairsTo bs q)) := HO.out.alloc _
        have HOD := hidI hod
        have HNW := hidI hnw
        have D1 := hidI d1'
        have D2 := hidI d2'
        have HNE := hidI hne
        have q1 : q + 1 ≤ maxLen := by have := HQ.out; unfold maxLen; omega
        have q2 : (q + 1) * 16 ≤ 140737488355328 := by have := HQ.out; omega
        have q3 : w.heap.size ≤ (wr.alloc (.cells #[.int .i64 v, .int .i64 x] 55)).drew.heap.size := by simp; omega
        have Q1 := hidI q1
        have Q2 := hidI q2
        have Q3 := hidI q3
        clear hne d1' d2' hod hnw q1 q2 q3
        go_wp2
        go_region_held_law (fun w' => w'.cell? ⟨b, off + p, none⟩ = some (.int .u8 v) ∧ w'.cell? ⟨b, off + (p + 1), none⟩ = some (.int .u8 x))
          (first | assumption | exact ⟨D1.out, D2.out⟩ | exact ⟨kept_cell hgrow D1.out HNE.out, kept_cell hgrow D2.out HNE.out⟩ | go_keep)
          ((refine step_append_lies _ rfl _ _ 22 rfl w.heap.size 55 i0 (.agg #[.int .i64 0, .int .i64 0]) 2 16 Try.underlying22 hi hz0 hz1 hz2 rfl (by decide) u8 q _ rfl HOD.out ⟨wr.heap.size, 0, none⟩ 1 1 [.int .i64 v, .int .i64 x] rfl rfl HNW.out (by simp [Value.oneCell']) (by decide) Q1.out Q2.out Q3.out _ rfl ?_; intro gq capq wq hown' hgrow _ _))
        have HO4 := hidI hown'
        have HR4 := hidI hgrow
        clear hown' hgrow
        go_wp2
        go_roundg g
        case measure => omega
        case rel =>
          have h5 := HB.out.size
          refine ⟨p + 1 + 1, by omega, by omega, by go_num, HA'.out, by omega, ?_, ?_, ?_⟩
          · rw [show (p + 1 + 1 - 2) / 2 = q + 1 by have := HQ.out; omega, HP2.out, flat_append]
            exact HO4.out
          · exact ((HB.out.alloc h5 _).drew).grown HR4.out (by simp; omega) (by intro k hk; have := HO.out.lt k hk; omega)
          · have := HR4.out.size; simp at *; omega
theorem rdecode_any (v : Value) (bs : List Int) (w : World) (hv : SeesB w v bs) (hr : ∀ x ∈ bs, 0 ≤ x ∧ x < 256) (hl : bs.length ≤ 9223372036854775807) :
    Calls Try.prog 28 #[v] w (Dec bs w) := by
  obtain ⟨a, cap, rfl, hs⟩ := hv
  by_cases h0 : bs = []
  · subst h0
    exact rdecode_none a cap w
  · rcases hs with hs | ⟨b, off, rfl, hc⟩
    · exact absurd hs h0
    · exact rdecode_some b off cap bs w hc (List.length_pos_iff.2 h0) hr hl
theorem rdecode_bad (v : Value) (bs : List Int) (w : World) (hv : SeesB w v bs) (hr : ∀ x ∈ bs, 0 ≤ x ∧ x < 256) (hl : bs.length ≤ 9223372036854775807) (hf : (fw bs).2 = false) :
    Calls Try.prog 28 #[v] w fun e w' => e = .returned (.tuple #[.int .i64 0, .slice none 0 0, .int .i64 (fw bs).1, .int .i64 3]) ∧ Below w.heap.size w w' := by
  refine (rdecode_any v bs w hv hr hl).mono ?_
  rintro e w' ⟨⟨_, h⟩ | ⟨h, _⟩, hb⟩
  · exact ⟨h, hb⟩
  · rw [hf] at h; cases h
theorem rdecode_ok (v : Value) (n : Int) (es : Edges) (w : World) (hv : SeesB w v (enc n es)) (h1 : 1 ≤ n) (h2 : n ≤ 12) (h3 : es.length ≤ 30) (hgd : ∀ x ∈ es, good n x = true) :
    Calls Try.prog 28 #[v] w fun e w' => ∃ u, e = .returned (.tuple #[.int .i64 n, u, .int .i64 0, .int .i64 0]) ∧ SeesE w' u es ∧ Below w.heap.size w w' := by
  have hlen := enc_length n es
  refine (rdecode_any v _ w hv (enc_bytes h1 h2 h3 hgd) (by omega)).mono ?_
  rintro e w' ⟨⟨h, _⟩ | ⟨_, u, k, hk, he, hs⟩, hb⟩
  · rw [fw_enc h1 h2 h3 hgd] at h; cases h
  · obtain rfl : k = es.length := by omega
    rw [pairsTo_enc] at hs
    exact ⟨u, he, hs, hb⟩
end Go.Proofs.Ytbjoljokdjgbnaa
