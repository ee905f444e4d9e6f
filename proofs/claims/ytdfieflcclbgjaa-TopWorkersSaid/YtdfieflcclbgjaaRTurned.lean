/-
  The document's Turned.
-/
import Derived.Test.YtdfieflcclbgjaaRFrom
import Derived.Test.YtdfieflcclbgjaaTurnM
import Derived.Test.YtdfieflcclbgjaaRSort
namespace Go.Proofs.Ytdfieflcclbgjaa
open Go.RowKit Go.Deep Go.MapKept Go.Sort
set_option maxRecDepth 100000 in
set_option maxHeartbeats 4000000 in
theorem rturned_any (w : World) (v : Value) (xs : List Msg) (k : Nat) (hk : k < 18446744073709551616) (hv : SeesM w v xs) (hl : xs.length ≤ 500) :
    Calls Try.prog 15 #[v, .int .u64 k] w fun e w' => ∃ v', e = .returned v' ∧ SeesM w' v' (turnM k xs) ∧ Below w.heap.size w w' := by
  obtain ⟨a, cap, rfl, hcap, hL⟩ := hv
  have HL := hidI hL
  clear hL
  obtain ⟨n, hn⟩ : ∃ n, xs.length = n := ⟨_, rfl⟩
  have HN := hidI hn
  rw [hn] at hl hcap ⊢
  clear hn
  obtain ⟨K, hK⟩ : ∃ K, (n + 15) / 16 = K := ⟨_, rfl⟩
  have hK1 : n ≤ 16 * K := by omega
  have hK2 : 16 * K ≤ n + 15 := by omega
  have HT0 : Hid (turnM k xs = turnA k K [] xs) := hidI (by unfold turnM; rw [HN.out, hK])
  clear hK
  go_enter Try.func15, Try.ntmps15
  go_wp2
  go_loopg [5, 6] K (fun g s5 s6 wx => ∃ (j from_ no : Nat) (out : List Msg) (v5 : Value), j + g = K ∧ Hid (from_ = 16 * j) ∧ v5 = s5 ∧ s6 = .int .i64 (from_ : Int) ∧ no ≤ 16 * j ∧ Hid (Below w.heap.size w wx) ∧ Hid (wx.ownsRow w.heap.size 48 3 v5 no (flatM out)) ∧ Hid (turnM k xs = turnA k g out (xs.drop from_)))
  case atStart => exact ⟨0, 0, 0, [], _, by omega, hidI rfl, rfl, rfl, by omega, hidI (Below.refl _ _), hidI (World.ownsRow_nil _ _ _ _), HT0⟩
  case round =>
    obtain ⟨j, from_, no, out, v5, hjg, HI, rfl, rfl, hno, HB, HO, HT⟩ := hrel
    cases gk with
    | zero =>
      have hi : n ≤ from_ := by have := HI.out; omega
      have k1 : decide ((from_ : Int) < (n : Int)) = false := by rw [decide_eq_false_iff_not]; omega
      have k2 : decide (from_ < n) = false := by rw [decide_eq_false_iff_not]; omega
      go_wp2
      go_ret
      refine ⟨_, rfl, ?_, HB.out⟩
      rw [HT.out]
      exact seesM_of_owns HO.out
    | succ g =>
      have hi : from_ < n := by have := HI.out; omega
      have hno2 : no ≤ 600 := by have := HI.out; omega
      have k1 : (from_ : Int) < (n : Int) := by omega
      have ki9 : (from_ : Int) ≤ 500 := by omega
      obtain ⟨b, off, rfl, hcc⟩ : ∃ b off, a = some ⟨b, off, none⟩ ∧ ∀ (j : Nat) (x : Msg), xs[j]? = some x → w.cell? ⟨b, off + j * 3, none⟩ = some (.int .i64 x.to) ∧ w.cell? ⟨b, off + j * 3 + 1, none⟩ = some (.int .i64 x.tag) ∧ w.cell? ⟨b, off + j * 3 + 2, none⟩ = some (.int .i64 x.val) := by
        rcases HL.out with h0 | h1
        · have := HN.out; rw [h0] at this; simp at this; omega
        · exact h1
      have HC : Hid (∀ y, Below w.heap.size w y → ∀ (j : Nat) (x : Msg), xs[j]? = some x → y.cell? ⟨b, off + j * 3, none⟩ = some (.int .i64 x.to) ∧ y.cell? ⟨b, off + j * 3 + 1, none⟩ = some (.int .i64 x.tag) ∧ y.cell? ⟨b, off + j * 3 + 2, none⟩ = some (.int .i64 x.val)) := hidI fun y hy j x hx => by
        obtain ⟨h0, h1, h2⟩ := hcc j x hx
        have kk : ∀ {p : Addr} {v : Value}, w.cell? p = some v → y.cell? p = some v := fun {p v} hc => (hy.cell (World.block_lt_of_cell? w _ hc)).trans hc
        exact ⟨kk h0, kk h1, kk h2⟩
      clear hcc
      obtain ⟨row, hrow⟩ : ∃ row, (xs.drop from_).take 16 = row := ⟨_, rfl⟩
      have HRow := hidI hrow
      obtain ⟨m, hm⟩ : ∃ m, row.length = m := ⟨_, rfl⟩
      have HRowL := hidI hm
      have hm2 : m = min 16 (n - from_) := by rw [← hm, ← hrow, List.length_take, List.length_drop, HN.out]
      have hcf : ¬ cap = from_ := by omega
      have hfc : (from_ : Int) ≤ (cap : Int) := by omega
      have hfn : (from_ : Int) ≤ (n : Int) := by omega
      have hfc' : from_ ≤ cap := by omega
      have hfn' : from_ ≤ n := by omega
      clear hrow hm
      obtain ⟨wq, hwq⟩ : ∃ wq : World, wq = wr := ⟨wr, rfl⟩
      subst hwq
      by_cases h16 : 16 < n - from_
      · have hm16 : m = 16 := by omega
        have g16 : (16 : Int) < ((n - from_ : Nat) : Int) := by omega
        have g17 : (16 : Int) ≤ ((cap - from_ : Nat) : Int) := by omega
        have g18 : 16 ≤ cap - from_ := by omega
        clear hm2
        subst hm16
        have HRowC : Hid (∀ y, Below w.heap.size w y → ∀ (q : Nat) (x : Msg), (row)[q]? = some x → y.cell? ⟨b, off + from_ * 3 + q * 3, none⟩ = some (.int .i64 x.to) ∧ y.cell? ⟨b, off + from_ * 3 + q * 3 + 1, none⟩ = some (.int .i64 x.tag) ∧ y.cell? ⟨b, off + from_ * 3 + q * 3 + 2, none⟩ = some (.int .i64 x.val)) := hidI fun y hy q x hx => by
          have hx2 : xs[from_ + q]? = some x := by
            rw [← HRow.out, List.getElem?_take] at hx
            split at hx
            · rwa [List.getElem?_drop] at hx
            · cases hx
          obtain ⟨h0, h1, h2⟩ := HC.out y hy _ x hx2
          rw [show off + (from_ + q) * 3 = off + from_ * 3 + q * 3 by omega] at h0 h1 h2
          exact ⟨h0, h1, h2⟩
        clear HC
        have CF := hidI (Perm.refFrom_walk 16 k wq (by omega) hk)
        go_wp2_with (go_at_call 40; refine Calls.mono CF.out ?_; rintro e w3 ⟨pv, ps, rfl, hpl, hst, hsee, hb3⟩; refine Hid.out ?_)
        refine hidI ?_
        have HPS : Hid (ps = fromL 16 k) := hidI (from_is hst hpl)
        have HRt := hidI (Perm.right_steps hst)
        have HB3 := hidI (HB.out.trans (hb3.mono HB.out.size))
        have HB3q := hidI hb3
        obtain ⟨pa, pc, rfl, _, hsee⟩ := hsee
        have HSee := hidI hsee
        have HPL := hidI hpl
        have HPB : Hid (∀ z ∈ ps, 0 ≤ z ∧ z < (16 : Int)) := hidI fun z hz => by
          have : ∀ {l : List Int} {sn : List Bool} {q : Nat}, Perm.Steps 16 sn q l → ∀ z ∈ l, 0 ≤ z ∧ z < (16 : Int) := by
            intro l
            induction l with
            | nil => intro sn q _ z hz; simp at hz
            | cons a r ih =>
              intro sn q h z hz
              obtain ⟨v, rfl, hv, _, _, hs⟩ := h
              rcases List.mem_cons.1 hz with rfl | hz
              · omega
              · exact ih hs z hz
          exact this hst z hz
        clear hb3 hst hsee hpl CF
        rw [HPL.out]
        have hq1 := HB3q.out.size
        have hq2 := HB.out.size
        go_wp2
        go_loopg [10, 11] 16 (fun g2 s10 s11 wz => ∃ (i : Nat) (v10 : Value), v10 = s10 ∧ i + g2 = 16 ∧ s11 = .int .i64 (i : Int) ∧ Hid (Below w3.heap.size w3 wz) ∧ Hid (wz.ownsRow w3.heap.size 48 3 v10 i (flatM ((ps.take i).map fun j => row.getD j.toNat default))))
        case atStart => exact ⟨0, _, rfl, by omega, rfl, hidI (Below.refl _ _), hidI (World.ownsRow_nil _ _ _ _)⟩
        case round =>
          obtain ⟨i, v10, rfl, hi2, rfl, HBz, HOz⟩ := hrel
          have HBw : Hid (Below w.heap.size w wr) := hidI (HB3.out.trans (HBz.out.mono HB3.out.size))
          cases gk with
          | zero =>
            obtain rfl : 16 = i := by omega
            have k7 : decide (((16 : Nat) : Int) < ((16 : Nat) : Int)) = false := by simp
            have HTR : Hid (wr.ownsRow w3.heap.size 48 3 v10 16 (flatM (turnRow k row))) := hidI (by
              have h := HOz.out
              rw [List.take_of_length_le (by have := HPL.out; omega), HPS.out] at h
              unfold turnRow
              rw [HRowL.out]
              exact h)
            have HOo : Hid (wr.ownsRow w.heap.size 48 3 v5 no (flatM out)) := hidI (own_below (own_below HO.out HB3q.out (Nat.le_refl _)) HBz.out (Nat.le_refl _))
            have HTL : Hid ((turnRow k row).length = 16) := hidI (by have h := HTR.out.1; rw [flatM_length] at h; omega)
            have hz1 := HBz.out.size
            have hz2 := HBw.out.size
            clear HOz
            by_cases hodd : k % 2 = 1
            · have o1 : (k : Int) % 2 = 1 := by omega
              have HNX : Hid (turnM k xs = turnA k g (turnRow k row ++ out) ((xs.drop from_).drop 16)) := hidI (by rw [HT.out, turnA, if_pos hodd, HRow.out])
              go_wp2_with (at_builtin; go_must (refine wpList_append_any Try.underlying22 Try.info48 rfl (by decide) (by decide) rfl _ _ rfl w3.heap.size _ 16 _ rfl HTR.out _ no (flatM out) rfl (seesC_of_owns HOo.out) flatM_cells (by omega) hz1 ?_); intro v9 w9 hown9 hgrow9 _; refine Hid.out ?_)
              refine hidI ?_
              have HB9 : Hid (Below w.heap.size w w9) := hidI (Below.grown HBw.out hgrow9 hz2 (fun q hq => by have := (HTR.out.lt q hq).1; omega))
              have HO9 : Hid (w9.ownsRow w.heap.size 48 3 v9 (16 + no) (flatM (turnRow k row ++ out))) := hidI (by rw [flatM_append]; exact Joins.ownsRow_le hown9 (by omega))
              clear hown9 hgrow9
              go_wp2
              go_roundg g
              case measure => omega
              case rel => exact ⟨j + 1, from_ + 16, 16 + no, turnRow k row ++ out, v9, by omega, hidI (by have := HI.out; omega), rfl, by go_num, by have := HI.out; omega, HB9, HO9, hidI (by rw [HNX.out, List.drop_drop])⟩
            · have o1 : ¬ (k : Int) % 2 = 1 := by omega
              have o2 : ((k : Int) % 2 == 1) = false := by simpa using o1
              have HNX : Hid (turnM k xs = turnA k g (out ++ turnRow k row) ((xs.drop from_).drop 16)) := hidI (by rw [HT.out, turnA, if_neg hodd, HRow.out])
              go_wp2_with (at_builtin; go_must (refine wpList_append_any Try.underlying22 Try.info48 rfl (by decide) (by decide) rfl _ _ rfl w.heap.size _ no _ rfl HOo.out _ 16 (flatM (turnRow k row)) rfl (seesC_of_owns HTR.out) flatM_cells (by omega) hz2 ?_); intro v9 w9 hown9 hgrow9 _; refine Hid.out ?_)
              refine hidI ?_
              have HB9 : Hid (Below w.heap.size w w9) := hidI (Below.grown HBw.out hgrow9 hz2 (fun q hq => (HOo.out.lt q hq).1))
              have HO9 : Hid (w9.ownsRow w.heap.size 48 3 v9 (no + 16) (flatM (out ++ turnRow k row))) := hidI (by rw [flatM_append]; exact hown9)
              clear hown9 hgrow9
              go_wp2
              go_roundg g
              case measure => omega
              case rel => exact ⟨j + 1, from_ + 16, no + 16, out ++ turnRow k row, v9, by omega, hidI (by have := HI.out; omega), rfl, by go_num, by have := HI.out; omega, HB9, HO9, hidI (by rw [HNX.out, List.drop_drop])⟩
          | succ g2 =>
            have k7 : (i : Int) < (16 : Int) := by omega
            obtain ⟨z, hz⟩ : ∃ z, ps[i]? = some z := ⟨_, List.getElem?_eq_getElem (by have := HPL.out; omega)⟩
            have hzb := HPB.out z (List.mem_of_getElem? hz)
            obtain ⟨q, rfl⟩ : ∃ q : Nat, z = (q : Int) := ⟨z.toNat, by omega⟩
            have hqm : q < 16 := by omega
            have hzb1 : (q : Int) < (16 : Int) := by omega
            obtain ⟨x, hx⟩ : ∃ x, row[q]? = some x := ⟨_, List.getElem?_eq_getElem (by have := HRowL.out; omega)⟩
            obtain ⟨x0, x1, x2⟩ := HRowC.out wr HBw.out q x hx
            have HTk : Hid (flatM ((ps.take (i + 1)).map fun j => row.getD j.toNat default) = flatM ((ps.take i).map fun j => row.getD j.toNat default) ++ x.cells) := hidI (by
              rw [List.take_add_one, hz, List.map_append, flatM_append]
              simp [List.getD, hx, flatM_one])
            obtain ⟨b3, o3, rfl, c3⟩ : ∃ b3 o3, pa = some ⟨b3, o3, none⟩ ∧ w3.cell? ⟨b3, o3 + i, none⟩ = some (.int .i64 (q : Int)) := by
              rcases HSee.out with h0 | ⟨b3, o3, rfl, h3⟩
              · rw [h0] at hz; simp at hz
              · refine ⟨b3, o3, rfl, ?_⟩
                have := h3 i (by have := HPL.out; omega)
                rw [show ps.getD i 0 = (q : Int) by simp [List.getD, hz]] at this
                exact this
            have c3r : wr.cell? ⟨b3, o3 + i, none⟩ = some (.int .i64 (q : Int)) := (HBz.out.cell (World.block_lt_of_cell? w3 _ c3)).trans c3
            clear hz hx hzb c3
            have HOA := hidI (World.ownsRow.alloc HOz.out (.cells #[.int .i64 x.to, .int .i64 x.tag, .int .i64 x.val] 48))
            have HSM := hidI (msg_seen (W := wr) x)
            have hz1 := HBz.out.size
            go_wp2_with (at_builtin; go_must (refine wpList_append_any Try.underlying22 Try.info48 rfl (by decide) (by decide) rfl _ _ rfl w3.heap.size _ i _ rfl HOA.out _ 1 x.cells rfl HSM.out (cells_one x) (by omega) (by simp; omega) ?_); intro v9 w9 hown9 hgrow9 _; refine Hid.out ?_)
            refine hidI ?_
            have HB9 : Hid (Below w3.heap.size w3 w9) := hidI (Below.grown (HBz.out.alloc hz1 _) hgrow9 (by simp; omega) (fun k hk => (HOA.out.lt k hk).1))
            rw [← HTk.out] at hown9
            have HO9 := hidI hown9
            clear hown9 hgrow9 HOA HSM
            go_wp2
            go_roundg g2
            case measure => omega
            case rel => exact ⟨i + 1, v9, rfl, by omega, by go_num, HB9, HO9⟩
      · have hmn : n - from_ = m := by omega
        have hm16 : m ≤ 16 := by omega
        have g16 : decide ((16 : Int) < (m : Int)) = false := by rw [decide_eq_false_iff_not]; omega
        have g15 : decide (16 < m) = false := by rw [decide_eq_false_iff_not]; omega
        clear hm2 h16
        have HRowC : Hid (∀ y, Below w.heap.size w y → ∀ (q : Nat) (x : Msg), (row)[q]? = some x → y.cell? ⟨b, off + from_ * 3 + q * 3, none⟩ = some (.int .i64 x.to) ∧ y.cell? ⟨b, off + from_ * 3 + q * 3 + 1, none⟩ = some (.int .i64 x.tag) ∧ y.cell? ⟨b, off + from_ * 3 + q * 3 + 2, none⟩ = some (.int .i64 x.val)) := hidI fun y hy q x hx => by
          have hx2 : xs[from_ + q]? = some x := by
            rw [← HRow.out, List.getElem?_take] at hx
            split at hx
            · rwa [List.getElem?_drop] at hx
            · cases hx
          obtain ⟨h0, h1, h2⟩ := HC.out y hy _ x hx2
          rw [show off + (from_ + q) * 3 = off + from_ * 3 + q * 3 by omega] at h0 h1 h2
          exact ⟨h0, h1, h2⟩
        clear HC
        have CF := hidI (Perm.refFrom_walk m k wq (by omega) hk)
        go_wp2_with (go_at_call 40; refine Calls.mono CF.out ?_; rintro e w3 ⟨pv, ps, rfl, hpl, hst, hsee, hb3⟩; refine Hid.out ?_)
        refine hidI ?_
        have HPS : Hid (ps = fromL m k) := hidI (from_is hst hpl)
        have HRt := hidI (Perm.right_steps hst)
        have HB3 := hidI (HB.out.trans (hb3.mono HB.out.size))
        have HB3q := hidI hb3
        obtain ⟨pa, pc, rfl, _, hsee⟩ := hsee
        have HSee := hidI hsee
        have HPL := hidI hpl
        have HPB : Hid (∀ z ∈ ps, 0 ≤ z ∧ z < (m : Int)) := hidI fun z hz => by
          have : ∀ {l : List Int} {sn : List Bool} {q : Nat}, Perm.Steps m sn q l → ∀ z ∈ l, 0 ≤ z ∧ z < (m : Int) := by
            intro l
            induction l with
            | nil => intro sn q _ z hz; simp at hz
            | cons a r ih =>
              intro sn q h z hz
              obtain ⟨v, rfl, hv, _, _, hs⟩ := h
              rcases List.mem_cons.1 hz with rfl | hz
              · omega
              · exact ih hs z hz
          exact this hst z hz
        clear hb3 hst hsee hpl CF
        rw [HPL.out]
        have hq1 := HB3q.out.size
        have hq2 := HB.out.size
        go_wp2
        go_loopg [10, 11] m (fun g2 s10 s11 wz => ∃ (i : Nat) (v10 : Value), v10 = s10 ∧ i + g2 = m ∧ s11 = .int .i64 (i : Int) ∧ Hid (Below w3.heap.size w3 wz) ∧ Hid (wz.ownsRow w3.heap.size 48 3 v10 i (flatM ((ps.take i).map fun j => row.getD j.toNat default))))
        case atStart => exact ⟨0, _, rfl, by omega, rfl, hidI (Below.refl _ _), hidI (World.ownsRow_nil _ _ _ _)⟩
        case round =>
          obtain ⟨i, v10, rfl, hi2, rfl, HBz, HOz⟩ := hrel
          have HBw : Hid (Below w.heap.size w wr) := hidI (HB3.out.trans (HBz.out.mono HB3.out.size))
          cases gk with
          | zero =>
            obtain rfl : m = i := by omega
            have k7 : decide ((m : Int) < (m : Int)) = false := by simp
            have HTR : Hid (wr.ownsRow w3.heap.size 48 3 v10 m (flatM (turnRow k row))) := hidI (by
              have h := HOz.out
              rw [List.take_of_length_le (by have := HPL.out; omega), HPS.out] at h
              unfold turnRow
              rw [HRowL.out]
              exact h)
            have HOo : Hid (wr.ownsRow w.heap.size 48 3 v5 no (flatM out)) := hidI (own_below (own_below HO.out HB3q.out (Nat.le_refl _)) HBz.out (Nat.le_refl _))
            have HTL : Hid ((turnRow k row).length = m) := hidI (by have h := HTR.out.1; rw [flatM_length] at h; omega)
            have hz1 := HBz.out.size
            have hz2 := HBw.out.size
            clear HOz
            by_cases hodd : k % 2 = 1
            · have o1 : (k : Int) % 2 = 1 := by omega
              have HNX : Hid (turnM k xs = turnA k g (turnRow k row ++ out) ((xs.drop from_).drop 16)) := hidI (by rw [HT.out, turnA, if_pos hodd, HRow.out])
              go_wp2_with (at_builtin; go_must (refine wpList_append_any Try.underlying22 Try.info48 rfl (by decide) (by decide) rfl _ _ rfl w3.heap.size _ m _ rfl HTR.out _ no (flatM out) rfl (seesC_of_owns HOo.out) flatM_cells (by omega) hz1 ?_); intro v9 w9 hown9 hgrow9 _; refine Hid.out ?_)
              refine hidI ?_
              have HB9 : Hid (Below w.heap.size w w9) := hidI (Below.grown HBw.out hgrow9 hz2 (fun q hq => by have := (HTR.out.lt q hq).1; omega))
              have HO9 : Hid (w9.ownsRow w.heap.size 48 3 v9 (m + no) (flatM (turnRow k row ++ out))) := hidI (by rw [flatM_append]; exact Joins.ownsRow_le hown9 (by omega))
              clear hown9 hgrow9
              go_wp2
              go_roundg g
              case measure => omega
              case rel => exact ⟨j + 1, from_ + 16, m + no, turnRow k row ++ out, v9, by omega, hidI (by have := HI.out; omega), rfl, by go_num, by have := HI.out; omega, HB9, HO9, hidI (by rw [HNX.out, List.drop_drop])⟩
            · have o1 : ¬ (k : Int) % 2 = 1 := by omega
              have o2 : ((k : Int) % 2 == 1) = false := by simpa using o1
              have HNX : Hid (turnM k xs = turnA k g (out ++ turnRow k row) ((xs.drop from_).drop 16)) := hidI (by rw [HT.out, turnA, if_neg hodd, HRow.out])
              go_wp2_with (at_builtin; go_must (refine wpList_append_any Try.underlying22 Try.info48 rfl (by decide) (by decide) rfl _ _ rfl w.heap.size _ no _ rfl HOo.out _ m (flatM (turnRow k row)) rfl (seesC_of_owns HTR.out) flatM_cells (by omega) hz2 ?_); intro v9 w9 hown9 hgrow9 _; refine Hid.out ?_)
              refine hidI ?_
              have HB9 : Hid (Below w.heap.size w w9) := hidI (Below.grown HBw.out hgrow9 hz2 (fun q hq => (HOo.out.lt q hq).1))
              have HO9 : Hid (w9.ownsRow w.heap.size 48 3 v9 (no + m) (flatM (out ++ turnRow k row))) := hidI (by rw [flatM_append]; exact hown9)
              clear hown9 hgrow9
              go_wp2
              go_roundg g
              case measure => omega
              case rel => exact ⟨j + 1, from_ + 16, no + m, out ++ turnRow k row, v9, by omega, hidI (by have := HI.out; omega), rfl, by go_num, by have := HI.out; omega, HB9, HO9, hidI (by rw [HNX.out, List.drop_drop])⟩
          | succ g2 =>
            have k7 : (i : Int) < (m : Int) := by omega
            obtain ⟨z, hz⟩ : ∃ z, ps[i]? = some z := ⟨_, List.getElem?_eq_getElem (by have := HPL.out; omega)⟩
            have hzb := HPB.out z (List.mem_of_getElem? hz)
            obtain ⟨q, rfl⟩ : ∃ q : Nat, z = (q : Int) := ⟨z.toNat, by omega⟩
            have hqm : q < m := by omega
            have hzb1 : (q : Int) < (m : Int) := by omega
            obtain ⟨x, hx⟩ : ∃ x, row[q]? = some x := ⟨_, List.getElem?_eq_getElem (by have := HRowL.out; omega)⟩
            obtain ⟨x0, x1, x2⟩ := HRowC.out wr HBw.out q x hx
            have HTk : Hid (flatM ((ps.take (i + 1)).map fun j => row.getD j.toNat default) = flatM ((ps.take i).map fun j => row.getD j.toNat default) ++ x.cells) := hidI (by
              rw [List.take_add_one, hz, List.map_append, flatM_append]
              simp [List.getD, hx, flatM_one])
            obtain ⟨b3, o3, rfl, c3⟩ : ∃ b3 o3, pa = some ⟨b3, o3, none⟩ ∧ w3.cell? ⟨b3, o3 + i, none⟩ = some (.int .i64 (q : Int)) := by
              rcases HSee.out with h0 | ⟨b3, o3, rfl, h3⟩
              · rw [h0] at hz; simp at hz
              · refine ⟨b3, o3, rfl, ?_⟩
                have := h3 i (by have := HPL.out; omega)
                rw [show ps.getD i 0 = (q : Int) by simp [List.getD, hz]] at this
                exact this
            have c3r : wr.cell? ⟨b3, o3 + i, none⟩ = some (.int .i64 (q : Int)) := (HBz.out.cell (World.block_lt_of_cell? w3 _ c3)).trans c3
            clear hz hx hzb c3
            have HOA := hidI (World.ownsRow.alloc HOz.out (.cells #[.int .i64 x.to, .int .i64 x.tag, .int .i64 x.val] 48))
            have HSM := hidI (msg_seen (W := wr) x)
            have hz1 := HBz.out.size
            go_wp2_with (at_builtin; go_must (refine wpList_append_any Try.underlying22 Try.info48 rfl (by decide) (by decide) rfl _ _ rfl w3.heap.size _ i _ rfl HOA.out _ 1 x.cells rfl HSM.out (cells_one x) (by omega) (by simp; omega) ?_); intro v9 w9 hown9 hgrow9 _; refine Hid.out ?_)
            refine hidI ?_
            have HB9 : Hid (Below w3.heap.size w3 w9) := hidI (Below.grown (HBz.out.alloc hz1 _) hgrow9 (by simp; omega) (fun k hk => (HOA.out.lt k hk).1))
            rw [← HTk.out] at hown9
            have HO9 := hidI hown9
            clear hown9 hgrow9 HOA HSM
            go_wp2
            go_roundg g2
            case measure => omega
            case rel => exact ⟨i + 1, v9, rfl, by omega, by go_num, HB9, HO9⟩
end Go.Proofs.Ytdfieflcclbgjaa
