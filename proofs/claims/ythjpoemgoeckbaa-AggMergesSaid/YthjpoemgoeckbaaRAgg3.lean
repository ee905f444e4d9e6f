/-
  The document's Agg: Count, Clear, Whole, New.
-/
import Derived.Test.YthjpoemgoeckbaaRAgg2
namespace Go.Proofs.Ythjpoemgoeckbaa
open Go.RowKit Go.Deep Go.MapKept Go.Sort
def countR (rows : List (List Int)) : Nat := (rows.map List.length).sum
theorem count_take (rows : List (List Int)) (i : Nat) (r : List Int) (h : rows[i]? = some r) : countR (rows.take (i + 1)) = countR (rows.take i) + r.length := by
  unfold countR
  rw [List.take_add_one, h]
  simp
theorem rcount_nil (w : World) : Calls Try.prog 26 #[.pointer none] w fun e w' => e = .returned (.int .i64 0) ∧ w = w' := by
  go_enter Try.func26, Try.ntmps26
  go_wp2
  refine wp_loop_rounds 1 ?_
  rw [rounds_succ]
  go_wp2
  go_ret
  exact ⟨rfl, rfl⟩
set_option maxRecDepth 100000 in
set_option maxHeartbeats 1000000 in
theorem rcount_any {w : World} {N : Nat → Prop} {p o : Nat} {rows : List (List Int)} (h : RAg w N p o rows) (hn4 : rows.length ≤ 100) (hl : ∀ r ∈ rows, r.length ≤ 10000) : Calls Try.prog 26 #[.pointer (some ⟨p, 0, none⟩)] w fun e w' => e = .returned (.int .i64 (countR rows : Nat)) ∧ w = w' := by
  obtain ⟨lv, k1, vs, ⟨hvl, a, cap, rfl, hs⟩, _, hrows⟩ := h.c1
  have HS := hidI hs
  have HRows := hidI hrows
  have HL := hidI hl
  have HVL := hidI hvl
  obtain ⟨n, hn⟩ : ∃ n, rows.length = n := ⟨_, rfl⟩
  have HN := hidI hn
  rw [hn] at k1 hn4
  have HBd : Hid (∀ i, i ≤ n → countR (rows.take i) ≤ i * 10000) := hidI fun i hi => by
    induction i with
    | zero => simp [countR]
    | succ i ih =>
      obtain ⟨r, hr⟩ : ∃ r, rows[i]? = some r := ⟨_, List.getElem?_eq_getElem (by omega)⟩
      have h1 := ih (by omega)
      have h2 := hl r (List.mem_of_getElem? hr)
      rw [count_take rows i r hr]
      omega
  obtain ⟨R, hR⟩ : ∃ R, countR rows = R := ⟨_, rfl⟩
  have HR := hidI hR
  rw [hR]
  clear hs hrows hl hvl h hn hR
  go_enter Try.func26, Try.ntmps26
  go_wp2
  go_loopg [3, 4] n (fun g s3 s4 wx => ∃ (i c : Nat), i + g = n ∧ s3 = .int .i64 (c : Int) ∧ Hid (c = countR (rows.take i)) ∧ s4 = .int .i64 (i : Int) ∧ w = wx)
  case atStart => exact ⟨0, 0, by omega, rfl, hidI (by simp [countR]), rfl, rfl⟩
  case round =>
    obtain ⟨i, c, hig, rfl, HC, rfl, rfl⟩ := hrel
    have hc1 : c ≤ 1000000 := by have := HBd.out i (by omega); have := HC.out; omega
    cases gk with
    | zero =>
      obtain rfl : n = i := by omega
      have k7 : decide ((n : Int) < (n : Int)) = false := by simp
      go_wp2
      go_ret
      have hc := HC.out
      rw [List.take_of_length_le (by have := HN.out; omega), HR.out] at hc
      exact ⟨by rw [hc]; rfl, rfl⟩
    | succ g =>
      have k7 : (i : Int) < (n : Int) := by omega
      obtain ⟨r, hr⟩ : ∃ r, rows[i]? = some r := ⟨_, List.getElem?_eq_getElem (by have := HN.out; omega)⟩
      obtain ⟨v, hv⟩ : ∃ v, vs[i]? = some v := ⟨_, List.getElem?_eq_getElem (by have := HVL.out; have := HN.out; omega)⟩
      obtain ⟨⟨ra, rc, rfl, _, _⟩, _⟩ := HRows.out i v r hv hr
      have hrl := HL.out r (List.mem_of_getElem? hr)
      obtain ⟨lb, lo, rfl, hcell⟩ : ∃ lb lo, a = some ⟨lb, lo, none⟩ ∧ w.cell? ⟨lb, lo + i, none⟩ = some (.slice ra r.length rc) := by
        rcases HS.out with h0 | ⟨lb, lo, rfl, hc⟩
        · have := HN.out; omega
        · exact ⟨lb, lo, rfl, hc i _ hv⟩
      have HTK := hidI (count_take rows i r hr)
      obtain ⟨m, hm⟩ : ∃ m, r.length = m := ⟨_, rfl⟩
      rw [hm] at hcell HTK hrl
      clear hr hv hm
      go_wp2
      go_roundg g
      case measure => omega
      case rel => exact ⟨i + 1, c + m, by omega, by go_num, hidI (by rw [HTK.out, ← HC.out]), by go_num, rfl⟩
def wholeR (o : Nat) (rows : List (List Int)) (k : Nat) : Int := (fromL rows.length k).foldl (fun a j => opTwo o a (partR o (rows.getD j.toNat []))) (redW (o : Int))
set_option maxRecDepth 100000 in
set_option maxHeartbeats 1000000 in
theorem rwhole_any {w : World} {N : Nat → Prop} {p o : Nat} {rows : List (List Int)} (h : RAg w N p o rows) (k : Nat) (hk : k < 18446744073709551616) (hm : many5 o) (hn4 : rows.length ≤ 16) (hl : ∀ r ∈ rows, r.length ≤ 10000) : Calls Try.prog 25 #[.pointer (some ⟨p, 0, none⟩), .int .u64 (k : Int)] w fun e w' => e = .returned (.tuple #[.int .i64 (wholeR o rows k), .int .i64 0]) ∧ Below w.heap.size w w' := by
  have H := hidI h
  obtain ⟨lv, k1, vs, ⟨hvl, a, cap, rfl, hs⟩, _, hrows⟩ := h.c1
  have c0 := h.c0
  have hpw := h.lt
  have HL := hidI hl
  have HM := hidI hm
  obtain ⟨n, hn⟩ : ∃ n, rows.length = n := ⟨_, rfl⟩
  have HN := hidI hn
  rw [hn] at k1 hn4
  have CF := hidI (Perm.refFrom_walk n k w hn4 hk)
  obtain ⟨R, hR⟩ : ∃ R, wholeR o rows k = R := ⟨_, rfl⟩
  have HR := hidI hR
  rw [hR]
  have HC0 := hidI c0
  clear hs hrows hl hvl h hn hR hm
  go_enter Try.func25, Try.ntmps25
  go_wp2_with (first | (go_at_call 38; refine Calls.mono CF.out ?_; rintro e w3 ⟨pv, ps, rfl, hpl, hst, hsee, hb3⟩; refine Hid.out ?_))
  refine hidI ?_
  have HPS : Hid (ps = fromL n k) := hidI (from_is hst hpl)
  have HPB : Hid (∀ z ∈ ps, 0 ≤ z ∧ z < (n : Int)) := hidI fun z hz => by
    have : ∀ {l : List Int} {sn : List Bool} {q : Nat}, Perm.Steps n sn q l → ∀ z ∈ l, 0 ≤ z ∧ z < (n : Int) := by
      intro l
      induction l with
      | nil => intro sn q _ z hz; simp at hz
      | cons a r ih =>
        intro sn q h z hz
        obtain ⟨v, rfl, hv, _, _, hs⟩ := h
        rcases List.mem_cons.1 hz with rfl | hz
        · omega
        · exact ih hs z hz
    exact this hst z hz
  have HB3 := hidI hb3
  obtain ⟨pa, pc, rfl, _, hsee⟩ := hsee
  have HSee := hidI hsee
  have HPL := hidI hpl
  have c03 : w3.cell? ⟨p, 0, none⟩ = some (.int .u8 (o : Int)) := (hb3.cell (p := ⟨p, 0, none⟩) hpw).trans c0
  rw [hpl]
  clear hb3 hst hsee hpl CF c0 k1
  go_wp2_with (go_at_call 14; refine (reducesR_any _ _).mono ?_; rintro e w' ⟨rfl, rfl⟩)
  go_loopg [8, 10] n (fun g s8 s10 wx => ∃ (i : Nat) (acc : Int), i + g = n ∧ s8 = .int .i64 acc ∧ Hid (acc = (ps.take i).foldl (fun a j => opTwo o a (partR o (rows.getD j.toNat []))) (redW (o : Int))) ∧ s10 = .int .i64 (i : Int) ∧ Hid (Below w3.heap.size w3 wx))
  case atStart => exact ⟨0, _, by omega, rfl, hidI rfl, rfl, hidI (Below.refl _ _)⟩
  case round =>
    obtain ⟨i, acc, hig, rfl, HA, rfl, HBx⟩ := hrel
    clear c03
    have HBw : Hid (Below w.heap.size w wr) := hidI (HB3.out.trans (HBx.out.mono HB3.out.size))
    cases gk with
    | zero =>
      obtain rfl : n = i := by omega
      have k7 : decide ((n : Int) < (n : Int)) = false := by simp
      go_wp2
      go_ret2
      refine ⟨?_, HBw.out⟩
      have hy := HA.out
      rw [List.take_of_length_le (by have := HPL.out; omega), HPS.out] at hy
      have e : acc = R := by rw [hy, ← HR.out]; unfold wholeR; rw [HN.out]
      rw [e]
      rfl
    | succ g =>
      have k7 : (i : Int) < (n : Int) := by omega
      obtain ⟨z, hz⟩ : ∃ z, ps[i]? = some z := ⟨_, List.getElem?_eq_getElem (by have := HPL.out; omega)⟩
      have hzb := HPB.out z (List.mem_of_getElem? hz)
      obtain ⟨q, rfl⟩ : ∃ q : Nat, z = (q : Int) := ⟨z.toNat, by omega⟩
      obtain ⟨r, hr⟩ : ∃ r, rows[q]? = some r := ⟨_, List.getElem?_eq_getElem (by have := HN.out; omega)⟩
      obtain ⟨b3, o3, rfl, c3⟩ : ∃ b3 o3, pa = some ⟨b3, o3, none⟩ ∧ w3.cell? ⟨b3, o3 + i, none⟩ = some (.int .i64 (q : Int)) := by
        rcases HSee.out with h0 | ⟨b3, o3, rfl, h3⟩
        · rw [h0] at hz; simp at hz
        · refine ⟨b3, o3, rfl, ?_⟩
          have := h3 i (by have := HPL.out; omega)
          rw [show ps.getD i 0 = (q : Int) by simp [List.getD, hz]] at this
          exact this
      have c3r : wr.cell? ⟨b3, o3 + i, none⟩ = some (.int .i64 (q : Int)) := (HBx.out.cell (World.block_lt_of_cell? w3 _ c3)).trans c3
      have CP := hidI (rpart_any (H.out.below HBw.out (Nat.le_refl _)) q r hr HM.out (HL.out r (List.mem_of_getElem? hr)))
      have HTK : Hid ((ps.take (i + 1)).foldl (fun a j => opTwo o a (partR o (rows.getD j.toNat []))) (redW (o : Int)) = opTwo o ((ps.take i).foldl (fun a j => opTwo o a (partR o (rows.getD j.toNat []))) (redW (o : Int))) (partR o r)) := hidI (by rw [List.take_add_one, hz]; simp [List.getD, hr])
      obtain ⟨P, hP⟩ : ∃ P, partR o r = P := ⟨_, rfl⟩
      rw [hP] at CP HTK
      clear hz hr c3 hzb hP
      go_wp2_with (go_at_call 24; refine Calls.mono CP.out ?_; rintro e w5 ⟨rfl, hb5⟩; refine Hid.out ?_)
      refine hidI ?_
      have HB5 : Hid (Below w3.heap.size w3 w5) := hidI (HBx.out.trans (hb5.mono HBx.out.size))
      have HB5w : Hid (Below w.heap.size w w5) := hidI (HBw.out.trans (hb5.mono HBw.out.size))
      have c05 : w5.cell? ⟨p, 0, none⟩ = some (.int .u8 (o : Int)) := (HB5w.out.cell (p := ⟨p, 0, none⟩) hpw).trans HC0.out
      have CD := hidI (doR_many o HM.out (w5.alloc (.cells #[.int .i64 acc, .int .i64 P] 41)) acc P w5.heap.size 0 2 (by go_simp) (by go_simp))
      clear hb5 CP c3r
      go_wp2_with (go_at_call 37; refine Calls.mono CD.out ?_; rintro e w6 ⟨rfl, hb6⟩; refine Hid.out ?_)
      refine hidI ?_
      have HB6 : Hid (Below w3.heap.size w3 w6) := hidI ((HB5.out.alloc HB5.out.size _).trans (hb6.mono (by have := HB5.out.size; simp; omega)))
      clear hb6 CD c05
      go_wp2
      go_roundg g
      case measure => omega
      case rel => exact ⟨i + 1, opTwo o acc P, by omega, rfl, hidI (by rw [HTK.out, ← HA.out]), by go_num, HB6⟩
end Go.Proofs.Ythjpoemgoeckbaa
