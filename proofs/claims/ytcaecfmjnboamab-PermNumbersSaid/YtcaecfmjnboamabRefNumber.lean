/-
  The call of the document's Number: what it comes to.
-/
import Derived.Test.YtcaecfmjnboamabRefRight
import Derived.Test.YtcaecfmjnboamabNumber
namespace Go.Proofs.Ytcaecfmjnboamab
open Go.RowKit Go.Deep
/-- How many of a list are less than v. -/
def cntLess (v : Int) : List Int → Nat
  | [] => 0
  | u :: r => (if u < v then 1 else 0) + cntLess v r
theorem cnt_below {n : Nat} : ∀ {l : List Int} {sn : List Bool}, sn.length = 16 → n ≤ 16 → rightF n sn l = true → below sn n = l.length → ∀ v, v ≤ n → below sn v = cntLess (v : Int) l
  | [], sn, _, _, _, hb, v, hv => by
    have := below_mono sn hv
    simp at hb
    simp only [cntLess]
    omega
  | u :: r, sn, hs, hn, h, hb, v, hv => by
    simp only [rightF] at h
    split at h
    · cases h
    · rename_i hc
      have hul : u.toNat < sn.length := by omega
      have hfree : sn.getD u.toNat false = false := by
        cases hx : sn.getD u.toNat false
        · rfl
        · exact absurd (Or.inr (Or.inr hx)) hc
      have hb' : below (sn.set u.toNat true) n = r.length := by
        rw [below_set hul hfree, if_pos (by omega), hb]; rfl
      have ih := cnt_below (by simpa using hs) hn h hb' v hv
      rw [below_set hul hfree] at ih
      simp only [cntLess]
      by_cases hlt : u.toNat < v
      · rw [if_pos hlt] at ih
        have := below_lt hlt hfree
        rw [if_pos (by omega), ← ih]
        omega
      · rw [if_neg hlt] at ih
        rw [if_neg (by omega), ← ih, Nat.zero_add]
theorem cnt_drop {zs : List Int} {k : Nat} (hk : k < zs.length) (v : Int) : cntLess v (zs.drop k) = (if zs.getD k 0 < v then 1 else 0) + cntLess v (zs.drop (k + 1)) := by
  have e : zs.getD k 0 = zs[k] := by simp [List.getD, hk]
  rw [List.drop_eq_getElem_cons hk, cntLess, e]
theorem refNumber_not (v : Value) (zs : List Int) (w : World) (h : Sees w v zs) (hr : rightB zs = false) :
    Calls Try.prog 13 #[v] w fun e w' => e = .returned (.tuple #[.int .u64 0, .int .i64 3]) ∧ Below w.heap.size w w' := by
  have C := refRight_any v zs w h
  rw [hr] at C
  have c : Hid _ := C
  clear C
  go_enter Try.func13, Try.ntmps13
  go_wp2_with (go_at_call 17; refine Calls.mono c.out ?_; rintro e w1 ⟨rfl, rfl⟩)
  go_ret2
  exact ⟨rfl, Below.refl _ _⟩
theorem refNumber_empty (a : Option Addr) (cap : Nat) (w : World) :
    Calls Try.prog 13 #[.slice a 0 cap] w fun e w' => e = .returned (.tuple #[.int .u64 0, .int .i64 0]) ∧ Below w.heap.size w w' := by
  have c : Hid _ := refRight_empty a cap w
  go_enter Try.func13, Try.ntmps13
  go_wp2_with (go_at_call 17; refine Calls.mono c.out ?_; rintro e w1 ⟨rfl, rfl⟩)
  refine wp_loop_rounds 1 ?_
  rw [rounds_succ]
  go_wp2
  go_ret2
  exact ⟨rfl, Below.refl _ _⟩
set_option maxHeartbeats 2000000 in
theorem refNumber_walk (b off len cap : Nat) (zs : List Int) (w : World) (hz : zs.length = len) (hr : rightB zs = true)
    (hc : ∀ j, j < len → w.cell? ⟨b, off + j, none⟩ = some (.int .i64 (zs.getD j 0))) (hpos : 0 < len) :
    Calls Try.prog 13 #[.slice (some ⟨b, off, none⟩) len cap] w fun e w' => e = .returned (.tuple #[.int .u64 (numL none16 zs), .int .i64 0]) ∧ Below w.heap.size w w' := by
  have h16 : len ≤ 16 := by rw [← hz]; exact (rightB_parts hr).1
  have hbw : b < w.heap.size := World.block_lt_of_cell? w _ (hc 0 hpos)
  have C := refRight_any (.slice (some ⟨b, off, none⟩) len cap) zs w ⟨_, cap, by rw [hz], by omega, .inr ⟨b, off, rfl, by rw [hz]; exact hc⟩⟩
  rw [hr] at C
  have c : Hid _ := C
  have HC : Hid (∀ j, j < len → w.cell? ⟨b, off + j, none⟩ = some (.int .i64 (zs.getD j 0))) := hc
  have HR : Aside (rightF len none16 zs = true) := by show _ = _; rw [← hz]; exact (rightB_parts hr).2
  clear C hc hr
  go_enter Try.func13, Try.ntmps13
  go_wp2_with (go_at_call 17; refine Calls.mono c.out ?_; rintro e w1 ⟨rfl, rfl⟩)
  go_loopg [4, 5] len (fun g s4 s5 wx => ∃ (i nm : Nat) (sn : List Bool), i + g = len ∧ s5 = .int .i64 i ∧ s4 = .int .u64 nm ∧ nm ≤ i * 334764638208000 ∧ sn.length = 16 ∧ Aside (below sn len = g) ∧
      Aside (nm + numL sn (zs.drop i) = numL none16 zs) ∧ Aside (rightF len sn (zs.drop i) = true) ∧ Below w.heap.size w wx)
  case atStart => exact ⟨0, 0, none16, by omega, rfl, rfl, by omega, rfl, below_none _, by show _ = _; simp, HR, Below.refl _ _⟩
  case round =>
    obtain ⟨i, nm, sn, hig, rfl, rfl, hnm, hsl, HBN, HN, HF, hb⟩ := hrel
    cases gk with
    | zero =>
      have hin : i = len := by omega
      have E : Aside (nm = numL none16 zs) := by
        show nm = numL none16 zs
        have := HN.out
        rw [hin, List.drop_of_length_le (by omega)] at this
        simpa [numL] using this
      subst hin
      go_wp2
      go_ret2
      exact ⟨by rw [← E.out]; rfl, hb⟩
    | succ g =>
      have hlt : i < len := by omega
      have hltI : (i : Int) < (len : Int) := by omega
      obtain ⟨j, hj, hjl, hjf, hnext⟩ := rightF_step (i := i) (by omega) HF.out
      have hnum := numL_step (by omega) hj sn
      rw [show zs.length - (i + 1) = g by omega] at hnum
      have hcnt : cntLess (j : Int) (zs.drop (i + 1)) = below sn j := by
        have h1 := cnt_below hsl h16 HF.out (by rw [HBN.out, List.length_drop]; omega) j (by omega)
        rw [cnt_drop (by omega), hj, if_neg (by omega), Nat.zero_add] at h1
        exact h1.symm
      have hbj := below_le sn j
      have hb' : below (sn.set j true) len = g := by
        rw [below_set (by omega) hjf, if_pos hjl, HBN.out]; omega
      have hci : wr.cell? ⟨b, off + i, none⟩ = some (.int .i64 (j : Int)) := by rw [hb.cell (p := ⟨b, off + i, none⟩) hbw, HC.out i hlt, hj]
      have HX : Aside (below (sn.set j true) len = g ∧ rightF len (sn.set j true) (zs.drop (i + 1)) = true ∧ numL sn (zs.drop i) = below sn j * fac g + numL (sn.set j true) (zs.drop (i + 1))) := ⟨hb', hnext, hnum⟩
      obtain ⟨L, hL⟩ : ∃ L, below sn j = L := ⟨_, rfl⟩
      rw [hL] at hcnt hbj HX
      have HCT : Aside _ := hcnt
      have HCI : Hid (w.cell? ⟨b, off + i, none⟩ = some (.int .i64 (j : Int))) := by show _ = _; rw [HC.out i hlt, hj]
      clear hb' hnext hnum hcnt hjf hj hL
      go_wp2
      go_loopg [6, 7] g (fun g2 s6 s7 wy => ∃ (k l : Nat), k + g2 = len ∧ s7 = .int .i64 k ∧ s6 = .int .i64 l ∧ i < k ∧ Aside (l + cntLess (j : Int) (zs.drop k) = L) ∧ l ≤ k ∧ Below w.heap.size w wy)
      case atStart => exact ⟨i + 1, 0, by omega, by go_num, rfl, by omega, by show _ = _; rw [HCT.out, Nat.zero_add], by omega, hb⟩
      case round =>
        clear hb hci
        obtain ⟨k, l, hkg, rfl, rfl, hik, HLK, hlk, hb⟩ := hrel
        cases gk with
        | zero =>
          have hkl : k = len := by omega
          have hlL : l = L := by
            have := HLK.out
            rw [hkl, List.drop_of_length_le (by omega)] at this
            simpa [cntLess] using this
          have eg : (len : Int) - 1 - (i : Int) = (g : Int) := by omega
          have hfl := Nat.le_trans (fac_mono (show g ≤ 15 by omega)) (show fac 15 ≤ 1307674368000 by decide)
          have hPb : L * fac g ≤ 16 * 1307674368000 := Nat.mul_le_mul (by omega) hfl
          obtain ⟨P, hP⟩ : ∃ P, L * fac g = P := ⟨_, rfl⟩
          have eP : (L : Int) * (fac g : Int) = (P : Int) := by rw [← hP]; simp
          have HX' : Aside (below (sn.set j true) len = g ∧ rightF len (sn.set j true) (zs.drop (i + 1)) = true ∧ (nm + P) + numL (sn.set j true) (zs.drop (i + 1)) = numL none16 zs) := ⟨HX.out.1, HX.out.2.1, by rw [← HN.out, HX.out.2.2, hP]; omega⟩
          rw [hP] at hPb
          clear hP
          subst hlL hkl
          go_wp2_with (go_at_call 19; refine (manyR_in g _ (by omega)).mono ?_; rintro e w' ⟨rfl, rfl⟩)
          go_roundg g
          case measure => omega
          case rel => exact ⟨i + 1, nm + P, sn.set j true, by omega, by go_num, by go_num, by omega, by simpa using hsl, HX'.out.1, HX'.out.2.2, HX'.out.2.1, hb⟩
        | succ g2 =>
          have hkl : (k : Int) < (len : Int) := by omega
          have hci : wr.cell? ⟨b, off + i, none⟩ = some (.int .i64 (j : Int)) := (hb.cell (p := ⟨b, off + i, none⟩) hbw).trans HCI.out
          have hck : wr.cell? ⟨b, off + k, none⟩ = some (.int .i64 (zs.getD k 0)) := (hb.cell (p := ⟨b, off + k, none⟩) hbw).trans (HC.out k (by omega))
          have hd := cnt_drop (zs := zs) (k := k) (by omega) (j : Int)
          obtain ⟨z, hzz⟩ : ∃ z, zs.getD k 0 = z := ⟨_, rfl⟩
          rw [hzz] at hck hd
          have HD : Aside _ := hd
          clear hd hzz
          by_cases hlz : z < (j : Int)
          · have HE : Aside ((l + 1) + cntLess (j : Int) (zs.drop (k + 1)) = L) := by
              show _ = _
              have h1 := HLK.out
              rw [HD.out, if_pos hlz] at h1
              omega
            go_wp2
            go_region
            go_wp2
            go_roundg g2
            case measure => omega
            case rel => exact ⟨k + 1, l + 1, by omega, by go_num, by go_num, by omega, HE, by omega, hb.drew⟩
          · have HE : Aside (l + cntLess (j : Int) (zs.drop (k + 1)) = L) := by
              show _ = _
              have h1 := HLK.out
              rw [HD.out, if_neg hlz] at h1
              omega
            have q : decide (z < (j : Int)) = false := by simp; omega
            go_wp2
            go_region
            go_wp2
            go_roundg g2
            case measure => omega
            case rel => exact ⟨k + 1, l, by omega, by go_num, rfl, by omega, HE, by omega, hb.drew⟩
theorem refNumber_any (v : Value) (zs : List Int) (w : World) (h : Sees w v zs) :
    Calls Try.prog 13 #[v] w fun e w' => e = .returned (.tuple #[.int .u64 (numW zs), .int .i64 (numE zs)]) ∧ Below w.heap.size w w' := by
  unfold numW numE
  cases hr : rightB zs
  · exact refNumber_not v zs w h hr
  · rw [if_pos rfl, if_pos rfl]
    obtain ⟨a, cap, rfl, _, h⟩ := h
    by_cases h0 : zs = []
    · subst h0
      exact refNumber_empty a cap w
    · rcases h with h1 | ⟨b, off, rfl, hc⟩
      · exact absurd h1 h0
      exact refNumber_walk b off zs.length cap zs w rfl hr hc (List.length_pos_iff.2 h0)
end Go.Proofs.Ytcaecfmjnboamab
