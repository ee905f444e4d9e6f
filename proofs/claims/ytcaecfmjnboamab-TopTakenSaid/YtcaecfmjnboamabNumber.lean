/-
  The call of perm.Number: what it comes to.
-/
import Derived.Test.YtcaecfmjnboamabFrom
namespace Go.Proofs.Ytcaecfmjnboamab
open Go.RowKit Go.Deep
theorem number_not (v : Value) (zs : List Int) (w : World) (h : Sees w v zs) (hr : rightB zs = false) :
    Calls Try.prog 11 #[v] w fun e w' => e = .returned (.tuple #[.int .u64 0, .int .i64 3]) ∧ Below w.heap.size w w' := by
  have c := right_any v zs w h
  rw [hr] at c
  obtain ⟨a, cap, rfl, _, _⟩ := h
  have C := Hid.out (p := Calls _ _ _ _ _) c
  go_enter Try.func11, Try.ntmps11
  go_wp2_with (go_at_call 16; refine C.mono ?_; rintro e w1 ⟨rfl, hb1⟩)
  go_ret2
  exact ⟨rfl, hb1⟩
theorem rightF_step {len i : Nat} {zs : List Int} (hi : i < zs.length) {sn : List Bool} (h : rightF len sn (zs.drop i) = true) :
    ∃ j : Nat, zs.getD i 0 = (j : Int) ∧ j < len ∧ sn.getD j false = false ∧ rightF len (sn.set j true) (zs.drop (i + 1)) = true := by
  rw [rightF_drop hi] at h
  split at h
  · cases h
  · rename_i hn
    refine ⟨(zs.getD i 0).toNat, by omega, by omega, ?_, h⟩
    cases hx : sn.getD (zs.getD i 0).toNat false
    · rfl
    · exact absurd (Or.inr (Or.inr hx)) hn
theorem numL_step {i j : Nat} {zs : List Int} (hi : i < zs.length) (hj : zs.getD i 0 = (j : Int)) (sn : List Bool) :
    numL sn (zs.drop i) = below sn j * fac (zs.length - (i + 1)) + numL (sn.set j true) (zs.drop (i + 1)) := by
  have e : zs.getD i 0 = zs[i] := by simp [List.getD, hi]
  rw [e] at hj
  rw [List.drop_eq_getElem_cons hi, numL, hj, List.length_drop, Int.toNat_natCast]
theorem step_le {m a l c : Nat} (h : m ≤ a + l * c) : m ≤ a + (l + 1) * c := by rw [Nat.add_mul]; omega
set_option maxHeartbeats 2000000 in
theorem number_walk (b off len cap : Nat) (zs : List Int) (w : World) (h : len ≤ 16) (hz : zs.length = len) (hr : rightF len none16 zs = true)
    (hc : ∀ j, j < len → w.cell? ⟨b, off + j, none⟩ = some (.int .i64 (zs.getD j 0))) (hbw : b < w.heap.size) :
    Calls Try.prog 11 #[.slice (some ⟨b, off, none⟩) len cap] w fun e w' => e = .returned (.tuple #[.int .u64 (numL none16 zs), .int .i64 0]) ∧ Below w.heap.size w w' := by
  have c := right_walk b off len cap zs w h hz hc
  rw [hr] at c
  have C : Hid _ := c
  have HC : Hid (∀ j, j < len → w.cell? ⟨b, off + j, none⟩ = some (.int .i64 (zs.getD j 0))) := hc
  have HR : Aside (rightF len none16 zs = true) := hr
  clear c hc hr
  go_enter Try.func11, Try.ntmps11
  go_wp2_with (go_at_call 16; refine Calls.mono C.out ?_; rintro e w1 ⟨rfl, hb1⟩)
  go_loopg [4, 14] len (fun g s4 s14 wx => ∃ (i nm : Nat) (sn : List Bool), i + g = len ∧ s14 = .int .i64 i ∧ s4 = .int .u64 nm ∧ nm ≤ i * 334764638208000 ∧ sn.length = 16 ∧ Seen wx w1.heap.size sn ∧
      Aside (nm + numL sn (zs.drop i) = numL none16 zs) ∧ Aside (rightF len sn (zs.drop i) = true) ∧ Below w.heap.size w wx)
  case atStart => exact ⟨0, 0, none16, by omega, rfl, rfl, by omega, rfl, seen_new w1, by show _ = _; simp, HR, hb1.alloc hb1.size _⟩
  case round =>
    obtain ⟨i, nm, sn, hig, rfl, rfl, hnm, hsl, hsn, HN, HF, hb⟩ := hrel
    cases gk with
    | zero =>
      have hin : i = len := by omega
      have E : Aside (nm = numL none16 zs) := by
        show nm = numL none16 zs
        have := HN.out
        rw [hin, List.drop_of_length_le (by omega)] at this
        simpa [numL] using this
      subst hin
      go_wp2
      go_ret2
      exact ⟨by rw [← E.out]; rfl, hb⟩
    | succ g =>
      have hlt : i < len := by omega
      obtain ⟨j, hj, hjl, hsj, hF'⟩ := rightF_step (by omega) HF.out
      have hN' := numL_step (by omega) hj sn
      have hgl : zs.length - (i + 1) = g := by omega
      rw [hgl] at hN'
      have hcell : wr.cell? ⟨b, off + i, none⟩ = some (.int .i64 (j : Int)) := by rw [← hj]; exact (hb.cell (p := ⟨b, off + i, none⟩) hbw).trans (HC.out i hlt)
      have A : Aside (numL sn (zs.drop i) = below sn j * fac g + numL (sn.set j true) (zs.drop (i + 1)) ∧ rightF len (sn.set j true) (zs.drop (i + 1)) = true ∧ sn.getD j false = false) := ⟨hN', hF', hsj⟩
      clear hN' hF' hsj hj hgl
      have eg : (len : Int) - 1 - (i : Int) = (g : Int) := by omega
      have hFl := fac_le g (by omega)
      have hj16 : j < 16 := by omega
      go_wp2
      go_loopg [4, 20] j (fun g2 s4 s20 wy => ∃ (l m : Nat), l + g2 = j ∧ s20 = .int .i64 l ∧ s4 = .int .u64 m ∧ Aside (m = nm + below sn l * fac g) ∧ m ≤ nm + l * 20922789888000 ∧ wr = wy)
      case atStart => exact ⟨0, nm, by omega, rfl, rfl, by show _ = _; simp [below], by omega, rfl⟩
      case round =>
        obtain ⟨l, m, hlg, rfl, rfl, HM, hmb, rfl⟩ := hrel
        cases gk with
        | zero =>
          have hlj : l = j := by omega
          subst hlj
          have hsfr := World.rowIs.frozen hsn l
          have hsc := World.rowIs.cell hsn hj16
          have hsnS := Seen.put hsn hsl l hj16
          have hbS := hb.setCell (p := ⟨w1.heap.size, l, none⟩) (by show _ ≤ w1.heap.size; exact hb1.size) (.bool true)
          go_wp2
          go_roundg g
          case measure => omega
          case rel => exact ⟨i + 1, m, sn.set l true, by omega, by go_num, rfl, by omega, by simpa using hsl, hsnS, by show _ = _; rw [HM.out, ← HN.out, A.out.1]; omega, A.out.2.1, hbS⟩
        | succ g2 =>
          have hl : l < j := by omega
          have hl16 : l < 16 := by omega
          have hsc := World.rowIs.cell hsn hl16
          cases hsv : sn.getD l false
          · rw [hsv] at hsc
            have HSV : Aside (sn.getD l false = false) := hsv
            clear hsv
            go_wp2_with (go_at_call 18; refine (many_in g _ (by omega)).mono ?_; rintro e w' ⟨rfl, rfl⟩)
            go_roundg g2
            case measure => omega
            case rel => exact ⟨l + 1, m + fac g, by omega, by go_num, by go_num, by show _ = _; rw [below_free HSV.out, HM.out, Nat.add_mul]; omega, by omega, rfl⟩
          · rw [hsv] at hsc
            have HSV : Aside (sn.getD l false = true) := hsv
            clear hsv
            go_wp2
            go_roundg g2
            case measure => omega
            case rel => exact ⟨l + 1, m, by omega, by go_num, rfl, HM.out.trans (by rw [below_seen HSV.out]), step_le hmb, rfl⟩
theorem number_empty (a : Option Addr) (cap : Nat) (w : World) :
    Calls Try.prog 11 #[.slice a 0 cap] w fun e w' => e = .returned (.tuple #[.int .u64 0, .int .i64 0]) ∧ Below w.heap.size w w' := by
  have C : Hid _ := right_empty a cap w
  go_enter Try.func11, Try.ntmps11
  go_wp2_with (go_at_call 16; refine Calls.mono C.out ?_; rintro e w1 ⟨rfl, hb1⟩)
  refine wp_loop_rounds 1 ?_
  rw [rounds_succ]
  go_wp2
  go_ret2
  exact ⟨rfl, hb1.alloc hb1.size _⟩
def numW (zs : List Int) : Nat := if rightB zs = true then numL none16 zs else 0
def numE (zs : List Int) : Int := if rightB zs = true then 0 else 3
theorem number_any (v : Value) (zs : List Int) (w : World) (h : Sees w v zs) :
    Calls Try.prog 11 #[v] w fun e w' => e = .returned (.tuple #[.int .u64 (numW zs), .int .i64 (numE zs)]) ∧ Below w.heap.size w w' := by
  unfold numW numE
  cases hr : rightB zs
  · exact number_not v zs w h hr
  · rw [if_pos rfl, if_pos rfl]
    unfold rightB at hr
    rw [Bool.and_eq_true] at hr
    obtain ⟨h16, hf⟩ := hr
    have h16 : zs.length ≤ 16 := of_decide_eq_true h16
    obtain ⟨a, cap, rfl, _, h⟩ := h
    rcases h with rfl | ⟨b, off, rfl, hc⟩
    · exact number_empty a cap w
    · by_cases h0 : zs.length = 0
      · have := List.eq_nil_of_length_eq_zero h0
        subst this
        exact number_empty _ cap w
      · exact number_walk b off zs.length cap zs w h16 rfl hf hc (World.block_lt_of_cell? w _ (hc 0 (by omega)))
end Go.Proofs.Ytcaecfmjnboamab
