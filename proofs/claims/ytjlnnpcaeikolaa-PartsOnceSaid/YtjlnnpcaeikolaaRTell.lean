/-
  The document's parts: what they tell.
-/
import Derived.Test.YtjlnnpcaeikolaaRParts
namespace Go.Proofs.Ytjlnnpcaeikolaa
open Go.RowKit Go.Deep
theorem rworkers_any (rp : Option Addr) (n k : Nat) (wk : Nat → Nat) (w : World) (h : IsR w rp n k wk) : Calls Try.prog 20 #[.pointer rp] w fun e w' => e = .returned (.int .i64 (k : Int)) ∧ w = w' := by
  rcases h with ⟨rfl, _, rfl⟩ | ⟨rb, v, rfl, _, c0, c1, _⟩
  · go_enter Try.func20, Try.ntmps20
    go_wp2
    go_ret
    exact ⟨rfl, rfl⟩
  · go_enter Try.func20, Try.ntmps20
    go_wp2
    go_ret
    exact ⟨rfl, rfl⟩
theorem rnodes_any (rp : Option Addr) (n k : Nat) (wk : Nat → Nat) (w : World) (h : IsR w rp n k wk) : Calls Try.prog 22 #[.pointer rp] w fun e w' => e = .returned (.int .i64 (n : Int)) ∧ w = w' := by
  rcases h with ⟨rfl, rfl, _⟩ | ⟨rb, v, rfl, _, c0, c1, a, cap, rfl, _⟩
  · go_enter Try.func22, Try.ntmps22
    go_wp2
    go_ret
    exact ⟨rfl, rfl⟩
  · rw [ofL_length] at c1
    go_enter Try.func22, Try.ntmps22
    go_wp2
    go_ret
    exact ⟨rfl, rfl⟩
set_option maxRecDepth 100000 in
theorem rof_any (rp : Option Addr) (n k : Nat) (wk : Nat → Nat) (z : Int) (w : World) (h : IsR w rp n k wk) : Calls Try.prog 12 #[.pointer rp, .int .i64 z] w fun e w' => e = .returned (.int .i64 (ofP n wk z)) ∧ w = w' := by
  rcases h with ⟨rfl, rfl, _⟩ | ⟨rb, v, rfl, hm, c0, c1, a, cap, rfl, hs⟩
  · have hr : ofP 0 wk z = -1 := by unfold ofP; rw [if_neg (by omega)]
    rw [hr]
    clear hr
    go_enter Try.func12, Try.ntmps12
    go_wp2
    go_ret
    exact ⟨rfl, rfl⟩
  · rw [ofL_length] at c1 hs
    by_cases h1 : z < 0
    · have hr : ofP n wk z = -1 := by unfold ofP; rw [if_neg (by omega)]
      rw [hr]
      clear hr hs hm
      go_enter Try.func12, Try.ntmps12
      go_wp2
      go_ret
      exact ⟨rfl, rfl⟩
    · have d1 : decide (z < 0) = false := by simp; omega
      obtain ⟨m, rfl⟩ : ∃ m : Nat, z = m := ⟨z.toNat, by omega⟩
      by_cases h2 : (n : Int) ≤ (m : Int)
      · have hr : ofP n wk m = -1 := by unfold ofP; rw [if_neg (by omega)]
        have h3 : n ≤ m := by omega
        rw [hr]
        clear hr hs hm h1
        go_enter Try.func12, Try.ntmps12
        go_wp2
        go_ret
        exact ⟨rfl, rfl⟩
      · have d2 : decide ((n : Int) ≤ (m : Int)) = false := by simp; omega
        have d3 : decide (n ≤ m) = false := by simp; omega
        have hmn : m < n := by omega
        have hmn2 : (m : Int) < (n : Int) := by omega
        have hr : ofP n wk m = (wk m : Int) := by unfold ofP; rw [if_pos (by omega)]; simp
        rw [hr]
        rcases hs with h0 | ⟨b, off, rfl, hc⟩
        · have := ofL_length n wk; rw [h0] at this; simp at this; omega
        have cm := hc m hmn
        rw [ofL_get hmn] at cm
        clear hr hc hm h1 h2
        go_enter Try.func12, Try.ntmps12
        go_wp2
        go_ret
        exact ⟨rfl, rfl⟩
/-- The nodes of a worker, whatever number it has. -/
def memZ (n : Nat) (wk : Nat → Nat) (z : Int) : List Int := ((List.range n).filter fun (v : Nat) => decide ((wk v : Int) = z)).map fun (v : Nat) => (v : Int)
theorem memZ_length (n : Nat) (wk : Nat → Nat) (z : Int) : (memZ n wk z).length ≤ n := by
  unfold memZ
  rw [List.length_map]
  exact Nat.le_trans (List.length_filter_le _ _) (by simp)
theorem memZ_same {v : Nat} {wk : Nat → Nat} {z : Int} (h : (wk v : Int) = z) : memZ (v + 1) wk z = memZ v wk z ++ [(v : Int)] := by simp [memZ, List.range_succ, h]
theorem memZ_other {v : Nat} {wk : Nat → Nat} {z : Int} (h : (wk v : Int) ≠ z) : memZ (v + 1) wk z = memZ v wk z := by simp [memZ, List.range_succ, h]
theorem memZ_eq {n k : Nat} {wk : Nat → Nat} (hk : ∀ v, v < n → wk v < k) (z : Int) : memZ n wk z = memI n k wk z := by
  unfold memI
  split
  · rename_i h
    unfold memZ mem
    congr 1
    apply List.filter_congr
    intro v _
    have : ((wk v : Int) = z) ↔ (wk v = z.toNat) := by omega
    simp [this]
  · rename_i h
    unfold memZ
    rw [List.map_eq_nil_iff, List.filter_eq_nil_iff]
    intro v hv
    have := hk v (List.mem_range.1 hv)
    simp
    omega
set_option maxRecDepth 100000 in
set_option maxHeartbeats 2000000 in
theorem rmembers_any (rp : Option Addr) (n k : Nat) (wk : Nat → Nat) (z : Int) (w : World) (h : IsR w rp n k wk) :
    Calls Try.prog 15 #[.pointer rp, .int .i64 z] w fun e w' => ∃ v, e = .returned v ∧ Sees w' v (memZ n wk z) ∧ Below w.heap.size w w' := by
  obtain ⟨i0, hi, hz0, hz1, hz2⟩ := info_parts Try.info3
  rcases h with ⟨rfl, rfl, _⟩ | ⟨rb, v, rfl, hm, c0, c1, a, cap, rfl, hs⟩
  · go_enter Try.func15, Try.ntmps15
    go_wp2
    refine wp_loop_rounds 1 ?_
    rw [rounds_succ]
    go_wp2
    go_ret
    exact ⟨_, rfl, ⟨none, 0, rfl, .inl rfl⟩, Below.refl _ _⟩
  · rw [ofL_length] at c1 hs
    have hbw := World.block_lt_of_cell? w _ c1
    have HS := hidI hs
    have HC1 := hidI c1
    clear hs c0 c1
    go_enter Try.func15, Try.ntmps15
    go_wp2
    go_loopg [5, 6] n (fun g s5 s6 wr => ∃ (i : Nat), i + g = n ∧ s6 = .int .i64 i ∧ wr.ownsRow w.heap.size 3 1 s5 (memZ i wk z).length ((memZ i wk z).map (Value.int .i64)) ∧ Below w.heap.size w wr)
    case atStart => exact ⟨0, by omega, rfl, World.ownsRow_nil _ _ _ _, Below.refl _ _⟩
    case round =>
      obtain ⟨i, hig, rfl, hown, hbl⟩ := hrel
      have HO := hidI hown
      have HB := hidI hbl
      have c1 : wr.cell? ⟨rb, 1, none⟩ = some (.slice a n cap) := (hbl.cell (p := ⟨rb, 1, none⟩) hbw).trans HC1.out
      cases gk with
      | zero =>
        have hin : i = n := by omega
        subst hin
        clear hown hbl
        go_wp2
        go_ret
        exact ⟨_, rfl, sees_of_owns HO.out, HB.out⟩
      | succ g =>
        have hin : i < n := by omega
        have hin2 : (i : Int) < (n : Int) := by omega
        rcases HS.out with h0 | ⟨b, off, rfl, hc⟩
        · have := ofL_length n wk; rw [h0] at this; simp at this; omega
        have hbb : b < w.heap.size := World.block_lt_of_cell? w _ (hc i hin)
        have ci : wr.cell? ⟨b, off + i, none⟩ = some (.int .i64 (wk i : Int)) := by
          rw [hbl.cell (p := ⟨b, off + i, none⟩) hbb, hc i hin, ofL_get hin]
        have hml := memZ_length i wk z
        have hsz := hbl.size
        obtain ⟨q, hq⟩ : ∃ q, wk i = q := ⟨_, rfl⟩
        rw [hq] at ci
        have HQ := hidI hq
        have QO : Hid ((wr.alloc (.cells #[.int .i64 (i : Int)] 3)).ownsRow w.heap.size 3 1 u5 (memZ i wk z).length ((memZ i wk z).map (Value.int .i64))) := hown.alloc _
        have H63 : Hid ((memZ i wk z).length + 1 ≤ maxLen) := hidI (by unfold maxLen; omega)
        clear hc hq hown hbl
        by_cases hqz : (q : Int) = z
        · have HE := hidI (memZ_same (v := i) (wk := wk) (z := z) (by rw [HQ.out]; exact hqz))
          subst hqz
          go_wp2_with (at_builtin; refine wpList_append_lies _ rfl _ _ 23 rfl w.heap.size 3 i0 (.int .i64 0) 1 8 Try.underlying23 hi hz0 hz1 hz2 rfl (by decide) u5 _ _ rfl QO.out ⟨wr.heap.size, 0, none⟩ 1 1 [.int .i64 (i : Int)] rfl rfl (one_new _ _ _) (by simp [Value.oneCell']) (by decide) H63.out (by omega) (by simp; omega) _ rfl ?_; intro gq cp W3 h1 h2 _ _; have Z1 := hidI h1; have Z2 := hidI h2; clear h1 h2; refine Hid.out ?_)
          refine hidI ?_
          go_wp2
          go_roundg g
          case measure => omega
          case rel =>
            refine ⟨i + 1, by omega, by go_num, ?_, (HB.out.alloc hsz _).grown Z2.out (by simp; omega) fun j ej => (HO.out.lt j ej).1⟩
            rw [HE.out, List.length_append, List.map_append]
            exact Z1.out
        · have HE := hidI (memZ_other (v := i) (wk := wk) (z := z) (by rw [HQ.out]; exact hqz))
          have hd : ((q : Int) == z) = false := by simp [hqz]
          have hd2 : decide ((q : Int) = z) = false := by simp [hqz]
          go_wp2
          go_roundg g
          case measure => omega
          case rel => exact ⟨i + 1, by omega, by go_num, by rw [HE.out]; exact HO.out, HB.out⟩
end Go.Proofs.Ytjlnnpcaeikolaa
