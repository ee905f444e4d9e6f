/-
  The document's parts: what its New comes to.
-/
import Derived.Test.YtjlnnpcaeikolaaPMath
import Derived.Test.YtjlnnpcaeikolaaQSame
namespace Go.Proofs.Ytjlnnpcaeikolaa
open Go.RowKit Go.Deep
/-- Each node's worker. -/
def ofL (n : Nat) (wk : Nat → Nat) : List Int := (List.range n).map fun v => (wk v : Int)
theorem ofL_length (n : Nat) (wk : Nat → Nat) : (ofL n wk).length = n := by simp [ofL]
theorem ofL_get {n : Nat} {wk : Nat → Nat} {v : Nat} (h : v < n) : (ofL n wk).getD v 0 = (wk v : Int) := by simp [ofL, List.getD, h]
theorem ofL_succ (n : Nat) (wk : Nat → Nat) : ofL (n + 1) wk = ofL n wk ++ [(wk n : Int)] := by simp [ofL, List.range_succ]
def IsR (w : World) (rp : Option Addr) (n k : Nat) (wk : Nat → Nat) : Prop :=
  (rp = none ∧ n = 0 ∧ k = 0) ∨ ∃ rb v, rp = some ⟨rb, 0, none⟩ ∧ (1 ≤ n ∧ n ≤ 12 ∧ 1 ≤ k ∧ k ≤ 4) ∧ w.cell? ⟨rb, 0, none⟩ = some (.int .i64 (k : Int)) ∧ w.cell? ⟨rb, 1, none⟩ = some v ∧ Sees w v (ofL n wk)
theorem IsR.below {w w' : World} {rp : Option Addr} {n k B : Nat} {wk : Nat → Nat} (h : IsR w rp n k wk) (hb : Below B w w') (hB : w.heap.size ≤ B) : IsR w' rp n k wk := by
  rcases h with h | ⟨rb, v, rfl, h1, c0, c1, h3⟩
  · exact .inl h
  · have hl := World.block_lt_of_cell? w _ c0
    exact .inr ⟨rb, v, rfl, h1, (hb.cell (p := ⟨rb, 0, none⟩) (Nat.lt_of_lt_of_le hl hB)).trans c0, (hb.cell (p := ⟨rb, 1, none⟩) (Nat.lt_of_lt_of_le hl hB)).trans c1, h3.below hb hB⟩
theorem rnew_nil (n k : Int) (a : Option Addr) (l c : Nat) (w : World) (h : ¬ mayP n k) : Calls Try.prog 10 #[.int .i64 n, .int .i64 k, .slice a l c] w fun e w' => e = .returned (.pointer none) ∧ w = w' := by
  unfold mayP at h
  by_cases h1 : n < 1
  · clear h
    go_enter Try.func10, Try.ntmps10
    go_wp2
    go_ret
    exact ⟨rfl, rfl⟩
  · have d1 : decide (n < 1) = false := by simp; omega
    by_cases h2 : 12 < n
    · clear h
      go_enter Try.func10, Try.ntmps10
      go_wp2
      go_ret
      exact ⟨rfl, rfl⟩
    · have d2 : decide (12 < n) = false := by simp; omega
      by_cases h3 : k < 1
      · clear h
        go_enter Try.func10, Try.ntmps10
        go_wp2
        go_ret
        exact ⟨rfl, rfl⟩
      · have d3 : decide (k < 1) = false := by simp; omega
        have h4 : 4 < k := by omega
        clear h
        go_enter Try.func10, Try.ntmps10
        go_wp2
        go_ret
        exact ⟨rfl, rfl⟩
theorem tmod_cases (a k : Int) (hk : 0 < k) : (a.tmod k < 0 → a.tmod k + k = a % k) ∧ (0 ≤ a.tmod k → a.tmod k = a % k) := by
  have h1 := tmod_round a k hk
  have h2 := Int.lt_tmod_of_pos a hk
  have h3 := Int.tmod_lt_of_pos a hk
  obtain ⟨t, ht⟩ : ∃ t, a.tmod k = t := ⟨_, rfl⟩
  rw [ht] at h1 h2 h3 ⊢
  constructor
  · intro h
    have h4 : (t + k).tmod k = t + k := by rw [Int.tmod_eq_emod_of_nonneg (by omega), Int.emod_eq_of_lt (by omega) (by omega)]
    omega
  · intro h
    have h4 : (t + k).tmod k = t := by rw [Int.tmod_eq_emod_of_nonneg (by omega), Int.add_emod_right, Int.emod_eq_of_lt h h3]
    omega
set_option maxRecDepth 100000 in
set_option maxHeartbeats 4000000 in
theorem rnew_ok (n k : Nat) (hm : mayP n k) (v0 : Value) (bys : List Int) (w : World) (hv : Sees w v0 bys) :
    Calls Try.prog 10 #[.int .i64 (n : Int), .int .i64 (k : Int), v0] w fun e w' => ∃ rb, e = .returned (.pointer (some ⟨rb, 0, none⟩)) ∧ IsR w' (some ⟨rb, 0, none⟩) n k (wkOf k bys) ∧ Below w.heap.size w w' := by
  obtain ⟨i0, hi, hz0, hz1, hz2⟩ := info_parts Try.info3
  obtain ⟨m1, m2, m3, m4⟩ := hm
  obtain ⟨a, cap, rfl, hs⟩ := hv
  obtain ⟨L, hL⟩ : ∃ L, bys.length = L := ⟨_, rfl⟩
  rw [hL] at hs ⊢
  have HL := hidI hL
  have HS := hidI hs
  clear hL hs
  have d1 : decide ((n : Int) < 1) = false := by simp; omega
  have d2 : decide ((12 : Int) < (n : Int)) = false := by simp; omega
  have d3 : decide ((k : Int) < 1) = false := by simp; omega
  have d4 : decide ((4 : Int) < (k : Int)) = false := by simp; omega
  have e1 : decide (n < 1) = false := by simp; omega
  have e2 : decide (12 < n) = false := by simp; omega
  have e3 : decide (k < 1) = false := by simp; omega
  have e4 : decide (4 < k) = false := by simp; omega
  have HC0 : Hid ((w.alloc (.cells #[.int .i64 (k : Int), .slice none 0 0] 53)).cell? ⟨w.heap.size, 0, none⟩ = some (.int .i64 (k : Int))) := cell_pair0 _ _ _ _
  have HC1 : Hid ((w.alloc (.cells #[.int .i64 (k : Int), .slice none 0 0] 53)).cell? ⟨w.heap.size, 1, none⟩ = some (.slice none 0 0)) := cell_pair1 _ _ _ _
  have HF : Hid ((w.alloc (.cells #[.int .i64 (k : Int), .slice none 0 0] 53)).frozen? ⟨w.heap.size, 1, none⟩ = false) := hidI (by go_simp)
  have HB0 : Hid (Below w.heap.size w (w.alloc (.cells #[.int .i64 (k : Int), .slice none 0 0] 53))) := (Below.refl _ w).alloc (Nat.le_refl _) _
  go_enter Try.func10, Try.ntmps10
  go_wp2
  go_loopg [8] n (fun g s8 wr => ∃ (v : Nat) (u : Value), v + g = n ∧ s8 = .int .i64 v ∧ wr.cell? ⟨w.heap.size, 0, none⟩ = some (.int .i64 (k : Int)) ∧ wr.cell? ⟨w.heap.size, 1, none⟩ = some u ∧ wr.frozen? ⟨w.heap.size, 1, none⟩ = false ∧ wr.ownsRow (w.heap.size + 1) 3 1 u v ((ofL v (wkOf k bys)).map (Value.int .i64)) ∧ Below w.heap.size w wr)
  case atStart => exact ⟨0, _, by omega, rfl, HC0.out, HC1.out, HF.out, World.ownsRow_nil _ _ _ _, HB0.out⟩
  case round =>
    obtain ⟨v, u, hvg, rfl, c0, c1, cf, hown, hbl⟩ := hrel
    clear HC0 HC1 HF HB0
    have hszr : w.heap.size < wr.heap.size := World.block_lt_of_cell? wr _ c0
    have HO := hidI hown
    have HB := hidI hbl
    cases gk with
    | zero =>
      have hvn : v = n := by omega
      subst hvn
      have HC0 := hidI c0
      have HC1 := hidI c1
      clear c0 c1 cf hown hbl d1 d2 d3 d4 e1 e2 e3 e4
      go_wp2
      go_ret
      exact ⟨_, rfl, .inr ⟨_, u, rfl, ⟨by omega, by omega, by omega, by omega⟩, HC0.out, HC1.out, sees_of_owns (by rw [ofL_length]; exact HO.out)⟩, HB.out⟩
    | succ g =>
      have hvn : (v : Int) < (n : Int) := by omega
      obtain ⟨r, hr⟩ : ∃ r, wkOf k bys v = r := ⟨_, rfl⟩
      have hrk : r < k := by rw [← hr]; exact wkOf_lt (by omega) _ _
      have HR := hidI hr
      have QO : Hid ((wr.alloc (.cells #[.int .i64 (r : Int)] 3)).ownsRow (w.heap.size + 1) 3 1 u v ((ofL v (wkOf k bys)).map (Value.int .i64))) := hown.alloc _
      have hneb : some w.heap.size ≠ u.ownBlock := fun e => by have := (hown.lt w.heap.size e.symm).1; omega
      have D0 : Hid ((wr.alloc (.cells #[.int .i64 (r : Int)] 3)).cell? ⟨w.heap.size, 0, none⟩ = some (.int .i64 (k : Int))) := cell_al _ c0
      have D1 : Hid ((wr.alloc (.cells #[.int .i64 (r : Int)] 3)).cell? ⟨w.heap.size, 1, none⟩ = some u) := cell_al _ c1
      have TAIL : Hid (∀ (gq cp : Nat) (W3 : World), W3.ownsRow (w.heap.size + 1) 3 1 (.slice (some ⟨gq, 0, none⟩) (v + 1) cp) (v + 1) ((ofL v (wkOf k bys)).map (Value.int .i64) ++ [.int .i64 (r : Int)]) → (wr.alloc (.cells #[.int .i64 (r : Int)] 3)).grownBy W3 u.ownBlock →
          W3.cell? ⟨w.heap.size, 1, none⟩ = some u ∧ W3.frozen? ⟨w.heap.size, 1, none⟩ = false ∧ (W3.setCell ⟨w.heap.size, 1, none⟩ (.slice (some ⟨gq, 0, none⟩) (v + 1) cp)).cell? ⟨w.heap.size, 0, none⟩ = some (.int .i64 (k : Int)) ∧ (W3.setCell ⟨w.heap.size, 1, none⟩ (.slice (some ⟨gq, 0, none⟩) (v + 1) cp)).cell? ⟨w.heap.size, 1, none⟩ = some (.slice (some ⟨gq, 0, none⟩) (v + 1) cp) ∧ (W3.setCell ⟨w.heap.size, 1, none⟩ (.slice (some ⟨gq, 0, none⟩) (v + 1) cp)).frozen? ⟨w.heap.size, 1, none⟩ = false ∧ (W3.setCell ⟨w.heap.size, 1, none⟩ (.slice (some ⟨gq, 0, none⟩) (v + 1) cp)).ownsRow (w.heap.size + 1) 3 1 (.slice (some ⟨gq, 0, none⟩) (v + 1) cp) (v + 1) ((ofL (v + 1) (wkOf k bys)).map (Value.int .i64)) ∧ Below w.heap.size w (W3.setCell ⟨w.heap.size, 1, none⟩ (.slice (some ⟨gq, 0, none⟩) (v + 1) cp))) := by
        intro gq cp W3 h1 h2
        have g1 := kept_cell h2 D1.out hneb
        have g0 := kept_cell h2 D0.out hneb
        have gf : W3.frozen? ⟨w.heap.size, 1, none⟩ = false := by
          have s1 : W3.heap[w.heap.size]? = (wr.alloc (.cells #[.int .i64 (r : Int)] 3)).heap[w.heap.size]? := h2.block _ (by simp; omega) hneb
          have s2 : (wr.alloc (.cells #[.int .i64 (r : Int)] 3)).heap[w.heap.size]? = wr.heap[w.heap.size]? := Below.heap_alloc _ _ _ hszr
          rw [← cf]
          exact World.frozen?_of_block (by rw [s1, s2])
        refine ⟨g1, gf, (World.cell?_setCell_other _ _ _ _ (by intro hh; simp only [Addr.mk.injEq] at hh; omega)).trans g0, World.cell?_setCell_same _ _ _ g1, by rw [World.frozen?_setCell]; exact gf, ?_, ?_⟩
        · rw [ofL_succ, hr, List.map_append]
          exact h1.kept (grownBy_set W3 w.heap.size 1 _) (.inr fun e => by have := (h1.lt w.heap.size e).1; omega)
        · exact Below.setCell (p := ⟨w.heap.size, 1, none⟩) ((hbl.alloc (Nat.le_of_lt hszr) _).grown h2 (by simp; omega) fun j ej => by have := (hown.lt j ej).1; omega) (by simp) _
      have H63 : Hid (v + 1 ≤ maxLen) := hidI (by unfold maxLen; omega)
      by_cases hvL : v < L
      · have hvL2 : (v : Int) < (L : Int) := by omega
        rcases HS.out with h0 | ⟨b, off, rfl, hc⟩
        · have := HL.out; rw [h0] at this; simp at this; omega
        have hbw : b < w.heap.size := World.block_lt_of_cell? w _ (hc v hvL)
        have cb : wr.cell? ⟨b, off + v, none⟩ = some (.int .i64 (bys.getD v 0)) := (HB.out.cell (p := ⟨b, off + v, none⟩) hbw).trans (hc v hvL)
        have hkp : (0 : Int) < (k : Int) := by omega
        have hk0 : (k : Int) ≠ 0 := by omega
        have hrr : bys.getD v 0 % (k : Int) = (r : Int) := by
          have h1 := Int.emod_nonneg (bys.getD v 0) (b := (k : Int)) (by omega)
          rw [← hr]
          unfold wkOf
          rw [if_pos (by rw [HL.out]; exact hvL)]
          omega
        obtain ⟨tc1, tc2⟩ := tmod_cases (bys.getD v 0) k hkp
        have tl := Int.lt_tmod_of_pos (bys.getD v 0) hkp
        have tu := Int.tmod_lt_of_pos (bys.getD v 0) hkp
        rw [hrr] at tc1 tc2
        obtain ⟨z, hz⟩ : ∃ z, bys.getD v 0 = z := ⟨_, rfl⟩
        rw [hz] at cb tc1 tc2 tl tu
        obtain ⟨t, ht⟩ : ∃ t, z.tmod (k : Int) = t := ⟨_, rfl⟩
        rw [ht] at tc1 tc2 tl tu
        have wt : IntKind.i64.wrap t = t := wrap_small (by omega) (by omega)
        clear hc hrr hz hr hown hbl
        by_cases ht0 : t < 0
        · have tk : t + (k : Int) = (r : Int) := tc1 ht0
          have wk1 : IntKind.i64.wrap (t + (k : Int)) = (r : Int) := by rw [tk]; exact wrap_small (by omega) (by omega)
          clear tc1 tc2 tk
          go_wp2_with (at_builtin; refine wpList_append_lies _ rfl _ _ 23 rfl (w.heap.size + 1) 3 i0 (.int .i64 0) 1 8 Try.underlying23 hi hz0 hz1 hz2 rfl (by decide) u v _ rfl QO.out ⟨wr.heap.size, 0, none⟩ 1 1 [.int .i64 (r : Int)] rfl rfl (one_new _ _ _) (by simp [Value.oneCell']) (by decide) H63.out (by omega) (by simp; omega) _ rfl ?_; intro gq cp W3 h1 h2 _ _; obtain ⟨z1, z2, z3, z4, z5, z6, z7⟩ := TAIL.out gq cp W3 h1 h2; have Z := hidI (And.intro z3 (And.intro z4 (And.intro z5 (And.intro z6 z7)))); clear z3 z4 z5 z6 z7 h1 h2; refine Hid.out ?_)
          refine hidI ?_
          go_wp2
          go_roundg g
          case measure => omega
          case rel => exact ⟨v + 1, _, by omega, by go_num, Z.out.1, Z.out.2.1, Z.out.2.2.1, Z.out.2.2.2.1, Z.out.2.2.2.2⟩
        · have tr : t = (r : Int) := tc2 (by omega)
          subst tr
          have hd0 : decide ((r : Int) < 0) = false := by simp
          clear tc1 tc2 ht0
          go_wp2_with (at_builtin; refine wpList_append_lies _ rfl _ _ 23 rfl (w.heap.size + 1) 3 i0 (.int .i64 0) 1 8 Try.underlying23 hi hz0 hz1 hz2 rfl (by decide) u v _ rfl QO.out ⟨wr.heap.size, 0, none⟩ 1 1 [.int .i64 (r : Int)] rfl rfl (one_new _ _ _) (by simp [Value.oneCell']) (by decide) H63.out (by omega) (by simp; omega) _ rfl ?_; intro gq cp W3 h1 h2 _ _; obtain ⟨z1, z2, z3, z4, z5, z6, z7⟩ := TAIL.out gq cp W3 h1 h2; have Z := hidI (And.intro z3 (And.intro z4 (And.intro z5 (And.intro z6 z7)))); clear z3 z4 z5 z6 z7 h1 h2; refine Hid.out ?_)
          refine hidI ?_
          go_wp2
          go_roundg g
          case measure => omega
          case rel => exact ⟨v + 1, _, by omega, by go_num, Z.out.1, Z.out.2.1, Z.out.2.2.1, Z.out.2.2.2.1, Z.out.2.2.2.2⟩
      · have hvL2 : decide ((v : Int) < (L : Int)) = false := by simp; omega
        have hvL3 : decide (v < L) = false := by simp; omega
        have hr0 : r = 0 := by
          rw [← hr]
          unfold wkOf
          rw [if_neg (by rw [HL.out]; exact hvL)]
        subst hr0
        simp only [Int.ofNat_zero] at QO TAIL
        clear hr hown hbl hrk
        go_wp2_with (at_builtin; refine wpList_append_lies _ rfl _ _ 23 rfl (w.heap.size + 1) 3 i0 (.int .i64 0) 1 8 Try.underlying23 hi hz0 hz1 hz2 rfl (by decide) u v _ rfl QO.out ⟨wr.heap.size, 0, none⟩ 1 1 [.int .i64 0] rfl rfl (one_new _ _ _) (by simp [Value.oneCell']) (by decide) H63.out (by omega) (by simp; omega) _ rfl ?_; intro gq cp W3 h1 h2 _ _; obtain ⟨z1, z2, z3, z4, z5, z6, z7⟩ := TAIL.out gq cp W3 h1 h2; have Z := hidI (And.intro z3 (And.intro z4 (And.intro z5 (And.intro z6 z7)))); clear z3 z4 z5 z6 z7 h1 h2; refine Hid.out ?_)
        refine hidI ?_
        go_wp2
        go_roundg g
        case measure => omega
        case rel => exact ⟨v + 1, _, by omega, by go_num, Z.out.1, Z.out.2.1, Z.out.2.2.1, Z.out.2.2.2.1, Z.out.2.2.2.2⟩
end Go.Proofs.Ytjlnnpcaeikolaa
