/-
  The program's perm.From.
-/
import Derived.Test.YtdfieflcclbgjaaRFrom
import Derived.Test.YtdfieflcclbgjaaTurnM
namespace Go.Proofs.Ytdfieflcclbgjaa.Perm
open Go.RowKit Go.Deep
theorem fits_any (n : Int) (w : World) (h0 : 0 ≤ n) (h1 : n ≤ 16) :
    Calls Try.prog 63 #[.int .i64 n] w fun e w' => e = .returned (.bool true) ∧ w = w' := by
  go_enter Try.func63, Try.ntmps63
  go_wp2
  go_ret
  exact ⟨rfl, rfl⟩
theorem many_in (n : Nat) (w : World) (h : n ≤ 16) :
    Calls Try.prog 64 #[.int .i64 n] w fun e w' => e = .returned (.int .u64 (fac n)) ∧ w = w' := by
  go_enter Try.func64, Try.ntmps64
  go_wp2_with (go_at_call 63; refine (fits_any _ _ (by omega) (by omega)).mono ?_; rintro e w' ⟨rfl, rfl⟩)
  go_loop [3, 9] (fun m i => ∃ k : Nat, k ≤ n ∧ i = .int .i64 k ∧ m = .int .u64 (fac k)) (fun _ i => n - (intOf i).toNat)
  case atStart => exact ⟨0, Nat.zero_le _, rfl, rfl⟩
  case round =>
    obtain ⟨k, hk, rfl, rfl⟩ := hrel
    by_cases hlt : k < n
    · have hb := fac_le k (by omega)
      have hs := fac_le (k + 1) (by omega)
      go_wp2
      go_round
      case rel => exact ⟨k + 1, by omega, by go_num, by rw [wrap_fac (by omega)]⟩
      case measure => simp [intOf]; omega
    · go_wp2
      obtain rfl : k = n := by omega
      go_ret
      exact ⟨rfl, rfl⟩
def Seen (w : World) (b : Nat) (sn : List Bool) : Prop := w.rowIs b 95 16 (fun j => .bool (sn.getD j false))
theorem seen_new (w : World) : Seen (w.alloc (.cells #[.bool false, .bool false, .bool false, .bool false, .bool false, .bool false, .bool false, .bool false, .bool false, .bool false, .bool false, .bool false, .bool false, .bool false, .bool false, .bool false] 95)) w.heap.size none16 :=
  World.rowIs_alloc w _ 95 _ (by
    intro i hi
    match i, hi with
    | 0, _ | 1, _ | 2, _ | 3, _ | 4, _ | 5, _ | 6, _ | 7, _ | 8, _ | 9, _ | 10, _ | 11, _ | 12, _ | 13, _ | 14, _ | 15, _ => rfl
    | n + 16, h => exact absurd h (by simp))
theorem Seen.put {w : World} {b : Nat} {sn : List Bool} (h : Seen w b sn) (hl : sn.length = 16) (j : Nat) (_hj : j < 16) : Seen (w.setCell ⟨b, j, none⟩ (.bool true)) b (sn.set j true) := by
  refine (World.rowIs.set h j (.bool true)).congr ?_
  intro i hi
  by_cases e : i = j
  · subst e; simp [List.getD, hl, hi]
  · rw [if_neg e]; simp [List.getD, show ¬ j = i from fun h => e h.symm]
theorem grown_set (w : World) (B j : Nat) (u : Value) : w.grownBy (w.setCell ⟨B, j, none⟩ u) (some B) :=
  ⟨rfl, rfl, rfl, by simp, fun k _ hk => heap_setCell_other w ⟨B, j, none⟩ k u (fun e => hk (by simp [e]))⟩
theorem owns_set {w : World} {base size n B j : Nat} {e : TypeId} {v u : Value} {xs : List Value} (h : w.ownsRow base e size v n xs) (hne : v.ownBlock ≠ some B) : (w.setCell ⟨B, j, none⟩ u).ownsRow base e size v n xs :=
  h.kept (grown_set w B j u) (.inr hne)
theorem one_new (W : World) (v : Value) (t : TypeId) (g : Nat) (hg : g = W.heap.size) : ∀ (i : Nat) (x : Value), [v][i]? = some x → (W.alloc (.cells #[v] t)).cell? ((⟨g, 0, none⟩ : Addr).add i) = some x := by
  subst hg
  exact cell_one_new W v t
theorem from_walk (n : Nat) (k : Nat) (w : World) (h : n ≤ 16) (hk : k < 18446744073709551616) :
    Calls Try.prog 39 #[.int .i64 n, .int .u64 k] w fun e w' => ∃ (g : Nat) (ps : List Int), e = .returned (.tuple #[.slice (some ⟨g, 0, none⟩) n n, .int .i64 0]) ∧ ps.length = n ∧ Steps n none16 (k % fac n) ps ∧ w'.ownsRow w.heap.size 3 1 (.slice (some ⟨g, 0, none⟩) n n) n (ps.map (Value.int .i64)) ∧ Below w.heap.size w w' := by
  obtain ⟨i0, hi, hz0, hz1, hz2⟩ := info_parts info3
  have hf := fac_pos n
  have hfl := fac_le n h
  obtain ⟨k0, hk0⟩ : ∃ k0, k % fac n = k0 := ⟨_, rfl⟩
  have hkm : k0 < fac n := by rw [← hk0]; exact Nat.mod_lt _ hf
  have ek : (k : Int) % (fac n : Int) = (k0 : Int) := by rw [← hk0]; rfl
  rw [hk0]
  clear hk0
  have hf0 : ((fac n : Int) == 0) = false := by simp; omega
  go_enter Try.func39, Try.ntmps39
  go_wp2
  go_step3
  go_wp2_with (first | (go_at_call 63; refine (fits_any _ _ (by omega) (by omega)).mono ?_; rintro e w' ⟨rfl, rfl⟩) | (go_at_call 64; refine (many_in _ _ h).mono ?_; rintro e w' ⟨rfl, rfl⟩) | (at_make; refine wpList_make_own _ rfl _ _ 65 rfl w.heap.size 3 i0 (.int .i64 0) 1 Try.underlying65 hi hz0 hz1 _ _ _ n rfl rfl rfl (by rw [hz2]; omega) (by unfold maxLen; omega) (Nat.le_refl _) ?_; intro w1 hown1 hg1))
  have hlt1 : w.heap.size < w1.heap.size := (hown1.lt w.heap.size rfl).2
  have hb1 : Below w.heap.size w w1 := (Below.refl _ _).grown hg1 (Nat.le_refl _) (by simp)
  obtain ⟨B, hB⟩ : ∃ B, B = w1.heap.size := ⟨_, rfl⟩
  have hsn0 := seen_new w1
  have hown2 := hown1.alloc (.cells #[.bool false, .bool false, .bool false, .bool false, .bool false, .bool false, .bool false, .bool false, .bool false, .bool false, .bool false, .bool false, .bool false, .bool false, .bool false, .bool false] 95)
  have hb2 := hb1.alloc hb1.size (.cells #[.bool false, .bool false, .bool false, .bool false, .bool false, .bool false, .bool false, .bool false, .bool false, .bool false, .bool false, .bool false, .bool false, .bool false, .bool false, .bool false] 95)
  rw [← hB] at hsn0 hlt1
  go_step3
  rw [← hB]
  generalize w1.alloc (.cells #[.bool false, .bool false, .bool false, .bool false, .bool false, .bool false, .bool false, .bool false, .bool false, .bool false, .bool false, .bool false, .bool false, .bool false, .bool false, .bool false] 95) = w2 at hsn0 hown2 hb2 ⊢
  clear hown1 hg1 hb1 hB
  clear w1
  clear ek hfl hf0 hf hk
  go_wp2
  go_loopg [1, 6, 22] n (fun g s1 s6 s22 wx => ∃ (i kc : Nat) (sn : List Bool) (ps : List Int), i + g = n ∧ s22 = .int .i64 i ∧ s1 = .int .u64 kc ∧ s6 = .slice (some ⟨w.heap.size, 0, none⟩) i n ∧ ps.length = i ∧
      wx.ownsRow w.heap.size 3 1 (.slice (some ⟨w.heap.size, 0, none⟩) i n) i (ps.map (Value.int .i64)) ∧ Seen wx B sn ∧ sn.length = 16 ∧ below sn n = g ∧ kc < fac g ∧
      Aside (∀ r, r.length = g → Steps n sn kc r → Steps n none16 k0 (ps ++ r)) ∧ Below w.heap.size w wx)
  case atStart => exact ⟨0, k0, none16, [], by omega, rfl, rfl, rfl, rfl, hown2, hsn0, rfl, below_none n, hkm, fun r _ h => h, hb2⟩
  case round =>
    obtain ⟨i, kc, sn, ps, hig, rfl, rfl, rfl, hpl, hown, hsn, hsl, hbn, hkc, HI, hb⟩ := hrel
    cases gk with
    | zero =>
      have hin : i = n := by omega
      subst hin
      go_wp2
      rw [Exit.noGoto_ret]
      go_ret2
      exact ⟨w.heap.size, ps, rfl, hpl, by have := HI.out [] rfl trivial; rwa [List.append_nil] at this, hown, hb⟩
    | succ g =>
      have hlt : i < n := by omega
      have hFp := fac_pos g
      have hFl := fac_le g (by omega)
      have eg : (n : Int) - 1 - (i : Int) = (g : Int) := by omega
      have hF0 : ((fac g : Int) == 0) = false := by simp; omega
      obtain ⟨sk, hsk⟩ : ∃ sk, kc / fac g = sk := ⟨_, rfl⟩
      obtain ⟨kr, hkr⟩ : ∃ kr, kc % fac g = kr := ⟨_, rfl⟩
      have e1 : (kc : Int) / (fac g : Int) = (sk : Int) := by rw [← hsk]; rfl
      have e2 : (kc : Int) % (fac g : Int) = (kr : Int) := by rw [← hkr]; rfl
      have hsb : sk < g + 1 := by
        rw [← hsk]
        exact Nat.div_lt_of_lt_mul (by rw [Nat.mul_comm]; exact hkc)
      have hkrl : kr < fac g := by rw [← hkr]; exact Nat.mod_lt _ hFp
      have hkcb : kc < 18446744073709551616 := by have := fac_le (g + 1) (by omega); omega
      have HS : Aside (kc / fac g = sk ∧ kc % fac g = kr) := ⟨hsk, hkr⟩
      clear hsk hkr
      go_wp2_with (go_at_call 64; refine (many_in g _ (by omega)).mono ?_; rintro e w' ⟨rfl, rfl⟩)
      go_loopg [6, 10, 37] n (fun g2 s6 s10 s37 wy => ∃ (v s : Nat), v + g2 = n ∧ s37 = .int .i64 v ∧ s10 = .int .u64 s ∧ s6 = .slice (some ⟨w.heap.size, 0, none⟩) i n ∧ Aside (below sn v + s = sk) ∧ wr = wy)
      case atStart => exact ⟨0, sk, by omega, rfl, rfl, rfl, by show _ = _; simp [below], rfl⟩
      case round =>
        obtain ⟨v, s, hvg, rfl, rfl, rfl, HV, rfl⟩ := hrel
        cases gk with
        | zero =>
          exfalso
          have := HV.out
          have hvn : v = n := by omega
          subst hvn
          omega
        | succ g2 =>
          have hv : v < n := by omega
          have hv16 : v < 16 := by omega
          have hcell := World.rowIs.cell hsn hv16
          have hfr := World.rowIs.frozen hsn v
          have hs0 : s < 18446744073709551616 := by have := HV.out; omega
          cases hsv : sn.getD v false
          · rw [hsv] at hcell
            by_cases hz : s = 0
            · subst hz
              have HSV : Aside (sn.getD v false = false) := hsv
              clear hsv
              have hownS := owns_set (B := B) (j := v) (u := .bool true) hown (by simp [Value.ownBlock]; omega)
              have hsnS := Seen.put hsn hsl v hv16
              have hbS := hb.setCell (p := ⟨B, v, none⟩) (by show _ ≤ B; omega) (.bool true)
              go_wp2_with (at_builtin; (refine wpList_append_fits _ rfl _ _ 65 rfl w.heap.size 3 i0 1 Try.underlying65 hi hz1 w.heap.size i n _ rfl (hownS.alloc _) ⟨wr.heap.size, 0, none⟩ 1 1 [.int .i64 v] rfl rfl (one_new _ _ _ _ (by simp)) (by intro u hu; simp at hu; subst hu; rfl) (by omega) ?_); intro w3 hown3 hg3)
              have hlB : B < wr.heap.size := World.rowIs.lt hsn
              have hsn3 : Seen w3 B (sn.set v true) := World.rowIs.of_block (World.rowIs.alloc hsnS (.cells #[.int .i64 v] 3)) (hg3.block B (by simp; omega) (by simp; omega))
              have hb3 : Below w.heap.size w w3 := (hbS.alloc hbS.size (.cells #[.int .i64 v] 3)).grown hg3 (by have := hbS.size; simp at this ⊢; omega) (by simp)
              go_roundg g
              case measure => omega
              case rel =>
                refine ⟨i + 1, kr, sn.set v true, ps ++ [(v : Int)], by omega, by go_num, rfl, rfl, by simp [hpl], ?_, hsn3, by simpa using hsl, ?_, hkrl, ?_, hb3⟩
                · rw [List.map_append]; exact hown3
                · rw [below_set (by omega) HSV.out, if_pos hv]; omega
                · intro r hr hst
                  rw [List.append_assoc]
                  refine HI.out (v :: r) (by simp [hr]) ⟨v, rfl, hv, HSV.out, ?_, ?_⟩
                  · rw [hr, HS.out.1]; have := HV.out; omega
                  · rw [hr, HS.out.2]; exact hst
            · have qz : ((s : Int) == 0) = false := by simp; omega
              have hsp : 1 ≤ s := by omega
              have HSV : Aside (sn.getD v false = false) := hsv
              clear hsv
              go_wp2
              go_roundg g2
              case measure => omega
              case rel => exact ⟨v + 1, s - 1, by omega, by go_num, by go_num, rfl, by show _ = _; rw [below_free HSV.out]; have := HV.out; omega, rfl⟩
          · rw [hsv] at hcell
            have HSV : Aside (sn.getD v false = true) := hsv
            clear hsv
            go_wp2
            go_roundg g2
            case measure => omega
            case rel => exact ⟨v + 1, s, by omega, by go_num, rfl, rfl, by show _ = _; rw [below_seen HSV.out]; exact HV.out, rfl⟩
theorem fromP_any (n : Nat) (k : Nat) (w : World) (h : n ≤ 16) (hk : k < 18446744073709551616) :
    Calls Try.prog 39 #[.int .i64 n, .int .u64 k] w fun e w' => ∃ g, e = .returned (.tuple #[.slice (some ⟨g, 0, none⟩) n n, .int .i64 0]) ∧ w'.ownsRow w.heap.size 3 1 (.slice (some ⟨g, 0, none⟩) n n) n ((fromL n k).map (Value.int .i64)) ∧ Below w.heap.size w w' := by
  refine (from_walk n k w h hk).mono ?_
  rintro e w' ⟨g, ps, rfl, hl, hs, ho, hb⟩
  refine ⟨g, rfl, ?_, hb⟩
  rw [← from_is hs hl]
  exact ho
end Go.Proofs.Ytdfieflcclbgjaa.Perm
