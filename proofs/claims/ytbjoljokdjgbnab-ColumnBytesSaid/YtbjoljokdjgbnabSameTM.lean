/-
  The laws' same: a table and the document's that agree tell the same.
-/
import Derived.Test.YtbjoljokdjgbnabReg4M
namespace Go.Proofs.Ytbjoljokdjgbnab
open Go.RowKit Go.Deep Go.MapKept
theorem Agree.list {cs : List Column} {os : List One} (h : Agree cs os) (hap : apartK cs) (s : ByteArray) (d : Int) : rlistE os s d = listE cs s d := by
  unfold rlistE listE
  rw [h.find hap]
  cases cs.find? (Column.at s d) <;> rfl
theorem Agree.kind {cs : List Column} {os : List One} (h : Agree cs os) (hap : apartK cs) (s : ByteArray) (d : Int) : rkindE os s d = kindE cs s d := by
  unfold rkindE kindE
  rw [h.find hap]
  cases cs.find? (Column.at s d) <;> rfl
theorem Agree.get {cs : List Column} {os : List One} (h : Agree cs os) (hap : apartK cs) (s : ByteArray) (d j : Int) : rgetE os s d j = getE cs s d j := by
  unfold rgetE getE
  rw [h.find hap]
  cases cs.find? (Column.at s d) <;> rfl
theorem list_len {cs : List Column} {w : World} {tb mb : Nat} {n m : Int} (h : Whole w tb mb n m cs) (s : ByteArray) (d : Int) : (listE cs s d).length ≤ 100000 := by
  unfold listE
  cases hf : cs.find? (Column.at s d) with
  | none => simp
  | some c =>
    have := (h.2.2.2.2.1 c (List.mem_of_find?_eq_some hf)).1.2.2.2.2.2.2.1
    simp only; omega
set_option maxRecDepth 100000 in
set_option maxHeartbeats 3000000 in
theorem same_any {w : World} {b0 tb mb rb : Nat} {cs : List Column} {os : List One} (h : Both w b0 tb mb rb cs os) (s : ByteArray) (d : Int) (hs : s.size ≤ maxLen) (hd : Wf8 d) :
    Calls Try.prog 18 #[.pointer (some ⟨tb, 0, none⟩), .pointer (some ⟨rb, 0, none⟩), ke s d] w fun e w' => e = .returned (.bool true) ∧ Below w.heap.size w w' := by
  have H := hidI h
  have h24 := h.2.2.1.few h.1
  have hWf : Hid (∀ k ∈ os.map One.ky ++ [(s, d)], k.1.size ≤ maxLen ∧ Wf8 k.2) := hidI fun k hk => by
    rcases List.mem_append.1 hk with hk | hk
    · obtain ⟨o, ho, rfl⟩ := List.mem_map.1 hk
      obtain ⟨c, hc, rfl⟩ := List.mem_map.1 (h.2.2.1.1.mem_iff.1 ho)
      have := (h.1.2.2.2.2.1 c hc).1
      exact ⟨this.2.1, this.2.2.1⟩
    · obtain rfl : k = (s, d) := by simpa using hk
      exact ⟨hs, hd⟩
  have CK : Hid (∀ u, Below w.heap.size w u → Calls Try.prog 44 #[.pointer (some ⟨rb, 0, none⟩)] u fun e w' => ∃ v, e = .returned v ∧ SeesK w' v (os.map One.ky) ∧ Below u.heap.size u w') := hidI fun u hu => rkeys_any (H.out.2.1.of.below hu (Nat.le_refl _)) (by omega)
  have CT : Hid (∀ u, Below w.heap.size w u → Calls Try.prog 25 #[.pointer (some ⟨tb, 0, none⟩)] u fun e w' => ∃ v, e = .returned v ∧ SeesK w' v (os.map One.ky) ∧ Below u.heap.size u w') := hidI fun u hu => tkeys_any (H.out.below hu (Nat.le_refl _))
  clear h hs hd
  go_enter Try.func18, Try.ntmps18
  go_wp2_with (go_at_call 44; refine Calls.mono (CK.out _ (by (repeat (first | exact Below.refl _ _ | assumption | refine Below.drew ?_ | refine Below.alloc ?_ (by first | omega | (simp; done) | (simp; omega)) _ | refine Below.setCell ?_ (by first | omega | (simp; done) | (simp; omega)) _)))) ?_; rintro e w1 ⟨rv, rfl, hk1, hb1⟩; refine Hid.out ?_)
  refine hidI ?_
  have g0 : w1.cell? ⟨w.heap.size, 0, none⟩ = some (.string s) := by
    refine (hb1.cell (p := ⟨w.heap.size, 0, none⟩) (by simp)).trans ?_
    go_simp
  have g1 : w1.cell? ⟨w.heap.size, 1, none⟩ = some (.int .u8 d) := by
    refine (hb1.cell (p := ⟨w.heap.size, 1, none⟩) (by simp)).trans ?_
    go_simp
  have HW1 : Hid (Below w.heap.size w w1) := hidI (Below.trans (by (repeat (first | exact Below.refl _ _ | assumption | refine Below.drew ?_ | refine Below.alloc ?_ (by first | omega | (simp; done) | (simp; omega)) _ | refine Below.setCell ?_ (by first | omega | (simp; done) | (simp; omega)) _))) (hb1.mono (by simp)))
  have HK1 := hidI hk1
  clear hb1 CK hk1
  go_wp2_with (go_at_call 25; refine Calls.mono (CT.out _ HW1.out) ?_; rintro e w2 ⟨tv, rfl, hk2, hb2⟩; refine Hid.out ?_)
  refine hidI ?_
  have HK2 := hidI hk2
  have HK12 := hidI (HK1.out.below hb2 (Nat.le_refl _))
  have HW2 : Hid (Below w.heap.size w w2) := hidI (HW1.out.trans (hb2.mono HW1.out.size))
  have g2 := (hb2.cell (World.block_lt_of_cell? w1 _ g0)).trans g0
  have g3 := (hb2.cell (World.block_lt_of_cell? w1 _ g1)).trans g1
  have CS := hidI (sameKeys_any HK2.out HK12.out (by rw [List.length_map]; omega))
  clear hb2 hk2 CT g0 g1 HK1 HW1
  go_wp2_with (go_at_call 45; refine Calls.mono CS.out ?_; rintro e w3 ⟨rfl, hb3⟩; refine Hid.out ?_)
  refine hidI ?_
  have HK3 := hidI (HK12.out.below hb3 (Nat.le_refl _))
  have HW3 : Hid (Below w.heap.size w w3) := hidI (HW2.out.trans (hb3.mono HW2.out.size))
  have g4 := (hb3.cell (World.block_lt_of_cell? w2 _ g2)).trans g2
  have g5 := (hb3.cell (World.block_lt_of_cell? w2 _ g3)).trans g3
  clear hb3 CS g2 g3 HK12 HK2 HW2
  go_wp2
  have hSd : w3.drew.cell? ⟨w.heap.size, 0, none⟩ = some (.string s) ∧ w3.drew.cell? ⟨w.heap.size, 1, none⟩ = some (.int .u8 d) := ⟨g4, g5⟩
  have hKd : SeesK w3.drew rv (os.map One.ky) := HK3.out.below ((Below.refl _ w3).drew) (Nat.le_refl _)
  refine reg4 hSd hKd (by rw [List.length_map]; omega) (fun _ _ _ _ _ h => h) ?_
  intro W6 v27 t22 t23 t24 t25 t26 t27 hB6 hO6
  have HW6 : Hid (Below w.heap.size w W6) := hidI (HW3.out.trans ((((Below.refl _ w3).drew).trans hB6).mono HW3.out.size))
  have HK6 := hidI (seesK_of_owns hO6)
  obtain ⟨ka, kcap, rfl, _⟩ := seesK_of_owns hO6
  clear hB6 hO6 hSd hKd g4 g5 HK3 HW3
  obtain ⟨k, hk⟩ : ∃ k, (os.map One.ky ++ [(s, d)]).length = k := ⟨_, rfl⟩
  have HKL := hidI hk
  have hk25 : k ≤ 25 := by rw [← hk]; simp; omega
  rw [hk]
  clear hk
  go_wp2
  go_loopg [8, 9, 10, 11, 12, 13] k (fun g s8 s9 s10 s11 s12 s13 wx => ∃ (i : Nat) (v9 v10 v11 v12 v13 : Value), v9 = s9 ∧ v10 = s10 ∧ v11 = s11 ∧ v12 = s12 ∧ v13 = s13 ∧ i + g = k ∧ s8 = .int .i64 i ∧ Hid (Below W6.heap.size W6 wx))
  case atStart => exact ⟨0, _, _, _, _, _, rfl, rfl, rfl, rfl, rfl, by omega, rfl, hidI (Below.refl _ _)⟩
  case round =>
    obtain ⟨i, v9, v10, v11, v12, v13, rfl, rfl, rfl, rfl, rfl, hig, rfl, HX⟩ := hrel
    have hw6 := HW6.out.size
    have hwr := HX.out.size
    have HWr : Hid (Below w.heap.size w wr) := hidI (HW6.out.trans (HX.out.mono hw6))
    cases gk with
    | zero =>
      obtain rfl : k = i := by omega
      have k1 : decide ((k : Int) < (k : Int)) = false := by simp
      have CN : Hid (∀ (u : World) (q : Int), Below w.heap.size w u → Calls Try.prog 27 #[.pointer (some ⟨tb, 0, none⟩), .int .u8 q] u fun e w' => e = .returned (.int .i64 (sideLen 3 2 q)) ∧ u = w') := hidI fun u q hu => by
        have hU := (H.out.below hu (Nat.le_refl _)).1
        exact len_any tb 3 2 q u hU.1 hU.2.1
      have CR : Hid (∀ (u : World) (q : Int), Below w.heap.size w u → Calls Try.prog 49 #[.pointer (some ⟨rb, 0, none⟩), .int .u8 q] u fun e w' => e = .returned (.int .i64 (sideLen 3 2 q)) ∧ u = w') := hidI fun u q hu => by
        have hU := (H.out.below hu (Nat.le_refl _)).2.1
        exact rlen_any rb 3 2 q u hU.2.2.1 hU.2.2.2.1
      go_wp2
      go_loopg [14] 5 (fun g s14 wx => ∃ t : Nat, t + g = 5 ∧ s14 = .int .u8 t ∧ Hid (Below w.heap.size w wx))
      case atStart => exact ⟨0, by omega, rfl, HWr⟩
      case round =>
        obtain ⟨t, htg, rfl, HY⟩ := hrel
        cases gk with
        | zero =>
          obtain rfl : t = 5 := by omega
          go_wp2
          go_ret
          exact ⟨rfl, HY.out⟩
        | succ g =>
          have k2 : (t : Int) ≤ 4 := by omega
          obtain ⟨L, hL⟩ : ∃ L, sideLen 3 2 (t : Int) = L := ⟨_, rfl⟩
          have CN1 := hidI (CN.out wr t HY.out)
          have CR1 := hidI (CR.out wr t HY.out)
          rw [hL] at CN1 CR1
          clear hL
          go_wp2_with (first | (go_at_call 27; refine Calls.mono CN1.out ?_; rintro e u ⟨rfl, rfl⟩) | (go_at_call 49; refine Calls.mono CR1.out ?_; rintro e u ⟨rfl, rfl⟩))
          go_roundg g
          case measure => omega
          case rel =>
            have h7 : t = 0 ∨ t = 1 ∨ t = 2 ∨ t = 3 ∨ t = 4 := by omega
            refine ⟨t + 1, by omega, ?_, HY⟩
            rcases h7 with rfl | rfl | rfl | rfl | rfl <;> rfl
    | succ g =>
      have k1 : (i : Int) < (k : Int) := by omega
      obtain ⟨⟨s', d'⟩, hky⟩ : ∃ ky, (os.map One.ky ++ [(s, d)])[i]? = some ky := ⟨_, List.getElem?_eq_getElem (by have := HKL.out; omega)⟩
      obtain ⟨hs', hd'⟩ := hWf.out _ (List.mem_of_getElem? hky)
      simp only at hs' hd'
      have HBr := hidI (H.out.below HWr.out (Nat.le_refl _))
      have hkr := HK6.out.below HX.out (Nat.le_refl _)
      obtain ⟨_, _, hke, hkl⟩ := hkr
      simp only [Value.slice.injEq] at hke
      obtain ⟨rfl, _, rfl⟩ := hke
      rcases hkl with hnil | ⟨b, off, rfl, hkl⟩
      · simp at hnil
      obtain ⟨c0, c1⟩ := hkl i _ hky
      simp only at c0 c1
      clear hkl
      obtain ⟨zs, hzs⟩ : ∃ zs, listE cs s' d' = zs := ⟨_, rfl⟩
      have hzl : zs.length ≤ 100000 := by rw [← hzs]; exact list_len HBr.out.1 s' d'
      obtain ⟨q, hq⟩ : ∃ q, kindE cs s' d' = q := ⟨_, rfl⟩
      have hap := HBr.out.1.2.2.2.2.2.1
      have hbk : ∀ (y u : World), Below wr.heap.size wr y → Below y.heap.size y u → Below wr.heap.size wr u := fun y u h1 h2 => h1.trans (h2.mono h1.size)
      have hSk : ∀ (y u : World), (y.cell? ⟨b, off + i * 2, none⟩ = some (.string s') ∧ y.cell? ⟨b, off + i * 2 + 1, none⟩ = some (.int .u8 d')) → Below y.heap.size y u → (u.cell? ⟨b, off + i * 2, none⟩ = some (.string s') ∧ u.cell? ⟨b, off + i * 2 + 1, none⟩ = some (.int .u8 d')) := fun y u h1 h2 => ⟨(h2.cell (World.block_lt_of_cell? y _ h1.1)).trans h1.1, (h2.cell (World.block_lt_of_cell? y _ h1.2)).trans h1.2⟩
      have C1 : Hid (∀ y, Below wr.heap.size wr y → (y.cell? ⟨b, off + i * 2, none⟩ = some (.string s') ∧ y.cell? ⟨b, off + i * 2 + 1, none⟩ = some (.int .u8 d')) → Calls Try.prog 26 #[.pointer (some ⟨tb, 0, none⟩), ke s' d'] y fun e u => ∃ v, e = .returned v ∧ Sees u v zs ∧ Below wr.heap.size wr u ∧ (u.cell? ⟨b, off + i * 2, none⟩ = some (.string s') ∧ u.cell? ⟨b, off + i * 2 + 1, none⟩ = some (.int .u8 d'))) := hidI fun y hy hS => by
        refine (whole_list ((HBr.out.below hy (Nat.le_refl _)).1) hs' hd').mono ?_
        rintro e u ⟨v, rfl, hv, hb⟩
        rw [hzs] at hv
        exact ⟨v, rfl, hv, hbk y u hy hb, hSk y u hS hb⟩
      have C2 : Hid (∀ y v1, Below wr.heap.size wr y → (y.cell? ⟨b, off + i * 2, none⟩ = some (.string s') ∧ y.cell? ⟨b, off + i * 2 + 1, none⟩ = some (.int .u8 d')) → Sees y v1 zs → Calls Try.prog 47 #[.pointer (some ⟨rb, 0, none⟩), ke s' d'] y fun e u => ∃ v, e = .returned v ∧ Sees u v zs ∧ Sees u v1 zs ∧ Below wr.heap.size wr u ∧ (u.cell? ⟨b, off + i * 2, none⟩ = some (.string s') ∧ u.cell? ⟨b, off + i * 2 + 1, none⟩ = some (.int .u8 d'))) := hidI fun y v1 hy hS h1 => by
        have hB := HBr.out.below hy (Nat.le_refl _)
        refine (rlist_any rb 3 2 os s' d' y hB.2.1.of (by omega) (hB.2.2.1.vals hB.1)).mono ?_
        rintro e u ⟨v, rfl, hv, hb⟩
        rw [hB.2.2.1.list hap, hzs] at hv
        exact ⟨v, rfl, hv, h1.below hb (Nat.le_refl _), hbk y u hy hb, hSk y u hS hb⟩
      have C3 : Hid (∀ y v1 v2, Below wr.heap.size wr y → (y.cell? ⟨b, off + i * 2, none⟩ = some (.string s') ∧ y.cell? ⟨b, off + i * 2 + 1, none⟩ = some (.int .u8 d')) → Sees y v1 zs → Sees y v2 zs → Calls Try.prog 46 #[v1, v2] y fun e u => e = .returned (.bool true) ∧ Below wr.heap.size wr u ∧ (u.cell? ⟨b, off + i * 2, none⟩ = some (.string s') ∧ u.cell? ⟨b, off + i * 2 + 1, none⟩ = some (.int .u8 d'))) := hidI fun y v1 v2 hy hS h1 h2 => by
        refine (sameWords_any h1 h2 hzl).mono ?_
        rintro e u ⟨rfl, hb⟩
        exact ⟨rfl, hbk y u hy hb, hSk y u hS hb⟩
      have C4 : Hid (∀ y, Below wr.heap.size wr y → (y.cell? ⟨b, off + i * 2, none⟩ = some (.string s') ∧ y.cell? ⟨b, off + i * 2 + 1, none⟩ = some (.int .u8 d')) → Calls Try.prog 28 #[.pointer (some ⟨tb, 0, none⟩), ke s' d'] y fun e u => e = .returned (.int .u8 q) ∧ Below wr.heap.size wr u ∧ (u.cell? ⟨b, off + i * 2, none⟩ = some (.string s') ∧ u.cell? ⟨b, off + i * 2 + 1, none⟩ = some (.int .u8 d'))) := hidI fun y hy hS => by
        refine (whole_kind ((HBr.out.below hy (Nat.le_refl _)).1) hs' hd').mono ?_
        rintro e u ⟨rfl, hb⟩
        rw [hq]
        exact ⟨rfl, hbk y u hy hb, hSk y u hS hb⟩
      have C5 : Hid (∀ y, Below wr.heap.size wr y → (y.cell? ⟨b, off + i * 2, none⟩ = some (.string s') ∧ y.cell? ⟨b, off + i * 2 + 1, none⟩ = some (.int .u8 d')) → Calls Try.prog 48 #[.pointer (some ⟨rb, 0, none⟩), ke s' d'] y fun e u => e = .returned (.int .u8 q) ∧ Below wr.heap.size wr u ∧ (u.cell? ⟨b, off + i * 2, none⟩ = some (.string s') ∧ u.cell? ⟨b, off + i * 2 + 1, none⟩ = some (.int .u8 d'))) := hidI fun y hy hS => by
        have hB := HBr.out.below hy (Nat.le_refl _)
        refine (rkind_any rb 3 2 os s' d' y hB.2.1.of (by omega)).mono ?_
        rintro e u ⟨rfl, hb⟩
        rw [hB.2.2.1.kind hap, hq]
        exact ⟨rfl, hbk y u hy hb, hSk y u hS hb⟩
      have CG : Hid (∀ (y : World) (j : Int), Below wr.heap.size wr y → Calls Try.prog 23 #[.pointer (some ⟨tb, 0, none⟩), ke s' d', .int .i64 j] y fun e u => e = .returned (.tuple #[.int .i64 (getE cs s' d' j).1, .int .i64 (getE cs s' d' j).2]) ∧ Below y.heap.size y u) := hidI fun y j hy => whole_get ((HBr.out.below hy (Nat.le_refl _)).1) hs' hd' j
      have CH : Hid (∀ (y : World) (j : Int), Below wr.heap.size wr y → Calls Try.prog 24 #[.pointer (some ⟨rb, 0, none⟩), ke s' d', .int .i64 j] y fun e u => e = .returned (.tuple #[.int .i64 (getE cs s' d' j).1, .int .i64 (getE cs s' d' j).2]) ∧ Below y.heap.size y u) := hidI fun y j hy => by
        have hB := HBr.out.below hy (Nat.le_refl _)
        have := rget_any rb 3 2 os s' d' j y hB.2.1.of (by omega)
        rwa [hB.2.2.1.get hap] at this
      clear hbk hSk hzs hq hky hs' hd' hap
      go_wp2
      go_region_held3 (fun y => y.cell? ⟨b, off + i * 2, none⟩ = some (.string s') ∧ y.cell? ⟨b, off + i * 2 + 1, none⟩ = some (.int .u8 d'))
        (first | exact ⟨by go_keep, by go_keep⟩ | assumption)
        ((first
          | (go_at_call 26; refine Calls.mono (C1.out _ (by (repeat (first | exact Below.refl _ _ | assumption | refine Below.drew ?_ | refine Below.alloc ?_ (by first | omega | (simp; done) | (simp; omega)) _ | refine Below.setCell ?_ (by first | omega | (simp; done) | (simp; omega)) _))) (by assumption)) ?_; rintro e u1 ⟨l1, rfl, hs1, hb1, hS1⟩)
          | (go_at_call 47; refine Calls.mono (C2.out _ _ (by assumption) (by assumption) hs1) ?_; rintro e u2 ⟨l2, rfl, hs2, hs1', hb2, hS2⟩)
          | (go_at_call 46; refine Calls.mono (C3.out _ _ _ (by assumption) (by assumption) hs1' hs2) ?_; rintro e u3 ⟨rfl, hb3, hS3⟩)
          | (go_at_call 28; refine Calls.mono (C4.out _ (by assumption) (by assumption)) ?_; rintro e u4 ⟨rfl, hb4, hS4⟩)
          | (go_at_call 48; refine Calls.mono (C5.out _ (by assumption) (by assumption)) ?_; rintro e u5 ⟨rfl, hb5, hS5⟩)))
      all_goals
        have HU : Hid (Below wr.heap.size wr u5) := hidI hb5
        have HS5 := hidI hS5
        clear hb1 hb2 hb3 hb4 hb5 hS1 hS2 hS3 hS4 hS5 hs1 hs2 hs1'
        clear C1 C2 C3 C4 C5
        have HU6 : Hid (Below W6.heap.size W6 u5) := hidI (HX.out.trans (HU.out.mono hwr))
        have CG5 : Hid (∀ (y : World) (j : Int), Below u5.heap.size u5 y → Calls Try.prog 23 #[.pointer (some ⟨tb, 0, none⟩), ke s' d', .int .i64 j] y fun e u => e = .returned (.tuple #[.int .i64 (getE cs s' d' j).1, .int .i64 (getE cs s' d' j).2]) ∧ Below y.heap.size y u) := hidI fun y j hy => CG.out y j (HU.out.trans (hy.mono HU.out.size))
        have CH5 : Hid (∀ (y : World) (j : Int), Below u5.heap.size u5 y → Calls Try.prog 24 #[.pointer (some ⟨rb, 0, none⟩), ke s' d', .int .i64 j] y fun e u => e = .returned (.tuple #[.int .i64 (getE cs s' d' j).1, .int .i64 (getE cs s' d' j).2]) ∧ Below y.heap.size y u) := hidI fun y j hy => CH.out y j (HU.out.trans (hy.mono HU.out.size))
        clear CG CH HBr
        go_wp2
        go_loopg [9, 10, 11, 12, 13] 5 (fun g s9 s10 s11 s12 s13 wx => ∃ (t : Nat) (j : Int) (v10 v11 v12 v13 : Value), v10 = s10 ∧ v11 = s11 ∧ v12 = s12 ∧ v13 = s13 ∧ t + g = 5 ∧ j = (t : Int) - 1 ∧ s9 = .int .i64 j ∧ Hid (Below u5.heap.size u5 wx))
        case atStart => exact ⟨0, -1, _, _, _, _, rfl, rfl, rfl, rfl, by omega, by omega, rfl, hidI (Below.refl _ _)⟩
        case round =>
          obtain ⟨t, j, v10, v11, v12, v13, rfl, rfl, rfl, rfl, htg, hjt, rfl, HY⟩ := hrel
          have HJ := hidI hjt
          clear hjt
          have hu5 := HU6.out.size
          have hy5 := HY.out.size
          cases gk with
          | zero =>
            obtain rfl : j = 4 := by have := HJ.out; omega
            go_wp2
            go_roundg g
            case measure => omega
            case rel => exact ⟨i + 1, _, _, _, _, _, rfl, rfl, rfl, rfl, rfl, by omega, by go_num, hidI (HU6.out.trans (HY.out.mono hu5))⟩
          | succ g' =>
            have k3 : j < 4 := by have := HJ.out; omega
            have k4 : -1 ≤ j := by have := HJ.out; omega
            have kk : ∀ {p : Addr} {v : Value}, u5.cell? p = some v → wr.cell? p = some v := fun {p v} hc => (HY.out.cell (World.block_lt_of_cell? u5 _ hc)).trans hc
            have d0 := kk HS5.out.1
            have d1 := kk HS5.out.2
            obtain ⟨pa, hpa⟩ : ∃ pa, (getE cs s' d' j).1 = pa := ⟨_, rfl⟩
            obtain ⟨pe, hpe⟩ : ∃ pe, (getE cs s' d' j).2 = pe := ⟨_, rfl⟩
            have CG6 := hidI (CG5.out wr j HY.out)
            rw [hpa, hpe] at CG6
            go_wp2_with (go_at_call 23; refine Calls.mono CG6.out ?_; rintro e u6 ⟨rfl, hb6⟩; refine Hid.out ?_)
            refine hidI ?_
            have HY6 : Hid (Below u5.heap.size u5 u6) := hidI (HY.out.trans (hb6.mono hy5))
            have e0 := (hb6.cell (World.block_lt_of_cell? wr _ d0)).trans d0
            have e1 := (hb6.cell (World.block_lt_of_cell? wr _ d1)).trans d1
            have CH6 := hidI (CH5.out u6 j HY6.out)
            rw [hpa, hpe] at CH6
            clear hb6 CG6 kk d0 d1 hpa hpe
            go_wp2_with (go_at_call 24; refine Calls.mono CH6.out ?_; rintro e u7 ⟨rfl, hb7⟩; refine Hid.out ?_)
            refine hidI ?_
            have HY7 : Hid (Below u5.heap.size u5 u7) := hidI (HY6.out.trans (hb7.mono HY6.out.size))
            clear hb7 CH6
            go_wp2
            go_roundg g'
            case measure => omega
            case rel =>
              refine ⟨t + 1, j + 1, _, _, _, _, rfl, rfl, rfl, rfl, by omega, by have := HJ.out; omega, ?_, HY7⟩
              have h7 : j = -1 ∨ j = 0 ∨ j = 1 ∨ j = 2 ∨ j = 3 := by omega
              rcases h7 with rfl | rfl | rfl | rfl | rfl <;> rfl
end Go.Proofs.Ytbjoljokdjgbnab
