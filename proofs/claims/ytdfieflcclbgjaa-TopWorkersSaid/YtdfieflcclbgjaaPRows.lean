/-
  Messages in rows of sixteen, as the program cuts them.
-/
import Derived.Test.YtdfieflcclbgjaaRSort
import Derived.Test.YtdfieflcclbgjaaCutC
namespace Go.Proofs.Ytdfieflcclbgjaa
open Go.RowKit Go.Deep Go.MapKept Go.Sort
theorem Try.info22 : (Try.prog.info? 22).map (fun i => (i.zero, i.size, i.bytes)) = some (some (.slice none 0 0), 1, 24) := by kernel_rfl
theorem val_seen (w : World) (v : Value) (t : Nat) : SeesC (w.alloc (.cells #[v] t)) (.slice (some ⟨w.heap.size, 0, none⟩) 1 1) 1 1 [v] := by
  refine ⟨rfl, _, 1, rfl, .inr ⟨w.heap.size, 0, rfl, fun j c hc => ?_⟩⟩
  have hj : j < 1 := by have := (List.getElem?_eq_some_iff.1 hc).1; simpa using this
  obtain rfl : j = 0 := by omega
  simp only [List.getElem?_cons_zero, Option.some.injEq] at hc
  subst hc
  go_simp
theorem SeesM.low {w : World} {a : Option Addr} {n cap : Nat} {xs : List Msg} (h : SeesM w (.slice a n cap) xs) (i : Nat) (hi : i ≤ n) : SeesM w (.slice a i cap) (xs.take i) := by
  obtain ⟨a', cap', he, hc, hs⟩ := h
  simp only [Value.slice.injEq] at he
  obtain ⟨rfl, rfl, rfl⟩ := he
  refine ⟨_, cap, by rw [List.length_take, Nat.min_eq_left hi], by rw [List.length_take]; omega, ?_⟩
  rcases hs with h0 | ⟨b, off, rfl, hs⟩
  · exact .inl (by rw [h0]; simp)
  · refine .inr ⟨b, off, rfl, fun j x hx => hs j x ?_⟩
    rw [List.getElem?_take] at hx
    split at hx
    · exact hx
    · cases hx
theorem SeesM.high {w : World} {b off n cap : Nat} {xs : List Msg} (h : SeesM w (.slice (some ⟨b, off, none⟩) n cap) xs) (i : Nat) (hi : i ≤ n) : SeesM w (.slice (some ⟨b, off + i * 3, none⟩) (n - i) (cap - i)) (xs.drop i) := by
  obtain ⟨a', cap', he, hc, hs⟩ := h
  simp only [Value.slice.injEq] at he
  obtain ⟨rfl, rfl, rfl⟩ := he
  refine ⟨_, cap - i, by rw [List.length_drop], by rw [List.length_drop]; omega, ?_⟩
  rcases hs with h0 | ⟨b', off', hb, hs⟩
  · exact .inl (by rw [h0]; simp)
  · simp only [Option.some.injEq, Addr.mk.injEq, and_true] at hb
    obtain ⟨rfl, rfl⟩ := hb
    refine .inr ⟨_, _, rfl, fun j x hx => ?_⟩
    rw [List.getElem?_drop] at hx
    have := hs _ x hx
    rw [show off + (i + j) * 3 = off + i * 3 + j * 3 by omega] at this
    exact this
/-- A row of sixteen. -/
def row16 (xs : List Msg) (j : Nat) : List Msg := (xs.drop (16 * j)).take 16
theorem own_one {w : World} {base e n : Nat} {v : Value} {vs : List Value} (h : w.ownsRow base e 1 v n vs) : vs.length = n := by have := h.1; omega
set_option maxRecDepth 100000 in
set_option maxHeartbeats 4000000 in
theorem rows_any (w : World) (v : Value) (xs : List Msg) (hv : SeesM w v xs) (hl : xs.length ≤ 10000) :
    Calls Try.prog 37 #[v] w fun e w' => ∃ v', e = .returned v' ∧ ∃ vs : List Value, w'.ownsRow w.heap.size 22 1 v' ((xs.length + 15) / 16) vs ∧ (∀ (i : Nat) (u : Value), vs[i]? = some u → SeesM w u (row16 xs i)) ∧ Below w.heap.size w w' := by
  obtain ⟨a, cap, rfl, hcap, hL⟩ := hv
  have HV : Hid (SeesM w (.slice a xs.length cap) xs) := hidI ⟨a, cap, rfl, hcap, hL⟩
  clear hL
  obtain ⟨n, hn⟩ : ∃ n, xs.length = n := ⟨_, rfl⟩
  have HN := hidI hn
  rw [hn] at hl HV hcap ⊢
  clear hn
  obtain ⟨K, hK⟩ : ∃ K, (n + 15) / 16 = K := ⟨_, rfl⟩
  have hK1 : n ≤ 16 * K := by omega
  have hK2 : 16 * K ≤ n + 15 := by omega
  rw [hK]
  clear hK
  go_enter Try.func37, Try.ntmps37
  go_wp2
  go_loopg [0, 3] K (fun g s0 s3 wx => ∃ (j L c1 : Nat) (a1 : Option Addr) (v3 : Value) (vs : List Value), j + g = K ∧ s0 = .slice a1 L c1 ∧ v3 = s3 ∧ L ≤ c1 ∧ Hid (n - 16 * j = L) ∧ Hid (SeesM w (.slice a1 L c1) (xs.drop (16 * j))) ∧ Hid (wx.ownsRow w.heap.size 22 1 v3 j vs) ∧ Hid (∀ (i : Nat) (u : Value), vs[i]? = some u → SeesM w u (row16 xs i)) ∧ Hid (Below w.heap.size w wx))
  case atStart => exact ⟨0, n, cap, a, _, [], by omega, rfl, rfl, hcap, hidI (by omega), hidI (by simpa using HV.out), hidI (World.ownsRow_nil _ _ _ _), hidI (by simp), hidI (Below.refl _ _)⟩
  case round =>
    obtain ⟨j, L, c1, a1, v3, vs, hjg, rfl, rfl, hLc, HL, HS, HO, HR, HB⟩ := hrel
    have hsz := HB.out.size
    cases gk with
    | zero =>
      have h0 : L = 0 := by have := HL.out; omega
      subst h0
      obtain rfl : K = j := by omega
      go_wp2
      go_ret
      exact ⟨v3, rfl, vs, HO.out, HR.out, HB.out⟩
    | succ g =>
      have hL0 : 0 < L := by have := HL.out; omega
      have hL1 : L ≤ 10000 := by have := HL.out; omega
      have hL2 : (0 : Int) < (L : Int) := by omega
      have hj9 : j ≤ 1000 := by omega
      obtain ⟨b, off, rfl⟩ : ∃ b off, a1 = some ⟨b, off, none⟩ := by
        obtain ⟨a2, c2, e2, _, h2⟩ := HS.out
        simp only [Value.slice.injEq] at e2
        obtain ⟨rfl, e3, _⟩ := e2
        rcases h2 with h2 | ⟨b, off, rfl, _⟩
        · rw [h2] at e3; simp at e3; omega
        · exact ⟨b, off, rfl⟩
      have hvl := own_one HO.out
      by_cases h16 : 16 < L
      · have g16 : (16 : Int) < (L : Int) := by omega
        have g17 : (16 : Int) ≤ (c1 : Int) := by omega
        have g18 : 16 ≤ c1 := by omega
        have g19 : ¬ c1 = 16 := by omega
        have g20 : 16 ≤ L := by omega
        have hmin : min (L : Int) 16 = 16 := by omega
        have HRow : Hid (SeesM w (.slice (some ⟨b, off, none⟩) 16 c1) (row16 xs j)) := hidI (HS.out.low 16 (by omega))
        have HNx : Hid (SeesM w (.slice (some ⟨b, off + 48, none⟩) (L - 16) (c1 - 16)) (xs.drop (16 * (j + 1)))) := hidI (by
          have := HS.out.high 16 (by omega)
          rw [List.drop_drop] at this
          exact this)
        have HOA := hidI (World.ownsRow.alloc HO.out (.cells #[.slice (some ⟨b, off, none⟩) 16 c1] 22))
        have HSM := hidI (val_seen wr (.slice (some ⟨b, off, none⟩) 16 c1) 22)
        go_wp2_with (at_builtin; go_must (refine wpList_append_any Try.underlying62 Try.info22 rfl (by decide) (by decide) rfl _ _ rfl w.heap.size _ j _ rfl HOA.out _ 1 [.slice (some ⟨b, off, none⟩) 16 c1] rfl HSM.out (by simp [Value.oneCell']) (by omega) (by simp; omega) ?_); intro v9 w9 hown9 hgrow9 _; refine Hid.out ?_)
        refine hidI ?_
        have HB9 : Hid (Below w.heap.size w w9) := hidI (Below.grown (HB.out.alloc hsz _) hgrow9 (by simp; omega) (fun k hk => (HOA.out.lt k hk).1))
        have HO9 := hidI hown9
        clear hown9 hgrow9 HOA HSM
        go_wp2
        go_roundg g
        case measure => omega
        case rel =>
          refine ⟨j + 1, L - 16, c1 - 16, _, v9, _, by omega, rfl, rfl, by omega, hidI (by have := HL.out; omega), HNx, HO9, hidI ?_, HB9⟩
          intro i u hu
          by_cases hi : i < vs.length
          · rw [List.getElem?_append_left hi] at hu
            exact HR.out i u hu
          · rw [List.getElem?_append_right (by omega)] at hu
            have hi2 : i = j := by
              have := (List.getElem?_eq_some_iff.1 hu).1
              simp at this
              omega
            subst hi2
            rw [hvl, Nat.sub_self] at hu
            simp only [List.getElem?_cons_zero, Option.some.injEq] at hu
            rw [← hu]
            exact HRow.out
      · have g16 : ¬ (16 : Int) < (L : Int) := by omega
        have g17 : (L : Int) ≤ (c1 : Int) := by omega
        have hmin : min (L : Int) 16 = (L : Int) := by omega
        have hmin2 : min L 16 = L := by omega
        have HRow : Hid (SeesM w (.slice (some ⟨b, off, none⟩) L c1) (row16 xs j)) := hidI (by
          have := HS.out.low L (by omega)
          unfold row16
          have hd : (xs.drop (16 * j)).length = L := by rw [List.length_drop]; have h1 := HL.out; have h2 := HN.out; omega
          rw [List.take_of_length_le (by omega)]
          exact HS.out)
        have HNx : Hid (∀ p c, SeesM w (.slice p 0 c) (xs.drop (16 * (j + 1)))) := hidI fun p c => by
          rw [List.drop_eq_nil_of_le (by have h1 := HL.out; have h2 := HN.out; omega)]
          exact ⟨p, c, rfl, Nat.zero_le _, .inl rfl⟩
        have HOA := hidI (World.ownsRow.alloc HO.out (.cells #[.slice (some ⟨b, off, none⟩) L c1] 22))
        have HSM := hidI (val_seen wr (.slice (some ⟨b, off, none⟩) L c1) 22)
        by_cases hcL : c1 = L
        · have hcL' : L = c1 := hcL.symm
          subst hcL'
          go_wp2_with (at_builtin; go_must (refine wpList_append_any Try.underlying62 Try.info22 rfl (by decide) (by decide) rfl _ _ rfl w.heap.size _ j _ rfl HOA.out _ 1 [.slice (some ⟨b, off, none⟩) L L] rfl HSM.out (by simp [Value.oneCell']) (by omega) (by simp; omega) ?_); intro v9 w9 hown9 hgrow9 _; refine Hid.out ?_)
          refine hidI ?_
          have HB9 : Hid (Below w.heap.size w w9) := hidI (Below.grown (HB.out.alloc hsz _) hgrow9 (by simp; omega) (fun k hk => (HOA.out.lt k hk).1))
          have HO9 := hidI hown9
          clear hown9 hgrow9 HOA HSM
          go_wp2
          go_roundg g
          case measure => omega
          case rel =>
            refine ⟨j + 1, 0, _, _, v9, _, by omega, rfl, rfl, by omega, hidI (by have := HL.out; omega), hidI (HNx.out _ _), HO9, hidI ?_, HB9⟩
            intro i u hu
            by_cases hi : i < vs.length
            · rw [List.getElem?_append_left hi] at hu
              exact HR.out i u hu
            · rw [List.getElem?_append_right (by omega)] at hu
              have hi2 : i = j := by
                have := (List.getElem?_eq_some_iff.1 hu).1
                simp at this
                omega
              subst hi2
              rw [hvl, Nat.sub_self] at hu
              simp only [List.getElem?_cons_zero, Option.some.injEq] at hu
              rw [← hu]
              exact HRow.out
        · go_wp2_with (at_builtin; go_must (refine wpList_append_any Try.underlying62 Try.info22 rfl (by decide) (by decide) rfl _ _ rfl w.heap.size _ j _ rfl HOA.out _ 1 [.slice (some ⟨b, off, none⟩) L c1] rfl HSM.out (by simp [Value.oneCell']) (by omega) (by simp; omega) ?_); intro v9 w9 hown9 hgrow9 _; refine Hid.out ?_)
          refine hidI ?_
          have HB9 : Hid (Below w.heap.size w w9) := hidI (Below.grown (HB.out.alloc hsz _) hgrow9 (by simp; omega) (fun k hk => (HOA.out.lt k hk).1))
          have HO9 := hidI hown9
          clear hown9 hgrow9 HOA HSM
          go_wp2
          go_roundg g
          case measure => omega
          case rel =>
            refine ⟨j + 1, 0, _, _, v9, _, by omega, rfl, rfl, by omega, hidI (by have := HL.out; omega), hidI (HNx.out _ _), HO9, hidI ?_, HB9⟩
            intro i u hu
            by_cases hi : i < vs.length
            · rw [List.getElem?_append_left hi] at hu
              exact HR.out i u hu
            · rw [List.getElem?_append_right (by omega)] at hu
              have hi2 : i = j := by
                have := (List.getElem?_eq_some_iff.1 hu).1
                simp at this
                omega
              subst hi2
              rw [hvl, Nat.sub_self] at hu
              simp only [List.getElem?_cons_zero, Option.some.injEq] at hu
              rw [← hu]
              exact HRow.out
end Go.Proofs.Ytdfieflcclbgjaa
