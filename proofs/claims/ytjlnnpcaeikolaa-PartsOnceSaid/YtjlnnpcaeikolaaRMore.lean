/-
  The document's parts: orders, edges that are cut, whether they are even, numbers that spread; lists that are the same.
-/
import Derived.Test.YtjlnnpcaeikolaaRTell
namespace Go.Proofs.Ytjlnnpcaeikolaa
open Go.RowKit Go.Deep
theorem same_eq (v u : Value) (zs : List Int) (w : World) (h : Sees w v zs) (h' : Sees w u zs) (hl : zs.length ≤ 1000000) : Calls Try.prog 13 #[v, u] w fun e w' => e = .returned (.bool true) ∧ Below w.heap.size w w' :=
  Perm.same_any v u zs w (toPerm h hl) (toPerm h' hl) hl
theorem rturn_ok (v u : Value) (p l : List Int) (w : World) (hv : Sees w v p) (hu : Sees w u l) (hr : Perm.rightB p = true) (hl : l.length = p.length) :
    Calls Try.prog 36 #[v, u] w fun e w' => ∃ x, e = .returned (.tuple #[x, .int .i64 0]) ∧ Sees w' x (Perm.turnL p l) ∧ Below w.heap.size w w' := by
  have h16 := (Perm.rightB_parts hr).1
  refine (Perm.refTurn_any v u p l w (toPerm hv (by omega)) (toPerm hu (by omega))).mono ?_
  have hb : Perm.turnB p l = true := by unfold Perm.turnB; simp [hr, hl]
  rintro e w' ⟨x, rfl, h1, h2⟩
  refine ⟨x, by rw [Perm.turnE, if_pos hb], ?_, h2⟩
  rw [Perm.turnW, if_pos hb] at h1
  exact ofPerm h1
theorem IsR.le {w : World} {rp : Option Addr} {n k : Nat} {wk : Nat → Nat} (h : IsR w rp n k wk) : n ≤ 12 := by
  rcases h with ⟨_, rfl, _⟩ | ⟨_, _, _, h, _⟩
  · omega
  · exact h.2.1
set_option maxRecDepth 100000 in
set_option maxHeartbeats 1000000 in
theorem rorder_any (rp : Option Addr) (n k : Nat) (wk : Nat → Nat) (u : Int) (kk : Nat) (hkk : kk < 18446744073709551616) (w : World) (hp : IsR w rp n k wk) :
    Calls Try.prog 17 #[.pointer rp, .int .i64 u, .int .u64 (kk : Int)] w fun e w' => ∃ v ps, e = .returned v ∧ ps.length = (memZ n wk u).length ∧ Perm.Steps (memZ n wk u).length Perm.none16 (kk % Perm.fac (memZ n wk u).length) ps ∧ Sees w' v (Perm.turnL ps (memZ n wk u)) ∧ Below w.heap.size w w' := by
  have CM := hidI (rmembers_any rp n k wk u w hp)
  have h12 := hp.le
  have hml := memZ_length n wk u
  obtain ⟨l, hl⟩ : ∃ l, memZ n wk u = l := ⟨_, rfl⟩
  rw [hl] at CM hml ⊢
  clear hl hp
  go_enter Try.func17, Try.ntmps17
  go_wp2_with (go_at_call 15; refine Calls.mono CM.out ?_; rintro e w1 ⟨v1, rfl, hs1, hb1⟩; refine Hid.out ?_)
  refine hidI ?_
  have HS1 := hidI hs1
  have HB1 := hidI hb1
  obtain ⟨a, cap, rfl, _⟩ := hs1
  have CF := hidI (Perm.refFrom_walk l.length kk w1 (by omega) hkk)
  clear CM hb1
  go_wp2_with (go_at_call 35; refine Calls.mono CF.out ?_; rintro e w2 ⟨xv, ps, rfl, hpl, hst, hs2, hb2⟩; refine Hid.out ?_)
  refine hidI ?_
  have HST := hidI hst
  have HPL := hidI hpl
  have HB2 := hidI (HB1.out.trans (hb2.mono HB1.out.size))
  have CT := hidI (rturn_ok _ _ ps l w2 (ofPerm hs2) (HS1.out.below hb2 (Nat.le_refl _)) (right_of_steps hst hpl (by omega)) hpl.symm)
  clear CF hb2 hst hpl hs2 HS1 HB1
  go_wp2_with (go_at_call 36; refine Calls.mono CT.out ?_; rintro e w3 ⟨x, rfl, hs3, hb3⟩; refine Hid.out ?_)
  refine hidI ?_
  have HS3 := hidI hs3
  have HB3 := hidI (HB2.out.trans (hb3.mono HB2.out.size))
  clear CT hs3 hb3 HB2
  go_wp2
  go_ret
  exact ⟨_, ps, rfl, HPL.out, HST.out, HS3.out, HB3.out⟩
set_option maxRecDepth 100000 in
set_option maxHeartbeats 4000000 in
theorem rcut_any (rp : Option Addr) (n k : Nat) (wk : Nat → Nat) (v : Value) (es : Edges) (w : World) (hp : IsR w rp n k wk) (hv : SeesE w v es) (hl : es.length ≤ 1000000) :
    Calls Try.prog 24 #[.pointer rp, v] w fun e w' => e = .returned (.int .i64 (cutP n wk es : Int)) ∧ Below w.heap.size w w' := by
  obtain ⟨a, cap, rfl, hs⟩ := hv
  have HP := hidI hp
  have HS := hidI hs
  obtain ⟨m, hm⟩ : ∃ m, es.length = m := ⟨_, rfl⟩
  rw [hm] at hl ⊢
  have HM := hidI hm
  clear hp hs hm
  go_enter Try.func24, Try.ntmps24
  go_wp2
  go_loopg [5, 6] m (fun g s5 s6 wr => ∃ (i : Nat), i + g = m ∧ s6 = .int .i64 i ∧ s5 = .int .i64 (cutP n wk (es.take i) : Int) ∧ Below w.heap.size w wr)
  case atStart => exact ⟨0, by omega, rfl, by simp [cutP], Below.refl _ _⟩
  case round =>
    obtain ⟨i, hig, rfl, rfl, hbl⟩ := hrel
    have HB := hidI hbl
    cases gk with
    | zero =>
      have hil : i = m := by omega
      subst hil
      have ht : es.take i = es := List.take_of_length_le (by rw [HM.out]; exact Nat.le_refl _)
      rw [ht]
      clear ht
      go_wp2
      go_ret
      exact ⟨rfl, HB.out⟩
    | succ g =>
      have hlt : i < m := by omega
      have hlt2 : (i : Int) < (m : Int) := by omega
      obtain ⟨x, hx⟩ : ∃ x, es[i]? = some x := ⟨es[i]'(by have := HM.out; omega), List.getElem?_eq_getElem _⟩
      have HX := hidI (cutP_next (n := n) (wk := wk) hx)
      rcases HS.out with h0 | ⟨b, off, rfl, hc⟩
      · have := HM.out; rw [h0] at this; simp at this; omega
      have hbw : b < w.heap.size := World.block_lt_of_cell? w _ (hc i x hx).1
      have hcl : cutP n wk (es.take i) ≤ i := Nat.le_trans (cutP_le _ _ _) (by rw [List.length_take]; omega)
      obtain ⟨x1, x2⟩ := x
      have D0 : Hid (∀ u, Below w.heap.size w u → u.cell? ⟨b, off + i * 2, none⟩ = some (.int .i64 x1)) := fun u hu => (hu.cell (p := ⟨b, off + i * 2, none⟩) hbw).trans (hc i _ hx).1
      have D1 : Hid (∀ u, Below w.heap.size w u → u.cell? ⟨b, off + i * 2 + 1, none⟩ = some (.int .i64 x2)) := fun u hu => (hu.cell (p := ⟨b, off + i * 2 + 1, none⟩) hbw).trans (hc i _ hx).2
      have C1 : Hid (∀ (u : World) (z : Int), Below w.heap.size w u → Calls Try.prog 12 #[.pointer rp, .int .i64 z] u fun e w' => e = .returned (.int .i64 (ofP n wk z)) ∧ Below w.heap.size w w') := fun u z hu => by
        refine (rof_any rp n k wk z u (HP.out.below hu (Nat.le_refl _))).mono ?_
        rintro e w' ⟨rfl, rfl⟩
        exact ⟨rfl, hu⟩
      have HCR : Hid (crosses n wk (x1, x2) = (decide (0 ≤ ofP n wk x1) && decide (0 ≤ ofP n wk x2) && !decide (ofP n wk x1 = ofP n wk x2))) := rfl
      obtain ⟨c, hcc⟩ : ∃ c, cutP n wk (es.take i) = c := ⟨_, rfl⟩
      rw [hcc] at HX hcl ⊢
      have s0 : Hid (Below w.heap.size w wr.drew) := hbl.drew
      clear hc hx hcc hbl
      go_wp2
      go_region_held3 (fun w' => Hid (Below w.heap.size w w') ∧ w'.cell? ⟨b, off + i * 2, none⟩ = some (.int .i64 x1) ∧ w'.cell? ⟨b, off + i * 2 + 1, none⟩ = some (.int .i64 x2))
        (first | assumption | exact ⟨kk, D0.out _ kk.out, D1.out _ kk.out⟩ | exact ⟨s0, D0.out _ s0.out, D1.out _ s0.out⟩)
        ((go_at_call 12; refine Calls.mono (C1.out _ _ (by first | exact kk.out | exact s0.out)) ?_; rintro e w' ⟨rfl, hb'⟩; have kk := hidI hb'; clear hb'))
      all_goals
        have HBW := hidI kk.out
        generalize ofP n wk x1 = p at *
        generalize ofP n wk x2 = q at *
        by_cases h1 : 0 ≤ p
        · by_cases h2 : 0 ≤ q
          · by_cases h3 : p = q
            · subst h3
              have hcr : crosses n wk (x1, x2) = false := by rw [HCR.out]; simp
              rw [hcr] at HX
              clear HCR hcr
              go_wp2
              go_roundg g
              case measure => omega
              case rel => exact ⟨i + 1, by omega, by go_num, by rw [HX.out]; rfl, HBW.out⟩
            · have hcr : crosses n wk (x1, x2) = true := by rw [HCR.out]; simp [h1, h2, h3]
              rw [hcr] at HX
              have h4 : (p == q) = false := by simp [h3]
              have h5 : decide (p = q) = false := by simp [h3]
              clear HCR hcr
              go_wp2
              go_roundg g
              case measure => omega
              case rel => exact ⟨i + 1, by omega, by go_num, by rw [HX.out]; go_num, HBW.out⟩
          · have hcr : crosses n wk (x1, x2) = false := by rw [HCR.out]; simp [h2]
            rw [hcr] at HX
            have h4 : decide (0 ≤ q) = false := by simp [h2]
            clear HCR hcr
            go_wp2
            go_roundg g
            case measure => omega
            case rel => exact ⟨i + 1, by omega, by go_num, by rw [HX.out]; rfl, HBW.out⟩
        · have hcr : crosses n wk (x1, x2) = false := by rw [HCR.out]; simp [h1]
          rw [hcr] at HX
          have h4 : decide (0 ≤ p) = false := by simp [h1]
          clear HCR hcr
          go_wp2
          go_roundg g
          case measure => omega
          case rel => exact ⟨i + 1, by omega, by go_num, by rw [HX.out]; rfl, HBW.out⟩
theorem reven_nil (w : World) : Calls Try.prog 26 #[.pointer none] w fun e w' => e = .returned (.bool false) ∧ w = w' := by
  go_enter Try.func26, Try.ntmps26
  go_wp2
  refine wp_loop_rounds 1 ?_
  rw [rounds_succ]
  go_wp2
  go_ret
  exact ⟨rfl, rfl⟩
theorem memZ_nat {n : Nat} {wk : Nat → Nat} (u : Nat) : memZ n wk (u : Int) = mem n wk u := by
  unfold memZ mem
  congr 1
  apply List.filter_congr
  intro v _
  have : ((wk v : Int) = (u : Int)) ↔ (wk v = u) := by omega
  simp [this]
set_option maxRecDepth 100000 in
set_option maxHeartbeats 4000000 in
theorem reven_some (rb n k : Nat) (wk : Nat → Nat) (w : World) (hp : IsR w (some ⟨rb, 0, none⟩) n k wk) :
    Calls Try.prog 26 #[.pointer (some ⟨rb, 0, none⟩)] w fun e w' => e = .returned (.bool (evenB n k wk)) ∧ Below w.heap.size w w' := by
  have HP := hidI hp
  have h12 := hp.le
  have hc0 : w.cell? ⟨rb, 0, none⟩ = some (.int .i64 (k : Int)) := by
    rcases hp with ⟨h, _⟩ | ⟨rb', v, h, _, c0, _⟩
    · cases h
    · cases h; exact c0
  have hk4 : k ≤ 4 := by
    rcases hp with ⟨h, _⟩ | ⟨rb', v, h, hm, _⟩
    · cases h
    · exact hm.2.2.2
  have hbw := World.block_lt_of_cell? w _ hc0
  have CM : Hid (∀ (u : World) (a : Nat), Below w.heap.size w u → Calls Try.prog 15 #[.pointer (some ⟨rb, 0, none⟩), .int .i64 (a : Int)] u fun e w' => ∃ x cap, e = .returned (.slice x (mem n wk a).length cap) ∧ Below w.heap.size w w') := fun u a hu => by
    refine (rmembers_any _ n k wk a u (HP.out.below hu (Nat.le_refl _))).mono ?_
    rintro e w' ⟨v, rfl, ⟨x, cap, rfl, _⟩, hb⟩
    rw [memZ_nat]
    exact ⟨x, cap, rfl, hu.trans (hb.mono hu.size)⟩
  have HC0 := hidI hc0
  clear hp hc0
  go_enter Try.func26, Try.ntmps26
  go_wp2
  go_loopg [3] k (fun g s3 wr => ∃ (i : Nat), i + g = k ∧ s3 = .int .i64 i ∧ Below w.heap.size w wr ∧ ∀ a b, a < i → b < k → (mem n wk a).length < (mem n wk b).length + 2)
  case atStart => exact ⟨0, by omega, rfl, Below.refl _ _, fun a b ha => absurd ha (by omega)⟩
  case round =>
    obtain ⟨i, hig, rfl, hbl, hall⟩ := hrel
    have HA := hidI hall
    have HB := hidI hbl
    have c0 : wr.cell? ⟨rb, 0, none⟩ = some (.int .i64 (k : Int)) := (hbl.cell (p := ⟨rb, 0, none⟩) hbw).trans HC0.out
    clear hall hbl
    cases gk with
    | zero =>
      have hil : i = k := by omega
      subst hil
      have hev := hidI (evenB_true HA.out)
      go_wp2
      go_ret
      exact ⟨by rw [hev.out]; rfl, HB.out⟩
    | succ g =>
      have hik : i < k := by omega
      have hik2 : (i : Int) < (k : Int) := by omega
      go_wp2
      go_loopg [4] k (fun gh s4 wy => ∃ (j : Nat), j + gh = k ∧ s4 = .int .i64 j ∧ Below w.heap.size w wy ∧ ∀ b, b < j → (mem n wk i).length < (mem n wk b).length + 2)
      case atStart => exact ⟨0, by omega, rfl, HB.out, fun b hb => absurd hb (by omega)⟩
      case round =>
        obtain ⟨j, hjg, rfl, hbl, hall⟩ := hrel
        have HJ := hidI hall
        have HBJ := hidI hbl
        have c1 : wr.cell? ⟨rb, 0, none⟩ = some (.int .i64 (k : Int)) := (hbl.cell (p := ⟨rb, 0, none⟩) hbw).trans HC0.out
        clear hall
        cases gk with
        | zero =>
          have hjl : k = j := by omega
          subst hjl
          clear hbl
          go_wp2
          go_roundg g
          case measure => omega
          case rel =>
            refine ⟨i + 1, by omega, by go_num, HBJ.out, fun a b ha hb => ?_⟩
            by_cases e : a = i
            · subst e; exact HJ.out b hb
            · exact HA.out a b (by omega) hb
        | succ gh =>
          have hjk : j < k := by omega
          have hjk2 : (j : Int) < (k : Int) := by omega
          have hil := mem_length n wk i
          have hjl := mem_length n wk j
          have CI := hidI (CM.out wr i hbl)
          have CJ := hidI (fun u hu => CM.out u j hu)
          obtain ⟨li, hli⟩ : ∃ li, (mem n wk i).length = li := ⟨_, rfl⟩
          obtain ⟨lj, hlj⟩ : ∃ lj, (mem n wk j).length = lj := ⟨_, rfl⟩
          rw [hli] at hil CI
          rw [hlj] at hjl
          have HLI := hidI hli
          have HLJ := hidI hlj
          clear hli hlj hbl
          go_wp2_with (go_at_call 15; refine Calls.mono CI.out ?_; rintro e w1 ⟨xa, xc, rfl, hb1⟩; refine Hid.out ?_)
          refine hidI ?_
          have CJ1 := hidI (CJ.out w1 hb1)
          rw [HLJ.out] at CJ1
          clear CI CJ hb1
          go_wp2_with (go_at_call 15; refine Calls.mono CJ1.out ?_; rintro e w2 ⟨ya, yc, rfl, hb2⟩; refine Hid.out ?_)
          refine hidI ?_
          have HB2 := hidI hb2
          have wr1 : IntKind.i64.wrap ((li : Int) - (lj : Int)) = (li : Int) - (lj : Int) := wrap_small (by omega) (by omega)
          clear CJ1 hb2
          by_cases hc : li < lj + 2
          · have hd : decide ((2 : Int) ≤ (li : Int) - (lj : Int)) = false := by simp; omega
            go_wp2
            go_roundg gh
            case measure => omega
            case rel =>
              refine ⟨j + 1, by omega, by go_num, HB2.out, fun b hb => ?_⟩
              by_cases e : b = j
              · subst e; rw [HLI.out, HLJ.out]; exact hc
              · exact HJ.out b (by omega)
          · have hd : (2 : Int) ≤ (li : Int) - (lj : Int) := by omega
            have hev : Hid (evenB n k wk = false) := evenB_false hik hjk (by rw [HLI.out, HLJ.out]; exact hc)
            go_wp2
            go_ret
            exact ⟨by rw [hev.out]; rfl, HB2.out⟩
end Go.Proofs.Ytjlnnpcaeikolaa
