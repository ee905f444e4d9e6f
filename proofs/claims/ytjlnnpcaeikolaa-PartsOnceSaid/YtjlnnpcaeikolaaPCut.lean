/-
  Edges that lead from one worker's node to another one's: what Cut comes to.
-/
import Derived.Test.YtjlnnpcaeikolaaPMem
namespace Go.Proofs.Ytjlnnpcaeikolaa
open Go.RowKit Go.Deep
/-- Does the edge lead from one worker's node to another one's? -/
def crosses (n : Nat) (wk : Nat → Nat) (x : Int × Int) : Bool := decide (0 ≤ ofP n wk x.1) && decide (0 ≤ ofP n wk x.2) && !decide (ofP n wk x.1 = ofP n wk x.2)
def cutP (n : Nat) (wk : Nat → Nat) (es : Edges) : Nat := es.countP (crosses n wk)
theorem cutP_le (n : Nat) (wk : Nat → Nat) (es : Edges) : cutP n wk es ≤ es.length := List.countP_le_length
theorem cutP_next {n : Nat} {wk : Nat → Nat} {es : Edges} {i : Nat} {x : Int × Int} (h : es[i]? = some x) : cutP n wk (es.take (i + 1)) = cutP n wk (es.take i) + (if crosses n wk x then 1 else 0) := by
  unfold cutP
  rw [List.take_add_one, h, List.countP_append]
  simp [List.countP_cons]
set_option maxRecDepth 100000 in
set_option maxHeartbeats 4000000 in
theorem cut_any (pp : Option Addr) (n k : Nat) (wk : Nat → Nat) (v : Value) (es : Edges) (w : World) (hp : IsP w pp n k wk) (hv : SeesE w v es) (hl : es.length ≤ 1000000) :
    Calls Try.prog 23 #[.pointer pp, v] w fun e w' => e = .returned (.int .i64 (cutP n wk es : Int)) ∧ Below w.heap.size w w' := by
  obtain ⟨a, cap, rfl, hs⟩ := hv
  have HP := hidI hp
  have HS := hidI hs
  obtain ⟨m, hm⟩ : ∃ m, es.length = m := ⟨_, rfl⟩
  rw [hm] at hl ⊢
  have HM := hidI hm
  clear hp hs hm
  go_enter Try.func23, Try.ntmps23
  go_wp2
  go_loopg [5, 12] m (fun g s5 s12 wr => ∃ (i : Nat), i + g = m ∧ s12 = .int .i64 i ∧ s5 = .int .i64 (cutP n wk (es.take i) : Int) ∧ Below w.heap.size w wr)
  case atStart => exact ⟨0, by omega, rfl, by simp [cutP], Below.refl _ _⟩
  case round =>
    obtain ⟨i, hig, rfl, rfl, hbl⟩ := hrel
    have HB := hidI hbl
    cases gk with
    | zero =>
      have hil : i = m := by omega
      subst hil
      have ht : es.take i = es := List.take_of_length_le (by rw [HM.out]; exact Nat.le_refl _)
      rw [ht]
      clear ht
      go_wp2
      go_ret
      exact ⟨rfl, HB.out⟩
    | succ g =>
      have hlt : i < m := by omega
      have hlt2 : (i : Int) < (m : Int) := by omega
      obtain ⟨x, hx⟩ : ∃ x, es[i]? = some x := ⟨es[i]'(by have := HM.out; omega), List.getElem?_eq_getElem _⟩
      have HX := hidI (cutP_next (n := n) (wk := wk) hx)
      rcases HS.out with h0 | ⟨b, off, rfl, hc⟩
      · have := HM.out; rw [h0] at this; simp at this; omega
      have hbw : b < w.heap.size := World.block_lt_of_cell? w _ (hc i x hx).1
      have c1 : wr.cell? ⟨b, off + i * 2, none⟩ = some (.int .i64 x.1) := (hbl.cell (p := ⟨b, off + i * 2, none⟩) hbw).trans (hc i x hx).1
      have c2 : wr.cell? ⟨b, off + i * 2 + 1, none⟩ = some (.int .i64 x.2) := (hbl.cell (p := ⟨b, off + i * 2 + 1, none⟩) hbw).trans (hc i x hx).2
      have hcl : cutP n wk (es.take i) ≤ i := Nat.le_trans (cutP_le _ _ _) (by rw [List.length_take]; omega)
      have hsz := hbl.size
      obtain ⟨x1, x2⟩ := x
      simp only at c1 c2
      obtain ⟨c, hcc⟩ : ∃ c, cutP n wk (es.take i) = c := ⟨_, rfl⟩
      rw [hcc] at HX hcl ⊢
      have BA : Hid (Below w.heap.size w (wr.alloc (.cells #[.int .i64 x1, .int .i64 x2] 44))) := hbl.alloc hsz _
      have PA : Hid (IsP (wr.alloc (.cells #[.int .i64 x1, .int .i64 x2] 44)) pp n k wk) := HP.out.below BA.out (Nat.le_refl _)
      have hc0 : (wr.alloc (.cells #[.int .i64 x1, .int .i64 x2] 44)).cell? ⟨wr.heap.size, 0, none⟩ = some (.int .i64 x1) := cell_pair0 _ _ _ _
      have hc1 : (wr.alloc (.cells #[.int .i64 x1, .int .i64 x2] 44)).cell? ⟨wr.heap.size, 1, none⟩ = some (.int .i64 x2) := cell_pair1 _ _ _ _
      clear hc hx hcc hbl
      go_wp2
      obtain ⟨WA, hWA⟩ : ∃ WA, wr.alloc (.cells #[.int .i64 x1, .int .i64 x2] 44) = WA := ⟨_, rfl⟩
      have hwb : wr.heap.size < WA.heap.size := by rw [← hWA]; simp
      rw [hWA] at BA PA hc0 hc1 ⊢
      clear hWA c1 c2
      have d0 : ∀ u, Below WA.heap.size WA u → u.cell? ⟨wr.heap.size, 0, none⟩ = some (.int .i64 x1) := fun u hu => (hu.cell (p := ⟨wr.heap.size, 0, none⟩) hwb).trans hc0
      have d1 : ∀ u, Below WA.heap.size WA u → u.cell? ⟨wr.heap.size, 1, none⟩ = some (.int .i64 x2) := fun u hu => (hu.cell (p := ⟨wr.heap.size, 1, none⟩) hwb).trans hc1
      have D0 := hidI d0
      have D1 := hidI d1
      have OF := hidI (fun (u : World) (hu : Below WA.heap.size WA u) (z : Int) => of_any pp n k wk z u (PA.out.below hu (Nat.le_refl _)))
      have C1 : Hid (∀ (u : World) (z : Int), Below WA.heap.size WA u → Calls Try.prog 11 #[.pointer pp, .int .i64 z] u fun e w' => e = .returned (.int .i64 (ofP n wk z)) ∧ Below WA.heap.size WA w') := fun u z hu => by
        refine (OF.out u hu z).mono ?_
        rintro e w' ⟨rfl, hb⟩
        exact ⟨rfl, hu.trans (hb.mono hu.size)⟩
      have s0 : Hid (Below WA.heap.size WA WA.drew) := (Below.refl _ WA).drew
      clear d0 d1 OF hc0 hc1
      go_region_held3 (fun w' => Hid (Below WA.heap.size WA w') ∧ w'.cell? ⟨wr.heap.size, 0, none⟩ = some (.int .i64 x1) ∧ w'.cell? ⟨wr.heap.size, 1, none⟩ = some (.int .i64 x2))
        (first | assumption | exact ⟨kk, D0.out _ kk.out, D1.out _ kk.out⟩ | exact ⟨s0, D0.out _ s0.out, D1.out _ s0.out⟩)
        ((go_at_call 11; refine Calls.mono (C1.out _ _ (by first | exact kk.out | exact s0.out)) ?_; rintro e w' ⟨rfl, hb'⟩; have kk := hidI hb'; clear hb'))
      all_goals
        have HBW := hidI (BA.out.trans (kk.out.mono BA.out.size))
        have HCR : Hid (crosses n wk (x1, x2) = (decide (0 ≤ ofP n wk x1) && decide (0 ≤ ofP n wk x2) && !decide (ofP n wk x1 = ofP n wk x2))) := rfl
        generalize ofP n wk x1 = p at *
        generalize ofP n wk x2 = q at *
        by_cases h1 : 0 ≤ p
        · by_cases h2 : 0 ≤ q
          · by_cases h3 : p = q
            · subst h3
              have hcr : crosses n wk (x1, x2) = false := by rw [HCR.out]; simp
              rw [hcr] at HX
              clear HCR hcr
              go_wp2
              go_roundg g
              case measure => omega
              case rel => exact ⟨i + 1, by omega, by go_num, by rw [HX.out]; rfl, HBW.out⟩
            · have hcr : crosses n wk (x1, x2) = true := by rw [HCR.out]; simp [h1, h2, h3]
              rw [hcr] at HX
              have h4 : (p == q) = false := by simp [h3]
              have h5 : decide (p = q) = false := by simp [h3]
              clear HCR hcr
              go_wp2
              go_roundg g
              case measure => omega
              case rel => exact ⟨i + 1, by omega, by go_num, by rw [HX.out]; go_num, HBW.out⟩
          · have hcr : crosses n wk (x1, x2) = false := by rw [HCR.out]; simp [h2]
            rw [hcr] at HX
            have h4 : decide (0 ≤ q) = false := by simp [h2]
            clear HCR hcr
            go_wp2
            go_roundg g
            case measure => omega
            case rel => exact ⟨i + 1, by omega, by go_num, by rw [HX.out]; rfl, HBW.out⟩
        · have hcr : crosses n wk (x1, x2) = false := by rw [HCR.out]; simp [h1]
          rw [hcr] at HX
          have h4 : decide (0 ≤ p) = false := by simp [h1]
          clear HCR hcr
          go_wp2
          go_roundg g
          case measure => omega
          case rel => exact ⟨i + 1, by omega, by go_num, by rw [HX.out]; rfl, HBW.out⟩
end Go.Proofs.Ytjlnnpcaeikolaa
