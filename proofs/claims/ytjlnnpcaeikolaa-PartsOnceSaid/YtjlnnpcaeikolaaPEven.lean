/-
  Whether no worker has two nodes more than another one: what Even comes to.
-/
import Derived.Test.YtjlnnpcaeikolaaPCut
namespace Go.Proofs.Ytjlnnpcaeikolaa
open Go.RowKit Go.Deep
def evenB (n k : Nat) (wk : Nat → Nat) : Bool := (List.range k).all fun a => (List.range k).all fun b => decide ((mem n wk a).length < (mem n wk b).length + 2)
theorem evenB_true {n k : Nat} {wk : Nat → Nat} (h : ∀ a b, a < k → b < k → (mem n wk a).length < (mem n wk b).length + 2) : evenB n k wk = true := by
  unfold evenB
  simp only [List.all_eq_true, List.mem_range, decide_eq_true_eq]
  exact fun a ha b hb => h a b ha hb
theorem evenB_false {n k : Nat} {wk : Nat → Nat} {a b : Nat} (ha : a < k) (hb : b < k) (h : ¬ (mem n wk a).length < (mem n wk b).length + 2) : evenB n k wk = false := by
  cases he : evenB n k wk with
  | false => rfl
  | true =>
    unfold evenB at he
    simp only [List.all_eq_true, List.mem_range, decide_eq_true_eq] at he
    exact absurd (he a ha b hb) h
theorem even_nil (w : World) : Calls Try.prog 25 #[.pointer none] w fun e w' => e = .returned (.bool false) ∧ w = w' := by
  go_enter Try.func25, Try.ntmps25
  go_wp2
  go_ret
  exact ⟨rfl, rfl⟩
theorem below_dn {n : Nat} {w V : World} (h : Below n w V) (k : Nat) : Below n w (V.drewN k) := ⟨h.os, h.tape, h.output, h.size, h.block⟩
set_option maxRecDepth 100000 in
set_option maxHeartbeats 4000000 in
theorem even_some (pb n k : Nat) (wk : Nat → Nat) (w : World) (hp : IsP w (some ⟨pb, 0, none⟩) n k wk) :
    Calls Try.prog 25 #[.pointer (some ⟨pb, 0, none⟩)] w fun e w' => e = .returned (.bool (evenB n k wk)) ∧ Below w.heap.size w w' := by
  rcases hp with ⟨h, _⟩ | ⟨pb', h, ⟨_, h12, h1, h4⟩, _, c0, c1, hr⟩
  · cases h
  cases h
  have HR := hidI hr
  have hk4 : (k : Int) ≤ 4 := by omega
  clear hr
  go_enter Try.func25, Try.ntmps25
  go_wp2
  go_quiet (fail)
  generalize nq = n1
  have HR2 : Hid (∀ u, u < 4 → ∃ a cap, (w.drewN n1).cell? ⟨pb, 2 + u, none⟩ = some (.slice a (mem n wk u).length cap)) := fun u hu => by
    obtain ⟨v, hc, a, cap, rfl, _⟩ := HR.out u hu
    exact ⟨a, cap, hc⟩
  have HB : Hid (Below w.heap.size w (w.drewN n1)) := below_dn (Below.refl _ w) n1
  obtain ⟨W, hW⟩ : ∃ W, w.drewN n1 = W := ⟨_, rfl⟩
  rw [hW] at HR2 HB ⊢
  clear hW HR c0 c1
  go_wp2
  go_loopg [20] k (fun g s20 wr => ∃ (i : Nat), i + g = k ∧ s20 = .int .i64 i ∧ W = wr ∧ ∀ a b, a < i → b < k → (mem n wk a).length < (mem n wk b).length + 2)
  case atStart => exact ⟨0, by omega, rfl, rfl, fun a b ha => absurd ha (by omega)⟩
  case round =>
    obtain ⟨i, hig, rfl, rfl, hall⟩ := hrel
    have HA := hidI hall
    clear hall
    cases gk with
    | zero =>
      have hil : i = k := by omega
      subst hil
      have hev := hidI (evenB_true HA.out)
      go_wp2
      go_ret
      exact ⟨by rw [hev.out]; rfl, HB.out⟩
    | succ g =>
      have hik : i < k := by omega
      have hik2 : (i : Int) < (k : Int) := by omega
      obtain ⟨ia, icap, ci⟩ := HR2.out i (by omega)
      have hil := mem_length n wk i
      obtain ⟨li, hli⟩ : ∃ li, (mem n wk i).length = li := ⟨_, rfl⟩
      rw [hli] at ci hil
      have HLI := hidI hli
      clear hli
      go_wp2
      go_loopg [26] k (fun gh s26 wy => ∃ (j : Nat), j + gh = k ∧ s26 = .int .i64 j ∧ W = wy ∧ ∀ b, b < j → (mem n wk i).length < (mem n wk b).length + 2)
      case atStart => exact ⟨0, by omega, rfl, rfl, fun b hb => absurd hb (by omega)⟩
      case round =>
        obtain ⟨j, hjg, rfl, rfl, hall⟩ := hrel
        have HJ := hidI hall
        clear hall
        cases gk with
        | zero =>
          have hjl : k = j := by omega
          subst hjl
          go_wp2
          go_roundg g
          case measure => omega
          case rel =>
            refine ⟨i + 1, by omega, by go_num, rfl, fun a b ha hb => ?_⟩
            by_cases e : a = i
            · subst e; exact HJ.out b hb
            · exact HA.out a b (by omega) hb
        | succ gh =>
          have hjk : j < k := by omega
          have hjk2 : (j : Int) < (k : Int) := by omega
          obtain ⟨ja, jcap, cj⟩ := HR2.out j (by omega)
          have hjl := mem_length n wk j
          obtain ⟨lj, hlj⟩ : ∃ lj, (mem n wk j).length = lj := ⟨_, rfl⟩
          rw [hlj] at cj hjl
          have HLJ := hidI hlj
          clear hlj
          have wr1 : IntKind.i64.wrap ((li : Int) - (lj : Int)) = (li : Int) - (lj : Int) := wrap_small (by omega) (by omega)
          by_cases hc : li < lj + 2
          · have hd : decide ((2 : Int) ≤ (li : Int) - (lj : Int)) = false := by simp; omega
            go_wp2
            go_roundg gh
            case measure => omega
            case rel =>
              refine ⟨j + 1, by omega, by go_num, rfl, fun b hb => ?_⟩
              by_cases e : b = j
              · subst e; rw [HLI.out, HLJ.out]; exact hc
              · exact HJ.out b (by omega)
          · have hd : (2 : Int) ≤ (li : Int) - (lj : Int) := by omega
            have hev : Hid (evenB n k wk = false) := evenB_false hik hjk (by rw [HLI.out, HLJ.out]; exact hc)
            go_wp2
            go_ret
            exact ⟨by rw [hev.out]; rfl, HB.out⟩
end Go.Proofs.Ytjlnnpcaeikolaa
