/-
  The document's Distinct.
-/
import Derived.Test.YtbjoljokdjgbnaaDistinct
import Derived.Test.YtbjoljokdjgbnaaRound
namespace Go.Proofs.Ytbjoljokdjgbnaa
open Go.RowKit Go.Deep
def alike (es : Edges) (x : Int × Int) (k : Nat) : Bool := decide (x.1 = x.2) || decide (0 < (es.take k).count x)
theorem alike_succ (es : Edges) (x y : Int × Int) (k : Nat) (hy : es[k]? = some y) : alike es x (k + 1) = (alike es x k || decide (y.1 = x.1 ∧ y.2 = x.2)) := by
  unfold alike
  rw [List.take_add_one, hy, List.count_append]
  by_cases h : y.1 = x.1 ∧ y.2 = x.2
  · have : y = x := Prod.ext h.1 h.2
    subst this
    simp
  · have : ¬ y = x := fun e => h (by rw [e]; exact ⟨rfl, rfl⟩)
    rw [decide_eq_false h]
    simp [this]
theorem below_dn {n : Nat} {w V : World} (h : Below n w V) (k : Nat) : Below n w (V.drewN k) := ⟨h.os, h.tape, h.output, h.size, h.block⟩
theorem own_dn {W : World} {base e size n : Nat} {v : Value} {xs : List Value} (h : W.ownsRow base e size v n xs) (k : Nat) : (W.drewN k).ownsRow base e size v n xs := h
set_option maxRecDepth 100000 in
set_option maxHeartbeats 4000000 in
theorem rdistinct_walk (a : Option Addr) (cap : Nat) (es : Edges) (w : World) (hs : es = [] ∨ ∃ b off, a = some ⟨b, off, none⟩ ∧ Lie w b off es) (h32 : es.length ≤ 32) :
    Calls Try.prog 24 #[.slice a es.length cap] w fun e w' => ∃ u, e = .returned u ∧ SeesE w' u (dist es es.length) ∧ Below w.heap.size w w' := by
  obtain ⟨m, hm⟩ : ∃ m, es.length = m := ⟨_, rfl⟩
  rw [hm] at h32 ⊢
  have HM := hidI hm
  have HS := hidI hs
  clear hm hs
  go_enter Try.func24, Try.ntmps24
  go_wp2
  go_loopg [3, 4] m (fun g s3 s4 wx => ∃ (i : Nat), i + g = m ∧ s4 = .int .i64 i ∧ wx.ownsRow w.heap.size 55 2 s3 (dist es i).length (flat (dist es i)) ∧ Below w.heap.size w wx ∧ w.heap.size ≤ wx.heap.size)
  case atStart => exact ⟨0, by omega, rfl, World.ownsRow_nil _ _ _ _, Below.refl _ _, Nat.le_refl _⟩
  case round =>
    obtain ⟨i, hig, rfl, ho, hbl, hsz⟩ := hrel
    have HO := hidI ho
    have HB := hidI hbl
    clear ho hbl
    cases gk with
    | zero =>
      have hil : i = m := by omega
      subst hil
      go_wp2
      go_ret
      exact ⟨_, rfl, seesE_of_owns (base := w.heap.size) HO.out, HB.out⟩
    | succ g =>
      have hlt : i < m := by omega
      obtain ⟨x, hx⟩ : ∃ x, es[i]? = some x := ⟨es[i]'(by have := HM.out; omega), List.getElem?_eq_getElem _⟩
      rcases HS.out with h0 | ⟨b, off, rfl, hl⟩
      · have := HM.out; rw [h0] at this; simp at this; omega
      have hbw : b < w.heap.size := World.block_lt_of_cell? w _ (hl i x hx).1
      have HL := hidI hl
      have HX := hidI hx
      have e1 : wr.cell? ⟨b, off + i * 2, none⟩ = some (.int .i64 x.1) := (HB.out.cell (p := ⟨b, off + i * 2, none⟩) hbw).trans (hl i x hx).1
      have e2 : wr.cell? ⟨b, off + i * 2 + 1, none⟩ = some (.int .i64 x.2) := (HB.out.cell (p := ⟨b, off + i * 2 + 1, none⟩) hbw).trans (hl i x hx).2
      have hgt : es.getD i (0, 0) = x := by simp [List.getD, hx]
      have hds := dist_succ es i
      rw [hgt] at hds
      have hfr : fresh es i = !alike es x i := by
        have h2 : decide ((es.take i).count x = 0) = !decide (0 < (es.take i).count x) := by
          by_cases h : (es.take i).count x = 0
          · rw [decide_eq_true h, decide_eq_false (by omega)]; rfl
          · rw [decide_eq_false h, decide_eq_true (by omega)]; rfl
        unfold fresh alike; rw [hgt, h2, Bool.not_or, decide_not]
      have hdl := dist_length es i
      have HDS := hidI hds
      have HFR := hidI hfr
      clear hds hfr hgt hx hl
      go_wp2
      go_quiet (fail)
      generalize nq = n1
      go_wp2
      go_loopg [5, 6] i (fun gh s5 s6 wy => ∃ (k : Nat), k + gh = i ∧ s6 = .int .i64 k ∧ s5 = .bool (alike es x k) ∧ ∃ n2, wr.drewN n2 = wy)
      case atStart =>
        refine ⟨0, by omega, rfl, ?_, n1, rfl⟩
        simp [alike]
        rfl
      case round =>
        obtain ⟨k, hkg, rfl, rfl, n2, rfl⟩ := hrel
        cases gk with
        | zero =>
          have hki : k = i := by omega
          subst hki
          by_cases hal : alike es x k = true
          · rw [hal]
            have hf : fresh es k = false := by rw [HFR.out, hal]; rfl
            have HF := hidI hf
            clear hf
            go_wp2
            go_roundg g
            case measure => omega
            case rel =>
              refine ⟨k + 1, by omega, by go_num, ?_, below_dn HB.out _, hsz⟩
              rw [HDS.out, HF.out]; simpa using own_dn HO.out _
          · have hal' : alike es x k = false := by simpa using hal
            rw [hal']
            have hf : fresh es k = true := by rw [HFR.out, hal']; rfl
            have HF := hidI hf
            have O3 := hidI ((own_dn HO.out n2).alloc (.cells #[.int .i64 x.1, .int .i64 x.2] 55))
            have S3 := hidI (lie_one (wr.drewN n2) x 55)
            have K3 : Hid ((dist es k).length + [x].length ≤ 1000000) := hidI (by simp; omega)
            have K4 : Hid (w.heap.size ≤ ((wr.drewN n2).alloc (.cells #[.int .i64 x.1, .int .i64 x.2] 55)).heap.size) := hidI (by simp; omega)
            clear hf hal
            go_wp2_with (at_builtin; refine wpList_append_seesE rfl _ _ rfl w.heap.size _ _ _ rfl O3.out _ [x] rfl S3.out K3.out K4.out ?_; intro v' w1 hown' hgrow' hat')
            go_roundg g
            case measure => omega
            case rel =>
              refine ⟨k + 1, by omega, by go_num, ?_, ?_, ?_⟩
              · rw [HDS.out, HF.out]; simpa [flat_append, flat] using hown'
              · exact ((below_dn HB.out n2).alloc (below_dn HB.out n2).size _).grown hgrow' (by simp; omega) (fun q hq => (HO.out.lt q hq).1)
              · have := hgrow'.size; simp at this; omega
        | succ gh =>
          have hki : k < i := by omega
          have hkm : k < m := by omega
          have hkm2 : (k : Int) < (m : Int) := by omega
          obtain ⟨y, hy⟩ : ∃ y, es[k]? = some y := ⟨es[k]'(by have := HM.out; omega), List.getElem?_eq_getElem _⟩
          have f1 : wr.cell? ⟨b, off + k * 2, none⟩ = some (.int .i64 y.1) := (HB.out.cell (p := ⟨b, off + k * 2, none⟩) hbw).trans (HL.out k y hy).1
          have f2 : wr.cell? ⟨b, off + k * 2 + 1, none⟩ = some (.int .i64 y.2) := (HB.out.cell (p := ⟨b, off + k * 2 + 1, none⟩) hbw).trans (HL.out k y hy).2
          have HAS := hidI (alike_succ es x y k hy)
          clear hy
          by_cases hal : alike es x k = true
          · rw [hal]
            go_wp2
            go_quiet (fail)
            generalize nq = n3
            go_wp2
            go_roundg gh
            case measure => omega
            case rel =>
              refine ⟨k + 1, by omega, by go_num, ?_, _, rfl⟩
              rw [HAS.out, hal]; rfl
          · have hal' : alike es x k = false := by simpa using hal
            rw [hal']
            clear hal
            by_cases hA : y.1 = x.1
            · by_cases hB : y.2 = x.2
              · rw [hA] at f1
                rw [hB] at f2
                go_wp2
                go_quiet (fail)
                generalize nq = n3
                go_wp2
                go_roundg gh
                case measure => omega
                case rel =>
                  refine ⟨k + 1, by omega, by go_num, ?_, _, rfl⟩
                  rw [HAS.out, hal']
                  rw [decide_eq_true ⟨hA, hB⟩]; rfl
              · rw [hA] at f1
                have hB1 : (y.2 == x.2) = false := by simpa using hB
                have hB2 : decide (y.2 = x.2) = false := by simpa using hB
                go_wp2
                go_quiet (fail)
                generalize nq = n3
                go_wp2
                go_roundg gh
                case measure => omega
                case rel =>
                  refine ⟨k + 1, by omega, by go_num, ?_, _, rfl⟩
                  rw [HAS.out, hal']
                  rw [decide_eq_false (fun h => hB h.2)]; rfl
            · have hA1 : (y.1 == x.1) = false := by simpa using hA
              have hA2 : decide (y.1 = x.1) = false := by simpa using hA
              go_wp2
              go_quiet (fail)
              generalize nq = n3
              go_wp2
              go_roundg gh
              case measure => omega
              case rel =>
                refine ⟨k + 1, by omega, by go_num, ?_, _, rfl⟩
                rw [HAS.out, hal']
                rw [decide_eq_false (fun h => hA h.1)]; rfl
theorem rdistinct_any (v : Value) (es : Edges) (w : World) (hv : SeesE w v es) (h32 : es.length ≤ 32) :
    Calls Try.prog 24 #[v] w fun e w' => ∃ u, e = .returned u ∧ SeesE w' u (dist es es.length) ∧ Below w.heap.size w w' := by
  obtain ⟨a, cap, rfl, hs⟩ := hv
  exact rdistinct_walk a cap es w hs h32
end Go.Proofs.Ytbjoljokdjgbnaa
