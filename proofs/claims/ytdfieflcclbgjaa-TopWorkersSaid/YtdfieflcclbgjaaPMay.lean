/-
  Whether the program's messages may be combined.
-/
import Derived.Test.YtdfieflcclbgjaaPFor
import Derived.Test.YtdfieflcclbgjaaRComb
namespace Go.Proofs.Ytdfieflcclbgjaa
open Go.RowKit Go.Deep Go.MapKept Go.Sort
def mayC (os : List Nat) (xs : List Msg) : Int := if xs.all (tagOk os) = false then 2 else if xs.all (opOk os) = false then 3 else 0
theorem all_false {p : Msg → Bool} {xs : List Msg} {x : Msg} {i : Nat} (hx : xs[i]? = some x) (h : p x = false) : xs.all p = false := by
  rw [List.all_eq_false]
  exact ⟨x, List.mem_of_getElem? hx, by simp [h]⟩
set_option maxRecDepth 100000 in
set_option maxHeartbeats 1000000 in
theorem pmay_any (w : World) (v u : Value) (xs : List Msg) (os : List Nat) (hv : SeesM w v xs) (hu : SeesO w u os) (hl : xs.length ≤ 10000)  :
    Calls Try.prog 41 #[v, u] w fun e w' => e = .returned (.int .i64 (mayC os xs)) ∧ Below w.heap.size w w' := by
  obtain ⟨a, cap, rfl, hcap, hL⟩ := hv
  have HV : Hid (SeesM w (.slice a xs.length cap) xs) := hidI ⟨a, cap, rfl, hcap, hL⟩
  obtain ⟨oa, oc, rfl, hO⟩ := hu
  have HU : Hid (SeesO w (.slice oa os.length oc) os) := hidI ⟨oa, oc, rfl, hO⟩
  clear hL hcap hO
  obtain ⟨k, hk⟩ : ∃ k, xs.length = k := ⟨_, rfl⟩
  have HK := hidI hk
  rw [hk] at hl HV ⊢
  clear hk
  obtain ⟨L, hL⟩ : ∃ L, os.length = L := ⟨_, rfl⟩
  have HL := hidI hL
  rw [hL] at HU ⊢
  clear hL
  obtain ⟨R, hR⟩ : ∃ R, mayC os xs = R := ⟨_, rfl⟩
  have HR := hidI hR
  rw [hR]
  clear hR
  go_enter Try.func41, Try.ntmps41
  go_wp2
  go_loopg [11] k (fun g s11 wx => ∃ i : Nat, i + g = k ∧ s11 = .int .i64 i ∧ Hid (Below w.heap.size w wx) ∧ Hid (∀ x ∈ xs.take i, tagOk os x = true))
  case atStart => exact ⟨0, by omega, rfl, hidI (Below.refl _ _), hidI (by simp)⟩
  case round =>
    obtain ⟨i, hig, rfl, HB, HO⟩ := hrel
    have hszr := HB.out.size
    cases gk with
    | zero =>
      obtain rfl : k = i := by omega
      have k1 : decide ((k : Int) < (k : Int)) = false := by simp
      have HAll : Hid (∀ x ∈ xs, tagOk os x = true) := hidI (by have := HO.out; rw [List.take_of_length_le (by have := HK.out; omega)] at this; exact this)
      clear HO
      obtain ⟨w0, hw0⟩ : ∃ w0, wr = w0 := ⟨_, rfl⟩
      subst hw0
      go_wp2
      go_loopg [28] k (fun g s28 wx => ∃ i : Nat, i + g = k ∧ s28 = .int .i64 i ∧ Hid (Below w.heap.size w wx) ∧ Hid (∀ x ∈ xs.take i, opOk os x = true))
      case atStart => exact ⟨0, by omega, rfl, HB, hidI (by simp)⟩
      case round =>
        obtain ⟨i, hig, rfl, HB, HO⟩ := hrel
        have hszr := HB.out.size
        cases gk with
        | zero =>
          obtain rfl : k = i := by omega
          have k1 : decide ((k : Int) < (k : Int)) = false := by simp
          have HF : Hid (R = 0) := hidI (by
            have h := HO.out
            rw [List.take_of_length_le (by have := HK.out; omega)] at h
            rw [← HR.out]
            unfold mayC
            rw [if_neg (by simpa using HAll.out), if_neg (by simpa using h)])
          go_wp2
          go_ret
          exact ⟨by rw [HF.out]; rfl, HB.out⟩
        | succ g =>
          have k1 : (i : Int) < (k : Int) := by omega
          obtain ⟨x, hx⟩ : ∃ x, xs[i]? = some x := ⟨_, List.getElem?_eq_getElem (by have := HK.out; omega)⟩
          obtain ⟨b1, o1, c1, e1, x0, x1, x2⟩ := HV.out.cell hx
          rw [HK.out] at e1
          cases e1
          have kk : ∀ {p : Addr} {v : Value}, w.cell? p = some v → wr.cell? p = some v := fun {p v} hc => (HB.out.cell (World.block_lt_of_cell? w _ hc)).trans hc
          replace x0 := kk x0
          replace x1 := kk x1
          replace x2 := kk x2
          have ht := of_decide_eq_true (HAll.out x (List.mem_of_getElem? hx))
          have HTK : Hid (xs.take (i + 1) = xs.take i ++ [x]) := hidI (by rw [List.take_add_one, hx]; rfl)
          have HBad : Hid (opOk os x = false → R = 3) := hidI fun h => by
            rw [← HR.out]
            unfold mayC
            rw [if_neg (by simpa using HAll.out), if_pos (all_false hx h)]
          clear hx
          obtain ⟨xt, xg, xv⟩ := x
          simp only at x0 x1 x2 ht
          obtain ⟨q, rfl⟩ : ∃ q : Nat, xg = (q : Int) := ⟨xg.toNat, by omega⟩
          have hq : q < os.length := by omega
          obtain ⟨o, ho⟩ : ∃ o, os[q]? = some o := ⟨_, List.getElem?_eq_getElem hq⟩
          obtain ⟨ob, oo, oc', eo, oc0⟩ := HU.out.cell ho
          rw [HL.out] at eo
          cases eo
          replace oc0 := kk oc0
          clear kk
          have kq : (q : Int) < (L : Int) := by have := HL.out; omega
          have hop : opOk os ⟨xt, (q : Int), xv⟩ = redB (o : Int) := by
            unfold opOk
            simp [List.getD, ho]
          have C := hidI (ptakes_any o)
          have HBA := hidI (HB.out.alloc hszr (.cells #[.int .i64 xt, .int .i64 (q : Int), .int .i64 xv] 48))
          have oc1 : (wr.alloc (.cells #[.int .i64 xt, .int .i64 (q : Int), .int .i64 xv] 48)).cell? ⟨ob, oo + q, none⟩ = some (.int .u8 (o : Int)) := (Below.cell ((Below.refl _ wr).alloc (Nat.le_refl _) _) (p := ⟨ob, oo + q, none⟩) (World.block_lt_of_cell? wr _ oc0)).trans oc0
          rw [hop] at HBad
          have HOP := hidI hop
          clear ht hq ho hop
          cases hr : redB (o : Int) with
          | false =>
            rw [hr] at C HBad
            have HF := hidI (HBad.out rfl)
            clear hr HOP HBad
            go_wp2_with (go_at_call 45; refine Calls.mono (C.out _) ?_; rintro e w' ⟨rfl, rfl⟩)
            go_ret
            exact ⟨by rw [HF.out]; rfl, HBA.out⟩
          | true =>
            rw [hr] at C HOP
            clear hr HBad
            go_wp2_with (go_at_call 45; refine Calls.mono (C.out _) ?_; rintro e w' ⟨rfl, rfl⟩)
            go_roundg g
            case measure => omega
            case rel =>
              refine ⟨i + 1, by omega, by go_num, HBA, hidI fun y hy => ?_⟩
              rw [HTK.out] at hy
              rcases List.mem_append.1 hy with hy | hy
              · exact HO.out y hy
              · rw [List.mem_singleton.1 hy]; exact HOP.out
    | succ g =>
      have k1 : (i : Int) < (k : Int) := by omega
      obtain ⟨x, hx⟩ : ∃ x, xs[i]? = some x := ⟨_, List.getElem?_eq_getElem (by have := HK.out; omega)⟩
      obtain ⟨b1, o1, c1, e1, x0, x1, x2⟩ := HV.out.cell hx
      rw [HK.out] at e1
      cases e1
      have kk : ∀ {p : Addr} {v : Value}, w.cell? p = some v → wr.cell? p = some v := fun {p v} hc => (HB.out.cell (World.block_lt_of_cell? w _ hc)).trans hc
      replace x0 := kk x0
      replace x1 := kk x1
      replace x2 := kk x2
      clear kk
      have HTK : Hid (xs.take (i + 1) = xs.take i ++ [x]) := hidI (by rw [List.take_add_one, hx]; rfl)
      have HBad : Hid (tagOk os x = false → R = 2) := hidI fun h => by
        rw [← HR.out]
        unfold mayC
        rw [if_pos (all_false hx h)]
      clear hx
      obtain ⟨xt, xg, xv⟩ := x
      simp only at x0 x1 x2
      have HBA := hidI (HB.out.alloc hszr (.cells #[.int .i64 xt, .int .i64 xg, .int .i64 xv] 48))
      by_cases h1 : xg < 0
      · have HF := hidI (HBad.out (decide_eq_false (by simp only; omega)))
        go_wp2
        go_ret
        exact ⟨by rw [HF.out]; rfl, HBA.out⟩
      · have q1 : decide (xg < 0) = false := by simpa using h1
        by_cases h2 : (L : Int) ≤ xg
        · have HF := hidI (HBad.out (decide_eq_false (by simp only; have := HL.out; omega)))
          go_wp2
          go_ret
          exact ⟨by rw [HF.out]; rfl, HBA.out⟩
        · have q2 : decide ((L : Int) ≤ xg) = false := by simpa using h2
          have HOk : Hid (tagOk os ⟨xt, xg, xv⟩ = true) := hidI (decide_eq_true (by simp only; have := HL.out; omega))
          go_wp2
          go_roundg g
          case measure => omega
          case rel =>
            refine ⟨i + 1, by omega, by go_num, HBA, hidI fun y hy => ?_⟩
            rw [HTK.out] at hy
            rcases List.mem_append.1 hy with hy | hy
            · exact HO.out y hy
            · rw [List.mem_singleton.1 hy]; exact HOk.out
end Go.Proofs.Ytdfieflcclbgjaa
