/-
  A form by itself: whether it has what its kind may have.
-/
import Derived.Test.YtnlplkchkhibaaaDoorDeepD
namespace Go.Proofs.YtnlplkchkhibaaaDoor
open Go.RowKit Go.Deep Go.MapKept
/-- Has a form what its kind may have, and nothing else? -/
noncomputable def okF (x : Fm) : Bool :=
  if x.k = 1 then (x.s.toList == ([] : List UInt8)) && (x.n == 0)
  else if x.k = 3 then (kindW x.s == 3) && (x.n == 0) && ((x.kids.length : Int) == 0)
  else if x.k = 4 then (x.s.toList == ([] : List UInt8)) && ((x.kids.length : Int) == 0)
  else false
set_option maxHeartbeats 1000000 in
theorem isRight_any (x : Fm) (ka : Option Addr) (kc : Nat) (hs : x.s.size ≤ 140737488355328) (w : World) (hL : Laid w) :
    Calls Tryd.prog 31 #[.agg #[.int .u8 x.k, .string x.s, .int .i64 x.n, .slice ka x.kids.length kc, .int .i64 x.p]] w fun e w' => e = .returned (.bool (okF x)) ∧ Below w.heap.size w w' := by
  have CK := hidI (fun w h => kind_any x.s hs w h)
  have hbA : Below w.heap.size w (w.alloc (.cells #[.int .u8 x.k, .string x.s, .int .i64 x.n, .slice ka x.kids.length kc, .int .i64 x.p] 40)) := by (repeat (first | exact Below.refl _ _ | assumption | refine Below.drew ?_ | refine Below.alloc ?_ (by first | omega | (simp; done) | (simp; omega)) _ | refine Below.setCell ?_ (by first | omega | (simp; done) | (simp; omega)) _))
  have HLA := hidI (hL.on hbA)
  have HBA := hidI hbA
  clear hL hbA hs
  obtain ⟨k, s, n, kids, p⟩ := x
  simp only at CK HLA HBA ⊢
  obtain ⟨kl, hkl⟩ : ∃ kl : Nat, kids.length = kl := ⟨_, rfl⟩
  unfold okF
  simp only [hkl]
  rw [hkl] at HLA HBA
  clear hkl
  by_cases h1 : k = 1
  · subst h1
    rw [if_pos rfl]
    obtain ⟨b1, q1⟩ : ∃ b, (s.toList == ([] : List UInt8)) = b := ⟨_, rfl⟩
    obtain ⟨b2, q2⟩ : ∃ b, (n == 0) = b := ⟨_, rfl⟩
    rw [q1, q2]
    cases b1 <;> cases b2
    all_goals
      go_enter Tryd.func31, Tryd.ntmps31
      go_wp2
      go_ret
      exact ⟨rfl, HBA.out⟩
  rw [if_neg h1]
  have g1 : (k == 1) = false := by simp [h1]
  by_cases h3 : k = 3
  · subst h3
    rw [if_pos rfl]
    obtain ⟨K, hK⟩ : ∃ K, kindW s = K := ⟨_, rfl⟩
    rw [hK] at CK ⊢
    obtain ⟨b1, q1⟩ : ∃ b, (K == 3) = b := ⟨_, rfl⟩
    obtain ⟨b2, q2⟩ : ∃ b, (n == 0) = b := ⟨_, rfl⟩
    obtain ⟨b3, q3⟩ : ∃ b, ((kl : Int) == 0) = b := ⟨_, rfl⟩
    rw [q1, q2, q3]
    have ct : ∀ w1, Below (w.alloc (.cells #[.int .u8 3, .string s, .int .i64 n, .slice ka kl kc, .int .i64 p] 40)).heap.size (w.alloc (.cells #[.int .u8 3, .string s, .int .i64 n, .slice ka kl kc, .int .i64 p] 40)) w1 → w1.cell? ⟨w.heap.size, 2, none⟩ = some (.int .i64 n) ∧ w1.cell? ⟨w.heap.size, 3, none⟩ = some (.slice ka kl kc) := fun w1 h => ⟨(h.cell (p := ⟨w.heap.size, 2, none⟩) (by simp)).trans (by go_simp), (h.cell (p := ⟨w.heap.size, 3, none⟩) (by simp)).trans (by go_simp)⟩
    have CT := hidI ct
    clear ct
    cases b1 <;> cases b2 <;> cases b3
    all_goals
      go_enter Tryd.func31, Tryd.ntmps31
      go_wp2_with (go_at_call 50; refine (CK.out _ HLA.out).mono ?_; rintro e w1 ⟨rfl, hb1⟩; have ⟨y2, y3⟩ := CT.out w1 hb1; have HB1 := hidI hb1; clear hb1)
      go_ret
      exact ⟨rfl, HBA.out.trans (HB1.out.mono HBA.out.size)⟩
  rw [if_neg h3]
  have g3 : (k == 3) = false := by simp [h3]
  by_cases h4 : k = 4
  · subst h4
    rw [if_pos rfl]
    obtain ⟨b1, q1⟩ : ∃ b, (s.toList == ([] : List UInt8)) = b := ⟨_, rfl⟩
    obtain ⟨b2, q2⟩ : ∃ b, ((kl : Int) == 0) = b := ⟨_, rfl⟩
    rw [q1, q2]
    cases b1 <;> cases b2
    all_goals
      go_enter Tryd.func31, Tryd.ntmps31
      go_wp2
      go_ret
      exact ⟨rfl, HBA.out⟩
  rw [if_neg h4]
  have g4 : (k == 4) = false := by simp [h4]
  go_enter Tryd.func31, Tryd.ntmps31
  go_wp2
  go_ret
  exact ⟨rfl, HBA.out⟩
end Go.Proofs.YtnlplkchkhibaaaDoor
/-
  Right where it is told ahead of the walk: too many forms, or one that may not be.
-/
namespace Go.Proofs.YtnlplkchkhibaaaDoor
open Go.RowKit Go.Deep Go.MapKept
theorem right_long (fv tv : Value) (ms : List MV) (top : List Int) (w : World) (hm : SeesM w fv ms) (ht : SeesC w tv top.length 1 (intsI top)) (hn : 400 < ms.length) :
    Calls Tryd.prog 17 #[fv, tv] w fun e w' => e = .returned (.bool false) ∧ Below w.heap.size w w' := by
  obtain ⟨_, fa, fc, rfl, _⟩ := hm.row
  obtain ⟨_, ta, tc, rfl, _⟩ := ht
  have e1 : (400 : Int) < (ms.length : Int) := by omega
  clear hm
  go_enter Tryd.func17, Tryd.ntmps17
  go_wp2
  refine bodyPost_ret (v := .bool false) (by rw [results_one rfl]; go_simp) rfl ?_
  exact ⟨rfl, by (repeat (first | exact Below.refl _ _ | assumption | refine Below.drew ?_ | refine Below.alloc ?_ (by first | omega | (simp; done) | (simp; omega)) _ | refine Below.setCell ?_ (by first | omega | (simp; done) | (simp; omega)) _))⟩
theorem SeesM.load {w : World} {v : Value} {ms : List MV} (h : SeesM w v ms) {i : Nat} {x : MV} (hx : ms[i]? = some x) : ∃ fb fo fc ka kc, v = .slice (some ⟨fb, fo, none⟩) ms.length fc ∧ x.2 = .slice ka x.1.kids.length kc ∧ w.cell? ⟨fb, fo + i * 5, none⟩ = some (.int .u8 x.1.k) ∧ w.cell? ⟨fb, fo + i * 5 + 1, none⟩ = some (.string x.1.s) ∧ w.cell? ⟨fb, fo + i * 5 + 2, none⟩ = some (.int .i64 x.1.n) ∧ w.cell? ⟨fb, fo + i * 5 + 3, none⟩ = some (.slice ka x.1.kids.length kc) ∧ w.cell? ⟨fb, fo + i * 5 + 4, none⟩ = some (.int .i64 x.1.p) := by
  obtain ⟨fb, fo, fc, rfl, hc⟩ := h.cellAt hx
  obtain ⟨_, ka, kc, hkv, _⟩ := h.kid i x hx
  refine ⟨fb, fo, fc, ka, kc, rfl, hkv, hc 0 _ (by omega) rfl, hc 1 _ (by omega) rfl, hc 2 _ (by omega) rfl, ?_, hc 4 _ (by omega) rfl⟩
  rw [← hkv]
  exact hc 3 _ (by omega) rfl
set_option maxHeartbeats 2000000 in
theorem right_bad (fv tv : Value) (ms : List MV) (top : List Int) (w : World) (hL : Laid w) (hm : SeesM w fv ms) (ht : SeesC w tv top.length 1 (intsI top)) (hn : ms.length ≤ 400) (htl : top.length ≤ 281474976710656) (hkl : ∀ x ∈ ms, x.1.kids.length ≤ 281474976710656) (hsl : ∀ x ∈ ms, x.1.s.size ≤ 140737488355328)
    (m : Nat) (hml : m < ms.length) (hok : ∀ i x, i < m → ms[i]? = some x → okF x.1 = true) (hbad : ∀ x, ms[m]? = some x → okF x.1 = false) :
    Calls Tryd.prog 17 #[fv, tv] w fun e w' => e = .returned (.bool false) ∧ Below w.heap.size w w' := by
  obtain ⟨_, fa, fc, hfv, _⟩ := hm.row
  obtain ⟨_, ta, tc, rfl, _⟩ := ht
  subst hfv
  have HM := hidI hm
  have HL := hidI hL
  have HOK := hidI hok
  have HBAD := hidI hbad
  have HKL := hidI hkl
  have HSL := hidI hsl
  have e1 : ¬ (400 : Int) < (ms.length : Int) := by omega
  have g0 := Boxed.new w 4 (.bool false)
  have HG0 := hidI g0
  have HB0 : Hid (Below w.heap.size w (w.alloc (.cells #[.bool false] 4))) := hidI (by (repeat (first | exact Below.refl _ _ | assumption | refine Below.drew ?_ | refine Below.alloc ?_ (by first | omega | (simp; done) | (simp; omega)) _ | refine Below.setCell ?_ (by first | omega | (simp; done) | (simp; omega)) _)))
  clear hm hok hbad hL hkl hsl g0
  go_enter Tryd.func17, Tryd.ntmps17
  go_wp2
  go_loopg [5, 18] (m + 1) (fun g s5 s18 wx => ∃ (i : Nat) (nm : Int), i + g = m + 1 ∧ 0 < g ∧ s18 = .int .i64 (i : Int) ∧ s5 = .int .i64 nm ∧ 0 ≤ nm ∧ nm ≤ 281474976710656 * ((i : Int) + 1) ∧ Hid (Boxed wx w.heap.size 4 (.bool false)) ∧ Hid (Below w.heap.size w wx))
  case atStart => exact ⟨0, top.length, by omega, by omega, rfl, rfl, by omega, by omega, HG0, HB0⟩
  case round =>
    obtain ⟨i, nm, hi, hgk, rfl, rfl, hn0, hn1, HG, HB⟩ := hrel
    cases gk with
    | zero => omega
    | succ g =>
      have hil : i < ms.length := by omega
      have hxn : ms[i]? = some ms[i] := List.getElem?_eq_getElem hil
      obtain ⟨x, hx⟩ : ∃ x, ms[i] = x := ⟨_, rfl⟩
      rw [hx] at hxn
      have hsm := HM.out.below HB.out (Nat.le_refl _)
      obtain ⟨fb, fo, fc', ka, kc, hfv, hkv, y0, y1, y2, y3, y4⟩ := hsm.load hxn
      cases hfv
      have e2 : (i : Int) < (ms.length : Int) := by omega
      have e3 : (0 : Int) ≤ (i : Int) := by omega
      have e4 : ((i : Int)).toNat = i := by omega
      have hkx := HKL.out x (List.mem_of_getElem? hxn)
      have hbA : Below wr.heap.size wr (wr.alloc (.cells #[.int .u8 x.1.k, .string x.1.s, .int .i64 x.1.n, .slice ka x.1.kids.length kc, .int .i64 x.1.p] 40)) := by (repeat (first | exact Below.refl _ _ | assumption | refine Below.drew ?_ | refine Below.alloc ?_ (by first | omega | (simp; done) | (simp; omega)) _ | refine Below.setCell ?_ (by first | omega | (simp; done) | (simp; omega)) _))
      have hLA := (HL.out.on HB.out).on hbA
      have HC := hidI (isRight_any x.1 ka kc (HSL.out x (List.mem_of_getElem? hxn)) _ hLA)
      have HBA := hidI (HB.out.trans (hbA.mono HB.out.size))
      have hGA := HG.out.alloc (.cells #[.int .u8 x.1.k, .string x.1.s, .int .i64 x.1.n, .slice ka x.1.kids.length kc, .int .i64 x.1.p] 40)
      have HGA := hidI hGA
      have hks : (wr.alloc (.cells #[.int .u8 x.1.k, .string x.1.s, .int .i64 x.1.n, .slice ka x.1.kids.length kc, .int .i64 x.1.p] 40)).cell? ⟨wr.heap.size, 3, none⟩ = some (.slice ka x.1.kids.length kc) := by go_simp
      have HKS := hidI hks
      have hszA : wr.heap.size < (wr.alloc (.cells #[.int .u8 x.1.k, .string x.1.s, .int .i64 x.1.n, .slice ka x.1.kids.length kc, .int .i64 x.1.p] 40)).heap.size := by simp
      have wk : IntKind.i64.wrap (nm + (x.1.kids.length : Int)) = nm + (x.1.kids.length : Int) := by rw [IntKind.wrap_i64]; omega
      cases g with
      | zero =>
        obtain rfl : i = m := by omega
        have hb := HBAD.out x hxn
        rw [hb] at HC
        clear hx hsm hxn hkv hbA hLA hks hGA hb
        go_wp2_with (go_at_call 31; refine HC.out.mono ?_; rintro e w1 ⟨rfl, hb1⟩; have hz := box_below HGA.out hb1; have hzc := hz.cell; have hzf := hz.frozen; have HB1 := hidI hb1; have HZ := hidI hz; clear hb1 hz)
        have hzs := World.cell?_setCell_same w1 ⟨w.heap.size, 0, none⟩ (.bool false) hzc
        refine bodyPost_ret (v := .bool false) (by rw [results_one rfl]; go_simp) rfl ?_
        exact ⟨rfl, (HBA.out.trans (HB1.out.mono HBA.out.size)).setCell (Nat.le_refl _) _⟩
      | succ g =>
        have hb := HOK.out i x (by omega) hxn
        rw [hb] at HC
        clear hx hsm hxn hkv hbA hLA hks hGA hb
        go_wp2_with (go_at_call 31; refine HC.out.mono ?_; rintro e w1 ⟨rfl, hb1⟩; have hz := box_below HGA.out hb1; have hks1 := (hb1.cell (p := ⟨wr.heap.size, 3, none⟩) hszA).trans HKS.out; have HB1 := hidI hb1; have HZ := hidI hz; clear hb1 hz)
        go_roundg (g + 1)
        case measure => omega
        case rel => exact ⟨i + 1, nm + (x.1.kids.length : Int), by omega, by omega, by go_num, rfl, by omega, by omega, HZ, hidI (HBA.out.trans (HB1.out.mono HBA.out.size))⟩
end Go.Proofs.YtnlplkchkhibaaaDoor
