/-
  The document's order of messages, whether messages are the same, those to a node.
-/
import Derived.Test.YtdfieflcclbgjaaMBase
namespace Go.Proofs.Ytdfieflcclbgjaa
open Go.RowKit Go.Deep Go.MapKept Go.Sort
def bef (x y : Msg) : Bool := if x.to = y.to then (if x.tag = y.tag then decide (x.val < y.val) else decide (x.tag < y.tag)) else decide (x.to < y.to)
set_option maxRecDepth 100000 in
set_option maxHeartbeats 1000000 in
theorem before_any (x y : Msg) (w : World) : Calls Try.prog 36 #[x.value, y.value] w fun e w' => e = .returned (.bool (bef x y)) ∧ Below w.heap.size w w' := by
  obtain ⟨a, b, c⟩ := x
  obtain ⟨d, e, f⟩ := y
  unfold Msg.value bef
  simp only
  have HB : Hid (Below w.heap.size w ((w.alloc (.cells #[.int .i64 a, .int .i64 b, .int .i64 c] 48)).alloc (.cells #[.int .i64 d, .int .i64 e, .int .i64 f] 48))) := hidI (by (repeat (first | exact Below.refl _ _ | assumption | refine Below.drew ?_ | refine Below.alloc ?_ (by first | omega | (simp; done) | (simp; omega)) _ | refine Below.setCell ?_ (by first | omega | (simp; done) | (simp; omega)) _)))
  by_cases h1 : a = d
  · by_cases h2 : b = e
    · subst h1 h2
      have k1 : (a == a) = true := by simp
      have k2 : (b == b) = true := by simp
      go_enter Try.func36, Try.ntmps36
      go_wp2
      go_ret
      exact ⟨by simp, HB.out⟩
    · subst h1
      have k1 : (a == a) = true := by simp
      have k2 : (b == e) = false := by simpa using h2
      have HE : Hid ((if b = e then decide (c < f) else decide (b < e)) = decide (b < e)) := hidI (if_neg h2)
      go_enter Try.func36, Try.ntmps36
      go_wp2
      go_ret
      exact ⟨by simp, HB.out⟩
  · have k1 : (a == d) = false := by simpa using h1
    go_enter Try.func36, Try.ntmps36
    go_wp2
    go_ret
    exact ⟨by simp, HB.out⟩
@[go_sem] theorem eq48 (a b c d e f : Int) (w : World) : (Op.equalIn 10000 48 (.agg #[.int .i64 a, .int .i64 b, .int .i64 c]) (.agg #[.int .i64 d, .int .i64 e, .int .i64 f])).run Try.prog w = .ok (a == d && b == e && c == f) w := by
  have u3 := Try.underlying3
  have u31 := Try.underlying31
  have hS : Try.prog.underlying 48 = some (.struct (Try.prog.fieldsOf 48)) := by kernel_rfl
  have hp : Try.prog.stoodInHeld 48 = false := by kernel_rfl
  rw [show (10000 : Nat) = 9999 + 1 from rfl, run_equalIn_agg w 9999 48 _ _ hS hp]
  simp only [Program.fieldsOf, Try.underlying48]
  go_simp
  cases h1 : (a == d) <;> cases h2 : (b == e) <;> cases h3 : (c == f) <;> simp_all
theorem SeesM.cell {w : World} {v : Value} {xs : List Msg} (h : SeesM w v xs) {j : Nat} {x : Msg} (hx : xs[j]? = some x) : ∃ b off cap, v = .slice (some ⟨b, off, none⟩) xs.length cap ∧ w.cell? ⟨b, off + j * 3, none⟩ = some (.int .i64 x.to) ∧ w.cell? ⟨b, off + j * 3 + 1, none⟩ = some (.int .i64 x.tag) ∧ w.cell? ⟨b, off + j * 3 + 2, none⟩ = some (.int .i64 x.val) := by
  obtain ⟨a, cap, rfl, _, h⟩ := h
  rcases h with rfl | ⟨b, off, rfl, h⟩
  · simp at hx
  · exact ⟨b, off, cap, rfl, h j x hx⟩
set_option maxRecDepth 100000 in
set_option maxHeartbeats 1000000 in
theorem rsame_eq (w : World) (v u : Value) (xs : List Msg) (hv : SeesM w v xs) (hu : SeesM w u xs) (hl : xs.length ≤ 100000) :
    Calls Try.prog 11 #[v, u] w fun e w' => e = .returned (.bool true) ∧ Below w.heap.size w w' := by
  obtain ⟨a, cap, rfl, hcap, hL⟩ := hv
  obtain ⟨b, cbp, rfl, hcbp, hM⟩ := hu
  have HV : Hid (SeesM w (.slice a xs.length cap) xs) := hidI ⟨a, cap, rfl, hcap, hL⟩
  have HU : Hid (SeesM w (.slice b xs.length cbp) xs) := hidI ⟨b, cbp, rfl, hcbp, hM⟩
  clear hL hM hcap hcbp
  obtain ⟨k, hk⟩ : ∃ k, xs.length = k := ⟨_, rfl⟩
  have HK := hidI hk
  rw [hk] at hl HV HU ⊢
  clear hk
  go_enter Try.func11, Try.ntmps11
  go_wp2
  go_loopg [5] k (fun g s5 wx => ∃ i : Nat, i + g = k ∧ s5 = .int .i64 i ∧ Hid (Below w.heap.size w wx))
  case atStart => exact ⟨0, by omega, rfl, hidI (Below.refl _ _)⟩
  case round =>
    obtain ⟨i, hig, rfl, HB⟩ := hrel
    cases gk with
    | zero =>
      obtain rfl : k = i := by omega
      have k1 : decide ((k : Int) < (k : Int)) = false := by simp
      go_wp2
      go_ret
      exact ⟨rfl, HB.out⟩
    | succ g =>
      have k1 : (i : Int) < (k : Int) := by omega
      obtain ⟨x, hx⟩ : ∃ x, xs[i]? = some x := ⟨_, List.getElem?_eq_getElem (by have := HK.out; omega)⟩
      obtain ⟨b1, o1, c1, e1, x0, x1, x2⟩ := HV.out.cell hx
      obtain ⟨b2, o2, c2, e2, y0, y1, y2⟩ := HU.out.cell hx
      rw [HK.out] at e1 e2
      cases e1
      cases e2
      have kk : ∀ {p : Addr} {v : Value}, w.cell? p = some v → ∀ d os, (grow (redrawn wr d) os).cell? p = some v := fun {p v} hc d os => cell_regrown ((HB.out.cell (World.block_lt_of_cell? w _ hc)).trans hc) d os
      replace x0 := kk x0
      replace x1 := kk x1
      replace x2 := kk x2
      replace y0 := kk y0
      replace y1 := kk y1
      replace y2 := kk y2
      clear kk hx
      go_wp2
      refine wp_region_quiet_below (by kernel_rfl) (by kernel_rfl) ?_
      repeat (first | go_big_quiet_step (fail) | quiet_step (fail))
      refine wpQuiet_nil ?_
      intro _ hw'
      obtain ⟨⟨dq, osq⟩, hw''⟩ := hw'
      subst hw''
      have HW := hidI (HB.out.trans ((below_regrown wr dq osq).mono HB.out.size))
      generalize grow (redrawn wr dq) osq = w7 at *
      clear x0 x1 x2 y0 y1 y2
      go_wp2
      go_roundg g
      case measure => omega
      case rel => exact ⟨i + 1, by omega, by go_num, HW⟩
set_option maxRecDepth 100000 in
set_option maxHeartbeats 1000000 in
theorem rfor_any (w : World) (v : Value) (xs : List Msg) (t : Int) (hv : SeesM w v xs) (hl : xs.length ≤ 10000) :
    Calls Try.prog 17 #[v, .int .i64 t] w fun e w' => ∃ v', e = .returned v' ∧ SeesM w' v' (xs.filter fun x => x.to == t) ∧ Below w.heap.size w w' := by
  obtain ⟨a, cap, rfl, hcap, hL⟩ := hv
  have HV : Hid (SeesM w (.slice a xs.length cap) xs) := hidI ⟨a, cap, rfl, hcap, hL⟩
  clear hL hcap
  obtain ⟨k, hk⟩ : ∃ k, xs.length = k := ⟨_, rfl⟩
  have HK := hidI hk
  rw [hk] at hl HV ⊢
  clear hk
  go_enter Try.func17, Try.ntmps17
  go_wp2
  go_loopg [5, 6] k (fun g s5 s6 wx => ∃ (i n : Nat) (v3 : Value), v3 = s5 ∧ i + g = k ∧ n ≤ i ∧ s6 = .int .i64 i ∧ Hid (Below w.heap.size w wx) ∧ Hid (wx.ownsRow w.heap.size 48 3 v3 n (flatM ((xs.take i).filter fun x => x.to == t))))
  case atStart => exact ⟨0, 0, _, rfl, by omega, by omega, rfl, hidI (Below.refl _ _), hidI (World.ownsRow_nil _ _ _ _)⟩
  case round =>
    obtain ⟨i, n, v3, rfl, hig, hni, rfl, HB, HO⟩ := hrel
    cases gk with
    | zero =>
      obtain rfl : k = i := by omega
      have k1 : decide ((k : Int) < (k : Int)) = false := by simp
      go_wp2
      go_ret
      have h := HO.out
      rw [List.take_of_length_le (by have := HK.out; omega)] at h
      exact ⟨v3, rfl, seesM_of_owns h, HB.out⟩
    | succ g =>
      have k1 : (i : Int) < (k : Int) := by omega
      obtain ⟨x, hx⟩ : ∃ x, xs[i]? = some x := ⟨_, List.getElem?_eq_getElem (by have := HK.out; omega)⟩
      obtain ⟨b1, o1, c1, e1, x0, x1, x2⟩ := HV.out.cell hx
      rw [HK.out] at e1
      cases e1
      have kk : ∀ {p : Addr} {v : Value}, w.cell? p = some v → wr.cell? p = some v := fun {p v} hc => (HB.out.cell (World.block_lt_of_cell? w _ hc)).trans hc
      replace x0 := kk x0
      replace x1 := kk x1
      replace x2 := kk x2
      clear kk
      have HTK : Hid (xs.take (i + 1) = xs.take i ++ [x]) := hidI (by rw [List.take_add_one, hx]; rfl)
      clear hx
      by_cases ht : x.to = t
      · obtain ⟨x1', x2', x3'⟩ := x
        simp only at ht
        subst ht
        simp only at x0 x1 x2
        have k2 : (x1' == x1') = true := by simp
        have HF : Hid (flatM ((xs.take (i + 1)).filter fun x => x.to == x1') = flatM ((xs.take i).filter fun x => x.to == x1') ++ Msg.cells ⟨x1', x2', x3'⟩) := hidI (by rw [HTK.out, List.filter_append, flatM_append]; simp [flatM_one])
        have HOA := hidI (World.ownsRow.alloc HO.out (.cells #[.int .i64 x1', .int .i64 x2', .int .i64 x3'] 48))
        have HSM := hidI (msg_seen (W := wr) ⟨x1', x2', x3'⟩)
        have hsz := HB.out.size
        go_wp2_with (at_builtin; go_must (refine wpList_append_any Try.underlying22 Try.info48 rfl (by decide) (by decide) rfl _ _ rfl w.heap.size _ n _ rfl HOA.out _ 1 (Msg.cells ⟨x1', x2', x3'⟩) rfl HSM.out (cells_one _) (by omega) (by simp; omega) ?_); intro v9 w9 hown9 hgrow9 _; refine Hid.out ?_)
        refine hidI ?_
        have HB9 : Hid (Below w.heap.size w w9) := hidI (Below.grown (HB.out.alloc hsz _) hgrow9 (by simp; omega) (fun k hk => (HOA.out.lt k hk).1))
        rw [← HF.out] at hown9
        have HO9 := hidI hown9
        clear hown9 hgrow9 HOA HSM
        go_wp2
        go_roundg g
        case measure => omega
        case rel => exact ⟨i + 1, n + 1, v9, rfl, by omega, by omega, by go_num, HB9, HO9⟩
      · have k2 : (x.to == t) = false := by simpa using ht
        have HF : Hid ((xs.take (i + 1)).filter (fun x => x.to == t) = (xs.take i).filter fun x => x.to == t) := hidI (by rw [HTK.out, List.filter_append]; simp [ht])
        go_wp2
        go_roundg g
        case measure => omega
        case rel => exact ⟨i + 1, n, v3, rfl, by omega, by omega, by go_num, HB, hidI (by rw [HF.out]; exact HO.out)⟩
end Go.Proofs.Ytdfieflcclbgjaa
