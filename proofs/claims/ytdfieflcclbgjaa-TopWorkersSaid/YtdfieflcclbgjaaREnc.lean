/-
  The document's Encode of messages.
-/
import Derived.Test.YtdfieflcclbgjaaRegE
import Derived.Test.YtdfieflcclbgjaaRSort
namespace Go.Proofs.Ytdfieflcclbgjaa
open Go.RowKit Go.Deep Go.MapKept Go.Sort
def okM (x : Msg) : Bool := decide (0 ≤ x.to ∧ x.to < 12 ∧ 0 ≤ x.tag ∧ x.tag < 6)
def encM (x : Msg) : List Int := x.to :: x.tag :: encW x.val
def encMs (xs : List Msg) : List Int := xs.flatMap encM
theorem encMs_len : ∀ xs : List Msg, (encMs xs).length = xs.length * 10
  | [] => rfl
  | x :: r => by
    have := encMs_len r
    unfold encMs at this ⊢
    simp only [List.flatMap_cons, List.length_append, this, encM, List.length_cons, encW_len]
    omega
def REncPost (w : World) (xs : List Msg) (e : Ending) (w' : World) : Prop :=
  (xs.all okM = false ∧ e = .returned (.tuple #[.slice none 0 0, .int .i64 2]) ∧ Below w.heap.size w w') ∨ (xs.all okM = true ∧ EncPost w (encMs xs) e w')
set_option maxRecDepth 100000 in
set_option maxHeartbeats 2000000 in
theorem rencode_any (w : World) (v : Value) (xs : List Msg) (hv : SeesM w v xs) (hl : xs.length ≤ 500) : Calls Try.prog 24 #[v] w (REncPost w xs) := by
  obtain ⟨a, cap, rfl, hcap, hL⟩ := hv
  have HV : Hid (SeesM w (.slice a xs.length cap) xs) := hidI ⟨a, cap, rfl, hcap, hL⟩
  clear hL hcap
  obtain ⟨k, hk⟩ : ∃ k, xs.length = k := ⟨_, rfl⟩
  have HK := hidI hk
  rw [hk] at hl HV ⊢
  clear hk
  go_enter Try.func24, Try.ntmps24
  go_wp2
  go_loopg [4] k (fun g s4 wx => ∃ i : Nat, i + g = k ∧ s4 = .int .i64 i ∧ w = wx ∧ Hid (∀ x ∈ xs.take i, okM x = true))
  case atStart => exact ⟨0, by omega, rfl, rfl, hidI (by simp)⟩
  case round =>
    obtain ⟨i, hig, rfl, rfl, HO⟩ := hrel
    cases gk with
    | zero =>
      obtain rfl : k = i := by omega
      have k1 : decide ((k : Int) < (k : Int)) = false := by simp
      have HAll : Hid (∀ x ∈ xs, okM x = true) := hidI (by have := HO.out; rw [List.take_of_length_le (by have := HK.out; omega)] at this; exact this)
      clear HO
      go_wp2
      go_loopg [5, 6] k (fun g s5 s6 wx => ∃ (i : Nat) (pre : List Int) (a4 : Option Addr) (c4 : Nat), i + g = k ∧ s5 = .slice a4 pre.length c4 ∧ s6 = .int .i64 (i : Int) ∧ Hid (pre = encMs (xs.take i)) ∧ Hid (Keep w wx (.slice a4 pre.length c4) pre []))
      case atStart => exact ⟨0, [], none, 0, by omega, rfl, rfl, hidI rfl, hidI ⟨World.ownsRow_nil _ _ _ _, Below.refl _ _, by simp⟩⟩
      case round =>
        obtain ⟨i, pre, va4, vc4, hig, rfl, rfl, HP, HKe⟩ := hrel
        cases gk with
        | zero =>
          have hil : i = k := by omega
          have j1 : ¬ ((i : Int) < (k : Int)) := by omega
          have HF : Hid (SeesC wr (.slice va4 pre.length vc4) (encMs xs).length 1 (cellsB (encMs xs))) := hidI (by
            have e : encMs xs = pre := by rw [HP.out, hil, List.take_of_length_le (by have := HK.out; omega)]
            rw [e]
            exact seesC_of_owns HKe.out.own)
          clear hil
          go_wp2
          go_ret2
          exact .inr ⟨List.all_eq_true.2 HAll.out, _, rfl, HF.out, HKe.out.low, own_room HKe.out.own⟩
        | succ g =>
          have j1 : (i : Int) < (k : Int) := by omega
          obtain ⟨x, hx⟩ : ∃ x, xs[i]? = some x := ⟨_, List.getElem?_eq_getElem (by have := HK.out; omega)⟩
          obtain ⟨b1, o1, c1, e1, x0, x1, x2⟩ := HV.out.cell hx
          rw [HK.out] at e1
          cases e1
          have hbl : b1 < w.heap.size := World.block_lt_of_cell? w _ x0
          have HX01 : Hid (∀ y, Below w.heap.size w y → y.cell? ⟨b1, o1 + i * 3, none⟩ = some (.int .i64 x.to) ∧ y.cell? ⟨b1, o1 + i * 3 + 1, none⟩ = some (.int .i64 x.tag)) := hidI fun y hy => ⟨(hy.cell (p := ⟨b1, o1 + i * 3, none⟩) hbl).trans x0, (hy.cell (p := ⟨b1, o1 + i * 3 + 1, none⟩) hbl).trans x1⟩
          replace x2 := (HKe.out.low.cell (p := ⟨b1, o1 + i * 3 + 2, none⟩) hbl).trans x2
          have hok := of_decide_eq_true (HAll.out x (List.mem_of_getElem? hx))
          have HTK : Hid (encMs (xs.take (i + 1)) = encMs (xs.take i) ++ encM x) := hidI (by unfold encMs; rw [List.take_add_one, hx]; simp)
          have HW0 : Hid (IntKind.u8.wrap x.to = x.to) := hidI (by rw [IntKind.wrap_u8]; omega)
          have HW1 : Hid (IntKind.u8.wrap x.tag = x.tag) := hidI (by rw [IntKind.wrap_u8]; omega)
          have hpl : pre.length ≤ 5000 := by rw [HP.out, encMs_len, List.length_take]; omega
          clear x0 x1 hx hok
          have CB := hidI (bytesR_any x.val wr)
          obtain ⟨y0, y1, y2, y3, y4, y5, y6, y7, hy8⟩ : ∃ y0 y1 y2 y3 y4 y5 y6 y7, by8 x.val = #[Value.int .u8 y0, .int .u8 y1, .int .u8 y2, .int .u8 y3, .int .u8 y4, .int .u8 y5, .int .u8 y6, .int .u8 y7] := ⟨_, _, _, _, _, _, _, _, rfl⟩
          have HY8 := hidI hy8
          rw [hy8] at CB
          clear hy8
          go_wp2_with (go_at_call 49; refine CB.out.mono ?_; rintro e w5 ⟨rfl, hb5⟩; have HK5 := hidI (HKe.out.below hb5); clear hb5; refine Hid.out ?_)
          refine hidI ?_
          clear CB x2
          have HK6 := hidI (HK5.out.add (.cells #[.int .u8 y0, .int .u8 y1, .int .u8 y2, .int .u8 y3, .int .u8 y4, .int .u8 y5, .int .u8 y6, .int .u8 y7] 78) (notB_cells _ _ _ (by decide)))
          obtain ⟨b8, hb8⟩ : ∃ b8, w5.heap.size = b8 := ⟨_, rfl⟩
          rw [hb8] at HK6
          have Hb8 := hidI hb8
          clear hb8
          go_wp2
          rw [Hb8.out]
          clear HK5 Hb8
          generalize w5.alloc (.cells #[.int .u8 y0, .int .u8 y1, .int .u8 y2, .int .u8 y3, .int .u8 y4, .int .u8 y5, .int .u8 y6, .int .u8 y7] 78) = w6 at *
          have HK6d := hidI (HK6.out.below ((Below.refl _ _).drew))
          refine regE (x := x) (m := k) (n := pre.length) (B := w.heap.size) (cs := cellsB pre) (HX01.out _ HK6d.out.low) (by omega) hbl HK6d.out.low.size HK6d.out.own (by omega) HW0.out HW1.out (fun _ _ _ _ _ h => h) ?_
          intro W v9 t57 t58 t59 t60 t61 t62 t63 t64 t65 t66 t67 t68 t69 t70 t71 hown hgrow
          have HK9 := hidI ((HK6d.out.alloc (.cells #[.int .u8 x.to, .int .u8 x.tag] 5)).app (bs := [x.to, x.tag]) hown hgrow)
          clear hown hgrow HK6 HK6d
          obtain ⟨va9, vc9, hs9⟩ := HK9.out.slice
          subst hs9
          obtain ⟨q, hq⟩ : ∃ q, pre ++ [x.to, x.tag] = q := ⟨_, rfl⟩
          rw [hq] at HK9 ⊢
          have HQ := hidI hq
          have hql : q.length ≤ 5002 := by rw [← hq]; simp; omega
          clear hq
          go_wp2
          go_loopg [5, 8] 8 (fun g2 s5 s8 wz => ∃ (j : Nat) (r : List Int) (a4 : Option Addr) (c4 : Nat), j + g2 = 8 ∧ s5 = .slice a4 r.length c4 ∧ s8 = .int .i64 (j : Int) ∧ Hid (r = q ++ (encW x.val).take j) ∧ Hid (Keep w wz (.slice a4 r.length c4) r [(b8, .cells #[.int .u8 y0, .int .u8 y1, .int .u8 y2, .int .u8 y3, .int .u8 y4, .int .u8 y5, .int .u8 y6, .int .u8 y7] 78)]))
          case atStart => exact ⟨0, q, _, _, by omega, rfl, rfl, hidI (by simp), HK9⟩
          case round =>
            obtain ⟨j, r, va7, vc7, hjg, rfl, rfl, HR, HK7⟩ := hrel
            cases gk with
            | zero =>
              have hj8 : j = 8 := by omega
              have j8 : ¬ ((j : Int) < 8) := by omega
              have HN3 : Hid (r = encMs (xs.take (i + 1))) := hidI (by
                have e : (encW x.val).take 8 = encW x.val := rfl
                rw [HR.out, hj8, HTK.out, ← HQ.out, HP.out, e]
                simp [encM])
              clear hj8
              go_wp2
              go_roundg g
              case measure => omega
              case rel => exact ⟨i + 1, r, _, _, by omega, rfl, by go_num, HN3, hidI (HK7.out.few (by simp))⟩
            | succ g2 =>
              have hj8 : j < 8 := by omega
              have j8 : (j : Int) < 8 := by omega
              have j9 : (0 : Int) ≤ (j : Int) := by omega
              have j10 : ((j : Int)).toNat = j := by omega
              obtain ⟨y, hy1, hy2⟩ := by8_get (z := x.val) hj8
              rw [HY8.out] at hy1
              have e8 : wr.cell? ⟨b8, j, none⟩ = some (.int .u8 y) := obj_cell (HK7.out.obj (b8, _) (List.mem_cons.2 (.inl rfl))).1 hy1
              have hrl : r.length ≤ 5010 := by rw [HR.out, List.length_append, List.length_take]; omega
              have HTj : Hid ((encW x.val).take (j + 1) = (encW x.val).take j ++ [y]) := hidI (by rw [List.take_add_one, hy2]; rfl)
              have HK8 := hidI (HK7.out.alloc (.cells #[.int .u8 y] 5))
              have HV8 : Hid (SeesC (wr.alloc (.cells #[.int .u8 y] 5)) (.slice (some ⟨wr.heap.size, 0, none⟩) 1 1) 1 1 (cellsB [y])) := hidI (sees_built wr [y])
              clear hy1 hy2
              go_wp2_with (at_builtin; go_must (refine wpList_append_any Try.underlying40 Try.info5 rfl (by decide) (by decide) rfl _ _ rfl w.heap.size _ r.length (cellsB r) rfl HK8.out.own _ 1 (cellsB [y]) rfl HV8.out (cellsB_one _) (by omega) (by have := HK8.out.low.size; omega) ?_); intro v9 w9 hown9 hgrow9 _; refine Hid.out ?_)
              refine hidI ?_
              have HK9 := hidI (HK8.out.app (bs := [y]) hown9 hgrow9)
              clear hown9 hgrow9 HK8 HV8 e8
              obtain ⟨va9, vc9, hs9⟩ := HK9.out.slice
              subst hs9
              go_wp2
              go_roundg g2
              case measure => omega
              case rel => exact ⟨j + 1, r ++ [y], _, _, by omega, rfl, by go_num, hidI (by rw [HR.out, HTj.out]; simp), HK9⟩
    | succ g =>
      have k1 : (i : Int) < (k : Int) := by omega
      obtain ⟨x, hx⟩ : ∃ x, xs[i]? = some x := ⟨_, List.getElem?_eq_getElem (by have := HK.out; omega)⟩
      obtain ⟨b1, o1, c1, e1, x0, x1, x2⟩ := HV.out.cell hx
      rw [HK.out] at e1
      cases e1
      have HTK : Hid (xs.take (i + 1) = xs.take i ++ [x]) := hidI (by rw [List.take_add_one, hx]; rfl)
      have HBad : Hid (okM x = false → xs.all okM = false) := hidI fun h => by
        rw [List.all_eq_false]
        exact ⟨x, List.mem_of_getElem? hx, by simp [h]⟩
      clear hx x2
      obtain ⟨xt, xg, xv⟩ := x
      simp only at x0 x1
      by_cases h1 : xt < 0
      · have hb : okM ⟨xt, xg, xv⟩ = false := decide_eq_false (by simp only; omega)
        have HF := hidI (HBad.out hb)
        clear hb
        go_wp2
        go_ret2
        exact .inl ⟨HF.out, rfl, Below.refl _ _⟩
      · by_cases h2 : 12 ≤ xt
        · have hb : okM ⟨xt, xg, xv⟩ = false := decide_eq_false (by simp only; omega)
          have HF := hidI (HBad.out hb)
          clear hb
          have q1 : decide (xt < 0) = false := by simpa using h1
          go_wp2
          go_ret2
          exact .inl ⟨HF.out, rfl, Below.refl _ _⟩
        · by_cases h3 : xg < 0
          · have hb : okM ⟨xt, xg, xv⟩ = false := decide_eq_false (by simp only; omega)
            have HF := hidI (HBad.out hb)
            clear hb
            have q1 : decide (xt < 0) = false := by simpa using h1
            have q2 : decide (12 ≤ xt) = false := by simpa using h2
            go_wp2
            go_ret2
            exact .inl ⟨HF.out, rfl, Below.refl _ _⟩
          · by_cases h4 : 6 ≤ xg
            · have hb : okM ⟨xt, xg, xv⟩ = false := decide_eq_false (by simp only; omega)
              have HF := hidI (HBad.out hb)
              clear hb
              have q1 : decide (xt < 0) = false := by simpa using h1
              have q2 : decide (12 ≤ xt) = false := by simpa using h2
              have q3 : decide (xg < 0) = false := by simpa using h3
              go_wp2
              go_ret2
              exact .inl ⟨HF.out, rfl, Below.refl _ _⟩
            · have HOk : Hid (okM ⟨xt, xg, xv⟩ = true) := hidI (decide_eq_true (by simp only; omega))
              have q1 : decide (xt < 0) = false := by simpa using h1
              have q2 : decide (12 ≤ xt) = false := by simpa using h2
              have q3 : decide (xg < 0) = false := by simpa using h3
              have q4 : decide (6 ≤ xg) = false := by simpa using h4
              go_wp2
              go_roundg g
              case measure => omega
              case rel =>
                refine ⟨i + 1, by omega, by go_num, rfl, hidI fun y hy => ?_⟩
                rw [HTK.out] at hy
                rcases List.mem_append.1 hy with hy | hy
                · exact HO.out y hy
                · rw [List.mem_singleton.1 hy]; exact HOk.out
end Go.Proofs.Ytdfieflcclbgjaa
