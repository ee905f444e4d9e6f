/-
  Part 28 of the proof: TlG.
-/
import Derived.Test.YtmekkhfohmfjkaaGreatDoorTm27
namespace Go.Proofs.YtmekkhfohmfjkaaGreatDoor
open Go.RowKit Go.Deep Go.MapKept
def qe6o0 : Oper := ⟨some 16, .move (.tmp 0), 45, "slices.go:25", #[], none⟩
def qe6o1 : Oper := ⟨some 17, .move (.tmp 5), 3, "slices.go:25", #[], none⟩
def qe6o2 : Oper := ⟨some 18, .indexAddr 45 (.tmp 16) (.tmp 17), 0, "slices.go:25", #[⟨0, .data⟩, ⟨1, .data⟩], none⟩
def qe6o3 : Oper := ⟨some 19, .load 3 (.tmp 18), 3, "slices.go:25", #[⟨2, .data⟩], none⟩
def qe6o4 : Oper := ⟨some 20, .move (.tmp 1), 45, "slices.go:25", #[], none⟩
def qe6o5 : Oper := ⟨some 21, .move (.tmp 5), 3, "slices.go:25", #[], none⟩
def qe6o6 : Oper := ⟨some 22, .indexAddr 45 (.tmp 20) (.tmp 21), 0, "slices.go:25", #[⟨4, .data⟩, ⟨5, .data⟩], none⟩
def qe6o7 : Oper := ⟨some 23, .load 3 (.tmp 22), 3, "slices.go:25", #[⟨6, .data⟩], none⟩
def qe6o8 : Oper := ⟨some 24, .binOp .neq 3 (.tmp 19) (.tmp 23) 3, 4, "slices.go:25", #[⟨3, .data⟩, ⟨7, .data⟩], none⟩
def qe6 : Array Oper := #[qe6o0, qe6o1, qe6o2, qe6o3, qe6o4, qe6o5, qe6o6, qe6o7, qe6o8]
theorem qe6_0 : qe6[0]? = some qe6o0 := by kernel_rfl
theorem qe6_1 : qe6[1]? = some qe6o1 := by kernel_rfl
theorem qe6_2 : qe6[2]? = some qe6o2 := by kernel_rfl
theorem qe6_3 : qe6[3]? = some qe6o3 := by kernel_rfl
theorem qe6_4 : qe6[4]? = some qe6o4 := by kernel_rfl
theorem qe6_5 : qe6[5]? = some qe6o5 := by kernel_rfl
theorem qe6_6 : qe6[6]? = some qe6o6 := by kernel_rfl
theorem qe6_7 : qe6[7]? = some qe6o7 := by kernel_rfl
theorem qe6_8 : qe6[8]? = some qe6o8 := by kernel_rfl
theorem qe6_d0 : dstOf qe6 0 = some 16 := by kernel_rfl
theorem qe6_d1 : dstOf qe6 1 = some 17 := by kernel_rfl
theorem qe6_d2 : dstOf qe6 2 = some 18 := by kernel_rfl
theorem qe6_d3 : dstOf qe6 3 = some 19 := by kernel_rfl
theorem qe6_d4 : dstOf qe6 4 = some 20 := by kernel_rfl
theorem qe6_d5 : dstOf qe6 5 = some 21 := by kernel_rfl
theorem qe6_d6 : dstOf qe6 6 = some 22 := by kernel_rfl
theorem qe6_d7 : dstOf qe6 7 = some 23 := by kernel_rfl
set_option maxRecDepth 100000 in
set_option maxHeartbeats 2000000 in
theorem equal_any (l1 l2 : List Int) (v1 v2 : Value) (w : World) (h1 : SeesC w v1 l1.length 1 (intsI l1)) (h2 : SeesC w v2 l2.length 1 (intsI l2)) (hl : l1.length ≤ 1099511627776) : Calls Tryz.prog 193 #[v1, v2] w fun e w' => e = .returned (.bool (decide (l1 = l2))) ∧ Below w.heap.size w w' := by
 obtain ⟨_, a1, c1, rfl, hc1⟩ := h1
 obtain ⟨_, a2, c2, rfl, hc2⟩ := h2
 by_cases hlen : l1.length = l2.length
 ·obtain ⟨n, hn⟩ : ∃ n, l1.length = n := ⟨_, rfl⟩
  have HN := hidI hn
  have HN2 : Hid (l2.length = n) := hidI (by omega)
  have HC1 := hidI hc1
  have HC2 := hidI hc2
  have e2 : l2.length = n := by omega
  rw [hn] at hl
  rw [hn, e2]
  clear hlen hn e2 hc1 hc2
  go_enter Tryz.func193, Tryz.ntmps193
  go_wp2
  go_loopg [13] n (fun g s13 wx => ∃ j : Nat, j + g = n ∧ s13 = .int .i64 (j : Int) ∧ Hid (l1.take j = l2.take j) ∧ Hid (Below w.heap.size w wx))
  case atStart => exact ⟨0, by omega, rfl, hidI rfl, hidI (Below.refl _ _)⟩
  case round =>
   obtain ⟨j, hjg, rfl, HT, HB⟩ := hrel
   cases gk with
   | zero =>
    obtain rfl : n = j := by omega
    have k1 : decide ((n : Int) < (n : Int)) = false := by simp
    have HR : Hid (decide (l1 = l2) = true) := hidI (decide_eq_true (by
     have := HT.out
     rwa [List.take_of_length_le (by have := HN.out; omega), List.take_of_length_le (by have := HN2.out; omega)] at this))
    go_wp2
    go_ret
    rw [HR.out]
    exact ⟨rfl, HB.out⟩
   | succ g =>
    have k1 : (j : Int) < (n : Int) := by omega
    obtain ⟨x, hx⟩ : ∃ x, l1[j]? = some x := ⟨_, List.getElem?_eq_getElem (by have := HN.out; omega)⟩
    obtain ⟨y, hy⟩ : ∃ y, l2[j]? = some y := ⟨_, List.getElem?_eq_getElem (by have := HN2.out; omega)⟩
    obtain ⟨b1, o1, ha1, hc1⟩ : ∃ b o, a1 = some ⟨b, o, none⟩ ∧ w.cell? ⟨b, o + j, none⟩ = some (.int .i64 x) := by
     rcases HC1.out with h0 | ⟨b, o, e, hc⟩
     ·have := HN.out; omega
     ·exact ⟨b, o, e, hc j _ (zcF hx)⟩
    obtain ⟨b2, o2, ha2, hc2⟩ : ∃ b o, a2 = some ⟨b, o, none⟩ ∧ w.cell? ⟨b, o + j, none⟩ = some (.int .i64 y) := by
     rcases HC2.out with h0 | ⟨b, o, e, hc⟩
     ·have := HN2.out; omega
     ·exact ⟨b, o, e, hc j _ (zcF hy)⟩
    subst ha1 ha2
    have HX1 := hidI hc1
    have HX2 := hidI hc2
    have HTT : Hid (∀ z, l1.take j ++ [z] = l1.take (j + 1) → True) := hidI (fun _ _ => trivial)
    have HS1 : Hid (x = y → l1.take (j + 1) = l2.take (j + 1)) := hidI (fun e => by rw [List.take_add_one, List.take_add_one, hx, hy, e, HT.out])
    have HS2 : Hid (x ≠ y → decide (l1 = l2) = false) := hidI (fun e => decide_eq_false (fun e2 => e (by rw [e2, hy] at hx; exact (Option.some.inj hx).symm)))
    clear hc1 hc2 hx hy HTT
    go_wp2
    by_cases hxy : x = y
    ·have d1 : (x == y) = true := by rw [hxy]; simp
     have HN3 := hidI (HS1.out hxy)
     clear HS1 HS2 hxy
     refine zaU (ops := qe6) (fun i => match i with | 0 => .slice (some ⟨b1, o1, none⟩) n c1 | 1 => .int .i64 (j : Int) | 2 => .pointer (some ⟨b1, o1 + j, none⟩) | 3 => .int .i64 x | 4 => .slice (some ⟨b2, o2, none⟩) n c2 | 5 => .int .i64 (j : Int) | 6 => .pointer (some ⟨b2, o2 + j, none⟩) | 7 => .int .i64 y | _ => undef) (fun y => Below w.heap.size w y) 8 Tryz.mixed (by kernel_rfl) (by kernel_rfl) qe6_8 HB.out.drew ?_ ?_
     ·intro i9 o9 hi9 ho9 a9 w9 hF9 hS9 K9 hK9
      have hc9 : i9 = 0 ∨ i9 = 1 ∨ i9 = 2 ∨ i9 = 3 ∨ i9 = 4 ∨ i9 = 5 ∨ i9 = 6 ∨ i9 = 7 := by omega
      clear hi9
      rcases hc9 with rfl | rfl | rfl | rfl | rfl | rfl | rfl | rfl
      ·obtain rfl := so qe6_0 ho9
       have e0 := hF9.od 0 (v := .slice (some ⟨b1, o1, none⟩) n c1) rfl
       refine zaV rfl ?_ (hK9 _ hS9)
       clear ho9 hF9
       simp only [qe6o0, execOp, e0]
       first | done | (go_simp <;> omega)
      ·obtain rfl := so qe6_1 ho9
       have e5 := hF9.od 5 (v := .int .i64 (j : Int)) rfl
       refine zaV rfl ?_ (hK9 _ hS9)
       clear ho9 hF9
       simp only [qe6o1, execOp, e5]
       first | done | (go_simp <;> omega)
      ·obtain rfl := so qe6_2 ho9
       have e16 := hF9.ev 0 16
       have e17 := hF9.ev 1 17
       refine zaV rfl ?_ (hK9 _ hS9)
       clear ho9 hF9
       simp only [qe6o2, execOp, e16, e17]
       first | done | (go_simp <;> omega)
      ·obtain rfl := so qe6_3 ho9
       have e18 := hF9.ev 2 18
       have q0 := zbU hS9 HX1.out
       refine zaV rfl ?_ (hK9 _ hS9)
       clear ho9 hF9
       simp only [qe6o3, execOp, e18]
       first | done | (go_simp <;> omega)
      ·obtain rfl := so qe6_4 ho9
       have e1 := hF9.od 1 (v := .slice (some ⟨b2, o2, none⟩) n c2) rfl
       refine zaV rfl ?_ (hK9 _ hS9)
       clear ho9 hF9
       simp only [qe6o4, execOp, e1]
       first | done | (go_simp <;> omega)
      ·obtain rfl := so qe6_5 ho9
       have e5 := hF9.od 5 (v := .int .i64 (j : Int)) rfl
       refine zaV rfl ?_ (hK9 _ hS9)
       clear ho9 hF9
       simp only [qe6o5, execOp, e5]
       first | done | (go_simp <;> omega)
      ·obtain rfl := so qe6_6 ho9
       have e20 := hF9.ev 4 20
       have e21 := hF9.ev 5 21
       refine zaV rfl ?_ (hK9 _ hS9)
       clear ho9 hF9
       simp only [qe6o6, execOp, e20, e21]
       first | done | (go_simp <;> omega)
      ·obtain rfl := so qe6_7 ho9
       have e22 := hF9.ev 6 22
       have q0 := zbU hS9 HX2.out
       refine zaV rfl ?_ (hK9 _ hS9)
       clear ho9 hF9
       simp only [qe6o7, execOp, e22]
       first | done | (go_simp <;> omega)
     ·intro w9 hS9 K9 hK9
      simp only [putTo, qe6_d0, qe6_d1, qe6_d2, qe6_d3, qe6_d4, qe6_d5, qe6_d6, qe6_d7, qe6o8]
      rw [if_pos (zaJ rfl)]
      unfold Oper.wp
      go_simp
      refine hK9 _ _ ?_
      clear hK9 K9
      have HB9 := hidI hS9
      clear hS9
      go_wp2
      go_roundg g
      case measure => omega
      case rel => exact ⟨j + 1, by omega, by go_num, HN3, HB9⟩
    ·have d1 : (x == y) = false := by rw [beq_eq_false_iff_ne]; exact hxy
     have HR := hidI (HS2.out hxy)
     clear HS1 HS2 hxy
     refine zaU (ops := qe6) (fun i => match i with | 0 => .slice (some ⟨b1, o1, none⟩) n c1 | 1 => .int .i64 (j : Int) | 2 => .pointer (some ⟨b1, o1 + j, none⟩) | 3 => .int .i64 x | 4 => .slice (some ⟨b2, o2, none⟩) n c2 | 5 => .int .i64 (j : Int) | 6 => .pointer (some ⟨b2, o2 + j, none⟩) | 7 => .int .i64 y | _ => undef) (fun y => Below w.heap.size w y) 8 Tryz.mixed (by kernel_rfl) (by kernel_rfl) qe6_8 HB.out.drew ?_ ?_
     ·intro i9 o9 hi9 ho9 a9 w9 hF9 hS9 K9 hK9
      have hc9 : i9 = 0 ∨ i9 = 1 ∨ i9 = 2 ∨ i9 = 3 ∨ i9 = 4 ∨ i9 = 5 ∨ i9 = 6 ∨ i9 = 7 := by omega
      clear hi9
      rcases hc9 with rfl | rfl | rfl | rfl | rfl | rfl | rfl | rfl
      ·obtain rfl := so qe6_0 ho9
       have e0 := hF9.od 0 (v := .slice (some ⟨b1, o1, none⟩) n c1) rfl
       refine zaV rfl ?_ (hK9 _ hS9)
       clear ho9 hF9
       simp only [qe6o0, execOp, e0]
       first | done | (go_simp <;> omega)
      ·obtain rfl := so qe6_1 ho9
       have e5 := hF9.od 5 (v := .int .i64 (j : Int)) rfl
       refine zaV rfl ?_ (hK9 _ hS9)
       clear ho9 hF9
       simp only [qe6o1, execOp, e5]
       first | done | (go_simp <;> omega)
      ·obtain rfl := so qe6_2 ho9
       have e16 := hF9.ev 0 16
       have e17 := hF9.ev 1 17
       refine zaV rfl ?_ (hK9 _ hS9)
       clear ho9 hF9
       simp only [qe6o2, execOp, e16, e17]
       first | done | (go_simp <;> omega)
      ·obtain rfl := so qe6_3 ho9
       have e18 := hF9.ev 2 18
       have q0 := zbU hS9 HX1.out
       refine zaV rfl ?_ (hK9 _ hS9)
       clear ho9 hF9
       simp only [qe6o3, execOp, e18]
       first | done | (go_simp <;> omega)
      ·obtain rfl := so qe6_4 ho9
       have e1 := hF9.od 1 (v := .slice (some ⟨b2, o2, none⟩) n c2) rfl
       refine zaV rfl ?_ (hK9 _ hS9)
       clear ho9 hF9
       simp only [qe6o4, execOp, e1]
       first | done | (go_simp <;> omega)
      ·obtain rfl := so qe6_5 ho9
       have e5 := hF9.od 5 (v := .int .i64 (j : Int)) rfl
       refine zaV rfl ?_ (hK9 _ hS9)
       clear ho9 hF9
       simp only [qe6o5, execOp, e5]
       first | done | (go_simp <;> omega)
      ·obtain rfl := so qe6_6 ho9
       have e20 := hF9.ev 4 20
       have e21 := hF9.ev 5 21
       refine zaV rfl ?_ (hK9 _ hS9)
       clear ho9 hF9
       simp only [qe6o6, execOp, e20, e21]
       first | done | (go_simp <;> omega)
      ·obtain rfl := so qe6_7 ho9
       have e22 := hF9.ev 6 22
       have q0 := zbU hS9 HX2.out
       refine zaV rfl ?_ (hK9 _ hS9)
       clear ho9 hF9
       simp only [qe6o7, execOp, e22]
       first | done | (go_simp <;> omega)
     ·intro w9 hS9 K9 hK9
      simp only [putTo, qe6_d0, qe6_d1, qe6_d2, qe6_d3, qe6_d4, qe6_d5, qe6_d6, qe6_d7, qe6o8]
      rw [if_pos (zaJ rfl)]
      unfold Oper.wp
      go_simp
      refine hK9 _ _ ?_
      clear hK9 K9
      have HB9 := hidI hS9
      clear hS9
      go_wp2
      go_ret
      rw [HR.out]
      exact ⟨rfl, HB9.out⟩
 ·have HR : Hid (decide (l1 = l2) = false) := hidI (decide_eq_false (fun e => hlen (by rw [e])))
  have d1 : ((l1.length : Int) == (l2.length : Int)) = false := by rw [beq_eq_false_iff_ne]; omega
  clear hlen hc1 hc2
  go_enter Tryz.func193, Tryz.ntmps193
  go_wp2
  go_ret
  rw [HR.out]
  exact ⟨rfl, by (repeat (first | exact Below.refl _ _ | assumption | refine Below.drew ?_ | refine Below.alloc ?_ (by first | omega | (simp; done) | (simp; omega)) _ | refine Below.setCell ?_ (by first | omega | (simp; done) | (simp; omega)) _))⟩
theorem zdP (a b : Nat) : ((a : Int) == (b : Int)) = (a == b) := by
 rw [Bool.eq_iff_iff, beq_iff_eq, beq_iff_eq]
 omega
set_option maxRecDepth 100000 in
set_option maxHeartbeats 4000000 in
theorem same2_any (p q : Exp) (a1 a2 : Option Addr) (c1 c2 : Nat) (W : World) (h1 : SeesC W (.slice a1 p.kids.length c1) p.kids.length 1 (intsI p.kids)) (h2 : SeesC W (.slice a2 q.kids.length c2) q.kids.length 1 (intsI q.kids)) (hl : p.kids.length ≤ 1099511627776) : Calls Tryz.prog 189 #[.agg #[.int .u8 (p.k : Int), .int .u8 (p.of : Int), .int .u8 (p.op : Int), .string p.name, .int .i64 p.num, .slice a1 p.kids.length c1], .agg #[.int .u8 (q.k : Int), .int .u8 (q.of : Int), .int .u8 (q.op : Int), .string q.name, .int .i64 q.num, .slice a2 q.kids.length c2]] W fun e w' => e = .returned (.bool (sameX p q)) ∧ Below W.heap.size W w' := by
 have hbb : Below W.heap.size W ((W.alloc (.cells #[.int .u8 (p.k : Int), .int .u8 (p.of : Int), .int .u8 (p.op : Int), .string p.name, .int .i64 p.num, .slice a1 p.kids.length c1] 190)).alloc (.cells #[.int .u8 (q.k : Int), .int .u8 (q.of : Int), .int .u8 (q.op : Int), .string q.name, .int .i64 q.num, .slice a2 q.kids.length c2] 190)) := by (repeat (first | exact Below.refl _ _ | assumption | refine Below.drew ?_ | refine Below.alloc ?_ (by first | omega | (simp; done) | (simp; omega)) _ | refine Below.setCell ?_ (by first | omega | (simp; done) | (simp; omega)) _))
 have CE := hidI (equal_any p.kids q.kids _ _ _ (h1.below hbb (Nat.le_refl _)) (h2.below hbb (Nat.le_refl _)) hl)
 have HB := hidI hbb
 have HM : Hid (sameX p q = (p.k == q.k && p.of == q.of && p.op == q.op && decide (p.name = q.name) && p.num == q.num && decide (p.kids = q.kids))) := hidI rfl
 clear h1 h2 hl hbb
 cases d0 : ((p.k : Int) == (q.k : Int)) with
 | false =>
  have HR : Hid (sameX p q = false) := hidI (by
   rw [zdP] at d0
   rw [HM.out, d0]
   simp)
  clear CE HM
  go_enter Tryz.func189, Tryz.ntmps189
  go_wp2
  go_ret
  rw [HR.out]
  exact ⟨rfl, HB.out⟩
 | true =>
  cases d1 : ((p.of : Int) == (q.of : Int)) with
  | false =>
   have HR : Hid (sameX p q = false) := hidI (by
    rw [zdP] at d1
    rw [HM.out, d1]
    simp)
   clear CE HM
   go_enter Tryz.func189, Tryz.ntmps189
   go_wp2
   go_ret
   rw [HR.out]
   exact ⟨rfl, HB.out⟩
  | true =>
   cases d2 : ((p.op : Int) == (q.op : Int)) with
   | false =>
    have HR : Hid (sameX p q = false) := hidI (by
     rw [zdP] at d2
     rw [HM.out, d2]
     simp)
    clear CE HM
    go_enter Tryz.func189, Tryz.ntmps189
    go_wp2
    go_ret
    rw [HR.out]
    exact ⟨rfl, HB.out⟩
   | true =>
    cases d3 : (p.name.toList == q.name.toList) with
    | false =>
     have HR : Hid (sameX p q = false) := hidI (by
      rw [zcJ] at d3
      rw [HM.out, d3]
      simp)
     clear CE HM
     go_enter Tryz.func189, Tryz.ntmps189
     go_wp2
     go_ret
     rw [HR.out]
     exact ⟨rfl, HB.out⟩
    | true =>
     cases d4 : (p.num == q.num) with
     | false =>
      have HR : Hid (sameX p q = false) := hidI (by
       rw [HM.out, d4]
       simp)
      clear CE HM
      go_enter Tryz.func189, Tryz.ntmps189
      go_wp2
      go_ret
      rw [HR.out]
      exact ⟨rfl, HB.out⟩
     | true =>
      have HR : Hid (sameX p q = decide (p.kids = q.kids)) := hidI (by
       rw [zdP] at d0 d1 d2
       rw [zcJ] at d3
       rw [HM.out, d0, d1, d2, d3, d4]
       simp)
      clear HM
      go_enter Tryz.func189, Tryz.ntmps189
      go_wp2_with (go_at_call 193; refine CE.out.mono ?_; intro e w1 h1; obtain ⟨rfl, hb1⟩ := h1; clear CE)
      go_ret
      rw [HR.out]
      exact ⟨rfl, HB.out.trans (hb1.mono HB.out.size)⟩
set_option maxHeartbeats 2000000 in
theorem lit_any {t : Tx} {F : Nat} (hk : t.Ok F) {σ : TS} {X : List Rw} {w : World} (of : Nat) (n : Int) (h : TlS t σ X w) : Calls Tryz.prog 187 #[.pointer (some ⟨t.B, 0, none⟩), .int .u8 (of : Int), .int .i64 n] w (TPost t X (tLit of n σ)) := by
 have CM := hidI (fun W => zbH (.pointer (some ⟨t.B, 0, none⟩)) W)
 by_cases h1 : of = 1
 ·subst h1
  have CX := hidI (form_any hk (tk := ⟨4, ⟨#[]⟩, n, 0⟩) h.r h.lim.one (by show (⟨#[]⟩ : ByteArray).size ≤ 140737488355328; decide))
  have HM : Hid (tLit 1 n σ = tForm ⟨4, ⟨#[]⟩, n, 0⟩ σ) := hidI rfl
  rw [HM.out]
  clear h HM
  cases hr : tForm ⟨4, ⟨#[]⟩, n, 0⟩ σ with
  | none =>
   rw [hr] at CX
   clear hr
   go_enter Tryz.func187, Tryz.ntmps187
   go_wp2_with (first
    | (go_at_call 124; refine Calls.mono (CM.out _) ?_; intro e w2 h2; obtain ⟨rfl, rfl⟩ := h2; clear CM)
    | (go_at_call 173; refine Calls.mono CX.out ?_; intro e w1 h1; obtain ⟨rfl, hb1⟩ := h1; clear CX))
   exact ⟨rfl, rfl, hb1⟩
  | some σ1 =>
   rw [hr] at CX
   clear hr
   go_enter Tryz.func187, Tryz.ntmps187
   go_wp2_with (first
    | (go_at_call 124; refine Calls.mono (CM.out _) ?_; intro e w2 h2; obtain ⟨rfl, rfl⟩ := h2; clear CM)
    | (go_at_call 173; refine Calls.mono CX.out ?_; intro e w1 h1; obtain ⟨rfl, hb1⟩ := h1; clear CX))
   go_end0
   exact ⟨rfl, hb1⟩
 have d1 : ((of : Int) == 1) = false := by rw [beq_eq_false_iff_ne]; omega
 by_cases h2 : of = 2 ∧ n = 1
 ·obtain ⟨rfl, rfl⟩ := h2
  have CX := hidI (zcS hk (s := ⟨#[116, 114, 117, 101]⟩) h (by unfold SmlN; decide))
  have HM : Hid (tLit 2 1 σ = tWord ⟨#[116, 114, 117, 101]⟩ σ) := hidI rfl
  rw [HM.out]
  clear h HM h1 d1
  cases hr : tWord ⟨#[116, 114, 117, 101]⟩ σ with
  | none =>
   rw [hr] at CX
   clear hr
   go_enter Tryz.func187, Tryz.ntmps187
   go_wp2_with (first
    | (go_at_call 124; refine Calls.mono (CM.out _) ?_; intro e w2 h2; obtain ⟨rfl, rfl⟩ := h2; clear CM)
    | (go_at_call 154; refine Calls.mono CX.out ?_; intro e w1 h1; obtain ⟨rfl, hb1⟩ := h1; clear CX))
   exact ⟨rfl, rfl, hb1⟩
  | some σ1 =>
   rw [hr] at CX
   clear hr
   go_enter Tryz.func187, Tryz.ntmps187
   go_wp2_with (first
    | (go_at_call 124; refine Calls.mono (CM.out _) ?_; intro e w2 h2; obtain ⟨rfl, rfl⟩ := h2; clear CM)
    | (go_at_call 154; refine Calls.mono CX.out ?_; intro e w1 h1; obtain ⟨rfl, hb1⟩ := h1; clear CX))
   go_end0
   exact ⟨rfl, hb1⟩
 by_cases h3 : of = 2 ∧ n = 0
 ·obtain ⟨rfl, rfl⟩ := h3
  have CX := hidI (zcS hk (s := ⟨#[102, 97, 108, 115, 101]⟩) h (by unfold SmlN; decide))
  have HM : Hid (tLit 2 0 σ = tWord ⟨#[102, 97, 108, 115, 101]⟩ σ) := hidI rfl
  rw [HM.out]
  clear h HM h1 h2 d1
  cases hr : tWord ⟨#[102, 97, 108, 115, 101]⟩ σ with
  | none =>
   rw [hr] at CX
   clear hr
   go_enter Tryz.func187, Tryz.ntmps187
   go_wp2_with (first
    | (go_at_call 124; refine Calls.mono (CM.out _) ?_; intro e w2 h2; obtain ⟨rfl, rfl⟩ := h2; clear CM)
    | (go_at_call 154; refine Calls.mono CX.out ?_; intro e w1 h1; obtain ⟨rfl, hb1⟩ := h1; clear CX))
   exact ⟨rfl, rfl, hb1⟩
  | some σ1 =>
   rw [hr] at CX
   clear hr
   go_enter Tryz.func187, Tryz.ntmps187
   go_wp2_with (first
    | (go_at_call 124; refine Calls.mono (CM.out _) ?_; intro e w2 h2; obtain ⟨rfl, rfl⟩ := h2; clear CM)
    | (go_at_call 154; refine Calls.mono CX.out ?_; intro e w1 h1; obtain ⟨rfl, hb1⟩ := h1; clear CX))
   go_end0
   exact ⟨rfl, hb1⟩
 have HR : Hid (tLit of n σ = none) := hidI (by unfold tLit; rw [if_neg h1, if_neg h2, if_neg h3])
 have CM2 := hidI (fun W => zaW (.pointer (some ⟨t.B, 0, none⟩)) W)
 have HB := hidI (h.bad (.refl _))
 clear CM h
 by_cases h4 : of = 2
 ·subst h4
  have d2 : (n == 1) = false := by rw [beq_eq_false_iff_ne]; exact fun e => h2 ⟨rfl, e⟩
  have d3 : (n == 0) = false := by rw [beq_eq_false_iff_ne]; exact fun e => h3 ⟨rfl, e⟩
  clear h1 h2 h3 d1
  go_enter Tryz.func187, Tryz.ntmps187
  go_wp2_with (go_at_call 124; refine Calls.mono (CM2.out _) ?_; intro e w2 h2; obtain ⟨rfl, rfl⟩ := h2; clear CM2)
  refine ⟨rfl, ?_⟩
  rw [HR.out]
  exact ⟨rfl, HB.out⟩
 ·have d2 : ((of : Int) == 2) = false := by rw [beq_eq_false_iff_ne]; omega
  clear h1 h2 h3 h4
  go_enter Tryz.func187, Tryz.ntmps187
  go_wp2_with (go_at_call 124; refine Calls.mono (CM2.out _) ?_; intro e w2 h2; obtain ⟨rfl, rfl⟩ := h2; clear CM2)
  refine ⟨rfl, ?_⟩
  rw [HR.out]
  exact ⟨rfl, HB.out⟩
end Go.Proofs.YtmekkhfohmfjkaaGreatDoor
