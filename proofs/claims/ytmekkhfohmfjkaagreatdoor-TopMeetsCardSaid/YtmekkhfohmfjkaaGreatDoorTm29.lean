/-
  Part 29 of the proof: TlH, TlI0.
-/
import Derived.Test.YtmekkhfohmfjkaaGreatDoorTm28
namespace Go.Proofs.YtmekkhfohmfjkaaGreatDoor
open Go.RowKit Go.Deep Go.MapKept
def oBx (b o : Nat) : Rw := ⟨bx b, 75, 1, 1, [.int .u8 (o : Int)]⟩
def kBx (b : Nat) (a : Option Addr) (n c : Nat) : Rw := ⟨bx b, 45, 1, 1, [.slice a n c]⟩
def cc0o0 : Oper := ⟨some 5, .load 219 (.tmp 0), 219, "tell.go:112", #[], none⟩
def cc0o1 : Oper := ⟨some 6, .load 75 (.tmp 1), 75, "tell.go:112", #[], none⟩
def cc0o2 : Oper := ⟨some 7, .call ⟨.value (.func 87), #[.tmp 6], #[75]⟩, 9, "tell.go:112", #[⟨1, .data⟩], none⟩
def cc0o3 : Oper := ⟨some 8, .call ⟨.value (.func 154), #[.tmp 5, .tmp 7], #[219, 9]⟩, 0, "tell.go:112", #[⟨0, .data⟩, ⟨2, .data⟩, ⟨2, .chain⟩], none⟩
def cc0 : Array Oper := #[cc0o0, cc0o1, cc0o2, cc0o3]
theorem cc0_0 : cc0[0]? = some cc0o0 := by kernel_rfl
theorem cc0_1 : cc0[1]? = some cc0o1 := by kernel_rfl
theorem cc0_2 : cc0[2]? = some cc0o2 := by kernel_rfl
theorem cc0_3 : cc0[3]? = some cc0o3 := by kernel_rfl
theorem cc0_d0 : dstOf cc0 0 = some 5 := by kernel_rfl
theorem cc0_d1 : dstOf cc0 1 = some 6 := by kernel_rfl
theorem cc0_d2 : dstOf cc0 2 = some 7 := by kernel_rfl
set_option maxRecDepth 100000 in
set_option maxHeartbeats 2000000 in
theorem cclo_any {t : Tx} {F : Nat} (hk : t.Ok F) {ex : Int → TM} {kids : List Int} {a1 : Option Addr} {c1 o : Nat} (ho : o ≤ 19) (hkp : ∀ i, Kp (ex i)) (hv : SeesC t.w0 (.slice a1 kids.length c1) kids.length 1 (intsI kids)) (hl : kids.length ≤ 1099511627776) {σ : TS} {X : List Rw} {w : World} {tb ob kb f0 : Nat} (h : TlS t σ (kBx kb a1 kids.length c1 :: oBx ob o :: tBx tb t.B :: X) w) (hf : f0 ≤ σ.f) (HE : ∀ i, AtC t 176 (ex i) f0 i) :
  Calls Tryz.prog 192 #[.pointer (some ⟨tb, 0, none⟩), .pointer (some ⟨ob, 0, none⟩), .pointer (some ⟨kb, 0, none⟩)] w (TPost t (kBx kb a1 kids.length c1 :: oBx ob o :: tBx tb t.B :: X) (tSeq (tWord (opW o)) (tAll ex kids) σ)) := by
 have HV := hidI hv
 have HE := hidI HE
 have HKP := hidI hkp
 clear hv hkp
 go_enter Tryz.func192, Tryz.ntmps192
 go_wp2
 refine zaU (ops := cc0) (fun i => match i with | 0 => .pointer (some ⟨t.B, 0, none⟩) | 1 => .int .u8 (o : Int) | 2 => .string (opWd o) | _ => undef) (fun y => TlS t σ (kBx kb a1 kids.length c1 :: oBx ob o :: tBx tb t.B :: X) y) 3 Tryz.mixed (by kernel_rfl) (by kernel_rfl) cc0_3 h.drew ?_ ?_
 ·intro i9 o9 hi9 ho9 a9 w9 hF9 hS9 K9 hK9
  have hc9 : i9 = 0 ∨ i9 = 1 ∨ i9 = 2 := by omega
  clear hi9
  rcases hc9 with rfl | rfl | rfl
  ·obtain rfl := so cc0_0 ho9
   have e0 := hF9.od 0 (v := .pointer (some ⟨tb, 0, none⟩)) rfl
   have q0 := zaA (hS9.r.own (r := tBx tb t.B) (by simp)) (j := 0) rfl
   refine zaV rfl ?_ (hK9 _ hS9)
   clear ho9 hF9
   simp only [cc0o0, execOp, e0]
   first | done | (go_simp <;> omega)
  ·obtain rfl := so cc0_1 ho9
   have e1 := hF9.od 1 (v := .pointer (some ⟨ob, 0, none⟩)) rfl
   have q0 := zaA (hS9.r.own (r := oBx ob o) (by simp)) (j := 0) rfl
   refine zaV rfl ?_ (hK9 _ hS9)
   clear ho9 hF9
   simp only [cc0o1, execOp, e1]
   first | done | (go_simp <;> omega)
  ·obtain rfl := so cc0_2 ho9
   have e6 := hF9.ev 1 6
   rw [if_pos (zaJ rfl)]
   unfold Oper.wp
   have f6 := hF9.nw 1 6
   have hr9 : (execOp a9.eval cc0o2).run Tryz.prog w9 = .ok (.enter 87 #[.int .u8 (o : Int)]) w9 := by
    simp only [cc0o2, execOp]
    go_simp
   rw [hr9, Oper.upon_enter]
   refine Calls.mono (opWord_any o ho w9) ?_
   rintro e9 w8 ⟨rfl, hb⟩
   exact hK9 _ (hS9.on hb)
 ·intro w9 hS9 K9 hK9
  simp only [putTo, cc0_d0, cc0_d1, cc0_d2, cc0o3]
  rw [if_pos (zaJ rfl)]
  unfold Oper.wp
  go_simp
  have CW := hidI (zcS hk hS9 (opWd_eq o ho).2)
  clear hS9
  cases hr : tWord (opWd o) σ with
  | none =>
   have HR : Hid (tSeq (tWord (opW o)) (tAll ex kids) σ = none) := hidI (by unfold tSeq; rw [← (opWd_eq o ho).1, hr])
   rw [hr] at CW
   refine Calls.mono CW.out ?_
   rintro e w2 ⟨rfl, hb2⟩
   refine ⟨rfl, ?_⟩
   rw [HR.out]
   exact ⟨rfl, hb2⟩
  | some σ1 =>
   have HR : Hid (tSeq (tWord (opW o)) (tAll ex kids) σ = tAll ex kids σ1) := hidI (by unfold tSeq; rw [← (opWd_eq o ho).1, hr])
   have HF1 : Hid (f0 ≤ σ1.f) := hidI (Nat.le_trans hf (zcQ _ _ _ hr).2.1)
   rw [hr] at CW
   refine Calls.mono CW.out ?_
   rintro e w2 ⟨rfl, hb2⟩
   refine hK9 _ _ ?_
   have HS2 := hidI hb2
   clear hK9 K9 CW hr hb2
   have q2 := zaA (HS2.out.r.own (r := kBx kb a1 kids.length c1) (by simp)) (j := 0) rfl
   obtain ⟨n, hn⟩ : ∃ n, kids.length = n := ⟨_, rfl⟩
   have HN := hidI hn
   rw [hn] at hl q2 HS2
   rw [hn]
   clear hn
   go_wp2
   go_loopg [11] n (fun g s11 wx => ∃ (j : Nat) (σj : TS), j + g = n ∧ s11 = .int .i64 (j : Int) ∧ Hid (tAll ex kids σ1 = tAll ex (kids.drop j) σj) ∧ Hid (f0 ≤ σj.f) ∧ Hid (TlS t σj (kBx kb a1 n c1 :: oBx ob o :: tBx tb t.B :: X) wx))
   case atStart => exact ⟨0, σ1, by omega, rfl, hidI rfl, HF1, HS2⟩
   case round =>
    obtain ⟨j, σj, hjg, rfl, HT, HF, HSj⟩ := hrel
    clear HS2
    cases gk with
    | zero =>
     obtain rfl : n = j := by omega
     have k1 : decide ((n : Int) < (n : Int)) = false := by simp
     have HR2 : Hid (tSeq (tWord (opW o)) (tAll ex kids) σ = some σj) := hidI (by
      rw [HR.out, HT.out, List.drop_of_length_le (by have := HN.out; omega)]
      rfl)
     go_wp2
     go_end0
     rw [HR2.out]
     exact ⟨rfl, by rw [HN.out]; exact HSj.out⟩
    | succ g =>
     have k1 : (j : Int) < (n : Int) := by omega
     obtain ⟨i, hi⟩ : ∃ i, kids[j]? = some i := ⟨_, List.getElem?_eq_getElem (by have := HN.out; omega)⟩
     have q0 := zaA (HSj.out.r.own (r := tBx tb t.B) (by simp)) (j := 0) rfl
     obtain ⟨_, a', cap', hav, hcell⟩ := HV.out.below HSj.out.r.below (Nat.le_refl _)
     rw [HN.out] at hav
     cases hav
     rcases hcell with h0 | ⟨b, o7, rfl, hcell⟩
     ·have := HN.out; omega
     have x0 := hcell j _ (zcF hi)
     have CP := hidI (HE.out i t.K σj _ _ HSj.out HF.out)
     have HD := hidI (tAll_drop ex kids j i hi σj)
     clear hi hcell
     cases hr : ex i σj with
     | none =>
      have HR2 : Hid (tSeq (tWord (opW o)) (tAll ex kids) σ = none) := hidI (by rw [HR.out, HT.out, HD.out, hr])
      rw [hr] at CP
      clear hr
      go_wp2_with (go_at_call 176; refine Calls.mono (CP.out) ?_; intro e w3 h3; obtain ⟨rfl, hb3⟩ := h3; clear CP)
      refine ⟨rfl, ?_⟩
      rw [HR2.out]
      exact ⟨rfl, by rw [HN.out]; exact hb3⟩
     | some σ2 =>
      have HT2 : Hid (tAll ex kids σ1 = tAll ex (kids.drop (j + 1)) σ2) := hidI (by rw [HT.out, HD.out, hr])
      have HF2 : Hid (f0 ≤ σ2.f) := hidI (Nat.le_trans HF.out (HKP.out i _ _ hr).2.1)
      rw [hr] at CP
      clear hr
      go_wp2_with (go_at_call 176; refine Calls.mono (CP.out) ?_; intro e w3 h3; obtain ⟨rfl, hb3⟩ := h3; clear CP; have HS3 := hidI hb3; clear hb3)
      go_roundg g
      case measure => omega
      case rel => exact ⟨j + 1, σ2, by omega, by go_num, HT2, HF2, HS3⟩
def cl1o0 : Oper := ⟨some 6, .load 219 (.tmp 3), 219, "tell.go:110", #[], none⟩
def cl1o1 : Oper := ⟨some 7, .load 75 (.tmp 4), 75, "tell.go:110", #[], none⟩
def cl1o2 : Oper := ⟨some 8, .call ⟨.value (.func 185), #[.tmp 7], #[75]⟩, 3, "tell.go:110", #[⟨1, .data⟩], none⟩
def cl1o3 : Oper := ⟨some 9, .binOp .gtr 3 (.tmp 8) (.const (.int .i64 0)) 3, 4, "tell.go:110", #[⟨2, .data⟩], none⟩
def cl1o4 : Oper := ⟨some 10, .move (.tmp 9), 4, "tell.go:110", #[⟨3, .data⟩, ⟨2, .chain⟩], none⟩
def cl1o5 : Oper := ⟨some 11, .load 45 (.tmp 5), 45, "tell.go:110", #[⟨4, .guard⟩], some (4, true)⟩
def cl1o6 : Oper := ⟨some 12, .call ⟨.builtin .len, #[.tmp 11], #[45]⟩, 3, "tell.go:110", #[⟨5, .data⟩, ⟨4, .guard⟩], some (4, true)⟩
def cl1o7 : Oper := ⟨some 13, .load 75 (.tmp 4), 75, "tell.go:110", #[⟨4, .guard⟩], some (4, true)⟩
def cl1o8 : Oper := ⟨some 14, .call ⟨.value (.func 185), #[.tmp 13], #[75]⟩, 3, "tell.go:110", #[⟨7, .data⟩, ⟨4, .chain⟩, ⟨4, .guard⟩], some (4, true)⟩
def cl1o9 : Oper := ⟨some 15, .binOp .eql 3 (.tmp 12) (.tmp 14) 3, 4, "tell.go:110", #[⟨6, .data⟩, ⟨8, .data⟩, ⟨4, .guard⟩], some (4, true)⟩
def cl1o10 : Oper := ⟨some 16, .pick (.tmp 10) (.tmp 15) (.const (.bool false)), 4, "tell.go:110", #[⟨4, .data⟩, ⟨9, .data⟩], none⟩
def cl1o11 : Oper := ⟨some 17, .call ⟨.value (.func 124), #[.tmp 6, .tmp 16], #[219, 4]⟩, 0, "tell.go:110", #[⟨0, .data⟩, ⟨10, .data⟩, ⟨8, .chain⟩], none⟩
def cl1 : Array Oper := #[cl1o0, cl1o1, cl1o2, cl1o3, cl1o4, cl1o5, cl1o6, cl1o7, cl1o8, cl1o9, cl1o10, cl1o11]
theorem cl1_0 : cl1[0]? = some cl1o0 := by kernel_rfl
theorem cl1_1 : cl1[1]? = some cl1o1 := by kernel_rfl
theorem cl1_2 : cl1[2]? = some cl1o2 := by kernel_rfl
theorem cl1_3 : cl1[3]? = some cl1o3 := by kernel_rfl
theorem cl1_4 : cl1[4]? = some cl1o4 := by kernel_rfl
theorem cl1_5 : cl1[5]? = some cl1o5 := by kernel_rfl
theorem cl1_6 : cl1[6]? = some cl1o6 := by kernel_rfl
theorem cl1_7 : cl1[7]? = some cl1o7 := by kernel_rfl
theorem cl1_8 : cl1[8]? = some cl1o8 := by kernel_rfl
theorem cl1_9 : cl1[9]? = some cl1o9 := by kernel_rfl
theorem cl1_10 : cl1[10]? = some cl1o10 := by kernel_rfl
theorem cl1_11 : cl1[11]? = some cl1o11 := by kernel_rfl
theorem cl1_d0 : dstOf cl1 0 = some 6 := by kernel_rfl
theorem cl1_d1 : dstOf cl1 1 = some 7 := by kernel_rfl
theorem cl1_d2 : dstOf cl1 2 = some 8 := by kernel_rfl
theorem cl1_d3 : dstOf cl1 3 = some 9 := by kernel_rfl
theorem zbW : dstOf cl1 4 = some 10 := by kernel_rfl
theorem cl1_d5 : dstOf cl1 5 = some 11 := by kernel_rfl
theorem cl1_d6 : dstOf cl1 6 = some 12 := by kernel_rfl
theorem cl1_d7 : dstOf cl1 7 = some 13 := by kernel_rfl
theorem cl1_d8 : dstOf cl1 8 = some 14 := by kernel_rfl
theorem cl1_d9 : dstOf cl1 9 = some 15 := by kernel_rfl
theorem cl1_d10 : dstOf cl1 10 = some 16 := by kernel_rfl
set_option maxRecDepth 100000 in
set_option maxHeartbeats 2000000 in
theorem call_any {t : Tx} {F : Nat} (hk : t.Ok F) {ex : Int → TM} {kids : List Int} {a1 : Option Addr} {c1 o : Nat} (hkp : ∀ i, Kp (ex i)) (hv : SeesC t.w0 (.slice a1 kids.length c1) kids.length 1 (intsI kids)) (hl : kids.length ≤ 1099511627776) {σ : TS} {X : List Rw} {w : World} (h : TlS t σ X w) (HE : ∀ i, AtC t 176 (ex i) (σ.f + 1) i) :
  Calls Tryz.prog 188 #[.pointer (some ⟨t.B, 0, none⟩), .int .u8 (o : Int), .slice a1 kids.length c1] w (TPost t X (tCall ex o kids σ)) := by
 have hmf : ∀ (fn : Go.Fn) (first cap : Array Value) (w : World), (Instr.makeFunc fn first cap).run Tryz.prog w = .ok (.func fn first cap) w := fun _ _ _ _ => rfl
 obtain ⟨n, hn⟩ : ∃ n, kids.length = n := ⟨_, rfl⟩
 have HA : Hid (TlS t σ (kBx (w.heap.size + 2) a1 n c1 :: oBx (w.heap.size + 1) o :: tBx w.heap.size t.B :: X) (((w.alloc (.cells #[.pointer (some ⟨t.B, 0, none⟩)] 219)).alloc (.cells #[.int .u8 (o : Int)] 75)).alloc (.cells #[.slice a1 n c1] 45))) := hidI (by
  have h0 := ((h.newbox 219 1 #[.pointer (some ⟨t.B, 0, none⟩)] rfl).newbox 75 1 #[.int .u8 (o : Int)] rfl).newbox 45 1 #[.slice a1 n c1] rfl
  simp only [World.size_alloc] at h0
  exact h0)
 have HR : Hid (tCall ex o kids σ = if 0 < arityN o ∧ kids.length = arityN o then tBrk (tSeq (tWord (opW o)) (tAll ex kids)) σ else none) := hidI rfl
 obtain ⟨m, hm⟩ : ∃ m, arityN o = m := ⟨_, rfl⟩
 have CA := hidI (fun W => arityK o W)
 rw [hm] at CA HR
 rw [hn] at HR
 by_cases hm0 : m = 0
 ·have HR : Hid (tCall ex o kids σ = none) := hidI (by rw [HR.out, if_neg (by omega)])
  have HK1 : Hid (¬ ((m : Int) > 0)) := hidI (by omega)
  rw [hn]
  clear hm0 hm h HE hv hn
  go_enter Tryz.func188, Tryz.ntmps188
  go_wp2
  refine zaU (ops := cl1) (fun i => match i with | 0 => .pointer (some ⟨t.B, 0, none⟩) | 1 => .int .u8 (o : Int) | 2 => .int .i64 (m : Int) | 3 => .bool false | 4 => .bool false | 5 => undef | 6 => undef | 7 => undef | 8 => undef | 9 => undef | 10 => .bool false | _ => undef) (fun y => TlS t σ (kBx (w.heap.size + 2) a1 n c1 :: oBx (w.heap.size + 1) o :: tBx w.heap.size t.B :: X) y) 11 Tryz.mixed (by kernel_rfl) (by kernel_rfl) cl1_11 HA.out.drew ?_ ?_
  ·intro i9 o9 hi9 ho9 a9 w9 hF9 hS9 K9 hK9
   have hc9 : i9 = 0 ∨ i9 = 1 ∨ i9 = 2 ∨ i9 = 3 ∨ i9 = 4 ∨ i9 = 5 ∨ i9 = 6 ∨ i9 = 7 ∨ i9 = 8 ∨ i9 = 9 ∨ i9 = 10 := by omega
   clear hi9
   rcases hc9 with rfl | rfl | rfl | rfl | rfl | rfl | rfl | rfl | rfl | rfl | rfl
   ·obtain rfl := so cl1_0 ho9
    have e3 := hF9.od 3 (v := .pointer (some ⟨w.heap.size, 0, none⟩)) rfl
    have q0 := zaA (hS9.r.own (r := tBx w.heap.size t.B) (by simp)) (j := 0) rfl
    refine zaV rfl ?_ (hK9 _ hS9)
    clear ho9 hF9
    simp only [cl1o0, execOp, e3]
    first | done | (go_simp <;> omega)
   ·obtain rfl := so cl1_1 ho9
    have e4 := hF9.od 4 (v := .pointer (some ⟨w.heap.size + 1, 0, none⟩)) rfl
    have q0 := zaA (hS9.r.own (r := oBx (w.heap.size + 1) o) (by simp)) (j := 0) rfl
    refine zaV rfl ?_ (hK9 _ hS9)
    clear ho9 hF9
    simp only [cl1o1, execOp, e4]
    first | done | (go_simp <;> omega)
   ·obtain rfl := so cl1_2 ho9
    have e7 := hF9.ev 1 7
    rw [if_pos (zaJ rfl)]
    unfold Oper.wp
    have f7 := hF9.nw 1 7
    have hr9 : (execOp a9.eval cl1o2).run Tryz.prog w9 = .ok (.enter 185 #[.int .u8 (o : Int)]) w9 := by
     simp only [cl1o2, execOp]
     go_simp
    rw [hr9, Oper.upon_enter]
    refine Calls.mono (CA.out w9) ?_
    rintro e9 w8 ⟨rfl, hb⟩
    exact hK9 _ (hb ▸ hS9)
   ·obtain rfl := so cl1_3 ho9
    have e8 := hF9.ev 2 8
    have hk9 := HK1.out
    refine zaV rfl ?_ (hK9 _ hS9)
    clear ho9 hF9
    simp only [cl1o3, execOp, e8]
    first | done | (go_simp <;> omega)
   ·obtain rfl := so cl1_4 ho9
    have e9 := hF9.ev 3 9
    refine zaV rfl ?_ (hK9 _ hS9)
    clear ho9 hF9
    simp only [cl1o4, execOp, e9]
    first | done | (go_simp <;> omega)
   ·obtain rfl := so cl1_5 ho9
    have e5 := hF9.od 5 (v := .pointer (some ⟨w.heap.size + 2, 0, none⟩)) rfl
    exact zbS rfl zbW (hF9.nw 4 10) (hK9 _ hS9)
   ·obtain rfl := so cl1_6 ho9
    have f11 := hF9.nw 5 11
    exact zbS rfl zbW (hF9.nw 4 10) (hK9 _ hS9)
   ·obtain rfl := so cl1_7 ho9
    have e4 := hF9.od 4 (v := .pointer (some ⟨w.heap.size + 1, 0, none⟩)) rfl
    exact zbS rfl zbW (hF9.nw 4 10) (hK9 _ hS9)
   ·obtain rfl := so cl1_8 ho9
    have e13 := hF9.ev 7 13
    exact zbS rfl zbW (hF9.nw 4 10) (hK9 _ hS9)
   ·obtain rfl := so cl1_9 ho9
    have e12 := hF9.ev 6 12
    have e14 := hF9.ev 8 14
    exact zbS rfl zbW (hF9.nw 4 10) (hK9 _ hS9)
   ·obtain rfl := so cl1_10 ho9
    have e10 := hF9.ev 4 10
    have e15 := hF9.ev 9 15
    refine zaV rfl ?_ (hK9 _ hS9)
    clear ho9 hF9
    simp only [cl1o10, execOp, e10, e15]
    first | done | (go_simp <;> omega)
  ·intro w9 hS9 K9 hK9
   simp only [putTo, cl1_d0, cl1_d1, cl1_d2, cl1_d3, zbW, cl1_d5, cl1_d6, cl1_d7, cl1_d8, cl1_d9, cl1_d10, cl1o11]
   rw [if_pos (zaJ rfl)]
   unfold Oper.wp
   go_simp
   refine Calls.mono (zaW _ w9) ?_
   rintro e w2 ⟨rfl, rfl⟩
   refine ⟨rfl, ?_⟩
   rw [HR.out]
   exact ⟨rfl, hS9.bad (.cons _ (.cons _ (.cons _ (.refl _))))⟩
 have HK1 : Hid ((m : Int) > 0) := hidI (by omega)
 by_cases hmn : n = m
 ·have HR : Hid (tCall ex o kids σ = tBrk (tSeq (tWord (opW o)) (tAll ex kids)) σ) := hidI (by rw [HR.out, if_pos (by omega)])
  have HK2 : Hid (((n : Int) == (m : Int)) = true) := hidI (by rw [beq_iff_eq]; omega)
  have ho : o ≤ 19 := by
   unfold arityN at hm
   split at hm
   ·omega
   ·omega
  have CK : Hid (∀ W, TlS t σ (kBx (w.heap.size + 2) a1 n c1 :: oBx (w.heap.size + 1) o :: tBx w.heap.size t.B :: X) W → Calls Tryz.prog 152 #[.pointer (some ⟨t.B, 0, none⟩), .func (.func 192) #[] #[.pointer (some ⟨w.heap.size, 0, none⟩), .pointer (some ⟨w.heap.size + 1, 0, none⟩), .pointer (some ⟨w.heap.size + 2, 0, none⟩)]] W (TPost t (kBx (w.heap.size + 2) a1 n c1 :: oBx (w.heap.size + 1) o :: tBx w.heap.size t.B :: X) (tBrk (tSeq (tWord (opW o)) (tAll ex kids)) σ))) := hidI (fun W hW =>
   brk2_any hk hW (.inr (.inl ⟨rfl, _, _, _, rfl⟩)) (kp_seq (zcQ _) (kp_all hkp _)) (fun σ1 w1 h1 hf1 => by
    have h2 := cclo_any (f0 := σ.f + 1) hk ho hkp hv hl (σ := σ1) (X := X) (w := w1) (tb := w.heap.size) (ob := w.heap.size + 1) (kb := w.heap.size + 2) (by rw [hn]; exact h1) (by omega) HE
    rw [hn] at h2
    exact h2))
  rw [hn]
  clear hm0 hmn hm h HE hv hn
  go_enter Tryz.func188, Tryz.ntmps188
  go_wp2
  refine zaU (ops := cl1) (fun i => match i with | 0 => .pointer (some ⟨t.B, 0, none⟩) | 1 => .int .u8 (o : Int) | 2 => .int .i64 (m : Int) | 3 => .bool true | 4 => .bool true | 5 => .slice a1 n c1 | 6 => .int .i64 (n : Int) | 7 => .int .u8 (o : Int) | 8 => .int .i64 (m : Int) | 9 => .bool true | 10 => .bool true | _ => undef) (fun y => TlS t σ (kBx (w.heap.size + 2) a1 n c1 :: oBx (w.heap.size + 1) o :: tBx w.heap.size t.B :: X) y) 11 Tryz.mixed (by kernel_rfl) (by kernel_rfl) cl1_11 HA.out.drew ?_ ?_
  ·intro i9 o9 hi9 ho9 a9 w9 hF9 hS9 K9 hK9
   have hc9 : i9 = 0 ∨ i9 = 1 ∨ i9 = 2 ∨ i9 = 3 ∨ i9 = 4 ∨ i9 = 5 ∨ i9 = 6 ∨ i9 = 7 ∨ i9 = 8 ∨ i9 = 9 ∨ i9 = 10 := by omega
   clear hi9
   rcases hc9 with rfl | rfl | rfl | rfl | rfl | rfl | rfl | rfl | rfl | rfl | rfl
   ·obtain rfl := so cl1_0 ho9
    have e3 := hF9.od 3 (v := .pointer (some ⟨w.heap.size, 0, none⟩)) rfl
    have q0 := zaA (hS9.r.own (r := tBx w.heap.size t.B) (by simp)) (j := 0) rfl
    refine zaV rfl ?_ (hK9 _ hS9)
    clear ho9 hF9
    simp only [cl1o0, execOp, e3]
    first | done | (go_simp <;> omega)
   ·obtain rfl := so cl1_1 ho9
    have e4 := hF9.od 4 (v := .pointer (some ⟨w.heap.size + 1, 0, none⟩)) rfl
    have q0 := zaA (hS9.r.own (r := oBx (w.heap.size + 1) o) (by simp)) (j := 0) rfl
    refine zaV rfl ?_ (hK9 _ hS9)
    clear ho9 hF9
    simp only [cl1o1, execOp, e4]
    first | done | (go_simp <;> omega)
   ·obtain rfl := so cl1_2 ho9
    have e7 := hF9.ev 1 7
    rw [if_pos (zaJ rfl)]
    unfold Oper.wp
    have f7 := hF9.nw 1 7
    have hr9 : (execOp a9.eval cl1o2).run Tryz.prog w9 = .ok (.enter 185 #[.int .u8 (o : Int)]) w9 := by
     simp only [cl1o2, execOp]
     go_simp
    rw [hr9, Oper.upon_enter]
    refine Calls.mono (CA.out w9) ?_
    rintro e9 w8 ⟨rfl, hb⟩
    exact hK9 _ (hb ▸ hS9)
   ·obtain rfl := so cl1_3 ho9
    have e8 := hF9.ev 2 8
    have hk9 := HK1.out
    refine zaV rfl ?_ (hK9 _ hS9)
    clear ho9 hF9
    simp only [cl1o3, execOp, e8]
    first | done | (go_simp <;> omega)
   ·obtain rfl := so cl1_4 ho9
    have e9 := hF9.ev 3 9
    refine zaV rfl ?_ (hK9 _ hS9)
    clear ho9 hF9
    simp only [cl1o4, execOp, e9]
    first | done | (go_simp <;> omega)
   ·obtain rfl := so cl1_5 ho9
    have e5 := hF9.od 5 (v := .pointer (some ⟨w.heap.size + 2, 0, none⟩)) rfl
    refine zbN rfl zbW (hF9.nw 4 10) ?_
    have q0 := zaA (hS9.r.own (r := kBx (w.heap.size + 2) a1 n c1) (by simp)) (j := 0) rfl
    refine zbG ?_ (hK9 _ hS9)
    clear ho9 hF9
    simp only [cl1o5, execOp, e5]
    first | done | (go_simp <;> omega)
   ·obtain rfl := so cl1_6 ho9
    have f11 := hF9.nw 5 11
    refine zbN rfl zbW (hF9.nw 4 10) ?_
    refine zbG ?_ (hK9 _ hS9)
    clear ho9 hF9
    simp only [cl1o6, execOp]
    first | done | (go_simp <;> omega)
   ·obtain rfl := so cl1_7 ho9
    have e4 := hF9.od 4 (v := .pointer (some ⟨w.heap.size + 1, 0, none⟩)) rfl
    refine zbN rfl zbW (hF9.nw 4 10) ?_
    have q0 := zaA (hS9.r.own (r := oBx (w.heap.size + 1) o) (by simp)) (j := 0) rfl
    refine zbG ?_ (hK9 _ hS9)
    clear ho9 hF9
    simp only [cl1o7, execOp, e4]
    first | done | (go_simp <;> omega)
   ·obtain rfl := so cl1_8 ho9
    have e13 := hF9.ev 7 13
    refine zbN rfl zbW (hF9.nw 4 10) ?_
    unfold Oper.wp
    have f13 := hF9.nw 7 13
    have hr9 : (execOp a9.eval cl1o8).run Tryz.prog w9 = .ok (.enter 185 #[.int .u8 (o : Int)]) w9 := by
     simp only [cl1o8, execOp]
     go_simp
    rw [hr9, Oper.upon_enter]
    refine Calls.mono (CA.out w9) ?_
    rintro e9 w8 ⟨rfl, hb⟩
    exact hK9 _ (hb ▸ hS9)
   ·obtain rfl := so cl1_9 ho9
    have e12 := hF9.ev 6 12
    have e14 := hF9.ev 8 14
    refine zbN rfl zbW (hF9.nw 4 10) ?_
    have hk9 := HK2.out
    refine zbG ?_ (hK9 _ hS9)
    clear ho9 hF9
    simp only [cl1o9, execOp, e12, e14]
    first | done | (go_simp <;> omega)
   ·obtain rfl := so cl1_10 ho9
    have e10 := hF9.ev 4 10
    have e15 := hF9.ev 9 15
    refine zaV rfl ?_ (hK9 _ hS9)
    clear ho9 hF9
    simp only [cl1o10, execOp, e10, e15]
    first | done | (go_simp <;> omega)
  ·intro w9 hS9 K9 hK9
   simp only [putTo, cl1_d0, cl1_d1, cl1_d2, cl1_d3, zbW, cl1_d5, cl1_d6, cl1_d7, cl1_d8, cl1_d9, cl1_d10, cl1o11]
   rw [if_pos (zaJ rfl)]
   unfold Oper.wp
   go_simp
   refine Calls.mono (zbH _ w9) ?_
   rintro e w2 ⟨rfl, rfl⟩
   refine hK9 _ _ ?_
   clear hK9 K9
   have HS9 := hidI hS9
   clear hS9
   have q0 := zaA (HS9.out.r.own (r := tBx w.heap.size t.B) (by simp)) (j := 0) rfl
   have CX := hidI (CK.out w9 HS9.out)
   cases hr : tBrk (tSeq (tWord (opW o)) (tAll ex kids)) σ with
   | none =>
    rw [hr] at CX HR
    clear hr
    go_wp2_with (go_at_call 152; refine Calls.mono CX.out ?_; intro e w3 h3; obtain ⟨rfl, hb3⟩ := h3; clear CX)
    refine ⟨rfl, ?_⟩
    rw [HR.out]
    exact ⟨rfl, hb3.sub (.cons _ (.cons _ (.cons _ (.refl _))))⟩
   | some σ1 =>
    rw [hr] at CX HR
    clear hr
    go_wp2_with (go_at_call 152; refine Calls.mono CX.out ?_; intro e w3 h3; obtain ⟨rfl, hb3⟩ := h3; clear CX)
    go_end0
    rw [HR.out]
    exact ⟨rfl, hb3.sub (.cons _ (.cons _ (.cons _ (.refl _))))⟩
 ·have HR : Hid (tCall ex o kids σ = none) := hidI (by rw [HR.out, if_neg (by omega)])
  have HK2 : Hid (((n : Int) == (m : Int)) = false) := hidI (by rw [beq_eq_false_iff_ne]; omega)
  rw [hn]
  clear hm0 hmn hm h HE hv hn
  go_enter Tryz.func188, Tryz.ntmps188
  go_wp2
  refine zaU (ops := cl1) (fun i => match i with | 0 => .pointer (some ⟨t.B, 0, none⟩) | 1 => .int .u8 (o : Int) | 2 => .int .i64 (m : Int) | 3 => .bool true | 4 => .bool true | 5 => .slice a1 n c1 | 6 => .int .i64 (n : Int) | 7 => .int .u8 (o : Int) | 8 => .int .i64 (m : Int) | 9 => .bool false | 10 => .bool false | _ => undef) (fun y => TlS t σ (kBx (w.heap.size + 2) a1 n c1 :: oBx (w.heap.size + 1) o :: tBx w.heap.size t.B :: X) y) 11 Tryz.mixed (by kernel_rfl) (by kernel_rfl) cl1_11 HA.out.drew ?_ ?_
  ·intro i9 o9 hi9 ho9 a9 w9 hF9 hS9 K9 hK9
   have hc9 : i9 = 0 ∨ i9 = 1 ∨ i9 = 2 ∨ i9 = 3 ∨ i9 = 4 ∨ i9 = 5 ∨ i9 = 6 ∨ i9 = 7 ∨ i9 = 8 ∨ i9 = 9 ∨ i9 = 10 := by omega
   clear hi9
   rcases hc9 with rfl | rfl | rfl | rfl | rfl | rfl | rfl | rfl | rfl | rfl | rfl
   ·obtain rfl := so cl1_0 ho9
    have e3 := hF9.od 3 (v := .pointer (some ⟨w.heap.size, 0, none⟩)) rfl
    have q0 := zaA (hS9.r.own (r := tBx w.heap.size t.B) (by simp)) (j := 0) rfl
    refine zaV rfl ?_ (hK9 _ hS9)
    clear ho9 hF9
    simp only [cl1o0, execOp, e3]
    first | done | (go_simp <;> omega)
   ·obtain rfl := so cl1_1 ho9
    have e4 := hF9.od 4 (v := .pointer (some ⟨w.heap.size + 1, 0, none⟩)) rfl
    have q0 := zaA (hS9.r.own (r := oBx (w.heap.size + 1) o) (by simp)) (j := 0) rfl
    refine zaV rfl ?_ (hK9 _ hS9)
    clear ho9 hF9
    simp only [cl1o1, execOp, e4]
    first | done | (go_simp <;> omega)
   ·obtain rfl := so cl1_2 ho9
    have e7 := hF9.ev 1 7
    rw [if_pos (zaJ rfl)]
    unfold Oper.wp
    have f7 := hF9.nw 1 7
    have hr9 : (execOp a9.eval cl1o2).run Tryz.prog w9 = .ok (.enter 185 #[.int .u8 (o : Int)]) w9 := by
     simp only [cl1o2, execOp]
     go_simp
    rw [hr9, Oper.upon_enter]
    refine Calls.mono (CA.out w9) ?_
    rintro e9 w8 ⟨rfl, hb⟩
    exact hK9 _ (hb ▸ hS9)
   ·obtain rfl := so cl1_3 ho9
    have e8 := hF9.ev 2 8
    have hk9 := HK1.out
    refine zaV rfl ?_ (hK9 _ hS9)
    clear ho9 hF9
    simp only [cl1o3, execOp, e8]
    first | done | (go_simp <;> omega)
   ·obtain rfl := so cl1_4 ho9
    have e9 := hF9.ev 3 9
    refine zaV rfl ?_ (hK9 _ hS9)
    clear ho9 hF9
    simp only [cl1o4, execOp, e9]
    first | done | (go_simp <;> omega)
   ·obtain rfl := so cl1_5 ho9
    have e5 := hF9.od 5 (v := .pointer (some ⟨w.heap.size + 2, 0, none⟩)) rfl
    refine zbN rfl zbW (hF9.nw 4 10) ?_
    have q0 := zaA (hS9.r.own (r := kBx (w.heap.size + 2) a1 n c1) (by simp)) (j := 0) rfl
    refine zbG ?_ (hK9 _ hS9)
    clear ho9 hF9
    simp only [cl1o5, execOp, e5]
    first | done | (go_simp <;> omega)
   ·obtain rfl := so cl1_6 ho9
    have f11 := hF9.nw 5 11
    refine zbN rfl zbW (hF9.nw 4 10) ?_
    refine zbG ?_ (hK9 _ hS9)
    clear ho9 hF9
    simp only [cl1o6, execOp]
    first | done | (go_simp <;> omega)
   ·obtain rfl := so cl1_7 ho9
    have e4 := hF9.od 4 (v := .pointer (some ⟨w.heap.size + 1, 0, none⟩)) rfl
    refine zbN rfl zbW (hF9.nw 4 10) ?_
    have q0 := zaA (hS9.r.own (r := oBx (w.heap.size + 1) o) (by simp)) (j := 0) rfl
    refine zbG ?_ (hK9 _ hS9)
    clear ho9 hF9
    simp only [cl1o7, execOp, e4]
    first | done | (go_simp <;> omega)
   ·obtain rfl := so cl1_8 ho9
    have e13 := hF9.ev 7 13
    refine zbN rfl zbW (hF9.nw 4 10) ?_
    unfold Oper.wp
    have f13 := hF9.nw 7 13
    have hr9 : (execOp a9.eval cl1o8).run Tryz.prog w9 = .ok (.enter 185 #[.int .u8 (o : Int)]) w9 := by
     simp only [cl1o8, execOp]
     go_simp
    rw [hr9, Oper.upon_enter]
    refine Calls.mono (CA.out w9) ?_
    rintro e9 w8 ⟨rfl, hb⟩
    exact hK9 _ (hb ▸ hS9)
   ·obtain rfl := so cl1_9 ho9
    have e12 := hF9.ev 6 12
    have e14 := hF9.ev 8 14
    refine zbN rfl zbW (hF9.nw 4 10) ?_
    have hk9 := HK2.out
    refine zbG ?_ (hK9 _ hS9)
    clear ho9 hF9
    simp only [cl1o9, execOp, e12, e14]
    first | done | (go_simp <;> omega)
   ·obtain rfl := so cl1_10 ho9
    have e10 := hF9.ev 4 10
    have e15 := hF9.ev 9 15
    refine zaV rfl ?_ (hK9 _ hS9)
    clear ho9 hF9
    simp only [cl1o10, execOp, e10, e15]
    first | done | (go_simp <;> omega)
  ·intro w9 hS9 K9 hK9
   simp only [putTo, cl1_d0, cl1_d1, cl1_d2, cl1_d3, zbW, cl1_d5, cl1_d6, cl1_d7, cl1_d8, cl1_d9, cl1_d10, cl1o11]
   rw [if_pos (zaJ rfl)]
   unfold Oper.wp
   go_simp
   refine Calls.mono (zaW _ w9) ?_
   rintro e w2 ⟨rfl, rfl⟩
   refine ⟨rfl, ?_⟩
   rw [HR.out]
   exact ⟨rfl, hS9.bad (.cons _ (.cons _ (.cons _ (.refl _))))⟩
def expr1 (ex : Int → TM) (xs : List Exp) (a : Int) : TM := fun σ =>
 if 0 ≤ a ∧ a < xs.length then
  match tBody ex (xs.getD a.toNat exp0) σ with
  | none => none
  | some σ1 => if sameX (xs.getD a.toNat exp0) (plainX (xs.getD a.toNat exp0)) = true ∧ a = σ1.x then some { σ1 with x := σ1.x + 1 } else none
 else none
theorem tExpr_succ (xs : List Exp) (f : Nat) (a : Int) : tExpr xs (f + 1) a = expr1 (tExpr xs f) xs a := rfl
def xBx (b k of op : Nat) (nm : ByteArray) (num : Int) (v : Value) : Rw := ⟨bx b, 190, 6, 1, [.int .u8 (k : Int), .int .u8 (of : Int), .int .u8 (op : Int), .string nm, .int .i64 num, v]⟩
theorem sees_nil (w : World) : SeesC w (.slice none 0 0) ([] : List Int).length 1 (intsI []) := ⟨rfl, none, 0, rfl, .inl rfl⟩
theorem zcN (x : XV) : (xcells x).length = 6 := rfl
theorem exprPt_asc (k : Nat) : (∀ (i : Nat) (h : i < (exprPt k).size), ((exprPt k)[i]'h).toNat < 128) ∧ ptL (exprPt k) = exprSh k ∧ (∀ x ∈ exprSh k, x = 110 ∨ x = 119) ∧ SmlN (exprWd k) ∧ exprWd k = exprW k := by
 by_cases h : k ≤ 10
 ·have hm : k = 0 ∨ k = 1 ∨ k = 2 ∨ k = 3 ∨ k = 4 ∨ k = 5 ∨ k = 6 ∨ k = 7 ∨ k = 8 ∨ k = 9 ∨ k = 10 := by omega
  rcases hm with rfl | rfl | rfl | rfl | rfl | rfl | rfl | rfl | rfl | rfl | rfl <;> exact ⟨by decide, by decide +kernel, by decide, by unfold SmlN; decide +kernel, rfl⟩
 ·have e1 : exprPt k = ⟨#[]⟩ := by unfold exprPt; split <;> first | rfl | omega
  have e2 : exprSh k = [] := by unfold exprSh; split <;> first | rfl | omega
  have e3 : exprWd k = ⟨#[]⟩ := by unfold exprWd; split <;> first | rfl | omega
  have e4 : exprW k = ⟨#[]⟩ := by unfold exprW; split <;> first | rfl | omega
  rw [e1, e2, e3, e4]
  exact ⟨by decide, by decide +kernel, by simp, by unfold SmlN; decide, rfl⟩
def xl7o0 : Oper := ⟨some 54, .fieldAddr 190 (.tmp 4) 1, 0, "tell.go:80", #[], none⟩
def xl7o1 : Oper := ⟨some 55, .load 33 (.tmp 54), 33, "tell.go:80", #[⟨0, .data⟩], none⟩
def xl7o2 : Oper := ⟨some 56, .fieldAddr 190 (.tmp 4) 4, 0, "tell.go:80", #[{ on := 5, ground := Go.Ground.gcOnly Go.Departure.lateStores }], none⟩
def xl7o3 : Oper := ⟨some 57, .load 89 (.tmp 56), 89, "tell.go:80", #[⟨2, .data⟩, { on := 5, ground := Go.Ground.gcOnly Go.Departure.lateStores }], none⟩
def xl7o4 : Oper := ⟨some 58, .fieldAddr 190 (.tmp 5) 1, 0, "tell.go:80", #[⟨0, .phase⟩, ⟨1, .phase⟩, { on := 2, ground := Go.Ground.textOnly Go.Departure.lateStores }, { on := 3, ground := Go.Ground.textOnly Go.Departure.lateStores }], none⟩
def xl7o5 : Oper := ⟨none, .store 33 (.tmp 58) (.tmp 55), 0, "tell.go:80", #[⟨4, .data⟩, ⟨1, .data⟩, ⟨0, .phase⟩, ⟨1, .phase⟩, { on := 2, ground := Go.Ground.textOnly Go.Departure.lateStores }, { on := 3, ground := Go.Ground.textOnly Go.Departure.lateStores }], none⟩
def xl7o6 : Oper := ⟨some 59, .fieldAddr 190 (.tmp 5) 4, 0, "tell.go:80", #[⟨0, .phase⟩, ⟨1, .phase⟩, ⟨2, .phase⟩, ⟨3, .phase⟩, ⟨4, .phase⟩, ⟨5, .phase⟩], none⟩
def xl7o7 : Oper := ⟨none, .store 89 (.tmp 59) (.tmp 57), 0, "tell.go:80", #[⟨6, .data⟩, ⟨3, .data⟩, ⟨5, .chain⟩, ⟨0, .phase⟩, ⟨1, .phase⟩, ⟨2, .phase⟩, ⟨3, .phase⟩, ⟨4, .phase⟩, ⟨5, .phase⟩], none⟩
def xl7 : Array Oper := #[xl7o0, xl7o1, xl7o2, xl7o3, xl7o4, xl7o5, xl7o6, xl7o7]
theorem xl7_0 : xl7[0]? = some xl7o0 := by kernel_rfl
theorem xl7_1 : xl7[1]? = some xl7o1 := by kernel_rfl
theorem xl7_2 : xl7[2]? = some xl7o2 := by kernel_rfl
theorem xl7_3 : xl7[3]? = some xl7o3 := by kernel_rfl
theorem xl7_4 : xl7[4]? = some xl7o4 := by kernel_rfl
theorem xl7_5 : xl7[5]? = some xl7o5 := by kernel_rfl
theorem xl7_6 : xl7[6]? = some xl7o6 := by kernel_rfl
theorem xl7_7 : xl7[7]? = some xl7o7 := by kernel_rfl
theorem xl7_d0 : dstOf xl7 0 = some 54 := by kernel_rfl
theorem xl7_d1 : dstOf xl7 1 = some 55 := by kernel_rfl
theorem xl7_d2 : dstOf xl7 2 = some 56 := by kernel_rfl
theorem xl7_d3 : dstOf xl7 3 = some 57 := by kernel_rfl
theorem xl7_d4 : dstOf xl7 4 = some 58 := by kernel_rfl
theorem xl7_d6 : dstOf xl7 6 = some 59 := by kernel_rfl
theorem dstOf_nonexl7 : dstOf xl7 5 = none := by kernel_rfl
def xl14o0 : Oper := ⟨some 87, .fieldAddr 190 (.tmp 4) 2, 0, "tell.go:87", #[], none⟩
def xl14o1 : Oper := ⟨some 88, .load 75 (.tmp 87), 75, "tell.go:87", #[⟨0, .data⟩], none⟩
def xl14o2 : Oper := ⟨some 89, .fieldAddr 190 (.tmp 4) 5, 0, "tell.go:87", #[{ on := 5, ground := Go.Ground.gcOnly Go.Departure.lateStores }], none⟩
def xl14o3 : Oper := ⟨some 90, .load 45 (.tmp 89), 45, "tell.go:87", #[⟨2, .data⟩, { on := 5, ground := Go.Ground.gcOnly Go.Departure.lateStores }], none⟩
def xl14o4 : Oper := ⟨some 91, .fieldAddr 190 (.tmp 5) 2, 0, "tell.go:87", #[⟨0, .phase⟩, ⟨1, .phase⟩, { on := 2, ground := Go.Ground.textOnly Go.Departure.lateStores }, { on := 3, ground := Go.Ground.textOnly Go.Departure.lateStores }], none⟩
def xl14o5 : Oper := ⟨none, .store 75 (.tmp 91) (.tmp 88), 0, "tell.go:87", #[⟨4, .data⟩, ⟨1, .data⟩, ⟨0, .phase⟩, ⟨1, .phase⟩, { on := 2, ground := Go.Ground.textOnly Go.Departure.lateStores }, { on := 3, ground := Go.Ground.textOnly Go.Departure.lateStores }], none⟩
def xl14o6 : Oper := ⟨some 92, .fieldAddr 190 (.tmp 5) 5, 0, "tell.go:87", #[⟨0, .phase⟩, ⟨1, .phase⟩, ⟨2, .phase⟩, ⟨3, .phase⟩, ⟨4, .phase⟩, ⟨5, .phase⟩], none⟩
def xl14o7 : Oper := ⟨none, .store 45 (.tmp 92) (.tmp 90), 0, "tell.go:87", #[⟨6, .data⟩, ⟨3, .data⟩, ⟨5, .chain⟩, ⟨0, .phase⟩, ⟨1, .phase⟩, ⟨2, .phase⟩, ⟨3, .phase⟩, ⟨4, .phase⟩, ⟨5, .phase⟩], none⟩
def xl14 : Array Oper := #[xl14o0, xl14o1, xl14o2, xl14o3, xl14o4, xl14o5, xl14o6, xl14o7]
theorem xl14_0 : xl14[0]? = some xl14o0 := by kernel_rfl
theorem xl14_1 : xl14[1]? = some xl14o1 := by kernel_rfl
theorem xl14_2 : xl14[2]? = some xl14o2 := by kernel_rfl
theorem xl14_3 : xl14[3]? = some xl14o3 := by kernel_rfl
theorem xl14_4 : xl14[4]? = some xl14o4 := by kernel_rfl
theorem xl14_5 : xl14[5]? = some xl14o5 := by kernel_rfl
theorem xl14_6 : xl14[6]? = some xl14o6 := by kernel_rfl
theorem xl14_7 : xl14[7]? = some xl14o7 := by kernel_rfl
theorem xl14_d0 : dstOf xl14 0 = some 87 := by kernel_rfl
theorem xl14_d1 : dstOf xl14 1 = some 88 := by kernel_rfl
theorem xl14_d2 : dstOf xl14 2 = some 89 := by kernel_rfl
theorem xl14_d3 : dstOf xl14 3 = some 90 := by kernel_rfl
theorem xl14_d4 : dstOf xl14 4 = some 91 := by kernel_rfl
theorem xl14_d6 : dstOf xl14 6 = some 92 := by kernel_rfl
theorem dstOf_nonexl14 : dstOf xl14 5 = none := by kernel_rfl
def xl4o0 : Oper := ⟨some 33, .fieldAddr 190 (.tmp 4) 3, 0, "tell.go:90", #[], none⟩
def xl4o1 : Oper := ⟨some 34, .load 9 (.tmp 33), 9, "tell.go:90", #[⟨0, .data⟩], none⟩
def xl4o2 : Oper := ⟨some 35, .fieldAddr 190 (.tmp 4) 4, 0, "tell.go:90", #[], none⟩
def xl4o3 : Oper := ⟨some 36, .load 89 (.tmp 35), 89, "tell.go:90", #[⟨2, .data⟩], none⟩
def xl4o4 : Oper := ⟨some 37, .binOp .eql 89 (.tmp 36) (.const (.int .i64 1)) 89, 4, "tell.go:90", #[⟨3, .data⟩], none⟩
def xl4o5 : Oper := ⟨some 38, .call ⟨.value (.func 184), #[.tmp 37], #[4]⟩, 89, "tell.go:90", #[⟨4, .data⟩], none⟩
def xl4o6 : Oper := ⟨some 39, .fieldAddr 190 (.tmp 5) 3, 0, "tell.go:90", #[⟨0, .phase⟩, ⟨1, .phase⟩, { on := 2, ground := Go.Ground.textOnly Go.Departure.lateStores }, { on := 3, ground := Go.Ground.textOnly Go.Departure.lateStores }, { on := 4, ground := Go.Ground.textOnly Go.Departure.lateStores }, { on := 5, ground := Go.Ground.textOnly Go.Departure.lateStoresUnsure }], none⟩
def xl4o7 : Oper := ⟨none, .store 9 (.tmp 39) (.tmp 34), 0, "tell.go:90", #[⟨6, .data⟩, ⟨1, .data⟩, ⟨5, .chain⟩, ⟨0, .phase⟩, ⟨1, .phase⟩, { on := 2, ground := Go.Ground.textOnly Go.Departure.lateStores }, { on := 3, ground := Go.Ground.textOnly Go.Departure.lateStores }, { on := 4, ground := Go.Ground.textOnly Go.Departure.lateStores }, { on := 5, ground := Go.Ground.textOnly Go.Departure.lateStoresUnsure }], none⟩
def xl4o8 : Oper := ⟨some 40, .fieldAddr 190 (.tmp 5) 4, 0, "tell.go:90", #[⟨0, .phase⟩, ⟨1, .phase⟩, ⟨2, .phase⟩, ⟨3, .phase⟩, ⟨4, .phase⟩, ⟨5, .phase⟩, ⟨6, .phase⟩, ⟨7, .phase⟩], none⟩
def xl4o9 : Oper := ⟨none, .store 89 (.tmp 40) (.tmp 38), 0, "tell.go:90", #[⟨8, .data⟩, ⟨5, .data⟩, ⟨7, .chain⟩, ⟨0, .phase⟩, ⟨1, .phase⟩, ⟨2, .phase⟩, ⟨3, .phase⟩, ⟨4, .phase⟩, ⟨5, .phase⟩, ⟨6, .phase⟩, ⟨7, .phase⟩], none⟩
def xl4 : Array Oper := #[xl4o0, xl4o1, xl4o2, xl4o3, xl4o4, xl4o5, xl4o6, xl4o7, xl4o8, xl4o9]
theorem xl4_0 : xl4[0]? = some xl4o0 := by kernel_rfl
theorem xl4_1 : xl4[1]? = some xl4o1 := by kernel_rfl
theorem xl4_2 : xl4[2]? = some xl4o2 := by kernel_rfl
theorem xl4_3 : xl4[3]? = some xl4o3 := by kernel_rfl
theorem xl4_4 : xl4[4]? = some xl4o4 := by kernel_rfl
theorem xl4_5 : xl4[5]? = some xl4o5 := by kernel_rfl
theorem xl4_6 : xl4[6]? = some xl4o6 := by kernel_rfl
theorem xl4_7 : xl4[7]? = some xl4o7 := by kernel_rfl
theorem xl4_8 : xl4[8]? = some xl4o8 := by kernel_rfl
theorem xl4_9 : xl4[9]? = some xl4o9 := by kernel_rfl
theorem xl4_d0 : dstOf xl4 0 = some 33 := by kernel_rfl
theorem xl4_d1 : dstOf xl4 1 = some 34 := by kernel_rfl
theorem xl4_d2 : dstOf xl4 2 = some 35 := by kernel_rfl
theorem xl4_d3 : dstOf xl4 3 = some 36 := by kernel_rfl
theorem xl4_d4 : dstOf xl4 4 = some 37 := by kernel_rfl
theorem xl4_d5 : dstOf xl4 5 = some 38 := by kernel_rfl
theorem xl4_d6 : dstOf xl4 6 = some 39 := by kernel_rfl
theorem xl4_d8 : dstOf xl4 8 = some 40 := by kernel_rfl
theorem dstOf_nonexl4 : dstOf xl4 7 = none := by kernel_rfl
def xl5o0 : Oper := ⟨some 41, .move (.tmp 0), 219, "tell.go:91", #[], none⟩
def xl5o1 : Oper := ⟨some 42, .fieldAddr 190 (.tmp 4) 0, 0, "tell.go:91", #[], none⟩
def xl5o2 : Oper := ⟨some 43, .load 158 (.tmp 42), 158, "tell.go:91", #[⟨1, .data⟩], none⟩
def xl5o3 : Oper := ⟨some 44, .call ⟨.value (.func 85), #[.tmp 43], #[158]⟩, 151, "tell.go:91", #[⟨2, .data⟩], none⟩
def xl5o4 : Oper := ⟨some 45, .fieldAddr 190 (.tmp 4) 3, 0, "tell.go:91", #[], none⟩
def xl5o5 : Oper := ⟨some 46, .load 9 (.tmp 45), 9, "tell.go:91", #[⟨4, .data⟩], none⟩
def xl5o6 : Oper := ⟨some 47, .fieldAddr 190 (.tmp 4) 4, 0, "tell.go:91", #[], none⟩
def xl5o7 : Oper := ⟨some 48, .load 89 (.tmp 47), 89, "tell.go:91", #[⟨6, .data⟩], none⟩
def xl5o8 : Oper := ⟨some 49, .binOp .eql 89 (.tmp 48) (.const (.int .i64 1)) 89, 4, "tell.go:91", #[⟨7, .data⟩], none⟩
def xl5o9 : Oper := ⟨some 50, .build 170 #[(0, .tmp 46), (2, .tmp 49), (3, .const (.int .i64 (-1))), (4, .const (.int .i64 (-1)))], 170, "tell.go:91", #[⟨5, .data⟩, ⟨8, .data⟩], none⟩
def xl5o10 : Oper := ⟨some 51, .call ⟨.value (.func 125), #[.tmp 41, .tmp 44, .tmp 50], #[219, 151, 170]⟩, 0, "tell.go:91", #[⟨0, .data⟩, ⟨3, .data⟩, ⟨9, .data⟩, ⟨3, .chain⟩], none⟩
def xl5 : Array Oper := #[xl5o0, xl5o1, xl5o2, xl5o3, xl5o4, xl5o5, xl5o6, xl5o7, xl5o8, xl5o9, xl5o10]
theorem xl5_0 : xl5[0]? = some xl5o0 := by kernel_rfl
theorem xl5_1 : xl5[1]? = some xl5o1 := by kernel_rfl
theorem xl5_2 : xl5[2]? = some xl5o2 := by kernel_rfl
theorem xl5_3 : xl5[3]? = some xl5o3 := by kernel_rfl
theorem xl5_4 : xl5[4]? = some xl5o4 := by kernel_rfl
theorem xl5_5 : xl5[5]? = some xl5o5 := by kernel_rfl
theorem xl5_6 : xl5[6]? = some xl5o6 := by kernel_rfl
theorem xl5_7 : xl5[7]? = some xl5o7 := by kernel_rfl
theorem xl5_8 : xl5[8]? = some xl5o8 := by kernel_rfl
theorem xl5_9 : xl5[9]? = some xl5o9 := by kernel_rfl
theorem xl5_10 : xl5[10]? = some xl5o10 := by kernel_rfl
theorem xl5_d0 : dstOf xl5 0 = some 41 := by kernel_rfl
theorem xl5_d1 : dstOf xl5 1 = some 42 := by kernel_rfl
theorem xl5_d2 : dstOf xl5 2 = some 43 := by kernel_rfl
theorem xl5_d3 : dstOf xl5 3 = some 44 := by kernel_rfl
theorem xl5_d4 : dstOf xl5 4 = some 45 := by kernel_rfl
theorem xl5_d5 : dstOf xl5 5 = some 46 := by kernel_rfl
theorem xl5_d6 : dstOf xl5 6 = some 47 := by kernel_rfl
theorem xl5_d7 : dstOf xl5 7 = some 48 := by kernel_rfl
theorem xl5_d8 : dstOf xl5 8 = some 49 := by kernel_rfl
theorem xl5_d9 : dstOf xl5 9 = some 50 := by kernel_rfl
end Go.Proofs.YtmekkhfohmfjkaaGreatDoor
