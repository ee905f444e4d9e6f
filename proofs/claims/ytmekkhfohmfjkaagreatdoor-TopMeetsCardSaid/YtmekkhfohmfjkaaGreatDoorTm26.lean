/-
  Part 26 of the proof: TlE.
-/
import Derived.Test.YtmekkhfohmfjkaaGreatDoorTm25
namespace Go.Proofs.YtmekkhfohmfjkaaGreatDoor
open Go.RowKit Go.Deep Go.MapKept
theorem zbD {α : Type} (f : α → List Value) (n : Nat) (hf : ∀ x, (f x).length = n) : ∀ (l : List α) (j i : Nat) (x : α), l[j]? = some x → i < n → (l.flatMap f)[j * n + i]? = (f x)[i]?
 | [], _, _, _, h, _ => by simp at h
 | y :: r, 0, i, x, h, hi => by
  simp only [List.getElem?_cons_zero, Option.some.injEq] at h
  subst h
  rw [List.flatMap_cons, List.getElem?_append_left (by rw [hf]; omega)]
  simp
 | y :: r, j + 1, i, x, h, hi => by
  have ih := zbD f n hf r j i x (by simpa using h) hi
  rw [List.flatMap_cons, List.getElem?_append_right (by rw [hf, Nat.add_mul]; omega), hf, ← ih]
  congr 1
  rw [Nat.add_mul]
  omega
def RowsC (t : Tx) (st : Int → TM) (is : List Int) (v : Value) (f0 : Nat) : Prop :=
 ∀ (K : List (Nat × ByteArray × Nat)) (σ1 : TS) (Y : List Rw) (w1 : World), TlS (t.withK K) σ1 Y w1 → f0 ≤ σ1.f → Calls Tryz.prog 126 #[.pointer (some ⟨t.B, 0, none⟩), v] w1 (TPost (t.withK K) Y (tAll st is σ1))
set_option maxHeartbeats 2000000 in
theorem rowsK {t : Tx} {st : Int → TM} {is : List Int} {v : Value} {f0 : Nat} (hv : SeesC t.w0 v is.length 1 (intsI is)) (hl : is.length ≤ 1099511627776) (hkp : ∀ a, Kp (st a)) (HS : ∀ i ∈ is, AtC t 156 (st i) f0 i) : RowsC t st is v f0 := by
 intro K σ X w h hf
 obtain ⟨_, a, cap, rfl, _⟩ := id hv
 obtain ⟨n, hn⟩ : ∃ n, is.length = n := ⟨_, rfl⟩
 have HN := hidI hn
 have HV := hidI hv
 have HH := hidI h
 have HS := hidI HS
 have HF0 := hidI hf
 have HKP := hidI hkp
 rw [hn] at hl
 rw [hn]
 clear hn hv h hf hkp
 go_enter Tryz.func126, Tryz.ntmps126
 go_wp2
 go_loopg [8] n (fun g s8 wx => ∃ (j : Nat) (σj : TS), j + g = n ∧ s8 = .int .i64 (j : Int) ∧ Hid (tAll st is σ = tAll st (is.drop j) σj) ∧ Hid (f0 ≤ σj.f) ∧ Hid (TlS (t.withK K) σj X wx))
 case atStart => exact ⟨0, σ, by omega, rfl, hidI rfl, HF0, HH⟩
 case round =>
  obtain ⟨j, σj, hjg, rfl, HT, HF, HSj⟩ := hrel
  clear HH
  cases gk with
  | zero =>
   obtain rfl : n = j := by omega
   have k1 : decide ((n : Int) < (n : Int)) = false := by simp
   have HR : Hid (tAll st is σ = some σj) := hidI (by
    rw [HT.out, List.drop_of_length_le (by have := HN.out; omega)]
    rfl)
   go_wp2
   go_end0
   rw [HR.out]
   exact ⟨rfl, HSj.out⟩
  | succ g =>
   have k1 : (j : Int) < (n : Int) := by omega
   obtain ⟨i, hi⟩ : ∃ i, is[j]? = some i := ⟨_, List.getElem?_eq_getElem (by have := HN.out; omega)⟩
   obtain ⟨_, a', cap', hav, hcell⟩ := HV.out.below HSj.out.r.below (Nat.le_refl _)
   rw [HN.out] at hav
   cases hav
   rcases hcell with h0 | ⟨b, o, rfl, hcell⟩
   ·have := HN.out; omega
   have x0 := hcell j _ (zcF hi)
   have CP := hidI (HS.out i (List.mem_of_getElem? hi) K σj X _ HSj.out HF.out)
   have HD := hidI (tAll_drop st is j i hi σj)
   clear hi hcell
   cases hr : st i σj with
   | none =>
    have HR : Hid (tAll st is σ = none) := hidI (by rw [HT.out, HD.out, hr])
    rw [hr] at CP
    clear hr
    go_wp2_with (go_at_call 156; refine Calls.mono (CP.out) ?_; intro e w3 h3; obtain ⟨rfl, hb3⟩ := h3; clear CP)
    refine ⟨rfl, ?_⟩
    rw [HR.out]
    exact ⟨rfl, hb3⟩
   | some σ2 =>
    have HT2 : Hid (tAll st is σ = tAll st (is.drop (j + 1)) σ2) := hidI (by rw [HT.out, HD.out, hr])
    have HF2 : Hid (f0 ≤ σ2.f) := hidI (Nat.le_trans HF.out (HKP.out i _ _ hr).2.1)
    rw [hr] at CP
    clear hr
    go_wp2_with (go_at_call 156; refine Calls.mono (CP.out) ?_; intro e w3 h3; obtain ⟨rfl, hb3⟩ := h3; clear CP; have HS3 := hidI hb3; clear hb3)
    go_roundg g
    case measure => omega
    case rel => exact ⟨j + 1, σ2, by omega, by go_num, HT2, HF2, HS3⟩
def ActC (t : Tx) (r : TM) (f0 : Nat) (a : Actn) : Prop :=
 ∀ (K : List (Nat × ByteArray × Nat)) (σ1 : TS) (Y : List Rw) (w1 : World), TlS (t.withK K) σ1 Y w1 → f0 ≤ σ1.f → Calls Tryz.prog 190 #[.pointer (some ⟨t.B, 0, none⟩), .agg #[.int .u8 (a.k : Int), .string a.name, .int .u8 (a.op : Int), .bool a.inn, .int .i64 a.e, .int .i64 a.cond]] w1 (TPost (t.withK K) Y (r σ1))
theorem acts_bad {t : Tx} {K : List (Nat × ByteArray × Nat)} {σ1 : TS} {Y : List Rw} {w1 : World} (h : TlS (t.withK K) σ1 Y w1) (v : Option Addr) (n cap : Nat) (hn : ¬ (1 ≤ n ∧ n ≤ 6)) : Calls Tryz.prog 177 #[.pointer (some ⟨t.B, 0, none⟩), .slice v n cap] w1 (TPost (t.withK K) Y none) := by
 have CM := hidI (fun W => zaW (.pointer (some ⟨t.B, 0, none⟩)) W)
 have HH := hidI (h.bad (.refl _))
 clear h
 by_cases h1 : 1 ≤ n
 ·have k1 : (1 : Int) ≤ (n : Int) := by omega
  have k2 : ¬ ((n : Int) ≤ 6) := by omega
  clear hn h1
  go_enter Tryz.func177, Tryz.ntmps177
  go_wp2_with (go_at_call 124; refine Calls.mono (CM.out _) ?_; intro e w2 h2; obtain ⟨rfl, rfl⟩ := h2; clear CM)
  exact ⟨rfl, rfl, HH.out⟩
 ·have k1 : ¬ ((1 : Int) ≤ (n : Int)) := by omega
  clear hn h1
  go_enter Tryz.func177, Tryz.ntmps177
  go_wp2_with (go_at_call 124; refine Calls.mono (CM.out _) ?_; intro e w2 h2; obtain ⟨rfl, rfl⟩ := h2; clear CM)
  exact ⟨rfl, rfl, HH.out⟩
theorem zcD (x : Actn) : (acells x).length = 6 := rfl
set_option maxHeartbeats 2000000 in
theorem actsK {t : Tx} {ac : Actn → TM} {l : List Actn} {va : Option Addr} {cap : Nat} {f0 : Nat} (hv : SeesC t.w0 (.slice va l.length cap) l.length 6 (flatAc l)) (hl : 1 ≤ l.length ∧ l.length ≤ 6) (hkp : ∀ a, Kp (ac a)) (HS : ∀ a ∈ l, ActC t (ac a) f0 a) : ∀ (K : List (Nat × ByteArray × Nat)) (σ1 : TS) (Y : List Rw) (w1 : World), TlS (t.withK K) σ1 Y w1 → f0 ≤ σ1.f → Calls Tryz.prog 177 #[.pointer (some ⟨t.B, 0, none⟩), .slice va l.length cap] w1 (TPost (t.withK K) Y (tAll ac l σ1)) := by
 intro K σ X w h hf
 obtain ⟨n, hn⟩ : ∃ n, l.length = n := ⟨_, rfl⟩
 have HN := hidI hn
 have HV := hidI hv
 have HH := hidI h
 have HS := hidI HS
 have HF0 := hidI hf
 have HKP := hidI hkp
 have CM := hidI (fun W => zbH (.pointer (some ⟨t.B, 0, none⟩)) W)
 rw [hn] at hl
 rw [hn]
 have k0 : (1 : Int) ≤ (n : Int) := by omega
 have k6 : (n : Int) ≤ 6 := by omega
 clear hn hv h hf hkp
 go_enter Tryz.func177, Tryz.ntmps177
 go_wp2_with (go_at_call 124; refine Calls.mono (CM.out _) ?_; intro e w2 h2; obtain ⟨rfl, rfl⟩ := h2; clear CM)
 go_loopg [18] n (fun g s18 wx => ∃ (j : Nat) (σj : TS), j + g = n ∧ s18 = .int .i64 (j : Int) ∧ Hid (tAll ac l σ = tAll ac (l.drop j) σj) ∧ Hid (f0 ≤ σj.f) ∧ Hid (TlS (t.withK K) σj X wx))
 case atStart => exact ⟨0, σ, by omega, rfl, hidI rfl, HF0, HH⟩
 case round =>
  obtain ⟨j, σj, hjg, rfl, HT, HF, HSj⟩ := hrel
  clear HH
  cases gk with
  | zero =>
   obtain rfl : n = j := by omega
   have k1 : decide ((n : Int) < (n : Int)) = false := by simp
   have HR : Hid (tAll ac l σ = some σj) := hidI (by
    rw [HT.out, List.drop_of_length_le (by have := HN.out; omega)]
    rfl)
   go_wp2
   go_end0
   rw [HR.out]
   exact ⟨rfl, HSj.out⟩
  | succ g =>
   have k1 : (j : Int) < (n : Int) := by omega
   obtain ⟨a, hi⟩ : ∃ a, l[j]? = some a := ⟨_, List.getElem?_eq_getElem (by have := HN.out; omega)⟩
   obtain ⟨_, a', cap', hav, hcell⟩ := HV.out.below HSj.out.r.below (Nat.le_refl _)
   rw [HN.out] at hav
   cases hav
   rcases hcell with h0 | ⟨b, o, rfl, hcell⟩
   ·have := HN.out; omega
   have x0 := hcell (j * 6 + 0) _ (by unfold flatAc; rw [zbD acells 6 zcD l j 0 a hi (by omega)]; rfl)
   have x1 := hcell (j * 6 + 1) _ (by unfold flatAc; rw [zbD acells 6 zcD l j 1 a hi (by omega)]; rfl)
   have x2 := hcell (j * 6 + 2) _ (by unfold flatAc; rw [zbD acells 6 zcD l j 2 a hi (by omega)]; rfl)
   have x3 := hcell (j * 6 + 3) _ (by unfold flatAc; rw [zbD acells 6 zcD l j 3 a hi (by omega)]; rfl)
   have x4 := hcell (j * 6 + 4) _ (by unfold flatAc; rw [zbD acells 6 zcD l j 4 a hi (by omega)]; rfl)
   have x5 := hcell (j * 6 + 5) _ (by unfold flatAc; rw [zbD acells 6 zcD l j 5 a hi (by omega)]; rfl)
   simp only [Nat.add_zero, ← Nat.add_assoc] at x0 x1 x2 x3 x4 x5
   have HSA := hidI (HSj.out.alloc (.cells #[.int .u8 (a.k : Int), .string a.name, .int .u8 (a.op : Int), .bool a.inn, .int .i64 a.e, .int .i64 a.cond] 126))
   have CP := hidI (HS.out a (List.mem_of_getElem? hi) K σj X _ HSA.out HF.out)
   have HD := hidI (tAll_drop ac l j a hi σj)
   clear hi hcell
   cases hr : ac a σj with
   | none =>
    have HR : Hid (tAll ac l σ = none) := hidI (by rw [HT.out, HD.out, hr])
    rw [hr] at CP
    clear hr
    go_wp2_with (go_at_call 190; refine Calls.mono (CP.out) ?_; intro e w3 h3; obtain ⟨rfl, hb3⟩ := h3; clear CP)
    refine ⟨rfl, ?_⟩
    rw [HR.out]
    exact ⟨rfl, hb3⟩
   | some σ2 =>
    have HT2 : Hid (tAll ac l σ = tAll ac (l.drop (j + 1)) σ2) := hidI (by rw [HT.out, HD.out, hr])
    have HF2 : Hid (f0 ≤ σ2.f) := hidI (Nat.le_trans HF.out (HKP.out a _ _ hr).2.1)
    rw [hr] at CP
    clear hr
    go_wp2_with (go_at_call 190; refine Calls.mono (CP.out) ?_; intro e w3 h3; obtain ⟨rfl, hb3⟩ := h3; clear CP; have HS3 := hidI hb3; clear hb3)
    go_roundg g
    case measure => omega
    case rel => exact ⟨j + 1, σ2, by omega, by go_num, HT2, HF2, HS3⟩
def ao1o0 : Oper := ⟨some 4, .move (.tmp 0), 219, "tell.go:71", #[], none⟩
def ao1o1 : Oper := ⟨some 5, .fieldAddr 126 (.tmp 3) 0, 0, "tell.go:71", #[], none⟩
def ao1o2 : Oper := ⟨some 6, .load 124 (.tmp 5), 124, "tell.go:71", #[⟨1, .data⟩], none⟩
def ao1o3 : Oper := ⟨some 7, .call ⟨.value (.func 82), #[.tmp 6], #[124]⟩, 151, "tell.go:71", #[⟨2, .data⟩], none⟩
def ao1o4 : Oper := ⟨some 8, .fieldAddr 126 (.tmp 3) 1, 0, "tell.go:71", #[], none⟩
def ao1o5 : Oper := ⟨some 9, .load 9 (.tmp 8), 9, "tell.go:71", #[⟨4, .data⟩], none⟩
def ao1o6 : Oper := ⟨some 10, .fieldAddr 126 (.tmp 3) 2, 0, "tell.go:71", #[], none⟩
def ao1o7 : Oper := ⟨some 11, .load 75 (.tmp 10), 75, "tell.go:71", #[⟨6, .data⟩], none⟩
def ao1o8 : Oper := ⟨some 12, .fieldAddr 126 (.tmp 3) 3, 0, "tell.go:71", #[], none⟩
def ao1o9 : Oper := ⟨some 13, .load 4 (.tmp 12), 4, "tell.go:71", #[⟨8, .data⟩], none⟩
def ao1o10 : Oper := ⟨some 14, .fieldAddr 126 (.tmp 3) 4, 0, "tell.go:71", #[], none⟩
def ao1o11 : Oper := ⟨some 15, .load 3 (.tmp 14), 3, "tell.go:71", #[⟨10, .data⟩], none⟩
def ao1o12 : Oper := ⟨some 16, .fieldAddr 126 (.tmp 3) 5, 0, "tell.go:71", #[], none⟩
def ao1o13 : Oper := ⟨some 17, .load 3 (.tmp 16), 3, "tell.go:71", #[⟨12, .data⟩], none⟩
def ao1o14 : Oper := ⟨some 18, .build 170 #[(0, .tmp 9), (1, .tmp 11), (2, .tmp 13), (3, .tmp 15), (4, .tmp 17)], 170, "tell.go:71", #[⟨5, .data⟩, ⟨7, .data⟩, ⟨9, .data⟩, ⟨11, .data⟩, ⟨13, .data⟩], none⟩
def ao1o15 : Oper := ⟨some 19, .call ⟨.value (.func 125), #[.tmp 4, .tmp 7, .tmp 18], #[219, 151, 170]⟩, 0, "tell.go:71", #[⟨0, .data⟩, ⟨3, .data⟩, ⟨14, .data⟩, ⟨3, .chain⟩], none⟩
def ao1 : Array Oper := #[ao1o0, ao1o1, ao1o2, ao1o3, ao1o4, ao1o5, ao1o6, ao1o7, ao1o8, ao1o9, ao1o10, ao1o11, ao1o12, ao1o13, ao1o14, ao1o15]
theorem ao1_0 : ao1[0]? = some ao1o0 := by kernel_rfl
theorem ao1_1 : ao1[1]? = some ao1o1 := by kernel_rfl
theorem ao1_2 : ao1[2]? = some ao1o2 := by kernel_rfl
theorem ao1_3 : ao1[3]? = some ao1o3 := by kernel_rfl
theorem ao1_4 : ao1[4]? = some ao1o4 := by kernel_rfl
theorem ao1_5 : ao1[5]? = some ao1o5 := by kernel_rfl
theorem ao1_6 : ao1[6]? = some ao1o6 := by kernel_rfl
theorem ao1_7 : ao1[7]? = some ao1o7 := by kernel_rfl
theorem ao1_8 : ao1[8]? = some ao1o8 := by kernel_rfl
theorem ao1_9 : ao1[9]? = some ao1o9 := by kernel_rfl
theorem ao1_10 : ao1[10]? = some ao1o10 := by kernel_rfl
theorem ao1_11 : ao1[11]? = some ao1o11 := by kernel_rfl
theorem ao1_12 : ao1[12]? = some ao1o12 := by kernel_rfl
theorem ao1_13 : ao1[13]? = some ao1o13 := by kernel_rfl
theorem ao1_14 : ao1[14]? = some ao1o14 := by kernel_rfl
theorem ao1_15 : ao1[15]? = some ao1o15 := by kernel_rfl
theorem ao1_d0 : dstOf ao1 0 = some 4 := by kernel_rfl
theorem ao1_d1 : dstOf ao1 1 = some 5 := by kernel_rfl
theorem ao1_d2 : dstOf ao1 2 = some 6 := by kernel_rfl
theorem ao1_d3 : dstOf ao1 3 = some 7 := by kernel_rfl
theorem ao1_d4 : dstOf ao1 4 = some 8 := by kernel_rfl
theorem ao1_d5 : dstOf ao1 5 = some 9 := by kernel_rfl
theorem ao1_d6 : dstOf ao1 6 = some 10 := by kernel_rfl
theorem ao1_d7 : dstOf ao1 7 = some 11 := by kernel_rfl
theorem ao1_d8 : dstOf ao1 8 = some 12 := by kernel_rfl
theorem ao1_d9 : dstOf ao1 9 = some 13 := by kernel_rfl
theorem ao1_d10 : dstOf ao1 10 = some 14 := by kernel_rfl
theorem ao1_d11 : dstOf ao1 11 = some 15 := by kernel_rfl
theorem ao1_d12 : dstOf ao1 12 = some 16 := by kernel_rfl
theorem ao1_d13 : dstOf ao1 13 = some 17 := by kernel_rfl
theorem ao1_d14 : dstOf ao1 14 = some 18 := by kernel_rfl
def aBx (b : Nat) (a : Actn) : Rw := ⟨bx b, 126, 6, 1, [.int .u8 (a.k : Int), .string a.name, .int .u8 (a.op : Int), .bool a.inn, .int .i64 a.e, .int .i64 a.cond]⟩
theorem actPt_asc (k : Nat) : (∀ (i : Nat) (h : i < (actPt k).size), ((actPt k)[i]'h).toNat < 128) ∧ ptL (actPt k) = actSh k ∧ (∀ x ∈ actSh k, x = 110 ∨ x = 111 ∨ x = 119 ∨ x = 101 ∨ x = 99) ∧ SmlN (actWd k) ∧ actWd k = actW k := by
 by_cases h : 1 ≤ k ∧ k ≤ 3
 ·have hm : k = 1 ∨ k = 2 ∨ k = 3 := by omega
  rcases hm with rfl | rfl | rfl <;> exact ⟨by decide, by decide +kernel, by decide, by unfold SmlN; decide +kernel, rfl⟩
 ·have e1 : actPt k = ⟨#[]⟩ := by unfold actPt; split <;> first | rfl | omega
  have e2 : actSh k = [] := by unfold actSh; split <;> first | rfl | omega
  have e3 : actWd k = ⟨#[]⟩ := by unfold actWd; split <;> first | rfl | omega
  have e4 : actW k = ⟨#[]⟩ := by unfold actW; split <;> first | rfl | omega
  rw [e1, e2, e3, e4]
  exact ⟨by decide, by decide +kernel, by simp, by unfold SmlN; decide, rfl⟩
set_option maxRecDepth 100000 in
set_option maxHeartbeats 2000000 in
theorem actK {t : Tx} {F : Nat} (hk : t.Ok F) {ex : Int → TM} {a : Actn} {f0 : Nat} (ha : ActOk a) (hkp : ∀ i, Kp (ex i)) (HE : AtC t 176 (ex a.e) (f0 + 1) a.e) (HC : a.cond ≠ -1 → AtC t 176 (ex a.cond) (f0 + 1) a.cond) : ActC t (tAct ex a) f0 a := by
 intro K σ X w h hf
 have hkK := hk.withK K
 have HA : Hid (TlS (t.withK K) σ (aBx w.heap.size a :: X) (w.alloc (.cells #[.int .u8 (a.k : Int), .string a.name, .int .u8 (a.op : Int), .bool a.inn, .int .i64 a.e, .int .i64 a.cond] 126))) := hidI (h.newbox 126 6 #[.int .u8 (a.k : Int), .string a.name, .int .u8 (a.op : Int), .bool a.inn, .int .i64 a.e, .int .i64 a.cond] rfl)
 obtain ⟨p1, p2, p3, p4, p5⟩ := actPt_asc a.k
 have CS : Hid (∀ W, TlS (t.withK K) σ (aBx w.heap.size a :: X) W → Calls Tryz.prog 125 #[.pointer (some ⟨t.B, 0, none⟩), .agg #[.string (actWd a.k), .string (actPt a.k)], .agg #[.string a.name, .int .u8 (a.op : Int), .bool a.inn, .int .i64 a.e, .int .i64 a.cond, .slice none 0 0, .slice none 0 0, .slice none 0 0]] W (TPost (t.withK K) (aBx w.heap.size a :: X) (tAct ex a σ))) := hidI (fun W hW => by
  have h0 := shaped_any hkK (sw := actWd a.k) (sp := actPt a.k) p4 p1 (k := ctnA a) (a1 := none) (c1 := 0) (a2 := none) (c2 := 0) (a3 := none) (c3 := 0) (part := tPart ex noT noT (ctnA a)) (kp_part hkp zdD zdD) hW (fun c hc => by
   rw [p2] at hc
   rcases p3 c hc with rfl | rfl | rfl | rfl | rfl
   ·exact part_n hkK ha.2.2
   ·exact part_o hkK
   ·exact part_w hkK
   ·exact part_e hkK (fun K2 σ1 Y w1 h1 h2 => HE K2 σ1 Y w1 h1 (by omega))
   ·exact part_c hkK (fun hne K2 σ1 Y w1 h1 h2 => HC hne K2 σ1 Y w1 h1 (by omega)))
  rw [p2, p5] at h0
  rw [p5]
  exact h0)
 clear h hf HE HC hk hkK
 go_enter Tryz.func190, Tryz.ntmps190
 go_wp2
 refine zaU (ops := ao1) (fun i => match i with | 0 => .pointer (some ⟨t.B, 0, none⟩) | 1 => .pointer (some ⟨w.heap.size, 0, none⟩) | 2 => .int .u8 (a.k : Int) | 3 => .agg #[.string (actWd a.k), .string (actPt a.k)] | 4 => .pointer (some ⟨w.heap.size, 1, none⟩) | 5 => .string a.name | 6 => .pointer (some ⟨w.heap.size, 2, none⟩) | 7 => .int .u8 (a.op : Int) | 8 => .pointer (some ⟨w.heap.size, 3, none⟩) | 9 => .bool a.inn | 10 => .pointer (some ⟨w.heap.size, 4, none⟩) | 11 => .int .i64 a.e | 12 => .pointer (some ⟨w.heap.size, 5, none⟩) | 13 => .int .i64 a.cond | 14 => .agg #[.string a.name, .int .u8 (a.op : Int), .bool a.inn, .int .i64 a.e, .int .i64 a.cond, .slice none 0 0, .slice none 0 0, .slice none 0 0] | _ => undef) (fun y => TlS (t.withK K) σ (aBx w.heap.size a :: X) y) 15 Tryz.mixed (by kernel_rfl) (by kernel_rfl) ao1_15 HA.out.drew ?_ ?_
 ·intro i9 o9 hi9 ho9 a9 w9 hF9 hS9 K9 hK9
  have hc9 : i9 = 0 ∨ i9 = 1 ∨ i9 = 2 ∨ i9 = 3 ∨ i9 = 4 ∨ i9 = 5 ∨ i9 = 6 ∨ i9 = 7 ∨ i9 = 8 ∨ i9 = 9 ∨ i9 = 10 ∨ i9 = 11 ∨ i9 = 12 ∨ i9 = 13 ∨ i9 = 14 := by omega
  clear hi9
  rcases hc9 with rfl | rfl | rfl | rfl | rfl | rfl | rfl | rfl | rfl | rfl | rfl | rfl | rfl | rfl | rfl
  ·obtain rfl := so ao1_0 ho9
   have e0 := hF9.od 0 (v := .pointer (some ⟨t.B, 0, none⟩)) rfl
   refine zaV rfl ?_ (hK9 _ hS9)
   clear ho9 hF9
   simp only [ao1o0, execOp, e0]
   first | done | (go_simp <;> omega)
  ·obtain rfl := so ao1_1 ho9
   have e3 := hF9.od 3 (v := .pointer (some ⟨w.heap.size, 0, none⟩)) rfl
   refine zaV rfl ?_ (hK9 _ hS9)
   clear ho9 hF9
   simp only [ao1o1, execOp, e3]
   first | done | (go_simp <;> omega)
  ·obtain rfl := so ao1_2 ho9
   have e5 := hF9.ev 1 5
   have q0 := zaA (hS9.r.own (r := aBx w.heap.size a) (by simp)) (j := 0) rfl
   refine zaV rfl ?_ (hK9 _ hS9)
   clear ho9 hF9
   simp only [ao1o2, execOp, e5]
   first | done | (go_simp <;> omega)
  ·obtain rfl := so ao1_3 ho9
   have e6 := hF9.ev 2 6
   rw [if_pos (zaJ rfl)]
   unfold Oper.wp
   have f6 := hF9.nw 2 6
   have hr9 : (execOp a9.eval ao1o3).run Tryz.prog w9 = .ok (.enter 82 #[.int .u8 (a.k : Int)]) w9 := by
    simp only [ao1o3, execOp]
    go_simp
   rw [hr9, Oper.upon_enter]
   refine Calls.mono (actShK_all a.k w9) ?_
   rintro e9 w8 ⟨rfl, hb⟩
   exact hK9 _ (hS9.on hb)
  ·obtain rfl := so ao1_4 ho9
   have e3 := hF9.od 3 (v := .pointer (some ⟨w.heap.size, 0, none⟩)) rfl
   refine zaV rfl ?_ (hK9 _ hS9)
   clear ho9 hF9
   simp only [ao1o4, execOp, e3]
   first | done | (go_simp <;> omega)
  ·obtain rfl := so ao1_5 ho9
   have e8 := hF9.ev 4 8
   have q0 := zaA (hS9.r.own (r := aBx w.heap.size a) (by simp)) (j := 1) rfl
   refine zaV rfl ?_ (hK9 _ hS9)
   clear ho9 hF9
   simp only [ao1o5, execOp, e8]
   first | done | (go_simp <;> omega)
  ·obtain rfl := so ao1_6 ho9
   have e3 := hF9.od 3 (v := .pointer (some ⟨w.heap.size, 0, none⟩)) rfl
   refine zaV rfl ?_ (hK9 _ hS9)
   clear ho9 hF9
   simp only [ao1o6, execOp, e3]
   first | done | (go_simp <;> omega)
  ·obtain rfl := so ao1_7 ho9
   have e10 := hF9.ev 6 10
   have q0 := zaA (hS9.r.own (r := aBx w.heap.size a) (by simp)) (j := 2) rfl
   refine zaV rfl ?_ (hK9 _ hS9)
   clear ho9 hF9
   simp only [ao1o7, execOp, e10]
   first | done | (go_simp <;> omega)
  ·obtain rfl := so ao1_8 ho9
   have e3 := hF9.od 3 (v := .pointer (some ⟨w.heap.size, 0, none⟩)) rfl
   refine zaV rfl ?_ (hK9 _ hS9)
   clear ho9 hF9
   simp only [ao1o8, execOp, e3]
   first | done | (go_simp <;> omega)
  ·obtain rfl := so ao1_9 ho9
   have e12 := hF9.ev 8 12
   have q0 := zaA (hS9.r.own (r := aBx w.heap.size a) (by simp)) (j := 3) rfl
   refine zaV rfl ?_ (hK9 _ hS9)
   clear ho9 hF9
   simp only [ao1o9, execOp, e12]
   first | done | (go_simp <;> omega)
  ·obtain rfl := so ao1_10 ho9
   have e3 := hF9.od 3 (v := .pointer (some ⟨w.heap.size, 0, none⟩)) rfl
   refine zaV rfl ?_ (hK9 _ hS9)
   clear ho9 hF9
   simp only [ao1o10, execOp, e3]
   first | done | (go_simp <;> omega)
  ·obtain rfl := so ao1_11 ho9
   have e14 := hF9.ev 10 14
   have q0 := zaA (hS9.r.own (r := aBx w.heap.size a) (by simp)) (j := 4) rfl
   refine zaV rfl ?_ (hK9 _ hS9)
   clear ho9 hF9
   simp only [ao1o11, execOp, e14]
   first | done | (go_simp <;> omega)
  ·obtain rfl := so ao1_12 ho9
   have e3 := hF9.od 3 (v := .pointer (some ⟨w.heap.size, 0, none⟩)) rfl
   refine zaV rfl ?_ (hK9 _ hS9)
   clear ho9 hF9
   simp only [ao1o12, execOp, e3]
   first | done | (go_simp <;> omega)
  ·obtain rfl := so ao1_13 ho9
   have e16 := hF9.ev 12 16
   have q0 := zaA (hS9.r.own (r := aBx w.heap.size a) (by simp)) (j := 5) rfl
   refine zaV rfl ?_ (hK9 _ hS9)
   clear ho9 hF9
   simp only [ao1o13, execOp, e16]
   first | done | (go_simp <;> omega)
  ·obtain rfl := so ao1_14 ho9
   have f9 := hF9.nw 5 9
   have f11 := hF9.nw 7 11
   have f13 := hF9.nw 9 13
   have f15 := hF9.nw 11 15
   have f17 := hF9.nw 13 17
   refine zaV rfl ?_ (hK9 _ hS9)
   clear ho9 hF9
   simp only [ao1o14, execOp]
   first | done | (go_simp <;> omega)
 ·intro w9 hS9 K9 hK9
  simp only [putTo, ao1_d0, ao1_d1, ao1_d2, ao1_d3, ao1_d4, ao1_d5, ao1_d6, ao1_d7, ao1_d8, ao1_d9, ao1_d10, ao1_d11, ao1_d12, ao1_d13, ao1_d14, ao1o15]
  rw [if_pos (zaJ rfl)]
  unfold Oper.wp
  go_simp
  have CX := hidI (CS.out w9 hS9)
  clear hS9
  cases hr : tAct ex a σ with
  | none =>
   rw [hr] at CX
   refine Calls.mono CX.out ?_
   rintro e w2 ⟨rfl, hb2⟩
   exact ⟨rfl, rfl, hb2.sub (.cons _ (.refl _))⟩
  | some σ1 =>
   rw [hr] at CX
   refine Calls.mono CX.out ?_
   rintro e w2 ⟨rfl, hb2⟩
   refine hK9 _ _ ?_
   have HRR := hidI hr
   clear hK9 K9 CX hr
   go_wp2
   go_end0
   rw [HRR.out]
   exact ⟨rfl, hb2.sub (.cons _ (.refl _))⟩
end Go.Proofs.YtmekkhfohmfjkaaGreatDoor
