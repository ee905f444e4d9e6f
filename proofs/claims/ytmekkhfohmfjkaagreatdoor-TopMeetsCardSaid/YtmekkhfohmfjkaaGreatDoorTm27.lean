/-
  Part 27 of the proof: TlF, Ord2.
-/
import Derived.Test.YtmekkhfohmfjkaaGreatDoorTm26
import Derived.Test.YtmekkhfohmfjkaaGreatDoorTm21
namespace Go.Proofs.YtmekkhfohmfjkaaGreatDoor
open Go.RowKit Go.Deep Go.MapKept
def stmt1 (ex st : Int → TM) (ss : List Stm) (a : Int) : TM := fun σ =>
 if 0 ≤ a ∧ a < ss.length then
  match tShaped (stmtW (ss.getD a.toNat stm0).k) (stmtSh (ss.getD a.toNat stm0).k) (ctnS (ss.getD a.toNat stm0)) (tPart ex (tAct ex) st (ctnS (ss.getD a.toNat stm0))) σ with
  | none => none
  | some σ1 => if a = σ1.s then some { σ1 with s := σ1.s + 1 } else none
 else none
theorem tStmt_succ (ex : Int → TM) (ss : List Stm) (f : Nat) (a : Int) : tStmt ex ss (f + 1) a = stmt1 ex (tStmt ex ss f) ss a := rfl
theorem AtC.weak {t : Tx} {F : Nat} {r : TM} {f0 f1 : Nat} {i : Int} (h : AtC t F r f0 i) (hle : f0 ≤ f1) : AtC t F r f1 i := fun K σ1 Y w1 h1 h2 => h K σ1 Y w1 h1 (by omega)
theorem stmtPt_asc (k : Nat) : (∀ (i : Nat) (h : i < (stmtPt k).size), ((stmtPt k)[i]'h).toNat < 128) ∧ ptL (stmtPt k) = stmtSh k ∧ (∀ x ∈ stmtSh k, x = 110 ∨ x = 111 ∨ x = 101 ∨ x = 99 ∨ x = 97 ∨ x = 116 ∨ x = 102 ∨ x = 115) ∧ SmlN (stmtWd k) ∧ stmtWd k = stmtW k := by
 by_cases h : 1 ≤ k ∧ k ≤ 7
 ·have hm : k = 1 ∨ k = 2 ∨ k = 3 ∨ k = 4 ∨ k = 5 ∨ k = 6 ∨ k = 7 := by omega
  rcases hm with rfl | rfl | rfl | rfl | rfl | rfl | rfl <;> exact ⟨by decide, by decide +kernel, by decide, by unfold SmlN; decide +kernel, rfl⟩
 ·have e1 : stmtPt k = ⟨#[]⟩ := by unfold stmtPt; split <;> first | rfl | omega
  have e2 : stmtSh k = [] := by unfold stmtSh; split <;> first | rfl | omega
  have e3 : stmtWd k = ⟨#[]⟩ := by unfold stmtWd; split <;> first | rfl | omega
  have e4 : stmtW k = ⟨#[]⟩ := by unfold stmtW; split <;> first | rfl | omega
  rw [e1, e2, e3, e4]
  exact ⟨by decide, by decide +kernel, by simp, by unfold SmlN; decide, rfl⟩
def stBx (b : Nat) (s : Stm) (a1 : Option Addr) (c1 : Nat) (a2 : Option Addr) (c2 : Nat) (a3 : Option Addr) (c3 : Nat) : Rw := ⟨bx b, 78, 8, 1, [.int .u8 (s.k : Int), .string s.name, .int .u8 (s.op : Int), .int .i64 s.e, .int .i64 s.cond, .slice a1 s.acts.length c1, .slice a2 s.thn.length c2, .slice a3 s.els.length c3]⟩
theorem zbQ (x : SV) : (scells x).length = 8 := rfl
def sr2o0 : Oper := ⟨some 27, .move (.tmp 0), 219, "tell.go:65", #[], none⟩
def sr2o1 : Oper := ⟨some 28, .fieldAddr 78 (.tmp 4) 0, 0, "tell.go:65", #[], none⟩
def sr2o2 : Oper := ⟨some 29, .load 74 (.tmp 28), 74, "tell.go:65", #[⟨1, .data⟩], none⟩
def sr2o3 : Oper := ⟨some 30, .call ⟨.value (.func 79), #[.tmp 29], #[74]⟩, 151, "tell.go:65", #[⟨2, .data⟩], none⟩
def sr2o4 : Oper := ⟨some 31, .fieldAddr 78 (.tmp 4) 1, 0, "tell.go:65", #[], none⟩
def sr2o5 : Oper := ⟨some 32, .load 9 (.tmp 31), 9, "tell.go:65", #[⟨4, .data⟩], none⟩
def sr2o6 : Oper := ⟨some 33, .fieldAddr 78 (.tmp 4) 2, 0, "tell.go:65", #[], none⟩
def sr2o7 : Oper := ⟨some 34, .load 75 (.tmp 33), 75, "tell.go:65", #[⟨6, .data⟩], none⟩
def sr2o8 : Oper := ⟨some 35, .fieldAddr 78 (.tmp 4) 3, 0, "tell.go:65", #[], none⟩
def sr2o9 : Oper := ⟨some 36, .load 3 (.tmp 35), 3, "tell.go:65", #[⟨8, .data⟩], none⟩
def sr2o10 : Oper := ⟨some 37, .fieldAddr 78 (.tmp 4) 4, 0, "tell.go:65", #[], none⟩
def sr2o11 : Oper := ⟨some 38, .load 3 (.tmp 37), 3, "tell.go:65", #[⟨10, .data⟩], none⟩
def sr2o12 : Oper := ⟨some 39, .fieldAddr 78 (.tmp 4) 5, 0, "tell.go:65", #[], none⟩
def sr2o13 : Oper := ⟨some 40, .load 76 (.tmp 39), 76, "tell.go:65", #[⟨12, .data⟩], none⟩
def sr2o14 : Oper := ⟨some 41, .fieldAddr 78 (.tmp 4) 6, 0, "tell.go:65", #[], none⟩
def sr2o15 : Oper := ⟨some 42, .load 45 (.tmp 41), 45, "tell.go:65", #[⟨14, .data⟩], none⟩
def sr2o16 : Oper := ⟨some 43, .fieldAddr 78 (.tmp 4) 7, 0, "tell.go:65", #[], none⟩
def sr2o17 : Oper := ⟨some 44, .load 45 (.tmp 43), 45, "tell.go:65", #[⟨16, .data⟩], none⟩
def sr2o18 : Oper := ⟨some 45, .build 170 #[(0, .tmp 32), (1, .tmp 34), (3, .tmp 36), (4, .tmp 38), (5, .tmp 40), (6, .tmp 42), (7, .tmp 44)], 170, "tell.go:65", #[⟨5, .data⟩, ⟨7, .data⟩, ⟨9, .data⟩, ⟨11, .data⟩, ⟨13, .data⟩, ⟨15, .data⟩, ⟨17, .data⟩], none⟩
def sr2o19 : Oper := ⟨some 46, .call ⟨.value (.func 125), #[.tmp 27, .tmp 30, .tmp 45], #[219, 151, 170]⟩, 0, "tell.go:65", #[⟨0, .data⟩, ⟨3, .data⟩, ⟨18, .data⟩, ⟨3, .chain⟩], none⟩
def sr2 : Array Oper := #[sr2o0, sr2o1, sr2o2, sr2o3, sr2o4, sr2o5, sr2o6, sr2o7, sr2o8, sr2o9, sr2o10, sr2o11, sr2o12, sr2o13, sr2o14, sr2o15, sr2o16, sr2o17, sr2o18, sr2o19]
theorem sr2_0 : sr2[0]? = some sr2o0 := by kernel_rfl
theorem sr2_1 : sr2[1]? = some sr2o1 := by kernel_rfl
theorem sr2_2 : sr2[2]? = some sr2o2 := by kernel_rfl
theorem sr2_3 : sr2[3]? = some sr2o3 := by kernel_rfl
theorem sr2_4 : sr2[4]? = some sr2o4 := by kernel_rfl
theorem sr2_5 : sr2[5]? = some sr2o5 := by kernel_rfl
theorem sr2_6 : sr2[6]? = some sr2o6 := by kernel_rfl
theorem sr2_7 : sr2[7]? = some sr2o7 := by kernel_rfl
theorem sr2_8 : sr2[8]? = some sr2o8 := by kernel_rfl
theorem sr2_9 : sr2[9]? = some sr2o9 := by kernel_rfl
theorem sr2_10 : sr2[10]? = some sr2o10 := by kernel_rfl
theorem sr2_11 : sr2[11]? = some sr2o11 := by kernel_rfl
theorem sr2_12 : sr2[12]? = some sr2o12 := by kernel_rfl
theorem sr2_13 : sr2[13]? = some sr2o13 := by kernel_rfl
theorem sr2_14 : sr2[14]? = some sr2o14 := by kernel_rfl
theorem sr2_15 : sr2[15]? = some sr2o15 := by kernel_rfl
theorem sr2_16 : sr2[16]? = some sr2o16 := by kernel_rfl
theorem sr2_17 : sr2[17]? = some sr2o17 := by kernel_rfl
theorem sr2_18 : sr2[18]? = some sr2o18 := by kernel_rfl
theorem sr2_19 : sr2[19]? = some sr2o19 := by kernel_rfl
theorem sr2_d0 : dstOf sr2 0 = some 27 := by kernel_rfl
theorem sr2_d1 : dstOf sr2 1 = some 28 := by kernel_rfl
theorem sr2_d2 : dstOf sr2 2 = some 29 := by kernel_rfl
theorem sr2_d3 : dstOf sr2 3 = some 30 := by kernel_rfl
theorem sr2_d4 : dstOf sr2 4 = some 31 := by kernel_rfl
theorem sr2_d5 : dstOf sr2 5 = some 32 := by kernel_rfl
theorem sr2_d6 : dstOf sr2 6 = some 33 := by kernel_rfl
theorem sr2_d7 : dstOf sr2 7 = some 34 := by kernel_rfl
theorem sr2_d8 : dstOf sr2 8 = some 35 := by kernel_rfl
theorem sr2_d9 : dstOf sr2 9 = some 36 := by kernel_rfl
theorem sr2_d10 : dstOf sr2 10 = some 37 := by kernel_rfl
theorem sr2_d11 : dstOf sr2 11 = some 38 := by kernel_rfl
theorem sr2_d12 : dstOf sr2 12 = some 39 := by kernel_rfl
theorem sr2_d13 : dstOf sr2 13 = some 40 := by kernel_rfl
theorem sr2_d14 : dstOf sr2 14 = some 41 := by kernel_rfl
theorem sr2_d15 : dstOf sr2 15 = some 42 := by kernel_rfl
theorem sr2_d16 : dstOf sr2 16 = some 43 := by kernel_rfl
theorem sr2_d17 : dstOf sr2 17 = some 44 := by kernel_rfl
theorem sr2_d18 : dstOf sr2 18 = some 45 := by kernel_rfl
set_option maxRecDepth 100000 in
set_option maxHeartbeats 4000000 in
theorem stmt1K {t : Tx} {F : Nat} (hk : t.Ok F) {ex st : Int → TM} (hkp : ∀ i, Kp (ex i)) (hks : ∀ i, Kp (st i)) {f0 : Nat} (HE : ∀ i, AtC t 176 (ex i) 0 i) (HS : ∀ i, AtC t 156 (st i) (f0 + 1) i) (i : Int) : AtC t 156 (stmt1 ex st t.P.prg.stmts i) f0 i := by
 intro K σ X w h hf
 have hkK := hk.withK K
 obtain ⟨ss, hss⟩ : ∃ ss, t.P.prg.stmts = ss := ⟨_, rfl⟩
 have hssl : t.P.ss.length = ss.length := by rw [← hss]; simp [PV.prg]
 obtain ⟨_, va, cap, hsv, hcell⟩ := hk.sees.s.below h.r.below (Nat.le_refl _)
 have b2 : w.cell? ⟨t.B, 2, none⟩ = some t.P.sv := h.r.cell (j := 2) (u := t.P.sv) rfl
 rw [hsv, hssl] at b2
 have hL := hk.ok.sl
 rw [hss] at hL
 rw [hss]
 by_cases h0 : ¬ 0 ≤ i
 ·have HR : Hid (stmt1 ex st ss i σ = none) := hidI (by unfold stmt1; rw [if_neg (fun e => h0 e.1)])
  have CM := hidI (fun W => zaW (.pointer (some ⟨t.B, 0, none⟩)) W)
  have HB := hidI (h.bad (.refl _))
  clear hcell HE HS h hk hkK hsv
  go_enter Tryz.func156, Tryz.ntmps156
  go_wp2_with (go_at_call 124; refine Calls.mono (CM.out _) ?_; intro e w3 h3; obtain ⟨rfl, rfl⟩ := h3; clear CM)
  refine ⟨rfl, ?_⟩
  rw [HR.out]
  exact ⟨rfl, HB.out⟩
 replace h0 := Decidable.not_not.1 h0
 by_cases h1 : ¬ i < (ss.length : Int)
 ·have HR : Hid (stmt1 ex st ss i σ = none) := hidI (by unfold stmt1; rw [if_neg (fun e => h1 e.2)])
  have CM := hidI (fun W => zaW (.pointer (some ⟨t.B, 0, none⟩)) W)
  have HB := hidI (h.bad (.refl _))
  clear hcell HE HS h hk hkK hsv
  go_enter Tryz.func156, Tryz.ntmps156
  go_wp2_with (go_at_call 124; refine Calls.mono (CM.out _) ?_; intro e w3 h3; obtain ⟨rfl, rfl⟩ := h3; clear CM)
  refine ⟨rfl, ?_⟩
  rw [HR.out]
  exact ⟨rfl, HB.out⟩
 replace h1 := Decidable.not_not.1 h1
 obtain ⟨j, rfl⟩ : ∃ j : Nat, i = (j : Int) := ⟨i.toNat, by omega⟩
 obtain ⟨x, hx⟩ : ∃ x, t.P.ss[j]? = some x := ⟨_, List.getElem?_eq_getElem (by omega)⟩
 have hmx := List.mem_of_getElem? hx
 have hxs : ss.getD (j : Int).toNat stm0 = x.s := by
  rw [← hss]
  simp [PV.prg, List.getD_eq_getElem?_getD, hx]
 have hsa := hk.sees.sa x hmx
 have hst := hk.sees.st x hmx
 have hse := hk.sees.se x hmx
 have hso := hk.ok.s x.s (by simp only [PV.prg]; exact List.mem_map_of_mem hmx)
 rcases hcell with hc0 | ⟨b, o, rfl, hcell⟩
 ·omega
 have x0 := hcell (j * 8 + 0) _ (by unfold flatS; rw [zbD scells 8 zbQ t.P.ss j 0 x hx (by omega)]; rfl)
 have x1 := hcell (j * 8 + 1) _ (by unfold flatS; rw [zbD scells 8 zbQ t.P.ss j 1 x hx (by omega)]; rfl)
 have x2 := hcell (j * 8 + 2) _ (by unfold flatS; rw [zbD scells 8 zbQ t.P.ss j 2 x hx (by omega)]; rfl)
 have x3 := hcell (j * 8 + 3) _ (by unfold flatS; rw [zbD scells 8 zbQ t.P.ss j 3 x hx (by omega)]; rfl)
 have x4 := hcell (j * 8 + 4) _ (by unfold flatS; rw [zbD scells 8 zbQ t.P.ss j 4 x hx (by omega)]; rfl)
 have x5 := hcell (j * 8 + 5) _ (by unfold flatS; rw [zbD scells 8 zbQ t.P.ss j 5 x hx (by omega)]; rfl)
 have x6 := hcell (j * 8 + 6) _ (by unfold flatS; rw [zbD scells 8 zbQ t.P.ss j 6 x hx (by omega)]; rfl)
 have x7 := hcell (j * 8 + 7) _ (by unfold flatS; rw [zbD scells 8 zbQ t.P.ss j 7 x hx (by omega)]; rfl)
 simp only [Nat.add_zero, ← Nat.add_assoc] at x0 x1 x2 x3 x4 x5 x6 x7
 obtain ⟨s, av, tv, ev⟩ := x
 simp only at hsa hst hse hso hxs x0 x1 x2 x3 x4 x5 x6 x7
 obtain ⟨_, a1, c1, rfl, _⟩ := id hsa
 obtain ⟨_, a2, c2, rfl, _⟩ := id hst
 obtain ⟨_, a3, c3, rfl, _⟩ := id hse
 obtain ⟨o1, o2, o3, o4, o5, o6, o7⟩ := hso
 have HM : Hid (stmt1 ex st ss (j : Int) σ = (match tShaped (stmtW s.k) (stmtSh s.k) (ctnS s) (tPart ex (tAct ex) st (ctnS s)) σ with | none => none | some σ1 => if (j : Int) = σ1.s then some { σ1 with s := σ1.s + 1 } else none)) := hidI (by
  unfold stmt1
  rw [if_pos ⟨h0, h1⟩, hxs])
 have HA : Hid (TlS (t.withK K) σ (stBx w.heap.size s a1 c1 a2 c2 a3 c3 :: X) (w.alloc (.cells #[.int .u8 (s.k : Int), .string s.name, .int .u8 (s.op : Int), .int .i64 s.e, .int .i64 s.cond, .slice a1 s.acts.length c1, .slice a2 s.thn.length c2, .slice a3 s.els.length c3] 78))) := hidI (h.newbox 78 8 #[.int .u8 (s.k : Int), .string s.name, .int .u8 (s.op : Int), .int .i64 s.e, .int .i64 s.cond, .slice a1 s.acts.length c1, .slice a2 s.thn.length c2, .slice a3 s.els.length c3] rfl)
 obtain ⟨p1, p2, p3, p4, p5⟩ := stmtPt_asc s.k
 have CS : Hid (∀ W, TlS (t.withK K) σ (stBx w.heap.size s a1 c1 a2 c2 a3 c3 :: X) W → Calls Tryz.prog 125 #[.pointer (some ⟨t.B, 0, none⟩), .agg #[.string (stmtWd s.k), .string (stmtPt s.k)], .agg #[.string s.name, .int .u8 (s.op : Int), .bool false, .int .i64 s.e, .int .i64 s.cond, .slice a1 s.acts.length c1, .slice a2 s.thn.length c2, .slice a3 s.els.length c3]] W (TPost (t.withK K) (stBx w.heap.size s a1 c1 a2 c2 a3 c3 :: X) (tShaped (stmtW s.k) (stmtSh s.k) (ctnS s) (tPart ex (tAct ex) st (ctnS s)) σ))) := hidI (fun W hW => by
  have h9 := shaped_any hkK (sw := stmtWd s.k) (sp := stmtPt s.k) p4 p1 (k := ctnS s) (a1 := a1) (c1 := c1) (a2 := a2) (c2 := c2) (a3 := a3) (c3 := c3) (part := tPart ex (tAct ex) st (ctnS s)) (kp_part hkp (kp_act hkp) hks) hW (fun c hc => by
   rw [p2] at hc
   rcases p3 c hc with rfl | rfl | rfl | rfl | rfl | rfl | rfl | rfl
   ·exact part_n hkK o3
   ·exact part_o hkK
   ·exact part_e hkK ((HE s.e).weak (Nat.zero_le _))
   ·exact part_c hkK (fun _ => (HE s.cond).weak (Nat.zero_le _))
   ·exact part_a hkK (fun hl => actsK (t := t.withK K) hsa hl (kp_act hkp) (fun a ha => actK hkK (o7 a ha) hkp ((HE a.e).weak (Nat.zero_le _)) (fun _ => (HE a.cond).weak (Nat.zero_le _)))) (fun hl K2 σ1 Y w1 h2 => acts_bad (t := t.withK K) h2 a1 s.acts.length c1 hl)
   ·exact part_t hkK hks (fun K2 σ1 Y w1 h2 h3 => rowsK (t := t.withK K) hst o5 hks (fun i9 _ => HS i9) K2 σ1 Y w1 h2 (by omega))
   ·exact part_f hkK hks (fun K2 σ1 Y w1 h2 h3 => rowsK (t := t.withK K) hse o6 hks (fun i9 _ => HS i9) K2 σ1 Y w1 h2 (by omega))
   ·exact part_s hkK (fun K2 σ1 Y w1 h2 h3 => rowsK (t := t.withK K) hst o5 hks (fun i9 _ => HS i9) K2 σ1 Y w1 h2 (by omega)))
  rw [p2, p5] at h9
  rw [p5]
  exact h9)
 have HL := hidI (show (j : Int) ≤ 1099511627776 by omega)
 have CM0 := hidI (fun W => zbH (.pointer (some ⟨t.B, 0, none⟩)) W)
 clear hcell HE HS h hk hkK hsv hx hmx hxs hsa hst hse hss hssl o1 o2 o3 o4 o5 o6 o7 p1 p2 p3 p4 p5 hf
 go_enter Tryz.func156, Tryz.ntmps156
 go_wp2_with (go_at_call 124; refine Calls.mono (CM0.out _) ?_; intro e w3 h3; obtain ⟨rfl, rfl⟩ := h3; clear CM0)
 refine zaU (ops := sr2) (fun i => match i with | 0 => .pointer (some ⟨t.B, 0, none⟩) | 1 => .pointer (some ⟨w.heap.size, 0, none⟩) | 2 => .int .u8 (s.k : Int) | 3 => .agg #[.string (stmtWd s.k), .string (stmtPt s.k)] | 4 => .pointer (some ⟨w.heap.size, 1, none⟩) | 5 => .string s.name | 6 => .pointer (some ⟨w.heap.size, 2, none⟩) | 7 => .int .u8 (s.op : Int) | 8 => .pointer (some ⟨w.heap.size, 3, none⟩) | 9 => .int .i64 s.e | 10 => .pointer (some ⟨w.heap.size, 4, none⟩) | 11 => .int .i64 s.cond | 12 => .pointer (some ⟨w.heap.size, 5, none⟩) | 13 => .slice a1 s.acts.length c1 | 14 => .pointer (some ⟨w.heap.size, 6, none⟩) | 15 => .slice a2 s.thn.length c2 | 16 => .pointer (some ⟨w.heap.size, 7, none⟩) | 17 => .slice a3 s.els.length c3 | 18 => .agg #[.string s.name, .int .u8 (s.op : Int), .bool false, .int .i64 s.e, .int .i64 s.cond, .slice a1 s.acts.length c1, .slice a2 s.thn.length c2, .slice a3 s.els.length c3] | _ => undef) (fun y => TlS (t.withK K) σ (stBx w.heap.size s a1 c1 a2 c2 a3 c3 :: X) y) 19 Tryz.mixed (by kernel_rfl) (by kernel_rfl) sr2_19 HA.out.drew ?_ ?_
 ·intro i9 o9 hi9 ho9 a9 w9 hF9 hS9 K9 hK9
  have hc9 : i9 = 0 ∨ i9 = 1 ∨ i9 = 2 ∨ i9 = 3 ∨ i9 = 4 ∨ i9 = 5 ∨ i9 = 6 ∨ i9 = 7 ∨ i9 = 8 ∨ i9 = 9 ∨ i9 = 10 ∨ i9 = 11 ∨ i9 = 12 ∨ i9 = 13 ∨ i9 = 14 ∨ i9 = 15 ∨ i9 = 16 ∨ i9 = 17 ∨ i9 = 18 := by omega
  clear hi9
  rcases hc9 with rfl | rfl | rfl | rfl | rfl | rfl | rfl | rfl | rfl | rfl | rfl | rfl | rfl | rfl | rfl | rfl | rfl | rfl | rfl
  ·obtain rfl := so sr2_0 ho9
   have e0 := hF9.od 0 (v := .pointer (some ⟨t.B, 0, none⟩)) rfl
   refine zaV rfl ?_ (hK9 _ hS9)
   clear ho9 hF9
   simp only [sr2o0, execOp, e0]
   first | done | (go_simp <;> omega)
  ·obtain rfl := so sr2_1 ho9
   have e4 := hF9.od 4 (v := .pointer (some ⟨w.heap.size, 0, none⟩)) rfl
   refine zaV rfl ?_ (hK9 _ hS9)
   clear ho9 hF9
   simp only [sr2o1, execOp, e4]
   first | done | (go_simp <;> omega)
  ·obtain rfl := so sr2_2 ho9
   have e28 := hF9.ev 1 28
   have q0 := zaA (hS9.r.own (r := stBx w.heap.size s a1 c1 a2 c2 a3 c3) (by simp)) (j := 0) rfl
   refine zaV rfl ?_ (hK9 _ hS9)
   clear ho9 hF9
   simp only [sr2o2, execOp, e28]
   first | done | (go_simp <;> omega)
  ·obtain rfl := so sr2_3 ho9
   have e29 := hF9.ev 2 29
   rw [if_pos (zaJ rfl)]
   unfold Oper.wp
   have f29 := hF9.nw 2 29
   have hr9 : (execOp a9.eval sr2o3).run Tryz.prog w9 = .ok (.enter 79 #[.int .u8 (s.k : Int)]) w9 := by
    simp only [sr2o3, execOp]
    go_simp
   rw [hr9, Oper.upon_enter]
   refine Calls.mono (stmtShK_all s.k w9) ?_
   rintro e9 w8 ⟨rfl, hb⟩
   exact hK9 _ (hS9.on hb)
  ·obtain rfl := so sr2_4 ho9
   have e4 := hF9.od 4 (v := .pointer (some ⟨w.heap.size, 0, none⟩)) rfl
   refine zaV rfl ?_ (hK9 _ hS9)
   clear ho9 hF9
   simp only [sr2o4, execOp, e4]
   first | done | (go_simp <;> omega)
  ·obtain rfl := so sr2_5 ho9
   have e31 := hF9.ev 4 31
   have q0 := zaA (hS9.r.own (r := stBx w.heap.size s a1 c1 a2 c2 a3 c3) (by simp)) (j := 1) rfl
   refine zaV rfl ?_ (hK9 _ hS9)
   clear ho9 hF9
   simp only [sr2o5, execOp, e31]
   first | done | (go_simp <;> omega)
  ·obtain rfl := so sr2_6 ho9
   have e4 := hF9.od 4 (v := .pointer (some ⟨w.heap.size, 0, none⟩)) rfl
   refine zaV rfl ?_ (hK9 _ hS9)
   clear ho9 hF9
   simp only [sr2o6, execOp, e4]
   first | done | (go_simp <;> omega)
  ·obtain rfl := so sr2_7 ho9
   have e33 := hF9.ev 6 33
   have q0 := zaA (hS9.r.own (r := stBx w.heap.size s a1 c1 a2 c2 a3 c3) (by simp)) (j := 2) rfl
   refine zaV rfl ?_ (hK9 _ hS9)
   clear ho9 hF9
   simp only [sr2o7, execOp, e33]
   first | done | (go_simp <;> omega)
  ·obtain rfl := so sr2_8 ho9
   have e4 := hF9.od 4 (v := .pointer (some ⟨w.heap.size, 0, none⟩)) rfl
   refine zaV rfl ?_ (hK9 _ hS9)
   clear ho9 hF9
   simp only [sr2o8, execOp, e4]
   first | done | (go_simp <;> omega)
  ·obtain rfl := so sr2_9 ho9
   have e35 := hF9.ev 8 35
   have q0 := zaA (hS9.r.own (r := stBx w.heap.size s a1 c1 a2 c2 a3 c3) (by simp)) (j := 3) rfl
   refine zaV rfl ?_ (hK9 _ hS9)
   clear ho9 hF9
   simp only [sr2o9, execOp, e35]
   first | done | (go_simp <;> omega)
  ·obtain rfl := so sr2_10 ho9
   have e4 := hF9.od 4 (v := .pointer (some ⟨w.heap.size, 0, none⟩)) rfl
   refine zaV rfl ?_ (hK9 _ hS9)
   clear ho9 hF9
   simp only [sr2o10, execOp, e4]
   first | done | (go_simp <;> omega)
  ·obtain rfl := so sr2_11 ho9
   have e37 := hF9.ev 10 37
   have q0 := zaA (hS9.r.own (r := stBx w.heap.size s a1 c1 a2 c2 a3 c3) (by simp)) (j := 4) rfl
   refine zaV rfl ?_ (hK9 _ hS9)
   clear ho9 hF9
   simp only [sr2o11, execOp, e37]
   first | done | (go_simp <;> omega)
  ·obtain rfl := so sr2_12 ho9
   have e4 := hF9.od 4 (v := .pointer (some ⟨w.heap.size, 0, none⟩)) rfl
   refine zaV rfl ?_ (hK9 _ hS9)
   clear ho9 hF9
   simp only [sr2o12, execOp, e4]
   first | done | (go_simp <;> omega)
  ·obtain rfl := so sr2_13 ho9
   have e39 := hF9.ev 12 39
   have q0 := zaA (hS9.r.own (r := stBx w.heap.size s a1 c1 a2 c2 a3 c3) (by simp)) (j := 5) rfl
   refine zaV rfl ?_ (hK9 _ hS9)
   clear ho9 hF9
   simp only [sr2o13, execOp, e39]
   first | done | (go_simp <;> omega)
  ·obtain rfl := so sr2_14 ho9
   have e4 := hF9.od 4 (v := .pointer (some ⟨w.heap.size, 0, none⟩)) rfl
   refine zaV rfl ?_ (hK9 _ hS9)
   clear ho9 hF9
   simp only [sr2o14, execOp, e4]
   first | done | (go_simp <;> omega)
  ·obtain rfl := so sr2_15 ho9
   have e41 := hF9.ev 14 41
   have q0 := zaA (hS9.r.own (r := stBx w.heap.size s a1 c1 a2 c2 a3 c3) (by simp)) (j := 6) rfl
   refine zaV rfl ?_ (hK9 _ hS9)
   clear ho9 hF9
   simp only [sr2o15, execOp, e41]
   first | done | (go_simp <;> omega)
  ·obtain rfl := so sr2_16 ho9
   have e4 := hF9.od 4 (v := .pointer (some ⟨w.heap.size, 0, none⟩)) rfl
   refine zaV rfl ?_ (hK9 _ hS9)
   clear ho9 hF9
   simp only [sr2o16, execOp, e4]
   first | done | (go_simp <;> omega)
  ·obtain rfl := so sr2_17 ho9
   have e43 := hF9.ev 16 43
   have q0 := zaA (hS9.r.own (r := stBx w.heap.size s a1 c1 a2 c2 a3 c3) (by simp)) (j := 7) rfl
   refine zaV rfl ?_ (hK9 _ hS9)
   clear ho9 hF9
   simp only [sr2o17, execOp, e43]
   first | done | (go_simp <;> omega)
  ·obtain rfl := so sr2_18 ho9
   have f32 := hF9.nw 5 32
   have f34 := hF9.nw 7 34
   have f36 := hF9.nw 9 36
   have f38 := hF9.nw 11 38
   have f40 := hF9.nw 13 40
   have f42 := hF9.nw 15 42
   have f44 := hF9.nw 17 44
   refine zaV rfl ?_ (hK9 _ hS9)
   clear ho9 hF9
   simp only [sr2o18, execOp]
   first | done | (go_simp <;> omega)
 ·intro w9 hS9 K9 hK9
  simp only [putTo, sr2_d0, sr2_d1, sr2_d2, sr2_d3, sr2_d4, sr2_d5, sr2_d6, sr2_d7, sr2_d8, sr2_d9, sr2_d10, sr2_d11, sr2_d12, sr2_d13, sr2_d14, sr2_d15, sr2_d16, sr2_d17, sr2_d18, sr2o19]
  rw [if_pos (zaJ rfl)]
  unfold Oper.wp
  go_simp
  have CX := hidI (CS.out w9 hS9)
  clear hS9
  cases hr : tShaped (stmtW s.k) (stmtSh s.k) (ctnS s) (tPart ex (tAct ex) st (ctnS s)) σ with
  | none =>
   rw [hr] at CX
   have HR : Hid (stmt1 ex st ss (j : Int) σ = none) := hidI (by rw [HM.out, hr])
   refine Calls.mono CX.out ?_
   rintro e w2 ⟨rfl, hb2⟩
   refine ⟨rfl, ?_⟩
   rw [HR.out]
   exact ⟨rfl, hb2.sub (.cons _ (.refl _))⟩
  | some σ1 =>
   rw [hr] at CX
   refine Calls.mono CX.out ?_
   rintro e w2 ⟨rfl, hb2⟩
   refine hK9 _ _ ?_
   clear hK9 K9 CX
   have b5 : w2.cell? ⟨t.B, 5, none⟩ = some (.int .i64 (σ1.s : Int)) := hb2.r.cell (j := 5) (u := .int .i64 (σ1.s : Int)) rfl
   have z5 : w2.frozen? ⟨t.B, 5, none⟩ = false := hb2.r.free 5
   by_cases hi : (j : Int) = (σ1.s : Int)
   ·have d1 : ((j : Int) == (σ1.s : Int)) = true := by rw [hi]; simp
    have HR : Hid (stmt1 ex st ss (j : Int) σ = some { σ1 with s := σ1.s + 1 }) := hidI (by rw [HM.out, hr]; simp only [hi, if_true])
    have hsb : (σ1.s : Int) ≤ 1099511627776 := by have := HL.out; omega
    have CM := hidI (fun W => zbH (.pointer (some ⟨t.B, 0, none⟩)) W)
    have HFIN : Hid (TlS (t.withK K) { σ1 with s := σ1.s + 1 } X (w2.setCell ⟨t.B, 5, none⟩ (.int .i64 ((σ1.s : Int) + 1)))) := hidI ⟨((hb2.r.setc 5 (.int .i64 ((σ1.s : Int) + 1)) { σ1 with s := σ1.s + 1 } rfl (by simp [tlBox])).sub (.cons _ (.refl _))), hb2.lim⟩
    clear hr HM hi hb2
    go_wp2_with (go_at_call 124; refine Calls.mono (CM.out _) ?_; intro e w3 h3; obtain ⟨rfl, rfl⟩ := h3; clear CM)
    go_end0
    rw [HR.out]
    exact ⟨rfl, HFIN.out⟩
   ·have d1 : ((j : Int) == (σ1.s : Int)) = false := by rw [beq_eq_false_iff_ne]; exact hi
    have HR : Hid (stmt1 ex st ss (j : Int) σ = none) := hidI (by rw [HM.out, hr]; simp only [hi, if_false])
    have CM := hidI (fun W => zaW (.pointer (some ⟨t.B, 0, none⟩)) W)
    clear hr HM hi
    go_wp2_with (go_at_call 124; refine Calls.mono (CM.out _) ?_; intro e w3 h3; obtain ⟨rfl, rfl⟩ := h3; clear CM)
    refine ⟨rfl, ?_⟩
    rw [HR.out]
    exact ⟨rfl, hb2.bad (.cons _ (.refl _))⟩
theorem stmtK {t : Tx} {F : Nat} (hk : t.Ok F) {ex : Int → TM} (hkp : ∀ i, Kp (ex i)) (HE : ∀ i, AtC t 176 (ex i) 0 i) : ∀ (f : Nat) (i : Int), AtC t 156 (tStmt ex t.P.prg.stmts f i) (401 - f) i
 | 0, _ => fun K σ1 Y w1 h1 h2 => by
  have := h1.lim.1
  omega
 | f + 1, i => by
  rw [tStmt_succ]
  exact stmt1K hk hkp (kp_stmt hkp _ f) HE (fun i9 => (stmtK hk hkp HE f i9).weak (by omega)) i
def dstB2 (ops : Array Oper) (z n : Nat) : Bool :=
 (List.range z).all fun i => match dstOf ops i with
  | some d => decide (d < n) && (List.range z).all (fun j => i == j || !(dstOf ops j == some d))
  | none => true
structure SeqOk2 (ops : Array Oper) (z n : Nat) : Prop where
 size : ops.size = z + 1
 back : ∀ i o, ops[i]? = some o → ∀ k ∈ afterOn o, k < i
 fore : ∀ i, i < z → ∃ j o, i < j ∧ j ≤ z ∧ ops[j]? = some o ∧ i ∈ afterOn o
 dst : ∀ i, i < z → ∀ d, dstOf ops i = some d → d < n ∧ ∀ j, j < z → j ≠ i → dstOf ops j ≠ some d
theorem seqOk2 {ops : Array Oper} {z n : Nat} (h : seqB ops z = true) (hd : dstB2 ops z n = true) : SeqOk2 ops z n := by
 unfold seqB at h
 simp only [Bool.and_eq_true, decide_eq_true_eq, List.all_eq_true, List.mem_range, List.any_eq_true] at h
 obtain ⟨⟨h1, h2⟩, h3⟩ := h
 refine ⟨h1, ?_, ?_, ?_⟩
 ·intro i o ho k hk
  have hi : i < ops.size := (Array.getElem?_eq_some_iff.1 ho).1
  have := h2 i (by omega)
  rw [ho] at this
  exact of_decide_eq_true (List.all_eq_true.1 this k hk)
 ·intro i hi
  obtain ⟨j, hj, hx⟩ := h3 i hi
  cases ho : ops[j]? with
  | none => rw [ho] at hx; simp at hx
  | some o =>
   rw [ho] at hx
   simp only [List.contains_iff_mem] at hx
   exact ⟨j, o, hx.1, by omega, ho, hx.2⟩
 ·intro i hi d hdi
  unfold dstB2 at hd
  have := List.all_eq_true.1 hd i (List.mem_range.2 hi)
  rw [hdi] at this
  simp only [Bool.and_eq_true, decide_eq_true_eq, List.all_eq_true, List.mem_range, Bool.or_eq_true, beq_iff_eq, Bool.not_eq_true'] at this
  refine ⟨this.1, fun j hj hji e => ?_⟩
  rcases this.2 j hj with e' | e'
  ·exact hji e'.symm
  ·rw [e] at e'; simp at e'
theorem putTo_new2 {ops : Array Oper} {z : Nat} (vals : Nat → Value) (a0 : Act) (hok : SeqOk2 ops z a0.tmps.size) {i d : Nat} (hd : dstOf ops i = some d) : ∀ m, i < m → m ≤ z → (putTo ops vals a0 m).tmps[d]? = some (vals i)
 | 0, h, _ => absurd h (by omega)
 | m + 1, h, hm => by
  simp only [putTo]
  obtain ⟨hlt, hne⟩ := hok.dst i (by omega) d hd
  by_cases him : i = m
  ·subst him
   rw [hd, zcB, if_pos rfl, putTo_size, if_pos hlt]
  ·have ih := putTo_new2 vals a0 hok hd m (by omega) (by omega)
   cases hdm : dstOf ops m with
   | none => exact ih
   | some d2 =>
    rw [zcB, if_neg (fun e => hne m (by omega) (Ne.symm him) (by rw [hdm, e]))]
    exact ih
theorem fr_all2 {ops : Array Oper} {vals : Nat → Value} {z : Nat} {a0 a : Act} (hok : SeqOk2 ops z a0.tmps.size) {D : Nat → Prop} (h : Fr ops vals z a0 a D) (hD : ∀ j, j < z → D j) : a = putTo ops vals a0 z := by
 refine act_ext (Array.ext_getElem? fun k => ?_) (h.df.trans (putTo_df ops vals a0 z).symm)
 by_cases hk : ∃ i, i < z ∧ dstOf ops i = some k
 ·obtain ⟨i, hi, hd⟩ := hk
  rw [h.new i (hD i hi) hi k hd, putTo_new2 vals a0 hok hd z hi (Nat.le_refl _)]
 ·have hk' : ∀ i, i < z → dstOf ops i ≠ some k := fun i hi e => hk ⟨i, hi, e⟩
  rw [h.old k hk', putTo_old ops vals a0 k z hk']
section
variable {P : Program} {ops : Array Oper} {Q : Exit → Act → World → Prop} {S : Array Bool → World → Prop} {vals : Nat → Value} {z : Nat} {a0 : Act}
theorem wpAny_seq2 {oz : Oper} (hok : SeqOk2 ops z a0.tmps.size) (hz : ops[z]? = some oz)
  (hstep : ∀ i o, i < z → ops[i]? = some o → ∀ a w (l : Array Bool), Fr ops vals z a0 a (· ∈ afterOn o) → l.size = z + 1 → l[i]? = some false → (∀ k ∈ afterOn o, l[k]? = some true) → S l w → ∀ K : Act → World → Prop, (∀ v, S (l.setIfInBounds i true) v → K (a.put o.dst (vals i)) v) → if Region.wanted o (yielded ops a.tmps) = true then o.wp P a w K Q else K (a.put o.dst undef) w)
  (hlast : ∀ w (l : Array Bool), (∀ j, j < z → l[j]? = some true) → S l w → ∀ K : Act → World → Prop, (∀ b v, Q .normal b v → K b v) → if Region.wanted oz (yielded ops (putTo ops vals a0 z).tmps) = true then oz.wp P (putTo ops vals a0 z) w K Q else K ((putTo ops vals a0 z).put oz.dst undef) w) :
  ∀ (n : Nat) (l : Array Bool) (a : Act) (w : World), l.size = ops.size → (∀ (i : Nat) (o : Oper), l[i]? = some true → ops[i]? = some o → ∀ k ∈ afterOn o, l[k]? = some true) → l[z]? = some false → Fr ops vals z a0 a (fun j => l[j]? = some true) → l.toList.count false = n → S l w → wpAny P .any ops Q n l a w := by
 intro n
 induction n with
 | zero =>
  intro l a w _ _ h3 _ h5 _
  have := zbR h3
  omega
 | succ n ih =>
  intro l a w h1 h2 h3 h4 h5 hS
  have hzs : z < l.size := (Array.getElem?_eq_some_iff.1 h3).1
  have hcase : ∀ k, k < l.size → l[k]? = some true ∨ l[k]? = some false := fun k hk => by
   rw [Array.getElem?_eq_getElem hk]
   cases l[k] <;> simp
  have hmem : ∀ i, i ∈ Region.ready .any ops l ↔ l[i]? = some false ∧ ∃ o, ops[i]? = some o ∧ ∀ k ∈ afterOn o, l[k]? = some true := by
   intro i
   rw [mem_ready]
   constructor
   ·rintro ⟨g1, o, ho, g2⟩
    have hi : i < l.size := by rw [h1]; exact (Array.getElem?_eq_some_iff.1 ho).1
    refine ⟨?_, o, ho, fun k hk => ?_⟩
    ·rcases hcase i hi with e | e
     ·rw [zbE e] at g1; cases g1
     ·exact e
    ·obtain ⟨e, he, hb, rfl⟩ := zcC.1 hk
     have g3 := g2 e he hb
     have hlt := hok.back i o ho e.on hk
     rcases hcase e.on (by omega) with e' | e'
     ·exact e'
     ·rw [zbE e'] at g3; cases g3
   ·rintro ⟨g1, o, ho, g2⟩
    exact ⟨zbE g1, o, ho, fun e he hb => zbE (g2 e.on (zcC.2 ⟨e, he, hb, rfl⟩))⟩
  refine ⟨fun hr => ?_, fun i hi => ?_⟩
  ·exfalso
   have key : ∀ m, m ≤ z → (∀ k, k < m → l[k]? = some true) := by
    intro m
    induction m with
    | zero => intro _ k hk; omega
    | succ m ihm =>
     intro hm k hk
     have prev := ihm (by omega)
     by_cases hkm : k < m
     ·exact prev k hkm
     ·obtain rfl : k = m := by omega
      rcases hcase k (by omega) with e | e
      ·exact e
      ·exfalso
       have hks : k < ops.size := by omega
       have : k ∈ Region.ready .any ops l := (hmem k).2 ⟨e, ops[k], Array.getElem?_eq_getElem hks, fun j hj => prev j (hok.back k _ (Array.getElem?_eq_getElem hks) j hj)⟩
       rw [hr] at this
       simp at this
   have : z ∈ Region.ready .any ops l := (hmem z).2 ⟨h3, oz, hz, fun j hj => key z (Nat.le_refl _) j (hok.back z _ hz j hj)⟩
   rw [hr] at this
   simp at this
  ·obtain ⟨g1, o, ho, g2⟩ := (hmem i).1 hi
   by_cases hiz : i = z
   ·subst hiz
    obtain rfl : oz = o := by rw [hz] at ho; exact Option.some.inj ho
    have hall : ∀ (m j : Nat), i - j ≤ m → j < i → l[j]? = some true := by
     intro m
     induction m with
     | zero => intro j h1 h2; omega
     | succ m ihm =>
      intro j hj1 hj2
      obtain ⟨k, ok, hjk, hki, hok', hin⟩ := hok.fore j hj2
      by_cases hke : k = i
      ·subst hke
       obtain rfl : oz = ok := by rw [hz] at hok'; exact Option.some.inj hok'
       exact g2 j hin
      ·exact h2 k ok (ihm k (by omega) (by omega)) hok' j hin
    have ha : a = putTo ops vals a0 i := fr_all2 hok h4 (fun j hj => hall i j (by omega) hj)
    have hcnt := zbR g1
    have hnone : ∀ j : Nat, (l.setIfInBounds i true)[j]? ≠ some false := by
     intro j hj
     rw [Array.getElem?_setIfInBounds] at hj
     split at hj
     ·first
      | (cases hj; done)
      | (split at hj <;> cases hj)
     ·have hjs := (Array.getElem?_eq_some_iff.1 hj).1
      have := hall i j (by omega) (by rw [h1, hok.size] at hjs; omega)
      rw [hj] at this; cases this
    have hc0 : (l.setIfInBounds i true).toList.count false = 0 := by
     refine List.count_eq_zero.2 fun hm => ?_
     obtain ⟨j, hj⟩ := List.getElem?_of_mem hm
     exact hnone j (by rw [← Array.getElem?_toList]; exact hj)
    have hn0 : n = 0 := by omega
    subst hn0
    subst ha
    refine wpOp_step hz fun K' hK' => hlast w l (fun j hj => hall i j (by omega) hj) hS K' fun b v hb => hK' b v ⟨?_, hb⟩
    cases hr : Region.ready .any ops (l.setIfInBounds i true) with
    | nil => rfl
    | cons j r =>
     exfalso
     have hj : j ∈ Region.ready .any ops (l.setIfInBounds i true) := by rw [hr]; simp
     obtain ⟨q1, o', ho', _⟩ := mem_ready.1 hj
     have hjs : j < (l.setIfInBounds i true).size := by rw [Array.size_setIfInBounds, h1]; exact (Array.getElem?_eq_some_iff.1 ho').1
     refine hnone j ?_
     rw [Array.getElem?_eq_getElem hjs]
     rw [Array.getD_eq_getD_getElem?, Array.getElem?_eq_getElem hjs] at q1
     simpa using q1
   ·have hiz' : i < z := by
     have := (Array.getElem?_eq_some_iff.1 ho).1
     rw [hok.size] at this; omega
    refine wpOp_step ho fun K' hK' => ?_
    refine hstep i o hiz' ho a w l ⟨h4.size, h4.df, h4.old, fun j hj hjz d hd => h4.new j (g2 j hj) hjz d hd⟩ (by rw [h1, hok.size]) g1 g2 hS K' fun v hv => hK' _ _ ?_
    have hod : o.dst = dstOf ops i := by unfold dstOf; rw [ho]; rfl
    refine ih _ _ _ (by simpa using h1) ?_ ?_ ?_ (by have := zbR g1; omega) hv
    ·intro j o' hj ho' k hk
     have hkk : l[k]? = some true := by
      rw [Array.getElem?_setIfInBounds] at hj
      split at hj
      ·rename_i hij
       subst hij
       obtain rfl : o = o' := by rw [ho] at ho'; exact Option.some.inj ho'
       exact g2 k hk
      ·exact h2 j o' hj ho' k hk
     rw [Array.getElem?_setIfInBounds]
     split
     ·rename_i hik
      subst hik
      rw [hkk] at g1; cases g1
     ·exact hkk
    ·rw [Array.getElem?_setIfInBounds, if_neg hiz]
     exact h3
    ·refine ⟨by rw [put_size]; exact h4.size, by rw [put_df]; exact h4.df, fun k hk => ?_, fun j hj hjz d hd => ?_⟩
     ·rw [hod]
      cases hdi : dstOf ops i with
      | none => exact h4.old k hk
      | some di =>
       rw [zcB, if_neg (fun e => hk i hiz' (by rw [hdi, e]))]
       exact h4.old k hk
     ·rw [hod]
      by_cases hij : i = j
      ·subst hij
       rw [hd, zcB, if_pos rfl, h4.size, if_pos (hok.dst i hiz' d hd).1]
      ·have hold : a.tmps[d]? = some (vals j) := by
        refine h4.new j ?_ hjz d hd
        rw [Array.getElem?_setIfInBounds, if_neg hij] at hj
        exact hj
       cases hdi : dstOf ops i with
       | none => exact hold
       | some di =>
        rw [zcB, if_neg (fun e => (hok.dst j hjz d hd).2 i hiz' hij (by rw [hdi, e]))]
        exact hold
theorem zdA {id : Nat} {w : World} {oz : Oper} (vals : Nat → Value) (S : Array Bool → World → Prop) (z : Nat) (hm : P.follows .mixedOrders = true) (hsq : seqB ops z = true) (hdb : dstB2 ops z a0.tmps.size = true) (hz : ops[z]? = some oz) (hS : S (Array.replicate ops.size false) w.drew)
  (hstep : ∀ i o, i < z → ops[i]? = some o → ∀ a w (l : Array Bool), Fr ops vals z a0 a (· ∈ afterOn o) → l.size = z + 1 → l[i]? = some false → (∀ k ∈ afterOn o, l[k]? = some true) → S l w → ∀ K : Act → World → Prop, (∀ v, S (l.setIfInBounds i true) v → K (a.put o.dst (vals i)) v) → if Region.wanted o (yielded ops a.tmps) = true then o.wp P a w K Q else K (a.put o.dst undef) w)
  (hlast : ∀ w (l : Array Bool), (∀ j, j < z → l[j]? = some true) → S l w → ∀ K : Act → World → Prop, (∀ b v, Q .normal b v → K b v) → if Region.wanted oz (yielded ops (putTo ops vals a0 z).tmps) = true then oz.wp P (putTo ops vals a0 z) w K Q else K ((putTo ops vals a0 z).put oz.dst undef) w) :
  (Code.region id ops true).wp P Q a0 w := by
 have hok := seqOk2 hsq hdb
 refine wp_region_any hm (wpAny_seq2 hok hz hstep hlast ops.size (Array.replicate ops.size false) a0 _ (by simp) ?_ ?_ ⟨rfl, rfl, fun _ _ => rfl, ?_⟩ (by simp) hS)
 ·intro i o hi
  rw [Array.getElem?_replicate] at hi
  split at hi <;> cases hi
 ·rw [Array.getElem?_replicate, if_pos (by rw [hok.size]; omega)]
 ·intro j hj
  rw [Array.getElem?_replicate] at hj
  split at hj <;> cases hj
end
end Go.Proofs.YtmekkhfohmfjkaaGreatDoor
