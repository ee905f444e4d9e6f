/-
  Part 32 of the proof: TlJ.
-/
import Derived.Test.YtmekkhfohmfjkaaGreatDoorTm31
namespace Go.Proofs.YtmekkhfohmfjkaaGreatDoor
open Go.RowKit Go.Deep Go.MapKept
def da4o0 : Oper := ⟨some 23, .move (.tmp 0), 219, "tell.go:50", #[], none⟩
def da4o1 : Oper := ⟨some 24, .fieldAddr 56 (.tmp 3) 1, 0, "tell.go:50", #[], none⟩
def da4o2 : Oper := ⟨some 25, .load 23 (.tmp 24), 23, "tell.go:50", #[⟨1, .data⟩], none⟩
def da4o3 : Oper := ⟨some 26, .fieldAddr 56 (.tmp 3) 2, 0, "tell.go:50", #[], none⟩
def da4o4 : Oper := ⟨some 27, .load 33 (.tmp 26), 33, "tell.go:50", #[⟨3, .data⟩], none⟩
def da4o5 : Oper := ⟨some 28, .call ⟨.value (.func 88), #[.tmp 25, .tmp 27], #[23, 33]⟩, 151, "tell.go:50", #[⟨2, .data⟩, ⟨4, .data⟩], none⟩
def da4o6 : Oper := ⟨some 29, .fieldAddr 56 (.tmp 3) 0, 0, "tell.go:50", #[], none⟩
def da4o7 : Oper := ⟨some 30, .load 9 (.tmp 29), 9, "tell.go:50", #[⟨6, .data⟩], none⟩
def da4o8 : Oper := ⟨some 31, .build 170 #[(0, .tmp 30), (3, .const (.int .i64 (-1))), (4, .const (.int .i64 (-1)))], 170, "tell.go:50", #[⟨7, .data⟩], none⟩
def da4o9 : Oper := ⟨some 32, .call ⟨.value (.func 125), #[.tmp 23, .tmp 28, .tmp 31], #[219, 151, 170]⟩, 0, "tell.go:50", #[⟨0, .data⟩, ⟨5, .data⟩, ⟨8, .data⟩, ⟨5, .chain⟩], none⟩
def da4 : Array Oper := #[da4o0, da4o1, da4o2, da4o3, da4o4, da4o5, da4o6, da4o7, da4o8, da4o9]
theorem da4_0 : da4[0]? = some da4o0 := by kernel_rfl
theorem da4_1 : da4[1]? = some da4o1 := by kernel_rfl
theorem da4_2 : da4[2]? = some da4o2 := by kernel_rfl
theorem da4_3 : da4[3]? = some da4o3 := by kernel_rfl
theorem da4_4 : da4[4]? = some da4o4 := by kernel_rfl
theorem da4_5 : da4[5]? = some da4o5 := by kernel_rfl
theorem da4_6 : da4[6]? = some da4o6 := by kernel_rfl
theorem da4_7 : da4[7]? = some da4o7 := by kernel_rfl
theorem da4_8 : da4[8]? = some da4o8 := by kernel_rfl
theorem da4_9 : da4[9]? = some da4o9 := by kernel_rfl
theorem da4_d0 : dstOf da4 0 = some 23 := by kernel_rfl
theorem da4_d1 : dstOf da4 1 = some 24 := by kernel_rfl
theorem da4_d2 : dstOf da4 2 = some 25 := by kernel_rfl
theorem da4_d3 : dstOf da4 3 = some 26 := by kernel_rfl
theorem da4_d4 : dstOf da4 4 = some 27 := by kernel_rfl
theorem da4_d5 : dstOf da4 5 = some 28 := by kernel_rfl
theorem da4_d6 : dstOf da4 6 = some 29 := by kernel_rfl
theorem da4_d7 : dstOf da4 7 = some 30 := by kernel_rfl
theorem da4_d8 : dstOf da4 8 = some 31 := by kernel_rfl
def da7o0 : Oper := ⟨some 41, .move (.tmp 0), 219, "tell.go:53", #[], none⟩
def da7o1 : Oper := ⟨some 42, .move (.tmp 0), 219, "tell.go:53", #[], none⟩
def da7o2 : Oper := ⟨some 43, .nilCheck (.tmp 42), 0, "tell.go:53", #[⟨1, .data⟩], none⟩
def da7o3 : Oper := ⟨some 44, .fieldAddr 174 (.tmp 43) 1, 0, "tell.go:53", #[⟨2, .data⟩], none⟩
def da7o4 : Oper := ⟨some 45, .load 3 (.tmp 44), 3, "tell.go:53", #[⟨3, .data⟩], none⟩
def da7o5 : Oper := ⟨some 46, .move (.tmp 0), 219, "tell.go:53", #[], none⟩
def da7o6 : Oper := ⟨some 47, .nilCheck (.tmp 46), 0, "tell.go:53", #[⟨5, .data⟩], none⟩
def da7o7 : Oper := ⟨some 48, .fieldAddr 174 (.tmp 47) 0, 0, "tell.go:53", #[⟨6, .data⟩], none⟩
def da7o8 : Oper := ⟨some 49, .fieldAddr 47 (.tmp 48) 1, 0, "tell.go:53", #[⟨7, .data⟩], none⟩
def da7o9 : Oper := ⟨some 50, .load 43 (.tmp 49), 43, "tell.go:53", #[⟨8, .data⟩], none⟩
def da7o10 : Oper := ⟨some 51, .call ⟨.builtin .len, #[.tmp 50], #[43]⟩, 3, "tell.go:53", #[⟨9, .data⟩], none⟩
def da7o11 : Oper := ⟨some 52, .binOp .eql 3 (.tmp 45) (.tmp 51) 3, 4, "tell.go:53", #[⟨4, .data⟩, ⟨10, .data⟩], none⟩
def da7o12 : Oper := ⟨some 53, .move (.tmp 52), 4, "tell.go:53", #[⟨11, .data⟩], none⟩
def da7o13 : Oper := ⟨some 54, .move (.tmp 0), 219, "tell.go:53", #[⟨12, .guard⟩], some (12, true)⟩
def da7o14 : Oper := ⟨some 55, .nilCheck (.tmp 54), 0, "tell.go:53", #[⟨13, .data⟩, ⟨12, .guard⟩], some (12, true)⟩
def da7o15 : Oper := ⟨some 56, .fieldAddr 174 (.tmp 55) 2, 0, "tell.go:53", #[⟨14, .data⟩, ⟨12, .guard⟩], some (12, true)⟩
def da7o16 : Oper := ⟨some 57, .load 3 (.tmp 56), 3, "tell.go:53", #[⟨15, .data⟩, ⟨12, .guard⟩], some (12, true)⟩
def da7o17 : Oper := ⟨some 58, .move (.tmp 0), 219, "tell.go:53", #[⟨12, .guard⟩], some (12, true)⟩
def da7o18 : Oper := ⟨some 59, .nilCheck (.tmp 58), 0, "tell.go:53", #[⟨17, .data⟩, ⟨12, .guard⟩], some (12, true)⟩
def da7o19 : Oper := ⟨some 60, .fieldAddr 174 (.tmp 59) 0, 0, "tell.go:53", #[⟨18, .data⟩, ⟨12, .guard⟩], some (12, true)⟩
def da7o20 : Oper := ⟨some 61, .fieldAddr 47 (.tmp 60) 2, 0, "tell.go:53", #[⟨19, .data⟩, ⟨12, .guard⟩], some (12, true)⟩
def da7o21 : Oper := ⟨some 62, .load 44 (.tmp 61), 44, "tell.go:53", #[⟨20, .data⟩, ⟨12, .guard⟩], some (12, true)⟩
def da7o22 : Oper := ⟨some 63, .call ⟨.builtin .len, #[.tmp 62], #[44]⟩, 3, "tell.go:53", #[⟨21, .data⟩, ⟨12, .guard⟩], some (12, true)⟩
def da7o23 : Oper := ⟨some 64, .binOp .eql 3 (.tmp 57) (.tmp 63) 3, 4, "tell.go:53", #[⟨16, .data⟩, ⟨22, .data⟩, ⟨12, .guard⟩], some (12, true)⟩
def da7o24 : Oper := ⟨some 65, .pick (.tmp 53) (.tmp 64) (.const (.bool false)), 4, "tell.go:53", #[⟨12, .data⟩, ⟨23, .data⟩], none⟩
def da7o25 : Oper := ⟨some 66, .call ⟨.value (.func 124), #[.tmp 41, .tmp 65], #[219, 4]⟩, 0, "tell.go:53", #[⟨0, .data⟩, ⟨24, .data⟩, ⟨12, .chain⟩], none⟩
def da7 : Array Oper := #[da7o0, da7o1, da7o2, da7o3, da7o4, da7o5, da7o6, da7o7, da7o8, da7o9, da7o10, da7o11, da7o12, da7o13, da7o14, da7o15, da7o16, da7o17, da7o18, da7o19, da7o20, da7o21, da7o22, da7o23, da7o24, da7o25]
theorem da7_0 : da7[0]? = some da7o0 := by kernel_rfl
theorem da7_1 : da7[1]? = some da7o1 := by kernel_rfl
theorem da7_2 : da7[2]? = some da7o2 := by kernel_rfl
theorem da7_3 : da7[3]? = some da7o3 := by kernel_rfl
theorem da7_4 : da7[4]? = some da7o4 := by kernel_rfl
theorem da7_5 : da7[5]? = some da7o5 := by kernel_rfl
theorem da7_6 : da7[6]? = some da7o6 := by kernel_rfl
theorem da7_7 : da7[7]? = some da7o7 := by kernel_rfl
theorem da7_8 : da7[8]? = some da7o8 := by kernel_rfl
theorem da7_9 : da7[9]? = some da7o9 := by kernel_rfl
theorem da7_10 : da7[10]? = some da7o10 := by kernel_rfl
theorem da7_11 : da7[11]? = some da7o11 := by kernel_rfl
theorem da7_12 : da7[12]? = some da7o12 := by kernel_rfl
theorem da7_13 : da7[13]? = some da7o13 := by kernel_rfl
theorem da7_14 : da7[14]? = some da7o14 := by kernel_rfl
theorem da7_15 : da7[15]? = some da7o15 := by kernel_rfl
theorem da7_16 : da7[16]? = some da7o16 := by kernel_rfl
theorem da7_17 : da7[17]? = some da7o17 := by kernel_rfl
theorem da7_18 : da7[18]? = some da7o18 := by kernel_rfl
theorem da7_19 : da7[19]? = some da7o19 := by kernel_rfl
theorem da7_20 : da7[20]? = some da7o20 := by kernel_rfl
theorem da7_21 : da7[21]? = some da7o21 := by kernel_rfl
theorem da7_22 : da7[22]? = some da7o22 := by kernel_rfl
theorem da7_23 : da7[23]? = some da7o23 := by kernel_rfl
theorem da7_24 : da7[24]? = some da7o24 := by kernel_rfl
theorem da7_25 : da7[25]? = some da7o25 := by kernel_rfl
theorem da7_d0 : dstOf da7 0 = some 41 := by kernel_rfl
theorem da7_d1 : dstOf da7 1 = some 42 := by kernel_rfl
theorem da7_d2 : dstOf da7 2 = some 43 := by kernel_rfl
theorem da7_d3 : dstOf da7 3 = some 44 := by kernel_rfl
theorem da7_d4 : dstOf da7 4 = some 45 := by kernel_rfl
theorem da7_d5 : dstOf da7 5 = some 46 := by kernel_rfl
theorem da7_d6 : dstOf da7 6 = some 47 := by kernel_rfl
theorem da7_d7 : dstOf da7 7 = some 48 := by kernel_rfl
theorem da7_d8 : dstOf da7 8 = some 49 := by kernel_rfl
theorem da7_d9 : dstOf da7 9 = some 50 := by kernel_rfl
theorem da7_d10 : dstOf da7 10 = some 51 := by kernel_rfl
theorem da7_d11 : dstOf da7 11 = some 52 := by kernel_rfl
theorem zbB : dstOf da7 12 = some 53 := by kernel_rfl
theorem da7_d13 : dstOf da7 13 = some 54 := by kernel_rfl
theorem da7_d14 : dstOf da7 14 = some 55 := by kernel_rfl
theorem da7_d15 : dstOf da7 15 = some 56 := by kernel_rfl
theorem da7_d16 : dstOf da7 16 = some 57 := by kernel_rfl
theorem da7_d17 : dstOf da7 17 = some 58 := by kernel_rfl
theorem da7_d18 : dstOf da7 18 = some 59 := by kernel_rfl
theorem da7_d19 : dstOf da7 19 = some 60 := by kernel_rfl
theorem da7_d20 : dstOf da7 20 = some 61 := by kernel_rfl
theorem da7_d21 : dstOf da7 21 = some 62 := by kernel_rfl
theorem da7_d22 : dstOf da7 22 = some 63 := by kernel_rfl
theorem da7_d23 : dstOf da7 23 = some 64 := by kernel_rfl
theorem da7_d24 : dstOf da7 24 = some 65 := by kernel_rfl
def dBx (b : Nat) (d : Dcl) : Rw := ⟨bx b, 56, 3, 1, [.string d.name, .int .u8 (d.side : Int), .int .u8 (d.kind : Int)]⟩
theorem dcells_len (x : Dcl) : (dcells x).length = 3 := rfl
set_option maxRecDepth 100000 in
set_option maxHeartbeats 2000000 in
theorem tall_any {t : Tx} {F : Nat} (hk : t.Ok F) {σ : TS} {X : List Rw} {w : World} (h : TlS t σ X w) : Calls Tryz.prog 94 #[.pointer (some ⟨t.B, 0, none⟩)] w (TPost t X (tProg t.P.prg σ)) := by
 obtain ⟨P0, hP0⟩ : ∃ P0, t.P.prg = P0 := ⟨_, rfl⟩
 have hds : t.P.ds = P0.decls := by rw [← hP0]; rfl
 have hms : t.P.ms = P0.main := by rw [← hP0]; rfl
 have hxl : t.P.xs.length = P0.exprs.length := by rw [← hP0]; simp [PV.prg]
 have hsl : t.P.ss.length = P0.stmts.length := by rw [← hP0]; simp [PV.prg]
 have HD0 := hidI hk.sees.d
 have HM0 := hidI hk.sees.m
 obtain ⟨_, da, dc, hdv, _⟩ := hk.sees.d
 obtain ⟨_, xa, xc, hxv, _⟩ := hk.sees.x
 obtain ⟨_, sa, sc, hsv, _⟩ := hk.sees.s
 obtain ⟨_, ma, mc, hmv, _⟩ := hk.sees.m
 rw [hxl] at hxv
 rw [hsl] at hsv
 rw [hds] at hdv
 rw [hms] at hmv
 rw [hds, hdv] at HD0
 rw [hms, hmv] at HM0
 have HXV := hidI hxv
 have HSV := hidI hsv
 have HMV := hidI hmv
 have b0 : w.cell? ⟨t.B, 0, none⟩ = some t.P.dv := h.r.cell (j := 0) (u := t.P.dv) rfl
 rw [hdv] at b0
 have HRW := hidI (rowsK (t := t) (st := tStmt (tE P0) P0.stmts 401) (is := P0.main) (v := .slice ma P0.main.length mc) (f0 := 0) HM0.out (by have := hk.ok.ml; rw [hP0] at this; exact this) (kp_stmt (kp_expr _ _) _ _) (fun i _ => by
  have h1 := stmtK hk (ex := tE P0) (kp_expr _ _) (fun i9 => by have h2 := exprK hk 401 i9; rw [hP0] at h2; exact h2) 401 i
  rw [hP0] at h1
  exact h1))
 have HDO : Hid (∀ d ∈ P0.decls, SmlN d.name) := hidI (fun d hd => by have := hk.ok.d d (by rw [hP0]; exact hd); exact this.2.2)
 have HK := hidI hk
 rw [hP0]
 have HM : Hid (tProg P0 σ = if P0.decls.length ≤ 24 then (match tAll tDecl P0.decls σ with | none => none | some σ1 => match tAll (tStmt (tE P0) P0.stmts 401) P0.main σ1 with | none => none | some σ2 => if σ2.x = P0.exprs.length ∧ σ2.s = P0.stmts.length then some σ2 else none) else none) := hidI rfl
 obtain ⟨n, hn⟩ : ∃ n, P0.decls.length = n := ⟨_, rfl⟩
 obtain ⟨nx, hnx⟩ : ∃ nx, P0.exprs.length = nx := ⟨_, rfl⟩
 obtain ⟨ns, hns⟩ : ∃ ns, P0.stmts.length = ns := ⟨_, rfl⟩
 have HN := hidI hn
 rw [hn] at b0 HM HD0
 rw [hnx] at HM HXV
 rw [hns] at HM HSV
 have HH := hidI h
 clear hP0 hds hms hxl hsl hdv hxv hsv hmv hn hnx hns h
 by_cases hn24 : n ≤ 24
 ·have k24 : (n : Int) ≤ 24 := by omega
  replace HM : Hid (tProg P0 σ = (match tAll tDecl P0.decls σ with | none => none | some σ1 => match tAll (tStmt (tE P0) P0.stmts 401) P0.main σ1 with | none => none | some σ2 => if σ2.x = nx ∧ σ2.s = ns then some σ2 else none)) := hidI (by rw [HM.out, if_pos hn24])
  have CM := hidI (fun W => zbH (.pointer (some ⟨t.B, 0, none⟩)) W)
  clear hk
  go_enter Tryz.func94, Tryz.ntmps94
  go_wp2_with (go_at_call 124; refine Calls.mono (CM.out _) ?_; intro e w2 h2; obtain ⟨rfl, rfl⟩ := h2; clear CM)
  go_loopg [19] n (fun g s19 wx => ∃ (j : Nat) (σj : TS), j + g = n ∧ s19 = .int .i64 (j : Int) ∧ Hid (tAll tDecl P0.decls σ = tAll tDecl (P0.decls.drop j) σj) ∧ Hid (TlS t σj X wx))
  case atStart => exact ⟨0, σ, by omega, rfl, hidI rfl, HH⟩
  case round =>
   obtain ⟨j, σj, hjg, rfl, HT, HSj⟩ := hrel
   clear HH
   cases gk with
   | zero =>
    obtain rfl : n = j := by omega
    have k1 : decide ((n : Int) < (n : Int)) = false := by simp
    have HT9 : Hid (tAll tDecl P0.decls σ = some σj) := hidI (by
     rw [HT.out, List.drop_of_length_le (by have := HN.out; omega)]
     rfl)
    have b3 : wr.cell? ⟨t.B, 3, none⟩ = some t.P.mv := HSj.out.r.cell (j := 3) (u := t.P.mv) rfl
    rw [HMV.out] at b3
    have CR := hidI (HRW.out t.K σj X wr HSj.out (Nat.zero_le _))
    cases hr : tAll (tStmt (tE P0) P0.stmts 401) P0.main σj with
    | none =>
     have HR : Hid (tProg P0 σ = none) := hidI (by rw [HM.out, HT9.out]; simp only [hr])
     rw [hr] at CR
     clear hr
     go_wp2_with (go_at_call 126; refine Calls.mono (CR.out) ?_; intro e w3 h3; obtain ⟨rfl, hb3⟩ := h3; clear CR)
     refine ⟨rfl, ?_⟩
     rw [HR.out]
     exact ⟨rfl, hb3⟩
    | some σ2 =>
     have HR0 : Hid (tProg P0 σ = if σ2.x = nx ∧ σ2.s = ns then some σ2 else none) := hidI (by rw [HM.out, HT9.out]; simp only [hr])
     rw [hr] at CR
     clear hr
     by_cases hx : σ2.x = nx
     ·have HK1 : Hid (((σ2.x : Int) == (nx : Int)) = true) := hidI (by rw [beq_iff_eq]; omega)
      by_cases hy : σ2.s = ns
      ·have HK2 : Hid (((σ2.s : Int) == (ns : Int)) = true) := hidI (by rw [beq_iff_eq]; omega)
       have HR : Hid (tProg P0 σ = some σ2) := hidI (by rw [HR0.out, if_pos ⟨hx, hy⟩])
       clear hx hy
       go_wp2_with (go_at_call 126; refine Calls.mono (CR.out) ?_; intro e w3 h3; obtain ⟨rfl, hb3⟩ := h3; clear CR; have HS3 : Hid (TlS t σ2 X w3) := hidI hb3; clear hb3)
       refine zaU (ops := da7) (fun i => match i with | 0 => .pointer (some ⟨t.B, 0, none⟩) | 1 => .pointer (some ⟨t.B, 0, none⟩) | 2 => .pointer (some ⟨t.B, 0, none⟩) | 3 => .pointer (some ⟨t.B, 4, none⟩) | 4 => .int .i64 (σ2.x : Int) | 5 => .pointer (some ⟨t.B, 0, none⟩) | 6 => .pointer (some ⟨t.B, 0, none⟩) | 7 => .pointer (some ⟨t.B, 0, none⟩) | 8 => .pointer (some ⟨t.B, 1, none⟩) | 9 => .slice xa nx xc | 10 => .int .i64 (nx : Int) | 11 => .bool true | 12 => .bool true | 13 => .pointer (some ⟨t.B, 0, none⟩) | 14 => .pointer (some ⟨t.B, 0, none⟩) | 15 => .pointer (some ⟨t.B, 5, none⟩) | 16 => .int .i64 (σ2.s : Int) | 17 => .pointer (some ⟨t.B, 0, none⟩) | 18 => .pointer (some ⟨t.B, 0, none⟩) | 19 => .pointer (some ⟨t.B, 0, none⟩) | 20 => .pointer (some ⟨t.B, 2, none⟩) | 21 => .slice sa ns sc | 22 => .int .i64 (ns : Int) | 23 => .bool true | 24 => .bool true | _ => undef) (fun y => TlS t σ2 X y) 25 Tryz.mixed (by kernel_rfl) (by kernel_rfl) da7_25 HS3.out.drew ?_ ?_
       ·intro i9 o9 hi9 ho9 a9 w9 hF9 hS9 K9 hK9
        have hc9 : i9 = 0 ∨ i9 = 1 ∨ i9 = 2 ∨ i9 = 3 ∨ i9 = 4 ∨ i9 = 5 ∨ i9 = 6 ∨ i9 = 7 ∨ i9 = 8 ∨ i9 = 9 ∨ i9 = 10 ∨ i9 = 11 ∨ i9 = 12 ∨ i9 = 13 ∨ i9 = 14 ∨ i9 = 15 ∨ i9 = 16 ∨ i9 = 17 ∨ i9 = 18 ∨ i9 = 19 ∨ i9 = 20 ∨ i9 = 21 ∨ i9 = 22 ∨ i9 = 23 ∨ i9 = 24 := by omega
        clear hi9
        rcases hc9 with rfl | rfl | rfl | rfl | rfl | rfl | rfl | rfl | rfl | rfl | rfl | rfl | rfl | rfl | rfl | rfl | rfl | rfl | rfl | rfl | rfl | rfl | rfl | rfl | rfl
        ·obtain rfl := so da7_0 ho9
         have e0 := hF9.od 0 (v := .pointer (some ⟨t.B, 0, none⟩)) rfl
         refine zaV rfl ?_ (hK9 _ hS9)
         clear ho9 hF9
         simp only [da7o0, execOp, e0]
         first | done | (go_simp <;> omega)
        ·obtain rfl := so da7_1 ho9
         have e0 := hF9.od 0 (v := .pointer (some ⟨t.B, 0, none⟩)) rfl
         refine zaV rfl ?_ (hK9 _ hS9)
         clear ho9 hF9
         simp only [da7o1, execOp, e0]
         first | done | (go_simp <;> omega)
        ·obtain rfl := so da7_2 ho9
         have e42 := hF9.ev 1 42
         refine zaV rfl ?_ (hK9 _ hS9)
         clear ho9 hF9
         simp only [da7o2, execOp, e42]
         first | done | (go_simp <;> omega)
        ·obtain rfl := so da7_3 ho9
         have e43 := hF9.ev 2 43
         refine zaV rfl ?_ (hK9 _ hS9)
         clear ho9 hF9
         simp only [da7o3, execOp, e43]
         first | done | (go_simp <;> omega)
        ·obtain rfl := so da7_4 ho9
         have e44 := hF9.ev 3 44
         have c4 : w9.cell? ⟨t.B, 4, none⟩ = some (.int .i64 (σ2.x : Int)) := hS9.r.cell (j := 4) (u := .int .i64 (σ2.x : Int)) rfl
         refine zaV rfl ?_ (hK9 _ hS9)
         clear ho9 hF9
         simp only [da7o4, execOp, e44]
         first | done | (go_simp <;> omega)
        ·obtain rfl := so da7_5 ho9
         have e0 := hF9.od 0 (v := .pointer (some ⟨t.B, 0, none⟩)) rfl
         refine zaV rfl ?_ (hK9 _ hS9)
         clear ho9 hF9
         simp only [da7o5, execOp, e0]
         first | done | (go_simp <;> omega)
        ·obtain rfl := so da7_6 ho9
         have e46 := hF9.ev 5 46
         refine zaV rfl ?_ (hK9 _ hS9)
         clear ho9 hF9
         simp only [da7o6, execOp, e46]
         first | done | (go_simp <;> omega)
        ·obtain rfl := so da7_7 ho9
         have e47 := hF9.ev 6 47
         refine zaV rfl ?_ (hK9 _ hS9)
         clear ho9 hF9
         simp only [da7o7, execOp, e47]
         first | done | (go_simp <;> omega)
        ·obtain rfl := so da7_8 ho9
         have e48 := hF9.ev 7 48
         refine zaV rfl ?_ (hK9 _ hS9)
         clear ho9 hF9
         simp only [da7o8, execOp, e48]
         first | done | (go_simp <;> omega)
        ·obtain rfl := so da7_9 ho9
         have e49 := hF9.ev 8 49
         have c1 : w9.cell? ⟨t.B, 1, none⟩ = some t.P.xv := hS9.r.cell (j := 1) (u := t.P.xv) rfl
         rw [HXV.out] at c1
         refine zaV rfl ?_ (hK9 _ hS9)
         clear ho9 hF9
         simp only [da7o9, execOp, e49]
         first | done | (go_simp <;> omega)
        ·obtain rfl := so da7_10 ho9
         have f50 := hF9.nw 9 50
         refine zaV rfl ?_ (hK9 _ hS9)
         clear ho9 hF9
         simp only [da7o10, execOp]
         first | done | (go_simp <;> omega)
        ·obtain rfl := so da7_11 ho9
         have e45 := hF9.ev 4 45
         have e51 := hF9.ev 10 51
         have hk9 := HK1.out
         refine zaV rfl ?_ (hK9 _ hS9)
         clear ho9 hF9
         simp only [da7o11, execOp, e45, e51]
         first | done | (go_simp <;> omega)
        ·obtain rfl := so da7_12 ho9
         have e52 := hF9.ev 11 52
         refine zaV rfl ?_ (hK9 _ hS9)
         clear ho9 hF9
         simp only [da7o12, execOp, e52]
         first | done | (go_simp <;> omega)
        ·obtain rfl := so da7_13 ho9
         have e0 := hF9.od 0 (v := .pointer (some ⟨t.B, 0, none⟩)) rfl
         refine zbN rfl zbB (hF9.nw 12 53) ?_
         refine zbG ?_ (hK9 _ hS9)
         clear ho9 hF9
         simp only [da7o13, execOp, e0]
         first | done | (go_simp <;> omega)
        ·obtain rfl := so da7_14 ho9
         have e54 := hF9.ev 13 54
         refine zbN rfl zbB (hF9.nw 12 53) ?_
         refine zbG ?_ (hK9 _ hS9)
         clear ho9 hF9
         simp only [da7o14, execOp, e54]
         first | done | (go_simp <;> omega)
        ·obtain rfl := so da7_15 ho9
         have e55 := hF9.ev 14 55
         refine zbN rfl zbB (hF9.nw 12 53) ?_
         refine zbG ?_ (hK9 _ hS9)
         clear ho9 hF9
         simp only [da7o15, execOp, e55]
         first | done | (go_simp <;> omega)
        ·obtain rfl := so da7_16 ho9
         have e56 := hF9.ev 15 56
         refine zbN rfl zbB (hF9.nw 12 53) ?_
         have c5 : w9.cell? ⟨t.B, 5, none⟩ = some (.int .i64 (σ2.s : Int)) := hS9.r.cell (j := 5) (u := .int .i64 (σ2.s : Int)) rfl
         refine zbG ?_ (hK9 _ hS9)
         clear ho9 hF9
         simp only [da7o16, execOp, e56]
         first | done | (go_simp <;> omega)
        ·obtain rfl := so da7_17 ho9
         have e0 := hF9.od 0 (v := .pointer (some ⟨t.B, 0, none⟩)) rfl
         refine zbN rfl zbB (hF9.nw 12 53) ?_
         refine zbG ?_ (hK9 _ hS9)
         clear ho9 hF9
         simp only [da7o17, execOp, e0]
         first | done | (go_simp <;> omega)
        ·obtain rfl := so da7_18 ho9
         have e58 := hF9.ev 17 58
         refine zbN rfl zbB (hF9.nw 12 53) ?_
         refine zbG ?_ (hK9 _ hS9)
         clear ho9 hF9
         simp only [da7o18, execOp, e58]
         first | done | (go_simp <;> omega)
        ·obtain rfl := so da7_19 ho9
         have e59 := hF9.ev 18 59
         refine zbN rfl zbB (hF9.nw 12 53) ?_
         refine zbG ?_ (hK9 _ hS9)
         clear ho9 hF9
         simp only [da7o19, execOp, e59]
         first | done | (go_simp <;> omega)
        ·obtain rfl := so da7_20 ho9
         have e60 := hF9.ev 19 60
         refine zbN rfl zbB (hF9.nw 12 53) ?_
         refine zbG ?_ (hK9 _ hS9)
         clear ho9 hF9
         simp only [da7o20, execOp, e60]
         first | done | (go_simp <;> omega)
        ·obtain rfl := so da7_21 ho9
         have e61 := hF9.ev 20 61
         refine zbN rfl zbB (hF9.nw 12 53) ?_
         have c2 : w9.cell? ⟨t.B, 2, none⟩ = some t.P.sv := hS9.r.cell (j := 2) (u := t.P.sv) rfl
         rw [HSV.out] at c2
         refine zbG ?_ (hK9 _ hS9)
         clear ho9 hF9
         simp only [da7o21, execOp, e61]
         first | done | (go_simp <;> omega)
        ·obtain rfl := so da7_22 ho9
         have f62 := hF9.nw 21 62
         refine zbN rfl zbB (hF9.nw 12 53) ?_
         refine zbG ?_ (hK9 _ hS9)
         clear ho9 hF9
         simp only [da7o22, execOp]
         first | done | (go_simp <;> omega)
        ·obtain rfl := so da7_23 ho9
         have e57 := hF9.ev 16 57
         have e63 := hF9.ev 22 63
         refine zbN rfl zbB (hF9.nw 12 53) ?_
         have hk9 := HK2.out
         refine zbG ?_ (hK9 _ hS9)
         clear ho9 hF9
         simp only [da7o23, execOp, e57, e63]
         first | done | (go_simp <;> omega)
        ·obtain rfl := so da7_24 ho9
         have e53 := hF9.ev 12 53
         have e64 := hF9.ev 23 64
         refine zaV rfl ?_ (hK9 _ hS9)
         clear ho9 hF9
         simp only [da7o24, execOp, e53, e64]
         first | done | (go_simp <;> omega)
       ·intro w9 hS9 K9 hK9
        simp only [putTo, da7_d0, da7_d1, da7_d2, da7_d3, da7_d4, da7_d5, da7_d6, da7_d7, da7_d8, da7_d9, da7_d10, da7_d11, zbB, da7_d13, da7_d14, da7_d15, da7_d16, da7_d17, da7_d18, da7_d19, da7_d20, da7_d21, da7_d22, da7_d23, da7_d24, da7o25]
        rw [if_pos (zaJ rfl)]
        unfold Oper.wp
        go_simp
        refine Calls.mono (zbH _ w9) ?_
        rintro e w2 ⟨rfl, rfl⟩
        refine hK9 _ _ ?_
        clear hK9 K9
        go_wp2
        go_end0
        rw [HR.out]
        exact ⟨rfl, hS9⟩
      ·have HK2 : Hid (((σ2.s : Int) == (ns : Int)) = false) := hidI (by rw [beq_eq_false_iff_ne]; omega)
       have HR : Hid (tProg P0 σ = none) := hidI (by rw [HR0.out, if_neg (fun e => hy e.2)])
       clear hx hy
       go_wp2_with (go_at_call 126; refine Calls.mono (CR.out) ?_; intro e w3 h3; obtain ⟨rfl, hb3⟩ := h3; clear CR; have HS3 : Hid (TlS t σ2 X w3) := hidI hb3; clear hb3)
       refine zaU (ops := da7) (fun i => match i with | 0 => .pointer (some ⟨t.B, 0, none⟩) | 1 => .pointer (some ⟨t.B, 0, none⟩) | 2 => .pointer (some ⟨t.B, 0, none⟩) | 3 => .pointer (some ⟨t.B, 4, none⟩) | 4 => .int .i64 (σ2.x : Int) | 5 => .pointer (some ⟨t.B, 0, none⟩) | 6 => .pointer (some ⟨t.B, 0, none⟩) | 7 => .pointer (some ⟨t.B, 0, none⟩) | 8 => .pointer (some ⟨t.B, 1, none⟩) | 9 => .slice xa nx xc | 10 => .int .i64 (nx : Int) | 11 => .bool true | 12 => .bool true | 13 => .pointer (some ⟨t.B, 0, none⟩) | 14 => .pointer (some ⟨t.B, 0, none⟩) | 15 => .pointer (some ⟨t.B, 5, none⟩) | 16 => .int .i64 (σ2.s : Int) | 17 => .pointer (some ⟨t.B, 0, none⟩) | 18 => .pointer (some ⟨t.B, 0, none⟩) | 19 => .pointer (some ⟨t.B, 0, none⟩) | 20 => .pointer (some ⟨t.B, 2, none⟩) | 21 => .slice sa ns sc | 22 => .int .i64 (ns : Int) | 23 => .bool false | 24 => .bool false | _ => undef) (fun y => TlS t σ2 X y) 25 Tryz.mixed (by kernel_rfl) (by kernel_rfl) da7_25 HS3.out.drew ?_ ?_
       ·intro i9 o9 hi9 ho9 a9 w9 hF9 hS9 K9 hK9
        have hc9 : i9 = 0 ∨ i9 = 1 ∨ i9 = 2 ∨ i9 = 3 ∨ i9 = 4 ∨ i9 = 5 ∨ i9 = 6 ∨ i9 = 7 ∨ i9 = 8 ∨ i9 = 9 ∨ i9 = 10 ∨ i9 = 11 ∨ i9 = 12 ∨ i9 = 13 ∨ i9 = 14 ∨ i9 = 15 ∨ i9 = 16 ∨ i9 = 17 ∨ i9 = 18 ∨ i9 = 19 ∨ i9 = 20 ∨ i9 = 21 ∨ i9 = 22 ∨ i9 = 23 ∨ i9 = 24 := by omega
        clear hi9
        rcases hc9 with rfl | rfl | rfl | rfl | rfl | rfl | rfl | rfl | rfl | rfl | rfl | rfl | rfl | rfl | rfl | rfl | rfl | rfl | rfl | rfl | rfl | rfl | rfl | rfl | rfl
        ·obtain rfl := so da7_0 ho9
         have e0 := hF9.od 0 (v := .pointer (some ⟨t.B, 0, none⟩)) rfl
         refine zaV rfl ?_ (hK9 _ hS9)
         clear ho9 hF9
         simp only [da7o0, execOp, e0]
         first | done | (go_simp <;> omega)
        ·obtain rfl := so da7_1 ho9
         have e0 := hF9.od 0 (v := .pointer (some ⟨t.B, 0, none⟩)) rfl
         refine zaV rfl ?_ (hK9 _ hS9)
         clear ho9 hF9
         simp only [da7o1, execOp, e0]
         first | done | (go_simp <;> omega)
        ·obtain rfl := so da7_2 ho9
         have e42 := hF9.ev 1 42
         refine zaV rfl ?_ (hK9 _ hS9)
         clear ho9 hF9
         simp only [da7o2, execOp, e42]
         first | done | (go_simp <;> omega)
        ·obtain rfl := so da7_3 ho9
         have e43 := hF9.ev 2 43
         refine zaV rfl ?_ (hK9 _ hS9)
         clear ho9 hF9
         simp only [da7o3, execOp, e43]
         first | done | (go_simp <;> omega)
        ·obtain rfl := so da7_4 ho9
         have e44 := hF9.ev 3 44
         have c4 : w9.cell? ⟨t.B, 4, none⟩ = some (.int .i64 (σ2.x : Int)) := hS9.r.cell (j := 4) (u := .int .i64 (σ2.x : Int)) rfl
         refine zaV rfl ?_ (hK9 _ hS9)
         clear ho9 hF9
         simp only [da7o4, execOp, e44]
         first | done | (go_simp <;> omega)
        ·obtain rfl := so da7_5 ho9
         have e0 := hF9.od 0 (v := .pointer (some ⟨t.B, 0, none⟩)) rfl
         refine zaV rfl ?_ (hK9 _ hS9)
         clear ho9 hF9
         simp only [da7o5, execOp, e0]
         first | done | (go_simp <;> omega)
        ·obtain rfl := so da7_6 ho9
         have e46 := hF9.ev 5 46
         refine zaV rfl ?_ (hK9 _ hS9)
         clear ho9 hF9
         simp only [da7o6, execOp, e46]
         first | done | (go_simp <;> omega)
        ·obtain rfl := so da7_7 ho9
         have e47 := hF9.ev 6 47
         refine zaV rfl ?_ (hK9 _ hS9)
         clear ho9 hF9
         simp only [da7o7, execOp, e47]
         first | done | (go_simp <;> omega)
        ·obtain rfl := so da7_8 ho9
         have e48 := hF9.ev 7 48
         refine zaV rfl ?_ (hK9 _ hS9)
         clear ho9 hF9
         simp only [da7o8, execOp, e48]
         first | done | (go_simp <;> omega)
        ·obtain rfl := so da7_9 ho9
         have e49 := hF9.ev 8 49
         have c1 : w9.cell? ⟨t.B, 1, none⟩ = some t.P.xv := hS9.r.cell (j := 1) (u := t.P.xv) rfl
         rw [HXV.out] at c1
         refine zaV rfl ?_ (hK9 _ hS9)
         clear ho9 hF9
         simp only [da7o9, execOp, e49]
         first | done | (go_simp <;> omega)
        ·obtain rfl := so da7_10 ho9
         have f50 := hF9.nw 9 50
         refine zaV rfl ?_ (hK9 _ hS9)
         clear ho9 hF9
         simp only [da7o10, execOp]
         first | done | (go_simp <;> omega)
        ·obtain rfl := so da7_11 ho9
         have e45 := hF9.ev 4 45
         have e51 := hF9.ev 10 51
         have hk9 := HK1.out
         refine zaV rfl ?_ (hK9 _ hS9)
         clear ho9 hF9
         simp only [da7o11, execOp, e45, e51]
         first | done | (go_simp <;> omega)
        ·obtain rfl := so da7_12 ho9
         have e52 := hF9.ev 11 52
         refine zaV rfl ?_ (hK9 _ hS9)
         clear ho9 hF9
         simp only [da7o12, execOp, e52]
         first | done | (go_simp <;> omega)
        ·obtain rfl := so da7_13 ho9
         have e0 := hF9.od 0 (v := .pointer (some ⟨t.B, 0, none⟩)) rfl
         refine zbN rfl zbB (hF9.nw 12 53) ?_
         refine zbG ?_ (hK9 _ hS9)
         clear ho9 hF9
         simp only [da7o13, execOp, e0]
         first | done | (go_simp <;> omega)
        ·obtain rfl := so da7_14 ho9
         have e54 := hF9.ev 13 54
         refine zbN rfl zbB (hF9.nw 12 53) ?_
         refine zbG ?_ (hK9 _ hS9)
         clear ho9 hF9
         simp only [da7o14, execOp, e54]
         first | done | (go_simp <;> omega)
        ·obtain rfl := so da7_15 ho9
         have e55 := hF9.ev 14 55
         refine zbN rfl zbB (hF9.nw 12 53) ?_
         refine zbG ?_ (hK9 _ hS9)
         clear ho9 hF9
         simp only [da7o15, execOp, e55]
         first | done | (go_simp <;> omega)
        ·obtain rfl := so da7_16 ho9
         have e56 := hF9.ev 15 56
         refine zbN rfl zbB (hF9.nw 12 53) ?_
         have c5 : w9.cell? ⟨t.B, 5, none⟩ = some (.int .i64 (σ2.s : Int)) := hS9.r.cell (j := 5) (u := .int .i64 (σ2.s : Int)) rfl
         refine zbG ?_ (hK9 _ hS9)
         clear ho9 hF9
         simp only [da7o16, execOp, e56]
         first | done | (go_simp <;> omega)
        ·obtain rfl := so da7_17 ho9
         have e0 := hF9.od 0 (v := .pointer (some ⟨t.B, 0, none⟩)) rfl
         refine zbN rfl zbB (hF9.nw 12 53) ?_
         refine zbG ?_ (hK9 _ hS9)
         clear ho9 hF9
         simp only [da7o17, execOp, e0]
         first | done | (go_simp <;> omega)
        ·obtain rfl := so da7_18 ho9
         have e58 := hF9.ev 17 58
         refine zbN rfl zbB (hF9.nw 12 53) ?_
         refine zbG ?_ (hK9 _ hS9)
         clear ho9 hF9
         simp only [da7o18, execOp, e58]
         first | done | (go_simp <;> omega)
        ·obtain rfl := so da7_19 ho9
         have e59 := hF9.ev 18 59
         refine zbN rfl zbB (hF9.nw 12 53) ?_
         refine zbG ?_ (hK9 _ hS9)
         clear ho9 hF9
         simp only [da7o19, execOp, e59]
         first | done | (go_simp <;> omega)
        ·obtain rfl := so da7_20 ho9
         have e60 := hF9.ev 19 60
         refine zbN rfl zbB (hF9.nw 12 53) ?_
         refine zbG ?_ (hK9 _ hS9)
         clear ho9 hF9
         simp only [da7o20, execOp, e60]
         first | done | (go_simp <;> omega)
        ·obtain rfl := so da7_21 ho9
         have e61 := hF9.ev 20 61
         refine zbN rfl zbB (hF9.nw 12 53) ?_
         have c2 : w9.cell? ⟨t.B, 2, none⟩ = some t.P.sv := hS9.r.cell (j := 2) (u := t.P.sv) rfl
         rw [HSV.out] at c2
         refine zbG ?_ (hK9 _ hS9)
         clear ho9 hF9
         simp only [da7o21, execOp, e61]
         first | done | (go_simp <;> omega)
        ·obtain rfl := so da7_22 ho9
         have f62 := hF9.nw 21 62
         refine zbN rfl zbB (hF9.nw 12 53) ?_
         refine zbG ?_ (hK9 _ hS9)
         clear ho9 hF9
         simp only [da7o22, execOp]
         first | done | (go_simp <;> omega)
        ·obtain rfl := so da7_23 ho9
         have e57 := hF9.ev 16 57
         have e63 := hF9.ev 22 63
         refine zbN rfl zbB (hF9.nw 12 53) ?_
         have hk9 := HK2.out
         refine zbG ?_ (hK9 _ hS9)
         clear ho9 hF9
         simp only [da7o23, execOp, e57, e63]
         first | done | (go_simp <;> omega)
        ·obtain rfl := so da7_24 ho9
         have e53 := hF9.ev 12 53
         have e64 := hF9.ev 23 64
         refine zaV rfl ?_ (hK9 _ hS9)
         clear ho9 hF9
         simp only [da7o24, execOp, e53, e64]
         first | done | (go_simp <;> omega)
       ·intro w9 hS9 K9 hK9
        simp only [putTo, da7_d0, da7_d1, da7_d2, da7_d3, da7_d4, da7_d5, da7_d6, da7_d7, da7_d8, da7_d9, da7_d10, da7_d11, zbB, da7_d13, da7_d14, da7_d15, da7_d16, da7_d17, da7_d18, da7_d19, da7_d20, da7_d21, da7_d22, da7_d23, da7_d24, da7o25]
        rw [if_pos (zaJ rfl)]
        unfold Oper.wp
        go_simp
        refine Calls.mono (zaW _ w9) ?_
        rintro e w2 ⟨rfl, rfl⟩
        refine ⟨rfl, ?_⟩
        rw [HR.out]
        exact ⟨rfl, hS9.bad (.refl _)⟩
     ·have HK1 : Hid (((σ2.x : Int) == (nx : Int)) = false) := hidI (by rw [beq_eq_false_iff_ne]; omega)
      have HR : Hid (tProg P0 σ = none) := hidI (by rw [HR0.out, if_neg (fun e => hx e.1)])
      clear hx
      go_wp2_with (go_at_call 126; refine Calls.mono (CR.out) ?_; intro e w3 h3; obtain ⟨rfl, hb3⟩ := h3; clear CR; have HS3 : Hid (TlS t σ2 X w3) := hidI hb3; clear hb3)
      refine zaU (ops := da7) (fun i => match i with | 0 => .pointer (some ⟨t.B, 0, none⟩) | 1 => .pointer (some ⟨t.B, 0, none⟩) | 2 => .pointer (some ⟨t.B, 0, none⟩) | 3 => .pointer (some ⟨t.B, 4, none⟩) | 4 => .int .i64 (σ2.x : Int) | 5 => .pointer (some ⟨t.B, 0, none⟩) | 6 => .pointer (some ⟨t.B, 0, none⟩) | 7 => .pointer (some ⟨t.B, 0, none⟩) | 8 => .pointer (some ⟨t.B, 1, none⟩) | 9 => .slice xa nx xc | 10 => .int .i64 (nx : Int) | 11 => .bool false | 12 => .bool false | 13 => undef | 14 => undef | 15 => undef | 16 => undef | 17 => undef | 18 => undef | 19 => undef | 20 => undef | 21 => undef | 22 => undef | 23 => undef | 24 => .bool false | _ => undef) (fun y => TlS t σ2 X y) 25 Tryz.mixed (by kernel_rfl) (by kernel_rfl) da7_25 HS3.out.drew ?_ ?_
      ·intro i9 o9 hi9 ho9 a9 w9 hF9 hS9 K9 hK9
       have hc9 : i9 = 0 ∨ i9 = 1 ∨ i9 = 2 ∨ i9 = 3 ∨ i9 = 4 ∨ i9 = 5 ∨ i9 = 6 ∨ i9 = 7 ∨ i9 = 8 ∨ i9 = 9 ∨ i9 = 10 ∨ i9 = 11 ∨ i9 = 12 ∨ i9 = 13 ∨ i9 = 14 ∨ i9 = 15 ∨ i9 = 16 ∨ i9 = 17 ∨ i9 = 18 ∨ i9 = 19 ∨ i9 = 20 ∨ i9 = 21 ∨ i9 = 22 ∨ i9 = 23 ∨ i9 = 24 := by omega
       clear hi9
       rcases hc9 with rfl | rfl | rfl | rfl | rfl | rfl | rfl | rfl | rfl | rfl | rfl | rfl | rfl | rfl | rfl | rfl | rfl | rfl | rfl | rfl | rfl | rfl | rfl | rfl | rfl
       ·obtain rfl := so da7_0 ho9
        have e0 := hF9.od 0 (v := .pointer (some ⟨t.B, 0, none⟩)) rfl
        refine zaV rfl ?_ (hK9 _ hS9)
        clear ho9 hF9
        simp only [da7o0, execOp, e0]
        first | done | (go_simp <;> omega)
       ·obtain rfl := so da7_1 ho9
        have e0 := hF9.od 0 (v := .pointer (some ⟨t.B, 0, none⟩)) rfl
        refine zaV rfl ?_ (hK9 _ hS9)
        clear ho9 hF9
        simp only [da7o1, execOp, e0]
        first | done | (go_simp <;> omega)
       ·obtain rfl := so da7_2 ho9
        have e42 := hF9.ev 1 42
        refine zaV rfl ?_ (hK9 _ hS9)
        clear ho9 hF9
        simp only [da7o2, execOp, e42]
        first | done | (go_simp <;> omega)
       ·obtain rfl := so da7_3 ho9
        have e43 := hF9.ev 2 43
        refine zaV rfl ?_ (hK9 _ hS9)
        clear ho9 hF9
        simp only [da7o3, execOp, e43]
        first | done | (go_simp <;> omega)
       ·obtain rfl := so da7_4 ho9
        have e44 := hF9.ev 3 44
        have c4 : w9.cell? ⟨t.B, 4, none⟩ = some (.int .i64 (σ2.x : Int)) := hS9.r.cell (j := 4) (u := .int .i64 (σ2.x : Int)) rfl
        refine zaV rfl ?_ (hK9 _ hS9)
        clear ho9 hF9
        simp only [da7o4, execOp, e44]
        first | done | (go_simp <;> omega)
       ·obtain rfl := so da7_5 ho9
        have e0 := hF9.od 0 (v := .pointer (some ⟨t.B, 0, none⟩)) rfl
        refine zaV rfl ?_ (hK9 _ hS9)
        clear ho9 hF9
        simp only [da7o5, execOp, e0]
        first | done | (go_simp <;> omega)
       ·obtain rfl := so da7_6 ho9
        have e46 := hF9.ev 5 46
        refine zaV rfl ?_ (hK9 _ hS9)
        clear ho9 hF9
        simp only [da7o6, execOp, e46]
        first | done | (go_simp <;> omega)
       ·obtain rfl := so da7_7 ho9
        have e47 := hF9.ev 6 47
        refine zaV rfl ?_ (hK9 _ hS9)
        clear ho9 hF9
        simp only [da7o7, execOp, e47]
        first | done | (go_simp <;> omega)
       ·obtain rfl := so da7_8 ho9
        have e48 := hF9.ev 7 48
        refine zaV rfl ?_ (hK9 _ hS9)
        clear ho9 hF9
        simp only [da7o8, execOp, e48]
        first | done | (go_simp <;> omega)
       ·obtain rfl := so da7_9 ho9
        have e49 := hF9.ev 8 49
        have c1 : w9.cell? ⟨t.B, 1, none⟩ = some t.P.xv := hS9.r.cell (j := 1) (u := t.P.xv) rfl
        rw [HXV.out] at c1
        refine zaV rfl ?_ (hK9 _ hS9)
        clear ho9 hF9
        simp only [da7o9, execOp, e49]
        first | done | (go_simp <;> omega)
       ·obtain rfl := so da7_10 ho9
        have f50 := hF9.nw 9 50
        refine zaV rfl ?_ (hK9 _ hS9)
        clear ho9 hF9
        simp only [da7o10, execOp]
        first | done | (go_simp <;> omega)
       ·obtain rfl := so da7_11 ho9
        have e45 := hF9.ev 4 45
        have e51 := hF9.ev 10 51
        have hk9 := HK1.out
        refine zaV rfl ?_ (hK9 _ hS9)
        clear ho9 hF9
        simp only [da7o11, execOp, e45, e51]
        first | done | (go_simp <;> omega)
       ·obtain rfl := so da7_12 ho9
        have e52 := hF9.ev 11 52
        refine zaV rfl ?_ (hK9 _ hS9)
        clear ho9 hF9
        simp only [da7o12, execOp, e52]
        first | done | (go_simp <;> omega)
       ·obtain rfl := so da7_13 ho9
        have e0 := hF9.od 0 (v := .pointer (some ⟨t.B, 0, none⟩)) rfl
        exact zbS rfl zbB (hF9.nw 12 53) (hK9 _ hS9)
       ·obtain rfl := so da7_14 ho9
        have e54 := hF9.ev 13 54
        exact zbS rfl zbB (hF9.nw 12 53) (hK9 _ hS9)
       ·obtain rfl := so da7_15 ho9
        have e55 := hF9.ev 14 55
        exact zbS rfl zbB (hF9.nw 12 53) (hK9 _ hS9)
       ·obtain rfl := so da7_16 ho9
        have e56 := hF9.ev 15 56
        exact zbS rfl zbB (hF9.nw 12 53) (hK9 _ hS9)
       ·obtain rfl := so da7_17 ho9
        have e0 := hF9.od 0 (v := .pointer (some ⟨t.B, 0, none⟩)) rfl
        exact zbS rfl zbB (hF9.nw 12 53) (hK9 _ hS9)
       ·obtain rfl := so da7_18 ho9
        have e58 := hF9.ev 17 58
        exact zbS rfl zbB (hF9.nw 12 53) (hK9 _ hS9)
       ·obtain rfl := so da7_19 ho9
        have e59 := hF9.ev 18 59
        exact zbS rfl zbB (hF9.nw 12 53) (hK9 _ hS9)
       ·obtain rfl := so da7_20 ho9
        have e60 := hF9.ev 19 60
        exact zbS rfl zbB (hF9.nw 12 53) (hK9 _ hS9)
       ·obtain rfl := so da7_21 ho9
        have e61 := hF9.ev 20 61
        exact zbS rfl zbB (hF9.nw 12 53) (hK9 _ hS9)
       ·obtain rfl := so da7_22 ho9
        have f62 := hF9.nw 21 62
        exact zbS rfl zbB (hF9.nw 12 53) (hK9 _ hS9)
       ·obtain rfl := so da7_23 ho9
        have e57 := hF9.ev 16 57
        have e63 := hF9.ev 22 63
        exact zbS rfl zbB (hF9.nw 12 53) (hK9 _ hS9)
       ·obtain rfl := so da7_24 ho9
        have e53 := hF9.ev 12 53
        have e64 := hF9.ev 23 64
        refine zaV rfl ?_ (hK9 _ hS9)
        clear ho9 hF9
        simp only [da7o24, execOp, e53, e64]
        first | done | (go_simp <;> omega)
      ·intro w9 hS9 K9 hK9
       simp only [putTo, da7_d0, da7_d1, da7_d2, da7_d3, da7_d4, da7_d5, da7_d6, da7_d7, da7_d8, da7_d9, da7_d10, da7_d11, zbB, da7_d13, da7_d14, da7_d15, da7_d16, da7_d17, da7_d18, da7_d19, da7_d20, da7_d21, da7_d22, da7_d23, da7_d24, da7o25]
       rw [if_pos (zaJ rfl)]
       unfold Oper.wp
       go_simp
       refine Calls.mono (zaW _ w9) ?_
       rintro e w2 ⟨rfl, rfl⟩
       refine ⟨rfl, ?_⟩
       rw [HR.out]
       exact ⟨rfl, hS9.bad (.refl _)⟩
   | succ g =>
    have k1 : (j : Int) < (n : Int) := by omega
    obtain ⟨d, hi⟩ : ∃ d, P0.decls[j]? = some d := ⟨_, List.getElem?_eq_getElem (by have := HN.out; omega)⟩
    obtain ⟨_, a', cap', hav, hcell⟩ := HD0.out.below HSj.out.r.below (Nat.le_refl _)
    cases hav
    rcases hcell with h0 | ⟨b, o, rfl, hcell⟩
    ·omega
    have x0 := hcell (j * 3 + 0) _ (by unfold flatD; rw [zbD dcells 3 dcells_len P0.decls j 0 d hi (by omega)]; rfl)
    have x1 := hcell (j * 3 + 1) _ (by unfold flatD; rw [zbD dcells 3 dcells_len P0.decls j 1 d hi (by omega)]; rfl)
    have x2 := hcell (j * 3 + 2) _ (by unfold flatD; rw [zbD dcells 3 dcells_len P0.decls j 2 d hi (by omega)]; rfl)
    simp only [Nat.add_zero, ← Nat.add_assoc] at x0 x1 x2
    have HA : Hid (TlS t σj (dBx wr.heap.size d :: X) (wr.alloc (.cells #[.string d.name, .int .u8 (d.side : Int), .int .u8 (d.kind : Int)] 56))) := hidI (HSj.out.newbox 56 3 #[.string d.name, .int .u8 (d.side : Int), .int .u8 (d.kind : Int)] rfl)
    have HD := hidI (tAll_drop tDecl P0.decls j d hi σj)
    have hdn := HDO.out d (List.mem_of_getElem? hi)
    have CS : Hid (∀ W, TlS t σj (dBx wr.heap.size d :: X) W → Calls Tryz.prog 125 #[.pointer (some ⟨t.B, 0, none⟩), .agg #[.string (declWd d.side d.kind), .string (declPt d.side d.kind)], .agg #[.string d.name, .int .u8 0, .bool false, .int .i64 (-1), .int .i64 (-1), .slice none 0 0, .slice none 0 0, .slice none 0 0]] W (TPost t (dBx wr.heap.size d :: X) (tDecl d σj))) := hidI (fun W hW => by
     obtain ⟨p1, p2, p3, p4, p5⟩ := declPt_asc d.side d.kind
     have h9 := shaped_any HK.out (sw := declWd d.side d.kind) (sp := declPt d.side d.kind) p4 p1 (k := ctnD d) (a1 := none) (c1 := 0) (a2 := none) (c2 := 0) (a3 := none) (c3 := 0) (part := tPart noT noT noT (ctnD d)) (kp_part zdD zdD zdD) hW (fun c hc => by
      rw [p2] at hc
      obtain rfl := p3 c hc
      exact part_n HK.out hdn)
     rw [p2, p5] at h9
     rw [p5]
     exact h9)
    clear hi hcell hdn HSj
    go_wp2
    refine zaU (ops := da4) (fun i => match i with | 0 => .pointer (some ⟨t.B, 0, none⟩) | 1 => .pointer (some ⟨wr.heap.size, 1, none⟩) | 2 => .int .u8 (d.side : Int) | 3 => .pointer (some ⟨wr.heap.size, 2, none⟩) | 4 => .int .u8 (d.kind : Int) | 5 => .agg #[.string (declWd d.side d.kind), .string (declPt d.side d.kind)] | 6 => .pointer (some ⟨wr.heap.size, 0, none⟩) | 7 => .string d.name | 8 => .agg #[.string d.name, .int .u8 0, .bool false, .int .i64 (-1), .int .i64 (-1), .slice none 0 0, .slice none 0 0, .slice none 0 0] | _ => undef) (fun y => TlS t σj (dBx wr.heap.size d :: X) y) 9 Tryz.mixed (by kernel_rfl) (by kernel_rfl) da4_9 HA.out.drew ?_ ?_
    ·intro i9 o9 hi9 ho9 a9 w9 hF9 hS9 K9 hK9
     have hc9 : i9 = 0 ∨ i9 = 1 ∨ i9 = 2 ∨ i9 = 3 ∨ i9 = 4 ∨ i9 = 5 ∨ i9 = 6 ∨ i9 = 7 ∨ i9 = 8 := by omega
     clear hi9
     rcases hc9 with rfl | rfl | rfl | rfl | rfl | rfl | rfl | rfl | rfl
     ·obtain rfl := so da4_0 ho9
      have e0 := hF9.od 0 (v := .pointer (some ⟨t.B, 0, none⟩)) rfl
      refine zaV rfl ?_ (hK9 _ hS9)
      clear ho9 hF9
      simp only [da4o0, execOp, e0]
      first | done | (go_simp <;> omega)
     ·obtain rfl := so da4_1 ho9
      have e3 := hF9.od 3 (v := .pointer (some ⟨wr.heap.size, 0, none⟩)) rfl
      refine zaV rfl ?_ (hK9 _ hS9)
      clear ho9 hF9
      simp only [da4o1, execOp, e3]
      first | done | (go_simp <;> omega)
     ·obtain rfl := so da4_2 ho9
      have e24 := hF9.ev 1 24
      have q0 := zaA (hS9.r.own (r := dBx wr.heap.size d) (by simp)) (j := 1) rfl
      refine zaV rfl ?_ (hK9 _ hS9)
      clear ho9 hF9
      simp only [da4o2, execOp, e24]
      first | done | (go_simp <;> omega)
     ·obtain rfl := so da4_3 ho9
      have e3 := hF9.od 3 (v := .pointer (some ⟨wr.heap.size, 0, none⟩)) rfl
      refine zaV rfl ?_ (hK9 _ hS9)
      clear ho9 hF9
      simp only [da4o3, execOp, e3]
      first | done | (go_simp <;> omega)
     ·obtain rfl := so da4_4 ho9
      have e26 := hF9.ev 3 26
      have q0 := zaA (hS9.r.own (r := dBx wr.heap.size d) (by simp)) (j := 2) rfl
      refine zaV rfl ?_ (hK9 _ hS9)
      clear ho9 hF9
      simp only [da4o4, execOp, e26]
      first | done | (go_simp <;> omega)
     ·obtain rfl := so da4_5 ho9
      have e25 := hF9.ev 2 25
      have e27 := hF9.ev 4 27
      rw [if_pos (zaJ rfl)]
      unfold Oper.wp
      have f25 := hF9.nw 2 25
      have f27 := hF9.nw 4 27
      have hr9 : (execOp a9.eval da4o5).run Tryz.prog w9 = .ok (.enter 88 #[.int .u8 (d.side : Int), .int .u8 (d.kind : Int)]) w9 := by
       simp only [da4o5, execOp]
       go_simp
      rw [hr9, Oper.upon_enter]
      refine Calls.mono (declSh_all d.side d.kind w9) ?_
      rintro e9 w8 ⟨rfl, hb⟩
      exact hK9 _ (hS9.on hb)
     ·obtain rfl := so da4_6 ho9
      have e3 := hF9.od 3 (v := .pointer (some ⟨wr.heap.size, 0, none⟩)) rfl
      refine zaV rfl ?_ (hK9 _ hS9)
      clear ho9 hF9
      simp only [da4o6, execOp, e3]
      first | done | (go_simp <;> omega)
     ·obtain rfl := so da4_7 ho9
      have e29 := hF9.ev 6 29
      have q0 := zaA (hS9.r.own (r := dBx wr.heap.size d) (by simp)) (j := 0) rfl
      refine zaV rfl ?_ (hK9 _ hS9)
      clear ho9 hF9
      simp only [da4o7, execOp, e29]
      first | done | (go_simp <;> omega)
     ·obtain rfl := so da4_8 ho9
      have f30 := hF9.nw 7 30
      refine zaV rfl ?_ (hK9 _ hS9)
      clear ho9 hF9
      simp only [da4o8, execOp]
      first | done | (go_simp <;> omega)
    ·intro w9 hS9 K9 hK9
     simp only [putTo, da4_d0, da4_d1, da4_d2, da4_d3, da4_d4, da4_d5, da4_d6, da4_d7, da4_d8, da4o9]
     rw [if_pos (zaJ rfl)]
     unfold Oper.wp
     go_simp
     have CB := hidI (CS.out w9 hS9)
     clear hS9
     cases hr : tDecl d σj with
     | none =>
      have HR : Hid (tProg P0 σ = none) := hidI (by rw [HM.out, HT.out, HD.out, hr])
      rw [hr] at CB
      refine Calls.mono CB.out ?_
      rintro e w5 ⟨rfl, hb5⟩
      refine ⟨rfl, ?_⟩
      rw [HR.out]
      exact ⟨rfl, hb5.sub (.cons _ (.refl _))⟩
     | some σ2 =>
      have HT2 : Hid (tAll tDecl P0.decls σ = tAll tDecl (P0.decls.drop (j + 1)) σ2) := hidI (by rw [HT.out, HD.out, hr])
      rw [hr] at CB
      refine Calls.mono CB.out ?_
      rintro e w5 ⟨rfl, hb5⟩
      refine hK9 _ _ ?_
      clear hK9 K9 CB hr
      have HS5 := hidI (hb5.sub (.cons _ (.refl _)))
      clear hb5
      go_wp2
      go_roundg g
      case measure => omega
      case rel => exact ⟨j + 1, σ2, by omega, by go_num, HT2, HS5⟩
 ·have HR : Hid (tProg P0 σ = none) := hidI (by rw [HM.out, if_neg hn24])
  have k24 : ¬ ((n : Int) ≤ 24) := by omega
  have CM := hidI (fun W => zaW (.pointer (some ⟨t.B, 0, none⟩)) W)
  have HB := hidI (HH.out.bad (.refl _))
  clear hk HH
  go_enter Tryz.func94, Tryz.ntmps94
  go_wp2_with (go_at_call 124; refine Calls.mono (CM.out _) ?_; intro e w2 h2; obtain ⟨rfl, rfl⟩ := h2; clear CM)
  refine ⟨rfl, ?_⟩
  rw [HR.out]
  exact ⟨rfl, HB.out⟩
end Go.Proofs.YtmekkhfohmfjkaaGreatDoor
