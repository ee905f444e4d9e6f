/-
  Part 14 of the proof: RegZ.
-/
import Derived.Test.YtmekkhfohmfjkaaGreatDoorTm12
import Derived.Test.YtmekkhfohmfjkaaGreatDoorTm13
namespace Go.Proofs.YtmekkhfohmfjkaaGreatDoor
open Go.RowKit Go.Deep Go.MapKept
def opsO : Array Oper := #[⟨some 33, .move (.tmp 1), 217, "read.go:136", #[], none⟩, ⟨some 34, .move (.tmp 0), 164, "read.go:136", #[], none⟩, ⟨some 35, .nilCheck (.tmp 34), 0, "read.go:136", #[⟨1, .data⟩], none⟩, ⟨some 36, .fieldAddr 109 (.tmp 35) 0, 0, "read.go:136", #[⟨2, .data⟩], none⟩, ⟨some 37, .fieldAddr 106 (.tmp 36) 4, 0, "read.go:136", #[⟨3, .data⟩], none⟩, ⟨some 38, .load 104 (.tmp 37), 104, "read.go:136", #[⟨4, .data⟩], none⟩, ⟨some 39, .fieldAddr 115 (.tmp 8) 1, 0, "read.go:136", #[], none⟩, ⟨some 40, .load 9 (.tmp 39), 9, "read.go:136", #[⟨6, .data⟩], none⟩, ⟨some 41, .lookup 104 (.tmp 38) (.tmp 40) false, 75, "read.go:136", #[⟨5, .data⟩, ⟨7, .data⟩], none⟩, ⟨some 42, .nilCheck (.tmp 33), 0, "read.go:136", #[⟨0, .data⟩, ⟨0, .phase⟩, ⟨1, .phase⟩, ⟨2, .phase⟩, ⟨3, .phase⟩, ⟨4, .phase⟩, ⟨5, .phase⟩, ⟨6, .phase⟩, ⟨7, .phase⟩, ⟨8, .phase⟩], none⟩, ⟨some 43, .fieldAddr 170 (.tmp 42) 1, 0, "read.go:136", #[⟨9, .data⟩, ⟨0, .phase⟩, ⟨1, .phase⟩, ⟨2, .phase⟩, ⟨3, .phase⟩, ⟨4, .phase⟩, ⟨5, .phase⟩, ⟨6, .phase⟩, ⟨7, .phase⟩, ⟨8, .phase⟩], none⟩, ⟨none, .store 75 (.tmp 43) (.tmp 41), 0, "read.go:136", #[⟨10, .data⟩, ⟨8, .data⟩, ⟨0, .phase⟩, ⟨1, .phase⟩, ⟨2, .phase⟩, ⟨3, .phase⟩, ⟨4, .phase⟩, ⟨5, .phase⟩, ⟨6, .phase⟩, ⟨7, .phase⟩, ⟨8, .phase⟩], none⟩]
theorem opsO_0 : opsO[0]? = some ⟨some 33, .move (.tmp 1), 217, "read.go:136", #[], none⟩ := by kernel_rfl
theorem opsO_1 : opsO[1]? = some ⟨some 34, .move (.tmp 0), 164, "read.go:136", #[], none⟩ := by kernel_rfl
theorem opsO_2 : opsO[2]? = some ⟨some 35, .nilCheck (.tmp 34), 0, "read.go:136", #[⟨1, .data⟩], none⟩ := by kernel_rfl
theorem opsO_3 : opsO[3]? = some ⟨some 36, .fieldAddr 109 (.tmp 35) 0, 0, "read.go:136", #[⟨2, .data⟩], none⟩ := by kernel_rfl
theorem opsO_4 : opsO[4]? = some ⟨some 37, .fieldAddr 106 (.tmp 36) 4, 0, "read.go:136", #[⟨3, .data⟩], none⟩ := by kernel_rfl
theorem opsO_5 : opsO[5]? = some ⟨some 38, .load 104 (.tmp 37), 104, "read.go:136", #[⟨4, .data⟩], none⟩ := by kernel_rfl
theorem opsO_6 : opsO[6]? = some ⟨some 39, .fieldAddr 115 (.tmp 8) 1, 0, "read.go:136", #[], none⟩ := by kernel_rfl
theorem opsO_7 : opsO[7]? = some ⟨some 40, .load 9 (.tmp 39), 9, "read.go:136", #[⟨6, .data⟩], none⟩ := by kernel_rfl
theorem opsO_8 : opsO[8]? = some ⟨some 41, .lookup 104 (.tmp 38) (.tmp 40) false, 75, "read.go:136", #[⟨5, .data⟩, ⟨7, .data⟩], none⟩ := by kernel_rfl
theorem opsO_9 : opsO[9]? = some ⟨some 42, .nilCheck (.tmp 33), 0, "read.go:136", #[⟨0, .data⟩, ⟨0, .phase⟩, ⟨1, .phase⟩, ⟨2, .phase⟩, ⟨3, .phase⟩, ⟨4, .phase⟩, ⟨5, .phase⟩, ⟨6, .phase⟩, ⟨7, .phase⟩, ⟨8, .phase⟩], none⟩ := by kernel_rfl
theorem opsO_10 : opsO[10]? = some ⟨some 43, .fieldAddr 170 (.tmp 42) 1, 0, "read.go:136", #[⟨9, .data⟩, ⟨0, .phase⟩, ⟨1, .phase⟩, ⟨2, .phase⟩, ⟨3, .phase⟩, ⟨4, .phase⟩, ⟨5, .phase⟩, ⟨6, .phase⟩, ⟨7, .phase⟩, ⟨8, .phase⟩], none⟩ := by kernel_rfl
theorem opsO_11 : opsO[11]? = some ⟨none, .store 75 (.tmp 43) (.tmp 41), 0, "read.go:136", #[⟨10, .data⟩, ⟨8, .data⟩, ⟨0, .phase⟩, ⟨1, .phase⟩, ⟨2, .phase⟩, ⟨3, .phase⟩, ⟨4, .phase⟩, ⟨5, .phase⟩, ⟨6, .phase⟩, ⟨7, .phase⟩, ⟨8, .phase⟩], none⟩ := by kernel_rfl
set_option maxRecDepth 100000 in
set_option maxHeartbeats 2000000 in
theorem regO {x2 x3 x4 x5 x6 x7 x9 x10 x11 x12 x13 x14 x15 x16 x17 x18 x19 x20 x21 x22 x23 x24 x25 x26 x27 x28 x29 x30 x31 x32 x33 x34 x35 x36 x37 x38 x39 x40 x41 x42 x43 x44 x45 x46 x47 x48 x49 x50 x51 x52 x53 x54 x55 x56 x57 x58 x59 x60 x61 x62 x63 x64 x65 x66 x67 x68 x69 x70 x71 x72 x73 x74 x75 x76 x77 x78 x79 x80 x81 x82 x83 x84 x85 x86 x87 x88 x89 x90 x91 x92 x93 x94 x95 x96 x97 x98 x99 x100 x101 x102 x103 x104 x105 x106 x107 x108 x109 x110 x111 x112 x113 x114 x115 : Value} {Q : Exit → Act → World → Prop} {V0 : World} {B cb fb mo : Nat} {s : ByteArray} {o : Int} {u : Value}
  (hS0 : (V0.drew.cell? ⟨B, 4, none⟩ = some (.map (some mo)) ∧ V0.drew.cell? ⟨fb, 1, none⟩ = some (.string s) ∧ (Instr.lookup 104 (.map (some mo)) (.string s) false).run Tryz.prog V0.drew = .ok (.int .u8 o) V0.drew)) (hu : V0.drew.cell? ⟨cb, 1, none⟩ = some u) (hf : V0.drew.frozen? ⟨cb, 1, none⟩ = false)
  (hpan : ∀ c (a : Act) w (dd : Tmp) vv, Q (.panic c) (a.put (some dd) vv) w → Q (.panic c) a w)
  (HQ : Hid (∀ (t33 t34 t35 t36 t37 t38 t39 t40 t41 t42 t43 : Value), Q .normal { tmps := #[.pointer (some ⟨B, 0, none⟩), .pointer (some ⟨cb, 0, none⟩), x2, x3, x4, x5, x6, x7, .pointer (some ⟨fb, 0, none⟩), x9, x10, x11, x12, x13, x14, x15, x16, x17, x18, x19, x20, x21, x22, x23, x24, x25, x26, x27, x28, x29, x30, x31, x32, t33, t34, t35, t36, t37, t38, t39, t40, t41, t42, t43, x44, x45, x46, x47, x48, x49, x50, x51, x52, x53, x54, x55, x56, x57, x58, x59, x60, x61, x62, x63, x64, x65, x66, x67, x68, x69, x70, x71, x72, x73, x74, x75, x76, x77, x78, x79, x80, x81, x82, x83, x84, x85, x86, x87, x88, x89, x90, x91, x92, x93, x94, x95, x96, x97, x98, x99, x100, x101, x102, x103, x104, x105, x106, x107, x108, x109, x110, x111, x112, x113, x114, x115], defers := [] } (V0.drew.setCell ⟨cb, 1, none⟩ (.int .u8 o)))) :
  (Code.region 6 opsO true).wp Tryz.prog Q { tmps := #[.pointer (some ⟨B, 0, none⟩), .pointer (some ⟨cb, 0, none⟩), x2, x3, x4, x5, x6, x7, .pointer (some ⟨fb, 0, none⟩), x9, x10, x11, x12, x13, x14, x15, x16, x17, x18, x19, x20, x21, x22, x23, x24, x25, x26, x27, x28, x29, x30, x31, x32, x33, x34, x35, x36, x37, x38, x39, x40, x41, x42, x43, x44, x45, x46, x47, x48, x49, x50, x51, x52, x53, x54, x55, x56, x57, x58, x59, x60, x61, x62, x63, x64, x65, x66, x67, x68, x69, x70, x71, x72, x73, x74, x75, x76, x77, x78, x79, x80, x81, x82, x83, x84, x85, x86, x87, x88, x89, x90, x91, x92, x93, x94, x95, x96, x97, x98, x99, x100, x101, x102, x103, x104, x105, x106, x107, x108, x109, x110, x111, x112, x113, x114, x115], defers := [] } V0 := by
 obtain ⟨V, hV⟩ : ∃ V, V0.drew = V := ⟨_, rfl⟩
 refine zbC (fun y => (y.cell? ⟨B, 4, none⟩ = some (.map (some mo)) ∧ y.cell? ⟨fb, 1, none⟩ = some (.string s) ∧ (Instr.lookup 104 (.map (some mo)) (.string s) false).run Tryz.prog y = .ok (.int .u8 o) y)) 11 Tryz.mixed ?_
 rw [hV] at hS0 hu hf HQ ⊢
 clear hV
 have HPan := hidI hpan
 clear hpan
 refine zaB [9, 10, 11] (i := 0) (v := (.pointer (some ⟨cb, 0, none⟩))) opsO_0 (by kernel_rfl) (by kernel_rfl) (by kernel_rfl) (by kernel_rfl) (fun c a w h => HPan.out c a w _ _ h) (.inl ⟨by rfl, fun y hy => ?_⟩) hS0 ?_
 ·go_simp
 refine zaB [2, 3, 4, 5, 8, 9, 10, 11] (i := 1) (v := (.pointer (some ⟨B, 0, none⟩))) opsO_1 (by kernel_rfl) (by kernel_rfl) (by kernel_rfl) (by kernel_rfl) (fun c a w h => HPan.out c a w _ _ h) (.inl ⟨by rfl, fun y hy => ?_⟩) hS0 ?_
 ·go_simp
 refine zaB [3, 4, 5, 8, 9, 10, 11] (i := 2) (v := (.pointer (some ⟨B, 0, none⟩))) opsO_2 (by kernel_rfl) (by kernel_rfl) (by kernel_rfl) (by kernel_rfl) (fun c a w h => HPan.out c a w _ _ h) (.inl ⟨by rfl, fun y hy => ?_⟩) hS0 ?_
 ·go_simp
 refine zaB [4, 5, 8, 9, 10, 11] (i := 3) (v := (.pointer (some ⟨B, 0, none⟩))) opsO_3 (by kernel_rfl) (by kernel_rfl) (by kernel_rfl) (by kernel_rfl) (fun c a w h => HPan.out c a w _ _ h) (.inl ⟨by rfl, fun y hy => ?_⟩) hS0 ?_
 ·go_simp
 refine zaB [5, 8, 9, 10, 11] (i := 4) (v := (.pointer (some ⟨B, 4, none⟩))) opsO_4 (by kernel_rfl) (by kernel_rfl) (by kernel_rfl) (by kernel_rfl) (fun c a w h => HPan.out c a w _ _ h) (.inl ⟨by rfl, fun y hy => ?_⟩) hS0 ?_
 ·go_simp
 refine zaB [8, 9, 10, 11] (i := 5) (v := (.map (some mo))) opsO_5 (by kernel_rfl) (by kernel_rfl) (by kernel_rfl) (by kernel_rfl) (fun c a w h => HPan.out c a w _ _ h) (.inl ⟨by rfl, fun y hy => ?_⟩) hS0 ?_
 ·obtain ⟨y0, y1, y2⟩ := hy; go_simp
 refine zaB [7, 8, 9, 10, 11] (i := 6) (v := (.pointer (some ⟨fb, 1, none⟩))) opsO_6 (by kernel_rfl) (by kernel_rfl) (by kernel_rfl) (by kernel_rfl) (fun c a w h => HPan.out c a w _ _ h) (.inl ⟨by rfl, fun y hy => ?_⟩) hS0 ?_
 ·go_simp
 refine zaB [8, 9, 10, 11] (i := 7) (v := (.string s)) opsO_7 (by kernel_rfl) (by kernel_rfl) (by kernel_rfl) (by kernel_rfl) (fun c a w h => HPan.out c a w _ _ h) (.inl ⟨by rfl, fun y hy => ?_⟩) hS0 ?_
 ·obtain ⟨y0, y1, y2⟩ := hy; go_simp
 refine zaB [9, 10, 11] (i := 8) (v := (.int .u8 o)) opsO_8 (by kernel_rfl) (by kernel_rfl) (by kernel_rfl) (by kernel_rfl) (fun c a w h => HPan.out c a w _ _ h) (.inl ⟨by rfl, fun y hy => ?_⟩) hS0 ?_
 ·obtain ⟨y0, y1, y2⟩ := hy; go_simp
 refine zaB [10, 11] (i := 9) (v := (.pointer (some ⟨cb, 0, none⟩))) opsO_9 (by kernel_rfl) (by kernel_rfl) (by kernel_rfl) (by kernel_rfl) (fun c a w h => HPan.out c a w _ _ h) (.inl ⟨by rfl, fun y hy => ?_⟩) hS0 ?_
 ·go_simp
 refine zaB [11] (i := 10) (v := (.pointer (some ⟨cb, 1, none⟩))) opsO_10 (by kernel_rfl) (by kernel_rfl) (by kernel_rfl) (by kernel_rfl) (fun c a w h => HPan.out c a w _ _ h) (.inl ⟨by rfl, fun y hy => ?_⟩) hS0 ?_
 ·go_simp
 refine zbJ (by kernel_rfl) (by kernel_rfl) ?_ _
 refine zaP opsO_11 rfl fun K1 hK1 => ?_
 unfold Oper.wp
 go_simp
 refine hK1 _ _ ?_
 exact HQ.out _ _ _ _ _ _ _ _ _ _ _
def opsC : Array Oper := #[⟨some 28, .move (.tmp 0), 164, "read.go:105", #[], none⟩, ⟨some 29, .move (.tmp 0), 164, "read.go:105", #[], none⟩, ⟨some 30, .move (.tmp 0), 164, "read.go:105", #[], none⟩, ⟨some 31, .nilCheck (.tmp 30), 0, "read.go:105", #[⟨2, .data⟩], none⟩, ⟨some 32, .fieldAddr 109 (.tmp 31) 1, 0, "read.go:105", #[⟨3, .data⟩], none⟩, ⟨some 33, .load 66 (.tmp 32), 66, "read.go:105", #[⟨4, .data⟩], none⟩, ⟨some 34, .move (.tmp 10), 3, "read.go:105", #[], none⟩, ⟨some 35, .indexAddr 66 (.tmp 33) (.tmp 34), 0, "read.go:105", #[⟨5, .data⟩, ⟨6, .data⟩], none⟩, ⟨some 36, .load 115 (.tmp 35), 115, "read.go:105", #[⟨7, .data⟩], none⟩, ⟨some 37, .load 151 (.tmp 7), 151, "read.go:105", #[], none⟩, ⟨some 38, .move (.tmp 9), 3, "read.go:105", #[], none⟩, ⟨some 39, .call ⟨.value (.func 122), #[.tmp 37, .tmp 38], #[151, 3]⟩, 21, "read.go:105", #[⟨9, .data⟩, ⟨10, .data⟩], none⟩, ⟨some 40, .call ⟨.value (.func 121), #[.tmp 29, .tmp 36, .tmp 39], #[164, 115, 21]⟩, 4, "read.go:105", #[⟨1, .data⟩, ⟨8, .data⟩, ⟨11, .data⟩, ⟨11, .chain⟩], none⟩, ⟨some 41, .move (.tmp 1), 3, "read.go:105", #[], none⟩, ⟨some 42, .call ⟨.value (.func 91), #[.tmp 28, .tmp 40, .tmp 41], #[164, 4, 3]⟩, 0, "read.go:105", #[⟨0, .data⟩, ⟨12, .data⟩, ⟨13, .data⟩, ⟨12, .chain⟩], none⟩]
theorem opsC_0 : opsC[0]? = some ⟨some 28, .move (.tmp 0), 164, "read.go:105", #[], none⟩ := by kernel_rfl
theorem opsC_1 : opsC[1]? = some ⟨some 29, .move (.tmp 0), 164, "read.go:105", #[], none⟩ := by kernel_rfl
theorem opsC_2 : opsC[2]? = some ⟨some 30, .move (.tmp 0), 164, "read.go:105", #[], none⟩ := by kernel_rfl
theorem opsC_3 : opsC[3]? = some ⟨some 31, .nilCheck (.tmp 30), 0, "read.go:105", #[⟨2, .data⟩], none⟩ := by kernel_rfl
theorem opsC_4 : opsC[4]? = some ⟨some 32, .fieldAddr 109 (.tmp 31) 1, 0, "read.go:105", #[⟨3, .data⟩], none⟩ := by kernel_rfl
theorem opsC_5 : opsC[5]? = some ⟨some 33, .load 66 (.tmp 32), 66, "read.go:105", #[⟨4, .data⟩], none⟩ := by kernel_rfl
theorem opsC_6 : opsC[6]? = some ⟨some 34, .move (.tmp 10), 3, "read.go:105", #[], none⟩ := by kernel_rfl
theorem opsC_7 : opsC[7]? = some ⟨some 35, .indexAddr 66 (.tmp 33) (.tmp 34), 0, "read.go:105", #[⟨5, .data⟩, ⟨6, .data⟩], none⟩ := by kernel_rfl
theorem opsC_8 : opsC[8]? = some ⟨some 36, .load 115 (.tmp 35), 115, "read.go:105", #[⟨7, .data⟩], none⟩ := by kernel_rfl
theorem opsC_9 : opsC[9]? = some ⟨some 37, .load 151 (.tmp 7), 151, "read.go:105", #[], none⟩ := by kernel_rfl
theorem opsC_10 : opsC[10]? = some ⟨some 38, .move (.tmp 9), 3, "read.go:105", #[], none⟩ := by kernel_rfl
theorem opsC_11 : opsC[11]? = some ⟨some 39, .call ⟨.value (.func 122), #[.tmp 37, .tmp 38], #[151, 3]⟩, 21, "read.go:105", #[⟨9, .data⟩, ⟨10, .data⟩], none⟩ := by kernel_rfl
theorem opsC_12 : opsC[12]? = some ⟨some 40, .call ⟨.value (.func 121), #[.tmp 29, .tmp 36, .tmp 39], #[164, 115, 21]⟩, 4, "read.go:105", #[⟨1, .data⟩, ⟨8, .data⟩, ⟨11, .data⟩, ⟨11, .chain⟩], none⟩ := by kernel_rfl
theorem opsC_13 : opsC[13]? = some ⟨some 41, .move (.tmp 1), 3, "read.go:105", #[], none⟩ := by kernel_rfl
theorem opsC_14 : opsC[14]? = some ⟨some 42, .call ⟨.value (.func 91), #[.tmp 28, .tmp 40, .tmp 41], #[164, 4, 3]⟩, 0, "read.go:105", #[⟨0, .data⟩, ⟨12, .data⟩, ⟨13, .data⟩, ⟨12, .chain⟩], none⟩ := by kernel_rfl
set_option maxRecDepth 100000 in
set_option maxHeartbeats 2000000 in
theorem regC {x2 x3 x4 x5 x6 x8 x11 x12 x13 x14 x15 x16 x17 x18 x19 x20 x21 x22 x23 x24 x25 x26 x27 x28 x29 x30 x31 x32 x33 x34 x35 x36 x37 x38 x39 x40 x41 x42 x43 x44 x45 x46 x47 x48 x49 x50 x51 x52 x53 x54 x55 x56 x57 x58 x59 : Value} {Q : Exit → Act → World → Prop} {V0 : World} {B sb g o fl fc kid : Nat} {s sw sp : ByteArray} {k nn pp at_ ix pc : Int} {kv : Value} {r : Bool}
  (c0 : V0.drew.cell? ⟨B, 5, none⟩ = some (.slice (some ⟨g, o, none⟩) fl fc)) (c1 : V0.drew.cell? ⟨g, o + kid * 5, none⟩ = some (.int .u8 k)) (c2 : V0.drew.cell? ⟨g, o + kid * 5 + 1, none⟩ = some (.string s)) (c3 : V0.drew.cell? ⟨g, o + kid * 5 + 2, none⟩ = some (.int .i64 nn)) (c4 : V0.drew.cell? ⟨g, o + kid * 5 + 3, none⟩ = some (kv)) (c5 : V0.drew.cell? ⟨g, o + kid * 5 + 4, none⟩ = some (.int .i64 pp)) (c6 : V0.drew.cell? ⟨sb, 0, none⟩ = some (.string sw)) (c7 : V0.drew.cell? ⟨sb, 1, none⟩ = some (.string sp)) (e1 : (kid : Int) < (fl : Int)) (e2 : (0 : Int) ≤ (kid : Int)) (hS0 : Below V0.drew.heap.size V0.drew V0.drew)
  (HC1 : Hid (∀ W, Calls Tryz.prog 122 #[.agg #[.string sw, .string sp], .int .i64 ix] W fun e w' => e = .returned (.int .i32 pc) ∧ Below W.heap.size W w'))
  (HC2 : Hid (∀ W, Below V0.drew.heap.size V0.drew W → Calls Tryz.prog 121 #[.pointer (some ⟨B, 0, none⟩), .agg #[.int .u8 k, .string s, .int .i64 nn, kv, .int .i64 pp], .int .i32 pc] W fun e w' => e = .returned (.bool r) ∧ Below V0.drew.heap.size V0.drew w'))
  (HC3 : Hid (∀ W, Below V0.drew.heap.size V0.drew W → Calls Tryz.prog 91 #[.pointer (some ⟨B, 0, none⟩), .bool r, .int .i64 at_] W fun e w' => (e = .returned (.tuple #[]) ∧ Below V0.drew.heap.size V0.drew w' ∧ r = true) ∨ (∃ ch, e = .panicked ch ∧ ∀ a : Act, a.defers = [] → Q (.panic ch) a w')))
  (hpan : ∀ c (a : Act) w (dd : Tmp) vv, Q (.panic c) (a.put (some dd) vv) w → Q (.panic c) a w)
  (HQ : Hid (∀ (W : World) (t28 t29 t30 t31 t32 t33 t34 t35 t36 t37 t38 t39 t40 t41 t42 : Value), r = true → Below V0.drew.heap.size V0.drew W → Q .normal { tmps := #[.pointer (some ⟨B, 0, none⟩), .int .i64 at_, x2, x3, x4, x5, x6, .pointer (some ⟨sb, 0, none⟩), x8, .int .i64 ix, .int .i64 (kid : Int), x11, x12, x13, x14, x15, x16, x17, x18, x19, x20, x21, x22, x23, x24, x25, x26, x27, t28, t29, t30, t31, t32, t33, t34, t35, t36, t37, t38, t39, t40, t41, t42, x43, x44, x45, x46, x47, x48, x49, x50, x51, x52, x53, x54, x55, x56, x57, x58, x59], defers := [] } W)) :
  (Code.region 5 opsC true).wp Tryz.prog Q { tmps := #[.pointer (some ⟨B, 0, none⟩), .int .i64 at_, x2, x3, x4, x5, x6, .pointer (some ⟨sb, 0, none⟩), x8, .int .i64 ix, .int .i64 (kid : Int), x11, x12, x13, x14, x15, x16, x17, x18, x19, x20, x21, x22, x23, x24, x25, x26, x27, x28, x29, x30, x31, x32, x33, x34, x35, x36, x37, x38, x39, x40, x41, x42, x43, x44, x45, x46, x47, x48, x49, x50, x51, x52, x53, x54, x55, x56, x57, x58, x59], defers := [] } V0 := by
 obtain ⟨V, hV⟩ : ∃ V, V0.drew = V := ⟨_, rfl⟩
 refine zbC (fun y => Below V0.drew.heap.size V0.drew y) 14 Tryz.mixed ?_
 rw [hV] at c0 c1 c2 c3 c4 c5 c6 c7 hS0 HC2 HC3 HQ ⊢
 clear hV
 have HPan := hidI hpan
 clear hpan
 refine zaB [14] (i := 0) (v := (.pointer (some ⟨B, 0, none⟩))) opsC_0 (by kernel_rfl) (by kernel_rfl) (by kernel_rfl) (by kernel_rfl) (fun c a w h => HPan.out c a w _ _ h) (.inl ⟨by rfl, fun y hy => ?_⟩) hS0 ?_
 ·go_simp
 refine zaB [12, 14] (i := 1) (v := (.pointer (some ⟨B, 0, none⟩))) opsC_1 (by kernel_rfl) (by kernel_rfl) (by kernel_rfl) (by kernel_rfl) (fun c a w h => HPan.out c a w _ _ h) (.inl ⟨by rfl, fun y hy => ?_⟩) hS0 ?_
 ·go_simp
 refine zaB [3, 4, 5, 7, 8, 12, 14] (i := 2) (v := (.pointer (some ⟨B, 0, none⟩))) opsC_2 (by kernel_rfl) (by kernel_rfl) (by kernel_rfl) (by kernel_rfl) (fun c a w h => HPan.out c a w _ _ h) (.inl ⟨by rfl, fun y hy => ?_⟩) hS0 ?_
 ·go_simp
 refine zaB [4, 5, 7, 8, 12, 14] (i := 3) (v := (.pointer (some ⟨B, 0, none⟩))) opsC_3 (by kernel_rfl) (by kernel_rfl) (by kernel_rfl) (by kernel_rfl) (fun c a w h => HPan.out c a w _ _ h) (.inl ⟨by rfl, fun y hy => ?_⟩) hS0 ?_
 ·go_simp
 refine zaB [5, 7, 8, 12, 14] (i := 4) (v := (.pointer (some ⟨B, 5, none⟩))) opsC_4 (by kernel_rfl) (by kernel_rfl) (by kernel_rfl) (by kernel_rfl) (fun c a w h => HPan.out c a w _ _ h) (.inl ⟨by rfl, fun y hy => ?_⟩) hS0 ?_
 ·go_simp
 refine zaB [7, 8, 12, 14] (i := 5) (v := (.slice (some ⟨g, o, none⟩) fl fc)) opsC_5 (by kernel_rfl) (by kernel_rfl) (by kernel_rfl) (by kernel_rfl) (fun c a w h => HPan.out c a w _ _ h) (.inl ⟨by rfl, fun y hy => ?_⟩) hS0 ?_
 ·have q0 := (hy.cell (World.block_lt_of_cell? V _ c0)).trans c0; go_simp
 refine zaB [7, 8, 12, 14] (i := 6) (v := (.int .i64 (kid : Int))) opsC_6 (by kernel_rfl) (by kernel_rfl) (by kernel_rfl) (by kernel_rfl) (fun c a w h => HPan.out c a w _ _ h) (.inl ⟨by rfl, fun y hy => ?_⟩) hS0 ?_
 ·go_simp
 refine zaB [8, 12, 14] (i := 7) (v := (.pointer (some ⟨g, o + kid * 5, none⟩))) opsC_7 (by kernel_rfl) (by kernel_rfl) (by kernel_rfl) (by kernel_rfl) (fun c a w h => HPan.out c a w _ _ h) (.inl ⟨by rfl, fun y hy => ?_⟩) hS0 ?_
 ·go_simp
 refine zaB [12, 14] (i := 8) (v := (.agg #[.int .u8 k, .string s, .int .i64 nn, kv, .int .i64 pp])) opsC_8 (by kernel_rfl) (by kernel_rfl) (by kernel_rfl) (by kernel_rfl) (fun c a w h => HPan.out c a w _ _ h) (.inl ⟨by rfl, fun y hy => ?_⟩) hS0 ?_
 ·have q1 := (hy.cell (World.block_lt_of_cell? V _ c1)).trans c1; have q2 := (hy.cell (World.block_lt_of_cell? V _ c2)).trans c2; have q3 := (hy.cell (World.block_lt_of_cell? V _ c3)).trans c3; have q4 := (hy.cell (World.block_lt_of_cell? V _ c4)).trans c4; have q5 := (hy.cell (World.block_lt_of_cell? V _ c5)).trans c5; go_simp
 refine zaB [11, 12, 14] (i := 9) (v := (.agg #[.string sw, .string sp])) opsC_9 (by kernel_rfl) (by kernel_rfl) (by kernel_rfl) (by kernel_rfl) (fun c a w h => HPan.out c a w _ _ h) (.inl ⟨by rfl, fun y hy => ?_⟩) hS0 ?_
 ·have q6 := (hy.cell (World.block_lt_of_cell? V _ c6)).trans c6; have q7 := (hy.cell (World.block_lt_of_cell? V _ c7)).trans c7; go_simp
 refine zaB [11, 12, 14] (i := 10) (v := (.int .i64 ix)) opsC_10 (by kernel_rfl) (by kernel_rfl) (by kernel_rfl) (by kernel_rfl) (fun c a w h => HPan.out c a w _ _ h) (.inl ⟨by rfl, fun y hy => ?_⟩) hS0 ?_
 ·go_simp
 refine zaB [14] (i := 13) (v := (.int .i64 at_)) opsC_13 (by kernel_rfl) (by kernel_rfl) (by kernel_rfl) (by kernel_rfl) (fun c a w h => HPan.out c a w _ _ h) (.inl ⟨by rfl, fun y hy => ?_⟩) hS0 ?_
 ·go_simp
 refine zaT (rs := [11]) (by kernel_rfl) (by simp) fun j11 hj11 => ?_
 obtain rfl : j11 = 11 := by simpa using hj11
 refine zaP opsC_11 rfl fun K1 hK1 => ?_
 unfold Oper.wp
 go_simp
 refine Calls.mono (HC1.out V) ?_
 intro e W1 h1
 obtain ⟨rfl, hb1⟩ := h1
 refine hK1 _ _ ⟨fun _ => hb1, ?_⟩
 clear hK1 K1
 refine zaT (rs := [12]) (by kernel_rfl) (by simp) fun j12 hj12 => ?_
 obtain rfl : j12 = 12 := by simpa using hj12
 refine zaP opsC_12 rfl fun K1 hK1 => ?_
 unfold Oper.wp
 go_simp
 refine Calls.mono (HC2.out W1 hb1) ?_
 intro e W2 h2
 obtain ⟨rfl, hb2⟩ := h2
 refine hK1 _ _ ⟨fun _ => hb2, ?_⟩
 clear hK1 K1
 refine zbJ (by kernel_rfl) (by kernel_rfl) ?_ _
 refine zaP opsC_14 rfl fun K1 hK1 => ?_
 unfold Oper.wp
 go_simp
 refine Calls.mono (HC3.out W2 hb2) ?_
 intro e W3 h3
 rcases h3 with ⟨rfl, hb3, hr3⟩ | ⟨ch, rfl, hp⟩
 ·refine hK1 _ _ ?_
  exact HQ.out W3 _ _ _ _ _ _ _ _ _ _ _ _ _ _ _ hr3 hb3
 ·exact hp _ rfl
def opsWr : Array Oper := #[⟨some 98, .move (.tmp 10), 158, "read.go:89", #[], none⟩, ⟨some 99, .fieldAddr 170 (.tmp 12) 0, 0, "read.go:89", #[], none⟩, ⟨some 100, .load 9 (.tmp 99), 9, "read.go:89", #[⟨1, .data⟩], none⟩, ⟨some 101, .fieldAddr 170 (.tmp 12) 2, 0, "read.go:89", #[], none⟩, ⟨some 102, .load 4 (.tmp 101), 4, "read.go:89", #[⟨3, .data⟩], none⟩, ⟨some 103, .call ⟨.value (.func 184), #[.tmp 102], #[4]⟩, 89, "read.go:89", #[⟨4, .data⟩], none⟩, ⟨some 104, .build 190 #[(0, .tmp 98), (3, .tmp 100), (4, .tmp 103)], 190, "read.go:89", #[⟨0, .data⟩, ⟨2, .data⟩, ⟨5, .data⟩], none⟩, ⟨none, .store 190 (.tmp 4) (.tmp 104), 0, "read.go:89", #[⟨6, .data⟩, ⟨5, .chain⟩, ⟨0, .phase⟩, ⟨1, .phase⟩, ⟨2, .phase⟩, ⟨3, .phase⟩, ⟨4, .phase⟩, ⟨5, .phase⟩, ⟨6, .phase⟩], none⟩]
theorem opsWr_0 : opsWr[0]? = some ⟨some 98, .move (.tmp 10), 158, "read.go:89", #[], none⟩ := by kernel_rfl
theorem opsWr_1 : opsWr[1]? = some ⟨some 99, .fieldAddr 170 (.tmp 12) 0, 0, "read.go:89", #[], none⟩ := by kernel_rfl
theorem opsWr_2 : opsWr[2]? = some ⟨some 100, .load 9 (.tmp 99), 9, "read.go:89", #[⟨1, .data⟩], none⟩ := by kernel_rfl
theorem opsWr_3 : opsWr[3]? = some ⟨some 101, .fieldAddr 170 (.tmp 12) 2, 0, "read.go:89", #[], none⟩ := by kernel_rfl
theorem opsWr_4 : opsWr[4]? = some ⟨some 102, .load 4 (.tmp 101), 4, "read.go:89", #[⟨3, .data⟩], none⟩ := by kernel_rfl
theorem opsWr_5 : opsWr[5]? = some ⟨some 103, .call ⟨.value (.func 184), #[.tmp 102], #[4]⟩, 89, "read.go:89", #[⟨4, .data⟩], none⟩ := by kernel_rfl
theorem opsWr_6 : opsWr[6]? = some ⟨some 104, .build 190 #[(0, .tmp 98), (3, .tmp 100), (4, .tmp 103)], 190, "read.go:89", #[⟨0, .data⟩, ⟨2, .data⟩, ⟨5, .data⟩], none⟩ := by kernel_rfl
theorem opsWr_7 : opsWr[7]? = some ⟨none, .store 190 (.tmp 4) (.tmp 104), 0, "read.go:89", #[⟨6, .data⟩, ⟨5, .chain⟩, ⟨0, .phase⟩, ⟨1, .phase⟩, ⟨2, .phase⟩, ⟨3, .phase⟩, ⟨4, .phase⟩, ⟨5, .phase⟩, ⟨6, .phase⟩], none⟩ := by kernel_rfl
set_option maxRecDepth 100000 in
set_option maxHeartbeats 2000000 in
theorem regWr {x0 x1 x2 x3 x5 x6 x7 x8 x9 x11 x13 x14 x15 x16 x17 x18 x19 x20 x21 x22 x23 x24 x25 x26 x27 x28 x29 x30 x31 x32 x33 x34 x35 x36 x37 x38 x39 x40 x41 x42 x43 x44 x45 x46 x47 x48 x49 x50 x51 x52 x53 x54 x55 x56 x57 x58 x59 x60 x61 x62 x63 x64 x65 x66 x67 x68 x69 x70 x71 x72 x73 x74 x75 x76 x77 x78 x79 x80 x81 x82 x83 x84 x85 x86 x87 x88 x89 x90 x91 x92 x93 x94 x95 x96 x97 x98 x99 x100 x101 x102 x103 x104 : Value} {Q : Exit → Act → World → Prop} {V0 : World} {rb cb : Nat} {s : ByteArray} {kd q : Int} {b : Bool} {v0 v1 v2 v3 v4 v5 : Value}
  (c0 : V0.drew.cell? ⟨cb, 0, none⟩ = some (.string s)) (c2 : V0.drew.cell? ⟨cb, 2, none⟩ = some (.bool b)) (r0 : V0.drew.cell? ⟨rb, 0, none⟩ = some v0) (z0 : V0.drew.frozen? ⟨rb, 0, none⟩ = false) (r1 : V0.drew.cell? ⟨rb, 1, none⟩ = some v1) (z1 : V0.drew.frozen? ⟨rb, 1, none⟩ = false) (r2 : V0.drew.cell? ⟨rb, 2, none⟩ = some v2) (z2 : V0.drew.frozen? ⟨rb, 2, none⟩ = false) (r3 : V0.drew.cell? ⟨rb, 3, none⟩ = some v3) (z3 : V0.drew.frozen? ⟨rb, 3, none⟩ = false) (r4 : V0.drew.cell? ⟨rb, 4, none⟩ = some v4) (z4 : V0.drew.frozen? ⟨rb, 4, none⟩ = false) (r5 : V0.drew.cell? ⟨rb, 5, none⟩ = some v5) (z5 : V0.drew.frozen? ⟨rb, 5, none⟩ = false) (hS0 : (V0.drew.heap[cb]? = V0.drew.heap[cb]?))
  (HC : Hid (∀ W, Calls Tryz.prog 184 #[.bool b] W fun e w' => e = .returned (.int .i64 q) ∧ W = w'))
  (hpan : ∀ c (a : Act) w (dd : Tmp) vv, Q (.panic c) (a.put (some dd) vv) w → Q (.panic c) a w)
  (HQ : Hid (∀ (t98 t99 t100 t101 t102 t103 t104 : Value), Q .normal { tmps := #[x0, x1, x2, x3, .pointer (some ⟨rb, 0, none⟩), x5, x6, x7, x8, x9, .int .u8 kd, x11, .pointer (some ⟨cb, 0, none⟩), x13, x14, x15, x16, x17, x18, x19, x20, x21, x22, x23, x24, x25, x26, x27, x28, x29, x30, x31, x32, x33, x34, x35, x36, x37, x38, x39, x40, x41, x42, x43, x44, x45, x46, x47, x48, x49, x50, x51, x52, x53, x54, x55, x56, x57, x58, x59, x60, x61, x62, x63, x64, x65, x66, x67, x68, x69, x70, x71, x72, x73, x74, x75, x76, x77, x78, x79, x80, x81, x82, x83, x84, x85, x86, x87, x88, x89, x90, x91, x92, x93, x94, x95, x96, x97, t98, t99, t100, t101, t102, t103, t104], defers := [] } ((((((V0.drew.setCell ⟨rb, 0, none⟩ (.int .u8 kd)).setCell ⟨rb, 1, none⟩ (.int .u8 0)).setCell ⟨rb, 2, none⟩ (.int .u8 0)).setCell ⟨rb, 3, none⟩ (.string s)).setCell ⟨rb, 4, none⟩ (.int .i64 q)).setCell ⟨rb, 5, none⟩ (.slice none 0 0)))) :
  (Code.region 17 opsWr true).wp Tryz.prog Q { tmps := #[x0, x1, x2, x3, .pointer (some ⟨rb, 0, none⟩), x5, x6, x7, x8, x9, .int .u8 kd, x11, .pointer (some ⟨cb, 0, none⟩), x13, x14, x15, x16, x17, x18, x19, x20, x21, x22, x23, x24, x25, x26, x27, x28, x29, x30, x31, x32, x33, x34, x35, x36, x37, x38, x39, x40, x41, x42, x43, x44, x45, x46, x47, x48, x49, x50, x51, x52, x53, x54, x55, x56, x57, x58, x59, x60, x61, x62, x63, x64, x65, x66, x67, x68, x69, x70, x71, x72, x73, x74, x75, x76, x77, x78, x79, x80, x81, x82, x83, x84, x85, x86, x87, x88, x89, x90, x91, x92, x93, x94, x95, x96, x97, x98, x99, x100, x101, x102, x103, x104], defers := [] } V0 := by
 obtain ⟨V, hV⟩ : ∃ V, V0.drew = V := ⟨_, rfl⟩
 refine zbC (fun y => (y.heap[cb]? = V0.drew.heap[cb]?)) 7 Tryz.mixed ?_
 rw [hV] at c0 c2 r0 z0 r1 z1 r2 z2 r3 z3 r4 z4 r5 z5 hS0 HQ ⊢
 clear hV
 have HPan := hidI hpan
 clear hpan
 refine zaB [6, 7] (i := 0) (v := (.int .u8 kd)) opsWr_0 (by kernel_rfl) (by kernel_rfl) (by kernel_rfl) (by kernel_rfl) (fun c a w h => HPan.out c a w _ _ h) (.inl ⟨by rfl, fun y hy => ?_⟩) hS0 ?_
 ·go_simp
 refine zaB [2, 6, 7] (i := 1) (v := (.pointer (some ⟨cb, 0, none⟩))) opsWr_1 (by kernel_rfl) (by kernel_rfl) (by kernel_rfl) (by kernel_rfl) (fun c a w h => HPan.out c a w _ _ h) (.inl ⟨by rfl, fun y hy => ?_⟩) hS0 ?_
 ·go_simp
 refine zaB [6, 7] (i := 2) (v := (.string s)) opsWr_2 (by kernel_rfl) (by kernel_rfl) (by kernel_rfl) (by kernel_rfl) (fun c a w h => HPan.out c a w _ _ h) (.inl ⟨by rfl, fun y hy => ?_⟩) hS0 ?_
 ·have q0 := (World.cell?_of_block (w := V) (a := ⟨cb, 0, none⟩) hy).trans c0; go_simp
 refine zaB [4, 5, 6, 7] (i := 3) (v := (.pointer (some ⟨cb, 2, none⟩))) opsWr_3 (by kernel_rfl) (by kernel_rfl) (by kernel_rfl) (by kernel_rfl) (fun c a w h => HPan.out c a w _ _ h) (.inl ⟨by rfl, fun y hy => ?_⟩) hS0 ?_
 ·go_simp
 refine zaB [5, 6, 7] (i := 4) (v := (.bool b)) opsWr_4 (by kernel_rfl) (by kernel_rfl) (by kernel_rfl) (by kernel_rfl) (fun c a w h => HPan.out c a w _ _ h) (.inl ⟨by rfl, fun y hy => ?_⟩) hS0 ?_
 ·have q0 := (World.cell?_of_block (w := V) (a := ⟨cb, 2, none⟩) hy).trans c2; go_simp
 refine zaT (rs := [5]) (by kernel_rfl) (by simp) fun j5 hj5 => ?_
 obtain rfl : j5 = 5 := by simpa using hj5
 refine zaP opsWr_5 rfl fun K1 hK1 => ?_
 unfold Oper.wp
 go_simp
 refine Calls.mono (HC.out V) ?_
 intro e W1 h1
 obtain ⟨rfl, rfl⟩ := h1
 refine hK1 _ _ ⟨fun _ => rfl, ?_⟩
 clear hK1 K1
 refine zaB [7] (i := 6) (v := (.agg #[.int .u8 kd, .int .u8 0, .int .u8 0, .string s, .int .i64 q, .slice none 0 0])) opsWr_6 (by kernel_rfl) (by kernel_rfl) (by kernel_rfl) (by kernel_rfl) (fun c a w h => HPan.out c a w _ _ h) (.inl ⟨by rfl, fun y hy => ?_⟩) rfl ?_
 ·go_simp
 refine zbJ (by kernel_rfl) (by kernel_rfl) ?_ _
 refine zaP opsWr_7 rfl fun K1 hK1 => ?_
 unfold Oper.wp
 go_simp
 refine hK1 _ _ ?_
 exact HQ.out _ _ _ _ _ _ _
def opsL : Array Oper := #[⟨some 13, .move (.tmp 0), 164, "read.go:118", #[], none⟩, ⟨some 14, .nilCheck (.tmp 13), 0, "read.go:118", #[⟨0, .data⟩], none⟩, ⟨some 15, .fieldAddr 109 (.tmp 14) 0, 0, "read.go:118", #[⟨1, .data⟩], none⟩, ⟨some 16, .fieldAddr 106 (.tmp 15) 4, 0, "read.go:118", #[⟨2, .data⟩], none⟩, ⟨some 17, .load 104 (.tmp 16), 104, "read.go:118", #[⟨3, .data⟩], none⟩, ⟨some 18, .fieldAddr 115 (.tmp 4) 1, 0, "read.go:118", #[], none⟩, ⟨some 19, .load 9 (.tmp 18), 9, "read.go:118", #[⟨5, .data⟩], none⟩, ⟨some 20, .lookup 104 (.tmp 17) (.tmp 19) false, 75, "read.go:118", #[⟨4, .data⟩, ⟨6, .data⟩], none⟩, ⟨some 21, .call ⟨.value (.func 146), #[.tmp 20], #[75]⟩, 239, "read.go:118", #[⟨7, .data⟩], none⟩, ⟨some 12, .move (.tmp 21), 239, "read.go:118", #[⟨8, .data⟩], none⟩, ⟨some 22, .extract (.tmp 12) 0, 89, "read.go:118", #[⟨9, .data⟩], none⟩, ⟨some 23, .extract (.tmp 12) 1, 4, "read.go:118", #[⟨9, .data⟩, { on := 12, ground := Go.Ground.gcOnly Go.Departure.lateStores }], none⟩, ⟨some 7, .assign (.tmp 22), 89, "read.go:118", #[⟨10, .data⟩, ⟨8, .chain⟩, ⟨0, .phase⟩, ⟨1, .phase⟩, ⟨2, .phase⟩, ⟨3, .phase⟩, ⟨4, .phase⟩, ⟨5, .phase⟩, ⟨6, .phase⟩, ⟨7, .phase⟩, ⟨8, .phase⟩, ⟨9, .phase⟩, ⟨10, .phase⟩, { on := 11, ground := Go.Ground.textOnly Go.Departure.lateStores }], none⟩, ⟨some 8, .assign (.tmp 23), 4, "read.go:118", #[⟨11, .data⟩, ⟨12, .chain⟩, ⟨0, .phase⟩, ⟨1, .phase⟩, ⟨2, .phase⟩, ⟨3, .phase⟩, ⟨4, .phase⟩, ⟨5, .phase⟩, ⟨6, .phase⟩, ⟨7, .phase⟩, ⟨8, .phase⟩, ⟨9, .phase⟩, ⟨10, .phase⟩, ⟨11, .phase⟩, ⟨12, .phase⟩], none⟩]
theorem opsL_0 : opsL[0]? = some ⟨some 13, .move (.tmp 0), 164, "read.go:118", #[], none⟩ := by kernel_rfl
theorem opsL_1 : opsL[1]? = some ⟨some 14, .nilCheck (.tmp 13), 0, "read.go:118", #[⟨0, .data⟩], none⟩ := by kernel_rfl
theorem opsL_2 : opsL[2]? = some ⟨some 15, .fieldAddr 109 (.tmp 14) 0, 0, "read.go:118", #[⟨1, .data⟩], none⟩ := by kernel_rfl
theorem opsL_3 : opsL[3]? = some ⟨some 16, .fieldAddr 106 (.tmp 15) 4, 0, "read.go:118", #[⟨2, .data⟩], none⟩ := by kernel_rfl
theorem opsL_4 : opsL[4]? = some ⟨some 17, .load 104 (.tmp 16), 104, "read.go:118", #[⟨3, .data⟩], none⟩ := by kernel_rfl
theorem opsL_5 : opsL[5]? = some ⟨some 18, .fieldAddr 115 (.tmp 4) 1, 0, "read.go:118", #[], none⟩ := by kernel_rfl
theorem opsL_6 : opsL[6]? = some ⟨some 19, .load 9 (.tmp 18), 9, "read.go:118", #[⟨5, .data⟩], none⟩ := by kernel_rfl
theorem opsL_7 : opsL[7]? = some ⟨some 20, .lookup 104 (.tmp 17) (.tmp 19) false, 75, "read.go:118", #[⟨4, .data⟩, ⟨6, .data⟩], none⟩ := by kernel_rfl
theorem opsL_8 : opsL[8]? = some ⟨some 21, .call ⟨.value (.func 146), #[.tmp 20], #[75]⟩, 239, "read.go:118", #[⟨7, .data⟩], none⟩ := by kernel_rfl
theorem opsL_9 : opsL[9]? = some ⟨some 12, .move (.tmp 21), 239, "read.go:118", #[⟨8, .data⟩], none⟩ := by kernel_rfl
theorem opsL_10 : opsL[10]? = some ⟨some 22, .extract (.tmp 12) 0, 89, "read.go:118", #[⟨9, .data⟩], none⟩ := by kernel_rfl
theorem opsL_11 : opsL[11]? = some ⟨some 23, .extract (.tmp 12) 1, 4, "read.go:118", #[⟨9, .data⟩, { on := 12, ground := Go.Ground.gcOnly Go.Departure.lateStores }], none⟩ := by kernel_rfl
theorem opsL_12 : opsL[12]? = some ⟨some 7, .assign (.tmp 22), 89, "read.go:118", #[⟨10, .data⟩, ⟨8, .chain⟩, ⟨0, .phase⟩, ⟨1, .phase⟩, ⟨2, .phase⟩, ⟨3, .phase⟩, ⟨4, .phase⟩, ⟨5, .phase⟩, ⟨6, .phase⟩, ⟨7, .phase⟩, ⟨8, .phase⟩, ⟨9, .phase⟩, ⟨10, .phase⟩, { on := 11, ground := Go.Ground.textOnly Go.Departure.lateStores }], none⟩ := by kernel_rfl
theorem opsL_13 : opsL[13]? = some ⟨some 8, .assign (.tmp 23), 4, "read.go:118", #[⟨11, .data⟩, ⟨12, .chain⟩, ⟨0, .phase⟩, ⟨1, .phase⟩, ⟨2, .phase⟩, ⟨3, .phase⟩, ⟨4, .phase⟩, ⟨5, .phase⟩, ⟨6, .phase⟩, ⟨7, .phase⟩, ⟨8, .phase⟩, ⟨9, .phase⟩, ⟨10, .phase⟩, ⟨11, .phase⟩, ⟨12, .phase⟩], none⟩ := by kernel_rfl
set_option maxRecDepth 100000 in
set_option maxHeartbeats 2000000 in
theorem regL {x1 x2 x3 x5 x6 x7 x8 x9 x10 x11 x12 x13 x14 x15 x16 x17 x18 x19 x20 x21 x22 x23 x24 x25 x26 x27 x28 x29 x30 x31 x32 x33 x34 x35 x36 x37 x38 x39 x40 : Value} {Q : Exit → Act → World → Prop} {V0 : World} {B fb mo : Nat} {s : ByteArray} {o q : Int} {r : Bool}
  (hS0 : (V0.drew.cell? ⟨B, 4, none⟩ = some (.map (some mo)) ∧ V0.drew.cell? ⟨fb, 1, none⟩ = some (.string s) ∧ (Instr.lookup 104 (.map (some mo)) (.string s) false).run Tryz.prog V0.drew = .ok (.int .u8 o) V0.drew))
  (HC : Hid (∀ W, Calls Tryz.prog 146 #[.int .u8 o] W fun e w' => e = .returned (.tuple #[.int .i64 q, .bool r]) ∧ W = w'))
  (hpan : ∀ c (a : Act) w (dd : Tmp) vv, Q (.panic c) (a.put (some dd) vv) w → Q (.panic c) a w)
  (HQ : Hid (∀ (t7 t8 t12 t13 t14 t15 t16 t17 t18 t19 t20 t21 t22 t23 : Value), t8 = .bool r → Q .normal { tmps := #[.pointer (some ⟨B, 0, none⟩), x1, x2, x3, .pointer (some ⟨fb, 0, none⟩), x5, x6, t7, t8, x9, x10, x11, t12, t13, t14, t15, t16, t17, t18, t19, t20, t21, t22, t23, x24, x25, x26, x27, x28, x29, x30, x31, x32, x33, x34, x35, x36, x37, x38, x39, x40], defers := [] } V0.drew)) :
  (Code.region 3 opsL true).wp Tryz.prog Q { tmps := #[.pointer (some ⟨B, 0, none⟩), x1, x2, x3, .pointer (some ⟨fb, 0, none⟩), x5, x6, x7, x8, x9, x10, x11, x12, x13, x14, x15, x16, x17, x18, x19, x20, x21, x22, x23, x24, x25, x26, x27, x28, x29, x30, x31, x32, x33, x34, x35, x36, x37, x38, x39, x40], defers := [] } V0 := by
 obtain ⟨V, hV⟩ : ∃ V, V0.drew = V := ⟨_, rfl⟩
 refine zbC (fun y => (y.cell? ⟨B, 4, none⟩ = some (.map (some mo)) ∧ y.cell? ⟨fb, 1, none⟩ = some (.string s) ∧ (Instr.lookup 104 (.map (some mo)) (.string s) false).run Tryz.prog y = .ok (.int .u8 o) y)) 13 Tryz.mixed ?_
 rw [hV] at hS0 HQ ⊢
 clear hV
 have HPan := hidI hpan
 clear hpan
 refine zaB [1, 2, 3, 4, 7, 8, 9, 10, 11, 12, 13] (i := 0) (v := (.pointer (some ⟨B, 0, none⟩))) opsL_0 (by kernel_rfl) (by kernel_rfl) (by kernel_rfl) (by kernel_rfl) (fun c a w h => HPan.out c a w _ _ h) (.inl ⟨by rfl, fun y hy => ?_⟩) hS0 ?_
 ·go_simp
 refine zaB [2, 3, 4, 7, 8, 9, 10, 11, 12, 13] (i := 1) (v := (.pointer (some ⟨B, 0, none⟩))) opsL_1 (by kernel_rfl) (by kernel_rfl) (by kernel_rfl) (by kernel_rfl) (fun c a w h => HPan.out c a w _ _ h) (.inl ⟨by rfl, fun y hy => ?_⟩) hS0 ?_
 ·go_simp
 refine zaB [3, 4, 7, 8, 9, 10, 11, 12, 13] (i := 2) (v := (.pointer (some ⟨B, 0, none⟩))) opsL_2 (by kernel_rfl) (by kernel_rfl) (by kernel_rfl) (by kernel_rfl) (fun c a w h => HPan.out c a w _ _ h) (.inl ⟨by rfl, fun y hy => ?_⟩) hS0 ?_
 ·go_simp
 refine zaB [4, 7, 8, 9, 10, 11, 12, 13] (i := 3) (v := (.pointer (some ⟨B, 4, none⟩))) opsL_3 (by kernel_rfl) (by kernel_rfl) (by kernel_rfl) (by kernel_rfl) (fun c a w h => HPan.out c a w _ _ h) (.inl ⟨by rfl, fun y hy => ?_⟩) hS0 ?_
 ·go_simp
 refine zaB [7, 8, 9, 10, 11, 12, 13] (i := 4) (v := (.map (some mo))) opsL_4 (by kernel_rfl) (by kernel_rfl) (by kernel_rfl) (by kernel_rfl) (fun c a w h => HPan.out c a w _ _ h) (.inl ⟨by rfl, fun y hy => ?_⟩) hS0 ?_
 ·obtain ⟨y0, y1, y2⟩ := hy; go_simp
 refine zaB [6, 7, 8, 9, 10, 11, 12, 13] (i := 5) (v := (.pointer (some ⟨fb, 1, none⟩))) opsL_5 (by kernel_rfl) (by kernel_rfl) (by kernel_rfl) (by kernel_rfl) (fun c a w h => HPan.out c a w _ _ h) (.inl ⟨by rfl, fun y hy => ?_⟩) hS0 ?_
 ·go_simp
 refine zaB [7, 8, 9, 10, 11, 12, 13] (i := 6) (v := (.string s)) opsL_6 (by kernel_rfl) (by kernel_rfl) (by kernel_rfl) (by kernel_rfl) (fun c a w h => HPan.out c a w _ _ h) (.inl ⟨by rfl, fun y hy => ?_⟩) hS0 ?_
 ·obtain ⟨y0, y1, y2⟩ := hy; go_simp
 refine zaB [8, 9, 10, 11, 12, 13] (i := 7) (v := (.int .u8 o)) opsL_7 (by kernel_rfl) (by kernel_rfl) (by kernel_rfl) (by kernel_rfl) (fun c a w h => HPan.out c a w _ _ h) (.inl ⟨by rfl, fun y hy => ?_⟩) hS0 ?_
 ·obtain ⟨y0, y1, y2⟩ := hy; go_simp
 refine zaT (rs := [8]) (by kernel_rfl) (by simp) fun j8 hj8 => ?_
 obtain rfl : j8 = 8 := by simpa using hj8
 refine zaP opsL_8 rfl fun K1 hK1 => ?_
 unfold Oper.wp
 go_simp
 refine Calls.mono (HC.out V) ?_
 intro e W1 h1
 obtain ⟨rfl, rfl⟩ := h1
 refine hK1 _ _ ⟨fun _ => hS0, ?_⟩
 clear hK1 K1
 refine zaB [10, 11, 12, 13] (i := 9) (v := (.tuple #[.int .i64 q, .bool r])) opsL_9 (by kernel_rfl) (by kernel_rfl) (by kernel_rfl) (by kernel_rfl) (fun c a w h => HPan.out c a w _ _ h) (.inl ⟨by rfl, fun y hy => ?_⟩) hS0 ?_
 ·go_simp
 refine zaB [12, 13] (i := 10) (v := (.int .i64 q)) opsL_10 (by kernel_rfl) (by kernel_rfl) (by kernel_rfl) (by kernel_rfl) (fun c a w h => HPan.out c a w _ _ h) (.inl ⟨by rfl, fun y hy => ?_⟩) hS0 ?_
 ·go_simp
 refine zaT (rs := [11, 12]) (by kernel_rfl) (by simp) fun j11 hj11 => ?_
 simp only [List.mem_cons, List.not_mem_nil, or_false] at hj11
 rcases hj11 with rfl | rfl
 ·refine zaP opsL_11 rfl fun K1 hK1 => ?_
  unfold Oper.wp
  go_simp
  refine hK1 _ _ ⟨fun _ => hS0, ?_⟩
  clear hK1 K1
  refine zaT (rs := [12]) (by kernel_rfl) (by simp) fun j12 hj12 => ?_
  obtain rfl : j12 = 12 := by simpa using hj12
  refine zaP opsL_12 rfl fun K1 hK1 => ?_
  unfold Oper.wp
  go_simp
  refine hK1 _ _ ⟨fun _ => hS0, ?_⟩
  clear hK1 K1
  refine zbJ (by kernel_rfl) (by kernel_rfl) ?_ _
  refine zaP opsL_13 rfl fun K1 hK1 => ?_
  unfold Oper.wp
  go_simp
  refine hK1 _ _ ?_
  exact HQ.out _ _ _ _ _ _ _ _ _ _ _ _ _ _ rfl
 ·refine zaP opsL_12 rfl fun K1 hK1 => ?_
  unfold Oper.wp
  go_simp
  refine hK1 _ _ ⟨fun _ => hS0, ?_⟩
  clear hK1 K1
  refine zaT (rs := [11]) (by kernel_rfl) (by simp) fun j12 hj12 => ?_
  obtain rfl : j12 = 11 := by simpa using hj12
  refine zaP opsL_11 rfl fun K1 hK1 => ?_
  unfold Oper.wp
  go_simp
  refine hK1 _ _ ⟨fun _ => hS0, ?_⟩
  clear hK1 K1
  refine zbJ (by kernel_rfl) (by kernel_rfl) ?_ _
  refine zaP opsL_13 rfl fun K1 hK1 => ?_
  unfold Oper.wp
  go_simp
  refine hK1 _ _ ?_
  exact HQ.out _ _ _ _ _ _ _ _ _ _ _ _ _ _ rfl
end Go.Proofs.YtmekkhfohmfjkaaGreatDoor
