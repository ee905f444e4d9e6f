/-
  A message out of bytes, put behind others in whatever order.
-/
import Derived.Test.YtdfieflcclbgjaaZed
import Derived.Test.YtdfieflcclbgjaaMKeep
namespace Go.Proofs.Ytdfieflcclbgjaa
open Go.RowKit Go.Deep Go.MapKept
def opsD : Array Oper := #[{ dst := some 58, op := Go.Op.move (Go.Operand.tmp 5), type := 22, pos := "ref.go:152", after := #[], guard := none }, { dst := some 59, op := Go.Op.move (Go.Operand.tmp 0), type := 40, pos := "ref.go:152", after := #[], guard := none }, { dst := some 60, op := Go.Op.move (Go.Operand.tmp 6), type := 3, pos := "ref.go:152", after := #[], guard := none }, { dst := some 61, op := Go.Op.indexAddr 40 (Go.Operand.tmp 59) (Go.Operand.tmp 60), type := 0, pos := "ref.go:152", after := #[{ on := 1, ground := Go.Ground.data }, { on := 2, ground := Go.Ground.data }], guard := none }, { dst := some 62, op := Go.Op.load 5 (Go.Operand.tmp 61), type := 5, pos := "ref.go:152", after := #[{ on := 3, ground := Go.Ground.data }], guard := none }, { dst := some 63, op := Go.Op.convert 5 3 (Go.Operand.tmp 62), type := 3, pos := "ref.go:152", after := #[{ on := 4, ground := Go.Ground.data }], guard := none }, { dst := some 64, op := Go.Op.move (Go.Operand.tmp 0), type := 40, pos := "ref.go:152", after := #[], guard := none }, { dst := some 65, op := Go.Op.move (Go.Operand.tmp 6), type := 3, pos := "ref.go:152", after := #[], guard := none }, { dst := some 66, op := Go.Op.binOp Go.BinOp.add 3 (Go.Operand.tmp 65) (Go.Operand.const (Go.Value.int Go.IntKind.i64 1)) 3, type := 3, pos := "ref.go:152", after := #[{ on := 7, ground := Go.Ground.data }], guard := none }, { dst := some 67, op := Go.Op.indexAddr 40 (Go.Operand.tmp 64) (Go.Operand.tmp 66), type := 0, pos := "ref.go:152", after := #[{ on := 6, ground := Go.Ground.data }, { on := 8, ground := Go.Ground.data }], guard := none }, { dst := some 68, op := Go.Op.load 5 (Go.Operand.tmp 67), type := 5, pos := "ref.go:152", after := #[{ on := 9, ground := Go.Ground.data }], guard := none }, { dst := some 69, op := Go.Op.convert 5 3 (Go.Operand.tmp 68), type := 3, pos := "ref.go:152", after := #[{ on := 10, ground := Go.Ground.data }], guard := none }, { dst := some 70, op := Go.Op.load 78 (Go.Operand.tmp 7), type := 78, pos := "ref.go:152", after := #[], guard := none }, { dst := some 71, op := Go.Op.call { callee := Go.Callee.value (Go.Operand.func 52), args := #[Go.Operand.tmp 70], argTypes := #[78] }, type := 31, pos := "ref.go:152", after := #[{ on := 12, ground := Go.Ground.data }], guard := none }, { dst := some 72, op := Go.Op.build 48 #[(0, Go.Operand.tmp 63), (1, Go.Operand.tmp 69), (2, Go.Operand.tmp 71)], type := 48, pos := "ref.go:152", after := #[{ on := 5, ground := Go.Ground.data }, { on := 11, ground := Go.Ground.data }, { on := 13, ground := Go.Ground.data }], guard := none }, { dst := some 73, op := Go.Op.buildSlice 22 1 #[(0, Go.Operand.tmp 72)], type := 22, pos := "ref.go:152", after := #[{ on := 14, ground := Go.Ground.data }], guard := none }, { dst := some 74, op := Go.Op.call { callee := Go.Callee.builtin Go.Builtin.append, args := #[Go.Operand.tmp 58, Go.Operand.tmp 73], argTypes := #[22, 22] }, type := 22, pos := "ref.go:152", after := #[{ on := 0, ground := Go.Ground.data }, { on := 15, ground := Go.Ground.data }, { on := 13, ground := Go.Ground.chain }], guard := none }, { dst := some 5, op := Go.Op.assign (Go.Operand.tmp 74), type := 22, pos := "ref.go:152", after := #[{ on := 16, ground := Go.Ground.data }, { on := 16, ground := Go.Ground.chain }, { on := 0, ground := Go.Ground.phase }, { on := 1, ground := Go.Ground.phase }, { on := 2, ground := Go.Ground.phase }, { on := 3, ground := Go.Ground.phase }, { on := 4, ground := Go.Ground.phase }, { on := 5, ground := Go.Ground.phase }, { on := 6, ground := Go.Ground.phase }, { on := 7, ground := Go.Ground.phase }, { on := 8, ground := Go.Ground.phase }, { on := 9, ground := Go.Ground.phase }, { on := 10, ground := Go.Ground.phase }, { on := 11, ground := Go.Ground.phase }, { on := 12, ground := Go.Ground.phase }, { on := 13, ground := Go.Ground.phase }, { on := 14, ground := Go.Ground.phase }, { on := 15, ground := Go.Ground.phase }, { on := 16, ground := Go.Ground.phase }], guard := none }]
theorem opsD_0 : opsD[0]? = some { dst := some 58, op := Go.Op.move (Go.Operand.tmp 5), type := 22, pos := "ref.go:152", after := #[], guard := none } := by kernel_rfl
theorem opsD_1 : opsD[1]? = some { dst := some 59, op := Go.Op.move (Go.Operand.tmp 0), type := 40, pos := "ref.go:152", after := #[], guard := none } := by kernel_rfl
theorem opsD_2 : opsD[2]? = some { dst := some 60, op := Go.Op.move (Go.Operand.tmp 6), type := 3, pos := "ref.go:152", after := #[], guard := none } := by kernel_rfl
theorem opsD_3 : opsD[3]? = some { dst := some 61, op := Go.Op.indexAddr 40 (Go.Operand.tmp 59) (Go.Operand.tmp 60), type := 0, pos := "ref.go:152", after := #[{ on := 1, ground := Go.Ground.data }, { on := 2, ground := Go.Ground.data }], guard := none } := by kernel_rfl
theorem opsD_4 : opsD[4]? = some { dst := some 62, op := Go.Op.load 5 (Go.Operand.tmp 61), type := 5, pos := "ref.go:152", after := #[{ on := 3, ground := Go.Ground.data }], guard := none } := by kernel_rfl
theorem opsD_5 : opsD[5]? = some { dst := some 63, op := Go.Op.convert 5 3 (Go.Operand.tmp 62), type := 3, pos := "ref.go:152", after := #[{ on := 4, ground := Go.Ground.data }], guard := none } := by kernel_rfl
theorem opsD_6 : opsD[6]? = some { dst := some 64, op := Go.Op.move (Go.Operand.tmp 0), type := 40, pos := "ref.go:152", after := #[], guard := none } := by kernel_rfl
theorem opsD_7 : opsD[7]? = some { dst := some 65, op := Go.Op.move (Go.Operand.tmp 6), type := 3, pos := "ref.go:152", after := #[], guard := none } := by kernel_rfl
theorem opsD_8 : opsD[8]? = some { dst := some 66, op := Go.Op.binOp Go.BinOp.add 3 (Go.Operand.tmp 65) (Go.Operand.const (Go.Value.int Go.IntKind.i64 1)) 3, type := 3, pos := "ref.go:152", after := #[{ on := 7, ground := Go.Ground.data }], guard := none } := by kernel_rfl
theorem opsD_9 : opsD[9]? = some { dst := some 67, op := Go.Op.indexAddr 40 (Go.Operand.tmp 64) (Go.Operand.tmp 66), type := 0, pos := "ref.go:152", after := #[{ on := 6, ground := Go.Ground.data }, { on := 8, ground := Go.Ground.data }], guard := none } := by kernel_rfl
theorem opsD_10 : opsD[10]? = some { dst := some 68, op := Go.Op.load 5 (Go.Operand.tmp 67), type := 5, pos := "ref.go:152", after := #[{ on := 9, ground := Go.Ground.data }], guard := none } := by kernel_rfl
theorem opsD_11 : opsD[11]? = some { dst := some 69, op := Go.Op.convert 5 3 (Go.Operand.tmp 68), type := 3, pos := "ref.go:152", after := #[{ on := 10, ground := Go.Ground.data }], guard := none } := by kernel_rfl
theorem opsD_12 : opsD[12]? = some { dst := some 70, op := Go.Op.load 78 (Go.Operand.tmp 7), type := 78, pos := "ref.go:152", after := #[], guard := none } := by kernel_rfl
theorem opsD_13 : opsD[13]? = some { dst := some 71, op := Go.Op.call { callee := Go.Callee.value (Go.Operand.func 52), args := #[Go.Operand.tmp 70], argTypes := #[78] }, type := 31, pos := "ref.go:152", after := #[{ on := 12, ground := Go.Ground.data }], guard := none } := by kernel_rfl
theorem opsD_14 : opsD[14]? = some { dst := some 72, op := Go.Op.build 48 #[(0, Go.Operand.tmp 63), (1, Go.Operand.tmp 69), (2, Go.Operand.tmp 71)], type := 48, pos := "ref.go:152", after := #[{ on := 5, ground := Go.Ground.data }, { on := 11, ground := Go.Ground.data }, { on := 13, ground := Go.Ground.data }], guard := none } := by kernel_rfl
theorem opsD_15 : opsD[15]? = some { dst := some 73, op := Go.Op.buildSlice 22 1 #[(0, Go.Operand.tmp 72)], type := 22, pos := "ref.go:152", after := #[{ on := 14, ground := Go.Ground.data }], guard := none } := by kernel_rfl
theorem opsD_16 : opsD[16]? = some { dst := some 74, op := Go.Op.call { callee := Go.Callee.builtin Go.Builtin.append, args := #[Go.Operand.tmp 58, Go.Operand.tmp 73], argTypes := #[22, 22] }, type := 22, pos := "ref.go:152", after := #[{ on := 0, ground := Go.Ground.data }, { on := 15, ground := Go.Ground.data }, { on := 13, ground := Go.Ground.chain }], guard := none } := by kernel_rfl
theorem opsD_17 : opsD[17]? = some { dst := some 5, op := Go.Op.assign (Go.Operand.tmp 74), type := 22, pos := "ref.go:152", after := #[{ on := 16, ground := Go.Ground.data }, { on := 16, ground := Go.Ground.chain }, { on := 0, ground := Go.Ground.phase }, { on := 1, ground := Go.Ground.phase }, { on := 2, ground := Go.Ground.phase }, { on := 3, ground := Go.Ground.phase }, { on := 4, ground := Go.Ground.phase }, { on := 5, ground := Go.Ground.phase }, { on := 6, ground := Go.Ground.phase }, { on := 7, ground := Go.Ground.phase }, { on := 8, ground := Go.Ground.phase }, { on := 9, ground := Go.Ground.phase }, { on := 10, ground := Go.Ground.phase }, { on := 11, ground := Go.Ground.phase }, { on := 12, ground := Go.Ground.phase }, { on := 13, ground := Go.Ground.phase }, { on := 14, ground := Go.Ground.phase }, { on := 15, ground := Go.Ground.phase }, { on := 16, ground := Go.Ground.phase }], guard := none } := by kernel_rfl
set_option maxRecDepth 100000 in
set_option maxHeartbeats 1500000 in
theorem regD {x1 x2 x3 x4 x8 x9 x10 x11 x12 x13 x14 x15 x16 x17 x18 x19 x20 x21 x22 x23 x24 x25 x26 x27 x28 x29 x30 x31 x32 x33 x34 x35 x36 x37 x38 x39 x40 x41 x42 x43 x44 x45 x46 x47 x48 x49 x50 x51 x52 x53 x54 x55 x56 x57 x58 x59 x60 x61 x62 x63 x64 x65 x66 x67 x68 x69 x70 x71 x72 x73 x74 x75 : Value} {Q : Exit → Act → World → Prop} {V0 : World} {b off m cap i n B wb : Nat} {rv : Value} {p q b0 b1 b2 b3 b4 b5 b6 b7 J : Int} {cs : List Value}
    (hS0 : V0.drew.cell? ⟨b, off + i, none⟩ = some (.int .u8 p) ∧ V0.drew.cell? ⟨b, off + (i + 1), none⟩ = some (.int .u8 q) ∧ V0.drew.cell? ⟨wb, 0, none⟩ = some (.int .u8 b0) ∧ V0.drew.cell? ⟨wb, 1, none⟩ = some (.int .u8 b1) ∧ V0.drew.cell? ⟨wb, 2, none⟩ = some (.int .u8 b2) ∧ V0.drew.cell? ⟨wb, 3, none⟩ = some (.int .u8 b3) ∧ V0.drew.cell? ⟨wb, 4, none⟩ = some (.int .u8 b4) ∧ V0.drew.cell? ⟨wb, 5, none⟩ = some (.int .u8 b5) ∧ V0.drew.cell? ⟨wb, 6, none⟩ = some (.int .u8 b6) ∧ V0.drew.cell? ⟨wb, 7, none⟩ = some (.int .u8 b7)) (him : i + 1 < m) (hm : m ≤ 1000) (hbB : b < B) (hBV : B ≤ V0.drew.heap.size) (hrv : V0.drew.ownsRow B 48 3 rv n cs) (hne : rv.ownBlock ≠ some wb) (hn : n ≤ 10000) (hp : 0 ≤ p ∧ p ≤ 255) (hq : 0 ≤ q ∧ q ≤ 255)
    (hC : ∀ W, Calls Try.prog 52 #[.agg #[.int .u8 b0, .int .u8 b1, .int .u8 b2, .int .u8 b3, .int .u8 b4, .int .u8 b5, .int .u8 b6, .int .u8 b7]] W fun e w' => e = .returned (.int .i64 J) ∧ Below W.heap.size W w')
    (hpan : ∀ c (a : Act) w (dd : Tmp) vv, Q (.panic c) (a.put (some dd) vv) w → Q (.panic c) a w)
    (hQ : ∀ (W : World) (v9 t58 t59 t60 t61 t62 t63 t64 t65 t66 t67 t68 t69 t70 t71 t72 t73 t74 : Value), W.ownsRow B 48 3 v9 (n + 1) (cs ++ Msg.cells ⟨p, q, J⟩) → Below B V0.drew W → Q .normal { tmps := #[.slice (some ⟨b, off, none⟩) m cap, x1, x2, x3, x4, v9, .int .i64 i, .pointer (some ⟨wb, 0, none⟩), x8, x9, x10, x11, x12, x13, x14, x15, x16, x17, x18, x19, x20, x21, x22, x23, x24, x25, x26, x27, x28, x29, x30, x31, x32, x33, x34, x35, x36, x37, x38, x39, x40, x41, x42, x43, x44, x45, x46, x47, x48, x49, x50, x51, x52, x53, x54, x55, x56, x57, t58, t59, t60, t61, t62, t63, t64, t65, t66, t67, t68, t69, t70, t71, t72, t73, t74, x75], defers := [] } W) :
    (Code.region 16 opsD true).wp Try.prog Q { tmps := #[.slice (some ⟨b, off, none⟩) m cap, x1, x2, x3, x4, rv, .int .i64 i, .pointer (some ⟨wb, 0, none⟩), x8, x9, x10, x11, x12, x13, x14, x15, x16, x17, x18, x19, x20, x21, x22, x23, x24, x25, x26, x27, x28, x29, x30, x31, x32, x33, x34, x35, x36, x37, x38, x39, x40, x41, x42, x43, x44, x45, x46, x47, x48, x49, x50, x51, x52, x53, x54, x55, x56, x57, x58, x59, x60, x61, x62, x63, x64, x65, x66, x67, x68, x69, x70, x71, x72, x73, x74, x75], defers := [] } V0 := by
  refine wp_region_Z (fun y => y.cell? ⟨b, off + i, none⟩ = some (.int .u8 p) ∧ y.cell? ⟨b, off + (i + 1), none⟩ = some (.int .u8 q) ∧ y.cell? ⟨wb, 0, none⟩ = some (.int .u8 b0) ∧ y.cell? ⟨wb, 1, none⟩ = some (.int .u8 b1) ∧ y.cell? ⟨wb, 2, none⟩ = some (.int .u8 b2) ∧ y.cell? ⟨wb, 3, none⟩ = some (.int .u8 b3) ∧ y.cell? ⟨wb, 4, none⟩ = some (.int .u8 b4) ∧ y.cell? ⟨wb, 5, none⟩ = some (.int .u8 b5) ∧ y.cell? ⟨wb, 6, none⟩ = some (.int .u8 b6) ∧ y.cell? ⟨wb, 7, none⟩ = some (.int .u8 b7)) 17 Try.mixed ?_
  obtain ⟨V, hV⟩ : ∃ V, V0.drew = V := ⟨_, rfl⟩
  rw [hV] at hS0 hBV hrv hQ ⊢
  clear hV
  have HQ := hidI hQ
  have HPan := hidI hpan
  have HRV := hidI hrv
  have HC := hidI hC
  have HNE := hidI hne
  have kim : (i : Int) < (m : Int) := by omega
  have kim1 : (i : Int) + 1 < (m : Int) := by omega
  have ki0 : (0 : Int) ≤ (i : Int) + 1 := by omega
  have kit : ((i : Int) + 1).toNat = i + 1 := by omega
  have ki9 : (i : Int) ≤ 1000 := by omega
  have wp0 : IntKind.i64.wrap p = p := by rw [IntKind.wrap_i64]; omega
  have wq0 : IntKind.i64.wrap q = q := by rw [IntKind.wrap_i64]; omega
  clear hQ hpan hrv hC hne
  refine wpZ_take [17] (i := 0) (v := rv) opsD_0 (by kernel_rfl) (by kernel_rfl) (by kernel_rfl) (by kernel_rfl) (fun c a w h => HPan.out c a w _ _ h) (.inl ⟨by rfl, fun y hy => ?_⟩) hS0 ?_
  · go_simp
  refine wpZ_take [17] (i := 1) (v := (.slice (some ⟨b, off, none⟩) m cap)) opsD_1 (by kernel_rfl) (by kernel_rfl) (by kernel_rfl) (by kernel_rfl) (fun c a w h => HPan.out c a w _ _ h) (.inl ⟨by rfl, fun y hy => ?_⟩) hS0 ?_
  · go_simp
  refine wpZ_take [17] (i := 2) (v := (.int .i64 i)) opsD_2 (by kernel_rfl) (by kernel_rfl) (by kernel_rfl) (by kernel_rfl) (fun c a w h => HPan.out c a w _ _ h) (.inl ⟨by rfl, fun y hy => ?_⟩) hS0 ?_
  · go_simp
  refine wpZ_take [17] (i := 3) (v := (.pointer (some ⟨b, off + i, none⟩))) opsD_3 (by kernel_rfl) (by kernel_rfl) (by kernel_rfl) (by kernel_rfl) (fun c a w h => HPan.out c a w _ _ h) (.inl ⟨by rfl, fun y hy => ?_⟩) hS0 ?_
  · go_simp
  refine wpZ_take [17] (i := 4) (v := (.int .u8 p)) opsD_4 (by kernel_rfl) (by kernel_rfl) (by kernel_rfl) (by kernel_rfl) (fun c a w h => HPan.out c a w _ _ h) (.inl ⟨by rfl, fun y hy => ?_⟩) hS0 ?_
  · obtain ⟨y0, y1, z0, z1, z2, z3, z4, z5, z6, z7⟩ := hy; go_simp
  refine wpZ_take [17] (i := 5) (v := (.int .i64 p)) opsD_5 (by kernel_rfl) (by kernel_rfl) (by kernel_rfl) (by kernel_rfl) (fun c a w h => HPan.out c a w _ _ h) (.inl ⟨by rfl, fun y hy => ?_⟩) hS0 ?_
  · go_simp
  refine wpZ_take [17] (i := 6) (v := (.slice (some ⟨b, off, none⟩) m cap)) opsD_6 (by kernel_rfl) (by kernel_rfl) (by kernel_rfl) (by kernel_rfl) (fun c a w h => HPan.out c a w _ _ h) (.inl ⟨by rfl, fun y hy => ?_⟩) hS0 ?_
  · go_simp
  refine wpZ_take [17] (i := 7) (v := (.int .i64 i)) opsD_7 (by kernel_rfl) (by kernel_rfl) (by kernel_rfl) (by kernel_rfl) (fun c a w h => HPan.out c a w _ _ h) (.inl ⟨by rfl, fun y hy => ?_⟩) hS0 ?_
  · go_simp
  refine wpZ_take [17] (i := 8) (v := (.int .i64 ((i : Int) + 1))) opsD_8 (by kernel_rfl) (by kernel_rfl) (by kernel_rfl) (by kernel_rfl) (fun c a w h => HPan.out c a w _ _ h) (.inl ⟨by rfl, fun y hy => ?_⟩) hS0 ?_
  · go_simp; rw [IntKind.wrap_i64]; omega
  refine wpZ_take [17] (i := 9) (v := (.pointer (some ⟨b, off + (i + 1), none⟩))) opsD_9 (by kernel_rfl) (by kernel_rfl) (by kernel_rfl) (by kernel_rfl) (fun c a w h => HPan.out c a w _ _ h) (.inl ⟨by rfl, fun y hy => ?_⟩) hS0 ?_
  · go_simp
  refine wpZ_take [17] (i := 10) (v := (.int .u8 q)) opsD_10 (by kernel_rfl) (by kernel_rfl) (by kernel_rfl) (by kernel_rfl) (fun c a w h => HPan.out c a w _ _ h) (.inl ⟨by rfl, fun y hy => ?_⟩) hS0 ?_
  · obtain ⟨y0, y1, z0, z1, z2, z3, z4, z5, z6, z7⟩ := hy; go_simp
  refine wpZ_take [17] (i := 11) (v := (.int .i64 q)) opsD_11 (by kernel_rfl) (by kernel_rfl) (by kernel_rfl) (by kernel_rfl) (fun c a w h => HPan.out c a w _ _ h) (.inl ⟨by rfl, fun y hy => ?_⟩) hS0 ?_
  · go_simp
  refine wpZ_take [17] (i := 12) (v := (.agg #[.int .u8 b0, .int .u8 b1, .int .u8 b2, .int .u8 b3, .int .u8 b4, .int .u8 b5, .int .u8 b6, .int .u8 b7])) opsD_12 (by kernel_rfl) (by kernel_rfl) (by kernel_rfl) (by kernel_rfl) (fun c a w h => HPan.out c a w _ _ h) (.inl ⟨by rfl, fun y hy => ?_⟩) hS0 ?_
  · obtain ⟨y0, y1, z0, z1, z2, z3, z4, z5, z6, z7⟩ := hy; go_simp
  have HKS : Hid (∀ y : World, Below V.heap.size V y → y.cell? ⟨b, off + i, none⟩ = some (.int .u8 p) ∧ y.cell? ⟨b, off + (i + 1), none⟩ = some (.int .u8 q) ∧ y.cell? ⟨wb, 0, none⟩ = some (.int .u8 b0) ∧ y.cell? ⟨wb, 1, none⟩ = some (.int .u8 b1) ∧ y.cell? ⟨wb, 2, none⟩ = some (.int .u8 b2) ∧ y.cell? ⟨wb, 3, none⟩ = some (.int .u8 b3) ∧ y.cell? ⟨wb, 4, none⟩ = some (.int .u8 b4) ∧ y.cell? ⟨wb, 5, none⟩ = some (.int .u8 b5) ∧ y.cell? ⟨wb, 6, none⟩ = some (.int .u8 b6) ∧ y.cell? ⟨wb, 7, none⟩ = some (.int .u8 b7)) := hidI fun y hy => by
    have z : ∀ {p : Addr} {v : Value}, V.cell? p = some v → y.cell? p = some v := fun {p v} hc => (hy.cell (World.block_lt_of_cell? V _ hc)).trans hc
    obtain ⟨y0, y1, z0, z1, z2, z3, z4, z5, z6, z7⟩ := hS0
    exact ⟨z y0, z y1, z z0, z z1, z z2, z z3, z z4, z z5, z z6, z z7⟩
  refine wpZ_all (rs := [13]) (by kernel_rfl) (by simp) fun j13 hj13 => ?_
  obtain rfl : j13 = 13 := by simpa using hj13
  refine wpOp_go opsD_13 rfl fun K1 hK1 => ?_
  unfold Oper.wp
  go_simp
  refine Calls.mono (HC.out V) ?_
  rintro e W1 ⟨rfl, hb1⟩
  have HB1 := hidI hb1
  have hS1 := HKS.out W1 hb1
  have HO1 : Hid (W1.ownsRow B 48 3 rv n cs) := hidI (own_below HRV.out hb1 (Nat.le_refl _))
  clear hb1
  refine hK1 _ _ ⟨fun _ => hS1, ?_⟩
  clear hK1 K1
  refine wpZ_all (rs := [14]) (by kernel_rfl) (by simp) fun j14 hj14 => ?_
  obtain rfl : j14 = 14 := by simpa using hj14
  refine wpOp_go opsD_14 rfl fun K1 hK1 => ?_
  unfold Oper.wp
  go_simp
  refine hK1 _ _ ⟨fun _ => hS1, ?_⟩
  clear hK1 K1
  refine wpZ_all (rs := [15]) (by kernel_rfl) (by simp) fun j15 hj15 => ?_
  obtain rfl : j15 = 15 := by simpa using hj15
  refine wpOp_go opsD_15 rfl fun K1 hK1 => ?_
  unfold Oper.wp
  go_simp
  have HB2 : Hid (Below V.heap.size V (W1.alloc (Obj.cells #[.int .i64 p, .int .i64 q, .int .i64 J] 48))) := hidI (HB1.out.alloc HB1.out.size _)
  have HO2 : Hid ((W1.alloc (Obj.cells #[.int .i64 p, .int .i64 q, .int .i64 J] 48)).ownsRow B 48 3 rv n cs) := hidI (World.ownsRow.alloc HO1.out _)
  have HX : Hid (SeesC (W1.alloc (Obj.cells #[.int .i64 p, .int .i64 q, .int .i64 J] 48)) (.slice (some ⟨W1.heap.size, 0, none⟩) 1 1) 1 3 (Msg.cells ⟨p, q, J⟩)) := hidI (msg_seen (W := W1) ⟨p, q, J⟩)
  refine hK1 _ _ ⟨fun _ => HKS.out _ HB2.out, ?_⟩
  clear hK1 K1
  refine wpZ_all (rs := [16]) (by kernel_rfl) (by simp) fun j16 hj16 => ?_
  obtain rfl : j16 = 16 := by simpa using hj16
  refine wpOp_go opsD_16 rfl fun K1 hK1 => ?_
  refine wp_append_any Try.underlying22 Try.info48 rfl (by decide) (by decide) _ _ rfl B rv n cs rfl HO2.out _ 1 (Msg.cells ⟨p, q, J⟩) rfl HX.out (cells_one _) (by omega) (by have := HB2.out.size; omega) ?_
  intro vA W3 hown3 hgrow3 hat3
  have HO3 := hidI hown3
  have hS2 := HKS.out _ HB2.out
  have hS3 : W3.cell? ⟨b, off + i, none⟩ = some (.int .u8 p) ∧ W3.cell? ⟨b, off + (i + 1), none⟩ = some (.int .u8 q) ∧ W3.cell? ⟨wb, 0, none⟩ = some (.int .u8 b0) ∧ W3.cell? ⟨wb, 1, none⟩ = some (.int .u8 b1) ∧ W3.cell? ⟨wb, 2, none⟩ = some (.int .u8 b2) ∧ W3.cell? ⟨wb, 3, none⟩ = some (.int .u8 b3) ∧ W3.cell? ⟨wb, 4, none⟩ = some (.int .u8 b4) ∧ W3.cell? ⟨wb, 5, none⟩ = some (.int .u8 b5) ∧ W3.cell? ⟨wb, 6, none⟩ = some (.int .u8 b6) ∧ W3.cell? ⟨wb, 7, none⟩ = some (.int .u8 b7) := by
    have z : ∀ {pp : Addr} {v : Value}, (W1.alloc (Obj.cells #[.int .i64 p, .int .i64 q, .int .i64 J] 48)).cell? pp = some v → (rv.ownBlock ≠ some pp.block) → W3.cell? pp = some v := fun {pp v} hc hn => hgrow3.cell hc (fun e => hn e.symm)
    have hbn : rv.ownBlock ≠ some b := fun e => by have := (HO2.out.lt b e).1; omega
    obtain ⟨y0, y1, z0, z1, z2, z3, z4, z5, z6, z7⟩ := hS2
    exact ⟨z y0 hbn, z y1 hbn, z z0 HNE.out, z z1 HNE.out, z z2 HNE.out, z z3 HNE.out, z z4 HNE.out, z z5 HNE.out, z z6 HNE.out, z z7 HNE.out⟩
  have HB3 : Hid (Below B V W3) := hidI (Below.grown (w := W1.alloc (Obj.cells #[.int .i64 p, .int .i64 q, .int .i64 J] 48)) (HB2.out.mono hBV) hgrow3 (by have := HB2.out.size; omega) (fun k hk => (HO2.out.lt k hk).1))
  refine hK1 _ _ ⟨fun _ => hS3, ?_⟩
  clear hK1 K1 hown3 hgrow3 hat3
  refine wpZ_last (by kernel_rfl) (by kernel_rfl) ?_ _
  refine wpOp_go opsD_17 rfl fun K1 hK1 => ?_
  unfold Oper.wp
  go_simp
  refine hK1 _ _ ?_
  exact HQ.out _ _ _ _ _ _ _ _ _ _ _ _ _ _ _ _ _ _ _ HO3.out HB3.out
end Go.Proofs.Ytdfieflcclbgjaa
