/-
  The bytes of a node and a tag, put behind others in whatever order.
-/
import Derived.Test.YtdfieflcclbgjaaZed
import Derived.Test.YtdfieflcclbgjaaMKeep
namespace Go.Proofs.Ytdfieflcclbgjaa
open Go.RowKit Go.Deep Go.MapKept
def opsE : Array Oper := #[{ dst := some 57, op := Go.Op.move (Go.Operand.tmp 5), type := 40, pos := "ref.go:128", after := #[], guard := none }, { dst := some 58, op := Go.Op.move (Go.Operand.tmp 0), type := 22, pos := "ref.go:128", after := #[], guard := none }, { dst := some 59, op := Go.Op.move (Go.Operand.tmp 6), type := 3, pos := "ref.go:128", after := #[], guard := none }, { dst := some 60, op := Go.Op.indexAddr 22 (Go.Operand.tmp 58) (Go.Operand.tmp 59), type := 0, pos := "ref.go:128", after := #[{ on := 1, ground := Go.Ground.data }, { on := 2, ground := Go.Ground.data }], guard := none }, { dst := some 61, op := Go.Op.fieldAddr 48 (Go.Operand.tmp 60) 0, type := 0, pos := "ref.go:128", after := #[{ on := 3, ground := Go.Ground.data }], guard := none }, { dst := some 62, op := Go.Op.load 3 (Go.Operand.tmp 61), type := 3, pos := "ref.go:128", after := #[{ on := 4, ground := Go.Ground.data }], guard := none }, { dst := some 63, op := Go.Op.convert 3 5 (Go.Operand.tmp 62), type := 5, pos := "ref.go:128", after := #[{ on := 5, ground := Go.Ground.data }], guard := none }, { dst := some 64, op := Go.Op.move (Go.Operand.tmp 0), type := 22, pos := "ref.go:128", after := #[], guard := none }, { dst := some 65, op := Go.Op.move (Go.Operand.tmp 6), type := 3, pos := "ref.go:128", after := #[], guard := none }, { dst := some 66, op := Go.Op.indexAddr 22 (Go.Operand.tmp 64) (Go.Operand.tmp 65), type := 0, pos := "ref.go:128", after := #[{ on := 7, ground := Go.Ground.data }, { on := 8, ground := Go.Ground.data }], guard := none }, { dst := some 67, op := Go.Op.fieldAddr 48 (Go.Operand.tmp 66) 1, type := 0, pos := "ref.go:128", after := #[{ on := 9, ground := Go.Ground.data }], guard := none }, { dst := some 68, op := Go.Op.load 3 (Go.Operand.tmp 67), type := 3, pos := "ref.go:128", after := #[{ on := 10, ground := Go.Ground.data }], guard := none }, { dst := some 69, op := Go.Op.convert 3 5 (Go.Operand.tmp 68), type := 5, pos := "ref.go:128", after := #[{ on := 11, ground := Go.Ground.data }], guard := none }, { dst := some 70, op := Go.Op.buildSlice 40 2 #[(0, Go.Operand.tmp 63), (1, Go.Operand.tmp 69)], type := 40, pos := "ref.go:128", after := #[{ on := 6, ground := Go.Ground.data }, { on := 12, ground := Go.Ground.data }], guard := none }, { dst := some 71, op := Go.Op.call { callee := Go.Callee.builtin Go.Builtin.append, args := #[Go.Operand.tmp 57, Go.Operand.tmp 70], argTypes := #[40, 40] }, type := 40, pos := "ref.go:128", after := #[{ on := 0, ground := Go.Ground.data }, { on := 13, ground := Go.Ground.data }], guard := none }, { dst := some 5, op := Go.Op.assign (Go.Operand.tmp 71), type := 40, pos := "ref.go:128", after := #[{ on := 14, ground := Go.Ground.data }, { on := 14, ground := Go.Ground.chain }, { on := 0, ground := Go.Ground.phase }, { on := 1, ground := Go.Ground.phase }, { on := 2, ground := Go.Ground.phase }, { on := 3, ground := Go.Ground.phase }, { on := 4, ground := Go.Ground.phase }, { on := 5, ground := Go.Ground.phase }, { on := 6, ground := Go.Ground.phase }, { on := 7, ground := Go.Ground.phase }, { on := 8, ground := Go.Ground.phase }, { on := 9, ground := Go.Ground.phase }, { on := 10, ground := Go.Ground.phase }, { on := 11, ground := Go.Ground.phase }, { on := 12, ground := Go.Ground.phase }, { on := 13, ground := Go.Ground.phase }, { on := 14, ground := Go.Ground.phase }], guard := none }]
theorem opsE_0 : opsE[0]? = some { dst := some 57, op := Go.Op.move (Go.Operand.tmp 5), type := 40, pos := "ref.go:128", after := #[], guard := none } := by kernel_rfl
theorem opsE_1 : opsE[1]? = some { dst := some 58, op := Go.Op.move (Go.Operand.tmp 0), type := 22, pos := "ref.go:128", after := #[], guard := none } := by kernel_rfl
theorem opsE_2 : opsE[2]? = some { dst := some 59, op := Go.Op.move (Go.Operand.tmp 6), type := 3, pos := "ref.go:128", after := #[], guard := none } := by kernel_rfl
theorem opsE_3 : opsE[3]? = some { dst := some 60, op := Go.Op.indexAddr 22 (Go.Operand.tmp 58) (Go.Operand.tmp 59), type := 0, pos := "ref.go:128", after := #[{ on := 1, ground := Go.Ground.data }, { on := 2, ground := Go.Ground.data }], guard := none } := by kernel_rfl
theorem opsE_4 : opsE[4]? = some { dst := some 61, op := Go.Op.fieldAddr 48 (Go.Operand.tmp 60) 0, type := 0, pos := "ref.go:128", after := #[{ on := 3, ground := Go.Ground.data }], guard := none } := by kernel_rfl
theorem opsE_5 : opsE[5]? = some { dst := some 62, op := Go.Op.load 3 (Go.Operand.tmp 61), type := 3, pos := "ref.go:128", after := #[{ on := 4, ground := Go.Ground.data }], guard := none } := by kernel_rfl
theorem opsE_6 : opsE[6]? = some { dst := some 63, op := Go.Op.convert 3 5 (Go.Operand.tmp 62), type := 5, pos := "ref.go:128", after := #[{ on := 5, ground := Go.Ground.data }], guard := none } := by kernel_rfl
theorem opsE_7 : opsE[7]? = some { dst := some 64, op := Go.Op.move (Go.Operand.tmp 0), type := 22, pos := "ref.go:128", after := #[], guard := none } := by kernel_rfl
theorem opsE_8 : opsE[8]? = some { dst := some 65, op := Go.Op.move (Go.Operand.tmp 6), type := 3, pos := "ref.go:128", after := #[], guard := none } := by kernel_rfl
theorem opsE_9 : opsE[9]? = some { dst := some 66, op := Go.Op.indexAddr 22 (Go.Operand.tmp 64) (Go.Operand.tmp 65), type := 0, pos := "ref.go:128", after := #[{ on := 7, ground := Go.Ground.data }, { on := 8, ground := Go.Ground.data }], guard := none } := by kernel_rfl
theorem opsE_10 : opsE[10]? = some { dst := some 67, op := Go.Op.fieldAddr 48 (Go.Operand.tmp 66) 1, type := 0, pos := "ref.go:128", after := #[{ on := 9, ground := Go.Ground.data }], guard := none } := by kernel_rfl
theorem opsE_11 : opsE[11]? = some { dst := some 68, op := Go.Op.load 3 (Go.Operand.tmp 67), type := 3, pos := "ref.go:128", after := #[{ on := 10, ground := Go.Ground.data }], guard := none } := by kernel_rfl
theorem opsE_12 : opsE[12]? = some { dst := some 69, op := Go.Op.convert 3 5 (Go.Operand.tmp 68), type := 5, pos := "ref.go:128", after := #[{ on := 11, ground := Go.Ground.data }], guard := none } := by kernel_rfl
theorem opsE_13 : opsE[13]? = some { dst := some 70, op := Go.Op.buildSlice 40 2 #[(0, Go.Operand.tmp 63), (1, Go.Operand.tmp 69)], type := 40, pos := "ref.go:128", after := #[{ on := 6, ground := Go.Ground.data }, { on := 12, ground := Go.Ground.data }], guard := none } := by kernel_rfl
theorem opsE_14 : opsE[14]? = some { dst := some 71, op := Go.Op.call { callee := Go.Callee.builtin Go.Builtin.append, args := #[Go.Operand.tmp 57, Go.Operand.tmp 70], argTypes := #[40, 40] }, type := 40, pos := "ref.go:128", after := #[{ on := 0, ground := Go.Ground.data }, { on := 13, ground := Go.Ground.data }], guard := none } := by kernel_rfl
theorem opsE_15 : opsE[15]? = some { dst := some 5, op := Go.Op.assign (Go.Operand.tmp 71), type := 40, pos := "ref.go:128", after := #[{ on := 14, ground := Go.Ground.data }, { on := 14, ground := Go.Ground.chain }, { on := 0, ground := Go.Ground.phase }, { on := 1, ground := Go.Ground.phase }, { on := 2, ground := Go.Ground.phase }, { on := 3, ground := Go.Ground.phase }, { on := 4, ground := Go.Ground.phase }, { on := 5, ground := Go.Ground.phase }, { on := 6, ground := Go.Ground.phase }, { on := 7, ground := Go.Ground.phase }, { on := 8, ground := Go.Ground.phase }, { on := 9, ground := Go.Ground.phase }, { on := 10, ground := Go.Ground.phase }, { on := 11, ground := Go.Ground.phase }, { on := 12, ground := Go.Ground.phase }, { on := 13, ground := Go.Ground.phase }, { on := 14, ground := Go.Ground.phase }], guard := none } := by kernel_rfl
set_option maxRecDepth 100000 in
set_option maxHeartbeats 1500000 in
theorem regE {x1 x2 x3 x4 x7 x8 x9 x10 x11 x12 x13 x14 x15 x16 x17 x18 x19 x20 x21 x22 x23 x24 x25 x26 x27 x28 x29 x30 x31 x32 x33 x34 x35 x36 x37 x38 x39 x40 x41 x42 x43 x44 x45 x46 x47 x48 x49 x50 x51 x52 x53 x54 x55 x56 x57 x58 x59 x60 x61 x62 x63 x64 x65 x66 x67 x68 x69 x70 x71 x72 x73 x74 x75 x76 x77 x78 x79 x80 x81 x82 : Value} {Q : Exit → Act → World → Prop} {V0 : World} {b off m cap i n B : Nat} {rv : Value} {x : Msg} {cs : List Value}
    (hS0 : V0.drew.cell? ⟨b, off + i * 3, none⟩ = some (.int .i64 x.to) ∧ V0.drew.cell? ⟨b, off + i * 3 + 1, none⟩ = some (.int .i64 x.tag)) (him : i < m) (hbB : b < B) (hBV : B ≤ V0.drew.heap.size) (hrv : V0.drew.ownsRow B 5 1 rv n cs) (hn : n ≤ 10000) (hw0 : IntKind.u8.wrap x.to = x.to) (hw1 : IntKind.u8.wrap x.tag = x.tag)
    (hpan : ∀ c (a : Act) w (dd : Tmp) vv, Q (.panic c) (a.put (some dd) vv) w → Q (.panic c) a w)
    (hQ : ∀ (W : World) (v9 t57 t58 t59 t60 t61 t62 t63 t64 t65 t66 t67 t68 t69 t70 t71 : Value), W.ownsRow B 5 1 v9 (n + 2) (cs ++ cellsB [x.to, x.tag]) → (V0.drew.alloc (Obj.cells #[.int .u8 x.to, .int .u8 x.tag] 5)).grownBy W rv.ownBlock → Q .normal { tmps := #[.slice (some ⟨b, off, none⟩) m cap, x1, x2, x3, x4, v9, .int .i64 i, x7, x8, x9, x10, x11, x12, x13, x14, x15, x16, x17, x18, x19, x20, x21, x22, x23, x24, x25, x26, x27, x28, x29, x30, x31, x32, x33, x34, x35, x36, x37, x38, x39, x40, x41, x42, x43, x44, x45, x46, x47, x48, x49, x50, x51, x52, x53, x54, x55, x56, t57, t58, t59, t60, t61, t62, t63, t64, t65, t66, t67, t68, t69, t70, t71, x72, x73, x74, x75, x76, x77, x78, x79, x80, x81, x82], defers := [] } W) :
    (Code.region 11 opsE true).wp Try.prog Q { tmps := #[.slice (some ⟨b, off, none⟩) m cap, x1, x2, x3, x4, rv, .int .i64 i, x7, x8, x9, x10, x11, x12, x13, x14, x15, x16, x17, x18, x19, x20, x21, x22, x23, x24, x25, x26, x27, x28, x29, x30, x31, x32, x33, x34, x35, x36, x37, x38, x39, x40, x41, x42, x43, x44, x45, x46, x47, x48, x49, x50, x51, x52, x53, x54, x55, x56, x57, x58, x59, x60, x61, x62, x63, x64, x65, x66, x67, x68, x69, x70, x71, x72, x73, x74, x75, x76, x77, x78, x79, x80, x81, x82], defers := [] } V0 := by
  refine wp_region_Z (fun y => y.cell? ⟨b, off + i * 3, none⟩ = some (.int .i64 x.to) ∧ y.cell? ⟨b, off + i * 3 + 1, none⟩ = some (.int .i64 x.tag)) 15 Try.mixed ?_
  obtain ⟨V, hV⟩ : ∃ V, V0.drew = V := ⟨_, rfl⟩
  rw [hV] at hS0 hBV hrv hQ ⊢
  clear hV
  have HQ := hidI hQ
  have HPan := hidI hpan
  have HRV := hidI hrv
  have kim : (i : Int) < (m : Int) := by omega
  have HX : Hid (SeesC (V.alloc (Obj.cells #[.int .u8 x.to, .int .u8 x.tag] 5)) (.slice (some ⟨V.heap.size, 0, none⟩) 2 2) 2 1 (cellsB [x.to, x.tag])) := hidI (sees_built V [x.to, x.tag])
  have HOA : Hid ((V.alloc (Obj.cells #[.int .u8 x.to, .int .u8 x.tag] 5)).ownsRow B 5 1 rv n cs) := hidI (World.ownsRow.alloc hrv _)
  clear hQ hpan hrv
  refine wpZ_take [15] (i := 0) (v := rv) opsE_0 (by kernel_rfl) (by kernel_rfl) (by kernel_rfl) (by kernel_rfl) (fun c a w h => HPan.out c a w _ _ h) (.inl ⟨by rfl, fun y hy => ?_⟩) hS0 ?_
  · go_simp
  refine wpZ_take [15] (i := 1) (v := (.slice (some ⟨b, off, none⟩) m cap)) opsE_1 (by kernel_rfl) (by kernel_rfl) (by kernel_rfl) (by kernel_rfl) (fun c a w h => HPan.out c a w _ _ h) (.inl ⟨by rfl, fun y hy => ?_⟩) hS0 ?_
  · go_simp
  refine wpZ_take [15] (i := 2) (v := (.int .i64 i)) opsE_2 (by kernel_rfl) (by kernel_rfl) (by kernel_rfl) (by kernel_rfl) (fun c a w h => HPan.out c a w _ _ h) (.inl ⟨by rfl, fun y hy => ?_⟩) hS0 ?_
  · go_simp
  refine wpZ_take [15] (i := 3) (v := (.pointer (some ⟨b, off + i * 3, none⟩))) opsE_3 (by kernel_rfl) (by kernel_rfl) (by kernel_rfl) (by kernel_rfl) (fun c a w h => HPan.out c a w _ _ h) (.inl ⟨by rfl, fun y hy => ?_⟩) hS0 ?_
  · go_simp
  refine wpZ_take [15] (i := 4) (v := (.pointer (some ⟨b, off + i * 3, none⟩))) opsE_4 (by kernel_rfl) (by kernel_rfl) (by kernel_rfl) (by kernel_rfl) (fun c a w h => HPan.out c a w _ _ h) (.inl ⟨by rfl, fun y hy => ?_⟩) hS0 ?_
  · go_simp
  refine wpZ_take [15] (i := 5) (v := (.int .i64 x.to)) opsE_5 (by kernel_rfl) (by kernel_rfl) (by kernel_rfl) (by kernel_rfl) (fun c a w h => HPan.out c a w _ _ h) (.inl ⟨by rfl, fun y hy => ?_⟩) hS0 ?_
  · obtain ⟨y0, y1⟩ := hy; go_simp
  refine wpZ_take [15] (i := 6) (v := (.int .u8 x.to)) opsE_6 (by kernel_rfl) (by kernel_rfl) (by kernel_rfl) (by kernel_rfl) (fun c a w h => HPan.out c a w _ _ h) (.inl ⟨by rfl, fun y hy => ?_⟩) hS0 ?_
  · go_simp
  refine wpZ_take [15] (i := 7) (v := (.slice (some ⟨b, off, none⟩) m cap)) opsE_7 (by kernel_rfl) (by kernel_rfl) (by kernel_rfl) (by kernel_rfl) (fun c a w h => HPan.out c a w _ _ h) (.inl ⟨by rfl, fun y hy => ?_⟩) hS0 ?_
  · go_simp
  refine wpZ_take [15] (i := 8) (v := (.int .i64 i)) opsE_8 (by kernel_rfl) (by kernel_rfl) (by kernel_rfl) (by kernel_rfl) (fun c a w h => HPan.out c a w _ _ h) (.inl ⟨by rfl, fun y hy => ?_⟩) hS0 ?_
  · go_simp
  refine wpZ_take [15] (i := 9) (v := (.pointer (some ⟨b, off + i * 3, none⟩))) opsE_9 (by kernel_rfl) (by kernel_rfl) (by kernel_rfl) (by kernel_rfl) (fun c a w h => HPan.out c a w _ _ h) (.inl ⟨by rfl, fun y hy => ?_⟩) hS0 ?_
  · go_simp
  refine wpZ_take [15] (i := 10) (v := (.pointer (some ⟨b, off + i * 3 + 1, none⟩))) opsE_10 (by kernel_rfl) (by kernel_rfl) (by kernel_rfl) (by kernel_rfl) (fun c a w h => HPan.out c a w _ _ h) (.inl ⟨by rfl, fun y hy => ?_⟩) hS0 ?_
  · go_simp
  refine wpZ_take [15] (i := 11) (v := (.int .i64 x.tag)) opsE_11 (by kernel_rfl) (by kernel_rfl) (by kernel_rfl) (by kernel_rfl) (fun c a w h => HPan.out c a w _ _ h) (.inl ⟨by rfl, fun y hy => ?_⟩) hS0 ?_
  · obtain ⟨y0, y1⟩ := hy; go_simp
  refine wpZ_take [15] (i := 12) (v := (.int .u8 x.tag)) opsE_12 (by kernel_rfl) (by kernel_rfl) (by kernel_rfl) (by kernel_rfl) (fun c a w h => HPan.out c a w _ _ h) (.inl ⟨by rfl, fun y hy => ?_⟩) hS0 ?_
  · go_simp
  have HKS : Hid (∀ y : World, Below B V y → y.cell? ⟨b, off + i * 3, none⟩ = some (.int .i64 x.to) ∧ y.cell? ⟨b, off + i * 3 + 1, none⟩ = some (.int .i64 x.tag)) := hidI fun y hy => by
    have z : ∀ {o : Nat} {v : Value}, V.cell? ⟨b, o, none⟩ = some v → y.cell? ⟨b, o, none⟩ = some v := fun {o v} hc => (hy.cell (p := ⟨b, o, none⟩) hbB).trans hc
    exact ⟨z hS0.1, z hS0.2⟩
  refine wpZ_all (rs := [13]) (by kernel_rfl) (by simp) fun j13 hj13 => ?_
  obtain rfl : j13 = 13 := by simpa using hj13
  refine wpOp_go opsE_13 rfl fun K1 hK1 => ?_
  unfold Oper.wp
  go_simp
  refine hK1 _ _ ⟨fun _ => HKS.out _ ((Below.refl _ _).alloc hBV _), ?_⟩
  clear hK1 K1
  refine wpZ_all (rs := [14]) (by kernel_rfl) (by simp) fun j14 hj14 => ?_
  obtain rfl : j14 = 14 := by simpa using hj14
  refine wpOp_go opsE_14 rfl fun K1 hK1 => ?_
  refine wp_append_any Try.underlying40 Try.info5 rfl (by decide) (by decide) _ _ rfl B rv n cs rfl HOA.out _ 2 (cellsB [x.to, x.tag]) rfl HX.out (cellsB_one _) (by omega) (by simp; omega) ?_
  intro vA W3 hown3 hgrow3 hat3
  have HO3 := hidI hown3
  have HG3 := hidI hgrow3
  have hB3 : Below B V W3 := Below.grown (w := V.alloc (Obj.cells #[.int .u8 x.to, .int .u8 x.tag] 5)) ((Below.refl _ _).alloc hBV _) hgrow3 (by simp; omega) (fun k hk => (HOA.out.lt k hk).1)
  refine hK1 _ _ ⟨fun _ => HKS.out _ hB3, ?_⟩
  clear hK1 K1 hown3 hgrow3 hat3 hB3
  refine wpZ_last (by kernel_rfl) (by kernel_rfl) ?_ _
  refine wpOp_go opsE_15 rfl fun K1 hK1 => ?_
  unfold Oper.wp
  go_simp
  refine hK1 _ _ ?_
  exact HQ.out _ _ _ _ _ _ _ _ _ _ _ _ _ _ _ _ _ HO3.out HG3.out
end Go.Proofs.Ytdfieflcclbgjaa
