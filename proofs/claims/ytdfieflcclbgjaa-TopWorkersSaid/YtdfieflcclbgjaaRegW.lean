/-
  A message put behind those of its worker, in whatever order, as the law does it.
-/
import Derived.Test.YtdfieflcclbgjaaZed
import Derived.Test.YtdfieflcclbgjaaWkS
namespace Go.Proofs.Ytdfieflcclbgjaa
open Go.RowKit Go.Deep Go.MapKept
def opsW : Array Oper := #[{ dst := some 61, op := Go.Op.move (Go.Operand.tmp 14), type := 3, pos := "top11.go:25", after := #[], guard := none }, { dst := some 62, op := Go.Op.move (Go.Operand.tmp 14), type := 3, pos := "top11.go:25", after := #[], guard := none }, { dst := some 63, op := Go.Op.indexAddr 52 (Go.Operand.tmp 10) (Go.Operand.tmp 62), type := 0, pos := "top11.go:25", after := #[{ on := 1, ground := Go.Ground.data }], guard := none }, { dst := some 64, op := Go.Op.load 22 (Go.Operand.tmp 63), type := 22, pos := "top11.go:25", after := #[{ on := 2, ground := Go.Ground.data }], guard := none }, { dst := some 65, op := Go.Op.load 48 (Go.Operand.tmp 13), type := 48, pos := "top11.go:25", after := #[], guard := none }, { dst := some 66, op := Go.Op.buildSlice 22 1 #[(0, Go.Operand.tmp 65)], type := 22, pos := "top11.go:25", after := #[{ on := 4, ground := Go.Ground.data }], guard := none }, { dst := some 67, op := Go.Op.call { callee := Go.Callee.builtin Go.Builtin.append, args := #[Go.Operand.tmp 64, Go.Operand.tmp 66], argTypes := #[22, 22] }, type := 22, pos := "top11.go:25", after := #[{ on := 3, ground := Go.Ground.data }, { on := 5, ground := Go.Ground.data }], guard := none }, { dst := some 68, op := Go.Op.indexAddr 52 (Go.Operand.tmp 10) (Go.Operand.tmp 61), type := 0, pos := "top11.go:25", after := #[{ on := 0, ground := Go.Ground.data }, { on := 0, ground := Go.Ground.phase }, { on := 1, ground := Go.Ground.phase }, { on := 2, ground := Go.Ground.phase }, { on := 3, ground := Go.Ground.phase }, { on := 4, ground := Go.Ground.phase }, { on := 5, ground := Go.Ground.phase }, { on := 6, ground := Go.Ground.phase }], guard := none }, { dst := none, op := Go.Op.store 22 (Go.Operand.tmp 68) (Go.Operand.tmp 67), type := 0, pos := "top11.go:25", after := #[{ on := 7, ground := Go.Ground.data }, { on := 6, ground := Go.Ground.data }, { on := 6, ground := Go.Ground.chain }, { on := 0, ground := Go.Ground.phase }, { on := 1, ground := Go.Ground.phase }, { on := 2, ground := Go.Ground.phase }, { on := 3, ground := Go.Ground.phase }, { on := 4, ground := Go.Ground.phase }, { on := 5, ground := Go.Ground.phase }, { on := 6, ground := Go.Ground.phase }], guard := none }]
theorem opsW_0 : opsW[0]? = some { dst := some 61, op := Go.Op.move (Go.Operand.tmp 14), type := 3, pos := "top11.go:25", after := #[], guard := none } := by kernel_rfl
theorem opsW_1 : opsW[1]? = some { dst := some 62, op := Go.Op.move (Go.Operand.tmp 14), type := 3, pos := "top11.go:25", after := #[], guard := none } := by kernel_rfl
theorem opsW_2 : opsW[2]? = some { dst := some 63, op := Go.Op.indexAddr 52 (Go.Operand.tmp 10) (Go.Operand.tmp 62), type := 0, pos := "top11.go:25", after := #[{ on := 1, ground := Go.Ground.data }], guard := none } := by kernel_rfl
theorem opsW_3 : opsW[3]? = some { dst := some 64, op := Go.Op.load 22 (Go.Operand.tmp 63), type := 22, pos := "top11.go:25", after := #[{ on := 2, ground := Go.Ground.data }], guard := none } := by kernel_rfl
theorem opsW_4 : opsW[4]? = some { dst := some 65, op := Go.Op.load 48 (Go.Operand.tmp 13), type := 48, pos := "top11.go:25", after := #[], guard := none } := by kernel_rfl
theorem opsW_5 : opsW[5]? = some { dst := some 66, op := Go.Op.buildSlice 22 1 #[(0, Go.Operand.tmp 65)], type := 22, pos := "top11.go:25", after := #[{ on := 4, ground := Go.Ground.data }], guard := none } := by kernel_rfl
theorem opsW_6 : opsW[6]? = some { dst := some 67, op := Go.Op.call { callee := Go.Callee.builtin Go.Builtin.append, args := #[Go.Operand.tmp 64, Go.Operand.tmp 66], argTypes := #[22, 22] }, type := 22, pos := "top11.go:25", after := #[{ on := 3, ground := Go.Ground.data }, { on := 5, ground := Go.Ground.data }], guard := none } := by kernel_rfl
theorem opsW_7 : opsW[7]? = some { dst := some 68, op := Go.Op.indexAddr 52 (Go.Operand.tmp 10) (Go.Operand.tmp 61), type := 0, pos := "top11.go:25", after := #[{ on := 0, ground := Go.Ground.data }, { on := 0, ground := Go.Ground.phase }, { on := 1, ground := Go.Ground.phase }, { on := 2, ground := Go.Ground.phase }, { on := 3, ground := Go.Ground.phase }, { on := 4, ground := Go.Ground.phase }, { on := 5, ground := Go.Ground.phase }, { on := 6, ground := Go.Ground.phase }], guard := none } := by kernel_rfl
theorem opsW_8 : opsW[8]? = some { dst := none, op := Go.Op.store 22 (Go.Operand.tmp 68) (Go.Operand.tmp 67), type := 0, pos := "top11.go:25", after := #[{ on := 7, ground := Go.Ground.data }, { on := 6, ground := Go.Ground.data }, { on := 6, ground := Go.Ground.chain }, { on := 0, ground := Go.Ground.phase }, { on := 1, ground := Go.Ground.phase }, { on := 2, ground := Go.Ground.phase }, { on := 3, ground := Go.Ground.phase }, { on := 4, ground := Go.Ground.phase }, { on := 5, ground := Go.Ground.phase }, { on := 6, ground := Go.Ground.phase }], guard := none } := by kernel_rfl
set_option maxRecDepth 100000 in
set_option maxHeartbeats 1500000 in
theorem regW {x0 x1 x2 x3 x4 x5 x6 x7 x8 x9 x11 x12 x15 x16 x17 x18 x19 x20 x21 x22 x23 x24 x25 x26 x27 x28 x29 x30 x31 x32 x33 x34 x35 x36 x37 x38 x39 x40 x41 x42 x43 x44 x45 x46 x47 x48 x49 x50 x51 x52 x53 x54 x55 x56 x57 x58 x59 x60 x61 x62 x63 x64 x65 x66 x67 x68 x69 x70 x71 x72 x73 x74 x75 x76 x77 x78 x79 x80 x81 x82 x83 x84 x85 x86 x87 x88 x89 x90 x91 x92 x93 x94 x95 x96 x97 x98 x99 x100 x101 x102 x103 x104 x105 x106 x107 x108 x109 x110 x111 x112 x113 x114 x115 x116 x117 x118 x119 x120 x121 x122 x123 x124 x125 x126 x127 x128 x129 x130 x131 x132 x133 x134 x135 x136 x137 x138 x139 x140 x141 x142 x143 x144 x145 x146 x147 x148 x149 x150 x151 x152 x153 x154 x155 x156 x157 x158 x159 x160 x161 x162 x163 x164 x165 x166 x167 x168 x169 x170 x171 x172 x173 x174 x175 x176 : Value} {Q : Exit → Act → World → Prop} {V0 : World} {bx mb q n B : Nat} {rv s0 s1 : Value} {p g J : Int} {cs : List Value}
    (hS0 : V0.drew.cell? ⟨bx, q, none⟩ = some rv ∧ V0.drew.cell? ⟨mb, 0, none⟩ = some (.int .i64 p) ∧ V0.drew.cell? ⟨mb, 1, none⟩ = some (.int .i64 g) ∧ V0.drew.cell? ⟨mb, 2, none⟩ = some (.int .i64 J)) (hq : q < 2) (hbB : bx < B) (hBV : B ≤ V0.drew.heap.size) (hbox : V0.drew.heap[bx]? = some (.cells #[s0, s1] 52 (0, 0))) (hmb : rv.ownBlock ≠ some mb) (hrv : V0.drew.ownsRow B 48 3 rv n cs) (hn : n ≤ 10000)
    (hpan : ∀ c (a : Act) w (dd : Tmp) vv, Q (.panic c) (a.put (some dd) vv) w → Q (.panic c) a w)
    (hQ : ∀ (W : World) (v9 t61 t62 t63 t64 t65 t66 t67 t68 : Value), W.ownsRow B 48 3 v9 (n + 1) (cs ++ Msg.cells ⟨p, g, J⟩) → V0.drew.grownBy W rv.ownBlock → (v9.ownBlock = rv.ownBlock ∨ ∃ k, v9.ownBlock = some k ∧ V0.drew.heap.size ≤ k) → Q .normal { tmps := #[x0, x1, x2, x3, x4, x5, x6, x7, x8, x9, .pointer (some ⟨bx, 0, none⟩), x11, x12, .pointer (some ⟨mb, 0, none⟩), .int .i64 (q : Int), x15, x16, x17, x18, x19, x20, x21, x22, x23, x24, x25, x26, x27, x28, x29, x30, x31, x32, x33, x34, x35, x36, x37, x38, x39, x40, x41, x42, x43, x44, x45, x46, x47, x48, x49, x50, x51, x52, x53, x54, x55, x56, x57, x58, x59, x60, t61, t62, t63, t64, t65, t66, t67, t68, x69, x70, x71, x72, x73, x74, x75, x76, x77, x78, x79, x80, x81, x82, x83, x84, x85, x86, x87, x88, x89, x90, x91, x92, x93, x94, x95, x96, x97, x98, x99, x100, x101, x102, x103, x104, x105, x106, x107, x108, x109, x110, x111, x112, x113, x114, x115, x116, x117, x118, x119, x120, x121, x122, x123, x124, x125, x126, x127, x128, x129, x130, x131, x132, x133, x134, x135, x136, x137, x138, x139, x140, x141, x142, x143, x144, x145, x146, x147, x148, x149, x150, x151, x152, x153, x154, x155, x156, x157, x158, x159, x160, x161, x162, x163, x164, x165, x166, x167, x168, x169, x170, x171, x172, x173, x174, x175, x176], defers := [] } (W.setCell ⟨bx, q, none⟩ v9)) :
    (Code.region 15 opsW true).wp Try.prog Q { tmps := #[x0, x1, x2, x3, x4, x5, x6, x7, x8, x9, .pointer (some ⟨bx, 0, none⟩), x11, x12, .pointer (some ⟨mb, 0, none⟩), .int .i64 (q : Int), x15, x16, x17, x18, x19, x20, x21, x22, x23, x24, x25, x26, x27, x28, x29, x30, x31, x32, x33, x34, x35, x36, x37, x38, x39, x40, x41, x42, x43, x44, x45, x46, x47, x48, x49, x50, x51, x52, x53, x54, x55, x56, x57, x58, x59, x60, x61, x62, x63, x64, x65, x66, x67, x68, x69, x70, x71, x72, x73, x74, x75, x76, x77, x78, x79, x80, x81, x82, x83, x84, x85, x86, x87, x88, x89, x90, x91, x92, x93, x94, x95, x96, x97, x98, x99, x100, x101, x102, x103, x104, x105, x106, x107, x108, x109, x110, x111, x112, x113, x114, x115, x116, x117, x118, x119, x120, x121, x122, x123, x124, x125, x126, x127, x128, x129, x130, x131, x132, x133, x134, x135, x136, x137, x138, x139, x140, x141, x142, x143, x144, x145, x146, x147, x148, x149, x150, x151, x152, x153, x154, x155, x156, x157, x158, x159, x160, x161, x162, x163, x164, x165, x166, x167, x168, x169, x170, x171, x172, x173, x174, x175, x176], defers := [] } V0 := by
  refine wp_region_Z (fun y => y.cell? ⟨bx, q, none⟩ = some rv ∧ y.cell? ⟨mb, 0, none⟩ = some (.int .i64 p) ∧ y.cell? ⟨mb, 1, none⟩ = some (.int .i64 g) ∧ y.cell? ⟨mb, 2, none⟩ = some (.int .i64 J)) 8 Try.mixed ?_
  obtain ⟨V, hV⟩ : ∃ V, V0.drew = V := ⟨_, rfl⟩
  rw [hV] at hS0 hBV hbox hrv hQ ⊢
  clear hV
  have HQ := hidI hQ
  have HPan := hidI hpan
  have HRV := hidI hrv
  have HBX := hidI hbox
  have kq : (q : Int) < 2 := by omega
  have kq0 : (0 : Int) ≤ (q : Int) := by omega
  clear hQ hpan hrv hbox
  refine wpZ_take [8] (i := 0) (v := (.int .i64 (q : Int))) opsW_0 (by kernel_rfl) (by kernel_rfl) (by kernel_rfl) (by kernel_rfl) (fun c a w h => HPan.out c a w _ _ h) (.inl ⟨by rfl, fun y hy => ?_⟩) hS0 ?_
  · go_simp
  refine wpZ_take [8] (i := 1) (v := (.int .i64 (q : Int))) opsW_1 (by kernel_rfl) (by kernel_rfl) (by kernel_rfl) (by kernel_rfl) (fun c a w h => HPan.out c a w _ _ h) (.inl ⟨by rfl, fun y hy => ?_⟩) hS0 ?_
  · go_simp
  refine wpZ_take [8] (i := 2) (v := (.pointer (some ⟨bx, q, none⟩))) opsW_2 (by kernel_rfl) (by kernel_rfl) (by kernel_rfl) (by kernel_rfl) (fun c a w h => HPan.out c a w _ _ h) (.inl ⟨by rfl, fun y hy => ?_⟩) hS0 ?_
  · go_simp
  refine wpZ_take [8] (i := 3) (v := rv) opsW_3 (by kernel_rfl) (by kernel_rfl) (by kernel_rfl) (by kernel_rfl) (fun c a w h => HPan.out c a w _ _ h) (.inl ⟨by rfl, fun y hy => ?_⟩) hS0 ?_
  · obtain ⟨y0, y1, y2, y3⟩ := hy; go_simp
  refine wpZ_take [8] (i := 4) (v := (.agg #[.int .i64 p, .int .i64 g, .int .i64 J])) opsW_4 (by kernel_rfl) (by kernel_rfl) (by kernel_rfl) (by kernel_rfl) (fun c a w h => HPan.out c a w _ _ h) (.inl ⟨by rfl, fun y hy => ?_⟩) hS0 ?_
  · obtain ⟨y0, y1, y2, y3⟩ := hy; go_simp
  have HKS : Hid (∀ y : World, Below V.heap.size V y → y.cell? ⟨bx, q, none⟩ = some rv ∧ y.cell? ⟨mb, 0, none⟩ = some (.int .i64 p) ∧ y.cell? ⟨mb, 1, none⟩ = some (.int .i64 g) ∧ y.cell? ⟨mb, 2, none⟩ = some (.int .i64 J)) := hidI fun y hy => by
    have z : ∀ {p : Addr} {v : Value}, V.cell? p = some v → y.cell? p = some v := fun {p v} hc => (hy.cell (World.block_lt_of_cell? V _ hc)).trans hc
    obtain ⟨y0, y1, y2, y3⟩ := hS0
    exact ⟨z y0, z y1, z y2, z y3⟩
  refine wpZ_all (rs := [5]) (by kernel_rfl) (by simp) fun j5 hj5 => ?_
  obtain rfl : j5 = 5 := by simpa using hj5
  refine wpOp_go opsW_5 rfl fun K1 hK1 => ?_
  unfold Oper.wp
  go_simp
  have HB2 : Hid (Below V.heap.size V (V.alloc (Obj.cells #[.int .i64 p, .int .i64 g, .int .i64 J] 48))) := hidI ((Below.refl _ _).alloc (Nat.le_refl _) _)
  have HO2 : Hid ((V.alloc (Obj.cells #[.int .i64 p, .int .i64 g, .int .i64 J] 48)).ownsRow B 48 3 rv n cs) := hidI (World.ownsRow.alloc HRV.out _)
  have HX : Hid (SeesC (V.alloc (Obj.cells #[.int .i64 p, .int .i64 g, .int .i64 J] 48)) (.slice (some ⟨V.heap.size, 0, none⟩) 1 1) 1 3 (Msg.cells ⟨p, g, J⟩)) := hidI (msg_seen (W := V) ⟨p, g, J⟩)
  refine hK1 _ _ ⟨fun _ => HKS.out _ HB2.out, ?_⟩
  clear hK1 K1
  refine wpZ_all (rs := [6]) (by kernel_rfl) (by simp) fun j6 hj6 => ?_
  obtain rfl : j6 = 6 := by simpa using hj6
  refine wpOp_go opsW_6 rfl fun K1 hK1 => ?_
  refine wp_append_any Try.underlying22 Try.info48 rfl (by decide) (by decide) _ _ rfl B rv n cs rfl HO2.out _ 1 (Msg.cells ⟨p, g, J⟩) rfl HX.out (cells_one _) (by omega) (by have := HB2.out.size; omega) ?_
  intro vA W3 hown3 hgrow3 hat3
  have HO3 := hidI hown3
  have hS2 := HKS.out _ HB2.out
  have HbX : Hid (rv.ownBlock ≠ some bx) := hidI fun e => by have := (HO2.out.lt bx e).1; omega
  have hS3 : W3.cell? ⟨bx, q, none⟩ = some rv ∧ W3.cell? ⟨mb, 0, none⟩ = some (.int .i64 p) ∧ W3.cell? ⟨mb, 1, none⟩ = some (.int .i64 g) ∧ W3.cell? ⟨mb, 2, none⟩ = some (.int .i64 J) := by
    have z : ∀ {pp : Addr} {v : Value}, (V.alloc (Obj.cells #[.int .i64 p, .int .i64 g, .int .i64 J] 48)).cell? pp = some v → (rv.ownBlock ≠ some pp.block) → W3.cell? pp = some v := fun {pp v} hc hn => hgrow3.cell hc (fun e => hn e.symm)
    obtain ⟨y0, y1, y2, y3⟩ := hS2
    exact ⟨z y0 HbX.out, z y1 hmb, z y2 hmb, z y3 hmb⟩
  have HG3 := hidI (grown_in HB2.out hgrow3)
  have HA3 : Hid (vA.ownBlock = rv.ownBlock ∨ ∃ k, vA.ownBlock = some k ∧ V.heap.size ≤ k) := hidI (hat3.imp_right fun e => ⟨_, e, by simp⟩)
  have hf4 : W3.frozen? ⟨bx, q, none⟩ = false := by
    have hlt : bx < V.heap.size := by omega
    have e := (HG3.out.block bx hlt (fun e => HbX.out e.symm)).trans HBX.out
    simp [World.frozen?, e]
  have hc4 : W3.cell? ⟨bx, q, none⟩ = some rv := hS3.1
  refine hK1 _ _ ⟨fun _ => hS3, ?_⟩
  clear hK1 K1 hown3 hgrow3 hat3
  refine wpZ_take [8] (i := 7) (v := (.pointer (some ⟨bx, q, none⟩))) opsW_7 (by kernel_rfl) (by kernel_rfl) (by kernel_rfl) (by kernel_rfl) (fun c a w h => HPan.out c a w _ _ h) (.inl ⟨by rfl, fun y hy => ?_⟩) hS3 ?_
  · go_simp
  refine wpZ_last (by kernel_rfl) (by kernel_rfl) ?_ _
  refine wpOp_go opsW_8 rfl fun K1 hK1 => ?_
  unfold Oper.wp
  obtain ⟨sa, sn, sc, hsl⟩ : ∃ sa sn sc, vA = .slice sa sn sc := by
    rcases HO3.out.2 with ⟨e, _⟩ | ⟨g', cap', cur', e, _⟩
    · exact ⟨_, _, _, e⟩
    · exact ⟨_, _, _, e⟩
  subst hsl
  go_simp
  refine hK1 _ _ ?_
  exact HQ.out _ _ _ _ _ _ _ _ _ _ HO3.out HG3.out HA3.out
end Go.Proofs.Ytdfieflcclbgjaa
