/-
  A message out of bytes, put behind others in whatever order, as the program does it.
-/
import Derived.Test.YtdfieflcclbgjabZed
import Derived.Test.YtdfieflcclbgjabMKeep
namespace Go.Proofs.Ytdfieflcclbgjab
open Go.RowKit Go.Deep Go.MapKept
def opsQ : Array Oper := #[{ dst := some 31, op := Go.Op.move (Go.Operand.tmp 5), type := 22, pos := "bytes.go:42", after := #[], guard := none }, { dst := some 32, op := Go.Op.move (Go.Operand.tmp 0), type := 28, pos := "bytes.go:42", after := #[], guard := none }, { dst := some 33, op := Go.Op.move (Go.Operand.tmp 6), type := 3, pos := "bytes.go:42", after := #[], guard := none }, { dst := some 34, op := Go.Op.indexAddr 28 (Go.Operand.tmp 32) (Go.Operand.tmp 33), type := 0, pos := "bytes.go:42", after := #[{ on := 1, ground := Go.Ground.data }, { on := 2, ground := Go.Ground.data }], guard := none }, { dst := some 35, op := Go.Op.load 5 (Go.Operand.tmp 34), type := 5, pos := "bytes.go:42", after := #[{ on := 3, ground := Go.Ground.data }], guard := none }, { dst := some 36, op := Go.Op.convert 5 3 (Go.Operand.tmp 35), type := 3, pos := "bytes.go:42", after := #[{ on := 4, ground := Go.Ground.data }], guard := none }, { dst := some 37, op := Go.Op.move (Go.Operand.tmp 0), type := 28, pos := "bytes.go:42", after := #[], guard := none }, { dst := some 38, op := Go.Op.move (Go.Operand.tmp 6), type := 3, pos := "bytes.go:42", after := #[], guard := none }, { dst := some 39, op := Go.Op.binOp Go.BinOp.add 3 (Go.Operand.tmp 38) (Go.Operand.const (Go.Value.int Go.IntKind.i64 1)) 3, type := 3, pos := "bytes.go:42", after := #[{ on := 7, ground := Go.Ground.data }], guard := none }, { dst := some 40, op := Go.Op.indexAddr 28 (Go.Operand.tmp 37) (Go.Operand.tmp 39), type := 0, pos := "bytes.go:42", after := #[{ on := 6, ground := Go.Ground.data }, { on := 8, ground := Go.Ground.data }], guard := none }, { dst := some 41, op := Go.Op.load 5 (Go.Operand.tmp 40), type := 5, pos := "bytes.go:42", after := #[{ on := 9, ground := Go.Ground.data }], guard := none }, { dst := some 42, op := Go.Op.convert 5 3 (Go.Operand.tmp 41), type := 3, pos := "bytes.go:42", after := #[{ on := 10, ground := Go.Ground.data }], guard := none }, { dst := some 43, op := Go.Op.move (Go.Operand.tmp 8), type := 24, pos := "bytes.go:42", after := #[], guard := none }, { dst := some 44, op := Go.Op.build 26 #[(0, Go.Operand.tmp 36), (1, Go.Operand.tmp 42), (2, Go.Operand.tmp 43)], type := 26, pos := "bytes.go:42", after := #[{ on := 5, ground := Go.Ground.data }, { on := 11, ground := Go.Ground.data }, { on := 12, ground := Go.Ground.data }], guard := none }, { dst := some 45, op := Go.Op.buildSlice 22 1 #[(0, Go.Operand.tmp 44)], type := 22, pos := "bytes.go:42", after := #[{ on := 13, ground := Go.Ground.data }], guard := none }, { dst := some 46, op := Go.Op.call { callee := Go.Callee.builtin Go.Builtin.append, args := #[Go.Operand.tmp 31, Go.Operand.tmp 45], argTypes := #[22, 22] }, type := 22, pos := "bytes.go:42", after := #[{ on := 0, ground := Go.Ground.data }, { on := 14, ground := Go.Ground.data }], guard := none }, { dst := some 5, op := Go.Op.assign (Go.Operand.tmp 46), type := 22, pos := "bytes.go:42", after := #[{ on := 15, ground := Go.Ground.data }, { on := 15, ground := Go.Ground.chain }, { on := 0, ground := Go.Ground.phase }, { on := 1, ground := Go.Ground.phase }, { on := 2, ground := Go.Ground.phase }, { on := 3, ground := Go.Ground.phase }, { on := 4, ground := Go.Ground.phase }, { on := 5, ground := Go.Ground.phase }, { on := 6, ground := Go.Ground.phase }, { on := 7, ground := Go.Ground.phase }, { on := 8, ground := Go.Ground.phase }, { on := 9, ground := Go.Ground.phase }, { on := 10, ground := Go.Ground.phase }, { on := 11, ground := Go.Ground.phase }, { on := 12, ground := Go.Ground.phase }, { on := 13, ground := Go.Ground.phase }, { on := 14, ground := Go.Ground.phase }, { on := 15, ground := Go.Ground.phase }], guard := none }]
theorem opsQ_0 : opsQ[0]? = some { dst := some 31, op := Go.Op.move (Go.Operand.tmp 5), type := 22, pos := "bytes.go:42", after := #[], guard := none } := by kernel_rfl
theorem opsQ_1 : opsQ[1]? = some { dst := some 32, op := Go.Op.move (Go.Operand.tmp 0), type := 28, pos := "bytes.go:42", after := #[], guard := none } := by kernel_rfl
theorem opsQ_2 : opsQ[2]? = some { dst := some 33, op := Go.Op.move (Go.Operand.tmp 6), type := 3, pos := "bytes.go:42", after := #[], guard := none } := by kernel_rfl
theorem opsQ_3 : opsQ[3]? = some { dst := some 34, op := Go.Op.indexAddr 28 (Go.Operand.tmp 32) (Go.Operand.tmp 33), type := 0, pos := "bytes.go:42", after := #[{ on := 1, ground := Go.Ground.data }, { on := 2, ground := Go.Ground.data }], guard := none } := by kernel_rfl
theorem opsQ_4 : opsQ[4]? = some { dst := some 35, op := Go.Op.load 5 (Go.Operand.tmp 34), type := 5, pos := "bytes.go:42", after := #[{ on := 3, ground := Go.Ground.data }], guard := none } := by kernel_rfl
theorem opsQ_5 : opsQ[5]? = some { dst := some 36, op := Go.Op.convert 5 3 (Go.Operand.tmp 35), type := 3, pos := "bytes.go:42", after := #[{ on := 4, ground := Go.Ground.data }], guard := none } := by kernel_rfl
theorem opsQ_6 : opsQ[6]? = some { dst := some 37, op := Go.Op.move (Go.Operand.tmp 0), type := 28, pos := "bytes.go:42", after := #[], guard := none } := by kernel_rfl
theorem opsQ_7 : opsQ[7]? = some { dst := some 38, op := Go.Op.move (Go.Operand.tmp 6), type := 3, pos := "bytes.go:42", after := #[], guard := none } := by kernel_rfl
theorem opsQ_8 : opsQ[8]? = some { dst := some 39, op := Go.Op.binOp Go.BinOp.add 3 (Go.Operand.tmp 38) (Go.Operand.const (Go.Value.int Go.IntKind.i64 1)) 3, type := 3, pos := "bytes.go:42", after := #[{ on := 7, ground := Go.Ground.data }], guard := none } := by kernel_rfl
theorem opsQ_9 : opsQ[9]? = some { dst := some 40, op := Go.Op.indexAddr 28 (Go.Operand.tmp 37) (Go.Operand.tmp 39), type := 0, pos := "bytes.go:42", after := #[{ on := 6, ground := Go.Ground.data }, { on := 8, ground := Go.Ground.data }], guard := none } := by kernel_rfl
theorem opsQ_10 : opsQ[10]? = some { dst := some 41, op := Go.Op.load 5 (Go.Operand.tmp 40), type := 5, pos := "bytes.go:42", after := #[{ on := 9, ground := Go.Ground.data }], guard := none } := by kernel_rfl
theorem opsQ_11 : opsQ[11]? = some { dst := some 42, op := Go.Op.convert 5 3 (Go.Operand.tmp 41), type := 3, pos := "bytes.go:42", after := #[{ on := 10, ground := Go.Ground.data }], guard := none } := by kernel_rfl
theorem opsQ_12 : opsQ[12]? = some { dst := some 43, op := Go.Op.move (Go.Operand.tmp 8), type := 24, pos := "bytes.go:42", after := #[], guard := none } := by kernel_rfl
theorem opsQ_13 : opsQ[13]? = some { dst := some 44, op := Go.Op.build 26 #[(0, Go.Operand.tmp 36), (1, Go.Operand.tmp 42), (2, Go.Operand.tmp 43)], type := 26, pos := "bytes.go:42", after := #[{ on := 5, ground := Go.Ground.data }, { on := 11, ground := Go.Ground.data }, { on := 12, ground := Go.Ground.data }], guard := none } := by kernel_rfl
theorem opsQ_14 : opsQ[14]? = some { dst := some 45, op := Go.Op.buildSlice 22 1 #[(0, Go.Operand.tmp 44)], type := 22, pos := "bytes.go:42", after := #[{ on := 13, ground := Go.Ground.data }], guard := none } := by kernel_rfl
theorem opsQ_15 : opsQ[15]? = some { dst := some 46, op := Go.Op.call { callee := Go.Callee.builtin Go.Builtin.append, args := #[Go.Operand.tmp 31, Go.Operand.tmp 45], argTypes := #[22, 22] }, type := 22, pos := "bytes.go:42", after := #[{ on := 0, ground := Go.Ground.data }, { on := 14, ground := Go.Ground.data }], guard := none } := by kernel_rfl
theorem opsQ_16 : opsQ[16]? = some { dst := some 5, op := Go.Op.assign (Go.Operand.tmp 46), type := 22, pos := "bytes.go:42", after := #[{ on := 15, ground := Go.Ground.data }, { on := 15, ground := Go.Ground.chain }, { on := 0, ground := Go.Ground.phase }, { on := 1, ground := Go.Ground.phase }, { on := 2, ground := Go.Ground.phase }, { on := 3, ground := Go.Ground.phase }, { on := 4, ground := Go.Ground.phase }, { on := 5, ground := Go.Ground.phase }, { on := 6, ground := Go.Ground.phase }, { on := 7, ground := Go.Ground.phase }, { on := 8, ground := Go.Ground.phase }, { on := 9, ground := Go.Ground.phase }, { on := 10, ground := Go.Ground.phase }, { on := 11, ground := Go.Ground.phase }, { on := 12, ground := Go.Ground.phase }, { on := 13, ground := Go.Ground.phase }, { on := 14, ground := Go.Ground.phase }, { on := 15, ground := Go.Ground.phase }], guard := none } := by kernel_rfl
set_option maxRecDepth 100000 in
set_option maxHeartbeats 1500000 in
theorem regQ {x1 x2 x3 x4 x7 x9 x10 x11 x12 x13 x14 x15 x16 x17 x18 x19 x20 x21 x22 x23 x24 x25 x26 x27 x28 x29 x30 x31 x32 x33 x34 x35 x36 x37 x38 x39 x40 x41 x42 x43 x44 x45 x46 x47 : Value} {Q : Exit → Act → World → Prop} {V0 : World} {b off m cap i n B : Nat} {rv : Value} {p q J : Int} {cs : List Value}
    (hS0 : V0.drew.cell? ⟨b, off + i, none⟩ = some (.int .u8 p) ∧ V0.drew.cell? ⟨b, off + (i + 1), none⟩ = some (.int .u8 q)) (him : i + 1 < m) (hm : m ≤ 1000) (hbB : b < B) (hBV : B ≤ V0.drew.heap.size) (hrv : V0.drew.ownsRow B 26 3 rv n cs) (hn : n ≤ 10000) (hp : 0 ≤ p ∧ p ≤ 255) (hq : 0 ≤ q ∧ q ≤ 255)
    (hpan : ∀ c (a : Act) w (dd : Tmp) vv, Q (.panic c) (a.put (some dd) vv) w → Q (.panic c) a w)
    (hQ : ∀ (W : World) (v9 t31 t32 t33 t34 t35 t36 t37 t38 t39 t40 t41 t42 t43 t44 t45 t46 : Value), W.ownsRow B 26 3 v9 (n + 1) (cs ++ Msg.cells ⟨p, q, J⟩) → Below B V0.drew W → Q .normal { tmps := #[.slice (some ⟨b, off, none⟩) m cap, x1, x2, x3, x4, v9, .int .i64 i, x7, .int .i64 J, x9, x10, x11, x12, x13, x14, x15, x16, x17, x18, x19, x20, x21, x22, x23, x24, x25, x26, x27, x28, x29, x30, t31, t32, t33, t34, t35, t36, t37, t38, t39, t40, t41, t42, t43, t44, t45, t46, x47], defers := [] } W) :
    (Code.region 9 opsQ true).wp Try.prog Q { tmps := #[.slice (some ⟨b, off, none⟩) m cap, x1, x2, x3, x4, rv, .int .i64 i, x7, .int .i64 J, x9, x10, x11, x12, x13, x14, x15, x16, x17, x18, x19, x20, x21, x22, x23, x24, x25, x26, x27, x28, x29, x30, x31, x32, x33, x34, x35, x36, x37, x38, x39, x40, x41, x42, x43, x44, x45, x46, x47], defers := [] } V0 := by
  refine wp_region_Z (fun y => y.cell? ⟨b, off + i, none⟩ = some (.int .u8 p) ∧ y.cell? ⟨b, off + (i + 1), none⟩ = some (.int .u8 q)) 16 Try.mixed ?_
  obtain ⟨V, hV⟩ : ∃ V, V0.drew = V := ⟨_, rfl⟩
  rw [hV] at hS0 hBV hrv hQ ⊢
  clear hV
  have HQ := hidI hQ
  have HPan := hidI hpan
  have HRV := hidI hrv
  have kim : (i : Int) < (m : Int) := by omega
  have kim1 : (i : Int) + 1 < (m : Int) := by omega
  have ki0 : (0 : Int) ≤ (i : Int) + 1 := by omega
  have kit : ((i : Int) + 1).toNat = i + 1 := by omega
  have ki9 : (i : Int) ≤ 1000 := by omega
  have wp0 : IntKind.i64.wrap p = p := by rw [IntKind.wrap_i64]; omega
  have wq0 : IntKind.i64.wrap q = q := by rw [IntKind.wrap_i64]; omega
  clear hQ hpan hrv
  refine wpZ_take [16] (i := 0) (v := rv) opsQ_0 (by kernel_rfl) (by kernel_rfl) (by kernel_rfl) (by kernel_rfl) (fun c a w h => HPan.out c a w _ _ h) (.inl ⟨by rfl, fun y hy => ?_⟩) hS0 ?_
  · go_simp
  refine wpZ_take [16] (i := 1) (v := (.slice (some ⟨b, off, none⟩) m cap)) opsQ_1 (by kernel_rfl) (by kernel_rfl) (by kernel_rfl) (by kernel_rfl) (fun c a w h => HPan.out c a w _ _ h) (.inl ⟨by rfl, fun y hy => ?_⟩) hS0 ?_
  · go_simp
  refine wpZ_take [16] (i := 2) (v := (.int .i64 i)) opsQ_2 (by kernel_rfl) (by kernel_rfl) (by kernel_rfl) (by kernel_rfl) (fun c a w h => HPan.out c a w _ _ h) (.inl ⟨by rfl, fun y hy => ?_⟩) hS0 ?_
  · go_simp
  refine wpZ_take [16] (i := 3) (v := (.pointer (some ⟨b, off + i, none⟩))) opsQ_3 (by kernel_rfl) (by kernel_rfl) (by kernel_rfl) (by kernel_rfl) (fun c a w h => HPan.out c a w _ _ h) (.inl ⟨by rfl, fun y hy => ?_⟩) hS0 ?_
  · go_simp
  refine wpZ_take [16] (i := 4) (v := (.int .u8 p)) opsQ_4 (by kernel_rfl) (by kernel_rfl) (by kernel_rfl) (by kernel_rfl) (fun c a w h => HPan.out c a w _ _ h) (.inl ⟨by rfl, fun y hy => ?_⟩) hS0 ?_
  · obtain ⟨y0, y1⟩ := hy; go_simp
  refine wpZ_take [16] (i := 5) (v := (.int .i64 p)) opsQ_5 (by kernel_rfl) (by kernel_rfl) (by kernel_rfl) (by kernel_rfl) (fun c a w h => HPan.out c a w _ _ h) (.inl ⟨by rfl, fun y hy => ?_⟩) hS0 ?_
  · go_simp
  refine wpZ_take [16] (i := 6) (v := (.slice (some ⟨b, off, none⟩) m cap)) opsQ_6 (by kernel_rfl) (by kernel_rfl) (by kernel_rfl) (by kernel_rfl) (fun c a w h => HPan.out c a w _ _ h) (.inl ⟨by rfl, fun y hy => ?_⟩) hS0 ?_
  · go_simp
  refine wpZ_take [16] (i := 7) (v := (.int .i64 i)) opsQ_7 (by kernel_rfl) (by kernel_rfl) (by kernel_rfl) (by kernel_rfl) (fun c a w h => HPan.out c a w _ _ h) (.inl ⟨by rfl, fun y hy => ?_⟩) hS0 ?_
  · go_simp
  refine wpZ_take [16] (i := 8) (v := (.int .i64 ((i : Int) + 1))) opsQ_8 (by kernel_rfl) (by kernel_rfl) (by kernel_rfl) (by kernel_rfl) (fun c a w h => HPan.out c a w _ _ h) (.inl ⟨by rfl, fun y hy => ?_⟩) hS0 ?_
  · go_simp; rw [IntKind.wrap_i64]; omega
  refine wpZ_take [16] (i := 9) (v := (.pointer (some ⟨b, off + (i + 1), none⟩))) opsQ_9 (by kernel_rfl) (by kernel_rfl) (by kernel_rfl) (by kernel_rfl) (fun c a w h => HPan.out c a w _ _ h) (.inl ⟨by rfl, fun y hy => ?_⟩) hS0 ?_
  · go_simp
  refine wpZ_take [16] (i := 10) (v := (.int .u8 q)) opsQ_10 (by kernel_rfl) (by kernel_rfl) (by kernel_rfl) (by kernel_rfl) (fun c a w h => HPan.out c a w _ _ h) (.inl ⟨by rfl, fun y hy => ?_⟩) hS0 ?_
  · obtain ⟨y0, y1⟩ := hy; go_simp
  refine wpZ_take [16] (i := 11) (v := (.int .i64 q)) opsQ_11 (by kernel_rfl) (by kernel_rfl) (by kernel_rfl) (by kernel_rfl) (fun c a w h => HPan.out c a w _ _ h) (.inl ⟨by rfl, fun y hy => ?_⟩) hS0 ?_
  · go_simp
  refine wpZ_take [16] (i := 12) (v := (.int .i64 J)) opsQ_12 (by kernel_rfl) (by kernel_rfl) (by kernel_rfl) (by kernel_rfl) (fun c a w h => HPan.out c a w _ _ h) (.inl ⟨by rfl, fun y hy => ?_⟩) hS0 ?_
  · go_simp
  have HKS : Hid (∀ y : World, Below V.heap.size V y → y.cell? ⟨b, off + i, none⟩ = some (.int .u8 p) ∧ y.cell? ⟨b, off + (i + 1), none⟩ = some (.int .u8 q)) := hidI fun y hy => by
    have z : ∀ {p : Addr} {v : Value}, V.cell? p = some v → y.cell? p = some v := fun {p v} hc => (hy.cell (World.block_lt_of_cell? V _ hc)).trans hc
    obtain ⟨y0, y1⟩ := hS0
    exact ⟨z y0, z y1⟩
  refine wpZ_all (rs := [13]) (by kernel_rfl) (by simp) fun j13 hj13 => ?_
  obtain rfl : j13 = 13 := by simpa using hj13
  refine wpOp_go opsQ_13 rfl fun K1 hK1 => ?_
  unfold Oper.wp
  go_simp
  refine hK1 _ _ ⟨fun _ => hS0, ?_⟩
  clear hK1 K1
  refine wpZ_all (rs := [14]) (by kernel_rfl) (by simp) fun j14 hj14 => ?_
  obtain rfl : j14 = 14 := by simpa using hj14
  refine wpOp_go opsQ_14 rfl fun K1 hK1 => ?_
  unfold Oper.wp
  go_simp
  have HB2 : Hid (Below V.heap.size V (V.alloc (Obj.cells #[.int .i64 p, .int .i64 q, .int .i64 J] 26))) := hidI ((Below.refl _ _).alloc (Nat.le_refl _) _)
  have HO2 : Hid ((V.alloc (Obj.cells #[.int .i64 p, .int .i64 q, .int .i64 J] 26)).ownsRow B 26 3 rv n cs) := hidI (World.ownsRow.alloc HRV.out _)
  have HX : Hid (SeesC (V.alloc (Obj.cells #[.int .i64 p, .int .i64 q, .int .i64 J] 26)) (.slice (some ⟨V.heap.size, 0, none⟩) 1 1) 1 3 (Msg.cells ⟨p, q, J⟩)) := hidI (msg_seen (W := V) ⟨p, q, J⟩)
  refine hK1 _ _ ⟨fun _ => HKS.out _ HB2.out, ?_⟩
  clear hK1 K1
  refine wpZ_all (rs := [15]) (by kernel_rfl) (by simp) fun j15 hj15 => ?_
  obtain rfl : j15 = 15 := by simpa using hj15
  refine wpOp_go opsQ_15 rfl fun K1 hK1 => ?_
  refine wp_append_any Try.underlying22 Try.info26 rfl (by decide) (by decide) _ _ rfl B rv n cs rfl HO2.out _ 1 (Msg.cells ⟨p, q, J⟩) rfl HX.out (cells_one _) (by omega) (by have := HB2.out.size; omega) ?_
  intro vA W3 hown3 hgrow3 hat3
  have HO3 := hidI hown3
  have hS2 := HKS.out _ HB2.out
  have hS3 : W3.cell? ⟨b, off + i, none⟩ = some (.int .u8 p) ∧ W3.cell? ⟨b, off + (i + 1), none⟩ = some (.int .u8 q) := by
    have z : ∀ {pp : Addr} {v : Value}, (V.alloc (Obj.cells #[.int .i64 p, .int .i64 q, .int .i64 J] 26)).cell? pp = some v → (rv.ownBlock ≠ some pp.block) → W3.cell? pp = some v := fun {pp v} hc hn => hgrow3.cell hc (fun e => hn e.symm)
    have hbn : rv.ownBlock ≠ some b := fun e => by have := (HO2.out.lt b e).1; omega
    obtain ⟨y0, y1⟩ := hS2
    exact ⟨z y0 hbn, z y1 hbn⟩
  have HB3 : Hid (Below B V W3) := hidI (Below.grown (w := V.alloc (Obj.cells #[.int .i64 p, .int .i64 q, .int .i64 J] 26)) (HB2.out.mono hBV) hgrow3 (by have := HB2.out.size; omega) (fun k hk => (HO2.out.lt k hk).1))
  refine hK1 _ _ ⟨fun _ => hS3, ?_⟩
  clear hK1 K1 hown3 hgrow3 hat3
  refine wpZ_last (by kernel_rfl) (by kernel_rfl) ?_ _
  refine wpOp_go opsQ_16 rfl fun K1 hK1 => ?_
  unfold Oper.wp
  go_simp
  refine hK1 _ _ ?_
  exact HQ.out _ _ _ _ _ _ _ _ _ _ _ _ _ _ _ _ _ _ HO3.out HB3.out
end Go.Proofs.Ytdfieflcclbgjab
