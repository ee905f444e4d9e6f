/-
  A row of acts, and one more, put together in whatever order, and Region of them.
-/
import Derived.Test.YtffdgjlojechaaaReg12
namespace Go.Proofs.Ytffdgjlojechaaa
open Go.RowKit Go.Deep Go.MapKept
def ops17 : Array Oper := #[{ dst := some 89, op := Go.Op.buildSlice 22 0 #[], type := 22, pos := "law.go:93", after := #[], guard := none }, { dst := some 90, op := Go.Op.move (Go.Operand.tmp 3), type := 32, pos := "law.go:93", after := #[], guard := none }, { dst := some 91, op := Go.Op.move (Go.Operand.tmp 5), type := 3, pos := "law.go:93", after := #[], guard := none }, { dst := some 92, op := Go.Op.indexAddr 32 (Go.Operand.tmp 90) (Go.Operand.tmp 91), type := 0, pos := "law.go:93", after := #[{ on := 1, ground := Go.Ground.data }, { on := 2, ground := Go.Ground.data }], guard := none }, { dst := some 93, op := Go.Op.load 22 (Go.Operand.tmp 92), type := 22, pos := "law.go:93", after := #[{ on := 3, ground := Go.Ground.data }], guard := none }, { dst := some 94, op := Go.Op.call { callee := Go.Callee.builtin Go.Builtin.append, args := #[Go.Operand.tmp 89, Go.Operand.tmp 93], argTypes := #[22, 22] }, type := 22, pos := "law.go:93", after := #[{ on := 0, ground := Go.Ground.data }, { on := 4, ground := Go.Ground.data }], guard := none }, { dst := some 95, op := Go.Op.move (Go.Operand.tmp 0), type := 22, pos := "law.go:93", after := #[], guard := none }, { dst := some 96, op := Go.Op.move (Go.Operand.tmp 4), type := 3, pos := "law.go:93", after := #[], guard := none }, { dst := some 97, op := Go.Op.indexAddr 22 (Go.Operand.tmp 95) (Go.Operand.tmp 96), type := 0, pos := "law.go:93", after := #[{ on := 6, ground := Go.Ground.data }, { on := 7, ground := Go.Ground.data }], guard := none }, { dst := some 98, op := Go.Op.load 39 (Go.Operand.tmp 97), type := 39, pos := "law.go:93", after := #[{ on := 8, ground := Go.Ground.data }], guard := none }, { dst := some 99, op := Go.Op.buildSlice 22 1 #[(0, Go.Operand.tmp 98)], type := 22, pos := "law.go:93", after := #[{ on := 9, ground := Go.Ground.data }], guard := none }, { dst := some 100, op := Go.Op.call { callee := Go.Callee.builtin Go.Builtin.append, args := #[Go.Operand.tmp 94, Go.Operand.tmp 99], argTypes := #[22, 22] }, type := 22, pos := "law.go:93", after := #[{ on := 5, ground := Go.Ground.data }, { on := 10, ground := Go.Ground.data }, { on := 5, ground := Go.Ground.chain }], guard := none }, { dst := some 101, op := Go.Op.call { callee := Go.Callee.value (Go.Operand.func 8), args := #[Go.Operand.tmp 100], argTypes := #[22] }, type := 25, pos := "law.go:93", after := #[{ on := 11, ground := Go.Ground.data }, { on := 11, ground := Go.Ground.chain }], guard := none }, { dst := some 88, op := Go.Op.move (Go.Operand.tmp 101), type := 25, pos := "law.go:93", after := #[{ on := 12, ground := Go.Ground.data }], guard := none }, { dst := some 102, op := Go.Op.extract (Go.Operand.tmp 88) 0, type := 3, pos := "law.go:93", after := #[{ on := 13, ground := Go.Ground.data }], guard := none }, { dst := some 103, op := Go.Op.extract (Go.Operand.tmp 88) 1, type := 24, pos := "law.go:93", after := #[{ on := 13, ground := Go.Ground.data }, { on := 16, ground := Go.Ground.gcOnly Go.Departure.lateStores }], guard := none }, { dst := some 9, op := Go.Op.assign (Go.Operand.tmp 102), type := 3, pos := "law.go:93", after := #[{ on := 14, ground := Go.Ground.data }, { on := 12, ground := Go.Ground.chain }, { on := 0, ground := Go.Ground.phase }, { on := 1, ground := Go.Ground.phase }, { on := 2, ground := Go.Ground.phase }, { on := 3, ground := Go.Ground.phase }, { on := 4, ground := Go.Ground.phase }, { on := 5, ground := Go.Ground.phase }, { on := 6, ground := Go.Ground.phase }, { on := 7, ground := Go.Ground.phase }, { on := 8, ground := Go.Ground.phase }, { on := 9, ground := Go.Ground.phase }, { on := 10, ground := Go.Ground.phase }, { on := 11, ground := Go.Ground.phase }, { on := 12, ground := Go.Ground.phase }, { on := 13, ground := Go.Ground.phase }, { on := 14, ground := Go.Ground.phase }, { on := 15, ground := Go.Ground.textOnly Go.Departure.lateStores }], guard := none }, { dst := some 10, op := Go.Op.assign (Go.Operand.tmp 103), type := 24, pos := "law.go:93", after := #[{ on := 15, ground := Go.Ground.data }, { on := 16, ground := Go.Ground.chain }, { on := 0, ground := Go.Ground.phase }, { on := 1, ground := Go.Ground.phase }, { on := 2, ground := Go.Ground.phase }, { on := 3, ground := Go.Ground.phase }, { on := 4, ground := Go.Ground.phase }, { on := 5, ground := Go.Ground.phase }, { on := 6, ground := Go.Ground.phase }, { on := 7, ground := Go.Ground.phase }, { on := 8, ground := Go.Ground.phase }, { on := 9, ground := Go.Ground.phase }, { on := 10, ground := Go.Ground.phase }, { on := 11, ground := Go.Ground.phase }, { on := 12, ground := Go.Ground.phase }, { on := 13, ground := Go.Ground.phase }, { on := 14, ground := Go.Ground.phase }, { on := 15, ground := Go.Ground.phase }, { on := 16, ground := Go.Ground.phase }], guard := none }]
theorem ops17_0 : ops17[0]? = some { dst := some 89, op := Go.Op.buildSlice 22 0 #[], type := 22, pos := "law.go:93", after := #[], guard := none } := by kernel_rfl
theorem ops17_1 : ops17[1]? = some { dst := some 90, op := Go.Op.move (Go.Operand.tmp 3), type := 32, pos := "law.go:93", after := #[], guard := none } := by kernel_rfl
theorem ops17_2 : ops17[2]? = some { dst := some 91, op := Go.Op.move (Go.Operand.tmp 5), type := 3, pos := "law.go:93", after := #[], guard := none } := by kernel_rfl
theorem ops17_3 : ops17[3]? = some { dst := some 92, op := Go.Op.indexAddr 32 (Go.Operand.tmp 90) (Go.Operand.tmp 91), type := 0, pos := "law.go:93", after := #[{ on := 1, ground := Go.Ground.data }, { on := 2, ground := Go.Ground.data }], guard := none } := by kernel_rfl
theorem ops17_4 : ops17[4]? = some { dst := some 93, op := Go.Op.load 22 (Go.Operand.tmp 92), type := 22, pos := "law.go:93", after := #[{ on := 3, ground := Go.Ground.data }], guard := none } := by kernel_rfl
theorem ops17_5 : ops17[5]? = some { dst := some 94, op := Go.Op.call { callee := Go.Callee.builtin Go.Builtin.append, args := #[Go.Operand.tmp 89, Go.Operand.tmp 93], argTypes := #[22, 22] }, type := 22, pos := "law.go:93", after := #[{ on := 0, ground := Go.Ground.data }, { on := 4, ground := Go.Ground.data }], guard := none } := by kernel_rfl
theorem ops17_6 : ops17[6]? = some { dst := some 95, op := Go.Op.move (Go.Operand.tmp 0), type := 22, pos := "law.go:93", after := #[], guard := none } := by kernel_rfl
theorem ops17_7 : ops17[7]? = some { dst := some 96, op := Go.Op.move (Go.Operand.tmp 4), type := 3, pos := "law.go:93", after := #[], guard := none } := by kernel_rfl
theorem ops17_8 : ops17[8]? = some { dst := some 97, op := Go.Op.indexAddr 22 (Go.Operand.tmp 95) (Go.Operand.tmp 96), type := 0, pos := "law.go:93", after := #[{ on := 6, ground := Go.Ground.data }, { on := 7, ground := Go.Ground.data }], guard := none } := by kernel_rfl
theorem ops17_9 : ops17[9]? = some { dst := some 98, op := Go.Op.load 39 (Go.Operand.tmp 97), type := 39, pos := "law.go:93", after := #[{ on := 8, ground := Go.Ground.data }], guard := none } := by kernel_rfl
theorem ops17_10 : ops17[10]? = some { dst := some 99, op := Go.Op.buildSlice 22 1 #[(0, Go.Operand.tmp 98)], type := 22, pos := "law.go:93", after := #[{ on := 9, ground := Go.Ground.data }], guard := none } := by kernel_rfl
theorem ops17_11 : ops17[11]? = some { dst := some 100, op := Go.Op.call { callee := Go.Callee.builtin Go.Builtin.append, args := #[Go.Operand.tmp 94, Go.Operand.tmp 99], argTypes := #[22, 22] }, type := 22, pos := "law.go:93", after := #[{ on := 5, ground := Go.Ground.data }, { on := 10, ground := Go.Ground.data }, { on := 5, ground := Go.Ground.chain }], guard := none } := by kernel_rfl
theorem ops17_12 : ops17[12]? = some { dst := some 101, op := Go.Op.call { callee := Go.Callee.value (Go.Operand.func 8), args := #[Go.Operand.tmp 100], argTypes := #[22] }, type := 25, pos := "law.go:93", after := #[{ on := 11, ground := Go.Ground.data }, { on := 11, ground := Go.Ground.chain }], guard := none } := by kernel_rfl
theorem ops17_13 : ops17[13]? = some { dst := some 88, op := Go.Op.move (Go.Operand.tmp 101), type := 25, pos := "law.go:93", after := #[{ on := 12, ground := Go.Ground.data }], guard := none } := by kernel_rfl
theorem ops17_14 : ops17[14]? = some { dst := some 102, op := Go.Op.extract (Go.Operand.tmp 88) 0, type := 3, pos := "law.go:93", after := #[{ on := 13, ground := Go.Ground.data }], guard := none } := by kernel_rfl
theorem ops17_15 : ops17[15]? = some { dst := some 103, op := Go.Op.extract (Go.Operand.tmp 88) 1, type := 24, pos := "law.go:93", after := #[{ on := 13, ground := Go.Ground.data }, { on := 16, ground := Go.Ground.gcOnly Go.Departure.lateStores }], guard := none } := by kernel_rfl
theorem ops17_16 : ops17[16]? = some { dst := some 9, op := Go.Op.assign (Go.Operand.tmp 102), type := 3, pos := "law.go:93", after := #[{ on := 14, ground := Go.Ground.data }, { on := 12, ground := Go.Ground.chain }, { on := 0, ground := Go.Ground.phase }, { on := 1, ground := Go.Ground.phase }, { on := 2, ground := Go.Ground.phase }, { on := 3, ground := Go.Ground.phase }, { on := 4, ground := Go.Ground.phase }, { on := 5, ground := Go.Ground.phase }, { on := 6, ground := Go.Ground.phase }, { on := 7, ground := Go.Ground.phase }, { on := 8, ground := Go.Ground.phase }, { on := 9, ground := Go.Ground.phase }, { on := 10, ground := Go.Ground.phase }, { on := 11, ground := Go.Ground.phase }, { on := 12, ground := Go.Ground.phase }, { on := 13, ground := Go.Ground.phase }, { on := 14, ground := Go.Ground.phase }, { on := 15, ground := Go.Ground.textOnly Go.Departure.lateStores }], guard := none } := by kernel_rfl
theorem ops17_17 : ops17[17]? = some { dst := some 10, op := Go.Op.assign (Go.Operand.tmp 103), type := 24, pos := "law.go:93", after := #[{ on := 15, ground := Go.Ground.data }, { on := 16, ground := Go.Ground.chain }, { on := 0, ground := Go.Ground.phase }, { on := 1, ground := Go.Ground.phase }, { on := 2, ground := Go.Ground.phase }, { on := 3, ground := Go.Ground.phase }, { on := 4, ground := Go.Ground.phase }, { on := 5, ground := Go.Ground.phase }, { on := 6, ground := Go.Ground.phase }, { on := 7, ground := Go.Ground.phase }, { on := 8, ground := Go.Ground.phase }, { on := 9, ground := Go.Ground.phase }, { on := 10, ground := Go.Ground.phase }, { on := 11, ground := Go.Ground.phase }, { on := 12, ground := Go.Ground.phase }, { on := 13, ground := Go.Ground.phase }, { on := 14, ground := Go.Ground.phase }, { on := 15, ground := Go.Ground.phase }, { on := 16, ground := Go.Ground.phase }], guard := none } := by kernel_rfl
set_option maxRecDepth 100000 in
set_option maxHeartbeats 1500000 in
theorem reg17 {x1 x2 x6 x7 x8 x9 x10 x11 x12 x13 x14 x15 x16 x17 x18 x19 x20 x21 x22 x23 x24 x25 x26 x27 x28 x29 x30 x31 x32 x33 x34 x35 x36 x37 x38 x39 x40 x41 x42 x43 x44 x45 x46 x47 x48 x49 x50 x51 x52 x53 x54 x55 x56 x57 x58 x59 x60 x61 x62 x63 x64 x65 x66 x67 x68 x69 x70 x71 x72 x73 x74 x75 x76 x77 x78 x79 x80 x81 x82 x83 x84 x85 x86 x87 x88 x89 x90 x91 x92 x93 x94 x95 x96 x97 x98 x99 x100 x101 x102 x103 x104 x105 x106 x107 x108 x109 x110 x111 x112 : Value} {Q : Exit → Act → World → Prop} {V0 : World} {b off nl cap gb go nr capr i n ul uc : Nat} {ua : Option Addr} {r : List Deed} {x : Deed} {c d : Int}
    (hS0 : V0.drew.cell? ⟨gb, go + i, none⟩ = some (.slice ua ul uc) ∧ V0.drew.cell? ⟨b, off + n * 6, none⟩ = some (.int .u8 x.k) ∧ V0.drew.cell? ⟨b, off + n * 6 + 1, none⟩ = some (.string x.s) ∧ V0.drew.cell? ⟨b, off + n * 6 + 2, none⟩ = some (.int .u8 x.o) ∧ V0.drew.cell? ⟨b, off + n * 6 + 3, none⟩ = some (.bool x.i) ∧ V0.drew.cell? ⟨b, off + n * 6 + 4, none⟩ = some (.int .i64 x.e) ∧ V0.drew.cell? ⟨b, off + n * 6 + 5, none⟩ = some (.int .i64 x.c)) (hin : i < nr) (hnn : n < nl) (hrv : SeesC V0.drew (.slice ua ul uc) r.length 6 (flatA r)) (hr : r.length ≤ 1000) (hC : ∀ (u : World) (p : Value), u.ownsRow V0.drew.heap.size 39 6 p (r.length + 1) (flatA r ++ x.cells) → Below V0.drew.heap.size V0.drew u → Calls Try.prog 8 #[p] u fun e w' => e = .returned (.tuple #[.int .i64 c, .int .i64 d]) ∧ Below u.heap.size u w') (hpan : ∀ c (a : Act) w (dd : Tmp) vv, Q (.panic c) (a.put (some dd) vv) w → Q (.panic c) a w)
    (hQ : ∀ (W : World) (t88 t89 t90 t91 t92 t93 t94 t95 t96 t97 t98 t99 t100 t101 t102 t103 : Value), Below V0.drew.heap.size V0.drew W → Q .normal { tmps := #[.slice (some ⟨b, off, none⟩) nl cap, x1, x2, .slice (some ⟨gb, go, none⟩) nr capr, .int .i64 n, .int .i64 i, x6, x7, x8, .int .i64 c, .int .i64 d, x11, x12, x13, x14, x15, x16, x17, x18, x19, x20, x21, x22, x23, x24, x25, x26, x27, x28, x29, x30, x31, x32, x33, x34, x35, x36, x37, x38, x39, x40, x41, x42, x43, x44, x45, x46, x47, x48, x49, x50, x51, x52, x53, x54, x55, x56, x57, x58, x59, x60, x61, x62, x63, x64, x65, x66, x67, x68, x69, x70, x71, x72, x73, x74, x75, x76, x77, x78, x79, x80, x81, x82, x83, x84, x85, x86, x87, t88, t89, t90, t91, t92, t93, t94, t95, t96, t97, t98, t99, t100, t101, t102, t103, x104, x105, x106, x107, x108, x109, x110, x111, x112], defers := [] } W) :
    (Code.region 17 ops17 true).wp Try.prog Q { tmps := #[.slice (some ⟨b, off, none⟩) nl cap, x1, x2, .slice (some ⟨gb, go, none⟩) nr capr, .int .i64 n, .int .i64 i, x6, x7, x8, x9, x10, x11, x12, x13, x14, x15, x16, x17, x18, x19, x20, x21, x22, x23, x24, x25, x26, x27, x28, x29, x30, x31, x32, x33, x34, x35, x36, x37, x38, x39, x40, x41, x42, x43, x44, x45, x46, x47, x48, x49, x50, x51, x52, x53, x54, x55, x56, x57, x58, x59, x60, x61, x62, x63, x64, x65, x66, x67, x68, x69, x70, x71, x72, x73, x74, x75, x76, x77, x78, x79, x80, x81, x82, x83, x84, x85, x86, x87, x88, x89, x90, x91, x92, x93, x94, x95, x96, x97, x98, x99, x100, x101, x102, x103, x104, x105, x106, x107, x108, x109, x110, x111, x112], defers := [] } V0 := by
  refine wp_region_Z (fun y => y.cell? ⟨gb, go + i, none⟩ = some (.slice ua ul uc) ∧ y.cell? ⟨b, off + n * 6, none⟩ = some (.int .u8 x.k) ∧ y.cell? ⟨b, off + n * 6 + 1, none⟩ = some (.string x.s) ∧ y.cell? ⟨b, off + n * 6 + 2, none⟩ = some (.int .u8 x.o) ∧ y.cell? ⟨b, off + n * 6 + 3, none⟩ = some (.bool x.i) ∧ y.cell? ⟨b, off + n * 6 + 4, none⟩ = some (.int .i64 x.e) ∧ y.cell? ⟨b, off + n * 6 + 5, none⟩ = some (.int .i64 x.c)) 17 Try.mixed ?_
  obtain ⟨V, hV⟩ : ∃ V, V0.drew = V := ⟨_, rfl⟩
  rw [hV] at hS0 hrv hC hQ ⊢
  clear hV
  have HQ := hidI hQ
  have HPan := hidI hpan
  clear hQ hpan
  have HRV : Hid (∀ y : World, Below V.heap.size V y → SeesC y (.slice ua ul uc) r.length 6 (flatA r)) := hidI fun y hy => hrv.below hy (Nat.le_refl _)
  have HC := hidI hC
  have kin : (i : Int) < (nr : Int) := by omega
  have knn : (n : Int) < (nl : Int) := by omega
  clear hrv hin hnn hC
  refine wpZ_take [17] (i := 1) (v := (.slice (some ⟨gb, go, none⟩) nr capr)) ops17_1 (by kernel_rfl) (by kernel_rfl) (by kernel_rfl) (by kernel_rfl) (fun c a w h => HPan.out c a w _ _ h) (.inl ⟨by rfl, fun y hy => ?_⟩) hS0 ?_
  · go_simp
  refine wpZ_take [17] (i := 2) (v := (.int .i64 i)) ops17_2 (by kernel_rfl) (by kernel_rfl) (by kernel_rfl) (by kernel_rfl) (fun c a w h => HPan.out c a w _ _ h) (.inl ⟨by rfl, fun y hy => ?_⟩) hS0 ?_
  · go_simp
  refine wpZ_take [17] (i := 3) (v := (.pointer (some ⟨gb, go + i, none⟩))) ops17_3 (by kernel_rfl) (by kernel_rfl) (by kernel_rfl) (by kernel_rfl) (fun c a w h => HPan.out c a w _ _ h) (.inl ⟨by rfl, fun y hy => ?_⟩) hS0 ?_
  · go_simp
  refine wpZ_take [17] (i := 4) (v := (.slice ua ul uc)) ops17_4 (by kernel_rfl) (by kernel_rfl) (by kernel_rfl) (by kernel_rfl) (fun c a w h => HPan.out c a w _ _ h) (.inl ⟨by rfl, fun y hy => ?_⟩) hS0 ?_
  · obtain ⟨y0, y1, y2, y3, y4, y5, y6⟩ := hy; go_simp
  refine wpZ_take [17] (i := 6) (v := (.slice (some ⟨b, off, none⟩) nl cap)) ops17_6 (by kernel_rfl) (by kernel_rfl) (by kernel_rfl) (by kernel_rfl) (fun c a w h => HPan.out c a w _ _ h) (.inl ⟨by rfl, fun y hy => ?_⟩) hS0 ?_
  · go_simp
  refine wpZ_take [17] (i := 7) (v := (.int .i64 n)) ops17_7 (by kernel_rfl) (by kernel_rfl) (by kernel_rfl) (by kernel_rfl) (fun c a w h => HPan.out c a w _ _ h) (.inl ⟨by rfl, fun y hy => ?_⟩) hS0 ?_
  · go_simp
  refine wpZ_take [17] (i := 8) (v := (.pointer (some ⟨b, off + n * 6, none⟩))) ops17_8 (by kernel_rfl) (by kernel_rfl) (by kernel_rfl) (by kernel_rfl) (fun c a w h => HPan.out c a w _ _ h) (.inl ⟨by rfl, fun y hy => ?_⟩) hS0 ?_
  · go_simp
  refine wpZ_take [17] (i := 9) (v := (.agg #[.int .u8 x.k, .string x.s, .int .u8 x.o, .bool x.i, .int .i64 x.e, .int .i64 x.c])) ops17_9 (by kernel_rfl) (by kernel_rfl) (by kernel_rfl) (by kernel_rfl) (fun c a w h => HPan.out c a w _ _ h) (.inl ⟨by rfl, fun y hy => ?_⟩) hS0 ?_
  · obtain ⟨y0, y1, y2, y3, y4, y5, y6⟩ := hy; go_simp
  have HKS : Hid (∀ y : World, Below V.heap.size V y → y.cell? ⟨gb, go + i, none⟩ = some (.slice ua ul uc) ∧ y.cell? ⟨b, off + n * 6, none⟩ = some (.int .u8 x.k) ∧ y.cell? ⟨b, off + n * 6 + 1, none⟩ = some (.string x.s) ∧ y.cell? ⟨b, off + n * 6 + 2, none⟩ = some (.int .u8 x.o) ∧ y.cell? ⟨b, off + n * 6 + 3, none⟩ = some (.bool x.i) ∧ y.cell? ⟨b, off + n * 6 + 4, none⟩ = some (.int .i64 x.e) ∧ y.cell? ⟨b, off + n * 6 + 5, none⟩ = some (.int .i64 x.c)) := hidI fun y hy => by
    have z : ∀ {p : Addr} {v : Value}, V.cell? p = some v → y.cell? p = some v := fun {p v} hc => (hy.cell (World.block_lt_of_cell? V _ hc)).trans hc
    exact ⟨z hS0.1, z hS0.2.1, z hS0.2.2.1, z hS0.2.2.2.1, z hS0.2.2.2.2.1, z hS0.2.2.2.2.2.1, z hS0.2.2.2.2.2.2⟩
  have HOI : Hid (((V.alloc (Obj.cells #[] 39)).alloc (Obj.cells #[.int .u8 x.k, .string x.s, .int .u8 x.o, .bool x.i, .int .i64 x.e, .int .i64 x.c] 39)).ownsRow V.heap.size 39 6 (.slice (some ⟨V.heap.size, 0, none⟩) 0 0) 0 []) := hidI ((World.ownsRow_made (base := V.heap.size) (e := 39) (size := 6) V #[] 0 (Nat.le_refl _) (by unfold maxLen; omega) rfl).alloc _)
  have HOII : Hid ((V.alloc (Obj.cells #[] 39)).ownsRow V.heap.size 39 6 (.slice (some ⟨V.heap.size, 0, none⟩) 0 0) 0 []) := hidI (World.ownsRow_made (base := V.heap.size) (e := 39) (size := 6) V #[] 0 (Nat.le_refl _) (by unfold maxLen; omega) rfl)
  have HOIII : Hid (((V.alloc (Obj.cells #[.int .u8 x.k, .string x.s, .int .u8 x.o, .bool x.i, .int .i64 x.e, .int .i64 x.c] 39)).alloc (Obj.cells #[] 39)).ownsRow V.heap.size 39 6 (.slice (some ⟨V.heap.size + 1, 0, none⟩) 0 0) 0 []) := hidI (by
    have := World.ownsRow_made (base := V.heap.size) (e := 39) (size := 6) (V.alloc (Obj.cells #[.int .u8 x.k, .string x.s, .int .u8 x.o, .bool x.i, .int .i64 x.e, .int .i64 x.c] 39)) #[] 0 (by simp) (by unfold maxLen; omega) rfl
    rwa [World.size_alloc] at this)
  refine wpZ_all (rs := [0, 10]) (by kernel_rfl) (by simp) fun j0 hj0 => ?_
  have hj01 : j0 = 0 ∨ j0 = 10 := by simp only [List.mem_cons, List.mem_nil_iff, or_false] at hj0; omega
  clear hj0
  rcases hj01 with rfl | rfl
  · refine wpOp_go ops17_0 rfl fun K1 hK1 => ?_
    unfold Oper.wp
    go_simp
    refine hK1 _ _ ⟨fun _ => HKS.out _ (by (repeat (first | exact Below.refl _ _ | assumption | refine Below.drew ?_ | refine Below.alloc ?_ (by first | omega | (simp; done) | (simp; omega)) _ | refine Below.setCell ?_ (by first | omega | (simp; done) | (simp; omega)) _))), ?_⟩
    clear hK1 K1
    refine wpZ_all (rs := [5, 10]) (by kernel_rfl) (by simp) fun j1 hj1 => ?_
    have hj12 : j1 = 10 ∨ j1 = 5 := by simp only [List.mem_cons, List.mem_nil_iff, or_false] at hj1; omega
    clear hj1
    rcases hj12 with rfl | rfl
    · refine wpOp_go ops17_10 rfl fun K1 hK1 => ?_
      unfold Oper.wp
      go_simp
      refine hK1 _ _ ⟨fun _ => HKS.out _ (by (repeat (first | exact Below.refl _ _ | assumption | refine Below.drew ?_ | refine Below.alloc ?_ (by first | omega | (simp; done) | (simp; omega)) _ | refine Below.setCell ?_ (by first | omega | (simp; done) | (simp; omega)) _))), ?_⟩
      clear hK1 K1
      refine wpZ_all (rs := [5]) (by kernel_rfl) (by simp) fun j5 hj5 => ?_
      obtain rfl : j5 = 5 := by simpa using hj5
      refine wpOp_go ops17_5 rfl fun K1 hK1 => ?_
      refine wp_append_any Try.underlying22 Try.info39 rfl (by decide) (by decide) _ _ rfl V.heap.size (.slice (some ⟨V.heap.size, 0, none⟩) 0 0) 0 [] rfl HOI.out (.slice ua ul uc) (r.length) (flatA r) rfl (HRV.out _ (by (repeat (first | exact Below.refl _ _ | assumption | refine Below.drew ?_ | refine Below.alloc ?_ (by first | omega | (simp; done) | (simp; omega)) _ | refine Below.setCell ?_ (by first | omega | (simp; done) | (simp; omega)) _)))) flatA_cells (by omega) (by simp only [World.size_alloc]; omega) ?_
      intro vA W3 hown3 hgrow3 hat3
      rw [Nat.zero_add, List.nil_append] at hown3
      have hB3 : Below V.heap.size V W3 := Below.grown (w := (V.alloc (Obj.cells #[] 39)).alloc (Obj.cells #[.int .u8 x.k, .string x.s, .int .u8 x.o, .bool x.i, .int .i64 x.e, .int .i64 x.c] 39)) (by (repeat (first | exact Below.refl _ _ | assumption | refine Below.drew ?_ | refine Below.alloc ?_ (by first | omega | (simp; done) | (simp; omega)) _ | refine Below.setCell ?_ (by first | omega | (simp; done) | (simp; omega)) _))) hgrow3 (by simp only [World.size_alloc]; omega) (fun k hk => ((HOI.out).lt k hk).1)
      have HOA : Hid (W3.ownsRow V.heap.size 39 6 vA (r.length) (flatA r)) := hidI hown3
      have HSX : Hid (SeesC W3 (.slice (some ⟨V.heap.size + 1, 0, none⟩) 1 1) 1 6 (x.cells)) := hidI (SeesC.grown (by have := act_seen (W := V.alloc (Obj.cells #[] 39)) x; rwa [World.size_alloc] at this) hgrow3 (by simp [Value.ownBlock]))
      have HBF := hidI hB3
      refine hK1 _ _ ⟨fun _ => HKS.out _ HBF.out, ?_⟩
      clear hK1 K1 hown3 hgrow3 hat3 hB3
      refine wpZ_all (rs := [11]) (by kernel_rfl) (by simp) fun j11 hj11 => ?_
      obtain rfl : j11 = 11 := by simpa using hj11
      refine wpOp_go ops17_11 rfl fun K1 hK1 => ?_
      refine wp_append_any Try.underlying22 Try.info39 rfl (by decide) (by decide) _ _ rfl V.heap.size vA (r.length) (flatA r) rfl HOA.out _ 1 (x.cells) rfl HSX.out (cells_one x) (by omega) HBF.out.size ?_
      intro vB W5 hown5 hgrow5 hat5
      have HB5 : Hid (Below V.heap.size V W5) := hidI (HBF.out.grown hgrow5 HBF.out.size (fun k hk => (HOA.out.lt k hk).1))
      have HOB := hidI hown5
      refine hK1 _ _ ⟨fun _ => HKS.out _ HB5.out, ?_⟩
      clear hK1 K1 hown5 hgrow5 hat5 HOA HSX HBF
      refine wpZ_all (rs := [12]) (by kernel_rfl) (by simp) fun j12 hj12 => ?_
      obtain rfl : j12 = 12 := by simpa using hj12
      refine wpOp_go ops17_12 rfl fun K1 hK1 => ?_
      unfold Oper.wp
      go_simp
      refine Calls.mono (HC.out _ _ HOB.out HB5.out) ?_
      rintro e w12 ⟨rfl, hb12⟩
      have hB12 : Below V.heap.size V w12 := HB5.out.trans (hb12.mono HB5.out.size)
      have hS12 := HKS.out _ hB12
      refine hK1 _ _ ⟨fun _ => hS12, ?_⟩
      clear hK1 K1
      refine wpZ_take [17] (i := 13) (v := (.tuple #[.int .i64 c, .int .i64 d])) ops17_13 (by kernel_rfl) (by kernel_rfl) (by kernel_rfl) (by kernel_rfl) (fun c a w h => HPan.out c a w _ _ h) (.inl ⟨by rfl, fun y hy => ?_⟩) hS12 ?_
      · go_simp
      refine wpZ_take [17] (i := 14) (v := (.int .i64 c)) ops17_14 (by kernel_rfl) (by kernel_rfl) (by kernel_rfl) (by kernel_rfl) (fun c a w h => HPan.out c a w _ _ h) (.inl ⟨by rfl, fun y hy => ?_⟩) hS12 ?_
      · go_simp
      refine wpZ_take [17] (i := 15) (v := (.int .i64 d)) ops17_15 (by kernel_rfl) (by kernel_rfl) (by kernel_rfl) (by kernel_rfl) (fun c a w h => HPan.out c a w _ _ h) (.inl ⟨by rfl, fun y hy => ?_⟩) hS12 ?_
      · go_simp
      refine wpZ_take [17] (i := 16) (v := (.int .i64 c)) ops17_16 (by kernel_rfl) (by kernel_rfl) (by kernel_rfl) (by kernel_rfl) (fun c a w h => HPan.out c a w _ _ h) (.inl ⟨by rfl, fun y hy => ?_⟩) hS12 ?_
      · go_simp
      refine wpZ_last (by kernel_rfl) (by kernel_rfl) ?_ _
      refine wpOp_go ops17_17 rfl fun K1 hK1 => ?_
      unfold Oper.wp
      go_simp
      refine hK1 _ _ ?_
      exact HQ.out _ _ _ _ _ _ _ _ _ _ _ _ _ _ _ _ _ hB12
    · refine wpOp_go ops17_5 rfl fun K1 hK1 => ?_
      refine wp_append_any Try.underlying22 Try.info39 rfl (by decide) (by decide) _ _ rfl V.heap.size (.slice (some ⟨V.heap.size, 0, none⟩) 0 0) 0 [] rfl HOII.out (.slice ua ul uc) (r.length) (flatA r) rfl (HRV.out _ (by (repeat (first | exact Below.refl _ _ | assumption | refine Below.drew ?_ | refine Below.alloc ?_ (by first | omega | (simp; done) | (simp; omega)) _ | refine Below.setCell ?_ (by first | omega | (simp; done) | (simp; omega)) _)))) flatA_cells (by omega) (by simp only [World.size_alloc]; omega) ?_
      intro vA W3 hown3 hgrow3 hat3
      rw [Nat.zero_add, List.nil_append] at hown3
      have hB3 : Below V.heap.size V W3 := Below.grown (w := V.alloc (Obj.cells #[] 39)) (by (repeat (first | exact Below.refl _ _ | assumption | refine Below.drew ?_ | refine Below.alloc ?_ (by first | omega | (simp; done) | (simp; omega)) _ | refine Below.setCell ?_ (by first | omega | (simp; done) | (simp; omega)) _))) hgrow3 (by simp only [World.size_alloc]; omega) (fun k hk => ((HOII.out).lt k hk).1)
      have HOA : Hid (W3.ownsRow V.heap.size 39 6 vA (r.length) (flatA r)) := hidI hown3
      refine hK1 _ _ ⟨fun _ => HKS.out _ hB3, ?_⟩
      clear hK1 K1
      refine wpZ_all (rs := [10]) (by kernel_rfl) (by simp) fun j10 hj10 => ?_
      obtain rfl : j10 = 10 := by simpa using hj10
      refine wpOp_go ops17_10 rfl fun K1 hK1 => ?_
      unfold Oper.wp
      go_simp
      have HB4 : Hid (Below V.heap.size V (W3.alloc (Obj.cells #[.int .u8 x.k, .string x.s, .int .u8 x.o, .bool x.i, .int .i64 x.e, .int .i64 x.c] 39))) := hidI (hB3.alloc hB3.size _)
      have HOAb : Hid ((W3.alloc (Obj.cells #[.int .u8 x.k, .string x.s, .int .u8 x.o, .bool x.i, .int .i64 x.e, .int .i64 x.c] 39)).ownsRow V.heap.size 39 6 vA (r.length) (flatA r)) := hidI (HOA.out.alloc _)
      have HSX : Hid (SeesC (W3.alloc (Obj.cells #[.int .u8 x.k, .string x.s, .int .u8 x.o, .bool x.i, .int .i64 x.e, .int .i64 x.c] 39)) (.slice (some ⟨W3.heap.size, 0, none⟩) 1 1) 1 6 (x.cells)) := hidI (act_seen (W := W3) x)
      refine hK1 _ _ ⟨fun _ => HKS.out _ HB4.out, ?_⟩
      clear hK1 K1 HOA hown3 hgrow3 hat3
      generalize W3.heap.size = gx at *
      generalize W3.alloc (Obj.cells #[.int .u8 x.k, .string x.s, .int .u8 x.o, .bool x.i, .int .i64 x.e, .int .i64 x.c] 39) = W4 at *
      have HOA := HOAb
      have HBF := HB4
      refine wpZ_all (rs := [11]) (by kernel_rfl) (by simp) fun j11 hj11 => ?_
      obtain rfl : j11 = 11 := by simpa using hj11
      refine wpOp_go ops17_11 rfl fun K1 hK1 => ?_
      refine wp_append_any Try.underlying22 Try.info39 rfl (by decide) (by decide) _ _ rfl V.heap.size vA (r.length) (flatA r) rfl HOA.out _ 1 (x.cells) rfl HSX.out (cells_one x) (by omega) HBF.out.size ?_
      intro vB W5 hown5 hgrow5 hat5
      have HB5 : Hid (Below V.heap.size V W5) := hidI (HBF.out.grown hgrow5 HBF.out.size (fun k hk => (HOA.out.lt k hk).1))
      have HOB := hidI hown5
      refine hK1 _ _ ⟨fun _ => HKS.out _ HB5.out, ?_⟩
      clear hK1 K1 hown5 hgrow5 hat5 HOA HSX HBF
      refine wpZ_all (rs := [12]) (by kernel_rfl) (by simp) fun j12 hj12 => ?_
      obtain rfl : j12 = 12 := by simpa using hj12
      refine wpOp_go ops17_12 rfl fun K1 hK1 => ?_
      unfold Oper.wp
      go_simp
      refine Calls.mono (HC.out _ _ HOB.out HB5.out) ?_
      rintro e w12 ⟨rfl, hb12⟩
      have hB12 : Below V.heap.size V w12 := HB5.out.trans (hb12.mono HB5.out.size)
      have hS12 := HKS.out _ hB12
      refine hK1 _ _ ⟨fun _ => hS12, ?_⟩
      clear hK1 K1
      refine wpZ_take [17] (i := 13) (v := (.tuple #[.int .i64 c, .int .i64 d])) ops17_13 (by kernel_rfl) (by kernel_rfl) (by kernel_rfl) (by kernel_rfl) (fun c a w h => HPan.out c a w _ _ h) (.inl ⟨by rfl, fun y hy => ?_⟩) hS12 ?_
      · go_simp
      refine wpZ_take [17] (i := 14) (v := (.int .i64 c)) ops17_14 (by kernel_rfl) (by kernel_rfl) (by kernel_rfl) (by kernel_rfl) (fun c a w h => HPan.out c a w _ _ h) (.inl ⟨by rfl, fun y hy => ?_⟩) hS12 ?_
      · go_simp
      refine wpZ_take [17] (i := 15) (v := (.int .i64 d)) ops17_15 (by kernel_rfl) (by kernel_rfl) (by kernel_rfl) (by kernel_rfl) (fun c a w h => HPan.out c a w _ _ h) (.inl ⟨by rfl, fun y hy => ?_⟩) hS12 ?_
      · go_simp
      refine wpZ_take [17] (i := 16) (v := (.int .i64 c)) ops17_16 (by kernel_rfl) (by kernel_rfl) (by kernel_rfl) (by kernel_rfl) (fun c a w h => HPan.out c a w _ _ h) (.inl ⟨by rfl, fun y hy => ?_⟩) hS12 ?_
      · go_simp
      refine wpZ_last (by kernel_rfl) (by kernel_rfl) ?_ _
      refine wpOp_go ops17_17 rfl fun K1 hK1 => ?_
      unfold Oper.wp
      go_simp
      refine hK1 _ _ ?_
      exact HQ.out _ _ _ _ _ _ _ _ _ _ _ _ _ _ _ _ _ hB12
  · refine wpOp_go ops17_10 rfl fun K1 hK1 => ?_
    unfold Oper.wp
    go_simp
    refine hK1 _ _ ⟨fun _ => HKS.out _ (by (repeat (first | exact Below.refl _ _ | assumption | refine Below.drew ?_ | refine Below.alloc ?_ (by first | omega | (simp; done) | (simp; omega)) _ | refine Below.setCell ?_ (by first | omega | (simp; done) | (simp; omega)) _))), ?_⟩
    clear hK1 K1
    refine wpZ_all (rs := [0]) (by kernel_rfl) (by simp) fun j0 hj0 => ?_
    obtain rfl : j0 = 0 := by simpa using hj0
    refine wpOp_go ops17_0 rfl fun K1 hK1 => ?_
    unfold Oper.wp
    go_simp
    refine hK1 _ _ ⟨fun _ => HKS.out _ (by (repeat (first | exact Below.refl _ _ | assumption | refine Below.drew ?_ | refine Below.alloc ?_ (by first | omega | (simp; done) | (simp; omega)) _ | refine Below.setCell ?_ (by first | omega | (simp; done) | (simp; omega)) _))), ?_⟩
    clear hK1 K1
    refine wpZ_all (rs := [5]) (by kernel_rfl) (by simp) fun j5 hj5 => ?_
    obtain rfl : j5 = 5 := by simpa using hj5
    refine wpOp_go ops17_5 rfl fun K1 hK1 => ?_
    refine wp_append_any Try.underlying22 Try.info39 rfl (by decide) (by decide) _ _ rfl V.heap.size (.slice (some ⟨V.heap.size + 1, 0, none⟩) 0 0) 0 [] rfl HOIII.out (.slice ua ul uc) (r.length) (flatA r) rfl (HRV.out _ (by (repeat (first | exact Below.refl _ _ | assumption | refine Below.drew ?_ | refine Below.alloc ?_ (by first | omega | (simp; done) | (simp; omega)) _ | refine Below.setCell ?_ (by first | omega | (simp; done) | (simp; omega)) _)))) flatA_cells (by omega) (by simp only [World.size_alloc]; omega) ?_
    intro vA W3 hown3 hgrow3 hat3
    rw [Nat.zero_add, List.nil_append] at hown3
    have hB3 : Below V.heap.size V W3 := Below.grown (w := (V.alloc (Obj.cells #[.int .u8 x.k, .string x.s, .int .u8 x.o, .bool x.i, .int .i64 x.e, .int .i64 x.c] 39)).alloc (Obj.cells #[] 39)) (by (repeat (first | exact Below.refl _ _ | assumption | refine Below.drew ?_ | refine Below.alloc ?_ (by first | omega | (simp; done) | (simp; omega)) _ | refine Below.setCell ?_ (by first | omega | (simp; done) | (simp; omega)) _))) hgrow3 (by simp only [World.size_alloc]; omega) (fun k hk => ((HOIII.out).lt k hk).1)
    have HOA : Hid (W3.ownsRow V.heap.size 39 6 vA (r.length) (flatA r)) := hidI hown3
    have HSX : Hid (SeesC W3 (.slice (some ⟨V.heap.size, 0, none⟩) 1 1) 1 6 (x.cells)) := hidI (SeesC.grown (SeesC.grown (act_seen (W := V) x) (World.grownBy_alloc _ (Obj.cells #[] 39) (some (V.heap.size + 1))) (by simp [Value.ownBlock])) hgrow3 (by simp [Value.ownBlock]))
    have HBF := hidI hB3
    refine hK1 _ _ ⟨fun _ => HKS.out _ HBF.out, ?_⟩
    clear hK1 K1 hown3 hgrow3 hat3 hB3
    refine wpZ_all (rs := [11]) (by kernel_rfl) (by simp) fun j11 hj11 => ?_
    obtain rfl : j11 = 11 := by simpa using hj11
    refine wpOp_go ops17_11 rfl fun K1 hK1 => ?_
    refine wp_append_any Try.underlying22 Try.info39 rfl (by decide) (by decide) _ _ rfl V.heap.size vA (r.length) (flatA r) rfl HOA.out _ 1 (x.cells) rfl HSX.out (cells_one x) (by omega) HBF.out.size ?_
    intro vB W5 hown5 hgrow5 hat5
    have HB5 : Hid (Below V.heap.size V W5) := hidI (HBF.out.grown hgrow5 HBF.out.size (fun k hk => (HOA.out.lt k hk).1))
    have HOB := hidI hown5
    refine hK1 _ _ ⟨fun _ => HKS.out _ HB5.out, ?_⟩
    clear hK1 K1 hown5 hgrow5 hat5 HOA HSX HBF
    refine wpZ_all (rs := [12]) (by kernel_rfl) (by simp) fun j12 hj12 => ?_
    obtain rfl : j12 = 12 := by simpa using hj12
    refine wpOp_go ops17_12 rfl fun K1 hK1 => ?_
    unfold Oper.wp
    go_simp
    refine Calls.mono (HC.out _ _ HOB.out HB5.out) ?_
    rintro e w12 ⟨rfl, hb12⟩
    have hB12 : Below V.heap.size V w12 := HB5.out.trans (hb12.mono HB5.out.size)
    have hS12 := HKS.out _ hB12
    refine hK1 _ _ ⟨fun _ => hS12, ?_⟩
    clear hK1 K1
    refine wpZ_take [17] (i := 13) (v := (.tuple #[.int .i64 c, .int .i64 d])) ops17_13 (by kernel_rfl) (by kernel_rfl) (by kernel_rfl) (by kernel_rfl) (fun c a w h => HPan.out c a w _ _ h) (.inl ⟨by rfl, fun y hy => ?_⟩) hS12 ?_
    · go_simp
    refine wpZ_take [17] (i := 14) (v := (.int .i64 c)) ops17_14 (by kernel_rfl) (by kernel_rfl) (by kernel_rfl) (by kernel_rfl) (fun c a w h => HPan.out c a w _ _ h) (.inl ⟨by rfl, fun y hy => ?_⟩) hS12 ?_
    · go_simp
    refine wpZ_take [17] (i := 15) (v := (.int .i64 d)) ops17_15 (by kernel_rfl) (by kernel_rfl) (by kernel_rfl) (by kernel_rfl) (fun c a w h => HPan.out c a w _ _ h) (.inl ⟨by rfl, fun y hy => ?_⟩) hS12 ?_
    · go_simp
    refine wpZ_take [17] (i := 16) (v := (.int .i64 c)) ops17_16 (by kernel_rfl) (by kernel_rfl) (by kernel_rfl) (by kernel_rfl) (fun c a w h => HPan.out c a w _ _ h) (.inl ⟨by rfl, fun y hy => ?_⟩) hS12 ?_
    · go_simp
    refine wpZ_last (by kernel_rfl) (by kernel_rfl) ?_ _
    refine wpOp_go ops17_17 rfl fun K1 hK1 => ?_
    unfold Oper.wp
    go_simp
    refine hK1 _ _ ?_
    exact HQ.out _ _ _ _ _ _ _ _ _ _ _ _ _ _ _ _ _ hB12
end Go.Proofs.Ytffdgjlojechaaa
