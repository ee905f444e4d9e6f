/-
  A message's value taken in by another one's, in whatever order.
-/
import Derived.Test.YtdfieflcclbgjaaZed
import Derived.Test.YtdfieflcclbgjaaNumR
namespace Go.Proofs.Ytdfieflcclbgjaa
open Go.RowKit Go.Deep Go.MapKept
def ops22 : Array Oper := #[{ dst := some 92, op := Go.Op.move (Go.Operand.tmp 10), type := 22, pos := "ref.go:82", after := #[], guard := none }, { dst := some 93, op := Go.Op.move (Go.Operand.tmp 14), type := 3, pos := "ref.go:82", after := #[], guard := none }, { dst := some 94, op := Go.Op.move (Go.Operand.tmp 1), type := 30, pos := "ref.go:82", after := #[], guard := none }, { dst := some 95, op := Go.Op.fieldAddr 48 (Go.Operand.tmp 12) 1, type := 0, pos := "ref.go:82", after := #[], guard := none }, { dst := some 96, op := Go.Op.load 3 (Go.Operand.tmp 95), type := 3, pos := "ref.go:82", after := #[{ on := 3, ground := Go.Ground.data }], guard := none }, { dst := some 97, op := Go.Op.indexAddr 30 (Go.Operand.tmp 94) (Go.Operand.tmp 96), type := 0, pos := "ref.go:82", after := #[{ on := 2, ground := Go.Ground.data }, { on := 4, ground := Go.Ground.data }], guard := none }, { dst := some 98, op := Go.Op.load 38 (Go.Operand.tmp 97), type := 38, pos := "ref.go:82", after := #[{ on := 5, ground := Go.Ground.data }], guard := none }, { dst := some 99, op := Go.Op.move (Go.Operand.tmp 10), type := 22, pos := "ref.go:82", after := #[], guard := none }, { dst := some 100, op := Go.Op.move (Go.Operand.tmp 14), type := 3, pos := "ref.go:82", after := #[], guard := none }, { dst := some 101, op := Go.Op.indexAddr 22 (Go.Operand.tmp 99) (Go.Operand.tmp 100), type := 0, pos := "ref.go:82", after := #[{ on := 7, ground := Go.Ground.data }, { on := 8, ground := Go.Ground.data }], guard := none }, { dst := some 102, op := Go.Op.fieldAddr 48 (Go.Operand.tmp 101) 2, type := 0, pos := "ref.go:82", after := #[{ on := 9, ground := Go.Ground.data }], guard := none }, { dst := some 103, op := Go.Op.load 31 (Go.Operand.tmp 102), type := 31, pos := "ref.go:82", after := #[{ on := 10, ground := Go.Ground.data }], guard := none }, { dst := some 104, op := Go.Op.fieldAddr 48 (Go.Operand.tmp 12) 2, type := 0, pos := "ref.go:82", after := #[], guard := none }, { dst := some 105, op := Go.Op.load 31 (Go.Operand.tmp 104), type := 31, pos := "ref.go:82", after := #[{ on := 12, ground := Go.Ground.data }], guard := none }, { dst := some 106, op := Go.Op.buildSlice 75 2 #[(0, Go.Operand.tmp 103), (1, Go.Operand.tmp 105)], type := 75, pos := "ref.go:82", after := #[{ on := 11, ground := Go.Ground.data }, { on := 13, ground := Go.Ground.data }], guard := none }, { dst := some 107, op := Go.Op.call { callee := Go.Callee.value (Go.Operand.func 44), args := #[Go.Operand.tmp 98, Go.Operand.tmp 106], argTypes := #[38, 75] }, type := 36, pos := "ref.go:82", after := #[{ on := 6, ground := Go.Ground.data }, { on := 14, ground := Go.Ground.data }], guard := none }, { dst := some 91, op := Go.Op.move (Go.Operand.tmp 107), type := 36, pos := "ref.go:82", after := #[{ on := 15, ground := Go.Ground.data }], guard := none }, { dst := some 108, op := Go.Op.extract (Go.Operand.tmp 91) 0, type := 31, pos := "ref.go:82", after := #[{ on := 16, ground := Go.Ground.data }], guard := none }, { dst := some 109, op := Go.Op.extract (Go.Operand.tmp 91) 1, type := 33, pos := "ref.go:82", after := #[{ on := 16, ground := Go.Ground.data }, { on := 21, ground := Go.Ground.gcOnly Go.Departure.lateStores }], guard := none }, { dst := some 110, op := Go.Op.indexAddr 22 (Go.Operand.tmp 92) (Go.Operand.tmp 93), type := 0, pos := "ref.go:82", after := #[{ on := 0, ground := Go.Ground.data }, { on := 1, ground := Go.Ground.data }, { on := 0, ground := Go.Ground.phase }, { on := 1, ground := Go.Ground.phase }, { on := 2, ground := Go.Ground.phase }, { on := 3, ground := Go.Ground.phase }, { on := 4, ground := Go.Ground.phase }, { on := 5, ground := Go.Ground.phase }, { on := 6, ground := Go.Ground.phase }, { on := 7, ground := Go.Ground.phase }, { on := 8, ground := Go.Ground.phase }, { on := 9, ground := Go.Ground.phase }, { on := 10, ground := Go.Ground.phase }, { on := 11, ground := Go.Ground.phase }, { on := 12, ground := Go.Ground.phase }, { on := 13, ground := Go.Ground.phase }, { on := 14, ground := Go.Ground.phase }, { on := 15, ground := Go.Ground.phase }, { on := 16, ground := Go.Ground.phase }, { on := 17, ground := Go.Ground.phase }, { on := 18, ground := Go.Ground.textOnly Go.Departure.lateStores }], guard := none }, { dst := some 111, op := Go.Op.fieldAddr 48 (Go.Operand.tmp 110) 2, type := 0, pos := "ref.go:82", after := #[{ on := 19, ground := Go.Ground.data }, { on := 0, ground := Go.Ground.phase }, { on := 1, ground := Go.Ground.phase }, { on := 2, ground := Go.Ground.phase }, { on := 3, ground := Go.Ground.phase }, { on := 4, ground := Go.Ground.phase }, { on := 5, ground := Go.Ground.phase }, { on := 6, ground := Go.Ground.phase }, { on := 7, ground := Go.Ground.phase }, { on := 8, ground := Go.Ground.phase }, { on := 9, ground := Go.Ground.phase }, { on := 10, ground := Go.Ground.phase }, { on := 11, ground := Go.Ground.phase }, { on := 12, ground := Go.Ground.phase }, { on := 13, ground := Go.Ground.phase }, { on := 14, ground := Go.Ground.phase }, { on := 15, ground := Go.Ground.phase }, { on := 16, ground := Go.Ground.phase }, { on := 17, ground := Go.Ground.phase }, { on := 18, ground := Go.Ground.textOnly Go.Departure.lateStores }], guard := none }, { dst := none, op := Go.Op.store 31 (Go.Operand.tmp 111) (Go.Operand.tmp 108), type := 0, pos := "ref.go:82", after := #[{ on := 20, ground := Go.Ground.data }, { on := 17, ground := Go.Ground.data }, { on := 15, ground := Go.Ground.chain }, { on := 0, ground := Go.Ground.phase }, { on := 1, ground := Go.Ground.phase }, { on := 2, ground := Go.Ground.phase }, { on := 3, ground := Go.Ground.phase }, { on := 4, ground := Go.Ground.phase }, { on := 5, ground := Go.Ground.phase }, { on := 6, ground := Go.Ground.phase }, { on := 7, ground := Go.Ground.phase }, { on := 8, ground := Go.Ground.phase }, { on := 9, ground := Go.Ground.phase }, { on := 10, ground := Go.Ground.phase }, { on := 11, ground := Go.Ground.phase }, { on := 12, ground := Go.Ground.phase }, { on := 13, ground := Go.Ground.phase }, { on := 14, ground := Go.Ground.phase }, { on := 15, ground := Go.Ground.phase }, { on := 16, ground := Go.Ground.phase }, { on := 17, ground := Go.Ground.phase }, { on := 18, ground := Go.Ground.textOnly Go.Departure.lateStores }], guard := none }]
theorem ops22_0 : ops22[0]? = some { dst := some 92, op := Go.Op.move (Go.Operand.tmp 10), type := 22, pos := "ref.go:82", after := #[], guard := none } := by kernel_rfl
theorem ops22_1 : ops22[1]? = some { dst := some 93, op := Go.Op.move (Go.Operand.tmp 14), type := 3, pos := "ref.go:82", after := #[], guard := none } := by kernel_rfl
theorem ops22_2 : ops22[2]? = some { dst := some 94, op := Go.Op.move (Go.Operand.tmp 1), type := 30, pos := "ref.go:82", after := #[], guard := none } := by kernel_rfl
theorem ops22_3 : ops22[3]? = some { dst := some 95, op := Go.Op.fieldAddr 48 (Go.Operand.tmp 12) 1, type := 0, pos := "ref.go:82", after := #[], guard := none } := by kernel_rfl
theorem ops22_4 : ops22[4]? = some { dst := some 96, op := Go.Op.load 3 (Go.Operand.tmp 95), type := 3, pos := "ref.go:82", after := #[{ on := 3, ground := Go.Ground.data }], guard := none } := by kernel_rfl
theorem ops22_5 : ops22[5]? = some { dst := some 97, op := Go.Op.indexAddr 30 (Go.Operand.tmp 94) (Go.Operand.tmp 96), type := 0, pos := "ref.go:82", after := #[{ on := 2, ground := Go.Ground.data }, { on := 4, ground := Go.Ground.data }], guard := none } := by kernel_rfl
theorem ops22_6 : ops22[6]? = some { dst := some 98, op := Go.Op.load 38 (Go.Operand.tmp 97), type := 38, pos := "ref.go:82", after := #[{ on := 5, ground := Go.Ground.data }], guard := none } := by kernel_rfl
theorem ops22_7 : ops22[7]? = some { dst := some 99, op := Go.Op.move (Go.Operand.tmp 10), type := 22, pos := "ref.go:82", after := #[], guard := none } := by kernel_rfl
theorem ops22_8 : ops22[8]? = some { dst := some 100, op := Go.Op.move (Go.Operand.tmp 14), type := 3, pos := "ref.go:82", after := #[], guard := none } := by kernel_rfl
theorem ops22_9 : ops22[9]? = some { dst := some 101, op := Go.Op.indexAddr 22 (Go.Operand.tmp 99) (Go.Operand.tmp 100), type := 0, pos := "ref.go:82", after := #[{ on := 7, ground := Go.Ground.data }, { on := 8, ground := Go.Ground.data }], guard := none } := by kernel_rfl
theorem ops22_10 : ops22[10]? = some { dst := some 102, op := Go.Op.fieldAddr 48 (Go.Operand.tmp 101) 2, type := 0, pos := "ref.go:82", after := #[{ on := 9, ground := Go.Ground.data }], guard := none } := by kernel_rfl
theorem ops22_11 : ops22[11]? = some { dst := some 103, op := Go.Op.load 31 (Go.Operand.tmp 102), type := 31, pos := "ref.go:82", after := #[{ on := 10, ground := Go.Ground.data }], guard := none } := by kernel_rfl
theorem ops22_12 : ops22[12]? = some { dst := some 104, op := Go.Op.fieldAddr 48 (Go.Operand.tmp 12) 2, type := 0, pos := "ref.go:82", after := #[], guard := none } := by kernel_rfl
theorem ops22_13 : ops22[13]? = some { dst := some 105, op := Go.Op.load 31 (Go.Operand.tmp 104), type := 31, pos := "ref.go:82", after := #[{ on := 12, ground := Go.Ground.data }], guard := none } := by kernel_rfl
theorem ops22_14 : ops22[14]? = some { dst := some 106, op := Go.Op.buildSlice 75 2 #[(0, Go.Operand.tmp 103), (1, Go.Operand.tmp 105)], type := 75, pos := "ref.go:82", after := #[{ on := 11, ground := Go.Ground.data }, { on := 13, ground := Go.Ground.data }], guard := none } := by kernel_rfl
theorem ops22_15 : ops22[15]? = some { dst := some 107, op := Go.Op.call { callee := Go.Callee.value (Go.Operand.func 44), args := #[Go.Operand.tmp 98, Go.Operand.tmp 106], argTypes := #[38, 75] }, type := 36, pos := "ref.go:82", after := #[{ on := 6, ground := Go.Ground.data }, { on := 14, ground := Go.Ground.data }], guard := none } := by kernel_rfl
theorem ops22_16 : ops22[16]? = some { dst := some 91, op := Go.Op.move (Go.Operand.tmp 107), type := 36, pos := "ref.go:82", after := #[{ on := 15, ground := Go.Ground.data }], guard := none } := by kernel_rfl
theorem ops22_17 : ops22[17]? = some { dst := some 108, op := Go.Op.extract (Go.Operand.tmp 91) 0, type := 31, pos := "ref.go:82", after := #[{ on := 16, ground := Go.Ground.data }], guard := none } := by kernel_rfl
theorem ops22_18 : ops22[18]? = some { dst := some 109, op := Go.Op.extract (Go.Operand.tmp 91) 1, type := 33, pos := "ref.go:82", after := #[{ on := 16, ground := Go.Ground.data }, { on := 21, ground := Go.Ground.gcOnly Go.Departure.lateStores }], guard := none } := by kernel_rfl
theorem ops22_19 : ops22[19]? = some { dst := some 110, op := Go.Op.indexAddr 22 (Go.Operand.tmp 92) (Go.Operand.tmp 93), type := 0, pos := "ref.go:82", after := #[{ on := 0, ground := Go.Ground.data }, { on := 1, ground := Go.Ground.data }, { on := 0, ground := Go.Ground.phase }, { on := 1, ground := Go.Ground.phase }, { on := 2, ground := Go.Ground.phase }, { on := 3, ground := Go.Ground.phase }, { on := 4, ground := Go.Ground.phase }, { on := 5, ground := Go.Ground.phase }, { on := 6, ground := Go.Ground.phase }, { on := 7, ground := Go.Ground.phase }, { on := 8, ground := Go.Ground.phase }, { on := 9, ground := Go.Ground.phase }, { on := 10, ground := Go.Ground.phase }, { on := 11, ground := Go.Ground.phase }, { on := 12, ground := Go.Ground.phase }, { on := 13, ground := Go.Ground.phase }, { on := 14, ground := Go.Ground.phase }, { on := 15, ground := Go.Ground.phase }, { on := 16, ground := Go.Ground.phase }, { on := 17, ground := Go.Ground.phase }, { on := 18, ground := Go.Ground.textOnly Go.Departure.lateStores }], guard := none } := by kernel_rfl
theorem ops22_20 : ops22[20]? = some { dst := some 111, op := Go.Op.fieldAddr 48 (Go.Operand.tmp 110) 2, type := 0, pos := "ref.go:82", after := #[{ on := 19, ground := Go.Ground.data }, { on := 0, ground := Go.Ground.phase }, { on := 1, ground := Go.Ground.phase }, { on := 2, ground := Go.Ground.phase }, { on := 3, ground := Go.Ground.phase }, { on := 4, ground := Go.Ground.phase }, { on := 5, ground := Go.Ground.phase }, { on := 6, ground := Go.Ground.phase }, { on := 7, ground := Go.Ground.phase }, { on := 8, ground := Go.Ground.phase }, { on := 9, ground := Go.Ground.phase }, { on := 10, ground := Go.Ground.phase }, { on := 11, ground := Go.Ground.phase }, { on := 12, ground := Go.Ground.phase }, { on := 13, ground := Go.Ground.phase }, { on := 14, ground := Go.Ground.phase }, { on := 15, ground := Go.Ground.phase }, { on := 16, ground := Go.Ground.phase }, { on := 17, ground := Go.Ground.phase }, { on := 18, ground := Go.Ground.textOnly Go.Departure.lateStores }], guard := none } := by kernel_rfl
theorem ops22_21 : ops22[21]? = some { dst := none, op := Go.Op.store 31 (Go.Operand.tmp 111) (Go.Operand.tmp 108), type := 0, pos := "ref.go:82", after := #[{ on := 20, ground := Go.Ground.data }, { on := 17, ground := Go.Ground.data }, { on := 15, ground := Go.Ground.chain }, { on := 0, ground := Go.Ground.phase }, { on := 1, ground := Go.Ground.phase }, { on := 2, ground := Go.Ground.phase }, { on := 3, ground := Go.Ground.phase }, { on := 4, ground := Go.Ground.phase }, { on := 5, ground := Go.Ground.phase }, { on := 6, ground := Go.Ground.phase }, { on := 7, ground := Go.Ground.phase }, { on := 8, ground := Go.Ground.phase }, { on := 9, ground := Go.Ground.phase }, { on := 10, ground := Go.Ground.phase }, { on := 11, ground := Go.Ground.phase }, { on := 12, ground := Go.Ground.phase }, { on := 13, ground := Go.Ground.phase }, { on := 14, ground := Go.Ground.phase }, { on := 15, ground := Go.Ground.phase }, { on := 16, ground := Go.Ground.phase }, { on := 17, ground := Go.Ground.phase }, { on := 18, ground := Go.Ground.textOnly Go.Departure.lateStores }], guard := none } := by kernel_rfl
set_option maxRecDepth 100000 in
set_option maxHeartbeats 1500000 in
theorem reg22 {x0 x2 x3 x4 x5 x6 x7 x8 x9 x11 x13 x15 x16 x17 x18 x19 x20 x21 x22 x23 x24 x25 x26 x27 x28 x29 x30 x31 x32 x33 x34 x35 x36 x37 x38 x39 x40 x41 x42 x43 x44 x45 x46 x47 x48 x49 x50 x51 x52 x53 x54 x55 x56 x57 x58 x59 x60 x61 x62 x63 x64 x65 x66 x67 x68 x69 x70 x71 x72 x73 x74 x75 x76 x77 x78 x79 x80 x81 x82 x83 x84 x85 x86 x87 x88 x89 x90 x91 x92 x93 x94 x95 x96 x97 x98 x99 x100 x101 x102 x103 x104 x105 x106 x107 x108 x109 x110 x111 x112 x113 x114 x115 x116 x117 x118 x119 : Value} {Q : Exit → Act → World → Prop} {V0 : World} {ob oo ol oc g n gc mb k T o : Nat} {mv uv : Int}
    (hS0 : V0.drew.cell? ⟨mb, 1, none⟩ = some (.int .i64 (T : Int)) ∧ V0.drew.cell? ⟨mb, 2, none⟩ = some (.int .i64 mv) ∧ V0.drew.cell? ⟨ob, oo + T, none⟩ = some (.int .u8 (o : Int))) (hc : V0.drew.cell? ⟨g, k * 3 + 2, none⟩ = some (.int .i64 uv)) (hgm : g ≠ mb) (hgo : g ≠ ob) (ho : many5 o) (hT : T < ol) (hk : k < n) (hfz : V0.drew.frozen? ⟨g, k * 3 + 2, none⟩ = false)
    (hpan : ∀ c (a : Act) w (dd : Tmp) vv, Q (.panic c) (a.put (some dd) vv) w → Q (.panic c) a w)
    (hQ : ∀ (W : World) (t91 t92 t93 t94 t95 t96 t97 t98 t99 t100 t101 t102 t103 t104 t105 t106 t107 t108 t109 t110 t111 : Value), Below V0.drew.heap.size V0.drew W → Q .normal { tmps := #[x0, .slice (some ⟨ob, oo, none⟩) ol oc, x2, x3, x4, x5, x6, x7, x8, x9, .slice (some ⟨g, 0, none⟩) n gc, x11, .pointer (some ⟨mb, 0, none⟩), x13, .int .i64 k, x15, x16, x17, x18, x19, x20, x21, x22, x23, x24, x25, x26, x27, x28, x29, x30, x31, x32, x33, x34, x35, x36, x37, x38, x39, x40, x41, x42, x43, x44, x45, x46, x47, x48, x49, x50, x51, x52, x53, x54, x55, x56, x57, x58, x59, x60, x61, x62, x63, x64, x65, x66, x67, x68, x69, x70, x71, x72, x73, x74, x75, x76, x77, x78, x79, x80, x81, x82, x83, x84, x85, x86, x87, x88, x89, x90, t91, t92, t93, t94, t95, t96, t97, t98, t99, t100, t101, t102, t103, t104, t105, t106, t107, t108, t109, t110, t111, x112, x113, x114, x115, x116, x117, x118, x119], defers := [] } (W.setCell ⟨g, k * 3 + 2, none⟩ (.int .i64 (opTwo o uv mv)))) :
    (Code.region 22 ops22 true).wp Try.prog Q { tmps := #[x0, .slice (some ⟨ob, oo, none⟩) ol oc, x2, x3, x4, x5, x6, x7, x8, x9, .slice (some ⟨g, 0, none⟩) n gc, x11, .pointer (some ⟨mb, 0, none⟩), x13, .int .i64 k, x15, x16, x17, x18, x19, x20, x21, x22, x23, x24, x25, x26, x27, x28, x29, x30, x31, x32, x33, x34, x35, x36, x37, x38, x39, x40, x41, x42, x43, x44, x45, x46, x47, x48, x49, x50, x51, x52, x53, x54, x55, x56, x57, x58, x59, x60, x61, x62, x63, x64, x65, x66, x67, x68, x69, x70, x71, x72, x73, x74, x75, x76, x77, x78, x79, x80, x81, x82, x83, x84, x85, x86, x87, x88, x89, x90, x91, x92, x93, x94, x95, x96, x97, x98, x99, x100, x101, x102, x103, x104, x105, x106, x107, x108, x109, x110, x111, x112, x113, x114, x115, x116, x117, x118, x119], defers := [] } V0 := by
  refine wp_region_Z (fun y => y.cell? ⟨mb, 1, none⟩ = some (.int .i64 (T : Int)) ∧ y.cell? ⟨mb, 2, none⟩ = some (.int .i64 mv) ∧ y.cell? ⟨ob, oo + T, none⟩ = some (.int .u8 (o : Int))) 21 Try.mixed ?_
  obtain ⟨V, hV⟩ : ∃ V, V0.drew = V := ⟨_, rfl⟩
  rw [hV] at hS0 hc hfz hQ ⊢
  clear hV
  have HQ := hidI hQ
  have HPan := hidI hpan
  have HM := hidI ho
  have kT : (T : Int) < (ol : Int) := by omega
  have kk : (k : Int) < (n : Int) := by omega
  clear hQ hpan ho
  refine wpZ_take [21] (i := 0) (v := (.slice (some ⟨g, 0, none⟩) n gc)) ops22_0 (by kernel_rfl) (by kernel_rfl) (by kernel_rfl) (by kernel_rfl) (fun c a w h => HPan.out c a w _ _ h) (.inl ⟨by rfl, fun y hy => ?_⟩) hS0 ?_
  · go_simp
  refine wpZ_take [21] (i := 1) (v := (.int .i64 k)) ops22_1 (by kernel_rfl) (by kernel_rfl) (by kernel_rfl) (by kernel_rfl) (fun c a w h => HPan.out c a w _ _ h) (.inl ⟨by rfl, fun y hy => ?_⟩) hS0 ?_
  · go_simp
  refine wpZ_take [21] (i := 2) (v := (.slice (some ⟨ob, oo, none⟩) ol oc)) ops22_2 (by kernel_rfl) (by kernel_rfl) (by kernel_rfl) (by kernel_rfl) (fun c a w h => HPan.out c a w _ _ h) (.inl ⟨by rfl, fun y hy => ?_⟩) hS0 ?_
  · go_simp
  refine wpZ_take [21] (i := 3) (v := (.pointer (some ⟨mb, 1, none⟩))) ops22_3 (by kernel_rfl) (by kernel_rfl) (by kernel_rfl) (by kernel_rfl) (fun c a w h => HPan.out c a w _ _ h) (.inl ⟨by rfl, fun y hy => ?_⟩) hS0 ?_
  · go_simp
  refine wpZ_take [21] (i := 4) (v := (.int .i64 (T : Int))) ops22_4 (by kernel_rfl) (by kernel_rfl) (by kernel_rfl) (by kernel_rfl) (fun c a w h => HPan.out c a w _ _ h) (.inl ⟨by rfl, fun y hy => ?_⟩) hS0 ?_
  · obtain ⟨y0, y1, y2⟩ := hy; go_simp
  refine wpZ_take [21] (i := 5) (v := (.pointer (some ⟨ob, oo + T, none⟩))) ops22_5 (by kernel_rfl) (by kernel_rfl) (by kernel_rfl) (by kernel_rfl) (fun c a w h => HPan.out c a w _ _ h) (.inl ⟨by rfl, fun y hy => ?_⟩) hS0 ?_
  · go_simp
  refine wpZ_take [21] (i := 6) (v := (.int .u8 (o : Int))) ops22_6 (by kernel_rfl) (by kernel_rfl) (by kernel_rfl) (by kernel_rfl) (fun c a w h => HPan.out c a w _ _ h) (.inl ⟨by rfl, fun y hy => ?_⟩) hS0 ?_
  · obtain ⟨y0, y1, y2⟩ := hy; go_simp
  refine wpZ_take [21] (i := 7) (v := (.slice (some ⟨g, 0, none⟩) n gc)) ops22_7 (by kernel_rfl) (by kernel_rfl) (by kernel_rfl) (by kernel_rfl) (fun c a w h => HPan.out c a w _ _ h) (.inl ⟨by rfl, fun y hy => ?_⟩) hS0 ?_
  · go_simp
  refine wpZ_take [21] (i := 8) (v := (.int .i64 k)) ops22_8 (by kernel_rfl) (by kernel_rfl) (by kernel_rfl) (by kernel_rfl) (fun c a w h => HPan.out c a w _ _ h) (.inl ⟨by rfl, fun y hy => ?_⟩) hS0 ?_
  · go_simp
  refine wpZ_take [21] (i := 9) (v := (.pointer (some ⟨g, k * 3, none⟩))) ops22_9 (by kernel_rfl) (by kernel_rfl) (by kernel_rfl) (by kernel_rfl) (fun c a w h => HPan.out c a w _ _ h) (.inl ⟨by rfl, fun y hy => ?_⟩) hS0 ?_
  · go_simp
  refine wpZ_take [21] (i := 10) (v := (.pointer (some ⟨g, k * 3 + 2, none⟩))) ops22_10 (by kernel_rfl) (by kernel_rfl) (by kernel_rfl) (by kernel_rfl) (fun c a w h => HPan.out c a w _ _ h) (.inl ⟨by rfl, fun y hy => ?_⟩) hS0 ?_
  · go_simp
  refine wpZ_take [21] (i := 12) (v := (.pointer (some ⟨mb, 2, none⟩))) ops22_12 (by kernel_rfl) (by kernel_rfl) (by kernel_rfl) (by kernel_rfl) (fun c a w h => HPan.out c a w _ _ h) (.inl ⟨by rfl, fun y hy => ?_⟩) hS0 ?_
  · go_simp
  refine wpZ_take [21] (i := 13) (v := (.int .i64 mv)) ops22_13 (by kernel_rfl) (by kernel_rfl) (by kernel_rfl) (by kernel_rfl) (fun c a w h => HPan.out c a w _ _ h) (.inl ⟨by rfl, fun y hy => ?_⟩) hS0 ?_
  · obtain ⟨y0, y1, y2⟩ := hy; go_simp
  have HKS : Hid (∀ y : World, Below V.heap.size V y → y.cell? ⟨mb, 1, none⟩ = some (.int .i64 (T : Int)) ∧ y.cell? ⟨mb, 2, none⟩ = some (.int .i64 mv) ∧ y.cell? ⟨ob, oo + T, none⟩ = some (.int .u8 (o : Int))) := hidI fun y hy => by
    have z : ∀ {p : Addr} {v : Value}, V.cell? p = some v → y.cell? p = some v := fun {p v} hc => (hy.cell (World.block_lt_of_cell? V _ hc)).trans hc
    obtain ⟨y0, y1, y2⟩ := hS0
    exact ⟨z y0, z y1, z y2⟩
  refine wpZ_all (rs := [11]) (by kernel_rfl) (by simp) fun j11 hj11 => ?_
  obtain rfl : j11 = 11 := by simpa using hj11
  refine wpOp_go ops22_11 rfl fun K1 hK1 => ?_
  unfold Oper.wp
  go_simp
  refine hK1 _ _ ⟨fun _ => hS0, ?_⟩
  clear hK1 K1
  refine wpZ_all (rs := [14]) (by kernel_rfl) (by simp) fun j14 hj14 => ?_
  obtain rfl : j14 = 14 := by simpa using hj14
  refine wpOp_go ops22_14 rfl fun K1 hK1 => ?_
  unfold Oper.wp
  go_simp
  have HB1 : Hid (Below V.heap.size V (V.alloc (Obj.cells #[.int .i64 uv, .int .i64 mv] 31))) := hidI ((Below.refl _ _).alloc (Nat.le_refl _) _)
  have CD := hidI (doR_many o HM.out (V.alloc (Obj.cells #[.int .i64 uv, .int .i64 mv] 31)) uv mv V.heap.size 0 2 (by go_simp) (by go_simp))
  have hS1 := HKS.out _ HB1.out
  refine hK1 _ _ ⟨fun _ => hS1, ?_⟩
  clear hK1 K1
  refine wpZ_all (rs := [15]) (by kernel_rfl) (by simp) fun j15 hj15 => ?_
  obtain rfl : j15 = 15 := by simpa using hj15
  refine wpOp_go ops22_15 rfl fun K1 hK1 => ?_
  unfold Oper.wp
  go_simp
  refine Calls.mono CD.out ?_
  rintro e W1 ⟨rfl, hb1⟩
  have HB2 : Hid (Below V.heap.size V W1) := hidI (HB1.out.trans (hb1.mono (by simp)))
  have hS2 := HKS.out _ HB2.out
  clear hb1 CD
  refine hK1 _ _ ⟨fun _ => hS2, ?_⟩
  clear hK1 K1
  refine wpZ_take [21] (i := 16) (v := (.tuple #[.int .i64 (opTwo o uv mv), .int .i64 0])) ops22_16 (by kernel_rfl) (by kernel_rfl) (by kernel_rfl) (by kernel_rfl) (fun c a w h => HPan.out c a w _ _ h) (.inl ⟨by rfl, fun y hy => ?_⟩) hS2 ?_
  · go_simp
  refine wpZ_take [21] (i := 17) (v := (.int .i64 (opTwo o uv mv))) ops22_17 (by kernel_rfl) (by kernel_rfl) (by kernel_rfl) (by kernel_rfl) (fun c a w h => HPan.out c a w _ _ h) (.inl ⟨by rfl, fun y hy => ?_⟩) hS2 ?_
  · go_simp
  have hgc : W1.cell? ⟨g, k * 3 + 2, none⟩ = some (.int .i64 uv) := (HB2.out.cell (p := ⟨g, k * 3 + 2, none⟩) (World.block_lt_of_cell? V _ hc)).trans hc
  have hgf : W1.frozen? ⟨g, k * 3 + 2, none⟩ = false := (HB2.out.frozen (p := ⟨g, k * 3 + 2, none⟩) (World.block_lt_of_cell? V _ hc)).trans hfz
  have hS3 : (W1.setCell ⟨g, k * 3 + 2, none⟩ (.int .i64 (opTwo o uv mv))).cell? ⟨mb, 1, none⟩ = some (.int .i64 (T : Int)) ∧ (W1.setCell ⟨g, k * 3 + 2, none⟩ (.int .i64 (opTwo o uv mv))).cell? ⟨mb, 2, none⟩ = some (.int .i64 mv) ∧ (W1.setCell ⟨g, k * 3 + 2, none⟩ (.int .i64 (opTwo o uv mv))).cell? ⟨ob, oo + T, none⟩ = some (.int .u8 (o : Int)) := by
    obtain ⟨y0, y1, y2⟩ := hS2
    exact ⟨(World.cell?_setCell_other _ _ _ _ (by first | (simp; done) | (simp; omega))).trans y0, (World.cell?_setCell_other _ _ _ _ (by first | (simp; done) | (simp; omega))).trans y1, (World.cell?_setCell_other _ _ _ _ (by first | (simp; done) | (simp; omega))).trans y2⟩
  refine wpZ_all (rs := [18, 19]) (by kernel_rfl) (by simp) fun q0 hq0 => ?_
  have hq0' : q0 = 18 ∨ q0 = 19 := by simp only [List.mem_cons, List.mem_nil_iff, or_false] at hq0; omega
  clear hq0
  rcases hq0' with rfl | rfl
  · refine wpOp_go ops22_18 rfl fun K1 hK1 => ?_
    unfold Oper.wp
    go_simp
    refine hK1 _ _ ⟨fun _ => hS2, ?_⟩
    clear hK1 K1
    refine wpZ_all (rs := [19]) (by kernel_rfl) (by simp) fun j19 hj19 => ?_
    obtain rfl : j19 = 19 := by simpa using hj19
    refine wpOp_go ops22_19 rfl fun K1 hK1 => ?_
    unfold Oper.wp
    go_simp
    refine hK1 _ _ ⟨fun _ => hS2, ?_⟩
    clear hK1 K1
    refine wpZ_all (rs := [20]) (by kernel_rfl) (by simp) fun j20 hj20 => ?_
    obtain rfl : j20 = 20 := by simpa using hj20
    refine wpOp_go ops22_20 rfl fun K1 hK1 => ?_
    unfold Oper.wp
    go_simp
    refine hK1 _ _ ⟨fun _ => hS2, ?_⟩
    clear hK1 K1
    refine wpZ_all (rs := [21]) (by kernel_rfl) (by simp) fun j21 hj21 => ?_
    obtain rfl : j21 = 21 := by simpa using hj21
    refine wpOp_go ops22_21 rfl fun K1 hK1 => ?_
    unfold Oper.wp
    go_simp
    refine hK1 _ _ ⟨fun _ => hS3, ?_⟩
    clear hK1 K1
    refine wpZ_done (by kernel_rfl) ?_ _
    exact HQ.out _ _ _ _ _ _ _ _ _ _ _ _ _ _ _ _ _ _ _ _ _ _ HB2.out
  · refine wpOp_go ops22_19 rfl fun K1 hK1 => ?_
    unfold Oper.wp
    go_simp
    refine hK1 _ _ ⟨fun _ => hS2, ?_⟩
    clear hK1 K1
    refine wpZ_all (rs := [18, 20]) (by kernel_rfl) (by simp) fun q1 hq1 => ?_
    have hq1' : q1 = 18 ∨ q1 = 20 := by simp only [List.mem_cons, List.mem_nil_iff, or_false] at hq1; omega
    clear hq1
    rcases hq1' with rfl | rfl
    · refine wpOp_go ops22_18 rfl fun K1 hK1 => ?_
      unfold Oper.wp
      go_simp
      refine hK1 _ _ ⟨fun _ => hS2, ?_⟩
      clear hK1 K1
      refine wpZ_all (rs := [20]) (by kernel_rfl) (by simp) fun j20 hj20 => ?_
      obtain rfl : j20 = 20 := by simpa using hj20
      refine wpOp_go ops22_20 rfl fun K1 hK1 => ?_
      unfold Oper.wp
      go_simp
      refine hK1 _ _ ⟨fun _ => hS2, ?_⟩
      clear hK1 K1
      refine wpZ_all (rs := [21]) (by kernel_rfl) (by simp) fun j21 hj21 => ?_
      obtain rfl : j21 = 21 := by simpa using hj21
      refine wpOp_go ops22_21 rfl fun K1 hK1 => ?_
      unfold Oper.wp
      go_simp
      refine hK1 _ _ ⟨fun _ => hS3, ?_⟩
      clear hK1 K1
      refine wpZ_done (by kernel_rfl) ?_ _
      exact HQ.out _ _ _ _ _ _ _ _ _ _ _ _ _ _ _ _ _ _ _ _ _ _ HB2.out
    · refine wpOp_go ops22_20 rfl fun K1 hK1 => ?_
      unfold Oper.wp
      go_simp
      refine hK1 _ _ ⟨fun _ => hS2, ?_⟩
      clear hK1 K1
      refine wpZ_all (rs := [18, 21]) (by kernel_rfl) (by simp) fun q2 hq2 => ?_
      have hq2' : q2 = 18 ∨ q2 = 21 := by simp only [List.mem_cons, List.mem_nil_iff, or_false] at hq2; omega
      clear hq2
      rcases hq2' with rfl | rfl
      · refine wpOp_go ops22_18 rfl fun K1 hK1 => ?_
        unfold Oper.wp
        go_simp
        refine hK1 _ _ ⟨fun _ => hS2, ?_⟩
        clear hK1 K1
        refine wpZ_all (rs := [21]) (by kernel_rfl) (by simp) fun j21 hj21 => ?_
        obtain rfl : j21 = 21 := by simpa using hj21
        refine wpOp_go ops22_21 rfl fun K1 hK1 => ?_
        unfold Oper.wp
        go_simp
        refine hK1 _ _ ⟨fun _ => hS3, ?_⟩
        clear hK1 K1
        refine wpZ_done (by kernel_rfl) ?_ _
        exact HQ.out _ _ _ _ _ _ _ _ _ _ _ _ _ _ _ _ _ _ _ _ _ _ HB2.out
      · refine wpOp_go ops22_21 rfl fun K1 hK1 => ?_
        unfold Oper.wp
        go_simp
        refine hK1 _ _ ⟨fun _ => hS3, ?_⟩
        clear hK1 K1
        refine wpZ_all (rs := [18]) (by kernel_rfl) (by simp) fun j18 hj18 => ?_
        obtain rfl : j18 = 18 := by simpa using hj18
        refine wpOp_go ops22_18 rfl fun K1 hK1 => ?_
        unfold Oper.wp
        go_simp
        refine hK1 _ _ ⟨fun _ => hS3, ?_⟩
        clear hK1 K1
        refine wpZ_done (by kernel_rfl) ?_ _
        exact HQ.out _ _ _ _ _ _ _ _ _ _ _ _ _ _ _ _ _ _ _ _ _ _ HB2.out
end Go.Proofs.Ytdfieflcclbgjaa
