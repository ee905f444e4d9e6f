/-
  An act appended to the last row, in whatever order.
-/
import Derived.Test.YtffdgjlojechaaaApp
import Derived.Test.YtffdgjlojechaaaZed
namespace Go.Proofs.Ytffdgjlojechaaa
open Go.RowKit Go.Deep Go.MapKept
theorem Try.mixed : Try.prog.follows .mixedOrders = true := by kernel_rfl
def ops12 : Array Oper := #[{ dst := some 46, op := Go.Op.move (Go.Operand.tmp 3), type := 32, pos := "clash.go:124", after := #[], guard := none }, { dst := some 47, op := Go.Op.move (Go.Operand.tmp 3), type := 32, pos := "clash.go:124", after := #[], guard := none }, { dst := some 48, op := Go.Op.call { callee := Go.Callee.builtin Go.Builtin.len, args := #[Go.Operand.tmp 47], argTypes := #[32] }, type := 3, pos := "clash.go:124", after := #[{ on := 1, ground := Go.Ground.data }], guard := none }, { dst := some 49, op := Go.Op.binOp Go.BinOp.sub 3 (Go.Operand.tmp 48) (Go.Operand.const (Go.Value.int Go.IntKind.i64 1)) 3, type := 3, pos := "clash.go:124", after := #[{ on := 2, ground := Go.Ground.data }], guard := none }, { dst := some 50, op := Go.Op.move (Go.Operand.tmp 3), type := 32, pos := "clash.go:124", after := #[], guard := none }, { dst := some 51, op := Go.Op.move (Go.Operand.tmp 3), type := 32, pos := "clash.go:124", after := #[], guard := none }, { dst := some 52, op := Go.Op.call { callee := Go.Callee.builtin Go.Builtin.len, args := #[Go.Operand.tmp 51], argTypes := #[32] }, type := 3, pos := "clash.go:124", after := #[{ on := 5, ground := Go.Ground.data }], guard := none }, { dst := some 53, op := Go.Op.binOp Go.BinOp.sub 3 (Go.Operand.tmp 52) (Go.Operand.const (Go.Value.int Go.IntKind.i64 1)) 3, type := 3, pos := "clash.go:124", after := #[{ on := 6, ground := Go.Ground.data }], guard := none }, { dst := some 54, op := Go.Op.indexAddr 32 (Go.Operand.tmp 50) (Go.Operand.tmp 53), type := 0, pos := "clash.go:124", after := #[{ on := 4, ground := Go.Ground.data }, { on := 7, ground := Go.Ground.data }], guard := none }, { dst := some 55, op := Go.Op.load 22 (Go.Operand.tmp 54), type := 22, pos := "clash.go:124", after := #[{ on := 8, ground := Go.Ground.data }], guard := none }, { dst := some 56, op := Go.Op.load 39 (Go.Operand.tmp 6), type := 39, pos := "clash.go:124", after := #[], guard := none }, { dst := some 57, op := Go.Op.buildSlice 22 1 #[(0, Go.Operand.tmp 56)], type := 22, pos := "clash.go:124", after := #[{ on := 10, ground := Go.Ground.data }], guard := none }, { dst := some 58, op := Go.Op.call { callee := Go.Callee.builtin Go.Builtin.append, args := #[Go.Operand.tmp 55, Go.Operand.tmp 57], argTypes := #[22, 22] }, type := 22, pos := "clash.go:124", after := #[{ on := 9, ground := Go.Ground.data }, { on := 11, ground := Go.Ground.data }], guard := none }, { dst := some 59, op := Go.Op.indexAddr 32 (Go.Operand.tmp 46) (Go.Operand.tmp 49), type := 0, pos := "clash.go:124", after := #[{ on := 0, ground := Go.Ground.data }, { on := 3, ground := Go.Ground.data }, { on := 0, ground := Go.Ground.phase }, { on := 1, ground := Go.Ground.phase }, { on := 2, ground := Go.Ground.phase }, { on := 3, ground := Go.Ground.phase }, { on := 4, ground := Go.Ground.phase }, { on := 5, ground := Go.Ground.phase }, { on := 6, ground := Go.Ground.phase }, { on := 7, ground := Go.Ground.phase }, { on := 8, ground := Go.Ground.phase }, { on := 9, ground := Go.Ground.phase }, { on := 10, ground := Go.Ground.phase }, { on := 11, ground := Go.Ground.phase }, { on := 12, ground := Go.Ground.phase }], guard := none }, { dst := none, op := Go.Op.store 22 (Go.Operand.tmp 59) (Go.Operand.tmp 58), type := 0, pos := "clash.go:124", after := #[{ on := 13, ground := Go.Ground.data }, { on := 12, ground := Go.Ground.data }, { on := 12, ground := Go.Ground.chain }, { on := 0, ground := Go.Ground.phase }, { on := 1, ground := Go.Ground.phase }, { on := 2, ground := Go.Ground.phase }, { on := 3, ground := Go.Ground.phase }, { on := 4, ground := Go.Ground.phase }, { on := 5, ground := Go.Ground.phase }, { on := 6, ground := Go.Ground.phase }, { on := 7, ground := Go.Ground.phase }, { on := 8, ground := Go.Ground.phase }, { on := 9, ground := Go.Ground.phase }, { on := 10, ground := Go.Ground.phase }, { on := 11, ground := Go.Ground.phase }, { on := 12, ground := Go.Ground.phase }], guard := none }]
theorem ops12_0 : ops12[0]? = some { dst := some 46, op := Go.Op.move (Go.Operand.tmp 3), type := 32, pos := "clash.go:124", after := #[], guard := none } := by kernel_rfl
theorem ops12_1 : ops12[1]? = some { dst := some 47, op := Go.Op.move (Go.Operand.tmp 3), type := 32, pos := "clash.go:124", after := #[], guard := none } := by kernel_rfl
theorem ops12_2 : ops12[2]? = some { dst := some 48, op := Go.Op.call { callee := Go.Callee.builtin Go.Builtin.len, args := #[Go.Operand.tmp 47], argTypes := #[32] }, type := 3, pos := "clash.go:124", after := #[{ on := 1, ground := Go.Ground.data }], guard := none } := by kernel_rfl
theorem ops12_3 : ops12[3]? = some { dst := some 49, op := Go.Op.binOp Go.BinOp.sub 3 (Go.Operand.tmp 48) (Go.Operand.const (Go.Value.int Go.IntKind.i64 1)) 3, type := 3, pos := "clash.go:124", after := #[{ on := 2, ground := Go.Ground.data }], guard := none } := by kernel_rfl
theorem ops12_4 : ops12[4]? = some { dst := some 50, op := Go.Op.move (Go.Operand.tmp 3), type := 32, pos := "clash.go:124", after := #[], guard := none } := by kernel_rfl
theorem ops12_5 : ops12[5]? = some { dst := some 51, op := Go.Op.move (Go.Operand.tmp 3), type := 32, pos := "clash.go:124", after := #[], guard := none } := by kernel_rfl
theorem ops12_6 : ops12[6]? = some { dst := some 52, op := Go.Op.call { callee := Go.Callee.builtin Go.Builtin.len, args := #[Go.Operand.tmp 51], argTypes := #[32] }, type := 3, pos := "clash.go:124", after := #[{ on := 5, ground := Go.Ground.data }], guard := none } := by kernel_rfl
theorem ops12_7 : ops12[7]? = some { dst := some 53, op := Go.Op.binOp Go.BinOp.sub 3 (Go.Operand.tmp 52) (Go.Operand.const (Go.Value.int Go.IntKind.i64 1)) 3, type := 3, pos := "clash.go:124", after := #[{ on := 6, ground := Go.Ground.data }], guard := none } := by kernel_rfl
theorem ops12_8 : ops12[8]? = some { dst := some 54, op := Go.Op.indexAddr 32 (Go.Operand.tmp 50) (Go.Operand.tmp 53), type := 0, pos := "clash.go:124", after := #[{ on := 4, ground := Go.Ground.data }, { on := 7, ground := Go.Ground.data }], guard := none } := by kernel_rfl
theorem ops12_9 : ops12[9]? = some { dst := some 55, op := Go.Op.load 22 (Go.Operand.tmp 54), type := 22, pos := "clash.go:124", after := #[{ on := 8, ground := Go.Ground.data }], guard := none } := by kernel_rfl
theorem ops12_10 : ops12[10]? = some { dst := some 56, op := Go.Op.load 39 (Go.Operand.tmp 6), type := 39, pos := "clash.go:124", after := #[], guard := none } := by kernel_rfl
theorem ops12_11 : ops12[11]? = some { dst := some 57, op := Go.Op.buildSlice 22 1 #[(0, Go.Operand.tmp 56)], type := 22, pos := "clash.go:124", after := #[{ on := 10, ground := Go.Ground.data }], guard := none } := by kernel_rfl
theorem ops12_12 : ops12[12]? = some { dst := some 58, op := Go.Op.call { callee := Go.Callee.builtin Go.Builtin.append, args := #[Go.Operand.tmp 55, Go.Operand.tmp 57], argTypes := #[22, 22] }, type := 22, pos := "clash.go:124", after := #[{ on := 9, ground := Go.Ground.data }, { on := 11, ground := Go.Ground.data }], guard := none } := by kernel_rfl
theorem ops12_13 : ops12[13]? = some { dst := some 59, op := Go.Op.indexAddr 32 (Go.Operand.tmp 46) (Go.Operand.tmp 49), type := 0, pos := "clash.go:124", after := #[{ on := 0, ground := Go.Ground.data }, { on := 3, ground := Go.Ground.data }, { on := 0, ground := Go.Ground.phase }, { on := 1, ground := Go.Ground.phase }, { on := 2, ground := Go.Ground.phase }, { on := 3, ground := Go.Ground.phase }, { on := 4, ground := Go.Ground.phase }, { on := 5, ground := Go.Ground.phase }, { on := 6, ground := Go.Ground.phase }, { on := 7, ground := Go.Ground.phase }, { on := 8, ground := Go.Ground.phase }, { on := 9, ground := Go.Ground.phase }, { on := 10, ground := Go.Ground.phase }, { on := 11, ground := Go.Ground.phase }, { on := 12, ground := Go.Ground.phase }], guard := none } := by kernel_rfl
theorem ops12_14 : ops12[14]? = some { dst := none, op := Go.Op.store 22 (Go.Operand.tmp 59) (Go.Operand.tmp 58), type := 0, pos := "clash.go:124", after := #[{ on := 13, ground := Go.Ground.data }, { on := 12, ground := Go.Ground.data }, { on := 12, ground := Go.Ground.chain }, { on := 0, ground := Go.Ground.phase }, { on := 1, ground := Go.Ground.phase }, { on := 2, ground := Go.Ground.phase }, { on := 3, ground := Go.Ground.phase }, { on := 4, ground := Go.Ground.phase }, { on := 5, ground := Go.Ground.phase }, { on := 6, ground := Go.Ground.phase }, { on := 7, ground := Go.Ground.phase }, { on := 8, ground := Go.Ground.phase }, { on := 9, ground := Go.Ground.phase }, { on := 10, ground := Go.Ground.phase }, { on := 11, ground := Go.Ground.phase }, { on := 12, ground := Go.Ground.phase }], guard := none } := by kernel_rfl
set_option maxRecDepth 100000 in
set_option maxHeartbeats 1500000 in
theorem reg12 {x0 x1 x2 x4 x5 x7 x8 x9 x10 x11 x12 x13 x14 x15 x16 x17 x18 x19 x20 x21 x22 x23 x24 x25 x26 x27 x28 x29 x30 x31 x32 x33 x34 x35 x36 x37 x38 x39 x40 x41 x42 x43 x44 x45 x46 x47 x48 x49 x50 x51 x52 x53 x54 x55 x56 x57 x58 x59 x60 x61 : Value} {Q : Exit → Act → World → Prop} {V0 : World} {g last cap ab base : Nat} {u : Value} {r : List Deed} {x : Deed}
    (hS0 : V0.drew.cell? ⟨g, last, none⟩ = some u ∧ V0.drew.cell? ⟨ab, 0, none⟩ = some (.int .u8 x.k) ∧ V0.drew.cell? ⟨ab, 1, none⟩ = some (.string x.s) ∧ V0.drew.cell? ⟨ab, 2, none⟩ = some (.int .u8 x.o) ∧ V0.drew.cell? ⟨ab, 3, none⟩ = some (.bool x.i) ∧ V0.drew.cell? ⟨ab, 4, none⟩ = some (.int .i64 x.e) ∧ V0.drew.cell? ⟨ab, 5, none⟩ = some (.int .i64 x.c)) (hfz : V0.drew.frozen? ⟨g, last, none⟩ = false) (hown : V0.drew.ownsRow base 39 6 u r.length (flatA r)) (hr : r.length ≤ 1000) (hbase : base ≤ V0.drew.heap.size) (hlast : last ≤ 1000)
    (hg : u.ownBlock ≠ some g) (ha : u.ownBlock ≠ some ab) (hgl : g < V0.drew.heap.size)
    (hpan : ∀ c (a : Act) w (dd : Tmp) vv, Q (.panic c) (a.put (some dd) vv) w → Q (.panic c) a w)
    (hQ : ∀ (W5 : World) (u' : Value) (t46 t47 t48 t49 t50 t51 t52 t53 t54 t55 t56 t57 t58 t59 : Value), (V0.drew.alloc (.cells #[.int .u8 x.k, .string x.s, .int .u8 x.o, .bool x.i, .int .i64 x.e, .int .i64 x.c] 39)).grownBy W5 u.ownBlock → W5.ownsRow base 39 6 u' (r.length + 1) (flatA (r ++ [x])) → (u'.ownBlock = u.ownBlock ∨ u'.ownBlock = some (V0.drew.heap.size + 1)) → Q .normal { tmps := #[x0, x1, x2, .slice (some ⟨g, 0, none⟩) (last + 1) cap, x4, x5, .pointer (some ⟨ab, 0, none⟩), x7, x8, x9, x10, x11, x12, x13, x14, x15, x16, x17, x18, x19, x20, x21, x22, x23, x24, x25, x26, x27, x28, x29, x30, x31, x32, x33, x34, x35, x36, x37, x38, x39, x40, x41, x42, x43, x44, x45, t46, t47, t48, t49, t50, t51, t52, t53, t54, t55, t56, t57, t58, t59, x60, x61], defers := [] } (W5.setCell ⟨g, last, none⟩ u')) :
    (Code.region 12 ops12 true).wp Try.prog Q { tmps := #[x0, x1, x2, .slice (some ⟨g, 0, none⟩) (last + 1) cap, x4, x5, .pointer (some ⟨ab, 0, none⟩), x7, x8, x9, x10, x11, x12, x13, x14, x15, x16, x17, x18, x19, x20, x21, x22, x23, x24, x25, x26, x27, x28, x29, x30, x31, x32, x33, x34, x35, x36, x37, x38, x39, x40, x41, x42, x43, x44, x45, x46, x47, x48, x49, x50, x51, x52, x53, x54, x55, x56, x57, x58, x59, x60, x61], defers := [] } V0 := by
  refine wp_region_Z (fun y => y.cell? ⟨g, last, none⟩ = some u ∧ y.cell? ⟨ab, 0, none⟩ = some (.int .u8 x.k) ∧ y.cell? ⟨ab, 1, none⟩ = some (.string x.s) ∧ y.cell? ⟨ab, 2, none⟩ = some (.int .u8 x.o) ∧ y.cell? ⟨ab, 3, none⟩ = some (.bool x.i) ∧ y.cell? ⟨ab, 4, none⟩ = some (.int .i64 x.e) ∧ y.cell? ⟨ab, 5, none⟩ = some (.int .i64 x.c)) 14 Try.mixed ?_
  obtain ⟨V, hV⟩ : ∃ V, V0.drew = V := ⟨_, rfl⟩
  rw [hV] at hS0 hfz hown hbase hgl hQ ⊢
  clear hV
  have HOwn := hidI hown
  have HQ := hidI hQ
  have HPan := hidI hpan
  have k1 : ((last + 1 : Nat) : Int) - 1 = (last : Int) := by omega
  have k1' : (last : Int) + 1 - 1 = (last : Int) := by omega
  have kw : IntKind.i64.wrap (last : Int) = (last : Int) := by simp [IntKind.wrap, IntKind.bits, IntKind.signed]; omega
  have k2 : (last : Int) < ((last + 1 : Nat) : Int) := by omega
  have k2' : (last : Int) < (last : Int) + 1 := by omega
  have hu1 : ∃ ua ul uc, u = .slice ua ul uc := by
    rcases hown.2 with ⟨rfl, _⟩ | ⟨_, _, _, rfl, _⟩ <;> exact ⟨_, _, _, rfl⟩
  obtain ⟨ua, ul, uc, rfl⟩ := hu1
  clear hown hQ hpan
  refine wpZ_take [14] (i := 0) (v := (.slice (some ⟨g, 0, none⟩) (last + 1) cap)) ops12_0 (by kernel_rfl) (by kernel_rfl) (by kernel_rfl) (by kernel_rfl) (fun c a w h => HPan.out c a w _ _ h) (.inl ⟨by rfl, fun y hy => ?_⟩) hS0 ?_
  · go_simp
  refine wpZ_take [14] (i := 1) (v := (.slice (some ⟨g, 0, none⟩) (last + 1) cap)) ops12_1 (by kernel_rfl) (by kernel_rfl) (by kernel_rfl) (by kernel_rfl) (fun c a w h => HPan.out c a w _ _ h) (.inl ⟨by rfl, fun y hy => ?_⟩) hS0 ?_
  · go_simp
  refine wpZ_take [14] (i := 2) (v := (.int .i64 ((last + 1 : Nat) : Int))) ops12_2 (by kernel_rfl) (by kernel_rfl) (by kernel_rfl) (by kernel_rfl) (fun c a w h => HPan.out c a w _ _ h) (.inl ⟨by rfl, fun y hy => ?_⟩) hS0 ?_
  · go_simp
  refine wpZ_take [14] (i := 3) (v := (.int .i64 (last : Int))) ops12_3 (by kernel_rfl) (by kernel_rfl) (by kernel_rfl) (by kernel_rfl) (fun c a w h => HPan.out c a w _ _ h) (.inl ⟨by rfl, fun y hy => ?_⟩) hS0 ?_
  · go_simp
  refine wpZ_take [14] (i := 4) (v := (.slice (some ⟨g, 0, none⟩) (last + 1) cap)) ops12_4 (by kernel_rfl) (by kernel_rfl) (by kernel_rfl) (by kernel_rfl) (fun c a w h => HPan.out c a w _ _ h) (.inl ⟨by rfl, fun y hy => ?_⟩) hS0 ?_
  · go_simp
  refine wpZ_take [14] (i := 5) (v := (.slice (some ⟨g, 0, none⟩) (last + 1) cap)) ops12_5 (by kernel_rfl) (by kernel_rfl) (by kernel_rfl) (by kernel_rfl) (fun c a w h => HPan.out c a w _ _ h) (.inl ⟨by rfl, fun y hy => ?_⟩) hS0 ?_
  · go_simp
  refine wpZ_take [14] (i := 6) (v := (.int .i64 ((last + 1 : Nat) : Int))) ops12_6 (by kernel_rfl) (by kernel_rfl) (by kernel_rfl) (by kernel_rfl) (fun c a w h => HPan.out c a w _ _ h) (.inl ⟨by rfl, fun y hy => ?_⟩) hS0 ?_
  · go_simp
  refine wpZ_take [14] (i := 7) (v := (.int .i64 (last : Int))) ops12_7 (by kernel_rfl) (by kernel_rfl) (by kernel_rfl) (by kernel_rfl) (fun c a w h => HPan.out c a w _ _ h) (.inl ⟨by rfl, fun y hy => ?_⟩) hS0 ?_
  · go_simp
  refine wpZ_take [14] (i := 8) (v := (.pointer (some ⟨g, last, none⟩))) ops12_8 (by kernel_rfl) (by kernel_rfl) (by kernel_rfl) (by kernel_rfl) (fun c a w h => HPan.out c a w _ _ h) (.inl ⟨by rfl, fun y hy => ?_⟩) hS0 ?_
  · go_simp
  refine wpZ_take [14] (i := 9) (v := (.slice ua ul uc)) ops12_9 (by kernel_rfl) (by kernel_rfl) (by kernel_rfl) (by kernel_rfl) (fun c a w h => HPan.out c a w _ _ h) (.inl ⟨by rfl, fun y hy => ?_⟩) hS0 ?_
  · obtain ⟨y0, y1, y2, y3, y4, y5, y6⟩ := hy; go_simp
  refine wpZ_take [14] (i := 10) (v := (.agg #[.int .u8 x.k, .string x.s, .int .u8 x.o, .bool x.i, .int .i64 x.e, .int .i64 x.c])) ops12_10 (by kernel_rfl) (by kernel_rfl) (by kernel_rfl) (by kernel_rfl) (fun c a w h => HPan.out c a w _ _ h) (.inl ⟨by rfl, fun y hy => ?_⟩) hS0 ?_
  · obtain ⟨y0, y1, y2, y3, y4, y5, y6⟩ := hy; go_simp
  have HKS : Hid (∀ y : World, Below V.heap.size V y → y.cell? ⟨g, last, none⟩ = some (.slice ua ul uc) ∧ y.cell? ⟨ab, 0, none⟩ = some (.int .u8 x.k) ∧ y.cell? ⟨ab, 1, none⟩ = some (.string x.s) ∧ y.cell? ⟨ab, 2, none⟩ = some (.int .u8 x.o) ∧ y.cell? ⟨ab, 3, none⟩ = some (.bool x.i) ∧ y.cell? ⟨ab, 4, none⟩ = some (.int .i64 x.e) ∧ y.cell? ⟨ab, 5, none⟩ = some (.int .i64 x.c)) := hidI fun y hy => by
    have z : ∀ {p : Addr} {v : Value}, V.cell? p = some v → y.cell? p = some v := fun {p v} hc => (hy.cell (World.block_lt_of_cell? V _ hc)).trans hc
    exact ⟨z hS0.1, z hS0.2.1, z hS0.2.2.1, z hS0.2.2.2.1, z hS0.2.2.2.2.1, z hS0.2.2.2.2.2.1, z hS0.2.2.2.2.2.2⟩
  refine wpZ_all (rs := [11]) (by kernel_rfl) (by simp) fun j11 hj11 => ?_
  obtain rfl : j11 = 11 := by simpa using hj11
  refine wpOp_go ops12_11 rfl fun K1 hK1 => ?_
  unfold Oper.wp
  go_simp
  refine hK1 _ _ ⟨fun _ => HKS.out _ (by (repeat (first | exact Below.refl _ _ | assumption | refine Below.drew ?_ | refine Below.alloc ?_ (by first | omega | (simp; done) | (simp; omega)) _ | refine Below.setCell ?_ (by first | omega | (simp; done) | (simp; omega)) _))), ?_⟩
  clear hK1 K1
  have HO2 := hidI (HOwn.out.alloc (.cells #[.int .u8 x.k, .string x.s, .int .u8 x.o, .bool x.i, .int .i64 x.e, .int .i64 x.c] 39))
  have HV := hidI (act_seen (W := V) x)
  have hA : Below V.heap.size V (V.alloc (.cells #[.int .u8 x.k, .string x.s, .int .u8 x.o, .bool x.i, .int .i64 x.e, .int .i64 x.c] 39)) := by (repeat (first | exact Below.refl _ _ | assumption | refine Below.drew ?_ | refine Below.alloc ?_ (by first | omega | (simp; done) | (simp; omega)) _ | refine Below.setCell ?_ (by first | omega | (simp; done) | (simp; omega)) _))
  have HSA := hidI (HKS.out _ hA)
  have hfA : (V.alloc (.cells #[.int .u8 x.k, .string x.s, .int .u8 x.o, .bool x.i, .int .i64 x.e, .int .i64 x.c] 39)).frozen? ⟨g, last, none⟩ = false := (hA.frozen (p := ⟨g, last, none⟩) hgl).trans hfz
  have hszA : (V.alloc (.cells #[.int .u8 x.k, .string x.s, .int .u8 x.o, .bool x.i, .int .i64 x.e, .int .i64 x.c] 39)).heap.size = V.heap.size + 1 := by simp
  obtain ⟨VA, hVA⟩ : ∃ VA, V.alloc (.cells #[.int .u8 x.k, .string x.s, .int .u8 x.o, .bool x.i, .int .i64 x.e, .int .i64 x.c] 39) = VA := ⟨_, rfl⟩
  rw [hVA] at HO2 HV HSA hfA hszA HQ ⊢
  clear hVA hA
  refine wpZ_all (rs := [12]) (by kernel_rfl) (by simp) fun j12 hj12 => ?_
  obtain rfl : j12 = 12 := by simpa using hj12
  refine wpOp_go ops12_12 rfl fun K1 hK1 => ?_
  refine wp_append_any Try.underlying22 Try.info39 rfl (by decide) (by decide) _ _ rfl base _ r.length (flatA r) rfl HO2.out _ 1 x.cells rfl HV.out (cells_one x) (by omega) (by omega) ?_
  intro u' W5 hown5 hgrow5 hat5
  have HO5 : Hid (W5.ownsRow base 39 6 u' (r.length + 1) (flatA (r ++ [x]))) := hidI (by rw [flatA_append, flatA_one]; exact hown5)
  have HG5 := hidI hgrow5
  have HAT := hidI (hszA ▸ hat5)
  have kc : ∀ {p : Addr} {v : Value}, VA.cell? p = some v → p.block = g ∨ p.block = ab → W5.cell? p = some v := fun {p v} hc hp => hgrow5.cell hc (by rcases hp with hp | hp <;> rw [hp] <;> first | exact fun e => hg e.symm | exact fun e => ha e.symm)
  obtain ⟨z0, z1, z2, z3, z4, z5, z6⟩ := HSA.out
  have hS5 : W5.cell? ⟨g, last, none⟩ = some (.slice ua ul uc) ∧ W5.cell? ⟨ab, 0, none⟩ = some (.int .u8 x.k) ∧ W5.cell? ⟨ab, 1, none⟩ = some (.string x.s) ∧ W5.cell? ⟨ab, 2, none⟩ = some (.int .u8 x.o) ∧ W5.cell? ⟨ab, 3, none⟩ = some (.bool x.i) ∧ W5.cell? ⟨ab, 4, none⟩ = some (.int .i64 x.e) ∧ W5.cell? ⟨ab, 5, none⟩ = some (.int .i64 x.c) := ⟨kc z0 (.inl rfl), kc z1 (.inr rfl), kc z2 (.inr rfl), kc z3 (.inr rfl), kc z4 (.inr rfl), kc z5 (.inr rfl), kc z6 (.inr rfl)⟩
  have hf5 : W5.frozen? ⟨g, last, none⟩ = false := (World.frozen?_of_block (w := VA) (a := ⟨g, last, none⟩) (hgrow5.block g (by omega) (fun e => hg e.symm))).trans hfA
  obtain ⟨a6, l6, c6, hv6⟩ : ∃ a6 l6 c6, u' = .slice a6 l6 c6 := by
    rcases hown5.2 with ⟨rfl, _⟩ | ⟨_, _, _, rfl, _⟩ <;> exact ⟨_, _, _, rfl⟩
  subst hv6
  refine hK1 _ _ ⟨fun _ => hS5, ?_⟩
  clear hK1 K1 hown5 hgrow5 hat5 kc z0 z1 z2 z3 z4 z5 z6 HSA
  refine wpZ_take [14] (i := 13) (v := (.pointer (some ⟨g, last, none⟩))) ops12_13 (by kernel_rfl) (by kernel_rfl) (by kernel_rfl) (by kernel_rfl) (fun c a w h => HPan.out c a w _ _ h) (.inl ⟨by rfl, fun y hy => ?_⟩) hS5 ?_
  · go_simp
  refine wpZ_last (by kernel_rfl) (by kernel_rfl) ?_ _
  refine wpOp_go ops12_14 rfl fun K1 hK1 => ?_
  have hc5 := hS5.1
  unfold Oper.wp
  go_simp
  refine hK1 _ _ ?_
  exact HQ.out _ _ _ _ _ _ _ _ _ _ _ _ _ _ _ _ HG5.out HO5.out HAT.out
end Go.Proofs.Ytffdgjlojechaaa
