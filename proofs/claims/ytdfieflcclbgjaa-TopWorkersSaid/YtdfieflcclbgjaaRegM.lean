/-
  A number stored at its node and tag, in whatever order.
-/
import Derived.Test.YtdfieflcclbgjaaZed
import Derived.Test.YtdfieflcclbgjaaMBase
namespace Go.Proofs.Ytdfieflcclbgjaa
open Go.RowKit Go.Deep Go.MapKept
def opsM : Array Oper := #[{ dst := some 41, op := Go.Op.move (Go.Operand.tmp 7), type := 69, pos := "mail.go:70", after := #[], guard := none }, { dst := some 42, op := Go.Op.load 70 (Go.Operand.tmp 10), type := 70, pos := "mail.go:70", after := #[], guard := none }, { dst := some 43, op := Go.Op.move (Go.Operand.tmp 1), type := 30, pos := "mail.go:70", after := #[], guard := none }, { dst := some 44, op := Go.Op.fieldAddr 48 (Go.Operand.tmp 9) 1, type := 0, pos := "mail.go:70", after := #[], guard := none }, { dst := some 45, op := Go.Op.load 3 (Go.Operand.tmp 44), type := 3, pos := "mail.go:70", after := #[{ on := 3, ground := Go.Ground.data }], guard := none }, { dst := some 46, op := Go.Op.indexAddr 30 (Go.Operand.tmp 43) (Go.Operand.tmp 45), type := 0, pos := "mail.go:70", after := #[{ on := 2, ground := Go.Ground.data }, { on := 4, ground := Go.Ground.data }], guard := none }, { dst := some 47, op := Go.Op.load 38 (Go.Operand.tmp 46), type := 38, pos := "mail.go:70", after := #[{ on := 5, ground := Go.Ground.data }], guard := none }, { dst := some 48, op := Go.Op.move (Go.Operand.tmp 11), type := 31, pos := "mail.go:70", after := #[], guard := none }, { dst := some 49, op := Go.Op.fieldAddr 48 (Go.Operand.tmp 9) 2, type := 0, pos := "mail.go:70", after := #[], guard := none }, { dst := some 50, op := Go.Op.load 31 (Go.Operand.tmp 49), type := 31, pos := "mail.go:70", after := #[{ on := 8, ground := Go.Ground.data }], guard := none }, { dst := some 51, op := Go.Op.call { callee := Go.Callee.value (Go.Operand.func 42), args := #[Go.Operand.tmp 47, Go.Operand.tmp 48, Go.Operand.tmp 50], argTypes := #[38, 31, 31] }, type := 31, pos := "mail.go:70", after := #[{ on := 6, ground := Go.Ground.data }, { on := 7, ground := Go.Ground.data }, { on := 9, ground := Go.Ground.data }], guard := none }, { dst := none, op := Go.Op.mapUpdate 69 (Go.Operand.tmp 41) (Go.Operand.tmp 42) (Go.Operand.tmp 51), type := 0, pos := "mail.go:70", after := #[{ on := 0, ground := Go.Ground.data }, { on := 1, ground := Go.Ground.data }, { on := 10, ground := Go.Ground.data }, { on := 10, ground := Go.Ground.chain }, { on := 0, ground := Go.Ground.phase }, { on := 1, ground := Go.Ground.phase }, { on := 2, ground := Go.Ground.phase }, { on := 3, ground := Go.Ground.phase }, { on := 4, ground := Go.Ground.phase }, { on := 5, ground := Go.Ground.phase }, { on := 6, ground := Go.Ground.phase }, { on := 7, ground := Go.Ground.phase }, { on := 8, ground := Go.Ground.phase }, { on := 9, ground := Go.Ground.phase }, { on := 10, ground := Go.Ground.phase }], guard := none }]
theorem opsM_0 : opsM[0]? = some { dst := some 41, op := Go.Op.move (Go.Operand.tmp 7), type := 69, pos := "mail.go:70", after := #[], guard := none } := by kernel_rfl
theorem opsM_1 : opsM[1]? = some { dst := some 42, op := Go.Op.load 70 (Go.Operand.tmp 10), type := 70, pos := "mail.go:70", after := #[], guard := none } := by kernel_rfl
theorem opsM_2 : opsM[2]? = some { dst := some 43, op := Go.Op.move (Go.Operand.tmp 1), type := 30, pos := "mail.go:70", after := #[], guard := none } := by kernel_rfl
theorem opsM_3 : opsM[3]? = some { dst := some 44, op := Go.Op.fieldAddr 48 (Go.Operand.tmp 9) 1, type := 0, pos := "mail.go:70", after := #[], guard := none } := by kernel_rfl
theorem opsM_4 : opsM[4]? = some { dst := some 45, op := Go.Op.load 3 (Go.Operand.tmp 44), type := 3, pos := "mail.go:70", after := #[{ on := 3, ground := Go.Ground.data }], guard := none } := by kernel_rfl
theorem opsM_5 : opsM[5]? = some { dst := some 46, op := Go.Op.indexAddr 30 (Go.Operand.tmp 43) (Go.Operand.tmp 45), type := 0, pos := "mail.go:70", after := #[{ on := 2, ground := Go.Ground.data }, { on := 4, ground := Go.Ground.data }], guard := none } := by kernel_rfl
theorem opsM_6 : opsM[6]? = some { dst := some 47, op := Go.Op.load 38 (Go.Operand.tmp 46), type := 38, pos := "mail.go:70", after := #[{ on := 5, ground := Go.Ground.data }], guard := none } := by kernel_rfl
theorem opsM_7 : opsM[7]? = some { dst := some 48, op := Go.Op.move (Go.Operand.tmp 11), type := 31, pos := "mail.go:70", after := #[], guard := none } := by kernel_rfl
theorem opsM_8 : opsM[8]? = some { dst := some 49, op := Go.Op.fieldAddr 48 (Go.Operand.tmp 9) 2, type := 0, pos := "mail.go:70", after := #[], guard := none } := by kernel_rfl
theorem opsM_9 : opsM[9]? = some { dst := some 50, op := Go.Op.load 31 (Go.Operand.tmp 49), type := 31, pos := "mail.go:70", after := #[{ on := 8, ground := Go.Ground.data }], guard := none } := by kernel_rfl
theorem opsM_10 : opsM[10]? = some { dst := some 51, op := Go.Op.call { callee := Go.Callee.value (Go.Operand.func 42), args := #[Go.Operand.tmp 47, Go.Operand.tmp 48, Go.Operand.tmp 50], argTypes := #[38, 31, 31] }, type := 31, pos := "mail.go:70", after := #[{ on := 6, ground := Go.Ground.data }, { on := 7, ground := Go.Ground.data }, { on := 9, ground := Go.Ground.data }], guard := none } := by kernel_rfl
theorem opsM_11 : opsM[11]? = some { dst := none, op := Go.Op.mapUpdate 69 (Go.Operand.tmp 41) (Go.Operand.tmp 42) (Go.Operand.tmp 51), type := 0, pos := "mail.go:70", after := #[{ on := 0, ground := Go.Ground.data }, { on := 1, ground := Go.Ground.data }, { on := 10, ground := Go.Ground.data }, { on := 10, ground := Go.Ground.chain }, { on := 0, ground := Go.Ground.phase }, { on := 1, ground := Go.Ground.phase }, { on := 2, ground := Go.Ground.phase }, { on := 3, ground := Go.Ground.phase }, { on := 4, ground := Go.Ground.phase }, { on := 5, ground := Go.Ground.phase }, { on := 6, ground := Go.Ground.phase }, { on := 7, ground := Go.Ground.phase }, { on := 8, ground := Go.Ground.phase }, { on := 9, ground := Go.Ground.phase }, { on := 10, ground := Go.Ground.phase }], guard := none } := by kernel_rfl
set_option maxRecDepth 100000 in
set_option maxHeartbeats 1500000 in
theorem regM {x0 x2 x3 x4 x5 x6 x8 x12 x13 x14 x15 x16 x17 x18 x19 x20 x21 x22 x23 x24 x25 x26 x27 x28 x29 x30 x31 x32 x33 x34 x35 x36 x37 x38 x39 x40 x41 x42 x43 x44 x45 x46 x47 x48 x49 x50 x51 x52 x53 x54 x55 x56 x57 x58 x59 x60 x61 x62 x63 x64 x65 x66 x67 x68 x69 x70 x71 x72 x73 x74 x75 x76 x77 : Value} {Q : Exit → Act → World → Prop} {V0 : World} {ob oo L oc bm bk mb q o : Nat} {xt xv s z : Int}
    (hS0 : V0.drew.cell? ⟨bk, 0, none⟩ = some (.int .i64 xt) ∧ V0.drew.cell? ⟨bk, 1, none⟩ = some (.int .i64 (q : Int)) ∧ V0.drew.cell? ⟨bm, 1, none⟩ = some (.int .i64 (q : Int)) ∧ V0.drew.cell? ⟨bm, 2, none⟩ = some (.int .i64 xv) ∧ V0.drew.cell? ⟨ob, oo + q, none⟩ = some (.int .u8 (o : Int))) (hq : q < L)
    (hC : ∀ W, Calls Try.prog 42 #[.int .u8 (o : Int), .int .i64 s, .int .i64 xv] W fun e w' => e = .returned (.int .i64 z) ∧ Below W.heap.size W w')
    (hU : ∀ W, Below V0.drew.heap.size V0.drew W → ∃ W', (Instr.mapUpdate 69 (.map (some mb)) (.agg #[.int .i64 xt, .int .i64 (q : Int)]) (.int .i64 z)).run Try.prog W = .ok () W')
    (hpan : ∀ c (a : Act) w (dd : Tmp) vv, Q (.panic c) (a.put (some dd) vv) w → Q (.panic c) a w)
    (hQ : ∀ (W W' : World) (t41 t42 t43 t44 t45 t46 t47 t48 t49 t50 t51 : Value), Below V0.drew.heap.size V0.drew W → (Instr.mapUpdate 69 (.map (some mb)) (.agg #[.int .i64 xt, .int .i64 (q : Int)]) (.int .i64 z)).run Try.prog W = .ok () W' → Q .normal { tmps := #[x0, .slice (some ⟨ob, oo, none⟩) L oc, x2, x3, x4, x5, x6, .map (some mb), x8, .pointer (some ⟨bm, 0, none⟩), .pointer (some ⟨bk, 0, none⟩), .int .i64 s, x12, x13, x14, x15, x16, x17, x18, x19, x20, x21, x22, x23, x24, x25, x26, x27, x28, x29, x30, x31, x32, x33, x34, x35, x36, x37, x38, x39, x40, t41, t42, t43, t44, t45, t46, t47, t48, t49, t50, t51, x52, x53, x54, x55, x56, x57, x58, x59, x60, x61, x62, x63, x64, x65, x66, x67, x68, x69, x70, x71, x72, x73, x74, x75, x76, x77], defers := [] } W') :
    (Code.region 11 opsM true).wp Try.prog Q { tmps := #[x0, .slice (some ⟨ob, oo, none⟩) L oc, x2, x3, x4, x5, x6, .map (some mb), x8, .pointer (some ⟨bm, 0, none⟩), .pointer (some ⟨bk, 0, none⟩), .int .i64 s, x12, x13, x14, x15, x16, x17, x18, x19, x20, x21, x22, x23, x24, x25, x26, x27, x28, x29, x30, x31, x32, x33, x34, x35, x36, x37, x38, x39, x40, x41, x42, x43, x44, x45, x46, x47, x48, x49, x50, x51, x52, x53, x54, x55, x56, x57, x58, x59, x60, x61, x62, x63, x64, x65, x66, x67, x68, x69, x70, x71, x72, x73, x74, x75, x76, x77], defers := [] } V0 := by
  refine wp_region_Z (fun y => y.cell? ⟨bk, 0, none⟩ = some (.int .i64 xt) ∧ y.cell? ⟨bk, 1, none⟩ = some (.int .i64 (q : Int)) ∧ y.cell? ⟨bm, 1, none⟩ = some (.int .i64 (q : Int)) ∧ y.cell? ⟨bm, 2, none⟩ = some (.int .i64 xv) ∧ y.cell? ⟨ob, oo + q, none⟩ = some (.int .u8 (o : Int))) 11 Try.mixed ?_
  obtain ⟨V, hV⟩ : ∃ V, V0.drew = V := ⟨_, rfl⟩
  rw [hV] at hS0 hU hQ ⊢
  clear hV
  have HQ := hidI hQ
  have HPan := hidI hpan
  have HC := hidI hC
  have HU := hidI hU
  have kq : (q : Int) < (L : Int) := by omega
  clear hQ hpan hC hU
  refine wpZ_take [11] (i := 0) (v := (.map (some mb))) opsM_0 (by kernel_rfl) (by kernel_rfl) (by kernel_rfl) (by kernel_rfl) (fun c a w h => HPan.out c a w _ _ h) (.inl ⟨by rfl, fun y hy => ?_⟩) hS0 ?_
  · go_simp
  refine wpZ_take [11] (i := 1) (v := (.agg #[.int .i64 xt, .int .i64 (q : Int)])) opsM_1 (by kernel_rfl) (by kernel_rfl) (by kernel_rfl) (by kernel_rfl) (fun c a w h => HPan.out c a w _ _ h) (.inl ⟨by rfl, fun y hy => ?_⟩) hS0 ?_
  · obtain ⟨y0, y1, y2, y3, y4⟩ := hy; go_simp
  refine wpZ_take [11] (i := 2) (v := (.slice (some ⟨ob, oo, none⟩) L oc)) opsM_2 (by kernel_rfl) (by kernel_rfl) (by kernel_rfl) (by kernel_rfl) (fun c a w h => HPan.out c a w _ _ h) (.inl ⟨by rfl, fun y hy => ?_⟩) hS0 ?_
  · go_simp
  refine wpZ_take [11] (i := 3) (v := (.pointer (some ⟨bm, 1, none⟩))) opsM_3 (by kernel_rfl) (by kernel_rfl) (by kernel_rfl) (by kernel_rfl) (fun c a w h => HPan.out c a w _ _ h) (.inl ⟨by rfl, fun y hy => ?_⟩) hS0 ?_
  · go_simp
  refine wpZ_take [11] (i := 4) (v := (.int .i64 (q : Int))) opsM_4 (by kernel_rfl) (by kernel_rfl) (by kernel_rfl) (by kernel_rfl) (fun c a w h => HPan.out c a w _ _ h) (.inl ⟨by rfl, fun y hy => ?_⟩) hS0 ?_
  · obtain ⟨y0, y1, y2, y3, y4⟩ := hy; go_simp
  refine wpZ_take [11] (i := 5) (v := (.pointer (some ⟨ob, oo + q, none⟩))) opsM_5 (by kernel_rfl) (by kernel_rfl) (by kernel_rfl) (by kernel_rfl) (fun c a w h => HPan.out c a w _ _ h) (.inl ⟨by rfl, fun y hy => ?_⟩) hS0 ?_
  · go_simp
  refine wpZ_take [11] (i := 6) (v := (.int .u8 (o : Int))) opsM_6 (by kernel_rfl) (by kernel_rfl) (by kernel_rfl) (by kernel_rfl) (fun c a w h => HPan.out c a w _ _ h) (.inl ⟨by rfl, fun y hy => ?_⟩) hS0 ?_
  · obtain ⟨y0, y1, y2, y3, y4⟩ := hy; go_simp
  refine wpZ_take [11] (i := 7) (v := (.int .i64 s)) opsM_7 (by kernel_rfl) (by kernel_rfl) (by kernel_rfl) (by kernel_rfl) (fun c a w h => HPan.out c a w _ _ h) (.inl ⟨by rfl, fun y hy => ?_⟩) hS0 ?_
  · go_simp
  refine wpZ_take [11] (i := 8) (v := (.pointer (some ⟨bm, 2, none⟩))) opsM_8 (by kernel_rfl) (by kernel_rfl) (by kernel_rfl) (by kernel_rfl) (fun c a w h => HPan.out c a w _ _ h) (.inl ⟨by rfl, fun y hy => ?_⟩) hS0 ?_
  · go_simp
  refine wpZ_take [11] (i := 9) (v := (.int .i64 xv)) opsM_9 (by kernel_rfl) (by kernel_rfl) (by kernel_rfl) (by kernel_rfl) (fun c a w h => HPan.out c a w _ _ h) (.inl ⟨by rfl, fun y hy => ?_⟩) hS0 ?_
  · obtain ⟨y0, y1, y2, y3, y4⟩ := hy; go_simp
  have HKS : Hid (∀ y : World, Below V.heap.size V y → y.cell? ⟨bk, 0, none⟩ = some (.int .i64 xt) ∧ y.cell? ⟨bk, 1, none⟩ = some (.int .i64 (q : Int)) ∧ y.cell? ⟨bm, 1, none⟩ = some (.int .i64 (q : Int)) ∧ y.cell? ⟨bm, 2, none⟩ = some (.int .i64 xv) ∧ y.cell? ⟨ob, oo + q, none⟩ = some (.int .u8 (o : Int))) := hidI fun y hy => by
    have z : ∀ {p : Addr} {v : Value}, V.cell? p = some v → y.cell? p = some v := fun {p v} hc => (hy.cell (World.block_lt_of_cell? V _ hc)).trans hc
    obtain ⟨y0, y1, y2, y3, y4⟩ := hS0
    exact ⟨z y0, z y1, z y2, z y3, z y4⟩
  refine wpZ_all (rs := [10]) (by kernel_rfl) (by simp) fun j10 hj10 => ?_
  obtain rfl : j10 = 10 := by simpa using hj10
  refine wpOp_go opsM_10 rfl fun K1 hK1 => ?_
  unfold Oper.wp
  go_simp
  refine Calls.mono (HC.out V) ?_
  rintro e W1 ⟨rfl, hb1⟩
  have HB1 := hidI hb1
  have hS1 := HKS.out W1 hb1
  obtain ⟨W2, hrun⟩ := HU.out W1 hb1
  have HRun := hidI hrun
  clear hb1
  refine hK1 _ _ ⟨fun _ => hS1, ?_⟩
  clear hK1 K1
  refine wpZ_last (by kernel_rfl) (by kernel_rfl) ?_ _
  refine wpOp_go opsM_11 rfl fun K1 hK1 => ?_
  unfold Oper.wp
  go_simp
  refine hK1 _ _ ?_
  exact HQ.out W1 W2 _ _ _ _ _ _ _ _ _ _ _ HB1.out HRun.out
end Go.Proofs.Ytdfieflcclbgjaa
