/-
  A worker's part becomes what a function makes of it, in whatever order; what a number is with another one taken in.
-/
import Derived.Test.YtdfieflcclbgjaaZed
import Derived.Test.YtdfieflcclbgjaaNumP
namespace Go.Proofs.Ytdfieflcclbgjaa
open Go.RowKit Go.Deep Go.MapKept
def opsC : Array Oper := #[{ dst := some 6, op := Go.Op.move (Go.Operand.tmp 0), type := 50, pos := "agg.go:42", after := #[], guard := none }, { dst := some 7, op := Go.Op.move (Go.Operand.tmp 1), type := 3, pos := "agg.go:42", after := #[], guard := none }, { dst := some 8, op := Go.Op.move (Go.Operand.tmp 2), type := 87, pos := "agg.go:42", after := #[], guard := none }, { dst := some 9, op := Go.Op.move (Go.Operand.tmp 0), type := 50, pos := "agg.go:42", after := #[], guard := none }, { dst := some 10, op := Go.Op.move (Go.Operand.tmp 1), type := 3, pos := "agg.go:42", after := #[], guard := none }, { dst := some 11, op := Go.Op.nilCheck (Go.Operand.tmp 9), type := 0, pos := "agg.go:42", after := #[{ on := 3, ground := Go.Ground.data }], guard := none }, { dst := some 12, op := Go.Op.fieldAddr 84 (Go.Operand.tmp 11) 3, type := 0, pos := "agg.go:42", after := #[{ on := 5, ground := Go.Ground.data }], guard := none }, { dst := some 13, op := Go.Op.indexAddr 82 (Go.Operand.tmp 12) (Go.Operand.tmp 10), type := 0, pos := "agg.go:42", after := #[{ on := 6, ground := Go.Ground.data }, { on := 4, ground := Go.Ground.data }], guard := none }, { dst := some 14, op := Go.Op.load 31 (Go.Operand.tmp 13), type := 31, pos := "agg.go:42", after := #[{ on := 7, ground := Go.Ground.data }], guard := none }, { dst := some 15, op := Go.Op.call { callee := Go.Callee.value (Go.Operand.tmp 8), args := #[Go.Operand.tmp 14], argTypes := #[31] }, type := 31, pos := "agg.go:42", after := #[{ on := 2, ground := Go.Ground.data }, { on := 8, ground := Go.Ground.data }], guard := none }, { dst := some 16, op := Go.Op.nilCheck (Go.Operand.tmp 6), type := 0, pos := "agg.go:42", after := #[{ on := 0, ground := Go.Ground.data }], guard := none }, { dst := some 17, op := Go.Op.fieldAddr 84 (Go.Operand.tmp 16) 3, type := 0, pos := "agg.go:42", after := #[{ on := 10, ground := Go.Ground.data }], guard := none }, { dst := some 18, op := Go.Op.indexAddr 82 (Go.Operand.tmp 17) (Go.Operand.tmp 7), type := 0, pos := "agg.go:42", after := #[{ on := 11, ground := Go.Ground.data }, { on := 1, ground := Go.Ground.data }, { on := 0, ground := Go.Ground.phase }, { on := 1, ground := Go.Ground.phase }, { on := 2, ground := Go.Ground.phase }, { on := 3, ground := Go.Ground.phase }, { on := 4, ground := Go.Ground.phase }, { on := 5, ground := Go.Ground.phase }, { on := 6, ground := Go.Ground.phase }, { on := 7, ground := Go.Ground.phase }, { on := 8, ground := Go.Ground.phase }, { on := 9, ground := Go.Ground.phase }], guard := none }, { dst := none, op := Go.Op.store 31 (Go.Operand.tmp 18) (Go.Operand.tmp 15), type := 0, pos := "agg.go:42", after := #[{ on := 12, ground := Go.Ground.data }, { on := 9, ground := Go.Ground.data }, { on := 9, ground := Go.Ground.chain }, { on := 0, ground := Go.Ground.phase }, { on := 1, ground := Go.Ground.phase }, { on := 2, ground := Go.Ground.phase }, { on := 3, ground := Go.Ground.phase }, { on := 4, ground := Go.Ground.phase }, { on := 5, ground := Go.Ground.phase }, { on := 6, ground := Go.Ground.phase }, { on := 7, ground := Go.Ground.phase }, { on := 8, ground := Go.Ground.phase }, { on := 9, ground := Go.Ground.phase }], guard := none }]
theorem opsC_0 : opsC[0]? = some { dst := some 6, op := Go.Op.move (Go.Operand.tmp 0), type := 50, pos := "agg.go:42", after := #[], guard := none } := by kernel_rfl
theorem opsC_1 : opsC[1]? = some { dst := some 7, op := Go.Op.move (Go.Operand.tmp 1), type := 3, pos := "agg.go:42", after := #[], guard := none } := by kernel_rfl
theorem opsC_2 : opsC[2]? = some { dst := some 8, op := Go.Op.move (Go.Operand.tmp 2), type := 87, pos := "agg.go:42", after := #[], guard := none } := by kernel_rfl
theorem opsC_3 : opsC[3]? = some { dst := some 9, op := Go.Op.move (Go.Operand.tmp 0), type := 50, pos := "agg.go:42", after := #[], guard := none } := by kernel_rfl
theorem opsC_4 : opsC[4]? = some { dst := some 10, op := Go.Op.move (Go.Operand.tmp 1), type := 3, pos := "agg.go:42", after := #[], guard := none } := by kernel_rfl
theorem opsC_5 : opsC[5]? = some { dst := some 11, op := Go.Op.nilCheck (Go.Operand.tmp 9), type := 0, pos := "agg.go:42", after := #[{ on := 3, ground := Go.Ground.data }], guard := none } := by kernel_rfl
theorem opsC_6 : opsC[6]? = some { dst := some 12, op := Go.Op.fieldAddr 84 (Go.Operand.tmp 11) 3, type := 0, pos := "agg.go:42", after := #[{ on := 5, ground := Go.Ground.data }], guard := none } := by kernel_rfl
theorem opsC_7 : opsC[7]? = some { dst := some 13, op := Go.Op.indexAddr 82 (Go.Operand.tmp 12) (Go.Operand.tmp 10), type := 0, pos := "agg.go:42", after := #[{ on := 6, ground := Go.Ground.data }, { on := 4, ground := Go.Ground.data }], guard := none } := by kernel_rfl
theorem opsC_8 : opsC[8]? = some { dst := some 14, op := Go.Op.load 31 (Go.Operand.tmp 13), type := 31, pos := "agg.go:42", after := #[{ on := 7, ground := Go.Ground.data }], guard := none } := by kernel_rfl
theorem opsC_9 : opsC[9]? = some { dst := some 15, op := Go.Op.call { callee := Go.Callee.value (Go.Operand.tmp 8), args := #[Go.Operand.tmp 14], argTypes := #[31] }, type := 31, pos := "agg.go:42", after := #[{ on := 2, ground := Go.Ground.data }, { on := 8, ground := Go.Ground.data }], guard := none } := by kernel_rfl
theorem opsC_10 : opsC[10]? = some { dst := some 16, op := Go.Op.nilCheck (Go.Operand.tmp 6), type := 0, pos := "agg.go:42", after := #[{ on := 0, ground := Go.Ground.data }], guard := none } := by kernel_rfl
theorem opsC_11 : opsC[11]? = some { dst := some 17, op := Go.Op.fieldAddr 84 (Go.Operand.tmp 16) 3, type := 0, pos := "agg.go:42", after := #[{ on := 10, ground := Go.Ground.data }], guard := none } := by kernel_rfl
theorem opsC_12 : opsC[12]? = some { dst := some 18, op := Go.Op.indexAddr 82 (Go.Operand.tmp 17) (Go.Operand.tmp 7), type := 0, pos := "agg.go:42", after := #[{ on := 11, ground := Go.Ground.data }, { on := 1, ground := Go.Ground.data }, { on := 0, ground := Go.Ground.phase }, { on := 1, ground := Go.Ground.phase }, { on := 2, ground := Go.Ground.phase }, { on := 3, ground := Go.Ground.phase }, { on := 4, ground := Go.Ground.phase }, { on := 5, ground := Go.Ground.phase }, { on := 6, ground := Go.Ground.phase }, { on := 7, ground := Go.Ground.phase }, { on := 8, ground := Go.Ground.phase }, { on := 9, ground := Go.Ground.phase }], guard := none } := by kernel_rfl
theorem opsC_13 : opsC[13]? = some { dst := none, op := Go.Op.store 31 (Go.Operand.tmp 18) (Go.Operand.tmp 15), type := 0, pos := "agg.go:42", after := #[{ on := 12, ground := Go.Ground.data }, { on := 9, ground := Go.Ground.data }, { on := 9, ground := Go.Ground.chain }, { on := 0, ground := Go.Ground.phase }, { on := 1, ground := Go.Ground.phase }, { on := 2, ground := Go.Ground.phase }, { on := 3, ground := Go.Ground.phase }, { on := 4, ground := Go.Ground.phase }, { on := 5, ground := Go.Ground.phase }, { on := 6, ground := Go.Ground.phase }, { on := 7, ground := Go.Ground.phase }, { on := 8, ground := Go.Ground.phase }, { on := 9, ground := Go.Ground.phase }], guard := none } := by kernel_rfl
set_option maxRecDepth 100000 in
set_option maxHeartbeats 1500000 in
theorem regCt {x3 x4 x5 x6 x7 x8 x9 x10 x11 x12 x13 x14 x15 x16 x17 x18 : Value} {Q : Exit → Act → World → Prop} {V0 : World} {p wk ba bw : Nat} {x y : Int}
    (hS0 : V0.drew.cell? ⟨p, 3 + wk, none⟩ = some (.int .i64 x)) (hw : wk < 4) (hfz : V0.drew.frozen? ⟨p, 3 + wk, none⟩ = false)
    (hC : ∀ W, Below V0.drew.heap.size V0.drew W → Calls Try.prog 78 #[.int .i64 x, .pointer (some ⟨ba, 0, none⟩), .pointer (some ⟨bw, 0, none⟩)] W fun e w' => e = .returned (.int .i64 y) ∧ Below W.heap.size W w')
    (hpan : ∀ c (a : Act) w (dd : Tmp) vv, Q (.panic c) (a.put (some dd) vv) w → Q (.panic c) a w)
    (hQ : ∀ (W : World) (t6 t7 t8 t9 t10 t11 t12 t13 t14 t15 t16 t17 t18 : Value), Below V0.drew.heap.size V0.drew W → Q .normal { tmps := #[.pointer (some ⟨p, 0, none⟩), .int .i64 (wk : Int), .func (.func 78) #[] #[.pointer (some ⟨ba, 0, none⟩), .pointer (some ⟨bw, 0, none⟩)], x3, x4, x5, t6, t7, t8, t9, t10, t11, t12, t13, t14, t15, t16, t17, t18], defers := [] } (W.setCell ⟨p, 3 + wk, none⟩ (.int .i64 y))) :
    (Code.region 0 opsC true).wp Try.prog Q { tmps := #[.pointer (some ⟨p, 0, none⟩), .int .i64 (wk : Int), .func (.func 78) #[] #[.pointer (some ⟨ba, 0, none⟩), .pointer (some ⟨bw, 0, none⟩)], x3, x4, x5, x6, x7, x8, x9, x10, x11, x12, x13, x14, x15, x16, x17, x18], defers := [] } V0 := by
  refine wp_region_Z (fun y => y.cell? ⟨p, 3 + wk, none⟩ = some (.int .i64 x)) 13 Try.mixed ?_
  obtain ⟨V, hV⟩ : ∃ V, V0.drew = V := ⟨_, rfl⟩
  rw [hV] at hS0 hfz hC hQ ⊢
  clear hV
  have HQ := hidI hQ
  have HPan := hidI hpan
  have HC := hidI hC
  have HFz := hidI hfz
  have kw : (wk : Int) < 4 := by omega
  have kw0 : (0 : Int) ≤ (wk : Int) := by omega
  clear hQ hpan hC hfz
  refine wpZ_take [13] (i := 0) (v := (.pointer (some ⟨p, 0, none⟩))) opsC_0 (by kernel_rfl) (by kernel_rfl) (by kernel_rfl) (by kernel_rfl) (fun c a w h => HPan.out c a w _ _ h) (.inl ⟨by rfl, fun y hy => ?_⟩) hS0 ?_
  · go_simp
  refine wpZ_take [13] (i := 1) (v := (.int .i64 (wk : Int))) opsC_1 (by kernel_rfl) (by kernel_rfl) (by kernel_rfl) (by kernel_rfl) (fun c a w h => HPan.out c a w _ _ h) (.inl ⟨by rfl, fun y hy => ?_⟩) hS0 ?_
  · go_simp
  refine wpZ_take [13] (i := 2) (v := (.func (.func 78) #[] #[.pointer (some ⟨ba, 0, none⟩), .pointer (some ⟨bw, 0, none⟩)])) opsC_2 (by kernel_rfl) (by kernel_rfl) (by kernel_rfl) (by kernel_rfl) (fun c a w h => HPan.out c a w _ _ h) (.inl ⟨by rfl, fun y hy => ?_⟩) hS0 ?_
  · go_simp
  refine wpZ_take [13] (i := 3) (v := (.pointer (some ⟨p, 0, none⟩))) opsC_3 (by kernel_rfl) (by kernel_rfl) (by kernel_rfl) (by kernel_rfl) (fun c a w h => HPan.out c a w _ _ h) (.inl ⟨by rfl, fun y hy => ?_⟩) hS0 ?_
  · go_simp
  refine wpZ_take [13] (i := 4) (v := (.int .i64 (wk : Int))) opsC_4 (by kernel_rfl) (by kernel_rfl) (by kernel_rfl) (by kernel_rfl) (fun c a w h => HPan.out c a w _ _ h) (.inl ⟨by rfl, fun y hy => ?_⟩) hS0 ?_
  · go_simp
  refine wpZ_take [13] (i := 5) (v := (.pointer (some ⟨p, 0, none⟩))) opsC_5 (by kernel_rfl) (by kernel_rfl) (by kernel_rfl) (by kernel_rfl) (fun c a w h => HPan.out c a w _ _ h) (.inl ⟨by rfl, fun y hy => ?_⟩) hS0 ?_
  · go_simp
  refine wpZ_take [13] (i := 6) (v := (.pointer (some ⟨p, 3, none⟩))) opsC_6 (by kernel_rfl) (by kernel_rfl) (by kernel_rfl) (by kernel_rfl) (fun c a w h => HPan.out c a w _ _ h) (.inl ⟨by rfl, fun y hy => ?_⟩) hS0 ?_
  · go_simp
  refine wpZ_take [13] (i := 7) (v := (.pointer (some ⟨p, 3 + wk, none⟩))) opsC_7 (by kernel_rfl) (by kernel_rfl) (by kernel_rfl) (by kernel_rfl) (fun c a w h => HPan.out c a w _ _ h) (.inl ⟨by rfl, fun y hy => ?_⟩) hS0 ?_
  · go_simp
  refine wpZ_take [13] (i := 8) (v := (.int .i64 x)) opsC_8 (by kernel_rfl) (by kernel_rfl) (by kernel_rfl) (by kernel_rfl) (fun c a w h => HPan.out c a w _ _ h) (.inl ⟨by rfl, fun y hy => ?_⟩) hS0 ?_
  · go_simp
  refine wpZ_take [11, 12, 13] (i := 10) (v := (.pointer (some ⟨p, 0, none⟩))) opsC_10 (by kernel_rfl) (by kernel_rfl) (by kernel_rfl) (by kernel_rfl) (fun c a w h => HPan.out c a w _ _ h) (.inl ⟨by rfl, fun y hy => ?_⟩) hS0 ?_
  · go_simp
  refine wpZ_take [12, 13] (i := 11) (v := (.pointer (some ⟨p, 3, none⟩))) opsC_11 (by kernel_rfl) (by kernel_rfl) (by kernel_rfl) (by kernel_rfl) (fun c a w h => HPan.out c a w _ _ h) (.inl ⟨by rfl, fun y hy => ?_⟩) hS0 ?_
  · go_simp
  have HKS : Hid (∀ y : World, Below V.heap.size V y → y.cell? ⟨p, 3 + wk, none⟩ = some (.int .i64 x)) := hidI fun y hy => (hy.cell (p := ⟨p, 3 + wk, none⟩) (World.block_lt_of_cell? V _ hS0)).trans hS0
  refine wpZ_all (rs := [9]) (by kernel_rfl) (by simp) fun j9 hj9 => ?_
  obtain rfl : j9 = 9 := by simpa using hj9
  refine wpOp_go opsC_9 rfl fun K1 hK1 => ?_
  unfold Oper.wp
  go_simp
  refine Calls.mono (HC.out V (Below.refl _ _)) ?_
  rintro e W1 ⟨rfl, hb1⟩
  have HB1 := hidI hb1
  have hS1 := HKS.out W1 hb1
  have hf1 : W1.frozen? ⟨p, 3 + wk, none⟩ = false := (hb1.frozen (p := ⟨p, 3 + wk, none⟩) (World.block_lt_of_cell? V _ hS0)).trans HFz.out
  clear hb1
  refine hK1 _ _ ⟨fun _ => hS1, ?_⟩
  clear hK1 K1
  refine wpZ_take [13] (i := 12) (v := (.pointer (some ⟨p, 3 + wk, none⟩))) opsC_12 (by kernel_rfl) (by kernel_rfl) (by kernel_rfl) (by kernel_rfl) (fun c a w h => HPan.out c a w _ _ h) (.inl ⟨by rfl, fun y hy => ?_⟩) hS1 ?_
  · go_simp
  refine wpZ_last (by kernel_rfl) (by kernel_rfl) ?_ _
  refine wpOp_go opsC_13 rfl fun K1 hK1 => ?_
  unfold Oper.wp
  go_simp
  refine hK1 _ _ ?_
  exact HQ.out W1 _ _ _ _ _ _ _ _ _ _ _ _ _ HB1.out
set_option maxRecDepth 100000 in
set_option maxHeartbeats 1500000 in
theorem regCc {x3 x4 x5 x6 x7 x8 x9 x10 x11 x12 x13 x14 x15 x16 x17 x18 : Value} {Q : Exit → Act → World → Prop} {V0 : World} {p wk ba : Nat} {x y : Int}
    (hS0 : V0.drew.cell? ⟨p, 3 + wk, none⟩ = some (.int .i64 x)) (hw : wk < 4) (hfz : V0.drew.frozen? ⟨p, 3 + wk, none⟩ = false)
    (hC : ∀ W, Below V0.drew.heap.size V0.drew W → Calls Try.prog 77 #[.int .i64 x, .pointer (some ⟨ba, 0, none⟩)] W fun e w' => e = .returned (.int .i64 y) ∧ Below W.heap.size W w')
    (hpan : ∀ c (a : Act) w (dd : Tmp) vv, Q (.panic c) (a.put (some dd) vv) w → Q (.panic c) a w)
    (hQ : ∀ (W : World) (t6 t7 t8 t9 t10 t11 t12 t13 t14 t15 t16 t17 t18 : Value), Below V0.drew.heap.size V0.drew W → Q .normal { tmps := #[.pointer (some ⟨p, 0, none⟩), .int .i64 (wk : Int), .func (.func 77) #[] #[.pointer (some ⟨ba, 0, none⟩)], x3, x4, x5, t6, t7, t8, t9, t10, t11, t12, t13, t14, t15, t16, t17, t18], defers := [] } (W.setCell ⟨p, 3 + wk, none⟩ (.int .i64 y))) :
    (Code.region 0 opsC true).wp Try.prog Q { tmps := #[.pointer (some ⟨p, 0, none⟩), .int .i64 (wk : Int), .func (.func 77) #[] #[.pointer (some ⟨ba, 0, none⟩)], x3, x4, x5, x6, x7, x8, x9, x10, x11, x12, x13, x14, x15, x16, x17, x18], defers := [] } V0 := by
  refine wp_region_Z (fun y => y.cell? ⟨p, 3 + wk, none⟩ = some (.int .i64 x)) 13 Try.mixed ?_
  obtain ⟨V, hV⟩ : ∃ V, V0.drew = V := ⟨_, rfl⟩
  rw [hV] at hS0 hfz hC hQ ⊢
  clear hV
  have HQ := hidI hQ
  have HPan := hidI hpan
  have HC := hidI hC
  have HFz := hidI hfz
  have kw : (wk : Int) < 4 := by omega
  have kw0 : (0 : Int) ≤ (wk : Int) := by omega
  clear hQ hpan hC hfz
  refine wpZ_take [13] (i := 0) (v := (.pointer (some ⟨p, 0, none⟩))) opsC_0 (by kernel_rfl) (by kernel_rfl) (by kernel_rfl) (by kernel_rfl) (fun c a w h => HPan.out c a w _ _ h) (.inl ⟨by rfl, fun y hy => ?_⟩) hS0 ?_
  · go_simp
  refine wpZ_take [13] (i := 1) (v := (.int .i64 (wk : Int))) opsC_1 (by kernel_rfl) (by kernel_rfl) (by kernel_rfl) (by kernel_rfl) (fun c a w h => HPan.out c a w _ _ h) (.inl ⟨by rfl, fun y hy => ?_⟩) hS0 ?_
  · go_simp
  refine wpZ_take [13] (i := 2) (v := (.func (.func 77) #[] #[.pointer (some ⟨ba, 0, none⟩)])) opsC_2 (by kernel_rfl) (by kernel_rfl) (by kernel_rfl) (by kernel_rfl) (fun c a w h => HPan.out c a w _ _ h) (.inl ⟨by rfl, fun y hy => ?_⟩) hS0 ?_
  · go_simp
  refine wpZ_take [13] (i := 3) (v := (.pointer (some ⟨p, 0, none⟩))) opsC_3 (by kernel_rfl) (by kernel_rfl) (by kernel_rfl) (by kernel_rfl) (fun c a w h => HPan.out c a w _ _ h) (.inl ⟨by rfl, fun y hy => ?_⟩) hS0 ?_
  · go_simp
  refine wpZ_take [13] (i := 4) (v := (.int .i64 (wk : Int))) opsC_4 (by kernel_rfl) (by kernel_rfl) (by kernel_rfl) (by kernel_rfl) (fun c a w h => HPan.out c a w _ _ h) (.inl ⟨by rfl, fun y hy => ?_⟩) hS0 ?_
  · go_simp
  refine wpZ_take [13] (i := 5) (v := (.pointer (some ⟨p, 0, none⟩))) opsC_5 (by kernel_rfl) (by kernel_rfl) (by kernel_rfl) (by kernel_rfl) (fun c a w h => HPan.out c a w _ _ h) (.inl ⟨by rfl, fun y hy => ?_⟩) hS0 ?_
  · go_simp
  refine wpZ_take [13] (i := 6) (v := (.pointer (some ⟨p, 3, none⟩))) opsC_6 (by kernel_rfl) (by kernel_rfl) (by kernel_rfl) (by kernel_rfl) (fun c a w h => HPan.out c a w _ _ h) (.inl ⟨by rfl, fun y hy => ?_⟩) hS0 ?_
  · go_simp
  refine wpZ_take [13] (i := 7) (v := (.pointer (some ⟨p, 3 + wk, none⟩))) opsC_7 (by kernel_rfl) (by kernel_rfl) (by kernel_rfl) (by kernel_rfl) (fun c a w h => HPan.out c a w _ _ h) (.inl ⟨by rfl, fun y hy => ?_⟩) hS0 ?_
  · go_simp
  refine wpZ_take [13] (i := 8) (v := (.int .i64 x)) opsC_8 (by kernel_rfl) (by kernel_rfl) (by kernel_rfl) (by kernel_rfl) (fun c a w h => HPan.out c a w _ _ h) (.inl ⟨by rfl, fun y hy => ?_⟩) hS0 ?_
  · go_simp
  refine wpZ_take [11, 12, 13] (i := 10) (v := (.pointer (some ⟨p, 0, none⟩))) opsC_10 (by kernel_rfl) (by kernel_rfl) (by kernel_rfl) (by kernel_rfl) (fun c a w h => HPan.out c a w _ _ h) (.inl ⟨by rfl, fun y hy => ?_⟩) hS0 ?_
  · go_simp
  refine wpZ_take [12, 13] (i := 11) (v := (.pointer (some ⟨p, 3, none⟩))) opsC_11 (by kernel_rfl) (by kernel_rfl) (by kernel_rfl) (by kernel_rfl) (fun c a w h => HPan.out c a w _ _ h) (.inl ⟨by rfl, fun y hy => ?_⟩) hS0 ?_
  · go_simp
  have HKS : Hid (∀ y : World, Below V.heap.size V y → y.cell? ⟨p, 3 + wk, none⟩ = some (.int .i64 x)) := hidI fun y hy => (hy.cell (p := ⟨p, 3 + wk, none⟩) (World.block_lt_of_cell? V _ hS0)).trans hS0
  refine wpZ_all (rs := [9]) (by kernel_rfl) (by simp) fun j9 hj9 => ?_
  obtain rfl : j9 = 9 := by simpa using hj9
  refine wpOp_go opsC_9 rfl fun K1 hK1 => ?_
  unfold Oper.wp
  go_simp
  refine Calls.mono (HC.out V (Below.refl _ _)) ?_
  rintro e W1 ⟨rfl, hb1⟩
  have HB1 := hidI hb1
  have hS1 := HKS.out W1 hb1
  have hf1 : W1.frozen? ⟨p, 3 + wk, none⟩ = false := (hb1.frozen (p := ⟨p, 3 + wk, none⟩) (World.block_lt_of_cell? V _ hS0)).trans HFz.out
  clear hb1
  refine hK1 _ _ ⟨fun _ => hS1, ?_⟩
  clear hK1 K1
  refine wpZ_take [13] (i := 12) (v := (.pointer (some ⟨p, 3 + wk, none⟩))) opsC_12 (by kernel_rfl) (by kernel_rfl) (by kernel_rfl) (by kernel_rfl) (fun c a w h => HPan.out c a w _ _ h) (.inl ⟨by rfl, fun y hy => ?_⟩) hS1 ?_
  · go_simp
  refine wpZ_last (by kernel_rfl) (by kernel_rfl) ?_ _
  refine wpOp_go opsC_13 rfl fun K1 hK1 => ?_
  unfold Oper.wp
  go_simp
  refine hK1 _ _ ?_
  exact HQ.out W1 _ _ _ _ _ _ _ _ _ _ _ _ _ HB1.out
def opsG : Array Oper := #[{ dst := some 8, op := Go.Op.load 50 (Go.Operand.tmp 1), type := 50, pos := "agg.go:48", after := #[], guard := none }, { dst := some 9, op := Go.Op.nilCheck (Go.Operand.tmp 8), type := 0, pos := "agg.go:48", after := #[{ on := 0, ground := Go.Ground.data }], guard := none }, { dst := some 10, op := Go.Op.fieldAddr 84 (Go.Operand.tmp 9) 0, type := 0, pos := "agg.go:48", after := #[{ on := 1, ground := Go.Ground.data }], guard := none }, { dst := some 11, op := Go.Op.load 38 (Go.Operand.tmp 10), type := 38, pos := "agg.go:48", after := #[{ on := 2, ground := Go.Ground.data }], guard := none }, { dst := some 12, op := Go.Op.move (Go.Operand.tmp 0), type := 31, pos := "agg.go:48", after := #[], guard := none }, { dst := some 13, op := Go.Op.load 31 (Go.Operand.tmp 2), type := 31, pos := "agg.go:48", after := #[], guard := none }, { dst := some 14, op := Go.Op.buildSlice 75 2 #[(0, Go.Operand.tmp 12), (1, Go.Operand.tmp 13)], type := 75, pos := "agg.go:48", after := #[{ on := 4, ground := Go.Ground.data }, { on := 5, ground := Go.Ground.data }], guard := none }, { dst := some 15, op := Go.Op.call { callee := Go.Callee.value (Go.Operand.func 66), args := #[Go.Operand.tmp 11, Go.Operand.tmp 14], argTypes := #[38, 75] }, type := 36, pos := "agg.go:48", after := #[{ on := 3, ground := Go.Ground.data }, { on := 6, ground := Go.Ground.data }], guard := none }, { dst := some 7, op := Go.Op.move (Go.Operand.tmp 15), type := 36, pos := "agg.go:48", after := #[{ on := 7, ground := Go.Ground.data }], guard := none }, { dst := some 16, op := Go.Op.extract (Go.Operand.tmp 7) 0, type := 31, pos := "agg.go:48", after := #[{ on := 8, ground := Go.Ground.data }], guard := none }, { dst := some 17, op := Go.Op.extract (Go.Operand.tmp 7) 1, type := 33, pos := "agg.go:48", after := #[{ on := 8, ground := Go.Ground.data }, { on := 11, ground := Go.Ground.gcOnly Go.Departure.lateStores }], guard := none }, { dst := some 5, op := Go.Op.assign (Go.Operand.tmp 16), type := 31, pos := "agg.go:48", after := #[{ on := 9, ground := Go.Ground.data }, { on := 7, ground := Go.Ground.chain }, { on := 0, ground := Go.Ground.phase }, { on := 1, ground := Go.Ground.phase }, { on := 2, ground := Go.Ground.phase }, { on := 3, ground := Go.Ground.phase }, { on := 4, ground := Go.Ground.phase }, { on := 5, ground := Go.Ground.phase }, { on := 6, ground := Go.Ground.phase }, { on := 7, ground := Go.Ground.phase }, { on := 8, ground := Go.Ground.phase }, { on := 9, ground := Go.Ground.phase }, { on := 10, ground := Go.Ground.textOnly Go.Departure.lateStores }], guard := none }, { dst := some 6, op := Go.Op.assign (Go.Operand.tmp 17), type := 33, pos := "agg.go:48", after := #[{ on := 10, ground := Go.Ground.data }, { on := 11, ground := Go.Ground.chain }, { on := 0, ground := Go.Ground.phase }, { on := 1, ground := Go.Ground.phase }, { on := 2, ground := Go.Ground.phase }, { on := 3, ground := Go.Ground.phase }, { on := 4, ground := Go.Ground.phase }, { on := 5, ground := Go.Ground.phase }, { on := 6, ground := Go.Ground.phase }, { on := 7, ground := Go.Ground.phase }, { on := 8, ground := Go.Ground.phase }, { on := 9, ground := Go.Ground.phase }, { on := 10, ground := Go.Ground.phase }, { on := 11, ground := Go.Ground.phase }], guard := none }]
theorem opsG_0 : opsG[0]? = some { dst := some 8, op := Go.Op.load 50 (Go.Operand.tmp 1), type := 50, pos := "agg.go:48", after := #[], guard := none } := by kernel_rfl
theorem opsG_1 : opsG[1]? = some { dst := some 9, op := Go.Op.nilCheck (Go.Operand.tmp 8), type := 0, pos := "agg.go:48", after := #[{ on := 0, ground := Go.Ground.data }], guard := none } := by kernel_rfl
theorem opsG_2 : opsG[2]? = some { dst := some 10, op := Go.Op.fieldAddr 84 (Go.Operand.tmp 9) 0, type := 0, pos := "agg.go:48", after := #[{ on := 1, ground := Go.Ground.data }], guard := none } := by kernel_rfl
theorem opsG_3 : opsG[3]? = some { dst := some 11, op := Go.Op.load 38 (Go.Operand.tmp 10), type := 38, pos := "agg.go:48", after := #[{ on := 2, ground := Go.Ground.data }], guard := none } := by kernel_rfl
theorem opsG_4 : opsG[4]? = some { dst := some 12, op := Go.Op.move (Go.Operand.tmp 0), type := 31, pos := "agg.go:48", after := #[], guard := none } := by kernel_rfl
theorem opsG_5 : opsG[5]? = some { dst := some 13, op := Go.Op.load 31 (Go.Operand.tmp 2), type := 31, pos := "agg.go:48", after := #[], guard := none } := by kernel_rfl
theorem opsG_6 : opsG[6]? = some { dst := some 14, op := Go.Op.buildSlice 75 2 #[(0, Go.Operand.tmp 12), (1, Go.Operand.tmp 13)], type := 75, pos := "agg.go:48", after := #[{ on := 4, ground := Go.Ground.data }, { on := 5, ground := Go.Ground.data }], guard := none } := by kernel_rfl
theorem opsG_7 : opsG[7]? = some { dst := some 15, op := Go.Op.call { callee := Go.Callee.value (Go.Operand.func 66), args := #[Go.Operand.tmp 11, Go.Operand.tmp 14], argTypes := #[38, 75] }, type := 36, pos := "agg.go:48", after := #[{ on := 3, ground := Go.Ground.data }, { on := 6, ground := Go.Ground.data }], guard := none } := by kernel_rfl
theorem opsG_8 : opsG[8]? = some { dst := some 7, op := Go.Op.move (Go.Operand.tmp 15), type := 36, pos := "agg.go:48", after := #[{ on := 7, ground := Go.Ground.data }], guard := none } := by kernel_rfl
theorem opsG_9 : opsG[9]? = some { dst := some 16, op := Go.Op.extract (Go.Operand.tmp 7) 0, type := 31, pos := "agg.go:48", after := #[{ on := 8, ground := Go.Ground.data }], guard := none } := by kernel_rfl
theorem opsG_10 : opsG[10]? = some { dst := some 17, op := Go.Op.extract (Go.Operand.tmp 7) 1, type := 33, pos := "agg.go:48", after := #[{ on := 8, ground := Go.Ground.data }, { on := 11, ground := Go.Ground.gcOnly Go.Departure.lateStores }], guard := none } := by kernel_rfl
theorem opsG_11 : opsG[11]? = some { dst := some 5, op := Go.Op.assign (Go.Operand.tmp 16), type := 31, pos := "agg.go:48", after := #[{ on := 9, ground := Go.Ground.data }, { on := 7, ground := Go.Ground.chain }, { on := 0, ground := Go.Ground.phase }, { on := 1, ground := Go.Ground.phase }, { on := 2, ground := Go.Ground.phase }, { on := 3, ground := Go.Ground.phase }, { on := 4, ground := Go.Ground.phase }, { on := 5, ground := Go.Ground.phase }, { on := 6, ground := Go.Ground.phase }, { on := 7, ground := Go.Ground.phase }, { on := 8, ground := Go.Ground.phase }, { on := 9, ground := Go.Ground.phase }, { on := 10, ground := Go.Ground.textOnly Go.Departure.lateStores }], guard := none } := by kernel_rfl
theorem opsG_12 : opsG[12]? = some { dst := some 6, op := Go.Op.assign (Go.Operand.tmp 17), type := 33, pos := "agg.go:48", after := #[{ on := 10, ground := Go.Ground.data }, { on := 11, ground := Go.Ground.chain }, { on := 0, ground := Go.Ground.phase }, { on := 1, ground := Go.Ground.phase }, { on := 2, ground := Go.Ground.phase }, { on := 3, ground := Go.Ground.phase }, { on := 4, ground := Go.Ground.phase }, { on := 5, ground := Go.Ground.phase }, { on := 6, ground := Go.Ground.phase }, { on := 7, ground := Go.Ground.phase }, { on := 8, ground := Go.Ground.phase }, { on := 9, ground := Go.Ground.phase }, { on := 10, ground := Go.Ground.phase }, { on := 11, ground := Go.Ground.phase }], guard := none } := by kernel_rfl
set_option maxRecDepth 100000 in
set_option maxHeartbeats 1500000 in
theorem regG {x3 x4 x5 x6 x7 x8 x9 x10 x11 x12 x13 x14 x15 x16 x17 x18 : Value} {Q : Exit → Act → World → Prop} {V0 : World} {p o ba bw : Nat} {x z : Int}
    (hS0 : V0.drew.cell? ⟨ba, 0, none⟩ = some (.pointer (some ⟨p, 0, none⟩)) ∧ V0.drew.cell? ⟨bw, 0, none⟩ = some (.int .i64 z) ∧ V0.drew.cell? ⟨p, 0, none⟩ = some (.int .u8 (o : Int))) (ho : many5 o)
    (hpan : ∀ c (a : Act) w (dd : Tmp) vv, Q (.panic c) (a.put (some dd) vv) w → Q (.panic c) a w)
    (hQ : ∀ (W : World) (t7 t8 t9 t10 t11 t12 t13 t14 t15 t16 t17 : Value), Below V0.drew.heap.size V0.drew W → Q .normal { tmps := #[.int .i64 x, .pointer (some ⟨ba, 0, none⟩), .pointer (some ⟨bw, 0, none⟩), x3, x4, .int .i64 (opTwo o x z), .int .i64 0, t7, t8, t9, t10, t11, t12, t13, t14, t15, t16, t17, x18], defers := [] } W) :
    (Code.region 1 opsG true).wp Try.prog Q { tmps := #[.int .i64 x, .pointer (some ⟨ba, 0, none⟩), .pointer (some ⟨bw, 0, none⟩), x3, x4, x5, x6, x7, x8, x9, x10, x11, x12, x13, x14, x15, x16, x17, x18], defers := [] } V0 := by
  refine wp_region_Z (fun y => y.cell? ⟨ba, 0, none⟩ = some (.pointer (some ⟨p, 0, none⟩)) ∧ y.cell? ⟨bw, 0, none⟩ = some (.int .i64 z) ∧ y.cell? ⟨p, 0, none⟩ = some (.int .u8 (o : Int))) 12 Try.mixed ?_
  obtain ⟨V, hV⟩ : ∃ V, V0.drew = V := ⟨_, rfl⟩
  rw [hV] at hS0 hQ ⊢
  clear hV
  have HQ := hidI hQ
  have HPan := hidI hpan
  have HM := hidI ho
  clear hQ hpan ho
  refine wpZ_take [12] (i := 0) (v := (.pointer (some ⟨p, 0, none⟩))) opsG_0 (by kernel_rfl) (by kernel_rfl) (by kernel_rfl) (by kernel_rfl) (fun c a w h => HPan.out c a w _ _ h) (.inl ⟨by rfl, fun y hy => ?_⟩) hS0 ?_
  · obtain ⟨y0, y1, y2⟩ := hy; go_simp
  refine wpZ_take [12] (i := 1) (v := (.pointer (some ⟨p, 0, none⟩))) opsG_1 (by kernel_rfl) (by kernel_rfl) (by kernel_rfl) (by kernel_rfl) (fun c a w h => HPan.out c a w _ _ h) (.inl ⟨by rfl, fun y hy => ?_⟩) hS0 ?_
  · go_simp
  refine wpZ_take [12] (i := 2) (v := (.pointer (some ⟨p, 0, none⟩))) opsG_2 (by kernel_rfl) (by kernel_rfl) (by kernel_rfl) (by kernel_rfl) (fun c a w h => HPan.out c a w _ _ h) (.inl ⟨by rfl, fun y hy => ?_⟩) hS0 ?_
  · go_simp
  refine wpZ_take [12] (i := 3) (v := (.int .u8 (o : Int))) opsG_3 (by kernel_rfl) (by kernel_rfl) (by kernel_rfl) (by kernel_rfl) (fun c a w h => HPan.out c a w _ _ h) (.inl ⟨by rfl, fun y hy => ?_⟩) hS0 ?_
  · obtain ⟨y0, y1, y2⟩ := hy; go_simp
  refine wpZ_take [12] (i := 4) (v := (.int .i64 x)) opsG_4 (by kernel_rfl) (by kernel_rfl) (by kernel_rfl) (by kernel_rfl) (fun c a w h => HPan.out c a w _ _ h) (.inl ⟨by rfl, fun y hy => ?_⟩) hS0 ?_
  · go_simp
  refine wpZ_take [12] (i := 5) (v := (.int .i64 z)) opsG_5 (by kernel_rfl) (by kernel_rfl) (by kernel_rfl) (by kernel_rfl) (fun c a w h => HPan.out c a w _ _ h) (.inl ⟨by rfl, fun y hy => ?_⟩) hS0 ?_
  · obtain ⟨y0, y1, y2⟩ := hy; go_simp
  have HKS : Hid (∀ y : World, Below V.heap.size V y → y.cell? ⟨ba, 0, none⟩ = some (.pointer (some ⟨p, 0, none⟩)) ∧ y.cell? ⟨bw, 0, none⟩ = some (.int .i64 z) ∧ y.cell? ⟨p, 0, none⟩ = some (.int .u8 (o : Int))) := hidI fun y hy => by
    have zz : ∀ {p : Addr} {v : Value}, V.cell? p = some v → y.cell? p = some v := fun {p v} hc => (hy.cell (World.block_lt_of_cell? V _ hc)).trans hc
    obtain ⟨y0, y1, y2⟩ := hS0
    exact ⟨zz y0, zz y1, zz y2⟩
  refine wpZ_all (rs := [6]) (by kernel_rfl) (by simp) fun j6 hj6 => ?_
  obtain rfl : j6 = 6 := by simpa using hj6
  refine wpOp_go opsG_6 rfl fun K1 hK1 => ?_
  unfold Oper.wp
  go_simp
  have HB1 : Hid (Below V.heap.size V (V.alloc (Obj.cells #[.int .i64 x, .int .i64 z] 31))) := hidI ((Below.refl _ _).alloc (Nat.le_refl _) _)
  have CD := hidI (doB_many o HM.out (V.alloc (Obj.cells #[.int .i64 x, .int .i64 z] 31)) x z V.heap.size 0 2 (by go_simp) (by go_simp))
  have hS1 := HKS.out _ HB1.out
  refine hK1 _ _ ⟨fun _ => hS1, ?_⟩
  clear hK1 K1
  refine wpZ_all (rs := [7]) (by kernel_rfl) (by simp) fun j7 hj7 => ?_
  obtain rfl : j7 = 7 := by simpa using hj7
  refine wpOp_go opsG_7 rfl fun K1 hK1 => ?_
  unfold Oper.wp
  go_simp
  refine Calls.mono CD.out ?_
  rintro e W1 ⟨rfl, hb1⟩
  have HB2 : Hid (Below V.heap.size V W1) := hidI (HB1.out.trans (hb1.mono (by simp)))
  have hS2 := HKS.out _ HB2.out
  clear hb1 CD
  refine hK1 _ _ ⟨fun _ => hS2, ?_⟩
  clear hK1 K1
  refine wpZ_all (rs := [8]) (by kernel_rfl) (by simp) fun j8 hj8 => ?_
  obtain rfl : j8 = 8 := by simpa using hj8
  refine wpOp_go opsG_8 rfl fun K1 hK1 => ?_
  unfold Oper.wp
  go_simp
  refine hK1 _ _ ⟨fun _ => hS2, ?_⟩
  clear hK1 K1
  refine wpZ_all (rs := [9, 10]) (by kernel_rfl) (by simp) fun q1 hq1 => ?_
  have hq1' : q1 = 9 ∨ q1 = 10 := by simp only [List.mem_cons, List.mem_nil_iff, or_false] at hq1; omega
  clear hq1
  rcases hq1' with rfl | rfl
  · refine wpOp_go opsG_9 rfl fun K1 hK1 => ?_
    unfold Oper.wp
    go_simp
    refine hK1 _ _ ⟨fun _ => hS2, ?_⟩
    clear hK1 K1
    refine wpZ_all (rs := [10, 11]) (by kernel_rfl) (by simp) fun q2 hq2 => ?_
    have hq2' : q2 = 10 ∨ q2 = 11 := by simp only [List.mem_cons, List.mem_nil_iff, or_false] at hq2; omega
    clear hq2
    rcases hq2' with rfl | rfl
    · refine wpOp_go opsG_10 rfl fun K1 hK1 => ?_
      unfold Oper.wp
      go_simp
      refine hK1 _ _ ⟨fun _ => hS2, ?_⟩
      clear hK1 K1
      refine wpZ_all (rs := [11]) (by kernel_rfl) (by simp) fun j11 hj11 => ?_
      obtain rfl : j11 = 11 := by simpa using hj11
      refine wpOp_go opsG_11 rfl fun K1 hK1 => ?_
      unfold Oper.wp
      go_simp
      refine hK1 _ _ ⟨fun _ => hS2, ?_⟩
      clear hK1 K1
      refine wpZ_all (rs := [12]) (by kernel_rfl) (by simp) fun j12 hj12 => ?_
      obtain rfl : j12 = 12 := by simpa using hj12
      refine wpOp_go opsG_12 rfl fun K1 hK1 => ?_
      unfold Oper.wp
      go_simp
      refine hK1 _ _ ⟨fun _ => hS2, ?_⟩
      clear hK1 K1
      refine wpZ_done (by kernel_rfl) ?_ _
      exact HQ.out _ _ _ _ _ _ _ _ _ _ _ _ HB2.out
    · refine wpOp_go opsG_11 rfl fun K1 hK1 => ?_
      unfold Oper.wp
      go_simp
      refine hK1 _ _ ⟨fun _ => hS2, ?_⟩
      clear hK1 K1
      refine wpZ_all (rs := [10]) (by kernel_rfl) (by simp) fun j10 hj10 => ?_
      obtain rfl : j10 = 10 := by simpa using hj10
      refine wpOp_go opsG_10 rfl fun K1 hK1 => ?_
      unfold Oper.wp
      go_simp
      refine hK1 _ _ ⟨fun _ => hS2, ?_⟩
      clear hK1 K1
      refine wpZ_all (rs := [12]) (by kernel_rfl) (by simp) fun j12 hj12 => ?_
      obtain rfl : j12 = 12 := by simpa using hj12
      refine wpOp_go opsG_12 rfl fun K1 hK1 => ?_
      unfold Oper.wp
      go_simp
      refine hK1 _ _ ⟨fun _ => hS2, ?_⟩
      clear hK1 K1
      refine wpZ_done (by kernel_rfl) ?_ _
      exact HQ.out _ _ _ _ _ _ _ _ _ _ _ _ HB2.out
  · refine wpOp_go opsG_10 rfl fun K1 hK1 => ?_
    unfold Oper.wp
    go_simp
    refine hK1 _ _ ⟨fun _ => hS2, ?_⟩
    clear hK1 K1
    refine wpZ_all (rs := [9]) (by kernel_rfl) (by simp) fun j9 hj9 => ?_
    obtain rfl : j9 = 9 := by simpa using hj9
    refine wpOp_go opsG_9 rfl fun K1 hK1 => ?_
    unfold Oper.wp
    go_simp
    refine hK1 _ _ ⟨fun _ => hS2, ?_⟩
    clear hK1 K1
    refine wpZ_all (rs := [11]) (by kernel_rfl) (by simp) fun j11 hj11 => ?_
    obtain rfl : j11 = 11 := by simpa using hj11
    refine wpOp_go opsG_11 rfl fun K1 hK1 => ?_
    unfold Oper.wp
    go_simp
    refine hK1 _ _ ⟨fun _ => hS2, ?_⟩
    clear hK1 K1
    refine wpZ_all (rs := [12]) (by kernel_rfl) (by simp) fun j12 hj12 => ?_
    obtain rfl : j12 = 12 := by simpa using hj12
    refine wpOp_go opsG_12 rfl fun K1 hK1 => ?_
    unfold Oper.wp
    go_simp
    refine hK1 _ _ ⟨fun _ => hS2, ?_⟩
    clear hK1 K1
    refine wpZ_done (by kernel_rfl) ?_ _
    exact HQ.out _ _ _ _ _ _ _ _ _ _ _ _ HB2.out
end Go.Proofs.Ytdfieflcclbgjaa
