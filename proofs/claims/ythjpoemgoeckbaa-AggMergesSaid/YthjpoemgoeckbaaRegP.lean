/-
  A worker's part takes one number more in, in whatever order.
-/
import Derived.Test.YthjpoemgoeckbaaZed
import Derived.Test.YthjpoemgoeckbaaNumR
namespace Go.Proofs.Ythjpoemgoeckbaa
open Go.RowKit Go.Deep Go.MapKept
def opsP : Array Oper := #[{ dst := some 37, op := Go.Op.move (Go.Operand.tmp 0), type := 25, pos := "ref.go:51", after := #[], guard := none }, { dst := some 38, op := Go.Op.nilCheck (Go.Operand.tmp 37), type := 0, pos := "ref.go:51", after := #[{ on := 0, ground := Go.Ground.data }], guard := none }, { dst := some 39, op := Go.Op.fieldAddr 67 (Go.Operand.tmp 38) 0, type := 0, pos := "ref.go:51", after := #[{ on := 1, ground := Go.Ground.data }], guard := none }, { dst := some 40, op := Go.Op.load 22 (Go.Operand.tmp 39), type := 22, pos := "ref.go:51", after := #[{ on := 2, ground := Go.Ground.data }], guard := none }, { dst := some 41, op := Go.Op.move (Go.Operand.tmp 7), type := 41, pos := "ref.go:51", after := #[], guard := none }, { dst := some 42, op := Go.Op.move (Go.Operand.tmp 0), type := 25, pos := "ref.go:51", after := #[], guard := none }, { dst := some 43, op := Go.Op.nilCheck (Go.Operand.tmp 42), type := 0, pos := "ref.go:51", after := #[{ on := 5, ground := Go.Ground.data }], guard := none }, { dst := some 44, op := Go.Op.fieldAddr 67 (Go.Operand.tmp 43) 1, type := 0, pos := "ref.go:51", after := #[{ on := 6, ground := Go.Ground.data }], guard := none }, { dst := some 45, op := Go.Op.load 65 (Go.Operand.tmp 44), type := 65, pos := "ref.go:51", after := #[{ on := 7, ground := Go.Ground.data }], guard := none }, { dst := some 46, op := Go.Op.move (Go.Operand.tmp 1), type := 3, pos := "ref.go:51", after := #[], guard := none }, { dst := some 47, op := Go.Op.indexAddr 65 (Go.Operand.tmp 45) (Go.Operand.tmp 46), type := 0, pos := "ref.go:51", after := #[{ on := 8, ground := Go.Ground.data }, { on := 9, ground := Go.Ground.data }], guard := none }, { dst := some 48, op := Go.Op.load 39 (Go.Operand.tmp 47), type := 39, pos := "ref.go:51", after := #[{ on := 10, ground := Go.Ground.data }], guard := none }, { dst := some 49, op := Go.Op.move (Go.Operand.tmp 9), type := 3, pos := "ref.go:51", after := #[], guard := none }, { dst := some 50, op := Go.Op.indexAddr 39 (Go.Operand.tmp 48) (Go.Operand.tmp 49), type := 0, pos := "ref.go:51", after := #[{ on := 11, ground := Go.Ground.data }, { on := 12, ground := Go.Ground.data }], guard := none }, { dst := some 51, op := Go.Op.load 41 (Go.Operand.tmp 50), type := 41, pos := "ref.go:51", after := #[{ on := 13, ground := Go.Ground.data }], guard := none }, { dst := some 52, op := Go.Op.buildSlice 39 2 #[(0, Go.Operand.tmp 41), (1, Go.Operand.tmp 51)], type := 39, pos := "ref.go:51", after := #[{ on := 4, ground := Go.Ground.data }, { on := 14, ground := Go.Ground.data }], guard := none }, { dst := some 53, op := Go.Op.call { callee := Go.Callee.value (Go.Operand.func 37), args := #[Go.Operand.tmp 40, Go.Operand.tmp 52], argTypes := #[22, 39] }, type := 45, pos := "ref.go:51", after := #[{ on := 3, ground := Go.Ground.data }, { on := 15, ground := Go.Ground.data }], guard := none }, { dst := some 36, op := Go.Op.move (Go.Operand.tmp 53), type := 45, pos := "ref.go:51", after := #[{ on := 16, ground := Go.Ground.data }], guard := none }, { dst := some 54, op := Go.Op.extract (Go.Operand.tmp 36) 0, type := 41, pos := "ref.go:51", after := #[{ on := 17, ground := Go.Ground.data }], guard := none }, { dst := some 55, op := Go.Op.extract (Go.Operand.tmp 36) 1, type := 35, pos := "ref.go:51", after := #[{ on := 17, ground := Go.Ground.data }, { on := 20, ground := Go.Ground.gcOnly Go.Departure.lateStores }], guard := none }, { dst := some 7, op := Go.Op.assign (Go.Operand.tmp 54), type := 41, pos := "ref.go:51", after := #[{ on := 18, ground := Go.Ground.data }, { on := 16, ground := Go.Ground.chain }, { on := 0, ground := Go.Ground.phase }, { on := 1, ground := Go.Ground.phase }, { on := 2, ground := Go.Ground.phase }, { on := 3, ground := Go.Ground.phase }, { on := 4, ground := Go.Ground.phase }, { on := 5, ground := Go.Ground.phase }, { on := 6, ground := Go.Ground.phase }, { on := 7, ground := Go.Ground.phase }, { on := 8, ground := Go.Ground.phase }, { on := 9, ground := Go.Ground.phase }, { on := 10, ground := Go.Ground.phase }, { on := 11, ground := Go.Ground.phase }, { on := 12, ground := Go.Ground.phase }, { on := 13, ground := Go.Ground.phase }, { on := 14, ground := Go.Ground.phase }, { on := 15, ground := Go.Ground.phase }, { on := 16, ground := Go.Ground.phase }, { on := 17, ground := Go.Ground.phase }, { on := 18, ground := Go.Ground.phase }, { on := 19, ground := Go.Ground.textOnly Go.Departure.lateStores }], guard := none }]
theorem opsP_0 : opsP[0]? = some { dst := some 37, op := Go.Op.move (Go.Operand.tmp 0), type := 25, pos := "ref.go:51", after := #[], guard := none } := by kernel_rfl
theorem opsP_1 : opsP[1]? = some { dst := some 38, op := Go.Op.nilCheck (Go.Operand.tmp 37), type := 0, pos := "ref.go:51", after := #[{ on := 0, ground := Go.Ground.data }], guard := none } := by kernel_rfl
theorem opsP_2 : opsP[2]? = some { dst := some 39, op := Go.Op.fieldAddr 67 (Go.Operand.tmp 38) 0, type := 0, pos := "ref.go:51", after := #[{ on := 1, ground := Go.Ground.data }], guard := none } := by kernel_rfl
theorem opsP_3 : opsP[3]? = some { dst := some 40, op := Go.Op.load 22 (Go.Operand.tmp 39), type := 22, pos := "ref.go:51", after := #[{ on := 2, ground := Go.Ground.data }], guard := none } := by kernel_rfl
theorem opsP_4 : opsP[4]? = some { dst := some 41, op := Go.Op.move (Go.Operand.tmp 7), type := 41, pos := "ref.go:51", after := #[], guard := none } := by kernel_rfl
theorem opsP_5 : opsP[5]? = some { dst := some 42, op := Go.Op.move (Go.Operand.tmp 0), type := 25, pos := "ref.go:51", after := #[], guard := none } := by kernel_rfl
theorem opsP_6 : opsP[6]? = some { dst := some 43, op := Go.Op.nilCheck (Go.Operand.tmp 42), type := 0, pos := "ref.go:51", after := #[{ on := 5, ground := Go.Ground.data }], guard := none } := by kernel_rfl
theorem opsP_7 : opsP[7]? = some { dst := some 44, op := Go.Op.fieldAddr 67 (Go.Operand.tmp 43) 1, type := 0, pos := "ref.go:51", after := #[{ on := 6, ground := Go.Ground.data }], guard := none } := by kernel_rfl
theorem opsP_8 : opsP[8]? = some { dst := some 45, op := Go.Op.load 65 (Go.Operand.tmp 44), type := 65, pos := "ref.go:51", after := #[{ on := 7, ground := Go.Ground.data }], guard := none } := by kernel_rfl
theorem opsP_9 : opsP[9]? = some { dst := some 46, op := Go.Op.move (Go.Operand.tmp 1), type := 3, pos := "ref.go:51", after := #[], guard := none } := by kernel_rfl
theorem opsP_10 : opsP[10]? = some { dst := some 47, op := Go.Op.indexAddr 65 (Go.Operand.tmp 45) (Go.Operand.tmp 46), type := 0, pos := "ref.go:51", after := #[{ on := 8, ground := Go.Ground.data }, { on := 9, ground := Go.Ground.data }], guard := none } := by kernel_rfl
theorem opsP_11 : opsP[11]? = some { dst := some 48, op := Go.Op.load 39 (Go.Operand.tmp 47), type := 39, pos := "ref.go:51", after := #[{ on := 10, ground := Go.Ground.data }], guard := none } := by kernel_rfl
theorem opsP_12 : opsP[12]? = some { dst := some 49, op := Go.Op.move (Go.Operand.tmp 9), type := 3, pos := "ref.go:51", after := #[], guard := none } := by kernel_rfl
theorem opsP_13 : opsP[13]? = some { dst := some 50, op := Go.Op.indexAddr 39 (Go.Operand.tmp 48) (Go.Operand.tmp 49), type := 0, pos := "ref.go:51", after := #[{ on := 11, ground := Go.Ground.data }, { on := 12, ground := Go.Ground.data }], guard := none } := by kernel_rfl
theorem opsP_14 : opsP[14]? = some { dst := some 51, op := Go.Op.load 41 (Go.Operand.tmp 50), type := 41, pos := "ref.go:51", after := #[{ on := 13, ground := Go.Ground.data }], guard := none } := by kernel_rfl
theorem opsP_15 : opsP[15]? = some { dst := some 52, op := Go.Op.buildSlice 39 2 #[(0, Go.Operand.tmp 41), (1, Go.Operand.tmp 51)], type := 39, pos := "ref.go:51", after := #[{ on := 4, ground := Go.Ground.data }, { on := 14, ground := Go.Ground.data }], guard := none } := by kernel_rfl
theorem opsP_16 : opsP[16]? = some { dst := some 53, op := Go.Op.call { callee := Go.Callee.value (Go.Operand.func 37), args := #[Go.Operand.tmp 40, Go.Operand.tmp 52], argTypes := #[22, 39] }, type := 45, pos := "ref.go:51", after := #[{ on := 3, ground := Go.Ground.data }, { on := 15, ground := Go.Ground.data }], guard := none } := by kernel_rfl
theorem opsP_17 : opsP[17]? = some { dst := some 36, op := Go.Op.move (Go.Operand.tmp 53), type := 45, pos := "ref.go:51", after := #[{ on := 16, ground := Go.Ground.data }], guard := none } := by kernel_rfl
theorem opsP_18 : opsP[18]? = some { dst := some 54, op := Go.Op.extract (Go.Operand.tmp 36) 0, type := 41, pos := "ref.go:51", after := #[{ on := 17, ground := Go.Ground.data }], guard := none } := by kernel_rfl
theorem opsP_19 : opsP[19]? = some { dst := some 55, op := Go.Op.extract (Go.Operand.tmp 36) 1, type := 35, pos := "ref.go:51", after := #[{ on := 17, ground := Go.Ground.data }, { on := 20, ground := Go.Ground.gcOnly Go.Departure.lateStores }], guard := none } := by kernel_rfl
theorem opsP_20 : opsP[20]? = some { dst := some 7, op := Go.Op.assign (Go.Operand.tmp 54), type := 41, pos := "ref.go:51", after := #[{ on := 18, ground := Go.Ground.data }, { on := 16, ground := Go.Ground.chain }, { on := 0, ground := Go.Ground.phase }, { on := 1, ground := Go.Ground.phase }, { on := 2, ground := Go.Ground.phase }, { on := 3, ground := Go.Ground.phase }, { on := 4, ground := Go.Ground.phase }, { on := 5, ground := Go.Ground.phase }, { on := 6, ground := Go.Ground.phase }, { on := 7, ground := Go.Ground.phase }, { on := 8, ground := Go.Ground.phase }, { on := 9, ground := Go.Ground.phase }, { on := 10, ground := Go.Ground.phase }, { on := 11, ground := Go.Ground.phase }, { on := 12, ground := Go.Ground.phase }, { on := 13, ground := Go.Ground.phase }, { on := 14, ground := Go.Ground.phase }, { on := 15, ground := Go.Ground.phase }, { on := 16, ground := Go.Ground.phase }, { on := 17, ground := Go.Ground.phase }, { on := 18, ground := Go.Ground.phase }, { on := 19, ground := Go.Ground.textOnly Go.Departure.lateStores }], guard := none } := by kernel_rfl
set_option maxRecDepth 100000 in
set_option maxHeartbeats 1500000 in
theorem regP {x2 x3 x4 x5 x6 x8 x10 x11 x12 x13 x14 x15 x16 x17 x18 x19 x20 x21 x22 x23 x24 x25 x26 x27 x28 x29 x30 x31 x32 x33 x34 x35 x36 x37 x38 x39 x40 x41 x42 x43 x44 x45 x46 x47 x48 x49 x50 x51 x52 x53 x54 x55 x56 : Value} {Q : Exit → Act → World → Prop} {V0 : World} {p wk i o lb lo ln lc rb ro rn rc : Nat} {acc z : Int}
    (hS0 : V0.drew.cell? ⟨p, 0, none⟩ = some (.int .u8 (o : Int)) ∧ V0.drew.cell? ⟨p, 1, none⟩ = some (.slice (some ⟨lb, lo, none⟩) ln lc) ∧ V0.drew.cell? ⟨lb, lo + wk, none⟩ = some (.slice (some ⟨rb, ro, none⟩) rn rc) ∧ V0.drew.cell? ⟨rb, ro + i, none⟩ = some (.int .i64 z)) (ho : many5 o) (hw : wk < ln) (hi : i < rn)
    (hpan : ∀ c (a : Act) w (dd : Tmp) vv, Q (.panic c) (a.put (some dd) vv) w → Q (.panic c) a w)
    (hQ : ∀ (W : World) (t36 t37 t38 t39 t40 t41 t42 t43 t44 t45 t46 t47 t48 t49 t50 t51 t52 t53 t54 t55 : Value), Below V0.drew.heap.size V0.drew W → Q .normal { tmps := #[.pointer (some ⟨p, 0, none⟩), .int .i64 (wk : Int), x2, x3, x4, x5, x6, .int .i64 (opTwo o acc z), x8, .int .i64 (i : Int), x10, x11, x12, x13, x14, x15, x16, x17, x18, x19, x20, x21, x22, x23, x24, x25, x26, x27, x28, x29, x30, x31, x32, x33, x34, x35, t36, t37, t38, t39, t40, t41, t42, t43, t44, t45, t46, t47, t48, t49, t50, t51, t52, t53, t54, t55, x56], defers := [] } W) :
    (Code.region 8 opsP true).wp Try.prog Q { tmps := #[.pointer (some ⟨p, 0, none⟩), .int .i64 (wk : Int), x2, x3, x4, x5, x6, .int .i64 acc, x8, .int .i64 (i : Int), x10, x11, x12, x13, x14, x15, x16, x17, x18, x19, x20, x21, x22, x23, x24, x25, x26, x27, x28, x29, x30, x31, x32, x33, x34, x35, x36, x37, x38, x39, x40, x41, x42, x43, x44, x45, x46, x47, x48, x49, x50, x51, x52, x53, x54, x55, x56], defers := [] } V0 := by
  refine wp_region_Z (fun y => y.cell? ⟨p, 0, none⟩ = some (.int .u8 (o : Int)) ∧ y.cell? ⟨p, 1, none⟩ = some (.slice (some ⟨lb, lo, none⟩) ln lc) ∧ y.cell? ⟨lb, lo + wk, none⟩ = some (.slice (some ⟨rb, ro, none⟩) rn rc) ∧ y.cell? ⟨rb, ro + i, none⟩ = some (.int .i64 z)) 20 Try.mixed ?_
  obtain ⟨V, hV⟩ : ∃ V, V0.drew = V := ⟨_, rfl⟩
  rw [hV] at hS0 hQ ⊢
  clear hV
  have HQ := hidI hQ
  have HPan := hidI hpan
  have HM := hidI ho
  have kw : (wk : Int) < (ln : Int) := by omega
  have ki : (i : Int) < (rn : Int) := by omega
  clear hQ hpan ho
  refine wpZ_take [20] (i := 0) (v := (.pointer (some ⟨p, 0, none⟩))) opsP_0 (by kernel_rfl) (by kernel_rfl) (by kernel_rfl) (by kernel_rfl) (fun c a w h => HPan.out c a w _ _ h) (.inl ⟨by rfl, fun y hy => ?_⟩) hS0 ?_
  · go_simp
  refine wpZ_take [20] (i := 1) (v := (.pointer (some ⟨p, 0, none⟩))) opsP_1 (by kernel_rfl) (by kernel_rfl) (by kernel_rfl) (by kernel_rfl) (fun c a w h => HPan.out c a w _ _ h) (.inl ⟨by rfl, fun y hy => ?_⟩) hS0 ?_
  · go_simp
  refine wpZ_take [20] (i := 2) (v := (.pointer (some ⟨p, 0, none⟩))) opsP_2 (by kernel_rfl) (by kernel_rfl) (by kernel_rfl) (by kernel_rfl) (fun c a w h => HPan.out c a w _ _ h) (.inl ⟨by rfl, fun y hy => ?_⟩) hS0 ?_
  · go_simp
  refine wpZ_take [20] (i := 3) (v := (.int .u8 (o : Int))) opsP_3 (by kernel_rfl) (by kernel_rfl) (by kernel_rfl) (by kernel_rfl) (fun c a w h => HPan.out c a w _ _ h) (.inl ⟨by rfl, fun y hy => ?_⟩) hS0 ?_
  · obtain ⟨y0, y1, y2, y3⟩ := hy; go_simp
  refine wpZ_take [20] (i := 4) (v := (.int .i64 acc)) opsP_4 (by kernel_rfl) (by kernel_rfl) (by kernel_rfl) (by kernel_rfl) (fun c a w h => HPan.out c a w _ _ h) (.inl ⟨by rfl, fun y hy => ?_⟩) hS0 ?_
  · go_simp
  refine wpZ_take [20] (i := 5) (v := (.pointer (some ⟨p, 0, none⟩))) opsP_5 (by kernel_rfl) (by kernel_rfl) (by kernel_rfl) (by kernel_rfl) (fun c a w h => HPan.out c a w _ _ h) (.inl ⟨by rfl, fun y hy => ?_⟩) hS0 ?_
  · go_simp
  refine wpZ_take [20] (i := 6) (v := (.pointer (some ⟨p, 0, none⟩))) opsP_6 (by kernel_rfl) (by kernel_rfl) (by kernel_rfl) (by kernel_rfl) (fun c a w h => HPan.out c a w _ _ h) (.inl ⟨by rfl, fun y hy => ?_⟩) hS0 ?_
  · go_simp
  refine wpZ_take [20] (i := 7) (v := (.pointer (some ⟨p, 1, none⟩))) opsP_7 (by kernel_rfl) (by kernel_rfl) (by kernel_rfl) (by kernel_rfl) (fun c a w h => HPan.out c a w _ _ h) (.inl ⟨by rfl, fun y hy => ?_⟩) hS0 ?_
  · go_simp
  refine wpZ_take [20] (i := 8) (v := (.slice (some ⟨lb, lo, none⟩) ln lc)) opsP_8 (by kernel_rfl) (by kernel_rfl) (by kernel_rfl) (by kernel_rfl) (fun c a w h => HPan.out c a w _ _ h) (.inl ⟨by rfl, fun y hy => ?_⟩) hS0 ?_
  · obtain ⟨y0, y1, y2, y3⟩ := hy; go_simp
  refine wpZ_take [20] (i := 9) (v := (.int .i64 (wk : Int))) opsP_9 (by kernel_rfl) (by kernel_rfl) (by kernel_rfl) (by kernel_rfl) (fun c a w h => HPan.out c a w _ _ h) (.inl ⟨by rfl, fun y hy => ?_⟩) hS0 ?_
  · go_simp
  refine wpZ_take [20] (i := 10) (v := (.pointer (some ⟨lb, lo + wk, none⟩))) opsP_10 (by kernel_rfl) (by kernel_rfl) (by kernel_rfl) (by kernel_rfl) (fun c a w h => HPan.out c a w _ _ h) (.inl ⟨by rfl, fun y hy => ?_⟩) hS0 ?_
  · go_simp
  refine wpZ_take [20] (i := 11) (v := (.slice (some ⟨rb, ro, none⟩) rn rc)) opsP_11 (by kernel_rfl) (by kernel_rfl) (by kernel_rfl) (by kernel_rfl) (fun c a w h => HPan.out c a w _ _ h) (.inl ⟨by rfl, fun y hy => ?_⟩) hS0 ?_
  · obtain ⟨y0, y1, y2, y3⟩ := hy; go_simp
  refine wpZ_take [20] (i := 12) (v := (.int .i64 (i : Int))) opsP_12 (by kernel_rfl) (by kernel_rfl) (by kernel_rfl) (by kernel_rfl) (fun c a w h => HPan.out c a w _ _ h) (.inl ⟨by rfl, fun y hy => ?_⟩) hS0 ?_
  · go_simp
  refine wpZ_take [20] (i := 13) (v := (.pointer (some ⟨rb, ro + i, none⟩))) opsP_13 (by kernel_rfl) (by kernel_rfl) (by kernel_rfl) (by kernel_rfl) (fun c a w h => HPan.out c a w _ _ h) (.inl ⟨by rfl, fun y hy => ?_⟩) hS0 ?_
  · go_simp
  refine wpZ_take [20] (i := 14) (v := (.int .i64 z)) opsP_14 (by kernel_rfl) (by kernel_rfl) (by kernel_rfl) (by kernel_rfl) (fun c a w h => HPan.out c a w _ _ h) (.inl ⟨by rfl, fun y hy => ?_⟩) hS0 ?_
  · obtain ⟨y0, y1, y2, y3⟩ := hy; go_simp
  have HKS : Hid (∀ y : World, Below V.heap.size V y → y.cell? ⟨p, 0, none⟩ = some (.int .u8 (o : Int)) ∧ y.cell? ⟨p, 1, none⟩ = some (.slice (some ⟨lb, lo, none⟩) ln lc) ∧ y.cell? ⟨lb, lo + wk, none⟩ = some (.slice (some ⟨rb, ro, none⟩) rn rc) ∧ y.cell? ⟨rb, ro + i, none⟩ = some (.int .i64 z)) := hidI fun y hy => by
    have zz : ∀ {p : Addr} {v : Value}, V.cell? p = some v → y.cell? p = some v := fun {p v} hc => (hy.cell (World.block_lt_of_cell? V _ hc)).trans hc
    obtain ⟨y0, y1, y2, y3⟩ := hS0
    exact ⟨zz y0, zz y1, zz y2, zz y3⟩
  refine wpZ_all (rs := [15]) (by kernel_rfl) (by simp) fun j15 hj15 => ?_
  obtain rfl : j15 = 15 := by simpa using hj15
  refine wpOp_go opsP_15 rfl fun K1 hK1 => ?_
  unfold Oper.wp
  go_simp
  have HB1 : Hid (Below V.heap.size V (V.alloc (Obj.cells #[.int .i64 acc, .int .i64 z] 41))) := hidI ((Below.refl _ _).alloc (Nat.le_refl _) _)
  have CD := hidI (doR_many o HM.out (V.alloc (Obj.cells #[.int .i64 acc, .int .i64 z] 41)) acc z V.heap.size 0 2 (by go_simp) (by go_simp))
  have hS1 := HKS.out _ HB1.out
  refine hK1 _ _ ⟨fun _ => hS1, ?_⟩
  clear hK1 K1
  refine wpZ_all (rs := [16]) (by kernel_rfl) (by simp) fun j16 hj16 => ?_
  obtain rfl : j16 = 16 := by simpa using hj16
  refine wpOp_go opsP_16 rfl fun K1 hK1 => ?_
  unfold Oper.wp
  go_simp
  refine Calls.mono CD.out ?_
  rintro e W1 ⟨rfl, hb1⟩
  have HB2 : Hid (Below V.heap.size V W1) := hidI (HB1.out.trans (hb1.mono (by simp)))
  have hS2 := HKS.out _ HB2.out
  clear hb1 CD
  refine hK1 _ _ ⟨fun _ => hS2, ?_⟩
  clear hK1 K1
  refine wpZ_all (rs := [17]) (by kernel_rfl) (by simp) fun j17 hj17 => ?_
  obtain rfl : j17 = 17 := by simpa using hj17
  refine wpOp_go opsP_17 rfl fun K1 hK1 => ?_
  unfold Oper.wp
  go_simp
  refine hK1 _ _ ⟨fun _ => hS2, ?_⟩
  clear hK1 K1
  refine wpZ_all (rs := [18, 19]) (by kernel_rfl) (by simp) fun q1 hq1 => ?_
  have hq1' : q1 = 18 ∨ q1 = 19 := by simp only [List.mem_cons, List.mem_nil_iff, or_false] at hq1; omega
  clear hq1
  rcases hq1' with rfl | rfl
  · refine wpOp_go opsP_18 rfl fun K1 hK1 => ?_
    unfold Oper.wp
    go_simp
    refine hK1 _ _ ⟨fun _ => hS2, ?_⟩
    clear hK1 K1
    refine wpZ_all (rs := [19, 20]) (by kernel_rfl) (by simp) fun q2 hq2 => ?_
    have hq2' : q2 = 19 ∨ q2 = 20 := by simp only [List.mem_cons, List.mem_nil_iff, or_false] at hq2; omega
    clear hq2
    rcases hq2' with rfl | rfl
    · refine wpOp_go opsP_19 rfl fun K1 hK1 => ?_
      unfold Oper.wp
      go_simp
      refine hK1 _ _ ⟨fun _ => hS2, ?_⟩
      clear hK1 K1
      refine wpZ_all (rs := [20]) (by kernel_rfl) (by simp) fun j20 hj20 => ?_
      obtain rfl : j20 = 20 := by simpa using hj20
      refine wpOp_go opsP_20 rfl fun K1 hK1 => ?_
      unfold Oper.wp
      go_simp
      refine hK1 _ _ ⟨fun _ => hS2, ?_⟩
      clear hK1 K1
      refine wpZ_done (by kernel_rfl) ?_ _
      exact HQ.out _ _ _ _ _ _ _ _ _ _ _ _ _ _ _ _ _ _ _ _ _ HB2.out
    · refine wpOp_go opsP_20 rfl fun K1 hK1 => ?_
      unfold Oper.wp
      go_simp
      refine hK1 _ _ ⟨fun _ => hS2, ?_⟩
      clear hK1 K1
      refine wpZ_all (rs := [19]) (by kernel_rfl) (by simp) fun j19 hj19 => ?_
      obtain rfl : j19 = 19 := by simpa using hj19
      refine wpOp_go opsP_19 rfl fun K1 hK1 => ?_
      unfold Oper.wp
      go_simp
      refine hK1 _ _ ⟨fun _ => hS2, ?_⟩
      clear hK1 K1
      refine wpZ_done (by kernel_rfl) ?_ _
      exact HQ.out _ _ _ _ _ _ _ _ _ _ _ _ _ _ _ _ _ _ _ _ _ HB2.out
  · refine wpOp_go opsP_19 rfl fun K1 hK1 => ?_
    unfold Oper.wp
    go_simp
    refine hK1 _ _ ⟨fun _ => hS2, ?_⟩
    clear hK1 K1
    refine wpZ_all (rs := [18]) (by kernel_rfl) (by simp) fun j18 hj18 => ?_
    obtain rfl : j18 = 18 := by simpa using hj18
    refine wpOp_go opsP_18 rfl fun K1 hK1 => ?_
    unfold Oper.wp
    go_simp
    refine hK1 _ _ ⟨fun _ => hS2, ?_⟩
    clear hK1 K1
    refine wpZ_all (rs := [20]) (by kernel_rfl) (by simp) fun j20 hj20 => ?_
    obtain rfl : j20 = 20 := by simpa using hj20
    refine wpOp_go opsP_20 rfl fun K1 hK1 => ?_
    unfold Oper.wp
    go_simp
    refine hK1 _ _ ⟨fun _ => hS2, ?_⟩
    clear hK1 K1
    refine wpZ_done (by kernel_rfl) ?_ _
    exact HQ.out _ _ _ _ _ _ _ _ _ _ _ _ _ _ _ _ _ _ _ _ _ HB2.out
end Go.Proofs.Ythjpoemgoeckbaa
