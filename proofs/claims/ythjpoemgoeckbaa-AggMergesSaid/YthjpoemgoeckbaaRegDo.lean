/-
  A number taken in by both, in whatever order.
-/
import Derived.Test.YthjpoemgoeckbaaZed
import Derived.Test.YthjpoemgoeckbaaPAgg
namespace Go.Proofs.Ythjpoemgoeckbaa
open Go.RowKit Go.Deep Go.MapKept
def opsDo : Array Oper := #[{ dst := some 11, op := Go.Op.move (Go.Operand.tmp 0), type := 24, pos := "law.go:31", after := #[], guard := none }, { dst := some 12, op := Go.Op.fieldAddr 54 (Go.Operand.tmp 5) 1, type := 0, pos := "law.go:31", after := #[], guard := none }, { dst := some 13, op := Go.Op.load 3 (Go.Operand.tmp 12), type := 3, pos := "law.go:31", after := #[{ on := 1, ground := Go.Ground.data }], guard := none }, { dst := some 14, op := Go.Op.fieldAddr 54 (Go.Operand.tmp 5) 2, type := 0, pos := "law.go:31", after := #[], guard := none }, { dst := some 15, op := Go.Op.load 41 (Go.Operand.tmp 14), type := 41, pos := "law.go:31", after := #[{ on := 3, ground := Go.Ground.data }], guard := none }, { dst := some 16, op := Go.Op.call { callee := Go.Callee.value (Go.Operand.func 15), args := #[Go.Operand.tmp 11, Go.Operand.tmp 13, Go.Operand.tmp 15], argTypes := #[24, 3, 41] }, type := 35, pos := "law.go:31", after := #[{ on := 0, ground := Go.Ground.data }, { on := 2, ground := Go.Ground.data }, { on := 4, ground := Go.Ground.data }], guard := none }, { dst := some 17, op := Go.Op.move (Go.Operand.tmp 1), type := 25, pos := "law.go:31", after := #[], guard := none }, { dst := some 18, op := Go.Op.fieldAddr 54 (Go.Operand.tmp 5) 1, type := 0, pos := "law.go:31", after := #[], guard := none }, { dst := some 19, op := Go.Op.load 3 (Go.Operand.tmp 18), type := 3, pos := "law.go:31", after := #[{ on := 7, ground := Go.Ground.data }], guard := none }, { dst := some 20, op := Go.Op.fieldAddr 54 (Go.Operand.tmp 5) 2, type := 0, pos := "law.go:31", after := #[], guard := none }, { dst := some 21, op := Go.Op.load 41 (Go.Operand.tmp 20), type := 41, pos := "law.go:31", after := #[{ on := 9, ground := Go.Ground.data }], guard := none }, { dst := some 22, op := Go.Op.call { callee := Go.Callee.value (Go.Operand.func 30), args := #[Go.Operand.tmp 17, Go.Operand.tmp 19, Go.Operand.tmp 21], argTypes := #[25, 3, 41] }, type := 35, pos := "law.go:31", after := #[{ on := 6, ground := Go.Ground.data }, { on := 8, ground := Go.Ground.data }, { on := 10, ground := Go.Ground.data }, { on := 5, ground := Go.Ground.chain }], guard := none }, { dst := some 23, op := Go.Op.binOp Go.BinOp.eql 35 (Go.Operand.tmp 16) (Go.Operand.tmp 22) 35, type := 4, pos := "law.go:31", after := #[{ on := 5, ground := Go.Ground.data }, { on := 11, ground := Go.Ground.data }], guard := none }, { dst := some 6, op := Go.Op.assign (Go.Operand.tmp 23), type := 4, pos := "law.go:31", after := #[{ on := 12, ground := Go.Ground.data }, { on := 11, ground := Go.Ground.chain }, { on := 0, ground := Go.Ground.phase }, { on := 1, ground := Go.Ground.phase }, { on := 2, ground := Go.Ground.phase }, { on := 3, ground := Go.Ground.phase }, { on := 4, ground := Go.Ground.phase }, { on := 5, ground := Go.Ground.phase }, { on := 6, ground := Go.Ground.phase }, { on := 7, ground := Go.Ground.phase }, { on := 8, ground := Go.Ground.phase }, { on := 9, ground := Go.Ground.phase }, { on := 10, ground := Go.Ground.phase }, { on := 11, ground := Go.Ground.phase }, { on := 12, ground := Go.Ground.phase }], guard := none }]
theorem opsDo_0 : opsDo[0]? = some { dst := some 11, op := Go.Op.move (Go.Operand.tmp 0), type := 24, pos := "law.go:31", after := #[], guard := none } := by kernel_rfl
theorem opsDo_1 : opsDo[1]? = some { dst := some 12, op := Go.Op.fieldAddr 54 (Go.Operand.tmp 5) 1, type := 0, pos := "law.go:31", after := #[], guard := none } := by kernel_rfl
theorem opsDo_2 : opsDo[2]? = some { dst := some 13, op := Go.Op.load 3 (Go.Operand.tmp 12), type := 3, pos := "law.go:31", after := #[{ on := 1, ground := Go.Ground.data }], guard := none } := by kernel_rfl
theorem opsDo_3 : opsDo[3]? = some { dst := some 14, op := Go.Op.fieldAddr 54 (Go.Operand.tmp 5) 2, type := 0, pos := "law.go:31", after := #[], guard := none } := by kernel_rfl
theorem opsDo_4 : opsDo[4]? = some { dst := some 15, op := Go.Op.load 41 (Go.Operand.tmp 14), type := 41, pos := "law.go:31", after := #[{ on := 3, ground := Go.Ground.data }], guard := none } := by kernel_rfl
theorem opsDo_5 : opsDo[5]? = some { dst := some 16, op := Go.Op.call { callee := Go.Callee.value (Go.Operand.func 15), args := #[Go.Operand.tmp 11, Go.Operand.tmp 13, Go.Operand.tmp 15], argTypes := #[24, 3, 41] }, type := 35, pos := "law.go:31", after := #[{ on := 0, ground := Go.Ground.data }, { on := 2, ground := Go.Ground.data }, { on := 4, ground := Go.Ground.data }], guard := none } := by kernel_rfl
theorem opsDo_6 : opsDo[6]? = some { dst := some 17, op := Go.Op.move (Go.Operand.tmp 1), type := 25, pos := "law.go:31", after := #[], guard := none } := by kernel_rfl
theorem opsDo_7 : opsDo[7]? = some { dst := some 18, op := Go.Op.fieldAddr 54 (Go.Operand.tmp 5) 1, type := 0, pos := "law.go:31", after := #[], guard := none } := by kernel_rfl
theorem opsDo_8 : opsDo[8]? = some { dst := some 19, op := Go.Op.load 3 (Go.Operand.tmp 18), type := 3, pos := "law.go:31", after := #[{ on := 7, ground := Go.Ground.data }], guard := none } := by kernel_rfl
theorem opsDo_9 : opsDo[9]? = some { dst := some 20, op := Go.Op.fieldAddr 54 (Go.Operand.tmp 5) 2, type := 0, pos := "law.go:31", after := #[], guard := none } := by kernel_rfl
theorem opsDo_10 : opsDo[10]? = some { dst := some 21, op := Go.Op.load 41 (Go.Operand.tmp 20), type := 41, pos := "law.go:31", after := #[{ on := 9, ground := Go.Ground.data }], guard := none } := by kernel_rfl
theorem opsDo_11 : opsDo[11]? = some { dst := some 22, op := Go.Op.call { callee := Go.Callee.value (Go.Operand.func 30), args := #[Go.Operand.tmp 17, Go.Operand.tmp 19, Go.Operand.tmp 21], argTypes := #[25, 3, 41] }, type := 35, pos := "law.go:31", after := #[{ on := 6, ground := Go.Ground.data }, { on := 8, ground := Go.Ground.data }, { on := 10, ground := Go.Ground.data }, { on := 5, ground := Go.Ground.chain }], guard := none } := by kernel_rfl
theorem opsDo_12 : opsDo[12]? = some { dst := some 23, op := Go.Op.binOp Go.BinOp.eql 35 (Go.Operand.tmp 16) (Go.Operand.tmp 22) 35, type := 4, pos := "law.go:31", after := #[{ on := 5, ground := Go.Ground.data }, { on := 11, ground := Go.Ground.data }], guard := none } := by kernel_rfl
theorem opsDo_13 : opsDo[13]? = some { dst := some 6, op := Go.Op.assign (Go.Operand.tmp 23), type := 4, pos := "law.go:31", after := #[{ on := 12, ground := Go.Ground.data }, { on := 11, ground := Go.Ground.chain }, { on := 0, ground := Go.Ground.phase }, { on := 1, ground := Go.Ground.phase }, { on := 2, ground := Go.Ground.phase }, { on := 3, ground := Go.Ground.phase }, { on := 4, ground := Go.Ground.phase }, { on := 5, ground := Go.Ground.phase }, { on := 6, ground := Go.Ground.phase }, { on := 7, ground := Go.Ground.phase }, { on := 8, ground := Go.Ground.phase }, { on := 9, ground := Go.Ground.phase }, { on := 10, ground := Go.Ground.phase }, { on := 11, ground := Go.Ground.phase }, { on := 12, ground := Go.Ground.phase }], guard := none } := by kernel_rfl
set_option maxRecDepth 100000 in
set_option maxHeartbeats 1500000 in
theorem regDo {x2 x3 x4 x6 x7 x8 x9 x10 x11 x12 x13 x14 x15 x16 x17 x18 x19 x20 x21 x22 x23 x24 x25 x26 x27 x28 x29 : Value} {Q : Exit → Act → World → Prop} {V0 : World} {bd : Nat} {k z E : Int} {av rv : Value} {P1 P2 : World → Prop}
    (hS0 : V0.drew.cell? ⟨bd, 1, none⟩ = some (.int .i64 k) ∧ V0.drew.cell? ⟨bd, 2, none⟩ = some (.int .i64 z))
    (hA : Calls Try.prog 15 #[av, .int .i64 k, .int .i64 z] V0.drew fun e w' => e = .returned (.int .i64 E) ∧ P1 w')
    (hP1 : ∀ W, P1 W → W.cell? ⟨bd, 1, none⟩ = some (.int .i64 k) ∧ W.cell? ⟨bd, 2, none⟩ = some (.int .i64 z))
    (hB : ∀ W, P1 W → Calls Try.prog 30 #[rv, .int .i64 k, .int .i64 z] W fun e w' => e = .returned (.int .i64 E) ∧ P2 w')
    (hP2 : ∀ W, P2 W → W.cell? ⟨bd, 1, none⟩ = some (.int .i64 k) ∧ W.cell? ⟨bd, 2, none⟩ = some (.int .i64 z))
    (hpan : ∀ c (a : Act) w (dd : Tmp) vv, Q (.panic c) (a.put (some dd) vv) w → Q (.panic c) a w)
    (hQ : ∀ (W : World) (t11 t12 t13 t14 t15 t16 t17 t18 t19 t20 t21 t22 t23 : Value), P2 W → Q .normal { tmps := #[av, rv, x2, x3, x4, .pointer (some ⟨bd, 0, none⟩), .bool true, x7, x8, x9, x10, t11, t12, t13, t14, t15, t16, t17, t18, t19, t20, t21, t22, t23, x24, x25, x26, x27, x28, x29], defers := [] } W) :
    (Code.region 3 opsDo true).wp Try.prog Q { tmps := #[av, rv, x2, x3, x4, .pointer (some ⟨bd, 0, none⟩), x6, x7, x8, x9, x10, x11, x12, x13, x14, x15, x16, x17, x18, x19, x20, x21, x22, x23, x24, x25, x26, x27, x28, x29], defers := [] } V0 := by
  refine wp_region_Z (fun y => y.cell? ⟨bd, 1, none⟩ = some (.int .i64 k) ∧ y.cell? ⟨bd, 2, none⟩ = some (.int .i64 z)) 13 Try.mixed ?_
  obtain ⟨V, hV⟩ : ∃ V, V0.drew = V := ⟨_, rfl⟩
  rw [hV] at hS0 hA ⊢
  clear hV
  have HQ := hidI hQ
  have HPan := hidI hpan
  have HA := hidI hA
  have HB := hidI hB
  have HP1 := hidI hP1
  have HP2 := hidI hP2
  clear hQ hpan hA hB hP1 hP2
  refine wpZ_take [13] (i := 0) (v := av) opsDo_0 (by kernel_rfl) (by kernel_rfl) (by kernel_rfl) (by kernel_rfl) (fun c a w h => HPan.out c a w _ _ h) (.inl ⟨by rfl, fun y hy => ?_⟩) hS0 ?_
  · go_simp
  refine wpZ_take [13] (i := 1) (v := (.pointer (some ⟨bd, 1, none⟩))) opsDo_1 (by kernel_rfl) (by kernel_rfl) (by kernel_rfl) (by kernel_rfl) (fun c a w h => HPan.out c a w _ _ h) (.inl ⟨by rfl, fun y hy => ?_⟩) hS0 ?_
  · go_simp
  refine wpZ_take [13] (i := 2) (v := (.int .i64 k)) opsDo_2 (by kernel_rfl) (by kernel_rfl) (by kernel_rfl) (by kernel_rfl) (fun c a w h => HPan.out c a w _ _ h) (.inl ⟨by rfl, fun y hy => ?_⟩) hS0 ?_
  · obtain ⟨y0, y1⟩ := hy; go_simp
  refine wpZ_take [13] (i := 3) (v := (.pointer (some ⟨bd, 2, none⟩))) opsDo_3 (by kernel_rfl) (by kernel_rfl) (by kernel_rfl) (by kernel_rfl) (fun c a w h => HPan.out c a w _ _ h) (.inl ⟨by rfl, fun y hy => ?_⟩) hS0 ?_
  · go_simp
  refine wpZ_take [13] (i := 4) (v := (.int .i64 z)) opsDo_4 (by kernel_rfl) (by kernel_rfl) (by kernel_rfl) (by kernel_rfl) (fun c a w h => HPan.out c a w _ _ h) (.inl ⟨by rfl, fun y hy => ?_⟩) hS0 ?_
  · obtain ⟨y0, y1⟩ := hy; go_simp
  refine wpZ_take [13] (i := 6) (v := rv) opsDo_6 (by kernel_rfl) (by kernel_rfl) (by kernel_rfl) (by kernel_rfl) (fun c a w h => HPan.out c a w _ _ h) (.inl ⟨by rfl, fun y hy => ?_⟩) hS0 ?_
  · go_simp
  refine wpZ_take [13] (i := 7) (v := (.pointer (some ⟨bd, 1, none⟩))) opsDo_7 (by kernel_rfl) (by kernel_rfl) (by kernel_rfl) (by kernel_rfl) (fun c a w h => HPan.out c a w _ _ h) (.inl ⟨by rfl, fun y hy => ?_⟩) hS0 ?_
  · go_simp
  refine wpZ_take [13] (i := 8) (v := (.int .i64 k)) opsDo_8 (by kernel_rfl) (by kernel_rfl) (by kernel_rfl) (by kernel_rfl) (fun c a w h => HPan.out c a w _ _ h) (.inl ⟨by rfl, fun y hy => ?_⟩) hS0 ?_
  · obtain ⟨y0, y1⟩ := hy; go_simp
  refine wpZ_take [13] (i := 9) (v := (.pointer (some ⟨bd, 2, none⟩))) opsDo_9 (by kernel_rfl) (by kernel_rfl) (by kernel_rfl) (by kernel_rfl) (fun c a w h => HPan.out c a w _ _ h) (.inl ⟨by rfl, fun y hy => ?_⟩) hS0 ?_
  · go_simp
  refine wpZ_take [13] (i := 10) (v := (.int .i64 z)) opsDo_10 (by kernel_rfl) (by kernel_rfl) (by kernel_rfl) (by kernel_rfl) (fun c a w h => HPan.out c a w _ _ h) (.inl ⟨by rfl, fun y hy => ?_⟩) hS0 ?_
  · obtain ⟨y0, y1⟩ := hy; go_simp
  refine wpZ_all (rs := [5]) (by kernel_rfl) (by simp) fun j5 hj5 => ?_
  obtain rfl : j5 = 5 := by simpa using hj5
  refine wpOp_go opsDo_5 rfl fun K1 hK1 => ?_
  unfold Oper.wp
  go_simp
  refine Calls.mono HA.out ?_
  rintro e W1 ⟨rfl, hp1⟩
  have H1 := hidI hp1
  have hS1 := HP1.out W1 hp1
  clear hp1
  refine hK1 _ _ ⟨fun _ => hS1, ?_⟩
  clear hK1 K1
  refine wpZ_all (rs := [11]) (by kernel_rfl) (by simp) fun j11 hj11 => ?_
  obtain rfl : j11 = 11 := by simpa using hj11
  refine wpOp_go opsDo_11 rfl fun K1 hK1 => ?_
  unfold Oper.wp
  go_simp
  refine Calls.mono (HB.out W1 H1.out) ?_
  rintro e W2 ⟨rfl, hp2⟩
  have H2 := hidI hp2
  have hS2 := HP2.out W2 hp2
  clear hp2
  refine hK1 _ _ ⟨fun _ => hS2, ?_⟩
  clear hK1 K1
  refine wpZ_all (rs := [12]) (by kernel_rfl) (by simp) fun j12 hj12 => ?_
  obtain rfl : j12 = 12 := by simpa using hj12
  refine wpOp_go opsDo_12 rfl fun K1 hK1 => ?_
  unfold Oper.wp
  have kE : (E == E) = true := by simp
  go_simp
  refine hK1 _ _ ⟨fun _ => hS2, ?_⟩
  clear hK1 K1
  refine wpZ_last (by kernel_rfl) (by kernel_rfl) ?_ _
  refine wpOp_go opsDo_13 rfl fun K1 hK1 => ?_
  unfold Oper.wp
  go_simp
  refine hK1 _ _ ?_
  exact HQ.out W2 _ _ _ _ _ _ _ _ _ _ _ _ _ H2.out
end Go.Proofs.Ythjpoemgoeckbaa
