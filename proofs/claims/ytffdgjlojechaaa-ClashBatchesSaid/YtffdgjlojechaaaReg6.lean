/-
  A row of acts, and one more, put together in whatever order.
-/
import Derived.Test.YtffdgjlojechaaaReg12
namespace Go.Proofs.Ytffdgjlojechaaa
open Go.RowKit Go.Deep Go.MapKept
def ops6 : Array Oper := #[{ dst := some 15, op := Go.Op.buildSlice 22 0 #[], type := 22, pos := "ref.go:101", after := #[], guard := none }, { dst := some 16, op := Go.Op.move (Go.Operand.tmp 4), type := 22, pos := "ref.go:101", after := #[], guard := none }, { dst := some 17, op := Go.Op.call { callee := Go.Callee.builtin Go.Builtin.append, args := #[Go.Operand.tmp 15, Go.Operand.tmp 16], argTypes := #[22, 22] }, type := 22, pos := "ref.go:101", after := #[{ on := 0, ground := Go.Ground.data }, { on := 1, ground := Go.Ground.data }], guard := none }, { dst := some 18, op := Go.Op.move (Go.Operand.tmp 0), type := 22, pos := "ref.go:101", after := #[], guard := none }, { dst := some 19, op := Go.Op.move (Go.Operand.tmp 5), type := 3, pos := "ref.go:101", after := #[], guard := none }, { dst := some 20, op := Go.Op.indexAddr 22 (Go.Operand.tmp 18) (Go.Operand.tmp 19), type := 0, pos := "ref.go:101", after := #[{ on := 3, ground := Go.Ground.data }, { on := 4, ground := Go.Ground.data }], guard := none }, { dst := some 21, op := Go.Op.load 39 (Go.Operand.tmp 20), type := 39, pos := "ref.go:101", after := #[{ on := 5, ground := Go.Ground.data }], guard := none }, { dst := some 22, op := Go.Op.buildSlice 22 1 #[(0, Go.Operand.tmp 21)], type := 22, pos := "ref.go:101", after := #[{ on := 6, ground := Go.Ground.data }], guard := none }, { dst := some 23, op := Go.Op.call { callee := Go.Callee.builtin Go.Builtin.append, args := #[Go.Operand.tmp 17, Go.Operand.tmp 22], argTypes := #[22, 22] }, type := 22, pos := "ref.go:101", after := #[{ on := 2, ground := Go.Ground.data }, { on := 7, ground := Go.Ground.data }, { on := 2, ground := Go.Ground.chain }], guard := none }, { dst := some 6, op := Go.Op.assign (Go.Operand.tmp 23), type := 22, pos := "ref.go:101", after := #[{ on := 8, ground := Go.Ground.data }, { on := 8, ground := Go.Ground.chain }, { on := 0, ground := Go.Ground.phase }, { on := 1, ground := Go.Ground.phase }, { on := 2, ground := Go.Ground.phase }, { on := 3, ground := Go.Ground.phase }, { on := 4, ground := Go.Ground.phase }, { on := 5, ground := Go.Ground.phase }, { on := 6, ground := Go.Ground.phase }, { on := 7, ground := Go.Ground.phase }, { on := 8, ground := Go.Ground.phase }], guard := none }]
theorem ops6_0 : ops6[0]? = some { dst := some 15, op := Go.Op.buildSlice 22 0 #[], type := 22, pos := "ref.go:101", after := #[], guard := none } := by kernel_rfl
theorem ops6_1 : ops6[1]? = some { dst := some 16, op := Go.Op.move (Go.Operand.tmp 4), type := 22, pos := "ref.go:101", after := #[], guard := none } := by kernel_rfl
theorem ops6_2 : ops6[2]? = some { dst := some 17, op := Go.Op.call { callee := Go.Callee.builtin Go.Builtin.append, args := #[Go.Operand.tmp 15, Go.Operand.tmp 16], argTypes := #[22, 22] }, type := 22, pos := "ref.go:101", after := #[{ on := 0, ground := Go.Ground.data }, { on := 1, ground := Go.Ground.data }], guard := none } := by kernel_rfl
theorem ops6_3 : ops6[3]? = some { dst := some 18, op := Go.Op.move (Go.Operand.tmp 0), type := 22, pos := "ref.go:101", after := #[], guard := none } := by kernel_rfl
theorem ops6_4 : ops6[4]? = some { dst := some 19, op := Go.Op.move (Go.Operand.tmp 5), type := 3, pos := "ref.go:101", after := #[], guard := none } := by kernel_rfl
theorem ops6_5 : ops6[5]? = some { dst := some 20, op := Go.Op.indexAddr 22 (Go.Operand.tmp 18) (Go.Operand.tmp 19), type := 0, pos := "ref.go:101", after := #[{ on := 3, ground := Go.Ground.data }, { on := 4, ground := Go.Ground.data }], guard := none } := by kernel_rfl
theorem ops6_6 : ops6[6]? = some { dst := some 21, op := Go.Op.load 39 (Go.Operand.tmp 20), type := 39, pos := "ref.go:101", after := #[{ on := 5, ground := Go.Ground.data }], guard := none } := by kernel_rfl
theorem ops6_7 : ops6[7]? = some { dst := some 22, op := Go.Op.buildSlice 22 1 #[(0, Go.Operand.tmp 21)], type := 22, pos := "ref.go:101", after := #[{ on := 6, ground := Go.Ground.data }], guard := none } := by kernel_rfl
theorem ops6_8 : ops6[8]? = some { dst := some 23, op := Go.Op.call { callee := Go.Callee.builtin Go.Builtin.append, args := #[Go.Operand.tmp 17, Go.Operand.tmp 22], argTypes := #[22, 22] }, type := 22, pos := "ref.go:101", after := #[{ on := 2, ground := Go.Ground.data }, { on := 7, ground := Go.Ground.data }, { on := 2, ground := Go.Ground.chain }], guard := none } := by kernel_rfl
theorem ops6_9 : ops6[9]? = some { dst := some 6, op := Go.Op.assign (Go.Operand.tmp 23), type := 22, pos := "ref.go:101", after := #[{ on := 8, ground := Go.Ground.data }, { on := 8, ground := Go.Ground.chain }, { on := 0, ground := Go.Ground.phase }, { on := 1, ground := Go.Ground.phase }, { on := 2, ground := Go.Ground.phase }, { on := 3, ground := Go.Ground.phase }, { on := 4, ground := Go.Ground.phase }, { on := 5, ground := Go.Ground.phase }, { on := 6, ground := Go.Ground.phase }, { on := 7, ground := Go.Ground.phase }, { on := 8, ground := Go.Ground.phase }], guard := none } := by kernel_rfl
set_option maxRecDepth 100000 in
set_option maxHeartbeats 1500000 in
theorem reg6 {x1 x2 x3 x6 x7 x8 x9 x10 x11 x12 x13 x14 x15 x16 x17 x18 x19 x20 x21 x22 x23 x24 x25 x26 x27 x28 x29 x30 x31 x32 x33 x34 x35 x36 x37 x38 x39 x40 x41 x42 x43 x44 x45 x46 x47 x48 x49 x50 x51 x52 x53 : Value} {Q : Exit → Act → World → Prop} {V0 : World} {b off n cap i : Nat} {rv : Value} {r : List Deed} {x : Deed}
    (hS0 : V0.drew.cell? ⟨b, off + i * 6, none⟩ = some (.int .u8 x.k) ∧ V0.drew.cell? ⟨b, off + i * 6 + 1, none⟩ = some (.string x.s) ∧ V0.drew.cell? ⟨b, off + i * 6 + 2, none⟩ = some (.int .u8 x.o) ∧ V0.drew.cell? ⟨b, off + i * 6 + 3, none⟩ = some (.bool x.i) ∧ V0.drew.cell? ⟨b, off + i * 6 + 4, none⟩ = some (.int .i64 x.e) ∧ V0.drew.cell? ⟨b, off + i * 6 + 5, none⟩ = some (.int .i64 x.c)) (hin : i < n) (hrv : SeesC V0.drew rv r.length 6 (flatA r)) (hr : r.length ≤ 1000) (hpan : ∀ c (a : Act) w (dd : Tmp) vv, Q (.panic c) (a.put (some dd) vv) w → Q (.panic c) a w)
    (hQ : ∀ (W : World) (v9 t15 t16 t17 t18 t19 t20 t21 t22 t23 : Value), Below V0.drew.heap.size V0.drew W → W.ownsRow V0.drew.heap.size 39 6 v9 ((r.length) + 1) (flatA r ++ x.cells) → Q .normal { tmps := #[.slice (some ⟨b, off, none⟩) n cap, x1, x2, x3, rv, .int .i64 i, v9, x7, x8, x9, x10, x11, x12, x13, x14, t15, t16, t17, t18, t19, t20, t21, t22, t23, x24, x25, x26, x27, x28, x29, x30, x31, x32, x33, x34, x35, x36, x37, x38, x39, x40, x41, x42, x43, x44, x45, x46, x47, x48, x49, x50, x51, x52, x53], defers := [] } W) :
    (Code.region 6 ops6 true).wp Try.prog Q { tmps := #[.slice (some ⟨b, off, none⟩) n cap, x1, x2, x3, rv, .int .i64 i, x6, x7, x8, x9, x10, x11, x12, x13, x14, x15, x16, x17, x18, x19, x20, x21, x22, x23, x24, x25, x26, x27, x28, x29, x30, x31, x32, x33, x34, x35, x36, x37, x38, x39, x40, x41, x42, x43, x44, x45, x46, x47, x48, x49, x50, x51, x52, x53], defers := [] } V0 := by
  refine wp_region_Z (fun y => y.cell? ⟨b, off + i * 6, none⟩ = some (.int .u8 x.k) ∧ y.cell? ⟨b, off + i * 6 + 1, none⟩ = some (.string x.s) ∧ y.cell? ⟨b, off + i * 6 + 2, none⟩ = some (.int .u8 x.o) ∧ y.cell? ⟨b, off + i * 6 + 3, none⟩ = some (.bool x.i) ∧ y.cell? ⟨b, off + i * 6 + 4, none⟩ = some (.int .i64 x.e) ∧ y.cell? ⟨b, off + i * 6 + 5, none⟩ = some (.int .i64 x.c)) 9 Try.mixed ?_
  obtain ⟨V, hV⟩ : ∃ V, V0.drew = V := ⟨_, rfl⟩
  rw [hV] at hS0 hrv hQ ⊢
  clear hV
  have HQ := hidI hQ
  have HPan := hidI hpan
  clear hQ hpan
  have HRV : Hid (∀ y : World, Below V.heap.size V y → SeesC y rv r.length 6 (flatA r)) := hidI fun y hy => hrv.below hy (Nat.le_refl _)
  have kin : (i : Int) < (n : Int) := by omega
  clear hrv hin
  refine wpZ_take [9] (i := 1) (v := rv) ops6_1 (by kernel_rfl) (by kernel_rfl) (by kernel_rfl) (by kernel_rfl) (fun c a w h => HPan.out c a w _ _ h) (.inl ⟨by rfl, fun y hy => ?_⟩) hS0 ?_
  · go_simp
  refine wpZ_take [9] (i := 3) (v := (.slice (some ⟨b, off, none⟩) n cap)) ops6_3 (by kernel_rfl) (by kernel_rfl) (by kernel_rfl) (by kernel_rfl) (fun c a w h => HPan.out c a w _ _ h) (.inl ⟨by rfl, fun y hy => ?_⟩) hS0 ?_
  · go_simp
  refine wpZ_take [9] (i := 4) (v := (.int .i64 i)) ops6_4 (by kernel_rfl) (by kernel_rfl) (by kernel_rfl) (by kernel_rfl) (fun c a w h => HPan.out c a w _ _ h) (.inl ⟨by rfl, fun y hy => ?_⟩) hS0 ?_
  · go_simp
  refine wpZ_take [9] (i := 5) (v := (.pointer (some ⟨b, off + i * 6, none⟩))) ops6_5 (by kernel_rfl) (by kernel_rfl) (by kernel_rfl) (by kernel_rfl) (fun c a w h => HPan.out c a w _ _ h) (.inl ⟨by rfl, fun y hy => ?_⟩) hS0 ?_
  · go_simp
  refine wpZ_take [9] (i := 6) (v := (.agg #[.int .u8 x.k, .string x.s, .int .u8 x.o, .bool x.i, .int .i64 x.e, .int .i64 x.c])) ops6_6 (by kernel_rfl) (by kernel_rfl) (by kernel_rfl) (by kernel_rfl) (fun c a w h => HPan.out c a w _ _ h) (.inl ⟨by rfl, fun y hy => ?_⟩) hS0 ?_
  · obtain ⟨y0, y1, y2, y3, y4, y5⟩ := hy; go_simp
  have HKS : Hid (∀ y : World, Below V.heap.size V y → y.cell? ⟨b, off + i * 6, none⟩ = some (.int .u8 x.k) ∧ y.cell? ⟨b, off + i * 6 + 1, none⟩ = some (.string x.s) ∧ y.cell? ⟨b, off + i * 6 + 2, none⟩ = some (.int .u8 x.o) ∧ y.cell? ⟨b, off + i * 6 + 3, none⟩ = some (.bool x.i) ∧ y.cell? ⟨b, off + i * 6 + 4, none⟩ = some (.int .i64 x.e) ∧ y.cell? ⟨b, off + i * 6 + 5, none⟩ = some (.int .i64 x.c)) := hidI fun y hy => by
    have z : ∀ {p : Addr} {v : Value}, V.cell? p = some v → y.cell? p = some v := fun {p v} hc => (hy.cell (World.block_lt_of_cell? V _ hc)).trans hc
    exact ⟨z hS0.1, z hS0.2.1, z hS0.2.2.1, z hS0.2.2.2.1, z hS0.2.2.2.2.1, z hS0.2.2.2.2.2⟩
  have HOI : Hid (((V.alloc (Obj.cells #[] 39)).alloc (Obj.cells #[.int .u8 x.k, .string x.s, .int .u8 x.o, .bool x.i, .int .i64 x.e, .int .i64 x.c] 39)).ownsRow V.heap.size 39 6 (.slice (some ⟨V.heap.size, 0, none⟩) 0 0) 0 []) := hidI ((World.ownsRow_made (base := V.heap.size) (e := 39) (size := 6) V #[] 0 (Nat.le_refl _) (by unfold maxLen; omega) rfl).alloc _)
  have HOII : Hid ((V.alloc (Obj.cells #[] 39)).ownsRow V.heap.size 39 6 (.slice (some ⟨V.heap.size, 0, none⟩) 0 0) 0 []) := hidI (World.ownsRow_made (base := V.heap.size) (e := 39) (size := 6) V #[] 0 (Nat.le_refl _) (by unfold maxLen; omega) rfl)
  have HOIII : Hid (((V.alloc (Obj.cells #[.int .u8 x.k, .string x.s, .int .u8 x.o, .bool x.i, .int .i64 x.e, .int .i64 x.c] 39)).alloc (Obj.cells #[] 39)).ownsRow V.heap.size 39 6 (.slice (some ⟨V.heap.size + 1, 0, none⟩) 0 0) 0 []) := hidI (by
    have := World.ownsRow_made (base := V.heap.size) (e := 39) (size := 6) (V.alloc (Obj.cells #[.int .u8 x.k, .string x.s, .int .u8 x.o, .bool x.i, .int .i64 x.e, .int .i64 x.c] 39)) #[] 0 (by simp) (by unfold maxLen; omega) rfl
    rwa [World.size_alloc] at this)
  refine wpZ_all (rs := [0, 7]) (by kernel_rfl) (by simp) fun j0 hj0 => ?_
  have hj01 : j0 = 0 ∨ j0 = 7 := by simp only [List.mem_cons, List.mem_nil_iff, or_false] at hj0; omega
  clear hj0
  rcases hj01 with rfl | rfl
  · refine wpOp_go ops6_0 rfl fun K1 hK1 => ?_
    unfold Oper.wp
    go_simp
    refine hK1 _ _ ⟨fun _ => HKS.out _ (by (repeat (first | exact Below.refl _ _ | assumption | refine Below.drew ?_ | refine Below.alloc ?_ (by first | omega | (simp; done) | (simp; omega)) _ | refine Below.setCell ?_ (by first | omega | (simp; done) | (simp; omega)) _))), ?_⟩
    clear hK1 K1
    refine wpZ_all (rs := [2, 7]) (by kernel_rfl) (by simp) fun j1 hj1 => ?_
    have hj12 : j1 = 7 ∨ j1 = 2 := by simp only [List.mem_cons, List.mem_nil_iff, or_false] at hj1; omega
    clear hj1
    rcases hj12 with rfl | rfl
    · refine wpOp_go ops6_7 rfl fun K1 hK1 => ?_
      unfold Oper.wp
      go_simp
      refine hK1 _ _ ⟨fun _ => HKS.out _ (by (repeat (first | exact Below.refl _ _ | assumption | refine Below.drew ?_ | refine Below.alloc ?_ (by first | omega | (simp; done) | (simp; omega)) _ | refine Below.setCell ?_ (by first | omega | (simp; done) | (simp; omega)) _))), ?_⟩
      clear hK1 K1
      refine wpZ_all (rs := [2]) (by kernel_rfl) (by simp) fun j2 hj2 => ?_
      obtain rfl : j2 = 2 := by simpa using hj2
      refine wpOp_go ops6_2 rfl fun K1 hK1 => ?_
      refine wp_append_any Try.underlying22 Try.info39 rfl (by decide) (by decide) _ _ rfl V.heap.size (.slice (some ⟨V.heap.size, 0, none⟩) 0 0) 0 [] rfl HOI.out (rv) (r.length) (flatA r) rfl (HRV.out _ (by (repeat (first | exact Below.refl _ _ | assumption | refine Below.drew ?_ | refine Below.alloc ?_ (by first | omega | (simp; done) | (simp; omega)) _ | refine Below.setCell ?_ (by first | omega | (simp; done) | (simp; omega)) _)))) flatA_cells (by omega) (by simp only [World.size_alloc]; omega) ?_
      intro vA W3 hown3 hgrow3 hat3
      rw [Nat.zero_add, List.nil_append] at hown3
      have hB3 : Below V.heap.size V W3 := Below.grown (w := (V.alloc (Obj.cells #[] 39)).alloc (Obj.cells #[.int .u8 x.k, .string x.s, .int .u8 x.o, .bool x.i, .int .i64 x.e, .int .i64 x.c] 39)) (by (repeat (first | exact Below.refl _ _ | assumption | refine Below.drew ?_ | refine Below.alloc ?_ (by first | omega | (simp; done) | (simp; omega)) _ | refine Below.setCell ?_ (by first | omega | (simp; done) | (simp; omega)) _))) hgrow3 (by simp only [World.size_alloc]; omega) (fun k hk => ((HOI.out).lt k hk).1)
      have HOA : Hid (W3.ownsRow V.heap.size 39 6 vA (r.length) (flatA r)) := hidI hown3
      have HSX : Hid (SeesC W3 (.slice (some ⟨V.heap.size + 1, 0, none⟩) 1 1) 1 6 (x.cells)) := hidI (SeesC.grown (by have := act_seen (W := V.alloc (Obj.cells #[] 39)) x; rwa [World.size_alloc] at this) hgrow3 (by simp [Value.ownBlock]))
      have HBF := hidI hB3
      refine hK1 _ _ ⟨fun _ => HKS.out _ HBF.out, ?_⟩
      clear hK1 K1 hown3 hgrow3 hat3 hB3
      refine wpZ_all (rs := [8]) (by kernel_rfl) (by simp) fun j8 hj8 => ?_
      obtain rfl : j8 = 8 := by simpa using hj8
      refine wpOp_go ops6_8 rfl fun K1 hK1 => ?_
      refine wp_append_any Try.underlying22 Try.info39 rfl (by decide) (by decide) _ _ rfl V.heap.size vA (r.length) (flatA r) rfl HOA.out _ 1 (x.cells) rfl HSX.out (cells_one x) (by omega) HBF.out.size ?_
      intro vB W5 hown5 hgrow5 hat5
      have HB5 : Hid (Below V.heap.size V W5) := hidI (HBF.out.grown hgrow5 HBF.out.size (fun k hk => (HOA.out.lt k hk).1))
      have HOB := hidI hown5
      refine hK1 _ _ ⟨fun _ => HKS.out _ HB5.out, ?_⟩
      clear hK1 K1 hown5 hgrow5 hat5 HOA HSX HBF
      refine wpZ_last (by kernel_rfl) (by kernel_rfl) ?_ _
      refine wpOp_go ops6_9 rfl fun K1 hK1 => ?_
      unfold Oper.wp
      go_simp
      refine hK1 _ _ ?_
      exact HQ.out _ _ _ _ _ _ _ _ _ _ _ HB5.out HOB.out
    · refine wpOp_go ops6_2 rfl fun K1 hK1 => ?_
      refine wp_append_any Try.underlying22 Try.info39 rfl (by decide) (by decide) _ _ rfl V.heap.size (.slice (some ⟨V.heap.size, 0, none⟩) 0 0) 0 [] rfl HOII.out (rv) (r.length) (flatA r) rfl (HRV.out _ (by (repeat (first | exact Below.refl _ _ | assumption | refine Below.drew ?_ | refine Below.alloc ?_ (by first | omega | (simp; done) | (simp; omega)) _ | refine Below.setCell ?_ (by first | omega | (simp; done) | (simp; omega)) _)))) flatA_cells (by omega) (by simp only [World.size_alloc]; omega) ?_
      intro vA W3 hown3 hgrow3 hat3
      rw [Nat.zero_add, List.nil_append] at hown3
      have hB3 : Below V.heap.size V W3 := Below.grown (w := V.alloc (Obj.cells #[] 39)) (by (repeat (first | exact Below.refl _ _ | assumption | refine Below.drew ?_ | refine Below.alloc ?_ (by first | omega | (simp; done) | (simp; omega)) _ | refine Below.setCell ?_ (by first | omega | (simp; done) | (simp; omega)) _))) hgrow3 (by simp only [World.size_alloc]; omega) (fun k hk => ((HOII.out).lt k hk).1)
      have HOA : Hid (W3.ownsRow V.heap.size 39 6 vA (r.length) (flatA r)) := hidI hown3
      refine hK1 _ _ ⟨fun _ => HKS.out _ hB3, ?_⟩
      clear hK1 K1
      refine wpZ_all (rs := [7]) (by kernel_rfl) (by simp) fun j7 hj7 => ?_
      obtain rfl : j7 = 7 := by simpa using hj7
      refine wpOp_go ops6_7 rfl fun K1 hK1 => ?_
      unfold Oper.wp
      go_simp
      have HB4 : Hid (Below V.heap.size V (W3.alloc (Obj.cells #[.int .u8 x.k, .string x.s, .int .u8 x.o, .bool x.i, .int .i64 x.e, .int .i64 x.c] 39))) := hidI (hB3.alloc hB3.size _)
      have HOAb : Hid ((W3.alloc (Obj.cells #[.int .u8 x.k, .string x.s, .int .u8 x.o, .bool x.i, .int .i64 x.e, .int .i64 x.c] 39)).ownsRow V.heap.size 39 6 vA (r.length) (flatA r)) := hidI (HOA.out.alloc _)
      have HSX : Hid (SeesC (W3.alloc (Obj.cells #[.int .u8 x.k, .string x.s, .int .u8 x.o, .bool x.i, .int .i64 x.e, .int .i64 x.c] 39)) (.slice (some ⟨W3.heap.size, 0, none⟩) 1 1) 1 6 (x.cells)) := hidI (act_seen (W := W3) x)
      refine hK1 _ _ ⟨fun _ => HKS.out _ HB4.out, ?_⟩
      clear hK1 K1 HOA hown3 hgrow3 hat3
      generalize W3.heap.size = gx at *
      generalize W3.alloc (Obj.cells #[.int .u8 x.k, .string x.s, .int .u8 x.o, .bool x.i, .int .i64 x.e, .int .i64 x.c] 39) = W4 at *
      have HOA := HOAb
      have HBF := HB4
      refine wpZ_all (rs := [8]) (by kernel_rfl) (by simp) fun j8 hj8 => ?_
      obtain rfl : j8 = 8 := by simpa using hj8
      refine wpOp_go ops6_8 rfl fun K1 hK1 => ?_
      refine wp_append_any Try.underlying22 Try.info39 rfl (by decide) (by decide) _ _ rfl V.heap.size vA (r.length) (flatA r) rfl HOA.out _ 1 (x.cells) rfl HSX.out (cells_one x) (by omega) HBF.out.size ?_
      intro vB W5 hown5 hgrow5 hat5
      have HB5 : Hid (Below V.heap.size V W5) := hidI (HBF.out.grown hgrow5 HBF.out.size (fun k hk => (HOA.out.lt k hk).1))
      have HOB := hidI hown5
      refine hK1 _ _ ⟨fun _ => HKS.out _ HB5.out, ?_⟩
      clear hK1 K1 hown5 hgrow5 hat5 HOA HSX HBF
      refine wpZ_last (by kernel_rfl) (by kernel_rfl) ?_ _
      refine wpOp_go ops6_9 rfl fun K1 hK1 => ?_
      unfold Oper.wp
      go_simp
      refine hK1 _ _ ?_
      exact HQ.out _ _ _ _ _ _ _ _ _ _ _ HB5.out HOB.out
  · refine wpOp_go ops6_7 rfl fun K1 hK1 => ?_
    unfold Oper.wp
    go_simp
    refine hK1 _ _ ⟨fun _ => HKS.out _ (by (repeat (first | exact Below.refl _ _ | assumption | refine Below.drew ?_ | refine Below.alloc ?_ (by first | omega | (simp; done) | (simp; omega)) _ | refine Below.setCell ?_ (by first | omega | (simp; done) | (simp; omega)) _))), ?_⟩
    clear hK1 K1
    refine wpZ_all (rs := [0]) (by kernel_rfl) (by simp) fun j0 hj0 => ?_
    obtain rfl : j0 = 0 := by simpa using hj0
    refine wpOp_go ops6_0 rfl fun K1 hK1 => ?_
    unfold Oper.wp
    go_simp
    refine hK1 _ _ ⟨fun _ => HKS.out _ (by (repeat (first | exact Below.refl _ _ | assumption | refine Below.drew ?_ | refine Below.alloc ?_ (by first | omega | (simp; done) | (simp; omega)) _ | refine Below.setCell ?_ (by first | omega | (simp; done) | (simp; omega)) _))), ?_⟩
    clear hK1 K1
    refine wpZ_all (rs := [2]) (by kernel_rfl) (by simp) fun j2 hj2 => ?_
    obtain rfl : j2 = 2 := by simpa using hj2
    refine wpOp_go ops6_2 rfl fun K1 hK1 => ?_
    refine wp_append_any Try.underlying22 Try.info39 rfl (by decide) (by decide) _ _ rfl V.heap.size (.slice (some ⟨V.heap.size + 1, 0, none⟩) 0 0) 0 [] rfl HOIII.out (rv) (r.length) (flatA r) rfl (HRV.out _ (by (repeat (first | exact Below.refl _ _ | assumption | refine Below.drew ?_ | refine Below.alloc ?_ (by first | omega | (simp; done) | (simp; omega)) _ | refine Below.setCell ?_ (by first | omega | (simp; done) | (simp; omega)) _)))) flatA_cells (by omega) (by simp only [World.size_alloc]; omega) ?_
    intro vA W3 hown3 hgrow3 hat3
    rw [Nat.zero_add, List.nil_append] at hown3
    have hB3 : Below V.heap.size V W3 := Below.grown (w := (V.alloc (Obj.cells #[.int .u8 x.k, .string x.s, .int .u8 x.o, .bool x.i, .int .i64 x.e, .int .i64 x.c] 39)).alloc (Obj.cells #[] 39)) (by (repeat (first | exact Below.refl _ _ | assumption | refine Below.drew ?_ | refine Below.alloc ?_ (by first | omega | (simp; done) | (simp; omega)) _ | refine Below.setCell ?_ (by first | omega | (simp; done) | (simp; omega)) _))) hgrow3 (by simp only [World.size_alloc]; omega) (fun k hk => ((HOIII.out).lt k hk).1)
    have HOA : Hid (W3.ownsRow V.heap.size 39 6 vA (r.length) (flatA r)) := hidI hown3
    have HSX : Hid (SeesC W3 (.slice (some ⟨V.heap.size, 0, none⟩) 1 1) 1 6 (x.cells)) := hidI (SeesC.grown (SeesC.grown (act_seen (W := V) x) (World.grownBy_alloc _ (Obj.cells #[] 39) (some (V.heap.size + 1))) (by simp [Value.ownBlock])) hgrow3 (by simp [Value.ownBlock]))
    have HBF := hidI hB3
    refine hK1 _ _ ⟨fun _ => HKS.out _ HBF.out, ?_⟩
    clear hK1 K1 hown3 hgrow3 hat3 hB3
    refine wpZ_all (rs := [8]) (by kernel_rfl) (by simp) fun j8 hj8 => ?_
    obtain rfl : j8 = 8 := by simpa using hj8
    refine wpOp_go ops6_8 rfl fun K1 hK1 => ?_
    refine wp_append_any Try.underlying22 Try.info39 rfl (by decide) (by decide) _ _ rfl V.heap.size vA (r.length) (flatA r) rfl HOA.out _ 1 (x.cells) rfl HSX.out (cells_one x) (by omega) HBF.out.size ?_
    intro vB W5 hown5 hgrow5 hat5
    have HB5 : Hid (Below V.heap.size V W5) := hidI (HBF.out.grown hgrow5 HBF.out.size (fun k hk => (HOA.out.lt k hk).1))
    have HOB := hidI hown5
    refine hK1 _ _ ⟨fun _ => HKS.out _ HB5.out, ?_⟩
    clear hK1 K1 hown5 hgrow5 hat5 HOA HSX HBF
    refine wpZ_last (by kernel_rfl) (by kernel_rfl) ?_ _
    refine wpOp_go ops6_9 rfl fun K1 hK1 => ?_
    unfold Oper.wp
    go_simp
    refine hK1 _ _ ?_
    exact HQ.out _ _ _ _ _ _ _ _ _ _ _ HB5.out HOB.out
end Go.Proofs.Ytffdgjlojechaaa
