/-
  A message put among others, in whatever order.
-/
import Derived.Test.YtdfieflcclbgjaaZed
import Derived.Test.YtdfieflcclbgjaaCutC
namespace Go.Proofs.Ytdfieflcclbgjaa
open Go.RowKit Go.Deep Go.MapKept
def opsS : Array Oper := #[{ dst := some 30, op := Go.Op.buildSlice 22 0 #[], type := 22, pos := "ref.go:29", after := #[], guard := none }, { dst := some 31, op := Go.Op.move (Go.Operand.tmp 3), type := 22, pos := "ref.go:29", after := #[], guard := none }, { dst := some 32, op := Go.Op.move (Go.Operand.tmp 5), type := 3, pos := "ref.go:29", after := #[], guard := none }, { dst := some 33, op := Go.Op.slice 22 (Go.Operand.tmp 31) none (some (Go.Operand.tmp 32)) none, type := 22, pos := "ref.go:29", after := #[{ on := 1, ground := Go.Ground.data }, { on := 2, ground := Go.Ground.data }], guard := none }, { dst := some 34, op := Go.Op.call { callee := Go.Callee.builtin Go.Builtin.append, args := #[Go.Operand.tmp 30, Go.Operand.tmp 33], argTypes := #[22, 22] }, type := 22, pos := "ref.go:29", after := #[{ on := 0, ground := Go.Ground.data }, { on := 3, ground := Go.Ground.data }], guard := none }, { dst := some 35, op := Go.Op.move (Go.Operand.tmp 0), type := 22, pos := "ref.go:29", after := #[], guard := none }, { dst := some 36, op := Go.Op.move (Go.Operand.tmp 4), type := 3, pos := "ref.go:29", after := #[], guard := none }, { dst := some 37, op := Go.Op.indexAddr 22 (Go.Operand.tmp 35) (Go.Operand.tmp 36), type := 0, pos := "ref.go:29", after := #[{ on := 5, ground := Go.Ground.data }, { on := 6, ground := Go.Ground.data }], guard := none }, { dst := some 38, op := Go.Op.load 48 (Go.Operand.tmp 37), type := 48, pos := "ref.go:29", after := #[{ on := 7, ground := Go.Ground.data }], guard := none }, { dst := some 39, op := Go.Op.buildSlice 22 1 #[(0, Go.Operand.tmp 38)], type := 22, pos := "ref.go:29", after := #[{ on := 8, ground := Go.Ground.data }], guard := none }, { dst := some 40, op := Go.Op.call { callee := Go.Callee.builtin Go.Builtin.append, args := #[Go.Operand.tmp 34, Go.Operand.tmp 39], argTypes := #[22, 22] }, type := 22, pos := "ref.go:29", after := #[{ on := 4, ground := Go.Ground.data }, { on := 9, ground := Go.Ground.data }, { on := 4, ground := Go.Ground.chain }], guard := none }, { dst := some 41, op := Go.Op.move (Go.Operand.tmp 3), type := 22, pos := "ref.go:29", after := #[], guard := none }, { dst := some 42, op := Go.Op.move (Go.Operand.tmp 5), type := 3, pos := "ref.go:29", after := #[], guard := none }, { dst := some 43, op := Go.Op.slice 22 (Go.Operand.tmp 41) (some (Go.Operand.tmp 42)) none none, type := 22, pos := "ref.go:29", after := #[{ on := 11, ground := Go.Ground.data }, { on := 12, ground := Go.Ground.data }], guard := none }, { dst := some 44, op := Go.Op.call { callee := Go.Callee.builtin Go.Builtin.append, args := #[Go.Operand.tmp 40, Go.Operand.tmp 43], argTypes := #[22, 22] }, type := 22, pos := "ref.go:29", after := #[{ on := 10, ground := Go.Ground.data }, { on := 13, ground := Go.Ground.data }, { on := 10, ground := Go.Ground.chain }], guard := none }, { dst := some 3, op := Go.Op.assign (Go.Operand.tmp 44), type := 22, pos := "ref.go:29", after := #[{ on := 14, ground := Go.Ground.data }, { on := 14, ground := Go.Ground.chain }, { on := 0, ground := Go.Ground.phase }, { on := 1, ground := Go.Ground.phase }, { on := 2, ground := Go.Ground.phase }, { on := 3, ground := Go.Ground.phase }, { on := 4, ground := Go.Ground.phase }, { on := 5, ground := Go.Ground.phase }, { on := 6, ground := Go.Ground.phase }, { on := 7, ground := Go.Ground.phase }, { on := 8, ground := Go.Ground.phase }, { on := 9, ground := Go.Ground.phase }, { on := 10, ground := Go.Ground.phase }, { on := 11, ground := Go.Ground.phase }, { on := 12, ground := Go.Ground.phase }, { on := 13, ground := Go.Ground.phase }, { on := 14, ground := Go.Ground.phase }], guard := none }]
theorem opsS_0 : opsS[0]? = some { dst := some 30, op := Go.Op.buildSlice 22 0 #[], type := 22, pos := "ref.go:29", after := #[], guard := none } := by kernel_rfl
theorem opsS_1 : opsS[1]? = some { dst := some 31, op := Go.Op.move (Go.Operand.tmp 3), type := 22, pos := "ref.go:29", after := #[], guard := none } := by kernel_rfl
theorem opsS_2 : opsS[2]? = some { dst := some 32, op := Go.Op.move (Go.Operand.tmp 5), type := 3, pos := "ref.go:29", after := #[], guard := none } := by kernel_rfl
theorem opsS_3 : opsS[3]? = some { dst := some 33, op := Go.Op.slice 22 (Go.Operand.tmp 31) none (some (Go.Operand.tmp 32)) none, type := 22, pos := "ref.go:29", after := #[{ on := 1, ground := Go.Ground.data }, { on := 2, ground := Go.Ground.data }], guard := none } := by kernel_rfl
theorem opsS_4 : opsS[4]? = some { dst := some 34, op := Go.Op.call { callee := Go.Callee.builtin Go.Builtin.append, args := #[Go.Operand.tmp 30, Go.Operand.tmp 33], argTypes := #[22, 22] }, type := 22, pos := "ref.go:29", after := #[{ on := 0, ground := Go.Ground.data }, { on := 3, ground := Go.Ground.data }], guard := none } := by kernel_rfl
theorem opsS_5 : opsS[5]? = some { dst := some 35, op := Go.Op.move (Go.Operand.tmp 0), type := 22, pos := "ref.go:29", after := #[], guard := none } := by kernel_rfl
theorem opsS_6 : opsS[6]? = some { dst := some 36, op := Go.Op.move (Go.Operand.tmp 4), type := 3, pos := "ref.go:29", after := #[], guard := none } := by kernel_rfl
theorem opsS_7 : opsS[7]? = some { dst := some 37, op := Go.Op.indexAddr 22 (Go.Operand.tmp 35) (Go.Operand.tmp 36), type := 0, pos := "ref.go:29", after := #[{ on := 5, ground := Go.Ground.data }, { on := 6, ground := Go.Ground.data }], guard := none } := by kernel_rfl
theorem opsS_8 : opsS[8]? = some { dst := some 38, op := Go.Op.load 48 (Go.Operand.tmp 37), type := 48, pos := "ref.go:29", after := #[{ on := 7, ground := Go.Ground.data }], guard := none } := by kernel_rfl
theorem opsS_9 : opsS[9]? = some { dst := some 39, op := Go.Op.buildSlice 22 1 #[(0, Go.Operand.tmp 38)], type := 22, pos := "ref.go:29", after := #[{ on := 8, ground := Go.Ground.data }], guard := none } := by kernel_rfl
theorem opsS_10 : opsS[10]? = some { dst := some 40, op := Go.Op.call { callee := Go.Callee.builtin Go.Builtin.append, args := #[Go.Operand.tmp 34, Go.Operand.tmp 39], argTypes := #[22, 22] }, type := 22, pos := "ref.go:29", after := #[{ on := 4, ground := Go.Ground.data }, { on := 9, ground := Go.Ground.data }, { on := 4, ground := Go.Ground.chain }], guard := none } := by kernel_rfl
theorem opsS_11 : opsS[11]? = some { dst := some 41, op := Go.Op.move (Go.Operand.tmp 3), type := 22, pos := "ref.go:29", after := #[], guard := none } := by kernel_rfl
theorem opsS_12 : opsS[12]? = some { dst := some 42, op := Go.Op.move (Go.Operand.tmp 5), type := 3, pos := "ref.go:29", after := #[], guard := none } := by kernel_rfl
theorem opsS_13 : opsS[13]? = some { dst := some 43, op := Go.Op.slice 22 (Go.Operand.tmp 41) (some (Go.Operand.tmp 42)) none none, type := 22, pos := "ref.go:29", after := #[{ on := 11, ground := Go.Ground.data }, { on := 12, ground := Go.Ground.data }], guard := none } := by kernel_rfl
theorem opsS_14 : opsS[14]? = some { dst := some 44, op := Go.Op.call { callee := Go.Callee.builtin Go.Builtin.append, args := #[Go.Operand.tmp 40, Go.Operand.tmp 43], argTypes := #[22, 22] }, type := 22, pos := "ref.go:29", after := #[{ on := 10, ground := Go.Ground.data }, { on := 13, ground := Go.Ground.data }, { on := 10, ground := Go.Ground.chain }], guard := none } := by kernel_rfl
theorem opsS_15 : opsS[15]? = some { dst := some 3, op := Go.Op.assign (Go.Operand.tmp 44), type := 22, pos := "ref.go:29", after := #[{ on := 14, ground := Go.Ground.data }, { on := 14, ground := Go.Ground.chain }, { on := 0, ground := Go.Ground.phase }, { on := 1, ground := Go.Ground.phase }, { on := 2, ground := Go.Ground.phase }, { on := 3, ground := Go.Ground.phase }, { on := 4, ground := Go.Ground.phase }, { on := 5, ground := Go.Ground.phase }, { on := 6, ground := Go.Ground.phase }, { on := 7, ground := Go.Ground.phase }, { on := 8, ground := Go.Ground.phase }, { on := 9, ground := Go.Ground.phase }, { on := 10, ground := Go.Ground.phase }, { on := 11, ground := Go.Ground.phase }, { on := 12, ground := Go.Ground.phase }, { on := 13, ground := Go.Ground.phase }, { on := 14, ground := Go.Ground.phase }], guard := none } := by kernel_rfl
set_option maxRecDepth 100000 in
set_option maxHeartbeats 1500000 in
theorem regS {x1 x2 x6 x7 x8 x9 x10 x11 x12 x13 x14 x15 x16 x17 x18 x19 x20 x21 x22 x23 x24 x25 x26 x27 x28 x29 x30 x31 x32 x33 x34 x35 x36 x37 x38 x39 x40 x41 x42 x43 x44 x45 : Value} {Q : Exit → Act → World → Prop} {V0 : World} {b off m cap i n ocap p : Nat} {oa : Option Addr} {x : Msg} {cs : List Value}
    (hS0 : V0.drew.cell? ⟨b, off + i * 3, none⟩ = some (.int .i64 x.to) ∧ V0.drew.cell? ⟨b, off + i * 3 + 1, none⟩ = some (.int .i64 x.tag) ∧ V0.drew.cell? ⟨b, off + i * 3 + 2, none⟩ = some (.int .i64 x.val)) (him : i < m) (hin : p ≤ n) (hnc : n ≤ ocap) (hl : SeesC V0.drew (.slice oa n ocap) n 3 cs) (h1 : ∀ c ∈ cs, c.oneCell' = true) (hr : n ≤ 1000) (hpan : ∀ c (a : Act) w (dd : Tmp) vv, Q (.panic c) (a.put (some dd) vv) w → Q (.panic c) a w)
    (hQ : ∀ (W : World) (v9 t30 t31 t32 t33 t34 t35 t36 t37 t38 t39 t40 t41 t42 t43 t44 : Value), Below V0.drew.heap.size V0.drew W → W.ownsRow V0.drew.heap.size 48 3 v9 ((p) + 1 + (n - p)) (cs.take (p * 3) ++ x.cells ++ cs.drop (p * 3)) → Q .normal { tmps := #[.slice (some ⟨b, off, none⟩) m cap, x1, x2, v9, .int .i64 i, .int .i64 p, x6, x7, x8, x9, x10, x11, x12, x13, x14, x15, x16, x17, x18, x19, x20, x21, x22, x23, x24, x25, x26, x27, x28, x29, t30, t31, t32, t33, t34, t35, t36, t37, t38, t39, t40, t41, t42, t43, t44, x45], defers := [] } W) :
    (Code.region 8 opsS true).wp Try.prog Q { tmps := #[.slice (some ⟨b, off, none⟩) m cap, x1, x2, .slice oa n ocap, .int .i64 i, .int .i64 p, x6, x7, x8, x9, x10, x11, x12, x13, x14, x15, x16, x17, x18, x19, x20, x21, x22, x23, x24, x25, x26, x27, x28, x29, x30, x31, x32, x33, x34, x35, x36, x37, x38, x39, x40, x41, x42, x43, x44, x45], defers := [] } V0 := by
  refine wp_region_Z (fun y => y.cell? ⟨b, off + i * 3, none⟩ = some (.int .i64 x.to) ∧ y.cell? ⟨b, off + i * 3 + 1, none⟩ = some (.int .i64 x.tag) ∧ y.cell? ⟨b, off + i * 3 + 2, none⟩ = some (.int .i64 x.val)) 15 Try.mixed ?_
  obtain ⟨V, hV⟩ : ∃ V, V0.drew = V := ⟨_, rfl⟩
  rw [hV] at hS0 hl hQ ⊢
  clear hV
  have HQ := hidI hQ
  have HPan := hidI hpan
  clear hQ hpan
  obtain ⟨v43, s43⟩ : ∃ v43, Value.slice (if ocap = p then oa else oa.map fun x => x.add (p * 3)) (n - p) (ocap - p) = v43 := ⟨_, rfl⟩
  have HV43 := hidI s43
  have hlo := cut_low hl p hin
  have hhi := cut_high hl hnc p hin
  rw [s43] at hhi
  have HLO : Hid (∀ y : World, Below V.heap.size V y → SeesC y (.slice oa p ocap) p 3 (cs.take (p * 3))) := hidI fun y hy => hlo.below hy (Nat.le_refl _)
  have HHI : Hid (∀ y : World, Below V.heap.size V y → SeesC y v43 (n - p) 3 (cs.drop (p * 3))) := hidI fun y hy => hhi.below hy (Nat.le_refl _)
  have H1T : Hid (∀ c ∈ cs.take (p * 3), c.oneCell' = true) := hidI fun c hc => h1 c (List.mem_of_mem_take hc)
  have H1D : Hid (∀ c ∈ cs.drop (p * 3), c.oneCell' = true) := hidI fun c hc => h1 c (List.mem_of_mem_drop hc)
  have kin : (p : Int) ≤ (n : Int) := by omega
  have kic : (p : Int) ≤ (ocap : Int) := by omega
  have kic' : p ≤ ocap := by omega
  have kim : (i : Int) < (m : Int) := by omega
  clear hl h1 hlo hhi s43
  refine wpZ_take [15] (i := 1) (v := (.slice oa n ocap)) opsS_1 (by kernel_rfl) (by kernel_rfl) (by kernel_rfl) (by kernel_rfl) (fun c a w h => HPan.out c a w _ _ h) (.inl ⟨by rfl, fun y hy => ?_⟩) hS0 ?_
  · go_simp
  refine wpZ_take [15] (i := 2) (v := (.int .i64 p)) opsS_2 (by kernel_rfl) (by kernel_rfl) (by kernel_rfl) (by kernel_rfl) (fun c a w h => HPan.out c a w _ _ h) (.inl ⟨by rfl, fun y hy => ?_⟩) hS0 ?_
  · go_simp
  refine wpZ_take [15] (i := 3) (v := (.slice oa p ocap)) opsS_3 (by kernel_rfl) (by kernel_rfl) (by kernel_rfl) (by kernel_rfl) (fun c a w h => HPan.out c a w _ _ h) (.inl ⟨by rfl, fun y hy => ?_⟩) hS0 ?_
  · go_simp
  refine wpZ_take [15] (i := 5) (v := (.slice (some ⟨b, off, none⟩) m cap)) opsS_5 (by kernel_rfl) (by kernel_rfl) (by kernel_rfl) (by kernel_rfl) (fun c a w h => HPan.out c a w _ _ h) (.inl ⟨by rfl, fun y hy => ?_⟩) hS0 ?_
  · go_simp
  refine wpZ_take [15] (i := 6) (v := (.int .i64 i)) opsS_6 (by kernel_rfl) (by kernel_rfl) (by kernel_rfl) (by kernel_rfl) (fun c a w h => HPan.out c a w _ _ h) (.inl ⟨by rfl, fun y hy => ?_⟩) hS0 ?_
  · go_simp
  refine wpZ_take [15] (i := 7) (v := (.pointer (some ⟨b, off + i * 3, none⟩))) opsS_7 (by kernel_rfl) (by kernel_rfl) (by kernel_rfl) (by kernel_rfl) (fun c a w h => HPan.out c a w _ _ h) (.inl ⟨by rfl, fun y hy => ?_⟩) hS0 ?_
  · go_simp
  refine wpZ_take [15] (i := 8) (v := (.agg #[.int .i64 x.to, .int .i64 x.tag, .int .i64 x.val])) opsS_8 (by kernel_rfl) (by kernel_rfl) (by kernel_rfl) (by kernel_rfl) (fun c a w h => HPan.out c a w _ _ h) (.inl ⟨by rfl, fun y hy => ?_⟩) hS0 ?_
  · obtain ⟨y0, y1, y2⟩ := hy; go_simp
  refine wpZ_take [15] (i := 11) (v := (.slice oa n ocap)) opsS_11 (by kernel_rfl) (by kernel_rfl) (by kernel_rfl) (by kernel_rfl) (fun c a w h => HPan.out c a w _ _ h) (.inl ⟨by rfl, fun y hy => ?_⟩) hS0 ?_
  · go_simp
  refine wpZ_take [15] (i := 12) (v := (.int .i64 p)) opsS_12 (by kernel_rfl) (by kernel_rfl) (by kernel_rfl) (by kernel_rfl) (fun c a w h => HPan.out c a w _ _ h) (.inl ⟨by rfl, fun y hy => ?_⟩) hS0 ?_
  · go_simp
  refine wpZ_take [15] (i := 13) (v := v43) opsS_13 (by kernel_rfl) (by kernel_rfl) (by kernel_rfl) (by kernel_rfl) (fun c a w h => HPan.out c a w _ _ h) (.inl ⟨by rfl, fun y hy => ?_⟩) hS0 ?_
  · have s43 := HV43.out; go_simp; first | done | (simp only [*]; done) | (rw [← s43]; simp; done) | exact congrArg (fun z => Result.ok (Next.value z) y) s43
  have HKS : Hid (∀ y : World, Below V.heap.size V y → y.cell? ⟨b, off + i * 3, none⟩ = some (.int .i64 x.to) ∧ y.cell? ⟨b, off + i * 3 + 1, none⟩ = some (.int .i64 x.tag) ∧ y.cell? ⟨b, off + i * 3 + 2, none⟩ = some (.int .i64 x.val)) := hidI fun y hy => by
    have z : ∀ {p : Addr} {v : Value}, V.cell? p = some v → y.cell? p = some v := fun {p v} hc => (hy.cell (World.block_lt_of_cell? V _ hc)).trans hc
    exact ⟨z hS0.1, z hS0.2.1, z hS0.2.2⟩
  have HOI : Hid (((V.alloc (Obj.cells #[] 48)).alloc (Obj.cells #[.int .i64 x.to, .int .i64 x.tag, .int .i64 x.val] 48)).ownsRow V.heap.size 48 3 (.slice (some ⟨V.heap.size, 0, none⟩) 0 0) 0 []) := hidI ((World.ownsRow_made (base := V.heap.size) (e := 48) (size := 3) V #[] 0 (Nat.le_refl _) (by unfold maxLen; omega) rfl).alloc _)
  have HOII : Hid ((V.alloc (Obj.cells #[] 48)).ownsRow V.heap.size 48 3 (.slice (some ⟨V.heap.size, 0, none⟩) 0 0) 0 []) := hidI (World.ownsRow_made (base := V.heap.size) (e := 48) (size := 3) V #[] 0 (Nat.le_refl _) (by unfold maxLen; omega) rfl)
  have HOIII : Hid (((V.alloc (Obj.cells #[.int .i64 x.to, .int .i64 x.tag, .int .i64 x.val] 48)).alloc (Obj.cells #[] 48)).ownsRow V.heap.size 48 3 (.slice (some ⟨V.heap.size + 1, 0, none⟩) 0 0) 0 []) := hidI (by
    have := World.ownsRow_made (base := V.heap.size) (e := 48) (size := 3) (V.alloc (Obj.cells #[.int .i64 x.to, .int .i64 x.tag, .int .i64 x.val] 48)) #[] 0 (by simp) (by unfold maxLen; omega) rfl
    rwa [World.size_alloc] at this)
  refine wpZ_all (rs := [0, 9]) (by kernel_rfl) (by simp) fun j0 hj0 => ?_
  have hj01 : j0 = 0 ∨ j0 = 9 := by simp only [List.mem_cons, List.mem_nil_iff, or_false] at hj0; omega
  clear hj0
  rcases hj01 with rfl | rfl
  · refine wpOp_go opsS_0 rfl fun K1 hK1 => ?_
    unfold Oper.wp
    go_simp
    refine hK1 _ _ ⟨fun _ => HKS.out _ (by (repeat (first | exact Below.refl _ _ | assumption | refine Below.drew ?_ | refine Below.alloc ?_ (by first | omega | (simp; done) | (simp; omega)) _ | refine Below.setCell ?_ (by first | omega | (simp; done) | (simp; omega)) _))), ?_⟩
    clear hK1 K1
    refine wpZ_all (rs := [4, 9]) (by kernel_rfl) (by simp) fun j1 hj1 => ?_
    have hj12 : j1 = 9 ∨ j1 = 4 := by simp only [List.mem_cons, List.mem_nil_iff, or_false] at hj1; omega
    clear hj1
    rcases hj12 with rfl | rfl
    · refine wpOp_go opsS_9 rfl fun K1 hK1 => ?_
      unfold Oper.wp
      go_simp
      refine hK1 _ _ ⟨fun _ => HKS.out _ (by (repeat (first | exact Below.refl _ _ | assumption | refine Below.drew ?_ | refine Below.alloc ?_ (by first | omega | (simp; done) | (simp; omega)) _ | refine Below.setCell ?_ (by first | omega | (simp; done) | (simp; omega)) _))), ?_⟩
      clear hK1 K1
      refine wpZ_all (rs := [4]) (by kernel_rfl) (by simp) fun j4 hj4 => ?_
      obtain rfl : j4 = 4 := by simpa using hj4
      refine wpOp_go opsS_4 rfl fun K1 hK1 => ?_
      refine wp_append_any Try.underlying22 Try.info48 rfl (by decide) (by decide) _ _ rfl V.heap.size (.slice (some ⟨V.heap.size, 0, none⟩) 0 0) 0 [] rfl HOI.out (.slice oa p ocap) (p) (cs.take (p * 3)) rfl (HLO.out _ (by (repeat (first | exact Below.refl _ _ | assumption | refine Below.drew ?_ | refine Below.alloc ?_ (by first | omega | (simp; done) | (simp; omega)) _ | refine Below.setCell ?_ (by first | omega | (simp; done) | (simp; omega)) _)))) H1T.out (by omega) (by simp only [World.size_alloc]; omega) ?_
      intro vA W3 hown3 hgrow3 hat3
      rw [Nat.zero_add, List.nil_append] at hown3
      have hB3 : Below V.heap.size V W3 := Below.grown (w := (V.alloc (Obj.cells #[] 48)).alloc (Obj.cells #[.int .i64 x.to, .int .i64 x.tag, .int .i64 x.val] 48)) (by (repeat (first | exact Below.refl _ _ | assumption | refine Below.drew ?_ | refine Below.alloc ?_ (by first | omega | (simp; done) | (simp; omega)) _ | refine Below.setCell ?_ (by first | omega | (simp; done) | (simp; omega)) _))) hgrow3 (by simp only [World.size_alloc]; omega) (fun k hk => ((HOI.out).lt k hk).1)
      have HOA : Hid (W3.ownsRow V.heap.size 48 3 vA (p) (cs.take (p * 3))) := hidI hown3
      have HSX : Hid (SeesC W3 (.slice (some ⟨V.heap.size + 1, 0, none⟩) 1 1) 1 3 (x.cells)) := hidI (SeesC.grown (by have := msg_seen (W := V.alloc (Obj.cells #[] 48)) x; rwa [World.size_alloc] at this) hgrow3 (by simp [Value.ownBlock]))
      have HBF := hidI hB3
      refine hK1 _ _ ⟨fun _ => HKS.out _ HBF.out, ?_⟩
      clear hK1 K1 hown3 hgrow3 hat3 hB3
      refine wpZ_all (rs := [10]) (by kernel_rfl) (by simp) fun j10 hj10 => ?_
      obtain rfl : j10 = 10 := by simpa using hj10
      refine wpOp_go opsS_10 rfl fun K1 hK1 => ?_
      refine wp_append_any Try.underlying22 Try.info48 rfl (by decide) (by decide) _ _ rfl V.heap.size vA (p) (cs.take (p * 3)) rfl HOA.out _ 1 (x.cells) rfl HSX.out (cells_one x) (by omega) HBF.out.size ?_
      intro vB W5 hown5 hgrow5 hat5
      have HB5 : Hid (Below V.heap.size V W5) := hidI (HBF.out.grown hgrow5 HBF.out.size (fun k hk => (HOA.out.lt k hk).1))
      have HOB := hidI hown5
      refine hK1 _ _ ⟨fun _ => HKS.out _ HB5.out, ?_⟩
      clear hK1 K1 hown5 hgrow5 hat5 HOA HSX HBF
      refine wpZ_all (rs := [14]) (by kernel_rfl) (by simp) fun j14 hj14 => ?_
      obtain rfl : j14 = 14 := by simpa using hj14
      refine wpOp_go opsS_14 rfl fun K1 hK1 => ?_
      refine wp_append_any Try.underlying22 Try.info48 rfl (by decide) (by decide) _ _ rfl V.heap.size vB ((p) + 1) _ rfl HOB.out (v43) (n - p) (cs.drop (p * 3)) rfl (HHI.out _ HB5.out) H1D.out (by omega) HB5.out.size ?_
      intro vC W6 hown6 hgrow6 hat6
      have HB6 : Hid (Below V.heap.size V W6) := hidI (HB5.out.grown hgrow6 HB5.out.size (fun k hk => (HOB.out.lt k hk).1))
      have HOC := hidI hown6
      refine hK1 _ _ ⟨fun _ => HKS.out _ HB6.out, ?_⟩
      clear hK1 K1 hown6 hgrow6 hat6 HOB HB5
      refine wpZ_last (by kernel_rfl) (by kernel_rfl) ?_ _
      refine wpOp_go opsS_15 rfl fun K1 hK1 => ?_
      unfold Oper.wp
      go_simp
      refine hK1 _ _ ?_
      exact HQ.out _ _ _ _ _ _ _ _ _ _ _ _ _ _ _ _ _ HB6.out HOC.out
    · refine wpOp_go opsS_4 rfl fun K1 hK1 => ?_
      refine wp_append_any Try.underlying22 Try.info48 rfl (by decide) (by decide) _ _ rfl V.heap.size (.slice (some ⟨V.heap.size, 0, none⟩) 0 0) 0 [] rfl HOII.out (.slice oa p ocap) (p) (cs.take (p * 3)) rfl (HLO.out _ (by (repeat (first | exact Below.refl _ _ | assumption | refine Below.drew ?_ | refine Below.alloc ?_ (by first | omega | (simp; done) | (simp; omega)) _ | refine Below.setCell ?_ (by first | omega | (simp; done) | (simp; omega)) _)))) H1T.out (by omega) (by simp only [World.size_alloc]; omega) ?_
      intro vA W3 hown3 hgrow3 hat3
      rw [Nat.zero_add, List.nil_append] at hown3
      have hB3 : Below V.heap.size V W3 := Below.grown (w := V.alloc (Obj.cells #[] 48)) (by (repeat (first | exact Below.refl _ _ | assumption | refine Below.drew ?_ | refine Below.alloc ?_ (by first | omega | (simp; done) | (simp; omega)) _ | refine Below.setCell ?_ (by first | omega | (simp; done) | (simp; omega)) _))) hgrow3 (by simp only [World.size_alloc]; omega) (fun k hk => ((HOII.out).lt k hk).1)
      have HOA : Hid (W3.ownsRow V.heap.size 48 3 vA (p) (cs.take (p * 3))) := hidI hown3
      refine hK1 _ _ ⟨fun _ => HKS.out _ hB3, ?_⟩
      clear hK1 K1
      refine wpZ_all (rs := [9]) (by kernel_rfl) (by simp) fun j9 hj9 => ?_
      obtain rfl : j9 = 9 := by simpa using hj9
      refine wpOp_go opsS_9 rfl fun K1 hK1 => ?_
      unfold Oper.wp
      go_simp
      have HB4 : Hid (Below V.heap.size V (W3.alloc (Obj.cells #[.int .i64 x.to, .int .i64 x.tag, .int .i64 x.val] 48))) := hidI (hB3.alloc hB3.size _)
      have HOAb : Hid ((W3.alloc (Obj.cells #[.int .i64 x.to, .int .i64 x.tag, .int .i64 x.val] 48)).ownsRow V.heap.size 48 3 vA (p) (cs.take (p * 3))) := hidI (HOA.out.alloc _)
      have HSX : Hid (SeesC (W3.alloc (Obj.cells #[.int .i64 x.to, .int .i64 x.tag, .int .i64 x.val] 48)) (.slice (some ⟨W3.heap.size, 0, none⟩) 1 1) 1 3 (x.cells)) := hidI (msg_seen (W := W3) x)
      refine hK1 _ _ ⟨fun _ => HKS.out _ HB4.out, ?_⟩
      clear hK1 K1 HOA hown3 hgrow3 hat3
      generalize W3.heap.size = gx at *
      generalize W3.alloc (Obj.cells #[.int .i64 x.to, .int .i64 x.tag, .int .i64 x.val] 48) = W4 at *
      have HOA := HOAb
      have HBF := HB4
      refine wpZ_all (rs := [10]) (by kernel_rfl) (by simp) fun j10 hj10 => ?_
      obtain rfl : j10 = 10 := by simpa using hj10
      refine wpOp_go opsS_10 rfl fun K1 hK1 => ?_
      refine wp_append_any Try.underlying22 Try.info48 rfl (by decide) (by decide) _ _ rfl V.heap.size vA (p) (cs.take (p * 3)) rfl HOA.out _ 1 (x.cells) rfl HSX.out (cells_one x) (by omega) HBF.out.size ?_
      intro vB W5 hown5 hgrow5 hat5
      have HB5 : Hid (Below V.heap.size V W5) := hidI (HBF.out.grown hgrow5 HBF.out.size (fun k hk => (HOA.out.lt k hk).1))
      have HOB := hidI hown5
      refine hK1 _ _ ⟨fun _ => HKS.out _ HB5.out, ?_⟩
      clear hK1 K1 hown5 hgrow5 hat5 HOA HSX HBF
      refine wpZ_all (rs := [14]) (by kernel_rfl) (by simp) fun j14 hj14 => ?_
      obtain rfl : j14 = 14 := by simpa using hj14
      refine wpOp_go opsS_14 rfl fun K1 hK1 => ?_
      refine wp_append_any Try.underlying22 Try.info48 rfl (by decide) (by decide) _ _ rfl V.heap.size vB ((p) + 1) _ rfl HOB.out (v43) (n - p) (cs.drop (p * 3)) rfl (HHI.out _ HB5.out) H1D.out (by omega) HB5.out.size ?_
      intro vC W6 hown6 hgrow6 hat6
      have HB6 : Hid (Below V.heap.size V W6) := hidI (HB5.out.grown hgrow6 HB5.out.size (fun k hk => (HOB.out.lt k hk).1))
      have HOC := hidI hown6
      refine hK1 _ _ ⟨fun _ => HKS.out _ HB6.out, ?_⟩
      clear hK1 K1 hown6 hgrow6 hat6 HOB HB5
      refine wpZ_last (by kernel_rfl) (by kernel_rfl) ?_ _
      refine wpOp_go opsS_15 rfl fun K1 hK1 => ?_
      unfold Oper.wp
      go_simp
      refine hK1 _ _ ?_
      exact HQ.out _ _ _ _ _ _ _ _ _ _ _ _ _ _ _ _ _ HB6.out HOC.out
  · refine wpOp_go opsS_9 rfl fun K1 hK1 => ?_
    unfold Oper.wp
    go_simp
    refine hK1 _ _ ⟨fun _ => HKS.out _ (by (repeat (first | exact Below.refl _ _ | assumption | refine Below.drew ?_ | refine Below.alloc ?_ (by first | omega | (simp; done) | (simp; omega)) _ | refine Below.setCell ?_ (by first | omega | (simp; done) | (simp; omega)) _))), ?_⟩
    clear hK1 K1
    refine wpZ_all (rs := [0]) (by kernel_rfl) (by simp) fun j0 hj0 => ?_
    obtain rfl : j0 = 0 := by simpa using hj0
    refine wpOp_go opsS_0 rfl fun K1 hK1 => ?_
    unfold Oper.wp
    go_simp
    refine hK1 _ _ ⟨fun _ => HKS.out _ (by (repeat (first | exact Below.refl _ _ | assumption | refine Below.drew ?_ | refine Below.alloc ?_ (by first | omega | (simp; done) | (simp; omega)) _ | refine Below.setCell ?_ (by first | omega | (simp; done) | (simp; omega)) _))), ?_⟩
    clear hK1 K1
    refine wpZ_all (rs := [4]) (by kernel_rfl) (by simp) fun j4 hj4 => ?_
    obtain rfl : j4 = 4 := by simpa using hj4
    refine wpOp_go opsS_4 rfl fun K1 hK1 => ?_
    refine wp_append_any Try.underlying22 Try.info48 rfl (by decide) (by decide) _ _ rfl V.heap.size (.slice (some ⟨V.heap.size + 1, 0, none⟩) 0 0) 0 [] rfl HOIII.out (.slice oa p ocap) (p) (cs.take (p * 3)) rfl (HLO.out _ (by (repeat (first | exact Below.refl _ _ | assumption | refine Below.drew ?_ | refine Below.alloc ?_ (by first | omega | (simp; done) | (simp; omega)) _ | refine Below.setCell ?_ (by first | omega | (simp; done) | (simp; omega)) _)))) H1T.out (by omega) (by simp only [World.size_alloc]; omega) ?_
    intro vA W3 hown3 hgrow3 hat3
    rw [Nat.zero_add, List.nil_append] at hown3
    have hB3 : Below V.heap.size V W3 := Below.grown (w := (V.alloc (Obj.cells #[.int .i64 x.to, .int .i64 x.tag, .int .i64 x.val] 48)).alloc (Obj.cells #[] 48)) (by (repeat (first | exact Below.refl _ _ | assumption | refine Below.drew ?_ | refine Below.alloc ?_ (by first | omega | (simp; done) | (simp; omega)) _ | refine Below.setCell ?_ (by first | omega | (simp; done) | (simp; omega)) _))) hgrow3 (by simp only [World.size_alloc]; omega) (fun k hk => ((HOIII.out).lt k hk).1)
    have HOA : Hid (W3.ownsRow V.heap.size 48 3 vA (p) (cs.take (p * 3))) := hidI hown3
    have HSX : Hid (SeesC W3 (.slice (some ⟨V.heap.size, 0, none⟩) 1 1) 1 3 (x.cells)) := hidI (SeesC.grown (SeesC.grown (msg_seen (W := V) x) (World.grownBy_alloc _ (Obj.cells #[] 48) (some (V.heap.size + 1))) (by simp [Value.ownBlock])) hgrow3 (by simp [Value.ownBlock]))
    have HBF := hidI hB3
    refine hK1 _ _ ⟨fun _ => HKS.out _ HBF.out, ?_⟩
    clear hK1 K1 hown3 hgrow3 hat3 hB3
    refine wpZ_all (rs := [10]) (by kernel_rfl) (by simp) fun j10 hj10 => ?_
    obtain rfl : j10 = 10 := by simpa using hj10
    refine wpOp_go opsS_10 rfl fun K1 hK1 => ?_
    refine wp_append_any Try.underlying22 Try.info48 rfl (by decide) (by decide) _ _ rfl V.heap.size vA (p) (cs.take (p * 3)) rfl HOA.out _ 1 (x.cells) rfl HSX.out (cells_one x) (by omega) HBF.out.size ?_
    intro vB W5 hown5 hgrow5 hat5
    have HB5 : Hid (Below V.heap.size V W5) := hidI (HBF.out.grown hgrow5 HBF.out.size (fun k hk => (HOA.out.lt k hk).1))
    have HOB := hidI hown5
    refine hK1 _ _ ⟨fun _ => HKS.out _ HB5.out, ?_⟩
    clear hK1 K1 hown5 hgrow5 hat5 HOA HSX HBF
    refine wpZ_all (rs := [14]) (by kernel_rfl) (by simp) fun j14 hj14 => ?_
    obtain rfl : j14 = 14 := by simpa using hj14
    refine wpOp_go opsS_14 rfl fun K1 hK1 => ?_
    refine wp_append_any Try.underlying22 Try.info48 rfl (by decide) (by decide) _ _ rfl V.heap.size vB ((p) + 1) _ rfl HOB.out (v43) (n - p) (cs.drop (p * 3)) rfl (HHI.out _ HB5.out) H1D.out (by omega) HB5.out.size ?_
    intro vC W6 hown6 hgrow6 hat6
    have HB6 : Hid (Below V.heap.size V W6) := hidI (HB5.out.grown hgrow6 HB5.out.size (fun k hk => (HOB.out.lt k hk).1))
    have HOC := hidI hown6
    refine hK1 _ _ ⟨fun _ => HKS.out _ HB6.out, ?_⟩
    clear hK1 K1 hown6 hgrow6 hat6 HOB HB5
    refine wpZ_last (by kernel_rfl) (by kernel_rfl) ?_ _
    refine wpOp_go opsS_15 rfl fun K1 hK1 => ?_
    unfold Oper.wp
    go_simp
    refine hK1 _ _ ?_
    exact HQ.out _ _ _ _ _ _ _ _ _ _ _ _ _ _ _ _ _ HB6.out HOC.out
end Go.Proofs.Ytdfieflcclbgjaa
