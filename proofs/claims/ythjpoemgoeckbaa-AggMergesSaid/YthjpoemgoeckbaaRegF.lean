/-
  Another Agg with the same rows, in whatever order.
-/
import Derived.Test.YthjpoemgoeckbaaZed
import Derived.Test.YthjpoemgoeckbaaRAgg4
namespace Go.Proofs.Ythjpoemgoeckbaa
open Go.RowKit Go.Deep Go.MapKept
def opsF : Array Oper := #[{ dst := some 5, op := Go.Op.move (Go.Operand.tmp 0), type := 25, pos := "ref.go:87", after := #[], guard := none }, { dst := some 6, op := Go.Op.nilCheck (Go.Operand.tmp 5), type := 0, pos := "ref.go:87", after := #[{ on := 0, ground := Go.Ground.data }], guard := none }, { dst := some 7, op := Go.Op.fieldAddr 67 (Go.Operand.tmp 6) 0, type := 0, pos := "ref.go:87", after := #[{ on := 1, ground := Go.Ground.data }], guard := none }, { dst := some 8, op := Go.Op.load 22 (Go.Operand.tmp 7), type := 22, pos := "ref.go:87", after := #[{ on := 2, ground := Go.Ground.data }], guard := none }, { dst := some 9, op := Go.Op.buildSlice 65 0 #[], type := 65, pos := "ref.go:87", after := #[], guard := none }, { dst := some 10, op := Go.Op.move (Go.Operand.tmp 0), type := 25, pos := "ref.go:87", after := #[], guard := none }, { dst := some 11, op := Go.Op.nilCheck (Go.Operand.tmp 10), type := 0, pos := "ref.go:87", after := #[{ on := 5, ground := Go.Ground.data }], guard := none }, { dst := some 12, op := Go.Op.fieldAddr 67 (Go.Operand.tmp 11) 1, type := 0, pos := "ref.go:87", after := #[{ on := 6, ground := Go.Ground.data }], guard := none }, { dst := some 13, op := Go.Op.load 65 (Go.Operand.tmp 12), type := 65, pos := "ref.go:87", after := #[{ on := 7, ground := Go.Ground.data }], guard := none }, { dst := some 14, op := Go.Op.call { callee := Go.Callee.builtin Go.Builtin.append, args := #[Go.Operand.tmp 9, Go.Operand.tmp 13], argTypes := #[65, 65] }, type := 65, pos := "ref.go:87", after := #[{ on := 4, ground := Go.Ground.data }, { on := 8, ground := Go.Ground.data }], guard := none }, { dst := some 15, op := Go.Op.build 67 #[(0, Go.Operand.tmp 8), (1, Go.Operand.tmp 14)], type := 67, pos := "ref.go:87", after := #[{ on := 3, ground := Go.Ground.data }, { on := 9, ground := Go.Ground.data }], guard := none }, { dst := some 16, op := Go.Op.box 67 (Go.Operand.tmp 15), type := 25, pos := "ref.go:87", after := #[{ on := 10, ground := Go.Ground.data }], guard := none }, { dst := some 2, op := Go.Op.assign (Go.Operand.tmp 16), type := 25, pos := "ref.go:87", after := #[{ on := 11, ground := Go.Ground.data }, { on := 9, ground := Go.Ground.chain }, { on := 0, ground := Go.Ground.phase }, { on := 1, ground := Go.Ground.phase }, { on := 2, ground := Go.Ground.phase }, { on := 3, ground := Go.Ground.phase }, { on := 4, ground := Go.Ground.phase }, { on := 5, ground := Go.Ground.phase }, { on := 6, ground := Go.Ground.phase }, { on := 7, ground := Go.Ground.phase }, { on := 8, ground := Go.Ground.phase }, { on := 9, ground := Go.Ground.phase }, { on := 10, ground := Go.Ground.phase }, { on := 11, ground := Go.Ground.phase }], guard := none }]
theorem opsF_0 : opsF[0]? = some { dst := some 5, op := Go.Op.move (Go.Operand.tmp 0), type := 25, pos := "ref.go:87", after := #[], guard := none } := by kernel_rfl
theorem opsF_1 : opsF[1]? = some { dst := some 6, op := Go.Op.nilCheck (Go.Operand.tmp 5), type := 0, pos := "ref.go:87", after := #[{ on := 0, ground := Go.Ground.data }], guard := none } := by kernel_rfl
theorem opsF_2 : opsF[2]? = some { dst := some 7, op := Go.Op.fieldAddr 67 (Go.Operand.tmp 6) 0, type := 0, pos := "ref.go:87", after := #[{ on := 1, ground := Go.Ground.data }], guard := none } := by kernel_rfl
theorem opsF_3 : opsF[3]? = some { dst := some 8, op := Go.Op.load 22 (Go.Operand.tmp 7), type := 22, pos := "ref.go:87", after := #[{ on := 2, ground := Go.Ground.data }], guard := none } := by kernel_rfl
theorem opsF_4 : opsF[4]? = some { dst := some 9, op := Go.Op.buildSlice 65 0 #[], type := 65, pos := "ref.go:87", after := #[], guard := none } := by kernel_rfl
theorem opsF_5 : opsF[5]? = some { dst := some 10, op := Go.Op.move (Go.Operand.tmp 0), type := 25, pos := "ref.go:87", after := #[], guard := none } := by kernel_rfl
theorem opsF_6 : opsF[6]? = some { dst := some 11, op := Go.Op.nilCheck (Go.Operand.tmp 10), type := 0, pos := "ref.go:87", after := #[{ on := 5, ground := Go.Ground.data }], guard := none } := by kernel_rfl
theorem opsF_7 : opsF[7]? = some { dst := some 12, op := Go.Op.fieldAddr 67 (Go.Operand.tmp 11) 1, type := 0, pos := "ref.go:87", after := #[{ on := 6, ground := Go.Ground.data }], guard := none } := by kernel_rfl
theorem opsF_8 : opsF[8]? = some { dst := some 13, op := Go.Op.load 65 (Go.Operand.tmp 12), type := 65, pos := "ref.go:87", after := #[{ on := 7, ground := Go.Ground.data }], guard := none } := by kernel_rfl
theorem opsF_9 : opsF[9]? = some { dst := some 14, op := Go.Op.call { callee := Go.Callee.builtin Go.Builtin.append, args := #[Go.Operand.tmp 9, Go.Operand.tmp 13], argTypes := #[65, 65] }, type := 65, pos := "ref.go:87", after := #[{ on := 4, ground := Go.Ground.data }, { on := 8, ground := Go.Ground.data }], guard := none } := by kernel_rfl
theorem opsF_10 : opsF[10]? = some { dst := some 15, op := Go.Op.build 67 #[(0, Go.Operand.tmp 8), (1, Go.Operand.tmp 14)], type := 67, pos := "ref.go:87", after := #[{ on := 3, ground := Go.Ground.data }, { on := 9, ground := Go.Ground.data }], guard := none } := by kernel_rfl
theorem opsF_11 : opsF[11]? = some { dst := some 16, op := Go.Op.box 67 (Go.Operand.tmp 15), type := 25, pos := "ref.go:87", after := #[{ on := 10, ground := Go.Ground.data }], guard := none } := by kernel_rfl
theorem opsF_12 : opsF[12]? = some { dst := some 2, op := Go.Op.assign (Go.Operand.tmp 16), type := 25, pos := "ref.go:87", after := #[{ on := 11, ground := Go.Ground.data }, { on := 9, ground := Go.Ground.chain }, { on := 0, ground := Go.Ground.phase }, { on := 1, ground := Go.Ground.phase }, { on := 2, ground := Go.Ground.phase }, { on := 3, ground := Go.Ground.phase }, { on := 4, ground := Go.Ground.phase }, { on := 5, ground := Go.Ground.phase }, { on := 6, ground := Go.Ground.phase }, { on := 7, ground := Go.Ground.phase }, { on := 8, ground := Go.Ground.phase }, { on := 9, ground := Go.Ground.phase }, { on := 10, ground := Go.Ground.phase }, { on := 11, ground := Go.Ground.phase }], guard := none } := by kernel_rfl
set_option maxRecDepth 100000 in
set_option maxHeartbeats 1500000 in
theorem regF {x1 x2 x3 x4 x5 x6 x7 x8 x9 x10 x11 x12 x13 x14 x15 x16 : Value} {Q : Exit → Act → World → Prop} {V0 : World} {p o n cap : Nat} {a : Option Addr} {vs : List Value}
    (hS0 : V0.drew.cell? ⟨p, 0, none⟩ = some (.int .u8 (o : Int)) ∧ V0.drew.cell? ⟨p, 1, none⟩ = some (.slice a n cap)) (hs : SeesC V0.drew (.slice a n cap) n 1 vs) (h1 : ∀ c ∈ vs, c.oneCell' = true) (hn : n ≤ 1000)
    (hpan : ∀ c (a : Act) w (dd : Tmp) vv, Q (.panic c) (a.put (some dd) vv) w → Q (.panic c) a w)
    (hQ : ∀ (W : World) (vA t5 t6 t7 t8 t9 t10 t11 t12 t13 t14 t15 t16 : Value), W.ownsRow V0.drew.heap.size 39 1 vA n vs → Below V0.drew.heap.size V0.drew W → Q .normal { tmps := #[.pointer (some ⟨p, 0, none⟩), x1, .pointer (some ⟨W.heap.size, 0, none⟩), x3, x4, t5, t6, t7, t8, t9, t10, t11, t12, t13, t14, t15, t16], defers := [] } (W.alloc (.cells #[.int .u8 (o : Int), vA] 67))) :
    (Code.region 3 opsF true).wp Try.prog Q { tmps := #[.pointer (some ⟨p, 0, none⟩), x1, x2, x3, x4, x5, x6, x7, x8, x9, x10, x11, x12, x13, x14, x15, x16], defers := [] } V0 := by
  refine wp_region_Z (fun y => y.cell? ⟨p, 0, none⟩ = some (.int .u8 (o : Int)) ∧ y.cell? ⟨p, 1, none⟩ = some (.slice a n cap)) 12 Try.mixed ?_
  obtain ⟨V, hV⟩ : ∃ V, V0.drew = V := ⟨_, rfl⟩
  rw [hV] at hS0 hs hQ ⊢
  clear hV
  have HQ := hidI hQ
  have HPan := hidI hpan
  have H1 := hidI h1
  have HO : Hid ((V.alloc (Obj.cells #[] 39)).ownsRow V.heap.size 39 1 (.slice (some ⟨V.heap.size, 0, none⟩) 0 0) 0 []) := hidI (own_made0 V 39)
  have HSV : Hid (SeesC (V.alloc (Obj.cells #[] 39)) (.slice a n cap) n 1 vs) := hidI (hs.below ((Below.refl _ _).alloc (Nat.le_refl _) _) (Nat.le_refl _))
  clear hQ hpan h1 hs
  refine wpZ_take [12] (i := 0) (v := (.pointer (some ⟨p, 0, none⟩))) opsF_0 (by kernel_rfl) (by kernel_rfl) (by kernel_rfl) (by kernel_rfl) (fun c a w h => HPan.out c a w _ _ h) (.inl ⟨by rfl, fun y hy => ?_⟩) hS0 ?_
  · go_simp
  refine wpZ_take [12] (i := 1) (v := (.pointer (some ⟨p, 0, none⟩))) opsF_1 (by kernel_rfl) (by kernel_rfl) (by kernel_rfl) (by kernel_rfl) (fun c a w h => HPan.out c a w _ _ h) (.inl ⟨by rfl, fun y hy => ?_⟩) hS0 ?_
  · go_simp
  refine wpZ_take [12] (i := 2) (v := (.pointer (some ⟨p, 0, none⟩))) opsF_2 (by kernel_rfl) (by kernel_rfl) (by kernel_rfl) (by kernel_rfl) (fun c a w h => HPan.out c a w _ _ h) (.inl ⟨by rfl, fun y hy => ?_⟩) hS0 ?_
  · go_simp
  refine wpZ_take [12] (i := 3) (v := (.int .u8 (o : Int))) opsF_3 (by kernel_rfl) (by kernel_rfl) (by kernel_rfl) (by kernel_rfl) (fun c a w h => HPan.out c a w _ _ h) (.inl ⟨by rfl, fun y hy => ?_⟩) hS0 ?_
  · obtain ⟨y0, y1⟩ := hy; go_simp
  refine wpZ_take [12] (i := 5) (v := (.pointer (some ⟨p, 0, none⟩))) opsF_5 (by kernel_rfl) (by kernel_rfl) (by kernel_rfl) (by kernel_rfl) (fun c a w h => HPan.out c a w _ _ h) (.inl ⟨by rfl, fun y hy => ?_⟩) hS0 ?_
  · go_simp
  refine wpZ_take [12] (i := 6) (v := (.pointer (some ⟨p, 0, none⟩))) opsF_6 (by kernel_rfl) (by kernel_rfl) (by kernel_rfl) (by kernel_rfl) (fun c a w h => HPan.out c a w _ _ h) (.inl ⟨by rfl, fun y hy => ?_⟩) hS0 ?_
  · go_simp
  refine wpZ_take [12] (i := 7) (v := (.pointer (some ⟨p, 1, none⟩))) opsF_7 (by kernel_rfl) (by kernel_rfl) (by kernel_rfl) (by kernel_rfl) (fun c a w h => HPan.out c a w _ _ h) (.inl ⟨by rfl, fun y hy => ?_⟩) hS0 ?_
  · go_simp
  refine wpZ_take [12] (i := 8) (v := (.slice a n cap)) opsF_8 (by kernel_rfl) (by kernel_rfl) (by kernel_rfl) (by kernel_rfl) (fun c a w h => HPan.out c a w _ _ h) (.inl ⟨by rfl, fun y hy => ?_⟩) hS0 ?_
  · obtain ⟨y0, y1⟩ := hy; go_simp
  have HKS : Hid (∀ y : World, Below V.heap.size V y → y.cell? ⟨p, 0, none⟩ = some (.int .u8 (o : Int)) ∧ y.cell? ⟨p, 1, none⟩ = some (.slice a n cap)) := hidI fun y hy => by
    have zz : ∀ {p : Addr} {v : Value}, V.cell? p = some v → y.cell? p = some v := fun {p v} hc => (hy.cell (World.block_lt_of_cell? V _ hc)).trans hc
    exact ⟨zz hS0.1, zz hS0.2⟩
  refine wpZ_all (rs := [4]) (by kernel_rfl) (by simp) fun j4 hj4 => ?_
  obtain rfl : j4 = 4 := by simpa using hj4
  refine wpOp_go opsF_4 rfl fun K1 hK1 => ?_
  unfold Oper.wp
  go_simp
  have HB1 : Hid (Below V.heap.size V (V.alloc (Obj.cells #[] 39))) := hidI ((Below.refl _ _).alloc (Nat.le_refl _) _)
  refine hK1 _ _ ⟨fun _ => HKS.out _ HB1.out, ?_⟩
  clear hK1 K1
  refine wpZ_all (rs := [9]) (by kernel_rfl) (by simp) fun j9 hj9 => ?_
  obtain rfl : j9 = 9 := by simpa using hj9
  refine wpOp_go opsF_9 rfl fun K1 hK1 => ?_
  refine wp_append_any Try.underlying65 Try.info39 rfl (by decide) (by decide) _ _ rfl V.heap.size _ 0 [] rfl HO.out _ n vs rfl HSV.out H1.out (by omega) (by simp) ?_
  intro vA W3 hown3 hgrow3 hat3
  rw [List.nil_append, Nat.zero_add] at hown3
  have HO3 := hidI hown3
  have HB3 : Hid (Below V.heap.size V W3) := hidI (Below.grown (w := V.alloc (Obj.cells #[] 39)) HB1.out hgrow3 (by simp) (fun k hk => by have e : some V.heap.size = some k := hk; cases e; exact Nat.le_refl _))
  have hS3 := HKS.out _ HB3.out
  obtain ⟨va, vc, hvA, _⟩ := own_cap hown3
  subst hvA
  refine hK1 _ _ ⟨fun _ => hS3, ?_⟩
  clear hK1 K1 hown3 hgrow3 hat3
  refine wpZ_all (rs := [10]) (by kernel_rfl) (by simp) fun j10 hj10 => ?_
  obtain rfl : j10 = 10 := by simpa using hj10
  refine wpOp_go opsF_10 rfl fun K1 hK1 => ?_
  unfold Oper.wp
  go_simp
  refine hK1 _ _ ⟨fun _ => hS3, ?_⟩
  clear hK1 K1
  refine wpZ_all (rs := [11]) (by kernel_rfl) (by simp) fun j11 hj11 => ?_
  obtain rfl : j11 = 11 := by simpa using hj11
  refine wpOp_go opsF_11 rfl fun K1 hK1 => ?_
  unfold Oper.wp
  go_simp
  have hS4 := HKS.out _ (HB3.out.alloc HB3.out.size (.cells #[.int .u8 (o : Int), .slice va n vc] 67))
  refine hK1 _ _ ⟨fun _ => hS4, ?_⟩
  clear hK1 K1
  refine wpZ_last (by kernel_rfl) (by kernel_rfl) ?_ _
  refine wpOp_go opsF_12 rfl fun K1 hK1 => ?_
  unfold Oper.wp
  go_simp
  refine hK1 _ _ ?_
  exact HQ.out _ _ _ _ _ _ _ _ _ _ _ _ _ _ HO3.out HB3.out
end Go.Proofs.Ythjpoemgoeckbaa
