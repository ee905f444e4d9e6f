/-
  Fork of the document's table.
-/
import Derived.Test.YtbjoljokdjgbnacGF
namespace Go.Proofs.Ytbjoljokdjgbnac
open Go.RowKit Go.Deep Go.MapKept
def ops3 : Array Oper := #[{ dst := some 5, op := Go.Op.move (Go.Operand.tmp 0), type := 24, pos := "ref.go:215", after := #[], guard := none }, { dst := some 6, op := Go.Op.nilCheck (Go.Operand.tmp 5), type := 0, pos := "ref.go:215", after := #[{ on := 0, ground := Go.Ground.data }], guard := none }, { dst := some 7, op := Go.Op.fieldAddr 83 (Go.Operand.tmp 6) 0, type := 0, pos := "ref.go:215", after := #[{ on := 1, ground := Go.Ground.data }], guard := none }, { dst := some 8, op := Go.Op.load 3 (Go.Operand.tmp 7), type := 3, pos := "ref.go:215", after := #[{ on := 2, ground := Go.Ground.data }], guard := none }, { dst := some 9, op := Go.Op.move (Go.Operand.tmp 0), type := 24, pos := "ref.go:215", after := #[], guard := none }, { dst := some 10, op := Go.Op.nilCheck (Go.Operand.tmp 9), type := 0, pos := "ref.go:215", after := #[{ on := 4, ground := Go.Ground.data }], guard := none }, { dst := some 11, op := Go.Op.fieldAddr 83 (Go.Operand.tmp 10) 1, type := 0, pos := "ref.go:215", after := #[{ on := 5, ground := Go.Ground.data }], guard := none }, { dst := some 12, op := Go.Op.load 3 (Go.Operand.tmp 11), type := 3, pos := "ref.go:215", after := #[{ on := 6, ground := Go.Ground.data }], guard := none }, { dst := some 13, op := Go.Op.buildSlice 81 0 #[], type := 81, pos := "ref.go:215", after := #[], guard := none }, { dst := some 14, op := Go.Op.move (Go.Operand.tmp 0), type := 24, pos := "ref.go:215", after := #[], guard := none }, { dst := some 15, op := Go.Op.nilCheck (Go.Operand.tmp 14), type := 0, pos := "ref.go:215", after := #[{ on := 9, ground := Go.Ground.data }], guard := none }, { dst := some 16, op := Go.Op.fieldAddr 83 (Go.Operand.tmp 15) 2, type := 0, pos := "ref.go:215", after := #[{ on := 10, ground := Go.Ground.data }], guard := none }, { dst := some 17, op := Go.Op.load 81 (Go.Operand.tmp 16), type := 81, pos := "ref.go:215", after := #[{ on := 11, ground := Go.Ground.data }], guard := none }, { dst := some 18, op := Go.Op.call { callee := Go.Callee.builtin Go.Builtin.append, args := #[Go.Operand.tmp 13, Go.Operand.tmp 17], argTypes := #[81, 81] }, type := 81, pos := "ref.go:215", after := #[{ on := 8, ground := Go.Ground.data }, { on := 12, ground := Go.Ground.data }], guard := none }, { dst := some 19, op := Go.Op.build 83 #[(0, Go.Operand.tmp 8), (1, Go.Operand.tmp 12), (2, Go.Operand.tmp 18)], type := 83, pos := "ref.go:215", after := #[{ on := 3, ground := Go.Ground.data }, { on := 7, ground := Go.Ground.data }, { on := 13, ground := Go.Ground.data }], guard := none }, { dst := some 20, op := Go.Op.box 83 (Go.Operand.tmp 19), type := 24, pos := "ref.go:215", after := #[{ on := 14, ground := Go.Ground.data }], guard := none }, { dst := some 2, op := Go.Op.assign (Go.Operand.tmp 20), type := 24, pos := "ref.go:215", after := #[{ on := 15, ground := Go.Ground.data }, { on := 13, ground := Go.Ground.chain }, { on := 0, ground := Go.Ground.phase }, { on := 1, ground := Go.Ground.phase }, { on := 2, ground := Go.Ground.phase }, { on := 3, ground := Go.Ground.phase }, { on := 4, ground := Go.Ground.phase }, { on := 5, ground := Go.Ground.phase }, { on := 6, ground := Go.Ground.phase }, { on := 7, ground := Go.Ground.phase }, { on := 8, ground := Go.Ground.phase }, { on := 9, ground := Go.Ground.phase }, { on := 10, ground := Go.Ground.phase }, { on := 11, ground := Go.Ground.phase }, { on := 12, ground := Go.Ground.phase }, { on := 13, ground := Go.Ground.phase }, { on := 14, ground := Go.Ground.phase }, { on := 15, ground := Go.Ground.phase }], guard := none }]
theorem p0 : ops3[0]? = some { dst := some 5, op := Go.Op.move (Go.Operand.tmp 0), type := 24, pos := "ref.go:215", after := #[], guard := none } := by kernel_rfl
theorem p1 : ops3[1]? = some { dst := some 6, op := Go.Op.nilCheck (Go.Operand.tmp 5), type := 0, pos := "ref.go:215", after := #[{ on := 0, ground := Go.Ground.data }], guard := none } := by kernel_rfl
theorem p2 : ops3[2]? = some { dst := some 7, op := Go.Op.fieldAddr 83 (Go.Operand.tmp 6) 0, type := 0, pos := "ref.go:215", after := #[{ on := 1, ground := Go.Ground.data }], guard := none } := by kernel_rfl
theorem p3 : ops3[3]? = some { dst := some 8, op := Go.Op.load 3 (Go.Operand.tmp 7), type := 3, pos := "ref.go:215", after := #[{ on := 2, ground := Go.Ground.data }], guard := none } := by kernel_rfl
theorem p4 : ops3[4]? = some { dst := some 9, op := Go.Op.move (Go.Operand.tmp 0), type := 24, pos := "ref.go:215", after := #[], guard := none } := by kernel_rfl
theorem p5 : ops3[5]? = some { dst := some 10, op := Go.Op.nilCheck (Go.Operand.tmp 9), type := 0, pos := "ref.go:215", after := #[{ on := 4, ground := Go.Ground.data }], guard := none } := by kernel_rfl
theorem p6 : ops3[6]? = some { dst := some 11, op := Go.Op.fieldAddr 83 (Go.Operand.tmp 10) 1, type := 0, pos := "ref.go:215", after := #[{ on := 5, ground := Go.Ground.data }], guard := none } := by kernel_rfl
theorem p7 : ops3[7]? = some { dst := some 12, op := Go.Op.load 3 (Go.Operand.tmp 11), type := 3, pos := "ref.go:215", after := #[{ on := 6, ground := Go.Ground.data }], guard := none } := by kernel_rfl
theorem p8 : ops3[8]? = some { dst := some 13, op := Go.Op.buildSlice 81 0 #[], type := 81, pos := "ref.go:215", after := #[], guard := none } := by kernel_rfl
theorem p9 : ops3[9]? = some { dst := some 14, op := Go.Op.move (Go.Operand.tmp 0), type := 24, pos := "ref.go:215", after := #[], guard := none } := by kernel_rfl
theorem p10 : ops3[10]? = some { dst := some 15, op := Go.Op.nilCheck (Go.Operand.tmp 14), type := 0, pos := "ref.go:215", after := #[{ on := 9, ground := Go.Ground.data }], guard := none } := by kernel_rfl
theorem p11 : ops3[11]? = some { dst := some 16, op := Go.Op.fieldAddr 83 (Go.Operand.tmp 15) 2, type := 0, pos := "ref.go:215", after := #[{ on := 10, ground := Go.Ground.data }], guard := none } := by kernel_rfl
theorem p12 : ops3[12]? = some { dst := some 17, op := Go.Op.load 81 (Go.Operand.tmp 16), type := 81, pos := "ref.go:215", after := #[{ on := 11, ground := Go.Ground.data }], guard := none } := by kernel_rfl
theorem p13 : ops3[13]? = some { dst := some 18, op := Go.Op.call { callee := Go.Callee.builtin Go.Builtin.append, args := #[Go.Operand.tmp 13, Go.Operand.tmp 17], argTypes := #[81, 81] }, type := 81, pos := "ref.go:215", after := #[{ on := 8, ground := Go.Ground.data }, { on := 12, ground := Go.Ground.data }], guard := none } := by kernel_rfl
theorem p14 : ops3[14]? = some { dst := some 19, op := Go.Op.build 83 #[(0, Go.Operand.tmp 8), (1, Go.Operand.tmp 12), (2, Go.Operand.tmp 18)], type := 83, pos := "ref.go:215", after := #[{ on := 3, ground := Go.Ground.data }, { on := 7, ground := Go.Ground.data }, { on := 13, ground := Go.Ground.data }], guard := none } := by kernel_rfl
theorem p15 : ops3[15]? = some { dst := some 20, op := Go.Op.box 83 (Go.Operand.tmp 19), type := 24, pos := "ref.go:215", after := #[{ on := 14, ground := Go.Ground.data }], guard := none } := by kernel_rfl
theorem p16 : ops3[16]? = some { dst := some 2, op := Go.Op.assign (Go.Operand.tmp 20), type := 24, pos := "ref.go:215", after := #[{ on := 15, ground := Go.Ground.data }, { on := 13, ground := Go.Ground.chain }, { on := 0, ground := Go.Ground.phase }, { on := 1, ground := Go.Ground.phase }, { on := 2, ground := Go.Ground.phase }, { on := 3, ground := Go.Ground.phase }, { on := 4, ground := Go.Ground.phase }, { on := 5, ground := Go.Ground.phase }, { on := 6, ground := Go.Ground.phase }, { on := 7, ground := Go.Ground.phase }, { on := 8, ground := Go.Ground.phase }, { on := 9, ground := Go.Ground.phase }, { on := 10, ground := Go.Ground.phase }, { on := 11, ground := Go.Ground.phase }, { on := 12, ground := Go.Ground.phase }, { on := 13, ground := Go.Ground.phase }, { on := 14, ground := Go.Ground.phase }, { on := 15, ground := Go.Ground.phase }], guard := none } := by kernel_rfl
set_option maxRecDepth 100000 in
set_option maxHeartbeats 1500000 in
theorem reg3 {x1 x2 x3 x4 x5 x6 x7 x8 x9 x10 x11 x12 x13 x14 x15 x16 x17 x18 x19 x20 : Value} {Q : Exit → Act → World → Prop} {V0 : World} {rb vc : Nat} {va : Option Addr} {n m : Int} {ps : List (One × Value)}
    (hS0 : V0.drew.cell? ⟨rb, 0, none⟩ = some (.int .i64 n) ∧ V0.drew.cell? ⟨rb, 1, none⟩ = some (.int .i64 m) ∧ V0.drew.cell? ⟨rb, 2, none⟩ = some (.slice va ps.length vc)) (hSv : SeesR V0.drew (.slice va ps.length vc) ps.length (flatO ps)) (h1 : ∀ p ∈ ps, p.2.oneCell' = true) (hl : ps.length ≤ 1000) (hpan : ∀ c (a : Act) w (dd : Tmp) vv, Q (.panic c) (a.put (some dd) vv) w → Q (.panic c) a w)
    (hQ : ∀ (W6 : World) (v t5 t6 t7 t8 t9 t10 t11 t12 t13 t14 t15 t16 t17 t18 t19 t20 : Value), Below V0.drew.heap.size V0.drew W6 → W6.ownsRow V0.drew.heap.size 113 4 v ps.length (flatO ps) → Q .normal { tmps := #[.pointer (some ⟨rb, 0, none⟩), x1, .pointer (some ⟨W6.heap.size, 0, none⟩), x3, x4, t5, t6, t7, t8, t9, t10, t11, t12, t13, t14, t15, t16, t17, t18, t19, t20], defers := [] } (W6.alloc (.cells #[.int .i64 n, .int .i64 m, v] 83))) :
    (Code.region 3 ops3 true).wp Try.prog Q { tmps := #[.pointer (some ⟨rb, 0, none⟩), x1, x2, x3, x4, x5, x6, x7, x8, x9, x10, x11, x12, x13, x14, x15, x16, x17, x18, x19, x20], defers := [] } V0 := by
  refine wp_region_Z (fun y => y.cell? ⟨rb, 0, none⟩ = some (.int .i64 n) ∧ y.cell? ⟨rb, 1, none⟩ = some (.int .i64 m) ∧ y.cell? ⟨rb, 2, none⟩ = some (.slice va ps.length vc)) 16 Try.mixed ?_
  obtain ⟨V, hV⟩ : ∃ V, V0.drew = V := ⟨_, rfl⟩
  rw [hV] at hS0 hSv hQ ⊢
  clear hV
  have HSv := hidI hSv
  have H1 := hidI h1
  have HQ := hidI hQ
  have HPan := hidI hpan
  clear hSv h1 hQ hpan
  refine wpZ_take [1, 2, 3, 14, 15, 16] (i := 0) (v := (.pointer (some ⟨rb, 0, none⟩))) p0 (by kernel_rfl) (by kernel_rfl) (by kernel_rfl) (by kernel_rfl) (fun c a w h => HPan.out c a w _ _ h) (.inl ⟨by rfl, fun y hy => ?_⟩) hS0 ?_
  · go_simp
  refine wpZ_take [2, 3, 14, 15, 16] (i := 1) (v := (.pointer (some ⟨rb, 0, none⟩))) p1 (by kernel_rfl) (by kernel_rfl) (by kernel_rfl) (by kernel_rfl) (fun c a w h => HPan.out c a w _ _ h) (.inl ⟨by rfl, fun y hy => ?_⟩) hS0 ?_
  · go_simp
  refine wpZ_take [3, 14, 15, 16] (i := 2) (v := (.pointer (some ⟨rb, 0, none⟩))) p2 (by kernel_rfl) (by kernel_rfl) (by kernel_rfl) (by kernel_rfl) (fun c a w h => HPan.out c a w _ _ h) (.inl ⟨by rfl, fun y hy => ?_⟩) hS0 ?_
  · go_simp
  refine wpZ_take [14, 15, 16] (i := 3) (v := (.int .i64 n)) p3 (by kernel_rfl) (by kernel_rfl) (by kernel_rfl) (by kernel_rfl) (fun c a w h => HPan.out c a w _ _ h) (.inl ⟨by rfl, fun y hy => ?_⟩) hS0 ?_
  · obtain ⟨y0, y1, y2⟩ := hy; go_simp
  refine wpZ_take [5, 6, 7, 14, 15, 16] (i := 4) (v := (.pointer (some ⟨rb, 0, none⟩))) p4 (by kernel_rfl) (by kernel_rfl) (by kernel_rfl) (by kernel_rfl) (fun c a w h => HPan.out c a w _ _ h) (.inl ⟨by rfl, fun y hy => ?_⟩) hS0 ?_
  · go_simp
  refine wpZ_take [6, 7, 14, 15, 16] (i := 5) (v := (.pointer (some ⟨rb, 0, none⟩))) p5 (by kernel_rfl) (by kernel_rfl) (by kernel_rfl) (by kernel_rfl) (fun c a w h => HPan.out c a w _ _ h) (.inl ⟨by rfl, fun y hy => ?_⟩) hS0 ?_
  · go_simp
  refine wpZ_take [7, 14, 15, 16] (i := 6) (v := (.pointer (some ⟨rb, 1, none⟩))) p6 (by kernel_rfl) (by kernel_rfl) (by kernel_rfl) (by kernel_rfl) (fun c a w h => HPan.out c a w _ _ h) (.inl ⟨by rfl, fun y hy => ?_⟩) hS0 ?_
  · go_simp
  refine wpZ_take [14, 15, 16] (i := 7) (v := (.int .i64 m)) p7 (by kernel_rfl) (by kernel_rfl) (by kernel_rfl) (by kernel_rfl) (fun c a w h => HPan.out c a w _ _ h) (.inl ⟨by rfl, fun y hy => ?_⟩) hS0 ?_
  · obtain ⟨y0, y1, y2⟩ := hy; go_simp
  refine wpZ_take [10, 11, 12, 13, 14, 15, 16] (i := 9) (v := (.pointer (some ⟨rb, 0, none⟩))) p9 (by kernel_rfl) (by kernel_rfl) (by kernel_rfl) (by kernel_rfl) (fun c a w h => HPan.out c a w _ _ h) (.inl ⟨by rfl, fun y hy => ?_⟩) hS0 ?_
  · go_simp
  refine wpZ_take [11, 12, 13, 14, 15, 16] (i := 10) (v := (.pointer (some ⟨rb, 0, none⟩))) p10 (by kernel_rfl) (by kernel_rfl) (by kernel_rfl) (by kernel_rfl) (fun c a w h => HPan.out c a w _ _ h) (.inl ⟨by rfl, fun y hy => ?_⟩) hS0 ?_
  · go_simp
  refine wpZ_take [12, 13, 14, 15, 16] (i := 11) (v := (.pointer (some ⟨rb, 2, none⟩))) p11 (by kernel_rfl) (by kernel_rfl) (by kernel_rfl) (by kernel_rfl) (fun c a w h => HPan.out c a w _ _ h) (.inl ⟨by rfl, fun y hy => ?_⟩) hS0 ?_
  · go_simp
  refine wpZ_take [13, 14, 15, 16] (i := 12) (v := (.slice va ps.length vc)) p12 (by kernel_rfl) (by kernel_rfl) (by kernel_rfl) (by kernel_rfl) (fun c a w h => HPan.out c a w _ _ h) (.inl ⟨by rfl, fun y hy => ?_⟩) hS0 ?_
  · obtain ⟨y0, y1, y2⟩ := hy; go_simp
  have HKS : Hid (∀ y : World, Below V.heap.size V y → y.cell? ⟨rb, 0, none⟩ = some (.int .i64 n) ∧ y.cell? ⟨rb, 1, none⟩ = some (.int .i64 m) ∧ y.cell? ⟨rb, 2, none⟩ = some (.slice va ps.length vc)) := hidI fun y hy => by
    have z : ∀ {p : Addr} {v : Value}, V.cell? p = some v → y.cell? p = some v := fun {p v} hc => (hy.cell (World.block_lt_of_cell? V _ hc)).trans hc
    exact ⟨z hS0.1, z hS0.2.1, z hS0.2.2⟩
  have HOI : Hid ((V.alloc (Obj.cells #[] 113)).ownsRow V.heap.size 113 4 (.slice (some ⟨V.heap.size, 0, none⟩) 0 0) 0 []) := hidI (World.ownsRow_made (base := V.heap.size) (e := 113) (size := 4) V #[] 0 (Nat.le_refl _) (by unfold maxLen; omega) rfl)
  have HSA := hidI (HSv.out.grown (World.grownBy_alloc V (Obj.cells #[] 113) none) (Classical.em _))
  refine wpZ_all (rs := [8]) (by kernel_rfl) (by simp) fun j8 hj8 => ?_
  obtain rfl : j8 = 8 := by simpa using hj8
  refine wpOp_go p8 rfl fun K1 hK1 => ?_
  unfold Oper.wp
  go_simp
  refine hK1 _ _ ⟨fun _ => HKS.out _ (by (repeat (first | exact Below.refl _ _ | assumption | refine Below.drew ?_ | refine Below.alloc ?_ (by first | omega | (simp; done) | (simp; omega)) _))), ?_⟩
  clear hK1 K1
  refine wpZ_all (rs := [13]) (by kernel_rfl) (by simp) fun j13 hj13 => ?_
  obtain rfl : j13 = 13 := by simpa using hj13
  refine wpOp_go p13 rfl fun K1 hK1 => ?_
  refine wp_append_ones _ _ rfl V.heap.size (.slice (some ⟨V.heap.size, 0, none⟩) 0 0) 0 [] rfl HOI.out (.slice va ps.length vc) ps rfl HSA.out H1.out (by omega) (by simp only [World.size_alloc]; omega) ?_
  intro v18 W3 hown3 hgrow3 hat3
  rw [Nat.zero_add, List.nil_append] at hown3
  have HB3 : Hid (Below V.heap.size V W3) := hidI (Below.grown (w := V.alloc (Obj.cells #[] 113)) (by (repeat (first | exact Below.refl _ _ | assumption | refine Below.drew ?_ | refine Below.alloc ?_ (by first | omega | (simp; done) | (simp; omega)) _))) hgrow3 (by simp only [World.size_alloc]; omega) (fun k hk => (HOI.out.lt k hk).1))
  have HO3 := hidI hown3
  refine hK1 _ _ ⟨fun _ => HKS.out _ HB3.out, ?_⟩
  clear hK1 K1 hown3 hgrow3 hat3
  obtain ⟨a6, l6, c6, hv6⟩ : ∃ a6 l6 c6, v18 = .slice a6 l6 c6 := by
    obtain ⟨a6, c6, h6, _⟩ := (seesR_of_owns HO3.out).1
    exact ⟨_, _, _, h6⟩
  subst hv6
  have hS3 := HKS.out _ HB3.out
  refine wpZ_take [15, 16] (i := 14) (v := (.agg #[.int .i64 n, .int .i64 m, .slice a6 l6 c6])) p14 (by kernel_rfl) (by kernel_rfl) (by kernel_rfl) (by kernel_rfl) (fun c a w h => HPan.out c a w _ _ h) (.inl ⟨by rfl, fun y hy => ?_⟩) hS3 ?_
  · go_simp
  refine wpZ_all (rs := [15]) (by kernel_rfl) (by simp) fun j15 hj15 => ?_
  obtain rfl : j15 = 15 := by simpa using hj15
  refine wpOp_go p15 rfl fun K1 hK1 => ?_
  unfold Oper.wp
  go_simp
  refine hK1 _ _ ⟨fun _ => HKS.out _ (HB3.out.alloc HB3.out.size _), ?_⟩
  clear hK1 K1
  refine wpZ_last (by kernel_rfl) (by kernel_rfl) ?_ _
  refine wpOp_go p16 rfl fun K1 hK1 => ?_
  unfold Oper.wp
  go_simp
  refine hK1 _ _ ?_
  exact HQ.out _ _ _ _ _ _ _ _ _ _ _ _ _ _ _ _ _ _ HB3.out HO3.out

set_option maxRecDepth 100000 in
theorem rfork_any (N : Nat → Prop) (rb : Nat) (n m : Int) (os : List One) (w : World) (h : Book w N rb n m os) (hl : os.length ≤ 1000) :
    Calls Try.prog 10 #[.pointer (some ⟨rb, 0, none⟩)] w fun e w' => ∃ qb, e = .returned (.pointer (some ⟨qb, 0, none⟩)) ∧ Book w' N qb n m os ∧ Below w.heap.size w w' ∧ w.heap.size ≤ qb := by
  have H := hidI h
  obtain ⟨hN, hr, c0, c1, hz, v, ps, c2, rfl, hS, hF, hP⟩ := h
  rw [List.length_map] at hl
  have H1 := hidI (fun p hp => sees_cell (hP p hp).1)
  have HP := hidI hP
  have HN := hidI hN
  have HS := hidI hS
  obtain ⟨va, vc, rfl, _⟩ := hS
  clear hN hP hF hz hr
  go_enter Try.func10, Try.ntmps10
  go_wp2
  refine reg3 (V0 := w) ⟨c0, c1, c2⟩ (HS.out.grown (below_grown ((Below.refl _ w).drew) (Nat.le_refl _) none) (Classical.em _)) H1.out hl (fun _ _ _ _ _ h => h) ?_
  intro W6 v t5 t6 t7 t8 t9 t10 t11 t12 t13 t14 t15 t16 t17 t18 t19 t20 hB6 hO6
  have HB6 : Hid (Below w.heap.size w W6) := hidI (((Below.refl _ w).drew).trans hB6)
  have HO6 := hidI hO6
  clear hB6 hO6
  go_wp2
  go_ret
  have hs6 := HB6.out.size
  have hbA : Below w.heap.size w (W6.alloc (.cells #[.int .i64 n, .int .i64 m, v] 83)) := HB6.out.alloc hs6 _
  have hg : w.grownBy (W6.alloc (.cells #[.int .i64 n, .int .i64 m, v] 83)) none := below_grown hbA (Nat.le_refl _) none
  have hsA := hg.size
  obtain ⟨hSv, hlt⟩ := seesR_of_owns HO6.out
  have hNw := HN.out
  refine ⟨W6.heap.size, rfl, ⟨fun k hk => Nat.lt_of_lt_of_le (hNw k hk) hsA, fun hk => ?_, by go_simp, by go_simp, ?_, v, ps, by go_simp, rfl, hSv.grown (World.grownBy_alloc W6 _ none) (Classical.em _), fun b hb => ?_, fun p hp => ⟨(HP.out p hp).1.grown hg (Classical.em _), fun b hb => ?_⟩⟩, hbA, hs6⟩
  · have := hNw _ hk; omega
  · unfold World.frozen?; rw [World.alloc_heap_new]; rfl
  · have := hlt b hb
    refine ⟨fun hk => ?_, by omega, by simp only [World.size_alloc]; omega⟩
    have h2 := hNw b hk
    have h3 : w.drew.heap.size = w.heap.size := rfl
    omega
  · obtain ⟨q1, _, q3⟩ := (HP.out p hp).2 b hb
    exact ⟨q1, by omega, by simp only [World.size_alloc]; omega⟩
end Go.Proofs.Ytbjoljokdjgbnac
