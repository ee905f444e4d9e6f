/-
  Names, and one more among them, put together in whatever order.
-/
import Derived.Test.YtffdgjlojechaaaReg12
import Derived.Test.YtffdgjlojechaaaCutC
namespace Go.Proofs.Ytffdgjlojechaaa
open Go.RowKit Go.Deep Go.MapKept
theorem strC_seen {W : World} (s : ByteArray) : SeesC (W.alloc (.cells #[.string s] 9)) (.slice (some ⟨W.heap.size, 0, none⟩) 1 1) 1 1 [.string s] := by
  refine ⟨rfl, _, 1, rfl, .inr ⟨W.heap.size, 0, rfl, fun j c hc => ?_⟩⟩
  have hj := (List.getElem?_eq_some_iff.1 hc).1
  obtain rfl : j = 0 := by simpa using hj
  obtain rfl : Value.string s = c := by simpa using hc
  go_simp
def opsW : Array Oper := #[{ dst := some 33, op := Go.Op.buildSlice 29 0 #[], type := 29, pos := "ref.go:45", after := #[], guard := none }, { dst := some 34, op := Go.Op.move (Go.Operand.tmp 0), type := 29, pos := "ref.go:45", after := #[], guard := none }, { dst := some 35, op := Go.Op.move (Go.Operand.tmp 5), type := 3, pos := "ref.go:45", after := #[], guard := none }, { dst := some 36, op := Go.Op.slice 29 (Go.Operand.tmp 34) none (some (Go.Operand.tmp 35)) none, type := 29, pos := "ref.go:45", after := #[{ on := 1, ground := Go.Ground.data }, { on := 2, ground := Go.Ground.data }], guard := none }, { dst := some 37, op := Go.Op.call { callee := Go.Callee.builtin Go.Builtin.append, args := #[Go.Operand.tmp 33, Go.Operand.tmp 36], argTypes := #[29, 29] }, type := 29, pos := "ref.go:45", after := #[{ on := 0, ground := Go.Ground.data }, { on := 3, ground := Go.Ground.data }], guard := none }, { dst := some 38, op := Go.Op.move (Go.Operand.tmp 1), type := 9, pos := "ref.go:45", after := #[], guard := none }, { dst := some 39, op := Go.Op.buildSlice 29 1 #[(0, Go.Operand.tmp 38)], type := 29, pos := "ref.go:45", after := #[{ on := 5, ground := Go.Ground.data }], guard := none }, { dst := some 40, op := Go.Op.call { callee := Go.Callee.builtin Go.Builtin.append, args := #[Go.Operand.tmp 37, Go.Operand.tmp 39], argTypes := #[29, 29] }, type := 29, pos := "ref.go:45", after := #[{ on := 4, ground := Go.Ground.data }, { on := 6, ground := Go.Ground.data }, { on := 4, ground := Go.Ground.chain }], guard := none }, { dst := some 41, op := Go.Op.move (Go.Operand.tmp 0), type := 29, pos := "ref.go:45", after := #[], guard := none }, { dst := some 42, op := Go.Op.move (Go.Operand.tmp 5), type := 3, pos := "ref.go:45", after := #[], guard := none }, { dst := some 43, op := Go.Op.slice 29 (Go.Operand.tmp 41) (some (Go.Operand.tmp 42)) none none, type := 29, pos := "ref.go:45", after := #[{ on := 8, ground := Go.Ground.data }, { on := 9, ground := Go.Ground.data }], guard := none }, { dst := some 44, op := Go.Op.call { callee := Go.Callee.builtin Go.Builtin.append, args := #[Go.Operand.tmp 40, Go.Operand.tmp 43], argTypes := #[29, 29] }, type := 29, pos := "ref.go:45", after := #[{ on := 7, ground := Go.Ground.data }, { on := 10, ground := Go.Ground.data }, { on := 7, ground := Go.Ground.chain }], guard := none }, { dst := some 4, op := Go.Op.assign (Go.Operand.tmp 44), type := 29, pos := "ref.go:45", after := #[{ on := 11, ground := Go.Ground.data }, { on := 11, ground := Go.Ground.chain }, { on := 0, ground := Go.Ground.phase }, { on := 1, ground := Go.Ground.phase }, { on := 2, ground := Go.Ground.phase }, { on := 3, ground := Go.Ground.phase }, { on := 4, ground := Go.Ground.phase }, { on := 5, ground := Go.Ground.phase }, { on := 6, ground := Go.Ground.phase }, { on := 7, ground := Go.Ground.phase }, { on := 8, ground := Go.Ground.phase }, { on := 9, ground := Go.Ground.phase }, { on := 10, ground := Go.Ground.phase }, { on := 11, ground := Go.Ground.phase }], guard := none }]
theorem opsW_0 : opsW[0]? = some { dst := some 33, op := Go.Op.buildSlice 29 0 #[], type := 29, pos := "ref.go:45", after := #[], guard := none } := by kernel_rfl
theorem opsW_1 : opsW[1]? = some { dst := some 34, op := Go.Op.move (Go.Operand.tmp 0), type := 29, pos := "ref.go:45", after := #[], guard := none } := by kernel_rfl
theorem opsW_2 : opsW[2]? = some { dst := some 35, op := Go.Op.move (Go.Operand.tmp 5), type := 3, pos := "ref.go:45", after := #[], guard := none } := by kernel_rfl
theorem opsW_3 : opsW[3]? = some { dst := some 36, op := Go.Op.slice 29 (Go.Operand.tmp 34) none (some (Go.Operand.tmp 35)) none, type := 29, pos := "ref.go:45", after := #[{ on := 1, ground := Go.Ground.data }, { on := 2, ground := Go.Ground.data }], guard := none } := by kernel_rfl
theorem opsW_4 : opsW[4]? = some { dst := some 37, op := Go.Op.call { callee := Go.Callee.builtin Go.Builtin.append, args := #[Go.Operand.tmp 33, Go.Operand.tmp 36], argTypes := #[29, 29] }, type := 29, pos := "ref.go:45", after := #[{ on := 0, ground := Go.Ground.data }, { on := 3, ground := Go.Ground.data }], guard := none } := by kernel_rfl
theorem opsW_5 : opsW[5]? = some { dst := some 38, op := Go.Op.move (Go.Operand.tmp 1), type := 9, pos := "ref.go:45", after := #[], guard := none } := by kernel_rfl
theorem opsW_6 : opsW[6]? = some { dst := some 39, op := Go.Op.buildSlice 29 1 #[(0, Go.Operand.tmp 38)], type := 29, pos := "ref.go:45", after := #[{ on := 5, ground := Go.Ground.data }], guard := none } := by kernel_rfl
theorem opsW_7 : opsW[7]? = some { dst := some 40, op := Go.Op.call { callee := Go.Callee.builtin Go.Builtin.append, args := #[Go.Operand.tmp 37, Go.Operand.tmp 39], argTypes := #[29, 29] }, type := 29, pos := "ref.go:45", after := #[{ on := 4, ground := Go.Ground.data }, { on := 6, ground := Go.Ground.data }, { on := 4, ground := Go.Ground.chain }], guard := none } := by kernel_rfl
theorem opsW_8 : opsW[8]? = some { dst := some 41, op := Go.Op.move (Go.Operand.tmp 0), type := 29, pos := "ref.go:45", after := #[], guard := none } := by kernel_rfl
theorem opsW_9 : opsW[9]? = some { dst := some 42, op := Go.Op.move (Go.Operand.tmp 5), type := 3, pos := "ref.go:45", after := #[], guard := none } := by kernel_rfl
theorem opsW_10 : opsW[10]? = some { dst := some 43, op := Go.Op.slice 29 (Go.Operand.tmp 41) (some (Go.Operand.tmp 42)) none none, type := 29, pos := "ref.go:45", after := #[{ on := 8, ground := Go.Ground.data }, { on := 9, ground := Go.Ground.data }], guard := none } := by kernel_rfl
theorem opsW_11 : opsW[11]? = some { dst := some 44, op := Go.Op.call { callee := Go.Callee.builtin Go.Builtin.append, args := #[Go.Operand.tmp 40, Go.Operand.tmp 43], argTypes := #[29, 29] }, type := 29, pos := "ref.go:45", after := #[{ on := 7, ground := Go.Ground.data }, { on := 10, ground := Go.Ground.data }, { on := 7, ground := Go.Ground.chain }], guard := none } := by kernel_rfl
theorem opsW_12 : opsW[12]? = some { dst := some 4, op := Go.Op.assign (Go.Operand.tmp 44), type := 29, pos := "ref.go:45", after := #[{ on := 11, ground := Go.Ground.data }, { on := 11, ground := Go.Ground.chain }, { on := 0, ground := Go.Ground.phase }, { on := 1, ground := Go.Ground.phase }, { on := 2, ground := Go.Ground.phase }, { on := 3, ground := Go.Ground.phase }, { on := 4, ground := Go.Ground.phase }, { on := 5, ground := Go.Ground.phase }, { on := 6, ground := Go.Ground.phase }, { on := 7, ground := Go.Ground.phase }, { on := 8, ground := Go.Ground.phase }, { on := 9, ground := Go.Ground.phase }, { on := 10, ground := Go.Ground.phase }, { on := 11, ground := Go.Ground.phase }], guard := none } := by kernel_rfl
set_option maxRecDepth 100000 in
set_option maxHeartbeats 1500000 in
theorem regW {x2 x3 x4 x6 x7 x8 x9 x10 x11 x12 x13 x14 x15 x16 x17 x18 x19 x20 x21 x22 x23 x24 x25 x26 x27 x28 x29 x30 x31 x32 x33 x34 x35 x36 x37 x38 x39 x40 x41 x42 x43 x44 : Value} {Q : Exit → Act → World → Prop} {V0 : World} {a : Option Addr} {n cap i : Nat} {s : ByteArray} {cs : List Value}
    (hS0 : True) (hin : i ≤ n) (hnc : n ≤ cap) (hl : SeesC V0.drew (.slice a n cap) n 1 cs) (h1 : ∀ c ∈ cs, c.oneCell' = true) (hr : n ≤ 1000) (hpan : ∀ c (a : Act) w (dd : Tmp) vv, Q (.panic c) (a.put (some dd) vv) w → Q (.panic c) a w)
    (hQ : ∀ (W : World) (v9 t33 t34 t35 t36 t37 t38 t39 t40 t41 t42 t43 t44 : Value), Below V0.drew.heap.size V0.drew W → W.ownsRow V0.drew.heap.size 9 1 v9 ((i) + 1 + (n - i)) (cs.take (i * 1) ++ [.string s] ++ cs.drop (i * 1)) → Q .normal { tmps := #[.slice a n cap, .string s, x2, x3, v9, .int .i64 i, x6, x7, x8, x9, x10, x11, x12, x13, x14, x15, x16, x17, x18, x19, x20, x21, x22, x23, x24, x25, x26, x27, x28, x29, x30, x31, x32, t33, t34, t35, t36, t37, t38, t39, t40, t41, t42, t43, t44], defers := [] } W) :
    (Code.region 6 opsW true).wp Try.prog Q { tmps := #[.slice a n cap, .string s, x2, x3, x4, .int .i64 i, x6, x7, x8, x9, x10, x11, x12, x13, x14, x15, x16, x17, x18, x19, x20, x21, x22, x23, x24, x25, x26, x27, x28, x29, x30, x31, x32, x33, x34, x35, x36, x37, x38, x39, x40, x41, x42, x43, x44], defers := [] } V0 := by
  refine wp_region_Z (fun y => True) 12 Try.mixed ?_
  obtain ⟨V, hV⟩ : ∃ V, V0.drew = V := ⟨_, rfl⟩
  rw [hV] at hl hQ ⊢
  clear hV
  have HQ := hidI hQ
  have HPan := hidI hpan
  clear hQ hpan
  obtain ⟨v43, s43⟩ : ∃ v43, Value.slice (if cap = i then a else a.map fun x => x.add (i * 1)) (n - i) (cap - i) = v43 := ⟨_, rfl⟩
  have HV43 := hidI s43
  have hlo := cut_low hl i hin
  have hhi := cut_high hl hnc i hin
  rw [s43] at hhi
  have HLO : Hid (∀ y : World, Below V.heap.size V y → SeesC y (.slice a i cap) i 1 (cs.take (i * 1))) := hidI fun y hy => hlo.below hy (Nat.le_refl _)
  have HHI : Hid (∀ y : World, Below V.heap.size V y → SeesC y v43 (n - i) 1 (cs.drop (i * 1))) := hidI fun y hy => hhi.below hy (Nat.le_refl _)
  have H1T : Hid (∀ c ∈ cs.take (i * 1), c.oneCell' = true) := hidI fun c hc => h1 c (List.mem_of_mem_take hc)
  have H1D : Hid (∀ c ∈ cs.drop (i * 1), c.oneCell' = true) := hidI fun c hc => h1 c (List.mem_of_mem_drop hc)
  have kin : (i : Int) ≤ (n : Int) := by omega
  have kic : (i : Int) ≤ (cap : Int) := by omega
  have kic' : i ≤ cap := by omega
  clear hl h1 hlo hhi s43
  refine wpZ_take [12] (i := 1) (v := (.slice a n cap)) opsW_1 (by kernel_rfl) (by kernel_rfl) (by kernel_rfl) (by kernel_rfl) (fun c a w h => HPan.out c a w _ _ h) (.inl ⟨by rfl, fun y hy => ?_⟩) hS0 ?_
  · go_simp
  refine wpZ_take [12] (i := 2) (v := (.int .i64 i)) opsW_2 (by kernel_rfl) (by kernel_rfl) (by kernel_rfl) (by kernel_rfl) (fun c a w h => HPan.out c a w _ _ h) (.inl ⟨by rfl, fun y hy => ?_⟩) hS0 ?_
  · go_simp
  refine wpZ_take [12] (i := 3) (v := (.slice a i cap)) opsW_3 (by kernel_rfl) (by kernel_rfl) (by kernel_rfl) (by kernel_rfl) (fun c a w h => HPan.out c a w _ _ h) (.inl ⟨by rfl, fun y hy => ?_⟩) hS0 ?_
  · go_simp
  refine wpZ_take [12] (i := 5) (v := (.string s)) opsW_5 (by kernel_rfl) (by kernel_rfl) (by kernel_rfl) (by kernel_rfl) (fun c a w h => HPan.out c a w _ _ h) (.inl ⟨by rfl, fun y hy => ?_⟩) hS0 ?_
  · go_simp
  refine wpZ_take [12] (i := 8) (v := (.slice a n cap)) opsW_8 (by kernel_rfl) (by kernel_rfl) (by kernel_rfl) (by kernel_rfl) (fun c a w h => HPan.out c a w _ _ h) (.inl ⟨by rfl, fun y hy => ?_⟩) hS0 ?_
  · go_simp
  refine wpZ_take [12] (i := 9) (v := (.int .i64 i)) opsW_9 (by kernel_rfl) (by kernel_rfl) (by kernel_rfl) (by kernel_rfl) (fun c a w h => HPan.out c a w _ _ h) (.inl ⟨by rfl, fun y hy => ?_⟩) hS0 ?_
  · go_simp
  refine wpZ_take [12] (i := 10) (v := v43) opsW_10 (by kernel_rfl) (by kernel_rfl) (by kernel_rfl) (by kernel_rfl) (fun c a w h => HPan.out c a w _ _ h) (.inl ⟨by rfl, fun y hy => ?_⟩) hS0 ?_
  · have s43 := HV43.out; go_simp; first | done | (simp only [*]; done) | (rw [← s43]; simp; done) | exact congrArg (fun z => Result.ok (Next.value z) y) s43
  have HKS : Hid (∀ y : World, Below V.heap.size V y → True) := hidI fun _ _ => trivial
  have HOI : Hid (((V.alloc (Obj.cells #[] 9)).alloc (Obj.cells #[.string s] 9)).ownsRow V.heap.size 9 1 (.slice (some ⟨V.heap.size, 0, none⟩) 0 0) 0 []) := hidI ((World.ownsRow_made (base := V.heap.size) (e := 9) (size := 1) V #[] 0 (Nat.le_refl _) (by unfold maxLen; omega) rfl).alloc _)
  have HOII : Hid ((V.alloc (Obj.cells #[] 9)).ownsRow V.heap.size 9 1 (.slice (some ⟨V.heap.size, 0, none⟩) 0 0) 0 []) := hidI (World.ownsRow_made (base := V.heap.size) (e := 9) (size := 1) V #[] 0 (Nat.le_refl _) (by unfold maxLen; omega) rfl)
  have HOIII : Hid (((V.alloc (Obj.cells #[.string s] 9)).alloc (Obj.cells #[] 9)).ownsRow V.heap.size 9 1 (.slice (some ⟨V.heap.size + 1, 0, none⟩) 0 0) 0 []) := hidI (by
    have := World.ownsRow_made (base := V.heap.size) (e := 9) (size := 1) (V.alloc (Obj.cells #[.string s] 9)) #[] 0 (by simp) (by unfold maxLen; omega) rfl
    rwa [World.size_alloc] at this)
  refine wpZ_all (rs := [0, 6]) (by kernel_rfl) (by simp) fun j0 hj0 => ?_
  have hj01 : j0 = 0 ∨ j0 = 6 := by simp only [List.mem_cons, List.mem_nil_iff, or_false] at hj0; omega
  clear hj0
  rcases hj01 with rfl | rfl
  · refine wpOp_go opsW_0 rfl fun K1 hK1 => ?_
    unfold Oper.wp
    go_simp
    refine hK1 _ _ ⟨fun _ => HKS.out _ (by (repeat (first | exact Below.refl _ _ | assumption | refine Below.drew ?_ | refine Below.alloc ?_ (by first | omega | (simp; done) | (simp; omega)) _ | refine Below.setCell ?_ (by first | omega | (simp; done) | (simp; omega)) _))), ?_⟩
    clear hK1 K1
    refine wpZ_all (rs := [4, 6]) (by kernel_rfl) (by simp) fun j1 hj1 => ?_
    have hj12 : j1 = 6 ∨ j1 = 4 := by simp only [List.mem_cons, List.mem_nil_iff, or_false] at hj1; omega
    clear hj1
    rcases hj12 with rfl | rfl
    · refine wpOp_go opsW_6 rfl fun K1 hK1 => ?_
      unfold Oper.wp
      go_simp
      refine hK1 _ _ ⟨fun _ => HKS.out _ (by (repeat (first | exact Below.refl _ _ | assumption | refine Below.drew ?_ | refine Below.alloc ?_ (by first | omega | (simp; done) | (simp; omega)) _ | refine Below.setCell ?_ (by first | omega | (simp; done) | (simp; omega)) _))), ?_⟩
      clear hK1 K1
      refine wpZ_all (rs := [4]) (by kernel_rfl) (by simp) fun j4 hj4 => ?_
      obtain rfl : j4 = 4 := by simpa using hj4
      refine wpOp_go opsW_4 rfl fun K1 hK1 => ?_
      refine wp_append_any Try.underlying29 Try.info9 rfl (by decide) (by decide) _ _ rfl V.heap.size (.slice (some ⟨V.heap.size, 0, none⟩) 0 0) 0 [] rfl HOI.out (.slice a i cap) (i) (cs.take (i * 1)) rfl (HLO.out _ (by (repeat (first | exact Below.refl _ _ | assumption | refine Below.drew ?_ | refine Below.alloc ?_ (by first | omega | (simp; done) | (simp; omega)) _ | refine Below.setCell ?_ (by first | omega | (simp; done) | (simp; omega)) _)))) H1T.out (by omega) (by simp only [World.size_alloc]; omega) ?_
      intro vA W3 hown3 hgrow3 hat3
      rw [Nat.zero_add, List.nil_append] at hown3
      have hB3 : Below V.heap.size V W3 := Below.grown (w := (V.alloc (Obj.cells #[] 9)).alloc (Obj.cells #[.string s] 9)) (by (repeat (first | exact Below.refl _ _ | assumption | refine Below.drew ?_ | refine Below.alloc ?_ (by first | omega | (simp; done) | (simp; omega)) _ | refine Below.setCell ?_ (by first | omega | (simp; done) | (simp; omega)) _))) hgrow3 (by simp only [World.size_alloc]; omega) (fun k hk => ((HOI.out).lt k hk).1)
      have HOA : Hid (W3.ownsRow V.heap.size 9 1 vA (i) (cs.take (i * 1))) := hidI hown3
      have HSX : Hid (SeesC W3 (.slice (some ⟨V.heap.size + 1, 0, none⟩) 1 1) 1 1 ([.string s])) := hidI (SeesC.grown (by have := strC_seen (W := V.alloc (Obj.cells #[] 9)) s; rwa [World.size_alloc] at this) hgrow3 (by simp [Value.ownBlock]))
      have HBF := hidI hB3
      refine hK1 _ _ ⟨fun _ => HKS.out _ HBF.out, ?_⟩
      clear hK1 K1 hown3 hgrow3 hat3 hB3
      refine wpZ_all (rs := [7]) (by kernel_rfl) (by simp) fun j7 hj7 => ?_
      obtain rfl : j7 = 7 := by simpa using hj7
      refine wpOp_go opsW_7 rfl fun K1 hK1 => ?_
      refine wp_append_any Try.underlying29 Try.info9 rfl (by decide) (by decide) _ _ rfl V.heap.size vA (i) (cs.take (i * 1)) rfl HOA.out _ 1 ([.string s]) rfl HSX.out (by simp [Value.oneCell']) (by omega) HBF.out.size ?_
      intro vB W5 hown5 hgrow5 hat5
      have HB5 : Hid (Below V.heap.size V W5) := hidI (HBF.out.grown hgrow5 HBF.out.size (fun k hk => (HOA.out.lt k hk).1))
      have HOB := hidI hown5
      refine hK1 _ _ ⟨fun _ => HKS.out _ HB5.out, ?_⟩
      clear hK1 K1 hown5 hgrow5 hat5 HOA HSX HBF
      refine wpZ_all (rs := [11]) (by kernel_rfl) (by simp) fun j11 hj11 => ?_
      obtain rfl : j11 = 11 := by simpa using hj11
      refine wpOp_go opsW_11 rfl fun K1 hK1 => ?_
      refine wp_append_any Try.underlying29 Try.info9 rfl (by decide) (by decide) _ _ rfl V.heap.size vB ((i) + 1) _ rfl HOB.out (v43) (n - i) (cs.drop (i * 1)) rfl (HHI.out _ HB5.out) H1D.out (by omega) HB5.out.size ?_
      intro vC W6 hown6 hgrow6 hat6
      have HB6 : Hid (Below V.heap.size V W6) := hidI (HB5.out.grown hgrow6 HB5.out.size (fun k hk => (HOB.out.lt k hk).1))
      have HOC := hidI hown6
      refine hK1 _ _ ⟨fun _ => HKS.out _ HB6.out, ?_⟩
      clear hK1 K1 hown6 hgrow6 hat6 HOB HB5
      refine wpZ_last (by kernel_rfl) (by kernel_rfl) ?_ _
      refine wpOp_go opsW_12 rfl fun K1 hK1 => ?_
      unfold Oper.wp
      go_simp
      refine hK1 _ _ ?_
      exact HQ.out _ _ _ _ _ _ _ _ _ _ _ _ _ _ HB6.out HOC.out
    · refine wpOp_go opsW_4 rfl fun K1 hK1 => ?_
      refine wp_append_any Try.underlying29 Try.info9 rfl (by decide) (by decide) _ _ rfl V.heap.size (.slice (some ⟨V.heap.size, 0, none⟩) 0 0) 0 [] rfl HOII.out (.slice a i cap) (i) (cs.take (i * 1)) rfl (HLO.out _ (by (repeat (first | exact Below.refl _ _ | assumption | refine Below.drew ?_ | refine Below.alloc ?_ (by first | omega | (simp; done) | (simp; omega)) _ | refine Below.setCell ?_ (by first | omega | (simp; done) | (simp; omega)) _)))) H1T.out (by omega) (by simp only [World.size_alloc]; omega) ?_
      intro vA W3 hown3 hgrow3 hat3
      rw [Nat.zero_add, List.nil_append] at hown3
      have hB3 : Below V.heap.size V W3 := Below.grown (w := V.alloc (Obj.cells #[] 9)) (by (repeat (first | exact Below.refl _ _ | assumption | refine Below.drew ?_ | refine Below.alloc ?_ (by first | omega | (simp; done) | (simp; omega)) _ | refine Below.setCell ?_ (by first | omega | (simp; done) | (simp; omega)) _))) hgrow3 (by simp only [World.size_alloc]; omega) (fun k hk => ((HOII.out).lt k hk).1)
      have HOA : Hid (W3.ownsRow V.heap.size 9 1 vA (i) (cs.take (i * 1))) := hidI hown3
      refine hK1 _ _ ⟨fun _ => HKS.out _ hB3, ?_⟩
      clear hK1 K1
      refine wpZ_all (rs := [6]) (by kernel_rfl) (by simp) fun j6 hj6 => ?_
      obtain rfl : j6 = 6 := by simpa using hj6
      refine wpOp_go opsW_6 rfl fun K1 hK1 => ?_
      unfold Oper.wp
      go_simp
      have HB4 : Hid (Below V.heap.size V (W3.alloc (Obj.cells #[.string s] 9))) := hidI (hB3.alloc hB3.size _)
      have HOAb : Hid ((W3.alloc (Obj.cells #[.string s] 9)).ownsRow V.heap.size 9 1 vA (i) (cs.take (i * 1))) := hidI (HOA.out.alloc _)
      have HSX : Hid (SeesC (W3.alloc (Obj.cells #[.string s] 9)) (.slice (some ⟨W3.heap.size, 0, none⟩) 1 1) 1 1 ([.string s])) := hidI (strC_seen (W := W3) s)
      refine hK1 _ _ ⟨fun _ => HKS.out _ HB4.out, ?_⟩
      clear hK1 K1 HOA hown3 hgrow3 hat3
      generalize W3.heap.size = gx at *
      generalize W3.alloc (Obj.cells #[.string s] 9) = W4 at *
      have HOA := HOAb
      have HBF := HB4
      refine wpZ_all (rs := [7]) (by kernel_rfl) (by simp) fun j7 hj7 => ?_
      obtain rfl : j7 = 7 := by simpa using hj7
      refine wpOp_go opsW_7 rfl fun K1 hK1 => ?_
      refine wp_append_any Try.underlying29 Try.info9 rfl (by decide) (by decide) _ _ rfl V.heap.size vA (i) (cs.take (i * 1)) rfl HOA.out _ 1 ([.string s]) rfl HSX.out (by simp [Value.oneCell']) (by omega) HBF.out.size ?_
      intro vB W5 hown5 hgrow5 hat5
      have HB5 : Hid (Below V.heap.size V W5) := hidI (HBF.out.grown hgrow5 HBF.out.size (fun k hk => (HOA.out.lt k hk).1))
      have HOB := hidI hown5
      refine hK1 _ _ ⟨fun _ => HKS.out _ HB5.out, ?_⟩
      clear hK1 K1 hown5 hgrow5 hat5 HOA HSX HBF
      refine wpZ_all (rs := [11]) (by kernel_rfl) (by simp) fun j11 hj11 => ?_
      obtain rfl : j11 = 11 := by simpa using hj11
      refine wpOp_go opsW_11 rfl fun K1 hK1 => ?_
      refine wp_append_any Try.underlying29 Try.info9 rfl (by decide) (by decide) _ _ rfl V.heap.size vB ((i) + 1) _ rfl HOB.out (v43) (n - i) (cs.drop (i * 1)) rfl (HHI.out _ HB5.out) H1D.out (by omega) HB5.out.size ?_
      intro vC W6 hown6 hgrow6 hat6
      have HB6 : Hid (Below V.heap.size V W6) := hidI (HB5.out.grown hgrow6 HB5.out.size (fun k hk => (HOB.out.lt k hk).1))
      have HOC := hidI hown6
      refine hK1 _ _ ⟨fun _ => HKS.out _ HB6.out, ?_⟩
      clear hK1 K1 hown6 hgrow6 hat6 HOB HB5
      refine wpZ_last (by kernel_rfl) (by kernel_rfl) ?_ _
      refine wpOp_go opsW_12 rfl fun K1 hK1 => ?_
      unfold Oper.wp
      go_simp
      refine hK1 _ _ ?_
      exact HQ.out _ _ _ _ _ _ _ _ _ _ _ _ _ _ HB6.out HOC.out
  · refine wpOp_go opsW_6 rfl fun K1 hK1 => ?_
    unfold Oper.wp
    go_simp
    refine hK1 _ _ ⟨fun _ => HKS.out _ (by (repeat (first | exact Below.refl _ _ | assumption | refine Below.drew ?_ | refine Below.alloc ?_ (by first | omega | (simp; done) | (simp; omega)) _ | refine Below.setCell ?_ (by first | omega | (simp; done) | (simp; omega)) _))), ?_⟩
    clear hK1 K1
    refine wpZ_all (rs := [0]) (by kernel_rfl) (by simp) fun j0 hj0 => ?_
    obtain rfl : j0 = 0 := by simpa using hj0
    refine wpOp_go opsW_0 rfl fun K1 hK1 => ?_
    unfold Oper.wp
    go_simp
    refine hK1 _ _ ⟨fun _ => HKS.out _ (by (repeat (first | exact Below.refl _ _ | assumption | refine Below.drew ?_ | refine Below.alloc ?_ (by first | omega | (simp; done) | (simp; omega)) _ | refine Below.setCell ?_ (by first | omega | (simp; done) | (simp; omega)) _))), ?_⟩
    clear hK1 K1
    refine wpZ_all (rs := [4]) (by kernel_rfl) (by simp) fun j4 hj4 => ?_
    obtain rfl : j4 = 4 := by simpa using hj4
    refine wpOp_go opsW_4 rfl fun K1 hK1 => ?_
    refine wp_append_any Try.underlying29 Try.info9 rfl (by decide) (by decide) _ _ rfl V.heap.size (.slice (some ⟨V.heap.size + 1, 0, none⟩) 0 0) 0 [] rfl HOIII.out (.slice a i cap) (i) (cs.take (i * 1)) rfl (HLO.out _ (by (repeat (first | exact Below.refl _ _ | assumption | refine Below.drew ?_ | refine Below.alloc ?_ (by first | omega | (simp; done) | (simp; omega)) _ | refine Below.setCell ?_ (by first | omega | (simp; done) | (simp; omega)) _)))) H1T.out (by omega) (by simp only [World.size_alloc]; omega) ?_
    intro vA W3 hown3 hgrow3 hat3
    rw [Nat.zero_add, List.nil_append] at hown3
    have hB3 : Below V.heap.size V W3 := Below.grown (w := (V.alloc (Obj.cells #[.string s] 9)).alloc (Obj.cells #[] 9)) (by (repeat (first | exact Below.refl _ _ | assumption | refine Below.drew ?_ | refine Below.alloc ?_ (by first | omega | (simp; done) | (simp; omega)) _ | refine Below.setCell ?_ (by first | omega | (simp; done) | (simp; omega)) _))) hgrow3 (by simp only [World.size_alloc]; omega) (fun k hk => ((HOIII.out).lt k hk).1)
    have HOA : Hid (W3.ownsRow V.heap.size 9 1 vA (i) (cs.take (i * 1))) := hidI hown3
    have HSX : Hid (SeesC W3 (.slice (some ⟨V.heap.size, 0, none⟩) 1 1) 1 1 ([.string s])) := hidI (SeesC.grown (SeesC.grown (strC_seen (W := V) s) (World.grownBy_alloc _ (Obj.cells #[] 9) (some (V.heap.size + 1))) (by simp [Value.ownBlock])) hgrow3 (by simp [Value.ownBlock]))
    have HBF := hidI hB3
    refine hK1 _ _ ⟨fun _ => HKS.out _ HBF.out, ?_⟩
    clear hK1 K1 hown3 hgrow3 hat3 hB3
    refine wpZ_all (rs := [7]) (by kernel_rfl) (by simp) fun j7 hj7 => ?_
    obtain rfl : j7 = 7 := by simpa using hj7
    refine wpOp_go opsW_7 rfl fun K1 hK1 => ?_
    refine wp_append_any Try.underlying29 Try.info9 rfl (by decide) (by decide) _ _ rfl V.heap.size vA (i) (cs.take (i * 1)) rfl HOA.out _ 1 ([.string s]) rfl HSX.out (by simp [Value.oneCell']) (by omega) HBF.out.size ?_
    intro vB W5 hown5 hgrow5 hat5
    have HB5 : Hid (Below V.heap.size V W5) := hidI (HBF.out.grown hgrow5 HBF.out.size (fun k hk => (HOA.out.lt k hk).1))
    have HOB := hidI hown5
    refine hK1 _ _ ⟨fun _ => HKS.out _ HB5.out, ?_⟩
    clear hK1 K1 hown5 hgrow5 hat5 HOA HSX HBF
    refine wpZ_all (rs := [11]) (by kernel_rfl) (by simp) fun j11 hj11 => ?_
    obtain rfl : j11 = 11 := by simpa using hj11
    refine wpOp_go opsW_11 rfl fun K1 hK1 => ?_
    refine wp_append_any Try.underlying29 Try.info9 rfl (by decide) (by decide) _ _ rfl V.heap.size vB ((i) + 1) _ rfl HOB.out (v43) (n - i) (cs.drop (i * 1)) rfl (HHI.out _ HB5.out) H1D.out (by omega) HB5.out.size ?_
    intro vC W6 hown6 hgrow6 hat6
    have HB6 : Hid (Below V.heap.size V W6) := hidI (HB5.out.grown hgrow6 HB5.out.size (fun k hk => (HOB.out.lt k hk).1))
    have HOC := hidI hown6
    refine hK1 _ _ ⟨fun _ => HKS.out _ HB6.out, ?_⟩
    clear hK1 K1 hown6 hgrow6 hat6 HOB HB5
    refine wpZ_last (by kernel_rfl) (by kernel_rfl) ?_ _
    refine wpOp_go opsW_12 rfl fun K1 hK1 => ?_
    unfold Oper.wp
    go_simp
    refine hK1 _ _ ?_
    exact HQ.out _ _ _ _ _ _ _ _ _ _ _ _ _ _ HB6.out HOC.out
end Go.Proofs.Ytffdgjlojechaaa
