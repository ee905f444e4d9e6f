/-
  The document's move: a form put behind the others, in whatever order.
-/
import Derived.Test.YtnlplkchkhibaaaDoorRBth
namespace Go.Proofs.YtnlplkchkhibaaaDoor
open Go.RowKit Go.Deep Go.MapKept
def rm4 : Array Oper := #[{ dst := some 23, op := Op.move (Operand.tmp 0), type := 72, pos := "ref.go:187", after := #[], guard := none }, { dst := some 24, op := Op.move (Operand.tmp 0), type := 72, pos := "ref.go:187", after := #[], guard := none }, { dst := some 25, op := Op.nilCheck (Operand.tmp 24), type := 0, pos := "ref.go:187", after := #[{ on := 1, ground := Ground.data }], guard := none }, { dst := some 26, op := Op.fieldAddr 74 (Operand.tmp 25) 1, type := 0, pos := "ref.go:187", after := #[{ on := 2, ground := Ground.data }], guard := none }, { dst := some 27, op := Op.load 23 (Operand.tmp 26), type := 23, pos := "ref.go:187", after := #[{ on := 3, ground := Ground.data }], guard := none }, { dst := some 28, op := Op.load 40 (Operand.tmp 6), type := 40, pos := "ref.go:187", after := #[], guard := none }, { dst := some 29, op := Op.buildSlice 23 1 #[(0, Operand.tmp 28)], type := 23, pos := "ref.go:187", after := #[{ on := 5, ground := Ground.data }], guard := none }, { dst := some 30, op := Op.call { callee := Callee.builtin Builtin.append, args := #[Operand.tmp 27, Operand.tmp 29], argTypes := #[23, 23] }, type := 23, pos := "ref.go:187", after := #[{ on := 4, ground := Ground.data }, { on := 6, ground := Ground.data }], guard := none }, { dst := some 31, op := Op.nilCheck (Operand.tmp 23), type := 0, pos := "ref.go:187", after := #[{ on := 0, ground := Ground.data }, { on := 0, ground := Ground.phase }, { on := 1, ground := Ground.phase }, { on := 2, ground := Ground.phase }, { on := 3, ground := Ground.phase }, { on := 4, ground := Ground.phase }, { on := 5, ground := Ground.phase }, { on := 6, ground := Ground.phase }, { on := 7, ground := Ground.phase }], guard := none }, { dst := some 32, op := Op.fieldAddr 74 (Operand.tmp 31) 1, type := 0, pos := "ref.go:187", after := #[{ on := 8, ground := Ground.data }, { on := 0, ground := Ground.phase }, { on := 1, ground := Ground.phase }, { on := 2, ground := Ground.phase }, { on := 3, ground := Ground.phase }, { on := 4, ground := Ground.phase }, { on := 5, ground := Ground.phase }, { on := 6, ground := Ground.phase }, { on := 7, ground := Ground.phase }], guard := none }, { dst := none, op := Op.store 23 (Operand.tmp 32) (Operand.tmp 30), type := 0, pos := "ref.go:187", after := #[{ on := 9, ground := Ground.data }, { on := 7, ground := Ground.data }, { on := 7, ground := Ground.chain }, { on := 0, ground := Ground.phase }, { on := 1, ground := Ground.phase }, { on := 2, ground := Ground.phase }, { on := 3, ground := Ground.phase }, { on := 4, ground := Ground.phase }, { on := 5, ground := Ground.phase }, { on := 6, ground := Ground.phase }, { on := 7, ground := Ground.phase }], guard := none }]
theorem rm4_0 : rm4[0]? = some { dst := some 23, op := Op.move (Operand.tmp 0), type := 72, pos := "ref.go:187", after := #[], guard := none } := by kernel_rfl
theorem rm4_1 : rm4[1]? = some { dst := some 24, op := Op.move (Operand.tmp 0), type := 72, pos := "ref.go:187", after := #[], guard := none } := by kernel_rfl
theorem rm4_2 : rm4[2]? = some { dst := some 25, op := Op.nilCheck (Operand.tmp 24), type := 0, pos := "ref.go:187", after := #[{ on := 1, ground := Ground.data }], guard := none } := by kernel_rfl
theorem rm4_3 : rm4[3]? = some { dst := some 26, op := Op.fieldAddr 74 (Operand.tmp 25) 1, type := 0, pos := "ref.go:187", after := #[{ on := 2, ground := Ground.data }], guard := none } := by kernel_rfl
theorem rm4_4 : rm4[4]? = some { dst := some 27, op := Op.load 23 (Operand.tmp 26), type := 23, pos := "ref.go:187", after := #[{ on := 3, ground := Ground.data }], guard := none } := by kernel_rfl
theorem rm4_5 : rm4[5]? = some { dst := some 28, op := Op.load 40 (Operand.tmp 6), type := 40, pos := "ref.go:187", after := #[], guard := none } := by kernel_rfl
theorem rm4_6 : rm4[6]? = some { dst := some 29, op := Op.buildSlice 23 1 #[(0, Operand.tmp 28)], type := 23, pos := "ref.go:187", after := #[{ on := 5, ground := Ground.data }], guard := none } := by kernel_rfl
theorem rm4_7 : rm4[7]? = some { dst := some 30, op := Op.call { callee := Callee.builtin Builtin.append, args := #[Operand.tmp 27, Operand.tmp 29], argTypes := #[23, 23] }, type := 23, pos := "ref.go:187", after := #[{ on := 4, ground := Ground.data }, { on := 6, ground := Ground.data }], guard := none } := by kernel_rfl
theorem rm4_8 : rm4[8]? = some { dst := some 31, op := Op.nilCheck (Operand.tmp 23), type := 0, pos := "ref.go:187", after := #[{ on := 0, ground := Ground.data }, { on := 0, ground := Ground.phase }, { on := 1, ground := Ground.phase }, { on := 2, ground := Ground.phase }, { on := 3, ground := Ground.phase }, { on := 4, ground := Ground.phase }, { on := 5, ground := Ground.phase }, { on := 6, ground := Ground.phase }, { on := 7, ground := Ground.phase }], guard := none } := by kernel_rfl
theorem rm4_9 : rm4[9]? = some { dst := some 32, op := Op.fieldAddr 74 (Operand.tmp 31) 1, type := 0, pos := "ref.go:187", after := #[{ on := 8, ground := Ground.data }, { on := 0, ground := Ground.phase }, { on := 1, ground := Ground.phase }, { on := 2, ground := Ground.phase }, { on := 3, ground := Ground.phase }, { on := 4, ground := Ground.phase }, { on := 5, ground := Ground.phase }, { on := 6, ground := Ground.phase }, { on := 7, ground := Ground.phase }], guard := none } := by kernel_rfl
theorem rm4_10 : rm4[10]? = some { dst := none, op := Op.store 23 (Operand.tmp 32) (Operand.tmp 30), type := 0, pos := "ref.go:187", after := #[{ on := 9, ground := Ground.data }, { on := 7, ground := Ground.data }, { on := 7, ground := Ground.chain }, { on := 0, ground := Ground.phase }, { on := 1, ground := Ground.phase }, { on := 2, ground := Ground.phase }, { on := 3, ground := Ground.phase }, { on := 4, ground := Ground.phase }, { on := 5, ground := Ground.phase }, { on := 6, ground := Ground.phase }, { on := 7, ground := Ground.phase }], guard := none } := by kernel_rfl
set_option maxRecDepth 100000 in
set_option maxHeartbeats 1500000 in
theorem regM4 {x1 x2 x3 x4 x5 x7 x8 x9 x10 x11 x12 x13 x14 x15 x16 x17 x18 x19 x20 x21 x22 x23 x24 x25 x26 x27 x28 x29 x30 x31 x32 x33 x34 x35 x36 x37 x38 x39 x40 x41 x42 x43 x44 x45 x46 x47 x48 x49 x50 x51 x52 x53 x54 x55 x56 x57 x58 x59 x60 x61 x62 x63 x64 x65 x66 x67 x68 x69 x70 x71 x72 x73 x74 x75 x76 x77 x78 x79 x80 x81 x82 x83 x84 x85 x86 x87 x88 x89 x90 : Value} {Q : Exit → Act → World → Prop} {V0 : World} {B FB base : Nat} {fv : Value} {fs : List FV} {f : Frm}
    (hS0 : V0.drew.cell? ⟨B, 1, none⟩ = some fv ∧ V0.drew.cell? ⟨FB, 0, none⟩ = some (.int .u8 f.k) ∧ V0.drew.cell? ⟨FB, 1, none⟩ = some (.string f.s) ∧ V0.drew.cell? ⟨FB, 2, none⟩ = some (.int .i64 f.n) ∧ V0.drew.cell? ⟨FB, 3, none⟩ = some (.slice none 0 0) ∧ V0.drew.cell? ⟨FB, 4, none⟩ = some (.int .i64 f.p)) (hfz : V0.drew.frozen? ⟨B, 1, none⟩ = false) (hown : V0.drew.ownsRow base 40 5 fv fs.length (flatF fs)) (hr : fs.length ≤ 400) (hbase : base ≤ V0.drew.heap.size)
    (hg : fv.ownBlock ≠ some B) (hg2 : fv.ownBlock ≠ some FB)
    (hpan : ∀ c (a : Act) w (dd : Tmp) vv, Q (.panic c) (a.put (some dd) vv) w → Q (.panic c) a w)
    (hQ : ∀ (W5 : World) (u' : Value) (t23 t24 t25 t26 t27 t28 t29 t30 t31 t32 : Value), (V0.drew.alloc (.cells #[.int .u8 f.k, .string f.s, .int .i64 f.n, .slice none 0 0, .int .i64 f.p] 40)).grownBy W5 fv.ownBlock → W5.ownsRow base 40 5 u' (fs.length + 1) (flatF fs ++ fcells (f, .slice none 0 0)) → (u'.ownBlock = fv.ownBlock ∨ u'.ownBlock = some (V0.drew.heap.size + 1)) → Q .normal { tmps := #[.pointer (some ⟨B, 0, none⟩), x1, x2, x3, x4, x5, .pointer (some ⟨FB, 0, none⟩), x7, x8, x9, x10, x11, x12, x13, x14, x15, x16, x17, x18, x19, x20, x21, x22, t23, t24, t25, t26, t27, t28, t29, t30, t31, t32, x33, x34, x35, x36, x37, x38, x39, x40, x41, x42, x43, x44, x45, x46, x47, x48, x49, x50, x51, x52, x53, x54, x55, x56, x57, x58, x59, x60, x61, x62, x63, x64, x65, x66, x67, x68, x69, x70, x71, x72, x73, x74, x75, x76, x77, x78, x79, x80, x81, x82, x83, x84, x85, x86, x87, x88, x89, x90], defers := [] } (W5.setCell ⟨B, 1, none⟩ u')) :
    (Code.region 4 rm4 true).wp Tryd.prog Q { tmps := #[.pointer (some ⟨B, 0, none⟩), x1, x2, x3, x4, x5, .pointer (some ⟨FB, 0, none⟩), x7, x8, x9, x10, x11, x12, x13, x14, x15, x16, x17, x18, x19, x20, x21, x22, x23, x24, x25, x26, x27, x28, x29, x30, x31, x32, x33, x34, x35, x36, x37, x38, x39, x40, x41, x42, x43, x44, x45, x46, x47, x48, x49, x50, x51, x52, x53, x54, x55, x56, x57, x58, x59, x60, x61, x62, x63, x64, x65, x66, x67, x68, x69, x70, x71, x72, x73, x74, x75, x76, x77, x78, x79, x80, x81, x82, x83, x84, x85, x86, x87, x88, x89, x90], defers := [] } V0 := by
  refine wp_region_Z (fun y => y.cell? ⟨B, 1, none⟩ = some fv ∧ y.cell? ⟨FB, 0, none⟩ = some (.int .u8 f.k) ∧ y.cell? ⟨FB, 1, none⟩ = some (.string f.s) ∧ y.cell? ⟨FB, 2, none⟩ = some (.int .i64 f.n) ∧ y.cell? ⟨FB, 3, none⟩ = some (.slice none 0 0) ∧ y.cell? ⟨FB, 4, none⟩ = some (.int .i64 f.p)) 10 Tryd.mixed ?_
  obtain ⟨V, hV⟩ : ∃ V, V0.drew = V := ⟨_, rfl⟩
  rw [hV] at hS0 hfz hown hbase hQ ⊢
  clear hV
  have HOwn := hidI hown
  have HQ := hidI hQ
  have HPan := hidI hpan
  have hgl : B < V.heap.size := World.block_lt_of_cell? V _ hS0.1
  have hgl2 : FB < V.heap.size := World.block_lt_of_cell? V _ hS0.2.1
  have hu1 : ∃ ua ul uc, fv = .slice ua ul uc := by
    rcases hown.2 with ⟨rfl, _⟩ | ⟨_, _, _, rfl, _⟩ <;> exact ⟨_, _, _, rfl⟩
  obtain ⟨ua, ul, uc, rfl⟩ := hu1
  clear hown hQ hpan
  refine wpZ_take [10] (i := 0) (v := (.pointer (some ⟨B, 0, none⟩))) rm4_0 (by kernel_rfl) (by kernel_rfl) (by kernel_rfl) (by kernel_rfl) (fun c a w h => HPan.out c a w _ _ h) (.inl ⟨by rfl, fun y hy => ?_⟩) hS0 ?_
  · obtain ⟨hy0, hy1, hy2, hy3, hy4, hy5⟩ := hy
    go_simp
  refine wpZ_take [10] (i := 1) (v := (.pointer (some ⟨B, 0, none⟩))) rm4_1 (by kernel_rfl) (by kernel_rfl) (by kernel_rfl) (by kernel_rfl) (fun c a w h => HPan.out c a w _ _ h) (.inl ⟨by rfl, fun y hy => ?_⟩) hS0 ?_
  · obtain ⟨hy0, hy1, hy2, hy3, hy4, hy5⟩ := hy
    go_simp
  refine wpZ_take [10] (i := 2) (v := (.pointer (some ⟨B, 0, none⟩))) rm4_2 (by kernel_rfl) (by kernel_rfl) (by kernel_rfl) (by kernel_rfl) (fun c a w h => HPan.out c a w _ _ h) (.inl ⟨by rfl, fun y hy => ?_⟩) hS0 ?_
  · obtain ⟨hy0, hy1, hy2, hy3, hy4, hy5⟩ := hy
    go_simp
  refine wpZ_take [10] (i := 3) (v := (.pointer (some ⟨B, 1, none⟩))) rm4_3 (by kernel_rfl) (by kernel_rfl) (by kernel_rfl) (by kernel_rfl) (fun c a w h => HPan.out c a w _ _ h) (.inl ⟨by rfl, fun y hy => ?_⟩) hS0 ?_
  · obtain ⟨hy0, hy1, hy2, hy3, hy4, hy5⟩ := hy
    go_simp
  refine wpZ_take [10] (i := 4) (v := (.slice ua ul uc)) rm4_4 (by kernel_rfl) (by kernel_rfl) (by kernel_rfl) (by kernel_rfl) (fun c a w h => HPan.out c a w _ _ h) (.inl ⟨by rfl, fun y hy => ?_⟩) hS0 ?_
  · obtain ⟨hy0, hy1, hy2, hy3, hy4, hy5⟩ := hy
    go_simp
  refine wpZ_take [10] (i := 5) (v := (.agg #[.int .u8 f.k, .string f.s, .int .i64 f.n, .slice none 0 0, .int .i64 f.p])) rm4_5 (by kernel_rfl) (by kernel_rfl) (by kernel_rfl) (by kernel_rfl) (fun c a w h => HPan.out c a w _ _ h) (.inl ⟨by rfl, fun y hy => ?_⟩) hS0 ?_
  · obtain ⟨hy0, hy1, hy2, hy3, hy4, hy5⟩ := hy
    go_simp
  have HKS : Hid (∀ y : World, Below V.heap.size V y → y.cell? ⟨B, 1, none⟩ = some (.slice ua ul uc) ∧ y.cell? ⟨FB, 0, none⟩ = some (.int .u8 f.k) ∧ y.cell? ⟨FB, 1, none⟩ = some (.string f.s) ∧ y.cell? ⟨FB, 2, none⟩ = some (.int .i64 f.n) ∧ y.cell? ⟨FB, 3, none⟩ = some (.slice none 0 0) ∧ y.cell? ⟨FB, 4, none⟩ = some (.int .i64 f.p)) := hidI fun y hy => ⟨(hy.cell hgl).trans hS0.1, (hy.cell hgl2).trans hS0.2.1, (hy.cell hgl2).trans hS0.2.2.1, (hy.cell hgl2).trans hS0.2.2.2.1, (hy.cell hgl2).trans hS0.2.2.2.2.1, (hy.cell hgl2).trans hS0.2.2.2.2.2⟩
  clear hS0
  refine wpZ_all (rs := [6]) (by kernel_rfl) (by simp) fun j6 hj6 => ?_
  obtain rfl : j6 = 6 := by simpa using hj6
  refine wpOp_go rm4_6 rfl fun K1 hK1 => ?_
  unfold Oper.wp
  go_simp
  have hA : Below V.heap.size V (V.alloc (.cells #[.int .u8 f.k, .string f.s, .int .i64 f.n, .slice none 0 0, .int .i64 f.p] 40)) := (Below.refl _ V).alloc (Nat.le_refl _) _
  have hSA := HKS.out _ hA
  refine hK1 _ _ ⟨fun _ => hSA, ?_⟩
  clear hK1 K1
  have HO2 := hidI (HOwn.out.alloc (.cells #[.int .u8 f.k, .string f.s, .int .i64 f.n, .slice none 0 0, .int .i64 f.p] 40))
  have HV := hidI (form_seen (W := V) f)
  have hfA : (V.alloc (.cells #[.int .u8 f.k, .string f.s, .int .i64 f.n, .slice none 0 0, .int .i64 f.p] 40)).frozen? ⟨B, 1, none⟩ = false := (hA.frozen (p := ⟨B, 1, none⟩) hgl).trans hfz
  have hszA : (V.alloc (.cells #[.int .u8 f.k, .string f.s, .int .i64 f.n, .slice none 0 0, .int .i64 f.p] 40)).heap.size = V.heap.size + 1 := by simp
  obtain ⟨VA, hVA⟩ : ∃ VA, V.alloc (.cells #[.int .u8 f.k, .string f.s, .int .i64 f.n, .slice none 0 0, .int .i64 f.p] 40) = VA := ⟨_, rfl⟩
  rw [hVA] at HO2 HV hSA hfA hszA ⊢
  have HVA := hidI hVA
  clear hVA hA
  refine wpZ_all (rs := [7]) (by kernel_rfl) (by simp) fun j7 hj7 => ?_
  obtain rfl : j7 = 7 := by simpa using hj7
  refine wpOp_go rm4_7 rfl fun K1 hK1 => ?_
  refine wp_append_any Tryd.underlying23 Tryd.info40x rfl (by decide) (by decide) _ _ rfl base _ fs.length (flatF fs) rfl HO2.out _ 1 (fcells (f, .slice none 0 0)) rfl HV.out (fcells_one f) (by omega) (by omega) ?_
  intro u' W5 hown5 hgrow5 hat5
  have HO5 := hidI hown5
  have HG5 := hidI hgrow5
  have HA5 := hidI hat5
  have hS5 : W5.cell? ⟨B, 1, none⟩ = some (.slice ua ul uc) ∧ W5.cell? ⟨FB, 0, none⟩ = some (.int .u8 f.k) ∧ W5.cell? ⟨FB, 1, none⟩ = some (.string f.s) ∧ W5.cell? ⟨FB, 2, none⟩ = some (.int .i64 f.n) ∧ W5.cell? ⟨FB, 3, none⟩ = some (.slice none 0 0) ∧ W5.cell? ⟨FB, 4, none⟩ = some (.int .i64 f.p) := ⟨hgrow5.cell hSA.1 (fun e => hg e.symm), hgrow5.cell hSA.2.1 (fun e => hg2 e.symm), hgrow5.cell hSA.2.2.1 (fun e => hg2 e.symm), hgrow5.cell hSA.2.2.2.1 (fun e => hg2 e.symm), hgrow5.cell hSA.2.2.2.2.1 (fun e => hg2 e.symm), hgrow5.cell hSA.2.2.2.2.2 (fun e => hg2 e.symm)⟩
  have hf5 : W5.frozen? ⟨B, 1, none⟩ = false := (World.frozen?_of_block (w := VA) (a := ⟨B, 1, none⟩) (hgrow5.block B (by omega) (fun e => hg e.symm))).trans hfA
  have hc5 := hS5.1
  obtain ⟨a6, l6, c6, hv6⟩ : ∃ a6 l6 c6, u' = .slice a6 l6 c6 := by
    rcases hown5.2 with ⟨rfl, _⟩ | ⟨_, _, _, rfl, _⟩ <;> exact ⟨_, _, _, rfl⟩
  subst hv6
  refine hK1 _ _ ⟨fun _ => hS5, ?_⟩
  clear hK1 K1 hown5 hgrow5 hat5 hSA
  refine wpZ_all (rs := [8]) (by kernel_rfl) (by simp) fun j8 hj8 => ?_
  obtain rfl : j8 = 8 := by simpa using hj8
  refine wpOp_go rm4_8 rfl fun K1 hK1 => ?_
  unfold Oper.wp
  go_simp
  refine hK1 _ _ ⟨fun _ => hS5, ?_⟩
  clear hK1 K1
  refine wpZ_all (rs := [9]) (by kernel_rfl) (by simp) fun j9 hj9 => ?_
  obtain rfl : j9 = 9 := by simpa using hj9
  refine wpOp_go rm4_9 rfl fun K1 hK1 => ?_
  unfold Oper.wp
  go_simp
  refine hK1 _ _ ⟨fun _ => hS5, ?_⟩
  clear hK1 K1
  refine wpZ_last (by kernel_rfl) (by kernel_rfl) ?_ _
  refine wpOp_go rm4_10 rfl fun K1 hK1 => ?_
  unfold Oper.wp
  go_simp
  refine hK1 _ _ ?_
  exact HQ.out W5 _ _ _ _ _ _ _ _ _ _ _ (by rw [HVA.out]; exact HG5.out) HO5.out (by first | exact HA5.out | (rw [← hszA]; exact HA5.out))
end Go.Proofs.YtnlplkchkhibaaaDoor
/-
  The document's move: a place put behind a form's kids, in whatever order.
-/
namespace Go.Proofs.YtnlplkchkhibaaaDoor
open Go.RowKit Go.Deep Go.MapKept
def rm11 : Array Oper := #[{ dst := some 72, op := Op.move (Operand.tmp 0), type := 72, pos := "ref.go:192", after := #[], guard := none }, { dst := some 73, op := Op.nilCheck (Operand.tmp 72), type := 0, pos := "ref.go:192", after := #[{ on := 0, ground := Ground.data }], guard := none }, { dst := some 74, op := Op.fieldAddr 74 (Operand.tmp 73) 1, type := 0, pos := "ref.go:192", after := #[{ on := 1, ground := Ground.data }], guard := none }, { dst := some 75, op := Op.load 23 (Operand.tmp 74), type := 23, pos := "ref.go:192", after := #[{ on := 2, ground := Ground.data }], guard := none }, { dst := some 76, op := Op.move (Operand.tmp 5), type := 3, pos := "ref.go:192", after := #[], guard := none }, { dst := some 77, op := Op.move (Operand.tmp 0), type := 72, pos := "ref.go:192", after := #[], guard := none }, { dst := some 78, op := Op.nilCheck (Operand.tmp 77), type := 0, pos := "ref.go:192", after := #[{ on := 5, ground := Ground.data }], guard := none }, { dst := some 79, op := Op.fieldAddr 74 (Operand.tmp 78) 1, type := 0, pos := "ref.go:192", after := #[{ on := 6, ground := Ground.data }], guard := none }, { dst := some 80, op := Op.load 23 (Operand.tmp 79), type := 23, pos := "ref.go:192", after := #[{ on := 7, ground := Ground.data }], guard := none }, { dst := some 81, op := Op.move (Operand.tmp 5), type := 3, pos := "ref.go:192", after := #[], guard := none }, { dst := some 82, op := Op.indexAddr 23 (Operand.tmp 80) (Operand.tmp 81), type := 0, pos := "ref.go:192", after := #[{ on := 8, ground := Ground.data }, { on := 9, ground := Ground.data }], guard := none }, { dst := some 83, op := Op.fieldAddr 40 (Operand.tmp 82) 3, type := 0, pos := "ref.go:192", after := #[{ on := 10, ground := Ground.data }], guard := none }, { dst := some 84, op := Op.load 24 (Operand.tmp 83), type := 24, pos := "ref.go:192", after := #[{ on := 11, ground := Ground.data }], guard := none }, { dst := some 85, op := Op.move (Operand.tmp 9), type := 3, pos := "ref.go:192", after := #[], guard := none }, { dst := some 86, op := Op.buildSlice 24 1 #[(0, Operand.tmp 85)], type := 24, pos := "ref.go:192", after := #[{ on := 13, ground := Ground.data }], guard := none }, { dst := some 87, op := Op.call { callee := Callee.builtin Builtin.append, args := #[Operand.tmp 84, Operand.tmp 86], argTypes := #[24, 24] }, type := 24, pos := "ref.go:192", after := #[{ on := 12, ground := Ground.data }, { on := 14, ground := Ground.data }], guard := none }, { dst := some 88, op := Op.indexAddr 23 (Operand.tmp 75) (Operand.tmp 76), type := 0, pos := "ref.go:192", after := #[{ on := 3, ground := Ground.data }, { on := 4, ground := Ground.data }, { on := 0, ground := Ground.phase }, { on := 1, ground := Ground.phase }, { on := 2, ground := Ground.phase }, { on := 3, ground := Ground.phase }, { on := 4, ground := Ground.phase }, { on := 5, ground := Ground.phase }, { on := 6, ground := Ground.phase }, { on := 7, ground := Ground.phase }, { on := 8, ground := Ground.phase }, { on := 9, ground := Ground.phase }, { on := 10, ground := Ground.phase }, { on := 11, ground := Ground.phase }, { on := 12, ground := Ground.phase }, { on := 13, ground := Ground.phase }, { on := 14, ground := Ground.phase }, { on := 15, ground := Ground.phase }], guard := none }, { dst := some 89, op := Op.fieldAddr 40 (Operand.tmp 88) 3, type := 0, pos := "ref.go:192", after := #[{ on := 16, ground := Ground.data }, { on := 0, ground := Ground.phase }, { on := 1, ground := Ground.phase }, { on := 2, ground := Ground.phase }, { on := 3, ground := Ground.phase }, { on := 4, ground := Ground.phase }, { on := 5, ground := Ground.phase }, { on := 6, ground := Ground.phase }, { on := 7, ground := Ground.phase }, { on := 8, ground := Ground.phase }, { on := 9, ground := Ground.phase }, { on := 10, ground := Ground.phase }, { on := 11, ground := Ground.phase }, { on := 12, ground := Ground.phase }, { on := 13, ground := Ground.phase }, { on := 14, ground := Ground.phase }, { on := 15, ground := Ground.phase }], guard := none }, { dst := none, op := Op.store 24 (Operand.tmp 89) (Operand.tmp 87), type := 0, pos := "ref.go:192", after := #[{ on := 17, ground := Ground.data }, { on := 15, ground := Ground.data }, { on := 15, ground := Ground.chain }, { on := 0, ground := Ground.phase }, { on := 1, ground := Ground.phase }, { on := 2, ground := Ground.phase }, { on := 3, ground := Ground.phase }, { on := 4, ground := Ground.phase }, { on := 5, ground := Ground.phase }, { on := 6, ground := Ground.phase }, { on := 7, ground := Ground.phase }, { on := 8, ground := Ground.phase }, { on := 9, ground := Ground.phase }, { on := 10, ground := Ground.phase }, { on := 11, ground := Ground.phase }, { on := 12, ground := Ground.phase }, { on := 13, ground := Ground.phase }, { on := 14, ground := Ground.phase }, { on := 15, ground := Ground.phase }], guard := none }]
theorem rm11_0 : rm11[0]? = some { dst := some 72, op := Op.move (Operand.tmp 0), type := 72, pos := "ref.go:192", after := #[], guard := none } := by kernel_rfl
theorem rm11_1 : rm11[1]? = some { dst := some 73, op := Op.nilCheck (Operand.tmp 72), type := 0, pos := "ref.go:192", after := #[{ on := 0, ground := Ground.data }], guard := none } := by kernel_rfl
theorem rm11_2 : rm11[2]? = some { dst := some 74, op := Op.fieldAddr 74 (Operand.tmp 73) 1, type := 0, pos := "ref.go:192", after := #[{ on := 1, ground := Ground.data }], guard := none } := by kernel_rfl
theorem rm11_3 : rm11[3]? = some { dst := some 75, op := Op.load 23 (Operand.tmp 74), type := 23, pos := "ref.go:192", after := #[{ on := 2, ground := Ground.data }], guard := none } := by kernel_rfl
theorem rm11_4 : rm11[4]? = some { dst := some 76, op := Op.move (Operand.tmp 5), type := 3, pos := "ref.go:192", after := #[], guard := none } := by kernel_rfl
theorem rm11_5 : rm11[5]? = some { dst := some 77, op := Op.move (Operand.tmp 0), type := 72, pos := "ref.go:192", after := #[], guard := none } := by kernel_rfl
theorem rm11_6 : rm11[6]? = some { dst := some 78, op := Op.nilCheck (Operand.tmp 77), type := 0, pos := "ref.go:192", after := #[{ on := 5, ground := Ground.data }], guard := none } := by kernel_rfl
theorem rm11_7 : rm11[7]? = some { dst := some 79, op := Op.fieldAddr 74 (Operand.tmp 78) 1, type := 0, pos := "ref.go:192", after := #[{ on := 6, ground := Ground.data }], guard := none } := by kernel_rfl
theorem rm11_8 : rm11[8]? = some { dst := some 80, op := Op.load 23 (Operand.tmp 79), type := 23, pos := "ref.go:192", after := #[{ on := 7, ground := Ground.data }], guard := none } := by kernel_rfl
theorem rm11_9 : rm11[9]? = some { dst := some 81, op := Op.move (Operand.tmp 5), type := 3, pos := "ref.go:192", after := #[], guard := none } := by kernel_rfl
theorem rm11_10 : rm11[10]? = some { dst := some 82, op := Op.indexAddr 23 (Operand.tmp 80) (Operand.tmp 81), type := 0, pos := "ref.go:192", after := #[{ on := 8, ground := Ground.data }, { on := 9, ground := Ground.data }], guard := none } := by kernel_rfl
theorem rm11_11 : rm11[11]? = some { dst := some 83, op := Op.fieldAddr 40 (Operand.tmp 82) 3, type := 0, pos := "ref.go:192", after := #[{ on := 10, ground := Ground.data }], guard := none } := by kernel_rfl
theorem rm11_12 : rm11[12]? = some { dst := some 84, op := Op.load 24 (Operand.tmp 83), type := 24, pos := "ref.go:192", after := #[{ on := 11, ground := Ground.data }], guard := none } := by kernel_rfl
theorem rm11_13 : rm11[13]? = some { dst := some 85, op := Op.move (Operand.tmp 9), type := 3, pos := "ref.go:192", after := #[], guard := none } := by kernel_rfl
theorem rm11_14 : rm11[14]? = some { dst := some 86, op := Op.buildSlice 24 1 #[(0, Operand.tmp 85)], type := 24, pos := "ref.go:192", after := #[{ on := 13, ground := Ground.data }], guard := none } := by kernel_rfl
theorem rm11_15 : rm11[15]? = some { dst := some 87, op := Op.call { callee := Callee.builtin Builtin.append, args := #[Operand.tmp 84, Operand.tmp 86], argTypes := #[24, 24] }, type := 24, pos := "ref.go:192", after := #[{ on := 12, ground := Ground.data }, { on := 14, ground := Ground.data }], guard := none } := by kernel_rfl
theorem rm11_16 : rm11[16]? = some { dst := some 88, op := Op.indexAddr 23 (Operand.tmp 75) (Operand.tmp 76), type := 0, pos := "ref.go:192", after := #[{ on := 3, ground := Ground.data }, { on := 4, ground := Ground.data }, { on := 0, ground := Ground.phase }, { on := 1, ground := Ground.phase }, { on := 2, ground := Ground.phase }, { on := 3, ground := Ground.phase }, { on := 4, ground := Ground.phase }, { on := 5, ground := Ground.phase }, { on := 6, ground := Ground.phase }, { on := 7, ground := Ground.phase }, { on := 8, ground := Ground.phase }, { on := 9, ground := Ground.phase }, { on := 10, ground := Ground.phase }, { on := 11, ground := Ground.phase }, { on := 12, ground := Ground.phase }, { on := 13, ground := Ground.phase }, { on := 14, ground := Ground.phase }, { on := 15, ground := Ground.phase }], guard := none } := by kernel_rfl
theorem rm11_17 : rm11[17]? = some { dst := some 89, op := Op.fieldAddr 40 (Operand.tmp 88) 3, type := 0, pos := "ref.go:192", after := #[{ on := 16, ground := Ground.data }, { on := 0, ground := Ground.phase }, { on := 1, ground := Ground.phase }, { on := 2, ground := Ground.phase }, { on := 3, ground := Ground.phase }, { on := 4, ground := Ground.phase }, { on := 5, ground := Ground.phase }, { on := 6, ground := Ground.phase }, { on := 7, ground := Ground.phase }, { on := 8, ground := Ground.phase }, { on := 9, ground := Ground.phase }, { on := 10, ground := Ground.phase }, { on := 11, ground := Ground.phase }, { on := 12, ground := Ground.phase }, { on := 13, ground := Ground.phase }, { on := 14, ground := Ground.phase }, { on := 15, ground := Ground.phase }], guard := none } := by kernel_rfl
theorem rm11_18 : rm11[18]? = some { dst := none, op := Op.store 24 (Operand.tmp 89) (Operand.tmp 87), type := 0, pos := "ref.go:192", after := #[{ on := 17, ground := Ground.data }, { on := 15, ground := Ground.data }, { on := 15, ground := Ground.chain }, { on := 0, ground := Ground.phase }, { on := 1, ground := Ground.phase }, { on := 2, ground := Ground.phase }, { on := 3, ground := Ground.phase }, { on := 4, ground := Ground.phase }, { on := 5, ground := Ground.phase }, { on := 6, ground := Ground.phase }, { on := 7, ground := Ground.phase }, { on := 8, ground := Ground.phase }, { on := 9, ground := Ground.phase }, { on := 10, ground := Ground.phase }, { on := 11, ground := Ground.phase }, { on := 12, ground := Ground.phase }, { on := 13, ground := Ground.phase }, { on := 14, ground := Ground.phase }, { on := 15, ground := Ground.phase }], guard := none } := by kernel_rfl
set_option maxRecDepth 100000 in
set_option maxHeartbeats 1500000 in
theorem regM11 {x1 x2 x3 x4 x6 x7 x8 x10 x11 x12 x13 x14 x15 x16 x17 x18 x19 x20 x21 x22 x23 x24 x25 x26 x27 x28 x29 x30 x31 x32 x33 x34 x35 x36 x37 x38 x39 x40 x41 x42 x43 x44 x45 x46 x47 x48 x49 x50 x51 x52 x53 x54 x55 x56 x57 x58 x59 x60 x61 x62 x63 x64 x65 x66 x67 x68 x69 x70 x71 x72 x73 x74 x75 x76 x77 x78 x79 x80 x81 x82 x83 x84 x85 x86 x87 x88 x89 x90 : Value} {Q : Exit → Act → World → Prop} {V0 : World} {B8 base g m uc q kn kc pl : Nat} {ka : Option Addr} {ks : List Value}
    (hS0 : V0.drew.cell? ⟨B8, 1, none⟩ = some (.slice (some ⟨g, 0, none⟩) m uc) ∧ V0.drew.cell? ⟨g, q * 5 + 3, none⟩ = some (.slice ka kn kc)) (hfz : V0.drew.frozen? ⟨g, q * 5 + 3, none⟩ = false) (hown : V0.drew.ownsRow base 3 1 (.slice ka kn kc) kn ks) (hr : kn ≤ 600) (hbase : base ≤ V0.drew.heap.size) (hq : q < m)
    (hg : Value.ownBlock (.slice ka kn kc) ≠ some B8) (hg2 : Value.ownBlock (.slice ka kn kc) ≠ some g)
    (hpan : ∀ c (a : Act) w (dd : Tmp) vv, Q (.panic c) (a.put (some dd) vv) w → Q (.panic c) a w)
    (hQ : ∀ (W5 : World) (u' : Value) (t72 t73 t74 t75 t76 t77 t78 t79 t80 t81 t82 t83 t84 t85 t86 t87 t88 t89 : Value), (V0.drew.alloc (.cells #[.int .i64 (pl : Int)] 3)).grownBy W5 (Value.ownBlock (.slice ka kn kc)) → W5.ownsRow base 3 1 u' (kn + 1) (ks ++ [.int .i64 (pl : Int)]) → (u'.ownBlock = Value.ownBlock (.slice ka kn kc) ∨ u'.ownBlock = some (V0.drew.heap.size + 1)) → Q .normal { tmps := #[.pointer (some ⟨B8, 0, none⟩), x1, x2, x3, x4, .int .i64 (q : Int), x6, x7, x8, .int .i64 (pl : Int), x10, x11, x12, x13, x14, x15, x16, x17, x18, x19, x20, x21, x22, x23, x24, x25, x26, x27, x28, x29, x30, x31, x32, x33, x34, x35, x36, x37, x38, x39, x40, x41, x42, x43, x44, x45, x46, x47, x48, x49, x50, x51, x52, x53, x54, x55, x56, x57, x58, x59, x60, x61, x62, x63, x64, x65, x66, x67, x68, x69, x70, x71, t72, t73, t74, t75, t76, t77, t78, t79, t80, t81, t82, t83, t84, t85, t86, t87, t88, t89, x90], defers := [] } (W5.setCell ⟨g, q * 5 + 3, none⟩ u')) :
    (Code.region 11 rm11 true).wp Tryd.prog Q { tmps := #[.pointer (some ⟨B8, 0, none⟩), x1, x2, x3, x4, .int .i64 (q : Int), x6, x7, x8, .int .i64 (pl : Int), x10, x11, x12, x13, x14, x15, x16, x17, x18, x19, x20, x21, x22, x23, x24, x25, x26, x27, x28, x29, x30, x31, x32, x33, x34, x35, x36, x37, x38, x39, x40, x41, x42, x43, x44, x45, x46, x47, x48, x49, x50, x51, x52, x53, x54, x55, x56, x57, x58, x59, x60, x61, x62, x63, x64, x65, x66, x67, x68, x69, x70, x71, x72, x73, x74, x75, x76, x77, x78, x79, x80, x81, x82, x83, x84, x85, x86, x87, x88, x89, x90], defers := [] } V0 := by
  refine wp_region_Z (fun y => y.cell? ⟨B8, 1, none⟩ = some (.slice (some ⟨g, 0, none⟩) m uc) ∧ y.cell? ⟨g, q * 5 + 3, none⟩ = some (.slice ka kn kc)) 18 Tryd.mixed ?_
  obtain ⟨V, hV⟩ : ∃ V, V0.drew = V := ⟨_, rfl⟩
  rw [hV] at hS0 hfz hown hbase hQ ⊢
  clear hV
  have HOwn := hidI hown
  have HQ := hidI hQ
  have HPan := hidI hpan
  have hgl : B8 < V.heap.size := World.block_lt_of_cell? V _ hS0.1
  have hgl2 : g < V.heap.size := World.block_lt_of_cell? V _ hS0.2
  have e2 : (q : Int) < (m : Int) := by omega
  have e3 : (0 : Int) ≤ (q : Int) := by omega
  have e5 : ((q : Int)).toNat = q := by omega
  clear hown hQ hpan
  refine wpZ_take [16, 17, 18] (i := 0) (v := (.pointer (some ⟨B8, 0, none⟩))) rm11_0 (by kernel_rfl) (by kernel_rfl) (by kernel_rfl) (by kernel_rfl) (fun c a w h => HPan.out c a w _ _ h) (.inl ⟨by rfl, fun y hy => ?_⟩) hS0 ?_
  · go_simp
  refine wpZ_take [16, 17, 18] (i := 1) (v := (.pointer (some ⟨B8, 0, none⟩))) rm11_1 (by kernel_rfl) (by kernel_rfl) (by kernel_rfl) (by kernel_rfl) (fun c a w h => HPan.out c a w _ _ h) (.inl ⟨by rfl, fun y hy => ?_⟩) hS0 ?_
  · go_simp
  refine wpZ_take [16, 17, 18] (i := 2) (v := (.pointer (some ⟨B8, 1, none⟩))) rm11_2 (by kernel_rfl) (by kernel_rfl) (by kernel_rfl) (by kernel_rfl) (fun c a w h => HPan.out c a w _ _ h) (.inl ⟨by rfl, fun y hy => ?_⟩) hS0 ?_
  · go_simp
  refine wpZ_take [16, 17, 18] (i := 3) (v := (.slice (some ⟨g, 0, none⟩) m uc)) rm11_3 (by kernel_rfl) (by kernel_rfl) (by kernel_rfl) (by kernel_rfl) (fun c a w h => HPan.out c a w _ _ h) (.inl ⟨by rfl, fun y hy => ?_⟩) hS0 ?_
  · obtain ⟨y0, y1⟩ := hy; go_simp
  refine wpZ_take [16, 17, 18] (i := 4) (v := (.int .i64 (q : Int))) rm11_4 (by kernel_rfl) (by kernel_rfl) (by kernel_rfl) (by kernel_rfl) (fun c a w h => HPan.out c a w _ _ h) (.inl ⟨by rfl, fun y hy => ?_⟩) hS0 ?_
  · go_simp
  refine wpZ_take [16, 17, 18] (i := 5) (v := (.pointer (some ⟨B8, 0, none⟩))) rm11_5 (by kernel_rfl) (by kernel_rfl) (by kernel_rfl) (by kernel_rfl) (fun c a w h => HPan.out c a w _ _ h) (.inl ⟨by rfl, fun y hy => ?_⟩) hS0 ?_
  · go_simp
  refine wpZ_take [16, 17, 18] (i := 6) (v := (.pointer (some ⟨B8, 0, none⟩))) rm11_6 (by kernel_rfl) (by kernel_rfl) (by kernel_rfl) (by kernel_rfl) (fun c a w h => HPan.out c a w _ _ h) (.inl ⟨by rfl, fun y hy => ?_⟩) hS0 ?_
  · go_simp
  refine wpZ_take [16, 17, 18] (i := 7) (v := (.pointer (some ⟨B8, 1, none⟩))) rm11_7 (by kernel_rfl) (by kernel_rfl) (by kernel_rfl) (by kernel_rfl) (fun c a w h => HPan.out c a w _ _ h) (.inl ⟨by rfl, fun y hy => ?_⟩) hS0 ?_
  · go_simp
  refine wpZ_take [16, 17, 18] (i := 8) (v := (.slice (some ⟨g, 0, none⟩) m uc)) rm11_8 (by kernel_rfl) (by kernel_rfl) (by kernel_rfl) (by kernel_rfl) (fun c a w h => HPan.out c a w _ _ h) (.inl ⟨by rfl, fun y hy => ?_⟩) hS0 ?_
  · obtain ⟨y0, y1⟩ := hy; go_simp
  refine wpZ_take [16, 17, 18] (i := 9) (v := (.int .i64 (q : Int))) rm11_9 (by kernel_rfl) (by kernel_rfl) (by kernel_rfl) (by kernel_rfl) (fun c a w h => HPan.out c a w _ _ h) (.inl ⟨by rfl, fun y hy => ?_⟩) hS0 ?_
  · go_simp
  refine wpZ_take [16, 17, 18] (i := 10) (v := (.pointer (some ⟨g, q * 5, none⟩))) rm11_10 (by kernel_rfl) (by kernel_rfl) (by kernel_rfl) (by kernel_rfl) (fun c a w h => HPan.out c a w _ _ h) (.inl ⟨by rfl, fun y hy => ?_⟩) hS0 ?_
  · go_simp
  refine wpZ_take [16, 17, 18] (i := 11) (v := (.pointer (some ⟨g, q * 5 + 3, none⟩))) rm11_11 (by kernel_rfl) (by kernel_rfl) (by kernel_rfl) (by kernel_rfl) (fun c a w h => HPan.out c a w _ _ h) (.inl ⟨by rfl, fun y hy => ?_⟩) hS0 ?_
  · go_simp
  refine wpZ_take [16, 17, 18] (i := 12) (v := (.slice ka kn kc)) rm11_12 (by kernel_rfl) (by kernel_rfl) (by kernel_rfl) (by kernel_rfl) (fun c a w h => HPan.out c a w _ _ h) (.inl ⟨by rfl, fun y hy => ?_⟩) hS0 ?_
  · obtain ⟨y0, y1⟩ := hy; go_simp
  refine wpZ_take [16, 17, 18] (i := 13) (v := (.int .i64 (pl : Int))) rm11_13 (by kernel_rfl) (by kernel_rfl) (by kernel_rfl) (by kernel_rfl) (fun c a w h => HPan.out c a w _ _ h) (.inl ⟨by rfl, fun y hy => ?_⟩) hS0 ?_
  · go_simp
  refine wpZ_all (rs := [14]) (by kernel_rfl) (by simp) fun j14 hj14 => ?_
  obtain rfl : j14 = 14 := by simpa using hj14
  refine wpOp_go rm11_14 rfl fun K1 hK1 => ?_
  unfold Oper.wp
  go_simp
  have hSA : (V.alloc (.cells #[.int .i64 (pl : Int)] 3)).cell? ⟨B8, 1, none⟩ = some (.slice (some ⟨g, 0, none⟩) m uc) ∧ (V.alloc (.cells #[.int .i64 (pl : Int)] 3)).cell? ⟨g, q * 5 + 3, none⟩ = some (.slice ka kn kc) := ⟨cell_al _ hS0.1, cell_al _ hS0.2⟩
  refine hK1 _ _ ⟨fun _ => hSA, ?_⟩
  clear hK1 K1
  have HO2 := hidI (HOwn.out.alloc (.cells #[.int .i64 (pl : Int)] 3))
  have HV := hidI (int_seen (W := V) (pl : Int))
  have hfA : (V.alloc (.cells #[.int .i64 (pl : Int)] 3)).frozen? ⟨g, q * 5 + 3, none⟩ = false := (((Below.refl V.heap.size V).alloc (Nat.le_refl _) _).frozen (p := ⟨g, q * 5 + 3, none⟩) hgl2).trans hfz
  have hszA : (V.alloc (.cells #[.int .i64 (pl : Int)] 3)).heap.size = V.heap.size + 1 := by simp
  obtain ⟨VA, hVA⟩ : ∃ VA, V.alloc (.cells #[.int .i64 (pl : Int)] 3) = VA := ⟨_, rfl⟩
  rw [hVA] at HO2 HV hSA hfA hszA ⊢
  have HVA := hidI hVA
  clear hVA
  refine wpZ_all (rs := [15]) (by kernel_rfl) (by simp) fun j15 hj15 => ?_
  obtain rfl : j15 = 15 := by simpa using hj15
  refine wpOp_go rm11_15 rfl fun K1 hK1 => ?_
  refine wp_append_any Tryd.underlying24 Tryd.info3x rfl (by decide) (by decide) _ _ rfl base (.slice ka kn kc) kn ks rfl HO2.out _ 1 [.int .i64 (pl : Int)] rfl HV.out (by simp [Value.oneCell']) (by omega) (by omega) ?_
  intro u' W5 hown5 hgrow5 hat5
  have HO5 := hidI hown5
  have HG5 := hidI hgrow5
  have HA5 := hidI hat5
  have hS5 : W5.cell? ⟨B8, 1, none⟩ = some (.slice (some ⟨g, 0, none⟩) m uc) ∧ W5.cell? ⟨g, q * 5 + 3, none⟩ = some (.slice ka kn kc) := ⟨hgrow5.cell hSA.1 (fun e => hg e.symm), hgrow5.cell hSA.2 (fun e => hg2 e.symm)⟩
  have hf5 : W5.frozen? ⟨g, q * 5 + 3, none⟩ = false := (World.frozen?_of_block (w := VA) (a := ⟨g, q * 5 + 3, none⟩) (hgrow5.block g (by omega) (fun e => hg2 e.symm))).trans hfA
  have hc5 := hS5.2
  obtain ⟨a6, l6, c6, hv6⟩ : ∃ a6 l6 c6, u' = .slice a6 l6 c6 := by
    rcases hown5.2 with ⟨rfl, _⟩ | ⟨_, _, _, rfl, _⟩ <;> exact ⟨_, _, _, rfl⟩
  subst hv6
  refine hK1 _ _ ⟨fun _ => hS5, ?_⟩
  clear hK1 K1 hown5 hgrow5 hat5
  refine wpZ_take [17, 18] (i := 16) (v := (.pointer (some ⟨g, q * 5, none⟩))) rm11_16 (by kernel_rfl) (by kernel_rfl) (by kernel_rfl) (by kernel_rfl) (fun c a w h => HPan.out c a w _ _ h) (.inl ⟨by rfl, fun y hy => ?_⟩) hS5 ?_
  · go_simp
  refine wpZ_take [18] (i := 17) (v := (.pointer (some ⟨g, q * 5 + 3, none⟩))) rm11_17 (by kernel_rfl) (by kernel_rfl) (by kernel_rfl) (by kernel_rfl) (fun c a w h => HPan.out c a w _ _ h) (.inl ⟨by rfl, fun y hy => ?_⟩) hS5 ?_
  · go_simp
  clear hS5
  refine wpZ_last (by kernel_rfl) (by kernel_rfl) ?_ _
  refine wpOp_go rm11_18 rfl fun K1 hK1 => ?_
  unfold Oper.wp
  go_simp
  refine hK1 _ _ ?_
  exact HQ.out W5 _ _ _ _ _ _ _ _ _ _ _ _ _ _ _ _ _ _ _ (by rw [HVA.out]; exact HG5.out) HO5.out (by rw [← hszA]; exact HA5.out)
end Go.Proofs.YtnlplkchkhibaaaDoor
/-
  The document's move and the walk: a place put behind its form's kids late is the same as put there ahead.
-/
namespace Go.Proofs.YtnlplkchkhibaaaDoor
open Go.RowKit Go.Deep Go.MapKept
theorem upd_comm (A : List Frm) (i j : Int) (a b : List Nat) (h : i ≠ j) : upd (upd A i a) j b = upd (upd A j b) i a := by
  unfold upd
  by_cases hi : i < 0
  · rw [if_pos hi, if_pos hi]
  · by_cases hj : j < 0
    · rw [if_pos hj, if_pos hj]
    · rw [if_neg hi, if_neg hj, if_neg hj, if_neg hi]
      have hne : i.toNat ≠ j.toNat := by omega
      refine List.ext_getElem? fun n => ?_
      rw [List.getElem?_modify, List.getElem?_modify, List.getElem?_modify, List.getElem?_modify]
      by_cases h1 : i.toNat = n
      · have h2 : ¬ j.toNat = n := by omega
        cases A[n]? <;> simp [h1, h2]
      · by_cases h2 : j.toNat = n
        · cases A[n]? <;> simp [h1, h2]
        · cases A[n]? <;> simp [h1, h2]
theorem fold_upd {fs : List Frm} {up : Int} {m : List Nat} : ∀ (ys : List (Int × Int)) (A : List Frm), (∀ y ∈ ys, y.1 ≠ up) → up < A.length → ys.foldl (stepA fs) (upd A up m) = upd (ys.foldl (stepA fs) A) up m
  | [], _, _, _ => rfl
  | y :: ys, A, h, hl => by
    have hy := h y (by simp)
    have e : stepA fs (upd A up m) y = upd (stepA fs A y) up m := by
      unfold stepA
      rw [upd_length, upd_comm _ _ _ _ _ (Ne.symm hy), upd_append (by rw [upd_length]; omega)]
    rw [List.foldl_cons, List.foldl_cons, e]
    refine fold_upd ys _ (fun z hz => h z (by simp [hz])) ?_
    unfold stepA
    rw [List.length_append, upd_length]
    omega
theorem fold_kl {fs : List Frm} {M : Nat} : ∀ (ys : List (Int × Int)) (A : List Frm), (∀ f ∈ A, f.kids.length ≤ M) → ∀ f ∈ ys.foldl (stepA fs) A, f.kids.length ≤ M + ys.length
  | [], A, h => h
  | y :: ys, A, h => fun f hf => by
    have := fold_kl (M := M + 1) ys (stepA fs A y) (fun g hg => by
      unfold stepA at hg
      rcases List.mem_append.1 hg with hg | hg
      · unfold upd at hg
        split at hg
        · have := h g hg; omega
        · obtain ⟨n, hn⟩ := List.getElem?_of_mem hg
          rw [List.getElem?_modify] at hn
          cases hA : A[n]? with
          | none => rw [hA] at hn; simp at hn
          | some g0 =>
            rw [hA] at hn
            have hg0 := h g0 (List.mem_of_getElem? hA)
            simp only [Option.map_eq_map, Option.map_some, Option.some.injEq] at hn
            subst hn
            split <;> simp [addKids] <;> omega
      · obtain ⟨g0, _, rfl⟩ := List.mem_map.1 hg
        simp [bare]) f hf
    simp only [List.length_cons]
    omega
theorem fold_len {fs : List Frm} : ∀ (ys : List (Int × Int)) (A : List Frm), (∀ y ∈ ys, 0 ≤ y.2 ∧ y.2 < (fs.length : Int)) → (ys.foldl (stepA fs) A).length = A.length + ys.length
  | [], A, _ => by simp
  | y :: r, A, hy => by
    have hy0 := hy y (by simp)
    have hg : fs[y.2.toNat]? = some fs[y.2.toNat] := List.getElem?_eq_getElem (by omega)
    rw [List.foldl_cons, fold_len r _ (fun z hz => hy z (by simp [hz]))]
    unfold stepA
    rw [hg]
    simp [upd_length]
    omega
/-- The mover: what it reads, what it has. -/
structure Mv (w0 : World) (fv : Value) (B : Nat) (W : World) (xs : List FV) (v : Value) : Prop where
  c0 : W.cell? ⟨B, 0, none⟩ = some fv
  c1 : W.cell? ⟨B, 1, none⟩ = some v
  fz : W.frozen? ⟨B, 1, none⟩ = false
  rows : AR W (B + 1) xs v
  below : Below w0.heap.size w0 W
def MvPost (w0 : World) (fv : Value) (B : Nat) (fs A : List Frm) (f : Frm) (ys : List (Int × Int)) (e : Ending) (W' : World) : Prop := e = .returned (.int .i64 (A.length : Int)) ∧ ∃ xs v, xs.map Prod.fst = ys.foldl (stepA fs) (A ++ [bare f]) ∧ Mv w0 fv B W' xs v
end Go.Proofs.YtnlplkchkhibaaaDoor
/-
  The document's move.
-/
namespace Go.Proofs.YtnlplkchkhibaaaDoor
open Go.RowKit Go.Deep Go.MapKept
theorem Mv.form {w0 W W5 : World} {fv v u' : Value} {B : Nat} {xs : List FV} {f : Frm} {o o2 : Obj} (h : Mv w0 fv B W xs v) (hB : w0.heap.size ≤ B) (hg : ((W.alloc o).drew.alloc o2).grownBy W5 v.ownBlock) (ho : W5.ownsRow (B + 1) 40 5 u' (xs.length + 1) (flatF xs ++ fcells (f, .slice none 0 0))) (hat : u'.ownBlock = v.ownBlock ∨ u'.ownBlock = some ((W.alloc o).drew.heap.size + 1)) :
    Mv w0 fv B (W5.setCell ⟨B, 1, none⟩ u') (xs ++ [(bare f, .slice none 0 0)]) u' := by
  have hbl : B < W.heap.size := World.block_lt_of_cell? W _ h.c0
  have hbA : Below W.heap.size W ((W.alloc o).drew.alloc o2) := (Below.drew ((Below.refl _ W).alloc (Nat.le_refl _) o)).alloc (by simp) o2
  have hne : some B ≠ v.ownBlock := fun e => by have := (h.rows.own.lt B e.symm).1; omega
  have c0 := hg.cell ((hbA.cell hbl).trans h.c0) hne
  have c1 := hg.cell ((hbA.cell hbl).trans h.c1) hne
  have hlt : B < ((W.alloc o).drew.alloc o2).heap.size := Nat.lt_of_lt_of_le hbl hbA.size
  have fz : W5.frozen? ⟨B, 1, none⟩ = false := (World.frozen?_of_block (w := (W.alloc o).drew.alloc o2) (a := ⟨B, 1, none⟩) (hg.block B hlt hne)).trans ((hbA.frozen (p := ⟨B, 1, none⟩) hbl).trans h.fz)
  refine ⟨by go_simp, World.cell?_setCell_same W5 _ _ c1, (World.frozen?_setCell _ _ _ _).trans fz, ?_, ?_⟩
  · exact ((h.rows.down hbA).putF (f := bare f) rfl hg ho (by simpa using hat)).low (by omega) u'
  · have h1 := h.below.trans (hbA.mono h.below.size)
    exact (h1.grown hg (Nat.le_trans hB (Nat.le_of_lt hlt)) (fun k e => by have := (h.rows.own.lt k e).1; omega)).setCell hB u'
theorem Mv.kidp {w0 W W5 : World} {fv v u' : Value} {B q g cap pl : Nat} {xs : List FV} {x : FV} {o : Obj} (h : Mv w0 fv B W xs v) (hB : w0.heap.size ≤ B) (hx : xs[q]? = some x) (hv : v = .slice (some ⟨g, 0, none⟩) xs.length cap) (hg : (W.drew.alloc o).grownBy W5 x.2.ownBlock) (ho : W5.ownsRow (B + 1) 3 1 u' (x.1.kids.length + 1) (ints x.1.kids ++ [.int .i64 (pl : Int)])) (hat : u'.ownBlock = x.2.ownBlock ∨ u'.ownBlock = some (W.drew.heap.size + 1)) :
    Mv w0 fv B (W5.setCell ⟨g, q * 5 + 3, none⟩ u') (xs.set q (addKid pl x.1, u')) v := by
  have hbl : B < W.heap.size := World.block_lt_of_cell? W _ h.c0
  have hbA : Below W.heap.size W (W.drew.alloc o) := (Below.drew (Below.refl _ W)).alloc (Nat.le_refl _) o
  have hne : some B ≠ x.2.ownBlock := fun e => by have := ((h.rows.kid hx).lt B e.symm).1; omega
  have hgb : B + 1 ≤ g := ((h.rows.own).lt g (by rw [hv]; rfl)).1
  have hlt : B < (W.drew.alloc o).heap.size := Nat.lt_of_lt_of_le hbl hbA.size
  have kb : ∀ j, (W5.setCell ⟨g, q * 5 + 3, none⟩ u').cell? ⟨B, j, none⟩ = W5.cell? ⟨B, j, none⟩ := fun j => World.cell?_of_block (w := W5) (Below.heap_setCell W5 ⟨g, q * 5 + 3, none⟩ u' B (by simp; omega))
  have fz : W5.frozen? ⟨B, 1, none⟩ = false := (World.frozen?_of_block (w := W.drew.alloc o) (a := ⟨B, 1, none⟩) (hg.block B hlt hne)).trans ((hbA.frozen (p := ⟨B, 1, none⟩) hbl).trans h.fz)
  refine ⟨(kb 0).trans (hg.cell ((hbA.cell hbl).trans h.c0) hne), (kb 1).trans (hg.cell ((hbA.cell hbl).trans h.c1) hne), (World.frozen?_setCell _ _ _ _).trans fz, ?_, ?_⟩
  · exact (h.rows.down hbA).putK hx hv hg ho (by simpa using hat)
  · have h1 := h.below.trans (hbA.mono h.below.size)
    exact (h1.grown hg (Nat.le_trans hB (Nat.le_of_lt hlt)) (fun k e => by have := ((h.rows.kid hx).lt k e).1; omega)).setCell (by simp; omega) u'
set_option maxRecDepth 100000 in
set_option maxHeartbeats 4000000 in
theorem move_any (fv : Value) (ms : List MV) (w0 : World) (hm : SeesM w0 fv ms) (hkl : ∀ x ∈ ms, x.1.kids.length ≤ 17592186044416) (hml : ms.length ≤ 1000000) (B : Nat) (hB : w0.heap.size ≤ B) :
    ∀ (f : Nat) (p : Nat) (x : MV) (xs : List FV) (v : Value) (W : World) (t1 : Int) (ys : List (Int × Int)), ms.length - p < f → ms[p]? = some x → xs.length + 1 + ys.length ≤ 401 → (∀ y ∈ xs, y.1.kids.length ≤ xs.length) →
      WalkR (kidsOf ms) ms.length ((xs.length : Int) + 1) xs.length p x.1.kids t1 ys true → Mv w0 fv B W xs v →
      Calls Tryd.prog 35 #[.pointer (some ⟨B, 0, none⟩), .int .i64 (p : Int)] W (MvPost w0 fv B (ms.map fun x => natF x.1) (xs.map Prod.fst) (natF x.1) ys) := by
  obtain ⟨_, fa, fc, hfv, _⟩ := hm.row
  have HM := hidI hm
  have HKL := hidI hkl
  subst hfv
  obtain ⟨fs, hfs⟩ : ∃ fs, (ms.map fun x => natF x.1) = fs := ⟨_, rfl⟩
  rw [hfs]
  have HFS := hidI hfs
  clear hm hkl hfs
  intro f
  induction f with
  | zero => intro p x xs v W t1 ys h; omega
  | succ f IH =>
    have HIH := hidI IH
    clear IH
    intro p x xs v W t1 ys hf hx hys hkl hW hV
    have hpl : p < ms.length := (List.getElem?_eq_some_iff.1 hx).1
    have e1 : (p : Int) < (ms.length : Int) := by omega
    have e2 : (0 : Int) ≤ (p : Int) := by omega
    have e3 : ((p : Int)).toNat = p := by omega
    have HV := hidI hV
    have HW := hidI hW
    have HX := hidI hx
    have HKK := hidI hkl
    obtain ⟨va, vc, rfl⟩ := own_slice hV.rows.own
    have k0 := hV.c0
    have k1 := hV.c1
    obtain ⟨fb, fo, fc', ka, kc, hfv, hx2, c0, c1, c2, c3, c4⟩ := (HM.out.below hV.below (Nat.le_refl _)).load hx
    cases hfv
    have hbl : B < W.heap.size := World.block_lt_of_cell? W _ k0
    clear hV hW hkl hx
    go_enter Tryd.func35, Tryd.ntmps35
    have HK3 : Hid (w0.cell? ⟨fb, fo + p * 5 + 3, none⟩ = some (.slice ka x.1.kids.length kc)) := hidI ((HV.out.below.cell (p := ⟨fb, fo + p * 5 + 3, none⟩) (by
      have := sees_lt HM.out.row (by decide) (by omega) fb rfl
      exact this)).symm.trans c3)
    have hfbl : fb < w0.heap.size := sees_lt HM.out.row (by decide) (by omega) fb rfl
    have hks := HM.out.kid p x HX.out
    rw [hx2] at hks
    have HKS := hidI hks
    have hkx := HKL.out x (List.mem_of_getElem? HX.out)
    clear hks
    go_wp2
    refine regM4 (fs := xs) (f := natF x.1) (B := B) (FB := W.heap.size) (base := B + 1) (fv := .slice va xs.length vc) ⟨cell_al _ k1, (by first | (go_simp; done) | (go_simp; rfl)), (by first | (go_simp; done) | (go_simp; rfl)), (by first | (go_simp; done) | (go_simp; rfl)), (by first | (go_simp; done) | (go_simp; rfl)), (by first | (go_simp; done) | (go_simp; rfl))⟩ ?fz (HV.out.rows.own.alloc _) (by omega) (by simp; omega) ?g1 ?g2 (fun _ _ _ _ _ h => h) ?_
    case fz => exact (((Below.refl W.heap.size W).alloc (Nat.le_refl _) _).frozen (p := ⟨B, 1, none⟩) hbl).trans HV.out.fz
    case g1 => exact fun e => by have := (HV.out.rows.own.lt _ e).1; omega
    case g2 => exact fun e => by have := (HV.out.rows.own.lt _ e).2; omega
    intro W5 u' t23 t24 t25 t26 t27 t28 t29 t30 t31 t32 hg5 ho5 hat5
    have HV6 := hidI (HV.out.form hB hg5 ho5 hat5)
    obtain ⟨W6, hW6⟩ : ∃ W6, W5.setCell ⟨B, 1, none⟩ u' = W6 := ⟨_, rfl⟩
    rw [hW6] at HV6 ⊢
    clear hg5 ho5 hat5 hW6 c0 c1 c2 c3 c4 k0 k1
    obtain ⟨kids, hkids⟩ : ∃ kids, x.1.kids = kids := ⟨_, rfl⟩
    rw [hkids] at HW HK3 HKS hkx
    have HKI := hidI hkids
    clear hkids
    go_wp2
    go_loopg [7] kids.length (fun g s7 wx => ∃ (i : Nat) (ysd ysr : List (Int × Int)) (xs1 : List FV) (v1 : Value), i + g = kids.length ∧ s7 = .int .i64 (i : Int) ∧ Hid (WalkR (kidsOf ms) ms.length xs1.length xs.length p (kids.drop i) t1 ysr true) ∧ Hid (ysd ++ ysr = ys) ∧ Hid (xs1.map Prod.fst = ysd.foldl (stepA fs) (xs.map Prod.fst ++ [bare (natF x.1)])) ∧ Hid (xs1.length = xs.length + 1 + ysd.length) ∧ Hid (Mv w0 (.slice (some ⟨fb, fo, none⟩) ms.length fc) B wx xs1 v1))
    case atStart => exact ⟨0, [], ys, _, u', by omega, rfl, hidI (by simpa using HW.out), hidI rfl, hidI (by simp), hidI (by simp), HV6⟩
    case round =>
      clear HV6
      obtain ⟨i, ysd, ysr, xs1, v1, hi, rfl, HR, HY, HA, HL, HMv⟩ := hrel
      have k0 := HMv.out.c0
      have k1 := HMv.out.c1
      have k3 := (HMv.out.below.cell (p := ⟨fb, fo + p * 5 + 3, none⟩) hfbl).trans HK3.out
      obtain ⟨va1, vc1, rfl⟩ := own_slice HMv.out.rows.own
      have hbl1 : B < wr.heap.size := World.block_lt_of_cell? wr _ k0
      cases gk with
      | zero =>
        obtain rfl : i = kids.length := by omega
        have f1 : ¬ ((kids.length : Int) < (kids.length : Int)) := by omega
        have hr0 : ysr = [] := by
          have := HR.out
          rw [List.drop_length] at this
          cases this
          rfl
        have HP : Hid (ysd = ys) := hidI (by have := HY.out; rw [hr0, List.append_nil] at this; exact this)
        clear hr0
        go_wp2
        go_ret
        refine ⟨by rw [List.length_map]; rfl, xs1, _, ?_, HMv.out⟩
        rw [← HP.out]
        exact HA.out
      | succ g =>
        have hil : i < kids.length := by omega
        have f1 : (i : Int) < (kids.length : Int) := by omega
        have f2 : (0 : Int) ≤ (i : Int) := by omega
        have f3 : ((i : Int)).toNat = i := by omega
        have hgi : kids[i]? = some kids[i] := List.getElem?_eq_getElem hil
        obtain ⟨c, hc⟩ : ∃ c, kids[i] = c := ⟨_, rfl⟩
        rw [hc] at hgi
        obtain ⟨kb, ko, rfl, c0⟩ := ints_cell HKS.out hgi
        have cp : wr.cell? ⟨kb, ko + i, none⟩ = some (.int .i64 c) := (HMv.out.below.cell (World.block_lt_of_cell? w0 _ c0)).trans c0
        have hdr : kids.drop i = c :: kids.drop (i + 1) := by rw [List.drop_eq_getElem_cons hil, hc]
        have hWr := HR.out
        rw [hdr] at hWr
        clear hgi hc c0 hdr
        cases hWr with
        | skip hno hw =>
          have HR2 := hidI hw
          clear hw
          by_cases i1 : (p : Int) < c
          · have i2 : ¬ c < (ms.length : Int) := fun h => hno ⟨i1, h⟩
            clear hno
            go_wp2
            go_roundg g
            case measure => omega
            case rel => exact ⟨i + 1, ysd, ysr, xs1, _, by omega, by go_num, HR2, HY, HA, HL, HMv⟩
          · clear hno
            go_wp2
            go_roundg g
            case measure => omega
            case rel => exact ⟨i + 1, ysd, ysr, xs1, _, by omega, by go_num, HR2, HY, HA, HL, HMv⟩
        | @more _ _ _ _ t2 _ _ ys1 ys2 _ i1 i2 i3 hw1 hw2 =>
          obtain ⟨cn, rfl⟩ : ∃ cn : Nat, c = (cn : Int) := ⟨c.toNat, by omega⟩
          have hcl : cn < ms.length := by omega
          have hy : ms[cn]? = some ms[cn] := List.getElem?_eq_getElem hcl
          obtain ⟨y, hye⟩ : ∃ y, ms[cn] = y := ⟨_, rfl⟩
          rw [hye] at hy
          have hkc : kidsOf ms (cn : Int) = y.1.kids := by unfold kidsOf; rw [show ((cn : Int)).toNat = cn by omega, hy]
          rw [hkc] at hw1
          have hlys : ysd.length + (1 + ys1.length + ys2.length) = ys.length := by
            have := congrArg List.length HY.out
            simp at this
            omega
          have hxl1 := HL.out
          have hfl : fs.length = ms.length := by rw [← HFS.out]; simp
          have hkl1 : ∀ z ∈ xs1, z.1.kids.length ≤ xs1.length := fun z hz => by
            have hz2 : z.1 ∈ xs1.map Prod.fst := List.mem_map_of_mem hz
            rw [HA.out] at hz2
            have := fold_kl (M := xs.length) ysd _ (fun q hq => by
              rcases List.mem_append.1 hq with hq | hq
              · obtain ⟨z', hz', rfl⟩ := List.mem_map.1 hq
                exact HKK.out z' hz'
              · simp at hq
                subst hq
                simp [bare]) z.1 hz2
            omega
          have C := hidI (HIH.out cn y xs1 _ wr t2 ys1 (by omega) hy (by omega) hkl1 hw1 HMv.out)
          have hups := hw1.ups (by omega)
          have htold := hw1.told
          have HU := hidI hups
          have HTD := hidI htold
          have HW2 := hidI hw2
          have HFL := hidI hfl
          have HXL1 := hidI hxl1
          have HLY := hidI hlys
          have HKL1 := hidI hkl1
          have HYE := hidI hy
          clear hw1 hw2 hups htold hye hkc hfl hy hxl1 hlys hkl1
          go_wp2_with (go_at_call 35; refine C.out.mono ?_; rintro e w1 ⟨rfl, xs2, v2, ha2, hv2⟩; refine Hid.out ?_)
          clear C
          have hx2l : xs2.length = xs1.length + 1 + ys1.length := by
            have h1 := congrArg List.length ha2
            rw [fold_len ys1 _ (fun z hz => by
              obtain ⟨j, hj⟩ := List.getElem?_of_mem hz
              have := HU.out j z hj
              rw [HFL.out]
              exact ⟨this.1, this.2.1⟩)] at h1
            simp at h1
            omega
          have hnx : xs.length < xs2.length := by have := HXL1.out; omega
          have hgr : xs2[xs.length]? = some xs2[xs.length] := List.getElem?_eq_getElem hnx
          obtain ⟨x', hx'⟩ : ∃ x', xs2[xs.length] = x' := ⟨_, rfl⟩
          rw [hx'] at hgr
          obtain ⟨gg, gc, hve, hgb, _⟩ := own_some hv2.rows.own (by omega)
          subst hve
          obtain ⟨kka, kkc, hkv⟩ := own_slice (hv2.rows.kid hgr)
          have hck : w1.cell? ⟨gg, xs.length * 5 + 3, none⟩ = some (.slice kka x'.1.kids.length kkc) := by
            rw [← hkv]
            exact own_cell hv2.rows.own (by rw [flatF_get xs2 xs.length 3 x' hgr (by omega)]; rfl)
          have hkr := hv2.rows.kid hgr
          rw [hkv] at hkr
          have hapt := hv2.rows.apart hgr
          have hkl2 : x'.1.kids.length ≤ 600 := by
            have hz2 : x'.1 ∈ xs2.map Prod.fst := List.mem_map_of_mem (List.mem_of_getElem? hgr)
            rw [ha2] at hz2
            have := fold_kl (M := xs1.length) ys1 _ (fun q hq => by
              rcases List.mem_append.1 hq with hq | hq
              · obtain ⟨z', hz', rfl⟩ := List.mem_map.1 hq
                exact HKL1.out z' hz'
              · simp at hq
                subst hq
                simp [bare]) x'.1 hz2
            have := HLY.out
            have := HXL1.out
            omega
          have HV2 := hidI hv2
          have HA2 := hidI ha2
          have HX2 := hidI hx2l
          have HGR := hidI hgr
          have HKV := hidI hkv
          have HKR := hidI hkr
          have HAP := hidI hapt
          have hbl2 : B < w1.heap.size := World.block_lt_of_cell? w1 _ hv2.c0
          refine hidI ?_
          clear hv2 ha2 hx2l hgr hx' hkv hkr hapt k0 k1 k3 cp
          go_wp2
          refine regM11 (B8 := B) (base := B + 1) (g := gg) (m := xs2.length) (uc := gc) (q := xs.length) (ka := kka) (kn := x'.1.kids.length) (kc := kkc) (ks := ints x'.1.kids) (pl := xs1.length) ⟨HV2.out.c1, hck⟩ (own_free HV2.out.rows.own _) HKR.out hkl2 (by simp; omega) hnx ?ga ?gb (fun _ _ _ _ _ h => h) ?_
          case ga => exact fun e => by have := (HKR.out.lt _ e).1; omega
          case gb =>
            intro e
            rcases HAP.out with h | h
            · rw [HKV.out, e] at h; cases h
            · rw [HKV.out] at h; exact h e
          intro W5 u5 t72 t73 t74 t75 t76 t77 t78 t79 t80 t81 t82 t83 t84 t85 t86 t87 t88 t89 hg5 ho5 hat5
          have HM5 := hidI (HV2.out.kidp hB HGR.out rfl (by rw [HKV.out]; exact hg5) ho5 (by rw [HKV.out]; exact hat5))
          have HA5 : Hid ((xs2.set xs.length (addKid xs1.length x'.1, u5)).map Prod.fst = (ysd ++ ((xs.length : Int), (cn : Int)) :: ys1).foldl (stepA fs) (xs.map Prod.fst ++ [bare (natF x.1)])) := hidI (by
            have hfc : fs[cn]? = some (natF y.1) := by rw [← HFS.out, List.getElem?_map, HYE.out]; rfl
            have e1 : stepA fs (xs1.map Prod.fst) ((xs.length : Int), (cn : Int)) = upd (xs1.map Prod.fst ++ [bare (natF y.1)]) (xs.length : Int) [xs1.length] := by
              unfold stepA
              rw [upd_append (by right; have := HXL1.out; simp; omega)]
              simp [hfc]
            rw [List.foldl_append, List.foldl_cons, ← HA.out, e1, fold_upd ys1 _ (fun z hz => by
              obtain ⟨j, hj⟩ := List.getElem?_of_mem hz
              have := HU.out j z hj
              have := HXL1.out
              omega) (by have := HXL1.out; simp; omega), ← HA2.out, upd_at (f := x'.1) (by rw [List.getElem?_map, HGR.out]; rfl), List.map_set])
          obtain ⟨W6, hW6⟩ : ∃ W6, W5.setCell ⟨gg, xs.length * 5 + 3, none⟩ u5 = W6 := ⟨_, rfl⟩
          rw [hW6] at HM5 ⊢
          clear hg5 ho5 hat5 hW6 hck hgb
          go_wp2
          go_roundg g
          case measure => omega
          case rel =>
            refine ⟨i + 1, _, ys2, _, _, by omega, by go_num, hidI ?_, hidI ?_, HA5, hidI ?_, HM5⟩
            · have := HW2.out
              rw [HTD.out] at this
              rw [List.length_set, HX2.out]
              exact (by simpa using this)
            · rw [← HY.out]; simp
            · have := HXL1.out
              have := HX2.out
              simp
              omega
end Go.Proofs.YtnlplkchkhibaaaDoor
/-
  The document's Alone.
-/
namespace Go.Proofs.YtnlplkchkhibaaaDoor
open Go.RowKit Go.Deep Go.MapKept
set_option maxHeartbeats 1000000 in
theorem ralone_off (fv : Value) (ms : List MV) (at' : Int) (w : World) (hsm : SeesM w fv ms) (hkl : ∀ x ∈ ms, x.1.kids.length ≤ 17592186044416) {t' : Int} {all : List (Int × Int)} {ok : Bool} (hW : WalkR (kidsOf ms) ms.length 0 (-1) (-1) [at'] t' all ok) (h1 : all.length = 0 ∨ 400 < all.length) :
    Calls Tryd.prog 22 #[fv, .int .i64 at'] w (NonePost w (if all.length = 0 then 2 else 4)) := by
  have HS := hidI (rsize_any fv ms at' w hsm hkl hW)
  obtain ⟨⟨_, fa, fc, rfl, _⟩, _⟩ := hsm
  have hin : all.length = 0 ↔ ¬ (0 ≤ at' ∧ at' < ms.length) := by
    cases hW with
    | skip h h2 => cases h2; exact ⟨fun _ hh => h ⟨by omega, hh.2⟩, fun _ => rfl⟩
    | full h2 h3 h4 => omega
    | cut h2 h3 h4 h5 => simp; omega
    | more h2 h3 h4 h5 h6 => simp; omega
  obtain ⟨L, hL⟩ : ∃ L, all.length = L := ⟨_, rfl⟩
  rw [hL] at HS h1 hin ⊢
  clear hL hW hkl
  rcases h1 with rfl | h1
  · rw [if_pos rfl]
    have hno := hin.1 rfl
    clear HS hin
    by_cases h0 : at' < 0
    · go_enter Tryd.func22, Tryd.ntmps22
      go_wp2
      refine bodyPost_ret (results_3t rfl _ _ _) rfl ?_
      exact ⟨rfl, Below.refl _ _⟩
    · have h2 : (ms.length : Int) ≤ at' := by omega
      clear hno
      go_enter Tryd.func22, Tryd.ntmps22
      go_wp2
      refine bodyPost_ret (results_3t rfl _ _ _) rfl ?_
      exact ⟨rfl, Below.refl _ _⟩
  · rw [if_neg (by omega)]
    have hyes : 0 ≤ at' ∧ at' < ms.length := Decidable.not_not.1 fun h => by have := hin.2 h; omega
    have n0 : ¬ at' < 0 := by omega
    have n1 : ¬ ((ms.length : Int) ≤ at') := by omega
    have q2 : (400 : Int) < (L : Int) := by omega
    clear hin hyes
    go_enter Tryd.func22, Tryd.ntmps22
    go_wp2_with (go_at_call 34; refine HS.out.mono ?_; rintro e w1 ⟨rfl, hb1⟩; have HB1 := hidI hb1; clear hb1)
    refine bodyPost_ret (results_3t rfl _ _ _) rfl ?_
    exact ⟨rfl, HB1.out⟩
set_option maxHeartbeats 1000000 in
theorem ralone_ok (fv : Value) (ms : List MV) (at' : Int) (w : World) (hsm : SeesM w fv ms) (hkl : ∀ x ∈ ms, x.1.kids.length ≤ 17592186044416) (hml : ms.length ≤ 1000000) {t' : Int} {all : List (Int × Int)} {ok : Bool} (hW : WalkR (kidsOf ms) ms.length 0 (-1) (-1) [at'] t' all ok) (h1 : 0 < all.length) (h4 : all.length ≤ 400) :
    Calls Tryd.prog 22 #[fv, .int .i64 at'] w (AlonePost w (ms.map fun x => natF x.1) all) := by
  have HS := hidI (rsize_any fv ms at' w hsm hkl hW)
  have HM := hidI hsm
  have HKL := hidI hkl
  obtain ⟨⟨_, fa, fc, rfl, _⟩, _⟩ := hsm
  obtain ⟨ys, t1, hall, hat0, hat1, hw1⟩ : ∃ ys t1, all = (-1, at') :: ys ∧ 0 ≤ at' ∧ at' < ms.length ∧ WalkR (kidsOf ms) ms.length 1 0 at' (kidsOf ms at') t1 ys true := by
    cases hW with
    | skip h h2 => cases h2; simp at h1
    | full h2 h3 h5 => simp at h1
    | cut h2 h3 h5 h6 =>
      have := walk_full h6 rfl
      simp at h4
      omega
    | more h2 h3 h5 h6 h7 =>
      cases h7
      exact ⟨_, _, congrArg (List.cons _) (List.append_nil _), by omega, h3, by simpa using h6⟩
  obtain ⟨an, rfl⟩ : ∃ an : Nat, at' = (an : Int) := ⟨at'.toNat, by omega⟩
  have hal : an < ms.length := by omega
  have hx : ms[an]? = some ms[an] := List.getElem?_eq_getElem hal
  obtain ⟨x, hxe⟩ : ∃ x, ms[an] = x := ⟨_, rfl⟩
  rw [hxe] at hx
  have hkm : kidsOf ms (an : Int) = x.1.kids := by unfold kidsOf; rw [show ((an : Int)).toNat = an by omega, hx]
  rw [hkm] at hw1
  have n0 : ¬ (an : Int) < 0 := by omega
  have n1 : ¬ ((ms.length : Int) ≤ (an : Int)) := by omega
  have q2 : ¬ (400 : Int) < (all.length : Int) := by omega
  have hyl : 1 + ys.length ≤ 401 := by rw [hall] at h4; simp at h4; omega
  have HX := hidI hx
  have HW1 := hidI hw1
  have HAL := hidI hall
  obtain ⟨L, hL⟩ : ∃ L, all.length = L := ⟨_, rfl⟩
  rw [hL] at HS q2
  clear hL hW hkl hx hxe hkm hw1 hall h1 h4
  go_enter Tryd.func22, Tryd.ntmps22
  go_wp2_with (first
    | (go_at_call 34; refine HS.out.mono ?_; rintro e w1 ⟨rfl, hb1⟩; have HB1 := hidI hb1; have C := hidI (move_any (.slice fa ms.length fc) ms w1 (HM.out.below hb1 (Nat.le_refl _)) HKL.out hml w1.heap.size (Nat.le_refl _) _ an x [] (.slice none 0 0) (w1.alloc (.cells #[.slice fa ms.length fc, .slice none 0 0] 74)) _ ys (Nat.lt_succ_self _) HX.out (by simpa using hyl) (by simp) (by simpa using HW1.out) ⟨by go_simp, by go_simp, by go_simp, AR.nil _ _, (Below.refl _ w1).alloc (Nat.le_refl _) _⟩); clear hb1)
    | (go_at_call 35; refine C.out.mono ?_; rintro e w2 ⟨rfl, xs, v, hxs, hv⟩; have k1 := hv.c1; have HV := hidI hv; have HXS := hidI hxs; obtain ⟨va, vc, rfl⟩ := own_slice hv.rows.own; clear hv hxs C))
  refine bodyPost_ret (results_3t rfl _ _ _) rfl ?_
  have hz := HB1.out.size
  have hbw := HB1.out.trans (HV.out.below.mono HB1.out.size)
  refine ⟨_, _, xs, rfl, ?_, (HV.out.rows.down ((Below.refl _ w2).alloc (Nat.le_refl _) _)).lower (by omega), int_at (W := w2) (b := w2.heap.size) 0 rfl, hbw.alloc (Nat.le_trans hz HV.out.below.size) _⟩
  rw [HXS.out, HAL.out, List.foldl_cons]
  congr 1
  unfold stepA
  simp [HX.out, upd]
end Go.Proofs.YtnlplkchkhibaaaDoor
/-
  Alone and Both of the program and of the document: the same answer.
-/
namespace Go.Proofs.YtnlplkchkhibaaaDoor
open Go.RowKit Go.Deep Go.MapKept
/-- An answer: forms, places, an error. -/
def TwoR (w : World) (ns : List Fm) (ps : List Int) (n : Int) (e : Ending) (w' : World) : Prop := ∃ v u xs, e = .returned (.tuple #[v, u, .int .i64 n]) ∧ xs.map Prod.fst = ns ∧ SeesM w' v xs ∧ SeesC w' u ps.length 1 (intsI ps) ∧ Below w.heap.size w w'
def Small (ns : List Fm) (ps : List Int) : Prop := ns.length ≤ 1000000 ∧ (∀ f ∈ ns, f.kids.length ≤ 1000000) ∧ ps.length ≤ 1000000
theorem small_none : Small [] [] := ⟨by simp, by simp, by simp⟩
theorem two_none {w : World} {n : Int} {e : Ending} {w' : World} (h : NonePost w n e w') : TwoR w [] [] n e w' := by
  obtain ⟨rfl, hb⟩ := h
  exact ⟨_, _, [], rfl, rfl, ⟨⟨rfl, none, 0, rfl, .inl rfl⟩, fun i x hx => by simp at hx⟩, ⟨rfl, none, 0, rfl, .inl rfl⟩, hb⟩
theorem two_alone {w : World} {fs : List Frm} {all : List (Int × Int)} {e : Ending} {w' : World} (h : AlonePost w fs all e w') : TwoR w ((all.foldl (stepA fs) []).map toFm) [0] 0 e w' := by
  obtain ⟨v, u, xs, rfl, hx, hr, hu, hb⟩ := h
  refine ⟨v, u, _, rfl, ?_, hr.sees, hu, hb⟩
  rw [← hx, List.map_map, List.map_map]
  rfl
theorem alone_same (fv : Value) (ms : List MV) (at' : Int) (w : World) (hsm : SeesM w fv ms) (hkl : ∀ x ∈ ms, x.1.kids.length ≤ 17592186044416) (hsl : ∀ x ∈ ms, x.1.s.size ≤ 140737488355328) (hml : ms.length ≤ 1000000) :
    ∃ ns ps n, Small ns ps ∧ (∀ W, Below w.heap.size w W → Calls Tryd.prog 21 #[fv, .int .i64 at'] W (TwoR W ns ps n)) ∧ (∀ W, Below w.heap.size w W → Calls Tryd.prog 22 #[fv, .int .i64 at'] W (TwoR W ns ps n)) := by
  obtain ⟨t', all, ok, hW⟩ := walk_is (kidsOf ms) ms.length _ 0 (-1) (-1) [at'] (Nat.le_refl _)
  by_cases h : all.length = 0 ∨ 400 < all.length
  · exact ⟨[], [], _, small_none, fun W hb => (alone_off fv ms at' W (hsm.below hb (Nat.le_refl _)) hkl hml hW h).mono fun e w' h => two_none h, fun W hb => (ralone_off fv ms at' W (hsm.below hb (Nat.le_refl _)) hkl hW h).mono fun e w' h => two_none h⟩
  · refine ⟨_, _, _, ?_, fun W hb => (alone_gen fv ms at' W (hsm.below hb (Nat.le_refl _)) hkl hsl hml hW (by omega) (by omega)).mono fun e w' h => two_alone h, fun W hb => (ralone_ok fv ms at' W (hsm.below hb (Nat.le_refl _)) hkl hml hW (by omega) (by omega)).mono fun e w' h => two_alone h⟩
    refine ⟨?_, fun f hf => ?_, by simp⟩
    · rw [List.length_map, fold_len all [] (fun y hy => by
        obtain ⟨j, hj⟩ := List.getElem?_of_mem hy
        have := hW.ups (by omega) j y hj
        rw [List.length_map]
        exact ⟨this.1, this.2.1⟩)]
      simp
      omega
    · obtain ⟨g, hg, rfl⟩ := List.mem_map.1 hf
      have := fold_kl (M := 0) all [] (by simp) g hg
      simp only [toFm, List.length_map]
      omega
theorem segI_named {ms : List MV} {top : List Int} (h : SegI (kidsOf ms) 0 ms.length top) : namedN ms top = ms.length := by
  obtain ⟨fs, hms, hs, hc⟩ := nat_of h
  have hlen := len_same hms
  have h1 := named_sum hms top ms.length (Nat.le_refl _)
  rw [List.take_length] at h1
  rw [h1, hlen]
  have h2 := hs.sum
  simp [sumTo] at h2 ⊢
  omega
theorem foldl_ge : ∀ (l : List Int) (a : Int), (∀ x ∈ l, 0 ≤ x) → a ≤ l.foldl (· + ·) a ∧ ∀ x ∈ l, a + x ≤ l.foldl (· + ·) a
  | [], a, _ => ⟨Int.le_refl _, by simp⟩
  | y :: r, a, h => by
    have hy := h y (by simp)
    obtain ⟨h1, h2⟩ := foldl_ge r (a + y) (fun x hx => h x (by simp [hx]))
    simp only [List.foldl_cons]
    refine ⟨by omega, fun x hx => ?_⟩
    rcases List.mem_cons.1 hx with rfl | hx
    · exact h1
    · have := h2 x hx; omega
theorem right_few {ms : List MV} {top : List Int} (h : RightP ms top) : top.length ≤ 400 ∧ ∀ x ∈ ms, x.1.kids.length ≤ 400 := by
  have h1 := segI_named h.2.2.1
  have h2 := h.1
  unfold namedN at h1
  obtain ⟨h3, h4⟩ := foldl_ge (ms.map fun x => (x.1.kids.length : Int)) (top.length : Int) (fun x hx => by
    obtain ⟨y, _, rfl⟩ := List.mem_map.1 hx
    omega)
  refine ⟨by omega, fun x hx => ?_⟩
  have := h4 _ (List.mem_map_of_mem (f := fun x : MV => (x.1.kids.length : Int)) hx)
  omega
theorem up_zero {l : List Int} (h : ∀ c ∈ l, 0 ≤ c ∧ c < 100000) : up 0 l = l := by
  unfold up
  conv => rhs; rw [← List.map_id l]
  refine List.map_congr_left fun c hc => ?_
  have := h c hc
  rw [IntKind.wrap_i64]
  simp only [id]
  omega
theorem two_both {w : World} {ms : List MV} {top : List Int} {e : Ending} {w' : World} (hR : RightP ms top) (h : BothPost w ms ms top top e w') : TwoR w (ms.map Prod.fst ++ ms.map (fun x => upF (ms.length : Int) x.1)) (top ++ up (ms.length : Int) top) 0 e w' := by
  obtain ⟨v, u, xs, rfl, ho, hx, hu, hb⟩ := h
  obtain ⟨m1, m2⟩ := hR.2.2.1.mem
  have hl := hR.1
  have et : up 0 top = top := up_zero fun c hc => by have := m1 c hc; omega
  have em : ms.map (fun x => upF 0 x.1) = ms.map Prod.fst := List.map_congr_left fun x hx => by
    obtain ⟨i, hi⟩ := List.getElem?_of_mem hx
    have hil := (List.getElem?_eq_some_iff.1 hi).1
    have hk : kidsOf ms (i : Int) = x.1.kids := by unfold kidsOf; rw [show ((i : Int)).toNat = i by omega, hi]
    have : up 0 x.1.kids = x.1.kids := up_zero fun c hc => by
      have := m2 (i : Int) (by omega) (by omega) c (by rw [hk]; exact hc)
      omega
    unfold upF
    rw [this]
  rw [em] at hx
  rw [et] at hu
  refine ⟨v, u, xs, rfl, hx, ho.sees, ?_, hb⟩
  have := seesC_of_owns hu
  rw [List.length_append, up_length]
  exact this
theorem two_rboth {w : World} {ms : List MV} {top : List Int} {e : Ending} {w' : World} (h : RBothPost w ms top e w') : TwoR w (ms.map Prod.fst ++ ms.map (fun x => upF (ms.length : Int) x.1)) (top ++ up (ms.length : Int) top) 0 e w' := h
theorem both_two (fv tv : Value) (ms : List MV) (top : List Int) (w : World) (hL : Laid w) (hsm : SeesM w fv ms) (ht : SeesC w tv top.length 1 (intsI top)) (htl : top.length ≤ 281474976710656) (hkl : ∀ x ∈ ms, x.1.kids.length ≤ 17592186044416) (hsl : ∀ x ∈ ms, x.1.s.size ≤ 140737488355328) :
    ∃ ns ps n, Small ns ps ∧ (∀ W, Below w.heap.size w W → Calls Tryd.prog 23 #[fv, tv, fv, tv] W (TwoR W ns ps n)) ∧ (∀ W, Below w.heap.size w W → Calls Tryd.prog 24 #[fv, tv, fv, tv] W (TwoR W ns ps n)) := by
  have hk2 : ∀ x ∈ ms, x.1.kids.length ≤ 281474976710656 := fun x hx => by have := hkl x hx; omega
  have c1 : ∀ W, Below w.heap.size w W → RightC fv tv (isR ms top) W := fun W hb V hv => pright_any fv tv ms top V ((hL.on hb).on hv) ((hsm.below hb (Nat.le_refl _)).below hv (Nat.le_refl _)) ((ht.below hb (Nat.le_refl _)).below hv (Nat.le_refl _)) htl hk2 hsl
  have c2 : ∀ W, Below w.heap.size w W → RightD fv tv (isR ms top) W := fun W hb V hv => rright_any fv tv ms top V ((hsm.below hb (Nat.le_refl _)).below hv (Nat.le_refl _)) ((ht.below hb (Nat.le_refl _)).below hv (Nat.le_refl _)) htl hk2 hsl
  have hsm0 := hsm
  have ht0 := ht
  obtain ⟨⟨_, fa, fc, hfv, _⟩, _⟩ := hsm0
  obtain ⟨_, ta, tc, htv, _⟩ := ht0
  by_cases hR : RightP ms top
  · rw [isR_true hR] at c1 c2
    have h400 := hR.1
    obtain ⟨r1, r2⟩ := right_few hR
    by_cases hl : 400 < ms.length + ms.length
    · subst hfv htv
      exact ⟨[], [], 4, small_none, fun W hb => (both_long _ _ _ _ _ _ _ _ _ _ _ _ W hl h400 h400 (c1 W hb) (c1 W hb)).mono fun e w' h => two_none h, fun W hb => (rboth_long _ _ _ _ _ _ W hl h400 (c2 W hb)).mono fun e w' h => two_none h⟩
    · refine ⟨_, _, _, ⟨by simp; omega, fun f hf => ?_, by simp [up_length]; omega⟩, fun W hb => (both_ok fv tv fv tv ms ms top top W (hsm.below hb (Nat.le_refl _)) (ht.below hb (Nat.le_refl _)) (hsm.below hb (Nat.le_refl _)) (ht.below hb (Nat.le_refl _)) (by omega) (by omega) (by omega) (fun x hx => by have := r2 x hx; omega) hsl (fun x hx => by have := r2 x hx; omega) hsl (c1 W hb) (c1 W hb)).mono fun e w' h => two_both hR h,
        fun W hb => (rboth_ok fv tv ms top W (hsm.below hb (Nat.le_refl _)) (ht.below hb (Nat.le_refl _)) (by omega) r1 r2 (c2 W hb)).mono fun e w' h => two_rboth h⟩
      rcases List.mem_append.1 hf with hf | hf
      · obtain ⟨x, hx, rfl⟩ := List.mem_map.1 hf
        have := r2 x hx
        omega
      · obtain ⟨x, hx, rfl⟩ := List.mem_map.1 hf
        have := r2 x hx
        simp only [upF, up_length]
        omega
  · rw [isR_false hR] at c1 c2
    subst hfv htv
    exact ⟨[], [], 3, small_none, fun W hb => (both_bad1 _ _ _ _ _ _ _ _ _ _ _ _ W (c1 W hb)).mono fun e w' h => two_none h, fun W hb => (rboth_bad _ _ _ _ _ _ W (c2 W hb)).mono fun e w' h => two_none h⟩
end Go.Proofs.YtnlplkchkhibaaaDoor
/-
  TreeCuts: the law.
-/
namespace Go.Proofs.YtnlplkchkhibaaaDoor
open Go.RowKit Go.Deep Go.MapKept
theorem sees_low {W : World} {a : Option Addr} {n cap size : Nat} {cs : List Value} (h : SeesC W (.slice a n cap) n size cs) (i : Nat) (hi : i ≤ n) : SeesC W (.slice a i cap) i size (cs.take (i * size)) := by
  obtain ⟨hl, a', cap', he, hs⟩ := h
  simp only [Value.slice.injEq] at he
  obtain ⟨rfl, _, rfl⟩ := he
  have hmul := Nat.mul_le_mul_right size hi
  refine ⟨by rw [List.length_take]; omega, _, cap, rfl, ?_⟩
  rcases hs with h0 | ⟨b, off, rfl, hs⟩
  · exact .inl (by omega)
  · refine .inr ⟨b, off, rfl, fun j u hu => hs j u ?_⟩
    rw [List.getElem?_take] at hu
    split at hu
    · exact hu
    · cases hu
theorem flatM_take : ∀ (ms : List MV) (i : Nat), flatM (ms.take i) = (flatM ms).take (i * 5)
  | [], i => by simp [flatM]
  | x :: r, 0 => by simp [flatM]
  | x :: r, i + 1 => by
    have := flatM_take r i
    rw [List.take_succ_cons]
    have e : ∀ l : List MV, flatM (x :: l) = mcells x ++ flatM l := fun l => by simp [flatM]
    rw [e, e, this, show (i + 1) * 5 = (mcells x).length + i * 5 by simp [mcells]; omega, List.take_length_add_append]
theorem SeesM.take {w : World} {a : Option Addr} {cap : Nat} {ms : List MV} (h : SeesM w (.slice a ms.length cap) ms) (i : Nat) (hi : i ≤ ms.length) : SeesM w (.slice a i cap) (ms.take i) := by
  refine ⟨?_, fun j x hx => h.kid j x ?_⟩
  · have := sees_low h.row i hi
    rw [flatM_take, List.length_take, show min i ms.length = i by omega]
    exact this
  · rw [List.getElem?_take] at hx
    split at hx
    · exact hx
    · cases hx
theorem forms_any (a : Option Addr) (cap : Nat) (ms : List MV) (hcap : ms.length ≤ cap) (w : World) (h : SeesM w (.slice a ms.length cap) ms) : ∃ v, SeesM w v (ms.take 405) ∧ ∀ W, Calls Tryd.prog 19 #[.slice a ms.length cap] W fun e w' => e = .returned v ∧ W = w' := by
  by_cases hl : ms.length ≤ 405
  · have e1 : ¬ (405 : Int) < (ms.length : Int) := by omega
    refine ⟨.slice a ms.length cap, by rw [List.take_of_length_le hl]; exact h, fun W => ?_⟩
    go_enter Tryd.func19, Tryd.ntmps19
    go_wp2
    go_ret
    exact ⟨rfl, rfl⟩
  · have e1 : (405 : Int) < (ms.length : Int) := by omega
    have e2 : (405 : Int) ≤ (cap : Int) := by omega
    refine ⟨.slice a 405 cap, h.take 405 (by omega), fun W => ?_⟩
    go_enter Tryd.func19, Tryd.ntmps19
    go_wp2
    go_ret
    exact ⟨rfl, rfl⟩
theorem places_any (a : Option Addr) (cap : Nat) (l : List Int) (hcap : l.length ≤ cap) (w : World) (h : SeesC w (.slice a l.length cap) l.length 1 (intsI l)) : ∃ v, SeesC w v (l.take 100).length 1 (intsI (l.take 100)) ∧ ∀ W, Calls Tryd.prog 20 #[.slice a l.length cap] W fun e w' => e = .returned v ∧ W = w' := by
  by_cases hl : l.length ≤ 100
  · have e1 : ¬ (100 : Int) < (l.length : Int) := by omega
    refine ⟨.slice a l.length cap, by rw [List.take_of_length_le hl]; exact h, fun W => ?_⟩
    go_enter Tryd.func20, Tryd.ntmps20
    go_wp2
    go_ret
    exact ⟨rfl, rfl⟩
  · have e1 : (100 : Int) < (l.length : Int) := by omega
    have e2 : (100 : Int) ≤ (cap : Int) := by omega
    refine ⟨.slice a 100 cap, ?_, fun W => ?_⟩
    · have := sees_low h 100 (by omega)
      rw [List.length_take, show min 100 l.length = 100 by omega, show intsI (l.take 100) = (intsI l).take (100 * 1) by simp [intsI, List.map_take]]
      exact this
    go_enter Tryd.func20, Tryd.ntmps20
    go_wp2
    go_ret
    exact ⟨rfl, rfl⟩
/-- Two answers that are the same: Same and SameInts say so. -/
theorem two_same {ns : List Fm} {ps : List Int} (hS : Small ns ps) {v v' u u' : Value} {xs xs' : List MV} (h1 : xs.map Prod.fst = ns) (h2 : xs'.map Prod.fst = ns) (w : World) (hv : SeesM w v xs) (hv' : SeesM w v' xs') (hu : SeesC w u ps.length 1 (intsI ps)) (hu' : SeesC w u' ps.length 1 (intsI ps)) :
    ∀ W, Below w.heap.size w W → (Calls Tryd.prog 13 #[v, v'] W fun e w' => e = .returned (.bool true) ∧ Below W.heap.size W w') ∧ (Calls Tryd.prog 14 #[u, u'] W fun e w' => e = .returned (.bool true) ∧ Below W.heap.size W w') := by
  intro W hb
  have hl : xs.length = ns.length := by rw [← h1]; simp
  refine ⟨same_eq v v' xs xs' (h1.trans h2.symm) (by have := hS.1; omega) (fun x hx => by have := hS.2.1 x.1 (by rw [← h1]; exact List.mem_map_of_mem hx); omega) W (hv.below hb (Nat.le_refl _)) (hv'.below hb (Nat.le_refl _)), ?_⟩
  refine (sameInts_eq u u' ps (by have := hS.2.2; omega) W (hu.below hb (Nat.le_refl _)) (hu'.below hb (Nat.le_refl _))).mono ?_
  rintro e w' ⟨rfl, n, rfl⟩
  exact ⟨rfl, ⟨rfl, rfl, rfl, Nat.le_refl _, fun _ _ => rfl⟩⟩
set_option maxHeartbeats 2000000 in
theorem treeCuts_law (ms : List MV) (top : List Int) (a b : Option Addr) (cap cap' : Nat) (at' : Int) (hc : ms.length ≤ cap) (hc' : top.length ≤ cap') (w : World) (hsm : SeesM w (.slice a ms.length cap) ms) (ht : SeesC w (.slice b top.length cap') top.length 1 (intsI top)) (hL : Laid w) (hkl : ∀ x ∈ ms, x.1.kids.length ≤ 17592186044416) (hsl : ∀ x ∈ ms, x.1.s.size ≤ 140737488355328) :
    Calls Tryd.prog 5 #[.slice a ms.length cap, .slice b top.length cap', .int .i64 at'] w fun e w' => e = .returned (.bool true) ∧ Below w.heap.size w w' := by
  obtain ⟨v, hv, cf⟩ := forms_any a cap ms hc w hsm
  obtain ⟨u, hu, cp⟩ := places_any b cap' top hc' w ht
  have hk2 : ∀ x ∈ ms.take 405, x.1.kids.length ≤ 17592186044416 := fun x hx => hkl x (List.mem_of_mem_take hx)
  have hs2 : ∀ x ∈ ms.take 405, x.1.s.size ≤ 140737488355328 := fun x hx => hsl x (List.mem_of_mem_take hx)
  obtain ⟨ns, ps, n, hS, a1, a2⟩ := alone_same v (ms.take 405) at' w hv hk2 hs2 (by rw [List.length_take]; omega)
  obtain ⟨ns2, ps2, n2, hS2, b1, b2⟩ := both_two v u (ms.take 405) (top.take 100) w hL hv hu (by rw [List.length_take]; omega) hk2 hs2
  have CF := hidI cf
  have CP := hidI cp
  have A1 := hidI a1
  have A2 := hidI a2
  have B1 := hidI b1
  have B2 := hidI b2
  have HS := hidI hS
  have HS2 := hidI hS2
  have HL := hidI hL
  clear hv cf hu cp a1 a2 b1 b2 hS hS2 hL hsm ht hk2 hs2 hkl hsl hc hc'
  go_enter Tryd.func5, Tryd.ntmps5
  go_wp2_with (first
    | (go_at_call 19; refine (CF.out _).mono ?_; rintro e w' ⟨rfl, rfl⟩)
    | (go_at_call 20; refine (CP.out _).mono ?_; rintro e w' ⟨rfl, rfl⟩)
    | (go_at_call 21; refine (A1.out _ (Below.refl _ _)).mono ?_; rintro e w1 ⟨v1, u1, xs1, rfl, p1, p2, p3, p4⟩; have P1 := hidI p1; have P2 := hidI p2; have P3 := hidI p3; have Q1 := hidI p4; clear p1 p2 p3 p4)
    | (go_at_call 22; refine (A2.out _ Q1.out).mono ?_; rintro e w2 ⟨v2, u2, xs2, rfl, p1, p2, p3, p4⟩; have Q2 := hidI (Q1.out.trans (p4.mono Q1.out.size)); have T2 := hidI (two_same HS.out P1.out p1 w2 (P2.out.below p4 (Nat.le_refl _)) p2 (P3.out.below p4 (Nat.le_refl _)) p3); clear p1 p2 p3 p4 P1 P2 P3)
    | (go_at_call 23; refine (B1.out _ Q2.out).mono ?_; rintro e w3 ⟨v3, u3, xs3, rfl, p1, p2, p3, p4⟩; have P1 := hidI p1; have P2 := hidI p2; have P3 := hidI p3; have R3 := hidI p4; have Q3 := hidI (Q2.out.trans (p4.mono Q2.out.size)); clear p1 p2 p3 p4)
    | (go_at_call 24; refine (B2.out _ Q3.out).mono ?_; rintro e w4 ⟨v4, u4, xs4, rfl, p1, p2, p3, p4⟩; have R4 := hidI (R3.out.trans (p4.mono R3.out.size)); have Q4 := hidI (Q3.out.trans (p4.mono Q3.out.size)); have T4 := hidI (two_same HS2.out P1.out p1 w4 (P2.out.below p4 (Nat.le_refl _)) p2 (P3.out.below p4 (Nat.le_refl _)) p3); clear p1 p2 p3 p4 P1 P2 P3)
    | (go_at_call 12; refine (tlive_any _ (HL.out.on Q4.out)).mono ?_; rintro e w5 ⟨rfl, hb⟩; have R5 := hidI (R4.out.trans (hb.mono R4.out.size)); have S5 := hidI hb; clear hb)
    | (have hh := T2.out; clear hh; go_at_call 13; refine ((T2.out _ R5.out).1).mono ?_; rintro e w6 ⟨rfl, hb⟩; have R6 := hidI (R5.out.trans (hb.mono R5.out.size)); have S6 := hidI (S5.out.trans (hb.mono S5.out.size)); clear hb)
    | (have hh := T2.out; clear hh; go_at_call 14; refine ((T2.out _ R6.out).2).mono ?_; rintro e w7 ⟨rfl, hb⟩; have S7 := hidI (S6.out.trans (hb.mono S6.out.size)); clear hb T2)
    | (have hh := S7.out; clear hh; go_at_call 13; refine ((T4.out _ S7.out).1).mono ?_; rintro e w8 ⟨rfl, hb⟩; have S8 := hidI (S7.out.trans (hb.mono S7.out.size)); clear hb)
    | (have hh := S8.out; clear hh; go_at_call 14; refine ((T4.out _ S8.out).2).mono ?_; rintro e w9 ⟨rfl, hb⟩; have S9 := hidI (S8.out.trans (hb.mono S8.out.size)); clear hb))
  go_ret
  exact ⟨rfl, Q4.out.trans (S9.out.mono Q4.out.size)⟩
end Go.Proofs.YtnlplkchkhibaaaDoor
