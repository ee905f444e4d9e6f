/-
  A form put behind the others, with no kids, in whatever order.
-/
import Derived.Test.YtnlplkchkhibaaaDoorTwoM
import Derived.Test.YtnlplkchkhibaaaDoorReg12
namespace Go.Proofs.YtnlplkchkhibaaaDoor
open Go.RowKit Go.Deep Go.MapKept
def oa12 : Array Oper := #[{ dst := some 39, op := Op.load 23 (Operand.tmp 8), type := 23, pos := "copy.go:23", after := #[], guard := none }, { dst := some 40, op := Op.load 23 (Operand.tmp 2), type := 23, pos := "copy.go:23", after := #[], guard := none }, { dst := some 41, op := Op.move (Operand.tmp 10), type := 3, pos := "copy.go:23", after := #[], guard := none }, { dst := some 42, op := Op.indexAddr 23 (Operand.tmp 40) (Operand.tmp 41), type := 0, pos := "copy.go:23", after := #[{ on := 1, ground := Ground.data }, { on := 2, ground := Ground.data }], guard := none }, { dst := some 43, op := Op.load 40 (Operand.tmp 42), type := 40, pos := "copy.go:23", after := #[{ on := 3, ground := Ground.data }], guard := none }, { dst := some 44, op := Op.call { callee := Callee.value (Operand.func 33), args := #[Operand.tmp 43], argTypes := #[40] }, type := 40, pos := "copy.go:23", after := #[{ on := 4, ground := Ground.data }], guard := none }, { dst := some 45, op := Op.buildSlice 23 1 #[(0, Operand.tmp 44)], type := 23, pos := "copy.go:23", after := #[{ on := 5, ground := Ground.data }], guard := none }, { dst := some 46, op := Op.call { callee := Callee.builtin Builtin.append, args := #[Operand.tmp 39, Operand.tmp 45], argTypes := #[23, 23] }, type := 23, pos := "copy.go:23", after := #[{ on := 0, ground := Ground.data }, { on := 6, ground := Ground.data }, { on := 5, ground := Ground.chain }], guard := none }, { dst := none, op := Op.store 23 (Operand.tmp 8) (Operand.tmp 46), type := 0, pos := "copy.go:23", after := #[{ on := 7, ground := Ground.data }, { on := 7, ground := Ground.chain }, { on := 0, ground := Ground.phase }, { on := 1, ground := Ground.phase }, { on := 2, ground := Ground.phase }, { on := 3, ground := Ground.phase }, { on := 4, ground := Ground.phase }, { on := 5, ground := Ground.phase }, { on := 6, ground := Ground.phase }, { on := 7, ground := Ground.phase }], guard := none }]
theorem oa12_0 : oa12[0]? = some { dst := some 39, op := Op.load 23 (Operand.tmp 8), type := 23, pos := "copy.go:23", after := #[], guard := none } := by kernel_rfl
theorem oa12_1 : oa12[1]? = some { dst := some 40, op := Op.load 23 (Operand.tmp 2), type := 23, pos := "copy.go:23", after := #[], guard := none } := by kernel_rfl
theorem oa12_2 : oa12[2]? = some { dst := some 41, op := Op.move (Operand.tmp 10), type := 3, pos := "copy.go:23", after := #[], guard := none } := by kernel_rfl
theorem oa12_3 : oa12[3]? = some { dst := some 42, op := Op.indexAddr 23 (Operand.tmp 40) (Operand.tmp 41), type := 0, pos := "copy.go:23", after := #[{ on := 1, ground := Ground.data }, { on := 2, ground := Ground.data }], guard := none } := by kernel_rfl
theorem oa12_4 : oa12[4]? = some { dst := some 43, op := Op.load 40 (Operand.tmp 42), type := 40, pos := "copy.go:23", after := #[{ on := 3, ground := Ground.data }], guard := none } := by kernel_rfl
theorem oa12_5 : oa12[5]? = some { dst := some 44, op := Op.call { callee := Callee.value (Operand.func 33), args := #[Operand.tmp 43], argTypes := #[40] }, type := 40, pos := "copy.go:23", after := #[{ on := 4, ground := Ground.data }], guard := none } := by kernel_rfl
theorem oa12_6 : oa12[6]? = some { dst := some 45, op := Op.buildSlice 23 1 #[(0, Operand.tmp 44)], type := 23, pos := "copy.go:23", after := #[{ on := 5, ground := Ground.data }], guard := none } := by kernel_rfl
theorem oa12_7 : oa12[7]? = some { dst := some 46, op := Op.call { callee := Callee.builtin Builtin.append, args := #[Operand.tmp 39, Operand.tmp 45], argTypes := #[23, 23] }, type := 23, pos := "copy.go:23", after := #[{ on := 0, ground := Ground.data }, { on := 6, ground := Ground.data }, { on := 5, ground := Ground.chain }], guard := none } := by kernel_rfl
theorem oa12_8 : oa12[8]? = some { dst := none, op := Op.store 23 (Operand.tmp 8) (Operand.tmp 46), type := 0, pos := "copy.go:23", after := #[{ on := 7, ground := Ground.data }, { on := 7, ground := Ground.chain }, { on := 0, ground := Ground.phase }, { on := 1, ground := Ground.phase }, { on := 2, ground := Ground.phase }, { on := 3, ground := Ground.phase }, { on := 4, ground := Ground.phase }, { on := 5, ground := Ground.phase }, { on := 6, ground := Ground.phase }, { on := 7, ground := Ground.phase }], guard := none } := by kernel_rfl
set_option maxRecDepth 100000 in
set_option maxHeartbeats 1500000 in
theorem regA12 {l n : Nat} {x0 x1 x3 x4 x5 x6 x7 x9 x11 x12 x13 x14 x15 x16 x17 x18 x19 x20 x21 x22 x23 x24 x25 x26 x27 x28 x29 x30 x31 x32 x33 x34 x35 x36 x37 x38 x39 x40 x41 x42 x43 x44 x45 x46 x47 x48 : Value} {Q : Exit → Act → World → Prop} {V0 : World} {B8 B2 base fb fo fl fc q kn kc m : Nat} {ka : Option Addr} {u : Value} {cs : List Value} {k n' p : Int} {s : ByteArray}
    (hC : ∀ w, Calls Tryd.prog 33 #[.agg #[.int .u8 k, .string s, .int .i64 n', .slice ka kn kc, .int .i64 p]] w fun e w' => e = .returned (.agg #[.int .u8 k, .string s, .int .i64 n', .slice none 0 0, .int .i64 p]) ∧ Below w.heap.size w w')
    (hS0 : V0.drew.cell? ⟨B8, 0, none⟩ = some u ∧ V0.drew.cell? ⟨B2, 0, none⟩ = some (.slice (some ⟨fb, fo, none⟩) fl fc) ∧ V0.drew.cell? ⟨fb, fo + q * 5, none⟩ = some (.int .u8 k) ∧ V0.drew.cell? ⟨fb, fo + q * 5 + 1, none⟩ = some (.string s) ∧ V0.drew.cell? ⟨fb, fo + q * 5 + 2, none⟩ = some (.int .i64 n') ∧ V0.drew.cell? ⟨fb, fo + q * 5 + 3, none⟩ = some (.slice ka kn kc) ∧ V0.drew.cell? ⟨fb, fo + q * 5 + 4, none⟩ = some (.int .i64 p)) (hfz : V0.drew.frozen? ⟨B8, 0, none⟩ = false) (hown : V0.drew.ownsRow base 40 5 u m cs) (hr : m ≤ 600) (hbase : base ≤ V0.drew.heap.size) (hq : q < fl)
    (hg : u.ownBlock ≠ some B8) (hg2 : u.ownBlock ≠ some B2) (hg3 : u.ownBlock ≠ some fb)
    (hQ : ∀ (W1 W5 : World) (u' : Value) (t39 t40 t41 t42 t43 t44 t45 t46 : Value), Below V0.drew.heap.size V0.drew W1 → (W1.alloc (.cells #[.int .u8 k, .string s, .int .i64 n', .slice none 0 0, .int .i64 p] 40)).grownBy W5 u.ownBlock → W5.ownsRow base 40 5 u' (m + 1) (cs ++ [.int .u8 k, .string s, .int .i64 n', .slice none 0 0, .int .i64 p]) → (u'.ownBlock = u.ownBlock ∨ u'.ownBlock = some (W1.heap.size + 1)) → Q .normal { tmps := #[x0, x1, .pointer (some ⟨B2, 0, none⟩), x3, x4, x5, x6, x7, .pointer (some ⟨B8, 0, none⟩), x9, .int .i64 (q : Int), x11, x12, x13, x14, x15, x16, x17, x18, x19, x20, x21, x22, x23, x24, x25, x26, x27, x28, x29, x30, x31, x32, x33, x34, x35, x36, x37, x38, t39, t40, t41, t42, t43, t44, t45, t46, x47, x48], defers := [] } (W5.setCell ⟨B8, 0, none⟩ u')) :
    (Code.region 12 oa12 true).wpIn (WR l) n Tryd.prog Q { tmps := #[x0, x1, .pointer (some ⟨B2, 0, none⟩), x3, x4, x5, x6, x7, .pointer (some ⟨B8, 0, none⟩), x9, .int .i64 (q : Int), x11, x12, x13, x14, x15, x16, x17, x18, x19, x20, x21, x22, x23, x24, x25, x26, x27, x28, x29, x30, x31, x32, x33, x34, x35, x36, x37, x38, x39, x40, x41, x42, x43, x44, x45, x46, x47, x48], defers := [] } V0 := by
  refine round_Z (fun y => y.cell? ⟨B8, 0, none⟩ = some u ∧ y.cell? ⟨B2, 0, none⟩ = some (.slice (some ⟨fb, fo, none⟩) fl fc) ∧ y.cell? ⟨fb, fo + q * 5, none⟩ = some (.int .u8 k) ∧ y.cell? ⟨fb, fo + q * 5 + 1, none⟩ = some (.string s) ∧ y.cell? ⟨fb, fo + q * 5 + 2, none⟩ = some (.int .i64 n') ∧ y.cell? ⟨fb, fo + q * 5 + 3, none⟩ = some (.slice ka kn kc) ∧ y.cell? ⟨fb, fo + q * 5 + 4, none⟩ = some (.int .i64 p)) 8 (by kernel_rfl) ?_
  obtain ⟨V, hV⟩ : ∃ V, V0.drew = V := ⟨_, rfl⟩
  rw [hV] at hS0 hfz hown hbase hQ ⊢
  clear hV
  have HOwn := hidI hown
  have HQ := hidI hQ
  have HC := hidI hC
  have HPan : Hid (∀ c (a : Act) w (dd : Tmp) vv, Goes (Q .normal) (.panic c) (a.put (some dd) vv) w → Goes (Q .normal) (.panic c) a w) := hidI fun _ _ _ _ _ h => h
  have hgl : B8 < V.heap.size := World.block_lt_of_cell? V _ hS0.1
  have hgl2 : B2 < V.heap.size := World.block_lt_of_cell? V _ hS0.2.1
  have hgl3 : fb < V.heap.size := World.block_lt_of_cell? V _ hS0.2.2.1
  have e2 : (q : Int) < (fl : Int) := by omega
  have e3 : (0 : Int) ≤ (q : Int) := by omega
  have e5 : ((q : Int)).toNat = q := by omega
  have hu1 : ∃ ua ul uc, u = .slice ua ul uc := by
    rcases hown.2 with ⟨rfl, _⟩ | ⟨_, _, _, rfl, _⟩ <;> exact ⟨_, _, _, rfl⟩
  obtain ⟨ua, ul, uc, rfl⟩ := hu1
  clear hown hQ hC
  refine wpZ_take [8] (i := 0) (v := (.slice ua ul uc)) oa12_0 (by kernel_rfl) (by kernel_rfl) (by kernel_rfl) (by kernel_rfl) (fun c a w h => HPan.out c a w _ _ h) (.inl ⟨by rfl, fun y hy => ?_⟩) hS0 ?_
  · obtain ⟨y0, y1, y2, y3, y4, y5, y6⟩ := hy; go_simp
  refine wpZ_take [8] (i := 1) (v := (.slice (some ⟨fb, fo, none⟩) fl fc)) oa12_1 (by kernel_rfl) (by kernel_rfl) (by kernel_rfl) (by kernel_rfl) (fun c a w h => HPan.out c a w _ _ h) (.inl ⟨by rfl, fun y hy => ?_⟩) hS0 ?_
  · obtain ⟨y0, y1, y2, y3, y4, y5, y6⟩ := hy; go_simp
  refine wpZ_take [8] (i := 2) (v := (.int .i64 (q : Int))) oa12_2 (by kernel_rfl) (by kernel_rfl) (by kernel_rfl) (by kernel_rfl) (fun c a w h => HPan.out c a w _ _ h) (.inl ⟨by rfl, fun y hy => ?_⟩) hS0 ?_
  · go_simp
  refine wpZ_take [8] (i := 3) (v := (.pointer (some ⟨fb, fo + q * 5, none⟩))) oa12_3 (by kernel_rfl) (by kernel_rfl) (by kernel_rfl) (by kernel_rfl) (fun c a w h => HPan.out c a w _ _ h) (.inl ⟨by rfl, fun y hy => ?_⟩) hS0 ?_
  · go_simp
  refine wpZ_take [8] (i := 4) (v := (.agg #[.int .u8 k, .string s, .int .i64 n', .slice ka kn kc, .int .i64 p])) oa12_4 (by kernel_rfl) (by kernel_rfl) (by kernel_rfl) (by kernel_rfl) (fun c a w h => HPan.out c a w _ _ h) (.inl ⟨by rfl, fun y hy => ?_⟩) hS0 ?_
  · obtain ⟨y0, y1, y2, y3, y4, y5, y6⟩ := hy; go_simp
  have HKS : Hid (∀ y : World, Below V.heap.size V y → y.cell? ⟨B8, 0, none⟩ = some (.slice ua ul uc) ∧ y.cell? ⟨B2, 0, none⟩ = some (.slice (some ⟨fb, fo, none⟩) fl fc) ∧ y.cell? ⟨fb, fo + q * 5, none⟩ = some (.int .u8 k) ∧ y.cell? ⟨fb, fo + q * 5 + 1, none⟩ = some (.string s) ∧ y.cell? ⟨fb, fo + q * 5 + 2, none⟩ = some (.int .i64 n') ∧ y.cell? ⟨fb, fo + q * 5 + 3, none⟩ = some (.slice ka kn kc) ∧ y.cell? ⟨fb, fo + q * 5 + 4, none⟩ = some (.int .i64 p)) := hidI fun y hy => ⟨(hy.cell hgl).trans hS0.1, (hy.cell hgl2).trans hS0.2.1, (hy.cell hgl3).trans hS0.2.2.1, (hy.cell hgl3).trans hS0.2.2.2.1, (hy.cell hgl3).trans hS0.2.2.2.2.1, (hy.cell hgl3).trans hS0.2.2.2.2.2.1, (hy.cell hgl3).trans hS0.2.2.2.2.2.2⟩
  refine wpZ_all (rs := [5]) (by kernel_rfl) (by simp) fun j5 hj5 => ?_
  obtain rfl : j5 = 5 := by simpa using hj5
  refine wpOp_go oa12_5 rfl fun K1 hK1 => ?_
  unfold Oper.wp
  go_simp
  refine Calls.mono (HC.out _) ?_
  rintro e W1 ⟨rfl, hb1⟩
  have H1 := hidI hb1
  have hS1 := HKS.out _ hb1
  have hf1 : W1.frozen? ⟨B8, 0, none⟩ = false := (hb1.frozen (p := ⟨B8, 0, none⟩) hgl).trans hfz
  have HO1 := hidI (own_below HOwn.out hb1 (Nat.le_refl _))
  have hz1 := hb1.size
  clear hb1
  refine hK1 _ _ ⟨fun _ => hS1, ?_⟩
  clear hK1 K1
  refine wpZ_all (rs := [6]) (by kernel_rfl) (by simp) fun j6 hj6 => ?_
  obtain rfl : j6 = 6 := by simpa using hj6
  refine wpOp_go oa12_6 rfl fun K1 hK1 => ?_
  unfold Oper.wp
  go_simp
  have hA : Below V.heap.size V (W1.alloc (.cells #[.int .u8 k, .string s, .int .i64 n', .slice none 0 0, .int .i64 p] 40)) := H1.out.alloc hz1 _
  have hSA := HKS.out _ hA
  refine hK1 _ _ ⟨fun _ => hSA, ?_⟩
  clear hK1 K1
  have HO2 := hidI (HO1.out.alloc (.cells #[.int .u8 k, .string s, .int .i64 n', .slice none 0 0, .int .i64 p] 40))
  have HV := hidI (mv_seen (W := W1) (a := .int .u8 k) (b := .string s) (c := .int .i64 n') (d := .slice none 0 0) (f := .int .i64 p))
  have hfA : (W1.alloc (.cells #[.int .u8 k, .string s, .int .i64 n', .slice none 0 0, .int .i64 p] 40)).frozen? ⟨B8, 0, none⟩ = false := (hA.frozen (p := ⟨B8, 0, none⟩) hgl).trans hfz
  have hszA : (W1.alloc (.cells #[.int .u8 k, .string s, .int .i64 n', .slice none 0 0, .int .i64 p] 40)).heap.size = W1.heap.size + 1 := by simp
  obtain ⟨VA, hVA⟩ : ∃ VA, W1.alloc (.cells #[.int .u8 k, .string s, .int .i64 n', .slice none 0 0, .int .i64 p] 40) = VA := ⟨_, rfl⟩
  rw [hVA] at HO2 HV hSA hfA hszA ⊢
  have HVA := hidI hVA
  clear hVA hA
  refine wpZ_all (rs := [7]) (by kernel_rfl) (by simp) fun j7 hj7 => ?_
  obtain rfl : j7 = 7 := by simpa using hj7
  refine wpOp_go oa12_7 rfl fun K1 hK1 => ?_
  refine wp_append_any Tryd.underlying23 Tryd.info40x rfl (by decide) (by decide) _ _ rfl base _ m cs rfl HO2.out _ 1 [.int .u8 k, .string s, .int .i64 n', .slice none 0 0, .int .i64 p] rfl HV.out (by simp [Value.oneCell']) (by omega) (by omega) ?_
  intro u' W5 hown5 hgrow5 hat5
  have HO5 := hidI hown5
  have HG5 := hidI hgrow5
  have HA5 := hidI hat5
  obtain ⟨z0, z1, z2, z3, z4, z5, z6⟩ := hSA
  have hS5 : W5.cell? ⟨B8, 0, none⟩ = some (.slice ua ul uc) ∧ W5.cell? ⟨B2, 0, none⟩ = some (.slice (some ⟨fb, fo, none⟩) fl fc) ∧ W5.cell? ⟨fb, fo + q * 5, none⟩ = some (.int .u8 k) ∧ W5.cell? ⟨fb, fo + q * 5 + 1, none⟩ = some (.string s) ∧ W5.cell? ⟨fb, fo + q * 5 + 2, none⟩ = some (.int .i64 n') ∧ W5.cell? ⟨fb, fo + q * 5 + 3, none⟩ = some (.slice ka kn kc) ∧ W5.cell? ⟨fb, fo + q * 5 + 4, none⟩ = some (.int .i64 p) := ⟨hgrow5.cell z0 (fun e => hg e.symm), hgrow5.cell z1 (fun e => hg2 e.symm), hgrow5.cell z2 (fun e => hg3 e.symm), hgrow5.cell z3 (fun e => hg3 e.symm), hgrow5.cell z4 (fun e => hg3 e.symm), hgrow5.cell z5 (fun e => hg3 e.symm), hgrow5.cell z6 (fun e => hg3 e.symm)⟩
  have hf5 : W5.frozen? ⟨B8, 0, none⟩ = false := (World.frozen?_of_block (w := VA) (a := ⟨B8, 0, none⟩) (hgrow5.block B8 (by omega) (fun e => hg e.symm))).trans hfA
  have hc5 := hS5.1
  obtain ⟨a6, l6, c6, hv6⟩ : ∃ a6 l6 c6, u' = .slice a6 l6 c6 := by
    rcases hown5.2 with ⟨rfl, _⟩ | ⟨_, _, _, rfl, _⟩ <;> exact ⟨_, _, _, rfl⟩
  subst hv6
  refine hK1 _ _ ⟨fun _ => hS5, ?_⟩
  clear hK1 K1 hown5 hgrow5 hat5 hS5
  refine wpZ_last (by kernel_rfl) (by kernel_rfl) ?_ _
  refine wpOp_go oa12_8 rfl fun K1 hK1 => ?_
  unfold Oper.wp
  go_simp
  refine hK1 _ _ ?_
  exact HQ.out W1 W5 _ _ _ _ _ _ _ _ _ H1.out (by rw [HVA.out]; exact HG5.out) HO5.out (by rw [← hszA]; exact HA5.out)
end Go.Proofs.YtnlplkchkhibaaaDoor
/-
  A place put behind a form's kids, in whatever order.
-/
namespace Go.Proofs.YtnlplkchkhibaaaDoor
open Go.RowKit Go.Deep Go.MapKept
def oa11 : Array Oper := #[{ dst := some 26, op := Op.load 23 (Operand.tmp 8), type := 23, pos := "copy.go:21", after := #[], guard := none }, { dst := some 27, op := Op.move (Operand.tmp 9), type := 3, pos := "copy.go:21", after := #[], guard := none }, { dst := some 28, op := Op.load 23 (Operand.tmp 8), type := 23, pos := "copy.go:21", after := #[], guard := none }, { dst := some 29, op := Op.move (Operand.tmp 9), type := 3, pos := "copy.go:21", after := #[], guard := none }, { dst := some 30, op := Op.indexAddr 23 (Operand.tmp 28) (Operand.tmp 29), type := 0, pos := "copy.go:21", after := #[{ on := 2, ground := Ground.data }, { on := 3, ground := Ground.data }], guard := none }, { dst := some 31, op := Op.fieldAddr 40 (Operand.tmp 30) 3, type := 0, pos := "copy.go:21", after := #[{ on := 4, ground := Ground.data }], guard := none }, { dst := some 32, op := Op.load 24 (Operand.tmp 31), type := 24, pos := "copy.go:21", after := #[{ on := 5, ground := Ground.data }], guard := none }, { dst := some 33, op := Op.load 23 (Operand.tmp 8), type := 23, pos := "copy.go:21", after := #[], guard := none }, { dst := some 34, op := Op.call { callee := Callee.builtin Builtin.len, args := #[Operand.tmp 33], argTypes := #[23] }, type := 3, pos := "copy.go:21", after := #[{ on := 7, ground := Ground.data }], guard := none }, { dst := some 35, op := Op.buildSlice 24 1 #[(0, Operand.tmp 34)], type := 24, pos := "copy.go:21", after := #[{ on := 8, ground := Ground.data }], guard := none }, { dst := some 36, op := Op.call { callee := Callee.builtin Builtin.append, args := #[Operand.tmp 32, Operand.tmp 35], argTypes := #[24, 24] }, type := 24, pos := "copy.go:21", after := #[{ on := 6, ground := Ground.data }, { on := 9, ground := Ground.data }], guard := none }, { dst := some 37, op := Op.indexAddr 23 (Operand.tmp 26) (Operand.tmp 27), type := 0, pos := "copy.go:21", after := #[{ on := 0, ground := Ground.data }, { on := 1, ground := Ground.data }, { on := 0, ground := Ground.phase }, { on := 1, ground := Ground.phase }, { on := 2, ground := Ground.phase }, { on := 3, ground := Ground.phase }, { on := 4, ground := Ground.phase }, { on := 5, ground := Ground.phase }, { on := 6, ground := Ground.phase }, { on := 7, ground := Ground.phase }, { on := 8, ground := Ground.phase }, { on := 9, ground := Ground.phase }, { on := 10, ground := Ground.phase }], guard := none }, { dst := some 38, op := Op.fieldAddr 40 (Operand.tmp 37) 3, type := 0, pos := "copy.go:21", after := #[{ on := 11, ground := Ground.data }, { on := 0, ground := Ground.phase }, { on := 1, ground := Ground.phase }, { on := 2, ground := Ground.phase }, { on := 3, ground := Ground.phase }, { on := 4, ground := Ground.phase }, { on := 5, ground := Ground.phase }, { on := 6, ground := Ground.phase }, { on := 7, ground := Ground.phase }, { on := 8, ground := Ground.phase }, { on := 9, ground := Ground.phase }, { on := 10, ground := Ground.phase }], guard := none }, { dst := none, op := Op.store 24 (Operand.tmp 38) (Operand.tmp 36), type := 0, pos := "copy.go:21", after := #[{ on := 12, ground := Ground.data }, { on := 10, ground := Ground.data }, { on := 10, ground := Ground.chain }, { on := 0, ground := Ground.phase }, { on := 1, ground := Ground.phase }, { on := 2, ground := Ground.phase }, { on := 3, ground := Ground.phase }, { on := 4, ground := Ground.phase }, { on := 5, ground := Ground.phase }, { on := 6, ground := Ground.phase }, { on := 7, ground := Ground.phase }, { on := 8, ground := Ground.phase }, { on := 9, ground := Ground.phase }, { on := 10, ground := Ground.phase }], guard := none }]
theorem oa11_0 : oa11[0]? = some { dst := some 26, op := Op.load 23 (Operand.tmp 8), type := 23, pos := "copy.go:21", after := #[], guard := none } := by kernel_rfl
theorem oa11_1 : oa11[1]? = some { dst := some 27, op := Op.move (Operand.tmp 9), type := 3, pos := "copy.go:21", after := #[], guard := none } := by kernel_rfl
theorem oa11_2 : oa11[2]? = some { dst := some 28, op := Op.load 23 (Operand.tmp 8), type := 23, pos := "copy.go:21", after := #[], guard := none } := by kernel_rfl
theorem oa11_3 : oa11[3]? = some { dst := some 29, op := Op.move (Operand.tmp 9), type := 3, pos := "copy.go:21", after := #[], guard := none } := by kernel_rfl
theorem oa11_4 : oa11[4]? = some { dst := some 30, op := Op.indexAddr 23 (Operand.tmp 28) (Operand.tmp 29), type := 0, pos := "copy.go:21", after := #[{ on := 2, ground := Ground.data }, { on := 3, ground := Ground.data }], guard := none } := by kernel_rfl
theorem oa11_5 : oa11[5]? = some { dst := some 31, op := Op.fieldAddr 40 (Operand.tmp 30) 3, type := 0, pos := "copy.go:21", after := #[{ on := 4, ground := Ground.data }], guard := none } := by kernel_rfl
theorem oa11_6 : oa11[6]? = some { dst := some 32, op := Op.load 24 (Operand.tmp 31), type := 24, pos := "copy.go:21", after := #[{ on := 5, ground := Ground.data }], guard := none } := by kernel_rfl
theorem oa11_7 : oa11[7]? = some { dst := some 33, op := Op.load 23 (Operand.tmp 8), type := 23, pos := "copy.go:21", after := #[], guard := none } := by kernel_rfl
theorem oa11_8 : oa11[8]? = some { dst := some 34, op := Op.call { callee := Callee.builtin Builtin.len, args := #[Operand.tmp 33], argTypes := #[23] }, type := 3, pos := "copy.go:21", after := #[{ on := 7, ground := Ground.data }], guard := none } := by kernel_rfl
theorem oa11_9 : oa11[9]? = some { dst := some 35, op := Op.buildSlice 24 1 #[(0, Operand.tmp 34)], type := 24, pos := "copy.go:21", after := #[{ on := 8, ground := Ground.data }], guard := none } := by kernel_rfl
theorem oa11_10 : oa11[10]? = some { dst := some 36, op := Op.call { callee := Callee.builtin Builtin.append, args := #[Operand.tmp 32, Operand.tmp 35], argTypes := #[24, 24] }, type := 24, pos := "copy.go:21", after := #[{ on := 6, ground := Ground.data }, { on := 9, ground := Ground.data }], guard := none } := by kernel_rfl
theorem oa11_11 : oa11[11]? = some { dst := some 37, op := Op.indexAddr 23 (Operand.tmp 26) (Operand.tmp 27), type := 0, pos := "copy.go:21", after := #[{ on := 0, ground := Ground.data }, { on := 1, ground := Ground.data }, { on := 0, ground := Ground.phase }, { on := 1, ground := Ground.phase }, { on := 2, ground := Ground.phase }, { on := 3, ground := Ground.phase }, { on := 4, ground := Ground.phase }, { on := 5, ground := Ground.phase }, { on := 6, ground := Ground.phase }, { on := 7, ground := Ground.phase }, { on := 8, ground := Ground.phase }, { on := 9, ground := Ground.phase }, { on := 10, ground := Ground.phase }], guard := none } := by kernel_rfl
theorem oa11_12 : oa11[12]? = some { dst := some 38, op := Op.fieldAddr 40 (Operand.tmp 37) 3, type := 0, pos := "copy.go:21", after := #[{ on := 11, ground := Ground.data }, { on := 0, ground := Ground.phase }, { on := 1, ground := Ground.phase }, { on := 2, ground := Ground.phase }, { on := 3, ground := Ground.phase }, { on := 4, ground := Ground.phase }, { on := 5, ground := Ground.phase }, { on := 6, ground := Ground.phase }, { on := 7, ground := Ground.phase }, { on := 8, ground := Ground.phase }, { on := 9, ground := Ground.phase }, { on := 10, ground := Ground.phase }], guard := none } := by kernel_rfl
theorem oa11_13 : oa11[13]? = some { dst := none, op := Op.store 24 (Operand.tmp 38) (Operand.tmp 36), type := 0, pos := "copy.go:21", after := #[{ on := 12, ground := Ground.data }, { on := 10, ground := Ground.data }, { on := 10, ground := Ground.chain }, { on := 0, ground := Ground.phase }, { on := 1, ground := Ground.phase }, { on := 2, ground := Ground.phase }, { on := 3, ground := Ground.phase }, { on := 4, ground := Ground.phase }, { on := 5, ground := Ground.phase }, { on := 6, ground := Ground.phase }, { on := 7, ground := Ground.phase }, { on := 8, ground := Ground.phase }, { on := 9, ground := Ground.phase }, { on := 10, ground := Ground.phase }], guard := none } := by kernel_rfl
set_option maxRecDepth 100000 in
set_option maxHeartbeats 1500000 in
theorem regA11 {l n : Nat} {x0 x1 x2 x3 x4 x5 x6 x7 x10 x11 x12 x13 x14 x15 x16 x17 x18 x19 x20 x21 x22 x23 x24 x25 x26 x27 x28 x29 x30 x31 x32 x33 x34 x35 x36 x37 x38 x39 x40 x41 x42 x43 x44 x45 x46 x47 x48 : Value} {Q : Exit → Act → World → Prop} {V0 : World} {B8 base g m uc q kn kc : Nat} {ka : Option Addr} {ks : List Value}
    (hS0 : V0.drew.cell? ⟨B8, 0, none⟩ = some (.slice (some ⟨g, 0, none⟩) m uc) ∧ V0.drew.cell? ⟨g, q * 5 + 3, none⟩ = some (.slice ka kn kc)) (hfz : V0.drew.frozen? ⟨g, q * 5 + 3, none⟩ = false) (hown : V0.drew.ownsRow base 3 1 (.slice ka kn kc) kn ks) (hr : kn ≤ 600) (hbase : base ≤ V0.drew.heap.size) (hq : q < m)
    (hg : Value.ownBlock (.slice ka kn kc) ≠ some B8) (hg2 : Value.ownBlock (.slice ka kn kc) ≠ some g)
    (hQ : ∀ (W5 : World) (u' : Value) (t26 t27 t28 t29 t30 t31 t32 t33 t34 t35 t36 t37 t38 : Value), (V0.drew.alloc (.cells #[.int .i64 (m : Int)] 3)).grownBy W5 (Value.ownBlock (.slice ka kn kc)) → W5.ownsRow base 3 1 u' (kn + 1) (ks ++ [.int .i64 (m : Int)]) → (u'.ownBlock = Value.ownBlock (.slice ka kn kc) ∨ u'.ownBlock = some (V0.drew.heap.size + 1)) → Q .normal { tmps := #[x0, x1, x2, x3, x4, x5, x6, x7, .pointer (some ⟨B8, 0, none⟩), .int .i64 (q : Int), x10, x11, x12, x13, x14, x15, x16, x17, x18, x19, x20, x21, x22, x23, x24, x25, t26, t27, t28, t29, t30, t31, t32, t33, t34, t35, t36, t37, t38, x39, x40, x41, x42, x43, x44, x45, x46, x47, x48], defers := [] } (W5.setCell ⟨g, q * 5 + 3, none⟩ u')) :
    (Code.region 11 oa11 true).wpIn (WR l) n Tryd.prog Q { tmps := #[x0, x1, x2, x3, x4, x5, x6, x7, .pointer (some ⟨B8, 0, none⟩), .int .i64 (q : Int), x10, x11, x12, x13, x14, x15, x16, x17, x18, x19, x20, x21, x22, x23, x24, x25, x26, x27, x28, x29, x30, x31, x32, x33, x34, x35, x36, x37, x38, x39, x40, x41, x42, x43, x44, x45, x46, x47, x48], defers := [] } V0 := by
  refine round_Z (fun y => y.cell? ⟨B8, 0, none⟩ = some (.slice (some ⟨g, 0, none⟩) m uc) ∧ y.cell? ⟨g, q * 5 + 3, none⟩ = some (.slice ka kn kc)) 13 (by kernel_rfl) ?_
  obtain ⟨V, hV⟩ : ∃ V, V0.drew = V := ⟨_, rfl⟩
  rw [hV] at hS0 hfz hown hbase hQ ⊢
  clear hV
  have HOwn := hidI hown
  have HQ := hidI hQ
  have HPan : Hid (∀ c (a : Act) w (dd : Tmp) vv, Goes (Q .normal) (.panic c) (a.put (some dd) vv) w → Goes (Q .normal) (.panic c) a w) := hidI fun _ _ _ _ _ h => h
  have hgl : B8 < V.heap.size := World.block_lt_of_cell? V _ hS0.1
  have hgl2 : g < V.heap.size := World.block_lt_of_cell? V _ hS0.2
  have e2 : (q : Int) < (m : Int) := by omega
  have e3 : (0 : Int) ≤ (q : Int) := by omega
  have e5 : ((q : Int)).toNat = q := by omega
  clear hown hQ
  refine wpZ_take [11, 12, 13] (i := 0) (v := (.slice (some ⟨g, 0, none⟩) m uc)) oa11_0 (by kernel_rfl) (by kernel_rfl) (by kernel_rfl) (by kernel_rfl) (fun c a w h => HPan.out c a w _ _ h) (.inl ⟨by rfl, fun y hy => ?_⟩) hS0 ?_
  · obtain ⟨y0, y1⟩ := hy; go_simp
  refine wpZ_take [11, 12, 13] (i := 1) (v := (.int .i64 (q : Int))) oa11_1 (by kernel_rfl) (by kernel_rfl) (by kernel_rfl) (by kernel_rfl) (fun c a w h => HPan.out c a w _ _ h) (.inl ⟨by rfl, fun y hy => ?_⟩) hS0 ?_
  · go_simp
  refine wpZ_take [11, 12, 13] (i := 2) (v := (.slice (some ⟨g, 0, none⟩) m uc)) oa11_2 (by kernel_rfl) (by kernel_rfl) (by kernel_rfl) (by kernel_rfl) (fun c a w h => HPan.out c a w _ _ h) (.inl ⟨by rfl, fun y hy => ?_⟩) hS0 ?_
  · obtain ⟨y0, y1⟩ := hy; go_simp
  refine wpZ_take [11, 12, 13] (i := 3) (v := (.int .i64 (q : Int))) oa11_3 (by kernel_rfl) (by kernel_rfl) (by kernel_rfl) (by kernel_rfl) (fun c a w h => HPan.out c a w _ _ h) (.inl ⟨by rfl, fun y hy => ?_⟩) hS0 ?_
  · go_simp
  refine wpZ_take [11, 12, 13] (i := 4) (v := (.pointer (some ⟨g, q * 5, none⟩))) oa11_4 (by kernel_rfl) (by kernel_rfl) (by kernel_rfl) (by kernel_rfl) (fun c a w h => HPan.out c a w _ _ h) (.inl ⟨by rfl, fun y hy => ?_⟩) hS0 ?_
  · go_simp
  refine wpZ_take [11, 12, 13] (i := 5) (v := (.pointer (some ⟨g, q * 5 + 3, none⟩))) oa11_5 (by kernel_rfl) (by kernel_rfl) (by kernel_rfl) (by kernel_rfl) (fun c a w h => HPan.out c a w _ _ h) (.inl ⟨by rfl, fun y hy => ?_⟩) hS0 ?_
  · go_simp
  refine wpZ_take [11, 12, 13] (i := 6) (v := (.slice ka kn kc)) oa11_6 (by kernel_rfl) (by kernel_rfl) (by kernel_rfl) (by kernel_rfl) (fun c a w h => HPan.out c a w _ _ h) (.inl ⟨by rfl, fun y hy => ?_⟩) hS0 ?_
  · obtain ⟨y0, y1⟩ := hy; go_simp
  refine wpZ_take [11, 12, 13] (i := 7) (v := (.slice (some ⟨g, 0, none⟩) m uc)) oa11_7 (by kernel_rfl) (by kernel_rfl) (by kernel_rfl) (by kernel_rfl) (fun c a w h => HPan.out c a w _ _ h) (.inl ⟨by rfl, fun y hy => ?_⟩) hS0 ?_
  · obtain ⟨y0, y1⟩ := hy; go_simp
  refine wpZ_take [11, 12, 13] (i := 8) (v := (.int .i64 (m : Int))) oa11_8 (by kernel_rfl) (by kernel_rfl) (by kernel_rfl) (by kernel_rfl) (fun c a w h => HPan.out c a w _ _ h) (.inl ⟨by rfl, fun y hy => ?_⟩) hS0 ?_
  · go_simp
  refine wpZ_all (rs := [9]) (by kernel_rfl) (by simp) fun j9 hj9 => ?_
  obtain rfl : j9 = 9 := by simpa using hj9
  refine wpOp_go oa11_9 rfl fun K1 hK1 => ?_
  unfold Oper.wp
  go_simp
  have hSA : (V.alloc (.cells #[.int .i64 (m : Int)] 3)).cell? ⟨B8, 0, none⟩ = some (.slice (some ⟨g, 0, none⟩) m uc) ∧ (V.alloc (.cells #[.int .i64 (m : Int)] 3)).cell? ⟨g, q * 5 + 3, none⟩ = some (.slice ka kn kc) := ⟨cell_al _ hS0.1, cell_al _ hS0.2⟩
  refine hK1 _ _ ⟨fun _ => hSA, ?_⟩
  clear hK1 K1
  have HO2 := hidI (HOwn.out.alloc (.cells #[.int .i64 (m : Int)] 3))
  have HV := hidI (int_seen (W := V) (m : Int))
  have hfA : (V.alloc (.cells #[.int .i64 (m : Int)] 3)).frozen? ⟨g, q * 5 + 3, none⟩ = false := (((Below.refl V.heap.size V).alloc (Nat.le_refl _) _).frozen (p := ⟨g, q * 5 + 3, none⟩) hgl2).trans hfz
  have hszA : (V.alloc (.cells #[.int .i64 (m : Int)] 3)).heap.size = V.heap.size + 1 := by simp
  obtain ⟨VA, hVA⟩ : ∃ VA, V.alloc (.cells #[.int .i64 (m : Int)] 3) = VA := ⟨_, rfl⟩
  rw [hVA] at HO2 HV hSA hfA hszA ⊢
  have HVA := hidI hVA
  clear hVA
  refine wpZ_all (rs := [10]) (by kernel_rfl) (by simp) fun j10 hj10 => ?_
  obtain rfl : j10 = 10 := by simpa using hj10
  refine wpOp_go oa11_10 rfl fun K1 hK1 => ?_
  refine wp_append_any Tryd.underlying24 Tryd.info3x rfl (by decide) (by decide) _ _ rfl base (.slice ka kn kc) kn ks rfl HO2.out _ 1 [.int .i64 (m : Int)] rfl HV.out (by simp [Value.oneCell']) (by omega) (by omega) ?_
  intro u' W5 hown5 hgrow5 hat5
  have HO5 := hidI hown5
  have HG5 := hidI hgrow5
  have HA5 := hidI hat5
  have hS5 : W5.cell? ⟨B8, 0, none⟩ = some (.slice (some ⟨g, 0, none⟩) m uc) ∧ W5.cell? ⟨g, q * 5 + 3, none⟩ = some (.slice ka kn kc) := ⟨hgrow5.cell hSA.1 (fun e => hg e.symm), hgrow5.cell hSA.2 (fun e => hg2 e.symm)⟩
  have hf5 : W5.frozen? ⟨g, q * 5 + 3, none⟩ = false := (World.frozen?_of_block (w := VA) (a := ⟨g, q * 5 + 3, none⟩) (hgrow5.block g (by omega) (fun e => hg2 e.symm))).trans hfA
  have hc5 := hS5.2
  obtain ⟨a6, l6, c6, hv6⟩ : ∃ a6 l6 c6, u' = .slice a6 l6 c6 := by
    rcases hown5.2 with ⟨rfl, _⟩ | ⟨_, _, _, rfl, _⟩ <;> exact ⟨_, _, _, rfl⟩
  subst hv6
  refine hK1 _ _ ⟨fun _ => hS5, ?_⟩
  clear hK1 K1 hown5 hgrow5 hat5
  refine wpZ_take [12, 13] (i := 11) (v := (.pointer (some ⟨g, q * 5, none⟩))) oa11_11 (by kernel_rfl) (by kernel_rfl) (by kernel_rfl) (by kernel_rfl) (fun c a w h => HPan.out c a w _ _ h) (.inl ⟨by rfl, fun y hy => ?_⟩) hS5 ?_
  · go_simp
  refine wpZ_take [13] (i := 12) (v := (.pointer (some ⟨g, q * 5 + 3, none⟩))) oa11_12 (by kernel_rfl) (by kernel_rfl) (by kernel_rfl) (by kernel_rfl) (fun c a w h => HPan.out c a w _ _ h) (.inl ⟨by rfl, fun y hy => ?_⟩) hS5 ?_
  · go_simp
  clear hS5
  refine wpZ_last (by kernel_rfl) (by kernel_rfl) ?_ _
  refine wpOp_go oa11_13 rfl fun K1 hK1 => ?_
  unfold Oper.wp
  go_simp
  refine hK1 _ _ ?_
  exact HQ.out W5 _ _ _ _ _ _ _ _ _ _ _ _ _ _ (by rw [HVA.out]; exact HG5.out) HO5.out (by rw [← hszA]; exact HA5.out)
end Go.Proofs.YtnlplkchkhibaaaDoor
/-
  The walk, ranged over, with its own boxes laid ahead.
-/
namespace Go.Proofs.YtnlplkchkhibaaaDoor
open Go.RowKit Go.Shelf Go.Deep Go.MapKept
attribute [local go_sem] Oper.semAt_some
/-- The function g with the captured lb tells all, to whatever loop leaves its cells alone; it lays three boxes, and turns them. -/
def SeqW5 (g : Nat) (lb : Array Value) (Tb : Nat → Prop) (all : List (Int × Int)) (w : World) : Prop :=
  ∀ (l : Nat) (J Jx : List (Int × Int) → World → Prop) (W : World), Below w.heap.size w W → W.heap.size = w.heap.size + 2 → OwnFrom W.heap.size J →
    (∀ pre X u k, w.heap.size + 2 ≤ k → k < w.heap.size + 5 → J pre X → J pre (X.setCell ⟨k, 0, none⟩ u)) →
    (∀ pre x W1, w.heap.size + 5 ≤ W1.heap.size → J pre W1 → (pre ++ [x]) <+: all → YieldAt Fence.wide 0 Tryd.prog l (encP x) W1 fun e W' =>
      KeepsFrom W.heap.size W1 W' ∧ ((e = .returned (.bool true) ∧ J (pre ++ [x]) W' ∧ Keeps (TW Tb) W1 W') ∨ (e = .returned (.bool false) ∧ Jx (pre ++ [x]) W'))) →
    J [] W →
    CallsIn Fence.wide 0 Tryd.prog g (#[.func (.yield l) #[] #[]] ++ lb) W fun e W' => (∃ v, e = .returned v) ∧ (J all W' ∨ (∃ pre, Jx pre W'))
set_option maxHeartbeats 1000000 in
theorem range_walk5 {g : Operand} {ps : Array Tmp} {assign body : Code} {Q : Exit → Act → World → Prop} {a : Act} {w : World} {gf : Nat} {lb : Array Value} (hg : a.eval g = .func (.func gf) #[] lb)
    (eg : ∀ args w, (callFunc gf args).run Tryd.prog w = .ok (.enter gf args) w) {Tb : Nat → Prop} {all : List (Int × Int)} (hseq : SeqW5 gf lb Tb all w) (hps : ps.size = 2)
    (I Ix : List (Int × Int) → World → Prop) (hI : OwnFrom w.heap.size I) (hIo : ∀ pre X u k, w.heap.size + 2 ≤ k → k < w.heap.size + 5 → I pre X → I pre (X.setCell ⟨k, 0, none⟩ u)) (hIx : OwnFrom w.heap.size Ix) (h0 : I [] w) (Ax : List (Int × Int) × (Int × Int) × Act → World → Prop) (hAx : OwnFrom w.heap.size Ax)
    (hassign : ∀ (l : Nat) (pre : List (Int × Int)) (x : Int × Int) (W : World) (K : Act → World → Prop), I pre W → (∀ a' W', KeepsFrom w.heap.size W W' → Keeps (TW Tb) W W' → Ax (pre, x, a') W' → K a' W') →
      assign.wpIn (WR l) 0 Tryd.prog (Exit.then K (fun _ _ _ => False)) { tmps := (ps.zip (encP x)).foldl (fun t (p, v) => t.setIfInBounds p v) a.tmps, defers := [] } W)
    (hbody : ∀ (l : Nat) (pre : List (Int × Int)) (x : Int × Int) (a' : Act) (W : World), (pre ++ [x]) <+: all → w.heap.size + 5 ≤ W.heap.size → Ax (pre, x, a') W → body.wpIn (WR l) 0 Tryd.prog (After w.heap.size (TW Tb) I Ix (pre ++ [x]) W) a' W)
    (hdone : ∀ (D : Nat) (xs : List (Int × Int)) (W : World), w.heap.size ≤ D → xs = all → I xs W → W.heap[D]? = some (.deferred (some [])) → Q .normal { a with defers := { target := .collected D, args := #[] } :: a.defers } W)
    (hstop : ∀ (D : Nat) (pre : List (Int × Int)) (W : World), w.heap.size ≤ D → Ix pre W → W.heap[D]? = some (.deferred (some [])) → Code.ret.wpIn Fence.wide 0 Tryd.prog Q { a with defers := { target := .collected D, args := #[] } :: a.defers } W) :
    (Code.rangeFunc g ps assign body).wpIn Fence.wide 0 Tryd.prog Q a w := by
  refine wpIn_rangeFunc fun fn _ => ?_
  obtain ⟨rec, hrec⟩ : ∃ rec : LoopState → Option Code → Loop, rec = fun st pe => { state := st, pending := pe, fn := fn, tmps := a.tmps, params := ps, assign := assign, body := body, defers := w.heap.size } := ⟨_, rfl⟩
  obtain ⟨W1, hW1⟩ : ∃ W1, (w.alloc (.deferred (some []))).alloc (.loop (rec .ready none)) = W1 := ⟨_, rfl⟩
  have hs1 : W1.heap.size = w.heap.size + 2 := by rw [← hW1]; simp
  have hb1 : Books W1 w.heap.size (rec .ready none) := by
    rw [← hW1]
    refine ⟨?_, (Below.heap_alloc _ _ _ (by simp)).trans (World.alloc_heap_new w _)⟩
    have := World.alloc_heap_new (w.alloc (.deferred (some []))) (.loop (rec .ready none))
    rwa [World.size_alloc] at this
  have hi1 : I [] W1 := by rw [← hW1]; exact hI.alloc _ (hI.alloc _ h0)
  have hw1 : Below w.heap.size w W1 := by rw [← hW1]; exact ((Below.refl _ w).alloc (Nat.le_refl _) _).alloc (by simp) _
  refine ⟨w.heap.size + 1, [{ target := .collected w.heap.size, args := #[] }], W1, { target := .fn (.func gf) lb, args := #[.func (.yield (w.heap.size + 1)) #[] #[]] }, W1, gf,
    #[.func (.yield (w.heap.size + 1)) #[] #[]] ++ lb, W1, ?_, ?_, fun _ _ => trivial, ?_, fun hd => (by cases hd), ?_⟩
  · rw [← hW1, hrec]; exact run_enterLoop_outer _ _ _ _ _
  · simp only [resolve, hg]
    simp [go_sem]
  · simp [invoke, go_sem, eg]
  refine (hseq (w.heap.size + 1) (fun pre W => I pre W ∧ Books W w.heap.size (rec .ready none)) (fun pre W => Ix pre W ∧ Books W w.heap.size (rec .done (some .ret))) W1 hw1 hs1 ?own1 ?own2 ?round ⟨hi1, hb1⟩).mono ?_
  case own1 =>
    rintro s X Y row ⟨hs, hb⟩ hg' hr
    refine ⟨hI s X Y row hs hg' fun r e => ⟨by have := (hr r e).1; omega, (hr r e).2⟩, hb.grown (B := W1.heap.size) hg' (by omega) fun k e => (hr k e).1⟩
  case own2 =>
    rintro pre X u k hk1 hk2 ⟨hs, hb⟩
    refine ⟨hIo pre X u k hk1 hk2 hs, ?_, ?_⟩
    · exact (Below.heap_setCell X ⟨k, 0, none⟩ u (w.heap.size + 1) (by simp; omega)).trans hb.1
    · exact (Below.heap_setCell X ⟨k, 0, none⟩ u w.heap.size (by simp; omega)).trans hb.2
  case round =>
    rintro pre x W hz5 ⟨hi, hb⟩ hlen
    have hy := run_yield (P := Tryd.prog) (args := encP x) hb.1 (by rw [hrec]; exact hps.symm)
    rw [hrec] at hy
    refine ⟨fn, _, assign, body, hy, roundIn_of_wpIn trivial (hassign _ pre x W _ hi ?_)⟩
    intro a' W' hk1 hbl1 hax
    have hb' := hb.keeps hk1
    refine ⟨_, run_beginRound hb'.1 (by rw [hrec]), ?_⟩
    obtain ⟨r2, hr2⟩ : ∃ r2, r2 = ({ rec .ready none with state := .busy } : Loop) := ⟨_, rfl⟩
    rw [← hr2]
    have hb2 : Books _ _ r2 := hb'.put r2
    have hax2 := hAx.putObj (.loop r2) hax (by omega) hb'.1 rfl
    have hbl2 : Keeps (TW Tb) W (W'.putObj (w.heap.size + 1) (.loop r2)) := hbl1.trans (keeps_put (not_loop Tb) hb' _)
    have hkf2 : KeepsFrom W1.heap.size W (W'.putObj (w.heap.size + 1) (.loop r2)) := by rw [hs1]; exact (from_mono hk1 (by omega)).trans (from_put _ _ _)
    refine wpIn_mono (hbody _ pre x a' _ hlen (Nat.le_trans hz5 hkf2.1) hax2) ?_
    intro e a3 W3 hp
    cases e with
    | normal =>
      obtain ⟨hk3, hbl3, hi3⟩ := hp
      have hb3 := hb2.keeps hk3
      refine ⟨_, _, run_endRound none hb3.1, hkf2.trans ((from_mono hk3 (by omega)).trans (by rw [hs1]; exact from_put _ _ _)), .inl ⟨rfl, ⟨hI.putObj _ hi3 (by omega) hb3.1 rfl, ?_⟩, hbl2.trans (hbl3.trans (keeps_put (not_loop Tb) hb3 _))⟩⟩
      have := hb3.put { r2 with state := .ready, pending := none }
      rw [hr2, hrec] at this ⊢
      exact this
    | ret =>
      obtain ⟨hk3, hi3⟩ := hp
      have hb3 := hb2.keeps hk3
      refine ⟨_, _, run_endRound (some .ret) hb3.1, hkf2.trans ((from_mono hk3 (by omega)).trans (by rw [hs1]; exact from_put _ _ _)), .inr ⟨rfl, hIx.putObj _ hi3 (by omega) hb3.1 rfl, ?_⟩⟩
      have := hb3.put { r2 with state := .done, pending := some .ret }
      rw [hr2, hrec] at this ⊢
      exact this
    | _ => exact hp.elim
  rintro e W2 ⟨⟨v, rfl⟩, ⟨hi, hb⟩ | ⟨pre, hi, hb⟩⟩
  · refine ⟨_, _, run_endLoop hb.1 (by rw [hrec]; simp), ?_⟩
    rw [hrec]
    exact hdone _ all _ (Nat.le_refl _) rfl (hI.putObj _ hi (by omega) hb.1 rfl) (hb.put _).2
  · refine ⟨_, _, run_endLoop hb.1 (by rw [hrec]; simp), ?_⟩
    rw [hrec]
    exact hstop _ pre _ (Nat.le_refl _) (hIx.putObj _ hi (by omega) hb.1 rfl) (hb.put _).2
set_option maxHeartbeats 2000000 in
theorem walk_seq5 (fv tv : Value) (ms : List MV) (top : List Int) (Bl Bt : Nat) (X : Nat → Prop) (w : World) (hfl : w.cell? ⟨Bl, 0, none⟩ = some fv) (htl : w.cell? ⟨Bt, 0, none⟩ = some tv) (hsm : SeesM w fv ms) (htp : SeesC w tv top.length 1 (intsI top))
    (hXl : ¬ X Bl) (hXn : ∀ k, w.heap.size ≤ k → ¬ X k) (hX : ∀ v n, DV fv tv ms top v n → 0 < n → ∀ k, v.ownBlock = some k → ¬ X k)
    (hkl : ∀ x ∈ ms, x.1.kids.length ≤ 4611686018427387904) (htn : top.length ≤ 4611686018427387904) (hml : ms.length ≤ 4611686018427387904)
    {t' : Int} {all : List (Int × Int)} {ok : Bool} (hW : WalkR (kidsOf ms) ms.length 0 (-1) (-1) top t' all ok) :
    SeqW5 47 #[.pointer (some ⟨Bl, 0, none⟩), .pointer (some ⟨Bt, 0, none⟩)] (WB X w.heap.size) all w := by
  intro l J Jx W hBW hsz hJ hJo hY h0
  have hmf : ∀ (fn : Fn) (first cap : Array Value) (w : World), (Instr.makeFunc fn first cap).run Tryd.prog w = .ok (.func fn first cap) w := fun _ _ _ _ => rfl
  have hY5 : ∀ pre x W1, (J pre W1 ∧ w.heap.size + 5 ≤ W1.heap.size) → (pre ++ [x]) <+: all → YieldAt Fence.wide 0 Tryd.prog l (encP x) W1 fun e W' =>
      KeepsFrom W.heap.size W1 W' ∧ ((e = .returned (.bool true) ∧ (J (pre ++ [x]) W' ∧ w.heap.size + 5 ≤ W'.heap.size) ∧ Keeps (TW (WB X w.heap.size)) W1 W') ∨ (e = .returned (.bool false) ∧ Jx (pre ++ [x]) W')) := fun pre x W1 h hp =>
    (hY pre x W1 h.2 h.1 hp).mono fun e W' q => ⟨q.1, q.2.imp (fun r => ⟨r.1, ⟨r.2.1, Nat.le_trans h.2 q.1.1⟩, r.2.2⟩) id⟩
  have hBll : Bl < w.heap.size := World.block_lt_of_cell? w _ hfl
  have hBtl : Bt < w.heap.size := World.block_lt_of_cell? w _ htl
  have hlow : ∀ v n, DV fv tv ms top v n → 0 < n → ∀ k, v.ownBlock = some k → k < w.heap.size := by
    rintro v n (⟨rfl, rfl⟩ | ⟨rfl, rfl⟩ | ⟨x, hx, rfl, rfl⟩) hn
    · exact sees_lt hsm.row (by decide) hn
    · exact sees_lt htp (by decide) hn
    · obtain ⟨i, hi⟩ := List.getElem?_of_mem hx
      exact sees_lt (hsm.kid i x hi) (by decide) hn
  have cl : W.cell? ⟨Bl, 0, none⟩ = some fv := (hBW.cell (p := ⟨Bl, 0, none⟩) hBll).trans hfl
  have ct : W.cell? ⟨Bt, 0, none⟩ = some tv := (hBW.cell (p := ⟨Bt, 0, none⟩) hBtl).trans htl
  obtain ⟨W3, hW3⟩ : ∃ W3, ((W.alloc (.cells #[.func (.yield l) #[] #[]] 85)).alloc (.cells #[.int .i64 0] 3)).alloc (.cells #[fn48 Bl (W.heap.size + 1) W.heap.size (W.heap.size + 1 + 1)] 86) = W3 := ⟨_, rfl⟩
  have hB3 : Below W.heap.size W W3 := by rw [← hW3]; (repeat (first | exact Below.refl _ _ | assumption | refine Below.drew ?_ | refine Below.alloc ?_ (by first | omega | (simp; done) | (simp; omega)) _ | refine Below.setCell ?_ (by first | omega | (simp; done) | (simp; omega)) _))
  have hBw : Below w.heap.size w W3 := hBW.trans (hB3.mono hBW.size)
  have hE : Env fv tv ms top l Bl (W.heap.size + 1) W.heap.size (W.heap.size + 1 + 1) W3 0 := by
    refine ⟨(hBw.cell (p := ⟨Bl, 0, none⟩) hBll).trans hfl, hsm.below hBw (Nat.le_refl _), htp.below hBw (Nat.le_refl _), ?_, ?_, ?_, ?_⟩ <;> rw [← hW3] <;> go_simp
  have hJ3 : J [] W3 := by rw [← hW3]; exact hJ.alloc _ (hJ.alloc _ (hJ.alloc _ h0))
  have hz3 : w.heap.size + 5 ≤ W3.heap.size := by rw [← hW3]; simp; omega
  have HI := hidI (into_any fv tv ms top l Bl (W.heap.size + 1) W.heap.size (W.heap.size + 1 + 1) W.heap.size (WB X w.heap.size) (by
      rintro k (rfl | rfl | rfl | rfl | ⟨v, n, hv, hn, e⟩)
      · exact ⟨hXl, by omega⟩
      · exact ⟨hXn _ (by omega), by omega⟩
      · exact ⟨hXn _ (by omega), by omega⟩
      · exact ⟨hXn _ (by omega), by omega⟩
      · exact ⟨hX v n hv hn k e, by have := hlow v n hv hn k e; omega⟩)
    (by omega) (by omega) (by omega) (fun v n hv hn e => by have := hlow v n hv hn _ e; omega) hkl htn hml (fun pre Y => J pre Y ∧ w.heap.size + 5 ≤ Y.heap.size) Jx (fun pre Y h => ⟨hJ pre Y _ none h.1 ⟨rfl, rfl, rfl, Nat.le_refl _, fun _ _ _ => rfl⟩ (fun _ e => by cases e), h.2⟩) (fun pre Y u h => ⟨hJo pre Y u _ (by omega) (by omega) h.1, by rw [World.size_setCell]; exact h.2⟩) all hY5
    (((ms.length : Int) - (-1)).toNat + 1) (-1) (-1) 0 tv top t' all ok [] W3 (by omega) (by omega) (by omega) (by omega) hW (.inl ⟨rfl, rfl⟩) ⟨[], by simp⟩ ⟨hJ3, hz3⟩ hE)
  have it3 := hE.it
  have ct3 : W3.cell? ⟨Bt, 0, none⟩ = some tv := (hBw.cell (p := ⟨Bt, 0, none⟩) hBtl).trans htl
  obtain ⟨_, ta, tc, rfl, _⟩ := htp
  clear hsz hB3 hBw hBW hY hY5 hz3 hJ hJo hJ3 hE hX hXn hXl hkl hlow hfl htl hsm h0 hW
  refine callsIn_of_wp Tryd.func47 rfl trivial ?_ rfl
  simp only [Tryd.ntmps47, List.size_toArray, List.length_cons, List.length_nil, Nat.reduceAdd, Nat.reduceSub, Array.replicate_succ, Array.replicate_zero, List.push_toArray, List.append_toArray, List.nil_append, List.cons_append]
  gi_wp2_with (refine ⟨trivial, rfl, ?_⟩; gi_at_call 48; refine HI.out.mono ?_; rintro e W9 ⟨bb, rfl, hres⟩)
  go_end0
  refine ⟨⟨_, rfl⟩, ?_⟩
  rcases hres with ⟨_, hJ9, _⟩ | ⟨_, hx⟩
  · exact .inl (by simpa using hJ9.1)
  · exact .inr hx
end Go.Proofs.YtnlplkchkhibaaaDoor
/-
  The forms that Alone puts together: rows of its own, apart.
-/
namespace Go.Proofs.YtnlplkchkhibaaaDoor
open Go.RowKit Go.Deep Go.MapKept
def AR (w : World) (base : Nat) (xs : List FV) (fv : Value) : Prop := RowsOk w base (⟨fv, 40, 5, xs.length, flatF xs⟩ :: xs.map kidRow)
section
variable {w w' : World} {base : Nat} {xs : List FV} {fv : Value}
theorem AR.nil (w : World) (base : Nat) : AR w base [] (.slice none 0 0) := by
  refine ⟨fun r hr => ?_, fun i j a b hi hj hij => ?_⟩
  · simp at hr; subst hr; exact World.ownsRow_nil _ _ _ _
  · cases i with
    | zero => simp at hi; subst hi; exact .inl rfl
    | succ i => simp at hi
theorem AR.own (h : AR w base xs fv) : w.ownsRow base 40 5 fv xs.length (flatF xs) := RowsOk.at (i := 0) h rfl
theorem AR.kid (h : AR w base xs fv) {i : Nat} {x : FV} (hx : xs[i]? = some x) : w.ownsRow base 3 1 x.2 x.1.kids.length (ints x.1.kids) :=
  RowsOk.at (i := i + 1) (r := kidRow x) h (by simp [hx])
theorem AR.apart (h : AR w base xs fv) {i : Nat} {x : FV} (hx : xs[i]? = some x) : Ap x.2 fv :=
  RowsOk.apart h (i + 1) 0 (kidRow x) _ (by simp [hx]) rfl (by omega)
theorem AR.down (h : AR w base xs fv) (hb : Below w.heap.size w w') : AR w' base xs fv :=
  ⟨fun r hr => own_below (RowsOk.own h r hr) hb (Nat.le_refl _), RowsOk.apart h⟩
theorem AR.low (h : AR w base xs fv) {k j : Nat} (hk : k < base) (u : Value) : AR (w.setCell ⟨k, j, none⟩ u) base xs fv :=
  ⟨fun r hr => ownsRow_setCell_below (RowsOk.own h r hr) hk u, RowsOk.apart h⟩
theorem AR.keptO (h : AR w base xs fv) {row : Option Nat} (hg : w.grownBy w' row) (hr : ∀ r, row = some r → ∃ o : Obj, w.heap[r]? = some o ∧ o.isCells = false) : AR w' base xs fv :=
  ⟨fun r hr' => own_kept (RowsOk.own h r hr') hg hr, RowsOk.apart h⟩
theorem AR.putF (h : AR w base xs fv) {fv' : Value} {f : Frm} (hf : f.kids = []) (hg : w.grownBy w' fv.ownBlock) (ho : w'.ownsRow base 40 5 fv' (xs.length + 1) (flatF xs ++ fcells (f, .slice none 0 0))) (hb : fv'.ownBlock = fv.ownBlock ∨ fv'.ownBlock = some w.heap.size) :
    AR w' base (xs ++ [(f, Value.slice none 0 0)]) fv' := by
  have ho' : w'.ownsRow base 40 5 fv' (xs ++ [(f, Value.slice none 0 0)]).length (flatF (xs ++ [(f, Value.slice none 0 0)])) := by
    rw [flatF_append, flatF_one, List.length_append]; exact ho
  have h1 := RowsOk.put (i := 0) (r' := ⟨fv', 40, 5, (xs ++ [(f, Value.slice none 0 0)]).length, flatF (xs ++ [(f, Value.slice none 0 0)])⟩) h rfl hg ho' (.inr hb)
  have h3 := RowsOk.push h1 3 1
  unfold AR
  have e : ((⟨fv', 40, 5, (xs ++ [(f, Value.slice none 0 0)]).length, flatF (xs ++ [(f, Value.slice none 0 0)])⟩ : Rw) :: (xs ++ [(f, Value.slice none 0 0)]).map kidRow) = (((⟨fv, 40, 5, xs.length, flatF xs⟩ : Rw) :: xs.map kidRow).set 0 ⟨fv', 40, 5, (xs ++ [(f, Value.slice none 0 0)]).length, flatF (xs ++ [(f, Value.slice none 0 0)])⟩) ++ [⟨.slice none 0 0, 3, 1, 0, []⟩] := by
    simp [kidRow, hf, ints]
  rw [e]
  exact h3
theorem AR.putK (h : AR w base xs fv) {b g cap : Nat} {x : FV} {kv' : Value} {n : Nat} (hx : xs[b]? = some x) (hv : fv = .slice (some ⟨g, 0, none⟩) xs.length cap) (hg : w.grownBy w' x.2.ownBlock) (ho : w'.ownsRow base 3 1 kv' (x.1.kids.length + 1) (ints x.1.kids ++ [.int .i64 (n : Int)])) (hb : kv'.ownBlock = x.2.ownBlock ∨ kv'.ownBlock = some w.heap.size) :
    AR (w'.setCell ⟨g, b * 5 + 3, none⟩ kv') base (xs.set b (addKid n x.1, kv')) fv := by
  have ho' : Own w' base (kidRow (addKid n x.1, kv')) := by
    unfold Own kidRow addKid
    show w'.ownsRow base 3 1 kv' (x.1.kids ++ [n]).length (ints (x.1.kids ++ [n]))
    rw [ints_append, List.length_append]
    exact ho
  have h1 := RowsOk.put (i := b + 1) (r := kidRow x) h (by simp [hx]) hg ho' (.inr hb)
  have h2 := RowsOk.setc (i := 0) (g := g) (cap := cap) (j := b * 5 + 3) (r := ⟨fv, 40, 5, xs.length, flatF xs⟩) h1 (by simp) hv kv'
  unfold AR
  have e : ((⟨fv, 40, 5, (xs.set b (addKid n x.1, kv')).length, flatF (xs.set b (addKid n x.1, kv'))⟩ : Rw) :: (xs.set b (addKid n x.1, kv')).map kidRow) = (((⟨fv, 40, 5, xs.length, flatF xs⟩ : Rw) :: xs.map kidRow).set (b + 1) (kidRow (addKid n x.1, kv'))).set 0 ⟨fv, 40, 5, xs.length, (flatF xs).set (b * 5 + 3) kv'⟩ := by
    have e2 : flatF (xs.set b (addKid n x.1, kv')) = (flatF xs).set (b * 5 + 3) kv' := flatF_set xs b x.1 x.2 kv' (x.1.kids ++ [n]) hx
    simp only [e2, List.length_set, List.map_set, List.set_cons_succ, List.set_cons_zero]
  rw [e]
  exact h2
theorem AR.sees (h : AR w base xs fv) : SeesM w fv (xs.map fun x => (toFm x.1, x.2)) := by
  have e1 : flatM (xs.map fun x => (toFm x.1, x.2)) = flatF xs := by
    unfold flatM flatF
    rw [List.flatMap_map]
    rfl
  refine ⟨?_, ?_⟩
  · rw [e1, List.length_map]; exact seesC_of_owns h.own
  · intro i x hx
    rw [List.getElem?_map] at hx
    cases hf : xs[i]? with
    | none => rw [hf] at hx; simp at hx
    | some y =>
      rw [hf] at hx
      simp only [Option.map_some, Option.some.injEq] at hx
      subst hx
      have e2 : intsI (toFm y.1).kids = ints y.1.kids := by simp [intsI, ints, toFm]
      show SeesC w y.2 (toFm y.1).kids.length 1 (intsI (toFm y.1).kids)
      rw [e2]
      have := seesC_of_owns (h.kid hf)
      simpa [toFm] using this
end
/-- What the walk tells: places that are, each within one that was told, or in none. -/
theorem WalkR.ups {K : Int → List Int} {n told up own t' : Int} {ps : List Int} {ys : List (Int × Int)} {ok : Bool} (h : WalkR K n told up own ps t' ys ok) : -1 ≤ own → ∀ (j : Nat) (y : Int × Int), ys[j]? = some y → 0 ≤ y.2 ∧ y.2 < n ∧ (y.1 = up ∨ (told ≤ y.1 ∧ y.1 < told + j)) := by
  induction h with
  | done => intro _ j y hy; simp at hy
  | skip _ _ ih => exact ih
  | full => intro _ j y hy; simp at hy
  | @cut told up own p t' r ys h1 h2 h3 h4 ih =>
    intro ho j y hy
    cases j with
    | zero => simp at hy; subst hy; exact ⟨by simp only; omega, h2, .inl rfl⟩
    | succ j =>
      simp only [List.getElem?_cons_succ] at hy
      obtain ⟨a1, a2, a3⟩ := ih (by omega) j y hy
      exact ⟨a1, a2, .inr (by omega)⟩
  | @more told up own p t1 t' r ys1 ys2 ok h1 h2 h3 h4 h5 ih1 ih2 =>
    intro ho j y hy
    cases j with
    | zero => simp at hy; subst hy; exact ⟨by simp only; omega, h2, .inl rfl⟩
    | succ j =>
      simp only [List.getElem?_cons_succ] at hy
      have ht := h4.told
      by_cases hj : j < ys1.length
      · rw [List.getElem?_append_left hj] at hy
        obtain ⟨a1, a2, a3⟩ := ih1 (by omega) j y hy
        exact ⟨a1, a2, .inr (by omega)⟩
      · rw [List.getElem?_append_right (by omega)] at hy
        obtain ⟨a1, a2, a3⟩ := ih2 ho _ y hy
        exact ⟨a1, a2, a3.imp id fun a3 => by omega⟩
end Go.Proofs.YtnlplkchkhibaaaDoor
/-
  How far Alone has come, and what a round makes of it.
-/
namespace Go.Proofs.YtnlplkchkhibaaaDoor
open Go.RowKit Go.Deep Go.MapKept
def AlonePost (w : World) (fs : List Frm) (all : List (Int × Int)) (e : Ending) (w' : World) : Prop := ∃ v u xs, e = .returned (.tuple #[v, u, .int .i64 0]) ∧ xs.map Prod.fst = all.foldl (stepA fs) [] ∧ AR w' w.heap.size xs v ∧ SeesC w' u 1 1 [.int .i64 0] ∧ Below w.heap.size w w'
/-- The forms A lie in the row that the box B8 holds; B2 holds what is read. -/
structure AlI (w : World) (fv : Value) (B2 B8 base : Nat) (A : List Frm) (n : Nat) (xs : List FV) (v : Value) (W : World) : Prop where
  same : xs.map Prod.fst = A
  kl : ∀ x ∈ xs, x.1.kids.length ≤ n
  rows : AR W base xs v
  b2 : Boxed W B2 23 fv
  b8 : Boxed W B8 23 v
  below : Below w.heap.size w W
theorem AlI.len {w : World} {fv : Value} {B2 B8 base n : Nat} {A : List Frm} {xs : List FV} {v : Value} {W : World} (h : AlI w fv B2 B8 base A n xs v W) : xs.length = A.length := by rw [← h.same]; simp
theorem AlI.kept {w : World} {fv : Value} {B2 B8 base B' : Nat} {f : List (Int × Int) → List Frm} (hB : w.heap.size ≤ B') : OwnFrom B' (fun (pre : List (Int × Int)) W => ∃ xs v, AlI w fv B2 B8 base (f pre) pre.length xs v W) := by
  rintro pre X Y row ⟨xs, v, h⟩ hg hrow
  have hr' : ∀ r, row = some r → ∃ o : Obj, X.heap[r]? = some o ∧ o.isCells = false := fun r e => (hrow r e).2
  exact ⟨xs, v, h.same, h.kl, h.rows.keptO hg hr', boxed_own _ 23 (fun (_ : Unit) => fv) () X Y row h.b2 hg hr', boxed_own _ 23 (fun (_ : Unit) => v) () X Y row h.b8 hg hr', (ownFrom_below (β := Unit) (n₀ := w.heap.size) (B := B') (w₀ := w) (Nat.le_refl _) hB) () X Y row h.below hg hrow⟩
theorem AlI.low {w : World} {fv : Value} {B2 B8 base n : Nat} {A : List Frm} {xs : List FV} {v : Value} {W : World} (h : AlI w fv B2 B8 base A n xs v W) {k : Nat} (u : Value) (hk : k < base) (h2 : B2 ≠ k) (h8 : B8 ≠ k) (hw : w.heap.size ≤ k) : AlI w fv B2 B8 base A n xs v (W.setCell ⟨k, 0, none⟩ u) :=
  ⟨h.same, h.kl, h.rows.low hk u, h.b2.other h2 u, h.b8.other h8 u, h.below.setCell hw u⟩
theorem AlI.down {w : World} {fv : Value} {B2 B8 base n : Nat} {A : List Frm} {xs : List FV} {v : Value} {W W' : World} (h : AlI w fv B2 B8 base A n xs v W) (hb : Below W.heap.size W W') : AlI w fv B2 B8 base A n xs v W' :=
  ⟨h.same, h.kl, h.rows.down hb, box_below h.b2 hb, box_below h.b8 hb, h.below.trans (hb.mono h.below.size)⟩
theorem upd_at {A : List Frm} {q m : Nat} {f : Frm} (h : A[q]? = some f) : upd A (q : Int) [m] = A.set q (addKid m f) := by
  unfold upd
  rw [if_neg (by omega), Int.toNat_natCast]
  refine List.ext_getElem? fun j => ?_
  rw [List.getElem?_modify, List.getElem?_set]
  by_cases hj : q = j
  · subst hj
    have := (List.getElem?_eq_some_iff.1 h).1
    rw [h]
    simp [this, addKids, addKid]
  · cases A[j]? <;> simp [hj]
/-- A kid put behind a form's others. -/
theorem AlI.kid {w : World} {fv : Value} {B2 B8 base n : Nat} {A : List Frm} {xs : List FV} {v : Value} {W W5 : World} (h : AlI w fv B2 B8 base A n xs v W) {q g cap : Nat} {x : FV} {u' : Value} {o : Obj} (hx : xs[q]? = some x) (hv : v = .slice (some ⟨g, 0, none⟩) xs.length cap)
    (hg : (W.drew.alloc o).grownBy W5 x.2.ownBlock) (ho : W5.ownsRow base 3 1 u' (x.1.kids.length + 1) (ints x.1.kids ++ [.int .i64 (xs.length : Int)])) (hat : u'.ownBlock = x.2.ownBlock ∨ u'.ownBlock = some (W.drew.heap.size + 1)) (h2 : B2 < base) (h8 : B8 < base) (hw : w.heap.size ≤ base) :
    AlI w fv B2 B8 base (upd A (q : Int) [A.length]) (n + 1) (xs.set q (addKid xs.length x.1, u')) v (W5.setCell ⟨g, q * 5 + 3, none⟩ u') := by
  have hbA : Below W.heap.size W (W.drew.alloc o) := (Below.drew (Below.refl _ W)).alloc (Nat.le_refl _) o
  have hA := h.down hbA
  have hsz : (W.drew.alloc o).heap.size = W.drew.heap.size + 1 := by simp
  have hgb : base ≤ g := ((h.rows.own).lt g (by rw [hv]; rfl)).1
  have hkb : ∀ k, x.2.ownBlock = some k → base ≤ k := fun k e => ((h.rows.kid hx).lt k e).1
  have kp : ∀ {b : Nat} {u : Value}, b < base → Boxed (W.drew.alloc o) b 23 u → Boxed (W5.setCell ⟨g, q * 5 + 3, none⟩ u') b 23 u := fun {b u} hb hx' => by
    have h5 : Boxed W5 b 23 u := hx'.kept hg (fun e => by have := hkb _ e.symm; omega)
    exact (Below.heap_setCell W5 ⟨g, q * 5 + 3, none⟩ u' b (by simp; omega)).trans h5
  refine ⟨?_, ?_, hA.rows.putK hx hv hg ho (by rw [hsz]; exact hat), kp h2 hA.b2, kp h8 hA.b8, ?_⟩
  · rw [List.map_set, h.same, ← h.len, upd_at (f := x.1) (by rw [← h.same, List.getElem?_map, hx]; rfl)]
  · intro y hy
    rcases List.mem_or_eq_of_mem_set hy with hy | rfl
    · have := h.kl y hy; omega
    · have := h.kl x (List.mem_of_getElem? hx)
      simp [addKid]; omega
  · exact (hA.below.grown hg hA.below.size (fun k e => Nat.le_trans hw (hkb k e))).setCell (by simp; omega) _
/-- A form put behind the others. -/
theorem AlI.form {w : World} {fv : Value} {B2 B8 base n : Nat} {A : List Frm} {xs : List FV} {v v' : Value} {W W1 W5 : World} (h : AlI w fv B2 B8 base A n xs v W) {f : Frm} {o : Obj}
    (hb : Below W.drew.heap.size W.drew W1) (hg : (W1.alloc o).grownBy W5 v.ownBlock) (ho : W5.ownsRow base 40 5 v' (xs.length + 1) (flatF xs ++ [.int .u8 f.k, .string f.s, .int .i64 f.n, .slice none 0 0, .int .i64 f.p])) (hat : v'.ownBlock = v.ownBlock ∨ v'.ownBlock = some (W1.heap.size + 1)) (h2 : B2 < base) (h8 : B8 < base) (h28 : B2 ≠ B8) (hw : w.heap.size ≤ base) (hw8 : w.heap.size ≤ B8) :
    AlI w fv B2 B8 base (A ++ [bare f]) n (xs ++ [(bare f, .slice none 0 0)]) v' (W5.setCell ⟨B8, 0, none⟩ v') := by
  have hbA : Below W.heap.size W (W1.alloc o) := ((Below.drew (Below.refl _ W)).trans hb).alloc hb.size o
  have hA := h.down hbA
  have hsz : (W1.alloc o).heap.size = W1.heap.size + 1 := by simp
  have hkb : ∀ k, v.ownBlock = some k → base ≤ k := fun k e => ((h.rows.own).lt k e).1
  have kp : ∀ {b : Nat} {u : Value}, b < base → Boxed (W1.alloc o) b 23 u → Boxed W5 b 23 u := fun {b u} hb hx' => hx'.kept hg (fun e => by have := hkb _ e.symm; omega)
  have hR := hA.rows.putF (f := bare f) rfl hg ho (by rw [hsz]; exact hat)
  refine ⟨by simp [h.same], ?_, hR.low h8 _, (kp h2 hA.b2).other h28 _, (kp h8 hA.b8).set _, ?_⟩
  · intro y hy
    rcases List.mem_append.1 hy with hy | hy
    · exact h.kl y hy
    · simp at hy; subst hy; simp [bare]
  · exact (hA.below.grown hg hA.below.size (fun k e => Nat.le_trans hw (hkb k e))).setCell hw8 _
end Go.Proofs.YtnlplkchkhibaaaDoor
/-
  Alone: the forms that the walk tells, put together anew.
-/
namespace Go.Proofs.YtnlplkchkhibaaaDoor
open Go.RowKit Go.Deep Go.MapKept
attribute [local go_sem] Oper.semAt_some
theorem keep_round {W WA W5 : World} {v u' : Value} {base N B e size n g j : Nat} {cs : List Value} {X : Nat → Prop} (hbA : Below W.heap.size W WA) (ho : WA.ownsRow base e size v n cs) (hg : WA.grownBy W5 v.ownBlock) (hN : N + 5 ≤ base) (hX : ¬ WB X N g) :
    KeepsFrom B W (W5.setCell ⟨g, j, none⟩ u') ∧ Keeps (TW (WB X N)) W (W5.setCell ⟨g, j, none⟩ u') := by
  constructor
  · refine (from_below hbA).trans (((KeepsOthers.of_grownBy hg fun k o' ek hk => ?_).trans (KeepsOthers.setCell _ _ _)).from _)
    rcases ho.2 with ⟨rfl, _⟩ | ⟨g', cap, cur, rfl, _, hgb, _⟩
    · cases ek
    · simp only [Value.ownBlock, Option.some.injEq] at ek
      subst ek
      rw [hgb] at hk
      cases hk
      rfl
  · refine (keeps_of_below hbA fun k o' _ hk => (Array.getElem?_eq_some_iff.1 hk).1).trans ((Keeps.grown hg fun k o' ek _ hk => ?_).trans (Keeps.grown (grown_set W5 g j u') fun k o' ek _ hk => ?_))
    · have h1 := (ho.lt k ek).1
      have h2 := hk.2.2
      omega
    · cases ek; exact hX hk.2
theorem AR.lower {w : World} {base base' : Nat} {xs : List FV} {fv : Value} (h : AR w base' xs fv) (hb : base ≤ base') : AR w base xs fv :=
  ⟨fun r hr => own_lower (RowsOk.own h r hr) hb, RowsOk.apart h⟩
theorem AlI.more {w : World} {fv : Value} {B2 B8 base n m : Nat} {A : List Frm} {xs : List FV} {v : Value} {W : World} (h : AlI w fv B2 B8 base A n xs v W) (hm : n ≤ m) : AlI w fv B2 B8 base A m xs v W :=
  ⟨h.same, fun x hx => Nat.le_trans (h.kl x hx) hm, h.rows, h.b2, h.b8, h.below⟩
set_option maxRecDepth 100000 in
set_option maxHeartbeats 8000000 in
theorem alone_any (fv : Value) (ms : List MV) (fs : List Frm) (hms : ms.map Prod.fst = fs.map toFm) (at' : Int) (w : World) (hsm : SeesM w fv ms) (hkl : ∀ x ∈ ms, x.1.kids.length ≤ 99999) (hsl : ∀ x ∈ ms, x.1.s.size ≤ 140737488355328) (hml : ms.length ≤ 400) {t' : Int} {all : List (Int × Int)} {ok : Bool} (hW : WalkR (kidsOf ms) ms.length 0 (-1) (-1) [at'] t' all ok) (h1 : 0 < all.length) (h4 : all.length ≤ 400) :
    Calls Tryd.prog 21 #[fv, .int .i64 at'] w (AlonePost w fs all) := by
  have hsm' := hsm
  obtain ⟨⟨_, fa, fc, rfl, _⟩, _⟩ := hsm
  have HM := hidI hsm'
  have HW := hidI hW
  have HK := hidI hkl
  have HSL := hidI hsl
  have HMS := hidI hms
  have g0 := Boxed.new w 23 (.slice fa ms.length fc)
  have hbA : Below w.heap.size w (w.alloc (.cells #[.slice fa ms.length fc] 23)) := (Below.refl _ w).alloc (Nat.le_refl _) _
  have HBA := hidI hbA
  have HG0 := hidI g0
  have HS := hidI (size_any _ ms at' (w.alloc (.cells #[.slice fa ms.length fc] 23)) (hsm'.below hbA (Nat.le_refl _)) (fun x hx => by have := hkl x hx; omega) (by omega) hW)
  have q1 : ((all.length : Int) == 0) = false := by rw [beq_eq_false_iff_ne]; omega
  have q2 : ¬ (400 : Int) < (all.length : Int) := by omega
  have q3 : ¬ all.length = 0 := by omega
  have q4 : decide ((400 : Int) < (all.length : Int)) = false := by simp; omega
  clear hsm' hW hkl hsl hms hbA g0
  refine (callsIn_wide (n := 0)).1 ?_
  refine callsIn_of_wp_marks Tryd.func21 rfl trivial ?_ rfl
  simp only [Tryd.ntmps21, List.size_toArray, List.length_cons, List.length_nil, Nat.reduceAdd, Nat.reduceSub, Array.replicate_succ, Array.replicate_zero, List.push_toArray, List.append_toArray, List.nil_append, List.cons_append]
  gi_wp2_with (first
    | (refine ⟨trivial, rfl, ?_⟩; gi_at_call 15; refine (callsIn_wide.2 HS.out).mono ?_; rintro e w1 ⟨rfl, hb1⟩; have HB1 := hidI hb1; have k2 := (hb1.cell (p := ⟨w.heap.size, 0, none⟩) HG0.out.lt).trans HG0.out.cell; have k3 := cell_al (.cells #[.slice none 0 0] 23) k2; have hl1 : w.heap.size < w1.heap.size := Nat.lt_of_lt_of_le HG0.out.lt hb1.size; clear hb1)
    | (refine ⟨trivial, rfl, ?_⟩; gi_at_call 28; refine (callsIn_wide.2 (walk_any _ _ _ _ _ _ _)).mono ?_; rintro e w' ⟨rfl, rfl⟩))
  have hb0 : Below w1.heap.size w1 ((((w1.alloc (.cells #[.slice none 0 0] 23)).alloc (.cells #[.int .i64 at'] 3)).alloc (.cells #[.slice fa ms.length fc] 23)).alloc (.cells #[.slice (some ⟨w1.heap.size + 1, 0, none⟩) 1 1] 24)) := (((((Below.refl _ w1).alloc (Nat.le_refl _) _).alloc (by simp) _).alloc (by simp; omega) _).alloc (by simp; omega) _)
  have g8 := (((Boxed.new w1 23 (.slice none 0 0)).alloc (.cells #[.int .i64 at'] 3)).alloc (.cells #[.slice fa ms.length fc] 23)).alloc (.cells #[.slice (some ⟨w1.heap.size + 1, 0, none⟩) 1 1] 24)
  have g1 := ((Boxed.new (w1.alloc (.cells #[.slice none 0 0] 23)) 3 (.int .i64 at')).alloc (.cells #[.slice fa ms.length fc] 23)).alloc (.cells #[.slice (some ⟨w1.heap.size + 1, 0, none⟩) 1 1] 24)
  have g2 := (Boxed.new ((w1.alloc (.cells #[.slice none 0 0] 23)).alloc (.cells #[.int .i64 at'] 3)) 23 (.slice fa ms.length fc)).alloc (.cells #[.slice (some ⟨w1.heap.size + 1, 0, none⟩) 1 1] 24)
  have g3 := Boxed.new (((w1.alloc (.cells #[.slice none 0 0] 23)).alloc (.cells #[.int .i64 at'] 3)).alloc (.cells #[.slice fa ms.length fc] 23)) 24 (.slice (some ⟨w1.heap.size + 1, 0, none⟩) 1 1)
  simp only [World.size_alloc] at g1 g2 g3
  have hsz : ((((w1.alloc (.cells #[.slice none 0 0] 23)).alloc (.cells #[.int .i64 at'] 3)).alloc (.cells #[.slice fa ms.length fc] 23)).alloc (.cells #[.slice (some ⟨w1.heap.size + 1, 0, none⟩) 1 1] 24)).heap.size = w1.heap.size + 4 := by simp
  obtain ⟨W0, hW0⟩ : ∃ W0, (((w1.alloc (.cells #[.slice none 0 0] 23)).alloc (.cells #[.int .i64 at'] 3)).alloc (.cells #[.slice fa ms.length fc] 23)).alloc (.cells #[.slice (some ⟨w1.heap.size + 1, 0, none⟩) 1 1] 24) = W0 := ⟨_, rfl⟩
  rw [hW0] at hb0 g8 g1 g2 g3 hsz ⊢
  clear hW0 k2 k3
  have hbw1 : Below w.heap.size w w1 := HBA.out.trans (HB1.out.mono HBA.out.size)
  have hbw : Below w.heap.size w W0 := hbw1.trans (hb0.mono hbw1.size)
  have gB : Boxed W0 w.heap.size 23 (.slice fa ms.length fc) := box_below (box_below HG0.out HB1.out) hb0
  obtain ⟨B8, hB8⟩ : ∃ B8, w1.heap.size = B8 := ⟨_, rfl⟩
  rw [hB8] at g8 g1 g2 g3 hsz hl1 ⊢
  have hsm0 := HM.out.below hbw (Nat.le_refl _)
  have htp0 : SeesC W0 (.slice (some ⟨B8 + 1, 0, none⟩) 1 1) [at'].length 1 (intsI [at']) := by
    refine ⟨rfl, _, 1, rfl, .inr ⟨B8 + 1, 0, rfl, fun j c hc => ?_⟩⟩
    have hj : j < 1 := by have := (List.getElem?_eq_some_iff.1 hc).1; simpa [intsI] using this
    obtain rfl : j = 0 := by omega
    simp only [intsI, List.map_cons, List.map_nil, List.getElem?_cons_zero, Option.some.injEq] at hc
    subst hc
    exact g1.cell
  have hseq := walk_seq5 (.slice fa ms.length fc) (.slice (some ⟨B8 + 1, 0, none⟩) 1 1) ms [at'] (B8 + 1 + 1) (B8 + 1 + 1 + 1) (fun k => k = B8) W0 g2.cell g3.cell hsm0 htp0 (by omega) (fun k hk => by omega) (by
      rintro v n (⟨rfl, rfl⟩ | ⟨rfl, rfl⟩ | ⟨x, hx, rfl, rfl⟩) hn k hk
      · have := sees_lt HM.out.row (by decide) hn k hk; omega
      · have e : B8 + 1 = k := by simpa [Value.ownBlock] using hk
        omega
      · obtain ⟨i, hi⟩ := List.getElem?_of_mem hx
        have := sees_lt (HM.out.kid i x hi) (by decide) hn k hk; omega) (fun x hx => by have := HK.out x hx; omega) (by simp) (by omega) HW.out
  refine range_walk5 (gf := 47) (lb := #[.pointer (some ⟨B8 + 1 + 1, 0, none⟩), .pointer (some ⟨B8 + 1 + 1 + 1, 0, none⟩)]) rfl (enters_of Tryd.func47 (by kernel_rfl) rfl) hseq rfl
    (fun pre W => ∃ xs v, AlI w (.slice fa ms.length fc) w.heap.size B8 (W0.heap.size + 5) (pre.foldl (stepA fs) []) pre.length xs v W) (fun _ _ => False) ?hI ?hIo ?hIx ?h0
    (fun st W => (∃ xs v, AlI w (.slice fa ms.length fc) w.heap.size B8 (W0.heap.size + 5) (st.1.foldl (stepA fs) []) st.1.length xs v W) ∧ st.2.2 = { tmps := #[.slice fa ms.length fc, .int .i64 at', .pointer (some ⟨w.heap.size, 0, none⟩), undef, .slice none 0 0, .slice none 0 0, .int .i64 0, .int .i64 (all.length : Int), .pointer (some ⟨B8, 0, none⟩), .int .i64 st.2.1.1, .int .i64 st.2.1.2, .slice fa ms.length fc, .int .i64 at', .int .i64 (all.length : Int), .int .i64 (all.length : Int), .bool false, .int .i64 (all.length : Int), .bool false, .slice fa ms.length fc, .int .i64 at', .slice (some ⟨B8 + 1, 0, none⟩) 1 1, .func (.func 47) #[] #[.pointer (some ⟨B8 + 1 + 1, 0, none⟩), .pointer (some ⟨B8 + 1 + 1 + 1, 0, none⟩)], .int .i64 st.2.1.1, .int .i64 st.2.1.2, undef, undef, undef, undef, undef, undef, undef, undef, undef, undef, undef, undef, undef, undef, undef, undef, undef, undef, undef, undef, undef, undef, undef, undef, undef], defers := [] })
    ?hAx ?assign ?body ?done ?stop
  case hI => exact AlI.kept (f := fun pre => pre.foldl (stepA fs) []) (by omega)
  case hIo => exact fun pre X u k q1 q2 ⟨xs, v, h⟩ => ⟨xs, v, h.low u (by omega) (by omega) (by omega) (by omega)⟩
  case hIx => exact fun _ _ _ _ h => h.elim
  case h0 => exact ⟨[], .slice none 0 0, rfl, by simp, AR.nil _ _, gB, g8, hbw⟩
  case hAx =>
    rintro st X Y row ⟨h1, ha⟩ hg hrow
    exact ⟨AlI.kept (f := fun pre => pre.foldl (stepA fs) []) (B' := W0.heap.size) (by omega) st.1 X Y row h1 hg hrow, ha⟩
  case assign =>
    rintro l pre x W K hi hK
    dsimp only [encP]
    gi_wp2
    exact hK _ _ (KeepsFrom.refl _ _) (Keeps.refl _ _) ⟨hi, rfl⟩
  case body =>
    rintro l pre ⟨up, pl⟩ a' W hR hz5 ⟨⟨xs, v, h⟩, ha⟩
    dsimp only at ha h
    subst ha
    have hal : pre.length < all.length := by have := hR.length_le; simp at this; omega
    have hat : all[pre.length]? = some (up, pl) := by
      obtain ⟨r, hr⟩ := hR
      rw [← hr]; simp
    obtain ⟨p0, p1, hup⟩ := HW.out.ups (by omega) pre.length (up, pl) hat
    simp only at p0 p1 hup
    obtain ⟨q, rfl⟩ : ∃ q : Nat, pl = (q : Int) := ⟨pl.toNat, by omega⟩
    have hqm : q < ms.length := by omega
    have hmq : ms[q]? = some ms[q] := List.getElem?_eq_getElem hqm
    obtain ⟨x, hx⟩ : ∃ x, ms[q] = x := ⟨_, rfl⟩
    rw [hx] at hmq
    obtain ⟨f, hf, hxf⟩ := fm_at HMS.out hmq
    have hxl : xs.length = pre.length := by
      have e1 := h.len
      have e2 : ∀ (l : List (Int × Int)), (∀ y ∈ l, 0 ≤ y.2 ∧ y.2 < (ms.length : Int)) → ∀ A, (l.foldl (stepA fs) A).length = A.length + l.length := by
        intro l
        induction l with
        | nil => intro _ A; simp
        | cons y r ih =>
          intro hy A
          have hy0 := hy y (by simp)
          have hlen := len_same HMS.out
          have hg : fs[y.2.toNat]? = some fs[y.2.toNat] := List.getElem?_eq_getElem (by omega)
          rw [List.foldl_cons, ih (fun z hz => hy z (by simp [hz]))]
          unfold stepA
          rw [hg]
          simp [upd_length]
          omega
      rw [e1, e2 pre (fun y hy => by
        obtain ⟨j, hj⟩ := List.getElem?_of_mem hy
        have hj2 : all[j]? = some y := by
          obtain ⟨r, hr⟩ := hR
          have hjl := (List.getElem?_eq_some_iff.1 hj).1
          rw [← hr, List.append_assoc, List.getElem?_append_left hjl]; exact hj
        have := HW.out.ups (by omega) j y hj2
        exact ⟨this.1, this.2.1⟩)]
      simp
    have HXL := hidI hxl
    have hst : (pre ++ [(up, (q : Int))]).foldl (stepA fs) [] = upd (pre.foldl (stepA fs) []) up [(pre.foldl (stepA fs) []).length] ++ [bare f] := by
      rw [List.foldl_append, List.foldl_cons, List.foldl_nil]
      unfold stepA
      simp only [Int.toNat_natCast, hf, Option.toList_some, List.map_cons, List.map_nil]
    have HST := hidI hst
    obtain ⟨x1, x2⟩ := x
    simp only at hxf
    subst hxf
    have CK := hidI fun W' => kidless_any (toFm f) x2 (by obtain ⟨_, a, c, e, _⟩ := HM.out.kid q _ hmq; exact ⟨a, _, c, e⟩) (HSL.out _ (List.mem_of_getElem? hmq)) W'
    have HMQ := hidI hmq
    have HH := hidI h
    have hsl0 := h.rows.own
    obtain ⟨va, vc, rfl⟩ := own_slice hsl0
    clear h hst hmq hf hx hat hR hsl0
    rcases hup with rfl | ⟨r0, r1⟩
    · gi_wp2
      have HYL := HXL
      have HZX : Hid (W0.heap.size + 5 ≤ W.drew.heap.size) := hidI hz5
      have hlo := (HM.out.below HH.out.below (Nat.le_refl _)).load HMQ.out
      obtain ⟨fb, fo, fc', ka, kc, hfv, hx2, c0, c1, c2, c3, c4⟩ := hlo
      simp only at hx2
      subst hx2
      have hfb : fb < w.heap.size := by
        cases hfv
        have := sees_lt HM.out.row (by decide) (by omega) fb rfl
        exact this
      refine regA12 (k := (toFm f).k) (s := (toFm f).s) (n' := (toFm f).n) (p := (toFm f).p) (B8 := B8) (B2 := w.heap.size) (base := W0.heap.size + 5) (fb := fb) (fo := fo) (fl := ms.length) (fc := fc') (q := q) (ka := ka) (kn := (toFm f).kids.length) (kc := kc) (u := .slice va xs.length vc) (m := xs.length) (cs := flatF xs) (fun w' => CK.out w') ⟨HH.out.b8.cell, by rw [← hfv]; exact HH.out.b2.cell, c0, c1, c2, c3, c4⟩ HH.out.b8.frozen ?hown (by omega) ?hbs hqm ?ha ?hb ?hc ?hQ
      case hown => exact HH.out.rows.own
      case hbs => exact HZX.out
      case ha => exact fun e => by have := (HH.out.rows.own.lt _ e).1; omega
      case hb => exact fun e => by have := (HH.out.rows.own.lt _ e).1; omega
      case hc => exact fun e => by have := (HH.out.rows.own.lt _ e).1; omega
      case hQ =>
        intro W1 W5 u' t39 t40 t41 t42 t43 t44 t45 t46 hb hg ho hat
        have hbA : Below W.heap.size W (W1.alloc (.cells #[.int .u8 (toFm f).k, .string (toFm f).s, .int .i64 (toFm f).n, .slice none 0 0, .int .i64 (toFm f).p] 40)) := ((Below.drew (Below.refl _ W)).trans hb).alloc hb.size _
        have kr := keep_round (B := W0.heap.size) (N := W0.heap.size) (X := fun k => k = B8) (g := B8) (j := 0) (u' := u') hbA (own_below HH.out.rows.own hbA (Nat.le_refl _)) hg (by omega) (fun h => h.1 rfl)
        refine ⟨kr.1, kr.2, xs ++ [(bare f, .slice none 0 0)], u', ?_⟩
        have hF := HH.out.form (f := f) hb hg ho hat (by omega) (by omega) (by omega) (by omega) (by omega)
        rw [HST.out, List.length_append]
        exact hF.more (by simp)
    · obtain ⟨r, rfl⟩ : ∃ r : Nat, up = (r : Int) := ⟨up.toNat, by omega⟩
      have hrx : r < xs.length := by have := HXL.out; omega
      have hgr : xs[r]? = some xs[r] := List.getElem?_eq_getElem hrx
      obtain ⟨x', hx'⟩ : ∃ x', xs[r] = x' := ⟨_, rfl⟩
      rw [hx'] at hgr
      obtain ⟨g, gc, hve, hgb, _⟩ := own_some HH.out.rows.own (by omega)
      cases hve
      obtain ⟨kka, kkc, hkv⟩ := own_slice (HH.out.rows.kid hgr)
      have hck : W.cell? ⟨g, r * 5 + 3, none⟩ = some (.slice kka x'.1.kids.length kkc) := by
        rw [← hkv]
        exact own_cell HH.out.rows.own (by rw [flatF_get xs r 3 x' hgr (by omega)]; rfl)
      have hkl' := HH.out.kl x' (List.mem_of_getElem? hgr)
      have hkr := HH.out.rows.kid hgr
      rw [hkv] at hkr
      have hapt := HH.out.rows.apart hgr
      have HGR := hidI hgr
      have HKV := hidI hkv
      have e9 : ((r : Int) == -1) = false := by rw [beq_eq_false_iff_ne]; omega
      have e10 : ¬ (r : Int) = -1 := by omega
      clear hgr hx'
      gi_wp2
      refine regA11 (B8 := B8) (base := W0.heap.size + 5) (g := g) (m := xs.length) (uc := vc) (q := r) (ka := kka) (kn := x'.1.kids.length) (kc := kkc) (ks := ints x'.1.kids) ⟨HH.out.b8.cell, hck⟩ (own_free HH.out.rows.own _) hkr (by omega) hz5 hrx ?ha ?hb ?hQ
      case ha => exact fun e => by have := (hkr.lt _ e).1; omega
      case hb =>
        rw [← HKV.out]
        rcases hapt with h0 | h0
        · rw [h0]; simp
        · exact h0
      case hQ =>
        intro W5 u' t26 t27 t28 t29 t30 t31 t32 t33 t34 t35 t36 t37 t38 hg ho hat
        rw [← HKV.out] at hg hat
        have hA2 := HH.out.kid HGR.out rfl hg ho hat (by omega) (by omega) (by omega)
        have hbA : Below W.heap.size W (W.drew.alloc (.cells #[.int .i64 (xs.length : Int)] 3)) := (Below.drew (Below.refl _ W)).alloc (Nat.le_refl _) _
        have HK1 := hidI (keep_round (B := W0.heap.size) (N := W0.heap.size) (X := fun k => k = B8) (g := g) (j := r * 5 + 3) (u' := u') hbA (own_below (HH.out.rows.kid HGR.out) hbA (Nat.le_refl _)) hg (by omega) (fun h => by have := h.2; omega))
        have hz6 : W0.heap.size + 5 ≤ (W5.setCell ⟨g, r * 5 + 3, none⟩ u').heap.size := Nat.le_trans hz5 HK1.out.2.1
        obtain ⟨WX, hWX⟩ : ∃ WX, W5.setCell ⟨g, r * 5 + 3, none⟩ u' = WX := ⟨_, rfl⟩
        obtain ⟨YS, hYS⟩ : ∃ YS, xs.set r (addKid xs.length x'.1, u') = YS := ⟨_, rfl⟩
        rw [hWX] at hA2 HK1 hz6 ⊢
        rw [hYS] at hA2
        have hyl : YS.length = pre.length := by rw [← hYS, List.length_set]; exact HXL.out
        have HYL := hidI hyl
        have HA2 := hidI hA2
        have HZX : Hid (W0.heap.size + 5 ≤ WX.drew.heap.size) := hidI hz6
        clear hg ho hat hA2 hbA hWX hYS
        gi_wp2
        have hlo := (HM.out.below HA2.out.below (Nat.le_refl _)).load HMQ.out
        obtain ⟨fb, fo, fc', ka, kc, hfv, hx2, c0, c1, c2, c3, c4⟩ := hlo
        simp only at hx2
        subst hx2
        have hfb : fb < w.heap.size := by
          cases hfv
          have := sees_lt HM.out.row (by decide) (by omega) fb rfl
          exact this
        refine regA12 (k := (toFm f).k) (s := (toFm f).s) (n' := (toFm f).n) (p := (toFm f).p) (B8 := B8) (B2 := w.heap.size) (base := W0.heap.size + 5) (fb := fb) (fo := fo) (fl := ms.length) (fc := fc') (q := q) (ka := ka) (kn := (toFm f).kids.length) (kc := kc) (u := .slice (some ⟨g, 0, none⟩) xs.length vc) (m := YS.length) (cs := flatF YS) (fun w' => CK.out w') ⟨HA2.out.b8.cell, by rw [← hfv]; exact HA2.out.b2.cell, c0, c1, c2, c3, c4⟩ HA2.out.b8.frozen ?hown (by omega) ?hbs hqm ?ha ?hb ?hc ?hQ
        case hown => exact HA2.out.rows.own
        case hbs => exact HZX.out
        case ha => exact fun e => by have := (HA2.out.rows.own.lt _ e).1; omega
        case hb => exact fun e => by have := (HA2.out.rows.own.lt _ e).1; omega
        case hc => exact fun e => by have := (HA2.out.rows.own.lt _ e).1; omega
        case hQ =>
          intro W1 W5 u' t39 t40 t41 t42 t43 t44 t45 t46 hb hg ho hat
          have hbA : Below WX.heap.size WX (W1.alloc (.cells #[.int .u8 (toFm f).k, .string (toFm f).s, .int .i64 (toFm f).n, .slice none 0 0, .int .i64 (toFm f).p] 40)) := ((Below.drew (Below.refl _ WX)).trans hb).alloc hb.size _
          have kr := keep_round (B := W0.heap.size) (N := W0.heap.size) (X := fun k => k = B8) (g := B8) (j := 0) (u' := u') hbA (own_below HA2.out.rows.own hbA (Nat.le_refl _)) hg (by omega) (fun h => h.1 rfl)
          refine ⟨HK1.out.1.trans kr.1, HK1.out.2.trans kr.2, YS ++ [(bare f, .slice none 0 0)], u', ?_⟩
          have hF := HA2.out.form (f := f) hb hg ho hat (by omega) (by omega) (by omega) (by omega) (by omega)
          rw [HST.out, List.length_append]
          exact hF.more (by simp)
  case done =>
    rintro D xs W hD rfl ⟨ys, v, h⟩ hK
    have hDl : D < W.heap.size := (Array.getElem?_eq_some_iff.1 hK).1
    have c8 := h.b8.cell
    obtain ⟨va, vc, rfl⟩ := own_slice h.rows.own
    have hK' : (W.alloc (.cells #[.int .i64 0] 3)).heap[D]? = some (.deferred (some [])) := (Below.heap_alloc W _ D hDl).trans hK
    have hbA : Below W.heap.size W (W.alloc (.cells #[.int .i64 0] 3)) := (Below.refl _ W).alloc (Nat.le_refl _) _
    have hA := h.down hbA
    have HA := hidI hA
    have HD : Hid (D < W.heap.size) := hidI hDl
    have HKK := hidI hK'
    clear h hA hbA g8 g1 g2 g3 gB
    gi_wp2
    refine ⟨by simp, .inl ⟨_, _, rfl, run_takeDeferred HKK.out, ?_⟩⟩
    refine ⟨_, results_3t rfl _ _ _, _, _, ys, rfl, HA.out.same, (HA.out.rows.keptO (grownBy_putObj' _ D _) (fun r e => by cases e; exact ⟨_, HKK.out, rfl⟩)).lower (by omega), (int_seen (W := W) 0).grown (grownBy_putObj' _ D _) (fun e => by simp [Value.ownBlock] at e; have := HD.out; omega), HA.out.below.trans (belowK_b (w := w) (Nat.le_refl _) _ D _ _ (by omega) HKK.out rfl rfl)⟩
  case stop => exact fun _ _ _ _ h => h.elim
end Go.Proofs.YtnlplkchkhibaaaDoor
/-
  What a parse leaves, for all that follows.
-/
namespace Go.Proofs.YtnlplkchkhibaaaDoor
open Go.RowKit Go.Deep Go.MapKept
/-- What a parse leaves, for all that follows. -/
structure Prd (T : List Tok) (σ : St) (lv : List Nat) : Prop where
  shape : Shape σ lv
  low : ∀ x ∈ lv, x ≤ 12
  cnt : Cnt T σ
  good : Good σ
  small : ∀ t ∈ T, t.s.size ≤ 140737488355328
theorem Prd.right {T : List Tok} {σ : St} {lv : List Nat} (h : Prd T σ lv) {ms : List MV} (hms : ms.map Prod.fst = σ.forms.map toFm) {fv tv : Value} {w : World} (hL : Laid w) (hm : SeesM w fv ms) (ht : SeesC w tv (castI σ.top).length 1 (intsI (castI σ.top))) : RightC fv tv (T.all nmT) w := fun W hb =>
  right_parsed h.shape h.low h.cnt h.good h.small hms fv tv W (hL.on hb) (hm.below hb (Nat.le_refl _)) (ht.below hb (Nat.le_refl _))
theorem RightC.on {fv tv : Value} {r : Bool} {w w' : World} (h : RightC fv tv r w) (hb : Below w.heap.size w w') : RightC fv tv r w' := fun W hW => h W (hb.trans (hW.mono hb.size))
theorem Prd.kids {T : List Tok} {σ : St} {lv : List Nat} (h : Prd T σ lv) {ms : List MV} (hms : ms.map Prod.fst = σ.forms.map toFm) : ∀ x ∈ ms, x.1.kids.length ≤ 99999 := fun x hx => by
  obtain ⟨i, hi⟩ := List.getElem?_of_mem hx
  obtain ⟨f, hf, e⟩ := fm_at hms hi
  have := h.good.kid_len f (List.mem_of_getElem? hf)
  have := h.good.len
  rw [e]; simp [toFm]; omega
theorem Prd.texts {T : List Tok} {σ : St} {lv : List Nat} (h : Prd T σ lv) {ms : List MV} (hms : ms.map Prod.fst = σ.forms.map toFm) : ∀ x ∈ ms, x.1.s.size ≤ 140737488355328 := fun x hx => by
  obtain ⟨i, hi⟩ := List.getElem?_of_mem hx
  obtain ⟨f, hf, e⟩ := fm_at hms hi
  rw [e]
  exact text_small h.cnt h.small f (List.mem_of_getElem? hf)
end Go.Proofs.YtnlplkchkhibaaaDoor
