/-
  A token put behind the others, in whatever order.
-/
import Derived.Test.YtnlplkchkhibaaaDoorPFun
import Derived.Test.YtnlplkchkhibaaaDoorZed
import Derived.Test.YtnlplkchkhibaaaDoorRange
namespace Go.Proofs.YtnlplkchkhibaaaDoor
open Go.RowKit Go.Deep Go.MapKept
/-- A region that draws, in a round, whose last operation may change what others have loaded. -/
theorem round_Z {l n id : Nat} {ops : Array Oper} {Q : Exit → Act → World → Prop} {a : Act} {w : World} (S : World → Prop) (z : Nat) (hd : noDefer ops = true)
    (h : wpZ Tryd.prog .any ops (Goes (Q .normal)) S z ops.size (Array.replicate ops.size false) a w.drew) : (Code.region id ops true).wpIn (WR l) n Tryd.prog Q a w :=
  wpIn_mono (wpIn_region_any Tryd.mixed (wpAnyIn_of hd (goes_out _) _ _ _ _ (wpZ_any _ _ _ _ h))) (goes_imp fun _ _ h => h)
def ops12 : Array Oper := #[{ dst := some 25, op := Op.load 22 (Operand.tmp 5), type := 22, pos := "lex.go:26", after := #[], guard := none }, { dst := some 26, op := Op.move (Operand.tmp 8), type := 34, pos := "lex.go:26", after := #[], guard := none }, { dst := some 27, op := Op.move (Operand.tmp 7), type := 9, pos := "lex.go:26", after := #[], guard := none }, { dst := some 28, op := Op.move (Operand.tmp 6), type := 3, pos := "lex.go:26", after := #[], guard := none }, { dst := some 29, op := Op.call { callee := Callee.value (Operand.func 41), args := #[Operand.tmp 26, Operand.tmp 27, Operand.tmp 28], argTypes := #[34, 9, 3] }, type := 37, pos := "lex.go:26", after := #[{ on := 1, ground := Ground.data }, { on := 2, ground := Ground.data }, { on := 3, ground := Ground.data }], guard := none }, { dst := some 30, op := Op.buildSlice 22 1 #[(0, Operand.tmp 29)], type := 22, pos := "lex.go:26", after := #[{ on := 4, ground := Ground.data }], guard := none }, { dst := some 31, op := Op.call { callee := Callee.builtin Builtin.append, args := #[Operand.tmp 25, Operand.tmp 30], argTypes := #[22, 22] }, type := 22, pos := "lex.go:26", after := #[{ on := 0, ground := Ground.data }, { on := 5, ground := Ground.data }, { on := 4, ground := Ground.chain }], guard := none }, { dst := none, op := Op.store 22 (Operand.tmp 5) (Operand.tmp 31), type := 0, pos := "lex.go:26", after := #[{ on := 6, ground := Ground.data }, { on := 6, ground := Ground.chain }, { on := 0, ground := Ground.phase }, { on := 1, ground := Ground.phase }, { on := 2, ground := Ground.phase }, { on := 3, ground := Ground.phase }, { on := 4, ground := Ground.phase }, { on := 5, ground := Ground.phase }, { on := 6, ground := Ground.phase }], guard := none }]
theorem ops12_0 : ops12[0]? = some { dst := some 25, op := Op.load 22 (Operand.tmp 5), type := 22, pos := "lex.go:26", after := #[], guard := none } := by kernel_rfl
theorem ops12_1 : ops12[1]? = some { dst := some 26, op := Op.move (Operand.tmp 8), type := 34, pos := "lex.go:26", after := #[], guard := none } := by kernel_rfl
theorem ops12_2 : ops12[2]? = some { dst := some 27, op := Op.move (Operand.tmp 7), type := 9, pos := "lex.go:26", after := #[], guard := none } := by kernel_rfl
theorem ops12_3 : ops12[3]? = some { dst := some 28, op := Op.move (Operand.tmp 6), type := 3, pos := "lex.go:26", after := #[], guard := none } := by kernel_rfl
theorem ops12_4 : ops12[4]? = some { dst := some 29, op := Op.call { callee := Callee.value (Operand.func 41), args := #[Operand.tmp 26, Operand.tmp 27, Operand.tmp 28], argTypes := #[34, 9, 3] }, type := 37, pos := "lex.go:26", after := #[{ on := 1, ground := Ground.data }, { on := 2, ground := Ground.data }, { on := 3, ground := Ground.data }], guard := none } := by kernel_rfl
theorem ops12_5 : ops12[5]? = some { dst := some 30, op := Op.buildSlice 22 1 #[(0, Operand.tmp 29)], type := 22, pos := "lex.go:26", after := #[{ on := 4, ground := Ground.data }], guard := none } := by kernel_rfl
theorem ops12_6 : ops12[6]? = some { dst := some 31, op := Op.call { callee := Callee.builtin Builtin.append, args := #[Operand.tmp 25, Operand.tmp 30], argTypes := #[22, 22] }, type := 22, pos := "lex.go:26", after := #[{ on := 0, ground := Ground.data }, { on := 5, ground := Ground.data }, { on := 4, ground := Ground.chain }], guard := none } := by kernel_rfl
theorem ops12_7 : ops12[7]? = some { dst := none, op := Op.store 22 (Operand.tmp 5) (Operand.tmp 31), type := 0, pos := "lex.go:26", after := #[{ on := 6, ground := Ground.data }, { on := 6, ground := Ground.chain }, { on := 0, ground := Ground.phase }, { on := 1, ground := Ground.phase }, { on := 2, ground := Ground.phase }, { on := 3, ground := Ground.phase }, { on := 4, ground := Ground.phase }, { on := 5, ground := Ground.phase }, { on := 6, ground := Ground.phase }], guard := none } := by kernel_rfl
set_option maxRecDepth 100000 in
set_option maxHeartbeats 1500000 in
theorem reg12 {l n : Nat} {x0 x1 x2 x3 x4 x9 x10 x11 x12 x13 x14 x15 x16 x17 x18 x19 x20 x21 x22 x23 x24 x25 x26 x27 x28 x29 x30 x31 x32 : Value} {Q : Exit → Act → World → Prop} {V0 : World} {B5 base : Nat} {u : Value} {r : List Tok} {x : Tok}
    (hC : ∀ w, Laid w → Calls Tryd.prog 41 #[.int .u8 x.k, .string x.s, .int .i64 x.p] w fun e w' => e = .returned (.agg #[.int .u8 x.k, .string x.s, .int .i64 x.n, .int .i64 x.p]) ∧ Below w.heap.size w w') (hL : Laid V0.drew)
    (hS0 : V0.drew.cell? ⟨B5, 0, none⟩ = some u) (hfz : V0.drew.frozen? ⟨B5, 0, none⟩ = false) (hown : V0.drew.ownsRow base 37 4 u r.length (flatT r)) (hr : r.length ≤ 600) (hbase : base ≤ V0.drew.heap.size)
    (hg : u.ownBlock ≠ some B5)
    (hQ : ∀ (W1 W5 : World) (u' : Value) (t25 t26 t27 t28 t29 t30 t31 : Value), Below V0.drew.heap.size V0.drew W1 → (W1.alloc (.cells #[.int .u8 x.k, .string x.s, .int .i64 x.n, .int .i64 x.p] 37)).grownBy W5 u.ownBlock → W5.ownsRow base 37 4 u' (r.length + 1) (flatT r ++ x.cells) → Q .normal { tmps := #[x0, x1, x2, x3, x4, .pointer (some ⟨B5, 0, none⟩), .int .i64 x.p, .string x.s, .int .u8 x.k, x9, x10, x11, x12, x13, x14, x15, x16, x17, x18, x19, x20, x21, x22, x23, x24, t25, t26, t27, t28, t29, t30, t31, x32], defers := [] } (W5.setCell ⟨B5, 0, none⟩ u')) :
    (Code.region 12 ops12 true).wpIn (WR l) n Tryd.prog Q { tmps := #[x0, x1, x2, x3, x4, .pointer (some ⟨B5, 0, none⟩), .int .i64 x.p, .string x.s, .int .u8 x.k, x9, x10, x11, x12, x13, x14, x15, x16, x17, x18, x19, x20, x21, x22, x23, x24, x25, x26, x27, x28, x29, x30, x31, x32], defers := [] } V0 := by
  refine round_Z (fun y => y.cell? ⟨B5, 0, none⟩ = some u) 7 (by kernel_rfl) ?_
  obtain ⟨V, hV⟩ : ∃ V, V0.drew = V := ⟨_, rfl⟩
  rw [hV] at hS0 hfz hown hbase hQ hL ⊢
  clear hV
  have HOwn := hidI hown
  have HQ := hidI hQ
  have HC := hidI hC
  have HL := hidI hL
  have HPan : Hid (∀ c (a : Act) w (dd : Tmp) vv, Goes (Q .normal) (.panic c) (a.put (some dd) vv) w → Goes (Q .normal) (.panic c) a w) := hidI fun _ _ _ _ _ h => h
  have hgl : B5 < V.heap.size := World.block_lt_of_cell? V _ hS0
  have hu1 : ∃ ua ul uc, u = .slice ua ul uc := by
    rcases hown.2 with ⟨rfl, _⟩ | ⟨_, _, _, rfl, _⟩ <;> exact ⟨_, _, _, rfl⟩
  obtain ⟨ua, ul, uc, rfl⟩ := hu1
  clear hown hQ hC hL
  refine wpZ_take [7] (i := 0) (v := (.slice ua ul uc)) ops12_0 (by kernel_rfl) (by kernel_rfl) (by kernel_rfl) (by kernel_rfl) (fun c a w h => HPan.out c a w _ _ h) (.inl ⟨by rfl, fun y hy => ?_⟩) hS0 ?_
  · go_simp
  refine wpZ_take [7] (i := 1) (v := (.int .u8 x.k)) ops12_1 (by kernel_rfl) (by kernel_rfl) (by kernel_rfl) (by kernel_rfl) (fun c a w h => HPan.out c a w _ _ h) (.inl ⟨by rfl, fun y hy => ?_⟩) hS0 ?_
  · go_simp
  refine wpZ_take [7] (i := 2) (v := (.string x.s)) ops12_2 (by kernel_rfl) (by kernel_rfl) (by kernel_rfl) (by kernel_rfl) (fun c a w h => HPan.out c a w _ _ h) (.inl ⟨by rfl, fun y hy => ?_⟩) hS0 ?_
  · go_simp
  refine wpZ_take [7] (i := 3) (v := (.int .i64 x.p)) ops12_3 (by kernel_rfl) (by kernel_rfl) (by kernel_rfl) (by kernel_rfl) (fun c a w h => HPan.out c a w _ _ h) (.inl ⟨by rfl, fun y hy => ?_⟩) hS0 ?_
  · go_simp
  have HKS : Hid (∀ y : World, Below V.heap.size V y → y.cell? ⟨B5, 0, none⟩ = some (.slice ua ul uc)) := hidI fun y hy => (hy.cell hgl).trans hS0
  refine wpZ_all (rs := [4]) (by kernel_rfl) (by simp) fun j4 hj4 => ?_
  obtain rfl : j4 = 4 := by simpa using hj4
  refine wpOp_go ops12_4 rfl fun K1 hK1 => ?_
  unfold Oper.wp
  go_simp
  refine Calls.mono (HC.out _ HL.out) ?_
  rintro e W1 ⟨rfl, hb1⟩
  have H1 := hidI hb1
  have hS1 := HKS.out _ hb1
  have hf1 : W1.frozen? ⟨B5, 0, none⟩ = false := (hb1.frozen (p := ⟨B5, 0, none⟩) hgl).trans hfz
  have HO1 := hidI (own_below HOwn.out hb1 (Nat.le_refl _))
  have hz1 := hb1.size
  clear hb1
  refine hK1 _ _ ⟨fun _ => hS1, ?_⟩
  clear hK1 K1
  refine wpZ_all (rs := [5]) (by kernel_rfl) (by simp) fun j5 hj5 => ?_
  obtain rfl : j5 = 5 := by simpa using hj5
  refine wpOp_go ops12_5 rfl fun K1 hK1 => ?_
  unfold Oper.wp
  go_simp
  have hA : Below W1.heap.size W1 (W1.alloc (.cells #[.int .u8 x.k, .string x.s, .int .i64 x.n, .int .i64 x.p] 37)) := by (repeat (first | exact Below.refl _ _ | assumption | refine Below.drew ?_ | refine Below.alloc ?_ (by first | omega | (simp; done) | (simp; omega)) _ | refine Below.setCell ?_ (by first | omega | (simp; done) | (simp; omega)) _))
  have hSA : (W1.alloc (.cells #[.int .u8 x.k, .string x.s, .int .i64 x.n, .int .i64 x.p] 37)).cell? ⟨B5, 0, none⟩ = some (.slice ua ul uc) := (hA.cell (Nat.lt_of_lt_of_le hgl hz1)).trans hS1
  refine hK1 _ _ ⟨fun _ => hSA, ?_⟩
  clear hK1 K1
  have HO2 := hidI (HO1.out.alloc (.cells #[.int .u8 x.k, .string x.s, .int .i64 x.n, .int .i64 x.p] 37))
  have HV := hidI (tok_seen (W := W1) x)
  have hfA : (W1.alloc (.cells #[.int .u8 x.k, .string x.s, .int .i64 x.n, .int .i64 x.p] 37)).frozen? ⟨B5, 0, none⟩ = false := (hA.frozen (p := ⟨B5, 0, none⟩) (Nat.lt_of_lt_of_le hgl hz1)).trans hf1
  have hszA : (W1.alloc (.cells #[.int .u8 x.k, .string x.s, .int .i64 x.n, .int .i64 x.p] 37)).heap.size = W1.heap.size + 1 := by simp
  obtain ⟨VA, hVA⟩ : ∃ VA, W1.alloc (.cells #[.int .u8 x.k, .string x.s, .int .i64 x.n, .int .i64 x.p] 37) = VA := ⟨_, rfl⟩
  rw [hVA] at HO2 HV hSA hfA hszA ⊢
  have HVA := hidI hVA
  clear hVA hA
  refine wpZ_all (rs := [6]) (by kernel_rfl) (by simp) fun j6 hj6 => ?_
  obtain rfl : j6 = 6 := by simpa using hj6
  refine wpOp_go ops12_6 rfl fun K1 hK1 => ?_
  refine wp_append_any Tryd.underlying22 Tryd.info37 rfl (by decide) (by decide) _ _ rfl base _ r.length (flatT r) rfl HO2.out _ 1 x.cells rfl HV.out (tcells_one x) (by omega) (by omega) ?_
  intro u' W5 hown5 hgrow5 hat5
  have HO5 := hidI hown5
  have HG5 := hidI hgrow5
  have hS5 : W5.cell? ⟨B5, 0, none⟩ = some (.slice ua ul uc) := hgrow5.cell hSA (fun e => hg e.symm)
  have hf5 : W5.frozen? ⟨B5, 0, none⟩ = false := (World.frozen?_of_block (w := VA) (a := ⟨B5, 0, none⟩) (hgrow5.block B5 (by omega) (fun e => hg e.symm))).trans hfA
  obtain ⟨a6, l6, c6, hv6⟩ : ∃ a6 l6 c6, u' = .slice a6 l6 c6 := by
    rcases hown5.2 with ⟨rfl, _⟩ | ⟨_, _, _, rfl, _⟩ <;> exact ⟨_, _, _, rfl⟩
  subst hv6
  refine hK1 _ _ ⟨fun _ => hS5, ?_⟩
  clear hK1 K1 hown5 hgrow5 hat5
  refine wpZ_last (by kernel_rfl) (by kernel_rfl) ?_ _
  refine wpOp_go ops12_7 rfl fun K1 hK1 => ?_
  unfold Oper.wp
  go_simp
  refine hK1 _ _ ?_
  exact HQ.out W1 W5 _ _ _ _ _ _ _ _ H1.out (by rw [HVA.out]; exact HG5.out) HO5.out
end Go.Proofs.YtnlplkchkhibaaaDoor
