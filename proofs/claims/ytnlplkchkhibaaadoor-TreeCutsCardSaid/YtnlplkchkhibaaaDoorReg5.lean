/-
  A bracket that opens, in whatever order.
-/
import Derived.Test.YtnlplkchkhibaaaDoorAddK
namespace Go.Proofs.YtnlplkchkhibaaaDoor
open Go.RowKit Go.Deep Go.MapKept
def rr5 : Array Oper := #[{ dst := some 18, op := Op.move (Operand.tmp 0), type := 104, pos := "parse.go:50", after := #[], guard := none }, { dst := some 19, op := Op.move (Operand.tmp 0), type := 104, pos := "parse.go:50", after := #[], guard := none }, { dst := some 20, op := Op.nilCheck (Operand.tmp 19), type := 0, pos := "parse.go:50", after := #[{ on := 1, ground := Ground.data }], guard := none }, { dst := some 21, op := Op.fieldAddr 57 (Operand.tmp 20) 2, type := 0, pos := "parse.go:50", after := #[{ on := 2, ground := Ground.data }], guard := none }, { dst := some 22, op := Op.load 24 (Operand.tmp 21), type := 24, pos := "parse.go:50", after := #[{ on := 3, ground := Ground.data }], guard := none }, { dst := some 23, op := Op.move (Operand.tmp 0), type := 104, pos := "parse.go:50", after := #[], guard := none }, { dst := some 24, op := Op.fieldAddr 37 (Operand.tmp 3) 3, type := 0, pos := "parse.go:50", after := #[], guard := none }, { dst := some 25, op := Op.load 3 (Operand.tmp 24), type := 3, pos := "parse.go:50", after := #[{ on := 6, ground := Ground.data }], guard := none }, { dst := some 26, op := Op.build 40 #[(0, Operand.const (Value.int IntKind.u8 1)), (4, Operand.tmp 25)], type := 40, pos := "parse.go:50", after := #[{ on := 7, ground := Ground.data }], guard := none }, { dst := some 27, op := Op.call { callee := Callee.value (Operand.func 63), args := #[Operand.tmp 23, Operand.tmp 26], argTypes := #[104, 40] }, type := 3, pos := "parse.go:50", after := #[{ on := 5, ground := Ground.data }, { on := 8, ground := Ground.data }], guard := none }, { dst := some 28, op := Op.buildSlice 24 1 #[(0, Operand.tmp 27)], type := 24, pos := "parse.go:50", after := #[{ on := 9, ground := Ground.data }], guard := none }, { dst := some 29, op := Op.call { callee := Callee.builtin Builtin.append, args := #[Operand.tmp 22, Operand.tmp 28], argTypes := #[24, 24] }, type := 24, pos := "parse.go:50", after := #[{ on := 4, ground := Ground.data }, { on := 10, ground := Ground.data }, { on := 9, ground := Ground.chain }], guard := none }, { dst := some 30, op := Op.nilCheck (Operand.tmp 18), type := 0, pos := "parse.go:50", after := #[{ on := 0, ground := Ground.data }, { on := 0, ground := Ground.phase }, { on := 1, ground := Ground.phase }, { on := 2, ground := Ground.phase }, { on := 3, ground := Ground.phase }, { on := 4, ground := Ground.phase }, { on := 5, ground := Ground.phase }, { on := 6, ground := Ground.phase }, { on := 7, ground := Ground.phase }, { on := 8, ground := Ground.phase }, { on := 9, ground := Ground.phase }, { on := 10, ground := Ground.phase }, { on := 11, ground := Ground.phase }], guard := none }, { dst := some 31, op := Op.fieldAddr 57 (Operand.tmp 30) 2, type := 0, pos := "parse.go:50", after := #[{ on := 12, ground := Ground.data }, { on := 0, ground := Ground.phase }, { on := 1, ground := Ground.phase }, { on := 2, ground := Ground.phase }, { on := 3, ground := Ground.phase }, { on := 4, ground := Ground.phase }, { on := 5, ground := Ground.phase }, { on := 6, ground := Ground.phase }, { on := 7, ground := Ground.phase }, { on := 8, ground := Ground.phase }, { on := 9, ground := Ground.phase }, { on := 10, ground := Ground.phase }, { on := 11, ground := Ground.phase }], guard := none }, { dst := none, op := Op.store 24 (Operand.tmp 31) (Operand.tmp 29), type := 0, pos := "parse.go:50", after := #[{ on := 13, ground := Ground.data }, { on := 11, ground := Ground.data }, { on := 11, ground := Ground.chain }, { on := 0, ground := Ground.phase }, { on := 1, ground := Ground.phase }, { on := 2, ground := Ground.phase }, { on := 3, ground := Ground.phase }, { on := 4, ground := Ground.phase }, { on := 5, ground := Ground.phase }, { on := 6, ground := Ground.phase }, { on := 7, ground := Ground.phase }, { on := 8, ground := Ground.phase }, { on := 9, ground := Ground.phase }, { on := 10, ground := Ground.phase }, { on := 11, ground := Ground.phase }], guard := none }]
theorem rr5_0 : rr5[0]? = some { dst := some 18, op := Op.move (Operand.tmp 0), type := 104, pos := "parse.go:50", after := #[], guard := none } := by kernel_rfl
theorem rr5_1 : rr5[1]? = some { dst := some 19, op := Op.move (Operand.tmp 0), type := 104, pos := "parse.go:50", after := #[], guard := none } := by kernel_rfl
theorem rr5_2 : rr5[2]? = some { dst := some 20, op := Op.nilCheck (Operand.tmp 19), type := 0, pos := "parse.go:50", after := #[{ on := 1, ground := Ground.data }], guard := none } := by kernel_rfl
theorem rr5_3 : rr5[3]? = some { dst := some 21, op := Op.fieldAddr 57 (Operand.tmp 20) 2, type := 0, pos := "parse.go:50", after := #[{ on := 2, ground := Ground.data }], guard := none } := by kernel_rfl
theorem rr5_4 : rr5[4]? = some { dst := some 22, op := Op.load 24 (Operand.tmp 21), type := 24, pos := "parse.go:50", after := #[{ on := 3, ground := Ground.data }], guard := none } := by kernel_rfl
theorem rr5_5 : rr5[5]? = some { dst := some 23, op := Op.move (Operand.tmp 0), type := 104, pos := "parse.go:50", after := #[], guard := none } := by kernel_rfl
theorem rr5_6 : rr5[6]? = some { dst := some 24, op := Op.fieldAddr 37 (Operand.tmp 3) 3, type := 0, pos := "parse.go:50", after := #[], guard := none } := by kernel_rfl
theorem rr5_7 : rr5[7]? = some { dst := some 25, op := Op.load 3 (Operand.tmp 24), type := 3, pos := "parse.go:50", after := #[{ on := 6, ground := Ground.data }], guard := none } := by kernel_rfl
theorem rr5_8 : rr5[8]? = some { dst := some 26, op := Op.build 40 #[(0, Operand.const (Value.int IntKind.u8 1)), (4, Operand.tmp 25)], type := 40, pos := "parse.go:50", after := #[{ on := 7, ground := Ground.data }], guard := none } := by kernel_rfl
theorem rr5_9 : rr5[9]? = some { dst := some 27, op := Op.call { callee := Callee.value (Operand.func 63), args := #[Operand.tmp 23, Operand.tmp 26], argTypes := #[104, 40] }, type := 3, pos := "parse.go:50", after := #[{ on := 5, ground := Ground.data }, { on := 8, ground := Ground.data }], guard := none } := by kernel_rfl
theorem rr5_10 : rr5[10]? = some { dst := some 28, op := Op.buildSlice 24 1 #[(0, Operand.tmp 27)], type := 24, pos := "parse.go:50", after := #[{ on := 9, ground := Ground.data }], guard := none } := by kernel_rfl
theorem rr5_11 : rr5[11]? = some { dst := some 29, op := Op.call { callee := Callee.builtin Builtin.append, args := #[Operand.tmp 22, Operand.tmp 28], argTypes := #[24, 24] }, type := 24, pos := "parse.go:50", after := #[{ on := 4, ground := Ground.data }, { on := 10, ground := Ground.data }, { on := 9, ground := Ground.chain }], guard := none } := by kernel_rfl
theorem rr5_12 : rr5[12]? = some { dst := some 30, op := Op.nilCheck (Operand.tmp 18), type := 0, pos := "parse.go:50", after := #[{ on := 0, ground := Ground.data }, { on := 0, ground := Ground.phase }, { on := 1, ground := Ground.phase }, { on := 2, ground := Ground.phase }, { on := 3, ground := Ground.phase }, { on := 4, ground := Ground.phase }, { on := 5, ground := Ground.phase }, { on := 6, ground := Ground.phase }, { on := 7, ground := Ground.phase }, { on := 8, ground := Ground.phase }, { on := 9, ground := Ground.phase }, { on := 10, ground := Ground.phase }, { on := 11, ground := Ground.phase }], guard := none } := by kernel_rfl
theorem rr5_13 : rr5[13]? = some { dst := some 31, op := Op.fieldAddr 57 (Operand.tmp 30) 2, type := 0, pos := "parse.go:50", after := #[{ on := 12, ground := Ground.data }, { on := 0, ground := Ground.phase }, { on := 1, ground := Ground.phase }, { on := 2, ground := Ground.phase }, { on := 3, ground := Ground.phase }, { on := 4, ground := Ground.phase }, { on := 5, ground := Ground.phase }, { on := 6, ground := Ground.phase }, { on := 7, ground := Ground.phase }, { on := 8, ground := Ground.phase }, { on := 9, ground := Ground.phase }, { on := 10, ground := Ground.phase }, { on := 11, ground := Ground.phase }], guard := none } := by kernel_rfl
theorem rr5_14 : rr5[14]? = some { dst := none, op := Op.store 24 (Operand.tmp 31) (Operand.tmp 29), type := 0, pos := "parse.go:50", after := #[{ on := 13, ground := Ground.data }, { on := 11, ground := Ground.data }, { on := 11, ground := Ground.chain }, { on := 0, ground := Ground.phase }, { on := 1, ground := Ground.phase }, { on := 2, ground := Ground.phase }, { on := 3, ground := Ground.phase }, { on := 4, ground := Ground.phase }, { on := 5, ground := Ground.phase }, { on := 6, ground := Ground.phase }, { on := 7, ground := Ground.phase }, { on := 8, ground := Ground.phase }, { on := 9, ground := Ground.phase }, { on := 10, ground := Ground.phase }, { on := 11, ground := Ground.phase }], guard := none } := by kernel_rfl
set_option maxRecDepth 100000 in
set_option maxHeartbeats 2500000 in
theorem reg5 {x1 x2 x4 x5 x6 x7 x8 x9 x10 x11 x12 x13 x14 x15 x16 x17 x18 x19 x20 x21 x22 x23 x24 x25 x26 x27 x28 x29 x30 x31 x32 x33 x34 x35 x36 x37 x38 x39 x40 x41 x42 x43 x44 x45 x46 x47 x48 x49 x50 x51 x52 x53 x54 x55 x56 x57 x58 x59 x60 x61 x62 x63 x64 x65 x66 x67 x68 x69 x70 x71 x72 x73 x74 x75 x76 : Value} {Q : Exit → Act → World → Prop} {V0 : World} {B TB base : Nat} {fs : List FV} {top opn : List Nat} {fv tv ov : Value} {p : Int}
    (hRD : RD V0.drew base B fs top opn fv tv ov) (hTB : V0.drew.cell? ⟨TB, 3, none⟩ = some (.int .i64 p)) (hTR : ¬ RB B fs top opn fv tv ov TB) (ho : opn.length ≤ 12)
    (hC : Calls Tryd.prog 63 #[.pointer (some ⟨B, 0, none⟩), .agg #[.int .u8 1, .string ⟨#[]⟩, .int .i64 0, .slice none 0 0, .int .i64 p]] V0.drew fun e w' => AddRes V0.drew base B fs top opn fv tv ov ⟨1, ⟨#[]⟩, 0, [], p⟩ e w')
    (hpan : ∀ c (a : Act) w (dd : Tmp) vv, Q (.panic c) (a.put (some dd) vv) w → Q (.panic c) a w)
    (hQp : ∀ (a : Act) (W : World), fs.length = 400 → Below V0.drew.heap.size V0.drew W → a.defers = [] → Q (.panic (flt p 4)) a W)
    (hQ : ∀ (W5 : World) (fs' : List FV) (top' : List Nat) (fv' tv' ov' : Value) (t18 t19 t20 t21 t22 t23 t24 t25 t26 t27 t28 t29 t30 t31 : Value), ¬ fs.length = 400 → Below base V0.drew W5 → RD W5 base B fs' top' (opn ++ [fs.length]) fv' tv' ov' → addF ⟨1, ⟨#[]⟩, 0, [], p⟩ ⟨fs.map Prod.fst, top, opn⟩ = ⟨fs'.map Prod.fst, top', opn⟩ → Q .normal { tmps := #[.pointer (some ⟨B, 0, none⟩), x1, x2, .pointer (some ⟨TB, 0, none⟩), x4, x5, x6, x7, x8, x9, x10, x11, x12, x13, x14, x15, x16, x17, t18, t19, t20, t21, t22, t23, t24, t25, t26, t27, t28, t29, t30, t31, x32, x33, x34, x35, x36, x37, x38, x39, x40, x41, x42, x43, x44, x45, x46, x47, x48, x49, x50, x51, x52, x53, x54, x55, x56, x57, x58, x59, x60, x61, x62, x63, x64, x65, x66, x67, x68, x69, x70, x71, x72, x73, x74, x75, x76], defers := [] } W5) :
    (Code.region 5 rr5 true).wp Tryd.prog Q { tmps := #[.pointer (some ⟨B, 0, none⟩), x1, x2, .pointer (some ⟨TB, 0, none⟩), x4, x5, x6, x7, x8, x9, x10, x11, x12, x13, x14, x15, x16, x17, x18, x19, x20, x21, x22, x23, x24, x25, x26, x27, x28, x29, x30, x31, x32, x33, x34, x35, x36, x37, x38, x39, x40, x41, x42, x43, x44, x45, x46, x47, x48, x49, x50, x51, x52, x53, x54, x55, x56, x57, x58, x59, x60, x61, x62, x63, x64, x65, x66, x67, x68, x69, x70, x71, x72, x73, x74, x75, x76], defers := [] } V0 := by
  refine wp_region_Z (fun y => y.cell? ⟨B, 2, none⟩ = some ov ∧ y.cell? ⟨TB, 3, none⟩ = some (.int .i64 p)) 14 Tryd.mixed ?_
  obtain ⟨V, hV⟩ : ∃ V, V0.drew = V := ⟨_, rfl⟩
  rw [hV] at hRD hTB hC hQp hQ ⊢
  clear hV
  have HQ := hidI hQ
  have HQp := hidI hQp
  have HPan := hidI hpan
  have HC := hidI hC
  have HR := hidI hRD
  have hlt := hRD.lt
  have hu1 : ∃ ua ul uc, ov = .slice ua ul uc := by
    obtain ⟨a, c, e⟩ := own_slice hRD.oo
    exact ⟨a, _, c, e⟩
  obtain ⟨ua, ul, uc, rfl⟩ := hu1
  have hS0 : V.cell? ⟨B, 2, none⟩ = some (.slice ua ul uc) ∧ V.cell? ⟨TB, 3, none⟩ = some (.int .i64 p) := ⟨hRD.c2, hTB⟩
  have HTR := hidI hTR
  clear hQ hpan hQp hC hRD hTR hTB
  refine wpZ_take [14] (i := 0) (v := (.pointer (some ⟨B, 0, none⟩))) rr5_0 (by kernel_rfl) (by kernel_rfl) (by kernel_rfl) (by kernel_rfl) (fun c a w h => HPan.out c a w _ _ h) (.inl ⟨by rfl, fun y hy => ?_⟩) hS0 ?_
  · obtain ⟨hy0, hy1⟩ := hy
    go_simp
  refine wpZ_take [14] (i := 1) (v := (.pointer (some ⟨B, 0, none⟩))) rr5_1 (by kernel_rfl) (by kernel_rfl) (by kernel_rfl) (by kernel_rfl) (fun c a w h => HPan.out c a w _ _ h) (.inl ⟨by rfl, fun y hy => ?_⟩) hS0 ?_
  · obtain ⟨hy0, hy1⟩ := hy
    go_simp
  refine wpZ_take [14] (i := 2) (v := (.pointer (some ⟨B, 0, none⟩))) rr5_2 (by kernel_rfl) (by kernel_rfl) (by kernel_rfl) (by kernel_rfl) (fun c a w h => HPan.out c a w _ _ h) (.inl ⟨by rfl, fun y hy => ?_⟩) hS0 ?_
  · obtain ⟨hy0, hy1⟩ := hy
    go_simp
  refine wpZ_take [14] (i := 3) (v := (.pointer (some ⟨B, 2, none⟩))) rr5_3 (by kernel_rfl) (by kernel_rfl) (by kernel_rfl) (by kernel_rfl) (fun c a w h => HPan.out c a w _ _ h) (.inl ⟨by rfl, fun y hy => ?_⟩) hS0 ?_
  · obtain ⟨hy0, hy1⟩ := hy
    go_simp
  refine wpZ_take [14] (i := 4) (v := (.slice ua ul uc)) rr5_4 (by kernel_rfl) (by kernel_rfl) (by kernel_rfl) (by kernel_rfl) (fun c a w h => HPan.out c a w _ _ h) (.inl ⟨by rfl, fun y hy => ?_⟩) hS0 ?_
  · obtain ⟨hy0, hy1⟩ := hy
    go_simp
  refine wpZ_take [14] (i := 5) (v := (.pointer (some ⟨B, 0, none⟩))) rr5_5 (by kernel_rfl) (by kernel_rfl) (by kernel_rfl) (by kernel_rfl) (fun c a w h => HPan.out c a w _ _ h) (.inl ⟨by rfl, fun y hy => ?_⟩) hS0 ?_
  · obtain ⟨hy0, hy1⟩ := hy
    go_simp
  refine wpZ_take [14] (i := 6) (v := (.pointer (some ⟨TB, 3, none⟩))) rr5_6 (by kernel_rfl) (by kernel_rfl) (by kernel_rfl) (by kernel_rfl) (fun c a w h => HPan.out c a w _ _ h) (.inl ⟨by rfl, fun y hy => ?_⟩) hS0 ?_
  · obtain ⟨hy0, hy1⟩ := hy
    go_simp
  refine wpZ_take [14] (i := 7) (v := (.int .i64 p)) rr5_7 (by kernel_rfl) (by kernel_rfl) (by kernel_rfl) (by kernel_rfl) (fun c a w h => HPan.out c a w _ _ h) (.inl ⟨by rfl, fun y hy => ?_⟩) hS0 ?_
  · obtain ⟨hy0, hy1⟩ := hy
    go_simp
  refine wpZ_take [14] (i := 8) (v := (.agg #[.int .u8 1, .string ⟨#[]⟩, .int .i64 0, .slice none 0 0, .int .i64 p])) rr5_8 (by kernel_rfl) (by kernel_rfl) (by kernel_rfl) (by kernel_rfl) (fun c a w h => HPan.out c a w _ _ h) (.inl ⟨by rfl, fun y hy => ?_⟩) hS0 ?_
  · obtain ⟨hy0, hy1⟩ := hy
    go_simp
  refine wpZ_all (rs := [9]) (by kernel_rfl) (by simp) fun j9 hj9 => ?_
  obtain rfl : j9 = 9 := by simpa using hj9
  refine wpOp_go rr5_9 rfl fun K1 hK1 => ?_
  unfold Oper.wp
  go_simp
  refine Calls.mono HC.out ?_
  intro e W1 hres
  unfold AddRes at hres
  by_cases hfull : fs.length = 400
  · rw [if_pos hfull] at hres
    obtain ⟨rfl, hbp⟩ := hres
    go_simp
    exact HQp.out _ _ hfull hbp rfl
  rw [if_neg hfull] at hres
  obtain ⟨rfl, hchg, fs', top', fv', tv', hRD1, hadd⟩ := hres
  go_simp
  have HR1 := hidI hRD1
  have HC1 := hidI hchg
  have HAdd := hidI hadd
  have hlt1 := hRD1.lt
  have hz1 := hchg.size
  have hS1 : W1.cell? ⟨B, 2, none⟩ = some (.slice ua ul uc) ∧ W1.cell? ⟨TB, 3, none⟩ = some (.int .i64 p) := ⟨hRD1.c2, hchg.cell hS0.2 HTR.out⟩
  clear hRD1 hchg hadd hS0
  refine hK1 _ _ ⟨fun _ => hS1, ?_⟩
  clear hK1 K1
  refine wpZ_all (rs := [10]) (by kernel_rfl) (by simp) fun j10 hj10 => ?_
  obtain rfl : j10 = 10 := by simpa using hj10
  refine wpOp_go rr5_10 rfl fun K1 hK1 => ?_
  unfold Oper.wp
  go_simp
  have hSA : (W1.alloc (.cells #[.int .i64 (fs.length : Int)] 3)).cell? ⟨B, 2, none⟩ = some (.slice ua ul uc) ∧ (W1.alloc (.cells #[.int .i64 (fs.length : Int)] 3)).cell? ⟨TB, 3, none⟩ = some (.int .i64 p) := ⟨cell_al _ hS1.1, cell_al _ hS1.2⟩
  refine hK1 _ _ ⟨fun _ => hSA, ?_⟩
  clear hK1 K1
  have HRA := hidI (HR1.out.alloc (.cells #[.int .i64 (fs.length : Int)] 3))
  have HV := hidI (int_seen (W := W1) (fs.length : Int))
  have HCA := hidI (HC1.out.alloc (.cells #[.int .i64 (fs.length : Int)] 3))
  have hszA : (W1.alloc (.cells #[.int .i64 (fs.length : Int)] 3)).heap.size = W1.heap.size + 1 := by simp
  obtain ⟨VA, hVA⟩ : ∃ VA, W1.alloc (.cells #[.int .i64 (fs.length : Int)] 3) = VA := ⟨_, rfl⟩
  rw [hVA] at HRA HV hSA hszA HCA ⊢
  clear hVA
  refine wpZ_all (rs := [11]) (by kernel_rfl) (by simp) fun j11 hj11 => ?_
  obtain rfl : j11 = 11 := by simpa using hj11
  refine wpOp_go rr5_11 rfl fun K1 hK1 => ?_
  refine wp_append_any Tryd.underlying24 Tryd.info3x rfl (by decide) (by decide) _ _ rfl base (.slice ua ul uc) opn.length (ints opn) rfl HRA.out.oo _ 1 [.int .i64 (fs.length : Int)] rfl HV.out (by simp [Value.oneCell']) (by omega) (by omega) ?_
  intro u' W5 hown5 hgrow5 hat5
  have hne : Ap (bx B) (.slice ua ul uc) := HRA.out.apart 0 3 _ _ rfl rfl (by omega)
  have hne' : some B ≠ (Value.slice ua ul uc).ownBlock := by rcases hne with h | h; cases h; exact h
  have hneT : some TB ≠ (Value.slice ua ul uc).ownBlock := fun e => HTR.out ⟨⟨.slice ua ul uc, 3, 1, opn.length, ints opn⟩, List.mem_of_getElem? (i := 3) rfl, e.symm⟩
  have hS5 : W5.cell? ⟨B, 2, none⟩ = some (.slice ua ul uc) ∧ W5.cell? ⟨TB, 3, none⟩ = some (.int .i64 p) := ⟨hgrow5.cell hSA.1 hne', hgrow5.cell hSA.2 hneT⟩
  have hf5 : W5.frozen? ⟨B, 2, none⟩ = false := (World.frozen?_of_block (w := VA) (a := ⟨B, 2, none⟩) (hgrow5.block B (by omega) hne')).trans (HRA.out.free 2)
  have h5 : RD (W5.setCell ⟨B, 2, none⟩ u') base B fs' top' (opn ++ [fs.length]) fv' tv' u' := HRA.out.putO hgrow5 (by rw [ints_append, List.length_append]; exact hown5) (.inr hat5)
  have hoB : base ≤ B := by omega
  have hb5 : Below base V (W5.setCell ⟨B, 2, none⟩ u') := by
    have q := (HCA.out.below (n := base) (by have := HR.out.lt; omega) (fun k hk hr => by have := HR.out.block hr; omega))
    refine Below.setCell (Below.grown q hgrow5 (by omega) (fun k e => ((HRA.out.oo).lt k e).1)) hoB _
  have hc5 := hS5.1
  obtain ⟨a6, l6, c6, hv6⟩ : ∃ a6 l6 c6, u' = .slice a6 l6 c6 := by
    obtain ⟨a, c, e⟩ := own_slice hown5
    exact ⟨a, _, c, e⟩
  subst hv6
  have HB5 := hidI hb5
  have H5 := hidI h5
  refine hK1 _ _ ⟨fun _ => hS5, ?_⟩
  clear hK1 K1 hown5 hgrow5 hat5 hSA hb5 h5 hne hne' hneT
  refine wpZ_all (rs := [12]) (by kernel_rfl) (by simp) fun j12 hj12 => ?_
  obtain rfl : j12 = 12 := by simpa using hj12
  refine wpOp_go rr5_12 rfl fun K1 hK1 => ?_
  unfold Oper.wp
  go_simp
  refine hK1 _ _ ⟨fun _ => hS5, ?_⟩
  clear hK1 K1
  refine wpZ_all (rs := [13]) (by kernel_rfl) (by simp) fun j13 hj13 => ?_
  obtain rfl : j13 = 13 := by simpa using hj13
  refine wpOp_go rr5_13 rfl fun K1 hK1 => ?_
  unfold Oper.wp
  go_simp
  refine hK1 _ _ ⟨fun _ => hS5, ?_⟩
  clear hK1 K1
  refine wpZ_last (by kernel_rfl) (by kernel_rfl) ?_ _
  refine wpOp_go rr5_14 rfl fun K1 hK1 => ?_
  unfold Oper.wp
  go_simp
  refine hK1 _ _ ?_
  exact HQ.out _ _ _ _ _ _ _ _ _ _ _ _ _ _ _ _ _ _ _ _ hfull HB5.out H5.out HAdd.out
end Go.Proofs.YtnlplkchkhibaaaDoor
