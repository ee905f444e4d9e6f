/-
  A name, in whatever order.
-/
import Derived.Test.YtnlplkchkhibaaaDoorReg5
import Derived.Test.YtnlplkchkhibaaaDoorPFun
namespace Go.Proofs.YtnlplkchkhibaaaDoor
open Go.RowKit Go.Deep Go.MapKept
theorem RD.down {w w' : World} {base B : Nat} {fs : List FV} {top opn : List Nat} {fv tv ov : Value} (h : RD w base B fs top opn fv tv ov) (hb : Below w.heap.size w w') : RD w' base B fs top opn fv tv ov :=
  RowsOk.far (row := none) h ⟨hb.os, hb.tape, hb.output, hb.size, fun k hk _ => hb.block k hk⟩ (fun r _ => by cases r.v.ownBlock <;> simp)
def rr11 : Array Oper := #[{ dst := some 60, op := Op.move (Operand.tmp 0), type := 104, pos := "parse.go:57", after := #[], guard := none }, { dst := some 61, op := Op.fieldAddr 37 (Operand.tmp 3) 1, type := 0, pos := "parse.go:57", after := #[], guard := none }, { dst := some 62, op := Op.load 9 (Operand.tmp 61), type := 9, pos := "parse.go:57", after := #[{ on := 1, ground := Ground.data }], guard := none }, { dst := some 63, op := Op.call { callee := Callee.value (Operand.func 51), args := #[Operand.tmp 62], argTypes := #[9] }, type := 9, pos := "parse.go:57", after := #[{ on := 2, ground := Ground.data }], guard := none }, { dst := some 64, op := Op.fieldAddr 37 (Operand.tmp 3) 3, type := 0, pos := "parse.go:57", after := #[], guard := none }, { dst := some 65, op := Op.load 3 (Operand.tmp 64), type := 3, pos := "parse.go:57", after := #[{ on := 4, ground := Ground.data }], guard := none }, { dst := some 66, op := Op.build 40 #[(0, Operand.const (Value.int IntKind.u8 3)), (1, Operand.tmp 63), (4, Operand.tmp 65)], type := 40, pos := "parse.go:57", after := #[{ on := 3, ground := Ground.data }, { on := 5, ground := Ground.data }], guard := none }, { dst := some 67, op := Op.call { callee := Callee.value (Operand.func 63), args := #[Operand.tmp 60, Operand.tmp 66], argTypes := #[104, 40] }, type := 3, pos := "parse.go:57", after := #[{ on := 0, ground := Ground.data }, { on := 6, ground := Ground.data }, { on := 3, ground := Ground.chain }], guard := none }]
theorem rr11_0 : rr11[0]? = some { dst := some 60, op := Op.move (Operand.tmp 0), type := 104, pos := "parse.go:57", after := #[], guard := none } := by kernel_rfl
theorem rr11_1 : rr11[1]? = some { dst := some 61, op := Op.fieldAddr 37 (Operand.tmp 3) 1, type := 0, pos := "parse.go:57", after := #[], guard := none } := by kernel_rfl
theorem rr11_2 : rr11[2]? = some { dst := some 62, op := Op.load 9 (Operand.tmp 61), type := 9, pos := "parse.go:57", after := #[{ on := 1, ground := Ground.data }], guard := none } := by kernel_rfl
theorem rr11_3 : rr11[3]? = some { dst := some 63, op := Op.call { callee := Callee.value (Operand.func 51), args := #[Operand.tmp 62], argTypes := #[9] }, type := 9, pos := "parse.go:57", after := #[{ on := 2, ground := Ground.data }], guard := none } := by kernel_rfl
theorem rr11_4 : rr11[4]? = some { dst := some 64, op := Op.fieldAddr 37 (Operand.tmp 3) 3, type := 0, pos := "parse.go:57", after := #[], guard := none } := by kernel_rfl
theorem rr11_5 : rr11[5]? = some { dst := some 65, op := Op.load 3 (Operand.tmp 64), type := 3, pos := "parse.go:57", after := #[{ on := 4, ground := Ground.data }], guard := none } := by kernel_rfl
theorem rr11_6 : rr11[6]? = some { dst := some 66, op := Op.build 40 #[(0, Operand.const (Value.int IntKind.u8 3)), (1, Operand.tmp 63), (4, Operand.tmp 65)], type := 40, pos := "parse.go:57", after := #[{ on := 3, ground := Ground.data }, { on := 5, ground := Ground.data }], guard := none } := by kernel_rfl
theorem rr11_7 : rr11[7]? = some { dst := some 67, op := Op.call { callee := Callee.value (Operand.func 63), args := #[Operand.tmp 60, Operand.tmp 66], argTypes := #[104, 40] }, type := 3, pos := "parse.go:57", after := #[{ on := 0, ground := Ground.data }, { on := 6, ground := Ground.data }, { on := 3, ground := Ground.chain }], guard := none } := by kernel_rfl
set_option maxRecDepth 100000 in
set_option maxHeartbeats 2500000 in
theorem reg11 {x1 x2 x4 x5 x6 x7 x8 x9 x10 x11 x12 x13 x14 x15 x16 x17 x18 x19 x20 x21 x22 x23 x24 x25 x26 x27 x28 x29 x30 x31 x32 x33 x34 x35 x36 x37 x38 x39 x40 x41 x42 x43 x44 x45 x46 x47 x48 x49 x50 x51 x52 x53 x54 x55 x56 x57 x58 x59 x60 x61 x62 x63 x64 x65 x66 x67 x68 x69 x70 x71 x72 x73 x74 x75 x76 : Value} {Q : Exit → Act → World → Prop} {V0 : World} {B TB base : Nat} {fs : List FV} {top opn : List Nat} {fv tv ov : Value} {p : Int} {s : ByteArray} (hs : s.size ≤ 140737488355328)
    (hRD : RD V0.drew base B fs top opn fv tv ov) (hG : Good ⟨fs.map Prod.fst, top, opn⟩) (hS0 : V0.drew.cell? ⟨TB, 1, none⟩ = some (.string s) ∧ V0.drew.cell? ⟨TB, 3, none⟩ = some (.int .i64 p))
    (hpan : ∀ c (a : Act) w (dd : Tmp) vv, Q (.panic c) (a.put (some dd) vv) w → Q (.panic c) a w)
    (hQp : ∀ (a : Act) (W : World), fs.length = 400 → Below V0.drew.heap.size V0.drew W → a.defers = [] → Q (.panic (flt p 4)) a W)
    (hQ : ∀ (W5 : World) (fs' : List FV) (top' : List Nat) (fv' tv' : Value) (t60 t61 t62 t63 t64 t65 t66 t67 : Value), ¬ fs.length = 400 → Below base V0.drew W5 → RD W5 base B fs' top' opn fv' tv' ov → addF ⟨3, s, 0, [], p⟩ ⟨fs.map Prod.fst, top, opn⟩ = ⟨fs'.map Prod.fst, top', opn⟩ → Q .normal { tmps := #[.pointer (some ⟨B, 0, none⟩), x1, x2, .pointer (some ⟨TB, 0, none⟩), x4, x5, x6, x7, x8, x9, x10, x11, x12, x13, x14, x15, x16, x17, x18, x19, x20, x21, x22, x23, x24, x25, x26, x27, x28, x29, x30, x31, x32, x33, x34, x35, x36, x37, x38, x39, x40, x41, x42, x43, x44, x45, x46, x47, x48, x49, x50, x51, x52, x53, x54, x55, x56, x57, x58, x59, t60, t61, t62, t63, t64, t65, t66, t67, x68, x69, x70, x71, x72, x73, x74, x75, x76], defers := [] } W5) :
    (Code.region 11 rr11 true).wp Tryd.prog Q { tmps := #[.pointer (some ⟨B, 0, none⟩), x1, x2, .pointer (some ⟨TB, 0, none⟩), x4, x5, x6, x7, x8, x9, x10, x11, x12, x13, x14, x15, x16, x17, x18, x19, x20, x21, x22, x23, x24, x25, x26, x27, x28, x29, x30, x31, x32, x33, x34, x35, x36, x37, x38, x39, x40, x41, x42, x43, x44, x45, x46, x47, x48, x49, x50, x51, x52, x53, x54, x55, x56, x57, x58, x59, x60, x61, x62, x63, x64, x65, x66, x67, x68, x69, x70, x71, x72, x73, x74, x75, x76], defers := [] } V0 := by
  refine wp_region_Z (fun y => y.cell? ⟨TB, 1, none⟩ = some (.string s) ∧ y.cell? ⟨TB, 3, none⟩ = some (.int .i64 p)) 7 Tryd.mixed ?_
  obtain ⟨V, hV⟩ : ∃ V, V0.drew = V := ⟨_, rfl⟩
  rw [hV] at hRD hS0 hQp hQ ⊢
  clear hV
  have HQ := hidI hQ
  have HQp := hidI hQp
  have HPan := hidI hpan
  have HR := hidI hRD
  have HG := hidI hG
  have hlt := hRD.lt
  have hTl : TB < V.heap.size := World.block_lt_of_cell? V _ hS0.1
  clear hQ hpan hQp hRD hG
  refine wpZ_take [7] (i := 0) (v := (.pointer (some ⟨B, 0, none⟩))) rr11_0 (by kernel_rfl) (by kernel_rfl) (by kernel_rfl) (by kernel_rfl) (fun c a w h => HPan.out c a w _ _ h) (.inl ⟨by rfl, fun y hy => ?_⟩) hS0 ?_
  · obtain ⟨hy0, hy1⟩ := hy
    go_simp
  refine wpZ_take [2, 3, 6, 7] (i := 1) (v := (.pointer (some ⟨TB, 1, none⟩))) rr11_1 (by kernel_rfl) (by kernel_rfl) (by kernel_rfl) (by kernel_rfl) (fun c a w h => HPan.out c a w _ _ h) (.inl ⟨by rfl, fun y hy => ?_⟩) hS0 ?_
  · obtain ⟨hy0, hy1⟩ := hy
    go_simp
  refine wpZ_take [3, 6, 7] (i := 2) (v := (.string s)) rr11_2 (by kernel_rfl) (by kernel_rfl) (by kernel_rfl) (by kernel_rfl) (fun c a w h => HPan.out c a w _ _ h) (.inl ⟨by rfl, fun y hy => ?_⟩) hS0 ?_
  · obtain ⟨hy0, hy1⟩ := hy
    go_simp
  refine wpZ_take [5, 6, 7] (i := 4) (v := (.pointer (some ⟨TB, 3, none⟩))) rr11_4 (by kernel_rfl) (by kernel_rfl) (by kernel_rfl) (by kernel_rfl) (fun c a w h => HPan.out c a w _ _ h) (.inl ⟨by rfl, fun y hy => ?_⟩) hS0 ?_
  · obtain ⟨hy0, hy1⟩ := hy
    go_simp
  refine wpZ_take [6, 7] (i := 5) (v := (.int .i64 p)) rr11_5 (by kernel_rfl) (by kernel_rfl) (by kernel_rfl) (by kernel_rfl) (fun c a w h => HPan.out c a w _ _ h) (.inl ⟨by rfl, fun y hy => ?_⟩) hS0 ?_
  · obtain ⟨hy0, hy1⟩ := hy
    go_simp
  refine wpZ_all (rs := [3]) (by kernel_rfl) (by simp) fun j3 hj3 => ?_
  obtain rfl : j3 = 3 := by simpa using hj3
  refine wpOp_go rr11_3 rfl fun K1 hK1 => ?_
  unfold Oper.wp
  go_simp
  refine Calls.mono (clone_any s hs _) ?_
  rintro e W1 ⟨rfl, hb1⟩
  go_simp
  have H1 := hidI hb1
  have HR1 := hidI (HR.out.down hb1)
  have hS1 : W1.cell? ⟨TB, 1, none⟩ = some (.string s) ∧ W1.cell? ⟨TB, 3, none⟩ = some (.int .i64 p) := ⟨(hb1.cell hTl).trans hS0.1, (hb1.cell hTl).trans hS0.2⟩
  clear hb1
  refine hK1 _ _ ⟨fun _ => hS1, ?_⟩
  clear hK1 K1
  refine wpZ_all (rs := [6]) (by kernel_rfl) (by simp) fun j6 hj6 => ?_
  obtain rfl : j6 = 6 := by simpa using hj6
  refine wpOp_go rr11_6 rfl fun K1 hK1 => ?_
  unfold Oper.wp
  go_simp
  refine hK1 _ _ ⟨fun _ => hS1, ?_⟩
  clear hK1 K1
  refine wpZ_last (by kernel_rfl) (by kernel_rfl) ?_ _
  refine wpOp_go rr11_7 rfl fun K1 hK1 => ?_
  unfold Oper.wp
  go_simp
  refine Calls.mono (add_any HR1.out HG.out ⟨3, s, 0, [], p⟩ rfl) ?_
  intro e W2 hres
  unfold AddRes at hres
  have hB1 : Below base V W1 := H1.out.mono (by omega)
  by_cases hfull : fs.length = 400
  · rw [if_pos hfull] at hres
    obtain ⟨rfl, hbp⟩ := hres
    go_simp
    exact HQp.out _ _ hfull (H1.out.trans (hbp.mono H1.out.size)) rfl
  rw [if_neg hfull] at hres
  obtain ⟨rfl, hchg, fs', top', fv', tv', hRD1, hadd⟩ := hres
  go_simp
  refine hK1 _ _ ?_
  have hz := H1.out.size
  have q := hchg.below (n := base) (by omega) (fun k hk hr => by have := HR1.out.block hr; omega)
  exact HQ.out _ _ _ _ _ _ _ _ _ _ _ _ _ hfull (hB1.trans q) hRD1 hadd
end Go.Proofs.YtnlplkchkhibaaaDoor
/-
  A bracket that closes, in whatever order.
-/
namespace Go.Proofs.YtnlplkchkhibaaaDoor
open Go.RowKit Go.Deep Go.MapKept
def rr9 : Array Oper := #[{ dst := some 44, op := Op.move (Operand.tmp 0), type := 104, pos := "parse.go:55", after := #[], guard := none }, { dst := some 45, op := Op.move (Operand.tmp 0), type := 104, pos := "parse.go:55", after := #[], guard := none }, { dst := some 46, op := Op.nilCheck (Operand.tmp 45), type := 0, pos := "parse.go:55", after := #[{ on := 1, ground := Ground.data }], guard := none }, { dst := some 47, op := Op.fieldAddr 57 (Operand.tmp 46) 2, type := 0, pos := "parse.go:55", after := #[{ on := 2, ground := Ground.data }], guard := none }, { dst := some 48, op := Op.load 24 (Operand.tmp 47), type := 24, pos := "parse.go:55", after := #[{ on := 3, ground := Ground.data }], guard := none }, { dst := some 49, op := Op.move (Operand.tmp 0), type := 104, pos := "parse.go:55", after := #[], guard := none }, { dst := some 50, op := Op.nilCheck (Operand.tmp 49), type := 0, pos := "parse.go:55", after := #[{ on := 5, ground := Ground.data }], guard := none }, { dst := some 51, op := Op.fieldAddr 57 (Operand.tmp 50) 2, type := 0, pos := "parse.go:55", after := #[{ on := 6, ground := Ground.data }], guard := none }, { dst := some 52, op := Op.load 24 (Operand.tmp 51), type := 24, pos := "parse.go:55", after := #[{ on := 7, ground := Ground.data }], guard := none }, { dst := some 53, op := Op.call { callee := Callee.builtin Builtin.len, args := #[Operand.tmp 52], argTypes := #[24] }, type := 3, pos := "parse.go:55", after := #[{ on := 8, ground := Ground.data }], guard := none }, { dst := some 54, op := Op.binOp BinOp.sub 3 (Operand.tmp 53) (Operand.const (Value.int IntKind.i64 1)) 3, type := 3, pos := "parse.go:55", after := #[{ on := 9, ground := Ground.data }], guard := none }, { dst := some 55, op := Op.slice 24 (Operand.tmp 48) none (some (Operand.tmp 54)) none, type := 24, pos := "parse.go:55", after := #[{ on := 4, ground := Ground.data }, { on := 10, ground := Ground.data }], guard := none }, { dst := some 56, op := Op.nilCheck (Operand.tmp 44), type := 0, pos := "parse.go:55", after := #[{ on := 0, ground := Ground.data }, { on := 0, ground := Ground.phase }, { on := 1, ground := Ground.phase }, { on := 2, ground := Ground.phase }, { on := 3, ground := Ground.phase }, { on := 4, ground := Ground.phase }, { on := 5, ground := Ground.phase }, { on := 6, ground := Ground.phase }, { on := 7, ground := Ground.phase }, { on := 8, ground := Ground.phase }, { on := 9, ground := Ground.phase }, { on := 10, ground := Ground.phase }, { on := 11, ground := Ground.phase }], guard := none }, { dst := some 57, op := Op.fieldAddr 57 (Operand.tmp 56) 2, type := 0, pos := "parse.go:55", after := #[{ on := 12, ground := Ground.data }, { on := 0, ground := Ground.phase }, { on := 1, ground := Ground.phase }, { on := 2, ground := Ground.phase }, { on := 3, ground := Ground.phase }, { on := 4, ground := Ground.phase }, { on := 5, ground := Ground.phase }, { on := 6, ground := Ground.phase }, { on := 7, ground := Ground.phase }, { on := 8, ground := Ground.phase }, { on := 9, ground := Ground.phase }, { on := 10, ground := Ground.phase }, { on := 11, ground := Ground.phase }], guard := none }, { dst := none, op := Op.store 24 (Operand.tmp 57) (Operand.tmp 55), type := 0, pos := "parse.go:55", after := #[{ on := 13, ground := Ground.data }, { on := 11, ground := Ground.data }, { on := 0, ground := Ground.phase }, { on := 1, ground := Ground.phase }, { on := 2, ground := Ground.phase }, { on := 3, ground := Ground.phase }, { on := 4, ground := Ground.phase }, { on := 5, ground := Ground.phase }, { on := 6, ground := Ground.phase }, { on := 7, ground := Ground.phase }, { on := 8, ground := Ground.phase }, { on := 9, ground := Ground.phase }, { on := 10, ground := Ground.phase }, { on := 11, ground := Ground.phase }], guard := none }]
theorem rr9_0 : rr9[0]? = some { dst := some 44, op := Op.move (Operand.tmp 0), type := 104, pos := "parse.go:55", after := #[], guard := none } := by kernel_rfl
theorem rr9_1 : rr9[1]? = some { dst := some 45, op := Op.move (Operand.tmp 0), type := 104, pos := "parse.go:55", after := #[], guard := none } := by kernel_rfl
theorem rr9_2 : rr9[2]? = some { dst := some 46, op := Op.nilCheck (Operand.tmp 45), type := 0, pos := "parse.go:55", after := #[{ on := 1, ground := Ground.data }], guard := none } := by kernel_rfl
theorem rr9_3 : rr9[3]? = some { dst := some 47, op := Op.fieldAddr 57 (Operand.tmp 46) 2, type := 0, pos := "parse.go:55", after := #[{ on := 2, ground := Ground.data }], guard := none } := by kernel_rfl
theorem rr9_4 : rr9[4]? = some { dst := some 48, op := Op.load 24 (Operand.tmp 47), type := 24, pos := "parse.go:55", after := #[{ on := 3, ground := Ground.data }], guard := none } := by kernel_rfl
theorem rr9_5 : rr9[5]? = some { dst := some 49, op := Op.move (Operand.tmp 0), type := 104, pos := "parse.go:55", after := #[], guard := none } := by kernel_rfl
theorem rr9_6 : rr9[6]? = some { dst := some 50, op := Op.nilCheck (Operand.tmp 49), type := 0, pos := "parse.go:55", after := #[{ on := 5, ground := Ground.data }], guard := none } := by kernel_rfl
theorem rr9_7 : rr9[7]? = some { dst := some 51, op := Op.fieldAddr 57 (Operand.tmp 50) 2, type := 0, pos := "parse.go:55", after := #[{ on := 6, ground := Ground.data }], guard := none } := by kernel_rfl
theorem rr9_8 : rr9[8]? = some { dst := some 52, op := Op.load 24 (Operand.tmp 51), type := 24, pos := "parse.go:55", after := #[{ on := 7, ground := Ground.data }], guard := none } := by kernel_rfl
theorem rr9_9 : rr9[9]? = some { dst := some 53, op := Op.call { callee := Callee.builtin Builtin.len, args := #[Operand.tmp 52], argTypes := #[24] }, type := 3, pos := "parse.go:55", after := #[{ on := 8, ground := Ground.data }], guard := none } := by kernel_rfl
theorem rr9_10 : rr9[10]? = some { dst := some 54, op := Op.binOp BinOp.sub 3 (Operand.tmp 53) (Operand.const (Value.int IntKind.i64 1)) 3, type := 3, pos := "parse.go:55", after := #[{ on := 9, ground := Ground.data }], guard := none } := by kernel_rfl
theorem rr9_11 : rr9[11]? = some { dst := some 55, op := Op.slice 24 (Operand.tmp 48) none (some (Operand.tmp 54)) none, type := 24, pos := "parse.go:55", after := #[{ on := 4, ground := Ground.data }, { on := 10, ground := Ground.data }], guard := none } := by kernel_rfl
theorem rr9_12 : rr9[12]? = some { dst := some 56, op := Op.nilCheck (Operand.tmp 44), type := 0, pos := "parse.go:55", after := #[{ on := 0, ground := Ground.data }, { on := 0, ground := Ground.phase }, { on := 1, ground := Ground.phase }, { on := 2, ground := Ground.phase }, { on := 3, ground := Ground.phase }, { on := 4, ground := Ground.phase }, { on := 5, ground := Ground.phase }, { on := 6, ground := Ground.phase }, { on := 7, ground := Ground.phase }, { on := 8, ground := Ground.phase }, { on := 9, ground := Ground.phase }, { on := 10, ground := Ground.phase }, { on := 11, ground := Ground.phase }], guard := none } := by kernel_rfl
theorem rr9_13 : rr9[13]? = some { dst := some 57, op := Op.fieldAddr 57 (Operand.tmp 56) 2, type := 0, pos := "parse.go:55", after := #[{ on := 12, ground := Ground.data }, { on := 0, ground := Ground.phase }, { on := 1, ground := Ground.phase }, { on := 2, ground := Ground.phase }, { on := 3, ground := Ground.phase }, { on := 4, ground := Ground.phase }, { on := 5, ground := Ground.phase }, { on := 6, ground := Ground.phase }, { on := 7, ground := Ground.phase }, { on := 8, ground := Ground.phase }, { on := 9, ground := Ground.phase }, { on := 10, ground := Ground.phase }, { on := 11, ground := Ground.phase }], guard := none } := by kernel_rfl
theorem rr9_14 : rr9[14]? = some { dst := none, op := Op.store 24 (Operand.tmp 57) (Operand.tmp 55), type := 0, pos := "parse.go:55", after := #[{ on := 13, ground := Ground.data }, { on := 11, ground := Ground.data }, { on := 0, ground := Ground.phase }, { on := 1, ground := Ground.phase }, { on := 2, ground := Ground.phase }, { on := 3, ground := Ground.phase }, { on := 4, ground := Ground.phase }, { on := 5, ground := Ground.phase }, { on := 6, ground := Ground.phase }, { on := 7, ground := Ground.phase }, { on := 8, ground := Ground.phase }, { on := 9, ground := Ground.phase }, { on := 10, ground := Ground.phase }, { on := 11, ground := Ground.phase }], guard := none } := by kernel_rfl
set_option maxRecDepth 100000 in
set_option maxHeartbeats 2500000 in
theorem reg9 {x1 x2 x3 x4 x5 x6 x7 x8 x9 x10 x11 x12 x13 x14 x15 x16 x17 x18 x19 x20 x21 x22 x23 x24 x25 x26 x27 x28 x29 x30 x31 x32 x33 x34 x35 x36 x37 x38 x39 x40 x41 x42 x43 x44 x45 x46 x47 x48 x49 x50 x51 x52 x53 x54 x55 x56 x57 x58 x59 x60 x61 x62 x63 x64 x65 x66 x67 x68 x69 x70 x71 x72 x73 x74 x75 x76 : Value} {Q : Exit → Act → World → Prop} {V0 : World} {B og oc m : Nat} (hS0 : V0.drew.cell? ⟨B, 2, none⟩ = some (.slice (some ⟨og, 0, none⟩) (m + 1) oc)) (hfz : V0.drew.frozen? ⟨B, 2, none⟩ = false) (e4 : m ≤ oc) (e9 : m ≤ 12)
    (hpan : ∀ c (a : Act) w (dd : Tmp) vv, Q (.panic c) (a.put (some dd) vv) w → Q (.panic c) a w)
    (hQ : ∀ (t44 t45 t46 t47 t48 t49 t50 t51 t52 t53 t54 t55 t56 t57 : Value), Q .normal { tmps := #[.pointer (some ⟨B, 0, none⟩), x1, x2, x3, x4, x5, x6, x7, x8, x9, x10, x11, x12, x13, x14, x15, x16, x17, x18, x19, x20, x21, x22, x23, x24, x25, x26, x27, x28, x29, x30, x31, x32, x33, x34, x35, x36, x37, x38, x39, x40, x41, x42, x43, t44, t45, t46, t47, t48, t49, t50, t51, t52, t53, t54, t55, t56, t57, x58, x59, x60, x61, x62, x63, x64, x65, x66, x67, x68, x69, x70, x71, x72, x73, x74, x75, x76], defers := [] } (V0.drew.setCell ⟨B, 2, none⟩ (.slice (some ⟨og, 0, none⟩) m oc))) :
    (Code.region 9 rr9 true).wp Tryd.prog Q { tmps := #[.pointer (some ⟨B, 0, none⟩), x1, x2, x3, x4, x5, x6, x7, x8, x9, x10, x11, x12, x13, x14, x15, x16, x17, x18, x19, x20, x21, x22, x23, x24, x25, x26, x27, x28, x29, x30, x31, x32, x33, x34, x35, x36, x37, x38, x39, x40, x41, x42, x43, x44, x45, x46, x47, x48, x49, x50, x51, x52, x53, x54, x55, x56, x57, x58, x59, x60, x61, x62, x63, x64, x65, x66, x67, x68, x69, x70, x71, x72, x73, x74, x75, x76], defers := [] } V0 := by
  refine wp_region_Z (fun y => y.cell? ⟨B, 2, none⟩ = some (.slice (some ⟨og, 0, none⟩) (m + 1) oc)) 14 Tryd.mixed ?_
  obtain ⟨V, hV⟩ : ∃ V, V0.drew = V := ⟨_, rfl⟩
  rw [hV] at hS0 hfz hQ ⊢
  clear hV
  have HQ := hidI hQ
  have HPan := hidI hpan
  have e1 : IntKind.i64.wrap (((m + 1 : Nat) : Int) - 1) = (m : Int) := by rw [show (((m + 1 : Nat) : Int) - 1) = (m : Int) by omega, IntKind.wrap_i64]; omega
  have e3 : (0 : Int) ≤ (m : Int) := by omega
  have e5 : ((m : Int)).toNat = m := by omega
  have e6 : (m : Int) ≤ (oc : Int) := by omega
  have e8 : IntKind.i64.wrap (m : Int) = (m : Int) := by rw [IntKind.wrap_i64]; omega
  clear hQ hpan
  refine wpZ_take [14] (i := 0) (v := (.pointer (some ⟨B, 0, none⟩))) rr9_0 (by kernel_rfl) (by kernel_rfl) (by kernel_rfl) (by kernel_rfl) (fun c a w h => HPan.out c a w _ _ h) (.inl ⟨by rfl, fun y hy => ?_⟩) hS0 ?_
  · go_simp
  refine wpZ_take [14] (i := 1) (v := (.pointer (some ⟨B, 0, none⟩))) rr9_1 (by kernel_rfl) (by kernel_rfl) (by kernel_rfl) (by kernel_rfl) (fun c a w h => HPan.out c a w _ _ h) (.inl ⟨by rfl, fun y hy => ?_⟩) hS0 ?_
  · go_simp
  refine wpZ_take [14] (i := 2) (v := (.pointer (some ⟨B, 0, none⟩))) rr9_2 (by kernel_rfl) (by kernel_rfl) (by kernel_rfl) (by kernel_rfl) (fun c a w h => HPan.out c a w _ _ h) (.inl ⟨by rfl, fun y hy => ?_⟩) hS0 ?_
  · go_simp
  refine wpZ_take [14] (i := 3) (v := (.pointer (some ⟨B, 2, none⟩))) rr9_3 (by kernel_rfl) (by kernel_rfl) (by kernel_rfl) (by kernel_rfl) (fun c a w h => HPan.out c a w _ _ h) (.inl ⟨by rfl, fun y hy => ?_⟩) hS0 ?_
  · go_simp
  refine wpZ_take [14] (i := 4) (v := (.slice (some ⟨og, 0, none⟩) (m + 1) oc)) rr9_4 (by kernel_rfl) (by kernel_rfl) (by kernel_rfl) (by kernel_rfl) (fun c a w h => HPan.out c a w _ _ h) (.inl ⟨by rfl, fun y hy => ?_⟩) hS0 ?_
  · go_simp
  refine wpZ_take [14] (i := 5) (v := (.pointer (some ⟨B, 0, none⟩))) rr9_5 (by kernel_rfl) (by kernel_rfl) (by kernel_rfl) (by kernel_rfl) (fun c a w h => HPan.out c a w _ _ h) (.inl ⟨by rfl, fun y hy => ?_⟩) hS0 ?_
  · go_simp
  refine wpZ_take [14] (i := 6) (v := (.pointer (some ⟨B, 0, none⟩))) rr9_6 (by kernel_rfl) (by kernel_rfl) (by kernel_rfl) (by kernel_rfl) (fun c a w h => HPan.out c a w _ _ h) (.inl ⟨by rfl, fun y hy => ?_⟩) hS0 ?_
  · go_simp
  refine wpZ_take [14] (i := 7) (v := (.pointer (some ⟨B, 2, none⟩))) rr9_7 (by kernel_rfl) (by kernel_rfl) (by kernel_rfl) (by kernel_rfl) (fun c a w h => HPan.out c a w _ _ h) (.inl ⟨by rfl, fun y hy => ?_⟩) hS0 ?_
  · go_simp
  refine wpZ_take [14] (i := 8) (v := (.slice (some ⟨og, 0, none⟩) (m + 1) oc)) rr9_8 (by kernel_rfl) (by kernel_rfl) (by kernel_rfl) (by kernel_rfl) (fun c a w h => HPan.out c a w _ _ h) (.inl ⟨by rfl, fun y hy => ?_⟩) hS0 ?_
  · go_simp
  refine wpZ_take [14] (i := 9) (v := (.int .i64 ((m + 1 : Nat) : Int))) rr9_9 (by kernel_rfl) (by kernel_rfl) (by kernel_rfl) (by kernel_rfl) (fun c a w h => HPan.out c a w _ _ h) (.inl ⟨by rfl, fun y hy => ?_⟩) hS0 ?_
  · go_simp
  refine wpZ_take [14] (i := 10) (v := (.int .i64 (m : Int))) rr9_10 (by kernel_rfl) (by kernel_rfl) (by kernel_rfl) (by kernel_rfl) (fun c a w h => HPan.out c a w _ _ h) (.inl ⟨by rfl, fun y hy => ?_⟩) hS0 ?_
  · go_simp
  refine wpZ_take [14] (i := 11) (v := (.slice (some ⟨og, 0, none⟩) m oc)) rr9_11 (by kernel_rfl) (by kernel_rfl) (by kernel_rfl) (by kernel_rfl) (fun c a w h => HPan.out c a w _ _ h) (.inl ⟨by rfl, fun y hy => ?_⟩) hS0 ?_
  · go_simp
  refine wpZ_all (rs := [12]) (by kernel_rfl) (by simp) fun j12 hj12 => ?_
  obtain rfl : j12 = 12 := by simpa using hj12
  refine wpOp_go rr9_12 rfl fun K1 hK1 => ?_
  unfold Oper.wp
  go_simp
  refine hK1 _ _ ⟨fun _ => hS0, ?_⟩
  clear hK1 K1
  refine wpZ_all (rs := [13]) (by kernel_rfl) (by simp) fun j13 hj13 => ?_
  obtain rfl : j13 = 13 := by simpa using hj13
  refine wpOp_go rr9_13 rfl fun K1 hK1 => ?_
  unfold Oper.wp
  go_simp
  refine hK1 _ _ ⟨fun _ => hS0, ?_⟩
  clear hK1 K1
  refine wpZ_last (by kernel_rfl) (by kernel_rfl) ?_ _
  refine wpOp_go rr9_14 rfl fun K1 hK1 => ?_
  unfold Oper.wp
  go_simp
  refine hK1 _ _ ?_
  exact HQ.out _ _ _ _ _ _ _ _ _ _ _ _ _ _
end Go.Proofs.YtnlplkchkhibaaaDoor
