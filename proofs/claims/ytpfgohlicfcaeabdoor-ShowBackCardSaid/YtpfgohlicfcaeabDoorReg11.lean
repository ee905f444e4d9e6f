/-
  A name, in whatever order.
-/
import Derived.Test.YtpfgohlicfcaeabDoorReg5
import Derived.Test.YtpfgohlicfcaeabDoorPFun
namespace Go.Proofs.YtpfgohlicfcaeabDoor
open Go.RowKit Go.Deep Go.MapKept
theorem RD.down {w w' : World} {base B : Nat} {fs : List FV} {top opn : List Nat} {fv tv ov : Value} (h : RD w base B fs top opn fv tv ov) (hb : Below w.heap.size w w') : RD w' base B fs top opn fv tv ov :=
  RowsOk.far (row := none) h ⟨hb.os, hb.tape, hb.output, hb.size, fun k hk _ => hb.block k hk⟩ (fun r _ => by cases r.v.ownBlock <;> simp)
def rr11 : Array Oper := #[{ dst := some 60, op := Op.move (Operand.tmp 0), type := 113, pos := "parse.go:57", after := #[], guard := none }, { dst := some 61, op := Op.fieldAddr 60 (Operand.tmp 3) 1, type := 0, pos := "parse.go:57", after := #[], guard := none }, { dst := some 62, op := Op.load 9 (Operand.tmp 61), type := 9, pos := "parse.go:57", after := #[{ on := 1, ground := Ground.data }], guard := none }, { dst := some 63, op := Op.call { callee := Callee.value (Operand.func 53), args := #[Operand.tmp 62], argTypes := #[9] }, type := 9, pos := "parse.go:57", after := #[{ on := 2, ground := Ground.data }], guard := none }, { dst := some 64, op := Op.fieldAddr 60 (Operand.tmp 3) 3, type := 0, pos := "parse.go:57", after := #[], guard := none }, { dst := some 65, op := Op.load 3 (Operand.tmp 64), type := 3, pos := "parse.go:57", after := #[{ on := 4, ground := Ground.data }], guard := none }, { dst := some 66, op := Op.build 35 #[(0, Operand.const (Value.int IntKind.u8 3)), (1, Operand.tmp 63), (4, Operand.tmp 65)], type := 35, pos := "parse.go:57", after := #[{ on := 3, ground := Ground.data }, { on := 5, ground := Ground.data }], guard := none }, { dst := some 67, op := Op.call { callee := Callee.value (Operand.func 77), args := #[Operand.tmp 60, Operand.tmp 66], argTypes := #[113, 35] }, type := 3, pos := "parse.go:57", after := #[{ on := 0, ground := Ground.data }, { on := 6, ground := Ground.data }, { on := 3, ground := Ground.chain }], guard := none }]
theorem rr11_0 : rr11[0]? = some { dst := some 60, op := Op.move (Operand.tmp 0), type := 113, pos := "parse.go:57", after := #[], guard := none } := by kernel_rfl
theorem rr11_1 : rr11[1]? = some { dst := some 61, op := Op.fieldAddr 60 (Operand.tmp 3) 1, type := 0, pos := "parse.go:57", after := #[], guard := none } := by kernel_rfl
theorem rr11_2 : rr11[2]? = some { dst := some 62, op := Op.load 9 (Operand.tmp 61), type := 9, pos := "parse.go:57", after := #[{ on := 1, ground := Ground.data }], guard := none } := by kernel_rfl
theorem rr11_3 : rr11[3]? = some { dst := some 63, op := Op.call { callee := Callee.value (Operand.func 53), args := #[Operand.tmp 62], argTypes := #[9] }, type := 9, pos := "parse.go:57", after := #[{ on := 2, ground := Ground.data }], guard := none } := by kernel_rfl
theorem rr11_4 : rr11[4]? = some { dst := some 64, op := Op.fieldAddr 60 (Operand.tmp 3) 3, type := 0, pos := "parse.go:57", after := #[], guard := none } := by kernel_rfl
theorem rr11_5 : rr11[5]? = some { dst := some 65, op := Op.load 3 (Operand.tmp 64), type := 3, pos := "parse.go:57", after := #[{ on := 4, ground := Ground.data }], guard := none } := by kernel_rfl
theorem rr11_6 : rr11[6]? = some { dst := some 66, op := Op.build 35 #[(0, Operand.const (Value.int IntKind.u8 3)), (1, Operand.tmp 63), (4, Operand.tmp 65)], type := 35, pos := "parse.go:57", after := #[{ on := 3, ground := Ground.data }, { on := 5, ground := Ground.data }], guard := none } := by kernel_rfl
theorem rr11_7 : rr11[7]? = some { dst := some 67, op := Op.call { callee := Callee.value (Operand.func 77), args := #[Operand.tmp 60, Operand.tmp 66], argTypes := #[113, 35] }, type := 3, pos := "parse.go:57", after := #[{ on := 0, ground := Ground.data }, { on := 6, ground := Ground.data }, { on := 3, ground := Ground.chain }], guard := none } := by kernel_rfl
set_option maxRecDepth 100000 in
set_option maxHeartbeats 2500000 in
theorem reg11 {x1 x2 x4 x5 x6 x7 x8 x9 x10 x11 x12 x13 x14 x15 x16 x17 x18 x19 x20 x21 x22 x23 x24 x25 x26 x27 x28 x29 x30 x31 x32 x33 x34 x35 x36 x37 x38 x39 x40 x41 x42 x43 x44 x45 x46 x47 x48 x49 x50 x51 x52 x53 x54 x55 x56 x57 x58 x59 x60 x61 x62 x63 x64 x65 x66 x67 x68 x69 x70 x71 x72 x73 x74 x75 x76 : Value} {Q : Exit → Act → World → Prop} {V0 : World} {B TB base : Nat} {fs : List FV} {top opn : List Nat} {fv tv ov : Value} {p : Int} {s : ByteArray} (hs : s.size ≤ 140737488355328)
    (hRD : RD V0.drew base B fs top opn fv tv ov) (hG : Good ⟨fs.map Prod.fst, top, opn⟩) (hS0 : V0.drew.cell? ⟨TB, 1, none⟩ = some (.string s) ∧ V0.drew.cell? ⟨TB, 3, none⟩ = some (.int .i64 p))
    (hpan : ∀ c (a : Act) w (dd : Tmp) vv, Q (.panic c) (a.put (some dd) vv) w → Q (.panic c) a w)
    (hQp : ∀ (a : Act) (W : World), fs.length = 400 → Below V0.drew.heap.size V0.drew W → a.defers = [] → Q (.panic (flt p 4)) a W)
    (hQ : ∀ (W5 : World) (fs' : List FV) (top' : List Nat) (fv' tv' : Value) (t60 t61 t62 t63 t64 t65 t66 t67 : Value), ¬ fs.length = 400 → Below base V0.drew W5 → RD W5 base B fs' top' opn fv' tv' ov → addF ⟨3, s, 0, [], p⟩ ⟨fs.map Prod.fst, top, opn⟩ = ⟨fs'.map Prod.fst, top', opn⟩ → Q .normal { tmps := #[.pointer (some ⟨B, 0, none⟩), x1, x2, .pointer (some ⟨TB, 0, none⟩), x4, x5, x6, x7, x8, x9, x10, x11, x12, x13, x14, x15, x16, x17, x18, x19, x20, x21, x22, x23, x24, x25, x26, x27, x28, x29, x30, x31, x32, x33, x34, x35, x36, x37, x38, x39, x40, x41, x42, x43, x44, x45, x46, x47, x48, x49, x50, x51, x52, x53, x54, x55, x56, x57, x58, x59, t60, t61, t62, t63, t64, t65, t66, t67, x68, x69, x70, x71, x72, x73, x74, x75, x76], defers := [] } W5) :
    (Code.region 11 rr11 true).wp Tryd.prog Q { tmps := #[.pointer (some ⟨B, 0, none⟩), x1, x2, .pointer (some ⟨TB, 0, none⟩), x4, x5, x6, x7, x8, x9, x10, x11, x12, x13, x14, x15, x16, x17, x18, x19, x20, x21, x22, x23, x24, x25, x26, x27, x28, x29, x30, x31, x32, x33, x34, x35, x36, x37, x38, x39, x40, x41, x42, x43, x44, x45, x46, x47, x48, x49, x50, x51, x52, x53, x54, x55, x56, x57, x58, x59, x60, x61, x62, x63, x64, x65, x66, x67, x68, x69, x70, x71, x72, x73, x74, x75, x76], defers := [] } V0 := by
  refine wp_region_Z (fun y => y.cell? ⟨TB, 1, none⟩ = some (.string s) ∧ y.cell? ⟨TB, 3, none⟩ = some (.int .i64 p)) 7 Tryd.mixed ?_
  obtain ⟨V, hV⟩ : ∃ V, V0.drew = V := ⟨_, rfl⟩
  rw [hV] at hRD hS0 hQp hQ ⊢
  clear hV
  have HQ := hidI hQ
  have HQp := hidI hQp
  have HPan := hidI hpan
  have HR := hidI hRD
  have HG := hidI hG
  have hlt := hRD.lt
  have hTl : TB < V.heap.size := World.block_lt_of_cell? V _ hS0.1
  clear hQ hpan hQp hRD hG
  refine wpZ_take [7] (i := 0) (v := (.pointer (some ⟨B, 0, none⟩))) rr11_0 (by kernel_rfl) (by kernel_rfl) (by kernel_rfl) (by kernel_rfl) (fun c a w h => HPan.out c a w _ _ h) (.inl ⟨by rfl, fun y hy => ?_⟩) hS0 ?_
  · obtain ⟨hy0, hy1⟩ := hy
    go_simp
  refine wpZ_take [2, 3, 6, 7] (i := 1) (v := (.pointer (some ⟨TB, 1, none⟩))) rr11_1 (by kernel_rfl) (by kernel_rfl) (by kernel_rfl) (by kernel_rfl) (fun c a w h => HPan.out c a w _ _ h) (.inl ⟨by rfl, fun y hy => ?_⟩) hS0 ?_
  · obtain ⟨hy0, hy1⟩ := hy
    go_simp
  refine wpZ_take [3, 6, 7] (i := 2) (v := (.string s)) rr11_2 (by kernel_rfl) (by kernel_rfl) (by kernel_rfl) (by kernel_rfl) (fun c a w h => HPan.out c a w _ _ h) (.inl ⟨by rfl, fun y hy => ?_⟩) hS0 ?_
  · obtain ⟨hy0, hy1⟩ := hy
    go_simp
  refine wpZ_take [5, 6, 7] (i := 4) (v := (.pointer (some ⟨TB, 3, none⟩))) rr11_4 (by kernel_rfl) (by kernel_rfl) (by kernel_rfl) (by kernel_rfl) (fun c a w h => HPan.out c a w _ _ h) (.inl ⟨by rfl, fun y hy => ?_⟩) hS0 ?_
  · obtain ⟨hy0, hy1⟩ := hy
    go_simp
  refine wpZ_take [6, 7] (i := 5) (v := (.int .i64 p)) rr11_5 (by kernel_rfl) (by kernel_rfl) (by kernel_rfl) (by kernel_rfl) (fun c a w h => HPan.out c a w _ _ h) (.inl ⟨by rfl, fun y hy => ?_⟩) hS0 ?_
  · obtain ⟨hy0, hy1⟩ := hy
    go_simp
  refine wpZ_all (rs := [3]) (by kernel_rfl) (by simp) fun j3 hj3 => ?_
  obtain rfl : j3 = 3 := by simpa using hj3
  refine wpOp_go rr11_3 rfl fun K1 hK1 => ?_
  unfold Oper.wp
  go_simp
  refine Calls.mono (clone_any s hs _) ?_
  rintro e W1 ⟨rfl, hb1⟩
  go_simp
  have H1 := hidI hb1
  have HR1 := hidI (HR.out.down hb1)
  have hS1 : W1.cell? ⟨TB, 1, none⟩ = some (.string s) ∧ W1.cell? ⟨TB, 3, none⟩ = some (.int .i64 p) := ⟨(hb1.cell hTl).trans hS0.1, (hb1.cell hTl).trans hS0.2⟩
  clear hb1
  refine hK1 _ _ ⟨fun _ => hS1, ?_⟩
  clear hK1 K1
  refine wpZ_all (rs := [6]) (by kernel_rfl) (by simp) fun j6 hj6 => ?_
  obtain rfl : j6 = 6 := by simpa using hj6
  refine wpOp_go rr11_6 rfl fun K1 hK1 => ?_
  unfold Oper.wp
  go_simp
  refine hK1 _ _ ⟨fun _ => hS1, ?_⟩
  clear hK1 K1
  refine wpZ_last (by kernel_rfl) (by kernel_rfl) ?_ _
  refine wpOp_go rr11_7 rfl fun K1 hK1 => ?_
  unfold Oper.wp
  go_simp
  refine Calls.mono (add_any HR1.out HG.out ⟨3, s, 0, [], p⟩ rfl) ?_
  intro e W2 hres
  unfold AddRes at hres
  have hB1 : Below base V W1 := H1.out.mono (by omega)
  by_cases hfull : fs.length = 400
  · rw [if_pos hfull] at hres
    obtain ⟨rfl, hbp⟩ := hres
    go_simp
    exact HQp.out _ _ hfull (H1.out.trans (hbp.mono H1.out.size)) rfl
  rw [if_neg hfull] at hres
  obtain ⟨rfl, hchg, fs', top', fv', tv', hRD1, hadd⟩ := hres
  go_simp
  refine hK1 _ _ ?_
  have hz := H1.out.size
  have q := hchg.below (n := base) (by omega) (fun k hk hr => by have := HR1.out.block hr; omega)
  exact HQ.out _ _ _ _ _ _ _ _ _ _ _ _ _ hfull (hB1.trans q) hRD1 hadd
end Go.Proofs.YtpfgohlicfcaeabDoor
