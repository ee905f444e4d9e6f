/-
  The walk goes below a form: its region, in whatever order.
-/
import Derived.Test.YtmihhebcchpmcaaGreatDoorWide
import Derived.Test.YtmihhebcchpmcaaGreatDoorForms
namespace Go.Proofs.YtmihhebcchpmcaaGreatDoor
open Go.RowKit Go.Deep Go.MapKept
def rw8 : Array Oper := #[{ dst := some 36, op := Op.load 79 (Operand.tmp 6), type := 79, pos := "tree.go:109", after := #[], guard := none }, { dst := some 37, op := Op.load 3 (Operand.tmp 4), type := 3, pos := "tree.go:109", after := #[], guard := none }, { dst := some 38, op := Op.binOp BinOp.sub 3 (Operand.tmp 37) (Operand.const (Value.int IntKind.i64 1)) 3, type := 3, pos := "tree.go:109", after := #[{ on := 1, ground := Ground.data }], guard := none }, { dst := some 39, op := Op.move (Operand.tmp 12), type := 3, pos := "tree.go:109", after := #[], guard := none }, { dst := some 40, op := Op.load 22 (Operand.tmp 3), type := 22, pos := "tree.go:109", after := #[], guard := none }, { dst := some 41, op := Op.move (Operand.tmp 12), type := 3, pos := "tree.go:109", after := #[], guard := none }, { dst := some 42, op := Op.indexAddr 22 (Operand.tmp 40) (Operand.tmp 41), type := 0, pos := "tree.go:109", after := #[{ on := 4, ground := Ground.data }, { on := 5, ground := Ground.data }], guard := none }, { dst := some 43, op := Op.fieldAddr 56 (Operand.tmp 42) 3, type := 0, pos := "tree.go:109", after := #[{ on := 6, ground := Ground.data }], guard := none }, { dst := some 44, op := Op.load 23 (Operand.tmp 43), type := 23, pos := "tree.go:109", after := #[{ on := 7, ground := Ground.data }], guard := none }, { dst := some 45, op := Op.call { callee := Callee.value (Operand.tmp 36), args := #[Operand.tmp 38, Operand.tmp 39, Operand.tmp 44], argTypes := #[3, 3, 23] }, type := 4, pos := "tree.go:109", after := #[{ on := 0, ground := Ground.data }, { on := 2, ground := Ground.data }, { on := 3, ground := Ground.data }, { on := 8, ground := Ground.data }], guard := none }, { dst := some 46, op := Op.unOp UnOp.not 4 (Operand.tmp 45), type := 4, pos := "tree.go:109", after := #[{ on := 9, ground := Ground.data }], guard := none }]
theorem rw8_0 : rw8[0]? = some { dst := some 36, op := Op.load 79 (Operand.tmp 6), type := 79, pos := "tree.go:109", after := #[], guard := none } := by kernel_rfl
theorem rw8_1 : rw8[1]? = some { dst := some 37, op := Op.load 3 (Operand.tmp 4), type := 3, pos := "tree.go:109", after := #[], guard := none } := by kernel_rfl
theorem rw8_2 : rw8[2]? = some { dst := some 38, op := Op.binOp BinOp.sub 3 (Operand.tmp 37) (Operand.const (Value.int IntKind.i64 1)) 3, type := 3, pos := "tree.go:109", after := #[{ on := 1, ground := Ground.data }], guard := none } := by kernel_rfl
theorem rw8_3 : rw8[3]? = some { dst := some 39, op := Op.move (Operand.tmp 12), type := 3, pos := "tree.go:109", after := #[], guard := none } := by kernel_rfl
theorem rw8_4 : rw8[4]? = some { dst := some 40, op := Op.load 22 (Operand.tmp 3), type := 22, pos := "tree.go:109", after := #[], guard := none } := by kernel_rfl
theorem rw8_5 : rw8[5]? = some { dst := some 41, op := Op.move (Operand.tmp 12), type := 3, pos := "tree.go:109", after := #[], guard := none } := by kernel_rfl
theorem rw8_6 : rw8[6]? = some { dst := some 42, op := Op.indexAddr 22 (Operand.tmp 40) (Operand.tmp 41), type := 0, pos := "tree.go:109", after := #[{ on := 4, ground := Ground.data }, { on := 5, ground := Ground.data }], guard := none } := by kernel_rfl
theorem rw8_7 : rw8[7]? = some { dst := some 43, op := Op.fieldAddr 56 (Operand.tmp 42) 3, type := 0, pos := "tree.go:109", after := #[{ on := 6, ground := Ground.data }], guard := none } := by kernel_rfl
theorem rw8_8 : rw8[8]? = some { dst := some 44, op := Op.load 23 (Operand.tmp 43), type := 23, pos := "tree.go:109", after := #[{ on := 7, ground := Ground.data }], guard := none } := by kernel_rfl
theorem rw8_9 : rw8[9]? = some { dst := some 45, op := Op.call { callee := Callee.value (Operand.tmp 36), args := #[Operand.tmp 38, Operand.tmp 39, Operand.tmp 44], argTypes := #[3, 3, 23] }, type := 4, pos := "tree.go:109", after := #[{ on := 0, ground := Ground.data }, { on := 2, ground := Ground.data }, { on := 3, ground := Ground.data }, { on := 8, ground := Ground.data }], guard := none } := by kernel_rfl
theorem rw8_10 : rw8[10]? = some { dst := some 46, op := Op.unOp UnOp.not 4 (Operand.tmp 45), type := 4, pos := "tree.go:109", after := #[{ on := 9, ground := Ground.data }], guard := none } := by kernel_rfl
set_option maxRecDepth 100000 in
set_option maxHeartbeats 2500000 in
theorem regW {x0 x1 x2 x5 x7 x8 x9 x10 x11 x13 x14 x15 x16 x17 x18 x19 x20 x21 x22 x23 x24 x25 x26 x27 x28 x29 x30 x31 x32 x33 x34 x35 x36 x37 x38 x39 x40 x41 x42 x43 x44 x45 x46 x47 : Value} {m : Nat} {Q : Exit → Act → World → Prop} {V0 : World} {Bl Bo By Bi fb fo nf fc kn kc pn : Nat} {ka : Option Addr} {td : Int} (hp : pn < nf) (ht0 : 0 ≤ td) (ht1 : td ≤ 1000) {PW : Bool → World → Prop}
    (hS0 : V0.drew.cell? ⟨Bi, 0, none⟩ = some (.func (.func 55) #[] #[.pointer (some ⟨Bl, 0, none⟩), .pointer (some ⟨Bo, 0, none⟩), .pointer (some ⟨By, 0, none⟩), .pointer (some ⟨Bi, 0, none⟩)]) ∧ V0.drew.cell? ⟨Bo, 0, none⟩ = some (.int .i64 (td + 1)) ∧ V0.drew.cell? ⟨Bl, 0, none⟩ = some (.slice (some ⟨fb, fo, none⟩) nf fc) ∧ V0.drew.cell? ⟨fb, fo + pn * 5 + 3, none⟩ = some (.slice ka kn kc))
    (hC : Calls Tryz.prog 55 #[.int .i64 td, .int .i64 (pn : Int), .slice ka kn kc, .pointer (some ⟨Bl, 0, none⟩), .pointer (some ⟨Bo, 0, none⟩), .pointer (some ⟨By, 0, none⟩), .pointer (some ⟨Bi, 0, none⟩)] V0.drew fun e w' => ∃ bb, e = .returned (.bool bb) ∧ PW bb w')
    (hQ : ∀ (W : World) (bb : Bool) (t36 t37 t38 t39 t40 t41 t42 t43 t44 t45 : Value), PW bb W → Q .normal { tmps := #[x0, x1, x2, .pointer (some ⟨Bl, 0, none⟩), .pointer (some ⟨Bo, 0, none⟩), x5, .pointer (some ⟨Bi, 0, none⟩), x7, x8, x9, x10, x11, .int .i64 (pn : Int), x13, x14, x15, x16, x17, x18, x19, x20, x21, x22, x23, x24, x25, x26, x27, x28, x29, x30, x31, x32, x33, x34, x35, t36, t37, t38, t39, t40, t41, t42, t43, t44, t45, .bool (!bb), x47], defers := [] } W) :
    (Code.region 8 rw8 true).wpIn Fence.wide m Tryz.prog Q { tmps := #[x0, x1, x2, .pointer (some ⟨Bl, 0, none⟩), .pointer (some ⟨Bo, 0, none⟩), x5, .pointer (some ⟨Bi, 0, none⟩), x7, x8, x9, x10, x11, .int .i64 (pn : Int), x13, x14, x15, x16, x17, x18, x19, x20, x21, x22, x23, x24, x25, x26, x27, x28, x29, x30, x31, x32, x33, x34, x35, x36, x37, x38, x39, x40, x41, x42, x43, x44, x45, x46, x47], defers := [] } V0 := by
  refine wide_Z (fun y => y.cell? ⟨Bi, 0, none⟩ = some (.func (.func 55) #[] #[.pointer (some ⟨Bl, 0, none⟩), .pointer (some ⟨Bo, 0, none⟩), .pointer (some ⟨By, 0, none⟩), .pointer (some ⟨Bi, 0, none⟩)]) ∧ y.cell? ⟨Bo, 0, none⟩ = some (.int .i64 (td + 1)) ∧ y.cell? ⟨Bl, 0, none⟩ = some (.slice (some ⟨fb, fo, none⟩) nf fc) ∧ y.cell? ⟨fb, fo + pn * 5 + 3, none⟩ = some (.slice ka kn kc)) [9, 10] ?_
  obtain ⟨V, hV⟩ : ∃ V, V0.drew = V := ⟨_, rfl⟩
  rw [hV] at hS0 hC ⊢
  clear hV
  have HQ := hidI hQ
  have HC := hidI hC
  have HPan : Hid (∀ c (a : Act) w (dd : Tmp) vv, Goes (Q .normal) (.panic c) (a.put (some dd) vv) w → Goes (Q .normal) (.panic c) a w) := hidI fun _ _ _ _ _ h => h
  have e1 : IntKind.i64.wrap (td + 1 - 1) = td := by rw [show td + 1 - 1 = td by omega, IntKind.wrap_i64]; omega
  have e8 : IntKind.i64.wrap td = td := by rw [IntKind.wrap_i64]; omega
  have e2 : (pn : Int) < (nf : Int) := by omega
  have e3 : (0 : Int) ≤ (pn : Int) := by omega
  have e5 : ((pn : Int)).toNat = pn := by omega
  clear hQ hC
  refine wpY_take [9, 10] (i := 0) (v := (.func (.func 55) #[] #[.pointer (some ⟨Bl, 0, none⟩), .pointer (some ⟨Bo, 0, none⟩), .pointer (some ⟨By, 0, none⟩), .pointer (some ⟨Bi, 0, none⟩)])) rw8_0 (by kernel_rfl) (by kernel_rfl) (by kernel_rfl) (by kernel_rfl) (fun c a w h => HPan.out c a w _ _ h) (.inl ⟨by rfl, fun y hy => ?_⟩) hS0 ?_
  · obtain ⟨hy0, hy1, hy2, hy3⟩ := hy
    go_simp
  refine wpY_take [2, 9, 10] (i := 1) (v := (.int .i64 (td + 1))) rw8_1 (by kernel_rfl) (by kernel_rfl) (by kernel_rfl) (by kernel_rfl) (fun c a w h => HPan.out c a w _ _ h) (.inl ⟨by rfl, fun y hy => ?_⟩) hS0 ?_
  · obtain ⟨hy0, hy1, hy2, hy3⟩ := hy
    go_simp
  refine wpY_take [9, 10] (i := 2) (v := (.int .i64 td)) rw8_2 (by kernel_rfl) (by kernel_rfl) (by kernel_rfl) (by kernel_rfl) (fun c a w h => HPan.out c a w _ _ h) (.inl ⟨by rfl, fun y hy => ?_⟩) hS0 ?_
  · obtain ⟨hy0, hy1, hy2, hy3⟩ := hy
    go_simp
  refine wpY_take [9, 10] (i := 3) (v := (.int .i64 (pn : Int))) rw8_3 (by kernel_rfl) (by kernel_rfl) (by kernel_rfl) (by kernel_rfl) (fun c a w h => HPan.out c a w _ _ h) (.inl ⟨by rfl, fun y hy => ?_⟩) hS0 ?_
  · obtain ⟨hy0, hy1, hy2, hy3⟩ := hy
    go_simp
  refine wpY_take [6, 7, 8, 9, 10] (i := 4) (v := (.slice (some ⟨fb, fo, none⟩) nf fc)) rw8_4 (by kernel_rfl) (by kernel_rfl) (by kernel_rfl) (by kernel_rfl) (fun c a w h => HPan.out c a w _ _ h) (.inl ⟨by rfl, fun y hy => ?_⟩) hS0 ?_
  · obtain ⟨hy0, hy1, hy2, hy3⟩ := hy
    go_simp
  refine wpY_take [6, 7, 8, 9, 10] (i := 5) (v := (.int .i64 (pn : Int))) rw8_5 (by kernel_rfl) (by kernel_rfl) (by kernel_rfl) (by kernel_rfl) (fun c a w h => HPan.out c a w _ _ h) (.inl ⟨by rfl, fun y hy => ?_⟩) hS0 ?_
  · obtain ⟨hy0, hy1, hy2, hy3⟩ := hy
    go_simp
  refine wpY_take [7, 8, 9, 10] (i := 6) (v := (.pointer (some ⟨fb, fo + pn * 5, none⟩))) rw8_6 (by kernel_rfl) (by kernel_rfl) (by kernel_rfl) (by kernel_rfl) (fun c a w h => HPan.out c a w _ _ h) (.inl ⟨by rfl, fun y hy => ?_⟩) hS0 ?_
  · obtain ⟨hy0, hy1, hy2, hy3⟩ := hy
    go_simp
  refine wpY_take [8, 9, 10] (i := 7) (v := (.pointer (some ⟨fb, fo + pn * 5 + 3, none⟩))) rw8_7 (by kernel_rfl) (by kernel_rfl) (by kernel_rfl) (by kernel_rfl) (fun c a w h => HPan.out c a w _ _ h) (.inl ⟨by rfl, fun y hy => ?_⟩) hS0 ?_
  · obtain ⟨hy0, hy1, hy2, hy3⟩ := hy
    go_simp
  refine wpY_take [9, 10] (i := 8) (v := (.slice ka kn kc)) rw8_8 (by kernel_rfl) (by kernel_rfl) (by kernel_rfl) (by kernel_rfl) (fun c a w h => HPan.out c a w _ _ h) (.inl ⟨by rfl, fun y hy => ?_⟩) hS0 ?_
  · obtain ⟨hy0, hy1, hy2, hy3⟩ := hy
    go_simp
  refine wpY_all (rs := [9]) (by kernel_rfl) (by simp) fun j9 hj9 => ?_
  obtain rfl : j9 = 9 := by simpa using hj9
  refine wpOp_goY rw8_9 rfl fun K1 hK1 => ?_
  unfold Oper.wp
  go_simp
  refine Calls.mono HC.out ?_
  rintro e W1 ⟨bb, rfl, hPW⟩
  go_simp
  refine hK1 _ _ ⟨fun h => absurd (by simp) h, ?_⟩
  clear hK1 K1
  refine wpY_all (rs := [10]) (by kernel_rfl) (by simp) fun j10 hj10 => ?_
  obtain rfl : j10 = 10 := by simpa using hj10
  refine wpOp_goY rw8_10 rfl fun K1 hK1 => ?_
  unfold Oper.wp
  go_simp
  refine hK1 _ _ ⟨fun h => absurd (by simp) h, ?_⟩
  clear hK1 K1
  refine wpY_done (by kernel_rfl) ?_ _
  exact HQ.out W1 bb _ _ _ _ _ _ _ _ _ _ hPW
end Go.Proofs.YtmihhebcchpmcaaGreatDoor
