/-
  A form put behind the others, in whatever order.
-/
import Derived.Test.YtpfgohlicfcaeabDoorRows2
import Derived.Test.YtpfgohlicfcaeabDoorZed
import Derived.Test.YtpfgohlicfcaeabDoorSeqs
namespace Go.Proofs.YtpfgohlicfcaeabDoor
open Go.RowKit Go.Deep Go.MapKept
theorem Tryd.info35x : (Tryd.prog.info? 35).map (fun i => (i.zero, i.size, i.bytes)) = some (some (.agg #[.int .u8 0, .string ⟨#[]⟩, .int .i64 0, .slice none 0 0, .int .i64 0]), 5, 64) := by kernel_rfl
theorem form_seen {W : World} (f : Frm) : SeesC (W.alloc (.cells #[.int .u8 f.k, .string f.s, .int .i64 f.n, .slice none 0 0, .int .i64 f.p] 35)) (.slice (some ⟨W.heap.size, 0, none⟩) 1 1) 1 5 (fcells (f, .slice none 0 0)) := by
  refine ⟨rfl, _, 1, rfl, .inr ⟨W.heap.size, 0, rfl, fun j c hc => ?_⟩⟩
  have hj : j < 5 := by have := (List.getElem?_eq_some_iff.1 hc).1; simpa [fcells] using this
  have hm : j = 0 ∨ j = 1 ∨ j = 2 ∨ j = 3 ∨ j = 4 := by omega
  rcases hm with rfl | rfl | rfl | rfl | rfl <;> simp only [fcells, List.getElem?_cons_zero, List.getElem?_cons_succ, Option.some.injEq] at hc <;> subst hc <;> go_simp
theorem fcells_one (f : Frm) : ∀ c ∈ fcells (f, .slice none 0 0), c.oneCell' = true := by
  intro c hc
  simp only [fcells, List.mem_cons, List.mem_nil_iff, or_false] at hc
  rcases hc with rfl | rfl | rfl | rfl | rfl <;> rfl
def rr8 : Array Oper := #[{ dst := some 51, op := Op.move (Operand.tmp 0), type := 113, pos := "parse.go:75", after := #[], guard := none }, { dst := some 52, op := Op.move (Operand.tmp 0), type := 113, pos := "parse.go:75", after := #[], guard := none }, { dst := some 53, op := Op.nilCheck (Operand.tmp 52), type := 0, pos := "parse.go:75", after := #[{ on := 1, ground := Ground.data }], guard := none }, { dst := some 54, op := Op.fieldAddr 63 (Operand.tmp 53) 0, type := 0, pos := "parse.go:75", after := #[{ on := 2, ground := Ground.data }], guard := none }, { dst := some 55, op := Op.load 22 (Operand.tmp 54), type := 22, pos := "parse.go:75", after := #[{ on := 3, ground := Ground.data }], guard := none }, { dst := some 56, op := Op.load 35 (Operand.tmp 3), type := 35, pos := "parse.go:75", after := #[], guard := none }, { dst := some 57, op := Op.buildSlice 22 1 #[(0, Operand.tmp 56)], type := 22, pos := "parse.go:75", after := #[{ on := 5, ground := Ground.data }], guard := none }, { dst := some 58, op := Op.call { callee := Callee.builtin Builtin.append, args := #[Operand.tmp 55, Operand.tmp 57], argTypes := #[22, 22] }, type := 22, pos := "parse.go:75", after := #[{ on := 4, ground := Ground.data }, { on := 6, ground := Ground.data }], guard := none }, { dst := some 59, op := Op.nilCheck (Operand.tmp 51), type := 0, pos := "parse.go:75", after := #[{ on := 0, ground := Ground.data }, { on := 0, ground := Ground.phase }, { on := 1, ground := Ground.phase }, { on := 2, ground := Ground.phase }, { on := 3, ground := Ground.phase }, { on := 4, ground := Ground.phase }, { on := 5, ground := Ground.phase }, { on := 6, ground := Ground.phase }, { on := 7, ground := Ground.phase }], guard := none }, { dst := some 60, op := Op.fieldAddr 63 (Operand.tmp 59) 0, type := 0, pos := "parse.go:75", after := #[{ on := 8, ground := Ground.data }, { on := 0, ground := Ground.phase }, { on := 1, ground := Ground.phase }, { on := 2, ground := Ground.phase }, { on := 3, ground := Ground.phase }, { on := 4, ground := Ground.phase }, { on := 5, ground := Ground.phase }, { on := 6, ground := Ground.phase }, { on := 7, ground := Ground.phase }], guard := none }, { dst := none, op := Op.store 22 (Operand.tmp 60) (Operand.tmp 58), type := 0, pos := "parse.go:75", after := #[{ on := 9, ground := Ground.data }, { on := 7, ground := Ground.data }, { on := 7, ground := Ground.chain }, { on := 0, ground := Ground.phase }, { on := 1, ground := Ground.phase }, { on := 2, ground := Ground.phase }, { on := 3, ground := Ground.phase }, { on := 4, ground := Ground.phase }, { on := 5, ground := Ground.phase }, { on := 6, ground := Ground.phase }, { on := 7, ground := Ground.phase }], guard := none }]
theorem rr8_0 : rr8[0]? = some { dst := some 51, op := Op.move (Operand.tmp 0), type := 113, pos := "parse.go:75", after := #[], guard := none } := by kernel_rfl
theorem rr8_1 : rr8[1]? = some { dst := some 52, op := Op.move (Operand.tmp 0), type := 113, pos := "parse.go:75", after := #[], guard := none } := by kernel_rfl
theorem rr8_2 : rr8[2]? = some { dst := some 53, op := Op.nilCheck (Operand.tmp 52), type := 0, pos := "parse.go:75", after := #[{ on := 1, ground := Ground.data }], guard := none } := by kernel_rfl
theorem rr8_3 : rr8[3]? = some { dst := some 54, op := Op.fieldAddr 63 (Operand.tmp 53) 0, type := 0, pos := "parse.go:75", after := #[{ on := 2, ground := Ground.data }], guard := none } := by kernel_rfl
theorem rr8_4 : rr8[4]? = some { dst := some 55, op := Op.load 22 (Operand.tmp 54), type := 22, pos := "parse.go:75", after := #[{ on := 3, ground := Ground.data }], guard := none } := by kernel_rfl
theorem rr8_5 : rr8[5]? = some { dst := some 56, op := Op.load 35 (Operand.tmp 3), type := 35, pos := "parse.go:75", after := #[], guard := none } := by kernel_rfl
theorem rr8_6 : rr8[6]? = some { dst := some 57, op := Op.buildSlice 22 1 #[(0, Operand.tmp 56)], type := 22, pos := "parse.go:75", after := #[{ on := 5, ground := Ground.data }], guard := none } := by kernel_rfl
theorem rr8_7 : rr8[7]? = some { dst := some 58, op := Op.call { callee := Callee.builtin Builtin.append, args := #[Operand.tmp 55, Operand.tmp 57], argTypes := #[22, 22] }, type := 22, pos := "parse.go:75", after := #[{ on := 4, ground := Ground.data }, { on := 6, ground := Ground.data }], guard := none } := by kernel_rfl
theorem rr8_8 : rr8[8]? = some { dst := some 59, op := Op.nilCheck (Operand.tmp 51), type := 0, pos := "parse.go:75", after := #[{ on := 0, ground := Ground.data }, { on := 0, ground := Ground.phase }, { on := 1, ground := Ground.phase }, { on := 2, ground := Ground.phase }, { on := 3, ground := Ground.phase }, { on := 4, ground := Ground.phase }, { on := 5, ground := Ground.phase }, { on := 6, ground := Ground.phase }, { on := 7, ground := Ground.phase }], guard := none } := by kernel_rfl
theorem rr8_9 : rr8[9]? = some { dst := some 60, op := Op.fieldAddr 63 (Operand.tmp 59) 0, type := 0, pos := "parse.go:75", after := #[{ on := 8, ground := Ground.data }, { on := 0, ground := Ground.phase }, { on := 1, ground := Ground.phase }, { on := 2, ground := Ground.phase }, { on := 3, ground := Ground.phase }, { on := 4, ground := Ground.phase }, { on := 5, ground := Ground.phase }, { on := 6, ground := Ground.phase }, { on := 7, ground := Ground.phase }], guard := none } := by kernel_rfl
theorem rr8_10 : rr8[10]? = some { dst := none, op := Op.store 22 (Operand.tmp 60) (Operand.tmp 58), type := 0, pos := "parse.go:75", after := #[{ on := 9, ground := Ground.data }, { on := 7, ground := Ground.data }, { on := 7, ground := Ground.chain }, { on := 0, ground := Ground.phase }, { on := 1, ground := Ground.phase }, { on := 2, ground := Ground.phase }, { on := 3, ground := Ground.phase }, { on := 4, ground := Ground.phase }, { on := 5, ground := Ground.phase }, { on := 6, ground := Ground.phase }, { on := 7, ground := Ground.phase }], guard := none } := by kernel_rfl
set_option maxRecDepth 100000 in
set_option maxHeartbeats 1500000 in
theorem reg8 {x1 x2 x4 x5 x6 x7 x8 x9 x10 x11 x12 x13 x14 x15 x16 x17 x18 x19 x20 x21 x22 x23 x24 x25 x26 x27 x28 x29 x30 x31 x32 x33 x34 x35 x36 x37 x38 x39 x40 x41 x42 x43 x44 x45 x46 x47 x48 x49 x50 x51 x52 x53 x54 x55 x56 x57 x58 x59 x60 x61 : Value} {Q : Exit → Act → World → Prop} {V0 : World} {B FB base : Nat} {fv : Value} {fs : List FV} {f : Frm}
    (hS0 : V0.drew.cell? ⟨B, 0, none⟩ = some fv ∧ V0.drew.cell? ⟨FB, 0, none⟩ = some (.int .u8 f.k) ∧ V0.drew.cell? ⟨FB, 1, none⟩ = some (.string f.s) ∧ V0.drew.cell? ⟨FB, 2, none⟩ = some (.int .i64 f.n) ∧ V0.drew.cell? ⟨FB, 3, none⟩ = some (.slice none 0 0) ∧ V0.drew.cell? ⟨FB, 4, none⟩ = some (.int .i64 f.p)) (hfz : V0.drew.frozen? ⟨B, 0, none⟩ = false) (hown : V0.drew.ownsRow base 35 5 fv fs.length (flatF fs)) (hr : fs.length ≤ 400) (hbase : base ≤ V0.drew.heap.size)
    (hg : fv.ownBlock ≠ some B) (hg2 : fv.ownBlock ≠ some FB)
    (hpan : ∀ c (a : Act) w (dd : Tmp) vv, Q (.panic c) (a.put (some dd) vv) w → Q (.panic c) a w)
    (hQ : ∀ (W5 : World) (u' : Value) (t51 t52 t53 t54 t55 t56 t57 t58 t59 t60 : Value), (V0.drew.alloc (.cells #[.int .u8 f.k, .string f.s, .int .i64 f.n, .slice none 0 0, .int .i64 f.p] 35)).grownBy W5 fv.ownBlock → W5.ownsRow base 35 5 u' (fs.length + 1) (flatF fs ++ fcells (f, .slice none 0 0)) → (u'.ownBlock = fv.ownBlock ∨ u'.ownBlock = some (V0.drew.heap.size + 1)) → Q .normal { tmps := #[.pointer (some ⟨B, 0, none⟩), x1, x2, .pointer (some ⟨FB, 0, none⟩), x4, x5, x6, x7, x8, x9, x10, x11, x12, x13, x14, x15, x16, x17, x18, x19, x20, x21, x22, x23, x24, x25, x26, x27, x28, x29, x30, x31, x32, x33, x34, x35, x36, x37, x38, x39, x40, x41, x42, x43, x44, x45, x46, x47, x48, x49, x50, t51, t52, t53, t54, t55, t56, t57, t58, t59, t60, x61], defers := [] } (W5.setCell ⟨B, 0, none⟩ u')) :
    (Code.region 8 rr8 true).wp Tryd.prog Q { tmps := #[.pointer (some ⟨B, 0, none⟩), x1, x2, .pointer (some ⟨FB, 0, none⟩), x4, x5, x6, x7, x8, x9, x10, x11, x12, x13, x14, x15, x16, x17, x18, x19, x20, x21, x22, x23, x24, x25, x26, x27, x28, x29, x30, x31, x32, x33, x34, x35, x36, x37, x38, x39, x40, x41, x42, x43, x44, x45, x46, x47, x48, x49, x50, x51, x52, x53, x54, x55, x56, x57, x58, x59, x60, x61], defers := [] } V0 := by
  refine wp_region_Z (fun y => y.cell? ⟨B, 0, none⟩ = some fv ∧ y.cell? ⟨FB, 0, none⟩ = some (.int .u8 f.k) ∧ y.cell? ⟨FB, 1, none⟩ = some (.string f.s) ∧ y.cell? ⟨FB, 2, none⟩ = some (.int .i64 f.n) ∧ y.cell? ⟨FB, 3, none⟩ = some (.slice none 0 0) ∧ y.cell? ⟨FB, 4, none⟩ = some (.int .i64 f.p)) 10 Tryd.mixed ?_
  obtain ⟨V, hV⟩ : ∃ V, V0.drew = V := ⟨_, rfl⟩
  rw [hV] at hS0 hfz hown hbase hQ ⊢
  clear hV
  have HOwn := hidI hown
  have HQ := hidI hQ
  have HPan := hidI hpan
  have hgl : B < V.heap.size := World.block_lt_of_cell? V _ hS0.1
  have hgl2 : FB < V.heap.size := World.block_lt_of_cell? V _ hS0.2.1
  have hu1 : ∃ ua ul uc, fv = .slice ua ul uc := by
    rcases hown.2 with ⟨rfl, _⟩ | ⟨_, _, _, rfl, _⟩ <;> exact ⟨_, _, _, rfl⟩
  obtain ⟨ua, ul, uc, rfl⟩ := hu1
  clear hown hQ hpan
  refine wpZ_take [10] (i := 0) (v := (.pointer (some ⟨B, 0, none⟩))) rr8_0 (by kernel_rfl) (by kernel_rfl) (by kernel_rfl) (by kernel_rfl) (fun c a w h => HPan.out c a w _ _ h) (.inl ⟨by rfl, fun y hy => ?_⟩) hS0 ?_
  · obtain ⟨hy0, hy1, hy2, hy3, hy4, hy5⟩ := hy
    go_simp
  refine wpZ_take [10] (i := 1) (v := (.pointer (some ⟨B, 0, none⟩))) rr8_1 (by kernel_rfl) (by kernel_rfl) (by kernel_rfl) (by kernel_rfl) (fun c a w h => HPan.out c a w _ _ h) (.inl ⟨by rfl, fun y hy => ?_⟩) hS0 ?_
  · obtain ⟨hy0, hy1, hy2, hy3, hy4, hy5⟩ := hy
    go_simp
  refine wpZ_take [10] (i := 2) (v := (.pointer (some ⟨B, 0, none⟩))) rr8_2 (by kernel_rfl) (by kernel_rfl) (by kernel_rfl) (by kernel_rfl) (fun c a w h => HPan.out c a w _ _ h) (.inl ⟨by rfl, fun y hy => ?_⟩) hS0 ?_
  · obtain ⟨hy0, hy1, hy2, hy3, hy4, hy5⟩ := hy
    go_simp
  refine wpZ_take [10] (i := 3) (v := (.pointer (some ⟨B, 0, none⟩))) rr8_3 (by kernel_rfl) (by kernel_rfl) (by kernel_rfl) (by kernel_rfl) (fun c a w h => HPan.out c a w _ _ h) (.inl ⟨by rfl, fun y hy => ?_⟩) hS0 ?_
  · obtain ⟨hy0, hy1, hy2, hy3, hy4, hy5⟩ := hy
    go_simp
  refine wpZ_take [10] (i := 4) (v := (.slice ua ul uc)) rr8_4 (by kernel_rfl) (by kernel_rfl) (by kernel_rfl) (by kernel_rfl) (fun c a w h => HPan.out c a w _ _ h) (.inl ⟨by rfl, fun y hy => ?_⟩) hS0 ?_
  · obtain ⟨hy0, hy1, hy2, hy3, hy4, hy5⟩ := hy
    go_simp
  refine wpZ_take [10] (i := 5) (v := (.agg #[.int .u8 f.k, .string f.s, .int .i64 f.n, .slice none 0 0, .int .i64 f.p])) rr8_5 (by kernel_rfl) (by kernel_rfl) (by kernel_rfl) (by kernel_rfl) (fun c a w h => HPan.out c a w _ _ h) (.inl ⟨by rfl, fun y hy => ?_⟩) hS0 ?_
  · obtain ⟨hy0, hy1, hy2, hy3, hy4, hy5⟩ := hy
    go_simp
  have HKS : Hid (∀ y : World, Below V.heap.size V y → y.cell? ⟨B, 0, none⟩ = some (.slice ua ul uc) ∧ y.cell? ⟨FB, 0, none⟩ = some (.int .u8 f.k) ∧ y.cell? ⟨FB, 1, none⟩ = some (.string f.s) ∧ y.cell? ⟨FB, 2, none⟩ = some (.int .i64 f.n) ∧ y.cell? ⟨FB, 3, none⟩ = some (.slice none 0 0) ∧ y.cell? ⟨FB, 4, none⟩ = some (.int .i64 f.p)) := hidI fun y hy => ⟨(hy.cell hgl).trans hS0.1, (hy.cell hgl2).trans hS0.2.1, (hy.cell hgl2).trans hS0.2.2.1, (hy.cell hgl2).trans hS0.2.2.2.1, (hy.cell hgl2).trans hS0.2.2.2.2.1, (hy.cell hgl2).trans hS0.2.2.2.2.2⟩
  clear hS0
  refine wpZ_all (rs := [6]) (by kernel_rfl) (by simp) fun j6 hj6 => ?_
  obtain rfl : j6 = 6 := by simpa using hj6
  refine wpOp_go rr8_6 rfl fun K1 hK1 => ?_
  unfold Oper.wp
  go_simp
  have hA : Below V.heap.size V (V.alloc (.cells #[.int .u8 f.k, .string f.s, .int .i64 f.n, .slice none 0 0, .int .i64 f.p] 35)) := by (repeat (first | exact Below.refl _ _ | assumption | refine Below.drew ?_ | refine Below.alloc ?_ (by first | omega | (simp; done) | (simp; omega)) _ | refine Below.setCell ?_ (by first | omega | (simp; done) | (simp; omega)) _))
  have hSA := HKS.out _ hA
  refine hK1 _ _ ⟨fun _ => hSA, ?_⟩
  clear hK1 K1
  have HO2 := hidI (HOwn.out.alloc (.cells #[.int .u8 f.k, .string f.s, .int .i64 f.n, .slice none 0 0, .int .i64 f.p] 35))
  have HV := hidI (form_seen (W := V) f)
  have hfA : (V.alloc (.cells #[.int .u8 f.k, .string f.s, .int .i64 f.n, .slice none 0 0, .int .i64 f.p] 35)).frozen? ⟨B, 0, none⟩ = false := (hA.frozen (p := ⟨B, 0, none⟩) hgl).trans hfz
  have hszA : (V.alloc (.cells #[.int .u8 f.k, .string f.s, .int .i64 f.n, .slice none 0 0, .int .i64 f.p] 35)).heap.size = V.heap.size + 1 := by simp
  obtain ⟨VA, hVA⟩ : ∃ VA, V.alloc (.cells #[.int .u8 f.k, .string f.s, .int .i64 f.n, .slice none 0 0, .int .i64 f.p] 35) = VA := ⟨_, rfl⟩
  rw [hVA] at HO2 HV hSA hfA hszA ⊢
  have HVA := hidI hVA
  clear hVA hA
  refine wpZ_all (rs := [7]) (by kernel_rfl) (by simp) fun j7 hj7 => ?_
  obtain rfl : j7 = 7 := by simpa using hj7
  refine wpOp_go rr8_7 rfl fun K1 hK1 => ?_
  refine wp_append_any Tryd.underlying22 Tryd.info35x rfl (by decide) (by decide) _ _ rfl base _ fs.length (flatF fs) rfl HO2.out _ 1 (fcells (f, .slice none 0 0)) rfl HV.out (fcells_one f) (by omega) (by omega) ?_
  intro u' W5 hown5 hgrow5 hat5
  have HO5 := hidI hown5
  have HG5 := hidI hgrow5
  have HA5 := hidI hat5
  have hS5 : W5.cell? ⟨B, 0, none⟩ = some (.slice ua ul uc) ∧ W5.cell? ⟨FB, 0, none⟩ = some (.int .u8 f.k) ∧ W5.cell? ⟨FB, 1, none⟩ = some (.string f.s) ∧ W5.cell? ⟨FB, 2, none⟩ = some (.int .i64 f.n) ∧ W5.cell? ⟨FB, 3, none⟩ = some (.slice none 0 0) ∧ W5.cell? ⟨FB, 4, none⟩ = some (.int .i64 f.p) := ⟨hgrow5.cell hSA.1 (fun e => hg e.symm), hgrow5.cell hSA.2.1 (fun e => hg2 e.symm), hgrow5.cell hSA.2.2.1 (fun e => hg2 e.symm), hgrow5.cell hSA.2.2.2.1 (fun e => hg2 e.symm), hgrow5.cell hSA.2.2.2.2.1 (fun e => hg2 e.symm), hgrow5.cell hSA.2.2.2.2.2 (fun e => hg2 e.symm)⟩
  have hf5 : W5.frozen? ⟨B, 0, none⟩ = false := (World.frozen?_of_block (w := VA) (a := ⟨B, 0, none⟩) (hgrow5.block B (by omega) (fun e => hg e.symm))).trans hfA
  have hc5 := hS5.1
  obtain ⟨a6, l6, c6, hv6⟩ : ∃ a6 l6 c6, u' = .slice a6 l6 c6 := by
    rcases hown5.2 with ⟨rfl, _⟩ | ⟨_, _, _, rfl, _⟩ <;> exact ⟨_, _, _, rfl⟩
  subst hv6
  refine hK1 _ _ ⟨fun _ => hS5, ?_⟩
  clear hK1 K1 hown5 hgrow5 hat5 hSA
  refine wpZ_all (rs := [8]) (by kernel_rfl) (by simp) fun j8 hj8 => ?_
  obtain rfl : j8 = 8 := by simpa using hj8
  refine wpOp_go rr8_8 rfl fun K1 hK1 => ?_
  unfold Oper.wp
  go_simp
  refine hK1 _ _ ⟨fun _ => hS5, ?_⟩
  clear hK1 K1
  refine wpZ_all (rs := [9]) (by kernel_rfl) (by simp) fun j9 hj9 => ?_
  obtain rfl : j9 = 9 := by simpa using hj9
  refine wpOp_go rr8_9 rfl fun K1 hK1 => ?_
  unfold Oper.wp
  go_simp
  refine hK1 _ _ ⟨fun _ => hS5, ?_⟩
  clear hK1 K1
  refine wpZ_last (by kernel_rfl) (by kernel_rfl) ?_ _
  refine wpOp_go rr8_10 rfl fun K1 hK1 => ?_
  unfold Oper.wp
  go_simp
  refine hK1 _ _ ?_
  exact HQ.out W5 _ _ _ _ _ _ _ _ _ _ _ (by rw [HVA.out]; exact HG5.out) HO5.out (by first | exact HA5.out | (rw [← hszA]; exact HA5.out))
end Go.Proofs.YtpfgohlicfcaeabDoor
