/-
  What a value is that takes in the messages to a node, in whatever order: the law's three places.
-/
import Derived.Test.YtdfieflcclbgjaaZed
import Derived.Test.YtdfieflcclbgjaaMBase
namespace Go.Proofs.Ytdfieflcclbgjaa
open Go.RowKit Go.Deep Go.MapKept
def opsT26 : Array Oper := #[{ dst := some 100, op := Go.Op.move (Go.Operand.tmp 18), type := 31, pos := "law.go:110", after := #[], guard := none }, { dst := some 101, op := Go.Op.move (Go.Operand.tmp 7), type := 30, pos := "law.go:110", after := #[], guard := none }, { dst := some 102, op := Go.Op.move (Go.Operand.tmp 16), type := 3, pos := "law.go:110", after := #[], guard := none }, { dst := some 103, op := Go.Op.indexAddr 30 (Go.Operand.tmp 101) (Go.Operand.tmp 102), type := 0, pos := "law.go:110", after := #[{ on := 1, ground := Go.Ground.data }, { on := 2, ground := Go.Ground.data }], guard := none }, { dst := some 104, op := Go.Op.load 38 (Go.Operand.tmp 103), type := 38, pos := "law.go:110", after := #[{ on := 3, ground := Go.Ground.data }], guard := none }, { dst := some 105, op := Go.Op.move (Go.Operand.tmp 16), type := 3, pos := "law.go:110", after := #[], guard := none }, { dst := some 106, op := Go.Op.move (Go.Operand.tmp 8), type := 22, pos := "law.go:110", after := #[], guard := none }, { dst := some 107, op := Go.Op.move (Go.Operand.tmp 17), type := 3, pos := "law.go:110", after := #[], guard := none }, { dst := some 108, op := Go.Op.call { callee := Go.Callee.value (Go.Operand.func 16), args := #[Go.Operand.tmp 106, Go.Operand.tmp 107], argTypes := #[22, 3] }, type := 22, pos := "law.go:110", after := #[{ on := 6, ground := Go.Ground.data }, { on := 7, ground := Go.Ground.data }], guard := none }, { dst := some 109, op := Go.Op.call { callee := Go.Callee.value (Go.Operand.func 21), args := #[Go.Operand.tmp 100, Go.Operand.tmp 104, Go.Operand.tmp 105, Go.Operand.tmp 108], argTypes := #[31, 38, 3, 22] }, type := 36, pos := "law.go:110", after := #[{ on := 0, ground := Go.Ground.data }, { on := 4, ground := Go.Ground.data }, { on := 5, ground := Go.Ground.data }, { on := 8, ground := Go.Ground.data }, { on := 8, ground := Go.Ground.chain }], guard := none }, { dst := some 99, op := Go.Op.move (Go.Operand.tmp 109), type := 36, pos := "law.go:110", after := #[{ on := 9, ground := Go.Ground.data }], guard := none }, { dst := some 110, op := Go.Op.extract (Go.Operand.tmp 99) 0, type := 31, pos := "law.go:110", after := #[{ on := 10, ground := Go.Ground.data }], guard := none }, { dst := some 111, op := Go.Op.extract (Go.Operand.tmp 99) 1, type := 33, pos := "law.go:110", after := #[{ on := 10, ground := Go.Ground.data }, { on := 13, ground := Go.Ground.gcOnly Go.Departure.lateStores }], guard := none }, { dst := some 19, op := Go.Op.assign (Go.Operand.tmp 110), type := 31, pos := "law.go:110", after := #[{ on := 11, ground := Go.Ground.data }, { on := 9, ground := Go.Ground.chain }, { on := 0, ground := Go.Ground.phase }, { on := 1, ground := Go.Ground.phase }, { on := 2, ground := Go.Ground.phase }, { on := 3, ground := Go.Ground.phase }, { on := 4, ground := Go.Ground.phase }, { on := 5, ground := Go.Ground.phase }, { on := 6, ground := Go.Ground.phase }, { on := 7, ground := Go.Ground.phase }, { on := 8, ground := Go.Ground.phase }, { on := 9, ground := Go.Ground.phase }, { on := 10, ground := Go.Ground.phase }, { on := 11, ground := Go.Ground.phase }, { on := 12, ground := Go.Ground.textOnly Go.Departure.lateStores }], guard := none }, { dst := some 20, op := Go.Op.assign (Go.Operand.tmp 111), type := 33, pos := "law.go:110", after := #[{ on := 12, ground := Go.Ground.data }, { on := 13, ground := Go.Ground.chain }, { on := 0, ground := Go.Ground.phase }, { on := 1, ground := Go.Ground.phase }, { on := 2, ground := Go.Ground.phase }, { on := 3, ground := Go.Ground.phase }, { on := 4, ground := Go.Ground.phase }, { on := 5, ground := Go.Ground.phase }, { on := 6, ground := Go.Ground.phase }, { on := 7, ground := Go.Ground.phase }, { on := 8, ground := Go.Ground.phase }, { on := 9, ground := Go.Ground.phase }, { on := 10, ground := Go.Ground.phase }, { on := 11, ground := Go.Ground.phase }, { on := 12, ground := Go.Ground.phase }, { on := 13, ground := Go.Ground.phase }], guard := none }]
theorem opsT26_0 : opsT26[0]? = some { dst := some 100, op := Go.Op.move (Go.Operand.tmp 18), type := 31, pos := "law.go:110", after := #[], guard := none } := by kernel_rfl
theorem opsT26_1 : opsT26[1]? = some { dst := some 101, op := Go.Op.move (Go.Operand.tmp 7), type := 30, pos := "law.go:110", after := #[], guard := none } := by kernel_rfl
theorem opsT26_2 : opsT26[2]? = some { dst := some 102, op := Go.Op.move (Go.Operand.tmp 16), type := 3, pos := "law.go:110", after := #[], guard := none } := by kernel_rfl
theorem opsT26_3 : opsT26[3]? = some { dst := some 103, op := Go.Op.indexAddr 30 (Go.Operand.tmp 101) (Go.Operand.tmp 102), type := 0, pos := "law.go:110", after := #[{ on := 1, ground := Go.Ground.data }, { on := 2, ground := Go.Ground.data }], guard := none } := by kernel_rfl
theorem opsT26_4 : opsT26[4]? = some { dst := some 104, op := Go.Op.load 38 (Go.Operand.tmp 103), type := 38, pos := "law.go:110", after := #[{ on := 3, ground := Go.Ground.data }], guard := none } := by kernel_rfl
theorem opsT26_5 : opsT26[5]? = some { dst := some 105, op := Go.Op.move (Go.Operand.tmp 16), type := 3, pos := "law.go:110", after := #[], guard := none } := by kernel_rfl
theorem opsT26_6 : opsT26[6]? = some { dst := some 106, op := Go.Op.move (Go.Operand.tmp 8), type := 22, pos := "law.go:110", after := #[], guard := none } := by kernel_rfl
theorem opsT26_7 : opsT26[7]? = some { dst := some 107, op := Go.Op.move (Go.Operand.tmp 17), type := 3, pos := "law.go:110", after := #[], guard := none } := by kernel_rfl
theorem opsT26_8 : opsT26[8]? = some { dst := some 108, op := Go.Op.call { callee := Go.Callee.value (Go.Operand.func 16), args := #[Go.Operand.tmp 106, Go.Operand.tmp 107], argTypes := #[22, 3] }, type := 22, pos := "law.go:110", after := #[{ on := 6, ground := Go.Ground.data }, { on := 7, ground := Go.Ground.data }], guard := none } := by kernel_rfl
theorem opsT26_9 : opsT26[9]? = some { dst := some 109, op := Go.Op.call { callee := Go.Callee.value (Go.Operand.func 21), args := #[Go.Operand.tmp 100, Go.Operand.tmp 104, Go.Operand.tmp 105, Go.Operand.tmp 108], argTypes := #[31, 38, 3, 22] }, type := 36, pos := "law.go:110", after := #[{ on := 0, ground := Go.Ground.data }, { on := 4, ground := Go.Ground.data }, { on := 5, ground := Go.Ground.data }, { on := 8, ground := Go.Ground.data }, { on := 8, ground := Go.Ground.chain }], guard := none } := by kernel_rfl
theorem opsT26_10 : opsT26[10]? = some { dst := some 99, op := Go.Op.move (Go.Operand.tmp 109), type := 36, pos := "law.go:110", after := #[{ on := 9, ground := Go.Ground.data }], guard := none } := by kernel_rfl
theorem opsT26_11 : opsT26[11]? = some { dst := some 110, op := Go.Op.extract (Go.Operand.tmp 99) 0, type := 31, pos := "law.go:110", after := #[{ on := 10, ground := Go.Ground.data }], guard := none } := by kernel_rfl
theorem opsT26_12 : opsT26[12]? = some { dst := some 111, op := Go.Op.extract (Go.Operand.tmp 99) 1, type := 33, pos := "law.go:110", after := #[{ on := 10, ground := Go.Ground.data }, { on := 13, ground := Go.Ground.gcOnly Go.Departure.lateStores }], guard := none } := by kernel_rfl
theorem opsT26_13 : opsT26[13]? = some { dst := some 19, op := Go.Op.assign (Go.Operand.tmp 110), type := 31, pos := "law.go:110", after := #[{ on := 11, ground := Go.Ground.data }, { on := 9, ground := Go.Ground.chain }, { on := 0, ground := Go.Ground.phase }, { on := 1, ground := Go.Ground.phase }, { on := 2, ground := Go.Ground.phase }, { on := 3, ground := Go.Ground.phase }, { on := 4, ground := Go.Ground.phase }, { on := 5, ground := Go.Ground.phase }, { on := 6, ground := Go.Ground.phase }, { on := 7, ground := Go.Ground.phase }, { on := 8, ground := Go.Ground.phase }, { on := 9, ground := Go.Ground.phase }, { on := 10, ground := Go.Ground.phase }, { on := 11, ground := Go.Ground.phase }, { on := 12, ground := Go.Ground.textOnly Go.Departure.lateStores }], guard := none } := by kernel_rfl
theorem opsT26_14 : opsT26[14]? = some { dst := some 20, op := Go.Op.assign (Go.Operand.tmp 111), type := 33, pos := "law.go:110", after := #[{ on := 12, ground := Go.Ground.data }, { on := 13, ground := Go.Ground.chain }, { on := 0, ground := Go.Ground.phase }, { on := 1, ground := Go.Ground.phase }, { on := 2, ground := Go.Ground.phase }, { on := 3, ground := Go.Ground.phase }, { on := 4, ground := Go.Ground.phase }, { on := 5, ground := Go.Ground.phase }, { on := 6, ground := Go.Ground.phase }, { on := 7, ground := Go.Ground.phase }, { on := 8, ground := Go.Ground.phase }, { on := 9, ground := Go.Ground.phase }, { on := 10, ground := Go.Ground.phase }, { on := 11, ground := Go.Ground.phase }, { on := 12, ground := Go.Ground.phase }, { on := 13, ground := Go.Ground.phase }], guard := none } := by kernel_rfl
set_option maxRecDepth 100000 in
set_option maxHeartbeats 1500000 in
theorem regT26 {x0 x1 x2 x3 x4 x5 x6 x9 x10 x11 x12 x13 x14 x15 x19 x20 x21 x22 x23 x24 x25 x26 x27 x28 x29 x30 x31 x32 x33 x34 x35 x36 x37 x38 x39 x40 x41 x42 x43 x44 x45 x46 x47 x48 x49 x50 x51 x52 x53 x54 x55 x56 x57 x58 x59 x60 x61 x62 x63 x64 x65 x66 x67 x68 x69 x70 x71 x72 x73 x74 x75 x76 x77 x78 x79 x80 x81 x82 x83 x84 x85 x86 x87 x88 x89 x90 x91 x92 x93 x94 x95 x96 x97 x98 x99 x100 x101 x102 x103 x104 x105 x106 x107 x108 x109 x110 x111 x112 x113 x114 x115 x116 x117 x118 x119 x120 x121 x122 x123 x124 x125 x126 x127 x128 x129 x130 x131 x132 x133 x134 x135 x136 x137 x138 x139 x140 x141 x142 x143 x144 x145 x146 : Value} {Q : Exit → Act → World → Prop} {V0 : World} {ob oo L oc tg o : Nat} {was to T E : Int} {lv : Value} {ys : List Msg}
    (hS0 : V0.drew.cell? ⟨ob, oo + tg, none⟩ = some (.int .u8 (o : Int))) (htg : tg < L)
    (hF : ∀ W, Below V0.drew.heap.size V0.drew W → Calls Try.prog 16 #[lv, .int .i64 to] W fun e w' => ∃ v', e = .returned v' ∧ SeesM w' v' ys ∧ Below W.heap.size W w')
    (hT : ∀ W v', SeesM W v' ys → Calls Try.prog 21 #[.int .i64 was, .int .u8 (o : Int), .int .i64 (tg : Int), v'] W fun e w' => e = .returned (.tuple #[.int .i64 T, .int .i64 E]) ∧ Below W.heap.size W w')
    (hpan : ∀ c (a : Act) w (dd : Tmp) vv, Q (.panic c) (a.put (some dd) vv) w → Q (.panic c) a w)
    (hQ : ∀ (W : World) (t99 t100 t101 t102 t103 t104 t105 t106 t107 t108 t109 t110 t111 : Value), Below V0.drew.heap.size V0.drew W → Q .normal { tmps := #[x0, x1, x2, x3, x4, x5, x6, .slice (some ⟨ob, oo, none⟩) L oc, lv, x9, x10, x11, x12, x13, x14, x15, .int .i64 (tg : Int), .int .i64 to, .int .i64 was, .int .i64 T, .int .i64 E, x21, x22, x23, x24, x25, x26, x27, x28, x29, x30, x31, x32, x33, x34, x35, x36, x37, x38, x39, x40, x41, x42, x43, x44, x45, x46, x47, x48, x49, x50, x51, x52, x53, x54, x55, x56, x57, x58, x59, x60, x61, x62, x63, x64, x65, x66, x67, x68, x69, x70, x71, x72, x73, x74, x75, x76, x77, x78, x79, x80, x81, x82, x83, x84, x85, x86, x87, x88, x89, x90, x91, x92, x93, x94, x95, x96, x97, x98, t99, t100, t101, t102, t103, t104, t105, t106, t107, t108, t109, t110, t111, x112, x113, x114, x115, x116, x117, x118, x119, x120, x121, x122, x123, x124, x125, x126, x127, x128, x129, x130, x131, x132, x133, x134, x135, x136, x137, x138, x139, x140, x141, x142, x143, x144, x145, x146], defers := [] } W) :
    (Code.region 26 opsT26 true).wp Try.prog Q { tmps := #[x0, x1, x2, x3, x4, x5, x6, .slice (some ⟨ob, oo, none⟩) L oc, lv, x9, x10, x11, x12, x13, x14, x15, .int .i64 (tg : Int), .int .i64 to, .int .i64 was, x19, x20, x21, x22, x23, x24, x25, x26, x27, x28, x29, x30, x31, x32, x33, x34, x35, x36, x37, x38, x39, x40, x41, x42, x43, x44, x45, x46, x47, x48, x49, x50, x51, x52, x53, x54, x55, x56, x57, x58, x59, x60, x61, x62, x63, x64, x65, x66, x67, x68, x69, x70, x71, x72, x73, x74, x75, x76, x77, x78, x79, x80, x81, x82, x83, x84, x85, x86, x87, x88, x89, x90, x91, x92, x93, x94, x95, x96, x97, x98, x99, x100, x101, x102, x103, x104, x105, x106, x107, x108, x109, x110, x111, x112, x113, x114, x115, x116, x117, x118, x119, x120, x121, x122, x123, x124, x125, x126, x127, x128, x129, x130, x131, x132, x133, x134, x135, x136, x137, x138, x139, x140, x141, x142, x143, x144, x145, x146], defers := [] } V0 := by
  refine wp_region_Z (fun y => y.cell? ⟨ob, oo + tg, none⟩ = some (.int .u8 (o : Int))) 14 Try.mixed ?_
  obtain ⟨V, hV⟩ : ∃ V, V0.drew = V := ⟨_, rfl⟩
  rw [hV] at hS0 hF hQ ⊢
  clear hV
  have HQ := hidI hQ
  have HPan := hidI hpan
  have HF := hidI hF
  have HT := hidI hT
  have kq : (tg : Int) < (L : Int) := by omega
  clear hQ hpan hF hT
  refine wpZ_take [14] (i := 0) (v := (.int .i64 was)) opsT26_0 (by kernel_rfl) (by kernel_rfl) (by kernel_rfl) (by kernel_rfl) (fun c a w h => HPan.out c a w _ _ h) (.inl ⟨by rfl, fun y hy => ?_⟩) hS0 ?_
  · go_simp
  refine wpZ_take [14] (i := 1) (v := (.slice (some ⟨ob, oo, none⟩) L oc)) opsT26_1 (by kernel_rfl) (by kernel_rfl) (by kernel_rfl) (by kernel_rfl) (fun c a w h => HPan.out c a w _ _ h) (.inl ⟨by rfl, fun y hy => ?_⟩) hS0 ?_
  · go_simp
  refine wpZ_take [14] (i := 2) (v := (.int .i64 (tg : Int))) opsT26_2 (by kernel_rfl) (by kernel_rfl) (by kernel_rfl) (by kernel_rfl) (fun c a w h => HPan.out c a w _ _ h) (.inl ⟨by rfl, fun y hy => ?_⟩) hS0 ?_
  · go_simp
  refine wpZ_take [14] (i := 3) (v := (.pointer (some ⟨ob, oo + tg, none⟩))) opsT26_3 (by kernel_rfl) (by kernel_rfl) (by kernel_rfl) (by kernel_rfl) (fun c a w h => HPan.out c a w _ _ h) (.inl ⟨by rfl, fun y hy => ?_⟩) hS0 ?_
  · go_simp
  refine wpZ_take [14] (i := 4) (v := (.int .u8 (o : Int))) opsT26_4 (by kernel_rfl) (by kernel_rfl) (by kernel_rfl) (by kernel_rfl) (fun c a w h => HPan.out c a w _ _ h) (.inl ⟨by rfl, fun y hy => ?_⟩) hS0 ?_
  · go_simp
  refine wpZ_take [14] (i := 5) (v := (.int .i64 (tg : Int))) opsT26_5 (by kernel_rfl) (by kernel_rfl) (by kernel_rfl) (by kernel_rfl) (fun c a w h => HPan.out c a w _ _ h) (.inl ⟨by rfl, fun y hy => ?_⟩) hS0 ?_
  · go_simp
  refine wpZ_take [14] (i := 6) (v := lv) opsT26_6 (by kernel_rfl) (by kernel_rfl) (by kernel_rfl) (by kernel_rfl) (fun c a w h => HPan.out c a w _ _ h) (.inl ⟨by rfl, fun y hy => ?_⟩) hS0 ?_
  · go_simp
  refine wpZ_take [14] (i := 7) (v := (.int .i64 to)) opsT26_7 (by kernel_rfl) (by kernel_rfl) (by kernel_rfl) (by kernel_rfl) (fun c a w h => HPan.out c a w _ _ h) (.inl ⟨by rfl, fun y hy => ?_⟩) hS0 ?_
  · go_simp
  have HKS : Hid (∀ y : World, Below V.heap.size V y → y.cell? ⟨ob, oo + tg, none⟩ = some (.int .u8 (o : Int))) := hidI fun y hy => (hy.cell (p := ⟨ob, oo + tg, none⟩) (World.block_lt_of_cell? V _ hS0)).trans hS0
  refine wpZ_all (rs := [8]) (by kernel_rfl) (by simp) fun j8 hj8 => ?_
  obtain rfl : j8 = 8 := by simpa using hj8
  refine wpOp_go opsT26_8 rfl fun K1 hK1 => ?_
  unfold Oper.wp
  go_simp
  refine Calls.mono (HF.out V (Below.refl _ _)) ?_
  rintro e W1 ⟨v1, rfl, hs1, hb1⟩
  have HB1 := hidI hb1
  have hS1 := HKS.out W1 hb1
  have CT := hidI (HT.out W1 v1 hs1)
  clear hb1 hs1
  refine hK1 _ _ ⟨fun _ => hS1, ?_⟩
  clear hK1 K1
  refine wpZ_all (rs := [9]) (by kernel_rfl) (by simp) fun j9 hj9 => ?_
  obtain rfl : j9 = 9 := by simpa using hj9
  refine wpOp_go opsT26_9 rfl fun K1 hK1 => ?_
  unfold Oper.wp
  go_simp
  refine Calls.mono CT.out ?_
  rintro e W2 ⟨rfl, hb2⟩
  have HB2 := hidI (HB1.out.trans (hb2.mono HB1.out.size))
  have hS2 := HKS.out W2 HB2.out
  clear hb2 CT
  refine hK1 _ _ ⟨fun _ => hS2, ?_⟩
  clear hK1 K1
  refine wpZ_all (rs := [10]) (by kernel_rfl) (by simp) fun j10 hj10 => ?_
  obtain rfl : j10 = 10 := by simpa using hj10
  refine wpOp_go opsT26_10 rfl fun K1 hK1 => ?_
  unfold Oper.wp
  go_simp
  refine hK1 _ _ ⟨fun _ => hS2, ?_⟩
  clear hK1 K1
  refine wpZ_all (rs := [11, 12]) (by kernel_rfl) (by simp) fun q1 hq1 => ?_
  have hq1' : q1 = 11 ∨ q1 = 12 := by simp only [List.mem_cons, List.mem_nil_iff, or_false] at hq1; omega
  clear hq1
  rcases hq1' with rfl | rfl
  · refine wpOp_go opsT26_11 rfl fun K1 hK1 => ?_
    unfold Oper.wp
    go_simp
    refine hK1 _ _ ⟨fun _ => hS2, ?_⟩
    clear hK1 K1
    refine wpZ_all (rs := [12, 13]) (by kernel_rfl) (by simp) fun q2 hq2 => ?_
    have hq2' : q2 = 12 ∨ q2 = 13 := by simp only [List.mem_cons, List.mem_nil_iff, or_false] at hq2; omega
    clear hq2
    rcases hq2' with rfl | rfl
    · refine wpOp_go opsT26_12 rfl fun K1 hK1 => ?_
      unfold Oper.wp
      go_simp
      refine hK1 _ _ ⟨fun _ => hS2, ?_⟩
      clear hK1 K1
      refine wpZ_all (rs := [13]) (by kernel_rfl) (by simp) fun j13 hj13 => ?_
      obtain rfl : j13 = 13 := by simpa using hj13
      refine wpOp_go opsT26_13 rfl fun K1 hK1 => ?_
      unfold Oper.wp
      go_simp
      refine hK1 _ _ ⟨fun _ => hS2, ?_⟩
      clear hK1 K1
      refine wpZ_all (rs := [14]) (by kernel_rfl) (by simp) fun j14 hj14 => ?_
      obtain rfl : j14 = 14 := by simpa using hj14
      refine wpOp_go opsT26_14 rfl fun K1 hK1 => ?_
      unfold Oper.wp
      go_simp
      refine hK1 _ _ ⟨fun _ => hS2, ?_⟩
      clear hK1 K1
      refine wpZ_done (by kernel_rfl) ?_ _
      exact HQ.out _ _ _ _ _ _ _ _ _ _ _ _ _ _ HB2.out
    · refine wpOp_go opsT26_13 rfl fun K1 hK1 => ?_
      unfold Oper.wp
      go_simp
      refine hK1 _ _ ⟨fun _ => hS2, ?_⟩
      clear hK1 K1
      refine wpZ_all (rs := [12]) (by kernel_rfl) (by simp) fun j12 hj12 => ?_
      obtain rfl : j12 = 12 := by simpa using hj12
      refine wpOp_go opsT26_12 rfl fun K1 hK1 => ?_
      unfold Oper.wp
      go_simp
      refine hK1 _ _ ⟨fun _ => hS2, ?_⟩
      clear hK1 K1
      refine wpZ_all (rs := [14]) (by kernel_rfl) (by simp) fun j14 hj14 => ?_
      obtain rfl : j14 = 14 := by simpa using hj14
      refine wpOp_go opsT26_14 rfl fun K1 hK1 => ?_
      unfold Oper.wp
      go_simp
      refine hK1 _ _ ⟨fun _ => hS2, ?_⟩
      clear hK1 K1
      refine wpZ_done (by kernel_rfl) ?_ _
      exact HQ.out _ _ _ _ _ _ _ _ _ _ _ _ _ _ HB2.out
  · refine wpOp_go opsT26_12 rfl fun K1 hK1 => ?_
    unfold Oper.wp
    go_simp
    refine hK1 _ _ ⟨fun _ => hS2, ?_⟩
    clear hK1 K1
    refine wpZ_all (rs := [11]) (by kernel_rfl) (by simp) fun j11 hj11 => ?_
    obtain rfl : j11 = 11 := by simpa using hj11
    refine wpOp_go opsT26_11 rfl fun K1 hK1 => ?_
    unfold Oper.wp
    go_simp
    refine hK1 _ _ ⟨fun _ => hS2, ?_⟩
    clear hK1 K1
    refine wpZ_all (rs := [13]) (by kernel_rfl) (by simp) fun j13 hj13 => ?_
    obtain rfl : j13 = 13 := by simpa using hj13
    refine wpOp_go opsT26_13 rfl fun K1 hK1 => ?_
    unfold Oper.wp
    go_simp
    refine hK1 _ _ ⟨fun _ => hS2, ?_⟩
    clear hK1 K1
    refine wpZ_all (rs := [14]) (by kernel_rfl) (by simp) fun j14 hj14 => ?_
    obtain rfl : j14 = 14 := by simpa using hj14
    refine wpOp_go opsT26_14 rfl fun K1 hK1 => ?_
    unfold Oper.wp
    go_simp
    refine hK1 _ _ ⟨fun _ => hS2, ?_⟩
    clear hK1 K1
    refine wpZ_done (by kernel_rfl) ?_ _
    exact HQ.out _ _ _ _ _ _ _ _ _ _ _ _ _ _ HB2.out
def opsT27 : Array Oper := #[{ dst := some 113, op := Go.Op.move (Go.Operand.tmp 18), type := 31, pos := "law.go:111", after := #[], guard := none }, { dst := some 114, op := Go.Op.move (Go.Operand.tmp 7), type := 30, pos := "law.go:111", after := #[], guard := none }, { dst := some 115, op := Go.Op.move (Go.Operand.tmp 16), type := 3, pos := "law.go:111", after := #[], guard := none }, { dst := some 116, op := Go.Op.indexAddr 30 (Go.Operand.tmp 114) (Go.Operand.tmp 115), type := 0, pos := "law.go:111", after := #[{ on := 1, ground := Go.Ground.data }, { on := 2, ground := Go.Ground.data }], guard := none }, { dst := some 117, op := Go.Op.load 38 (Go.Operand.tmp 116), type := 38, pos := "law.go:111", after := #[{ on := 3, ground := Go.Ground.data }], guard := none }, { dst := some 118, op := Go.Op.move (Go.Operand.tmp 16), type := 3, pos := "law.go:111", after := #[], guard := none }, { dst := some 119, op := Go.Op.move (Go.Operand.tmp 11), type := 22, pos := "law.go:111", after := #[], guard := none }, { dst := some 120, op := Go.Op.move (Go.Operand.tmp 17), type := 3, pos := "law.go:111", after := #[], guard := none }, { dst := some 121, op := Go.Op.call { callee := Go.Callee.value (Go.Operand.func 16), args := #[Go.Operand.tmp 119, Go.Operand.tmp 120], argTypes := #[22, 3] }, type := 22, pos := "law.go:111", after := #[{ on := 6, ground := Go.Ground.data }, { on := 7, ground := Go.Ground.data }], guard := none }, { dst := some 122, op := Go.Op.call { callee := Go.Callee.value (Go.Operand.func 21), args := #[Go.Operand.tmp 113, Go.Operand.tmp 117, Go.Operand.tmp 118, Go.Operand.tmp 121], argTypes := #[31, 38, 3, 22] }, type := 36, pos := "law.go:111", after := #[{ on := 0, ground := Go.Ground.data }, { on := 4, ground := Go.Ground.data }, { on := 5, ground := Go.Ground.data }, { on := 8, ground := Go.Ground.data }, { on := 8, ground := Go.Ground.chain }], guard := none }, { dst := some 112, op := Go.Op.move (Go.Operand.tmp 122), type := 36, pos := "law.go:111", after := #[{ on := 9, ground := Go.Ground.data }], guard := none }, { dst := some 123, op := Go.Op.extract (Go.Operand.tmp 112) 0, type := 31, pos := "law.go:111", after := #[{ on := 10, ground := Go.Ground.data }], guard := none }, { dst := some 124, op := Go.Op.extract (Go.Operand.tmp 112) 1, type := 33, pos := "law.go:111", after := #[{ on := 10, ground := Go.Ground.data }, { on := 13, ground := Go.Ground.gcOnly Go.Departure.lateStores }], guard := none }, { dst := some 21, op := Go.Op.assign (Go.Operand.tmp 123), type := 31, pos := "law.go:111", after := #[{ on := 11, ground := Go.Ground.data }, { on := 9, ground := Go.Ground.chain }, { on := 0, ground := Go.Ground.phase }, { on := 1, ground := Go.Ground.phase }, { on := 2, ground := Go.Ground.phase }, { on := 3, ground := Go.Ground.phase }, { on := 4, ground := Go.Ground.phase }, { on := 5, ground := Go.Ground.phase }, { on := 6, ground := Go.Ground.phase }, { on := 7, ground := Go.Ground.phase }, { on := 8, ground := Go.Ground.phase }, { on := 9, ground := Go.Ground.phase }, { on := 10, ground := Go.Ground.phase }, { on := 11, ground := Go.Ground.phase }, { on := 12, ground := Go.Ground.textOnly Go.Departure.lateStores }], guard := none }, { dst := some 22, op := Go.Op.assign (Go.Operand.tmp 124), type := 33, pos := "law.go:111", after := #[{ on := 12, ground := Go.Ground.data }, { on := 13, ground := Go.Ground.chain }, { on := 0, ground := Go.Ground.phase }, { on := 1, ground := Go.Ground.phase }, { on := 2, ground := Go.Ground.phase }, { on := 3, ground := Go.Ground.phase }, { on := 4, ground := Go.Ground.phase }, { on := 5, ground := Go.Ground.phase }, { on := 6, ground := Go.Ground.phase }, { on := 7, ground := Go.Ground.phase }, { on := 8, ground := Go.Ground.phase }, { on := 9, ground := Go.Ground.phase }, { on := 10, ground := Go.Ground.phase }, { on := 11, ground := Go.Ground.phase }, { on := 12, ground := Go.Ground.phase }, { on := 13, ground := Go.Ground.phase }], guard := none }]
theorem opsT27_0 : opsT27[0]? = some { dst := some 113, op := Go.Op.move (Go.Operand.tmp 18), type := 31, pos := "law.go:111", after := #[], guard := none } := by kernel_rfl
theorem opsT27_1 : opsT27[1]? = some { dst := some 114, op := Go.Op.move (Go.Operand.tmp 7), type := 30, pos := "law.go:111", after := #[], guard := none } := by kernel_rfl
theorem opsT27_2 : opsT27[2]? = some { dst := some 115, op := Go.Op.move (Go.Operand.tmp 16), type := 3, pos := "law.go:111", after := #[], guard := none } := by kernel_rfl
theorem opsT27_3 : opsT27[3]? = some { dst := some 116, op := Go.Op.indexAddr 30 (Go.Operand.tmp 114) (Go.Operand.tmp 115), type := 0, pos := "law.go:111", after := #[{ on := 1, ground := Go.Ground.data }, { on := 2, ground := Go.Ground.data }], guard := none } := by kernel_rfl
theorem opsT27_4 : opsT27[4]? = some { dst := some 117, op := Go.Op.load 38 (Go.Operand.tmp 116), type := 38, pos := "law.go:111", after := #[{ on := 3, ground := Go.Ground.data }], guard := none } := by kernel_rfl
theorem opsT27_5 : opsT27[5]? = some { dst := some 118, op := Go.Op.move (Go.Operand.tmp 16), type := 3, pos := "law.go:111", after := #[], guard := none } := by kernel_rfl
theorem opsT27_6 : opsT27[6]? = some { dst := some 119, op := Go.Op.move (Go.Operand.tmp 11), type := 22, pos := "law.go:111", after := #[], guard := none } := by kernel_rfl
theorem opsT27_7 : opsT27[7]? = some { dst := some 120, op := Go.Op.move (Go.Operand.tmp 17), type := 3, pos := "law.go:111", after := #[], guard := none } := by kernel_rfl
theorem opsT27_8 : opsT27[8]? = some { dst := some 121, op := Go.Op.call { callee := Go.Callee.value (Go.Operand.func 16), args := #[Go.Operand.tmp 119, Go.Operand.tmp 120], argTypes := #[22, 3] }, type := 22, pos := "law.go:111", after := #[{ on := 6, ground := Go.Ground.data }, { on := 7, ground := Go.Ground.data }], guard := none } := by kernel_rfl
theorem opsT27_9 : opsT27[9]? = some { dst := some 122, op := Go.Op.call { callee := Go.Callee.value (Go.Operand.func 21), args := #[Go.Operand.tmp 113, Go.Operand.tmp 117, Go.Operand.tmp 118, Go.Operand.tmp 121], argTypes := #[31, 38, 3, 22] }, type := 36, pos := "law.go:111", after := #[{ on := 0, ground := Go.Ground.data }, { on := 4, ground := Go.Ground.data }, { on := 5, ground := Go.Ground.data }, { on := 8, ground := Go.Ground.data }, { on := 8, ground := Go.Ground.chain }], guard := none } := by kernel_rfl
theorem opsT27_10 : opsT27[10]? = some { dst := some 112, op := Go.Op.move (Go.Operand.tmp 122), type := 36, pos := "law.go:111", after := #[{ on := 9, ground := Go.Ground.data }], guard := none } := by kernel_rfl
theorem opsT27_11 : opsT27[11]? = some { dst := some 123, op := Go.Op.extract (Go.Operand.tmp 112) 0, type := 31, pos := "law.go:111", after := #[{ on := 10, ground := Go.Ground.data }], guard := none } := by kernel_rfl
theorem opsT27_12 : opsT27[12]? = some { dst := some 124, op := Go.Op.extract (Go.Operand.tmp 112) 1, type := 33, pos := "law.go:111", after := #[{ on := 10, ground := Go.Ground.data }, { on := 13, ground := Go.Ground.gcOnly Go.Departure.lateStores }], guard := none } := by kernel_rfl
theorem opsT27_13 : opsT27[13]? = some { dst := some 21, op := Go.Op.assign (Go.Operand.tmp 123), type := 31, pos := "law.go:111", after := #[{ on := 11, ground := Go.Ground.data }, { on := 9, ground := Go.Ground.chain }, { on := 0, ground := Go.Ground.phase }, { on := 1, ground := Go.Ground.phase }, { on := 2, ground := Go.Ground.phase }, { on := 3, ground := Go.Ground.phase }, { on := 4, ground := Go.Ground.phase }, { on := 5, ground := Go.Ground.phase }, { on := 6, ground := Go.Ground.phase }, { on := 7, ground := Go.Ground.phase }, { on := 8, ground := Go.Ground.phase }, { on := 9, ground := Go.Ground.phase }, { on := 10, ground := Go.Ground.phase }, { on := 11, ground := Go.Ground.phase }, { on := 12, ground := Go.Ground.textOnly Go.Departure.lateStores }], guard := none } := by kernel_rfl
theorem opsT27_14 : opsT27[14]? = some { dst := some 22, op := Go.Op.assign (Go.Operand.tmp 124), type := 33, pos := "law.go:111", after := #[{ on := 12, ground := Go.Ground.data }, { on := 13, ground := Go.Ground.chain }, { on := 0, ground := Go.Ground.phase }, { on := 1, ground := Go.Ground.phase }, { on := 2, ground := Go.Ground.phase }, { on := 3, ground := Go.Ground.phase }, { on := 4, ground := Go.Ground.phase }, { on := 5, ground := Go.Ground.phase }, { on := 6, ground := Go.Ground.phase }, { on := 7, ground := Go.Ground.phase }, { on := 8, ground := Go.Ground.phase }, { on := 9, ground := Go.Ground.phase }, { on := 10, ground := Go.Ground.phase }, { on := 11, ground := Go.Ground.phase }, { on := 12, ground := Go.Ground.phase }, { on := 13, ground := Go.Ground.phase }], guard := none } := by kernel_rfl
set_option maxRecDepth 100000 in
set_option maxHeartbeats 1500000 in
theorem regT27 {x0 x1 x2 x3 x4 x5 x6 x8 x9 x10 x12 x13 x14 x15 x19 x20 x21 x22 x23 x24 x25 x26 x27 x28 x29 x30 x31 x32 x33 x34 x35 x36 x37 x38 x39 x40 x41 x42 x43 x44 x45 x46 x47 x48 x49 x50 x51 x52 x53 x54 x55 x56 x57 x58 x59 x60 x61 x62 x63 x64 x65 x66 x67 x68 x69 x70 x71 x72 x73 x74 x75 x76 x77 x78 x79 x80 x81 x82 x83 x84 x85 x86 x87 x88 x89 x90 x91 x92 x93 x94 x95 x96 x97 x98 x99 x100 x101 x102 x103 x104 x105 x106 x107 x108 x109 x110 x111 x112 x113 x114 x115 x116 x117 x118 x119 x120 x121 x122 x123 x124 x125 x126 x127 x128 x129 x130 x131 x132 x133 x134 x135 x136 x137 x138 x139 x140 x141 x142 x143 x144 x145 x146 : Value} {Q : Exit → Act → World → Prop} {V0 : World} {ob oo L oc tg o : Nat} {was to T E : Int} {lv : Value} {ys : List Msg}
    (hS0 : V0.drew.cell? ⟨ob, oo + tg, none⟩ = some (.int .u8 (o : Int))) (htg : tg < L)
    (hF : ∀ W, Below V0.drew.heap.size V0.drew W → Calls Try.prog 16 #[lv, .int .i64 to] W fun e w' => ∃ v', e = .returned v' ∧ SeesM w' v' ys ∧ Below W.heap.size W w')
    (hT : ∀ W v', SeesM W v' ys → Calls Try.prog 21 #[.int .i64 was, .int .u8 (o : Int), .int .i64 (tg : Int), v'] W fun e w' => e = .returned (.tuple #[.int .i64 T, .int .i64 E]) ∧ Below W.heap.size W w')
    (hpan : ∀ c (a : Act) w (dd : Tmp) vv, Q (.panic c) (a.put (some dd) vv) w → Q (.panic c) a w)
    (hQ : ∀ (W : World) (t112 t113 t114 t115 t116 t117 t118 t119 t120 t121 t122 t123 t124 : Value), Below V0.drew.heap.size V0.drew W → Q .normal { tmps := #[x0, x1, x2, x3, x4, x5, x6, .slice (some ⟨ob, oo, none⟩) L oc, x8, x9, x10, lv, x12, x13, x14, x15, .int .i64 (tg : Int), .int .i64 to, .int .i64 was, x19, x20, .int .i64 T, .int .i64 E, x23, x24, x25, x26, x27, x28, x29, x30, x31, x32, x33, x34, x35, x36, x37, x38, x39, x40, x41, x42, x43, x44, x45, x46, x47, x48, x49, x50, x51, x52, x53, x54, x55, x56, x57, x58, x59, x60, x61, x62, x63, x64, x65, x66, x67, x68, x69, x70, x71, x72, x73, x74, x75, x76, x77, x78, x79, x80, x81, x82, x83, x84, x85, x86, x87, x88, x89, x90, x91, x92, x93, x94, x95, x96, x97, x98, x99, x100, x101, x102, x103, x104, x105, x106, x107, x108, x109, x110, x111, t112, t113, t114, t115, t116, t117, t118, t119, t120, t121, t122, t123, t124, x125, x126, x127, x128, x129, x130, x131, x132, x133, x134, x135, x136, x137, x138, x139, x140, x141, x142, x143, x144, x145, x146], defers := [] } W) :
    (Code.region 27 opsT27 true).wp Try.prog Q { tmps := #[x0, x1, x2, x3, x4, x5, x6, .slice (some ⟨ob, oo, none⟩) L oc, x8, x9, x10, lv, x12, x13, x14, x15, .int .i64 (tg : Int), .int .i64 to, .int .i64 was, x19, x20, x21, x22, x23, x24, x25, x26, x27, x28, x29, x30, x31, x32, x33, x34, x35, x36, x37, x38, x39, x40, x41, x42, x43, x44, x45, x46, x47, x48, x49, x50, x51, x52, x53, x54, x55, x56, x57, x58, x59, x60, x61, x62, x63, x64, x65, x66, x67, x68, x69, x70, x71, x72, x73, x74, x75, x76, x77, x78, x79, x80, x81, x82, x83, x84, x85, x86, x87, x88, x89, x90, x91, x92, x93, x94, x95, x96, x97, x98, x99, x100, x101, x102, x103, x104, x105, x106, x107, x108, x109, x110, x111, x112, x113, x114, x115, x116, x117, x118, x119, x120, x121, x122, x123, x124, x125, x126, x127, x128, x129, x130, x131, x132, x133, x134, x135, x136, x137, x138, x139, x140, x141, x142, x143, x144, x145, x146], defers := [] } V0 := by
  refine wp_region_Z (fun y => y.cell? ⟨ob, oo + tg, none⟩ = some (.int .u8 (o : Int))) 14 Try.mixed ?_
  obtain ⟨V, hV⟩ : ∃ V, V0.drew = V := ⟨_, rfl⟩
  rw [hV] at hS0 hF hQ ⊢
  clear hV
  have HQ := hidI hQ
  have HPan := hidI hpan
  have HF := hidI hF
  have HT := hidI hT
  have kq : (tg : Int) < (L : Int) := by omega
  clear hQ hpan hF hT
  refine wpZ_take [14] (i := 0) (v := (.int .i64 was)) opsT27_0 (by kernel_rfl) (by kernel_rfl) (by kernel_rfl) (by kernel_rfl) (fun c a w h => HPan.out c a w _ _ h) (.inl ⟨by rfl, fun y hy => ?_⟩) hS0 ?_
  · go_simp
  refine wpZ_take [14] (i := 1) (v := (.slice (some ⟨ob, oo, none⟩) L oc)) opsT27_1 (by kernel_rfl) (by kernel_rfl) (by kernel_rfl) (by kernel_rfl) (fun c a w h => HPan.out c a w _ _ h) (.inl ⟨by rfl, fun y hy => ?_⟩) hS0 ?_
  · go_simp
  refine wpZ_take [14] (i := 2) (v := (.int .i64 (tg : Int))) opsT27_2 (by kernel_rfl) (by kernel_rfl) (by kernel_rfl) (by kernel_rfl) (fun c a w h => HPan.out c a w _ _ h) (.inl ⟨by rfl, fun y hy => ?_⟩) hS0 ?_
  · go_simp
  refine wpZ_take [14] (i := 3) (v := (.pointer (some ⟨ob, oo + tg, none⟩))) opsT27_3 (by kernel_rfl) (by kernel_rfl) (by kernel_rfl) (by kernel_rfl) (fun c a w h => HPan.out c a w _ _ h) (.inl ⟨by rfl, fun y hy => ?_⟩) hS0 ?_
  · go_simp
  refine wpZ_take [14] (i := 4) (v := (.int .u8 (o : Int))) opsT27_4 (by kernel_rfl) (by kernel_rfl) (by kernel_rfl) (by kernel_rfl) (fun c a w h => HPan.out c a w _ _ h) (.inl ⟨by rfl, fun y hy => ?_⟩) hS0 ?_
  · go_simp
  refine wpZ_take [14] (i := 5) (v := (.int .i64 (tg : Int))) opsT27_5 (by kernel_rfl) (by kernel_rfl) (by kernel_rfl) (by kernel_rfl) (fun c a w h => HPan.out c a w _ _ h) (.inl ⟨by rfl, fun y hy => ?_⟩) hS0 ?_
  · go_simp
  refine wpZ_take [14] (i := 6) (v := lv) opsT27_6 (by kernel_rfl) (by kernel_rfl) (by kernel_rfl) (by kernel_rfl) (fun c a w h => HPan.out c a w _ _ h) (.inl ⟨by rfl, fun y hy => ?_⟩) hS0 ?_
  · go_simp
  refine wpZ_take [14] (i := 7) (v := (.int .i64 to)) opsT27_7 (by kernel_rfl) (by kernel_rfl) (by kernel_rfl) (by kernel_rfl) (fun c a w h => HPan.out c a w _ _ h) (.inl ⟨by rfl, fun y hy => ?_⟩) hS0 ?_
  · go_simp
  have HKS : Hid (∀ y : World, Below V.heap.size V y → y.cell? ⟨ob, oo + tg, none⟩ = some (.int .u8 (o : Int))) := hidI fun y hy => (hy.cell (p := ⟨ob, oo + tg, none⟩) (World.block_lt_of_cell? V _ hS0)).trans hS0
  refine wpZ_all (rs := [8]) (by kernel_rfl) (by simp) fun j8 hj8 => ?_
  obtain rfl : j8 = 8 := by simpa using hj8
  refine wpOp_go opsT27_8 rfl fun K1 hK1 => ?_
  unfold Oper.wp
  go_simp
  refine Calls.mono (HF.out V (Below.refl _ _)) ?_
  rintro e W1 ⟨v1, rfl, hs1, hb1⟩
  have HB1 := hidI hb1
  have hS1 := HKS.out W1 hb1
  have CT := hidI (HT.out W1 v1 hs1)
  clear hb1 hs1
  refine hK1 _ _ ⟨fun _ => hS1, ?_⟩
  clear hK1 K1
  refine wpZ_all (rs := [9]) (by kernel_rfl) (by simp) fun j9 hj9 => ?_
  obtain rfl : j9 = 9 := by simpa using hj9
  refine wpOp_go opsT27_9 rfl fun K1 hK1 => ?_
  unfold Oper.wp
  go_simp
  refine Calls.mono CT.out ?_
  rintro e W2 ⟨rfl, hb2⟩
  have HB2 := hidI (HB1.out.trans (hb2.mono HB1.out.size))
  have hS2 := HKS.out W2 HB2.out
  clear hb2 CT
  refine hK1 _ _ ⟨fun _ => hS2, ?_⟩
  clear hK1 K1
  refine wpZ_all (rs := [10]) (by kernel_rfl) (by simp) fun j10 hj10 => ?_
  obtain rfl : j10 = 10 := by simpa using hj10
  refine wpOp_go opsT27_10 rfl fun K1 hK1 => ?_
  unfold Oper.wp
  go_simp
  refine hK1 _ _ ⟨fun _ => hS2, ?_⟩
  clear hK1 K1
  refine wpZ_all (rs := [11, 12]) (by kernel_rfl) (by simp) fun q1 hq1 => ?_
  have hq1' : q1 = 11 ∨ q1 = 12 := by simp only [List.mem_cons, List.mem_nil_iff, or_false] at hq1; omega
  clear hq1
  rcases hq1' with rfl | rfl
  · refine wpOp_go opsT27_11 rfl fun K1 hK1 => ?_
    unfold Oper.wp
    go_simp
    refine hK1 _ _ ⟨fun _ => hS2, ?_⟩
    clear hK1 K1
    refine wpZ_all (rs := [12, 13]) (by kernel_rfl) (by simp) fun q2 hq2 => ?_
    have hq2' : q2 = 12 ∨ q2 = 13 := by simp only [List.mem_cons, List.mem_nil_iff, or_false] at hq2; omega
    clear hq2
    rcases hq2' with rfl | rfl
    · refine wpOp_go opsT27_12 rfl fun K1 hK1 => ?_
      unfold Oper.wp
      go_simp
      refine hK1 _ _ ⟨fun _ => hS2, ?_⟩
      clear hK1 K1
      refine wpZ_all (rs := [13]) (by kernel_rfl) (by simp) fun j13 hj13 => ?_
      obtain rfl : j13 = 13 := by simpa using hj13
      refine wpOp_go opsT27_13 rfl fun K1 hK1 => ?_
      unfold Oper.wp
      go_simp
      refine hK1 _ _ ⟨fun _ => hS2, ?_⟩
      clear hK1 K1
      refine wpZ_all (rs := [14]) (by kernel_rfl) (by simp) fun j14 hj14 => ?_
      obtain rfl : j14 = 14 := by simpa using hj14
      refine wpOp_go opsT27_14 rfl fun K1 hK1 => ?_
      unfold Oper.wp
      go_simp
      refine hK1 _ _ ⟨fun _ => hS2, ?_⟩
      clear hK1 K1
      refine wpZ_done (by kernel_rfl) ?_ _
      exact HQ.out _ _ _ _ _ _ _ _ _ _ _ _ _ _ HB2.out
    · refine wpOp_go opsT27_13 rfl fun K1 hK1 => ?_
      unfold Oper.wp
      go_simp
      refine hK1 _ _ ⟨fun _ => hS2, ?_⟩
      clear hK1 K1
      refine wpZ_all (rs := [12]) (by kernel_rfl) (by simp) fun j12 hj12 => ?_
      obtain rfl : j12 = 12 := by simpa using hj12
      refine wpOp_go opsT27_12 rfl fun K1 hK1 => ?_
      unfold Oper.wp
      go_simp
      refine hK1 _ _ ⟨fun _ => hS2, ?_⟩
      clear hK1 K1
      refine wpZ_all (rs := [14]) (by kernel_rfl) (by simp) fun j14 hj14 => ?_
      obtain rfl : j14 = 14 := by simpa using hj14
      refine wpOp_go opsT27_14 rfl fun K1 hK1 => ?_
      unfold Oper.wp
      go_simp
      refine hK1 _ _ ⟨fun _ => hS2, ?_⟩
      clear hK1 K1
      refine wpZ_done (by kernel_rfl) ?_ _
      exact HQ.out _ _ _ _ _ _ _ _ _ _ _ _ _ _ HB2.out
  · refine wpOp_go opsT27_12 rfl fun K1 hK1 => ?_
    unfold Oper.wp
    go_simp
    refine hK1 _ _ ⟨fun _ => hS2, ?_⟩
    clear hK1 K1
    refine wpZ_all (rs := [11]) (by kernel_rfl) (by simp) fun j11 hj11 => ?_
    obtain rfl : j11 = 11 := by simpa using hj11
    refine wpOp_go opsT27_11 rfl fun K1 hK1 => ?_
    unfold Oper.wp
    go_simp
    refine hK1 _ _ ⟨fun _ => hS2, ?_⟩
    clear hK1 K1
    refine wpZ_all (rs := [13]) (by kernel_rfl) (by simp) fun j13 hj13 => ?_
    obtain rfl : j13 = 13 := by simpa using hj13
    refine wpOp_go opsT27_13 rfl fun K1 hK1 => ?_
    unfold Oper.wp
    go_simp
    refine hK1 _ _ ⟨fun _ => hS2, ?_⟩
    clear hK1 K1
    refine wpZ_all (rs := [14]) (by kernel_rfl) (by simp) fun j14 hj14 => ?_
    obtain rfl : j14 = 14 := by simpa using hj14
    refine wpOp_go opsT27_14 rfl fun K1 hK1 => ?_
    unfold Oper.wp
    go_simp
    refine hK1 _ _ ⟨fun _ => hS2, ?_⟩
    clear hK1 K1
    refine wpZ_done (by kernel_rfl) ?_ _
    exact HQ.out _ _ _ _ _ _ _ _ _ _ _ _ _ _ HB2.out
def opsT28 : Array Oper := #[{ dst := some 126, op := Go.Op.move (Go.Operand.tmp 18), type := 31, pos := "law.go:112", after := #[], guard := none }, { dst := some 127, op := Go.Op.move (Go.Operand.tmp 7), type := 30, pos := "law.go:112", after := #[], guard := none }, { dst := some 128, op := Go.Op.move (Go.Operand.tmp 16), type := 3, pos := "law.go:112", after := #[], guard := none }, { dst := some 129, op := Go.Op.indexAddr 30 (Go.Operand.tmp 127) (Go.Operand.tmp 128), type := 0, pos := "law.go:112", after := #[{ on := 1, ground := Go.Ground.data }, { on := 2, ground := Go.Ground.data }], guard := none }, { dst := some 130, op := Go.Op.load 38 (Go.Operand.tmp 129), type := 38, pos := "law.go:112", after := #[{ on := 3, ground := Go.Ground.data }], guard := none }, { dst := some 131, op := Go.Op.move (Go.Operand.tmp 16), type := 3, pos := "law.go:112", after := #[], guard := none }, { dst := some 132, op := Go.Op.move (Go.Operand.tmp 12), type := 22, pos := "law.go:112", after := #[], guard := none }, { dst := some 133, op := Go.Op.move (Go.Operand.tmp 17), type := 3, pos := "law.go:112", after := #[], guard := none }, { dst := some 134, op := Go.Op.call { callee := Go.Callee.value (Go.Operand.func 16), args := #[Go.Operand.tmp 132, Go.Operand.tmp 133], argTypes := #[22, 3] }, type := 22, pos := "law.go:112", after := #[{ on := 6, ground := Go.Ground.data }, { on := 7, ground := Go.Ground.data }], guard := none }, { dst := some 135, op := Go.Op.call { callee := Go.Callee.value (Go.Operand.func 21), args := #[Go.Operand.tmp 126, Go.Operand.tmp 130, Go.Operand.tmp 131, Go.Operand.tmp 134], argTypes := #[31, 38, 3, 22] }, type := 36, pos := "law.go:112", after := #[{ on := 0, ground := Go.Ground.data }, { on := 4, ground := Go.Ground.data }, { on := 5, ground := Go.Ground.data }, { on := 8, ground := Go.Ground.data }, { on := 8, ground := Go.Ground.chain }], guard := none }, { dst := some 125, op := Go.Op.move (Go.Operand.tmp 135), type := 36, pos := "law.go:112", after := #[{ on := 9, ground := Go.Ground.data }], guard := none }, { dst := some 136, op := Go.Op.extract (Go.Operand.tmp 125) 0, type := 31, pos := "law.go:112", after := #[{ on := 10, ground := Go.Ground.data }], guard := none }, { dst := some 137, op := Go.Op.extract (Go.Operand.tmp 125) 1, type := 33, pos := "law.go:112", after := #[{ on := 10, ground := Go.Ground.data }, { on := 13, ground := Go.Ground.gcOnly Go.Departure.lateStores }], guard := none }, { dst := some 23, op := Go.Op.assign (Go.Operand.tmp 136), type := 31, pos := "law.go:112", after := #[{ on := 11, ground := Go.Ground.data }, { on := 9, ground := Go.Ground.chain }, { on := 0, ground := Go.Ground.phase }, { on := 1, ground := Go.Ground.phase }, { on := 2, ground := Go.Ground.phase }, { on := 3, ground := Go.Ground.phase }, { on := 4, ground := Go.Ground.phase }, { on := 5, ground := Go.Ground.phase }, { on := 6, ground := Go.Ground.phase }, { on := 7, ground := Go.Ground.phase }, { on := 8, ground := Go.Ground.phase }, { on := 9, ground := Go.Ground.phase }, { on := 10, ground := Go.Ground.phase }, { on := 11, ground := Go.Ground.phase }, { on := 12, ground := Go.Ground.textOnly Go.Departure.lateStores }], guard := none }, { dst := some 24, op := Go.Op.assign (Go.Operand.tmp 137), type := 33, pos := "law.go:112", after := #[{ on := 12, ground := Go.Ground.data }, { on := 13, ground := Go.Ground.chain }, { on := 0, ground := Go.Ground.phase }, { on := 1, ground := Go.Ground.phase }, { on := 2, ground := Go.Ground.phase }, { on := 3, ground := Go.Ground.phase }, { on := 4, ground := Go.Ground.phase }, { on := 5, ground := Go.Ground.phase }, { on := 6, ground := Go.Ground.phase }, { on := 7, ground := Go.Ground.phase }, { on := 8, ground := Go.Ground.phase }, { on := 9, ground := Go.Ground.phase }, { on := 10, ground := Go.Ground.phase }, { on := 11, ground := Go.Ground.phase }, { on := 12, ground := Go.Ground.phase }, { on := 13, ground := Go.Ground.phase }], guard := none }]
theorem opsT28_0 : opsT28[0]? = some { dst := some 126, op := Go.Op.move (Go.Operand.tmp 18), type := 31, pos := "law.go:112", after := #[], guard := none } := by kernel_rfl
theorem opsT28_1 : opsT28[1]? = some { dst := some 127, op := Go.Op.move (Go.Operand.tmp 7), type := 30, pos := "law.go:112", after := #[], guard := none } := by kernel_rfl
theorem opsT28_2 : opsT28[2]? = some { dst := some 128, op := Go.Op.move (Go.Operand.tmp 16), type := 3, pos := "law.go:112", after := #[], guard := none } := by kernel_rfl
theorem opsT28_3 : opsT28[3]? = some { dst := some 129, op := Go.Op.indexAddr 30 (Go.Operand.tmp 127) (Go.Operand.tmp 128), type := 0, pos := "law.go:112", after := #[{ on := 1, ground := Go.Ground.data }, { on := 2, ground := Go.Ground.data }], guard := none } := by kernel_rfl
theorem opsT28_4 : opsT28[4]? = some { dst := some 130, op := Go.Op.load 38 (Go.Operand.tmp 129), type := 38, pos := "law.go:112", after := #[{ on := 3, ground := Go.Ground.data }], guard := none } := by kernel_rfl
theorem opsT28_5 : opsT28[5]? = some { dst := some 131, op := Go.Op.move (Go.Operand.tmp 16), type := 3, pos := "law.go:112", after := #[], guard := none } := by kernel_rfl
theorem opsT28_6 : opsT28[6]? = some { dst := some 132, op := Go.Op.move (Go.Operand.tmp 12), type := 22, pos := "law.go:112", after := #[], guard := none } := by kernel_rfl
theorem opsT28_7 : opsT28[7]? = some { dst := some 133, op := Go.Op.move (Go.Operand.tmp 17), type := 3, pos := "law.go:112", after := #[], guard := none } := by kernel_rfl
theorem opsT28_8 : opsT28[8]? = some { dst := some 134, op := Go.Op.call { callee := Go.Callee.value (Go.Operand.func 16), args := #[Go.Operand.tmp 132, Go.Operand.tmp 133], argTypes := #[22, 3] }, type := 22, pos := "law.go:112", after := #[{ on := 6, ground := Go.Ground.data }, { on := 7, ground := Go.Ground.data }], guard := none } := by kernel_rfl
theorem opsT28_9 : opsT28[9]? = some { dst := some 135, op := Go.Op.call { callee := Go.Callee.value (Go.Operand.func 21), args := #[Go.Operand.tmp 126, Go.Operand.tmp 130, Go.Operand.tmp 131, Go.Operand.tmp 134], argTypes := #[31, 38, 3, 22] }, type := 36, pos := "law.go:112", after := #[{ on := 0, ground := Go.Ground.data }, { on := 4, ground := Go.Ground.data }, { on := 5, ground := Go.Ground.data }, { on := 8, ground := Go.Ground.data }, { on := 8, ground := Go.Ground.chain }], guard := none } := by kernel_rfl
theorem opsT28_10 : opsT28[10]? = some { dst := some 125, op := Go.Op.move (Go.Operand.tmp 135), type := 36, pos := "law.go:112", after := #[{ on := 9, ground := Go.Ground.data }], guard := none } := by kernel_rfl
theorem opsT28_11 : opsT28[11]? = some { dst := some 136, op := Go.Op.extract (Go.Operand.tmp 125) 0, type := 31, pos := "law.go:112", after := #[{ on := 10, ground := Go.Ground.data }], guard := none } := by kernel_rfl
theorem opsT28_12 : opsT28[12]? = some { dst := some 137, op := Go.Op.extract (Go.Operand.tmp 125) 1, type := 33, pos := "law.go:112", after := #[{ on := 10, ground := Go.Ground.data }, { on := 13, ground := Go.Ground.gcOnly Go.Departure.lateStores }], guard := none } := by kernel_rfl
theorem opsT28_13 : opsT28[13]? = some { dst := some 23, op := Go.Op.assign (Go.Operand.tmp 136), type := 31, pos := "law.go:112", after := #[{ on := 11, ground := Go.Ground.data }, { on := 9, ground := Go.Ground.chain }, { on := 0, ground := Go.Ground.phase }, { on := 1, ground := Go.Ground.phase }, { on := 2, ground := Go.Ground.phase }, { on := 3, ground := Go.Ground.phase }, { on := 4, ground := Go.Ground.phase }, { on := 5, ground := Go.Ground.phase }, { on := 6, ground := Go.Ground.phase }, { on := 7, ground := Go.Ground.phase }, { on := 8, ground := Go.Ground.phase }, { on := 9, ground := Go.Ground.phase }, { on := 10, ground := Go.Ground.phase }, { on := 11, ground := Go.Ground.phase }, { on := 12, ground := Go.Ground.textOnly Go.Departure.lateStores }], guard := none } := by kernel_rfl
theorem opsT28_14 : opsT28[14]? = some { dst := some 24, op := Go.Op.assign (Go.Operand.tmp 137), type := 33, pos := "law.go:112", after := #[{ on := 12, ground := Go.Ground.data }, { on := 13, ground := Go.Ground.chain }, { on := 0, ground := Go.Ground.phase }, { on := 1, ground := Go.Ground.phase }, { on := 2, ground := Go.Ground.phase }, { on := 3, ground := Go.Ground.phase }, { on := 4, ground := Go.Ground.phase }, { on := 5, ground := Go.Ground.phase }, { on := 6, ground := Go.Ground.phase }, { on := 7, ground := Go.Ground.phase }, { on := 8, ground := Go.Ground.phase }, { on := 9, ground := Go.Ground.phase }, { on := 10, ground := Go.Ground.phase }, { on := 11, ground := Go.Ground.phase }, { on := 12, ground := Go.Ground.phase }, { on := 13, ground := Go.Ground.phase }], guard := none } := by kernel_rfl
set_option maxRecDepth 100000 in
set_option maxHeartbeats 1500000 in
theorem regT28 {x0 x1 x2 x3 x4 x5 x6 x8 x9 x10 x11 x13 x14 x15 x19 x20 x21 x22 x23 x24 x25 x26 x27 x28 x29 x30 x31 x32 x33 x34 x35 x36 x37 x38 x39 x40 x41 x42 x43 x44 x45 x46 x47 x48 x49 x50 x51 x52 x53 x54 x55 x56 x57 x58 x59 x60 x61 x62 x63 x64 x65 x66 x67 x68 x69 x70 x71 x72 x73 x74 x75 x76 x77 x78 x79 x80 x81 x82 x83 x84 x85 x86 x87 x88 x89 x90 x91 x92 x93 x94 x95 x96 x97 x98 x99 x100 x101 x102 x103 x104 x105 x106 x107 x108 x109 x110 x111 x112 x113 x114 x115 x116 x117 x118 x119 x120 x121 x122 x123 x124 x125 x126 x127 x128 x129 x130 x131 x132 x133 x134 x135 x136 x137 x138 x139 x140 x141 x142 x143 x144 x145 x146 : Value} {Q : Exit → Act → World → Prop} {V0 : World} {ob oo L oc tg o : Nat} {was to T E : Int} {lv : Value} {ys : List Msg}
    (hS0 : V0.drew.cell? ⟨ob, oo + tg, none⟩ = some (.int .u8 (o : Int))) (htg : tg < L)
    (hF : ∀ W, Below V0.drew.heap.size V0.drew W → Calls Try.prog 16 #[lv, .int .i64 to] W fun e w' => ∃ v', e = .returned v' ∧ SeesM w' v' ys ∧ Below W.heap.size W w')
    (hT : ∀ W v', SeesM W v' ys → Calls Try.prog 21 #[.int .i64 was, .int .u8 (o : Int), .int .i64 (tg : Int), v'] W fun e w' => e = .returned (.tuple #[.int .i64 T, .int .i64 E]) ∧ Below W.heap.size W w')
    (hpan : ∀ c (a : Act) w (dd : Tmp) vv, Q (.panic c) (a.put (some dd) vv) w → Q (.panic c) a w)
    (hQ : ∀ (W : World) (t125 t126 t127 t128 t129 t130 t131 t132 t133 t134 t135 t136 t137 : Value), Below V0.drew.heap.size V0.drew W → Q .normal { tmps := #[x0, x1, x2, x3, x4, x5, x6, .slice (some ⟨ob, oo, none⟩) L oc, x8, x9, x10, x11, lv, x13, x14, x15, .int .i64 (tg : Int), .int .i64 to, .int .i64 was, x19, x20, x21, x22, .int .i64 T, .int .i64 E, x25, x26, x27, x28, x29, x30, x31, x32, x33, x34, x35, x36, x37, x38, x39, x40, x41, x42, x43, x44, x45, x46, x47, x48, x49, x50, x51, x52, x53, x54, x55, x56, x57, x58, x59, x60, x61, x62, x63, x64, x65, x66, x67, x68, x69, x70, x71, x72, x73, x74, x75, x76, x77, x78, x79, x80, x81, x82, x83, x84, x85, x86, x87, x88, x89, x90, x91, x92, x93, x94, x95, x96, x97, x98, x99, x100, x101, x102, x103, x104, x105, x106, x107, x108, x109, x110, x111, x112, x113, x114, x115, x116, x117, x118, x119, x120, x121, x122, x123, x124, t125, t126, t127, t128, t129, t130, t131, t132, t133, t134, t135, t136, t137, x138, x139, x140, x141, x142, x143, x144, x145, x146], defers := [] } W) :
    (Code.region 28 opsT28 true).wp Try.prog Q { tmps := #[x0, x1, x2, x3, x4, x5, x6, .slice (some ⟨ob, oo, none⟩) L oc, x8, x9, x10, x11, lv, x13, x14, x15, .int .i64 (tg : Int), .int .i64 to, .int .i64 was, x19, x20, x21, x22, x23, x24, x25, x26, x27, x28, x29, x30, x31, x32, x33, x34, x35, x36, x37, x38, x39, x40, x41, x42, x43, x44, x45, x46, x47, x48, x49, x50, x51, x52, x53, x54, x55, x56, x57, x58, x59, x60, x61, x62, x63, x64, x65, x66, x67, x68, x69, x70, x71, x72, x73, x74, x75, x76, x77, x78, x79, x80, x81, x82, x83, x84, x85, x86, x87, x88, x89, x90, x91, x92, x93, x94, x95, x96, x97, x98, x99, x100, x101, x102, x103, x104, x105, x106, x107, x108, x109, x110, x111, x112, x113, x114, x115, x116, x117, x118, x119, x120, x121, x122, x123, x124, x125, x126, x127, x128, x129, x130, x131, x132, x133, x134, x135, x136, x137, x138, x139, x140, x141, x142, x143, x144, x145, x146], defers := [] } V0 := by
  refine wp_region_Z (fun y => y.cell? ⟨ob, oo + tg, none⟩ = some (.int .u8 (o : Int))) 14 Try.mixed ?_
  obtain ⟨V, hV⟩ : ∃ V, V0.drew = V := ⟨_, rfl⟩
  rw [hV] at hS0 hF hQ ⊢
  clear hV
  have HQ := hidI hQ
  have HPan := hidI hpan
  have HF := hidI hF
  have HT := hidI hT
  have kq : (tg : Int) < (L : Int) := by omega
  clear hQ hpan hF hT
  refine wpZ_take [14] (i := 0) (v := (.int .i64 was)) opsT28_0 (by kernel_rfl) (by kernel_rfl) (by kernel_rfl) (by kernel_rfl) (fun c a w h => HPan.out c a w _ _ h) (.inl ⟨by rfl, fun y hy => ?_⟩) hS0 ?_
  · go_simp
  refine wpZ_take [14] (i := 1) (v := (.slice (some ⟨ob, oo, none⟩) L oc)) opsT28_1 (by kernel_rfl) (by kernel_rfl) (by kernel_rfl) (by kernel_rfl) (fun c a w h => HPan.out c a w _ _ h) (.inl ⟨by rfl, fun y hy => ?_⟩) hS0 ?_
  · go_simp
  refine wpZ_take [14] (i := 2) (v := (.int .i64 (tg : Int))) opsT28_2 (by kernel_rfl) (by kernel_rfl) (by kernel_rfl) (by kernel_rfl) (fun c a w h => HPan.out c a w _ _ h) (.inl ⟨by rfl, fun y hy => ?_⟩) hS0 ?_
  · go_simp
  refine wpZ_take [14] (i := 3) (v := (.pointer (some ⟨ob, oo + tg, none⟩))) opsT28_3 (by kernel_rfl) (by kernel_rfl) (by kernel_rfl) (by kernel_rfl) (fun c a w h => HPan.out c a w _ _ h) (.inl ⟨by rfl, fun y hy => ?_⟩) hS0 ?_
  · go_simp
  refine wpZ_take [14] (i := 4) (v := (.int .u8 (o : Int))) opsT28_4 (by kernel_rfl) (by kernel_rfl) (by kernel_rfl) (by kernel_rfl) (fun c a w h => HPan.out c a w _ _ h) (.inl ⟨by rfl, fun y hy => ?_⟩) hS0 ?_
  · go_simp
  refine wpZ_take [14] (i := 5) (v := (.int .i64 (tg : Int))) opsT28_5 (by kernel_rfl) (by kernel_rfl) (by kernel_rfl) (by kernel_rfl) (fun c a w h => HPan.out c a w _ _ h) (.inl ⟨by rfl, fun y hy => ?_⟩) hS0 ?_
  · go_simp
  refine wpZ_take [14] (i := 6) (v := lv) opsT28_6 (by kernel_rfl) (by kernel_rfl) (by kernel_rfl) (by kernel_rfl) (fun c a w h => HPan.out c a w _ _ h) (.inl ⟨by rfl, fun y hy => ?_⟩) hS0 ?_
  · go_simp
  refine wpZ_take [14] (i := 7) (v := (.int .i64 to)) opsT28_7 (by kernel_rfl) (by kernel_rfl) (by kernel_rfl) (by kernel_rfl) (fun c a w h => HPan.out c a w _ _ h) (.inl ⟨by rfl, fun y hy => ?_⟩) hS0 ?_
  · go_simp
  have HKS : Hid (∀ y : World, Below V.heap.size V y → y.cell? ⟨ob, oo + tg, none⟩ = some (.int .u8 (o : Int))) := hidI fun y hy => (hy.cell (p := ⟨ob, oo + tg, none⟩) (World.block_lt_of_cell? V _ hS0)).trans hS0
  refine wpZ_all (rs := [8]) (by kernel_rfl) (by simp) fun j8 hj8 => ?_
  obtain rfl : j8 = 8 := by simpa using hj8
  refine wpOp_go opsT28_8 rfl fun K1 hK1 => ?_
  unfold Oper.wp
  go_simp
  refine Calls.mono (HF.out V (Below.refl _ _)) ?_
  rintro e W1 ⟨v1, rfl, hs1, hb1⟩
  have HB1 := hidI hb1
  have hS1 := HKS.out W1 hb1
  have CT := hidI (HT.out W1 v1 hs1)
  clear hb1 hs1
  refine hK1 _ _ ⟨fun _ => hS1, ?_⟩
  clear hK1 K1
  refine wpZ_all (rs := [9]) (by kernel_rfl) (by simp) fun j9 hj9 => ?_
  obtain rfl : j9 = 9 := by simpa using hj9
  refine wpOp_go opsT28_9 rfl fun K1 hK1 => ?_
  unfold Oper.wp
  go_simp
  refine Calls.mono CT.out ?_
  rintro e W2 ⟨rfl, hb2⟩
  have HB2 := hidI (HB1.out.trans (hb2.mono HB1.out.size))
  have hS2 := HKS.out W2 HB2.out
  clear hb2 CT
  refine hK1 _ _ ⟨fun _ => hS2, ?_⟩
  clear hK1 K1
  refine wpZ_all (rs := [10]) (by kernel_rfl) (by simp) fun j10 hj10 => ?_
  obtain rfl : j10 = 10 := by simpa using hj10
  refine wpOp_go opsT28_10 rfl fun K1 hK1 => ?_
  unfold Oper.wp
  go_simp
  refine hK1 _ _ ⟨fun _ => hS2, ?_⟩
  clear hK1 K1
  refine wpZ_all (rs := [11, 12]) (by kernel_rfl) (by simp) fun q1 hq1 => ?_
  have hq1' : q1 = 11 ∨ q1 = 12 := by simp only [List.mem_cons, List.mem_nil_iff, or_false] at hq1; omega
  clear hq1
  rcases hq1' with rfl | rfl
  · refine wpOp_go opsT28_11 rfl fun K1 hK1 => ?_
    unfold Oper.wp
    go_simp
    refine hK1 _ _ ⟨fun _ => hS2, ?_⟩
    clear hK1 K1
    refine wpZ_all (rs := [12, 13]) (by kernel_rfl) (by simp) fun q2 hq2 => ?_
    have hq2' : q2 = 12 ∨ q2 = 13 := by simp only [List.mem_cons, List.mem_nil_iff, or_false] at hq2; omega
    clear hq2
    rcases hq2' with rfl | rfl
    · refine wpOp_go opsT28_12 rfl fun K1 hK1 => ?_
      unfold Oper.wp
      go_simp
      refine hK1 _ _ ⟨fun _ => hS2, ?_⟩
      clear hK1 K1
      refine wpZ_all (rs := [13]) (by kernel_rfl) (by simp) fun j13 hj13 => ?_
      obtain rfl : j13 = 13 := by simpa using hj13
      refine wpOp_go opsT28_13 rfl fun K1 hK1 => ?_
      unfold Oper.wp
      go_simp
      refine hK1 _ _ ⟨fun _ => hS2, ?_⟩
      clear hK1 K1
      refine wpZ_all (rs := [14]) (by kernel_rfl) (by simp) fun j14 hj14 => ?_
      obtain rfl : j14 = 14 := by simpa using hj14
      refine wpOp_go opsT28_14 rfl fun K1 hK1 => ?_
      unfold Oper.wp
      go_simp
      refine hK1 _ _ ⟨fun _ => hS2, ?_⟩
      clear hK1 K1
      refine wpZ_done (by kernel_rfl) ?_ _
      exact HQ.out _ _ _ _ _ _ _ _ _ _ _ _ _ _ HB2.out
    · refine wpOp_go opsT28_13 rfl fun K1 hK1 => ?_
      unfold Oper.wp
      go_simp
      refine hK1 _ _ ⟨fun _ => hS2, ?_⟩
      clear hK1 K1
      refine wpZ_all (rs := [12]) (by kernel_rfl) (by simp) fun j12 hj12 => ?_
      obtain rfl : j12 = 12 := by simpa using hj12
      refine wpOp_go opsT28_12 rfl fun K1 hK1 => ?_
      unfold Oper.wp
      go_simp
      refine hK1 _ _ ⟨fun _ => hS2, ?_⟩
      clear hK1 K1
      refine wpZ_all (rs := [14]) (by kernel_rfl) (by simp) fun j14 hj14 => ?_
      obtain rfl : j14 = 14 := by simpa using hj14
      refine wpOp_go opsT28_14 rfl fun K1 hK1 => ?_
      unfold Oper.wp
      go_simp
      refine hK1 _ _ ⟨fun _ => hS2, ?_⟩
      clear hK1 K1
      refine wpZ_done (by kernel_rfl) ?_ _
      exact HQ.out _ _ _ _ _ _ _ _ _ _ _ _ _ _ HB2.out
  · refine wpOp_go opsT28_12 rfl fun K1 hK1 => ?_
    unfold Oper.wp
    go_simp
    refine hK1 _ _ ⟨fun _ => hS2, ?_⟩
    clear hK1 K1
    refine wpZ_all (rs := [11]) (by kernel_rfl) (by simp) fun j11 hj11 => ?_
    obtain rfl : j11 = 11 := by simpa using hj11
    refine wpOp_go opsT28_11 rfl fun K1 hK1 => ?_
    unfold Oper.wp
    go_simp
    refine hK1 _ _ ⟨fun _ => hS2, ?_⟩
    clear hK1 K1
    refine wpZ_all (rs := [13]) (by kernel_rfl) (by simp) fun j13 hj13 => ?_
    obtain rfl : j13 = 13 := by simpa using hj13
    refine wpOp_go opsT28_13 rfl fun K1 hK1 => ?_
    unfold Oper.wp
    go_simp
    refine hK1 _ _ ⟨fun _ => hS2, ?_⟩
    clear hK1 K1
    refine wpZ_all (rs := [14]) (by kernel_rfl) (by simp) fun j14 hj14 => ?_
    obtain rfl : j14 = 14 := by simpa using hj14
    refine wpOp_go opsT28_14 rfl fun K1 hK1 => ?_
    unfold Oper.wp
    go_simp
    refine hK1 _ _ ⟨fun _ => hS2, ?_⟩
    clear hK1 K1
    refine wpZ_done (by kernel_rfl) ?_ _
    exact HQ.out _ _ _ _ _ _ _ _ _ _ _ _ _ _ HB2.out
end Go.Proofs.Ytdfieflcclbgjaa
