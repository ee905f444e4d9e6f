/-
  Keys, and one more behind them, appended to a row of its own, in whatever order.
-/
import Derived.Test.YtbjoljokdjgbnabGF
import Derived.Test.YtbjoljokdjgbnabSameKWM
namespace Go.Proofs.Ytbjoljokdjgbnab
open Go.RowKit Go.Deep Go.MapKept
theorem seesK_grown {w w' : World} {v : Value} {ks : List Ky} {row : Option Nat} (h : SeesK w v ks) (hg : w.grownBy w' row) (hne : v.ownBlock ≠ row) : SeesK w' v ks := by
  obtain ⟨a, cap, rfl, h⟩ := h
  refine ⟨a, cap, rfl, h.imp_right ?_⟩
  rintro ⟨b, off, rfl, hl⟩
  exact ⟨b, off, rfl, fun j k hk => ⟨hg.cell (hl j k hk).1 (by simpa [Value.ownBlock] using hne), hg.cell (hl j k hk).2 (by simpa [Value.ownBlock] using hne)⟩⟩
def ops4 : Array Oper := #[{ dst := some 22, op := Go.Op.buildSlice 58 0 #[], type := 58, pos := "law.go:62", after := #[], guard := none }, { dst := some 23, op := Go.Op.move (Go.Operand.tmp 7), type := 58, pos := "law.go:62", after := #[], guard := none }, { dst := some 24, op := Go.Op.call { callee := Go.Callee.builtin Go.Builtin.append, args := #[Go.Operand.tmp 22, Go.Operand.tmp 23], argTypes := #[58, 58] }, type := 58, pos := "law.go:62", after := #[{ on := 0, ground := Go.Ground.data }, { on := 1, ground := Go.Ground.data }], guard := none }, { dst := some 25, op := Go.Op.load 40 (Go.Operand.tmp 5), type := 40, pos := "law.go:62", after := #[], guard := none }, { dst := some 26, op := Go.Op.buildSlice 58 1 #[(0, Go.Operand.tmp 25)], type := 58, pos := "law.go:62", after := #[{ on := 3, ground := Go.Ground.data }], guard := none }, { dst := some 27, op := Go.Op.call { callee := Go.Callee.builtin Go.Builtin.append, args := #[Go.Operand.tmp 24, Go.Operand.tmp 26], argTypes := #[58, 58] }, type := 58, pos := "law.go:62", after := #[{ on := 2, ground := Go.Ground.data }, { on := 4, ground := Go.Ground.data }, { on := 2, ground := Go.Ground.chain }], guard := none }, { dst := some 7, op := Go.Op.assign (Go.Operand.tmp 27), type := 58, pos := "law.go:62", after := #[{ on := 5, ground := Go.Ground.data }, { on := 5, ground := Go.Ground.chain }, { on := 0, ground := Go.Ground.phase }, { on := 1, ground := Go.Ground.phase }, { on := 2, ground := Go.Ground.phase }, { on := 3, ground := Go.Ground.phase }, { on := 4, ground := Go.Ground.phase }, { on := 5, ground := Go.Ground.phase }], guard := none }]
theorem q0 : ops4[0]? = some { dst := some 22, op := Go.Op.buildSlice 58 0 #[], type := 58, pos := "law.go:62", after := #[], guard := none } := by kernel_rfl
theorem q1 : ops4[1]? = some { dst := some 23, op := Go.Op.move (Go.Operand.tmp 7), type := 58, pos := "law.go:62", after := #[], guard := none } := by kernel_rfl
theorem q2 : ops4[2]? = some { dst := some 24, op := Go.Op.call { callee := Go.Callee.builtin Go.Builtin.append, args := #[Go.Operand.tmp 22, Go.Operand.tmp 23], argTypes := #[58, 58] }, type := 58, pos := "law.go:62", after := #[{ on := 0, ground := Go.Ground.data }, { on := 1, ground := Go.Ground.data }], guard := none } := by kernel_rfl
theorem q3 : ops4[3]? = some { dst := some 25, op := Go.Op.load 40 (Go.Operand.tmp 5), type := 40, pos := "law.go:62", after := #[], guard := none } := by kernel_rfl
theorem q4 : ops4[4]? = some { dst := some 26, op := Go.Op.buildSlice 58 1 #[(0, Go.Operand.tmp 25)], type := 58, pos := "law.go:62", after := #[{ on := 3, ground := Go.Ground.data }], guard := none } := by kernel_rfl
theorem q5 : ops4[5]? = some { dst := some 27, op := Go.Op.call { callee := Go.Callee.builtin Go.Builtin.append, args := #[Go.Operand.tmp 24, Go.Operand.tmp 26], argTypes := #[58, 58] }, type := 58, pos := "law.go:62", after := #[{ on := 2, ground := Go.Ground.data }, { on := 4, ground := Go.Ground.data }, { on := 2, ground := Go.Ground.chain }], guard := none } := by kernel_rfl
theorem q6 : ops4[6]? = some { dst := some 7, op := Go.Op.assign (Go.Operand.tmp 27), type := 58, pos := "law.go:62", after := #[{ on := 5, ground := Go.Ground.data }, { on := 5, ground := Go.Ground.chain }, { on := 0, ground := Go.Ground.phase }, { on := 1, ground := Go.Ground.phase }, { on := 2, ground := Go.Ground.phase }, { on := 3, ground := Go.Ground.phase }, { on := 4, ground := Go.Ground.phase }, { on := 5, ground := Go.Ground.phase }], guard := none } := by kernel_rfl
set_option maxRecDepth 100000 in
set_option maxHeartbeats 1500000 in
theorem reg4 {x0 x1 x2 x3 x4 x6 x8 x9 x10 x11 x12 x13 x14 x15 x16 x17 x18 x19 x20 x21 x28 x29 x30 x31 x32 x33 x34 x35 x36 x37 x38 x39 x40 x41 x42 x43 x44 x45 x46 x47 x48 x49 x50 x51 x52 x53 x54 x55 x56 x57 x58 x59 x60 x61 x62 x63 x64 x65 x66 x67 x68 x69 x70 x71 x72 x73 x74 x75 x76 x77 x78 x79 x80 x81 x82 x83 x84 x85 x86 x87 x88 x89 x90 x91 x92 x93 x94 x95 x96 x97 x98 x99 x100 x101 x102 x103 x104 x105 : Value} {Q : Exit → Act → World → Prop} {V0 : World} {kb : Nat} {kv : Value} {ks : List Ky} {s : ByteArray} {d : Int}
    (hS0 : V0.drew.cell? ⟨kb, 0, none⟩ = some (.string s) ∧ V0.drew.cell? ⟨kb, 1, none⟩ = some (.int .u8 d)) (hSK : SeesK V0.drew kv ks) (hl : ks.length ≤ 1000) (hpan : ∀ c (a : Act) w (dd : Tmp) vv, Q (.panic c) (a.put (some dd) vv) w → Q (.panic c) a w)
    (hQ : ∀ (W6 : World) (v27 t22 t23 t24 t25 t26 t27 : Value), Below V0.drew.heap.size V0.drew W6 → W6.ownsRow V0.drew.heap.size 40 2 v27 (ks ++ [(s, d)]).length (flatY (ks ++ [(s, d)])) → Q .normal { tmps := #[x0, x1, x2, x3, x4, .pointer (some ⟨kb, 0, none⟩), x6, v27, x8, x9, x10, x11, x12, x13, x14, x15, x16, x17, x18, x19, x20, x21, t22, t23, t24, t25, t26, t27, x28, x29, x30, x31, x32, x33, x34, x35, x36, x37, x38, x39, x40, x41, x42, x43, x44, x45, x46, x47, x48, x49, x50, x51, x52, x53, x54, x55, x56, x57, x58, x59, x60, x61, x62, x63, x64, x65, x66, x67, x68, x69, x70, x71, x72, x73, x74, x75, x76, x77, x78, x79, x80, x81, x82, x83, x84, x85, x86, x87, x88, x89, x90, x91, x92, x93, x94, x95, x96, x97, x98, x99, x100, x101, x102, x103, x104, x105], defers := [] } W6) :
    (Code.region 4 ops4 true).wp Try.prog Q { tmps := #[x0, x1, x2, x3, x4, .pointer (some ⟨kb, 0, none⟩), x6, kv, x8, x9, x10, x11, x12, x13, x14, x15, x16, x17, x18, x19, x20, x21, undef, undef, undef, undef, undef, undef, x28, x29, x30, x31, x32, x33, x34, x35, x36, x37, x38, x39, x40, x41, x42, x43, x44, x45, x46, x47, x48, x49, x50, x51, x52, x53, x54, x55, x56, x57, x58, x59, x60, x61, x62, x63, x64, x65, x66, x67, x68, x69, x70, x71, x72, x73, x74, x75, x76, x77, x78, x79, x80, x81, x82, x83, x84, x85, x86, x87, x88, x89, x90, x91, x92, x93, x94, x95, x96, x97, x98, x99, x100, x101, x102, x103, x104, x105], defers := [] } V0 := by
  refine wp_region_Z (fun y => y.cell? ⟨kb, 0, none⟩ = some (.string s) ∧ y.cell? ⟨kb, 1, none⟩ = some (.int .u8 d)) 6 Try.mixed ?_
  obtain ⟨V, hV⟩ : ∃ V, V0.drew = V := ⟨_, rfl⟩
  rw [hV] at hS0 hSK hQ ⊢
  clear hV
  have HSK := hidI hSK
  have HQ := hidI hQ
  have HPan := hidI hpan
  clear hSK hQ hpan
  refine wpZ_take [2, 5, 6] (i := 1) (v := kv) q1 (by kernel_rfl) (by kernel_rfl) (by kernel_rfl) (by kernel_rfl) (fun c a w h => HPan.out c a w _ _ h) (.inl ⟨by rfl, fun y hy => ?_⟩) hS0 ?_
  · go_simp
  refine wpZ_take [4, 5, 6] (i := 3) (v := (.agg #[.string s, .int .u8 d])) q3 (by kernel_rfl) (by kernel_rfl) (by kernel_rfl) (by kernel_rfl) (fun c a w h => HPan.out c a w _ _ h) (.inl ⟨by rfl, fun y hy => ?_⟩) hS0 ?_
  · obtain ⟨y0, y1⟩ := hy; go_simp
  have HKS : Hid (∀ y : World, Below V.heap.size V y → y.cell? ⟨kb, 0, none⟩ = some (.string s) ∧ y.cell? ⟨kb, 1, none⟩ = some (.int .u8 d)) := hidI fun y hy => by
    have z : ∀ {p : Addr} {v : Value}, V.cell? p = some v → y.cell? p = some v := fun {p v} hc => (hy.cell (World.block_lt_of_cell? V _ hc)).trans hc
    exact ⟨z hS0.1, z hS0.2⟩
  have HOI : Hid (((V.alloc (Obj.cells #[] 40)).alloc (Obj.cells #[.string s, .int .u8 d] 40)).ownsRow V.heap.size 40 2 (.slice (some ⟨V.heap.size, 0, none⟩) 0 0) 0 []) := hidI ((World.ownsRow_made (base := V.heap.size) (e := 40) (size := 2)  V #[] 0 (Nat.le_refl _) (by unfold maxLen; omega) rfl).alloc _)
  have HOII : Hid ((V.alloc (Obj.cells #[] 40)).ownsRow V.heap.size 40 2 (.slice (some ⟨V.heap.size, 0, none⟩) 0 0) 0 []) := hidI (World.ownsRow_made (base := V.heap.size) (e := 40) (size := 2)  V #[] 0 (Nat.le_refl _) (by unfold maxLen; omega) rfl)
  have HOIII : Hid (((V.alloc (Obj.cells #[.string s, .int .u8 d] 40)).alloc (Obj.cells #[] 40)).ownsRow V.heap.size 40 2 (.slice (some ⟨V.heap.size + 1, 0, none⟩) 0 0) 0 []) := hidI (by
    have := World.ownsRow_made (base := V.heap.size) (e := 40) (size := 2)  (V.alloc (Obj.cells #[.string s, .int .u8 d] 40)) #[] 0 (by simp) (by unfold maxLen; omega) rfl
    rwa [World.size_alloc] at this)
  refine wpZ_all (rs := [0, 4]) (by kernel_rfl) (by simp) fun j0 hj0 => ?_
  have hj01 : j0 = 0 ∨ j0 = 4 := by simpa using hj0
  clear hj0
  rcases hj01 with rfl | rfl
  · refine wpOp_go q0 rfl fun K1 hK1 => ?_
    unfold Oper.wp
    go_simp
    refine hK1 _ _ ⟨fun _ => HKS.out _ (by (repeat (first | exact Below.refl _ _ | assumption | refine Below.drew ?_ | refine Below.alloc ?_ (by first | omega | (simp; done) | (simp; omega)) _))), ?_⟩
    clear hK1 K1
    refine wpZ_all (rs := [2, 4]) (by kernel_rfl) (by simp) fun j1 hj1 => ?_
    have hj11 : j1 = 2 ∨ j1 = 4 := by simpa using hj1
    have hj12 : j1 = 4 ∨ j1 = 2 := hj11.symm
    clear hj1 hj11
    rcases hj12 with rfl | rfl
    · refine wpOp_go q4 rfl fun K1 hK1 => ?_
      unfold Oper.wp
      go_simp
      refine hK1 _ _ ⟨fun _ => HKS.out _ (by (repeat (first | exact Below.refl _ _ | assumption | refine Below.drew ?_ | refine Below.alloc ?_ (by first | omega | (simp; done) | (simp; omega)) _))), ?_⟩
      clear hK1 K1
      refine wpZ_all (rs := [2]) (by kernel_rfl) (by simp) fun j2 hj2 => ?_
      obtain rfl : j2 = 2 := by simpa using hj2
      refine wpOp_go q2 rfl fun K1 hK1 => ?_
      refine wp_append_keys _ _ rfl V.heap.size (.slice (some ⟨V.heap.size, 0, none⟩) 0 0) 0 [] rfl HOI.out kv ks rfl (HSK.out.below (B := V.heap.size) (by (repeat (first | exact Below.refl _ _ | assumption | refine Below.drew ?_ | refine Below.alloc ?_ (by first | omega | (simp; done) | (simp; omega)) _))) (Nat.le_refl _)) (by omega) (by simp only [World.size_alloc]; omega) ?_
      intro v24 W3 hown3 hgrow3 hat3
      rw [Nat.zero_add, List.nil_append] at hown3
      have hB3 : Below V.heap.size V W3 := Below.grown (w := (V.alloc (Obj.cells #[] 40)).alloc (Obj.cells #[.string s, .int .u8 d] 40)) (by (repeat (first | exact Below.refl _ _ | assumption | refine Below.drew ?_ | refine Below.alloc ?_ (by first | omega | (simp; done) | (simp; omega)) _))) hgrow3 (by simp only [World.size_alloc]; omega) (fun k hk => ((HOI.out).lt k hk).1)
      have HO24 : Hid (W3.ownsRow V.heap.size 40 2 v24 ks.length (flatY ks)) := hidI hown3
      have HS26 : Hid (SeesK W3 (.slice (some ⟨V.heap.size + 1, 0, none⟩) 1 1) [(s, d)]) := hidI (seesK_grown (by have := key_seen (W := V.alloc (Obj.cells #[] 40)) s d; rwa [World.size_alloc] at this) hgrow3 (by simp [Value.ownBlock]))
      have HBF := hidI hB3
      refine hK1 _ _ ⟨fun _ => HKS.out _ HBF.out, ?_⟩
      clear hK1 K1 hown3 hgrow3 hat3 hB3
      refine wpZ_all (rs := [5]) (by kernel_rfl) (by simp) fun j5 hj5 => ?_
      obtain rfl : j5 = 5 := by simpa using hj5
      refine wpOp_go q5 rfl fun K1 hK1 => ?_
      refine wp_append_keys _ _ rfl V.heap.size v24 ks.length (flatY ks) rfl HO24.out _ [(s, d)] rfl HS26.out (by simp only [List.length_cons, List.length_nil]; omega) HBF.out.size ?_
      intro v27 W5 hown5 hgrow5 hat5
      have HB5 : Hid (Below V.heap.size V W5) := hidI (HBF.out.grown hgrow5 HBF.out.size (fun k hk => (HO24.out.lt k hk).1))
      have HO27 : Hid (W5.ownsRow V.heap.size 40 2 v27 (ks ++ [(s, d)]).length (flatY (ks ++ [(s, d)]))) := hidI (by rw [flatY_append, List.length_append]; exact hown5)
      refine hK1 _ _ ⟨fun _ => HKS.out _ HB5.out, ?_⟩
      clear hK1 K1 hown5 hgrow5 hat5 HO24 HS26 HBF
      refine wpZ_last (by kernel_rfl) (by kernel_rfl) ?_ _
      refine wpOp_go q6 rfl fun K1 hK1 => ?_
      unfold Oper.wp
      go_simp
      refine hK1 _ _ ?_
      exact HQ.out _ _ _ _ _ _ _ _ HB5.out HO27.out
    · refine wpOp_go q2 rfl fun K1 hK1 => ?_
      refine wp_append_keys _ _ rfl V.heap.size (.slice (some ⟨V.heap.size, 0, none⟩) 0 0) 0 [] rfl HOII.out kv ks rfl (HSK.out.below (B := V.heap.size) (by (repeat (first | exact Below.refl _ _ | assumption | refine Below.drew ?_ | refine Below.alloc ?_ (by first | omega | (simp; done) | (simp; omega)) _))) (Nat.le_refl _)) (by omega) (by simp only [World.size_alloc]; omega) ?_
      intro v24 W3 hown3 hgrow3 hat3
      rw [Nat.zero_add, List.nil_append] at hown3
      have hB3 : Below V.heap.size V W3 := Below.grown (w := V.alloc (Obj.cells #[] 40)) (by (repeat (first | exact Below.refl _ _ | assumption | refine Below.drew ?_ | refine Below.alloc ?_ (by first | omega | (simp; done) | (simp; omega)) _))) hgrow3 (by simp only [World.size_alloc]; omega) (fun k hk => ((HOII.out).lt k hk).1)
      have HO24 : Hid (W3.ownsRow V.heap.size 40 2 v24 ks.length (flatY ks)) := hidI hown3
      refine hK1 _ _ ⟨fun _ => HKS.out _ hB3, ?_⟩
      clear hK1 K1
      refine wpZ_all (rs := [4]) (by kernel_rfl) (by simp) fun j4 hj4 => ?_
      obtain rfl : j4 = 4 := by simpa using hj4
      refine wpOp_go q4 rfl fun K1 hK1 => ?_
      unfold Oper.wp
      go_simp
      have HB4 : Hid (Below V.heap.size V (W3.alloc (Obj.cells #[.string s, .int .u8 d] 40))) := hidI (hB3.alloc hB3.size _)
      have HO24b : Hid ((W3.alloc (Obj.cells #[.string s, .int .u8 d] 40)).ownsRow V.heap.size 40 2 v24 ks.length (flatY ks)) := hidI (HO24.out.alloc _)
      have HS26 : Hid (SeesK (W3.alloc (Obj.cells #[.string s, .int .u8 d] 40)) (.slice (some ⟨W3.heap.size, 0, none⟩) 1 1) [(s, d)]) := hidI (key_seen (W := W3) s d)
      refine hK1 _ _ ⟨fun _ => HKS.out _ HB4.out, ?_⟩
      clear hK1 K1 HO24 hown3 hgrow3 hat3
      generalize W3.heap.size = gx at *
      generalize W3.alloc (Obj.cells #[.string s, .int .u8 d] 40) = W4 at *
      have HO24 := HO24b
      have HBF := HB4
      refine wpZ_all (rs := [5]) (by kernel_rfl) (by simp) fun j5 hj5 => ?_
      obtain rfl : j5 = 5 := by simpa using hj5
      refine wpOp_go q5 rfl fun K1 hK1 => ?_
      refine wp_append_keys _ _ rfl V.heap.size v24 ks.length (flatY ks) rfl HO24.out _ [(s, d)] rfl HS26.out (by simp only [List.length_cons, List.length_nil]; omega) HBF.out.size ?_
      intro v27 W5 hown5 hgrow5 hat5
      have HB5 : Hid (Below V.heap.size V W5) := hidI (HBF.out.grown hgrow5 HBF.out.size (fun k hk => (HO24.out.lt k hk).1))
      have HO27 : Hid (W5.ownsRow V.heap.size 40 2 v27 (ks ++ [(s, d)]).length (flatY (ks ++ [(s, d)]))) := hidI (by rw [flatY_append, List.length_append]; exact hown5)
      refine hK1 _ _ ⟨fun _ => HKS.out _ HB5.out, ?_⟩
      clear hK1 K1 hown5 hgrow5 hat5 HO24 HS26 HBF
      refine wpZ_last (by kernel_rfl) (by kernel_rfl) ?_ _
      refine wpOp_go q6 rfl fun K1 hK1 => ?_
      unfold Oper.wp
      go_simp
      refine hK1 _ _ ?_
      exact HQ.out _ _ _ _ _ _ _ _ HB5.out HO27.out
  · refine wpOp_go q4 rfl fun K1 hK1 => ?_
    unfold Oper.wp
    go_simp
    refine hK1 _ _ ⟨fun _ => HKS.out _ (by (repeat (first | exact Below.refl _ _ | assumption | refine Below.drew ?_ | refine Below.alloc ?_ (by first | omega | (simp; done) | (simp; omega)) _))), ?_⟩
    clear hK1 K1
    refine wpZ_all (rs := [0]) (by kernel_rfl) (by simp) fun j0 hj0 => ?_
    obtain rfl : j0 = 0 := by simpa using hj0
    refine wpOp_go q0 rfl fun K1 hK1 => ?_
    unfold Oper.wp
    go_simp
    refine hK1 _ _ ⟨fun _ => HKS.out _ (by (repeat (first | exact Below.refl _ _ | assumption | refine Below.drew ?_ | refine Below.alloc ?_ (by first | omega | (simp; done) | (simp; omega)) _))), ?_⟩
    clear hK1 K1
    refine wpZ_all (rs := [2]) (by kernel_rfl) (by simp) fun j2 hj2 => ?_
    obtain rfl : j2 = 2 := by simpa using hj2
    refine wpOp_go q2 rfl fun K1 hK1 => ?_
    refine wp_append_keys _ _ rfl V.heap.size (.slice (some ⟨V.heap.size + 1, 0, none⟩) 0 0) 0 [] rfl HOIII.out kv ks rfl (HSK.out.below (B := V.heap.size) (by (repeat (first | exact Below.refl _ _ | assumption | refine Below.drew ?_ | refine Below.alloc ?_ (by first | omega | (simp; done) | (simp; omega)) _))) (Nat.le_refl _)) (by omega) (by simp only [World.size_alloc]; omega) ?_
    intro v24 W3 hown3 hgrow3 hat3
    rw [Nat.zero_add, List.nil_append] at hown3
    have hB3 : Below V.heap.size V W3 := Below.grown (w := (V.alloc (Obj.cells #[.string s, .int .u8 d] 40)).alloc (Obj.cells #[] 40)) (by (repeat (first | exact Below.refl _ _ | assumption | refine Below.drew ?_ | refine Below.alloc ?_ (by first | omega | (simp; done) | (simp; omega)) _))) hgrow3 (by simp only [World.size_alloc]; omega) (fun k hk => ((HOIII.out).lt k hk).1)
    have HO24 : Hid (W3.ownsRow V.heap.size 40 2 v24 ks.length (flatY ks)) := hidI hown3
    have HS26 : Hid (SeesK W3 (.slice (some ⟨V.heap.size, 0, none⟩) 1 1) [(s, d)]) := hidI (seesK_grown (seesK_grown (key_seen (W := V) s d) (World.grownBy_alloc _ (Obj.cells #[] 40) (some (V.heap.size + 1))) (by simp [Value.ownBlock])) hgrow3 (by simp [Value.ownBlock]))
    have HBF := hidI hB3
    refine hK1 _ _ ⟨fun _ => HKS.out _ HBF.out, ?_⟩
    clear hK1 K1 hown3 hgrow3 hat3 hB3
    refine wpZ_all (rs := [5]) (by kernel_rfl) (by simp) fun j5 hj5 => ?_
    obtain rfl : j5 = 5 := by simpa using hj5
    refine wpOp_go q5 rfl fun K1 hK1 => ?_
    refine wp_append_keys _ _ rfl V.heap.size v24 ks.length (flatY ks) rfl HO24.out _ [(s, d)] rfl HS26.out (by simp only [List.length_cons, List.length_nil]; omega) HBF.out.size ?_
    intro v27 W5 hown5 hgrow5 hat5
    have HB5 : Hid (Below V.heap.size V W5) := hidI (HBF.out.grown hgrow5 HBF.out.size (fun k hk => (HO24.out.lt k hk).1))
    have HO27 : Hid (W5.ownsRow V.heap.size 40 2 v27 (ks ++ [(s, d)]).length (flatY (ks ++ [(s, d)]))) := hidI (by rw [flatY_append, List.length_append]; exact hown5)
    refine hK1 _ _ ⟨fun _ => HKS.out _ HB5.out, ?_⟩
    clear hK1 K1 hown5 hgrow5 hat5 HO24 HS26 HBF
    refine wpZ_last (by kernel_rfl) (by kernel_rfl) ?_ _
    refine wpOp_go q6 rfl fun K1 hK1 => ?_
    unfold Oper.wp
    go_simp
    refine hK1 _ _ ?_
    exact HQ.out _ _ _ _ _ _ _ _ HB5.out HO27.out

end Go.Proofs.Ytbjoljokdjgbnab
