/-
  Part 12 of the proof: RegY.
-/
import Derived.Test.YtmekkhfohmfjkaaGreatDoorTm11
namespace Go.Proofs.YtmekkhfohmfjkaaGreatDoor
open Go.RowKit Go.Deep Go.MapKept
theorem Tryz.info126 : (Tryz.prog.info? 126).map (fun i => (i.zero, i.size, i.bytes)) = some (some (.agg #[.int .u8 0, .string ⟨#[]⟩, .int .u8 0, .bool false, .int .i64 0, .int .i64 0]), 6, 48) := by kernel_rfl
theorem Tryz.info3z : (Tryz.prog.info? 3).map (fun i => (i.zero, i.size, i.bytes)) = some (some (.int .i64 0), 1, 8) := by kernel_rfl
theorem acells_one (a : Actn) : ∀ c ∈ acells a, c.oneCell' = true := by
 intro c hc
 simp only [acells, List.mem_cons, List.not_mem_nil, or_false] at hc
 rcases hc with rfl | rfl | rfl | rfl | rfl | rfl <;> rfl
def opsAct : Array Oper := #[⟨some 70, .move (.tmp 1), 217, "read.go:144", #[], none⟩, ⟨some 71, .move (.tmp 1), 217, "read.go:144", #[], none⟩, ⟨some 72, .nilCheck (.tmp 71), 0, "read.go:144", #[⟨1, .data⟩], none⟩, ⟨some 73, .fieldAddr 170 (.tmp 72) 5, 0, "read.go:144", #[⟨2, .data⟩], none⟩, ⟨some 74, .load 76 (.tmp 73), 76, "read.go:144", #[⟨3, .data⟩], none⟩, ⟨some 75, .move (.tmp 0), 164, "read.go:144", #[], none⟩, ⟨some 76, .move (.tmp 2), 3, "read.go:144", #[], none⟩, ⟨some 77, .call ⟨.value (.func 149), #[.tmp 75, .tmp 76], #[164, 3]⟩, 126, "read.go:144", #[⟨5, .data⟩, ⟨6, .data⟩], none⟩, ⟨some 78, .buildSlice 76 1 #[(0, .tmp 77)], 76, "read.go:144", #[⟨7, .data⟩], none⟩, ⟨some 79, .call ⟨.builtin .append, #[.tmp 74, .tmp 78], #[76, 76]⟩, 76, "read.go:144", #[⟨4, .data⟩, ⟨8, .data⟩, ⟨7, .chain⟩], none⟩, ⟨some 80, .nilCheck (.tmp 70), 0, "read.go:144", #[⟨0, .data⟩, ⟨0, .phase⟩, ⟨1, .phase⟩, ⟨2, .phase⟩, ⟨3, .phase⟩, ⟨4, .phase⟩, ⟨5, .phase⟩, ⟨6, .phase⟩, ⟨7, .phase⟩, ⟨8, .phase⟩, ⟨9, .phase⟩], none⟩, ⟨some 81, .fieldAddr 170 (.tmp 80) 5, 0, "read.go:144", #[⟨10, .data⟩, ⟨0, .phase⟩, ⟨1, .phase⟩, ⟨2, .phase⟩, ⟨3, .phase⟩, ⟨4, .phase⟩, ⟨5, .phase⟩, ⟨6, .phase⟩, ⟨7, .phase⟩, ⟨8, .phase⟩, ⟨9, .phase⟩], none⟩, ⟨none, .store 76 (.tmp 81) (.tmp 79), 0, "read.go:144", #[⟨11, .data⟩, ⟨9, .data⟩, ⟨9, .chain⟩, ⟨0, .phase⟩, ⟨1, .phase⟩, ⟨2, .phase⟩, ⟨3, .phase⟩, ⟨4, .phase⟩, ⟨5, .phase⟩, ⟨6, .phase⟩, ⟨7, .phase⟩, ⟨8, .phase⟩, ⟨9, .phase⟩], none⟩]
theorem opsAct_0 : opsAct[0]? = some ⟨some 70, .move (.tmp 1), 217, "read.go:144", #[], none⟩ := by kernel_rfl
theorem opsAct_1 : opsAct[1]? = some ⟨some 71, .move (.tmp 1), 217, "read.go:144", #[], none⟩ := by kernel_rfl
theorem opsAct_2 : opsAct[2]? = some ⟨some 72, .nilCheck (.tmp 71), 0, "read.go:144", #[⟨1, .data⟩], none⟩ := by kernel_rfl
theorem opsAct_3 : opsAct[3]? = some ⟨some 73, .fieldAddr 170 (.tmp 72) 5, 0, "read.go:144", #[⟨2, .data⟩], none⟩ := by kernel_rfl
theorem opsAct_4 : opsAct[4]? = some ⟨some 74, .load 76 (.tmp 73), 76, "read.go:144", #[⟨3, .data⟩], none⟩ := by kernel_rfl
theorem opsAct_5 : opsAct[5]? = some ⟨some 75, .move (.tmp 0), 164, "read.go:144", #[], none⟩ := by kernel_rfl
theorem opsAct_6 : opsAct[6]? = some ⟨some 76, .move (.tmp 2), 3, "read.go:144", #[], none⟩ := by kernel_rfl
theorem opsAct_7 : opsAct[7]? = some ⟨some 77, .call ⟨.value (.func 149), #[.tmp 75, .tmp 76], #[164, 3]⟩, 126, "read.go:144", #[⟨5, .data⟩, ⟨6, .data⟩], none⟩ := by kernel_rfl
theorem opsAct_8 : opsAct[8]? = some ⟨some 78, .buildSlice 76 1 #[(0, .tmp 77)], 76, "read.go:144", #[⟨7, .data⟩], none⟩ := by kernel_rfl
theorem opsAct_9 : opsAct[9]? = some ⟨some 79, .call ⟨.builtin .append, #[.tmp 74, .tmp 78], #[76, 76]⟩, 76, "read.go:144", #[⟨4, .data⟩, ⟨8, .data⟩, ⟨7, .chain⟩], none⟩ := by kernel_rfl
theorem opsAct_10 : opsAct[10]? = some ⟨some 80, .nilCheck (.tmp 70), 0, "read.go:144", #[⟨0, .data⟩, ⟨0, .phase⟩, ⟨1, .phase⟩, ⟨2, .phase⟩, ⟨3, .phase⟩, ⟨4, .phase⟩, ⟨5, .phase⟩, ⟨6, .phase⟩, ⟨7, .phase⟩, ⟨8, .phase⟩, ⟨9, .phase⟩], none⟩ := by kernel_rfl
theorem opsAct_11 : opsAct[11]? = some ⟨some 81, .fieldAddr 170 (.tmp 80) 5, 0, "read.go:144", #[⟨10, .data⟩, ⟨0, .phase⟩, ⟨1, .phase⟩, ⟨2, .phase⟩, ⟨3, .phase⟩, ⟨4, .phase⟩, ⟨5, .phase⟩, ⟨6, .phase⟩, ⟨7, .phase⟩, ⟨8, .phase⟩, ⟨9, .phase⟩], none⟩ := by kernel_rfl
theorem opsAct_12 : opsAct[12]? = some ⟨none, .store 76 (.tmp 81) (.tmp 79), 0, "read.go:144", #[⟨11, .data⟩, ⟨9, .data⟩, ⟨9, .chain⟩, ⟨0, .phase⟩, ⟨1, .phase⟩, ⟨2, .phase⟩, ⟨3, .phase⟩, ⟨4, .phase⟩, ⟨5, .phase⟩, ⟨6, .phase⟩, ⟨7, .phase⟩, ⟨8, .phase⟩, ⟨9, .phase⟩], none⟩ := by kernel_rfl
set_option maxRecDepth 100000 in
set_option maxHeartbeats 2000000 in
theorem regAct {x3 x4 x5 x6 x7 x8 x9 x10 x11 x12 x13 x14 x15 x16 x17 x18 x19 x20 x21 x22 x23 x24 x25 x26 x27 x28 x29 x30 x31 x32 x33 x34 x35 x36 x37 x38 x39 x40 x41 x42 x43 x44 x45 x46 x47 x48 x49 x50 x51 x52 x53 x54 x55 x56 x57 x58 x59 x60 x61 x62 x63 x64 x65 x66 x67 x68 x69 x70 x71 x72 x73 x74 x75 x76 x77 x78 x79 x80 x81 x82 x83 x84 x85 x86 x87 x88 x89 x90 x91 x92 x93 x94 x95 x96 x97 x98 x99 x100 x101 x102 x103 x104 x105 x106 x107 x108 x109 x110 x111 x112 x113 x114 x115 : Value} {Q : Exit → Act → World → Prop} {V0 : World} {B cb base n : Nat} {at_ : Int} {u : Value} {xs : List Value} {P : Actn → World → Prop}
  (hu : V0.drew.cell? ⟨cb, 5, none⟩ = some u) (hus : ∃ ua ul uc, u = .slice ua ul uc) (hn : n ≤ 1000) (hB : u.ownBlock ≠ some cb)
  (hC : Calls Tryz.prog 149 #[.pointer (some ⟨B, 0, none⟩), .int .i64 at_] V0.drew fun e w' => (∃ i : Actn, e = .returned (.agg #[.int .u8 (i.k : Int), .string i.name, .int .u8 (i.op : Int), .bool i.inn, .int .i64 i.e, .int .i64 i.cond]) ∧ w'.cell? ⟨cb, 5, none⟩ = some u ∧ w'.frozen? ⟨cb, 5, none⟩ = false ∧ w'.ownsRow base 126 6 u n xs ∧ base ≤ w'.heap.size ∧ P i w') ∨ (∃ ch, e = .panicked ch ∧ ∀ a : Act, a.defers = [] → Q (.panic ch) a w'))
  (hone : ∀ i : Actn, ∀ c ∈ ([.int .u8 (i.k : Int), .string i.name, .int .u8 (i.op : Int), .bool i.inn, .int .i64 i.e, .int .i64 i.cond] : List Value), c.oneCell' = true)
  (hpan : ∀ c (a : Act) w (dd : Tmp) vv, Q (.panic c) (a.put (some dd) vv) w → Q (.panic c) a w)
  (hQ : ∀ (i : Actn) (W1 W5 : World) (u' : Value) (t70 t71 t72 t73 t74 t75 t76 t77 t78 t79 t80 t81 : Value), P i W1 → (W1.alloc (.cells #[.int .u8 (i.k : Int), .string i.name, .int .u8 (i.op : Int), .bool i.inn, .int .i64 i.e, .int .i64 i.cond] 126)).grownBy W5 u.ownBlock → W5.ownsRow base 126 6 u' (n + 1) (xs ++ [.int .u8 (i.k : Int), .string i.name, .int .u8 (i.op : Int), .bool i.inn, .int .i64 i.e, .int .i64 i.cond]) → (u'.ownBlock = u.ownBlock ∨ u'.ownBlock = some (W1.heap.size + 1)) → Q .normal { tmps := #[.pointer (some ⟨B, 0, none⟩), .pointer (some ⟨cb, 0, none⟩), .int .i64 at_, x3, x4, x5, x6, x7, x8, x9, x10, x11, x12, x13, x14, x15, x16, x17, x18, x19, x20, x21, x22, x23, x24, x25, x26, x27, x28, x29, x30, x31, x32, x33, x34, x35, x36, x37, x38, x39, x40, x41, x42, x43, x44, x45, x46, x47, x48, x49, x50, x51, x52, x53, x54, x55, x56, x57, x58, x59, x60, x61, x62, x63, x64, x65, x66, x67, x68, x69, t70, t71, t72, t73, t74, t75, t76, t77, t78, t79, t80, t81, x82, x83, x84, x85, x86, x87, x88, x89, x90, x91, x92, x93, x94, x95, x96, x97, x98, x99, x100, x101, x102, x103, x104, x105, x106, x107, x108, x109, x110, x111, x112, x113, x114, x115], defers := [] } (W5.setCell ⟨cb, 5, none⟩ u')) :
  (Code.region 14 opsAct true).wp Tryz.prog Q { tmps := #[.pointer (some ⟨B, 0, none⟩), .pointer (some ⟨cb, 0, none⟩), .int .i64 at_, x3, x4, x5, x6, x7, x8, x9, x10, x11, x12, x13, x14, x15, x16, x17, x18, x19, x20, x21, x22, x23, x24, x25, x26, x27, x28, x29, x30, x31, x32, x33, x34, x35, x36, x37, x38, x39, x40, x41, x42, x43, x44, x45, x46, x47, x48, x49, x50, x51, x52, x53, x54, x55, x56, x57, x58, x59, x60, x61, x62, x63, x64, x65, x66, x67, x68, x69, x70, x71, x72, x73, x74, x75, x76, x77, x78, x79, x80, x81, x82, x83, x84, x85, x86, x87, x88, x89, x90, x91, x92, x93, x94, x95, x96, x97, x98, x99, x100, x101, x102, x103, x104, x105, x106, x107, x108, x109, x110, x111, x112, x113, x114, x115], defers := [] } V0 := by
 refine zbC (fun y => y.cell? ⟨cb, 5, none⟩ = some u) 12 Tryz.mixed ?_
 obtain ⟨V, hV⟩ : ∃ V, V0.drew = V := ⟨_, rfl⟩
 rw [hV] at hu hC ⊢
 clear hV
 have HC := hidI hC
 have HQ := hidI hQ
 have HPan := hidI hpan
 have HOne := hidI hone
 obtain ⟨ua, ul, uc, rfl⟩ := hus
 clear hQ hpan hC hone
 refine zaB [10, 11, 12] (i := 0) (v := (.pointer (some ⟨cb, 0, none⟩))) opsAct_0 (by kernel_rfl) (by kernel_rfl) (by kernel_rfl) (by kernel_rfl) (fun c a w h => HPan.out c a w _ _ h) (.inl ⟨by rfl, fun y hy => ?_⟩) hu ?_
 ·go_simp
 refine zaB [2, 3, 4, 9, 10, 11, 12] (i := 1) (v := (.pointer (some ⟨cb, 0, none⟩))) opsAct_1 (by kernel_rfl) (by kernel_rfl) (by kernel_rfl) (by kernel_rfl) (fun c a w h => HPan.out c a w _ _ h) (.inl ⟨by rfl, fun y hy => ?_⟩) hu ?_
 ·go_simp
 refine zaB [3, 4, 9, 10, 11, 12] (i := 2) (v := (.pointer (some ⟨cb, 0, none⟩))) opsAct_2 (by kernel_rfl) (by kernel_rfl) (by kernel_rfl) (by kernel_rfl) (fun c a w h => HPan.out c a w _ _ h) (.inl ⟨by rfl, fun y hy => ?_⟩) hu ?_
 ·go_simp
 refine zaB [4, 9, 10, 11, 12] (i := 3) (v := (.pointer (some ⟨cb, 5, none⟩))) opsAct_3 (by kernel_rfl) (by kernel_rfl) (by kernel_rfl) (by kernel_rfl) (fun c a w h => HPan.out c a w _ _ h) (.inl ⟨by rfl, fun y hy => ?_⟩) hu ?_
 ·go_simp
 refine zaB [9, 10, 11, 12] (i := 4) (v := (.slice ua ul uc)) opsAct_4 (by kernel_rfl) (by kernel_rfl) (by kernel_rfl) (by kernel_rfl) (fun c a w h => HPan.out c a w _ _ h) (.inl ⟨by rfl, fun y hy => ?_⟩) hu ?_
 ·have q0 := hy; go_simp
 refine zaB [7, 8, 9, 10, 11, 12] (i := 5) (v := (.pointer (some ⟨B, 0, none⟩))) opsAct_5 (by kernel_rfl) (by kernel_rfl) (by kernel_rfl) (by kernel_rfl) (fun c a w h => HPan.out c a w _ _ h) (.inl ⟨by rfl, fun y hy => ?_⟩) hu ?_
 ·go_simp
 refine zaB [7, 8, 9, 10, 11, 12] (i := 6) (v := (.int .i64 at_)) opsAct_6 (by kernel_rfl) (by kernel_rfl) (by kernel_rfl) (by kernel_rfl) (fun c a w h => HPan.out c a w _ _ h) (.inl ⟨by rfl, fun y hy => ?_⟩) hu ?_
 ·go_simp
 refine zaT (rs := [7]) (by kernel_rfl) (by simp) fun j7 hj7 => ?_
 obtain rfl : j7 = 7 := by simpa using hj7
 refine zaP opsAct_7 rfl fun K1 hK1 => ?_
 unfold Oper.wp
 go_simp
 refine Calls.mono HC.out ?_
 intro e W1 h1
 rcases h1 with ⟨i, rfl, hu1, hf1, ho1, hb1, hP1⟩ | ⟨ch, rfl, hp⟩
 rotate_left
 ·exact hp _ rfl
 have HP1 := hidI hP1
 have HOwn := hidI ho1
 clear hP1 ho1 HC
 refine hK1 _ _ ⟨fun _ => hu1, ?_⟩
 clear hK1 K1
 refine zaT (rs := [8]) (by kernel_rfl) (by simp) fun j8 hj8 => ?_
 obtain rfl : j8 = 8 := by simpa using hj8
 refine zaP opsAct_8 rfl fun K1 hK1 => ?_
 unfold Oper.wp
 go_simp
 have hBl : cb < W1.heap.size := World.block_lt_of_cell? W1 _ hu1
 have hA : Below W1.heap.size W1 (W1.alloc (.cells #[.int .u8 (i.k : Int), .string i.name, .int .u8 (i.op : Int), .bool i.inn, .int .i64 i.e, .int .i64 i.cond] 126)) := by (repeat (first | exact Below.refl _ _ | assumption | refine Below.drew ?_ | refine Below.alloc ?_ (by first | omega | (simp; done) | (simp; omega)) _ | refine Below.setCell ?_ (by first | omega | (simp; done) | (simp; omega)) _))
 have huA : (W1.alloc (.cells #[.int .u8 (i.k : Int), .string i.name, .int .u8 (i.op : Int), .bool i.inn, .int .i64 i.e, .int .i64 i.cond] 126)).cell? ⟨cb, 5, none⟩ = some (.slice ua ul uc) := (World.cell?_of_block (w := W1) (hA.block _ hBl)).trans hu1
 refine hK1 _ _ ⟨fun _ => huA, ?_⟩
 clear hK1 K1
 have HO2 := hidI (HOwn.out.alloc (.cells #[.int .u8 (i.k : Int), .string i.name, .int .u8 (i.op : Int), .bool i.inn, .int .i64 i.e, .int .i64 i.cond] 126))
 have HV := hidI (zdM W1 126 6 #[.int .u8 (i.k : Int), .string i.name, .int .u8 (i.op : Int), .bool i.inn, .int .i64 i.e, .int .i64 i.cond] rfl)
 have hfA : (W1.alloc (.cells #[.int .u8 (i.k : Int), .string i.name, .int .u8 (i.op : Int), .bool i.inn, .int .i64 i.e, .int .i64 i.cond] 126)).frozen? ⟨cb, 5, none⟩ = false := (hA.frozen (p := ⟨cb, 5, none⟩) hBl).trans hf1
 have hszA : (W1.alloc (.cells #[.int .u8 (i.k : Int), .string i.name, .int .u8 (i.op : Int), .bool i.inn, .int .i64 i.e, .int .i64 i.cond] 126)).heap.size = W1.heap.size + 1 := by simp
 obtain ⟨VA, hVA⟩ : ∃ VA, W1.alloc (.cells #[.int .u8 (i.k : Int), .string i.name, .int .u8 (i.op : Int), .bool i.inn, .int .i64 i.e, .int .i64 i.cond] 126) = VA := ⟨_, rfl⟩
 have HVA := hidI hVA
 rw [hVA] at HO2 HV hfA hszA huA ⊢
 clear hVA hA
 refine zaT (rs := [9]) (by kernel_rfl) (by simp) fun j9 hj9 => ?_
 obtain rfl : j9 = 9 := by simpa using hj9
 refine zaP opsAct_9 rfl fun K1 hK1 => ?_
 refine zbF Tryz.underlying76 Tryz.info126 rfl (by decide) (by decide) _ _ rfl base _ n xs rfl HO2.out _ 1 [.int .u8 (i.k : Int), .string i.name, .int .u8 (i.op : Int), .bool i.inn, .int .i64 i.e, .int .i64 i.cond] rfl HV.out (HOne.out i) (by omega) (by omega) ?_
 intro u' W5 hown5 hgrow5 hat5
 have HO5 := hidI hown5
 have HG5 := hidI hgrow5
 have HAT : Hid (u'.ownBlock = Value.ownBlock (.slice ua ul uc) ∨ u'.ownBlock = some (W1.heap.size + 1)) := hidI (hszA ▸ hat5)
 have hu5 : W5.cell? ⟨cb, 5, none⟩ = some (.slice ua ul uc) := (World.cell?_of_block (w := VA) (hgrow5.block cb (by omega) (fun e => hB e.symm))).trans huA
 have hf5 : W5.frozen? ⟨cb, 5, none⟩ = false := (World.frozen?_of_block (w := VA) (a := ⟨cb, 5, none⟩) (hgrow5.block cb (by omega) (fun e => hB e.symm))).trans hfA
 obtain ⟨a9, l9, c9, hv6⟩ : ∃ a9 l9 c9, u' = .slice a9 l9 c9 := by
  rcases hown5.2 with ⟨rfl, _⟩ | ⟨_, _, _, rfl, _⟩ <;> exact ⟨_, _, _, rfl⟩
 subst hv6
 refine hK1 _ _ ⟨fun _ => hu5, ?_⟩
 clear hK1 K1 hown5 hgrow5 hat5
 refine zaB [11, 12] (i := 10) (v := (.pointer (some ⟨cb, 0, none⟩))) opsAct_10 (by kernel_rfl) (by kernel_rfl) (by kernel_rfl) (by kernel_rfl) (fun c a w h => HPan.out c a w _ _ h) (.inl ⟨by rfl, fun y hy => ?_⟩) hu5 ?_
 ·go_simp
 refine zaB [12] (i := 11) (v := (.pointer (some ⟨cb, 5, none⟩))) opsAct_11 (by kernel_rfl) (by kernel_rfl) (by kernel_rfl) (by kernel_rfl) (fun c a w h => HPan.out c a w _ _ h) (.inl ⟨by rfl, fun y hy => ?_⟩) hu5 ?_
 ·go_simp
 refine zbJ (by kernel_rfl) (by kernel_rfl) ?_ _
 refine zaP opsAct_12 rfl fun K1 hK1 => ?_
 unfold Oper.wp
 go_simp
 refine hK1 _ _ ?_
 exact HQ.out i W1 _ _ _ _ _ _ _ _ _ _ _ _ _ _ HP1.out (by rw [HVA.out]; exact HG5.out) HO5.out HAT.out
def opsRest : Array Oper := #[⟨some 104, .move (.tmp 1), 217, "read.go:150", #[], none⟩, ⟨some 105, .move (.tmp 1), 217, "read.go:150", #[], none⟩, ⟨some 106, .nilCheck (.tmp 105), 0, "read.go:150", #[⟨1, .data⟩], none⟩, ⟨some 107, .fieldAddr 170 (.tmp 106) 6, 0, "read.go:150", #[⟨2, .data⟩], none⟩, ⟨some 108, .load 45 (.tmp 107), 45, "read.go:150", #[⟨3, .data⟩], none⟩, ⟨some 109, .move (.tmp 0), 164, "read.go:150", #[], none⟩, ⟨some 110, .move (.tmp 2), 3, "read.go:150", #[], none⟩, ⟨some 111, .call ⟨.value (.func 93), #[.tmp 109, .tmp 110], #[164, 3]⟩, 3, "read.go:150", #[⟨5, .data⟩, ⟨6, .data⟩], none⟩, ⟨some 112, .buildSlice 45 1 #[(0, .tmp 111)], 45, "read.go:150", #[⟨7, .data⟩], none⟩, ⟨some 113, .call ⟨.builtin .append, #[.tmp 108, .tmp 112], #[45, 45]⟩, 45, "read.go:150", #[⟨4, .data⟩, ⟨8, .data⟩, ⟨7, .chain⟩], none⟩, ⟨some 114, .nilCheck (.tmp 104), 0, "read.go:150", #[⟨0, .data⟩, ⟨0, .phase⟩, ⟨1, .phase⟩, ⟨2, .phase⟩, ⟨3, .phase⟩, ⟨4, .phase⟩, ⟨5, .phase⟩, ⟨6, .phase⟩, ⟨7, .phase⟩, ⟨8, .phase⟩, ⟨9, .phase⟩], none⟩, ⟨some 115, .fieldAddr 170 (.tmp 114) 6, 0, "read.go:150", #[⟨10, .data⟩, ⟨0, .phase⟩, ⟨1, .phase⟩, ⟨2, .phase⟩, ⟨3, .phase⟩, ⟨4, .phase⟩, ⟨5, .phase⟩, ⟨6, .phase⟩, ⟨7, .phase⟩, ⟨8, .phase⟩, ⟨9, .phase⟩], none⟩, ⟨none, .store 45 (.tmp 115) (.tmp 113), 0, "read.go:150", #[⟨11, .data⟩, ⟨9, .data⟩, ⟨9, .chain⟩, ⟨0, .phase⟩, ⟨1, .phase⟩, ⟨2, .phase⟩, ⟨3, .phase⟩, ⟨4, .phase⟩, ⟨5, .phase⟩, ⟨6, .phase⟩, ⟨7, .phase⟩, ⟨8, .phase⟩, ⟨9, .phase⟩], none⟩]
theorem opsRest_0 : opsRest[0]? = some ⟨some 104, .move (.tmp 1), 217, "read.go:150", #[], none⟩ := by kernel_rfl
theorem opsRest_1 : opsRest[1]? = some ⟨some 105, .move (.tmp 1), 217, "read.go:150", #[], none⟩ := by kernel_rfl
theorem opsRest_2 : opsRest[2]? = some ⟨some 106, .nilCheck (.tmp 105), 0, "read.go:150", #[⟨1, .data⟩], none⟩ := by kernel_rfl
theorem opsRest_3 : opsRest[3]? = some ⟨some 107, .fieldAddr 170 (.tmp 106) 6, 0, "read.go:150", #[⟨2, .data⟩], none⟩ := by kernel_rfl
theorem opsRest_4 : opsRest[4]? = some ⟨some 108, .load 45 (.tmp 107), 45, "read.go:150", #[⟨3, .data⟩], none⟩ := by kernel_rfl
theorem opsRest_5 : opsRest[5]? = some ⟨some 109, .move (.tmp 0), 164, "read.go:150", #[], none⟩ := by kernel_rfl
theorem opsRest_6 : opsRest[6]? = some ⟨some 110, .move (.tmp 2), 3, "read.go:150", #[], none⟩ := by kernel_rfl
theorem opsRest_7 : opsRest[7]? = some ⟨some 111, .call ⟨.value (.func 93), #[.tmp 109, .tmp 110], #[164, 3]⟩, 3, "read.go:150", #[⟨5, .data⟩, ⟨6, .data⟩], none⟩ := by kernel_rfl
theorem opsRest_8 : opsRest[8]? = some ⟨some 112, .buildSlice 45 1 #[(0, .tmp 111)], 45, "read.go:150", #[⟨7, .data⟩], none⟩ := by kernel_rfl
theorem opsRest_9 : opsRest[9]? = some ⟨some 113, .call ⟨.builtin .append, #[.tmp 108, .tmp 112], #[45, 45]⟩, 45, "read.go:150", #[⟨4, .data⟩, ⟨8, .data⟩, ⟨7, .chain⟩], none⟩ := by kernel_rfl
theorem opsRest_10 : opsRest[10]? = some ⟨some 114, .nilCheck (.tmp 104), 0, "read.go:150", #[⟨0, .data⟩, ⟨0, .phase⟩, ⟨1, .phase⟩, ⟨2, .phase⟩, ⟨3, .phase⟩, ⟨4, .phase⟩, ⟨5, .phase⟩, ⟨6, .phase⟩, ⟨7, .phase⟩, ⟨8, .phase⟩, ⟨9, .phase⟩], none⟩ := by kernel_rfl
theorem opsRest_11 : opsRest[11]? = some ⟨some 115, .fieldAddr 170 (.tmp 114) 6, 0, "read.go:150", #[⟨10, .data⟩, ⟨0, .phase⟩, ⟨1, .phase⟩, ⟨2, .phase⟩, ⟨3, .phase⟩, ⟨4, .phase⟩, ⟨5, .phase⟩, ⟨6, .phase⟩, ⟨7, .phase⟩, ⟨8, .phase⟩, ⟨9, .phase⟩], none⟩ := by kernel_rfl
theorem opsRest_12 : opsRest[12]? = some ⟨none, .store 45 (.tmp 115) (.tmp 113), 0, "read.go:150", #[⟨11, .data⟩, ⟨9, .data⟩, ⟨9, .chain⟩, ⟨0, .phase⟩, ⟨1, .phase⟩, ⟨2, .phase⟩, ⟨3, .phase⟩, ⟨4, .phase⟩, ⟨5, .phase⟩, ⟨6, .phase⟩, ⟨7, .phase⟩, ⟨8, .phase⟩, ⟨9, .phase⟩], none⟩ := by kernel_rfl
set_option maxRecDepth 100000 in
set_option maxHeartbeats 2000000 in
theorem regRest {x3 x4 x5 x6 x7 x8 x9 x10 x11 x12 x13 x14 x15 x16 x17 x18 x19 x20 x21 x22 x23 x24 x25 x26 x27 x28 x29 x30 x31 x32 x33 x34 x35 x36 x37 x38 x39 x40 x41 x42 x43 x44 x45 x46 x47 x48 x49 x50 x51 x52 x53 x54 x55 x56 x57 x58 x59 x60 x61 x62 x63 x64 x65 x66 x67 x68 x69 x70 x71 x72 x73 x74 x75 x76 x77 x78 x79 x80 x81 x82 x83 x84 x85 x86 x87 x88 x89 x90 x91 x92 x93 x94 x95 x96 x97 x98 x99 x100 x101 x102 x103 x104 x105 x106 x107 x108 x109 x110 x111 x112 x113 x114 x115 : Value} {Q : Exit → Act → World → Prop} {V0 : World} {B cb base n : Nat} {at_ : Int} {u : Value} {xs : List Value} {P : Int → World → Prop}
  (hu : V0.drew.cell? ⟨cb, 6, none⟩ = some u) (hus : ∃ ua ul uc, u = .slice ua ul uc) (hn : n ≤ 1000) (hB : u.ownBlock ≠ some cb)
  (hC : Calls Tryz.prog 93 #[.pointer (some ⟨B, 0, none⟩), .int .i64 at_] V0.drew fun e w' => (∃ i : Int, e = .returned (.int .i64 i) ∧ w'.cell? ⟨cb, 6, none⟩ = some u ∧ w'.frozen? ⟨cb, 6, none⟩ = false ∧ w'.ownsRow base 3 1 u n xs ∧ base ≤ w'.heap.size ∧ P i w') ∨ (∃ ch, e = .panicked ch ∧ ∀ a : Act, a.defers = [] → Q (.panic ch) a w'))
  (hone : ∀ i : Int, ∀ c ∈ ([.int .i64 i] : List Value), c.oneCell' = true)
  (hpan : ∀ c (a : Act) w (dd : Tmp) vv, Q (.panic c) (a.put (some dd) vv) w → Q (.panic c) a w)
  (hQ : ∀ (i : Int) (W1 W5 : World) (u' : Value) (t104 t105 t106 t107 t108 t109 t110 t111 t112 t113 t114 t115 : Value), P i W1 → (W1.alloc (.cells #[.int .i64 i] 3)).grownBy W5 u.ownBlock → W5.ownsRow base 3 1 u' (n + 1) (xs ++ [.int .i64 i]) → (u'.ownBlock = u.ownBlock ∨ u'.ownBlock = some (W1.heap.size + 1)) → Q .normal { tmps := #[.pointer (some ⟨B, 0, none⟩), .pointer (some ⟨cb, 0, none⟩), .int .i64 at_, x3, x4, x5, x6, x7, x8, x9, x10, x11, x12, x13, x14, x15, x16, x17, x18, x19, x20, x21, x22, x23, x24, x25, x26, x27, x28, x29, x30, x31, x32, x33, x34, x35, x36, x37, x38, x39, x40, x41, x42, x43, x44, x45, x46, x47, x48, x49, x50, x51, x52, x53, x54, x55, x56, x57, x58, x59, x60, x61, x62, x63, x64, x65, x66, x67, x68, x69, x70, x71, x72, x73, x74, x75, x76, x77, x78, x79, x80, x81, x82, x83, x84, x85, x86, x87, x88, x89, x90, x91, x92, x93, x94, x95, x96, x97, x98, x99, x100, x101, x102, x103, t104, t105, t106, t107, t108, t109, t110, t111, t112, t113, t114, t115], defers := [] } (W5.setCell ⟨cb, 6, none⟩ u')) :
  (Code.region 20 opsRest true).wp Tryz.prog Q { tmps := #[.pointer (some ⟨B, 0, none⟩), .pointer (some ⟨cb, 0, none⟩), .int .i64 at_, x3, x4, x5, x6, x7, x8, x9, x10, x11, x12, x13, x14, x15, x16, x17, x18, x19, x20, x21, x22, x23, x24, x25, x26, x27, x28, x29, x30, x31, x32, x33, x34, x35, x36, x37, x38, x39, x40, x41, x42, x43, x44, x45, x46, x47, x48, x49, x50, x51, x52, x53, x54, x55, x56, x57, x58, x59, x60, x61, x62, x63, x64, x65, x66, x67, x68, x69, x70, x71, x72, x73, x74, x75, x76, x77, x78, x79, x80, x81, x82, x83, x84, x85, x86, x87, x88, x89, x90, x91, x92, x93, x94, x95, x96, x97, x98, x99, x100, x101, x102, x103, x104, x105, x106, x107, x108, x109, x110, x111, x112, x113, x114, x115], defers := [] } V0 := by
 refine zbC (fun y => y.cell? ⟨cb, 6, none⟩ = some u) 12 Tryz.mixed ?_
 obtain ⟨V, hV⟩ : ∃ V, V0.drew = V := ⟨_, rfl⟩
 rw [hV] at hu hC ⊢
 clear hV
 have HC := hidI hC
 have HQ := hidI hQ
 have HPan := hidI hpan
 have HOne := hidI hone
 obtain ⟨ua, ul, uc, rfl⟩ := hus
 clear hQ hpan hC hone
 refine zaB [10, 11, 12] (i := 0) (v := (.pointer (some ⟨cb, 0, none⟩))) opsRest_0 (by kernel_rfl) (by kernel_rfl) (by kernel_rfl) (by kernel_rfl) (fun c a w h => HPan.out c a w _ _ h) (.inl ⟨by rfl, fun y hy => ?_⟩) hu ?_
 ·go_simp
 refine zaB [2, 3, 4, 9, 10, 11, 12] (i := 1) (v := (.pointer (some ⟨cb, 0, none⟩))) opsRest_1 (by kernel_rfl) (by kernel_rfl) (by kernel_rfl) (by kernel_rfl) (fun c a w h => HPan.out c a w _ _ h) (.inl ⟨by rfl, fun y hy => ?_⟩) hu ?_
 ·go_simp
 refine zaB [3, 4, 9, 10, 11, 12] (i := 2) (v := (.pointer (some ⟨cb, 0, none⟩))) opsRest_2 (by kernel_rfl) (by kernel_rfl) (by kernel_rfl) (by kernel_rfl) (fun c a w h => HPan.out c a w _ _ h) (.inl ⟨by rfl, fun y hy => ?_⟩) hu ?_
 ·go_simp
 refine zaB [4, 9, 10, 11, 12] (i := 3) (v := (.pointer (some ⟨cb, 6, none⟩))) opsRest_3 (by kernel_rfl) (by kernel_rfl) (by kernel_rfl) (by kernel_rfl) (fun c a w h => HPan.out c a w _ _ h) (.inl ⟨by rfl, fun y hy => ?_⟩) hu ?_
 ·go_simp
 refine zaB [9, 10, 11, 12] (i := 4) (v := (.slice ua ul uc)) opsRest_4 (by kernel_rfl) (by kernel_rfl) (by kernel_rfl) (by kernel_rfl) (fun c a w h => HPan.out c a w _ _ h) (.inl ⟨by rfl, fun y hy => ?_⟩) hu ?_
 ·have q0 := hy; go_simp
 refine zaB [7, 8, 9, 10, 11, 12] (i := 5) (v := (.pointer (some ⟨B, 0, none⟩))) opsRest_5 (by kernel_rfl) (by kernel_rfl) (by kernel_rfl) (by kernel_rfl) (fun c a w h => HPan.out c a w _ _ h) (.inl ⟨by rfl, fun y hy => ?_⟩) hu ?_
 ·go_simp
 refine zaB [7, 8, 9, 10, 11, 12] (i := 6) (v := (.int .i64 at_)) opsRest_6 (by kernel_rfl) (by kernel_rfl) (by kernel_rfl) (by kernel_rfl) (fun c a w h => HPan.out c a w _ _ h) (.inl ⟨by rfl, fun y hy => ?_⟩) hu ?_
 ·go_simp
 refine zaT (rs := [7]) (by kernel_rfl) (by simp) fun j7 hj7 => ?_
 obtain rfl : j7 = 7 := by simpa using hj7
 refine zaP opsRest_7 rfl fun K1 hK1 => ?_
 unfold Oper.wp
 go_simp
 refine Calls.mono HC.out ?_
 intro e W1 h1
 rcases h1 with ⟨i, rfl, hu1, hf1, ho1, hb1, hP1⟩ | ⟨ch, rfl, hp⟩
 rotate_left
 ·exact hp _ rfl
 have HP1 := hidI hP1
 have HOwn := hidI ho1
 clear hP1 ho1 HC
 refine hK1 _ _ ⟨fun _ => hu1, ?_⟩
 clear hK1 K1
 refine zaT (rs := [8]) (by kernel_rfl) (by simp) fun j8 hj8 => ?_
 obtain rfl : j8 = 8 := by simpa using hj8
 refine zaP opsRest_8 rfl fun K1 hK1 => ?_
 unfold Oper.wp
 go_simp
 have hBl : cb < W1.heap.size := World.block_lt_of_cell? W1 _ hu1
 have hA : Below W1.heap.size W1 (W1.alloc (.cells #[.int .i64 i] 3)) := by (repeat (first | exact Below.refl _ _ | assumption | refine Below.drew ?_ | refine Below.alloc ?_ (by first | omega | (simp; done) | (simp; omega)) _ | refine Below.setCell ?_ (by first | omega | (simp; done) | (simp; omega)) _))
 have huA : (W1.alloc (.cells #[.int .i64 i] 3)).cell? ⟨cb, 6, none⟩ = some (.slice ua ul uc) := (World.cell?_of_block (w := W1) (hA.block _ hBl)).trans hu1
 refine hK1 _ _ ⟨fun _ => huA, ?_⟩
 clear hK1 K1
 have HO2 := hidI (HOwn.out.alloc (.cells #[.int .i64 i] 3))
 have HV := hidI (zdM W1 3 1 #[.int .i64 i] rfl)
 have hfA : (W1.alloc (.cells #[.int .i64 i] 3)).frozen? ⟨cb, 6, none⟩ = false := (hA.frozen (p := ⟨cb, 6, none⟩) hBl).trans hf1
 have hszA : (W1.alloc (.cells #[.int .i64 i] 3)).heap.size = W1.heap.size + 1 := by simp
 obtain ⟨VA, hVA⟩ : ∃ VA, W1.alloc (.cells #[.int .i64 i] 3) = VA := ⟨_, rfl⟩
 have HVA := hidI hVA
 rw [hVA] at HO2 HV hfA hszA huA ⊢
 clear hVA hA
 refine zaT (rs := [9]) (by kernel_rfl) (by simp) fun j9 hj9 => ?_
 obtain rfl : j9 = 9 := by simpa using hj9
 refine zaP opsRest_9 rfl fun K1 hK1 => ?_
 refine zbF Tryz.underlying45 Tryz.info3z rfl (by decide) (by decide) _ _ rfl base _ n xs rfl HO2.out _ 1 [.int .i64 i] rfl HV.out (HOne.out i) (by omega) (by omega) ?_
 intro u' W5 hown5 hgrow5 hat5
 have HO5 := hidI hown5
 have HG5 := hidI hgrow5
 have HAT : Hid (u'.ownBlock = Value.ownBlock (.slice ua ul uc) ∨ u'.ownBlock = some (W1.heap.size + 1)) := hidI (hszA ▸ hat5)
 have hu5 : W5.cell? ⟨cb, 6, none⟩ = some (.slice ua ul uc) := (World.cell?_of_block (w := VA) (hgrow5.block cb (by omega) (fun e => hB e.symm))).trans huA
 have hf5 : W5.frozen? ⟨cb, 6, none⟩ = false := (World.frozen?_of_block (w := VA) (a := ⟨cb, 6, none⟩) (hgrow5.block cb (by omega) (fun e => hB e.symm))).trans hfA
 obtain ⟨a9, l9, c9, hv6⟩ : ∃ a9 l9 c9, u' = .slice a9 l9 c9 := by
  rcases hown5.2 with ⟨rfl, _⟩ | ⟨_, _, _, rfl, _⟩ <;> exact ⟨_, _, _, rfl⟩
 subst hv6
 refine hK1 _ _ ⟨fun _ => hu5, ?_⟩
 clear hK1 K1 hown5 hgrow5 hat5
 refine zaB [11, 12] (i := 10) (v := (.pointer (some ⟨cb, 0, none⟩))) opsRest_10 (by kernel_rfl) (by kernel_rfl) (by kernel_rfl) (by kernel_rfl) (fun c a w h => HPan.out c a w _ _ h) (.inl ⟨by rfl, fun y hy => ?_⟩) hu5 ?_
 ·go_simp
 refine zaB [12] (i := 11) (v := (.pointer (some ⟨cb, 6, none⟩))) opsRest_11 (by kernel_rfl) (by kernel_rfl) (by kernel_rfl) (by kernel_rfl) (fun c a w h => HPan.out c a w _ _ h) (.inl ⟨by rfl, fun y hy => ?_⟩) hu5 ?_
 ·go_simp
 refine zbJ (by kernel_rfl) (by kernel_rfl) ?_ _
 refine zaP opsRest_12 rfl fun K1 hK1 => ?_
 unfold Oper.wp
 go_simp
 refine hK1 _ _ ?_
 exact HQ.out i W1 _ _ _ _ _ _ _ _ _ _ _ _ _ _ HP1.out (by rw [HVA.out]; exact HG5.out) HO5.out HAT.out
def opsMain : Array Oper := #[⟨some 66, .move (.tmp 0), 164, "read.go:42", #[], none⟩, ⟨some 67, .move (.tmp 0), 164, "read.go:42", #[], none⟩, ⟨some 68, .nilCheck (.tmp 67), 0, "read.go:42", #[⟨1, .data⟩], none⟩, ⟨some 69, .fieldAddr 109 (.tmp 68) 2, 0, "read.go:42", #[⟨2, .data⟩], none⟩, ⟨some 70, .fieldAddr 47 (.tmp 69) 3, 0, "read.go:42", #[⟨3, .data⟩], none⟩, ⟨some 71, .load 45 (.tmp 70), 45, "read.go:42", #[⟨4, .data⟩], none⟩, ⟨some 72, .move (.tmp 0), 164, "read.go:42", #[], none⟩, ⟨some 73, .move (.tmp 5), 3, "read.go:42", #[], none⟩, ⟨some 74, .call ⟨.value (.func 93), #[.tmp 72, .tmp 73], #[164, 3]⟩, 3, "read.go:42", #[⟨6, .data⟩, ⟨7, .data⟩], none⟩, ⟨some 75, .buildSlice 45 1 #[(0, .tmp 74)], 45, "read.go:42", #[⟨8, .data⟩], none⟩, ⟨some 76, .call ⟨.builtin .append, #[.tmp 71, .tmp 75], #[45, 45]⟩, 45, "read.go:42", #[⟨5, .data⟩, ⟨9, .data⟩, ⟨8, .chain⟩], none⟩, ⟨some 77, .nilCheck (.tmp 66), 0, "read.go:42", #[⟨0, .data⟩, ⟨0, .phase⟩, ⟨1, .phase⟩, ⟨2, .phase⟩, ⟨3, .phase⟩, ⟨4, .phase⟩, ⟨5, .phase⟩, ⟨6, .phase⟩, ⟨7, .phase⟩, ⟨8, .phase⟩, ⟨9, .phase⟩, ⟨10, .phase⟩], none⟩, ⟨some 78, .fieldAddr 109 (.tmp 77) 2, 0, "read.go:42", #[⟨11, .data⟩, ⟨0, .phase⟩, ⟨1, .phase⟩, ⟨2, .phase⟩, ⟨3, .phase⟩, ⟨4, .phase⟩, ⟨5, .phase⟩, ⟨6, .phase⟩, ⟨7, .phase⟩, ⟨8, .phase⟩, ⟨9, .phase⟩, ⟨10, .phase⟩], none⟩, ⟨some 79, .fieldAddr 47 (.tmp 78) 3, 0, "read.go:42", #[⟨12, .data⟩, ⟨0, .phase⟩, ⟨1, .phase⟩, ⟨2, .phase⟩, ⟨3, .phase⟩, ⟨4, .phase⟩, ⟨5, .phase⟩, ⟨6, .phase⟩, ⟨7, .phase⟩, ⟨8, .phase⟩, ⟨9, .phase⟩, ⟨10, .phase⟩], none⟩, ⟨none, .store 45 (.tmp 79) (.tmp 76), 0, "read.go:42", #[⟨13, .data⟩, ⟨10, .data⟩, ⟨10, .chain⟩, ⟨0, .phase⟩, ⟨1, .phase⟩, ⟨2, .phase⟩, ⟨3, .phase⟩, ⟨4, .phase⟩, ⟨5, .phase⟩, ⟨6, .phase⟩, ⟨7, .phase⟩, ⟨8, .phase⟩, ⟨9, .phase⟩, ⟨10, .phase⟩], none⟩]
theorem opsMain_0 : opsMain[0]? = some ⟨some 66, .move (.tmp 0), 164, "read.go:42", #[], none⟩ := by kernel_rfl
theorem opsMain_1 : opsMain[1]? = some ⟨some 67, .move (.tmp 0), 164, "read.go:42", #[], none⟩ := by kernel_rfl
theorem opsMain_2 : opsMain[2]? = some ⟨some 68, .nilCheck (.tmp 67), 0, "read.go:42", #[⟨1, .data⟩], none⟩ := by kernel_rfl
theorem opsMain_3 : opsMain[3]? = some ⟨some 69, .fieldAddr 109 (.tmp 68) 2, 0, "read.go:42", #[⟨2, .data⟩], none⟩ := by kernel_rfl
theorem opsMain_4 : opsMain[4]? = some ⟨some 70, .fieldAddr 47 (.tmp 69) 3, 0, "read.go:42", #[⟨3, .data⟩], none⟩ := by kernel_rfl
theorem opsMain_5 : opsMain[5]? = some ⟨some 71, .load 45 (.tmp 70), 45, "read.go:42", #[⟨4, .data⟩], none⟩ := by kernel_rfl
theorem opsMain_6 : opsMain[6]? = some ⟨some 72, .move (.tmp 0), 164, "read.go:42", #[], none⟩ := by kernel_rfl
theorem opsMain_7 : opsMain[7]? = some ⟨some 73, .move (.tmp 5), 3, "read.go:42", #[], none⟩ := by kernel_rfl
theorem opsMain_8 : opsMain[8]? = some ⟨some 74, .call ⟨.value (.func 93), #[.tmp 72, .tmp 73], #[164, 3]⟩, 3, "read.go:42", #[⟨6, .data⟩, ⟨7, .data⟩], none⟩ := by kernel_rfl
theorem opsMain_9 : opsMain[9]? = some ⟨some 75, .buildSlice 45 1 #[(0, .tmp 74)], 45, "read.go:42", #[⟨8, .data⟩], none⟩ := by kernel_rfl
theorem opsMain_10 : opsMain[10]? = some ⟨some 76, .call ⟨.builtin .append, #[.tmp 71, .tmp 75], #[45, 45]⟩, 45, "read.go:42", #[⟨5, .data⟩, ⟨9, .data⟩, ⟨8, .chain⟩], none⟩ := by kernel_rfl
theorem opsMain_11 : opsMain[11]? = some ⟨some 77, .nilCheck (.tmp 66), 0, "read.go:42", #[⟨0, .data⟩, ⟨0, .phase⟩, ⟨1, .phase⟩, ⟨2, .phase⟩, ⟨3, .phase⟩, ⟨4, .phase⟩, ⟨5, .phase⟩, ⟨6, .phase⟩, ⟨7, .phase⟩, ⟨8, .phase⟩, ⟨9, .phase⟩, ⟨10, .phase⟩], none⟩ := by kernel_rfl
theorem opsMain_12 : opsMain[12]? = some ⟨some 78, .fieldAddr 109 (.tmp 77) 2, 0, "read.go:42", #[⟨11, .data⟩, ⟨0, .phase⟩, ⟨1, .phase⟩, ⟨2, .phase⟩, ⟨3, .phase⟩, ⟨4, .phase⟩, ⟨5, .phase⟩, ⟨6, .phase⟩, ⟨7, .phase⟩, ⟨8, .phase⟩, ⟨9, .phase⟩, ⟨10, .phase⟩], none⟩ := by kernel_rfl
theorem opsMain_13 : opsMain[13]? = some ⟨some 79, .fieldAddr 47 (.tmp 78) 3, 0, "read.go:42", #[⟨12, .data⟩, ⟨0, .phase⟩, ⟨1, .phase⟩, ⟨2, .phase⟩, ⟨3, .phase⟩, ⟨4, .phase⟩, ⟨5, .phase⟩, ⟨6, .phase⟩, ⟨7, .phase⟩, ⟨8, .phase⟩, ⟨9, .phase⟩, ⟨10, .phase⟩], none⟩ := by kernel_rfl
theorem opsMain_14 : opsMain[14]? = some ⟨none, .store 45 (.tmp 79) (.tmp 76), 0, "read.go:42", #[⟨13, .data⟩, ⟨10, .data⟩, ⟨10, .chain⟩, ⟨0, .phase⟩, ⟨1, .phase⟩, ⟨2, .phase⟩, ⟨3, .phase⟩, ⟨4, .phase⟩, ⟨5, .phase⟩, ⟨6, .phase⟩, ⟨7, .phase⟩, ⟨8, .phase⟩, ⟨9, .phase⟩, ⟨10, .phase⟩], none⟩ := by kernel_rfl
set_option maxRecDepth 100000 in
set_option maxHeartbeats 2000000 in
theorem regMain {x1 x2 x3 x4 x6 x7 x8 x9 x10 x11 x12 x13 x14 x15 x16 x17 x18 x19 x20 x21 x22 x23 x24 x25 x26 x27 x28 x29 x30 x31 x32 x33 x34 x35 x36 x37 x38 x39 x40 x41 x42 x43 x44 x45 x46 x47 x48 x49 x50 x51 x52 x53 x54 x55 x56 x57 x58 x59 x60 x61 x62 x63 x64 x65 x66 x67 x68 x69 x70 x71 x72 x73 x74 x75 x76 x77 x78 x79 x80 : Value} {Q : Exit → Act → World → Prop} {V0 : World} {B base n : Nat} {at_ : Int} {u : Value} {xs : List Value} {P : Int → World → Prop}
  (hu : V0.drew.cell? ⟨B, 9, none⟩ = some u) (hus : ∃ ua ul uc, u = .slice ua ul uc) (hn : n ≤ 1000) (hB : u.ownBlock ≠ some B)
  (hC : Calls Tryz.prog 93 #[.pointer (some ⟨B, 0, none⟩), .int .i64 at_] V0.drew fun e w' => (∃ i : Int, e = .returned (.int .i64 i) ∧ w'.cell? ⟨B, 9, none⟩ = some u ∧ w'.frozen? ⟨B, 9, none⟩ = false ∧ w'.ownsRow base 3 1 u n xs ∧ base ≤ w'.heap.size ∧ P i w') ∨ (∃ ch, e = .panicked ch ∧ ∀ a : Act, a.defers = [] → Q (.panic ch) a w'))
  (hone : ∀ i : Int, ∀ c ∈ ([.int .i64 i] : List Value), c.oneCell' = true)
  (hpan : ∀ c (a : Act) w (dd : Tmp) vv, Q (.panic c) (a.put (some dd) vv) w → Q (.panic c) a w)
  (hQ : ∀ (i : Int) (W1 W5 : World) (u' : Value) (t66 t67 t68 t69 t70 t71 t72 t73 t74 t75 t76 t77 t78 t79 : Value), P i W1 → (W1.alloc (.cells #[.int .i64 i] 3)).grownBy W5 u.ownBlock → W5.ownsRow base 3 1 u' (n + 1) (xs ++ [.int .i64 i]) → (u'.ownBlock = u.ownBlock ∨ u'.ownBlock = some (W1.heap.size + 1)) → Q .normal { tmps := #[.pointer (some ⟨B, 0, none⟩), x1, x2, x3, x4, .int .i64 at_, x6, x7, x8, x9, x10, x11, x12, x13, x14, x15, x16, x17, x18, x19, x20, x21, x22, x23, x24, x25, x26, x27, x28, x29, x30, x31, x32, x33, x34, x35, x36, x37, x38, x39, x40, x41, x42, x43, x44, x45, x46, x47, x48, x49, x50, x51, x52, x53, x54, x55, x56, x57, x58, x59, x60, x61, x62, x63, x64, x65, t66, t67, t68, t69, t70, t71, t72, t73, t74, t75, t76, t77, t78, t79, x80], defers := [] } (W5.setCell ⟨B, 9, none⟩ u')) :
  (Code.region 9 opsMain true).wp Tryz.prog Q { tmps := #[.pointer (some ⟨B, 0, none⟩), x1, x2, x3, x4, .int .i64 at_, x6, x7, x8, x9, x10, x11, x12, x13, x14, x15, x16, x17, x18, x19, x20, x21, x22, x23, x24, x25, x26, x27, x28, x29, x30, x31, x32, x33, x34, x35, x36, x37, x38, x39, x40, x41, x42, x43, x44, x45, x46, x47, x48, x49, x50, x51, x52, x53, x54, x55, x56, x57, x58, x59, x60, x61, x62, x63, x64, x65, x66, x67, x68, x69, x70, x71, x72, x73, x74, x75, x76, x77, x78, x79, x80], defers := [] } V0 := by
 refine zbC (fun y => y.cell? ⟨B, 9, none⟩ = some u) 14 Tryz.mixed ?_
 obtain ⟨V, hV⟩ : ∃ V, V0.drew = V := ⟨_, rfl⟩
 rw [hV] at hu hC ⊢
 clear hV
 have HC := hidI hC
 have HQ := hidI hQ
 have HPan := hidI hpan
 have HOne := hidI hone
 obtain ⟨ua, ul, uc, rfl⟩ := hus
 clear hQ hpan hC hone
 refine zaB [11, 12, 13, 14] (i := 0) (v := (.pointer (some ⟨B, 0, none⟩))) opsMain_0 (by kernel_rfl) (by kernel_rfl) (by kernel_rfl) (by kernel_rfl) (fun c a w h => HPan.out c a w _ _ h) (.inl ⟨by rfl, fun y hy => ?_⟩) hu ?_
 ·go_simp
 refine zaB [2, 3, 4, 5, 10, 11, 12, 13, 14] (i := 1) (v := (.pointer (some ⟨B, 0, none⟩))) opsMain_1 (by kernel_rfl) (by kernel_rfl) (by kernel_rfl) (by kernel_rfl) (fun c a w h => HPan.out c a w _ _ h) (.inl ⟨by rfl, fun y hy => ?_⟩) hu ?_
 ·go_simp
 refine zaB [3, 4, 5, 10, 11, 12, 13, 14] (i := 2) (v := (.pointer (some ⟨B, 0, none⟩))) opsMain_2 (by kernel_rfl) (by kernel_rfl) (by kernel_rfl) (by kernel_rfl) (fun c a w h => HPan.out c a w _ _ h) (.inl ⟨by rfl, fun y hy => ?_⟩) hu ?_
 ·go_simp
 refine zaB [4, 5, 10, 11, 12, 13, 14] (i := 3) (v := (.pointer (some ⟨B, 6, none⟩))) opsMain_3 (by kernel_rfl) (by kernel_rfl) (by kernel_rfl) (by kernel_rfl) (fun c a w h => HPan.out c a w _ _ h) (.inl ⟨by rfl, fun y hy => ?_⟩) hu ?_
 ·go_simp
 refine zaB [5, 10, 11, 12, 13, 14] (i := 4) (v := (.pointer (some ⟨B, 9, none⟩))) opsMain_4 (by kernel_rfl) (by kernel_rfl) (by kernel_rfl) (by kernel_rfl) (fun c a w h => HPan.out c a w _ _ h) (.inl ⟨by rfl, fun y hy => ?_⟩) hu ?_
 ·go_simp
 refine zaB [10, 11, 12, 13, 14] (i := 5) (v := (.slice ua ul uc)) opsMain_5 (by kernel_rfl) (by kernel_rfl) (by kernel_rfl) (by kernel_rfl) (fun c a w h => HPan.out c a w _ _ h) (.inl ⟨by rfl, fun y hy => ?_⟩) hu ?_
 ·have q0 := hy; go_simp
 refine zaB [8, 9, 10, 11, 12, 13, 14] (i := 6) (v := (.pointer (some ⟨B, 0, none⟩))) opsMain_6 (by kernel_rfl) (by kernel_rfl) (by kernel_rfl) (by kernel_rfl) (fun c a w h => HPan.out c a w _ _ h) (.inl ⟨by rfl, fun y hy => ?_⟩) hu ?_
 ·go_simp
 refine zaB [8, 9, 10, 11, 12, 13, 14] (i := 7) (v := (.int .i64 at_)) opsMain_7 (by kernel_rfl) (by kernel_rfl) (by kernel_rfl) (by kernel_rfl) (fun c a w h => HPan.out c a w _ _ h) (.inl ⟨by rfl, fun y hy => ?_⟩) hu ?_
 ·go_simp
 refine zaT (rs := [8]) (by kernel_rfl) (by simp) fun j8 hj8 => ?_
 obtain rfl : j8 = 8 := by simpa using hj8
 refine zaP opsMain_8 rfl fun K1 hK1 => ?_
 unfold Oper.wp
 go_simp
 refine Calls.mono HC.out ?_
 intro e W1 h1
 rcases h1 with ⟨i, rfl, hu1, hf1, ho1, hb1, hP1⟩ | ⟨ch, rfl, hp⟩
 rotate_left
 ·exact hp _ rfl
 have HP1 := hidI hP1
 have HOwn := hidI ho1
 clear hP1 ho1 HC
 refine hK1 _ _ ⟨fun _ => hu1, ?_⟩
 clear hK1 K1
 refine zaT (rs := [9]) (by kernel_rfl) (by simp) fun j9 hj9 => ?_
 obtain rfl : j9 = 9 := by simpa using hj9
 refine zaP opsMain_9 rfl fun K1 hK1 => ?_
 unfold Oper.wp
 go_simp
 have hBl : B < W1.heap.size := World.block_lt_of_cell? W1 _ hu1
 have hA : Below W1.heap.size W1 (W1.alloc (.cells #[.int .i64 i] 3)) := by (repeat (first | exact Below.refl _ _ | assumption | refine Below.drew ?_ | refine Below.alloc ?_ (by first | omega | (simp; done) | (simp; omega)) _ | refine Below.setCell ?_ (by first | omega | (simp; done) | (simp; omega)) _))
 have huA : (W1.alloc (.cells #[.int .i64 i] 3)).cell? ⟨B, 9, none⟩ = some (.slice ua ul uc) := (World.cell?_of_block (w := W1) (hA.block _ hBl)).trans hu1
 refine hK1 _ _ ⟨fun _ => huA, ?_⟩
 clear hK1 K1
 have HO2 := hidI (HOwn.out.alloc (.cells #[.int .i64 i] 3))
 have HV := hidI (zdM W1 3 1 #[.int .i64 i] rfl)
 have hfA : (W1.alloc (.cells #[.int .i64 i] 3)).frozen? ⟨B, 9, none⟩ = false := (hA.frozen (p := ⟨B, 9, none⟩) hBl).trans hf1
 have hszA : (W1.alloc (.cells #[.int .i64 i] 3)).heap.size = W1.heap.size + 1 := by simp
 obtain ⟨VA, hVA⟩ : ∃ VA, W1.alloc (.cells #[.int .i64 i] 3) = VA := ⟨_, rfl⟩
 have HVA := hidI hVA
 rw [hVA] at HO2 HV hfA hszA huA ⊢
 clear hVA hA
 refine zaT (rs := [10]) (by kernel_rfl) (by simp) fun j10 hj10 => ?_
 obtain rfl : j10 = 10 := by simpa using hj10
 refine zaP opsMain_10 rfl fun K1 hK1 => ?_
 refine zbF Tryz.underlying45 Tryz.info3z rfl (by decide) (by decide) _ _ rfl base _ n xs rfl HO2.out _ 1 [.int .i64 i] rfl HV.out (HOne.out i) (by omega) (by omega) ?_
 intro u' W5 hown5 hgrow5 hat5
 have HO5 := hidI hown5
 have HG5 := hidI hgrow5
 have HAT : Hid (u'.ownBlock = Value.ownBlock (.slice ua ul uc) ∨ u'.ownBlock = some (W1.heap.size + 1)) := hidI (hszA ▸ hat5)
 have hu5 : W5.cell? ⟨B, 9, none⟩ = some (.slice ua ul uc) := (World.cell?_of_block (w := VA) (hgrow5.block B (by omega) (fun e => hB e.symm))).trans huA
 have hf5 : W5.frozen? ⟨B, 9, none⟩ = false := (World.frozen?_of_block (w := VA) (a := ⟨B, 9, none⟩) (hgrow5.block B (by omega) (fun e => hB e.symm))).trans hfA
 obtain ⟨a9, l9, c9, hv6⟩ : ∃ a9 l9 c9, u' = .slice a9 l9 c9 := by
  rcases hown5.2 with ⟨rfl, _⟩ | ⟨_, _, _, rfl, _⟩ <;> exact ⟨_, _, _, rfl⟩
 subst hv6
 refine hK1 _ _ ⟨fun _ => hu5, ?_⟩
 clear hK1 K1 hown5 hgrow5 hat5
 refine zaB [12, 13, 14] (i := 11) (v := (.pointer (some ⟨B, 0, none⟩))) opsMain_11 (by kernel_rfl) (by kernel_rfl) (by kernel_rfl) (by kernel_rfl) (fun c a w h => HPan.out c a w _ _ h) (.inl ⟨by rfl, fun y hy => ?_⟩) hu5 ?_
 ·go_simp
 refine zaB [13, 14] (i := 12) (v := (.pointer (some ⟨B, 6, none⟩))) opsMain_12 (by kernel_rfl) (by kernel_rfl) (by kernel_rfl) (by kernel_rfl) (fun c a w h => HPan.out c a w _ _ h) (.inl ⟨by rfl, fun y hy => ?_⟩) hu5 ?_
 ·go_simp
 refine zaB [14] (i := 13) (v := (.pointer (some ⟨B, 9, none⟩))) opsMain_13 (by kernel_rfl) (by kernel_rfl) (by kernel_rfl) (by kernel_rfl) (fun c a w h => HPan.out c a w _ _ h) (.inl ⟨by rfl, fun y hy => ?_⟩) hu5 ?_
 ·go_simp
 refine zbJ (by kernel_rfl) (by kernel_rfl) ?_ _
 refine zaP opsMain_14 rfl fun K1 hK1 => ?_
 unfold Oper.wp
 go_simp
 refine hK1 _ _ ?_
 exact HQ.out i W1 _ _ _ _ _ _ _ _ _ _ _ _ _ _ _ _ HP1.out (by rw [HVA.out]; exact HG5.out) HO5.out HAT.out
end Go.Proofs.YtmekkhfohmfjkaaGreatDoor
