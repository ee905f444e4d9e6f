/-
  Part 8 of the proof: Reg11, Reg9, Take.
-/
import Derived.Test.YtmekkhfohmfjkaaGreatDoorTm07
namespace Go.Proofs.YtmekkhfohmfjkaaGreatDoor
open Go.RowKit Go.Deep Go.MapKept
theorem RD.down {w w' : World} {base B : Nat} {fs : List FV} {top opn : List Nat} {fv tv ov : Value} (h : RD w base B fs top opn fv tv ov) (hb : Below w.heap.size w w') : RD w' base B fs top opn fv tv ov :=
 RowsOk.far (row := none) h ⟨hb.os, hb.tape, hb.output, hb.size, fun k hk _ => hb.block k hk⟩ (fun r _ => by cases r.v.ownBlock <;> simp)
def rr11 : Array Oper := #[⟨some 60, .move (.tmp 0), 202, "parse.go:57", #[], none⟩, ⟨some 61, .fieldAddr 91 (.tmp 3) 1, 0, "parse.go:57", #[], none⟩, ⟨some 62, .load 9 (.tmp 61), 9, "parse.go:57", #[⟨1, .data⟩], none⟩, ⟨some 63, .call ⟨.value (.func 36), #[.tmp 62], #[9]⟩, 9, "parse.go:57", #[⟨2, .data⟩], none⟩, ⟨some 64, .fieldAddr 91 (.tmp 3) 3, 0, "parse.go:57", #[], none⟩, ⟨some 65, .load 3 (.tmp 64), 3, "parse.go:57", #[⟨4, .data⟩], none⟩, ⟨some 66, .build 115 #[(0, .const (.int .u8 3)), (1, .tmp 63), (4, .tmp 65)], 115, "parse.go:57", #[⟨3, .data⟩, ⟨5, .data⟩], none⟩, ⟨some 67, .call ⟨.value (.func 113), #[.tmp 60, .tmp 66], #[202, 115]⟩, 3, "parse.go:57", #[⟨0, .data⟩, ⟨6, .data⟩, ⟨3, .chain⟩], none⟩]
theorem rr11_0 : rr11[0]? = some ⟨some 60, .move (.tmp 0), 202, "parse.go:57", #[], none⟩ := by kernel_rfl
theorem rr11_1 : rr11[1]? = some ⟨some 61, .fieldAddr 91 (.tmp 3) 1, 0, "parse.go:57", #[], none⟩ := by kernel_rfl
theorem rr11_2 : rr11[2]? = some ⟨some 62, .load 9 (.tmp 61), 9, "parse.go:57", #[⟨1, .data⟩], none⟩ := by kernel_rfl
theorem rr11_3 : rr11[3]? = some ⟨some 63, .call ⟨.value (.func 36), #[.tmp 62], #[9]⟩, 9, "parse.go:57", #[⟨2, .data⟩], none⟩ := by kernel_rfl
theorem rr11_4 : rr11[4]? = some ⟨some 64, .fieldAddr 91 (.tmp 3) 3, 0, "parse.go:57", #[], none⟩ := by kernel_rfl
theorem rr11_5 : rr11[5]? = some ⟨some 65, .load 3 (.tmp 64), 3, "parse.go:57", #[⟨4, .data⟩], none⟩ := by kernel_rfl
theorem rr11_6 : rr11[6]? = some ⟨some 66, .build 115 #[(0, .const (.int .u8 3)), (1, .tmp 63), (4, .tmp 65)], 115, "parse.go:57", #[⟨3, .data⟩, ⟨5, .data⟩], none⟩ := by kernel_rfl
theorem rr11_7 : rr11[7]? = some ⟨some 67, .call ⟨.value (.func 113), #[.tmp 60, .tmp 66], #[202, 115]⟩, 3, "parse.go:57", #[⟨0, .data⟩, ⟨6, .data⟩, ⟨3, .chain⟩], none⟩ := by kernel_rfl
set_option maxRecDepth 100000 in
set_option maxHeartbeats 2500000 in
theorem reg11 {x1 x2 x4 x5 x6 x7 x8 x9 x10 x11 x12 x13 x14 x15 x16 x17 x18 x19 x20 x21 x22 x23 x24 x25 x26 x27 x28 x29 x30 x31 x32 x33 x34 x35 x36 x37 x38 x39 x40 x41 x42 x43 x44 x45 x46 x47 x48 x49 x50 x51 x52 x53 x54 x55 x56 x57 x58 x59 x60 x61 x62 x63 x64 x65 x66 x67 x68 x69 x70 x71 x72 x73 x74 x75 x76 : Value} {Q : Exit → Act → World → Prop} {V0 : World} {B TB base : Nat} {fs : List FV} {top opn : List Nat} {fv tv ov : Value} {p : Int} {s : ByteArray} (hs : s.size ≤ 140737488355328)
  (hRD : RD V0.drew base B fs top opn fv tv ov) (hG : Good ⟨fs.map Prod.fst, top, opn⟩) (hS0 : V0.drew.cell? ⟨TB, 1, none⟩ = some (.string s) ∧ V0.drew.cell? ⟨TB, 3, none⟩ = some (.int .i64 p))
  (hpan : ∀ c (a : Act) w (dd : Tmp) vv, Q (.panic c) (a.put (some dd) vv) w → Q (.panic c) a w)
  (hQp : ∀ (a : Act) (W : World), fs.length = 400 → Below V0.drew.heap.size V0.drew W → a.defers = [] → Q (.panic (flt p 4)) a W)
  (hQ : ∀ (W5 : World) (fs' : List FV) (top' : List Nat) (fv' tv' : Value) (t60 t61 t62 t63 t64 t65 t66 t67 : Value), ¬ fs.length = 400 → Below base V0.drew W5 → RD W5 base B fs' top' opn fv' tv' ov → addF ⟨3, s, 0, [], p⟩ ⟨fs.map Prod.fst, top, opn⟩ = ⟨fs'.map Prod.fst, top', opn⟩ → Q .normal { tmps := #[.pointer (some ⟨B, 0, none⟩), x1, x2, .pointer (some ⟨TB, 0, none⟩), x4, x5, x6, x7, x8, x9, x10, x11, x12, x13, x14, x15, x16, x17, x18, x19, x20, x21, x22, x23, x24, x25, x26, x27, x28, x29, x30, x31, x32, x33, x34, x35, x36, x37, x38, x39, x40, x41, x42, x43, x44, x45, x46, x47, x48, x49, x50, x51, x52, x53, x54, x55, x56, x57, x58, x59, t60, t61, t62, t63, t64, t65, t66, t67, x68, x69, x70, x71, x72, x73, x74, x75, x76], defers := [] } W5) :
  (Code.region 11 rr11 true).wp Tryz.prog Q { tmps := #[.pointer (some ⟨B, 0, none⟩), x1, x2, .pointer (some ⟨TB, 0, none⟩), x4, x5, x6, x7, x8, x9, x10, x11, x12, x13, x14, x15, x16, x17, x18, x19, x20, x21, x22, x23, x24, x25, x26, x27, x28, x29, x30, x31, x32, x33, x34, x35, x36, x37, x38, x39, x40, x41, x42, x43, x44, x45, x46, x47, x48, x49, x50, x51, x52, x53, x54, x55, x56, x57, x58, x59, x60, x61, x62, x63, x64, x65, x66, x67, x68, x69, x70, x71, x72, x73, x74, x75, x76], defers := [] } V0 := by
 refine zbC (fun y => y.cell? ⟨TB, 1, none⟩ = some (.string s) ∧ y.cell? ⟨TB, 3, none⟩ = some (.int .i64 p)) 7 Tryz.mixed ?_
 obtain ⟨V, hV⟩ : ∃ V, V0.drew = V := ⟨_, rfl⟩
 rw [hV] at hRD hS0 hQp hQ ⊢
 clear hV
 have HQ := hidI hQ
 have HQp := hidI hQp
 have HPan := hidI hpan
 have HR := hidI hRD
 have HG := hidI hG
 have hlt := hRD.lt
 have hTl : TB < V.heap.size := World.block_lt_of_cell? V _ hS0.1
 clear hQ hpan hQp hRD hG
 refine zaB [7] (i := 0) (v := (.pointer (some ⟨B, 0, none⟩))) rr11_0 (by kernel_rfl) (by kernel_rfl) (by kernel_rfl) (by kernel_rfl) (fun c a w h => HPan.out c a w _ _ h) (.inl ⟨by rfl, fun y hy => ?_⟩) hS0 ?_
 ·obtain ⟨hy0, hy1⟩ := hy
  go_simp
 refine zaB [2, 3, 6, 7] (i := 1) (v := (.pointer (some ⟨TB, 1, none⟩))) rr11_1 (by kernel_rfl) (by kernel_rfl) (by kernel_rfl) (by kernel_rfl) (fun c a w h => HPan.out c a w _ _ h) (.inl ⟨by rfl, fun y hy => ?_⟩) hS0 ?_
 ·obtain ⟨hy0, hy1⟩ := hy
  go_simp
 refine zaB [3, 6, 7] (i := 2) (v := (.string s)) rr11_2 (by kernel_rfl) (by kernel_rfl) (by kernel_rfl) (by kernel_rfl) (fun c a w h => HPan.out c a w _ _ h) (.inl ⟨by rfl, fun y hy => ?_⟩) hS0 ?_
 ·obtain ⟨hy0, hy1⟩ := hy
  go_simp
 refine zaB [5, 6, 7] (i := 4) (v := (.pointer (some ⟨TB, 3, none⟩))) rr11_4 (by kernel_rfl) (by kernel_rfl) (by kernel_rfl) (by kernel_rfl) (fun c a w h => HPan.out c a w _ _ h) (.inl ⟨by rfl, fun y hy => ?_⟩) hS0 ?_
 ·obtain ⟨hy0, hy1⟩ := hy
  go_simp
 refine zaB [6, 7] (i := 5) (v := (.int .i64 p)) rr11_5 (by kernel_rfl) (by kernel_rfl) (by kernel_rfl) (by kernel_rfl) (fun c a w h => HPan.out c a w _ _ h) (.inl ⟨by rfl, fun y hy => ?_⟩) hS0 ?_
 ·obtain ⟨hy0, hy1⟩ := hy
  go_simp
 refine zaT (rs := [3]) (by kernel_rfl) (by simp) fun j3 hj3 => ?_
 obtain rfl : j3 = 3 := by simpa using hj3
 refine zaP rr11_3 rfl fun K1 hK1 => ?_
 unfold Oper.wp
 go_simp
 refine Calls.mono (clone_any s hs _) ?_
 rintro e W1 ⟨rfl, hb1⟩
 go_simp
 have H1 := hidI hb1
 have HR1 := hidI (HR.out.down hb1)
 have hS1 : W1.cell? ⟨TB, 1, none⟩ = some (.string s) ∧ W1.cell? ⟨TB, 3, none⟩ = some (.int .i64 p) := ⟨(hb1.cell hTl).trans hS0.1, (hb1.cell hTl).trans hS0.2⟩
 clear hb1
 refine hK1 _ _ ⟨fun _ => hS1, ?_⟩
 clear hK1 K1
 refine zaT (rs := [6]) (by kernel_rfl) (by simp) fun j6 hj6 => ?_
 obtain rfl : j6 = 6 := by simpa using hj6
 refine zaP rr11_6 rfl fun K1 hK1 => ?_
 unfold Oper.wp
 go_simp
 refine hK1 _ _ ⟨fun _ => hS1, ?_⟩
 clear hK1 K1
 refine zbJ (by kernel_rfl) (by kernel_rfl) ?_ _
 refine zaP rr11_7 rfl fun K1 hK1 => ?_
 unfold Oper.wp
 go_simp
 refine Calls.mono (add_any HR1.out HG.out ⟨3, s, 0, [], p⟩ rfl) ?_
 intro e W2 hres
 unfold AddRes at hres
 have hB1 : Below base V W1 := H1.out.mono (by omega)
 by_cases hfull : fs.length = 400
 ·rw [if_pos hfull] at hres
  obtain ⟨rfl, hbp⟩ := hres
  go_simp
  exact HQp.out _ _ hfull (H1.out.trans (hbp.mono H1.out.size)) rfl
 rw [if_neg hfull] at hres
 obtain ⟨rfl, hchg, fs', top', fv', tv', hRD1, hadd⟩ := hres
 go_simp
 refine hK1 _ _ ?_
 have hz := H1.out.size
 have q := hchg.below (n := base) (by omega) (fun k hk hr => by have := HR1.out.block hr; omega)
 exact HQ.out _ _ _ _ _ _ _ _ _ _ _ _ _ hfull (hB1.trans q) hRD1 hadd
def rr9 : Array Oper := #[⟨some 44, .move (.tmp 0), 202, "parse.go:55", #[], none⟩, ⟨some 45, .move (.tmp 0), 202, "parse.go:55", #[], none⟩, ⟨some 46, .nilCheck (.tmp 45), 0, "parse.go:55", #[⟨1, .data⟩], none⟩, ⟨some 47, .fieldAddr 94 (.tmp 46) 2, 0, "parse.go:55", #[⟨2, .data⟩], none⟩, ⟨some 48, .load 45 (.tmp 47), 45, "parse.go:55", #[⟨3, .data⟩], none⟩, ⟨some 49, .move (.tmp 0), 202, "parse.go:55", #[], none⟩, ⟨some 50, .nilCheck (.tmp 49), 0, "parse.go:55", #[⟨5, .data⟩], none⟩, ⟨some 51, .fieldAddr 94 (.tmp 50) 2, 0, "parse.go:55", #[⟨6, .data⟩], none⟩, ⟨some 52, .load 45 (.tmp 51), 45, "parse.go:55", #[⟨7, .data⟩], none⟩, ⟨some 53, .call ⟨.builtin .len, #[.tmp 52], #[45]⟩, 3, "parse.go:55", #[⟨8, .data⟩], none⟩, ⟨some 54, .binOp .sub 3 (.tmp 53) (.const (.int .i64 1)) 3, 3, "parse.go:55", #[⟨9, .data⟩], none⟩, ⟨some 55, .slice 45 (.tmp 48) none (some (.tmp 54)) none, 45, "parse.go:55", #[⟨4, .data⟩, ⟨10, .data⟩], none⟩, ⟨some 56, .nilCheck (.tmp 44), 0, "parse.go:55", #[⟨0, .data⟩, ⟨0, .phase⟩, ⟨1, .phase⟩, ⟨2, .phase⟩, ⟨3, .phase⟩, ⟨4, .phase⟩, ⟨5, .phase⟩, ⟨6, .phase⟩, ⟨7, .phase⟩, ⟨8, .phase⟩, ⟨9, .phase⟩, ⟨10, .phase⟩, ⟨11, .phase⟩], none⟩, ⟨some 57, .fieldAddr 94 (.tmp 56) 2, 0, "parse.go:55", #[⟨12, .data⟩, ⟨0, .phase⟩, ⟨1, .phase⟩, ⟨2, .phase⟩, ⟨3, .phase⟩, ⟨4, .phase⟩, ⟨5, .phase⟩, ⟨6, .phase⟩, ⟨7, .phase⟩, ⟨8, .phase⟩, ⟨9, .phase⟩, ⟨10, .phase⟩, ⟨11, .phase⟩], none⟩, ⟨none, .store 45 (.tmp 57) (.tmp 55), 0, "parse.go:55", #[⟨13, .data⟩, ⟨11, .data⟩, ⟨0, .phase⟩, ⟨1, .phase⟩, ⟨2, .phase⟩, ⟨3, .phase⟩, ⟨4, .phase⟩, ⟨5, .phase⟩, ⟨6, .phase⟩, ⟨7, .phase⟩, ⟨8, .phase⟩, ⟨9, .phase⟩, ⟨10, .phase⟩, ⟨11, .phase⟩], none⟩]
theorem rr9_0 : rr9[0]? = some ⟨some 44, .move (.tmp 0), 202, "parse.go:55", #[], none⟩ := by kernel_rfl
theorem rr9_1 : rr9[1]? = some ⟨some 45, .move (.tmp 0), 202, "parse.go:55", #[], none⟩ := by kernel_rfl
theorem rr9_2 : rr9[2]? = some ⟨some 46, .nilCheck (.tmp 45), 0, "parse.go:55", #[⟨1, .data⟩], none⟩ := by kernel_rfl
theorem rr9_3 : rr9[3]? = some ⟨some 47, .fieldAddr 94 (.tmp 46) 2, 0, "parse.go:55", #[⟨2, .data⟩], none⟩ := by kernel_rfl
theorem rr9_4 : rr9[4]? = some ⟨some 48, .load 45 (.tmp 47), 45, "parse.go:55", #[⟨3, .data⟩], none⟩ := by kernel_rfl
theorem rr9_5 : rr9[5]? = some ⟨some 49, .move (.tmp 0), 202, "parse.go:55", #[], none⟩ := by kernel_rfl
theorem rr9_6 : rr9[6]? = some ⟨some 50, .nilCheck (.tmp 49), 0, "parse.go:55", #[⟨5, .data⟩], none⟩ := by kernel_rfl
theorem rr9_7 : rr9[7]? = some ⟨some 51, .fieldAddr 94 (.tmp 50) 2, 0, "parse.go:55", #[⟨6, .data⟩], none⟩ := by kernel_rfl
theorem rr9_8 : rr9[8]? = some ⟨some 52, .load 45 (.tmp 51), 45, "parse.go:55", #[⟨7, .data⟩], none⟩ := by kernel_rfl
theorem rr9_9 : rr9[9]? = some ⟨some 53, .call ⟨.builtin .len, #[.tmp 52], #[45]⟩, 3, "parse.go:55", #[⟨8, .data⟩], none⟩ := by kernel_rfl
theorem rr9_10 : rr9[10]? = some ⟨some 54, .binOp .sub 3 (.tmp 53) (.const (.int .i64 1)) 3, 3, "parse.go:55", #[⟨9, .data⟩], none⟩ := by kernel_rfl
theorem rr9_11 : rr9[11]? = some ⟨some 55, .slice 45 (.tmp 48) none (some (.tmp 54)) none, 45, "parse.go:55", #[⟨4, .data⟩, ⟨10, .data⟩], none⟩ := by kernel_rfl
theorem rr9_12 : rr9[12]? = some ⟨some 56, .nilCheck (.tmp 44), 0, "parse.go:55", #[⟨0, .data⟩, ⟨0, .phase⟩, ⟨1, .phase⟩, ⟨2, .phase⟩, ⟨3, .phase⟩, ⟨4, .phase⟩, ⟨5, .phase⟩, ⟨6, .phase⟩, ⟨7, .phase⟩, ⟨8, .phase⟩, ⟨9, .phase⟩, ⟨10, .phase⟩, ⟨11, .phase⟩], none⟩ := by kernel_rfl
theorem rr9_13 : rr9[13]? = some ⟨some 57, .fieldAddr 94 (.tmp 56) 2, 0, "parse.go:55", #[⟨12, .data⟩, ⟨0, .phase⟩, ⟨1, .phase⟩, ⟨2, .phase⟩, ⟨3, .phase⟩, ⟨4, .phase⟩, ⟨5, .phase⟩, ⟨6, .phase⟩, ⟨7, .phase⟩, ⟨8, .phase⟩, ⟨9, .phase⟩, ⟨10, .phase⟩, ⟨11, .phase⟩], none⟩ := by kernel_rfl
theorem rr9_14 : rr9[14]? = some ⟨none, .store 45 (.tmp 57) (.tmp 55), 0, "parse.go:55", #[⟨13, .data⟩, ⟨11, .data⟩, ⟨0, .phase⟩, ⟨1, .phase⟩, ⟨2, .phase⟩, ⟨3, .phase⟩, ⟨4, .phase⟩, ⟨5, .phase⟩, ⟨6, .phase⟩, ⟨7, .phase⟩, ⟨8, .phase⟩, ⟨9, .phase⟩, ⟨10, .phase⟩, ⟨11, .phase⟩], none⟩ := by kernel_rfl
set_option maxRecDepth 100000 in
set_option maxHeartbeats 2500000 in
theorem reg9 {x1 x2 x3 x4 x5 x6 x7 x8 x9 x10 x11 x12 x13 x14 x15 x16 x17 x18 x19 x20 x21 x22 x23 x24 x25 x26 x27 x28 x29 x30 x31 x32 x33 x34 x35 x36 x37 x38 x39 x40 x41 x42 x43 x44 x45 x46 x47 x48 x49 x50 x51 x52 x53 x54 x55 x56 x57 x58 x59 x60 x61 x62 x63 x64 x65 x66 x67 x68 x69 x70 x71 x72 x73 x74 x75 x76 : Value} {Q : Exit → Act → World → Prop} {V0 : World} {B og oc m : Nat} (hS0 : V0.drew.cell? ⟨B, 2, none⟩ = some (.slice (some ⟨og, 0, none⟩) (m + 1) oc)) (hfz : V0.drew.frozen? ⟨B, 2, none⟩ = false) (e4 : m ≤ oc) (e9 : m ≤ 12)
  (hpan : ∀ c (a : Act) w (dd : Tmp) vv, Q (.panic c) (a.put (some dd) vv) w → Q (.panic c) a w)
  (hQ : ∀ (t44 t45 t46 t47 t48 t49 t50 t51 t52 t53 t54 t55 t56 t57 : Value), Q .normal { tmps := #[.pointer (some ⟨B, 0, none⟩), x1, x2, x3, x4, x5, x6, x7, x8, x9, x10, x11, x12, x13, x14, x15, x16, x17, x18, x19, x20, x21, x22, x23, x24, x25, x26, x27, x28, x29, x30, x31, x32, x33, x34, x35, x36, x37, x38, x39, x40, x41, x42, x43, t44, t45, t46, t47, t48, t49, t50, t51, t52, t53, t54, t55, t56, t57, x58, x59, x60, x61, x62, x63, x64, x65, x66, x67, x68, x69, x70, x71, x72, x73, x74, x75, x76], defers := [] } (V0.drew.setCell ⟨B, 2, none⟩ (.slice (some ⟨og, 0, none⟩) m oc))) :
  (Code.region 9 rr9 true).wp Tryz.prog Q { tmps := #[.pointer (some ⟨B, 0, none⟩), x1, x2, x3, x4, x5, x6, x7, x8, x9, x10, x11, x12, x13, x14, x15, x16, x17, x18, x19, x20, x21, x22, x23, x24, x25, x26, x27, x28, x29, x30, x31, x32, x33, x34, x35, x36, x37, x38, x39, x40, x41, x42, x43, x44, x45, x46, x47, x48, x49, x50, x51, x52, x53, x54, x55, x56, x57, x58, x59, x60, x61, x62, x63, x64, x65, x66, x67, x68, x69, x70, x71, x72, x73, x74, x75, x76], defers := [] } V0 := by
 refine zbC (fun y => y.cell? ⟨B, 2, none⟩ = some (.slice (some ⟨og, 0, none⟩) (m + 1) oc)) 14 Tryz.mixed ?_
 obtain ⟨V, hV⟩ : ∃ V, V0.drew = V := ⟨_, rfl⟩
 rw [hV] at hS0 hfz hQ ⊢
 clear hV
 have HQ := hidI hQ
 have HPan := hidI hpan
 have e1 : IntKind.i64.wrap (((m + 1 : Nat) : Int) - 1) = (m : Int) := by rw [show (((m + 1 : Nat) : Int) - 1) = (m : Int) by omega, IntKind.wrap_i64]; omega
 have e3 : (0 : Int) ≤ (m : Int) := by omega
 have e5 : ((m : Int)).toNat = m := by omega
 have e6 : (m : Int) ≤ (oc : Int) := by omega
 have e8 : IntKind.i64.wrap (m : Int) = (m : Int) := by rw [IntKind.wrap_i64]; omega
 clear hQ hpan
 refine zaB [14] (i := 0) (v := (.pointer (some ⟨B, 0, none⟩))) rr9_0 (by kernel_rfl) (by kernel_rfl) (by kernel_rfl) (by kernel_rfl) (fun c a w h => HPan.out c a w _ _ h) (.inl ⟨by rfl, fun y hy => ?_⟩) hS0 ?_
 ·go_simp
 refine zaB [14] (i := 1) (v := (.pointer (some ⟨B, 0, none⟩))) rr9_1 (by kernel_rfl) (by kernel_rfl) (by kernel_rfl) (by kernel_rfl) (fun c a w h => HPan.out c a w _ _ h) (.inl ⟨by rfl, fun y hy => ?_⟩) hS0 ?_
 ·go_simp
 refine zaB [14] (i := 2) (v := (.pointer (some ⟨B, 0, none⟩))) rr9_2 (by kernel_rfl) (by kernel_rfl) (by kernel_rfl) (by kernel_rfl) (fun c a w h => HPan.out c a w _ _ h) (.inl ⟨by rfl, fun y hy => ?_⟩) hS0 ?_
 ·go_simp
 refine zaB [14] (i := 3) (v := (.pointer (some ⟨B, 2, none⟩))) rr9_3 (by kernel_rfl) (by kernel_rfl) (by kernel_rfl) (by kernel_rfl) (fun c a w h => HPan.out c a w _ _ h) (.inl ⟨by rfl, fun y hy => ?_⟩) hS0 ?_
 ·go_simp
 refine zaB [14] (i := 4) (v := (.slice (some ⟨og, 0, none⟩) (m + 1) oc)) rr9_4 (by kernel_rfl) (by kernel_rfl) (by kernel_rfl) (by kernel_rfl) (fun c a w h => HPan.out c a w _ _ h) (.inl ⟨by rfl, fun y hy => ?_⟩) hS0 ?_
 ·go_simp
 refine zaB [14] (i := 5) (v := (.pointer (some ⟨B, 0, none⟩))) rr9_5 (by kernel_rfl) (by kernel_rfl) (by kernel_rfl) (by kernel_rfl) (fun c a w h => HPan.out c a w _ _ h) (.inl ⟨by rfl, fun y hy => ?_⟩) hS0 ?_
 ·go_simp
 refine zaB [14] (i := 6) (v := (.pointer (some ⟨B, 0, none⟩))) rr9_6 (by kernel_rfl) (by kernel_rfl) (by kernel_rfl) (by kernel_rfl) (fun c a w h => HPan.out c a w _ _ h) (.inl ⟨by rfl, fun y hy => ?_⟩) hS0 ?_
 ·go_simp
 refine zaB [14] (i := 7) (v := (.pointer (some ⟨B, 2, none⟩))) rr9_7 (by kernel_rfl) (by kernel_rfl) (by kernel_rfl) (by kernel_rfl) (fun c a w h => HPan.out c a w _ _ h) (.inl ⟨by rfl, fun y hy => ?_⟩) hS0 ?_
 ·go_simp
 refine zaB [14] (i := 8) (v := (.slice (some ⟨og, 0, none⟩) (m + 1) oc)) rr9_8 (by kernel_rfl) (by kernel_rfl) (by kernel_rfl) (by kernel_rfl) (fun c a w h => HPan.out c a w _ _ h) (.inl ⟨by rfl, fun y hy => ?_⟩) hS0 ?_
 ·go_simp
 refine zaB [14] (i := 9) (v := (.int .i64 ((m + 1 : Nat) : Int))) rr9_9 (by kernel_rfl) (by kernel_rfl) (by kernel_rfl) (by kernel_rfl) (fun c a w h => HPan.out c a w _ _ h) (.inl ⟨by rfl, fun y hy => ?_⟩) hS0 ?_
 ·go_simp
 refine zaB [14] (i := 10) (v := (.int .i64 (m : Int))) rr9_10 (by kernel_rfl) (by kernel_rfl) (by kernel_rfl) (by kernel_rfl) (fun c a w h => HPan.out c a w _ _ h) (.inl ⟨by rfl, fun y hy => ?_⟩) hS0 ?_
 ·go_simp
 refine zaB [14] (i := 11) (v := (.slice (some ⟨og, 0, none⟩) m oc)) rr9_11 (by kernel_rfl) (by kernel_rfl) (by kernel_rfl) (by kernel_rfl) (fun c a w h => HPan.out c a w _ _ h) (.inl ⟨by rfl, fun y hy => ?_⟩) hS0 ?_
 ·go_simp
 refine zaT (rs := [12]) (by kernel_rfl) (by simp) fun j12 hj12 => ?_
 obtain rfl : j12 = 12 := by simpa using hj12
 refine zaP rr9_12 rfl fun K1 hK1 => ?_
 unfold Oper.wp
 go_simp
 refine hK1 _ _ ⟨fun _ => hS0, ?_⟩
 clear hK1 K1
 refine zaT (rs := [13]) (by kernel_rfl) (by simp) fun j13 hj13 => ?_
 obtain rfl : j13 = 13 := by simpa using hj13
 refine zaP rr9_13 rfl fun K1 hK1 => ?_
 unfold Oper.wp
 go_simp
 refine hK1 _ _ ⟨fun _ => hS0, ?_⟩
 clear hK1 K1
 refine zbJ (by kernel_rfl) (by kernel_rfl) ?_ _
 refine zaP rr9_14 rfl fun K1 hK1 => ?_
 unfold Oper.wp
 go_simp
 refine hK1 _ _ ?_
 exact HQ.out _ _ _ _ _ _ _ _ _ _ _ _ _ _
def TakeOk (w : World) (base B : Nat) (σ : St) (w' : World) : Prop :=
 Below base w w' ∧ ∃ fs top opn fv tv ov, RD w' base B fs top opn fv tv ov ∧ σ = ⟨fs.map Prod.fst, top, opn⟩
def TakeRes (w : World) (base B : Nat) (r : Except (Int × Int) St) (e : Ending) (w' : World) : Prop :=
 match r with
 | .error q => e = .panicked (flt q.1 q.2) ∧ Below w.heap.size w w'
 | .ok σ => e = .returned (.tuple #[]) ∧ TakeOk w base B σ w'
section
variable {w : World} {base B : Nat} {fs : List FV} {top opn : List Nat} {fv tv ov : Value}
theorem take_deep (h : RD w base B fs top opn fv tv ov) (s : ByteArray) (n p : Int) (hl : opn.length = 12) :
  Calls Tryz.prog 72 #[.pointer (some ⟨B, 0, none⟩), .agg #[.int .u8 1, .string s, .int .i64 n, .int .i64 p]] w fun e w' => e = .panicked (flt p 4) ∧ Below w.heap.size w w' := by
 have hlt := h.lt
 obtain ⟨oa, oc, rfl⟩ := zaF h.oo
 have c2 := (h.alloc (.cells #[.int .u8 1, .string s, .int .i64 n, .int .i64 p] 91)).c2
 rw [hl] at c2
 clear h
 go_enter Tryz.func72, Tryz.ntmps72
 go_wp2
 exact ⟨rfl, rfl, by (repeat (first | exact Below.refl _ _ | assumption | refine Below.drew ?_ | refine Below.alloc ?_ (by first | omega | (simp; done) | (simp; omega)) _ | refine Below.setCell ?_ (by first | omega | (simp; done) | (simp; omega)) _))⟩
theorem take_none (h : RD w base B fs top [] fv tv ov) (s : ByteArray) (n p : Int) :
  Calls Tryz.prog 72 #[.pointer (some ⟨B, 0, none⟩), .agg #[.int .u8 2, .string s, .int .i64 n, .int .i64 p]] w fun e w' => e = .panicked (flt p 8) ∧ Below w.heap.size w w' := by
 have hlt := h.lt
 obtain ⟨oa, oc, rfl⟩ := zaF h.oo
 have c2 := (h.alloc (.cells #[.int .u8 2, .string s, .int .i64 n, .int .i64 p] 91)).c2
 simp only [List.length_nil] at c2
 clear h
 go_enter Tryz.func72, Tryz.ntmps72
 go_wp2
 exact ⟨rfl, rfl, by (repeat (first | exact Below.refl _ _ | assumption | refine Below.drew ?_ | refine Below.alloc ?_ (by first | omega | (simp; done) | (simp; omega)) _ | refine Below.setCell ?_ (by first | omega | (simp; done) | (simp; omega)) _))⟩
theorem take_other (h : RD w base B fs top opn fv tv ov) (k : Int) (s : ByteArray) (n p : Int) (h1 : k ≠ 1) (h2 : k ≠ 2) (h3 : k ≠ 3) (h4 : k ≠ 4) :
  Calls Tryz.prog 72 #[.pointer (some ⟨B, 0, none⟩), .agg #[.int .u8 k, .string s, .int .i64 n, .int .i64 p]] w fun e w' => e = .returned (.tuple #[]) ∧ TakeOk w base B ⟨fs.map Prod.fst, top, opn⟩ w' := by
 have hlt := h.lt
 have hR := hidI (h.alloc (.cells #[.int .u8 k, .string s, .int .i64 n, .int .i64 p] 91))
 have q1 : (k == 1) = false := by simp [h1]
 have q2 : (k == 2) = false := by simp [h2]
 have q3 : (k == 3) = false := by simp [h3]
 have q4 : (k == 4) = false := by simp [h4]
 clear h
 go_enter Tryz.func72, Tryz.ntmps72
 go_wp2
 go_end0
 exact ⟨rfl, by (repeat (first | exact Below.refl _ _ | assumption | refine Below.drew ?_ | refine Below.alloc ?_ (by first | omega | (simp; done) | (simp; omega)) _ | refine Below.setCell ?_ (by first | omega | (simp; done) | (simp; omega)) _)), fs, top, opn, fv, tv, ov, hR.out, rfl⟩
theorem take_open (h : RD w base B fs top opn fv tv ov) (hG : Good ⟨fs.map Prod.fst, top, opn⟩) (s : ByteArray) (n p : Int) (hl : opn.length ≠ 12) :
  Calls Tryz.prog 72 #[.pointer (some ⟨B, 0, none⟩), .agg #[.int .u8 1, .string s, .int .i64 n, .int .i64 p]] w fun e w' =>
   (fs.length = 400 ∧ e = .panicked (flt p 4) ∧ Below w.heap.size w w') ∨ (¬ fs.length = 400 ∧ e = .returned (.tuple #[]) ∧ TakeOk w base B { addF ⟨1, ⟨#[]⟩, 0, [], p⟩ ⟨fs.map Prod.fst, top, opn⟩ with opn := opn ++ [fs.length] } w') := by
 have hlt := h.lt
 have HR := hidI (h.alloc (.cells #[.int .u8 1, .string s, .int .i64 n, .int .i64 p] 91))
 have HTR : Hid (¬ RB B fs top opn fv tv ov w.heap.size) := hidI fun hr => by have := h.block hr; omega
 have hb : Below base w (w.alloc (.cells #[.int .u8 1, .string s, .int .i64 n, .int .i64 p] 91)) := by (repeat (first | exact Below.refl _ _ | assumption | refine Below.drew ?_ | refine Below.alloc ?_ (by first | omega | (simp; done) | (simp; omega)) _ | refine Below.setCell ?_ (by first | omega | (simp; done) | (simp; omega)) _))
 have HB := hidI hb
 have HZ : Hid (Below w.heap.size w (w.alloc (.cells #[.int .u8 1, .string s, .int .i64 n, .int .i64 p] 91))) := hidI (by (repeat (first | exact Below.refl _ _ | assumption | refine Below.drew ?_ | refine Below.alloc ?_ (by first | omega | (simp; done) | (simp; omega)) _ | refine Below.setCell ?_ (by first | omega | (simp; done) | (simp; omega)) _)))
 have HG := hidI hG
 have ho := hG.open_len
 simp only at ho
 obtain ⟨oa, oc, hov⟩ := zaF h.oo
 have c2 := HR.out.c2
 rw [hov] at c2
 have q1 : ((opn.length : Int) == 12) = false := by rw [beq_eq_false_iff_ne]; omega
 have ct : (w.alloc (.cells #[.int .u8 1, .string s, .int .i64 n, .int .i64 p] 91)).cell? ⟨w.heap.size, 3, none⟩ = some (.int .i64 p) := by go_simp
 have CT := hidI ct
 clear h hG hb ct
 go_enter Tryz.func72, Tryz.ntmps72
 go_wp2
 refine reg5 (TB := w.heap.size) (p := p) HR.out.drew CT.out HTR.out ho (add_any HR.out.drew HG.out ⟨1, ⟨#[]⟩, 0, [], p⟩ rfl) (fun _ _ _ _ _ h => h) ?_ ?_
 ·intro a W hf hW hd
  exact ⟨hd, .inl ⟨hf, rfl, (HZ.out.drew.trans (hW.mono (by simp)))⟩⟩
 ·intro W5 fs' top' fv' tv' ov' t18 t19 t20 t21 t22 t23 t24 t25 t26 t27 t28 t29 t30 t31 hf hW hR5 hadd
  have hA : TakeOk w base B { addF ⟨1, ⟨#[]⟩, 0, [], p⟩ ⟨fs.map Prod.fst, top, opn⟩ with opn := opn ++ [fs.length] } W5 := ⟨HB.out.drew.trans hW, fs', top', _, fv', tv', ov', hR5, by rw [hadd]⟩
  have HA := hidI hA
  clear hA hR5 hadd
  go_wp2
  go_end0
  first | exact .inr ⟨hf, rfl, HA.out⟩ | exact ⟨rfl, HA.out⟩
theorem take_name (h : RD w base B fs top opn fv tv ov) (hG : Good ⟨fs.map Prod.fst, top, opn⟩) (s : ByteArray) (hs : s.size ≤ 140737488355328) (n p : Int) :
  Calls Tryz.prog 72 #[.pointer (some ⟨B, 0, none⟩), .agg #[.int .u8 3, .string s, .int .i64 n, .int .i64 p]] w fun e w' =>
   (fs.length = 400 ∧ e = .panicked (flt p 4) ∧ Below w.heap.size w w') ∨ (¬ fs.length = 400 ∧ e = .returned (.tuple #[]) ∧ TakeOk w base B (addF ⟨3, s, 0, [], p⟩ ⟨fs.map Prod.fst, top, opn⟩) w') := by
 have hlt := h.lt
 have HR := hidI (h.alloc (.cells #[.int .u8 3, .string s, .int .i64 n, .int .i64 p] 91))
 have hb : Below base w (w.alloc (.cells #[.int .u8 3, .string s, .int .i64 n, .int .i64 p] 91)) := by (repeat (first | exact Below.refl _ _ | assumption | refine Below.drew ?_ | refine Below.alloc ?_ (by first | omega | (simp; done) | (simp; omega)) _ | refine Below.setCell ?_ (by first | omega | (simp; done) | (simp; omega)) _))
 have HB := hidI hb
 have HZ : Hid (Below w.heap.size w (w.alloc (.cells #[.int .u8 3, .string s, .int .i64 n, .int .i64 p] 91))) := hidI (by (repeat (first | exact Below.refl _ _ | assumption | refine Below.drew ?_ | refine Below.alloc ?_ (by first | omega | (simp; done) | (simp; omega)) _ | refine Below.setCell ?_ (by first | omega | (simp; done) | (simp; omega)) _)))
 have HG := hidI hG
 have ct : (w.alloc (.cells #[.int .u8 3, .string s, .int .i64 n, .int .i64 p] 91)).cell? ⟨w.heap.size, 1, none⟩ = some (.string s) ∧ (w.alloc (.cells #[.int .u8 3, .string s, .int .i64 n, .int .i64 p] 91)).cell? ⟨w.heap.size, 3, none⟩ = some (.int .i64 p) := by constructor <;> go_simp
 have CT := hidI ct
 clear h hG hb ct
 go_enter Tryz.func72, Tryz.ntmps72
 go_wp2
 refine reg11 (TB := w.heap.size) (p := p) hs HR.out.drew HG.out CT.out (fun _ _ _ _ _ h => h) ?_ ?_
 ·intro a W hf hW hd
  exact ⟨hd, .inl ⟨hf, rfl, (HZ.out.drew.trans (hW.mono (by simp)))⟩⟩
 ·intro W5 fs' top' fv' tv' t60 t61 t62 t63 t64 t65 t66 t67 hf hW hR5 hadd
  have hA : TakeOk w base B (addF ⟨3, s, 0, [], p⟩ ⟨fs.map Prod.fst, top, opn⟩) W5 := ⟨HB.out.drew.trans hW, fs', top', _, fv', tv', ov, hR5, by rw [hadd]⟩
  have HA := hidI hA
  clear hA hR5 hadd
  go_wp2
  go_end0
  first | exact .inr ⟨hf, rfl, HA.out⟩ | exact ⟨rfl, HA.out⟩
theorem take_num (h : RD w base B fs top opn fv tv ov) (hG : Good ⟨fs.map Prod.fst, top, opn⟩) (s : ByteArray) (n p : Int) :
  Calls Tryz.prog 72 #[.pointer (some ⟨B, 0, none⟩), .agg #[.int .u8 4, .string s, .int .i64 n, .int .i64 p]] w fun e w' =>
   TakeRes w base B (if fs.length = 400 then .error (p, 4) else .ok (addF ⟨4, ⟨#[]⟩, n, [], p⟩ ⟨fs.map Prod.fst, top, opn⟩)) e w' := by
 have hlt := h.lt
 have HR := hidI (h.alloc (.cells #[.int .u8 4, .string s, .int .i64 n, .int .i64 p] 91))
 have hb : Below base w (w.alloc (.cells #[.int .u8 4, .string s, .int .i64 n, .int .i64 p] 91)) := by (repeat (first | exact Below.refl _ _ | assumption | refine Below.drew ?_ | refine Below.alloc ?_ (by first | omega | (simp; done) | (simp; omega)) _ | refine Below.setCell ?_ (by first | omega | (simp; done) | (simp; omega)) _))
 have HB := hidI hb
 have HZ : Hid (Below w.heap.size w (w.alloc (.cells #[.int .u8 4, .string s, .int .i64 n, .int .i64 p] 91))) := hidI (by (repeat (first | exact Below.refl _ _ | assumption | refine Below.drew ?_ | refine Below.alloc ?_ (by first | omega | (simp; done) | (simp; omega)) _ | refine Below.setCell ?_ (by first | omega | (simp; done) | (simp; omega)) _)))
 have HC := hidI (add_any HR.out hG ⟨4, ⟨#[]⟩, n, [], p⟩ rfl)
 clear h hG hb
 by_cases hf : fs.length = 400
 ·simp only [if_pos hf]
  go_enter Tryz.func72, Tryz.ntmps72
  go_wp2_with (go_at_call 113; refine HC.out.mono ?_; intro e w1 hres; unfold AddRes at hres; rw [if_pos hf] at hres; obtain ⟨rfl, hb1⟩ := hres; clear HC)
  exact ⟨rfl, rfl, HZ.out.trans (hb1.mono (by simp))⟩
 ·simp only [if_neg hf]
  go_enter Tryz.func72, Tryz.ntmps72
  go_wp2_with (go_at_call 113; refine HC.out.mono ?_; intro e w1 hres; unfold AddRes at hres; rw [if_neg hf] at hres; obtain ⟨rfl, hres1⟩ := hres; have HP := hidI hres1; clear hres1 HC)
  go_end0
  obtain ⟨hchg, fs', top', fv', tv', hR5, hadd⟩ := HP.out
  exact ⟨rfl, HB.out.trans (hchg.below (n := base) (by have := HR.out.lt; omega) (fun k hk hr => by have := HR.out.block hr; omega)), fs', top', _, fv', tv', ov, hR5, hadd⟩
theorem take_close (h : RD w base B fs top opn fv tv ov) (ho : opn.length ≤ 12) (hne : opn ≠ []) (s : ByteArray) (n p : Int) :
  Calls Tryz.prog 72 #[.pointer (some ⟨B, 0, none⟩), .agg #[.int .u8 2, .string s, .int .i64 n, .int .i64 p]] w fun e w' => e = .returned (.tuple #[]) ∧ TakeOk w base B ⟨fs.map Prod.fst, top, opn.dropLast⟩ w' := by
 have hlt := h.lt
 have HR := hidI (h.alloc (.cells #[.int .u8 2, .string s, .int .i64 n, .int .i64 p] 91))
 have hb : Below base w (w.alloc (.cells #[.int .u8 2, .string s, .int .i64 n, .int .i64 p] 91)) := by (repeat (first | exact Below.refl _ _ | assumption | refine Below.drew ?_ | refine Below.alloc ?_ (by first | omega | (simp; done) | (simp; omega)) _ | refine Below.setCell ?_ (by first | omega | (simp; done) | (simp; omega)) _))
 have HB := hidI hb
 have HZ : Hid (Below w.heap.size w (w.alloc (.cells #[.int .u8 2, .string s, .int .i64 n, .int .i64 p] 91))) := hidI (by (repeat (first | exact Below.refl _ _ | assumption | refine Below.drew ?_ | refine Below.alloc ?_ (by first | omega | (simp; done) | (simp; omega)) _ | refine Below.setCell ?_ (by first | omega | (simp; done) | (simp; omega)) _)))
 have hol : 0 < opn.length := List.length_pos_iff.2 hne
 obtain ⟨og, oc, hov, _, _⟩ := own_some HR.out.oo hol
 have c2 := HR.out.c2
 have cf := HR.out.free 2
 rw [hov] at c2
 obtain ⟨m, hm⟩ : ∃ m, opn.length = m + 1 := ⟨opn.length - 1, by omega⟩
 have hcap : m + 1 ≤ oc := by
  have := HR.out.oo
  rw [hov] at this
  rcases this.2 with ⟨h0, _⟩ | ⟨_, _, _, e, _, _, h1, _⟩
  ·cases h0
  ·cases e; omega
 have HO := hidI (show (w.alloc (.cells #[.int .u8 2, .string s, .int .i64 n, .int .i64 p] 91)).ownsRow base 3 1 (.slice (some ⟨og, 0, none⟩) m oc) opn.dropLast.length (ints opn.dropLast) by
  have := HR.out.oo
  rw [hov] at this
  have q := own_cut this (m := m) (by omega) (by simp)
  have e1 : opn.dropLast.length = m := by simp; omega
  have e2 : ints opn.dropLast = (ints opn).take (m * 1) := by
   rw [List.dropLast_eq_take, hm]
   simp [ints, List.map_take]
  rw [e1, e2]
  exact q)
 have HP := hidI (HR.out.drew.putO (w' := (w.alloc (.cells #[.int .u8 2, .string s, .int .i64 n, .int .i64 p] 91)).drew) (ov' := .slice (some ⟨og, 0, none⟩) m oc) (opn' := opn.dropLast) ⟨rfl, rfl, rfl, Nat.le_refl _, fun _ _ _ => rfl⟩ (owns_drew HO.out) (.inr (.inl (by rw [hov]; rfl))))
 rw [hm] at c2
 have q1 : (((m + 1 : Nat) : Int) == 0) = false := by rw [beq_eq_false_iff_ne]; omega
 have e4 : m ≤ oc := by omega
 have e9 : m ≤ 12 := by omega
 have HC2 := hidI (HR.out.drew.c2)
 rw [hov, hm] at HC2
 have HF := hidI cf
 clear h hb hov hm hcap HO
 go_enter Tryz.func72, Tryz.ntmps72
 go_wp2
 refine reg9 (B := B) (og := og) (oc := oc) (m := m) HC2.out HF.out e4 e9 (fun _ _ _ _ _ h => h) ?_
 intro t44 t45 t46 t47 t48 t49 t50 t51 t52 t53 t54 t55 t56 t57
 have hA : TakeOk w base B ⟨fs.map Prod.fst, top, opn.dropLast⟩ (((w.alloc (.cells #[.int .u8 2, .string s, .int .i64 n, .int .i64 p] 91)).drew.setCell ⟨B, 2, none⟩ (.slice (some ⟨og, 0, none⟩) m oc))) :=
  ⟨Below.setCell HB.out.drew hlt.1 _, fs, top, _, fv, tv, _, HP.out, rfl⟩
 have HA := hidI hA
 clear hA
 go_wp2
 go_end0
 exact ⟨rfl, HA.out⟩
theorem take_any (h : RD w base B fs top opn fv tv ov) (hG : Good ⟨fs.map Prod.fst, top, opn⟩) (t : Tok) (hs : t.s.size ≤ 140737488355328) :
  Calls Tryz.prog 72 #[.pointer (some ⟨B, 0, none⟩), .agg #[.int .u8 t.k, .string t.s, .int .i64 t.n, .int .i64 t.p]] w fun e w' => TakeRes w base B (step ⟨fs.map Prod.fst, top, opn⟩ t) e w' := by
 obtain ⟨k, s, n, p⟩ := t
 have ho := hG.open_len
 simp only at ho
 by_cases h2 : k = 2
 ·subst h2
  by_cases hn : opn = []
  ·subst hn
   refine (take_none h s n p).mono ?_
   intro e w' hh
   simp only [step, if_true]
   exact hh
  ·refine (take_close h ho hn s n p).mono ?_
   intro e w' hh
   simp only [step, if_true, if_neg hn]
   exact hh
 by_cases h1 : k = 1
 ·subst h1
  by_cases hd : opn.length = 12
  ·refine (take_deep h s n p hd).mono ?_
   intro e w' hh
   simp only [step, if_neg h2, if_true, hd]
   exact hh
  ·refine (take_open h hG s n p hd).mono ?_
   rintro e w' (⟨hf, hh⟩ | ⟨hf, hh⟩)
   ·simp only [step, if_neg h2, if_true, if_neg hd, List.length_map, hf]
    exact hh
   ·simp only [step, if_neg h2, if_true, if_neg hd, List.length_map, if_neg hf]
    exact hh
 by_cases h3 : k = 3
 ·subst h3
  refine (take_name h hG s hs n p).mono ?_
  rintro e w' (⟨hf, hh⟩ | ⟨hf, hh⟩)
  ·simp only [step, if_neg h2, if_neg h1, true_or, if_true, List.length_map, hf]
   exact hh
  ·simp only [step, if_neg h2, if_neg h1, true_or, if_true, List.length_map, if_neg hf]
   exact hh
 by_cases h4 : k = 4
 ·subst h4
  refine (take_num h hG s n p).mono ?_
  intro e w' hh
  simp only [step, if_neg h2, if_neg h1, or_true, if_true, List.length_map]
  exact hh
 ·refine (take_other h k s n p h1 h2 h3 h4).mono ?_
  intro e w' hh
  have hor : ¬ (k = 3 ∨ k = 4) := by rintro (e | e); exact h3 e; exact h4 e
  simp only [step, if_neg h2, if_neg h1, if_neg hor]
  exact hh
end
end Go.Proofs.YtmekkhfohmfjkaaGreatDoor
