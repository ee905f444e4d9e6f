/-
  Part 7 of the proof: Reg5, Toks, RToks, Range, PFun.
-/
import Derived.Test.YtmekkhfohmfjkaaGreatDoorTm06
import Derived.Test.YtmekkhfohmfjkaaGreatDoorTm01
import Derived.Test.YtmekkhfohmfjkaaGreatDoorTm00
import Derived.Laws.MakeOwn
import Derived.Maps.AppendAt
import Derived.OneCell
import Derived.WalkLawsBesides
import Derived.Laws.ResultCell
namespace Go.Proofs.YtmekkhfohmfjkaaGreatDoor
open Go.RowKit Go.Deep Go.MapKept
def rr5 : Array Oper := #[⟨some 18, .move (.tmp 0), 202, "parse.go:50", #[], none⟩, ⟨some 19, .move (.tmp 0), 202, "parse.go:50", #[], none⟩, ⟨some 20, .nilCheck (.tmp 19), 0, "parse.go:50", #[⟨1, .data⟩], none⟩, ⟨some 21, .fieldAddr 94 (.tmp 20) 2, 0, "parse.go:50", #[⟨2, .data⟩], none⟩, ⟨some 22, .load 45 (.tmp 21), 45, "parse.go:50", #[⟨3, .data⟩], none⟩, ⟨some 23, .move (.tmp 0), 202, "parse.go:50", #[], none⟩, ⟨some 24, .fieldAddr 91 (.tmp 3) 3, 0, "parse.go:50", #[], none⟩, ⟨some 25, .load 3 (.tmp 24), 3, "parse.go:50", #[⟨6, .data⟩], none⟩, ⟨some 26, .build 115 #[(0, .const (.int .u8 1)), (4, .tmp 25)], 115, "parse.go:50", #[⟨7, .data⟩], none⟩, ⟨some 27, .call ⟨.value (.func 113), #[.tmp 23, .tmp 26], #[202, 115]⟩, 3, "parse.go:50", #[⟨5, .data⟩, ⟨8, .data⟩], none⟩, ⟨some 28, .buildSlice 45 1 #[(0, .tmp 27)], 45, "parse.go:50", #[⟨9, .data⟩], none⟩, ⟨some 29, .call ⟨.builtin .append, #[.tmp 22, .tmp 28], #[45, 45]⟩, 45, "parse.go:50", #[⟨4, .data⟩, ⟨10, .data⟩, ⟨9, .chain⟩], none⟩, ⟨some 30, .nilCheck (.tmp 18), 0, "parse.go:50", #[⟨0, .data⟩, ⟨0, .phase⟩, ⟨1, .phase⟩, ⟨2, .phase⟩, ⟨3, .phase⟩, ⟨4, .phase⟩, ⟨5, .phase⟩, ⟨6, .phase⟩, ⟨7, .phase⟩, ⟨8, .phase⟩, ⟨9, .phase⟩, ⟨10, .phase⟩, ⟨11, .phase⟩], none⟩, ⟨some 31, .fieldAddr 94 (.tmp 30) 2, 0, "parse.go:50", #[⟨12, .data⟩, ⟨0, .phase⟩, ⟨1, .phase⟩, ⟨2, .phase⟩, ⟨3, .phase⟩, ⟨4, .phase⟩, ⟨5, .phase⟩, ⟨6, .phase⟩, ⟨7, .phase⟩, ⟨8, .phase⟩, ⟨9, .phase⟩, ⟨10, .phase⟩, ⟨11, .phase⟩], none⟩, ⟨none, .store 45 (.tmp 31) (.tmp 29), 0, "parse.go:50", #[⟨13, .data⟩, ⟨11, .data⟩, ⟨11, .chain⟩, ⟨0, .phase⟩, ⟨1, .phase⟩, ⟨2, .phase⟩, ⟨3, .phase⟩, ⟨4, .phase⟩, ⟨5, .phase⟩, ⟨6, .phase⟩, ⟨7, .phase⟩, ⟨8, .phase⟩, ⟨9, .phase⟩, ⟨10, .phase⟩, ⟨11, .phase⟩], none⟩]
theorem rr5_0 : rr5[0]? = some ⟨some 18, .move (.tmp 0), 202, "parse.go:50", #[], none⟩ := by kernel_rfl
theorem rr5_1 : rr5[1]? = some ⟨some 19, .move (.tmp 0), 202, "parse.go:50", #[], none⟩ := by kernel_rfl
theorem rr5_2 : rr5[2]? = some ⟨some 20, .nilCheck (.tmp 19), 0, "parse.go:50", #[⟨1, .data⟩], none⟩ := by kernel_rfl
theorem rr5_3 : rr5[3]? = some ⟨some 21, .fieldAddr 94 (.tmp 20) 2, 0, "parse.go:50", #[⟨2, .data⟩], none⟩ := by kernel_rfl
theorem rr5_4 : rr5[4]? = some ⟨some 22, .load 45 (.tmp 21), 45, "parse.go:50", #[⟨3, .data⟩], none⟩ := by kernel_rfl
theorem rr5_5 : rr5[5]? = some ⟨some 23, .move (.tmp 0), 202, "parse.go:50", #[], none⟩ := by kernel_rfl
theorem rr5_6 : rr5[6]? = some ⟨some 24, .fieldAddr 91 (.tmp 3) 3, 0, "parse.go:50", #[], none⟩ := by kernel_rfl
theorem rr5_7 : rr5[7]? = some ⟨some 25, .load 3 (.tmp 24), 3, "parse.go:50", #[⟨6, .data⟩], none⟩ := by kernel_rfl
theorem rr5_8 : rr5[8]? = some ⟨some 26, .build 115 #[(0, .const (.int .u8 1)), (4, .tmp 25)], 115, "parse.go:50", #[⟨7, .data⟩], none⟩ := by kernel_rfl
theorem rr5_9 : rr5[9]? = some ⟨some 27, .call ⟨.value (.func 113), #[.tmp 23, .tmp 26], #[202, 115]⟩, 3, "parse.go:50", #[⟨5, .data⟩, ⟨8, .data⟩], none⟩ := by kernel_rfl
theorem rr5_10 : rr5[10]? = some ⟨some 28, .buildSlice 45 1 #[(0, .tmp 27)], 45, "parse.go:50", #[⟨9, .data⟩], none⟩ := by kernel_rfl
theorem rr5_11 : rr5[11]? = some ⟨some 29, .call ⟨.builtin .append, #[.tmp 22, .tmp 28], #[45, 45]⟩, 45, "parse.go:50", #[⟨4, .data⟩, ⟨10, .data⟩, ⟨9, .chain⟩], none⟩ := by kernel_rfl
theorem rr5_12 : rr5[12]? = some ⟨some 30, .nilCheck (.tmp 18), 0, "parse.go:50", #[⟨0, .data⟩, ⟨0, .phase⟩, ⟨1, .phase⟩, ⟨2, .phase⟩, ⟨3, .phase⟩, ⟨4, .phase⟩, ⟨5, .phase⟩, ⟨6, .phase⟩, ⟨7, .phase⟩, ⟨8, .phase⟩, ⟨9, .phase⟩, ⟨10, .phase⟩, ⟨11, .phase⟩], none⟩ := by kernel_rfl
theorem rr5_13 : rr5[13]? = some ⟨some 31, .fieldAddr 94 (.tmp 30) 2, 0, "parse.go:50", #[⟨12, .data⟩, ⟨0, .phase⟩, ⟨1, .phase⟩, ⟨2, .phase⟩, ⟨3, .phase⟩, ⟨4, .phase⟩, ⟨5, .phase⟩, ⟨6, .phase⟩, ⟨7, .phase⟩, ⟨8, .phase⟩, ⟨9, .phase⟩, ⟨10, .phase⟩, ⟨11, .phase⟩], none⟩ := by kernel_rfl
theorem rr5_14 : rr5[14]? = some ⟨none, .store 45 (.tmp 31) (.tmp 29), 0, "parse.go:50", #[⟨13, .data⟩, ⟨11, .data⟩, ⟨11, .chain⟩, ⟨0, .phase⟩, ⟨1, .phase⟩, ⟨2, .phase⟩, ⟨3, .phase⟩, ⟨4, .phase⟩, ⟨5, .phase⟩, ⟨6, .phase⟩, ⟨7, .phase⟩, ⟨8, .phase⟩, ⟨9, .phase⟩, ⟨10, .phase⟩, ⟨11, .phase⟩], none⟩ := by kernel_rfl
set_option maxRecDepth 100000 in
set_option maxHeartbeats 2500000 in
theorem reg5 {x1 x2 x4 x5 x6 x7 x8 x9 x10 x11 x12 x13 x14 x15 x16 x17 x18 x19 x20 x21 x22 x23 x24 x25 x26 x27 x28 x29 x30 x31 x32 x33 x34 x35 x36 x37 x38 x39 x40 x41 x42 x43 x44 x45 x46 x47 x48 x49 x50 x51 x52 x53 x54 x55 x56 x57 x58 x59 x60 x61 x62 x63 x64 x65 x66 x67 x68 x69 x70 x71 x72 x73 x74 x75 x76 : Value} {Q : Exit → Act → World → Prop} {V0 : World} {B TB base : Nat} {fs : List FV} {top opn : List Nat} {fv tv ov : Value} {p : Int}
  (hRD : RD V0.drew base B fs top opn fv tv ov) (hTB : V0.drew.cell? ⟨TB, 3, none⟩ = some (.int .i64 p)) (hTR : ¬ RB B fs top opn fv tv ov TB) (ho : opn.length ≤ 12)
  (hC : Calls Tryz.prog 113 #[.pointer (some ⟨B, 0, none⟩), .agg #[.int .u8 1, .string ⟨#[]⟩, .int .i64 0, .slice none 0 0, .int .i64 p]] V0.drew fun e w' => AddRes V0.drew base B fs top opn fv tv ov ⟨1, ⟨#[]⟩, 0, [], p⟩ e w')
  (hpan : ∀ c (a : Act) w (dd : Tmp) vv, Q (.panic c) (a.put (some dd) vv) w → Q (.panic c) a w)
  (hQp : ∀ (a : Act) (W : World), fs.length = 400 → Below V0.drew.heap.size V0.drew W → a.defers = [] → Q (.panic (flt p 4)) a W)
  (hQ : ∀ (W5 : World) (fs' : List FV) (top' : List Nat) (fv' tv' ov' : Value) (t18 t19 t20 t21 t22 t23 t24 t25 t26 t27 t28 t29 t30 t31 : Value), ¬ fs.length = 400 → Below base V0.drew W5 → RD W5 base B fs' top' (opn ++ [fs.length]) fv' tv' ov' → addF ⟨1, ⟨#[]⟩, 0, [], p⟩ ⟨fs.map Prod.fst, top, opn⟩ = ⟨fs'.map Prod.fst, top', opn⟩ → Q .normal { tmps := #[.pointer (some ⟨B, 0, none⟩), x1, x2, .pointer (some ⟨TB, 0, none⟩), x4, x5, x6, x7, x8, x9, x10, x11, x12, x13, x14, x15, x16, x17, t18, t19, t20, t21, t22, t23, t24, t25, t26, t27, t28, t29, t30, t31, x32, x33, x34, x35, x36, x37, x38, x39, x40, x41, x42, x43, x44, x45, x46, x47, x48, x49, x50, x51, x52, x53, x54, x55, x56, x57, x58, x59, x60, x61, x62, x63, x64, x65, x66, x67, x68, x69, x70, x71, x72, x73, x74, x75, x76], defers := [] } W5) :
  (Code.region 5 rr5 true).wp Tryz.prog Q { tmps := #[.pointer (some ⟨B, 0, none⟩), x1, x2, .pointer (some ⟨TB, 0, none⟩), x4, x5, x6, x7, x8, x9, x10, x11, x12, x13, x14, x15, x16, x17, x18, x19, x20, x21, x22, x23, x24, x25, x26, x27, x28, x29, x30, x31, x32, x33, x34, x35, x36, x37, x38, x39, x40, x41, x42, x43, x44, x45, x46, x47, x48, x49, x50, x51, x52, x53, x54, x55, x56, x57, x58, x59, x60, x61, x62, x63, x64, x65, x66, x67, x68, x69, x70, x71, x72, x73, x74, x75, x76], defers := [] } V0 := by
 refine zbC (fun y => y.cell? ⟨B, 2, none⟩ = some ov ∧ y.cell? ⟨TB, 3, none⟩ = some (.int .i64 p)) 14 Tryz.mixed ?_
 obtain ⟨V, hV⟩ : ∃ V, V0.drew = V := ⟨_, rfl⟩
 rw [hV] at hRD hTB hC hQp hQ ⊢
 clear hV
 have HQ := hidI hQ
 have HQp := hidI hQp
 have HPan := hidI hpan
 have HC := hidI hC
 have HR := hidI hRD
 have hlt := hRD.lt
 have hu1 : ∃ ua ul uc, ov = .slice ua ul uc := by
  obtain ⟨a, c, e⟩ := zaF hRD.oo
  exact ⟨a, _, c, e⟩
 obtain ⟨ua, ul, uc, rfl⟩ := hu1
 have hS0 : V.cell? ⟨B, 2, none⟩ = some (.slice ua ul uc) ∧ V.cell? ⟨TB, 3, none⟩ = some (.int .i64 p) := ⟨hRD.c2, hTB⟩
 have HTR := hidI hTR
 clear hQ hpan hQp hC hRD hTR hTB
 refine zaB [14] (i := 0) (v := (.pointer (some ⟨B, 0, none⟩))) rr5_0 (by kernel_rfl) (by kernel_rfl) (by kernel_rfl) (by kernel_rfl) (fun c a w h => HPan.out c a w _ _ h) (.inl ⟨by rfl, fun y hy => ?_⟩) hS0 ?_
 ·obtain ⟨hy0, hy1⟩ := hy
  go_simp
 refine zaB [14] (i := 1) (v := (.pointer (some ⟨B, 0, none⟩))) rr5_1 (by kernel_rfl) (by kernel_rfl) (by kernel_rfl) (by kernel_rfl) (fun c a w h => HPan.out c a w _ _ h) (.inl ⟨by rfl, fun y hy => ?_⟩) hS0 ?_
 ·obtain ⟨hy0, hy1⟩ := hy
  go_simp
 refine zaB [14] (i := 2) (v := (.pointer (some ⟨B, 0, none⟩))) rr5_2 (by kernel_rfl) (by kernel_rfl) (by kernel_rfl) (by kernel_rfl) (fun c a w h => HPan.out c a w _ _ h) (.inl ⟨by rfl, fun y hy => ?_⟩) hS0 ?_
 ·obtain ⟨hy0, hy1⟩ := hy
  go_simp
 refine zaB [14] (i := 3) (v := (.pointer (some ⟨B, 2, none⟩))) rr5_3 (by kernel_rfl) (by kernel_rfl) (by kernel_rfl) (by kernel_rfl) (fun c a w h => HPan.out c a w _ _ h) (.inl ⟨by rfl, fun y hy => ?_⟩) hS0 ?_
 ·obtain ⟨hy0, hy1⟩ := hy
  go_simp
 refine zaB [14] (i := 4) (v := (.slice ua ul uc)) rr5_4 (by kernel_rfl) (by kernel_rfl) (by kernel_rfl) (by kernel_rfl) (fun c a w h => HPan.out c a w _ _ h) (.inl ⟨by rfl, fun y hy => ?_⟩) hS0 ?_
 ·obtain ⟨hy0, hy1⟩ := hy
  go_simp
 refine zaB [14] (i := 5) (v := (.pointer (some ⟨B, 0, none⟩))) rr5_5 (by kernel_rfl) (by kernel_rfl) (by kernel_rfl) (by kernel_rfl) (fun c a w h => HPan.out c a w _ _ h) (.inl ⟨by rfl, fun y hy => ?_⟩) hS0 ?_
 ·obtain ⟨hy0, hy1⟩ := hy
  go_simp
 refine zaB [14] (i := 6) (v := (.pointer (some ⟨TB, 3, none⟩))) rr5_6 (by kernel_rfl) (by kernel_rfl) (by kernel_rfl) (by kernel_rfl) (fun c a w h => HPan.out c a w _ _ h) (.inl ⟨by rfl, fun y hy => ?_⟩) hS0 ?_
 ·obtain ⟨hy0, hy1⟩ := hy
  go_simp
 refine zaB [14] (i := 7) (v := (.int .i64 p)) rr5_7 (by kernel_rfl) (by kernel_rfl) (by kernel_rfl) (by kernel_rfl) (fun c a w h => HPan.out c a w _ _ h) (.inl ⟨by rfl, fun y hy => ?_⟩) hS0 ?_
 ·obtain ⟨hy0, hy1⟩ := hy
  go_simp
 refine zaB [14] (i := 8) (v := (.agg #[.int .u8 1, .string ⟨#[]⟩, .int .i64 0, .slice none 0 0, .int .i64 p])) rr5_8 (by kernel_rfl) (by kernel_rfl) (by kernel_rfl) (by kernel_rfl) (fun c a w h => HPan.out c a w _ _ h) (.inl ⟨by rfl, fun y hy => ?_⟩) hS0 ?_
 ·obtain ⟨hy0, hy1⟩ := hy
  go_simp
 refine zaT (rs := [9]) (by kernel_rfl) (by simp) fun j9 hj9 => ?_
 obtain rfl : j9 = 9 := by simpa using hj9
 refine zaP rr5_9 rfl fun K1 hK1 => ?_
 unfold Oper.wp
 go_simp
 refine Calls.mono HC.out ?_
 intro e W1 hres
 unfold AddRes at hres
 by_cases hfull : fs.length = 400
 ·rw [if_pos hfull] at hres
  obtain ⟨rfl, hbp⟩ := hres
  go_simp
  exact HQp.out _ _ hfull hbp rfl
 rw [if_neg hfull] at hres
 obtain ⟨rfl, hchg, fs', top', fv', tv', hRD1, hadd⟩ := hres
 go_simp
 have HR1 := hidI hRD1
 have HC1 := hidI hchg
 have HAdd := hidI hadd
 have hlt1 := hRD1.lt
 have hz1 := hchg.size
 have hS1 : W1.cell? ⟨B, 2, none⟩ = some (.slice ua ul uc) ∧ W1.cell? ⟨TB, 3, none⟩ = some (.int .i64 p) := ⟨hRD1.c2, hchg.cell hS0.2 HTR.out⟩
 clear hRD1 hchg hadd hS0
 refine hK1 _ _ ⟨fun _ => hS1, ?_⟩
 clear hK1 K1
 refine zaT (rs := [10]) (by kernel_rfl) (by simp) fun j10 hj10 => ?_
 obtain rfl : j10 = 10 := by simpa using hj10
 refine zaP rr5_10 rfl fun K1 hK1 => ?_
 unfold Oper.wp
 go_simp
 have hSA : (W1.alloc (.cells #[.int .i64 (fs.length : Int)] 3)).cell? ⟨B, 2, none⟩ = some (.slice ua ul uc) ∧ (W1.alloc (.cells #[.int .i64 (fs.length : Int)] 3)).cell? ⟨TB, 3, none⟩ = some (.int .i64 p) := ⟨cell_al _ hS1.1, cell_al _ hS1.2⟩
 refine hK1 _ _ ⟨fun _ => hSA, ?_⟩
 clear hK1 K1
 have HRA := hidI (HR1.out.alloc (.cells #[.int .i64 (fs.length : Int)] 3))
 have HV := hidI (int_seen (W := W1) (fs.length : Int))
 have HCA := hidI (HC1.out.alloc (.cells #[.int .i64 (fs.length : Int)] 3))
 have hszA : (W1.alloc (.cells #[.int .i64 (fs.length : Int)] 3)).heap.size = W1.heap.size + 1 := by simp
 obtain ⟨VA, hVA⟩ : ∃ VA, W1.alloc (.cells #[.int .i64 (fs.length : Int)] 3) = VA := ⟨_, rfl⟩
 rw [hVA] at HRA HV hSA hszA HCA ⊢
 clear hVA
 refine zaT (rs := [11]) (by kernel_rfl) (by simp) fun j11 hj11 => ?_
 obtain rfl : j11 = 11 := by simpa using hj11
 refine zaP rr5_11 rfl fun K1 hK1 => ?_
 refine zbF Tryz.underlying45 Tryz.info3x rfl (by decide) (by decide) _ _ rfl base (.slice ua ul uc) opn.length (ints opn) rfl HRA.out.oo _ 1 [.int .i64 (fs.length : Int)] rfl HV.out (by simp [Value.oneCell']) (by omega) (by omega) ?_
 intro u' W5 hown5 hgrow5 hat5
 have hne : Ap (bx B) (.slice ua ul uc) := HRA.out.apart 0 3 _ _ rfl rfl (by omega)
 have hne' : some B ≠ (Value.slice ua ul uc).ownBlock := by rcases hne with h | h; cases h; exact h
 have hneT : some TB ≠ (Value.slice ua ul uc).ownBlock := fun e => HTR.out ⟨⟨.slice ua ul uc, 3, 1, opn.length, ints opn⟩, List.mem_of_getElem? (i := 3) rfl, e.symm⟩
 have hS5 : W5.cell? ⟨B, 2, none⟩ = some (.slice ua ul uc) ∧ W5.cell? ⟨TB, 3, none⟩ = some (.int .i64 p) := ⟨hgrow5.cell hSA.1 hne', hgrow5.cell hSA.2 hneT⟩
 have hf5 : W5.frozen? ⟨B, 2, none⟩ = false := (World.frozen?_of_block (w := VA) (a := ⟨B, 2, none⟩) (hgrow5.block B (by omega) hne')).trans (HRA.out.free 2)
 have h5 : RD (W5.setCell ⟨B, 2, none⟩ u') base B fs' top' (opn ++ [fs.length]) fv' tv' u' := HRA.out.putO hgrow5 (by rw [ints_append, List.length_append]; exact hown5) (.inr hat5)
 have hoB : base ≤ B := by omega
 have hb5 : Below base V (W5.setCell ⟨B, 2, none⟩ u') := by
  have q := (HCA.out.below (n := base) (by have := HR.out.lt; omega) (fun k hk hr => by have := HR.out.block hr; omega))
  refine Below.setCell (Below.grown q hgrow5 (by omega) (fun k e => ((HRA.out.oo).lt k e).1)) hoB _
 have hc5 := hS5.1
 obtain ⟨a6, l6, c6, hv6⟩ : ∃ a6 l6 c6, u' = .slice a6 l6 c6 := by
  obtain ⟨a, c, e⟩ := zaF hown5
  exact ⟨a, _, c, e⟩
 subst hv6
 have HB5 := hidI hb5
 have H5 := hidI h5
 refine hK1 _ _ ⟨fun _ => hS5, ?_⟩
 clear hK1 K1 hown5 hgrow5 hat5 hSA hb5 h5 hne hne' hneT
 refine zaT (rs := [12]) (by kernel_rfl) (by simp) fun j12 hj12 => ?_
 obtain rfl : j12 = 12 := by simpa using hj12
 refine zaP rr5_12 rfl fun K1 hK1 => ?_
 unfold Oper.wp
 go_simp
 refine hK1 _ _ ⟨fun _ => hS5, ?_⟩
 clear hK1 K1
 refine zaT (rs := [13]) (by kernel_rfl) (by simp) fun j13 hj13 => ?_
 obtain rfl : j13 = 13 := by simpa using hj13
 refine zaP rr5_13 rfl fun K1 hK1 => ?_
 unfold Oper.wp
 go_simp
 refine hK1 _ _ ⟨fun _ => hS5, ?_⟩
 clear hK1 K1
 refine zbJ (by kernel_rfl) (by kernel_rfl) ?_ _
 refine zaP rr5_14 rfl fun K1 hK1 => ?_
 unfold Oper.wp
 go_simp
 refine hK1 _ _ ?_
 exact HQ.out _ _ _ _ _ _ _ _ _ _ _ _ _ _ _ _ _ _ _ _ hfull HB5.out H5.out HAdd.out
def bytesOf (t : Txt) : ByteArray := ⟨t.toArray⟩
theorem bytes_back (s : ByteArray) : bytesOf s.data.toList = s := by simp [bytesOf]
noncomputable def kindP (l : Txt) : Int := if l = [40] then 1 else if l = [41] then 2 else kindW (bytesOf l)
noncomputable def numP (l : Txt) : Int := if kindP l = 4 then numV (bytesOf l) else 0
noncomputable def tok (q : Piece) : Tok := ⟨kindP q.2, bytesOf q.2, numP q.2, (q.1 : Int)⟩
noncomputable def bad : Nat → List Piece → Option (Int × Int)
 | _, [] => none
 | c, q :: r => if kindP q.2 = 0 then some ((q.1 : Int), 8) else if c = 600 then some ((q.1 : Int), 4) else bad (c + 1) r
noncomputable def lexRes (s : ByteArray) : List Tok × Int × Int :=
 if 3000 < s.size then ([], 0, 4) else match bad 0 (pieces s.data.toList) with
  | some pe => ([], pe)
  | none => ((pieces s.data.toList).map tok, 0, 0)
theorem run_space {t : Txt} {p : Nat} {c : UInt8} {r : Txt} (h : spaced c = true) : run t p none false (c :: r) = run t (p + 1) none false r := by
 have h59 : c ≠ 59 := fun e => by subst e; revert h; decide
 have hb : bracket c = false := by
  unfold spaced at h
  simp only [Bool.or_eq_true, beq_iff_eq] at h
  rcases h with (rfl | rfl) | rfl <;> decide
 simp [run, word, h59, hb, h]
theorem run_bracket {t : Txt} {p : Nat} {c : UInt8} {r : Txt} (h : bracket c = true) : run t p none false (c :: r) = (p, [c]) :: run t (p + 1) none false r := by
 have h59 : c ≠ 59 := fun e => by subst e; revert h; decide
 simp [run, word, h59, h]
def spI (c : Int) : Bool := c == 32 || c == 9 || c == 10
theorem u8_eq (c : UInt8) (n : Nat) (hn : n < 256) : ((c.toNat : Int) == (n : Int)) = (c == UInt8.ofNat n) := by
 rw [Bool.eq_iff_iff]
 simp only [beq_iff_eq]
 constructor
 ·intro h
  have h' : c.toNat = n := by omega
  apply UInt8.toNat_inj.1
  rw [h', UInt8.toNat_ofNat']
  omega
 ·intro h
  rw [h, UInt8.toNat_ofNat']
  omega
theorem spI_eq (c : UInt8) : spI (c.toNat : Int) = spaced c := by
 unfold spI spaced
 have h1 : ((c.toNat : Int) == 32) = (c == 32) := u8_eq c 32 (by decide)
 have h2 : ((c.toNat : Int) == 9) = (c == 9) := u8_eq c 9 (by decide)
 have h3 : ((c.toNat : Int) == 10) = (c == 10) := u8_eq c 10 (by decide)
 rw [h1, h2, h3]
theorem slice_at (s : ByteArray) (i m : Nat) (h : i + m ≤ s.size) (w : World) : (Instr.slice 9 (.string s) (some (.int .i64 (i : Int))) (some (.int .i64 ((i : Int) + (m : Int)))) none).run Tryz.prog w = .ok (.string (bytesOf ((s.data.toList.drop i).take m))) w := by
 rw [run_slice_string w 9 s .i64 .i64 _ _ Tryz.underlying9 (by omega) (by omega) (by omega)]
 congr 2
 apply ByteArray.ext
 simp only [bytesOf, ByteArray.data_extract]
 apply Array.toList_inj.1
 rw [Array.toList_extract, List.extract_eq_take_drop]
 rw [show ((i : Int) + (m : Int)).toNat - ((i : Int)).toNat = m by omega, Int.toNat_natCast]
theorem tok_cells0 (wr : World) (i : Int) : (wr.alloc (.cells #[.int .u8 0, .string ⟨#[]⟩, .int .i64 0, .int .i64 i] 91)).cell? ⟨wr.heap.size, 0, none⟩ = some (.int .u8 0) ∧ (wr.alloc (.cells #[.int .u8 0, .string ⟨#[]⟩, .int .i64 0, .int .i64 i] 91)).cell? ⟨wr.heap.size, 1, none⟩ = some (.string ⟨#[]⟩) ∧ (wr.alloc (.cells #[.int .u8 0, .string ⟨#[]⟩, .int .i64 0, .int .i64 i] 91)).cell? ⟨wr.heap.size, 2, none⟩ = some (.int .i64 0) ∧ (wr.alloc (.cells #[.int .u8 0, .string ⟨#[]⟩, .int .i64 0, .int .i64 i] 91)).cell? ⟨wr.heap.size, 3, none⟩ = some (.int .i64 i) := by
 refine ⟨?_, ?_, ?_, ?_⟩ <;> go_simp
theorem tok_free (wr : World) (i : Int) (k : Nat) : (wr.alloc (.cells #[.int .u8 0, .string ⟨#[]⟩, .int .i64 0, .int .i64 i] 91)).frozen? ⟨wr.heap.size, k, none⟩ = false := by go_simp
theorem bytes_size (t : Txt) : (bytesOf t).size = t.length := by
 unfold bytesOf ByteArray.size
 exact List.size_toArray
def RTPost (s : ByteArray) (w : World) (e : Value) (w' : World) : Prop :=
 ∃ v, e = .tuple #[v, .int .i64 (lexRes s).2.1, .int .i64 (lexRes s).2.2] ∧ SeesC w' v (lexRes s).1.length 4 (flatT (lexRes s).1) ∧ Below w.heap.size w w'
open Go.RowKit Go.Shelf
def After {α : Type} (B : Nat) (T : Nat → Obj → Prop) (I Ix : List α → World → Prop) (xs : List α) (W : World) : Exit → Act → World → Prop
 | .normal, _, W' => KeepsFrom B W W' ∧ Keeps T W W' ∧ I xs W'
 | .ret, _, W' => KeepsFrom B W W' ∧ Ix xs W'
 | _, _, _ => False
def Books (W : World) (D : Nat) (r : Loop) : Prop := W.heap[D + 1]? = some (.loop r) ∧ W.heap[D]? = some (.deferred (some []))
theorem Books.lt {W : World} {D : Nat} {r : Loop} (h : Books W D r) : D + 1 < W.heap.size := (Array.getElem?_eq_some_iff.1 h.1).1
theorem Books.put {W : World} {D : Nat} {r : Loop} (r' : Loop) (h : Books W D r) : Books (W.putObj (D + 1) (.loop r')) D r' :=
 ⟨World.putObj_heap_same h.lt, (World.putObj_heap_other (by omega)).trans h.2⟩
theorem Books.keeps {W W' : World} {D : Nat} {r : Loop} (h : Books W D r) (k : KeepsFrom D W W') : Books W' D r :=
 ⟨k.same _ _ (by omega) h.1 rfl, k.same _ _ (Nat.le_refl _) h.2 rfl⟩
theorem Books.grown {W W' : World} {D B : Nat} {r : Loop} {row : Option Nat} (h : Books W D r) (hg : W.grownBy W' row) (hB : D + 2 ≤ B) (hr : ∀ k, row = some k → B ≤ k) : Books W' D r := by
 have hl := h.lt
 refine ⟨(hg.block (D + 1) hl fun e => ?_).trans h.1, (hg.block D (by omega) fun e => ?_).trans h.2⟩
 ·have := hr _ e.symm; omega
 ·have := hr _ e.symm; omega
theorem keeps_put {T : Nat → Obj → Prop} {D : Nat} {W : World} {r : Loop} (hT : ∀ k r, D ≤ k → ¬ T k (.loop r)) (h : Books W D r) (o : Obj) : Keeps T W (W.putObj (D + 1) o) :=
 Keeps.grown (grownBy_putObj' W (D + 1) o) fun k o' e hk => by cases e; rw [h.1] at hk; cases hk; exact hT _ _ (by omega)
theorem from_put (D : Nat) (W : World) (o : Obj) : KeepsFrom (D + 2) W (W.putObj (D + 1) o) := KeepsFrom.of_grownBy (grownBy_putObj' W (D + 1) o) fun j e => by cases e; omega
theorem zdF {B B' : Nat} {W W' : World} (h : KeepsFrom B W W') (hB : B ≤ B') : KeepsFrom B' W W' := ⟨h.size, fun k o hk => h.same k o (by omega)⟩
set_option maxHeartbeats 1000000 in
theorem range_law {α : Type} {g : Operand} {ps : Array Tmp} {assign body : Code} {Q : Exit → Act → World → Prop} {a : Act} {w : World} {gf : Nat} {lb : Array Value} (hg : a.eval g = .func (.func gf) #[] lb)
  (eg : ∀ args w, (callFunc gf args).run Tryz.prog w = .ok (.enter gf args) w) {encs : α → Array Value} {T : Nat → Obj → Prop} {R : List α → α → Prop} {S : List α → Prop} (hT : ∀ k r, w.heap.size ≤ k → ¬ T k (.loop r)) (hseq : Seq gf lb encs T S R w) (hps : ∀ x, (encs x).size = ps.size)
  (I Ix : List α → World → Prop) (hI : OwnFrom w.heap.size I) (hIx : OwnFrom w.heap.size Ix) (h0 : I [] w) (Ax : List α × α × Act → World → Prop) (hAx : OwnFrom w.heap.size Ax)
  (hassign : ∀ (l : Nat) (pre : List α) (x : α) (W : World) (K : Act → World → Prop), I pre W → (∀ a' W', KeepsFrom w.heap.size W W' → Keeps T W W' → Ax (pre, x, a') W' → K a' W') →
   assign.wpIn (WR l) 0 Tryz.prog (Exit.then K (fun _ _ _ => False)) { tmps := (ps.zip (encs x)).foldl (fun t (p, v) => t.setIfInBounds p v) a.tmps, defers := [] } W)
  (hbody : ∀ (l : Nat) (pre : List α) (x : α) (a' : Act) (W : World), R pre x → Ax (pre, x, a') W → body.wpIn (WR l) 0 Tryz.prog (After w.heap.size T I Ix (pre ++ [x]) W) a' W)
  (hdone : ∀ (D : Nat) (xs : List α) (W : World), w.heap.size ≤ D → S xs → I xs W → W.heap[D]? = some (.deferred (some [])) → Q .normal { a with defers := { target := .collected D, args := #[] } :: a.defers } W)
  (hstop : ∀ (D : Nat) (pre : List α) (W : World), w.heap.size ≤ D → Ix pre W → W.heap[D]? = some (.deferred (some [])) → Code.ret.wpIn Fence.wide 0 Tryz.prog Q { a with defers := { target := .collected D, args := #[] } :: a.defers } W) :
  (Code.rangeFunc g ps assign body).wpIn Fence.wide 0 Tryz.prog Q a w := by
 refine wpIn_rangeFunc fun fn _ => ?_
 obtain ⟨rec, hrec⟩ : ∃ rec : LoopState → Option Code → Loop, rec = fun st pe => { state := st, pending := pe, fn := fn, tmps := a.tmps, params := ps, assign := assign, body := body, defers := w.heap.size } := ⟨_, rfl⟩
 obtain ⟨W1, hW1⟩ : ∃ W1, (w.alloc (.deferred (some []))).alloc (.loop (rec .ready none)) = W1 := ⟨_, rfl⟩
 have hs1 : W1.heap.size = w.heap.size + 2 := by rw [← hW1]; simp
 have hb1 : Books W1 w.heap.size (rec .ready none) := by
  rw [← hW1]
  refine ⟨?_, (Below.heap_alloc _ _ _ (by simp)).trans (World.alloc_heap_new w _)⟩
  have := World.alloc_heap_new (w.alloc (.deferred (some []))) (.loop (rec .ready none))
  rwa [World.size_alloc] at this
 have hi1 : I [] W1 := by rw [← hW1]; exact hI.alloc _ (hI.alloc _ h0)
 have hw1 : Below w.heap.size w W1 := by rw [← hW1]; exact ((Below.refl _ w).alloc (Nat.le_refl _) _).alloc (by simp) _
 refine ⟨w.heap.size + 1, [{ target := .collected w.heap.size, args := #[] }], W1, { target := .fn (.func gf) lb, args := #[.func (.yield (w.heap.size + 1)) #[] #[]] }, W1, gf,
  #[.func (.yield (w.heap.size + 1)) #[] #[]] ++ lb, W1, ?_, ?_, fun _ _ => trivial, ?_, fun hd => (by cases hd), ?_⟩
 ·rw [← hW1, hrec]; exact run_enterLoop_outer _ _ _ _ _
 ·simp only [resolve, hg]
  simp [go_sem]
 ·simp [invoke, go_sem, eg]
 refine (hseq (w.heap.size + 1) (fun pre W => I pre W ∧ Books W w.heap.size (rec .ready none)) (fun pre W => Ix pre W ∧ Books W w.heap.size (rec .done (some .ret))) W1 hw1 ?own1 ?own2 ?round ⟨hi1, hb1⟩).mono ?_
 case own1 =>
  rintro s X Y row ⟨hs, hb⟩ hg' hr
  refine ⟨hI s X Y row hs hg' fun r e => ⟨by have := (hr r e).1; omega, (hr r e).2⟩, hb.grown (B := W1.heap.size) hg' (by omega) fun k e => (hr k e).1⟩
 case own2 =>
  rintro s X Y row ⟨hs, hb⟩ hg' hr
  refine ⟨hIx s X Y row hs hg' fun r e => ⟨by have := (hr r e).1; omega, (hr r e).2⟩, hb.grown (B := W1.heap.size) hg' (by omega) fun k e => (hr k e).1⟩
 case round =>
  rintro pre x W ⟨hi, hb⟩ hlen
  have hy := run_yield (P := Tryz.prog) (args := encs x) hb.1 (by rw [hrec]; exact hps x)
  rw [hrec] at hy
  refine ⟨fn, _, assign, body, hy, roundIn_of_wpIn trivial (hassign _ pre x W _ hi ?_)⟩
  intro a' W' hk1 hbl1 hax
  have hb' := hb.keeps hk1
  refine ⟨_, run_beginRound hb'.1 (by rw [hrec]), ?_⟩
  obtain ⟨r2, hr2⟩ : ∃ r2, r2 = ({ rec .ready none with state := .busy } : Loop) := ⟨_, rfl⟩
  rw [← hr2]
  have hb2 : Books _ _ r2 := hb'.put r2
  have hax2 := hAx.putObj (.loop r2) hax (by omega) hb'.1 rfl
  have hbl2 : Keeps T W (W'.putObj (w.heap.size + 1) (.loop r2)) := hbl1.trans (keeps_put hT hb' _)
  have hkf2 : KeepsFrom W1.heap.size W (W'.putObj (w.heap.size + 1) (.loop r2)) := by rw [hs1]; exact (zdF hk1 (by omega)).trans (from_put _ _ _)
  refine wpIn_mono (hbody _ pre x a' _ hlen hax2) ?_
  intro e a3 W3 hp
  cases e with
  | normal =>
   obtain ⟨hk3, hbl3, hi3⟩ := hp
   have hb3 := hb2.keeps hk3
   refine ⟨_, _, run_endRound none hb3.1, hkf2.trans ((zdF hk3 (by omega)).trans (by rw [hs1]; exact from_put _ _ _)), .inl ⟨rfl, ⟨hI.putObj _ hi3 (by omega) hb3.1 rfl, ?_⟩, hbl2.trans (hbl3.trans (keeps_put hT hb3 _))⟩⟩
   have := hb3.put { r2 with state := .ready, pending := none }
   rw [hr2, hrec] at this ⊢
   exact this
  | ret =>
   obtain ⟨hk3, hi3⟩ := hp
   have hb3 := hb2.keeps hk3
   refine ⟨_, _, run_endRound (some .ret) hb3.1, hkf2.trans ((zdF hk3 (by omega)).trans (by rw [hs1]; exact from_put _ _ _)), .inr ⟨rfl, hIx.putObj _ hi3 (by omega) hb3.1 rfl, ?_⟩⟩
   have := hb3.put { r2 with state := .done, pending := some .ret }
   rw [hr2, hrec] at this ⊢
   exact this
  | _ => exact hp.elim
 rintro e W2 ⟨⟨v, rfl⟩, ⟨xs, hS, hi, hb⟩ | ⟨pre, hi, hb⟩⟩
 ·refine ⟨_, _, run_endLoop hb.1 (by rw [hrec]; simp), ?_⟩
  rw [hrec]
  exact hdone _ xs _ (Nat.le_refl _) hS (hI.putObj _ hi (by omega) hb.1 rfl) (hb.put _).2
 ·refine ⟨_, _, run_endLoop hb.1 (by rw [hrec]; simp), ?_⟩
  rw [hrec]
  exact hstop _ pre _ (Nat.le_refl _) (hIx.putObj _ hi (by omega) hb.1 rfl) (hb.put _).2
def brI (c : Int) : Bool := c == 40 || c == 41
theorem brI_eq (c : UInt8) : brI (c.toNat : Int) = bracket c := by
 unfold brI bracket
 have h1 : ((c.toNat : Int) == 40) = (c == 40) := u8_eq c 40 (by decide)
 have h2 : ((c.toNat : Int) == 41) = (c == 41) := u8_eq c 41 (by decide)
 rw [h1, h2]
theorem spaced_any (c : Int) (w : World) : Calls Tryz.prog 69 #[.int .i32 c] w fun e w' => e = .returned (.bool (spI c)) ∧ w = w' := by
 unfold spI
 obtain ⟨b1, h1⟩ : ∃ b, (c == 32) = b := ⟨_, rfl⟩
 obtain ⟨b2, h2⟩ : ∃ b, (c == 9) = b := ⟨_, rfl⟩
 obtain ⟨b3, h3⟩ : ∃ b, (c == 10) = b := ⟨_, rfl⟩
 rw [h1, h2, h3]
 cases b1 <;> cases b2 <;> cases b3
 all_goals
  go_enter Tryz.func69, Tryz.ntmps69
  go_wp2
  go_ret
  exact ⟨rfl, rfl⟩
theorem bracket_any (c : Int) (w : World) : Calls Tryz.prog 68 #[.int .i32 c] w fun e w' => e = .returned (.bool (brI c)) ∧ w = w' := by
 unfold brI
 obtain ⟨b1, h1⟩ : ∃ b, (c == 40) = b := ⟨_, rfl⟩
 obtain ⟨b2, h2⟩ : ∃ b, (c == 41) = b := ⟨_, rfl⟩
 rw [h1, h2]
 cases b1 <;> cases b2
 all_goals
  go_enter Tryz.func68, Tryz.ntmps68
  go_wp2
  go_ret
  exact ⟨rfl, rfl⟩
theorem clone_any (s : ByteArray) (hs : s.size ≤ 140737488355328) (w : World) : Calls Tryz.prog 36 #[.string s] w fun e w' => e = .returned (.string s) ∧ Below w.heap.size w w' := by
 have C := hidI (fun w => Any.stringslite_Clone Tryz.laysM316 s w (by omega))
 go_enter Tryz.func36, Tryz.ntmps36
 go_wp2_with (go_at_call 58; refine Calls.mono (C.out _) ?_; rintro e w' ⟨rfl, hb⟩; have HB := hidI hb; clear hb)
 go_ret
 exact ⟨rfl, HB.out⟩
theorem pieceKind_any (s : ByteArray) (hl : s.size ≤ 140737488355328) (w : World) (h : Laid w) : Calls Tryz.prog 43 #[.string s] w fun e w' => e = .returned (.int .u8 (kindP s.data.toList)) ∧ Below w.heap.size w w' := by
 have C := hidI (kind_any s hl w h)
 have hk : kindP s.data.toList = if s.toList == [40] then 1 else if s.toList == [41] then 2 else kindW s := by
  unfold kindP
  rw [ByteArray.toList_eq, bytes_back]
  simp
 rw [hk]
 obtain ⟨K, hK⟩ : ∃ K, kindW s = K := ⟨_, rfl⟩
 rw [hK] at C ⊢
 clear hk hK
 cases h0 : (s.toList == [40]) with
 | true =>
  go_enter Tryz.func43, Tryz.ntmps43
  go_wp2
  go_ret
  exact ⟨rfl, Below.refl _ _⟩
 | false =>
  cases h1 : (s.toList == [41]) with
  | true =>
   go_enter Tryz.func43, Tryz.ntmps43
   go_wp2
   go_ret
   exact ⟨rfl, Below.refl _ _⟩
  | false =>
   go_enter Tryz.func43, Tryz.ntmps43
   go_wp2_with (go_at_call 57; refine Calls.mono C.out ?_; rintro e w1 ⟨rfl, hb1⟩; have H1 := hidI hb1; clear hb1)
   go_ret
   exact ⟨rfl, H1.out⟩
theorem pieces_any (s : ByteArray) (w : World) : Calls Tryz.prog 42 #[.string s] w fun e w' => e = .returned (.func (.func 67) #[] #[.pointer (some ⟨w.heap.size, 0, none⟩)]) ∧ w.alloc (.cells #[.string s] 9) = w' := by
 go_enter Tryz.func42, Tryz.ntmps42
 go_wp2
 go_ret
 exact ⟨rfl, rfl⟩
theorem zbP {fn : Func} {p : Tmp} {ty : TypeId} (h : fn.results = #[.cell p ty]) (tmps : Array Value) (P : Program) (w : World) :
  (results fn tmps).run P w = ((asAddr (tmps.getD p undef)).run P w).andThen fun a w₁ => (loadVar ty a).run P w₁ := by
 simp only [results, h]
 simp [Sem.run_bind, Result.andThen]
theorem zero_cells {w w1 : World} (hb : Below (w.alloc (.cells #[.int .u8 0, .string ⟨#[]⟩, .int .i64 0, .int .i64 0] 91)).heap.size (w.alloc (.cells #[.int .u8 0, .string ⟨#[]⟩, .int .i64 0, .int .i64 0] 91)) w1) :
  (w1.cell? ⟨w.heap.size, 0, none⟩ = some (.int .u8 0) ∧ w1.cell? ⟨w.heap.size, 1, none⟩ = some (.string ⟨#[]⟩) ∧ w1.cell? ⟨w.heap.size, 2, none⟩ = some (.int .i64 0) ∧ w1.cell? ⟨w.heap.size, 3, none⟩ = some (.int .i64 0)) ∧ ∀ k, w1.frozen? ⟨w.heap.size, k, none⟩ = false := by
 obtain ⟨h0, h1, h2, h3⟩ := tok_cells0 w 0
 have hlt : w.heap.size < (w.alloc (.cells #[.int .u8 0, .string ⟨#[]⟩, .int .i64 0, .int .i64 0] 91)).heap.size := by simp
 exact ⟨⟨(hb.cell hlt).trans h0, (hb.cell hlt).trans h1, (hb.cell hlt).trans h2, (hb.cell hlt).trans h3⟩, fun k => (hb.frozen hlt).trans (tok_free w 0 k)⟩
theorem four_cells {w w1 : World} {a b c d : Value} (hb : Below (w.alloc (.cells #[a, b, c, d] 91)).heap.size (w.alloc (.cells #[a, b, c, d] 91)) w1) :
  (w1.cell? ⟨w.heap.size, 0, none⟩ = some a ∧ w1.cell? ⟨w.heap.size, 1, none⟩ = some b ∧ w1.cell? ⟨w.heap.size, 2, none⟩ = some c ∧ w1.cell? ⟨w.heap.size, 3, none⟩ = some d) ∧ ∀ k, w1.frozen? ⟨w.heap.size, k, none⟩ = false := by
 have hlt : w.heap.size < (w.alloc (.cells #[a, b, c, d] 91)).heap.size := by simp
 refine ⟨⟨(hb.cell hlt).trans ?_, (hb.cell hlt).trans ?_, (hb.cell hlt).trans ?_, (hb.cell hlt).trans ?_⟩, fun k => (hb.frozen hlt).trans ?_⟩ <;> go_simp
set_option maxRecDepth 100000 in
set_option maxHeartbeats 4000000 in
theorem token_any (k : Int) (s : ByteArray) (i : Int) (hs : s.size ≤ 140737488355328) (w : World) (h : Laid w) : Calls Tryz.prog 44 #[.int .u8 k, .string s, .int .i64 i] w fun e w' =>
  e = .returned (.agg #[.int .u8 k, .string s, .int .i64 (if k = 4 then numV s else 0), .int .i64 i]) ∧ Below w.heap.size w w' := by
 have C := hidI (clone_any s hs)
 have CP := hidI (parse_any s hs)
 have HL := hidI h
 cases hk : (k == 4) with
 | false =>
  have hk' : ¬ k = 4 := by simpa using hk
  rw [if_neg hk']
  clear hk' h
  go_enter Tryz.func44, Tryz.ntmps44
  go_wp2_with (go_at_call 36; refine Calls.mono (C.out _) ?_; rintro e w1 ⟨rfl, hb1⟩; have H1 := hidI hb1; have hlt1 := Nat.lt_of_lt_of_le (show w.heap.size < _ by simp) hb1.size; obtain ⟨⟨z0, z1, z2, z3⟩, zf⟩ := zero_cells (hb1.alloc hb1.size (.cells #[.int .u8 k, .string s, .int .i64 0, .int .i64 i] 91)); have zf0 := zf 0; have zf1 := zf 1; have zf2 := zf 2; have zf3 := zf 3; obtain ⟨⟨x0, x1, x2, x3⟩, xf⟩ := zero_cells hb1; have xf0 := xf 0; have xf1 := xf 1; have xf2 := xf 2; have xf3 := xf 3; have hne : ¬ w1.heap.size = w.heap.size := (by omega); have hne' : ¬ w.heap.size = w1.heap.size := (by omega); clear hb1 zf xf)
  refine bodyPost_ret (v := .agg #[.int .u8 k, .string s, .int .i64 0, .int .i64 i]) ?_ rfl ?_
  ·rw [zbP rfl]
   go_simp
  ·refine ⟨rfl, ?_⟩
   have h1 := H1.out
   have h2 : Below w.heap.size w w1 := ((Below.refl _ w).alloc (Nat.le_refl _) _).trans (h1.mono (by simp))
   have h3 := h2.size
   (repeat (first | exact Below.refl _ _ | assumption | refine Below.drew ?_ | refine Below.alloc ?_ (by first | omega | (simp; done) | (simp; omega)) _ | refine Below.setCell ?_ (by first | omega | (simp; done) | (simp; omega)) _))
 | true =>
  obtain rfl : k = 4 := by simpa using hk
  rw [if_pos rfl]
  obtain ⟨nv, hnv⟩ : ∃ nv, numV s = nv := ⟨_, rfl⟩
  rw [hnv] at CP ⊢
  clear hnv h hk
  go_enter Tryz.func44, Tryz.ntmps44
  go_wp2_with (first | (go_at_call 36; refine Calls.mono (C.out _) ?_; rintro e w1 ⟨rfl, hb1⟩; have H1 := hidI hb1; clear hb1) | (go_at_call 70; go_must (refine Calls.mono (CP.out _ (HL.out.on (by have h1 := H1.out; have h2 : Below w.heap.size w w1 := ((Below.refl _ w).alloc (Nat.le_refl _) _).trans (h1.mono (by simp)); have h3 := h2.size; (repeat (first | exact Below.refl _ _ | assumption | refine Below.drew ?_ | refine Below.alloc ?_ (by first | omega | (simp; done) | (simp; omega)) _ | refine Below.setCell ?_ (by first | omega | (simp; done) | (simp; omega)) _))))) ?_); rintro e w2 ⟨rfl, hb2⟩; have H2 := hidI hb2; have hlt1 := Nat.lt_of_lt_of_le (show w.heap.size < _ by simp) H1.out.size; obtain ⟨⟨z0, z1, z2, z3⟩, zf⟩ := zero_cells ((H1.out.alloc H1.out.size (.cells #[.int .u8 4, .string s, .int .i64 0, .int .i64 i] 91)).trans (hb2.mono (by have := H1.out.size; simp only [World.size_alloc] at *; omega))); have zf0 := zf 0; have zf1 := zf 1; have zf2 := zf 2; have zf3 := zf 3; obtain ⟨⟨y0, y1, y2, y3⟩, yf⟩ := four_cells hb2; have yf2 := yf 2; have hne : ¬ w1.heap.size = w.heap.size := (by omega); have hne' : ¬ w.heap.size = w1.heap.size := (by omega); clear hb2 zf yf))
  refine bodyPost_ret (v := .agg #[.int .u8 4, .string s, .int .i64 nv, .int .i64 i]) ?_ rfl ?_
  ·rw [zbP rfl]
   go_simp
  ·refine ⟨rfl, ?_⟩
   have h1 := H1.out
   have h2 : Below w.heap.size w w1 := ((Below.refl _ w).alloc (Nat.le_refl _) _).trans (h1.mono (by simp))
   have h3 := h2.size
   have h4 : Below w.heap.size w w2 := (h2.alloc h3 _).trans (H2.out.mono (by simp; omega))
   (repeat (first | exact Below.refl _ _ | assumption | refine Below.drew ?_ | refine Below.alloc ?_ (by first | omega | (simp; done) | (simp; omega)) _ | refine Below.setCell ?_ (by first | omega | (simp; done) | (simp; omega)) _))
end Go.Proofs.YtmekkhfohmfjkaaGreatDoor
