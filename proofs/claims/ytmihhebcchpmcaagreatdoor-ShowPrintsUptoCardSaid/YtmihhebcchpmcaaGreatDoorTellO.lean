/-
  teller's closure, and One, at forms that are good from a place on.
-/
import Derived.Test.YtmihhebcchpmcaaGreatDoorPrn
import Derived.Test.YtmihhebcchpmcaaGreatDoorRText
import Derived.Deep.RegionHeld3
namespace Go.Proofs.YtmihhebcchpmcaaGreatDoor
open Go.RowKit Go.Deep Go.MapKept Go.Shelf
set_option maxRecDepth 100000 in
set_option maxHeartbeats 8000000 in
theorem tellO_any (fv : Value) (ms : List MV) (B b Bl Bp Bg Bt Bx : Nat) (w0 : World) (hsm : SeesM w0 fv ms) (h0 : w0.heap.size ≤ B) (G : Nat → Prop) (hT : Nice ms G) (hml : ms.length ≤ 100000) (hTab : Tab w0) (GE : World → Prop) (hGk : ∀ w w', GE w → Lib.OthersKept 5 (some b) w w' → Below B w w' → GE w') 
      (hG : ∀ (y : World) (i j d : Nat) (x : MV), GE y → Below B w0 y → ms[i]? = some x → x.1.k = 1 → j < x.1.kids.length → d ≤ 1000000 → Calls Tryz.prog 20 #[x.2, .int .i64 (j : Int), .int .i64 (d : Int)] y fun e w' => e = .returned (.string ⟨(gapB x.1.kids j d).toArray⟩) ∧ Below y.heap.size y w') :
    ∀ (m i d : Nat) (acc : List UInt8) (W : World), i < ms.length → ms.length - i < m → G i → d + m ≤ 1000000 → acc.length + (txt (formsOf ms) gapB m (i : Int) d).length ≤ 140737488355328 → TEnv W fv (.func (.func 20) #[] #[]) Bl Bp Bg Bt Bx b → BldF B b acc W → Below B w0 W → GE W →
      Calls Tryz.prog 42 #[.int .i64 (i : Int), .int .i64 (d : Int), .pointer (some ⟨Bl, 0, none⟩), .pointer (some ⟨Bp, 0, none⟩), .pointer (some ⟨Bg, 0, none⟩), .pointer (some ⟨Bt, 0, none⟩)] W fun e w' => e = .returned (.tuple #[]) ∧ Wr B b acc (txt (formsOf ms) gapB m (i : Int) d) W w' := by
  have HSM := hidI hsm
  have HT := hidI hT
  have HTab := hidI hTab
  have HG := hidI hG
  have HGK := hidI hGk
  clear hsm hT hTab hG hGk
  intro m
  induction m with
  | zero => intro i d acc W hi hm; omega
  | succ m IH =>
    have HIH := hidI IH
    clear IH
    intro i d acc W hi hm hGi hd hlen hE hB hbl hGE
    have HGi := hidI hGi
    clear hGi
    have HGE := hidI hGE
    clear hGE
    obtain ⟨x, hx⟩ : ∃ x, ms[i]? = some x := ⟨_, List.getElem?_eq_getElem hi⟩
    have HE := hidI hE
    have HB := hidI hB
    have HBL := hidI hbl
    have HX := hidI hx
    have hBW : B ≤ W.heap.size := by have := bld_lt hB; have := bld_base hB; omega
    have hbw := bld_lt hB
    obtain ⟨fb, fo, fc, ka, kc, hfv, hkv, y0, y1, y2, y3, y4⟩ := (HSM.out.below hbl h0).load hx
    subst hfv
    have cl := HE.out.l.cell
    have cp := HE.out.p.cell
    have i1 : (i : Int) < (ms.length : Int) := by omega
    have i2 : (0 : Int) ≤ (i : Int) := by omega
    have i3 : ((i : Int)).toNat = i := by omega
    have wd : IntKind.i64.wrap ((d : Int) + 1) = ((d + 1 : Nat) : Int) := by rw [IntKind.wrap_i64]; omega
    have HLen := hidI hlen
    clear hE hB hbl hx hlen
    go_enter Tryz.func42, Tryz.ntmps42
    by_cases hk1 : x.1.k = 1
    · rw [hk1] at y0
      have hx1 := x.1.k
      have HE1 := hidI (HE.out.alloc (.cells #[.int .u8 1, .string x.1.s, .int .i64 x.1.n, .slice ka x.1.kids.length kc, .int .i64 x.1.p] 56))
      have cp1 := HE1.out.p.cell
      have HB1 := hidI (show BldF B b acc _ from Lib.IsBuilderF.alloc HB.out (.cells #[.int .u8 1, .string x.1.s, .int .i64 x.1.n, .slice ka x.1.kids.length kc, .int .i64 x.1.p] 56))
      have htx : txt (formsOf ms) gapB (m + 1) (i : Int) d = 40 :: (x.1.kids.zipIdx.flatMap (fun p => gapB x.1.kids p.2 (d + 1) ++ txt (formsOf ms) gapB m p.1 (d + 1)) ++ [41]) := txt_open (forms_at HX.out) hk1
      have hl2 : acc.length + 2 + (x.1.kids.zipIdx.flatMap (fun p => gapB x.1.kids p.2 (d + 1) ++ txt (formsOf ms) gapB m p.1 (d + 1))).length ≤ 140737488355328 := by
        have := HLen.out
        rw [htx] at this
        simp at this ⊢
        omega
      have hF1 : FormH (W.alloc (.cells #[.int .u8 1, .string x.1.s, .int .i64 x.1.n, .slice ka x.1.kids.length kc, .int .i64 x.1.p] 56)) W.heap.size x.1 (.slice ka x.1.kids.length kc) := by unfold FormH; rw [hk1]; exact (MapKept.heap_alloc W _).1
      have HF1 := hidI hF1
      have HTX := hidI htx
      have hBW1 : B ≤ (W.alloc (.cells #[.int .u8 1, .string x.1.s, .int .i64 x.1.n, .slice ka x.1.kids.length kc, .int .i64 x.1.p] 56)).heap.size := by simp; omega
      have CP := hidI (put_any B b Bx acc ⟨#[40]⟩ _ HE1.out.x HB1.out (by simp; omega) hBW1)
      have HW1 : Hid (Below B W (W.alloc (.cells #[.int .u8 1, .string x.1.s, .int .i64 x.1.n, .slice ka x.1.kids.length kc, .int .i64 x.1.p] 56)) ∧ Lib.OthersKept 5 (some b) W (W.alloc (.cells #[.int .u8 1, .string x.1.s, .int .i64 x.1.n, .slice ka x.1.kids.length kc, .int .i64 x.1.p] 56))) := hidI ⟨(Below.refl _ W).alloc hBW _, (Lib.OthersKept.refl _ _ W).alloc _⟩
      clear hF1 htx hBW1
      go_wp2_with (go_at_call 44; refine CP.out.mono ?_; rintro e w1 ⟨rfl, hw1⟩; have HP1 := hidI hw1; clear hw1; refine Hid.out ?_)
      refine hidI ?_
      have HE2 := hidI (HE1.out.kept HP1.out.2.2)
      have HF2 := hidI (HF1.out.kept HP1.out.2.2 (by omega))
      have HW2 : Hid (Below B W w1 ∧ Lib.OthersKept 5 (some b) W w1) := hidI ⟨HW1.out.1.trans HP1.out.2.1, HW1.out.2.trans HP1.out.2.2⟩
      have HB2 : Hid (BldF B b (acc ++ [40]) w1) := hidI HP1.out.1
      have c3 := HF2.out.cell.2.2.2
      obtain ⟨bf, hbf⟩ : ∃ bf, W.heap.size = bf := ⟨_, rfl⟩
      have hbb : b ≠ bf := by omega
      rw [hbf] at HF2 c3 ⊢
      clear HE1 cp1 HB1 HF1 CP HW1 HP1 cl cp y0 y1 y2 y3 y4 hbf hBW hbw
      go_wp2
      go_loopg [24] x.1.kids.length (fun g s24 wx => ∃ j : Nat, j + g = x.1.kids.length ∧ s24 = .int .i64 (j : Int) ∧ Hid (Wr B b (acc ++ [40]) (kidsT (formsOf ms) gapB m d x.1.kids j) w1 wx))
      case atStart => exact ⟨0, by omega, rfl, hidI ⟨by rw [kidsT_zero, List.append_nil]; exact HB2.out, Below.refl _ _, Lib.OthersKept.refl _ _ _⟩⟩
      case round =>
        obtain ⟨j, hj, rfl, HR⟩ := hrel
        cases gk with
        | zero =>
          have hjl : j = x.1.kids.length := by omega
          subst hjl
          have j1 : ¬ ((x.1.kids.length : Int) < (x.1.kids.length : Int)) := by omega
          have HE3 := hidI (HE2.out.kept HR.out.2.2)
          have cp3 := HE3.out.p.cell
          have hb3 := HR.out.1
          rw [kidsT_all] at hb3
          have hBr : B ≤ wr.heap.size := by have := bld_lt hb3; have := bld_base hb3; omega
          have CP := hidI (put_any B b Bx _ ⟨#[41]⟩ wr HE3.out.x hb3 (by simp at hl2 ⊢; omega) hBr)
          clear hb3 hBr
          go_wp2_with (go_at_call 44; refine CP.out.mono ?_; rintro e w5 ⟨rfl, hw5⟩; have HP5 := hidI hw5; clear hw5)
          go_end0
          refine ⟨rfl, ?_, HW2.out.1.trans (HR.out.2.1.trans HP5.out.2.1), HW2.out.2.trans (HR.out.2.2.trans HP5.out.2.2)⟩
          have := HP5.out.1
          rw [HTX.out]
          simpa using this
        | succ g =>
          have hjl : j < x.1.kids.length := by omega
          have hjb : j < 4611686018427387904 := by have := HT.out.few x (List.mem_of_getElem? HX.out); omega
          obtain ⟨c, hc⟩ : ∃ c, x.1.kids[j]? = some c := ⟨_, List.getElem?_eq_getElem hjl⟩
          have hcr := HT.out.kid i x HGi.out HX.out hk1 c (List.mem_of_getElem? hc)
          obtain ⟨q, rfl⟩ : ∃ q : Nat, c = (q : Int) := ⟨c.toNat, by omega⟩
          have HE3 := hidI (HE2.out.kept HR.out.2.2)
          have HF3 := hidI (HF2.out.kept HR.out.2.2 (fun e => hbb e.symm))
          have cp3 := HE3.out.p.cell
          have cg3 := HE3.out.g.cell
          have ct3 := HE3.out.t.cell
          have cf3 := HF3.out.cell.2.2.2
          have hle := kidsT_le (formsOf ms) gapB m d x.1.kids (j + 1)
          rw [kidsT_succ hc] at hle
          simp only [List.length_append] at hle
          have hBj := HR.out.1
          have hBr : B ≤ wr.heap.size := by have := bld_lt hBj; have := bld_base hBj; omega
          have hkc : ∃ kb ko, ka = some ⟨kb, ko, none⟩ ∧ wr.cell? ⟨kb, ko + j, none⟩ = some (.int .i64 (q : Int)) := by
            have hkd := (HSM.out.below (HBL.out.trans (HW2.out.1.trans HR.out.2.1)) h0).kid i x HX.out
            rw [hkv] at hkd
            obtain ⟨_, ka', kc', he, h00 | ⟨kb, ko, rfl, hcc⟩⟩ := hkd
            · exact absurd hjl (by omega)
            · cases he
              exact ⟨kb, ko, rfl, hcc j _ (intsI_get hc)⟩
          obtain ⟨kb, ko, rfl, ck⟩ := hkc
          have HBJ := hidI hBj
          have j1 : (j : Int) < (x.1.kids.length : Int) := by omega
          have j2 : (0 : Int) ≤ (j : Int) := by omega
          have j3 : ((j : Int)).toNat = j := by omega
          have hGr : GE wr := HGK.out W wr HGE.out (HW2.out.2.trans HR.out.2.2) (HW2.out.1.trans HR.out.2.1)
          have hsz : (⟨(gapB x.1.kids j (d + 1)).toArray⟩ : ByteArray).data.toList = gapB x.1.kids j (d + 1) := by simp
          have hG1 := fun (y : World) (hy : Below wr.heap.size wr y) => HG.out y i j (d + 1) x (HGK.out wr y hGr (kept_low hy) (hy.mono hBr)) (HBL.out.trans (HW2.out.1.trans (HR.out.2.1.trans (hy.mono hBr)))) HX.out hk1 hjl (by omega)
          rw [hkv] at hG1
          have CB := hidI hG1
          have CP := hidI fun (y : World) (hy : Below wr.heap.size wr y) => put_any B b Bx _ ⟨(gapB x.1.kids j (d + 1)).toArray⟩ y (HE3.out.low hy).x (bld_low hBj hy) (by rw [hsz]; simp only [List.length_append, List.length_cons, List.length_nil]; omega) (Nat.le_trans hBr hy.size)
          clear hG1 hGr hsz
          have CT := hidI fun (y : World) (acc1 : List UInt8) h1 h2 h3 h4 h5 h6 h7 => HIH.out q (d + 1) acc1 y h1 h2 (by simpa using hcr.2.2) h3 h4 h5 h6 h7
          go_wp2
          go_region_held3 (fun y => y.cell? ⟨Bp, 0, none⟩ = some (fnPut Bx) ∧ y.cell? ⟨Bg, 0, none⟩ = some (.func (.func 20) #[] #[]) ∧ y.cell? ⟨bf, 3, none⟩ = some (.slice (some ⟨kb, ko, none⟩) x.1.kids.length kc))
            (first | exact ⟨by go_keep, by go_keep, by go_keep⟩ | assumption)
            ((first | (go_at_call 20; refine Calls.mono (CB.out _ (by (repeat (first | exact Below.refl _ _ | assumption | refine Below.drew ?_ | refine Below.alloc ?_ (by first | omega | (simp; done) | (simp; omega)) _ | refine Below.setCell ?_ (by first | omega | (simp; done) | (simp; omega)) _)))) ?_; rintro e y1 ⟨rfl, hy1⟩; have hy2 : Below wr.heap.size wr y1 := undrew hy1; have HY1 := hidI hy2; have hS1 : y1.cell? ⟨Bp, 0, none⟩ = some (fnPut Bx) ∧ y1.cell? ⟨Bg, 0, none⟩ = some (.func (.func 20) #[] #[]) ∧ y1.cell? ⟨bf, 3, none⟩ = some (.slice (some ⟨kb, ko, none⟩) x.1.kids.length kc) := ⟨(HE3.out.low hy2).p.cell, (HE3.out.low hy2).g.cell, (HF3.out.below hy2 (Array.getElem?_eq_some_iff.1 HF3.out).1).cell.2.2.2⟩; clear hy1 hy2) | (go_at_call 44; refine Calls.mono (CP.out _ HY1.out) ?_; rintro e w2 ⟨rfl, hw2⟩; have HP2 : Hid (Wr B b (acc ++ [40] ++ kidsT (formsOf ms) gapB m d x.1.kids j) (gapB x.1.kids j (d + 1)) wr w2) := hidI ⟨by have h9 := hw2.1; simpa [List.append_assoc] using h9, (HY1.out.mono hBr).trans hw2.2.1, (kept_low HY1.out).trans hw2.2.2⟩; have HE4 := hidI (HE3.out.kept HP2.out.2.2); have HF4 := hidI (HF3.out.kept HP2.out.2.2 (fun e => hbb e.symm)); have hS2 : w2.cell? ⟨Bp, 0, none⟩ = some (fnPut Bx) ∧ w2.cell? ⟨Bg, 0, none⟩ = some (.func (.func 20) #[] #[]) ∧ w2.cell? ⟨bf, 3, none⟩ = some (.slice (some ⟨kb, ko, none⟩) x.1.kids.length kc) := ⟨HE4.out.p.cell, HE4.out.g.cell, HF4.out.cell.2.2.2⟩; clear hw2)))
          all_goals
            have hBd : Hid (BldF B b (acc ++ [40] ++ (kidsT (formsOf ms) gapB m d x.1.kids j ++ gapB x.1.kids j (d + 1))) w2) := hidI (by rw [← List.append_assoc]; exact HP2.out.1)
            have ct4 := HE4.out.t.cell
            have CT2 := hidI (CT.out w2 _ (by omega) (by omega) (by omega) (by simp only [List.length_append, List.length_cons, List.length_nil]; omega) HE4.out hBd.out (HBL.out.trans (HW2.out.1.trans (HR.out.2.1.trans HP2.out.2.1))) (HGK.out W w2 HGE.out (HW2.out.2.trans (HR.out.2.2.trans HP2.out.2.2)) (HW2.out.1.trans (HR.out.2.1.trans HP2.out.2.1))))
            go_wp2_with (go_at_call 42; refine CT2.out.mono ?_; rintro e w4 ⟨rfl, hw4⟩; have HP4 := hidI hw4; clear hw4)
            go_roundg g
            case measure => omega
            case rel => exact ⟨j + 1, by omega, by first | go_num | rfl, hidI ⟨by rw [kidsT_succ hc]; have := HP4.out.1; simpa [List.append_assoc] using this, HR.out.2.1.trans (HP2.out.2.1.trans HP4.out.2.1), HR.out.2.2.trans (HP2.out.2.2.trans HP4.out.2.2)⟩⟩
    by_cases hk3 : x.1.k = 3
    · rw [hk3] at y0
      have HE1 := hidI (HE.out.alloc (.cells #[.int .u8 3, .string x.1.s, .int .i64 x.1.n, .slice ka x.1.kids.length kc, .int .i64 x.1.p] 56))
      have cp1 := HE1.out.p.cell
      have HB1 := hidI (show BldF B b acc _ from Lib.IsBuilderF.alloc HB.out (.cells #[.int .u8 3, .string x.1.s, .int .i64 x.1.n, .slice ka x.1.kids.length kc, .int .i64 x.1.p] 56))
      have hBW1 : B ≤ (W.alloc (.cells #[.int .u8 3, .string x.1.s, .int .i64 x.1.n, .slice ka x.1.kids.length kc, .int .i64 x.1.p] 56)).heap.size := by simp; omega
      have HW1 : Hid (Below B W (W.alloc (.cells #[.int .u8 3, .string x.1.s, .int .i64 x.1.n, .slice ka x.1.kids.length kc, .int .i64 x.1.p] 56)) ∧ Lib.OthersKept 5 (some b) W (W.alloc (.cells #[.int .u8 3, .string x.1.s, .int .i64 x.1.n, .slice ka x.1.kids.length kc, .int .i64 x.1.p] 56))) := hidI ⟨(Below.refl _ W).alloc hBW _, (Lib.OthersKept.refl _ _ W).alloc _⟩
      have htx : txt (formsOf ms) gapB (m + 1) (i : Int) d = x.1.s.data.toList := txt_name (forms_at HX.out) hk3
      have hl2 := HLen.out
      rw [htx] at hl2 ⊢
      have CP := hidI (put_any B b Bx acc x.1.s _ HE1.out.x HB1.out hl2 hBW1)
      clear htx hBW1
      go_wp2_with (go_at_call 44; refine CP.out.mono ?_; rintro e w1 ⟨rfl, hw1⟩; have HP1 := hidI hw1; clear hw1)
      go_end0
      exact ⟨rfl, HP1.out.1, HW1.out.1.trans HP1.out.2.1, HW1.out.2.trans HP1.out.2.2⟩
    by_cases hk4 : x.1.k = 4
    · rw [hk4] at y0
      have HE1 := hidI (HE.out.alloc (.cells #[.int .u8 4, .string x.1.s, .int .i64 x.1.n, .slice ka x.1.kids.length kc, .int .i64 x.1.p] 56))
      have cp1 := HE1.out.p.cell
      have HB1 := hidI (show BldF B b acc _ from Lib.IsBuilderF.alloc HB.out (.cells #[.int .u8 4, .string x.1.s, .int .i64 x.1.n, .slice ka x.1.kids.length kc, .int .i64 x.1.p] 56))
      have hBW1 : B ≤ (W.alloc (.cells #[.int .u8 4, .string x.1.s, .int .i64 x.1.n, .slice ka x.1.kids.length kc, .int .i64 x.1.p] 56)).heap.size := by simp; omega
      have HW1 : Hid (Below B W (W.alloc (.cells #[.int .u8 4, .string x.1.s, .int .i64 x.1.n, .slice ka x.1.kids.length kc, .int .i64 x.1.p] 56)) ∧ Lib.OthersKept 5 (some b) W (W.alloc (.cells #[.int .u8 4, .string x.1.s, .int .i64 x.1.n, .slice ka x.1.kids.length kc, .int .i64 x.1.p] 56))) := hidI ⟨(Below.refl _ W).alloc hBW _, (Lib.OthersKept.refl _ _ W).alloc _⟩
      have htx : txt (formsOf ms) gapB (m + 1) (i : Int) d = Lib.itoa x.1.n := txt_num (forms_at HX.out) hk4
      have hl2 := HLen.out
      rw [htx] at hl2 ⊢
      obtain ⟨W1, hW1⟩ : ∃ W1, W.alloc (.cells #[.int .u8 4, .string x.1.s, .int .i64 x.1.n, .slice ka x.1.kids.length kc, .int .i64 x.1.p] 56) = W1 := ⟨_, rfl⟩
      have c2 : W1.cell? ⟨W.heap.size, 2, none⟩ = some (.int .i64 x.1.n) := by rw [← hW1]; rw [Lib.cell_of_heap (MapKept.heap_alloc W _).1]; rfl
      have hTab1 : Tab W1 := HTab.out.on (((HBL.out.trans HW1.out.1).mono h0).trans (by rw [hW1]; exact Below.refl _ _))
      have CD := hidI fun (y : World) (hy : Below W1.heap.size W1 y) => digits_any x.1.n y (HT.out.num x (List.mem_of_getElem? HX.out)) (hTab1.on hy)
      rw [hW1] at HE1 HB1 hBW1 HW1 cp1
      have CP := hidI fun (y : World) (hy : Below W1.heap.size W1 y) => put_any B b Bx acc ⟨(Lib.itoa x.1.n).toArray⟩ y (HE1.out.low hy).x (bld_low HB1.out hy) (by simpa using hl2) (Nat.le_trans hBW1 hy.size)
      have HC1 := hidI (show ∀ y : World, Below W1.heap.size W1 y → y.cell? ⟨Bp, 0, none⟩ = some (fnPut Bx) ∧ y.cell? ⟨W.heap.size, 2, none⟩ = some (.int .i64 x.1.n) from fun y hy => ⟨(HE1.out.low hy).p.cell, (hy.cell (World.block_lt_of_cell? W1 _ c2)).trans c2⟩)
      have HF1 : Hid (FormH W1 W.heap.size x.1 (.slice ka x.1.kids.length kc)) := hidI (by rw [← hW1]; unfold FormH; rw [hk4]; exact (MapKept.heap_alloc W _).1)
      have HW1e := hidI hW1
      have hlt1 : W.heap.size < W1.heap.size := World.block_lt_of_cell? W1 _ c2
      clear htx
      rw [← hW1] at cp1 c2
      clear hW1
      go_wp2
      rw [HW1e.out] at cp1 c2 ⊢
      go_region_held3 (fun y => y.cell? ⟨Bp, 0, none⟩ = some (fnPut Bx) ∧ y.cell? ⟨W.heap.size, 2, none⟩ = some (.int .i64 x.1.n))
        (first | exact ⟨by go_keep, by go_keep⟩ | assumption)
        ((first | (go_at_call 43; refine Calls.mono (CD.out _ (by (repeat (first | exact Below.refl _ _ | assumption | refine Below.drew ?_ | refine Below.alloc ?_ (by first | omega | (simp; done) | (simp; omega)) _ | refine Below.setCell ?_ (by first | omega | (simp; done) | (simp; omega)) _)))) ?_; rintro e y1 ⟨rfl, hy1⟩; have hy2 : Below W1.heap.size W1 y1 := undrew hy1; have HY1 := hidI hy2; have hS1 := HC1.out y1 hy2; clear hy1 hy2) | (go_at_call 44; refine Calls.mono (CP.out _ HY1.out) ?_; rintro e w2 ⟨rfl, hw2⟩; have HP2 := hidI hw2; have hS2 : w2.cell? ⟨Bp, 0, none⟩ = some (fnPut Bx) ∧ w2.cell? ⟨W.heap.size, 2, none⟩ = some (.int .i64 x.1.n) := ⟨((HE1.out.low HY1.out).kept hw2.2.2).p.cell, by have h5 := HF1.out.below HY1.out (by omega); exact (h5.kept hw2.2.2 (by omega)).cell.2.2.1⟩; clear hw2)))
      all_goals
        go_wp2
        go_end0
        refine ⟨rfl, ?_, HW1.out.1.trans ((HY1.out.mono hBW1).trans HP2.out.2.1), HW1.out.2.trans ((kept_low HY1.out).trans HP2.out.2.2)⟩
        have := HP2.out.1
        simpa using this
    · have n1 : (x.1.k == 1) = false := by simp [hk1]
      have n3 : (x.1.k == 3) = false := by simp [hk3]
      have n4 : (x.1.k == 4) = false := by simp [hk4]
      have htx : txt (formsOf ms) gapB (m + 1) (i : Int) d = [] := txt_none (forms_at HX.out) hk1 hk3 hk4
      rw [htx]
      go_wp2
      go_end0
      exact ⟨rfl, by rw [List.append_nil]; exact Lib.IsBuilderF.alloc HB.out _, (Below.refl _ W).alloc hBW _, (Lib.OthersKept.refl _ _ W).alloc _⟩
set_option maxRecDepth 100000 in
set_option maxHeartbeats 1000000 in
theorem oneO_ok (fv : Value) (ms : List MV) (i : Nat) (w : World) (hs : SeesM w fv ms) (hi : i < ms.length) (G : Nat → Prop) (hT : Nice ms G) (hGi : G i) (hml : ms.length ≤ 100000) (hTab : Tab w) (hlk : (lookF (formsOf ms) (ms.length + 1) i 0).1 = true) (hlen : (txt (formsOf ms) gapB (ms.length + 1) (i : Int) 0).length ≤ 140737488355328) :
    Calls Tryz.prog 9 #[fv, .int .i64 (i : Int)] w fun e w' => e = .returned (.tuple #[.string ⟨(txt (formsOf ms) gapB (ms.length + 1) (i : Int) 0).toArray⟩, .int .i64 0]) ∧ Below w.heap.size w w' := by
  have CI0 := isForm_any fv ms i w hs hi hml hT.few
  rw [hlk] at CI0
  have CI := hidI CI0
  obtain ⟨_, fa, fc, hfv, _⟩ := hs.row
  subst hfv
  have HS := hidI hs
  have HT := hidI hT
  have HGi := hidI hGi
  have HTab := hidI hTab
  have HLen := hidI hlen
  have i1 : ¬ (i : Int) < 0 := by omega
  have i2 : ¬ (ms.length : Int) ≤ (i : Int) := by omega
  clear hs hT hGi hTab hlen CI0 hlk
  go_enter Tryz.func9, Tryz.ntmps9
  go_wp2_with (go_at_call 23; refine CI.out.mono ?_; rintro e w1 ⟨rfl, hb1⟩; have HB1 := hidI hb1; clear hb1 CI; refine Hid.out ?_)
  refine hidI ?_
  go_wp2_with (go_at_call 25; refine (putInto_any _ _).mono ?_; rintro e w2 ⟨rfl, hw2⟩; have HW2 := hidI hw2; clear hw2; refine Hid.out ?_)
  refine hidI ?_
  go_wp2_with (go_at_call 24; refine (teller_any _ _ _ 20 _ _ _).mono ?_; rintro e w3 ⟨rfl, hl3, hg3, hp3, ht3, hb3⟩; have HL3 := hidI hl3; have HG3 := hidI hg3; have HP3 := hidI hp3; have HT3 := hidI ht3; have HB3 := hidI hb3; clear hl3 hg3 hp3 ht3 hb3; refine Hid.out ?_)
  refine hidI ?_
  have hw2 := HW2.out
  have hb2 : Below w1.heap.size w1 w2 := by rw [← hw2]; (repeat (first | exact Below.refl _ _ | assumption | refine Below.drew ?_ | refine Below.alloc ?_ (by first | omega | (simp; done) | (simp; omega)) _ | refine Below.setCell ?_ (by first | omega | (simp; done) | (simp; omega)) _))
  have hz2 : w2.heap.size = w1.heap.size + 2 := by rw [← hw2]; simp
  have hx2 : BoxH w2 (w1.heap.size + 1) 40 (.pointer (some ⟨w1.heap.size, 0, none⟩)) := by rw [← hw2]; have := BoxH.new (w1.alloc (.cells #[.pointer none, .slice none 0 0] 43)) 40 (.pointer (some ⟨w1.heap.size, 0, none⟩)); simpa using this
  have hbl2 : BldF w1.heap.size w1.heap.size [] w2 := by rw [← hw2]; exact Lib.IsBuilderF.alloc (bld_new w1) _
  have hz1 : (w1.alloc (.cells #[.pointer none, .slice none 0 0] 43)).heap.size = w1.heap.size + 1 := by simp
  try rw [hz1] at HP3
  try rw [hz1]
  have HE : Hid (TEnv w3 (.slice fa ms.length fc) (.func (.func 20) #[] #[]) w2.heap.size (w2.heap.size + 2) (w2.heap.size + 1) (w2.heap.size + 3) (w1.heap.size + 1) w1.heap.size) := hidI ⟨HL3.out, HP3.out, HG3.out, HT3.out, hx2.below HB3.out hx2.lt, by omega, by omega, by omega, by omega, by omega⟩
  have HBld : Hid (BldF w1.heap.size w1.heap.size [] w3) := hidI (bld_low hbl2 HB3.out)
  have HBw : Hid (Below w1.heap.size w1 w3) := hidI (hb2.trans (HB3.out.mono (by omega)))
  have CT := hidI (tellO_any (.slice fa ms.length fc) ms w1.heap.size w1.heap.size w2.heap.size (w2.heap.size + 2) (w2.heap.size + 1) (w2.heap.size + 3) (w1.heap.size + 1) w1 (HS.out.below HB1.out (Nat.le_refl _)) (Nat.le_refl _) G HT.out hml (HTab.out.on HB1.out) (fun _ => True) (fun _ _ _ _ _ => trivial)
    (fun y i j d x _ _ _ _ _ _ => (blanks_any x.2 j (d : Int) y).mono (fun e w' h => ⟨h.1, by rw [← h.2]; exact Below.refl _ _⟩)) (ms.length + 1) i 0 [] w3 hi (by omega) HGi.out (by omega) (by have := HLen.out; simpa using this) HE.out HBld.out HBw.out trivial)
  clear hw2 hb2 hz2 hx2 hbl2 hz1 HW2 HL3 HG3 HP3 HT3
  go_wp2_with (go_at_call 42; refine CT.out.mono ?_; rintro e w4 ⟨rfl, hw4⟩; have HP4 := hidI hw4; clear hw4; refine Hid.out ?_)
  refine hidI ?_
  have hb4 := HP4.out.1
  rw [List.nil_append] at hb4
  have hBr : w1.heap.size ≤ w4.heap.size := by have := bld_lt hb4; omega
  have CS := hidI (string_any w1.heap.size w1.heap.size _ w4 hb4 hBr)
  have HF : Hid (Below w.heap.size w w4) := hidI (HB1.out.trans ((HBw.out.trans HP4.out.2.1).mono HB1.out.size))
  clear hb4 CT
  go_wp2_with (go_at_call 26; refine CS.out.mono ?_; rintro e w5 ⟨rfl, hb5⟩; have HB5 := hidI hb5; clear hb5)
  go_ret2
  exact ⟨rfl, HF.out.trans (HB5.out.mono HB1.out.size)⟩
end Go.Proofs.YtmihhebcchpmcaaGreatDoor
