/-
  tell, with blanks between kids.
-/
import Derived.Test.YtmihhebcchpmcaaGreatDoorTellM
import Derived.Deep.RegionHeld3
namespace Go.Proofs.YtmihhebcchpmcaaGreatDoor
open Go.RowKit Go.Deep Go.MapKept
set_option maxRecDepth 100000 in
set_option maxHeartbeats 8000000 in
theorem tellB_any (fv : Value) (ms : List MV) (B b Bl Bp Bg Bt Bx : Nat) (w0 : World) (hsm : SeesM w0 fv ms) (h0 : w0.heap.size ≤ B) (hT : Tellable ms) (hml : ms.length ≤ 100000) (hTab : Tab w0) (GE : World → Prop) (hGk : ∀ w w', GE w → Lib.OthersKept 5 (some b) w w' → Below B w w' → GE w') 
      (hG : ∀ (y : World) (i j d : Nat) (x : MV), GE y → Below B w0 y → ms[i]? = some x → x.1.k = 1 → j < x.1.kids.length → d ≤ 1000000 → Calls Tryz.prog 20 #[x.2, .int .i64 (j : Int), .int .i64 (d : Int)] y fun e w' => e = .returned (.string ⟨(gapB x.1.kids j d).toArray⟩) ∧ Below y.heap.size y w') :
    ∀ (m i d : Nat) (acc : List UInt8) (W : World), i < ms.length → ms.length - i < m → d + m ≤ 1000000 → acc.length + (txt (formsOf ms) gapB m (i : Int) d).length ≤ 140737488355328 → TEnv W fv (.func (.func 20) #[] #[]) Bl Bp Bg Bt Bx b → BldF B b acc W → Below B w0 W → GE W →
      Calls Tryz.prog 42 #[.int .i64 (i : Int), .int .i64 (d : Int), .pointer (some ⟨Bl, 0, none⟩), .pointer (some ⟨Bp, 0, none⟩), .pointer (some ⟨Bg, 0, none⟩), .pointer (some ⟨Bt, 0, none⟩)] W fun e w' => e = .returned (.tuple #[]) ∧ Wr B b acc (txt (formsOf ms) gapB m (i : Int) d) W w' := by
  have HSM := hidI hsm
  have HT := hidI hT
  have HTab := hidI hTab
  have HG := hidI hG
  have HGK := hidI hGk
  clear hsm hT hTab hG hGk
  intro m
  induction m with
  | zero => intro i d acc W hi hm; omega
  | succ m IH =>
    have HIH := hidI IH
    clear IH
    intro i d acc W hi hm hd hlen hE hB hbl hGE
    have HGE := hidI hGE
    clear hGE
    obtain ⟨x, hx⟩ : ∃ x, ms[i]? = some x := ⟨_, List.getElem?_eq_getElem hi⟩
    have HE := hidI hE
    have HB := hidI hB
    have HBL := hidI hbl
    have HX := hidI hx
    have hBW : B ≤ W.heap.size := by have := bld_lt hB; have := bld_base hB; omega
    have hbw := bld_lt hB
    obtain ⟨fb, fo, fc, ka, kc, hfv, hkv, y0, y1, y2, y3, y4⟩ := (HSM.out.below hbl h0).load hx
    subst hfv
    have cl := HE.out.l.cell
    have cp := HE.out.p.cell
    have i1 : (i : Int) < (ms.length : Int) := by omega
    have i2 : (0 : Int) ≤ (i : Int) := by omega
    have i3 : ((i : Int)).toNat = i := by omega
    have wd : IntKind.i64.wrap ((d : Int) + 1) = ((d + 1 : Nat) : Int) := by rw [IntKind.wrap_i64]; omega
    have HLen := hidI hlen
    clear hE hB hbl hx hlen
    go_enter Tryz.func42, Tryz.ntmps42
    by_cases hk1 : x.1.k = 1
    · rw [hk1] at y0
      have hx1 := x.1.k
      have HE1 := hidI (HE.out.alloc (.cells #[.int .u8 1, .string x.1.s, .int .i64 x.1.n, .slice ka x.1.kids.length kc, .int .i64 x.1.p] 56))
      have cp1 := HE1.out.p.cell
      have HB1 := hidI (show BldF B b acc _ from Lib.IsBuilderF.alloc HB.out (.cells #[.int .u8 1, .string x.1.s, .int .i64 x.1.n, .slice ka x.1.kids.length kc, .int .i64 x.1.p] 56))
      have htx : txt (formsOf ms) gapB (m + 1) (i : Int) d = 40 :: (x.1.kids.zipIdx.flatMap (fun p => gapB x.1.kids p.2 (d + 1) ++ txt (formsOf ms) gapB m p.1 (d + 1)) ++ [41]) := txt_open (forms_at HX.out) hk1
      have hl2 : acc.length + 2 + (x.1.kids.zipIdx.flatMap (fun p => gapB x.1.kids p.2 (d + 1) ++ txt (formsOf ms) gapB m p.1 (d + 1))).length ≤ 140737488355328 := by
        have := HLen.out
        rw [htx] at this
        simp at this ⊢
        omega
      have hF1 : FormH (W.alloc (.cells #[.int .u8 1, .string x.1.s, .int .i64 x.1.n, .slice ka x.1.kids.length kc, .int .i64 x.1.p] 56)) W.heap.size x.1 (.slice ka x.1.kids.length kc) := by unfold FormH; rw [hk1]; exact (MapKept.heap_alloc W _).1
      have HF1 := hidI hF1
      have HTX := hidI htx
      have hBW1 : B ≤ (W.alloc (.cells #[.int .u8 1, .string x.1.s, .int .i64 x.1.n, .slice ka x.1.kids.length kc, .int .i64 x.1.p] 56)).heap.size := by simp; omega
      have CP := hidI (put_any B b Bx acc ⟨#[40]⟩ _ HE1.out.x HB1.out (by simp; omega) hBW1)
      have HW1 : Hid (Below B W (W.alloc (.cells #[.int .u8 1, .string x.1.s, .int .i64 x.1.n, .slice ka x.1.kids.length kc, .int .i64 x.1.p] 56)) ∧ Lib.OthersKept 5 (some b) W (W.alloc (.cells #[.int .u8 1, .string x.1.s, .int .i64 x.1.n, .slice ka x.1.kids.length kc, .int .i64 x.1.p] 56))) := hidI ⟨(Below.refl _ W).alloc hBW _, (Lib.OthersKept.refl _ _ W).alloc _⟩
      clear hF1 htx hBW1
      go_wp2_with (go_at_call 44; refine CP.out.mono ?_; rintro e w1 ⟨rfl, hw1⟩; have HP1 := hidI hw1; clear hw1; refine Hid.out ?_)
      refine hidI ?_
      have HE2 := hidI (HE1.out.kept HP1.out.2.2)
      have HF2 := hidI (HF1.out.kept HP1.out.2.2 (by omega))
      have HW2 : Hid (Below B W w1 ∧ Lib.OthersKept 5 (some b) W w1) := hidI ⟨HW1.out.1.trans HP1.out.2.1, HW1.out.2.trans HP1.out.2.2⟩
      have HB2 : Hid (BldF B b (acc ++ [40]) w1) := hidI HP1.out.1
      have c3 := HF2.out.cell.2.2.2
      obtain ⟨bf, hbf⟩ : ∃ bf, W.heap.size = bf := ⟨_, rfl⟩
      have hbb : b ≠ bf := by omega
      rw [hbf] at HF2 c3 ⊢
      clear HE1 cp1 HB1 HF1 CP HW1 HP1 cl cp y0 y1 y2 y3 y4 hbf hBW hbw
      go_wp2
      go_loopg [24] x.1.kids.length (fun g s24 wx => ∃ j : Nat, j + g = x.1.kids.length ∧ s24 = .int .i64 (j : Int) ∧ Hid (Wr B b (acc ++ [40]) (kidsT (formsOf ms) gapB m d x.1.kids j) w1 wx))
      case atStart => exact ⟨0, by omega, rfl, hidI ⟨by rw [kidsT_zero, List.append_nil]; exact HB2.out, Below.refl _ _, Lib.OthersKept.refl _ _ _⟩⟩
      case round =>
        obtain ⟨j, hj, rfl, HR⟩ := hrel
        cases gk with
        | zero =>
          have hjl : j = x.1.kids.length := by omega
          subst hjl
          have j1 : ¬ ((x.1.kids.length : Int) < (x.1.kids.length : Int)) := by omega
          have HE3 := hidI (HE2.out.kept HR.out.2.2)
          have cp3 := HE3.out.p.cell
          have hb3 := HR.out.1
          rw [kidsT_all] at hb3
          have hBr : B ≤ wr.heap.size := by have := bld_lt hb3; have := bld_base hb3; omega
          have CP := hidI (put_any B b Bx _ ⟨#[41]⟩ wr HE3.out.x hb3 (by simp at hl2 ⊢; omega) hBr)
          clear hb3 hBr
          go_wp2_with (go_at_call 44; refine CP.out.mono ?_; rintro e w5 ⟨rfl, hw5⟩; have HP5 := hidI hw5; clear hw5)
          go_end0
          refine ⟨rfl, ?_, HW2.out.1.trans (HR.out.2.1.trans HP5.out.2.1), HW2.out.2.trans (HR.out.2.2.trans HP5.out.2.2)⟩
          have := HP5.out.1
          rw [HTX.out]
          simpa using this
        | succ g =>
          have hjl : j < x.1.kids.length := by omega
          have hjb : j < 4611686018427387904 := by have := HT.out.few x (List.mem_of_getElem? HX.out); omega
          obtain ⟨c, hc⟩ : ∃ c, x.1.kids[j]? = some c := ⟨_, List.getElem?_eq_getElem hjl⟩
          have hcr := HT.out.kid i x HX.out hk1 c (List.mem_of_getElem? hc)
          obtain ⟨q, rfl⟩ : ∃ q : Nat, c = (q : Int) := ⟨c.toNat, by omega⟩
          have HE3 := hidI (HE2.out.kept HR.out.2.2)
          have HF3 := hidI (HF2.out.kept HR.out.2.2 (fun e => hbb e.symm))
          have cp3 := HE3.out.p.cell
          have cg3 := HE3.out.g.cell
          have ct3 := HE3.out.t.cell
          have cf3 := HF3.out.cell.2.2.2
          have hle := kidsT_le (formsOf ms) gapB m d x.1.kids (j + 1)
          rw [kidsT_succ hc] at hle
          simp only [List.length_append] at hle
          have hBj := HR.out.1
          have hBr : B ≤ wr.heap.size := by have := bld_lt hBj; have := bld_base hBj; omega
          have hkc : ∃ kb ko, ka = some ⟨kb, ko, none⟩ ∧ wr.cell? ⟨kb, ko + j, none⟩ = some (.int .i64 (q : Int)) := by
            have hkd := (HSM.out.below (HBL.out.trans (HW2.out.1.trans HR.out.2.1)) h0).kid i x HX.out
            rw [hkv] at hkd
            obtain ⟨_, ka', kc', he, h00 | ⟨kb, ko, rfl, hcc⟩⟩ := hkd
            · exact absurd hjl (by omega)
            · cases he
              exact ⟨kb, ko, rfl, hcc j _ (intsI_get hc)⟩
          obtain ⟨kb, ko, rfl, ck⟩ := hkc
          have HBJ := hidI hBj
          have j1 : (j : Int) < (x.1.kids.length : Int) := by omega
          have j2 : (0 : Int) ≤ (j : Int) := by omega
          have j3 : ((j : Int)).toNat = j := by omega
          have hGr : GE wr := HGK.out W wr HGE.out (HW2.out.2.trans HR.out.2.2) (HW2.out.1.trans HR.out.2.1)
          have hsz : (⟨(gapB x.1.kids j (d + 1)).toArray⟩ : ByteArray).data.toList = gapB x.1.kids j (d + 1) := by simp
          have hG1 := fun (y : World) (hy : Below wr.heap.size wr y) => HG.out y i j (d + 1) x (HGK.out wr y hGr (kept_low hy) (hy.mono hBr)) (HBL.out.trans (HW2.out.1.trans (HR.out.2.1.trans (hy.mono hBr)))) HX.out hk1 hjl (by omega)
          rw [hkv] at hG1
          have CB := hidI hG1
          have CP := hidI fun (y : World) (hy : Below wr.heap.size wr y) => put_any B b Bx _ ⟨(gapB x.1.kids j (d + 1)).toArray⟩ y (HE3.out.low hy).x (bld_low hBj hy) (by rw [hsz]; simp only [List.length_append, List.length_cons, List.length_nil]; omega) (Nat.le_trans hBr hy.size)
          clear hG1 hGr hsz
          have CT := hidI fun (y : World) (acc1 : List UInt8) h1 h2 h3 h4 h5 h6 h7 => HIH.out q (d + 1) acc1 y h1 h2 h3 h4 h5 h6 h7
          go_wp2
          go_region_held3 (fun y => y.cell? ⟨Bp, 0, none⟩ = some (fnPut Bx) ∧ y.cell? ⟨Bg, 0, none⟩ = some (.func (.func 20) #[] #[]) ∧ y.cell? ⟨bf, 3, none⟩ = some (.slice (some ⟨kb, ko, none⟩) x.1.kids.length kc))
            (first | exact ⟨by go_keep, by go_keep, by go_keep⟩ | assumption)
            ((first | (go_at_call 20; refine Calls.mono (CB.out _ (by (repeat (first | exact Below.refl _ _ | assumption | refine Below.drew ?_ | refine Below.alloc ?_ (by first | omega | (simp; done) | (simp; omega)) _ | refine Below.setCell ?_ (by first | omega | (simp; done) | (simp; omega)) _)))) ?_; rintro e y1 ⟨rfl, hy1⟩; have hy2 : Below wr.heap.size wr y1 := undrew hy1; have HY1 := hidI hy2; have hS1 : y1.cell? ⟨Bp, 0, none⟩ = some (fnPut Bx) ∧ y1.cell? ⟨Bg, 0, none⟩ = some (.func (.func 20) #[] #[]) ∧ y1.cell? ⟨bf, 3, none⟩ = some (.slice (some ⟨kb, ko, none⟩) x.1.kids.length kc) := ⟨(HE3.out.low hy2).p.cell, (HE3.out.low hy2).g.cell, (HF3.out.below hy2 (Array.getElem?_eq_some_iff.1 HF3.out).1).cell.2.2.2⟩; clear hy1 hy2) | (go_at_call 44; refine Calls.mono (CP.out _ HY1.out) ?_; rintro e w2 ⟨rfl, hw2⟩; have HP2 : Hid (Wr B b (acc ++ [40] ++ kidsT (formsOf ms) gapB m d x.1.kids j) (gapB x.1.kids j (d + 1)) wr w2) := hidI ⟨by have h9 := hw2.1; simpa [List.append_assoc] using h9, (HY1.out.mono hBr).trans hw2.2.1, (kept_low HY1.out).trans hw2.2.2⟩; have HE4 := hidI (HE3.out.kept HP2.out.2.2); have HF4 := hidI (HF3.out.kept HP2.out.2.2 (fun e => hbb e.symm)); have hS2 : w2.cell? ⟨Bp, 0, none⟩ = some (fnPut Bx) ∧ w2.cell? ⟨Bg, 0, none⟩ = some (.func (.func 20) #[] #[]) ∧ w2.cell? ⟨bf, 3, none⟩ = some (.slice (some ⟨kb, ko, none⟩) x.1.kids.length kc) := ⟨HE4.out.p.cell, HE4.out.g.cell, HF4.out.cell.2.2.2⟩; clear hw2)))
          all_goals
            have hBd : Hid (BldF B b (acc ++ [40] ++ (kidsT (formsOf ms) gapB m d x.1.kids j ++ gapB x.1.kids j (d + 1))) w2) := hidI (by rw [← List.append_assoc]; exact HP2.out.1)
            have ct4 := HE4.out.t.cell
            have CT2 := hidI (CT.out w2 _ (by omega) (by omega) (by omega) (by simp only [List.length_append, List.length_cons, List.length_nil]; omega) HE4.out hBd.out (HBL.out.trans (HW2.out.1.trans (HR.out.2.1.trans HP2.out.2.1))) (HGK.out W w2 HGE.out (HW2.out.2.trans (HR.out.2.2.trans HP2.out.2.2)) (HW2.out.1.trans (HR.out.2.1.trans HP2.out.2.1))))
            go_wp2_with (go_at_call 42; refine CT2.out.mono ?_; rintro e w4 ⟨rfl, hw4⟩; have HP4 := hidI hw4; clear hw4)
            go_roundg g
            case measure => omega
            case rel => exact ⟨j + 1, by omega, by first | go_num | rfl, hidI ⟨by rw [kidsT_succ hc]; have := HP4.out.1; simpa [List.append_assoc] using this, HR.out.2.1.trans (HP2.out.2.1.trans HP4.out.2.1), HR.out.2.2.trans (HP2.out.2.2.trans HP4.out.2.2)⟩⟩
    by_cases hk3 : x.1.k = 3
    · rw [hk3] at y0
      have HE1 := hidI (HE.out.alloc (.cells #[.int .u8 3, .string x.1.s, .int .i64 x.1.n, .slice ka x.1.kids.length kc, .int .i64 x.1.p] 56))
      have cp1 := HE1.out.p.cell
      have HB1 := hidI (show BldF B b acc _ from Lib.IsBuilderF.alloc HB.out (.cells #[.int .u8 3, .string x.1.s, .int .i64 x.1.n, .slice ka x.1.kids.length kc, .int .i64 x.1.p] 56))
      have hBW1 : B ≤ (W.alloc (.cells #[.int .u8 3, .string x.1.s, .int .i64 x.1.n, .slice ka x.1.kids.length kc, .int .i64 x.1.p] 56)).heap.size := by simp; omega
      have HW1 : Hid (Below B W (W.alloc (.cells #[.int .u8 3, .string x.1.s, .int .i64 x.1.n, .slice ka x.1.kids.length kc, .int .i64 x.1.p] 56)) ∧ Lib.OthersKept 5 (some b) W (W.alloc (.cells #[.int .u8 3, .string x.1.s, .int .i64 x.1.n, .slice ka x.1.kids.length kc, .int .i64 x.1.p] 56))) := hidI ⟨(Below.refl _ W).alloc hBW _, (Lib.OthersKept.refl _ _ W).alloc _⟩
      have htx : txt (formsOf ms) gapB (m + 1) (i : Int) d = x.1.s.data.toList := txt_name (forms_at HX.out) hk3
      have hl2 := HLen.out
      rw [htx] at hl2 ⊢
      have CP := hidI (put_any B b Bx acc x.1.s _ HE1.out.x HB1.out hl2 hBW1)
      clear htx hBW1
      go_wp2_with (go_at_call 44; refine CP.out.mono ?_; rintro e w1 ⟨rfl, hw1⟩; have HP1 := hidI hw1; clear hw1)
      go_end0
      exact ⟨rfl, HP1.out.1, HW1.out.1.trans HP1.out.2.1, HW1.out.2.trans HP1.out.2.2⟩
    by_cases hk4 : x.1.k = 4
    · rw [hk4] at y0
      have HE1 := hidI (HE.out.alloc (.cells #[.int .u8 4, .string x.1.s, .int .i64 x.1.n, .slice ka x.1.kids.length kc, .int .i64 x.1.p] 56))
      have cp1 := HE1.out.p.cell
      have HB1 := hidI (show BldF B b acc _ from Lib.IsBuilderF.alloc HB.out (.cells #[.int .u8 4, .string x.1.s, .int .i64 x.1.n, .slice ka x.1.kids.length kc, .int .i64 x.1.p] 56))
      have hBW1 : B ≤ (W.alloc (.cells #[.int .u8 4, .string x.1.s, .int .i64 x.1.n, .slice ka x.1.kids.length kc, .int .i64 x.1.p] 56)).heap.size := by simp; omega
      have HW1 : Hid (Below B W (W.alloc (.cells #[.int .u8 4, .string x.1.s, .int .i64 x.1.n, .slice ka x.1.kids.length kc, .int .i64 x.1.p] 56)) ∧ Lib.OthersKept 5 (some b) W (W.alloc (.cells #[.int .u8 4, .string x.1.s, .int .i64 x.1.n, .slice ka x.1.kids.length kc, .int .i64 x.1.p] 56))) := hidI ⟨(Below.refl _ W).alloc hBW _, (Lib.OthersKept.refl _ _ W).alloc _⟩
      have htx : txt (formsOf ms) gapB (m + 1) (i : Int) d = Lib.itoa x.1.n := txt_num (forms_at HX.out) hk4
      have hl2 := HLen.out
      rw [htx] at hl2 ⊢
      obtain ⟨W1, hW1⟩ : ∃ W1, W.alloc (.cells #[.int .u8 4, .string x.1.s, .int .i64 x.1.n, .slice ka x.1.kids.length kc, .int .i64 x.1.p] 56) = W1 := ⟨_, rfl⟩
      have c2 : W1.cell? ⟨W.heap.size, 2, none⟩ = some (.int .i64 x.1.n) := by rw [← hW1]; rw [Lib.cell_of_heap (MapKept.heap_alloc W _).1]; rfl
      have hTab1 : Tab W1 := HTab.out.on (((HBL.out.trans HW1.out.1).mono h0).trans (by rw [hW1]; exact Below.refl _ _))
      have CD := hidI fun (y : World) (hy : Below W1.heap.size W1 y) => digits_any x.1.n y (HT.out.num x (List.mem_of_getElem? HX.out)) (hTab1.on hy)
      rw [hW1] at HE1 HB1 hBW1 HW1 cp1
      have CP := hidI fun (y : World) (hy : Below W1.heap.size W1 y) => put_any B b Bx acc ⟨(Lib.itoa x.1.n).toArray⟩ y (HE1.out.low hy).x (bld_low HB1.out hy) (by simpa using hl2) (Nat.le_trans hBW1 hy.size)
      have HC1 := hidI (show ∀ y : World, Below W1.heap.size W1 y → y.cell? ⟨Bp, 0, none⟩ = some (fnPut Bx) ∧ y.cell? ⟨W.heap.size, 2, none⟩ = some (.int .i64 x.1.n) from fun y hy => ⟨(HE1.out.low hy).p.cell, (hy.cell (World.block_lt_of_cell? W1 _ c2)).trans c2⟩)
      have HF1 : Hid (FormH W1 W.heap.size x.1 (.slice ka x.1.kids.length kc)) := hidI (by rw [← hW1]; unfold FormH; rw [hk4]; exact (MapKept.heap_alloc W _).1)
      have HW1e := hidI hW1
      have hlt1 : W.heap.size < W1.heap.size := World.block_lt_of_cell? W1 _ c2
      clear htx
      rw [← hW1] at cp1 c2
      clear hW1
      go_wp2
      rw [HW1e.out] at cp1 c2 ⊢
      go_region_held3 (fun y => y.cell? ⟨Bp, 0, none⟩ = some (fnPut Bx) ∧ y.cell? ⟨W.heap.size, 2, none⟩ = some (.int .i64 x.1.n))
        (first | exact ⟨by go_keep, by go_keep⟩ | assumption)
        ((first | (go_at_call 43; refine Calls.mono (CD.out _ (by (repeat (first | exact Below.refl _ _ | assumption | refine Below.drew ?_ | refine Below.alloc ?_ (by first | omega | (simp; done) | (simp; omega)) _ | refine Below.setCell ?_ (by first | omega | (simp; done) | (simp; omega)) _)))) ?_; rintro e y1 ⟨rfl, hy1⟩; have hy2 : Below W1.heap.size W1 y1 := undrew hy1; have HY1 := hidI hy2; have hS1 := HC1.out y1 hy2; clear hy1 hy2) | (go_at_call 44; refine Calls.mono (CP.out _ HY1.out) ?_; rintro e w2 ⟨rfl, hw2⟩; have HP2 := hidI hw2; have hS2 : w2.cell? ⟨Bp, 0, none⟩ = some (fnPut Bx) ∧ w2.cell? ⟨W.heap.size, 2, none⟩ = some (.int .i64 x.1.n) := ⟨((HE1.out.low HY1.out).kept hw2.2.2).p.cell, by have h5 := HF1.out.below HY1.out (by omega); exact (h5.kept hw2.2.2 (by omega)).cell.2.2.1⟩; clear hw2)))
      all_goals
        go_wp2
        go_end0
        refine ⟨rfl, ?_, HW1.out.1.trans ((HY1.out.mono hBW1).trans HP2.out.2.1), HW1.out.2.trans ((kept_low HY1.out).trans HP2.out.2.2)⟩
        have := HP2.out.1
        simpa using this
    · have n1 : (x.1.k == 1) = false := by simp [hk1]
      have n3 : (x.1.k == 3) = false := by simp [hk3]
      have n4 : (x.1.k == 4) = false := by simp [hk4]
      have htx : txt (formsOf ms) gapB (m + 1) (i : Int) d = [] := txt_none (forms_at HX.out) hk1 hk3 hk4
      rw [htx]
      go_wp2
      go_end0
      exact ⟨rfl, by rw [List.append_nil]; exact Lib.IsBuilderF.alloc HB.out _, (Below.refl _ W).alloc hBW _, (Lib.OthersKept.refl _ _ W).alloc _⟩
end Go.Proofs.YtmihhebcchpmcaaGreatDoor
/-
  tell, with lines between kids.
-/
namespace Go.Proofs.YtmihhebcchpmcaaGreatDoor
open Go.RowKit Go.Deep Go.MapKept
set_option maxRecDepth 100000 in
set_option maxHeartbeats 8000000 in
theorem tellL_any (fv : Value) (ms : List MV) (B b Bl Bp Bg Bt Bx : Nat) (w0 : World) (hsm : SeesM w0 fv ms) (h0 : w0.heap.size ≤ B) (hT : Tellable ms) (hml : ms.length ≤ 100000) (hTab : Tab w0) (GE : World → Prop) (hGk : ∀ w w', GE w → Lib.OthersKept 5 (some b) w w' → Below B w w' → GE w') (Bi : Nat)
      (hG : ∀ (y : World) (i j d : Nat) (x : MV), GE y → Below B w0 y → ms[i]? = some x → x.1.k = 1 → j < x.1.kids.length → d ≤ 1000000 → Calls Tryz.prog 47 #[x.2, .int .i64 (j : Int), .int .i64 (d : Int), .pointer (some ⟨Bi, 0, none⟩)] y fun e w' => e = .returned (.string ⟨((gapL (formsOf ms)) x.1.kids j d).toArray⟩) ∧ Below y.heap.size y w') :
    ∀ (m i d : Nat) (acc : List UInt8) (W : World), i < ms.length → ms.length - i < m → d + m ≤ 1000000 → acc.length + (txt (formsOf ms) (gapL (formsOf ms)) m (i : Int) d).length ≤ 140737488355328 → TEnv W fv (.func (.func 47) #[] #[.pointer (some ⟨Bi, 0, none⟩)]) Bl Bp Bg Bt Bx b → BldF B b acc W → Below B w0 W → GE W →
      Calls Tryz.prog 42 #[.int .i64 (i : Int), .int .i64 (d : Int), .pointer (some ⟨Bl, 0, none⟩), .pointer (some ⟨Bp, 0, none⟩), .pointer (some ⟨Bg, 0, none⟩), .pointer (some ⟨Bt, 0, none⟩)] W fun e w' => e = .returned (.tuple #[]) ∧ Wr B b acc (txt (formsOf ms) (gapL (formsOf ms)) m (i : Int) d) W w' := by
  have HSM := hidI hsm
  have HT := hidI hT
  have HTab := hidI hTab
  have HG := hidI hG
  have HGK := hidI hGk
  clear hsm hT hTab hG hGk
  intro m
  induction m with
  | zero => intro i d acc W hi hm; omega
  | succ m IH =>
    have HIH := hidI IH
    clear IH
    intro i d acc W hi hm hd hlen hE hB hbl hGE
    have HGE := hidI hGE
    clear hGE
    obtain ⟨x, hx⟩ : ∃ x, ms[i]? = some x := ⟨_, List.getElem?_eq_getElem hi⟩
    have HE := hidI hE
    have HB := hidI hB
    have HBL := hidI hbl
    have HX := hidI hx
    have hBW : B ≤ W.heap.size := by have := bld_lt hB; have := bld_base hB; omega
    have hbw := bld_lt hB
    obtain ⟨fb, fo, fc, ka, kc, hfv, hkv, y0, y1, y2, y3, y4⟩ := (HSM.out.below hbl h0).load hx
    subst hfv
    have cl := HE.out.l.cell
    have cp := HE.out.p.cell
    have i1 : (i : Int) < (ms.length : Int) := by omega
    have i2 : (0 : Int) ≤ (i : Int) := by omega
    have i3 : ((i : Int)).toNat = i := by omega
    have wd : IntKind.i64.wrap ((d : Int) + 1) = ((d + 1 : Nat) : Int) := by rw [IntKind.wrap_i64]; omega
    have HLen := hidI hlen
    clear hE hB hbl hx hlen
    go_enter Tryz.func42, Tryz.ntmps42
    by_cases hk1 : x.1.k = 1
    · rw [hk1] at y0
      have hx1 := x.1.k
      have HE1 := hidI (HE.out.alloc (.cells #[.int .u8 1, .string x.1.s, .int .i64 x.1.n, .slice ka x.1.kids.length kc, .int .i64 x.1.p] 56))
      have cp1 := HE1.out.p.cell
      have HB1 := hidI (show BldF B b acc _ from Lib.IsBuilderF.alloc HB.out (.cells #[.int .u8 1, .string x.1.s, .int .i64 x.1.n, .slice ka x.1.kids.length kc, .int .i64 x.1.p] 56))
      have htx : txt (formsOf ms) (gapL (formsOf ms)) (m + 1) (i : Int) d = 40 :: (x.1.kids.zipIdx.flatMap (fun p => (gapL (formsOf ms)) x.1.kids p.2 (d + 1) ++ txt (formsOf ms) (gapL (formsOf ms)) m p.1 (d + 1)) ++ [41]) := txt_open (forms_at HX.out) hk1
      have hl2 : acc.length + 2 + (x.1.kids.zipIdx.flatMap (fun p => (gapL (formsOf ms)) x.1.kids p.2 (d + 1) ++ txt (formsOf ms) (gapL (formsOf ms)) m p.1 (d + 1))).length ≤ 140737488355328 := by
        have := HLen.out
        rw [htx] at this
        simp at this ⊢
        omega
      have hF1 : FormH (W.alloc (.cells #[.int .u8 1, .string x.1.s, .int .i64 x.1.n, .slice ka x.1.kids.length kc, .int .i64 x.1.p] 56)) W.heap.size x.1 (.slice ka x.1.kids.length kc) := by unfold FormH; rw [hk1]; exact (MapKept.heap_alloc W _).1
      have HF1 := hidI hF1
      have HTX := hidI htx
      have hBW1 : B ≤ (W.alloc (.cells #[.int .u8 1, .string x.1.s, .int .i64 x.1.n, .slice ka x.1.kids.length kc, .int .i64 x.1.p] 56)).heap.size := by simp; omega
      have CP := hidI (put_any B b Bx acc ⟨#[40]⟩ _ HE1.out.x HB1.out (by simp; omega) hBW1)
      have HW1 : Hid (Below B W (W.alloc (.cells #[.int .u8 1, .string x.1.s, .int .i64 x.1.n, .slice ka x.1.kids.length kc, .int .i64 x.1.p] 56)) ∧ Lib.OthersKept 5 (some b) W (W.alloc (.cells #[.int .u8 1, .string x.1.s, .int .i64 x.1.n, .slice ka x.1.kids.length kc, .int .i64 x.1.p] 56))) := hidI ⟨(Below.refl _ W).alloc hBW _, (Lib.OthersKept.refl _ _ W).alloc _⟩
      clear hF1 htx hBW1
      go_wp2_with (go_at_call 44; refine CP.out.mono ?_; rintro e w1 ⟨rfl, hw1⟩; have HP1 := hidI hw1; clear hw1; refine Hid.out ?_)
      refine hidI ?_
      have HE2 := hidI (HE1.out.kept HP1.out.2.2)
      have HF2 := hidI (HF1.out.kept HP1.out.2.2 (by omega))
      have HW2 : Hid (Below B W w1 ∧ Lib.OthersKept 5 (some b) W w1) := hidI ⟨HW1.out.1.trans HP1.out.2.1, HW1.out.2.trans HP1.out.2.2⟩
      have HB2 : Hid (BldF B b (acc ++ [40]) w1) := hidI HP1.out.1
      have c3 := HF2.out.cell.2.2.2
      obtain ⟨bf, hbf⟩ : ∃ bf, W.heap.size = bf := ⟨_, rfl⟩
      have hbb : b ≠ bf := by omega
      rw [hbf] at HF2 c3 ⊢
      clear HE1 cp1 HB1 HF1 CP HW1 HP1 cl cp y0 y1 y2 y3 y4 hbf hBW hbw
      go_wp2
      go_loopg [24] x.1.kids.length (fun g s24 wx => ∃ j : Nat, j + g = x.1.kids.length ∧ s24 = .int .i64 (j : Int) ∧ Hid (Wr B b (acc ++ [40]) (kidsT (formsOf ms) (gapL (formsOf ms)) m d x.1.kids j) w1 wx))
      case atStart => exact ⟨0, by omega, rfl, hidI ⟨by rw [kidsT_zero, List.append_nil]; exact HB2.out, Below.refl _ _, Lib.OthersKept.refl _ _ _⟩⟩
      case round =>
        obtain ⟨j, hj, rfl, HR⟩ := hrel
        cases gk with
        | zero =>
          have hjl : j = x.1.kids.length := by omega
          subst hjl
          have j1 : ¬ ((x.1.kids.length : Int) < (x.1.kids.length : Int)) := by omega
          have HE3 := hidI (HE2.out.kept HR.out.2.2)
          have cp3 := HE3.out.p.cell
          have hb3 := HR.out.1
          rw [kidsT_all] at hb3
          have hBr : B ≤ wr.heap.size := by have := bld_lt hb3; have := bld_base hb3; omega
          have CP := hidI (put_any B b Bx _ ⟨#[41]⟩ wr HE3.out.x hb3 (by simp at hl2 ⊢; omega) hBr)
          clear hb3 hBr
          go_wp2_with (go_at_call 44; refine CP.out.mono ?_; rintro e w5 ⟨rfl, hw5⟩; have HP5 := hidI hw5; clear hw5)
          go_end0
          refine ⟨rfl, ?_, HW2.out.1.trans (HR.out.2.1.trans HP5.out.2.1), HW2.out.2.trans (HR.out.2.2.trans HP5.out.2.2)⟩
          have := HP5.out.1
          rw [HTX.out]
          simpa using this
        | succ g =>
          have hjl : j < x.1.kids.length := by omega
          have hjb : j < 4611686018427387904 := by have := HT.out.few x (List.mem_of_getElem? HX.out); omega
          obtain ⟨c, hc⟩ : ∃ c, x.1.kids[j]? = some c := ⟨_, List.getElem?_eq_getElem hjl⟩
          have hcr := HT.out.kid i x HX.out hk1 c (List.mem_of_getElem? hc)
          obtain ⟨q, rfl⟩ : ∃ q : Nat, c = (q : Int) := ⟨c.toNat, by omega⟩
          have HE3 := hidI (HE2.out.kept HR.out.2.2)
          have HF3 := hidI (HF2.out.kept HR.out.2.2 (fun e => hbb e.symm))
          have cp3 := HE3.out.p.cell
          have cg3 := HE3.out.g.cell
          have ct3 := HE3.out.t.cell
          have cf3 := HF3.out.cell.2.2.2
          have hle := kidsT_le (formsOf ms) (gapL (formsOf ms)) m d x.1.kids (j + 1)
          rw [kidsT_succ hc] at hle
          simp only [List.length_append] at hle
          have hBj := HR.out.1
          have hBr : B ≤ wr.heap.size := by have := bld_lt hBj; have := bld_base hBj; omega
          have hkc : ∃ kb ko, ka = some ⟨kb, ko, none⟩ ∧ wr.cell? ⟨kb, ko + j, none⟩ = some (.int .i64 (q : Int)) := by
            have hkd := (HSM.out.below (HBL.out.trans (HW2.out.1.trans HR.out.2.1)) h0).kid i x HX.out
            rw [hkv] at hkd
            obtain ⟨_, ka', kc', he, h00 | ⟨kb, ko, rfl, hcc⟩⟩ := hkd
            · exact absurd hjl (by omega)
            · cases he
              exact ⟨kb, ko, rfl, hcc j _ (intsI_get hc)⟩
          obtain ⟨kb, ko, rfl, ck⟩ := hkc
          have HBJ := hidI hBj
          have j1 : (j : Int) < (x.1.kids.length : Int) := by omega
          have j2 : (0 : Int) ≤ (j : Int) := by omega
          have j3 : ((j : Int)).toNat = j := by omega
          have hGr : GE wr := HGK.out W wr HGE.out (HW2.out.2.trans HR.out.2.2) (HW2.out.1.trans HR.out.2.1)
          have hsz : (⟨((gapL (formsOf ms)) x.1.kids j (d + 1)).toArray⟩ : ByteArray).data.toList = (gapL (formsOf ms)) x.1.kids j (d + 1) := by simp
          have hG1 := fun (y : World) (hy : Below wr.heap.size wr y) => HG.out y i j (d + 1) x (HGK.out wr y hGr (kept_low hy) (hy.mono hBr)) (HBL.out.trans (HW2.out.1.trans (HR.out.2.1.trans (hy.mono hBr)))) HX.out hk1 hjl (by omega)
          rw [hkv] at hG1
          have CB := hidI hG1
          have CP := hidI fun (y : World) (hy : Below wr.heap.size wr y) => put_any B b Bx _ ⟨((gapL (formsOf ms)) x.1.kids j (d + 1)).toArray⟩ y (HE3.out.low hy).x (bld_low hBj hy) (by rw [hsz]; simp only [List.length_append, List.length_cons, List.length_nil]; omega) (Nat.le_trans hBr hy.size)
          clear hG1 hGr hsz
          have CT := hidI fun (y : World) (acc1 : List UInt8) h1 h2 h3 h4 h5 h6 h7 => HIH.out q (d + 1) acc1 y h1 h2 h3 h4 h5 h6 h7
          go_wp2
          go_region_held3 (fun y => y.cell? ⟨Bp, 0, none⟩ = some (fnPut Bx) ∧ y.cell? ⟨Bg, 0, none⟩ = some (.func (.func 47) #[] #[.pointer (some ⟨Bi, 0, none⟩)]) ∧ y.cell? ⟨bf, 3, none⟩ = some (.slice (some ⟨kb, ko, none⟩) x.1.kids.length kc))
            (first | exact ⟨by go_keep, by go_keep, by go_keep⟩ | assumption)
            ((first | (go_at_call 47; refine Calls.mono (CB.out _ (by (repeat (first | exact Below.refl _ _ | assumption | refine Below.drew ?_ | refine Below.alloc ?_ (by first | omega | (simp; done) | (simp; omega)) _ | refine Below.setCell ?_ (by first | omega | (simp; done) | (simp; omega)) _)))) ?_; rintro e y1 ⟨rfl, hy1⟩; have hy2 : Below wr.heap.size wr y1 := undrew hy1; have HY1 := hidI hy2; have hS1 : y1.cell? ⟨Bp, 0, none⟩ = some (fnPut Bx) ∧ y1.cell? ⟨Bg, 0, none⟩ = some (.func (.func 47) #[] #[.pointer (some ⟨Bi, 0, none⟩)]) ∧ y1.cell? ⟨bf, 3, none⟩ = some (.slice (some ⟨kb, ko, none⟩) x.1.kids.length kc) := ⟨(HE3.out.low hy2).p.cell, (HE3.out.low hy2).g.cell, (HF3.out.below hy2 (Array.getElem?_eq_some_iff.1 HF3.out).1).cell.2.2.2⟩; clear hy1 hy2) | (go_at_call 44; refine Calls.mono (CP.out _ HY1.out) ?_; rintro e w2 ⟨rfl, hw2⟩; have HP2 : Hid (Wr B b (acc ++ [40] ++ kidsT (formsOf ms) (gapL (formsOf ms)) m d x.1.kids j) ((gapL (formsOf ms)) x.1.kids j (d + 1)) wr w2) := hidI ⟨by have h9 := hw2.1; simpa [List.append_assoc] using h9, (HY1.out.mono hBr).trans hw2.2.1, (kept_low HY1.out).trans hw2.2.2⟩; have HE4 := hidI (HE3.out.kept HP2.out.2.2); have HF4 := hidI (HF3.out.kept HP2.out.2.2 (fun e => hbb e.symm)); have hS2 : w2.cell? ⟨Bp, 0, none⟩ = some (fnPut Bx) ∧ w2.cell? ⟨Bg, 0, none⟩ = some (.func (.func 47) #[] #[.pointer (some ⟨Bi, 0, none⟩)]) ∧ w2.cell? ⟨bf, 3, none⟩ = some (.slice (some ⟨kb, ko, none⟩) x.1.kids.length kc) := ⟨HE4.out.p.cell, HE4.out.g.cell, HF4.out.cell.2.2.2⟩; clear hw2)))
          all_goals
            have hBd : Hid (BldF B b (acc ++ [40] ++ (kidsT (formsOf ms) (gapL (formsOf ms)) m d x.1.kids j ++ (gapL (formsOf ms)) x.1.kids j (d + 1))) w2) := hidI (by rw [← List.append_assoc]; exact HP2.out.1)
            have ct4 := HE4.out.t.cell
            have CT2 := hidI (CT.out w2 _ (by omega) (by omega) (by omega) (by simp only [List.length_append, List.length_cons, List.length_nil]; omega) HE4.out hBd.out (HBL.out.trans (HW2.out.1.trans (HR.out.2.1.trans HP2.out.2.1))) (HGK.out W w2 HGE.out (HW2.out.2.trans (HR.out.2.2.trans HP2.out.2.2)) (HW2.out.1.trans (HR.out.2.1.trans HP2.out.2.1))))
            go_wp2_with (go_at_call 42; refine CT2.out.mono ?_; rintro e w4 ⟨rfl, hw4⟩; have HP4 := hidI hw4; clear hw4)
            go_roundg g
            case measure => omega
            case rel => exact ⟨j + 1, by omega, by first | go_num | rfl, hidI ⟨by rw [kidsT_succ hc]; have := HP4.out.1; simpa [List.append_assoc] using this, HR.out.2.1.trans (HP2.out.2.1.trans HP4.out.2.1), HR.out.2.2.trans (HP2.out.2.2.trans HP4.out.2.2)⟩⟩
    by_cases hk3 : x.1.k = 3
    · rw [hk3] at y0
      have HE1 := hidI (HE.out.alloc (.cells #[.int .u8 3, .string x.1.s, .int .i64 x.1.n, .slice ka x.1.kids.length kc, .int .i64 x.1.p] 56))
      have cp1 := HE1.out.p.cell
      have HB1 := hidI (show BldF B b acc _ from Lib.IsBuilderF.alloc HB.out (.cells #[.int .u8 3, .string x.1.s, .int .i64 x.1.n, .slice ka x.1.kids.length kc, .int .i64 x.1.p] 56))
      have hBW1 : B ≤ (W.alloc (.cells #[.int .u8 3, .string x.1.s, .int .i64 x.1.n, .slice ka x.1.kids.length kc, .int .i64 x.1.p] 56)).heap.size := by simp; omega
      have HW1 : Hid (Below B W (W.alloc (.cells #[.int .u8 3, .string x.1.s, .int .i64 x.1.n, .slice ka x.1.kids.length kc, .int .i64 x.1.p] 56)) ∧ Lib.OthersKept 5 (some b) W (W.alloc (.cells #[.int .u8 3, .string x.1.s, .int .i64 x.1.n, .slice ka x.1.kids.length kc, .int .i64 x.1.p] 56))) := hidI ⟨(Below.refl _ W).alloc hBW _, (Lib.OthersKept.refl _ _ W).alloc _⟩
      have htx : txt (formsOf ms) (gapL (formsOf ms)) (m + 1) (i : Int) d = x.1.s.data.toList := txt_name (forms_at HX.out) hk3
      have hl2 := HLen.out
      rw [htx] at hl2 ⊢
      have CP := hidI (put_any B b Bx acc x.1.s _ HE1.out.x HB1.out hl2 hBW1)
      clear htx hBW1
      go_wp2_with (go_at_call 44; refine CP.out.mono ?_; rintro e w1 ⟨rfl, hw1⟩; have HP1 := hidI hw1; clear hw1)
      go_end0
      exact ⟨rfl, HP1.out.1, HW1.out.1.trans HP1.out.2.1, HW1.out.2.trans HP1.out.2.2⟩
    by_cases hk4 : x.1.k = 4
    · rw [hk4] at y0
      have HE1 := hidI (HE.out.alloc (.cells #[.int .u8 4, .string x.1.s, .int .i64 x.1.n, .slice ka x.1.kids.length kc, .int .i64 x.1.p] 56))
      have cp1 := HE1.out.p.cell
      have HB1 := hidI (show BldF B b acc _ from Lib.IsBuilderF.alloc HB.out (.cells #[.int .u8 4, .string x.1.s, .int .i64 x.1.n, .slice ka x.1.kids.length kc, .int .i64 x.1.p] 56))
      have hBW1 : B ≤ (W.alloc (.cells #[.int .u8 4, .string x.1.s, .int .i64 x.1.n, .slice ka x.1.kids.length kc, .int .i64 x.1.p] 56)).heap.size := by simp; omega
      have HW1 : Hid (Below B W (W.alloc (.cells #[.int .u8 4, .string x.1.s, .int .i64 x.1.n, .slice ka x.1.kids.length kc, .int .i64 x.1.p] 56)) ∧ Lib.OthersKept 5 (some b) W (W.alloc (.cells #[.int .u8 4, .string x.1.s, .int .i64 x.1.n, .slice ka x.1.kids.length kc, .int .i64 x.1.p] 56))) := hidI ⟨(Below.refl _ W).alloc hBW _, (Lib.OthersKept.refl _ _ W).alloc _⟩
      have htx : txt (formsOf ms) (gapL (formsOf ms)) (m + 1) (i : Int) d = Lib.itoa x.1.n := txt_num (forms_at HX.out) hk4
      have hl2 := HLen.out
      rw [htx] at hl2 ⊢
      obtain ⟨W1, hW1⟩ : ∃ W1, W.alloc (.cells #[.int .u8 4, .string x.1.s, .int .i64 x.1.n, .slice ka x.1.kids.length kc, .int .i64 x.1.p] 56) = W1 := ⟨_, rfl⟩
      have c2 : W1.cell? ⟨W.heap.size, 2, none⟩ = some (.int .i64 x.1.n) := by rw [← hW1]; rw [Lib.cell_of_heap (MapKept.heap_alloc W _).1]; rfl
      have hTab1 : Tab W1 := HTab.out.on (((HBL.out.trans HW1.out.1).mono h0).trans (by rw [hW1]; exact Below.refl _ _))
      have CD := hidI fun (y : World) (hy : Below W1.heap.size W1 y) => digits_any x.1.n y (HT.out.num x (List.mem_of_getElem? HX.out)) (hTab1.on hy)
      rw [hW1] at HE1 HB1 hBW1 HW1 cp1
      have CP := hidI fun (y : World) (hy : Below W1.heap.size W1 y) => put_any B b Bx acc ⟨(Lib.itoa x.1.n).toArray⟩ y (HE1.out.low hy).x (bld_low HB1.out hy) (by simpa using hl2) (Nat.le_trans hBW1 hy.size)
      have HC1 := hidI (show ∀ y : World, Below W1.heap.size W1 y → y.cell? ⟨Bp, 0, none⟩ = some (fnPut Bx) ∧ y.cell? ⟨W.heap.size, 2, none⟩ = some (.int .i64 x.1.n) from fun y hy => ⟨(HE1.out.low hy).p.cell, (hy.cell (World.block_lt_of_cell? W1 _ c2)).trans c2⟩)
      have HF1 : Hid (FormH W1 W.heap.size x.1 (.slice ka x.1.kids.length kc)) := hidI (by rw [← hW1]; unfold FormH; rw [hk4]; exact (MapKept.heap_alloc W _).1)
      have HW1e := hidI hW1
      have hlt1 : W.heap.size < W1.heap.size := World.block_lt_of_cell? W1 _ c2
      clear htx
      rw [← hW1] at cp1 c2
      clear hW1
      go_wp2
      rw [HW1e.out] at cp1 c2 ⊢
      go_region_held3 (fun y => y.cell? ⟨Bp, 0, none⟩ = some (fnPut Bx) ∧ y.cell? ⟨W.heap.size, 2, none⟩ = some (.int .i64 x.1.n))
        (first | exact ⟨by go_keep, by go_keep⟩ | assumption)
        ((first | (go_at_call 43; refine Calls.mono (CD.out _ (by (repeat (first | exact Below.refl _ _ | assumption | refine Below.drew ?_ | refine Below.alloc ?_ (by first | omega | (simp; done) | (simp; omega)) _ | refine Below.setCell ?_ (by first | omega | (simp; done) | (simp; omega)) _)))) ?_; rintro e y1 ⟨rfl, hy1⟩; have hy2 : Below W1.heap.size W1 y1 := undrew hy1; have HY1 := hidI hy2; have hS1 := HC1.out y1 hy2; clear hy1 hy2) | (go_at_call 44; refine Calls.mono (CP.out _ HY1.out) ?_; rintro e w2 ⟨rfl, hw2⟩; have HP2 := hidI hw2; have hS2 : w2.cell? ⟨Bp, 0, none⟩ = some (fnPut Bx) ∧ w2.cell? ⟨W.heap.size, 2, none⟩ = some (.int .i64 x.1.n) := ⟨((HE1.out.low HY1.out).kept hw2.2.2).p.cell, by have h5 := HF1.out.below HY1.out (by omega); exact (h5.kept hw2.2.2 (by omega)).cell.2.2.1⟩; clear hw2)))
      all_goals
        go_wp2
        go_end0
        refine ⟨rfl, ?_, HW1.out.1.trans ((HY1.out.mono hBW1).trans HP2.out.2.1), HW1.out.2.trans ((kept_low HY1.out).trans HP2.out.2.2)⟩
        have := HP2.out.1
        simpa using this
    · have n1 : (x.1.k == 1) = false := by simp [hk1]
      have n3 : (x.1.k == 3) = false := by simp [hk3]
      have n4 : (x.1.k == 4) = false := by simp [hk4]
      have htx : txt (formsOf ms) (gapL (formsOf ms)) (m + 1) (i : Int) d = [] := txt_none (forms_at HX.out) hk1 hk3 hk4
      rw [htx]
      go_wp2
      go_end0
      exact ⟨rfl, by rw [List.append_nil]; exact Lib.IsBuilderF.alloc HB.out _, (Below.refl _ W).alloc hBW _, (Lib.OthersKept.refl _ _ W).alloc _⟩
end Go.Proofs.YtmihhebcchpmcaaGreatDoor
/-
  What stands ahead of a kid: a blank, or a new line; and how teller and into lay their boxes.
-/
namespace Go.Proofs.YtmihhebcchpmcaaGreatDoor
open Go.RowKit Go.Deep Go.MapKept Go.Shelf
theorem putInto_any (b : Nat) (w : World) : Calls Tryz.prog 25 #[.pointer (some ⟨b, 0, none⟩)] w fun e w' => e = .returned (fnPut w.heap.size) ∧ w.alloc (.cells #[.pointer (some ⟨b, 0, none⟩)] 40) = w' := by
  have hmf : ∀ (fn : Fn) (first cap : Array Value) (w : World), (Instr.makeFunc fn first cap).run Tryz.prog w = .ok (.func fn first cap) w := fun _ _ _ _ => rfl
  go_enter Tryz.func25, Tryz.ntmps25
  go_wp2
  go_ret
  exact ⟨rfl, rfl⟩
theorem teller_any (fa : Option Addr) (fn fc : Nat) (g : Nat) (caps : Array Value) (Bx : Nat) (w : World) : Calls Tryz.prog 24 #[.slice fa fn fc, .func (.func g) #[] caps, fnPut Bx] w fun e w' => e = .returned (fnTell w.heap.size (w.heap.size + 2) (w.heap.size + 1) (w.heap.size + 3)) ∧ BoxH w' w.heap.size 22 (.slice fa fn fc) ∧ BoxH w' (w.heap.size + 1) 50 (.func (.func g) #[] caps) ∧ BoxH w' (w.heap.size + 2) 46 (fnPut Bx) ∧ BoxH w' (w.heap.size + 3) 44 (fnTell w.heap.size (w.heap.size + 2) (w.heap.size + 1) (w.heap.size + 3)) ∧ Below w.heap.size w w' := by
  have hmf : ∀ (fn : Fn) (first cap : Array Value) (w : World), (Instr.makeFunc fn first cap).run Tryz.prog w = .ok (.func fn first cap) w := fun _ _ _ _ => rfl
  go_enter Tryz.func24, Tryz.ntmps24
  go_wp2
  go_ret
  have a1 : BoxH (w.alloc (.cells #[.slice fa fn fc] 22)) w.heap.size 22 (.slice fa fn fc) := BoxH.new _ _ _
  have a2 : BoxH ((w.alloc (.cells #[.slice fa fn fc] 22)).alloc (.cells #[.func (.func g) #[] caps] 50)) (w.heap.size + 1) 50 (.func (.func g) #[] caps) := by have := BoxH.new (w.alloc (.cells #[.slice fa fn fc] 22)) 50 (.func (.func g) #[] caps); simpa using this
  have a3 : BoxH (((w.alloc (.cells #[.slice fa fn fc] 22)).alloc (.cells #[.func (.func g) #[] caps] 50)).alloc (.cells #[fnPut Bx] 46)) (w.heap.size + 2) 46 (fnPut Bx) := by have := BoxH.new ((w.alloc (.cells #[.slice fa fn fc] 22)).alloc (.cells #[.func (.func g) #[] caps] 50)) 46 (fnPut Bx); simpa using this
  have a4 : ∀ v, BoxH ((((w.alloc (.cells #[.slice fa fn fc] 22)).alloc (.cells #[.func (.func g) #[] caps] 50)).alloc (.cells #[fnPut Bx] 46)).alloc (.cells #[v] 44)) (w.heap.size + 3) 44 v := fun v => by have := BoxH.new (((w.alloc (.cells #[.slice fa fn fc] 22)).alloc (.cells #[.func (.func g) #[] caps] 50)).alloc (.cells #[fnPut Bx] 46)) 44 v; simpa using this
  exact ⟨rfl, ((a1.alloc _).alloc _).alloc _, (a2.alloc _).alloc _, a3.alloc _, a4 _, by (repeat (first | exact Below.refl _ _ | assumption | refine Below.drew ?_ | refine Below.alloc ?_ (by first | omega | (simp; done) | (simp; omega)) _ | refine Below.setCell ?_ (by first | omega | (simp; done) | (simp; omega)) _))⟩
theorem isOp_at {ms : List MV} {q : Nat} {x : MV} (h : ms[q]? = some x) : isOp (formsOf ms) (q : Int) = (x.1.k == 1) := by
  unfold isOp
  rw [show ((q : Int)).toNat = q by omega, forms_at h]
theorem isBr_any (fv : Value) (ms : List MV) (Bk : Nat) (W : World) (hb : BoxH W Bk 22 fv) (hs : SeesM W fv ms) (q : Nat) (hq : q < ms.length) :
    Calls Tryz.prog 46 #[.int .i64 (q : Int), .pointer (some ⟨Bk, 0, none⟩)] W fun e w' => e = .returned (.bool (isOp (formsOf ms) (q : Int))) ∧ W = w' := by
  obtain ⟨x, hx⟩ : ∃ x, ms[q]? = some x := ⟨_, List.getElem?_eq_getElem hq⟩
  rw [isOp_at hx]
  obtain ⟨fb, fo, fc, ka, kc, rfl, hkv, y0, y1, y2, y3, y4⟩ := hs.load hx
  have c0 := hb.cell
  have i1 : (q : Int) < (ms.length : Int) := by omega
  have i2 : (0 : Int) ≤ (q : Int) := by omega
  have i3 : ((q : Int)).toNat = q := by omega
  clear hb hs hx
  go_enter Tryz.func46, Tryz.ntmps46
  go_wp2
  go_ret
  exact ⟨rfl, rfl⟩
/-- The first kid that is a bracket, among the first so many. -/
theorem index_any (fv : Value) (ms : List MV) (Bk : Nat) (W : World) (hb : BoxH W Bk 22 fv) (hs : SeesM W fv ms) (ks : List Int) (hk : ∀ c ∈ ks, 0 ≤ c ∧ c < (ms.length : Int)) (kb ko kc : Nat) (hc : ∀ (j : Nat) (c : Int), ks[j]? = some c → W.cell? ⟨kb, ko + j, none⟩ = some (.int .i64 c)) (hl : ks.length ≤ 4611686018427387904) :
    Calls Tryz.prog 61 #[.slice (some ⟨kb, ko, none⟩) ks.length kc, .func (.func 46) #[] #[.pointer (some ⟨Bk, 0, none⟩)]] W fun e w' => (∃ r : Int, e = .returned (.int .i64 r) ∧ decide (0 ≤ r) = ks.any (isOp (formsOf ms))) ∧ W = w' := by
  have CB := hidI fun (q : Nat) (hq : q < ms.length) => isBr_any fv ms Bk W hb hs q hq
  have HK := hidI hk
  have HC := hidI hc
  clear hb hs hk hc
  go_enter Tryz.func61, Tryz.ntmps61
  go_wp2
  go_loopg [8] ks.length (fun g s8 wx => ∃ j : Nat, j + g = ks.length ∧ s8 = .int .i64 (j : Int) ∧ Hid ((ks.take j).any (isOp (formsOf ms)) = false) ∧ W = wx)
  case atStart => exact ⟨0, by omega, rfl, hidI (by simp), rfl⟩
  case round =>
    obtain ⟨j, hj, rfl, HN, rfl⟩ := hrel
    cases gk with
    | zero =>
      have hjl : j = ks.length := by omega
      have j1 : ¬ ((j : Int) < (ks.length : Int)) := by omega
      go_wp2
      go_ret
      refine ⟨⟨-1, rfl, ?_⟩, rfl⟩
      have := HN.out
      rw [hjl, List.take_length] at this
      rw [this]
      decide
    | succ g =>
      have hjl : j < ks.length := by omega
      obtain ⟨c, hcj⟩ : ∃ c, ks[j]? = some c := ⟨_, List.getElem?_eq_getElem hjl⟩
      have hcr := HK.out c (List.mem_of_getElem? hcj)
      obtain ⟨q, rfl⟩ : ∃ q : Nat, c = (q : Int) := ⟨c.toNat, by omega⟩
      have cc := HC.out j _ hcj
      have C1 := hidI (CB.out q (by omega))
      have j1 : (j : Int) < (ks.length : Int) := by omega
      have j2 : (0 : Int) ≤ (j : Int) := by omega
      have j3 : ((j : Int)).toNat = j := by omega
      have HT : Hid ((ks.take (j + 1)).any (isOp (formsOf ms)) = isOp (formsOf ms) (q : Int)) := hidI (by rw [List.take_add_one, hcj, List.any_append, HN.out]; simp)
      have HM : Hid (isOp (formsOf ms) (q : Int) = true → ks.any (isOp (formsOf ms)) = true) := hidI fun h => List.any_eq_true.2 ⟨_, List.mem_of_getElem? hcj, h⟩
      obtain ⟨bb, hbb⟩ : ∃ bb, isOp (formsOf ms) (q : Int) = bb := ⟨_, rfl⟩
      rw [hbb] at C1 HT HM
      clear hbb hcj
      cases bb with
      | true =>
        go_wp2_with (go_at_call 46; refine C1.out.mono ?_; rintro e w1 ⟨rfl, rfl⟩)
        go_ret
        refine ⟨⟨_, rfl, ?_⟩, rfl⟩
        rw [HM.out (by trivial)]
        simp
      | false =>
        go_wp2_with (go_at_call 46; refine C1.out.mono ?_; rintro e w1 ⟨rfl, rfl⟩)
        go_roundg g
        case measure => omega
        case rel => exact ⟨j + 1, by omega, by go_num, hidI HT.out, rfl⟩
theorem contains_any (fv : Value) (ms : List MV) (Bk : Nat) (W : World) (hb : BoxH W Bk 22 fv) (hs : SeesM W fv ms) (ks : List Int) (hk : ∀ c ∈ ks, 0 ≤ c ∧ c < (ms.length : Int)) (kb ko kc : Nat) (hc : ∀ (j : Nat) (c : Int), ks[j]? = some c → W.cell? ⟨kb, ko + j, none⟩ = some (.int .i64 c)) (hl : ks.length ≤ 4611686018427387904) :
    Calls Tryz.prog 48 #[.slice (some ⟨kb, ko, none⟩) ks.length kc, .func (.func 46) #[] #[.pointer (some ⟨Bk, 0, none⟩)]] W fun e w' => e = .returned (.bool (ks.any (isOp (formsOf ms)))) ∧ W = w' := by
  have CI := hidI (index_any fv ms Bk W hb hs ks hk kb ko kc hc hl)
  clear hb hs hk hc
  go_enter Tryz.func48, Tryz.ntmps48
  go_wp2_with (go_at_call 61; refine CI.out.mono ?_; rintro e w1 ⟨⟨r, rfl, hr⟩, rfl⟩; have HR := hidI hr; clear hr)
  go_ret
  refine ⟨?_, rfl⟩
  rw [← HR.out]
  simp
theorem repeat_list (n : Nat) : Lib.repeatL [32, 32] n = List.replicate (2 * n) (32 : UInt8) := by
  induction n with
  | zero => rfl
  | succ n ih =>
    show [32, 32] ++ Lib.repeatL [32, 32] n = _
    rw [ih, show 2 * (n + 1) = 2 * n + 1 + 1 by omega, List.replicate_succ, List.replicate_succ]
    rfl
theorem add_run (a b : List UInt8) (h : a.length + b.length ≤ 9223372036854775807) (w : World) : (Op.stringOp .add ⟨a.toArray⟩ ⟨b.toArray⟩).run Tryz.prog w = .ok (.string ⟨(a ++ b).toArray⟩) w := by
  rw [run_string_add_sum w _ _ (by simp [ByteArray.size]; omega)]
  congr 2
set_option maxHeartbeats 1000000 in
theorem gapL_any (fv : Value) (ms : List MV) (Bk Bi : Nat) (W : World) (hb : BoxH W Bk 22 fv) (hi : BoxH W Bi 68 (.func (.func 46) #[] #[.pointer (some ⟨Bk, 0, none⟩)])) (hs : SeesM W fv ms) (i j d : Nat) (x : MV) (hx : ms[i]? = some x) (hk : ∀ c ∈ x.1.kids, 0 ≤ c ∧ c < (ms.length : Int)) (hr : Roomy x.2) (hj : j < x.1.kids.length) (hd : d ≤ 1000000) (hl : x.1.kids.length ≤ 4611686018427387904) :
    Calls Tryz.prog 47 #[x.2, .int .i64 (j : Int), .int .i64 (d : Int), .pointer (some ⟨Bi, 0, none⟩)] W fun e w' => e = .returned (.string ⟨(gapL (formsOf ms) x.1.kids j d).toArray⟩) ∧ Below W.heap.size W w' := by
  have hkd := hs.kid i x hx
  obtain ⟨a, n, c, hv, hnc⟩ := hr
  obtain ⟨_, ka, kc, hkv, h0 | ⟨kb, ko, rfl, hcc⟩⟩ := hkd
  · omega
  rw [hkv] at hv ⊢
  injection hv with q1 q2 q3
  subst q2
  subst q3
  clear q1
  have htl : (x.1.kids.take (j + 1)).length = j + 1 := by rw [List.length_take]; omega
  have hc1 := fun (y : World) (hy : Below W.heap.size W y) => contains_any fv ms Bk y (hb.below hy hb.lt) (hs.below hy (Nat.le_refl _)) (x.1.kids.take (j + 1)) (fun c hc => hk c (List.mem_of_mem_take hc)) kb ko kc (fun q c hq => by have hh := hcc q _ (intsI_get (show x.1.kids[q]? = some c by rw [List.getElem?_take] at hq; split at hq; exact hq; cases hq)); exact (hy.cell (World.block_lt_of_cell? W _ hh)).trans hh) (by omega)
  rw [htl] at hc1
  have hg : gapL (formsOf ms) x.1.kids j d = if (x.1.kids.take (j + 1)).any (isOp (formsOf ms)) then 10 :: List.replicate (2 * d) 32 else gapB x.1.kids j d := rfl
  rw [hg]
  obtain ⟨bb, hbb⟩ : ∃ bb, (x.1.kids.take (j + 1)).any (isOp (formsOf ms)) = bb := ⟨_, rfl⟩
  rw [hbb] at hc1 ⊢
  have CC := hidI hc1
  have c0 := hi.cell
  have e1 : IntKind.i64.wrap ((j : Int) + 1) = (j : Int) + 1 := by rw [IntKind.wrap_i64]; omega
  have e2 : j + 1 ≤ kc := by omega
  have e3 : (j : Int) + 1 ≤ (kc : Int) := by omega
  have e4 : (0 : Int) ≤ (j : Int) + 1 := by omega
  have e5 : ((j : Int) + 1).toNat = j + 1 := by omega
  have e6 : ¬ kc = 0 := by omega
  have CR := hidI fun (y : World) => Tryz.strings_Repeat ⟨#[32, 32]⟩ d y (by omega) (by simp [ByteArray.size]; omega)
  have CB := hidI fun (y : World) => blanks_any (.slice (some ⟨kb, ko, none⟩) x.1.kids.length kc) j (d : Int) y
  clear hb hi hs hx hk hcc hc1 hg hbb htl hkv
  cases bb with
  | true =>
    have q1 : ∀ w, (Op.stringOp .add ⟨#[10]⟩ ⟨(Lib.repeatL [32, 32] d).toArray⟩).run Tryz.prog w = .ok (.string ⟨(10 :: List.replicate (2 * d) 32).toArray⟩) w := fun w => by
      have := add_run [10] (Lib.repeatL [32, 32] d) (by rw [repeat_list]; simp; omega) w
      rw [repeat_list] at this ⊢
      exact this
    have HQ1 := hidI q1
    go_enter Tryz.func47, Tryz.ntmps47
    go_wp2
    go_region_held3 (fun y => y.cell? ⟨Bi, 0, none⟩ = some (.func (.func 46) #[] #[.pointer (some ⟨Bk, 0, none⟩)]))
      (first | assumption | go_keep)
      ((go_at_call 48; refine Calls.mono (CC.out _ (by (repeat (first | exact Below.refl _ _ | assumption | refine Below.drew ?_ | refine Below.alloc ?_ (by first | omega | (simp; done) | (simp; omega)) _ | refine Below.setCell ?_ (by first | omega | (simp; done) | (simp; omega)) _)))) ?_; rintro e w1 ⟨rfl, rfl⟩))
    go_wp2_with (first
      | (go_at_call 49; refine (CR.out _).mono ?_; rintro e w2 ⟨rfl, hb2⟩; have HB2 := hidI (undrew hb2); have q2 := HQ1.out w2; clear hb2))
    go_ret
    exact ⟨rfl, HB2.out⟩
  | false =>
    go_enter Tryz.func47, Tryz.ntmps47
    go_wp2
    go_region_held3 (fun y => y.cell? ⟨Bi, 0, none⟩ = some (.func (.func 46) #[] #[.pointer (some ⟨Bk, 0, none⟩)]))
      (first | assumption | go_keep)
      ((go_at_call 48; refine Calls.mono (CC.out _ (by (repeat (first | exact Below.refl _ _ | assumption | refine Below.drew ?_ | refine Below.alloc ?_ (by first | omega | (simp; done) | (simp; omega)) _ | refine Below.setCell ?_ (by first | omega | (simp; done) | (simp; omega)) _)))) ?_; rintro e w1 ⟨rfl, rfl⟩))
    go_wp2_with (first
      | (go_at_call 20; refine (CB.out _).mono ?_; rintro e w2 ⟨rfl, rfl⟩))
    go_ret
    exact ⟨rfl, by (repeat (first | exact Below.refl _ _ | assumption | refine Below.drew ?_ | refine Below.alloc ?_ (by first | omega | (simp; done) | (simp; omega)) _ | refine Below.setCell ?_ (by first | omega | (simp; done) | (simp; omega)) _))⟩
end Go.Proofs.YtmihhebcchpmcaaGreatDoor
