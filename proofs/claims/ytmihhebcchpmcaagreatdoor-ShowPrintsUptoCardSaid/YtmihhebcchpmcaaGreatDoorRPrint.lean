/-
  Print and Same, of the program and of the document, at any forms.
-/
import Derived.Test.YtmihhebcchpmcaaGreatDoorRightM
import Derived.Test.YtmihhebcchpmcaaGreatDoorSameA
import Derived.Test.YtmihhebcchpmcaaGreatDoorPrn
namespace Go.Proofs.YtmihhebcchpmcaaGreatDoor
open Go.RowKit Go.Deep Go.MapKept Go.Shelf
/-- Forms and places as a law hands them on. -/
structure Ok9 (w : World) (fv tv : Value) (ms : List MV) (top : List Int) : Prop where
  laid : Laid w
  sees : SeesM w fv ms
  tops : SeesC w tv top.length 1 (intsI top)
  num : ∀ x ∈ ms, In64 x.1.n
  few : ∀ x ∈ ms, x.1.kids.length ≤ 17592186044416
  small : ∀ x ∈ ms, x.1.s.size ≤ 140737488355328
  room : ∀ x ∈ ms, Roomy x.2
  len : ms.length ≤ 405
  tlen : top.length ≤ 100
theorem Ok9.on {w w' : World} {fv tv : Value} {ms : List MV} {top : List Int} (h : Ok9 w fv tv ms top) (hb : Below w.heap.size w w') : Ok9 w' fv tv ms top :=
  ⟨h.laid.on hb, h.sees.below hb (Nat.le_refl _), h.tops.below hb (Nat.le_refl _), h.num, h.few, h.small, h.room, h.len, h.tlen⟩
theorem Ok9.few4 {w : World} {fv tv : Value} {ms : List MV} {top : List Int} (h : Ok9 w fv tv ms top) : ∀ x ∈ ms, x.1.kids.length ≤ 4611686018427387904 := fun x hx => by have := h.few x hx; omega
theorem Ok9.pright {w : World} {fv tv : Value} {ms : List MV} {top : List Int} (h : Ok9 w fv tv ms top) : Calls Tryz.prog 18 #[fv, tv] w fun e w' => e = .returned (.bool (isR ms top)) ∧ Below w.heap.size w w' :=
  pright_any fv tv ms top w h.laid h.sees h.tops (by have := h.tlen; omega) (fun x hx => by have := h.few x hx; omega) h.small
theorem Ok9.rright {w : World} {fv tv : Value} {ms : List MV} {top : List Int} (h : Ok9 w fv tv ms top) : Calls Tryz.prog 21 #[fv, tv] w fun e w' => e = .returned (.bool (isR ms top)) ∧ Below w.heap.size w w' :=
  rright_any fv tv ms top w h.sees h.tops (by have := h.tlen; omega) (fun x hx => by have := h.few x hx; omega) h.small
noncomputable def prnR (ms : List MV) (top : List Int) : List UInt8 := if isR ms top then prn (formsOf ms) gapB top else []
noncomputable def prnE (ms : List MV) (top : List Int) : Int := if isR ms top then 0 else 3
set_option maxHeartbeats 2000000 in
theorem rprint_any (fv tv : Value) (ms : List MV) (top : List Int) (w : World) (h : Ok9 w fv tv ms top) :
    Calls Tryz.prog 8 #[fv, tv] w fun e w' => e = .returned (.tuple #[.string (bytesOf (prnR ms top)), .int .i64 (prnE ms top)]) ∧ Below w.heap.size w w' := by
  have CR := hidI h.rright
  obtain ⟨_, fa, fc, hfv, _⟩ := h.sees.row
  obtain ⟨_, ta, tc, htv, _⟩ := id h.tops
  subst hfv
  subst htv
  have HO := hidI h
  obtain ⟨P, hP⟩ : ∃ P, prnR ms top = P := ⟨_, rfl⟩
  obtain ⟨E, hE⟩ : ∃ E, prnE ms top = E := ⟨_, rfl⟩
  rw [hP, hE]
  unfold prnR at hP
  unfold prnE at hE
  obtain ⟨b, hb⟩ : ∃ b, isR ms top = b := ⟨_, rfl⟩
  rw [hb] at CR hP hE
  clear h
  cases b with
  | false =>
    simp only [Bool.false_eq_true, if_false] at hP hE
    subst hP
    subst hE
    have e0 : bytesOf [] = ⟨#[]⟩ := rfl
    rw [e0]
    clear e0
    go_enter Tryz.func8, Tryz.ntmps8
    go_wp2_with (go_at_call 21; refine CR.out.mono ?_; rintro e w1 ⟨rfl, hb1⟩; have HB1 := hidI hb1; clear hb1)
    go_ret2
    exact ⟨rfl, HB1.out⟩
  | true =>
    simp only [if_true] at hP hE
    subst hE
    have hRP := isR_iff.1 hb
    have HNi := hidI (hRP.nice HO.out.num HO.out.few4)
    have HTo := hidI hRP.tops
    have HLn := hidI (hRP.len HO.out.num gapB (fun ks n d _ => len_gapB ks n d))
    have HTl := hidI (hRP.txt_len HO.out.num gapB (fun ks n d _ => len_gapB ks n d))
    have HP := hidI hP
    have hml := HO.out.len
    have htl := HO.out.tlen
    have hfl : (formsOf ms).length = ms.length := by simp [formsOf]
    have Hfl := hidI hfl
    clear hb hP hRP hfl
    go_enter Tryz.func8, Tryz.ntmps8
    go_wp2_with (go_at_call 21; refine CR.out.mono ?_; rintro e w1 ⟨rfl, hb1⟩; have HB1 := hidI hb1; clear hb1 CR; refine Hid.out ?_)
    refine hidI ?_
    go_wp2
    go_loopg [6, 7] top.length (fun g s6 s7 wx => ∃ (j : Nat) (A : List UInt8), j + g = top.length ∧ s6 = .string (bytesOf A) ∧ s7 = .int .i64 (j : Int) ∧ Hid (A = prn (formsOf ms) gapB (top.take j)) ∧ Hid (Below w.heap.size w wx))
    case atStart => exact ⟨0, [], by omega, rfl, rfl, hidI (by simp [prn]), HB1⟩
    case round =>
      obtain ⟨j, A, hj, rfl, rfl, HA, HX⟩ := hrel
      cases gk with
      | zero =>
        have hjl : j = top.length := by omega
        have j1 : ¬ ((j : Int) < (top.length : Int)) := by omega
        have hAP : P = A := by rw [HA.out, ← HP.out, hjl, List.take_length]
        have HAP := hidI hAP
        clear hAP hjl
        go_wp2
        go_ret2
        exact ⟨by rw [HAP.out] <;> first | rfl | skip, HX.out⟩
      | succ g =>
        have hjl : j < top.length := by omega
        obtain ⟨c, hc⟩ : ∃ c, top[j]? = some c := ⟨_, List.getElem?_eq_getElem hjl⟩
        have hcm := List.mem_of_getElem? hc
        have hcr := HTo.out c hcm
        obtain ⟨q, rfl⟩ : ∃ q : Nat, c = (q : Int) := ⟨c.toNat, by omega⟩
        have hck : ∃ kb ko, ta = some ⟨kb, ko, none⟩ ∧ wr.cell? ⟨kb, ko + j, none⟩ = some (.int .i64 (q : Int)) := by
          obtain ⟨_, ka', kc', he, h00 | ⟨kb, ko, rfl, hcc⟩⟩ := HO.out.tops.below HX.out (Nat.le_refl _)
          · exact absurd hjl (by omega)
          · cases he
            exact ⟨kb, ko, rfl, hcc j _ (intsI_get hc)⟩
        obtain ⟨kb, ko, rfl, ck⟩ := hck
        have CT := hidI (rtext_any (.slice fa ms.length fc) ms (fun _ => True) w HO.out.sees HNi.out (by omega) HO.out.laid.tab (ms.length + 1) q 0 wr (by omega) (by omega) trivial (by have := HTl.out _ hcm; omega) HX.out)
        have hsu := prn_succ (fs := formsOf ms) (gap := gapB) hc
        unfold lineT at hsu
        rw [Hfl.out] at hsu
        have hle := prn_le (formsOf ms) gapB top (j + 1)
        rw [hsu] at hle
        obtain ⟨T, hT⟩ : ∃ T, txt (formsOf ms) gapB (ms.length + 1) (q : Int) 0 = T := ⟨_, rfl⟩
        rw [hT] at CT hsu hle
        rw [← HA.out] at hle hsu
        have HS := hidI hsu
        have hl2 := HLn.out
        simp only [List.length_append, List.length_cons, List.length_nil] at hle
        have s1 : ∀ w : World, (Op.stringOp .add (bytesOf T) { data := #[10] }).run Tryz.prog w = .ok (.string (bytesOf (T ++ [10]))) w := fun w => cat_run T [10] (by simp; omega) w
        have s2 : ∀ w : World, (Op.stringOp .add (bytesOf A) (bytesOf (T ++ [10]))).run Tryz.prog w = .ok (.string (bytesOf (A ++ (T ++ [10])))) w := fun w => cat_run A (T ++ [10]) (by simp; omega) w
        have j1 : (j : Int) < (top.length : Int) := by omega
        have j2 : (0 : Int) ≤ (j : Int) := by omega
        have j3 : ((j : Int)).toNat = j := by omega
        clear hl2 hle hsu hT hcr hcm hc
        go_wp2_with (go_at_call 22; refine CT.out.mono ?_; rintro e w4 ⟨rfl, hw4⟩; have HP4 := hidI hw4; clear hw4)
        go_roundg g
        case measure => omega
        case rel => exact ⟨j + 1, A ++ (T ++ [10]), by omega, by first | rfl | simp, by go_num, hidI (by rw [HS.out]), hidI (HX.out.trans (HP4.out.mono HX.out.size))⟩
theorem pprint_any (fv tv : Value) (ms : List MV) (top : List Int) (w : World) (h : Ok9 w fv tv ms top) :
    Calls Tryz.prog 7 #[fv, tv] w fun e w' => e = .returned (.tuple #[.string (bytesOf (prnR ms top)), .int .i64 (prnE ms top)]) ∧ Below w.heap.size w w' := by
  unfold prnR prnE
  cases hb : isR ms top with
  | true =>
    have hRP := isR_iff.1 hb
    have hl := hRP.len h.num gapB (fun ks n d _ => len_gapB ks n d)
    simp only [if_true]
    have hml := h.len
    have htl := h.tlen
    exact print_any fv tv ms top w h.sees h.tops (fun W hW => by have := (h.on hW).pright; rw [hb] at this; exact this) (hRP.tellable h.num h.few4) (by omega) h.laid.tab hRP.tops (by omega) (by omega)
  | false =>
    simp only [Bool.false_eq_true, if_false]
    have CR := h.pright
    rw [hb] at CR
    have CR := hidI CR
    obtain ⟨_, fa, fc, hfv, _⟩ := h.sees.row
    obtain ⟨_, ta, tc, htv, _⟩ := id h.tops
    subst hfv
    subst htv
    have e0 : bytesOf [] = ⟨#[]⟩ := rfl
    rw [e0]
    have CP : Hid (Calls Tryz.prog 19 #[.slice fa ms.length fc, .slice ta top.length tc, .func (.func 20) #[] #[]] w fun e w' => e = .returned (.tuple #[.string ⟨#[]⟩, .int .i64 3]) ∧ Below w.heap.size w w') := hidI (by
      clear h hb e0
      go_enter Tryz.func19, Tryz.ntmps19
      go_wp2_with (go_at_call 18; refine CR.out.mono ?_; rintro e w1 ⟨rfl, hb1⟩; have HB1 := hidI hb1; clear hb1)
      go_ret2
      exact ⟨rfl, HB1.out⟩)
    clear CR h hb e0
    go_enter Tryz.func7, Tryz.ntmps7
    go_wp2_with (go_at_call 19; refine CP.out.mono ?_; rintro e w1 ⟨rfl, hb1⟩; have HB1 := hidI hb1; clear hb1)
    go_ret2
    exact ⟨rfl, HB1.out⟩
end Go.Proofs.YtmihhebcchpmcaaGreatDoor
