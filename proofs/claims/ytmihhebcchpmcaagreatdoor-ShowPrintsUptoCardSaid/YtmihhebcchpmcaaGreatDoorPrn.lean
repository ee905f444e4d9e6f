/-
  printed, Print and Pretty: forms as text, each of top on a line.
-/
import Derived.Test.YtmihhebcchpmcaaGreatDoorTellB
import Derived.Test.YtmihhebcchpmcaaGreatDoorLinesM
import Derived.Test.YtmihhebcchpmcaaGreatDoorTopOM
namespace Go.Proofs.YtmihhebcchpmcaaGreatDoor
open Go.RowKit Go.Deep Go.MapKept Go.Shelf
theorem prn_succ {fs : List Fm} {gap : GapF} {top : List Int} {i : Nat} {t : Int} (h : top[i]? = some t) : prn fs gap (top.take (i + 1)) = prn fs gap (top.take i) ++ lineT fs gap t := by
  unfold prn
  rw [List.take_add_one, h, List.flatMap_append]
  simp
theorem prn_le (fs : List Fm) (gap : GapF) (top : List Int) (i : Nat) : (prn fs gap (top.take i)).length ≤ (prn fs gap top).length := by
  conv => rhs; rw [← List.take_append_drop i top]
  unfold prn
  rw [List.flatMap_append, List.length_append]
  omega
/-- Right answers so, here and later. -/
def RightC (fv tv : Value) (r : Bool) (w : World) : Prop := ∀ W, Below w.heap.size w W → Calls Tryz.prog 18 #[fv, tv] W fun e w' => e = .returned (.bool r) ∧ Below W.heap.size W w'
theorem RightC.on {fv tv : Value} {r : Bool} {w w' : World} (h : RightC fv tv r w) (hb : Below w.heap.size w w') : RightC fv tv r w' := fun W hW => h W (hb.trans (hW.mono hb.size))
theorem bld_new (w : World) : BldF w.heap.size w.heap.size [] (w.alloc (.cells #[.pointer none, .slice none 0 0] 43)) :=
  .inl ⟨Nat.le_refl _, .slice none 0 0, (MapKept.heap_alloc w _).1, World.ownsRowF_nil _ _ _ _, by simp [Value.ownBlock]⟩
theorem lines_any (fa : Option Addr) (fn fc : Nat) (w : World) : Calls Tryz.prog 28 #[.slice fa fn fc] w fun e w' => e = .returned (.func (.func 47) #[] #[.pointer (some ⟨w.heap.size + 1, 0, none⟩)]) ∧ BoxH w' w.heap.size 22 (.slice fa fn fc) ∧ BoxH w' (w.heap.size + 1) 68 (.func (.func 46) #[] #[.pointer (some ⟨w.heap.size, 0, none⟩)]) ∧ Below w.heap.size w w' := by
  have hmf : ∀ (fn : Fn) (first cap : Array Value) (w : World), (Instr.makeFunc fn first cap).run Tryz.prog w = .ok (.func fn first cap) w := fun _ _ _ _ => rfl
  go_enter Tryz.func28, Tryz.ntmps28
  go_wp2
  go_ret
  have a1 : BoxH (w.alloc (.cells #[.slice fa fn fc] 22)) w.heap.size 22 (.slice fa fn fc) := BoxH.new _ _ _
  have a2 : ∀ v, BoxH ((w.alloc (.cells #[.slice fa fn fc] 22)).alloc (.cells #[v] 68)) (w.heap.size + 1) 68 v := fun v => by have := BoxH.new (w.alloc (.cells #[.slice fa fn fc] 22)) 68 v; simpa using this
  exact ⟨rfl, a1.alloc _, a2 _, by (repeat (first | exact Below.refl _ _ | assumption | refine Below.drew ?_ | refine Below.alloc ?_ (by first | omega | (simp; done) | (simp; omega)) _ | refine Below.setCell ?_ (by first | omega | (simp; done) | (simp; omega)) _))⟩
set_option maxRecDepth 100000 in
set_option maxHeartbeats 800000 in
theorem printedB (fv tv : Value) (ms : List MV) (top : List Int) (w : World) (hs : SeesM w fv ms) (ht : SeesC w tv top.length 1 (intsI top)) (hR : RightC fv tv true w) (hT : Tellable ms) (hml : ms.length ≤ 100000) (hTab : Tab w) (htop : ∀ t ∈ top, 0 ≤ t ∧ t < (ms.length : Int)) (htl : top.length ≤ 4611686018427387904) (hlen : (prn (formsOf ms) gapB top).length ≤ 140737488355328) :
    Calls Tryz.prog 19 #[fv, tv, .func (.func 20) #[] #[]] w fun e w' => e = .returned (.tuple #[.string ⟨(prn (formsOf ms) gapB top).toArray⟩, .int .i64 0]) ∧ Below w.heap.size w w' := by
  obtain ⟨_, fa, fc, hfv, _⟩ := hs.row
  obtain ⟨_, ta, tc, htv, _⟩ := id ht
  subst hfv
  subst htv
  have CR := hidI (hR w (Below.refl _ _))
  have HS := hidI hs
  have HTT := hidI ht
  have HT := hidI hT
  have HTab := hidI hTab
  have HTop := hidI htop
  have HLen := hidI hlen
  clear hs ht hR hT hTab htop hlen
  go_enter Tryz.func19, Tryz.ntmps19
  go_wp2_with (go_at_call 18; refine CR.out.mono ?_; rintro e w1 ⟨rfl, hb1⟩; have HB1 := hidI hb1; clear hb1 CR; refine Hid.out ?_)
  refine hidI ?_
  go_wp2_with (go_at_call 25; refine (putInto_any _ _).mono ?_; rintro e w2 ⟨rfl, hw2⟩; have HW2 := hidI hw2; clear hw2; refine Hid.out ?_)
  refine hidI ?_
  go_wp2_with (go_at_call 24; refine (teller_any _ _ _ 20 _ _ _).mono ?_; rintro e w3 ⟨rfl, hl3, hg3, hp3, ht3, hb3⟩; have HL3 := hidI hl3; have HG3 := hidI hg3; have HP3 := hidI hp3; have HT3 := hidI ht3; have HB3 := hidI hb3; clear hl3 hg3 hp3 ht3 hb3; refine Hid.out ?_)
  refine hidI ?_
  have hw2 := HW2.out
  have hb2 : Below w1.heap.size w1 w2 := by rw [← hw2]; (repeat (first | exact Below.refl _ _ | assumption | refine Below.drew ?_ | refine Below.alloc ?_ (by first | omega | (simp; done) | (simp; omega)) _ | refine Below.setCell ?_ (by first | omega | (simp; done) | (simp; omega)) _))
  have hz2 : w2.heap.size = w1.heap.size + 2 := by rw [← hw2]; simp
  have hx2 : BoxH w2 (w1.heap.size + 1) 40 (.pointer (some ⟨w1.heap.size, 0, none⟩)) := by rw [← hw2]; have := BoxH.new (w1.alloc (.cells #[.pointer none, .slice none 0 0] 43)) 40 (.pointer (some ⟨w1.heap.size, 0, none⟩)); simpa using this
  have hbl2 : BldF w1.heap.size w1.heap.size [] w2 := by rw [← hw2]; exact Lib.IsBuilderF.alloc (bld_new w1) _
  have hz1 : (w1.alloc (.cells #[.pointer none, .slice none 0 0] 43)).heap.size = w1.heap.size + 1 := by simp
  try rw [hz1] at HP3
  try rw [hz1]
  have HE : Hid (TEnv w3 (.slice fa ms.length fc) (.func (.func 20) #[] #[]) w2.heap.size (w2.heap.size + 2) (w2.heap.size + 1) (w2.heap.size + 3) (w1.heap.size + 1) w1.heap.size) := hidI ⟨HL3.out, HP3.out, HG3.out, HT3.out, hx2.below HB3.out hx2.lt, by omega, by omega, by omega, by omega, by omega⟩
  have HBld : Hid (BldF w1.heap.size w1.heap.size [] w3) := hidI (bld_low hbl2 HB3.out)
  have HBw : Hid (Below w1.heap.size w1 w3) := hidI (hb2.trans (HB3.out.mono (by omega)))
  have HS1 := hidI (HS.out.below HB1.out (Nat.le_refl _))
  have HTab1 := hidI (HTab.out.on HB1.out)
  have CT := hidI (tellB_any (.slice fa ms.length fc) ms w1.heap.size w1.heap.size w2.heap.size (w2.heap.size + 2) (w2.heap.size + 1) (w2.heap.size + 3) (w1.heap.size + 1) w1 HS1.out (Nat.le_refl _) HT.out hml HTab1.out (fun _ => True) (fun _ _ _ _ _ => trivial)
    (fun y i j d x _ _ _ _ _ _ => (blanks_any x.2 j (d : Int) y).mono (fun e w' h => ⟨h.1, by rw [← h.2]; exact Below.refl _ _⟩)))
  obtain ⟨nb, hnb⟩ : ∃ nb, w1.heap.size = nb := ⟨_, rfl⟩
  obtain ⟨n2, hn2⟩ : ∃ n2, w2.heap.size = n2 := ⟨_, rfl⟩
  have HNB := hidI hnb
  rw [hnb, hn2] at HE CT ⊢
  rw [hnb] at HBld HBw
  clear hw2 hb2 hz2 hx2 hbl2 hz1 hnb hn2 HW2 HL3 HG3 HP3 HT3 HB3
  go_wp2
  go_loopg [24] top.length (fun g s24 wx => ∃ j : Nat, j + g = top.length ∧ s24 = .int .i64 (j : Int) ∧ Hid (BldF nb nb (prn (formsOf ms) gapB (top.take j)) wx) ∧ Hid (Below nb w1 wx) ∧ Hid (Lib.OthersKept 5 (some nb) w3 wx) ∧ Hid (Below nb w3 wx))
  case atStart => exact ⟨0, by omega, rfl, hidI (by simpa [prn] using HBld.out), HBw, hidI (Lib.OthersKept.refl _ _ _), hidI (Below.refl _ _)⟩
  case round =>
    obtain ⟨j, hj, rfl, HBj, HBe, HK, HK2⟩ := hrel
    cases gk with
    | zero =>
      have hjl : j = top.length := by omega
      have j1 : ¬ ((j : Int) < (top.length : Int)) := by omega
      have hb4 := HBj.out
      rw [hjl, List.take_length] at hb4
      have hBr : nb ≤ wr.heap.size := by have := bld_lt hb4; omega
      have CS := hidI (string_any nb nb _ wr hb4 hBr)
      clear hb4
      go_wp2_with (go_at_call 26; refine CS.out.mono ?_; rintro e w5 ⟨rfl, hb5⟩; have HB5 := hidI hb5; clear hb5)
      go_ret2
      refine ⟨rfl, HB1.out.trans ((HBe.out.trans HB5.out).mono ?_)⟩
      rw [← HNB.out]
      exact HB1.out.size
    | succ g =>
      have hjl : j < top.length := by omega
      obtain ⟨t, htj⟩ : ∃ t, top[j]? = some t := ⟨_, List.getElem?_eq_getElem hjl⟩
      have htr := HTop.out t (List.mem_of_getElem? htj)
      obtain ⟨q, rfl⟩ : ∃ q : Nat, t = (q : Int) := ⟨t.toNat, by omega⟩
      have hle := prn_le (formsOf ms) gapB top (j + 1)
      rw [prn_succ htj] at hle
      have hll := HLen.out
      unfold lineT at hle
      simp only [List.length_append, List.length_cons, List.length_nil] at hle
      have hct : ∃ tb tf, ta = some ⟨tb, tf, none⟩ ∧ wr.cell? ⟨tb, tf + j, none⟩ = some (.int .i64 (q : Int)) := by
        have h5 : SeesC wr (.slice ta top.length tc) top.length 1 (intsI top) := (HTT.out.below HB1.out (Nat.le_refl _)).below HBe.out (by rw [HNB.out]; exact Nat.le_refl _)
        obtain ⟨_, ta', tc', he, h00 | ⟨tb, tf, rfl, hcc⟩⟩ := h5
        · omega
        · cases he
          exact ⟨tb, tf, rfl, hcc j _ (intsI_get htj)⟩
      obtain ⟨tb, tf, rfl, ct⟩ := hct
      have hfl : (formsOf ms).length = ms.length := by simp [formsOf]
      rw [hfl] at hle
      have HE1 := hidI (HE.out.kept HK.out)
      have CT1 := hidI (CT.out (ms.length + 1) q 0 _ wr (by omega) (by omega) (by omega) (by omega) HE1.out HBj.out HBe.out trivial)
      have j1 : (j : Int) < (top.length : Int) := by omega
      have j2 : (0 : Int) ≤ (j : Int) := by omega
      have j3 : ((j : Int)).toNat = j := by omega
      go_wp2_with (go_at_call 42; refine CT1.out.mono ?_; rintro e w4 ⟨rfl, hw4⟩; have HP4 := hidI hw4; clear hw4; refine Hid.out ?_)
      refine hidI ?_
      have HE2 := hidI (HE1.out.kept HP4.out.2.2)
      have hBr4 : nb ≤ w4.heap.size := by have := bld_lt HP4.out.1; omega
      have CP := hidI (put_any nb nb _ _ ⟨#[10]⟩ w4 HE2.out.x HP4.out.1 (by simp only [List.length_append, List.length_cons, List.length_nil]; omega) hBr4)
      go_wp2_with (go_at_call 44; refine CP.out.mono ?_; rintro e w5 ⟨rfl, hw5⟩; have HP5 := hidI hw5; clear hw5)
      go_roundg g
      case measure => omega
      case rel => exact ⟨j + 1, by omega, by go_num, hidI (by rw [prn_succ htj]; unfold lineT; rw [hfl]; have h9 := HP5.out.1; simpa [List.append_assoc] using h9), hidI (HBe.out.trans (HP4.out.2.1.trans HP5.out.2.1)), hidI (HK.out.trans (HP4.out.2.2.trans HP5.out.2.2)), hidI (HK2.out.trans (HP4.out.2.1.trans HP5.out.2.1))⟩
set_option maxRecDepth 100000 in
set_option maxHeartbeats 800000 in
theorem printedL (fv tv : Value) (ms : List MV) (top : List Int) (w : World) (hs : SeesM w fv ms) (ht : SeesC w tv top.length 1 (intsI top)) (hR : RightC fv tv true w) (hT : Tellable ms) (hml : ms.length ≤ 100000) (hTab : Tab w) (htop : ∀ t ∈ top, 0 ≤ t ∧ t < (ms.length : Int)) (htl : top.length ≤ 4611686018427387904) (hlen : (prn (formsOf ms) (gapL (formsOf ms)) top).length ≤ 140737488355328) (Bk Bi : Nat) (hBk : BoxH w Bk 22 fv) (hBi : BoxH w Bi 68 (.func (.func 46) #[] #[.pointer (some ⟨Bk, 0, none⟩)])) (hRm : ∀ x ∈ ms, Roomy x.2) :
    Calls Tryz.prog 19 #[fv, tv, .func (.func 47) #[] #[.pointer (some ⟨Bi, 0, none⟩)]] w fun e w' => e = .returned (.tuple #[.string ⟨(prn (formsOf ms) (gapL (formsOf ms)) top).toArray⟩, .int .i64 0]) ∧ Below w.heap.size w w' := by
  obtain ⟨_, fa, fc, hfv, _⟩ := hs.row
  obtain ⟨_, ta, tc, htv, _⟩ := id ht
  subst hfv
  subst htv
  have CR := hidI (hR w (Below.refl _ _))
  have HS := hidI hs
  have HTT := hidI ht
  have HT := hidI hT
  have HTab := hidI hTab
  have HTop := hidI htop
  have HLen := hidI hlen
  have HBk := hidI hBk
  have HBi := hidI hBi
  have HRm := hidI hRm
  clear hBk hBi hRm
  clear hs ht hR hT hTab htop hlen
  go_enter Tryz.func19, Tryz.ntmps19
  go_wp2_with (go_at_call 18; refine CR.out.mono ?_; rintro e w1 ⟨rfl, hb1⟩; have HB1 := hidI hb1; clear hb1 CR; refine Hid.out ?_)
  refine hidI ?_
  go_wp2_with (go_at_call 25; refine (putInto_any _ _).mono ?_; rintro e w2 ⟨rfl, hw2⟩; have HW2 := hidI hw2; clear hw2; refine Hid.out ?_)
  refine hidI ?_
  go_wp2_with (go_at_call 24; refine (teller_any _ _ _ 47 _ _ _).mono ?_; rintro e w3 ⟨rfl, hl3, hg3, hp3, ht3, hb3⟩; have HL3 := hidI hl3; have HG3 := hidI hg3; have HP3 := hidI hp3; have HT3 := hidI ht3; have HB3 := hidI hb3; clear hl3 hg3 hp3 ht3 hb3; refine Hid.out ?_)
  refine hidI ?_
  have hw2 := HW2.out
  have hb2 : Below w1.heap.size w1 w2 := by rw [← hw2]; (repeat (first | exact Below.refl _ _ | assumption | refine Below.drew ?_ | refine Below.alloc ?_ (by first | omega | (simp; done) | (simp; omega)) _ | refine Below.setCell ?_ (by first | omega | (simp; done) | (simp; omega)) _))
  have hz2 : w2.heap.size = w1.heap.size + 2 := by rw [← hw2]; simp
  have hx2 : BoxH w2 (w1.heap.size + 1) 40 (.pointer (some ⟨w1.heap.size, 0, none⟩)) := by rw [← hw2]; have := BoxH.new (w1.alloc (.cells #[.pointer none, .slice none 0 0] 43)) 40 (.pointer (some ⟨w1.heap.size, 0, none⟩)); simpa using this
  have hbl2 : BldF w1.heap.size w1.heap.size [] w2 := by rw [← hw2]; exact Lib.IsBuilderF.alloc (bld_new w1) _
  have hz1 : (w1.alloc (.cells #[.pointer none, .slice none 0 0] 43)).heap.size = w1.heap.size + 1 := by simp
  try rw [hz1] at HP3
  try rw [hz1]
  have HE : Hid (TEnv w3 (.slice fa ms.length fc) (.func (.func 47) #[] #[.pointer (some ⟨Bi, 0, none⟩)]) w2.heap.size (w2.heap.size + 2) (w2.heap.size + 1) (w2.heap.size + 3) (w1.heap.size + 1) w1.heap.size) := hidI ⟨HL3.out, HP3.out, HG3.out, HT3.out, hx2.below HB3.out hx2.lt, by omega, by omega, by omega, by omega, by omega⟩
  have HBld : Hid (BldF w1.heap.size w1.heap.size [] w3) := hidI (bld_low hbl2 HB3.out)
  have HBw : Hid (Below w1.heap.size w1 w3) := hidI (hb2.trans (HB3.out.mono (by omega)))
  have HS1 := hidI (HS.out.below HB1.out (Nat.le_refl _))
  have HTab1 := hidI (HTab.out.on HB1.out)
  have HGK : Hid (∀ w w', (BoxH w Bk 22 (.slice fa ms.length fc) ∧ BoxH w Bi 68 (.func (.func 46) #[] #[.pointer (some ⟨Bk, 0, none⟩)])) → Lib.OthersKept 5 (some w1.heap.size) w w' → Below w1.heap.size w w' → (BoxH w' Bk 22 (.slice fa ms.length fc) ∧ BoxH w' Bi 68 (.func (.func 46) #[] #[.pointer (some ⟨Bk, 0, none⟩)]))) := hidI fun u u' h _ hb => ⟨h.1.below hb (Nat.lt_of_lt_of_le HBk.out.lt HB1.out.size), h.2.below hb (Nat.lt_of_lt_of_le HBi.out.lt HB1.out.size)⟩
  have HGE : Hid (BoxH w3 Bk 22 (.slice fa ms.length fc) ∧ BoxH w3 Bi 68 (.func (.func 46) #[] #[.pointer (some ⟨Bk, 0, none⟩)])) := hidI ⟨(HBk.out.below HB1.out HBk.out.lt).below HBw.out (Nat.lt_of_lt_of_le HBk.out.lt HB1.out.size), (HBi.out.below HB1.out HBi.out.lt).below HBw.out (Nat.lt_of_lt_of_le HBi.out.lt HB1.out.size)⟩
  have CT := hidI (tellL_any (.slice fa ms.length fc) ms w1.heap.size w1.heap.size w2.heap.size (w2.heap.size + 2) (w2.heap.size + 1) (w2.heap.size + 3) (w1.heap.size + 1) w1 HS1.out (Nat.le_refl _) HT.out hml HTab1.out (fun u => BoxH u Bk 22 (.slice fa ms.length fc) ∧ BoxH u Bi 68 (.func (.func 46) #[] #[.pointer (some ⟨Bk, 0, none⟩)])) HGK.out Bi
    (fun y i j d x hge hy hx hk hj hd => gapL_any _ ms Bk Bi y hge.1 hge.2 (HS1.out.below hy (Nat.le_refl _)) i j d x hx (fun c hc => by have := HT.out.kid i x hx hk c hc; omega) (HRm.out x (List.mem_of_getElem? hx)) hj hd (HT.out.few x (List.mem_of_getElem? hx))))
  obtain ⟨nb, hnb⟩ : ∃ nb, w1.heap.size = nb := ⟨_, rfl⟩
  obtain ⟨n2, hn2⟩ : ∃ n2, w2.heap.size = n2 := ⟨_, rfl⟩
  have HNB := hidI hnb
  rw [hnb, hn2] at HE CT ⊢
  rw [hnb] at HGK
  rw [hnb] at HBld HBw
  clear hw2 hb2 hz2 hx2 hbl2 hz1 hnb hn2 HW2 HL3 HG3 HP3 HT3 HB3
  go_wp2
  go_loopg [24] top.length (fun g s24 wx => ∃ j : Nat, j + g = top.length ∧ s24 = .int .i64 (j : Int) ∧ Hid (BldF nb nb (prn (formsOf ms) (gapL (formsOf ms)) (top.take j)) wx) ∧ Hid (Below nb w1 wx) ∧ Hid (Lib.OthersKept 5 (some nb) w3 wx) ∧ Hid (Below nb w3 wx))
  case atStart => exact ⟨0, by omega, rfl, hidI (by simpa [prn] using HBld.out), HBw, hidI (Lib.OthersKept.refl _ _ _), hidI (Below.refl _ _)⟩
  case round =>
    obtain ⟨j, hj, rfl, HBj, HBe, HK, HK2⟩ := hrel
    cases gk with
    | zero =>
      have hjl : j = top.length := by omega
      have j1 : ¬ ((j : Int) < (top.length : Int)) := by omega
      have hb4 := HBj.out
      rw [hjl, List.take_length] at hb4
      have hBr : nb ≤ wr.heap.size := by have := bld_lt hb4; omega
      have CS := hidI (string_any nb nb _ wr hb4 hBr)
      clear hb4
      go_wp2_with (go_at_call 26; refine CS.out.mono ?_; rintro e w5 ⟨rfl, hb5⟩; have HB5 := hidI hb5; clear hb5)
      go_ret2
      refine ⟨rfl, HB1.out.trans ((HBe.out.trans HB5.out).mono ?_)⟩
      rw [← HNB.out]
      exact HB1.out.size
    | succ g =>
      have hjl : j < top.length := by omega
      obtain ⟨t, htj⟩ : ∃ t, top[j]? = some t := ⟨_, List.getElem?_eq_getElem hjl⟩
      have htr := HTop.out t (List.mem_of_getElem? htj)
      obtain ⟨q, rfl⟩ : ∃ q : Nat, t = (q : Int) := ⟨t.toNat, by omega⟩
      have hle := prn_le (formsOf ms) (gapL (formsOf ms)) top (j + 1)
      rw [prn_succ htj] at hle
      have hll := HLen.out
      unfold lineT at hle
      simp only [List.length_append, List.length_cons, List.length_nil] at hle
      have hct : ∃ tb tf, ta = some ⟨tb, tf, none⟩ ∧ wr.cell? ⟨tb, tf + j, none⟩ = some (.int .i64 (q : Int)) := by
        have h5 : SeesC wr (.slice ta top.length tc) top.length 1 (intsI top) := (HTT.out.below HB1.out (Nat.le_refl _)).below HBe.out (by rw [HNB.out]; exact Nat.le_refl _)
        obtain ⟨_, ta', tc', he, h00 | ⟨tb, tf, rfl, hcc⟩⟩ := h5
        · omega
        · cases he
          exact ⟨tb, tf, rfl, hcc j _ (intsI_get htj)⟩
      obtain ⟨tb, tf, rfl, ct⟩ := hct
      have hfl : (formsOf ms).length = ms.length := by simp [formsOf]
      rw [hfl] at hle
      have HE1 := hidI (HE.out.kept HK.out)
      have CT1 := hidI (CT.out (ms.length + 1) q 0 _ wr (by omega) (by omega) (by omega) (by omega) HE1.out HBj.out HBe.out (HGK.out w3 wr HGE.out HK.out HK2.out))
      have j1 : (j : Int) < (top.length : Int) := by omega
      have j2 : (0 : Int) ≤ (j : Int) := by omega
      have j3 : ((j : Int)).toNat = j := by omega
      go_wp2_with (go_at_call 42; refine CT1.out.mono ?_; rintro e w4 ⟨rfl, hw4⟩; have HP4 := hidI hw4; clear hw4; refine Hid.out ?_)
      refine hidI ?_
      have HE2 := hidI (HE1.out.kept HP4.out.2.2)
      have hBr4 : nb ≤ w4.heap.size := by have := bld_lt HP4.out.1; omega
      have CP := hidI (put_any nb nb _ _ ⟨#[10]⟩ w4 HE2.out.x HP4.out.1 (by simp only [List.length_append, List.length_cons, List.length_nil]; omega) hBr4)
      go_wp2_with (go_at_call 44; refine CP.out.mono ?_; rintro e w5 ⟨rfl, hw5⟩; have HP5 := hidI hw5; clear hw5)
      go_roundg g
      case measure => omega
      case rel => exact ⟨j + 1, by omega, by go_num, hidI (by rw [prn_succ htj]; unfold lineT; rw [hfl]; have h9 := HP5.out.1; simpa [List.append_assoc] using h9), hidI (HBe.out.trans (HP4.out.2.1.trans HP5.out.2.1)), hidI (HK.out.trans (HP4.out.2.2.trans HP5.out.2.2)), hidI (HK2.out.trans (HP4.out.2.1.trans HP5.out.2.1))⟩
set_option maxHeartbeats 1000000 in
theorem print_any (fv tv : Value) (ms : List MV) (top : List Int) (w : World) (hs : SeesM w fv ms) (ht : SeesC w tv top.length 1 (intsI top)) (hR : RightC fv tv true w) (hT : Tellable ms) (hml : ms.length ≤ 100000) (hTab : Tab w) (htop : ∀ t ∈ top, 0 ≤ t ∧ t < (ms.length : Int)) (htl : top.length ≤ 4611686018427387904) (hlen : (prn (formsOf ms) gapB top).length ≤ 140737488355328) :
    Calls Tryz.prog 7 #[fv, tv] w fun e w' => e = .returned (.tuple #[.string ⟨(prn (formsOf ms) gapB top).toArray⟩, .int .i64 0]) ∧ Below w.heap.size w w' := by
  have CP := hidI (printedB fv tv ms top w hs ht hR hT hml hTab htop htl hlen)
  clear hs ht hR hT hTab htop hlen
  go_enter Tryz.func7, Tryz.ntmps7
  go_wp2_with (go_at_call 19; refine CP.out.mono ?_; rintro e w1 ⟨rfl, hb1⟩; have HB1 := hidI hb1; clear hb1)
  go_ret2
  exact ⟨rfl, HB1.out⟩
set_option maxHeartbeats 1000000 in
theorem pretty_any (fv tv : Value) (ms : List MV) (top : List Int) (w : World) (hs : SeesM w fv ms) (ht : SeesC w tv top.length 1 (intsI top)) (hR : RightC fv tv true w) (hT : Tellable ms) (hml : ms.length ≤ 100000) (hTab : Tab w) (htop : ∀ t ∈ top, 0 ≤ t ∧ t < (ms.length : Int)) (htl : top.length ≤ 4611686018427387904) (hlen : (prn (formsOf ms) (gapL (formsOf ms)) top).length ≤ 140737488355328) (hRm : ∀ x ∈ ms, Roomy x.2) :
    Calls Tryz.prog 11 #[fv, tv] w fun e w' => e = .returned (.tuple #[.string ⟨(prn (formsOf ms) (gapL (formsOf ms)) top).toArray⟩, .int .i64 0]) ∧ Below w.heap.size w w' := by
  obtain ⟨_, fa, fc, hfv, _⟩ := hs.row
  subst hfv
  have CP := hidI fun (y : World) (hy : Below w.heap.size w y) Bk Bi hBk hBi => printedL (.slice fa ms.length fc) tv ms top y (hs.below hy (Nat.le_refl _)) (ht.below hy (Nat.le_refl _)) (hR.on hy) hT hml (hTab.on hy) htop htl hlen Bk Bi hBk hBi hRm
  have CL := hidI (lines_any fa ms.length fc w)
  clear hs ht hR hT hTab htop hlen hRm
  go_enter Tryz.func11, Tryz.ntmps11
  go_wp2_with (go_at_call 28; refine CL.out.mono ?_; rintro e w1 ⟨rfl, hk1, hi1, hb1⟩; have HK1 := hidI hk1; have HI1 := hidI hi1; have HB1 := hidI hb1; clear hk1 hi1 hb1; refine Hid.out ?_)
  refine hidI ?_
  go_wp2_with (go_at_call 19; refine (CP.out _ HB1.out _ _ HK1.out HI1.out).mono ?_; rintro e w2 ⟨rfl, hb2⟩; have HB2 := hidI (HB1.out.trans (hb2.mono HB1.out.size)); clear hb2)
  go_ret2
  exact ⟨rfl, HB2.out⟩
end Go.Proofs.YtmihhebcchpmcaaGreatDoor
/-
  isForm: can the form at a place, and all below it, be told as text, and are they not too many?
-/
namespace Go.Proofs.YtmihhebcchpmcaaGreatDoor
open Go.RowKit Go.Deep Go.MapKept Go.Shelf
def lookK (L : Nat → Nat → Bool × Nat) (i n : Nat) : List Int → Nat → Bool × Nat
  | [], s => (true, s)
  | c :: r, s => if c ≤ (i : Int) ∨ (n : Int) ≤ c then (false, s) else if (L c.toNat s).1 then lookK L i n r (L c.toNat s).2 else (false, (L c.toNat s).2)
def lookF (fs : List Fm) : Nat → Nat → Nat → Bool × Nat
  | 0, _, s => (false, s)
  | m + 1, i, s => if 400 ≤ s then (false, s + 1) else match fs[i]? with
    | none => (false, s + 1)
    | some f => if f.k = 1 then lookK (lookF fs m) i fs.length f.kids (s + 1) else (f.k == 3 || f.k == 4, s + 1)
theorem lookK_le {L : Nat → Nat → Bool × Nat} (hL : ∀ i s, s ≤ 400 → (L i s).2 ≤ 401 ∧ ((L i s).1 = true → (L i s).2 ≤ 400)) (i n : Nat) : ∀ (ks : List Int) (s : Nat), s ≤ 400 → (lookK L i n ks s).2 ≤ 401 ∧ ((lookK L i n ks s).1 = true → (lookK L i n ks s).2 ≤ 400)
  | [], s, h => ⟨by simp only [lookK]; omega, fun _ => h⟩
  | c :: r, s, h => by
    unfold lookK
    split
    · exact ⟨by simp only; omega, fun e => by cases e⟩
    · split
      · rename_i h1
        exact lookK_le hL i n r _ ((hL c.toNat s h).2 h1)
      · exact ⟨(hL c.toNat s h).1, fun e => by cases e⟩
theorem lookF_le (fs : List Fm) : ∀ (m i s : Nat), s ≤ 400 → (lookF fs m i s).2 ≤ 401 ∧ ((lookF fs m i s).1 = true → (lookF fs m i s).2 ≤ 400)
  | 0, i, s, h => ⟨by simp only [lookF]; omega, fun e => by cases e⟩
  | m + 1, i, s, h => by
    unfold lookF
    split
    · exact ⟨by simp only; omega, fun e => by cases e⟩
    · split
      · exact ⟨by simp only; omega, fun e => by cases e⟩
      · split
        · exact lookK_le (lookF_le fs m) i fs.length _ (s + 1) (by omega)
        · exact ⟨by simp only; omega, fun _ => by simp only; omega⟩
abbrev fnLook (Bs Bl Bf : Nat) : Value := .func (.func 41) #[] #[.pointer (some ⟨Bs, 0, none⟩), .pointer (some ⟨Bl, 0, none⟩), .pointer (some ⟨Bf, 0, none⟩)]
structure LEnv (w : World) (fv : Value) (Bs Bl Bf : Nat) (s : Int) : Prop where
  s : BoxH w Bs 3 (.int .i64 s)
  l : BoxH w Bl 22 fv
  f : BoxH w Bf 68 (fnLook Bs Bl Bf)
  ne : Bs ≠ Bl ∧ Bs ≠ Bf
theorem box_set {w : World} {k : Nat} {t : TypeId} {v : Value} (h : BoxH w k t v) (u : Value) : BoxH (w.setCell ⟨k, 0, none⟩ u) k t u := one_setCell h
theorem box_other {w : World} {k k' : Nat} {t : TypeId} {v : Value} (h : BoxH w k t v) (hne : k' ≠ k) (u : Value) : BoxH (w.setCell ⟨k', 0, none⟩ u) k t v := by
  unfold BoxH
  rw [Below.heap_setCell _ _ _ _ (by simpa using fun e => hne e.symm)]
  exact h
theorem LEnv.up {w : World} {fv : Value} {Bs Bl Bf : Nat} {s : Int} (h : LEnv w fv Bs Bl Bf s) (s' : Int) : LEnv (w.setCell ⟨Bs, 0, none⟩ (.int .i64 s')) fv Bs Bl Bf s' :=
  ⟨box_set h.s _, box_other h.l h.ne.1 _, box_other h.f h.ne.2 _, h.ne⟩
theorem LEnv.alloc {w : World} {fv : Value} {Bs Bl Bf : Nat} {s : Int} (h : LEnv w fv Bs Bl Bf s) (o : Obj) : LEnv (w.alloc o) fv Bs Bl Bf s := ⟨h.s.alloc _, h.l.alloc _, h.f.alloc _, h.ne⟩
set_option maxRecDepth 100000 in
set_option maxHeartbeats 800000 in
theorem look_any (fv : Value) (ms : List MV) (B Bs Bl Bf : Nat) (w0 : World) (hsm : SeesM w0 fv ms) (h0 : w0.heap.size ≤ B) (hBs : B ≤ Bs) (hml : ms.length ≤ 100000) (hfew : ∀ x ∈ ms, x.1.kids.length ≤ 4611686018427387904) :
    ∀ (m i s : Nat) (W : World), i < ms.length → ms.length - i < m → s ≤ 400 → LEnv W fv Bs Bl Bf (s : Int) → Below B w0 W →
      Calls Tryz.prog 41 #[.int .i64 (i : Int), .pointer (some ⟨Bs, 0, none⟩), .pointer (some ⟨Bl, 0, none⟩), .pointer (some ⟨Bf, 0, none⟩)] W fun e w' => e = .returned (.bool (lookF (formsOf ms) m i s).1) ∧ LEnv w' fv Bs Bl Bf ((lookF (formsOf ms) m i s).2 : Int) ∧ Below B W w' := by
  have HSM := hidI hsm
  have HF := hidI hfew
  clear hsm hfew
  intro m
  induction m with
  | zero => intro i s W hi hm; omega
  | succ m IH =>
    have HIH := hidI IH
    clear IH
    intro i s W hi hm hs hE hbl
    obtain ⟨x, hx⟩ : ∃ x, ms[i]? = some x := ⟨_, List.getElem?_eq_getElem hi⟩
    have HE := hidI hE
    have HBL := hidI hbl
    have HX := hidI hx
    have hBW : B ≤ W.heap.size := by have := hE.s.lt; omega
    obtain ⟨fb, fo, fc, ka, kc, hfv, hkv, y0, y1, y2, y3, y4⟩ := (HSM.out.below (hbl.setCell (p := ⟨Bs, 0, none⟩) hBs (.int .i64 ((s : Int) + 1))) h0).load hx
    subst hfv
    have cs := hE.s.cell
    have cfz : W.frozen? ⟨Bs, 0, none⟩ = false := Lib.frozen_of_heap hE.s 0
    have i1 : (i : Int) < (ms.length : Int) := by omega
    have i2 : (0 : Int) ≤ (i : Int) := by omega
    have i3 : ((i : Int)).toNat = i := by omega
    have ws : IntKind.i64.wrap ((s : Int) + 1) = (s : Int) + 1 := by rw [IntKind.wrap_i64]; omega
    have HE1 := hidI (hE.up ((s : Int) + 1))
    have cl1 := HE1.out.l.cell
    have hfl : (formsOf ms).length = ms.length := by simp [formsOf]
    have hfx := forms_at hx
    clear hE hbl hx
    by_cases h4 : 400 ≤ s
    · have hr : lookF (formsOf ms) (m + 1) i s = (false, s + 1) := by unfold lookF; rw [if_pos h4]
      rw [hr]
      have e1 : (400 : Int) < (s : Int) + 1 := by omega
      go_enter Tryz.func41, Tryz.ntmps41
      go_wp2
      go_ret
      exact ⟨rfl, HE1.out, (Below.refl _ W).setCell hBs _⟩
    · have hr : lookF (formsOf ms) (m + 1) i s = if x.1.k = 1 then lookK (lookF (formsOf ms) m) i ms.length x.1.kids (s + 1) else (x.1.k == 3 || x.1.k == 4, s + 1) := by
        rw [lookF, if_neg h4, hfx, hfl]
      have e1 : ¬ (400 : Int) < (s : Int) + 1 := by omega
      have HR := hidI hr
      clear hr hfx
      have hB1 : Below B W (W.setCell ⟨Bs, 0, none⟩ (.int .i64 ((s : Int) + 1))) := (Below.refl _ W).setCell hBs _
      have HB1 := hidI hB1
      clear hB1
      by_cases hk1 : x.1.k = 1
      · rw [hk1] at y0
        rw [HR.out, if_pos hk1]
        obtain ⟨L, hL⟩ : ∃ L, lookF (formsOf ms) m = L := ⟨_, rfl⟩
        have HLe : Hid (∀ i s, s ≤ 400 → (L i s).2 ≤ 401 ∧ ((L i s).1 = true → (L i s).2 ≤ 400)) := hidI (by rw [← hL]; exact lookF_le (formsOf ms) m)
        rw [hL] at HIH ⊢
        clear hL
        have HE2 := hidI (HE1.out.alloc (.cells #[.int .u8 1, .string x.1.s, .int .i64 x.1.n, .slice ka x.1.kids.length kc, .int .i64 x.1.p] 56))
        have HB2 : Hid (Below B W ((W.setCell ⟨Bs, 0, none⟩ (.int .i64 ((s : Int) + 1))).alloc (.cells #[.int .u8 1, .string x.1.s, .int .i64 x.1.n, .slice ka x.1.kids.length kc, .int .i64 x.1.p] 56))) := hidI (HB1.out.alloc (by simp; omega) _)
        go_enter Tryz.func41, Tryz.ntmps41
        go_wp2
        have hs1 : s + 1 ≤ 400 := by omega
        clear HR y0 y1 y2 y3 y4 cl1 cs cfz ws e1 h4 HE1 HB1 HE
        go_loopg [27] x.1.kids.length (fun g s27 wx => ∃ j s' : Nat, j + g = x.1.kids.length ∧ s27 = .int .i64 (j : Int) ∧ s' ≤ 400 ∧ Hid (lookK L i ms.length x.1.kids (s + 1) = lookK L i ms.length (x.1.kids.drop j) s') ∧ Hid (LEnv wx (.slice (some ⟨fb, fo, none⟩) ms.length fc) Bs Bl Bf (s' : Int)) ∧ Hid (Below B W wx))
        case atStart => exact ⟨0, s + 1, by omega, rfl, hs1, hidI (by simp), hidI (by simpa using HE2.out), HB2⟩
        case round =>
          obtain ⟨j, s', hj, rfl, hs', HK, HEj, HBj⟩ := hrel
          cases gk with
          | zero =>
            have hjl : j = x.1.kids.length := by omega
            have hd : x.1.kids.drop j = [] := by rw [hjl]; simp
            have j1 : ¬ ((j : Int) < (x.1.kids.length : Int)) := by omega
            have HD := hidI hd
            clear hd
            go_wp2
            go_ret
            rw [HK.out, HD.out]
            exact ⟨rfl, HEj.out, HBj.out⟩
          | succ g =>
            have hjl : j < x.1.kids.length := by omega
            have hjb : j < 4611686018427387904 := by have := HF.out x (List.mem_of_getElem? HX.out); omega
            obtain ⟨c, hc⟩ : ∃ c, x.1.kids[j]? = some c := ⟨_, List.getElem?_eq_getElem hjl⟩
            have hdr : x.1.kids.drop j = c :: x.1.kids.drop (j + 1) := by rw [List.drop_eq_getElem_cons hjl]; congr 1; rw [List.getElem?_eq_getElem hjl] at hc; exact Option.some.inj hc
            have hkc : ∃ kb ko, ka = some ⟨kb, ko, none⟩ ∧ wr.cell? ⟨kb, ko + j, none⟩ = some (.int .i64 c) := by
              have hkd := (HSM.out.below (HBL.out.trans HBj.out) h0).kid i x HX.out
              rw [hkv] at hkd
              obtain ⟨_, ka', kc', he, h00 | ⟨kb, ko, rfl, hcc⟩⟩ := hkd
              · exact absurd hjl (by omega)
              · cases he
                exact ⟨kb, ko, rfl, hcc j _ (intsI_get hc)⟩
            obtain ⟨kb, ko, rfl, ck⟩ := hkc
            have cl := HEj.out.l.cell
            have cf := HEj.out.f.cell
            have j1 : (j : Int) < (x.1.kids.length : Int) := by omega
            have j2 : (0 : Int) ≤ (j : Int) := by omega
            have j3 : ((j : Int)).toNat = j := by omega
            by_cases hb1 : c ≤ (i : Int)
            · have hv : lookK L i ms.length (x.1.kids.drop j) s' = (false, s') := by rw [hdr, lookK, if_pos (.inl hb1)]
              have HV := hidI hv
              clear hv hdr
              go_wp2
              go_ret
              rw [HK.out, HV.out]
              exact ⟨rfl, HEj.out, HBj.out⟩
            by_cases hb2 : (ms.length : Int) ≤ c
            · have hv : lookK L i ms.length (x.1.kids.drop j) s' = (false, s') := by rw [hdr, lookK, if_pos (.inr hb2)]
              have HV := hidI hv
              clear hv hdr
              go_wp2
              go_ret
              rw [HK.out, HV.out]
              exact ⟨rfl, HEj.out, HBj.out⟩
            obtain ⟨q, rfl⟩ : ∃ q : Nat, c = (q : Int) := ⟨c.toNat, by omega⟩
            have hv : lookK L i ms.length (x.1.kids.drop j) s' = if (L q s').1 then lookK L i ms.length (x.1.kids.drop (j + 1)) (L q s').2 else (false, (L q s').2) := by rw [hdr, lookK, if_neg (by omega)]; rfl
            have CL := hidI (HIH.out q s' wr (by omega) (by omega) hs' HEj.out (HBL.out.trans HBj.out))
            have hle := (HLe.out q s' hs').2
            obtain ⟨r, hr⟩ : ∃ r, L q s' = r := ⟨_, rfl⟩
            rw [hr] at CL hle hv
            obtain ⟨rb, rs⟩ := r
            have HV := hidI hv
            clear hv hdr hc hr
            cases rb with
            | false =>
              simp only [Bool.false_eq_true, if_false] at CL HV
              go_wp2_with (go_at_call 41; refine CL.out.mono ?_; rintro e w2 ⟨rfl, he2, hb2⟩; have HE2' := hidI he2; have HB2' := hidI (HBj.out.trans hb2); clear he2 hb2)
              go_ret
              rw [HK.out, HV.out]
              exact ⟨rfl, HE2'.out, HB2'.out⟩
            | true =>
              simp only [if_true] at CL hle HV
              have hle2 : rs ≤ 400 := hle trivial
              clear hle
              go_wp2_with (go_at_call 41; refine CL.out.mono ?_; rintro e w2 ⟨rfl, he2, hb2⟩; have HE2' := hidI he2; have HB2' := hidI (HBj.out.trans hb2); clear he2 hb2)
              go_roundg g
              case measure => omega
              case rel => exact ⟨j + 1, rs, by omega, by go_num, hle2, hidI (HK.out.trans HV.out), HE2', HB2'⟩
      · rw [HR.out, if_neg hk1]
        have n1 : (x.1.k == 1) = false := by simp [hk1]
        by_cases hk3 : x.1.k = 3
        · rw [hk3] at y0 ⊢
          go_enter Tryz.func41, Tryz.ntmps41
          go_wp2
          go_ret
          exact ⟨rfl, by have := HE1.out.alloc (.cells #[.int .u8 3, .string x.1.s, .int .i64 x.1.n, .slice ka x.1.kids.length kc, .int .i64 x.1.p] 56); simpa using this, HB1.out.alloc (by simp; omega) _⟩
        · have n3 : (x.1.k == 3) = false := by simp [hk3]
          by_cases hk4 : x.1.k = 4
          · rw [hk4] at y0 ⊢
            go_enter Tryz.func41, Tryz.ntmps41
            go_wp2
            go_ret
            exact ⟨rfl, by have := HE1.out.alloc (.cells #[.int .u8 4, .string x.1.s, .int .i64 x.1.n, .slice ka x.1.kids.length kc, .int .i64 x.1.p] 56); simpa using this, HB1.out.alloc (by simp; omega) _⟩
          · have n4 : (x.1.k == 4) = false := by simp [hk4]
            rw [n3, n4]
            go_enter Tryz.func41, Tryz.ntmps41
            go_wp2
            go_ret
            exact ⟨rfl, by have := HE1.out.alloc (.cells #[.int .u8 x.1.k, .string x.1.s, .int .i64 x.1.n, .slice ka x.1.kids.length kc, .int .i64 x.1.p] 56); simpa using this, HB1.out.alloc (by simp; omega) _⟩
end Go.Proofs.YtmihhebcchpmcaaGreatDoor
/-
  One form as text; how many lines; what must be whatever is asked, of show.
-/
namespace Go.Proofs.YtmihhebcchpmcaaGreatDoor
open Go.RowKit Go.Deep Go.MapKept Go.Shelf
set_option maxHeartbeats 1000000 in
theorem isForm_any (fv : Value) (ms : List MV) (i : Nat) (w : World) (hs : SeesM w fv ms) (hi : i < ms.length) (hml : ms.length ≤ 100000) (hfew : ∀ x ∈ ms, x.1.kids.length ≤ 4611686018427387904) :
    Calls Tryz.prog 23 #[fv, .int .i64 (i : Int)] w fun e w' => e = .returned (.bool (lookF (formsOf ms) (ms.length + 1) i 0).1) ∧ Below w.heap.size w w' := by
  have hmf : ∀ (fn : Fn) (first cap : Array Value) (w : World), (Instr.makeFunc fn first cap).run Tryz.prog w = .ok (.func fn first cap) w := fun _ _ _ _ => rfl
  obtain ⟨_, fa, fc, hfv, _⟩ := hs.row
  subst hfv
  have a1 : BoxH (w.alloc (.cells #[.slice fa ms.length fc] 22)) w.heap.size 22 (.slice fa ms.length fc) := BoxH.new _ _ _
  have a2 : BoxH ((w.alloc (.cells #[.slice fa ms.length fc] 22)).alloc (.cells #[.int .i64 0] 3)) (w.heap.size + 1) 3 (.int .i64 0) := by have := BoxH.new (w.alloc (.cells #[.slice fa ms.length fc] 22)) 3 (.int .i64 0); simpa using this
  have a3 : ∀ v, BoxH (((w.alloc (.cells #[.slice fa ms.length fc] 22)).alloc (.cells #[.int .i64 0] 3)).alloc (.cells #[v] 68)) (w.heap.size + 2) 68 v := fun v => by have := BoxH.new ((w.alloc (.cells #[.slice fa ms.length fc] 22)).alloc (.cells #[.int .i64 0] 3)) 68 v; simpa using this
  have hb3 : ∀ v, Below w.heap.size w (((w.alloc (.cells #[.slice fa ms.length fc] 22)).alloc (.cells #[.int .i64 0] 3)).alloc (.cells #[v] 68)) := fun v => by (repeat (first | exact Below.refl _ _ | assumption | refine Below.drew ?_ | refine Below.alloc ?_ (by first | omega | (simp; done) | (simp; omega)) _ | refine Below.setCell ?_ (by first | omega | (simp; done) | (simp; omega)) _))
  have HB3 := hidI (hb3 (fnLook (w.heap.size + 1) w.heap.size (w.heap.size + 2)))
  have CL := hidI (look_any (.slice fa ms.length fc) ms w.heap.size (w.heap.size + 1) w.heap.size (w.heap.size + 2) w hs (Nat.le_refl _) (by omega) hml hfew (ms.length + 1) i 0 (((w.alloc (.cells #[.slice fa ms.length fc] 22)).alloc (.cells #[.int .i64 0] 3)).alloc (.cells #[fnLook (w.heap.size + 1) w.heap.size (w.heap.size + 2)] 68)) hi (by omega) (by omega) ⟨a2.alloc _, (a1.alloc _).alloc _, a3 _, by omega, by omega⟩ HB3.out)
  obtain ⟨r, hr⟩ : ∃ r, lookF (formsOf ms) (ms.length + 1) i 0 = r := ⟨_, rfl⟩
  rw [hr] at CL ⊢
  clear hs hi hfew a1 a2 a3 hb3 hr
  go_enter Tryz.func23, Tryz.ntmps23
  go_wp2_with (go_at_call 41; refine CL.out.mono ?_; rintro e w1 ⟨rfl, _, hb1⟩; have HB1 := hidI hb1; clear hb1)
  go_ret
  exact ⟨rfl, HB3.out.trans HB1.out⟩
set_option maxRecDepth 100000 in
set_option maxHeartbeats 1000000 in
theorem one_ok (fv : Value) (ms : List MV) (i : Nat) (w : World) (hs : SeesM w fv ms) (hi : i < ms.length) (hT : Tellable ms) (hml : ms.length ≤ 100000) (hTab : Tab w) (hlk : (lookF (formsOf ms) (ms.length + 1) i 0).1 = true) (hlen : (txt (formsOf ms) gapB (ms.length + 1) (i : Int) 0).length ≤ 140737488355328) :
    Calls Tryz.prog 9 #[fv, .int .i64 (i : Int)] w fun e w' => e = .returned (.tuple #[.string ⟨(txt (formsOf ms) gapB (ms.length + 1) (i : Int) 0).toArray⟩, .int .i64 0]) ∧ Below w.heap.size w w' := by
  have CI0 := isForm_any fv ms i w hs hi hml hT.few
  rw [hlk] at CI0
  have CI := hidI CI0
  obtain ⟨_, fa, fc, hfv, _⟩ := hs.row
  subst hfv
  have HS := hidI hs
  have HT := hidI hT
  have HTab := hidI hTab
  have HLen := hidI hlen
  have i1 : ¬ (i : Int) < 0 := by omega
  have i2 : ¬ (ms.length : Int) ≤ (i : Int) := by omega
  clear hs hT hTab hlen CI0 hlk
  go_enter Tryz.func9, Tryz.ntmps9
  go_wp2_with (go_at_call 23; refine CI.out.mono ?_; rintro e w1 ⟨rfl, hb1⟩; have HB1 := hidI hb1; clear hb1 CI; refine Hid.out ?_)
  refine hidI ?_
  go_wp2_with (go_at_call 25; refine (putInto_any _ _).mono ?_; rintro e w2 ⟨rfl, hw2⟩; have HW2 := hidI hw2; clear hw2; refine Hid.out ?_)
  refine hidI ?_
  go_wp2_with (go_at_call 24; refine (teller_any _ _ _ 20 _ _ _).mono ?_; rintro e w3 ⟨rfl, hl3, hg3, hp3, ht3, hb3⟩; have HL3 := hidI hl3; have HG3 := hidI hg3; have HP3 := hidI hp3; have HT3 := hidI ht3; have HB3 := hidI hb3; clear hl3 hg3 hp3 ht3 hb3; refine Hid.out ?_)
  refine hidI ?_
  have hw2 := HW2.out
  have hb2 : Below w1.heap.size w1 w2 := by rw [← hw2]; (repeat (first | exact Below.refl _ _ | assumption | refine Below.drew ?_ | refine Below.alloc ?_ (by first | omega | (simp; done) | (simp; omega)) _ | refine Below.setCell ?_ (by first | omega | (simp; done) | (simp; omega)) _))
  have hz2 : w2.heap.size = w1.heap.size + 2 := by rw [← hw2]; simp
  have hx2 : BoxH w2 (w1.heap.size + 1) 40 (.pointer (some ⟨w1.heap.size, 0, none⟩)) := by rw [← hw2]; have := BoxH.new (w1.alloc (.cells #[.pointer none, .slice none 0 0] 43)) 40 (.pointer (some ⟨w1.heap.size, 0, none⟩)); simpa using this
  have hbl2 : BldF w1.heap.size w1.heap.size [] w2 := by rw [← hw2]; exact Lib.IsBuilderF.alloc (bld_new w1) _
  have hz1 : (w1.alloc (.cells #[.pointer none, .slice none 0 0] 43)).heap.size = w1.heap.size + 1 := by simp
  try rw [hz1] at HP3
  try rw [hz1]
  have HE : Hid (TEnv w3 (.slice fa ms.length fc) (.func (.func 20) #[] #[]) w2.heap.size (w2.heap.size + 2) (w2.heap.size + 1) (w2.heap.size + 3) (w1.heap.size + 1) w1.heap.size) := hidI ⟨HL3.out, HP3.out, HG3.out, HT3.out, hx2.below HB3.out hx2.lt, by omega, by omega, by omega, by omega, by omega⟩
  have HBld : Hid (BldF w1.heap.size w1.heap.size [] w3) := hidI (bld_low hbl2 HB3.out)
  have HBw : Hid (Below w1.heap.size w1 w3) := hidI (hb2.trans (HB3.out.mono (by omega)))
  have CT := hidI (tellB_any (.slice fa ms.length fc) ms w1.heap.size w1.heap.size w2.heap.size (w2.heap.size + 2) (w2.heap.size + 1) (w2.heap.size + 3) (w1.heap.size + 1) w1 (HS.out.below HB1.out (Nat.le_refl _)) (Nat.le_refl _) HT.out hml (HTab.out.on HB1.out) (fun _ => True) (fun _ _ _ _ _ => trivial)
    (fun y i j d x _ _ _ _ _ _ => (blanks_any x.2 j (d : Int) y).mono (fun e w' h => ⟨h.1, by rw [← h.2]; exact Below.refl _ _⟩)) (ms.length + 1) i 0 [] w3 hi (by omega) (by omega) (by have := HLen.out; simpa using this) HE.out HBld.out HBw.out trivial)
  clear hw2 hb2 hz2 hx2 hbl2 hz1 HW2 HL3 HG3 HP3 HT3
  go_wp2_with (go_at_call 42; refine CT.out.mono ?_; rintro e w4 ⟨rfl, hw4⟩; have HP4 := hidI hw4; clear hw4; refine Hid.out ?_)
  refine hidI ?_
  have hb4 := HP4.out.1
  rw [List.nil_append] at hb4
  have hBr : w1.heap.size ≤ w4.heap.size := by have := bld_lt hb4; omega
  have CS := hidI (string_any w1.heap.size w1.heap.size _ w4 hb4 hBr)
  have HF : Hid (Below w.heap.size w w4) := hidI (HB1.out.trans ((HBw.out.trans HP4.out.2.1).mono HB1.out.size))
  clear hb4 CT
  go_wp2_with (go_at_call 26; refine CS.out.mono ?_; rintro e w5 ⟨rfl, hb5⟩; have HB5 := hidI hb5; clear hb5)
  go_ret2
  exact ⟨rfl, HF.out.trans (HB5.out.mono HB1.out.size)⟩
theorem count_any (s : ByteArray) (hs : s.data.toList.length ≤ 4611686018427387904) (w : World) : Calls Tryz.prog 14 #[.string s] w fun e w' => e = .returned (.int .i64 ((nl s.data.toList : Int) + 1)) ∧ w = w' := by
  have C := Tryz.strings_Count_one s 10 w
  have e1 : Lib.countByte s.data.toList 10 = nl s.data.toList := rfl
  rw [e1] at C
  have hle : nl s.data.toList ≤ s.data.toList.length := List.count_le_length
  have CC := hidI C
  have ww : IntKind.i64.wrap ((nl s.data.toList : Int) + 1) = (nl s.data.toList : Int) + 1 := by rw [IntKind.wrap_i64]; omega
  obtain ⟨N, hN⟩ : ∃ N, nl s.data.toList = N := ⟨_, rfl⟩
  rw [hN] at CC ww ⊢
  clear C e1 hle hN
  go_enter Tryz.func14, Tryz.ntmps14
  go_wp2_with (go_at_call 30; refine CC.out.mono ?_; rintro e w1 ⟨rfl, rfl⟩)
  go_ret
  exact ⟨rfl, rfl⟩
theorem kwa : kindW ⟨#[97]⟩ = 3 := by
  unfold kindW
  rw [if_neg (not_num (c := 97) (r := []) rfl (by decide) (by unfold Dig; decide)), if_pos (by decide +kernel)]
section
variable (k0 k1 k2 k3 : Value)
abbrev msL : List MV := [(⟨1, ⟨#[]⟩, 0, [1, 2], 0⟩, k0), (⟨3, ⟨#[97]⟩, 0, [], 0⟩, k1), (⟨1, ⟨#[]⟩, 0, [3], 0⟩, k2), (⟨4, ⟨#[]⟩, -4, [], 0⟩, k3)]
theorem walkL : WalkR (kidsOf (msL k0 k1 k2 k3)) (msL k0 k1 k2 k3).length 0 (-1) (-1) [0] 4 [(-1, 0), (0, 1), (0, 2), (2, 3)] true := by
  have q3 : WalkR (kidsOf (msL k0 k1 k2 k3)) (msL k0 k1 k2 k3).length 4 3 3 [] 4 [] true := .done _ _ _
  have q2 : WalkR (kidsOf (msL k0 k1 k2 k3)) (msL k0 k1 k2 k3).length 3 2 2 [3] 4 [(2, 3)] true := .more (ys1 := []) (ys2 := []) (t1 := 4) (by decide) (by simp) (by decide) q3 (.done _ _ _)
  have q1 : WalkR (kidsOf (msL k0 k1 k2 k3)) (msL k0 k1 k2 k3).length 2 1 1 [] 2 [] true := .done _ _ _
  have q0 : WalkR (kidsOf (msL k0 k1 k2 k3)) (msL k0 k1 k2 k3).length 1 0 0 [1, 2] 4 [(0, 1), (0, 2), (2, 3)] true :=
    .more (ys1 := []) (ys2 := [(0, 2), (2, 3)]) (t1 := 2) (by decide) (by simp) (by decide) q1 (.more (ys1 := [(2, 3)]) (ys2 := []) (t1 := 4) (by decide) (by simp) (by decide) q2 (.done _ _ _))
  exact .more (ys1 := [(0, 1), (0, 2), (2, 3)]) (ys2 := []) (t1 := 4) (by decide) (by simp) (by decide) q0 (.done _ _ _)
theorem depthL : depthOf (msL k0 k1 k2 k3) [0] = 2 := by rfl
theorem namedL : namedN (msL k0 k1 k2 k3) [0] = 4 := by rfl
theorem okL : ∀ (i : Nat) (x : MV), (msL k0 k1 k2 k3)[i]? = some x → okF x.1 = true := by
  intro i x hx
  have hi : i < 4 := (List.getElem?_eq_some_iff.1 hx).1
  have hm : i = 0 ∨ i = 1 ∨ i = 2 ∨ i = 3 := by omega
  have e0 : (⟨#[]⟩ : ByteArray).toList = [] := by rw [ByteArray.toList_eq]
  rcases hm with rfl | rfl | rfl | rfl <;> simp only [List.getElem?_cons_zero, List.getElem?_cons_succ, Option.some.injEq] at hx <;> subst hx <;> simp [okF, kwa, e0]
theorem ordL : InOrd [(-1, 0), (0, 1), (0, 2), (2, 3)] := by decide
end
theorem rightL (k0 k1 k2 k3 : Value) (fv tv : Value) (w : World) (hL : Laid w) (hm : SeesM w fv (msL k0 k1 k2 k3)) (ht : SeesC w tv [(0 : Int)].length 1 (intsI [0])) : Calls Tryz.prog 18 #[fv, tv] w fun e w' => e = .returned (.bool true) ∧ Below w.heap.size w w' := by
  have h := right_walk fv tv (msL k0 k1 k2 k3) [0] w hL hm ht (by simp) (by simp) (by intro x hx; simp at hx; rcases hx with rfl | rfl | rfl | rfl <;> exact Nat.le_of_ble_eq_true rfl) (by intro x hx; simp at hx; rcases hx with rfl | rfl | rfl | rfl <;> exact Nat.le_of_ble_eq_true rfl) (okL k0 k1 k2 k3) (walkL k0 k1 k2 k3)
  rw [depthL, namedL] at h
  have e1 : (decide (InOrd [((-1 : Int), (0 : Int)), (0, 1), (0, 2), (2, 3)]) && (decide ((([((-1 : Int), (0 : Int)), (0, 1), (0, 2), (2, 3)] : List (Int × Int)).length : Int) = ((msL k0 k1 k2 k3).length : Int)) && (decide ((4 : Int) = ((msL k0 k1 k2 k3).length : Int)) && decide ((2 : Int) ≤ 12)))) = true := by
    rw [decide_eq_true ordL]
    rfl
  rw [e1] at h
  exact h
theorem tellL4 (k0 k1 k2 k3 : Value) : Tellable (msL k0 k1 k2 k3) := by
  refine ⟨fun i x hx hk c hc => ?_, fun x hx => ?_, fun x hx => ?_⟩
  · have hi : i < 4 := (List.getElem?_eq_some_iff.1 hx).1
    have hm : i = 0 ∨ i = 1 ∨ i = 2 ∨ i = 3 := by omega
    rcases hm with rfl | rfl | rfl | rfl <;> simp only [List.getElem?_cons_zero, List.getElem?_cons_succ, Option.some.injEq] at hx <;> subst hx <;> simp at hc hk ⊢ <;> omega
  · simp at hx
    rcases hx with rfl | rfl | rfl | rfl <;> simp [In64]
  · simp at hx
    rcases hx with rfl | rfl | rfl | rfl <;> simp
theorem itoa4 : Lib.itoa (-4) = [45, 52] := by decide +kernel
theorem prnB4 (k0 k1 k2 k3 : Value) : prn (formsOf (msL k0 k1 k2 k3)) gapB [0] = [40, 97, 32, 40, 45, 52, 41, 41, 10] := by
  simp [prn, lineT, formsOf, txt, gapB, itoa4, List.zipIdx_cons]
theorem prnL4 (k0 k1 k2 k3 : Value) : prn (formsOf (msL k0 k1 k2 k3)) (gapL (formsOf (msL k0 k1 k2 k3))) [0] = [40, 97, 10, 32, 32, 40, 45, 52, 41, 41, 10] := by
  simp [prn, lineT, formsOf, txt, gapL, gapB, isOp, itoa4, List.zipIdx_cons]
theorem txt4 (k0 k1 k2 k3 : Value) : txt (formsOf (msL k0 k1 k2 k3)) gapB ((msL k0 k1 k2 k3).length + 1) ((2 : Nat) : Int) 0 = [40, 45, 52, 41] := by
  simp [formsOf, txt, gapB, itoa4, List.zipIdx_cons]
theorem look4 (k0 k1 k2 k3 : Value) : (lookF (formsOf (msL k0 k1 k2 k3)) ((msL k0 k1 k2 k3).length + 1) 2 0).1 = true := by
  simp [formsOf, lookF, lookK]
end Go.Proofs.YtmihhebcchpmcaaGreatDoor
/-
  What must be whatever is asked, of show.
-/
namespace Go.Proofs.YtmihhebcchpmcaaGreatDoor
open Go.RowKit Go.Deep Go.MapKept Go.Shelf
abbrev w3 (w : World) : World := ((w.alloc (.cells #[.int .i64 1, .int .i64 2] 3)).alloc (.cells #[.int .i64 3] 3)).alloc (.cells #[.int .u8 1, .string ⟨#[]⟩, .int .i64 0, .slice (some ⟨w.heap.size, 0, none⟩) 2 2, .int .i64 0, .int .u8 3, .string ⟨#[97]⟩, .int .i64 0, .slice none 0 0, .int .i64 0, .int .u8 1, .string ⟨#[]⟩, .int .i64 0, .slice (some ⟨w.heap.size + 1, 0, none⟩) 1 1, .int .i64 0, .int .u8 4, .string ⟨#[]⟩, .int .i64 (-4), .slice none 0 0, .int .i64 0] 56)
abbrev ms4 (w : World) : List MV := msL (.slice (some ⟨w.heap.size, 0, none⟩) 2 2) (.slice none 0 0) (.slice (some ⟨w.heap.size + 1, 0, none⟩) 1 1) (.slice none 0 0)
theorem sees4 (w : World) : SeesM (w3 w) (.slice (some ⟨w.heap.size + 1 + 1, 0, none⟩) 4 4) (ms4 w) := by
  refine ⟨⟨rfl, _, 4, rfl, .inr ⟨_, 0, rfl, fun j c hc => ?_⟩⟩, fun i x hx => ?_⟩
  · have hz : ((w.alloc (.cells #[.int .i64 1, .int .i64 2] 3)).alloc (.cells #[.int .i64 3] 3)).heap.size = w.heap.size + 1 + 1 := by simp
    have := cell_new ((w.alloc (.cells #[.int .i64 1, .int .i64 2] 3)).alloc (.cells #[.int .i64 3] 3)) #[.int .u8 1, .string ⟨#[]⟩, .int .i64 0, .slice (some ⟨w.heap.size, 0, none⟩) 2 2, .int .i64 0, .int .u8 3, .string ⟨#[97]⟩, .int .i64 0, .slice none 0 0, .int .i64 0, .int .u8 1, .string ⟨#[]⟩, .int .i64 0, .slice (some ⟨w.heap.size + 1, 0, none⟩) 1 1, .int .i64 0, .int .u8 4, .string ⟨#[]⟩, .int .i64 (-4), .slice none 0 0, .int .i64 0] 56 j c hc
    rw [hz] at this
    rw [Nat.zero_add]
    exact this
  · have hi : i < 4 := (List.getElem?_eq_some_iff.1 hx).1
    have hm : i = 0 ∨ i = 1 ∨ i = 2 ∨ i = 3 := by omega
    have hb0 : Below (w.heap.size + 1) (w.alloc (.cells #[.int .i64 1, .int .i64 2] 3)) (w3 w) := by
      have : (w.alloc (.cells #[.int .i64 1, .int .i64 2] 3)).heap.size = w.heap.size + 1 := by simp
      exact ((Below.refl _ _).alloc (by omega) _).alloc (by simp) _
    have hb1 : Below (w.heap.size + 1 + 1) ((w.alloc (.cells #[.int .i64 1, .int .i64 2] 3)).alloc (.cells #[.int .i64 3] 3)) (w3 w) := (Below.refl _ _).alloc (by simp) _
    rcases hm with rfl | rfl | rfl | rfl <;> simp only [List.getElem?_cons_zero, List.getElem?_cons_succ, Option.some.injEq] at hx <;> subst hx
    · refine ⟨rfl, _, 2, rfl, .inr ⟨_, 0, rfl, fun j c hc => ?_⟩⟩
      have := cell_new w #[.int .i64 1, .int .i64 2] 3 j c hc
      rw [Nat.zero_add]
      exact (hb0.cell (p := ⟨w.heap.size, j, none⟩) (by simp)).trans this
    · exact ⟨rfl, _, 0, rfl, .inl rfl⟩
    · refine ⟨rfl, _, 1, rfl, .inr ⟨_, 0, rfl, fun j c hc => ?_⟩⟩
      have := cell_new (w.alloc (.cells #[.int .i64 1, .int .i64 2] 3)) #[.int .i64 3] 3 j c hc
      rw [show (w.alloc (.cells #[.int .i64 1, .int .i64 2] 3)).heap.size = w.heap.size + 1 by simp] at this
      rw [Nat.zero_add]
      exact (hb1.cell (p := ⟨w.heap.size + 1, j, none⟩) (by simp)).trans this
    · exact ⟨rfl, _, 0, rfl, .inl rfl⟩
theorem roomy4 (w : World) : ∀ x ∈ ms4 w, Roomy x.2 := fun x hx => by
  simp at hx
  rcases hx with rfl | rfl | rfl | rfl <;> exact ⟨_, _, _, rfl, Nat.le_refl _⟩
theorem top4 (y : World) : SeesC (y.alloc (.cells #[.int .i64 0] 3)) (.slice (some ⟨y.heap.size, 0, none⟩) 1 1) [(0 : Int)].length 1 (intsI [0]) :=
  ⟨rfl, _, 1, rfl, .inr ⟨_, 0, rfl, fun j c hc => by rw [Nat.zero_add]; exact cell_new y #[.int .i64 0] 3 j c hc⟩⟩
theorem str_eq (a b : List UInt8) (h : a = b) : (⟨a.toArray⟩ : ByteArray) = ⟨b.toArray⟩ := by rw [h]
set_option maxRecDepth 100000 in
set_option maxHeartbeats 1000000 in
theorem live8_any (w : World) (hL : Laid w) : Calls Tryz.prog 13 #[] w fun e w' => e = .returned (.bool true) ∧ Below w.heap.size w w' := by
  have hb3 : Below w.heap.size w (w3 w) := by
    unfold w3
    (repeat (first | exact Below.refl _ _ | assumption | refine Below.drew ?_ | refine Below.alloc ?_ (by first | omega | (simp; done) | (simp; omega)) _ | refine Below.setCell ?_ (by first | omega | (simp; done) | (simp; omega)) _))
  have hr : ∀ (y : World), Below (w3 w).heap.size (w3 w) y → RightC (.slice (some ⟨w.heap.size + 1 + 1, 0, none⟩) 4 4) (.slice (some ⟨y.heap.size, 0, none⟩) 1 1) true (y.alloc (.cells #[.int .i64 0] 3)) := fun y hy W hW =>
    rightL _ _ _ _ _ _ W (hL.on (hb3.trans ((hy.trans (((Below.refl _ y).alloc (Nat.le_refl _) _).trans (hW.mono (by simp)) |>.mono hy.size)).mono hb3.size))) ((sees4 w).below (hy.trans ((((Below.refl _ y).alloc (Nat.le_refl _) _).trans (hW.mono (by simp))).mono hy.size)) (Nat.le_refl _)) ((top4 y).below hW (Nat.le_refl _))
  have hba : ∀ (y : World), Below (w3 w).heap.size (w3 w) y → Below (w3 w).heap.size (w3 w) (y.alloc (.cells #[.int .i64 0] 3)) := fun y hy => hy.alloc hy.size _
  have CP : Hid (∀ (y : World) (k : Nat), Below (w3 w).heap.size (w3 w) y → y.heap.size = k → Calls Tryz.prog 7 #[.slice (some ⟨w.heap.size + 1 + 1, 0, none⟩) 4 4, .slice (some ⟨k, 0, none⟩) 1 1] (y.alloc (.cells #[.int .i64 0] 3)) fun e w' => e = .returned (.tuple #[.string ⟨#[40, 97, 32, 40, 45, 52, 41, 41, 10]⟩, .int .i64 0]) ∧ Below (w3 w).heap.size (w3 w) w') := hidI fun y k hy hk => by
    subst hk
    have := print_any _ _ (ms4 w) [0] _ ((sees4 w).below (hba y hy) (Nat.le_refl _)) (top4 y) (hr y hy) (tellL4 _ _ _ _) (by simp) (hL.tab.on (hb3.trans ((hba y hy).mono hb3.size))) (by simp) (by simp) (by rw [prnB4]; simp)
    rw [prnB4] at this
    exact this.mono fun e w' h => ⟨h.1, (hba y hy).trans (h.2.mono (hba y hy).size)⟩
  have CQ : Hid (∀ (y : World) (k : Nat), Below (w3 w).heap.size (w3 w) y → y.heap.size = k → Calls Tryz.prog 11 #[.slice (some ⟨w.heap.size + 1 + 1, 0, none⟩) 4 4, .slice (some ⟨k, 0, none⟩) 1 1] (y.alloc (.cells #[.int .i64 0] 3)) fun e w' => e = .returned (.tuple #[.string ⟨#[40, 97, 10, 32, 32, 40, 45, 52, 41, 41, 10]⟩, .int .i64 0]) ∧ Below (w3 w).heap.size (w3 w) w') := hidI fun y k hy hk => by
    subst hk
    have := pretty_any _ _ (ms4 w) [0] _ ((sees4 w).below (hba y hy) (Nat.le_refl _)) (top4 y) (hr y hy) (tellL4 _ _ _ _) (by simp) (hL.tab.on (hb3.trans ((hba y hy).mono hb3.size))) (by simp) (by simp) (by rw [prnL4]; simp) (roomy4 w)
    rw [prnL4] at this
    exact this.mono fun e w' h => ⟨h.1, (hba y hy).trans (h.2.mono (hba y hy).size)⟩
  have CO : Hid (∀ (y : World), Below (w3 w).heap.size (w3 w) y → Calls Tryz.prog 9 #[.slice (some ⟨w.heap.size + 1 + 1, 0, none⟩) 4 4, .int .i64 2] y fun e w' => e = .returned (.tuple #[.string ⟨#[40, 45, 52, 41]⟩, .int .i64 0]) ∧ Below (w3 w).heap.size (w3 w) w') := hidI fun y hy => by
    have := one_ok _ (ms4 w) 2 y ((sees4 w).below hy (Nat.le_refl _)) (by simp) (tellL4 _ _ _ _) (by simp) (hL.tab.on (hb3.trans (hy.mono hb3.size))) (look4 _ _ _ _) (by rw [txt4]; simp)
    rw [txt4] at this
    exact this.mono fun e w' h => ⟨h.1, hy.trans (h.2.mono hy.size)⟩
  have CN := hidI (count_any ⟨#[40, 97, 10, 32, 32, 40, 45, 52, 41, 41, 10]⟩ (by simp))
  have H3 := hidI hb3
  have hnl : nl (⟨#[40, 97, 10, 32, 32, 40, 45, 52, 41, 41, 10]⟩ : ByteArray).data.toList = 2 := by rfl
  rw [hnl] at CN
  clear hr hba hb3 hL hnl
  go_enter Tryz.func13, Tryz.ntmps13
  go_wp2_with (go_at_call 7; refine (CP.out _ _ (Below.refl _ _) (by simp)).mono ?_; rintro e w4 ⟨rfl, h4⟩; have H4 := hidI h4; clear h4 CP; refine Hid.out ?_)
  refine hidI ?_
  go_wp2_with (go_at_call 11; refine (CQ.out _ _ H4.out rfl).mono ?_; rintro e w5 ⟨rfl, h5⟩; have H5 := hidI h5; clear h5 CQ; refine Hid.out ?_)
  refine hidI ?_
  go_wp2_with (first
    | (go_at_call 9; refine (CO.out _ H5.out).mono ?_; rintro e w6 ⟨rfl, h6⟩; have H6 := hidI h6; clear h6 CO)
    | (go_at_call 14; refine (CN.out _).mono ?_; rintro e w7 ⟨rfl, rfl⟩))
  go_ret
  exact ⟨rfl, H3.out.trans (H6.out.mono H3.out.size)⟩
end Go.Proofs.YtmihhebcchpmcaaGreatDoor
