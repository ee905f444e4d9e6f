/-
  What both lists together are, and one form of them, alone.
-/
import Derived.Test.YtnlplkchkhibaaaDoorRegA12
namespace Go.Proofs.YtnlplkchkhibaaaDoor
open Go.RowKit Go.Deep Go.MapKept
theorem both_len (σ τ : St) : (bothS σ τ).forms.length = σ.forms.length + τ.forms.length := by simp [bothS]
theorem both_kids {σ τ : St} (h : Good σ) (h' : Good τ) : ∀ f ∈ (bothS σ τ).forms, f.kids.length ≤ 400 := fun f hf => by
  simp only [bothS, List.mem_append, List.mem_map] at hf
  have := h.len
  have := h'.len
  rcases hf with hf | ⟨g, hg, rfl⟩
  · have := h.kid_len f hf; omega
  · have := h'.kid_len g hg; simp [shiftF]; omega
theorem both_texts {σ τ : St} (h : ∀ f ∈ σ.forms, f.s.size ≤ 140737488355328) (h' : ∀ f ∈ τ.forms, f.s.size ≤ 140737488355328) : ∀ f ∈ (bothS σ τ).forms, f.s.size ≤ 140737488355328 := fun f hf => by
  simp only [bothS, List.mem_append, List.mem_map] at hf
  rcases hf with hf | ⟨g, hg, rfl⟩
  · exact h f hf
  · exact h' g hg
theorem both_low {lv lv' : List Nat} (h : ∀ x ∈ lv, x ≤ 12) (h' : ∀ x ∈ lv', x ≤ 12) : ∀ x ∈ lv ++ lv', x ≤ 12 := fun x hx => by
  rcases List.mem_append.1 hx with hx | hx
  · exact h x hx
  · exact h' x hx
theorem cut_low {lv : List Nat} (h : ∀ x ∈ lv, x ≤ 12) (a n : Nat) : ∀ x ∈ (lv.drop a).take n, x ≤ 12 := fun x hx => h x (List.mem_of_mem_drop (List.mem_of_mem_take hx))
/-- What two parses that are right leave together. -/
structure Two (β : St) (lb : List Nat) : Prop where
  shape : Shape β lb
  low : ∀ x ∈ lb, x ≤ 12
  nm : β.forms.all nmF = true
  len : β.forms.length ≤ 400
  kids : ∀ f ∈ β.forms, f.kids.length ≤ 400
  texts : ∀ f ∈ β.forms, f.s.size ≤ 140737488355328
theorem two_of {T U : List Tok} {σ τ : St} {lv lv' : List Nat} (h : Prd T σ lv) (h' : Prd U τ lv') (n1 : T.all nmT = true) (n2 : U.all nmT = true) (hl : σ.forms.length + τ.forms.length ≤ 400) : Two (bothS σ τ) (lv ++ lv') :=
  ⟨shape_both h.shape h'.shape, both_low h.low h'.low, nm_both (by rw [named_same h.cnt, n1]) (by rw [named_same h'.cnt, n2]), by rw [both_len]; exact hl, both_kids h.good h'.good, both_texts (text_small h.cnt h.small) (text_small h'.cnt h'.small)⟩
theorem Two.right {β : St} {lb : List Nat} (h : Two β lb) {ms : List MV} (hms : ms.map Prod.fst = β.forms.map toFm) {fv tv : Value} {w : World} (hL : Laid w) (hm : SeesM w fv ms) (ht : SeesC w tv (castI β.top).length 1 (intsI (castI β.top))) : RightC fv tv true w := fun W hb =>
  right_shape h.shape h.low h.nm h.len h.kids h.texts hms fv tv W (hL.on hb) (hm.below hb (Nat.le_refl _)) (ht.below hb (Nat.le_refl _))
theorem Two.alone {β : St} {lb : List Nat} (h : Two β lb) {a mid : Nat} (hs : Seg (Kof β.forms) (a + 1) mid (Kof β.forms a)) (hm : mid ≤ β.forms.length) : Two (aloneS β a mid) ((lb.drop a).take (mid - a)) := by
  have hl : (aloneS β a mid).forms.length = mid - a := part_length hm
  refine ⟨shape_alone h.shape hs hm, cut_low h.low _ _, nm_down h.nm, by rw [hl]; have := h.len; omega, fun f hf => ?_, fun f hf => ?_⟩
  · obtain ⟨g, hg, rfl⟩ := part_mem hf
    have := h.kids g hg
    simpa [downF] using this
  · obtain ⟨g, hg, rfl⟩ := part_mem hf
    exact h.texts g hg
theorem Two.kidsM {β : St} {lb : List Nat} (h : Two β lb) {ms : List MV} (hms : ms.map Prod.fst = β.forms.map toFm) : ∀ x ∈ ms, x.1.kids.length ≤ 99999 := fun x hx => by
  obtain ⟨i, hi⟩ := List.getElem?_of_mem hx
  obtain ⟨f, hf, e⟩ := fm_at hms hi
  have := h.kids f (List.mem_of_getElem? hf)
  rw [e]; simp [toFm]; omega
theorem Two.textsM {β : St} {lb : List Nat} (h : Two β lb) {ms : List MV} (hms : ms.map Prod.fst = β.forms.map toFm) : ∀ x ∈ ms, x.1.s.size ≤ 140737488355328 := fun x hx => by
  obtain ⟨i, hi⟩ := List.getElem?_of_mem hx
  obtain ⟨f, hf, e⟩ := fm_at hms hi
  rw [e]
  exact h.texts f (List.mem_of_getElem? hf)
/-- What Alone leaves of what is right: right forms, as many as the walk tells. -/
theorem Two.one {β : St} {lb : List Nat} (h : Two β lb) {xs : List MV} (hx : xs.map Prod.fst = β.forms.map toFm) {bv : Value} {a : Nat} (ha : a < β.forms.length) {w : World} (hL : Laid w) (hs : SeesM w bv xs) :
    ∃ n : Nat, (Calls Tryd.prog 21 #[bv, .int .i64 (a : Int)] w fun e w' => ∃ oa oc pv, e = .returned (.tuple #[.slice oa n oc, pv, .int .i64 0]) ∧ RightC (.slice oa n oc) pv true w' ∧ Below w.heap.size w w') ∧
      ∀ W, Below w.heap.size w W → Calls Tryd.prog 15 #[bv, .int .i64 (a : Int)] W fun e w' => e = .returned (.int .i64 (n : Int)) ∧ Below W.heap.size W w' := by
  obtain ⟨mid, ys, hsg, hm, hw, hyl, hb⟩ := alone_built h.shape h.len hx ha
  have hxl := len_same hx
  have hle := hsg.le
  have hlen := h.len
  have hml : mid - a ≤ 400 := by omega
  refine ⟨mid - a, ?_, fun W hW => ?_⟩
  · refine (alone_any bv xs β.forms hx (a : Int) w hs (h.kidsM hx) (h.textsM hx) (by omega) hw (by omega) (by omega)).mono ?_
    rintro e w' ⟨v, u, zs, rfl, hz, hAR, hu, hbl⟩
    rw [hb] at hz
    have hzl : zs.length = mid - a := by
      have := congrArg List.length hz
      rw [List.length_map, show (aloneS β a mid).forms.length = mid - a from part_length hm] at this
      exact this
    have hsz := hAR.sees
    obtain ⟨_, oa, oc, hv, _⟩ := hsz.row
    rw [List.length_map, hzl] at hv
    have hR : RightC v u true w' := (h.alone hsg hm).right (ms := zs.map fun x => (toFm x.1, x.2)) (by rw [← hz]; simp) (hL.on hbl) hsz (by simpa [aloneS, castI, intsI] using hu)
    subst hv
    exact ⟨oa, oc, u, rfl, hR, hbl⟩
  · have := size_any bv xs (a : Int) W (hs.below hW (Nat.le_refl _)) (fun x hx' => by have := h.kidsM hx x hx'; omega) (by omega) hw
    rw [hyl] at this
    exact this
end Go.Proofs.YtnlplkchkhibaaaDoor
/-
  TreeWhole: both lists together are right, and as large as both; a form that is alone is right, and as large as it was.
-/
namespace Go.Proofs.YtnlplkchkhibaaaDoor
open Go.RowKit Go.Deep Go.MapKept
theorem tmod_some (a : Int) (n : Nat) (h0 : 0 ≤ a) (hn : 0 < n) : ∃ m : Nat, m < n ∧ a.tmod (n : Int) = (m : Int) := ⟨(a.tmod (n : Int)).toNat, by have := Int.tmod_lt_of_pos a (show (0 : Int) < (n : Int) by omega); have := Int.tmod_nonneg (n : Int) h0; omega, by have := Int.tmod_nonneg (n : Int) h0; omega⟩
set_option maxRecDepth 100000 in
set_option maxHeartbeats 16000000 in
theorem treeWhole_law (ts us : List Tok) (a b : Option Addr) (ca cb : Nat) (k : Int) (hk0 : 0 ≤ k) (hk1 : k ≤ 255) (hca : ts.length ≤ ca) (hcb : us.length ≤ cb) (hs : ∀ t ∈ ts, t.s.size ≤ 140737488355328) (hu : ∀ t ∈ us, t.s.size ≤ 140737488355328) (w : World) (hv : SeesC w (.slice a ts.length ca) ts.length 4 (flatT ts)) (hx : SeesC w (.slice b us.length cb) us.length 4 (flatT us)) (hL : Laid w) :
    Calls Tryd.prog 6 #[.slice a ts.length ca, .slice b us.length cb, .int .u8 k] w fun e w' => e = .returned (.bool true) ∧ Below w.heap.size w w' := by
  obtain ⟨v1, hs1, hf1⟩ := few_any ts a ca hca w hv
  obtain ⟨v2, hs2, hf2⟩ := few_any us b cb hcb w hx
  obtain ⟨T, hT⟩ : ∃ T, ts.take 700 = T := ⟨_, rfl⟩
  obtain ⟨U, hU⟩ : ∃ U, us.take 700 = U := ⟨_, rfl⟩
  rw [hT] at hs1
  rw [hU] at hs2
  have ht7 : ∀ t ∈ T, t.s.size ≤ 140737488355328 := fun t ht => hs t (List.mem_of_mem_take (hT ▸ ht))
  have hu7 : ∀ t ∈ U, t.s.size ≤ 140737488355328 := fun t ht => hu t (List.mem_of_mem_take (hU ▸ ht))
  have hlt : T.length ≤ 700 := by rw [← hT, List.length_take]; omega
  have hlu : U.length ≤ 700 := by rw [← hU, List.length_take]; omega
  obtain ⟨_, va1, vc1, hve1, _⟩ := id hs1
  obtain ⟨_, va2, vc2, hve2, _⟩ := id hs2
  subst hve1
  subst hve2
  have CF1 := hidI hf1
  have CF2 := hidI hf2
  have CP1 := hidI fun W (hb : Below w.heap.size w W) => tparse_any T _ W (hs1.below hb (Nat.le_refl _)) ht7 (by omega)
  have CP2 := hidI fun W (hb : Below w.heap.size w W) => tparse_any U _ W (hs2.below hb (Nat.le_refl _)) hu7 (by omega)
  have HL := hidI hL
  have HB0 := hidI (Below.refl w.heap.size w)
  have HT7 := hidI ht7
  have HU7 := hidI hu7
  have HK : Hid (0 ≤ k ∧ k ≤ 255) := hidI ⟨hk0, hk1⟩
  clear hv hx hs1 hs2 hf1 hf2 ht7 hu7 hL hs hu hT hU hca hcb hk0 hk1 hlt hlu
  cases hp : parse T with
  | error q =>
    have hq := tparse_err hp
    rw [hp] at CP1
    have hne : (q.2 == 0) = false := by rcases hq with h | h <;> rw [h] <;> rfl
    have hne2 : ¬ q.2 = 0 := by rcases hq with h | h <;> rw [h] <;> decide
    clear hp hq
    cases hp2 : parse U with
    | error r =>
      rw [hp2] at CP2
      clear hp2
      go_enter Tryd.func6, Tryd.ntmps6
      go_wp2_with (go_at_call 10; refine (CF1.out _).mono ?_; rintro e w' ⟨rfl, rfl⟩; refine Hid.out ?_)
      refine hidI ?_
      go_wp2_with (go_at_call 9; refine (CP1.out _ HB0.out).mono ?_; rintro e w1 ⟨rfl, hb1⟩; have HB1 := hidI (HB0.out.trans (hb1.mono HB0.out.size)); clear hb1 CP1; refine Hid.out ?_)
      refine hidI ?_
      go_wp2_with (go_at_call 10; refine (CF2.out _).mono ?_; rintro e w' ⟨rfl, rfl⟩; refine Hid.out ?_)
      refine hidI ?_
      go_wp2_with (go_at_call 9; refine (CP2.out _ HB1.out).mono ?_; rintro e w2 ⟨rfl, hb2⟩; have HB2 := hidI (HB1.out.trans (hb2.mono HB1.out.size)); clear hb2 CP2; refine Hid.out ?_)
      refine hidI ?_
      go_wp2_with (go_at_call 12; refine (tlive_any _ (HL.out.on HB2.out)).mono ?_; rintro e wl ⟨rfl, hbl⟩; have HBL := hidI (HB2.out.trans (hbl.mono HB2.out.size)); clear hbl)
      go_ret
      exact ⟨rfl, HBL.out⟩
  
    | ok τ =>
      rw [hp2] at CP2
      clear hp2
      go_enter Tryd.func6, Tryd.ntmps6
      go_wp2_with (go_at_call 10; refine (CF1.out _).mono ?_; rintro e w' ⟨rfl, rfl⟩; refine Hid.out ?_)
      refine hidI ?_
      go_wp2_with (go_at_call 9; refine (CP1.out _ HB0.out).mono ?_; rintro e w1 ⟨rfl, hb1⟩; have HB1 := hidI (HB0.out.trans (hb1.mono HB0.out.size)); clear hb1 CP1; refine Hid.out ?_)
      refine hidI ?_
      go_wp2_with (go_at_call 10; refine (CF2.out _).mono ?_; rintro e w' ⟨rfl, rfl⟩; refine Hid.out ?_)
      refine hidI ?_
      go_wp2_with (go_at_call 9; refine (CP2.out _ HB1.out).mono ?_; rintro e w2 ⟨fv2, tv2, rfl, _, _, hb2⟩; have HB2 := hidI (HB1.out.trans (hb2.mono HB1.out.size)); clear hb2 CP2; refine Hid.out ?_)
      refine hidI ?_
      go_wp2_with (go_at_call 12; refine (tlive_any _ (HL.out.on HB2.out)).mono ?_; rintro e wl ⟨rfl, hbl⟩; have HBL := hidI (HB2.out.trans (hbl.mono HB2.out.size)); clear hbl)
      go_ret
      exact ⟨rfl, HBL.out⟩
  
  | ok σ =>
    rw [hp] at CP1
    obtain ⟨lv, hSh, hlv, hC, _⟩ := shape_parse hp
    have HP1 := hidI (show Prd T σ lv from ⟨hSh, hlv, hC, parse_good hp, HT7.out⟩)
    clear hp hSh hlv hC
    cases hp2 : parse U with
    | error r =>
      have hq := tparse_err hp2
      rw [hp2] at CP2
      have hne : (r.2 == 0) = false := by rcases hq with h | h <;> rw [h] <;> rfl
      have hne2 : ¬ r.2 = 0 := by rcases hq with h | h <;> rw [h] <;> decide
      clear hp2 hq
      go_enter Tryd.func6, Tryd.ntmps6
      go_wp2_with (go_at_call 10; refine (CF1.out _).mono ?_; rintro e w' ⟨rfl, rfl⟩; refine Hid.out ?_)
      refine hidI ?_
      go_wp2_with (go_at_call 9; refine (CP1.out _ HB0.out).mono ?_; rintro e w1 ⟨fv1, tv1, rfl, _, _, hb1⟩; have HB1 := hidI (HB0.out.trans (hb1.mono HB0.out.size)); clear hb1 CP1; refine Hid.out ?_)
      refine hidI ?_
      go_wp2_with (go_at_call 10; refine (CF2.out _).mono ?_; rintro e w' ⟨rfl, rfl⟩; refine Hid.out ?_)
      refine hidI ?_
      go_wp2_with (go_at_call 9; refine (CP2.out _ HB1.out).mono ?_; rintro e w2 ⟨rfl, hb2⟩; have HB2 := hidI (HB1.out.trans (hb2.mono HB1.out.size)); clear hb2 CP2; refine Hid.out ?_)
      refine hidI ?_
      go_wp2_with (go_at_call 12; refine (tlive_any _ (HL.out.on HB2.out)).mono ?_; rintro e wl ⟨rfl, hbl⟩; have HBL := hidI (HB2.out.trans (hbl.mono HB2.out.size)); clear hbl)
      go_ret
      exact ⟨rfl, HBL.out⟩
  
    | ok τ =>
      rw [hp2] at CP2
      obtain ⟨lv', hSh, hlv, hC, _⟩ := shape_parse hp2
      have HP2 := hidI (show Prd U τ lv' from ⟨hSh, hlv, hC, parse_good hp2, HU7.out⟩)
      clear hp2 hSh hlv hC
      go_enter Tryd.func6, Tryd.ntmps6
      go_wp2_with (go_at_call 10; refine (CF1.out _).mono ?_; rintro e w' ⟨rfl, rfl⟩; refine Hid.out ?_)
      refine hidI ?_
      go_wp2_with (go_at_call 9; refine (CP1.out _ HB0.out).mono ?_; rintro e w1 ⟨fv1, tv1, rfl, hf1, ht1, hb1⟩; have HB1 := hidI (HB0.out.trans (hb1.mono HB0.out.size)); have HS1 := hidI hb1; have HF1 := hidI hf1; have HT1 := hidI ht1; clear hb1 hf1 ht1 CP1; refine Hid.out ?_)
      refine hidI ?_
      obtain ⟨ms1, hms1, hsm1⟩ := seesM_of HF1.out
      have hti1 : SeesC w1 tv1 (castI σ.top).length 1 (intsI (castI σ.top)) := sees_ints HT1.out
      obtain ⟨_, fa1, fc1, hfv1, _⟩ := hsm1.row
      obtain ⟨_, ta1, tc1, htv1, _⟩ := id hti1
      subst hfv1
      subst htv1
      obtain ⟨n1, hn1⟩ : ∃ n, ms1.length = n := ⟨_, rfl⟩
      have hl1 : n1 = σ.forms.length := by rw [← hn1]; exact len_same hms1
      have HM1 := hidI hms1
      have HSM1 := hidI hsm1
      have HTI1 := hidI hti1
      have HN1 := hidI hn1
      have HL1 := hidI hl1
      have h41 : n1 ≤ 400 := by rw [hl1]; exact HP1.out.good.len
      rw [hn1]
      rw [hn1] at HSM1
      obtain ⟨q1, hq1⟩ : ∃ q, (castI σ.top).length = q := ⟨_, rfl⟩
      rw [hq1]
      rw [hq1] at HTI1
      have HQ1 := hidI hq1
      clear hms1 hsm1 hti1 hn1 hl1 HF1 HT1 hq1
      go_wp2_with (go_at_call 10; refine (CF2.out _).mono ?_; rintro e w' ⟨rfl, rfl⟩; refine Hid.out ?_)
      refine hidI ?_
      go_wp2_with (go_at_call 9; refine (CP2.out _ HB1.out).mono ?_; rintro e w2 ⟨fv2, tv2, rfl, hf2, ht2, hb2⟩; have HB2 := hidI (HB1.out.trans (hb2.mono HB1.out.size)); have HS2 := hidI hb2; have HF2 := hidI hf2; have HT2 := hidI ht2; clear hb2 hf2 ht2 CP2; refine Hid.out ?_)
      refine hidI ?_
      obtain ⟨ms2, hms2, hsm2⟩ := seesM_of HF2.out
      have hti2 : SeesC w2 tv2 (castI τ.top).length 1 (intsI (castI τ.top)) := sees_ints HT2.out
      obtain ⟨_, fa2, fc2, hfv2, _⟩ := hsm2.row
      obtain ⟨_, ta2, tc2, htv2, _⟩ := id hti2
      subst hfv2
      subst htv2
      obtain ⟨n2, hn2⟩ : ∃ n, ms2.length = n := ⟨_, rfl⟩
      have hl2 : n2 = τ.forms.length := by rw [← hn2]; exact len_same hms2
      have HM2 := hidI hms2
      have HSM2 := hidI hsm2
      have HTI2 := hidI hti2
      have HN2 := hidI hn2
      have HL2 := hidI hl2
      have h42 : n2 ≤ 400 := by rw [hl2]; exact HP2.out.good.len
      rw [hn2]
      rw [hn2] at HSM2
      obtain ⟨q2, hq2⟩ : ∃ q, (castI τ.top).length = q := ⟨_, rfl⟩
      rw [hq2]
      rw [hq2] at HTI2
      have HQ2 := hidI hq2
      clear hms2 hsm2 hti2 hn2 hl2 HF2 HT2 hq2
      
      have HSM1' : Hid (SeesM w2 (.slice fa1 n1 fc1) ms1) := hidI (HSM1.out.below HS2.out (Nat.le_refl _))
      have HTI1' : Hid (SeesC w2 (.slice ta1 q1 tc1) (castI σ.top).length 1 (intsI (castI σ.top))) := hidI (by have := HTI1.out; rw [← HQ1.out] at this ⊢; exact this.below HS2.out (Nat.le_refl _))
      have HTI2' : Hid (SeesC w2 (.slice ta2 q2 tc2) (castI τ.top).length 1 (intsI (castI τ.top))) := hidI (by have := HTI2.out; rw [← HQ2.out] at this ⊢; exact this)
      have CR1 := hidI (HP1.out.right HM1.out (HL.out.on HB2.out) HSM1'.out HTI1'.out)
      have CR2 := hidI (HP2.out.right HM2.out (HL.out.on HB2.out) HSM2.out HTI2'.out)
      clear HS2 HSM1 HTI1 HTI2 HS1
      have HR : Hid (∀ x, T.all nmT = x → RightC (.slice fa1 n1 fc1) (.slice ta1 q1 tc1) x w2) := hidI fun x hx => hx ▸ CR1.out
      have HR2 : Hid (∀ x, U.all nmT = x → RightC (.slice fa2 n2 fc2) (.slice ta2 q2 tc2) x w2) := hidI fun x hx => hx ▸ CR2.out
      clear CR1 CR2
      cases hn1 : T.all nmT with
      | false =>
        have CR1 := hidI (HR.out _ hn1)
        clear hn1 HR HR2
        go_wp2_with (first
          | (go_at_call 17; refine (CR1.out _ (Below.refl _ _)).mono ?_; rintro e w3 ⟨rfl, hb3⟩; have HB3 := hidI (HB2.out.trans (hb3.mono HB2.out.size)); clear hb3 CR1)
          | (go_at_call 12; refine (tlive_any _ (HL.out.on HB3.out)).mono ?_; rintro e wl ⟨rfl, hbl⟩; have HBL := hidI (HB3.out.trans (hbl.mono HB3.out.size)); clear hbl))
        go_ret
        exact ⟨rfl, HBL.out⟩
      
      | true =>
        have CR1 := hidI (HR.out _ hn1)
        cases hn2 : U.all nmT with
        | false =>
          have CR2 := hidI (HR2.out _ hn2)
          clear hn1 hn2 HR HR2
          go_wp2_with (go_at_call 17; refine (CR1.out _ (Below.refl _ _)).mono ?_; rintro e w3 ⟨rfl, hb3⟩; have HC3 := hidI hb3; have HB3 := hidI (HB2.out.trans (hb3.mono HB2.out.size)); clear hb3 CR1; refine Hid.out ?_)
          refine hidI ?_
          go_wp2_with (first
            | (go_at_call 17; refine (CR2.out _ HC3.out).mono ?_; rintro e w4 ⟨rfl, hb4⟩; have HB4 := hidI (HB3.out.trans (hb4.mono HB3.out.size)); clear hb4 CR2)
            | (go_at_call 12; refine (tlive_any _ (HL.out.on HB4.out)).mono ?_; rintro e wl ⟨rfl, hbl⟩; have HBL := hidI (HB4.out.trans (hbl.mono HB4.out.size)); clear hbl))
          go_ret
          exact ⟨rfl, HBL.out⟩
      
        | true =>
          have CR2 := hidI (HR2.out _ hn2)
          have HN12 : Hid (T.all nmT = true ∧ U.all nmT = true) := hidI ⟨hn1, hn2⟩
          clear hn1 hn2 HR HR2
          go_wp2_with (go_at_call 17; refine (CR1.out _ (Below.refl _ _)).mono ?_; rintro e w3 ⟨rfl, hb3⟩; have HC3 := hidI hb3; have HB3 := hidI (HB2.out.trans (hb3.mono HB2.out.size)); clear hb3; refine Hid.out ?_)
          refine hidI ?_
          go_wp2_with (go_at_call 17; refine (CR2.out _ HC3.out).mono ?_; rintro e w4 ⟨rfl, hb4⟩; have HC4 := hidI (HC3.out.trans (hb4.mono HC3.out.size)); have HB4 := hidI (HB3.out.trans (hb4.mono HB3.out.size)); clear hb4; refine Hid.out ?_)
          refine hidI ?_
          have DR1 := hidI (CR1.out.on HC4.out)
          have DR2 := hidI (CR2.out.on HC4.out)
          have DM1 := hidI (HSM1'.out.below HC4.out (Nat.le_refl _))
          have DM2 := hidI (HSM2.out.below HC4.out (Nat.le_refl _))
          have DT1 := hidI (HTI1'.out.below HC4.out (Nat.le_refl _))
          have DT2 := hidI (HTI2'.out.below HC4.out (Nat.le_refl _))
          clear CR1 CR2 HSM1' HSM2 HTI1' HTI2' HC3 HC4
          have ww : IntKind.i64.wrap ((n1 : Int) + (n2 : Int)) = (n1 : Int) + (n2 : Int) := by rw [IntKind.wrap_i64]; omega
          by_cases hlong : 400 < n1 + n2
          · have e1 : (400 : Int) < (n1 : Int) + (n2 : Int) := by omega
            have CB := hidI (both_long fa1 ta1 fa2 ta2 n1 q1 n2 q2 fc1 tc1 fc2 tc2 w4 hlong h41 h42 DR1.out DR2.out)
            go_wp2_with (first
              | (go_at_call 23; refine CB.out.mono ?_; rintro e w5 ⟨rfl, hb5⟩; have HB5 := hidI (HB4.out.trans (hb5.mono HB4.out.size)); clear hb5)
              | (go_at_call 12; refine (tlive_any _ (HL.out.on HB5.out)).mono ?_; rintro e wl ⟨rfl, hbl⟩; have HBL := hidI (HB5.out.trans (hbl.mono HB5.out.size)); clear hbl))
            go_ret
            exact ⟨rfl, HBL.out⟩
      
          · have e1 : ¬ (400 : Int) < (n1 : Int) + (n2 : Int) := by omega
            have hml : ms1.length + ms2.length ≤ 400 := by rw [HN1.out, HN2.out]; omega
            have hgt1 := HP1.out.good.top_len
            have hgl1 := HP1.out.good.len
            have hgt2 := HP2.out.good.top_len
            have hgl2 := HP2.out.good.len
            have CB := hidI (both_ok _ _ _ _ ms1 ms2 (castI σ.top) (castI τ.top) w4 DM1.out DT1.out DM2.out DT2.out hml (by simp [castI]; omega) (by simp [castI]; omega) (HP1.out.kids HM1.out) (HP1.out.texts HM1.out) (HP2.out.kids HM2.out) (HP2.out.texts HM2.out) DR1.out DR2.out)
            have HTwo := hidI (two_of HP1.out HP2.out HN12.out.1 HN12.out.2 (by rw [← HL1.out, ← HL2.out]; omega))
            clear hgt1 hgl1 hgt2 hgl2 hml DR1 DR2 DM1 DM2 DT1 DT2
            go_wp2_with (go_at_call 23; refine CB.out.mono ?_; rintro e w5 ⟨bv, uv, xs, rfl, hown, hxs, hur, hb5⟩; have HB5 := hidI (HB4.out.trans (hb5.mono HB4.out.size)); have HO := hidI hown; have HX := hidI hxs; have HU := hidI hur; clear hb5 hown hxs hur; refine Hid.out ?_)
            refine hidI ?_
            have hxf := both_forms HP1.out.shape HP2.out.shape HP1.out.good.len HP2.out.good.len HM1.out HM2.out HX.out
            have hxt := both_top HP1.out.shape HP2.out.shape HP1.out.good.len HP2.out.good.len
            have hse := HO.out.sees
            obtain ⟨_, ba, bc, hbv, _⟩ := hse.row
            have hxl : xs.length = n1 + n2 := by rw [len_same hxf, both_len, ← HL1.out, ← HL2.out]
            have hut : SeesC w5 uv (castI (bothS σ τ).top).length 1 (intsI (castI (bothS σ τ).top)) := by
              have h5 := seesC_of_owns HU.out
              rw [show (ms1.length : Int) = (σ.forms.length : Int) by rw [HN1.out, HL1.out], hxt] at h5
              have h6 : (castI σ.top).length + (castI τ.top).length = (castI (bothS σ τ).top).length := by simp [castI, bothS]
              rw [h6] at h5
              exact h5
            have CR := hidI (HTwo.out.right hxf (HL.out.on HB5.out) hse hut)
            obtain ⟨_, ua, uc, huv, _⟩ := id hut
            obtain ⟨N, hN⟩ : ∃ N, xs.length = N := ⟨_, rfl⟩
            rw [hN] at hbv hxl
            subst hbv
            subst huv
            have HXF := hidI hxf
            have HSE := hidI hse
            have HNl : Hid ((bothS σ τ).forms.length = N) := hidI (by rw [← hN]; exact (len_same hxf).symm)
            have ww2 : IntKind.i64.wrap ((n1 : Int) + (n2 : Int)) = (N : Int) := by rw [ww]; omega
            have e2 : ¬ (400 : Int) < (N : Int) := by omega
            have hN4 : N ≤ 400 := by omega
            obtain ⟨Q, hQ⟩ : ∃ Q, (castI (bothS σ τ).top).length = Q := ⟨_, rfl⟩
            rw [hQ] at CR ⊢
            clear hxf hxt hse hut hQ hxl hN e1 ww HO HX HU HN1 HN2 HL1 HL2 HQ1 HQ2 HM1 HM2 HP1 HP2 HN12 CB hlong
            go_wp2_with (go_at_call 17; refine (CR.out _ (Below.refl _ _)).mono ?_; rintro e w6 ⟨rfl, hb6⟩; have HC6 := hidI hb6; have HB6 := hidI (HB5.out.trans (hb6.mono HB5.out.size)); clear hb6 CR; refine Hid.out ?_)
            refine hidI ?_
            by_cases hz : N = 0
            · subst hz
              go_wp2_with (go_at_call 12; refine (tlive_any _ (HL.out.on HB6.out)).mono ?_; rintro e wl ⟨rfl, hbl⟩; have HBL := hidI (HB6.out.trans (hbl.mono HB6.out.size)); clear hbl)
              go_ret
              exact ⟨rfl, HBL.out⟩
      
            · have z1 : ((N : Int) == 0) = false := by rw [beq_eq_false_iff_ne]; omega
              have z2 : ¬ (N : Int) = 0 := by omega
              obtain ⟨p, hpN, hpe⟩ := tmod_some k N HK.out.1 (by omega)
              obtain ⟨nn, hone, hsize⟩ := HTwo.out.one HXF.out (a := p) (by rw [HNl.out]; exact hpN) (HL.out.on HB6.out) (HSE.out.below HC6.out (Nat.le_refl _))
              have CA := hidI hone
              have CS := hidI hsize
              have wk : IntKind.i64.wrap k = k := by have := HK.out; rw [IntKind.wrap_i64]; omega
              clear hone hsize
              go_wp2_with (go_at_call 21; refine CA.out.mono ?_; rintro e w7 ⟨oa, oc, pv, rfl, hr, hb7⟩; have HC7 := hidI hb7; have HB7 := hidI (HB6.out.trans (hb7.mono HB6.out.size)); have CRR := hidI hr; clear hb7 hr CA; refine Hid.out ?_)
              refine hidI ?_
              go_wp2_with (first
                | (go_at_call 12; refine (tlive_any _ (HL.out.on HB7.out)).mono ?_; rintro e w8 ⟨rfl, hb8⟩; have HC8 := hidI hb8; have HD8 := hidI (HC7.out.trans (hb8.mono HC7.out.size)); have HB8 := hidI (HB7.out.trans (hb8.mono HB7.out.size)); clear hb8)
                | (go_at_call 17; refine (CRR.out _ HC8.out).mono ?_; rintro e w9 ⟨rfl, hb9⟩; have HD9 := hidI (HD8.out.trans (hb9.mono HD8.out.size)); have HB9 := hidI (HB8.out.trans (hb9.mono HB8.out.size)); clear hb9 CRR)
                | (go_at_call 15; refine (CS.out _ HD9.out).mono ?_; rintro e wl ⟨rfl, hbl⟩; have HBL := hidI (HB9.out.trans (hbl.mono HB9.out.size)); clear hbl CS))
              go_ret
              exact ⟨rfl, HBL.out⟩
end Go.Proofs.YtnlplkchkhibaaaDoor
