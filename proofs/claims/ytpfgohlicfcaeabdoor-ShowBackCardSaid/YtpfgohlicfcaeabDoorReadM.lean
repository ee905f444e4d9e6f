/-
  What is read of a text: forms that can be told.
-/
import Derived.Test.YtpfgohlicfcaeabDoorPrn
import Derived.Test.YtpfgohlicfcaeabDoorRToks
namespace Go.Proofs.YtpfgohlicfcaeabDoor
open Go.RowKit Go.Deep Go.MapKept Go.Shelf
theorem results_3t {fn : Func} {t u v : Tmp} (h : fn.results = #[.tmp t, .tmp u, .tmp v]) (tmps : Array Value) (P : Program) (w : World) :
    (results fn tmps).run P w = .ok (.tuple #[tmps.getD t undef, tmps.getD u undef, tmps.getD v undef]) w := by
  simp [results, h]
theorem told_add {σ : St} {g : Frm} (h : ∀ f ∈ σ.forms, Told (toFm f)) (hg : Told (toFm g)) : ∀ f ∈ (addF g σ).forms, Told (toFm f) := by
  intro f hf
  unfold addF at hf
  split at hf
  · rcases List.mem_append.1 hf with hf | hf
    · exact h f hf
    · rw [List.mem_singleton.1 hf]; exact hg
  · rename_i b _
    rcases List.mem_append.1 hf with hf | hf
    · obtain ⟨i, hi⟩ := List.getElem?_of_mem hf
      rw [List.getElem?_modify] at hi
      cases hx : σ.forms[i]? with
      | none => rw [hx] at hi; simp at hi
      | some f0 =>
        rw [hx] at hi
        have h0 := h f0 (List.mem_of_getElem? hx)
        by_cases hb : b = i
        · simp [hb] at hi
          rw [← hi]
          exact h0
        · simp [hb] at hi
          rw [← hi]
          exact h0
    · rw [List.mem_singleton.1 hf]; exact hg
/-- A token that is one of a text. -/
def TokOk (t : Tok) : Prop := (t.k = 3 → kindW t.s = 3) ∧ (t.k = 4 → In64 t.n) ∧ t.s.size ≤ 3000
theorem told_form {t : Tok} (h : TokOk t) (hk : t.k = 1 ∨ t.k = 3 ∨ t.k = 4) : Told (toFm (formOf t)) := by
  unfold formOf
  rcases hk with h1 | h3 | h4
  · rw [if_pos h1]; exact .inl rfl
  · rw [if_neg (by omega), if_pos h3]; exact .inr (.inl ⟨rfl, h.1 h3⟩)
  · rw [if_neg (by omega), if_neg (by omega)]; exact .inr (.inr ⟨rfl, h.2.1 h4⟩)
theorem told_step {σ σ' : St} {t : Tok} (h : ∀ f ∈ σ.forms, Told (toFm f)) (ht : TokOk t) (he : step σ t = .ok σ') : ∀ f ∈ σ'.forms, Told (toFm f) := by
  unfold step at he
  split at he
  · split at he
    · cases he
    · cases he; exact h
  · split at he
    · rename_i h1
      split at he
      · cases he
      · split at he
        · cases he
        · cases he; exact told_add h (told_form ht (.inl h1))
    · split at he
      · rename_i h34
        split at he
        · cases he
        · cases he; exact told_add h (told_form ht (.inr h34))
      · cases he; exact h
theorem told_steps : ∀ (l : List Tok) (σ σ' : St), (∀ f ∈ σ.forms, Told (toFm f)) → (∀ t ∈ l, TokOk t) → steps l σ = .ok σ' → ∀ f ∈ σ'.forms, Told (toFm f)
  | [], σ, σ', h, _, he => by unfold steps at he; cases he; exact h
  | t :: r, σ, σ', h, ht, he => by
    unfold steps at he
    cases hs : step σ t with
    | error e => rw [hs] at he; cases he
    | ok σ1 => rw [hs] at he; exact told_steps r σ1 σ' (told_step h (ht t (by simp)) hs) (fun x hx => ht x (by simp [hx])) he
theorem told_parse {l : List Tok} {σ : St} (ht : ∀ t ∈ l, TokOk t) (h : parse l = .ok σ) : ∀ f ∈ σ.forms, Told (toFm f) := by
  unfold parse at h
  cases hs : steps l begin0 with
  | error e => rw [hs] at h; cases h
  | ok σ1 =>
    rw [hs] at h
    simp only at h
    unfold finish at h
    split at h
    · cases h
      exact told_steps l begin0 _ (by simp [begin0]) ht hs
    · cases h
theorem bad_none : ∀ (c : Nat) (l : List Piece), c ≤ 600 → bad c l = none → c + l.length ≤ 600 ∧ ∀ q ∈ l, kindP q.2 ≠ 0
  | c, [], hc, _ => ⟨by simpa using hc, by simp⟩
  | c, q :: r, hc, h => by
    unfold bad at h
    split at h
    · cases h
    · split at h
      · cases h
      · rename_i h0 h6
        obtain ⟨h1, h2⟩ := bad_none (c + 1) r (by omega) h
        refine ⟨by simp only [List.length_cons]; omega, fun x hx => ?_⟩
        rcases List.mem_cons.1 hx with rfl | hx
        · exact h0
        · exact h2 x hx
theorem run_sub {t : Txt} : ∀ (r : Txt) (p : Nat) (b : Option Nat) (k : Bool), ∀ q ∈ run t p b k r, q.2.length ≤ t.length + 1 := by
  intro r
  have hw : ∀ (p : Nat) (b : Option Nat), ∀ q ∈ word t p b, q.2.length ≤ t.length + 1 := by
    intro p b q hq
    cases b with
    | none => simp [word] at hq
    | some b => simp [word] at hq; subst hq; simp only [List.length_take, List.length_drop]; omega
  induction r with
  | nil =>
    intro p b k q hq
    cases k <;> exact hw p b q (by simpa [run] using hq)
  | cons c r ih =>
    intro p b k q hq
    cases k with
    | true =>
      simp only [run] at hq
      split at hq <;> exact ih _ _ _ q hq
    | false =>
      simp only [run] at hq
      split at hq
      · rcases List.mem_append.1 hq with h | h
        · exact hw p b q h
        · exact ih _ _ _ q h
      · split at hq
        · rcases List.mem_append.1 hq with h | h
          · exact hw p b q h
          · rcases List.mem_cons.1 h with rfl | h
            · simp
            · exact ih _ _ _ q h
        · split at hq
          · rcases List.mem_append.1 hq with h | h
            · exact hw p b q h
            · exact ih _ _ _ q h
          · exact ih _ _ _ q hq
theorem lex_ok {s : ByteArray} (h : s.size ≤ 2000) : (lexRes s).1.length ≤ 600 ∧ ∀ t ∈ (lexRes s).1, TokOk t := by
  unfold lexRes
  rw [if_neg (by omega)]
  split
  · simp
  · rename_i hb
    obtain ⟨h1, h2⟩ := bad_none 0 _ (by omega) hb
    refine ⟨by simpa using h1, fun t ht => ?_⟩
    obtain ⟨q, hq, rfl⟩ := List.mem_map.1 ht
    have hl := run_sub _ _ _ _ q hq
    have hsz : s.data.toList.length = s.size := by rw [Array.length_toList]; rfl
    refine ⟨fun h3 => ?_, fun h4 => ?_, ?_⟩
    · have h3' : kindP q.2 = 3 := h3
      unfold kindP at h3'
      split at h3'
      · simp at h3'
      · split at h3'
        · simp at h3'
        · exact h3'
    · have h4' : kindP q.2 = 4 := h4
      show In64 (numP q.2)
      unfold numP
      rw [if_pos h4']
      unfold kindP at h4'
      split at h4'
      · simp at h4'
      · split at h4'
        · simp at h4'
        · unfold kindW at h4'
          split at h4'
          · rename_i hn; exact (numV_in hn).1
          · split at h4' <;> simp at h4'
    · show (bytesOf q.2).size ≤ 3000
      rw [bytes_size]
      omega
/-- The forms of a text; none: there are none. -/
noncomputable def readR (s : ByteArray) : Option St := if (lexRes s).2.2 = 0 then (match parse (lexRes s).1 with | .ok σ => some σ | .error _ => none) else none
def ReadPost (s : ByteArray) (w : World) (e : Ending) (w' : World) : Prop :=
  match readR s with
  | none => (∃ fv tv, e = .returned (.tuple #[fv, tv, .bool false])) ∧ Below w.heap.size w w'
  | some σ => ∃ fv tv, e = .returned (.tuple #[fv, tv, .bool true]) ∧ SeesF w' fv σ.forms ∧ SeesC w' tv σ.top.length 1 (ints σ.top) ∧ Below w.heap.size w w'
set_option maxHeartbeats 1000000 in
theorem read8_any (s : ByteArray) (h : s.size ≤ 2000) (w : World) : Calls Tryd.prog 7 #[.string s] w fun e w' => ReadPost s w e w' := by
  have CT := hidI (rtoks_any s w)
  have hlen := (lex_ok h).1
  have CP := hidI fun (v : Value) (y : World) (hv : SeesC y v (lexRes s).1.length 4 (flatT (lexRes s).1)) => rtparse_any (lexRes s).1 v y hv (by omega)
  have HR : Hid (readR s = if (lexRes s).2.2 = 0 then (match parse (lexRes s).1 with | .ok σ => some σ | .error _ => none) else none) := hidI rfl
  unfold ReadPost
  rw [HR.out]
  obtain ⟨lr, hlr⟩ : ∃ lr, lexRes s = lr := ⟨_, rfl⟩
  have HT : Hid (∀ v w', RTPost s w v w' → ∃ u, v = .tuple #[u, .int .i64 lr.2.1, .int .i64 lr.2.2] ∧ SeesC w' u lr.1.length 4 (flatT lr.1) ∧ Below w.heap.size w w') := hidI fun v w' hp => by rw [← hlr]; exact hp
  rw [hlr] at CP ⊢
  clear hlr hlen h HR
  by_cases h0 : lr.2.2 = 0
  · rw [if_pos h0]
    rw [h0] at HT
    cases hp : parse lr.1 with
    | error q =>
      rw [hp] at CP
      have hq := tparse_err hp
      have hne : (q.2 == 0) = false := by rcases hq with h | h <;> rw [h] <;> rfl
      have hne2 : ¬ q.2 = 0 := by rcases hq with h | h <;> rw [h] <;> decide
      clear hp hq h0
      go_enter Tryd.func7, Tryd.ntmps7
      go_wp2_with (go_at_call 16; refine CT.out.mono ?_; rintro e w1 ⟨v, rfl, hv⟩; obtain ⟨u, rfl, hu, hb1⟩ := HT.out _ _ hv; have HU := hidI hu; have HB1 := hidI hb1; clear hv hu hb1; refine Hid.out ?_)
      refine hidI ?_
      go_wp2_with (go_at_call 17; refine (CP.out _ _ HU.out).mono ?_; rintro e w2 ⟨rfl, hb2⟩; have HB2 := hidI (HB1.out.trans (hb2.mono HB1.out.size)); clear hb2)
      refine bodyPost_ret (results_3t rfl _ _ _) rfl ?_
      exact ⟨⟨_, _, rfl⟩, HB2.out⟩
    | ok σ =>
      rw [hp] at CP
      clear hp h0
      go_enter Tryd.func7, Tryd.ntmps7
      go_wp2_with (go_at_call 16; refine CT.out.mono ?_; rintro e w1 ⟨v, rfl, hv⟩; obtain ⟨u, rfl, hu, hb1⟩ := HT.out _ _ hv; have HU := hidI hu; have HB1 := hidI hb1; clear hv hu hb1; refine Hid.out ?_)
      refine hidI ?_
      go_wp2_with (go_at_call 17; refine (CP.out _ _ HU.out).mono ?_; rintro e w2 ⟨fv, tv, rfl, hf, ht, hb2⟩; have HF := hidI hf; have HTt := hidI ht; have HB2 := hidI (HB1.out.trans (hb2.mono HB1.out.size)); clear hf ht hb2)
      refine bodyPost_ret (results_3t rfl _ _ _) rfl ?_
      exact ⟨_, _, rfl, HF.out, HTt.out, HB2.out⟩
  · rw [if_neg h0]
    have hne : (lr.2.2 == 0) = false := by simp [h0]
    go_enter Tryd.func7, Tryd.ntmps7
    go_wp2_with (go_at_call 16; refine CT.out.mono ?_; rintro e w1 ⟨v, rfl, hv⟩; obtain ⟨u, rfl, hu, hb1⟩ := HT.out _ _ hv; have HB1 := hidI hb1; clear hv hu hb1)
    refine bodyPost_ret (results_3t rfl _ _ _) rfl ?_
    exact ⟨⟨_, _, rfl⟩, HB1.out⟩
end Go.Proofs.YtpfgohlicfcaeabDoor
/-
  ShowLines: Print has a line for each uppermost form; Pretty has no fewer, and no more than there are forms.
-/
namespace Go.Proofs.YtpfgohlicfcaeabDoor
open Go.RowKit Go.Deep Go.MapKept Go.Shelf
theorem cut_string (s : ByteArray) (j : Nat) (h : j ≤ s.size) (w : World) : (Instr.slice 9 (.string s) none (some (.int .i64 (j : Int))) none).run Tryd.prog w = .ok (.string (bytesOf (s.data.toList.take j))) w := by
  rw [run_slice_string_to_if w 9 s .i64 _ Tryd.underlying9, if_pos (by omega)]
  congr 2
  apply ByteArray.ext
  simp only [bytesOf, ByteArray.data_extract]
  apply Array.toList_inj.1
  rw [Array.toList_extract, List.extract_eq_take_drop, Int.toNat_natCast]
  simp
theorem parse_good {l : List Tok} {σ : St} (h : parse l = .ok σ) : Good σ := by
  unfold parse at h
  cases hs : steps l begin0 with
  | error e => rw [hs] at h; cases h
  | ok σ1 =>
    rw [hs] at h
    simp only at h
    unfold finish at h
    split at h
    · cases h; exact steps_good_at hs
    · cases h
/-- What the forms of a text are, for all that follows. -/
structure Rd (T : List Tok) (σ : St) (lv : List Nat) : Prop where
  shape : Shape σ lv
  low : ∀ x ∈ lv, x ≤ 12
  cnt : Cnt T σ
  good : Good σ
  small : ∀ t ∈ T, t.s.size ≤ 140737488355328
  named : T.all nmT = true
  told : ∀ f ∈ σ.forms, Told (toFm f)
theorem rd_of {s : ByteArray} {σ : St} (h : s.size ≤ 2000) (hr : readR s = some σ) : ∃ lv, Rd (lexRes s).1 σ lv := by
  unfold readR at hr
  split at hr
  · split at hr
    · rename_i σ' hp
      cases hr
      obtain ⟨lv, h1, h2, h3, _⟩ := shape_parse hp
      have ho := (lex_ok h).2
      refine ⟨lv, h1, h2, h3, parse_good hp, fun t ht => by have := (ho t ht).2.2; omega, ?_, told_parse ho hp⟩
      rw [List.all_eq_true]
      intro t ht
      unfold nmT
      by_cases hk : t.k = 3
      · simp [hk, (ho t ht).1 hk]
      · simp [hk]
    · cases hr
  · cases hr
section
variable {T : List Tok} {σ : St} {lv : List Nat} (h : Rd T σ lv) {ms : List MV} (hms : ms.map Prod.fst = σ.forms.map toFm)
include h hms
theorem Rd.right {fv tv : Value} {w : World} (hL : Laid w) (hm : SeesM w fv ms) (ht : SeesC w tv (castI σ.top).length 1 (intsI (castI σ.top))) : RightC fv tv true w := fun W hb => by
  have := right_parsed h.shape h.low h.cnt h.good h.small hms fv tv W (hL.on hb) (hm.below hb (Nat.le_refl _)) (ht.below hb (Nat.le_refl _))
  rw [h.named] at this
  exact this
theorem Rd.tellable : Tellable ms := by
  have hlen := len_same hms
  refine ⟨fun i x hx hk c hc => ?_, fun x hx => ?_, fun x hx => ?_⟩
  · obtain ⟨f, hf, e⟩ := fm_at hms hx
    rw [e] at hc
    simp only [toFm, List.mem_map] at hc
    obtain ⟨n, hn, rfl⟩ := hc
    obtain ⟨h1, h2, _⟩ := h.shape.lk i f n hf hn
    omega
  · obtain ⟨i, hi⟩ := List.getElem?_of_mem hx
    obtain ⟨f, hf, e⟩ := fm_at hms hi
    rw [e]
    have hfm := h.shape.form i f hf
    rcases hfm.is with ⟨_, _, hn⟩ | ⟨_, hn, _⟩ | ⟨h4, _, _⟩
    · show In64 f.n; rw [hn]; unfold In64; omega
    · show In64 f.n; rw [hn]; unfold In64; omega
    · rcases h.told f (List.mem_of_getElem? hf) with t1 | ⟨t3, _⟩ | ⟨_, t4⟩
      · simp only [toFm] at t1; omega
      · simp only [toFm] at t3; omega
      · exact t4
  · obtain ⟨i, hi⟩ := List.getElem?_of_mem hx
    obtain ⟨f, hf, e⟩ := fm_at hms hi
    have := h.good.kid_len f (List.mem_of_getElem? hf)
    have := h.good.len
    rw [e]; simp [toFm]; omega
theorem Rd.tops : ∀ t ∈ castI σ.top, 0 ≤ t ∧ t < (ms.length : Int) := by
  have hlen := len_same hms
  intro t ht
  simp only [castI, List.mem_map] at ht
  obtain ⟨n, hn, rfl⟩ := ht
  have : ∀ {K : Nat → List Nat} {lo hi : Nat} {l : List Nat}, Seg K lo hi l → ∀ p ∈ l, p < hi := fun hs => by
    induction hs with
    | nil => simp
    | cons h1 h2 ih1 ih2 =>
      intro p hp
      have l1 := h1.le
      have l2 := h2.le
      rcases List.mem_cons.1 hp with rfl | hp
      · omega
      · exact ih2 p hp
  have := this h.shape.seg n hn
  omega
end
set_option maxRecDepth 100000 in
set_option maxHeartbeats 2400000 in
theorem showLines_law (s : ByteArray) (w : World) (hL : Laid w) : Calls Tryd.prog 4 #[.string s] w fun e w' => e = .returned (.bool true) ∧ Below w.heap.size w w' := by
  have HL := hidI hL
  clear hL
  have ql : ∀ w, (Builtin.len_ #[9] 3 #[.string s]).run Tryd.prog w = .ok (.int .i64 (s.size : Int)) w := fun w => by rw [run_len_string w 9 3 s Tryd.underlying9]; rfl
  by_cases hc : 700 < s.size
  · have qs : ∀ w, (Instr.slice 9 (.string s) none (some (.int .i64 700)) none).run Tryd.prog w = .ok (.string (bytesOf (s.data.toList.take 700))) w := fun w => by exact cut_string s 700 (by omega) w
    obtain ⟨s1, hs1⟩ : ∃ s1, bytesOf (s.data.toList.take 700) = s1 := ⟨_, rfl⟩
    have h7 : s1.size ≤ 2000 := by rw [← hs1, bytes_size, List.length_take]; omega
    rw [hs1] at qs
    have e1 : (700 : Int) < (s.size : Int) := by omega
    obtain ⟨n, hn⟩ : ∃ n, s.size = n := ⟨_, rfl⟩
    rw [hn] at ql e1
    clear hs1 hn hc
    cases hr : readR s1 with
    | none =>
      have CR0 := read8_any s1 h7 w
      unfold ReadPost at CR0
      rw [hr] at CR0
      have CR := hidI CR0
      clear CR0 hr
      go_enter Tryd.func4, Tryd.ntmps4
      go_wp2_with (first
        | (go_at_call 7; refine CR.out.mono ?_; rintro e w1 ⟨⟨fv, tv, rfl⟩, hb1⟩; have HB1 := hidI hb1; clear hb1)
        | (go_at_call 8; refine (live8_any _ (HL.out.on HB1.out)).mono ?_; rintro e w2 ⟨rfl, hb2⟩; have HB2 := hidI (HB1.out.trans (hb2.mono HB1.out.size)); clear hb2))
      go_ret
      exact ⟨rfl, HB2.out⟩
    | some σ =>
      have CR0 := read8_any s1 h7 w
      unfold ReadPost at CR0
      rw [hr] at CR0
      have CR := hidI CR0
      obtain ⟨lv, hrd⟩ := rd_of h7 hr
      have HRd := hidI hrd
      clear CR0 hr hrd
      go_enter Tryd.func4, Tryd.ntmps4
      go_wp2_with (go_at_call 7; refine CR.out.mono ?_; rintro e w1 ⟨fv, tv, rfl, hf, ht, hb1⟩; have HF := hidI hf; have HT0 := hidI ht; have HB1 := hidI hb1; clear hf ht hb1 CR; refine Hid.out ?_)
      refine hidI ?_
      obtain ⟨ms, hms, hsm, hrm⟩ := seesM_of HF.out
      have hti : SeesC w1 tv (castI σ.top).length 1 (intsI (castI σ.top)) := sees_ints HT0.out
      have hlen := len_same hms
      have h4 := HRd.out.good.len
      have htl := HRd.out.good.top_len
      have hct : (castI σ.top).length = σ.top.length := by simp [castI]
      obtain ⟨_, fa, fc, hfv, _⟩ := hsm.row
      obtain ⟨_, ta, tc, htv, _⟩ := id hti
      rw [hct] at htv
      rw [hlen] at hfv
      subst hfv
      subst htv
      have hfo : formsOf ms = σ.forms.map toFm := hms
      have hlB := len_prn HRd.out.shape HRd.out.told h4 gapB (fun ks n d _ => len_gapB ks n d)
      have hlL := len_prn HRd.out.shape HRd.out.told h4 (gapL (σ.forms.map toFm)) (fun ks n d hd => len_gapL _ ks n d hd)
      have CP : Hid (∀ y, Below w1.heap.size w1 y → Calls Tryd.prog 9 #[.slice fa σ.forms.length fc, .slice ta σ.top.length tc] y fun e w' => e = .returned (.tuple #[.string ⟨(prn (σ.forms.map toFm) gapB (castI σ.top)).toArray⟩, .int .i64 0]) ∧ Below y.heap.size y w') := hidI fun y hy => by
        have := print_any _ _ ms (castI σ.top) y (hsm.below hy (Nat.le_refl _)) (hti.below hy (Nat.le_refl _)) ((HRd.out.right hms (HL.out.on HB1.out) hsm hti).on hy) (HRd.out.tellable hms) (by omega) ((HL.out.on HB1.out).tab.on hy) (HRd.out.tops hms) (by omega) (by rw [hfo]; omega)
        rw [hfo] at this
        exact this
      have CQ : Hid (∀ y, Below w1.heap.size w1 y → Calls Tryd.prog 10 #[.slice fa σ.forms.length fc, .slice ta σ.top.length tc] y fun e w' => e = .returned (.tuple #[.string ⟨(prn (σ.forms.map toFm) (gapL (σ.forms.map toFm)) (castI σ.top)).toArray⟩, .int .i64 0]) ∧ Below y.heap.size y w') := hidI fun y hy => by
        have := pretty_any _ _ ms (castI σ.top) y (hsm.below hy (Nat.le_refl _)) (hti.below hy (Nat.le_refl _)) ((HRd.out.right hms (HL.out.on HB1.out) hsm hti).on hy) (HRd.out.tellable hms) (by omega) ((HL.out.on HB1.out).tab.on hy) (HRd.out.tops hms) (by omega) (by rw [hfo]; omega) hrm
        rw [hfo] at this
        exact this
      have hnB := nl_prnB (fs := σ.forms.map toFm) (fun f hf => by obtain ⟨g, hg, rfl⟩ := List.mem_map.1 hf; exact HRd.out.told g hg) (castI σ.top)
      have hnL := nl_prnL HRd.out.shape HRd.out.told
      rw [hct] at hnB
      obtain ⟨PB, hPB⟩ : ∃ PB, prn (σ.forms.map toFm) gapB (castI σ.top) = PB := ⟨_, rfl⟩
      obtain ⟨PL, hPL⟩ : ∃ PL, prn (σ.forms.map toFm) (gapL (σ.forms.map toFm)) (castI σ.top) = PL := ⟨_, rfl⟩
      rw [hPB] at CP hnB hlB
      rw [hPL] at CQ hnL hlL
      have hcB := fun y => count_any ⟨PB.toArray⟩ (by simp; omega) y
      have hcL := fun y => count_any ⟨PL.toArray⟩ (by simp; omega) y
      have e1 : (⟨PB.toArray⟩ : ByteArray).data.toList = PB := by simp
      have e2 : (⟨PL.toArray⟩ : ByteArray).data.toList = PL := by simp
      rw [e1, hnB] at hcB
      rw [e2] at hcL
      have CB := hidI hcB
      have CL := hidI hcL
      obtain ⟨M, hM⟩ : ∃ M, nl PL = M := ⟨_, rfl⟩
      rw [hM] at CL hnL
      have HSM := hidI hsm
      have HMS := hidI hms
      have HLen := hidI hlen
      obtain ⟨K, hK⟩ : ∃ K, σ.top.length = K := ⟨_, rfl⟩
      obtain ⟨N, hN⟩ : ∃ N, σ.forms.length = N := ⟨_, rfl⟩
      have HNf := hidI hN
      rw [hK] at CB CP CQ hnL htl ⊢
      rw [hN] at CP CQ hnL h4 htl HSM HLen ⊢
      obtain ⟨hm1, hm2⟩ := hnL
      clear hlB hlL hcB hcL e1 e2 hnB hPB hPL hM hsm hms hti hfo hct hlen hK hN hrm HF HT0
      go_wp2_with (go_at_call 9; refine (CP.out _ (Below.refl _ _)).mono ?_; rintro e w2 ⟨rfl, hb2⟩; have HB2 := hidI hb2; clear hb2 CP; refine Hid.out ?_)
      refine hidI ?_
      go_wp2_with (go_at_call 10; refine (CQ.out _ HB2.out).mono ?_; rintro e w3 ⟨rfl, hb3⟩; have HB3 := hidI (HB2.out.trans (hb3.mono HB2.out.size)); clear hb3 CQ; refine Hid.out ?_)
      refine hidI ?_
      go_wp2
      go_loopg [10, 11] N (fun g s10 s11 wx => ∃ i c : Nat, i + g = N ∧ s11 = .int .i64 (i : Int) ∧ s10 = .int .i64 (c : Int) ∧ c ≤ i ∧ w3 = wx)
      case atStart => exact ⟨0, 0, by omega, rfl, rfl, by omega, rfl⟩
      case round =>
        obtain ⟨i, c, hi, rfl, rfl, hci, rfl⟩ := hrel
        cases gk with
        | succ g =>
          have hil : i < ms.length := by rw [HLen.out]; omega
          obtain ⟨x, hx⟩ : ∃ x, ms[i]? = some x := ⟨_, List.getElem?_eq_getElem hil⟩
          obtain ⟨fb, fo, fc', ka, kc, hfv, _, y0, _, _, _, _⟩ := (HSM.out.below HB3.out (Nat.le_refl _)).load hx
          rw [HLen.out] at hfv
          cases hfv
          have i1 : (i : Int) < (N : Int) := by omega
          have i2 : (0 : Int) ≤ (i : Int) := by omega
          have i3 : ((i : Int)).toNat = i := by omega
          have wc : IntKind.i64.wrap ((c : Int) + 1) = (c : Int) + 1 := by rw [IntKind.wrap_i64]; omega
          clear hx hil
          by_cases hk1 : x.1.k = 1
          · rw [hk1] at y0
            go_wp2
            go_roundg g
            case measure => omega
            case rel => exact ⟨i + 1, c + 1, by omega, by go_num, by go_num, by omega, rfl⟩
          · have q1 : (x.1.k == 1) = false := by simp [hk1]
            go_wp2
            go_roundg g
            case measure => omega
            case rel => exact ⟨i + 1, c, by omega, by go_num, rfl, by omega, rfl⟩
        | zero =>
          have hin : i = N := by omega
          have i1 : ¬ ((i : Int) < (N : Int)) := by omega
          have wK : IntKind.i64.wrap ((K : Int) + 1) = (K : Int) + 1 := by rw [IntKind.wrap_i64]; omega
          have wN : IntKind.i64.wrap ((N : Int) + 1) = (N : Int) + 1 := by rw [IntKind.wrap_i64]; omega
          have g1 : (K : Int) + 1 ≤ (M : Int) + 1 := by omega
          have g2 : (M : Int) + 1 ≤ (N : Int) + 1 := by omega
          have g3 : (c : Int) ≤ (N : Int) := by omega
          have g4 : (K : Int) ≤ (M : Int) := by omega
          have g5 : (M : Int) ≤ (N : Int) := by omega
          clear hin hi hci
          have HW : Hid (Below w.heap.size w w3) := hidI (HB1.out.trans (HB3.out.mono HB1.out.size))
          go_wp2_with (go_at_call 8; refine (live8_any _ (HL.out.on HW.out)).mono ?_; rintro e w4 ⟨rfl, hb4⟩; have HB4 := hidI (HW.out.trans (hb4.mono HW.out.size)); clear hb4; refine Hid.out ?_)
          refine hidI ?_
          go_wp2_with (go_at_call 12; refine (CB.out _).mono ?_; rintro e w5 ⟨rfl, rfl⟩; refine Hid.out ?_)
          refine hidI ?_
          clear CB
          go_wp2_with (go_at_call 12; refine (CL.out _).mono ?_; rintro e w5 ⟨rfl, rfl⟩)
          go_ret
          exact ⟨rfl, HB4.out⟩
  · obtain ⟨s1, hs1⟩ : ∃ s1, s = s1 := ⟨_, rfl⟩
    subst hs1
    have h7 : s.size ≤ 2000 := by omega
    have e1 : ¬ (700 : Int) < (s.size : Int) := by omega
    obtain ⟨n, hn⟩ : ∃ n, s.size = n := ⟨_, rfl⟩
    rw [hn] at ql e1
    clear hn hc
    cases hr : readR s with
    | none =>
      have CR0 := read8_any s h7 w
      unfold ReadPost at CR0
      rw [hr] at CR0
      have CR := hidI CR0
      clear CR0 hr
      go_enter Tryd.func4, Tryd.ntmps4
      go_wp2_with (first
        | (go_at_call 7; refine CR.out.mono ?_; rintro e w1 ⟨⟨fv, tv, rfl⟩, hb1⟩; have HB1 := hidI hb1; clear hb1)
        | (go_at_call 8; refine (live8_any _ (HL.out.on HB1.out)).mono ?_; rintro e w2 ⟨rfl, hb2⟩; have HB2 := hidI (HB1.out.trans (hb2.mono HB1.out.size)); clear hb2))
      go_ret
      exact ⟨rfl, HB2.out⟩
    | some σ =>
      have CR0 := read8_any s h7 w
      unfold ReadPost at CR0
      rw [hr] at CR0
      have CR := hidI CR0
      obtain ⟨lv, hrd⟩ := rd_of h7 hr
      have HRd := hidI hrd
      clear CR0 hr hrd
      go_enter Tryd.func4, Tryd.ntmps4
      go_wp2_with (go_at_call 7; refine CR.out.mono ?_; rintro e w1 ⟨fv, tv, rfl, hf, ht, hb1⟩; have HF := hidI hf; have HT0 := hidI ht; have HB1 := hidI hb1; clear hf ht hb1 CR; refine Hid.out ?_)
      refine hidI ?_
      obtain ⟨ms, hms, hsm, hrm⟩ := seesM_of HF.out
      have hti : SeesC w1 tv (castI σ.top).length 1 (intsI (castI σ.top)) := sees_ints HT0.out
      have hlen := len_same hms
      have h4 := HRd.out.good.len
      have htl := HRd.out.good.top_len
      have hct : (castI σ.top).length = σ.top.length := by simp [castI]
      obtain ⟨_, fa, fc, hfv, _⟩ := hsm.row
      obtain ⟨_, ta, tc, htv, _⟩ := id hti
      rw [hct] at htv
      rw [hlen] at hfv
      subst hfv
      subst htv
      have hfo : formsOf ms = σ.forms.map toFm := hms
      have hlB := len_prn HRd.out.shape HRd.out.told h4 gapB (fun ks n d _ => len_gapB ks n d)
      have hlL := len_prn HRd.out.shape HRd.out.told h4 (gapL (σ.forms.map toFm)) (fun ks n d hd => len_gapL _ ks n d hd)
      have CP : Hid (∀ y, Below w1.heap.size w1 y → Calls Tryd.prog 9 #[.slice fa σ.forms.length fc, .slice ta σ.top.length tc] y fun e w' => e = .returned (.tuple #[.string ⟨(prn (σ.forms.map toFm) gapB (castI σ.top)).toArray⟩, .int .i64 0]) ∧ Below y.heap.size y w') := hidI fun y hy => by
        have := print_any _ _ ms (castI σ.top) y (hsm.below hy (Nat.le_refl _)) (hti.below hy (Nat.le_refl _)) ((HRd.out.right hms (HL.out.on HB1.out) hsm hti).on hy) (HRd.out.tellable hms) (by omega) ((HL.out.on HB1.out).tab.on hy) (HRd.out.tops hms) (by omega) (by rw [hfo]; omega)
        rw [hfo] at this
        exact this
      have CQ : Hid (∀ y, Below w1.heap.size w1 y → Calls Tryd.prog 10 #[.slice fa σ.forms.length fc, .slice ta σ.top.length tc] y fun e w' => e = .returned (.tuple #[.string ⟨(prn (σ.forms.map toFm) (gapL (σ.forms.map toFm)) (castI σ.top)).toArray⟩, .int .i64 0]) ∧ Below y.heap.size y w') := hidI fun y hy => by
        have := pretty_any _ _ ms (castI σ.top) y (hsm.below hy (Nat.le_refl _)) (hti.below hy (Nat.le_refl _)) ((HRd.out.right hms (HL.out.on HB1.out) hsm hti).on hy) (HRd.out.tellable hms) (by omega) ((HL.out.on HB1.out).tab.on hy) (HRd.out.tops hms) (by omega) (by rw [hfo]; omega) hrm
        rw [hfo] at this
        exact this
      have hnB := nl_prnB (fs := σ.forms.map toFm) (fun f hf => by obtain ⟨g, hg, rfl⟩ := List.mem_map.1 hf; exact HRd.out.told g hg) (castI σ.top)
      have hnL := nl_prnL HRd.out.shape HRd.out.told
      rw [hct] at hnB
      obtain ⟨PB, hPB⟩ : ∃ PB, prn (σ.forms.map toFm) gapB (castI σ.top) = PB := ⟨_, rfl⟩
      obtain ⟨PL, hPL⟩ : ∃ PL, prn (σ.forms.map toFm) (gapL (σ.forms.map toFm)) (castI σ.top) = PL := ⟨_, rfl⟩
      rw [hPB] at CP hnB hlB
      rw [hPL] at CQ hnL hlL
      have hcB := fun y => count_any ⟨PB.toArray⟩ (by simp; omega) y
      have hcL := fun y => count_any ⟨PL.toArray⟩ (by simp; omega) y
      have e1 : (⟨PB.toArray⟩ : ByteArray).data.toList = PB := by simp
      have e2 : (⟨PL.toArray⟩ : ByteArray).data.toList = PL := by simp
      rw [e1, hnB] at hcB
      rw [e2] at hcL
      have CB := hidI hcB
      have CL := hidI hcL
      obtain ⟨M, hM⟩ : ∃ M, nl PL = M := ⟨_, rfl⟩
      rw [hM] at CL hnL
      have HSM := hidI hsm
      have HMS := hidI hms
      have HLen := hidI hlen
      obtain ⟨K, hK⟩ : ∃ K, σ.top.length = K := ⟨_, rfl⟩
      obtain ⟨N, hN⟩ : ∃ N, σ.forms.length = N := ⟨_, rfl⟩
      have HNf := hidI hN
      rw [hK] at CB CP CQ hnL htl ⊢
      rw [hN] at CP CQ hnL h4 htl HSM HLen ⊢
      obtain ⟨hm1, hm2⟩ := hnL
      clear hlB hlL hcB hcL e1 e2 hnB hPB hPL hM hsm hms hti hfo hct hlen hK hN hrm HF HT0
      go_wp2_with (go_at_call 9; refine (CP.out _ (Below.refl _ _)).mono ?_; rintro e w2 ⟨rfl, hb2⟩; have HB2 := hidI hb2; clear hb2 CP; refine Hid.out ?_)
      refine hidI ?_
      go_wp2_with (go_at_call 10; refine (CQ.out _ HB2.out).mono ?_; rintro e w3 ⟨rfl, hb3⟩; have HB3 := hidI (HB2.out.trans (hb3.mono HB2.out.size)); clear hb3 CQ; refine Hid.out ?_)
      refine hidI ?_
      go_wp2
      go_loopg [10, 11] N (fun g s0 s1 wx => ∃ i c : Nat, i + g = N ∧ s1 = .int .i64 (i : Int) ∧ s0 = .int .i64 (c : Int) ∧ c ≤ i ∧ w3 = wx)
      case atStart => exact ⟨0, 0, by omega, rfl, rfl, by omega, rfl⟩
      case round =>
        obtain ⟨i, c, hi, rfl, rfl, hci, rfl⟩ := hrel
        cases gk with
        | succ g =>
          have hil : i < ms.length := by rw [HLen.out]; omega
          obtain ⟨x, hx⟩ : ∃ x, ms[i]? = some x := ⟨_, List.getElem?_eq_getElem hil⟩
          obtain ⟨fb, fo, fc', ka, kc, hfv, _, y0, _, _, _, _⟩ := (HSM.out.below HB3.out (Nat.le_refl _)).load hx
          rw [HLen.out] at hfv
          cases hfv
          have i1 : (i : Int) < (N : Int) := by omega
          have i2 : (0 : Int) ≤ (i : Int) := by omega
          have i3 : ((i : Int)).toNat = i := by omega
          have wc : IntKind.i64.wrap ((c : Int) + 1) = (c : Int) + 1 := by rw [IntKind.wrap_i64]; omega
          clear hx hil
          by_cases hk1 : x.1.k = 1
          · rw [hk1] at y0
            go_wp2
            go_roundg g
            case measure => omega
            case rel => exact ⟨i + 1, c + 1, by omega, by go_num, by go_num, by omega, rfl⟩
          · have q1 : (x.1.k == 1) = false := by simp [hk1]
            go_wp2
            go_roundg g
            case measure => omega
            case rel => exact ⟨i + 1, c, by omega, by go_num, rfl, by omega, rfl⟩
        | zero =>
          have hin : i = N := by omega
          have i1 : ¬ ((i : Int) < (N : Int)) := by omega
          have wK : IntKind.i64.wrap ((K : Int) + 1) = (K : Int) + 1 := by rw [IntKind.wrap_i64]; omega
          have wN : IntKind.i64.wrap ((N : Int) + 1) = (N : Int) + 1 := by rw [IntKind.wrap_i64]; omega
          have g1 : (K : Int) + 1 ≤ (M : Int) + 1 := by omega
          have g2 : (M : Int) + 1 ≤ (N : Int) + 1 := by omega
          have g3 : (c : Int) ≤ (N : Int) := by omega
          have g4 : (K : Int) ≤ (M : Int) := by omega
          have g5 : (M : Int) ≤ (N : Int) := by omega
          clear hin hi hci
          have HW : Hid (Below w.heap.size w w3) := hidI (HB1.out.trans (HB3.out.mono HB1.out.size))
          go_wp2_with (go_at_call 8; refine (live8_any _ (HL.out.on HW.out)).mono ?_; rintro e w4 ⟨rfl, hb4⟩; have HB4 := hidI (HW.out.trans (hb4.mono HW.out.size)); clear hb4; refine Hid.out ?_)
          refine hidI ?_
          go_wp2_with (go_at_call 12; refine (CB.out _).mono ?_; rintro e w5 ⟨rfl, rfl⟩; refine Hid.out ?_)
          refine hidI ?_
          clear CB
          go_wp2_with (go_at_call 12; refine (CL.out _).mono ?_; rintro e w5 ⟨rfl, rfl⟩)
          go_ret
          exact ⟨rfl, HB4.out⟩
end Go.Proofs.YtpfgohlicfcaeabDoor
