/-
  What is read of a text: forms that can be told.
-/
import Derived.Test.YtmihhebcchpmcaaGreatDoorPrn
import Derived.Test.YtmihhebcchpmcaaGreatDoorRToks
namespace Go.Proofs.YtmihhebcchpmcaaGreatDoor
open Go.RowKit Go.Deep Go.MapKept Go.Shelf
theorem results_3t {fn : Func} {t u v : Tmp} (h : fn.results = #[.tmp t, .tmp u, .tmp v]) (tmps : Array Value) (P : Program) (w : World) :
    (results fn tmps).run P w = .ok (.tuple #[tmps.getD t undef, tmps.getD u undef, tmps.getD v undef]) w := by
  simp [results, h]
theorem told_add {σ : St} {g : Frm} (h : ∀ f ∈ σ.forms, Told (toFm f)) (hg : Told (toFm g)) : ∀ f ∈ (addF g σ).forms, Told (toFm f) := by
  intro f hf
  unfold addF at hf
  split at hf
  · rcases List.mem_append.1 hf with hf | hf
    · exact h f hf
    · rw [List.mem_singleton.1 hf]; exact hg
  · rename_i b _
    rcases List.mem_append.1 hf with hf | hf
    · obtain ⟨i, hi⟩ := List.getElem?_of_mem hf
      rw [List.getElem?_modify] at hi
      cases hx : σ.forms[i]? with
      | none => rw [hx] at hi; simp at hi
      | some f0 =>
        rw [hx] at hi
        have h0 := h f0 (List.mem_of_getElem? hx)
        by_cases hb : b = i
        · simp [hb] at hi
          rw [← hi]
          exact h0
        · simp [hb] at hi
          rw [← hi]
          exact h0
    · rw [List.mem_singleton.1 hf]; exact hg
/-- A token that is one of a text. -/
def TokOk (t : Tok) : Prop := (t.k = 3 → kindW t.s = 3) ∧ (t.k = 4 → In64 t.n) ∧ t.s.size ≤ 3000
theorem told_form {t : Tok} (h : TokOk t) (hk : t.k = 1 ∨ t.k = 3 ∨ t.k = 4) : Told (toFm (formOf t)) := by
  unfold formOf
  rcases hk with h1 | h3 | h4
  · rw [if_pos h1]; exact .inl rfl
  · rw [if_neg (by omega), if_pos h3]; exact .inr (.inl ⟨rfl, h.1 h3⟩)
  · rw [if_neg (by omega), if_neg (by omega)]; exact .inr (.inr ⟨rfl, h.2.1 h4⟩)
theorem told_step {σ σ' : St} {t : Tok} (h : ∀ f ∈ σ.forms, Told (toFm f)) (ht : TokOk t) (he : step σ t = .ok σ') : ∀ f ∈ σ'.forms, Told (toFm f) := by
  unfold step at he
  split at he
  · split at he
    · cases he
    · cases he; exact h
  · split at he
    · rename_i h1
      split at he
      · cases he
      · split at he
        · cases he
        · cases he; exact told_add h (told_form ht (.inl h1))
    · split at he
      · rename_i h34
        split at he
        · cases he
        · cases he; exact told_add h (told_form ht (.inr h34))
      · cases he; exact h
theorem told_steps : ∀ (l : List Tok) (σ σ' : St), (∀ f ∈ σ.forms, Told (toFm f)) → (∀ t ∈ l, TokOk t) → steps l σ = .ok σ' → ∀ f ∈ σ'.forms, Told (toFm f)
  | [], σ, σ', h, _, he => by unfold steps at he; cases he; exact h
  | t :: r, σ, σ', h, ht, he => by
    unfold steps at he
    cases hs : step σ t with
    | error e => rw [hs] at he; cases he
    | ok σ1 => rw [hs] at he; exact told_steps r σ1 σ' (told_step h (ht t (by simp)) hs) (fun x hx => ht x (by simp [hx])) he
theorem told_parse {l : List Tok} {σ : St} (ht : ∀ t ∈ l, TokOk t) (h : parse l = .ok σ) : ∀ f ∈ σ.forms, Told (toFm f) := by
  unfold parse at h
  cases hs : steps l begin0 with
  | error e => rw [hs] at h; cases h
  | ok σ1 =>
    rw [hs] at h
    simp only at h
    unfold finish at h
    split at h
    · cases h
      exact told_steps l begin0 _ (by simp [begin0]) ht hs
    · cases h
theorem bad_none : ∀ (c : Nat) (l : List Piece), c ≤ 600 → bad c l = none → c + l.length ≤ 600 ∧ ∀ q ∈ l, kindP q.2 ≠ 0
  | c, [], hc, _ => ⟨by simpa using hc, by simp⟩
  | c, q :: r, hc, h => by
    unfold bad at h
    split at h
    · cases h
    · split at h
      · cases h
      · rename_i h0 h6
        obtain ⟨h1, h2⟩ := bad_none (c + 1) r (by omega) h
        refine ⟨by simp only [List.length_cons]; omega, fun x hx => ?_⟩
        rcases List.mem_cons.1 hx with rfl | hx
        · exact h0
        · exact h2 x hx
theorem run_sub {t : Txt} : ∀ (r : Txt) (p : Nat) (b : Option Nat) (k : Bool), ∀ q ∈ run t p b k r, q.2.length ≤ t.length + 1 := by
  intro r
  have hw : ∀ (p : Nat) (b : Option Nat), ∀ q ∈ word t p b, q.2.length ≤ t.length + 1 := by
    intro p b q hq
    cases b with
    | none => simp [word] at hq
    | some b => simp [word] at hq; subst hq; simp only [List.length_take, List.length_drop]; omega
  induction r with
  | nil =>
    intro p b k q hq
    cases k <;> exact hw p b q (by simpa [run] using hq)
  | cons c r ih =>
    intro p b k q hq
    cases k with
    | true =>
      simp only [run] at hq
      split at hq <;> exact ih _ _ _ q hq
    | false =>
      simp only [run] at hq
      split at hq
      · rcases List.mem_append.1 hq with h | h
        · exact hw p b q h
        · exact ih _ _ _ q h
      · split at hq
        · rcases List.mem_append.1 hq with h | h
          · exact hw p b q h
          · rcases List.mem_cons.1 h with rfl | h
            · simp
            · exact ih _ _ _ q h
        · split at hq
          · rcases List.mem_append.1 hq with h | h
            · exact hw p b q h
            · exact ih _ _ _ q h
          · exact ih _ _ _ q hq
theorem lex_ok {s : ByteArray} (h : s.size ≤ 2000) : (lexRes s).1.length ≤ 600 ∧ ∀ t ∈ (lexRes s).1, TokOk t := by
  unfold lexRes
  rw [if_neg (by omega)]
  split
  · simp
  · rename_i hb
    obtain ⟨h1, h2⟩ := bad_none 0 _ (by omega) hb
    refine ⟨by simpa using h1, fun t ht => ?_⟩
    obtain ⟨q, hq, rfl⟩ := List.mem_map.1 ht
    have hl := run_sub _ _ _ _ q hq
    have hsz : s.data.toList.length = s.size := by rw [Array.length_toList]; rfl
    refine ⟨fun h3 => ?_, fun h4 => ?_, ?_⟩
    · have h3' : kindP q.2 = 3 := h3
      unfold kindP at h3'
      split at h3'
      · simp at h3'
      · split at h3'
        · simp at h3'
        · exact h3'
    · have h4' : kindP q.2 = 4 := h4
      show In64 (numP q.2)
      unfold numP
      rw [if_pos h4']
      unfold kindP at h4'
      split at h4'
      · simp at h4'
      · split at h4'
        · simp at h4'
        · unfold kindW at h4'
          split at h4'
          · rename_i hn; exact (numV_in hn).1
          · split at h4' <;> simp at h4'
    · show (bytesOf q.2).size ≤ 3000
      rw [bytes_size]
      omega
/-- The forms of a text; none: there are none. -/
noncomputable def readR (s : ByteArray) : Option St := if (lexRes s).2.2 = 0 then (match parse (lexRes s).1 with | .ok σ => some σ | .error _ => none) else none
def ReadPost (s : ByteArray) (w : World) (e : Ending) (w' : World) : Prop :=
  match readR s with
  | none => (∃ fv tv, e = .returned (.tuple #[fv, tv, .bool false])) ∧ Below w.heap.size w w'
  | some σ => ∃ fv tv, e = .returned (.tuple #[fv, tv, .bool true]) ∧ SeesF w' fv σ.forms ∧ SeesC w' tv σ.top.length 1 (ints σ.top) ∧ Below w.heap.size w w'
end Go.Proofs.YtmihhebcchpmcaaGreatDoor
/-
  ShowLines: Print has a line for each uppermost form; Pretty has no fewer, and no more than there are forms.
-/
namespace Go.Proofs.YtmihhebcchpmcaaGreatDoor
open Go.RowKit Go.Deep Go.MapKept Go.Shelf
theorem cut_string (s : ByteArray) (j : Nat) (h : j ≤ s.size) (w : World) : (Instr.slice 9 (.string s) none (some (.int .i64 (j : Int))) none).run Tryz.prog w = .ok (.string (bytesOf (s.data.toList.take j))) w := by
  rw [run_slice_string_to_if w 9 s .i64 _ Tryz.underlying9, if_pos (by omega)]
  congr 2
  apply ByteArray.ext
  simp only [bytesOf, ByteArray.data_extract]
  apply Array.toList_inj.1
  rw [Array.toList_extract, List.extract_eq_take_drop, Int.toNat_natCast]
  simp
theorem parse_good {l : List Tok} {σ : St} (h : parse l = .ok σ) : Good σ := by
  unfold parse at h
  cases hs : steps l begin0 with
  | error e => rw [hs] at h; cases h
  | ok σ1 =>
    rw [hs] at h
    simp only at h
    unfold finish at h
    split at h
    · cases h; exact steps_good_at hs
    · cases h
/-- What the forms of a text are, for all that follows. -/
structure Rd (T : List Tok) (σ : St) (lv : List Nat) : Prop where
  shape : Shape σ lv
  low : ∀ x ∈ lv, x ≤ 12
  cnt : Cnt T σ
  good : Good σ
  small : ∀ t ∈ T, t.s.size ≤ 140737488355328
  named : T.all nmT = true
  told : ∀ f ∈ σ.forms, Told (toFm f)
theorem rd_of {s : ByteArray} {σ : St} (h : s.size ≤ 2000) (hr : readR s = some σ) : ∃ lv, Rd (lexRes s).1 σ lv := by
  unfold readR at hr
  split at hr
  · split at hr
    · rename_i σ' hp
      cases hr
      obtain ⟨lv, h1, h2, h3, _⟩ := shape_parse hp
      have ho := (lex_ok h).2
      refine ⟨lv, h1, h2, h3, parse_good hp, fun t ht => by have := (ho t ht).2.2; omega, ?_, told_parse ho hp⟩
      rw [List.all_eq_true]
      intro t ht
      unfold nmT
      by_cases hk : t.k = 3
      · simp [hk, (ho t ht).1 hk]
      · simp [hk]
    · cases hr
  · cases hr
section
variable {T : List Tok} {σ : St} {lv : List Nat} (h : Rd T σ lv) {ms : List MV} (hms : ms.map Prod.fst = σ.forms.map toFm)
include h hms
theorem Rd.right {fv tv : Value} {w : World} (hL : Laid w) (hm : SeesM w fv ms) (ht : SeesC w tv (castI σ.top).length 1 (intsI (castI σ.top))) : RightC fv tv true w := fun W hb => by
  have := right_parsed h.shape h.low h.cnt h.good h.small hms fv tv W (hL.on hb) (hm.below hb (Nat.le_refl _)) (ht.below hb (Nat.le_refl _))
  rw [h.named] at this
  exact this
theorem Rd.tellable : Tellable ms := by
  have hlen := len_same hms
  refine ⟨fun i x hx hk c hc => ?_, fun x hx => ?_, fun x hx => ?_⟩
  · obtain ⟨f, hf, e⟩ := fm_at hms hx
    rw [e] at hc
    simp only [toFm, List.mem_map] at hc
    obtain ⟨n, hn, rfl⟩ := hc
    obtain ⟨h1, h2, _⟩ := h.shape.lk i f n hf hn
    omega
  · obtain ⟨i, hi⟩ := List.getElem?_of_mem hx
    obtain ⟨f, hf, e⟩ := fm_at hms hi
    rw [e]
    have hfm := h.shape.form i f hf
    rcases hfm.is with ⟨_, _, hn⟩ | ⟨_, hn, _⟩ | ⟨h4, _, _⟩
    · show In64 f.n; rw [hn]; unfold In64; omega
    · show In64 f.n; rw [hn]; unfold In64; omega
    · rcases h.told f (List.mem_of_getElem? hf) with t1 | ⟨t3, _⟩ | ⟨_, t4⟩
      · simp only [toFm] at t1; omega
      · simp only [toFm] at t3; omega
      · exact t4
  · obtain ⟨i, hi⟩ := List.getElem?_of_mem hx
    obtain ⟨f, hf, e⟩ := fm_at hms hi
    have := h.good.kid_len f (List.mem_of_getElem? hf)
    have := h.good.len
    rw [e]; simp [toFm]; omega
theorem Rd.tops : ∀ t ∈ castI σ.top, 0 ≤ t ∧ t < (ms.length : Int) := by
  have hlen := len_same hms
  intro t ht
  simp only [castI, List.mem_map] at ht
  obtain ⟨n, hn, rfl⟩ := ht
  have : ∀ {K : Nat → List Nat} {lo hi : Nat} {l : List Nat}, Seg K lo hi l → ∀ p ∈ l, p < hi := fun hs => by
    induction hs with
    | nil => simp
    | cons h1 h2 ih1 ih2 =>
      intro p hp
      have l1 := h1.le
      have l2 := h2.le
      rcases List.mem_cons.1 hp with rfl | hp
      · omega
      · exact ih2 p hp
  have := this h.shape.seg n hn
  omega
end
end Go.Proofs.YtmihhebcchpmcaaGreatDoor
