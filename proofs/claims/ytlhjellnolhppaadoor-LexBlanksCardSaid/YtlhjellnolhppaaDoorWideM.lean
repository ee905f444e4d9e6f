/-
  More signs between words: the pieces say the same.
-/
import Derived.Test.YtlhjellnolhppaaDoorPlaces
namespace Go.Proofs.YtlhjellnolhppaaDoor
/-- What the pieces say, with no places: b what the word says so far. -/
def runC : Option Txt → Bool → Txt → List Txt
  | b, _, [] => b.toList
  | _, true, c :: r => if c = 10 then runC none false r else runC none true r
  | b, false, c :: r =>
    if c = 59 then b.toList ++ runC none true r
    else if bracket c then b.toList ++ [c] :: runC none false r
    else if spaced c then b.toList ++ runC none false r
    else runC (some (b.getD [] ++ [c])) false r
def wsay (t : Txt) (p : Nat) (b : Option Nat) : Option Txt := b.map fun b' => (t.drop b').take (p - b')
theorem word_snd (t : Txt) (p : Nat) (b : Option Nat) : (word t p b).map Prod.snd = (wsay t p b).toList := by
  cases b <;> rfl
theorem run_snd (t : Txt) : ∀ (r : Txt) (p : Nat) (b : Option Nat) (k : Bool), t.drop p = r → (∀ b', b = some b' → b' ≤ p) → (run t p b k r).map Prod.snd = runC (wsay t p b) k r
  | [], p, b, k, _, _ => by simp only [run, runC, word_snd]
  | c :: r, p, b, true, hr, _ => by
    have hr' : t.drop (p + 1) = r := by rw [← List.drop_drop, hr]; rfl
    have ih := fun (k : Bool) => run_snd t r (p + 1) none k hr' (fun _ h => by cases h)
    simp only [run, runC]
    split
    · exact ih false
    · exact ih true
  | c :: r, p, b, false, hr, hb => by
    have hr' : t.drop (p + 1) = r := by rw [← List.drop_drop, hr]; rfl
    have ih := fun (k : Bool) => run_snd t r (p + 1) none k hr' (fun _ h => by cases h)
    simp only [run, runC]
    split
    · rw [List.map_append, word_snd, ih true]; rfl
    · split
      · rw [List.map_append, word_snd, List.map_cons, ih false]; rfl
      · split
        · rw [List.map_append, word_snd, ih false]; rfl
        · rw [run_snd t r (p + 1) (some (b.getD p)) false hr' (by
            rintro b' h
            cases h
            cases b with
            | none => simp
            | some b' => have := hb b' rfl; simp; omega)]
          congr 1
          have hc : t[p]? = some c := by
            have h1 : (t.drop p)[0]? = some c := by rw [hr]; rfl
            rw [List.getElem?_drop] at h1
            exact h1
          cases b with
          | none =>
            simp only [wsay, Option.getD_none, Option.map_some, Option.map_none, List.nil_append]
            rw [show p + 1 - p = 1 by omega, hr]
            rfl
          | some b' =>
            have hle := hb b' rfl
            simp only [wsay, Option.getD_some, Option.map_some]
            rw [show p + 1 - b' = (p - b') + 1 by omega, List.take_add_one, List.getElem?_drop, show b' + (p - b') = p by omega, hc]
            rfl
theorem pieces_snd (t : Txt) : (pieces t).map Prod.snd = runC none false t := run_snd t t 0 none false rfl (fun _ h => by cases h)
def wideB (c : UInt8) : Txt := if c = 32 then [9, 32, 32] else if c = 10 then [32, 59, 40, 120, 10, 10] else [c]
def wide (t : Txt) : Txt := t.flatMap wideB
theorem wide_cons (c : UInt8) (r : Txt) : wide (c :: r) = wideB c ++ wide r := by simp [wide]
theorem runC_wide : ∀ (r : Txt) (b : Option Txt) (k : Bool), runC b k (wide r) = runC b k r
  | [], _, _ => rfl
  | c :: r, b, k => by
    rw [wide_cons]
    have ih := runC_wide r
    by_cases h32 : c = 32
    · subst h32
      cases k <;> simp [wideB, runC, bracket, spaced, ih]
    · by_cases h10 : c = 10
      · subst h10
        cases k <;> simp [wideB, runC, bracket, spaced, ih]
      · have : wideB c = [c] := by simp [wideB, h32, h10]
        rw [this]
        cases k <;> simp only [List.cons_append, List.nil_append, runC, ih]
theorem pieces_wide (t : Txt) : (pieces (wide t)).map Prod.snd = (pieces t).map Prod.snd := by rw [pieces_snd, pieces_snd, runC_wide]
noncomputable def badE : Nat → List Txt → Option Int
  | _, [] => none
  | c, l :: r => if kindP l = 0 then some 8 else if c = 600 then some 4 else badE (c + 1) r
theorem bad_snd : ∀ (ps : List Piece) (c : Nat), (bad c ps).map Prod.snd = badE c (ps.map Prod.snd)
  | [], _ => rfl
  | q :: r, c => by
    simp only [bad, badE, List.map_cons]
    split
    · rfl
    · split
      · rfl
      · exact bad_snd r (c + 1)
theorem bad_wide (t : Txt) : (bad 0 (pieces (wide t))).map Prod.snd = (bad 0 (pieces t)).map Prod.snd := by rw [bad_snd, bad_snd, pieces_wide]
/-- What the tokens of a text and of the wider one have in common. -/
theorem lex_wide {s u : ByteArray} (hu : u.data.toList = wide s.data.toList) (h1 : s.size ≤ 3000) (h2 : u.size ≤ 3000) :
    ∃ (xs ys : List Tok) (p p' er : Int), lexRes s = (xs, p, er) ∧ lexRes u = (ys, p', er) ∧ xs.length = ys.length ∧ ∀ (i : Nat) (x y : Tok), xs[i]? = some x → ys[i]? = some y → x.k = y.k ∧ x.s = y.s ∧ x.n = y.n := by
  have hb := bad_wide s.data.toList
  have hp := pieces_wide s.data.toList
  unfold lexRes
  rw [if_neg (by omega), if_neg (by omega), hu]
  cases hA : bad 0 (pieces s.data.toList) with
  | none =>
    cases hB : bad 0 (pieces (wide s.data.toList)) with
    | none =>
      refine ⟨_, _, _, _, _, rfl, rfl, ?_, ?_⟩
      · have := congrArg List.length hp
        simpa using this.symm
      · intro i x y hx hy
        rw [List.getElem?_map] at hx hy
        obtain ⟨a, ha, rfl⟩ := Option.map_eq_some_iff.1 hx
        obtain ⟨b, hb', rfl⟩ := Option.map_eq_some_iff.1 hy
        have h3 := congrArg (fun l => l[i]?) hp
        simp only [List.getElem?_map, ha, hb', Option.map_some, Option.some.injEq] at h3
        simp only [tok, h3, and_self]
    | some pe => rw [hA, hB] at hb; cases hb
  | some pe =>
    cases hB : bad 0 (pieces (wide s.data.toList)) with
    | none => rw [hA, hB] at hb; cases hb
    | some pe' =>
      rw [hA, hB] at hb
      simp only [Option.map_some, Option.some.injEq] at hb
      refine ⟨[], [], pe.1, pe'.1, pe.2, rfl, ?_, rfl, ?_⟩
      · rw [← hb]
      · intro i x y hx; simp at hx
end Go.Proofs.YtlhjellnolhppaaDoor
