/-
  What the program's Parse comes to.
-/
import Derived.Test.YtmihhebcchpmcaaGreatDoorReadW
namespace Go.Proofs.YtmihhebcchpmcaaGreatDoor
open Go.RowKit Go.Deep Go.MapKept
theorem results_four {fn : Func} {t u v x : Tmp} (h : fn.results = #[.tmp t, .tmp u, .tmp v, .tmp x]) (tmps : Array Value) (P : Program) (w : World) :
    (results fn tmps).run P w = .ok (.tuple #[tmps.getD t undef, tmps.getD u undef, tmps.getD v undef, tmps.getD x undef]) w := by
  simp [results, h]
/-- A slice has room for what it tells. -/
def Roomy (v : Value) : Prop := ∃ a n c, v = .slice a n c ∧ n ≤ c
theorem roomy_of {w : World} {base e size n : Nat} {v : Value} {xs : List Value} (h : w.ownsRow base e size v n xs) : Roomy v := by
  rcases h.2 with ⟨rfl, rfl⟩ | ⟨g, cap, cur, rfl, r⟩
  · exact ⟨_, _, _, rfl, Nat.le_refl _⟩
  · exact ⟨_, _, _, rfl, r.2.2.1⟩
def SeesF (w : World) (v : Value) (l : List Frm) : Prop :=
  ∃ fs : List FV, fs.map Prod.fst = l ∧ SeesC w v fs.length 5 (flatF fs) ∧ ∀ (i : Nat) (x : FV), fs[i]? = some x → SeesC w x.2 x.1.kids.length 1 (ints x.1.kids) ∧ Roomy x.2
theorem SeesF.below {w w' : World} {v : Value} {l : List Frm} (h : SeesF w v l) (hb : Below w.heap.size w w') : SeesF w' v l := by
  obtain ⟨fs, h1, h2, h3⟩ := h
  exact ⟨fs, h1, h2.below hb (Nat.le_refl _), fun i x hx => ⟨(h3 i x hx).1.below hb (Nat.le_refl _), (h3 i x hx).2⟩⟩
theorem step_err {σ : St} {t : Tok} {q : Int × Int} (h : step σ t = .error q) : q.2 = 4 ∨ q.2 = 8 := by
  unfold step at h
  split at h
  · split at h
    · cases h; exact .inr rfl
    · cases h
  · split at h
    · split at h
      · cases h; exact .inl rfl
      · split at h
        · cases h; exact .inl rfl
        · cases h
    · split at h
      · split at h
        · cases h; exact .inl rfl
        · cases h
      · cases h
theorem steps_err : ∀ (l : List Tok) (σ : St) (q : Int × Int), steps l σ = .error q → q.2 = 4 ∨ q.2 = 8
  | [], _, _, h => by cases h
  | t :: r, σ, q, h => by
    unfold steps at h
    cases hs : step σ t with
    | error e => rw [hs] at h; cases h; exact step_err hs
    | ok σ' => rw [hs] at h; exact steps_err r σ' q h
theorem tparse_err {l : List Tok} {q : Int × Int} (h : parse l = .error q) : q.2 = 4 ∨ q.2 = 8 := by
  unfold parse at h
  cases hs : steps l begin0 with
  | error e => rw [hs] at h; cases h; exact steps_err _ _ _ hs
  | ok σ =>
    rw [hs] at h
    simp only at h
    unfold finish at h
    split at h
    · cases h
    · cases h; exact .inr rfl
def PRes (w : World) (r : Except (Int × Int) St) (e : Ending) (w' : World) : Prop :=
  match r with
  | .error q => e = .returned (.tuple #[.slice none 0 0, .slice none 0 0, .int .i64 q.1, .int .i64 q.2]) ∧ Below w.heap.size w w'
  | .ok σ => ∃ fv tv, e = .returned (.tuple #[fv, tv, .int .i64 0, .int .i64 0]) ∧ SeesF w' fv σ.forms ∧ SeesC w' tv σ.top.length 1 (ints σ.top) ∧ Below w.heap.size w w'
end Go.Proofs.YtmihhebcchpmcaaGreatDoor
