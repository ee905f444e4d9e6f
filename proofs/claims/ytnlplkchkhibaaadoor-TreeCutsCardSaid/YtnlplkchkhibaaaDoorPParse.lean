/-
  What the program's Parse comes to.
-/
import Derived.Test.YtnlplkchkhibaaaDoorReadW
namespace Go.Proofs.YtnlplkchkhibaaaDoor
open Go.RowKit Go.Deep Go.MapKept
theorem results_four {fn : Func} {t u v x : Tmp} (h : fn.results = #[.tmp t, .tmp u, .tmp v, .tmp x]) (tmps : Array Value) (P : Program) (w : World) :
    (results fn tmps).run P w = .ok (.tuple #[tmps.getD t undef, tmps.getD u undef, tmps.getD v undef, tmps.getD x undef]) w := by
  simp [results, h]
/-- A slice of forms, as it is read. -/
def SeesF (w : World) (v : Value) (l : List Frm) : Prop :=
  ∃ fs : List FV, fs.map Prod.fst = l ∧ SeesC w v fs.length 5 (flatF fs) ∧ ∀ (i : Nat) (x : FV), fs[i]? = some x → SeesC w x.2 x.1.kids.length 1 (ints x.1.kids)
theorem SeesF.below {w w' : World} {v : Value} {l : List Frm} (h : SeesF w v l) (hb : Below w.heap.size w w') : SeesF w' v l := by
  obtain ⟨fs, h1, h2, h3⟩ := h
  exact ⟨fs, h1, h2.below hb (Nat.le_refl _), fun i x hx => (h3 i x hx).below hb (Nat.le_refl _)⟩
theorem RD.sees {w : World} {base B : Nat} {fs : List FV} {top opn : List Nat} {fv tv ov : Value} (h : RD w base B fs top opn fv tv ov) : SeesF w fv (fs.map Prod.fst) :=
  ⟨fs, rfl, seesC_of_owns h.fo, fun _ _ hx => seesC_of_owns (h.ko hx)⟩
theorem step_err {σ : St} {t : Tok} {q : Int × Int} (h : step σ t = .error q) : q.2 = 4 ∨ q.2 = 8 := by
  unfold step at h
  split at h
  · split at h
    · cases h; exact .inr rfl
    · cases h
  · split at h
    · split at h
      · cases h; exact .inl rfl
      · split at h
        · cases h; exact .inl rfl
        · cases h
    · split at h
      · split at h
        · cases h; exact .inl rfl
        · cases h
      · cases h
theorem steps_err : ∀ (l : List Tok) (σ : St) (q : Int × Int), steps l σ = .error q → q.2 = 4 ∨ q.2 = 8
  | [], _, _, h => by cases h
  | t :: r, σ, q, h => by
    unfold steps at h
    cases hs : step σ t with
    | error e => rw [hs] at h; cases h; exact step_err hs
    | ok σ' => rw [hs] at h; exact steps_err r σ' q h
theorem tparse_err {l : List Tok} {q : Int × Int} (h : parse l = .error q) : q.2 = 4 ∨ q.2 = 8 := by
  unfold parse at h
  cases hs : steps l begin0 with
  | error e => rw [hs] at h; cases h; exact steps_err _ _ _ hs
  | ok σ =>
    rw [hs] at h
    simp only at h
    unfold finish at h
    split at h
    · cases h
    · cases h; exact .inr rfl
def PRes (w : World) (r : Except (Int × Int) St) (e : Ending) (w' : World) : Prop :=
  match r with
  | .error q => e = .returned (.tuple #[.slice none 0 0, .slice none 0 0, .int .i64 q.1, .int .i64 q.2]) ∧ Below w.heap.size w w'
  | .ok σ => ∃ fv tv, e = .returned (.tuple #[fv, tv, .int .i64 0, .int .i64 0]) ∧ SeesF w' fv σ.forms ∧ SeesC w' tv σ.top.length 1 (ints σ.top) ∧ Below w.heap.size w w'
set_option maxHeartbeats 1000000 in
theorem tparse_any (ts : List Tok) (v : Value) (w : World) (hv : SeesC w v ts.length 4 (flatT ts)) (hs : ∀ t ∈ ts, t.s.size ≤ 140737488355328) (hl : ts.length ≤ 100000) :
    Calls Tryd.prog 9 #[v] w fun e w' => PRes w (parse ts) e w' := by
  have HR := hidI (read_any ts v w hv hs hl)
  clear hv hs hl
  cases hp : parse ts with
  | error q =>
    have hq := tparse_err hp
    rw [hp] at HR
    have hne : (q.2 == 0) = false := by rcases hq with h | h <;> rw [h] <;> rfl
    have hne2 : ¬ q.2 = 0 := by rcases hq with h | h <;> rw [h] <;> decide
    clear hp hq
    go_enter Tryd.func9, Tryd.ntmps9
    go_wp2_with (go_at_call 27; refine HR.out.mono ?_; intro e w1 hres; obtain ⟨fv, tv, ov, ⟨a1, n1, c1, rfl⟩, ⟨a2, n2, c2, rfl⟩, ⟨a3, n3, c3, rfl⟩, rfl, hb1⟩ := hres; clear HR)
    go_quiet (fail)
    generalize nq = n9
    go_wp2
    refine bodyPost_ret (results_four rfl _ _ _) rfl ?_
    have hB : Below w1.heap.size w1 (((w1.alloc (.cells #[.slice a1 n1 c1, .slice a2 n2 c2, .slice a3 n3 c3] 57)).alloc (.cells #[.int .i64 q.1, .int .i64 q.2] 59)).drewN n9) := ⟨rfl, rfl, rfl, by simp; omega, fun k hk => by show ((w1.alloc _).alloc _).heap[k]? = _; rw [Below.heap_alloc _ _ _ (by simp; omega), Below.heap_alloc _ _ _ hk]⟩
    exact ⟨rfl, hb1.trans (hB.mono hb1.size)⟩
  | ok σ =>
    rw [hp] at HR
    clear hp
    go_enter Tryd.func9, Tryd.ntmps9
    go_wp2_with (go_at_call 27; refine HR.out.mono ?_; intro e w1 hres; obtain ⟨fs, top, opn, fv, tv, ov, rfl, hR1, hσ, hb1⟩ := hres; obtain ⟨a1, n1, c1, rfl⟩ := own_sl hR1.fo; obtain ⟨a2, n2, c2, rfl⟩ := own_sl hR1.to; obtain ⟨a3, n3, c3, rfl⟩ := own_sl hR1.oo; have HR1 := hidI hR1; have HS := hidI hσ; clear HR hR1 hσ)
    go_quiet (fail)
    generalize nq = n9
    go_wp2
    refine bodyPost_ret (results_four rfl _ _ _) rfl ?_
    have hB : Below w1.heap.size w1 (((w1.alloc (.cells #[.slice a1 n1 c1, .slice a2 n2 c2, .slice a3 n3 c3] 57)).alloc (.cells #[.int .i64 0, .int .i64 0] 59)).drewN n9) := ⟨rfl, rfl, rfl, by simp; omega, fun k hk => by show ((w1.alloc _).alloc _).heap[k]? = _; rw [Below.heap_alloc _ _ _ (by simp; omega), Below.heap_alloc _ _ _ hk]⟩
    refine ⟨_, _, rfl, ?_, ?_, hb1.trans (hB.mono hb1.size)⟩
    · rw [HS.out]; exact (HR1.out.sees).below hB
    · rw [HS.out]; exact (seesC_of_owns HR1.out.to).below hB (Nat.le_refl _)
end Go.Proofs.YtnlplkchkhibaaaDoor
