/-
  Forms as they are read, with kids that are any numbers; the walk through them.
-/
import Derived.Test.YtmihhebcchpmcaaGreatDoorPParse
namespace Go.Proofs.YtmihhebcchpmcaaGreatDoor
open Go.RowKit Go.Deep Go.MapKept
/-- A form, whose kids are any numbers. -/
structure Fm where
  k : Int
  s : ByteArray
  n : Int
  kids : List Int
  p : Int
abbrev MV := Fm × Value
def mcells (x : MV) : List Value := [.int .u8 x.1.k, .string x.1.s, .int .i64 x.1.n, x.2, .int .i64 x.1.p]
def flatM (l : List MV) : List Value := l.flatMap mcells
theorem flatM_length : ∀ l : List MV, (flatM l).length = l.length * 5
  | [] => rfl
  | x :: r => by simp only [flatM, List.flatMap_cons, List.length_append, List.length_cons, mcells, List.length_nil]; have := flatM_length r; unfold flatM at this; omega
theorem flatM_get : ∀ (l : List MV) (j i : Nat) (x : MV), l[j]? = some x → i < 5 → (flatM l)[j * 5 + i]? = (mcells x)[i]?
  | [], _, _, _, h, _ => by simp at h
  | y :: r, 0, i, x, h, hi => by
    obtain rfl : y = x := by simpa using h
    simp only [flatM, List.flatMap_cons, Nat.zero_mul, Nat.zero_add]
    rw [List.getElem?_append_left (by simpa [mcells] using hi)]
  | y :: r, j + 1, i, x, h, hi => by
    have := flatM_get r j i x (by simpa using h) hi
    rw [← this]
    simp only [flatM, List.flatMap_cons]
    rw [List.getElem?_append_right (by simp [mcells]; omega)]
    congr 1
    simp [mcells]; omega
def intsI (l : List Int) : List Value := l.map fun n => Value.int .i64 n
theorem intsI_get {l : List Int} {j : Nat} {x : Int} (h : l[j]? = some x) : (intsI l)[j]? = some (.int .i64 x) := by simp [intsI, h]
/-- Forms that lie somewhere: the slice tells ms. -/
structure SeesM (w : World) (v : Value) (ms : List MV) : Prop where
  row : SeesC w v ms.length 5 (flatM ms)
  kid : ∀ (i : Nat) (x : MV), ms[i]? = some x → SeesC w x.2 x.1.kids.length 1 (intsI x.1.kids)
theorem SeesM.below {w w' : World} {v : Value} {ms : List MV} {B : Nat} (h : SeesM w v ms) (hb : Below B w w') (hB : w.heap.size ≤ B) : SeesM w' v ms :=
  ⟨h.row.below hb hB, fun i x hx => (h.kid i x hx).below hb hB⟩
def toFm (f : Frm) : Fm := ⟨f.k, f.s, f.n, f.kids.map fun (n : Nat) => (n : Int), f.p⟩
theorem seesM_of {w : World} {v : Value} {l : List Frm} (h : SeesF w v l) : ∃ ms : List MV, ms.map Prod.fst = l.map toFm ∧ SeesM w v ms ∧ ∀ x ∈ ms, Roomy x.2 := by
  obtain ⟨fs, rfl, h1, h2⟩ := h
  have e1 : flatM (fs.map fun x => (toFm x.1, x.2)) = flatF fs := by
    unfold flatM flatF
    rw [List.flatMap_map]
    rfl
  refine ⟨fs.map fun x => (toFm x.1, x.2), by simp, ⟨?_, ?_⟩, fun x hx => ?_⟩
  · rw [e1, List.length_map]; exact h1
  · intro i x hx
    rw [List.getElem?_map] at hx
    cases hf : fs[i]? with
    | none => rw [hf] at hx; simp at hx
    | some y =>
      rw [hf] at hx
      simp only [Option.map_some, Option.some.injEq] at hx
      subst hx
      have := (h2 i y hf).1
      have e2 : intsI (toFm y.1).kids = ints y.1.kids := by simp [intsI, ints, toFm]
      show SeesC w y.2 (toFm y.1).kids.length 1 (intsI (toFm y.1).kids)
      rw [e2]
      simpa [toFm] using this
  · obtain ⟨y, hy, rfl⟩ := List.mem_map.1 hx
    obtain ⟨i, hi⟩ := List.getElem?_of_mem hy
    exact (h2 i y hi).2
def kidsOf (ms : List MV) (p : Int) : List Int := match ms[p.toNat]? with | some x => x.1.kids | none => []
/-- The walk: so many were told ahead; in the form of number up, which stands at own; places. What is told, how many then, and whether it goes on. -/
inductive WalkR (K : Int → List Int) (n : Int) : Int → Int → Int → List Int → Int → List (Int × Int) → Bool → Prop
  | done (told up own : Int) : WalkR K n told up own [] told [] true
  | skip {told up own p t' : Int} {r : List Int} {ys : List (Int × Int)} {ok : Bool} : (¬ (own < p ∧ p < n)) → WalkR K n told up own r t' ys ok → WalkR K n told up own (p :: r) t' ys ok
  | full {told up own p : Int} {r : List Int} : own < p → p < n → 400 < told → WalkR K n told up own (p :: r) told [] false
  | cut {told up own p t' : Int} {r : List Int} {ys : List (Int × Int)} : own < p → p < n → told ≤ 400 → WalkR K n (told + 1) told p (K p) t' ys false → WalkR K n told up own (p :: r) t' ((up, p) :: ys) false
  | more {told up own p t1 t' : Int} {r : List Int} {ys1 ys2 : List (Int × Int)} {ok : Bool} : own < p → p < n → told ≤ 400 → WalkR K n (told + 1) told p (K p) t1 ys1 true → WalkR K n t1 up own r t' ys2 ok → WalkR K n told up own (p :: r) t' ((up, p) :: (ys1 ++ ys2)) ok
theorem WalkR.told {K : Int → List Int} {n told up own t' : Int} {l : List Int} {ys : List (Int × Int)} {ok : Bool} (h : WalkR K n told up own l t' ys ok) : t' = told + ys.length := by
  induction h with
  | done => simp
  | skip _ _ ih => exact ih
  | full => simp
  | cut _ _ _ _ ih => rw [ih]; simp; omega
  | more _ _ _ _ _ ih1 ih2 => rw [ih2, ih1]; simp; omega
theorem WalkR.most {K : Int → List Int} {n told up own t' : Int} {l : List Int} {ys : List (Int × Int)} {ok : Bool} (h : WalkR K n told up own l t' ys ok) (h0 : told ≤ 401) : t' ≤ 401 := by
  induction h with
  | done => exact h0
  | skip _ _ ih => exact ih h0
  | full => exact h0
  | cut _ _ h4 _ ih => exact ih (by omega)
  | more _ _ h4 _ _ ih1 ih2 => exact ih2 (ih1 (by omega))
theorem walk_is (K : Int → List Int) (n : Int) : ∀ (m : Nat) (told up own : Int) (l : List Int), (n - own).toNat ≤ m → ∃ t' ys ok, WalkR K n told up own l t' ys ok := by
  intro m
  induction m with
  | zero =>
    intro told up own l hm
    induction l generalizing told with
    | nil => exact ⟨_, _, _, .done _ _ _⟩
    | cons p r ih =>
      obtain ⟨t', ys, ok, h⟩ := ih told
      exact ⟨t', ys, ok, .skip (by omega) h⟩
  | succ m IH =>
    intro told up own l hm
    induction l generalizing told with
    | nil => exact ⟨_, _, _, .done _ _ _⟩
    | cons p r ih =>
      by_cases hp : own < p ∧ p < n
      · by_cases ht : 400 < told
        · exact ⟨_, _, _, .full hp.1 hp.2 ht⟩
        · obtain ⟨t1, ys1, ok1, h1⟩ := IH (told + 1) told p (K p) (by omega)
          cases ok1 with
          | false => exact ⟨_, _, _, .cut hp.1 hp.2 (by omega) h1⟩
          | true =>
            obtain ⟨t2, ys2, ok2, h2⟩ := ih t1
            exact ⟨_, _, _, .more hp.1 hp.2 (by omega) h1 h2⟩
      · obtain ⟨t', ys, ok, h⟩ := ih told
        exact ⟨t', ys, ok, .skip hp h⟩
end Go.Proofs.YtmihhebcchpmcaaGreatDoor
