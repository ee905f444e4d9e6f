/-
  Messages sorted: one after the other put among those ahead.
-/
import Derived.Test.YtdfieflcclbgjaaRSort
namespace Go.Proofs.Ytdfieflcclbgjaa
def placeM (out : List Msg) (x : Msg) : Nat := (out.takeWhile fun u => !bef x u).length
def insM (out : List Msg) (x : Msg) : List Msg := out.take (placeM out x) ++ [x] ++ out.drop (placeM out x)
def sortM (ms : List Msg) : List Msg := ms.foldl insM []
theorem placeM_le (out : List Msg) (x : Msg) : placeM out x ≤ out.length := (List.takeWhile_sublist _).length_le
theorem placeM_lt {out : List Msg} {x : Msg} : ∀ {i : Nat}, i < placeM out x → ∃ u, out[i]? = some u ∧ bef x u = false := by
  unfold placeM
  induction out with
  | nil => intro i h; simp at h
  | cons a r ih =>
    intro i h
    rw [List.takeWhile_cons] at h
    by_cases ha : bef x a = false
    · simp only [ha, Bool.not_false, if_true, List.length_cons] at h
      cases i with
      | zero => exact ⟨a, rfl, ha⟩
      | succ i => exact ih (by omega)
    · simp [ha] at h
theorem placeM_at {out : List Msg} {x u : Msg} : out[placeM out x]? = some u → bef x u = true := by
  unfold placeM
  induction out with
  | nil => intro h; simp at h
  | cons a r ih =>
    intro h
    rw [List.takeWhile_cons] at h
    by_cases ha : bef x a = false
    · simp only [ha, Bool.not_false, if_true, List.length_cons, List.getElem?_cons_succ] at h
      exact ih h
    · simp only [ha, Bool.not_true, Bool.false_eq_true, if_false, List.length_nil, List.getElem?_cons_zero, Option.some.injEq] at h
      rw [← h]; simpa using ha
theorem insM_length (out : List Msg) (x : Msg) : (insM out x).length = out.length + 1 := by
  have := placeM_le out x
  unfold insM
  simp only [List.length_append, List.length_take, List.length_drop, List.length_cons, List.length_nil]; omega
theorem sort_take_length (ms : List Msg) : ∀ acc : List Msg, (ms.foldl insM acc).length = acc.length + ms.length := by
  induction ms with
  | nil => intro acc; rfl
  | cons a r ih => intro acc; rw [List.foldl_cons, ih, insM_length, List.length_cons]; omega
theorem sortM_length (ms : List Msg) : (sortM ms).length = ms.length := by unfold sortM; rw [sort_take_length]; simp
end Go.Proofs.Ytdfieflcclbgjaa
