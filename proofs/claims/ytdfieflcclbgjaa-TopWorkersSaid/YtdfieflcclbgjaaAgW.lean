/-
  A sum of workers that takes numbers in: what it has taken, in any order, is its whole.
-/
import Derived.Test.YtdfieflcclbgjaaAgM
namespace Go.Proofs.Ytdfieflcclbgjaa
open Go.RowKit Go.Deep Go.MapKept
def nrmW (o : Nat) (z : Int) : Int := if o = 16 ∨ o = 17 then z % 2 else z
def DW (o : Nat) (z : Int) : Prop := if o = 16 ∨ o = 17 then z = 0 ∨ z = 1 else In64 z
theorem nrmW_in {o : Nat} {z : Int} (h : In64 z) : DW o (nrmW o z) := by
  unfold DW nrmW
  split
  · omega
  · exact h
theorem groupsW {o : Nat} (h : many5 o) : Groups o (DW o) ∧ Neutral o (DW o) := by
  rcases h with rfl | rfl | rfl | rfl | rfl
  · exact groups_of (.inl rfl)
  · exact groups_of (.inr (.inl rfl))
  · exact groups_of (.inr (.inr rfl))
  · exact ⟨groups_and, neutral_and⟩
  · exact ⟨groups_or, neutral_or⟩
theorem whole_eq {o n : Nat} {ps : List Int} {rows : List (List Int)} {ws : List Int} (ho : many5 o) (h : Parts o n ps rows) (hp : rows.flatten.Perm ws) (hw : ∀ z ∈ ws, DW o z) (k : Nat) : wholeP o n ps k = partR o ws := by
  rw [h.whole k, whole_all (groupsW ho).1 (groupsW ho).2 (by have := h.2.1; have := h.2.2.1; omega) (fun r hr z hz => hw z (hp.mem_iff.1 (List.mem_flatten.2 ⟨r, hr, hz⟩))) k, fold_same o _ hp]
  rfl
theorem flatten_set {rows : List (List Int)} {wk : Nat} {row : List Int} (h : rows[wk]? = some row) (z : Int) : (rows.set wk (row ++ [z])).flatten.Perm (rows.flatten ++ [z]) := by
  induction rows generalizing wk with
  | nil => simp at h
  | cons r rest ih =>
    cases wk with
    | zero =>
      simp at h
      subst h
      simp only [List.set_cons_zero, List.flatten_cons, List.append_assoc]
      exact List.perm_append_left_iff .. |>.2 List.perm_append_comm
    | succ wk =>
      simp only [List.set_cons_succ, List.flatten_cons, List.append_assoc]
      exact (ih (by simpa using h)).append_left r
def TwPost (w : World) (p o n : Nat) (c : Int) (ws : List Int) (e : Ending) (w' : World) : Prop := e = .returned (.int .i64 0) ∧ (∃ ps rows, PAg w' p o n c ps ∧ Parts o n ps rows ∧ rows.flatten.Perm ws) ∧ w.grownBy w' (some p)
theorem takew_any {w : World} {p o n : Nat} {c : Int} {ps : List Int} {rows : List (List Int)} {ws : List Int} (h : PAg w p o n c ps) (hP : Parts o n ps rows) (hw : rows.flatten.Perm ws) (ho : many5 o) (wk : Nat) (hk : wk < n) (z : Int) (hc : 0 ≤ c) (hs : c ≤ 1000) :
    Calls Try.prog 28 #[.pointer (some ⟨p, 0, none⟩), .int .i64 (wk : Int), .int .i64 z] w (TwPost w p o n (c + 1) (ws ++ [z])) := by
  obtain ⟨row, hr, hx⟩ := hP.get hk
  refine (ptake_any h ho wk _ z hk hx hc (by omega)).mono ?_
  rintro e w' ⟨rfl, ha, hg⟩
  exact ⟨rfl, ⟨_, _, ha, hP.take hr z, (flatten_set hr z).trans (hw.append_right [z])⟩, hg⟩
end Go.Proofs.Ytdfieflcclbgjaa
