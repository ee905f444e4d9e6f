/-
  Messages combined by workers, and then together, are all combined: mathematics alone.
-/
import Derived.Test.YtdfieflcclbgjaaOrdM
import Derived.Test.YtdfieflcclbgjaaMLaws3
namespace Go.Proofs.Ytdfieflcclbgjaa
open Go.RowKit
/-- The operations may be grouped however, at all numbers. -/
def Assoc (os : List Nat) : Prop := ∀ (i : Nat) (a b c : Int), opTwo (os.getD i 0) (opTwo (os.getD i 0) a b) c = opTwo (os.getD i 0) a (opTwo (os.getD i 0) b c)
theorem upd_tt (os : List Nat) (m u : Msg) : (updM os m u).to = u.to ∧ (updM os m u).tag = u.tag := by
  unfold updM
  split <;> exact ⟨rfl, rfl⟩
theorem like_updL (os : List Nat) (m u v : Msg) : likeM (updM os m u) v = likeM u v := by
  obtain ⟨h1, h2⟩ := upd_tt os m u
  unfold likeM
  rw [h1, h2]
theorem add_two {os : List Nat} (hA : Assoc os) (acc : List Msg) {m u : Msg} (h : likeM m u = true) : addM os (addM os acc u) m = addM os acc (updM os m u) := by
  have hs : ∀ v, likeM m v = likeM u v := fun v => like_same h v
  have hany : acc.any (likeM m) = acc.any (likeM u) := by congr 1; funext v; exact hs v
  have hany2 : acc.any (likeM (updM os m u)) = acc.any (likeM u) := by congr 1; funext v; exact like_updL os m u v
  obtain ⟨hk1, hk2⟩ := like_key h
  by_cases hu : acc.any (likeM u) = true
  · have e1 : addM os acc u = acc.map (updM os u) := by unfold addM; rw [if_pos hu]
    have e2 : addM os (acc.map (updM os u)) m = (acc.map (updM os u)).map (updM os m) := by unfold addM; rw [any_upd, hany, if_pos hu]
    have e3 : addM os acc (updM os m u) = acc.map (updM os (updM os m u)) := by unfold addM; rw [hany2, if_pos hu]
    rw [e1, e2, e3, List.map_map]
    refine List.map_congr_left fun v _ => ?_
    show updM os m (updM os u v) = updM os (updM os m u) v
    by_cases hv : likeM u v = true
    · have g1 : likeM m ⟨v.to, v.tag, opTwo (os.getD u.tag.toNat 0) v.val u.val⟩ = true := by rw [hs]; exact hv
      rw [upd_pos os hv, upd_pos os g1, upd_pos os (m := updM os m u) (by rw [like_updL]; exact hv), upd_pos os h]
      simp only [Msg.mk.injEq, true_and]
      rw [hk2]
      exact hA _ _ _ _
    · rw [upd_neg os hv, upd_neg os (by rw [hs]; exact hv), upd_neg os (by rw [like_updL]; exact hv)]
  · have e1 : addM os acc u = acc ++ [u] := by unfold addM; rw [if_neg hu]
    have e3 : addM os acc (updM os m u) = acc ++ [updM os m u] := by unfold addM; rw [hany2, if_neg hu]
    have nm : acc.map (updM os m) = acc := updM_none (by rw [hany]; simpa using hu)
    have e2 : addM os (acc ++ [u]) m = acc ++ [updM os m u] := by
      unfold addM
      rw [List.any_append, if_pos (by simp [h]), List.map_append, nm]
      rfl
    rw [e1, e2, e3]
theorem upd_fold {os : List Nat} (hA : Assoc os) (m : Msg) : ∀ (l acc : List Msg), Apart l → l.any (likeM m) = true → ((l.map (updM os m)).foldl (addM os) acc).Perm ((l ++ [m]).foldl (addM os) acc)
  | [], _, _, h => by simp at h
  | u :: r, acc, ha, h => by
    unfold Apart at ha
    rw [List.pairwise_cons] at ha
    by_cases hl : likeM m u = true
    · have hr : r.map (updM os m) = r := upd_skip os fun v hv => by rw [like_same hl]; exact ha.1 v hv
      rw [List.map_cons, hr, List.foldl_cons, ← add_two hA acc hl]
      have hp : (u :: m :: r).Perm (u :: r ++ [m]) := by
        rw [List.cons_append]
        exact (List.perm_append_singleton m r).symm.cons u
      have := comb_perm os hp (List.Perm.refl acc)
      rw [List.foldl_cons, List.foldl_cons] at this
      exact this
    · have e : updM os m u = u := upd_neg os hl
      have hany : r.any (likeM m) = true := by
        rw [List.any_cons] at h
        simpa [hl] using h
      rw [List.map_cons, e, List.foldl_cons, List.cons_append, List.foldl_cons]
      exact upd_fold hA m r _ ha.2 hany
theorem add_fold {os : List Nat} (hA : Assoc os) (m : Msg) (l acc : List Msg) (ha : Apart l) : ((addM os l m).foldl (addM os) acc).Perm ((l ++ [m]).foldl (addM os) acc) := by
  unfold addM
  split
  · rename_i h
    exact upd_fold hA m l acc ha h
  · exact List.Perm.refl _
theorem fold_fold {os : List Nat} (hA : Assoc os) : ∀ (xs l acc : List Msg), Apart l → ((xs.foldl (addM os) l).foldl (addM os) acc).Perm ((l ++ xs).foldl (addM os) acc)
  | [], l, acc, _ => by rw [List.foldl_nil, List.append_nil]
  | x :: r, l, acc, ha => by
    rw [List.foldl_cons]
    refine (fold_fold hA r (addM os l x) acc (addM_apart os ha x)).trans ?_
    rw [List.foldl_append, show l ++ x :: r = (l ++ [x]) ++ r by simp, List.foldl_append]
    exact comb_perm os (List.Perm.refl r) (add_fold hA x l acc ha)
/-- What parts are combined to, combined, is all combined. -/
theorem comb_parts {os : List Nat} (hA : Assoc os) (xs ys : List Msg) : (combM os (combM os xs ++ combM os ys)).Perm (combM os (xs ++ ys)) := by
  have h1 := fold_fold hA xs [] [] List.Pairwise.nil
  rw [List.nil_append] at h1
  unfold combM
  rw [List.foldl_append, List.foldl_append]
  refine (comb_perm os (List.Perm.refl _) h1).trans ?_
  have h2 := fold_fold hA ys [] (xs.foldl (addM os) []) List.Pairwise.nil
  rwa [List.nil_append] at h2
theorem comb_key {os : List Nat} {P : Int → Int → Prop} : ∀ (xs acc : List Msg), (∀ x ∈ acc, P x.to x.tag) → (∀ x ∈ xs, P x.to x.tag) → ∀ x ∈ xs.foldl (addM os) acc, P x.to x.tag
  | [], _, h, _ => h
  | y :: r, acc, h, hx => by
    rw [List.foldl_cons]
    refine comb_key r _ ?_ fun x hxr => hx x (by simp [hxr])
    intro x hxa
    unfold addM at hxa
    split at hxa
    · obtain ⟨v, hv, rfl⟩ := List.mem_map.1 hxa
      obtain ⟨e1, e2⟩ := upd_tt os y v
      rw [e1, e2]
      exact h v hv
    · rcases List.mem_append.1 hxa with hxa | hxa
      · exact h x hxa
      · rw [List.mem_singleton.1 hxa]
        exact hx y (by simp)
def ops2 : List Nat := [1, 7]
theorem assoc2 : Assoc ops2 := fun i a b c => by
  rcases i with _ | _ | i
  · show opTwo 1 (opTwo 1 a b) c = opTwo 1 a (opTwo 1 b c)
    exact groups_add.2 a b c trivial trivial trivial
  · show opTwo 7 (opTwo 7 a b) c = opTwo 7 a (opTwo 7 b c)
    exact groups_max.2 a b c trivial trivial trivial
  · have e : ops2.getD (i + 1 + 1) 0 = 0 := by simp [ops2, List.getD]
    rw [e]
    rfl
/-- A message as the law has it. -/
def nrw (x : Msg) : Msg := ⟨x.to, x.tag % 2, x.val⟩
/-- A node's number that is one of the language's, and a tag that is 0 or 1. -/
def Kt (t g : Int) : Prop := In64 t ∧ (g = 0 ∨ g = 1)
theorem nrw_kt {x : Msg} (h : In64 x.to) : Kt (nrw x).to (nrw x).tag := ⟨h, by simp only [nrw]; omega⟩
theorem kt_ok {x : Msg} (h : Kt x.to x.tag) : tagOk ops2 x = true ∧ opOk ops2 x = true := by
  rcases h.2 with h | h
  · simp [tagOk, opOk, ops2, h, redB]
  · simp [tagOk, opOk, ops2, h, redB]
theorem kt_in {x : Msg} (h : Kt x.to x.tag) : In64 x.to ∧ In64 x.tag := ⟨h.1, by rcases h.2 with h | h <;> (rw [h]; unfold In64; omega)⟩
theorem comb2 {ms : List Msg} (h : ∀ x ∈ ms, Kt x.to x.tag) : combRes ops2 ms = (sortM (combM ops2 ms), 0) := by
  have h1 : ms.all (tagOk ops2) = true := List.all_eq_true.2 fun x hx => (kt_ok (h x hx)).1
  have h2 : ms.all (opOk ops2) = true := List.all_eq_true.2 fun x hx => (kt_ok (h x hx)).2
  unfold combRes
  rw [if_neg (by simp [h1]), if_neg (by simp [h2])]
theorem kt_comb {ms : List Msg} (h : ∀ x ∈ ms, Kt x.to x.tag) : ∀ x ∈ sortM (combM ops2 ms), Kt x.to x.tag := fun x hx =>
  comb_key (P := Kt) ms [] (by simp) h x ((sortM_perm _).mem_iff.1 hx)
theorem workers_eq (A B ms : List Msg) (k : Nat) (h : (A ++ B).Perm ms) : sortM (combM ops2 (turnM k (sortM (combM ops2 B) ++ sortM (combM ops2 A)))) = sortM (combM ops2 ms) := by
  refine sortM_eq ?_
  have h1 : (turnM k (sortM (combM ops2 B) ++ sortM (combM ops2 A))).Perm (combM ops2 A ++ combM ops2 B) :=
    (turnM_perm k _).trans (((sortM_perm _).append (sortM_perm _)).trans List.perm_append_comm)
  exact (comb_perm ops2 h1 (List.Perm.refl _)).trans ((comb_parts assoc2 A B).trans (comb_perm ops2 h (List.Perm.refl _)))
end Go.Proofs.Ytdfieflcclbgjaa
