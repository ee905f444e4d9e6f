/-
  Messages sorted are the same whatever order they came in; messages in the order of a number are the messages, each once: mathematics alone.
-/
import Derived.Test.YtdfieflcclbgjaaRSortP
import Derived.Test.YtdfieflcclbgjaaTurnM
namespace Go.Proofs.Ytdfieflcclbgjaa
open Perm
theorem bef_iff (x y : Msg) : bef x y = true ↔ x.to < y.to ∨ (x.to = y.to ∧ (x.tag < y.tag ∨ (x.tag = y.tag ∧ x.val < y.val))) := by
  unfold bef
  split
  · rename_i h1
    split
    · rename_i h2
      simp only [decide_eq_true_eq]
      omega
    · rename_i h2
      simp only [decide_eq_true_eq]
      omega
  · rename_i h1
    simp only [decide_eq_true_eq]
    omega
/-- Not behind. -/
def leM (x y : Msg) : Prop := bef y x = false
theorem leM_iff (x y : Msg) : leM x y ↔ ¬ (y.to < x.to ∨ (y.to = x.to ∧ (y.tag < x.tag ∨ (y.tag = x.tag ∧ y.val < x.val)))) := by
  unfold leM
  rw [← bef_iff, Bool.not_eq_true]
theorem leM_trans {a b c : Msg} (h1 : leM a b) (h2 : leM b c) : leM a c := by
  rw [leM_iff] at h1 h2 ⊢
  omega
theorem leM_anti {a b : Msg} (h1 : leM a b) (h2 : leM b a) : a = b := by
  rw [leM_iff] at h1 h2
  obtain ⟨a1, a2, a3⟩ := a
  obtain ⟨b1, b2, b3⟩ := b
  simp only [Msg.mk.injEq] at h1 h2 ⊢
  omega
theorem leM_of_bef {a b : Msg} (h : bef a b = true) : leM a b := by
  rw [bef_iff] at h
  rw [leM_iff]
  omega
theorem insM_perm (out : List Msg) (x : Msg) : (insM out x).Perm (x :: out) := by
  unfold insM
  rw [List.append_assoc, List.singleton_append]
  refine List.perm_middle.trans ?_
  rw [List.take_append_drop]
theorem sort_perm : ∀ (ms acc : List Msg), (ms.foldl insM acc).Perm (acc ++ ms)
  | [], acc => by simp
  | m :: r, acc => by
    rw [List.foldl_cons]
    refine (sort_perm r (insM acc m)).trans ?_
    refine ((insM_perm acc m).append_right r).trans ?_
    exact List.perm_middle.symm
theorem sortM_perm (ms : List Msg) : (sortM ms).Perm ms := by
  have := sort_perm ms []
  rwa [List.nil_append] at this
theorem insM_sorted {out : List Msg} (h : out.Pairwise leM) (x : Msg) : (insM out x).Pairwise leM := by
  unfold insM
  obtain ⟨p, hp⟩ : ∃ p, placeM out x = p := ⟨_, rfl⟩
  have hlt : ∀ u ∈ out.take p, leM u x := fun u hu => by
    obtain ⟨i, hi⟩ := List.mem_iff_getElem?.1 hu
    rw [List.getElem?_take] at hi
    split at hi
    · rename_i hip
      obtain ⟨v, hv, hb⟩ := placeM_lt (out := out) (x := x) (i := i) (by rw [hp]; exact hip)
      rw [hv] at hi
      cases hi
      exact hb
    · cases hi
  have hge : ∀ u ∈ out.drop p, leM x u := fun u hu => by
    cases hd : out.drop p with
    | nil => rw [hd] at hu; simp at hu
    | cons v r =>
      have hv : out[p]? = some v := by
        have : (out.drop p)[0]? = some v := by rw [hd]; rfl
        rwa [List.getElem?_drop, Nat.add_zero] at this
      have hxv : leM x v := leM_of_bef (placeM_at (by rw [hp]; exact hv))
      rw [hd] at hu
      rcases List.mem_cons.1 hu with rfl | hu
      · exact hxv
      · have hpw : (v :: r).Pairwise leM := by rw [← hd]; exact h.sublist (List.drop_sublist _ _)
        exact leM_trans hxv (List.rel_of_pairwise_cons hpw hu)
  rw [hp, List.append_assoc, List.pairwise_append]
  refine ⟨h.sublist (List.take_sublist _ _), ?_, fun a ha b hb => ?_⟩
  · rw [List.singleton_append, List.pairwise_cons]
    exact ⟨hge, h.sublist (List.drop_sublist _ _)⟩
  · rw [List.singleton_append] at hb
    rcases List.mem_cons.1 hb with rfl | hb
    · exact hlt a ha
    · exact leM_trans (hlt a ha) (hge b hb)
theorem sort_sorted : ∀ (ms acc : List Msg), acc.Pairwise leM → (ms.foldl insM acc).Pairwise leM
  | [], _, h => h
  | m :: r, acc, h => sort_sorted r (insM acc m) (insM_sorted h m)
theorem sortM_sorted (ms : List Msg) : (sortM ms).Pairwise leM := sort_sorted ms [] List.Pairwise.nil
/-- What is sorted and has the same messages is the same. -/
theorem sorted_is {xs ys : List Msg} (h : ys.Pairwise leM) (hp : ys.Perm xs) : ys = sortM xs :=
  List.Perm.eq_of_pairwise (fun _ _ _ _ h1 h2 => leM_anti h1 h2) h (sortM_sorted xs) (hp.trans (sortM_perm xs).symm)
theorem sortM_eq {xs ys : List Msg} (h : xs.Perm ys) : sortM xs = sortM ys := sorted_is (sortM_sorted xs) ((sortM_perm xs).trans h)
theorem erase_perm : ∀ (l : List Int) (i : Nat) (h : i < l.length), (l[i] :: l.eraseIdx i).Perm l
  | a :: r, 0, _ => by simp
  | a :: r, i + 1, h => by
    have := erase_perm r i (by simpa using h)
    simp only [List.getElem_cons_succ, List.eraseIdx_cons_succ]
    exact (List.Perm.swap a (r[i]'(by simpa using h)) _).trans (this.cons a)
theorem fromF_perm {n : Nat} (hn : n ≤ 16) : ∀ (g : Nat) (sn : List Bool) (k : Nat), sn.length = 16 → below sn n = g → k < fac g → (fromF n g sn k).Perm (free sn n)
  | 0, sn, k, _, hb, _ => by
    have : (free sn n).length = 0 := by rw [free_len, hb]
    rw [List.eq_nil_of_length_eq_zero this]
    exact List.Perm.refl _
  | g + 1, sn, k, hl, hb, hk => by
    have hi : k / fac g < g + 1 := Nat.div_lt_of_lt_mul (by rw [Nat.mul_comm]; exact hk)
    obtain ⟨v, hv, hvn, hvf, hvb⟩ := free_get (sn := sn) (n := n) (i := k / fac g) (by rw [hb]; exact hi)
    have hlen := free_len sn n
    have hset := free_set (sn := sn) (v := v) (by omega) hvf hvn
    have hbl : below (sn.set v true) n = g := by rw [below_set (by omega) hvf, if_pos hvn, hb]; omega
    have ih := fromF_perm hn g (sn.set v true) (k % fac g) (by simpa using hl) hbl (Nat.mod_lt _ (fac_pos g))
    rw [fromF, hv, Int.toNat_natCast]
    rw [hset, hvb] at ih
    have hil : k / fac g < (free sn n).length := by rw [hlen, hb]; exact hi
    have he : (free sn n)[k / fac g] = (v : Int) := by rw [← hv]; simp [List.getD, hil]
    refine (ih.cons (v : Int)).trans ?_
    rw [← he]
    exact erase_perm _ _ hil
theorem fromL_perm {n : Nat} (hn : n ≤ 16) (k : Nat) : (fromL n k).Perm ((List.range n).map fun j : Nat => (j : Int)) := by
  rw [← free_none]
  exact fromF_perm hn n none16 _ rfl (below_none n) (Nat.mod_lt _ (fac_pos n))
theorem turnRow_perm (k : Nat) {row : List Msg} (h : row.length ≤ 16) : (turnRow k row).Perm row := by
  unfold turnRow
  refine ((fromL_perm h k).map _).trans ?_
  rw [List.map_map]
  have e : (List.range row.length).map ((fun j : Int => row.getD j.toNat default) ∘ fun j : Nat => (j : Int)) = row := by
    refine List.ext_getElem (by simp) fun i h1 h2 => ?_
    simp [List.getD, h2]
  rw [e]
theorem turnA_perm (k : Nat) : ∀ (f : Nat) (out xs : List Msg), xs.length ≤ f * 16 → (turnA k f out xs).Perm (out ++ xs)
  | 0, out, xs, h => by
    have : xs = [] := List.eq_nil_of_length_eq_zero (by omega)
    rw [this, turnA, List.append_nil]
  | f + 1, out, xs, h => by
    rw [turnA]
    refine (turnA_perm k f _ _ (by rw [List.length_drop]; omega)).trans ?_
    have hr := turnRow_perm k (row := xs.take 16) (by rw [List.length_take]; omega)
    split
    · refine ((hr.append_right out).append_right _).trans ?_
      refine (List.perm_append_comm.append_right _).trans ?_
      rw [List.append_assoc, List.take_append_drop]
    · refine ((hr.append_left out).append_right _).trans ?_
      rw [List.append_assoc, List.take_append_drop]
theorem turnM_perm (k : Nat) (xs : List Msg) : (turnM k xs).Perm xs := by
  have := turnA_perm k ((xs.length + 15) / 16) [] xs (by omega)
  rwa [List.nil_append] at this
theorem turnM_length (k : Nat) (xs : List Msg) : (turnM k xs).length = xs.length := (turnM_perm k xs).length_eq
end Go.Proofs.Ytdfieflcclbgjaa
