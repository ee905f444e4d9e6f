/-
  Two tables are the same just if the document's are.
-/
import Derived.Test.YtbjoljokdjgbnabTSameM
namespace Go.Proofs.Ytbjoljokdjgbnab
open Go.RowKit Go.Deep Go.MapKept
theorem find_ky {os : List One} (h : Sorted os) {o : One} (ho : o ∈ os) : os.find? (One.at o.name o.side) = some o := by
  rcases at_cases os o.name o.side with ⟨i, p, hp, e1, e2, _, hf⟩ | ⟨_, hf⟩
  · obtain ⟨j, hj⟩ := List.getElem?_of_mem ho
    obtain rfl := h.apart hp hj (Prod.ext e1 e2)
    obtain rfl : p = o := by simpa using hp.symm.trans hj
    exact hf
  · have := List.find?_eq_none.1 hf o ho
    simp [One.at] at this
theorem sorted_perm : ∀ {os os' : List One}, Sorted os → Sorted os' → os.Perm os' → os = os'
  | [], os', _, _, hp => (List.Perm.nil_eq hp)
  | o :: r, [], _, _, hp => absurd hp.length_eq (by simp)
  | o :: r, o' :: r', hs, hs', hp => by
    have h1 := List.pairwise_cons.1 hs
    have h2 := List.pairwise_cons.1 hs'
    have ho : o ∈ o' :: r' := hp.mem_iff.1 (by simp)
    have ho' : o' ∈ o :: r := hp.mem_iff.2 (by simp)
    have he : o = o' := by
      rcases List.mem_cons.1 ho with h | h
      · exact h
      · rcases List.mem_cons.1 ho' with h' | h'
        · exact h'.symm
        · have a := h2.1 o h
          have b := h1.1 o' h'
          have := ltK_trans a b
          rw [ltK_irrefl] at this
          exact absurd this (by decide)
    subst he
    rw [sorted_perm h1.2 h2.2 ((List.perm_cons _).1 hp)]
theorem perm_of_sub {α : Type} : ∀ {l l' : List α}, l.Nodup → (∀ x ∈ l, x ∈ l') → l'.length ≤ l.length → l.Perm l'
  | [], l', _, _, hl => by
    obtain rfl : l' = [] := List.eq_nil_of_length_eq_zero (by simpa using hl)
    exact List.Perm.refl _
  | a :: r, l', hn, hs, hl => by
    obtain ⟨s, t, rfl⟩ := List.append_of_mem (hs a (by simp))
    have hn' := List.nodup_cons.1 hn
    have hp : r.Perm (s ++ t) := perm_of_sub hn'.2 (fun x hx => by
      have h1 := hs x (List.mem_cons_of_mem _ hx)
      rcases List.mem_append.1 h1 with h1 | h1
      · exact List.mem_append.2 (.inl h1)
      · rcases List.mem_cons.1 h1 with h1 | h1
        · subst h1; exact absurd hx hn'.1
        · exact List.mem_append.2 (.inr h1)) (by simp only [List.length_append, List.length_cons] at hl ⊢; omega)
    exact (hp.cons a).trans List.perm_middle.symm
theorem good_find {cs' : List Column} {os' : List One} (hA : Agree cs' os') (hap : apartK cs') (c : Column) (hk : kind c.kind = true) : goodC cs' c = true ↔ os'.find? (One.at c.name c.side) = some c.one := by
  unfold goodC kindE listE
  rw [hA.find hap]
  cases hf : cs'.find? (Column.at c.name c.side) with
  | none =>
    simp only [Option.map_none, Bool.and_eq_true, decide_eq_true_eq]
    constructor
    · rintro ⟨h1, _⟩
      rw [← h1] at hk
      exact absurd hk (by decide)
    · intro h; cases h
  | some x =>
    have hat := List.find?_some hf
    simp only [Column.at, Bool.and_eq_true, decide_eq_true_eq] at hat
    simp only [Option.map_some, Bool.and_eq_true, decide_eq_true_eq, Option.some.injEq]
    constructor
    · rintro ⟨h1, h2⟩
      cases x; cases c
      simp only at hat h1 h2
      simp only [Column.one, hat.1, hat.2, h1, h2]
    · intro h
      exact ⟨congrArg One.kind h, congrArg One.vals h⟩
theorem same_iff {w w' : World} {tb mb tb' mb' : Nat} {n m : Int} {cs cs' : List Column} {os os' : List One} (hW : Whole w tb mb n m cs) (hW' : Whole w' tb' mb' n m cs') (hA : Agree cs os) (hA' : Agree cs' os') : sameB cs cs' = true ↔ os = os' := by
  unfold sameB
  rw [Bool.and_eq_true, decide_eq_true_eq, List.all_eq_true]
  constructor
  · rintro ⟨hl, hg⟩
    have hsub : ∀ o ∈ os, o ∈ os' := fun o ho => by
      obtain ⟨c, hc, rfl⟩ := List.mem_map.1 (hA.1.mem_iff.1 ho)
      exact List.mem_of_find?_eq_some ((good_find hA' hW'.2.2.2.2.2.1 c (hW.2.2.2.2.1 c hc).1.2.2.2.2.1).1 (hg c hc))
    have hnd : ∀ {l : List One}, Sorted l → l.Nodup := fun {l} h => h.imp fun {a b} hab e => by
      rw [e, ltK_irrefl] at hab
      exact absurd hab (by decide)
    have hle : os'.length ≤ os.length := by rw [hA.length, hA'.length]; omega
    exact sorted_perm hA.2 hA'.2 (perm_of_sub (hnd hA.2) hsub hle)
  · rintro rfl
    refine ⟨by rw [← hA.length, ← hA'.length], fun c hc => ?_⟩
    refine (good_find hA' hW'.2.2.2.2.2.1 c (hW.2.2.2.2.1 c hc).1.2.2.2.2.1).2 ?_
    exact find_ky hA'.2 (hA.1.mem_iff.2 (List.mem_map.2 ⟨c, hc, rfl⟩))
end Go.Proofs.Ytbjoljokdjgbnab
