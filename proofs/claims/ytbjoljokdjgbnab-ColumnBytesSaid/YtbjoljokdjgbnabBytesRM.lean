/-
  Columns that bytes say, one behind the other: mathematics alone.
-/
import Derived.Test.YtbjoljokdjgbnabBytesMM
namespace Go.Proofs.Ytbjoljokdjgbnab
open Go.RowKit Go.Deep Go.MapKept
/-- So many columns of bytes, each put where it belongs; what stands behind. -/
def runO : Nat → List One → List Int → Option (List One × List Int)
  | 0, os, b => some (os, b)
  | n + 1, os, b => match readO os b with
    | none => none
    | some (o, r) => runO n (insO os o) r
/-- The same, where each must come behind the one ahead. -/
def behind (last : Option Ky) (k : Ky) : Bool := match last with
  | none => true
  | some l => ltK l k
def runS : Nat → List One → Option Ky → List Int → Option (List One × List Int)
  | 0, os, _, b => some (os, b)
  | n + 1, os, last, b => match readO os b with
    | none => none
    | some (o, r) => if behind last o.ky then runS n (insO os o) (some o.ky) r else none
theorem insO_last (o : One) : ∀ os : List One, (∀ x ∈ os, ltK x.ky o.ky = true) → insO os o = os ++ [o]
  | [], _ => rfl
  | x :: r, h => by
    have hx := h x (by simp)
    have ih := insO_last o r fun y hy => h y (by simp [hy])
    have : insO (x :: r) o = x :: insO r o := by simp [insO, insAt, hx]
    rw [this, ih]
    rfl
theorem findO_none {os : List One} {s : ByteArray} {d : Int} (h : os.find? (One.at s d) = none) : ∀ x ∈ os, x.ky ≠ (s, d) := by
  intro x hx e
  have := List.find?_eq_none.1 h x hx
  unfold One.at at this
  unfold One.ky at e
  simp only [Prod.mk.injEq] at e
  simp [e.1, e.2] at this
theorem none_find {os : List One} {s : ByteArray} {d : Int} (h : ∀ x ∈ os, x.ky ≠ (s, d)) : os.find? (One.at s d) = none := by
  rw [List.find?_eq_none]
  intro x hx e
  unfold One.at at e
  simp only [Bool.and_eq_true, decide_eq_true_eq] at e
  exact h x hx (by unfold One.ky; rw [e.1, e.2])
theorem insO_mem {os : List One} {o x : One} (h : x ∈ insO os o) : x = o ∨ x ∈ os := by
  unfold insO at h
  rcases List.mem_append.1 h with h | h
  · exact .inr (List.mem_of_mem_take h)
  · rcases List.mem_cons.1 h with h | h
    · exact .inl h
    · exact .inr (List.mem_of_mem_drop h)
theorem insO_len (os : List One) (o : One) : (insO os o).length = os.length + 1 := by
  unfold insO
  have := insAt_le o.ky os
  simp only [List.length_append, List.length_cons, List.length_take, List.length_drop]
  omega
/-- Columns that are right. -/
structure OkT (os : List One) : Prop where
  sorted : Sorted os
  each : ∀ o ∈ os, OkO o
  few : os.length ≤ 24
theorem okT_nil : OkT [] := ⟨List.Pairwise.nil, by simp, by simp⟩
theorem OkT.ins {os : List One} (h : OkT os) {o : One} (ho : OkO o) (hd : rdeclE os o.name o.side o.kind = 0) : OkT (insO os o) := by
  obtain ⟨_, _, _, hf, hl⟩ := rdecl_ok hd
  refine ⟨insO_sorted o os h.sorted (findO_none hf), fun x hx => ?_, by rw [insO_len]; omega⟩
  rcases insO_mem hx with rfl | hx
  · exact ho
  · exact h.each x hx
theorem run_ok : ∀ (n : Nat) (os : List One) (b : List Int) (os' : List One) (r : List Int), OkT os → (∀ z ∈ b, IsB z) → runO n os b = some (os', r) → OkT os' ∧ os'.length = os.length + n
  | 0, os, b, os', r, h, _, e => by
    simp only [runO, Option.some.injEq, Prod.mk.injEq] at e
    obtain ⟨rfl, rfl⟩ := e
    exact ⟨h, by omega⟩
  | n + 1, os, b, os', r, h, hb, e => by
    unfold runO at e
    cases hr : readO os b with
    | none => rw [hr] at e; cases e
    | some p =>
      obtain ⟨o, t⟩ := p
      rw [hr] at e
      simp only at e
      obtain ⟨h1, h2, _, h4⟩ := enc_read hb hr
      obtain ⟨q1, q2⟩ := run_ok n _ t os' r (h.ins h1 h2) h4 e
      exact ⟨q1, by rw [q2, insO_len]; omega⟩
theorem rdecl_zero {os : List One} {o : One} (h : OkO o) (hn : ∀ x ∈ os, x.ky ≠ o.ky) (hl : os.length < 24) : rdeclE os o.name o.side o.kind = 0 := by
  unfold rdeclE
  rw [if_pos h.name, if_pos (by simp [h.side, h.kind]), none_find hn]
  simp [hl]
/-- A table's bytes are read back, in order. -/
theorem runS_enc : ∀ (l pre : List One) (last : Option Ky) (r : List Int), Sorted (pre ++ l) → (∀ o ∈ l, OkO o) → (pre ++ l).length ≤ 24 → (∀ k, last = some k → ∀ o, l[0]? = some o → ltK k o.ky = true) → runS l.length pre last (l.flatMap encO ++ r) = some (pre ++ l, r)
  | [], pre, last, r, _, _, _, _ => by simp [runS]
  | o :: l, pre, last, r, hs, ho, hl, hk => by
    simp only [List.length_cons, runS, List.flatMap_cons, List.append_assoc]
    have hall : ∀ x ∈ pre, ltK x.ky o.ky = true := fun x hx => (List.pairwise_append.1 hs).2.2 x hx o (by simp)
    have hne : ∀ x ∈ pre, x.ky ≠ o.ky := fun x hx e => by have := hall x hx; rw [e, ltK_irrefl] at this; cases this
    have h24 : pre.length < 24 := by simp at hl; omega
    rw [read_enc (ho o (by simp)) (rdecl_zero (ho o (by simp)) hne h24)]
    simp only
    have hb : behind last o.ky = true := by
      unfold behind
      cases last with
      | none => rfl
      | some k => exact hk k rfl o (by simp)
    rw [if_pos hb, insO_last o pre hall, runS_enc l (pre ++ [o]) (some o.ky) r (by simpa using hs) (fun x hx => ho x (by simp [hx])) (by simpa using hl) (fun k e x hx => ?_)]
    · simp
    · cases e
      have h2 := (List.pairwise_append.1 hs).2.1
      exact (List.pairwise_cons.1 h2).1 x (List.mem_of_getElem? hx)
theorem runS_run : ∀ (n : Nat) (os : List One) (last : Option Ky) (b : List Int) (os' : List One) (r : List Int), OkT os → (∀ z ∈ b, IsB z) → (∀ x ∈ os, ∃ k, last = some k ∧ (x.ky = k ∨ ltK x.ky k = true)) → runS n os last b = some (os', r) → runO n os b = some (os', r) ∧ ∃ l, os' = os ++ l ∧ b = l.flatMap encO ++ r ∧ l.length = n
  | 0, os, last, b, os', r, _, _, _, e => by
    simp only [runS, Option.some.injEq, Prod.mk.injEq] at e
    obtain ⟨rfl, rfl⟩ := e
    exact ⟨rfl, [], by simp, by simp, rfl⟩
  | n + 1, os, last, b, os', r, h, hb, hk, e => by
    unfold runS at e
    unfold runO
    cases hr : readO os b with
    | none => rw [hr] at e; cases e
    | some p =>
      obtain ⟨o, t⟩ := p
      rw [hr] at e
      simp only at e ⊢
      split at e
      · rename_i hbh
        obtain ⟨h1, h2, h3, h4⟩ := enc_read hb hr
        have hall : ∀ x ∈ os, ltK x.ky o.ky = true := fun x hx => by
          obtain ⟨k, rfl, hx2⟩ := hk x hx
          unfold behind at hbh
          simp only at hbh
          rcases hx2 with hx2 | hx2
          · rw [hx2]; exact hbh
          · exact ltK_trans hx2 hbh
        have hins := insO_last o os hall
        obtain ⟨q1, l, q2, q3, q4⟩ := runS_run n _ _ t os' r (h.ins h1 h2) h4 (fun x hx => ⟨o.ky, rfl, by
          rcases insO_mem hx with rfl | hx
          · exact .inl rfl
          · exact .inr (hall x hx)⟩) e
        refine ⟨q1, o :: l, ?_, ?_, by simp [q4]⟩
        · rw [q2, hins]; simp
        · rw [h3, q3]; simp
      · cases e
/-- The columns that bytes say. -/
def dec (b : List Int) : Option (List One) := match b with
  | [] => none
  | n :: t => match runO n.toNat [] t with
    | none => none
    | some (os, _) => if encT os = n :: t then some os else none
def decS (b : List Int) : Option (List One) := match b with
  | [] => none
  | n :: t => match runS n.toNat [] none t with
    | none => none
    | some (os, r) => if r = [] then some os else none
theorem dec_same {b : List Int} (hb : ∀ z ∈ b, IsB z) : decS b = dec b := by
  match b with
  | [] => rfl
  | n :: t =>
    have hn := hb n (by simp)
    unfold IsB at hn
    have ht : ∀ z ∈ t, IsB z := fun z hz => hb z (by simp [hz])
    unfold decS dec
    simp only
    cases hs : runS n.toNat [] none t with
    | some p =>
      obtain ⟨os, r⟩ := p
      obtain ⟨q1, l, q2, q3, q4⟩ := runS_run n.toNat [] none t os r okT_nil ht (by simp) hs
      rw [q1]
      simp only
      simp only [List.nil_append] at q2
      subst q2
      have hlen : (os.length : Int) = n := by omega
      by_cases hr : r = []
      · subst hr
        rw [if_pos rfl, if_pos]
        unfold encT
        rw [hlen, q3]
        simp
      · rw [if_neg hr, if_neg]
        unfold encT
        rw [hlen, q3]
        intro e
        simp only [List.cons.injEq, true_and] at e
        have := congrArg List.length e
        rw [List.length_append] at this
        exact hr (List.length_eq_zero_iff.1 (by omega))
    | none =>
      simp only
      cases hr : runO n.toNat [] t with
      | none => rfl
      | some p =>
        obtain ⟨os, r⟩ := p
        simp only
        obtain ⟨hok, hlen⟩ := run_ok n.toNat [] t os r okT_nil ht hr
        rw [if_neg]
        intro e
        unfold encT at e
        simp only [List.cons.injEq] at e
        have := runS_enc os [] none [] (by simpa using hok.sorted) hok.each (by simpa using hok.few) (by simp)
        simp only [List.append_nil, List.nil_append] at this hlen
        rw [e.2, show os.length = n.toNat by simp at hlen; omega, hs] at this
        cases this
/-- A table's bytes say the table. -/
theorem dec_enc {os : List One} (h : OkT os) : dec (encT os) = some os := by
  have h2 := runS_enc os [] none [] (by simpa using h.sorted) h.each (by simpa using h.few) (by simp)
  simp only [List.append_nil, List.nil_append] at h2
  have hb : ∀ z ∈ os.flatMap encO, IsB z := by
    intro z hz
    obtain ⟨o, ho, hz⟩ := List.mem_flatMap.1 hz
    have hk := h.each o ho
    unfold encO at hz
    unfold IsB
    rcases List.mem_cons.1 hz with rfl | hz
    · have := hk.side; unfold side at this; simp at this; omega
    rcases List.mem_cons.1 hz with rfl | hz
    · have := hk.kind; unfold kind at this; simp at this; omega
    rcases List.mem_cons.1 hz with rfl | hz
    · have := name_size hk.name; omega
    rcases List.mem_append.1 hz with hz | hz
    · unfold nums at hz
      obtain ⟨c, _, rfl⟩ := List.mem_map.1 hz
      have := c.toNat_lt
      omega
    · obtain ⟨y, _, hy⟩ := List.mem_flatMap.1 hz
      exact encW_isB y z hy
  obtain ⟨q1, _⟩ := runS_run os.length [] none _ os [] okT_nil hb (by simp) h2
  unfold dec encT
  simp only [Int.toNat_natCast]
  rw [q1]
  simp
end Go.Proofs.Ytbjoljokdjgbnab
