/-
  A value set, and set back.
-/
import Derived.Test.YtbjoljokdjgbnabPlaysM
namespace Go.Proofs.Ytbjoljokdjgbnab
open Go.RowKit Go.Deep Go.MapKept
theorem find_setC (cs : List Column) (s : ByteArray) (d i x : Int) : (setC cs s d i x).find? (Column.at s d) = (cs.find? (Column.at s d)).map fun c => { c with vals := c.vals.set i.toNat x } := by
  unfold setC
  induction cs with
  | nil => rfl
  | cons c r ih =>
    rw [List.map_cons, List.find?_cons, List.find?_cons]
    cases hc : c.at s d with
    | true =>
      have hq : Column.at s d { c with vals := c.vals.set i.toNat x } = true := hc
      simp only [if_true, hq, Option.map_some]
    | false =>
      simp only [Bool.false_eq_true, if_false, hc, ih]
theorem setE_ok {cs : List Column} {s : ByteArray} {d i x : Int} (h : setE cs s d i x = 0) : ∃ c, cs.find? (Column.at s d) = some c ∧ 0 ≤ i ∧ i < (c.vals.length : Int) ∧ fit c.kind x = true := by
  unfold setE at h
  cases hf : cs.find? (Column.at s d) with
  | none => rw [hf] at h; simp at h
  | some c =>
    rw [hf] at h
    simp only at h
    split at h
    · rename_i hr
      split at h
      · rename_i hx; exact ⟨c, rfl, hr.1, hr.2, hx⟩
      · simp at h
    · simp at h
/-- What Get tells behind Set. -/
theorem get_set {cs : List Column} {s : ByteArray} {d i x : Int} (h : setE cs s d i x = 0) : getE (setC cs s d i x) s d i = (x, 0) := by
  obtain ⟨c, hf, h0, h1, _⟩ := setE_ok h
  unfold getE
  rw [find_setC, hf]
  simp only [Option.map_some, List.length_set]
  rw [if_pos ⟨h0, h1⟩]
  simp [List.getD, show i.toNat < c.vals.length by omega]
theorem set_back {w : World} {tb mb : Nat} {n m : Int} {cs : List Column} (hW : Whole w tb mb n m cs) {s : ByteArray} {d i x : Int} (h : setE cs s d i x = 0) : (getE cs s d i).2 = 0 ∧ setE (setC cs s d i x) s d i (getE cs s d i).1 = 0 ∧ setC (setC cs s d i x) s d i (getE cs s d i).1 = cs := by
  obtain ⟨c, hf, h0, h1, _⟩ := setE_ok h
  have hg : getE cs s d i = (c.vals.getD i.toNat 0, 0) := by
    unfold getE
    rw [hf]
    simp only
    rw [if_pos ⟨h0, h1⟩]
  have hcm := List.mem_of_find?_eq_some hf
  have hat := List.find?_some hf
  have hil : i.toNat < c.vals.length := by omega
  have hfit : fit c.kind (c.vals.getD i.toNat 0) = true := by
    have hall := (hW.2.2.2.2.1 c hcm).1.2.2.2.2.2.2.2
    rw [List.all_eq_true] at hall
    refine hall _ ?_
    rw [show c.vals.getD i.toNat 0 = c.vals[i.toNat] by simp [List.getD, hil]]
    exact List.getElem_mem hil
  rw [hg]
  refine ⟨rfl, ?_, ?_⟩
  · unfold setE
    rw [find_setC, hf]
    simp only [Option.map_some, List.length_set]
    rw [if_pos ⟨h0, h1⟩, if_pos hfit]
  · unfold setC
    rw [List.map_map]
    conv => rhs; rw [← List.map_id cs]
    apply List.map_congr_left
    intro c' hc'
    simp only [Function.comp, id]
    cases hq : c'.at s d with
    | false => simp [hq]
    | true =>
      have hcc : c' = c := by
        simp only [Column.at, Bool.and_eq_true, decide_eq_true_eq] at hat hq
        obtain ⟨j, hj⟩ := List.getElem?_of_mem hc'
        obtain ⟨j', hj'⟩ := List.getElem?_of_mem hcm
        obtain rfl := hW.2.2.2.2.2.1 j j' c' c hj hj' (hq.1.trans hat.1.symm) (hq.2.trans hat.2.symm)
        simpa using hj.symm.trans hj'
      subst hcc
      have hq2 : Column.at s d { c' with vals := c'.vals.set i.toNat x } = true := hq
      simp only [if_true, hq2]
      have hv : (c'.vals.set i.toNat x).set i.toNat (c'.vals.getD i.toNat 0) = c'.vals := by
        rw [List.set_set]
        apply List.ext_getElem?
        intro t
        by_cases ht : i.toNat = t
        · subst ht
          rw [List.getElem?_set_self hil]
          simp [List.getD, hil]
        · rw [List.getElem?_set_ne ht]
      rw [hv]
end Go.Proofs.Ytbjoljokdjgbnab
