/-
  MailOrder's messages: mathematics alone.
-/
import Derived.Test.YtdfieflcclbgjaaMLaws3
import Derived.Test.YtdfieflcclbgjaaOrdM
import Derived.Laws.Bits128
namespace Go.Proofs.Ytdfieflcclbgjaa
open Go.RowKit
theorem and3 (n : Int) : bits .and .i64 n 3 = n % 4 := by
  have h3 : (BitVec.ofInt 64 3).toNat = 2 ^ 2 - 1 := by decide
  have key : (BitVec.ofInt 64 n &&& BitVec.ofInt 64 3).toNat = (n % ((2 ^ 64 : Nat) : Int)).toNat % 2 ^ 2 := by
    rw [BitVec.toNat_and, BitVec.toNat_ofInt, h3, Nat.and_two_pow_sub_one_eq_mod]
  show IntKind.i64.wrap ((BitVec.ofInt 64 n &&& BitVec.ofInt 64 3).toNat : Nat) = n % 4
  rw [key, IntKind.wrap_i64]
  omega
theorem and1 (n : Int) : bits .and .i64 n 1 = n % 2 := by
  have h1 : (BitVec.ofInt 64 1).toNat = 2 ^ 1 - 1 := by decide
  have key : (BitVec.ofInt 64 n &&& BitVec.ofInt 64 1).toNat = (n % ((2 ^ 64 : Nat) : Int)).toNat % 2 ^ 1 := by
    rw [BitVec.toNat_and, BitVec.toNat_ofInt, h1, Nat.and_two_pow_sub_one_eq_mod]
  show IntKind.i64.wrap ((BitVec.ofInt 64 n &&& BitVec.ofInt 64 1).toNat : Nat) = n % 2
  rw [key, IntKind.wrap_i64]
  omega
def ops5 : List Nat := [1, 6, 7, 17, 16]
/-- A message as the law has it. -/
def nrm (x : Msg) : Msg := ⟨x.to, x.tag % 4, if x.tag % 4 = 3 then x.val % 2 else x.val⟩
theorem nrm_in {x : Msg} (h : In64 x.to) : In64 (nrm x).to ∧ In64 (nrm x).tag := ⟨h, by unfold In64 nrm; simp only; omega⟩
theorem nrm_ok (x : Msg) : tagOk ops5 (nrm x) = true ∧ opOk ops5 (nrm x) = true := by
  have h : x.tag % 4 = 0 ∨ x.tag % 4 = 1 ∨ x.tag % 4 = 2 ∨ x.tag % 4 = 3 := by omega
  refine ⟨decide_eq_true (by unfold nrm ops5; simp only [List.length_cons, List.length_nil]; omega), ?_⟩
  unfold opOk nrm
  simp only
  rcases h with h | h | h | h <;> rw [h] <;> rfl
theorem nrm_all (xs : List Msg) : (xs.map nrm).all (tagOk ops5) = true ∧ (xs.map nrm).all (opOk ops5) = true := by
  rw [List.all_eq_true, List.all_eq_true]
  refine ⟨fun x hx => ?_, fun x hx => ?_⟩
  all_goals
    obtain ⟨y, _, rfl⟩ := List.mem_map.1 hx
  · exact (nrm_ok y).1
  · exact (nrm_ok y).2
theorem comb5 (ms : List Msg) (h1 : ms.all (tagOk ops5) = true) (h2 : ms.all (opOk ops5) = true) : combRes ops5 ms = (sortM (combM ops5 ms), 0) := by
  unfold combRes
  rw [if_neg (by simp [h1]), if_neg (by simp [h2])]
theorem all_perm {p : Msg → Bool} {xs ys : List Msg} (h : xs.Perm ys) (hy : ys.all p = true) : xs.all p = true := by
  rw [List.all_eq_true] at hy ⊢
  exact fun x hx => hy x (h.mem_iff.1 hx)
def wasOf (tg : Nat) (w : Int) : Int := if tg = 3 then w % 2 else w
theorem order_eq (xs : List Msg) (k tg : Nat) (t w : Int) (o : Nat) (htg : tg < 4) (ho : ops5[tg]? = some o) :
    takeM o (tg : Int) (wasOf tg w) ((turnM k (xs.map nrm)).filter fun m => m.to == t) = takeM o (tg : Int) (wasOf tg w) ((xs.map nrm).filter fun m => m.to == t) ∧
    takeM o (tg : Int) (wasOf tg w) ((sortM (combM ops5 (xs.map nrm))).filter fun m => m.to == t) = takeM o (tg : Int) (wasOf tg w) ((xs.map nrm).filter fun m => m.to == t) := by
  refine ⟨take_same o _ _ ((turnM_perm k _).filter _), ?_⟩
  have hg : ops5.getD ((tg : Int)).toNat 0 = o := by simp [List.getD, ho]
  have hc : tg = 0 ∨ tg = 1 ∨ tg = 2 ∨ tg = 3 := by omega
  rcases hc with rfl | rfl | rfl | rfl
  · simp [ops5] at ho; subst ho
    exact taken_comb ops5 1 t _ _ groups_add hg _ trivial _ (fun _ _ _ => trivial)
  · simp [ops5] at ho; subst ho
    exact taken_comb ops5 6 t _ _ groups_min hg _ trivial _ (fun _ _ _ => trivial)
  · simp [ops5] at ho; subst ho
    exact taken_comb ops5 7 t _ _ groups_max hg _ trivial _ (fun _ _ _ => trivial)
  · simp [ops5] at ho; subst ho
    refine taken_comb ops5 17 t _ _ groups_or hg _ ?_ _ (fun u hu hut => ?_)
    · unfold wasOf
      simp only [if_true]
      omega
    · obtain ⟨y, _, rfl⟩ := List.mem_map.1 hu
      have h3 : y.tag % 4 = 3 := hut.2
      unfold nrm
      simp only [h3, if_true]
      omega
theorem ops5_red {tg o : Nat} (ho : ops5[tg]? = some o) : redB (o : Int) = true := by
  have hl : tg < 5 := by have := (List.getElem?_eq_some_iff.1 ho).1; simpa [ops5] using this
  have hc : tg = 0 ∨ tg = 1 ∨ tg = 2 ∨ tg = 3 ∨ tg = 4 := by omega
  rcases hc with rfl | rfl | rfl | rfl | rfl <;> simp [ops5] at ho <;> subst ho <;> rfl
theorem ops5_or {tg o : Nat} (htg : tg < 4) (ho : ops5[tg]? = some o) : o = 17 ↔ tg = 3 := by
  have hc : tg = 0 ∨ tg = 1 ∨ tg = 2 ∨ tg = 3 := by omega
  rcases hc with rfl | rfl | rfl | rfl <;> simp [ops5] at ho <;> subst ho <;> decide
end Go.Proofs.Ytdfieflcclbgjaa
