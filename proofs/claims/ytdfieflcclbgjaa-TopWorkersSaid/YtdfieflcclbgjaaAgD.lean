/-
  The mathematics of a sum of workers: its parts and its whole.
-/
import Derived.Test.YtdfieflcclbgjaaOrdM
import Derived.Test.YtdfieflcclbgjaaSortM
import Derived.Test.YtdfieflcclbgjaaNumR
namespace Go.Proofs.Ytdfieflcclbgjaa
open Go.RowKit
def mayE (n : Nat) (k : Int) : Int := if 0 ≤ k ∧ k < (n : Int) then 0 else 2
def partR (o : Nat) (row : List Int) : Int := row.foldl (opTwo o) (redW (o : Int))
def countR (rows : List (List Int)) : Nat := (rows.map List.length).sum
def wholeR (o : Nat) (rows : List (List Int)) (k : Nat) : Int := (fromL rows.length k).foldl (fun a j => opTwo o a (partR o (rows.getD j.toNat []))) (redW (o : Int))
/-- An operation's first number changes nothing. -/
def Neutral (o : Nat) (D : Int → Prop) : Prop := D (redW (o : Int)) ∧ ∀ a, D a → opTwo o a (redW (o : Int)) = a
theorem fold_in {o : Nat} {D : Int → Prop} (hD : Groups o D) : ∀ (row : List Int) (acc : Int), D acc → (∀ z ∈ row, D z) → D (row.foldl (opTwo o) acc)
  | [], _, h, _ => h
  | z :: r, acc, h, hr => fold_in hD r _ (hD.1 _ _ h (hr z (by simp))) fun y hy => hr y (by simp [hy])
theorem fold_op {o : Nat} {D : Int → Prop} (hD : Groups o D) (x : Int) (hx : D x) : ∀ (row : List Int) (acc : Int), D acc → (∀ z ∈ row, D z) → opTwo o x (row.foldl (opTwo o) acc) = row.foldl (opTwo o) (opTwo o x acc)
  | [], _, _, _ => rfl
  | z :: r, acc, h, hr => by
    have hz := hr z (by simp)
    rw [List.foldl_cons, List.foldl_cons, fold_op hD x hx r _ (hD.1 _ _ h hz) (fun y hy => hr y (by simp [hy])), hD.2 x acc z hx h hz]
/-- A part taken in is its numbers taken in. -/
theorem fold_part {o : Nat} {D : Int → Prop} (hD : Groups o D) (hN : Neutral o D) (x : Int) (hx : D x) (row : List Int) (hr : ∀ z ∈ row, D z) : opTwo o x (partR o row) = row.foldl (opTwo o) x := by
  unfold partR
  rw [fold_op hD x hx row _ hN.1 hr, hN.2 x hx]
theorem fold_parts {o : Nat} {D : Int → Prop} (hD : Groups o D) (hN : Neutral o D) : ∀ (rows : List (List Int)) (x : Int), D x → (∀ r ∈ rows, ∀ z ∈ r, D z) → (rows.map (partR o)).foldl (opTwo o) x = rows.flatten.foldl (opTwo o) x
  | [], _, _, _ => rfl
  | r :: rs, x, hx, h => by
    have hr := h r (by simp)
    rw [List.map_cons, List.foldl_cons, List.flatten_cons, List.foldl_append, fold_part hD hN x hx r hr]
    exact fold_parts hD hN rs _ (fold_in hD r x hx hr) fun s hs => h s (by simp [hs])
theorem fold_same (o : Nat) (x : Int) {xs ys : List Int} (h : xs.Perm ys) : xs.foldl (opTwo o) x = ys.foldl (opTwo o) x :=
  List.Perm.foldl_eq' h (fun a _ b _ z => op_turns o z a b) x
theorem from_rows {rows : List (List Int)} (h : rows.length ≤ 16) (k : Nat) : ((fromL rows.length k).map fun j => rows.getD j.toNat []).Perm rows := by
  refine ((fromL_perm h k).map _).trans ?_
  rw [List.map_map]
  have e : (List.range rows.length).map ((fun j : Int => rows.getD j.toNat []) ∘ fun j : Nat => (j : Int)) = rows := by
    refine List.ext_getElem (by simp) fun i h1 h2 => ?_
    simp [List.getD, h2]
  rw [e]
/-- The whole is all numbers taken in, one behind the other. -/
theorem whole_all {o : Nat} {D : Int → Prop} (hD : Groups o D) (hN : Neutral o D) {rows : List (List Int)} (hl : rows.length ≤ 16) (h : ∀ r ∈ rows, ∀ z ∈ r, D z) (k : Nat) : wholeR o rows k = rows.flatten.foldl (opTwo o) (redW (o : Int)) := by
  have e : wholeR o rows k = (((fromL rows.length k).map fun j => rows.getD j.toNat []).map (partR o)).foldl (opTwo o) (redW (o : Int)) := by
    unfold wholeR
    rw [List.map_map, List.foldl_map]
    rfl
  rw [e, fold_same o _ ((from_rows hl k).map (partR o))]
  exact fold_parts hD hN rows _ hN.1 h
theorem groups_of {o : Nat} (h : o = 1 ∨ o = 6 ∨ o = 7) : Groups o In64 ∧ Neutral o In64 := by
  rcases h with rfl | rfl | rfl
  · refine ⟨⟨fun a b ha hb => ?_, fun a b c _ _ _ => groups_add.2 a b c trivial trivial trivial⟩, ?_, fun a ha => ?_⟩
    · rw [op1]; unfold In64 wrap64; omega
    · show In64 0; unfold In64; omega
    · show opTwo 1 a 0 = a
      rw [op1]; unfold In64 at ha; unfold wrap64; omega
  · refine ⟨⟨fun a b ha hb => ?_, fun a b c _ _ _ => groups_min.2 a b c trivial trivial trivial⟩, ?_, fun a ha => ?_⟩
    · rw [op6]; split <;> assumption
    · show In64 9223372036854775807; unfold In64; omega
    · show opTwo 6 a 9223372036854775807 = a
      rw [op6]; unfold In64 at ha; split <;> omega
  · refine ⟨⟨fun a b ha hb => ?_, fun a b c _ _ _ => groups_max.2 a b c trivial trivial trivial⟩, ?_, fun a ha => ?_⟩
    · rw [op7]; split <;> assumption
    · show In64 (-9223372036854775808); unfold In64; omega
    · show opTwo 7 a (-9223372036854775808) = a
      rw [op7]; unfold In64 at ha; split <;> omega
theorem neutral_or : Neutral 17 fun a => a = 0 ∨ a = 1 := ⟨.inl rfl, fun a ha => by
  show opTwo 17 a 0 = a
  rw [op17]; split <;> omega⟩
theorem neutral_and : Neutral 16 fun a => a = 0 ∨ a = 1 := ⟨.inr rfl, fun a ha => by
  show opTwo 16 a 1 = a
  rw [op16]; split <;> omega⟩
end Go.Proofs.Ytdfieflcclbgjaa
