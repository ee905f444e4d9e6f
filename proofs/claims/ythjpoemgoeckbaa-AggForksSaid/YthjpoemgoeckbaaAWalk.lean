/-
  The laws of Agg, at the arguments of a row: AggPlays, AggNone, AggForks.
-/
import Derived.Test.YthjpoemgoeckbaaAggL
import Derived.Test.YthjpoemgoeckbaaARows
namespace Go.Proofs.Ythjpoemgoeckbaa
open Go.RowKit
theorem aggPlays_walk {w : World} (a : Int) (ha : 0 ≤ a ∧ a ≤ 255) (n : Int) (_ : In64 n) (v : Value) (xs : List Msg) (hv : SeesM w v xs) (hi : ∀ x ∈ xs, x.inr) :
    Calls Try.prog 3 #[.int .u8 a, .int .i64 n, v] w fun e w' => e = .returned (.bool true) ∧ Below w.heap.size w w' := by
  obtain ⟨o, rfl⟩ : ∃ o : Nat, a = (o : Int) := ⟨a.toNat, by omega⟩
  exact aggPlays_law w o n v xs hv hi
theorem aggNone_walk {w : World} (x : Msg) (_ : x.inr) (a : Int) (ha : 0 ≤ a ∧ a ≤ 255) (n : Int) (_ : In64 n) :
    Calls Try.prog 7 #[x.value, .int .u8 a, .int .i64 n] w fun e w' => e = .returned (.bool true) ∧ Below w.heap.size w w' := by
  obtain ⟨o, rfl⟩ : ∃ o : Nat, a = (o : Int) := ⟨a.toNat, by omega⟩
  exact aggNone_law w x o n
theorem aggForks_walk {w : World} (a : Int) (ha : 0 ≤ a ∧ a ≤ 255) (v : Value) (xs : List Msg) (hv : SeesM w v xs) (hi : ∀ x ∈ xs, x.inr) (u : Value) (ys : List Msg) (hu : SeesM w u ys) (hj : ∀ x ∈ ys, x.inr) :
    Calls Try.prog 6 #[.int .u8 a, v, u] w fun e w' => e = .returned (.bool true) ∧ Below w.heap.size w w' := by
  obtain ⟨o, rfl⟩ : ∃ o : Nat, a = (o : Int) := ⟨a.toNat, by omega⟩
  exact aggForks_law w o v u xs ys hv hi hu hj
end Go.Proofs.Ythjpoemgoeckbaa
