/-
  The laws of Agg, at the arguments of a row: AggWhole, AggMerges.
-/
import Derived.Test.YthjpoemgoeckbaaAggW
import Derived.Test.YthjpoemgoeckbaaAggG
namespace Go.Proofs.Ythjpoemgoeckbaa
open Go.RowKit
theorem aggWhole_walk {w : World} (a : Int) (ha : 0 ≤ a ∧ a ≤ 255) (v : Value) (zs : List Int) (hv : SeesW w v zs) (hi : ∀ z ∈ zs, In64 z) (k : Nat) (hk : k < 18446744073709551616) :
    Calls Try.prog 5 #[.int .u8 a, v, .int .u64 (k : Int)] w fun e w' => e = .returned (.bool true) ∧ Below w.heap.size w w' := by
  obtain ⟨o, rfl⟩ : ∃ o : Nat, a = (o : Int) := ⟨a.toNat, by omega⟩
  exact aggWhole_law w o v zs hv hi k hk
theorem aggMerges_walk {w : World} (o0 o1 : Nat) (_ : o0 < 256) (_ : o1 < 256) (n0 n1 : Nat) (h0 : n0 < 256) (h1 : n1 < 256) (s0 s1 : Value) (xs ys : List Msg) (hx : SeesM w s0 xs ∧ ∀ x ∈ xs, x.inr) (hy : SeesM w s1 ys ∧ ∀ x ∈ ys, x.inr) :
    Calls Try.prog 4 #[.agg #[.int .u8 (o0 : Int), .int .u8 (o1 : Int)], .agg #[.int .u8 (n0 : Int), .int .u8 (n1 : Int)], .agg #[s0, s1]] w fun e w' => e = .returned (.bool true) ∧ Below w.heap.size w w' :=
  aggMerges_law w o0 o1 n0 n1 h0 h1 s0 s1 xs ys hx hy
end Go.Proofs.Ythjpoemgoeckbaa
