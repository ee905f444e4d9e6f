/-
  The nodes that hang together, reckoned.
-/
import Derived.Test.YtbjoljokdjgbnacJoin
namespace Go.Proofs.Ytbjoljokdjgbnac
theorem set_own (L : List Int) (p : Nat) (h : p < L.length) : L.set p (L.getD p 0) = L := by
  have : L.getD p 0 = L[p] := by simp [List.getD, h]
  rw [this, List.set_getElem_self]
theorem jstep_nat (L : List Int) (p q : Nat) : jstep L ((p : Int), (q : Int)) = (L.set p (min (L.getD p 0) (L.getD q 0))).set q (min (L.getD p 0) (L.getD q 0)) := by
  unfold jstep; simp only [Int.toNat_natCast]
def jlev (N : Nat) (es : Edges) (k : Nat) : List Int := (List.range k).foldl (jround es) (selfs N)
theorem jlev_succ (N : Nat) (es : Edges) (k : Nat) : jlev N es (k + 1) = es.foldl jstep (jlev N es k) := by simp [jlev, List.range_succ, jround]
theorem jlev_length (N : Nat) (es : Edges) (k : Nat) : (jlev N es k).length = N := by unfold jlev; rw [jfold_length, selfs_length]
end Go.Proofs.Ytbjoljokdjgbnac
