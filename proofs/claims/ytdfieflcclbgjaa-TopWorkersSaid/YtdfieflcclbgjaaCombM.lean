/-
  Messages of one node and tag as one: mathematics alone.
-/
import Derived.Test.YtdfieflcclbgjaaRSortP
import Derived.Test.YtdfieflcclbgjaaNumR
namespace Go.Proofs.Ytdfieflcclbgjaa
def likeM (m u : Msg) : Bool := u.to == m.to && u.tag == m.tag
/-- What a message becomes that takes another one in. -/
def updM (os : List Nat) (m u : Msg) : Msg := if likeM m u then ⟨u.to, u.tag, opTwo (os.getD m.tag.toNat 0) u.val m.val⟩ else u
def addM (os : List Nat) (out : List Msg) (m : Msg) : List Msg := if out.any (likeM m) then out.map (updM os m) else out ++ [m]
def combM (os : List Nat) (xs : List Msg) : List Msg := xs.foldl (addM os) []
def tagOk (os : List Nat) (m : Msg) : Bool := decide (0 ≤ m.tag ∧ m.tag < (os.length : Int))
def opOk (os : List Nat) (m : Msg) : Bool := redB ((os.getD m.tag.toNat 0 : Nat) : Int)
theorem updM_none {os : List Nat} {out : List Msg} {m : Msg} (h : out.any (likeM m) = false) : out.map (updM os m) = out := by
  conv => rhs; rw [← List.map_id out]
  refine List.map_congr_left fun u hu => ?_
  have := List.any_eq_false.1 h u hu
  simp [updM, this]
theorem addM_length (os : List Nat) (out : List Msg) (m : Msg) : (addM os out m).length ≤ out.length + 1 := by
  unfold addM
  split <;> simp
theorem combM_len : ∀ (os : List Nat) (xs acc : List Msg), (xs.foldl (addM os) acc).length ≤ acc.length + xs.length
  | _, [], acc => by simp
  | os, x :: r, acc => by
    have h1 := combM_len os r (addM os acc x)
    have h2 := addM_length os acc x
    rw [List.foldl_cons, List.length_cons]
    omega
end Go.Proofs.Ytdfieflcclbgjaa
