/-
  Messages in the order of a number, row by row: mathematics alone.
-/
import Derived.Test.YtdfieflcclbgjaaPermM
namespace Go.Proofs.Ytdfieflcclbgjaa
open Perm
/-- The order of a number. -/
def fromF (n : Nat) : Nat → List Bool → Nat → List Int
  | 0, _, _ => []
  | g + 1, sn, k => (free sn n).getD (k / fac g) 0 :: fromF n g (sn.set ((free sn n).getD (k / fac g) 0).toNat true) (k % fac g)
theorem below_inj {sn : List Bool} {a b : Nat} (ha : sn.getD a false = false) (hb : sn.getD b false = false) (h : below sn a = below sn b) : a = b := by
  rcases Nat.lt_trichotomy a b with h1 | h1 | h1
  · have := below_lt h1 ha; omega
  · exact h1
  · have := below_lt h1 hb; omega
theorem steps_from {n : Nat} : ∀ {l : List Int} {sn : List Bool} {k : Nat}, Perm.Steps n sn k l → l = fromF n l.length sn k
  | [], _, _, _ => rfl
  | z :: r, sn, k, h => by
    obtain ⟨v, rfl, hv, hf, hb, hs⟩ := h
    obtain ⟨u, hu, hun, huf, hub⟩ := free_get (sn := sn) (n := n) (i := k / fac r.length) (by rw [← hb]; exact below_lt hv hf)
    have e : u = v := below_inj huf hf (by rw [hub, hb])
    subst e
    rw [List.length_cons, fromF, hu, Int.toNat_natCast, ← steps_from hs]
def fromL (n k : Nat) : List Int := fromF n n none16 (k % fac n)
theorem from_is {n k : Nat} {ps : List Int} (h : Perm.Steps n none16 (k % fac n) ps) (hl : ps.length = n) : ps = fromL n k := by
  have := steps_from h
  rw [hl] at this
  exact this
def turnRow (k : Nat) (row : List Msg) : List Msg := (fromL row.length k).map fun j => row.getD j.toNat default
def turnA (k : Nat) : Nat → List Msg → List Msg → List Msg
  | 0, out, _ => out
  | f + 1, out, xs => turnA k f (if k % 2 = 1 then turnRow k (xs.take 16) ++ out else out ++ turnRow k (xs.take 16)) (xs.drop 16)
def turnM (k : Nat) (xs : List Msg) : List Msg := turnA k ((xs.length + 15) / 16) [] xs
end Go.Proofs.Ytdfieflcclbgjaa
