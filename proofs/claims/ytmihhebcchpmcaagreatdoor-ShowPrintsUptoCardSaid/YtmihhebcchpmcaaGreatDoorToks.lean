/-
  Cells that a slice tells, whatever its elements are; appending them to a row of one's own; tokens.
-/
import Derived.Test.YtmihhebcchpmcaaGreatDoorKinds
import Derived.Test.YtmihhebcchpmcaaGreatDoorApp
import Derived.Laws.MakeOwn
import Derived.Maps.AppendAt
import Derived.OneCell
import Derived.WalkLawsBesides
namespace Go.Proofs.YtmihhebcchpmcaaGreatDoor
open Go.RowKit Go.Deep Go.MapKept
def bytesOf (t : Txt) : ByteArray := ⟨t.toArray⟩
theorem bytes_back (s : ByteArray) : bytesOf s.data.toList = s := by simp [bytesOf]
/-- What kind a piece is. -/
noncomputable def kindP (l : Txt) : Int := if l = [40] then 1 else if l = [41] then 2 else kindW (bytesOf l)
noncomputable def numP (l : Txt) : Int := if kindP l = 4 then numV (bytesOf l) else 0
noncomputable def tok (q : Piece) : Tok := ⟨kindP q.2, bytesOf q.2, numP q.2, (q.1 : Int)⟩
/-- The first piece that may not be. -/
noncomputable def bad : Nat → List Piece → Option (Int × Int)
  | _, [] => none
  | c, q :: r => if kindP q.2 = 0 then some ((q.1 : Int), 8) else if c = 600 then some ((q.1 : Int), 4) else bad (c + 1) r
/-- What a text's tokens are. -/
noncomputable def lexRes (s : ByteArray) : List Tok × Int × Int :=
  if 3000 < s.size then ([], 0, 4) else match bad 0 (pieces s.data.toList) with
    | some pe => ([], pe)
    | none => ((pieces s.data.toList).map tok, 0, 0)
/-- A word that is at its end. -/
theorem run_end {t : Txt} {p b : Nat} {r : Txt} (h : r = [] ∨ ∃ c r', r = c :: r' ∧ ends c = true) : run t p (some b) false r = (b, (t.drop b).take (p - b)) :: run t p none false r := by
  rcases h with rfl | ⟨c, r', rfl, hc⟩
  · simp [run, word]
  · unfold ends at hc
    simp only [run, word]
    by_cases h59 : c = 59
    · simp [h59]
    · by_cases hb : bracket c = true
      · simp [h59, hb]
      · have hsp : spaced c = true := by simpa [h59, hb] using hc
        simp [h59, hb, hsp]
theorem run_word {t : Txt} {p : Nat} {b : Option Nat} {c : UInt8} {r : Txt} (h : ends c = false) : run t p b false (c :: r) = run t (p + 1) (some (b.getD p)) false r := by
  unfold ends at h
  simp only [Bool.or_eq_false_iff, beq_eq_false_iff_ne] at h
  simp [run, h.2, h.1.1, h.1.2]
theorem run_space {t : Txt} {p : Nat} {c : UInt8} {r : Txt} (h : spaced c = true) : run t p none false (c :: r) = run t (p + 1) none false r := by
  have h59 : c ≠ 59 := fun e => by subst e; revert h; decide
  have hb : bracket c = false := by
    unfold spaced at h
    simp only [Bool.or_eq_true, beq_iff_eq] at h
    rcases h with (rfl | rfl) | rfl <;> decide
  simp [run, word, h59, hb, h]
theorem run_bracket {t : Txt} {p : Nat} {c : UInt8} {r : Txt} (h : bracket c = true) : run t p none false (c :: r) = (p, [c]) :: run t (p + 1) none false r := by
  have h59 : c ≠ 59 := fun e => by subst e; revert h; decide
  simp [run, word, h59, h]
/-- A remark: in it, and at its end. -/
theorem run_mark {t : Txt} {p : Nat} {r : Txt} : run t p none false (59 :: r) = run t p none true (59 :: r) := by simp [run, word]
theorem run_in {t : Txt} {p : Nat} {c : UInt8} {r : Txt} (h : c ≠ 10) : run t p none true (c :: r) = run t (p + 1) none true r := by simp [run, h]
theorem run_out {t : Txt} {p : Nat} {r : Txt} (h : r = [] ∨ ∃ r', r = 10 :: r') : run t p none true r = run t p none false r := by
  rcases h with rfl | ⟨r', rfl⟩
  · simp [run]
  · rw [run_space (by decide)]; simp [run]
def spI (c : Int) : Bool := c == 32 || c == 9 || c == 10
def endI (c : Int) : Bool := spI c || c == 40 || c == 41 || c == 59
theorem u8_eq (c : UInt8) (n : Nat) (hn : n < 256) : ((c.toNat : Int) == (n : Int)) = (c == UInt8.ofNat n) := by
  rw [Bool.eq_iff_iff]
  simp only [beq_iff_eq]
  constructor
  · intro h
    have h' : c.toNat = n := by omega
    apply UInt8.toNat_inj.1
    rw [h', UInt8.toNat_ofNat']
    omega
  · intro h
    rw [h, UInt8.toNat_ofNat']
    omega
theorem spI_eq (c : UInt8) : spI (c.toNat : Int) = spaced c := by
  unfold spI spaced
  have h1 : ((c.toNat : Int) == 32) = (c == 32) := u8_eq c 32 (by decide)
  have h2 : ((c.toNat : Int) == 9) = (c == 9) := u8_eq c 9 (by decide)
  have h3 : ((c.toNat : Int) == 10) = (c == 10) := u8_eq c 10 (by decide)
  rw [h1, h2, h3]
theorem endI_eq (c : UInt8) : endI (c.toNat : Int) = ends c := by
  unfold endI ends bracket
  have h1 : ((c.toNat : Int) == 40) = (c == 40) := u8_eq c 40 (by decide)
  have h2 : ((c.toNat : Int) == 41) = (c == 41) := u8_eq c 41 (by decide)
  have h3 : ((c.toNat : Int) == 59) = (c == 59) := u8_eq c 59 (by decide)
  rw [spI_eq, h1, h2, h3]
  simp only [Bool.or_assoc]
end Go.Proofs.YtmihhebcchpmcaaGreatDoor
