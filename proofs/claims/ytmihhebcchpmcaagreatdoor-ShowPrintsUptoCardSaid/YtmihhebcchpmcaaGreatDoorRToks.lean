/-
  The document's way to find a text's tokens.
-/
import Derived.Test.YtmihhebcchpmcaaGreatDoorToks
namespace Go.Proofs.YtmihhebcchpmcaaGreatDoor
open Go.RowKit Go.Deep Go.MapKept
theorem slice_at (s : ByteArray) (i m : Nat) (h : i + m ≤ s.size) (w : World) : (Instr.slice 9 (.string s) (some (.int .i64 (i : Int))) (some (.int .i64 ((i : Int) + (m : Int)))) none).run Tryz.prog w = .ok (.string (bytesOf ((s.data.toList.drop i).take m))) w := by
  rw [run_slice_string w 9 s .i64 .i64 _ _ Tryz.underlying9 (by omega) (by omega) (by omega)]
  congr 2
  apply ByteArray.ext
  simp only [bytesOf, ByteArray.data_extract]
  apply Array.toList_inj.1
  rw [Array.toList_extract, List.extract_eq_take_drop]
  rw [show ((i : Int) + (m : Int)).toNat - ((i : Int)).toNat = m by omega, Int.toNat_natCast]
theorem bytes_size (t : Txt) : (bytesOf t).size = t.length := by
  unfold bytesOf ByteArray.size
  exact List.size_toArray
theorem kind_cases (s : ByteArray) : kindW s = 0 ∨ kindW s = 3 ∨ kindW s = 4 := by
  unfold kindW
  split
  · exact .inr (.inr rfl)
  · split
    · exact .inr (.inl rfl)
    · exact .inl rfl
theorem num_ok {s : ByteArray} (h : kindW s = 4) : numE s = 0 := by
  unfold kindW at h
  unfold numE
  split at h
  · rename_i hn
    rw [if_pos hn]
  · split at h <;> exact absurd h (by decide)
theorem kind_word {l : Txt} {c : UInt8} {r : Txt} {m : Nat} (h : l = c :: r) (h1 : 1 ≤ m) (h40 : c ≠ 40) (h41 : c ≠ 41) : kindP (l.take m) = kindW (bytesOf (l.take m)) := by
  subst h
  obtain ⟨k, rfl⟩ : ∃ k, m = k + 1 := ⟨m - 1, by omega⟩
  unfold kindP
  rw [List.take_succ_cons, if_neg (by intro e; exact h40 (List.cons.inj e).1), if_neg (by intro e; exact h41 (List.cons.inj e).1)]
theorem sign_byte (s : ByteArray) (i : Nat) (h : i < s.size) : sign s i = ((s.get! i).toNat : Int) := by
  rw [sign_get s i h]
  congr 2
  simp [ByteArray.get!, getElem!_pos, h]
  rfl
/-- What the document's way tells. -/
def RTPost (s : ByteArray) (w : World) (e : Value) (w' : World) : Prop :=
  ∃ v, e = .tuple #[v, .int .i64 (lexRes s).2.1, .int .i64 (lexRes s).2.2] ∧ SeesC w' v (lexRes s).1.length 4 (flatT (lexRes s).1) ∧ Below w.heap.size w w'
end Go.Proofs.YtmihhebcchpmcaaGreatDoor
