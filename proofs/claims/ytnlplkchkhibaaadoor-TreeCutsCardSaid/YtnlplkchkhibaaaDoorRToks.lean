/-
  The document's way to find a text's tokens.
-/
import Derived.Test.YtnlplkchkhibaaaDoorToks
namespace Go.Proofs.YtnlplkchkhibaaaDoor
open Go.RowKit Go.Deep Go.MapKept
theorem slice_at (s : ByteArray) (i m : Nat) (h : i + m ≤ s.size) (w : World) : (Instr.slice 9 (.string s) (some (.int .i64 (i : Int))) (some (.int .i64 ((i : Int) + (m : Int)))) none).run Tryd.prog w = .ok (.string (bytesOf ((s.data.toList.drop i).take m))) w := by
  rw [run_slice_string w 9 s .i64 .i64 _ _ Tryd.underlying9 (by omega) (by omega) (by omega)]
  congr 2
  apply ByteArray.ext
  simp only [bytesOf, ByteArray.data_extract]
  apply Array.toList_inj.1
  rw [Array.toList_extract, List.extract_eq_take_drop]
  rw [show ((i : Int) + (m : Int)).toNat - ((i : Int)).toNat = m by omega, Int.toNat_natCast]
theorem tok_at {W : World} {b : Nat} (x : Tok) (h : b = W.heap.size) : SeesC (W.alloc (.cells #[.int .u8 x.k, .string x.s, .int .i64 x.n, .int .i64 x.p] 37)) (.slice (some ⟨b, 0, none⟩) 1 1) 1 4 x.cells := by subst h; exact tok_seen x
theorem tok_cells0 (wr : World) (i : Int) : (wr.alloc (.cells #[.int .u8 0, .string ⟨#[]⟩, .int .i64 0, .int .i64 i] 37)).cell? ⟨wr.heap.size, 0, none⟩ = some (.int .u8 0) ∧ (wr.alloc (.cells #[.int .u8 0, .string ⟨#[]⟩, .int .i64 0, .int .i64 i] 37)).cell? ⟨wr.heap.size, 1, none⟩ = some (.string ⟨#[]⟩) ∧ (wr.alloc (.cells #[.int .u8 0, .string ⟨#[]⟩, .int .i64 0, .int .i64 i] 37)).cell? ⟨wr.heap.size, 2, none⟩ = some (.int .i64 0) ∧ (wr.alloc (.cells #[.int .u8 0, .string ⟨#[]⟩, .int .i64 0, .int .i64 i] 37)).cell? ⟨wr.heap.size, 3, none⟩ = some (.int .i64 i) := by
  refine ⟨?_, ?_, ?_, ?_⟩ <;> go_simp
theorem tok_free (wr : World) (i : Int) (k : Nat) : (wr.alloc (.cells #[.int .u8 0, .string ⟨#[]⟩, .int .i64 0, .int .i64 i] 37)).frozen? ⟨wr.heap.size, k, none⟩ = false := by go_simp
theorem bytes_size (t : Txt) : (bytesOf t).size = t.length := by
  unfold bytesOf ByteArray.size
  exact List.size_toArray
theorem kind_cases (s : ByteArray) : kindW s = 0 ∨ kindW s = 3 ∨ kindW s = 4 := by
  unfold kindW
  split
  · exact .inr (.inr rfl)
  · split
    · exact .inr (.inl rfl)
    · exact .inl rfl
theorem num_ok {s : ByteArray} (h : kindW s = 4) : numE s = 0 := by
  unfold kindW at h
  unfold numE
  split at h
  · rename_i hn
    rw [if_pos hn]
  · split at h <;> exact absurd h (by decide)
theorem kind_word {l : Txt} {c : UInt8} {r : Txt} {m : Nat} (h : l = c :: r) (h1 : 1 ≤ m) (h40 : c ≠ 40) (h41 : c ≠ 41) : kindP (l.take m) = kindW (bytesOf (l.take m)) := by
  subst h
  obtain ⟨k, rfl⟩ : ∃ k, m = k + 1 := ⟨m - 1, by omega⟩
  unfold kindP
  rw [List.take_succ_cons, if_neg (by intro e; exact h40 (List.cons.inj e).1), if_neg (by intro e; exact h41 (List.cons.inj e).1)]
/-- How far the document's way has come. -/
def TInv (s : ByteArray) (w : World) (i : Nat) (D : List Piece) (v : Value) (wx : World) : Prop :=
  wx.ownsRow w.heap.size 38 4 v D.length (flatT (D.map tok)) ∧ Below w.heap.size w wx ∧ pieces s.data.toList = D ++ run s.data.toList i none false (s.data.toList.drop i) ∧
  bad 0 (pieces s.data.toList) = bad D.length (run s.data.toList i none false (s.data.toList.drop i)) ∧ D.length ≤ 600
theorem TInv.zero (s : ByteArray) (w : World) : TInv s w 0 [] (.slice none 0 0) w := by
  refine ⟨?_, Below.refl _ _, by simp [pieces], by simp [pieces], by simp⟩
  exact ⟨rfl, .inl ⟨rfl, rfl⟩⟩
/-- The same pieces from another place on. -/
theorem TInv.move {s : ByteArray} {w : World} {i j : Nat} {D : List Piece} {v : Value} {wx : World} (h : TInv s w i D v wx) (e : run s.data.toList i none false (s.data.toList.drop i) = run s.data.toList j none false (s.data.toList.drop j)) : TInv s w j D v wx := by
  obtain ⟨h1, h2, h3, h4, h5⟩ := h
  exact ⟨h1, h2, by rw [← e]; exact h3, by rw [← e]; exact h4, h5⟩
theorem sign_byte (s : ByteArray) (i : Nat) (h : i < s.size) : sign s i = ((s.get! i).toNat : Int) := by
  rw [sign_get s i h]
  congr 2
  simp [ByteArray.get!, getElem!_pos, h]
  rfl
/-- What the document's way tells. -/
def RTPost (s : ByteArray) (w : World) (e : Value) (w' : World) : Prop :=
  ∃ v, e = .tuple #[v, .int .i64 (lexRes s).2.1, .int .i64 (lexRes s).2.2] ∧ SeesC w' v (lexRes s).1.length 4 (flatT (lexRes s).1) ∧ Below w.heap.size w w'
end Go.Proofs.YtnlplkchkhibaaaDoor
