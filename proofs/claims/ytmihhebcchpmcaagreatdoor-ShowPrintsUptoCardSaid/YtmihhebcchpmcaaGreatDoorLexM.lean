/-
  Pieces of a text, byte by byte: what both ways to find them come to.
-/
import Derived.Laws.RangeAny
import Derived.Lib.OthersKept
namespace Go.Proofs.YtmihhebcchpmcaaGreatDoor
abbrev Txt := List UInt8
def spaced (c : UInt8) : Bool := c == 32 || c == 9 || c == 10
def bracket (c : UInt8) : Bool := c == 40 || c == 41
def ends (c : UInt8) : Bool := spaced c || bracket c || c == 59
/-- A piece: its place, and what it says. -/
abbrev Piece := Nat × Txt
/-- What is left of a word that has begun. -/
def word (t : Txt) (p : Nat) : Option Nat → List Piece
  | none => []
  | some b => [(b, (t.drop b).take (p - b))]
/-- The pieces from a place on: t the text, p the place, b where a word began, k whether it is a remark, r what is left. -/
def run (t : Txt) : Nat → Option Nat → Bool → Txt → List Piece
  | p, b, _, [] => word t p b
  | p, _, true, c :: r => if c = 10 then run t (p + 1) none false r else run t (p + 1) none true r
  | p, b, false, c :: r =>
    if c = 59 then word t p b ++ run t (p + 1) none true r
    else if bracket c then word t p b ++ (p, [c]) :: run t (p + 1) none false r
    else if spaced c then word t p b ++ run t (p + 1) none false r
    else run t (p + 1) (some (b.getD p)) false r
def pieces (t : Txt) : List Piece := run t 0 none false t
/-- A sign that is none of those that part words. -/
def high (c : UInt8) : Prop := 128 ≤ c.toNat
theorem high_plain {c : UInt8} (h : high c) : c ≠ 59 ∧ c ≠ 10 ∧ bracket c = false ∧ spaced c = false := by
  unfold high at h
  have key : ∀ n : UInt8, n.toNat < 128 → c ≠ n := fun n hn e => by subst e; omega
  have k := fun n hn => beq_eq_false_iff_ne.2 (key n hn)
  refine ⟨key 59 (by decide), key 10 (by decide), ?_, ?_⟩
  · unfold bracket; rw [k 40 (by decide), k 41 (by decide)]; rfl
  · unfold spaced; rw [k 32 (by decide), k 9 (by decide), k 10 (by decide)]; rfl
theorem run_high {t : Txt} {p : Nat} {b : Option Nat} {k : Bool} {c : UInt8} {r : Txt} (h : high c) (hk : k = true → b = none) : run t p b k (c :: r) = run t (p + 1) (if k then none else some (b.getD p)) k r := by
  obtain ⟨h1, h2, h3, h4⟩ := high_plain h
  cases k with
  | true => simp [run, h2]
  | false => simp [run, h1, h3, h4]
/-- Some of them in a row. -/
theorem run_highs {t : Txt} {b : Option Nat} {k : Bool} (hk : k = true → b = none) : ∀ {l r : Txt} {p : Nat}, (∀ c ∈ l, high c) → l ≠ [] → run t p b k (l ++ r) = run t (p + l.length) (if k then none else some (b.getD p)) k r
  | [], _, _, _, h => absurd rfl h
  | [c], r, p, h, _ => by
    rw [List.singleton_append, run_high (h c (by simp)) hk]; rfl
  | c :: d :: l, r, p, h, _ => by
    rw [List.cons_append, run_high (h c (by simp)) hk, run_highs (l := d :: l) (b := if k then none else some (b.getD p)) (by intro e; subst e; rfl) (fun x hx => h x (List.mem_cons_of_mem _ hx)) (by simp)]
    cases k <;> simp [Nat.add_assoc, Nat.add_comm]
theorem get_byte (s : ByteArray) (i : Nat) (h : i < s.size) : s.data.toList[i]? = some (s.get! i) := by
  have e : s.get! i = s[i]'h := by
    simp [ByteArray.get!, getElem!_pos, h]
    rfl
  rw [e, Array.getElem?_toList]
  exact Array.getElem?_eq_getElem h
/-- What a sign of more than one byte is made of. -/
theorem decode_bytes (s : ByteArray) (pos : Nat) (h : pos < s.size) (h0 : 128 ≤ (s.get! pos).toNat) :
    pos + (Utf8.decode s pos).2 ≤ s.size ∧ 1 ≤ (Utf8.decode s pos).2 ∧ ∀ j, j < (Utf8.decode s pos).2 → 128 ≤ (s.get! (pos + j)).toNat := by
  have key : ∀ (w : Nat), (∀ j, 1 ≤ j → j < w → pos + j < s.size ∧ (s.get! (pos + j)).toNat / 64 = 2) → 1 ≤ w → pos + w ≤ s.size ∧ 1 ≤ w ∧ ∀ j, j < w → 128 ≤ (s.get! (pos + j)).toNat := by
    intro w hw h1
    refine ⟨?_, h1, fun j hj => ?_⟩
    · by_cases e : w = 1
      · omega
      · have := (hw (w - 1) (by omega) (by omega)).1; omega
    · by_cases e : j = 0
      · subst e; exact h0
      · have := (hw j (by omega) hj).2; omega
  have one := key 1 (fun j h1 h2 => by omega) (Nat.le_refl _)
  unfold Utf8.decode
  simp only [Nat.add_zero]
  have n0 : ¬ (s.get! pos).toNat < 128 := by omega
  simp only [n0, if_false]
  split
  · rename_i hc
    simp only [Bool.and_eq_true, decide_eq_true_eq, beq_iff_eq] at hc
    split
    · refine key 2 (fun j h1 h2 => ?_) (by omega)
      obtain rfl : j = 1 := by omega
      exact hc.2
    · exact one
  · split
    · rename_i hc
      simp only [Bool.and_eq_true, decide_eq_true_eq, beq_iff_eq] at hc
      split
      · refine key 3 (fun j h1 h2 => ?_) (by omega)
        have : j = 1 ∨ j = 2 := by omega
        rcases this with rfl | rfl
        · exact hc.1.2
        · exact hc.2
      · exact one
    · split
      · rename_i hc
        simp only [Bool.and_eq_true, decide_eq_true_eq, beq_iff_eq] at hc
        split
        · refine key 4 (fun j h1 h2 => ?_) (by omega)
          have : j = 1 ∨ j = 2 ∨ j = 3 := by omega
          rcases this with rfl | rfl | rfl
          · exact hc.1.1.2
          · exact hc.1.2
          · exact hc.2
        · exact one
      · exact one
theorem drop_byte (s : ByteArray) (pos : Nat) (h : pos < s.size) : s.data.toList.drop pos = s.get! pos :: s.data.toList.drop (pos + 1) := by
  have hl : pos < s.data.toList.length := by rw [Array.length_toList]; exact h
  rw [List.drop_eq_getElem_cons hl]
  congr 1
  have := get_byte s pos h
  rw [List.getElem?_eq_getElem hl] at this
  exact Option.some.inj this
/-- The pieces from a sign of more than one byte, or of a byte above 127, on. -/
theorem run_rune {s : ByteArray} {t : Txt} {pos : Nat} {b : Option Nat} {k : Bool} (h : pos < s.size) (h0 : 128 ≤ (s.get! pos).toNat) (hk : k = true → b = none) :
    run t pos b k (s.data.toList.drop pos) = run t (pos + (Utf8.decode s pos).2) (if k then none else some (b.getD pos)) k (s.data.toList.drop (pos + (Utf8.decode s pos).2)) := by
  obtain ⟨h1, h2, h3⟩ := decode_bytes s pos h h0
  obtain ⟨w, hw⟩ : ∃ w, (Utf8.decode s pos).2 = w := ⟨_, rfl⟩
  rw [hw] at h1 h2 h3 ⊢
  have hsplit : s.data.toList.drop pos = (s.data.toList.drop pos).take w ++ s.data.toList.drop (pos + w) := by
    rw [← List.drop_drop, List.take_append_drop]
  have hl : ((s.data.toList.drop pos).take w).length = w := by
    rw [List.length_take, List.length_drop, Array.length_toList]
    have : s.data.size = s.size := rfl
    omega
  rw [hsplit, run_highs hk (fun c hc => ?_) (fun e => by rw [e] at hl; simp at hl; omega), hl]
  obtain ⟨j, hj⟩ := List.getElem?_of_mem hc
  have hjl : j < w := by have := (List.getElem?_eq_some_iff.1 hj).1; omega
  rw [List.getElem?_take, if_pos hjl, List.getElem?_drop, get_byte s (pos + j) (by omega)] at hj
  have := h3 j hjl
  rw [Option.some.inj hj] at this
  exact this
end Go.Proofs.YtmihhebcchpmcaaGreatDoor
