/-
  Columns as bytes, and back: mathematics alone.
-/
import Derived.Test.YtbjoljokdjgbnabPlayIM
namespace Go.Proofs.Ytbjoljokdjgbnab
open Go.RowKit Go.Deep Go.MapKept
def IsB (z : Int) : Prop := 0 ≤ z ∧ z ≤ 255
/-- A number's bytes, the highest first. -/
def encW (a : Int) : List Int := [a / 256 / 256 / 256 / 256 / 256 / 256 / 256 % 256, a / 256 / 256 / 256 / 256 / 256 / 256 % 256, a / 256 / 256 / 256 / 256 / 256 % 256, a / 256 / 256 / 256 / 256 % 256, a / 256 / 256 / 256 % 256, a / 256 / 256 % 256, a / 256 % 256, a % 256]
def jn (b0 b1 b2 b3 b4 b5 b6 b7 : Int) : Int := wrap64 (b0 * 72057594037927936 + b1 * 281474976710656 + b2 * 1099511627776 + b3 * 4294967296 + b4 * 16777216 + b5 * 65536 + b6 * 256 + b7)
/-- The number whose bytes a list begins with. -/
def joinL : List Int → Int
  | b0 :: b1 :: b2 :: b3 :: b4 :: b5 :: b6 :: b7 :: _ => jn b0 b1 b2 b3 b4 b5 b6 b7
  | _ => 0
theorem join_enc {a : Int} (h : In64 a) (r : List Int) : joinL (encW a ++ r) = a := by
  unfold In64 at h
  simp only [encW, List.cons_append, joinL, jn, wrap64]
  omega
theorem encW_len (a : Int) : (encW a).length = 8 := rfl
theorem encW_isB (a : Int) : ∀ z ∈ encW a, IsB z := by
  intro z hz
  simp only [encW, List.mem_cons, List.not_mem_nil, or_false] at hz
  unfold IsB
  rcases hz with rfl | rfl | rfl | rfl | rfl | rfl | rfl | rfl <;> omega
theorem enc_join {l : List Int} (h : l.length = 8) (hb : ∀ z ∈ l, IsB z) : encW (joinL l) = l := by
  match l, h with
  | [b0, b1, b2, b3, b4, b5, b6, b7], _ =>
    have h0 := hb b0 (by simp)
    have h1 := hb b1 (by simp)
    have h2 := hb b2 (by simp)
    have h3 := hb b3 (by simp)
    have h4 := hb b4 (by simp)
    have h5 := hb b5 (by simp)
    have h6 := hb b6 (by simp)
    have h7 := hb b7 (by simp)
    unfold IsB at h0 h1 h2 h3 h4 h5 h6 h7
    obtain ⟨q, hq⟩ : ∃ q, jn b0 b1 b2 b3 b4 b5 b6 b7 = b0 * 72057594037927936 + b1 * 281474976710656 + b2 * 1099511627776 + b3 * 4294967296 + b4 * 16777216 + b5 * 65536 + b6 * 256 + b7 + 18446744073709551616 * q := by
      unfold jn wrap64
      exact ⟨-((b0 * 72057594037927936 + b1 * 281474976710656 + b2 * 1099511627776 + b3 * 4294967296 + b4 * 16777216 + b5 * 65536 + b6 * 256 + b7 + 9223372036854775808) / 18446744073709551616), by omega⟩
    simp only [joinL]
    obtain ⟨J, hJ⟩ : ∃ J, jn b0 b1 b2 b3 b4 b5 b6 b7 = J := ⟨_, rfl⟩
    rw [hJ] at hq ⊢
    simp only [encW, List.cons.injEq, and_true]
    refine ⟨?_, ?_, ?_, ?_, ?_, ?_, ?_, ?_⟩ <;> omega
/-- The first n numbers of bytes. -/
def wordsL : Nat → List Int → List Int
  | 0, _ => []
  | n + 1, b => joinL b :: wordsL n (b.drop 8)
theorem wordsL_len : ∀ (n : Nat) (b : List Int), (wordsL n b).length = n
  | 0, _ => rfl
  | n + 1, b => by simp [wordsL, wordsL_len n]
theorem words_enc : ∀ (zs : List Int) (r : List Int), (∀ z ∈ zs, In64 z) → wordsL zs.length (zs.flatMap encW ++ r) = zs
  | [], _, _ => rfl
  | z :: zs, r, h => by
    simp only [List.length_cons, wordsL, List.flatMap_cons, List.append_assoc]
    rw [join_enc (h z (by simp)), show (encW z ++ (zs.flatMap encW ++ r)).drop 8 = zs.flatMap encW ++ r from rfl, words_enc zs r fun y hy => h y (by simp [hy])]
theorem enc_words : ∀ (n : Nat) (b : List Int), b.length = n * 8 → (∀ z ∈ b, IsB z) → (wordsL n b).flatMap encW = b
  | 0, b, h, _ => by
    have : b = [] := List.length_eq_zero_iff.1 (by omega)
    subst this
    rfl
  | n + 1, b, h, hb => by
    simp only [wordsL, List.flatMap_cons]
    have e : joinL b = joinL (b.take 8) := by
      match b, h with
      | b0 :: b1 :: b2 :: b3 :: b4 :: b5 :: b6 :: b7 :: r, _ => rfl
      | [], h => simp at h
      | [_], h => simp at h; omega
      | [_, _], h => simp at h; omega
      | [_, _, _], h => simp at h; omega
      | [_, _, _, _], h => simp at h; omega
      | [_, _, _, _, _], h => simp at h; omega
      | [_, _, _, _, _, _], h => simp at h; omega
      | [_, _, _, _, _, _, _], h => simp at h; omega
    rw [e, enc_join (by rw [List.length_take]; omega) (fun z hz => hb z (List.mem_of_mem_take hz)), enc_words n (b.drop 8) (by rw [List.length_drop]; omega) (fun z hz => hb z (List.mem_of_mem_drop hz)), List.take_append_drop]
theorem flat_len : ∀ zs : List Int, (zs.flatMap encW).length = zs.length * 8
  | [] => rfl
  | z :: r => by simp only [List.flatMap_cons, List.length_append, encW_len, flat_len r, List.length_cons]; omega
/-- A text's bytes as numbers. -/
def nums (s : ByteArray) : List Int := s.data.toList.map fun c => (c.toNat : Int)
def textOf (l : List Int) : ByteArray := ⟨(l.map fun z => UInt8.ofNat z.toNat).toArray⟩
theorem nums_len (s : ByteArray) : (nums s).length = s.size := by simp [nums]
theorem text_nums (s : ByteArray) : textOf (nums s) = s := by
  unfold textOf nums
  cases s with
  | mk d =>
    congr 1
    rw [List.map_map]
    have : d.toList.map ((fun z : Int => UInt8.ofNat z.toNat) ∘ fun c : UInt8 => (c.toNat : Int)) = d.toList := by
      conv => rhs; rw [← List.map_id d.toList]
      refine List.map_congr_left fun c _ => ?_
      simp
    rw [this]
theorem nums_text {l : List Int} (h : ∀ z ∈ l, IsB z) : nums (textOf l) = l := by
  unfold textOf nums
  simp only [List.map_map]
  conv => rhs; rw [← List.map_id l]
  refine List.map_congr_left fun z hz => ?_
  have := h z hz
  unfold IsB at this
  simp only [Function.comp, id, UInt8.toNat_ofNat']
  omega
/-- A column's bytes; a table's. -/
def encO (o : One) : List Int := o.side :: o.kind :: (o.name.size : Int) :: (nums o.name ++ o.vals.flatMap encW)
def encT (os : List One) : List Int := (os.length : Int) :: os.flatMap encO
/-- How many values a column of 3 nodes and 2 edges has. -/
def len32 (d : Int) : Nat := (sideLen 3 2 d).toNat
/-- The column with which bytes begin, behind those that were read; what stands behind it. -/
def readO (os : List One) (b : List Int) : Option (One × List Int) :=
  match b with
  | d :: q :: z :: r =>
    if r.length < z.toNat then none else
    if rdeclE os (textOf (r.take z.toNat)) d q = 0 then
      (if (r.drop z.toNat).length < len32 d * 8 then none else
       if (wordsL (len32 d) (r.drop z.toNat)).all (rfit q) then some (⟨textOf (r.take z.toNat), d, q, wordsL (len32 d) (r.drop z.toNat)⟩, (r.drop z.toNat).drop (len32 d * 8)) else none)
    else none
  | _ => none
/-- What may be a column. -/
structure OkO (o : One) : Prop where
  name : isName o.name = true
  side : side o.side = true
  kind : kind o.kind = true
  len : o.vals.length = len32 o.side
  fits : o.vals.all (rfit o.kind) = true
  vals : ∀ z ∈ o.vals, In64 z
theorem name_size {s : ByteArray} (h : isName s = true) : 1 ≤ s.size ∧ s.size ≤ 8 := by
  unfold isName at h
  simp only [Bool.and_eq_true, decide_eq_true_eq] at h
  exact ⟨h.1.1.1, h.1.1.2⟩
theorem read_enc {os : List One} {o : One} (h : OkO o) (h0 : rdeclE os o.name o.side o.kind = 0) (r : List Int) : readO os (encO o ++ r) = some (o, r) := by
  have hl : (nums o.name).length = o.name.size := nums_len _
  unfold encO readO
  simp only [List.cons_append, Int.toNat_natCast]
  have e1 : (nums o.name ++ o.vals.flatMap encW ++ r).take o.name.size = nums o.name := by rw [List.append_assoc, ← hl, List.take_left']; rfl
  have e2 : (nums o.name ++ o.vals.flatMap encW ++ r).drop o.name.size = o.vals.flatMap encW ++ r := by rw [List.append_assoc, ← hl, List.drop_left']; rfl
  rw [e1, e2, text_nums]
  have e3 : ¬ (nums o.name ++ o.vals.flatMap encW ++ r).length < o.name.size := by simp only [List.length_append]; omega
  have e4 : ¬ (o.vals.flatMap encW ++ r).length < len32 o.side * 8 := by rw [List.length_append, flat_len, h.len]; omega
  rw [if_neg e3, if_pos h0, if_neg e4, ← h.len, words_enc _ _ h.vals, if_pos h.fits]
  congr 2
  rw [← flat_len, List.drop_left']
  rfl
theorem rdecl_ok {os : List One} {s : ByteArray} {d q : Int} (h : rdeclE os s d q = 0) : isName s = true ∧ side d = true ∧ kind q = true ∧ os.find? (One.at s d) = none ∧ os.length < 24 := by
  unfold rdeclE at h
  split at h
  · rename_i hn
    split at h
    · rename_i hsk
      simp only [Bool.and_eq_true] at hsk
      split at h
      · cases h
      · rename_i hf
        split at h
        · rename_i hl; exact ⟨hn, hsk.1, hsk.2, hf, hl⟩
        · cases h
    · cases h
  · cases h
theorem wrap64_in (x : Int) : In64 (wrap64 x) := by unfold In64 wrap64; omega
theorem joinL_in (l : List Int) : In64 (joinL l) := by
  unfold joinL
  split
  · exact wrap64_in _
  · unfold In64; omega
theorem wordsL_in : ∀ (n : Nat) (b : List Int), ∀ z ∈ wordsL n b, In64 z
  | 0, _, z, hz => by simp [wordsL] at hz
  | n + 1, b, z, hz => by
    simp only [wordsL, List.mem_cons] at hz
    rcases hz with rfl | hz
    · exact joinL_in _
    · exact wordsL_in n _ z hz
theorem joinL_take {b : List Int} (h : 8 ≤ b.length) (k : Nat) : joinL (b.take (8 + k)) = joinL b := by
  match b, h with
  | b0 :: b1 :: b2 :: b3 :: b4 :: b5 :: b6 :: b7 :: r, _ =>
    rw [show 8 + k = k + 1 + 1 + 1 + 1 + 1 + 1 + 1 + 1 by omega]
    rfl
  | [], h => simp at h
  | [_], h => simp at h
  | [_, _], h => simp at h
  | [_, _, _], h => simp at h
  | [_, _, _, _], h => simp at h
  | [_, _, _, _, _], h => simp at h
  | [_, _, _, _, _, _], h => simp at h
  | [_, _, _, _, _, _, _], h => simp at h
theorem words_take : ∀ (n : Nat) (b : List Int), n * 8 ≤ b.length → wordsL n b = wordsL n (b.take (n * 8))
  | 0, _, _ => rfl
  | n + 1, b, h => by
    simp only [wordsL]
    rw [show (n + 1) * 8 = 8 + n * 8 by omega, joinL_take (by omega)]
    congr 1
    rw [words_take n (b.drop 8) (by rw [List.length_drop]; omega)]
    congr 1
    rw [List.drop_take]
    congr 1
    omega
/-- What was read is a column, and its bytes are what was read. -/
theorem enc_read {os : List One} {b : List Int} {o : One} {r : List Int} (hb : ∀ z ∈ b, IsB z) (h : readO os b = some (o, r)) : OkO o ∧ rdeclE os o.name o.side o.kind = 0 ∧ b = encO o ++ r ∧ (∀ z ∈ r, IsB z) := by
  match b with
  | [] => cases h
  | [_] => cases h
  | [_, _] => cases h
  | d :: q :: z :: t =>
    unfold readO at h
    simp only at h
    split at h
    · cases h
    · rename_i hz
      split at h
      · rename_i hd
        split at h
        · cases h
        · rename_i hl
          split at h
          · rename_i hf
            simp only [Option.some.injEq, Prod.mk.injEq] at h
            obtain ⟨rfl, rfl⟩ := h
            obtain ⟨h1, h2, h3, h4, h5⟩ := rdecl_ok hd
            have ht : ∀ y ∈ t, IsB y := fun y hy => hb y (by simp [hy])
            have hzb := hb z (by simp)
            unfold IsB at hzb
            have hlen : (t.take z.toNat).length = z.toNat := by rw [List.length_take]; omega
            have hsz : (textOf (t.take z.toNat)).size = z.toNat := by rw [← nums_len, nums_text (fun y hy => ht y (List.mem_of_mem_take hy)), hlen]
            refine ⟨⟨h1, h2, h3, wordsL_len _ _, hf, wordsL_in _ _⟩, hd, ?_, fun y hy => ht y (List.mem_of_mem_drop (List.mem_of_mem_drop hy))⟩
            unfold encO
            simp only [List.cons_append, List.cons.injEq, true_and]
            refine ⟨by rw [hsz]; omega, ?_⟩
            rw [nums_text (fun y hy => ht y (List.mem_of_mem_take hy))]
            have e : (wordsL (len32 d) (t.drop z.toNat)).flatMap encW = (t.drop z.toNat).take (len32 d * 8) := by
              have hw : wordsL (len32 d) (t.drop z.toNat) = wordsL (len32 d) ((t.drop z.toNat).take (len32 d * 8)) := words_take (len32 d) _ (by omega)
              rw [hw]
              exact enc_words _ _ (by rw [List.length_take]; omega) (fun y hy => ht y (List.mem_of_mem_drop (List.mem_of_mem_take hy)))
            rw [e, List.append_assoc, List.take_append_drop, List.take_append_drop]
          · cases h
      · cases h
end Go.Proofs.Ytbjoljokdjgbnab
