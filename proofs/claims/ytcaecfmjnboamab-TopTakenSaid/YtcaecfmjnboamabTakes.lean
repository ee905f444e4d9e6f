/-
  The calls of num.Reduces and num.Do, at the operations that take in many: what they come to.
-/
import Derived.Test.YtcaecfmjnboamabFree
import Derived.Test.YtcaecfmjnboamabPlain
import Derived.Deep.QuietTactic
import Derived.BigQuiet
namespace Go.Proofs.Ytcaecfmjnboamab
open Go.RowKit
def opTwo : Nat → Int → Int → Int
  | 1, a, b => wrap64 (a + b)
  | 6, a, b => if b < a then b else a
  | 7, a, b => if a < b then b else a
  | 16, a, b => if ¬ a = 0 ∧ ¬ b = 0 then 1 else 0
  | 17, a, b => if ¬ a = 0 ∨ ¬ b = 0 then 1 else 0
  | _, _, _ => 0
def opFirst : Nat → Int
  | 6 => 9223372036854775807
  | 7 => -9223372036854775808
  | 16 => 1
  | _ => 0
def many5 (o : Nat) : Prop := o = 1 ∨ o = 6 ∨ o = 7 ∨ o = 16 ∨ o = 17
theorem two1 (a b : Int) (w : World) :
    Calls Try.prog 36 #[.int .u8 1, .int .i64 a, .int .i64 b] w fun e w' => e = .returned (.int .i64 (wrap64 (a + b))) ∧ w = w' := by
  go_enter Try.func36, Try.ntmps36
  go_wp2
  go_ret
  exact ⟨rfl, rfl⟩
theorem two6 (a b : Int) (w : World) :
    Calls Try.prog 36 #[.int .u8 6, .int .i64 a, .int .i64 b] w fun e w' => e = .returned (.int .i64 (if b < a then b else a)) ∧ w = w' := by
  by_cases h : b < a
  · rw [if_pos h]
    go_enter Try.func36, Try.ntmps36
    go_wp2
    go_ret
    exact ⟨rfl, rfl⟩
  · rw [if_neg h]
    go_enter Try.func36, Try.ntmps36
    go_wp2
    go_ret
    exact ⟨rfl, rfl⟩
theorem two7 (a b : Int) (w : World) :
    Calls Try.prog 36 #[.int .u8 7, .int .i64 a, .int .i64 b] w fun e w' => e = .returned (.int .i64 (if a < b then b else a)) ∧ w = w' := by
  by_cases h : a < b
  · rw [if_pos h]
    go_enter Try.func36, Try.ntmps36
    go_wp2
    go_ret
    exact ⟨rfl, rfl⟩
  · rw [if_neg h]
    go_enter Try.func36, Try.ntmps36
    go_wp2
    go_ret
    exact ⟨rfl, rfl⟩
theorem two16 (a b : Int) (w : World) :
    Calls Try.prog 36 #[.int .u8 16, .int .i64 a, .int .i64 b] w fun e w' => e = .returned (.int .i64 (if ¬ a = 0 ∧ ¬ b = 0 then 1 else 0)) ∧ w = w' := by
  by_cases h1 : a = 0
  · subst h1
    by_cases h2 : b = 0
    · subst h2
      rw [if_neg (by simp)]
      go_enter Try.func36, Try.ntmps36
      go_wp2
      go_ret
      exact ⟨rfl, rfl⟩
    · have q2 : (b != 0) = true := by simpa using h2
      rw [if_neg (by simp)]
      go_enter Try.func36, Try.ntmps36
      go_wp2
      go_ret
      exact ⟨rfl, rfl⟩
  · have q1 : (a != 0) = true := by simpa using h1
    by_cases h2 : b = 0
    · subst h2
      rw [if_neg (by simp)]
      go_enter Try.func36, Try.ntmps36
      go_wp2
      go_ret
      exact ⟨rfl, rfl⟩
    · have q2 : (b != 0) = true := by simpa using h2
      rw [if_pos (And.intro h1 h2)]
      go_enter Try.func36, Try.ntmps36
      go_wp2
      go_ret
      exact ⟨rfl, rfl⟩
theorem two17 (a b : Int) (w : World) :
    Calls Try.prog 36 #[.int .u8 17, .int .i64 a, .int .i64 b] w fun e w' => e = .returned (.int .i64 (if ¬ a = 0 ∨ ¬ b = 0 then 1 else 0)) ∧ w = w' := by
  by_cases h1 : a = 0
  · subst h1
    by_cases h2 : b = 0
    · subst h2
      rw [if_neg (by simp)]
      go_enter Try.func36, Try.ntmps36
      go_wp2
      go_ret
      exact ⟨rfl, rfl⟩
    · have q2 : (b != 0) = true := by simpa using h2
      rw [if_pos (Or.inr h2)]
      go_enter Try.func36, Try.ntmps36
      go_wp2
      go_ret
      exact ⟨rfl, rfl⟩
  · have q1 : (a != 0) = true := by simpa using h1
    by_cases h2 : b = 0
    · subst h2
      rw [if_pos (Or.inl h1)]
      go_enter Try.func36, Try.ntmps36
      go_wp2
      go_ret
      exact ⟨rfl, rfl⟩
    · have q2 : (b != 0) = true := by simpa using h2
      rw [if_pos (Or.inl h1)]
      go_enter Try.func36, Try.ntmps36
      go_wp2
      go_ret
      exact ⟨rfl, rfl⟩
theorem pair1 (a b : Int) (w : World) : Calls Try.prog 36 #[.int .u8 1, .int .i64 a, .int .i64 b] w fun e w' => e = .returned (.int .i64 (opTwo 1 a b)) ∧ w' = w := (two1 a b w).mono fun _ _ h => ⟨h.1, h.2.symm⟩
theorem do1 (w : World) (x y : Int) (b off c : Nat) (h0 : w.cell? ⟨b, off, none⟩ = some (.int .i64 x)) (h1 : w.cell? ⟨b, off + 1, none⟩ = some (.int .i64 y)) :
    Calls Try.prog 30 #[.int .u8 1, .slice (some ⟨b, off, none⟩) 2 c] w fun e w' => e = .returned (.tuple #[.int .i64 (opTwo 1 x y), .int .i64 0]) ∧ ∃ n, w' = w.drewN n := by
  go_enter Try.func30, Try.ntmps30
  go_wp2
  go_quiet ((go_at_call 36; exact Calls.quiet_of_same (pair1 _ _ _)))
  go_wp2
  go_ret2
  exact ⟨rfl, nq, rfl⟩
theorem red1 (w : World) : Calls Try.prog 29 #[.int .u8 1] w fun e w' => e = .returned (.tuple #[.int .i64 (opFirst 1), .bool true]) ∧ w = w' := by
  go_enter Try.func29, Try.ntmps29
  go_wp2
  go_ret2
  exact ⟨rfl, rfl⟩
theorem pair6 (a b : Int) (w : World) : Calls Try.prog 36 #[.int .u8 6, .int .i64 a, .int .i64 b] w fun e w' => e = .returned (.int .i64 (opTwo 6 a b)) ∧ w' = w := (two6 a b w).mono fun _ _ h => ⟨h.1, h.2.symm⟩
theorem do6 (w : World) (x y : Int) (b off c : Nat) (h0 : w.cell? ⟨b, off, none⟩ = some (.int .i64 x)) (h1 : w.cell? ⟨b, off + 1, none⟩ = some (.int .i64 y)) :
    Calls Try.prog 30 #[.int .u8 6, .slice (some ⟨b, off, none⟩) 2 c] w fun e w' => e = .returned (.tuple #[.int .i64 (opTwo 6 x y), .int .i64 0]) ∧ ∃ n, w' = w.drewN n := by
  go_enter Try.func30, Try.ntmps30
  go_wp2
  go_quiet ((go_at_call 36; exact Calls.quiet_of_same (pair6 _ _ _)))
  go_wp2
  go_ret2
  exact ⟨rfl, nq, rfl⟩
theorem red6 (w : World) : Calls Try.prog 29 #[.int .u8 6] w fun e w' => e = .returned (.tuple #[.int .i64 (opFirst 6), .bool true]) ∧ w = w' := by
  go_enter Try.func29, Try.ntmps29
  go_wp2
  go_ret2
  exact ⟨rfl, rfl⟩
theorem pair7 (a b : Int) (w : World) : Calls Try.prog 36 #[.int .u8 7, .int .i64 a, .int .i64 b] w fun e w' => e = .returned (.int .i64 (opTwo 7 a b)) ∧ w' = w := (two7 a b w).mono fun _ _ h => ⟨h.1, h.2.symm⟩
theorem do7 (w : World) (x y : Int) (b off c : Nat) (h0 : w.cell? ⟨b, off, none⟩ = some (.int .i64 x)) (h1 : w.cell? ⟨b, off + 1, none⟩ = some (.int .i64 y)) :
    Calls Try.prog 30 #[.int .u8 7, .slice (some ⟨b, off, none⟩) 2 c] w fun e w' => e = .returned (.tuple #[.int .i64 (opTwo 7 x y), .int .i64 0]) ∧ ∃ n, w' = w.drewN n := by
  go_enter Try.func30, Try.ntmps30
  go_wp2
  go_quiet ((go_at_call 36; exact Calls.quiet_of_same (pair7 _ _ _)))
  go_wp2
  go_ret2
  exact ⟨rfl, nq, rfl⟩
theorem red7 (w : World) : Calls Try.prog 29 #[.int .u8 7] w fun e w' => e = .returned (.tuple #[.int .i64 (opFirst 7), .bool true]) ∧ w = w' := by
  go_enter Try.func29, Try.ntmps29
  go_wp2
  go_ret2
  exact ⟨rfl, rfl⟩
theorem pair16 (a b : Int) (w : World) : Calls Try.prog 36 #[.int .u8 16, .int .i64 a, .int .i64 b] w fun e w' => e = .returned (.int .i64 (opTwo 16 a b)) ∧ w' = w := (two16 a b w).mono fun _ _ h => ⟨h.1, h.2.symm⟩
theorem do16 (w : World) (x y : Int) (b off c : Nat) (h0 : w.cell? ⟨b, off, none⟩ = some (.int .i64 x)) (h1 : w.cell? ⟨b, off + 1, none⟩ = some (.int .i64 y)) :
    Calls Try.prog 30 #[.int .u8 16, .slice (some ⟨b, off, none⟩) 2 c] w fun e w' => e = .returned (.tuple #[.int .i64 (opTwo 16 x y), .int .i64 0]) ∧ ∃ n, w' = w.drewN n := by
  go_enter Try.func30, Try.ntmps30
  go_wp2
  go_quiet ((go_at_call 36; exact Calls.quiet_of_same (pair16 _ _ _)))
  go_wp2
  go_ret2
  exact ⟨rfl, nq, rfl⟩
theorem red16 (w : World) : Calls Try.prog 29 #[.int .u8 16] w fun e w' => e = .returned (.tuple #[.int .i64 (opFirst 16), .bool true]) ∧ w = w' := by
  go_enter Try.func29, Try.ntmps29
  go_wp2
  go_ret2
  exact ⟨rfl, rfl⟩
theorem pair17 (a b : Int) (w : World) : Calls Try.prog 36 #[.int .u8 17, .int .i64 a, .int .i64 b] w fun e w' => e = .returned (.int .i64 (opTwo 17 a b)) ∧ w' = w := (two17 a b w).mono fun _ _ h => ⟨h.1, h.2.symm⟩
theorem do17 (w : World) (x y : Int) (b off c : Nat) (h0 : w.cell? ⟨b, off, none⟩ = some (.int .i64 x)) (h1 : w.cell? ⟨b, off + 1, none⟩ = some (.int .i64 y)) :
    Calls Try.prog 30 #[.int .u8 17, .slice (some ⟨b, off, none⟩) 2 c] w fun e w' => e = .returned (.tuple #[.int .i64 (opTwo 17 x y), .int .i64 0]) ∧ ∃ n, w' = w.drewN n := by
  go_enter Try.func30, Try.ntmps30
  go_wp2
  go_quiet ((go_at_call 36; exact Calls.quiet_of_same (pair17 _ _ _)))
  go_wp2
  go_ret2
  exact ⟨rfl, nq, rfl⟩
theorem red17 (w : World) : Calls Try.prog 29 #[.int .u8 17] w fun e w' => e = .returned (.tuple #[.int .i64 (opFirst 17), .bool true]) ∧ w = w' := by
  go_enter Try.func29, Try.ntmps29
  go_wp2
  go_ret2
  exact ⟨rfl, rfl⟩
theorem do_many (o : Nat) (ho : many5 o) (w : World) (x y : Int) (b off c : Nat) (h0 : w.cell? ⟨b, off, none⟩ = some (.int .i64 x)) (h1 : w.cell? ⟨b, off + 1, none⟩ = some (.int .i64 y)) :
    Calls Try.prog 30 #[.int .u8 o, .slice (some ⟨b, off, none⟩) 2 c] w fun e w' => e = .returned (.tuple #[.int .i64 (opTwo o x y), .int .i64 0]) ∧ ∃ n, w' = w.drewN n := by
  rcases ho with rfl | rfl | rfl | rfl | rfl
  · exact do1 w x y b off c h0 h1
  · exact do6 w x y b off c h0 h1
  · exact do7 w x y b off c h0 h1
  · exact do16 w x y b off c h0 h1
  · exact do17 w x y b off c h0 h1
theorem red_many (o : Nat) (ho : many5 o) (w : World) : Calls Try.prog 29 #[.int .u8 o] w fun e w' => e = .returned (.tuple #[.int .i64 (opFirst o), .bool true]) ∧ w = w' := by
  rcases ho with rfl | rfl | rfl | rfl | rfl
  · exact red1 w
  · exact red6 w
  · exact red7 w
  · exact red16 w
  · exact red17 w
theorem red_none (o : Nat) (ho : ¬ many5 o) (w : World) : Calls Try.prog 29 #[.int .u8 o] w fun e w' => e = .returned (.tuple #[.int .i64 0, .bool false]) ∧ w = w' := by
  unfold many5 at ho
  have h1 : ((o : Int) == 1) = false := by simp; omega
  have h6 : ((o : Int) == 6) = false := by simp; omega
  have h7 : ((o : Int) == 7) = false := by simp; omega
  have h16 : ((o : Int) == 16) = false := by simp; omega
  have h17 : ((o : Int) == 17) = false := by simp; omega
  go_enter Try.func29, Try.ntmps29
  go_wp2
  go_ret2
  exact ⟨rfl, rfl⟩
theorem do_new (o : Nat) (ho : many5 o) (x y : Int) (w : World) :
    Calls Try.prog 30 #[.int .u8 o, .slice (some ⟨w.heap.size, 0, none⟩) 2 2] (w.alloc (.cells #[.int .i64 x, .int .i64 y] 47)) fun e w' => e = .returned (.tuple #[.int .i64 (opTwo o x y), .int .i64 0]) ∧ Below w.heap.size w w' := by
  refine (do_many o ho _ x y w.heap.size 0 2 (by simp) (by simp)).mono ?_
  rintro e w' ⟨rfl, n, rfl⟩
  exact ⟨rfl, below_drewN ((Below.refl _ _).alloc (Nat.le_refl _) _) n⟩
/-- What takes in many does so in any order. -/
theorem op_turns (o : Nat) (ho : many5 o) (a x y : Int) : opTwo o (opTwo o a x) y = opTwo o (opTwo o a y) x := by
  rcases ho with rfl | rfl | rfl | rfl | rfl
  · show wrap64 (wrap64 (a + x) + y) = wrap64 (wrap64 (a + y) + x)
    unfold wrap64; omega
  · show (if y < (if x < a then x else a) then y else (if x < a then x else a)) = (if x < (if y < a then y else a) then x else (if y < a then y else a))
    repeat (any_goals split)
    all_goals omega
  · show (if (if a < x then x else a) < y then y else (if a < x then x else a)) = (if (if a < y then y else a) < x then x else (if a < y then y else a))
    repeat (any_goals split)
    all_goals omega
  · simp only [opTwo]
    by_cases h1 : a = 0 <;> by_cases h2 : x = 0 <;> by_cases h3 : y = 0 <;> simp [h1, h2, h3]
  · simp only [opTwo]
    by_cases h1 : a = 0 <;> by_cases h2 : x = 0 <;> by_cases h3 : y = 0 <;> simp [h1, h2, h3]
theorem erase_perm : ∀ (l : List Int) (i : Nat) (h : i < l.length), (l[i] :: l.eraseIdx i).Perm l
  | [], _, h => by simp at h
  | _ :: _, 0, _ => List.Perm.refl _
  | a :: r, i + 1, h => (List.Perm.swap a (r[i]'(by simpa using h)) (r.eraseIdx i)).trans (List.Perm.cons a (erase_perm r i (by simpa using h)))
/-- An order is the numbers below its length, put in another order. -/
theorem right_perm {n : Nat} : ∀ {l : List Int} {sn : List Bool}, sn.length = 16 → n ≤ 16 → rightF n sn l = true → below sn n = l.length → l.Perm (free sn n)
  | [], sn, _, _, _, hb => by
    have : free sn n = [] := List.eq_nil_of_length_eq_zero (by rw [free_len, hb]; rfl)
    rw [this]
  | u :: r, sn, hs, hn, h, hb => by
    simp only [rightF] at h
    split at h
    · cases h
    · rename_i hc
      have hul : u.toNat < sn.length := by omega
      have hfree : sn.getD u.toNat false = false := by
        cases hx : sn.getD u.toNat false
        · rfl
        · exact absurd (Or.inr (Or.inr hx)) hc
      have hun : u.toNat < n := by omega
      have hb' : below (sn.set u.toNat true) n = r.length := by
        rw [below_set hul hfree, if_pos hun, hb]; rfl
      have ih := right_perm (by simpa using hs) hn h hb'
      rw [free_set hul hfree hun] at ih
      have hlt := below_lt hun hfree
      obtain ⟨v, hv, hvn, hvf, hvb⟩ := free_get hlt
      have e : v = u.toNat := by
        rcases Nat.lt_trichotomy v u.toNat with hx | hx | hx
        · have := below_lt hx hvf; omega
        · exact hx
        · have := below_lt hx hfree; omega
      have hil : below sn u.toNat < (free sn n).length := by rw [free_len]; exact hlt
      have hget : (free sn n)[below sn u.toNat] = u := by
        have h1 : (free sn n).getD (below sn u.toNat) 0 = (free sn n)[below sn u.toNat] := by simp [List.getD, hil]
        rw [← h1, hv, e]; omega
      have hp := erase_perm _ _ hil
      rw [hget] at hp
      exact (List.Perm.cons u ih).trans hp
theorem perm_range {p : List Int} (h : rightB p = true) : p.Perm ((List.range p.length).map (fun j : Nat => (j : Int))) := by
  rw [← free_none]
  exact right_perm rfl (rightB_parts h).1 (rightB_parts h).2 (below_none _)
theorem fold_turns (o : Nat) (ho : many5 o) (F : Int → Int) (f0 : Int) {p q : List Int} (h : p.Perm q) : p.foldl (fun a j => opTwo o a (F j)) f0 = q.foldl (fun a j => opTwo o a (F j)) f0 :=
  List.Perm.foldl_eq' h (fun x _ y _ z => op_turns o ho z (F x) (F y)) f0
end Go.Proofs.Ytcaecfmjnboamab
