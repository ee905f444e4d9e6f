/-
  The call of perm.Right: what it comes to.
-/
import Derived.Test.YtjlnnpcaeikolaaQMany
import Derived.Deep.OwnRows
namespace Go.Proofs.Ytjlnnpcaeikolaa.Perm
open Go.RowKit
/-- The row 'seen' at block b holds the truths 'sn'. -/
def Seen (w : World) (b : Nat) (sn : List Bool) : Prop := w.rowIs b 64 16 (fun j => .bool (sn.getD j false))
theorem right_long (a : Option Addr) (len cap : Nat) (w : World) (h : 16 < len) :
    Calls Try.prog 40 #[.slice a len cap] w fun e w' => e = .returned (.bool false) ∧ w = w' := by
  go_enter Try.func40, Try.ntmps40
  go_wp2_with (go_at_call 38; refine (fits_not _ _ (by omega)).mono ?_; rintro e w' ⟨rfl, rfl⟩)
  go_ret
  exact ⟨rfl, rfl⟩
theorem seen_new (w : World) : Seen (w.alloc (.cells #[.bool false, .bool false, .bool false, .bool false, .bool false, .bool false, .bool false, .bool false, .bool false, .bool false, .bool false, .bool false, .bool false, .bool false, .bool false, .bool false] 64)) w.heap.size none16 :=
  World.rowIs_alloc w _ 64 _ (by
    intro i hi
    match i, hi with
    | 0, _ | 1, _ | 2, _ | 3, _ | 4, _ | 5, _ | 6, _ | 7, _ | 8, _ | 9, _ | 10, _ | 11, _ | 12, _ | 13, _ | 14, _ | 15, _ => rfl
    | n + 16, h => exact absurd h (by simp))
theorem Seen.put {w : World} {b : Nat} {sn : List Bool} (h : Seen w b sn) (hl : sn.length = 16) (j : Nat) (_hj : j < 16) : Seen (w.setCell ⟨b, j, none⟩ (.bool true)) b (sn.set j true) := by
  refine (World.rowIs.set h j (.bool true)).congr ?_
  intro i hi
  by_cases e : i = j
  · subst e; simp [List.getD, hl, hi]
  · rw [if_neg e]; simp [List.getD, show ¬ j = i from fun h => e h.symm]
theorem right_walk (b off len cap : Nat) (zs : List Int) (w : World) (h : len ≤ 16) (hz : zs.length = len)
    (hc : ∀ j, j < len → w.cell? ⟨b, off + j, none⟩ = some (.int .i64 (zs.getD j 0))) :
    Calls Try.prog 40 #[.slice (some ⟨b, off, none⟩) len cap] w fun e w' => e = .returned (.bool (rightF len none16 zs)) ∧ Below w.heap.size w w' := by
  have hbw : 0 < len → b < w.heap.size := fun h0 => World.block_lt_of_cell? w _ (hc 0 h0)
  go_enter Try.func40, Try.ntmps40
  go_wp2_with (go_at_call 38; refine (fits_any _ _ (by omega) (by omega)).mono ?_; rintro e w' ⟨rfl, rfl⟩)
  go_loopw [12] (fun i wr => ∃ (k : Nat) (sn : List Bool), k ≤ len ∧ i = .int .i64 k ∧ sn.length = 16 ∧ rightF len sn (zs.drop k) = rightF len none16 zs ∧ Seen wr w.heap.size sn ∧ Below w.heap.size w wr)
    (fun i _ => len - (intOf i).toNat)
  case atStart => exact ⟨0, none16, Nat.zero_le _, rfl, rfl, rfl, seen_new _, (Below.refl _ _).alloc (Nat.le_refl _) _⟩
  case round =>
    obtain ⟨k, sn, hk, rfl, hsl, hr, hsn, hb⟩ := hrel
    by_cases hlt : k < len
    · have hcell : wr.cell? ⟨b, off + k, none⟩ = some (.int .i64 (zs.getD k 0)) := (hb.cell (hbw (by omega))).trans (hc k hlt)
      have HR : Hid (rightF len sn (zs.drop k) = rightF len none16 zs) := hr
      clear hr
      have hd := rightF_drop (len := len) (zs := zs) (k := k) (by omega) sn
      have HD : Hid _ := hd
      clear hd
      obtain ⟨v, hv⟩ : ∃ v, v = zs.getD k 0 := ⟨_, rfl⟩
      rw [← hv] at hcell HD
      have HV : Hid _ := hv
      clear hv
      by_cases c1 : v < 0
      · have E : Hid (rightF len none16 zs = false) := by show _ = _; rw [← HR.out, HD.out, if_pos (Or.inl c1)]
        go_wp2
        go_ret
        exact ⟨by rw [E.out]; rfl, hb⟩
      · by_cases c2 : (len : Int) ≤ v
        · have E : Hid (rightF len none16 zs = false) := by show _ = _; rw [← HR.out, HD.out, if_pos (Or.inr (Or.inl c2))]
          go_wp2
          go_ret
          exact ⟨by rw [E.out]; rfl, hb⟩
        · obtain ⟨j, rfl⟩ : ∃ j : Nat, v = (j : Int) := ⟨v.toNat, by omega⟩
          have hj : j < 16 := by omega
          have hsc := World.rowIs.cell hsn hj
          have hsf := World.rowIs.frozen hsn j
          have hn1 : decide ((j : Int) < 0) = false := by simp
          have hn2 : decide ((len : Int) ≤ (j : Int)) = false := by simp; omega
          by_cases c3 : sn.getD j false = true
          · have E : Hid (rightF len none16 zs = false) := by show _ = _; rw [← HR.out, HD.out, if_pos (by right; right; exact c3)]
            rw [c3] at hsc
            go_wp2
            go_ret
            exact ⟨by rw [E.out]; rfl, hb⟩
          · have c3' : sn.getD j false = false := by simpa using c3
            rw [c3'] at hsc
            have R : Hid (rightF len (sn.set j true) (zs.drop (k + 1)) = rightF len none16 zs) := by
              show _ = _
              rw [← HR.out, HD.out, if_neg (by rintro (h | h | h) <;> first | omega | exact c3 h)]; rfl
            have hs' := Seen.put hsn hsl j hj
            have hb' := hb.setCell (p := ⟨w.heap.size, j, none⟩) (Nat.le_refl _) (.bool true)
            clear c3 c3'
            go_wp2
            go_roundw
            case rel => exact ⟨k + 1, sn.set j true, by omega, by go_num, by simpa using hsl, R.out, hs', hb'⟩
            case measure => simp [intOf]; omega
    · have hkl : k = len := by omega
      have E : Hid (rightF len none16 zs = true) := by show _ = _; rw [← hr, List.drop_of_length_le (by omega)]; rfl
      clear hr
      go_wp2
      go_ret
      exact ⟨by rw [E.out]; rfl, hb⟩
theorem right_empty (a : Option Addr) (cap : Nat) (w : World) :
    Calls Try.prog 40 #[.slice a 0 cap] w fun e w' => e = .returned (.bool true) ∧ Below w.heap.size w w' := by
  go_enter Try.func40, Try.ntmps40
  go_wp2_with (go_at_call 38; refine (fits_any _ _ (by omega) (by omega)).mono ?_; rintro e w' ⟨rfl, rfl⟩)
  refine wp_loop_rounds 1 ?_
  rw [rounds_succ]
  go_wp2
  go_ret
  exact ⟨rfl, (Below.refl _ _).alloc (Nat.le_refl _) _⟩
/-- The slice value v reads as the numbers zs in the world w. -/
def Sees (w : World) (v : Value) (zs : List Int) : Prop :=
  ∃ (a : Option Addr) (cap : Nat), v = .slice a zs.length cap ∧ zs.length ≤ 9223372036854775807 ∧ (zs = [] ∨ ∃ b off, a = some ⟨b, off, none⟩ ∧ ∀ j, j < zs.length → w.cell? ⟨b, off + j, none⟩ = some (.int .i64 (zs.getD j 0)))
theorem Sees.below {w w' : World} {v : Value} {zs : List Int} {B : Nat} (h : Sees w v zs) (hb : Below B w w') (hB : w.heap.size ≤ B) : Sees w' v zs := by
  obtain ⟨a, cap, rfl, hl, h⟩ := h
  refine ⟨a, cap, rfl, hl, ?_⟩
  rcases h with h | ⟨b, off, rfl, hc⟩
  · exact .inl h
  · exact .inr ⟨b, off, rfl, fun j hj => by
      have := World.block_lt_of_cell? w _ (hc j hj)
      exact (hb.cell (p := ⟨b, off + j, none⟩) (Nat.lt_of_lt_of_le this hB)).trans (hc j hj)⟩
theorem right_any (v : Value) (zs : List Int) (w : World) (h : Sees w v zs) :
    Calls Try.prog 40 #[v] w fun e w' => e = .returned (.bool (rightB zs)) ∧ Below w.heap.size w w' := by
  obtain ⟨a, cap, rfl, hl, h⟩ := h
  by_cases h16 : zs.length ≤ 16
  · have e : rightB zs = rightF zs.length none16 zs := by simp [rightB, h16]
    rw [e]
    rcases h with rfl | ⟨b, off, rfl, hc⟩
    · exact right_empty a cap w
    · exact right_walk b off zs.length cap zs w h16 rfl hc
  · have e : rightB zs = false := by simp [rightB, h16]
    rw [e]
    refine (right_long a zs.length cap w (by omega)).mono ?_
    rintro e w' ⟨rfl, rfl⟩
    exact ⟨rfl, Below.refl _ _⟩
end Go.Proofs.Ytjlnnpcaeikolaa.Perm
