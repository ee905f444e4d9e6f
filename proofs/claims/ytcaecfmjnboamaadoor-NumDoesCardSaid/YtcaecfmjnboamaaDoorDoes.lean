/-
  The statement NumDoes: its function comes to true at every operation and every numbers.
-/
import Derived.Test.YtcaecfmjnboamaaDoorDoRef
namespace Go.Proofs.YtcaecfmjnboamaaDoor
open Go.RowKit
/-- The slice value v reads as the numbers ls in the world w. -/
def Words (w : World) (v : Value) (ls : List Int) : Prop :=
  ∃ (a : Option Addr) (cap : Nat), v = .slice a ls.length cap ∧ (∀ z ∈ ls, In64 z) ∧ (ls = [] ∨ ∃ b off, a = some ⟨b, off, none⟩ ∧ ∀ j, j < ls.length → w.cell? ⟨b, off + j, none⟩ = some (.int .i64 (ls.getD j 0)))
theorem Words.on {w w' : World} {v : Value} {ls : List Int} (h : Words w v ls) (hb : Below w.heap.size w w') : Words w' v ls := by
  obtain ⟨a, cap, rfl, hl, h⟩ := h
  refine ⟨a, cap, rfl, hl, ?_⟩
  rcases h with h | ⟨b, off, rfl, hc⟩
  · exact .inl h
  · exact .inr ⟨b, off, rfl, fun j hj => (hb.cell (p := ⟨b, off + j, none⟩) (World.block_lt_of_cell? w _ (hc j hj))).trans (hc j hj)⟩
theorem getD_mem {ls : List Int} {j : Nat} (h : j < ls.length) : ls.getD j 0 ∈ ls := by
  have e : ls.getD j 0 = ls[j] := by simp [List.getD, h]
  rw [e]; exact List.getElem_mem h
def dE (o : Int) (n : Nat) : Int := if arity o = 0 then 2 else if (n : Int) = arity o then 0 else 3
def dW (o : Int) (ls : List Int) : Int :=
  if dE o ls.length = 0 then (if o = 15 then opNot (ls.getD 0 0) else if o = 18 then opIf (ls.getD 0 0) (ls.getD 1 0) (ls.getD 2 0) else opTwo o.toNat (ls.getD 0 0) (ls.getD 1 0)) else 0
theorem arity_cases (o : Int) : (arity o = 0 ∧ (o < 1 ∨ 19 < o)) ∨ o = 15 ∨ o = 18 ∨ (arity o = 2 ∧ (o = 1 ∨ o = 2 ∨ o = 3 ∨ o = 4 ∨ o = 5 ∨ o = 6 ∨ o = 7 ∨ o = 8 ∨ o = 9 ∨ o = 10 ∨ o = 11 ∨ o = 12 ∨ o = 13 ∨ o = 14 ∨ o = 16 ∨ o = 17 ∨ o = 19)) := by
  unfold arity
  split
  · omega
  · split
    · omega
    · split <;> omega
set_option maxHeartbeats 1000000 in
theorem do_any (o : Int) (h0 : 0 ≤ o) (v : Value) (ls : List Int) (w : World) (h : Words w v ls) :
    Calls Tryd.prog 27 #[.int .u8 o, v] w fun e w' => e = .returned (.tuple #[.int .i64 (dW o ls), .int .i64 (dE o ls.length)]) ∧ Below w.heap.size w w' := by
  obtain ⟨a, cap, rfl, hin, hs⟩ := h
  by_cases ha : arity o = 0
  · have e : dE o ls.length = 2 := if_pos ha
    have e2 : dW o ls = 0 := by unfold dW; rw [if_neg (by omega)]
    rw [e, e2]
    refine (do_none o h0 a ls.length cap w ha).mono ?_
    rintro e w' ⟨rfl, rfl⟩
    exact ⟨rfl, Below.refl _ _⟩
  by_cases hn : (ls.length : Int) = arity o
  · have e : dE o ls.length = 0 := by unfold dE; rw [if_neg ha, if_pos hn]
    have e2 : dW o ls = (if o = 15 then opNot (ls.getD 0 0) else if o = 18 then opIf (ls.getD 0 0) (ls.getD 1 0) (ls.getD 2 0) else opTwo o.toNat (ls.getD 0 0) (ls.getD 1 0)) := by unfold dW; rw [if_pos e]
    rw [e, e2]
    clear e e2
    rcases hs with rfl | ⟨b, off, rfl, hc⟩
    · exact absurd hn.symm (by simpa using ha)
    rcases arity_cases o with ⟨h, _⟩ | rfl | rfl | ⟨h2, hk⟩
    · exact absurd h ha
    · have hl : ls.length = 1 := by have : arity 15 = 1 := by decide
                                    omega
      rw [hl] at hc ⊢
      rw [if_pos rfl]
      exact do15 w _ b off cap (hc 0 (by omega))
    · have hl : ls.length = 3 := by have : arity 18 = 3 := by decide
                                    omega
      rw [hl] at hc ⊢
      rw [if_neg (by omega), if_pos rfl]
      exact do18 w _ _ _ b off cap (hc 0 (by omega)) (hc 1 (by omega)) (hc 2 (by omega))
    · have hl : ls.length = 2 := by omega
      have i0 : In64 (ls.getD 0 0) := hin _ (getD_mem (by omega))
      have i1 : In64 (ls.getD 1 0) := hin _ (getD_mem (by omega))
      rw [hl] at hc ⊢
      rw [if_neg (by omega), if_neg (by omega)]
      have c0 := hc 0 (by omega)
      have c1 := hc 1 (by omega)
      rw [Nat.add_zero] at c0
      rcases hk with rfl | rfl | rfl | rfl | rfl | rfl | rfl | rfl | rfl | rfl | rfl | rfl | rfl | rfl | rfl | rfl | rfl
      · exact (do1 w _ _ b off cap c0 c1).mono (fun _ _ h => ⟨h.1, by obtain ⟨n, hn⟩ := h.2; rw [hn]; exact below_drewN (Below.refl _ _) n⟩)
      · exact (do2 w _ _ b off cap c0 c1).mono (fun _ _ h => ⟨h.1, by obtain ⟨n, hn⟩ := h.2; rw [hn]; exact below_drewN (Below.refl _ _) n⟩)
      · exact (do3 w _ _ b off cap c0 c1).mono (fun _ _ h => ⟨h.1, by obtain ⟨n, hn⟩ := h.2; rw [hn]; exact below_drewN (Below.refl _ _) n⟩)
      · exact (do4 w _ _ b off cap c0 c1).mono (fun _ _ h => ⟨h.1, by obtain ⟨n, hn⟩ := h.2; rw [hn]; exact below_drewN (Below.refl _ _) n⟩)
      · exact (do5 w _ _ b off cap c0 c1).mono (fun _ _ h => ⟨h.1, by obtain ⟨n, hn⟩ := h.2; rw [hn]; exact below_drewN (Below.refl _ _) n⟩)
      · exact (do6 w _ _ b off cap c0 c1).mono (fun _ _ h => ⟨h.1, by obtain ⟨n, hn⟩ := h.2; rw [hn]; exact below_drewN (Below.refl _ _) n⟩)
      · exact (do7 w _ _ b off cap c0 c1).mono (fun _ _ h => ⟨h.1, by obtain ⟨n, hn⟩ := h.2; rw [hn]; exact below_drewN (Below.refl _ _) n⟩)
      · exact (do8 w _ _ b off cap c0 c1).mono (fun _ _ h => ⟨h.1, by obtain ⟨n, hn⟩ := h.2; rw [hn]; exact below_drewN (Below.refl _ _) n⟩)
      · exact (do9 w _ _ b off cap c0 c1).mono (fun _ _ h => ⟨h.1, by obtain ⟨n, hn⟩ := h.2; rw [hn]; exact below_drewN (Below.refl _ _) n⟩)
      · exact (do10 w _ _ b off cap c0 c1).mono (fun _ _ h => ⟨h.1, by obtain ⟨n, hn⟩ := h.2; rw [hn]; exact below_drewN (Below.refl _ _) n⟩)
      · exact (do11 w _ _ b off cap c0 c1).mono (fun _ _ h => ⟨h.1, by obtain ⟨n, hn⟩ := h.2; rw [hn]; exact below_drewN (Below.refl _ _) n⟩)
      · exact (do12 w _ _ b off cap c0 c1).mono (fun _ _ h => ⟨h.1, by obtain ⟨n, hn⟩ := h.2; rw [hn]; exact below_drewN (Below.refl _ _) n⟩)
      · exact (do13 w _ _ b off cap c0 c1).mono (fun _ _ h => ⟨h.1, by obtain ⟨n, hn⟩ := h.2; rw [hn]; exact below_drewN (Below.refl _ _) n⟩)
      · exact (do14 w _ _ b off cap c0 c1).mono (fun _ _ h => ⟨h.1, by obtain ⟨n, hn⟩ := h.2; rw [hn]; exact below_drewN (Below.refl _ _) n⟩)
      · exact (do16 w _ _ b off cap c0 c1).mono (fun _ _ h => ⟨h.1, by obtain ⟨n, hn⟩ := h.2; rw [hn]; exact below_drewN (Below.refl _ _) n⟩)
      · exact (do17 w _ _ b off cap c0 c1).mono (fun _ _ h => ⟨h.1, by obtain ⟨n, hn⟩ := h.2; rw [hn]; exact below_drewN (Below.refl _ _) n⟩)
      · exact (do19 w _ _ b off cap c0 c1).mono (fun _ _ h => ⟨h.1, by obtain ⟨n, hn⟩ := h.2; rw [hn]; exact below_drewN (Below.refl _ _) n⟩)
  · have e : dE o ls.length = 3 := by unfold dE; rw [if_neg ha, if_neg hn]
    have e2 : dW o ls = 0 := by unfold dW; rw [if_neg (by omega)]
    rw [e, e2]
    refine (do_len o h0 a ls.length cap w (by simpa using ha) (by simpa using hn)).mono ?_
    rintro e w' ⟨rfl, rfl⟩
    exact ⟨rfl, Below.refl _ _⟩
set_option maxHeartbeats 1000000 in
theorem doR_any (o : Int) (h0 : 0 ≤ o) (v : Value) (ls : List Int) (w : World) (h : Words w v ls) :
    Calls Tryd.prog 28 #[.int .u8 o, v] w fun e w' => e = .returned (.tuple #[.int .i64 (dW o ls), .int .i64 (dE o ls.length)]) ∧ Below w.heap.size w w' := by
  obtain ⟨a, cap, rfl, hin, hs⟩ := h
  by_cases ha : arity o = 0
  · have e : dE o ls.length = 2 := if_pos ha
    have e2 : dW o ls = 0 := by unfold dW; rw [if_neg (by omega)]
    rw [e, e2]
    refine (doR_none o h0 a ls.length cap w ha).mono ?_
    rintro e w' ⟨rfl, rfl⟩
    exact ⟨rfl, Below.refl _ _⟩
  by_cases hn : (ls.length : Int) = arity o
  · have e : dE o ls.length = 0 := by unfold dE; rw [if_neg ha, if_pos hn]
    have e2 : dW o ls = (if o = 15 then opNot (ls.getD 0 0) else if o = 18 then opIf (ls.getD 0 0) (ls.getD 1 0) (ls.getD 2 0) else opTwo o.toNat (ls.getD 0 0) (ls.getD 1 0)) := by unfold dW; rw [if_pos e]
    rw [e, e2]
    clear e e2
    rcases hs with rfl | ⟨b, off, rfl, hc⟩
    · exact absurd hn.symm (by simpa using ha)
    rcases arity_cases o with ⟨h, _⟩ | rfl | rfl | ⟨h2, hk⟩
    · exact absurd h ha
    · have hl : ls.length = 1 := by have : arity 15 = 1 := by decide
                                    omega
      rw [hl] at hc ⊢
      rw [if_pos rfl]
      exact doR15 w _ b off cap (hc 0 (by omega))
    · have hl : ls.length = 3 := by have : arity 18 = 3 := by decide
                                    omega
      rw [hl] at hc ⊢
      rw [if_neg (by omega), if_pos rfl]
      exact doR18 w _ _ _ b off cap (hc 0 (by omega)) (hc 1 (by omega)) (hc 2 (by omega))
    · have hl : ls.length = 2 := by omega
      have i0 : In64 (ls.getD 0 0) := hin _ (getD_mem (by omega))
      have i1 : In64 (ls.getD 1 0) := hin _ (getD_mem (by omega))
      rw [hl] at hc ⊢
      rw [if_neg (by omega), if_neg (by omega)]
      have c0 := hc 0 (by omega)
      have c1 := hc 1 (by omega)
      rw [Nat.add_zero] at c0
      rcases hk with rfl | rfl | rfl | rfl | rfl | rfl | rfl | rfl | rfl | rfl | rfl | rfl | rfl | rfl | rfl | rfl | rfl
      · exact doR1 w _ _ i0 i1 b off cap c0 c1
      · exact doR2 w _ _ i0 i1 b off cap c0 c1
      · exact doR3 w _ _ i0 i1 b off cap c0 c1
      · exact doR4 w _ _ i0 i1 b off cap c0 c1
      · exact doR5 w _ _ i0 i1 b off cap c0 c1
      · exact doR6 w _ _ i0 i1 b off cap c0 c1
      · exact doR7 w _ _ i0 i1 b off cap c0 c1
      · exact doR8 w _ _ i0 i1 b off cap c0 c1
      · exact doR9 w _ _ i0 i1 b off cap c0 c1
      · exact doR10 w _ _ i0 i1 b off cap c0 c1
      · exact doR11 w _ _ i0 i1 b off cap c0 c1
      · exact doR12 w _ _ i0 i1 b off cap c0 c1
      · exact doR13 w _ _ i0 i1 b off cap c0 c1
      · exact doR14 w _ _ i0 i1 b off cap c0 c1
      · exact doR16 w _ _ i0 i1 b off cap c0 c1
      · exact doR17 w _ _ i0 i1 b off cap c0 c1
      · exact doR19 w _ _ i0 i1 b off cap c0 c1
  · have e : dE o ls.length = 3 := by unfold dE; rw [if_neg ha, if_neg hn]
    have e2 : dW o ls = 0 := by unfold dW; rw [if_neg (by omega)]
    rw [e, e2]
    refine (doR_len o h0 a ls.length cap w (by simpa using ha) (by simpa using hn)).mono ?_
    rintro e w' ⟨rfl, rfl⟩
    exact ⟨rfl, Below.refl _ _⟩
theorem few_short (a : Option Addr) (n cap : Nat) (w : World) (h : n ≤ 20) :
    Calls Tryd.prog 26 #[.slice a n cap] w fun e w' => e = .returned (.slice a n cap) ∧ w = w' := by
  have q : ¬ (20 : Int) < (n : Int) := by omega
  go_enter Tryd.func26, Tryd.ntmps26
  go_wp2
  go_ret
  exact ⟨rfl, rfl⟩
theorem few_long (b off n cap : Nat) (w : World) (h : 20 < n) (hc : n ≤ cap) :
    Calls Tryd.prog 26 #[.slice (some ⟨b, off, none⟩) n cap] w fun e w' => e = .returned (.slice (some ⟨b, off, none⟩) 20 cap) ∧ w = w' := by
  have q : (20 : Int) < (n : Int) := by omega
  go_enter Tryd.func26, Tryd.ntmps26
  go_wp2
  go_ret
  exact ⟨rfl, rfl⟩
end Go.Proofs.YtcaecfmjnboamaaDoor
