/-
  The edge at a place.
-/
import Derived.Test.YtbjoljokdjgbnaaRGraph
import Derived.Laws.ResultCell
namespace Go.Proofs.Ytbjoljokdjgbnaa
open Go.RowKit Go.Deep
/-- What Edge tells. -/
def edgeAt (es : Edges) (i : Int) : (Int × Int) × Bool := if i < 0 ∨ (es.length : Int) ≤ i then ((0, 0), false) else (es.getD i.toNat (0, 0), true)
set_option maxRecDepth 100000 in
set_option maxHeartbeats 1000000 in
theorem redge_low (rp : Option Addr) (i : Int) (w : World) (h : i < 0) :
    Calls Try.prog 49 #[.pointer rp, .int .i64 i] w fun e w' => e = .returned (.tuple #[.agg #[.int .i64 0, .int .i64 0], .bool false]) ∧ Below w.heap.size w w' := by
  go_enter Try.func49, Try.ntmps49
  go_wp2
  (try simp only [Exit.inBlock, Exit.then])
  refine bodyPost_ret (v := .tuple #[.agg #[.int .i64 0, .int .i64 0], .bool false]) ?_ rfl ⟨rfl, ?_⟩
  · rw [results_cell_tmp rfl]
    go_simp
  · exact (Below.refl _ w).alloc (Nat.le_refl _) _
set_option maxRecDepth 100000 in
set_option maxHeartbeats 1000000 in
theorem redge_high (rp : Option Addr) (n i : Int) (es : Edges) (w : World) (hg : IsR w rp n es) (h0 : ¬ i < 0) (h : (es.length : Int) ≤ i) :
    Calls Try.prog 49 #[.pointer rp, .int .i64 i] w fun e w' => e = .returned (.tuple #[.agg #[.int .i64 0, .int .i64 0], .bool false]) ∧ Below w.heap.size w w' := by
  have C := hidI (rm_any rp n es _ (hg.below ((Below.refl _ w).alloc (Nat.le_refl _) (.cells #[.int .i64 0, .int .i64 0] 55)) (Nat.le_refl _)))
  have d0 : decide (i < 0) = false := by simpa using h0
  clear hg
  go_enter Try.func49, Try.ntmps49
  go_wp2_with (go_at_call 52; refine Calls.mono C.out ?_; rintro e w1 ⟨rfl, rfl⟩)
  (try simp only [Exit.inBlock, Exit.then])
  refine bodyPost_ret (v := .tuple #[.agg #[.int .i64 0, .int .i64 0], .bool false]) ?_ rfl ⟨rfl, ?_⟩
  · rw [results_cell_tmp rfl]
    go_simp
  · exact (Below.refl _ w).alloc (Nat.le_refl _) _
set_option maxRecDepth 100000 in
set_option maxHeartbeats 1000000 in
theorem redge_in (rp : Option Addr) (n : Int) (i : Nat) (x : Int × Int) (es : Edges) (w : World) (hg : IsR w rp n es) (hx : es[i]? = some x) :
    Calls Try.prog 49 #[.pointer rp, .int .i64 (i : Int)] w fun e w' => e = .returned (.tuple #[.agg #[.int .i64 x.1, .int .i64 x.2], .bool true]) ∧ Below w.heap.size w w' := by
  have hil := (List.getElem?_eq_some_iff.1 hx).1
  have C := hidI (rm_any rp n es _ (hg.below ((Below.refl _ w).alloc (Nat.le_refl _) (.cells #[.int .i64 0, .int .i64 0] 55)) (Nat.le_refl _)))
  have h30 := hg.short
  rcases hg with ⟨_, _, h0⟩ | ⟨rb, ev, rfl, _, _, _, hgd, c0, c1, hse⟩
  · rw [h0] at hx; simp at hx
  obtain ⟨ea, ecap, rfl, hse⟩ := hse
  rcases hse with h0 | ⟨b, off, rfl, hl⟩
  · rw [h0] at hx; simp at hx
  obtain ⟨d1, d2⟩ := hl i x hx
  have bl1 := World.block_lt_of_cell? w _ c1
  have bl2 := World.block_lt_of_cell? w _ d1
  obtain ⟨m, hm⟩ : ∃ m, es.length = m := ⟨_, rfl⟩
  rw [hm] at C c1 hil h30
  clear hm hx hl hgd c0
  have k1 : decide ((i : Int) < 0) = false := by simp
  have k2 : decide ((m : Int) ≤ (i : Int)) = false := by simp; omega
  go_enter Try.func49, Try.ntmps49
  go_wp2_with (go_at_call 52; refine Calls.mono C.out ?_; rintro e w1 ⟨rfl, rfl⟩)
  (try simp only [Exit.inBlock, Exit.then])
  refine bodyPost_ret (v := .tuple #[.agg #[.int .i64 x.1, .int .i64 x.2], .bool true]) ?_ rfl ⟨rfl, ?_⟩
  · rw [results_cell_tmp rfl]
    go_simp
  · exact (Below.refl _ w).alloc (Nat.le_refl _) _
theorem redge_any (rp : Option Addr) (n i : Int) (es : Edges) (w : World) (hg : IsR w rp n es) :
    Calls Try.prog 49 #[.pointer rp, .int .i64 i] w fun e w' => e = .returned (.tuple #[.agg #[.int .i64 (edgeAt es i).1.1, .int .i64 (edgeAt es i).1.2], .bool (edgeAt es i).2]) ∧ Below w.heap.size w w' := by
  unfold edgeAt
  by_cases h0 : i < 0
  · rw [if_pos (.inl h0)]; exact redge_low rp i w h0
  · by_cases h1 : (es.length : Int) ≤ i
    · rw [if_pos (.inr h1)]; exact redge_high rp n i es w hg h0 h1
    · rw [if_neg (by omega)]
      obtain ⟨k, rfl⟩ : ∃ k : Nat, i = k := ⟨i.toNat, by omega⟩
      have hk : k < es.length := by omega
      have e1 : es.getD (k : Int).toNat (0, 0) = es[k] := by simp [List.getD, hk]
      rw [e1]
      exact redge_in rp n k es[k] es w hg (List.getElem?_eq_getElem hk)
set_option maxRecDepth 100000 in
set_option maxHeartbeats 1000000 in
theorem edge_low (rp : Option Addr) (i : Int) (w : World) (h : i < 0) :
    Calls Try.prog 48 #[.pointer rp, .int .i64 i] w fun e w' => e = .returned (.tuple #[.agg #[.int .i64 0, .int .i64 0], .bool false]) ∧ Below w.heap.size w w' := by
  go_enter Try.func48, Try.ntmps48
  go_wp2
  (try simp only [Exit.inBlock, Exit.then])
  refine bodyPost_ret (v := .tuple #[.agg #[.int .i64 0, .int .i64 0], .bool false]) ?_ rfl ⟨rfl, ?_⟩
  · rw [results_cell_tmp rfl]
    go_simp
  · exact (Below.refl _ w).alloc (Nat.le_refl _) _
set_option maxRecDepth 100000 in
set_option maxHeartbeats 1000000 in
theorem edge_high (rp : Option Addr) (n i : Int) (es : Edges) (w : World) (hg : IsG w rp n es) (h0 : ¬ i < 0) (h : (es.length : Int) ≤ i) :
    Calls Try.prog 48 #[.pointer rp, .int .i64 i] w fun e w' => e = .returned (.tuple #[.agg #[.int .i64 0, .int .i64 0], .bool false]) ∧ Below w.heap.size w w' := by
  have C := hidI (m_any rp n es _ (hg.below ((Below.refl _ w).alloc (Nat.le_refl _) (.cells #[.int .i64 0, .int .i64 0] 55)) (Nat.le_refl _)))
  have d0 : decide (i < 0) = false := by simpa using h0
  clear hg
  go_enter Try.func48, Try.ntmps48
  go_wp2_with (go_at_call 40; refine Calls.mono C.out ?_; rintro e w1 ⟨rfl, rfl⟩)
  (try simp only [Exit.inBlock, Exit.then])
  refine bodyPost_ret (v := .tuple #[.agg #[.int .i64 0, .int .i64 0], .bool false]) ?_ rfl ⟨rfl, ?_⟩
  · rw [results_cell_tmp rfl]
    go_simp
  · exact (Below.refl _ w).alloc (Nat.le_refl _) _
set_option maxRecDepth 100000 in
set_option maxHeartbeats 1000000 in
theorem edge_in (rp : Option Addr) (n : Int) (i : Nat) (x : Int × Int) (es : Edges) (w : World) (hg : IsG w rp n es) (hx : es[i]? = some x) :
    Calls Try.prog 48 #[.pointer rp, .int .i64 (i : Int)] w fun e w' => e = .returned (.tuple #[.agg #[.int .i64 x.1, .int .i64 x.2], .bool true]) ∧ Below w.heap.size w w' := by
  have hil := (List.getElem?_eq_some_iff.1 hx).1
  have C := hidI (m_any rp n es _ (hg.below ((Below.refl _ w).alloc (Nat.le_refl _) (.cells #[.int .i64 0, .int .i64 0] 55)) (Nat.le_refl _)))
  have h30 := hg.short
  rcases hg with ⟨_, _, h0⟩ | ⟨rb, ev, mb, base, rfl, _, _, _, hgd, c0, c1, hse, c2, hmp⟩
  · rw [h0] at hx; simp at hx
  obtain ⟨ea, ecap, rfl, hse⟩ := hse
  rcases hse with h0 | ⟨b, off, rfl, hl⟩
  · rw [h0] at hx; simp at hx
  obtain ⟨d1, d2⟩ := hl i x hx
  have bl1 := World.block_lt_of_cell? w _ c1
  have bl2 := World.block_lt_of_cell? w _ d1
  obtain ⟨m, hm⟩ : ∃ m, es.length = m := ⟨_, rfl⟩
  rw [hm] at C c1 hil h30
  clear hm hx hl hgd c0 c2 hmp
  have k1 : decide ((i : Int) < 0) = false := by simp
  have k2 : decide ((m : Int) ≤ (i : Int)) = false := by simp; omega
  go_enter Try.func48, Try.ntmps48
  go_wp2_with (go_at_call 40; refine Calls.mono C.out ?_; rintro e w1 ⟨rfl, rfl⟩)
  (try simp only [Exit.inBlock, Exit.then])
  refine bodyPost_ret (v := .tuple #[.agg #[.int .i64 x.1, .int .i64 x.2], .bool true]) ?_ rfl ⟨rfl, ?_⟩
  · rw [results_cell_tmp rfl]
    go_simp
  · exact (Below.refl _ w).alloc (Nat.le_refl _) _
theorem edge_any (rp : Option Addr) (n i : Int) (es : Edges) (w : World) (hg : IsG w rp n es) :
    Calls Try.prog 48 #[.pointer rp, .int .i64 i] w fun e w' => e = .returned (.tuple #[.agg #[.int .i64 (edgeAt es i).1.1, .int .i64 (edgeAt es i).1.2], .bool (edgeAt es i).2]) ∧ Below w.heap.size w w' := by
  unfold edgeAt
  by_cases h0 : i < 0
  · rw [if_pos (.inl h0)]; exact edge_low rp i w h0
  · by_cases h1 : (es.length : Int) ≤ i
    · rw [if_pos (.inr h1)]; exact edge_high rp n i es w hg h0 h1
    · rw [if_neg (by omega)]
      obtain ⟨k, rfl⟩ : ∃ k : Nat, i = k := ⟨i.toNat, by omega⟩
      have hk : k < es.length := by omega
      have e1 : es.getD (k : Int).toNat (0, 0) = es[k] := by simp [List.getD, hk]
      rw [e1]
      exact edge_in rp n k es[k] es w hg (List.getElem?_eq_getElem hk)
end Go.Proofs.Ytbjoljokdjgbnaa
