/-
  Parts that are made: what New comes to.
-/
import Derived.Test.YtjlnnpcaeikolaaPMay
namespace Go.Proofs.Ytjlnnpcaeikolaa
open Go.RowKit Go.Deep
theorem new_nil (n k : Int) (a : Option Addr) (l c : Nat) (w : World) (h : ¬ mayP n k) : Calls Try.prog 8 #[.int .i64 n, .int .i64 k, .slice a l c] w fun e w' => e = .returned (.pointer none) ∧ w = w' := by
  have C := hidI (may_no n k w h)
  clear h
  go_enter Try.func8, Try.ntmps8
  go_wp2_with (go_at_call 29; refine Calls.mono C.out ?_; rintro e w' ⟨rfl, rfl⟩)
  go_ret
  exact ⟨rfl, rfl⟩
/-- The worker of the node v, by the numbers bys. -/
def wkOf (k : Nat) (bys : List Int) (v : Nat) : Nat := if v < bys.length then (bys.getD v 0 % k).toNat else 0
theorem wkOf_lt {k : Nat} (hk : 1 ≤ k) (bys : List Int) (v : Nat) : wkOf k bys v < k := by
  unfold wkOf
  split
  · have h1 := Int.emod_nonneg (bys.getD v 0) (b := (k : Int)) (by omega)
    have h2 := Int.emod_lt_of_pos (bys.getD v 0) (b := (k : Int)) (by omega)
    omega
  · omega
theorem mem_succ_same {v : Nat} {wk : Nat → Nat} {u : Nat} (h : wk v = u) : mem (v + 1) wk u = mem v wk u ++ [(v : Int)] := by simp [mem, List.range_succ, h]
theorem mem_succ_other {v : Nat} {wk : Nat → Nat} {u : Nat} (h : wk v ≠ u) : mem (v + 1) wk u = mem v wk u := by simp [mem, List.range_succ, h]
theorem grownBy_set (W : World) (b j : Nat) (v : Value) : W.grownBy (W.setCell ⟨b, j, none⟩ v) (some b) :=
  ⟨rfl, rfl, rfl, (KeepsWalks.setCell W _ v).size, fun k _ hk => Below.heap_setCell _ _ _ k (fun e => hk (by rw [e]))⟩
/-- The lists of the parts at pb, each in a row of its own from base on. -/
def Lists (W : World) (pb base : Nat) (f : Nat → List Int) : Prop :=
  ∃ vs : Nat → Value, (∀ u, u < 4 → W.cell? ⟨pb, 2 + u, none⟩ = some (vs u) ∧ W.frozen? ⟨pb, 2 + u, none⟩ = false ∧ W.ownsRow base 3 1 (vs u) (f u).length ((f u).map (Value.int .i64))) ∧
    ∀ u u' g, u < 4 → u' < 4 → (vs u).ownBlock = some g → (vs u').ownBlock = some g → u = u'
theorem Lists.drew {W : World} {pb base : Nat} {f : Nat → List Int} (h : Lists W pb base f) : Lists W.drew pb base f := h
/-- One more number in the list of the worker u. -/
theorem Lists.put {W W1 : World} {pb base u cap g : Nat} {f f' : Nat → List Int} {vs : Nat → Value} {z : Int} {tmp : Obj} (hpb : pb < base) (hu : u < 4)
    (h : ∀ u, u < 4 → W.cell? ⟨pb, 2 + u, none⟩ = some (vs u) ∧ W.frozen? ⟨pb, 2 + u, none⟩ = false ∧ W.ownsRow base 3 1 (vs u) (f u).length ((f u).map (Value.int .i64)))
    (ha : ∀ u u' g, u < 4 → u' < 4 → (vs u).ownBlock = some g → (vs u').ownBlock = some g → u = u')
    (hown : W1.ownsRow base 3 1 (.slice (some ⟨g, 0, none⟩) ((f u).length + 1) cap) ((f u).length + 1) ((f u).map (Value.int .i64) ++ [.int .i64 z])) (hg : (W.alloc tmp).grownBy W1 (vs u).ownBlock) (hat : (vs u).ownBlock = some g ∨ W.heap.size ≤ g)
    (hf : f' u = f u ++ [z]) (hf' : ∀ u', u' ≠ u → f' u' = f u') : Lists (W1.setCell ⟨pb, 2 + u, none⟩ (.slice (some ⟨g, 0, none⟩) ((f u).length + 1) cap)) pb base f' := by
  have hne : ∀ u', u' < 4 → (vs u').ownBlock ≠ some pb := fun u' hu' e => by have := ((h u' hu').2.2.lt pb e).1; omega
  have hpW : pb < W.heap.size := World.block_lt_of_cell? W _ (h u hu).1
  have hcell : ∀ u', u' < 4 → W1.cell? ⟨pb, 2 + u', none⟩ = some (vs u') := fun u' hu' => kept_cell hg (cell_al tmp (h u' hu').1) (Ne.symm (hne u hu))
  have hfz : ∀ u', u' < 4 → W1.frozen? ⟨pb, 2 + u', none⟩ = false := fun u' hu' => by
    have e1 : W1.heap[pb]? = (W.alloc tmp).heap[pb]? := hg.block pb (by simp; omega) (Ne.symm (hne u hu))
    have e2 : (W.alloc tmp).heap[pb]? = W.heap[pb]? := Below.heap_alloc _ _ _ hpW
    rw [← (h u' hu').2.1]
    exact World.frozen?_of_block (by rw [e1, e2])
  have hgb : g ≠ pb := fun e => by subst e; have := (hown.lt g rfl).1; omega
  refine ⟨fun u' => if u' = u then .slice (some ⟨g, 0, none⟩) ((f u).length + 1) cap else vs u', fun u' hu' => ?_, fun a b gg hau hbu e1 e2 => ?_⟩
  · by_cases e : u' = u
    · subst e
      simp only [if_true]
      refine ⟨World.cell?_setCell_same _ _ _ (hcell u' hu'), by rw [World.frozen?_setCell]; exact hfz u' hu', ?_⟩
      rw [hf, List.length_append, List.map_append]
      exact hown.kept (grownBy_set W1 pb (2 + u') _) (.inr fun e => hgb (Option.some.inj e))
    · dsimp only
      rw [if_neg e]
      have hk : W1.ownsRow base 3 1 (vs u') (f u').length ((f u').map (Value.int .i64)) := by
        refine ((h u' hu').2.2.alloc tmp).kept hg ?_
        cases hb : (vs u').ownBlock with
        | none => exact .inl rfl
        | some gg => exact .inr fun ee => e (ha u' u gg hu' hu hb ee.symm)
      refine ⟨(World.cell?_setCell_other _ _ _ _ (by intro hh; simp only [Addr.mk.injEq] at hh; omega)).trans (hcell u' hu'), by rw [World.frozen?_setCell]; exact hfz u' hu', ?_⟩
      rw [hf' u' e]
      exact hk.kept (grownBy_set W1 pb (2 + u) _) (.inr (hne u' hu'))
  · have key : ∀ b, b < 4 → b ≠ u → (vs b).ownBlock = some g → False := fun b hb hbu e => by
      rcases hat with h1 | h1
      · exact hbu (ha b u g hb hu e h1)
      · have := World.ownsRow.lt (h b hb).2.2 g e; omega
    dsimp only at e1 e2
    by_cases ea : a = u
    · by_cases eb : b = u
      · omega
      · rw [if_pos ea] at e1; rw [if_neg eb] at e2
        simp only [Value.ownBlock, Option.some.injEq] at e1
        subst e1
        exact (key b hbu eb e2).elim
    · by_cases eb : b = u
      · rw [if_neg ea] at e1; rw [if_pos eb] at e2
        simp only [Value.ownBlock, Option.some.injEq] at e2
        subst e2
        exact (key a hau ea e1).elim
      · rw [if_neg ea] at e1; rw [if_neg eb] at e2
        exact ha a b gg hau hbu e1 e2
end Go.Proofs.Ytjlnnpcaeikolaa
