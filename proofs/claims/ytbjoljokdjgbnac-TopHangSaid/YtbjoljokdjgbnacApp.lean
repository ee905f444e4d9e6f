/-
  Edges appended.
-/
import Derived.Test.YtbjoljokdjgbnacBase
import Derived.Deep.RegionHeldLaw
namespace Go.Proofs.Ytbjoljokdjgbnac
open Go.RowKit Go.Deep
theorem flat_append : ∀ es fs : Edges, flat (es ++ fs) = flat es ++ flat fs
  | [], _ => rfl
  | _ :: r, fs => by simp [flat, flat_append r fs]
theorem pair_new (w : World) (x y : Value) (t : TypeId) : ∀ (j : Nat) (u : Value), [x, y][j]? = some u → (w.alloc (.cells #[x, y] t)).cell? ((⟨w.heap.size, 0, none⟩ : Addr).add j) = some u := by
  intro j u h
  have hn := World.alloc_heap_new w (.cells #[x, y] t)
  rw [add_at]
  match j, h with
  | 0, h => cases h; unfold World.cell?; rw [hn]; rfl
  | 1, h => cases h; unfold World.cell?; rw [hn]; rfl
  | j + 2, h => simp at h
/-- Edges appended to a row of one's own. -/
theorem run_append_seesE (W : World) (ty base : Nat) (v : Value) (n : Nat) (xs : List Value) (u : Value) (es : Edges) (ho : W.ownsRow base 69 2 v n xs) (hu : SeesE W u es) (hn : n + es.length ≤ 1000000) (hb : base ≤ W.heap.size) :
    ∃ v' w', (Builtin.append_ #[62, 62] ty #[v, u]).run Try.prog W = .ok v' w' ∧ w'.ownsRow base 69 2 v' (n + es.length) (xs ++ flat es) ∧ W.grownBy w' v.ownBlock ∧ (v'.ownBlock = v.ownBlock ∨ v'.ownBlock = some W.heap.size) := by
  obtain ⟨i0, hi, hz0, hz1, hz2⟩ := info_parts Try.info69
  obtain ⟨a, cap, rfl, hs⟩ := hu
  rcases hs with rfl | ⟨b, off, rfl, hc⟩
  · refine ⟨v, W, ?_, by simpa [flat] using ho, World.grownBy.refl _ _, .inl rfl⟩
    rcases ho.2 with ⟨rfl, rfl⟩ | ⟨g, cap', cur, rfl, _, _, hle, _⟩
    · cases a <;> simp [Builtin.append_, run_underlying Try.underlying62, sizeOf, typeInfo, hi, loadCells, loadCellsFrom, Builtin.lenOf, Builtin.firstCells]
    · cases a <;> simp [Builtin.append_, run_underlying Try.underlying62, sizeOf, typeInfo, hi, hle, storeCells, loadCells, loadCellsFrom, Builtin.lenOf, Builtin.firstCells]
  · obtain ⟨v', w', hr, h2, h3, _, h5⟩ := run_append_own_at (P := Try.prog) W base 62 ty 69 i0 (.agg #[.int .i64 0, .int .i64 0]) 2 16 Try.underlying62 hi hz0 hz1 hz2 rfl (by decide) v n xs ho ⟨b, off, none⟩ es.length cap (flat es) (by rw [flat_length]) (lie_news hc) (flat_one es) (by unfold maxLen; omega) (by omega) hb
    exact ⟨v', w', hr, h2, h3, h5⟩
theorem wpList_append_seesE {ops : Array Oper} {rest : List Oper} {o : Oper} {a : Act} {Q : Exit → Act → World → Prop} {W : World} (hgd : o.guard = none) (s x : Operand)
    (ho : o.op = .call { callee := .builtin .append, args := #[s, x], argTypes := #[62, 62] }) (base : Nat) (v : Value) (n : Nat) (xs : List Value) (hs : a.eval s = v) (hown : W.ownsRow base 69 2 v n xs)
    (u : Value) (es : Edges) (hx : a.eval x = u) (hu : SeesE W u es) (hn : n + es.length ≤ 1000000) (hb : base ≤ W.heap.size)
    (h : ∀ v' w', w'.ownsRow base 69 2 v' (n + es.length) (xs ++ flat es) → W.grownBy w' v.ownBlock → (v'.ownBlock = v.ownBlock ∨ v'.ownBlock = some W.heap.size) → wpList Try.prog ops Q rest (a.put o.dst v') w') :
    wpList Try.prog ops Q (o :: rest) a W := by
  refine wpList_plain hgd fun K hK => ?_
  obtain ⟨v', w', hr, h2, h3, h4⟩ := run_append_seesE W o.type base v n xs u es hown hu hn hb
  unfold Oper.wp execOp
  simp only [ho, resolve, invoke, builtin, Sem.run_bind, Sem.run_pure, Result.andThen_ok, List.map_toArray, List.map_cons, List.map_nil, hs, hx, hr]
  exact hK _ _ (h v' w' h2 h3 h4)
end Go.Proofs.Ytbjoljokdjgbnac
