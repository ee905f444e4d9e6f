/-
  Messages, as the laws of this seat have them; cells that a slice tells, whatever its elements are; appending them to a row of one's own.
-/
import Derived.Test.YtdfieflcclbgjaaProg
import Derived.WalkKit
import Derived.Carry
import Derived.OrdersHeld
import Derived.BigQuiet
import Derived.OneCell
import Derived.OwnWalk
import Derived.Deep.DeepMust
import Derived.Deep.LoopGhost
import Derived.Deep.OwnRows
import Derived.Deep.AppendLies
import Derived.Deep.RegionHeld3
import Derived.Laws.MakeOwn
import Derived.Laws.ResultCell
import Derived.Laws.StructEq
import Derived.Lib.SmallJoins
import Derived.Lib.SliceRun
import Derived.Lib.QuietBelow
import Derived.Maps.OwnRows
namespace Go.Proofs.Ytdfieflcclbgjaa
open Go.RowKit Go.Deep Go.MapKept Go.Sort
theorem Try.mixed : Try.prog.follows .mixedOrders = true := by kernel_rfl
theorem hidI {p : Prop} (h : p) : Hid p := h
def In64 (a : Int) : Prop := -9223372036854775808 ≤ a ∧ a ≤ 9223372036854775807
/-- A slice of n elements, each of so many cells, tells the cells. -/
def SeesC (w : World) (v : Value) (n size : Nat) (cs : List Value) : Prop :=
  cs.length = n * size ∧ ∃ (a : Option Addr) (cap : Nat), v = .slice a n cap ∧ (n = 0 ∨ ∃ b off, a = some ⟨b, off, none⟩ ∧ ∀ (j : Nat) (c : Value), cs[j]? = some c → w.cell? ⟨b, off + j, none⟩ = some c)
theorem SeesC.below {w w' : World} {B n size : Nat} {v : Value} {cs : List Value} (h : SeesC w v n size cs) (hb : Below B w w') (hB : w.heap.size ≤ B) : SeesC w' v n size cs := by
  obtain ⟨hl, a, cap, rfl, h⟩ := h
  refine ⟨hl, a, cap, rfl, ?_⟩
  rcases h with h | ⟨b, off, rfl, h⟩
  · exact .inl h
  · exact .inr ⟨b, off, rfl, fun j c hc => (hb.cell (Nat.lt_of_lt_of_le (World.block_lt_of_cell? w _ (h j c hc)) hB)).trans (h j c hc)⟩
theorem SeesC.grown {w w' : World} {row : Option Nat} {n size : Nat} {v : Value} {cs : List Value} (h : SeesC w v n size cs) (hg : w.grownBy w' row) (hne : v.ownBlock ≠ row) : SeesC w' v n size cs := by
  obtain ⟨hl, a, cap, rfl, h⟩ := h
  refine ⟨hl, a, cap, rfl, h.imp_right ?_⟩
  rintro ⟨b, off, rfl, h2⟩
  exact ⟨b, off, rfl, fun j c hc => hg.cell (h2 j c hc) (by simpa [Value.ownBlock] using hne)⟩
theorem seesC_of_owns {w : World} {base e size n : Nat} {v : Value} {cs : List Value} (h : w.ownsRow base e size v n cs) : SeesC w v n size cs := by
  have hc := h
  refine ⟨h.1, ?_⟩
  rcases h.2 with ⟨rfl, h0⟩ | ⟨g, cap, cur, rfl, _⟩
  · exact ⟨none, 0, by rw [h0], .inl h0⟩
  · refine ⟨_, cap, rfl, .inr ⟨g, 0, rfl, fun j c hj => ?_⟩⟩
    have e0 := World.ownsRow.cells hc rfl j c hj
    rw [show (⟨g, 0, none⟩ : Addr).add j = ⟨g, 0 + j, none⟩ from Addr.add_lit ..] at e0
    exact e0
theorem run_append_any {P : Program} {t e size bytes : Nat} {z : Value} (ht : P.underlying t = some (.slice e)) (hinfo : (P.info? e).map (fun i => (i.zero, i.size, i.bytes)) = some (some z, size, bytes)) (hzs : z.cells.size = size) (hsz : 0 < size) (hby : bytes ≤ 1000)
    (W : World) (ty base : Nat) (v : Value) (n : Nat) (xs : List Value) (u : Value) (m : Nat) (cs : List Value) (ho : W.ownsRow base e size v n xs) (hu : SeesC W u m size cs) (h1 : ∀ c ∈ cs, c.oneCell' = true) (hn : n + m ≤ 100000) (hb : base ≤ W.heap.size) :
    ∃ v' w', (Builtin.append_ #[t, t] ty #[v, u]).run P W = .ok v' w' ∧ w'.ownsRow base e size v' (n + m) (xs ++ cs) ∧ W.grownBy w' v.ownBlock ∧ (v'.ownBlock = v.ownBlock ∨ v'.ownBlock = some W.heap.size) := by
  obtain ⟨i0, hi, hz0, hz1, hz2⟩ := info_parts hinfo
  obtain ⟨hl, a, cap, rfl, hs⟩ := hu
  rcases hs with rfl | ⟨b, off, rfl, hc⟩
  · obtain rfl : cs = [] := List.eq_nil_of_length_eq_zero (by simpa using hl)
    refine ⟨v, W, ?_, by simpa using ho, World.grownBy.refl _ _, .inl rfl⟩
    rcases ho.2 with ⟨rfl, rfl⟩ | ⟨g, cap', cur, rfl, _, _, hle, _⟩
    · cases a <;> simp [Builtin.append_, run_underlying ht, sizeOf, typeInfo, hi, loadCells, loadCellsFrom, Builtin.lenOf, Builtin.firstCells]
    · cases a <;> simp [Builtin.append_, run_underlying ht, sizeOf, typeInfo, hi, hle, storeCells, loadCells, loadCellsFrom, Builtin.lenOf, Builtin.firstCells]
  · have hmul : (n + m) * bytes ≤ 100000 * 1000 := Nat.mul_le_mul hn hby
    obtain ⟨v', w', hr, h2, h3, _, h5⟩ := run_append_own_at (P := P) W base t ty e i0 z size bytes ht hi hz0 hz1 hz2 hzs hsz v n xs ho ⟨b, off, none⟩ m cap cs hl
      (fun j u hj => by rw [Addr.add_lit]; exact hc j u hj) h1 (by unfold maxLen; omega) (by omega) hb
    exact ⟨v', w', hr, h2, h3, h5⟩
theorem wp_append_any {P : Program} {t e size bytes : Nat} {z : Value} (ht : P.underlying t = some (.slice e)) (hinfo : (P.info? e).map (fun i => (i.zero, i.size, i.bytes)) = some (some z, size, bytes)) (hzs : z.cells.size = size) (hsz : 0 < size) (hby : bytes ≤ 1000)
    {o : Oper} {a : Act} {K : Act → World → Prop} {Q : Exit → Act → World → Prop} {W : World} (s x : Operand)
    (ho : o.op = .call { callee := .builtin .append, args := #[s, x], argTypes := #[t, t] }) (base : Nat) (v : Value) (n : Nat) (xs : List Value) (hs : a.eval s = v) (hown : W.ownsRow base e size v n xs)
    (u : Value) (m : Nat) (cs : List Value) (hx : a.eval x = u) (hu : SeesC W u m size cs) (h1 : ∀ c ∈ cs, c.oneCell' = true) (hn : n + m ≤ 100000) (hb : base ≤ W.heap.size)
    (h : ∀ v' w', w'.ownsRow base e size v' (n + m) (xs ++ cs) → W.grownBy w' v.ownBlock → (v'.ownBlock = v.ownBlock ∨ v'.ownBlock = some W.heap.size) → K (a.put o.dst v') w') :
    o.wp P a W K Q := by
  obtain ⟨v', w', hr, h2, h3, h4⟩ := run_append_any ht hinfo hzs hsz hby W o.type base v n xs u m cs hown hu h1 hn hb
  unfold Oper.wp execOp
  simp only [ho, resolve, invoke, builtin, Sem.run_bind, Sem.run_pure, Result.andThen_ok, List.map_toArray, List.map_cons, List.map_nil, hs, hx, hr]
  exact h v' w' h2 h3 h4
theorem wpList_append_any {P : Program} {t e size bytes : Nat} {z : Value} (ht : P.underlying t = some (.slice e)) (hinfo : (P.info? e).map (fun i => (i.zero, i.size, i.bytes)) = some (some z, size, bytes)) (hzs : z.cells.size = size) (hsz : 0 < size) (hby : bytes ≤ 1000)
    {ops : Array Oper} {rest : List Oper} {o : Oper} {a : Act} {Q : Exit → Act → World → Prop} {W : World} (hgd : o.guard = none) (s x : Operand)
    (ho : o.op = .call { callee := .builtin .append, args := #[s, x], argTypes := #[t, t] }) (base : Nat) (v : Value) (n : Nat) (xs : List Value) (hs : a.eval s = v) (hown : W.ownsRow base e size v n xs)
    (u : Value) (m : Nat) (cs : List Value) (hx : a.eval x = u) (hu : SeesC W u m size cs) (h1 : ∀ c ∈ cs, c.oneCell' = true) (hn : n + m ≤ 100000) (hb : base ≤ W.heap.size)
    (h : ∀ v' w', w'.ownsRow base e size v' (n + m) (xs ++ cs) → W.grownBy w' v.ownBlock → (v'.ownBlock = v.ownBlock ∨ v'.ownBlock = some W.heap.size) → wpList P ops Q rest (a.put o.dst v') w') :
    wpList P ops Q (o :: rest) a W :=
  wpList_plain hgd fun _ hK => wp_append_any ht hinfo hzs hsz hby s x ho base v n xs hs hown u m cs hx hu h1 hn hb fun v' w' h2 h3 h4 => hK _ _ (h v' w' h2 h3 h4)
theorem step_append_any {P : Program} {t e size bytes : Nat} {z : Value} (ht : P.underlying t = some (.slice e)) (hinfo : (P.info? e).map (fun i => (i.zero, i.size, i.bytes)) = some (some z, size, bytes)) (hzs : z.cells.size = size) (hsz : 0 < size) (hby : bytes ≤ 1000)
    {ops : Array Oper} {E : Prop} {o : Oper} {a : Act} {K : Act → World → Prop} {Q : Exit → Act → World → Prop} {W : World} (hgd : o.guard = none) (s x : Operand)
    (ho : o.op = .call { callee := .builtin .append, args := #[s, x], argTypes := #[t, t] }) (base : Nat) (v : Value) (n : Nat) (xs : List Value) (hs : a.eval s = v) (hown : W.ownsRow base e size v n xs)
    (u : Value) (m : Nat) (cs : List Value) (hx : a.eval x = u) (hu : SeesC W u m size cs) (h1 : ∀ c ∈ cs, c.oneCell' = true) (hn : n + m ≤ 100000) (hb : base ≤ W.heap.size)
    (h : ∀ v' w', w'.ownsRow base e size v' (n + m) (xs ++ cs) → W.grownBy w' v.ownBlock → (v'.ownBlock = v.ownBlock ∨ v'.ownBlock = some W.heap.size) → K (a.put o.dst v') w') :
    if Region.wanted o (yielded ops a.tmps) = true then Oper.wp P o a W K Q else E := by
  have hw : Region.wanted o (yielded ops a.tmps) = true := by simp [Region.wanted, hgd]
  rw [if_pos hw]
  exact wp_append_any ht hinfo hzs hsz hby s x ho base v n xs hs hown u m cs hx hu h1 hn hb h
/-- One cell of a row set. -/
theorem own_set {w : World} {base e n g cap j : Nat} {xs : List Value} (h : w.ownsRow base e 1 (.slice (some ⟨g, 0, none⟩) n cap) n xs) (u : Value) : (w.setCell ⟨g, j, none⟩ u).ownsRow base e 1 (.slice (some ⟨g, 0, none⟩) n cap) n (xs.set j u) := by
  refine ⟨by rw [List.length_set]; exact h.1, ?_⟩
  rcases h.2 with ⟨h0, _⟩ | ⟨g', cap', cur, he, hb, hh, h1, h2, h3, h4⟩
  · cases h0
  · simp only [Value.slice.injEq, Option.some.injEq, Addr.mk.injEq, and_true, true_and] at he
    obtain ⟨rfl, rfl⟩ := he
    refine .inr ⟨g, cap, cur.setIfInBounds j u, rfl, hb, heap_setCell_same _ _ _ _ _ _ hh, h1, h2, by simpa using h3, ?_⟩
    rw [Array.toList_setIfInBounds, List.take_set, h4]
/-- A message. -/
structure Msg where
  to : Int
  tag : Int
  val : Int
deriving DecidableEq, Inhabited
def Msg.value (x : Msg) : Value := .agg #[.int .i64 x.to, .int .i64 x.tag, .int .i64 x.val]
def Msg.cells (x : Msg) : List Value := [.int .i64 x.to, .int .i64 x.tag, .int .i64 x.val]
def flatM (xs : List Msg) : List Value := xs.flatMap Msg.cells
theorem flatM_length : ∀ xs : List Msg, (flatM xs).length = xs.length * 3
  | [] => rfl
  | x :: r => by simp only [flatM, List.flatMap_cons, List.length_append, List.length_cons, Msg.cells, List.length_nil]; have := flatM_length r; unfold flatM at this; omega
theorem flatM_append (xs ys : List Msg) : flatM (xs ++ ys) = flatM xs ++ flatM ys := by simp [flatM]
theorem flatM_one (x : Msg) : flatM [x] = x.cells := by simp [flatM]
theorem flatM_take : ∀ (xs : List Msg) (i : Nat), flatM (xs.take i) = (flatM xs).take (i * 3)
  | [], i => by simp [flatM]
  | x :: r, 0 => by simp [flatM]
  | x :: r, i + 1 => by
    have := flatM_take r i
    rw [show (i + 1) * 3 = i * 3 + 1 + 1 + 1 by omega]
    simp only [flatM, List.flatMap_cons, List.take_succ_cons, Msg.cells, List.cons_append, List.nil_append] at this ⊢
    rw [this]
theorem flatM_drop : ∀ (xs : List Msg) (i : Nat), flatM (xs.drop i) = (flatM xs).drop (i * 3)
  | [], i => by simp [flatM]
  | x :: r, 0 => by simp [flatM]
  | x :: r, i + 1 => by
    have := flatM_drop r i
    rw [show (i + 1) * 3 = i * 3 + 1 + 1 + 1 by omega]
    simp only [flatM, List.flatMap_cons, List.drop_succ_cons, Msg.cells, List.cons_append, List.nil_append] at this ⊢
    rw [this]
theorem flatM_get : ∀ (xs : List Msg) (j i : Nat) (x : Msg), xs[j]? = some x → i < 3 → (flatM xs)[j * 3 + i]? = x.cells[i]?
  | [], _, _, _, h, _ => by simp at h
  | y :: r, 0, i, x, h, hi => by
    obtain rfl : y = x := by simpa using h
    simp only [flatM, List.flatMap_cons, Nat.zero_mul, Nat.zero_add]
    rw [List.getElem?_append_left (by simpa [Msg.cells] using hi)]
  | y :: r, j + 1, i, x, h, hi => by
    have := flatM_get r j i x (by simpa using h) hi
    rw [← this]
    simp only [flatM, List.flatMap_cons]
    rw [List.getElem?_append_right (by simp [Msg.cells]; omega)]
    congr 1
    simp [Msg.cells]; omega
theorem cells_one (x : Msg) : ∀ c ∈ x.cells, c.oneCell' = true := by
  intro c hc
  simp only [Msg.cells, List.mem_cons, List.mem_nil_iff, or_false] at hc
  rcases hc with rfl | rfl | rfl <;> rfl
theorem flatM_cells {xs : List Msg} : ∀ c ∈ flatM xs, c.oneCell' = true := by
  intro c hc
  obtain ⟨x, _, hx⟩ := List.mem_flatMap.1 hc
  exact cells_one x c hx
/-- Messages lie in a row, with no less room than there are. -/
def SeesM (w : World) (v : Value) (xs : List Msg) : Prop :=
  ∃ (a : Option Addr) (cap : Nat), v = .slice a xs.length cap ∧ xs.length ≤ cap ∧ (xs = [] ∨ ∃ b off, a = some ⟨b, off, none⟩ ∧ ∀ (j : Nat) (x : Msg), xs[j]? = some x → w.cell? ⟨b, off + j * 3, none⟩ = some (.int .i64 x.to) ∧ w.cell? ⟨b, off + j * 3 + 1, none⟩ = some (.int .i64 x.tag) ∧ w.cell? ⟨b, off + j * 3 + 2, none⟩ = some (.int .i64 x.val))
theorem SeesM.below {w w' : World} {B : Nat} {v : Value} {xs : List Msg} (h : SeesM w v xs) (hb : Below B w w') (hB : w.heap.size ≤ B) : SeesM w' v xs := by
  obtain ⟨a, cap, rfl, hc, h⟩ := h
  refine ⟨a, cap, rfl, hc, ?_⟩
  rcases h with h | ⟨b, off, rfl, h⟩
  · exact .inl h
  · refine .inr ⟨b, off, rfl, fun j x hx => ?_⟩
    obtain ⟨h0, h1, h2⟩ := h j x hx
    have kk : ∀ {p : Addr} {v : Value}, w.cell? p = some v → w'.cell? p = some v := fun {p v} hc => (hb.cell (Nat.lt_of_lt_of_le (World.block_lt_of_cell? w _ hc) hB)).trans hc
    exact ⟨kk h0, kk h1, kk h2⟩
theorem seesM_of_C {w : World} {a : Option Addr} {cap : Nat} {xs : List Msg} (h : SeesC w (.slice a xs.length cap) xs.length 3 (flatM xs)) (hcap : xs.length ≤ cap) : SeesM w (.slice a xs.length cap) xs := by
  obtain ⟨hl, a', cap', he, h⟩ := h
  simp only [Value.slice.injEq] at he
  obtain ⟨rfl, _, rfl⟩ := he
  refine ⟨_, cap, rfl, hcap, ?_⟩
  rcases h with h0 | ⟨b, off, rfl, h⟩
  · exact .inl (List.eq_nil_of_length_eq_zero h0)
  · refine .inr ⟨b, off, rfl, fun j x hx => ?_⟩
    have g := fun i hi => h (j * 3 + i) _ ((flatM_get xs j i x hx hi).trans (List.getElem?_eq_getElem (by simpa [Msg.cells] using hi)))
    have g0 := g 0 (by omega); have g1 := g 1 (by omega); have g2 := g 2 (by omega)
    simp only [Msg.cells, ← Nat.add_assoc, Nat.add_zero] at g0 g1 g2
    exact ⟨g0, g1, g2⟩
theorem seesC_of_M {w : World} {v : Value} {xs : List Msg} (h : SeesM w v xs) : SeesC w v xs.length 3 (flatM xs) := by
  obtain ⟨a, cap, rfl, _, h⟩ := h
  refine ⟨flatM_length xs, a, cap, rfl, ?_⟩
  rcases h with h0 | ⟨b, off, rfl, h⟩
  · exact .inl (by rw [h0]; rfl)
  · refine .inr ⟨b, off, rfl, fun j c hc => ?_⟩
    have hj : j < xs.length * 3 := by have := (List.getElem?_eq_some_iff.1 hc).1; rwa [flatM_length] at this
    obtain ⟨x, hx⟩ : ∃ x, xs[j / 3]? = some x := ⟨_, List.getElem?_eq_getElem (by omega)⟩
    have := flatM_get xs (j / 3) (j % 3) x hx (by omega)
    rw [show j / 3 * 3 + j % 3 = j by omega, hc] at this
    obtain ⟨h0, h1, h2⟩ := h _ x hx
    have hm : j % 3 = 0 ∨ j % 3 = 1 ∨ j % 3 = 2 := by omega
    rcases hm with hm | hm | hm <;> rw [hm] at this <;> simp only [Msg.cells, List.getElem?_cons_zero, List.getElem?_cons_succ, Option.some.injEq] at this <;> subst this
    · rwa [show off + j / 3 * 3 = off + j by omega] at h0
    · rwa [show off + j / 3 * 3 + 1 = off + j by omega] at h1
    · rwa [show off + j / 3 * 3 + 2 = off + j by omega] at h2
theorem own_cap {w : World} {base e size n : Nat} {v : Value} {cs : List Value} (h : w.ownsRow base e size v n cs) : ∃ a cap, v = .slice a n cap ∧ n ≤ cap := by
  rcases h.2 with ⟨rfl, h0⟩ | ⟨g, cap, cur, rfl, _, _, h1, _⟩
  · exact ⟨none, 0, by rw [h0], by omega⟩
  · exact ⟨_, cap, rfl, h1⟩
theorem seesM_of_owns {w : World} {base e n : Nat} {v : Value} {xs : List Msg} (h : w.ownsRow base e 3 v n (flatM xs)) : SeesM w v xs := by
  have hn : n = xs.length := by have := h.1; rw [flatM_length] at this; omega
  subst hn
  obtain ⟨a, cap, rfl, hc⟩ := own_cap h
  exact seesM_of_C (seesC_of_owns h) hc
theorem own_below {w w' : World} {base size n B : Nat} {e : TypeId} {v : Value} {xs : List Value} (h : w.ownsRow base e size v n xs) (hb : Below B w w') (hB : w.heap.size ≤ B) : w'.ownsRow base e size v n xs := by
  refine h.kept (row := none) ⟨hb.os, hb.tape, hb.output, hb.size, fun k hk _ => hb.block k (by omega)⟩ (by cases hv : v.ownBlock <;> simp)
theorem SeesM.nil {w : World} : SeesM w (.slice none 0 0) [] := ⟨none, 0, rfl, Nat.le_refl _, .inl rfl⟩
theorem msg_seen {W : World} (x : Msg) : SeesC (W.alloc (.cells #[.int .i64 x.to, .int .i64 x.tag, .int .i64 x.val] 48)) (.slice (some ⟨W.heap.size, 0, none⟩) 1 1) 1 3 x.cells := by
  refine ⟨rfl, _, 1, rfl, .inr ⟨W.heap.size, 0, rfl, fun j c hc => ?_⟩⟩
  have hj : j < 3 := by have := (List.getElem?_eq_some_iff.1 hc).1; simpa [Msg.cells] using this
  have hm : j = 0 ∨ j = 1 ∨ j = 2 := by omega
  rcases hm with rfl | rfl | rfl <;> simp only [Msg.cells, List.getElem?_cons_zero, List.getElem?_cons_succ, Option.some.injEq] at hc <;> subst hc <;> go_simp
theorem Try.info48 : (Try.prog.info? 48).map (fun i => (i.zero, i.size, i.bytes)) = some (some (.agg #[.int .i64 0, .int .i64 0, .int .i64 0]), 3, 24) := by kernel_rfl
end Go.Proofs.Ytdfieflcclbgjaa
