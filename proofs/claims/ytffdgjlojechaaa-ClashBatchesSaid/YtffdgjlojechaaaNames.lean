/-
  Names in a row; Writes.
-/
import Derived.Test.YtffdgjlojechaaaMathR
import Derived.Test.YtffdgjlojechaaaShelf
import Derived.Sort.OwnSorted
import Derived.Lib.RowBridge
namespace Go.Proofs.Ytffdgjlojechaaa
open Go.RowKit Go.Deep Go.MapKept Go.Sort
theorem own_below {w w' : World} {base e size n B : Nat} {v : Value} {xs : List Value} (h : w.ownsRow base e size v n xs) (hb : Below B w w') (hB : w.heap.size ≤ B) : w'.ownsRow base e size v n xs := by
  refine ⟨h.1, ?_⟩
  rcases h.2 with h0 | ⟨g, cap, cur, rfl, hbase, hg, r⟩
  · exact .inl h0
  · exact .inr ⟨g, cap, cur, rfl, hbase, (hb.block g (Nat.lt_of_lt_of_le (Array.getElem?_eq_some_iff.1 hg).1 hB)).trans hg, r⟩
abbrev Txt := List UInt8
def bytesOf (t : Txt) : ByteArray := ⟨t.toArray⟩
theorem bytes_back (s : ByteArray) : bytesOf s.data.toList = s := by simp [bytesOf]
/-- Names lie in a row. -/
def SeesS (w : World) (v : Value) (ts : List Txt) : Prop :=
  ∃ (a : Option Addr) (cap : Nat), v = .slice a ts.length cap ∧ ts.length ≤ cap ∧ (ts = [] ∨ ∃ b off, a = some ⟨b, off, none⟩ ∧ ∀ (j : Nat) (t : Txt), ts[j]? = some t → w.cell? ⟨b, off + j, none⟩ = some (.string (bytesOf t)))
theorem SeesS.below {w w' : World} {B : Nat} {v : Value} {ts : List Txt} (h : SeesS w v ts) (hb : Below B w w') (hB : w.heap.size ≤ B) : SeesS w' v ts := by
  obtain ⟨a, cap, rfl, hc, h⟩ := h
  refine ⟨a, cap, rfl, hc, ?_⟩
  rcases h with h | ⟨b, off, rfl, h⟩
  · exact .inl h
  · exact .inr ⟨b, off, rfl, fun j t ht => (hb.cell (Nat.lt_of_lt_of_le (World.block_lt_of_cell? w _ (h j t ht)) hB)).trans (h j t ht)⟩
theorem Try.info9 : (Try.prog.info? 9).map (fun i => (i.zero, i.size, i.bytes)) = some (some (.string ⟨#[]⟩), 1, 16) := by kernel_rfl
def vals (ts : List Txt) : List Value := ts.map fun t => .string (bytesOf t)
theorem vals_enc (ts : List Txt) : ts.map encStr = vals ts := rfl
theorem run_append_strs (W : World) (ty base : Nat) (v : Value) (n : Nat) (xs : List Value) (u : Value) (ts : List Txt) (ho : W.ownsRow base 9 1 v n xs) (hu : SeesS W u ts) (hn : n + ts.length ≤ 100000) (hb : base ≤ W.heap.size) :
    ∃ v' w', (Builtin.append_ #[29, 29] ty #[v, u]).run Try.prog W = .ok v' w' ∧ w'.ownsRow base 9 1 v' (n + ts.length) (xs ++ vals ts) ∧ W.grownBy w' v.ownBlock ∧ (v'.ownBlock = v.ownBlock ∨ v'.ownBlock = some W.heap.size) := by
  obtain ⟨i0, hi, hz0, hz1, hz2⟩ := info_parts Try.info9
  obtain ⟨a, cap, rfl, _, hs⟩ := hu
  rcases hs with rfl | ⟨b, off, rfl, hc⟩
  · refine ⟨v, W, ?_, by simpa [vals] using ho, World.grownBy.refl _ _, .inl rfl⟩
    rcases ho.2 with ⟨rfl, rfl⟩ | ⟨g, cap', cur, rfl, _, _, hle, _⟩
    · cases a <;> simp [Builtin.append_, run_underlying Try.underlying29, sizeOf, typeInfo, hi, loadCells, loadCellsFrom, Builtin.lenOf, Builtin.firstCells]
    · cases a <;> simp [Builtin.append_, run_underlying Try.underlying29, sizeOf, typeInfo, hi, hle, storeCells, loadCells, loadCellsFrom, Builtin.lenOf, Builtin.firstCells]
  · obtain ⟨v', w', hr, h2, h3, _, h5⟩ := run_append_own_at (P := Try.prog) W base 29 ty 9 i0 _ 1 16 Try.underlying29 hi hz0 hz1 hz2 rfl (by decide) v n xs ho ⟨b, off, none⟩ ts.length cap (vals ts) (by simp [vals])
      (fun j u hj => by
        rw [Addr.add_lit]
        simp only [vals, List.getElem?_map, Option.map_eq_some_iff] at hj
        obtain ⟨t, ht, rfl⟩ := hj
        exact hc j t ht)
      (fun u hu => by
        obtain ⟨t, _, rfl⟩ := List.mem_map.1 hu
        rfl) (by unfold maxLen; omega) (by omega) hb
    exact ⟨v', w', hr, h2, h3, h5⟩
theorem wp_append_strs {o : Oper} {a : Act} {K : Act → World → Prop} {Q : Exit → Act → World → Prop} {W : World} (s x : Operand)
    (ho : o.op = .call { callee := .builtin .append, args := #[s, x], argTypes := #[29, 29] }) (base : Nat) (v : Value) (n : Nat) (xs : List Value) (hs : a.eval s = v) (hown : W.ownsRow base 9 1 v n xs)
    (u : Value) (ts : List Txt) (hx : a.eval x = u) (hu : SeesS W u ts) (hn : n + ts.length ≤ 100000) (hb : base ≤ W.heap.size)
    (h : ∀ v' w', w'.ownsRow base 9 1 v' (n + ts.length) (xs ++ vals ts) → W.grownBy w' v.ownBlock → (v'.ownBlock = v.ownBlock ∨ v'.ownBlock = some W.heap.size) → K (a.put o.dst v') w') :
    o.wp Try.prog a W K Q := by
  obtain ⟨v', w', hr, h2, h3, h4⟩ := run_append_strs W o.type base v n xs u ts hown hu hn hb
  unfold Oper.wp execOp
  simp only [ho, resolve, invoke, builtin, Sem.run_bind, Sem.run_pure, Result.andThen_ok, List.map_toArray, List.map_cons, List.map_nil, hs, hx, hr]
  exact h v' w' h2 h3 h4
theorem wpList_append_strs {ops : Array Oper} {rest : List Oper} {o : Oper} {a : Act} {Q : Exit → Act → World → Prop} {W : World} (hgd : o.guard = none) (s x : Operand)
    (ho : o.op = .call { callee := .builtin .append, args := #[s, x], argTypes := #[29, 29] }) (base : Nat) (v : Value) (n : Nat) (xs : List Value) (hs : a.eval s = v) (hown : W.ownsRow base 9 1 v n xs)
    (u : Value) (ts : List Txt) (hx : a.eval x = u) (hu : SeesS W u ts) (hn : n + ts.length ≤ 100000) (hb : base ≤ W.heap.size)
    (h : ∀ v' w', w'.ownsRow base 9 1 v' (n + ts.length) (xs ++ vals ts) → W.grownBy w' v.ownBlock → (v'.ownBlock = v.ownBlock ∨ v'.ownBlock = some W.heap.size) → wpList Try.prog ops Q rest (a.put o.dst v') w') :
    wpList Try.prog ops Q (o :: rest) a W :=
  wpList_plain hgd fun _ hK => wp_append_strs s x ho base v n xs hs hown u ts hx hu hn hb fun v' w' h2 h3 h4 => hK _ _ (h v' w' h2 h3 h4)
theorem str_seen {W : World} (s : ByteArray) : SeesS (W.alloc (.cells #[.string s] 9)) (.slice (some ⟨W.heap.size, 0, none⟩) 1 1) [s.data.toList] := by
  refine ⟨_, 1, rfl, by simp, .inr ⟨W.heap.size, 0, rfl, fun j k hk => ?_⟩⟩
  have hj := (List.getElem?_eq_some_iff.1 hk).1
  obtain rfl : j = 0 := by simpa using hj
  obtain rfl : s.data.toList = k := by simpa using hk
  rw [bytes_back]
  go_simp
theorem seesS_of_owns {w : World} {base : Nat} {v : Value} {ts : List Txt} (h : w.ownsRow base 9 1 v ts.length (vals ts)) : SeesS w v ts := by
  have hc := h
  rcases h.2 with ⟨rfl, h0⟩ | ⟨g, cap, cur, rfl, _, _, hle, _⟩
  · exact ⟨none, 0, by rw [h0], by omega, .inl (List.eq_nil_of_length_eq_zero h0)⟩
  · refine ⟨_, cap, rfl, hle, .inr ⟨g, 0, rfl, fun j t ht => ?_⟩⟩
    have e0 := World.ownsRow.cells hc rfl j (.string (bytesOf t)) (by simp [vals, ht])
    rw [show (⟨g, 0, none⟩ : Addr).add j = ⟨g, 0 + j, none⟩ from Addr.add_lit ..] at e0
    exact e0
/-- Clone. -/
theorem clone_any (s : ByteArray) (hs : s.size ≤ 140737488355328) (w : World) : Calls Try.prog 19 #[.string s] w fun e w' => e = .returned (.string s) ∧ Below w.heap.size w w' := by
  have C := hidI (fun w => Any.stringslite_Clone Try.laysClone s w (by omega))
  go_enter Try.func19, Try.ntmps19
  go_wp2_with (go_at_call 22; refine Calls.mono (C.out _) ?_; rintro e w' ⟨rfl, hb⟩; have HB := hidI hb; clear hb)
  go_ret
  exact ⟨rfl, HB.out⟩
end Go.Proofs.Ytffdgjlojechaaa
