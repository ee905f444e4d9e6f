/-
  Words: a column's values cloned, and listed.
-/
import Derived.Test.YtbjoljokdjgbnacCmp
import Derived.Test.YtbjoljokdjgbnacPlaces
import Derived.Laws.MakeOwn
namespace Go.Proofs.Ytbjoljokdjgbnac
open Go.RowKit Go.Deep
theorem Try.info35 : (Try.prog.info? 35).map (fun i => (i.zero, i.size, i.bytes)) = some (some (.int .i64 0), 1, 8) := by kernel_rfl
theorem nil36 (w : World) (a : Option Addr) (n c n' c' : Nat) : (binOp .eql 36 (.slice a n c) (.slice none n' c')).run Try.prog w = .ok (.bool a.isNone) w := Lib.run_eql_slice_nil w _ _ a n c n' c' Try.underlying36
/-- Numbers appended to a row of one's own. -/
theorem run_append_words (W : World) (ty base : Nat) (v : Value) (n : Nat) (xs : List Value) (u : Value) (zs : List Int) (ho : W.ownsRow base 35 1 v n xs) (hu : Sees W u zs) (hn : n + zs.length ≤ 1000000) (hb : base ≤ W.heap.size) :
    ∃ v' w', (Builtin.append_ #[36, 36] ty #[v, u]).run Try.prog W = .ok v' w' ∧ w'.ownsRow base 35 1 v' (n + zs.length) (xs ++ zs.map (Value.int .i64)) ∧ W.grownBy w' v.ownBlock ∧ (v'.ownBlock = v.ownBlock ∨ v'.ownBlock = some W.heap.size) := by
  obtain ⟨i0, hi, hz0, hz1, hz2⟩ := info_parts Try.info35
  obtain ⟨a, cap, rfl, hs⟩ := hu
  rcases hs with rfl | ⟨b, off, rfl, hc⟩
  · refine ⟨v, W, ?_, by simpa using ho, World.grownBy.refl _ _, .inl rfl⟩
    rcases ho.2 with ⟨rfl, rfl⟩ | ⟨g, cap', cur, rfl, _, _, hle, _⟩
    · cases a <;> simp [Builtin.append_, run_underlying Try.underlying36, sizeOf, typeInfo, hi, loadCells, loadCellsFrom, Builtin.lenOf, Builtin.firstCells]
    · cases a <;> simp [Builtin.append_, run_underlying Try.underlying36, sizeOf, typeInfo, hi, hle, storeCells, loadCells, loadCellsFrom, Builtin.lenOf, Builtin.firstCells]
  · obtain ⟨v', w', hr, h2, h3, _, h5⟩ := run_append_own_at (P := Try.prog) W base 36 ty 35 i0 (.int .i64 0) 1 8 Try.underlying36 hi hz0 hz1 hz2 rfl (by decide) v n xs ho ⟨b, off, none⟩ zs.length cap (zs.map (Value.int .i64)) (by simp)
      (fun j u hj => by
        rw [List.getElem?_map] at hj
        obtain ⟨z, hz, rfl⟩ := Option.map_eq_some_iff.1 hj
        have hjl := (List.getElem?_eq_some_iff.1 hz).1
        have := hc j hjl
        rw [Addr.add_lit, this]
        simp [List.getD, hz])
      (by intro u hu; obtain ⟨z, _, rfl⟩ := List.mem_map.1 hu; rfl) (by unfold maxLen; omega) (by omega) hb
    exact ⟨v', w', hr, h2, h3, h5⟩
theorem wpList_append_words {ops : Array Oper} {rest : List Oper} {o : Oper} {a : Act} {Q : Exit → Act → World → Prop} {W : World} (hgd : o.guard = none) (s x : Operand)
    (ho : o.op = .call { callee := .builtin .append, args := #[s, x], argTypes := #[36, 36] }) (base : Nat) (v : Value) (n : Nat) (xs : List Value) (hs : a.eval s = v) (hown : W.ownsRow base 35 1 v n xs)
    (u : Value) (zs : List Int) (hx : a.eval x = u) (hu : Sees W u zs) (hn : n + zs.length ≤ 1000000) (hb : base ≤ W.heap.size)
    (h : ∀ v' w', w'.ownsRow base 35 1 v' (n + zs.length) (xs ++ zs.map (Value.int .i64)) → W.grownBy w' v.ownBlock → (v'.ownBlock = v.ownBlock ∨ v'.ownBlock = some W.heap.size) → wpList Try.prog ops Q rest (a.put o.dst v') w') :
    wpList Try.prog ops Q (o :: rest) a W := by
  refine wpList_plain hgd fun K hK => ?_
  obtain ⟨v', w', hr, h2, h3, h4⟩ := run_append_words W o.type base v n xs u zs hown hu hn hb
  unfold Oper.wp execOp
  simp only [ho, resolve, invoke, builtin, Sem.run_bind, Sem.run_pure, Result.andThen_ok, List.map_toArray, List.map_cons, List.map_nil, hs, hx, hr]
  exact hK _ _ (h v' w' h2 h3 h4)
set_option maxRecDepth 100000 in
set_option maxHeartbeats 1000000 in
theorem cloneW_walk (x : Addr) (cap : Nat) (zs : List Int) (w : World) (hl : zs.length ≤ 100000) (hv : Sees w (.slice (some x) zs.length cap) zs) :
    Calls Try.prog 35 #[.slice (some x) zs.length cap] w fun e w' => ∃ u, e = .returned u ∧ Sees w' u zs ∧ Below w.heap.size w w' := by
  have HV := hidI (hv.below ((Below.refl _ w).alloc (Nat.le_refl _) (.cells #[] 35)) (Nat.le_refl _))
  have HO := hidI (World.ownsRow_made (base := w.heap.size) (e := 35) (size := 1) w #[] 0 (Nat.le_refl _) (by unfold maxLen; omega) rfl)
  have q36 := nil36
  have u36 : ∀ w, Sem.run Try.prog (underlying 36) w = .ok (TypeDesc.slice 35) w := run_underlying Try.underlying36
  clear hv
  go_enter Try.func35, Try.ntmps35
  go_wp2_with (at_builtin; refine wpList_append_words rfl _ _ rfl w.heap.size _ 0 [] rfl HO.out _ zs rfl HV.out (by omega) (by simp) ?_; intro v' w1 hown' hgrow' hat')
  go_ret
  refine ⟨v', rfl, sees_of_owns (base := w.heap.size) (e := 35) (by simpa using hown'), ?_⟩
  exact ((Below.refl _ w).alloc (Nat.le_refl _) _).grown hgrow' (by simp) (fun k hk => (HO.out.lt k hk).1)
theorem list_some (tb mb : Nat) (s : ByteArray) (d : Int) (k : Int) (a : Addr) (c : Nat) (zs : List Int) (w : World) (c2 : w.cell? ⟨tb, 2, none⟩ = some (.map (some mb))) (hm : mb < w.heap.size) (hk : Look w mb s d (.agg #[.int .u8 k, .slice (some a) zs.length c]) true) (hl : zs.length ≤ 100000) (hz : Sees w (.slice (some a) zs.length c) zs) :
    Calls Try.prog 20 #[.pointer (some ⟨tb, 0, none⟩), ke s d] w fun e w' => ∃ u, e = .returned u ∧ Sees w' u zs ∧ Below w.heap.size w w' := by
  have htb := World.block_lt_of_cell? w _ c2
  simp only at htb
  have D : Hid (∀ u, Below w.heap.size w u → Calls Try.prog 35 #[.slice (some a) zs.length c] u fun e w' => ∃ v, e = .returned v ∧ Sees w' v zs ∧ Below u.heap.size u w') := hidI fun u hu => cloneW_walk a c zs u hl (hz.below hu (Nat.le_refl _))
  obtain ⟨l, hl2⟩ : ∃ l, zs.length = l := ⟨_, rfl⟩
  rw [hl2] at hk D
  have C : Hid (∀ u, Below w.heap.size w u → Calls Try.prog 53 #[.pointer (some ⟨tb, 0, none⟩), ke s d] u fun e w' => e = .returned (.tuple #[.agg #[.int .u8 k, .slice (some a) l c], .int .i64 0]) ∧ Below u.heap.size u w') :=
    hidI fun u hu => find_some tb mb s d k _ l c u ((hu.cell (p := ⟨tb, 2, none⟩) htb).trans c2) (Nat.lt_of_lt_of_le hm hu.size) fun v hv => hk v (hv.trans (hu.block mb hm))
  clear hk c2 hz
  go_enter Try.func20, Try.ntmps20
  go_wp2_with (go_at_call 53; refine Calls.mono (C.out _ (by (repeat (first | exact Below.refl _ _ | assumption | refine Below.drew ?_ | refine Below.alloc ?_ (by first | omega | (simp; done) | (simp; omega)) _ | refine Below.setCell ?_ (by first | omega | (simp; done) | (simp; omega)) _)))) ?_; rintro e w1 ⟨rfl, hb1⟩; refine Hid.out ?_)
  refine hidI ?_
  have hsz := hb1.size
  simp only [World.size_alloc] at hsz
  have HB : Hid (Below w.heap.size w w1) := hidI (Below.trans (by (repeat (first | exact Below.refl _ _ | assumption | refine Below.drew ?_ | refine Below.alloc ?_ (by first | omega | (simp; done) | (simp; omega)) _ | refine Below.setCell ?_ (by first | omega | (simp; done) | (simp; omega)) _))) (hb1.mono (by simp)))
  clear hb1 C
  have HB2 : Hid (Below w.heap.size w (w1.alloc (.cells #[.int .u8 k, .slice (some a) l c] 80))) := hidI (by have := HB.out; (repeat (first | exact Below.refl _ _ | assumption | refine Below.drew ?_ | refine Below.alloc ?_ (by first | omega | (simp; done) | (simp; omega)) _ | refine Below.setCell ?_ (by first | omega | (simp; done) | (simp; omega)) _)))
  go_wp2_with (go_at_call 35; refine Calls.mono (D.out _ HB2.out) ?_; rintro e w2 ⟨v, rfl, hv, hb2⟩)
  go_ret
  exact ⟨_, rfl, hv, HB2.out.trans (hb2.mono HB2.out.size)⟩
end Go.Proofs.Ytbjoljokdjgbnac
