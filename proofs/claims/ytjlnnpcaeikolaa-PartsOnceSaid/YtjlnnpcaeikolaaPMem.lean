/-
  A worker's nodes, copied: what Clone and Members come to.
-/
import Derived.Test.YtjlnnpcaeikolaaPNew
import Derived.Laws.MakeOwn
namespace Go.Proofs.Ytjlnnpcaeikolaa
open Go.RowKit Go.Deep
theorem nil23 (w : World) (a : Option Addr) (n c n' c' : Nat) : (binOp .eql 23 (.slice a n c) (.slice none n' c')).run Try.prog w = .ok (.bool a.isNone) w := Lib.run_eql_slice_nil w _ _ a n c n' c' Try.underlying23
/-- Numbers appended to a row of one's own. -/
theorem run_append_ints (W : World) (ty base : Nat) (v : Value) (n : Nat) (xs : List Value) (u : Value) (zs : List Int) (ho : W.ownsRow base 3 1 v n xs) (hu : Sees W u zs) (hn : n + zs.length ≤ 1000000) (hb : base ≤ W.heap.size) :
    ∃ v' w', (Builtin.append_ #[23, 23] ty #[v, u]).run Try.prog W = .ok v' w' ∧ w'.ownsRow base 3 1 v' (n + zs.length) (xs ++ zs.map (Value.int .i64)) ∧ W.grownBy w' v.ownBlock ∧ (v'.ownBlock = v.ownBlock ∨ v'.ownBlock = some W.heap.size) := by
  obtain ⟨i0, hi, hz0, hz1, hz2⟩ := info_parts Try.info3
  obtain ⟨a, cap, rfl, hs⟩ := hu
  rcases hs with rfl | ⟨b, off, rfl, hc⟩
  · refine ⟨v, W, ?_, by simpa using ho, World.grownBy.refl _ _, .inl rfl⟩
    rcases ho.2 with ⟨rfl, rfl⟩ | ⟨g, cap', cur, rfl, _, _, hle, _⟩
    · cases a <;> simp [Builtin.append_, run_underlying Try.underlying23, sizeOf, typeInfo, hi, loadCells, loadCellsFrom, Builtin.lenOf, Builtin.firstCells]
    · cases a <;> simp [Builtin.append_, run_underlying Try.underlying23, sizeOf, typeInfo, hi, hle, storeCells, loadCells, loadCellsFrom, Builtin.lenOf, Builtin.firstCells]
  · obtain ⟨v', w', hr, h2, h3, _, h5⟩ := run_append_own_at (P := Try.prog) W base 23 ty 3 i0 (.int .i64 0) 1 8 Try.underlying23 hi hz0 hz1 hz2 rfl (by decide) v n xs ho ⟨b, off, none⟩ zs.length cap (zs.map (Value.int .i64)) (by simp)
      (fun j u hj => by
        rw [List.getElem?_map] at hj
        obtain ⟨z, hz, rfl⟩ := Option.map_eq_some_iff.1 hj
        have hjl := (List.getElem?_eq_some_iff.1 hz).1
        have := hc j hjl
        rw [Addr.add_lit, this]
        simp [List.getD, hz])
      (by intro u hu; obtain ⟨z, _, rfl⟩ := List.mem_map.1 hu; rfl) (by unfold maxLen; omega) (by omega) hb
    exact ⟨v', w', hr, h2, h3, h5⟩
theorem wpList_append_ints {ops : Array Oper} {rest : List Oper} {o : Oper} {a : Act} {Q : Exit → Act → World → Prop} {W : World} (hgd : o.guard = none) (s x : Operand)
    (ho : o.op = .call { callee := .builtin .append, args := #[s, x], argTypes := #[23, 23] }) (base : Nat) (v : Value) (n : Nat) (xs : List Value) (hs : a.eval s = v) (hown : W.ownsRow base 3 1 v n xs)
    (u : Value) (zs : List Int) (hx : a.eval x = u) (hu : Sees W u zs) (hn : n + zs.length ≤ 1000000) (hb : base ≤ W.heap.size)
    (h : ∀ v' w', w'.ownsRow base 3 1 v' (n + zs.length) (xs ++ zs.map (Value.int .i64)) → W.grownBy w' v.ownBlock → (v'.ownBlock = v.ownBlock ∨ v'.ownBlock = some W.heap.size) → wpList Try.prog ops Q rest (a.put o.dst v') w') :
    wpList Try.prog ops Q (o :: rest) a W := by
  refine wpList_plain hgd fun K hK => ?_
  obtain ⟨v', w', hr, h2, h3, h4⟩ := run_append_ints W o.type base v n xs u zs hown hu hn hb
  unfold Oper.wp execOp
  simp only [ho, resolve, invoke, builtin, Sem.run_bind, Sem.run_pure, Result.andThen_ok, List.map_toArray, List.map_cons, List.map_nil, hs, hx, hr]
  exact hK _ _ (h v' w' h2 h3 h4)
set_option maxRecDepth 100000 in
set_option maxHeartbeats 1000000 in
theorem clone_walk (x : Addr) (cap : Nat) (zs : List Int) (w : World) (hl : zs.length ≤ 100000) (hv : Sees w (.slice (some x) zs.length cap) zs) :
    Calls Try.prog 32 #[.slice (some x) zs.length cap] w fun e w' => ∃ u, e = .returned u ∧ Sees w' u zs ∧ Below w.heap.size w w' := by
  have HV := hidI (hv.below ((Below.refl _ w).alloc (Nat.le_refl _) (.cells #[] 3)) (Nat.le_refl _))
  have HO := hidI (World.ownsRow_made (base := w.heap.size) (e := 3) (size := 1) w #[] 0 (Nat.le_refl _) (by unfold maxLen; omega) rfl)
  have q23 := nil23
  have u23 : ∀ w, Sem.run Try.prog (underlying 23) w = .ok (TypeDesc.slice 3) w := run_underlying Try.underlying23
  clear hv
  go_enter Try.func32, Try.ntmps32
  go_wp2_with (at_builtin; refine wpList_append_ints rfl _ _ rfl w.heap.size _ 0 [] rfl HO.out _ zs rfl HV.out (by omega) (by simp) ?_; intro v' w1 hown' hgrow' hat')
  go_ret
  refine ⟨v', rfl, sees_of_owns (base := w.heap.size) (e := 3) (by simpa using hown'), ?_⟩
  exact ((Below.refl _ w).alloc (Nat.le_refl _) _).grown hgrow' (by simp) (fun k hk => (HO.out.lt k hk).1)
theorem clone_nil (len cap : Nat) (w : World) : Calls Try.prog 32 #[.slice none len cap] w fun e w' => e = .returned (.slice none 0 0) ∧ w = w' := by
  have q23 := nil23
  go_enter Try.func32, Try.ntmps32
  go_wp2
  go_ret
  exact ⟨rfl, rfl⟩
theorem clone_any (v : Value) (zs : List Int) (w : World) (hl : zs.length ≤ 100000) (hv : Sees w v zs) :
    Calls Try.prog 32 #[v] w fun e w' => ∃ u, e = .returned u ∧ Sees w' u zs ∧ Below w.heap.size w w' := by
  have hv' := hv
  obtain ⟨a, cap, rfl, hs⟩ := hv
  cases a with
  | some x => exact clone_walk x cap zs w hl hv'
  | none =>
    refine (clone_nil zs.length cap w).mono ?_
    rintro e w' ⟨rfl, rfl⟩
    rcases hs with h0 | ⟨b, off, h, _⟩
    · subst h0; exact ⟨_, rfl, ⟨none, 0, rfl, .inl rfl⟩, Below.refl _ _⟩
    · cases h
/-- The nodes of a worker, or none. -/
def memI (n k : Nat) (wk : Nat → Nat) (u : Int) : List Int := if 0 ≤ u ∧ u < k then mem n wk u.toNat else []
set_option maxRecDepth 100000 in
set_option maxHeartbeats 1000000 in
theorem members_any (pp : Option Addr) (n k : Nat) (wk : Nat → Nat) (u : Int) (w : World) (hp : IsP w pp n k wk) :
    Calls Try.prog 14 #[.pointer pp, .int .i64 u] w fun e w' => ∃ v, e = .returned v ∧ Sees w' v (memI n k wk u) ∧ Below w.heap.size w w' := by
  have CW := hidI (workers_any pp n k wk w hp)
  by_cases h1 : u < 0
  · have hm : memI n k wk u = [] := by unfold memI; rw [if_neg (by omega)]
    rw [hm]
    clear hm CW hp
    go_enter Try.func14, Try.ntmps14
    go_wp2
    go_ret
    exact ⟨_, rfl, ⟨none, 0, rfl, .inl rfl⟩, Below.refl _ _⟩
  · have hd1 : decide (u < 0) = false := by simp; omega
    by_cases h2 : (k : Int) ≤ u
    · have hm : memI n k wk u = [] := by unfold memI; rw [if_neg (by omega)]
      rw [hm]
      clear hm hp h1
      go_enter Try.func14, Try.ntmps14
      go_wp2_with (go_at_call 19; refine Calls.mono CW.out ?_; rintro e w' ⟨rfl, rfl⟩)
      go_ret
      exact ⟨_, rfl, ⟨none, 0, rfl, .inl rfl⟩, Below.refl _ _⟩
    · have hm : memI n k wk u = mem n wk u.toNat := by unfold memI; rw [if_pos (by omega)]
      rw [hm]
      obtain ⟨m, rfl⟩ : ∃ m : Nat, u = m := ⟨u.toNat, by omega⟩
      simp only [Int.toNat_natCast]
      rcases hp with ⟨_, _, rfl⟩ | ⟨pb, rfl, ⟨_, h12, _, h4⟩, _, c0, c1, hr⟩
      · omega
      obtain ⟨v, hc, hs⟩ := hr m (by omega)
      have CC := hidI (clone_any v _ w (by have := mem_length n wk m; omega) hs)
      have hd2 : decide ((k : Int) ≤ (m : Int)) = false := by simp; omega
      have hd3 : decide (k ≤ m) = false := by simp; omega
      have hm4 : (m : Int) < 4 := by omega
      clear hm h1 h2 hs hr
      go_enter Try.func14, Try.ntmps14
      go_wp2_with (first | (go_at_call 19; refine Calls.mono CW.out ?_; rintro e w' ⟨rfl, rfl⟩) | (go_at_call 32; refine Calls.mono CC.out ?_; rintro e w1 ⟨v1, rfl, hs1, hb1⟩; refine Hid.out ?_))
      refine hidI ?_
      have HS1 := hidI hs1
      have HB1 := hidI hb1
      clear hs1 hb1 CC CW
      go_wp2
      go_ret
      exact ⟨_, rfl, HS1.out, HB1.out⟩
end Go.Proofs.Ytjlnnpcaeikolaa
