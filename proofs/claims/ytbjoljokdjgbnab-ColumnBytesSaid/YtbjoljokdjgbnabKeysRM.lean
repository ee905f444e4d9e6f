/-
  The document's Keys; keys appended.
-/
import Derived.Test.YtbjoljokdjgbnabGG
namespace Go.Proofs.Ytbjoljokdjgbnab
open Go.RowKit Go.Deep Go.MapKept
def flatY : List Ky → List Value
  | [] => []
  | k :: r => [.string k.1, .int .u8 k.2] ++ flatY r
theorem flatY_length : ∀ ks : List Ky, (flatY ks).length = ks.length * 2
  | [] => rfl
  | k :: r => by simp only [flatY, List.length_append, flatY_length r, List.length_cons, List.length_nil]; omega
theorem flatY_append : ∀ a b : List Ky, flatY (a ++ b) = flatY a ++ flatY b
  | [], _ => rfl
  | k :: r, b => by simp only [List.cons_append, flatY, flatY_append r b, List.append_assoc]
theorem flatY_get : ∀ (ks : List Ky) (j : Nat) (k : Ky), ks[j]? = some k → (flatY ks)[j * 2]? = some (.string k.1) ∧ (flatY ks)[j * 2 + 1]? = some (.int .u8 k.2)
  | [], _, _, h => by simp at h
  | q :: r, 0, k, h => by
    obtain rfl : q = k := by simpa using h
    simp [flatY]
  | q :: r, j + 1, k, h => by
    have := flatY_get r j k (by simpa using h)
    refine ⟨?_, ?_⟩
    · rw [flatY, List.getElem?_append_right (by simp; omega), ← this.1]; congr 1; simp; omega
    · rw [flatY, List.getElem?_append_right (by simp; omega), ← this.2]; congr 1; simp; omega
theorem flatY_at : ∀ (ks : List Ky) (j : Nat) (u : Value), (flatY ks)[j]? = some u → ∃ k, ks[j / 2]? = some k ∧ ((j % 2 = 0 ∧ u = .string k.1) ∨ (j % 2 = 1 ∧ u = .int .u8 k.2)) := by
  intro ks j u h
  have hj : j < ks.length * 2 := by have := (List.getElem?_eq_some_iff.1 h).1; rwa [flatY_length] at this
  obtain ⟨k, hk⟩ : ∃ k, ks[j / 2]? = some k := ⟨_, List.getElem?_eq_getElem (by omega)⟩
  obtain ⟨h0, h1⟩ := flatY_get ks (j / 2) k hk
  refine ⟨k, hk, ?_⟩
  rcases Nat.mod_two_eq_zero_or_one j with hm | hm
  · left
    rw [show j / 2 * 2 = j by omega, h] at h0
    exact ⟨hm, Option.some.inj h0⟩
  · right
    rw [show j / 2 * 2 + 1 = j by omega, h] at h1
    exact ⟨hm, Option.some.inj h1⟩
theorem seesK_cell {W : World} {b off cap : Nat} {ks : List Ky} (h : ∀ (j : Nat) (k : Ky), ks[j]? = some k → W.cell? ⟨b, off + j * 2, none⟩ = some (.string k.1) ∧ W.cell? ⟨b, off + j * 2 + 1, none⟩ = some (.int .u8 k.2)) (_ : cap = cap) : ∀ (j : Nat) (u : Value), (flatY ks)[j]? = some u → W.cell? ⟨b, off + j, none⟩ = some u := by
  intro j u hu
  obtain ⟨k, hk, hh⟩ := flatY_at ks j u hu
  obtain ⟨h0, h1⟩ := h _ k hk
  rcases hh with ⟨hm, rfl⟩ | ⟨hm, rfl⟩
  · rwa [show off + j / 2 * 2 = off + j by omega] at h0
  · rwa [show off + j / 2 * 2 + 1 = off + j by omega] at h1
theorem run_append_keys (W : World) (ty base : Nat) (v : Value) (n : Nat) (xs : List Value) (u : Value) (ks : List Ky) (ho : W.ownsRow base 40 2 v n xs) (hu : SeesK W u ks) (hn : n + ks.length ≤ 100000) (hb : base ≤ W.heap.size) :
    ∃ v' w', (Builtin.append_ #[58, 58] ty #[v, u]).run Try.prog W = .ok v' w' ∧ w'.ownsRow base 40 2 v' (n + ks.length) (xs ++ flatY ks) ∧ W.grownBy w' v.ownBlock ∧ (v'.ownBlock = v.ownBlock ∨ v'.ownBlock = some W.heap.size) := by
  obtain ⟨i0, hi, hz0, hz1, hz2⟩ := info_parts Try.info40
  obtain ⟨a, cap, rfl, hs⟩ := hu
  rcases hs with rfl | ⟨b, off, rfl, hc⟩
  · refine ⟨v, W, ?_, by simpa [flatY] using ho, World.grownBy.refl _ _, .inl rfl⟩
    rcases ho.2 with ⟨rfl, rfl⟩ | ⟨g, cap', cur, rfl, _, _, hle, _⟩
    · cases a <;> simp [Builtin.append_, run_underlying Try.underlying58, sizeOf, typeInfo, hi, loadCells, loadCellsFrom, Builtin.lenOf, Builtin.firstCells]
    · cases a <;> simp [Builtin.append_, run_underlying Try.underlying58, sizeOf, typeInfo, hi, hle, storeCells, loadCells, loadCellsFrom, Builtin.lenOf, Builtin.firstCells]
  · obtain ⟨v', w', hr, h2, h3, _, h5⟩ := run_append_own_at (P := Try.prog) W base 58 ty 40 i0 _ 2 24 Try.underlying58 hi hz0 hz1 hz2 rfl (by decide) v n xs ho ⟨b, off, none⟩ ks.length cap (flatY ks) (flatY_length ks)
      (fun j u hj => by rw [Addr.add_lit]; exact seesK_cell (cap := 0) hc rfl j u hj)
      (fun u hu => by
        obtain ⟨j, hj⟩ := List.getElem?_of_mem hu
        obtain ⟨k, _, ⟨_, rfl⟩ | ⟨_, rfl⟩⟩ := flatY_at ks j u hj <;> rfl) (by unfold maxLen; omega) (by omega) hb
    exact ⟨v', w', hr, h2, h3, h5⟩
theorem wp_append_keys {o : Oper} {a : Act} {K : Act → World → Prop} {Q : Exit → Act → World → Prop} {W : World} (s x : Operand)
    (ho : o.op = .call { callee := .builtin .append, args := #[s, x], argTypes := #[58, 58] }) (base : Nat) (v : Value) (n : Nat) (xs : List Value) (hs : a.eval s = v) (hown : W.ownsRow base 40 2 v n xs)
    (u : Value) (ks : List Ky) (hx : a.eval x = u) (hu : SeesK W u ks) (hn : n + ks.length ≤ 100000) (hb : base ≤ W.heap.size)
    (h : ∀ v' w', w'.ownsRow base 40 2 v' (n + ks.length) (xs ++ flatY ks) → W.grownBy w' v.ownBlock → (v'.ownBlock = v.ownBlock ∨ v'.ownBlock = some W.heap.size) → K (a.put o.dst v') w') :
    o.wp Try.prog a W K Q := by
  obtain ⟨v', w', hr, h2, h3, h4⟩ := run_append_keys W o.type base v n xs u ks hown hu hn hb
  unfold Oper.wp execOp
  simp only [ho, resolve, invoke, builtin, Sem.run_bind, Sem.run_pure, Result.andThen_ok, List.map_toArray, List.map_cons, List.map_nil, hs, hx, hr]
  exact h v' w' h2 h3 h4
theorem wpList_append_keys {ops : Array Oper} {rest : List Oper} {o : Oper} {a : Act} {Q : Exit → Act → World → Prop} {W : World} (hgd : o.guard = none) (s x : Operand)
    (ho : o.op = .call { callee := .builtin .append, args := #[s, x], argTypes := #[58, 58] }) (base : Nat) (v : Value) (n : Nat) (xs : List Value) (hs : a.eval s = v) (hown : W.ownsRow base 40 2 v n xs)
    (u : Value) (ks : List Ky) (hx : a.eval x = u) (hu : SeesK W u ks) (hn : n + ks.length ≤ 100000) (hb : base ≤ W.heap.size)
    (h : ∀ v' w', w'.ownsRow base 40 2 v' (n + ks.length) (xs ++ flatY ks) → W.grownBy w' v.ownBlock → (v'.ownBlock = v.ownBlock ∨ v'.ownBlock = some W.heap.size) → wpList Try.prog ops Q rest (a.put o.dst v') w') :
    wpList Try.prog ops Q (o :: rest) a W :=
  wpList_plain hgd fun _ hK => wp_append_keys s x ho base v n xs hs hown u ks hx hu hn hb fun v' w' h2 h3 h4 => hK _ _ (h v' w' h2 h3 h4)
theorem seesK_of_owns {w : World} {base : Nat} {v : Value} {ks : List Ky} (h : w.ownsRow base 40 2 v ks.length (flatY ks)) : SeesK w v ks := by
  have hc := h
  rcases h.2 with ⟨rfl, h0⟩ | ⟨g, cap, cur, rfl, _⟩
  · exact ⟨none, 0, by rw [h0], .inl (List.eq_nil_of_length_eq_zero h0)⟩
  · refine ⟨_, cap, rfl, .inr ⟨g, 0, rfl, fun j k hk => ?_⟩⟩
    obtain ⟨h0, h1⟩ := flatY_get ks j k hk
    rw [Nat.zero_add]
    have e0 := World.ownsRow.cells hc rfl _ _ h0
    have e1 := World.ownsRow.cells hc rfl _ _ h1
    rw [add_at] at e0 e1
    exact ⟨e0, e1⟩
theorem key_seen {W : World} (s : ByteArray) (d : Int) : SeesK (W.alloc (.cells #[.string s, .int .u8 d] 40)) (.slice (some ⟨W.heap.size, 0, none⟩) 1 1) [(s, d)] := by
  refine ⟨_, 1, rfl, .inr ⟨W.heap.size, 0, rfl, fun j k hk => ?_⟩⟩
  have hj := (List.getElem?_eq_some_iff.1 hk).1
  obtain rfl : j = 0 := by simpa using hj
  obtain rfl : (s, d) = k := by simpa using hk
  exact ⟨by go_simp, by go_simp⟩
set_option maxRecDepth 100000 in
set_option maxHeartbeats 1000000 in
theorem rkeys_any {w : World} {rb : Nat} {n m : Int} {os : List One} (h : BookOf w rb n m os) (hl : os.length ≤ 1000) :
    Calls Try.prog 44 #[.pointer (some ⟨rb, 0, none⟩)] w fun e w' => ∃ v, e = .returned v ∧ SeesK w' v (os.map One.ky) ∧ Below w.heap.size w w' := by
  obtain ⟨_, _, v, c2, a, cap, rfl, hL⟩ := h
  have HL := hidI hL
  obtain ⟨k, hk⟩ : ∃ k, os.length = k := ⟨_, rfl⟩
  have HK := hidI hk
  rw [hk] at c2 hl
  clear hL hk
  have u58 : ∀ w, Sem.run Try.prog (underlying 58) w = .ok (TypeDesc.slice 40) w := run_underlying Try.underlying58
  go_enter Try.func44, Try.ntmps44
  go_wp2
  go_loopg [3, 4] k (fun g s3 s4 wx => ∃ (i : Nat) (v3 : Value), v3 = s3 ∧ i + g = k ∧ s4 = .int .i64 i ∧ Hid (Below w.heap.size w wx) ∧ Hid (wx.ownsRow w.heap.size 40 2 v3 i (flatY ((os.map One.ky).take i))))
  case atStart => exact ⟨0, _, rfl, by omega, rfl, hidI (Below.refl _ _), hidI (by simpa [flatY] using World.ownsRow_nil w w.heap.size 40 2)⟩
  case round =>
    obtain ⟨i, v3, rfl, hig, rfl, HX, HO⟩ := hrel
    have kk : ∀ {p : Addr} {v : Value}, w.cell? p = some v → wr.cell? p = some v := fun {p v} hc => (HX.out.cell (World.block_lt_of_cell? w _ hc)).trans hc
    have c2' := kk c2
    have hwr := HX.out.size
    cases gk with
    | zero =>
      obtain rfl : k = i := by omega
      have k1 : decide ((k : Int) < (k : Int)) = false := by simp
      go_wp2
      go_ret
      refine ⟨v3, rfl, seesK_of_owns (base := w.heap.size) ?_, HX.out⟩
      have := HO.out
      rw [List.take_of_length_le (by have := HK.out; simp; omega)] at this
      rw [List.length_map, HK.out]
      exact this
    | succ g =>
      have k1 : (i : Int) < (k : Int) := by omega
      obtain ⟨o, ho⟩ : ∃ o, os[i]? = some o := ⟨_, List.getElem?_eq_getElem (by have := HK.out; omega)⟩
      rcases HL.out with hnil | ⟨b, off, rfl, hlie⟩
      · subst hnil; simp at ho
      obtain ⟨e0, e1, _⟩ := hlie i o ho
      replace e0 := kk e0
      replace e1 := kk e1
      clear hlie kk
      have HV := hidI (key_seen (W := wr) o.name o.side)
      have HO2 := hidI (HO.out.alloc (.cells #[.string o.name, .int .u8 o.side] 40))
      go_wp2_with (at_builtin; go_must (refine wpList_append_keys rfl _ _ rfl w.heap.size _ i _ rfl HO2.out _ [(o.name, o.side)] rfl HV.out (by simp; omega) (by simp; omega) ?_); intro v' w2 hown' hgrow' hat'; refine Hid.out ?_)
      refine hidI ?_
      have HX2 : Hid (Below w.heap.size w w2) := hidI ((HX.out.alloc hwr _).grown hgrow' (by simp; omega) (fun k hk => (HO2.out.lt k hk).1))
      have HO3 := hidI hown'
      clear hown' hgrow' hat'
      go_wp2
      go_roundg g
      case measure => omega
      case rel =>
        refine ⟨i + 1, _, rfl, by omega, by go_num, HX2, hidI ?_⟩
        have ht : (os.map One.ky).take (i + 1) = (os.map One.ky).take i ++ [(o.name, o.side)] := by
          rw [List.take_add_one, List.getElem?_map, ho]; rfl
        rw [ht, flatY_append]
        exact HO3.out
end Go.Proofs.Ytbjoljokdjgbnab
