/-
  The places of all nodes' edges, one behind the other, and where each node's begin: what (*Graph).Rows comes to.
-/
import Derived.Test.YtbjoljokdjgbnaaSame
import Derived.Laws.MakeOwn
namespace Go.Proofs.Ytbjoljokdjgbnaa
open Go.RowKit Go.Deep
/-- Numbers appended to a row of one's own. -/
theorem run_append_sees (W : World) (ty base : Nat) (v : Value) (n : Nat) (xs : List Value) (u : Value) (zs : List Int) (ho : W.ownsRow base 3 1 v n xs) (hu : Sees W u zs) (hn : n + zs.length ≤ 1000000) (hb : base ≤ W.heap.size) :
    ∃ v' w', (Builtin.append_ #[35, 35] ty #[v, u]).run Try.prog W = .ok v' w' ∧ w'.ownsRow base 3 1 v' (n + zs.length) (xs ++ zs.map (Value.int .i64)) ∧ W.grownBy w' v.ownBlock ∧ (v'.ownBlock = v.ownBlock ∨ v'.ownBlock = some W.heap.size) := by
  obtain ⟨i0, hi, hz0, hz1, hz2⟩ := info_parts Try.info3
  obtain ⟨a, cap, rfl, hs⟩ := hu
  rcases hs with rfl | ⟨b, off, rfl, hc⟩
  · refine ⟨v, W, ?_, by simpa using ho, World.grownBy.refl _ _, .inl rfl⟩
    rcases ho.2 with ⟨rfl, rfl⟩ | ⟨g, cap', cur, rfl, _, _, hle, _⟩
    · cases a <;> simp [Builtin.append_, run_underlying Try.underlying35, sizeOf, typeInfo, hi, loadCells, loadCellsFrom, Builtin.lenOf, Builtin.firstCells]
    · cases a <;> simp [Builtin.append_, run_underlying Try.underlying35, sizeOf, typeInfo, hi, hle, storeCells, loadCells, loadCellsFrom, Builtin.lenOf, Builtin.firstCells]
  · obtain ⟨v', w', hr, h2, h3, _, h5⟩ := run_append_own_at (P := Try.prog) W base 35 ty 3 i0 (.int .i64 0) 1 8 Try.underlying35 hi hz0 hz1 hz2 rfl (by decide) v n xs ho ⟨b, off, none⟩ zs.length cap (zs.map (Value.int .i64)) (by simp)
      (fun j u hj => by
        rw [List.getElem?_map] at hj
        obtain ⟨z, hz, rfl⟩ := Option.map_eq_some_iff.1 hj
        have hjl := (List.getElem?_eq_some_iff.1 hz).1
        have := hc j hjl
        rw [Addr.add_lit, this]
        simp [List.getD, hz])
      (by intro u hu; obtain ⟨z, _, rfl⟩ := List.mem_map.1 hu; rfl) (by unfold maxLen; omega) (by omega) hb
    exact ⟨v', w', hr, h2, h3, h5⟩
theorem wpList_append_sees {ops : Array Oper} {rest : List Oper} {o : Oper} {a : Act} {Q : Exit → Act → World → Prop} {W : World} (hgd : o.guard = none) (s x : Operand)
    (ho : o.op = .call { callee := .builtin .append, args := #[s, x], argTypes := #[35, 35] }) (base : Nat) (v : Value) (n : Nat) (xs : List Value) (hs : a.eval s = v) (hown : W.ownsRow base 3 1 v n xs)
    (u : Value) (zs : List Int) (hx : a.eval x = u) (hu : Sees W u zs) (hn : n + zs.length ≤ 1000000) (hb : base ≤ W.heap.size)
    (h : ∀ v' w', w'.ownsRow base 3 1 v' (n + zs.length) (xs ++ zs.map (Value.int .i64)) → W.grownBy w' v.ownBlock → (v'.ownBlock = v.ownBlock ∨ v'.ownBlock = some W.heap.size) → wpList Try.prog ops Q rest (a.put o.dst v') w') :
    wpList Try.prog ops Q (o :: rest) a W := by
  refine wpList_plain hgd fun K hK => ?_
  obtain ⟨v', w', hr, h2, h3, h4⟩ := run_append_sees W o.type base v n xs u zs hown hu hn hb
  unfold Oper.wp execOp
  simp only [ho, resolve, invoke, builtin, Sem.run_bind, Sem.run_pure, Result.andThen_ok, List.map_toArray, List.map_cons, List.map_nil, hs, hx, hr]
  exact hK _ _ (h v' w' h2 h3 h4)
/-- The places of the edges that leave the first v nodes. -/
def cols (es : Edges) (v : Nat) : List Int := (List.range v).flatMap fun (u : Nat) => places es u false
def begins (es : Edges) (v : Nat) : List Int := (List.range v).map fun (u : Nat) => ((cols es u).length : Int)
theorem cols_succ (es : Edges) (v : Nat) : cols es (v + 1) = cols es v ++ places es v false := by simp [cols, List.range_succ]
theorem begins_succ (es : Edges) (v : Nat) : begins es (v + 1) = begins es v ++ [((cols es v).length : Int)] := by simp [begins, List.range_succ]
theorem begins_length (es : Edges) (v : Nat) : (begins es v).length = v := by simp [begins]
theorem places_length (es : Edges) (v : Int) (inn : Bool) : (places es v inn).length ≤ es.length := by
  unfold places
  rw [List.length_map]
  exact Nat.le_trans (List.length_filter_le _ _) (by rw [upto_length]; exact Nat.le_refl _)
theorem cols_length (es : Edges) : ∀ v : Nat, (cols es v).length ≤ v * es.length
  | 0 => by simp [cols]
  | v + 1 => by
    have := cols_length es v
    have := places_length es v false
    rw [cols_succ, List.length_append, Nat.add_mul]
    omega
theorem make0 (c : Nat) (hc : c ≤ 1000) (W : World) : (Instr.makeSlice 35 (.int .i64 0) (.int .i64 (c : Int))).run Try.prog W = .ok (.slice (some ⟨W.heap.size, 0, none⟩) 0 c) (W.alloc (.cells (madeCells #[.int .i64 0] c) 3)) := by
  obtain ⟨i0, hi, hz0, hz1, hz2⟩ := info_parts Try.info3
  have := run_make (P := Try.prog) W 35 3 i0 (.int .i64 0) Try.underlying35 hi hz0 .i64 .i64 0 (c : Int) (Int.le_refl _) (by omega) (by rw [hz2]; omega) (by omega)
  rw [hz1] at this
  simp only [Int.toNat_zero, Int.toNat_natCast, Nat.mul_one] at this
  exact this
theorem own_below {W W' : World} {base e size n B : Nat} {v : Value} {xs : List Value} (h : W.ownsRow base e size v n xs) (hb : Below B W W') (hB : W.heap.size ≤ B := by exact Nat.le_refl _) : W'.ownsRow base e size v n xs := by
  refine ⟨h.1, ?_⟩
  rcases h.2 with h2 | ⟨g, cap, cur, hv, hg, hc, hr⟩
  · exact .inl h2
  · exact .inr ⟨g, cap, cur, hv, hg, (hb.block g (Nat.lt_of_lt_of_le (Array.getElem?_eq_some_iff.1 hc).1 hB)).trans hc, hr⟩
theorem own_some {W : World} {base e size n : Nat} {v : Value} {xs : List Value} (h : W.ownsRow base e size v n xs) (hs : v.ownBlock ≠ none) : ∃ g c, v = .slice (some ⟨g, 0, none⟩) n c ∧ base ≤ g ∧ n ≤ c ∧ c ≤ 9223372036854775807 := by
  rcases h.2 with ⟨rfl, rfl⟩ | ⟨g, cap, cur, rfl, h0, _, h1, h2, _⟩
  · exact absurd rfl hs
  · exact ⟨g, cap, rfl, h0, h1, by unfold maxLen at h2; omega⟩
theorem own_shape {W : World} {base e size n : Nat} {v : Value} {xs : List Value} (h : W.ownsRow base e size v n xs) : ∃ a c, v = .slice a n c := by
  rcases h.2 with ⟨rfl, rfl⟩ | ⟨g, cap, cur, rfl, _⟩
  · exact ⟨_, _, rfl⟩
  · exact ⟨_, _, rfl⟩
theorem sees_one (W : World) (z : Int) (t : TypeId) : Sees (W.alloc (.cells #[.int .i64 z] t)) (.slice (some ⟨W.heap.size, 0, none⟩) 1 1) [z] := by
  refine ⟨_, 1, rfl, .inr ⟨W.heap.size, 0, rfl, fun j hj => ?_⟩⟩
  obtain rfl : j = 0 := by simp at hj; omega
  have hn := World.alloc_heap_new W (.cells #[.int .i64 z] t)
  unfold World.cell?; rw [hn]; rfl
theorem rows_nil (w : World) : Calls Try.prog 29 #[.pointer none] w fun e w' => e = .returned (.tuple #[.slice none 0 0, .slice none 0 0]) ∧ w = w' := by
  go_enter Try.func29, Try.ntmps29
  go_wp2
  go_ret2
  exact ⟨rfl, rfl⟩
set_option maxRecDepth 100000 in
set_option maxHeartbeats 4000000 in
theorem rows_walk (gb N : Nat) (es : Edges) (w : World) (hg : IsG w (some ⟨gb, 0, none⟩) (N : Int) es) :
    Calls Try.prog 29 #[.pointer (some ⟨gb, 0, none⟩)] w fun e w' => ∃ u v, e = .returned (.tuple #[u, v]) ∧ Sees w' u (begins es (N + 1)) ∧ Sees w' v (cols es N) ∧ Below w.heap.size w w' ∧ (∃ g c, v = .slice (some ⟨g, 0, none⟩) (cols es N).length c ∧ w.heap.size ≤ g ∧ (cols es N).length ≤ c ∧ c ≤ 9223372036854775807) ∧ Fresh w.heap.size u := by
  obtain ⟨i0, hi, hz0, hz1, hz2⟩ := info_parts Try.info3
  have HG := hidI hg
  rcases hg with ⟨h, _⟩ | ⟨gb', v, mb, base, h, h1, h2, h3, hgd, c0, c1, hse, c2, hm⟩
  · cases h
  cases h
  obtain ⟨ea, ecap, rfl, _⟩ := hse
  clear hm hgd c2
  have k1 := make0 (N + 1) (by omega)
  rw [show ((N + 1 : Nat) : Int) = (N : Int) + 1 by omega] at k1
  have k2 := make0 es.length (by omega)
  have hgw : gb < w.heap.size := World.block_lt_of_cell? w _ c0
  obtain ⟨m, hm⟩ : ∃ m, es.length = m := ⟨_, rfl⟩
  rw [hm] at h3 c1 k2
  have HM := hidI hm
  clear hm
  go_enter Try.func29, Try.ntmps29
  go_wp2
  go_region
  · have e4 : ∃ W : World, W = ((w.alloc (.cells (madeCells #[.int .i64 0] (N + 1)) 3)).alloc (.cells (madeCells #[.int .i64 0] m) 3)).drew := ⟨_, rfl⟩
    obtain ⟨W, hW⟩ := e4
    have ox : W.ownsRow w.heap.size 3 1 (.slice (some ⟨w.heap.size, 0, none⟩) 0 (N + 1)) 0 [] := by
      rw [hW]; exact (World.ownsRow_made w _ (N + 1) (Nat.le_refl _) (by unfold maxLen; omega) (by rw [size_madeCells]; omega)).alloc _
    have oy : W.ownsRow w.heap.size 3 1 (.slice (some ⟨w.heap.size + 1, 0, none⟩) 0 m) 0 [] := by
      have := World.ownsRow_made (base := w.heap.size) (e := 3) (size := 1) (w.alloc (.cells (madeCells #[.int .i64 0] (N + 1)) 3)) (madeCells #[.int .i64 0] m) m (by simp) (by unfold maxLen; omega) (by rw [size_madeCells]; omega)
      rw [hW]
      simp only [World.size_alloc] at this
      exact this
    have bW : Below w.heap.size w W := by rw [hW]; exact (((Below.refl _ w).alloc (Nat.le_refl _) _).alloc (by simp) _).drew
    have sW : W.heap.size = w.heap.size + 2 := by rw [hW]; simp
    rw [← hW]
    clear hW k1 k2
    obtain ⟨v4, hv4⟩ : ∃ v, v = Value.slice (some ⟨w.heap.size, 0, none⟩) 0 (N + 1) := ⟨_, rfl⟩
    obtain ⟨v5, hv5⟩ : ∃ v, v = Value.slice (some ⟨w.heap.size + 1, 0, none⟩) 0 m := ⟨_, rfl⟩
    rw [← hv4] at ox ⊢
    rw [← hv5] at oy ⊢
    have hne : v4.ownBlock ≠ v5.ownBlock := by rw [hv4, hv5]; simp [Value.ownBlock]
    have hs5 : v5.ownBlock ≠ none := by rw [hv5]; simp [Value.ownBlock]
    have HS5 := hidI hs5
    clear hv4 hv5
    have H4 := hidI ox
    have H5 := hidI oy
    have HB := hidI bW
    have HN := hidI hne
    clear ox oy bW hne hs5
    have d0 : W.cell? ⟨gb, 0, none⟩ = some (.int .i64 N) := (HB.out.cell (p := ⟨gb, 0, none⟩) hgw).trans c0
    go_wp2
    go_loopg [4, 5, 25] N (fun g s4 s5 s25 wx => ∃ (i : Nat), i + g = N ∧ s25 = .int .i64 i ∧ wx.ownsRow w.heap.size 3 1 s4 i ((begins es i).map (Value.int .i64)) ∧ wx.ownsRow w.heap.size 3 1 s5 (cols es i).length ((cols es i).map (Value.int .i64)) ∧ s4.ownBlock ≠ s5.ownBlock ∧ s5.ownBlock ≠ none ∧ Below w.heap.size w wx ∧ w.heap.size ≤ wx.heap.size)
    case atStart => exact ⟨0, by omega, rfl, H4.out, H5.out, HN.out, HS5.out, HB.out, by omega⟩
    case round =>
      obtain ⟨i, hig, rfl, ho4, ho5, hn45, hs5, hbl, hsz⟩ := hrel
      obtain ⟨a5, c5, rfl⟩ := own_shape ho5
      have hcl := cols_length es i
      have hcl2 : i * es.length ≤ 12 * 30 := Nat.mul_le_mul (by omega) (by have := HM.out; omega)
      obtain ⟨L, hL⟩ : ∃ L, (cols es i).length = L := ⟨_, rfl⟩
      rw [hL] at ho5 hcl hn45 hs5 ⊢
      have S5 := hidI hs5
      have S6 := hidI (own_some ho5 hs5)
      clear hs5
      have hL2 : L ≤ 360 := by omega
      have hs1 := sees_one wr (L : Int) 3
      have own4 : (wr.alloc (.cells #[.int .i64 (L : Int)] 3)).ownsRow w.heap.size 3 1 u4 i ((begins es i).map (Value.int .i64)) := ho4.alloc _
      have HO4 := hidI own4
      have HO5 := hidI ho5
      have HS1 := hidI hs1
      have HB := hidI hbl
      have HN := hidI hn45
      have HL := hidI hL
      have hsz' : w.heap.size ≤ (wr.alloc (.cells #[.int .i64 (L : Int)] 3)).heap.size := by simp; omega
      have HSZ := hidI hsz'
      have hlt4 : ∀ k, u4.ownBlock = some k → w.heap.size ≤ k ∧ k < wr.heap.size := fun k hk => ho4.lt k hk
      have hlt5 : ∀ k, (Value.slice a5 L c5).ownBlock = some k → w.heap.size ≤ k ∧ k < wr.heap.size := fun k hk => ho5.lt k hk
      have H4L := hidI hlt4
      have H5L := hidI hlt5
      clear ho4 own4 ho5 hs1 hbl hn45 hL hsz' hcl hcl2 hlt4 hlt5 H4 H5
      cases gk with
      | zero =>
        have hil : i = N := by omega
        subst hil
        go_wp2_with (at_builtin; refine wpList_append_sees rfl _ _ rfl w.heap.size u4 i _ rfl HO4.out _ [(L : Int)] rfl HS1.out (by simp; omega) HSZ.out ?_; intro v' w1 hown' hgrow' hat')
        go_ret2
        refine ⟨_, _, rfl, sees_of_owns (base := w.heap.size) (e := 3) ?_, ?_, ?_, by rw [HL.out]; exact S6.out, fun k hk => (hown'.lt k hk).1⟩
        · rw [begins_length, begins_succ, HL.out]; simpa using hown'
        · have := (HO5.out.alloc (.cells #[.int .i64 (L : Int)] 3)).kept hgrow' (.inr (fun e => HN.out e.symm))
          exact sees_of_owns (zs := cols es i) (by rw [HL.out]; exact this)
        · have h5 := HB.out.size
          exact (HB.out.alloc h5 _).grown hgrow' (by simp; omega) (fun k hk => (H4L.out k hk).1)
      | succ g =>
        go_wp2_with (at_builtin; refine wpList_append_sees rfl _ _ rfl w.heap.size u4 i _ rfl HO4.out _ [(L : Int)] rfl HS1.out (by simp; omega) HSZ.out ?_; intro v' w1 hown' hgrow' hat'; refine Hid.out ?_)
        refine hidI ?_
        have h5 := HB.out.size
        have b1 : Below w.heap.size w w1 := (HB.out.alloc h5 _).grown hgrow' (by simp; omega) (fun k hk => (H4L.out k hk).1)
        have s1 : wr.heap.size < w1.heap.size := by have := hgrow'.size; simp at this; omega
        have o5 := (HO5.out.alloc (.cells #[.int .i64 (L : Int)] 3)).kept hgrow' (.inr (fun e => HN.out e.symm))
        have n1 : v'.ownBlock ≠ (Value.slice a5 L c5).ownBlock := fun e => by
          rcases hat' with h | h
          · exact HN.out (h ▸ e)
          · rw [h] at e
            have := (H5L.out _ e.symm).2
            simp at this; omega
        have o4 : w1.ownsRow w.heap.size 3 1 v' (i + 1) ((begins es (i + 1)).map (Value.int .i64)) := by
          rw [begins_succ, HL.out]; simpa using hown'
        have C := hidI (out_any (some ⟨gb, 0, none⟩) (i : Int) es (by have := HM.out; omega) w1 (HG.out.below b1 (Nat.le_refl _)).walks)
        have O4 := hidI o4
        have O5 := hidI o5
        have N1 := hidI n1
        have B1 := hidI b1
        have sw1 : w.heap.size ≤ w1.heap.size := by omega
        clear HO4 HO5 HS1 HN HSZ H4L H5L HB hown' hgrow' hat' b1 o5 n1 o4 h5
        go_wp2_with (go_at_call 31; refine Calls.mono C.out ?_; rintro e w2 ⟨u, rfl, hu, hb2⟩; refine Hid.out ?_)
        refine hidI ?_
        clear C
        have hpl := places_length es (i : Int) false
        have p4 := hidI (own_below O4.out hb2)
        have p5 := hidI (own_below O5.out hb2)
        have sw2 : w.heap.size ≤ w2.heap.size := by have := hb2.size; omega
        have B2 := hidI (B1.out.trans (hb2.mono sw1))
        have HU := hidI hu
        have hn : L + (places es (i : Int) false).length ≤ 1000000 := by have := HM.out; omega
        have HN2 := hidI hn
        clear O4 O5 B1 hb2 hu hpl hn
        go_wp2_with (at_builtin; refine wpList_append_sees rfl _ _ rfl w.heap.size _ L _ rfl p5.out u _ rfl HU.out HN2.out sw2 ?_; intro v3 w3 hown3 hgrow3 hat3)
        have hc3 : (cols es (i + 1)).length = L + (places es (i : Int) false).length := by rw [cols_succ, List.length_append, HL.out]
        go_roundg g
        case measure => omega
        case rel =>
          refine ⟨i + 1, by omega, by go_num, p4.out.kept hgrow3 (.inr N1.out), ?_, ?_, ?_, ?_, ?_⟩
          · rw [hc3, cols_succ]; simpa using hown3
          · rcases hat3 with h | h
            · rw [h]; exact N1.out
            · rw [h]
              intro e
              have := (p4.out.lt _ e).2
              omega
          · rcases hat3 with h | h
            · rw [h]; exact S5.out
            · rw [h]; simp
          · have h6 := B2.out.size
            exact B2.out.grown hgrow3 (by omega) (fun k hk => (p5.out.lt k hk).1)
          · have := hgrow3.size; omega
  · have e4 : ∃ W : World, W = ((w.alloc (.cells (madeCells #[.int .i64 0] m) 3)).alloc (.cells (madeCells #[.int .i64 0] (N + 1)) 3)).drew := ⟨_, rfl⟩
    obtain ⟨W, hW⟩ := e4
    have ox : W.ownsRow w.heap.size 3 1 (.slice (some ⟨w.heap.size, 0, none⟩) 0 m) 0 [] := by
      rw [hW]; exact (World.ownsRow_made w _ m (Nat.le_refl _) (by unfold maxLen; omega) (by rw [size_madeCells]; omega)).alloc _
    have oy : W.ownsRow w.heap.size 3 1 (.slice (some ⟨w.heap.size + 1, 0, none⟩) 0 (N + 1)) 0 [] := by
      have := World.ownsRow_made (base := w.heap.size) (e := 3) (size := 1) (w.alloc (.cells (madeCells #[.int .i64 0] m) 3)) (madeCells #[.int .i64 0] (N + 1)) (N + 1) (by simp) (by unfold maxLen; omega) (by rw [size_madeCells]; omega)
      rw [hW]
      simp only [World.size_alloc] at this
      exact this
    have bW : Below w.heap.size w W := by rw [hW]; exact (((Below.refl _ w).alloc (Nat.le_refl _) _).alloc (by simp) _).drew
    have sW : W.heap.size = w.heap.size + 2 := by rw [hW]; simp
    rw [← hW]
    clear hW k1 k2
    obtain ⟨v4, hv4⟩ : ∃ v, v = Value.slice (some ⟨w.heap.size + 1, 0, none⟩) 0 (N + 1) := ⟨_, rfl⟩
    obtain ⟨v5, hv5⟩ : ∃ v, v = Value.slice (some ⟨w.heap.size, 0, none⟩) 0 m := ⟨_, rfl⟩
    rw [← hv4] at oy ⊢
    rw [← hv5] at ox ⊢
    have hne : v4.ownBlock ≠ v5.ownBlock := by rw [hv4, hv5]; simp [Value.ownBlock]
    have hs5 : v5.ownBlock ≠ none := by rw [hv5]; simp [Value.ownBlock]
    have HS5 := hidI hs5
    clear hv4 hv5
    have H4 := hidI oy
    have H5 := hidI ox
    have HB := hidI bW
    have HN := hidI hne
    clear ox oy bW hne hs5
    have d0 : W.cell? ⟨gb, 0, none⟩ = some (.int .i64 N) := (HB.out.cell (p := ⟨gb, 0, none⟩) hgw).trans c0
    go_wp2
    go_loopg [4, 5, 25] N (fun g s4 s5 s25 wx => ∃ (i : Nat), i + g = N ∧ s25 = .int .i64 i ∧ wx.ownsRow w.heap.size 3 1 s4 i ((begins es i).map (Value.int .i64)) ∧ wx.ownsRow w.heap.size 3 1 s5 (cols es i).length ((cols es i).map (Value.int .i64)) ∧ s4.ownBlock ≠ s5.ownBlock ∧ s5.ownBlock ≠ none ∧ Below w.heap.size w wx ∧ w.heap.size ≤ wx.heap.size)
    case atStart => exact ⟨0, by omega, rfl, H4.out, H5.out, HN.out, HS5.out, HB.out, by omega⟩
    case round =>
      obtain ⟨i, hig, rfl, ho4, ho5, hn45, hs5, hbl, hsz⟩ := hrel
      obtain ⟨a5, c5, rfl⟩ := own_shape ho5
      have hcl := cols_length es i
      have hcl2 : i * es.length ≤ 12 * 30 := Nat.mul_le_mul (by omega) (by have := HM.out; omega)
      obtain ⟨L, hL⟩ : ∃ L, (cols es i).length = L := ⟨_, rfl⟩
      rw [hL] at ho5 hcl hn45 hs5 ⊢
      have S5 := hidI hs5
      have S6 := hidI (own_some ho5 hs5)
      clear hs5
      have hL2 : L ≤ 360 := by omega
      have hs1 := sees_one wr (L : Int) 3
      have own4 : (wr.alloc (.cells #[.int .i64 (L : Int)] 3)).ownsRow w.heap.size 3 1 u4 i ((begins es i).map (Value.int .i64)) := ho4.alloc _
      have HO4 := hidI own4
      have HO5 := hidI ho5
      have HS1 := hidI hs1
      have HB := hidI hbl
      have HN := hidI hn45
      have HL := hidI hL
      have hsz' : w.heap.size ≤ (wr.alloc (.cells #[.int .i64 (L : Int)] 3)).heap.size := by simp; omega
      have HSZ := hidI hsz'
      have hlt4 : ∀ k, u4.ownBlock = some k → w.heap.size ≤ k ∧ k < wr.heap.size := fun k hk => ho4.lt k hk
      have hlt5 : ∀ k, (Value.slice a5 L c5).ownBlock = some k → w.heap.size ≤ k ∧ k < wr.heap.size := fun k hk => ho5.lt k hk
      have H4L := hidI hlt4
      have H5L := hidI hlt5
      clear ho4 own4 ho5 hs1 hbl hn45 hL hsz' hcl hcl2 hlt4 hlt5 H4 H5
      cases gk with
      | zero =>
        have hil : i = N := by omega
        subst hil
        go_wp2_with (at_builtin; refine wpList_append_sees rfl _ _ rfl w.heap.size u4 i _ rfl HO4.out _ [(L : Int)] rfl HS1.out (by simp; omega) HSZ.out ?_; intro v' w1 hown' hgrow' hat')
        go_ret2
        refine ⟨_, _, rfl, sees_of_owns (base := w.heap.size) (e := 3) ?_, ?_, ?_, by rw [HL.out]; exact S6.out, fun k hk => (hown'.lt k hk).1⟩
        · rw [begins_length, begins_succ, HL.out]; simpa using hown'
        · have := (HO5.out.alloc (.cells #[.int .i64 (L : Int)] 3)).kept hgrow' (.inr (fun e => HN.out e.symm))
          exact sees_of_owns (zs := cols es i) (by rw [HL.out]; exact this)
        · have h5 := HB.out.size
          exact (HB.out.alloc h5 _).grown hgrow' (by simp; omega) (fun k hk => (H4L.out k hk).1)
      | succ g =>
        go_wp2_with (at_builtin; refine wpList_append_sees rfl _ _ rfl w.heap.size u4 i _ rfl HO4.out _ [(L : Int)] rfl HS1.out (by simp; omega) HSZ.out ?_; intro v' w1 hown' hgrow' hat'; refine Hid.out ?_)
        refine hidI ?_
        have h5 := HB.out.size
        have b1 : Below w.heap.size w w1 := (HB.out.alloc h5 _).grown hgrow' (by simp; omega) (fun k hk => (H4L.out k hk).1)
        have s1 : wr.heap.size < w1.heap.size := by have := hgrow'.size; simp at this; omega
        have o5 := (HO5.out.alloc (.cells #[.int .i64 (L : Int)] 3)).kept hgrow' (.inr (fun e => HN.out e.symm))
        have n1 : v'.ownBlock ≠ (Value.slice a5 L c5).ownBlock := fun e => by
          rcases hat' with h | h
          · exact HN.out (h ▸ e)
          · rw [h] at e
            have := (H5L.out _ e.symm).2
            simp at this; omega
        have o4 : w1.ownsRow w.heap.size 3 1 v' (i + 1) ((begins es (i + 1)).map (Value.int .i64)) := by
          rw [begins_succ, HL.out]; simpa using hown'
        have C := hidI (out_any (some ⟨gb, 0, none⟩) (i : Int) es (by have := HM.out; omega) w1 (HG.out.below b1 (Nat.le_refl _)).walks)
        have O4 := hidI o4
        have O5 := hidI o5
        have N1 := hidI n1
        have B1 := hidI b1
        have sw1 : w.heap.size ≤ w1.heap.size := by omega
        clear HO4 HO5 HS1 HN HSZ H4L H5L HB hown' hgrow' hat' b1 o5 n1 o4 h5
        go_wp2_with (go_at_call 31; refine Calls.mono C.out ?_; rintro e w2 ⟨u, rfl, hu, hb2⟩; refine Hid.out ?_)
        refine hidI ?_
        clear C
        have hpl := places_length es (i : Int) false
        have p4 := hidI (own_below O4.out hb2)
        have p5 := hidI (own_below O5.out hb2)
        have sw2 : w.heap.size ≤ w2.heap.size := by have := hb2.size; omega
        have B2 := hidI (B1.out.trans (hb2.mono sw1))
        have HU := hidI hu
        have hn : L + (places es (i : Int) false).length ≤ 1000000 := by have := HM.out; omega
        have HN2 := hidI hn
        clear O4 O5 B1 hb2 hu hpl hn
        go_wp2_with (at_builtin; refine wpList_append_sees rfl _ _ rfl w.heap.size _ L _ rfl p5.out u _ rfl HU.out HN2.out sw2 ?_; intro v3 w3 hown3 hgrow3 hat3)
        have hc3 : (cols es (i + 1)).length = L + (places es (i : Int) false).length := by rw [cols_succ, List.length_append, HL.out]
        go_roundg g
        case measure => omega
        case rel =>
          refine ⟨i + 1, by omega, by go_num, p4.out.kept hgrow3 (.inr N1.out), ?_, ?_, ?_, ?_, ?_⟩
          · rw [hc3, cols_succ]; simpa using hown3
          · rcases hat3 with h | h
            · rw [h]; exact N1.out
            · rw [h]
              intro e
              have := (p4.out.lt _ e).2
              omega
          · rcases hat3 with h | h
            · rw [h]; exact S5.out
            · rw [h]; simp
          · have h6 := B2.out.size
            exact B2.out.grown hgrow3 (by omega) (fun k hk => (p5.out.lt k hk).1)
          · have := hgrow3.size; omega
theorem rows_any (gp : Option Addr) (N : Nat) (es : Edges) (w : World) (hg : IsG w gp (N : Int) es) :
    Calls Try.prog 29 #[.pointer gp] w fun e w' => ∃ u v, e = .returned (.tuple #[u, v]) ∧ Sees w' u (if gp = none then [] else begins es (N + 1)) ∧ Sees w' v (cols es N) ∧ Below w.heap.size w w' := by
  cases gp with
  | none =>
    rcases hg with ⟨_, h0, rfl⟩ | ⟨_, _, _, _, h, _⟩
    · obtain rfl : N = 0 := by omega
      refine (rows_nil w).mono ?_
      rintro e w' ⟨rfl, rfl⟩
      exact ⟨_, _, rfl, ⟨none, 0, rfl, .inl rfl⟩, ⟨none, 0, rfl, .inl rfl⟩, Below.refl _ _⟩
    · cases h
  | some p =>
    rcases hg with ⟨h, _⟩ | ⟨gb, v, mb, base, h, hr⟩
    · cases h
    · cases h
      refine (rows_walk gb N es w (.inr ⟨gb, v, mb, base, rfl, hr⟩)).mono ?_
      rintro e w' ⟨u, v, he, h1, h2, h3, _⟩
      exact ⟨u, v, he, h1, h2, h3⟩
end Go.Proofs.Ytbjoljokdjgbnaa
