/-
  The document's graph: its New, N, M, Out, In, Degree, Between.
-/
import Derived.Test.YtbjoljokdjgbnaaCount
import Derived.Test.YtbjoljokdjgbnaaRCheck
namespace Go.Proofs.Ytbjoljokdjgbnaa
open Go.RowKit Go.Deep
/-- Edges appended to a row of one's own. -/
theorem run_append_seesE (W : World) (ty base : Nat) (v : Value) (n : Nat) (xs : List Value) (u : Value) (es : Edges) (ho : W.ownsRow base 55 2 v n xs) (hu : SeesE W u es) (hn : n + es.length ≤ 1000000) (hb : base ≤ W.heap.size) :
    ∃ v' w', (Builtin.append_ #[22, 22] ty #[v, u]).run Try.prog W = .ok v' w' ∧ w'.ownsRow base 55 2 v' (n + es.length) (xs ++ flat es) ∧ W.grownBy w' v.ownBlock ∧ (v'.ownBlock = v.ownBlock ∨ v'.ownBlock = some W.heap.size) := by
  obtain ⟨i0, hi, hz0, hz1, hz2⟩ := info_parts Try.info55
  obtain ⟨a, cap, rfl, hs⟩ := hu
  rcases hs with rfl | ⟨b, off, rfl, hc⟩
  · refine ⟨v, W, ?_, by simpa [flat] using ho, World.grownBy.refl _ _, .inl rfl⟩
    rcases ho.2 with ⟨rfl, rfl⟩ | ⟨g, cap', cur, rfl, _, _, hle, _⟩
    · cases a <;> simp [Builtin.append_, run_underlying Try.underlying22, sizeOf, typeInfo, hi, loadCells, loadCellsFrom, Builtin.lenOf, Builtin.firstCells]
    · cases a <;> simp [Builtin.append_, run_underlying Try.underlying22, sizeOf, typeInfo, hi, hle, storeCells, loadCells, loadCellsFrom, Builtin.lenOf, Builtin.firstCells]
  · obtain ⟨v', w', hr, h2, h3, _, h5⟩ := run_append_own_at (P := Try.prog) W base 22 ty 55 i0 (.agg #[.int .i64 0, .int .i64 0]) 2 16 Try.underlying22 hi hz0 hz1 hz2 rfl (by decide) v n xs ho ⟨b, off, none⟩ es.length cap (flat es) (by rw [flat_length]) (lie_news hc) (flat_one es) (by unfold maxLen; omega) (by omega) hb
    exact ⟨v', w', hr, h2, h3, h5⟩
theorem wpList_append_seesE {ops : Array Oper} {rest : List Oper} {o : Oper} {a : Act} {Q : Exit → Act → World → Prop} {W : World} (hgd : o.guard = none) (s x : Operand)
    (ho : o.op = .call { callee := .builtin .append, args := #[s, x], argTypes := #[22, 22] }) (base : Nat) (v : Value) (n : Nat) (xs : List Value) (hs : a.eval s = v) (hown : W.ownsRow base 55 2 v n xs)
    (u : Value) (es : Edges) (hx : a.eval x = u) (hu : SeesE W u es) (hn : n + es.length ≤ 1000000) (hb : base ≤ W.heap.size)
    (h : ∀ v' w', w'.ownsRow base 55 2 v' (n + es.length) (xs ++ flat es) → W.grownBy w' v.ownBlock → (v'.ownBlock = v.ownBlock ∨ v'.ownBlock = some W.heap.size) → wpList Try.prog ops Q rest (a.put o.dst v') w') :
    wpList Try.prog ops Q (o :: rest) a W := by
  refine wpList_plain hgd fun K hK => ?_
  obtain ⟨v', w', hr, h2, h3, h4⟩ := run_append_seesE W o.type base v n xs u es hown hu hn hb
  unfold Oper.wp execOp
  simp only [ho, resolve, invoke, builtin, Sem.run_bind, Sem.run_pure, Result.andThen_ok, List.map_toArray, List.map_cons, List.map_nil, hs, hx, hr]
  exact hK _ _ (h v' w' h2 h3 h4)
/-- The document's graph of n nodes with the edges es. -/
def IsR (w : World) (rp : Option Addr) (n : Int) (es : Edges) : Prop :=
  (rp = none ∧ n = 0 ∧ es = []) ∨ ∃ rb v, rp = some ⟨rb, 0, none⟩ ∧ 1 ≤ n ∧ n ≤ 12 ∧ es.length ≤ 30 ∧ (∀ x ∈ es, good n x = true) ∧ w.cell? ⟨rb, 0, none⟩ = some (.int .i64 n) ∧ w.cell? ⟨rb, 1, none⟩ = some v ∧ SeesE w v es
theorem IsR.below {w w' : World} {rp : Option Addr} {n : Int} {es : Edges} {B : Nat} (h : IsR w rp n es) (hb : Below B w w') (hB : w.heap.size ≤ B) : IsR w' rp n es := by
  rcases h with h | ⟨rb, v, h1, h2, h3, h4, h5, c0, c1, hs⟩
  · exact .inl h
  · have hl : rb < B := Nat.lt_of_lt_of_le (World.block_lt_of_cell? w _ c0) hB
    exact .inr ⟨rb, v, h1, h2, h3, h4, h5, (hb.cell (p := ⟨rb, 0, none⟩) hl).trans c0, (hb.cell (p := ⟨rb, 1, none⟩) hl).trans c1, hs.below hb hB⟩
theorem IsR.short {w : World} {rp : Option Addr} {n : Int} {es : Edges} (h : IsR w rp n es) : es.length ≤ 30 := by
  rcases h with ⟨_, _, rfl⟩ | ⟨_, _, _, _, _, h, _⟩
  · simp
  · exact h
set_option maxHeartbeats 1000000 in
theorem rnew_nil (n : Int) (v : Value) (es : Edges) (w : World) (hv : SeesE w v es) (hc : (check n es).2 = 11) :
    Calls Try.prog 13 #[.int .i64 n, v] w fun e w' => e = .returned (.pointer none) ∧ w = w' := by
  have C := hidI (rcheck_any n v es w hv)
  rw [hc] at C
  obtain ⟨c1, h1⟩ : ∃ c1, (check n es).1 = c1 := ⟨_, rfl⟩
  rw [h1] at C
  clear h1 hv hc
  go_enter Try.func13, Try.ntmps13
  go_wp2_with (go_at_call 11; refine Calls.mono C.out ?_; rintro e w1 ⟨rfl, rfl⟩)
  go_ret
  exact ⟨rfl, rfl⟩
set_option maxHeartbeats 1000000 in
theorem rnew_ok (n : Int) (v : Value) (es : Edges) (w : World) (hv : SeesE w v es) (h1 : 1 ≤ n) (h2 : n ≤ 12) (h3 : es.length ≤ 30) (hgd : ∀ x ∈ es, good n x = true) :
    Calls Try.prog 13 #[.int .i64 n, v] w fun e w' => ∃ rb, e = .returned (.pointer (some ⟨rb, 0, none⟩)) ∧ IsR w' (some ⟨rb, 0, none⟩) n es ∧ Below w.heap.size w w' := by
  have hck : check n es = (0, 0) := by
    unfold check; rw [if_neg (by omega), findIdx_none (fun j x hx => hgd x (List.mem_of_getElem? hx))]
  have C := hidI (rcheck_any n v es w hv)
  rw [hck] at C
  have HG := hidI hgd
  have HV := hidI (hv.below ((Below.refl _ w).alloc (Nat.le_refl _) (.cells #[] 55)) (Nat.le_refl _))
  have HO := hidI (World.ownsRow_made (base := w.heap.size) (e := 55) (size := 2) w #[] 0 (Nat.le_refl _) (by unfold maxLen; omega) rfl)
  clear hck hgd hv
  go_enter Try.func13, Try.ntmps13
  go_wp2_with (first | (go_at_call 11; refine Calls.mono C.out ?_; rintro e w1 ⟨rfl, rfl⟩) | (at_builtin; refine wpList_append_seesE rfl _ _ rfl w.heap.size _ 0 [] rfl HO.out _ es rfl HV.out (by omega) (by simp) ?_; intro v' w1 hown' hgrow' hat'; refine Hid.out ?_))
  refine hidI ?_
  have b1 : Below w.heap.size w w1 := ((Below.refl _ w).alloc (Nat.le_refl _) _).grown hgrow' (by simp) (fun k hk => (HO.out.lt k hk).1)
  have hsee : SeesE w1 v' es := seesE_of_owns (base := w.heap.size) (by simpa using hown')
  clear C HV HO hown' hgrow' hat'
  obtain ⟨a, cap, rfl, _⟩ := id hsee
  have HS := hidI hsee
  have HB := hidI b1
  clear hsee b1
  go_wp2
  go_ret
  refine ⟨w1.heap.size, rfl, .inr ⟨w1.heap.size, _, rfl, h1, h2, h3, HG.out, cell_pair0 _ _ _ _, cell_pair1 _ _ _ _, ?_⟩, HB.out.alloc HB.out.size _⟩
  exact HS.out.below ((Below.refl _ w1).alloc (Nat.le_refl _) _) (Nat.le_refl _)
theorem rn_any (rp : Option Addr) (n : Int) (es : Edges) (w : World) (hg : IsR w rp n es) : Calls Try.prog 51 #[.pointer rp] w fun e w' => e = .returned (.int .i64 n) ∧ w = w' := by
  rcases hg with ⟨rfl, rfl, _⟩ | ⟨rb, v, rfl, h1, h2, h3, hgd, c0, c1, hse⟩
  · go_enter Try.func51, Try.ntmps51
    go_wp2
    go_ret
    exact ⟨rfl, rfl⟩
  · clear hse hgd
    go_enter Try.func51, Try.ntmps51
    go_wp2
    go_ret
    exact ⟨rfl, rfl⟩
theorem rm_any (rp : Option Addr) (n : Int) (es : Edges) (w : World) (hg : IsR w rp n es) : Calls Try.prog 52 #[.pointer rp] w fun e w' => e = .returned (.int .i64 es.length) ∧ w = w' := by
  rcases hg with ⟨rfl, rfl, rfl⟩ | ⟨rb, v, rfl, h1, h2, h3, hgd, c0, c1, hse⟩
  · go_enter Try.func52, Try.ntmps52
    go_wp2
    go_ret
    exact ⟨rfl, rfl⟩
  · obtain ⟨a, cap, rfl, _⟩ := hse
    clear hgd
    go_enter Try.func52, Try.ntmps52
    go_wp2
    go_ret
    exact ⟨rfl, rfl⟩
/-- The numbers below k that p takes. -/
def pick (p : Nat → Bool) (k : Nat) : List Int := ((List.range k).filter p).map fun (j : Nat) => (j : Int)
theorem pick_succ (p : Nat → Bool) (k : Nat) : pick p (k + 1) = pick p k ++ (if p k then [(k : Int)] else []) := by
  simp only [pick, List.range_succ, List.filter_append, List.map_append]
  congr 1
  by_cases h : p k <;> simp [h]
theorem pick_length (p : Nat → Bool) (k : Nat) : (pick p k).length ≤ k := by
  unfold pick
  rw [List.length_map]
  exact Nat.le_trans (List.length_filter_le _ _) (by simp)
theorem upto_pick (es : Edges) (q : Int × Int → Bool) : ∀ (k : Nat) (h : k ≤ es.length), ((upto es k h).filter fun x => q x.1.2).map (fun x => (x.1.1 : Int)) = pick (fun j => q (es.getD j (0, 0))) k
  | 0, _ => by simp [upto, pick]
  | k + 1, h => by
    have ih := upto_pick es q k (by omega)
    have hk : k < es.length := h
    have e1 : es.getD k (0, 0) = es[k] := by simp [List.getD, hk]
    rw [pick_succ, ← ih, e1]
    simp only [upto, List.filter_append, List.map_append]
    congr 1
    by_cases hq : q es[k] <;> simp [hq]
theorem places_pick (es : Edges) (v : Int) (inn : Bool) : places es v inn = pick (fun j => decide (endOf inn (es.getD j (0, 0)) = v)) es.length := by
  rw [← upto_pick es (fun x => decide (endOf inn x = v)) es.length (Nat.le_refl _)]
  rfl
theorem betw_pick (es : Edges) (p q : Int) : betw ((upto es es.length (Nat.le_refl _)).map (·.1)) p q = pick (fun j => decide ((es.getD j (0, 0)).1 = p ∧ (es.getD j (0, 0)).2 = q)) es.length := by
  rw [← upto_pick es (fun x => decide (x.1 = p ∧ x.2 = q)) es.length (Nat.le_refl _)]
  unfold betw
  rw [List.filter_map, List.map_map]
  rfl
set_option maxRecDepth 100000 in
set_option maxHeartbeats 2000000 in
theorem rout_walk (rp : Option Addr) (n v : Int) (es : Edges) (w : World) (hg : IsR w rp n es) :
    Calls Try.prog 41 #[.pointer rp, .int .i64 v] w fun e w' => ∃ u, e = .returned u ∧ Sees w' u (pick (fun j => decide ((es.getD j (0, 0)).1 = v)) es.length) ∧ Below w.heap.size w w' := by
  obtain ⟨m, hm⟩ : ∃ m, es.length = m := ⟨_, rfl⟩
  have h30 := hg.short
  have HG := hidI hg
  rw [hm] at h30 ⊢
  have HM := hidI hm
  clear hg hm
  go_enter Try.func41, Try.ntmps41
  go_wp2
  go_loopg [5, 6] m (fun g s5 s6 wx => ∃ (i : Nat), i + g = m ∧ s6 = .int .i64 i ∧ wx.ownsRow w.heap.size 3 1 s5 (pick (fun j => decide ((es.getD j (0, 0)).1 = v)) i).length ((pick (fun j => decide ((es.getD j (0, 0)).1 = v)) i).map (Value.int .i64)) ∧ Below w.heap.size w wx ∧ w.heap.size ≤ wx.heap.size)
  case atStart => exact ⟨0, by omega, rfl, World.ownsRow_nil _ _ _ _, Below.refl _ _, Nat.le_refl _⟩
  case round =>
    obtain ⟨i, hig, rfl, ho, hbl, hsz⟩ := hrel
    have hgx := HG.out.below hbl (Nat.le_refl _)
    have C := hidI (rm_any _ _ _ wr hgx)
    rw [HM.out] at C
    have HGX := hidI hgx
    have HO := hidI ho
    have HB := hidI hbl
    clear hgx ho hbl
    cases gk with
    | zero =>
      have hil : i = m := by omega
      subst hil
      go_wp2_with (go_at_call 52; refine Calls.mono C.out ?_; rintro e w1 ⟨rfl, rfl⟩)
      go_ret
      exact ⟨_, rfl, sees_of_owns (base := w.heap.size) (e := 3) HO.out, HB.out⟩
    | succ g =>
      have hlt : i < m := by omega
      rcases HGX.out with ⟨_, _, h0⟩ | ⟨rb, ev, rfl, _, _, _, hgd, c0, c1, hse⟩
      · have := HM.out; rw [h0] at this; simp at this; omega
      obtain ⟨ea, ecap, rfl, hse⟩ := hse
      rw [HM.out] at c1
      rcases hse with h0 | ⟨b, off, rfl, hl⟩
      · have := HM.out; rw [h0] at this; simp at this; omega
      have hil : i < es.length := by have := HM.out; omega
      obtain ⟨x, hx⟩ : ∃ x, es[i]? = some x := ⟨es[i], List.getElem?_eq_getElem _⟩
      obtain ⟨d1, d2⟩ := hl i x hx
      have hgt : es.getD i (0, 0) = x := by simp [List.getD, hx]
      have hps := pick_succ (fun j => decide ((es.getD j (0, 0)).1 = v)) i
      rw [hgt] at hps
      have hpl := pick_length (fun j => decide ((es.getD j (0, 0)).1 = v)) i
      obtain ⟨K, hK⟩ : ∃ K, pick (fun j => decide ((es.getD j (0, 0)).1 = v)) i = K := ⟨_, rfl⟩
      rw [hK] at hps hpl HO
      have HPS := hidI hps
      clear hps hK hgt hx hl hil hgd c0
      by_cases hv : x.1 = v
      · have o1 := hidI (HO.out.alloc (.cells #[.int .i64 (i : Int)] 3))
        have s1 := hidI (sees_one wr (i : Int) 3)
        have hb : w.heap.size ≤ (wr.alloc (.cells #[.int .i64 (i : Int)] 3)).heap.size := by simp; omega
        have HBB := hidI hb
        have hk1 : K.length + [(i : Int)].length ≤ 1000000 := by simp; omega
        have HK1 := hidI hk1
        clear hb hk1
        go_wp2_with (first | (go_at_call 52; refine Calls.mono C.out ?_; rintro e w1 ⟨rfl, rfl⟩) | (at_builtin; refine wpList_append_sees rfl _ _ rfl w.heap.size _ K.length _ rfl o1.out _ [(i : Int)] rfl s1.out HK1.out HBB.out ?_; intro v' w1 hown' hgrow' hat'))
        go_roundg g
        case measure => omega
        case rel =>
          refine ⟨i + 1, by omega, by go_num, ?_, ?_, ?_⟩
          · rw [HPS.out, decide_eq_true hv]; simpa using hown'
          · exact (HB.out.alloc HB.out.size _).grown hgrow' (by simp; omega) (fun k hk => (HO.out.lt k hk).1)
          · have := hgrow'.size; simp at this; omega
      · have hv' : decide (x.1 = v) = false := by simpa using hv
        go_wp2_with (go_at_call 52; refine Calls.mono C.out ?_; rintro e w1 ⟨rfl, rfl⟩)
        go_roundg g
        case measure => omega
        case rel =>
          refine ⟨i + 1, by omega, by go_num, ?_, HB.out, hsz⟩
          rw [HPS.out, hv']; simpa using HO.out
theorem rout_any (rp : Option Addr) (n v : Int) (es : Edges) (w : World) (hg : IsR w rp n es) :
    Calls Try.prog 41 #[.pointer rp, .int .i64 v] w fun e w' => ∃ u, e = .returned u ∧ Sees w' u (places es v false) ∧ Below w.heap.size w w' := by
  rw [places_pick]
  exact rout_walk rp n v es w hg
set_option maxRecDepth 100000 in
set_option maxHeartbeats 2000000 in
theorem rin_walk (rp : Option Addr) (n v : Int) (es : Edges) (w : World) (hg : IsR w rp n es) :
    Calls Try.prog 42 #[.pointer rp, .int .i64 v] w fun e w' => ∃ u, e = .returned u ∧ Sees w' u (pick (fun j => decide ((es.getD j (0, 0)).2 = v)) es.length) ∧ Below w.heap.size w w' := by
  obtain ⟨m, hm⟩ : ∃ m, es.length = m := ⟨_, rfl⟩
  have h30 := hg.short
  have HG := hidI hg
  rw [hm] at h30 ⊢
  have HM := hidI hm
  clear hg hm
  go_enter Try.func42, Try.ntmps42
  go_wp2
  go_loopg [5, 6] m (fun g s5 s6 wx => ∃ (i : Nat), i + g = m ∧ s6 = .int .i64 i ∧ wx.ownsRow w.heap.size 3 1 s5 (pick (fun j => decide ((es.getD j (0, 0)).2 = v)) i).length ((pick (fun j => decide ((es.getD j (0, 0)).2 = v)) i).map (Value.int .i64)) ∧ Below w.heap.size w wx ∧ w.heap.size ≤ wx.heap.size)
  case atStart => exact ⟨0, by omega, rfl, World.ownsRow_nil _ _ _ _, Below.refl _ _, Nat.le_refl _⟩
  case round =>
    obtain ⟨i, hig, rfl, ho, hbl, hsz⟩ := hrel
    have hgx := HG.out.below hbl (Nat.le_refl _)
    have C := hidI (rm_any _ _ _ wr hgx)
    rw [HM.out] at C
    have HGX := hidI hgx
    have HO := hidI ho
    have HB := hidI hbl
    clear hgx ho hbl
    cases gk with
    | zero =>
      have hil : i = m := by omega
      subst hil
      go_wp2_with (go_at_call 52; refine Calls.mono C.out ?_; rintro e w1 ⟨rfl, rfl⟩)
      go_ret
      exact ⟨_, rfl, sees_of_owns (base := w.heap.size) (e := 3) HO.out, HB.out⟩
    | succ g =>
      have hlt : i < m := by omega
      rcases HGX.out with ⟨_, _, h0⟩ | ⟨rb, ev, rfl, _, _, _, hgd, c0, c1, hse⟩
      · have := HM.out; rw [h0] at this; simp at this; omega
      obtain ⟨ea, ecap, rfl, hse⟩ := hse
      rw [HM.out] at c1
      rcases hse with h0 | ⟨b, off, rfl, hl⟩
      · have := HM.out; rw [h0] at this; simp at this; omega
      have hil : i < es.length := by have := HM.out; omega
      obtain ⟨x, hx⟩ : ∃ x, es[i]? = some x := ⟨es[i], List.getElem?_eq_getElem _⟩
      obtain ⟨d1, d2⟩ := hl i x hx
      have hgt : es.getD i (0, 0) = x := by simp [List.getD, hx]
      have hps := pick_succ (fun j => decide ((es.getD j (0, 0)).2 = v)) i
      rw [hgt] at hps
      have hpl := pick_length (fun j => decide ((es.getD j (0, 0)).2 = v)) i
      obtain ⟨K, hK⟩ : ∃ K, pick (fun j => decide ((es.getD j (0, 0)).2 = v)) i = K := ⟨_, rfl⟩
      rw [hK] at hps hpl HO
      have HPS := hidI hps
      clear hps hK hgt hx hl hil hgd c0
      by_cases hv : x.2 = v
      · have o1 := hidI (HO.out.alloc (.cells #[.int .i64 (i : Int)] 3))
        have s1 := hidI (sees_one wr (i : Int) 3)
        have hb : w.heap.size ≤ (wr.alloc (.cells #[.int .i64 (i : Int)] 3)).heap.size := by simp; omega
        have HBB := hidI hb
        have hk1 : K.length + [(i : Int)].length ≤ 1000000 := by simp; omega
        have HK1 := hidI hk1
        clear hb hk1
        go_wp2_with (first | (go_at_call 52; refine Calls.mono C.out ?_; rintro e w1 ⟨rfl, rfl⟩) | (at_builtin; refine wpList_append_sees rfl _ _ rfl w.heap.size _ K.length _ rfl o1.out _ [(i : Int)] rfl s1.out HK1.out HBB.out ?_; intro v' w1 hown' hgrow' hat'))
        go_roundg g
        case measure => omega
        case rel =>
          refine ⟨i + 1, by omega, by go_num, ?_, ?_, ?_⟩
          · rw [HPS.out, decide_eq_true hv]; simpa using hown'
          · exact (HB.out.alloc HB.out.size _).grown hgrow' (by simp; omega) (fun k hk => (HO.out.lt k hk).1)
          · have := hgrow'.size; simp at this; omega
      · have hv' : decide (x.2 = v) = false := by simpa using hv
        go_wp2_with (go_at_call 52; refine Calls.mono C.out ?_; rintro e w1 ⟨rfl, rfl⟩)
        go_roundg g
        case measure => omega
        case rel =>
          refine ⟨i + 1, by omega, by go_num, ?_, HB.out, hsz⟩
          rw [HPS.out, hv']; simpa using HO.out
theorem rin_any (rp : Option Addr) (n v : Int) (es : Edges) (w : World) (hg : IsR w rp n es) :
    Calls Try.prog 42 #[.pointer rp, .int .i64 v] w fun e w' => ∃ u, e = .returned u ∧ Sees w' u (places es v true) ∧ Below w.heap.size w w' := by
  rw [places_pick]
  exact rin_walk rp n v es w hg
/-- How many edges come, or leave. -/
theorem rdegree_any (rp : Option Addr) (n v : Int) (inn : Bool) (es : Edges) (w : World) (hg : IsR w rp n es) :
    Calls Try.prog 44 #[.pointer rp, .int .i64 v, .bool inn] w fun e w' => e = .returned (.int .i64 (places es v inn).length) ∧ Below w.heap.size w w' := by
  cases inn with
  | true =>
    have C := hidI (rin_any rp n v es w hg)
    clear hg
    go_enter Try.func44, Try.ntmps44
    go_wp2_with (go_at_call 42; refine Calls.mono C.out ?_; rintro e w1 ⟨u, rfl, hs, hb⟩; refine Hid.out ?_)
    refine hidI ?_
    have hb' := hidI hb
    obtain ⟨a, cap, rfl, _⟩ := hs
    clear hb
    go_wp2
    go_ret
    exact ⟨rfl, hb'.out⟩
  | false =>
    have C := hidI (rout_any rp n v es w hg)
    clear hg
    go_enter Try.func44, Try.ntmps44
    go_wp2_with (go_at_call 41; refine Calls.mono C.out ?_; rintro e w1 ⟨u, rfl, hs, hb⟩; refine Hid.out ?_)
    refine hidI ?_
    have hb' := hidI hb
    obtain ⟨a, cap, rfl, _⟩ := hs
    clear hb
    go_wp2
    go_ret
    exact ⟨rfl, hb'.out⟩
set_option maxRecDepth 100000 in
set_option maxHeartbeats 2000000 in
theorem rbetween_any (rp : Option Addr) (n p q : Int) (es : Edges) (w : World) (hg : IsR w rp n es) :
    Calls Try.prog 47 #[.pointer rp, .int .i64 p, .int .i64 q] w fun e w' => ∃ u, e = .returned u ∧ Sees w' u (pick (fun j => decide ((es.getD j (0, 0)).1 = p ∧ (es.getD j (0, 0)).2 = q)) es.length) ∧ Below w.heap.size w w' := by
  obtain ⟨m, hm⟩ : ∃ m, es.length = m := ⟨_, rfl⟩
  have h30 := hg.short
  have HG := hidI hg
  rw [hm] at h30 ⊢
  have HM := hidI hm
  clear hg hm
  go_enter Try.func47, Try.ntmps47
  go_wp2
  go_loopg [7, 8] m (fun g s7 s8 wx => ∃ (i : Nat), i + g = m ∧ s8 = .int .i64 i ∧ wx.ownsRow w.heap.size 3 1 s7 (pick (fun j => decide ((es.getD j (0, 0)).1 = p ∧ (es.getD j (0, 0)).2 = q)) i).length ((pick (fun j => decide ((es.getD j (0, 0)).1 = p ∧ (es.getD j (0, 0)).2 = q)) i).map (Value.int .i64)) ∧ Below w.heap.size w wx ∧ w.heap.size ≤ wx.heap.size)
  case atStart => exact ⟨0, by omega, rfl, World.ownsRow_nil _ _ _ _, Below.refl _ _, Nat.le_refl _⟩
  case round =>
    obtain ⟨i, hig, rfl, ho, hbl, hsz⟩ := hrel
    have hgx := HG.out.below hbl (Nat.le_refl _)
    have C := hidI (rm_any _ _ _ wr hgx)
    rw [HM.out] at C
    have HGX := hidI hgx
    have HO := hidI ho
    have HB := hidI hbl
    clear hgx ho hbl
    cases gk with
    | zero =>
      have hil : i = m := by omega
      subst hil
      go_wp2_with (go_at_call 52; refine Calls.mono C.out ?_; rintro e w1 ⟨rfl, rfl⟩)
      go_ret
      exact ⟨_, rfl, sees_of_owns (base := w.heap.size) (e := 3) HO.out, HB.out⟩
    | succ g =>
      have hlt : i < m := by omega
      rcases HGX.out with ⟨_, _, h0⟩ | ⟨rb, ev, rfl, _, _, _, hgd, c0, c1, hse⟩
      · have := HM.out; rw [h0] at this; simp at this; omega
      obtain ⟨ea, ecap, rfl, hse⟩ := hse
      rw [HM.out] at c1
      rcases hse with h0 | ⟨b, off, rfl, hl⟩
      · have := HM.out; rw [h0] at this; simp at this; omega
      have hil : i < es.length := by have := HM.out; omega
      obtain ⟨x, hx⟩ : ∃ x, es[i]? = some x := ⟨es[i], List.getElem?_eq_getElem _⟩
      obtain ⟨d1, d2⟩ := hl i x hx
      have hgt : es.getD i (0, 0) = x := by simp [List.getD, hx]
      have hps := pick_succ (fun j => decide ((es.getD j (0, 0)).1 = p ∧ (es.getD j (0, 0)).2 = q)) i
      rw [hgt] at hps
      have hpl := pick_length (fun j => decide ((es.getD j (0, 0)).1 = p ∧ (es.getD j (0, 0)).2 = q)) i
      obtain ⟨K, hK⟩ : ∃ K, pick (fun j => decide ((es.getD j (0, 0)).1 = p ∧ (es.getD j (0, 0)).2 = q)) i = K := ⟨_, rfl⟩
      rw [hK] at hps hpl HO
      have HPS := hidI hps
      clear hps hK hgt hx hl hil hgd c0
      by_cases hv : x.1 = p
      · by_cases hv2 : x.2 = q
        · have o1 := hidI (HO.out.alloc (.cells #[.int .i64 (i : Int)] 3))
          have s1 := hidI (sees_one wr (i : Int) 3)
          have hb : w.heap.size ≤ (wr.alloc (.cells #[.int .i64 (i : Int)] 3)).heap.size := by simp; omega
          have HBB := hidI hb
          have hk1 : K.length + [(i : Int)].length ≤ 1000000 := by simp; omega
          have HK1 := hidI hk1
          clear hb hk1
          go_wp2_with (first | (go_at_call 52; refine Calls.mono C.out ?_; rintro e w1 ⟨rfl, rfl⟩) | (at_builtin; refine wpList_append_sees rfl _ _ rfl w.heap.size _ K.length _ rfl o1.out _ [(i : Int)] rfl s1.out HK1.out HBB.out ?_; intro v' w1 hown' hgrow' hat'))
          go_roundg g
          case measure => omega
          case rel =>
            refine ⟨i + 1, by omega, by go_num, ?_, ?_, ?_⟩
            · rw [HPS.out, decide_eq_true ⟨hv, hv2⟩]; simpa using hown'
            · exact (HB.out.alloc HB.out.size _).grown hgrow' (by simp; omega) (fun k hk => (HO.out.lt k hk).1)
            · have := hgrow'.size; simp at this; omega
        · have hv' : decide (x.2 = q) = false := by simpa using hv2
          go_wp2_with (go_at_call 52; refine Calls.mono C.out ?_; rintro e w1 ⟨rfl, rfl⟩)
          go_roundg g
          case measure => omega
          case rel =>
            refine ⟨i + 1, by omega, by go_num, ?_, HB.out, hsz⟩
            rw [HPS.out, decide_eq_false (fun h => hv2 h.2)]; simpa using HO.out
      · have hv' : decide (x.1 = p) = false := by simpa using hv
        go_wp2_with (go_at_call 52; refine Calls.mono C.out ?_; rintro e w1 ⟨rfl, rfl⟩)
        go_roundg g
        case measure => omega
        case rel =>
          refine ⟨i + 1, by omega, by go_num, ?_, HB.out, hsz⟩
          rw [HPS.out, decide_eq_false (fun h => hv h.1)]; simpa using HO.out
end Go.Proofs.Ytbjoljokdjgbnaa
