/-
  The document's Levels.
-/
import Derived.Test.YtbjoljokdjgbnaaRGraph
namespace Go.Proofs.Ytbjoljokdjgbnaa
open Go.RowKit Go.Deep
/-- How levels begin. -/
def begun (root : Int) (k : Nat) : List Int := (List.range k).map fun (v : Nat) => if (v : Int) = root then 0 else -1
theorem begun_succ (root : Int) (k : Nat) : begun root (k + 1) = begun root k ++ [if (k : Int) = root then 0 else -1] := by simp [begun, List.range_succ]
theorem begun_length (root : Int) (k : Nat) : (begun root k).length = k := by simp [begun]
theorem lstep_len (es : Edges) (k : Int) (ls : List Int) : (es.foldl (lstep k) ls).length = ls.length := lround_length k es ls
/-- The levels, as the document reckons them, are those of the program. -/
theorem begun_in {N : Nat} {root : Int} (h : 0 ≤ root ∧ root < (N : Int)) : begun root N = (List.replicate N (-1)).set root.toNat 0 := by
  apply List.ext_getElem
  · simp [begun]
  · intro j h1 h2
    simp only [begun, List.getElem_map, List.getElem_range, List.getElem_set, List.getElem_replicate]
    by_cases hj : (j : Int) = root
    · rw [if_pos hj, if_pos (by omega)]
    · rw [if_neg hj, if_neg (by omega)]
theorem begun_out {N : Nat} {root : Int} (h : ¬ (0 ≤ root ∧ root < (N : Int))) : begun root N = List.replicate N (-1) := by
  apply List.ext_getElem
  · simp [begun]
  · intro j h1 h2
    have : j < N := by simpa [begun] using h1
    simp only [begun, List.getElem_map, List.getElem_range, List.getElem_replicate]
    rw [if_neg (by omega)]
theorem lstep_none {N : Nat} {k : Nat} {x : Int × Int} (h : 0 ≤ x.1 ∧ x.1 < (N : Int)) : lstep (k : Int) (List.replicate N (-1)) x = List.replicate N (-1) := by
  unfold lstep
  rw [if_neg]
  rintro ⟨h1, _⟩
  have : (List.replicate N (-1 : Int)).getD x.1.toNat 0 = -1 := by simp [List.getD, show x.1.toNat < N by omega]
  omega
theorem lround_none {N : Nat} (k : Nat) : ∀ (es : Edges), (∀ x ∈ es, good N x = true) → lround es (List.replicate N (-1)) k = List.replicate N (-1)
  | [], _ => rfl
  | x :: r, h => by
    have hx := h x (by simp)
    simp only [good, Bool.and_eq_true, decide_eq_true_eq] at hx
    have ih := lround_none k r (fun y hy => h y (by simp [hy]))
    unfold lround at ih ⊢
    rw [List.foldl_cons, lstep_none hx.1, ih]
theorem fold_none {N : Nat} {es : Edges} (h : ∀ x ∈ es, good N x = true) : ∀ (l : List Nat), l.foldl (lround es) (List.replicate N (-1)) = List.replicate N (-1)
  | [] => rfl
  | k :: r => by rw [List.foldl_cons, lround_none k es h, fold_none h r]
/-- The document's levels. -/
def rlev (N : Nat) (es : Edges) (root : Int) (k : Nat) : List Int := (List.range k).foldl (lround es) (begun root N)
theorem rlev_succ (N : Nat) (es : Edges) (root : Int) (k : Nat) : rlev N es root (k + 1) = es.foldl (lstep (k : Int)) (rlev N es root k) := by
  simp [rlev, List.range_succ, lround]
theorem rlev_length (N : Nat) (es : Edges) (root : Int) (k : Nat) : (rlev N es root k).length = N := by
  unfold rlev; rw [fold_length, begun_length]
theorem rlev_levels {N : Nat} {es : Edges} (root : Int) (h : ∀ x ∈ es, good N x = true) : rlev N es root N = levels N es root := by
  unfold rlev levels
  by_cases hr : 0 ≤ root ∧ root < (N : Int)
  · rw [if_pos hr, begun_in hr]
  · rw [if_neg hr, begun_out hr, fold_none h]
/-- A row of numbers, maybe with room behind. -/
def Has (W : World) (g : Nat) (ls : List Int) : Prop := ∃ cur, W.heap[g]? = some (.cells cur 3 (0, 0)) ∧ cur.toList.take ls.length = ls.map (Value.int .i64)
theorem Has.lt {W : World} {g : Nat} {ls : List Int} (h : Has W g ls) : g < W.heap.size := by
  obtain ⟨cur, h, _⟩ := h
  exact (Array.getElem?_eq_some_iff.1 h).1
theorem Has.get {cur : Array Value} {ls : List Int} (h : cur.toList.take ls.length = ls.map (Value.int .i64)) {j : Nat} (hj : j < ls.length) : cur[j]? = some (.int .i64 (ls.getD j 0)) := by
  have : (cur.toList.take ls.length)[j]? = (ls.map (Value.int .i64))[j]? := by rw [h]
  rw [List.getElem?_take, if_pos hj] at this
  simp only [Array.getElem?_toList] at this
  rw [this]
  simp [List.getD, hj]
theorem Has.cell {W : World} {g : Nat} {ls : List Int} (h : Has W g ls) {j : Nat} (hj : j < ls.length) : W.cell? ⟨g, j, none⟩ = some (.int .i64 (ls.getD j 0)) := by
  obtain ⟨cur, h1, h2⟩ := h
  rw [cell_of_row W g j cur 3 (0, 0) h1]
  exact Has.get h2 hj
theorem Has.frozen {W : World} {g : Nat} {ls : List Int} (h : Has W g ls) (j : Nat) : W.frozen? ⟨g, j, none⟩ = false := by
  obtain ⟨cur, h1, _⟩ := h
  unfold World.frozen?; rw [h1]; simp
theorem Has.kept {W W' : World} {row : Option Nat} {g : Nat} {ls : List Int} (h : Has W g ls) (hg : W.grownBy W' row) (hne : some g ≠ row) : Has W' g ls := by
  have hl := h.lt
  obtain ⟨cur, h1, h2⟩ := h
  exact ⟨cur, (hg.block g hl hne).trans h1, h2⟩
theorem Has.sees {W : World} {g cap : Nat} {ls : List Int} (h : Has W g ls) : Sees W (.slice (some ⟨g, 0, none⟩) ls.length cap) ls :=
  ⟨_, cap, rfl, .inr ⟨g, 0, rfl, fun j hj => by rw [Nat.zero_add]; exact h.cell hj⟩⟩
theorem Has.set {W : World} {g : Nat} {ls : List Int} (h : Has W g ls) (j : Nat) (z : Int) : Has (W.setCell ⟨g, j, none⟩ (.int .i64 z)) g (ls.set j z) := by
  obtain ⟨cur, h1, h2⟩ := h
  refine ⟨cur.setIfInBounds j (.int .i64 z), ?_, ?_⟩
  · obtain ⟨hlt, hk⟩ := Array.getElem?_eq_some_iff.1 h1
    show (W.heap.modify g _)[g]? = _
    rw [Array.getElem?_eq_getElem (by rw [Array.size_modify]; exact hlt), Array.getElem_modify_self, hk]
    simp
  · rw [List.length_set, Array.toList_setIfInBounds, List.take_set, h2, List.map_set]
theorem gtrans {W W1 W2 : World} {row : Option Nat} (h : W.grownBy W1 row) (k : W1.grownBy W2 row) : W.grownBy W2 row :=
  ⟨k.1.trans h.1, k.2.trans h.2, k.3.trans h.3, Nat.le_trans h.4 k.4, fun i hi hne => (k.block i (Nat.lt_of_lt_of_le hi h.size) hne).trans (h.block i hi hne)⟩
theorem lstep_nat (k : Int) (L : List Int) (p q : Nat) : lstep k L ((p : Int), (q : Int)) = if L.getD p 0 = k ∧ L.getD q 0 < 0 then L.set q (k + 1) else L := by
  unfold lstep; simp only [Int.toNat_natCast]
theorem own_has {W : World} {base n : Nat} {v : Value} {ls : List Int} (h : W.ownsRow base 3 1 v n (ls.map (Value.int .i64))) (hl : ls.length = n) (h0 : 0 < n) : ∃ g c, v = .slice (some ⟨g, 0, none⟩) n c ∧ base ≤ g ∧ Has W g ls := by
  rcases h.2 with ⟨_, h1⟩ | ⟨g, cap, cur, rfl, hb, hc, _, _, _, ht⟩
  · omega
  · exact ⟨g, cap, rfl, hb, cur, hc, by rw [hl]; simpa using ht⟩
theorem rlevels_nil (root : Int) (w : World) : Calls Try.prog 45 #[.pointer none, .int .i64 root] w fun e w' => e = .returned (.slice none 0 0) ∧ Below w.heap.size w w' := by
  have C := hidI (rn_any none 0 [] w (.inl ⟨rfl, rfl, rfl⟩))
  go_enter Try.func45, Try.ntmps45
  go_wp2
  refine wp_loop_rounds 1 ?_
  rw [rounds_succ]
  go_wp2_with (go_at_call 51; refine Calls.mono C.out ?_; rintro e w1 ⟨rfl, rfl⟩)
  refine wp_loop_rounds 1 ?_
  rw [rounds_succ]
  go_wp2_with (go_at_call 51; refine Calls.mono C.out ?_; rintro e w1 ⟨rfl, rfl⟩)
  go_ret
  exact ⟨rfl, Below.refl _ _⟩
set_option maxRecDepth 100000 in
set_option maxHeartbeats 4000000 in
theorem rlevels_walk (rb N : Nat) (root : Int) (es : Edges) (w : World) (hg : IsR w (some ⟨rb, 0, none⟩) (N : Int) es) :
    Calls Try.prog 45 #[.pointer (some ⟨rb, 0, none⟩), .int .i64 root] w fun e w' => ∃ u, e = .returned u ∧ Sees w' u (rlev N es root N) ∧ Below w.heap.size w w' := by
  obtain ⟨m, hm⟩ : ∃ m, es.length = m := ⟨_, rfl⟩
  have h30 := hg.short
  have HG := hidI hg
  have hN : 1 ≤ N ∧ N ≤ 12 ∧ ∀ x ∈ es, good N x = true := by
    rcases hg with ⟨h, _⟩ | ⟨_, _, _, h1, h2, _, h3, _⟩
    · cases h
    · exact ⟨by omega, by omega, h3⟩
  obtain ⟨hN1, hN2, hgd⟩ := hN
  have HGD := hidI hgd
  rw [hm] at h30
  have HM := hidI hm
  clear hg hm hgd
  go_enter Try.func45, Try.ntmps45
  go_wp2
  go_loopg [5, 6] N (fun g s5 s6 wx => ∃ (i : Nat), i + g = N ∧ s6 = .int .i64 i ∧ wx.ownsRow w.heap.size 3 1 s5 i ((begun root i).map (Value.int .i64)) ∧ Below w.heap.size w wx ∧ w.heap.size ≤ wx.heap.size)
  case atStart => exact ⟨0, by omega, rfl, World.ownsRow_nil _ _ _ _, Below.refl _ _, Nat.le_refl _⟩
  case round =>
    obtain ⟨i, hig, rfl, ho, hbl, hsz⟩ := hrel
    have hgx := HG.out.below hbl (Nat.le_refl _)
    have C := hidI (rn_any _ _ _ wr hgx)
    have HGX := hidI hgx
    have HO := hidI ho
    have HB := hidI hbl
    clear hgx ho hbl
    cases gk with
    | zero =>
      have hil : i = N := by omega
      subst hil
      obtain ⟨g, c, rfl, hgb, hhas⟩ := own_has HO.out (begun_length _ _) (by omega)
      have hgl := hhas.lt
      have HH := hidI hhas
      clear HO hhas
      go_wp2_with (go_at_call 51; refine Calls.mono C.out ?_; rintro e w1 ⟨rfl, rfl⟩; refine Hid.out ?_)
      refine hidI ?_
      clear C
      go_wp2
      go_loopg [8] i (fun gh s8 wx => ∃ (k : Nat), k + gh = i ∧ s8 = .int .i64 k ∧ Has wx g (rlev i es root k) ∧ wr.grownBy wx (some g))
      case atStart => exact ⟨0, by omega, rfl, HH.out, World.grownBy.refl _ _⟩
      case round =>
        obtain ⟨k, hkg, rfl, hh, hgr⟩ := hrel
        have hbx : Below w.heap.size w wr := HB.out.grown hgr (by have := hgr.size; omega) (fun q hq => by cases hq; exact hgb)
        have hgx := HG.out.below hbx (Nat.le_refl _)
        have C := hidI (rn_any _ _ _ wr hgx)
        have HK := hidI hh
        have HGR := hidI hgr
        have HBX := hidI hbx
        clear hh hgr hbx hgx HH
        cases gk with
        | zero =>
          have hki : k = i := by omega
          subst hki
          go_wp2_with (go_at_call 51; refine Calls.mono C.out ?_; rintro e w1 ⟨rfl, rfl⟩)
          go_ret
          refine ⟨_, rfl, ?_, HBX.out⟩
          have := HK.out.sees (cap := c)
          rw [rlev_length] at this
          exact this
        | succ gh =>
          have hki : k < i := by omega
          go_wp2_with (go_at_call 51; refine Calls.mono C.out ?_; rintro e w1 ⟨rfl, rfl⟩; refine Hid.out ?_)
          refine hidI ?_
          clear C
          go_wp2
          go_loopg [9] m (fun gj s9 wy => ∃ (j : Nat), j + gj = m ∧ s9 = .int .i64 j ∧ Has wy g ((es.take j).foldl (lstep (k : Int)) (rlev i es root k)) ∧ wr.grownBy wy (some g))
          case atStart => exact ⟨0, by omega, rfl, HK.out, World.grownBy.refl _ _⟩
          case round =>
            obtain ⟨j, hjg, rfl, hh3, hgr3⟩ := hrel
            have hbx : Below w.heap.size w wr := HBX.out.grown hgr3 (by have := hgr3.size; have := HBX.out.size; omega) (fun q hq => by cases hq; exact hgb)
            have hgx := HG.out.below hbx (Nat.le_refl _)
            have C := hidI (rm_any _ _ _ wr hgx)
            rw [HM.out] at C
            have HK3 := hidI hh3
            have HGR3 := hidI hgr3
            clear hh3 hgr3 hbx
            cases gk with
            | zero =>
              have hjm : j = m := by omega
              subst hjm
              clear hgx
              go_wp2_with (go_at_call 52; refine Calls.mono C.out ?_; rintro e w1 ⟨rfl, rfl⟩)
              go_roundg gh
              case measure => omega
              case rel =>
                refine ⟨k + 1, by omega, by go_num, ?_, gtrans HGR.out HGR3.out⟩
                have := HK3.out
                rw [List.take_of_length_le (by rw [HM.out]; exact Nat.le_refl _)] at this
                rw [rlev_succ]
                exact this
            | succ gj =>
              have hlt : j < m := by omega
              rcases hgx with ⟨h0, _⟩ | ⟨rb', ev, he, _, _, _, _, c0, c1, hse⟩
              · cases h0
              cases he
              obtain ⟨ea, ecap, rfl, hse⟩ := hse
              rw [HM.out] at c1
              rcases hse with h0 | ⟨b, off, rfl, hl⟩
              · have := HM.out; rw [h0] at this; simp at this; omega
              obtain ⟨x, hx⟩ : ∃ x, es[j]? = some x := ⟨es[j]'(by have := HM.out; omega), List.getElem?_eq_getElem _⟩
              obtain ⟨d1, d2⟩ := hl j x hx
              have hgx := HGD.out x (List.mem_of_getElem? hx)
              simp only [good, Bool.and_eq_true, decide_eq_true_eq] at hgx
              have htk : (es.take (j + 1)).foldl (lstep (k : Int)) (rlev i es root k) = lstep (k : Int) ((es.take j).foldl (lstep (k : Int)) (rlev i es root k)) x := by
                rw [List.take_add_one, hx]; simp
              have hlen : ((es.take j).foldl (lstep (k : Int)) (rlev i es root k)).length = i := by rw [lstep_len, rlev_length]
              obtain ⟨L, hL⟩ : ∃ L, (es.take j).foldl (lstep (k : Int)) (rlev i es root k) = L := ⟨_, rfl⟩
              rw [hL] at htk hlen HK3
              obtain ⟨x1, x2⟩ := x
              obtain ⟨p, hp⟩ : ∃ p : Nat, x1 = p := ⟨x1.toNat, by have := hgx.1.1; dsimp only at this; omega⟩
              obtain ⟨q, hq⟩ : ∃ q : Nat, x2 = q := ⟨x2.toNat, by have := hgx.2.1; dsimp only at this; omega⟩
              subst hp hq
              dsimp only at d1 d2 hgx
              have hpi : p < i := by omega
              have hqi : q < i := by omega
              have cp := HK3.out.cell (j := p) (by rw [hlen]; exact hpi)
              have cq := HK3.out.cell (j := q) (by rw [hlen]; exact hqi)
              have fq := HK3.out.frozen q
              rw [lstep_nat] at htk
              obtain ⟨av, hav⟩ : ∃ av, L.getD p 0 = av := ⟨_, rfl⟩
              obtain ⟨bv, hbv⟩ : ∃ bv, L.getD q 0 = bv := ⟨_, rfl⟩
              rw [hav] at cp
              rw [hbv] at cq
              rw [hav, hbv] at htk
              have HTK := hidI htk
              clear htk hL hlen hgx hx hl c0 hav hbv
              by_cases ha : av = (k : Int)
              · by_cases hb : bv < 0
                · subst ha
                  go_wp2_with (go_at_call 52; refine Calls.mono C.out ?_; rintro e w1 ⟨rfl, rfl⟩)
                  go_roundg gj
                  case measure => omega
                  case rel =>
                    refine ⟨j + 1, by omega, by go_num, ?_, gtrans HGR3.out (grownBy_set _ _ _ _)⟩
                    rw [HTK.out, if_pos (by simp; omega)]
                    exact HK3.out.set q _
                · have hb' : decide (bv < 0) = false := by simpa using hb
                  have HHA := hidI ha
                  subst ha
                  go_wp2_with (go_at_call 52; refine Calls.mono C.out ?_; rintro e w1 ⟨rfl, rfl⟩)
                  go_roundg gj
                  case measure => omega
                  case rel =>
                    refine ⟨j + 1, by omega, by go_num, ?_, HGR3.out⟩
                    rw [HTK.out, if_neg (by simp; omega)]
                    exact HK3.out
              · have ha' : decide (av = (k : Int)) = false := by simpa using ha
                go_wp2_with (go_at_call 52; refine Calls.mono C.out ?_; rintro e w1 ⟨rfl, rfl⟩)
                go_roundg gj
                case measure => omega
                case rel =>
                  refine ⟨j + 1, by omega, by go_num, ?_, HGR3.out⟩
                  rw [HTK.out, if_neg (fun h => ha h.1)]
                  exact HK3.out
    | succ gh =>
      have hb1 := begun_succ root i
      by_cases hv : (i : Int) = root
      · have o1 := hidI (HO.out.alloc (.cells #[.int .i64 (0)] 3))
        have s1 := hidI (sees_one wr (0) 3)
        have hb : w.heap.size ≤ (wr.alloc (.cells #[.int .i64 (0)] 3)).heap.size := by simp; omega
        have HBB := hidI hb
        have hk1 : i + [(0 : Int)].length ≤ 1000000 := by simp; omega
        have HK1 := hidI hk1
        have HB1 := hidI hb1
        clear hb hk1 hb1
        go_wp2_with (first | (go_at_call 51; refine Calls.mono C.out ?_; rintro e w1 ⟨rfl, rfl⟩) | (at_builtin; refine wpList_append_sees rfl _ _ rfl w.heap.size _ i _ rfl o1.out _ [(0 : Int)] rfl s1.out HK1.out HBB.out ?_; intro v' w1 hown' hgrow' hat'))
        go_roundg gh
        case measure => omega
        case rel =>
          refine ⟨i + 1, by omega, by go_num, ?_, ?_, ?_⟩
          · rw [HB1.out, if_pos hv]; simpa using hown'
          · exact (HB.out.alloc HB.out.size _).grown hgrow' (by simp; omega) (fun k hk => (HO.out.lt k hk).1)
          · have := hgrow'.size; simp at this; omega
      · have hv' : decide ((i : Int) = root) = false := by simpa using hv
        have o1 := hidI (HO.out.alloc (.cells #[.int .i64 (-1)] 3))
        have s1 := hidI (sees_one wr (-1) 3)
        have hb : w.heap.size ≤ (wr.alloc (.cells #[.int .i64 (-1)] 3)).heap.size := by simp; omega
        have HBB := hidI hb
        have hk1 : i + [(-1 : Int)].length ≤ 1000000 := by simp; omega
        have HK1 := hidI hk1
        have HB1 := hidI hb1
        clear hb hk1 hb1
        go_wp2_with (first | (go_at_call 51; refine Calls.mono C.out ?_; rintro e w1 ⟨rfl, rfl⟩) | (at_builtin; refine wpList_append_sees rfl _ _ rfl w.heap.size _ i _ rfl o1.out _ [(-1 : Int)] rfl s1.out HK1.out HBB.out ?_; intro v' w1 hown' hgrow' hat'))
        go_roundg gh
        case measure => omega
        case rel =>
          refine ⟨i + 1, by omega, by go_num, ?_, ?_, ?_⟩
          · rw [HB1.out, if_neg hv]; simpa using hown'
          · exact (HB.out.alloc HB.out.size _).grown hgrow' (by simp; omega) (fun k hk => (HO.out.lt k hk).1)
          · have := hgrow'.size; simp at this; omega
theorem rlevels_any (rp : Option Addr) (N : Nat) (root : Int) (es : Edges) (w : World) (hg : IsR w rp (N : Int) es) :
    Calls Try.prog 45 #[.pointer rp, .int .i64 root] w fun e w' => ∃ u, e = .returned u ∧ Sees w' u (levels N es root) ∧ Below w.heap.size w w' := by
  rcases id hg with ⟨rfl, h0, rfl⟩ | ⟨rb, v, rfl, _, _, _, hgd, _⟩
  · obtain rfl : N = 0 := by omega
    refine (rlevels_nil root w).mono ?_
    rintro e w' ⟨rfl, hb⟩
    refine ⟨_, rfl, ⟨none, 0, ?_, .inl ?_⟩, hb⟩
    · unfold levels; split <;> simp
    · unfold levels; split <;> simp
  · rw [← rlev_levels root hgd]
    exact rlevels_walk rb N root es w hg
end Go.Proofs.Ytbjoljokdjgbnaa
