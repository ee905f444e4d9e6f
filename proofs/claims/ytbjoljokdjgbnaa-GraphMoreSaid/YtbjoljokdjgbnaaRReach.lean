/-
  The document's Reaches.
-/
import Derived.Test.YtbjoljokdjgbnaaMat
import Derived.Test.YtbjoljokdjgbnaaRLevels
namespace Go.Proofs.Ytbjoljokdjgbnaa
open Go.RowKit Go.Deep
theorem Try.info69 : (Try.prog.info? 69).map (fun i => (i.zero, i.size, i.bytes)) = some (some (.slice none 0 0), 1, 24) := by kernel_rfl
theorem Try.info4 : (Try.prog.info? 4).map (fun i => (i.zero, i.size, i.bytes)) = some (some (.bool false), 1, 1) := by kernel_rfl
theorem make69 (c : Nat) (hc : c ≤ 1000) (W : World) : (Instr.makeSlice 69 (.int .i64 (c : Int)) (.int .i64 (c : Int))).run Try.prog W = .ok (.slice (some ⟨W.heap.size, 0, none⟩) c c) (W.alloc (.cells (madeCells #[.bool false] c) 4)) := by
  obtain ⟨i0, hi, hz0, hz1, hz2⟩ := info_parts Try.info4
  have := run_make (P := Try.prog) W 69 4 i0 (.bool false) Try.underlying69 hi hz0 .i64 .i64 (c : Int) (c : Int) (by omega) (by omega) (by rw [hz2]; omega) (by omega)
  rw [hz1] at this
  simp only [Int.toNat_natCast, Nat.mul_one] at this
  exact this
/-- The slices of the rows. -/
def rowsAt (N : Nat) (gs : Nat → Nat) (k : Nat) : List Value := (List.range k).map fun i => .slice (some ⟨gs i, 0, none⟩) N N
theorem rowsAt_succ (N : Nat) (gs : Nat → Nat) (k r : Nat) : rowsAt N (fun i => if i = k then r else gs i) (k + 1) = rowsAt N gs k ++ [.slice (some ⟨r, 0, none⟩) N N] := by
  simp only [rowsAt, List.range_succ, List.map_append, List.map_cons, List.map_nil, if_true]
  congr 1
  apply List.map_congr_left
  intro i hi
  have : i < k := by simpa using hi
  rw [if_neg (by omega)]
theorem one_new (W : World) (x : Value) (t : TypeId) : ∀ (j : Nat) (u : Value), [x][j]? = some u → (W.alloc (.cells #[x] t)).cell? ((⟨W.heap.size, 0, none⟩ : Addr).add j) = some u := by
  intro j u h
  have hn := World.alloc_heap_new W (.cells #[x] t)
  rw [add_at]
  match j, h with
  | 0, h => cases h; unfold World.cell?; rw [hn]; rfl
  | j + 1, h => simp at h
theorem rreaches_nil (w : World) : Calls Try.prog 21 #[.pointer none] w fun e w' => e = .returned (.slice none 0 0) ∧ Below w.heap.size w w' := by
  have C := hidI (rn_any none 0 [] w (.inl ⟨rfl, rfl, rfl⟩))
  have D := hidI (rm_any none 0 [] w (.inl ⟨rfl, rfl, rfl⟩))
  go_enter Try.func21, Try.ntmps21
  go_wp2
  refine wp_loop_rounds 1 ?_
  rw [rounds_succ]
  go_wp2_with (first | (go_at_call 51; refine Calls.mono C.out ?_; rintro e w1 ⟨rfl, rfl⟩) | (go_at_call 52; refine Calls.mono D.out ?_; rintro e w1 ⟨rfl, rfl⟩))
  refine wp_loop_rounds 1 ?_
  rw [rounds_succ]
  go_wp2_with (first | (go_at_call 51; refine Calls.mono C.out ?_; rintro e w1 ⟨rfl, rfl⟩) | (go_at_call 52; refine Calls.mono D.out ?_; rintro e w1 ⟨rfl, rfl⟩))
  refine wp_loop_rounds 1 ?_
  rw [rounds_succ]
  go_wp2_with (first | (go_at_call 51; refine Calls.mono C.out ?_; rintro e w1 ⟨rfl, rfl⟩) | (go_at_call 52; refine Calls.mono D.out ?_; rintro e w1 ⟨rfl, rfl⟩))
  go_ret
  exact ⟨rfl, Below.refl _ _⟩
theorem direct_snoc (fs : Edges) (p q : Nat) : direct (fs ++ [((p : Int), (q : Int))]) = fun i => if i = p then (fun u => decide (u = q) || direct fs p u) else direct fs i := by
  funext i u
  by_cases e : i = p
  · subst e
    rw [if_pos rfl]
    by_cases e2 : u = q
    · subst e2; simp [direct]
    · simp [direct, e2, Int.natCast_inj]
  · rw [if_neg e]
    simp [direct, e, Int.natCast_inj]
theorem rstep_nat (S : Nat → Bool) (p q : Nat) : rstep S ((p : Int), (q : Int)) = if S p then (fun t => decide (t = q) || S t) else S := by
  unfold rstep; simp only [Int.toNat_natCast]
theorem Mat.drew {W : World} {base g N k : Nat} {gs : Nat → Nat} {R : Nat → Nat → Bool} (h : Mat W base g N k gs R) : Mat W.drew base g N k gs R := ⟨h.outer, h.inner, h.inj, h.far⟩
theorem brow_ne {W : World} {base n b : Nat} {v : Value} {xs : List Value} {ls : List Bool} (ho : W.ownsRow base 69 1 v n xs) (hb : BRow W b ls) : some b ≠ v.ownBlock := fun e => by
  rcases ho.2 with ⟨rfl, _⟩ | ⟨g', _, _, rfl, _, h3, _⟩
  · cases e
  · have : b = g' := by simpa [Value.ownBlock] using e
    rw [← this, show W.heap[b]? = _ from hb] at h3
    simp at h3
set_option maxRecDepth 100000 in
set_option maxHeartbeats 8000000 in
theorem rreaches_walk (rb N : Nat) (es : Edges) (w : World) (hg : IsR w (some ⟨rb, 0, none⟩) (N : Int) es) :
    Calls Try.prog 21 #[.pointer (some ⟨rb, 0, none⟩)] w fun e w' => ∃ u, e = .returned u ∧ SeesM w' u N (fun a => riter es (direct es a) N) ∧ Below w.heap.size w w' := by
  obtain ⟨i9, hi, hz0, hz1, hz2⟩ := info_parts Try.info69
  obtain ⟨m, hm⟩ : ∃ m, es.length = m := ⟨_, rfl⟩
  have h30 := hg.short
  have HG := hidI hg
  have hN : 1 ≤ N ∧ N ≤ 12 ∧ ∀ x ∈ es, good N x = true := by
    rcases hg with ⟨h, _⟩ | ⟨_, _, _, h1, h2, _, h3, _⟩
    · cases h
    · exact ⟨by omega, by omega, h3⟩
  obtain ⟨hN1, hN2, hgd⟩ := hN
  have HGD := hidI hgd
  rw [hm] at h30
  have HM := hidI hm
  have mk := make69 N (by omega)
  clear hg hm hgd
  go_enter Try.func21, Try.ntmps21
  go_wp2
  go_loopg [3, 4] N (fun g s3 s4 wx => ∃ (i : Nat) (gs : Nat → Nat), i + g = N ∧ s4 = .int .i64 i ∧ wx.ownsRow w.heap.size 69 1 s3 i (rowsAt N gs i) ∧ (∀ j, j < i → BRow wx (gs j) (brow N (fun _ => false)) ∧ w.heap.size ≤ gs j) ∧ (∀ j k, j < i → k < i → gs j = gs k → j = k) ∧ Below w.heap.size w wx ∧ w.heap.size ≤ wx.heap.size)
  case atStart => exact ⟨0, fun _ => 0, by omega, rfl, World.ownsRow_nil _ _ _ _, fun j hj => absurd hj (by omega), fun j k hj => absurd hj (by omega), Below.refl _ _, Nat.le_refl _⟩
  case round =>
    obtain ⟨i, gs, hig, rfl, ho, hrows, hinj, hbl, hsz⟩ := hrel
    have hgx := HG.out.below hbl (Nat.le_refl _)
    have C := hidI (rn_any _ _ _ wr hgx)
    have HO := hidI ho
    have HRS := hidI hrows
    have HIJ := hidI hinj
    have HB := hidI hbl
    clear hgx ho hbl hrows hinj
    cases gk with
    | zero =>
      have hil : i = N := by omega
      subst hil
      clear mk
      obtain ⟨g, c, rfl, hgb, hgl⟩ := HO.out.form (by omega)
      have hmat : Mat wr w.heap.size g i i gs (direct []) := by
        refine ⟨fun j hj => ?_, fun j hj => ?_, HIJ.out, fun j hj => ⟨fun e => ?_, (HRS.out j hj).2⟩⟩
        · have := HO.out.cells rfl j (.slice (some ⟨gs j, 0, none⟩) i i) (by simp [rowsAt, hj])
          rwa [add_at] at this
        · have := (HRS.out j hj).1
          rw [brow_congr (S := direct [] j) (T := fun _ => false) (fun t _ => by simp [direct])]
          exact this
        · have h1 := (HRS.out j hj).1
          rcases HO.out.2 with ⟨h2, _⟩ | ⟨g', _, _, h2, _, h3, _⟩
          · cases h2
          · cases h2
            rw [e] at h1
            rw [show wr.heap[g]? = _ from h1] at h3
            simp at h3
      have HMAT := hidI hmat
      clear hmat HO HRS HIJ
      go_wp2_with (go_at_call 51; refine Calls.mono C.out ?_; rintro e w1 ⟨rfl, rfl⟩; refine Hid.out ?_)
      refine hidI ?_
      clear C
      go_wp2
      go_loopg [5] m (fun gh s5 wx => ∃ (j : Nat), j + gh = m ∧ s5 = .int .i64 j ∧ Mat wx w.heap.size g i i gs (direct (es.take j)) ∧ Below w.heap.size w wx)
      case atStart => exact ⟨0, by omega, rfl, HMAT.out, HB.out⟩
      case round =>
        obtain ⟨j, hjg, rfl, hmt, hbx⟩ := hrel
        have hgx := HG.out.below hbx (Nat.le_refl _)
        have C := hidI (rm_any _ _ _ wr hgx)
        rw [HM.out] at C
        have HMT := hidI hmt
        have HBX := hidI hbx
        clear hmt hbx HMAT
        cases gk with
        | zero =>
          have hjm : m = j := by omega
          subst hjm
          clear hgx
          have hmt : Mat wr w.heap.size g i i gs (fun a => riter es (direct es a) 0) := by
            have := HMT.out
            rw [List.take_of_length_le (by rw [HM.out]; exact Nat.le_refl _)] at this
            exact this
          have HMT2 := hidI hmt
          clear hmt HMT
          go_wp2_with (go_at_call 52; refine Calls.mono C.out ?_; rintro e w1 ⟨rfl, rfl⟩; refine Hid.out ?_)
          refine hidI ?_
          clear C
          go_wp2
          go_loopg [6] i (fun gh s6 wx => ∃ (k : Nat), k + gh = i ∧ s6 = .int .i64 k ∧ Mat wx w.heap.size g i i gs (fun a => riter es (direct es a) k) ∧ Below w.heap.size w wx)
          case atStart => exact ⟨0, by omega, rfl, HMT2.out, HBX.out⟩
          case round =>
            obtain ⟨k, hkg, rfl, hmt, hbx⟩ := hrel
            have hgx := HG.out.below hbx (Nat.le_refl _)
            have C := hidI (rn_any _ _ _ wr hgx)
            have HMT := hidI hmt
            have HBY := hidI hbx
            clear hmt hbx HMT2 HBX hgx
            cases gk with
            | zero =>
              have hki : k = i := by omega
              subst hki
              go_wp2_with (go_at_call 51; refine Calls.mono C.out ?_; rintro e w1 ⟨rfl, rfl⟩)
              go_ret
              exact ⟨_, rfl, HMT.out.sees, HBY.out⟩
            | succ gr =>
              have hki : k < i := by omega
              go_wp2_with (go_at_call 51; refine Calls.mono C.out ?_; rintro e w1 ⟨rfl, rfl⟩; refine Hid.out ?_)
              refine hidI ?_
              clear C
              go_wp2
              go_loopg [7] i (fun ga s7 wx => ∃ (a : Nat), a + ga = i ∧ s7 = .int .i64 a ∧ Mat wx w.heap.size g i i gs (fun b => if b < a then riter es (direct es b) (k + 1) else riter es (direct es b) k) ∧ Below w.heap.size w wx)
              case atStart => exact ⟨0, by omega, rfl, HMT.out.congr (fun b _ t _ => by rw [if_neg (by omega)]), HBY.out⟩
              case round =>
                obtain ⟨a, hag, rfl, hmt, hbx⟩ := hrel
                have hgx := HG.out.below hbx (Nat.le_refl _)
                have C := hidI (rn_any _ _ _ wr hgx)
                have HMA := hidI hmt
                have HBZ := hidI hbx
                clear hmt hbx HMT HBY hgx
                cases gk with
                | zero =>
                  have hai : a = i := by omega
                  subst hai
                  go_wp2_with (go_at_call 51; refine Calls.mono C.out ?_; rintro e w1 ⟨rfl, rfl⟩)
                  go_roundg gr
                  case measure => omega
                  case rel => exact ⟨k + 1, by omega, by go_num, HMA.out.congr (fun b hb t _ => by rw [if_pos hb]), HBZ.out⟩
                | succ ga =>
                  have hai : a < i := by omega
                  go_wp2_with (go_at_call 51; refine Calls.mono C.out ?_; rintro e w1 ⟨rfl, rfl⟩; refine Hid.out ?_)
                  refine hidI ?_
                  clear C
                  go_wp2
                  go_loopg [8] m (fun gj s8 wx => ∃ (j : Nat), j + gj = m ∧ s8 = .int .i64 j ∧ Mat wx w.heap.size g i i gs (fun b => if b < a then riter es (direct es b) (k + 1) else if b = a then (es.take j).foldl rstep (riter es (direct es a) k) else riter es (direct es b) k) ∧ Below w.heap.size w wx)
                  case atStart =>
                    refine ⟨0, by omega, rfl, HMA.out.congr (fun b _ t _ => ?_), HBZ.out⟩
                    by_cases h1 : b < a
                    · rw [if_pos h1, if_pos h1]
                    · rw [if_neg h1, if_neg h1]
                      by_cases h2 : b = a
                      · rw [if_pos h2, h2]; rfl
                      · rw [if_neg h2]
                  case round =>
                    obtain ⟨j, hjg, rfl, hmt, hbx⟩ := hrel
                    have hgx := HG.out.below hbx (Nat.le_refl _)
                    have C := hidI (rm_any _ _ _ wr hgx)
                    rw [HM.out] at C
                    have HME := hidI hmt
                    have HBW := hidI hbx
                    clear hmt hbx HMA HBZ
                    cases gk with
                    | zero =>
                      have hjm : j = m := by omega
                      subst hjm
                      clear hgx
                      go_wp2_with (go_at_call 52; refine Calls.mono C.out ?_; rintro e w1 ⟨rfl, rfl⟩)
                      go_roundg ga
                      case measure => omega
                      case rel =>
                        refine ⟨a + 1, by omega, by go_num, HME.out.congr (fun b _ t _ => ?_), HBW.out⟩
                        by_cases h1 : b < a
                        · rw [if_pos h1, if_pos (by omega)]
                        · rw [if_neg h1]
                          by_cases h2 : b = a
                          · rw [if_pos h2, if_pos (by omega), List.take_of_length_le (by rw [HM.out]; exact Nat.le_refl _), h2]; rfl
                          · rw [if_neg h2, if_neg (by omega)]
                    | succ gj =>
                      have hlt : j < m := by omega
                      have k3 : (j : Int) < (m : Int) := by omega
                      rcases hgx with ⟨h0, _⟩ | ⟨rb', ev, he, _, _, _, _, c0, c1, hse⟩
                      · cases h0
                      cases he
                      obtain ⟨ea, ecap, rfl, hse⟩ := hse
                      rw [HM.out] at c1
                      rcases hse with h0 | ⟨b, off, rfl, hl⟩
                      · have := HM.out; rw [h0] at this; simp at this; omega
                      obtain ⟨x, hx⟩ : ∃ x, es[j]? = some x := ⟨es[j]'(by have := HM.out; omega), List.getElem?_eq_getElem _⟩
                      obtain ⟨d1, d2⟩ := hl j x hx
                      have hgx := HGD.out x (List.mem_of_getElem? hx)
                      simp only [good, Bool.and_eq_true, decide_eq_true_eq] at hgx
                      have htk : (es.take (j + 1)).foldl rstep (riter es (direct es a) k) = rstep ((es.take j).foldl rstep (riter es (direct es a) k)) x := by rw [List.take_add_one, hx]; simp
                      obtain ⟨x1, x2⟩ := x
                      obtain ⟨p, hp⟩ : ∃ p : Nat, x1 = p := ⟨x1.toNat, by have := hgx.1.1; dsimp only at this; omega⟩
                      obtain ⟨q, hq⟩ : ∃ q : Nat, x2 = q := ⟨x2.toNat, by have := hgx.2.1; dsimp only at this; omega⟩
                      subst hp hq
                      dsimp only at d1 d2 hgx
                      have hpi : p < i := by omega
                      have hqi : q < i := by omega
                      have e1 := HME.out.outer a hai
                      have e2 := HME.out.cell hai hpi
                      have e4 := HME.out.cell hai hqi
                      have e3 := (HME.out.inner a hai).frozen q
                      rw [if_neg (Nat.lt_irrefl a), if_pos rfl] at e2 e4
                      rw [rstep_nat] at htk
                      obtain ⟨S, hS⟩ : ∃ S, (es.take j).foldl rstep (riter es (direct es a) k) = S := ⟨_, rfl⟩
                      rw [hS] at e2 e4 htk HME
                      obtain ⟨zb, hzb⟩ : ∃ zb, S q = zb := ⟨_, rfl⟩
                      rw [hzb] at e4
                      have HTK := hidI htk
                      have hge := (HME.out.far a hai).2
                      clear htk hgx hx hl c0 hzb hS
                      obtain ⟨G, hG⟩ : ∃ G, gs a = G := ⟨_, rfl⟩
                      rw [hG] at e1 e2 e3 e4 hge
                      go_wp2_with (go_at_call 52; refine Calls.mono C.out ?_; rintro e w1 ⟨rfl, rfl⟩; refine Hid.out ?_)
                      refine hidI ?_
                      clear C
                      by_cases hsp : S p = true
                      · rw [hsp] at e2 HTK
                        go_wp2
                        go_quiet (fail)
                        generalize nq = n1
                        go_wp2
                        go_region
                        go_wp2
                        go_roundg gj
                        case measure => omega
                        case rel =>
                          have hM := (HME.out.drewN n1).set hai q
                          rw [hG] at hM
                          refine ⟨j + 1, by omega, by go_num, ?_, ?_⟩
                          · rw [HTK.out]
                            refine Mat.congr hM.drew (fun b _ t _ => ?_)
                            by_cases h2 : b = a
                            · subst h2
                              simp
                            · rw [if_neg h2]
                              by_cases h1 : b < a
                              · rw [if_pos h1, if_pos h1]
                              · rw [if_neg h1, if_neg h2, if_neg h1, if_neg h2]
                          · exact ((below_dn HBW.out n1).setCell (p := ⟨G, q, none⟩) hge _).drew
                      · have hsp' : S p = false := by simpa using hsp
                        rw [hsp'] at e2 HTK
                        go_wp2
                        go_quiet (fail)
                        generalize nq = n1
                        go_wp2
                        go_roundg gj
                        case measure => omega
                        case rel =>
                          refine ⟨j + 1, by omega, by go_num, ?_, below_dn HBW.out _⟩
                          rw [HTK.out]
                          exact HME.out.drewN n1
        | succ gh =>
          have hlt : j < m := by omega
          have k3 : (j : Int) < (m : Int) := by omega
          rcases hgx with ⟨h0, _⟩ | ⟨rb', ev, he, _, _, _, _, c0, c1, hse⟩
          · cases h0
          cases he
          obtain ⟨ea, ecap, rfl, hse⟩ := hse
          rw [HM.out] at c1
          rcases hse with h0 | ⟨b, off, rfl, hl⟩
          · have := HM.out; rw [h0] at this; simp at this; omega
          obtain ⟨x, hx⟩ : ∃ x, es[j]? = some x := ⟨es[j]'(by have := HM.out; omega), List.getElem?_eq_getElem _⟩
          obtain ⟨d1, d2⟩ := hl j x hx
          have hgx := HGD.out x (List.mem_of_getElem? hx)
          simp only [good, Bool.and_eq_true, decide_eq_true_eq] at hgx
          have htk : es.take (j + 1) = es.take j ++ [x] := by rw [List.take_add_one, hx]; rfl
          obtain ⟨x1, x2⟩ := x
          obtain ⟨p, hp⟩ : ∃ p : Nat, x1 = p := ⟨x1.toNat, by have := hgx.1.1; dsimp only at this; omega⟩
          obtain ⟨q, hq⟩ : ∃ q : Nat, x2 = q := ⟨x2.toNat, by have := hgx.2.1; dsimp only at this; omega⟩
          subst hp hq
          dsimp only at d1 d2 hgx
          have hpi : p < i := by omega
          have hqi : q < i := by omega
          have e1 := HMT.out.outer p hpi
          have e2 := HMT.out.cell hpi hqi
          have e3 := (HMT.out.inner p hpi).frozen q
          obtain ⟨zb, hzb⟩ : ∃ zb, direct (es.take j) p q = zb := ⟨_, rfl⟩
          rw [hzb] at e2
          have HTK := hidI htk
          have hge := (HMT.out.far p hpi).2
          clear htk hgx hx hl c0 hzb
          obtain ⟨G, hG⟩ : ∃ G, gs p = G := ⟨_, rfl⟩
          rw [hG] at e1 e2 e3 hge
          go_wp2_with (go_at_call 52; refine Calls.mono C.out ?_; rintro e w1 ⟨rfl, rfl⟩; refine Hid.out ?_)
          refine hidI ?_
          clear C
          go_wp2
          go_region
          go_wp2
          go_roundg gh
          case measure => omega
          case rel =>
            have hM := HMT.out.set hpi q
            rw [hG] at hM
            refine ⟨j + 1, by omega, by go_num, ?_, ?_⟩
            · rw [HTK.out, direct_snoc]
              exact hM.drew
            · exact (HBX.out.setCell (p := ⟨G, q, none⟩) hge _).drew
    | succ gh =>
      have hiN : i < N := by omega
      have o1 := hidI ((HO.out.alloc (.cells (madeCells #[.bool false] N) 4)).alloc (.cells #[.slice (some ⟨wr.heap.size, 0, none⟩) N N] 69))
      have hnw := one_new (wr.alloc (.cells (madeCells #[.bool false] N) 4)) (.slice (some ⟨wr.heap.size, 0, none⟩) N N) 69
      have sz2 : (wr.alloc (.cells (madeCells #[.bool false] N) 4)).heap.size = wr.heap.size + 1 := by simp
      rw [sz2] at hnw
      have HNW := hidI hnw
      have Q3 : Hid (w.heap.size ≤ ((wr.alloc (.cells (madeCells #[.bool false] N) 4)).alloc (.cells #[.slice (some ⟨wr.heap.size, 0, none⟩) N N] 69)).heap.size) := hidI (by simp; omega)
      have Q1 : Hid (i + 1 ≤ maxLen) := hidI (by unfold maxLen; omega)
      have Q2 : Hid ((i + 1) * 24 ≤ 140737488355328) := hidI (by omega)
      clear hnw sz2
      go_wp2_with (first | (go_at_call 51; refine Calls.mono C.out ?_; rintro e w1 ⟨rfl, rfl⟩) | (at_builtin; refine wpList_append_own_at _ rfl _ _ 38 rfl w.heap.size 69 i9 (.slice none 0 0) 1 24 Try.underlying38 hi hz0 hz1 hz2 rfl (by decide) _ i _ rfl o1.out ⟨wr.heap.size + 1, 0, none⟩ 1 1 [.slice (some ⟨wr.heap.size, 0, none⟩) N N] rfl rfl HNW.out (by simp [Value.oneCell']) Q1.out Q2.out Q3.out ?_; intro v' w1 hown' hgrow' hnn hat'))
      go_roundg gh
      case measure => omega
      case rel =>
        have hz := hgrow'.size
        simp only [World.size_alloc] at hz
        refine ⟨i + 1, fun k => if k = i then wr.heap.size else gs k, by omega, by go_num, ?_, fun j hj => ?_, fun j k hj hk e => ?_, ?_, ?_⟩
        · rw [rowsAt_succ]; exact hown'
        · dsimp only
          by_cases e : j = i
          · rw [if_pos e]
            refine ⟨?_, hsz⟩
            have h1 := (made_brow wr N).kept (World.grownBy_alloc _ (.cells #[.slice (some ⟨wr.heap.size, 0, none⟩) N N] 69) none) (by simp)
            exact h1.kept hgrow' (fun e' => by have := (HO.out.lt _ e'.symm).2; omega)
          · rw [if_neg e]
            obtain ⟨h1, h2⟩ := HRS.out j (by omega)
            refine ⟨?_, h2⟩
            have h3 := (h1.kept (World.grownBy_alloc _ (.cells (madeCells #[.bool false] N) 4) none) (by simp)).kept (World.grownBy_alloc _ (.cells #[.slice (some ⟨wr.heap.size, 0, none⟩) N N] 69) none) (by simp)
            exact h3.kept hgrow' (brow_ne HO.out h1)
        · dsimp only at e
          by_cases e1 : j = i <;> by_cases e2 : k = i
          · omega
          · rw [if_pos e1, if_neg e2] at e
            have := (HRS.out k (by omega)).1.lt; omega
          · rw [if_neg e1, if_pos e2] at e
            have := (HRS.out j (by omega)).1.lt; omega
          · rw [if_neg e1, if_neg e2] at e
            exact HIJ.out j k (by omega) (by omega) e
        · exact ((HB.out.alloc HB.out.size _).alloc (by simp; omega) _).grown hgrow' (by simp; omega) (fun k hk => (HO.out.lt k hk).1)
        · omega
theorem rreaches_any (rp : Option Addr) (N : Nat) (es : Edges) (w : World) (hg : IsR w rp (N : Int) es) :
    Calls Try.prog 21 #[.pointer rp] w fun e w' => ∃ u, e = .returned u ∧ SeesM w' u N (reach N es) ∧ Below w.heap.size w w' := by
  rcases id hg with ⟨rfl, h0, rfl⟩ | ⟨rb, v, rfl, _, _, _, hgd, _⟩
  · obtain rfl : N = 0 := by omega
    refine (rreaches_nil w).mono ?_
    rintro e w' ⟨rfl, hb⟩
    exact ⟨_, rfl, ⟨none, 0, rfl, .inl rfl⟩, hb⟩
  · refine (rreaches_walk rb N es w hg).mono ?_
    rintro e w' ⟨u, rfl, hs, hb⟩
    exact ⟨u, rfl, hs.congr (fun i _ t ht => (reach_riter hgd ht).symm), hb⟩
end Go.Proofs.Ytbjoljokdjgbnaa
