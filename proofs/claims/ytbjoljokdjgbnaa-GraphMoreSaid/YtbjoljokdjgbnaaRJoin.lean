/-
  The document's Joined.
-/
import Derived.Test.YtbjoljokdjgbnaaJoin
namespace Go.Proofs.Ytbjoljokdjgbnaa
open Go.RowKit Go.Deep
theorem set_own (L : List Int) (p : Nat) (h : p < L.length) : L.set p (L.getD p 0) = L := by
  have : L.getD p 0 = L[p] := by simp [List.getD, h]
  rw [this, List.set_getElem_self]
theorem jstep_nat (L : List Int) (p q : Nat) : jstep L ((p : Int), (q : Int)) = (L.set p (min (L.getD p 0) (L.getD q 0))).set q (min (L.getD p 0) (L.getD q 0)) := by
  unfold jstep; simp only [Int.toNat_natCast]
theorem jstep_lt {L : List Int} {p q : Nat} (hp : p < L.length) (h : L.getD p 0 < L.getD q 0) : jstep L ((p : Int), (q : Int)) = L.set q (L.getD p 0) := by
  rw [jstep_nat, Int.min_eq_left (by omega), set_own L p hp]
theorem jstep_gt {L : List Int} {p q : Nat} (hq : q < L.length) (h : L.getD q 0 < L.getD p 0) : jstep L ((p : Int), (q : Int)) = L.set p (L.getD q 0) := by
  have hne : p ≠ q := fun e => by subst e; omega
  rw [jstep_nat, Int.min_eq_right (by omega), List.set_comm _ _ hne, set_own L q hq]
theorem jstep_eq {L : List Int} {p q : Nat} (hp : p < L.length) (hq : q < L.length) (h : L.getD q 0 = L.getD p 0) : jstep L ((p : Int), (q : Int)) = L := by
  rw [jstep_nat, h, Int.min_self, set_own L p hp, ← h, set_own L q hq]
def jlev (N : Nat) (es : Edges) (k : Nat) : List Int := (List.range k).foldl (jround es) (selfs N)
theorem jlev_succ (N : Nat) (es : Edges) (k : Nat) : jlev N es (k + 1) = es.foldl jstep (jlev N es k) := by simp [jlev, List.range_succ, jround]
theorem jlev_length (N : Nat) (es : Edges) (k : Nat) : (jlev N es k).length = N := by unfold jlev; rw [jfold_length, selfs_length]
theorem selfs_succ (k : Nat) : selfs (k + 1) = selfs k ++ [(k : Int)] := by simp [selfs, List.range_succ]
theorem rjoined_nil (w : World) : Calls Try.prog 18 #[.pointer none] w fun e w' => e = .returned (.slice none 0 0) ∧ Below w.heap.size w w' := by
  have C := hidI (rn_any none 0 [] w (.inl ⟨rfl, rfl, rfl⟩))
  go_enter Try.func18, Try.ntmps18
  go_wp2
  refine wp_loop_rounds 1 ?_
  rw [rounds_succ]
  go_wp2_with (go_at_call 51; refine Calls.mono C.out ?_; rintro e w1 ⟨rfl, rfl⟩)
  refine wp_loop_rounds 1 ?_
  rw [rounds_succ]
  go_wp2_with (go_at_call 51; refine Calls.mono C.out ?_; rintro e w1 ⟨rfl, rfl⟩)
  go_ret
  exact ⟨rfl, Below.refl _ _⟩
theorem Has.drewN {W : World} {g : Nat} {ls : List Int} (h : Has W g ls) (n : Nat) : Has (W.drewN n) g ls := h
theorem grown_drewN {W V : World} {row : Option Nat} (h : W.grownBy V row) (n : Nat) : W.grownBy (V.drewN n) row := ⟨h.1, h.2, h.3, h.4, h.5⟩
set_option maxRecDepth 100000 in
set_option maxHeartbeats 4000000 in
theorem rjoined_walk (rb N : Nat) (es : Edges) (w : World) (hg : IsR w (some ⟨rb, 0, none⟩) (N : Int) es) :
    Calls Try.prog 18 #[.pointer (some ⟨rb, 0, none⟩)] w fun e w' => ∃ u, e = .returned u ∧ Sees w' u (jlev N es N) ∧ Below w.heap.size w w' := by
  obtain ⟨m, hm⟩ : ∃ m, es.length = m := ⟨_, rfl⟩
  have h30 := hg.short
  have HG := hidI hg
  have hN : 1 ≤ N ∧ N ≤ 12 ∧ ∀ x ∈ es, good N x = true := by
    rcases hg with ⟨h, _⟩ | ⟨_, _, _, h1, h2, _, h3, _⟩
    · cases h
    · exact ⟨by omega, by omega, h3⟩
  obtain ⟨hN1, hN2, hgd⟩ := hN
  have HGD := hidI hgd
  rw [hm] at h30
  have HM := hidI hm
  clear hg hm hgd
  go_enter Try.func18, Try.ntmps18
  go_wp2
  go_loopg [3, 4] N (fun g s3 s4 wx => ∃ (i : Nat), i + g = N ∧ s4 = .int .i64 i ∧ wx.ownsRow w.heap.size 3 1 s3 i ((selfs i).map (Value.int .i64)) ∧ Below w.heap.size w wx ∧ w.heap.size ≤ wx.heap.size)
  case atStart => exact ⟨0, by omega, rfl, World.ownsRow_nil _ _ _ _, Below.refl _ _, Nat.le_refl _⟩
  case round =>
    obtain ⟨i, hig, rfl, ho, hbl, hsz⟩ := hrel
    have hgx := HG.out.below hbl (Nat.le_refl _)
    have C := hidI (rn_any _ _ _ wr hgx)
    have HGX := hidI hgx
    have HO := hidI ho
    have HB := hidI hbl
    clear hgx ho hbl
    cases gk with
    | zero =>
      have hil : i = N := by omega
      subst hil
      obtain ⟨g, c, rfl, hgb, hhas⟩ := own_has HO.out (selfs_length _) (by omega)
      have hgl := hhas.lt
      have HH := hidI hhas
      clear HO hhas
      go_wp2_with (go_at_call 51; refine Calls.mono C.out ?_; rintro e w1 ⟨rfl, rfl⟩; refine Hid.out ?_)
      refine hidI ?_
      clear C
      go_wp2
      go_loopg [5] i (fun gh s5 wx => ∃ (k : Nat), k + gh = i ∧ s5 = .int .i64 k ∧ Has wx g (jlev i es k) ∧ wr.grownBy wx (some g))
      case atStart => exact ⟨0, by omega, rfl, HH.out, World.grownBy.refl _ _⟩
      case round =>
        obtain ⟨k, hkg, rfl, hh, hgr⟩ := hrel
        have hbx : Below w.heap.size w wr := HB.out.grown hgr (by have := hgr.size; omega) (fun q hq => by cases hq; exact hgb)
        have hgx := HG.out.below hbx (Nat.le_refl _)
        have C := hidI (rn_any _ _ _ wr hgx)
        have HK := hidI hh
        have HGR := hidI hgr
        have HBX := hidI hbx
        clear hh hgr hbx hgx HH
        cases gk with
        | zero =>
          have hki : k = i := by omega
          subst hki
          go_wp2_with (go_at_call 51; refine Calls.mono C.out ?_; rintro e w1 ⟨rfl, rfl⟩)
          go_ret
          refine ⟨_, rfl, ?_, HBX.out⟩
          have := HK.out.sees (cap := c)
          rw [jlev_length] at this
          exact this
        | succ gh =>
          have hki : k < i := by omega
          go_wp2_with (go_at_call 51; refine Calls.mono C.out ?_; rintro e w1 ⟨rfl, rfl⟩; refine Hid.out ?_)
          refine hidI ?_
          clear C
          go_wp2
          go_loopg [6] m (fun gj s6 wy => ∃ (j : Nat), j + gj = m ∧ s6 = .int .i64 j ∧ Has wy g ((es.take j).foldl jstep (jlev i es k)) ∧ wr.grownBy wy (some g))
          case atStart => exact ⟨0, by omega, rfl, HK.out, World.grownBy.refl _ _⟩
          case round =>
            obtain ⟨j, hjg, rfl, hh3, hgr3⟩ := hrel
            have hbx : Below w.heap.size w wr := HBX.out.grown hgr3 (by have := hgr3.size; have := HBX.out.size; omega) (fun q hq => by cases hq; exact hgb)
            have hgx := HG.out.below hbx (Nat.le_refl _)
            have C := hidI (rm_any _ _ _ wr hgx)
            rw [HM.out] at C
            have HK3 := hidI hh3
            have HGR3 := hidI hgr3
            clear hh3 hgr3 hbx
            cases gk with
            | zero =>
              have hjm : j = m := by omega
              subst hjm
              clear hgx
              go_wp2_with (go_at_call 52; refine Calls.mono C.out ?_; rintro e w1 ⟨rfl, rfl⟩)
              go_roundg gh
              case measure => omega
              case rel =>
                refine ⟨k + 1, by omega, by go_num, ?_, gtrans HGR.out HGR3.out⟩
                have := HK3.out
                rw [List.take_of_length_le (by rw [HM.out]; exact Nat.le_refl _)] at this
                rw [jlev_succ]
                exact this
            | succ gj =>
              have hlt : j < m := by omega
              rcases hgx with ⟨h0, _⟩ | ⟨rb', ev, he, _, _, _, _, c0, c1, hse⟩
              · cases h0
              cases he
              obtain ⟨ea, ecap, rfl, hse⟩ := hse
              rw [HM.out] at c1
              rcases hse with h0 | ⟨b, off, rfl, hl⟩
              · have := HM.out; rw [h0] at this; simp at this; omega
              obtain ⟨x, hx⟩ : ∃ x, es[j]? = some x := ⟨es[j]'(by have := HM.out; omega), List.getElem?_eq_getElem _⟩
              obtain ⟨d1, d2⟩ := hl j x hx
              have hgx := HGD.out x (List.mem_of_getElem? hx)
              simp only [good, Bool.and_eq_true, decide_eq_true_eq] at hgx
              have htk : (es.take (j + 1)).foldl jstep (jlev i es k) = jstep ((es.take j).foldl jstep (jlev i es k)) x := by
                rw [List.take_add_one, hx]; simp
              have hlen : ((es.take j).foldl jstep (jlev i es k)).length = i := by rw [jround_length, jlev_length]
              obtain ⟨L, hL⟩ : ∃ L, (es.take j).foldl jstep (jlev i es k) = L := ⟨_, rfl⟩
              rw [hL] at htk hlen HK3
              obtain ⟨x1, x2⟩ := x
              obtain ⟨p, hp⟩ : ∃ p : Nat, x1 = p := ⟨x1.toNat, by have := hgx.1.1; dsimp only at this; omega⟩
              obtain ⟨q, hq⟩ : ∃ q : Nat, x2 = q := ⟨x2.toNat, by have := hgx.2.1; dsimp only at this; omega⟩
              subst hp hq
              dsimp only at d1 d2 hgx
              have hpi : p < i := by omega
              have hqi : q < i := by omega
              have cp := HK3.out.cell (j := p) (by rw [hlen]; exact hpi)
              have cq := HK3.out.cell (j := q) (by rw [hlen]; exact hqi)
              have fp := HK3.out.frozen p
              have fq := HK3.out.frozen q
              have J1 := hidI (jstep_lt (L := L) (p := p) (q := q) (by omega))
              have J2 := hidI (jstep_gt (L := L) (p := p) (q := q) (by omega))
              have J3 := hidI (jstep_eq (L := L) (p := p) (q := q) (by omega) (by omega))
              have HTK := hidI htk
              have HLEN := hidI hlen
              obtain ⟨z, hz⟩ : ∃ z, L.getD p 0 = z := ⟨_, rfl⟩
              obtain ⟨y, hy⟩ : ∃ y, L.getD q 0 = y := ⟨_, rfl⟩
              rw [hz] at cp
              rw [hy] at cq
              rw [hz, hy] at J1 J2 J3
              have HZ := hidI hz
              clear htk hL hlen hgx hx hl c0 hz hy
              go_wp2_with (go_at_call 52; refine Calls.mono C.out ?_; rintro e w1 ⟨rfl, rfl⟩; refine Hid.out ?_)
              refine hidI ?_
              clear C
              go_wp2
              go_quiet (fail)
              generalize nq = n1
              by_cases ha : z < y
              · have hne : p ≠ q := fun e => by subst e; rw [cp] at cq; cases cq; omega
                go_wp2
                go_quiet (fail)
                generalize nq = n2
                go_wp2
                have hU := (HK3.out.drewN (n1 + n2)).set q z
                have gU := gtrans (grown_drewN HGR3.out (n1 + n2)) (grownBy_set (wr.drewN (n1 + n2)) g q (.int .i64 z))
                obtain ⟨U, hUe⟩ : ∃ U, (wr.drewN (n1 + n2)).setCell ⟨g, q, none⟩ (.int .i64 z) = U := ⟨_, rfl⟩
                rw [hUe] at hU gU ⊢
                clear hUe cp cq fp fq
                have cp := hU.cell (j := p) (by rw [List.length_set, HLEN.out]; exact hpi)
                have cq := hU.cell (j := q) (by rw [List.length_set, HLEN.out]; exact hqi)
                have ep : (L.set q z).getD p 0 = z := by rw [getD_set _ _ _ _ (by rw [HLEN.out]; exact hpi), if_neg (Ne.symm hne)]; exact HZ.out
                have eq : (L.set q z).getD q 0 = z := by rw [getD_set _ _ _ _ (by rw [HLEN.out]; exact hqi), if_pos rfl]
                rw [ep] at cp
                rw [eq] at cq
                have HU := hidI hU
                have GU := hidI gU
                clear hU gU ep eq
                go_quiet (fail)
                generalize nq = n3
                go_wp2
                go_roundg gj
                case measure => omega
                case rel =>
                  refine ⟨j + 1, by omega, by go_num, ?_, grown_drewN GU.out n3⟩
                  rw [HTK.out, J1.out ha]
                  exact HU.out.drewN n3
              · have ha' : decide (z < y) = false := by simpa using ha
                go_wp2
                go_quiet (fail)
                generalize nq = n2
                by_cases hb : y < z
                · go_wp2
                  go_quiet (fail)
                  generalize nq = n3
                  go_wp2
                  have hU := (HK3.out.drewN (n1 + n2 + n3)).set p y
                  have gU := gtrans (grown_drewN HGR3.out (n1 + n2 + n3)) (grownBy_set (wr.drewN (n1 + n2 + n3)) g p (.int .i64 y))
                  go_roundg gj
                  case measure => omega
                  case rel =>
                    refine ⟨j + 1, by omega, by go_num, ?_, ?_⟩
                    · rw [HTK.out, J2.out hb]
                      simpa [Nat.add_assoc] using hU
                    · simpa [Nat.add_assoc] using gU
                · have hb' : decide (y < z) = false := by simpa using hb
                  go_wp2
                  go_quiet (fail)
                  generalize nq = n3
                  go_wp2
                  go_roundg gj
                  case measure => omega
                  case rel =>
                    refine ⟨j + 1, by omega, by go_num, ?_, ?_⟩
                    · rw [HTK.out, J3.out (by omega)]
                      exact HK3.out.drewN _
                    · exact grown_drewN HGR3.out _
    | succ gh =>
      have hb1 := selfs_succ i
      have o1 := hidI (HO.out.alloc (.cells #[.int .i64 (i : Int)] 3))
      have s1 := hidI (sees_one wr (i : Int) 3)
      have hb : w.heap.size ≤ (wr.alloc (.cells #[.int .i64 (i : Int)] 3)).heap.size := by simp; omega
      have HBB := hidI hb
      have hk1 : i + [(i : Int)].length ≤ 1000000 := by simp; omega
      have HK1 := hidI hk1
      have HB1 := hidI hb1
      clear hb hk1 hb1
      go_wp2_with (first | (go_at_call 51; refine Calls.mono C.out ?_; rintro e w1 ⟨rfl, rfl⟩) | (at_builtin; refine wpList_append_sees rfl _ _ rfl w.heap.size _ i _ rfl o1.out _ [(i : Int)] rfl s1.out HK1.out HBB.out ?_; intro v' w1 hown' hgrow' hat'))
      go_roundg gh
      case measure => omega
      case rel =>
        refine ⟨i + 1, by omega, by go_num, ?_, ?_, ?_⟩
        · rw [HB1.out]; simpa using hown'
        · exact (HB.out.alloc HB.out.size _).grown hgrow' (by simp; omega) (fun k hk => (HO.out.lt k hk).1)
        · have := hgrow'.size; simp at this; omega
theorem rjoined_any (rp : Option Addr) (N : Nat) (es : Edges) (w : World) (hg : IsR w rp (N : Int) es) :
    Calls Try.prog 18 #[.pointer rp] w fun e w' => ∃ u, e = .returned u ∧ Sees w' u (joined N es) ∧ Below w.heap.size w w' := by
  rcases id hg with ⟨rfl, h0, rfl⟩ | ⟨rb, v, rfl, hr⟩
  · obtain rfl : N = 0 := by omega
    refine (rjoined_nil w).mono ?_
    rintro e w' ⟨rfl, hb⟩
    exact ⟨_, rfl, ⟨none, 0, rfl, .inl rfl⟩, hb⟩
  · exact rjoined_walk rb N es w hg
end Go.Proofs.Ytbjoljokdjgbnaa
