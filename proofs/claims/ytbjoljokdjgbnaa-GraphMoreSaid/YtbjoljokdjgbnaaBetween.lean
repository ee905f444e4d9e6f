/-
  The edges between two nodes, and the document's Rows.
-/
import Derived.Test.YtbjoljokdjgbnaaRGraph
namespace Go.Proofs.Ytbjoljokdjgbnaa
open Go.RowKit Go.Deep Go.MapKept
/-- A look-up in the map by ends. -/
theorem mapAt_lookup {w : World} {b base : Nat} {f : Int → Int → List Int} (h : MapAt w b base f) {p q : Int} (hp : Wf p) (hq : Wf q) :
    ∃ v, (Instr.lookup 57 (.map (some b)) (.agg #[.int .i64 p, .int .i64 q]) false).run Try.prog w = .ok v w ∧ Sees w v (f p q) := by
  obtain ⟨es, clock, hb, hst, hent, hno, hap, hbb⟩ := h
  obtain ⟨kl, hkey⟩ := keyOf_edge hp hq
  have hkeys : ∀ e ∈ es.toList, ∃ l, keyOf Try.prog 55 e.key = some l := fun e he => by
    obtain ⟨p', q', wp, wq, ek, _⟩ := hent e he
    rw [ek]; exact keyOf_edge wp wq
  have ht := Try.underlying57
  change ∃ v, (Instr.lookup 57 (.map (some b)) (edge p q) false).run Try.prog w = .ok v w ∧ Sees w v (f p q)
  rcases law55.find w hkey es.toList hkeys with ⟨h1, h2⟩ | ⟨j, e0, h1, h2, h3⟩
  · refine ⟨.slice none 0 0, by simp [Instr.lookup, run_underlying ht, MapKept.run_getObj_map hb, law55.check w _ hkey, h1, Result.andThen], none, 0, ?_, .inl ?_⟩
    · rw [hno p q h2]; rfl
    · exact hno p q h2
  · have hm0 : e0 ∈ es.toList := List.mem_of_getElem? h2
    obtain ⟨p0, q0, wp0, wq0, ek0, ho0⟩ := hent e0 hm0
    obtain ⟨rfl, rfl⟩ := edge_inj (ek0.symm.trans h3)
    refine ⟨e0.val, by simp [Instr.lookup, run_underlying ht, MapKept.run_getObj_map hb, law55.check w _ hkey, h1, Result.andThen], sees_of_owns ho0.1⟩
theorem cloneI_nil (len cap : Nat) (w : World) :
    Calls Try.prog 57 #[.slice none len cap] w fun e w' => e = .returned (.slice none 0 0) ∧ w = w' := by
  have q35 := nil35
  go_enter Try.func57, Try.ntmps57
  go_wp2
  go_ret
  exact ⟨rfl, rfl⟩
set_option maxRecDepth 100000 in
set_option maxHeartbeats 1000000 in
theorem cloneI_walk (x : Addr) (cap : Nat) (zs : List Int) (w : World) (hl : zs.length ≤ 100000) (hv : Sees w (.slice (some x) zs.length cap) zs) :
    Calls Try.prog 57 #[.slice (some x) zs.length cap] w fun e w' => ∃ u, e = .returned u ∧ Sees w' u zs ∧ Below w.heap.size w w' := by
  have HV := hidI (hv.below ((Below.refl _ w).alloc (Nat.le_refl _) (.cells #[] 3)) (Nat.le_refl _))
  have HO := hidI (World.ownsRow_made (base := w.heap.size) (e := 3) (size := 1) w #[] 0 (Nat.le_refl _) (by unfold maxLen; omega) rfl)
  have q35 := nil35
  have u35 : ∀ w, Sem.run Try.prog (underlying 35) w = .ok (TypeDesc.slice 3) w := run_underlying Try.underlying35
  clear hv
  go_enter Try.func57, Try.ntmps57
  go_wp2_with (at_builtin; refine wpList_append_sees rfl _ _ rfl w.heap.size _ 0 [] rfl HO.out _ zs rfl HV.out (by omega) (by simp) ?_; intro v' w1 hown' hgrow' hat')
  go_ret
  refine ⟨v', rfl, sees_of_owns (base := w.heap.size) (e := 3) (by simpa using hown'), ?_⟩
  exact ((Below.refl _ w).alloc (Nat.le_refl _) _).grown hgrow' (by simp) (fun k hk => (HO.out.lt k hk).1)
theorem cloneI_any (v : Value) (zs : List Int) (w : World) (hl : zs.length ≤ 100000) (hv : Sees w v zs) :
    Calls Try.prog 57 #[v] w fun e w' => ∃ u, e = .returned u ∧ Sees w' u zs ∧ Below w.heap.size w w' := by
  obtain ⟨a, cap, rfl, hs⟩ := hv
  cases a with
  | none =>
    refine (cloneI_nil _ _ w).mono ?_
    rintro e w' ⟨rfl, rfl⟩
    rcases hs with rfl | ⟨_, _, h, _⟩
    · exact ⟨_, rfl, ⟨none, 0, rfl, .inl rfl⟩, Below.refl _ _⟩
    · cases h
  | some x => exact cloneI_walk x cap zs w hl ⟨some x, cap, rfl, hs⟩
theorem between_nil (p q : Int) (w : World) : Calls Try.prog 46 #[.pointer none, .int .i64 p, .int .i64 q] w fun e w' => e = .returned (.slice none 0 0) ∧ w = w' := by
  go_enter Try.func46, Try.ntmps46
  go_wp2
  go_ret
  exact ⟨rfl, rfl⟩
set_option maxHeartbeats 1000000 in
theorem between_any (gp : Option Addr) (n p q : Int) (es : Edges) (w : World) (hg : IsG w gp n es) (hp : Wf p) (hq : Wf q) :
    Calls Try.prog 46 #[.pointer gp, .int .i64 p, .int .i64 q] w fun e w' => ∃ u, e = .returned u ∧ Sees w' u (pick (fun j => decide ((es.getD j (0, 0)).1 = p ∧ (es.getD j (0, 0)).2 = q)) es.length) ∧ Below w.heap.size w w' := by
  have h30 := hg.short
  rcases hg with ⟨rfl, rfl, rfl⟩ | ⟨gb, v, mb, base, rfl, h1, h2, h3, hgd, c0, c1, hse, c2, hm⟩
  · refine (between_nil p q w).mono ?_
    rintro e w' ⟨rfl, rfl⟩
    exact ⟨_, rfl, ⟨none, 0, rfl, .inl rfl⟩, Below.refl _ _⟩
  · rw [← betw_pick]
    have hlen : (betw ((upto es es.length (Nat.le_refl _)).map (·.1)) p q).length ≤ 100000 := by
      rw [betw_pick]; have := pick_length (fun j => decide ((es.getD j (0, 0)).1 = p ∧ (es.getD j (0, 0)).2 = q)) es.length; omega
    obtain ⟨u, hlk, hsu⟩ := mapAt_lookup hm hp hq
    have C := hidI (cloneI_any u _ w hlen hsu)
    obtain ⟨zs, hzs⟩ : ∃ zs, betw ((upto es es.length (Nat.le_refl _)).map (·.1)) p q = zs := ⟨_, rfl⟩
    rw [hzs] at C ⊢
    clear hm hse hgd hlen hsu hzs c0 c1
    go_enter Try.func46, Try.ntmps46
    go_wp2_with (go_at_call 57; refine Calls.mono C.out ?_; rintro e w1 ⟨u', rfl, hs, hb⟩; refine Hid.out ?_)
    refine hidI ?_
    have HS := hidI hs
    have HB := hidI hb
    clear C hs hb hlk
    go_wp2
    go_ret
    exact ⟨_, rfl, HS.out, HB.out⟩
theorem kept_or {v u : Value} (h : v.ownBlock = u.ownBlock → u.ownBlock = none) : v.ownBlock = none ∨ v.ownBlock ≠ u.ownBlock := by
  by_cases e : v.ownBlock = u.ownBlock
  · exact .inl (e.trans (h e))
  · exact .inr e
theorem rrows_nil (w : World) : Calls Try.prog 50 #[.pointer none] w fun e w' => e = .returned (.tuple #[.slice none 0 0, .slice none 0 0]) ∧ w = w' := by
  go_enter Try.func50, Try.ntmps50
  go_wp2
  go_ret2
  exact ⟨rfl, rfl⟩
set_option maxRecDepth 100000 in
set_option maxHeartbeats 4000000 in
theorem rrows_walk (rb N : Nat) (es : Edges) (w : World) (hg : IsR w (some ⟨rb, 0, none⟩) (N : Int) es) :
    Calls Try.prog 50 #[.pointer (some ⟨rb, 0, none⟩)] w fun e w' => ∃ u v, e = .returned (.tuple #[u, v]) ∧ Sees w' u (begins es (N + 1)) ∧ Sees w' v (cols es N) ∧ Below w.heap.size w w' := by
  have HG := hidI hg
  rcases hg with ⟨h, _⟩ | ⟨rb', v, h, h1, h2, h3, hgd, c0, c1, hse⟩
  · cases h
  cases h
  obtain ⟨ea, ecap, rfl, _⟩ := hse
  clear hgd
  have hgw : rb < w.heap.size := World.block_lt_of_cell? w _ c0
  obtain ⟨m, hm⟩ : ∃ m, es.length = m := ⟨_, rfl⟩
  rw [hm] at h3 c1
  have HM := hidI hm
  clear hm
  go_enter Try.func50, Try.ntmps50
  go_wp2
  go_loopg [4, 5, 6] N (fun g s4 s5 s6 wx => ∃ (i : Nat), i + g = N ∧ s6 = .int .i64 i ∧ wx.ownsRow w.heap.size 3 1 s4 i ((begins es i).map (Value.int .i64)) ∧ wx.ownsRow w.heap.size 3 1 s5 (cols es i).length ((cols es i).map (Value.int .i64)) ∧ (s4.ownBlock = s5.ownBlock → s4.ownBlock = none) ∧ Below w.heap.size w wx ∧ w.heap.size ≤ wx.heap.size)
  case atStart => exact ⟨0, by omega, rfl, World.ownsRow_nil _ _ _ _, World.ownsRow_nil _ _ _ _, fun _ => rfl, Below.refl _ _, Nat.le_refl _⟩
  case round =>
    obtain ⟨i, hig, rfl, ho4, ho5, hn45, hbl, hsz⟩ := hrel
    obtain ⟨a5, c5, rfl⟩ := own_shape ho5
    have hcl := cols_length es i
    have hcl2 : i * es.length ≤ 12 * 30 := Nat.mul_le_mul (by omega) (by have := HM.out; omega)
    obtain ⟨L, hL⟩ : ∃ L, (cols es i).length = L := ⟨_, rfl⟩
    rw [hL] at ho5 hcl hn45 ⊢
    have d0 : wr.cell? ⟨rb, 0, none⟩ = some (.int .i64 N) := (hbl.cell (p := ⟨rb, 0, none⟩) hgw).trans c0
    have hL2 : L ≤ 360 := by omega
    have hs1 := sees_one wr (L : Int) 3
    have own4 : (wr.alloc (.cells #[.int .i64 (L : Int)] 3)).ownsRow w.heap.size 3 1 u4 i ((begins es i).map (Value.int .i64)) := ho4.alloc _
    have HO4 := hidI own4
    have HO5 := hidI ho5
    have HS1 := hidI hs1
    have HB := hidI hbl
    have HN := hidI hn45
    have HL := hidI hL
    have hsz' : w.heap.size ≤ (wr.alloc (.cells #[.int .i64 (L : Int)] 3)).heap.size := by simp; omega
    have HSZ := hidI hsz'
    have hlt4 : ∀ k, u4.ownBlock = some k → w.heap.size ≤ k ∧ k < wr.heap.size := fun k hk => ho4.lt k hk
    have hlt5 : ∀ k, (Value.slice a5 L c5).ownBlock = some k → w.heap.size ≤ k ∧ k < wr.heap.size := fun k hk => ho5.lt k hk
    have H4L := hidI hlt4
    have H5L := hidI hlt5
    clear ho4 own4 ho5 hs1 hbl hn45 hL hsz' hcl hcl2 hlt4 hlt5
    cases gk with
    | zero =>
      have hil : i = N := by omega
      subst hil
      go_wp2_with (at_builtin; refine wpList_append_sees rfl _ _ rfl w.heap.size u4 i _ rfl HO4.out _ [(L : Int)] rfl HS1.out (by simp; omega) HSZ.out ?_; intro v' w1 hown' hgrow' hat')
      go_ret2
      refine ⟨_, _, rfl, sees_of_owns (base := w.heap.size) (e := 3) ?_, ?_, ?_⟩
      · rw [begins_length, begins_succ, HL.out]; simpa using hown'
      · have := (HO5.out.alloc (.cells #[.int .i64 (L : Int)] 3)).kept hgrow' (kept_or (fun e => HN.out e.symm))
        exact sees_of_owns (zs := cols es i) (by rw [HL.out]; exact this)
      · have h5 := HB.out.size
        exact (HB.out.alloc h5 _).grown hgrow' (by simp; omega) (fun k hk => (H4L.out k hk).1)
    | succ g =>
      go_wp2_with (at_builtin; refine wpList_append_sees rfl _ _ rfl w.heap.size u4 i _ rfl HO4.out _ [(L : Int)] rfl HS1.out (by simp; omega) HSZ.out ?_; intro v' w1 hown' hgrow' hat'; refine Hid.out ?_)
      refine hidI ?_
      have h5 := HB.out.size
      have b1 : Below w.heap.size w w1 := (HB.out.alloc h5 _).grown hgrow' (by simp; omega) (fun k hk => (H4L.out k hk).1)
      have s1 : wr.heap.size < w1.heap.size := by have := hgrow'.size; simp at this; omega
      have o5 := (HO5.out.alloc (.cells #[.int .i64 (L : Int)] 3)).kept hgrow' (kept_or (fun e => HN.out e.symm))
      have n1 : v'.ownBlock = (Value.slice a5 L c5).ownBlock → v'.ownBlock = none := fun e => by
        rcases hat' with h | h
        · rw [h]; exact HN.out (h ▸ e)
        · rw [h] at e
          have := (H5L.out _ e.symm).2
          simp at this; omega
      have o4 : w1.ownsRow w.heap.size 3 1 v' (i + 1) ((begins es (i + 1)).map (Value.int .i64)) := by
        rw [begins_succ, HL.out]; simpa using hown'
      have C := hidI (rout_any (some ⟨rb, 0, none⟩) N (i : Int) es w1 (HG.out.below b1 (Nat.le_refl _)))
      have O4 := hidI o4
      have O5 := hidI o5
      have N1 := hidI n1
      have B1 := hidI b1
      have sw1 : w.heap.size ≤ w1.heap.size := by omega
      clear HO4 HO5 HS1 HN HSZ H4L H5L HB hown' hgrow' hat' b1 o5 n1 o4 h5
      go_wp2_with (go_at_call 41; refine Calls.mono C.out ?_; rintro e w2 ⟨u, rfl, hu, hb2⟩; refine Hid.out ?_)
      refine hidI ?_
      clear C
      have hpl := places_length es (i : Int) false
      have p4 := hidI (own_below O4.out hb2)
      have p5 := hidI (own_below O5.out hb2)
      have sw2 : w.heap.size ≤ w2.heap.size := by have := hb2.size; omega
      have B2 := hidI (B1.out.trans (hb2.mono sw1))
      have HU := hidI hu
      have hn : L + (places es (i : Int) false).length ≤ 1000000 := by have := HM.out; omega
      have HN2 := hidI hn
      clear O4 O5 B1 hb2 hu hpl hn
      go_wp2_with (at_builtin; refine wpList_append_sees rfl _ _ rfl w.heap.size _ L _ rfl p5.out u _ rfl HU.out HN2.out sw2 ?_; intro v3 w3 hown3 hgrow3 hat3)
      have hc3 : (cols es (i + 1)).length = L + (places es (i : Int) false).length := by rw [cols_succ, List.length_append, HL.out]
      go_roundg g
      case measure => omega
      case rel =>
        refine ⟨i + 1, by omega, by go_num, p4.out.kept hgrow3 (kept_or (fun e => (Eq.symm e).trans (N1.out e))), ?_, ?_, ?_, ?_⟩
        · rw [hc3, cols_succ]; simpa using hown3
        · intro e
          rcases hat3 with h | h
          · rw [h] at e; exact N1.out e
          · rw [h] at e
            have := (p4.out.lt _ e).2
            omega
        · have h6 := B2.out.size
          exact B2.out.grown hgrow3 (by omega) (fun k hk => (p5.out.lt k hk).1)
        · have := hgrow3.size; omega
theorem rrows_any (rp : Option Addr) (N : Nat) (es : Edges) (w : World) (hg : IsR w rp (N : Int) es) :
    Calls Try.prog 50 #[.pointer rp] w fun e w' => ∃ u v, e = .returned (.tuple #[u, v]) ∧ Sees w' u (if rp = none then [] else begins es (N + 1)) ∧ Sees w' v (cols es N) ∧ Below w.heap.size w w' := by
  rcases id hg with ⟨rfl, h0, rfl⟩ | ⟨rb, v, rfl, _⟩
  · obtain rfl : N = 0 := by omega
    refine (rrows_nil w).mono ?_
    rintro e w' ⟨rfl, rfl⟩
    exact ⟨_, _, rfl, ⟨none, 0, rfl, .inl rfl⟩, ⟨none, 0, rfl, .inl rfl⟩, Below.refl _ _⟩
  · exact rrows_walk rb N es w hg
end Go.Proofs.Ytbjoljokdjgbnaa
