/-
  Batches: acts in rows none of which hangs on the order.
-/
import Derived.Test.YtffdgjlojechaaaRowsL
namespace Go.Proofs.Ytffdgjlojechaaa
open Go.RowKit Go.Deep Go.MapKept
open Go.ChangeMaps (setBlock)
theorem setCell_self {w : World} {b i : Nat} {v : Value} (h : w.cell? ⟨b, i, none⟩ = some v) : w.setCell ⟨b, i, none⟩ v = w := by
  cases hb : w.heap[b]? with
  | none => simp [World.cell?, hb] at h
  | some o =>
    cases o with
    | cells cs t fr =>
      have hc : cs[i]? = some v := by simpa [World.cell?, hb] using h
      have hlt := (Array.getElem?_eq_some_iff.1 hb).1
      have hset : cs.setIfInBounds i v = cs := by
        apply Array.ext_getElem?
        intro j
        rw [Array.getElem?_setIfInBounds]
        split
        · rename_i hij; subst hij; split
          · exact hc.symm
          · rename_i hn; rw [Array.getElem?_eq_none (by omega)]
        · rfl
      have hheap : (w.setCell ⟨b, i, none⟩ v).heap = w.heap := by
        apply Array.ext_getElem?
        intro j
        by_cases hj : j = b
        · subst hj
          have := Joins.block_setCell hb (i := i) v
          rw [this, hset, hb]
        · exact Below.heap_setCell w ⟨b, i, none⟩ v j hj
      cases w
      simp only [World.setCell] at hheap ⊢
      rw [hheap]
    | _ => simp [World.cell?, hb] at h
theorem sb_frozen {u : World} {b n i : Nat} {o : Obj} (h : n ≠ b) : (setBlock u b o).frozen? ⟨n, i, none⟩ = u.frozen? ⟨n, i, none⟩ := World.frozen?_of_block (by simp [setBlock, Ne.symm h])
theorem own_free {w : World} {base e size n g cap : Nat} {xs : List Value} (h : w.ownsRow base e size (.slice (some ⟨g, 0, none⟩) n cap) n xs) (j : Nat) : w.frozen? ⟨g, j, none⟩ = false := by
  rcases h.2 with ⟨h0, _⟩ | ⟨g', cap', cur, he, _, hh, _⟩
  · cases h0
  · simp only [Value.slice.injEq, Option.some.injEq, Addr.mk.injEq, and_true, true_and] at he
    obtain ⟨rfl, rfl⟩ := he
    simp [World.frozen?, hh]
theorem nil_seen {W : World} : SeesC (W.alloc (.cells #[.slice none 0 0] 22)) (.slice (some ⟨W.heap.size, 0, none⟩) 1 1) 1 1 [.slice none 0 0] := by
  refine ⟨rfl, _, 1, rfl, .inr ⟨W.heap.size, 0, rfl, fun j c hc => ?_⟩⟩
  have hj := (List.getElem?_eq_some_iff.1 hc).1
  obtain rfl : j = 0 := by simpa using hj
  obtain rfl : Value.slice none 0 0 = c := by simpa using hc
  go_simp
theorem own_other {w : World} {base e size n : Nat} {v : Value} {xs : List Value} {mb : Nat} {o : Obj} (h : w.ownsRow base e size v n xs) (hne : v.ownBlock ≠ some mb) : (setBlock w mb o).ownsRow base e size v n xs := by
  refine ⟨h.1, ?_⟩
  rcases h.2 with h0 | ⟨g, cap, cur, rfl, hb, hh, r⟩
  · exact .inl h0
  · have : mb ≠ g := fun e => hne (by rw [e]; rfl)
    exact .inr ⟨g, cap, cur, rfl, hb, by simp [setBlock, this, hh], r⟩
theorem rows_map {w : World} {base : Nat} {v : Value} {rows : List (List Deed)} {vs : List Value} {mb : Nat} {f : Fn} {o : Obj} (h : RowsAt w base v rows vs) (hm : MapD w mb f) : RowsAt (setBlock w mb o) base v rows vs :=
  ⟨own_other h.own (own_map h.own hm), fun j r u hr hu => own_other (h.each j r u hr hu) (own_map (h.each j r u hr hu) hm), h.apart⟩
/-- What holds between two acts. -/
def BInv (w wx : World) (xs : List Deed) (RES : List (List Deed)) (i : Nat) (v3 : Value) (mb n3 : Nat) : Prop :=
  ∃ rows vs f, RowsAt wx w.heap.size v3 rows vs ∧ rows.length = n3 ∧ MapD wx mb f ∧ w.heap.size ≤ mb ∧ n3 ≤ i ∧ (∀ r ∈ rows, r.length ≤ i) ∧ batch rows f (xs.drop i) = RES ∧ Below w.heap.size w wx
/-- What holds where an act's row is there. -/
def Prep (w wq : World) (xs : List Deed) (RES : List (List Deed)) (i : Nat) (x : Deed) (ab : Nat) (vq : Value) (mq last : Nat) : Prop :=
  ∃ rq vsq fq, RowsAt wq w.heap.size vq rq vsq ∧ rq.length = last + 1 ∧ MapD wq mq fq ∧ w.heap.size ≤ mq ∧ last ≤ i ∧ (∀ r ∈ rq, r.length ≤ i) ∧ batch (addTo rq x) (upd fq x.s x.does) (xs.drop (i + 1)) = RES ∧ Below w.heap.size w wq ∧
    (wq.cell? ⟨ab, 0, none⟩ = some (.int .u8 x.k) ∧ wq.cell? ⟨ab, 1, none⟩ = some (.string x.s) ∧ wq.cell? ⟨ab, 2, none⟩ = some (.int .u8 x.o) ∧ wq.cell? ⟨ab, 3, none⟩ = some (.bool x.i) ∧ wq.cell? ⟨ab, 4, none⟩ = some (.int .i64 x.e) ∧ wq.cell? ⟨ab, 5, none⟩ = some (.int .i64 x.c)) ∧ ab < wq.heap.size ∧ wq.frozen? ⟨ab, 1, none⟩ = false ∧ w.heap.size ≤ ab ∧ ∀ (j : Nat) (u : Value), vsq[j]? = some u → u.ownBlock ≠ some ab
set_option maxRecDepth 100000 in
set_option maxHeartbeats 2000000 in
theorem batches_any (w : World) (v : Value) (xs : List Deed) (hv : SeesA w v xs) (hok : okA xs) (hlen : xs.length ≤ 900) :
    Calls Try.prog 15 #[v] w fun e w' => ∃ v' vs, e = .returned v' ∧ RowsAt w' w.heap.size v' (batch [] none' xs) vs ∧ Below w.heap.size w w' := by
  obtain ⟨a, cap, rfl, hL⟩ := hv
  have HL := hidI hL
  have HO := hidI hok
  obtain ⟨k, hk⟩ : ∃ k, xs.length = k := ⟨_, rfl⟩
  have HK := hidI hk
  rw [hk] at hlen ⊢
  obtain ⟨RES, hRES⟩ : ∃ RES, batch [] none' xs = RES := ⟨_, rfl⟩
  have HRES0 := hidI hRES
  rw [hRES]
  clear hL hok hk hRES
  have hmm := @run_makeMap Try.prog
  have HB0 := hidI ((Below.refl w.heap.size w).alloc (Nat.le_refl _) (.map #[] 0))
  have HM0 := hidI (mapD_made w)
  go_enter Try.func15, Try.ntmps15
  go_wp2
  go_loopg [3, 4, 11] k (fun g s3 s4 s11 wx => ∃ (i : Nat) (a3 : Option Addr) (n3 c3 mb : Nat), i + g = k ∧ s3 = .slice a3 n3 c3 ∧ s4 = .map (some mb) ∧ s11 = .int .i64 i ∧ Hid (BInv w wx xs RES i (.slice a3 n3 c3) mb n3))
  case atStart => exact ⟨0, none, 0, 0, _, by omega, rfl, rfl, rfl, hidI ⟨[], [], none', rowsAt_nil _ _, rfl, HM0.out, Nat.le_refl _, Nat.le_refl _, by simp, by simpa using HRES0.out, HB0.out⟩⟩
  case round =>
    obtain ⟨i, a3, n3, c3, mb, hig, rfl, rfl, rfl, HX⟩ := hrel
    cases gk with
    | zero =>
      obtain rfl : k = i := by omega
      have k1 : decide ((k : Int) < (k : Int)) = false := by simp
      go_wp2
      go_ret
      obtain ⟨rows, vs, f, h1, h2, h3, h4, h5, h6, h7, h8⟩ := HX.out
      rw [List.drop_eq_nil_of_le (by have := HK.out; omega)] at h7
      exact ⟨_, vs, rfl, by rw [← h7]; exact h1, h8⟩
    | succ g =>
      have k1 : (i : Int) < (k : Int) := by omega
      obtain ⟨x, hx⟩ : ∃ x, xs[i]? = some x := ⟨_, List.getElem?_eq_getElem (by have := HK.out; omega)⟩
      have HXL := hidI (HO.out x (List.mem_of_getElem? hx))
      have hxs : x.s.size ≤ maxLen := by have := HXL.out; unfold maxLen; omega
      rcases HL.out with hnil | ⟨b, off, rfl, hlie⟩
      · subst hnil; simp at hx
      obtain ⟨rows, vs, f, hR, hl3, hM, hmb, hn3, hrow3, hres, hbel⟩ := HX.out
      have hbs := hbel.size
      have kk : ∀ {p : Addr} {v : Value}, w.cell? p = some v → wr.cell? p = some v := fun {p v} hc => (hbel.cell (World.block_lt_of_cell? w _ hc)).trans hc
      obtain ⟨c0, c1, c2, c3', c4, c5⟩ := hlie i x hx
      replace c0 := kk c0
      replace c1 := kk c1
      replace c2 := kk c2
      replace c3' := kk c3'
      replace c4 := kk c4
      replace c5 := kk c5
      have hdrop : xs.drop i = x :: xs.drop (i + 1) := by
        rw [List.drop_eq_getElem_cons (by have := HK.out; omega)]
        congr 1
        exact Option.some.inj ((List.getElem?_eq_getElem _).symm.trans hx)
      rw [hdrop] at hres
      have HFX := hidI hres
      have HROW3 := hidI hrow3
      have HL3 := hidI hl3
      obtain ⟨ab, hab⟩ : ∃ ab, wr.heap.size = ab := ⟨_, rfl⟩
      have HNR : Hid ((Value.slice a3 n3 c3).ownBlock ≠ some ab) := hidI fun e => by have := (hR.own.lt ab e).2; omega
      have HNU : Hid (∀ (j : Nat) (u : Value), vs[j]? = some u → u.ownBlock ≠ some ab) := hidI fun j u hu e => by
        obtain ⟨r, hr⟩ : ∃ r, rows[j]? = some r := ⟨_, List.getElem?_eq_getElem (by have := (List.getElem?_eq_some_iff.1 hu).1; have := hR.len; omega)⟩
        have := ((hR.each j r u hr hu).lt ab e).2
        omega
      obtain ⟨W, hW⟩ : ∃ W, wr.alloc (.cells #[.int .u8 x.k, .string x.s, .int .u8 x.o, .bool x.i, .int .i64 x.e, .int .i64 x.c] 39) = W := ⟨_, rfl⟩
      have hWb : Below wr.heap.size wr W := by subst hW; (repeat (first | exact Below.refl _ _ | assumption | refine Below.drew ?_ | refine Below.alloc ?_ (by first | omega | (simp; done) | (simp; omega)) _ | refine Below.setCell ?_ (by first | omega | (simp; done) | (simp; omega)) _))
      have hWs : ab < W.heap.size := by subst hW; simp; omega
      have hCW : W.cell? ⟨ab, 0, none⟩ = some (.int .u8 x.k) ∧ W.cell? ⟨ab, 1, none⟩ = some (.string x.s) ∧ W.cell? ⟨ab, 2, none⟩ = some (.int .u8 x.o) ∧ W.cell? ⟨ab, 3, none⟩ = some (.bool x.i) ∧ W.cell? ⟨ab, 4, none⟩ = some (.int .i64 x.e) ∧ W.cell? ⟨ab, 5, none⟩ = some (.int .i64 x.c) := by subst hW hab; exact ⟨by go_simp, by go_simp, by go_simp, by go_simp, by go_simp, by go_simp⟩
      have hFW : W.frozen? ⟨ab, 1, none⟩ = false := by subst hW hab; go_simp
      have hRW := hR.below hWb (Nat.le_refl _)
      have hMW := hM.same (hWb.block mb hM.lt)
      have hbW := hbel.trans (hWb.mono hbs)
      have hwab : w.heap.size ≤ ab := by omega
      have e0 := hCW.1
      have e1 := hCW.2.1
      have e2 := hCW.2.2.1
      have e3 := hCW.2.2.2.1
      have e4 := hCW.2.2.2.2.1
      have e5 := hCW.2.2.2.2.2
      have HCW := hidI hCW
      have HFW := hidI hFW
      have HRW := hidI hRW
      have HMW := hidI hMW
      have HBW := hidI hbW
      have C := hidI (clash_any x W mb f hMW hxs)
      clear hlie kk hdrop hres hM hx hWb hMW hRW hbW hCW hFW hR hrow3 HX
      by_cases h0 : n3 = 0
      · subst h0
        have HNEW : Hid (newRow rows f x = true) := hidI (by unfold newRow; rw [HL3.out]; rfl)
        have HRZ := HRW
        have HBZ := HBW
        have HCZ := HCW
        have HFZ := HFW
        have habz : ab < W.heap.size := by omega
        clear HRW HBW HCW HFW HMW C
        have hlen3 := HRZ.out.own
        obtain ⟨wz1, hwz1⟩ : ∃ wz1, W.alloc (.cells #[.slice none 0 0] 22) = wz1 := ⟨_, rfl⟩
        have hz1 : Below W.heap.size W wz1 := by rw [← hwz1]; (repeat (first | exact Below.refl _ _ | assumption | refine Below.drew ?_ | refine Below.alloc ?_ (by first | omega | (simp; done) | (simp; omega)) _ | refine Below.setCell ?_ (by first | omega | (simp; done) | (simp; omega)) _))
        have HO4 : Hid (wz1.ownsRow w.heap.size 22 1 (.slice a3 0 c3) 0 vs) := hidI (by have := own_below HRZ.out.own hz1 (Nat.le_refl _); rwa [HL3.out] at this)
        have HV4 : Hid (SeesC wz1 (.slice (some ⟨W.heap.size, 0, none⟩) 1 1) 1 1 [.slice none 0 0]) := hidI (by rw [← hwz1]; exact nil_seen)
        have hsz1 : W.heap.size + 1 ≤ wz1.heap.size := by rw [← hwz1]; simp
        have HZ1 := hidI hz1
        have hbz := HBZ.out.size
        clear hz1 hlen3
        go_wp2_with (at_builtin; go_must (refine wpList_append_any Try.underlying32 Try.info22 rfl (by decide) (by decide) rfl _ _ rfl w.heap.size _ 0 _ rfl HO4.out _ 1 [.slice none 0 0] rfl HV4.out (by simp [Value.oneCell']) (by omega) (by omega) ?_); intro vq w9 hown9 hgrow9 hat9; refine Hid.out ?_)
        refine hidI ?_
        have HM9 := hidI (mapD_made w9)
        have h9s := hgrow9.size
        have hA9 : Below w9.heap.size w9 (w9.alloc (.map #[] 0)) := by (repeat (first | exact Below.refl _ _ | assumption | refine Below.drew ?_ | refine Below.alloc ?_ (by first | omega | (simp; done) | (simp; omega)) _ | refine Below.setCell ?_ (by first | omega | (simp; done) | (simp; omega)) _))
        have HPREP : Hid (Prep w (w9.alloc (.map #[] 0)) xs RES i x ab vq w9.heap.size 0) := hidI (by
          have hR1 : RowsAt wz1 w.heap.size (.slice a3 0 c3) rows vs := HRZ.out.below HZ1.out (Nat.le_refl _)
          have hR9 := hR1.push (by rw [HL3.out]; exact hown9) hgrow9
          have hb9 : Below w.heap.size w w9 := (HBZ.out.trans (HZ1.out.mono hbz)).grown hgrow9 (by omega) (fun k hk => (hR1.own.lt k hk).1)
          have hne9 : (Value.slice a3 0 c3).ownBlock ≠ some ab := HNR.out
          have kc : ∀ {p : Addr} {v : Value}, W.cell? p = some v → p.block = ab → w9.cell? p = some v := fun {p v} hc hp => hgrow9.cell ((HZ1.out.cell (World.block_lt_of_cell? W _ hc)).trans hc) (by rw [hp]; exact fun e => hne9 e.symm)
          refine ⟨rows ++ [[]], vs ++ [.slice none 0 0], none', hR9.below hA9 (Nat.le_refl _), by rw [List.length_append, HL3.out]; rfl, HM9.out, by have := hb9.size; omega, by omega, fun r2 hr2 => ?_, ?_, hb9.trans (hA9.mono hb9.size), ?_, by simp; omega, ?_, hwab, fun j u2 hu2 => ?_⟩
          · rcases List.mem_append.1 hr2 with h | h
            · exact HROW3.out r2 h
            · rw [List.mem_singleton] at h; subst h; exact Nat.zero_le _
          · rw [← HFX.out, batch, if_pos HNEW.out]
          · obtain ⟨z0, z1, z2, z3, z4, z5⟩ := HCZ.out
            have k9 : ∀ {p : Addr} {v : Value}, w9.cell? p = some v → (w9.alloc (.map #[] 0)).cell? p = some v := fun {p v} hc => (hA9.cell (World.block_lt_of_cell? w9 _ hc)).trans hc
            exact ⟨k9 (kc z0 rfl), k9 (kc z1 rfl), k9 (kc z2 rfl), k9 (kc z3 rfl), k9 (kc z4 rfl), k9 (kc z5 rfl)⟩
          · have h1 : wz1.frozen? ⟨ab, 1, none⟩ = false := (HZ1.out.frozen (p := ⟨ab, 1, none⟩) habz).trans HFZ.out
            have h2 : w9.frozen? ⟨ab, 1, none⟩ = false := (World.frozen?_of_block (w := wz1) (a := ⟨ab, 1, none⟩) (hgrow9.block ab (by omega) (fun e => hne9 e.symm))).trans h1
            exact (hA9.frozen (p := ⟨ab, 1, none⟩) (by simp only; omega)).trans h2
          · by_cases hj : j < vs.length
            · rw [List.getElem?_append_left hj] at hu2
              exact HNU.out j u2 hu2
            · have hjl := (List.getElem?_eq_some_iff.1 hu2).1
              simp only [List.length_append, List.length_cons, List.length_nil] at hjl
              rw [show j = vs.length by omega, List.getElem?_append_right (Nat.le_refl _)] at hu2
              simp at hu2
              subst hu2
              exact fun e => by cases e)
        clear hown9 hgrow9 hat9 hA9 HO4 HV4 HZ1 HRZ HBZ HCZ HFZ HNU HNEW HFX HM9 HROW3 HL3 HNR hwz1
        go_wp2
        obtain ⟨wq, hwq⟩ : ∃ wq, w9.alloc (.map #[] 0) = wq := ⟨_, rfl⟩
        obtain ⟨mq, hmq0⟩ : ∃ mq, w9.heap.size = mq := ⟨_, rfl⟩
        try rw [hwq, hmq0] at HPREP
        try rw [hwq] 
        try rw [hmq0]
        clear hwq hmq0
        replace HPREP : ∃ last, Hid (Prep w wq xs RES i x ab vq mq last) := ⟨_, HPREP⟩
        obtain ⟨last, HPREP⟩ := HPREP
        obtain ⟨rq, vsq, fq, hRq, hlenq, hMq, hmq, hiq, hrowsq, hresq, hbq, hcq, habq, hfrq, hwab, hnab⟩ := HPREP.out
        have hown := hRq.own
        rw [hlenq] at hown
        obtain ⟨gq, capq, hvq⟩ : ∃ gq capq, vq = .slice (some ⟨gq, 0, none⟩) (last + 1) capq := by
          rcases hown.2 with ⟨_, h0⟩ | ⟨g1, cap1, _, h1, _⟩
          · omega
          · exact ⟨_, _, h1⟩
        subst hvq
        obtain ⟨r, hr⟩ : ∃ r, rq[last]? = some r := ⟨_, List.getElem?_eq_getElem (by omega)⟩
        obtain ⟨u, hu⟩ : ∃ u, vsq[last]? = some u := ⟨_, List.getElem?_eq_getElem (by have := hRq.len; omega)⟩
        have hr6 : r.length ≤ 1000 := Nat.le_trans (hrowsq r (List.mem_of_getElem? hr)) (by omega)
        obtain ⟨a0, a1, a2, a3, a4, a5⟩ := hcq
        have hmlt := hMq.lt
        have hble := hbq.size
        obtain ⟨o, s1, s2, s3⟩ := store hMq hxs x.does
        have D : ∀ w' : World, Below wq.heap.size wq w' → ∀ {j : Nat} {v : Value}, wq.cell? ⟨ab, j, none⟩ = some v → w'.cell? ⟨ab, j, none⟩ = some v := fun w' hw' {j v} h => (hw'.cell (p := ⟨ab, j, none⟩) habq).trans h
        have A0 : Hid (∀ w' : World, Below wq.heap.size wq w' → w'.cell? ⟨ab, 0, none⟩ = some (.int .u8 x.k)) := hidI fun w' hw' => D w' hw' a0
        have A1 : Hid (∀ w' : World, Below wq.heap.size wq w' → w'.cell? ⟨ab, 1, none⟩ = some (.string x.s)) := hidI fun w' hw' => D w' hw' a1
        have A2 : Hid (∀ w' : World, Below wq.heap.size wq w' → w'.cell? ⟨ab, 2, none⟩ = some (.int .u8 x.o)) := hidI fun w' hw' => D w' hw' a2
        have A3 : Hid (∀ w' : World, Below wq.heap.size wq w' → w'.cell? ⟨ab, 3, none⟩ = some (.bool x.i)) := hidI fun w' hw' => D w' hw' a3
        have A4 : Hid (∀ w' : World, Below wq.heap.size wq w' → w'.cell? ⟨ab, 4, none⟩ = some (.int .i64 x.e)) := hidI fun w' hw' => D w' hw' a4
        have A5 : Hid (∀ w' : World, Below wq.heap.size wq w' → w'.cell? ⟨ab, 5, none⟩ = some (.int .i64 x.c)) := hidI fun w' hw' => D w' hw' a5
        have U : Hid (∀ w' : World, Below wq.heap.size wq w' → (Instr.mapUpdate 44 (.map (some mq)) (.string x.s) (dval x.does)).run Try.prog w' = .ok () (setBlock w' mq o)) := hidI fun w' hw' => s1 w' (hw'.block mq hmlt)
        have VV : Hid (∀ w' : World, w'.heap[mq]? = some o → (Instr.mapUpdate 44 (.map (some mq)) (.string x.s) (dval x.does)).run Try.prog w' = .ok () (setBlock w' mq o)) := hidI s2
        have S3 := hidI s3
        have s0 : Hid (Below wq.heap.size wq wq.drew) := hidI (Below.refl _ _).drew
        have C8 := hidI (deedOf_any x wq.drew)
        have C19 := hidI (clone_any x.s HXL.out)
        have hne : ab ≠ mq := fun e => by
          obtain ⟨es, clock, hb, _⟩ := hMq
          subst e
          simp [World.cell?, hb] at a0
        have HRq := hidI hRq
        have HRES := hidI hresq
        have HBq := hidI hbq
        have HROWS := hidI hrowsq
        have HMap := hidI hMq
        have HR := hidI hr
        have HU := hidI hu
        have HNab := hidI (hnab last u hu)
        have HFR := hidI hfrq
        clear D s1 s2 s3 hRq hMq hresq hbq hrowsq hr hu hown HPREP a0 a1 a2 a3 a4 a5 hnab hfrq
        go_wp2
        go_region_held3 (fun w' => w'.cell? ⟨ab, 0, none⟩ = some (.int .u8 x.k) ∧ w'.cell? ⟨ab, 1, none⟩ = some (.string x.s) ∧ w'.cell? ⟨ab, 2, none⟩ = some (.int .u8 x.o) ∧ w'.cell? ⟨ab, 3, none⟩ = some (.bool x.i) ∧ w'.cell? ⟨ab, 4, none⟩ = some (.int .i64 x.e) ∧ w'.cell? ⟨ab, 5, none⟩ = some (.int .i64 x.c) ∧ (Instr.mapUpdate 44 (.map (some mq)) (.string x.s) (dval x.does)).run Try.prog w' = .ok () (setBlock w' mq o))
          (first | assumption | exact ⟨A0.out _ kk.out, A1.out _ kk.out, A2.out _ kk.out, A3.out _ kk.out, A4.out _ kk.out, A5.out _ kk.out, U.out _ kk.out⟩ | exact ⟨A0.out _ s0.out, A1.out _ s0.out, A2.out _ s0.out, A3.out _ s0.out, A4.out _ s0.out, A5.out _ s0.out, U.out _ s0.out⟩ | exact ⟨(sb_cell hne).trans (A0.out _ kk.out), (sb_cell hne).trans (A1.out _ kk.out), (sb_cell hne).trans (A2.out _ kk.out), (sb_cell hne).trans (A3.out _ kk.out), (sb_cell hne).trans (A4.out _ kk.out), (sb_cell hne).trans (A5.out _ kk.out), VV.out _ (sb_same (by have := kk.out.size; omega))⟩)
          ((go_at_call 18; refine Calls.mono C8.out ?_; rintro e w4 ⟨rfl, hb4⟩; have kk := hidI (s0.out.trans (hb4.mono s0.out.size)); clear hb4))
        all_goals
          have hk4 := kk.out.size
          have HM5 : Hid (MapD (setBlock w4 mq o) mq (upd fq x.s x.does)) := hidI (S3.out _ (sb_same (by omega)))
          have HR5 : Hid (RowsAt (setBlock w4 mq o) w.heap.size (.slice (some ⟨gq, 0, none⟩) (last + 1) capq) rq vsq) := hidI (rows_map (HRq.out.below kk.out (Nat.le_refl _)) (HMap.out.same (kk.out.block mq hmlt)))
          have HB5 : Hid (Below w.heap.size w (setBlock w4 mq o)) := hidI (sb_below (HBq.out.trans (kk.out.mono hble)) hmq)
          have hf5 : (setBlock w4 mq o).frozen? ⟨ab, 1, none⟩ = false := (sb_frozen hne).trans ((kk.out.frozen (p := ⟨ab, 1, none⟩) habq).trans HFR.out)
          have b0 := (sb_cell (o := o) hne).trans (A0.out _ kk.out)
          have b1 := (sb_cell (o := o) hne).trans (A1.out _ kk.out)
          have b2 := (sb_cell (o := o) hne).trans (A2.out _ kk.out)
          have b3 := (sb_cell (o := o) hne).trans (A3.out _ kk.out)
          have b4 := (sb_cell (o := o) hne).trans (A4.out _ kk.out)
          have b5 := (sb_cell (o := o) hne).trans (A5.out _ kk.out)
          have hs5 : w4.heap.size ≤ (setBlock w4 mq o).heap.size := by simp [setBlock]
          obtain ⟨w5, hw5⟩ : ∃ w5, setBlock w4 mq o = w5 := ⟨_, rfl⟩
          rw [hw5] at HM5 HR5 HB5 b0 b1 b2 b3 b4 b5 hs5 hf5 ⊢
          clear hw5 A0 A1 A2 A3 A4 A5 U VV S3 C8 kk s0 HRq HBq HMap HFR
          go_wp2_with (go_at_call 19; refine Calls.mono (C19.out _) ?_; rintro e w6 ⟨rfl, hb6⟩; refine Hid.out ?_)
          refine hidI ?_
          have hs6 := hb6.size
          replace b0 := (hb6.cell (p := ⟨ab, 0, none⟩) (by simp only; omega)).trans b0
          replace b1 := (hb6.cell (p := ⟨ab, 1, none⟩) (by simp only; omega)).trans b1
          replace b2 := (hb6.cell (p := ⟨ab, 2, none⟩) (by simp only; omega)).trans b2
          replace b3 := (hb6.cell (p := ⟨ab, 3, none⟩) (by simp only; omega)).trans b3
          replace b4 := (hb6.cell (p := ⟨ab, 4, none⟩) (by simp only; omega)).trans b4
          replace b5 := (hb6.cell (p := ⟨ab, 5, none⟩) (by simp only; omega)).trans b5
          replace hf5 := (hb6.frozen (p := ⟨ab, 1, none⟩) (by simp only; omega)).trans hf5
          have hset := setCell_self b1
          have HM6 := hidI (HM5.out.same (hb6.block mq (HM5.out.lt)))
          have HR6 := hidI (HR5.out.below hb6 (Nat.le_refl _))
          have hw5s := HB5.out.size
          have HB6 := hidI (HB5.out.trans (hb6.mono hw5s))
          clear hb6 C19 HM5 HR5 HB5
          go_wp2
          have hown6 := HR6.out.own
          rw [hlenq] at hown6
          have hg6 := hown6.lt gq rfl
          have hu6 := HR6.out.each last r u HR.out HU.out
          have hcl : w6.cell? ⟨gq, last, none⟩ = some u := by
            have := World.ownsRow.cells hown6 rfl last u HU.out
            rw [show (⟨gq, 0, none⟩ : Addr).add last = ⟨gq, 0 + last, none⟩ from Addr.add_lit .., Nat.zero_add] at this
            exact this
          have hfz : w6.frozen? ⟨gq, last, none⟩ = false := own_free hown6 last
          have hw6s := HB6.out.size
          refine reg12 (r := r) (x := x) (base := w.heap.size) (u := u) ⟨hcl, b0, b1, b2, b3, b4, b5⟩ hfz (own_below hu6 (Below.refl _ _).drew (Nat.le_refl _)) hr6 hw6s (by omega) (own_ne hown6 hu6 (by decide) rfl) HNab.out hg6.2 (fun _ _ _ _ _ h => h) ?_
          intro W5 u' t46 t47 t48 t49 t50 t51 t52 t53 t54 t55 t56 t57 t58 t59 hgr hown5 hat5
          have hA : Below w6.heap.size w6 (w6.drew.alloc (.cells #[.int .u8 x.k, .string x.s, .int .u8 x.o, .bool x.i, .int .i64 x.e, .int .i64 x.c] 39)) := by (repeat (first | exact Below.refl _ _ | assumption | refine Below.drew ?_ | refine Below.alloc ?_ (by first | omega | (simp; done) | (simp; omega)) _ | refine Below.setCell ?_ (by first | omega | (simp; done) | (simp; omega)) _))
          have HF : Hid (BInv w (W5.setCell ⟨gq, last, none⟩ u') xs RES (i + 1) (.slice (some ⟨gq, 0, none⟩) (last + 1) capq) mq (last + 1)) := hidI (by
            refine ⟨rq.set last (r ++ [x]), vsq.set last u', upd fq x.s x.does, HR6.out.add hlenq HR.out HU.out hA hgr hown5 hat5, by rw [List.length_set]; exact hlenq, ?_, hmq, by omega, fun r2 hr2 => ?_, ?_, ?_⟩
            · have hm1 := HM6.out.same (hA.block mq HM6.out.lt)
              have hm2 := hm1.grown hgr (own_map (own_below hu6 hA (Nat.le_refl _)) hm1)
              exact hm2.same (Below.heap_setCell _ _ _ _ (fun e => own_map hown6 HM6.out (by simp only at e; rw [e]; rfl)))
            · rcases List.mem_or_eq_of_mem_set hr2 with h | rfl
              · exact Nat.le_succ_of_le (HROWS.out r2 h)
              · rw [List.length_append]; exact Nat.succ_le_succ (HROWS.out r (List.mem_of_getElem? HR.out))
            · rw [← HRES.out]
              unfold addTo
              rw [hlenq, Nat.add_sub_cancel, List.getD_eq_getElem?_getD, HR.out]
              rfl
            · refine Below.setCell ?_ hg6.1 _
              exact (HB6.out.trans (hA.mono hw6s)).grown hgr (by have := hA.size; omega) (fun k hk => (hu6.lt k hk).1))
          have HGR := hidI hgr
          clear hgr hown5 hat5 hA hown6 hu6 hcl hfz hset b0 b1 b2 b3 b4 b5
          go_wp2
          go_roundg g
          case measure => omega
          case rel => exact ⟨i + 1, _, _, _, mq, by omega, rfl, rfl, by go_num, HF⟩
      · obtain ⟨l0, rfl⟩ : ∃ l0, n3 = l0 + 1 := ⟨n3 - 1, by omega⟩
        have hown3 := HRW.out.own
        rw [HL3.out] at hown3
        obtain ⟨g3, rfl⟩ : ∃ g3, a3 = some ⟨g3, 0, none⟩ := by
          rcases hown3.2 with ⟨_, h0⟩ | ⟨g1, cap1, _, h1, _⟩
          · omega
          · simp only [Value.slice.injEq] at h1
            exact ⟨g1, h1.1⟩
        obtain ⟨r, hr⟩ : ∃ r, rows[l0]? = some r := ⟨_, List.getElem?_eq_getElem (by have := HL3.out; omega)⟩
        obtain ⟨u, hu⟩ : ∃ u, vs[l0]? = some u := ⟨_, List.getElem?_eq_getElem (by have := HRW.out.len; have := HL3.out; omega)⟩
        have hcl : W.cell? ⟨g3, l0, none⟩ = some u := by
          have := World.ownsRow.cells hown3 rfl l0 u hu
          rw [show (⟨g3, 0, none⟩ : Addr).add l0 = ⟨g3, 0 + l0, none⟩ from Addr.add_lit .., Nat.zero_add] at this
          exact this
        obtain ⟨ua, uc, rfl⟩ : ∃ ua uc, u = .slice ua r.length uc := by
          have := HRW.out.each l0 r u hr hu
          rcases this.2 with ⟨rfl, h0⟩ | ⟨_, _, _, rfl, _⟩
          · exact ⟨none, 0, by rw [h0]⟩
          · exact ⟨_, _, rfl⟩
        have HGD : Hid (rows.getD (rows.length - 1) [] = r) := hidI (by rw [HL3.out, Nat.add_sub_cancel, List.getD_eq_getElem?_getD, hr]; rfl)
        have HLN : Hid (decide (rows.length = 0) = false) := hidI (by rw [HL3.out]; simp)
        have j1 : ((l0 + 1 : Nat) : Int) - 1 = (l0 : Int) := by omega
        have j1' : (l0 : Int) + 1 - 1 = (l0 : Int) := by omega
        have jw : IntKind.i64.wrap (l0 : Int) = (l0 : Int) := by simp [IntKind.wrap, IntKind.bits, IntKind.signed]; omega
        have j2 : (l0 : Int) < ((l0 + 1 : Nat) : Int) := by omega
        have j2' : (l0 : Int) < (l0 : Int) + 1 := by omega
        have j3 : decide ((l0 : Int) < 0) = false := by simp
        clear hown3 hr hu h0
        by_cases h6 : r.length = 6
        · rw [h6] at hcl
          have HNEW : Hid (newRow rows f x = true) := hidI (by unfold newRow; rw [HGD.out, h6]; simp)
          have HRZ := HRW
          have HBZ := HBW
          have HCZ := HCW
          have HFZ := HFW
          have habz : ab < W.heap.size := by omega
          clear HRW HBW HCW HFW HMW C h6
          have hlen3 := HRZ.out.own
          obtain ⟨wz1, hwz1⟩ : ∃ wz1, W.alloc (.cells #[.slice none 0 0] 22) = wz1 := ⟨_, rfl⟩
          have hz1 : Below W.heap.size W wz1 := by rw [← hwz1]; (repeat (first | exact Below.refl _ _ | assumption | refine Below.drew ?_ | refine Below.alloc ?_ (by first | omega | (simp; done) | (simp; omega)) _ | refine Below.setCell ?_ (by first | omega | (simp; done) | (simp; omega)) _))
          have HO4 : Hid (wz1.ownsRow w.heap.size 22 1 (.slice (some ⟨g3, 0, none⟩) (l0 + 1) c3) (l0 + 1) vs) := hidI (by have := own_below HRZ.out.own hz1 (Nat.le_refl _); rwa [HL3.out] at this)
          have HV4 : Hid (SeesC wz1 (.slice (some ⟨W.heap.size, 0, none⟩) 1 1) 1 1 [.slice none 0 0]) := hidI (by rw [← hwz1]; exact nil_seen)
          have hsz1 : W.heap.size + 1 ≤ wz1.heap.size := by rw [← hwz1]; simp
          have HZ1 := hidI hz1
          have hbz := HBZ.out.size
          clear hz1 hlen3
          go_wp2_with (at_builtin; go_must (refine wpList_append_any Try.underlying32 Try.info22 rfl (by decide) (by decide) rfl _ _ rfl w.heap.size _ (l0 + 1) _ rfl HO4.out _ 1 [.slice none 0 0] rfl HV4.out (by simp [Value.oneCell']) (by omega) (by omega) ?_); intro vq w9 hown9 hgrow9 hat9; refine Hid.out ?_)
          refine hidI ?_
          have HM9 := hidI (mapD_made w9)
          have h9s := hgrow9.size
          have hA9 : Below w9.heap.size w9 (w9.alloc (.map #[] 0)) := by (repeat (first | exact Below.refl _ _ | assumption | refine Below.drew ?_ | refine Below.alloc ?_ (by first | omega | (simp; done) | (simp; omega)) _ | refine Below.setCell ?_ (by first | omega | (simp; done) | (simp; omega)) _))
          have HPREP : Hid (Prep w (w9.alloc (.map #[] 0)) xs RES i x ab vq w9.heap.size (l0 + 1)) := hidI (by
            have hR1 : RowsAt wz1 w.heap.size (.slice (some ⟨g3, 0, none⟩) (l0 + 1) c3) rows vs := HRZ.out.below HZ1.out (Nat.le_refl _)
            have hR9 := hR1.push (by rw [HL3.out]; exact hown9) hgrow9
            have hb9 : Below w.heap.size w w9 := (HBZ.out.trans (HZ1.out.mono hbz)).grown hgrow9 (by omega) (fun k hk => (hR1.own.lt k hk).1)
            have hne9 : (Value.slice (some ⟨g3, 0, none⟩) (l0 + 1) c3).ownBlock ≠ some ab := HNR.out
            have kc : ∀ {p : Addr} {v : Value}, W.cell? p = some v → p.block = ab → w9.cell? p = some v := fun {p v} hc hp => hgrow9.cell ((HZ1.out.cell (World.block_lt_of_cell? W _ hc)).trans hc) (by rw [hp]; exact fun e => hne9 e.symm)
            refine ⟨rows ++ [[]], vs ++ [.slice none 0 0], none', hR9.below hA9 (Nat.le_refl _), by rw [List.length_append, HL3.out]; rfl, HM9.out, by have := hb9.size; omega, by omega, fun r2 hr2 => ?_, ?_, hb9.trans (hA9.mono hb9.size), ?_, by simp; omega, ?_, hwab, fun j u2 hu2 => ?_⟩
            · rcases List.mem_append.1 hr2 with h | h
              · exact HROW3.out r2 h
              · rw [List.mem_singleton] at h; subst h; exact Nat.zero_le _
            · rw [← HFX.out, batch, if_pos HNEW.out]
            · obtain ⟨z0, z1, z2, z3, z4, z5⟩ := HCZ.out
              have k9 : ∀ {p : Addr} {v : Value}, w9.cell? p = some v → (w9.alloc (.map #[] 0)).cell? p = some v := fun {p v} hc => (hA9.cell (World.block_lt_of_cell? w9 _ hc)).trans hc
              exact ⟨k9 (kc z0 rfl), k9 (kc z1 rfl), k9 (kc z2 rfl), k9 (kc z3 rfl), k9 (kc z4 rfl), k9 (kc z5 rfl)⟩
            · have h1 : wz1.frozen? ⟨ab, 1, none⟩ = false := (HZ1.out.frozen (p := ⟨ab, 1, none⟩) habz).trans HFZ.out
              have h2 : w9.frozen? ⟨ab, 1, none⟩ = false := (World.frozen?_of_block (w := wz1) (a := ⟨ab, 1, none⟩) (hgrow9.block ab (by omega) (fun e => hne9 e.symm))).trans h1
              exact (hA9.frozen (p := ⟨ab, 1, none⟩) (by simp only; omega)).trans h2
            · by_cases hj : j < vs.length
              · rw [List.getElem?_append_left hj] at hu2
                exact HNU.out j u2 hu2
              · have hjl := (List.getElem?_eq_some_iff.1 hu2).1
                simp only [List.length_append, List.length_cons, List.length_nil] at hjl
                rw [show j = vs.length by omega, List.getElem?_append_right (Nat.le_refl _)] at hu2
                simp at hu2
                subst hu2
                exact fun e => by cases e)
          clear hown9 hgrow9 hat9 hA9 HO4 HV4 HZ1 HRZ HBZ HCZ HFZ HNU HNEW HFX HM9 HROW3 HL3 HNR hwz1
          go_wp2
          obtain ⟨wq, hwq⟩ : ∃ wq, w9.alloc (.map #[] 0) = wq := ⟨_, rfl⟩
          obtain ⟨mq, hmq0⟩ : ∃ mq, w9.heap.size = mq := ⟨_, rfl⟩
          try rw [hwq, hmq0] at HPREP
          try rw [hwq] 
          try rw [hmq0]
          clear hwq hmq0
          replace HPREP : ∃ last, Hid (Prep w wq xs RES i x ab vq mq last) := ⟨_, HPREP⟩
          obtain ⟨last, HPREP⟩ := HPREP
          obtain ⟨rq, vsq, fq, hRq, hlenq, hMq, hmq, hiq, hrowsq, hresq, hbq, hcq, habq, hfrq, hwab, hnab⟩ := HPREP.out
          have hown := hRq.own
          rw [hlenq] at hown
          obtain ⟨gq, capq, hvq⟩ : ∃ gq capq, vq = .slice (some ⟨gq, 0, none⟩) (last + 1) capq := by
            rcases hown.2 with ⟨_, h0⟩ | ⟨g1, cap1, _, h1, _⟩
            · omega
            · exact ⟨_, _, h1⟩
          subst hvq
          obtain ⟨r, hr⟩ : ∃ r, rq[last]? = some r := ⟨_, List.getElem?_eq_getElem (by omega)⟩
          obtain ⟨u, hu⟩ : ∃ u, vsq[last]? = some u := ⟨_, List.getElem?_eq_getElem (by have := hRq.len; omega)⟩
          have hr6 : r.length ≤ 1000 := Nat.le_trans (hrowsq r (List.mem_of_getElem? hr)) (by omega)
          obtain ⟨a0, a1, a2, a3, a4, a5⟩ := hcq
          have hmlt := hMq.lt
          have hble := hbq.size
          obtain ⟨o, s1, s2, s3⟩ := store hMq hxs x.does
          have D : ∀ w' : World, Below wq.heap.size wq w' → ∀ {j : Nat} {v : Value}, wq.cell? ⟨ab, j, none⟩ = some v → w'.cell? ⟨ab, j, none⟩ = some v := fun w' hw' {j v} h => (hw'.cell (p := ⟨ab, j, none⟩) habq).trans h
          have A0 : Hid (∀ w' : World, Below wq.heap.size wq w' → w'.cell? ⟨ab, 0, none⟩ = some (.int .u8 x.k)) := hidI fun w' hw' => D w' hw' a0
          have A1 : Hid (∀ w' : World, Below wq.heap.size wq w' → w'.cell? ⟨ab, 1, none⟩ = some (.string x.s)) := hidI fun w' hw' => D w' hw' a1
          have A2 : Hid (∀ w' : World, Below wq.heap.size wq w' → w'.cell? ⟨ab, 2, none⟩ = some (.int .u8 x.o)) := hidI fun w' hw' => D w' hw' a2
          have A3 : Hid (∀ w' : World, Below wq.heap.size wq w' → w'.cell? ⟨ab, 3, none⟩ = some (.bool x.i)) := hidI fun w' hw' => D w' hw' a3
          have A4 : Hid (∀ w' : World, Below wq.heap.size wq w' → w'.cell? ⟨ab, 4, none⟩ = some (.int .i64 x.e)) := hidI fun w' hw' => D w' hw' a4
          have A5 : Hid (∀ w' : World, Below wq.heap.size wq w' → w'.cell? ⟨ab, 5, none⟩ = some (.int .i64 x.c)) := hidI fun w' hw' => D w' hw' a5
          have U : Hid (∀ w' : World, Below wq.heap.size wq w' → (Instr.mapUpdate 44 (.map (some mq)) (.string x.s) (dval x.does)).run Try.prog w' = .ok () (setBlock w' mq o)) := hidI fun w' hw' => s1 w' (hw'.block mq hmlt)
          have VV : Hid (∀ w' : World, w'.heap[mq]? = some o → (Instr.mapUpdate 44 (.map (some mq)) (.string x.s) (dval x.does)).run Try.prog w' = .ok () (setBlock w' mq o)) := hidI s2
          have S3 := hidI s3
          have s0 : Hid (Below wq.heap.size wq wq.drew) := hidI (Below.refl _ _).drew
          have C8 := hidI (deedOf_any x wq.drew)
          have C19 := hidI (clone_any x.s HXL.out)
          have hne : ab ≠ mq := fun e => by
            obtain ⟨es, clock, hb, _⟩ := hMq
            subst e
            simp [World.cell?, hb] at a0
          have HRq := hidI hRq
          have HRES := hidI hresq
          have HBq := hidI hbq
          have HROWS := hidI hrowsq
          have HMap := hidI hMq
          have HR := hidI hr
          have HU := hidI hu
          have HNab := hidI (hnab last u hu)
          have HFR := hidI hfrq
          clear D s1 s2 s3 hRq hMq hresq hbq hrowsq hr hu hown HPREP a0 a1 a2 a3 a4 a5 hnab hfrq
          go_wp2
          go_region_held3 (fun w' => w'.cell? ⟨ab, 0, none⟩ = some (.int .u8 x.k) ∧ w'.cell? ⟨ab, 1, none⟩ = some (.string x.s) ∧ w'.cell? ⟨ab, 2, none⟩ = some (.int .u8 x.o) ∧ w'.cell? ⟨ab, 3, none⟩ = some (.bool x.i) ∧ w'.cell? ⟨ab, 4, none⟩ = some (.int .i64 x.e) ∧ w'.cell? ⟨ab, 5, none⟩ = some (.int .i64 x.c) ∧ (Instr.mapUpdate 44 (.map (some mq)) (.string x.s) (dval x.does)).run Try.prog w' = .ok () (setBlock w' mq o))
            (first | assumption | exact ⟨A0.out _ kk.out, A1.out _ kk.out, A2.out _ kk.out, A3.out _ kk.out, A4.out _ kk.out, A5.out _ kk.out, U.out _ kk.out⟩ | exact ⟨A0.out _ s0.out, A1.out _ s0.out, A2.out _ s0.out, A3.out _ s0.out, A4.out _ s0.out, A5.out _ s0.out, U.out _ s0.out⟩ | exact ⟨(sb_cell hne).trans (A0.out _ kk.out), (sb_cell hne).trans (A1.out _ kk.out), (sb_cell hne).trans (A2.out _ kk.out), (sb_cell hne).trans (A3.out _ kk.out), (sb_cell hne).trans (A4.out _ kk.out), (sb_cell hne).trans (A5.out _ kk.out), VV.out _ (sb_same (by have := kk.out.size; omega))⟩)
            ((go_at_call 18; refine Calls.mono C8.out ?_; rintro e w4 ⟨rfl, hb4⟩; have kk := hidI (s0.out.trans (hb4.mono s0.out.size)); clear hb4))
          all_goals
            have hk4 := kk.out.size
            have HM5 : Hid (MapD (setBlock w4 mq o) mq (upd fq x.s x.does)) := hidI (S3.out _ (sb_same (by omega)))
            have HR5 : Hid (RowsAt (setBlock w4 mq o) w.heap.size (.slice (some ⟨gq, 0, none⟩) (last + 1) capq) rq vsq) := hidI (rows_map (HRq.out.below kk.out (Nat.le_refl _)) (HMap.out.same (kk.out.block mq hmlt)))
            have HB5 : Hid (Below w.heap.size w (setBlock w4 mq o)) := hidI (sb_below (HBq.out.trans (kk.out.mono hble)) hmq)
            have hf5 : (setBlock w4 mq o).frozen? ⟨ab, 1, none⟩ = false := (sb_frozen hne).trans ((kk.out.frozen (p := ⟨ab, 1, none⟩) habq).trans HFR.out)
            have b0 := (sb_cell (o := o) hne).trans (A0.out _ kk.out)
            have b1 := (sb_cell (o := o) hne).trans (A1.out _ kk.out)
            have b2 := (sb_cell (o := o) hne).trans (A2.out _ kk.out)
            have b3 := (sb_cell (o := o) hne).trans (A3.out _ kk.out)
            have b4 := (sb_cell (o := o) hne).trans (A4.out _ kk.out)
            have b5 := (sb_cell (o := o) hne).trans (A5.out _ kk.out)
            have hs5 : w4.heap.size ≤ (setBlock w4 mq o).heap.size := by simp [setBlock]
            obtain ⟨w5, hw5⟩ : ∃ w5, setBlock w4 mq o = w5 := ⟨_, rfl⟩
            rw [hw5] at HM5 HR5 HB5 b0 b1 b2 b3 b4 b5 hs5 hf5 ⊢
            clear hw5 A0 A1 A2 A3 A4 A5 U VV S3 C8 kk s0 HRq HBq HMap HFR
            go_wp2_with (go_at_call 19; refine Calls.mono (C19.out _) ?_; rintro e w6 ⟨rfl, hb6⟩; refine Hid.out ?_)
            refine hidI ?_
            have hs6 := hb6.size
            replace b0 := (hb6.cell (p := ⟨ab, 0, none⟩) (by simp only; omega)).trans b0
            replace b1 := (hb6.cell (p := ⟨ab, 1, none⟩) (by simp only; omega)).trans b1
            replace b2 := (hb6.cell (p := ⟨ab, 2, none⟩) (by simp only; omega)).trans b2
            replace b3 := (hb6.cell (p := ⟨ab, 3, none⟩) (by simp only; omega)).trans b3
            replace b4 := (hb6.cell (p := ⟨ab, 4, none⟩) (by simp only; omega)).trans b4
            replace b5 := (hb6.cell (p := ⟨ab, 5, none⟩) (by simp only; omega)).trans b5
            replace hf5 := (hb6.frozen (p := ⟨ab, 1, none⟩) (by simp only; omega)).trans hf5
            have hset := setCell_self b1
            have HM6 := hidI (HM5.out.same (hb6.block mq (HM5.out.lt)))
            have HR6 := hidI (HR5.out.below hb6 (Nat.le_refl _))
            have hw5s := HB5.out.size
            have HB6 := hidI (HB5.out.trans (hb6.mono hw5s))
            clear hb6 C19 HM5 HR5 HB5
            go_wp2
            have hown6 := HR6.out.own
            rw [hlenq] at hown6
            have hg6 := hown6.lt gq rfl
            have hu6 := HR6.out.each last r u HR.out HU.out
            have hcl : w6.cell? ⟨gq, last, none⟩ = some u := by
              have := World.ownsRow.cells hown6 rfl last u HU.out
              rw [show (⟨gq, 0, none⟩ : Addr).add last = ⟨gq, 0 + last, none⟩ from Addr.add_lit .., Nat.zero_add] at this
              exact this
            have hfz : w6.frozen? ⟨gq, last, none⟩ = false := own_free hown6 last
            have hw6s := HB6.out.size
            refine reg12 (r := r) (x := x) (base := w.heap.size) (u := u) ⟨hcl, b0, b1, b2, b3, b4, b5⟩ hfz (own_below hu6 (Below.refl _ _).drew (Nat.le_refl _)) hr6 hw6s (by omega) (own_ne hown6 hu6 (by decide) rfl) HNab.out hg6.2 (fun _ _ _ _ _ h => h) ?_
            intro W5 u' t46 t47 t48 t49 t50 t51 t52 t53 t54 t55 t56 t57 t58 t59 hgr hown5 hat5
            have hA : Below w6.heap.size w6 (w6.drew.alloc (.cells #[.int .u8 x.k, .string x.s, .int .u8 x.o, .bool x.i, .int .i64 x.e, .int .i64 x.c] 39)) := by (repeat (first | exact Below.refl _ _ | assumption | refine Below.drew ?_ | refine Below.alloc ?_ (by first | omega | (simp; done) | (simp; omega)) _ | refine Below.setCell ?_ (by first | omega | (simp; done) | (simp; omega)) _))
            have HF : Hid (BInv w (W5.setCell ⟨gq, last, none⟩ u') xs RES (i + 1) (.slice (some ⟨gq, 0, none⟩) (last + 1) capq) mq (last + 1)) := hidI (by
              refine ⟨rq.set last (r ++ [x]), vsq.set last u', upd fq x.s x.does, HR6.out.add hlenq HR.out HU.out hA hgr hown5 hat5, by rw [List.length_set]; exact hlenq, ?_, hmq, by omega, fun r2 hr2 => ?_, ?_, ?_⟩
              · have hm1 := HM6.out.same (hA.block mq HM6.out.lt)
                have hm2 := hm1.grown hgr (own_map (own_below hu6 hA (Nat.le_refl _)) hm1)
                exact hm2.same (Below.heap_setCell _ _ _ _ (fun e => own_map hown6 HM6.out (by simp only at e; rw [e]; rfl)))
              · rcases List.mem_or_eq_of_mem_set hr2 with h | rfl
                · exact Nat.le_succ_of_le (HROWS.out r2 h)
                · rw [List.length_append]; exact Nat.succ_le_succ (HROWS.out r (List.mem_of_getElem? HR.out))
              · rw [← HRES.out]
                unfold addTo
                rw [hlenq, Nat.add_sub_cancel, List.getD_eq_getElem?_getD, HR.out]
                rfl
              · refine Below.setCell ?_ hg6.1 _
                exact (HB6.out.trans (hA.mono hw6s)).grown hgr (by have := hA.size; omega) (fun k hk => (hu6.lt k hk).1))
            have HGR := hidI hgr
            clear hgr hown5 hat5 hA hown6 hu6 hcl hfz hset b0 b1 b2 b3 b4 b5
            go_wp2
            go_roundg g
            case measure => omega
            case rel => exact ⟨i + 1, _, _, _, mq, by omega, rfl, rfl, by go_num, HF⟩
        · have h6' : ((r.length : Int) == 6) = false := by simp; omega
          have h6'' : decide ((r.length : Int) = 6) = false := by simp; omega
          obtain ⟨hit, hhit⟩ : ∃ h, hits f x = h := ⟨_, rfl⟩
          rw [hhit] at C
          have HH := hidI hhit
          clear hhit
          go_wp2_with (go_at_call 17; refine Calls.mono C.out ?_; rintro e w3 ⟨rfl, hb3⟩; refine Hid.out ?_)
          refine hidI ?_
          have HB3 := hidI hb3
          have hs3 := hb3.size
          have HCZ : Hid (w3.cell? ⟨ab, 0, none⟩ = some (.int .u8 x.k) ∧ w3.cell? ⟨ab, 1, none⟩ = some (.string x.s) ∧ w3.cell? ⟨ab, 2, none⟩ = some (.int .u8 x.o) ∧ w3.cell? ⟨ab, 3, none⟩ = some (.bool x.i) ∧ w3.cell? ⟨ab, 4, none⟩ = some (.int .i64 x.e) ∧ w3.cell? ⟨ab, 5, none⟩ = some (.int .i64 x.c)) := hidI (by
            obtain ⟨z0, z1, z2, z3, z4, z5⟩ := HCW.out
            have kz : ∀ {p : Addr} {v : Value}, W.cell? p = some v → w3.cell? p = some v := fun {p v} hc => (hb3.cell (World.block_lt_of_cell? W _ hc)).trans hc
            exact ⟨kz z0, kz z1, kz z2, kz z3, kz z4, kz z5⟩)
          have HFZ : Hid (w3.frozen? ⟨ab, 1, none⟩ = false) := hidI ((hb3.frozen (p := ⟨ab, 1, none⟩) hWs).trans HFW.out)
          have HRZ := hidI (HRW.out.below hb3 (Nat.le_refl _))
          have HMZ := hidI (HMW.out.same (hb3.block mb HMW.out.lt))
          have hbW := HBW.out.size
          have HBZ := hidI (HBW.out.trans (hb3.mono hbW))
          have habz : ab < w3.heap.size := by omega
          clear hb3 HCW HFW HRW HMW HBW C hcl hW e0 e1 e2 e3 e4 e5 c0 c1 c2 c3' c4 c5 HB3
          cases hit with
          | true =>
            have HNEW : Hid (newRow rows f x = true) := hidI (by unfold newRow; rw [HH.out]; simp)
            have hlen3 := HRZ.out.own
            obtain ⟨wz1, hwz1⟩ : ∃ wz1, w3.alloc (.cells #[.slice none 0 0] 22) = wz1 := ⟨_, rfl⟩
            have hz1 : Below w3.heap.size w3 wz1 := by rw [← hwz1]; (repeat (first | exact Below.refl _ _ | assumption | refine Below.drew ?_ | refine Below.alloc ?_ (by first | omega | (simp; done) | (simp; omega)) _ | refine Below.setCell ?_ (by first | omega | (simp; done) | (simp; omega)) _))
            have HO4 : Hid (wz1.ownsRow w.heap.size 22 1 (.slice (some ⟨g3, 0, none⟩) (l0 + 1) c3) (l0 + 1) vs) := hidI (by have := own_below HRZ.out.own hz1 (Nat.le_refl _); rwa [HL3.out] at this)
            have HV4 : Hid (SeesC wz1 (.slice (some ⟨w3.heap.size, 0, none⟩) 1 1) 1 1 [.slice none 0 0]) := hidI (by rw [← hwz1]; exact nil_seen)
            have hsz1 : w3.heap.size + 1 ≤ wz1.heap.size := by rw [← hwz1]; simp
            have HZ1 := hidI hz1
            have hbz := HBZ.out.size
            clear hz1 hlen3
            go_wp2_with (at_builtin; go_must (refine wpList_append_any Try.underlying32 Try.info22 rfl (by decide) (by decide) rfl _ _ rfl w.heap.size _ (l0 + 1) _ rfl HO4.out _ 1 [.slice none 0 0] rfl HV4.out (by simp [Value.oneCell']) (by omega) (by omega) ?_); intro vq w9 hown9 hgrow9 hat9; refine Hid.out ?_)
            refine hidI ?_
            have HM9 := hidI (mapD_made w9)
            have h9s := hgrow9.size
            have hA9 : Below w9.heap.size w9 (w9.alloc (.map #[] 0)) := by (repeat (first | exact Below.refl _ _ | assumption | refine Below.drew ?_ | refine Below.alloc ?_ (by first | omega | (simp; done) | (simp; omega)) _ | refine Below.setCell ?_ (by first | omega | (simp; done) | (simp; omega)) _))
            have HPREP : Hid (Prep w (w9.alloc (.map #[] 0)) xs RES i x ab vq w9.heap.size (l0 + 1)) := hidI (by
              have hR1 : RowsAt wz1 w.heap.size (.slice (some ⟨g3, 0, none⟩) (l0 + 1) c3) rows vs := HRZ.out.below HZ1.out (Nat.le_refl _)
              have hR9 := hR1.push (by rw [HL3.out]; exact hown9) hgrow9
              have hb9 : Below w.heap.size w w9 := (HBZ.out.trans (HZ1.out.mono hbz)).grown hgrow9 (by omega) (fun k hk => (hR1.own.lt k hk).1)
              have hne9 : (Value.slice (some ⟨g3, 0, none⟩) (l0 + 1) c3).ownBlock ≠ some ab := HNR.out
              have kc : ∀ {p : Addr} {v : Value}, w3.cell? p = some v → p.block = ab → w9.cell? p = some v := fun {p v} hc hp => hgrow9.cell ((HZ1.out.cell (World.block_lt_of_cell? w3 _ hc)).trans hc) (by rw [hp]; exact fun e => hne9 e.symm)
              refine ⟨rows ++ [[]], vs ++ [.slice none 0 0], none', hR9.below hA9 (Nat.le_refl _), by rw [List.length_append, HL3.out]; rfl, HM9.out, by have := hb9.size; omega, by omega, fun r2 hr2 => ?_, ?_, hb9.trans (hA9.mono hb9.size), ?_, by simp; omega, ?_, hwab, fun j u2 hu2 => ?_⟩
              · rcases List.mem_append.1 hr2 with h | h
                · exact HROW3.out r2 h
                · rw [List.mem_singleton] at h; subst h; exact Nat.zero_le _
              · rw [← HFX.out, batch, if_pos HNEW.out]
              · obtain ⟨z0, z1, z2, z3, z4, z5⟩ := HCZ.out
                have k9 : ∀ {p : Addr} {v : Value}, w9.cell? p = some v → (w9.alloc (.map #[] 0)).cell? p = some v := fun {p v} hc => (hA9.cell (World.block_lt_of_cell? w9 _ hc)).trans hc
                exact ⟨k9 (kc z0 rfl), k9 (kc z1 rfl), k9 (kc z2 rfl), k9 (kc z3 rfl), k9 (kc z4 rfl), k9 (kc z5 rfl)⟩
              · have h1 : wz1.frozen? ⟨ab, 1, none⟩ = false := (HZ1.out.frozen (p := ⟨ab, 1, none⟩) habz).trans HFZ.out
                have h2 : w9.frozen? ⟨ab, 1, none⟩ = false := (World.frozen?_of_block (w := wz1) (a := ⟨ab, 1, none⟩) (hgrow9.block ab (by omega) (fun e => hne9 e.symm))).trans h1
                exact (hA9.frozen (p := ⟨ab, 1, none⟩) (by simp only; omega)).trans h2
              · by_cases hj : j < vs.length
                · rw [List.getElem?_append_left hj] at hu2
                  exact HNU.out j u2 hu2
                · have hjl := (List.getElem?_eq_some_iff.1 hu2).1
                  simp only [List.length_append, List.length_cons, List.length_nil] at hjl
                  rw [show j = vs.length by omega, List.getElem?_append_right (Nat.le_refl _)] at hu2
                  simp at hu2
                  subst hu2
                  exact fun e => by cases e)
            clear hown9 hgrow9 hat9 hA9 HO4 HV4 HZ1 HRZ HBZ HCZ HFZ HNU HNEW HFX HM9 HROW3 HL3 HNR hwz1
            go_wp2
            obtain ⟨wq, hwq⟩ : ∃ wq, w9.alloc (.map #[] 0) = wq := ⟨_, rfl⟩
            obtain ⟨mq, hmq0⟩ : ∃ mq, w9.heap.size = mq := ⟨_, rfl⟩
            try rw [hwq, hmq0] at HPREP
            try rw [hwq] 
            try rw [hmq0]
            clear hwq hmq0
            replace HPREP : ∃ last, Hid (Prep w wq xs RES i x ab vq mq last) := ⟨_, HPREP⟩
            obtain ⟨last, HPREP⟩ := HPREP
            obtain ⟨rq, vsq, fq, hRq, hlenq, hMq, hmq, hiq, hrowsq, hresq, hbq, hcq, habq, hfrq, hwab, hnab⟩ := HPREP.out
            have hown := hRq.own
            rw [hlenq] at hown
            obtain ⟨gq, capq, hvq⟩ : ∃ gq capq, vq = .slice (some ⟨gq, 0, none⟩) (last + 1) capq := by
              rcases hown.2 with ⟨_, h0⟩ | ⟨g1, cap1, _, h1, _⟩
              · omega
              · exact ⟨_, _, h1⟩
            subst hvq
            obtain ⟨r, hr⟩ : ∃ r, rq[last]? = some r := ⟨_, List.getElem?_eq_getElem (by omega)⟩
            obtain ⟨u, hu⟩ : ∃ u, vsq[last]? = some u := ⟨_, List.getElem?_eq_getElem (by have := hRq.len; omega)⟩
            have hr6 : r.length ≤ 1000 := Nat.le_trans (hrowsq r (List.mem_of_getElem? hr)) (by omega)
            obtain ⟨a0, a1, a2, a3, a4, a5⟩ := hcq
            have hmlt := hMq.lt
            have hble := hbq.size
            obtain ⟨o, s1, s2, s3⟩ := store hMq hxs x.does
            have D : ∀ w' : World, Below wq.heap.size wq w' → ∀ {j : Nat} {v : Value}, wq.cell? ⟨ab, j, none⟩ = some v → w'.cell? ⟨ab, j, none⟩ = some v := fun w' hw' {j v} h => (hw'.cell (p := ⟨ab, j, none⟩) habq).trans h
            have A0 : Hid (∀ w' : World, Below wq.heap.size wq w' → w'.cell? ⟨ab, 0, none⟩ = some (.int .u8 x.k)) := hidI fun w' hw' => D w' hw' a0
            have A1 : Hid (∀ w' : World, Below wq.heap.size wq w' → w'.cell? ⟨ab, 1, none⟩ = some (.string x.s)) := hidI fun w' hw' => D w' hw' a1
            have A2 : Hid (∀ w' : World, Below wq.heap.size wq w' → w'.cell? ⟨ab, 2, none⟩ = some (.int .u8 x.o)) := hidI fun w' hw' => D w' hw' a2
            have A3 : Hid (∀ w' : World, Below wq.heap.size wq w' → w'.cell? ⟨ab, 3, none⟩ = some (.bool x.i)) := hidI fun w' hw' => D w' hw' a3
            have A4 : Hid (∀ w' : World, Below wq.heap.size wq w' → w'.cell? ⟨ab, 4, none⟩ = some (.int .i64 x.e)) := hidI fun w' hw' => D w' hw' a4
            have A5 : Hid (∀ w' : World, Below wq.heap.size wq w' → w'.cell? ⟨ab, 5, none⟩ = some (.int .i64 x.c)) := hidI fun w' hw' => D w' hw' a5
            have U : Hid (∀ w' : World, Below wq.heap.size wq w' → (Instr.mapUpdate 44 (.map (some mq)) (.string x.s) (dval x.does)).run Try.prog w' = .ok () (setBlock w' mq o)) := hidI fun w' hw' => s1 w' (hw'.block mq hmlt)
            have VV : Hid (∀ w' : World, w'.heap[mq]? = some o → (Instr.mapUpdate 44 (.map (some mq)) (.string x.s) (dval x.does)).run Try.prog w' = .ok () (setBlock w' mq o)) := hidI s2
            have S3 := hidI s3
            have s0 : Hid (Below wq.heap.size wq wq.drew) := hidI (Below.refl _ _).drew
            have C8 := hidI (deedOf_any x wq.drew)
            have C19 := hidI (clone_any x.s HXL.out)
            have hne : ab ≠ mq := fun e => by
              obtain ⟨es, clock, hb, _⟩ := hMq
              subst e
              simp [World.cell?, hb] at a0
            have HRq := hidI hRq
            have HRES := hidI hresq
            have HBq := hidI hbq
            have HROWS := hidI hrowsq
            have HMap := hidI hMq
            have HR := hidI hr
            have HU := hidI hu
            have HNab := hidI (hnab last u hu)
            have HFR := hidI hfrq
            clear D s1 s2 s3 hRq hMq hresq hbq hrowsq hr hu hown HPREP a0 a1 a2 a3 a4 a5 hnab hfrq
            go_wp2
            go_region_held3 (fun w' => w'.cell? ⟨ab, 0, none⟩ = some (.int .u8 x.k) ∧ w'.cell? ⟨ab, 1, none⟩ = some (.string x.s) ∧ w'.cell? ⟨ab, 2, none⟩ = some (.int .u8 x.o) ∧ w'.cell? ⟨ab, 3, none⟩ = some (.bool x.i) ∧ w'.cell? ⟨ab, 4, none⟩ = some (.int .i64 x.e) ∧ w'.cell? ⟨ab, 5, none⟩ = some (.int .i64 x.c) ∧ (Instr.mapUpdate 44 (.map (some mq)) (.string x.s) (dval x.does)).run Try.prog w' = .ok () (setBlock w' mq o))
              (first | assumption | exact ⟨A0.out _ kk.out, A1.out _ kk.out, A2.out _ kk.out, A3.out _ kk.out, A4.out _ kk.out, A5.out _ kk.out, U.out _ kk.out⟩ | exact ⟨A0.out _ s0.out, A1.out _ s0.out, A2.out _ s0.out, A3.out _ s0.out, A4.out _ s0.out, A5.out _ s0.out, U.out _ s0.out⟩ | exact ⟨(sb_cell hne).trans (A0.out _ kk.out), (sb_cell hne).trans (A1.out _ kk.out), (sb_cell hne).trans (A2.out _ kk.out), (sb_cell hne).trans (A3.out _ kk.out), (sb_cell hne).trans (A4.out _ kk.out), (sb_cell hne).trans (A5.out _ kk.out), VV.out _ (sb_same (by have := kk.out.size; omega))⟩)
              ((go_at_call 18; refine Calls.mono C8.out ?_; rintro e w4 ⟨rfl, hb4⟩; have kk := hidI (s0.out.trans (hb4.mono s0.out.size)); clear hb4))
            all_goals
              have hk4 := kk.out.size
              have HM5 : Hid (MapD (setBlock w4 mq o) mq (upd fq x.s x.does)) := hidI (S3.out _ (sb_same (by omega)))
              have HR5 : Hid (RowsAt (setBlock w4 mq o) w.heap.size (.slice (some ⟨gq, 0, none⟩) (last + 1) capq) rq vsq) := hidI (rows_map (HRq.out.below kk.out (Nat.le_refl _)) (HMap.out.same (kk.out.block mq hmlt)))
              have HB5 : Hid (Below w.heap.size w (setBlock w4 mq o)) := hidI (sb_below (HBq.out.trans (kk.out.mono hble)) hmq)
              have hf5 : (setBlock w4 mq o).frozen? ⟨ab, 1, none⟩ = false := (sb_frozen hne).trans ((kk.out.frozen (p := ⟨ab, 1, none⟩) habq).trans HFR.out)
              have b0 := (sb_cell (o := o) hne).trans (A0.out _ kk.out)
              have b1 := (sb_cell (o := o) hne).trans (A1.out _ kk.out)
              have b2 := (sb_cell (o := o) hne).trans (A2.out _ kk.out)
              have b3 := (sb_cell (o := o) hne).trans (A3.out _ kk.out)
              have b4 := (sb_cell (o := o) hne).trans (A4.out _ kk.out)
              have b5 := (sb_cell (o := o) hne).trans (A5.out _ kk.out)
              have hs5 : w4.heap.size ≤ (setBlock w4 mq o).heap.size := by simp [setBlock]
              obtain ⟨w5, hw5⟩ : ∃ w5, setBlock w4 mq o = w5 := ⟨_, rfl⟩
              rw [hw5] at HM5 HR5 HB5 b0 b1 b2 b3 b4 b5 hs5 hf5 ⊢
              clear hw5 A0 A1 A2 A3 A4 A5 U VV S3 C8 kk s0 HRq HBq HMap HFR
              go_wp2_with (go_at_call 19; refine Calls.mono (C19.out _) ?_; rintro e w6 ⟨rfl, hb6⟩; refine Hid.out ?_)
              refine hidI ?_
              have hs6 := hb6.size
              replace b0 := (hb6.cell (p := ⟨ab, 0, none⟩) (by simp only; omega)).trans b0
              replace b1 := (hb6.cell (p := ⟨ab, 1, none⟩) (by simp only; omega)).trans b1
              replace b2 := (hb6.cell (p := ⟨ab, 2, none⟩) (by simp only; omega)).trans b2
              replace b3 := (hb6.cell (p := ⟨ab, 3, none⟩) (by simp only; omega)).trans b3
              replace b4 := (hb6.cell (p := ⟨ab, 4, none⟩) (by simp only; omega)).trans b4
              replace b5 := (hb6.cell (p := ⟨ab, 5, none⟩) (by simp only; omega)).trans b5
              replace hf5 := (hb6.frozen (p := ⟨ab, 1, none⟩) (by simp only; omega)).trans hf5
              have hset := setCell_self b1
              have HM6 := hidI (HM5.out.same (hb6.block mq (HM5.out.lt)))
              have HR6 := hidI (HR5.out.below hb6 (Nat.le_refl _))
              have hw5s := HB5.out.size
              have HB6 := hidI (HB5.out.trans (hb6.mono hw5s))
              clear hb6 C19 HM5 HR5 HB5
              go_wp2
              have hown6 := HR6.out.own
              rw [hlenq] at hown6
              have hg6 := hown6.lt gq rfl
              have hu6 := HR6.out.each last r u HR.out HU.out
              have hcl : w6.cell? ⟨gq, last, none⟩ = some u := by
                have := World.ownsRow.cells hown6 rfl last u HU.out
                rw [show (⟨gq, 0, none⟩ : Addr).add last = ⟨gq, 0 + last, none⟩ from Addr.add_lit .., Nat.zero_add] at this
                exact this
              have hfz : w6.frozen? ⟨gq, last, none⟩ = false := own_free hown6 last
              have hw6s := HB6.out.size
              refine reg12 (r := r) (x := x) (base := w.heap.size) (u := u) ⟨hcl, b0, b1, b2, b3, b4, b5⟩ hfz (own_below hu6 (Below.refl _ _).drew (Nat.le_refl _)) hr6 hw6s (by omega) (own_ne hown6 hu6 (by decide) rfl) HNab.out hg6.2 (fun _ _ _ _ _ h => h) ?_
              intro W5 u' t46 t47 t48 t49 t50 t51 t52 t53 t54 t55 t56 t57 t58 t59 hgr hown5 hat5
              have hA : Below w6.heap.size w6 (w6.drew.alloc (.cells #[.int .u8 x.k, .string x.s, .int .u8 x.o, .bool x.i, .int .i64 x.e, .int .i64 x.c] 39)) := by (repeat (first | exact Below.refl _ _ | assumption | refine Below.drew ?_ | refine Below.alloc ?_ (by first | omega | (simp; done) | (simp; omega)) _ | refine Below.setCell ?_ (by first | omega | (simp; done) | (simp; omega)) _))
              have HF : Hid (BInv w (W5.setCell ⟨gq, last, none⟩ u') xs RES (i + 1) (.slice (some ⟨gq, 0, none⟩) (last + 1) capq) mq (last + 1)) := hidI (by
                refine ⟨rq.set last (r ++ [x]), vsq.set last u', upd fq x.s x.does, HR6.out.add hlenq HR.out HU.out hA hgr hown5 hat5, by rw [List.length_set]; exact hlenq, ?_, hmq, by omega, fun r2 hr2 => ?_, ?_, ?_⟩
                · have hm1 := HM6.out.same (hA.block mq HM6.out.lt)
                  have hm2 := hm1.grown hgr (own_map (own_below hu6 hA (Nat.le_refl _)) hm1)
                  exact hm2.same (Below.heap_setCell _ _ _ _ (fun e => own_map hown6 HM6.out (by simp only at e; rw [e]; rfl)))
                · rcases List.mem_or_eq_of_mem_set hr2 with h | rfl
                  · exact Nat.le_succ_of_le (HROWS.out r2 h)
                  · rw [List.length_append]; exact Nat.succ_le_succ (HROWS.out r (List.mem_of_getElem? HR.out))
                · rw [← HRES.out]
                  unfold addTo
                  rw [hlenq, Nat.add_sub_cancel, List.getD_eq_getElem?_getD, HR.out]
                  rfl
                · refine Below.setCell ?_ hg6.1 _
                  exact (HB6.out.trans (hA.mono hw6s)).grown hgr (by have := hA.size; omega) (fun k hk => (hu6.lt k hk).1))
              have HGR := hidI hgr
              clear hgr hown5 hat5 hA hown6 hu6 hcl hfz hset b0 b1 b2 b3 b4 b5
              go_wp2
              go_roundg g
              case measure => omega
              case rel => exact ⟨i + 1, _, _, _, mq, by omega, rfl, rfl, by go_num, HF⟩
          | false =>
            have HNEW : Hid (newRow rows f x = false) := hidI (by unfold newRow; rw [HGD.out, HLN.out, HH.out]; simp [h6])
            have HPREP : Hid (Prep w w3 xs RES i x ab (.slice (some ⟨g3, 0, none⟩) (l0 + 1) c3) mb l0) := hidI (by
              refine ⟨rows, vs, f, HRZ.out, HL3.out, HMZ.out, hmb, by omega, HROW3.out, ?_, HBZ.out, HCZ.out, habz, HFZ.out, hwab, HNU.out⟩
              rw [← HFX.out, batch, if_neg (by rw [HNEW.out]; decide)])
            obtain ⟨wq, hwq⟩ : ∃ wq, w3 = wq := ⟨_, rfl⟩
            obtain ⟨mq, hmq0⟩ : ∃ mq, mb = mq := ⟨_, rfl⟩
            obtain ⟨vq, hvq0⟩ : ∃ vq, Value.slice (some ⟨g3, 0, none⟩) (l0 + 1) c3 = vq := ⟨_, rfl⟩
            clear HNEW HCZ HFZ HRZ HMZ HBZ HGD HLN HNU HFX HROW3 HL3 HH HNR
            subst hwq hmq0
            rw [hvq0] at HPREP ⊢
            clear hvq0
            replace HPREP : ∃ last, Hid (Prep w w3 xs RES i x ab vq mb last) := ⟨_, HPREP⟩
            obtain ⟨last, HPREP⟩ := HPREP
            obtain ⟨rq, vsq, fq, hRq, hlenq, hMq, hmq, hiq, hrowsq, hresq, hbq, hcq, habq, hfrq, hwab, hnab⟩ := HPREP.out
            have hown := hRq.own
            rw [hlenq] at hown
            obtain ⟨gq, capq, hvq⟩ : ∃ gq capq, vq = .slice (some ⟨gq, 0, none⟩) (last + 1) capq := by
              rcases hown.2 with ⟨_, h0⟩ | ⟨g1, cap1, _, h1, _⟩
              · omega
              · exact ⟨_, _, h1⟩
            subst hvq
            obtain ⟨r, hr⟩ : ∃ r, rq[last]? = some r := ⟨_, List.getElem?_eq_getElem (by omega)⟩
            obtain ⟨u, hu⟩ : ∃ u, vsq[last]? = some u := ⟨_, List.getElem?_eq_getElem (by have := hRq.len; omega)⟩
            have hr6 : r.length ≤ 1000 := Nat.le_trans (hrowsq r (List.mem_of_getElem? hr)) (by omega)
            obtain ⟨a0, a1, a2, a3, a4, a5⟩ := hcq
            have hmlt := hMq.lt
            have hble := hbq.size
            obtain ⟨o, s1, s2, s3⟩ := store hMq hxs x.does
            have D : ∀ w' : World, Below w3.heap.size w3 w' → ∀ {j : Nat} {v : Value}, w3.cell? ⟨ab, j, none⟩ = some v → w'.cell? ⟨ab, j, none⟩ = some v := fun w' hw' {j v} h => (hw'.cell (p := ⟨ab, j, none⟩) habq).trans h
            have A0 : Hid (∀ w' : World, Below w3.heap.size w3 w' → w'.cell? ⟨ab, 0, none⟩ = some (.int .u8 x.k)) := hidI fun w' hw' => D w' hw' a0
            have A1 : Hid (∀ w' : World, Below w3.heap.size w3 w' → w'.cell? ⟨ab, 1, none⟩ = some (.string x.s)) := hidI fun w' hw' => D w' hw' a1
            have A2 : Hid (∀ w' : World, Below w3.heap.size w3 w' → w'.cell? ⟨ab, 2, none⟩ = some (.int .u8 x.o)) := hidI fun w' hw' => D w' hw' a2
            have A3 : Hid (∀ w' : World, Below w3.heap.size w3 w' → w'.cell? ⟨ab, 3, none⟩ = some (.bool x.i)) := hidI fun w' hw' => D w' hw' a3
            have A4 : Hid (∀ w' : World, Below w3.heap.size w3 w' → w'.cell? ⟨ab, 4, none⟩ = some (.int .i64 x.e)) := hidI fun w' hw' => D w' hw' a4
            have A5 : Hid (∀ w' : World, Below w3.heap.size w3 w' → w'.cell? ⟨ab, 5, none⟩ = some (.int .i64 x.c)) := hidI fun w' hw' => D w' hw' a5
            have U : Hid (∀ w' : World, Below w3.heap.size w3 w' → (Instr.mapUpdate 44 (.map (some mb)) (.string x.s) (dval x.does)).run Try.prog w' = .ok () (setBlock w' mb o)) := hidI fun w' hw' => s1 w' (hw'.block mb hmlt)
            have VV : Hid (∀ w' : World, w'.heap[mb]? = some o → (Instr.mapUpdate 44 (.map (some mb)) (.string x.s) (dval x.does)).run Try.prog w' = .ok () (setBlock w' mb o)) := hidI s2
            have S3 := hidI s3
            have s0 : Hid (Below w3.heap.size w3 w3.drew) := hidI (Below.refl _ _).drew
            have C8 := hidI (deedOf_any x w3.drew)
            have C19 := hidI (clone_any x.s HXL.out)
            have hne : ab ≠ mb := fun e => by
              obtain ⟨es, clock, hb, _⟩ := hMq
              subst e
              simp [World.cell?, hb] at a0
            have HRq := hidI hRq
            have HRES := hidI hresq
            have HBq := hidI hbq
            have HROWS := hidI hrowsq
            have HMap := hidI hMq
            have HR := hidI hr
            have HU := hidI hu
            have HNab := hidI (hnab last u hu)
            have HFR := hidI hfrq
            clear D s1 s2 s3 hRq hMq hresq hbq hrowsq hr hu hown HPREP a0 a1 a2 a3 a4 a5 hnab hfrq
            go_wp2
            go_region_held3 (fun w' => w'.cell? ⟨ab, 0, none⟩ = some (.int .u8 x.k) ∧ w'.cell? ⟨ab, 1, none⟩ = some (.string x.s) ∧ w'.cell? ⟨ab, 2, none⟩ = some (.int .u8 x.o) ∧ w'.cell? ⟨ab, 3, none⟩ = some (.bool x.i) ∧ w'.cell? ⟨ab, 4, none⟩ = some (.int .i64 x.e) ∧ w'.cell? ⟨ab, 5, none⟩ = some (.int .i64 x.c) ∧ (Instr.mapUpdate 44 (.map (some mb)) (.string x.s) (dval x.does)).run Try.prog w' = .ok () (setBlock w' mb o))
              (first | assumption | exact ⟨A0.out _ kk.out, A1.out _ kk.out, A2.out _ kk.out, A3.out _ kk.out, A4.out _ kk.out, A5.out _ kk.out, U.out _ kk.out⟩ | exact ⟨A0.out _ s0.out, A1.out _ s0.out, A2.out _ s0.out, A3.out _ s0.out, A4.out _ s0.out, A5.out _ s0.out, U.out _ s0.out⟩ | exact ⟨(sb_cell hne).trans (A0.out _ kk.out), (sb_cell hne).trans (A1.out _ kk.out), (sb_cell hne).trans (A2.out _ kk.out), (sb_cell hne).trans (A3.out _ kk.out), (sb_cell hne).trans (A4.out _ kk.out), (sb_cell hne).trans (A5.out _ kk.out), VV.out _ (sb_same (by have := kk.out.size; omega))⟩)
              ((go_at_call 18; refine Calls.mono C8.out ?_; rintro e w4 ⟨rfl, hb4⟩; have kk := hidI (s0.out.trans (hb4.mono s0.out.size)); clear hb4))
            all_goals
              have hk4 := kk.out.size
              have HM5 : Hid (MapD (setBlock w4 mb o) mb (upd fq x.s x.does)) := hidI (S3.out _ (sb_same (by omega)))
              have HR5 : Hid (RowsAt (setBlock w4 mb o) w.heap.size (.slice (some ⟨gq, 0, none⟩) (last + 1) capq) rq vsq) := hidI (rows_map (HRq.out.below kk.out (Nat.le_refl _)) (HMap.out.same (kk.out.block mb hmlt)))
              have HB5 : Hid (Below w.heap.size w (setBlock w4 mb o)) := hidI (sb_below (HBq.out.trans (kk.out.mono hble)) hmq)
              have hf5 : (setBlock w4 mb o).frozen? ⟨ab, 1, none⟩ = false := (sb_frozen hne).trans ((kk.out.frozen (p := ⟨ab, 1, none⟩) habq).trans HFR.out)
              have b0 := (sb_cell (o := o) hne).trans (A0.out _ kk.out)
              have b1 := (sb_cell (o := o) hne).trans (A1.out _ kk.out)
              have b2 := (sb_cell (o := o) hne).trans (A2.out _ kk.out)
              have b3 := (sb_cell (o := o) hne).trans (A3.out _ kk.out)
              have b4 := (sb_cell (o := o) hne).trans (A4.out _ kk.out)
              have b5 := (sb_cell (o := o) hne).trans (A5.out _ kk.out)
              have hs5 : w4.heap.size ≤ (setBlock w4 mb o).heap.size := by simp [setBlock]
              obtain ⟨w5, hw5⟩ : ∃ w5, setBlock w4 mb o = w5 := ⟨_, rfl⟩
              rw [hw5] at HM5 HR5 HB5 b0 b1 b2 b3 b4 b5 hs5 hf5 ⊢
              clear hw5 A0 A1 A2 A3 A4 A5 U VV S3 C8 kk s0 HRq HBq HMap HFR
              go_wp2_with (go_at_call 19; refine Calls.mono (C19.out _) ?_; rintro e w6 ⟨rfl, hb6⟩; refine Hid.out ?_)
              refine hidI ?_
              have hs6 := hb6.size
              replace b0 := (hb6.cell (p := ⟨ab, 0, none⟩) (by simp only; omega)).trans b0
              replace b1 := (hb6.cell (p := ⟨ab, 1, none⟩) (by simp only; omega)).trans b1
              replace b2 := (hb6.cell (p := ⟨ab, 2, none⟩) (by simp only; omega)).trans b2
              replace b3 := (hb6.cell (p := ⟨ab, 3, none⟩) (by simp only; omega)).trans b3
              replace b4 := (hb6.cell (p := ⟨ab, 4, none⟩) (by simp only; omega)).trans b4
              replace b5 := (hb6.cell (p := ⟨ab, 5, none⟩) (by simp only; omega)).trans b5
              replace hf5 := (hb6.frozen (p := ⟨ab, 1, none⟩) (by simp only; omega)).trans hf5
              have hset := setCell_self b1
              have HM6 := hidI (HM5.out.same (hb6.block mb (HM5.out.lt)))
              have HR6 := hidI (HR5.out.below hb6 (Nat.le_refl _))
              have hw5s := HB5.out.size
              have HB6 := hidI (HB5.out.trans (hb6.mono hw5s))
              clear hb6 C19 HM5 HR5 HB5
              go_wp2
              have hown6 := HR6.out.own
              rw [hlenq] at hown6
              have hg6 := hown6.lt gq rfl
              have hu6 := HR6.out.each last r u HR.out HU.out
              have hcl : w6.cell? ⟨gq, last, none⟩ = some u := by
                have := World.ownsRow.cells hown6 rfl last u HU.out
                rw [show (⟨gq, 0, none⟩ : Addr).add last = ⟨gq, 0 + last, none⟩ from Addr.add_lit .., Nat.zero_add] at this
                exact this
              have hfz : w6.frozen? ⟨gq, last, none⟩ = false := own_free hown6 last
              have hw6s := HB6.out.size
              refine reg12 (r := r) (x := x) (base := w.heap.size) (u := u) ⟨hcl, b0, b1, b2, b3, b4, b5⟩ hfz (own_below hu6 (Below.refl _ _).drew (Nat.le_refl _)) hr6 hw6s (by omega) (own_ne hown6 hu6 (by decide) rfl) HNab.out hg6.2 (fun _ _ _ _ _ h => h) ?_
              intro W5 u' t46 t47 t48 t49 t50 t51 t52 t53 t54 t55 t56 t57 t58 t59 hgr hown5 hat5
              have hA : Below w6.heap.size w6 (w6.drew.alloc (.cells #[.int .u8 x.k, .string x.s, .int .u8 x.o, .bool x.i, .int .i64 x.e, .int .i64 x.c] 39)) := by (repeat (first | exact Below.refl _ _ | assumption | refine Below.drew ?_ | refine Below.alloc ?_ (by first | omega | (simp; done) | (simp; omega)) _ | refine Below.setCell ?_ (by first | omega | (simp; done) | (simp; omega)) _))
              have HF : Hid (BInv w (W5.setCell ⟨gq, last, none⟩ u') xs RES (i + 1) (.slice (some ⟨gq, 0, none⟩) (last + 1) capq) mb (last + 1)) := hidI (by
                refine ⟨rq.set last (r ++ [x]), vsq.set last u', upd fq x.s x.does, HR6.out.add hlenq HR.out HU.out hA hgr hown5 hat5, by rw [List.length_set]; exact hlenq, ?_, hmq, by omega, fun r2 hr2 => ?_, ?_, ?_⟩
                · have hm1 := HM6.out.same (hA.block mb HM6.out.lt)
                  have hm2 := hm1.grown hgr (own_map (own_below hu6 hA (Nat.le_refl _)) hm1)
                  exact hm2.same (Below.heap_setCell _ _ _ _ (fun e => own_map hown6 HM6.out (by simp only at e; rw [e]; rfl)))
                · rcases List.mem_or_eq_of_mem_set hr2 with h | rfl
                  · exact Nat.le_succ_of_le (HROWS.out r2 h)
                  · rw [List.length_append]; exact Nat.succ_le_succ (HROWS.out r (List.mem_of_getElem? HR.out))
                · rw [← HRES.out]
                  unfold addTo
                  rw [hlenq, Nat.add_sub_cancel, List.getD_eq_getElem?_getD, HR.out]
                  rfl
                · refine Below.setCell ?_ hg6.1 _
                  exact (HB6.out.trans (hA.mono hw6s)).grown hgr (by have := hA.size; omega) (fun k hk => (hu6.lt k hk).1))
              have HGR := hidI hgr
              clear hgr hown5 hat5 hA hown6 hu6 hcl hfz hset b0 b1 b2 b3 b4 b5
              go_wp2
              go_roundg g
              case measure => omega
              case rel => exact ⟨i + 1, _, _, _, mb, by omega, rfl, rfl, by go_num, HF⟩
end Go.Proofs.Ytffdgjlojechaaa
