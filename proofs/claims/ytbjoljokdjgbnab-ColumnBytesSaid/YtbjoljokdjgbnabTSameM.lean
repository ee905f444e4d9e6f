/-
  Same of two whole tables.
-/
import Derived.Test.YtbjoljokdjgbnabForkM
import Derived.Test.YtbjoljokdjgbnabWordsEqM
import Derived.Test.YtbjoljokdjgbnabSameTM
import Derived.Lib.QuietBelow
import Derived.BigQuiet
namespace Go.Proofs.Ytbjoljokdjgbnab
open Go.RowKit Go.Deep Go.MapKept Go.Sort Go.Shelf
open Go.ChangeMaps (setBlock)
def goodC (cs' : List Column) (c : Column) : Bool := decide (kindE cs' c.name c.side = c.kind) && decide (listE cs' c.name c.side = c.vals)
def sameB (cs cs' : List Column) : Bool := decide (cs.length = cs'.length) && cs.all (goodC cs')
set_option maxRecDepth 100000 in
set_option maxHeartbeats 3000000 in
theorem tsame_any {w : World} {tb mb ob nb : Nat} {n m : Int} {cs cs' : List Column} (h : Whole w tb mb n m cs) (h' : Whole w ob nb n m cs') :
    Calls Try.prog 19 #[.pointer (some ⟨tb, 0, none⟩), .pointer (some ⟨ob, 0, none⟩)] w fun e w' => e = .returned (.bool (sameB cs cs')) ∧ RowKit.Below w.heap.size w w' := by
  obtain ⟨res, hres⟩ : ∃ res, sameB cs cs' = res := ⟨_, rfl⟩
  rw [hres]
  have HRES := hidI hres
  have H := hidI h
  have H' := hidI h'
  have HST := hidI (ents_stamped h.2.2.2.2.2.1)
  have hes : (ents 0 cs).toArray.size = cs.length := by simp [ents_length]
  have hes' : (ents 0 cs').toArray.size = cs'.length := by simp [ents_length]
  have c0 := h.1
  have c1 := h.2.1
  have c2 := h.2.2.1
  have o0 := h'.1
  have o1 := h'.2.1
  have o2 := h'.2.2.1
  have hmb : mb < w.heap.size := h.lt (.inr (.inl rfl))
  have ql1 : ∀ k, (Builtin.len_ #[93] 3 #[.map (some mb)]).run Try.prog (w.drewN k) = .ok (.int .i64 (cs.length : Int)) (w.drewN k) := fun k => by
    have := run_len_map (P := Try.prog) (w.drewN k) 93 3 mb (ents 0 cs).toArray cs.length Try.underlying93 H.out.2.2.2.1
    rwa [hes] at this
  have ql2 : ∀ k, (Builtin.len_ #[93] 3 #[.map (some nb)]).run Try.prog (w.drewN k) = .ok (.int .i64 (cs'.length : Int)) (w.drewN k) := fun k => by
    have := run_len_map (P := Try.prog) (w.drewN k) 93 3 nb (ents 0 cs').toArray cs'.length Try.underlying93 H'.out.2.2.2.1
    rwa [hes'] at this
  obtain ⟨k, hk⟩ : ∃ k, cs.length = k := ⟨_, rfl⟩
  obtain ⟨k', hk'⟩ : ∃ k', cs'.length = k' := ⟨_, rfl⟩
  have HK := hidI (And.intro hk hk')
  rw [hk] at ql1
  rw [hk'] at ql2
  clear h h' hres hk hk' hes'
  have kn : (n == n) = true := by simp
  have km : (m == m) = true := by simp
  by_cases hkk : ¬ k = k'
  · have k1 : ((k : Int) == (k' : Int)) = false := by simp only [beq_eq_false_iff_ne, ne_eq]; omega
    obtain rfl : false = res := by
      obtain ⟨h1, h2⟩ := HK.out
      rw [← HRES.out, sameB, decide_eq_false (by omega)]; rfl
    go_enter Try.func19, Try.ntmps19
    go_wp2
    go_quiet (fail)
    go_wp2
    go_ret
    exact ⟨rfl, below_drewN (Below.refl _ _) _⟩
  replace hkk : k = k' := Classical.not_not.1 hkk
  subst hkk
  have k1 : ((k : Int) == (k : Int)) = true := by simp
  go_enter Try.func19, Try.ntmps19
  go_wp2
  go_quiet (fail)
  obtain ⟨W0, hW0⟩ : ∃ W0, w.drewN nq = W0 := ⟨_, rfl⟩
  have hb0 : RowKit.Below w.heap.size w W0 := by rw [← hW0]; exact below_drewN (Below.refl _ _) _
  have hs0 : W0.heap.size = w.heap.size := by rw [← hW0]; rfl
  rw [hW0]
  clear hW0 ql1 ql2 c0 c1 o0 o1 o2
  have htb := H.out.lt (.inl rfl)
  have c2' : W0.cell? ⟨tb, 2, none⟩ = some (.map (some mb)) := (hb0.cell (p := ⟨tb, 2, none⟩) htb).trans c2
  have hb' : W0.heap[mb]? = some (.map (ents 0 cs).toArray cs.length) := (hb0.block mb hmb).trans H.out.2.2.2.1
  have qr := run_range_map (P := Try.prog) W0 93 40 97 mb (ents 0 cs).toArray cs.length Try.underlying93 hb'
  have hr0 : (W0.alloc (.mapIter (some mb) cs.length #[] cs.length)).heap[W0.heap.size]? = some (.mapIter (some mb) cs.length #[] cs.length) := World.alloc_heap_new W0 _
  have b2 : RowKit.Below w.heap.size w (W0.alloc (.mapIter (some mb) cs.length #[] cs.length)) := hb0.alloc hb0.size _
  obtain ⟨r, hre⟩ : ∃ r, W0.heap.size = r := ⟨_, rfl⟩
  have HFF : Hid (r = w.heap.size) := hidI (by rw [← hre]; exact hs0)
  have HR0 := hidI hr0
  have HB0 := hidI b2
  rw [hre] at HR0
  have hle0 : (leftOf (ents 0 cs).toArray #[]).size = (ents 0 cs).toArray.size := by simp [leftOf]
  have HLE := hidI hle0
  obtain ⟨es, hese⟩ : ∃ es, (ents 0 cs).toArray = es := ⟨_, rfl⟩
  have HES0 := hidI hese
  rw [hese] at HLE hes HST
  clear hb' b2 hr0 hle0 hese hs0
  go_wp2
  clear qr c2' c2 hb0
  go_loopg [5, 6] es.size (fun g s5 s6 wx => ∃ (v5 v6 : Value) (vis : List MapEntry) (seen : Array Nat) (c0 : Nat), v5 = s5 ∧ v6 = s6 ∧ ((leftOf es seen).size = g ∧ vis.length + g ≤ es.size) ∧ Hid (seen.toList = vis.map (·.born) ∧ (vis.map (·.born)).Nodup ∧ (∀ e ∈ vis, e ∈ es.toList) ∧ (∀ e ∈ vis, ∃ i c, cs[i]? = some c ∧ e = c.entry i ∧ goodC cs' c = true) ∧ wx.heap[r]? = some (.mapIter (some mb) cs.length seen c0) ∧ cs.length ≤ c0 ∧ RowKit.Below w.heap.size w wx))
  case atStart => exact ⟨_, _, [], #[], cs.length, rfl, rfl, ⟨HLE.out, by simp⟩, hidI ⟨rfl, by simp, by simp, by simp, HR0.out, Nat.le_refl _, HB0.out⟩⟩
  case round =>
    obtain ⟨v5, v6, vis, seen, c0, rfl, rfl, ⟨hlg, hvg⟩, HI⟩ := hrel
    obtain ⟨hsv, hvn, hvin, hgood, hr, hc0, hbl⟩ := HI.out
    have hbr : wr.heap[mb]? = some (.map es cs.length) := by rw [← HES0.out]; exact (hbl.block mb hmb).trans H.out.2.2.2.1
    have hszr := hbl.size
    clear HR0 HB0 HLE
    rcases run_next_at (P := Try.prog) wr 0 r mb cs.length c0 seen es cs.length hr hbr HST.out.1 hc0 with ⟨h0, hrun⟩ | ⟨e, he, wn, hal, hrun⟩
    · have hp := vis_perm HST.out.2.1 hsv hvn hvin (all_seen es seen h0)
      obtain rfl : true = res := by
        obtain ⟨h1, h2⟩ := HK.out
        rw [← HRES.out, sameB, decide_eq_true (by omega), Bool.true_and, eq_comm, List.all_eq_true]
        intro c hc
        obtain ⟨i, hi⟩ := List.getElem?_of_mem hc
        have hce : c.entry i ∈ es.toList := by
          rw [← HES0.out]
          have := ents_get cs 0 i
          rw [hi, Nat.zero_add] at this
          simpa using List.mem_of_getElem? this
        obtain ⟨i', c', hc', he', hg⟩ := hgood _ (hp.mem_iff.2 hce)
        have hb : i = i' := congrArg MapEntry.born he'
        subst hb
        obtain rfl : c = c' := by simpa using hi.symm.trans hc'
        exact hg
      clear hp hsv hvn hvin hgood hr hbr hbl hc0
      go_wp2
      go_ret
      exact ⟨rfl, HI.out.2.2.2.2.2.2⟩
    · obtain ⟨hem, hesn⟩ := mem_left he
      obtain ⟨i, c, hci, hece⟩ := ents_mem (cs := cs) (k := 0) (by rw [← HES0.out] at hem; simpa using hem)
      rw [Nat.zero_add] at hece
      have hsh := left_shrinks es seen e he
      have hrl : r < wr.heap.size := (Array.getElem?_eq_some_iff.1 hr).1
      have hnh : wn.heap = wr.heap := by rcases hal with rfl | rfl <;> rfl
      have hg2 : wr.grownBy (setBlock wn r (.mapIter (some mb) cs.length (seen.push e.born) cs.length)) (some r) := by
        rcases hal with rfl | rfl <;> exact ⟨rfl, rfl, rfl, by simp [setBlock], fun i _ hi => by simp [setBlock, show r ≠ i from fun e1 => hi (by rw [e1])]; try rfl⟩
      have hr2 : (setBlock wn r (.mapIter (some mb) cs.length (seen.push e.born) cs.length)).heap[r]? = some (.mapIter (some mb) cs.length (seen.push e.born) cs.length) := by simp [setBlock, hnh, hrl]
      obtain ⟨W2, hW2⟩ : ∃ W2, setBlock wn r (.mapIter (some mb) cs.length (seen.push e.born) cs.length) = W2 := ⟨_, rfl⟩
      rw [hW2] at hrun hg2 hr2
      have f3 := HFF.out
      have hb2 : W2.heap[mb]? = some (.map es cs.length) := (hg2.block mb (by omega) (by intro h; have := Option.some.inj h; omega)).trans hbr
      have qe := run_entry_at (P := Try.prog) W2 r mb cs.length seen es cs.length e hr2 hb2 hem HST.out.2.1
      have hek : e.key = ke c.name c.side := by rw [hece]; rfl
      have hev : e.val = .agg #[.int .u8 c.kind, .slice (some ⟨c.row, 0, none⟩) c.vals.length c.cap] := by rw [hece]; rfl
      rw [hek, hev] at hrun qe
      have hbl2 : RowKit.Below w.heap.size w W2 := hbl.grown hg2 hszr (fun j ej => by cases ej; omega)
      have hsz2 := hbl2.size
      have hr2l : r < W2.heap.size := (Array.getElem?_eq_some_iff.1 hr2).1
      have hcm := List.mem_of_getElem? hci
      obtain ⟨hcok, hcr, _, _, hcv⟩ := H.out.2.2.2.2.1 c hcm
      have HF2 := hidI (And.intro hbl2 (And.intro hr2 (And.intro hcok (And.intro hcr hcv))))
      have HSH := hidI hsh
      have HEM := hidI (And.intro hem (And.intro hesn (And.intro hci hece)))
      clear hr hbr hbl hbl2 hg2 hr2 hb2 hW2 hal hnh hsv hvn hvin he hem hesn hsh hek hev hcv hcok hci hece hgood f3 hcm hcr
      go_wp2
      obtain ⟨kb, hkb⟩ : ∃ kb, W2.heap.size = kb := ⟨_, rfl⟩
      obtain ⟨cb, hcb⟩ : ∃ cb, W2.heap.size + 1 = cb := ⟨_, rfl⟩
      have HB3 : Hid (RowKit.Below W2.heap.size W2 ((W2.alloc (.cells #[.string c.name, .int .u8 c.side] 40)).alloc (.cells #[.int .u8 c.kind, .slice (some ⟨c.row, 0, none⟩) c.vals.length c.cap] 97))) := hidI (by (repeat (first | exact Below.refl _ _ | assumption | refine Below.drew ?_ | refine Below.alloc ?_ (by first | omega | (simp; done) | (simp; omega)) _ | refine Below.setCell ?_ (by first | omega | (simp; done) | (simp; omega)) _)))
      have hS3 : ((W2.alloc (.cells #[.string c.name, .int .u8 c.side] 40)).alloc (.cells #[.int .u8 c.kind, .slice (some ⟨c.row, 0, none⟩) c.vals.length c.cap] 97)).cell? ⟨kb, 0, none⟩ = some (.string c.name) ∧ ((W2.alloc (.cells #[.string c.name, .int .u8 c.side] 40)).alloc (.cells #[.int .u8 c.kind, .slice (some ⟨c.row, 0, none⟩) c.vals.length c.cap] 97)).cell? ⟨kb, 1, none⟩ = some (.int .u8 c.side) ∧ ((W2.alloc (.cells #[.string c.name, .int .u8 c.side] 40)).alloc (.cells #[.int .u8 c.kind, .slice (some ⟨c.row, 0, none⟩) c.vals.length c.cap] 97)).cell? ⟨cb, 0, none⟩ = some (.int .u8 c.kind) ∧ ((W2.alloc (.cells #[.string c.name, .int .u8 c.side] 40)).alloc (.cells #[.int .u8 c.kind, .slice (some ⟨c.row, 0, none⟩) c.vals.length c.cap] 97)).cell? ⟨cb, 1, none⟩ = some (.slice (some ⟨c.row, 0, none⟩) c.vals.length c.cap) := by
        rw [← hkb, ← hcb]
        exact ⟨by go_simp, by go_simp, by go_simp, by go_simp⟩
      have HR3 : Hid ((((W2.alloc (.cells #[.string c.name, .int .u8 c.side] 40)).alloc (.cells #[.int .u8 c.kind, .slice (some ⟨c.row, 0, none⟩) c.vals.length c.cap] 97))).heap[r]? = some (.mapIter (some mb) cs.length (seen.push e.born) cs.length)) := hidI ((HB3.out.block r hr2l).trans HF2.out.2.1)
      have HBw3 : Hid (RowKit.Below w.heap.size w ((W2.alloc (.cells #[.string c.name, .int .u8 c.side] 40)).alloc (.cells #[.int .u8 c.kind, .slice (some ⟨c.row, 0, none⟩) c.vals.length c.cap] 97))) := hidI (HF2.out.1.trans (HB3.out.mono hsz2))
      rw [hcb, hkb]
      obtain ⟨V, hV⟩ : ∃ V, ((W2.alloc (.cells #[.string c.name, .int .u8 c.side] 40)).alloc (.cells #[.int .u8 c.kind, .slice (some ⟨c.row, 0, none⟩) c.vals.length c.cap] 97)) = V := ⟨_, rfl⟩
      rw [hV] at HB3 hS3 HR3 HBw3 ⊢
      clear hV hkb hcb
      have hVw := HBw3.out.size
      obtain ⟨kd, hkd⟩ : ∃ kd, kindE cs' c.name c.side = kd := ⟨_, rfl⟩
      obtain ⟨zs, hzs⟩ : ∃ zs, listE cs' c.name c.side = zs := ⟨_, rfl⟩
      have hzl : zs.length ≤ 100000 := by rw [← hzs]; exact list_len H'.out _ _
      have hok := HF2.out.2.2.1
      have C1 : Hid (∀ y, RowKit.Below V.heap.size V y → Calls Try.prog 28 #[.pointer (some ⟨ob, 0, none⟩), ke c.name c.side] y fun e u => e = .returned (.int .u8 kd) ∧ RowKit.Below y.heap.size y u) := hidI fun y hy => by
        have := whole_kind (H'.out.below (HBw3.out.trans (hy.mono hVw)) (Nat.le_refl _)) hok.2.1 hok.2.2.1
        rwa [hkd] at this
      by_cases hkc : ¬ kd = c.kind
      · have k5 : (kd == c.kind) = false := by simpa using hkc
        obtain rfl : false = res := by
          rw [← HRES.out, sameB]
          refine (Bool.and_eq_false_iff.2 (.inr ?_)).symm
          rw [List.all_eq_false]
          refine ⟨c, List.mem_of_getElem? HEM.out.2.2.1, ?_⟩
          simp only [goodC, hkd, decide_eq_false hkc, Bool.false_and]
          decide
        have C28 := hidI (fun dd (oo : Array Obj) => Calls.regrown_of (w := V) (d := dd) (os := oo) (C1.out _ (below_regrown V dd oo)))
        have q0 := fun d os => cell_regrown hS3.1 d os
        have q1 := fun d os => cell_regrown hS3.2.1 d os
        have q2 := fun d os => cell_regrown hS3.2.2.1 d os
        clear C1 hzl
        refine wp_region_quiet_below (by kernel_rfl) (by kernel_rfl) ?_
        repeat (first | go_big_quiet_step ((go_at_call 28; exact C28.out _ _)) | quiet_step ((go_at_call 28; exact C28.out _ _)))
        refine wpQuiet_nil ?_
        intro _ hw'
        obtain ⟨⟨dq, osq⟩, hw''⟩ := hw'
        subst hw''
        have kkq := hidI (below_regrown V dq osq)
        generalize Go.Sort.grow (redrawn V dq) osq = wu at *
        clear q0 q1 q2 C28
        go_wp2
        go_ret
        exact ⟨rfl, HBw3.out.trans (kkq.out.mono hVw)⟩
      replace hkc : kd = c.kind := Classical.not_not.1 hkc
      have HGC : Hid (goodC cs' c = decide (zs = c.vals)) := hidI (by simp only [goodC, hkd, hzs, decide_eq_true hkc, Bool.true_and])
      rw [hkc] at C1
      have hbk : ∀ (y u : World), RowKit.Below V.heap.size V y → RowKit.Below y.heap.size y u → RowKit.Below V.heap.size V u := fun y u h1 h2 => h1.trans (h2.mono h1.size)
      have hSk : ∀ (y u : World), (y.cell? ⟨kb, 0, none⟩ = some (.string c.name) ∧ y.cell? ⟨kb, 1, none⟩ = some (.int .u8 c.side) ∧ y.cell? ⟨cb, 0, none⟩ = some (.int .u8 c.kind) ∧ y.cell? ⟨cb, 1, none⟩ = some (.slice (some ⟨c.row, 0, none⟩) c.vals.length c.cap)) → RowKit.Below y.heap.size y u → (u.cell? ⟨kb, 0, none⟩ = some (.string c.name) ∧ u.cell? ⟨kb, 1, none⟩ = some (.int .u8 c.side) ∧ u.cell? ⟨cb, 0, none⟩ = some (.int .u8 c.kind) ∧ u.cell? ⟨cb, 1, none⟩ = some (.slice (some ⟨c.row, 0, none⟩) c.vals.length c.cap)) := fun y u h1 h2 => by
        have z : ∀ {p : Addr} {v : Value}, y.cell? p = some v → u.cell? p = some v := fun {p v} hc => (h2.cell (World.block_lt_of_cell? y _ hc)).trans hc
        exact ⟨z h1.1, z h1.2.1, z h1.2.2.1, z h1.2.2.2⟩
      have D1 : Hid (∀ y, RowKit.Below V.heap.size V y → (y.cell? ⟨kb, 0, none⟩ = some (.string c.name) ∧ y.cell? ⟨kb, 1, none⟩ = some (.int .u8 c.side) ∧ y.cell? ⟨cb, 0, none⟩ = some (.int .u8 c.kind) ∧ y.cell? ⟨cb, 1, none⟩ = some (.slice (some ⟨c.row, 0, none⟩) c.vals.length c.cap)) → Calls Try.prog 28 #[.pointer (some ⟨ob, 0, none⟩), ke c.name c.side] y fun e u => e = .returned (.int .u8 c.kind) ∧ RowKit.Below V.heap.size V u ∧ (u.cell? ⟨kb, 0, none⟩ = some (.string c.name) ∧ u.cell? ⟨kb, 1, none⟩ = some (.int .u8 c.side) ∧ u.cell? ⟨cb, 0, none⟩ = some (.int .u8 c.kind) ∧ u.cell? ⟨cb, 1, none⟩ = some (.slice (some ⟨c.row, 0, none⟩) c.vals.length c.cap))) := hidI fun y hy hS => (C1.out y hy).mono (by rintro e u ⟨rfl, hb⟩; exact ⟨rfl, hbk y u hy hb, hSk y u hS hb⟩)
      have D2 : Hid (∀ y, RowKit.Below V.heap.size V y → (y.cell? ⟨kb, 0, none⟩ = some (.string c.name) ∧ y.cell? ⟨kb, 1, none⟩ = some (.int .u8 c.side) ∧ y.cell? ⟨cb, 0, none⟩ = some (.int .u8 c.kind) ∧ y.cell? ⟨cb, 1, none⟩ = some (.slice (some ⟨c.row, 0, none⟩) c.vals.length c.cap)) → Calls Try.prog 26 #[.pointer (some ⟨ob, 0, none⟩), ke c.name c.side] y fun e u => ∃ v, e = .returned v ∧ Sees u v zs ∧ RowKit.Below V.heap.size V u ∧ (u.cell? ⟨kb, 0, none⟩ = some (.string c.name) ∧ u.cell? ⟨kb, 1, none⟩ = some (.int .u8 c.side) ∧ u.cell? ⟨cb, 0, none⟩ = some (.int .u8 c.kind) ∧ u.cell? ⟨cb, 1, none⟩ = some (.slice (some ⟨c.row, 0, none⟩) c.vals.length c.cap))) := hidI fun y hy hS => by
        refine (whole_list (H'.out.below (HBw3.out.trans (hy.mono hVw)) (Nat.le_refl _)) hok.2.1 hok.2.2.1).mono ?_
        rintro e u ⟨v, rfl, hv, hb⟩
        rw [hzs] at hv
        exact ⟨v, rfl, hv, hbk y u hy hb, hSk y u hS hb⟩
      have D3 : Hid (∀ y v, RowKit.Below V.heap.size V y → (y.cell? ⟨kb, 0, none⟩ = some (.string c.name) ∧ y.cell? ⟨kb, 1, none⟩ = some (.int .u8 c.side) ∧ y.cell? ⟨cb, 0, none⟩ = some (.int .u8 c.kind) ∧ y.cell? ⟨cb, 1, none⟩ = some (.slice (some ⟨c.row, 0, none⟩) c.vals.length c.cap)) → Sees y v zs → Calls Try.prog 50 #[v, .slice (some ⟨c.row, 0, none⟩) c.vals.length c.cap] y fun e u => e = .returned (.bool (decide (zs = c.vals))) ∧ RowKit.Below V.heap.size V u ∧ (u.cell? ⟨kb, 0, none⟩ = some (.string c.name) ∧ u.cell? ⟨kb, 1, none⟩ = some (.int .u8 c.side) ∧ u.cell? ⟨cb, 0, none⟩ = some (.int .u8 c.kind) ∧ u.cell? ⟨cb, 1, none⟩ = some (.slice (some ⟨c.row, 0, none⟩) c.vals.length c.cap))) := hidI fun y v hy hS hv => by
        obtain ⟨_, _, _, hcr, hcv⟩ := HF2.out
        have h30 := hok.2.2.2.2.2.2.1
        refine (equal_any hv (ys := c.vals) ⟨_, _, rfl, .inr ⟨c.row, 0, rfl, fun j hj => ?_⟩⟩ hzl (by omega)).mono (by rintro e u ⟨rfl, hb⟩; exact ⟨rfl, hbk y u hy hb, hSk y u hS hb⟩)
        rw [Nat.zero_add]
        exact ((HBw3.out.trans (hy.mono hVw)).cell (p := ⟨c.row, j, none⟩) hcr).trans (hcv j hj).1
      have k6 : (c.kind == c.kind) = true := by simp
      obtain ⟨q, hq⟩ : ∃ q, decide (zs = c.vals) = q := ⟨_, rfl⟩
      rw [hq] at D3 HGC
      clear hbk hSk C1 hkd hzs hkc hq hzl hok
      cases q with
      | true =>
        go_region_held3 (fun y => y.cell? ⟨kb, 0, none⟩ = some (.string c.name) ∧ y.cell? ⟨kb, 1, none⟩ = some (.int .u8 c.side) ∧ y.cell? ⟨cb, 0, none⟩ = some (.int .u8 c.kind) ∧ y.cell? ⟨cb, 1, none⟩ = some (.slice (some ⟨c.row, 0, none⟩) c.vals.length c.cap))
          (first | exact ⟨by go_keep, by go_keep, by go_keep, by go_keep⟩ | assumption)
          ((first
            | (go_at_call 28; refine Calls.mono (D1.out _ (by (repeat (first | exact Below.refl _ _ | assumption | refine Below.drew ?_ | refine Below.alloc ?_ (by first | omega | (simp; done) | (simp; omega)) _ | refine Below.setCell ?_ (by first | omega | (simp; done) | (simp; omega)) _))) (by assumption)) ?_; rintro e u1 ⟨rfl, hb1, hS1⟩)
            | (go_at_call 26; refine Calls.mono (D2.out _ (by assumption) (by assumption)) ?_; rintro e u2 ⟨l2, rfl, hs2, hb2, hS2⟩)
            | (go_at_call 50; refine Calls.mono (D3.out _ _ (by assumption) (by assumption) hs2) ?_; rintro e u3 ⟨rfl, hb3, hS3'⟩)))
        all_goals
          have HU : Hid (RowKit.Below V.heap.size V u3) := hidI hb3
          clear hb1 hb2 hb3 hS1 hS2 hS3' hs2 D1 D2 D3
          go_wp2
          go_roundg (leftOf es (seen.push e.born)).size
          case measure => have := HSH.out; omega
          case rel =>
            have hl := HSH.out
            obtain ⟨hsv, hvn, hvin, hgood, _, _, _⟩ := HI.out
            obtain ⟨hem, hesn, hci, hece⟩ := HEM.out
            have hrV : r < V.heap.size := (Array.getElem?_eq_some_iff.1 HR3.out).1
            refine ⟨_, _, vis ++ [e], seen.push e.born, cs.length, rfl, rfl, ⟨rfl, by simp; omega⟩, hidI ⟨?_, ?_, ?_, ?_, (HU.out.block r hrV).trans HR3.out, Nat.le_refl _, HBw3.out.trans (HU.out.mono hVw)⟩⟩
            · simp [hsv]
            · rw [List.map_append, List.map_cons, List.map_nil, List.nodup_append]
              refine ⟨hvn, by simp, fun a ha b hb hab => ?_⟩
              obtain rfl : b = e.born := by simpa using hb
              subst hab
              have hcon : seen.contains e.born = true := by rw [Array.contains_iff_mem, ← Array.mem_toList_iff, hsv]; exact ha
              rw [hesn] at hcon
              exact absurd hcon (by decide)
            · intro x hx
              rcases List.mem_append.1 hx with hx | hx
              · exact hvin x hx
              · obtain rfl : x = e := by simpa using hx
                exact hem
            · intro x hx
              rcases List.mem_append.1 hx with hx | hx
              · exact hgood x hx
              · obtain rfl : x = e := by simpa using hx
                exact ⟨i, c, hci, hece, HGC.out⟩
      | false =>
        obtain rfl : false = res := by
          rw [← HRES.out, sameB]
          refine (Bool.and_eq_false_iff.2 (.inr ?_)).symm
          rw [List.all_eq_false]
          exact ⟨c, List.mem_of_getElem? HEM.out.2.2.1, by rw [HGC.out]; decide⟩
        go_region_held3 (fun y => y.cell? ⟨kb, 0, none⟩ = some (.string c.name) ∧ y.cell? ⟨kb, 1, none⟩ = some (.int .u8 c.side) ∧ y.cell? ⟨cb, 0, none⟩ = some (.int .u8 c.kind) ∧ y.cell? ⟨cb, 1, none⟩ = some (.slice (some ⟨c.row, 0, none⟩) c.vals.length c.cap))
          (first | exact ⟨by go_keep, by go_keep, by go_keep, by go_keep⟩ | assumption)
          ((first
            | (go_at_call 28; refine Calls.mono (D1.out _ (by (repeat (first | exact Below.refl _ _ | assumption | refine Below.drew ?_ | refine Below.alloc ?_ (by first | omega | (simp; done) | (simp; omega)) _ | refine Below.setCell ?_ (by first | omega | (simp; done) | (simp; omega)) _))) (by assumption)) ?_; rintro e u1 ⟨rfl, hb1, hS1⟩)
            | (go_at_call 26; refine Calls.mono (D2.out _ (by assumption) (by assumption)) ?_; rintro e u2 ⟨l2, rfl, hs2, hb2, hS2⟩)
            | (go_at_call 50; refine Calls.mono (D3.out _ _ (by assumption) (by assumption) hs2) ?_; rintro e u3 ⟨rfl, hb3, hS3'⟩)))
        all_goals
          have HU : Hid (RowKit.Below V.heap.size V u3) := hidI hb3
          clear hb1 hb2 hb3 hS1 hS2 hS3' hs2 D1 D2 D3
          go_wp2
          go_ret
          exact ⟨rfl, HBw3.out.trans (HU.out.mono hVw)⟩
end Go.Proofs.Ytbjoljokdjgbnab
