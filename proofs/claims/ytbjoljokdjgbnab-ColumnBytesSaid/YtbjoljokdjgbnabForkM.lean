/-
  Fork of a whole table.
-/
import Derived.Test.YtbjoljokdjgbnabFork7M
namespace Go.Proofs.Ytbjoljokdjgbnab
open Go.RowKit Go.Deep Go.MapKept Go.Sort Go.Shelf
open Go.ChangeMaps (setBlock)
/-- The column of an entry, by its stamp. -/
def colAt (cs : List Column) (e : MapEntry) : One := (cs.getD e.born ⟨⟨#[]⟩, 0, 0, [], 0, 0⟩).one
theorem colAt_entry {cs : List Column} {i : Nat} {c : Column} (h : cs[i]? = some c) : colAt cs (c.entry i) = c.one := by simp [colAt, Column.entry, List.getD, h]
theorem colAt_ents (cs : List Column) : (ents 0 cs).map (colAt cs) = cs.map Column.one := by
  apply List.ext_getElem?
  intro i
  rw [List.getElem?_map, List.getElem?_map, ents_get]
  cases h : cs[i]? with
  | none => rfl
  | some c => simp only [Option.map_some, Nat.zero_add, colAt_entry h]
/-- The map behind one more entry. -/
def forkOb (csf : List Column) (c : Column) (v : Value) : Obj := .map ((ents 0 csf).toArray.push { key := ke c.name c.side, val := .agg #[.int .u8 c.kind, v], born := csf.length }) (csf.length + 1)
/-- What Fork leaves. -/
def ForkPost (w : World) (n m : Int) (cs : List Column) (e : Ending) (w' : World) : Prop := ∃ tf mf csf, e = .returned (.pointer (some ⟨tf, 0, none⟩)) ∧ Whole w' tf mf n m csf ∧ (csf.map Column.one).Perm (cs.map Column.one) ∧ RowKit.Below w.heap.size w w' ∧ w.heap.size ≤ tf ∧ w.heap.size ≤ mf ∧ ∀ c ∈ csf, w.heap.size ≤ c.row
theorem whole_new (w : World) (n m : Int) : Whole ((w.alloc (.map #[] 0)).alloc (.cells #[.int .i64 n, .int .i64 m, .map (some w.heap.size)] 95)) (w.heap.size + 1) w.heap.size n m [] := by
  refine ⟨by go_simp, by go_simp, by go_simp, ?_, by simp, ?_, ?_, by simp⟩
  · rw [Below.heap_alloc _ _ _ (by simp), World.alloc_heap_new]
    rfl
  · intro i j a b h; simp at h
  · intro i j a b h; simp at h
set_option maxRecDepth 100000 in
set_option maxHeartbeats 3000000 in
theorem fork_any {w : World} {tb mb : Nat} {n m : Int} {cs : List Column} (h : Whole w tb mb n m cs) (hmay : mayT n m) (hpos : ∀ c ∈ cs, 1 ≤ c.vals.length) :
    Calls Try.prog 21 #[.pointer (some ⟨tb, 0, none⟩)] w (ForkPost w n m cs) := by
  have H := hidI h
  have HST := hidI (ents_stamped h.2.2.2.2.2.1)
  have HPOS := hidI hpos
  have hes : (ents 0 cs).toArray.size = cs.length := by simp [ents_length]
  have h24 := h.2.2.2.2.2.2.2
  have CN := hidI (fun u => cnew_ok n m u hmay)
  have c0 := h.1
  have c1 := h.2.1
  have c2 := h.2.2.1
  have htb : tb < w.heap.size := h.lt (.inl rfl)
  have hmb : mb < w.heap.size := h.lt (.inr (.inl rfl))
  clear h hpos
  go_enter Try.func21, Try.ntmps21
  go_wp2
  go_region_held3 (fun y => y.cell? ⟨tb, 0, none⟩ = some (.int .i64 n) ∧ y.cell? ⟨tb, 1, none⟩ = some (.int .i64 m))
    (exact ⟨by go_keep, by go_keep⟩)
    ((go_at_call 40; refine Calls.mono (CN.out _) ?_; rintro e w' ⟨rfl, rfl⟩))
  have hWn : Whole (((w.alloc (.map #[] 0)).alloc (.cells #[.int .i64 n, .int .i64 m, .map (some w.heap.size)] 95)).drew) (w.heap.size + 1) w.heap.size n m [] := whole_new w n m
  have hb1 : RowKit.Below w.heap.size w (((w.alloc (.map #[] 0)).alloc (.cells #[.int .i64 n, .int .i64 m, .map (some w.heap.size)] 95)).drew) := (by (repeat (first | exact Below.refl _ _ | assumption | refine Below.drew ?_ | refine Below.alloc ?_ (by first | omega | (simp; done) | (simp; omega)) _ | refine Below.setCell ?_ (by first | omega | (simp; done) | (simp; omega)) _)))
  have hs1 : (((w.alloc (.map #[] 0)).alloc (.cells #[.int .i64 n, .int .i64 m, .map (some w.heap.size)] 95)).drew).heap.size = w.heap.size + 2 := by
    show ((w.alloc (.map #[] 0)).alloc (.cells #[.int .i64 n, .int .i64 m, .map (some w.heap.size)] 95)).heap.size = _
    simp
  obtain ⟨W1, hW1⟩ : ∃ W1, (((w.alloc (.map #[] 0)).alloc (.cells #[.int .i64 n, .int .i64 m, .map (some w.heap.size)] 95)).drew) = W1 := ⟨_, rfl⟩
  rw [hW1] at hWn hb1 hs1 ⊢
  clear hW1
  obtain ⟨tf, htf⟩ : ∃ tf, w.heap.size + 1 = tf := ⟨_, rfl⟩
  rw [htf] at hWn ⊢
  have hWb := hWn
  have c2' : W1.cell? ⟨tb, 2, none⟩ = some (.map (some mb)) := (hb1.cell (p := ⟨tb, 2, none⟩) htb).trans c2
  have hb' : W1.heap[mb]? = some (.map (ents 0 cs).toArray cs.length) := (hb1.block mb hmb).trans H.out.2.2.2.1
  have qr := run_range_map (P := Try.prog) W1 93 40 97 mb (ents 0 cs).toArray cs.length Try.underlying93 hb'
  have hr0 : (W1.alloc (.mapIter (some mb) cs.length #[] cs.length)).heap[W1.heap.size]? = some (.mapIter (some mb) cs.length #[] cs.length) := World.alloc_heap_new W1 _
  have b2 : RowKit.Below w.heap.size w (W1.alloc (.mapIter (some mb) cs.length #[] cs.length)) := hb1.alloc hb1.size _
  have hW2 : Whole (W1.alloc (.mapIter (some mb) cs.length #[] cs.length)) tf w.heap.size n m [] := hWn.below ((Below.refl _ W1).alloc (Nat.le_refl _) _) (Nat.le_refl _)
  obtain ⟨r, hre⟩ : ∃ r, W1.heap.size = r := ⟨_, rfl⟩
  have hrw : r = w.heap.size + 2 := by rw [← hre]; exact hs1
  obtain ⟨mf, hmf⟩ : ∃ mf, w.heap.size = mf := ⟨_, rfl⟩
  have HFF : Hid (tf = w.heap.size + 1 ∧ mf = w.heap.size ∧ r = w.heap.size + 2) := hidI ⟨htf.symm, hmf.symm, hrw⟩
  have HR0 := hidI hr0
  have HB0 := hidI b2
  have HW0 : Hid (Whole (W1.alloc (.mapIter (some mb) cs.length #[] cs.length)) tf mf n m []) := hidI (by rw [← hmf]; exact hW2)
  rw [hre] at HR0
  have hle0 : (leftOf (ents 0 cs).toArray #[]).size = (ents 0 cs).toArray.size := by simp [leftOf]
  have HLE := hidI hle0
  obtain ⟨es, hese⟩ : ∃ es, (ents 0 cs).toArray = es := ⟨_, rfl⟩
  have HES0 := hidI hese
  rw [hese] at HLE hes HST
  clear hb' hW2 b2 hr0 hle0 hWb hWn htf hmf hrw hese c0 c1 hs1
  go_wp2
  clear qr c2' c2 hb1
  go_loopg [4, 5] es.size (fun g s4 s5 wx => ∃ (v4 v5 : Value) (vis : List MapEntry) (seen : Array Nat) (c0 : Nat) (csf : List Column), v4 = s4 ∧ v5 = s5 ∧ ((leftOf es seen).size = g ∧ vis.length + g ≤ es.size) ∧ Hid (seen.toList = vis.map (·.born) ∧ (vis.map (·.born)).Nodup ∧ (∀ e ∈ vis, e ∈ es.toList) ∧ csf.map Column.one = vis.map (colAt cs) ∧ Whole wx tf mf n m csf ∧ wx.heap[r]? = some (.mapIter (some mb) cs.length seen c0) ∧ cs.length ≤ c0 ∧ RowKit.Below w.heap.size w wx ∧ ∀ c ∈ csf, r < c.row))
  case atStart => exact ⟨_, _, [], #[], cs.length, [], rfl, rfl, ⟨HLE.out, by simp⟩, hidI ⟨rfl, by simp, by simp, rfl, HW0.out, HR0.out, Nat.le_refl _, HB0.out, by simp⟩⟩
  case round =>
    obtain ⟨v4, v5, vis, seen, c0, csf, rfl, rfl, ⟨hlg, hvg⟩, HI⟩ := hrel
    obtain ⟨hsv, hvn, hvin, hone, hWf, hr, hc0, hbl, hrows⟩ := HI.out
    have hbr : wr.heap[mb]? = some (.map es cs.length) := by rw [← HES0.out]; exact (hbl.block mb hmb).trans H.out.2.2.2.1
    have hszr := hbl.size
    clear HR0 HB0 HW0 HLE
    rcases run_next_at (P := Try.prog) wr 0 r mb cs.length c0 seen es cs.length hr hbr HST.out.1 hc0 with ⟨h0, hrun⟩ | ⟨e, he, wn, hal, hrun⟩
    · have hp := vis_perm HST.out.2.1 hsv hvn hvin (all_seen es seen h0)
      have HP : Hid ((csf.map Column.one).Perm (cs.map Column.one)) := hidI (by
        rw [hone, ← colAt_ents cs]
        have := hp.map (colAt cs)
        rwa [← HES0.out] at this)
      clear hp hsv hvn hvin hone hWf hr hbr hbl hrows hc0
      go_wp2
      go_ret
      obtain ⟨_, _, _, _, hWf, _, _, hbl, hrows⟩ := HI.out
      obtain ⟨f1, f2, f3⟩ := HFF.out
      exact ⟨tf, mf, csf, rfl, hWf, HP.out, hbl, by omega, by omega, fun c hc => by have := hrows c hc; omega⟩
    · obtain ⟨hem, hesn⟩ := mem_left he
      obtain ⟨i, c, hci, hece⟩ := ents_mem (cs := cs) (k := 0) (by rw [← HES0.out] at hem; simpa using hem)
      rw [Nat.zero_add] at hece
      have hsh := left_shrinks es seen e he
      have hrl : r < wr.heap.size := (Array.getElem?_eq_some_iff.1 hr).1
      have hnh : wn.heap = wr.heap := by rcases hal with rfl | rfl <;> rfl
      have hg2 : wr.grownBy (setBlock wn r (.mapIter (some mb) cs.length (seen.push e.born) cs.length)) (some r) := by
        rcases hal with rfl | rfl <;> exact ⟨rfl, rfl, rfl, by simp [setBlock], fun i _ hi => by simp [setBlock, show r ≠ i from fun e1 => hi (by rw [e1])]; try rfl⟩
      have hr2 : (setBlock wn r (.mapIter (some mb) cs.length (seen.push e.born) cs.length)).heap[r]? = some (.mapIter (some mb) cs.length (seen.push e.born) cs.length) := by simp [setBlock, hnh, hrl]
      obtain ⟨W2, hW2⟩ : ∃ W2, setBlock wn r (.mapIter (some mb) cs.length (seen.push e.born) cs.length) = W2 := ⟨_, rfl⟩
      rw [hW2] at hrun hg2 hr2
      obtain ⟨f1, f2, f3⟩ := HFF.out
      have hb2 : W2.heap[mb]? = some (.map es cs.length) := (hg2.block mb (by omega) (by intro h; have := Option.some.inj h; omega)).trans hbr
      have qe := run_entry_at (P := Try.prog) W2 r mb cs.length seen es cs.length e hr2 hb2 hem HST.out.2.1
      have hek : e.key = ke c.name c.side := by rw [hece]; rfl
      have hev : e.val = .agg #[.int .u8 c.kind, .slice (some ⟨c.row, 0, none⟩) c.vals.length c.cap] := by rw [hece]; rfl
      rw [hek, hev] at hrun qe
      have hNB : ¬ NB tf mf csf r := by
        rintro (hh | hh | ⟨x, hx, hh⟩)
        · omega
        · omega
        · have := hrows x hx; omega
      have hWf2 := hWf.off hg2 hNB
      have hbl2 : RowKit.Below w.heap.size w W2 := hbl.grown hg2 hszr (fun j ej => by cases ej; omega)
      have hsz2 := hbl2.size
      have hr2l : r < W2.heap.size := (Array.getElem?_eq_some_iff.1 hr2).1
      have hcm := List.mem_of_getElem? hci
      obtain ⟨hcok, hcr, _, _, hcv⟩ := H.out.2.2.2.2.1 c hcm
      have HF2 := hidI (And.intro hWf2 (And.intro hbl2 (And.intro hr2 (And.intro hcok (And.intro hcr hcv)))))
      have HSH := hidI hsh
      have HEM := hidI (And.intro hem (And.intro hesn (And.intro hci hece)))
      clear hr hbr hWf hbl hWf2 hbl2 hg2 hr2 hb2 hW2 hal hnh hsv hvn hvin he hem hesn hsh hek hev hcv hcok hci hece hone hNB hrows f1 f2 f3
      have HNE : Hid (∀ x ∈ csf, ¬ (x.name = c.name ∧ x.side = c.side)) := hidI (by
        rintro x hx ⟨n1, n2⟩
        obtain ⟨hsv, _, hvin, hone, _⟩ := HI.out
        obtain ⟨hem, hesn, hci, hece⟩ := HEM.out
        have hx1 : x.one ∈ vis.map (colAt cs) := by rw [← hone]; exact List.mem_map.2 ⟨x, hx, rfl⟩
        obtain ⟨e', he', hxe⟩ := List.mem_map.1 hx1
        obtain ⟨i', c', hc', rfl⟩ := ents_mem (cs := cs) (k := 0) (by have := hvin e' he'; rw [← HES0.out] at this; simpa using this)
        rw [Nat.zero_add] at he' hxe
        rw [colAt_entry hc'] at hxe
        have k1 : c'.name = c.name := (congrArg One.name hxe).trans n1
        have k2 : c'.side = c.side := (congrArg One.side hxe).trans n2
        obtain rfl := H.out.2.2.2.2.2.1 i' i c' c hc' hci k1 k2
        have hin : e.born ∈ seen.toList := by rw [hsv]; exact List.mem_map.2 ⟨_, he', by rw [hece]; rfl⟩
        have hcon : seen.contains e.born = true := by rw [Array.contains_iff_mem, ← Array.mem_toList_iff]; exact hin
        rw [hesn] at hcon
        exact absurd hcon (by decide))
      go_wp2
      have HB3 : Hid (RowKit.Below W2.heap.size W2 ((((W2.alloc (.cells #[.string c.name, .int .u8 c.side] 40)).alloc (.cells #[.int .u8 c.kind, .slice (some ⟨c.row, 0, none⟩) c.vals.length c.cap] 97))).drew)) := hidI (by (repeat (first | exact Below.refl _ _ | assumption | refine Below.drew ?_ | refine Below.alloc ?_ (by first | omega | (simp; done) | (simp; omega)) _ | refine Below.setCell ?_ (by first | omega | (simp; done) | (simp; omega)) _)))
      have hS3 : (((W2.alloc (.cells #[.string c.name, .int .u8 c.side] 40)).alloc (.cells #[.int .u8 c.kind, .slice (some ⟨c.row, 0, none⟩) c.vals.length c.cap] 97))).drew.cell? ⟨tf, 2, none⟩ = some (.map (some mf)) ∧ (((W2.alloc (.cells #[.string c.name, .int .u8 c.side] 40)).alloc (.cells #[.int .u8 c.kind, .slice (some ⟨c.row, 0, none⟩) c.vals.length c.cap] 97))).drew.cell? ⟨W2.heap.size, 0, none⟩ = some (.string c.name) ∧ (((W2.alloc (.cells #[.string c.name, .int .u8 c.side] 40)).alloc (.cells #[.int .u8 c.kind, .slice (some ⟨c.row, 0, none⟩) c.vals.length c.cap] 97))).drew.cell? ⟨W2.heap.size, 1, none⟩ = some (.int .u8 c.side) ∧ (((W2.alloc (.cells #[.string c.name, .int .u8 c.side] 40)).alloc (.cells #[.int .u8 c.kind, .slice (some ⟨c.row, 0, none⟩) c.vals.length c.cap] 97))).drew.cell? ⟨W2.heap.size + 1, 0, none⟩ = some (.int .u8 c.kind) ∧ (((W2.alloc (.cells #[.string c.name, .int .u8 c.side] 40)).alloc (.cells #[.int .u8 c.kind, .slice (some ⟨c.row, 0, none⟩) c.vals.length c.cap] 97))).drew.cell? ⟨W2.heap.size + 1, 1, none⟩ = some (.slice (some ⟨c.row, 0, none⟩) c.vals.length c.cap) := by
        refine ⟨?_, by go_simp, by go_simp, by go_simp, by go_simp⟩
        have ht := HF2.out.1.2.2.1
        exact (HB3.out.cell (World.block_lt_of_cell? W2 _ ht)).trans ht
      have HBw3 : Hid (RowKit.Below w.heap.size w ((((W2.alloc (.cells #[.string c.name, .int .u8 c.side] 40)).alloc (.cells #[.int .u8 c.kind, .slice (some ⟨c.row, 0, none⟩) c.vals.length c.cap] 97))).drew)) := hidI (HF2.out.2.1.trans (HB3.out.mono hsz2))
      have hC3 : Calls Try.prog 51 #[.slice (some ⟨c.row, 0, none⟩) c.vals.length c.cap] ((((W2.alloc (.cells #[.string c.name, .int .u8 c.side] 40)).alloc (.cells #[.int .u8 c.kind, .slice (some ⟨c.row, 0, none⟩) c.vals.length c.cap] 97))).drew) fun e w' => ∃ u, e = .returned u ∧ w'.ownsRow ((((W2.alloc (.cells #[.string c.name, .int .u8 c.side] 40)).alloc (.cells #[.int .u8 c.kind, .slice (some ⟨c.row, 0, none⟩) c.vals.length c.cap] 97))).drew).heap.size 51 1 u c.vals.length (c.vals.map (Value.int .i64)) ∧ RowKit.Below ((((W2.alloc (.cells #[.string c.name, .int .u8 c.side] 40)).alloc (.cells #[.int .u8 c.kind, .slice (some ⟨c.row, 0, none⟩) c.vals.length c.cap] 97))).drew).heap.size ((((W2.alloc (.cells #[.string c.name, .int .u8 c.side] 40)).alloc (.cells #[.int .u8 c.kind, .slice (some ⟨c.row, 0, none⟩) c.vals.length c.cap] 97))).drew) w' := by
        obtain ⟨_, _, _, hcok, hcr, hcv⟩ := HF2.out
        have h30 := hcok.2.2.2.2.2.2.1
        refine cloneW_own ⟨c.row, 0, none⟩ c.cap c.vals _ (by omega) ⟨_, _, rfl, .inr ⟨c.row, 0, rfl, fun j hj => ?_⟩⟩
        rw [Nat.zero_add]
        exact (HBw3.out.cell (p := ⟨c.row, j, none⟩) hcr).trans (hcv j hj).1
      have hst3 : ∀ (y : World) (v : Value), RowKit.Below ((((W2.alloc (.cells #[.string c.name, .int .u8 c.side] 40)).alloc (.cells #[.int .u8 c.kind, .slice (some ⟨c.row, 0, none⟩) c.vals.length c.cap] 97))).drew).heap.size ((((W2.alloc (.cells #[.string c.name, .int .u8 c.side] 40)).alloc (.cells #[.int .u8 c.kind, .slice (some ⟨c.row, 0, none⟩) c.vals.length c.cap] 97))).drew) y → (Instr.mapUpdate 93 (.map (some mf)) (.agg #[.string c.name, .int .u8 c.side]) (.agg #[.int .u8 c.kind, v])).run Try.prog y = .ok () (setBlock y mf (forkOb csf c v)) := fun y v hy => by
        obtain ⟨hWf2, _, _, hcok, _, _⟩ := HF2.out
        have hmfl := hWf2.lt (.inr (.inl rfl))
        have hbm : y.heap[mf]? = some (.map (ents 0 csf).toArray csf.length) := (hy.block mf (Nat.lt_of_lt_of_le hmfl HB3.out.size)).trans ((HB3.out.block mf hmfl).trans hWf2.2.2.2.1)
        refine store_new (.agg #[.int .u8 c.kind, v]) hbm (ents_keyed fun x hx => (hWf2.2.2.2.2.1 x hx).1) hcok.2.1 hcok.2.2.1 fun e' he' hk' => ?_
        obtain ⟨i', x, hx, rfl⟩ := ents_mem (by simpa using he')
        exact HNE.out x (List.mem_of_getElem? hx) (ke_inj hk')
      refine reg7 (forkOb csf c) hS3 hC3 hst3 (fun _ _ _ _ _ h => h) ?_
      intro W6 v t27 t28 t29 t30 t31 t32 t33 t34 t35 t36 t37 hB6 hO6
      have HB6 := hidI hB6
      have HO6 := hidI hO6
      clear hB6 hO6 hS3 hC3 hst3
      go_wp2
      go_roundg (leftOf es (seen.push e.born)).size
      case measure => have := HSH.out; omega
      case rel =>
        have hl := HSH.out
        obtain ⟨hsv, hvn, hvin, hone, _, _, _, _, hrows⟩ := HI.out
        obtain ⟨hWf2, hbl2, hr2, hcok, hcr, hcv⟩ := HF2.out
        obtain ⟨hem, hesn, hci, hece⟩ := HEM.out
        obtain ⟨f1, f2, f3⟩ := HFF.out
        have hpc := HPOS.out c (List.mem_of_getElem? hci)
        have hmfl := hWf2.lt (.inr (.inl rfl))
        have hs3 : ((((W2.alloc (.cells #[.string c.name, .int .u8 c.side] 40)).alloc (.cells #[.int .u8 c.kind, .slice (some ⟨c.row, 0, none⟩) c.vals.length c.cap] 97))).drew).heap.size = W2.heap.size + 2 := by
          show (((W2.alloc (.cells #[.string c.name, .int .u8 c.side] 40)).alloc (.cells #[.int .u8 c.kind, .slice (some ⟨c.row, 0, none⟩) c.vals.length c.cap] 97))).heap.size = _
          simp
        have hs6 := HB6.out.size
        have hown := HO6.out
        obtain ⟨hlx, ⟨rfl, h0⟩ | ⟨g, cp, cur, rfl, hbg, hcur, hcap, hcm, hcs, htk⟩⟩ := hown
        · omega
        have hgl := (HO6.out.lt g rfl).2
        have hB26 : RowKit.Below W2.heap.size W2 W6 := HB3.out.trans (HB6.out.mono HB3.out.size)
        have hW7 : Whole (setBlock W6 mf (forkOb csf c (.slice (some ⟨g, 0, none⟩) c.vals.length cp))) tf mf n m (csf ++ [⟨c.name, c.side, c.kind, c.vals, g, cp⟩]) := by
          refine hWf2.add ?_ ?_ ?_ hcok (by simp only; omega) ?_ ?_ (fun x hx => HNE.out x hx) ?_
          · rw [show (setBlock W6 mf (forkOb csf c (.slice (some ⟨g, 0, none⟩) c.vals.length cp))).heap[mf]? = some (forkOb csf c (.slice (some ⟨g, 0, none⟩) c.vals.length cp)) by simp [setBlock, show mf < W6.heap.size by omega]]
            rw [ents_snoc]
            simp [forkOb, Column.entry]
          · have : (setBlock W6 mf (forkOb csf c (.slice (some ⟨g, 0, none⟩) c.vals.length cp))).heap.size = W6.heap.size := by simp [setBlock]
            omega
          · intro k hk hne
            rw [show (setBlock W6 mf (forkOb csf c (.slice (some ⟨g, 0, none⟩) c.vals.length cp))).heap[k]? = W6.heap[k]? by simp [setBlock, Ne.symm hne]]
            exact hB26.block k hk
          · simpa [setBlock] using hgl
          · intro j hj
            have hne : g ≠ mf := by omega
            have hbk : (setBlock W6 mf (forkOb csf c (.slice (some ⟨g, 0, none⟩) c.vals.length cp))).heap[g]? = W6.heap[g]? := by simp [setBlock, Ne.symm hne]
            refine ⟨(World.cell?_of_block (a := ⟨g, j, none⟩) hbk).trans ?_, (World.frozen?_of_block (a := ⟨g, j, none⟩) hbk).trans (by simp [World.frozen?, hcur])⟩
            rw [← add_at]
            exact World.ownsRow.cells HO6.out rfl _ _ (by simp [List.getD, show j < c.vals.length from hj])
          · have h1 : csf.length = vis.length := by have := congrArg List.length hone; simpa using this
            omega
        refine ⟨_, _, vis ++ [e], seen.push e.born, cs.length, csf ++ [⟨c.name, c.side, c.kind, c.vals, g, cp⟩], rfl, rfl, ⟨rfl, by simp; omega⟩, hidI ⟨?_, ?_, ?_, ?_, hW7, ?_, Nat.le_refl _, ?_, ?_⟩⟩
        · simp [hsv]
        · rw [List.map_append, List.map_cons, List.map_nil, List.nodup_append]
          refine ⟨hvn, by simp, fun a ha b hb hab => ?_⟩
          obtain rfl : b = e.born := by simpa using hb
          subst hab
          have hcon : seen.contains e.born = true := by rw [Array.contains_iff_mem, ← Array.mem_toList_iff, hsv]; exact ha
          rw [hesn] at hcon
          exact absurd hcon (by decide)
        · intro x hx
          rcases List.mem_append.1 hx with hx | hx
          · exact hvin x hx
          · obtain rfl : x = e := by simpa using hx
            exact hem
        · rw [List.map_append, List.map_append, hone]
          congr 1
          rw [hece]
          simp only [List.map_cons, List.map_nil, colAt_entry hci]
          rfl
        · rw [show (setBlock W6 mf (forkOb csf c (.slice (some ⟨g, 0, none⟩) c.vals.length cp))).heap[r]? = W6.heap[r]? by simp [setBlock, show mf ≠ r by omega]]
          exact (hB26.block r hr2l).trans hr2
        · exact (hbl2.trans (hB26.mono hsz2)).trans ⟨rfl, rfl, rfl, by simp [setBlock], fun k hk => by simp [setBlock, show mf ≠ k by omega]⟩
        · intro x hx
          rcases List.mem_append.1 hx with hx | hx
          · exact hrows x hx
          · obtain rfl : x = _ := by simpa using hx
            simp only; omega
end Go.Proofs.Ytbjoljokdjgbnab
