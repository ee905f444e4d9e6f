/-
  Depth: how many brackets stand within one another.
-/
import Derived.Test.YtnlplkchkhibaaaDoorSizeW
import Derived.Laws.OwnMore
namespace Go.Proofs.YtnlplkchkhibaaaDoor
open Go.RowKit Go.Deep Go.MapKept
def deepF (ds : List Int) (own : Int) (acc p : Int) : Int := if own < p ∧ p < (ds.length : Int) then max acc (ds.getD p.toNat 0) else acc
def deepest (ds : List Int) (own : Int) (ps : List Int) : Int := ps.foldl (deepF ds own) 0
theorem deepest_any (dv pv : Value) (ds ps : List Int) (own : Int) (ho : -1 ≤ own) (w : World) (hd : SeesC w dv ds.length 1 (intsI ds)) (hp : SeesC w pv ps.length 1 (intsI ps)) (hpl : ps.length ≤ 4611686018427387904) :
    Calls Tryd.prog 32 #[dv, .int .i64 own, pv] w fun e w' => e = .returned (.int .i64 (deepest ds own ps)) ∧ w = w' := by
  obtain ⟨_, da, dc, rfl, hdc⟩ := hd
  obtain ⟨_, pa, pc, rfl, hpc⟩ := hp
  have CB := hidI behind_any
  have HDC := hidI hdc
  have HPC := hidI hpc
  clear hdc hpc
  go_enter Tryd.func32, Tryd.ntmps32
  go_wp2
  go_loopg [7, 12] ps.length (fun g s7 s12 wx => ∃ i : Nat, i + g = ps.length ∧ s12 = .int .i64 (i : Int) ∧ s7 = .int .i64 ((ps.take i).foldl (deepF ds own) 0) ∧ w = wx)
  case atStart => exact ⟨0, by omega, rfl, rfl, rfl⟩
  case round =>
    obtain ⟨i, hi, rfl, rfl, rfl⟩ := hrel
    cases gk with
    | zero =>
      have hil : i = ps.length := by omega
      have e1 : ¬ ((i : Int) < (ps.length : Int)) := by omega
      subst hil
      rw [List.take_length]
      go_wp2
      go_ret
      exact ⟨rfl, rfl⟩
    | succ g =>
      have hil : i < ps.length := by omega
      have e1 : (i : Int) < (ps.length : Int) := by omega
      have e2 : (0 : Int) ≤ (i : Int) := by omega
      have e3 : ((i : Int)).toNat = i := by omega
      have hgi : ps[i]? = some ps[i] := List.getElem?_eq_getElem hil
      obtain ⟨p, hp⟩ : ∃ p, ps[i] = p := ⟨_, rfl⟩
      rw [hp] at hgi
      rcases HPC.out with h0 | ⟨pb, po, rfl, hpc⟩
      · omega
      have cp := hpc i _ (intsI_get hgi)
      have ht : (ps.take (i + 1)).foldl (deepF ds own) 0 = deepF ds own ((ps.take i).foldl (deepF ds own) 0) p := by rw [List.take_add_one, hgi]; simp
      have HT := hidI ht
      obtain ⟨acc, hacc⟩ : ∃ acc, (ps.take i).foldl (deepF ds own) 0 = acc := ⟨_, rfl⟩
      rw [hacc] at HT ⊢
      clear hpc hp ht hacc
      by_cases hin : own < p ∧ p < (ds.length : Int)
      · obtain ⟨pn, rfl⟩ : ∃ pn : Nat, p = (pn : Int) := ⟨p.toNat, by omega⟩
        have q : (decide (own < (pn : Int)) && decide ((pn : Int) < (ds.length : Int))) = true := by simp [hin.1, hin.2]
        have CB1 : Hid (∀ w : World, Calls Tryd.prog 49 #[.int .i64 own, .int .i64 (pn : Int), .int .i64 (ds.length : Int)] w fun e w' => e = .returned (.bool true) ∧ w = w') := hidI fun w => by have := CB.out own pn ds.length w; rwa [q] at this
        have hpl2 : pn < ds.length := by omega
        rcases HDC.out with h0 | ⟨db, d0, rfl, hdc⟩
        · omega
        have hgd : ds[pn]? = some (ds.getD pn 0) := by rw [List.getD_eq_getElem?_getD, List.getElem?_eq_getElem hpl2]; rfl
        have cd := hdc pn _ (intsI_get hgd)
        obtain ⟨dd, hdd⟩ : ∃ dd, ds.getD pn 0 = dd := ⟨_, rfl⟩
        rw [hdd] at cd
        have e4 : (pn : Int) < (ds.length : Int) := by omega
        have e5 : (0 : Int) ≤ (pn : Int) := by omega
        have e6 : ((pn : Int)).toNat = pn := by omega
        have HF : Hid (deepF ds own acc (pn : Int) = max acc dd) := hidI (by unfold deepF; rw [if_pos hin, e6, hdd])
        clear q hdc hgd hdd hin
        go_wp2_with (go_at_call 49; refine (CB1.out _).mono ?_; rintro e w' ⟨rfl, rfl⟩)
        go_roundg g
        case measure => omega
        case rel => exact ⟨i + 1, by omega, by go_num, by rw [HT.out, HF.out], rfl⟩
      · have q : (decide (own < p) && decide (p < (ds.length : Int))) = false := by
          rw [Bool.and_eq_false_iff]
          by_cases h1 : own < p
          · exact .inr (by simp; exact Int.not_lt.1 fun h2 => hin ⟨h1, h2⟩)
          · exact .inl (by simp; omega)
        have CB1 : Hid (∀ w : World, Calls Tryd.prog 49 #[.int .i64 own, .int .i64 p, .int .i64 (ds.length : Int)] w fun e w' => e = .returned (.bool false) ∧ w = w') := hidI fun w => by have := CB.out own p ds.length w; rwa [q] at this
        have HF : Hid (deepF ds own acc p = acc) := hidI (by unfold deepF; rw [if_neg hin])
        clear q hin
        go_wp2_with (go_at_call 49; refine (CB1.out _).mono ?_; rintro e w' ⟨rfl, rfl⟩)
        go_roundg g
        case measure => omega
        case rel => exact ⟨i + 1, by omega, by go_num, by rw [HT.out, HF.out], rfl⟩
end Go.Proofs.YtnlplkchkhibaaaDoor
/-
  Depth at every list of forms.
-/
namespace Go.Proofs.YtnlplkchkhibaaaDoor
open Go.RowKit Go.Deep Go.MapKept
/-- One form's depth more, from the end on. -/
def dval (ms : List MV) (ds : List Int) (i : Nat) : Int := match ms[i]? with | none => 0 | some x => if x.1.k = 1 then min (deepest ds i x.1.kids + 1) 13 else deepest ds i x.1.kids
def dall (ms : List MV) : Nat → List Int
  | 0 => List.replicate ms.length 0
  | k + 1 => (dall ms k).set (ms.length - 1 - k) (dval ms (dall ms k) (ms.length - 1 - k))
def depthOf (ms : List MV) (top : List Int) : Int := deepest (dall ms ms.length) (-1) top
theorem dall_len (ms : List MV) : ∀ k, (dall ms k).length = ms.length
  | 0 => by simp [dall]
  | k + 1 => by simp [dall, dall_len ms k]
theorem deepF_le {ds : List Int} (h : ∀ d ∈ ds, 0 ≤ d ∧ d ≤ 13) (own acc p : Int) (ha : 0 ≤ acc ∧ acc ≤ 13) : 0 ≤ deepF ds own acc p ∧ deepF ds own acc p ≤ 13 := by
  unfold deepF
  split
  · have : 0 ≤ ds.getD p.toNat 0 ∧ ds.getD p.toNat 0 ≤ 13 := by
      rw [List.getD_eq_getElem?_getD]
      cases hg : ds[p.toNat]? with
      | none => simp
      | some d => simpa using h d (List.mem_of_getElem? hg)
    omega
  · exact ha
theorem foldl_le {ds : List Int} (h : ∀ d ∈ ds, 0 ≤ d ∧ d ≤ 13) (own : Int) : ∀ (ps : List Int) (acc : Int), 0 ≤ acc ∧ acc ≤ 13 → 0 ≤ ps.foldl (deepF ds own) acc ∧ ps.foldl (deepF ds own) acc ≤ 13
  | [], _, ha => ha
  | p :: r, acc, ha => foldl_le h own r _ (deepF_le h own acc p ha)
theorem deepest_le {ds : List Int} (h : ∀ d ∈ ds, 0 ≤ d ∧ d ≤ 13) (own : Int) (ps : List Int) : 0 ≤ deepest ds own ps ∧ deepest ds own ps ≤ 13 := foldl_le h own ps 0 (by omega)
theorem dval_le {ms : List MV} {ds : List Int} (h : ∀ d ∈ ds, 0 ≤ d ∧ d ≤ 13) (i : Nat) : 0 ≤ dval ms ds i ∧ dval ms ds i ≤ 13 := by
  unfold dval
  split
  · omega
  · split
    · have := deepest_le h i; rename_i x _ _; have := this x.1.kids; omega
    · exact deepest_le h i _
theorem dall_le (ms : List MV) : ∀ k, ∀ d ∈ dall ms k, 0 ≤ d ∧ d ≤ 13
  | 0, d, hd => by obtain ⟨_, rfl⟩ := List.mem_replicate.1 hd; omega
  | k + 1, d, hd => by
    rcases List.mem_or_eq_of_mem_set hd with h | rfl
    · exact dall_le ms k d h
    · exact dval_le (dall_le ms k) _
theorem intsI_set (l : List Int) (i : Nat) (x : Int) : intsI (l.set i x) = (intsI l).set i (.int .i64 x) := by simp [intsI, List.map_set]
theorem made_ints (n : Nat) : (madeCells #[Value.int .i64 0] n).toList = intsI (List.replicate n 0) := by
  rw [toList_madeCells_one]
  simp [intsI]
theorem Tryd.info3parts : ∃ i0, Tryd.prog.info? 3 = some i0 ∧ i0.zero = some (.int .i64 0) ∧ i0.size = 1 ∧ i0.bytes = 8 := by
  obtain ⟨i0, hi, hz0, hz1, hz2⟩ := info_parts Tryd.info3x
  exact ⟨i0, hi, hz0, hz1, hz2⟩
theorem SeesM.cellAt {w : World} {v : Value} {ms : List MV} (h : SeesM w v ms) {i : Nat} {x : MV} (hx : ms[i]? = some x) : ∃ fb fo fc, v = .slice (some ⟨fb, fo, none⟩) ms.length fc ∧ ∀ j u, j < 5 → (mcells x)[j]? = some u → w.cell? ⟨fb, fo + i * 5 + j, none⟩ = some u := by
  obtain ⟨_, a, c, rfl, h0 | ⟨b, o, rfl, hc⟩⟩ := h.row
  · have := (List.getElem?_eq_some_iff.1 hx).1; omega
  · refine ⟨b, o, c, rfl, fun j u hj hu => ?_⟩
    have := hc (i * 5 + j) u (by rw [flatM_get ms i j x hx hj]; exact hu)
    rwa [← Nat.add_assoc] at this
set_option maxHeartbeats 2000000 in
theorem depth_any (fv tv : Value) (ms : List MV) (top : List Int) (w : World) (hm : SeesM w fv ms) (ht : SeesC w tv top.length 1 (intsI top)) (hml : ms.length ≤ 1000000) (hkl : ∀ x ∈ ms, x.1.kids.length ≤ 4611686018427387904) (htl : top.length ≤ 4611686018427387904) :
    Calls Tryd.prog 18 #[fv, tv] w fun e w' => e = .returned (.int .i64 (depthOf ms top)) ∧ Below w.heap.size w w' := by
  obtain ⟨i0, hi, hz0, hz1, hz2⟩ := Tryd.info3parts
  obtain ⟨_, fa, fc, hfv, _⟩ := hm.row
  have HM := hidI hm
  have HT := hidI ht
  have HKL := hidI hkl
  have wn : IntKind.i64.wrap ((ms.length : Int) - 1) = (ms.length : Int) - 1 := by rw [IntKind.wrap_i64]; omega
  subst hfv
  clear hm ht hkl
  go_enter Tryd.func18, Tryd.ntmps18
  go_wp2_with (at_make; go_must (refine wpList_make_full _ rfl _ _ 24 rfl w.heap.size 3 i0 (.int .i64 0) 1 Tryd.underlying24 hi hz0 hz1 _ _ _ _ ms.length rfl rfl rfl rfl (by rw [hz2]; omega) (by unfold maxLen; omega) (Nat.le_refl _) ?_); intro w1 hown1 hgrow1; refine Hid.out ?_)
  rw [show (Value.int .i64 0).cells = #[Value.int .i64 0] from rfl, Nat.mul_one, made_ints] at hown1
  have hb1 : Below w.heap.size w w1 := (Below.refl _ w).grown hgrow1 (Nat.le_refl _) (fun _ e => by cases e)
  refine hidI ?_
  have HO1 := hidI hown1
  have HB1 := hidI hb1
  clear hown1 hgrow1 hb1
  go_wp2
  go_loopg [6] ms.length (fun g s6 wx => ∃ k : Nat, k + g = ms.length ∧ s6 = .int .i64 ((g : Int) - 1) ∧ Hid (wx.ownsRow w.heap.size 3 1 (.slice (some ⟨w.heap.size, 0, none⟩) ms.length ms.length) ms.length (intsI (dall ms k))) ∧ Hid (Below w.heap.size w wx))
  case atStart => exact ⟨0, by omega, rfl, HO1, HB1⟩
  case round =>
    obtain ⟨k, hk, rfl, HO, HB⟩ := hrel
    have hdl := dall_len ms k
    cases gk with
    | zero =>
      have e1 : ¬ ((0 : Int) ≤ ((0 : Nat) : Int) - 1) := by omega
      obtain rfl : k = ms.length := by omega
      have HC := hidI (deepest_any (.slice (some ⟨w.heap.size, 0, none⟩) ms.length ms.length) tv (dall ms ms.length) top (-1) (by omega) wr (by rw [hdl]; exact seesC_of_owns HO.out) (HT.out.below HB.out (Nat.le_refl _)) htl)
      clear hdl
      go_wp2_with (go_at_call 32; refine HC.out.mono ?_; rintro e w' ⟨rfl, rfl⟩)
      go_ret
      exact ⟨rfl, HB.out⟩
    | succ g =>
      have hgn : ms.length - 1 - k = g := by omega
      have hgl : g < ms.length := by omega
      have hxn : ms[g]? = some ms[g] := List.getElem?_eq_getElem hgl
      obtain ⟨x, hx⟩ : ∃ x, ms[g] = x := ⟨_, rfl⟩
      rw [hx] at hxn
      have hsm := HM.out.below HB.out (Nat.le_refl _)
      obtain ⟨fb, fo, fc', hfv, hcs⟩ := hsm.cellAt hxn
      cases hfv
      have ck := hcs 3 x.2 (by omega) rfl
      have c0 := hcs 0 (.int .u8 x.1.k) (by omega) rfl
      have hks := hsm.kid g x hxn
      have hks2 := hks
      obtain ⟨_, ka, kc, hkv, _⟩ := hks2
      have hds := deepest_le (dall_le ms k) (g : Int) x.1.kids
      have HC := hidI (deepest_any (.slice (some ⟨w.heap.size, 0, none⟩) ms.length ms.length) x.2 (dall ms k) x.1.kids (g : Int) (by omega) wr (by rw [hdl]; exact seesC_of_owns HO.out) hks (HKL.out x (List.mem_of_getElem? hxn)))
      obtain ⟨d, hdd⟩ : ∃ d, deepest (dall ms k) (g : Int) x.1.kids = d := ⟨_, rfl⟩
      have HDV : Hid (dval ms (dall ms k) g = if x.1.k = 1 then min (d + 1) 13 else d) := hidI (by unfold dval; rw [hxn]; simp only [hdd])
      have HDA : Hid (dall ms (k + 1) = (dall ms k).set g (dval ms (dall ms k) g)) := hidI (by show (dall ms k).set _ _ = _; rw [hgn])
      rw [hkv] at ck HC
      rw [hdd] at HC hds
      have e0 : (((g + 1 : Nat) : Int) - 1) = (g : Int) := by omega
      rw [e0]
      have e1 : (0 : Int) ≤ (g : Int) := by omega
      have e2 : (g : Int) < (ms.length : Int) := by omega
      have e3 : ((g : Int)).toNat = g := by omega
      have hcell : ∃ u, wr.cell? ⟨w.heap.size, g, none⟩ = some (.int .i64 u) := by
        have hg2 : (dall ms k)[g]? = some ((dall ms k)[g]'(by rw [hdl]; exact hgl)) := List.getElem?_eq_getElem _
        exact ⟨_, own_cell HO.out (intsI_get hg2)⟩
      obtain ⟨u, hu⟩ := hcell
      have hfz := own_free HO.out g
      have HO2 := hidI (own_setG (j := g) HO.out (.int .i64 d))
      have wg : IntKind.i64.wrap ((g : Int) - 1) = (g : Int) - 1 := by rw [IntKind.wrap_i64]; omega
      have hw2 : (wr.setCell ⟨w.heap.size, g, none⟩ (.int .i64 d)).cell? ⟨w.heap.size, g, none⟩ = some (.int .i64 d) := World.cell?_setCell_same wr _ _ hu
      have hfz2 : (wr.setCell ⟨w.heap.size, g, none⟩ (.int .i64 d)).frozen? ⟨w.heap.size, g, none⟩ = false := (World.frozen?_setCell _ _ _ _).trans hfz
      have hfbl : fb < w.heap.size := by
        have := sees_lt HM.out.row (by decide) (by omega) fb rfl
        exact this
      have c0' : (wr.setCell ⟨w.heap.size, g, none⟩ (.int .i64 d)).cell? ⟨fb, fo + g * 5, none⟩ = some (.int .u8 x.1.k) := (World.cell?_of_block (w := wr) (Below.heap_setCell wr ⟨w.heap.size, g, none⟩ _ fb (by simp; omega))).trans c0
      clear hx hsm hcs hks hkv hdd hxn hdl
      by_cases hk1 : x.1.k = 1
      · rw [hk1] at c0'
        have HDV2 := hidI HDV.out
        rw [if_pos hk1] at HDV2
        have wd : IntKind.i64.wrap (d + 1) = d + 1 := by rw [IntKind.wrap_i64]; omega
        have HO3 := hidI (own_setG (j := g) HO2.out (.int .i64 (min (d + 1) 13)))
        go_wp2_with (go_at_call 32; refine HC.out.mono ?_; rintro e w' ⟨rfl, rfl⟩)
        go_roundg g
        case measure => omega
        case rel =>
          refine ⟨k + 1, by omega, by first | rfl | go_num, ?_, hidI ((HB.out.setCell (Nat.le_refl _) _).setCell (Nat.le_refl _) _)⟩
          have := HO3.out
          rw [List.set_set] at this
          rw [HDA.out, HDV2.out, intsI_set]
          exact this
      · have HDV2 := hidI HDV.out
        rw [if_neg hk1] at HDV2
        have q1 : (x.1.k == 1) = false := by simp [hk1]
        go_wp2_with (go_at_call 32; refine HC.out.mono ?_; rintro e w' ⟨rfl, rfl⟩)
        go_roundg g
        case measure => omega
        case rel =>
          refine ⟨k + 1, by omega, by first | rfl | go_num, ?_, hidI (HB.out.setCell (Nat.le_refl _) _)⟩
          rw [HDA.out, HDV2.out, intsI_set]
          exact HO2.out
end Go.Proofs.YtnlplkchkhibaaaDoor
