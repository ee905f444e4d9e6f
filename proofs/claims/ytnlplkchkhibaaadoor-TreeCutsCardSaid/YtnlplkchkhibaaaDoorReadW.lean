/-
  Tokens read, one behind the other; a fault is caught.
-/
import Derived.Test.YtnlplkchkhibaaaDoorCatch
namespace Go.Proofs.YtnlplkchkhibaaaDoor
open Go.RowKit Go.Deep Go.MapKept
theorem two_apart (w : World) (a b c : Value) (h : a = .slice none 0 0 ∧ b = .slice none 0 0 ∧ c = .slice none 0 0) : RD ((w.alloc (.cells #[a, b, c] 57)).alloc (.cells #[.int .i64 0, .int .i64 0] 59)) w.heap.size w.heap.size [] [] [] a b c := by
  obtain ⟨rfl, rfl, rfl⟩ := h
  constructor
  · intro r hr
    simp only [rrows, List.map_nil, List.mem_cons, List.mem_nil_iff, or_false] at hr
    rcases hr with rfl | rfl | rfl | rfl | rfl
    · refine World.ownsRow.alloc ?_ _
      exact ⟨rfl, .inr ⟨w.heap.size, 1, #[.slice none 0 0, .slice none 0 0, .slice none 0 0], rfl, Nat.le_refl _, by show (w.heap.push _)[w.heap.size]? = _; simp, Nat.le_refl _, by decide, rfl, rfl⟩⟩
    · exact World.ownsRow_nil _ _ _ _
    · exact World.ownsRow_nil _ _ _ _
    · exact World.ownsRow_nil _ _ _ _
    · exact ⟨rfl, .inr ⟨w.heap.size + 1, 1, #[.int .i64 0, .int .i64 0], rfl, by omega, by show ((w.heap.push _).push _)[w.heap.size + 1]? = _; rw [show w.heap.size + 1 = (w.heap.push (Obj.cells #[Value.slice none 0 0, Value.slice none 0 0, Value.slice none 0 0] 57)).size by simp, Array.getElem?_push_size], Nat.le_refl _, by decide, rfl, rfl⟩⟩
  · intro i j x y hx hy hij
    have hi : i < 5 := (List.getElem?_eq_some_iff.1 hx).1
    have hj : j < 5 := (List.getElem?_eq_some_iff.1 hy).1
    have hii : i = 0 ∨ i = 1 ∨ i = 2 ∨ i = 3 ∨ i = 4 := by omega
    have hjj : j = 0 ∨ j = 1 ∨ j = 2 ∨ j = 3 ∨ j = 4 := by omega
    rcases hii with rfl | rfl | rfl | rfl | rfl <;> rcases hjj with rfl | rfl | rfl | rfl | rfl <;> first | (exact absurd rfl hij) | (simp only [rrows, List.getElem?_cons_zero, List.getElem?_cons_succ, Option.some.injEq] at hx hy; subst hx; subst hy; simp [Ap, bx, Value.ownBlock])
/-- How far tokens are read. -/
def RI (ts : List Tok) (w : World) (j : Nat) (wy : World) : Prop :=
  ∃ fs top opn fv tv ov, steps (ts.take j) begin0 = .ok ⟨fs.map Prod.fst, top, opn⟩ ∧ Good ⟨fs.map Prod.fst, top, opn⟩ ∧ RD wy w.heap.size w.heap.size fs top opn fv tv ov ∧ Below w.heap.size w wy
def ReadOk (w : World) (σ : St) (e : Ending) (w' : World) : Prop :=
  ∃ fs top opn fv tv ov, e = .returned (.tuple #[.agg #[fv, tv, ov], .agg #[.int .i64 0, .int .i64 0]]) ∧ RD w' w.heap.size w.heap.size fs top opn fv tv ov ∧ σ = ⟨fs.map Prod.fst, top, opn⟩ ∧ Below w.heap.size w w'
def IsSl (v : Value) : Prop := ∃ a n c, v = .slice a n c
theorem own_sl {w : World} {base e size n : Nat} {v : Value} {xs : List Value} (h : w.ownsRow base e size v n xs) : IsSl v := by
  obtain ⟨a, c, e⟩ := own_slice h
  exact ⟨a, n, c, e⟩
def ReadRes (w : World) (r : Except (Int × Int) St) (e : Ending) (w' : World) : Prop :=
  match r with
  | .error q => ∃ fv tv ov, IsSl fv ∧ IsSl tv ∧ IsSl ov ∧ e = .returned (.tuple #[.agg #[fv, tv, ov], .agg #[.int .i64 q.1, .int .i64 q.2]]) ∧ Below w.heap.size w w'
  | .ok σ => ReadOk w σ e w'
theorem steps_append (a b : List Tok) : ∀ (σ : St), steps (a ++ b) σ = (match steps a σ with | .error e => .error e | .ok σ' => steps b σ' : Except (Int × Int) St) := by
  induction a with
  | nil => intro σ; rfl
  | cons t r ih =>
    intro σ
    simp only [List.cons_append, steps]
    cases step σ t with
    | error e => rfl
    | ok σ' => exact ih σ'
theorem steps_next {ts : List Tok} {j : Nat} {t : Tok} {σ σ0 : St} (hj : ts[j]? = some t) (h : steps (ts.take j) σ0 = .ok σ) : steps (ts.take (j + 1)) σ0 = step σ t := by
  rw [List.take_add_one, hj, steps_append, h]
  show (match step σ t with | .error e => .error e | .ok σ' => steps [] σ' : Except (Int × Int) St) = step σ t
  cases step σ t <;> rfl
theorem steps_stop {ts : List Tok} {j : Nat} {t : Tok} {σ σ0 : St} {q : Int × Int} (hj : ts[j]? = some t) (h : steps (ts.take j) σ0 = .ok σ) (hq : step σ t = .error q) : steps ts σ0 = .error q := by
  have h1 := steps_next hj h
  rw [hq] at h1
  rw [← List.take_append_drop (j + 1) ts, steps_append, h1]
theorem parse_stop {ts : List Tok} {j : Nat} {t : Tok} {σ : St} {q : Int × Int} (hj : ts[j]? = some t) (h : steps (ts.take j) begin0 = .ok σ) (hq : step σ t = .error q) : parse ts = .error q := by
  unfold parse
  rw [steps_stop hj h hq]
theorem parse_end {ts : List Tok} {σ : St} (h : steps ts begin0 = .ok σ) : parse ts = finish σ := by
  unfold parse
  rw [h]
theorem bx_cellE {w : World} {base E n : Nat} {xs : List Value} {j : Nat} {u : Value} (h : w.ownsRow base 59 2 (bx E) n xs) (hj : xs[j]? = some u) : w.cell? ⟨E, j, none⟩ = some u := by
  have := World.ownsRow.cells h (g := E) rfl j u hj
  rwa [show (⟨E, 0, none⟩ : Addr).add j = ⟨E, 0 + j, none⟩ from Addr.add_lit .., Nat.zero_add] at this
theorem RD.again {w : World} {base B : Nat} {fs : List FV} {top opn : List Nat} {fv tv ov : Value} (h : RD w base B fs top opn fv tv ov) :
    RD (((((w.setCell ⟨B, 0, none⟩ fv).setCell ⟨B, 1, none⟩ tv).setCell ⟨B, 2, none⟩ ov).setCell ⟨B + 1, 0, none⟩ (.int .i64 0)).setCell ⟨B + 1, 1, none⟩ (.int .i64 0)).drew base B fs top opn fv tv ov := by
  have h0 : RD (w.setCell ⟨B, 0, none⟩ fv) base B fs top opn fv tv ov := RowsOk.setc (i := 0) (g := B) (cap := 1) (j := 0) (r := ⟨bx B, 57, 3, 1, [fv, tv, ov]⟩) h rfl rfl fv
  have h1 : RD ((w.setCell ⟨B, 0, none⟩ fv).setCell ⟨B, 1, none⟩ tv) base B fs top opn fv tv ov := RowsOk.setc (i := 0) (g := B) (cap := 1) (j := 1) (r := ⟨bx B, 57, 3, 1, [fv, tv, ov]⟩) h0 rfl rfl tv
  have h2 : RD (((w.setCell ⟨B, 0, none⟩ fv).setCell ⟨B, 1, none⟩ tv).setCell ⟨B, 2, none⟩ ov) base B fs top opn fv tv ov := RowsOk.setc (i := 0) (g := B) (cap := 1) (j := 2) (r := ⟨bx B, 57, 3, 1, [fv, tv, ov]⟩) h1 rfl rfl ov
  have h3 : RD ((((w.setCell ⟨B, 0, none⟩ fv).setCell ⟨B, 1, none⟩ tv).setCell ⟨B, 2, none⟩ ov).setCell ⟨B + 1, 0, none⟩ (.int .i64 0)) base B fs top opn fv tv ov := RowsOk.setc (i := 4) (g := B + 1) (cap := 1) (j := 0) (r := ⟨bx (B + 1), 59, 2, 1, [.int .i64 0, .int .i64 0]⟩) h2 rfl rfl (.int .i64 0)
  have h4 : RD (((((w.setCell ⟨B, 0, none⟩ fv).setCell ⟨B, 1, none⟩ tv).setCell ⟨B, 2, none⟩ ov).setCell ⟨B + 1, 0, none⟩ (.int .i64 0)).setCell ⟨B + 1, 1, none⟩ (.int .i64 0)) base B fs top opn fv tv ov := RowsOk.setc (i := 4) (g := B + 1) (cap := 1) (j := 1) (r := ⟨bx (B + 1), 59, 2, 1, [.int .i64 0, .int .i64 0]⟩) h3 rfl rfl (.int .i64 0)
  exact h4.drew
set_option maxHeartbeats 2000000 in
theorem read_any (ts : List Tok) (v : Value) (w : World) (hv : SeesC w v ts.length 4 (flatT ts)) (hs : ∀ t ∈ ts, t.s.size ≤ 140737488355328) (hl : ts.length ≤ 100000) :
    Calls Tryd.prog 27 #[v] w fun e w' => ReadRes w (parse ts) e w' := by
  have hmf : ∀ (fn : Fn) (first cap : Array Value) (w : World), (Instr.makeFunc fn first cap).run Tryd.prog w = .ok (.func fn first cap) w := fun _ _ _ _ => rfl
  have HV := hidI hv
  obtain ⟨hlen, a, cap, rfl, hc⟩ := hv
  have HC := hidI hc
  have H0 := hidI (two_apart w (.slice none 0 0) (.slice none 0 0) (.slice none 0 0) ⟨rfl, rfl, rfl⟩)
  have HB0 : Hid (Below w.heap.size w ((w.alloc (.cells #[.slice none 0 0, .slice none 0 0, .slice none 0 0] 57)).alloc (.cells #[.int .i64 0, .int .i64 0] 59))) := hidI (by (repeat (first | exact Below.refl _ _ | assumption | refine Below.drew ?_ | refine Below.alloc ?_ (by first | omega | (simp; done) | (simp; omega)) _ | refine Below.setCell ?_ (by first | omega | (simp; done) | (simp; omega)) _)))
  have HS := hidI hs
  clear hc hs
  go_enter_defers Tryd.func27, Tryd.ntmps27
  go_wp2
  go_loopg [9] ts.length (fun gh s9 wy => ∃ j : Nat, j + gh = ts.length ∧ s9 = .int .i64 (j : Int) ∧ RI ts w j wy)
  case atStart => exact ⟨0, by omega, rfl, [], [], [], _, _, _, rfl, good_begin, H0.out, HB0.out⟩
  case round =>
    obtain ⟨j, hj, rfl, hRI⟩ := hrel
    cases gk with
    | succ g =>
      have hjl : j < ts.length := by omega
      have hti : ts[j]? = some ts[j] := List.getElem?_eq_getElem hjl
      obtain ⟨t, ht⟩ : ∃ t, ts[j] = t := ⟨_, rfl⟩
      rw [ht] at hti
      rcases HC.out with h0 | ⟨b, off, rfl, hcs⟩
      · omega
      obtain ⟨fs, top, opn, fv, tv, ov, hst, hG, hRD, hbl⟩ := hRI
      have hcell : ∀ i u, i < 4 → t.cells[i]? = some u → wr.cell? ⟨b, off + j * 4 + i, none⟩ = some u := fun i u hi hu => by
        have := hcs (j * 4 + i) u (by rw [flatT_get ts j i t hti hi]; exact hu)
        rw [← Nat.add_assoc] at this
        exact (hbl.cell (World.block_lt_of_cell? w _ this)).trans this
      have k0 := hcell 0 _ (by omega) rfl
      have k1 := hcell 1 _ (by omega) rfl
      have k2 := hcell 2 _ (by omega) rfl
      have k3 := hcell 3 _ (by omega) rfl
      have hts : t.s.size ≤ 140737488355328 := HS.out t (List.mem_of_getElem? hti)
      have HT := hidI (take_any (hRD.alloc (.cells #[.int .u8 t.k, .string t.s, .int .i64 t.n, .int .i64 t.p] 37)) hG t hts)
      have HB1 : Hid (Below w.heap.size w (wr.alloc (.cells #[.int .u8 t.k, .string t.s, .int .i64 t.n, .int .i64 t.p] 37))) := hidI (hbl.alloc hbl.size _)
      have HRD := hidI hRD
      have e1 : (j : Int) < (ts.length : Int) := by omega
      have e2 : (0 : Int) ≤ (j : Int) := by omega
      have e3 : ((j : Int)).toNat = j := by omega
      have hlt := hRD.lt
      have HG := hidI hG
      have HST := hidI hst
      have HTI := hidI hti
      simp only [Nat.add_zero] at k0
      cases hq : step ⟨fs.map Prod.fst, top, opn⟩ t with
      | error q =>
        have HP := hidI (parse_stop hti hst hq)
        rw [hq] at HT
        clear hq hst hti hcell hcs hG hbl hRD ht
        go_wp2_with (go_at_call 45; refine HT.out.mono ?_; intro e w2 hres; obtain ⟨rfl, hb2⟩ := hres; have HB2 := hidI hb2; clear hb2 HT)
        have hRA := HRD.out.alloc (.cells #[.int .u8 t.k, .string t.s, .int .i64 t.n, .int .i64 t.p] 37)
        have hR2 := hRA.down HB2.out
        have hE0 := bx_cellE hR2.eo (j := 0) rfl
        have hE1 := bx_cellE hR2.eo (j := 1) rfl
        have hEf : ∀ j, w2.frozen? ⟨w.heap.size + 1, j, none⟩ = false := fun j => own_free hR2.eo j
        have hc0 := hR2.c0
        have hc1 := hR2.c1
        have hc2 := hR2.c2
        refine leaves_cons (f := 44) (args := #[.pointer (some ⟨w.heap.size + 1, 0, none⟩)]) (by simp) (by simp [go_sem]) ?_
        refine (catch_fault (w.heap.size + 1) 0 0 q.1 q.2 [] _ hE0 hE1 hEf).mono ?_
        rintro e u' w'' ⟨rfl, rfl, rfl⟩
        have hBf : Below w.heap.size w ((w2.setCell ⟨w.heap.size + 1, 0, none⟩ (.int .i64 q.1)).setCell ⟨w.heap.size + 1, 1, none⟩ (.int .i64 q.2)) := ((HB1.out.trans (HB2.out.mono HB1.out.size)).setCell (by simp) _).setCell (by simp) _
        have hF0 := World.cell?_setCell_same w2 ⟨w.heap.size + 1, 0, none⟩ (.int .i64 q.1) hE0
        have hF1 : ((w2.setCell ⟨w.heap.size + 1, 0, none⟩ (.int .i64 q.1)).setCell ⟨w.heap.size + 1, 1, none⟩ (.int .i64 q.2)).cell? ⟨w.heap.size + 1, 1, none⟩ = some (.int .i64 q.2) := World.cell?_setCell_same _ _ _ ((World.cell?_setCell_other _ _ _ _ (by simp)).trans hE1)
        simp [Leaves, settle, results, Tryd.results27, go_sem, hc0, hc1, hc2, hF0, hF1]
        rw [HP.out]
        exact ⟨fv, tv, ov, own_sl hR2.fo, own_sl hR2.to, own_sl hR2.oo, rfl, hBf⟩
      | ok σ' =>
        have hst2 := steps_next hti hst
        rw [hq] at hst2 HT
        have HN := hidI hst2
        have HG2 := hidI (step_good hG hq)
        clear hq hst hti hcell hcs hG hbl hRD ht hst2
        go_wp2_with (go_at_call 45; refine HT.out.mono ?_; intro e w2 hres; obtain ⟨rfl, hb2⟩ := hres; have HB2 := hidI hb2; clear hb2 HT)
        go_roundg g
        case measure => omega
        case rel =>
          obtain ⟨hbb, fs2, top2, opn2, fv2, tv2, ov2, hR2, rfl⟩ := HB2.out
          exact ⟨j + 1, by omega, by go_num, fs2, top2, opn2, fv2, tv2, ov2, HN.out, HG2.out, hR2, HB1.out.trans hbb⟩
    | zero =>
      have hje : ts.length = j := by omega
      obtain ⟨fs, top, opn, fv, tv, ov, hst, hG, hRD, hbl⟩ := hRI
      rw [← hje, List.take_length] at hst
      have HP := hidI (parse_end hst)
      have HE := hidI (end_any hRD hG)
      have HRD := hidI hRD
      have HBL := hidI hbl
      have e1 : ¬ (j : Int) < (ts.length : Int) := by omega
      subst hje
      cases hq : finish ⟨fs.map Prod.fst, top, opn⟩ with
      | error q =>
        rw [hq] at HE HP
        clear hq hst hG hbl hRD
        go_wp2_with (go_at_call 46; refine HE.out.mono ?_; intro e w2 hres; obtain ⟨rfl, n2, rfl⟩ := hres; clear HE)
        have hR2 := HRD.out.drewN n2
        have hB2 : Below w.heap.size w (wr.drewN n2) := ⟨HBL.out.os, HBL.out.tape, HBL.out.output, HBL.out.size, HBL.out.block⟩
        obtain ⟨w2, hw2⟩ : ∃ w2, wr.drewN n2 = w2 := ⟨_, rfl⟩
        rw [hw2] at hR2 hB2 ⊢
        clear hw2
        have hE0 := bx_cellE hR2.eo (j := 0) rfl
        have hE1 := bx_cellE hR2.eo (j := 1) rfl
        have hEf : ∀ j, w2.frozen? ⟨w.heap.size + 1, j, none⟩ = false := fun j => own_free hR2.eo j
        have hc0 := hR2.c0
        have hc1 := hR2.c1
        have hc2 := hR2.c2
        refine leaves_cons (f := 44) (args := #[.pointer (some ⟨w.heap.size + 1, 0, none⟩)]) (by simp) (by simp [go_sem]) ?_
        refine (catch_fault (w.heap.size + 1) 0 0 q.1 q.2 [] _ hE0 hE1 hEf).mono ?_
        rintro e u' w'' ⟨rfl, rfl, rfl⟩
        have hBf : Below w.heap.size w ((w2.setCell ⟨w.heap.size + 1, 0, none⟩ (.int .i64 q.1)).setCell ⟨w.heap.size + 1, 1, none⟩ (.int .i64 q.2)) := (hB2.setCell (by simp) _).setCell (by simp) _
        have hF0 := World.cell?_setCell_same w2 ⟨w.heap.size + 1, 0, none⟩ (.int .i64 q.1) hE0
        have hF1 : ((w2.setCell ⟨w.heap.size + 1, 0, none⟩ (.int .i64 q.1)).setCell ⟨w.heap.size + 1, 1, none⟩ (.int .i64 q.2)).cell? ⟨w.heap.size + 1, 1, none⟩ = some (.int .i64 q.2) := World.cell?_setCell_same _ _ _ ((World.cell?_setCell_other _ _ _ _ (by simp)).trans hE1)
        simp [Leaves, settle, results, Tryd.results27, go_sem, hc0, hc1, hc2, hF0, hF1]
        rw [HP.out]
        exact ⟨fv, tv, ov, own_sl hR2.fo, own_sl hR2.to, own_sl hR2.oo, rfl, hBf⟩
      | ok σ' =>
        rw [hq] at HE HP
        have hoe : opn = [] := by
          unfold finish at hq
          cases hb : opn.getLast? with
          | none => simpa using hb
          | some b => simp [hb] at hq
        clear hst hG hbl hRD
        have hc0 := HRD.out.c0
        have hc1 := HRD.out.c1
        have hc2 := HRD.out.c2
        have hz0 := HRD.out.free 0
        have hz1 := HRD.out.free 1
        have hz2 := HRD.out.free 2
        have hE0 := bx_cellE HRD.out.eo (j := 0) rfl
        have hE1 := bx_cellE HRD.out.eo (j := 1) rfl
        have hy0 := own_free HRD.out.eo 0
        have hy1 := own_free HRD.out.eo 1
        subst hoe
        obtain ⟨oa, oc, hov⟩ := own_slice HRD.out.oo
        have hov' : ov = .slice oa 0 oc := hov
        subst hov'
        obtain ⟨fa, fc, rfl⟩ := own_slice HRD.out.fo
        obtain ⟨ta, tc, rfl⟩ := own_slice HRD.out.to
        have HA := hidI HRD.out.again
        have HBA : Hid (Below w.heap.size w (((((wr.setCell ⟨w.heap.size, 0, none⟩ (.slice fa fs.length fc)).setCell ⟨w.heap.size, 1, none⟩ (.slice ta top.length tc)).setCell ⟨w.heap.size, 2, none⟩ (.slice oa 0 oc)).setCell ⟨w.heap.size + 1, 0, none⟩ (.int .i64 0)).setCell ⟨w.heap.size + 1, 1, none⟩ (.int .i64 0)).drew) :=
          hidI (((((HBL.out.setCell (by simp) _).setCell (by simp) _).setCell (by simp) _).setCell (by simp) _).setCell (by simp) _).drew
        have hqq : σ' = ⟨fs.map Prod.fst, top, []⟩ := by unfold finish at hq; simp at hq; exact hq.symm
        have HQQ := hidI hqq
        clear hq hqq
        go_wp2_with (go_at_call 46; refine HE.out.mono ?_; intro e w2 hres; obtain ⟨rfl, rfl⟩ := hres; clear HE)
        go_region
        go_wp2
        obtain ⟨wf, hwf⟩ : ∃ wf, (((((wr.setCell ⟨w.heap.size, 0, none⟩ (.slice fa fs.length fc)).setCell ⟨w.heap.size, 1, none⟩ (.slice ta top.length tc)).setCell ⟨w.heap.size, 2, none⟩ (.slice oa 0 oc)).setCell ⟨w.heap.size + 1, 0, none⟩ (.int .i64 0)).setCell ⟨w.heap.size + 1, 1, none⟩ (.int .i64 0)).drew = wf := ⟨_, rfl⟩
        rw [hwf] at HA HBA ⊢
        clear hwf
        have g0 := HA.out.c0
        have g1 := HA.out.c1
        have g2 := HA.out.c2
        have gE0 := bx_cellE HA.out.eo (j := 0) rfl
        have gE1 := bx_cellE HA.out.eo (j := 1) rfl
        refine leaves_cons (f := 44) (args := #[.pointer (some ⟨w.heap.size + 1, 0, none⟩)]) (by simp) (by simp [go_sem]) ?_
        refine (catch_idle (w.heap.size + 1) _).mono ?_
        rintro e u' w'' ⟨rfl, rfl, rfl⟩
        simp [Leaves, settle, results, Tryd.results27, go_sem, g0, g1, g2, gE0, gE1]
        rw [HP.out]
        exact ⟨fs, top, [], _, _, _, rfl, HA.out, HQQ.out, HBA.out⟩
end Go.Proofs.YtnlplkchkhibaaaDoor
