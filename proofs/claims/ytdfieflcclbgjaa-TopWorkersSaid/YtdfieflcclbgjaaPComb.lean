/-
  The program's Combined.
-/
import Derived.Test.YtdfieflcclbgjaaRegM
import Derived.Test.YtdfieflcclbgjaaPMay
import Derived.Test.YtdfieflcclbgjaaPMap
import Derived.Test.YtdfieflcclbgjaaPSorted
import Derived.Test.YtdfieflcclbgjaaMLaws3
namespace Go.Proofs.Ytdfieflcclbgjaa
open Go.RowKit Go.Deep Go.MapKept
open Go.ChangeMaps (setBlock)
theorem born_inj : ∀ {l : List MapEntry}, (l.map (·.born)).Nodup → ∀ {x y : MapEntry}, x ∈ l → y ∈ l → x.born = y.born → x = y
  | [], _, x, _, hx, _, _ => by cases hx
  | a :: l, h, x, y, hx, hy, e => by
    rw [List.map_cons, List.nodup_cons] at h
    rcases List.mem_cons.1 hx with hx1 | hx1
    · rcases List.mem_cons.1 hy with hy1 | hy1
      · rw [hx1, hy1]
      · subst hx1; exact absurd (List.mem_map.2 ⟨y, hy1, e.symm⟩) h.1
    · rcases List.mem_cons.1 hy with hy1 | hy1
      · subst hy1; exact absurd (List.mem_map.2 ⟨x, hx1, e⟩) h.1
      · exact born_inj h.2 hx1 hy1 e
theorem nodup_of_map {l : List MapEntry} (h : (l.map (·.born)).Nodup) : l.Nodup := by
  unfold List.Nodup at h ⊢
  rw [List.pairwise_map] at h
  exact h.imp fun hne e => hne (by rw [e])
/-- Behind the range: all entries were met, each once. -/
theorem vis_perm {es : Array MapEntry} {vis : List MapEntry} {seen : Array Nat} (hst : (es.toList.map (·.born)).Nodup) (hs : seen.toList = vis.map (·.born)) (hv : (vis.map (·.born)).Nodup) (hin : ∀ e ∈ vis, e ∈ es.toList) (hall : ∀ x ∈ es.toList, seen.contains x.born = true) : vis.Perm es.toList := by
  rw [List.perm_ext_iff_of_nodup (nodup_of_map hv) (nodup_of_map hst)]
  intro x
  refine ⟨hin x, fun hx => ?_⟩
  have h1 := hall x hx
  rw [Array.contains_iff_mem, ← Array.mem_toList_iff, hs] at h1
  obtain ⟨y, hy, e⟩ := List.mem_map.1 h1
  have := born_inj hst (hin y hy) hx e
  subst this
  exact hy
/-- An entry as a message. -/
def msgE (e : MapEntry) : Msg := match e.key, e.val with
  | .agg #[.int .i64 a, .int .i64 b], .int .i64 c => ⟨a, b, c⟩
  | _, _ => default
theorem msgE_eq {e : MapEntry} {m : Msg} (h : e.key = keyM m) (hv : e.val = .int .i64 m.val) : msgE e = m := by unfold msgE; rw [h, hv]; rfl
theorem map_msgE {es : Array MapEntry} {out : List Msg} (h : es.toList.map (fun e => (e.key, e.val)) = out.map (fun m => (keyM m, Value.int .i64 m.val))) : es.toList.map msgE = out := by
  refine List.ext_getElem? fun j => ?_
  rw [List.getElem?_map]
  cases he : es.toList[j]? with
  | none =>
    have hl := congrArg List.length h
    simp only [List.length_map] at hl
    rw [List.getElem?_eq_none_iff] at he
    rw [Option.map_none, List.getElem?_eq_none (by omega)]
  | some e =>
    obtain ⟨m, hm, hk, hv⟩ := ent_of h he
    rw [hm, Option.map_some, msgE_eq hk hv]
theorem combM_snoc {os : List Nat} {xs : List Msg} {i : Nat} {x : Msg} (h : xs[i]? = some x) : combM os (xs.take (i + 1)) = addM os (combM os (xs.take i)) x := by
  unfold combM
  rw [List.take_add_one, h]
  simp
theorem any_get {p : Msg → Bool} {l : List Msg} (h : l.any p = true) : ∃ (j : Nat) (u : Msg), l[j]? = some u ∧ p u = true := by
  rw [List.any_eq_true] at h
  obtain ⟨u, hu, hp⟩ := h
  obtain ⟨j, hj⟩ := List.mem_iff_getElem?.1 hu
  exact ⟨j, u, hj, hp⟩
set_option maxRecDepth 100000 in
theorem len_map (w : World) (mb : Nat) (es : Array MapEntry) (clock : Nat) (hb : w.heap[mb]? = some (.map es clock)) : (Builtin.len_ #[69] 3 #[.map (some mb)]).run Try.prog w = .ok (.int .i64 (es.size : Int)) w := run_len_map w 69 3 mb es clock Try.underlying69 hb
set_option maxRecDepth 100000 in
theorem comb_bad (w : World) (v u : Value) (xs : List Msg) (os : List Nat) (hv : SeesM w v xs) (hu : SeesO w u os) (hl : xs.length ≤ 10000) (hbad : mayC os xs = 2 ∨ mayC os xs = 3) :
    Calls Try.prog 19 #[v, u] w fun e w' => ∃ r, e = .returned (.tuple #[r, .int .i64 (mayC os xs)]) ∧ SeesM w' r [] ∧ Below w.heap.size w w' := by
  have C := hidI (pmay_any w v u xs os hv hu hl)
  clear hv hu
  rcases hbad with h | h
  all_goals
    rw [h] at C ⊢
    clear h
    go_enter Try.func19, Try.ntmps19
    go_wp2_with (go_at_call 41; refine Calls.mono C.out ?_; rintro e w' ⟨rfl, hb⟩)
    go_ret2
    exact ⟨_, rfl, SeesM.nil, hb⟩
set_option maxRecDepth 100000 in
set_option maxHeartbeats 4000000 in
theorem comb_ok (w : World) (v u : Value) (xs : List Msg) (os : List Nat) (hin : ∀ x ∈ xs, In64 x.to ∧ In64 x.tag) (hv : SeesM w v xs) (hu : SeesO w u os) (hl : xs.length ≤ 5000) (h1 : xs.all (tagOk os) = true) (h2 : xs.all (opOk os) = true) :
    Calls Try.prog 19 #[v, u] w fun e w' => ∃ r, e = .returned (.tuple #[r, .int .i64 0]) ∧ SeesM w' r (sortM (combM os xs)) ∧ Below w.heap.size w w' := by
  have C := hidI (pmay_any w v u xs os hv hu (by omega))
  rw [show mayC os xs = 0 by unfold mayC; rw [if_neg (by simp [h1]), if_neg (by simp [h2])]] at C
  obtain ⟨i0, hi, hz0, hz1, hz2⟩ := info_parts Try.info48
  obtain ⟨a, cap, rfl, hcap, hL⟩ := hv
  have HV : Hid (SeesM w (.slice a xs.length cap) xs) := hidI ⟨a, cap, rfl, hcap, hL⟩
  obtain ⟨oa, oc, rfl, hO⟩ := hu
  have HU : Hid (SeesO w (.slice oa os.length oc) os) := hidI ⟨oa, oc, rfl, hO⟩
  have HTag : Hid (∀ x ∈ xs, tagOk os x = true) := hidI (List.all_eq_true.1 h1)
  have HOp : Hid (∀ x ∈ xs, opOk os x = true) := hidI (List.all_eq_true.1 h2)
  have HIn := hidI hin
  clear hL hcap hO h1 h2 hin
  obtain ⟨k, hk⟩ : ∃ k, xs.length = k := ⟨_, rfl⟩
  have HK := hidI hk
  rw [hk] at hl HV C ⊢
  clear hk
  obtain ⟨L, hL⟩ : ∃ L, os.length = L := ⟨_, rfl⟩
  have HL := hidI hL
  rw [hL] at HU C ⊢
  clear hL
  go_enter Try.func19, Try.ntmps19
  go_wp2_with (go_at_call 41; refine Calls.mono C.out ?_; rintro e w1 ⟨rfl, hb1⟩; refine Hid.out ?_)
  refine hidI ?_
  have HB1 := hidI hb1
  clear hb1 C
  have hsz1 := HB1.out.size
  have HMade := hidI (mapM_made w1)
  have hmm := @run_makeMap Try.prog
  go_wp2
  clear hmm
  obtain ⟨mb, hmb⟩ : ∃ mb, w1.heap.size = mb := ⟨_, rfl⟩
  rw [hmb] at HMade hsz1 ⊢
  have HB2 := hidI (HB1.out.alloc (by omega) (.map #[] 0))
  clear hmb HB1
  generalize w1.alloc (.map #[] 0) = w2 at *
  go_loopg [25] k (fun g s25 wx => ∃ (i : Nat) (out : List Msg), i + g = k ∧ s25 = .int .i64 (i : Int) ∧ Hid (Below w.heap.size w wx) ∧ Hid (MapM wx mb out) ∧ Hid (out = combM os (xs.take i)))
  case atStart => exact ⟨0, [], by omega, rfl, HB2, HMade, hidI (by simp [combM])⟩
  case round =>
    obtain ⟨i, out, hig, rfl, HB, HM, HOut⟩ := hrel
    have hszr := HB.out.size
    cases gk with
    | zero =>
      obtain rfl : k = i := by omega
      have k1 : decide ((k : Int) < (k : Int)) = false := by simp
      have HOutE : Hid (out = combM os xs) := hidI (by rw [HOut.out, List.take_of_length_le (by have := HK.out; omega)])
      have hol : out.length ≤ 5000 := by
        have := combM_len os xs []
        rw [HOutE.out]
        unfold combM
        simp only [List.length_nil] at this
        have h9 := HK.out
        omega
      obtain ⟨w0, hw0⟩ : ∃ w0 : World, w0 = wr := ⟨wr, rfl⟩
      subst hw0
      obtain ⟨es, clock, hb, hst, hes, _⟩ := HM.out
      have hel : es.size = out.length := by
        have := congrArg List.length hes
        simpa using this
      have HMsg := hidI (map_msgE hes)
      have HES := hidI hes
      have ql := len_map w0 mb es clock hb
      obtain ⟨ec, hec⟩ : ∃ ec, es.size = ec := ⟨_, rfl⟩
      have hecb : ec ≤ 5000 := by omega
      have HEC := hidI hec
      rw [hec] at ql
      have HBm := hidI hb
      have HST := hidI hst
      have hmbl : mb < w0.heap.size := (Array.getElem?_eq_some_iff.1 hb).1
      clear hec hel hes hst HOut hb HM
      go_wp2_with (at_make; refine wpList_make_own _ rfl _ _ 22 rfl w0.heap.size 48 i0 (.agg #[.int .i64 0, .int .i64 0, .int .i64 0]) 3 Try.underlying22 hi hz0 hz1 _ _ _ ec rfl rfl rfl (by rw [hz2]; omega) (by unfold maxLen; omega) (Nat.le_refl _) ?_; intro w3 hown3 hg3; refine Hid.out ?_)
      refine hidI ?_
      have b3 : Below w0.heap.size w0 w3 := (Below.refl _ w0).grown hg3 (Nat.le_refl _) (fun _ e => by cases e)
      have hb3 : w3.heap[mb]? = some (.map es clock) := (b3.block mb hmbl).trans HBm.out
      have qr := run_range_map (P := Try.prog) w3 69 70 31 mb es clock Try.underlying69 hb3
      have b4 : Below w0.heap.size w0 (w3.alloc (.mapIter (some mb) clock #[] clock)) := b3.alloc b3.size _
      have hr0 : (w3.alloc (.mapIter (some mb) clock #[] clock)).heap[w3.heap.size]? = some (.mapIter (some mb) clock #[] clock) := (MapKept.heap_alloc w3 _).1
      have hown4 := hown3.alloc (.mapIter (some mb) clock #[] clock)
      obtain ⟨r, hre⟩ : ∃ r, w3.heap.size = r := ⟨_, rfl⟩
      have hrw : w0.heap.size ≤ r := by rw [← hre]; exact b3.size
      have HO0 := hidI hown4
      have HB0 := hidI b4
      have HR0 := hidI hr0
      rw [hre] at HR0
      have hle0 : (leftOf es #[]).size = ec := by rw [← HEC.out]; simp [leftOf]
      have HLE := hidI hle0
      clear hown3 hg3 b3 b4 hr0 hown4 hle0 hb3 ql
      go_wp2
      clear qr
      go_loopg [13] ec (fun g s13 wx => ∃ (vis : List MapEntry) (seen : Array Nat) (c0 : Nat) (v13 : Value), ((leftOf es seen).size = g ∧ vis.length + g ≤ ec) ∧ seen.toList = vis.map (·.born) ∧ (vis.map (·.born)).Nodup ∧ (∀ e ∈ vis, e ∈ es.toList) ∧ v13 = s13 ∧ wx.ownsRow w0.heap.size 48 3 v13 vis.length (flatM (vis.map msgE)) ∧ wx.heap[r]? = some (.mapIter (some mb) clock seen c0) ∧ clock ≤ c0 ∧ Below w0.heap.size w0 wx)
      case atStart => exact ⟨[], #[], clock, _, ⟨HLE.out, by simp⟩, rfl, by simp, by simp, rfl, HO0.out, HR0.out, Nat.le_refl _, HB0.out⟩
      case round =>
        obtain ⟨vis, seen, c0, v13, ⟨hlg, hvg⟩, hsv, hvn, hvin, rfl, hown, hr, hc0, hbl⟩ := hrel
        have hbr : wr.heap[mb]? = some (.map es clock) := (hbl.block mb hmbl).trans HBm.out
        have HL9 := hidI (And.intro hlg hvg)
        have HSV := hidI hsv
        have HVN := hidI hvn
        have HVI := hidI hvin
        have HO := hidI hown
        have HBl := hidI hbl
        have HR := hidI hr
        have hszr2 := hbl.size
        have hvl : vis.length ≤ 5000 := by omega
        clear HO0 HB0 HR0 HLE
        rcases run_next_at (P := Try.prog) wr 0 r mb clock c0 seen es clock hr hbr HST.out.1 hc0 with ⟨h0, hrun⟩ | ⟨e, he, wn, hal, hrun⟩
        · have hp := vis_perm HST.out.2.1 hsv hvn hvin (all_seen es seen h0)
          have HSE : Hid (SeesM wr v13 (vis.map msgE)) := hidI (seesM_of_owns hown)
          have HSort : Hid (sortM (vis.map msgE) = sortM (combM os xs)) := hidI (by rw [← HOutE.out, ← HMsg.out]; exact sortM_eq (hp.map msgE))
          have CS := hidI (psorted_any wr _ _ HSE.out (by rw [List.length_map]; omega))
          rw [HSort.out] at CS
          have HBw : Hid (Below w.heap.size w wr) := hidI (HB.out.trans (hbl.mono hszr))
          clear hown hr hbr hbl hsv hvn hvin hlg hvg h0 hp
          go_wp2_with (go_at_call 12; refine Calls.mono CS.out ?_; rintro e w' ⟨v', rfl, hs', hb'⟩; refine Hid.out ?_)
          refine hidI ?_
          have HS' := hidI hs'
          have HB' := hidI (HBw.out.trans (hb'.mono HBw.out.size))
          clear hs' hb' CS hrun
          go_wp2
          go_ret2
          exact ⟨_, rfl, HS'.out, HB'.out⟩
        · obtain ⟨hem, hes9⟩ := mem_left he
          obtain ⟨jj, hjj⟩ := List.mem_iff_getElem?.1 hem
          obtain ⟨m, _, hk, hv⟩ := ent_of HES.out hjj
          have hsh := left_shrinks es seen e he
          have hrl : r < wr.heap.size := (Array.getElem?_eq_some_iff.1 hr).1
          have hnh : wn.heap = wr.heap := by rcases hal with rfl | rfl <;> rfl
          have hg2 : wr.grownBy (setBlock wn r (.mapIter (some mb) clock (seen.push e.born) clock)) (some r) := by
            rcases hal with rfl | rfl <;> exact ⟨rfl, rfl, rfl, by simp [setBlock], fun i _ hi => by simp [setBlock, show r ≠ i from fun e1 => hi (by rw [e1])]; try rfl⟩
          have hr2 : (setBlock wn r (.mapIter (some mb) clock (seen.push e.born) clock)).heap[r]? = some (.mapIter (some mb) clock (seen.push e.born) clock) := by simp [setBlock, hnh, hrl]
          obtain ⟨W2, hW2⟩ : ∃ W2, setBlock wn r (.mapIter (some mb) clock (seen.push e.born) clock) = W2 := ⟨_, rfl⟩
          rw [hW2] at hrun hg2 hr2
          have hb2 : W2.heap[mb]? = some (.map es clock) := (hg2.block mb (by omega) (by intro h; have := Option.some.inj h; omega)).trans hbr
          have qe := run_entry_at (P := Try.prog) W2 r mb clock seen es clock e hr2 hb2 hem HST.out.2.1
          have HME : Hid (msgE e = m) := hidI (msgE_eq hk hv)
          rw [hk, hv] at qe
          rw [hk, hv] at hrun
          obtain ⟨mt, mg, mv⟩ := m
          unfold keyM at qe hrun
          simp only at qe hrun
          have hne13 : v13.ownBlock ≠ some r := by
            rcases hown.2 with ⟨h1, _⟩ | ⟨g', cap', cur, h1, _, hgb, _⟩
            · rw [h1]; simp [Value.ownBlock]
            · rw [h1]
              simp only [Value.ownBlock]
              intro e1
              rw [Option.some.inj e1, hr] at hgb
              cases hgb
          have hown2 := hown.kept hg2 (.inr hne13)
          have hbl2 : Below w0.heap.size w0 W2 := hbl.grown hg2 hszr2 (fun j ej => by cases ej; exact hrw)
          have hsz2 := hbl2.size
          have hrl2 : r < W2.heap.size := (Array.getElem?_eq_some_iff.1 hr2).1
          have OWN := hidI ((hown2.alloc (.cells #[.int .i64 mt, .int .i64 mg] 70)).alloc (.cells #[.int .i64 mt, .int .i64 mg, .int .i64 mv] 48))
          have BEL := hidI ((hbl2.alloc hsz2 (.cells #[.int .i64 mt, .int .i64 mg] 70)).alloc (by simp; omega) (.cells #[.int .i64 mt, .int .i64 mg, .int .i64 mv] 48))
          have HRr : Hid (((W2.alloc (.cells #[.int .i64 mt, .int .i64 mg] 70)).alloc (.cells #[.int .i64 mt, .int .i64 mg, .int .i64 mv] 48)).heap[r]? = some (.mapIter (some mb) clock (seen.push e.born) clock)) := hidI (by
            rw [Below.heap_alloc _ _ _ (by simp; omega), Below.heap_alloc _ _ _ hrl2]
            exact hr2)
          have HSM := hidI (msg_seen (W := W2.alloc (.cells #[.int .i64 mt, .int .i64 mg] 70)) ⟨mt, mg, mv⟩)
          simp only [World.size_alloc] at HSM
          have HNE := hidI hne13
          have HEM := hidI hem
          have HES9 := hidI hes9
          have HSH := hidI hsh
          clear hr hbr hown hbl hown2 hbl2 hg2 hr2 hb2 hW2 hal hnh hsv hvn hvin he hem hes9 hsh hk hv hjj hne13
          go_wp2_with (at_builtin; go_must (refine wpList_append_any Try.underlying22 Try.info48 rfl (by decide) (by decide) rfl _ _ rfl w0.heap.size _ vis.length _ rfl OWN.out _ 1 (Msg.cells ⟨mt, mg, mv⟩) rfl HSM.out (cells_one _) (by omega) (by simp; omega) ?_); intro v9 w9 hown9 hgrow9 _; have Z1 := hidI hown9; have Z2 := hidI hgrow9; clear hown9 hgrow9; refine Hid.out ?_)
          refine hidI ?_
          clear hrun qe
          go_wp2
          go_roundg (leftOf es (seen.push e.born)).size
          case measure => have := HSH.out; omega
          case rel =>
            have hl := HSH.out
            have hl2 := HL9.out
            refine ⟨vis ++ [e], seen.push e.born, clock, v9, ⟨rfl, by simp; omega⟩, ?_, ?_, ?_, rfl, ?_, ?_, Nat.le_refl _, ?_⟩
            · rw [Array.toList_push, HSV.out]; simp
            · rw [List.map_append, List.map_cons, List.map_nil, List.nodup_append]
              refine ⟨HVN.out, by simp, fun a ha b hb => ?_⟩
              simp at hb
              subst hb
              intro e1
              subst e1
              have := HES9.out
              rw [← HSV.out, Array.mem_toList_iff, ← Array.contains_iff_mem] at ha
              rw [this] at ha
              cases ha
            · intro x hx
              rcases List.mem_append.1 hx with hx | hx
              · exact HVI.out x hx
              · rw [List.mem_singleton] at hx; subst hx; exact HEM.out
            · have h := Z1.out
              rw [List.map_append, List.map_cons, List.map_nil, HME.out, flatM_append, flatM_one, List.length_append]
              exact h
            · exact (Z2.out.block r (by simp; omega) (fun h => HNE.out h.symm)).trans HRr.out
            · exact BEL.out.grown Z2.out (by simp; omega) (fun j ej => (OWN.out.lt j ej).1)
    | succ g =>
      have k1 : (i : Int) < (k : Int) := by omega
      obtain ⟨x, hx⟩ : ∃ x, xs[i]? = some x := ⟨_, List.getElem?_eq_getElem (by have := HK.out; omega)⟩
      obtain ⟨b1, o1, c1, e1, x0, x1, x2⟩ := HV.out.cell hx
      rw [HK.out] at e1
      cases e1
      have kk : ∀ {p : Addr} {v : Value}, w.cell? p = some v → wr.cell? p = some v := fun {p v} hc => (HB.out.cell (World.block_lt_of_cell? w _ hc)).trans hc
      replace x0 := kk x0
      replace x1 := kk x1
      replace x2 := kk x2
      have hxm := List.mem_of_getElem? hx
      have ht := of_decide_eq_true (HTag.out x hxm)
      have hop := HOp.out x hxm
      have hin := HIn.out x hxm
      have HSn : Hid (combM os (xs.take (i + 1)) = addM os (combM os (xs.take i)) x) := hidI (combM_snoc hx)
      clear hx hxm
      obtain ⟨xt, xg, xv⟩ := x
      simp only at x0 x1 x2 ht hin
      obtain ⟨q, rfl⟩ : ∃ q : Nat, xg = (q : Int) := ⟨xg.toNat, by omega⟩
      have hq : q < os.length := by omega
      obtain ⟨o, ho⟩ : ∃ o, os[q]? = some o := ⟨_, List.getElem?_eq_getElem hq⟩
      obtain ⟨ob, oo, oc', eo, oc0⟩ := HU.out.cell ho
      rw [HL.out] at eo
      cases eo
      replace oc0 := kk oc0
      clear kk
      have hgd : os.getD q 0 = o := by simp [List.getD, ho]
      have hm5 : many5 o := by
        unfold opOk at hop
        simp only [Int.toNat_natCast, hgd] at hop
        exact redB_many hop
      have hqL : q < L := by have := HL.out; omega
      have HM2 := hidI ((HM.out.below ((Below.refl _ wr).alloc (Nat.le_refl _) (.cells #[.int .i64 xt, .int .i64 (q : Int), .int .i64 xv] 48)) (Nat.le_refl _)).below ((Below.refl _ _).alloc (Nat.le_refl _) (.cells #[.int .i64 xt, .int .i64 (q : Int)] 70)) (Nat.le_refl _))
      have HBA := hidI ((HB.out.alloc hszr (.cells #[.int .i64 xt, .int .i64 (q : Int), .int .i64 xv] 48)).alloc (by simp; omega) (.cells #[.int .i64 xt, .int .i64 (q : Int)] 70))
      have hmbw : w.heap.size ≤ mb := hsz1
      by_cases hany : out.any (likeM ⟨xt, (q : Int), xv⟩) = true
      · obtain ⟨j, u0, hj, hlk⟩ := any_get hany
        have hlook := lookM_some HM2.out (m := ⟨xt, (q : Int), xv⟩) hin.1 hin.2 hj hlk _ rfl
        obtain ⟨s, hs⟩ : ∃ s, u0.val = s := ⟨_, rfl⟩
        have CB := hidI (pboth_any o hm5 s xv)
        have HAdd : Hid (addM os out ⟨xt, (q : Int), xv⟩ = out.map (updM os ⟨xt, (q : Int), xv⟩)) := hidI (by unfold addM; rw [if_pos hany])
        have HSt : Hid (∀ W, MapM W mb out → ∃ w', (Instr.mapUpdate 69 (.map (some mb)) (.agg #[.int .i64 xt, .int .i64 (q : Int)]) (.int .i64 (opTwo o s xv))).run Try.prog W = .ok () w' ∧ MapM w' mb (out.map (updM os ⟨xt, (q : Int), xv⟩)) ∧ W.grownBy w' (some mb)) := hidI fun W hW => by
          have h := storeM_old (m := ⟨xt, (q : Int), xv⟩) (u0 := u0) os hW hin.1 hin.2 hj hlk
          simp only [Int.toNat_natCast, hgd, hs] at h
          exact h
        rw [hs] at hlook
        unfold keyM at hlook
        simp only at hlook
        obtain ⟨z, hz⟩ : ∃ z, opTwo o s xv = z := ⟨_, rfl⟩
        rw [hz] at CB HSt
        have HOc := hidI oc0
        have HHin := hidI hin
        have HS4 : Hid (((wr.alloc (.cells #[.int .i64 xt, .int .i64 (q : Int), .int .i64 xv] 48)).alloc (.cells #[.int .i64 xt, .int .i64 (q : Int)] 70)).drew.cell? ⟨wr.heap.size + 1, 0, none⟩ = some (.int .i64 xt) ∧ ((wr.alloc (.cells #[.int .i64 xt, .int .i64 (q : Int), .int .i64 xv] 48)).alloc (.cells #[.int .i64 xt, .int .i64 (q : Int)] 70)).drew.cell? ⟨wr.heap.size + 1, 1, none⟩ = some (.int .i64 (q : Int)) ∧ ((wr.alloc (.cells #[.int .i64 xt, .int .i64 (q : Int), .int .i64 xv] 48)).alloc (.cells #[.int .i64 xt, .int .i64 (q : Int)] 70)).drew.cell? ⟨wr.heap.size, 1, none⟩ = some (.int .i64 (q : Int)) ∧ ((wr.alloc (.cells #[.int .i64 xt, .int .i64 (q : Int), .int .i64 xv] 48)).alloc (.cells #[.int .i64 xt, .int .i64 (q : Int)] 70)).drew.cell? ⟨wr.heap.size, 2, none⟩ = some (.int .i64 xv) ∧ ((wr.alloc (.cells #[.int .i64 xt, .int .i64 (q : Int), .int .i64 xv] 48)).alloc (.cells #[.int .i64 xt, .int .i64 (q : Int)] 70)).drew.cell? ⟨ob, oo + q, none⟩ = some (.int .u8 (o : Int))) := hidI (by
          refine ⟨by go_simp, by go_simp, by go_simp, by go_simp, ?_⟩
          have b9 : Below wr.heap.size wr ((wr.alloc (.cells #[.int .i64 xt, .int .i64 (q : Int), .int .i64 xv] 48)).alloc (.cells #[.int .i64 xt, .int .i64 (q : Int)] 70)).drew := (((Below.refl _ wr).alloc (Nat.le_refl _) _).alloc (by simp) _).drew
          exact (b9.cell (p := ⟨ob, oo + q, none⟩) (World.block_lt_of_cell? wr _ oc0)).trans oc0)
        have HM4 := hidI (HM2.out.below (Below.refl _ _).drew (Nat.le_refl _))
        have HB4 := hidI HBA.out.drew
        clear hany hj hlk hs hz hop ht ho hgd hin
        go_wp2
        refine regM (bm := wr.heap.size) (bk := wr.heap.size + 1) (q := q) (o := o) (xt := xt) (xv := xv) (s := s) (z := z) HS4.out hqL CB.out ?_ (fun _ _ _ _ _ h => h) ?_
        · intro W hW
          obtain ⟨w', h', _⟩ := HSt.out W (HM4.out.below hW (Nat.le_refl _))
          exact ⟨w', h'⟩
        intro W W' t41 t42 t43 t44 t45 t46 t47 t48 t49 t50 t51 hW hrunW
        obtain ⟨w', h', hM', hg'⟩ := HSt.out W (HM4.out.below hW (Nat.le_refl _))
        rw [hrunW] at h'
        have hww : W' = w' := by injection h'
        subst hww
        have HBw : Hid (Below w.heap.size w W) := hidI (HB4.out.trans (hW.mono HB4.out.size))
        have HB9 : Hid (Below w.heap.size w W') := hidI (HBw.out.grown hg' HBw.out.size (fun q hq => by cases hq; exact hmbw))
        have HM9 := hidI hM'
        clear h' hM' hg' hrunW hW hlook x0 x1 x2 oc0
        go_wp2
        go_roundg g
        case measure => omega
        case rel => exact ⟨i + 1, out.map (updM os ⟨xt, (q : Int), xv⟩), by omega, by go_num, HB9, HM9, hidI (by rw [HSn.out, ← HOut.out, HAdd.out])⟩
      · have hany' : out.any (likeM ⟨xt, (q : Int), xv⟩) = false := by simpa using hany
        have hlook := lookM_none HM2.out (m := ⟨xt, (q : Int), xv⟩) hin.1 hin.2 hany' _ rfl
        obtain ⟨w9, hst9, hM9, hg9⟩ := storeM_new HM2.out (m := ⟨xt, (q : Int), xv⟩) hin.1 hin.2 hany'
        have HAdd : Hid (addM os out ⟨xt, (q : Int), xv⟩ = out ++ [⟨xt, (q : Int), xv⟩]) := hidI (by unfold addM; rw [if_neg hany])
        unfold keyM at hlook hst9
        simp only at hlook hst9
        have HM9 := hidI hM9
        have HB9 : Hid (Below w.heap.size w w9) := hidI (HBA.out.grown hg9 (by simp; omega) (fun q hq => by cases hq; exact hmbw))
        clear hM9 hg9 hany hany' hop ht ho hgd hin
        go_wp2
        go_roundg g
        case measure => omega
        case rel => exact ⟨i + 1, out ++ [⟨xt, (q : Int), xv⟩], by omega, by go_num, HB9, HM9, hidI (by rw [HSn.out, ← HOut.out, HAdd.out])⟩
end Go.Proofs.Ytdfieflcclbgjaa
