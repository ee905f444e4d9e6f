/-
  The document's Combined.
-/
import Derived.Test.YtdfieflcclbgjaaReg22
import Derived.Test.YtdfieflcclbgjaaCombM
import Derived.Test.YtdfieflcclbgjaaRSorted
import Derived.Test.YtdfieflcclbgjaaRTaken
namespace Go.Proofs.Ytdfieflcclbgjaa
open Go.RowKit Go.Deep Go.MapKept Go.Sort
/-- Operations lie in a row. -/
def SeesO (w : World) (v : Value) (os : List Nat) : Prop :=
  ∃ (a : Option Addr) (cap : Nat), v = .slice a os.length cap ∧ (os = [] ∨ ∃ b off, a = some ⟨b, off, none⟩ ∧ ∀ (j : Nat) (o : Nat), os[j]? = some o → w.cell? ⟨b, off + j, none⟩ = some (.int .u8 (o : Int)))
theorem SeesO.cell {w : World} {v : Value} {os : List Nat} (h : SeesO w v os) {j : Nat} {o : Nat} (hx : os[j]? = some o) : ∃ b off cap, v = .slice (some ⟨b, off, none⟩) os.length cap ∧ w.cell? ⟨b, off + j, none⟩ = some (.int .u8 (o : Int)) := by
  obtain ⟨a, cap, rfl, h⟩ := h
  rcases h with rfl | ⟨b, off, rfl, h⟩
  · simp at hx
  · exact ⟨b, off, cap, rfl, h j o hx⟩
theorem own_set3 {w : World} {base e size n g cap j : Nat} {xs : List Value} (h : w.ownsRow base e size (.slice (some ⟨g, 0, none⟩) n cap) n xs) (u : Value) : (w.setCell ⟨g, j, none⟩ u).ownsRow base e size (.slice (some ⟨g, 0, none⟩) n cap) n (xs.set j u) := by
  refine ⟨by rw [List.length_set]; exact h.1, ?_⟩
  rcases h.2 with ⟨h0, _⟩ | ⟨g', cap', cur, he, hb, hh, h1, h2, h3, h4⟩
  · cases h0
  · simp only [Value.slice.injEq, Option.some.injEq, Addr.mk.injEq, and_true, true_and] at he
    obtain ⟨rfl, rfl⟩ := he
    refine .inr ⟨g, cap, cur.setIfInBounds j u, rfl, hb, heap_setCell_same _ _ _ _ _ _ hh, h1, h2, by simpa using h3, ?_⟩
    rw [Array.toList_setIfInBounds, List.take_set, h4]
theorem flatM_set : ∀ (xs : List Msg) (j : Nat) (x : Msg) (z : Int), xs[j]? = some x → flatM (xs.set j ⟨x.to, x.tag, z⟩) = (flatM xs).set (j * 3 + 2) (.int .i64 z)
  | [], _, _, _, h => by simp at h
  | y :: r, 0, x, z, h => by
    obtain rfl : y = x := by simpa using h
    simp [flatM, Msg.cells]
  | y :: r, j + 1, x, z, h => by
    have := flatM_set r j x z (by simpa using h)
    rw [show (j + 1) * 3 + 2 = j * 3 + 2 + 1 + 1 + 1 by omega]
    simp only [flatM, List.flatMap_cons, List.set_cons_succ, Msg.cells, List.cons_append, List.nil_append] at this ⊢
    rw [this]
theorem half_get {os : List Nat} {m u : Msg} {out : List Msg} {j : Nat} (hu : out[j]? = some u) : ((out.take j).map (updM os m) ++ out.drop j)[j]? = some u := by
  have hj := (List.getElem?_eq_some_iff.1 hu).1
  rw [List.getElem?_append_right (by simp; omega)]
  simp only [List.length_map, List.length_take, Nat.min_eq_left (Nat.le_of_lt hj), Nat.sub_self, List.getElem?_drop, Nat.add_zero]
  exact hu
theorem half_next {os : List Nat} {m u : Msg} {out : List Msg} {j : Nat} (hu : out[j]? = some u) : (out.take (j + 1)).map (updM os m) ++ out.drop (j + 1) = ((out.take j).map (updM os m) ++ out.drop j).set j (updM os m u) := by
  have hj := (List.getElem?_eq_some_iff.1 hu).1
  have hd : out.drop j = u :: out.drop (j + 1) := by rw [List.drop_eq_getElem_cons hj]; rw [(List.getElem?_eq_some_iff.1 hu).2]
  rw [List.take_add_one, hu, List.map_append, hd, List.set_append, if_neg (by simp; omega)]
  simp [Nat.min_eq_left (Nat.le_of_lt hj)]
theorem set_self {l : List Msg} {j : Nat} {x : Msg} (h : l[j]? = some x) : l.set j x = l := by
  refine List.ext_getElem? fun q => ?_
  rw [List.getElem?_set]
  split
  · rename_i e
    subst e
    rw [h, if_pos (List.getElem?_eq_some_iff.1 h).1]
  · rfl
theorem own_frozen {w : World} {base e size n g cap : Nat} {xs : List Value} (h : w.ownsRow base e size (.slice (some ⟨g, 0, none⟩) n cap) n xs) (j : Nat) : w.frozen? ⟨g, j, none⟩ = false := by
  rcases h.2 with ⟨h0, _⟩ | ⟨g', cap', cur, he, hb, hh, h1, h2, h3, h4⟩
  · cases h0
  · simp only [Value.slice.injEq, Option.some.injEq, Addr.mk.injEq, and_true, true_and] at he
    obtain ⟨rfl, rfl⟩ := he
    unfold World.frozen?
    simp only [hh]
    simp
def CombPost (w : World) (os : List Nat) (xs : List Msg) (e : Ending) (w' : World) : Prop := Below w.heap.size w w' ∧
  ((xs.all (tagOk os) = false ∧ e = .returned (.tuple #[.slice none 0 0, .int .i64 2])) ∨
   (xs.all (tagOk os) = true ∧ xs.all (opOk os) = false ∧ e = .returned (.tuple #[.slice none 0 0, .int .i64 3])) ∨
   (xs.all (tagOk os) = true ∧ xs.all (opOk os) = true ∧ ∃ v, e = .returned (.tuple #[v, .int .i64 0]) ∧ SeesM w' v (sortM (combM os xs))))
set_option maxRecDepth 100000 in
set_option maxHeartbeats 4000000 in
theorem rcombined_any (w : World) (v u : Value) (xs : List Msg) (os : List Nat) (hv : SeesM w v xs) (hu : SeesO w u os) (hl : xs.length ≤ 500) : Calls Try.prog 20 #[v, u] w (CombPost w os xs) := by
  obtain ⟨a, cap, rfl, hcap, hL⟩ := hv
  have HV : Hid (SeesM w (.slice a xs.length cap) xs) := hidI ⟨a, cap, rfl, hcap, hL⟩
  obtain ⟨oa, ocap, rfl, hO⟩ := hu
  have HU : Hid (SeesO w (.slice oa os.length ocap) os) := hidI ⟨oa, ocap, rfl, hO⟩
  clear hL hcap hO
  obtain ⟨k, hk⟩ : ∃ k, xs.length = k := ⟨_, rfl⟩
  have HK := hidI hk
  obtain ⟨ol, hol2⟩ : ∃ ol, os.length = ol := ⟨_, rfl⟩
  have HOL := hidI hol2
  rw [hk] at hl HV ⊢
  rw [hol2] at HU ⊢
  clear hk hol2
  go_enter Try.func20, Try.ntmps20
  go_wp2
  go_loopg [6] k (fun g s6 wx => ∃ i : Nat, i + g = k ∧ s6 = .int .i64 i ∧ w = wx ∧ Hid (∀ x ∈ xs.take i, tagOk os x = true))
  case atStart => exact ⟨0, by omega, rfl, rfl, hidI (by simp)⟩
  case round =>
    obtain ⟨i, hig, rfl, rfl, HO⟩ := hrel
    cases gk with
    | succ g =>
      have k1 : (i : Int) < (k : Int) := by omega
      obtain ⟨x, hx⟩ : ∃ x, xs[i]? = some x := ⟨_, List.getElem?_eq_getElem (by have := HK.out; omega)⟩
      obtain ⟨b1, o1, c1, e1, x0, x1, x2⟩ := HV.out.cell hx
      rw [HK.out] at e1
      cases e1
      have HTK : Hid (xs.take (i + 1) = xs.take i ++ [x]) := hidI (by rw [List.take_add_one, hx]; rfl)
      have HBad : Hid (tagOk os x = false → xs.all (tagOk os) = false) := hidI fun h => by
        rw [List.all_eq_false]
        exact ⟨x, List.mem_of_getElem? hx, by simp [h]⟩
      clear hx x0 x2
      obtain ⟨xt, xg, xv⟩ := x
      simp only at x1
      by_cases h1 : xg < 0
      · have HF := hidI (HBad.out (decide_eq_false (by simp only; omega)))
        go_wp2
        go_ret2
        exact ⟨Below.refl _ _, .inl ⟨HF.out, rfl⟩⟩
      · have q1 : decide (xg < 0) = false := by simpa using h1
        by_cases h2 : (ol : Int) ≤ xg
        · have HF := hidI (HBad.out (decide_eq_false (by simp only; have := HOL.out; omega)))
          go_wp2
          go_ret2
          exact ⟨Below.refl _ _, .inl ⟨HF.out, rfl⟩⟩
        · have q2 : decide ((ol : Int) ≤ xg) = false := by simpa using h2
          have HOk : Hid (tagOk os ⟨xt, xg, xv⟩ = true) := hidI (decide_eq_true (by simp only; have := HOL.out; omega))
          go_wp2
          go_roundg g
          case measure => omega
          case rel =>
            refine ⟨i + 1, by omega, by go_num, rfl, hidI fun y hy => ?_⟩
            rw [HTK.out] at hy
            rcases List.mem_append.1 hy with hy | hy
            · exact HO.out y hy
            · rw [List.mem_singleton.1 hy]; exact HOk.out
    | zero =>
      obtain rfl : k = i := by omega
      have k1 : decide ((k : Int) < (k : Int)) = false := by simp
      have HAll : Hid (∀ x ∈ xs, tagOk os x = true) := hidI (by have := HO.out; rw [List.take_of_length_le (by have := HK.out; omega)] at this; exact this)
      clear HO
      go_wp2
      go_loopg [7] k (fun g s7 wx => ∃ i : Nat, i + g = k ∧ s7 = .int .i64 i ∧ w = wx ∧ Hid (∀ x ∈ xs.take i, opOk os x = true))
      case atStart => exact ⟨0, by omega, rfl, rfl, hidI (by simp)⟩
      case round =>
        obtain ⟨i, hig, rfl, rfl, HP⟩ := hrel
        cases gk with
        | succ g =>
          have k2 : (i : Int) < (k : Int) := by omega
          obtain ⟨x, hx⟩ : ∃ x, xs[i]? = some x := ⟨_, List.getElem?_eq_getElem (by have := HK.out; omega)⟩
          obtain ⟨b1, o1, c1, e1, x0, x1, x2⟩ := HV.out.cell hx
          rw [HK.out] at e1
          cases e1
          have hok := of_decide_eq_true (HAll.out x (List.mem_of_getElem? hx))
          obtain ⟨T, hT⟩ : ∃ T : Nat, x.tag = (T : Int) := ⟨x.tag.toNat, by omega⟩
          have hTl : T < os.length := by omega
          obtain ⟨o, ho⟩ : ∃ o, os[T]? = some o := ⟨_, List.getElem?_eq_getElem hTl⟩
          obtain ⟨b2, o2, c2, e2, y0⟩ := HU.out.cell ho
          rw [HOL.out] at e2 hTl
          cases e2
          have kT : (T : Int) < (ol : Int) := by omega
          have HTK : Hid (xs.take (i + 1) = xs.take i ++ [x]) := hidI (by rw [List.take_add_one, hx]; rfl)
          have HOp : Hid (opOk os x = redB (o : Int)) := hidI (by unfold opOk; rw [hT]; simp [List.getD, ho])
          have HBad : Hid (opOk os x = false → xs.all (opOk os) = false) := hidI fun h => by
            rw [List.all_eq_false]
            exact ⟨x, List.mem_of_getElem? hx, by simp [h]⟩
          rw [hT] at x1
          clear hx x0 x2 hok ho hT
          by_cases hr : redB (o : Int) = true
          · go_wp2_with (go_at_call 43; refine (reducesR_any _ _).mono ?_; rintro e w' ⟨rfl, rfl⟩)
            go_roundg g
            case measure => omega
            case rel =>
              refine ⟨i + 1, by omega, by go_num, rfl, hidI fun y hy => ?_⟩
              rw [HTK.out] at hy
              rcases List.mem_append.1 hy with hy | hy
              · exact HP.out y hy
              · rw [List.mem_singleton.1 hy, HOp.out]; exact hr
          · have hr' : redB (o : Int) = false := by simpa using hr
            have HF := hidI (HBad.out (by rw [HOp.out]; exact hr'))
            go_wp2_with (go_at_call 43; refine (reducesR_any _ _).mono ?_; rintro e w' ⟨rfl, rfl⟩)
            go_ret2
            exact ⟨Below.refl _ _, .inr (.inl ⟨List.all_eq_true.2 HAll.out, HF.out, rfl⟩)⟩
        | zero =>
          obtain rfl : k = i := by omega
          have HOps : Hid (∀ x ∈ xs, opOk os x = true) := hidI (by have := HP.out; rw [List.take_of_length_le (by have := HK.out; omega)] at this; exact this)
          clear HP
          go_wp2
          go_loopg [10, 11] k (fun g s10 s11 wx => ∃ (i n : Nat) (v10 : Value), i + g = k ∧ v10 = s10 ∧ s11 = .int .i64 (i : Int) ∧ n ≤ i ∧ Hid (Below w.heap.size w wx) ∧ Hid (((xs.take i).foldl (addM os) []).length = n) ∧ Hid (wx.ownsRow w.heap.size 48 3 v10 n (flatM ((xs.take i).foldl (addM os) []))))
          case atStart => exact ⟨0, 0, _, by omega, rfl, rfl, by omega, hidI (Below.refl _ _), hidI rfl, hidI (World.ownsRow_nil _ _ _ _)⟩
          case round =>
            obtain ⟨i, n, v10, hig, rfl, rfl, hni, HB, HLn, HOw⟩ := hrel
            obtain ⟨va, vc, hvf, _⟩ := own_cap HOw.out
            subst hvf
            cases gk with
            | zero =>
              have hik : i = k := by omega
              have k3 : decide ((i : Int) < (k : Int)) = false := by rw [decide_eq_false_iff_not]; omega
              have k4 : decide (i < k) = false := by rw [decide_eq_false_iff_not]; omega
              have HCS := hidI (rsorted_any wr (.slice va n vc) (combM os xs) (by
                have h := HOw.out
                rw [List.take_of_length_le (by have := HK.out; omega)] at h
                exact seesM_of_owns h) (by
                have := combM_len os xs []
                have h2 := HK.out
                simp at this
                unfold combM
                omega))
              clear hik
              go_wp2_with (go_at_call 13; refine Calls.mono HCS.out ?_; rintro e w3 ⟨v', rfl, hs3, hb3⟩; refine Hid.out ?_)
              refine hidI ?_
              have H3 := hidI hs3
              have B3 := hidI hb3
              clear hs3 hb3
              go_wp2
              go_ret2
              exact ⟨HB.out.trans (B3.out.mono HB.out.size), .inr (.inr ⟨List.all_eq_true.2 HAll.out, List.all_eq_true.2 HOps.out, v', rfl, H3.out⟩)⟩
            | succ g =>
              have k3 : (i : Int) < (k : Int) := by omega
              obtain ⟨x, hx⟩ : ∃ x, xs[i]? = some x := ⟨_, List.getElem?_eq_getElem (by have := HK.out; omega)⟩
              obtain ⟨b1, o1, c1, e1, x0, x1, x2⟩ := HV.out.cell hx
              rw [HK.out] at e1
              cases e1
              have hok := of_decide_eq_true (HAll.out x (List.mem_of_getElem? hx))
              have hop := HOps.out x (List.mem_of_getElem? hx)
              obtain ⟨T, hT⟩ : ∃ T : Nat, x.tag = (T : Int) := ⟨x.tag.toNat, by omega⟩
              have hTl : T < os.length := by omega
              obtain ⟨o, ho⟩ : ∃ o, os[T]? = some o := ⟨_, List.getElem?_eq_getElem hTl⟩
              have HM : Hid (many5 o) := hidI (redB_many (by unfold opOk at hop; rw [hT] at hop; simpa [List.getD, ho] using hop))
              have HUv : Hid (∀ u : Msg, likeM x u = true → updM os x u = ⟨u.to, u.tag, opTwo o u.val x.val⟩) := hidI fun u hu => by
                unfold updM
                rw [if_pos hu, hT]
                simp [List.getD, ho]
              obtain ⟨b2, o2, c2, e2, y0⟩ := HU.out.cell ho
              rw [HOL.out] at e2 hTl
              cases e2
              have hb2 := World.block_lt_of_cell? w _ y0
              have HY0 : Hid (∀ y, Below w.heap.size w y → y.cell? ⟨b2, o2 + T, none⟩ = some (.int .u8 (o : Int))) := hidI fun y hy => (hy.cell (p := ⟨b2, o2 + T, none⟩) hb2).trans y0
              have HTK : Hid ((xs.take (i + 1)).foldl (addM os) [] = addM os ((xs.take i).foldl (addM os) []) x) := hidI (by rw [List.take_add_one, hx]; simp)
              have kk : ∀ {p : Addr} {v : Value}, w.cell? p = some v → wr.cell? p = some v := fun {p v} hc => (HB.out.cell (World.block_lt_of_cell? w _ hc)).trans hc
              replace x0 := kk x0
              replace x1 := kk x1
              replace x2 := kk x2
              obtain ⟨out, hout⟩ : ∃ out, (xs.take i).foldl (addM os) [] = out := ⟨_, rfl⟩
              rw [hout] at HLn HOw HTK
              clear kk hx hok hop ho y0 hout
              obtain ⟨xt, xg, xv⟩ := x
              simp only at x0 x1 x2 hT
              subst hT
              have HB1 : Hid (Below w.heap.size w (wr.alloc (.cells #[.int .i64 xt, .int .i64 (T : Int), .int .i64 xv] 48))) := hidI (HB.out.alloc HB.out.size _)
              have HO1 : Hid ((wr.alloc (.cells #[.int .i64 xt, .int .i64 (T : Int), .int .i64 xv] 48)).ownsRow w.heap.size 48 3 (.slice va n vc) n (flatM out)) := hidI (World.ownsRow.alloc HOw.out _)
              have HNM : Hid ((Value.slice va n vc).ownBlock ≠ some wr.heap.size) := hidI fun e => by have := (HOw.out.lt _ e).2; omega
              have HM1 : Hid ((wr.alloc (.cells #[.int .i64 xt, .int .i64 (T : Int), .int .i64 xv] 48)).cell? ⟨wr.heap.size, 0, none⟩ = some (.int .i64 xt) ∧ (wr.alloc (.cells #[.int .i64 xt, .int .i64 (T : Int), .int .i64 xv] 48)).cell? ⟨wr.heap.size, 1, none⟩ = some (.int .i64 (T : Int)) ∧ (wr.alloc (.cells #[.int .i64 xt, .int .i64 (T : Int), .int .i64 xv] 48)).cell? ⟨wr.heap.size, 2, none⟩ = some (.int .i64 xv)) := hidI ⟨by go_simp, by go_simp, by go_simp⟩
              have hsw := HB.out.size
              go_wp2
              obtain ⟨mb, hmb⟩ : ∃ mb, wr.heap.size = mb := ⟨_, rfl⟩
              rw [hmb] at HNM HM1 hsw ⊢
              clear hmb x0 x1 x2 HB HOw
              generalize wr.alloc (.cells #[.int .i64 xt, .int .i64 (T : Int), .int .i64 xv] 48) = wq at *
              go_loopg [13, 14] n (fun g2 s13 s14 wz => ∃ (j : Nat), j + g2 = n ∧ s13 = .bool ((out.take j).any (likeM ⟨xt, (T : Int), xv⟩)) ∧ s14 = .int .i64 (j : Int) ∧ Hid (Below w.heap.size w wz) ∧ Hid (wz.ownsRow w.heap.size 48 3 (.slice va n vc) n (flatM ((out.take j).map (updM os ⟨xt, (T : Int), xv⟩) ++ out.drop j))) ∧ Hid (wz.cell? ⟨mb, 0, none⟩ = some (.int .i64 xt) ∧ wz.cell? ⟨mb, 1, none⟩ = some (.int .i64 (T : Int)) ∧ wz.cell? ⟨mb, 2, none⟩ = some (.int .i64 xv)))
              case atStart => exact ⟨0, by omega, by simp, rfl, HB1, hidI (by simpa using HO1.out), HM1⟩
              case round =>
                obtain ⟨j, hjg, rfl, rfl, HBz, HOz, HMz⟩ := hrel
                cases gk with
                | zero =>
                  obtain rfl : n = j := by omega
                  have k5 : decide ((n : Int) < (n : Int)) = false := by simp
                  have htn : out.take n = out := List.take_of_length_le (by have := HLn.out; omega)
                  have hdn : out.drop n = [] := List.drop_eq_nil_of_le (by have := HLn.out; omega)
                  have HO2 := HOz
                  rw [htn, hdn, List.append_nil] at HO2
                  rw [htn]
                  have hszr := HBz.out.size
                  clear htn hdn HOz
                  cases hany : out.any (likeM ⟨xt, (T : Int), xv⟩) with
                  | true =>
                    have HAd : Hid ((xs.take (i + 1)).foldl (addM os) [] = out.map (updM os ⟨xt, (T : Int), xv⟩)) := hidI (by rw [HTK.out]; unfold addM; rw [if_pos hany])
                    go_wp2
                    go_roundg g
                    case measure => omega
                    case rel => exact ⟨i + 1, n, _, by omega, rfl, by go_num, by omega, HBz, hidI (by rw [HAd.out]; simpa using HLn.out), hidI (by rw [HAd.out]; exact HO2.out)⟩
                  | false =>
                    have HAd : Hid ((xs.take (i + 1)).foldl (addM os) [] = out ++ [⟨xt, (T : Int), xv⟩]) := hidI (by rw [HTK.out]; unfold addM; rw [if_neg (by simp [hany])])
                    have HO3 : Hid (wr.ownsRow w.heap.size 48 3 (.slice va n vc) n (flatM out)) := hidI (by have := HO2.out; rwa [updM_none hany] at this)
                    obtain ⟨m0, m1, m2⟩ := HMz.out
                    have HOA := hidI (World.ownsRow.alloc HO3.out (.cells #[.int .i64 xt, .int .i64 (T : Int), .int .i64 xv] 48))
                    have HSM := hidI (msg_seen (W := wr) ⟨xt, (T : Int), xv⟩)
                    go_wp2_with (at_builtin; go_must (refine wpList_append_any Try.underlying22 Try.info48 rfl (by decide) (by decide) rfl _ _ rfl w.heap.size _ n _ rfl HOA.out _ 1 (Msg.cells ⟨xt, (T : Int), xv⟩) rfl HSM.out (cells_one _) (by omega) (by simp; omega) ?_); intro v9 w9 hown9 hgrow9 _; refine Hid.out ?_)
                    refine hidI ?_
                    have HB9 : Hid (Below w.heap.size w w9) := hidI (Below.grown (HBz.out.alloc hszr _) hgrow9 (by simp; omega) (fun k hk => (HOA.out.lt k hk).1))
                    have HO9 : Hid (w9.ownsRow w.heap.size 48 3 v9 (n + 1) (flatM (out ++ [⟨xt, (T : Int), xv⟩]))) := hidI (by rw [flatM_append, flatM_one]; exact hown9)
                    clear hown9 hgrow9 HOA HSM m0 m1 m2
                    go_wp2
                    go_roundg g
                    case measure => omega
                    case rel => exact ⟨i + 1, n + 1, v9, by omega, rfl, by go_num, by omega, HB9, hidI (by rw [HAd.out]; simpa using HLn.out), hidI (by rw [HAd.out]; exact HO9.out)⟩
                | succ g2 =>
                  have k5 : (j : Int) < (n : Int) := by omega
                  obtain ⟨gb, gc, hgf⟩ := Joins.ownsRow_form HOz.out (by omega)
                  cases hgf
                  obtain ⟨y, hy⟩ : ∃ y, out[j]? = some y := ⟨_, List.getElem?_eq_getElem (by have := HLn.out; omega)⟩
                  have hgm : gb ≠ mb := fun e => HNM.out (by rw [e]; rfl)
                  have hgw : w.heap.size ≤ gb := (HOz.out.lt gb rfl).1
                  have gcell : ∀ (q : Nat) (c : Value), q < 3 → y.cells[q]? = some c → wr.cell? ⟨gb, j * 3 + q, none⟩ = some c := fun q c hq hc => by
                    have h1 := World.ownsRow.cells HOz.out rfl (j * 3 + q) c (by rw [flatM_get _ j q y (half_get hy) hq]; exact hc)
                    rw [Addr.add_lit, Nat.zero_add] at h1
                    exact h1
                  have u0 := gcell 0 _ (by omega) rfl
                  have u1 := gcell 1 _ (by omega) rfl
                  have u2 := gcell 2 _ (by omega) rfl
                  rw [Nat.add_zero] at u0
                  obtain ⟨m0, m1, m2⟩ := HMz.out
                  have HNx : Hid ((out.take (j + 1)).map (updM os ⟨xt, (T : Int), xv⟩) ++ out.drop (j + 1) = ((out.take j).map (updM os ⟨xt, (T : Int), xv⟩) ++ out.drop j).set j (updM os ⟨xt, (T : Int), xv⟩ y)) := hidI (half_next hy)
                  have HGt := hidI (half_get (os := os) (m := ⟨xt, (T : Int), xv⟩) hy)
                  have HAn : Hid ((out.take (j + 1)).any (likeM ⟨xt, (T : Int), xv⟩) = ((out.take j).any (likeM ⟨xt, (T : Int), xv⟩) || likeM ⟨xt, (T : Int), xv⟩ y)) := hidI (by rw [List.take_add_one, hy]; simp)
                  have c0 : ∀ d os, (grow (redrawn wr d) os).cell? ⟨mb, 0, none⟩ = some (.int .i64 xt) := fun d os => cell_regrown m0 d os
                  have c1 : ∀ d os, (grow (redrawn wr d) os).cell? ⟨mb, 1, none⟩ = some (.int .i64 (T : Int)) := fun d os => cell_regrown m1 d os
                  replace u0 := fun d os => cell_regrown u0 d os
                  replace u1 := fun d os => cell_regrown u1 d os
                  clear gcell hy
                  obtain ⟨yt, yg, yv⟩ := y
                  simp only at u0 u1 u2 HGt
                  by_cases h1 : yt = xt
                  · by_cases h2 : yg = (T : Int)
                    · subst h1
                      subst h2
                      have HNo : Hid (flatM ((out.take (j + 1)).map (updM os ⟨yt, (T : Int), xv⟩) ++ out.drop (j + 1)) = (flatM ((out.take j).map (updM os ⟨yt, (T : Int), xv⟩) ++ out.drop j)).set (j * 3 + 2) (.int .i64 (opTwo o yv xv))) := hidI (by
                        rw [HNx.out, HUv.out _ (by simp [likeM]), flatM_set _ j _ _ HGt.out])
                      have HFn : Hid ((out.take (j + 1)).any (likeM ⟨yt, (T : Int), xv⟩) = true) := hidI (by rw [HAn.out]; simp [likeM])
                      clear HNx HGt HAn HUv
                      go_wp2
                      refine wp_region_quiet_below (by kernel_rfl) (by kernel_rfl) ?_
                      repeat (first | go_big_quiet_step (fail) | quiet_step (fail))
                      refine wpQuiet_nil ?_
                      intro _ hw'
                      obtain ⟨⟨dq, osq⟩, hw''⟩ := hw'
                      subst hw''
                      have HR7 := hidI (below_regrown wr dq osq)
                      generalize grow (redrawn wr dq) osq = w7 at *
                      clear c0 c1 u0 u1
                      have hb7d : Below wr.heap.size wr w7.drew := HR7.out.trans (Below.mono (Below.refl _ w7).drew HR7.out.size)
                      have HB7 : Hid (Below w.heap.size w w7.drew) := hidI (HBz.out.trans (hb7d.mono HBz.out.size))
                      have HO7 : Hid (w7.drew.ownsRow w.heap.size 48 3 (.slice (some ⟨gb, 0, none⟩) n vc) n (flatM ((out.take j).map (updM os ⟨yt, (T : Int), xv⟩) ++ out.drop j))) := hidI (own_below HOz.out hb7d (Nat.le_refl _))
                      have zz : ∀ {p : Addr} {v : Value}, wr.cell? p = some v → w7.drew.cell? p = some v := fun {p v} hc => (hb7d.cell (World.block_lt_of_cell? wr _ hc)).trans hc
                      have HM7 : Hid (w7.drew.cell? ⟨mb, 0, none⟩ = some (.int .i64 yt) ∧ w7.drew.cell? ⟨mb, 1, none⟩ = some (.int .i64 (T : Int)) ∧ w7.drew.cell? ⟨mb, 2, none⟩ = some (.int .i64 xv)) := hidI ⟨zz m0, zz m1, zz m2⟩
                      have HU7 : Hid (w7.drew.cell? ⟨gb, j * 3 + 2, none⟩ = some (.int .i64 yv)) := hidI (zz u2)
                      have HFz : Hid (w7.drew.frozen? ⟨gb, j * 3 + 2, none⟩ = false) := hidI (own_frozen HO7.out _)
                      clear zz hb7d m0 m1 m2 u2
                      go_wp2
                      refine reg22 (T := T) (o := o) (k := j) (n := n) (mv := xv) (uv := yv) (g := gb) (mb := mb) ⟨HM7.out.2.1, HM7.out.2.2, HY0.out _ HB7.out⟩ HU7.out hgm (by omega) HM.out (by omega) (by omega) HFz.out (fun _ _ _ _ _ h => h) ?_
                      intro W t91 t92 t93 t94 t95 t96 t97 t98 t99 t100 t101 t102 t103 t104 t105 t106 t107 t108 t109 t110 t111 hb9
                      have HB9 : Hid (Below w.heap.size w (W.setCell ⟨gb, j * 3 + 2, none⟩ (.int .i64 (opTwo o yv xv)))) := hidI ((HB7.out.trans (hb9.mono HB7.out.size)).setCell hgw _)
                      have HO9 : Hid ((W.setCell ⟨gb, j * 3 + 2, none⟩ (.int .i64 (opTwo o yv xv))).ownsRow w.heap.size 48 3 (.slice (some ⟨gb, 0, none⟩) n vc) n (flatM ((out.take (j + 1)).map (updM os ⟨yt, (T : Int), xv⟩) ++ out.drop (j + 1)))) := hidI (by rw [HNo.out]; exact own_set3 (own_below HO7.out hb9 (Nat.le_refl _)) _)
                      have HM9 : Hid ((W.setCell ⟨gb, j * 3 + 2, none⟩ (.int .i64 (opTwo o yv xv))).cell? ⟨mb, 0, none⟩ = some (.int .i64 yt) ∧ (W.setCell ⟨gb, j * 3 + 2, none⟩ (.int .i64 (opTwo o yv xv))).cell? ⟨mb, 1, none⟩ = some (.int .i64 (T : Int)) ∧ (W.setCell ⟨gb, j * 3 + 2, none⟩ (.int .i64 (opTwo o yv xv))).cell? ⟨mb, 2, none⟩ = some (.int .i64 xv)) := hidI (by
                        obtain ⟨m0, m1, m2⟩ := HM7.out
                        have zz : ∀ {q : Nat} {v : Value}, w7.drew.cell? ⟨mb, q, none⟩ = some v → (W.setCell ⟨gb, j * 3 + 2, none⟩ (.int .i64 (opTwo o yv xv))).cell? ⟨mb, q, none⟩ = some v := fun {q v} hc => (World.cell?_setCell_other _ _ _ _ (by intro hh; simp only [Addr.mk.injEq] at hh; exact hgm hh.1)).trans ((hb9.cell (World.block_lt_of_cell? _ _ hc)).trans hc)
                        exact ⟨zz m0, zz m1, zz m2⟩)
                      clear hb9
                      generalize W.setCell ⟨gb, j * 3 + 2, none⟩ (.int .i64 (opTwo o yv xv)) = W8 at *
                      go_wp2
                      go_roundg g2
                      case measure => omega
                      case rel => exact ⟨j + 1, by omega, by rw [HFn.out], by go_num, HB9, HO9, HM9⟩
                    · have HLk : Hid (likeM ⟨xt, (T : Int), xv⟩ ⟨yt, yg, yv⟩ = false) := hidI (by simp [likeM, h2])
                      have HNo : Hid ((out.take (j + 1)).map (updM os ⟨xt, (T : Int), xv⟩) ++ out.drop (j + 1) = (out.take j).map (updM os ⟨xt, (T : Int), xv⟩) ++ out.drop j) := hidI (by rw [HNx.out]; unfold updM at HGt ⊢; rw [if_neg (by simp [HLk.out])]; exact set_self HGt.out)
                      have HFn : Hid ((out.take (j + 1)).any (likeM ⟨xt, (T : Int), xv⟩) = (out.take j).any (likeM ⟨xt, (T : Int), xv⟩)) := hidI (by rw [HAn.out, HLk.out, Bool.or_false])
                      subst h1
                      have q2 : (yg == (T : Int)) = false := by simpa using h2
                      clear HNx HGt HAn u2 m0 m1 m2
                      go_wp2
                      refine wp_region_quiet_below (by kernel_rfl) (by kernel_rfl) ?_
                      repeat (first | go_big_quiet_step (fail) | quiet_step (fail))
                      refine wpQuiet_nil ?_
                      intro _ hw'
                      obtain ⟨⟨dq, osq⟩, hw''⟩ := hw'
                      subst hw''
                      have HR7 := hidI (below_regrown wr dq osq)
                      generalize grow (redrawn wr dq) osq = w7 at *
                      clear c0 c1 u0 u1
                      go_wp2
                      go_roundg g2
                      case measure => omega
                      case rel => exact ⟨j + 1, by omega, by rw [HFn.out], by go_num, hidI (HBz.out.trans (HR7.out.mono HBz.out.size)), hidI (by rw [HNo.out]; exact own_below HOz.out HR7.out (Nat.le_refl _)), hidI (by
                        obtain ⟨m0, m1, m2⟩ := HMz.out
                        have z : ∀ {p : Addr} {v : Value}, wr.cell? p = some v → w7.cell? p = some v := fun {p v} hc => (HR7.out.cell (World.block_lt_of_cell? wr _ hc)).trans hc
                        exact ⟨z m0, z m1, z m2⟩)⟩
                  · have HLk : Hid (likeM ⟨xt, (T : Int), xv⟩ ⟨yt, yg, yv⟩ = false) := hidI (by simp [likeM, h1])
                    have HNo : Hid ((out.take (j + 1)).map (updM os ⟨xt, (T : Int), xv⟩) ++ out.drop (j + 1) = (out.take j).map (updM os ⟨xt, (T : Int), xv⟩) ++ out.drop j) := hidI (by rw [HNx.out]; unfold updM at HGt ⊢; rw [if_neg (by simp [HLk.out])]; exact set_self HGt.out)
                    have HFn : Hid ((out.take (j + 1)).any (likeM ⟨xt, (T : Int), xv⟩) = (out.take j).any (likeM ⟨xt, (T : Int), xv⟩)) := hidI (by rw [HAn.out, HLk.out, Bool.or_false])
                    have q1 : (yt == xt) = false := by simpa using h1
                    clear HNx HGt HAn u2 m0 m1 m2
                    go_wp2
                    refine wp_region_quiet_below (by kernel_rfl) (by kernel_rfl) ?_
                    repeat (first | go_big_quiet_step (fail) | quiet_step (fail))
                    refine wpQuiet_nil ?_
                    intro _ hw'
                    obtain ⟨⟨dq, osq⟩, hw''⟩ := hw'
                    subst hw''
                    have HR7 := hidI (below_regrown wr dq osq)
                    generalize grow (redrawn wr dq) osq = w7 at *
                    clear c0 c1 u0 u1
                    go_wp2
                    go_roundg g2
                    case measure => omega
                    case rel => exact ⟨j + 1, by omega, by rw [HFn.out], by go_num, hidI (HBz.out.trans (HR7.out.mono HBz.out.size)), hidI (by rw [HNo.out]; exact own_below HOz.out HR7.out (Nat.le_refl _)), hidI (by
                      obtain ⟨m0, m1, m2⟩ := HMz.out
                      have z : ∀ {p : Addr} {v : Value}, wr.cell? p = some v → w7.cell? p = some v := fun {p v} hc => (HR7.out.cell (World.block_lt_of_cell? wr _ hc)).trans hc
                      exact ⟨z m0, z m1, z m2⟩)⟩
end Go.Proofs.Ytdfieflcclbgjaa
