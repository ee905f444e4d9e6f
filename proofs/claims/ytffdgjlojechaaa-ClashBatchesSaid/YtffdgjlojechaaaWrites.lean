/-
  Names sorted, each once; Writes.
-/
import Derived.Test.YtffdgjlojechaaaNames
import Derived.WalkSpells
import Derived.WalkLawsBesides
namespace Go.Proofs.Ytffdgjlojechaaa
open Go.RowKit Go.Deep Go.MapKept Go.Sort
/-- Names by their bytes, each once. -/
def uniq (ts : List Txt) : List Txt := Lib.compact (ts.mergeSort fun x y => decide (x ≤ y))
theorem uniq_nil : uniq [] = [] := by unfold uniq; simp [Lib.compact, Lib.compactUpTo]
set_option maxHeartbeats 1000000 in
theorem once_any (W : World) (base : Nat) (v : Value) (ts : List Txt) (ho : W.ownsRow base 9 1 v ts.length (vals ts)) (hl : ts.length ≤ 1000) (hbs : base ≤ W.heap.size) :
    Calls Try.prog 20 #[v] W fun e w' => ∃ v', e = .returned v' ∧ SeesS w' v' (uniq ts) ∧ Below base W w' := by
  rcases ho.2 with ⟨rfl, h0⟩ | ⟨g, cap, cur, rfl, hbase, hb, h1, h2, h3, h4⟩
  · obtain rfl : ts = [] := List.eq_nil_of_length_eq_zero h0
    have C1 : Calls Try.prog 23 #[.slice none 0 0] W fun e w' => e = .returned (.tuple #[]) ∧ w' = W := Any.slices_Sort_string_none Try.laysSort none 0 W
    have C2 : Calls Try.prog 24 #[.slice none 0 0] W fun e w' => e = .returned (.slice none 0 0) ∧ w' = W := Any.slices_Compact_string_empty Try.laysCompact none 0 W
    have D1 := hidI C1
    have D2 := hidI C2
    clear C1 C2
    go_enter Try.func20, Try.ntmps20
    go_wp2_with (first | (go_at_call 23; refine Calls.mono D1.out ?_; rintro e w1 ⟨rfl, rfl⟩) | (go_at_call 24; refine Calls.mono D2.out ?_; rintro e w1 ⟨rfl, rfl⟩))
    go_ret
    exact ⟨_, rfl, ⟨none, 0, by rw [uniq_nil]; rfl, by rw [uniq_nil]; exact Nat.le_refl _, .inl uniq_nil⟩, Below.refl _ _⟩
  · have h4' : cur.toList.take ts.length = ts.map encStr := by rw [Nat.mul_one] at h4; rw [vals_enc]; exact h4
    have hH : Holds encStr W g 0 ts.toArray := holds_of_block hb h4'
    have hg : g < W.heap.size := (Array.getElem?_eq_some_iff.1 hb).1
    obtain ⟨ss, hss⟩ : ∃ ss, (ts.mergeSort fun x y => decide (x ≤ y)) = ss := ⟨_, rfl⟩
    have hsl : ss.length = ts.length := by rw [← hss, List.length_mergeSort]
    have C1 : Calls Try.prog 23 #[.slice (some ⟨g, 0, none⟩) ts.length cap] W fun e w' => e = .returned (.tuple #[]) ∧ w'.ownsRow base 9 1 (.slice (some ⟨g, 0, none⟩) ts.length cap) ts.length (vals ss) ∧ W.grownBy w' (some g) := by
      refine Calls.mono (Any.slices_Sort_string Try.laysSort g 0 cap ts W hH hg (by omega)) ?_
      rintro e w' ⟨rfl, n, os, rfl⟩
      rw [hss]
      exact ⟨rfl, ownsRow_sorted hsl hbase hb h1 h2 h3, grownBy_sorted _⟩
    have C2 : ∀ w1 : World, w1.ownsRow base 9 1 (.slice (some ⟨g, 0, none⟩) ts.length cap) ts.length (vals ss) → Calls Try.prog 24 #[.slice (some ⟨g, 0, none⟩) ts.length cap] w1 fun e w' => ∃ v', e = .returned v' ∧ SeesS w' v' (Lib.compact ss) ∧ w1.grownBy w' (some g) := by
      intro w1 ho1
      rcases ho1.2 with ⟨hcon, _⟩ | ⟨g', cap', cur', he, _, hb', h1', h2', h3', h4''⟩
      · cases hcon
      · simp only [Value.slice.injEq, Option.some.injEq, Addr.mk.injEq, and_true, true_and] at he
        obtain ⟨rfl, rfl⟩ := he
        have h5 : cur'.toList.take ss.length = ss.map encStr := by rw [Nat.mul_one, ← hsl] at h4''; rw [vals_enc]; exact h4''
        have hH' : Holds encStr w1 g 0 ss.toArray := holds_of_block hb' h5
        have C := Any.slices_Compact_string Try.laysCompact g 0 cap ss w1 hH' (by omega) (by omega)
        rw [hsl] at C
        refine Calls.mono C ?_
        rintro e w' ⟨rfl, q, rfl⟩
        have hle := Lib.compact_length_le ss
        have ho2 : (putRow encStr (Sort.ahead w1 q) g 0 (Lib.compact ss ++ List.replicate (ts.length - (Lib.compact ss).length) []).toArray).ownsRow base 9 1 (.slice (some ⟨g, 0, none⟩) ts.length cap) ts.length (vals (Lib.compact ss ++ List.replicate (ts.length - (Lib.compact ss).length) [])) := by
          have := ownsRow_sorted (w := w1) (base := base) (g := g) (cap := cap) (n := q) (e := 9) (os := #[]) (cur := cur') (ss := ts) (ts := Lib.compact ss ++ List.replicate (ts.length - (Lib.compact ss).length) []) (by simp; omega) hbase hb' h1' h2' h3'
          rw [grow_empty] at this
          exact this
        refine ⟨_, rfl, ⟨_, cap, rfl, by omega, .inr ⟨g, 0, rfl, fun j t ht => ?_⟩⟩, ?_⟩
        · have hjl := (List.getElem?_eq_some_iff.1 ht).1
          have e0 := World.ownsRow.cells ho2 rfl j (.string (bytesOf t)) (by simp only [vals, List.getElem?_map]; rw [List.getElem?_append_left hjl, ht]; rfl)
          rw [show (⟨g, 0, none⟩ : Addr).add j = ⟨g, 0 + j, none⟩ from Addr.add_lit ..] at e0
          exact e0
        · have := grownBy_sorted (w := w1) (g := g) (n := q) (os := #[]) (Lib.compact ss ++ List.replicate (ts.length - (Lib.compact ss).length) []).toArray
          rw [grow_empty] at this
          exact this
    have D1 := hidI C1
    have D2 := hidI C2
    have HB := hidI hbase
    have HU : Hid (Lib.compact ss = uniq ts) := hidI (by unfold uniq; rw [hss])
    clear C1 C2 hH hb h1 h2 h3 h4 h4' ho hss hbase
    generalize ts.length = n at *
    go_enter Try.func20, Try.ntmps20
    go_wp2_with (first | (go_at_call 23; refine Calls.mono D1.out ?_; rintro e w1 ⟨rfl, ho1, hg1⟩; have H1 := hidI ho1; have G1 := hidI hg1; clear ho1 hg1) | (go_at_call 24; refine Calls.mono (D2.out _ H1.out) ?_; rintro e w2 ⟨v2, rfl, hs2, hg2⟩; have H2 := hidI hs2; have G2 := hidI hg2; clear hs2 hg2))
    go_ret
    refine ⟨v2, rfl, ?_, ?_⟩
    · rw [← HU.out]; exact H2.out
    · have b1 : Below base W w1 := (Below.refl _ _).grown G1.out hbs (fun k hk => by cases hk; exact HB.out)
      exact b1.grown G2.out (Nat.le_trans hbs G1.out.size) (fun k hk => by cases hk; exact HB.out)
def Deed.t (x : Deed) : Txt := x.s.data.toList
set_option maxRecDepth 100000 in
set_option maxHeartbeats 1000000 in
theorem writes_any (w : World) (v : Value) (xs : List Deed) (hv : SeesA w v xs) (hok : okA xs) (hlen : xs.length ≤ 1000) :
    Calls Try.prog 12 #[v] w fun e w' => ∃ v', e = .returned v' ∧ SeesS w' v' (uniq (xs.map Deed.t)) ∧ Below w.heap.size w w' := by
  obtain ⟨a, cap, rfl, hL⟩ := hv
  have HL := hidI hL
  have HO := hidI hok
  obtain ⟨k, hk⟩ : ∃ k, xs.length = k := ⟨_, rfl⟩
  have HK := hidI hk
  rw [hk] at hlen ⊢
  clear hL hok hk
  go_enter Try.func12, Try.ntmps12
  go_wp2
  go_loopg [3, 8] k (fun g s3 s8 wx => ∃ (i : Nat) (v3 : Value), v3 = s3 ∧ i + g = k ∧ s8 = .int .i64 i ∧ Hid (Below w.heap.size w wx) ∧ Hid (wx.ownsRow w.heap.size 9 1 v3 i (vals ((xs.map Deed.t).take i))))
  case atStart => exact ⟨0, _, rfl, by omega, rfl, hidI (Below.refl _ _), hidI (by simpa [vals] using World.ownsRow_nil w w.heap.size 9 1)⟩
  case round =>
    obtain ⟨i, v3, rfl, hig, rfl, HX, HW⟩ := hrel
    have hwr := HX.out.size
    cases gk with
    | zero =>
      obtain rfl : k = i := by omega
      have k1 : decide ((k : Int) < (k : Int)) = false := by simp
      have hown := HW.out
      rw [List.take_of_length_le (by have := HK.out; simp; omega)] at hown
      have hlm : (xs.map Deed.t).length = k := by rw [List.length_map]; exact HK.out
      rw [← hlm] at hown
      have C := hidI (once_any wr w.heap.size v3 (xs.map Deed.t) hown (by omega) hwr)
      clear hown hlm
      go_wp2_with (go_at_call 20; refine Calls.mono C.out ?_; rintro e w2 ⟨v2, rfl, hs2, hb2⟩; have H2 := hidI hs2; have B2 := hidI hb2; clear hs2 hb2)
      go_ret
      exact ⟨v2, rfl, H2.out, HX.out.trans B2.out⟩
    | succ g =>
      have k1 : (i : Int) < (k : Int) := by omega
      obtain ⟨x, hx⟩ : ∃ x, xs[i]? = some x := ⟨_, List.getElem?_eq_getElem (by have := HK.out; omega)⟩
      have C := hidI (clone_any x.s (HO.out x (List.mem_of_getElem? hx)))
      rcases HL.out with hnil | ⟨b, off, rfl, hlie⟩
      · subst hnil; simp at hx
      have kk : ∀ {p : Addr} {v : Value}, w.cell? p = some v → wr.cell? p = some v := fun {p v} hc => (HX.out.cell (World.block_lt_of_cell? w _ hc)).trans hc
      obtain ⟨c0, c1, c2, c3, c4, c5⟩ := hlie i x hx
      replace c0 := kk c0
      replace c1 := kk c1
      replace c2 := kk c2
      replace c3 := kk c3
      replace c4 := kk c4
      replace c5 := kk c5
      have HTK : Hid ((xs.map Deed.t).take (i + 1) = (xs.map Deed.t).take i ++ [x.s.data.toList]) := hidI (by rw [List.take_add_one, List.getElem?_map, hx]; rfl)
      clear hlie kk hx
      go_wp2_with (go_at_call 19; refine Calls.mono (C.out _) ?_; rintro e w3 ⟨rfl, hb3⟩; refine Hid.out ?_)
      refine hidI ?_
      have hb4 : Below wr.heap.size wr w3 := Below.trans (by (repeat (first | exact Below.refl _ _ | assumption | refine Below.drew ?_ | refine Below.alloc ?_ (by first | omega | (simp; done) | (simp; omega)) _ | refine Below.setCell ?_ (by first | omega | (simp; done) | (simp; omega)) _))) (hb3.mono (by simp))
      have HB4 := hidI hb4
      have hw3 := hb4.size
      have HO3 : Hid (w3.ownsRow w.heap.size 9 1 v3 i (vals ((xs.map Deed.t).take i))) := hidI (own_below HW.out hb4 (Nat.le_refl _))
      have HO4 := hidI (HO3.out.alloc (.cells #[.string x.s] 9))
      have HV := hidI (str_seen (W := w3) x.s)
      clear hb3 hb4
      go_wp2_with (at_builtin; go_must (refine wpList_append_strs rfl _ _ rfl w.heap.size _ i _ rfl HO4.out _ [x.s.data.toList] rfl HV.out (by simp; omega) (by simp; omega) ?_); intro v' w4 hown' hgrow' hat'; refine Hid.out ?_)
      refine hidI ?_
      have HX2 : Hid (Below w.heap.size w w4) := hidI (((HX.out.trans (HB4.out.mono hwr)).alloc (by omega) _).grown hgrow' (by simp; omega) (fun k hk => (HO4.out.lt k hk).1))
      have HO5 := hidI hown'
      clear hown' hgrow' hat'
      go_wp2
      go_roundg g
      case measure => omega
      case rel =>
        refine ⟨i + 1, _, rfl, by omega, by go_num, HX2, hidI ?_⟩
        rw [HTK.out]
        have := HO5.out
        simpa [vals] using this
end Go.Proofs.Ytffdgjlojechaaa
