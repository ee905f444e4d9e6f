/-
  Messages sorted: what the program's Sorted comes to.
-/
import Derived.Test.YtdfieflcclbgjaaPCmp
import Derived.Test.YtdfieflcclbgjaaSort
import Derived.Shelf.SlSortCmp.NoneTotal
namespace Go.Proofs.Ytdfieflcclbgjaa
open Go.RowKit Go.Deep Go.MapKept Go.Sort Go.Shelf
theorem cmpI_lt {x y : Int} (h : x < y) : cmpI x y = -1 := if_pos h
theorem cmpI_gt {x y : Int} (h : y < x) : cmpI x y = 1 := by unfold cmpI; rw [if_neg (by omega), if_pos h]
theorem cmpI_eq {x y : Int} (h : x = y) : cmpI x y = 0 := by unfold cmpI; rw [if_neg (by omega), if_neg (by omega)]
theorem ltOf_cmpM (x y : Msg) : ltOf cmpM x y = bef x y := by
  rw [Bool.eq_iff_iff, bef_iff]
  unfold ltOf cmpM orI
  rw [decide_eq_true_eq]
  rcases Int.lt_trichotomy x.to y.to with h1 | h1 | h1
  · rw [cmpI_lt h1]; simp; omega
  · rw [cmpI_eq h1]
    rcases Int.lt_trichotomy x.tag y.tag with h2 | h2 | h2
    · rw [cmpI_lt h2]; simp; omega
    · rw [cmpI_eq h2]
      rcases Int.lt_trichotomy x.val y.val with h3 | h3 | h3
      · rw [cmpI_lt h3]; simp; omega
      · rw [cmpI_eq h3]; simp; omega
      · rw [cmpI_gt h3]; simp; omega
    · rw [cmpI_gt h2]; simp; omega
  · rw [cmpI_gt h1]; simp; omega
theorem ltOf_bef : ltOf cmpM = bef := by funext x y; exact ltOf_cmpM x y
theorem bef_not (x y : Msg) : bef x y = false ↔ ¬ (x.to < y.to ∨ (x.to = y.to ∧ (x.tag < y.tag ∨ (x.tag = y.tag ∧ x.val < y.val)))) := by rw [← bef_iff, Bool.not_eq_true]
theorem swoM : SWO (ltOf cmpM) := by
  rw [ltOf_bef]
  exact ⟨fun x => by rw [bef_not]; omega, fun x y z h1 h2 => by rw [bef_iff] at *; omega, fun x y z h1 h2 => by rw [bef_not] at *; omega⟩
theorem isAgg48 (w : World) : (isAgg 48).run Try.prog w = .ok true w := by simp [isAgg, run_underlying Try.underlying48]
theorem sizeOf48 (w : World) : (Go.sizeOf 48).run Try.prog w = .ok 3 w := by
  obtain ⟨i0, hi, hz0, hz1, hz2⟩ := info_parts Try.info48
  simp [Go.sizeOf, typeInfo, hi, hz1]
theorem sort_msgs (blk off cap : Nat) (d : Array Msg) (w : World) (hH : HoldsK Msg.cells 3 w blk off d) (hblk : blk < w.heap.size) (hsz : d.size < 4611686018427387904) :
    Calls Try.prog 31 #[.slice (some ⟨blk, off, none⟩) d.size cap, .func (.func 32) #[] #[]] w fun e w' => e = .returned (.tuple #[]) ∧ ∃ d' n os, PermIn 0 d.size d d' ∧ SortedIn (ltOf cmpM) 0 d.size d' ∧ w' = sortWorldK Msg.cells 3 w blk off n d' os := by
  have eg : ∀ args w, (callFunc 32 args).run Try.prog w = .ok (.enter 32 args) w := enters_of Try.func32 (by kernel_rfl) rfl
  exact AnyQ.slices_SortFunc Try.sortMsgs 3 isAgg48 sizeOf48 Msg.cells (fun _ => rfl) cells_one cmpM swoM 32 #[] blk off cap d w eg (fun _ _ _ _ x y => cmp_msgs x y _) hH hblk hsz
theorem below_sort {k : Nat} {w : World} {blk off n B : Nat} {d : Array Msg} {os : Array Obj} (hB : B ≤ blk) (hblk : blk < w.heap.size) : RowKit.Below B w (sortWorldK Msg.cells k w blk off n d os) := by
  refine ⟨rfl, rfl, rfl, size_sortWorldK_c _ _ _ _ _ _ _ _, fun j hj => ?_⟩
  have h1 : j < w.heap.size := by omega
  have h2 : blk ≠ j := by omega
  simp [sortWorldK, grow, putRowK, putRow, mapBlock, Array.getElem?_append, h1, Array.getElem_modify, h2]
theorem cells_bang (x : Msg) {c : Nat} (hc : c < 3) : x.cells[c]? = some (x.cells[c]!) := by
  have hm : c = 0 ∨ c = 1 ∨ c = 2 := by omega
  rcases hm with rfl | rfl | rfl <;> rfl
theorem holds_of_owns {w : World} {base g cap : Nat} {xs : List Msg} (h : w.ownsRow base 48 3 (.slice (some ⟨g, 0, none⟩) xs.length cap) xs.length (flatM xs)) : HoldsK Msg.cells 3 w g 0 xs.toArray := by
  intro j hj
  have hj' : j < xs.length * 3 := by simpa using hj
  have hf : w.frozen? ⟨g, 0 + j, none⟩ = false := by
    rcases h.2 with ⟨h1, _⟩ | ⟨g', cap', cur, h1, _, hb, _⟩
    · cases h1
    · cases h1
      simp [World.frozen?, hb]
  refine ⟨?_, hf⟩
  have e1 : j = (j / 3) * 3 + j % 3 := by omega
  have hq : j / 3 < xs.length := by omega
  have hget := flatM_get xs (j / 3) (j % 3) (xs[j / 3]) (List.getElem?_eq_getElem hq) (by omega)
  rw [← e1, cells_bang _ (by omega)] at hget
  have hE : (flatK Msg.cells 3 xs.toArray)[j]! = (xs[j / 3]).cells[j % 3]! := by
    rw [get_flatK _ _ _ _ (by simpa using hj')]
    simp [hq]
  have hc := World.ownsRow.cells h rfl j _ hget
  rw [Addr.add_lit] at hc
  simp only [id]
  rw [hE]
  exact hc
theorem cells_of_holds {w : World} {g : Nat} {d : Array Msg} (h : HoldsK Msg.cells 3 w g 0 d) (j : Nat) (x : Msg) (hx : d.toList[j]? = some x) : w.cell? ⟨g, 0 + j * 3, none⟩ = some (.int .i64 x.to) ∧ w.cell? ⟨g, 0 + j * 3 + 1, none⟩ = some (.int .i64 x.tag) ∧ w.cell? ⟨g, 0 + j * 3 + 2, none⟩ = some (.int .i64 x.val) := by
  have hj : j < d.size := by have := (List.getElem?_eq_some_iff.1 hx).1; simpa using this
  have hd : d[j]! = x := by
    have := (List.getElem?_eq_some_iff.1 hx).2
    simp [hj]
    simpa using this
  have q : ∀ i, i < 3 → w.cell? ⟨g, 0 + (j * 3 + i), none⟩ = some (x.cells[i]!) := fun i hi => by
    have h1 := (h (j * 3 + i) (by simp; omega)).1
    rw [get_flatK _ _ _ _ (by omega), show (j * 3 + i) / 3 = j by omega, show (j * 3 + i) % 3 = i by omega, hd] at h1
    exact h1
  exact ⟨q 0 (by omega), q 1 (by omega), q 2 (by omega)⟩
theorem sorted_pair {n : Nat} {d : Array Msg} (hn : d.size = n) (h : SortedIn bef 0 n d) : d.toList.Pairwise leM := by
  rw [List.pairwise_iff_getElem]
  intro i j hi hj hij
  have h1 := h i j (by omega) hij (by simpa [hn] using hj)
  unfold leM
  have e1 : d[j]! = d.toList[j] := by
    have : j < d.size := by simpa using hj
    simp [this]
  have e2 : d[i]! = d.toList[i] := by
    have : i < d.size := by simpa using hi
    simp [this]
  rw [e1, e2] at h1
  exact h1
theorem nil22 (w : World) (a : Option Addr) (n c n' c' : Nat) : (binOp .eql 22 (.slice a n c) (.slice none n' c')).run Try.prog w = .ok (.bool a.isNone) w := Lib.run_eql_slice_nil w _ _ a n c n' c' Try.underlying22
set_option maxRecDepth 100000 in
set_option maxHeartbeats 1000000 in
theorem clone_any (w : World) (v : Value) (xs : List Msg) (hv : SeesM w v xs) (hl : xs.length ≤ 10000) :
    Calls Try.prog 30 #[v] w fun e w' => ∃ v', e = .returned v' ∧ w'.ownsRow w.heap.size 48 3 v' xs.length (flatM xs) ∧ RowKit.Below w.heap.size w w' := by
  obtain ⟨a, cap, rfl, hcap, hs⟩ := hv
  have q22 := nil22
  have u22 : ∀ w, Sem.run Try.prog (underlying 22) w = .ok (TypeDesc.slice 48) w := run_underlying Try.underlying22
  cases a with
  | none =>
    have hx : xs = [] := by
      rcases hs with h | ⟨b, off, h, _⟩
      · exact h
      · cases h
    subst hx
    clear hs
    go_enter Try.func30, Try.ntmps30
    go_wp2
    go_ret
    exact ⟨_, rfl, World.ownsRow_nil _ _ _ _, Below.refl _ _⟩
  | some x =>
    have HV : Hid (SeesC (w.alloc (.cells #[] 48)) (.slice (some x) xs.length cap) xs.length 3 (flatM xs)) := hidI ((seesC_of_M ⟨some x, cap, rfl, hcap, hs⟩).below ((Below.refl _ w).alloc (Nat.le_refl _) (.cells #[] 48)) (Nat.le_refl _))
    have HO := hidI (World.ownsRow_made (base := w.heap.size) (e := 48) (size := 3) w #[] 0 (Nat.le_refl _) (by unfold maxLen; omega) rfl)
    obtain ⟨n, hn⟩ : ∃ n, xs.length = n := ⟨_, rfl⟩
    rw [hn] at HV hl ⊢
    clear hs hn hcap
    go_enter Try.func30, Try.ntmps30
    go_wp2_with (at_builtin; go_must (refine wpList_append_any Try.underlying22 Try.info48 rfl (by decide) (by decide) rfl _ _ rfl w.heap.size _ 0 [] rfl HO.out _ n (flatM xs) rfl HV.out flatM_cells (by omega) (by simp) ?_); intro v' w1 hown' hgrow' hat'; refine Hid.out ?_)
    refine hidI ?_
    have HO1 := hidI hown'
    have HB1 : Hid (RowKit.Below w.heap.size w w1) := hidI (((Below.refl _ w).alloc (Nat.le_refl _) _).grown hgrow' (by simp) (fun k hk => (HO.out.lt k hk).1))
    clear hown' hgrow' hat'
    go_wp2
    go_ret
    exact ⟨_, rfl, by have := HO1.out; simpa using this, HB1.out⟩
set_option maxRecDepth 100000 in
set_option maxHeartbeats 1000000 in
theorem psorted_any (w : World) (v : Value) (xs : List Msg) (hv : SeesM w v xs) (hl : xs.length ≤ 10000) :
    Calls Try.prog 12 #[v] w fun e w' => ∃ v', e = .returned v' ∧ SeesM w' v' (sortM xs) ∧ RowKit.Below w.heap.size w w' := by
  have C := hidI (clone_any w v xs hv hl)
  clear hv
  go_enter Try.func12, Try.ntmps12
  go_wp2_with (go_at_call 30; refine Calls.mono C.out ?_; rintro e w1 ⟨v1, rfl, ho1, hb1⟩; refine Hid.out ?_)
  refine hidI ?_
  clear C
  have HB1 := hidI hb1
  have HO1 := hidI ho1
  clear hb1
  rcases ho1.2 with ⟨rfl, h0⟩ | ⟨g, cap, cur, rfl, hgb, hgh, hgc, _⟩
  · have hx : xs = [] := List.eq_nil_of_length_eq_zero h0
    clear ho1 h0
    have CS := hidI (AnyF.slices_SortFunc_none Try.sortMsgs none 0 (.func (.func 32) #[] #[]) w1)
    go_wp2_with (go_at_call 31; refine Calls.mono CS.out ?_; rintro e w2 ⟨rfl, rfl⟩)
    go_ret
    exact ⟨_, rfl, by rw [hx]; exact SeesM.nil, HB1.out⟩
  · have hgs : g < w1.heap.size := (Array.getElem?_eq_some_iff.1 hgh).1
    have hH := holds_of_owns ho1
    have CS := sort_msgs g 0 cap xs.toArray w1 hH hgs (by simp; omega)
    rw [List.size_toArray] at CS
    have HCS := hidI CS
    have HH := hidI hH
    obtain ⟨n, hn⟩ : ∃ n, xs.length = n := ⟨_, rfl⟩
    have HN := hidI hn
    rw [hn] at HCS hgc ⊢
    clear CS hH ho1 hgh hn
    go_wp2_with (go_at_call 31; refine Calls.mono HCS.out ?_; rintro e w' ⟨rfl, d', m, os, hpi, hso, rfl⟩; refine Hid.out ?_)
    refine hidI ?_
    have hds : d'.size = n := by have := hpi.1; rw [this, List.size_toArray, HN.out]
    have HH' : Hid (HoldsK Msg.cells 3 (sortWorldK Msg.cells 3 w1 g 0 m d' os) g 0 d') := hidI (holdsK_sortWorldK_c _ _ _ _ _ _ _ _ _ HH.out hgs (by have := hpi.1; rw [this]))
    have HB' : Hid (RowKit.Below w.heap.size w (sortWorldK Msg.cells 3 w1 g 0 m d' os)) := hidI (HB1.out.trans (below_sort hgb hgs))
    have HE : Hid (d'.toList = sortM xs) := hidI (by
      refine sorted_is (sorted_pair hds (by rw [← ltOf_bef]; exact hso)) ?_
      have h1 := hpi.2.2
      have e1 : d'.extract 0 n = d' := by rw [← hds, Array.extract_size]
      have e2 : xs.toArray.extract 0 n = xs.toArray := by rw [← HN.out, ← List.size_toArray, Array.extract_size]
      rw [e1, e2] at h1
      exact h1)
    have HL : Hid (d'.toList.length = n) := hidI (by simpa using hds)
    clear hpi hso HCS
    go_wp2
    go_ret
    refine ⟨_, rfl, ?_, HB'.out⟩
    rw [← HE.out]
    exact ⟨_, cap, by rw [HL.out]; rfl, by rw [HL.out]; exact hgc, .inr ⟨g, 0, rfl, fun j x hx => cells_of_holds HH'.out j x hx⟩⟩
end Go.Proofs.Ytdfieflcclbgjaa
