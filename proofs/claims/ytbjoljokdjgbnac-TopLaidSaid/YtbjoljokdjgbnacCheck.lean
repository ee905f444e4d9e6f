/-
  Whether nodes and edges are a graph: what Check comes to; a copy of edges.
-/
import Derived.Test.YtbjoljokdjgbnacPlaces
import Derived.WalkSpells
import Derived.WalkLawsBesides
import Derived.Deep.LoopGhost
import Derived.Lib.SliceRun
namespace Go.Proofs.Ytbjoljokdjgbnac
open Go.RowKit Go.Deep
/-- Both ends are nodes. -/
def good (n : Int) (x : Int × Int) : Bool := (decide (0 ≤ x.1) && decide (x.1 < n)) && (decide (0 ≤ x.2) && decide (x.2 < n))
/-- What Check tells. -/
def check (n : Int) (es : Edges) : Int × Int :=
  if n < 1 ∨ 12 < n ∨ 30 < es.length then (-1, 11) else
  match es.findIdx? (fun x => !good n x) with
  | none => (0, 0)
  | some i => ((i : Int), 11)
theorem isNode_any (n v : Int) (w : World) : Calls Try.prog 63 #[.int .i64 n, .int .i64 v] w fun e w' => e = .returned (.bool (decide (0 ≤ v) && decide (v < n))) ∧ w = w' := by
  by_cases h : 0 ≤ v
  · go_enter Try.func63, Try.ntmps63
    go_wp2
    go_ret
    exact ⟨by simp [h], rfl⟩
  · have hd : decide (0 ≤ v) = false := by simp; omega
    go_enter Try.func63, Try.ntmps63
    go_wp2
    go_ret
    exact ⟨by simp, rfl⟩
theorem may_any (n : Int) (w : World) : Calls Try.prog 62 #[.int .i64 n] w fun e w' => e = .returned (.bool (decide (1 ≤ n) && decide (n ≤ 12))) ∧ w = w' := by
  by_cases h : 1 ≤ n
  · go_enter Try.func62, Try.ntmps62
    go_wp2
    go_ret
    exact ⟨by simp [h], rfl⟩
  · have hd : decide (1 ≤ n) = false := by simp; omega
    go_enter Try.func62, Try.ntmps62
    go_wp2
    go_ret
    exact ⟨by simp, rfl⟩
theorem findIdx_none {n : Int} {es : Edges} (h : ∀ (j : Nat) (x : Int × Int), es[j]? = some x → good n x = true) : es.findIdx? (fun x => !good n x) = none := by
  rw [List.findIdx?_eq_none_iff]
  intro x hx
  obtain ⟨j, hj⟩ := List.getElem?_of_mem hx
  simp [h j x hj]
theorem findIdx_some {n : Int} {es : Edges} {i : Nat} {x : Int × Int} (hx : es[i]? = some x) (hb : good n x = false) (h : ∀ (j : Nat) (x : Int × Int), j < i → es[j]? = some x → good n x = true) : es.findIdx? (fun x => !good n x) = some i := by
  rw [List.findIdx?_eq_some_iff_getElem]
  obtain ⟨hi, hxi⟩ := List.getElem?_eq_some_iff.1 hx
  refine ⟨hi, by rw [hxi, hb]; rfl, fun j hj => ?_⟩
  have := h j es[j] hj (List.getElem?_eq_getElem _)
  simp [this]
set_option maxHeartbeats 1000000 in
theorem check_sizes (n : Int) (a : Option Addr) (len cap : Nat) (w : World) (h : n < 1 ∨ 12 < n ∨ 30 < len) :
    Calls Try.prog 28 #[.int .i64 n, .slice a len cap] w fun e w' => e = .returned (.tuple #[.int .i64 (-1), .int .i64 11]) ∧ w = w' := by
  by_cases hn : 1 ≤ n ∧ n ≤ 12
  · have hl : (30 : Int) < (len : Int) := by omega
    have hd : (decide (1 ≤ n) && decide (n ≤ 12)) = true := by simp [hn]
    go_enter Try.func28, Try.ntmps28
    go_wp2_with (go_at_call 62; refine (may_any _ _).mono ?_; rintro e w' ⟨rfl, rfl⟩; rw [hd])
    go_ret2
    exact ⟨rfl, rfl⟩
  · have hd : (decide (1 ≤ n) && decide (n ≤ 12)) = false := by simp; omega
    go_enter Try.func28, Try.ntmps28
    go_wp2_with (go_at_call 62; refine (may_any _ _).mono ?_; rintro e w' ⟨rfl, rfl⟩; rw [hd])
    go_ret2
    exact ⟨rfl, rfl⟩
set_option maxHeartbeats 2000000 in
theorem check_walk (n : Int) (b off cap : Nat) (es : Edges) (w : World) (h1 : 1 ≤ n) (h2 : n ≤ 12) (h3 : es.length ≤ 30) (hc : Lie w b off es) (hb : b < w.heap.size) :
    Calls Try.prog 28 #[.int .i64 n, .slice (some ⟨b, off, none⟩) es.length cap] w fun e w' => e = .returned (.tuple #[.int .i64 (check n es).1, .int .i64 (check n es).2]) ∧ Below w.heap.size w w' := by
  have hd : (decide (1 ≤ n) && decide (n ≤ 12)) = true := by simp [h1, h2]
  have hl : decide ((30 : Int) < (es.length : Int)) = false := by simp; omega
  have hck : check n es = match es.findIdx? (fun x => !good n x) with | none => (0, 0) | some i => ((i : Int), 11) := by
    unfold check; rw [if_neg (by omega)]
  have HC : Hid _ := hc
  have HK : Hid _ := hck
  clear hc hck
  obtain ⟨m, hm⟩ : ∃ m, es.length = m := ⟨_, rfl⟩
  rw [hm] at h3 hl ⊢
  have HM : Hid _ := hm
  clear hm
  go_enter Try.func28, Try.ntmps28
  go_wp2_with (go_at_call 62; refine (may_any _ _).mono ?_; rintro e w' ⟨rfl, rfl⟩; rw [hd])
  go_loopg [18] m (fun g s18 wx => ∃ (i : Nat), i + g = m ∧ s18 = .int .i64 i ∧ Below w.heap.size w wx ∧ ∀ (j : Nat) (x : Int × Int), j < i → es[j]? = some x → good n x = true)
  case atStart => exact ⟨0, by omega, rfl, Below.refl _ _, fun j x hj => absurd hj (by omega)⟩
  case round =>
    obtain ⟨i, hig, rfl, hbl, hall⟩ := hrel
    have HA : Hid _ := hall
    clear hall
    cases gk with
    | zero =>
      have hil : i = m := by omega
      subst hil
      have hr : check n es = (0, 0) := by
        rw [HK.out, findIdx_none (fun j x hx => HA.out j x (by have := (List.getElem?_eq_some_iff.1 hx).1; have := HM.out; omega) hx)]
      go_wp2
      go_ret2
      exact ⟨by rw [hr]; rfl, hbl⟩
    | succ g =>
      have hlt : i < m := by omega
      obtain ⟨x, hx⟩ : ∃ x, es[i]? = some x := ⟨es[i]'(by have := HM.out; omega), List.getElem?_eq_getElem _⟩
      have HX : Hid _ := hx
      have c1 : wr.cell? ⟨b, off + i * 2, none⟩ = some (.int .i64 x.1) := (hbl.cell (p := ⟨b, off + i * 2, none⟩) hb).trans (HC.out i x hx).1
      have c2 : wr.cell? ⟨b, off + i * 2 + 1, none⟩ = some (.int .i64 x.2) := (hbl.cell (p := ⟨b, off + i * 2 + 1, none⟩) hb).trans (HC.out i x hx).2
      clear hx
      have hsz := hbl.size
      have hba : ∀ o, Below w.heap.size w (wr.alloc o) := fun o => hbl.alloc hsz o
      have HB : Hid _ := hba
      clear hba hbl
      by_cases g1 : (decide (0 ≤ x.1) && decide (x.1 < n)) = true
      · by_cases g2 : (decide (0 ≤ x.2) && decide (x.2 < n)) = true
        · go_wp2_with (go_at_call 63; refine (isNode_any _ _ _).mono ?_; rintro e w' ⟨rfl, rfl⟩; first | rw [g1] | rw [g2])
          go_roundg g
          case measure => omega
          case rel =>
            refine ⟨i + 1, by omega, by go_num, HB.out _, fun j y hj hy => ?_⟩
            by_cases hji : j = i
            · subst hji
              have := HX.out; rw [hy] at this; cases this
              simp [good, g1, g2]
            · exact HA.out j y (by omega) hy
        · have g2' : (decide (0 ≤ x.2) && decide (x.2 < n)) = false := by simpa using g2
          have hr : check n es = ((i : Int), 11) := by
            rw [HK.out, findIdx_some HX.out (by simp only [good, g1, g2']; rfl) HA.out]
          clear g2
          go_wp2_with (go_at_call 63; refine (isNode_any _ _ _).mono ?_; rintro e w' ⟨rfl, rfl⟩; first | rw [g1] | rw [g2'])
          go_ret2
          exact ⟨by rw [hr]; rfl, HB.out _⟩
      · have g1' : (decide (0 ≤ x.1) && decide (x.1 < n)) = false := by simpa using g1
        have hr : check n es = ((i : Int), 11) := by
          rw [HK.out, findIdx_some HX.out (by simp only [good, g1']; rfl) HA.out]
        clear g1
        go_wp2_with (go_at_call 63; refine (isNode_any _ _ _).mono ?_; rintro e w' ⟨rfl, rfl⟩; rw [g1'])
        go_ret2
        exact ⟨by rw [hr]; rfl, HB.out _⟩
set_option maxHeartbeats 1000000 in
theorem check_none (n : Int) (a : Option Addr) (cap : Nat) (w : World) (h1 : 1 ≤ n) (h2 : n ≤ 12) :
    Calls Try.prog 28 #[.int .i64 n, .slice a 0 cap] w fun e w' => e = .returned (.tuple #[.int .i64 0, .int .i64 0]) ∧ Below w.heap.size w w' := by
  have hd : (decide (1 ≤ n) && decide (n ≤ 12)) = true := by simp [h1, h2]
  go_enter Try.func28, Try.ntmps28
  go_wp2_with (go_at_call 62; refine (may_any _ _).mono ?_; rintro e w' ⟨rfl, rfl⟩; rw [hd])
  refine wp_loop_rounds 1 ?_
  rw [rounds_succ]
  go_wp2
  go_ret2
  exact ⟨rfl, Below.refl _ _⟩
theorem check_any (n : Int) (v : Value) (es : Edges) (w : World) (hv : SeesE w v es) :
    Calls Try.prog 28 #[.int .i64 n, v] w fun e w' => e = .returned (.tuple #[.int .i64 (check n es).1, .int .i64 (check n es).2]) ∧ Below w.heap.size w w' := by
  obtain ⟨a, cap, rfl, hs⟩ := hv
  by_cases h : n < 1 ∨ 12 < n ∨ 30 < es.length
  · refine (check_sizes n a es.length cap w h).mono ?_
    rintro e w' ⟨rfl, rfl⟩
    unfold check
    rw [if_pos h]
    exact ⟨rfl, Below.refl _ _⟩
  · by_cases h0 : es = []
    · subst h0
      refine (check_none n a cap w (by omega) (by omega)).mono ?_
      rintro e w' ⟨rfl, hb⟩
      unfold check
      rw [if_neg h]
      exact ⟨rfl, hb⟩
    · rcases hs with hs | ⟨b, off, rfl, hl⟩
      · exact absurd hs h0
      · exact check_walk n b off cap es w (by omega) (by omega) (by omega) hl (hl.block_lt h0)
/-- The edges' cells, one behind the other. -/
def flat : Edges → List Value
  | [] => []
  | x :: r => .int .i64 x.1 :: .int .i64 x.2 :: flat r
theorem flat_length : ∀ es : Edges, (flat es).length = es.length * 2
  | [] => rfl
  | _ :: r => by simp [flat, flat_length r]; omega
theorem flat_get : ∀ (es : Edges) (j : Nat) (u : Value), (flat es)[j]? = some u → ∃ (i : Nat) (x : Int × Int), es[i]? = some x ∧ ((j = i * 2 ∧ u = .int .i64 x.1) ∨ (j = i * 2 + 1 ∧ u = .int .i64 x.2))
  | [], j, u, h => by simp [flat] at h
  | x :: r, 0, u, h => by simp [flat] at h; exact ⟨0, x, rfl, .inl ⟨rfl, h.symm⟩⟩
  | x :: r, 1, u, h => by simp [flat] at h; exact ⟨0, x, rfl, .inr ⟨rfl, h.symm⟩⟩
  | x :: r, j + 2, u, h => by
    obtain ⟨i, y, hy, hc⟩ := flat_get r j u (by simpa [flat] using h)
    refine ⟨i + 1, y, by simpa using hy, ?_⟩
    rcases hc with ⟨rfl, rfl⟩ | ⟨rfl, rfl⟩
    · exact .inl ⟨by omega, rfl⟩
    · exact .inr ⟨by omega, rfl⟩
theorem flat_at : ∀ (es : Edges) (i : Nat) (x : Int × Int), es[i]? = some x → (flat es)[i * 2]? = some (.int .i64 x.1) ∧ (flat es)[i * 2 + 1]? = some (.int .i64 x.2)
  | [], i, x, h => by simp at h
  | y :: r, 0, x, h => by simp at h; subst h; exact ⟨rfl, rfl⟩
  | y :: r, i + 1, x, h => by
    have := flat_at r i x (by simpa using h)
    rw [show (i + 1) * 2 = i * 2 + 2 by omega]
    exact ⟨by simpa [flat] using this.1, by simpa [flat] using this.2⟩
theorem flat_one (es : Edges) : ∀ u ∈ flat es, u.oneCell' = true := by
  intro u hu
  obtain ⟨j, hj⟩ := List.getElem?_of_mem hu
  obtain ⟨i, x, _, ⟨_, rfl⟩ | ⟨_, rfl⟩⟩ := flat_get es j u hj <;> rfl
theorem lie_news {w : World} {b off : Nat} {es : Edges} (h : Lie w b off es) : ∀ j u, (flat es)[j]? = some u → w.cell? ((⟨b, off, none⟩ : Addr).add j) = some u := by
  intro j u hu
  rw [Addr.add_lit]
  obtain ⟨i, x, hx, ⟨rfl, rfl⟩ | ⟨rfl, rfl⟩⟩ := flat_get es j u hu
  · exact (h i x hx).1
  · exact (h i x hx).2
theorem seesE_of_owns {w : World} {base : Nat} {v : Value} {es : Edges} (h : w.ownsRow base 69 2 v es.length (flat es)) : SeesE w v es := by
  rcases Joins.ownsRow_forms h with ⟨rfl, h0⟩ | ⟨g, cap, rfl⟩
  · exact ⟨none, 0, by rw [h0], .inl (List.eq_nil_of_length_eq_zero h0)⟩
  · refine ⟨_, cap, rfl, .inr ⟨g, 0, rfl, fun j x hx => ?_⟩⟩
    obtain ⟨f1, f2⟩ := flat_at es j x hx
    have c1 := World.ownsRow.cells h rfl _ _ f1
    have c2 := World.ownsRow.cells h rfl _ _ f2
    rw [add_at] at c1 c2
    rw [Nat.zero_add]
    exact ⟨c1, c2⟩
theorem Try.info69 : (Try.prog.info? 69).map (fun i => (i.zero, i.size, i.bytes)) = some (some (.agg #[.int .i64 0, .int .i64 0]), 2, 16) := by kernel_rfl
theorem nil62 (w : World) (a : Option Addr) (n c n' c' : Nat) : (binOp .eql 62 (.slice a n c) (.slice none n' c')).run Try.prog w = .ok (.bool a.isNone) w := Lib.run_eql_slice_nil w _ _ a n c n' c' Try.underlying62
theorem nil70 (w : World) (a : Option Addr) (n c n' c' : Nat) : (binOp .eql 70 (.slice a n c) (.slice none n' c')).run Try.prog w = .ok (.bool a.isNone) w := Lib.run_eql_slice_nil w _ _ a n c n' c' Try.underlying70
theorem cloneE_nil (len cap : Nat) (w : World) :
    Calls Try.prog 60 #[.slice none len cap] w fun e w' => e = .returned (.slice none 0 0) ∧ w = w' := by
  have q22 := nil62
  go_enter Try.func60, Try.ntmps60
  go_wp2
  go_ret
  exact ⟨rfl, rfl⟩
set_option maxRecDepth 100000 in
set_option maxHeartbeats 1000000 in
theorem cloneE_walk (x : Addr) (cap : Nat) (es : Edges) (w : World) (hl : es.length ≤ 30) (hn : ∀ j u, (flat es)[j]? = some u → w.cell? (x.add j) = some u) :
    Calls Try.prog 60 #[.slice (some x) es.length cap] w fun e w' => ∃ u, e = .returned u ∧ SeesE w' u es ∧ Below w.heap.size w w' := by
  obtain ⟨i0, hi, hz0, hz1, hz2⟩ := info_parts Try.info69
  have HN : Hid _ := hn
  clear hn
  have q22 := nil62
  have u22 : ∀ w, Sem.run Try.prog (underlying 62) w = .ok (TypeDesc.slice 69) w := run_underlying Try.underlying62
  obtain ⟨m, hm⟩ : ∃ m, es.length = m := ⟨_, rfl⟩
  rw [hm] at hl ⊢
  have HM : Hid _ := hm
  clear hm
  go_enter Try.func60, Try.ntmps60
  go_wp2_with (at_builtin; refine wpList_append_own _ rfl _ _ 62 rfl w.heap.size 69 i0 (.agg #[.int .i64 0, .int .i64 0]) 2 16 Try.underlying62 hi hz0 hz1 hz2 rfl (by decide) _ _ _ rfl (World.ownsRow_made w #[] 0 (Nat.le_refl _) (Nat.zero_le _) rfl) x m cap (flat es) rfl ?qc1 ?qc2 ?qc3 ?qc4 ?qc5 ?qc6 ?_)
  case qc1 => rw [flat_length, HM.out]
  case qc2 => exact fun j u hj => cell_al _ (HN.out j u hj)
  case qc3 => exact flat_one es
  case qc4 => unfold maxLen; omega
  case qc5 => omega
  case qc6 => simp
  intro v' w1 hown hgrow _
  go_wp2
  go_ret
  refine ⟨v', rfl, seesE_of_owns (base := w.heap.size) ?_, ?_⟩
  · rw [HM.out]; simpa using hown
  · exact ((Below.refl _ w).alloc (Nat.le_refl _) _).grown hgrow (by simp) (by intro k hk; simp [Value.ownBlock] at hk; omega)
theorem cloneE_any (v : Value) (es : Edges) (w : World) (hl : es.length ≤ 30) (hv : SeesE w v es) :
    Calls Try.prog 60 #[v] w fun e w' => ∃ u, e = .returned u ∧ SeesE w' u es ∧ Below w.heap.size w w' := by
  obtain ⟨a, cap, rfl, hs⟩ := hv
  cases a with
  | none =>
    refine (cloneE_nil _ _ w).mono ?_
    rintro e w' ⟨rfl, rfl⟩
    rcases hs with rfl | ⟨_, _, h, _⟩
    · exact ⟨_, rfl, ⟨none, 0, rfl, .inl rfl⟩, Below.refl _ _⟩
    · cases h
  | some x =>
    refine cloneE_walk x cap es w hl ?_
    rcases hs with rfl | ⟨b, off, h, hc⟩
    · intro j u hj; simp [flat] at hj
    · cases h; exact lie_news hc
end Go.Proofs.Ytbjoljokdjgbnac
