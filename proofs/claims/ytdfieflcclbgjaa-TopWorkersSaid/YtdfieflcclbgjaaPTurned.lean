/-
  Messages in the order of a number: what the program's Turned comes to.
-/
import Derived.Test.YtdfieflcclbgjaaPRows
import Derived.Test.YtdfieflcclbgjaaPFrom
import Derived.Test.YtdfieflcclbgjaaSortM
import Derived.Test.YtdfieflcclbgjaaSort
namespace Go.Proofs.Ytdfieflcclbgjaa
open Go.RowKit Go.Deep Go.MapKept Go.Sort Go.Shelf
theorem row16_drop (xs : List Msg) (j : Nat) : row16 (xs.drop 16) j = row16 xs (j + 1) := by
  unfold row16
  rw [List.drop_drop, show 16 + 16 * j = 16 * (j + 1) by omega]
def rowsL (xs : List Msg) (K : Nat) : List (List Msg) := (List.range K).map (row16 xs)
theorem rowsL_succ (xs : List Msg) (K : Nat) : rowsL xs (K + 1) = xs.take 16 :: rowsL (xs.drop 16) K := by
  unfold rowsL
  rw [List.range_succ_eq_map, List.map_cons, List.map_map]
  congr 1
  refine List.map_congr_left fun j _ => ?_
  rw [row16_drop]
  rfl
theorem turnA_odd {k : Nat} (h : k % 2 = 1) : ∀ (f : Nat) (out xs : List Msg), turnA k f out xs = (rowsL xs f).reverse.flatMap (turnRow k) ++ out
  | 0, out, xs => by simp [turnA, rowsL]
  | f + 1, out, xs => by
    rw [turnA, if_pos h, turnA_odd h f, rowsL_succ, List.reverse_cons, List.flatMap_append]
    simp
theorem turnA_even {k : Nat} (h : ¬ k % 2 = 1) : ∀ (f : Nat) (out xs : List Msg), turnA k f out xs = out ++ (rowsL xs f).flatMap (turnRow k)
  | 0, out, xs => by simp [turnA, rowsL]
  | f + 1, out, xs => by
    rw [turnA, if_neg h, turnA_even h f, rowsL_succ, List.flatMap_cons]
    simp
def rowsK (k : Nat) (xs : List Msg) : List (List Msg) := if k % 2 = 1 then (rowsL xs ((xs.length + 15) / 16)).reverse else rowsL xs ((xs.length + 15) / 16)
theorem turnM_rows (k : Nat) (xs : List Msg) : turnM k xs = (rowsK k xs).flatMap (turnRow k) := by
  unfold turnM rowsK
  by_cases h : k % 2 = 1
  · rw [turnA_odd h, if_pos h, List.append_nil]
  · rw [turnA_even h, if_neg h, List.nil_append]
/-- Values stand for rows. -/
def Pairs (w : World) (vs : List Value) (rs : List (List Msg)) : Prop := vs.length = rs.length ∧ ∀ (j : Nat) (u : Value) (r : List Msg), vs[j]? = some u → rs[j]? = some r → SeesM w u r
theorem Pairs.reverse {w : World} {vs : List Value} {rs : List (List Msg)} (h : Pairs w vs rs) : Pairs w vs.reverse rs.reverse := by
  refine ⟨by simp [h.1], fun j u r hu hr => ?_⟩
  have hj : j < vs.length := by have := (List.getElem?_eq_some_iff.1 hu).1; simpa using this
  rw [List.getElem?_reverse hj] at hu
  rw [List.getElem?_reverse (by have := h.1; omega), ← h.1] at hr
  exact h.2 _ u r hu hr
theorem pairs_rows {w : World} {vs : List Value} {xs : List Msg} {K : Nat} (hl : vs.length = K) (h : ∀ (i : Nat) (u : Value), vs[i]? = some u → SeesM w u (row16 xs i)) : Pairs w vs (rowsL xs K) := by
  refine ⟨by simp [rowsL, hl], fun j u r hu hr => ?_⟩
  have hj : j < K := by have := (List.getElem?_eq_some_iff.1 hu).1; omega
  have : r = row16 xs j := by
    unfold rowsL at hr
    rw [List.getElem?_map, List.getElem?_range hj] at hr
    simpa using hr.symm
  rw [this]
  exact h j u hu
def encV (v : Value) : Value := if v.oneCell' = true then v else .slice none 0 0
theorem encV_one : OneCell encV := fun v => by
  unfold encV
  split
  · assumption
  · rfl
theorem encV_is {v : Value} (h : v.oneCell' = true) : encV v = v := if_pos h
theorem below_ahead {w : World} {B g off n : Nat} {d : Array Value} (hB : B ≤ g) : RowKit.Below B w (putRow encV (Go.Sort.ahead w n) g off d) := by
  refine ⟨rfl, rfl, rfl, by simp, fun j hj => ?_⟩
  have h2 : g ≠ j := by omega
  simp [putRow, mapBlock, Array.getElem?_modify, h2]
theorem own_put {w : World} {base g cap n m : Nat} {vs us : List Value} (h : w.ownsRow base 22 1 (.slice (some ⟨g, 0, none⟩) n cap) n vs) (hu : us.length = n) (h1 : ∀ u ∈ us, u.oneCell' = true) : (putRow encV (Go.Sort.ahead w m) g 0 us.toArray).ownsRow base 22 1 (.slice (some ⟨g, 0, none⟩) n cap) n us := by
  refine ⟨by omega, ?_⟩
  rcases h.2 with ⟨h0, _⟩ | ⟨g', cap', cur, he, hb, hh, hc1, hc2, hc3, hc4⟩
  · cases h0
  · simp only [Value.slice.injEq, Option.some.injEq, Addr.mk.injEq, and_true, true_and] at he
    obtain ⟨rfl, rfl⟩ := he
    refine .inr ⟨g, cap, putCells encV 0 us.toArray cur, rfl, hb, ?_, hc1, hc2, by simpa [putCells] using hc3, ?_⟩
    · simp [putRow, mapBlock, Array.getElem?_modify, hh, onCells]
    · refine List.ext_getElem? fun j => ?_
      rw [List.getElem?_take, Nat.mul_one]
      by_cases hj : j < n
      · rw [if_pos hj]
        have hjc : j < cur.size := by omega
        have hju : j < us.length := by omega
        simp only [putCells, Array.getElem?_toList, Array.getElem?_mapIdx]
        rw [Array.getElem?_eq_getElem hjc]
        simp [hju]
        exact encV_is (h1 _ (List.getElem_mem hju))
      · rw [if_neg hj, List.getElem?_eq_none (by omega)]
theorem prev_any (w : World) (base n : Nat) (v : Value) (vs : List Value) (h : w.ownsRow base 22 1 v n vs) (h1 : ∀ u ∈ vs, u.oneCell' = true) (hn : n ≤ 10000) :
    Calls Try.prog 38 #[v] w fun e w' => e = .returned (.tuple #[]) ∧ w'.ownsRow base 22 1 v n vs.reverse ∧ RowKit.Below base w w' := by
  have hl := own_one h
  rcases h.2 with ⟨rfl, rfl⟩ | ⟨g, cap, cur, rfl, hb, hh, _⟩
  · have e : vs = [] := List.eq_nil_of_length_eq_zero hl
    subst e
    refine (AnyE.slices_Reverse_empty Try.revRows none 0 w).mono ?_
    rintro e w' ⟨rfl, rfl⟩
    exact ⟨rfl, h, Below.refl _ _⟩
  · have hH : Holds encV w g 0 vs.toArray := fun j hj => by
      have hj' : j < vs.length := by simpa using hj
      have hc := World.ownsRow.cells h rfl j _ (List.getElem?_eq_getElem hj')
      rw [Addr.add_lit] at hc
      refine ⟨?_, by simp [World.frozen?, hh]⟩
      rw [hc]
      simp [hj', encV_is (h1 _ (List.getElem_mem hj'))]
    have C := AnyE.slices_Reverse Try.revRows encV encV_one g 0 cap vs w hH (by omega)
    rw [hl] at C
    refine C.mono ?_
    rintro e w' ⟨rfl, m, rfl⟩
    exact ⟨rfl, own_put h (by simp [hl]) (fun u hu => h1 u (by simpa using hu)), below_ahead hb⟩
theorem own_ne {w : World} {base base' e e' size size' n n' : Nat} {v v' : Value} {xs xs' : List Value} (h : w.ownsRow base e size v n xs) (h' : w.ownsRow base' e' size' v' n' xs') (hne : e ≠ e') : v.ownBlock = none ∨ v.ownBlock ≠ v'.ownBlock := by
  rcases h.2 with ⟨rfl, _⟩ | ⟨g, cap, cur, rfl, _, hh, _⟩
  · exact .inl rfl
  · refine .inr fun he => ?_
    rcases h'.2 with ⟨rfl, _⟩ | ⟨g', cap', cur', rfl, _, hh', _⟩
    · simp [Value.ownBlock] at he
    · simp only [Value.ownBlock, Option.some.injEq] at he
      subst he
      rw [hh] at hh'
      simp at hh'
      exact hne hh'.2
theorem own_kept {w w' : World} {base base' e e' size size' n n' : Nat} {v v' : Value} {xs xs' : List Value} (h : w.ownsRow base e size v n xs) (h' : w.ownsRow base' e' size' v' n' xs') (hne : e ≠ e') (hg : w.grownBy w' v'.ownBlock) : w'.ownsRow base e size v n xs := by
  rcases own_ne h h' hne with h1 | h1
  · rcases h.2 with ⟨rfl, h0⟩ | ⟨g, cap, cur, rfl, _⟩
    · exact ⟨h.1, .inl ⟨rfl, h0⟩⟩
    · simp [Value.ownBlock] at h1
  · exact h.kept hg (.inr h1)
theorem fromL_len (n k : Nat) (hn : n ≤ 16) : (fromL n k).length = n := by have := (fromL_perm hn k).length_eq; simpa using this
theorem fromL_get {n k i : Nat} (hn : n ≤ 16) (hi : i < n) : ∃ p : Nat, p < n ∧ (fromL n k)[i]? = some (p : Int) := by
  have hl : i < (fromL n k).length := by rw [fromL_len n k hn]; exact hi
  have hm := (fromL_perm hn k).mem_iff.1 (List.getElem_mem hl)
  obtain ⟨p, hp, he⟩ := List.mem_map.1 hm
  exact ⟨p, List.mem_range.1 hp, by rw [List.getElem?_eq_getElem hl, ← he]⟩
theorem turnRow_len (k : Nat) (r : List Msg) (h : r.length ≤ 16) : (turnRow k r).length = r.length := (turnRow_perm k h).length_eq
theorem row16_len (xs : List Msg) (j : Nat) : (row16 xs j).length ≤ 16 := by unfold row16; rw [List.length_take]; omega
theorem rowsK_len {k : Nat} {xs : List Msg} {r : List Msg} (h : r ∈ rowsK k xs) : r.length ≤ 16 := by
  unfold rowsK rowsL at h
  split at h
  · rw [List.mem_reverse] at h
    obtain ⟨j, _, rfl⟩ := List.mem_map.1 h
    exact row16_len xs j
  · obtain ⟨j, _, rfl⟩ := List.mem_map.1 h
    exact row16_len xs j
theorem rowsK_length (k : Nat) (xs : List Msg) : (rowsK k xs).length = (xs.length + 15) / 16 := by unfold rowsK rowsL; split <;> simp
theorem pairs_one {w : World} {vs : List Value} {rs : List (List Msg)} (h : Pairs w vs rs) : ∀ u ∈ vs, u.oneCell' = true := fun u hu => by
  obtain ⟨j, hj⟩ := List.mem_iff_getElem?.1 hu
  have hl := (List.getElem?_eq_some_iff.1 hj).1
  obtain ⟨a, cap, rfl, _⟩ := h.2 j u _ hj (List.getElem?_eq_getElem (by have := h.1; omega))
  rfl
end Go.Proofs.Ytdfieflcclbgjaa
