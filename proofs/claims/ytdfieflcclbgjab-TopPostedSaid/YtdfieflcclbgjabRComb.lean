/-
  The document's Combined.
-/
import Derived.Test.YtdfieflcclbgjabReg22
import Derived.Test.YtdfieflcclbgjabCombM
import Derived.Test.YtdfieflcclbgjabRTaken
namespace Go.Proofs.Ytdfieflcclbgjab
open Go.RowKit Go.Deep Go.MapKept Go.Sort
/-- Operations lie in a row. -/
def SeesO (w : World) (v : Value) (os : List Nat) : Prop :=
  ∃ (a : Option Addr) (cap : Nat), v = .slice a os.length cap ∧ (os = [] ∨ ∃ b off, a = some ⟨b, off, none⟩ ∧ ∀ (j : Nat) (o : Nat), os[j]? = some o → w.cell? ⟨b, off + j, none⟩ = some (.int .u8 (o : Int)))
theorem SeesO.cell {w : World} {v : Value} {os : List Nat} (h : SeesO w v os) {j : Nat} {o : Nat} (hx : os[j]? = some o) : ∃ b off cap, v = .slice (some ⟨b, off, none⟩) os.length cap ∧ w.cell? ⟨b, off + j, none⟩ = some (.int .u8 (o : Int)) := by
  obtain ⟨a, cap, rfl, h⟩ := h
  rcases h with rfl | ⟨b, off, rfl, h⟩
  · simp at hx
  · exact ⟨b, off, cap, rfl, h j o hx⟩
theorem own_set3 {w : World} {base e size n g cap j : Nat} {xs : List Value} (h : w.ownsRow base e size (.slice (some ⟨g, 0, none⟩) n cap) n xs) (u : Value) : (w.setCell ⟨g, j, none⟩ u).ownsRow base e size (.slice (some ⟨g, 0, none⟩) n cap) n (xs.set j u) := by
  refine ⟨by rw [List.length_set]; exact h.1, ?_⟩
  rcases h.2 with ⟨h0, _⟩ | ⟨g', cap', cur, he, hb, hh, h1, h2, h3, h4⟩
  · cases h0
  · simp only [Value.slice.injEq, Option.some.injEq, Addr.mk.injEq, and_true, true_and] at he
    obtain ⟨rfl, rfl⟩ := he
    refine .inr ⟨g, cap, cur.setIfInBounds j u, rfl, hb, heap_setCell_same _ _ _ _ _ _ hh, h1, h2, by simpa using h3, ?_⟩
    rw [Array.toList_setIfInBounds, List.take_set, h4]
theorem flatM_set : ∀ (xs : List Msg) (j : Nat) (x : Msg) (z : Int), xs[j]? = some x → flatM (xs.set j ⟨x.to, x.tag, z⟩) = (flatM xs).set (j * 3 + 2) (.int .i64 z)
  | [], _, _, _, h => by simp at h
  | y :: r, 0, x, z, h => by
    obtain rfl : y = x := by simpa using h
    simp [flatM, Msg.cells]
  | y :: r, j + 1, x, z, h => by
    have := flatM_set r j x z (by simpa using h)
    rw [show (j + 1) * 3 + 2 = j * 3 + 2 + 1 + 1 + 1 by omega]
    simp only [flatM, List.flatMap_cons, List.set_cons_succ, Msg.cells, List.cons_append, List.nil_append] at this ⊢
    rw [this]
theorem half_get {os : List Nat} {m u : Msg} {out : List Msg} {j : Nat} (hu : out[j]? = some u) : ((out.take j).map (updM os m) ++ out.drop j)[j]? = some u := by
  have hj := (List.getElem?_eq_some_iff.1 hu).1
  rw [List.getElem?_append_right (by simp; omega)]
  simp only [List.length_map, List.length_take, Nat.min_eq_left (Nat.le_of_lt hj), Nat.sub_self, List.getElem?_drop, Nat.add_zero]
  exact hu
theorem half_next {os : List Nat} {m u : Msg} {out : List Msg} {j : Nat} (hu : out[j]? = some u) : (out.take (j + 1)).map (updM os m) ++ out.drop (j + 1) = ((out.take j).map (updM os m) ++ out.drop j).set j (updM os m u) := by
  have hj := (List.getElem?_eq_some_iff.1 hu).1
  have hd : out.drop j = u :: out.drop (j + 1) := by rw [List.drop_eq_getElem_cons hj]; rw [(List.getElem?_eq_some_iff.1 hu).2]
  rw [List.take_add_one, hu, List.map_append, hd, List.set_append, if_neg (by simp; omega)]
  simp [Nat.min_eq_left (Nat.le_of_lt hj)]
theorem set_self {l : List Msg} {j : Nat} {x : Msg} (h : l[j]? = some x) : l.set j x = l := by
  refine List.ext_getElem? fun q => ?_
  rw [List.getElem?_set]
  split
  · rename_i e
    subst e
    rw [h, if_pos (List.getElem?_eq_some_iff.1 h).1]
  · rfl
theorem own_frozen {w : World} {base e size n g cap : Nat} {xs : List Value} (h : w.ownsRow base e size (.slice (some ⟨g, 0, none⟩) n cap) n xs) (j : Nat) : w.frozen? ⟨g, j, none⟩ = false := by
  rcases h.2 with ⟨h0, _⟩ | ⟨g', cap', cur, he, hb, hh, h1, h2, h3, h4⟩
  · cases h0
  · simp only [Value.slice.injEq, Option.some.injEq, Addr.mk.injEq, and_true, true_and] at he
    obtain ⟨rfl, rfl⟩ := he
    unfold World.frozen?
    simp only [hh]
    simp
def CombPost (w : World) (os : List Nat) (xs : List Msg) (e : Ending) (w' : World) : Prop := Below w.heap.size w w' ∧
  ((xs.all (tagOk os) = false ∧ e = .returned (.tuple #[.slice none 0 0, .int .i64 2])) ∨
   (xs.all (tagOk os) = true ∧ xs.all (opOk os) = false ∧ e = .returned (.tuple #[.slice none 0 0, .int .i64 3])) ∨
   (xs.all (tagOk os) = true ∧ xs.all (opOk os) = true ∧ ∃ v, e = .returned (.tuple #[v, .int .i64 0]) ∧ SeesM w' v (sortM (combM os xs))))
end Go.Proofs.Ytdfieflcclbgjab
