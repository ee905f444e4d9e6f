/-
  The map of what acts do, by their names.
-/
import Derived.Test.YtffdgjlojechaaaBase
import Derived.StringKeys
namespace Go.Proofs.Ytffdgjlojechaaa
open Go.RowKit Go.MapKept Go.WideMaps Go.WideShapes
open Go.ChangeMaps (setBlock heap_setBlock_same heap_setBlock_other)
theorem law9 : KeyLaw Try.prog 9 := string_law Try.underlying9
theorem nodup_at {l : List MapEntry} (h : (l.map (·.key)).Nodup) {i j : Nat} {x y : MapEntry} (hi : l[i]? = some x) (hj : l[j]? = some y) (e : x.key = y.key) : i = j := by
  have hi' : (l.map (·.key))[i]? = some x.key := by simp [hi]
  have hj' : (l.map (·.key))[j]? = some y.key := by simp [hj]
  have li : i < (l.map (·.key)).length := (List.getElem?_eq_some_iff.1 hi').1
  have lj : j < (l.map (·.key)).length := (List.getElem?_eq_some_iff.1 hj').1
  have hne := List.pairwise_iff_getElem.1 h
  have a1 := (List.getElem?_eq_some_iff.1 hi').2
  have a2 := (List.getElem?_eq_some_iff.1 hj').2
  rcases Nat.lt_trichotomy i j with h1 | h1 | h1
  · exact absurd (a1.trans (e.trans a2.symm)) (hne i j li lj h1)
  · exact h1
  · exact absurd (a2.trans (e.symm.trans a1.symm)) (hne j i lj li h1)
/-- What names do. -/
abbrev Fn := ByteArray → Option (Bool × Int)
def upd (f : Fn) (s : ByteArray) (d : Bool × Int) : Fn := fun t => if t = s then some d else f t
/-- Entries that say f. -/
def Says (es : Array MapEntry) (clock : Nat) (f : Fn) : Prop :=
  Stamped es clock ∧ (∀ x ∈ es.toList, ∃ s d, s.size ≤ maxLen ∧ x.key = .string s ∧ f s = some d ∧ x.val = dval d) ∧ (∀ s d, f s = some d → ∃ x ∈ es.toList, x.key = .string s)
/-- The map at mb says f. -/
def MapD (w : World) (mb : Nat) (f : Fn) : Prop := ∃ es clock, w.heap[mb]? = some (.map es clock) ∧ Says es clock f
theorem MapD.same {w w' : World} {mb : Nat} {f : Fn} (h : MapD w mb f) (e : w'.heap[mb]? = w.heap[mb]?) : MapD w' mb f := by
  obtain ⟨es, clock, hb, hs⟩ := h
  exact ⟨es, clock, e.trans hb, hs⟩
theorem MapD.lt {w : World} {mb : Nat} {f : Fn} (h : MapD w mb f) : mb < w.heap.size := by
  obtain ⟨es, clock, hb, _⟩ := h
  exact (Array.getElem?_eq_some_iff.1 hb).1
theorem mapD_made (w : World) : MapD (w.alloc (.map #[] 0)) w.heap.size (fun _ => none) :=
  ⟨#[], 0, (MapKept.heap_alloc w _).1, stamped_empty 0, by simp, by simp⟩
theorem Says.keyed {es : Array MapEntry} {clock : Nat} {f : Fn} (h : Says es clock f) : ∀ e ∈ es.toList, ∃ l, keyOf Try.prog 9 e.key = some l := by
  intro e he
  obtain ⟨s, d, hs, hk, _⟩ := h.2.1 e he
  exact ⟨_, hk ▸ keyOf_string_mk Try.underlying9 hs⟩
/-- A name looked up. -/
theorem look {w : World} {mb : Nat} {f : Fn} (h : MapD w mb f) {s : ByteArray} (hs : s.size ≤ maxLen) :
    (Instr.lookup 44 (.map (some mb)) (.string s) true).run Try.prog w = .ok (.tuple #[dval ((f s).getD (false, 0)), .bool (f s).isSome]) w := by
  obtain ⟨es, clock, hb, hS⟩ := h
  have ht := Try.underlying44
  have hkey := keyOf_string_mk (P := Try.prog) Try.underlying9 hs
  rcases law9.find w hkey es.toList hS.keyed with ⟨h1, h2⟩ | ⟨j, e, h1, h2, h3⟩
  · have hn : f s = none := by
      cases hf : f s with
      | none => rfl
      | some d =>
        obtain ⟨x, hx, hk⟩ := hS.2.2 s d hf
        exact absurd hk (h2 x hx)
    rw [hn]
    simp [Instr.lookup, run_underlying ht, MapKept.run_getObj_map hb, law9.check w es.isEmpty hkey, h1, Result.andThen, dval]
  · obtain ⟨s', d, _, hk, hf, hv⟩ := hS.2.1 e (List.mem_of_getElem? h2)
    obtain rfl : s = s' := by rw [hk] at h3; simpa using h3.symm
    rw [hf]
    simp [Instr.lookup, run_underlying ht, MapKept.run_getObj_map hb, law9.check w es.isEmpty hkey, h1, Result.andThen, hv]
theorem stamped_modify {es : Array MapEntry} {clock j : Nat} {e0 : MapEntry} {v : Value} (h : Stamped es clock) (hj : es.toList[j]? = some e0) : Stamped (es.modify j fun e => { key := e0.key, val := v, born := e.born }) clock := by
  have hm : (es.modify j fun e => { key := e0.key, val := v, born := e.born }).toList = es.toList.set j { key := e0.key, val := v, born := e0.born } := by
    rw [Array.toList_modify, ChangeMaps.modify_eq_set _ _ _ _ hj]
  have hlt := (List.getElem?_eq_some_iff.1 hj).1
  have heq := (List.getElem?_eq_some_iff.1 hj).2
  refine ⟨fun x hx => ?_, ?_, ?_⟩
  · rw [hm] at hx
    rcases List.mem_or_eq_of_mem_set hx with hx | rfl
    · exact h.1 x hx
    · exact h.1 e0 (List.mem_of_getElem? hj)
  · rw [hm, List.map_set]
    have : (es.toList.map (·.born)).set j e0.born = es.toList.map (·.born) := by
      apply List.ext_getElem?
      intro i
      rw [List.getElem?_set]
      split
      · rename_i hi; subst hi; simp [hj]; simpa using hlt
      · rfl
    simp only [this]; exact h.2.1
  · rw [hm, List.map_set]
    have : (es.toList.map (·.key)).set j e0.key = es.toList.map (·.key) := by
      apply List.ext_getElem?
      intro i
      rw [List.getElem?_set]
      split
      · rename_i hi; subst hi; simp [hj]; simpa using hlt
      · rfl
    simp only [this]; exact h.2.2
theorem stamped_push {es : Array MapEntry} {clock : Nat} {k v : Value} (h : Stamped es clock) (hne : ∀ e ∈ es.toList, e.key ≠ k) : Stamped (es.push { key := k, val := v, born := clock }) (clock + 1) := by
  refine ⟨fun x hx => ?_, ?_, ?_⟩
  · rw [Array.toList_push, List.mem_append, List.mem_singleton] at hx
    rcases hx with hx | rfl
    · have := h.1 x hx; omega
    · simp
  · rw [Array.toList_push, List.map_append, List.nodup_append]
    refine ⟨h.2.1, by simp, fun a ha b hb => ?_⟩
    obtain ⟨x, hx, rfl⟩ := List.mem_map.1 ha
    obtain rfl : b = clock := by simpa using hb
    have := h.1 x hx
    omega
  · rw [Array.toList_push, List.map_append, List.nodup_append]
    refine ⟨h.2.2, by simp, fun a ha b hb => ?_⟩
    obtain ⟨x, hx, rfl⟩ := List.mem_map.1 ha
    obtain rfl : b = k := by simpa using hb
    exact hne x hx
/-- Storing at a key that is there. -/
theorem store_at {u : World} {mb clock j : Nat} {es : Array MapEntry} {e0 : MapEntry} {f : Fn} {s : ByteArray} (v : Value) (hb : u.heap[mb]? = some (.map es clock)) (hS : Says es clock f) (hs : s.size ≤ maxLen) (hj : es.toList[j]? = some e0) (he : e0.key = .string s) :
    (Instr.mapUpdate 44 (.map (some mb)) (.string s) v).run Try.prog u = .ok () (setBlock u mb (.map (es.modify j fun e => { key := e0.key, val := v, born := e.born }) clock)) := by
  have ht := Try.underlying44
  have hkey := keyOf_string_mk (P := Try.prog) Try.underlying9 hs
  rcases law9.find u hkey es.toList hS.keyed with ⟨_, h2⟩ | ⟨j', e', h1, h2, h3⟩
  · exact absurd he (h2 e0 (List.mem_of_getElem? hj))
  · obtain rfl := nodup_at hS.1.2.2 h2 hj (h3.trans he.symm)
    have hj' : es[j']? = some e0 := by rw [← Array.getElem?_toList]; exact hj
    simp [Instr.mapUpdate, run_underlying ht, MapKept.run_getObj_map hb, law9.check u false hkey, h1, hj', he, law9.stays u hkey, MapKept.run_setObj_map _ hb, Result.andThen, setBlock]
theorem store_new {u : World} {mb clock : Nat} {es : Array MapEntry} {f : Fn} {s : ByteArray} (v : Value) (hb : u.heap[mb]? = some (.map es clock)) (hS : Says es clock f) (hs : s.size ≤ maxLen) (hne : ∀ e ∈ es.toList, e.key ≠ .string s) :
    (Instr.mapUpdate 44 (.map (some mb)) (.string s) v).run Try.prog u = .ok () (setBlock u mb (.map (es.push { key := .string s, val := v, born := clock }) (clock + 1))) := by
  have ht := Try.underlying44
  have hkey := keyOf_string_mk (P := Try.prog) Try.underlying9 hs
  rcases law9.find u hkey es.toList hS.keyed with ⟨h1, _⟩ | ⟨j, e, h1, h2, h3⟩
  · simp [Instr.mapUpdate, run_underlying ht, MapKept.run_getObj_map hb, law9.check u false hkey, h1, MapKept.run_setObj_map _ hb, Result.andThen, setBlock]
  · exact absurd h3 (hne e (List.mem_of_getElem? h2))
/-- What storing makes of the map; storing it again makes the same. -/
theorem store {w : World} {mb : Nat} {f : Fn} (h : MapD w mb f) {s : ByteArray} (hs : s.size ≤ maxLen) (d : Bool × Int) :
    ∃ o : Obj, (∀ u : World, u.heap[mb]? = w.heap[mb]? → (Instr.mapUpdate 44 (.map (some mb)) (.string s) (dval d)).run Try.prog u = .ok () (setBlock u mb o)) ∧
      (∀ u : World, u.heap[mb]? = some o → (Instr.mapUpdate 44 (.map (some mb)) (.string s) (dval d)).run Try.prog u = .ok () (setBlock u mb o)) ∧
      (∀ u : World, u.heap[mb]? = some o → MapD u mb (upd f s d)) := by
  obtain ⟨es, clock, hb, hS⟩ := h
  by_cases hin : ∃ e0 ∈ es.toList, e0.key = .string s
  · obtain ⟨e0, hm, he⟩ := hin
    obtain ⟨j, hj⟩ := List.getElem?_of_mem hm
    have hlt := (List.getElem?_eq_some_iff.1 hj).1
    have hm2 : (es.modify j fun e => { key := e0.key, val := dval d, born := e.born }).toList = es.toList.set j { key := e0.key, val := dval d, born := e0.born } := by
      rw [Array.toList_modify, ChangeMaps.modify_eq_set _ _ _ _ hj]
    have hS2 : Says (es.modify j fun e => { key := e0.key, val := dval d, born := e.born }) clock (upd f s d) := by
      refine ⟨stamped_modify hS.1 hj, fun x hx => ?_, fun t dt ht => ?_⟩
      · rw [hm2] at hx
        obtain ⟨i, hi⟩ := List.getElem?_of_mem hx
        rw [List.getElem?_set] at hi
        by_cases hji : j = i
        · rw [if_pos hji, if_pos hlt] at hi
          obtain rfl := Option.some.inj hi
          exact ⟨s, d, hs, he, by simp [upd], rfl⟩
        · rw [if_neg hji] at hi
          obtain ⟨t, dt, h1, h2, h3, h4⟩ := hS.2.1 x (List.mem_of_getElem? hi)
          refine ⟨t, dt, h1, h2, ?_, h4⟩
          have : t ≠ s := fun e => hji (nodup_at hS.1.2.2 hj hi (by rw [he, h2, e]))
          simp [upd, this, h3]
      · by_cases e : t = s
        · subst e
          exact ⟨{ key := e0.key, val := dval d, born := e0.born }, by rw [hm2]; exact List.mem_set hlt _, he⟩
        · simp only [upd, e, if_false] at ht
          obtain ⟨x, hx, hk⟩ := hS.2.2 t dt ht
          obtain ⟨i, hi⟩ := List.getElem?_of_mem hx
          refine ⟨x, ?_, hk⟩
          rw [hm2]
          apply List.mem_of_getElem? (i := i)
          rw [List.getElem?_set, if_neg, hi]
          intro hji
          subst hji
          rw [hj] at hi
          obtain rfl := Option.some.inj hi
          rw [he] at hk
          exact e (by simpa using hk.symm)
    refine ⟨.map (es.modify j fun e => { key := e0.key, val := dval d, born := e.born }) clock, fun u hu => store_at _ (hu.trans hb) hS hs hj he, fun u hu => ?_, fun u hu => ⟨_, _, hu, hS2⟩⟩
    have hj2 : (es.modify j fun e => { key := e0.key, val := dval d, born := e.born }).toList[j]? = some { key := e0.key, val := dval d, born := e0.born } := by
      rw [hm2, List.getElem?_set, if_pos rfl, if_pos hlt]
    have := store_at (dval d) hu hS2 hs hj2 he
    rw [this]
    congr 2
    congr 1
    apply Array.ext'
    rw [Array.toList_modify, ChangeMaps.modify_eq_set _ _ _ _ hj2]
    exact WideElems.set_self _ _ _ hj2
  · have hne : ∀ e ∈ es.toList, e.key ≠ .string s := fun e he hk => hin ⟨e, he, hk⟩
    have hS2 : Says (es.push { key := .string s, val := dval d, born := clock }) (clock + 1) (upd f s d) := by
      refine ⟨stamped_push hS.1 hne, fun x hx => ?_, fun t dt ht => ?_⟩
      · rw [Array.toList_push, List.mem_append, List.mem_singleton] at hx
        rcases hx with hx | rfl
        · obtain ⟨t, dt, h1, h2, h3, h4⟩ := hS.2.1 x hx
          refine ⟨t, dt, h1, h2, ?_, h4⟩
          have : t ≠ s := fun e => hne x hx (by rw [h2, e])
          simp [upd, this, h3]
        · exact ⟨s, d, hs, rfl, by simp [upd], rfl⟩
      · by_cases e : t = s
        · subst e
          exact ⟨{ key := .string t, val := dval d, born := clock }, by simp, rfl⟩
        · simp only [upd, e, if_false] at ht
          obtain ⟨x, hx, hk⟩ := hS.2.2 t dt ht
          exact ⟨x, by simp [Array.mem_toList_iff.1 hx], hk⟩
    refine ⟨.map (es.push { key := .string s, val := dval d, born := clock }) (clock + 1), fun u hu => store_new _ (hu.trans hb) hS hs hne, fun u hu => ?_, fun u hu => ⟨_, _, hu, hS2⟩⟩
    have hj2 : (es.push { key := .string s, val := dval d, born := clock }).toList[es.size]? = some { key := .string s, val := dval d, born := clock } := by
      simp
    have := store_at (dval d) hu hS2 hs hj2 rfl
    rw [this]
    congr 2
    congr 1
    apply Array.ext'
    rw [Array.toList_modify, ChangeMaps.modify_eq_set _ _ _ _ hj2]
    exact WideElems.set_self _ _ _ hj2
end Go.Proofs.Ytffdgjlojechaaa
