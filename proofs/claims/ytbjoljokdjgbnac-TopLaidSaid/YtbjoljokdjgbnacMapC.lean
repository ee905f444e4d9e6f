/-
  A map of columns: a column looked up, and a new one stored.
-/
import Derived.Test.YtbjoljokdjgbnacSet
namespace Go.Proofs.Ytbjoljokdjgbnac
open Go.RowKit Go.MapKept
open Go.ChangeMaps (setBlock heap_setBlock_same heap_setBlock_other)
/-- Keys that a map of columns can have. -/
def Keyed (es : Array MapEntry) : Prop := ∀ e ∈ es.toList, ∃ l, keyOf Try.prog 33 e.key = some l
theorem look_none {w : World} {mb clock : Nat} {es : Array MapEntry} {s : ByteArray} {d : Int} (hb : w.heap[mb]? = some (.map es clock)) (hk : Keyed es) (hs : s.size ≤ maxLen) (hd : Wf8 d) (hne : ∀ e ∈ es.toList, e.key ≠ ke s d) : Look w mb s d (.agg #[.int .u8 0, .slice none 0 0]) false := by
  intro u hu
  rw [hb] at hu
  obtain ⟨kl, hkey⟩ := keyOf_ke hs hd
  have ht := Try.underlying76
  rcases law33.find u hkey es.toList hk with ⟨h1, _⟩ | ⟨j, e, h1, h2, h3⟩
  · simp [Instr.lookup, run_underlying ht, MapKept.run_getObj_map hu, law33.check u es.isEmpty hkey, h1, Result.andThen]
  · exact absurd h3 (hne e (List.mem_of_getElem? h2))
theorem look_some {w : World} {mb clock j : Nat} {es : Array MapEntry} {e0 : MapEntry} {s : ByteArray} {d : Int} (hb : w.heap[mb]? = some (.map es clock)) (hst : Stamped es clock) (hk : Keyed es) (hs : s.size ≤ maxLen) (hd : Wf8 d) (hj : es.toList[j]? = some e0) (he : e0.key = ke s d) : Look w mb s d e0.val true := by
  intro u hu
  rw [hb] at hu
  obtain ⟨kl, hkey⟩ := keyOf_ke hs hd
  have ht := Try.underlying76
  rcases law33.find u hkey es.toList hk with ⟨_, h2⟩ | ⟨j', e', h1, h2, h3⟩
  · exact absurd he (h2 e0 (List.mem_of_getElem? hj))
  · obtain rfl := nodup_at hst.2.2 h2 hj (h3.trans he.symm)
    rw [hj] at h2; cases h2
    simp [Instr.lookup, run_underlying ht, MapKept.run_getObj_map hu, law33.check u es.isEmpty hkey, h1, Result.andThen]
theorem store_new {w : World} {mb clock : Nat} {es : Array MapEntry} {s : ByteArray} {d : Int} (v : Value) (hb : w.heap[mb]? = some (.map es clock)) (hk : Keyed es) (hs : s.size ≤ maxLen) (hd : Wf8 d) (hne : ∀ e ∈ es.toList, e.key ≠ ke s d) :
    (Instr.mapUpdate 76 (.map (some mb)) (ke s d) v).run Try.prog w = .ok () (setBlock w mb (.map (es.push { key := ke s d, val := v, born := clock }) (clock + 1))) := by
  obtain ⟨kl, hkey⟩ := keyOf_ke hs hd
  have ht := Try.underlying76
  rcases law33.find w hkey es.toList hk with ⟨h1, _⟩ | ⟨j, e, h1, h2, h3⟩
  · simp [Instr.mapUpdate, run_underlying ht, MapKept.run_getObj_map hb, law33.check w false hkey, h1, MapKept.run_setObj_map _ hb, Result.andThen, setBlock]
  · exact absurd h3 (hne e (List.mem_of_getElem? h2))
theorem store_again {w : World} {mb clock : Nat} {es : Array MapEntry} {s : ByteArray} {d : Int} (v : Value) (hb : w.heap[mb]? = some (.map (es.push { key := ke s d, val := v, born := clock }) (clock + 1))) (hk : Keyed es) (hs : s.size ≤ maxLen) (hd : Wf8 d) (hne : ∀ e ∈ es.toList, e.key ≠ ke s d) :
    (Instr.mapUpdate 76 (.map (some mb)) (ke s d) v).run Try.prog w = .ok () (setBlock w mb (.map (es.push { key := ke s d, val := v, born := clock }) (clock + 1))) := by
  obtain ⟨kl, hkey⟩ := keyOf_ke hs hd
  have ht := Try.underlying76
  have hk2 : ∀ e ∈ (es.push { key := ke s d, val := v, born := clock }).toList, ∃ l, keyOf Try.prog 33 e.key = some l := by
    intro e he
    rw [Array.toList_push, List.mem_append, List.mem_singleton] at he
    rcases he with he | rfl
    · exact hk e he
    · exact ⟨kl, hkey⟩
  rcases law33.find w hkey _ hk2 with ⟨_, h2⟩ | ⟨j, e, h1, h2, h3⟩
  · exact absurd rfl (h2 { key := ke s d, val := v, born := clock } (by simp))
  · have he : e = { key := ke s d, val := v, born := clock } := by
      have := List.mem_of_getElem? h2
      rw [Array.toList_push, List.mem_append, List.mem_singleton] at this
      rcases this with h | h
      · exact absurd h3 (hne e h)
      · exact h
    subst he
    have hsame : ∀ f : MapEntry → MapEntry, f { key := ke s d, val := v, born := clock } = { key := ke s d, val := v, born := clock } → (es.push { key := ke s d, val := v, born := clock }).modify j f = es.push { key := ke s d, val := v, born := clock } := by
      intro f hf
      apply Array.ext'
      rw [Array.toList_modify, ChangeMaps.modify_eq_set _ _ _ _ h2, hf]
      exact WideElems.set_self _ _ _ h2
    have hj' : (es.push { key := ke s d, val := v, born := clock })[j]? = some { key := ke s d, val := v, born := clock } := by rw [← Array.getElem?_toList]; exact h2
    have hs2 := hsame (fun e => { key := ke s d, val := v, born := e.born }) rfl
    clear hk2 h2 h3 hsame
    obtain ⟨A, hA⟩ : ∃ A, es.push { key := ke s d, val := v, born := clock } = A := ⟨_, rfl⟩
    rw [hA] at hb h1 hj' hs2 ⊢
    simp [Instr.mapUpdate, run_underlying ht, MapKept.run_getObj_map hb, law33.check w false hkey, h1, hj', hs2, law33.stays w hkey, MapKept.run_setObj_map _ hb, Result.andThen, setBlock]
end Go.Proofs.Ytbjoljokdjgbnac
