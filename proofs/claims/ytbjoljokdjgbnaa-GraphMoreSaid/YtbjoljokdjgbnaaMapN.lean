/-
  A map from edges to numbers: looked up, and one more.
-/
import Derived.Test.YtbjoljokdjgbnaaMap
namespace Go.Proofs.Ytbjoljokdjgbnaa
open Go.RowKit Go.MapKept
open Go.ChangeMaps (setBlock heap_setBlock_same heap_setBlock_other)
/-- The entries ms say the numbers f. -/
def Says (ms : Array MapEntry) (f : Int → Int → Int) : Prop :=
  (∀ x ∈ ms.toList, ∃ p q, Wf p ∧ Wf q ∧ x.key = edge p q ∧ x.val = .int .i64 (f p q)) ∧ (∀ p q, (∀ x ∈ ms.toList, x.key ≠ edge p q) → f p q = 0)
/-- The map at b has the numbers f. -/
def MapN (w : World) (b : Nat) (f : Int → Int → Int) : Prop := ∃ ms clock, w.heap[b]? = some (.map ms clock) ∧ Stamped ms clock ∧ Says ms f
def updN (f : Int → Int → Int) (p q z : Int) : Int → Int → Int := fun p' q' => if p' = p ∧ q' = q then z else f p' q'
theorem mapN_made (w : World) : MapN (w.alloc (.map #[] 0)) w.heap.size (fun _ _ => 0) :=
  ⟨#[], 0, World.alloc_heap_new w _, ⟨by simp, by simp, by simp⟩, by simp, fun _ _ _ => rfl⟩
theorem MapN.kept {w w' : World} {b : Nat} {f : Int → Int → Int} (h : MapN w b f) (e : w'.heap[b]? = w.heap[b]?) : MapN w' b f := by
  obtain ⟨ms, clock, h1, h2, h3⟩ := h
  exact ⟨ms, clock, e.trans h1, h2, h3⟩
theorem MapN.lt {w : World} {b : Nat} {f : Int → Int → Int} (h : MapN w b f) : b < w.heap.size := by
  obtain ⟨ms, clock, h1, _⟩ := h
  exact (Array.getElem?_eq_some_iff.1 h1).1
theorem says_keys {ms : Array MapEntry} {f : Int → Int → Int} (h : Says ms f) : ∀ e ∈ ms.toList, ∃ l, keyOf Try.prog 55 e.key = some l := fun e he => by
  obtain ⟨p', q', wp, wq, ek, _⟩ := h.1 e he
  rw [ek]; exact keyOf_edge wp wq
theorem Try.zero3 (w : World) : (zeroValue 3).run Try.prog w = .ok (.int .i64 0) w := by
  obtain ⟨i0, hi, hz0, hz1, hz2⟩ := info_parts Try.info3
  simp [zeroValue, typeInfo, hi, hz0]
theorem mapN_lookup {w : World} {b : Nat} {f : Int → Int → Int} (h : MapN w b f) {p q : Int} (hp : Wf p) (hq : Wf q) :
    (Instr.lookup 71 (.map (some b)) (.agg #[.int .i64 p, .int .i64 q]) false).run Try.prog w = .ok (.int .i64 (f p q)) w := by
  obtain ⟨ms, clock, hb, hst, hs⟩ := h
  obtain ⟨kl, hkey⟩ := keyOf_edge hp hq
  have ht := Try.underlying71
  change (Instr.lookup 71 (.map (some b)) (edge p q) false).run Try.prog w = .ok (.int .i64 (f p q)) w
  rcases law55.find w hkey ms.toList (says_keys hs) with ⟨h1, h2⟩ | ⟨j, e0, h1, h2, h3⟩
  · rw [hs.2 p q h2]
    simp [Instr.lookup, run_underlying ht, MapKept.run_getObj_map hb, law55.check w _ hkey, h1, Result.andThen]
  · obtain ⟨p0, q0, wp0, wq0, ek0, hv0⟩ := hs.1 e0 (List.mem_of_getElem? h2)
    obtain ⟨rfl, rfl⟩ := edge_inj (ek0.symm.trans h3)
    simp [Instr.lookup, run_underlying ht, MapKept.run_getObj_map hb, law55.check w _ hkey, h1, hv0, Result.andThen]
theorem push_says {es : Array MapEntry} {clock : Nat} {f : Int → Int → Int} {p q : Int} (hst : Stamped es clock) (hs : Says es f) (hp : Wf p) (hq : Wf q) (hall : ∀ x ∈ es.toList, x.key ≠ edge p q) (z : Int) :
    Stamped (es.push ⟨edge p q, .int .i64 z, clock⟩) (clock + 1) ∧ Says (es.push ⟨edge p q, .int .i64 z, clock⟩) (updN f p q z) := by
  refine ⟨⟨fun x hx => ?_, ?_, ?_⟩, fun x hx => ?_, fun p' q' hn => ?_⟩
  · simp only [Array.toList_push, List.mem_append, List.mem_singleton] at hx
    rcases hx with hx | rfl
    · have := hst.1 x hx; omega
    · exact Nat.lt_succ_self _
  · simp only [Array.toList_push, List.map_append, List.map_cons, List.map_nil]
    refine List.nodup_append.2 ⟨hst.2.1, by simp, fun a ha c hc e1 => ?_⟩
    simp only [List.mem_singleton] at hc
    obtain ⟨x, hx, rfl⟩ := List.mem_map.1 ha
    have := hst.1 x hx
    omega
  · simp only [Array.toList_push, List.map_append, List.map_cons, List.map_nil]
    refine List.nodup_append.2 ⟨hst.2.2, by simp, fun a ha c hc e1 => ?_⟩
    simp only [List.mem_singleton] at hc
    obtain ⟨x, hx, rfl⟩ := List.mem_map.1 ha
    exact hall x hx (e1.trans hc)
  · simp only [Array.toList_push, List.mem_append, List.mem_singleton] at hx
    rcases hx with hx | rfl
    · obtain ⟨p', q', wp, wq, ek, hv⟩ := hs.1 x hx
      refine ⟨p', q', wp, wq, ek, ?_⟩
      have hne : ¬ (p' = p ∧ q' = q) := fun e => hall x hx (by rw [ek, e.1, e.2])
      simp only [updN, if_neg hne]; exact hv
    · exact ⟨p, q, hp, hq, rfl, by simp [updN]⟩
  · have hne : ¬ (p' = p ∧ q' = q) := fun e => hn ⟨edge p q, .int .i64 z, clock⟩ (by simp) (by rw [e.1, e.2])
    simp only [updN, if_neg hne]
    exact hs.2 p' q' fun x hx => hn x (by simp [hx])
/-- An entry, and a number stored there. -/
theorem mapN_step {w : World} {b : Nat} {f : Int → Int → Int} (h : MapN w b f) {p q : Int} (hp : Wf p) (hq : Wf q) :
    ∃ (v : Value) (st : Nat) (m1 : Obj), (Instr.mapEntry 71 (.map (some b)) (.agg #[.int .i64 p, .int .i64 q])).run Try.prog w = .ok (.tuple #[v, .int .i64 (st : Int)]) (setBlock w b m1) ∧ MapN (setBlock w b m1) b f ∧
      ∀ (w3 : World) (z : Int), w3.heap[b]? = some m1 → ∃ m2 : Obj, (Instr.entryStore 71 (.map (some b)) (.int .i64 (st : Int)) (.int .i64 z)).run Try.prog w3 = .ok () (setBlock w3 b m2) ∧ MapN (setBlock w3 b m2) b (updN f p q z) := by
  obtain ⟨es, clock, hb, hst, hs⟩ := h
  obtain ⟨kl, hkey⟩ := keyOf_edge hp hq
  have hkeys := says_keys hs
  have ht := Try.underlying71
  have hsb : ∀ (w3 : World) (o m1 : Obj), w3.heap[b]? = some m1 → (setBlock w3 b o).heap[b]? = some o := fun w3 o m1 h => by
    have := (Array.getElem?_eq_some_iff.1 h).1
    simp [setBlock, this]
  by_cases hex : ∃ (j : Nat) (e0 : MapEntry), es.toList[j]? = some e0 ∧ e0.key = edge p q
  · obtain ⟨j, e0, hj, he0⟩ := hex
    have hm0 : e0 ∈ es.toList := List.mem_of_getElem? hj
    have hsame : es.modify j (fun e => { e with key := edge p q }) = es := by
      apply Array.ext'
      rw [Array.toList_modify, ChangeMaps.modify_eq_set _ _ _ _ hj]
      have : ({ e0 with key := edge p q } : MapEntry) = e0 := by rw [← he0]
      rw [this]; exact WideElems.set_self _ _ _ hj
    refine ⟨e0.val, e0.born, .map es clock, ?_, ⟨es, clock, hsb w _ _ hb, hst, hs⟩, fun w3 z hw3 => ⟨.map (es.modify j (fun e => { e with val := .int .i64 z })) clock, ?_, ?_⟩⟩
    · change (Instr.mapEntry 71 (.map (some b)) (edge p q)).run Try.prog w = _
      rcases law55.find w hkey es.toList hkeys with ⟨_, h2⟩ | ⟨j', e', h1, h2, h3⟩
      · exact absurd he0 (h2 e0 hm0)
      · obtain rfl := nodup_at hst.2.2 h2 hj (h3.trans he0.symm)
        rw [hj] at h2; cases h2
        have hj' : es[j']? = some e0 := by simpa using hj
        simp [Instr.mapEntry, run_underlying ht, MapKept.run_getObj_map hb, law55.check w false hkey, h1, hj', he0, law55.stays w hkey, hsame, MapKept.run_setObj_map _ hb, Result.andThen, setBlock, goInt]
    · have hidx : es.findIdx? (fun e => ((e.born : Nat) : Int) == ((e0.born : Nat) : Int)) = some j := by
        rw [WideElems.findIdx_arr]; exact WideElems.findIdx_born hst.2.1 hj
      simp [Instr.entryStore, MapKept.run_getObj_map hw3, asInt, asIntOf, hidx, MapKept.run_setObj_map _ hw3, Result.andThen, setBlock]
    · have htl : (es.modify j (fun e => { e with val := .int .i64 z })).toList = es.toList.modify j (fun e => { e with val := .int .i64 z }) := Array.toList_modify
      have hset : es.toList.modify j (fun e => { e with val := .int .i64 z }) = es.toList.set j { e0 with val := .int .i64 z } := ChangeMaps.modify_eq_set _ _ _ _ hj
      have hjl : j < es.toList.length := (List.getElem?_eq_some_iff.1 hj).1
      have hb1 : (es.toList.set j { e0 with val := .int .i64 z }).map (·.born) = es.toList.map (·.born) := by
        rw [List.map_set]; exact WideElems.set_self _ _ _ (by simp [hj])
      have hb2 : (es.toList.set j { e0 with val := .int .i64 z }).map (·.key) = es.toList.map (·.key) := by
        rw [List.map_set]; exact WideElems.set_self _ _ _ (by simp [hj])
      refine ⟨_, _, hsb w3 _ _ hw3, ⟨fun x hx => ?_, ?_, ?_⟩, fun x hx => ?_, fun p' q' hn => ?_⟩
      · rw [htl] at hx
        rcases mem_modify hj hx with rfl | ⟨i, _, hi⟩
        · exact hst.1 e0 hm0
        · exact hst.1 x (List.mem_of_getElem? hi)
      · rw [htl, hset, hb1]; exact hst.2.1
      · rw [htl, hset, hb2]; exact hst.2.2
      · rw [htl] at hx
        rcases mem_modify hj hx with rfl | ⟨i, hij, hi⟩
        · exact ⟨p, q, hp, hq, he0, by simp [updN]⟩
        · obtain ⟨p', q', wp, wq, ek, hv⟩ := hs.1 x (List.mem_of_getElem? hi)
          refine ⟨p', q', wp, wq, ek, ?_⟩
          have hne : ¬ (p' = p ∧ q' = q) := fun e => hij (nodup_at hst.2.2 hi hj (by rw [ek, he0, e.1, e.2]))
          simp only [updN, if_neg hne]; exact hv
      · have hne : ¬ (p' = p ∧ q' = q) := fun e => by
          refine hn { e0 with val := .int .i64 z } ?_ (by rw [e.1, e.2]; exact he0)
          rw [htl, hset]
          exact List.mem_of_getElem? (i := j) (List.getElem?_set_self hjl)
        simp only [updN, if_neg hne]
        refine hs.2 p' q' fun x hx ex => ?_
        obtain ⟨i, hi⟩ := List.getElem?_of_mem hx
        refine hn x ?_ ex
        rw [htl, hset]
        refine List.mem_of_getElem? (i := i) ?_
        rw [List.getElem?_set_ne, hi]
        rintro rfl
        rw [hj] at hi; cases hi
        have := edge_inj (he0.symm.trans ex)
        exact hne ⟨this.1.symm, this.2.symm⟩
  · have hall : ∀ x ∈ es.toList, x.key ≠ edge p q := fun x hx e => by
      obtain ⟨j, hj⟩ := List.getElem?_of_mem hx
      exact hex ⟨j, x, hj, e⟩
    have hf0 : updN f p q 0 = f := by
      funext p' q'
      unfold updN
      split
      · rename_i h; rw [h.1, h.2, hs.2 p q hall]
      · rfl
    have hpu := push_says hst hs hp hq hall 0
    rw [hf0] at hpu
    refine ⟨.int .i64 0, clock, .map (es.push ⟨edge p q, .int .i64 0, clock⟩) (clock + 1), ?_, ⟨_, _, hsb w _ _ hb, hpu⟩, fun w3 z hw3 => ⟨.map (es.push ⟨edge p q, .int .i64 z, clock⟩) (clock + 1), ?_, ?_⟩⟩
    · change (Instr.mapEntry 71 (.map (some b)) (edge p q)).run Try.prog w = _
      rcases law55.find w hkey es.toList hkeys with ⟨h1, _⟩ | ⟨j', e', h1, h2, h3⟩
      · simp [Instr.mapEntry, run_underlying ht, MapKept.run_getObj_map hb, law55.check w false hkey, h1, MapKept.run_setObj_map _ hb, Result.andThen, setBlock, goInt]
      · exact absurd h3 (hall e' (List.mem_of_getElem? h2))
    · have hidx : (es.push ⟨edge p q, .int .i64 0, clock⟩).findIdx? (fun e => ((e.born : Nat) : Int) == ((clock : Nat) : Int)) = some es.size := by
        rw [WideElems.findIdx_arr]
        exact WideElems.findIdx_born (l := (es.push ⟨edge p q, .int .i64 0, clock⟩).toList) (j := es.size) (e0 := ⟨edge p q, .int .i64 0, clock⟩) (by
          simp only [Array.toList_push, List.map_append, List.map_cons, List.map_nil]
          refine List.nodup_append.2 ⟨hst.2.1, by simp, fun a ha c hc e1 => ?_⟩
          simp only [List.mem_singleton] at hc
          obtain ⟨x, hx, rfl⟩ := List.mem_map.1 ha
          have := hst.1 x hx
          omega) (by simp)
      have hmod : (es.push ⟨edge p q, .int .i64 0, clock⟩).modify es.size (fun e => { e with val := .int .i64 z }) = es.push ⟨edge p q, .int .i64 z, clock⟩ := by
        apply Array.ext'
        rw [Array.toList_modify, Array.toList_push, Array.toList_push, ← Array.length_toList, WideElems.modify_last]
      simp [Instr.entryStore, MapKept.run_getObj_map hw3, asInt, asIntOf, hidx, hmod, MapKept.run_setObj_map _ hw3, Result.andThen, setBlock]
    · exact ⟨_, _, hsb w3 _ _ hw3, push_says hst hs hp hq hall z⟩
end Go.Proofs.Ytbjoljokdjgbnaa
