/-
  A map from node and tag to a number: what it tells, and what is stored.
-/
import Derived.Test.YtdfieflcclbgjaaCombM
import Derived.WideKeyEntry
import Derived.DeepKeys4
import Derived.Maps.OwnRows
import Derived.Maps.RangeRun
namespace Go.Proofs.Ytdfieflcclbgjaa
open Go.RowKit Go.MapKept
open Go.ChangeMaps (setBlock heap_setBlock_same heap_setBlock_other)
theorem laidOutM : laidOutB Try.prog = true := by kernel_rfl
theorem law70 : WideMaps.KeyLaw Try.prog 70 := deep_law_laid laidOutM (m := 2) (by decide) (of_decide_eq_true (by kernel_rfl)) (by kernel_rfl) (by kernel_rfl)
def keyM (m : Msg) : Value := .agg #[.int .i64 m.to, .int .i64 m.tag]
theorem keyM_inj {m u : Msg} (h : keyM m = keyM u) : m.to = u.to ∧ m.tag = u.tag := by simpa [keyM] using h
theorem wf64 {a : Int} (h : In64 a) : (Lit.int .i64 a).wf = true := by
  have e1 : IntKind.i64.min = -9223372036854775808 := rfl
  have e2 : IntKind.i64.max = 9223372036854775807 := rfl
  simp only [Lit.wf, e1, e2, Bool.and_eq_true, decide_eq_true_eq]
  exact h
theorem keyOf_M {m : Msg} (h0 : In64 m.to) (h1 : In64 m.tag) : ∃ kl, keyOf Try.prog 70 (keyM m) = some kl := by
  have hu := Try.underlying70
  have hk : Try.prog.keyType 70 = true := by kernel_rfl
  obtain ⟨q, hq⟩ : ∃ q, Try.prog.types.size + 1 = q + 2 := ⟨Try.prog.types.size - 1, by have : 1 ≤ Try.prog.types.size := (by kernel_rfl : decide (1 ≤ Try.prog.types.size) = true) |> of_decide_eq_true; omega⟩
  have hc3 : Try.prog.cellsOf 3 = 1 := by kernel_rfl
  have hc70 : Try.prog.cellsOf 70 = 2 := by kernel_rfl
  have w0 := wf64 h0
  have w1 := wf64 h1
  unfold keyOf keyM
  simp only [hu]
  rw [if_pos (by simp [hk, Value.formed, hu, hc70]), hq]
  unfold Program.keyLits
  simp only [hu, Value.cells]
  rw [if_pos (by simp [hc70])]
  simp [List.range, List.range.loop, hc3, Program.keyLits, Try.underlying3, w0, w1]
theorem nodup_at {l : List MapEntry} (h : (l.map (·.key)).Nodup) {i j : Nat} {x y : MapEntry} (hi : l[i]? = some x) (hj : l[j]? = some y) (e : x.key = y.key) : i = j := by
  have hi' : (l.map (·.key))[i]? = some x.key := by simp [hi]
  have hj' : (l.map (·.key))[j]? = some y.key := by simp [hj]
  have li : i < (l.map (·.key)).length := (List.getElem?_eq_some_iff.1 hi').1
  have lj : j < (l.map (·.key)).length := (List.getElem?_eq_some_iff.1 hj').1
  have hne := List.pairwise_iff_getElem.1 h
  have a1 := (List.getElem?_eq_some_iff.1 hi').2
  have a2 := (List.getElem?_eq_some_iff.1 hj').2
  rcases Nat.lt_trichotomy i j with h1 | h1 | h1
  · exact absurd (a1.trans (e.trans a2.symm)) (hne i j li lj h1)
  · exact h1
  · exact absurd (a2.trans (e.symm.trans a1.symm)) (hne j i lj li h1)
/-- The map at mb: at each node and tag of out its number. -/
def MapM (w : World) (mb : Nat) (out : List Msg) : Prop :=
  ∃ es clock, w.heap[mb]? = some (.map es clock) ∧ Stamped es clock ∧ es.toList.map (fun e => (e.key, e.val)) = out.map (fun m => (keyM m, Value.int .i64 m.val)) ∧ ∀ m ∈ out, In64 m.to ∧ In64 m.tag
theorem ent_of {es : List MapEntry} {out : List Msg} (h : es.map (fun e => (e.key, e.val)) = out.map (fun m => (keyM m, Value.int .i64 m.val))) {j : Nat} {e : MapEntry} (he : es[j]? = some e) : ∃ m, out[j]? = some m ∧ e.key = keyM m ∧ e.val = .int .i64 m.val := by
  have h1 : (es.map (fun e => (e.key, e.val)))[j]? = some (e.key, e.val) := by rw [List.getElem?_map, he]; rfl
  rw [h, List.getElem?_map, Option.map_eq_some_iff] at h1
  obtain ⟨m, hm, h2⟩ := h1
  simp only [Prod.mk.injEq] at h2
  exact ⟨m, hm, h2.1.symm, h2.2.symm⟩
theorem of_ent {es : List MapEntry} {out : List Msg} (h : es.map (fun e => (e.key, e.val)) = out.map (fun m => (keyM m, Value.int .i64 m.val))) {j : Nat} {m : Msg} (hm : out[j]? = some m) : ∃ e, es[j]? = some e ∧ e.key = keyM m ∧ e.val = .int .i64 m.val := by
  have h1 : (out.map (fun m => (keyM m, Value.int .i64 m.val)))[j]? = some (keyM m, .int .i64 m.val) := by rw [List.getElem?_map, hm]; rfl
  rw [← h, List.getElem?_map, Option.map_eq_some_iff] at h1
  obtain ⟨e, he, h2⟩ := h1
  simp only [Prod.mk.injEq] at h2
  exact ⟨e, he, h2.1, h2.2⟩
theorem likeM_key {m u : Msg} : likeM m u = true ↔ keyM u = keyM m := by
  unfold likeM keyM
  simp
theorem keyed_of {es : Array MapEntry} {out : List Msg} (h : es.toList.map (fun e => (e.key, e.val)) = out.map (fun m => (keyM m, Value.int .i64 m.val))) (hi : ∀ m ∈ out, In64 m.to ∧ In64 m.tag) : ∀ e ∈ es.toList, ∃ l, keyOf Try.prog 70 e.key = some l := by
  intro e he
  obtain ⟨j, hj⟩ := List.mem_iff_getElem?.1 he
  obtain ⟨m, hm, hk, _⟩ := ent_of h hj
  rw [hk]
  have := hi m (List.mem_of_getElem? hm)
  exact keyOf_M this.1 this.2
theorem lookM_none {w : World} {mb : Nat} {out : List Msg} {m : Msg} (h : MapM w mb out) (h0 : In64 m.to) (h1 : In64 m.tag) (hn : out.any (likeM m) = false) (u : World) (hu : u.heap[mb]? = w.heap[mb]?) :
    (Instr.lookup 69 (.map (some mb)) (keyM m) true).run Try.prog u = .ok (.tuple #[.int .i64 0, .bool false]) u := by
  obtain ⟨es, clock, hb, hst, hes, hin⟩ := h
  rw [hb] at hu
  obtain ⟨kl, hkey⟩ := keyOf_M h0 h1
  have ht := Try.underlying69
  rcases law70.find u hkey es.toList (keyed_of hes hin) with ⟨h1, _⟩ | ⟨j, e, h1, h2, h3⟩
  · simp [Instr.lookup, run_underlying ht, MapKept.run_getObj_map hu, law70.check u es.isEmpty hkey, h1, Result.andThen]
  · obtain ⟨m', hm', hk', _⟩ := ent_of hes h2
    have := List.any_eq_false.1 hn m' (List.mem_of_getElem? hm')
    exact absurd (likeM_key.2 (hk'.symm.trans h3)) this
theorem lookM_some {w : World} {mb j : Nat} {out : List Msg} {m u0 : Msg} (h : MapM w mb out) (h0 : In64 m.to) (h1 : In64 m.tag) (hj : out[j]? = some u0) (hl : likeM m u0 = true) (u : World) (hu : u.heap[mb]? = w.heap[mb]?) :
    (Instr.lookup 69 (.map (some mb)) (keyM m) true).run Try.prog u = .ok (.tuple #[.int .i64 u0.val, .bool true]) u := by
  obtain ⟨es, clock, hb, hst, hes, hin⟩ := h
  rw [hb] at hu
  obtain ⟨kl, hkey⟩ := keyOf_M h0 h1
  obtain ⟨e0, he0, hk0, hv0⟩ := of_ent hes hj
  have ht := Try.underlying69
  rcases law70.find u hkey es.toList (keyed_of hes hin) with ⟨_, h2⟩ | ⟨j', e', h1, h2, h3⟩
  · exact absurd (hk0.trans (likeM_key.1 hl)) (h2 e0 (List.mem_of_getElem? he0))
  · obtain rfl := nodup_at hst.2.2 h2 he0 (h3.trans (hk0.trans (likeM_key.1 hl)).symm)
    rw [he0] at h2; cases h2
    simp [Instr.lookup, run_underlying ht, MapKept.run_getObj_map hu, law70.check u es.isEmpty hkey, h1, Result.andThen, hv0]
theorem grown_block (w : World) (mb : Nat) (o : Obj) : w.grownBy (setBlock w mb o) (some mb) := ⟨rfl, rfl, rfl, by simp [setBlock], fun i _ hi => by simp [setBlock, show mb ≠ i from fun e1 => hi (by rw [e1])]⟩
theorem block_set {w : World} {mb : Nat} {o o' : Obj} (h : w.heap[mb]? = some o) : (setBlock w mb o').heap[mb]? = some o' := by
  have := (Array.getElem?_eq_some_iff.1 h).1
  simp [setBlock, this]
theorem storeM_new {w : World} {mb : Nat} {out : List Msg} {m : Msg} (h : MapM w mb out) (h0 : In64 m.to) (h1 : In64 m.tag) (hn : out.any (likeM m) = false) :
    ∃ w', (Instr.mapUpdate 69 (.map (some mb)) (keyM m) (.int .i64 m.val)).run Try.prog w = .ok () w' ∧ MapM w' mb (out ++ [m]) ∧ w.grownBy w' (some mb) := by
  obtain ⟨es, clock, hb, hst, hes, hin⟩ := h
  obtain ⟨kl, hkey⟩ := keyOf_M h0 h1
  have ht := Try.underlying69
  have hne : ∀ e ∈ es.toList, e.key ≠ keyM m := fun e he hk => by
    obtain ⟨j, hj⟩ := List.mem_iff_getElem?.1 he
    obtain ⟨m', hm', hk', _⟩ := ent_of hes hj
    have := List.any_eq_false.1 hn m' (List.mem_of_getElem? hm')
    exact this (likeM_key.2 (hk'.symm.trans hk))
  rcases law70.find w hkey es.toList (keyed_of hes hin) with ⟨h2, _⟩ | ⟨j, e, h2, h3, h4⟩
  · refine ⟨setBlock w mb (.map (es.push { key := keyM m, val := .int .i64 m.val, born := clock }) (clock + 1)), ?_, ⟨_, _, block_set hb, ?_, ?_, ?_⟩, grown_block _ _ _⟩
    · simp [Instr.mapUpdate, run_underlying ht, MapKept.run_getObj_map hb, law70.check w false hkey, h2, MapKept.run_setObj_map _ hb, Result.andThen, setBlock]
    · refine ⟨fun x hx => ?_, ?_, ?_⟩
      · rw [Array.toList_push, List.mem_append, List.mem_singleton] at hx
        rcases hx with hx | rfl
        · have := hst.1 x hx; omega
        · exact Nat.lt_succ_self _
      · rw [Array.toList_push, List.map_append, List.nodup_append]
        refine ⟨hst.2.1, by simp, fun a ha b hb e => ?_⟩
        simp at hb
        obtain ⟨x, hx, rfl⟩ := List.mem_map.1 ha
        have := hst.1 x hx
        omega
      · rw [Array.toList_push, List.map_append, List.nodup_append]
        refine ⟨hst.2.2, by simp, fun a ha b hb e => ?_⟩
        simp at hb
        obtain ⟨x, hx, rfl⟩ := List.mem_map.1 ha
        exact hne x hx (e.trans hb)
    · rw [Array.toList_push, List.map_append, hes, List.map_append]
      rfl
    · intro u hu
      rcases List.mem_append.1 hu with hu | hu
      · exact hin u hu
      · rw [List.mem_singleton.1 hu]; exact ⟨h0, h1⟩
  · exact absurd h4 (hne e (List.mem_of_getElem? h3))
theorem storeM_old {w : World} {mb j : Nat} {out : List Msg} {m u0 : Msg} (os : List Nat) (h : MapM w mb out) (h0 : In64 m.to) (h1 : In64 m.tag) (hj : out[j]? = some u0) (hl : likeM m u0 = true) :
    ∃ w', (Instr.mapUpdate 69 (.map (some mb)) (keyM m) (.int .i64 (opTwo (os.getD m.tag.toNat 0) u0.val m.val))).run Try.prog w = .ok () w' ∧ MapM w' mb (out.map (updM os m)) ∧ w.grownBy w' (some mb) := by
  obtain ⟨es, clock, hb, hst, hes, hin⟩ := h
  obtain ⟨kl, hkey⟩ := keyOf_M h0 h1
  obtain ⟨e0, he0, hk0, hv0⟩ := of_ent hes hj
  have ht := Try.underlying69
  obtain ⟨z, hz⟩ : ∃ z, opTwo (os.getD m.tag.toNat 0) u0.val m.val = z := ⟨_, rfl⟩
  have hup : updM os m u0 = ⟨u0.to, u0.tag, z⟩ := by unfold updM; rw [if_pos hl, hz]
  rw [hz]
  rcases law70.find w hkey es.toList (keyed_of hes hin) with ⟨_, h2⟩ | ⟨j', e', h2, h3, h4⟩
  · exact absurd (hk0.trans (likeM_key.1 hl)) (h2 e0 (List.mem_of_getElem? he0))
  · obtain rfl := nodup_at hst.2.2 h3 he0 (h4.trans (hk0.trans (likeM_key.1 hl)).symm)
    rw [he0] at h3; cases h3
    have hj' : es[j']? = some e0 := by rw [← Array.getElem?_toList]; exact he0
    have htl : (es.modify j' (fun e => { key := keyM m, val := .int .i64 z, born := e.born })).toList = es.toList.set j' { key := keyM m, val := .int .i64 z, born := e0.born } := by rw [Array.toList_modify, ChangeMaps.modify_eq_set _ _ _ _ he0]
    have hjl := (List.getElem?_eq_some_iff.1 he0).1
    have hkk : e0.key = keyM m := hk0.trans (likeM_key.1 hl)
    refine ⟨setBlock w mb (.map (es.modify j' (fun e => { key := keyM m, val := .int .i64 z, born := e.born })) clock), ?_, ⟨_, _, block_set hb, ?_, ?_, ?_⟩, grown_block _ _ _⟩
    · simp [Instr.mapUpdate, run_underlying ht, MapKept.run_getObj_map hb, law70.check w false hkey, h2, hj', hkk, law70.stays w hkey, MapKept.run_setObj_map _ hb, Result.andThen, setBlock]
    · have hself : ∀ {β : Type} (f : MapEntry → β) (y : MapEntry), f y = f e0 → (es.toList.set j' y).map f = es.toList.map f := fun f y hf => by
        rw [List.map_set, hf]
        refine List.ext_getElem? fun q => ?_
        rw [List.getElem?_set]
        split
        · rename_i e; subst e
          rw [if_pos (by simpa using hjl), List.getElem?_map, he0]; rfl
        · rfl
      refine ⟨fun x hx => ?_, ?_, ?_⟩
      · rw [htl] at hx
        rcases List.mem_or_eq_of_mem_set hx with hx | rfl
        · exact hst.1 x hx
        · exact hst.1 e0 (List.mem_of_getElem? he0)
      · rw [htl, hself (·.born) { key := keyM m, val := .int .i64 z, born := e0.born } rfl]; exact hst.2.1
      · rw [htl, hself (·.key) { key := keyM m, val := .int .i64 z, born := e0.born } hkk.symm]; exact hst.2.2
    · rw [htl, List.map_set, hes]
      refine List.ext_getElem? fun q => ?_
      rw [List.getElem?_set, List.getElem?_map, List.getElem?_map]
      split
      · rename_i e; subst e
        rw [List.getElem?_map, hj, if_pos (by have := (List.getElem?_eq_some_iff.1 hj).1; simpa using this)]
        simp only [Option.map_some]
        rw [hup]
        have hk9 : keyM m = keyM ⟨u0.to, u0.tag, z⟩ := (likeM_key.1 hl).symm
        rw [hk9]
      · rename_i hqj
        cases hq : out[q]? with
        | none => rw [List.getElem?_map, hq]; rfl
        | some u1 =>
          have hnl : likeM m u1 = false := by
            rw [← Bool.not_eq_true]
            intro hl1
            obtain ⟨e1, he1, hk1, _⟩ := of_ent hes hq
            exact hqj (nodup_at hst.2.2 he0 he1 (hkk.trans (hk1.trans (likeM_key.1 hl1)).symm))
          rw [List.getElem?_map, hq]
          simp [updM, hnl]
    · intro u hu
      obtain ⟨u', hu', rfl⟩ := List.mem_map.1 hu
      have := hin u' hu'
      unfold updM
      split
      · exact this
      · exact this
theorem MapM.grown {w w' : World} {mb : Nat} {out : List Msg} {row : Option Nat} (h : MapM w mb out) (hg : w.grownBy w' row) (hr : row ≠ some mb) : MapM w' mb out := by
  obtain ⟨es, clock, hb, hst, hes, hin⟩ := h
  exact ⟨es, clock, (hg.block mb (Array.getElem?_eq_some_iff.1 hb).1 (Ne.symm hr)).trans hb, hst, hes, hin⟩
theorem MapM.below {w w' : World} {mb B : Nat} {out : List Msg} (h : MapM w mb out) (hg : Below B w w') (hr : w.heap.size ≤ B) : MapM w' mb out := by
  obtain ⟨es, clock, hb, hst, hes, hin⟩ := h
  exact ⟨es, clock, (hg.block mb (Nat.lt_of_lt_of_le (Array.getElem?_eq_some_iff.1 hb).1 hr)).trans hb, hst, hes, hin⟩
theorem MapM.lt {w : World} {mb : Nat} {out : List Msg} (h : MapM w mb out) : mb < w.heap.size := by
  obtain ⟨es, clock, hb, _⟩ := h
  exact (Array.getElem?_eq_some_iff.1 hb).1
theorem mapM_made (w : World) : MapM (w.alloc (.map #[] 0)) w.heap.size [] := ⟨#[], 0, (MapKept.heap_alloc w _).1, stamped_empty 0, rfl, by simp⟩
end Go.Proofs.Ytdfieflcclbgjaa
