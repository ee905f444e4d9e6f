/-
  A map from edges to the places of edges: an entry looked up, appended to, and stored.
-/
import Derived.Test.YtbjoljokdjgbnacCheck
import Derived.WideKeyEntry
import Derived.DeepKeys4
import Derived.Maps.OwnRows
namespace Go.Proofs.Ytbjoljokdjgbnac
open Go.RowKit Go.MapKept
open Go.ChangeMaps (setBlock heap_setBlock_same heap_setBlock_other)
theorem laidOutB69 : laidOutB Try.prog = true := by kernel_rfl
theorem law69 : WideMaps.KeyLaw Try.prog 69 := deep_law_laid laidOutB69 (m := 2) (by decide) (of_decide_eq_true (by kernel_rfl)) (by kernel_rfl) (by kernel_rfl)
abbrev Wf (a : Int) : Prop := (Lit.int .i64 a).wf = true
def edge (p q : Int) : Value := .agg #[.int .i64 p, .int .i64 q]
theorem edge_inj {p q p' q' : Int} (h : edge p q = edge p' q') : p = p' ∧ q = q' := by simpa [edge] using h
theorem keyOf_edge {p q : Int} (hp : Wf p) (hq : Wf q) : ∃ kl, keyOf Try.prog 69 (edge p q) = some kl := by
  have hu := Try.underlying69
  have hk : Try.prog.keyType 69 = true := by kernel_rfl
  obtain ⟨m, hm⟩ : ∃ m, Try.prog.types.size + 1 = m + 2 := ⟨Try.prog.types.size - 1, by have : 1 ≤ Try.prog.types.size := (by kernel_rfl : decide (1 ≤ Try.prog.types.size) = true) |> of_decide_eq_true; omega⟩
  have hc3 : Try.prog.cellsOf 3 = 1 := by kernel_rfl
  have hc55 : Try.prog.cellsOf 69 = 2 := by kernel_rfl
  unfold keyOf edge
  simp only [hu]
  rw [if_pos (by simp [hk, Value.formed, hu, hc55]), hm]
  unfold Program.keyLits
  simp only [hu, Value.cells]
  rw [if_pos (by simp [hc55])]
  simp [hc3, Program.keyLits, Try.underlying3, hp, hq]
/-- The map at b: at each edge the places f. -/
def MapAt (w : World) (b base : Nat) (f : Int → Int → List Int) : Prop :=
  ∃ es clock, w.heap[b]? = some (.map es clock) ∧ Stamped es clock ∧
    (∀ x ∈ es.toList, ∃ p q, Wf p ∧ Wf q ∧ x.key = edge p q ∧ w.ownsInts base 3 .i64 x.val (f p q)) ∧
    (∀ p q, (∀ x ∈ es.toList, x.key ≠ edge p q) → f p q = []) ∧
    (∀ x ∈ es.toList, ∀ y ∈ es.toList, x.key ≠ y.key → x.val.ownBlock = none ∨ x.val.ownBlock ≠ y.val.ownBlock) ∧ b < base
def upd (f : Int → Int → List Int) (p q : Int) (zs : List Int) : Int → Int → List Int := fun p' q' => if p' = p ∧ q' = q then zs else f p' q'
theorem mapAt_made (w : World) (base : Nat) (h : w.heap.size < base) : MapAt (w.alloc (.map #[] 0)) w.heap.size base (fun _ _ => []) :=
  ⟨#[], 0, (MapKept.heap_alloc w _).1, stamped_empty 0, by simp, by simp, by simp, h⟩
theorem nodup_at {l : List MapEntry} (h : (l.map (·.key)).Nodup) {i j : Nat} {x y : MapEntry} (hi : l[i]? = some x) (hj : l[j]? = some y) (e : x.key = y.key) : i = j := by
  have hi' : (l.map (·.key))[i]? = some x.key := by simp [hi]
  have hj' : (l.map (·.key))[j]? = some y.key := by simp [hj]
  have li : i < (l.map (·.key)).length := (List.getElem?_eq_some_iff.1 hi').1
  have lj : j < (l.map (·.key)).length := (List.getElem?_eq_some_iff.1 hj').1
  have hne := List.pairwise_iff_getElem.1 h
  have a1 := (List.getElem?_eq_some_iff.1 hi').2
  have a2 := (List.getElem?_eq_some_iff.1 hj').2
  rcases Nat.lt_trichotomy i j with h1 | h1 | h1
  · exact absurd (a1.trans (e.trans a2.symm)) (hne i j li lj h1)
  · exact h1
  · exact absurd (a2.trans (e.symm.trans a1.symm)) (hne j i lj li h1)
theorem mem_modify {l : List MapEntry} {j : Nat} {e0 : MapEntry} {v' : Value} (hj : l[j]? = some e0) {x : MapEntry} (hx : x ∈ l.modify j (fun e => { e with val := v' })) :
    (x = { e0 with val := v' }) ∨ (∃ i, i ≠ j ∧ l[i]? = some x) := by
  obtain ⟨i, hi⟩ := List.getElem?_of_mem hx
  rw [List.getElem?_modify] at hi
  by_cases e : j = i
  · subst e; rw [hj] at hi; simp at hi; exact .inl hi.symm
  · simp [e] at hi; exact .inr ⟨i, fun h => e h.symm, hi⟩
theorem set_set {w : World} {b : Nat} (o o' : Obj) : setBlock (setBlock w b o) b o' = setBlock w b o' := by simp [setBlock]
theorem ownsInts_of {w w' : World} {base : Nat} {v : Value} {zs : List Int} (h : w.ownsInts base 3 .i64 v zs) (hk : ∀ g, v.ownBlock = some g → w'.heap[g]? = w.heap[g]?) : w'.ownsInts base 3 .i64 v zs := by
  refine ⟨⟨h.1.1, ?_⟩, h.2⟩
  rcases h.1.2 with h0 | ⟨g, cap, cur, rfl, hb, hg, h1, h2, h3, h4⟩
  · exact .inl h0
  · exact .inr ⟨g, cap, cur, rfl, hb, (hk g rfl).trans hg, h1, h2, h3, h4⟩
theorem mapAt_of {w w3 : World} {b base clock' : Nat} {f : Int → Int → List Int} {es es' : Array MapEntry} {p q : Int} {v v' : Value} {zs' : List Int} {m1 : Obj}
    (hp : Wf p) (hq : Wf q) (hst : Stamped es' clock') (hent : ∀ x ∈ es.toList, ∃ p q, Wf p ∧ Wf q ∧ x.key = edge p q ∧ w.ownsInts base 3 .i64 x.val (f p q))
    (hno : ∀ p q, (∀ x ∈ es.toList, x.key ≠ edge p q) → f p q = [])
    (hap : ∀ x ∈ es.toList, ∀ y ∈ es.toList, x.key ≠ y.key → x.val.ownBlock = none ∨ x.val.ownBlock ≠ y.val.ownBlock) (hbb : b < base)
    (hw3 : w3.heap[b]? = some m1) (hk3 : ∀ k, k < w.heap.size → k ≠ b → some k ≠ v.ownBlock → w3.heap[k]? = w.heap[k]?) (ho' : w3.ownsInts base 3 .i64 v' zs') (hloc : v'.ownBlock = v.ownBlock ∨ ∃ g, v'.ownBlock = some g ∧ w.heap.size ≤ g)
    (hv : ∀ x ∈ es.toList, x.key ≠ edge p q → x.val.ownBlock = none ∨ x.val.ownBlock ≠ v.ownBlock)
    (h1 : ∀ x ∈ es'.toList, (x.key = edge p q ∧ x.val = v') ∨ (x ∈ es.toList ∧ x.key ≠ edge p q)) (h2 : ∃ x ∈ es'.toList, x.key = edge p q) (h3 : ∀ x ∈ es.toList, x.key ≠ edge p q → x ∈ es'.toList) :
    MapAt (setBlock w3 b (.map es' clock')) b base (upd f p q zs') := by
  have hbl : b < w3.heap.size := (Array.getElem?_eq_some_iff.1 hw3).1
  have hsb : ∀ (o : Obj), (setBlock w3 b o).heap[b]? = some o := fun o => by simp [setBlock, hbl]
  have hso : ∀ (o : Obj) (k : Nat), k ≠ b → (setBlock w3 b o).heap[k]? = w3.heap[k]? := fun o k hk => by simp [setBlock, Ne.symm hk]
  refine ⟨es', clock', hsb _, hst, fun x hx => ?_, fun p' q' hn => ?_, fun x hx y hy hne => ?_, hbb⟩
  · rcases h1 x hx with ⟨hk, hxv⟩ | ⟨hm, hk⟩
    · refine ⟨p, q, hp, hq, hk, ?_⟩
      rw [show upd f p q zs' p q = zs' by simp [upd], hxv]
      exact ownsInts_of ho' fun g hg => hso _ g (by have := (ho'.1.lt g hg).1; omega)
    · obtain ⟨p', q', wp, wq, ek, ho⟩ := hent x hm
      refine ⟨p', q', wp, wq, ek, ?_⟩
      have hu : upd f p q zs' p' q' = f p' q' := by
        unfold upd
        rw [if_neg]
        rintro ⟨rfl, rfl⟩
        exact hk ek
      rw [hu]
      refine ownsInts_of ho fun g hg => ?_
      have hl := ho.1.lt g hg
      have hgb : g ≠ b := by have := hl.1; omega
      rw [hso _ g hgb]
      refine hk3 g hl.2 hgb fun e => ?_
      rcases hv x hm hk with h0 | h0
      · rw [h0] at hg; cases hg
      · exact h0 (hg.trans e)
  · obtain ⟨x0, hx0, hk0⟩ := h2
    have hpq : ¬ (p' = p ∧ q' = q) := by
      rintro ⟨rfl, rfl⟩
      exact hn x0 hx0 hk0
    unfold upd
    rw [if_neg hpq]
    refine hno p' q' fun x hx e => ?_
    by_cases hk : x.key = edge p q
    · obtain ⟨e1, e2⟩ := edge_inj (hk.symm.trans e)
      exact hpq ⟨e1.symm, e2.symm⟩
    · exact hn x (h3 x hx hk) e
  · rcases h1 x hx with ⟨hk, hxv⟩ | ⟨hm, hk⟩
    · rcases h1 y hy with ⟨hk', hyv⟩ | ⟨hm', hk'⟩
      · exact absurd (hk.trans hk'.symm) hne
      · rw [hxv]
        rcases hloc with hl | ⟨g, hg, hge⟩
        · rcases hv y hm' hk' with h0 | h0
          · rcases hlv : v'.ownBlock with _ | g
            · exact .inl rfl
            · right; rw [h0]; intro e; cases e
          · right; rw [hl]; exact fun e => h0 e.symm
        · right
          rw [hg]
          intro e
          obtain ⟨p', q', _, _, _, ho⟩ := hent y hm'
          have := (ho.1.lt g e.symm).2
          omega
    · rcases h1 y hy with ⟨hk', hyv⟩ | ⟨hm', hk'⟩
      · rw [hyv]
        rcases hv x hm hk with h0 | h0
        · exact .inl h0
        · right
          rcases hloc with hl | ⟨g, hg, hge⟩
          · rw [hl]; exact h0
          · rw [hg]
            intro e
            obtain ⟨p', q', _, _, _, ho⟩ := hent x hm
            have := (ho.1.lt g e).2
            omega
      · exact hap x hm y hm' hne
/-- AN ENTRY, LOOKED UP AND STORED. -/
theorem mapAt_step {w : World} {b base : Nat} {f : Int → Int → List Int} (h : MapAt w b base f) {p q : Int} (hp : Wf p) (hq : Wf q) :
    ∃ (v : Value) (st : Nat) (m1 : Obj), m1.isCells = false ∧ (∀ u : World, u.heap[b]? = w.heap[b]? → (Instr.mapEntry 101 (.map (some b)) (edge p q)).run Try.prog u = .ok (.tuple #[v, goInt st]) (setBlock u b m1)) ∧ w.ownsInts base 3 .i64 v (f p q) ∧
      ∀ (w3 : World) (v' : Value) (zs' : List Int), w3.heap[b]? = some m1 → (∀ k, k < w.heap.size → k ≠ b → some k ≠ v.ownBlock → w3.heap[k]? = w.heap[k]?) → w3.ownsInts base 3 .i64 v' zs' → (v'.ownBlock = v.ownBlock ∨ ∃ g, v'.ownBlock = some g ∧ w.heap.size ≤ g) →
        ∃ m2 : Obj, m2.isCells = false ∧ (Instr.entryStore 101 (.map (some b)) (goInt st) v').run Try.prog w3 = .ok () (setBlock w3 b m2) ∧ MapAt (setBlock w3 b m2) b base (upd f p q zs') := by
  obtain ⟨es, clock, hb, hst, hent, hno, hap, hbb⟩ := h
  obtain ⟨kl, hkey⟩ := keyOf_edge hp hq
  have hkeys : ∀ e ∈ es.toList, ∃ l, keyOf Try.prog 69 e.key = some l := fun e he => by
    obtain ⟨p', q', wp, wq, ek, _⟩ := hent e he
    rw [ek]; exact keyOf_edge wp wq
  have ht := Try.underlying101
  have hbl : b < w.heap.size := (Array.getElem?_eq_some_iff.1 hb).1
  have hown : ∀ {x : MapEntry}, x ∈ es.toList → ∀ {g}, x.val.ownBlock = some g → g < w.heap.size ∧ base ≤ g := fun {x} hx {g} hg => by
    obtain ⟨p', q', _, _, _, ho⟩ := hent x hx
    exact ⟨(ho.1.lt g hg).2, (ho.1.lt g hg).1⟩
  by_cases hex : ∃ (j : Nat) (e0 : MapEntry), es.toList[j]? = some e0 ∧ e0.key = edge p q
  · obtain ⟨j, e0, hj, he0⟩ := hex
    have hm0 : e0 ∈ es.toList := List.mem_of_getElem? hj
    obtain ⟨p0, q0, wp0, wq0, ek0, ho0⟩ := hent e0 hm0
    obtain ⟨rfl, rfl⟩ := edge_inj (ek0.symm.trans he0)
    have hsame : es.modify j (fun e => { e with key := edge p0 q0 }) = es := by
      apply Array.ext'
      rw [Array.toList_modify, ChangeMaps.modify_eq_set _ _ _ _ hj]
      have : ({ e0 with key := edge p0 q0 } : MapEntry) = e0 := by rw [← he0]
      rw [this]; exact WideElems.set_self _ _ _ hj
    refine ⟨e0.val, e0.born, .map es clock, rfl, fun u hu => ?_, ho0, fun w3 v' zs' hw3 hk3 ho' hloc => ⟨.map (es.modify j (fun e => { e with val := v' })) clock, rfl, ?_, ?_⟩⟩
    · rw [hb] at hu
      rcases law69.find u hkey es.toList hkeys with ⟨_, h2⟩ | ⟨j', e', h1, h2, h3⟩
      · exact absurd he0 (h2 e0 hm0)
      · obtain rfl := nodup_at hst.2.2 h2 hj (h3.trans he0.symm)
        rw [hj] at h2; cases h2
        have hj' : es[j']? = some e0 := by simpa using hj
        simp [Instr.mapEntry, run_underlying ht, MapKept.run_getObj_map hu, law69.check u false hkey, h1, hj', he0, law69.stays u hkey, hsame, MapKept.run_setObj_map _ hu, Result.andThen, setBlock]
    · have hidx : es.findIdx? (fun e => ((e.born : Nat) : Int) == ((e0.born : Nat) : Int)) = some j := by
        rw [WideElems.findIdx_arr]; exact WideElems.findIdx_born hst.2.1 hj
      simp [Instr.entryStore, MapKept.run_getObj_map hw3, asInt, asIntOf, goInt, hidx, MapKept.run_setObj_map _ hw3, Result.andThen, setBlock]
    · have htl : (es.modify j (fun e => { e with val := v' })).toList = es.toList.modify j (fun e => { e with val := v' }) := Array.toList_modify
      have hset : es.toList.modify j (fun e => { e with val := v' }) = es.toList.set j { e0 with val := v' } := ChangeMaps.modify_eq_set _ _ _ _ hj
      have hjl : j < es.toList.length := (List.getElem?_eq_some_iff.1 hj).1
      have hb1 : (es.toList.set j { e0 with val := v' }).map (·.born) = es.toList.map (·.born) := by
        rw [List.map_set]; exact WideElems.set_self _ _ _ (by simp [hj])
      have hb2 : (es.toList.set j { e0 with val := v' }).map (·.key) = es.toList.map (·.key) := by
        rw [List.map_set]; exact WideElems.set_self _ _ _ (by simp [hj])
      refine mapAt_of (w := w) (es := es) (v := e0.val) wp0 wq0 ⟨fun x hx => ?_, ?_, ?_⟩ hent hno hap hbb hw3 hk3 ho' hloc (fun x hx hne => hap x hx e0 hm0 (by rw [he0]; exact hne)) (fun x hx => ?_) ?_ (fun x hx hne => ?_)
      · rw [htl] at hx
        rcases mem_modify hj hx with rfl | ⟨i, _, hi⟩
        · exact hst.1 e0 hm0
        · exact hst.1 x (List.mem_of_getElem? hi)
      · rw [htl, hset, hb1]; exact hst.2.1
      · rw [htl, hset, hb2]; exact hst.2.2
      · rw [htl] at hx
        rcases mem_modify hj hx with rfl | ⟨i, hij, hi⟩
        · exact .inl ⟨he0, rfl⟩
        · exact .inr ⟨List.mem_of_getElem? hi, fun e => hij (nodup_at hst.2.2 hi hj (e.trans he0.symm))⟩
      · refine ⟨{ e0 with val := v' }, ?_, he0⟩
        rw [htl, hset]
        exact List.mem_of_getElem? (i := j) (List.getElem?_set_self hjl)
      · rw [htl, hset]
        obtain ⟨i, hi⟩ := List.getElem?_of_mem hx
        refine List.mem_of_getElem? (i := i) ?_
        rw [List.getElem?_set_ne, hi]
        rintro rfl
        rw [hj] at hi; cases hi
        exact hne he0
  · have hall : ∀ x ∈ es.toList, x.key ≠ edge p q := fun x hx e => by
      obtain ⟨j, hj⟩ := List.getElem?_of_mem hx
      exact hex ⟨j, x, hj, e⟩
    refine ⟨.slice none 0 0, clock, .map (es.push ⟨edge p q, .slice none 0 0, clock⟩) (clock + 1), rfl, fun u hu => ?_, by rw [hno p q hall]; exact World.ownsInts_nil _ _ _ _, fun w3 v' zs' hw3 hk3 ho' hloc => ⟨.map (es.push ⟨edge p q, v', clock⟩) (clock + 1), rfl, ?_, ?_⟩⟩
    · rw [hb] at hu
      rcases law69.find u hkey es.toList hkeys with ⟨h1, _⟩ | ⟨j', e', h1, h2, h3⟩
      · simp [Instr.mapEntry, run_underlying ht, MapKept.run_getObj_map hu, law69.check u false hkey, h1, MapKept.run_setObj_map _ hu, Result.andThen, setBlock]
      · exact absurd h3 (hall e' (List.mem_of_getElem? h2))
    · have hidx : (es.push ⟨edge p q, .slice none 0 0, clock⟩).findIdx? (fun e => ((e.born : Nat) : Int) == ((clock : Nat) : Int)) = some es.size := by
        rw [WideElems.findIdx_arr]
        exact WideElems.findIdx_born (l := (es.push ⟨edge p q, .slice none 0 0, clock⟩).toList) (j := es.size) (e0 := ⟨edge p q, .slice none 0 0, clock⟩) (by
          simp only [Array.toList_push, List.map_append, List.map_cons, List.map_nil]
          refine List.nodup_append.2 ⟨hst.2.1, by simp, fun a ha c hc e1 => ?_⟩
          simp only [List.mem_singleton] at hc
          obtain ⟨x, hx, rfl⟩ := List.mem_map.1 ha
          have := hst.1 x hx
          omega) (by simp)
      have hmod : (es.push ⟨edge p q, .slice none 0 0, clock⟩).modify es.size (fun e => { e with val := v' }) = es.push ⟨edge p q, v', clock⟩ := by
        apply Array.ext'
        rw [Array.toList_modify, Array.toList_push, Array.toList_push, ← Array.length_toList, WideElems.modify_last]
      simp [Instr.entryStore, MapKept.run_getObj_map hw3, asInt, asIntOf, goInt, hidx, hmod, MapKept.run_setObj_map _ hw3, Result.andThen, setBlock]
    · refine mapAt_of (w := w) (es := es) (v := .slice none 0 0) hp hq ⟨fun x hx => ?_, ?_, ?_⟩ hent hno hap hbb hw3 hk3 ho' hloc (fun x hx hne => ?_) (fun x hx => ?_) ⟨⟨edge p q, v', clock⟩, by simp, rfl⟩ (fun x hx hne => by simp [hx])
      · simp only [Array.toList_push, List.mem_append, List.mem_singleton] at hx
        rcases hx with hx | rfl
        · have := hst.1 x hx; omega
        · exact Nat.lt_succ_self _
      · simp only [Array.toList_push, List.map_append, List.map_cons, List.map_nil]
        refine List.nodup_append.2 ⟨hst.2.1, by simp, fun a ha c hc e1 => ?_⟩
        simp only [List.mem_singleton] at hc
        obtain ⟨x, hx, rfl⟩ := List.mem_map.1 ha
        have := hst.1 x hx
        omega
      · simp only [Array.toList_push, List.map_append, List.map_cons, List.map_nil]
        refine List.nodup_append.2 ⟨hst.2.2, by simp, fun a ha c hc e1 => ?_⟩
        simp only [List.mem_singleton] at hc
        obtain ⟨x, hx, rfl⟩ := List.mem_map.1 ha
        exact hall x hx (e1.trans hc)
      · cases hxo : x.val.ownBlock with
        | none => exact .inl rfl
        | some g => right; simp [Value.ownBlock]
      · simp only [Array.toList_push, List.mem_append, List.mem_singleton] at hx
        rcases hx with hx | rfl
        · exact .inr ⟨hx, hall x hx⟩
        · exact .inl ⟨rfl, rfl⟩
end Go.Proofs.Ytbjoljokdjgbnac
