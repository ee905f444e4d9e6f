/-
  Part 3 of the proof: MapG, POpW, PDecl.
-/
import Derived.Test.YtmekkhfohmfjkaaGreatDoorTm02
import Derived.Maps.Own
import Derived.WideKeyEntry
import Derived.DeepKeys4
import Derived.StringKeys
import Derived.Deep.WholeRow
namespace Go.Proofs.YtmekkhfohmfjkaaGreatDoor
open Go.RowKit Go.MapKept Go.WideMaps Go.WideShapes
open Go.ChangeMaps (setBlock heap_setBlock_same heap_setBlock_other)
theorem nodup_at {l : List MapEntry} (h : (l.map (·.key)).Nodup) {i j : Nat} {x y : MapEntry} (hi : l[i]? = some x) (hj : l[j]? = some y) (e : x.key = y.key) : i = j := by
 have hi' : (l.map (·.key))[i]? = some x.key := by simp [hi]
 have hj' : (l.map (·.key))[j]? = some y.key := by simp [hj]
 have li : i < (l.map (·.key)).length := (List.getElem?_eq_some_iff.1 hi').1
 have lj : j < (l.map (·.key)).length := (List.getElem?_eq_some_iff.1 hj').1
 have hne := List.pairwise_iff_getElem.1 h
 have a1 := (List.getElem?_eq_some_iff.1 hi').2
 have a2 := (List.getElem?_eq_some_iff.1 hj').2
 rcases Nat.lt_trichotomy i j with h1 | h1 | h1
 ·exact absurd (a1.trans (e.trans a2.symm)) (hne i j li lj h1)
 ·exact h1
 ·exact absurd (a2.trans (e.symm.trans a1.symm)) (hne j i lj li h1)
abbrev Fn := ByteArray → Option Value
def upd (f : Fn) (s : ByteArray) (d : Value) : Fn := fun t => if t = s then some d else f t
def Says (es : Array MapEntry) (clock : Nat) (f : Fn) : Prop :=
 Stamped es clock ∧ (∀ x ∈ es.toList, ∃ s d, s.size ≤ maxLen ∧ x.key = .string s ∧ f s = some d ∧ x.val = d) ∧ (∀ s d, f s = some d → ∃ x ∈ es.toList, x.key = .string s)
def MapG (w : World) (mb : Nat) (f : Fn) : Prop := ∃ es clock, w.heap[mb]? = some (.map es clock) ∧ Says es clock f
theorem MapG.same {w w' : World} {mb : Nat} {f : Fn} (h : MapG w mb f) (e : w'.heap[mb]? = w.heap[mb]?) : MapG w' mb f := by
 obtain ⟨es, clock, hb, hs⟩ := h
 exact ⟨es, clock, e.trans hb, hs⟩
theorem MapG.lt {w : World} {mb : Nat} {f : Fn} (h : MapG w mb f) : mb < w.heap.size := by
 obtain ⟨es, clock, hb, _⟩ := h
 exact (Array.getElem?_eq_some_iff.1 hb).1
theorem mapG_made (w : World) : MapG (w.alloc (.map #[] 0)) w.heap.size (fun _ => none) :=
 ⟨#[], 0, (MapKept.heap_alloc w _).1, stamped_empty 0, by simp, by simp⟩
theorem Says.keyed {P : Program} {tk : TypeId} (h9 : P.underlying tk = some .string) {es : Array MapEntry} {clock : Nat} {f : Fn} (h : Says es clock f) : ∀ e ∈ es.toList, ∃ l, keyOf P tk e.key = some l := by
 intro e he
 obtain ⟨s, d, hs, hk, _⟩ := h.2.1 e he
 exact ⟨_, hk ▸ keyOf_string_mk h9 hs⟩
theorem look {P : Program} {tm tk ev : TypeId} (ht : P.underlying tm = some (.map tk ev)) (h9 : P.underlying tk = some .string) {z : Value} (hz : ∀ u : World, (zeroValue ev).run P u = .ok z u) {w : World} {mb : Nat} {f : Fn} (h : MapG w mb f) {s : ByteArray} (hs : s.size ≤ maxLen) (c : Bool) :
  (Instr.lookup tm (.map (some mb)) (.string s) c).run P w = .ok (if c = true then .tuple #[(f s).getD z, .bool (f s).isSome] else (f s).getD z) w := by
 obtain ⟨es, clock, hb, hS⟩ := h
 have hkey := keyOf_string_mk h9 hs
 rcases (string_law h9).find w hkey es.toList (hS.keyed h9) with ⟨h1, h2⟩ | ⟨j, e, h1, h2, h3⟩
 ·have hn : f s = none := by
   cases hf : f s with
   | none => rfl
   | some d =>
    obtain ⟨x, hx, hk⟩ := hS.2.2 s d hf
    exact absurd hk (h2 x hx)
  rw [hn]
  simp [Instr.lookup, run_underlying ht, MapKept.run_getObj_map hb, (string_law h9).check w es.isEmpty hkey, h1, hz, Result.andThen]
 ·obtain ⟨s', d, _, hk, hf, hv⟩ := hS.2.1 e (List.mem_of_getElem? h2)
  obtain rfl : s = s' := by rw [hk] at h3; simpa using h3.symm
  rw [hf]
  simp [Instr.lookup, run_underlying ht, MapKept.run_getObj_map hb, (string_law h9).check w es.isEmpty hkey, h1, Result.andThen, hv]
theorem zdB {es : Array MapEntry} {clock j : Nat} {e0 : MapEntry} {v : Value} (h : Stamped es clock) (hj : es.toList[j]? = some e0) : Stamped (es.modify j fun e => { key := e0.key, val := v, born := e.born }) clock := by
 have hm : (es.modify j fun e => { key := e0.key, val := v, born := e.born }).toList = es.toList.set j { key := e0.key, val := v, born := e0.born } := by
  rw [Array.toList_modify, ChangeMaps.modify_eq_set _ _ _ _ hj]
 have hlt := (List.getElem?_eq_some_iff.1 hj).1
 have heq := (List.getElem?_eq_some_iff.1 hj).2
 refine ⟨fun x hx => ?_, ?_, ?_⟩
 ·rw [hm] at hx
  rcases List.mem_or_eq_of_mem_set hx with hx | rfl
  ·exact h.1 x hx
  ·exact h.1 e0 (List.mem_of_getElem? hj)
 ·rw [hm, List.map_set]
  have : (es.toList.map (·.born)).set j e0.born = es.toList.map (·.born) := by
   apply List.ext_getElem?
   intro i
   rw [List.getElem?_set]
   split
   ·rename_i hi; subst hi; simp [hj]; simpa using hlt
   ·rfl
  simp only [this]; exact h.2.1
 ·rw [hm, List.map_set]
  have : (es.toList.map (·.key)).set j e0.key = es.toList.map (·.key) := by
   apply List.ext_getElem?
   intro i
   rw [List.getElem?_set]
   split
   ·rename_i hi; subst hi; simp [hj]; simpa using hlt
   ·rfl
  simp only [this]; exact h.2.2
theorem stamped_push {es : Array MapEntry} {clock : Nat} {k v : Value} (h : Stamped es clock) (hne : ∀ e ∈ es.toList, e.key ≠ k) : Stamped (es.push { key := k, val := v, born := clock }) (clock + 1) := by
 refine ⟨fun x hx => ?_, ?_, ?_⟩
 ·rw [Array.toList_push, List.mem_append, List.mem_singleton] at hx
  rcases hx with hx | rfl
  ·have := h.1 x hx; omega
  ·simp
 ·rw [Array.toList_push, List.map_append, List.nodup_append]
  refine ⟨h.2.1, by simp, fun a ha b hb => ?_⟩
  obtain ⟨x, hx, rfl⟩ := List.mem_map.1 ha
  obtain rfl : b = clock := by simpa using hb
  have := h.1 x hx
  omega
 ·rw [Array.toList_push, List.map_append, List.nodup_append]
  refine ⟨h.2.2, by simp, fun a ha b hb => ?_⟩
  obtain ⟨x, hx, rfl⟩ := List.mem_map.1 ha
  obtain rfl : b = k := by simpa using hb
  exact hne x hx
theorem zdK {P : Program} {tm tk ev : TypeId} (ht : P.underlying tm = some (.map tk ev)) (h9 : P.underlying tk = some .string) {u : World} {mb clock j : Nat} {es : Array MapEntry} {e0 : MapEntry} {f : Fn} {s : ByteArray} (v : Value) (hb : u.heap[mb]? = some (.map es clock)) (hS : Says es clock f) (hs : s.size ≤ maxLen) (hj : es.toList[j]? = some e0) (he : e0.key = .string s) :
  (Instr.mapUpdate tm (.map (some mb)) (.string s) v).run P u = .ok () (setBlock u mb (.map (es.modify j fun e => { key := e0.key, val := v, born := e.born }) clock)) := by
 have hkey := keyOf_string_mk h9 hs
 rcases (string_law h9).find u hkey es.toList (hS.keyed h9) with ⟨_, h2⟩ | ⟨j', e', h1, h2, h3⟩
 ·exact absurd he (h2 e0 (List.mem_of_getElem? hj))
 ·obtain rfl := nodup_at hS.1.2.2 h2 hj (h3.trans he.symm)
  have hj' : es[j']? = some e0 := by rw [← Array.getElem?_toList]; exact hj
  simp [Instr.mapUpdate, run_underlying ht, MapKept.run_getObj_map hb, (string_law h9).check u false hkey, h1, hj', he, (string_law h9).stays u hkey, MapKept.run_setObj_map _ hb, Result.andThen, setBlock]
theorem store_new {P : Program} {tm tk ev : TypeId} (ht : P.underlying tm = some (.map tk ev)) (h9 : P.underlying tk = some .string) {u : World} {mb clock : Nat} {es : Array MapEntry} {f : Fn} {s : ByteArray} (v : Value) (hb : u.heap[mb]? = some (.map es clock)) (hS : Says es clock f) (hs : s.size ≤ maxLen) (hne : ∀ e ∈ es.toList, e.key ≠ .string s) :
  (Instr.mapUpdate tm (.map (some mb)) (.string s) v).run P u = .ok () (setBlock u mb (.map (es.push { key := .string s, val := v, born := clock }) (clock + 1))) := by
 have hkey := keyOf_string_mk h9 hs
 rcases (string_law h9).find u hkey es.toList (hS.keyed h9) with ⟨h1, _⟩ | ⟨j, e, h1, h2, h3⟩
 ·simp [Instr.mapUpdate, run_underlying ht, MapKept.run_getObj_map hb, (string_law h9).check u false hkey, h1, MapKept.run_setObj_map _ hb, Result.andThen, setBlock]
 ·exact absurd h3 (hne e (List.mem_of_getElem? h2))
theorem store {P : Program} {tm tk ev : TypeId} (ht : P.underlying tm = some (.map tk ev)) (h9 : P.underlying tk = some .string) {w : World} {mb : Nat} {f : Fn} (h : MapG w mb f) {s : ByteArray} (hs : s.size ≤ maxLen) (d : Value) :
  ∃ o : Obj, (∀ u : World, u.heap[mb]? = w.heap[mb]? → (Instr.mapUpdate tm (.map (some mb)) (.string s) d).run P u = .ok () (setBlock u mb o)) ∧
   (∀ u : World, u.heap[mb]? = some o → (Instr.mapUpdate tm (.map (some mb)) (.string s) d).run P u = .ok () (setBlock u mb o)) ∧
   (∀ u : World, u.heap[mb]? = some o → MapG u mb (upd f s d)) := by
 obtain ⟨es, clock, hb, hS⟩ := h
 by_cases hin : ∃ e0 ∈ es.toList, e0.key = .string s
 ·obtain ⟨e0, hm, he⟩ := hin
  obtain ⟨j, hj⟩ := List.getElem?_of_mem hm
  have hlt := (List.getElem?_eq_some_iff.1 hj).1
  have hm2 : (es.modify j fun e => { key := e0.key, val := d, born := e.born }).toList = es.toList.set j { key := e0.key, val := d, born := e0.born } := by
   rw [Array.toList_modify, ChangeMaps.modify_eq_set _ _ _ _ hj]
  have hS2 : Says (es.modify j fun e => { key := e0.key, val := d, born := e.born }) clock (upd f s d) := by
   refine ⟨zdB hS.1 hj, fun x hx => ?_, fun t dt ht => ?_⟩
   ·rw [hm2] at hx
    obtain ⟨i, hi⟩ := List.getElem?_of_mem hx
    rw [List.getElem?_set] at hi
    by_cases hji : j = i
    ·rw [if_pos hji, if_pos hlt] at hi
     obtain rfl := Option.some.inj hi
     exact ⟨s, d, hs, he, by simp [upd], rfl⟩
    ·rw [if_neg hji] at hi
     obtain ⟨t, dt, h1, h2, h3, h4⟩ := hS.2.1 x (List.mem_of_getElem? hi)
     refine ⟨t, dt, h1, h2, ?_, h4⟩
     have : t ≠ s := fun e => hji (nodup_at hS.1.2.2 hj hi (by rw [he, h2, e]))
     simp [upd, this, h3]
   ·by_cases e : t = s
    ·subst e
     exact ⟨{ key := e0.key, val := d, born := e0.born }, by rw [hm2]; exact List.mem_set hlt _, he⟩
    ·simp only [upd, e, if_false] at ht
     obtain ⟨x, hx, hk⟩ := hS.2.2 t dt ht
     obtain ⟨i, hi⟩ := List.getElem?_of_mem hx
     refine ⟨x, ?_, hk⟩
     rw [hm2]
     apply List.mem_of_getElem? (i := i)
     rw [List.getElem?_set, if_neg, hi]
     intro hji
     subst hji
     rw [hj] at hi
     obtain rfl := Option.some.inj hi
     rw [he] at hk
     exact e (by simpa using hk.symm)
  refine ⟨.map (es.modify j fun e => { key := e0.key, val := d, born := e.born }) clock, fun u hu => zdK ht h9 _ (hu.trans hb) hS hs hj he, fun u hu => ?_, fun u hu => ⟨_, _, hu, hS2⟩⟩
  have hj2 : (es.modify j fun e => { key := e0.key, val := d, born := e.born }).toList[j]? = some { key := e0.key, val := d, born := e0.born } := by
   rw [hm2, List.getElem?_set, if_pos rfl, if_pos hlt]
  have := zdK ht h9 d hu hS2 hs hj2 he
  rw [this]
  congr 2
  congr 1
  apply Array.ext'
  rw [Array.toList_modify, ChangeMaps.modify_eq_set _ _ _ _ hj2]
  exact WideElems.set_self _ _ _ hj2
 ·have hne : ∀ e ∈ es.toList, e.key ≠ .string s := fun e he hk => hin ⟨e, he, hk⟩
  have hS2 : Says (es.push { key := .string s, val := d, born := clock }) (clock + 1) (upd f s d) := by
   refine ⟨stamped_push hS.1 hne, fun x hx => ?_, fun t dt ht => ?_⟩
   ·rw [Array.toList_push, List.mem_append, List.mem_singleton] at hx
    rcases hx with hx | rfl
    ·obtain ⟨t, dt, h1, h2, h3, h4⟩ := hS.2.1 x hx
     refine ⟨t, dt, h1, h2, ?_, h4⟩
     have : t ≠ s := fun e => hne x hx (by rw [h2, e])
     simp [upd, this, h3]
    ·exact ⟨s, d, hs, rfl, by simp [upd], rfl⟩
   ·by_cases e : t = s
    ·subst e
     exact ⟨{ key := .string t, val := d, born := clock }, by simp, rfl⟩
    ·simp only [upd, e, if_false] at ht
     obtain ⟨x, hx, hk⟩ := hS.2.2 t dt ht
     exact ⟨x, by simp [Array.mem_toList_iff.1 hx], hk⟩
  refine ⟨.map (es.push { key := .string s, val := d, born := clock }) (clock + 1), fun u hu => store_new ht h9 _ (hu.trans hb) hS hs hne, fun u hu => ?_, fun u hu => ⟨_, _, hu, hS2⟩⟩
  have hj2 : (es.push { key := .string s, val := d, born := clock }).toList[es.size]? = some { key := .string s, val := d, born := clock } := by
   simp
  have := zdK ht h9 d hu hS2 hs hj2 rfl
  rw [this]
  congr 2
  congr 1
  apply Array.ext'
  rw [Array.toList_modify, ChangeMaps.modify_eq_set _ _ _ _ hj2]
  exact WideElems.set_self _ _ _ hj2
open Go.RowKit Go.Deep Go.MapKept
def opVals : Array Value := #[.string ⟨#[]⟩, .string ⟨#[43]⟩, .string ⟨#[45]⟩, .string ⟨#[42]⟩, .string ⟨#[47]⟩, .string ⟨#[37]⟩, .string ⟨#[109, 105, 110]⟩, .string ⟨#[109, 97, 120]⟩, .string ⟨#[115, 104, 108]⟩, .string ⟨#[115, 104, 114]⟩, .string ⟨#[38]⟩, .string ⟨#[124]⟩, .string ⟨#[94]⟩, .string ⟨#[61]⟩, .string ⟨#[60]⟩, .string ⟨#[110, 111, 116]⟩, .string ⟨#[97, 110, 100]⟩, .string ⟨#[111, 114]⟩, .string ⟨#[105, 102]⟩, .string ⟨#[110, 97, 114, 114, 111, 119]⟩]
def opZeros : Array Value := #[.string ⟨#[]⟩, .string ⟨#[]⟩, .string ⟨#[]⟩, .string ⟨#[]⟩, .string ⟨#[]⟩, .string ⟨#[]⟩, .string ⟨#[]⟩, .string ⟨#[]⟩, .string ⟨#[]⟩, .string ⟨#[]⟩, .string ⟨#[]⟩, .string ⟨#[]⟩, .string ⟨#[]⟩, .string ⟨#[]⟩, .string ⟨#[]⟩, .string ⟨#[]⟩, .string ⟨#[]⟩, .string ⟨#[]⟩, .string ⟨#[]⟩, .string ⟨#[]⟩]
theorem wpList_run {P : Program} {ops : Array Oper} {rest : List Oper} {o : Oper} {a : Act} {Q : Exit → Act → World → Prop} {w w' : World} {v : Value} (hg : o.guard = none) (hr : (execOp a.eval o).run P w = .ok (.value v) w') (h : wpList P ops Q rest (a.put o.dst v) w') : wpList P ops Q (o :: rest) a w :=
 wpList_plain hg fun _ hK => by
  unfold Oper.wp
  rw [hr]
  exact hK _ _ h
theorem wpList_skip {P : Program} {ops : Array Oper} {rest : List Oper} {o : Oper} {a : Act} {Q : Exit → Act → World → Prop} {w w' : World} (hg : o.guard = none) (hr : (execOp a.eval o).run P w = .ok .skip w') (h : wpList P ops Q rest (a.put o.dst undef) w') : wpList P ops Q (o :: rest) a w :=
 wpList_plain hg fun _ hK => by
  unfold Oper.wp
  rw [hr]
  exact hK _ _ h
theorem op_one : opVals.all (·.oneCell') = true := by kernel_rfl
theorem op_size : (Tryz.prog.info? 209).map (·.size) = some opVals.size := by kernel_rfl
theorem op_zero : (Tryz.prog.info? 209).map (fun i => (i.zero, i.size)) = some (some (.agg opZeros), 20) := by kernel_rfl
theorem op_under : Tryz.prog.underlying 209 = some (.array 20 9) := by kernel_rfl
set_option maxRecDepth 20000 in
theorem opWords_any (w : World) : Calls Tryz.prog 119 #[] w fun e w' => e = .returned (.agg opVals) ∧ w' = w.alloc (.cells opVals 209) := by
 go_enter Tryz.func119, Tryz.ntmps119
 refine wp_seq ?_
 refine wp_region_list ?_
 refine wpList_run (v := .pointer (some ⟨w.heap.size, 0, none⟩)) (w' := w.alloc (.cells opZeros 209)) rfl ?_ ?_
 ·have hz := (zero_of_info op_zero).1
  simp [execOp, Instr.alloc, newVar, newRow, hz, Result.andThen, Value.cells]
 refine wpList_nil ?_
 simp only [Exit.then]
 refine wp_seq ?_
 refine wp_region_list ?_
 refine wpList_run (v := .agg opVals) (w' := w.alloc (.cells opZeros 209)) rfl (by kernel_rfl) ?_
 refine wpList_skip (w' := w.alloc (.cells opVals 209)) rfl ?_ ?_
 ·have hs := run_storeAt_new (P := Tryz.prog) w 209 opZeros opVals op_size rfl op_one
  simp only [execOp, Sem.run_bind]
  show ((Sem.run Tryz.prog (Instr.storeAt 209 (.pointer (some ⟨w.heap.size, 0, none⟩)) (.agg opVals)) (w.alloc (.cells opZeros 209))).andThen fun a w' => Sem.run Tryz.prog (pure Next.skip) w') = _
  rw [hs]
  rfl
 refine wpList_nil ?_
 simp only [Exit.then]
 refine wp_ret ?_
 refine bodyPost_ret (v := .agg opVals) ?_ rfl ⟨rfl, rfl⟩
 rw [zaD rfl]
 exact run_loadVar_new w 209 opVals 20 9 op_under op_size
def opWd (o : Nat) : ByteArray := match opVals[o]? with | some (.string s) => s | _ => ⟨#[]⟩
theorem opWord_any (o : Nat) (ho : o ≤ 19) (w : World) : Calls Tryz.prog 87 #[.int .u8 (o : Int)] w fun e w' => e = .returned (.string (opWd o)) ∧ Below w.heap.size w w' := by
 have C := hidI (opWords_any w)
 have h1 : ((o : Int) > 19) = False := by simp; omega
 have hi : (Instr.index 209 (.agg opVals) (.int .u8 (o : Int))).run Tryz.prog (w.alloc (.cells opVals 209)) = .ok (.string (opWd o)) (w.alloc (.cells opVals 209)) := by
  have hm : o = 0 ∨ o = 1 ∨ o = 2 ∨ o = 3 ∨ o = 4 ∨ o = 5 ∨ o = 6 ∨ o = 7 ∨ o = 8 ∨ o = 9 ∨ o = 10 ∨ o = 11 ∨ o = 12 ∨ o = 13 ∨ o = 14 ∨ o = 15 ∨ o = 16 ∨ o = 17 ∨ o = 18 ∨ o = 19 := by omega
  rcases hm with rfl | rfl | rfl | rfl | rfl | rfl | rfl | rfl | rfl | rfl | rfl | rfl | rfl | rfl | rfl | rfl | rfl | rfl | rfl | rfl <;> (show _ = _; kernel_rfl)
 generalize hov : opVals = ov at C hi
 clear hov
 go_enter Tryz.func87, Tryz.ntmps87
 go_wp2_with (go_at_call 119; refine C.out.mono ?_; rintro e w1 ⟨rfl, rfl⟩; clear C)
 go_ret
 exact ⟨rfl, by (repeat (first | exact Below.refl _ _ | assumption | refine Below.drew ?_ | refine Below.alloc ?_ (by first | omega | (simp; done) | (simp; omega)) _ | refine Below.setCell ?_ (by first | omega | (simp; done) | (simp; omega)) _))⟩
theorem declSh11 (w : World) : Calls Tryz.prog 88 #[.int .u8 1, .int .u8 1] w (ShPost w ⟨#[105, 110, 116]⟩ ⟨#[110]⟩) := by
 go_enter Tryz.func88, Tryz.ntmps88
 go_wp2
 go_region
 all_goals
  go_wp2
  (try simp only [Exit.inBlock, Exit.then])
  refine bodyPost_ret (v := .agg #[.string ⟨#[105, 110, 116]⟩, .string ⟨#[110]⟩]) ?_ rfl ⟨by simp, ?_⟩
  ·rw [zaD rfl]
   go_simp
   kernel_rfl
  ·(repeat (first | exact Below.refl _ _ | assumption | refine Below.drew ?_ | refine Below.alloc ?_ (by first | omega | (simp; done) | (simp; omega)) _ | refine Below.setCell ?_ (by first | omega | (simp; done) | (simp; omega)) _))
theorem declSh12 (w : World) : Calls Tryz.prog 88 #[.int .u8 1, .int .u8 2] w (ShPost w ⟨#[98, 111, 111, 108]⟩ ⟨#[110]⟩) := by
 go_enter Tryz.func88, Tryz.ntmps88
 go_wp2
 go_region
 all_goals
  go_wp2
  (try simp only [Exit.inBlock, Exit.then])
  refine bodyPost_ret (v := .agg #[.string ⟨#[98, 111, 111, 108]⟩, .string ⟨#[110]⟩]) ?_ rfl ⟨by simp, ?_⟩
  ·rw [zaD rfl]
   go_simp
   kernel_rfl
  ·(repeat (first | exact Below.refl _ _ | assumption | refine Below.drew ?_ | refine Below.alloc ?_ (by first | omega | (simp; done) | (simp; omega)) _ | refine Below.setCell ?_ (by first | omega | (simp; done) | (simp; omega)) _))
theorem declSh21 (w : World) : Calls Tryz.prog 88 #[.int .u8 2, .int .u8 1] w (ShPost w ⟨#[110, 105, 110, 116]⟩ ⟨#[110]⟩) := by
 go_enter Tryz.func88, Tryz.ntmps88
 go_wp2
 go_region
 all_goals
  go_wp2
  (try simp only [Exit.inBlock, Exit.then])
  refine bodyPost_ret (v := .agg #[.string ⟨#[110, 105, 110, 116]⟩, .string ⟨#[110]⟩]) ?_ rfl ⟨by simp, ?_⟩
  ·rw [zaD rfl]
   go_simp
   kernel_rfl
  ·(repeat (first | exact Below.refl _ _ | assumption | refine Below.drew ?_ | refine Below.alloc ?_ (by first | omega | (simp; done) | (simp; omega)) _ | refine Below.setCell ?_ (by first | omega | (simp; done) | (simp; omega)) _))
theorem declSh22 (w : World) : Calls Tryz.prog 88 #[.int .u8 2, .int .u8 2] w (ShPost w ⟨#[110, 98, 111, 111, 108]⟩ ⟨#[110]⟩) := by
 go_enter Tryz.func88, Tryz.ntmps88
 go_wp2
 go_region
 all_goals
  go_wp2
  (try simp only [Exit.inBlock, Exit.then])
  refine bodyPost_ret (v := .agg #[.string ⟨#[110, 98, 111, 111, 108]⟩, .string ⟨#[110]⟩]) ?_ rfl ⟨by simp, ?_⟩
  ·rw [zaD rfl]
   go_simp
   kernel_rfl
  ·(repeat (first | exact Below.refl _ _ | assumption | refine Below.drew ?_ | refine Below.alloc ?_ (by first | omega | (simp; done) | (simp; omega)) _ | refine Below.setCell ?_ (by first | omega | (simp; done) | (simp; omega)) _))
theorem declSh31 (w : World) : Calls Tryz.prog 88 #[.int .u8 3, .int .u8 1] w (ShPost w ⟨#[101, 105, 110, 116]⟩ ⟨#[110]⟩) := by
 go_enter Tryz.func88, Tryz.ntmps88
 go_wp2
 go_region
 all_goals
  go_wp2
  (try simp only [Exit.inBlock, Exit.then])
  refine bodyPost_ret (v := .agg #[.string ⟨#[101, 105, 110, 116]⟩, .string ⟨#[110]⟩]) ?_ rfl ⟨by simp, ?_⟩
  ·rw [zaD rfl]
   go_simp
   kernel_rfl
  ·(repeat (first | exact Below.refl _ _ | assumption | refine Below.drew ?_ | refine Below.alloc ?_ (by first | omega | (simp; done) | (simp; omega)) _ | refine Below.setCell ?_ (by first | omega | (simp; done) | (simp; omega)) _))
theorem declSh32 (w : World) : Calls Tryz.prog 88 #[.int .u8 3, .int .u8 2] w (ShPost w ⟨#[101, 98, 111, 111, 108]⟩ ⟨#[110]⟩) := by
 go_enter Tryz.func88, Tryz.ntmps88
 go_wp2
 go_region
 all_goals
  go_wp2
  (try simp only [Exit.inBlock, Exit.then])
  refine bodyPost_ret (v := .agg #[.string ⟨#[101, 98, 111, 111, 108]⟩, .string ⟨#[110]⟩]) ?_ rfl ⟨by simp, ?_⟩
  ·rw [zaD rfl]
   go_simp
   kernel_rfl
  ·(repeat (first | exact Below.refl _ _ | assumption | refine Below.drew ?_ | refine Below.alloc ?_ (by first | omega | (simp; done) | (simp; omega)) _ | refine Below.setCell ?_ (by first | omega | (simp; done) | (simp; omega)) _))
end Go.Proofs.YtmekkhfohmfjkaaGreatDoor
