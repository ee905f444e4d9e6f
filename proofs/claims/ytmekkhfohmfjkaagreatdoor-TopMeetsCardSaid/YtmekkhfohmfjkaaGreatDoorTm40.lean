/-
  Part 40 of the proof: Clh, ClC.
-/
import Derived.Test.YtmekkhfohmfjkaaGreatDoorProg
import Derived.WalkKit
import Derived.Carry
import Derived.OrdersHeld
import Derived.BigQuiet
import Derived.Deep.LoopGhost
import Derived.Deep.OwnRows
import Derived.Deep.AppendLies
import Derived.Deep.RegionHeld3
import Derived.Laws.MakeOwn
import Derived.Laws.ResultCell
import Derived.Laws.StructEq
import Derived.Lib.SmallJoins
import Derived.Lib.SliceRun
import Derived.Lib.QuietBelow
import Derived.WideKeyEntry
import Derived.DeepKeys4
import Derived.Maps.OwnRows
import Derived.StringKeys
import Derived.Test.YtmekkhfohmfjkaaGreatDoorTm39
namespace Go.Proofs.YtmekkhfohmfjkaaGreatDoor.Clh
open Go.RowKit Go.Deep Go.MapKept
theorem hidI {p : Prop} (h : p) : Hid p := h
structure Deed where
 k : Int
 s : ByteArray
 o : Int
 i : Bool
 e : Int
 c : Int
def Deed.val (x : Deed) : Value := .agg #[.int .u8 x.k, .string x.s, .int .u8 x.o, .bool x.i, .int .i64 x.e, .int .i64 x.c]
def Deed.does (x : Deed) : Bool × Int := if x.k = 1 then (true, 0) else (false, x.o)
def dval (d : Bool × Int) : Value := .agg #[.bool d.1, .int .u8 d.2]
def SeesA (w : World) (v : Value) (xs : List Deed) : Prop :=
 ∃ (a : Option Addr) (cap : Nat), v = .slice a xs.length cap ∧ (xs = [] ∨ ∃ b off, a = some ⟨b, off, none⟩ ∧ ∀ (j : Nat) (x : Deed), xs[j]? = some x → w.cell? ⟨b, off + j * 6, none⟩ = some (.int .u8 x.k) ∧ w.cell? ⟨b, off + j * 6 + 1, none⟩ = some (.string x.s) ∧ w.cell? ⟨b, off + j * 6 + 2, none⟩ = some (.int .u8 x.o) ∧ w.cell? ⟨b, off + j * 6 + 3, none⟩ = some (.bool x.i) ∧ w.cell? ⟨b, off + j * 6 + 4, none⟩ = some (.int .i64 x.e) ∧ w.cell? ⟨b, off + j * 6 + 5, none⟩ = some (.int .i64 x.c))
theorem zaD {fn : Func} {p : Tmp} {ty : TypeId} (h : fn.results = #[.cell p ty]) (tmps : Array Value) (P : Program) (w : World) :
  (results fn tmps).run P w = ((asAddr (tmps.getD p undef)).run P w).andThen fun a w₁ => (loadVar ty a).run P w₁ := by
 simp only [results, h]
 simp [Sem.run_bind, Result.andThen]
theorem deedOf_any (x : Deed) (w : World) : Calls Tryz.prog 56 #[x.val] w fun e w' => e = .returned (dval x.does) ∧ Below w.heap.size w w' := by
 obtain ⟨k, s, o, i, e, c⟩ := x
 unfold Deed.val Deed.does dval
 simp only
 by_cases hk : k = 1
 ·subst hk
  go_enter Tryz.func56, Tryz.ntmps56
  go_wp2
  (try simp only [Exit.inBlock, Exit.then])
  refine bodyPost_ret (v := .agg #[.bool true, .int .u8 0]) ?_ rfl ⟨by simp, ?_⟩
  ·rw [zaD rfl]
   go_simp
  ·(repeat (first | exact Below.refl _ _ | assumption | refine Below.drew ?_ | refine Below.alloc ?_ (by first | omega | (simp; done) | (simp; omega)) _ | refine Below.setCell ?_ (by first | omega | (simp; done) | (simp; omega)) _))
 ·have k1 : (k == 1) = false := by simpa using hk
  go_enter Tryz.func56, Tryz.ntmps56
  go_wp2
  (try simp only [Exit.inBlock, Exit.then])
  refine bodyPost_ret (v := .agg #[.bool false, .int .u8 o]) ?_ rfl ⟨by simp, ?_⟩
  ·rw [zaD rfl]
   go_simp
  ·(repeat (first | exact Below.refl _ _ | assumption | refine Below.drew ?_ | refine Below.alloc ?_ (by first | omega | (simp; done) | (simp; omega)) _ | refine Below.setCell ?_ (by first | omega | (simp; done) | (simp; omega)) _))
open Go.RowKit Go.MapKept Go.WideMaps Go.WideShapes
open Go.ChangeMaps (setBlock heap_setBlock_same heap_setBlock_other)
theorem law9 : KeyLaw Tryz.prog 9 := string_law Tryz.underlying9
theorem nodup_at {l : List MapEntry} (h : (l.map (·.key)).Nodup) {i j : Nat} {x y : MapEntry} (hi : l[i]? = some x) (hj : l[j]? = some y) (e : x.key = y.key) : i = j := by
 have hi' : (l.map (·.key))[i]? = some x.key := by simp [hi]
 have hj' : (l.map (·.key))[j]? = some y.key := by simp [hj]
 have li : i < (l.map (·.key)).length := (List.getElem?_eq_some_iff.1 hi').1
 have lj : j < (l.map (·.key)).length := (List.getElem?_eq_some_iff.1 hj').1
 have hne := List.pairwise_iff_getElem.1 h
 have a1 := (List.getElem?_eq_some_iff.1 hi').2
 have a2 := (List.getElem?_eq_some_iff.1 hj').2
 rcases Nat.lt_trichotomy i j with h1 | h1 | h1
 ·exact absurd (a1.trans (e.trans a2.symm)) (hne i j li lj h1)
 ·exact h1
 ·exact absurd (a2.trans (e.symm.trans a1.symm)) (hne j i lj li h1)
abbrev Fn := ByteArray → Option (Bool × Int)
def upd (f : Fn) (s : ByteArray) (d : Bool × Int) : Fn := fun t => if t = s then some d else f t
def Says (es : Array MapEntry) (clock : Nat) (f : Fn) : Prop :=
 Stamped es clock ∧ (∀ x ∈ es.toList, ∃ s d, s.size ≤ maxLen ∧ x.key = .string s ∧ f s = some d ∧ x.val = dval d) ∧ (∀ s d, f s = some d → ∃ x ∈ es.toList, x.key = .string s)
def MapD (w : World) (mb : Nat) (f : Fn) : Prop := ∃ es clock, w.heap[mb]? = some (.map es clock) ∧ Says es clock f
theorem MapD.same {w w' : World} {mb : Nat} {f : Fn} (h : MapD w mb f) (e : w'.heap[mb]? = w.heap[mb]?) : MapD w' mb f := by
 obtain ⟨es, clock, hb, hs⟩ := h
 exact ⟨es, clock, e.trans hb, hs⟩
theorem MapD.lt {w : World} {mb : Nat} {f : Fn} (h : MapD w mb f) : mb < w.heap.size := by
 obtain ⟨es, clock, hb, _⟩ := h
 exact (Array.getElem?_eq_some_iff.1 hb).1
theorem mapD_made (w : World) : MapD (w.alloc (.map #[] 0)) w.heap.size (fun _ => none) :=
 ⟨#[], 0, (MapKept.heap_alloc w _).1, stamped_empty 0, by simp, by simp⟩
theorem Says.keyed {es : Array MapEntry} {clock : Nat} {f : Fn} (h : Says es clock f) : ∀ e ∈ es.toList, ∃ l, keyOf Tryz.prog 9 e.key = some l := by
 intro e he
 obtain ⟨s, d, hs, hk, _⟩ := h.2.1 e he
 exact ⟨_, hk ▸ keyOf_string_mk Tryz.underlying9 hs⟩
theorem look {w : World} {mb : Nat} {f : Fn} (h : MapD w mb f) {s : ByteArray} (hs : s.size ≤ maxLen) :
  (Instr.lookup 123 (.map (some mb)) (.string s) true).run Tryz.prog w = .ok (.tuple #[dval ((f s).getD (false, 0)), .bool (f s).isSome]) w := by
 obtain ⟨es, clock, hb, hS⟩ := h
 have ht := Tryz.underlying123
 have hkey := keyOf_string_mk (P := Tryz.prog) Tryz.underlying9 hs
 rcases law9.find w hkey es.toList hS.keyed with ⟨h1, h2⟩ | ⟨j, e, h1, h2, h3⟩
 ·have hn : f s = none := by
   cases hf : f s with
   | none => rfl
   | some d =>
    obtain ⟨x, hx, hk⟩ := hS.2.2 s d hf
    exact absurd hk (h2 x hx)
  rw [hn]
  simp [Instr.lookup, run_underlying ht, MapKept.run_getObj_map hb, law9.check w es.isEmpty hkey, h1, Result.andThen, dval]
 ·obtain ⟨s', d, _, hk, hf, hv⟩ := hS.2.1 e (List.mem_of_getElem? h2)
  obtain rfl : s = s' := by rw [hk] at h3; simpa using h3.symm
  rw [hf]
  simp [Instr.lookup, run_underlying ht, MapKept.run_getObj_map hb, law9.check w es.isEmpty hkey, h1, Result.andThen, hv]
theorem zdB {es : Array MapEntry} {clock j : Nat} {e0 : MapEntry} {v : Value} (h : Stamped es clock) (hj : es.toList[j]? = some e0) : Stamped (es.modify j fun e => { key := e0.key, val := v, born := e.born }) clock := by
 have hm : (es.modify j fun e => { key := e0.key, val := v, born := e.born }).toList = es.toList.set j { key := e0.key, val := v, born := e0.born } := by
  rw [Array.toList_modify, ChangeMaps.modify_eq_set _ _ _ _ hj]
 have hlt := (List.getElem?_eq_some_iff.1 hj).1
 have heq := (List.getElem?_eq_some_iff.1 hj).2
 refine ⟨fun x hx => ?_, ?_, ?_⟩
 ·rw [hm] at hx
  rcases List.mem_or_eq_of_mem_set hx with hx | rfl
  ·exact h.1 x hx
  ·exact h.1 e0 (List.mem_of_getElem? hj)
 ·rw [hm, List.map_set]
  have : (es.toList.map (·.born)).set j e0.born = es.toList.map (·.born) := by
   apply List.ext_getElem?
   intro i
   rw [List.getElem?_set]
   split
   ·rename_i hi; subst hi; simp [hj]; simpa using hlt
   ·rfl
  simp only [this]; exact h.2.1
 ·rw [hm, List.map_set]
  have : (es.toList.map (·.key)).set j e0.key = es.toList.map (·.key) := by
   apply List.ext_getElem?
   intro i
   rw [List.getElem?_set]
   split
   ·rename_i hi; subst hi; simp [hj]; simpa using hlt
   ·rfl
  simp only [this]; exact h.2.2
theorem stamped_push {es : Array MapEntry} {clock : Nat} {k v : Value} (h : Stamped es clock) (hne : ∀ e ∈ es.toList, e.key ≠ k) : Stamped (es.push { key := k, val := v, born := clock }) (clock + 1) := by
 refine ⟨fun x hx => ?_, ?_, ?_⟩
 ·rw [Array.toList_push, List.mem_append, List.mem_singleton] at hx
  rcases hx with hx | rfl
  ·have := h.1 x hx; omega
  ·simp
 ·rw [Array.toList_push, List.map_append, List.nodup_append]
  refine ⟨h.2.1, by simp, fun a ha b hb => ?_⟩
  obtain ⟨x, hx, rfl⟩ := List.mem_map.1 ha
  obtain rfl : b = clock := by simpa using hb
  have := h.1 x hx
  omega
 ·rw [Array.toList_push, List.map_append, List.nodup_append]
  refine ⟨h.2.2, by simp, fun a ha b hb => ?_⟩
  obtain ⟨x, hx, rfl⟩ := List.mem_map.1 ha
  obtain rfl : b = k := by simpa using hb
  exact hne x hx
theorem zdK {u : World} {mb clock j : Nat} {es : Array MapEntry} {e0 : MapEntry} {f : Fn} {s : ByteArray} (v : Value) (hb : u.heap[mb]? = some (.map es clock)) (hS : Says es clock f) (hs : s.size ≤ maxLen) (hj : es.toList[j]? = some e0) (he : e0.key = .string s) :
  (Instr.mapUpdate 123 (.map (some mb)) (.string s) v).run Tryz.prog u = .ok () (setBlock u mb (.map (es.modify j fun e => { key := e0.key, val := v, born := e.born }) clock)) := by
 have ht := Tryz.underlying123
 have hkey := keyOf_string_mk (P := Tryz.prog) Tryz.underlying9 hs
 rcases law9.find u hkey es.toList hS.keyed with ⟨_, h2⟩ | ⟨j', e', h1, h2, h3⟩
 ·exact absurd he (h2 e0 (List.mem_of_getElem? hj))
 ·obtain rfl := nodup_at hS.1.2.2 h2 hj (h3.trans he.symm)
  have hj' : es[j']? = some e0 := by rw [← Array.getElem?_toList]; exact hj
  simp [Instr.mapUpdate, run_underlying ht, MapKept.run_getObj_map hb, law9.check u false hkey, h1, hj', he, law9.stays u hkey, MapKept.run_setObj_map _ hb, Result.andThen, setBlock]
theorem store_new {u : World} {mb clock : Nat} {es : Array MapEntry} {f : Fn} {s : ByteArray} (v : Value) (hb : u.heap[mb]? = some (.map es clock)) (hS : Says es clock f) (hs : s.size ≤ maxLen) (hne : ∀ e ∈ es.toList, e.key ≠ .string s) :
  (Instr.mapUpdate 123 (.map (some mb)) (.string s) v).run Tryz.prog u = .ok () (setBlock u mb (.map (es.push { key := .string s, val := v, born := clock }) (clock + 1))) := by
 have ht := Tryz.underlying123
 have hkey := keyOf_string_mk (P := Tryz.prog) Tryz.underlying9 hs
 rcases law9.find u hkey es.toList hS.keyed with ⟨h1, _⟩ | ⟨j, e, h1, h2, h3⟩
 ·simp [Instr.mapUpdate, run_underlying ht, MapKept.run_getObj_map hb, law9.check u false hkey, h1, MapKept.run_setObj_map _ hb, Result.andThen, setBlock]
 ·exact absurd h3 (hne e (List.mem_of_getElem? h2))
theorem store {w : World} {mb : Nat} {f : Fn} (h : MapD w mb f) {s : ByteArray} (hs : s.size ≤ maxLen) (d : Bool × Int) :
  ∃ o : Obj, (∀ u : World, u.heap[mb]? = w.heap[mb]? → (Instr.mapUpdate 123 (.map (some mb)) (.string s) (dval d)).run Tryz.prog u = .ok () (setBlock u mb o)) ∧
   (∀ u : World, u.heap[mb]? = some o → (Instr.mapUpdate 123 (.map (some mb)) (.string s) (dval d)).run Tryz.prog u = .ok () (setBlock u mb o)) ∧
   (∀ u : World, u.heap[mb]? = some o → MapD u mb (upd f s d)) := by
 obtain ⟨es, clock, hb, hS⟩ := h
 by_cases hin : ∃ e0 ∈ es.toList, e0.key = .string s
 ·obtain ⟨e0, hm, he⟩ := hin
  obtain ⟨j, hj⟩ := List.getElem?_of_mem hm
  have hlt := (List.getElem?_eq_some_iff.1 hj).1
  have hm2 : (es.modify j fun e => { key := e0.key, val := dval d, born := e.born }).toList = es.toList.set j { key := e0.key, val := dval d, born := e0.born } := by
   rw [Array.toList_modify, ChangeMaps.modify_eq_set _ _ _ _ hj]
  have hS2 : Says (es.modify j fun e => { key := e0.key, val := dval d, born := e.born }) clock (upd f s d) := by
   refine ⟨zdB hS.1 hj, fun x hx => ?_, fun t dt ht => ?_⟩
   ·rw [hm2] at hx
    obtain ⟨i, hi⟩ := List.getElem?_of_mem hx
    rw [List.getElem?_set] at hi
    by_cases hji : j = i
    ·rw [if_pos hji, if_pos hlt] at hi
     obtain rfl := Option.some.inj hi
     exact ⟨s, d, hs, he, by simp [upd], rfl⟩
    ·rw [if_neg hji] at hi
     obtain ⟨t, dt, h1, h2, h3, h4⟩ := hS.2.1 x (List.mem_of_getElem? hi)
     refine ⟨t, dt, h1, h2, ?_, h4⟩
     have : t ≠ s := fun e => hji (nodup_at hS.1.2.2 hj hi (by rw [he, h2, e]))
     simp [upd, this, h3]
   ·by_cases e : t = s
    ·subst e
     exact ⟨{ key := e0.key, val := dval d, born := e0.born }, by rw [hm2]; exact List.mem_set hlt _, he⟩
    ·simp only [upd, e, if_false] at ht
     obtain ⟨x, hx, hk⟩ := hS.2.2 t dt ht
     obtain ⟨i, hi⟩ := List.getElem?_of_mem hx
     refine ⟨x, ?_, hk⟩
     rw [hm2]
     apply List.mem_of_getElem? (i := i)
     rw [List.getElem?_set, if_neg, hi]
     intro hji
     subst hji
     rw [hj] at hi
     obtain rfl := Option.some.inj hi
     rw [he] at hk
     exact e (by simpa using hk.symm)
  refine ⟨.map (es.modify j fun e => { key := e0.key, val := dval d, born := e.born }) clock, fun u hu => zdK _ (hu.trans hb) hS hs hj he, fun u hu => ?_, fun u hu => ⟨_, _, hu, hS2⟩⟩
  have hj2 : (es.modify j fun e => { key := e0.key, val := dval d, born := e.born }).toList[j]? = some { key := e0.key, val := dval d, born := e0.born } := by
   rw [hm2, List.getElem?_set, if_pos rfl, if_pos hlt]
  have := zdK (dval d) hu hS2 hs hj2 he
  rw [this]
  refine congrArg (fun q => Result.ok () (setBlock u mb (.map q clock))) ?_
  apply Array.ext'
  rw [Array.toList_modify, ChangeMaps.modify_eq_set _ _ _ _ hj2]
  exact WideElems.set_self _ _ _ hj2
 ·have hne : ∀ e ∈ es.toList, e.key ≠ .string s := fun e he hk => hin ⟨e, he, hk⟩
  have hS2 : Says (es.push { key := .string s, val := dval d, born := clock }) (clock + 1) (upd f s d) := by
   refine ⟨stamped_push hS.1 hne, fun x hx => ?_, fun t dt ht => ?_⟩
   ·rw [Array.toList_push, List.mem_append, List.mem_singleton] at hx
    rcases hx with hx | rfl
    ·obtain ⟨t, dt, h1, h2, h3, h4⟩ := hS.2.1 x hx
     refine ⟨t, dt, h1, h2, ?_, h4⟩
     have : t ≠ s := fun e => hne x hx (by rw [h2, e])
     simp [upd, this, h3]
    ·exact ⟨s, d, hs, rfl, by simp [upd], rfl⟩
   ·by_cases e : t = s
    ·subst e
     exact ⟨{ key := .string t, val := dval d, born := clock }, by simp, rfl⟩
    ·simp only [upd, e, if_false] at ht
     obtain ⟨x, hx, hk⟩ := hS.2.2 t dt ht
     exact ⟨x, by simp [Array.mem_toList_iff.1 hx], hk⟩
  refine ⟨.map (es.push { key := .string s, val := dval d, born := clock }) (clock + 1), fun u hu => store_new _ (hu.trans hb) hS hs hne, fun u hu => ?_, fun u hu => ⟨_, _, hu, hS2⟩⟩
  have hj2 : (es.push { key := .string s, val := dval d, born := clock }).toList[es.size]? = some { key := .string s, val := dval d, born := clock } := by
   simp
  have := zdK (dval d) hu hS2 hs hj2 rfl
  rw [this]
  refine congrArg (fun q => Result.ok () (setBlock u mb (.map q (clock + 1)))) ?_
  apply Array.ext'
  rw [Array.toList_modify, ChangeMaps.modify_eq_set _ _ _ _ hj2]
  exact WideElems.set_self _ _ _ hj2
open Go.RowKit Go.Deep Go.MapKept Go.Sort
def hits (f : Fn) (x : Deed) : Bool := match f x.s with | none => false | some d => d.1 || !(d.1 == x.does.1 && d.2 == x.does.2)
set_option maxRecDepth 100000 in
set_option maxHeartbeats 1000000 in
theorem clash_any (x : Deed) (w : World) (mb : Nat) (f : Fn) (h : MapD w mb f) (hs : x.s.size ≤ maxLen) : Calls Tryz.prog 55 #[.map (some mb), x.val] w fun e w' => e = .returned (.bool (hits f x)) ∧ Below w.heap.size w w' := by
 have C := hidI (deedOf_any x)
 obtain ⟨⟨p, q⟩, hd⟩ : ∃ d, x.does = d := ⟨_, rfl⟩
 unfold hits
 rw [hd] at C ⊢
 obtain ⟨k, s, o, i, e, c⟩ := x
 unfold Deed.val at C ⊢
 simp only at C hs ⊢
 have HL : Hid (∀ u : World, Below w.heap.size w u → (Instr.lookup 123 (.map (some mb)) (.string s) true).run Tryz.prog u = .ok (.tuple #[dval ((f s).getD (false, 0)), .bool (f s).isSome]) u) := hidI fun u hu => look (h.same (hu.block mb h.lt)) hs
 clear h hd
 have hgt : Tryz.prog.eqGuardType Tryz.prog.depth 129 = false := by kernel_rfl
 have L := HL.out (w.alloc (.cells #[.int .u8 k, .string s, .int .u8 o, .bool i, .int .i64 e, .int .i64 c] 126)) (by (repeat (first | exact Below.refl _ _ | assumption | refine Below.drew ?_ | refine Below.alloc ?_ (by first | omega | (simp; done) | (simp; omega)) _ | refine Below.setCell ?_ (by first | omega | (simp; done) | (simp; omega)) _)))
 clear HL
 cases hf : f s with
 | none =>
  rw [hf] at L
  simp only [Option.getD_none, Option.isSome_none, dval] at L
  go_enter Tryz.func55, Tryz.ntmps55
  go_wp2
  refine wp_region_quiet_below (by kernel_rfl) (by kernel_rfl) ?_
  repeat (first | go_big_quiet_step (fail) | quiet_step (fail))
  refine wpQuiet_nil ?_
  intro _ hw'
  obtain ⟨⟨dq, osq⟩, hw''⟩ := hw'
  subst hw''
  go_wp2
  go_ret
  exact ⟨rfl, Below.trans (by (repeat (first | exact Below.refl _ _ | assumption | refine Below.drew ?_ | refine Below.alloc ?_ (by first | omega | (simp; done) | (simp; omega)) _ | refine Below.setCell ?_ (by first | omega | (simp; done) | (simp; omega)) _))) ((below_regrown _ dq osq).mono (by simp; omega))⟩
 | some d =>
  obtain ⟨dp, dq⟩ := d
  rw [hf] at L
  simp only [Option.getD_some, Option.isSome_some, dval] at L
  cases dp with
  | true =>
   go_enter Tryz.func55, Tryz.ntmps55
   go_wp2
   have e0 : ∀ d os, (grow (redrawn ((w.alloc (.cells #[.int .u8 k, .string s, .int .u8 o, .bool i, .int .i64 e, .int .i64 c] 126)).alloc (.cells #[.bool true, .int .u8 dq] 129)) d) os).cell? ⟨w.heap.size + 1, 0, none⟩ = some (.bool true) := fun d os => cell_regrown (by go_simp) d os
   refine wp_region_quiet_below (by kernel_rfl) (by kernel_rfl) ?_
   repeat (first | go_big_quiet_step (fail) | quiet_step (fail))
   refine wpQuiet_nil ?_
   intro _ hw'
   obtain ⟨⟨dq, osq⟩, hw''⟩ := hw'
   subst hw''
   go_wp2
   go_ret
   exact ⟨rfl, Below.trans (by (repeat (first | exact Below.refl _ _ | assumption | refine Below.drew ?_ | refine Below.alloc ?_ (by first | omega | (simp; done) | (simp; omega)) _ | refine Below.setCell ?_ (by first | omega | (simp; done) | (simp; omega)) _))) ((below_regrown _ dq osq).mono (by simp; omega))⟩
  | false =>
   have CC : Hid (∀ d os, Calls Tryz.prog 56 #[.agg #[.int .u8 k, .string s, .int .u8 o, .bool i, .int .i64 e, .int .i64 c]] (grow (redrawn ((w.alloc (.cells #[.int .u8 k, .string s, .int .u8 o, .bool i, .int .i64 e, .int .i64 c] 126)).alloc (.cells #[.bool false, .int .u8 dq] 129)) d) os) fun ed w'' => ed = .returned (.agg #[.bool p, .int .u8 q]) ∧ ∃ p : Regrown, w'' = grow (redrawn ((w.alloc (.cells #[.int .u8 k, .string s, .int .u8 o, .bool i, .int .i64 e, .int .i64 c] 126)).alloc (.cells #[.bool false, .int .u8 dq] 129)) p.d) p.os) := hidI fun d os => Calls.regrown_of (C.out _)
   go_enter Tryz.func55, Tryz.ntmps55
   go_wp2
   have a0 : ∀ d os, (grow (redrawn ((w.alloc (.cells #[.int .u8 k, .string s, .int .u8 o, .bool i, .int .i64 e, .int .i64 c] 126)).alloc (.cells #[.bool false, .int .u8 dq] 129)) d) os).cell? ⟨w.heap.size, 0, none⟩ = some (.int .u8 k) := fun d os => cell_regrown (by go_simp) d os
   have a1 : ∀ d os, (grow (redrawn ((w.alloc (.cells #[.int .u8 k, .string s, .int .u8 o, .bool i, .int .i64 e, .int .i64 c] 126)).alloc (.cells #[.bool false, .int .u8 dq] 129)) d) os).cell? ⟨w.heap.size, 1, none⟩ = some (.string s) := fun d os => cell_regrown (by go_simp) d os
   have a2 : ∀ d os, (grow (redrawn ((w.alloc (.cells #[.int .u8 k, .string s, .int .u8 o, .bool i, .int .i64 e, .int .i64 c] 126)).alloc (.cells #[.bool false, .int .u8 dq] 129)) d) os).cell? ⟨w.heap.size, 2, none⟩ = some (.int .u8 o) := fun d os => cell_regrown (by go_simp) d os
   have a3 : ∀ d os, (grow (redrawn ((w.alloc (.cells #[.int .u8 k, .string s, .int .u8 o, .bool i, .int .i64 e, .int .i64 c] 126)).alloc (.cells #[.bool false, .int .u8 dq] 129)) d) os).cell? ⟨w.heap.size, 3, none⟩ = some (.bool i) := fun d os => cell_regrown (by go_simp) d os
   have a4 : ∀ d os, (grow (redrawn ((w.alloc (.cells #[.int .u8 k, .string s, .int .u8 o, .bool i, .int .i64 e, .int .i64 c] 126)).alloc (.cells #[.bool false, .int .u8 dq] 129)) d) os).cell? ⟨w.heap.size, 4, none⟩ = some (.int .i64 e) := fun d os => cell_regrown (by go_simp) d os
   have a5 : ∀ d os, (grow (redrawn ((w.alloc (.cells #[.int .u8 k, .string s, .int .u8 o, .bool i, .int .i64 e, .int .i64 c] 126)).alloc (.cells #[.bool false, .int .u8 dq] 129)) d) os).cell? ⟨w.heap.size, 5, none⟩ = some (.int .i64 c) := fun d os => cell_regrown (by go_simp) d os
   have e0 : ∀ d os, (grow (redrawn ((w.alloc (.cells #[.int .u8 k, .string s, .int .u8 o, .bool i, .int .i64 e, .int .i64 c] 126)).alloc (.cells #[.bool false, .int .u8 dq] 129)) d) os).cell? ⟨w.heap.size + 1, 0, none⟩ = some (.bool false) := fun d os => cell_regrown (by go_simp) d os
   have e1 : ∀ d os, (grow (redrawn ((w.alloc (.cells #[.int .u8 k, .string s, .int .u8 o, .bool i, .int .i64 e, .int .i64 c] 126)).alloc (.cells #[.bool false, .int .u8 dq] 129)) d) os).cell? ⟨w.heap.size + 1, 1, none⟩ = some (.int .u8 dq) := fun d os => cell_regrown (by go_simp) d os
   by_cases hq : dq = q
   ·subst hq
    cases p
    ·refine wp_region_quiet_below (by kernel_rfl) (by kernel_rfl) ?_
     repeat (first | go_big_quiet_step ((go_at_call 56; exact CC.out _ _)) | quiet_step ((go_at_call 56; exact CC.out _ _)))
     refine wpQuiet_nil ?_
     intro _ hw'
     obtain ⟨⟨dq', osq⟩, hw''⟩ := hw'
     subst hw''
     go_wp2
     go_ret
     refine ⟨?_, Below.trans (by (repeat (first | exact Below.refl _ _ | assumption | refine Below.drew ?_ | refine Below.alloc ?_ (by first | omega | (simp; done) | (simp; omega)) _ | refine Below.setCell ?_ (by first | omega | (simp; done) | (simp; omega)) _))) ((below_regrown _ dq' osq).mono (by simp; omega))⟩
     simp
    ·refine wp_region_quiet_below (by kernel_rfl) (by kernel_rfl) ?_
     repeat (first | go_big_quiet_step ((go_at_call 56; exact CC.out _ _)) | quiet_step ((go_at_call 56; exact CC.out _ _)))
     refine wpQuiet_nil ?_
     intro _ hw'
     obtain ⟨⟨dq', osq⟩, hw''⟩ := hw'
     subst hw''
     go_wp2
     go_ret
     refine ⟨?_, Below.trans (by (repeat (first | exact Below.refl _ _ | assumption | refine Below.drew ?_ | refine Below.alloc ?_ (by first | omega | (simp; done) | (simp; omega)) _ | refine Below.setCell ?_ (by first | omega | (simp; done) | (simp; omega)) _))) ((below_regrown _ dq' osq).mono (by simp; omega))⟩
     simp
   ·have h1 : (dq == q) = false := by simpa using hq
    have h2 : decide (dq = q) = false := by simpa using hq
    cases p
    ·refine wp_region_quiet_below (by kernel_rfl) (by kernel_rfl) ?_
     repeat (first | go_big_quiet_step ((go_at_call 56; exact CC.out _ _)) | quiet_step ((go_at_call 56; exact CC.out _ _)))
     refine wpQuiet_nil ?_
     intro _ hw'
     obtain ⟨⟨dq', osq⟩, hw''⟩ := hw'
     subst hw''
     go_wp2
     go_ret
     refine ⟨?_, Below.trans (by (repeat (first | exact Below.refl _ _ | assumption | refine Below.drew ?_ | refine Below.alloc ?_ (by first | omega | (simp; done) | (simp; omega)) _ | refine Below.setCell ?_ (by first | omega | (simp; done) | (simp; omega)) _))) ((below_regrown _ dq' osq).mono (by simp; omega))⟩
     simpa using hq
    ·refine wp_region_quiet_below (by kernel_rfl) (by kernel_rfl) ?_
     repeat (first | go_big_quiet_step ((go_at_call 56; exact CC.out _ _)) | quiet_step ((go_at_call 56; exact CC.out _ _)))
     refine wpQuiet_nil ?_
     intro _ hw'
     obtain ⟨⟨dq', osq⟩, hw''⟩ := hw'
     subst hw''
     go_wp2
     go_ret
     refine ⟨?_, Below.trans (by (repeat (first | exact Below.refl _ _ | assumption | refine Below.drew ?_ | refine Below.alloc ?_ (by first | omega | (simp; done) | (simp; omega)) _ | refine Below.setCell ?_ (by first | omega | (simp; done) | (simp; omega)) _))) ((below_regrown _ dq' osq).mono (by simp; omega))⟩
     simp
open Go.RowKit Go.Deep Go.MapKept
open Go.ChangeMaps (setBlock)
theorem sb_cell {u : World} {b n i : Nat} {o : Obj} (h : n ≠ b) : (setBlock u b o).cell? ⟨n, i, none⟩ = u.cell? ⟨n, i, none⟩ := World.cell?_of_block (by simp [setBlock, Ne.symm h])
theorem sb_same {u : World} {b : Nat} {o : Obj} (h : b < u.heap.size) : (setBlock u b o).heap[b]? = some o := by simp [setBlock, h]
theorem sb_below {B : Nat} {w u : World} {b : Nat} {o : Obj} (h : Below B w u) (hb : B ≤ b) : Below B w (setBlock u b o) := by
 refine h.trans ⟨rfl, rfl, rfl, by simp [setBlock], fun k hk => ?_⟩
 have : b ≠ k := by omega
 simp [setBlock, this]
def reg (f : Fn) : Nat → List Deed → Int × Int
 | _, [] => (0, 0)
 | i, x :: r => if hits f x then ((i : Int), 10) else reg (upd f x.s x.does) (i + 1) r
def okA (xs : List Deed) : Prop := ∀ x ∈ xs, x.s.size ≤ 140737488355328
set_option maxRecDepth 100000 in
set_option maxHeartbeats 1000000 in
theorem region_any (w : World) (v : Value) (xs : List Deed) (hv : SeesA w v xs) (hok : okA xs) (hlen : xs.length ≤ 1000) :
  Calls Tryz.prog 34 #[v] w fun e w' => e = .returned (.tuple #[.int .i64 (reg (fun _ => none) 0 xs).1, .int .i64 (reg (fun _ => none) 0 xs).2]) ∧ Below w.heap.size w w' := by
 obtain ⟨a, cap, rfl, hL⟩ := hv
 have HL := hidI hL
 have HO := hidI hok
 obtain ⟨k, hk⟩ : ∃ k, xs.length = k := ⟨_, rfl⟩
 have HK := hidI hk
 rw [hk] at hlen ⊢
 clear hL hok hk
 obtain ⟨R, hR⟩ : ∃ R, reg (fun _ => none) 0 xs = R := ⟨_, rfl⟩
 have HR := hidI hR
 rw [hR]
 clear hR
 obtain ⟨mb, hmb⟩ : ∃ mb, w.heap.size = mb := ⟨_, rfl⟩
 have HM := hidI (mapD_made w)
 have HB := hidI ((Below.refl w.heap.size w).alloc (Nat.le_refl _) (.map #[] 0))
 rw [hmb] at HM HB
 have hmm := @run_makeMap Tryz.prog
 go_enter Tryz.func34, Tryz.ntmps34
 go_wp2
 try simp only [hmb]
 go_loopg [10] k (fun g s10 wx => ∃ i : Nat, i + g = k ∧ s10 = .int .i64 i ∧ Hid (∃ f, MapD wx mb f ∧ reg f i (xs.drop i) = R) ∧ Hid (Below mb w wx))
 case atStart => exact ⟨0, by omega, rfl, hidI ⟨_, HM.out, by simpa using HR.out⟩, HB⟩
 case round =>
  obtain ⟨i, hig, rfl, HX, HY⟩ := hrel
  cases gk with
  | zero =>
   obtain rfl : k = i := by omega
   have k1 : decide ((k : Int) < (k : Int)) = false := by simp
   go_wp2
   go_ret2
   obtain ⟨f, _, hf⟩ := HX.out
   rw [List.drop_eq_nil_of_le (by have := HK.out; omega)] at hf
   rw [← hf]
   exact ⟨rfl, by rw [hmb]; exact HY.out⟩
  | succ g =>
   have k1 : (i : Int) < (k : Int) := by omega
   obtain ⟨x, hx⟩ : ∃ x, xs[i]? = some x := ⟨_, List.getElem?_eq_getElem (by have := HK.out; omega)⟩
   have hxs : x.s.size ≤ maxLen := by have := HO.out x (List.mem_of_getElem? hx); unfold maxLen; omega
   rcases HL.out with hnil | ⟨b, off, rfl, hlie⟩
   ·subst hnil; simp at hx
   have kk : ∀ {p : Addr} {v : Value}, w.cell? p = some v → wr.cell? p = some v := fun {p v} hc => (HY.out.cell (by rw [← hmb]; exact World.block_lt_of_cell? w _ hc)).trans hc
   obtain ⟨c0, c1, c2, c3, c4, c5⟩ := hlie i x hx
   replace c0 := kk c0
   replace c1 := kk c1
   replace c2 := kk c2
   replace c3 := kk c3
   replace c4 := kk c4
   replace c5 := kk c5
   have hdrop : xs.drop i = x :: xs.drop (i + 1) := by
    rw [List.drop_eq_getElem_cons (by have := HK.out; omega)]
    congr 1
    exact Option.some.inj ((List.getElem?_eq_getElem _).symm.trans hx)
   obtain ⟨f, hM, hf⟩ := HX.out
   rw [hdrop] at hf
   have HF := hidI hf
   have hmlt := hM.lt
   have hmw : mb ≤ w.heap.size := by omega
   obtain ⟨W, hW⟩ : ∃ W, wr.alloc (.cells #[.int .u8 x.k, .string x.s, .int .u8 x.o, .bool x.i, .int .i64 x.e, .int .i64 x.c] 126) = W := ⟨_, rfl⟩
   have hWb : Below wr.heap.size wr W := by subst hW; (repeat (first | exact Below.refl _ _ | assumption | refine Below.drew ?_ | refine Below.alloc ?_ (by first | omega | (simp; done) | (simp; omega)) _ | refine Below.setCell ?_ (by first | omega | (simp; done) | (simp; omega)) _))
   have hWs : W.heap.size = wr.heap.size + 1 := by subst hW; simp
   have hMW : MapD W mb f := hM.same (hWb.block mb hmlt)
   have C := hidI (clash_any x W mb f hMW hxs)
   obtain ⟨hit, hhit⟩ : ∃ h, hits f x = h := ⟨_, rfl⟩
   rw [hhit] at C
   have e0 : W.cell? ⟨wr.heap.size, 0, none⟩ = some (.int .u8 x.k) := by subst hW; go_simp
   have e1 : W.cell? ⟨wr.heap.size, 1, none⟩ = some (.string x.s) := by subst hW; go_simp
   have e2 : W.cell? ⟨wr.heap.size, 2, none⟩ = some (.int .u8 x.o) := by subst hW; go_simp
   have e3 : W.cell? ⟨wr.heap.size, 3, none⟩ = some (.bool x.i) := by subst hW; go_simp
   have e4 : W.cell? ⟨wr.heap.size, 4, none⟩ = some (.int .i64 x.e) := by subst hW; go_simp
   have e5 : W.cell? ⟨wr.heap.size, 5, none⟩ = some (.int .i64 x.c) := by subst hW; go_simp
   have HWb := hidI hWb
   have HH := hidI hhit
   have HMW := hidI hMW
   clear hlie kk hdrop hf hM hx hWb hhit hMW HX
   go_wp2_with (go_at_call 55; refine Calls.mono C.out ?_; rintro e w3 ⟨rfl, hb3⟩; refine Hid.out ?_)
   refine hidI ?_
   have H3 := hidI hb3
   have hs3 := hb3.size
   clear hb3 C hW
   cases hit with
   | true =>
    go_wp2
    go_ret2
    have hf := HF.out
    rw [reg, HH.out] at hf
    simp only [if_true] at hf
    rw [← hf]
    exact ⟨rfl, by rw [hmb]; exact HY.out.trans ((HWb.out.trans (H3.out.mono HWb.out.size)).mono (by omega))⟩
   | false =>
    have D : ∀ u : World, Below w3.heap.size w3 u → ∀ {j : Nat} {v : Value}, W.cell? ⟨wr.heap.size, j, none⟩ = some v → u.cell? ⟨wr.heap.size, j, none⟩ = some v := fun u hu {j v} h =>
     ((hu.cell (p := ⟨wr.heap.size, j, none⟩) (by simp only; omega)).trans (H3.out.cell (p := ⟨wr.heap.size, j, none⟩) (by simp only; omega))).trans h
    obtain ⟨o, s1, s2, s3⟩ := store (HMW.out.same (H3.out.block mb (by omega))) hxs x.does
    have A0 : Hid (∀ u : World, Below w3.heap.size w3 u → u.cell? ⟨wr.heap.size, 0, none⟩ = some (.int .u8 x.k)) := hidI fun u hu => D u hu e0
    have A1 : Hid (∀ u : World, Below w3.heap.size w3 u → u.cell? ⟨wr.heap.size, 1, none⟩ = some (.string x.s)) := hidI fun u hu => D u hu e1
    have A2 : Hid (∀ u : World, Below w3.heap.size w3 u → u.cell? ⟨wr.heap.size, 2, none⟩ = some (.int .u8 x.o)) := hidI fun u hu => D u hu e2
    have A3 : Hid (∀ u : World, Below w3.heap.size w3 u → u.cell? ⟨wr.heap.size, 3, none⟩ = some (.bool x.i)) := hidI fun u hu => D u hu e3
    have A4 : Hid (∀ u : World, Below w3.heap.size w3 u → u.cell? ⟨wr.heap.size, 4, none⟩ = some (.int .i64 x.e)) := hidI fun u hu => D u hu e4
    have A5 : Hid (∀ u : World, Below w3.heap.size w3 u → u.cell? ⟨wr.heap.size, 5, none⟩ = some (.int .i64 x.c)) := hidI fun u hu => D u hu e5
    have U : Hid (∀ u : World, Below w3.heap.size w3 u → (Instr.mapUpdate 123 (.map (some mb)) (.string x.s) (dval x.does)).run Tryz.prog u = .ok () (setBlock u mb o)) := hidI fun u hu => s1 u (hu.block mb (by omega))
    have V : Hid (∀ u : World, u.heap[mb]? = some o → (Instr.mapUpdate 123 (.map (some mb)) (.string x.s) (dval x.does)).run Tryz.prog u = .ok () (setBlock u mb o)) := hidI s2
    have S3 := hidI s3
    have s0 : Hid (Below w3.heap.size w3 w3.drew) := hidI (Below.refl _ _).drew
    have C8 := hidI (deedOf_any x w3.drew)
    have hne : wr.heap.size ≠ mb := by omega
    clear D s1 s2 s3 e0 e1 e2 e3 e4 e5 c0 c1 c2 c3 c4 c5
    go_wp2
    go_region_held3 (fun w' => w'.cell? ⟨wr.heap.size, 0, none⟩ = some (.int .u8 x.k) ∧ w'.cell? ⟨wr.heap.size, 1, none⟩ = some (.string x.s) ∧ w'.cell? ⟨wr.heap.size, 2, none⟩ = some (.int .u8 x.o) ∧ w'.cell? ⟨wr.heap.size, 3, none⟩ = some (.bool x.i) ∧ w'.cell? ⟨wr.heap.size, 4, none⟩ = some (.int .i64 x.e) ∧ w'.cell? ⟨wr.heap.size, 5, none⟩ = some (.int .i64 x.c) ∧ (Instr.mapUpdate 123 (.map (some mb)) (.string x.s) (dval x.does)).run Tryz.prog w' = .ok () (setBlock w' mb o))
     (first | assumption | exact ⟨A0.out _ kk.out, A1.out _ kk.out, A2.out _ kk.out, A3.out _ kk.out, A4.out _ kk.out, A5.out _ kk.out, U.out _ kk.out⟩ | exact ⟨A0.out _ s0.out, A1.out _ s0.out, A2.out _ s0.out, A3.out _ s0.out, A4.out _ s0.out, A5.out _ s0.out, U.out _ s0.out⟩ | exact ⟨(sb_cell hne).trans (A0.out _ kk.out), (sb_cell hne).trans (A1.out _ kk.out), (sb_cell hne).trans (A2.out _ kk.out), (sb_cell hne).trans (A3.out _ kk.out), (sb_cell hne).trans (A4.out _ kk.out), (sb_cell hne).trans (A5.out _ kk.out), V.out _ (sb_same (by have := kk.out.size; omega))⟩)
     ((go_at_call 56; refine Calls.mono C8.out ?_; rintro e w4 ⟨rfl, hb4⟩; have kk := hidI (s0.out.trans (hb4.mono s0.out.size)); clear hb4))
    all_goals
     go_wp2
     go_roundg g
     case measure => omega
     case rel =>
      have b4 := kk.out
      refine ⟨i + 1, by omega, by go_num, hidI ⟨_, S3.out _ (sb_same (by have := b4.size; omega)), ?_⟩, hidI (sb_below (HY.out.trans (((HWb.out.trans (H3.out.mono HWb.out.size)).mono (by omega)).trans (b4.mono (by omega)))) (Nat.le_refl _))⟩
      have hf := HF.out
      rw [reg, HH.out] at hf
      simpa using hf
end Go.Proofs.YtmekkhfohmfjkaaGreatDoor.Clh
namespace Go.Proofs.YtmekkhfohmfjkaaGreatDoor
open Go.RowKit Go.Deep Go.MapKept
def toDeed (a : Actn) : Clh.Deed := ⟨a.k, a.name, a.op, a.inn, a.e, a.cond⟩
theorem sees_deeds {w : World} {v : Value} {l : List Actn} (h : SeesC w v l.length 6 (flatAc l)) : Clh.SeesA w v (l.map toDeed) := by
 obtain ⟨_, a, cap, rfl, h⟩ := h
 refine ⟨a, cap, by simp, ?_⟩
 rcases h with h | ⟨b, off, rfl, h⟩
 ·exact .inl (by rw [List.length_eq_zero_iff.1 h]; rfl)
 ·refine .inr ⟨b, off, rfl, fun j x hx => ?_⟩
  rw [List.getElem?_map] at hx
  obtain ⟨y, hy, rfl⟩ := Option.map_eq_some_iff.1 hx
  have g : ∀ (i : Nat) (c : Value), i < 6 → (acells y)[i]? = some c → w.cell? ⟨b, off + (j * 6 + i), none⟩ = some c := fun i c hi hc => h _ _ (by unfold flatAc; rw [zbD acells 6 zcD l j i y hy hi]; exact hc)
  have g0 := g 0 _ (by omega) rfl
  have g1 := g 1 _ (by omega) rfl
  have g2 := g 2 _ (by omega) rfl
  have g3 := g 3 _ (by omega) rfl
  have g4 := g 4 _ (by omega) rfl
  have g5 := g 5 _ (by omega) rfl
  simp only [← Nat.add_assoc, Nat.add_zero] at g0 g1 g2 g3 g4 g5
  exact ⟨g0, g1, g2, g3, g4, g5⟩
def regA (l : List Actn) : Int × Int := Clh.reg (fun _ => none) 0 (l.map toDeed)
def chkP : Nat → List Stm → Int × Int
 | _, [] => (0, 0)
 | i, s :: r => if s.k = 3 then (if (regA s.acts).2 = 0 then chkP (i + 1) r else ((i : Int), (regA s.acts).2)) else chkP (i + 1) r
def checkP (P : Prg) : Int × Int := if soundP P then chkP 0 P.stmts else (-1, 3)
set_option maxRecDepth 100000 in
set_option maxHeartbeats 2000000 in
theorem check_any (p : PV) (w : World) (hL : Laid w) (hp : SeesPv w p) (ho : PrgOk p.prg) (hl : soundP p.prg = true → ∀ s ∈ p.ss, s.s.acts.length ≤ 1000) :
  Calls Tryz.prog 20 #[.agg #[p.dv, p.xv, p.sv, p.mv]] w fun e w' => e = .returned (.tuple #[.int .i64 (checkP p.prg).1, .int .i64 (checkP p.prg).2]) ∧ Below w.heap.size w w' := by
 obtain ⟨_, da, dc, hd, _⟩ := id hp.d
 obtain ⟨_, xa, xc, hx, _⟩ := id hp.x
 obtain ⟨_, sa, sc, hs, hsl⟩ := id hp.s
 obtain ⟨_, ma, mc, hm, _⟩ := id hp.m
 have hq2 : (w.alloc (.cells #[.slice da p.ds.length dc, .slice xa p.xs.length xc, .slice sa p.ss.length sc, .slice ma p.ms.length mc] 47)).cell? ⟨w.heap.size, 2, none⟩ = some (.slice sa p.ss.length sc) := by go_simp
 obtain ⟨w2, hw2⟩ : ∃ w2, w.alloc (.cells #[.slice da p.ds.length dc, .slice xa p.xs.length xc, .slice sa p.ss.length sc, .slice ma p.ms.length mc] 47) = w2 := ⟨_, rfl⟩
 rw [hw2] at hq2
 have hb : Below w.heap.size w w2 := hw2 ▸ (Below.refl _ _).alloc (Nat.le_refl _) _
 have C := hidI (sound_any p w2 (hL.on hb) (hp.below hb) ho)
 have HB := hidI hb
 have HP := hidI hp
 have HSL := hidI hsl
 obtain ⟨k, hk⟩ : ∃ k, p.ss.length = k := ⟨_, rfl⟩
 have hkb : k ≤ 1099511627776 := by have := ho.sl; simp [PV.prg] at this; omega
 have HK := hidI hk
 have HO := hidI ho
 have HLL := hidI hl
 rw [hd, hx, hs, hm] at C
 rw [hd, hx, hs, hm]
 rw [hk] at C hw2 hq2 ⊢
 have HW2 := hidI hw2
 cases hS : soundP p.prg with
 | false =>
  have HR : Hid (checkP p.prg = (-1, 3)) := hidI (by unfold checkP; rw [hS]; rfl)
  rw [hS] at C
  rw [HR.out]
  clear hd hx hs hm hb hp ho hL hl hsl hk HR hw2 hq2
  go_enter Tryz.func20, Tryz.ntmps20
  go_wp2_with (go_at_call 31; rw [HW2.out]; refine C.out.mono ?_; intro e w1 h1; obtain ⟨rfl, hb1⟩ := h1; clear C)
  go_ret2
  exact ⟨rfl, HB.out.trans (hb1.mono HB.out.size)⟩
 | true =>
  have HR : Hid (checkP p.prg = chkP 0 (p.ss.map SV.s)) := hidI (by unfold checkP; rw [hS]; rfl)
  rw [hS] at C
  obtain ⟨R, hRR⟩ : ∃ R, checkP p.prg = R := ⟨_, rfl⟩
  have HA : Hid (∀ s ∈ p.ss, s.s.acts.length ≤ 1000) := hidI (hl hS)
  have HR0 : Hid (chkP 0 (p.ss.map SV.s) = R) := hidI (by rw [← HR.out, hRR])
  rw [hRR]
  have hws : w2.heap.size = w.heap.size + 1 := by rw [← hw2]; simp
  have hc2 : ∀ (u : World), Below w2.heap.size w2 u → u.cell? ⟨w.heap.size, 2, none⟩ = some (.slice sa k sc) := fun u hu => (hu.cell (p := ⟨w.heap.size, 2, none⟩) (by simp only; omega)).trans hq2
  have HC2 := hidI hc2
  clear hd hx hs hm hb hp ho hL hl hsl hk HR hS hRR hc2 hw2 hq2
  go_enter Tryz.func20, Tryz.ntmps20
  go_wp2_with (go_at_call 31; rw [HW2.out]; refine C.out.mono ?_; intro e w1 h1; obtain ⟨rfl, hb1⟩ := h1; clear C; have g2 := HC2.out w1 hb1; have HB1 := hidI hb1; clear hb1)
  go_loopg [14] k (fun g s14 wx => ∃ i : Nat, i + g = k ∧ s14 = .int .i64 (i : Int) ∧ Hid (chkP i ((p.ss.drop i).map SV.s) = R) ∧ Hid (Below w2.heap.size w2 wx))
  case atStart => exact ⟨0, by omega, rfl, by simpa using HR0, HB1⟩
  case round =>
   obtain ⟨i, hig, rfl, HX, HY⟩ := hrel
   cases gk with
   | zero =>
    obtain rfl : k = i := by omega
    have k1 : decide ((k : Int) < (k : Int)) = false := by simp
    go_wp2
    go_ret2
    have hX := HX.out
    rw [List.drop_eq_nil_of_le (by have := HK.out; omega)] at hX
    rw [← hX]
    exact ⟨rfl, HB.out.trans (HY.out.mono HB.out.size)⟩
   | succ g =>
    have k1 : (i : Int) < (k : Int) := by omega
    obtain ⟨x, hx⟩ : ∃ x, p.ss[i]? = some x := ⟨_, List.getElem?_eq_getElem (by have := HK.out; omega)⟩
    have hxm : x ∈ p.ss := List.mem_of_getElem? hx
    obtain ⟨sb, off, rfl, hcell⟩ : ∃ b off, sa = some ⟨b, off, none⟩ ∧ ∀ (j : Nat) (c : Value), (flatS p.ss)[j]? = some c → w.cell? ⟨b, off + j, none⟩ = some c := by
     rcases HSL.out with h | h
     ·have := HK.out; omega
     ·exact h
    have hyw : Below w.heap.size w wr := HB.out.trans (HY.out.mono HB.out.size)
    have kk : ∀ {q : Addr} {v : Value}, w.cell? q = some v → wr.cell? q = some v := fun {q v} hc => (hyw.cell (World.block_lt_of_cell? w _ hc)).trans hc
    have gx : ∀ (j : Nat) (c : Value), j < 8 → (scells x)[j]? = some c → wr.cell? ⟨sb, off + (i * 8 + j), none⟩ = some c := fun j c hj hc => kk (hcell _ _ (by unfold flatS; rw [zbD scells 8 zbQ p.ss i j x hx hj]; exact hc))
    have x0 := gx 0 _ (by omega) rfl
    have x1 := gx 1 _ (by omega) rfl
    have x2 := gx 2 _ (by omega) rfl
    have x3 := gx 3 _ (by omega) rfl
    have x4 := gx 4 _ (by omega) rfl
    have x5 := gx 5 _ (by omega) rfl
    have x6 := gx 6 _ (by omega) rfl
    have x7 := gx 7 _ (by omega) rfl
    simp only [← Nat.add_assoc, Nat.add_zero] at x0 x1 x2 x3 x4 x5 x6 x7
    have hS8 := HO.out.s x.s (by simp [PV.prg]; exact ⟨x, hxm, rfl⟩)
    obtain ⟨_, aa, ac, hav, _⟩ := id (HP.out.sa x hxm)
    obtain ⟨_, ta, tc, htv, _⟩ := id (HP.out.st x hxm)
    obtain ⟨_, ea, ec, hev, _⟩ := id (HP.out.se x hxm)
    have HSA := hidI (HP.out.sa x hxm)
    have hdrop : (p.ss.drop i).map SV.s = x.s :: (p.ss.drop (i + 1)).map SV.s := by
     rw [List.drop_eq_getElem_cons (by have := HK.out; omega)]
     rw [List.map_cons]
     congr 2
     exact Option.some.inj ((List.getElem?_eq_getElem _).symm.trans hx)
    have hX := HX.out
    rw [hdrop] at hX
    unfold chkP at hX
    have h14 := hS8.1
    rw [hav] at x5 HSA
    rw [htv] at x6
    rw [hev] at x7
    by_cases h3 : x.s.k = 3
    ·rw [if_pos h3] at hX
     rw [h3] at x0
     obtain ⟨W, hW⟩ : ∃ W, wr.alloc (.cells #[.int .u8 (3 : Int), .string x.s.name, .int .u8 (x.s.op : Int), .int .i64 x.s.e, .int .i64 x.s.cond, .slice aa x.s.acts.length ac, .slice ta x.s.thn.length tc, .slice ea x.s.els.length ec] 78) = W := ⟨_, rfl⟩
     have hWb : Below wr.heap.size wr W := hW ▸ (Below.refl _ _).alloc (Nat.le_refl _) _
     have hwW : Below w.heap.size w W := hyw.trans (hWb.mono hyw.size)
     have CR := hidI (Clh.region_any W _ _ (sees_deeds (HSA.out.below hwW (Nat.le_refl _))) (by
      intro y hy
      obtain ⟨a, ha, rfl⟩ := List.mem_map.1 hy
      exact (hS8.2.2.2.2.2.2 a ha).2.2) (by simpa using HA.out x hxm))
     obtain ⟨r1, hr1⟩ : ∃ r1, (regA x.s.acts).1 = r1 := ⟨_, rfl⟩
     obtain ⟨r2, hr2⟩ : ∃ r2, (regA x.s.acts).2 = r2 := ⟨_, rfl⟩
     change Hid (Calls _ _ _ _ fun e w' => e = .returned (.tuple #[.int .i64 (regA x.s.acts).1, .int .i64 (regA x.s.acts).2]) ∧ _) at CR
     rw [hr1, hr2] at CR
     rw [hr2] at hX
     have HXX := hidI hX
     have HWb := hidI hWb
     have HWW := hidI hW
     clear hW hX hwW hWb hdrop hav htv hev hS8 gx kk hcell hx hxm HX hr1 hr2 h14 hyw
     go_wp2_with (go_at_call 34; rw [HWW.out]; refine CR.out.mono ?_; rintro e w3 ⟨rfl, hb3⟩; have H3 := hidI hb3; clear hb3 CR; refine Hid.out ?_)
     refine hidI ?_
     by_cases h0 : r2 = 0
     ·subst h0
      go_wp2
      go_roundg g
      case measure => omega
      case rel =>
       refine ⟨i + 1, by omega, by go_num, hidI ?_, hidI (HY.out.trans ((HWb.out.trans (H3.out.mono HWb.out.size)).mono HY.out.size))⟩
       simpa using HXX.out
     ·have k2 : decide (r2 = 0) = false := by simpa using h0
      have k4 : (r2 != 0) = true := by simpa using h0
      go_wp2
      go_ret2
      have hX := HXX.out
      rw [if_neg h0] at hX
      rw [← hX]
      exact ⟨rfl, HB.out.trans ((HY.out.trans ((HWb.out.trans (H3.out.mono HWb.out.size)).mono HY.out.size)).mono HB.out.size)⟩
    ·rw [if_neg h3] at hX
     have k3 : decide (((x.s.k : Nat) : Int) = 3) = false := by simp; omega
     have HXX := hidI hX
     clear hX hdrop hav htv hev hS8 gx kk hcell hx hxm HX hyw
     go_wp2
     go_roundg g
     case measure => omega
     case rel =>
      refine ⟨i + 1, by omega, by go_num, HXX, hidI ?_⟩
      exact HY.out.trans ((Below.refl _ _).alloc (Nat.le_refl _) _ |>.mono HY.out.size)
end Go.Proofs.YtmekkhfohmfjkaaGreatDoor
