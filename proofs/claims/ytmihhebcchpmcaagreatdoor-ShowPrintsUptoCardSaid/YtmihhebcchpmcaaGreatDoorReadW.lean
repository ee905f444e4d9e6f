/-
  A form put behind the others, in whatever order.
-/
import Derived.Test.YtmihhebcchpmcaaGreatDoorRows2
import Derived.Test.YtmihhebcchpmcaaGreatDoorZed
import Derived.Test.YtmihhebcchpmcaaGreatDoorSeqs
import Derived.Test.YtmihhebcchpmcaaGreatDoorToks
import Derived.Test.YtmihhebcchpmcaaGreatDoorRToks
import Derived.Test.YtmihhebcchpmcaaGreatDoorRange
import Derived.Laws.ResultCell
import Derived.Tactics
import Derived.Tactics2
import Derived.Defers
import Derived.Recover
import Derived.Laws.Pointers
namespace Go.Proofs.YtmihhebcchpmcaaGreatDoor
open Go.RowKit Go.Deep Go.MapKept
theorem Tryz.info56x : (Tryz.prog.info? 56).map (fun i => (i.zero, i.size, i.bytes)) = some (some (.agg #[.int .u8 0, .string ⟨#[]⟩, .int .i64 0, .slice none 0 0, .int .i64 0]), 5, 64) := by kernel_rfl
theorem form_seen {W : World} (f : Frm) : SeesC (W.alloc (.cells #[.int .u8 f.k, .string f.s, .int .i64 f.n, .slice none 0 0, .int .i64 f.p] 56)) (.slice (some ⟨W.heap.size, 0, none⟩) 1 1) 1 5 (fcells (f, .slice none 0 0)) := by
  refine ⟨rfl, _, 1, rfl, .inr ⟨W.heap.size, 0, rfl, fun j c hc => ?_⟩⟩
  have hj : j < 5 := by have := (List.getElem?_eq_some_iff.1 hc).1; simpa [fcells] using this
  have hm : j = 0 ∨ j = 1 ∨ j = 2 ∨ j = 3 ∨ j = 4 := by omega
  rcases hm with rfl | rfl | rfl | rfl | rfl <;> simp only [fcells, List.getElem?_cons_zero, List.getElem?_cons_succ, Option.some.injEq] at hc <;> subst hc <;> go_simp
theorem fcells_one (f : Frm) : ∀ c ∈ fcells (f, .slice none 0 0), c.oneCell' = true := by
  intro c hc
  simp only [fcells, List.mem_cons, List.mem_nil_iff, or_false] at hc
  rcases hc with rfl | rfl | rfl | rfl | rfl <;> rfl
end Go.Proofs.YtmihhebcchpmcaaGreatDoor
/-
  A form put behind all others: what add comes to.
-/
namespace Go.Proofs.YtmihhebcchpmcaaGreatDoor
open Go.RowKit Go.Deep Go.MapKept
theorem Tryz.info3x : (Tryz.prog.info? 3).map (fun i => (i.zero, i.size, i.bytes)) = some (some (.int .i64 0), 1, 8) := by kernel_rfl
theorem int_seen {W : World} (x : Int) : SeesC (W.alloc (.cells #[.int .i64 x] 3)) (.slice (some ⟨W.heap.size, 0, none⟩) 1 1) 1 1 [.int .i64 x] := by
  refine ⟨rfl, _, 1, rfl, .inr ⟨W.heap.size, 0, rfl, fun j c hc => ?_⟩⟩
  have hj : j < 1 := by have := (List.getElem?_eq_some_iff.1 hc).1; simpa using this
  obtain rfl : j = 0 := by omega
  simp only [List.getElem?_cons_zero, Option.some.injEq] at hc
  subst hc
  go_simp
theorem int_at {W : World} {b : Nat} (x : Int) (h : b = W.heap.size) : SeesC (W.alloc (.cells #[.int .i64 x] 3)) (.slice (some ⟨b, 0, none⟩) 1 1) 1 1 [.int .i64 x] := by subst h; exact int_seen x
section
variable {w : World} {base B : Nat} {fs : List FV} {top opn : List Nat} {fv tv ov : Value}
end
end Go.Proofs.YtmihhebcchpmcaaGreatDoor
/-
  A form put into the innermost bracket that is open, and add at every reader.
-/
namespace Go.Proofs.YtmihhebcchpmcaaGreatDoor
open Go.RowKit Go.Deep Go.MapKept
section
variable {w : World} {base B : Nat} {fs : List FV} {top opn : List Nat} {fv tv ov : Value}
theorem addF_last {fs : List FV} {top opn : List Nat} {b : Nat} {x : FV} {kv kv2 : Value} (f : Frm) (hb : opn.getLast? = some b) (hx : fs[b]? = some x) :
    addF f ⟨fs.map Prod.fst, top, opn⟩ = ⟨(fs.set b (addKid fs.length x.1, kv) ++ [(f, kv2)]).map Prod.fst, top, opn⟩ := by
  unfold addF
  rw [hb]
  simp only [List.map_append, List.map_cons, List.map_nil, List.length_map, St.mk.injEq, and_true, List.append_cancel_right_eq]
  apply List.ext_getElem?
  intro i
  rw [List.getElem?_modify, List.map_set, List.getElem?_set, List.getElem?_map, List.length_map]
  have hbl : b < fs.length := (List.getElem?_eq_some_iff.1 hx).1
  by_cases hi : b = i
  · subst hi
    obtain ⟨_, rfl⟩ := List.getElem?_eq_some_iff.1 hx
    simp [hbl]
  · simp [hi]
end
end Go.Proofs.YtmihhebcchpmcaaGreatDoor
/-
  A bracket that opens, in whatever order.
-/
namespace Go.Proofs.YtmihhebcchpmcaaGreatDoor
open Go.RowKit Go.Deep Go.MapKept
end Go.Proofs.YtmihhebcchpmcaaGreatDoor
/-
  The program's small functions of signs and pieces.
-/
namespace Go.Proofs.YtmihhebcchpmcaaGreatDoor
open Go.RowKit Go.Deep Go.MapKept
def brI (c : Int) : Bool := c == 40 || c == 41
theorem brI_eq (c : UInt8) : brI (c.toNat : Int) = bracket c := by
  unfold brI bracket
  have h1 : ((c.toNat : Int) == 40) = (c == 40) := u8_eq c 40 (by decide)
  have h2 : ((c.toNat : Int) == 41) = (c == 41) := u8_eq c 41 (by decide)
  rw [h1, h2]
theorem results_one {fn : Func} {p : Tmp} {ty : TypeId} (h : fn.results = #[.cell p ty]) (tmps : Array Value) (P : Program) (w : World) :
    (results fn tmps).run P w = ((asAddr (tmps.getD p undef)).run P w).andThen fun a w₁ => (loadVar ty a).run P w₁ := by
  simp only [results, h]
  simp [Sem.run_bind, Result.andThen]
end Go.Proofs.YtmihhebcchpmcaaGreatDoor
/-
  A name, in whatever order.
-/
namespace Go.Proofs.YtmihhebcchpmcaaGreatDoor
open Go.RowKit Go.Deep Go.MapKept
end Go.Proofs.YtmihhebcchpmcaaGreatDoor
/-
  A bracket that closes, in whatever order.
-/
namespace Go.Proofs.YtmihhebcchpmcaaGreatDoor
open Go.RowKit Go.Deep Go.MapKept
end Go.Proofs.YtmihhebcchpmcaaGreatDoor
/-
  One token more: what take comes to.
-/
namespace Go.Proofs.YtmihhebcchpmcaaGreatDoor
open Go.RowKit Go.Deep Go.MapKept
section
variable {w : World} {base B : Nat} {fs : List FV} {top opn : List Nat} {fv tv ov : Value}
end
end Go.Proofs.YtmihhebcchpmcaaGreatDoor
/-
  A bracket that is open at the end, in whatever order; what end comes to.
-/
namespace Go.Proofs.YtmihhebcchpmcaaGreatDoor
open Go.RowKit Go.Deep Go.MapKept
section
variable {w : World} {base B : Nat} {fs : List FV} {top opn : List Nat} {fv tv ov : Value}
theorem drew_drewN (w : World) (n : Nat) : w.drew.drewN n = w.drewN (1 + n) := by
  unfold World.drew World.drewN
  simp [Nat.add_assoc]
end
end Go.Proofs.YtmihhebcchpmcaaGreatDoor
/-
  The deferred closure of read: a fault is caught.
-/
namespace Go.Proofs.YtmihhebcchpmcaaGreatDoor
open Go.RowKit Go.Deep Go.MapKept
end Go.Proofs.YtmihhebcchpmcaaGreatDoor
/-
  Tokens read, one behind the other; a fault is caught.
-/
namespace Go.Proofs.YtmihhebcchpmcaaGreatDoor
open Go.RowKit Go.Deep Go.MapKept
def IsSl (v : Value) : Prop := ∃ a n c, v = .slice a n c
theorem own_sl {w : World} {base e size n : Nat} {v : Value} {xs : List Value} (h : w.ownsRow base e size v n xs) : IsSl v := by
  obtain ⟨a, c, e⟩ := own_slice h
  exact ⟨a, n, c, e⟩
theorem steps_append (a b : List Tok) : ∀ (σ : St), steps (a ++ b) σ = (match steps a σ with | .error e => .error e | .ok σ' => steps b σ' : Except (Int × Int) St) := by
  induction a with
  | nil => intro σ; rfl
  | cons t r ih =>
    intro σ
    simp only [List.cons_append, steps]
    cases step σ t with
    | error e => rfl
    | ok σ' => exact ih σ'
theorem steps_next {ts : List Tok} {j : Nat} {t : Tok} {σ σ0 : St} (hj : ts[j]? = some t) (h : steps (ts.take j) σ0 = .ok σ) : steps (ts.take (j + 1)) σ0 = step σ t := by
  rw [List.take_add_one, hj, steps_append, h]
  show (match step σ t with | .error e => .error e | .ok σ' => steps [] σ' : Except (Int × Int) St) = step σ t
  cases step σ t <;> rfl
theorem steps_stop {ts : List Tok} {j : Nat} {t : Tok} {σ σ0 : St} {q : Int × Int} (hj : ts[j]? = some t) (h : steps (ts.take j) σ0 = .ok σ) (hq : step σ t = .error q) : steps ts σ0 = .error q := by
  have h1 := steps_next hj h
  rw [hq] at h1
  rw [← List.take_append_drop (j + 1) ts, steps_append, h1]
theorem parse_stop {ts : List Tok} {j : Nat} {t : Tok} {σ : St} {q : Int × Int} (hj : ts[j]? = some t) (h : steps (ts.take j) begin0 = .ok σ) (hq : step σ t = .error q) : parse ts = .error q := by
  unfold parse
  rw [steps_stop hj h hq]
theorem parse_end {ts : List Tok} {σ : St} (h : steps ts begin0 = .ok σ) : parse ts = finish σ := by
  unfold parse
  rw [h]
end Go.Proofs.YtmihhebcchpmcaaGreatDoor
