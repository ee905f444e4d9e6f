/-
  Acts, as the laws of this seat have them: what an act is, acts in a row.
-/
import Derived.Test.YtffdgjlojechaaaChecked
import Derived.WalkKit
import Derived.Carry
import Derived.OrdersHeld
import Derived.BigQuiet
import Derived.Deep.LoopGhost
import Derived.Deep.OwnRows
import Derived.Deep.AppendLies
import Derived.Deep.RegionHeld3
import Derived.Laws.MakeOwn
import Derived.Laws.ResultCell
import Derived.Laws.StructEq
import Derived.Lib.SmallJoins
import Derived.Lib.SliceRun
import Derived.Lib.QuietBelow
import Derived.WideKeyEntry
import Derived.DeepKeys4
import Derived.Maps.OwnRows
namespace Go.Proofs.Ytffdgjlojechaaa
open Go.RowKit Go.Deep Go.MapKept
theorem hidI {p : Prop} (h : p) : Hid p := h
abbrev Wf8 (a : Int) : Prop := (Lit.int .u8 a).wf = true
/-- An act. -/
structure Deed where
  k : Int
  s : ByteArray
  o : Int
  i : Bool
  e : Int
  c : Int
def Deed.val (x : Deed) : Value := .agg #[.int .u8 x.k, .string x.s, .int .u8 x.o, .bool x.i, .int .i64 x.e, .int .i64 x.c]
/-- What an act does to its name: it puts, or it takes in. -/
def Deed.does (x : Deed) : Bool × Int := if x.k = 1 then (true, 0) else (false, x.o)
def dval (d : Bool × Int) : Value := .agg #[.bool d.1, .int .u8 d.2]
/-- Acts lie in a row. -/
def SeesA (w : World) (v : Value) (xs : List Deed) : Prop :=
  ∃ (a : Option Addr) (cap : Nat), v = .slice a xs.length cap ∧ (xs = [] ∨ ∃ b off, a = some ⟨b, off, none⟩ ∧ ∀ (j : Nat) (x : Deed), xs[j]? = some x → w.cell? ⟨b, off + j * 6, none⟩ = some (.int .u8 x.k) ∧ w.cell? ⟨b, off + j * 6 + 1, none⟩ = some (.string x.s) ∧ w.cell? ⟨b, off + j * 6 + 2, none⟩ = some (.int .u8 x.o) ∧ w.cell? ⟨b, off + j * 6 + 3, none⟩ = some (.bool x.i) ∧ w.cell? ⟨b, off + j * 6 + 4, none⟩ = some (.int .i64 x.e) ∧ w.cell? ⟨b, off + j * 6 + 5, none⟩ = some (.int .i64 x.c))
theorem SeesA.below {w w' : World} {B : Nat} {v : Value} {xs : List Deed} (h : SeesA w v xs) (hb : Below B w w') (hB : w.heap.size ≤ B) : SeesA w' v xs := by
  obtain ⟨a, cap, rfl, h⟩ := h
  refine ⟨a, cap, rfl, ?_⟩
  rcases h with h | ⟨b, off, rfl, h⟩
  · exact .inl h
  · refine .inr ⟨b, off, rfl, fun j x hx => ?_⟩
    obtain ⟨h0, h1, h2, h3, h4, h5⟩ := h j x hx
    have kk : ∀ {p : Addr} {v : Value}, w.cell? p = some v → w'.cell? p = some v := fun {p v} hc => (hb.cell (Nat.lt_of_lt_of_le (World.block_lt_of_cell? w _ hc) hB)).trans hc
    exact ⟨kk h0, kk h1, kk h2, kk h3, kk h4, kk h5⟩
theorem results_cell1 {fn : Func} {p : Tmp} {ty : TypeId} (h : fn.results = #[.cell p ty]) (tmps : Array Value) (P : Program) (w : World) :
    (results fn tmps).run P w = ((asAddr (tmps.getD p undef)).run P w).andThen fun a w₁ => (loadVar ty a).run P w₁ := by
  simp only [results, h]
  simp [Sem.run_bind, Result.andThen]
/-- deedOf. -/
theorem deedOf_any (x : Deed) (w : World) : Calls Try.prog 18 #[x.val] w fun e w' => e = .returned (dval x.does) ∧ Below w.heap.size w w' := by
  obtain ⟨k, s, o, i, e, c⟩ := x
  unfold Deed.val Deed.does dval
  simp only
  by_cases hk : k = 1
  · subst hk
    go_enter Try.func18, Try.ntmps18
    go_wp2
    (try simp only [Exit.inBlock, Exit.then])
    refine bodyPost_ret (v := .agg #[.bool true, .int .u8 0]) ?_ rfl ⟨by simp, ?_⟩
    · rw [results_cell1 rfl]
      go_simp
    · (repeat (first | exact Below.refl _ _ | assumption | refine Below.drew ?_ | refine Below.alloc ?_ (by first | omega | (simp; done) | (simp; omega)) _ | refine Below.setCell ?_ (by first | omega | (simp; done) | (simp; omega)) _))
  · have k1 : (k == 1) = false := by simpa using hk
    go_enter Try.func18, Try.ntmps18
    go_wp2
    (try simp only [Exit.inBlock, Exit.then])
    refine bodyPost_ret (v := .agg #[.bool false, .int .u8 o]) ?_ rfl ⟨by simp, ?_⟩
    · rw [results_cell1 rfl]
      go_simp
    · (repeat (first | exact Below.refl _ _ | assumption | refine Below.drew ?_ | refine Below.alloc ?_ (by first | omega | (simp; done) | (simp; omega)) _ | refine Below.setCell ?_ (by first | omega | (simp; done) | (simp; omega)) _))
/-- The laws' few. -/
theorem few_any (a : Option Addr) (n cap : Nat) (w : World) (hc : n ≤ cap) : Calls Try.prog 7 #[.slice a n cap] w fun e w' => e = .returned (.slice a (min n 14) cap) ∧ w = w' := by
  by_cases h : 14 < n
  · have k1 : (14 : Int) < (n : Int) := by omega
    have k2 : (14 : Nat) ≤ cap := by omega
    have k3 : (14 : Int) ≤ (cap : Int) := by omega
    go_enter Try.func7, Try.ntmps7
    go_wp2
    go_ret
    exact ⟨by simp; omega, rfl⟩
  · have k1 : decide ((14 : Int) < (n : Int)) = false := by simp; omega
    go_enter Try.func7, Try.ntmps7
    go_wp2
    go_ret
    exact ⟨by rw [Nat.min_eq_left (by omega)]; rfl, rfl⟩
end Go.Proofs.Ytffdgjlojechaaa
