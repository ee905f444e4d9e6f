/-
  The deferred closure of read: a fault is caught.
-/
import Derived.Test.YtnlplkchkhibaaaDoorEndW
import Derived.Tactics
import Derived.Tactics2
import Derived.Defers
import Derived.Recover
import Derived.Laws.Pointers
namespace Go.Proofs.YtnlplkchkhibaaaDoor
open Go.RowKit Go.Deep Go.MapKept
theorem assert59 (v : Value) (w : World) : (Instr.typeAssert (.iface 59 v) 20 59 false).run Tryd.prog w = .ok v w := by kernel_rfl
theorem catch_fault (E : Nat) (x y p er : Int) (older : List PanicEntry) (w : World) (h0 : w.cell? ⟨E, 0, none⟩ = some (.int .i64 x)) (h1 : w.cell? ⟨E, 1, none⟩ = some (.int .i64 y)) (hz : ∀ j, w.frozen? ⟨E, j, none⟩ = false) :
    CallsD Tryd.prog 44 #[.pointer (some ⟨E, 0, none⟩)] (.panicking ({ v := .iface 59 (.agg #[.int .i64 p, .int .i64 er]), recovered := false } :: older)) w fun e u' w' =>
      e = .returned (.tuple #[]) ∧ u' = .panicking ({ v := .iface 59 (.agg #[.int .i64 p, .int .i64 er]), recovered := true } :: older) ∧ w' = (w.setCell ⟨E, 0, none⟩ (.int .i64 p)).setCell ⟨E, 1, none⟩ (.int .i64 er) := by
  have hz0 := hz 0
  have hz1 := hz 1
  refine callsD_of_wpS Tryd.func44 rfl fun c₀ cs hu => ?_
  apply wpS_seq
  apply wpS_region
  simp [wpOpsS, go_sem, recoverD, hu, Tryd.ntmps44, Exit.thenS]
  apply wpS_seq
  apply wpS_region
  simp [wpOpsS, go_sem, Exit.thenS]
  refine wpS_cond (t := true) (by simp [Act.eval, Array.replicate]) ?_
  simp only [if_true]
  apply wpS_region
  simp [wpOpsS, go_sem, assert59, h0, h1, hz0, hz1]
  simp [bodyPostS, results, Tryd.results44]
theorem catch_idle (E : Nat) (w : World) :
    CallsD Tryd.prog 44 #[.pointer (some ⟨E, 0, none⟩)] .returning w fun e u' w' => e = .returned (.tuple #[]) ∧ u' = .returning ∧ w' = w := by
  refine callsD_of_wpS Tryd.func44 rfl fun c₀ cs hu => ?_
  apply wpS_seq
  apply wpS_region
  simp [wpOpsS, go_sem, recoverD, hu, Tryd.ntmps44, Exit.thenS]
  refine wpS_of_wp ?_
  go_wp2
  cases c₀
  simp_all [bodyPostS, results, Tryd.results44]
end Go.Proofs.YtnlplkchkhibaaaDoor
