/-
  Two arrays of eight bytes that are the same are told so.
-/
import Derived.Test.YtcaecfmjnboamaaDoorChecked
import Derived.WalkKit
import Derived.WalkSpells
import Derived.WalkLawsBesides
namespace Go.Proofs.YtcaecfmjnboamaaDoor
open Go.RowKit
theorem eq8d (d : Nat) (a0 a1 a2 a3 a4 a5 a6 a7 : Int) (w : World) : (Op.equalIn (d + 1 + 1) 38 (.agg #[.int .u8 a0, .int .u8 a1, .int .u8 a2, .int .u8 a3, .int .u8 a4, .int .u8 a5, .int .u8 a6, .int .u8 a7]) (.agg #[.int .u8 a0, .int .u8 a1, .int .u8 a2, .int .u8 a3, .int .u8 a4, .int .u8 a5, .int .u8 a6, .int .u8 a7])).run Tryd.prog w = .ok true w := by
  have e (t : Int) : (Op.equalIn (d + 1) 5 (.int .u8 t) (.int .u8 t)).run Tryd.prog w = .ok true w := by
    rw [run_equalIn_int w d 5 .u8 .u8 t t Tryd.underlying5]; simp
  have hsz : (sizeOf 5).run Tryd.prog w = .ok 1 w := by kernel_rfl
  have ha : (isAgg 5).run Tryd.prog w = .ok false w := by kernel_rfl
  have hp (xs : Array Value) (i : Nat) (v : Value) (h : xs[i]? = some v) : (part 5 xs i).run Tryd.prog w = .ok v w := by
    simp [part, ha, h]
  rw [Op.equalIn]
  simp only [Sem.run_bind, run_underlying Tryd.underlying38, Result.andThen_ok, hsz]
  simp [hp, e, Std.Legacy.Range.forIn_eq_forIn_range', List.range'_succ, Sem.run_bind]
theorem eq8 (a0 a1 a2 a3 a4 a5 a6 a7 : Int) (w : World) : (Op.equalIn 10000 38 (.agg #[.int .u8 a0, .int .u8 a1, .int .u8 a2, .int .u8 a3, .int .u8 a4, .int .u8 a5, .int .u8 a6, .int .u8 a7]) (.agg #[.int .u8 a0, .int .u8 a1, .int .u8 a2, .int .u8 a3, .int .u8 a4, .int .u8 a5, .int .u8 a6, .int .u8 a7])).run Tryd.prog w = .ok true w :=
  eq8d 9998 a0 a1 a2 a3 a4 a5 a6 a7 w
end Go.Proofs.YtcaecfmjnboamaaDoor
