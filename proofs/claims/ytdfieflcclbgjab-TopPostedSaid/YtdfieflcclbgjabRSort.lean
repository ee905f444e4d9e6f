/-
  The document's order of messages, whether messages are the same, those to a node.
-/
import Derived.Test.YtdfieflcclbgjabMBase
namespace Go.Proofs.Ytdfieflcclbgjab
open Go.RowKit Go.Deep Go.MapKept Go.Sort
def bef (x y : Msg) : Bool := if x.to = y.to then (if x.tag = y.tag then decide (x.val < y.val) else decide (x.tag < y.tag)) else decide (x.to < y.to)
@[go_sem] theorem eq48 (a b c d e f : Int) (w : World) : (Op.equalIn 10000 26 (.agg #[.int .i64 a, .int .i64 b, .int .i64 c]) (.agg #[.int .i64 d, .int .i64 e, .int .i64 f])).run Try.prog w = .ok (a == d && b == e && c == f) w := by
  have u3 := Try.underlying3
  have u31 := Try.underlying24
  have hS : Try.prog.underlying 26 = some (.struct (Try.prog.fieldsOf 26)) := by kernel_rfl
  have hp : Try.prog.stoodInHeld 26 = false := by kernel_rfl
  rw [show (10000 : Nat) = 9999 + 1 from rfl, run_equalIn_agg w 9999 26 _ _ hS hp]
  simp only [Program.fieldsOf, Try.underlying26]
  go_simp
  cases h1 : (a == d) <;> cases h2 : (b == e) <;> cases h3 : (c == f) <;> simp_all
theorem SeesM.cell {w : World} {v : Value} {xs : List Msg} (h : SeesM w v xs) {j : Nat} {x : Msg} (hx : xs[j]? = some x) : ∃ b off cap, v = .slice (some ⟨b, off, none⟩) xs.length cap ∧ w.cell? ⟨b, off + j * 3, none⟩ = some (.int .i64 x.to) ∧ w.cell? ⟨b, off + j * 3 + 1, none⟩ = some (.int .i64 x.tag) ∧ w.cell? ⟨b, off + j * 3 + 2, none⟩ = some (.int .i64 x.val) := by
  obtain ⟨a, cap, rfl, _, h⟩ := h
  rcases h with rfl | ⟨b, off, rfl, h⟩
  · simp at hx
  · exact ⟨b, off, cap, rfl, h j x hx⟩
end Go.Proofs.Ytdfieflcclbgjab
