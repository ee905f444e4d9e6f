/-
  The innermost bracket that is open.
-/
import Derived.Test.YtnlplkchkhibaaaDoorReader
namespace Go.Proofs.YtnlplkchkhibaaaDoor
open Go.RowKit Go.Deep Go.MapKept
section
variable {w : World} {base B : Nat} {fs : List FV} {top opn : List Nat} {fv tv ov : Value}
theorem own_some {w : World} {base e size n : Nat} {v : Value} {xs : List Value} (h : w.ownsRow base e size v n xs) (hn : 0 < n) : ∃ g cap, v = .slice (some ⟨g, 0, none⟩) n cap ∧ base ≤ g ∧ g < w.heap.size := by
  have hl := h.lt
  rcases h.2 with ⟨_, h0⟩ | ⟨g, cap, cur, rfl, _⟩
  · omega
  · have := hl g rfl
    exact ⟨g, cap, rfl, this.1, this.2⟩
theorem own_cell {w : World} {base e size n g cap : Nat} {xs : List Value} (h : w.ownsRow base e size (.slice (some ⟨g, 0, none⟩) n cap) n xs) {j : Nat} {u : Value} (hj : xs[j]? = some u) : w.cell? ⟨g, j, none⟩ = some u := by
  have := World.ownsRow.cells h (g := g) rfl j u hj
  rwa [show (⟨g, 0, none⟩ : Addr).add j = ⟨g, 0 + j, none⟩ from Addr.add_lit .., Nat.zero_add] at this
theorem inner_any (h : RD w base B fs top opn fv tv ov) (hG : opn.length ≤ 12) {b : Nat} (hb : opn.getLast? = some b) : Calls Tryd.prog 64 #[.pointer (some ⟨B, 0, none⟩)] w fun e w' => e = .returned (.int .i64 (b : Int)) ∧ ∃ n, w.drewN n = w' := by
  obtain ⟨pre, rfl⟩ : ∃ pre, opn = pre ++ [b] := by
    rcases List.eq_nil_or_concat opn with rfl | ⟨pre, x, rfl⟩
    · simp at hb
    · simp at hb; subst hb; exact ⟨pre, by simp⟩
  obtain ⟨g, cap, hv, _, _⟩ := own_some h.oo (by simp)
  have h2 := h.c2
  have ho := h.oo
  rw [hv] at ho h2
  have hcell := own_cell ho (j := pre.length) (ints_get (x := b) (by simp))
  simp only [List.length_append, List.length_cons, List.length_nil, Nat.zero_add] at h2 hG
  clear ho hb hv h
  obtain ⟨m, hm⟩ : ∃ m, pre.length = m := ⟨_, rfl⟩
  rw [hm] at h2 hG hcell
  have e1 : IntKind.i64.wrap (((m + 1 : Nat) : Int) - 1) = (m : Int) := by rw [show (((m + 1 : Nat) : Int) - 1) = (m : Int) by omega]; rw [IntKind.wrap_i64]; omega
  have e2 : (m : Int) < ((m + 1 : Nat) : Int) := by omega
  have e3 : (0 : Int) ≤ (m : Int) := by omega
  have e4 : m < m + 1 := by omega
  have e5 : ((m : Int)).toNat = m := by omega
  go_enter Tryd.func64, Tryd.ntmps64
  go_wp2
  go_quiet (fail)
  generalize nq = n1
  go_wp2
  go_ret
  exact ⟨rfl, n1, rfl⟩
end
end Go.Proofs.YtnlplkchkhibaaaDoor
