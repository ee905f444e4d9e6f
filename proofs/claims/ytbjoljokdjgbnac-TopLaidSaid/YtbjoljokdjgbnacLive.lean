/-
  What must be whatever is asked: the laws' 'live'; how many nodes and edges there are; at most so many edges.
-/
import Derived.Test.YtbjoljokdjgbnacLevels
namespace Go.Proofs.Ytbjoljokdjgbnac
open Go.RowKit Go.Deep
theorem n_any (gp : Option Addr) (n : Int) (es : Edges) (w : World) (hg : IsG w gp n es) : Calls Try.prog 29 #[.pointer gp] w fun e w' => e = .returned (.int .i64 n) ∧ w = w' := by
  rcases hg with ⟨rfl, rfl, _⟩ | ⟨gb, v, mb, base, rfl, h1, h2, h3, hgd, c0, c1, hse, c2, hm⟩
  · go_enter Try.func29, Try.ntmps29
    go_wp2
    go_ret
    exact ⟨rfl, rfl⟩
  · clear hm hse hgd
    go_enter Try.func29, Try.ntmps29
    go_wp2
    go_ret
    exact ⟨rfl, rfl⟩
theorem m_any (gp : Option Addr) (n : Int) (es : Edges) (w : World) (hg : IsG w gp n es) : Calls Try.prog 30 #[.pointer gp] w fun e w' => e = .returned (.int .i64 es.length) ∧ w = w' := by
  rcases hg with ⟨rfl, rfl, rfl⟩ | ⟨gb, v, mb, base, rfl, h1, h2, h3, hgd, c0, c1, hse, c2, hm⟩
  · go_enter Try.func30, Try.ntmps30
    go_wp2
    go_ret
    exact ⟨rfl, rfl⟩
  · obtain ⟨a, cap, rfl, _⟩ := hse
    clear hm hgd
    go_enter Try.func30, Try.ntmps30
    go_wp2
    go_ret
    exact ⟨rfl, rfl⟩
theorem levels_nil (root : Int) (w : World) : Calls Try.prog 34 #[.pointer none, .int .i64 root] w fun e w' => e = .returned (.slice none 0 0) ∧ w = w' := by
  go_enter Try.func34, Try.ntmps34
  go_wp2
  go_ret
  exact ⟨rfl, rfl⟩
theorem levels_any (gp : Option Addr) (N : Nat) (root : Int) (es : Edges) (w : World) (hg : IsG w gp (N : Int) es) (hroot : -9223372036854775808 ≤ root ∧ root ≤ 9223372036854775807) :
    Calls Try.prog 34 #[.pointer gp, .int .i64 root] w fun e w' => ∃ u, e = .returned u ∧ Sees w' u (levels N es root) ∧ Below w.heap.size w w' := by
  cases gp with
  | none =>
    rcases hg with ⟨_, h0, rfl⟩ | ⟨_, _, _, _, h, _⟩
    · obtain rfl : N = 0 := by omega
      refine (levels_nil root w).mono ?_
      rintro e w' ⟨rfl, rfl⟩
      refine ⟨_, rfl, ⟨none, 0, ?_, .inl ?_⟩, Below.refl _ _⟩
      · unfold levels; split <;> simp
      · unfold levels; split <;> simp
    · cases h
  | some p =>
    rcases hg with ⟨h, _⟩ | ⟨gb, v, mb, base, h, hr⟩
    · cases h
    · cases h
      exact levels_walk gb N root es w (.inr ⟨gb, v, mb, base, rfl, hr⟩) hroot
/-- An argument that reads as the edges es. -/
def ArgE (w : World) (v : Value) (es : Edges) : Prop := SeesE w v es ∧ ∃ a len cap, v = .slice a len cap ∧ len ≤ cap ∧ cap ≤ 9223372036854775807
end Go.Proofs.Ytbjoljokdjgbnac
