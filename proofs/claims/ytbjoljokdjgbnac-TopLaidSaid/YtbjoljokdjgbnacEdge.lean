/-
  The edge at a place.
-/
import Derived.Test.YtbjoljokdjgbnacLive
import Derived.Laws.ResultCell
namespace Go.Proofs.Ytbjoljokdjgbnac
open Go.RowKit Go.Deep
set_option maxRecDepth 100000 in
set_option maxHeartbeats 1000000 in
theorem edge_in (rp : Option Addr) (n : Int) (i : Nat) (x : Int × Int) (es : Edges) (w : World) (hg : IsG w rp n es) (hx : es[i]? = some x) :
    Calls Try.prog 32 #[.pointer rp, .int .i64 (i : Int)] w fun e w' => e = .returned (.tuple #[.agg #[.int .i64 x.1, .int .i64 x.2], .bool true]) ∧ Below w.heap.size w w' := by
  have hil := (List.getElem?_eq_some_iff.1 hx).1
  have C := hidI (m_any rp n es _ (hg.below ((Below.refl _ w).alloc (Nat.le_refl _) (.cells #[.int .i64 0, .int .i64 0] 69)) (Nat.le_refl _)))
  rcases hg with ⟨_, _, h0⟩ | ⟨rb, ev, mb, base, rfl, _, _, h30, hgd, c0, c1, hse, c2, hmp⟩
  · rw [h0] at hx; simp at hx
  obtain ⟨ea, ecap, rfl, hse⟩ := hse
  rcases hse with h0 | ⟨b, off, rfl, hl⟩
  · rw [h0] at hx; simp at hx
  obtain ⟨d1, d2⟩ := hl i x hx
  have bl1 := World.block_lt_of_cell? w _ c1
  have bl2 := World.block_lt_of_cell? w _ d1
  obtain ⟨m, hm⟩ : ∃ m, es.length = m := ⟨_, rfl⟩
  rw [hm] at C c1 hil h30
  clear hm hx hl hgd c0 c2 hmp
  have k1 : decide ((i : Int) < 0) = false := by simp
  have k2 : decide ((m : Int) ≤ (i : Int)) = false := by simp; omega
  go_enter Try.func32, Try.ntmps32
  go_wp2_with (go_at_call 30; refine Calls.mono C.out ?_; rintro e w1 ⟨rfl, rfl⟩)
  (try simp only [Exit.inBlock, Exit.then])
  refine bodyPost_ret (v := .tuple #[.agg #[.int .i64 x.1, .int .i64 x.2], .bool true]) ?_ rfl ⟨rfl, ?_⟩
  · rw [results_cell_tmp rfl]
    go_simp
  · exact (Below.refl _ w).alloc (Nat.le_refl _) _
end Go.Proofs.Ytbjoljokdjgbnac
