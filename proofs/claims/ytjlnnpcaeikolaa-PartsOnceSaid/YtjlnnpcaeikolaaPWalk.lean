/-
  Whose nodes are: what stands in the parts, and what their walk yields.
-/
import Derived.Test.YtjlnnpcaeikolaaRange
import Derived.Sort.LoopGhostIn
namespace Go.Proofs.Ytjlnnpcaeikolaa
open Go.RowKit Go.Shelf
attribute [local go_sem] Oper.semAt_some
/-- The nodes of the worker u, rising: of the first n nodes those that wk tells. -/
def mem (n : Nat) (wk : Nat → Nat) (u : Nat) : List Int := ((List.range n).filter fun (v : Nat) => decide (wk v = u)).map fun (v : Nat) => (v : Int)
theorem mem_length (n : Nat) (wk : Nat → Nat) (u : Nat) : (mem n wk u).length ≤ n := by
  unfold mem
  rw [List.length_map]
  exact Nat.le_trans (List.length_filter_le _ _) (by simp)
theorem mem_mem {n : Nat} {wk : Nat → Nat} {u : Nat} {z : Int} : z ∈ mem n wk u ↔ ∃ v : Nat, z = v ∧ v < n ∧ wk v = u := by
  unfold mem
  simp only [List.mem_map, List.mem_filter, List.mem_range, decide_eq_true_eq]
  constructor
  · rintro ⟨v, ⟨h1, h2⟩, rfl⟩; exact ⟨v, rfl, h1, h2⟩
  · rintro ⟨v, rfl, h1, h2⟩; exact ⟨v, ⟨h1, h2⟩, rfl⟩
/-- A node, behind its worker. -/
abbrev Own1 (n k : Nat) (wk : Nat → Nat) := { x : Nat × Int // x.1 < k ∧ x.2 ∈ mem n wk x.1 }
abbrev encP {n k : Nat} {wk : Nat → Nat} (x : Own1 n k wk) : Array Value := #[.int .i64 (x.1.1 : Int), .int .i64 x.1.2]
def pw (n k : Nat) (wk : Nat → Nat) (u : Nat) (hu : u < k) : List (Own1 n k wk) := (mem n wk u).attach.map fun y => ⟨(u, y.1), hu, y.2⟩
def pall (n k : Nat) (wk : Nat → Nat) : (u : Nat) → u ≤ k → List (Own1 n k wk)
  | 0, _ => []
  | u + 1, h => pall n k wk u (by omega) ++ pw n k wk u (by omega)
theorem pw_length {n k : Nat} {wk : Nat → Nat} {u : Nat} (hu : u < k) : (pw n k wk u hu).length = (mem n wk u).length := by simp [pw]
theorem pw_at {n k : Nat} {wk : Nat → Nat} {u : Nat} (hu : u < k) {i : Nat} (hi : i < (mem n wk u).length) : (pw n k wk u hu)[i]? = some ⟨(u, (mem n wk u)[i]), hu, List.getElem_mem hi⟩ := by
  simp [pw, hi]
theorem pall_mono (n k : Nat) (wk : Nat → Nat) : ∀ (d u : Nat) (h : u + d ≤ k), (pall n k wk u (by omega)).length ≤ (pall n k wk (u + d) h).length
  | 0, _, _ => Nat.le_refl _
  | d + 1, u, h => by
    have h1 := pall_mono n k wk d u (by omega)
    have h2 : (pall n k wk (u + d) (by omega)).length ≤ (pall n k wk (u + (d + 1)) h).length := by
      show _ ≤ (pall n k wk ((u + d) + 1) h).length
      simp [pall]
    omega
theorem pall_step {n k : Nat} {wk : Nat → Nat} {u : Nat} (hu : u < k) {i : Nat} (hi : i < (mem n wk u).length) : (pall n k wk u (by omega) ++ (pw n k wk u hu).take i).length < (pall n k wk k (Nat.le_refl _)).length := by
  have h1 := pall_mono n k wk (k - (u + 1)) (u + 1) (by omega)
  have h2 : (pall n k wk (u + 1) (by omega)).length = (pall n k wk u (by omega)).length + (mem n wk u).length := by simp [pall, pw]
  have h3 : (pall n k wk (u + 1 + (k - (u + 1))) (by omega)).length = (pall n k wk k (Nat.le_refl _)).length := by congr 2; omega
  rw [List.length_append, List.length_take, pw_length]
  omega
theorem pall_mem {n k : Nat} {wk : Nat → Nat} (x : Own1 n k wk) : ∀ (u : Nat) (h : u ≤ k), x.1.1 < u → x ∈ pall n k wk u h
  | 0, _, hx => absurd hx (by omega)
  | u + 1, h, hx => by
    unfold pall
    rw [List.mem_append]
    by_cases e : x.1.1 < u
    · exact .inl (pall_mem x u (by omega) e)
    · obtain ⟨⟨a, z⟩, ha, hz⟩ := x
      have : a = u := by simp only at hx e; omega
      subst this
      refine .inr ?_
      simp only [pw, List.mem_map]
      exact ⟨⟨z, hz⟩, List.mem_attach _ _, rfl⟩
/-- The parts at pp: of n nodes and k workers, as wk tells. -/
def IsP (w : World) (pp : Option Addr) (n k : Nat) (wk : Nat → Nat) : Prop :=
  (pp = none ∧ n = 0 ∧ k = 0) ∨ ∃ pb, pp = some ⟨pb, 0, none⟩ ∧ (1 ≤ n ∧ n ≤ 12 ∧ 1 ≤ k ∧ k ≤ 4) ∧ (∀ v, v < n → wk v < k) ∧ w.cell? ⟨pb, 0, none⟩ = some (.int .i64 (n : Int)) ∧ w.cell? ⟨pb, 1, none⟩ = some (.int .i64 (k : Int)) ∧
    ∀ u, u < 4 → ∃ v, w.cell? ⟨pb, 2 + u, none⟩ = some v ∧ Sees w v (mem n wk u)
theorem IsP.below {w w' : World} {pp : Option Addr} {n k B : Nat} {wk : Nat → Nat} (h : IsP w pp n k wk) (hb : Below B w w') (hB : w.heap.size ≤ B) : IsP w' pp n k wk := by
  rcases h with h | ⟨pb, rfl, h1, h2, c0, c1, h3⟩
  · exact .inl h
  · have hl := World.block_lt_of_cell? w _ c0
    refine .inr ⟨pb, rfl, h1, h2, (hb.cell (p := ⟨pb, 0, none⟩) (Nat.lt_of_lt_of_le hl hB)).trans c0, (hb.cell (p := ⟨pb, 1, none⟩) (Nat.lt_of_lt_of_le hl hB)).trans c1, fun u hu => ?_⟩
    obtain ⟨v, hc, hs⟩ := h3 u hu
    exact ⟨v, (hb.cell (p := ⟨pb, 2 + u, none⟩) (Nat.lt_of_lt_of_le hl hB)).trans hc, hs.below hb hB⟩
theorem workers_any (pp : Option Addr) (n k : Nat) (wk : Nat → Nat) (w : World) (h : IsP w pp n k wk) : Calls Try.prog 19 #[.pointer pp] w fun e w' => e = .returned (.int .i64 (k : Int)) ∧ w = w' := by
  rcases h with ⟨rfl, _, rfl⟩ | ⟨pb, rfl, _, _, c0, c1, _⟩
  · go_enter Try.func19, Try.ntmps19
    go_wp2
    go_ret
    exact ⟨rfl, rfl⟩
  · go_enter Try.func19, Try.ntmps19
    go_wp2
    go_ret
    exact ⟨rfl, rfl⟩
theorem nodes_any (pp : Option Addr) (n k : Nat) (wk : Nat → Nat) (w : World) (h : IsP w pp n k wk) : Calls Try.prog 21 #[.pointer pp] w fun e w' => e = .returned (.int .i64 (n : Int)) ∧ w = w' := by
  rcases h with ⟨rfl, rfl, _⟩ | ⟨pb, rfl, _, _, c0, c1, _⟩
  · go_enter Try.func21, Try.ntmps21
    go_wp2
    go_ret
    exact ⟨rfl, rfl⟩
  · go_enter Try.func21, Try.ntmps21
    go_wp2
    go_ret
    exact ⟨rfl, rfl⟩
theorem walk_any (pp : Option Addr) (w : World) :
    Calls Try.prog 31 #[.pointer pp] w fun e w' => e = .returned (.func (.func 37) #[] #[.pointer (some ⟨w.heap.size, 0, none⟩)]) ∧ w' = w.alloc (.cells #[.pointer pp] 25) := by
  go_enter Try.func31, Try.ntmps31
  go_wp2
  go_ret
  exact ⟨rfl, rfl⟩
set_option maxRecDepth 100000 in
theorem walk1_nil (l Bg : Nat) {wk : Nat → Nat} (J Jx : List (Own1 0 0 wk) → World → Prop) (W : World)
    (hBg : W.cell? ⟨Bg, 0, none⟩ = some (.pointer none)) (h0 : J [] W) :
    CallsIn Fence.wide 0 Try.prog 37 #[.func (.yield l) #[] #[], .pointer (some ⟨Bg, 0, none⟩)] W fun e W' => (∃ v, e = .returned v) ∧
      ((∃ ys, ys = pall 0 0 wk 0 (Nat.le_refl _) ∧ J ys W') ∨ (∃ pre, Jx pre W')) := by
  have CW := hidI (workers_any none 0 0 wk W (.inl ⟨rfl, rfl, rfl⟩))
  refine callsIn_of_wp Try.func37 rfl trivial ?_ rfl
  simp only [Try.ntmps37, List.size_toArray, List.length_cons, List.length_nil, Nat.reduceAdd, Nat.reduceSub, Array.replicate_succ, Array.replicate_zero, List.push_toArray, List.append_toArray, List.nil_append, List.cons_append]
  gi_wp2_with (refine ⟨trivial, rfl, ?_⟩; gi_at_call 19; refine (callsIn_wide.2 CW.out).mono ?_; rintro e w' ⟨rfl, rfl⟩)
  gi_loopg [8] 0 (fun g s8 wr => s8 = .int .i64 0 ∧ J [] wr)
  case atStart => exact ⟨rfl, h0⟩
  case round =>
    obtain ⟨rfl, hJs⟩ := hrel
    gi_wp2
    go_end0
    exact ⟨⟨_, rfl⟩, .inl ⟨_, rfl, hJs⟩⟩
end Go.Proofs.Ytjlnnpcaeikolaa
