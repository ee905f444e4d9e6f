/-
  The edges of a graph, walked: what (*Graph).walk and its function yield.
-/
import Derived.Test.YtbjoljokdjgbnacRound
namespace Go.Proofs.Ytbjoljokdjgbnac
open Go.RowKit Go.Shelf
attribute [local go_sem] Oper.semAt_some
abbrev Edges := List (Int × Int)
def encE (x : Int × Int) : Value := .agg #[.int .i64 x.1, .int .i64 x.2]
/-- An edge of es, with its place. -/
abbrev At (es : Edges) := { x : Nat × (Int × Int) // es[x.1]? = some x.2 }
abbrev encA {es : Edges} (x : At es) : Array Value := #[.int .i64 (x.1.1 : Int), .agg #[.int .i64 x.1.2.1, .int .i64 x.1.2.2]]
/-- The first k of them. -/
def upto (es : Edges) : (k : Nat) → k ≤ es.length → List (At es)
  | 0, _ => []
  | k + 1, h => upto es k (by omega) ++ [⟨(k, es[k]), by simp⟩]
theorem upto_length (es : Edges) : ∀ (k : Nat) (h : k ≤ es.length), (upto es k h).length = k
  | 0, _ => rfl
  | k + 1, h => by simp [upto, upto_length es k]
/-- What T tells of stays. -/
def Keeps (T : Nat → Obj → Prop) (W W' : World) : Prop := W.heap.size ≤ W'.heap.size ∧ ∀ k o, T k o → W.heap[k]? = some o → W'.heap[k]? = some o
theorem Keeps.refl (T : Nat → Obj → Prop) (W : World) : Keeps T W W := ⟨Nat.le_refl _, fun _ _ _ h => h⟩
theorem Keeps.trans {T : Nat → Obj → Prop} {X Y Z : World} (h : Keeps T X Y) (k : Keeps T Y Z) : Keeps T X Z := ⟨Nat.le_trans h.1 k.1, fun i o ht hi => k.2 i o ht (h.2 i o ht hi)⟩
theorem Keeps.mono {T T' : Nat → Obj → Prop} {X Y : World} (h : Keeps T X Y) (ht : ∀ k o, T' k o → T k o) : Keeps T' X Y := ⟨h.1, fun k o hk => h.2 k o (ht k o hk)⟩
theorem Keeps.grown {T : Nat → Obj → Prop} {X Y : World} {row : Option Nat} (hg : X.grownBy Y row) (hr : ∀ k o, row = some k → X.heap[k]? = some o → ¬ T k o) : Keeps T X Y :=
  ⟨hg.size, fun k o ht hk => (hg.block k (Array.getElem?_eq_some_iff.1 hk).1 fun e => hr k o e.symm hk ht).trans hk⟩
theorem Keeps.alloc (T : Nat → Obj → Prop) (W : World) (o : Obj) : Keeps T W (W.alloc o) := Keeps.grown (World.grownBy_alloc W o none) fun _ _ e => by cases e
theorem Keeps.drew (T : Nat → Obj → Prop) (W : World) : Keeps T W W.drew := ⟨Nat.le_refl _, fun _ _ _ h => h⟩
theorem Keeps.cell {T : Nat → Obj → Prop} {W W' : World} {p : Addr} {v : Value} (h : Keeps T W W') (ht : ∀ o, T p.block o) (hc : W.cell? p = some v) : W'.cell? p = some v := by
  obtain ⟨o, ho, _⟩ := cells_of_cell hc
  have := h.2 p.block o (ht o) ho
  unfold World.cell? at hc ⊢
  rw [this]; rw [ho] at hc; exact hc
theorem keeps_of_below {n : Nat} {T : Nat → Obj → Prop} {W W' : World} (h : Below n W W') (hT : ∀ k o, T k o → W.heap[k]? = some o → k < n) : Keeps T W W' :=
  ⟨h.size, fun k o ht hk => (h.block k (hT k o ht hk)).trans hk⟩
/-- The edges lie at b from off on. -/
def Lie (w : World) (b off : Nat) (es : Edges) : Prop :=
  ∀ (j : Nat) (x : Int × Int), es[j]? = some x → w.cell? ⟨b, off + j * 2, none⟩ = some (.int .i64 x.1) ∧ w.cell? ⟨b, off + j * 2 + 1, none⟩ = some (.int .i64 x.2)
set_option maxRecDepth 100000 in
set_option maxHeartbeats 2000000 in
theorem walk1_in (l Bg gb b off cap : Nat) (T : Nat → Obj → Prop) (es : Edges) (hr : es.length ≤ 1000000) (hb : ∀ o, T b o) (J Jx : List (At es) → World → Prop) (W W0 : World)
    (hJ : OwnFrom W.heap.size J)
    (hY : ∀ pre x W, J pre W → pre.length < es.length → YieldAt Fence.wide 0 Try.prog l (encA x) W fun e W' =>
      KeepsFrom W0.heap.size W W' ∧ ((e = .returned (.bool true) ∧ J (pre ++ [x]) W' ∧ Keeps T W W') ∨ (e = .returned (.bool false) ∧ Jx (pre ++ [x]) W')))
    (hBg : W.cell? ⟨Bg, 0, none⟩ = some (.pointer (some ⟨gb, 0, none⟩))) (hg : W.cell? ⟨gb, 1, none⟩ = some (.slice (some ⟨b, off, none⟩) es.length cap)) (hc : Lie W b off es) (h0 : J [] W) :
    CallsIn Fence.wide 0 Try.prog 76 #[.func (.yield l) #[] #[], .pointer (some ⟨Bg, 0, none⟩)] W fun e W' => (∃ v, e = .returned v) ∧
      ((∃ ys, ys = upto es es.length (Nat.le_refl _) ∧ J ys W') ∨ (∃ pre, Jx pre W')) := by
  refine callsIn_of_wp Try.func76 rfl trivial ?_ rfl
  simp only [Try.ntmps76, List.size_toArray, List.length_cons, List.length_nil, Nat.reduceAdd, Nat.reduceSub, Array.replicate_succ, Array.replicate_zero, List.push_toArray, List.append_toArray, List.nil_append, List.cons_append]
  gi_wp2
  gi_loopw [12] (fun i wr => ∃ (k : Nat) (hk : k ≤ es.length), i = .int .i64 k ∧ J (upto es k hk) wr ∧ Keeps T W wr)
    (fun i _ => es.length - (intOf i).toNat)
  case atStart => exact ⟨0, Nat.zero_le _, rfl, h0, Keeps.refl _ _⟩
  case round =>
    obtain ⟨k, hk, rfl, hJs, hnx⟩ := hrel
    by_cases hlt : k < es.length
    · obtain ⟨x, hx⟩ : ∃ x, es[k]? = some x := ⟨es[k], by simp⟩
      have hcx := hc k x hx
      have c1 : wr.cell? ⟨b, off + k * 2, none⟩ = some (.int .i64 x.1) := hnx.cell (p := ⟨b, off + k * 2, none⟩) hb hcx.1
      have c2 : wr.cell? ⟨b, off + k * 2 + 1, none⟩ = some (.int .i64 x.2) := hnx.cell (p := ⟨b, off + k * 2 + 1, none⟩) hb hcx.2
      have hJa := hJ _ wr (wr.alloc (.cells #[.int .i64 x.1, .int .i64 x.2] 69)) none hJs (World.grownBy_alloc wr _ none) (fun r e => by cases e)
      obtain ⟨fn, tmps, assign, body, hy, hR⟩ := hY _ ⟨(k, x), hx⟩ _ hJa (by rw [upto_length]; exact hlt)
      dsimp only [encA] at hy
      gi_wp2
      refine ⟨rfl, hR.mono ?_⟩
      rintro e W3 ⟨_, ⟨rfl, hJ3, hk3⟩ | ⟨rfl, hJx3⟩⟩
      · gi_wp2
        go_roundw
        case rel =>
          refine ⟨k + 1, by omega, by go_num, ?_, (hnx.trans (Keeps.alloc T wr _)).trans hk3⟩
          have e1 : upto es (k + 1) (by omega) = upto es k hk ++ [⟨(k, x), hx⟩] := by
            have hxe : es[k] = x := by have := List.getElem?_eq_getElem hlt; rw [this] at hx; exact Option.some.inj hx
            subst hxe; rfl
          rw [e1]; exact hJ3
        case measure => simp [intOf]; omega
      · gi_wp2
        refine bodyPost_ret (results_none rfl _ _ _) rfl ?_
        exact ⟨⟨_, rfl⟩, .inr ⟨_, hJx3⟩⟩
    · obtain rfl : k = es.length := by omega
      gi_wp2
      go_end0
      exact ⟨⟨_, rfl⟩, .inl ⟨_, rfl, hJs⟩⟩
set_option maxRecDepth 100000 in
/-- No edges: no round. -/
theorem walk1_none (l Bg gb cap : Nat) (a : Option Addr) (J : List (At []) → World → Prop) (Jx : List (At []) → World → Prop) (W : World)
    (hBg : W.cell? ⟨Bg, 0, none⟩ = some (.pointer (some ⟨gb, 0, none⟩))) (hg : W.cell? ⟨gb, 1, none⟩ = some (.slice a 0 cap)) (h0 : J [] W) :
    CallsIn Fence.wide 0 Try.prog 76 #[.func (.yield l) #[] #[], .pointer (some ⟨Bg, 0, none⟩)] W fun e W' => (∃ v, e = .returned v) ∧
      ((∃ ys, ys = upto [] 0 (Nat.le_refl _) ∧ J ys W') ∨ (∃ pre, Jx pre W')) := by
  refine callsIn_of_wp Try.func76 rfl trivial ?_ rfl
  simp only [Try.ntmps76, List.size_toArray, List.length_cons, List.length_nil, Nat.reduceAdd, Nat.reduceSub, Array.replicate_succ, Array.replicate_zero, List.push_toArray, List.append_toArray, List.nil_append, List.cons_append]
  gi_wp2
  gi_loopw [12] (fun i wr => i = .int .i64 0 ∧ J [] wr) (fun _ _ => 0)
  case atStart => exact ⟨rfl, h0⟩
  case round =>
    obtain ⟨rfl, hJs⟩ := hrel
    gi_wp2
    go_end0
    exact ⟨⟨_, rfl⟩, .inl ⟨_, rfl, hJs⟩⟩
/-- A nil graph: no round. -/
theorem walk1_nil (l Bg : Nat) (J : List (At []) → World → Prop) (Jx : List (At []) → World → Prop) (W : World)
    (hBg : W.cell? ⟨Bg, 0, none⟩ = some (.pointer none)) (h0 : J [] W) :
    CallsIn Fence.wide 0 Try.prog 76 #[.func (.yield l) #[] #[], .pointer (some ⟨Bg, 0, none⟩)] W fun e W' => (∃ v, e = .returned v) ∧
      ((∃ ys, ys = upto [] 0 (Nat.le_refl _) ∧ J ys W') ∨ (∃ pre, Jx pre W')) := by
  refine callsIn_of_wp Try.func76 rfl trivial ?_ rfl
  simp only [Try.ntmps76, List.size_toArray, List.length_cons, List.length_nil, Nat.reduceAdd, Nat.reduceSub, Array.replicate_succ, Array.replicate_zero, List.push_toArray, List.append_toArray, List.nil_append, List.cons_append]
  gi_wp2
  refine bodyPost_ret (results_none rfl _ _ _) rfl ?_
  exact ⟨⟨_, rfl⟩, .inl ⟨_, rfl, h0⟩⟩
/-- The value v reads as the edges es. -/
def SeesE (w : World) (v : Value) (es : Edges) : Prop :=
  ∃ (a : Option Addr) (cap : Nat), v = .slice a es.length cap ∧ (es = [] ∨ ∃ b off, a = some ⟨b, off, none⟩ ∧ Lie w b off es)
theorem Lie.block_lt {w : World} {b off : Nat} {es : Edges} (h : Lie w b off es) (h0 : es ≠ []) : b < w.heap.size := by
  cases es with
  | nil => exact absurd rfl h0
  | cons x r => exact World.block_lt_of_cell? w _ (h 0 x rfl).1
theorem Lie.below {w w' : World} {b off B : Nat} {es : Edges} (h : Lie w b off es) (hb : Below B w w') (hB : b < B) : Lie w' b off es :=
  fun j x hx => ⟨(hb.cell (p := ⟨b, off + j * 2, none⟩) hB).trans (h j x hx).1, (hb.cell (p := ⟨b, off + j * 2 + 1, none⟩) hB).trans (h j x hx).2⟩
theorem SeesE.below {w w' : World} {v : Value} {es : Edges} {B : Nat} (h : SeesE w v es) (hb : Below B w w') (hB : w.heap.size ≤ B) : SeesE w' v es := by
  obtain ⟨a, cap, rfl, h⟩ := h
  refine ⟨a, cap, rfl, ?_⟩
  rcases h with h | ⟨b, off, rfl, hc⟩
  · exact .inl h
  · by_cases h0 : es = []
    · exact .inl h0
    · exact .inr ⟨b, off, rfl, hc.below hb (Nat.lt_of_lt_of_le (hc.block_lt h0) hB)⟩
/-- The graph's edges, walked: gp is the pointer; what lay in w0 below n₀ (the edges among it) must stay. -/
def Walks (w : World) (gp : Option Addr) (es : Edges) : Prop :=
  (gp = none ∧ es = []) ∨ ∃ gb v, gp = some ⟨gb, 0, none⟩ ∧ w.cell? ⟨gb, 1, none⟩ = some v ∧ SeesE w v es
theorem Walks.below {w w' : World} {gp : Option Addr} {es : Edges} {B : Nat} (h : Walks w gp es) (hb : Below B w w') (hB : w.heap.size ≤ B) : Walks w' gp es := by
  rcases h with h | ⟨gb, v, rfl, hc, hs⟩
  · exact .inl h
  · exact .inr ⟨gb, v, rfl, (hb.cell (p := ⟨gb, 1, none⟩) (Nat.lt_of_lt_of_le (World.block_lt_of_cell? w _ hc) hB)).trans hc, hs.below hb hB⟩
/-- The function g with the captured lb yields things of which S tells, N at most, to whatever loop leaves alone what T tells of; it may lay and turn blocks that are no cells, from the heap's end on. -/
def Seq {α : Type} (g : Nat) (lb : Array Value) (encs : α → Array Value) (T : Nat → Obj → Prop) (S : List α → Prop) (N : Nat) (w : World) : Prop :=
  ∀ (l : Nat) (J Jx : List α → World → Prop) (W : World), Below w.heap.size w W → OwnFrom W.heap.size J → OwnFrom W.heap.size Jx →
    (∀ pre x W1, J pre W1 → pre.length < N → YieldAt Fence.wide 0 Try.prog l (encs x) W1 fun e W' =>
      KeepsFrom W.heap.size W1 W' ∧ ((e = .returned (.bool true) ∧ J (pre ++ [x]) W' ∧ Keeps T W1 W') ∨ (e = .returned (.bool false) ∧ Jx (pre ++ [x]) W'))) →
    J [] W →
    CallsIn Fence.wide 0 Try.prog g (#[.func (.yield l) #[] #[]] ++ lb) W fun e W' => (∃ v, e = .returned v) ∧ ((∃ xs, S xs ∧ J xs W') ∨ (∃ pre, Jx pre W'))
/-- The function that walk hands back yields all edges, to whatever leaves alone what lay ahead of n₀. -/
theorem walk_seq (Bg n₀ : Nat) (T : Nat → Obj → Prop) (hT : ∀ k o, k < n₀ → T k o) (gp : Option Addr) (es : Edges) (hr : es.length ≤ 1000000) (w0 w : World) (hw : Walks w0 gp es) (hn : w0.heap.size ≤ n₀) (hn₀ : n₀ ≤ w.heap.size) (hb : Below n₀ w0 w) (hB : w.cell? ⟨Bg, 0, none⟩ = some (.pointer gp)) :
    Seq 76 #[.pointer (some ⟨Bg, 0, none⟩)] (encA (es := es)) T (fun ys => ys = upto es es.length (Nat.le_refl _)) es.length w := by
  intro l J Jx W hW hJ _ hY h0
  have hB' : W.cell? ⟨Bg, 0, none⟩ = some (.pointer gp) := (hW.cell (p := ⟨Bg, 0, none⟩) (World.block_lt_of_cell? w _ hB)).trans hB
  have hw' : Walks W gp es := hw.below (hb.trans (hW.mono hn₀)) hn
  rcases hw' with ⟨rfl, rfl⟩ | ⟨gb, v, rfl, hc, a, cap, rfl, hs⟩
  · exact walk1_nil l Bg J Jx W hB' h0
  · by_cases h1 : es = []
    · subst h1
      exact walk1_none l Bg gb cap a J Jx W hB' hc h0
    · rcases hs with hs | ⟨b, off, rfl, hl⟩
      · exact absurd hs h1
      · have hbn : b < n₀ := by
          rcases hw with ⟨h, _⟩ | ⟨gb', v', h, hc', a', cap', rfl, hs'⟩
          · cases h
          · cases h
            rcases hs' with hs' | ⟨b', off', rfl, hl'⟩
            · exact absurd hs' h1
            · have := (hb.trans (hW.mono hn₀)).cell (p := ⟨gb, 1, none⟩) (Nat.lt_of_lt_of_le (World.block_lt_of_cell? w0 _ hc') hn)
              rw [hc, hc'] at this
              simp only [Option.some.injEq, Value.slice.injEq, Addr.mk.injEq] at this
              have := hl'.block_lt h1
              omega
        exact walk1_in l Bg gb b off cap T es hr (fun o => hT b o hbn) J Jx W W hJ hY hB' hc hl h0
set_option maxHeartbeats 1000000 in
/-- walk: the receiver is boxed; the function captures the box. -/
theorem walk_any (gp : Option Addr) (w : World) :
    Calls Try.prog 61 #[.pointer gp] w fun e w' => e = .returned (.func (.func 76) #[] #[.pointer (some ⟨w.heap.size, 0, none⟩)]) ∧ w' = w.alloc (.cells #[.pointer gp] 63) := by
  go_enter Try.func61, Try.ntmps61
  go_wp2
  go_ret
  exact ⟨rfl, rfl⟩
end Go.Proofs.Ytbjoljokdjgbnac
