/-
  Texts Round Wide Walk Range At Places Check Map New Levels Live Same Base, one behind the other.
-/
import Derived.Test.YtbjoljokdjgbnabChecked
import Derived.RangeFuncNested
import Derived.RangeFuncBound
import Derived.RangeFuncCalls
import Derived.RangeFuncLeaves
import Derived.Shelf.Abstract
import Derived.Shelf.RegionOpen
import Derived.WalkKit
import Derived.OwnWalkIn
import Derived.TacticsInMore
import Derived.LoopNIn
import Derived.LoopIn
import Derived.OrdersHeld
import Derived.BigQuiet
import Derived.Maps.AppendAt
import Derived.Lib.SmallJoins
import Derived.WalkSpells
import Derived.WalkLawsBesides
import Derived.Deep.LoopGhost
import Derived.Lib.SliceRun
import Derived.WideKeyEntry
import Derived.DeepKeys4
import Derived.Maps.OwnRows
import Derived.Deep.AppendLies
import Derived.Deep.OwnRows
import Derived.Sort.LoopGhostIn
import Derived.Deep.SlicePairs
import Derived.ProofKit
import Derived.OpenShut
/-
  A region that draws its order of evaluation, within a round of a loop over a function: what holds of it anywhere holds of it there.
-/
namespace Go.Proofs.Ytbjoljokdjgbnab
open Go.RowKit
/-- The fence that asks nothing, in a round of the loop l. -/
abbrev WR (l : Nat) : Fence := Fence.wide.inRound l
def noDefer (ops : Array Oper) : Bool := ops.all fun o => match o.op with | .defer _ => false | _ => true
theorem noDefer_spec {ops : Array Oper} (h : noDefer ops = true) {i : Nat} {o : Oper} (ho : ops[i]? = some o) (c : Call) : o.op ≠ .defer c := by
  intro e
  have hm : o ∈ ops := Array.mem_of_getElem? ho
  have h1 := (Array.all_eq_true'.1 h) o hm
  rw [e] at h1
  cases h1
theorem rowsIn_wide {n l : Nat} {P : Program} {row : String} {args : Array Value} {w : World} {R : Value → World → Prop} (h : Rows P row args w R) : RowsIn (WR l) n P row args w R := by
  intro c cs _
  obtain ⟨v, w', hr, hs⟩ := h c cs
  exact ⟨v, w', hr, stepsIn_wide.2 hs⟩
theorem uponIn_of {l n : Nat} {P : Program} {o : Oper} {a : Act} {K : Act → World → Prop} {Q : Exit → Act → World → Prop} {r : Result Next} (h : o.upon P a K Q r) : o.uponIn (WR l) n P a K Q r := by
  cases r with
  | ok x w' =>
    cases x with
    | value v => exact h
    | skip => exact h
    | defer d => exact h
    | enter f args => exact ⟨fun hd => (by cases hd), CallsIn.inRound l (callsIn_wide.2 h)⟩
    | row row args => exact ⟨fun hd => (by cases hd), rowsIn_wide h⟩
    | _ => exact h.elim
  | halt x w' => cases x <;> first | exact h | exact h.elim
theorem opIn_of {l n : Nat} {P : Program} {o : Oper} {a : Act} {w : World} {K : Act → World → Prop} {Q : Exit → Act → World → Prop} (hd : ∀ c, o.op ≠ .defer c) (h : o.wp P a w K Q) : o.wpIn (WR l) n P a w K Q := by
  refine ⟨fun _ _ => trivial, ?_⟩
  rw [show (WR l).round = some l from rfl, Oper.semAt_some l _ _ hd]
  exact uponIn_of h
theorem wpOpIn_of {l n : Nat} {P : Program} {ops : Array Oper} {Q : Exit → Act → World → Prop} (hd : noDefer ops = true) (hQ : ¬ LetsOut Q) {i : Nat} {K : Act → World → Prop} {a : Act} {w : World} (h : wpOp P ops Q i K a w) :
    wpOpIn (WR l) n P ops Q i K a w := by
  unfold wpOp at h
  unfold wpOpIn
  cases ho : ops[i]? with
  | none => rw [ho] at h; exact h
  | some o =>
    rw [ho] at h
    simp only at h ⊢
    split
    · rename_i hw
      rw [if_pos hw] at h
      rcases h with h | ⟨_, h⟩
      · exact opIn_of (noDefer_spec hd ho) h
      · exact absurd h hQ
    · rename_i hw
      rw [if_neg hw] at h
      exact ⟨fun _ _ => trivial, h⟩
theorem wpAnyIn_of {l n : Nat} {P : Program} {md : Region.Mode} {ops : Array Oper} {Q : Exit → Act → World → Prop} (hd : noDefer ops = true) (hQ : ¬ LetsOut Q) :
    ∀ (fuel : Nat) (listed : Array Bool) (a : Act) (w : World), wpAny P md ops Q fuel listed a w → wpAnyIn (WR l) n P md ops Q fuel listed a w
  | 0, _, _, _, h => h
  | fuel + 1, _, _, _, h => ⟨h.1, fun i hi => wpOpIn_mono (fun a' w' h' => wpAnyIn_of hd hQ fuel _ a' w' h') (wpOpIn_of hd hQ (h.2 i hi))⟩
/-- A way out that is the plain one alone. -/
def Goes (R : Act → World → Prop) : Exit → Act → World → Prop
  | .normal, a, w => R a w
  | _, _, _ => False
theorem goes_out (R : Act → World → Prop) : ¬ LetsOut (Goes R) := fun ⟨_, _, h⟩ => h
theorem goes_imp {R : Act → World → Prop} {Q : Exit → Act → World → Prop} (h : ∀ a w, R a w → Q .normal a w) : ∀ e a w, Goes R e a w → Q e a w := fun e a w hg => by cases e <;> first | exact h a w hg | exact hg.elim
theorem Try.mixed : Try.prog.follows .mixedOrders = true := by kernel_rfl
/-- A region that draws, in a round: by whatever walk of its orders, S being kept. -/
theorem round_held {l n id : Nat} {ops : Array Oper} {Q : Exit → Act → World → Prop} {a : Act} {w : World} (S : World → Prop) (hd : noDefer ops = true)
    (h : wpAnyH Try.prog .any ops (Goes (Q .normal)) S ops.size (Array.replicate ops.size false) a w.drew) : (Code.region id ops true).wpIn (WR l) n Try.prog Q a w :=
  wpIn_mono (wpIn_region_any Try.mixed (wpAnyIn_of hd (goes_out _) _ _ _ _ (wpAny_of_held _ _ _ _ h))) (goes_imp fun _ _ h => h)
/-- A region that draws, in a round, and only reads. -/
theorem round_quiet {l n id : Nat} {L : List Oper} {Q : Exit → Act → World → Prop} {a : Act} {w : World} (hd : noDefer L.toArray = true) (hB : Region.lexB .any L.toArray = true)
    (h : wpQuiet Try.prog L.toArray (fun w' => ∃ n, w' = w.drewN n) (fun a' => ∀ w', (∃ n, w' = w.drewN n) → Q .normal a' w') L a) : (Code.region id L.toArray true).wpIn (WR l) n Try.prog Q a w := by
  have hB' := hB
  simp only [Region.lexB, Bool.and_eq_true] at hB
  refine wpIn_mono (Q := Goes (Q .normal)) (wpIn_region_any Try.mixed (wpAnyIn_of hd (goes_out _) _ _ _ _ (wpAny_of_quiet (C := fun w' => ∃ n, w' = w.drewN n) (Q := fun a' => ∀ w', (∃ n, w' = w.drewN n) → Q .normal a' w') (Q' := Goes (Q .normal)) (fun _ w' hw' h => h w' hw') _ _ _ _ ⟨1, rfl⟩ ?_))) (goes_imp fun _ _ h => h)
  have := wpAnyQ_lex (C := fun w' => ∃ n, w' = w.drewN n) (md := .any) hB.1 L 0 (Array.replicate L.toArray.size false) a (by simp) (by simpa using hB.2) h
  simpa using this
end Go.Proofs.Ytbjoljokdjgbnab
/-
  A region that draws its order of evaluation, behind a loop over a function: what holds of it anywhere holds of it there.
-/
namespace Go.Proofs.Ytbjoljokdjgbnab
open Go.RowKit
theorem rowsIn_w {n : Nat} {P : Program} {row : String} {args : Array Value} {w : World} {R : Value → World → Prop} (h : Rows P row args w R) : RowsIn Fence.wide n P row args w R := by
  intro c cs _
  obtain ⟨v, w', hr, hs⟩ := h c cs
  exact ⟨v, w', hr, stepsIn_wide.2 hs⟩
theorem uponIn_w {n : Nat} {P : Program} {o : Oper} {a : Act} {K : Act → World → Prop} {Q : Exit → Act → World → Prop} {r : Result Next} (h : o.upon P a K Q r) : o.uponIn Fence.wide n P a K Q r := by
  cases r with
  | ok x w' =>
    cases x with
    | value v => exact h
    | skip => exact h
    | defer d => exact h
    | enter f args => exact ⟨fun hd => (by cases hd), callsIn_wide.2 h⟩
    | row row args => exact ⟨fun hd => (by cases hd), rowsIn_w h⟩
    | _ => exact h.elim
  | halt x w' => cases x <;> first | exact h | exact h.elim
theorem opIn_w {n : Nat} {P : Program} {o : Oper} {a : Act} {w : World} {K : Act → World → Prop} {Q : Exit → Act → World → Prop} (h : o.wp P a w K Q) : o.wpIn Fence.wide n P a w K Q :=
  ⟨fun _ _ => trivial, uponIn_w h⟩
theorem wpOpIn_w {n : Nat} {P : Program} {ops : Array Oper} {Q : Exit → Act → World → Prop} (hQ : ¬ LetsOut Q) {i : Nat} {K : Act → World → Prop} {a : Act} {w : World} (h : wpOp P ops Q i K a w) :
    wpOpIn Fence.wide n P ops Q i K a w := by
  unfold wpOp at h
  unfold wpOpIn
  cases ho : ops[i]? with
  | none => rw [ho] at h; exact h
  | some o =>
    rw [ho] at h
    simp only at h ⊢
    split
    · rename_i hw
      rw [if_pos hw] at h
      rcases h with h | ⟨_, h⟩
      · exact opIn_w h
      · exact absurd h hQ
    · rename_i hw
      rw [if_neg hw] at h
      exact ⟨fun _ _ => trivial, h⟩
theorem wpAnyIn_w {n : Nat} {P : Program} {md : Region.Mode} {ops : Array Oper} {Q : Exit → Act → World → Prop} (hQ : ¬ LetsOut Q) :
    ∀ (fuel : Nat) (listed : Array Bool) (a : Act) (w : World), wpAny P md ops Q fuel listed a w → wpAnyIn Fence.wide n P md ops Q fuel listed a w
  | 0, _, _, _, h => h
  | fuel + 1, _, _, _, h => ⟨h.1, fun i hi => wpOpIn_mono (fun a' w' h' => wpAnyIn_w hQ fuel _ a' w' h') (wpOpIn_w hQ (h.2 i hi))⟩
/-- A region that draws: by whatever walk of its orders, S being kept. -/
theorem wide_held {n id : Nat} {ops : Array Oper} {Q : Exit → Act → World → Prop} {a : Act} {w : World} (S : World → Prop)
    (h : wpAnyH Try.prog .any ops (Goes (Q .normal)) S ops.size (Array.replicate ops.size false) a w.drew) : (Code.region id ops true).wpIn Fence.wide n Try.prog Q a w :=
  wpIn_mono (wpIn_region_any Try.mixed (wpAnyIn_w (goes_out _) _ _ _ _ (wpAny_of_held _ _ _ _ h))) (goes_imp fun _ _ h => h)
end Go.Proofs.Ytbjoljokdjgbnab
/-
  The edges of a graph, walked: what (*Graph).walk and its function yield.
-/
namespace Go.Proofs.Ytbjoljokdjgbnab
open Go.RowKit Go.Shelf
attribute [local go_sem] Oper.semAt_some
abbrev Edges := List (Int × Int)
def encE (x : Int × Int) : Value := .agg #[.int .i64 x.1, .int .i64 x.2]
/-- An edge of es, with its place. -/
abbrev At (es : Edges) := { x : Nat × (Int × Int) // es[x.1]? = some x.2 }
abbrev encA {es : Edges} (x : At es) : Array Value := #[.int .i64 (x.1.1 : Int), .agg #[.int .i64 x.1.2.1, .int .i64 x.1.2.2]]
/-- The first k of them. -/
def upto (es : Edges) : (k : Nat) → k ≤ es.length → List (At es)
  | 0, _ => []
  | k + 1, h => upto es k (by omega) ++ [⟨(k, es[k]), by simp⟩]
theorem upto_length (es : Edges) : ∀ (k : Nat) (h : k ≤ es.length), (upto es k h).length = k
  | 0, _ => rfl
  | k + 1, h => by simp [upto, upto_length es k]
/-- What T tells of stays. -/
def Keeps (T : Nat → Obj → Prop) (W W' : World) : Prop := W.heap.size ≤ W'.heap.size ∧ ∀ k o, T k o → W.heap[k]? = some o → W'.heap[k]? = some o
theorem Keeps.refl (T : Nat → Obj → Prop) (W : World) : Keeps T W W := ⟨Nat.le_refl _, fun _ _ _ h => h⟩
theorem Keeps.trans {T : Nat → Obj → Prop} {X Y Z : World} (h : Keeps T X Y) (k : Keeps T Y Z) : Keeps T X Z := ⟨Nat.le_trans h.1 k.1, fun i o ht hi => k.2 i o ht (h.2 i o ht hi)⟩
theorem Keeps.mono {T T' : Nat → Obj → Prop} {X Y : World} (h : Keeps T X Y) (ht : ∀ k o, T' k o → T k o) : Keeps T' X Y := ⟨h.1, fun k o hk => h.2 k o (ht k o hk)⟩
theorem Keeps.grown {T : Nat → Obj → Prop} {X Y : World} {row : Option Nat} (hg : X.grownBy Y row) (hr : ∀ k o, row = some k → X.heap[k]? = some o → ¬ T k o) : Keeps T X Y :=
  ⟨hg.size, fun k o ht hk => (hg.block k (Array.getElem?_eq_some_iff.1 hk).1 fun e => hr k o e.symm hk ht).trans hk⟩
theorem Keeps.alloc (T : Nat → Obj → Prop) (W : World) (o : Obj) : Keeps T W (W.alloc o) := Keeps.grown (World.grownBy_alloc W o none) fun _ _ e => by cases e
theorem Keeps.drew (T : Nat → Obj → Prop) (W : World) : Keeps T W W.drew := ⟨Nat.le_refl _, fun _ _ _ h => h⟩
theorem Keeps.cell {T : Nat → Obj → Prop} {W W' : World} {p : Addr} {v : Value} (h : Keeps T W W') (ht : ∀ o, T p.block o) (hc : W.cell? p = some v) : W'.cell? p = some v := by
  obtain ⟨o, ho, _⟩ := cells_of_cell hc
  have := h.2 p.block o (ht o) ho
  unfold World.cell? at hc ⊢
  rw [this]; rw [ho] at hc; exact hc
theorem keeps_of_below {n : Nat} {T : Nat → Obj → Prop} {W W' : World} (h : Below n W W') (hT : ∀ k o, T k o → W.heap[k]? = some o → k < n) : Keeps T W W' :=
  ⟨h.size, fun k o ht hk => (h.block k (hT k o ht hk)).trans hk⟩
/-- The edges lie at b from off on. -/
def Lie (w : World) (b off : Nat) (es : Edges) : Prop :=
  ∀ (j : Nat) (x : Int × Int), es[j]? = some x → w.cell? ⟨b, off + j * 2, none⟩ = some (.int .i64 x.1) ∧ w.cell? ⟨b, off + j * 2 + 1, none⟩ = some (.int .i64 x.2)
set_option maxRecDepth 100000 in
set_option maxHeartbeats 2000000 in
theorem walk1_in (l Bg gb b off cap : Nat) (T : Nat → Obj → Prop) (es : Edges) (hr : es.length ≤ 1000000) (hb : ∀ o, T b o) (J Jx : List (At es) → World → Prop) (W W0 : World)
    (hJ : OwnFrom W.heap.size J)
    (hY : ∀ pre x W, J pre W → pre.length < es.length → YieldAt Fence.wide 0 Try.prog l (encA x) W fun e W' =>
      KeepsFrom W0.heap.size W W' ∧ ((e = .returned (.bool true) ∧ J (pre ++ [x]) W' ∧ Keeps T W W') ∨ (e = .returned (.bool false) ∧ Jx (pre ++ [x]) W')))
    (hBg : W.cell? ⟨Bg, 0, none⟩ = some (.pointer (some ⟨gb, 0, none⟩))) (hg : W.cell? ⟨gb, 1, none⟩ = some (.slice (some ⟨b, off, none⟩) es.length cap)) (hc : Lie W b off es) (h0 : J [] W) :
    CallsIn Fence.wide 0 Try.prog 67 #[.func (.yield l) #[] #[], .pointer (some ⟨Bg, 0, none⟩)] W fun e W' => (∃ v, e = .returned v) ∧
      ((∃ ys, ys = upto es es.length (Nat.le_refl _) ∧ J ys W') ∨ (∃ pre, Jx pre W')) := by
  refine callsIn_of_wp Try.func67 rfl trivial ?_ rfl
  simp only [Try.ntmps67, List.size_toArray, List.length_cons, List.length_nil, Nat.reduceAdd, Nat.reduceSub, Array.replicate_succ, Array.replicate_zero, List.push_toArray, List.append_toArray, List.nil_append, List.cons_append]
  gi_wp2
  gi_loopw [12] (fun i wr => ∃ (k : Nat) (hk : k ≤ es.length), i = .int .i64 k ∧ J (upto es k hk) wr ∧ Keeps T W wr)
    (fun i _ => es.length - (intOf i).toNat)
  case atStart => exact ⟨0, Nat.zero_le _, rfl, h0, Keeps.refl _ _⟩
  case round =>
    obtain ⟨k, hk, rfl, hJs, hnx⟩ := hrel
    by_cases hlt : k < es.length
    · obtain ⟨x, hx⟩ : ∃ x, es[k]? = some x := ⟨es[k], by simp⟩
      have hcx := hc k x hx
      have c1 : wr.cell? ⟨b, off + k * 2, none⟩ = some (.int .i64 x.1) := hnx.cell (p := ⟨b, off + k * 2, none⟩) hb hcx.1
      have c2 : wr.cell? ⟨b, off + k * 2 + 1, none⟩ = some (.int .i64 x.2) := hnx.cell (p := ⟨b, off + k * 2 + 1, none⟩) hb hcx.2
      have hJa := hJ _ wr (wr.alloc (.cells #[.int .i64 x.1, .int .i64 x.2] 34)) none hJs (World.grownBy_alloc wr _ none) (fun r e => by cases e)
      obtain ⟨fn, tmps, assign, body, hy, hR⟩ := hY _ ⟨(k, x), hx⟩ _ hJa (by rw [upto_length]; exact hlt)
      dsimp only [encA] at hy
      gi_wp2
      refine ⟨rfl, hR.mono ?_⟩
      rintro e W3 ⟨_, ⟨rfl, hJ3, hk3⟩ | ⟨rfl, hJx3⟩⟩
      · gi_wp2
        go_roundw
        case rel =>
          refine ⟨k + 1, by omega, by go_num, ?_, (hnx.trans (Keeps.alloc T wr _)).trans hk3⟩
          have e1 : upto es (k + 1) (by omega) = upto es k hk ++ [⟨(k, x), hx⟩] := by
            have hxe : es[k] = x := by have := List.getElem?_eq_getElem hlt; rw [this] at hx; exact Option.some.inj hx
            subst hxe; rfl
          rw [e1]; exact hJ3
        case measure => simp [intOf]; omega
      · gi_wp2
        refine bodyPost_ret (results_none rfl _ _ _) rfl ?_
        exact ⟨⟨_, rfl⟩, .inr ⟨_, hJx3⟩⟩
    · obtain rfl : k = es.length := by omega
      gi_wp2
      go_end0
      exact ⟨⟨_, rfl⟩, .inl ⟨_, rfl, hJs⟩⟩
set_option maxRecDepth 100000 in
/-- No edges: no round. -/
theorem walk1_none (l Bg gb cap : Nat) (a : Option Addr) (J : List (At []) → World → Prop) (Jx : List (At []) → World → Prop) (W : World)
    (hBg : W.cell? ⟨Bg, 0, none⟩ = some (.pointer (some ⟨gb, 0, none⟩))) (hg : W.cell? ⟨gb, 1, none⟩ = some (.slice a 0 cap)) (h0 : J [] W) :
    CallsIn Fence.wide 0 Try.prog 67 #[.func (.yield l) #[] #[], .pointer (some ⟨Bg, 0, none⟩)] W fun e W' => (∃ v, e = .returned v) ∧
      ((∃ ys, ys = upto [] 0 (Nat.le_refl _) ∧ J ys W') ∨ (∃ pre, Jx pre W')) := by
  refine callsIn_of_wp Try.func67 rfl trivial ?_ rfl
  simp only [Try.ntmps67, List.size_toArray, List.length_cons, List.length_nil, Nat.reduceAdd, Nat.reduceSub, Array.replicate_succ, Array.replicate_zero, List.push_toArray, List.append_toArray, List.nil_append, List.cons_append]
  gi_wp2
  gi_loopw [12] (fun i wr => i = .int .i64 0 ∧ J [] wr) (fun _ _ => 0)
  case atStart => exact ⟨rfl, h0⟩
  case round =>
    obtain ⟨rfl, hJs⟩ := hrel
    gi_wp2
    go_end0
    exact ⟨⟨_, rfl⟩, .inl ⟨_, rfl, hJs⟩⟩
/-- A nil graph: no round. -/
theorem walk1_nil (l Bg : Nat) (J : List (At []) → World → Prop) (Jx : List (At []) → World → Prop) (W : World)
    (hBg : W.cell? ⟨Bg, 0, none⟩ = some (.pointer none)) (h0 : J [] W) :
    CallsIn Fence.wide 0 Try.prog 67 #[.func (.yield l) #[] #[], .pointer (some ⟨Bg, 0, none⟩)] W fun e W' => (∃ v, e = .returned v) ∧
      ((∃ ys, ys = upto [] 0 (Nat.le_refl _) ∧ J ys W') ∨ (∃ pre, Jx pre W')) := by
  refine callsIn_of_wp Try.func67 rfl trivial ?_ rfl
  simp only [Try.ntmps67, List.size_toArray, List.length_cons, List.length_nil, Nat.reduceAdd, Nat.reduceSub, Array.replicate_succ, Array.replicate_zero, List.push_toArray, List.append_toArray, List.nil_append, List.cons_append]
  gi_wp2
  refine bodyPost_ret (results_none rfl _ _ _) rfl ?_
  exact ⟨⟨_, rfl⟩, .inl ⟨_, rfl, h0⟩⟩
/-- The value v reads as the edges es. -/
def SeesE (w : World) (v : Value) (es : Edges) : Prop :=
  ∃ (a : Option Addr) (cap : Nat), v = .slice a es.length cap ∧ (es = [] ∨ ∃ b off, a = some ⟨b, off, none⟩ ∧ Lie w b off es)
theorem Lie.block_lt {w : World} {b off : Nat} {es : Edges} (h : Lie w b off es) (h0 : es ≠ []) : b < w.heap.size := by
  cases es with
  | nil => exact absurd rfl h0
  | cons x r => exact World.block_lt_of_cell? w _ (h 0 x rfl).1
theorem Lie.below {w w' : World} {b off B : Nat} {es : Edges} (h : Lie w b off es) (hb : Below B w w') (hB : b < B) : Lie w' b off es :=
  fun j x hx => ⟨(hb.cell (p := ⟨b, off + j * 2, none⟩) hB).trans (h j x hx).1, (hb.cell (p := ⟨b, off + j * 2 + 1, none⟩) hB).trans (h j x hx).2⟩
theorem SeesE.below {w w' : World} {v : Value} {es : Edges} {B : Nat} (h : SeesE w v es) (hb : Below B w w') (hB : w.heap.size ≤ B) : SeesE w' v es := by
  obtain ⟨a, cap, rfl, h⟩ := h
  refine ⟨a, cap, rfl, ?_⟩
  rcases h with h | ⟨b, off, rfl, hc⟩
  · exact .inl h
  · by_cases h0 : es = []
    · exact .inl h0
    · exact .inr ⟨b, off, rfl, hc.below hb (Nat.lt_of_lt_of_le (hc.block_lt h0) hB)⟩
/-- The graph's edges, walked: gp is the pointer; what lay in w0 below n₀ (the edges among it) must stay. -/
def Walks (w : World) (gp : Option Addr) (es : Edges) : Prop :=
  (gp = none ∧ es = []) ∨ ∃ gb v, gp = some ⟨gb, 0, none⟩ ∧ w.cell? ⟨gb, 1, none⟩ = some v ∧ SeesE w v es
theorem Walks.below {w w' : World} {gp : Option Addr} {es : Edges} {B : Nat} (h : Walks w gp es) (hb : Below B w w') (hB : w.heap.size ≤ B) : Walks w' gp es := by
  rcases h with h | ⟨gb, v, rfl, hc, hs⟩
  · exact .inl h
  · exact .inr ⟨gb, v, rfl, (hb.cell (p := ⟨gb, 1, none⟩) (Nat.lt_of_lt_of_le (World.block_lt_of_cell? w _ hc) hB)).trans hc, hs.below hb hB⟩
/-- The function g with the captured lb yields things of which S tells, N at most, to whatever loop leaves alone what T tells of; it may lay and turn blocks that are no cells, from the heap's end on. -/
def Seq {α : Type} (g : Nat) (lb : Array Value) (encs : α → Array Value) (T : Nat → Obj → Prop) (S : List α → Prop) (N : Nat) (w : World) : Prop :=
  ∀ (l : Nat) (J Jx : List α → World → Prop) (W : World), Below w.heap.size w W → OwnFrom W.heap.size J → OwnFrom W.heap.size Jx →
    (∀ pre x W1, J pre W1 → pre.length < N → YieldAt Fence.wide 0 Try.prog l (encs x) W1 fun e W' =>
      KeepsFrom W.heap.size W1 W' ∧ ((e = .returned (.bool true) ∧ J (pre ++ [x]) W' ∧ Keeps T W1 W') ∨ (e = .returned (.bool false) ∧ Jx (pre ++ [x]) W'))) →
    J [] W →
    CallsIn Fence.wide 0 Try.prog g (#[.func (.yield l) #[] #[]] ++ lb) W fun e W' => (∃ v, e = .returned v) ∧ ((∃ xs, S xs ∧ J xs W') ∨ (∃ pre, Jx pre W'))
/-- The function that walk hands back yields all edges, to whatever leaves alone what lay ahead of n₀. -/
theorem walk_seq (Bg n₀ : Nat) (T : Nat → Obj → Prop) (hT : ∀ k o, k < n₀ → T k o) (gp : Option Addr) (es : Edges) (hr : es.length ≤ 1000000) (w0 w : World) (hw : Walks w0 gp es) (hn : w0.heap.size ≤ n₀) (hn₀ : n₀ ≤ w.heap.size) (hb : Below n₀ w0 w) (hB : w.cell? ⟨Bg, 0, none⟩ = some (.pointer gp)) :
    Seq 67 #[.pointer (some ⟨Bg, 0, none⟩)] (encA (es := es)) T (fun ys => ys = upto es es.length (Nat.le_refl _)) es.length w := by
  intro l J Jx W hW hJ _ hY h0
  have hB' : W.cell? ⟨Bg, 0, none⟩ = some (.pointer gp) := (hW.cell (p := ⟨Bg, 0, none⟩) (World.block_lt_of_cell? w _ hB)).trans hB
  have hw' : Walks W gp es := hw.below (hb.trans (hW.mono hn₀)) hn
  rcases hw' with ⟨rfl, rfl⟩ | ⟨gb, v, rfl, hc, a, cap, rfl, hs⟩
  · exact walk1_nil l Bg J Jx W hB' h0
  · by_cases h1 : es = []
    · subst h1
      exact walk1_none l Bg gb cap a J Jx W hB' hc h0
    · rcases hs with hs | ⟨b, off, rfl, hl⟩
      · exact absurd hs h1
      · have hbn : b < n₀ := by
          rcases hw with ⟨h, _⟩ | ⟨gb', v', h, hc', a', cap', rfl, hs'⟩
          · cases h
          · cases h
            rcases hs' with hs' | ⟨b', off', rfl, hl'⟩
            · exact absurd hs' h1
            · have := (hb.trans (hW.mono hn₀)).cell (p := ⟨gb, 1, none⟩) (Nat.lt_of_lt_of_le (World.block_lt_of_cell? w0 _ hc') hn)
              rw [hc, hc'] at this
              simp only [Option.some.injEq, Value.slice.injEq, Addr.mk.injEq] at this
              have := hl'.block_lt h1
              omega
        exact walk1_in l Bg gb b off cap T es hr (fun o => hT b o hbn) J Jx W W hJ hY hB' hc hl h0
set_option maxHeartbeats 1000000 in
/-- walk: the receiver is boxed; the function captures the box. -/
theorem walk_any (gp : Option Addr) (w : World) :
    Calls Try.prog 35 #[.pointer gp] w fun e w' => e = .returned (.func (.func 67) #[] #[.pointer (some ⟨w.heap.size, 0, none⟩)]) ∧ w' = w.alloc (.cells #[.pointer gp] 24) := by
  go_enter Try.func35, Try.ntmps35
  go_wp2
  go_ret
  exact ⟨rfl, rfl⟩
end Go.Proofs.Ytbjoljokdjgbnab
/-
  A loop over a function that itself loops over a function: what such a function promises, and what the loop over it comes to.
-/
namespace Go.Proofs.Ytbjoljokdjgbnab
open Go.RowKit Go.Shelf
/-- How a body may be left: it goes on, or returns. -/
def After {α : Type} (B : Nat) (T : Nat → Obj → Prop) (I Ix : List α → World → Prop) (xs : List α) (W : World) : Exit → Act → World → Prop
  | .normal, _, W' => KeepsFrom B W W' ∧ Keeps T W W' ∧ I xs W'
  | .ret, _, W' => KeepsFrom B W W' ∧ Ix xs W'
  | _, _, _ => False
/-- The loop's own books: its record, and the block for what is put off. -/
def Books (W : World) (D : Nat) (r : Loop) : Prop := W.heap[D + 1]? = some (.loop r) ∧ W.heap[D]? = some (.deferred (some []))
theorem Books.lt {W : World} {D : Nat} {r : Loop} (h : Books W D r) : D + 1 < W.heap.size := (Array.getElem?_eq_some_iff.1 h.1).1
theorem Books.put {W : World} {D : Nat} {r : Loop} (r' : Loop) (h : Books W D r) : Books (W.putObj (D + 1) (.loop r')) D r' :=
  ⟨World.putObj_heap_same h.lt, (World.putObj_heap_other (by omega)).trans h.2⟩
theorem Books.keeps {W W' : World} {D : Nat} {r : Loop} (h : Books W D r) (k : KeepsFrom D W W') : Books W' D r :=
  ⟨k.same _ _ (by omega) h.1 rfl, k.same _ _ (Nat.le_refl _) h.2 rfl⟩
theorem Books.grown {W W' : World} {D B : Nat} {r : Loop} {row : Option Nat} (h : Books W D r) (hg : W.grownBy W' row) (hB : D + 2 ≤ B) (hr : ∀ k, row = some k → B ≤ k) : Books W' D r := by
  have hl := h.lt
  refine ⟨(hg.block (D + 1) hl fun e => ?_).trans h.1, (hg.block D (by omega) fun e => ?_).trans h.2⟩
  · have := hr _ e.symm; omega
  · have := hr _ e.symm; omega
theorem keeps_put {T : Nat → Obj → Prop} {D : Nat} {W : World} {r : Loop} (hT : ∀ k r, D ≤ k → ¬ T k (.loop r)) (h : Books W D r) (o : Obj) : Keeps T W (W.putObj (D + 1) o) :=
  Keeps.grown (grownBy_putObj' W (D + 1) o) fun k o' e hk => by cases e; rw [h.1] at hk; cases hk; exact hT _ _ (by omega)
theorem from_put (D : Nat) (W : World) (o : Obj) : KeepsFrom (D + 2) W (W.putObj (D + 1) o) := KeepsFrom.of_grownBy (grownBy_putObj' W (D + 1) o) fun j e => by cases e; omega
theorem from_mono {B B' : Nat} {W W' : World} (h : KeepsFrom B W W') (hB : B ≤ B') : KeepsFrom B' W W' := ⟨h.size, fun k o hk => h.same k o (by omega)⟩
set_option maxHeartbeats 1000000 in
/-- THE LOOP. -/
theorem range_law {α : Type} {g : Operand} {ps : Array Tmp} {assign body : Code} {Q : Exit → Act → World → Prop} {a : Act} {w : World} {gf : Nat} {lb : Array Value} (hg : a.eval g = .func (.func gf) #[] lb)
    (eg : ∀ args w, (callFunc gf args).run Try.prog w = .ok (.enter gf args) w) {encs : α → Array Value} {T : Nat → Obj → Prop} {N : Nat} {S : List α → Prop} (hT : ∀ k r, w.heap.size ≤ k → ¬ T k (.loop r)) (hseq : Seq gf lb encs T S N w) (hps : ∀ x, (encs x).size = ps.size)
    (I Ix : List α → World → Prop) (hI : OwnFrom w.heap.size I) (hIx : OwnFrom w.heap.size Ix) (h0 : I [] w) (Ax : List α × α × Act → World → Prop) (hAx : OwnFrom w.heap.size Ax)
    (hassign : ∀ (l : Nat) (pre : List α) (x : α) (W : World) (K : Act → World → Prop), I pre W → (∀ a' W', KeepsFrom w.heap.size W W' → Keeps T W W' → Ax (pre, x, a') W' → K a' W') →
      assign.wpIn (WR l) 0 Try.prog (Exit.then K (fun _ _ _ => False)) { tmps := (ps.zip (encs x)).foldl (fun t (p, v) => t.setIfInBounds p v) a.tmps, defers := [] } W)
    (hbody : ∀ (l : Nat) (pre : List α) (x : α) (a' : Act) (W : World), pre.length < N → Ax (pre, x, a') W → body.wpIn (WR l) 0 Try.prog (After w.heap.size T I Ix (pre ++ [x]) W) a' W)
    (hdone : ∀ (D : Nat) (xs : List α) (W : World), w.heap.size ≤ D → S xs → I xs W → W.heap[D]? = some (.deferred (some [])) → Q .normal { a with defers := { target := .collected D, args := #[] } :: a.defers } W)
    (hstop : ∀ (D : Nat) (pre : List α) (W : World), w.heap.size ≤ D → Ix pre W → W.heap[D]? = some (.deferred (some [])) → Code.ret.wpIn Fence.wide 0 Try.prog Q { a with defers := { target := .collected D, args := #[] } :: a.defers } W) :
    (Code.rangeFunc g ps assign body).wpIn Fence.wide 0 Try.prog Q a w := by
  refine wpIn_rangeFunc fun fn _ => ?_
  obtain ⟨rec, hrec⟩ : ∃ rec : LoopState → Option Code → Loop, rec = fun st pe => { state := st, pending := pe, fn := fn, tmps := a.tmps, params := ps, assign := assign, body := body, defers := w.heap.size } := ⟨_, rfl⟩
  obtain ⟨W1, hW1⟩ : ∃ W1, (w.alloc (.deferred (some []))).alloc (.loop (rec .ready none)) = W1 := ⟨_, rfl⟩
  have hs1 : W1.heap.size = w.heap.size + 2 := by rw [← hW1]; simp
  have hb1 : Books W1 w.heap.size (rec .ready none) := by
    rw [← hW1]
    refine ⟨?_, (Below.heap_alloc _ _ _ (by simp)).trans (World.alloc_heap_new w _)⟩
    have := World.alloc_heap_new (w.alloc (.deferred (some []))) (.loop (rec .ready none))
    rwa [World.size_alloc] at this
  have hi1 : I [] W1 := by rw [← hW1]; exact hI.alloc _ (hI.alloc _ h0)
  have hw1 : Below w.heap.size w W1 := by rw [← hW1]; exact ((Below.refl _ w).alloc (Nat.le_refl _) _).alloc (by simp) _
  refine ⟨w.heap.size + 1, [{ target := .collected w.heap.size, args := #[] }], W1, { target := .fn (.func gf) lb, args := #[.func (.yield (w.heap.size + 1)) #[] #[]] }, W1, gf,
    #[.func (.yield (w.heap.size + 1)) #[] #[]] ++ lb, W1, ?_, ?_, fun _ _ => trivial, ?_, fun hd => (by cases hd), ?_⟩
  · rw [← hW1, hrec]; exact run_enterLoop_outer _ _ _ _ _
  · simp only [resolve, hg]
    simp [go_sem]
  · simp [invoke, go_sem, eg]
  refine (hseq (w.heap.size + 1) (fun pre W => I pre W ∧ Books W w.heap.size (rec .ready none)) (fun pre W => Ix pre W ∧ Books W w.heap.size (rec .done (some .ret))) W1 hw1 ?own1 ?own2 ?round ⟨hi1, hb1⟩).mono ?_
  case own1 =>
    rintro s X Y row ⟨hs, hb⟩ hg' hr
    refine ⟨hI s X Y row hs hg' fun r e => ⟨by have := (hr r e).1; omega, (hr r e).2⟩, hb.grown (B := W1.heap.size) hg' (by omega) fun k e => (hr k e).1⟩
  case own2 =>
    rintro s X Y row ⟨hs, hb⟩ hg' hr
    refine ⟨hIx s X Y row hs hg' fun r e => ⟨by have := (hr r e).1; omega, (hr r e).2⟩, hb.grown (B := W1.heap.size) hg' (by omega) fun k e => (hr k e).1⟩
  case round =>
    rintro pre x W ⟨hi, hb⟩ hlen
    have hy := run_yield (P := Try.prog) (args := encs x) hb.1 (by rw [hrec]; exact hps x)
    rw [hrec] at hy
    refine ⟨fn, _, assign, body, hy, roundIn_of_wpIn trivial (hassign _ pre x W _ hi ?_)⟩
    intro a' W' hk1 hbl1 hax
    have hb' := hb.keeps hk1
    refine ⟨_, run_beginRound hb'.1 (by rw [hrec]), ?_⟩
    obtain ⟨r2, hr2⟩ : ∃ r2, r2 = ({ rec .ready none with state := .busy } : Loop) := ⟨_, rfl⟩
    rw [← hr2]
    have hb2 : Books _ _ r2 := hb'.put r2
    have hax2 := hAx.putObj (.loop r2) hax (by omega) hb'.1 rfl
    have hbl2 : Keeps T W (W'.putObj (w.heap.size + 1) (.loop r2)) := hbl1.trans (keeps_put hT hb' _)
    have hkf2 : KeepsFrom W1.heap.size W (W'.putObj (w.heap.size + 1) (.loop r2)) := by rw [hs1]; exact (from_mono hk1 (by omega)).trans (from_put _ _ _)
    refine wpIn_mono (hbody _ pre x a' _ hlen hax2) ?_
    intro e a3 W3 hp
    cases e with
    | normal =>
      obtain ⟨hk3, hbl3, hi3⟩ := hp
      have hb3 := hb2.keeps hk3
      refine ⟨_, _, run_endRound none hb3.1, hkf2.trans ((from_mono hk3 (by omega)).trans (by rw [hs1]; exact from_put _ _ _)), .inl ⟨rfl, ⟨hI.putObj _ hi3 (by omega) hb3.1 rfl, ?_⟩, hbl2.trans (hbl3.trans (keeps_put hT hb3 _))⟩⟩
      have := hb3.put { r2 with state := .ready, pending := none }
      rw [hr2, hrec] at this ⊢
      exact this
    | ret =>
      obtain ⟨hk3, hi3⟩ := hp
      have hb3 := hb2.keeps hk3
      refine ⟨_, _, run_endRound (some .ret) hb3.1, hkf2.trans ((from_mono hk3 (by omega)).trans (by rw [hs1]; exact from_put _ _ _)), .inr ⟨rfl, hIx.putObj _ hi3 (by omega) hb3.1 rfl, ?_⟩⟩
      have := hb3.put { r2 with state := .done, pending := some .ret }
      rw [hr2, hrec] at this ⊢
      exact this
    | _ => exact hp.elim
  rintro e W2 ⟨⟨v, rfl⟩, ⟨xs, hS, hi, hb⟩ | ⟨pre, hi, hb⟩⟩
  · refine ⟨_, _, run_endLoop hb.1 (by rw [hrec]; simp), ?_⟩
    rw [hrec]
    exact hdone _ xs _ (Nat.le_refl _) hS (hI.putObj _ hi (by omega) hb.1 rfl) (hb.put _).2
  · refine ⟨_, _, run_endLoop hb.1 (by rw [hrec]; simp), ?_⟩
    rw [hrec]
    exact hstop _ pre _ (Nat.le_refl _) (hIx.putObj _ hi (by omega) hb.1 rfl) (hb.put _).2
end Go.Proofs.Ytbjoljokdjgbnab
/-
  The edges at a node, walked: what (*Graph).at and its function yield.
-/
namespace Go.Proofs.Ytbjoljokdjgbnab
open Go.RowKit Go.Shelf
attribute [local go_sem] Oper.semAt_some
/-- Does the edge leave v, or come to it? -/
def sel (v : Int) (inn : Bool) {es : Edges} (x : At es) : Bool := decide ((if inn then x.1.2.2 else x.1.2.1) = v)
theorem cell_pair0 (W : World) (u v : Value) (t : TypeId) : (W.alloc (.cells #[u, v] t)).cell? ⟨W.heap.size, 0, none⟩ = some u := by
  unfold World.cell?; rw [World.alloc_heap_new]; rfl
theorem cell_pair1 (W : World) (u v : Value) (t : TypeId) : (W.alloc (.cells #[u, v] t)).cell? ⟨W.heap.size, 1, none⟩ = some v := by
  unfold World.cell?; rw [World.alloc_heap_new]; rfl
theorem cell_al {W : World} {p : Addr} {v : Value} (o : Obj) (h : W.cell? p = some v) : (W.alloc o).cell? p = some v :=
  (((Below.refl _ W).alloc (Nat.le_refl _) o).cell (World.block_lt_of_cell? W _ h)).trans h
set_option maxRecDepth 100000 in
set_option maxHeartbeats 4000000 in
theorem at1_in (Bg Bi Bv n₀ : Nat) (T : Nat → Obj → Prop) (hT : ∀ k o, k < n₀ → T k o) (hTi : ∀ o, T Bi o) (hTv : ∀ o, T Bv o) (hTy : ∀ k v, T k (.cells #[v] 122 (0, 0))) (gp : Option Addr) (v : Int) (inn : Bool) (es : Edges) (hr : es.length ≤ 1000000)
    (w0 w : World) (hw : Walks w0 gp es) (hn : w0.heap.size ≤ n₀) (hn₀ : n₀ ≤ w.heap.size) (hb : Below n₀ w0 w)
    (hBg : w.cell? ⟨Bg, 0, none⟩ = some (.pointer gp)) (hBi : w.cell? ⟨Bi, 0, none⟩ = some (.bool inn)) (hBv : w.cell? ⟨Bv, 0, none⟩ = some (.int .i64 v)) :
    Seq 69 #[.pointer (some ⟨Bg, 0, none⟩), .pointer (some ⟨Bi, 0, none⟩), .pointer (some ⟨Bv, 0, none⟩)] (encA (es := es)) T (fun ys => ys = (upto es es.length (Nat.le_refl _)).filter (sel v inn)) es.length w := by
  intro l J Jx W hW hJ hJx hY h0
  have c1 : W.cell? ⟨Bg, 0, none⟩ = some (.pointer gp) := (hW.cell (p := ⟨Bg, 0, none⟩) (World.block_lt_of_cell? w _ hBg)).trans hBg
  have c2 : W.cell? ⟨Bi, 0, none⟩ = some (.bool inn) := (hW.cell (p := ⟨Bi, 0, none⟩) (World.block_lt_of_cell? w _ hBi)).trans hBi
  have c3 : W.cell? ⟨Bv, 0, none⟩ = some (.int .i64 v) := (hW.cell (p := ⟨Bv, 0, none⟩) (World.block_lt_of_cell? w _ hBv)).trans hBv
  have lg := World.block_lt_of_cell? W _ c1
  have li := World.block_lt_of_cell? W _ c2
  have lv := World.block_lt_of_cell? W _ c3
  dsimp only at lg li lv
  refine callsIn_of_wp_marks Try.func69 rfl trivial ?_ rfl
  simp only [Try.ntmps69, List.size_toArray, List.length_cons, List.length_nil, Nat.reduceAdd, Nat.reduceSub, Array.replicate_succ, Array.replicate_zero, List.push_toArray, List.append_toArray, List.nil_append, List.cons_append]
  gi_wp2_with (refine ⟨trivial, rfl, ?_⟩; gi_at_call 35; refine (callsIn_wide.2 (walk_any _ _)).mono ?_; rintro e w' ⟨rfl, rfl⟩)
  have bY := (Boxed.new W 122 (.func (.yield l) #[] #[])).alloc (.cells #[.pointer gp] 24)
  have bG := Boxed.new (W.alloc (.cells #[.func (.yield l) #[] #[]] 122)) 24 (.pointer gp)
  have hBel : Below W.heap.size W ((W.alloc (.cells #[.func (.yield l) #[] #[]] 122)).alloc (.cells #[.pointer gp] 24)) := ((Below.refl _ W).alloc (Nat.le_refl _) _).alloc (by simp) _
  have hJ0 : J [] ((W.alloc (.cells #[.func (.yield l) #[] #[]] 122)).alloc (.cells #[.pointer gp] 24)) := hJ.alloc _ (hJ.alloc _ h0)
  simp only [World.size_alloc] at bG
  obtain ⟨W0, hW0⟩ : ∃ W0, (W.alloc (.cells #[.func (.yield l) #[] #[]] 122)).alloc (.cells #[.pointer gp] 24) = W0 := ⟨_, rfl⟩
  have hsz : W0.heap.size = W.heap.size + 2 := by rw [← hW0]; simp
  rw [hW0] at bY bG hBel hJ0 ⊢
  clear hW0
  have hWsz := hW.size
  refine range_law (gf := 67) (lb := #[.pointer (some ⟨W.heap.size + 1, 0, none⟩)]) rfl (enters_of Try.func67 (by kernel_rfl) rfl) (T := fun k _ => k < n₀) (fun k _ hk ht => by omega)
    (walk_seq (W.heap.size + 1) n₀ _ (fun _ _ h => h) gp es hr w0 W0 hw hn (by omega) (hb.trans ((hW.mono hn₀).trans (hBel.mono (by omega)))) bG.cell) (fun _ => rfl)
    (fun pre W' => (J (pre.filter (sel v inn)) W' ∧ (pre.filter (sel v inn)).length ≤ pre.length) ∧ Boxed W' W.heap.size 122 (.func (.yield l) #[] #[]) ∧ W'.cell? ⟨Bi, 0, none⟩ = some (.bool inn) ∧ W'.cell? ⟨Bv, 0, none⟩ = some (.int .i64 v))
    (fun _ W' => ∃ q, Jx q W')
    ?hI ?hIx ?h0
    (fun s W' => ∃ Bx, ((J (s.1.filter (sel v inn)) W' ∧ (s.1.filter (sel v inn)).length ≤ s.1.length) ∧ Boxed W' W.heap.size 122 (.func (.yield l) #[] #[]) ∧ W'.cell? ⟨Bi, 0, none⟩ = some (.bool inn) ∧ W'.cell? ⟨Bv, 0, none⟩ = some (.int .i64 v)) ∧
      W'.cell? ⟨Bx, 0, none⟩ = some (.int .i64 s.2.1.1.2.1) ∧ W'.cell? ⟨Bx, 1, none⟩ = some (.int .i64 s.2.1.1.2.2) ∧ s.2.2 = { tmps := #[.func (.yield l) #[] #[], .pointer (some ⟨Bg, 0, none⟩), .pointer (some ⟨Bi, 0, none⟩), .pointer (some ⟨Bv, 0, none⟩), .pointer (some ⟨W.heap.size, 0, none⟩), .int .i64 (s.2.1.1.1 : Int), .pointer (some ⟨Bx, 0, none⟩), undef, .pointer gp, .func (.func 67) #[] #[.pointer (some ⟨W.heap.size + 1, 0, none⟩)], .int .i64 (s.2.1.1.1 : Int), .agg #[.int .i64 s.2.1.1.2.1, .int .i64 s.2.1.1.2.2], undef, undef, undef, undef, undef, undef, undef, undef, undef, undef, undef, undef, undef, undef, undef], defers := [] })
    ?hAx ?assign ?body ?done ?stop
  case assign =>
    rintro l' pre x W' K ⟨⟨hj, hl⟩, hy, hi, hv⟩ hK
    dsimp only [encA]
    gi_wp2
    refine hK _ _ ((KeepsOthers.alloc _ _).from _) (Keeps.alloc _ _ _) ⟨W'.heap.size, ⟨⟨hJ.alloc _ hj, hl⟩, hy.alloc _, ?_, ?_⟩, cell_pair0 _ _ _ _, cell_pair1 _ _ _ _, rfl⟩
    · exact cell_al _ hi
    · exact cell_al _ hv
  case hI =>
    rintro pre X Y row ⟨⟨hj, hl⟩, hy, hi, hv⟩ hg hrow
    exact ⟨⟨hJ _ X Y row hj hg fun r e => ⟨by have := (hrow r e).1; omega, (hrow r e).2⟩, hl⟩, boxed_own W.heap.size 122 (fun (_ : Unit) => Value.func (.yield l) #[] #[]) () X Y row hy hg (fun r e => (hrow r e).2), cell_kept hi hg (fun r e => (hrow r e).2), cell_kept hv hg (fun r e => (hrow r e).2)⟩
  case hIx =>
    rintro pre X Y row ⟨q, hq⟩ hg hrow
    exact ⟨q, hJx _ X Y row hq hg fun r e => ⟨by have := (hrow r e).1; omega, (hrow r e).2⟩⟩
  case h0 =>
    exact ⟨⟨hJ0, by simp⟩, bY, (hBel.cell (p := ⟨Bi, 0, none⟩) li).trans c2, (hBel.cell (p := ⟨Bv, 0, none⟩) lv).trans c3⟩
  case hAx =>
    rintro s X Y row ⟨Bx, ⟨⟨hj, hl⟩, hy, hi, hv⟩, hx1, hx2, ha⟩ hg hrow
    have hr' : ∀ r, row = some r → ∃ o : Obj, X.heap[r]? = some o ∧ o.isCells = false := fun r e => (hrow r e).2
    exact ⟨Bx, ⟨⟨hJ _ X Y row hj hg fun r e => ⟨by have := (hrow r e).1; omega, (hrow r e).2⟩, hl⟩, boxed_own W.heap.size 122 (fun (_ : Unit) => Value.func (.yield l) #[] #[]) () X Y row hy hg hr', cell_kept hi hg hr', cell_kept hv hg hr'⟩, cell_kept hx1 hg hr', cell_kept hx2 hg hr', ha⟩
  case body =>
    rintro l' pre x a' W' hlen ⟨Bx, ⟨⟨hj, hl⟩, hy, hi, hv⟩, hx1, hx2, ha⟩
    dsimp only at hj hl hy hi hv hx1 hx2 ha hlen
    subst ha
    have cy := hy.cell
    have hfl : (pre.filter (sel v inn)).length < es.length := by omega
    have hlx : (List.filter (sel v inn) (pre ++ [x])).length ≤ (pre ++ [x]).length := List.length_filter_le _ _
    have hgo : ∀ W3, KeepsFrom W.heap.size W' W3 → Keeps T W' W3 → J (List.filter (sel v inn) (pre ++ [x])) W3 → After W0.heap.size (fun k _ => k < n₀) (fun pre W' => (J (pre.filter (sel v inn)) W' ∧ (pre.filter (sel v inn)).length ≤ pre.length) ∧ Boxed W' W.heap.size 122 (.func (.yield l) #[] #[]) ∧ W'.cell? ⟨Bi, 0, none⟩ = some (.bool inn) ∧ W'.cell? ⟨Bv, 0, none⟩ = some (.int .i64 v)) (fun _ W' => ∃ q, Jx q W') (pre ++ [x]) W' .normal { tmps := #[], defers := [] } W3 :=
      fun W3 k1 k2 j3 => ⟨from_mono k1 (by omega), k2.mono hT, ⟨j3, hlx⟩, k2.2 _ _ (hTy _ _) hy, k2.cell hTi hi, k2.cell hTv hv⟩
    have hgo' : Hid _ := hgo
    clear hgo hTi hTv hTy hT
    have hYx : Hid _ := hY (pre.filter (sel v inn)) x W' hj hfl
    clear hY
    cases inn with
    | false =>
      by_cases hs : x.1.2.1 = v
      · obtain ⟨fn, tmps, assign, body, hyr, hR⟩ := hYx.out
        dsimp only [encA] at hyr
        rw [hs] at hyr
        have hfx : List.filter (sel v false) (pre ++ [x]) = List.filter (sel v false) pre ++ [x] := by simp [List.filter_append, sel, hs]
        rw [hfx] at hgo'
        gi_wp2
        refine ⟨rfl, RoundIn.mono (F := WR l') hR ?_⟩
        rintro e W3 ⟨k1, ⟨rfl, hJ3, k2⟩ | ⟨rfl, hJx3⟩⟩
        · gi_wp2
          exact hgo'.out W3 k1 k2 hJ3
        · gi_wp2
          exact ⟨from_mono k1 (by omega), _, hJx3⟩
      · have hfx : List.filter (sel v false) (pre ++ [x]) = List.filter (sel v false) pre := by simp [List.filter_append, sel, hs]
        rw [hfx] at hgo'
        have hd : (x.1.2.1 == v) = false := by simp [hs]
        gi_wp2
        refine ⟨fun _ h => (by cases h), ?_⟩
        gi_wp2
        exact hgo'.out W' (KeepsFrom.refl _ _) (Keeps.refl _ _) hj
    | true =>
      by_cases hs : x.1.2.2 = v
      · obtain ⟨fn, tmps, assign, body, hyr, hR⟩ := hYx.out
        dsimp only [encA] at hyr
        rw [hs] at hyr
        have hfx : List.filter (sel v true) (pre ++ [x]) = List.filter (sel v true) pre ++ [x] := by simp [List.filter_append, sel, hs]
        rw [hfx] at hgo'
        gi_wp2
        refine ⟨rfl, RoundIn.mono (F := WR l') hR ?_⟩
        rintro e W3 ⟨k1, ⟨rfl, hJ3, k2⟩ | ⟨rfl, hJx3⟩⟩
        · gi_wp2
          exact hgo'.out W3 k1 k2 hJ3
        · gi_wp2
          exact ⟨from_mono k1 (by omega), _, hJx3⟩
      · have hfx : List.filter (sel v true) (pre ++ [x]) = List.filter (sel v true) pre := by simp [List.filter_append, sel, hs]
        rw [hfx] at hgo'
        have hd : (x.1.2.2 == v) = false := by simp [hs]
        gi_wp2
        refine ⟨fun _ h => (by cases h), ?_⟩
        gi_wp2
        exact hgo'.out W' (KeepsFrom.refl _ _) (Keeps.refl _ _) hj
  case done =>
    rintro D xs W' hD rfl ⟨⟨hj, hl⟩, hy, hi, hv⟩ hK
    gi_wp2
    refine ⟨by simp, .inl ⟨_, _, rfl, run_takeDeferred hK, ?_⟩⟩
    exact ⟨_, results_none rfl _ _ _, ⟨_, rfl⟩, .inl ⟨_, rfl, hJ.putObj _ hj (by omega) hK rfl⟩⟩
  case stop =>
    rintro D pre W' hD ⟨q, hq⟩ hK
    gi_wp2
    refine ⟨by simp, .inl ⟨_, _, rfl, run_takeDeferred hK, ?_⟩⟩
    exact ⟨_, results_none rfl _ _ _, ⟨_, rfl⟩, .inr ⟨q, hJx.putObj _ hq (by omega) hK rfl⟩⟩
set_option maxHeartbeats 1000000 in
/-- at: all three are boxed; the function captures the boxes. -/
theorem at_any (gp : Option Addr) (v : Int) (inn : Bool) (w : World) :
    Calls Try.prog 39 #[.pointer gp, .int .i64 v, .bool inn] w fun e w' => e = .returned (.func (.func 69) #[] #[.pointer (some ⟨w.heap.size, 0, none⟩), .pointer (some ⟨w.heap.size + 2, 0, none⟩), .pointer (some ⟨w.heap.size + 1, 0, none⟩)]) ∧ w' = ((w.alloc (.cells #[.pointer gp] 24)).alloc (.cells #[.int .i64 v] 3)).alloc (.cells #[.bool inn] 4) := by
  go_enter Try.func39, Try.ntmps39
  go_wp2
  go_ret
  exact ⟨by simp, rfl⟩
end Go.Proofs.Ytbjoljokdjgbnab
/-
  The places of the edges at a node: what (*Graph).placesAt, Out, In and Degree come to.
-/
namespace Go.Proofs.Ytbjoljokdjgbnab
open Go.RowKit Go.Shelf
attribute [local go_sem] Oper.semAt_some
theorem hidI {p : Prop} (h : p) : Hid p := h
/-- The value v reads as the numbers zs in the world w. -/
def Sees (w : World) (v : Value) (zs : List Int) : Prop :=
  ∃ (a : Option Addr) (cap : Nat), v = .slice a zs.length cap ∧ (zs = [] ∨ ∃ b off, a = some ⟨b, off, none⟩ ∧ ∀ j, j < zs.length → w.cell? ⟨b, off + j, none⟩ = some (.int .i64 (zs.getD j 0)))
theorem Sees.below {w w' : World} {v : Value} {zs : List Int} {B : Nat} (h : Sees w v zs) (hb : Below B w w') (hB : w.heap.size ≤ B) : Sees w' v zs := by
  obtain ⟨a, cap, rfl, h⟩ := h
  refine ⟨a, cap, rfl, ?_⟩
  rcases h with h | ⟨b, off, rfl, hc⟩
  · exact .inl h
  · exact .inr ⟨b, off, rfl, fun j hj => (hb.cell (p := ⟨b, off + j, none⟩) (Nat.lt_of_lt_of_le (World.block_lt_of_cell? w _ (hc j hj)) hB)).trans (hc j hj)⟩
theorem add_at (g j : Nat) : (⟨g, 0, none⟩ : Addr).add j = ⟨g, j, none⟩ := by unfold Addr.add; split <;> simp_all
theorem sees_of_owns {w : World} {base e : Nat} {v : Value} {zs : List Int} (h : w.ownsRow base e 1 v zs.length (zs.map (Value.int .i64))) : Sees w v zs := by
  rcases Joins.ownsRow_forms h with ⟨rfl, h0⟩ | ⟨g, cap, rfl⟩
  · exact ⟨none, 0, by rw [h0], .inl (List.eq_nil_of_length_eq_zero h0)⟩
  · refine ⟨_, cap, rfl, .inr ⟨g, 0, rfl, fun j hj => ?_⟩⟩
    rw [Nat.zero_add, ← add_at]
    exact World.ownsRow.cells h rfl j _ (by simp [List.getD, hj])
/-- A box that holds a slice of one's own, appended to. -/
theorem box_appended {W w1 : World} {n₀ B : Nat} {t e : TypeId} {size : Nat} {v v' : Value} {k m : Nat} {xs ys : List Value} {tmp : Obj} {T : Nat → Obj → Prop}
    (hv : Boxed W B t v) (hte : t ≠ e) (hrow : W.ownsRow n₀ e size v k xs) (hown' : w1.ownsRow n₀ e size v' m ys) (hgrow : (W.alloc tmp).grownBy w1 v.ownBlock)
    (hT1 : ∀ u, ¬ T B (.cells #[u] t (0, 0))) (hT2 : ∀ k cs u, n₀ ≤ k → ¬ T k (.cells cs e u)) :
    Boxed w1 B t v ∧ Boxed (w1.setCell ⟨B, 0, none⟩ v') B t v' ∧ (w1.setCell ⟨B, 0, none⟩ v').ownsRow n₀ e size v' m ys ∧ KeepsOthers W (w1.setCell ⟨B, 0, none⟩ v') ∧ Keeps T W (w1.setCell ⟨B, 0, none⟩ v') := by
  have hv1 : Boxed w1 B t v := (hv.alloc tmp).kept hgrow (hv.not_row hte hrow)
  refine ⟨hv1, hv1.set v', hown'.kept (grownBy_setCell' w1 B v') (.inr (hv1.not_row hte hown').symm), ?_, ?_⟩
  · refine ((KeepsOthers.alloc W tmp).trans (KeepsOthers.of_grownBy hgrow fun j o ej hj => ?_)).trans (KeepsOthers.setCell _ _ _)
    rcases (hrow.alloc tmp).2 with ⟨rfl, _⟩ | ⟨g, cap, cur, rfl, _, hgb, _⟩
    · simp [Value.ownBlock] at ej
    · obtain rfl : g = j := by simpa [Value.ownBlock] using ej
      rw [hgb] at hj; cases hj; rfl
  · refine ((Keeps.alloc T W tmp).trans (Keeps.grown hgrow fun j o ej hj => ?_)).trans (Keeps.grown (grownBy_setCell' w1 B v') fun j o ej hj => by cases ej; rw [show w1.heap[B]? = _ from hv1] at hj; cases hj; exact hT1 _)
    rcases (hrow.alloc tmp).2 with ⟨rfl, _⟩ | ⟨g, cap, cur, rfl, hb, hgb, _⟩
    · simp [Value.ownBlock] at ej
    · obtain rfl : g = j := by simpa [Value.ownBlock] using ej
      rw [hgb] at hj; cases hj; exact hT2 _ _ _ hb
theorem below_set {n B : Nat} {w W w1 : World} {e : TypeId} {size k : Nat} {v v' : Value} {xs : List Value} {tmp : Obj} {n₀ : Nat} (h : Below n w W) (hn : n ≤ W.heap.size) (hB : n ≤ B) (hn₀ : n ≤ n₀) (hrow : W.ownsRow n₀ e size v k xs) (hgrow : (W.alloc tmp).grownBy w1 v.ownBlock) :
    Below n w (w1.setCell ⟨B, 0, none⟩ v') := by
  refine ((h.alloc hn tmp).grown hgrow (by simp; omega) fun j ej => ?_).setCell (p := ⟨B, 0, none⟩) hB v'
  rcases hrow.2 with ⟨rfl, _⟩ | ⟨g, cap, cur, rfl, hb, _, _⟩
  · simp [Value.ownBlock] at ej
  · obtain rfl : g = j := by simpa [Value.ownBlock] using ej
    omega
theorem ownFrom_size {β : Type} (B n : Nat) : OwnFrom B (fun (_ : β) (W : World) => n ≤ W.heap.size) := fun _ _ _ _ hs hg _ => Nat.le_trans hs hg.size
theorem Try.info3 : (Try.prog.info? 3).map (fun i => (i.zero, i.size, i.bytes)) = some (some (.int .i64 0), 1, 8) := by kernel_rfl
/-- The places of the edges at v. -/
def places (es : Edges) (v : Int) (inn : Bool) : List Int := ((upto es es.length (Nat.le_refl _)).filter (sel v inn)).map (fun x => (x.1.1 : Int))
/-- The slice v, if it lies anywhere, lies from n on. -/
def Fresh (n : Nat) (v : Value) : Prop := ∀ k, v.ownBlock = some k → n ≤ k
set_option maxRecDepth 100000 in
set_option maxHeartbeats 4000000 in
theorem placesAt_new (gp : Option Addr) (v : Int) (inn : Bool) (es : Edges) (hr : es.length ≤ 1000000) (w : World) (hw : Walks w gp es) :
    Calls Try.prog 68 #[.pointer gp, .int .i64 v, .bool inn] w fun e w' => ∃ u, e = .returned u ∧ Sees w' u (places es v inn) ∧ Below w.heap.size w w' ∧ Fresh w.heap.size u := by
  obtain ⟨i0, hi, hz0, hz1, hz2⟩ := info_parts Try.info3
  refine (callsIn_wide (n := 0)).1 ?_
  refine callsIn_of_wp_marks Try.func68 rfl trivial ?_ rfl
  simp only [Try.ntmps68, List.size_toArray, List.length_cons, List.length_nil, Nat.reduceAdd, Nat.reduceSub, Array.replicate_succ, Array.replicate_zero, List.push_toArray, List.append_toArray, List.nil_append, List.cons_append]
  gi_wp2_with (refine ⟨trivial, rfl, ?_⟩; gi_at_call 39; refine (callsIn_wide.2 (at_any _ _ _ _)).mono ?_; rintro e w' ⟨rfl, rfl⟩)
  have bP := (((Boxed.new w 28 (.slice none 0 0)).alloc (.cells #[.pointer gp] 24)).alloc (.cells #[.int .i64 v] 3)).alloc (.cells #[.bool inn] 4)
  have bG := ((Boxed.new (w.alloc (.cells #[.slice none 0 0] 28)) 24 (.pointer gp)).alloc (.cells #[.int .i64 v] 3)).alloc (.cells #[.bool inn] 4)
  have bV := (Boxed.new ((w.alloc (.cells #[.slice none 0 0] 28)).alloc (.cells #[.pointer gp] 24)) 3 (.int .i64 v)).alloc (.cells #[.bool inn] 4)
  have bI := Boxed.new (((w.alloc (.cells #[.slice none 0 0] 28)).alloc (.cells #[.pointer gp] 24)).alloc (.cells #[.int .i64 v] 3)) 4 (.bool inn)
  simp only [World.size_alloc] at bG bV bI
  have hB0 : Below w.heap.size w ((((w.alloc (.cells #[.slice none 0 0] 28)).alloc (.cells #[.pointer gp] 24)).alloc (.cells #[.int .i64 v] 3)).alloc (.cells #[.bool inn] 4)) := ((((Below.refl _ w).alloc (Nat.le_refl _) _).alloc (by simp) _).alloc (by simp; omega) _).alloc (by simp; omega) _
  have hsz : ((((w.alloc (.cells #[.slice none 0 0] 28)).alloc (.cells #[.pointer gp] 24)).alloc (.cells #[.int .i64 v] 3)).alloc (.cells #[.bool inn] 4)).heap.size = w.heap.size + 4 := by simp
  obtain ⟨W0, hW0⟩ : ∃ W0, (((w.alloc (.cells #[.slice none 0 0] 28)).alloc (.cells #[.pointer gp] 24)).alloc (.cells #[.int .i64 v] 3)).alloc (.cells #[.bool inn] 4) = W0 := ⟨_, rfl⟩
  rw [hW0] at bP bG bV bI hB0 hsz ⊢
  clear hW0
  refine range_law (gf := 69) (lb := #[.pointer (some ⟨w.heap.size + 1, 0, none⟩), .pointer (some ⟨w.heap.size + 1 + 1 + 1, 0, none⟩), .pointer (some ⟨w.heap.size + 1 + 1, 0, none⟩)]) rfl (enters_of Try.func69 (by kernel_rfl) rfl)
    (T := fun k o => (k < w.heap.size + 4 ∧ k ≠ w.heap.size) ∨ ∃ u, o = .cells #[u] 122 (0, 0)) (fun k _ hk ht => by rcases ht with ht | ⟨_, ht⟩; exact absurd ht.1 (by omega); cases ht)
    (at1_in (w.heap.size + 1) (w.heap.size + 1 + 1 + 1) (w.heap.size + 1 + 1) w.heap.size _ (fun k o hk => .inl ⟨by omega, by omega⟩) (fun o => .inl ⟨by omega, by omega⟩) (fun o => .inl ⟨by omega, by omega⟩) (fun k u => .inr ⟨u, rfl⟩) gp v inn es hr w W0 hw (Nat.le_refl _) (by omega) hB0 bG.cell bI.cell bV.cell) (fun _ => rfl)
    (fun pre W => (∃ u, Boxed W w.heap.size 28 u ∧ W.ownsRow (w.heap.size + 4) 3 1 u pre.length (pre.map fun x => Value.int .i64 (x.1.1 : Int)) ∧ True) ∧ (Below w.heap.size w W ∧ w.heap.size + 4 ≤ W.heap.size))
    (fun _ _ => False)
    (OwnFrom.and (Own.from (holdsRow_own (w.heap.size + 4) w.heap.size 28 3 1 (fun pre : List (At es) => pre.length) (fun pre => pre.map fun x => Value.int .i64 (x.1.1 : Int)) (fun _ _ => True)) _) (OwnFrom.and (ownFrom_below (Nat.le_refl _) (by omega)) (ownFrom_size _ _)))
    (fun _ _ _ _ hs _ _ => hs)
    ⟨⟨_, bP, World.ownsRow_nil _ _ _ _, trivial⟩, hB0, by omega⟩
    (fun s W => ((∃ u, Boxed W w.heap.size 28 u ∧ W.ownsRow (w.heap.size + 4) 3 1 u s.1.length (s.1.map fun x => Value.int .i64 (x.1.1 : Int)) ∧ True) ∧ (Below w.heap.size w W ∧ w.heap.size + 4 ≤ W.heap.size)) ∧ s.2.2 = { tmps := #[.pointer gp, .int .i64 v, .bool inn, undef, undef, undef, .slice none 0 0, .pointer (some ⟨w.heap.size, 0, none⟩), .int .i64 (s.2.1.1.1 : Int), .pointer gp, .int .i64 v, .bool inn, .func (.func 69) #[] #[.pointer (some ⟨w.heap.size + 1, 0, none⟩), .pointer (some ⟨w.heap.size + 1 + 2, 0, none⟩), .pointer (some ⟨w.heap.size + 1 + 1, 0, none⟩)], .int .i64 (s.2.1.1.1 : Int), .agg #[.int .i64 s.2.1.1.2.1, .int .i64 s.2.1.1.2.2], undef, undef, undef, undef, undef], defers := [] })
    (OwnFrom.and (OwnFrom.and (Own.from (holdsRow_own (w.heap.size + 4) w.heap.size 28 3 1 (fun s : List (At es) × At es × Act => s.1.length) (fun s => s.1.map fun x => Value.int .i64 (x.1.1 : Int)) (fun _ _ => True)) _) (OwnFrom.and (ownFrom_below (Nat.le_refl _) (by omega)) (ownFrom_size _ _))) (ownFrom_pure _ _))
    ?assign ?body ?done ?stop
  case assign =>
    rintro l pre x W K hi hK
    dsimp only [encA]
    gi_wp2
    exact hK _ _ (KeepsFrom.refl _ _) (Keeps.refl _ _) ⟨hi, rfl⟩
  case body =>
    rintro l pre x a' W hlen ⟨⟨⟨u, hv, hrow, -⟩, hB, hle⟩, ha⟩
    dsimp only at ha hrow hlen
    subst ha
    have hc := hv.cell
    have hf := hv.frozen
    have hT1 : ∀ u : Value, ¬ ((w.heap.size < w.heap.size + 4 ∧ w.heap.size ≠ w.heap.size) ∨ ∃ u', Obj.cells #[u] 28 (0, 0) = .cells #[u'] 122 (0, 0)) := by
      rintro u (ht | ⟨_, ht⟩)
      · exact ht.2 rfl
      · cases ht
    have hT2 : ∀ (k : Nat) (cs : Array Value) (u : Nat × Nat), w.heap.size + 4 ≤ k → ¬ ((k < w.heap.size + 4 ∧ k ≠ w.heap.size) ∨ ∃ u', Obj.cells cs 3 u = .cells #[u'] 122 (0, 0)) := by
      rintro k cs u hk (ht | ⟨_, ht⟩)
      · exact absurd ht.1 (by omega)
      · cases ht
    have hm : pre.length + 1 ≤ 1000000 := by omega
    gi_wp2_with (gi_at_builtin; refine wpListIn_append_own _ rfl _ _ 28 rfl (w.heap.size + 4) 3 i0 (.int .i64 0) 1 8 Try.underlying28 hi hz0 hz1 hz2 rfl (by decide) _ _ _ rfl (hrow.alloc _) ⟨W.heap.size, 0, none⟩ 1 1 [.int .i64 (x.1.1 : Int)] rfl rfl (cell_one_new _ _ _) (by simp [Value.oneCell']) (by unfold maxLen; omega) (by omega) (by simp; omega) ?_; intro v' w1 hown' hgrow _; obtain ⟨g', cap', rfl⟩ := ownsRow_succ hown'; obtain ⟨hv1, hv2, hr2, hk2, hb2⟩ := box_appended hv (by decide) hrow hown' hgrow (T := fun k o => (k < w.heap.size + 4 ∧ k ≠ w.heap.size) ∨ ∃ u, o = .cells #[u] 122 (0, 0)) hT1 hT2; have hc1 := hv1.cell; have hf1 := hv1.frozen; have hbl := below_set (v' := Value.slice (some ⟨g', 0, none⟩) (pre.length + 1) cap') hB hB.size (Nat.le_refl _) (by omega) hrow hgrow)
    refine ⟨hk2.from _, hb2, ⟨_, hv2, ?_, trivial⟩, hbl, by have := hk2.size; omega⟩
    simpa using hr2
  case done =>
    rintro D xs W hD rfl ⟨⟨u, hv, hrow, -⟩, hB, hle⟩ hK
    have hc := hv.cell
    gi_wp2
    have hS : Sees (W.putObj D (.deferred none)) u (places es v inn) := by
      refine sees_of_owns (base := w.heap.size + 4) (e := 3) (ownsRow_putObj ?_ _ hK rfl)
      have e1 : (places es v inn).length = (List.filter (sel v inn) (upto es es.length (Nat.le_refl _))).length := by simp [places]
      have e2 : (places es v inn).map (Value.int .i64) = List.map (fun x => Value.int .i64 (x.1.1 : Int)) (List.filter (sel v inn) (upto es es.length (Nat.le_refl _))) := by simp [places]
      rw [e1, e2]; exact hrow
    refine ⟨by simp, .inl ⟨_, _, rfl, run_takeDeferred hK, ?_⟩⟩
    exact ⟨_, results_tmp rfl _ _ _, u, rfl, hS, hB.trans (belowK_b (w := w) (Nat.le_refl _) W D _ _ (by omega) hK rfl rfl), fun k hk => by have := (hrow.lt k hk).1; omega⟩
  case stop =>
    rintro D pre W hD h
    exact h.elim
theorem placesAt_any (gp : Option Addr) (v : Int) (inn : Bool) (es : Edges) (hr : es.length ≤ 1000000) (w : World) (hw : Walks w gp es) :
    Calls Try.prog 68 #[.pointer gp, .int .i64 v, .bool inn] w fun e w' => ∃ u, e = .returned u ∧ Sees w' u (places es v inn) ∧ Below w.heap.size w w' :=
  (placesAt_new gp v inn es hr w hw).mono fun _ _ ⟨u, h1, h2, h3, _⟩ => ⟨u, h1, h2, h3⟩
theorem out_new (gp : Option Addr) (v : Int) (es : Edges) (hr : es.length ≤ 1000000) (w : World) (hw : Walks w gp es) :
    Calls Try.prog 37 #[.pointer gp, .int .i64 v] w fun e w' => ∃ u, e = .returned u ∧ Sees w' u (places es v false) ∧ Below w.heap.size w w' ∧ Fresh w.heap.size u := by
  have C : Hid _ := placesAt_new gp v false es hr w hw
  clear hw
  go_enter Try.func37, Try.ntmps37
  go_wp2_with (go_at_call 68; refine Calls.mono C.out ?_; rintro e w1 ⟨u, rfl, hs, hb, hf⟩; refine Hid.out ?_)
  refine hidI ?_
  have hs' : Hid _ := hs
  have hb' : Hid _ := hb
  have hf' := hidI hf
  clear hs hb hf
  go_wp2
  go_ret
  exact ⟨_, rfl, hs'.out, hb'.out, hf'.out⟩
theorem out_any (gp : Option Addr) (v : Int) (es : Edges) (hr : es.length ≤ 1000000) (w : World) (hw : Walks w gp es) :
    Calls Try.prog 37 #[.pointer gp, .int .i64 v] w fun e w' => ∃ u, e = .returned u ∧ Sees w' u (places es v false) ∧ Below w.heap.size w w' :=
  (out_new gp v es hr w hw).mono fun _ _ ⟨u, h1, h2, h3, _⟩ => ⟨u, h1, h2, h3⟩
end Go.Proofs.Ytbjoljokdjgbnab
/-
  Whether nodes and edges are a graph: what Check comes to; a copy of edges.
-/
namespace Go.Proofs.Ytbjoljokdjgbnab
open Go.RowKit Go.Deep
/-- Both ends are nodes. -/
def good (n : Int) (x : Int × Int) : Bool := (decide (0 ≤ x.1) && decide (x.1 < n)) && (decide (0 ≤ x.2) && decide (x.2 < n))
/-- What Check tells. -/
def check (n : Int) (es : Edges) : Int × Int :=
  if n < 1 ∨ 12 < n ∨ 30 < es.length then (-1, 11) else
  match es.findIdx? (fun x => !good n x) with
  | none => (0, 0)
  | some i => ((i : Int), 11)
theorem isNode_any (n v : Int) (w : World) : Calls Try.prog 38 #[.int .i64 n, .int .i64 v] w fun e w' => e = .returned (.bool (decide (0 ≤ v) && decide (v < n))) ∧ w = w' := by
  by_cases h : 0 ≤ v
  · go_enter Try.func38, Try.ntmps38
    go_wp2
    go_ret
    exact ⟨by simp [h], rfl⟩
  · have hd : decide (0 ≤ v) = false := by simp; omega
    go_enter Try.func38, Try.ntmps38
    go_wp2
    go_ret
    exact ⟨by simp, rfl⟩
theorem may_any (n : Int) (w : World) : Calls Try.prog 66 #[.int .i64 n] w fun e w' => e = .returned (.bool (decide (1 ≤ n) && decide (n ≤ 12))) ∧ w = w' := by
  by_cases h : 1 ≤ n
  · go_enter Try.func66, Try.ntmps66
    go_wp2
    go_ret
    exact ⟨by simp [h], rfl⟩
  · have hd : decide (1 ≤ n) = false := by simp; omega
    go_enter Try.func66, Try.ntmps66
    go_wp2
    go_ret
    exact ⟨by simp, rfl⟩
theorem findIdx_none {n : Int} {es : Edges} (h : ∀ (j : Nat) (x : Int × Int), es[j]? = some x → good n x = true) : es.findIdx? (fun x => !good n x) = none := by
  rw [List.findIdx?_eq_none_iff]
  intro x hx
  obtain ⟨j, hj⟩ := List.getElem?_of_mem hx
  simp [h j x hj]
theorem findIdx_some {n : Int} {es : Edges} {i : Nat} {x : Int × Int} (hx : es[i]? = some x) (hb : good n x = false) (h : ∀ (j : Nat) (x : Int × Int), j < i → es[j]? = some x → good n x = true) : es.findIdx? (fun x => !good n x) = some i := by
  rw [List.findIdx?_eq_some_iff_getElem]
  obtain ⟨hi, hxi⟩ := List.getElem?_eq_some_iff.1 hx
  refine ⟨hi, by rw [hxi, hb]; rfl, fun j hj => ?_⟩
  have := h j es[j] hj (List.getElem?_eq_getElem _)
  simp [this]
set_option maxHeartbeats 1000000 in
theorem check_sizes (n : Int) (a : Option Addr) (len cap : Nat) (w : World) (h : n < 1 ∨ 12 < n ∨ 30 < len) :
    Calls Try.prog 33 #[.int .i64 n, .slice a len cap] w fun e w' => e = .returned (.tuple #[.int .i64 (-1), .int .i64 11]) ∧ w = w' := by
  by_cases hn : 1 ≤ n ∧ n ≤ 12
  · have hl : (30 : Int) < (len : Int) := by omega
    have hd : (decide (1 ≤ n) && decide (n ≤ 12)) = true := by simp [hn]
    go_enter Try.func33, Try.ntmps33
    go_wp2_with (go_at_call 66; refine (may_any _ _).mono ?_; rintro e w' ⟨rfl, rfl⟩; rw [hd])
    go_ret2
    exact ⟨rfl, rfl⟩
  · have hd : (decide (1 ≤ n) && decide (n ≤ 12)) = false := by simp; omega
    go_enter Try.func33, Try.ntmps33
    go_wp2_with (go_at_call 66; refine (may_any _ _).mono ?_; rintro e w' ⟨rfl, rfl⟩; rw [hd])
    go_ret2
    exact ⟨rfl, rfl⟩
set_option maxHeartbeats 2000000 in
theorem check_walk (n : Int) (b off cap : Nat) (es : Edges) (w : World) (h1 : 1 ≤ n) (h2 : n ≤ 12) (h3 : es.length ≤ 30) (hc : Lie w b off es) (hb : b < w.heap.size) :
    Calls Try.prog 33 #[.int .i64 n, .slice (some ⟨b, off, none⟩) es.length cap] w fun e w' => e = .returned (.tuple #[.int .i64 (check n es).1, .int .i64 (check n es).2]) ∧ Below w.heap.size w w' := by
  have hd : (decide (1 ≤ n) && decide (n ≤ 12)) = true := by simp [h1, h2]
  have hl : decide ((30 : Int) < (es.length : Int)) = false := by simp; omega
  have hck : check n es = match es.findIdx? (fun x => !good n x) with | none => (0, 0) | some i => ((i : Int), 11) := by
    unfold check; rw [if_neg (by omega)]
  have HC : Hid _ := hc
  have HK : Hid _ := hck
  clear hc hck
  obtain ⟨m, hm⟩ : ∃ m, es.length = m := ⟨_, rfl⟩
  rw [hm] at h3 hl ⊢
  have HM : Hid _ := hm
  clear hm
  go_enter Try.func33, Try.ntmps33
  go_wp2_with (go_at_call 66; refine (may_any _ _).mono ?_; rintro e w' ⟨rfl, rfl⟩; rw [hd])
  go_loopg [18] m (fun g s18 wx => ∃ (i : Nat), i + g = m ∧ s18 = .int .i64 i ∧ Below w.heap.size w wx ∧ ∀ (j : Nat) (x : Int × Int), j < i → es[j]? = some x → good n x = true)
  case atStart => exact ⟨0, by omega, rfl, Below.refl _ _, fun j x hj => absurd hj (by omega)⟩
  case round =>
    obtain ⟨i, hig, rfl, hbl, hall⟩ := hrel
    have HA : Hid _ := hall
    clear hall
    cases gk with
    | zero =>
      have hil : i = m := by omega
      subst hil
      have hr : check n es = (0, 0) := by
        rw [HK.out, findIdx_none (fun j x hx => HA.out j x (by have := (List.getElem?_eq_some_iff.1 hx).1; have := HM.out; omega) hx)]
      go_wp2
      go_ret2
      exact ⟨by rw [hr]; rfl, hbl⟩
    | succ g =>
      have hlt : i < m := by omega
      obtain ⟨x, hx⟩ : ∃ x, es[i]? = some x := ⟨es[i]'(by have := HM.out; omega), List.getElem?_eq_getElem _⟩
      have HX : Hid _ := hx
      have c1 : wr.cell? ⟨b, off + i * 2, none⟩ = some (.int .i64 x.1) := (hbl.cell (p := ⟨b, off + i * 2, none⟩) hb).trans (HC.out i x hx).1
      have c2 : wr.cell? ⟨b, off + i * 2 + 1, none⟩ = some (.int .i64 x.2) := (hbl.cell (p := ⟨b, off + i * 2 + 1, none⟩) hb).trans (HC.out i x hx).2
      clear hx
      have hsz := hbl.size
      have hba : ∀ o, Below w.heap.size w (wr.alloc o) := fun o => hbl.alloc hsz o
      have HB : Hid _ := hba
      clear hba hbl
      by_cases g1 : (decide (0 ≤ x.1) && decide (x.1 < n)) = true
      · by_cases g2 : (decide (0 ≤ x.2) && decide (x.2 < n)) = true
        · go_wp2_with (go_at_call 38; refine (isNode_any _ _ _).mono ?_; rintro e w' ⟨rfl, rfl⟩; first | rw [g1] | rw [g2])
          go_roundg g
          case measure => omega
          case rel =>
            refine ⟨i + 1, by omega, by go_num, HB.out _, fun j y hj hy => ?_⟩
            by_cases hji : j = i
            · subst hji
              have := HX.out; rw [hy] at this; cases this
              simp [good, g1, g2]
            · exact HA.out j y (by omega) hy
        · have g2' : (decide (0 ≤ x.2) && decide (x.2 < n)) = false := by simpa using g2
          have hr : check n es = ((i : Int), 11) := by
            rw [HK.out, findIdx_some HX.out (by simp only [good, g1, g2']; rfl) HA.out]
          clear g2
          go_wp2_with (go_at_call 38; refine (isNode_any _ _ _).mono ?_; rintro e w' ⟨rfl, rfl⟩; first | rw [g1] | rw [g2'])
          go_ret2
          exact ⟨by rw [hr]; rfl, HB.out _⟩
      · have g1' : (decide (0 ≤ x.1) && decide (x.1 < n)) = false := by simpa using g1
        have hr : check n es = ((i : Int), 11) := by
          rw [HK.out, findIdx_some HX.out (by simp only [good, g1']; rfl) HA.out]
        clear g1
        go_wp2_with (go_at_call 38; refine (isNode_any _ _ _).mono ?_; rintro e w' ⟨rfl, rfl⟩; rw [g1'])
        go_ret2
        exact ⟨by rw [hr]; rfl, HB.out _⟩
set_option maxHeartbeats 1000000 in
theorem check_none (n : Int) (a : Option Addr) (cap : Nat) (w : World) (h1 : 1 ≤ n) (h2 : n ≤ 12) :
    Calls Try.prog 33 #[.int .i64 n, .slice a 0 cap] w fun e w' => e = .returned (.tuple #[.int .i64 0, .int .i64 0]) ∧ Below w.heap.size w w' := by
  have hd : (decide (1 ≤ n) && decide (n ≤ 12)) = true := by simp [h1, h2]
  go_enter Try.func33, Try.ntmps33
  go_wp2_with (go_at_call 66; refine (may_any _ _).mono ?_; rintro e w' ⟨rfl, rfl⟩; rw [hd])
  refine wp_loop_rounds 1 ?_
  rw [rounds_succ]
  go_wp2
  go_ret2
  exact ⟨rfl, Below.refl _ _⟩
theorem check_any (n : Int) (v : Value) (es : Edges) (w : World) (hv : SeesE w v es) :
    Calls Try.prog 33 #[.int .i64 n, v] w fun e w' => e = .returned (.tuple #[.int .i64 (check n es).1, .int .i64 (check n es).2]) ∧ Below w.heap.size w w' := by
  obtain ⟨a, cap, rfl, hs⟩ := hv
  by_cases h : n < 1 ∨ 12 < n ∨ 30 < es.length
  · refine (check_sizes n a es.length cap w h).mono ?_
    rintro e w' ⟨rfl, rfl⟩
    unfold check
    rw [if_pos h]
    exact ⟨rfl, Below.refl _ _⟩
  · by_cases h0 : es = []
    · subst h0
      refine (check_none n a cap w (by omega) (by omega)).mono ?_
      rintro e w' ⟨rfl, hb⟩
      unfold check
      rw [if_neg h]
      exact ⟨rfl, hb⟩
    · rcases hs with hs | ⟨b, off, rfl, hl⟩
      · exact absurd hs h0
      · exact check_walk n b off cap es w (by omega) (by omega) (by omega) hl (hl.block_lt h0)
/-- The edges' cells, one behind the other. -/
def flat : Edges → List Value
  | [] => []
  | x :: r => .int .i64 x.1 :: .int .i64 x.2 :: flat r
theorem flat_length : ∀ es : Edges, (flat es).length = es.length * 2
  | [] => rfl
  | _ :: r => by simp [flat, flat_length r]; omega
theorem flat_get : ∀ (es : Edges) (j : Nat) (u : Value), (flat es)[j]? = some u → ∃ (i : Nat) (x : Int × Int), es[i]? = some x ∧ ((j = i * 2 ∧ u = .int .i64 x.1) ∨ (j = i * 2 + 1 ∧ u = .int .i64 x.2))
  | [], j, u, h => by simp [flat] at h
  | x :: r, 0, u, h => by simp [flat] at h; exact ⟨0, x, rfl, .inl ⟨rfl, h.symm⟩⟩
  | x :: r, 1, u, h => by simp [flat] at h; exact ⟨0, x, rfl, .inr ⟨rfl, h.symm⟩⟩
  | x :: r, j + 2, u, h => by
    obtain ⟨i, y, hy, hc⟩ := flat_get r j u (by simpa [flat] using h)
    refine ⟨i + 1, y, by simpa using hy, ?_⟩
    rcases hc with ⟨rfl, rfl⟩ | ⟨rfl, rfl⟩
    · exact .inl ⟨by omega, rfl⟩
    · exact .inr ⟨by omega, rfl⟩
theorem flat_at : ∀ (es : Edges) (i : Nat) (x : Int × Int), es[i]? = some x → (flat es)[i * 2]? = some (.int .i64 x.1) ∧ (flat es)[i * 2 + 1]? = some (.int .i64 x.2)
  | [], i, x, h => by simp at h
  | y :: r, 0, x, h => by simp at h; subst h; exact ⟨rfl, rfl⟩
  | y :: r, i + 1, x, h => by
    have := flat_at r i x (by simpa using h)
    rw [show (i + 1) * 2 = i * 2 + 2 by omega]
    exact ⟨by simpa [flat] using this.1, by simpa [flat] using this.2⟩
theorem flat_one (es : Edges) : ∀ u ∈ flat es, u.oneCell' = true := by
  intro u hu
  obtain ⟨j, hj⟩ := List.getElem?_of_mem hu
  obtain ⟨i, x, _, ⟨_, rfl⟩ | ⟨_, rfl⟩⟩ := flat_get es j u hj <;> rfl
theorem lie_news {w : World} {b off : Nat} {es : Edges} (h : Lie w b off es) : ∀ j u, (flat es)[j]? = some u → w.cell? ((⟨b, off, none⟩ : Addr).add j) = some u := by
  intro j u hu
  rw [Addr.add_lit]
  obtain ⟨i, x, hx, ⟨rfl, rfl⟩ | ⟨rfl, rfl⟩⟩ := flat_get es j u hu
  · exact (h i x hx).1
  · exact (h i x hx).2
theorem seesE_of_owns {w : World} {base : Nat} {v : Value} {es : Edges} (h : w.ownsRow base 34 2 v es.length (flat es)) : SeesE w v es := by
  rcases Joins.ownsRow_forms h with ⟨rfl, h0⟩ | ⟨g, cap, rfl⟩
  · exact ⟨none, 0, by rw [h0], .inl (List.eq_nil_of_length_eq_zero h0)⟩
  · refine ⟨_, cap, rfl, .inr ⟨g, 0, rfl, fun j x hx => ?_⟩⟩
    obtain ⟨f1, f2⟩ := flat_at es j x hx
    have c1 := World.ownsRow.cells h rfl _ _ f1
    have c2 := World.ownsRow.cells h rfl _ _ f2
    rw [add_at] at c1 c2
    rw [Nat.zero_add]
    exact ⟨c1, c2⟩
theorem Try.info34 : (Try.prog.info? 34).map (fun i => (i.zero, i.size, i.bytes)) = some (some (.agg #[.int .i64 0, .int .i64 0]), 2, 16) := by kernel_rfl
theorem nil22 (w : World) (a : Option Addr) (n c n' c' : Nat) : (binOp .eql 22 (.slice a n c) (.slice none n' c')).run Try.prog w = .ok (.bool a.isNone) w := Lib.run_eql_slice_nil w _ _ a n c n' c' Try.underlying22
theorem nil28 (w : World) (a : Option Addr) (n c n' c' : Nat) : (binOp .eql 28 (.slice a n c) (.slice none n' c')).run Try.prog w = .ok (.bool a.isNone) w := Lib.run_eql_slice_nil w _ _ a n c n' c' Try.underlying28
theorem cloneE_nil (len cap : Nat) (w : World) :
    Calls Try.prog 34 #[.slice none len cap] w fun e w' => e = .returned (.slice none 0 0) ∧ w = w' := by
  have q22 := nil22
  go_enter Try.func34, Try.ntmps34
  go_wp2
  go_ret
  exact ⟨rfl, rfl⟩
set_option maxRecDepth 100000 in
set_option maxHeartbeats 1000000 in
theorem cloneE_walk (x : Addr) (cap : Nat) (es : Edges) (w : World) (hl : es.length ≤ 30) (hn : ∀ j u, (flat es)[j]? = some u → w.cell? (x.add j) = some u) :
    Calls Try.prog 34 #[.slice (some x) es.length cap] w fun e w' => ∃ u, e = .returned u ∧ SeesE w' u es ∧ Below w.heap.size w w' := by
  obtain ⟨i0, hi, hz0, hz1, hz2⟩ := info_parts Try.info34
  have HN : Hid _ := hn
  clear hn
  have q22 := nil22
  have u22 : ∀ w, Sem.run Try.prog (underlying 22) w = .ok (TypeDesc.slice 34) w := run_underlying Try.underlying22
  obtain ⟨m, hm⟩ : ∃ m, es.length = m := ⟨_, rfl⟩
  rw [hm] at hl ⊢
  have HM : Hid _ := hm
  clear hm
  go_enter Try.func34, Try.ntmps34
  go_wp2_with (at_builtin; refine wpList_append_own _ rfl _ _ 22 rfl w.heap.size 34 i0 (.agg #[.int .i64 0, .int .i64 0]) 2 16 Try.underlying22 hi hz0 hz1 hz2 rfl (by decide) _ _ _ rfl (World.ownsRow_made w #[] 0 (Nat.le_refl _) (Nat.zero_le _) rfl) x m cap (flat es) rfl ?qc1 ?qc2 ?qc3 ?qc4 ?qc5 ?qc6 ?_)
  case qc1 => rw [flat_length, HM.out]
  case qc2 => exact fun j u hj => cell_al _ (HN.out j u hj)
  case qc3 => exact flat_one es
  case qc4 => unfold maxLen; omega
  case qc5 => omega
  case qc6 => simp
  intro v' w1 hown hgrow _
  go_wp2
  go_ret
  refine ⟨v', rfl, seesE_of_owns (base := w.heap.size) ?_, ?_⟩
  · rw [HM.out]; simpa using hown
  · exact ((Below.refl _ w).alloc (Nat.le_refl _) _).grown hgrow (by simp) (by intro k hk; simp [Value.ownBlock] at hk; omega)
theorem cloneE_any (v : Value) (es : Edges) (w : World) (hl : es.length ≤ 30) (hv : SeesE w v es) :
    Calls Try.prog 34 #[v] w fun e w' => ∃ u, e = .returned u ∧ SeesE w' u es ∧ Below w.heap.size w w' := by
  obtain ⟨a, cap, rfl, hs⟩ := hv
  cases a with
  | none =>
    refine (cloneE_nil _ _ w).mono ?_
    rintro e w' ⟨rfl, rfl⟩
    rcases hs with rfl | ⟨_, _, h, _⟩
    · exact ⟨_, rfl, ⟨none, 0, rfl, .inl rfl⟩, Below.refl _ _⟩
    · cases h
  | some x =>
    refine cloneE_walk x cap es w hl ?_
    rcases hs with rfl | ⟨b, off, h, hc⟩
    · intro j u hj; simp [flat] at hj
    · cases h; exact lie_news hc
end Go.Proofs.Ytbjoljokdjgbnab
/-
  A map from edges to the places of edges: an entry looked up, appended to, and stored.
-/
namespace Go.Proofs.Ytbjoljokdjgbnab
open Go.RowKit Go.MapKept
open Go.ChangeMaps (setBlock heap_setBlock_same heap_setBlock_other)
theorem laidOutB34 : laidOutB Try.prog = true := by kernel_rfl
theorem law34 : WideMaps.KeyLaw Try.prog 34 := deep_law_laid laidOutB34 (m := 2) (by decide) (of_decide_eq_true (by kernel_rfl)) (by kernel_rfl) (by kernel_rfl)
abbrev Wf (a : Int) : Prop := (Lit.int .i64 a).wf = true
def edge (p q : Int) : Value := .agg #[.int .i64 p, .int .i64 q]
theorem edge_inj {p q p' q' : Int} (h : edge p q = edge p' q') : p = p' ∧ q = q' := by simpa [edge] using h
theorem keyOf_edge {p q : Int} (hp : Wf p) (hq : Wf q) : ∃ kl, keyOf Try.prog 34 (edge p q) = some kl := by
  have hu := Try.underlying34
  have hk : Try.prog.keyType 34 = true := by kernel_rfl
  obtain ⟨m, hm⟩ : ∃ m, Try.prog.types.size + 1 = m + 2 := ⟨Try.prog.types.size - 1, by have : 1 ≤ Try.prog.types.size := (by kernel_rfl : decide (1 ≤ Try.prog.types.size) = true) |> of_decide_eq_true; omega⟩
  have hc3 : Try.prog.cellsOf 3 = 1 := by kernel_rfl
  have hc55 : Try.prog.cellsOf 34 = 2 := by kernel_rfl
  unfold keyOf edge
  simp only [hu]
  rw [if_pos (by simp [hk, Value.formed, hu, hc55]), hm]
  unfold Program.keyLits
  simp only [hu, Value.cells]
  rw [if_pos (by simp [hc55])]
  simp [hc3, Program.keyLits, Try.underlying3, hp, hq]
/-- The map at b: at each edge the places f. -/
def MapAt (w : World) (b base : Nat) (f : Int → Int → List Int) : Prop :=
  ∃ es clock, w.heap[b]? = some (.map es clock) ∧ Stamped es clock ∧
    (∀ x ∈ es.toList, ∃ p q, Wf p ∧ Wf q ∧ x.key = edge p q ∧ w.ownsInts base 3 .i64 x.val (f p q)) ∧
    (∀ p q, (∀ x ∈ es.toList, x.key ≠ edge p q) → f p q = []) ∧
    (∀ x ∈ es.toList, ∀ y ∈ es.toList, x.key ≠ y.key → x.val.ownBlock = none ∨ x.val.ownBlock ≠ y.val.ownBlock) ∧ b < base
def upd (f : Int → Int → List Int) (p q : Int) (zs : List Int) : Int → Int → List Int := fun p' q' => if p' = p ∧ q' = q then zs else f p' q'
theorem mapAt_made (w : World) (base : Nat) (h : w.heap.size < base) : MapAt (w.alloc (.map #[] 0)) w.heap.size base (fun _ _ => []) :=
  ⟨#[], 0, (MapKept.heap_alloc w _).1, stamped_empty 0, by simp, by simp, by simp, h⟩
theorem nodup_at {l : List MapEntry} (h : (l.map (·.key)).Nodup) {i j : Nat} {x y : MapEntry} (hi : l[i]? = some x) (hj : l[j]? = some y) (e : x.key = y.key) : i = j := by
  have hi' : (l.map (·.key))[i]? = some x.key := by simp [hi]
  have hj' : (l.map (·.key))[j]? = some y.key := by simp [hj]
  have li : i < (l.map (·.key)).length := (List.getElem?_eq_some_iff.1 hi').1
  have lj : j < (l.map (·.key)).length := (List.getElem?_eq_some_iff.1 hj').1
  have hne := List.pairwise_iff_getElem.1 h
  have a1 := (List.getElem?_eq_some_iff.1 hi').2
  have a2 := (List.getElem?_eq_some_iff.1 hj').2
  rcases Nat.lt_trichotomy i j with h1 | h1 | h1
  · exact absurd (a1.trans (e.trans a2.symm)) (hne i j li lj h1)
  · exact h1
  · exact absurd (a2.trans (e.symm.trans a1.symm)) (hne j i lj li h1)
theorem mem_modify {l : List MapEntry} {j : Nat} {e0 : MapEntry} {v' : Value} (hj : l[j]? = some e0) {x : MapEntry} (hx : x ∈ l.modify j (fun e => { e with val := v' })) :
    (x = { e0 with val := v' }) ∨ (∃ i, i ≠ j ∧ l[i]? = some x) := by
  obtain ⟨i, hi⟩ := List.getElem?_of_mem hx
  rw [List.getElem?_modify] at hi
  by_cases e : j = i
  · subst e; rw [hj] at hi; simp at hi; exact .inl hi.symm
  · simp [e] at hi; exact .inr ⟨i, fun h => e h.symm, hi⟩
theorem set_set {w : World} {b : Nat} (o o' : Obj) : setBlock (setBlock w b o) b o' = setBlock w b o' := by simp [setBlock]
theorem ownsInts_of {w w' : World} {base : Nat} {v : Value} {zs : List Int} (h : w.ownsInts base 3 .i64 v zs) (hk : ∀ g, v.ownBlock = some g → w'.heap[g]? = w.heap[g]?) : w'.ownsInts base 3 .i64 v zs := by
  refine ⟨⟨h.1.1, ?_⟩, h.2⟩
  rcases h.1.2 with h0 | ⟨g, cap, cur, rfl, hb, hg, h1, h2, h3, h4⟩
  · exact .inl h0
  · exact .inr ⟨g, cap, cur, rfl, hb, (hk g rfl).trans hg, h1, h2, h3, h4⟩
theorem mapAt_of {w w3 : World} {b base clock' : Nat} {f : Int → Int → List Int} {es es' : Array MapEntry} {p q : Int} {v v' : Value} {zs' : List Int} {m1 : Obj}
    (hp : Wf p) (hq : Wf q) (hst : Stamped es' clock') (hent : ∀ x ∈ es.toList, ∃ p q, Wf p ∧ Wf q ∧ x.key = edge p q ∧ w.ownsInts base 3 .i64 x.val (f p q))
    (hno : ∀ p q, (∀ x ∈ es.toList, x.key ≠ edge p q) → f p q = [])
    (hap : ∀ x ∈ es.toList, ∀ y ∈ es.toList, x.key ≠ y.key → x.val.ownBlock = none ∨ x.val.ownBlock ≠ y.val.ownBlock) (hbb : b < base)
    (hw3 : w3.heap[b]? = some m1) (hk3 : ∀ k, k < w.heap.size → k ≠ b → some k ≠ v.ownBlock → w3.heap[k]? = w.heap[k]?) (ho' : w3.ownsInts base 3 .i64 v' zs') (hloc : v'.ownBlock = v.ownBlock ∨ ∃ g, v'.ownBlock = some g ∧ w.heap.size ≤ g)
    (hv : ∀ x ∈ es.toList, x.key ≠ edge p q → x.val.ownBlock = none ∨ x.val.ownBlock ≠ v.ownBlock)
    (h1 : ∀ x ∈ es'.toList, (x.key = edge p q ∧ x.val = v') ∨ (x ∈ es.toList ∧ x.key ≠ edge p q)) (h2 : ∃ x ∈ es'.toList, x.key = edge p q) (h3 : ∀ x ∈ es.toList, x.key ≠ edge p q → x ∈ es'.toList) :
    MapAt (setBlock w3 b (.map es' clock')) b base (upd f p q zs') := by
  have hbl : b < w3.heap.size := (Array.getElem?_eq_some_iff.1 hw3).1
  have hsb : ∀ (o : Obj), (setBlock w3 b o).heap[b]? = some o := fun o => by simp [setBlock, hbl]
  have hso : ∀ (o : Obj) (k : Nat), k ≠ b → (setBlock w3 b o).heap[k]? = w3.heap[k]? := fun o k hk => by simp [setBlock, Ne.symm hk]
  refine ⟨es', clock', hsb _, hst, fun x hx => ?_, fun p' q' hn => ?_, fun x hx y hy hne => ?_, hbb⟩
  · rcases h1 x hx with ⟨hk, hxv⟩ | ⟨hm, hk⟩
    · refine ⟨p, q, hp, hq, hk, ?_⟩
      rw [show upd f p q zs' p q = zs' by simp [upd], hxv]
      exact ownsInts_of ho' fun g hg => hso _ g (by have := (ho'.1.lt g hg).1; omega)
    · obtain ⟨p', q', wp, wq, ek, ho⟩ := hent x hm
      refine ⟨p', q', wp, wq, ek, ?_⟩
      have hu : upd f p q zs' p' q' = f p' q' := by
        unfold upd
        rw [if_neg]
        rintro ⟨rfl, rfl⟩
        exact hk ek
      rw [hu]
      refine ownsInts_of ho fun g hg => ?_
      have hl := ho.1.lt g hg
      have hgb : g ≠ b := by have := hl.1; omega
      rw [hso _ g hgb]
      refine hk3 g hl.2 hgb fun e => ?_
      rcases hv x hm hk with h0 | h0
      · rw [h0] at hg; cases hg
      · exact h0 (hg.trans e)
  · obtain ⟨x0, hx0, hk0⟩ := h2
    have hpq : ¬ (p' = p ∧ q' = q) := by
      rintro ⟨rfl, rfl⟩
      exact hn x0 hx0 hk0
    unfold upd
    rw [if_neg hpq]
    refine hno p' q' fun x hx e => ?_
    by_cases hk : x.key = edge p q
    · obtain ⟨e1, e2⟩ := edge_inj (hk.symm.trans e)
      exact hpq ⟨e1.symm, e2.symm⟩
    · exact hn x (h3 x hx hk) e
  · rcases h1 x hx with ⟨hk, hxv⟩ | ⟨hm, hk⟩
    · rcases h1 y hy with ⟨hk', hyv⟩ | ⟨hm', hk'⟩
      · exact absurd (hk.trans hk'.symm) hne
      · rw [hxv]
        rcases hloc with hl | ⟨g, hg, hge⟩
        · rcases hv y hm' hk' with h0 | h0
          · rcases hlv : v'.ownBlock with _ | g
            · exact .inl rfl
            · right; rw [h0]; intro e; cases e
          · right; rw [hl]; exact fun e => h0 e.symm
        · right
          rw [hg]
          intro e
          obtain ⟨p', q', _, _, _, ho⟩ := hent y hm'
          have := (ho.1.lt g e.symm).2
          omega
    · rcases h1 y hy with ⟨hk', hyv⟩ | ⟨hm', hk'⟩
      · rw [hyv]
        rcases hv x hm hk with h0 | h0
        · exact .inl h0
        · right
          rcases hloc with hl | ⟨g, hg, hge⟩
          · rw [hl]; exact h0
          · rw [hg]
            intro e
            obtain ⟨p', q', _, _, _, ho⟩ := hent x hm
            have := (ho.1.lt g e).2
            omega
      · exact hap x hm y hm' hne
/-- AN ENTRY, LOOKED UP AND STORED. -/
theorem mapAt_step {w : World} {b base : Nat} {f : Int → Int → List Int} (h : MapAt w b base f) {p q : Int} (hp : Wf p) (hq : Wf q) :
    ∃ (v : Value) (st : Nat) (m1 : Obj), m1.isCells = false ∧ (∀ u : World, u.heap[b]? = w.heap[b]? → (Instr.mapEntry 77 (.map (some b)) (edge p q)).run Try.prog u = .ok (.tuple #[v, goInt st]) (setBlock u b m1)) ∧ w.ownsInts base 3 .i64 v (f p q) ∧
      ∀ (w3 : World) (v' : Value) (zs' : List Int), w3.heap[b]? = some m1 → (∀ k, k < w.heap.size → k ≠ b → some k ≠ v.ownBlock → w3.heap[k]? = w.heap[k]?) → w3.ownsInts base 3 .i64 v' zs' → (v'.ownBlock = v.ownBlock ∨ ∃ g, v'.ownBlock = some g ∧ w.heap.size ≤ g) →
        ∃ m2 : Obj, m2.isCells = false ∧ (Instr.entryStore 77 (.map (some b)) (goInt st) v').run Try.prog w3 = .ok () (setBlock w3 b m2) ∧ MapAt (setBlock w3 b m2) b base (upd f p q zs') := by
  obtain ⟨es, clock, hb, hst, hent, hno, hap, hbb⟩ := h
  obtain ⟨kl, hkey⟩ := keyOf_edge hp hq
  have hkeys : ∀ e ∈ es.toList, ∃ l, keyOf Try.prog 34 e.key = some l := fun e he => by
    obtain ⟨p', q', wp, wq, ek, _⟩ := hent e he
    rw [ek]; exact keyOf_edge wp wq
  have ht := Try.underlying77
  have hbl : b < w.heap.size := (Array.getElem?_eq_some_iff.1 hb).1
  have hown : ∀ {x : MapEntry}, x ∈ es.toList → ∀ {g}, x.val.ownBlock = some g → g < w.heap.size ∧ base ≤ g := fun {x} hx {g} hg => by
    obtain ⟨p', q', _, _, _, ho⟩ := hent x hx
    exact ⟨(ho.1.lt g hg).2, (ho.1.lt g hg).1⟩
  by_cases hex : ∃ (j : Nat) (e0 : MapEntry), es.toList[j]? = some e0 ∧ e0.key = edge p q
  · obtain ⟨j, e0, hj, he0⟩ := hex
    have hm0 : e0 ∈ es.toList := List.mem_of_getElem? hj
    obtain ⟨p0, q0, wp0, wq0, ek0, ho0⟩ := hent e0 hm0
    obtain ⟨rfl, rfl⟩ := edge_inj (ek0.symm.trans he0)
    have hsame : es.modify j (fun e => { e with key := edge p0 q0 }) = es := by
      apply Array.ext'
      rw [Array.toList_modify, ChangeMaps.modify_eq_set _ _ _ _ hj]
      have : ({ e0 with key := edge p0 q0 } : MapEntry) = e0 := by rw [← he0]
      rw [this]; exact WideElems.set_self _ _ _ hj
    refine ⟨e0.val, e0.born, .map es clock, rfl, fun u hu => ?_, ho0, fun w3 v' zs' hw3 hk3 ho' hloc => ⟨.map (es.modify j (fun e => { e with val := v' })) clock, rfl, ?_, ?_⟩⟩
    · rw [hb] at hu
      rcases law34.find u hkey es.toList hkeys with ⟨_, h2⟩ | ⟨j', e', h1, h2, h3⟩
      · exact absurd he0 (h2 e0 hm0)
      · obtain rfl := nodup_at hst.2.2 h2 hj (h3.trans he0.symm)
        rw [hj] at h2; cases h2
        have hj' : es[j']? = some e0 := by simpa using hj
        simp [Instr.mapEntry, run_underlying ht, MapKept.run_getObj_map hu, law34.check u false hkey, h1, hj', he0, law34.stays u hkey, hsame, MapKept.run_setObj_map _ hu, Result.andThen, setBlock]
    · have hidx : es.findIdx? (fun e => ((e.born : Nat) : Int) == ((e0.born : Nat) : Int)) = some j := by
        rw [WideElems.findIdx_arr]; exact WideElems.findIdx_born hst.2.1 hj
      simp [Instr.entryStore, MapKept.run_getObj_map hw3, asInt, asIntOf, goInt, hidx, MapKept.run_setObj_map _ hw3, Result.andThen, setBlock]
    · have htl : (es.modify j (fun e => { e with val := v' })).toList = es.toList.modify j (fun e => { e with val := v' }) := Array.toList_modify
      have hset : es.toList.modify j (fun e => { e with val := v' }) = es.toList.set j { e0 with val := v' } := ChangeMaps.modify_eq_set _ _ _ _ hj
      have hjl : j < es.toList.length := (List.getElem?_eq_some_iff.1 hj).1
      have hb1 : (es.toList.set j { e0 with val := v' }).map (·.born) = es.toList.map (·.born) := by
        rw [List.map_set]; exact WideElems.set_self _ _ _ (by simp [hj])
      have hb2 : (es.toList.set j { e0 with val := v' }).map (·.key) = es.toList.map (·.key) := by
        rw [List.map_set]; exact WideElems.set_self _ _ _ (by simp [hj])
      refine mapAt_of (w := w) (es := es) (v := e0.val) wp0 wq0 ⟨fun x hx => ?_, ?_, ?_⟩ hent hno hap hbb hw3 hk3 ho' hloc (fun x hx hne => hap x hx e0 hm0 (by rw [he0]; exact hne)) (fun x hx => ?_) ?_ (fun x hx hne => ?_)
      · rw [htl] at hx
        rcases mem_modify hj hx with rfl | ⟨i, _, hi⟩
        · exact hst.1 e0 hm0
        · exact hst.1 x (List.mem_of_getElem? hi)
      · rw [htl, hset, hb1]; exact hst.2.1
      · rw [htl, hset, hb2]; exact hst.2.2
      · rw [htl] at hx
        rcases mem_modify hj hx with rfl | ⟨i, hij, hi⟩
        · exact .inl ⟨he0, rfl⟩
        · exact .inr ⟨List.mem_of_getElem? hi, fun e => hij (nodup_at hst.2.2 hi hj (e.trans he0.symm))⟩
      · refine ⟨{ e0 with val := v' }, ?_, he0⟩
        rw [htl, hset]
        exact List.mem_of_getElem? (i := j) (List.getElem?_set_self hjl)
      · rw [htl, hset]
        obtain ⟨i, hi⟩ := List.getElem?_of_mem hx
        refine List.mem_of_getElem? (i := i) ?_
        rw [List.getElem?_set_ne, hi]
        rintro rfl
        rw [hj] at hi; cases hi
        exact hne he0
  · have hall : ∀ x ∈ es.toList, x.key ≠ edge p q := fun x hx e => by
      obtain ⟨j, hj⟩ := List.getElem?_of_mem hx
      exact hex ⟨j, x, hj, e⟩
    refine ⟨.slice none 0 0, clock, .map (es.push ⟨edge p q, .slice none 0 0, clock⟩) (clock + 1), rfl, fun u hu => ?_, by rw [hno p q hall]; exact World.ownsInts_nil _ _ _ _, fun w3 v' zs' hw3 hk3 ho' hloc => ⟨.map (es.push ⟨edge p q, v', clock⟩) (clock + 1), rfl, ?_, ?_⟩⟩
    · rw [hb] at hu
      rcases law34.find u hkey es.toList hkeys with ⟨h1, _⟩ | ⟨j', e', h1, h2, h3⟩
      · simp [Instr.mapEntry, run_underlying ht, MapKept.run_getObj_map hu, law34.check u false hkey, h1, MapKept.run_setObj_map _ hu, Result.andThen, setBlock]
      · exact absurd h3 (hall e' (List.mem_of_getElem? h2))
    · have hidx : (es.push ⟨edge p q, .slice none 0 0, clock⟩).findIdx? (fun e => ((e.born : Nat) : Int) == ((clock : Nat) : Int)) = some es.size := by
        rw [WideElems.findIdx_arr]
        exact WideElems.findIdx_born (l := (es.push ⟨edge p q, .slice none 0 0, clock⟩).toList) (j := es.size) (e0 := ⟨edge p q, .slice none 0 0, clock⟩) (by
          simp only [Array.toList_push, List.map_append, List.map_cons, List.map_nil]
          refine List.nodup_append.2 ⟨hst.2.1, by simp, fun a ha c hc e1 => ?_⟩
          simp only [List.mem_singleton] at hc
          obtain ⟨x, hx, rfl⟩ := List.mem_map.1 ha
          have := hst.1 x hx
          omega) (by simp)
      have hmod : (es.push ⟨edge p q, .slice none 0 0, clock⟩).modify es.size (fun e => { e with val := v' }) = es.push ⟨edge p q, v', clock⟩ := by
        apply Array.ext'
        rw [Array.toList_modify, Array.toList_push, Array.toList_push, ← Array.length_toList, WideElems.modify_last]
      simp [Instr.entryStore, MapKept.run_getObj_map hw3, asInt, asIntOf, goInt, hidx, hmod, MapKept.run_setObj_map _ hw3, Result.andThen, setBlock]
    · refine mapAt_of (w := w) (es := es) (v := .slice none 0 0) hp hq ⟨fun x hx => ?_, ?_, ?_⟩ hent hno hap hbb hw3 hk3 ho' hloc (fun x hx hne => ?_) (fun x hx => ?_) ⟨⟨edge p q, v', clock⟩, by simp, rfl⟩ (fun x hx hne => by simp [hx])
      · simp only [Array.toList_push, List.mem_append, List.mem_singleton] at hx
        rcases hx with hx | rfl
        · have := hst.1 x hx; omega
        · exact Nat.lt_succ_self _
      · simp only [Array.toList_push, List.map_append, List.map_cons, List.map_nil]
        refine List.nodup_append.2 ⟨hst.2.1, by simp, fun a ha c hc e1 => ?_⟩
        simp only [List.mem_singleton] at hc
        obtain ⟨x, hx, rfl⟩ := List.mem_map.1 ha
        have := hst.1 x hx
        omega
      · simp only [Array.toList_push, List.map_append, List.map_cons, List.map_nil]
        refine List.nodup_append.2 ⟨hst.2.2, by simp, fun a ha c hc e1 => ?_⟩
        simp only [List.mem_singleton] at hc
        obtain ⟨x, hx, rfl⟩ := List.mem_map.1 ha
        exact hall x hx (e1.trans hc)
      · cases hxo : x.val.ownBlock with
        | none => exact .inl rfl
        | some g => right; simp [Value.ownBlock]
      · simp only [Array.toList_push, List.mem_append, List.mem_singleton] at hx
        rcases hx with hx | rfl
        · exact .inr ⟨hx, hall x hx⟩
        · exact .inl ⟨rfl, rfl⟩
end Go.Proofs.Ytbjoljokdjgbnab
/-
  A graph: what New comes to.
-/
namespace Go.Proofs.Ytbjoljokdjgbnab
open Go.RowKit Go.MapKept Go.Shelf
open Go.ChangeMaps (setBlock heap_setBlock_same heap_setBlock_other)
attribute [local go_sem] Oper.semAt_some
/-- The places, of those of pre, of the edges from p to q. -/
def betw (pre : List (Nat × (Int × Int))) (p q : Int) : List Int := (pre.filter fun x => decide (x.2.1 = p ∧ x.2.2 = q)).map fun x => (x.1 : Int)
theorem betw_snoc (pre : List (Nat × (Int × Int))) (x : Nat × (Int × Int)) : betw (pre ++ [x]) = upd (betw pre) x.2.1 x.2.2 (betw pre x.2.1 x.2.2 ++ [(x.1 : Int)]) := by
  funext p q
  unfold upd
  by_cases h : p = x.2.1 ∧ q = x.2.2
  · rw [if_pos h, h.1, h.2]; simp [betw, List.filter_append]
  · rw [if_neg h]
    have : ¬ (x.2.1 = p ∧ x.2.2 = q) := fun e => h ⟨e.1.symm, e.2.symm⟩
    simp [betw, List.filter_append, this]
theorem MapAt.below {w w' : World} {b base B : Nat} {f : Int → Int → List Int} (h : MapAt w b base f) (hb : Below B w w') (hB : w.heap.size ≤ B) : MapAt w' b base f := by
  obtain ⟨es, clock, h1, h2, h3, h4⟩ := h
  have hbl : b < w.heap.size := (Array.getElem?_eq_some_iff.1 h1).1
  refine ⟨es, clock, (hb.block b (by omega)).trans h1, h2, fun x hx => ?_, h4⟩
  obtain ⟨p, q, wp, wq, ek, ho⟩ := h3 x hx
  exact ⟨p, q, wp, wq, ek, ownsInts_of ho fun g hg => hb.block g (by have := (ho.1.lt g hg).2; omega)⟩
theorem MapAt.grown {w w' : World} {b base : Nat} {f : Int → Int → List Int} {row : Option Nat} (h : MapAt w b base f) (hg : w.grownBy w' row) (hr : ∀ r, row = some r → b < r ∧ ∃ o : Obj, w.heap[r]? = some o ∧ o.isCells = false) : MapAt w' b base f := by
  obtain ⟨es, clock, h1, h2, h3, h4⟩ := h
  have hbl : b < w.heap.size := (Array.getElem?_eq_some_iff.1 h1).1
  refine ⟨es, clock, (hg.block b hbl fun e => ?_).trans h1, h2, fun x hx => ?_, h4⟩
  · have := (hr b e.symm).1; omega
  · obtain ⟨p, q, wp, wq, ek, ho⟩ := h3 x hx
    refine ⟨p, q, wp, wq, ek, ho.kept hg ?_⟩
    rcases ho.1.2 with ⟨hv, _⟩ | ⟨g, cap, cur, hv, _, hgb, _⟩
    · rw [hv]; exact .inl rfl
    · rw [hv]
      refine .inr fun e => ?_
      obtain ⟨_, o, ho', hc⟩ := hr g (by simpa [Value.ownBlock] using e.symm)
      rw [hgb] at ho'; cases ho'; cases hc
/-- A graph of n nodes with the edges es. -/
def IsG (w : World) (gp : Option Addr) (n : Int) (es : Edges) : Prop :=
  (gp = none ∧ n = 0 ∧ es = []) ∨ ∃ gb v mb base, gp = some ⟨gb, 0, none⟩ ∧ 1 ≤ n ∧ n ≤ 12 ∧ es.length ≤ 30 ∧ (∀ x ∈ es, good n x = true) ∧ w.cell? ⟨gb, 0, none⟩ = some (.int .i64 n) ∧ w.cell? ⟨gb, 1, none⟩ = some v ∧ SeesE w v es ∧
    w.cell? ⟨gb, 2, none⟩ = some (.map (some mb)) ∧ MapAt w mb base (betw ((upto es es.length (Nat.le_refl _)).map (·.1)))
theorem IsG.walks {w : World} {gp : Option Addr} {n : Int} {es : Edges} (h : IsG w gp n es) : Walks w gp es := by
  rcases h with ⟨h1, _, h2⟩ | ⟨gb, v, _, _, h1, _, _, _, _, _, h2, h3, _⟩
  · exact .inl ⟨h1, h2⟩
  · exact .inr ⟨gb, v, h1, h2, h3⟩
theorem IsG.short {w : World} {gp : Option Addr} {n : Int} {es : Edges} (h : IsG w gp n es) : es.length ≤ 30 := by
  rcases h with ⟨_, _, rfl⟩ | ⟨gb, v, _, _, h1, _, _, h3, _⟩
  · simp
  · exact h3
theorem IsG.below {w w' : World} {gp : Option Addr} {n : Int} {es : Edges} {B : Nat} (h : IsG w gp n es) (hb : Below B w w') (hB : w.heap.size ≤ B) : IsG w' gp n es := by
  rcases h with h | ⟨gb, v, mb, base, h1, h2, h3, h4, h5, c0, c1, hs, c2, hm⟩
  · exact .inl h
  · have hl : gb < B := Nat.lt_of_lt_of_le (World.block_lt_of_cell? w _ c0) hB
    exact .inr ⟨gb, v, mb, base, h1, h2, h3, h4, h5, (hb.cell (p := ⟨gb, 0, none⟩) hl).trans c0, (hb.cell (p := ⟨gb, 1, none⟩) hl).trans c1, hs.below hb hB, (hb.cell (p := ⟨gb, 2, none⟩) hl).trans c2, hm.below hb hB⟩
/-- walk's function, where the edges lie ahead of n₀ and the graph anywhere. -/
theorem walk_seq2 (Bg n₀ gb : Nat) (T : Nat → Obj → Prop) (hT : ∀ k o, k < n₀ → T k o) (v : Value) (es : Edges) (hr : es.length ≤ 1000000) (w0 w : World) (hv : SeesE w0 v es) (hn : w0.heap.size ≤ n₀) (hb : Below n₀ w0 w) (hn₀ : n₀ ≤ w.heap.size) (hg : w.cell? ⟨gb, 1, none⟩ = some v) (hB : w.cell? ⟨Bg, 0, none⟩ = some (.pointer (some ⟨gb, 0, none⟩))) :
    Seq 67 #[.pointer (some ⟨Bg, 0, none⟩)] (encA (es := es)) T (fun ys => ys = upto es es.length (Nat.le_refl _)) es.length w := by
  intro l J Jx W hW hJ _ hY h0
  have hB' := (hW.cell (p := ⟨Bg, 0, none⟩) (World.block_lt_of_cell? w _ hB)).trans hB
  have hg' := (hW.cell (p := ⟨gb, 1, none⟩) (World.block_lt_of_cell? w _ hg)).trans hg
  have hv' := hv.below (hb.trans (hW.mono hn₀)) hn
  obtain ⟨a, cap, rfl, hs⟩ := hv
  by_cases h1 : es = []
  · subst h1
    exact walk1_none l Bg gb cap a J Jx W hB' hg' h0
  · rcases hs with hs | ⟨b, off, rfl, hl⟩
    · exact absurd hs h1
    · have hlt := hl.block_lt h1
      exact walk1_in l Bg gb b off cap T es hr (fun o => hT b o (by omega)) J Jx W W hJ hY hB' hg' (hl.below (hb.trans (hW.mono hn₀)) (by omega)) h0
theorem wf_small {a : Int} (h : 0 ≤ a ∧ a < 12) : Wf a := by
  have e1 : IntKind.i64.min = -9223372036854775808 := rfl
  have e2 : IntKind.i64.max = 9223372036854775807 := rfl
  simp only [Wf, Lit.wf, e1, e2, Bool.and_eq_true, decide_eq_true_eq]
  omega
theorem below_setBlock (u : World) (b : Nat) (o : Obj) : Below b u (setBlock u b o) := ⟨rfl, rfl, rfl, by simp [setBlock], fun k hk => by simp [setBlock, show b ≠ k by omega]⟩
theorem wf_nat {k : Nat} (h : k ≤ 1000000) : Wf (k : Int) := by
  have e1 : IntKind.i64.min = -9223372036854775808 := rfl
  have e2 : IntKind.i64.max = 9223372036854775807 := rfl
  simp only [Wf, Lit.wf, e1, e2, Bool.and_eq_true, decide_eq_true_eq]
  omega
theorem new_nil (n : Int) (v : Value) (es : Edges) (w : World) (hv : SeesE w v es) (hc : (check n es).2 = 11) :
    Calls Try.prog 10 #[.int .i64 n, v] w fun e w' => e = .returned (.pointer none) ∧ Below w.heap.size w w' := by
  have C : Hid _ := check_any n v es w hv
  obtain ⟨a, cap, rfl, _⟩ := hv
  refine (callsIn_wide (n := 0)).1 ?_
  refine callsIn_of_wp_marks Try.func10 rfl trivial ?_ rfl
  simp only [Try.ntmps10, List.size_toArray, List.length_cons, List.length_nil, Nat.reduceAdd, Nat.reduceSub, Array.replicate_succ, Array.replicate_zero, List.push_toArray, List.append_toArray, List.nil_append, List.cons_append]
  gi_wp2_with (refine ⟨trivial, rfl, ?_⟩; gi_at_call 33; refine (callsIn_wide.2 C.out).mono ?_; rintro e w' ⟨rfl, hb⟩; rw [hc])
  exact ⟨_, results_tmp rfl _ _ _, rfl, hb⟩
set_option maxRecDepth 100000 in
set_option maxHeartbeats 4000000 in
theorem new_ok (n : Int) (v : Value) (es : Edges) (w : World) (hv : SeesE w v es) (h1 : 1 ≤ n) (h2 : n ≤ 12) (h3 : es.length ≤ 30) (hgd : ∀ x ∈ es, good n x = true) :
    Calls Try.prog 10 #[.int .i64 n, v] w fun e w' => ∃ gb, e = .returned (.pointer (some ⟨gb, 0, none⟩)) ∧ IsG w' (some ⟨gb, 0, none⟩) n es ∧ Below w.heap.size w w' := by
  have hck : check n es = (0, 0) := by
    unfold check
    rw [if_neg (by omega), findIdx_none fun j x hx => hgd x (List.mem_of_getElem? hx)]
  have C : Hid _ := check_any n v es w hv
  have D : Hid (∀ w', Below w.heap.size w w' → Calls Try.prog 34 #[v] w' fun e w'' => ∃ u, e = .returned u ∧ SeesE w'' u es ∧ Below w'.heap.size w' w'') := fun w' hb => cloneE_any v es w' h3 (hv.below hb (Nat.le_refl _))
  obtain ⟨a, cap, rfl, hs⟩ := hv
  clear hs
  refine (callsIn_wide (n := 0)).1 ?_
  refine callsIn_of_wp_marks Try.func10 rfl trivial ?_ rfl
  have hmm := @run_makeMap Try.prog
  simp only [Try.ntmps10, List.size_toArray, List.length_cons, List.length_nil, Nat.reduceAdd, Nat.reduceSub, Array.replicate_succ, Array.replicate_zero, List.push_toArray, List.append_toArray, List.nil_append, List.cons_append]
  gi_wp2_with (first | (refine ⟨trivial, rfl, ?_⟩; gi_at_call 33; refine (callsIn_wide.2 C.out).mono ?_; rintro e w1 ⟨rfl, hb1⟩; rw [hck]) | (refine ⟨trivial, rfl, ?_⟩; gi_at_call 34; refine (callsIn_wide.2 (D.out _ hb1)).mono ?_; rintro e w2 ⟨u, rfl, hu, hb2⟩; obtain ⟨ua, ucap, rfl, huu⟩ := hu) | (refine ⟨trivial, rfl, ?_⟩; gi_at_call 35; refine (callsIn_wide.2 (walk_any _ _)).mono ?_; rintro e w' ⟨rfl, rfl⟩))
  clear C D hmm
  obtain ⟨gs, hgs⟩ : ∃ gs : Obj, gs = .cells #[.int .i64 n, .slice ua es.length ucap, .map (some w2.heap.size)] 79 (0, 0) := ⟨_, rfl⟩
  obtain ⟨gx, hgx⟩ : ∃ gx : Obj, gx = .cells #[.pointer (some ⟨w2.heap.size + 1, 0, none⟩)] 24 (0, 0) := ⟨_, rfl⟩
  have bM : MapAt ((((w2.alloc (.map #[] 0)).alloc gs).alloc gx).alloc gx) w2.heap.size (w2.heap.size + 4) (fun _ _ => []) := by
    refine (((mapAt_made w2 (w2.heap.size + 4) (by omega)).below (((Below.refl _ _).alloc (Nat.le_refl _) gs).alloc (by simp) gx) (Nat.le_refl _))).below ((Below.refl _ _).alloc (Nat.le_refl _) gx) (Nat.le_refl _)
  have bS : ((((w2.alloc (.map #[] 0)).alloc gs).alloc gx).alloc gx).heap[w2.heap.size + 1]? = some gs := by
    rw [Below.heap_alloc _ _ _ (by simp), Below.heap_alloc _ _ _ (by simp)]
    have := World.alloc_heap_new (w2.alloc (.map #[] 0)) gs
    rwa [World.size_alloc] at this
  have bX : ((((w2.alloc (.map #[] 0)).alloc gs).alloc gx).alloc gx).heap[w2.heap.size + 1 + 1]? = some gx := by
    rw [Below.heap_alloc _ _ _ (by simp)]
    have := World.alloc_heap_new ((w2.alloc (.map #[] 0)).alloc gs) gx
    rwa [World.size_alloc, World.size_alloc] at this
  have bG : ((((w2.alloc (.map #[] 0)).alloc gs).alloc gx).alloc gx).heap[w2.heap.size + 1 + 1 + 1]? = some gx := by
    have := World.alloc_heap_new (((w2.alloc (.map #[] 0)).alloc gs).alloc gx) gx
    rwa [World.size_alloc, World.size_alloc, World.size_alloc] at this
  have hB0 : Below w2.heap.size w2 ((((w2.alloc (.map #[] 0)).alloc gs).alloc gx).alloc gx) := ((((Below.refl _ w2).alloc (Nat.le_refl _) _).alloc (by simp) _).alloc (by simp; omega) _).alloc (by simp; omega) _
  have hsz : ((((w2.alloc (.map #[] 0)).alloc gs).alloc gx).alloc gx).heap.size = w2.heap.size + 4 := by simp
  rw [← hgs, ← hgx]
  obtain ⟨W0, hW0⟩ : ∃ W0, (((w2.alloc (.map #[] 0)).alloc gs).alloc gx).alloc gx = W0 := ⟨_, rfl⟩
  rw [hW0] at bM bS bX bG hB0 hsz ⊢
  clear hW0
  have hS0 : SeesE w2 (.slice ua es.length ucap) es := ⟨ua, ucap, rfl, huu⟩
  have cB : W0.cell? ⟨w2.heap.size + 1 + 1 + 1, 0, none⟩ = some (.pointer (some ⟨w2.heap.size + 1, 0, none⟩)) := by simp [World.cell?, bG, hgx]
  have cG : W0.cell? ⟨w2.heap.size + 1, 1, none⟩ = some (.slice ua es.length ucap) := by simp [World.cell?, bS, hgs]
  have hm1 := hb1.size
  have hm2 := hb2.size
  refine range_law (gf := 67) (lb := #[.pointer (some ⟨w2.heap.size + 1 + 1 + 1, 0, none⟩)]) rfl (enters_of Try.func67 (by kernel_rfl) rfl) (T := fun k _ => k < w2.heap.size) (fun k _ hk ht => by omega)
    (walk_seq2 (w2.heap.size + 1 + 1 + 1) w2.heap.size (w2.heap.size + 1) _ (fun _ _ h => h) (.slice ua es.length ucap) es (by omega) w2 W0 hS0 (Nat.le_refl _) hB0 (by omega) cG cB) (fun _ => rfl)
    (fun pre W => (MapAt W w2.heap.size (w2.heap.size + 4) (betw (pre.map (·.1))) ∧ (∀ p q, (betw (pre.map (·.1)) p q).length ≤ pre.length)) ∧ (W.heap[w2.heap.size + 1]? = some gs ∧ W.heap[w2.heap.size + 1 + 1]? = some gx) ∧ (Below w2.heap.size w2 W ∧ w2.heap.size + 4 ≤ W.heap.size))
    (fun _ _ => False)
    ?hI (fun _ _ _ _ hs _ _ => hs) ?h0
    (fun s W => ∃ Bx, ((MapAt W w2.heap.size (w2.heap.size + 4) (betw (s.1.map (·.1))) ∧ (∀ p q, (betw (s.1.map (·.1)) p q).length ≤ s.1.length)) ∧ (W.heap[w2.heap.size + 1]? = some gs ∧ W.heap[w2.heap.size + 1 + 1]? = some gx) ∧ (Below w2.heap.size w2 W ∧ w2.heap.size + 4 ≤ W.heap.size)) ∧
      (W.heap[Bx]? = some (.cells #[.int .i64 s.2.1.1.2.1, .int .i64 s.2.1.1.2.2] 34 (0, 0)) ∧ w2.heap.size + 4 ≤ Bx) ∧ s.2.2 = { tmps := #[.int .i64 n, .slice a es.length cap, undef, undef, .pointer none, .int .i64 0, .int .i64 0, .pointer (some ⟨w2.heap.size + 1 + 1, 0, none⟩), .int .i64 (s.2.1.1.1 : Int), .pointer (some ⟨Bx, 0, none⟩), .tuple #[.int .i64 0, .int .i64 0], .int .i64 n, .slice a es.length cap, .tuple #[.int .i64 0, .int .i64 0], .int .i64 0, .int .i64 0, .int .i64 0, .bool false, .int .i64 n, .slice a es.length cap, .slice ua es.length ucap, .map (some w2.heap.size), .agg #[.int .i64 n, .slice ua es.length ucap, .map (some w2.heap.size)], .pointer (some ⟨w2.heap.size + 1, 0, none⟩), .pointer (some ⟨w2.heap.size + 1, 0, none⟩), .func (.func 67) #[] #[.pointer (some ⟨w2.heap.size + 1 + 1 + 1, 0, none⟩)], .int .i64 (s.2.1.1.1 : Int), .agg #[.int .i64 s.2.1.1.2.1, .int .i64 s.2.1.1.2.2], undef, undef, undef, undef, undef, undef, undef, undef, undef, undef, undef, undef], defers := [] })
    ?hAx ?assign ?body ?done ?stop
  case stop => exact fun _ _ _ _ h => h.elim
  case h0 => exact ⟨⟨bM, fun p q => by simp [betw]⟩, ⟨bS, bX⟩, hB0, by omega⟩
  case hI =>
    rintro pre X Y row ⟨⟨hm, hl⟩, ⟨hs1, hs2⟩, hbl, hle⟩ hg hrow
    refine ⟨⟨hm.grown hg fun r e => ⟨by have := (hrow r e).1; omega, (hrow r e).2⟩, hl⟩, ⟨?_, ?_⟩, ownFrom_below (β := Unit) (B := W0.heap.size) (Nat.le_refl _) (by omega) () X Y row hbl hg hrow, Nat.le_trans hle hg.size⟩
    · exact (hg.block _ (by omega) fun e => by have := (hrow _ e.symm).1; omega).trans hs1
    · exact (hg.block _ (by omega) fun e => by have := (hrow _ e.symm).1; omega).trans hs2
  case hAx =>
    rintro s X Y row ⟨Bx, ⟨⟨hm, hl⟩, ⟨hs1, hs2⟩, hbl, hle⟩, ⟨hx, hxl⟩, ha⟩ hg hrow
    refine ⟨Bx, ⟨⟨hm.grown hg fun r e => ⟨by have := (hrow r e).1; omega, (hrow r e).2⟩, hl⟩, ⟨?_, ?_⟩, ownFrom_below (β := Unit) (B := W0.heap.size) (Nat.le_refl _) (by omega) () X Y row hbl hg hrow, Nat.le_trans hle hg.size⟩, ⟨?_, hxl⟩, ha⟩
    · exact (hg.block _ (by omega) fun e => by have := (hrow _ e.symm).1; omega).trans hs1
    · exact (hg.block _ (by omega) fun e => by have := (hrow _ e.symm).1; omega).trans hs2
    · refine (hg.block _ (Array.getElem?_eq_some_iff.1 hx).1 fun e => ?_).trans hx
      obtain ⟨_, o, ho, hc⟩ := hrow _ e.symm
      rw [hx] at ho; cases ho; cases hc
  case assign =>
    rintro l pre x W K ⟨⟨hm, hl⟩, ⟨hs1, hs2⟩, hbl, hle⟩ hK
    dsimp only [encA]
    gi_wp2
    refine hK _ _ ((KeepsOthers.alloc _ _).from _) (Keeps.alloc _ _ _) ⟨W.heap.size, ⟨⟨hm.below ((Below.refl _ W).alloc (Nat.le_refl _) _) (Nat.le_refl _), hl⟩, ⟨(Below.heap_alloc _ _ _ (by omega)).trans hs1, (Below.heap_alloc _ _ _ (by omega)).trans hs2⟩, hbl.alloc (by omega) _, by simp; omega⟩, ⟨World.alloc_heap_new W _, hle⟩, rfl⟩
  case done =>
    rintro D xs W hD rfl ⟨⟨hm, hl⟩, ⟨hs1, hs2⟩, hbl, hle⟩ hK
    have c7 : W.cell? ⟨w2.heap.size + 1 + 1, 0, none⟩ = some (.pointer (some ⟨w2.heap.size + 1, 0, none⟩)) := by simp [World.cell?, hs2, hgx]
    gi_wp2
    refine ⟨by simp, .inl ⟨_, _, rfl, run_takeDeferred hK, ?_⟩⟩
    have hP : Below w2.heap.size w2 (W.putObj D (.deferred none)) := hbl.trans (belowK_b (w := w2) (Nat.le_refl _) W D _ _ (by omega) hK rfl rfl)
    have hs1' : (W.putObj D (.deferred none)).heap[w2.heap.size + 1]? = some gs := (World.putObj_heap_other (by omega)).trans hs1
    refine ⟨_, results_tmp rfl _ _ _, w2.heap.size + 1, rfl, ?_, ?_⟩
    · refine .inr ⟨w2.heap.size + 1, _, w2.heap.size, w2.heap.size + 4, rfl, h1, h2, h3, hgd, ?_, ?_, hS0.below hP (Nat.le_refl _), ?_, ?_⟩
      · simp [World.cell?, hs1', hgs]
      · simp [World.cell?, hs1', hgs]
      · simp [World.cell?, hs1', hgs]
      · exact hm.grown (grownBy_putObj' W D _) fun r e => by cases e; exact ⟨by omega, _, hK, rfl⟩
    · exact hb1.trans ((hb2.mono hm1).trans (hP.mono (by omega)))
  case body =>
    rintro l pre x a' W hlen ⟨Bx, ⟨⟨hm, hl⟩, ⟨hs1, hs2⟩, hbl, hle⟩, ⟨hx, hxl⟩, ha⟩
    dsimp only at hm hl hx ha hlen
    subst ha
    obtain ⟨px, qx⟩ : Wf x.1.2.1 ∧ Wf x.1.2.2 := by
      have hg := hgd x.1.2 (List.mem_of_getElem? x.2)
      simp only [good, Bool.and_eq_true, decide_eq_true_eq] at hg
      exact ⟨wf_small ⟨hg.1.1, by omega⟩, wf_small ⟨hg.2.1, by omega⟩⟩
    have ix : x.1.1 < es.length := (List.getElem?_eq_some_iff.1 x.2).1
    obtain ⟨S, hS⟩ : ∃ S : World → Prop, S = fun w' => w'.cell? ⟨w2.heap.size + 1 + 1, 0, none⟩ = some (.pointer (some ⟨w2.heap.size + 1, 0, none⟩)) ∧ w'.cell? ⟨w2.heap.size + 1, 2, none⟩ = some (.map (some w2.heap.size)) ∧ w'.cell? ⟨Bx, 0, none⟩ = some (.int .i64 x.1.2.1) ∧ w'.cell? ⟨Bx, 1, none⟩ = some (.int .i64 x.1.2.2) := ⟨_, rfl⟩
    have SW : ∀ u : World, u.heap[w2.heap.size + 1]? = some gs → u.heap[w2.heap.size + 1 + 1]? = some gx → u.heap[Bx]? = W.heap[Bx]? → S u := fun u a1 a2 a3 => by
      rw [hx] at a3
      rw [hS]
      exact ⟨by simp [World.cell?, a2, hgx], by simp [World.cell?, a1, hgs], by simp [World.cell?, a3], by simp [World.cell?, a3]⟩
    obtain ⟨v, st, m1, mc1, hE, hO, hback⟩ := mapAt_step hm px qx
    have hBxl : Bx < W.heap.size := (Array.getElem?_eq_some_iff.1 hx).1
    obtain ⟨tmp, htmp⟩ : ∃ tmp : Obj, tmp = .cells #[.int .i64 (x.1.1 : Int)] 3 (0, 0) := ⟨_, rfl⟩
    obtain ⟨u1, hu1⟩ : ∃ u1, u1 = (W.alloc tmp).drew := ⟨_, rfl⟩
    have u1b : ∀ k, k < W.heap.size → u1.heap[k]? = W.heap[k]? := fun k hk => by rw [hu1]; exact Below.heap_alloc W tmp k hk
    have u1s : u1.heap.size = W.heap.size + 1 := by rw [hu1]; exact World.size_alloc _ _
    have u1t : u1.heap[W.heap.size]? = some tmp := by rw [hu1]; exact World.alloc_heap_new W tmp
    obtain ⟨u2, hu2⟩ : ∃ u2, u2 = setBlock u1 w2.heap.size m1 := ⟨_, rfl⟩
    have u2b : ∀ k, k ≠ w2.heap.size → u2.heap[k]? = u1.heap[k]? := fun k hk => by rw [hu2]; simp [setBlock, Ne.symm hk]
    have u2m : u2.heap[w2.heap.size]? = some m1 := by rw [hu2]; simp only [setBlock]; rw [Array.getElem?_setIfInBounds_self_of_lt (by omega)]
    have u2s : u2.heap.size = W.heap.size + 1 := by rw [hu2]; simp [setBlock, u1s]
    have hE1 : (Instr.mapEntry 77 (.map (some w2.heap.size)) (.agg #[.int .i64 x.1.2.1, .int .i64 x.1.2.2])).run Try.prog u1 = .ok (.tuple #[v, goInt st]) u2 := by
      rw [hu2]; exact hE u1 (u1b _ (by omega))
    have hO2 : u2.ownsInts (w2.heap.size + 4) 3 .i64 v (betw (pre.map (·.1)) x.1.2.1 x.1.2.2) := ownsInts_of hO fun g hg => by
      have := hO.1.lt g hg
      rw [u2b g (by omega)]; exact u1b g this.2
    have hvB : some Bx ≠ v.ownBlock := fun e => by
      rcases hO.1.2 with ⟨hv, _⟩ | ⟨g, cp, cur, hv, _, hgb, _⟩
      · rw [hv] at e; cases e
      · rw [hv] at e
        obtain rfl : Bx = g := by simpa [Value.ownBlock] using e
        rw [hx] at hgb; cases hgb
    have hvk : ∀ k, k < w2.heap.size + 4 → some k ≠ v.ownBlock := fun k hk e => by have := (hO.1.lt k e.symm).1; omega
    have hzl := hl x.1.2.1 x.1.2.2
    have S0 : S W.drew := SW W.drew hs1 hs2 rfl
    have S1 : S u1 := SW u1 ((u1b _ (by omega)).trans hs1) ((u1b _ (by omega)).trans hs2) (u1b _ hBxl)
    have S2 : S u2 := SW u2 ((u2b _ (by omega)).trans ((u1b _ (by omega)).trans hs1)) ((u2b _ (by omega)).trans ((u1b _ (by omega)).trans hs2)) ((u2b _ (by omega)).trans (u1b _ hBxl))
    have B2 : Below w2.heap.size W u2 := by
      rw [hu2, hu1]
      exact (((Below.refl _ W).alloc (by omega) tmp).drew).trans (below_setBlock _ _ _)
    have ct : u2.cell? ⟨W.heap.size, 0, none⟩ = some (.int .i64 (x.1.1 : Int)) := by
      have : u2.heap[W.heap.size]? = some tmp := (u2b _ (by omega)).trans u1t
      simp [World.cell?, this, htmp]
    obtain ⟨i0, hi, hz0, hz1, hz2⟩ := info_parts Try.info3
    gi_wp2
    refine round_held S (by kernel_rfl) ?_
    refine wpAnyH_take (i := 5) (v := .int .i64 (x.1.1 : Int)) rfl (by kernel_rfl) (by kernel_rfl) (by kernel_rfl) (fun _ _ _ h => h) (.inl ⟨by rfl, fun u hu => ?_⟩) S0 ?_
    · go_simp
    refine wpAnyH_take (i := 0) (v := .pointer (some ⟨w2.heap.size + 1, 0, none⟩)) rfl (by kernel_rfl) (by kernel_rfl) (by kernel_rfl) (fun _ _ _ h => h) (.inl ⟨by rfl, fun u hu => ?_⟩) S0 ?_
    · rw [hS] at hu; obtain ⟨q1, q2, q3, q4⟩ := hu; go_simp
    refine wpAnyH_take (i := 1) (v := .pointer (some ⟨w2.heap.size + 1, 0, none⟩)) rfl (by kernel_rfl) (by kernel_rfl) (by kernel_rfl) (fun _ _ _ h => h) (.inl ⟨by rfl, fun u hu => ?_⟩) S0 ?_
    · go_simp
    refine wpAnyH_take (i := 2) (v := .pointer (some ⟨w2.heap.size + 1, 2, none⟩)) rfl (by kernel_rfl) (by kernel_rfl) (by kernel_rfl) (fun _ _ _ h => h) (.inl ⟨by rfl, fun u hu => ?_⟩) S0 ?_
    · go_simp
    refine wpAnyH_take (i := 3) (v := .map (some w2.heap.size)) rfl (by kernel_rfl) (by kernel_rfl) (by kernel_rfl) (fun _ _ _ h => h) (.inl ⟨by rfl, fun u hu => ?_⟩) S0 ?_
    · rw [hS] at hu; obtain ⟨q1, q2, q3, q4⟩ := hu; go_simp
    refine wpAnyH_take (i := 4) (v := .agg #[.int .i64 x.1.2.1, .int .i64 x.1.2.2]) rfl (by kernel_rfl) (by kernel_rfl) (by kernel_rfl) (fun _ _ _ h => h) (.inl ⟨by rfl, fun u hu => ?_⟩) S0 ?_
    · rw [hS] at hu; obtain ⟨q1, q2, q3, q4⟩ := hu; go_simp
    refine wpAnyH_all (rs := [6]) (by kernel_rfl) (by simp) fun i hi6 => ?_
    obtain rfl : i = 6 := by simpa using hi6
    refine wpOp_step rfl fun K hK => ?_
    rw [if_pos (by rfl)]
    unfold Oper.wp
    go_simp
    rw [← htmp, ← hu1]
    refine hK _ _ ⟨S1, ?_⟩
    clear hK K hu1 hu2 htmp hS
    refine wpAnyH_all (rs := [7]) (by kernel_rfl) (by simp) fun i hi7 => ?_
    obtain rfl : i = 7 := by simpa using hi7
    refine wpOp_step rfl fun K hK => ?_
    rw [if_pos (by rfl)]
    unfold Oper.wp
    go_simp
    refine hK _ _ ⟨S2, ?_⟩
    clear hK K
    refine wpAnyH_take (i := 8) (v := v) rfl (by kernel_rfl) (by kernel_rfl) (by kernel_rfl) (fun _ _ _ h => h) (.inl ⟨by rfl, fun u hu => ?_⟩) S2 ?_
    · go_simp
    refine wpAnyH_take (i := 10) (v := goInt st) rfl (by kernel_rfl) (by kernel_rfl) (by kernel_rfl) (fun _ _ _ h => h) (.inl ⟨by rfl, fun u hu => ?_⟩) S2 ?_
    · go_simp
    refine wpAnyH_all (rs := [9]) (by kernel_rfl) (by simp) fun i hi9 => ?_
    obtain rfl : i = 9 := by simpa using hi9
    refine wpOp_step rfl fun K hK => ?_
    rw [if_pos (by rfl)]
    refine wp_append_lies u2 _ _ 28 rfl (w2.heap.size + 4) 3 i0 (.int .i64 0) 1 8 Try.underlying28 hi hz0 hz1 hz2 rfl (by decide) v _ _ rfl hO2.1 ⟨W.heap.size, 0, none⟩ 1 1 [.int .i64 (x.1.1 : Int)] rfl rfl ?n1 (by simp [Value.oneCell']) (by decide) ?n2 ?n3 (by omega) _ rfl ?n4
    case n1 =>
      intro j u hj
      obtain rfl : j = 0 := by
        cases j with
        | zero => rfl
        | succ j => simp at hj
      simp at hj; subst hj
      rw [add_at]
      exact ct
    case n2 => unfold maxLen; omega
    case n3 => omega
    intro g cp u3 hown3 hg3 hat3 hlt3
    have u3b : ∀ k, k < u2.heap.size → some k ≠ v.ownBlock → u3.heap[k]? = u2.heap[k]? := fun k hk hne => hg3.block k hk hne
    have hO3 : u3.ownsInts (w2.heap.size + 4) 3 .i64 (.slice (some ⟨g, 0, none⟩) ((betw (pre.map (·.1)) x.1.2.1 x.1.2.2).length + 1) cp) (betw (pre.map (·.1)) x.1.2.1 x.1.2.2 ++ [(x.1.1 : Int)]) := by
      refine ⟨?_, fun z hz => ?_⟩
      · simpa using hown3
      · rcases List.mem_append.1 hz with hz | hz
        · exact hO.2 z hz
        · simp at hz; subst hz; exact wf_nat (by omega)
    obtain ⟨m2, mc2, hst, hmap⟩ := hback u3 _ _ ((u3b _ (by omega) (hvk _ (by omega))).trans u2m) (fun k hk hne hv => ((u3b k (by omega) hv).trans (u2b k hne)).trans (u1b k hk)) hO3 (by
      rcases hat3 with h | h
      · exact .inl h.symm
      · exact .inr ⟨g, rfl, by omega⟩)
    have S3 : S u3 := SW u3 ((u3b _ (by omega) (hvk _ (by omega))).trans ((u2b _ (by omega)).trans ((u1b _ (by omega)).trans hs1))) ((u3b _ (by omega) (hvk _ (by omega))).trans ((u2b _ (by omega)).trans ((u1b _ (by omega)).trans hs2))) ((u3b _ (by omega) hvB).trans ((u2b _ (by omega)).trans (u1b _ hBxl)))
    refine hK _ _ ⟨S3, ?_⟩
    clear hK K
    refine wpAnyH_all (rs := [11]) (by kernel_rfl) (by simp) fun i hi11 => ?_
    obtain rfl : i = 11 := by simpa using hi11
    refine wpOp_step rfl fun K hK => ?_
    rw [if_pos (by rfl)]
    unfold Oper.wp
    have hst' : (Instr.entryStore 77 (.map (some w2.heap.size)) (.int .i64 st) (.slice (some ⟨g, 0, none⟩) ((betw (pre.map (·.1)) x.1.2.1 x.1.2.2).length + 1) cp)).run Try.prog u3 = .ok () (setBlock u3 w2.heap.size m2) := hst
    have B4 : Below w2.heap.size W (setBlock u3 w2.heap.size m2) := (B2.grown hg3 (by omega) (fun k e => by have := (hO.1.lt k e).1; omega)).trans (below_setBlock _ _ _)
    obtain ⟨u4, hu4⟩ : ∃ u4, u4 = setBlock u3 w2.heap.size m2 := ⟨_, rfl⟩
    have u4b : ∀ k, k ≠ w2.heap.size → u4.heap[k]? = u3.heap[k]? := fun k hk => by rw [hu4]; simp [setBlock, Ne.symm hk]
    have u4s : u4.heap.size = u3.heap.size := by rw [hu4]; simp [setBlock]
    rw [← hu4] at hst hst' hmap B4
    clear hu4
    have u4W : ∀ k, k < W.heap.size → k ≠ w2.heap.size → some k ≠ v.ownBlock → u4.heap[k]? = W.heap[k]? := fun k hk hne hv => (u4b k hne).trans (((u3b k (by omega) hv).trans (u2b k hne)).trans (u1b k hk))
    have g1 := (u4W _ (by omega) (by omega) (hvk _ (by omega))).trans hs1
    have g2 := (u4W _ (by omega) (by omega) (hvk _ (by omega))).trans hs2
    have S4 : S u4 := SW u4 g1 g2 (u4W _ hBxl (by omega) hvB)
    have hsz3 := hg3.size
    have hfin : KeepsFrom W0.heap.size W u4 ∧ Keeps (fun k _ => k < w2.heap.size) W u4 ∧ ((MapAt u4 w2.heap.size (w2.heap.size + 4) (betw ((pre ++ [x]).map (·.1))) ∧ (∀ p q, (betw ((pre ++ [x]).map (·.1)) p q).length ≤ (pre ++ [x]).length)) ∧ (u4.heap[w2.heap.size + 1]? = some gs ∧ u4.heap[w2.heap.size + 1 + 1]? = some gx) ∧ (Below w2.heap.size w2 u4 ∧ w2.heap.size + 4 ≤ u4.heap.size)) := by
      refine ⟨⟨by omega, fun k o hk ho hc => ?_⟩, ⟨by omega, fun k o hk ho => (B4.block k hk).trans ho⟩, ⟨?_, fun p q => ?_⟩, ⟨g1, g2⟩, hbl.trans B4, by omega⟩
      · refine (u4W k (Array.getElem?_eq_some_iff.1 ho).1 (by omega) fun e => ?_).trans ho
        rcases hO.1.2 with ⟨hv, _⟩ | ⟨g', cp', cur, hv, _, hgb, _⟩
        · rw [hv] at e; cases e
        · rw [hv] at e
          obtain rfl : k = g' := by simpa [Value.ownBlock] using e
          rw [hgb] at ho; cases ho; cases hc
      · rw [List.map_append, List.map_cons, List.map_nil, betw_snoc]; exact hmap
      · rw [List.map_append, List.map_cons, List.map_nil, betw_snoc]
        unfold upd
        split
        · simp; exact hl _ _
        · have := hl p q; simp; omega
    clear hmap B4 u4W u4b u4s
    go_simp
    refine hK _ _ ⟨S4, ?_⟩
    clear hK K
    refine wpAnyH_done (by kernel_rfl) ?_ _
    exact hfin
end Go.Proofs.Ytbjoljokdjgbnab
/-
  How far nodes are: what Levels comes to.
-/
namespace Go.Proofs.Ytbjoljokdjgbnab
open Go.RowKit Go.MapKept Go.Shelf Go.Deep
attribute [local go_sem] Oper.semAt_some
/-- Block b is a row of the numbers ls. -/
def Row (W : World) (b : Nat) (ls : List Int) : Prop := W.heap[b]? = some (.cells (ls.map (Value.int .i64)).toArray 3 (0, 0))
theorem Row.lt {W : World} {b : Nat} {ls : List Int} (h : Row W b ls) : b < W.heap.size := (Array.getElem?_eq_some_iff.1 h).1
theorem Row.cell {W : World} {b : Nat} {ls : List Int} (h : Row W b ls) {j : Nat} (hj : j < ls.length) : W.cell? ⟨b, j, none⟩ = some (.int .i64 (ls.getD j 0)) := by
  simp [World.cell?, show W.heap[b]? = _ from h, hj, List.getD]
theorem Row.frozen {W : World} {b : Nat} {ls : List Int} (h : Row W b ls) (j : Nat) : W.frozen? ⟨b, j, none⟩ = false := by
  simp [World.frozen?, show W.heap[b]? = _ from h]
theorem Row.kept {W W' : World} {row : Option Nat} {b : Nat} {ls : List Int} (h : Row W b ls) (hg : W.grownBy W' row) (hne : some b ≠ row) : Row W' b ls := (hg.block b h.lt hne).trans h
theorem Row.alloc {W : World} {b : Nat} {ls : List Int} (h : Row W b ls) (o : Obj) : Row (W.alloc o) b ls := h.kept (World.grownBy_alloc W o none) (by simp)
theorem Row.set {W : World} {b : Nat} {ls : List Int} (h : Row W b ls) (j : Nat) (z : Int) : Row (W.setCell ⟨b, j, none⟩ (.int .i64 z)) b (ls.set j z) := by
  obtain ⟨hlt, hk⟩ := Array.getElem?_eq_some_iff.1 h
  show (W.heap.modify b _)[b]? = _
  rw [Array.getElem?_eq_getElem (by rw [Array.size_modify]; exact hlt), Array.getElem_modify_self, hk]
  simp [List.map_set]
theorem row_own {β : Type} (b : Nat) (f : β → List Int) : Own (fun s W => Row W b (f s)) := fun s X Y row hs hg hrow =>
  hs.kept hg (fun e' => by obtain ⟨o, ho, hc⟩ := hrow b e'.symm; rw [show X.heap[b]? = _ from hs] at ho; cases ho; cases hc)
theorem grownBy_set (W : World) (b j : Nat) (v : Value) : W.grownBy (W.setCell ⟨b, j, none⟩ v) (some b) :=
  ⟨rfl, rfl, rfl, (KeepsWalks.setCell W _ v).size, fun k _ hk => Below.heap_setCell _ _ _ k (fun e => hk (by rw [e]))⟩
theorem Row.sees {W : World} {b cap : Nat} {ls : List Int} (h : Row W b ls) : Sees W (.slice (some ⟨b, 0, none⟩) ls.length cap) ls :=
  ⟨_, cap, rfl, .inr ⟨b, 0, rfl, fun j hj => by rw [Nat.zero_add]; exact h.cell hj⟩⟩
/-- The marks of what is put off, at the blocks Ds. -/
def marks (Ds : List Nat) : List Deferred := Ds.map fun D => { target := .collected D, args := #[] }
/-- One edge, looked at. -/
def lstep (k : Int) (ls : List Int) (x : Int × Int) : List Int := if ls.getD x.1.toNat 0 = k ∧ ls.getD x.2.toNat 0 < 0 then ls.set x.2.toNat (k + 1) else ls
def lround (es : Edges) (ls : List Int) (k : Nat) : List Int := es.foldl (lstep (k : Int)) ls
/-- What Levels tells. -/
def levels (N : Nat) (es : Edges) (root : Int) : List Int :=
  if 0 ≤ root ∧ root < (N : Int) then (List.range N).foldl (lround es) ((List.replicate N (-1)).set root.toNat 0) else List.replicate N (-1)
theorem leaves_marks {fn : Func} {tmps : Array Value} {R : Ending → World → Prop} {t : Tmp} {B : Nat} (hr : fn.results = #[.tmp t]) (A : World → Prop) (hA : ∀ w D, w.heap[D]? = some (.deferred (some [])) → B ≤ D → A w → A (w.putObj D (.deferred none)))
    (hR : ∀ w, A w → R (.returned (tmps.getD t undef)) w) : ∀ (Ds : List Nat) (w : World), Ds.Nodup → (∀ D ∈ Ds, B ≤ D ∧ w.heap[D]? = some (.deferred (some []))) → A w → LeavesInM Fence.wide 0 Try.prog fn tmps R (marks Ds) .returning w
  | [], w, _, _, ha => ⟨_, results_tmp hr _ _ _, hR w ha⟩
  | D :: Ds, w, hn, hd, ha => by
    obtain ⟨hB, hD⟩ := hd D (by simp)
    refine ⟨by simp, .inl ⟨D, _, rfl, run_takeDeferred hD, ?_⟩⟩
    refine leaves_marks hr A hA hR Ds _ (List.nodup_cons.1 hn).2 (fun D' hD' => ⟨(hd D' (by simp [hD'])).1, ?_⟩) (hA w D hD hB ha)
    exact (World.putObj_heap_other (fun e => (List.nodup_cons.1 hn).1 (by rw [← e]; exact hD'))).trans (hd D' (by simp [hD'])).2
theorem lstep_length (k : Int) (ls : List Int) (x : Int × Int) : (lstep k ls x).length = ls.length := by unfold lstep; split <;> simp
theorem lround_length (k : Int) : ∀ (es : Edges) (ls : List Int), (es.foldl (lstep k) ls).length = ls.length
  | [], _ => rfl
  | x :: r, ls => by rw [List.foldl_cons, lround_length k r, lstep_length]
theorem upto_fold {β : Type} (f : β → Int × Int → β) (b : β) (es : Edges) : ∀ (k : Nat) (h : k ≤ es.length), ((upto es k h).map (·.1.2)).foldl f b = (es.take k).foldl f b
  | 0, _ => by simp [upto]
  | k + 1, h => by
    rw [upto, List.map_append, List.foldl_append, upto_fold f b es k (by omega), List.take_succ_eq_append_getElem (by omega), List.foldl_append]
    rfl
theorem fold_length (es : Edges) : ∀ (l : List Nat) (ls : List Int), (l.foldl (lround es) ls).length = ls.length
  | [], _ => rfl
  | k :: r, ls => by rw [List.foldl_cons, fold_length es r]; exact lround_length (k : Int) es ls
theorem made_cells (z : Value) (n : Nat) : madeCells #[z] n = (List.replicate n z).toArray := by
  apply Array.ext'
  apply List.ext_getElem
  · simp [madeCells]
  · intro i h1 h2
    simp [madeCells, Nat.mod_one]
theorem made_row (w : World) (N : Nat) : Row (w.alloc (.cells (madeCells #[.int .i64 0] N) 3)) w.heap.size (List.replicate N 0) := by
  have := World.alloc_heap_new w (.cells (madeCells #[.int .i64 0] N) 3)
  unfold Row
  rw [this, made_cells]
  simp
set_option maxRecDepth 100000 in
set_option maxHeartbeats 4000000 in
theorem levels_walk (gb N : Nat) (root : Int) (es : Edges) (w : World) (hg : IsG w (some ⟨gb, 0, none⟩) (N : Int) es) (hroot : -9223372036854775808 ≤ root ∧ root ≤ 9223372036854775807) :
    Calls Try.prog 13 #[.pointer (some ⟨gb, 0, none⟩), .int .i64 root] w fun e w' => ∃ u, e = .returned u ∧ Sees w' u (levels N es root) ∧ Below w.heap.size w w' := by
  have hwk := hg.walks
  have hsh := hg.short
  rcases hg with ⟨h, _⟩ | ⟨gb', v, mb, base, e, h1, h2, h3, hgd, c0, c1, hse, c2, hm⟩
  · cases h
  obtain rfl : gb = gb' := by simpa using e
  have hgl := World.block_lt_of_cell? w _ c0
  dsimp only at hgl
  have hN : N ≤ 12 := by omega
  have hmk := run_make_row' (P := Try.prog) 28 3 (.int .i64 0) 8 Try.underlying28 Try.info3 rfl .i64 .i64 N (by omega) (by omega)
  clear hm c2 hse
  refine (callsIn_wide (n := 0)).1 ?_
  refine callsIn_of_wp_marks Try.func13 rfl trivial ?_ rfl
  simp only [Try.ntmps13, List.size_toArray, List.length_cons, List.length_nil, Nat.reduceAdd, Nat.reduceSub, Array.replicate_succ, Array.replicate_zero, List.push_toArray, List.append_toArray, List.nil_append, List.cons_append]
  gi_wp2
  have r0 := (made_row w N).alloc (.cells #[.slice (some ⟨w.heap.size, 0, none⟩) N N] 28)
  have b0 := Boxed.new (w.alloc (.cells (madeCells #[.int .i64 0] N) 3)) 28 (.slice (some ⟨w.heap.size, 0, none⟩) N N)
  rw [World.size_alloc] at b0
  have hB0 : Below w.heap.size w ((w.alloc (.cells (madeCells #[.int .i64 0] N) 3)).alloc (.cells #[.slice (some ⟨w.heap.size, 0, none⟩) N N] 28)) := ((Below.refl _ w).alloc (Nat.le_refl _) _).alloc (by simp) _
  have hsz : ((w.alloc (.cells (madeCells #[.int .i64 0] N) 3)).alloc (.cells #[.slice (some ⟨w.heap.size, 0, none⟩) N N] 28)).heap.size = w.heap.size + 2 := by simp
  obtain ⟨W0, hW0⟩ : ∃ W0, (w.alloc (.cells (madeCells #[.int .i64 0] N) 3)).alloc (.cells #[.slice (some ⟨w.heap.size, 0, none⟩) N N] 28) = W0 := ⟨_, rfl⟩
  rw [hW0] at r0 b0 hB0 hsz ⊢
  clear hW0 hmk
  gi_loopw [19] (fun i wr => ∃ k : Nat, k ≤ N ∧ i = .int .i64 k ∧ Row wr w.heap.size (List.replicate k (-1) ++ List.replicate (N - k) 0) ∧ Boxed wr (w.heap.size + 1) 28 (.slice (some ⟨w.heap.size, 0, none⟩) N N) ∧ Below w.heap.size w wr)
    (fun i _ => N - (intOf i).toNat)
  case atStart => exact ⟨0, Nat.zero_le _, rfl, by simpa using r0, b0, hB0⟩
  case round =>
    obtain ⟨k, hk, rfl, hrw, hbx, hbl⟩ := hrel
    have cb := hbx.cell
    by_cases hlt : k < N
    · have ck := hrw.cell (j := k) (by simp; omega)
      have cf := hrw.frozen k
      gi_wp2
      go_roundw
      case measure => simp [intOf]; omega
      case rel =>
        refine ⟨k + 1, by omega, by go_num, ?_, hbx.kept (grownBy_set wr w.heap.size k _) (by simp), hbl.setCell (p := ⟨w.heap.size, k, none⟩) (Nat.le_refl _) _⟩
        have := hrw.set k (-1)
        have e : (List.replicate k (-1) ++ List.replicate (N - k) 0 : List Int).set k (-1) = List.replicate (k + 1) (-1) ++ List.replicate (N - (k + 1)) 0 := by
          rw [List.set_append_right _ _ (by simp)]
          obtain ⟨d, hd⟩ : ∃ d, N - k = d + 1 := ⟨N - k - 1, by omega⟩
          rw [hd, show N - (k + 1) = d by omega]
          rw [List.replicate_succ' (n := k), List.append_assoc]
          simp [List.replicate_succ]
        rw [e] at this
        exact this
    · obtain rfl : k = N := by omega
      have hrw' : Row wr w.heap.size (List.replicate k (-1)) := by simpa using hrw
      have c0' : wr.cell? ⟨gb, 0, none⟩ = some (.int .i64 (k : Int)) := (hbl.cell (p := ⟨gb, 0, none⟩) hgl).trans c0
      clear hrw
      by_cases hin : 0 ≤ root ∧ root < (k : Int)
      · obtain ⟨r, rfl⟩ : ∃ r : Nat, root = (r : Int) := ⟨root.toNat, by omega⟩
        have hrk : r < k := by omega
        have hd : (decide ((0 : Int) ≤ (r : Int)) && decide ((r : Int) < (k : Int))) = true := by simp; omega
        have ck := hrw'.cell (j := r) (by simp; omega)
        have cf := hrw'.frozen r
        gi_wp2_with (refine ⟨trivial, rfl, ?_⟩; gi_at_call 38; refine (callsIn_wide.2 (isNode_any _ _ _)).mono ?_; rintro e w' ⟨rfl, rfl⟩; rw [hd])
        clear ck cf
        have hrw1 : Row (wr.setCell ⟨w.heap.size, r, none⟩ (.int .i64 0)) w.heap.size ((List.replicate k (-1)).set r 0) := hrw'.set r 0
        have hbx1 : Boxed (wr.setCell ⟨w.heap.size, r, none⟩ (.int .i64 0)) (w.heap.size + 1) 28 (.slice (some ⟨w.heap.size, 0, none⟩) k k) := hbx.kept (grownBy_set wr w.heap.size r _) (by simp)
        have hbl1 : Below w.heap.size w (wr.setCell ⟨w.heap.size, r, none⟩ (.int .i64 0)) := hbl.setCell (p := ⟨w.heap.size, r, none⟩) (Nat.le_refl _) _
        have hws1 : w.heap.size + 2 ≤ (wr.setCell ⟨w.heap.size, r, none⟩ (.int .i64 0)).heap.size := by have := hbx1.lt; omega
        obtain ⟨W1, hW1⟩ : ∃ W1, wr.setCell ⟨w.heap.size, r, none⟩ (.int .i64 0) = W1 := ⟨_, rfl⟩
        rw [hW1] at hrw1 hbx1 hbl1 hws1 ⊢
        clear hW1 hrw' hbx hbl cb c0'
        obtain ⟨l0, hl0⟩ : ∃ l0, l0 = (List.replicate k (-1) : List Int).set r 0 := ⟨_, rfl⟩
        have hl0n : l0.length = k := by rw [hl0]; simp
        have hres : levels k es (r : Int) = (List.range k).foldl (lround es) l0 := by unfold levels; rw [if_pos hin, hl0]; simp
        rw [← hl0] at hrw1
        clear hl0
        refine wpIn_loop_ghost_k (fun g a W => ∃ (j : Nat) (u7 u42 u43 u44 u45 u69 : Value) (Ds : List Nat), j + g = k ∧ a = { tmps := #[.pointer (some ⟨gb, 0, none⟩), .int .i64 (r : Int), undef, undef, .slice none 0 0, .pointer (some ⟨w.heap.size + 1, 0, none⟩), u6, u7, undef, undef, .pointer (some ⟨gb, 0, none⟩), .bool false, .pointer (some ⟨gb, 0, none⟩), .pointer (some ⟨gb, 0, none⟩), .pointer (some ⟨gb, 0, none⟩), .int .i64 (k : Int), .slice (some ⟨w.heap.size, 0, none⟩) k k, .slice (some ⟨w.heap.size, 0, none⟩) k k, .int .i64 (k : Int), .int .i64 (k : Int), .bool false, u21, u22, u23, u24, u25, .pointer (some ⟨gb, 0, none⟩), .pointer (some ⟨gb, 0, none⟩), .pointer (some ⟨gb, 0, none⟩), .int .i64 (k : Int), .int .i64 (r : Int), .bool true, .bool false, undef, .slice (some ⟨w.heap.size, 0, none⟩) k k, .int .i64 (r : Int), .pointer (some ⟨w.heap.size, r, none⟩), .pointer (some ⟨gb, 0, none⟩), .pointer (some ⟨gb, 0, none⟩), .pointer (some ⟨gb, 0, none⟩), .int .i64 (k : Int), .int .i64 (j : Int), u42, u43, u44, u45, undef, undef, undef, undef, undef, undef, undef, undef, undef, undef, undef, undef, undef, undef, undef, undef, undef, undef, undef, undef, undef, undef, undef, u69, undef], defers := marks Ds } ∧
            Row W w.heap.size ((List.range j).foldl (lround es) l0) ∧ Boxed W (w.heap.size + 1) 28 (.slice (some ⟨w.heap.size, 0, none⟩) k k) ∧ Below w.heap.size w W ∧ Ds.Nodup ∧ ∀ D ∈ Ds, w.heap.size + 2 ≤ D ∧ W.heap[D]? = some (.deferred (some []))) k
          ⟨0, undef, undef, undef, undef, undef, undef, [], by omega, rfl, by simpa using hrw1, hbx1, hbl1, by simp, by simp⟩ ?_
        rintro g a W ⟨j, u7, u42, u43, u44, u45, u69, Ds, hjg, rfl, hrow, hbox, hbel, hnd, hds⟩ J K hJ hK
        have hJ' : Hid _ := hJ
        have hK' : Hid _ := hK
        have hds' : Hid _ := hds
        clear hJ hK hds
        have cbx := hbox.cell
        by_cases hjk : j < k
        · gi_wp2_with (refine ⟨trivial, rfl, ?_⟩; gi_at_call 35; refine (callsIn_wide.2 (walk_any _ _)).mono ?_; rintro e w' ⟨rfl, rfl⟩)
          have b1 := hbox.lt
          have r2 := (hrow.alloc (.cells #[.int .i64 (j : Int)] 3)).alloc (.cells #[.pointer (some ⟨gb, 0, none⟩)] 24)
          have x2 := (hbox.alloc (.cells #[.int .i64 (j : Int)] 3)).alloc (.cells #[.pointer (some ⟨gb, 0, none⟩)] 24)
          have k2 := (Boxed.new W 3 (.int .i64 (j : Int))).alloc (.cells #[.pointer (some ⟨gb, 0, none⟩)] 24)
          have g2 := Boxed.new (W.alloc (.cells #[.int .i64 (j : Int)] 3)) 24 (.pointer (some ⟨gb, 0, none⟩))
          rw [World.size_alloc] at g2
          have hb2 : Below W.heap.size W ((W.alloc (.cells #[.int .i64 (j : Int)] 3)).alloc (.cells #[.pointer (some ⟨gb, 0, none⟩)] 24)) := ((Below.refl _ W).alloc (Nat.le_refl _) _).alloc (by simp) _
          have hs2 : ((W.alloc (.cells #[.int .i64 (j : Int)] 3)).alloc (.cells #[.pointer (some ⟨gb, 0, none⟩)] 24)).heap.size = W.heap.size + 2 := by simp
          obtain ⟨W2, hW2⟩ : ∃ W2, (W.alloc (.cells #[.int .i64 (j : Int)] 3)).alloc (.cells #[.pointer (some ⟨gb, 0, none⟩)] 24) = W2 := ⟨_, rfl⟩
          rw [hW2] at r2 x2 k2 g2 hb2 hs2 ⊢
          clear hW2
          have hbe2 : Below w.heap.size w W2 := hbel.trans (hb2.mono (by omega))
          obtain ⟨cur, hcur⟩ : ∃ cur, cur = (List.range j).foldl (lround es) l0 := ⟨_, rfl⟩
          have hcn : cur.length = k := by rw [hcur]; exact (fold_length es (List.range j) l0).trans hl0n
          rw [← hcur] at r2
          have hdl : ∀ D ∈ Ds, D < W.heap.size := fun D hD => (Array.getElem?_eq_some_iff.1 (hds'.out D hD).2).1
          refine range_law (gf := 67) (lb := #[.pointer (some ⟨W.heap.size + 1, 0, none⟩)]) rfl (enters_of Try.func67 (by kernel_rfl) rfl) (T := fun k' _ => k' < w.heap.size) (fun k' _ hk' ht => by omega)
            (walk_seq (W.heap.size + 1) w.heap.size _ (fun _ _ h => h) _ es (by omega) w W2 hwk (Nat.le_refl _) (by omega) hbe2 g2.cell) (fun _ => rfl)
            (fun pre V => Row V w.heap.size ((pre.map (·.1.2)).foldl (lstep (j : Int)) cur) ∧ Boxed V (w.heap.size + 1) 28 (.slice (some ⟨w.heap.size, 0, none⟩) k k) ∧ Boxed V W.heap.size 3 (.int .i64 (j : Int)) ∧ Below w.heap.size w V ∧ ∀ D ∈ Ds, V.heap[D]? = some (.deferred (some [])))
            (fun _ _ => False) ?hI (fun _ _ _ _ hs _ _ => hs) ?h0
            (fun s V => ∃ Bx, (Row V w.heap.size ((s.1.map (·.1.2)).foldl (lstep (j : Int)) cur) ∧ Boxed V (w.heap.size + 1) 28 (.slice (some ⟨w.heap.size, 0, none⟩) k k) ∧ Boxed V W.heap.size 3 (.int .i64 (j : Int)) ∧ Below w.heap.size w V ∧ ∀ D ∈ Ds, V.heap[D]? = some (.deferred (some []))) ∧ V.heap[Bx]? = some (.cells #[.int .i64 s.2.1.1.2.1, .int .i64 s.2.1.1.2.2] 34 (0, 0)) ∧ s.2.2 = { tmps := #[.pointer (some ⟨gb, 0, none⟩), .int .i64 (r : Int), undef, undef, .slice none 0 0, .pointer (some ⟨w.heap.size + 1, 0, none⟩), u6, .pointer (some ⟨W.heap.size, 0, none⟩), undef, .pointer (some ⟨Bx, 0, none⟩), .pointer (some ⟨gb, 0, none⟩), .bool false, .pointer (some ⟨gb, 0, none⟩), .pointer (some ⟨gb, 0, none⟩), .pointer (some ⟨gb, 0, none⟩), .int .i64 (k : Int), .slice (some ⟨w.heap.size, 0, none⟩) k k, .slice (some ⟨w.heap.size, 0, none⟩) k k, .int .i64 (k : Int), .int .i64 (k : Int), .bool false, u21, u22, u23, u24, u25, .pointer (some ⟨gb, 0, none⟩), .pointer (some ⟨gb, 0, none⟩), .pointer (some ⟨gb, 0, none⟩), .int .i64 (k : Int), .int .i64 (r : Int), .bool true, .bool false, undef, .slice (some ⟨w.heap.size, 0, none⟩) k k, .int .i64 (r : Int), .pointer (some ⟨w.heap.size, r, none⟩), .pointer (some ⟨gb, 0, none⟩), .pointer (some ⟨gb, 0, none⟩), .pointer (some ⟨gb, 0, none⟩), .int .i64 (k : Int), .int .i64 (j : Int), .bool true, .int .i64 (j : Int), .pointer (some ⟨gb, 0, none⟩), .func (.func 67) #[] #[.pointer (some ⟨W.heap.size + 1, 0, none⟩)], .int .i64 (s.2.1.1.1 : Int), .agg #[.int .i64 s.2.1.1.2.1, .int .i64 s.2.1.1.2.2], undef, undef, undef, undef, undef, undef, undef, undef, undef, undef, undef, undef, undef, undef, undef, undef, undef, undef, undef, undef, undef, u69, undef], defers := [] })
            ?hAx ?assign ?body ?done ?stop
          case stop => exact fun _ _ _ _ h => h.elim
          case h0 => exact ⟨by simpa using r2, x2, k2, hbe2, fun D hD => (hb2.block D (hdl D hD)).trans (hds'.out D hD).2⟩
          case hI =>
            rintro pre X Y row ⟨i1, i2, i3, i4, i5⟩ hg hrw
            have hr' : ∀ r, row = some r → ∃ o : Obj, X.heap[r]? = some o ∧ o.isCells = false := fun r e => (hrw r e).2
            exact ⟨row_own w.heap.size (fun (_ : Unit) => _) () X Y row i1 hg hr', boxed_own (w.heap.size + 1) 28 (fun (_ : Unit) => _) () X Y row i2 hg hr', boxed_own W.heap.size 3 (fun (_ : Unit) => _) () X Y row i3 hg hr', ownFrom_below (β := Unit) (B := W2.heap.size) (Nat.le_refl _) (by omega) () X Y row i4 hg hrw,
              fun D hD => (hg.block D (Array.getElem?_eq_some_iff.1 (i5 D hD)).1 fun e => by have := (hrw D e.symm).1; have := hdl D hD; omega).trans (i5 D hD)⟩
          case hAx =>
            rintro s X Y row ⟨Bx, ⟨i1, i2, i3, i4, i5⟩, hx, ha⟩ hg hrw
            have hr' : ∀ r, row = some r → ∃ o : Obj, X.heap[r]? = some o ∧ o.isCells = false := fun r e => (hrw r e).2
            refine ⟨Bx, ⟨row_own w.heap.size (fun (_ : Unit) => _) () X Y row i1 hg hr', boxed_own (w.heap.size + 1) 28 (fun (_ : Unit) => _) () X Y row i2 hg hr', boxed_own W.heap.size 3 (fun (_ : Unit) => _) () X Y row i3 hg hr', ownFrom_below (β := Unit) (B := W2.heap.size) (Nat.le_refl _) (by omega) () X Y row i4 hg hrw,
              fun D hD => (hg.block D (Array.getElem?_eq_some_iff.1 (i5 D hD)).1 fun e => by have := (hrw D e.symm).1; have := hdl D hD; omega).trans (i5 D hD)⟩, ?_, ha⟩
            refine (hg.block _ (Array.getElem?_eq_some_iff.1 hx).1 fun e => ?_).trans hx
            obtain ⟨_, o, ho, hc⟩ := hrw _ e.symm
            rw [hx] at ho; cases ho; cases hc
          case assign =>
            rintro l pre x V Kx ⟨i1, i2, i3, i4, i5⟩ hKx
            dsimp only [encA]
            gi_wp2
            exact hKx _ _ ((KeepsOthers.alloc _ _).from _) (Keeps.alloc _ _ _) ⟨V.heap.size, ⟨i1.alloc _, i2.alloc _, i3.alloc _, i4.alloc (by have := i4.size; omega) _, fun D hD => (Below.heap_alloc _ _ _ (Array.getElem?_eq_some_iff.1 (i5 D hD)).1).trans (i5 D hD)⟩, World.alloc_heap_new V _, rfl⟩
          case done =>
            rintro D xs V hD rfl ⟨i1, i2, i3, i4, i5⟩ hKD
            have hfin : Row V w.heap.size ((List.range (j + 1)).foldl (lround es) l0) := by
              rw [upto_fold (lstep (j : Int)) cur es es.length (Nat.le_refl _), List.take_length] at i1
              rw [List.range_succ, List.foldl_append, List.foldl_cons, List.foldl_nil, ← hcur]
              exact i1
            have hgo : ∀ u, K { tmps := #[.pointer (some ⟨gb, 0, none⟩), .int .i64 (r : Int), undef, undef, .slice none 0 0, .pointer (some ⟨w.heap.size + 1, 0, none⟩), u6, .pointer (some ⟨W.heap.size, 0, none⟩), undef, undef, .pointer (some ⟨gb, 0, none⟩), .bool false, .pointer (some ⟨gb, 0, none⟩), .pointer (some ⟨gb, 0, none⟩), .pointer (some ⟨gb, 0, none⟩), .int .i64 (k : Int), .slice (some ⟨w.heap.size, 0, none⟩) k k, .slice (some ⟨w.heap.size, 0, none⟩) k k, .int .i64 (k : Int), .int .i64 (k : Int), .bool false, u21, u22, u23, u24, u25, .pointer (some ⟨gb, 0, none⟩), .pointer (some ⟨gb, 0, none⟩), .pointer (some ⟨gb, 0, none⟩), .int .i64 (k : Int), .int .i64 (r : Int), .bool true, .bool false, undef, .slice (some ⟨w.heap.size, 0, none⟩) k k, .int .i64 (r : Int), .pointer (some ⟨w.heap.size, r, none⟩), .pointer (some ⟨gb, 0, none⟩), .pointer (some ⟨gb, 0, none⟩), .pointer (some ⟨gb, 0, none⟩), .int .i64 (k : Int), .int .i64 ((j + 1 : Nat) : Int), .bool true, .int .i64 (j : Int), .pointer (some ⟨gb, 0, none⟩), .func (.func 67) #[] #[.pointer (some ⟨W.heap.size + 1, 0, none⟩)], undef, undef, undef, undef, undef, undef, undef, undef, undef, undef, undef, undef, undef, undef, undef, undef, undef, undef, undef, undef, undef, undef, undef, u, undef], defers := marks (D :: Ds) } V := fun u =>
              hK'.out _ _ ⟨g - 1, by omega, hJ'.out _ _ _ ⟨j + 1, _, _, _, _, _, _, D :: Ds, by omega, rfl, hfin, i2, i4, List.nodup_cons.2 ⟨fun h => by have := hdl D h; omega, hnd⟩, fun D' hD' => by
                rcases List.mem_cons.1 hD' with rfl | h
                · exact ⟨by omega, hKD⟩
                · exact ⟨(hds'.out D' h).1, i5 D' h⟩⟩⟩
            have hgo' : Hid _ := hgo
            clear hgo i1 i2 i3 i4 i5 hfin
            gi_wp2
            exact hgo'.out _
          case body =>
            rintro l pre ⟨⟨i, p, q⟩, hx0⟩ a' V hlen ⟨Bx, ⟨i1, i2, i3, i4, i5⟩, hx, ha⟩
            dsimp only at hx ha hlen i1
            subst ha
            have hg0 := hgd (p, q) (List.mem_of_getElem? hx0)
            simp only [good, Bool.and_eq_true, decide_eq_true_eq] at hg0
            obtain ⟨p, rfl⟩ : ∃ p' : Nat, p = (p' : Int) := ⟨p.toNat, by omega⟩
            obtain ⟨q, rfl⟩ : ∃ q' : Nat, q = (q' : Int) := ⟨q.toNat, by omega⟩
            obtain ⟨ls, hls⟩ : ∃ ls, ls = (pre.map (·.1.2)).foldl (lstep (j : Int)) cur := ⟨_, rfl⟩
            have hln : ls.length = k := by rw [hls, lround_length]; exact hcn
            have hnx : ((pre ++ [(⟨(i, (p : Int), (q : Int)), hx0⟩ : At es)]).map (·.1.2)).foldl (lstep (j : Int)) cur = lstep (j : Int) ls ((p : Int), (q : Int)) := by rw [List.map_append, List.foldl_append, hls]; rfl
            rw [← hls] at i1
            have hp : p < k := by omega
            have hq : q < k := by omega
            have e1 := i2.cell
            have e2 := i3.cell
            have e3 : V.cell? ⟨Bx, 0, none⟩ = some (.int .i64 (p : Int)) := by simp [World.cell?, hx]
            have e4 : V.cell? ⟨Bx, 1, none⟩ = some (.int .i64 (q : Int)) := by simp [World.cell?, hx]
            have e5 := i1.cell (j := p) (by omega)
            have e6 := i1.cell (j := q) (by omega)
            have e7 := i1.frozen q
            have hfin : ∀ V' a', KeepsFrom W2.heap.size V V' → Keeps (fun k' _ => k' < w.heap.size) V V' → (Row V' w.heap.size (((pre ++ [(⟨(i, (p : Int), (q : Int)), hx0⟩ : At es)]).map (·.1.2)).foldl (lstep (j : Int)) cur) ∧ Boxed V' (w.heap.size + 1) 28 (.slice (some ⟨w.heap.size, 0, none⟩) k k) ∧ Boxed V' W.heap.size 3 (.int .i64 (j : Int)) ∧ Below w.heap.size w V' ∧ ∀ D ∈ Ds, V'.heap[D]? = some (.deferred (some []))) → After W2.heap.size (fun k' _ => k' < w.heap.size) (fun pre V => Row V w.heap.size ((pre.map (·.1.2)).foldl (lstep (j : Int)) cur) ∧ Boxed V (w.heap.size + 1) 28 (.slice (some ⟨w.heap.size, 0, none⟩) k k) ∧ Boxed V W.heap.size 3 (.int .i64 (j : Int)) ∧ Below w.heap.size w V ∧ ∀ D ∈ Ds, V.heap[D]? = some (.deferred (some []))) (fun _ _ => False) (pre ++ [(⟨(i, (p : Int), (q : Int)), hx0⟩ : At es)]) V .normal a' V' := fun V' _ a1 a2 a3 => ⟨a1, a2, a3⟩
            rw [hnx] at hfin
            have hfin' : Hid _ := hfin
            have hi5 : Hid _ := i5
            have hls' : Hid _ := hls
            clear hfin i5 hnx hls
            obtain ⟨z, hz⟩ : ∃ z, ls.getD p 0 = z := ⟨_, rfl⟩
            obtain ⟨y, hy⟩ : ∃ y, ls.getD q 0 = y := ⟨_, rfl⟩
            rw [hz] at e5
            rw [hy] at e6
            by_cases hA : z = (j : Int)
            · subst hA
              by_cases hB : y < 0
              · have hst : lstep (j : Int) ls ((p : Int), (q : Int)) = ls.set q ((j : Int) + 1) := by
                  unfold lstep; rw [if_pos (by simp [List.getD] at hz hy; simp [hz, hy, hB])]; simp
                rw [hst] at hfin'
                clear hst hz hy
                gi_wp2
                refine round_quiet (by kernel_rfl) (by kernel_rfl) ?_
                repeat (go_big_quiet_step (fail))
                refine wpQuiet_nil ?_
                intro _ hw'
                obtain ⟨nq, hw''⟩ := hw'
                subst hw''
                have e7' : (V.drewN nq).frozen? ⟨w.heap.size, q, none⟩ = false := e7
                have e6' : (V.drewN nq).cell? ⟨w.heap.size, q, none⟩ = some (.int .i64 y) := e6
                gi_wp2
                have j1 : Row (V.drewN nq) w.heap.size ls := i1
                have j2 : Boxed (V.drewN nq) (w.heap.size + 1) 28 (.slice (some ⟨w.heap.size, 0, none⟩) k k) := i2
                have j3 : Boxed (V.drewN nq) W.heap.size 3 (.int .i64 (j : Int)) := i3
                have j4 : Below w.heap.size w (V.drewN nq) := ⟨i4.os, i4.tape, i4.output, i4.size, i4.block⟩
                have gs := grownBy_set (V.drewN nq) w.heap.size q (.int .i64 ((j : Int) + 1))
                exact hfin'.out _ _ ⟨((KeepsOthers.setCell (V.drewN nq) ⟨w.heap.size, q, none⟩ (.int .i64 ((j : Int) + 1))).from W2.heap.size).size, ((KeepsOthers.setCell (V.drewN nq) ⟨w.heap.size, q, none⟩ (.int .i64 ((j : Int) + 1))).from W2.heap.size).same⟩
                  ⟨(Keeps.grown (T := fun k' _ => k' < w.heap.size) gs (fun k' o e _ => by cases e; omega)).1, (Keeps.grown (T := fun k' _ => k' < w.heap.size) gs (fun k' o e _ => by cases e; omega)).2⟩
                  ⟨j1.set q _, j2.kept gs (by simp), j3.kept gs (by simp; omega), j4.setCell (p := ⟨w.heap.size, q, none⟩) (Nat.le_refl _) _, fun D hD => (gs.block D (Array.getElem?_eq_some_iff.1 (hi5.out D hD)).1 (by have := (hds'.out D hD).1; simp; omega)).trans (hi5.out D hD)⟩
              · have hst : lstep (j : Int) ls ((p : Int), (q : Int)) = ls := by
                  unfold lstep; rw [if_neg (by simp [List.getD] at hz hy; simp [hz, hy]; omega)]
                rw [hst] at hfin'
                have hBd : decide (y < 0) = false := by simp; omega
                clear hst hz hy
                gi_wp2
                refine round_quiet (by kernel_rfl) (by kernel_rfl) ?_
                repeat (go_big_quiet_step (fail))
                refine wpQuiet_nil ?_
                intro _ hw'
                obtain ⟨nq, hw''⟩ := hw'
                subst hw''
                gi_wp2
                exact hfin'.out _ _ ⟨Nat.le_refl _, fun _ _ _ h _ => h⟩ ⟨Nat.le_refl _, fun _ _ _ h => h⟩ ⟨i1, i2, i3, ⟨i4.os, i4.tape, i4.output, i4.size, i4.block⟩, hi5.out⟩
            · have hst : lstep (j : Int) ls ((p : Int), (q : Int)) = ls := by
                unfold lstep; rw [if_neg (by simp [List.getD] at hz hy; simp [hz, hA])]
              rw [hst] at hfin'
              have hAd : (z == (j : Int)) = false := by simp [hA]
              clear hst hz hy
              gi_wp2
              refine round_quiet (by kernel_rfl) (by kernel_rfl) ?_
              repeat (go_big_quiet_step (fail))
              refine wpQuiet_nil ?_
              intro _ hw'
              obtain ⟨nq, hw''⟩ := hw'
              subst hw''
              gi_wp2
              exact hfin'.out _ _ ⟨Nat.le_refl _, fun _ _ _ h _ => h⟩ ⟨Nat.le_refl _, fun _ _ _ h => h⟩ ⟨i1, i2, i3, ⟨i4.os, i4.tape, i4.output, i4.size, i4.block⟩, hi5.out⟩
        · obtain rfl : j = k := by omega
          gi_wp2
          refine leaves_marks (B := w.heap.size + 2) (t := 4) rfl (fun V => Row V w.heap.size ((List.range j).foldl (lround es) l0) ∧ Below w.heap.size w V) (fun V D hD hB hA => ⟨hA.1.kept (grownBy_putObj' V D _) (by simp; omega), hA.2.trans (belowK_b (w := w) (Nat.le_refl _) V D _ _ (by omega) hD rfl rfl)⟩) (fun V hA => ?_) Ds W hnd (fun D hD => hds'.out D hD) ⟨hrow, hbel⟩
          refine ⟨.slice (some ⟨w.heap.size, 0, none⟩) j j, rfl, ?_, hA.2⟩
          have h := hA.1.sees (cap := j)
          rwa [fold_length, hl0n] at h
      · have hd : (decide (0 ≤ root) && decide (root < (k : Int))) = false := by simp; omega
        gi_wp2_with (refine ⟨trivial, rfl, ?_⟩; gi_at_call 38; refine (callsIn_wide.2 (isNode_any _ _ _)).mono ?_; rintro e w' ⟨rfl, rfl⟩; rw [hd])
        have hS : Sees wr (.slice (some ⟨w.heap.size, 0, none⟩) k k) (levels k es root) := by
          unfold levels
          rw [if_neg hin]
          have := hrw'.sees (cap := k)
          rwa [List.length_replicate] at this
        exact ⟨_, results_tmp rfl _ _ _, .slice (some ⟨w.heap.size, 0, none⟩) k k, rfl, hS, hbl⟩
end Go.Proofs.Ytbjoljokdjgbnab
/-
  What must be whatever is asked: the laws' 'live'; how many nodes and edges there are; at most so many edges.
-/
namespace Go.Proofs.Ytbjoljokdjgbnab
open Go.RowKit Go.Deep
theorem n_any (gp : Option Addr) (n : Int) (es : Edges) (w : World) (hg : IsG w gp n es) : Calls Try.prog 12 #[.pointer gp] w fun e w' => e = .returned (.int .i64 n) ∧ w = w' := by
  rcases hg with ⟨rfl, rfl, _⟩ | ⟨gb, v, mb, base, rfl, h1, h2, h3, hgd, c0, c1, hse, c2, hm⟩
  · go_enter Try.func12, Try.ntmps12
    go_wp2
    go_ret
    exact ⟨rfl, rfl⟩
  · clear hm hse hgd
    go_enter Try.func12, Try.ntmps12
    go_wp2
    go_ret
    exact ⟨rfl, rfl⟩
theorem m_any (gp : Option Addr) (n : Int) (es : Edges) (w : World) (hg : IsG w gp n es) : Calls Try.prog 36 #[.pointer gp] w fun e w' => e = .returned (.int .i64 es.length) ∧ w = w' := by
  rcases hg with ⟨rfl, rfl, rfl⟩ | ⟨gb, v, mb, base, rfl, h1, h2, h3, hgd, c0, c1, hse, c2, hm⟩
  · go_enter Try.func36, Try.ntmps36
    go_wp2
    go_ret
    exact ⟨rfl, rfl⟩
  · obtain ⟨a, cap, rfl, _⟩ := hse
    clear hm hgd
    go_enter Try.func36, Try.ntmps36
    go_wp2
    go_ret
    exact ⟨rfl, rfl⟩
theorem levels_nil (root : Int) (w : World) : Calls Try.prog 13 #[.pointer none, .int .i64 root] w fun e w' => e = .returned (.slice none 0 0) ∧ w = w' := by
  go_enter Try.func13, Try.ntmps13
  go_wp2
  go_ret
  exact ⟨rfl, rfl⟩
theorem levels_any (gp : Option Addr) (N : Nat) (root : Int) (es : Edges) (w : World) (hg : IsG w gp (N : Int) es) (hroot : -9223372036854775808 ≤ root ∧ root ≤ 9223372036854775807) :
    Calls Try.prog 13 #[.pointer gp, .int .i64 root] w fun e w' => ∃ u, e = .returned u ∧ Sees w' u (levels N es root) ∧ Below w.heap.size w w' := by
  cases gp with
  | none =>
    rcases hg with ⟨_, h0, rfl⟩ | ⟨_, _, _, _, h, _⟩
    · obtain rfl : N = 0 := by omega
      refine (levels_nil root w).mono ?_
      rintro e w' ⟨rfl, rfl⟩
      refine ⟨_, rfl, ⟨none, 0, ?_, .inl ?_⟩, Below.refl _ _⟩
      · unfold levels; split <;> simp
      · unfold levels; split <;> simp
    · cases h
  | some p =>
    rcases hg with ⟨h, _⟩ | ⟨gb, v, mb, base, h, hr⟩
    · cases h
    · cases h
      exact levels_walk gb N root es w (.inr ⟨gb, v, mb, base, rfl, hr⟩) hroot
theorem few_long (x : Addr) (len cap : Nat) (w : World) (hl : len ≤ cap) (h : 32 < len) (hm : len ≤ 9223372036854775807) :
    Calls Try.prog 9 #[.slice (some x) len cap] w fun e w' => e = .returned (.slice (some x) 32 cap) ∧ w = w' := by
  have h1 : (32 : Int) < (len : Int) := by omega
  go_enter Try.func9, Try.ntmps9
  go_wp2
  go_ret
  exact ⟨rfl, rfl⟩
theorem few_short (a : Option Addr) (len cap : Nat) (w : World) (h : len ≤ 32) :
    Calls Try.prog 9 #[.slice a len cap] w fun e w' => e = .returned (.slice a len cap) ∧ w = w' := by
  have h1 : decide ((32 : Int) < (len : Int)) = false := by simp; omega
  go_enter Try.func9, Try.ntmps9
  go_wp2
  go_ret
  exact ⟨rfl, rfl⟩
/-- An argument that reads as the edges es. -/
def ArgE (w : World) (v : Value) (es : Edges) : Prop := SeesE w v es ∧ ∃ a len cap, v = .slice a len cap ∧ len ≤ cap ∧ cap ≤ 9223372036854775807
theorem few_any (v : Value) (es : Edges) (w : World) (h : ArgE w v es) :
    Calls Try.prog 9 #[v] w fun e w' => ∃ u, e = .returned u ∧ SeesE w u (es.take 32) ∧ w = w' := by
  obtain ⟨⟨a, cap, rfl, hs⟩, a', len', cap', he, hlc, hcm⟩ := h
  cases he
  by_cases hl : es.length ≤ 32
  · refine (few_short a es.length cap w hl).mono ?_
    rintro e w' ⟨rfl, rfl⟩
    rw [List.take_of_length_le hl]
    exact ⟨_, rfl, ⟨a, cap, rfl, hs⟩, rfl⟩
  · rcases hs with h1 | ⟨b, off, rfl, hc⟩
    · subst h1; simp at hl
    refine (few_long _ es.length cap w hlc (by omega) (by omega)).mono ?_
    rintro e w' ⟨rfl, rfl⟩
    have e32 : (es.take 32).length = 32 := by rw [List.length_take]; omega
    refine ⟨_, rfl, ⟨some ⟨b, off, none⟩, cap, by rw [e32], .inr ⟨b, off, rfl, fun j x hx => hc j x ?_⟩⟩, rfl⟩
    rw [List.getElem?_take] at hx
    split at hx
    · exact hx
    · cases hx
theorem sees3 (w : World) : SeesE (w.alloc (.cells #[.int .i64 0, .int .i64 1, .int .i64 0, .int .i64 1, .int .i64 1, .int .i64 2] 34)) (.slice (some ⟨w.heap.size, 0, none⟩) 3 3) [(0, 1), (0, 1), (1, 2)] := by
  refine ⟨_, 3, rfl, .inr ⟨w.heap.size, 0, rfl, fun j x hx => ?_⟩⟩
  have hn := World.alloc_heap_new w (.cells #[.int .i64 0, .int .i64 1, .int .i64 0, .int .i64 1, .int .i64 1, .int .i64 2] 34)
  match j, hx with
  | 0, hx => cases hx; constructor <;> (unfold World.cell?; rw [hn]; rfl)
  | 1, hx => cases hx; constructor <;> (unfold World.cell?; rw [hn]; rfl)
  | 2, hx => cases hx; constructor <;> (unfold World.cell?; rw [hn]; rfl)
theorem sees2 (w : World) : SeesE (w.alloc (.cells #[.int .i64 0, .int .i64 1, .int .i64 2, .int .i64 0] 34)) (.slice (some ⟨w.heap.size, 0, none⟩) 2 2) [(0, 1), (2, 0)] := by
  refine ⟨_, 2, rfl, .inr ⟨w.heap.size, 0, rfl, fun j x hx => ?_⟩⟩
  have hn := World.alloc_heap_new w (.cells #[.int .i64 0, .int .i64 1, .int .i64 2, .int .i64 0] 34)
  match j, hx with
  | 0, hx => cases hx; constructor <;> (unfold World.cell?; rw [hn]; rfl)
  | 1, hx => cases hx; constructor <;> (unfold World.cell?; rw [hn]; rfl)
theorem levels3 : levels 3 [(0, 1), (0, 1), (1, 2)] 0 = [0, 1, 2] := by decide
theorem check2 : check 2 [(0, 1), (2, 0)] = (1, 11) := by decide
theorem places3 : places [(0, 1), (0, 1), (1, 2)] 0 false = [0, 1] := by decide
set_option maxRecDepth 100000 in
set_option maxHeartbeats 4000000 in
theorem live_any (w : World) : Calls Try.prog 11 #[] w fun e w' => e = .returned (.bool true) ∧ Below w.heap.size w w' := by
  have C1 : Hid _ := new_ok 3 (.slice (some ⟨w.heap.size, 0, none⟩) 3 3) [(0, 1), (0, 1), (1, 2)] _ (sees3 w) (by decide) (by decide) (by decide) (by decide)
  go_enter Try.func11, Try.ntmps11
  go_wp2_with (go_at_call 10; refine Calls.mono C1.out ?_; rintro e w1 ⟨gb, rfl, hg1, hb1⟩; refine Hid.out ?_)
  refine hidI ?_
  have B1 : Below w.heap.size w w1 := ((Below.refl _ w).alloc (Nat.le_refl _) _).trans (hb1.mono (by simp))
  clear C1 hb1
  have C2 : Hid _ := levels_any _ 3 0 _ w1 hg1 (by decide)
  have G1 := hidI hg1
  have HB1 := hidI B1
  clear hg1 B1
  go_wp2_with (go_at_call 13; refine Calls.mono C2.out ?_; rintro e w2 ⟨u, rfl, hu, hb2⟩; refine Hid.out ?_)
  refine hidI ?_
  have B2 : Below w.heap.size w w2 := HB1.out.trans (hb2.mono HB1.out.size)
  have hg2 := G1.out.below hb2 (Nat.le_refl _)
  rw [levels3] at hu
  have hu3 := hu.below ((Below.refl _ w2).alloc (Nat.le_refl _) (.cells #[.int .i64 0, .int .i64 1, .int .i64 2, .int .i64 0] 34)) (Nat.le_refl _)
  clear C2 G1 HB1 hb2
  have C3 : Hid _ := check_any 2 (.slice (some ⟨w2.heap.size, 0, none⟩) 2 2) [(0, 1), (2, 0)] _ (sees2 w2)
  rw [check2] at C3
  obtain ⟨ua, ucap, rfl, huc⟩ := hu
  have G2 := hidI hg2
  have HB2 := hidI B2
  have HU3 := hidI hu3
  have hcx := hidI huc
  clear hg2 B2 hu3 huc
  go_wp2_with (go_at_call 33; refine Calls.mono C3.out ?_; rintro e w3 ⟨rfl, hb3⟩; refine Hid.out ?_)
  refine hidI ?_
  have b23 : Below w2.heap.size w2 w3 := ((Below.refl _ w2).alloc (Nat.le_refl _) _).trans (hb3.mono (by simp))
  have B3 : Below w.heap.size w w3 := HB2.out.trans (b23.mono HB2.out.size)
  have hg3 := G2.out.below b23 (Nat.le_refl _)
  have hu4 := HU3.out.below hb3 (Nat.le_refl _)
  clear C3 G2 HB2 HU3 hb3 b23
  have CN : Hid _ := n_any _ _ _ w3 hg3
  have CM : Hid _ := m_any _ _ _ w3 hg3
  have CO : Hid _ := out_any _ 0 _ (by decide) w3 hg3.walks
  rw [places3] at CO
  have HB3 := hidI B3
  clear hg3 B3
  obtain ⟨ua', ucap', he, hc⟩ := hu4
  cases he
  rcases hc with hc | ⟨ub, uo, rfl, hc⟩
  · cases hc
  have c2 := hc 2 (by decide)
  have c2' : Hid _ := c2
  have cbl := World.block_lt_of_cell? w3 _ c2
  clear hc c2 hcx
  go_wp2_with (first | (go_at_call 12; refine Calls.mono CN.out ?_; rintro e w' ⟨rfl, rfl⟩) | (go_at_call 36; refine Calls.mono CM.out ?_; rintro e w' ⟨rfl, rfl⟩) | (go_at_call 37; refine Calls.mono CO.out ?_; rintro e w4 ⟨o, rfl, ho, hb4⟩; refine Hid.out ?_))
  refine hidI ?_
  obtain ⟨oa, ocap, rfl, _⟩ := ho
  have c4 : w4.cell? ⟨ub, uo + 2, none⟩ = some (.int .i64 2) := (hb4.cell (p := ⟨ub, uo + 2, none⟩) cbl).trans c2'.out
  have B4 := hidI (HB3.out.trans (hb4.mono HB3.out.size))
  clear hb4 CN CM CO HB3 c2'
  go_wp2
  go_ret
  exact ⟨rfl, B4.out⟩
end Go.Proofs.Ytbjoljokdjgbnab
/-
  Whether numbers, and edges, are the same: what SameInts and SameEdges come to where they are; arguments as the laws take them.
-/
namespace Go.Proofs.Ytbjoljokdjgbnab
open Go.RowKit Go.Deep Go.ChangeShapes Go.WideShapes Go.ChangeAt
theorem in64 {a : Int} (h : (Lit.int .i64 a).wf = true) : -9223372036854775808 ≤ a ∧ a ≤ 9223372036854775807 := by
  have e1 : IntKind.i64.min = -9223372036854775808 := rfl
  have e2 : IntKind.i64.max = 9223372036854775807 := rfl
  simp only [Lit.wf, e1, e2, Bool.and_eq_true, decide_eq_true_eq] at h
  exact h
set_option maxRecDepth 100000 in
theorem open_edges {H : Type} {enc : TypeId × Value → H} {W : World} {base : Nat} {v : Value} {d : DataW H} {p : List MemPlace} (hv : Value.okWide Try.prog W .any base 22 v)
    (h1 : DataW.Trod enc Try.prog W 0 (fun _ => true) true 22 v d p) : ∃ es : Edges, ArgE W v es ∧ ∀ x ∈ es, Wf x.1 ∧ Wf x.2 := by
  obtain ⟨ad, len, cap, rfl⟩ := okWide_slice Try.underlying22 hv
  obtain ⟨fuel, hf⟩ := h1
  rcases open_slice_pairs Try.underlying22 Try.underlying34 (by kernel_rfl) rfl rfl (by kernel_rfl) (by kernel_rfl) hf with ⟨hcs, _⟩ | ⟨x, l, c, m, n, V0, V1, D0, D1, P0, P1, hcs, _, hl, hm, hmm, _, hx⟩
  · simp [Value.cells] at hcs
    obtain ⟨rfl, rfl, rfl⟩ := hcs
    exact ⟨[], ⟨⟨none, 0, rfl, .inl rfl⟩, none, 0, 0, rfl, Nat.le_refl _, by omega⟩, by simp⟩
  · simp [Value.cells] at hcs
    obtain ⟨rfl, rfl, rfl⟩ := hcs
    have hmc : m = cap := by simpa using hmm
    subst hmc
    have hmx : m ≤ 9223372036854775807 := by unfold maxLen at hm; omega
    have each : ∀ i, i < m → ∃ y : Int × Int, W.cell? (x.add (i * 2)) = some (.int .i64 y.1) ∧ W.cell? (x.add (i * 2 + 1)) = some (.int .i64 y.2) ∧ Wf y.1 ∧ Wf y.2 := by
      intro i hi
      obtain ⟨a1, a2, a3, a4⟩ := hx i hi
      obtain ⟨p0, e0, _, w0⟩ := DataW.trod_int Try.underlying3 a3
      obtain ⟨q0, e1, _, w1⟩ := DataW.trod_int Try.underlying3 a4
      simp at e0 e1
      exact ⟨(p0, q0), by rw [a1, e0], by rw [a2, e1], w0, w1⟩
    obtain ⟨f, hf'⟩ := choose_lt each
    refine ⟨(List.range len).map f, ⟨⟨some x, m, by simp, ?_⟩, some x, len, m, rfl, hl, hmx⟩, fun y hy => ?_⟩
    · by_cases h0 : len = 0
      · left; rw [h0]; rfl
      right
      obtain ⟨b, off, spot⟩ := x
      have hc := (hf' 0 (by omega)).1
      have hspot : spot = none := by simpa [Addr.add] using World.cell?_spot hc
      subst hspot
      refine ⟨b, off, rfl, fun j y hy => ?_⟩
      have hj : j < len := by have := (List.getElem?_eq_some_iff.1 hy).1; simpa using this
      have hfj : y = f j := by rw [List.getElem?_map] at hy; simp [hj] at hy; exact hy.symm
      obtain ⟨b1, b2, _⟩ := hf' j (by omega)
      rw [Addr.add_lit] at b1 b2
      rw [hfj]
      exact ⟨b1, b2⟩
    · obtain ⟨j, hj, rfl⟩ := List.mem_map.1 hy
      obtain ⟨_, _, b3, b4⟩ := hf' j (by have := List.mem_range.1 hj; omega)
      exact ⟨b3, b4⟩
end Go.Proofs.Ytbjoljokdjgbnab
/-
  Small things: rows, and numbers that are set.
-/
namespace Go.Proofs.Ytbjoljokdjgbnab
open Go.RowKit Go.Deep
theorem kept_cell {W W' : World} {row : Option Nat} {p : Addr} {x : Value} (hg : W.grownBy W' row) (hc : W.cell? p = some x) (hne : some p.block ≠ row) : W'.cell? p = some x :=
  (hg.cell_far p (World.block_lt_of_cell? W _ hc) hne).trans hc
theorem getD_set (ls : List Int) (i j : Nat) (z : Int) (hj : j < ls.length) : (ls.set i z).getD j 0 = if i = j then z else ls.getD j 0 := by
  simp only [List.getD, List.getElem?_set]
  by_cases h : i = j
  · subst h; simp [hj]
  · simp [h]
theorem gtrans {W W1 W2 : World} {row : Option Nat} (h : W.grownBy W1 row) (k : W1.grownBy W2 row) : W.grownBy W2 row :=
  ⟨k.1.trans h.1, k.2.trans h.2, k.3.trans h.3, Nat.le_trans h.4 k.4, fun i hi hne => (k.block i (Nat.lt_of_lt_of_le hi h.size) hne).trans (h.block i hi hne)⟩
theorem lstep_nat (k : Int) (L : List Int) (p q : Nat) : lstep k L ((p : Int), (q : Int)) = if L.getD p 0 = k ∧ L.getD q 0 < 0 then L.set q (k + 1) else L := by
  unfold lstep; simp only [Int.toNat_natCast]
theorem levels_length (N : Nat) (es : Edges) (root : Int) : (levels N es root).length = N := by
  unfold levels; split
  · rw [fold_length]; simp
  · simp
theorem make1 (c : Nat) (hc : c ≤ 1000) (W : World) : (Instr.makeSlice 28 (.int .i64 (c : Int)) (.int .i64 (c : Int))).run Try.prog W = .ok (.slice (some ⟨W.heap.size, 0, none⟩) c c) (W.alloc (.cells (madeCells #[.int .i64 0] c) 3)) := by
  obtain ⟨i0, hi, hz0, hz1, hz2⟩ := info_parts Try.info3
  have := run_make (P := Try.prog) W 28 3 i0 (.int .i64 0) Try.underlying28 hi hz0 .i64 .i64 (c : Int) (c : Int) (by omega) (by omega) (by rw [hz2]; omega) (by omega)
  rw [hz1] at this
  simp only [Int.toNat_natCast, Nat.mul_one] at this
  exact this
end Go.Proofs.Ytbjoljokdjgbnab
