/-
  A loop over a function that itself loops over a function: what such a function promises, and what the loop over it comes to.
-/
import Derived.Test.YtmihhebcchpmcaaGreatDoorSeqs
namespace Go.Proofs.YtmihhebcchpmcaaGreatDoor
open Go.RowKit Go.Shelf
/-- How a body may be left: it goes on, or returns. -/
def After {α : Type} (B : Nat) (T : Nat → Obj → Prop) (I Ix : List α → World → Prop) (xs : List α) (W : World) : Exit → Act → World → Prop
  | .normal, _, W' => KeepsFrom B W W' ∧ Keeps T W W' ∧ I xs W'
  | .ret, _, W' => KeepsFrom B W W' ∧ Ix xs W'
  | _, _, _ => False
/-- The loop's own books: its record, and the block for what is put off. -/
def Books (W : World) (D : Nat) (r : Loop) : Prop := W.heap[D + 1]? = some (.loop r) ∧ W.heap[D]? = some (.deferred (some []))
theorem Books.lt {W : World} {D : Nat} {r : Loop} (h : Books W D r) : D + 1 < W.heap.size := (Array.getElem?_eq_some_iff.1 h.1).1
theorem Books.put {W : World} {D : Nat} {r : Loop} (r' : Loop) (h : Books W D r) : Books (W.putObj (D + 1) (.loop r')) D r' :=
  ⟨World.putObj_heap_same h.lt, (World.putObj_heap_other (by omega)).trans h.2⟩
theorem Books.keeps {W W' : World} {D : Nat} {r : Loop} (h : Books W D r) (k : KeepsFrom D W W') : Books W' D r :=
  ⟨k.same _ _ (by omega) h.1 rfl, k.same _ _ (Nat.le_refl _) h.2 rfl⟩
theorem Books.grown {W W' : World} {D B : Nat} {r : Loop} {row : Option Nat} (h : Books W D r) (hg : W.grownBy W' row) (hB : D + 2 ≤ B) (hr : ∀ k, row = some k → B ≤ k) : Books W' D r := by
  have hl := h.lt
  refine ⟨(hg.block (D + 1) hl fun e => ?_).trans h.1, (hg.block D (by omega) fun e => ?_).trans h.2⟩
  · have := hr _ e.symm; omega
  · have := hr _ e.symm; omega
theorem keeps_put {T : Nat → Obj → Prop} {D : Nat} {W : World} {r : Loop} (hT : ∀ k r, D ≤ k → ¬ T k (.loop r)) (h : Books W D r) (o : Obj) : Keeps T W (W.putObj (D + 1) o) :=
  Keeps.grown (grownBy_putObj' W (D + 1) o) fun k o' e hk => by cases e; rw [h.1] at hk; cases hk; exact hT _ _ (by omega)
theorem from_put (D : Nat) (W : World) (o : Obj) : KeepsFrom (D + 2) W (W.putObj (D + 1) o) := KeepsFrom.of_grownBy (grownBy_putObj' W (D + 1) o) fun j e => by cases e; omega
theorem from_mono {B B' : Nat} {W W' : World} (h : KeepsFrom B W W') (hB : B ≤ B') : KeepsFrom B' W W' := ⟨h.size, fun k o hk => h.same k o (by omega)⟩
set_option maxHeartbeats 1000000 in
/-- THE LOOP. -/
theorem range_law {α : Type} {g : Operand} {ps : Array Tmp} {assign body : Code} {Q : Exit → Act → World → Prop} {a : Act} {w : World} {gf : Nat} {lb : Array Value} (hg : a.eval g = .func (.func gf) #[] lb)
    (eg : ∀ args w, (callFunc gf args).run Tryz.prog w = .ok (.enter gf args) w) {encs : α → Array Value} {T : Nat → Obj → Prop} {R : List α → α → Prop} {S : List α → Prop} (hT : ∀ k r, w.heap.size ≤ k → ¬ T k (.loop r)) (hseq : Seq gf lb encs T S R w) (hps : ∀ x, (encs x).size = ps.size)
    (I Ix : List α → World → Prop) (hI : OwnFrom w.heap.size I) (hIx : OwnFrom w.heap.size Ix) (h0 : I [] w) (Ax : List α × α × Act → World → Prop) (hAx : OwnFrom w.heap.size Ax)
    (hassign : ∀ (l : Nat) (pre : List α) (x : α) (W : World) (K : Act → World → Prop), I pre W → (∀ a' W', KeepsFrom w.heap.size W W' → Keeps T W W' → Ax (pre, x, a') W' → K a' W') →
      assign.wpIn (WR l) 0 Tryz.prog (Exit.then K (fun _ _ _ => False)) { tmps := (ps.zip (encs x)).foldl (fun t (p, v) => t.setIfInBounds p v) a.tmps, defers := [] } W)
    (hbody : ∀ (l : Nat) (pre : List α) (x : α) (a' : Act) (W : World), R pre x → Ax (pre, x, a') W → body.wpIn (WR l) 0 Tryz.prog (After w.heap.size T I Ix (pre ++ [x]) W) a' W)
    (hdone : ∀ (D : Nat) (xs : List α) (W : World), w.heap.size ≤ D → S xs → I xs W → W.heap[D]? = some (.deferred (some [])) → Q .normal { a with defers := { target := .collected D, args := #[] } :: a.defers } W)
    (hstop : ∀ (D : Nat) (pre : List α) (W : World), w.heap.size ≤ D → Ix pre W → W.heap[D]? = some (.deferred (some [])) → Code.ret.wpIn Fence.wide 0 Tryz.prog Q { a with defers := { target := .collected D, args := #[] } :: a.defers } W) :
    (Code.rangeFunc g ps assign body).wpIn Fence.wide 0 Tryz.prog Q a w := by
  refine wpIn_rangeFunc fun fn _ => ?_
  obtain ⟨rec, hrec⟩ : ∃ rec : LoopState → Option Code → Loop, rec = fun st pe => { state := st, pending := pe, fn := fn, tmps := a.tmps, params := ps, assign := assign, body := body, defers := w.heap.size } := ⟨_, rfl⟩
  obtain ⟨W1, hW1⟩ : ∃ W1, (w.alloc (.deferred (some []))).alloc (.loop (rec .ready none)) = W1 := ⟨_, rfl⟩
  have hs1 : W1.heap.size = w.heap.size + 2 := by rw [← hW1]; simp
  have hb1 : Books W1 w.heap.size (rec .ready none) := by
    rw [← hW1]
    refine ⟨?_, (Below.heap_alloc _ _ _ (by simp)).trans (World.alloc_heap_new w _)⟩
    have := World.alloc_heap_new (w.alloc (.deferred (some []))) (.loop (rec .ready none))
    rwa [World.size_alloc] at this
  have hi1 : I [] W1 := by rw [← hW1]; exact hI.alloc _ (hI.alloc _ h0)
  have hw1 : Below w.heap.size w W1 := by rw [← hW1]; exact ((Below.refl _ w).alloc (Nat.le_refl _) _).alloc (by simp) _
  refine ⟨w.heap.size + 1, [{ target := .collected w.heap.size, args := #[] }], W1, { target := .fn (.func gf) lb, args := #[.func (.yield (w.heap.size + 1)) #[] #[]] }, W1, gf,
    #[.func (.yield (w.heap.size + 1)) #[] #[]] ++ lb, W1, ?_, ?_, fun _ _ => trivial, ?_, fun hd => (by cases hd), ?_⟩
  · rw [← hW1, hrec]; exact run_enterLoop_outer _ _ _ _ _
  · simp only [resolve, hg]
    simp [go_sem]
  · simp [invoke, go_sem, eg]
  refine (hseq (w.heap.size + 1) (fun pre W => I pre W ∧ Books W w.heap.size (rec .ready none)) (fun pre W => Ix pre W ∧ Books W w.heap.size (rec .done (some .ret))) W1 hw1 ?own1 ?own2 ?round ⟨hi1, hb1⟩).mono ?_
  case own1 =>
    rintro s X Y row ⟨hs, hb⟩ hg' hr
    refine ⟨hI s X Y row hs hg' fun r e => ⟨by have := (hr r e).1; omega, (hr r e).2⟩, hb.grown (B := W1.heap.size) hg' (by omega) fun k e => (hr k e).1⟩
  case own2 =>
    rintro s X Y row ⟨hs, hb⟩ hg' hr
    refine ⟨hIx s X Y row hs hg' fun r e => ⟨by have := (hr r e).1; omega, (hr r e).2⟩, hb.grown (B := W1.heap.size) hg' (by omega) fun k e => (hr k e).1⟩
  case round =>
    rintro pre x W ⟨hi, hb⟩ hlen
    have hy := run_yield (P := Tryz.prog) (args := encs x) hb.1 (by rw [hrec]; exact hps x)
    rw [hrec] at hy
    refine ⟨fn, _, assign, body, hy, roundIn_of_wpIn trivial (hassign _ pre x W _ hi ?_)⟩
    intro a' W' hk1 hbl1 hax
    have hb' := hb.keeps hk1
    refine ⟨_, run_beginRound hb'.1 (by rw [hrec]), ?_⟩
    obtain ⟨r2, hr2⟩ : ∃ r2, r2 = ({ rec .ready none with state := .busy } : Loop) := ⟨_, rfl⟩
    rw [← hr2]
    have hb2 : Books _ _ r2 := hb'.put r2
    have hax2 := hAx.putObj (.loop r2) hax (by omega) hb'.1 rfl
    have hbl2 : Keeps T W (W'.putObj (w.heap.size + 1) (.loop r2)) := hbl1.trans (keeps_put hT hb' _)
    have hkf2 : KeepsFrom W1.heap.size W (W'.putObj (w.heap.size + 1) (.loop r2)) := by rw [hs1]; exact (from_mono hk1 (by omega)).trans (from_put _ _ _)
    refine wpIn_mono (hbody _ pre x a' _ hlen hax2) ?_
    intro e a3 W3 hp
    cases e with
    | normal =>
      obtain ⟨hk3, hbl3, hi3⟩ := hp
      have hb3 := hb2.keeps hk3
      refine ⟨_, _, run_endRound none hb3.1, hkf2.trans ((from_mono hk3 (by omega)).trans (by rw [hs1]; exact from_put _ _ _)), .inl ⟨rfl, ⟨hI.putObj _ hi3 (by omega) hb3.1 rfl, ?_⟩, hbl2.trans (hbl3.trans (keeps_put hT hb3 _))⟩⟩
      have := hb3.put { r2 with state := .ready, pending := none }
      rw [hr2, hrec] at this ⊢
      exact this
    | ret =>
      obtain ⟨hk3, hi3⟩ := hp
      have hb3 := hb2.keeps hk3
      refine ⟨_, _, run_endRound (some .ret) hb3.1, hkf2.trans ((from_mono hk3 (by omega)).trans (by rw [hs1]; exact from_put _ _ _)), .inr ⟨rfl, hIx.putObj _ hi3 (by omega) hb3.1 rfl, ?_⟩⟩
      have := hb3.put { r2 with state := .done, pending := some .ret }
      rw [hr2, hrec] at this ⊢
      exact this
    | _ => exact hp.elim
  rintro e W2 ⟨⟨v, rfl⟩, ⟨xs, hS, hi, hb⟩ | ⟨pre, hi, hb⟩⟩
  · refine ⟨_, _, run_endLoop hb.1 (by rw [hrec]; simp), ?_⟩
    rw [hrec]
    exact hdone _ xs _ (Nat.le_refl _) hS (hI.putObj _ hi (by omega) hb.1 rfl) (hb.put _).2
  · refine ⟨_, _, run_endLoop hb.1 (by rw [hrec]; simp), ?_⟩
    rw [hrec]
    exact hstop _ pre _ (Nat.le_refl _) (hIx.putObj _ hi (by omega) hb.1 rfl) (hb.put _).2
end Go.Proofs.YtmihhebcchpmcaaGreatDoor
