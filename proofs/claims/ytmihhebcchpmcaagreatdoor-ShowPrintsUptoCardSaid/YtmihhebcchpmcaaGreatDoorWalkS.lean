/-
  The walk, ranged over.
-/
import Derived.Test.YtmihhebcchpmcaaGreatDoorInto
namespace Go.Proofs.YtmihhebcchpmcaaGreatDoor
open Go.RowKit Go.Shelf
attribute [local go_sem] Oper.semAt_some
/-- Cells that the walk reads. -/
abbrev TW (Tb : Nat → Prop) : Nat → Obj → Prop := fun k o => o.isCells = true ∧ Tb k
theorem not_loop (Tb : Nat → Prop) {D : Nat} : ∀ (k : Nat) (r : Loop), D ≤ k → ¬ TW Tb k (.loop r) := fun _ _ _ h => by cases h.1
/-- The function g with the captured lb tells all, to whatever loop leaves its cells alone; it lays three boxes, and turns them. -/
def SeqW (g : Nat) (lb : Array Value) (Tb : Nat → Prop) (all : List (Int × Int)) (w : World) : Prop :=
  ∀ (l : Nat) (J Jx : List (Int × Int) → World → Prop) (W : World), Below w.heap.size w W → W.heap.size = w.heap.size + 2 → OwnFrom W.heap.size J →
    (∀ pre X u k, w.heap.size + 2 ≤ k → k < w.heap.size + 5 → J pre X → J pre (X.setCell ⟨k, 0, none⟩ u)) →
    (∀ pre x W1, J pre W1 → (pre ++ [x]) <+: all → YieldAt Fence.wide 0 Tryz.prog l (encP x) W1 fun e W' =>
      KeepsFrom W.heap.size W1 W' ∧ ((e = .returned (.bool true) ∧ J (pre ++ [x]) W' ∧ Keeps (TW Tb) W1 W') ∨ (e = .returned (.bool false) ∧ Jx (pre ++ [x]) W'))) →
    J [] W →
    CallsIn Fence.wide 0 Tryz.prog g (#[.func (.yield l) #[] #[]] ++ lb) W fun e W' => (∃ v, e = .returned v) ∧ (J all W' ∨ (∃ pre, Jx pre W'))
set_option maxHeartbeats 1000000 in
/-- THE LOOP. -/
theorem range_walk {g : Operand} {ps : Array Tmp} {assign body : Code} {Q : Exit → Act → World → Prop} {a : Act} {w : World} {gf : Nat} {lb : Array Value} (hg : a.eval g = .func (.func gf) #[] lb)
    (eg : ∀ args w, (callFunc gf args).run Tryz.prog w = .ok (.enter gf args) w) {Tb : Nat → Prop} {all : List (Int × Int)} (hseq : SeqW gf lb Tb all w) (hps : ps.size = 2)
    (I Ix : List (Int × Int) → World → Prop) (hI : OwnFrom w.heap.size I) (hIo : ∀ pre X u k, w.heap.size + 2 ≤ k → k < w.heap.size + 5 → I pre X → I pre (X.setCell ⟨k, 0, none⟩ u)) (hIx : OwnFrom w.heap.size Ix) (h0 : I [] w) (Ax : List (Int × Int) × (Int × Int) × Act → World → Prop) (hAx : OwnFrom w.heap.size Ax)
    (hassign : ∀ (l : Nat) (pre : List (Int × Int)) (x : Int × Int) (W : World) (K : Act → World → Prop), I pre W → (∀ a' W', KeepsFrom w.heap.size W W' → Keeps (TW Tb) W W' → Ax (pre, x, a') W' → K a' W') →
      assign.wpIn (WR l) 0 Tryz.prog (Exit.then K (fun _ _ _ => False)) { tmps := (ps.zip (encP x)).foldl (fun t (p, v) => t.setIfInBounds p v) a.tmps, defers := [] } W)
    (hbody : ∀ (l : Nat) (pre : List (Int × Int)) (x : Int × Int) (a' : Act) (W : World), (pre ++ [x]) <+: all → Ax (pre, x, a') W → body.wpIn (WR l) 0 Tryz.prog (After w.heap.size (TW Tb) I Ix (pre ++ [x]) W) a' W)
    (hdone : ∀ (D : Nat) (xs : List (Int × Int)) (W : World), w.heap.size ≤ D → xs = all → I xs W → W.heap[D]? = some (.deferred (some [])) → Q .normal { a with defers := { target := .collected D, args := #[] } :: a.defers } W)
    (hstop : ∀ (D : Nat) (pre : List (Int × Int)) (W : World), w.heap.size ≤ D → Ix pre W → W.heap[D]? = some (.deferred (some [])) → Code.ret.wpIn Fence.wide 0 Tryz.prog Q { a with defers := { target := .collected D, args := #[] } :: a.defers } W) :
    (Code.rangeFunc g ps assign body).wpIn Fence.wide 0 Tryz.prog Q a w := by
  refine wpIn_rangeFunc fun fn _ => ?_
  obtain ⟨rec, hrec⟩ : ∃ rec : LoopState → Option Code → Loop, rec = fun st pe => { state := st, pending := pe, fn := fn, tmps := a.tmps, params := ps, assign := assign, body := body, defers := w.heap.size } := ⟨_, rfl⟩
  obtain ⟨W1, hW1⟩ : ∃ W1, (w.alloc (.deferred (some []))).alloc (.loop (rec .ready none)) = W1 := ⟨_, rfl⟩
  have hs1 : W1.heap.size = w.heap.size + 2 := by rw [← hW1]; simp
  have hb1 : Books W1 w.heap.size (rec .ready none) := by
    rw [← hW1]
    refine ⟨?_, (Below.heap_alloc _ _ _ (by simp)).trans (World.alloc_heap_new w _)⟩
    have := World.alloc_heap_new (w.alloc (.deferred (some []))) (.loop (rec .ready none))
    rwa [World.size_alloc] at this
  have hi1 : I [] W1 := by rw [← hW1]; exact hI.alloc _ (hI.alloc _ h0)
  have hw1 : Below w.heap.size w W1 := by rw [← hW1]; exact ((Below.refl _ w).alloc (Nat.le_refl _) _).alloc (by simp) _
  refine ⟨w.heap.size + 1, [{ target := .collected w.heap.size, args := #[] }], W1, { target := .fn (.func gf) lb, args := #[.func (.yield (w.heap.size + 1)) #[] #[]] }, W1, gf,
    #[.func (.yield (w.heap.size + 1)) #[] #[]] ++ lb, W1, ?_, ?_, fun _ _ => trivial, ?_, fun hd => (by cases hd), ?_⟩
  · rw [← hW1, hrec]; exact run_enterLoop_outer _ _ _ _ _
  · simp only [resolve, hg]
    simp [go_sem]
  · simp [invoke, go_sem, eg]
  refine (hseq (w.heap.size + 1) (fun pre W => I pre W ∧ Books W w.heap.size (rec .ready none)) (fun pre W => Ix pre W ∧ Books W w.heap.size (rec .done (some .ret))) W1 hw1 hs1 ?own1 ?own2 ?round ⟨hi1, hb1⟩).mono ?_
  case own1 =>
    rintro s X Y row ⟨hs, hb⟩ hg' hr
    refine ⟨hI s X Y row hs hg' fun r e => ⟨by have := (hr r e).1; omega, (hr r e).2⟩, hb.grown (B := W1.heap.size) hg' (by omega) fun k e => (hr k e).1⟩
  case own2 =>
    rintro pre X u k hk1 hk2 ⟨hs, hb⟩
    refine ⟨hIo pre X u k hk1 hk2 hs, ?_, ?_⟩
    · exact (Below.heap_setCell X ⟨k, 0, none⟩ u (w.heap.size + 1) (by simp; omega)).trans hb.1
    · exact (Below.heap_setCell X ⟨k, 0, none⟩ u w.heap.size (by simp; omega)).trans hb.2
  case round =>
    rintro pre x W ⟨hi, hb⟩ hlen
    have hy := run_yield (P := Tryz.prog) (args := encP x) hb.1 (by rw [hrec]; exact hps.symm)
    rw [hrec] at hy
    refine ⟨fn, _, assign, body, hy, roundIn_of_wpIn trivial (hassign _ pre x W _ hi ?_)⟩
    intro a' W' hk1 hbl1 hax
    have hb' := hb.keeps hk1
    refine ⟨_, run_beginRound hb'.1 (by rw [hrec]), ?_⟩
    obtain ⟨r2, hr2⟩ : ∃ r2, r2 = ({ rec .ready none with state := .busy } : Loop) := ⟨_, rfl⟩
    rw [← hr2]
    have hb2 : Books _ _ r2 := hb'.put r2
    have hax2 := hAx.putObj (.loop r2) hax (by omega) hb'.1 rfl
    have hbl2 : Keeps (TW Tb) W (W'.putObj (w.heap.size + 1) (.loop r2)) := hbl1.trans (keeps_put (not_loop Tb) hb' _)
    have hkf2 : KeepsFrom W1.heap.size W (W'.putObj (w.heap.size + 1) (.loop r2)) := by rw [hs1]; exact (from_mono hk1 (by omega)).trans (from_put _ _ _)
    refine wpIn_mono (hbody _ pre x a' _ hlen hax2) ?_
    intro e a3 W3 hp
    cases e with
    | normal =>
      obtain ⟨hk3, hbl3, hi3⟩ := hp
      have hb3 := hb2.keeps hk3
      refine ⟨_, _, run_endRound none hb3.1, hkf2.trans ((from_mono hk3 (by omega)).trans (by rw [hs1]; exact from_put _ _ _)), .inl ⟨rfl, ⟨hI.putObj _ hi3 (by omega) hb3.1 rfl, ?_⟩, hbl2.trans (hbl3.trans (keeps_put (not_loop Tb) hb3 _))⟩⟩
      have := hb3.put { r2 with state := .ready, pending := none }
      rw [hr2, hrec] at this ⊢
      exact this
    | ret =>
      obtain ⟨hk3, hi3⟩ := hp
      have hb3 := hb2.keeps hk3
      refine ⟨_, _, run_endRound (some .ret) hb3.1, hkf2.trans ((from_mono hk3 (by omega)).trans (by rw [hs1]; exact from_put _ _ _)), .inr ⟨rfl, hIx.putObj _ hi3 (by omega) hb3.1 rfl, ?_⟩⟩
      have := hb3.put { r2 with state := .done, pending := some .ret }
      rw [hr2, hrec] at this ⊢
      exact this
    | _ => exact hp.elim
  rintro e W2 ⟨⟨v, rfl⟩, ⟨hi, hb⟩ | ⟨pre, hi, hb⟩⟩
  · refine ⟨_, _, run_endLoop hb.1 (by rw [hrec]; simp), ?_⟩
    rw [hrec]
    exact hdone _ all _ (Nat.le_refl _) rfl (hI.putObj _ hi (by omega) hb.1 rfl) (hb.put _).2
  · refine ⟨_, _, run_endLoop hb.1 (by rw [hrec]; simp), ?_⟩
    rw [hrec]
    exact hstop _ pre _ (Nat.le_refl _) (hIx.putObj _ hi (by omega) hb.1 rfl) (hb.put _).2
end Go.Proofs.YtmihhebcchpmcaaGreatDoor
/-
  What walk hands back tells the places, as they are gone through.
-/
namespace Go.Proofs.YtmihhebcchpmcaaGreatDoor
open Go.RowKit Go.Deep Go.MapKept
@[go_sem] theorem store_func (P : Program) (w : World) (a : Addr) (m : Mode) (fn : Fn) (xs ys : Array Value) : (store a (.func fn xs ys) m).run P w = stored P w a (.func fn xs ys) m := run_store P w a _ m rfl
theorem walk_any (fa ta : Option Addr) (fn fc tn tc : Nat) (w : World) : Calls Tryz.prog 35 #[.slice fa fn fc, .slice ta tn tc] w fun e w' =>
    e = .returned (.func (.func 54) #[] #[.pointer (some ⟨w.heap.size, 0, none⟩), .pointer (some ⟨w.heap.size + 1, 0, none⟩)]) ∧ (w.alloc (.cells #[.slice fa fn fc] 22)).alloc (.cells #[.slice ta tn tc] 23) = w' := by
  have hmf : ∀ (fn : Fn) (first cap : Array Value) (w : World), (Instr.makeFunc fn first cap).run Tryz.prog w = .ok (.func fn first cap) w := fun _ _ _ _ => rfl
  go_enter Tryz.func35, Tryz.ntmps35
  go_wp2
  go_ret
  exact ⟨rfl, rfl⟩
/-- The blocks that a walk reads: all that were there, but some; and its own boxes. -/
def WB (X : Nat → Prop) (n : Nat) (k : Nat) : Prop := ¬ X k ∧ k < n + 5
theorem sees_lt {w : World} {v : Value} {n size : Nat} {cs : List Value} (h : SeesC w v n size cs) (hs : 0 < size) (hn : 0 < n) : ∀ k, v.ownBlock = some k → k < w.heap.size := by
  obtain ⟨hl, a, cap, rfl, h⟩ := h
  rcases h with h | ⟨b, off, rfl, h⟩
  · omega
  · intro k hk
    cases hk
    have : 0 < cs.length := by rw [hl]; exact Nat.mul_pos hn hs
    exact World.block_lt_of_cell? w _ (h 0 _ (List.getElem?_eq_getElem this))
set_option maxHeartbeats 2000000 in
theorem walk_seq (fv tv : Value) (ms : List MV) (top : List Int) (Bl Bt : Nat) (X : Nat → Prop) (w : World) (hfl : w.cell? ⟨Bl, 0, none⟩ = some fv) (htl : w.cell? ⟨Bt, 0, none⟩ = some tv) (hsm : SeesM w fv ms) (htp : SeesC w tv top.length 1 (intsI top))
    (hXl : ¬ X Bl) (hXn : ∀ k, w.heap.size ≤ k → ¬ X k) (hX : ∀ v n, DV fv tv ms top v n → 0 < n → ∀ k, v.ownBlock = some k → ¬ X k)
    (hkl : ∀ x ∈ ms, x.1.kids.length ≤ 4611686018427387904) (htn : top.length ≤ 4611686018427387904) (hml : ms.length ≤ 4611686018427387904)
    {t' : Int} {all : List (Int × Int)} {ok : Bool} (hW : WalkR (kidsOf ms) ms.length 0 (-1) (-1) top t' all ok) :
    SeqW 54 #[.pointer (some ⟨Bl, 0, none⟩), .pointer (some ⟨Bt, 0, none⟩)] (WB X w.heap.size) all w := by
  intro l J Jx W hBW hsz hJ hJo hY h0
  have hmf : ∀ (fn : Fn) (first cap : Array Value) (w : World), (Instr.makeFunc fn first cap).run Tryz.prog w = .ok (.func fn first cap) w := fun _ _ _ _ => rfl
  have hBll : Bl < w.heap.size := World.block_lt_of_cell? w _ hfl
  have hBtl : Bt < w.heap.size := World.block_lt_of_cell? w _ htl
  have hlow : ∀ v n, DV fv tv ms top v n → 0 < n → ∀ k, v.ownBlock = some k → k < w.heap.size := by
    rintro v n (⟨rfl, rfl⟩ | ⟨rfl, rfl⟩ | ⟨x, hx, rfl, rfl⟩) hn
    · exact sees_lt hsm.row (by decide) hn
    · exact sees_lt htp (by decide) hn
    · obtain ⟨i, hi⟩ := List.getElem?_of_mem hx
      exact sees_lt (hsm.kid i x hi) (by decide) hn
  have cl : W.cell? ⟨Bl, 0, none⟩ = some fv := (hBW.cell (p := ⟨Bl, 0, none⟩) hBll).trans hfl
  have ct : W.cell? ⟨Bt, 0, none⟩ = some tv := (hBW.cell (p := ⟨Bt, 0, none⟩) hBtl).trans htl
  obtain ⟨W3, hW3⟩ : ∃ W3, ((W.alloc (.cells #[.func (.yield l) #[] #[]] 78)).alloc (.cells #[.int .i64 0] 3)).alloc (.cells #[fn48 Bl (W.heap.size + 1) W.heap.size (W.heap.size + 1 + 1)] 79) = W3 := ⟨_, rfl⟩
  have hB3 : Below W.heap.size W W3 := by rw [← hW3]; (repeat (first | exact Below.refl _ _ | assumption | refine Below.drew ?_ | refine Below.alloc ?_ (by first | omega | (simp; done) | (simp; omega)) _ | refine Below.setCell ?_ (by first | omega | (simp; done) | (simp; omega)) _))
  have hBw : Below w.heap.size w W3 := hBW.trans (hB3.mono hBW.size)
  have hE : Env fv tv ms top l Bl (W.heap.size + 1) W.heap.size (W.heap.size + 1 + 1) W3 0 := by
    refine ⟨(hBw.cell (p := ⟨Bl, 0, none⟩) hBll).trans hfl, hsm.below hBw (Nat.le_refl _), htp.below hBw (Nat.le_refl _), ?_, ?_, ?_, ?_⟩ <;> rw [← hW3] <;> go_simp
  have hJ3 : J [] W3 := by rw [← hW3]; exact hJ.alloc _ (hJ.alloc _ (hJ.alloc _ h0))
  have HI := hidI (into_any fv tv ms top l Bl (W.heap.size + 1) W.heap.size (W.heap.size + 1 + 1) W.heap.size (WB X w.heap.size) (by
      rintro k (rfl | rfl | rfl | rfl | ⟨v, n, hv, hn, e⟩)
      · exact ⟨hXl, by omega⟩
      · exact ⟨hXn _ (by omega), by omega⟩
      · exact ⟨hXn _ (by omega), by omega⟩
      · exact ⟨hXn _ (by omega), by omega⟩
      · exact ⟨hX v n hv hn k e, by have := hlow v n hv hn k e; omega⟩)
    (by omega) (by omega) (by omega) (fun v n hv hn e => by have := hlow v n hv hn _ e; omega) hkl htn hml J Jx (fun pre Y h => hJ pre Y _ none h ⟨rfl, rfl, rfl, Nat.le_refl _, fun _ _ _ => rfl⟩ (fun _ e => by cases e)) (fun pre Y u h => hJo pre Y u _ (by omega) (by omega) h) all hY
    (((ms.length : Int) - (-1)).toNat + 1) (-1) (-1) 0 tv top t' all ok [] W3 (by omega) (by omega) (by omega) (by omega) hW (.inl ⟨rfl, rfl⟩) ⟨[], by simp⟩ hJ3 hE)
  have it3 := hE.it
  have ct3 : W3.cell? ⟨Bt, 0, none⟩ = some tv := (hBw.cell (p := ⟨Bt, 0, none⟩) hBtl).trans htl
  obtain ⟨_, ta, tc, rfl, _⟩ := htp
  clear hsz hB3 hBw hBW hY hJ hJo hJ3 hE hX hXn hXl hkl hlow hfl htl hsm h0 hW
  refine callsIn_of_wp Tryz.func54 rfl trivial ?_ rfl
  simp only [Tryz.ntmps54, List.size_toArray, List.length_cons, List.length_nil, Nat.reduceAdd, Nat.reduceSub, Array.replicate_succ, Array.replicate_zero, List.push_toArray, List.append_toArray, List.nil_append, List.cons_append]
  gi_wp2_with (refine ⟨trivial, rfl, ?_⟩; gi_at_call 55; refine HI.out.mono ?_; rintro e W9 ⟨bb, rfl, hres⟩)
  go_end0
  refine ⟨⟨_, rfl⟩, ?_⟩
  rcases hres with ⟨_, hJ9, _⟩ | ⟨_, hx⟩
  · exact .inl (by simpa using hJ9)
  · exact .inr hx
end Go.Proofs.YtmihhebcchpmcaaGreatDoor
