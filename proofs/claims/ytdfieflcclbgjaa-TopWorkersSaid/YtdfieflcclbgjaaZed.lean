/-
  Orders of a region whose last operation may change what others have loaded: a condition that need not hold behind that one.
-/
import Derived.Test.YtdfieflcclbgjaaProg
import Derived.OrdersHeld
import Derived.Deep.RegionHeld3
namespace Go.Proofs.Ytdfieflcclbgjaa
open Go
section
variable {P : Program} {ops : Array Oper} {Q : Exit → Act → World → Prop} {md : Region.Mode} {S : World → Prop} {z : Nat}
/-- Whatever comes up next, till nothing is left; S behind all but z. -/
def wpZ (P : Program) (md : Region.Mode) (ops : Array Oper) (Q : Exit → Act → World → Prop) (S : World → Prop) (z : Nat) : Nat → Array Bool → Act → World → Prop
  | 0 => fun l a w => Region.ready md ops l = [] ∧ Q .normal a w
  | n + 1 => fun l a w => (Region.ready md ops l = [] → Q .normal a w) ∧ ∀ i ∈ Region.ready md ops l, wpOp P ops Q i (fun b v => (i ≠ z → S v) ∧ wpZ P md ops Q S z n (l.setIfInBounds i true) b v) a w
theorem wpZ_any : ∀ (n : Nat) (l : Array Bool) (a : Act) (w : World), wpZ P md ops Q S z n l a w → wpAny P md ops Q n l a w := by
  intro n
  induction n with
  | zero => exact fun _ _ _ h => h
  | succ n ih => exact fun l a w h => ⟨h.1, fun i hi => wpOp_mono (fun b v hb => ih _ b v hb.2) (h.2 i hi)⟩
/-- D: what waits for i, z among it. -/
structure Behind (md : Region.Mode) (ops : Array Oper) (i z : Nat) (D : List Nat) : Prop where
  has : z ∈ D
  free : i ∉ D
  waits : ∀ d ∈ D, ∃ o, ops[d]? = some o ∧ ∃ e ∈ o.after, Region.binds md e = true ∧ (e.on = i ∨ e.on ∈ D)
theorem not_both {l : Array Bool} {j : Nat} (h0 : l.getD j true = false) (h1 : l.getD j false = true) : False := by
  rcases Nat.lt_or_ge j l.size with h | h
  · simp [h] at h0 h1; rw [h0] at h1; cases h1
  · simp [h] at h0
theorem wpZ_first {i : Nat} {o : Oper} {v : Value} {D : List Nat} (hi : ops[i]? = some o) (hsel : Region.noSelect ops = true) (hD : Behind md ops i z D) (hQ : ∀ c a w, Q (.panic c) (a.put o.dst v) w → Q (.panic c) a w) :
    ∀ (n : Nat) (l : Array Bool) (a : Act) (w : World), (∀ j oj, ops[j]? = some oj → j ≠ i → l.getD j true = false → (∀ e ∈ oj.after, Region.binds md e = true → e.on ≠ i) → o.apart ops oj = true) →
      i ∈ Region.ready md ops l → (∀ d ∈ D, l.getD d true = false) → YieldsIf P ops S o v a → S w → wpZ P md ops Q S z n (l.setIfInBounds i true) (a.put o.dst v) w → wpZ P md ops Q S z (n + 1) l a w := by
  intro n
  induction n with
  | zero =>
    intro l a w _ hr _ hy hS H
    refine ⟨fun e => absurd (e ▸ hr) (by simp), fun j hj => ?_⟩
    by_cases hji : j = i
    · subst hji
      exact hy.wpOp hi hS ⟨fun _ => hS, H⟩
    · have := ready_mono hj hji
      rw [H.1] at this
      simp at this
  | succ n ih =>
    intro l a w hap hr hl hy hS H
    refine ⟨fun e => absurd (e ▸ hr) (by simp), fun j hj => ?_⟩
    by_cases hji : j = i
    · subst hji
      exact hy.wpOp hi hS ⟨fun _ => hS, H⟩
    · obtain ⟨hun, oj, hoj, hall⟩ := mem_ready.1 hj
      have hri := (mem_ready.1 hr).1
      have hjD : j ∉ D := fun hm => by
        obtain ⟨o', ho', e, he, hb, hon⟩ := hD.waits j hm
        obtain rfl : oj = o' := by rw [hoj] at ho'; exact Option.some.inj ho'
        rcases hon with hon | hon
        · exact not_both hri (hon ▸ hall e he hb)
        · exact not_both (hl _ hon) (hall e he hb)
      have hjz : j ≠ z := fun e => hjD (e ▸ hD.has)
      have hstep := wpOp_putIf hoj (hap j oj hoj hji hun fun e he hb hon => not_both hri (hon ▸ hall e he hb)) (fun cs b => Region.noSelect_spec hsel i o cs b hi) (fun cs b => Region.noSelect_spec hsel j oj cs b hoj) hQ hy (H.2 j (ready_mono hj hji))
      refine wpOp_mono (fun b u hb => ?_) hstep
      obtain ⟨hyb, hSu, hrest⟩ := hb
      refine ⟨hSu, ih _ b u (fun k ok hok hki hkun hno => hap k ok hok hki ?_ hno) (ready_mono hr (Ne.symm hji)) (fun d hd => ?_) hyb (hSu hjz) ?_⟩
      · by_cases hjk : j = k
        · exact hjk ▸ hun
        · rwa [getD_set_ne true hjk] at hkun
      · rw [getD_set_ne true (fun e : j = d => hjD (by rw [e]; exact hd))]
        exact hl d hd
      · rwa [Array.setIfInBounds_comm _ _ hji]
def behindB (md : Region.Mode) (ops : Array Oper) (l : Array Bool) (i z : Nat) (D : List Nat) : Bool :=
  D.contains z && !D.contains i && D.all fun d => !(l.getD d true) && match ops[d]? with | some o => o.after.any fun e => Region.binds md e && (e.on == i || D.contains e.on) | none => false
theorem wpZ_take {i : Nat} {o : Oper} {v : Value} {n : Nat} {l : Array Bool} {a : Act} {w : World} (D : List Nat) (hi : ops[i]? = some o) (hsel : Region.noSelect ops = true) (hf : Region.free md ops l i = true) (hr : (Region.ready md ops l).contains i = true) (hD : behindB md ops l i z D = true)
    (hQ : ∀ c a w, Q (.panic c) (a.put o.dst v) w → Q (.panic c) a w) (hy : YieldsIf P ops S o v a) (hS : S w) (h : wpZ P md ops Q S z n (l.setIfInBounds i true) (a.put o.dst v) w) : wpZ P md ops Q S z (n + 1) l a w := by
  simp only [behindB, Bool.and_eq_true, List.all_eq_true, Bool.not_eq_true', List.contains_iff_mem] at hD
  obtain ⟨⟨h1, h2⟩, h3⟩ := hD
  refine wpZ_first (D := D) hi hsel ⟨h1, by simpa using h2, fun d hd => ?_⟩ hQ n l a w (Region.free_spec hi hf) (by simpa using hr) (fun d hd => (h3 d hd).1) hy hS h
  have := (h3 d hd).2
  cases ho : ops[d]? with
  | none => rw [ho] at this; simp at this
  | some o' =>
    rw [ho] at this
    obtain ⟨e, he, hb⟩ := Array.any_eq_true'.1 this
    simp only [Bool.and_eq_true, Bool.or_eq_true, beq_iff_eq, List.contains_iff_mem] at hb
    exact ⟨o', rfl, e, he, hb.1, hb.2⟩
theorem wpZ_all {rs : List Nat} {n : Nat} {l : Array Bool} {a : Act} {w : World} (hr : Region.ready md ops l = rs) (hne : rs ≠ []) (h : ∀ i ∈ rs, wpOp P ops Q i (fun b v => (i ≠ z → S v) ∧ wpZ P md ops Q S z n (l.setIfInBounds i true) b v) a w) : wpZ P md ops Q S z (n + 1) l a w := by
  subst hr
  exact ⟨fun e => absurd e hne, h⟩
theorem wpZ_done {l : Array Bool} {a : Act} {w : World} (hr : Region.ready md ops l = []) (h : Q .normal a w) (n : Nat) : wpZ P md ops Q S z n l a w := by
  cases n with
  | zero => exact ⟨hr, h⟩
  | succ n => exact ⟨fun _ => h, by simp [hr]⟩
theorem wpZ_last {l : Array Bool} {a : Act} {w : World} (hr : Region.ready md ops l = [z]) (hd : Region.ready md ops (l.setIfInBounds z true) = []) (h : wpOp P ops Q z (fun b v => Q .normal b v) a w) (n : Nat) : wpZ P md ops Q S z (n + 1) l a w :=
  wpZ_all hr (by simp) fun i hi => by
    obtain rfl : i = z := by simpa using hi
    exact wpOp_mono (fun b v hb => ⟨fun e => absurd rfl e, wpZ_done hd hb _⟩) h
theorem wpOp_go {i : Nat} {o : Oper} {K : Act → World → Prop} {a : Act} {w : World} (ho : ops[i]? = some o) (hg : o.guard = none) (h : ∀ K' : Act → World → Prop, (∀ a w, K a w → K' a w) → Oper.wp P o a w K' Q) : wpOp P ops Q i K a w := by
  refine wpOp_step ho fun K' hK => ?_
  rw [if_pos (by unfold Region.wanted; rw [hg])]
  exact h K' hK
theorem wp_region_Z {id : Nat} {a : Act} {w : World} (S : World → Prop) (z : Nat) (hm : P.follows .mixedOrders = true) (h : wpZ P .any ops Q S z ops.size (Array.replicate ops.size false) a w.drew) : (Code.region id ops true).wp P Q a w :=
  wp_region_any hm (wpZ_any _ _ _ _ h)
end
end Go.Proofs.Ytdfieflcclbgjaa
