/-
  Orders of a region some of whose operations may change what others have loaded: a condition that need not hold behind those.
-/
import Derived.Test.YtmihhebcchpmcaaGreatDoorProg
import Derived.OrdersHeld
import Derived.Deep.RegionHeld3
import Derived.Test.YtmihhebcchpmcaaGreatDoorSeqs
namespace Go.Proofs.YtmihhebcchpmcaaGreatDoor
open Go
section
variable {P : Program} {ops : Array Oper} {Q : Exit → Act → World → Prop} {md : Region.Mode} {S : World → Prop} {Z : List Nat}
/-- Whatever comes up next, till nothing is left; S behind all but z. -/
def wpY (P : Program) (md : Region.Mode) (ops : Array Oper) (Q : Exit → Act → World → Prop) (S : World → Prop) (Z : List Nat) : Nat → Array Bool → Act → World → Prop
  | 0 => fun l a w => Region.ready md ops l = [] ∧ Q .normal a w
  | n + 1 => fun l a w => (Region.ready md ops l = [] → Q .normal a w) ∧ ∀ i ∈ Region.ready md ops l, wpOp P ops Q i (fun b v => (i ∉ Z → S v) ∧ wpY P md ops Q S Z n (l.setIfInBounds i true) b v) a w
theorem wpY_any : ∀ (n : Nat) (l : Array Bool) (a : Act) (w : World), wpY P md ops Q S Z n l a w → wpAny P md ops Q n l a w := by
  intro n
  induction n with
  | zero => exact fun _ _ _ h => h
  | succ n ih => exact fun l a w h => ⟨h.1, fun i hi => wpOp_mono (fun b v hb => ih _ b v hb.2) (h.2 i hi)⟩
/-- D: what waits for i, z among it. -/
structure BehindY (md : Region.Mode) (ops : Array Oper) (i : Nat) (Z D : List Nat) : Prop where
  has : ∀ z ∈ Z, z ∈ D
  free : i ∉ D
  waits : ∀ d ∈ D, ∃ o, ops[d]? = some o ∧ ∃ e ∈ o.after, Region.binds md e = true ∧ (e.on = i ∨ e.on ∈ D)
theorem not_bothY {l : Array Bool} {j : Nat} (h0 : l.getD j true = false) (h1 : l.getD j false = true) : False := by
  rcases Nat.lt_or_ge j l.size with h | h
  · simp [h] at h0 h1; rw [h0] at h1; cases h1
  · simp [h] at h0
theorem wpY_first {i : Nat} {o : Oper} {v : Value} {D : List Nat} (hi : ops[i]? = some o) (hsel : Region.noSelect ops = true) (hD : BehindY md ops i Z D) (hQ : ∀ c a w, Q (.panic c) (a.put o.dst v) w → Q (.panic c) a w) :
    ∀ (n : Nat) (l : Array Bool) (a : Act) (w : World), (∀ j oj, ops[j]? = some oj → j ≠ i → l.getD j true = false → (∀ e ∈ oj.after, Region.binds md e = true → e.on ≠ i) → o.apart ops oj = true) →
      i ∈ Region.ready md ops l → (∀ d ∈ D, l.getD d true = false) → YieldsIf P ops S o v a → S w → wpY P md ops Q S Z n (l.setIfInBounds i true) (a.put o.dst v) w → wpY P md ops Q S Z (n + 1) l a w := by
  intro n
  induction n with
  | zero =>
    intro l a w _ hr _ hy hS H
    refine ⟨fun e => absurd (e ▸ hr) (by simp), fun j hj => ?_⟩
    by_cases hji : j = i
    · subst hji
      exact hy.wpOp hi hS ⟨fun _ => hS, H⟩
    · have := ready_mono hj hji
      rw [H.1] at this
      simp at this
  | succ n ih =>
    intro l a w hap hr hl hy hS H
    refine ⟨fun e => absurd (e ▸ hr) (by simp), fun j hj => ?_⟩
    by_cases hji : j = i
    · subst hji
      exact hy.wpOp hi hS ⟨fun _ => hS, H⟩
    · obtain ⟨hun, oj, hoj, hall⟩ := mem_ready.1 hj
      have hri := (mem_ready.1 hr).1
      have hjD : j ∉ D := fun hm => by
        obtain ⟨o', ho', e, he, hb, hon⟩ := hD.waits j hm
        obtain rfl : oj = o' := by rw [hoj] at ho'; exact Option.some.inj ho'
        rcases hon with hon | hon
        · exact not_bothY hri (hon ▸ hall e he hb)
        · exact not_bothY (hl _ hon) (hall e he hb)
      have hjz : j ∉ Z := fun hz => hjD (hD.has j hz)
      have hstep := wpOp_putIf hoj (hap j oj hoj hji hun fun e he hb hon => not_bothY hri (hon ▸ hall e he hb)) (fun cs b => Region.noSelect_spec hsel i o cs b hi) (fun cs b => Region.noSelect_spec hsel j oj cs b hoj) hQ hy (H.2 j (ready_mono hj hji))
      refine wpOp_mono (fun b u hb => ?_) hstep
      obtain ⟨hyb, hSu, hrest⟩ := hb
      refine ⟨hSu, ih _ b u (fun k ok hok hki hkun hno => hap k ok hok hki ?_ hno) (ready_mono hr (Ne.symm hji)) (fun d hd => ?_) hyb (hSu hjz) ?_⟩
      · by_cases hjk : j = k
        · exact hjk ▸ hun
        · rwa [getD_set_ne true hjk] at hkun
      · rw [getD_set_ne true (fun e : j = d => hjD (by rw [e]; exact hd))]
        exact hl d hd
      · rwa [Array.setIfInBounds_comm _ _ hji]
def behindYB (md : Region.Mode) (ops : Array Oper) (l : Array Bool) (i : Nat) (Z D : List Nat) : Bool :=
  Z.all D.contains && !D.contains i && D.all fun d => !(l.getD d true) && match ops[d]? with | some o => o.after.any fun e => Region.binds md e && (e.on == i || D.contains e.on) | none => false
theorem wpY_take {i : Nat} {o : Oper} {v : Value} {n : Nat} {l : Array Bool} {a : Act} {w : World} (D : List Nat) (hi : ops[i]? = some o) (hsel : Region.noSelect ops = true) (hf : Region.free md ops l i = true) (hr : (Region.ready md ops l).contains i = true) (hD : behindYB md ops l i Z D = true)
    (hQ : ∀ c a w, Q (.panic c) (a.put o.dst v) w → Q (.panic c) a w) (hy : YieldsIf P ops S o v a) (hS : S w) (h : wpY P md ops Q S Z n (l.setIfInBounds i true) (a.put o.dst v) w) : wpY P md ops Q S Z (n + 1) l a w := by
  simp only [behindYB, Bool.and_eq_true, List.all_eq_true, Bool.not_eq_true', List.contains_iff_mem] at hD
  obtain ⟨⟨h1, h2⟩, h3⟩ := hD
  refine wpY_first (D := D) hi hsel ⟨fun z hz => h1 z hz, by simpa using h2, fun d hd => ?_⟩ hQ n l a w (Region.free_spec hi hf) (by simpa using hr) (fun d hd => (h3 d hd).1) hy hS h
  have := (h3 d hd).2
  cases ho : ops[d]? with
  | none => rw [ho] at this; simp at this
  | some o' =>
    rw [ho] at this
    obtain ⟨e, he, hb⟩ := Array.any_eq_true'.1 this
    simp only [Bool.and_eq_true, Bool.or_eq_true, beq_iff_eq, List.contains_iff_mem] at hb
    exact ⟨o', rfl, e, he, hb.1, hb.2⟩
theorem wpY_all {rs : List Nat} {n : Nat} {l : Array Bool} {a : Act} {w : World} (hr : Region.ready md ops l = rs) (hne : rs ≠ []) (h : ∀ i ∈ rs, wpOp P ops Q i (fun b v => (i ∉ Z → S v) ∧ wpY P md ops Q S Z n (l.setIfInBounds i true) b v) a w) : wpY P md ops Q S Z (n + 1) l a w := by
  subst hr
  exact ⟨fun e => absurd e hne, h⟩
theorem wpY_done {l : Array Bool} {a : Act} {w : World} (hr : Region.ready md ops l = []) (h : Q .normal a w) (n : Nat) : wpY P md ops Q S Z n l a w := by
  cases n with
  | zero => exact ⟨hr, h⟩
  | succ n => exact ⟨fun _ => h, by simp [hr]⟩
theorem wpOp_goY {i : Nat} {o : Oper} {K : Act → World → Prop} {a : Act} {w : World} (ho : ops[i]? = some o) (hg : o.guard = none) (h : ∀ K' : Act → World → Prop, (∀ a w, K a w → K' a w) → Oper.wp P o a w K' Q) : wpOp P ops Q i K a w := by
  refine wpOp_step ho fun K' hK => ?_
  rw [if_pos (by unfold Region.wanted; rw [hg])]
  exact h K' hK
end
end Go.Proofs.YtmihhebcchpmcaaGreatDoor
/-
  A region that draws its order of evaluation, behind a loop over a function: what holds of it anywhere holds of it there.
-/
namespace Go.Proofs.YtmihhebcchpmcaaGreatDoor
open Go.RowKit
theorem rowsIn_w {n : Nat} {P : Program} {row : String} {args : Array Value} {w : World} {R : Value → World → Prop} (h : Rows P row args w R) : RowsIn Fence.wide n P row args w R := by
  intro c cs _
  obtain ⟨v, w', hr, hs⟩ := h c cs
  exact ⟨v, w', hr, stepsIn_wide.2 hs⟩
theorem uponIn_w {n : Nat} {P : Program} {o : Oper} {a : Act} {K : Act → World → Prop} {Q : Exit → Act → World → Prop} {r : Result Next} (h : o.upon P a K Q r) : o.uponIn Fence.wide n P a K Q r := by
  cases r with
  | ok x w' =>
    cases x with
    | value v => exact h
    | skip => exact h
    | defer d => exact h
    | enter f args => exact ⟨fun hd => (by cases hd), callsIn_wide.2 h⟩
    | row row args => exact ⟨fun hd => (by cases hd), rowsIn_w h⟩
    | _ => exact h.elim
  | halt x w' => cases x <;> first | exact h | exact h.elim
theorem opIn_w {n : Nat} {P : Program} {o : Oper} {a : Act} {w : World} {K : Act → World → Prop} {Q : Exit → Act → World → Prop} (h : o.wp P a w K Q) : o.wpIn Fence.wide n P a w K Q :=
  ⟨fun _ _ => trivial, uponIn_w h⟩
theorem wpOpIn_w {n : Nat} {P : Program} {ops : Array Oper} {Q : Exit → Act → World → Prop} (hQ : ¬ LetsOut Q) {i : Nat} {K : Act → World → Prop} {a : Act} {w : World} (h : wpOp P ops Q i K a w) :
    wpOpIn Fence.wide n P ops Q i K a w := by
  unfold wpOp at h
  unfold wpOpIn
  cases ho : ops[i]? with
  | none => rw [ho] at h; exact h
  | some o =>
    rw [ho] at h
    simp only at h ⊢
    split
    · rename_i hw
      rw [if_pos hw] at h
      rcases h with h | ⟨_, h⟩
      · exact opIn_w h
      · exact absurd h hQ
    · rename_i hw
      rw [if_neg hw] at h
      exact ⟨fun _ _ => trivial, h⟩
theorem wpAnyIn_w {n : Nat} {P : Program} {md : Region.Mode} {ops : Array Oper} {Q : Exit → Act → World → Prop} (hQ : ¬ LetsOut Q) :
    ∀ (fuel : Nat) (listed : Array Bool) (a : Act) (w : World), wpAny P md ops Q fuel listed a w → wpAnyIn Fence.wide n P md ops Q fuel listed a w
  | 0, _, _, _, h => h
  | fuel + 1, _, _, _, h => ⟨h.1, fun i hi => wpOpIn_mono (fun a' w' h' => wpAnyIn_w hQ fuel _ a' w' h') (wpOpIn_w hQ (h.2 i hi))⟩
/-- A region that draws: by whatever walk of its orders, S being kept. -/
theorem wide_held {n id : Nat} {ops : Array Oper} {Q : Exit → Act → World → Prop} {a : Act} {w : World} (S : World → Prop)
    (h : wpAnyH Tryz.prog .any ops (Goes (Q .normal)) S ops.size (Array.replicate ops.size false) a w.drew) : (Code.region id ops true).wpIn Fence.wide n Tryz.prog Q a w :=
  wpIn_mono (wpIn_region_any Tryz.mixed (wpAnyIn_w (goes_out _) _ _ _ _ (wpAny_of_held _ _ _ _ h))) (goes_imp fun _ _ h => h)
/-- A region that draws, some of whose operations may change what others have loaded. -/
theorem wide_Z {n id : Nat} {ops : Array Oper} {Q : Exit → Act → World → Prop} {a : Act} {w : World} (S : World → Prop) (Z : List Nat)
    (h : wpY Tryz.prog .any ops (Goes (Q .normal)) S Z ops.size (Array.replicate ops.size false) a w.drew) : (Code.region id ops true).wpIn Fence.wide n Tryz.prog Q a w :=
  wpIn_mono (wpIn_region_any Tryz.mixed (wpAnyIn_w (goes_out _) _ _ _ _ (wpY_any _ _ _ _ h))) (goes_imp fun _ _ h => h)
end Go.Proofs.YtmihhebcchpmcaaGreatDoor
