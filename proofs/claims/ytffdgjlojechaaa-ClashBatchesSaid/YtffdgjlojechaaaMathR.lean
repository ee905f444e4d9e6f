/-
  Whether acts hang on the order, plainly: each act against those ahead.
-/
import Derived.Test.YtffdgjlojechaaaRegion
namespace Go.Proofs.Ytffdgjlojechaaa
/-- Two acts that meet, and hang on the order. -/
def cl (y x : Deed) : Bool := decide (y.s = x.s) && (decide (y.k = 1) || decide (x.k = 1) || !decide (y.o = x.o))
def refReg : List Deed → Nat → List Deed → Int × Int
  | _, _, [] => (0, 0)
  | pre, i, x :: r => if pre.any (fun y => cl y x) then ((i : Int), 10) else refReg (pre ++ [x]) (i + 1) r
/-- What names do is what all acts do that have them. -/
def Tells (pre : List Deed) (f : Fn) : Prop :=
  (∀ s, f s = none → ∀ y ∈ pre, y.s ≠ s) ∧ ∀ s d, f s = some d → (∃ y ∈ pre, y.s = s) ∧ ∀ y ∈ pre, y.s = s → y.does = d
theorem tells_nil : Tells [] (fun _ => none) := ⟨fun _ _ _ h => by simp at h, fun _ _ h => by simp at h⟩
theorem hits_cl {pre : List Deed} {f : Fn} (h : Tells pre f) {x y : Deed} (hy : y ∈ pre) (hs : y.s = x.s) : hits f x = cl y x := by
  unfold hits cl
  cases hf : f x.s with
  | none => exact absurd hs (h.1 _ hf y hy)
  | some d =>
    have := (h.2 _ d hf).2 y hy hs
    rw [← this]
    unfold Deed.does
    by_cases h1 : y.k = 1
    · simp [h1, hs]
    · by_cases h2 : x.k = 1
      · simp [h1, h2, hs]
      · by_cases h3 : y.o = x.o
        · simp [h1, h2, h3, hs]
        · simp [h1, h2, h3, hs]
theorem hits_any {pre : List Deed} {f : Fn} (h : Tells pre f) (x : Deed) : hits f x = pre.any (fun y => cl y x) := by
  by_cases hex : ∃ y ∈ pre, y.s = x.s
  · obtain ⟨y, hy, hs⟩ := hex
    rw [hits_cl h hy hs]
    cases hc : cl y x with
    | true => exact (List.any_eq_true.2 ⟨y, hy, hc⟩).symm
    | false =>
      symm
      rw [List.any_eq_false]
      intro z hz hcz
      have hzs : z.s = x.s := by
        unfold cl at hcz
        simp only [Bool.and_eq_true, decide_eq_true_eq] at hcz
        exact hcz.1
      rw [← hits_cl h hz hzs, hits_cl h hy hs, hc] at hcz
      exact absurd hcz (by decide)
  · have hno : ∀ y ∈ pre, y.s ≠ x.s := fun y hy e => hex ⟨y, hy, e⟩
    have hf : f x.s = none := by
      cases hf : f x.s with
      | none => rfl
      | some d => exact absurd (h.2 _ d hf).1 (fun ⟨y, hy, e⟩ => hno y hy e)
    have : hits f x = false := by unfold hits; rw [hf]
    rw [this]
    symm
    rw [List.any_eq_false]
    intro y hy hc
    unfold cl at hc
    simp only [Bool.and_eq_true, decide_eq_true_eq] at hc
    exact hno y hy hc.1
theorem tells_more {pre : List Deed} {f : Fn} (h : Tells pre f) {x : Deed} (hh : hits f x = false) : Tells (pre ++ [x]) (upd f x.s x.does) := by
  refine ⟨fun s hs y hy => ?_, fun s d hs => ?_⟩
  · unfold upd at hs
    split at hs
    · cases hs
    · rename_i hne
      rcases List.mem_append.1 hy with hy | hy
      · exact h.1 s hs y hy
      · obtain rfl := List.mem_singleton.1 hy
        exact fun e => hne e.symm
  · unfold upd at hs
    split at hs
    · rename_i he
      subst he
      obtain rfl := Option.some.inj hs
      refine ⟨⟨x, by simp, rfl⟩, fun y hy hys => ?_⟩
      rcases List.mem_append.1 hy with hy | hy
      · cases hf : f x.s with
        | none => exact absurd hys (h.1 _ hf y hy)
        | some d =>
          have hd := (h.2 _ d hf).2 y hy hys
          unfold hits at hh
          rw [hf] at hh
          simp only [Bool.or_eq_false_iff, Bool.not_eq_false', Bool.and_eq_true, beq_iff_eq] at hh
          rw [hd]
          exact Prod.ext hh.2.1 hh.2.2
      · obtain rfl := List.mem_singleton.1 hy
        rfl
    · rename_i hne
      obtain ⟨⟨y, hy, hys⟩, hall⟩ := h.2 s d hs
      refine ⟨⟨y, by simp [hy], hys⟩, fun z hz hzs => ?_⟩
      rcases List.mem_append.1 hz with hz | hz
      · exact hall z hz hzs
      · obtain rfl := List.mem_singleton.1 hz
        exact absurd hzs.symm hne
theorem reg_ref : ∀ (r pre : List Deed) (f : Fn) (i : Nat), Tells pre f → reg f i r = refReg pre i r
  | [], _, _, _, _ => rfl
  | x :: r, pre, f, i, h => by
    unfold reg refReg
    rw [hits_any h x]
    cases hh : pre.any (fun y => cl y x) with
    | true => rfl
    | false => exact reg_ref r _ _ _ (tells_more h ((hits_any h x).trans hh))
/-- No act hangs on the order with one ahead. -/
def free : List Deed → List Deed → Bool
  | _, [] => true
  | pre, x :: r => !(pre.any (fun y => cl y x)) && free (pre ++ [x]) r
theorem refReg_free : ∀ (r pre : List Deed) (i : Nat), (free pre r = true → refReg pre i r = (0, 0)) ∧ (free pre r = false → (refReg pre i r).2 = 10)
  | [], _, _ => ⟨fun _ => rfl, fun h => by simp [free] at h⟩
  | x :: r, pre, i => by
    unfold refReg free
    cases hh : pre.any (fun y => cl y x) with
    | true => simp
    | false => simpa using refReg_free r (pre ++ [x]) (i + 1)
theorem cl_symm (y x : Deed) : cl y x = cl x y := by
  unfold cl
  by_cases h1 : y.s = x.s
  · by_cases h2 : y.o = x.o
    · simp [h1, h2, Bool.or_comm]
    · have : ¬ x.o = y.o := fun e => h2 e.symm
      simp [h1, h2, this]
  · have : ¬ x.s = y.s := fun e => h1 e.symm
    simp [h1, this]
/-- No two acts of a list hang on the order: as a property of pairs. -/
def Apart (l : List Deed) : Prop := l.Pairwise fun y x => cl y x = false
theorem free_apart : ∀ (r pre : List Deed), free pre r = true ↔ (∀ y ∈ pre, ∀ x ∈ r, cl y x = false) ∧ Apart r
  | [], pre => by simp [free, Apart]
  | x :: r, pre => by
    unfold free
    rw [Bool.and_eq_true, free_apart r (pre ++ [x]), Bool.not_eq_true', List.any_eq_false]
    constructor
    · rintro ⟨h1, h2, h3⟩
      refine ⟨fun y hy z hz => ?_, List.pairwise_cons.2 ⟨fun z hz => h2 x (by simp) z hz, h3⟩⟩
      rcases List.mem_cons.1 hz with rfl | hz
      · simpa using h1 y hy
      · exact h2 y (by simp [hy]) z hz
    · rintro ⟨h1, h2⟩
      obtain ⟨h3, h4⟩ := List.pairwise_cons.1 h2
      refine ⟨fun y hy => by simpa using h1 y hy x (by simp), fun y hy z hz => ?_, h4⟩
      rcases List.mem_append.1 hy with hy | hy
      · exact h1 y hy z (by simp [hz])
      · obtain rfl := List.mem_singleton.1 hy
        exact h3 z hz
theorem free_iff (l : List Deed) : free [] l = true ↔ Apart l := by rw [free_apart]; simp
theorem Apart.perm {l m : List Deed} (h : Apart l) (hp : l.Perm m) : Apart m :=
  (hp.pairwise_iff (fun {a b} hab => by rw [cl_symm]; exact hab)).1 h
/-- What the call of Region comes to. -/
def R (l : List Deed) : Int × Int := refReg [] 0 l
theorem reg_R (l : List Deed) : reg (fun _ => none) 0 l = R l := reg_ref l [] _ 0 tells_nil
theorem R_ok {l : List Deed} (h : Apart l) : R l = (0, 0) := (refReg_free l [] 0).1 ((free_iff l).2 h)
theorem R_bad {l : List Deed} (h : ¬ Apart l) : (R l).2 = 10 := (refReg_free l [] 0).2 (by
  cases hf : free [] l with
  | false => rfl
  | true => exact absurd ((free_iff l).1 hf) h)
theorem R_iff (l : List Deed) : (R l).2 = 0 ↔ Apart l := by
  by_cases h : Apart l
  · simp [R_ok h, h]
  · simp [R_bad h, h]
end Go.Proofs.Ytffdgjlojechaaa
