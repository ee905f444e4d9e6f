/-
  Columns: what may be a letter, a digit, a side, a kind; what fits; new columns.
-/
import Derived.Test.YtbjoljokdjgbnacNil
namespace Go.Proofs.Ytbjoljokdjgbnac
open Go.RowKit Go.Deep
def letter (c : Int) : Bool := decide (97 ≤ c) && decide (c ≤ 122)
def digit (c : Int) : Bool := decide (48 ≤ c) && decide (c ≤ 57)
def side (c : Int) : Bool := decide (c = 1) || decide (c = 2) || decide (c = 3)
def kind (c : Int) : Bool := decide (c = 1) || decide (c = 2)
def fit (k x : Int) : Bool := !decide (k = 2) || decide (x = 0) || decide (x = 1)
theorem letter_any (c : Int) (w : World) : Calls Try.prog 70 #[.int .u8 c] w fun e w' => e = .returned (.bool (letter c)) ∧ w = w' := by
  unfold letter
  by_cases h1 : 97 ≤ c <;> by_cases h2 : c ≤ 122 <;>
  · go_enter Try.func70, Try.ntmps70
    go_wp2
    go_ret
    exact ⟨by simp [h1, h2], rfl⟩
theorem digit_any (c : Int) (w : World) : Calls Try.prog 71 #[.int .u8 c] w fun e w' => e = .returned (.bool (digit c)) ∧ w = w' := by
  unfold digit
  by_cases h1 : 48 ≤ c <;> by_cases h2 : c ≤ 57 <;>
  · go_enter Try.func71, Try.ntmps71
    go_wp2
    go_ret
    exact ⟨by simp [h1, h2], rfl⟩
theorem side_any (c : Int) (w : World) : Calls Try.prog 50 #[.int .u8 c] w fun e w' => e = .returned (.bool (side c)) ∧ w = w' := by
  unfold side
  by_cases h1 : c = 1 <;> by_cases h2 : c = 2 <;> by_cases h3 : c = 3 <;>
  · go_enter Try.func50, Try.ntmps50
    go_wp2
    go_ret
    exact ⟨by simp [h1, h2, h3], rfl⟩
theorem kind_any (c : Int) (w : World) : Calls Try.prog 51 #[.int .u8 c] w fun e w' => e = .returned (.bool (kind c)) ∧ w = w' := by
  unfold kind
  by_cases h1 : c = 1 <;> by_cases h2 : c = 2 <;>
  · go_enter Try.func51, Try.ntmps51
    go_wp2
    go_ret
    exact ⟨by simp [h1, h2], rfl⟩
theorem fit_any (k x : Int) (a : Option Addr) (l c : Nat) (w : World) : Calls Try.prog 52 #[.agg #[.int .u8 k, .slice a l c], .int .i64 x] w fun e w' => e = .returned (.bool (fit k x)) ∧ Below w.heap.size w w' := by
  unfold fit
  by_cases h1 : k = 2
  · subst h1
    by_cases h2 : x = 0
    · subst h2
      go_enter Try.func52, Try.ntmps52
      go_wp2
      go_ret
      exact ⟨by simp, by (repeat (first | exact Below.refl _ _ | assumption | refine Below.drew ?_ | refine Below.alloc ?_ (by first | omega | (simp; done) | (simp; omega)) _ | refine Below.setCell ?_ (by first | omega | (simp; done) | (simp; omega)) _))⟩
    · by_cases h3 : x = 1
      · subst h3
        go_enter Try.func52, Try.ntmps52
        go_wp2
        go_ret
        exact ⟨by simp, by (repeat (first | exact Below.refl _ _ | assumption | refine Below.drew ?_ | refine Below.alloc ?_ (by first | omega | (simp; done) | (simp; omega)) _ | refine Below.setCell ?_ (by first | omega | (simp; done) | (simp; omega)) _))⟩
      · go_enter Try.func52, Try.ntmps52
        go_wp2
        go_ret
        exact ⟨by simp [h2, h3], by (repeat (first | exact Below.refl _ _ | assumption | refine Below.drew ?_ | refine Below.alloc ?_ (by first | omega | (simp; done) | (simp; omega)) _ | refine Below.setCell ?_ (by first | omega | (simp; done) | (simp; omega)) _))⟩
  · have q1 : (k == 2) = false := by simpa using h1
    go_enter Try.func52, Try.ntmps52
    go_wp2
    go_ret
    exact ⟨by simp [h1], by (repeat (first | exact Below.refl _ _ | assumption | refine Below.drew ?_ | refine Below.alloc ?_ (by first | omega | (simp; done) | (simp; omega)) _ | refine Below.setCell ?_ (by first | omega | (simp; done) | (simp; omega)) _))⟩
theorem rfit_any (k x : Int) (w : World) : Calls Try.prog 68 #[.int .u8 k, .int .i64 x] w fun e w' => e = .returned (.bool (decide (k = 1) || decide (x = 0) || decide (x = 1))) ∧ w = w' := by
  by_cases h1 : k = 1 <;> by_cases h2 : x = 0 <;> by_cases h3 : x = 1 <;>
  · go_enter Try.func68, Try.ntmps68
    go_wp2
    go_ret
    exact ⟨by simp [h1, h2, h3], rfl⟩
theorem clone_nil (len cap : Nat) (w : World) : Calls Try.prog 35 #[.slice none len cap] w fun e w' => e = .returned (.slice none 0 0) ∧ w = w' := by
  have q22 : ∀ (w : World) (a : Option Addr) (n c n' c' : Nat), (binOp .eql 36 (.slice a n c) (.slice none n' c')).run Try.prog w = .ok (.bool a.isNone) w := fun w a n c n' c' => Lib.run_eql_slice_nil w _ _ a n c n' c' Try.underlying36
  go_enter Try.func35, Try.ntmps35
  go_wp2
  go_ret
  exact ⟨rfl, rfl⟩
theorem list_nil (s : ByteArray) (d : Int) (w : World) : Calls Try.prog 20 #[.pointer none, ke s d] w fun e w' => e = .returned (.slice none 0 0) ∧ Below w.heap.size w w' := by
  have C := hidI (find_nil s d)
  go_enter Try.func20, Try.ntmps20
  go_wp2_with (go_at_call 53; refine Calls.mono (C.out _) ?_; rintro e w1 ⟨rfl, hb1⟩; refine Hid.out ?_)
  refine hidI ?_
  have hsz := hb1.size
  simp only [World.size_alloc] at hsz
  have HB : Hid (Below w.heap.size w w1) := hidI (Below.trans (by (repeat (first | exact Below.refl _ _ | assumption | refine Below.drew ?_ | refine Below.alloc ?_ (by first | omega | (simp; done) | (simp; omega)) _ | refine Below.setCell ?_ (by first | omega | (simp; done) | (simp; omega)) _))) (hb1.mono (by simp)))
  have D := hidI (clone_nil 0 0)
  clear hb1 C
  go_wp2_with (go_at_call 35; refine Calls.mono (D.out _) ?_; rintro e w' ⟨rfl, rfl⟩)
  go_ret
  exact ⟨rfl, by have := HB.out; (repeat (first | exact Below.refl _ _ | assumption | refine Below.drew ?_ | refine Below.alloc ?_ (by first | omega | (simp; done) | (simp; omega)) _ | refine Below.setCell ?_ (by first | omega | (simp; done) | (simp; omega)) _))⟩
/-- May so many nodes and edges be? -/
def mayT (n m : Int) : Prop := 1 ≤ n ∧ n ≤ 12 ∧ 0 ≤ m ∧ m ≤ 30
theorem rnew_nil (n m : Int) (w : World) (h : ¬ mayT n m) : Calls Try.prog 26 #[.int .i64 n, .int .i64 m] w fun e w' => e = .returned (.pointer none) ∧ w = w' := by
  unfold mayT at h
  by_cases h1 : n < 1 <;> by_cases h2 : 12 < n <;> by_cases h3 : m < 0 <;> by_cases h4 : 30 < m <;> first | omega | skip
  all_goals
    go_enter Try.func26, Try.ntmps26
    go_wp2
    go_ret
    exact ⟨rfl, rfl⟩
theorem cnew_nil (n m : Int) (w : World) (h : ¬ mayT n m) : Calls Try.prog 25 #[.int .i64 n, .int .i64 m] w fun e w' => e = .returned (.pointer none) ∧ w = w' := by
  unfold mayT at h
  by_cases h1 : n < 1 <;> by_cases h2 : 12 < n <;> by_cases h3 : m < 0 <;> by_cases h4 : 30 < m <;> first | omega | skip
  all_goals
    go_enter Try.func25, Try.ntmps25
    go_wp2
    go_ret
    exact ⟨rfl, rfl⟩
theorem rnew_ok (n m : Int) (w : World) (h : mayT n m) : Calls Try.prog 26 #[.int .i64 n, .int .i64 m] w fun e w' => e = .returned (.pointer (some ⟨w.heap.size, 0, none⟩)) ∧ w' = w.alloc (.cells #[.int .i64 n, .int .i64 m, .slice none 0 0] 83) := by
  obtain ⟨h1, h2, h3, h4⟩ := h
  go_enter Try.func26, Try.ntmps26
  go_wp2
  go_ret
  exact ⟨rfl, rfl⟩
theorem cnew_ok (n m : Int) (w : World) (h : mayT n m) : Calls Try.prog 25 #[.int .i64 n, .int .i64 m] w fun e w' => e = .returned (.pointer (some ⟨w.heap.size + 1, 0, none⟩)) ∧ w' = (w.alloc (.map #[] 0)).alloc (.cells #[.int .i64 n, .int .i64 m, .map (some w.heap.size)] 78) := by
  obtain ⟨h1, h2, h3, h4⟩ := h
  go_enter Try.func25, Try.ntmps25
  have hmm := @run_makeMap Try.prog
  go_wp2
  go_ret
  exact ⟨rfl, rfl⟩
end Go.Proofs.Ytbjoljokdjgbnac
