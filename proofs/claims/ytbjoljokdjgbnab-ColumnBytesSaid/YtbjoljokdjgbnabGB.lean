/-
  Texts Nil Col Name Key Tell Set MapC Declare Cmp, one behind the other.
-/
import Derived.Test.YtbjoljokdjgbnabGA
import Derived.Laws.ResultCell
import Derived.Deep.RegionHeld3
/-
  Nil columns, as they answer.
-/
namespace Go.Proofs.Ytbjoljokdjgbnab
open Go.RowKit Go.Deep
/-- A key: a name, and a side. -/
abbrev ke (s : ByteArray) (d : Int) : Value := .agg #[.string s, .int .u8 d]
theorem find_nil (s : ByteArray) (d : Int) (w : World) : Calls Try.prog 60 #[.pointer none, ke s d] w fun e w' => e = .returned (.tuple #[.agg #[.int .u8 0, .slice none 0 0], .int .i64 1]) ∧ Below w.heap.size w w' := by
  go_enter Try.func60, Try.ntmps60
  go_wp2
  (try simp only [Exit.inBlock, Exit.then])
  refine bodyPost_ret (v := .tuple #[.agg #[.int .u8 0, .slice none 0 0], .int .i64 1]) ?_ rfl ⟨rfl, ?_⟩
  · rw [results_cell_tmp rfl]
    go_simp
  · (repeat (first | exact Below.refl _ _ | assumption | refine Below.drew ?_ | refine Below.alloc ?_ (by first | omega | (simp; done) | (simp; omega)) _ | refine Below.setCell ?_ (by first | omega | (simp; done) | (simp; omega)) _))
theorem place_nil (s : ByteArray) (d : Int) (i : Int) (w : World) : Calls Try.prog 52 #[.pointer none, ke s d, .int .i64 i] w fun e w' => e = .returned (.tuple #[.agg #[.int .u8 0, .slice none 0 0], .int .i64 1]) ∧ Below w.heap.size w w' := by
  have C := hidI (find_nil s d)
  go_enter Try.func52, Try.ntmps52
  go_wp2_with (go_at_call 60; refine Calls.mono (C.out _) ?_; rintro e w1 ⟨rfl, hb1⟩; refine Hid.out ?_)
  refine hidI ?_
  have hsz := hb1.size
  simp only [World.size_alloc] at hsz
  have Z : Below (w.heap.size + 2) ((w.alloc (.cells #[.string s, .int .u8 d] 40)).alloc (.cells #[.int .u8 0, .slice none 0 0] 97)) (w1.alloc (.cells #[.int .u8 0, .slice none 0 0] 97)) := (hb1.mono (by simp)).alloc (by omega) _
  have d0 : (w1.alloc (.cells #[.int .u8 0, .slice none 0 0] 97)).cell? ⟨w.heap.size + 1, 0, none⟩ = some (.int .u8 0) := by
    refine (Z.cell (p := ⟨w.heap.size + 1, 0, none⟩) (by simp)).trans ?_
    go_simp
  have d1 : (w1.alloc (.cells #[.int .u8 0, .slice none 0 0] 97)).cell? ⟨w.heap.size + 1, 1, none⟩ = some (.slice none 0 0) := by
    refine (Z.cell (p := ⟨w.heap.size + 1, 1, none⟩) (by simp)).trans ?_
    go_simp
  have f0 : (w1.alloc (.cells #[.int .u8 0, .slice none 0 0] 97)).frozen? ⟨w.heap.size + 1, 0, none⟩ = false := by
    refine (Z.frozen (p := ⟨w.heap.size + 1, 0, none⟩) (by simp)).trans ?_
    go_simp
  have f1 : (w1.alloc (.cells #[.int .u8 0, .slice none 0 0] 97)).frozen? ⟨w.heap.size + 1, 1, none⟩ = false := by
    refine (Z.frozen (p := ⟨w.heap.size + 1, 1, none⟩) (by simp)).trans ?_
    go_simp
  have bel : Below w.heap.size w w1 := Below.trans (by (repeat (first | exact Below.refl _ _ | assumption | refine Below.drew ?_ | refine Below.alloc ?_ (by first | omega | (simp; done) | (simp; omega)) _ | refine Below.setCell ?_ (by first | omega | (simp; done) | (simp; omega)) _))) (hb1.mono (by simp; omega))
  have HB := hidI bel
  clear hb1 C bel Z
  go_wp2
  (try simp only [Exit.inBlock, Exit.then])
  refine bodyPost_ret (v := .tuple #[.agg #[.int .u8 0, .slice none 0 0], .int .i64 1]) ?_ rfl ⟨rfl, ?_⟩
  · rw [results_cell_tmp rfl]
    go_simp
  · refine Below.setCell (Below.setCell (HB.out.alloc (by omega) _) ?_ _) ?_ _ <;> simp
theorem get_nil (s : ByteArray) (d : Int) (i : Int) (w : World) : Calls Try.prog 23 #[.pointer none, ke s d, .int .i64 i] w fun e w' => e = .returned (.tuple #[.int .i64 0, .int .i64 1]) ∧ Below w.heap.size w w' := by
  have C := hidI (place_nil s d i)
  go_enter Try.func23, Try.ntmps23
  go_wp2_with (go_at_call 52; refine Calls.mono (C.out _) ?_; rintro e w1 ⟨rfl, hb1⟩; refine Hid.out ?_)
  refine hidI ?_
  have hsz := hb1.size
  simp only [World.size_alloc] at hsz
  have HB : Hid (Below w.heap.size w w1) := hidI (Below.trans (by (repeat (first | exact Below.refl _ _ | assumption | refine Below.drew ?_ | refine Below.alloc ?_ (by first | omega | (simp; done) | (simp; omega)) _ | refine Below.setCell ?_ (by first | omega | (simp; done) | (simp; omega)) _))) (hb1.mono (by simp)))
  clear hb1 C
  go_wp2
  go_ret2
  exact ⟨rfl, by have := HB.out; (repeat (first | exact Below.refl _ _ | assumption | refine Below.drew ?_ | refine Below.alloc ?_ (by first | omega | (simp; done) | (simp; omega)) _ | refine Below.setCell ?_ (by first | omega | (simp; done) | (simp; omega)) _))⟩
theorem encode_nil (w : World) : Calls Try.prog 29 #[.pointer none] w fun e w' => e = .returned (.tuple #[.slice none 0 0, .int .i64 1]) ∧ w = w' := by
  go_enter Try.func29, Try.ntmps29
  go_wp2
  go_ret2
  exact ⟨rfl, rfl⟩
theorem declare_nil (s : ByteArray) (d : Int) (q : Int) (w : World) : Calls Try.prog 43 #[.pointer none, ke s d, .int .u8 q] w fun e w' => e = .returned (.int .i64 1) ∧ Below w.heap.size w w' := by
  go_enter Try.func43, Try.ntmps43
  go_wp2
  go_ret
  exact ⟨rfl, by (repeat (first | exact Below.refl _ _ | assumption | refine Below.drew ?_ | refine Below.alloc ?_ (by first | omega | (simp; done) | (simp; omega)) _ | refine Below.setCell ?_ (by first | omega | (simp; done) | (simp; omega)) _))⟩
theorem set_nil (s : ByteArray) (d : Int) (i x : Int) (w : World) : Calls Try.prog 22 #[.pointer none, ke s d, .int .i64 i, .int .i64 x] w fun e w' => e = .returned (.int .i64 1) ∧ Below w.heap.size w w' := by
  have C := hidI (place_nil s d i)
  go_enter Try.func22, Try.ntmps22
  go_wp2_with (go_at_call 52; refine Calls.mono (C.out _) ?_; rintro e w1 ⟨rfl, hb1⟩; refine Hid.out ?_)
  refine hidI ?_
  have hsz := hb1.size
  simp only [World.size_alloc] at hsz
  have HB : Hid (Below w.heap.size w w1) := hidI (Below.trans (by (repeat (first | exact Below.refl _ _ | assumption | refine Below.drew ?_ | refine Below.alloc ?_ (by first | omega | (simp; done) | (simp; omega)) _ | refine Below.setCell ?_ (by first | omega | (simp; done) | (simp; omega)) _))) (hb1.mono (by simp)))
  clear hb1 C
  go_wp2
  go_ret
  exact ⟨rfl, by have := HB.out; (repeat (first | exact Below.refl _ _ | assumption | refine Below.drew ?_ | refine Below.alloc ?_ (by first | omega | (simp; done) | (simp; omega)) _ | refine Below.setCell ?_ (by first | omega | (simp; done) | (simp; omega)) _))⟩
theorem fill_nil (s : ByteArray) (d : Int) (x : Int) (w : World) : Calls Try.prog 72 #[.pointer none, ke s d, .int .i64 x] w fun e w' => e = .returned (.int .i64 1) ∧ Below w.heap.size w w' := by
  have C := hidI (find_nil s d)
  go_enter Try.func72, Try.ntmps72
  go_wp2_with (go_at_call 60; refine Calls.mono (C.out _) ?_; rintro e w1 ⟨rfl, hb1⟩; refine Hid.out ?_)
  refine hidI ?_
  have hsz := hb1.size
  simp only [World.size_alloc] at hsz
  have HB : Hid (Below w.heap.size w w1) := hidI (Below.trans (by (repeat (first | exact Below.refl _ _ | assumption | refine Below.drew ?_ | refine Below.alloc ?_ (by first | omega | (simp; done) | (simp; omega)) _ | refine Below.setCell ?_ (by first | omega | (simp; done) | (simp; omega)) _))) (hb1.mono (by simp)))
  clear hb1 C
  go_wp2
  go_ret
  exact ⟨rfl, by have := HB.out; (repeat (first | exact Below.refl _ _ | assumption | refine Below.drew ?_ | refine Below.alloc ?_ (by first | omega | (simp; done) | (simp; omega)) _ | refine Below.setCell ?_ (by first | omega | (simp; done) | (simp; omega)) _))⟩
theorem load_nil (s : ByteArray) (d : Int) (l : Value) (w : World) : Calls Try.prog 74 #[.pointer none, ke s d, l] w fun e w' => e = .returned (.int .i64 1) ∧ Below w.heap.size w w' := by
  have C := hidI (find_nil s d)
  go_enter Try.func74, Try.ntmps74
  go_wp2_with (go_at_call 60; refine Calls.mono (C.out _) ?_; rintro e w1 ⟨rfl, hb1⟩; refine Hid.out ?_)
  refine hidI ?_
  have hsz := hb1.size
  simp only [World.size_alloc] at hsz
  have HB : Hid (Below w.heap.size w w1) := hidI (Below.trans (by (repeat (first | exact Below.refl _ _ | assumption | refine Below.drew ?_ | refine Below.alloc ?_ (by first | omega | (simp; done) | (simp; omega)) _ | refine Below.setCell ?_ (by first | omega | (simp; done) | (simp; omega)) _))) (hb1.mono (by simp)))
  clear hb1 C
  go_wp2
  go_ret
  exact ⟨rfl, by have := HB.out; (repeat (first | exact Below.refl _ _ | assumption | refine Below.drew ?_ | refine Below.alloc ?_ (by first | omega | (simp; done) | (simp; omega)) _ | refine Below.setCell ?_ (by first | omega | (simp; done) | (simp; omega)) _))⟩
theorem kindOf_nil (s : ByteArray) (d : Int) (w : World) : Calls Try.prog 28 #[.pointer none, ke s d] w fun e w' => e = .returned (.int .u8 0) ∧ Below w.heap.size w w' := by
  have C := hidI (find_nil s d)
  go_enter Try.func28, Try.ntmps28
  go_wp2_with (go_at_call 60; refine Calls.mono (C.out _) ?_; rintro e w1 ⟨rfl, hb1⟩; refine Hid.out ?_)
  refine hidI ?_
  have hsz := hb1.size
  simp only [World.size_alloc] at hsz
  have HB : Hid (Below w.heap.size w w1) := hidI (Below.trans (by (repeat (first | exact Below.refl _ _ | assumption | refine Below.drew ?_ | refine Below.alloc ?_ (by first | omega | (simp; done) | (simp; omega)) _ | refine Below.setCell ?_ (by first | omega | (simp; done) | (simp; omega)) _))) (hb1.mono (by simp)))
  clear hb1 C
  go_wp2
  go_ret
  exact ⟨rfl, by have := HB.out; (repeat (first | exact Below.refl _ _ | assumption | refine Below.drew ?_ | refine Below.alloc ?_ (by first | omega | (simp; done) | (simp; omega)) _ | refine Below.setCell ?_ (by first | omega | (simp; done) | (simp; omega)) _))⟩
theorem keys_nil (w : World) : Calls Try.prog 25 #[.pointer none] w fun e w' => e = .returned (.slice none 0 0) ∧ w = w' := by
  go_enter Try.func25, Try.ntmps25
  go_wp2
  go_ret
  exact ⟨rfl, rfl⟩
theorem len_nil (s : Int) (w : World) : Calls Try.prog 27 #[.pointer none, .int .u8 s] w fun e w' => e = .returned (.int .i64 0) ∧ w = w' := by
  go_enter Try.func27, Try.ntmps27
  go_wp2
  go_ret
  exact ⟨rfl, rfl⟩
theorem same_nil (o : Option Addr) (w : World) : Calls Try.prog 19 #[.pointer none, .pointer o] w fun e w' => e = .returned (.bool false) ∧ w = w' := by
  go_enter Try.func19, Try.ntmps19
  go_wp2
  go_ret
  exact ⟨rfl, rfl⟩
theorem fork_nil (w : World) : Calls Try.prog 21 #[.pointer none] w fun e w' => e = .returned (.pointer none) ∧ w = w' := by
  go_enter Try.func21, Try.ntmps21
  go_wp2
  go_ret
  exact ⟨rfl, rfl⟩
end Go.Proofs.Ytbjoljokdjgbnab
/-
  Columns: what may be a letter, a digit, a side, a kind; what fits; new columns.
-/
namespace Go.Proofs.Ytbjoljokdjgbnab
open Go.RowKit Go.Deep
def letter (c : Int) : Bool := decide (97 ≤ c) && decide (c ≤ 122)
def digit (c : Int) : Bool := decide (48 ≤ c) && decide (c ≤ 57)
def side (c : Int) : Bool := decide (c = 1) || decide (c = 2) || decide (c = 3)
def kind (c : Int) : Bool := decide (c = 1) || decide (c = 2)
def fit (k x : Int) : Bool := !decide (k = 2) || decide (x = 0) || decide (x = 1)
theorem letter_any (c : Int) (w : World) : Calls Try.prog 91 #[.int .u8 c] w fun e w' => e = .returned (.bool (letter c)) ∧ w = w' := by
  unfold letter
  by_cases h1 : 97 ≤ c <;> by_cases h2 : c ≤ 122 <;>
  · go_enter Try.func91, Try.ntmps91
    go_wp2
    go_ret
    exact ⟨by simp [h1, h2], rfl⟩
theorem digit_any (c : Int) (w : World) : Calls Try.prog 92 #[.int .u8 c] w fun e w' => e = .returned (.bool (digit c)) ∧ w = w' := by
  unfold digit
  by_cases h1 : 48 ≤ c <;> by_cases h2 : c ≤ 57 <;>
  · go_enter Try.func92, Try.ntmps92
    go_wp2
    go_ret
    exact ⟨by simp [h1, h2], rfl⟩
theorem side_any (c : Int) (w : World) : Calls Try.prog 78 #[.int .u8 c] w fun e w' => e = .returned (.bool (side c)) ∧ w = w' := by
  unfold side
  by_cases h1 : c = 1 <;> by_cases h2 : c = 2 <;> by_cases h3 : c = 3 <;>
  · go_enter Try.func78, Try.ntmps78
    go_wp2
    go_ret
    exact ⟨by simp [h1, h2, h3], rfl⟩
theorem kind_any (c : Int) (w : World) : Calls Try.prog 79 #[.int .u8 c] w fun e w' => e = .returned (.bool (kind c)) ∧ w = w' := by
  unfold kind
  by_cases h1 : c = 1 <;> by_cases h2 : c = 2 <;>
  · go_enter Try.func79, Try.ntmps79
    go_wp2
    go_ret
    exact ⟨by simp [h1, h2], rfl⟩
theorem fit_any (k x : Int) (a : Option Addr) (l c : Nat) (w : World) : Calls Try.prog 53 #[.agg #[.int .u8 k, .slice a l c], .int .i64 x] w fun e w' => e = .returned (.bool (fit k x)) ∧ Below w.heap.size w w' := by
  unfold fit
  by_cases h1 : k = 2
  · subst h1
    by_cases h2 : x = 0
    · subst h2
      go_enter Try.func53, Try.ntmps53
      go_wp2
      go_ret
      exact ⟨by simp, by (repeat (first | exact Below.refl _ _ | assumption | refine Below.drew ?_ | refine Below.alloc ?_ (by first | omega | (simp; done) | (simp; omega)) _ | refine Below.setCell ?_ (by first | omega | (simp; done) | (simp; omega)) _))⟩
    · by_cases h3 : x = 1
      · subst h3
        go_enter Try.func53, Try.ntmps53
        go_wp2
        go_ret
        exact ⟨by simp, by (repeat (first | exact Below.refl _ _ | assumption | refine Below.drew ?_ | refine Below.alloc ?_ (by first | omega | (simp; done) | (simp; omega)) _ | refine Below.setCell ?_ (by first | omega | (simp; done) | (simp; omega)) _))⟩
      · go_enter Try.func53, Try.ntmps53
        go_wp2
        go_ret
        exact ⟨by simp [h2, h3], by (repeat (first | exact Below.refl _ _ | assumption | refine Below.drew ?_ | refine Below.alloc ?_ (by first | omega | (simp; done) | (simp; omega)) _ | refine Below.setCell ?_ (by first | omega | (simp; done) | (simp; omega)) _))⟩
  · have q1 : (k == 2) = false := by simpa using h1
    go_enter Try.func53, Try.ntmps53
    go_wp2
    go_ret
    exact ⟨by simp [h1], by (repeat (first | exact Below.refl _ _ | assumption | refine Below.drew ?_ | refine Below.alloc ?_ (by first | omega | (simp; done) | (simp; omega)) _ | refine Below.setCell ?_ (by first | omega | (simp; done) | (simp; omega)) _))⟩
theorem rfit_any (k x : Int) (w : World) : Calls Try.prog 89 #[.int .u8 k, .int .i64 x] w fun e w' => e = .returned (.bool (decide (k = 1) || decide (x = 0) || decide (x = 1))) ∧ w = w' := by
  by_cases h1 : k = 1 <;> by_cases h2 : x = 0 <;> by_cases h3 : x = 1 <;>
  · go_enter Try.func89, Try.ntmps89
    go_wp2
    go_ret
    exact ⟨by simp [h1, h2, h3], rfl⟩
theorem clone_nil (len cap : Nat) (w : World) : Calls Try.prog 51 #[.slice none len cap] w fun e w' => e = .returned (.slice none 0 0) ∧ w = w' := by
  have q22 : ∀ (w : World) (a : Option Addr) (n c n' c' : Nat), (binOp .eql 60 (.slice a n c) (.slice none n' c')).run Try.prog w = .ok (.bool a.isNone) w := fun w a n c n' c' => Lib.run_eql_slice_nil w _ _ a n c n' c' Try.underlying60
  go_enter Try.func51, Try.ntmps51
  go_wp2
  go_ret
  exact ⟨rfl, rfl⟩
theorem list_nil (s : ByteArray) (d : Int) (w : World) : Calls Try.prog 26 #[.pointer none, ke s d] w fun e w' => e = .returned (.slice none 0 0) ∧ Below w.heap.size w w' := by
  have C := hidI (find_nil s d)
  go_enter Try.func26, Try.ntmps26
  go_wp2_with (go_at_call 60; refine Calls.mono (C.out _) ?_; rintro e w1 ⟨rfl, hb1⟩; refine Hid.out ?_)
  refine hidI ?_
  have hsz := hb1.size
  simp only [World.size_alloc] at hsz
  have HB : Hid (Below w.heap.size w w1) := hidI (Below.trans (by (repeat (first | exact Below.refl _ _ | assumption | refine Below.drew ?_ | refine Below.alloc ?_ (by first | omega | (simp; done) | (simp; omega)) _ | refine Below.setCell ?_ (by first | omega | (simp; done) | (simp; omega)) _))) (hb1.mono (by simp)))
  have D := hidI (clone_nil 0 0)
  clear hb1 C
  go_wp2_with (go_at_call 51; refine Calls.mono (D.out _) ?_; rintro e w' ⟨rfl, rfl⟩)
  go_ret
  exact ⟨rfl, by have := HB.out; (repeat (first | exact Below.refl _ _ | assumption | refine Below.drew ?_ | refine Below.alloc ?_ (by first | omega | (simp; done) | (simp; omega)) _ | refine Below.setCell ?_ (by first | omega | (simp; done) | (simp; omega)) _))⟩
/-- May so many nodes and edges be? -/
def mayT (n m : Int) : Prop := 1 ≤ n ∧ n ≤ 12 ∧ 0 ≤ m ∧ m ≤ 30
theorem rnew_nil (n m : Int) (w : World) (h : ¬ mayT n m) : Calls Try.prog 41 #[.int .i64 n, .int .i64 m] w fun e w' => e = .returned (.pointer none) ∧ w = w' := by
  unfold mayT at h
  by_cases h1 : n < 1 <;> by_cases h2 : 12 < n <;> by_cases h3 : m < 0 <;> by_cases h4 : 30 < m <;> first | omega | skip
  all_goals
    go_enter Try.func41, Try.ntmps41
    go_wp2
    go_ret
    exact ⟨rfl, rfl⟩
theorem cnew_nil (n m : Int) (w : World) (h : ¬ mayT n m) : Calls Try.prog 40 #[.int .i64 n, .int .i64 m] w fun e w' => e = .returned (.pointer none) ∧ w = w' := by
  unfold mayT at h
  by_cases h1 : n < 1 <;> by_cases h2 : 12 < n <;> by_cases h3 : m < 0 <;> by_cases h4 : 30 < m <;> first | omega | skip
  all_goals
    go_enter Try.func40, Try.ntmps40
    go_wp2
    go_ret
    exact ⟨rfl, rfl⟩
theorem rnew_ok (n m : Int) (w : World) (h : mayT n m) : Calls Try.prog 41 #[.int .i64 n, .int .i64 m] w fun e w' => e = .returned (.pointer (some ⟨w.heap.size, 0, none⟩)) ∧ w' = w.alloc (.cells #[.int .i64 n, .int .i64 m, .slice none 0 0] 100) := by
  obtain ⟨h1, h2, h3, h4⟩ := h
  go_enter Try.func41, Try.ntmps41
  go_wp2
  go_ret
  exact ⟨rfl, rfl⟩
theorem cnew_ok (n m : Int) (w : World) (h : mayT n m) : Calls Try.prog 40 #[.int .i64 n, .int .i64 m] w fun e w' => e = .returned (.pointer (some ⟨w.heap.size + 1, 0, none⟩)) ∧ w' = (w.alloc (.map #[] 0)).alloc (.cells #[.int .i64 n, .int .i64 m, .map (some w.heap.size)] 95) := by
  obtain ⟨h1, h2, h3, h4⟩ := h
  go_enter Try.func40, Try.ntmps40
  have hmm := @run_makeMap Try.prog
  go_wp2
  go_ret
  exact ⟨rfl, rfl⟩
end Go.Proofs.Ytbjoljokdjgbnab
/-
  What may be a name.
-/
namespace Go.Proofs.Ytbjoljokdjgbnab
open Go.RowKit Go.Deep
/-- A text's sign at a place, as a number. -/
def sign (s : ByteArray) (i : Nat) : Int := (s.data.getD i 0).toNat
/-- May a text be a name? -/
def isName (s : ByteArray) : Bool := decide (1 ≤ s.size) && decide (s.size ≤ 8) && letter (sign s 0) && (List.range s.size).all fun i => letter (sign s i) || digit (sign s i)
theorem sign_at (s : ByteArray) (i : Nat) (h : i < s.size) (w : World) : (Instr.index 9 (.string s) (.int .i64 (i : Int))).run Try.prog w = .ok (.int .u8 (sign s i)) w := by
  rw [run_index_string w 9 s .i64 _ Try.underlying9, dif_pos ⟨by omega, by omega⟩]
  congr 2
  unfold sign
  have h' : i < s.data.size := h
  simp only [Int.toNat_natCast]
  rw [Array.getD_eq_getD_getElem?, Array.getElem?_eq_getElem h']
  rfl
set_option maxRecDepth 100000 in
set_option maxHeartbeats 2000000 in
theorem name_in (s : ByteArray) (w : World) (h1 : 1 ≤ s.size) (h8 : s.size ≤ 8) (hl : letter (sign s 0) = true) :
    Calls Try.prog 77 #[.string s] w fun e w' => e = .returned (.bool ((List.range s.size).all fun i => letter (sign s i) || digit (sign s i))) ∧ Below w.heap.size w w' := by
  have CL := hidI (letter_any)
  have CD := hidI (digit_any)
  obtain ⟨m, hm⟩ : ∃ m, s.size = m := ⟨_, rfl⟩
  have q0 : ∀ w, (Instr.index 9 (.string s) (.int .i64 0)).run Try.prog w = .ok (.int .u8 (sign s 0)) w := sign_at s 0 (by omega)
  have ql : ∀ w, (Builtin.len_ #[9] 3 #[.string s]).run Try.prog w = .ok (.int .i64 (m : Int)) w := fun w => by rw [run_len_string w 9 3 s Try.underlying9, hm]; rfl
  have QI := hidI (sign_at s)
  rw [hm] at QI h1 h8 ⊢
  have k1 : decide ((m : Int) < 1) = false := by simp; omega
  have k2 : decide (8 < (m : Int)) = false := by simp; omega
  obtain ⟨f, hf⟩ : ∃ f : Nat → Int, ∀ i, sign s i = f i := ⟨_, fun _ => rfl⟩
  rw [hf] at q0 hl
  simp only [hf] at QI ⊢
  go_enter Try.func77, Try.ntmps77
  go_wp2_with (go_at_call 91; refine Calls.mono (CL.out _ _) ?_; rintro e w' ⟨rfl, rfl⟩; rw [hl]; refine Hid.out ?_)
  refine hidI ?_
  clear q0
  go_wp2
  go_loopg [20] m (fun g s20 wx => ∃ i : Nat, i + g = m ∧ s20 = .int .i64 i ∧ (∀ j, j < i → (letter (f j) || digit (f j)) = true) ∧ w = wx)
  case atStart => exact ⟨0, by omega, rfl, by simp, rfl⟩
  case round =>
    obtain ⟨i, hig, rfl, hall, rfl⟩ := hrel
    cases gk with
    | zero =>
      have him : m = i := by omega
      subst him
      go_wp2
      go_ret
      refine ⟨?_, Below.refl _ _⟩
      have : (List.range m).all (fun i => letter (f i) || digit (f i)) = true := by rw [List.all_eq_true]; intro j hj; exact hall j (List.mem_range.1 hj)
      rw [this]; rfl
    | succ g =>
      have him : i < m := by omega
      have k3 : (i : Int) < (m : Int) := by omega
      have q1 : ∀ w, (Instr.index 9 (.string s) (.int .i64 (i : Int))).run Try.prog w = .ok (.int .u8 (f i)) w := QI.out i him
      have A := hidI hall
      clear hall
      obtain ⟨c, hc⟩ : ∃ c, f i = c := ⟨_, rfl⟩
      rw [hc] at q1
      cases hL : letter c with
      | true =>
        go_wp2_with (go_at_call 91; refine Calls.mono (CL.out _ _) ?_; rintro e w' ⟨rfl, rfl⟩; rw [hL])
        go_roundg g
        case measure => omega
        case rel =>
          refine ⟨i + 1, by omega, by go_num, fun j hj => ?_, rfl⟩
          rcases Nat.lt_succ_iff_lt_or_eq.1 hj with h | rfl
          · exact A.out j h
          · rw [hc, hL]; rfl
      | false =>
        cases hD : digit c with
        | true =>
          go_wp2_with (first | (go_at_call 91; refine Calls.mono (CL.out _ _) ?_; rintro e w' ⟨rfl, rfl⟩; rw [hL]) | (go_at_call 92; refine Calls.mono (CD.out _ _) ?_; rintro e w' ⟨rfl, rfl⟩; rw [hD]))
          go_roundg g
          case measure => omega
          case rel =>
            refine ⟨i + 1, by omega, by go_num, fun j hj => ?_, rfl⟩
            rcases Nat.lt_succ_iff_lt_or_eq.1 hj with h | rfl
            · exact A.out j h
            · rw [hc, hD]; simp
        | false =>
          go_wp2_with (first | (go_at_call 91; refine Calls.mono (CL.out _ _) ?_; rintro e w' ⟨rfl, rfl⟩; rw [hL]) | (go_at_call 92; refine Calls.mono (CD.out _ _) ?_; rintro e w' ⟨rfl, rfl⟩; rw [hD]))
          go_ret
          refine ⟨?_, Below.refl _ _⟩
          have : (List.range m).all (fun i => letter (f i) || digit (f i)) = false := by
            rw [List.all_eq_false]
            exact ⟨i, List.mem_range.2 him, by rw [hc, hL, hD]; simp⟩
          rw [this]; rfl
set_option maxRecDepth 100000 in
set_option maxHeartbeats 2000000 in
theorem name_out (s : ByteArray) (w : World) (h : s.size < 1 ∨ 8 < s.size) : Calls Try.prog 77 #[.string s] w fun e w' => e = .returned (.bool false) ∧ Below w.heap.size w w' := by
  obtain ⟨m, hm⟩ : ∃ m, s.size = m := ⟨_, rfl⟩
  have ql : ∀ w, (Builtin.len_ #[9] 3 #[.string s]).run Try.prog w = .ok (.int .i64 (m : Int)) w := fun w => by rw [run_len_string w 9 3 s Try.underlying9, hm]; rfl
  rw [hm] at h
  clear hm
  rcases h with h | h
  · have k1 : decide ((m : Int) < 1) = true := by simp; omega
    go_enter Try.func77, Try.ntmps77
    go_wp2
    go_ret
    exact ⟨rfl, Below.refl _ _⟩
  · have k1 : decide ((m : Int) < 1) = false := by simp; omega
    have k2 : decide (8 < (m : Int)) = true := by simp; omega
    go_enter Try.func77, Try.ntmps77
    go_wp2
    go_ret
    exact ⟨rfl, Below.refl _ _⟩
set_option maxRecDepth 100000 in
set_option maxHeartbeats 2000000 in
theorem name_first (s : ByteArray) (w : World) (h1 : 1 ≤ s.size) (h8 : s.size ≤ 8) (hl : letter (sign s 0) = false) : Calls Try.prog 77 #[.string s] w fun e w' => e = .returned (.bool false) ∧ Below w.heap.size w w' := by
  have CL := hidI (letter_any)
  obtain ⟨m, hm⟩ : ∃ m, s.size = m := ⟨_, rfl⟩
  have q0 : ∀ w, (Instr.index 9 (.string s) (.int .i64 0)).run Try.prog w = .ok (.int .u8 (sign s 0)) w := sign_at s 0 (by omega)
  have ql : ∀ w, (Builtin.len_ #[9] 3 #[.string s]).run Try.prog w = .ok (.int .i64 (m : Int)) w := fun w => by rw [run_len_string w 9 3 s Try.underlying9, hm]; rfl
  rw [hm] at h1 h8
  clear hm
  have k1 : decide ((m : Int) < 1) = false := by simp; omega
  have k2 : decide (8 < (m : Int)) = false := by simp; omega
  obtain ⟨c, hc⟩ : ∃ c, sign s 0 = c := ⟨_, rfl⟩
  rw [hc] at q0 hl
  clear hc
  go_enter Try.func77, Try.ntmps77
  go_wp2_with (go_at_call 91; refine Calls.mono (CL.out _ _) ?_; rintro e w' ⟨rfl, rfl⟩; rw [hl])
  go_ret
  exact ⟨rfl, Below.refl _ _⟩
theorem name_any (s : ByteArray) (w : World) : Calls Try.prog 77 #[.string s] w fun e w' => e = .returned (.bool (isName s)) ∧ Below w.heap.size w w' := by
  unfold isName
  by_cases h : s.size < 1 ∨ 8 < s.size
  · have : (decide (1 ≤ s.size) && decide (s.size ≤ 8)) = false := by
      rcases h with h | h
      · rw [decide_eq_false (by omega : ¬ 1 ≤ s.size)]; rfl
      · rw [decide_eq_false (by omega : ¬ s.size ≤ 8)]; simp
    rw [this]
    simpa using name_out s w h
  · have e1 : decide (1 ≤ s.size) = true := decide_eq_true (by omega)
    have e2 : decide (s.size ≤ 8) = true := decide_eq_true (by omega)
    rw [e1, e2]
    cases hl : letter (sign s 0) with
    | true => simpa using name_in s w (by omega) (by omega) hl
    | false => simpa using name_first s w (by omega) (by omega) hl
end Go.Proofs.Ytbjoljokdjgbnab
/-
  Keys of columns, as a map has them; and a column looked up.
-/
namespace Go.Proofs.Ytbjoljokdjgbnab
open Go.RowKit Go.MapKept
open Go.ChangeMaps (setBlock heap_setBlock_same heap_setBlock_other)
theorem law40 : WideMaps.KeyLaw Try.prog 40 := deep_law_laid laidOutB34 (m := 2) (by decide) (of_decide_eq_true (by kernel_rfl)) (by kernel_rfl) (by kernel_rfl)
abbrev Wf8 (a : Int) : Prop := (Lit.int .u8 a).wf = true
theorem ke_inj {s s' : ByteArray} {d d' : Int} (h : ke s d = ke s' d') : s = s' ∧ d = d' := by simpa [ke] using h
theorem keyOf_ke {s : ByteArray} {d : Int} (hs : s.size ≤ maxLen) (hd : Wf8 d) : ∃ kl, keyOf Try.prog 40 (ke s d) = some kl := by
  have hu := Try.underlying40
  have hk : Try.prog.keyType 40 = true := by kernel_rfl
  obtain ⟨m, hm⟩ : ∃ m, Try.prog.types.size + 1 = m + 2 := ⟨Try.prog.types.size - 1, by have : 1 ≤ Try.prog.types.size := (by kernel_rfl : decide (1 ≤ Try.prog.types.size) = true) |> of_decide_eq_true; omega⟩
  have hc9 : Try.prog.cellsOf 9 = 1 := by kernel_rfl
  have hc31 : Try.prog.cellsOf 38 = 1 := by kernel_rfl
  have hc33 : Try.prog.cellsOf 40 = 2 := by kernel_rfl
  unfold keyOf ke
  simp only [hu]
  rw [if_pos (by simp [hk, Value.formed, hu, hc33]), hm]
  unfold Program.keyLits
  simp only [hu, Value.cells]
  rw [if_pos (by simp [hc33])]
  simp [hc9, hc31, Program.keyLits, Try.underlying9, Try.underlying38, hd, hs]
/-- What a map of columns tells at a key, wherever the map is as it was. -/
def Look (w : World) (mb : Nat) (s : ByteArray) (d : Int) (c : Value) (there : Bool) : Prop :=
  ∀ u : World, u.heap[mb]? = w.heap[mb]? → (Instr.lookup 93 (.map (some mb)) (ke s d) true).run Try.prog u = .ok (.tuple #[c, .bool there]) u
set_option maxRecDepth 100000 in
set_option maxHeartbeats 2000000 in
theorem find_some (tb mb : Nat) (s : ByteArray) (d : Int) (k : Int) (a : Option Addr) (l c : Nat) (w : World) (c2 : w.cell? ⟨tb, 2, none⟩ = some (.map (some mb))) (hm : mb < w.heap.size) (hk : Look w mb s d (.agg #[.int .u8 k, .slice a l c]) true) :
    Calls Try.prog 60 #[.pointer (some ⟨tb, 0, none⟩), ke s d] w fun e w' => e = .returned (.tuple #[.agg #[.int .u8 k, .slice a l c], .int .i64 0]) ∧ Below w.heap.size w w' := by
  have htb := World.block_lt_of_cell? w _ c2
  simp only at htb
  have L0 : ∀ u : World, Below w.heap.size w u → (Instr.lookup 93 (.map (some mb)) (ke s d) true).run Try.prog u = .ok (.tuple #[.agg #[.int .u8 k, .slice a l c], .bool true]) u := fun u hu => hk u (hu.block mb hm)
  have C0 : ∀ u : World, Below w.heap.size w u → u.cell? ⟨tb, 2, none⟩ = some (.map (some mb)) := fun u hu => (hu.cell (p := ⟨tb, 2, none⟩) htb).trans c2
  have HL0 := hidI L0
  have HC0 := hidI C0
  clear hk c2 L0 C0
  go_enter Try.func60, Try.ntmps60
  go_wp2
  go_region_held3 (fun w' => Hid (Below w.heap.size w w') ∧ w'.cell? ⟨tb, 2, none⟩ = some (.map (some mb)) ∧ w'.cell? ⟨w.heap.size, 0, none⟩ = some (.string s) ∧ w'.cell? ⟨w.heap.size, 1, none⟩ = some (.int .u8 d) ∧ (Instr.lookup 93 (.map (some mb)) (ke s d) true).run Try.prog w' = .ok (.tuple #[.agg #[.int .u8 k, .slice a l c], .bool true]) w')
    (exact ⟨hidI (by (repeat (first | exact Below.refl _ _ | assumption | refine Below.drew ?_ | refine Below.alloc ?_ (by first | omega | (simp; done) | (simp; omega)) _ | refine Below.setCell ?_ (by first | omega | (simp; done) | (simp; omega)) _))), HC0.out _ (by (repeat (first | exact Below.refl _ _ | assumption | refine Below.drew ?_ | refine Below.alloc ?_ (by first | omega | (simp; done) | (simp; omega)) _ | refine Below.setCell ?_ (by first | omega | (simp; done) | (simp; omega)) _))), by go_keep, by go_keep, HL0.out _ (by (repeat (first | exact Below.refl _ _ | assumption | refine Below.drew ?_ | refine Below.alloc ?_ (by first | omega | (simp; done) | (simp; omega)) _ | refine Below.setCell ?_ (by first | omega | (simp; done) | (simp; omega)) _)))⟩)
    (fail)
  all_goals
    go_wp2
    (try simp only [Exit.inBlock, Exit.then])
    refine bodyPost_ret (v := .tuple #[.agg #[.int .u8 k, .slice a l c], .int .i64 0]) ?_ rfl ⟨rfl, ?_⟩
    · rw [results_cell_tmp rfl]
      go_simp
    · (repeat (first | exact Below.refl _ _ | assumption | refine Below.drew ?_ | refine Below.alloc ?_ (by first | omega | (simp; done) | (simp; omega)) _ | refine Below.setCell ?_ (by first | omega | (simp; done) | (simp; omega)) _))
set_option maxRecDepth 100000 in
set_option maxHeartbeats 2000000 in
theorem find_none (tb mb : Nat) (s : ByteArray) (d : Int) (w : World) (c2 : w.cell? ⟨tb, 2, none⟩ = some (.map (some mb))) (hm : mb < w.heap.size) (hk : Look w mb s d (.agg #[.int .u8 0, .slice none 0 0]) false) :
    Calls Try.prog 60 #[.pointer (some ⟨tb, 0, none⟩), ke s d] w fun e w' => e = .returned (.tuple #[.agg #[.int .u8 0, .slice none 0 0], .int .i64 5]) ∧ Below w.heap.size w w' := by
  have htb := World.block_lt_of_cell? w _ c2
  simp only at htb
  have L0 : ∀ u : World, Below w.heap.size w u → (Instr.lookup 93 (.map (some mb)) (ke s d) true).run Try.prog u = .ok (.tuple #[.agg #[.int .u8 0, .slice none 0 0], .bool false]) u := fun u hu => hk u (hu.block mb hm)
  have C0 : ∀ u : World, Below w.heap.size w u → u.cell? ⟨tb, 2, none⟩ = some (.map (some mb)) := fun u hu => (hu.cell (p := ⟨tb, 2, none⟩) htb).trans c2
  have HL0 := hidI L0
  have HC0 := hidI C0
  clear hk c2 L0 C0
  go_enter Try.func60, Try.ntmps60
  go_wp2
  go_region_held3 (fun w' => Hid (Below w.heap.size w w') ∧ w'.cell? ⟨tb, 2, none⟩ = some (.map (some mb)) ∧ w'.cell? ⟨w.heap.size, 0, none⟩ = some (.string s) ∧ w'.cell? ⟨w.heap.size, 1, none⟩ = some (.int .u8 d) ∧ (Instr.lookup 93 (.map (some mb)) (ke s d) true).run Try.prog w' = .ok (.tuple #[.agg #[.int .u8 0, .slice none 0 0], .bool false]) w')
    (exact ⟨hidI (by (repeat (first | exact Below.refl _ _ | assumption | refine Below.drew ?_ | refine Below.alloc ?_ (by first | omega | (simp; done) | (simp; omega)) _ | refine Below.setCell ?_ (by first | omega | (simp; done) | (simp; omega)) _))), HC0.out _ (by (repeat (first | exact Below.refl _ _ | assumption | refine Below.drew ?_ | refine Below.alloc ?_ (by first | omega | (simp; done) | (simp; omega)) _ | refine Below.setCell ?_ (by first | omega | (simp; done) | (simp; omega)) _))), by go_keep, by go_keep, HL0.out _ (by (repeat (first | exact Below.refl _ _ | assumption | refine Below.drew ?_ | refine Below.alloc ?_ (by first | omega | (simp; done) | (simp; omega)) _ | refine Below.setCell ?_ (by first | omega | (simp; done) | (simp; omega)) _)))⟩)
    (fail)
  all_goals
    go_wp2
    (try simp only [Exit.inBlock, Exit.then])
    refine bodyPost_ret (v := .tuple #[.agg #[.int .u8 0, .slice none 0 0], .int .i64 5]) ?_ rfl ⟨rfl, ?_⟩
    · rw [results_cell_tmp rfl]
      go_simp
    · (repeat (first | exact Below.refl _ _ | assumption | refine Below.drew ?_ | refine Below.alloc ?_ (by first | omega | (simp; done) | (simp; omega)) _ | refine Below.setCell ?_ (by first | omega | (simp; done) | (simp; omega)) _))
/-- place finds the column, and the place in it. -/
theorem place_some (tb mb : Nat) (s : ByteArray) (d : Int) (k : Int) (a : Option Addr) (l c : Nat) (i : Nat) (w : World) (c2 : w.cell? ⟨tb, 2, none⟩ = some (.map (some mb))) (hm : mb < w.heap.size) (hk : Look w mb s d (.agg #[.int .u8 k, .slice a l c]) true) (hi : i < l) :
    Calls Try.prog 52 #[.pointer (some ⟨tb, 0, none⟩), ke s d, .int .i64 (i : Int)] w fun e w' => e = .returned (.tuple #[.agg #[.int .u8 k, .slice a l c], .int .i64 0]) ∧ Below w.heap.size w w' := by
  have htb := World.block_lt_of_cell? w _ c2
  simp only at htb
  have C : Hid (∀ u, Below w.heap.size w u → Calls Try.prog 60 #[.pointer (some ⟨tb, 0, none⟩), ke s d] u fun e w' => e = .returned (.tuple #[.agg #[.int .u8 k, .slice a l c], .int .i64 0]) ∧ Below u.heap.size u w') :=
    hidI fun u hu => find_some tb mb s d k a l c u ((hu.cell (p := ⟨tb, 2, none⟩) htb).trans c2) (Nat.lt_of_lt_of_le hm hu.size) fun v hv => hk v (hv.trans (hu.block mb hm))
  clear hk c2
  go_enter Try.func52, Try.ntmps52
  go_wp2_with (go_at_call 60; refine Calls.mono (C.out _ (by (repeat (first | exact Below.refl _ _ | assumption | refine Below.drew ?_ | refine Below.alloc ?_ (by first | omega | (simp; done) | (simp; omega)) _ | refine Below.setCell ?_ (by first | omega | (simp; done) | (simp; omega)) _)))) ?_; rintro e w1 ⟨rfl, hb1⟩; refine Hid.out ?_)
  refine hidI ?_
  have hsz := hb1.size
  simp only [World.size_alloc] at hsz
  have Z : Below (w.heap.size + 2) ((w.alloc (.cells #[.string s, .int .u8 d] 40)).alloc (.cells #[.int .u8 0, .slice none 0 0] 97)) (w1.alloc (.cells #[.int .u8 k, .slice a l c] 97)) := (hb1.mono (by simp)).alloc (by omega) _
  have d0 : (w1.alloc (.cells #[.int .u8 k, .slice a l c] 97)).cell? ⟨w.heap.size + 1, 0, none⟩ = some (.int .u8 0) := by
    refine (Z.cell (p := ⟨w.heap.size + 1, 0, none⟩) (by simp)).trans ?_
    go_simp
  have d1 : (w1.alloc (.cells #[.int .u8 k, .slice a l c] 97)).cell? ⟨w.heap.size + 1, 1, none⟩ = some (.slice none 0 0) := by
    refine (Z.cell (p := ⟨w.heap.size + 1, 1, none⟩) (by simp)).trans ?_
    go_simp
  have f0 : (w1.alloc (.cells #[.int .u8 k, .slice a l c] 97)).frozen? ⟨w.heap.size + 1, 0, none⟩ = false := by
    refine (Z.frozen (p := ⟨w.heap.size + 1, 0, none⟩) (by simp)).trans ?_
    go_simp
  have f1 : (w1.alloc (.cells #[.int .u8 k, .slice a l c] 97)).frozen? ⟨w.heap.size + 1, 1, none⟩ = false := by
    refine (Z.frozen (p := ⟨w.heap.size + 1, 1, none⟩) (by simp)).trans ?_
    go_simp
  have bel : Below w.heap.size w w1 := Below.trans (by (repeat (first | exact Below.refl _ _ | assumption | refine Below.drew ?_ | refine Below.alloc ?_ (by first | omega | (simp; done) | (simp; omega)) _ | refine Below.setCell ?_ (by first | omega | (simp; done) | (simp; omega)) _))) (hb1.mono (by simp; omega))
  have HB := hidI bel
  have k1 : decide ((i : Int) < 0) = false := by simp
  have k2 : decide ((l : Int) ≤ (i : Int)) = false := by simp; omega
  clear hb1 C bel Z
  go_wp2
  (try simp only [Exit.inBlock, Exit.then])
  refine bodyPost_ret (v := .tuple #[.agg #[.int .u8 k, .slice a l c], .int .i64 0]) ?_ rfl ⟨rfl, ?_⟩
  · rw [results_cell_tmp rfl]
    go_simp
  · refine Below.setCell (Below.setCell (HB.out.alloc (by omega) _) ?_ _) ?_ _ <;> simp
end Go.Proofs.Ytbjoljokdjgbnab
/-
  Columns: a value read, and set; a column's kind.
-/
namespace Go.Proofs.Ytbjoljokdjgbnab
open Go.RowKit Go.MapKept
theorem kindOf_some (tb mb : Nat) (s : ByteArray) (d : Int) (k : Int) (a : Option Addr) (l c : Nat) (w : World) (c2 : w.cell? ⟨tb, 2, none⟩ = some (.map (some mb))) (hm : mb < w.heap.size) (hk : Look w mb s d (.agg #[.int .u8 k, .slice a l c]) true) :
    Calls Try.prog 28 #[.pointer (some ⟨tb, 0, none⟩), ke s d] w fun e w' => e = .returned (.int .u8 k) ∧ Below w.heap.size w w' := by
  have htb := World.block_lt_of_cell? w _ c2
  simp only at htb
  have C : Hid (∀ u, Below w.heap.size w u → Calls Try.prog 60 #[.pointer (some ⟨tb, 0, none⟩), ke s d] u fun e w' => e = .returned (.tuple #[.agg #[.int .u8 k, .slice a l c], .int .i64 0]) ∧ Below u.heap.size u w') :=
    hidI fun u hu => find_some tb mb s d k a l c u ((hu.cell (p := ⟨tb, 2, none⟩) htb).trans c2) (Nat.lt_of_lt_of_le hm hu.size) fun v hv => hk v (hv.trans (hu.block mb hm))
  clear hk c2
  go_enter Try.func28, Try.ntmps28
  go_wp2_with (go_at_call 60; refine Calls.mono (C.out _ (by (repeat (first | exact Below.refl _ _ | assumption | refine Below.drew ?_ | refine Below.alloc ?_ (by first | omega | (simp; done) | (simp; omega)) _ | refine Below.setCell ?_ (by first | omega | (simp; done) | (simp; omega)) _)))) ?_; rintro e w1 ⟨rfl, hb1⟩; refine Hid.out ?_)
  refine hidI ?_
  have hsz := hb1.size
  simp only [World.size_alloc] at hsz
  have HB : Hid (Below w.heap.size w w1) := hidI (Below.trans (by (repeat (first | exact Below.refl _ _ | assumption | refine Below.drew ?_ | refine Below.alloc ?_ (by first | omega | (simp; done) | (simp; omega)) _ | refine Below.setCell ?_ (by first | omega | (simp; done) | (simp; omega)) _))) (hb1.mono (by simp)))
  clear hb1 C
  go_wp2
  go_ret
  exact ⟨rfl, by have := HB.out; (repeat (first | exact Below.refl _ _ | assumption | refine Below.drew ?_ | refine Below.alloc ?_ (by first | omega | (simp; done) | (simp; omega)) _ | refine Below.setCell ?_ (by first | omega | (simp; done) | (simp; omega)) _))⟩
theorem kindOf_none (tb mb : Nat) (s : ByteArray) (d : Int) (w : World) (c2 : w.cell? ⟨tb, 2, none⟩ = some (.map (some mb))) (hm : mb < w.heap.size) (hk : Look w mb s d (.agg #[.int .u8 0, .slice none 0 0]) false) :
    Calls Try.prog 28 #[.pointer (some ⟨tb, 0, none⟩), ke s d] w fun e w' => e = .returned (.int .u8 0) ∧ Below w.heap.size w w' := by
  have htb := World.block_lt_of_cell? w _ c2
  simp only at htb
  have C : Hid (∀ u, Below w.heap.size w u → Calls Try.prog 60 #[.pointer (some ⟨tb, 0, none⟩), ke s d] u fun e w' => e = .returned (.tuple #[.agg #[.int .u8 0, .slice none 0 0], .int .i64 5]) ∧ Below u.heap.size u w') :=
    hidI fun u hu => find_none tb mb s d u ((hu.cell (p := ⟨tb, 2, none⟩) htb).trans c2) (Nat.lt_of_lt_of_le hm hu.size) fun v hv => hk v (hv.trans (hu.block mb hm))
  clear hk c2
  go_enter Try.func28, Try.ntmps28
  go_wp2_with (go_at_call 60; refine Calls.mono (C.out _ (by (repeat (first | exact Below.refl _ _ | assumption | refine Below.drew ?_ | refine Below.alloc ?_ (by first | omega | (simp; done) | (simp; omega)) _ | refine Below.setCell ?_ (by first | omega | (simp; done) | (simp; omega)) _)))) ?_; rintro e w1 ⟨rfl, hb1⟩; refine Hid.out ?_)
  refine hidI ?_
  have hsz := hb1.size
  simp only [World.size_alloc] at hsz
  have HB : Hid (Below w.heap.size w w1) := hidI (Below.trans (by (repeat (first | exact Below.refl _ _ | assumption | refine Below.drew ?_ | refine Below.alloc ?_ (by first | omega | (simp; done) | (simp; omega)) _ | refine Below.setCell ?_ (by first | omega | (simp; done) | (simp; omega)) _))) (hb1.mono (by simp)))
  clear hb1 C
  go_wp2
  go_ret
  exact ⟨rfl, by have := HB.out; (repeat (first | exact Below.refl _ _ | assumption | refine Below.drew ?_ | refine Below.alloc ?_ (by first | omega | (simp; done) | (simp; omega)) _ | refine Below.setCell ?_ (by first | omega | (simp; done) | (simp; omega)) _))⟩
theorem get_some (tb mb : Nat) (s : ByteArray) (d : Int) (k : Int) (b o : Nat) (l c : Nat) (i : Nat) (z : Int) (w : World) (c2 : w.cell? ⟨tb, 2, none⟩ = some (.map (some mb))) (hm : mb < w.heap.size) (hk : Look w mb s d (.agg #[.int .u8 k, .slice (some ⟨b, o, none⟩) l c]) true) (hi : i < l) (hz : w.cell? ⟨b, o + i, none⟩ = some (.int .i64 z)) :
    Calls Try.prog 23 #[.pointer (some ⟨tb, 0, none⟩), ke s d, .int .i64 (i : Int)] w fun e w' => e = .returned (.tuple #[.int .i64 z, .int .i64 0]) ∧ Below w.heap.size w w' := by
  have htb := World.block_lt_of_cell? w _ c2
  simp only at htb
  have hzb := World.block_lt_of_cell? w _ hz
  simp only at hzb
  have C : Hid (∀ u, Below w.heap.size w u → Calls Try.prog 52 #[.pointer (some ⟨tb, 0, none⟩), ke s d, .int .i64 (i : Int)] u fun e w' => e = .returned (.tuple #[.agg #[.int .u8 k, .slice (some ⟨b, o, none⟩) l c], .int .i64 0]) ∧ Below u.heap.size u w') :=
    hidI fun u hu => place_some tb mb s d k _ l c i u ((hu.cell (p := ⟨tb, 2, none⟩) htb).trans c2) (Nat.lt_of_lt_of_le hm hu.size) (fun v hv => hk v (hv.trans (hu.block mb hm))) hi
  have HZ : Hid (∀ u, Below w.heap.size w u → u.cell? ⟨b, o + i, none⟩ = some (.int .i64 z)) := hidI fun u hu => (hu.cell (p := ⟨b, o + i, none⟩) hzb).trans hz
  clear hk c2
  go_enter Try.func23, Try.ntmps23
  go_wp2_with (go_at_call 52; refine Calls.mono (C.out _ (by (repeat (first | exact Below.refl _ _ | assumption | refine Below.drew ?_ | refine Below.alloc ?_ (by first | omega | (simp; done) | (simp; omega)) _ | refine Below.setCell ?_ (by first | omega | (simp; done) | (simp; omega)) _)))) ?_; rintro e w1 ⟨rfl, hb1⟩; refine Hid.out ?_)
  refine hidI ?_
  have hsz := hb1.size
  simp only [World.size_alloc] at hsz
  have HB : Hid (Below w.heap.size w w1) := hidI (Below.trans (by (repeat (first | exact Below.refl _ _ | assumption | refine Below.drew ?_ | refine Below.alloc ?_ (by first | omega | (simp; done) | (simp; omega)) _ | refine Below.setCell ?_ (by first | omega | (simp; done) | (simp; omega)) _))) (hb1.mono (by simp)))
  have e1 := HZ.out (w1.alloc (.cells #[.int .u8 k, .slice (some ⟨b, o, none⟩) l c] 97)) (by have := HB.out; (repeat (first | exact Below.refl _ _ | assumption | refine Below.drew ?_ | refine Below.alloc ?_ (by first | omega | (simp; done) | (simp; omega)) _ | refine Below.setCell ?_ (by first | omega | (simp; done) | (simp; omega)) _)))
  have k1 : (i : Int) < (l : Int) := by omega
  clear hb1 C HZ
  go_wp2
  go_ret2
  exact ⟨rfl, by have := HB.out; (repeat (first | exact Below.refl _ _ | assumption | refine Below.drew ?_ | refine Below.alloc ?_ (by first | omega | (simp; done) | (simp; omega)) _ | refine Below.setCell ?_ (by first | omega | (simp; done) | (simp; omega)) _))⟩
end Go.Proofs.Ytbjoljokdjgbnab
/-
  Columns: a value set; how long a side's columns are.
-/
namespace Go.Proofs.Ytbjoljokdjgbnab
open Go.RowKit Go.MapKept
/-- How long a side's columns are. -/
def sideLen (n m s : Int) : Int := if s = 1 then 1 else if s = 2 then n else if s = 3 then m else 0
theorem len_any (tb : Nat) (n m s : Int) (w : World) (c0 : w.cell? ⟨tb, 0, none⟩ = some (.int .i64 n)) (c1 : w.cell? ⟨tb, 1, none⟩ = some (.int .i64 m)) :
    Calls Try.prog 27 #[.pointer (some ⟨tb, 0, none⟩), .int .u8 s] w fun e w' => e = .returned (.int .i64 (sideLen n m s)) ∧ w = w' := by
  unfold sideLen
  by_cases h1 : s = 1
  · subst h1
    go_enter Try.func27, Try.ntmps27
    go_wp2
    go_ret
    exact ⟨rfl, rfl⟩
  by_cases h2 : s = 2
  · subst h2
    go_enter Try.func27, Try.ntmps27
    go_wp2
    go_ret
    exact ⟨rfl, rfl⟩
  by_cases h3 : s = 3
  · subst h3
    go_enter Try.func27, Try.ntmps27
    go_wp2
    go_ret
    exact ⟨rfl, rfl⟩
  have q1 : (s == 1) = false := by simpa using h1
  have q2 : (s == 2) = false := by simpa using h2
  have q3 : (s == 3) = false := by simpa using h3
  go_enter Try.func27, Try.ntmps27
  go_wp2
  go_ret
  exact ⟨by simp, rfl⟩
theorem set_unfit (tb mb : Nat) (s : ByteArray) (d : Int) (k x : Int) (b o : Nat) (l c : Nat) (i : Nat) (w : World) (c2 : w.cell? ⟨tb, 2, none⟩ = some (.map (some mb))) (hm : mb < w.heap.size) (hk : Look w mb s d (.agg #[.int .u8 k, .slice (some ⟨b, o, none⟩) l c]) true) (hi : i < l) (hx : fit k x = false) :
    Calls Try.prog 22 #[.pointer (some ⟨tb, 0, none⟩), ke s d, .int .i64 (i : Int), .int .i64 x] w fun e w' => e = .returned (.int .i64 3) ∧ Below w.heap.size w w' := by
  have htb := World.block_lt_of_cell? w _ c2
  simp only at htb
  have C : Hid (∀ u, Below w.heap.size w u → Calls Try.prog 52 #[.pointer (some ⟨tb, 0, none⟩), ke s d, .int .i64 (i : Int)] u fun e w' => e = .returned (.tuple #[.agg #[.int .u8 k, .slice (some ⟨b, o, none⟩) l c], .int .i64 0]) ∧ Below u.heap.size u w') :=
    hidI fun u hu => place_some tb mb s d k _ l c i u ((hu.cell (p := ⟨tb, 2, none⟩) htb).trans c2) (Nat.lt_of_lt_of_le hm hu.size) (fun v hv => hk v (hv.trans (hu.block mb hm))) hi
  have F : Hid (∀ u, Calls Try.prog 53 #[.agg #[.int .u8 k, .slice (some ⟨b, o, none⟩) l c], .int .i64 x] u fun e w' => e = .returned (.bool false) ∧ Below u.heap.size u w') := hidI fun u => hx ▸ fit_any k x _ l c u
  clear hk c2
  go_enter Try.func22, Try.ntmps22
  go_wp2_with (go_at_call 52; refine Calls.mono (C.out _ (by (repeat (first | exact Below.refl _ _ | assumption | refine Below.drew ?_ | refine Below.alloc ?_ (by first | omega | (simp; done) | (simp; omega)) _ | refine Below.setCell ?_ (by first | omega | (simp; done) | (simp; omega)) _)))) ?_; rintro e w1 ⟨rfl, hb1⟩; refine Hid.out ?_)
  refine hidI ?_
  have hsz := hb1.size
  simp only [World.size_alloc] at hsz
  have HB : Hid (Below w.heap.size w w1) := hidI (Below.trans (by (repeat (first | exact Below.refl _ _ | assumption | refine Below.drew ?_ | refine Below.alloc ?_ (by first | omega | (simp; done) | (simp; omega)) _ | refine Below.setCell ?_ (by first | omega | (simp; done) | (simp; omega)) _))) (hb1.mono (by simp)))
  clear hb1 C
  go_wp2_with (go_at_call 53; refine Calls.mono (F.out _) ?_; rintro e w2 ⟨rfl, hb2⟩; refine Hid.out ?_)
  refine hidI ?_
  have HB2 : Hid (Below w.heap.size w w2) := hidI (Below.trans (by have := HB.out; (repeat (first | exact Below.refl _ _ | assumption | refine Below.drew ?_ | refine Below.alloc ?_ (by first | omega | (simp; done) | (simp; omega)) _ | refine Below.setCell ?_ (by first | omega | (simp; done) | (simp; omega)) _))) (hb2.mono (by simp; omega)))
  clear hb2 F HB
  go_wp2
  go_ret
  exact ⟨rfl, by have := HB2.out; (repeat (first | exact Below.refl _ _ | assumption | refine Below.drew ?_ | refine Below.alloc ?_ (by first | omega | (simp; done) | (simp; omega)) _ | refine Below.setCell ?_ (by first | omega | (simp; done) | (simp; omega)) _))⟩
theorem set_fit (tb mb : Nat) (s : ByteArray) (d : Int) (k x z : Int) (b o : Nat) (l c : Nat) (i : Nat) (w : World) (c2 : w.cell? ⟨tb, 2, none⟩ = some (.map (some mb))) (hm : mb < w.heap.size) (hk : Look w mb s d (.agg #[.int .u8 k, .slice (some ⟨b, o, none⟩) l c]) true) (hi : i < l) (hx : fit k x = true)
    (hz : w.cell? ⟨b, o + i, none⟩ = some (.int .i64 z)) (hf : w.frozen? ⟨b, o + i, none⟩ = false) :
    Calls Try.prog 22 #[.pointer (some ⟨tb, 0, none⟩), ke s d, .int .i64 (i : Int), .int .i64 x] w fun e w' => e = .returned (.int .i64 0) ∧ ∃ w1, Below w.heap.size w w1 ∧ w' = w1.setCell ⟨b, o + i, none⟩ (.int .i64 x) := by
  have htb := World.block_lt_of_cell? w _ c2
  simp only at htb
  have hzb := World.block_lt_of_cell? w _ hz
  simp only at hzb
  have C : Hid (∀ u, Below w.heap.size w u → Calls Try.prog 52 #[.pointer (some ⟨tb, 0, none⟩), ke s d, .int .i64 (i : Int)] u fun e w' => e = .returned (.tuple #[.agg #[.int .u8 k, .slice (some ⟨b, o, none⟩) l c], .int .i64 0]) ∧ Below u.heap.size u w') :=
    hidI fun u hu => place_some tb mb s d k _ l c i u ((hu.cell (p := ⟨tb, 2, none⟩) htb).trans c2) (Nat.lt_of_lt_of_le hm hu.size) (fun v hv => hk v (hv.trans (hu.block mb hm))) hi
  have F : Hid (∀ u, Calls Try.prog 53 #[.agg #[.int .u8 k, .slice (some ⟨b, o, none⟩) l c], .int .i64 x] u fun e w' => e = .returned (.bool true) ∧ Below u.heap.size u w') := hidI fun u => hx ▸ fit_any k x _ l c u
  have HZ : Hid (∀ u, Below w.heap.size w u → u.cell? ⟨b, o + i, none⟩ = some (.int .i64 z) ∧ u.frozen? ⟨b, o + i, none⟩ = false) := hidI fun u hu => ⟨(hu.cell (p := ⟨b, o + i, none⟩) hzb).trans hz, (hu.frozen (p := ⟨b, o + i, none⟩) hzb).trans hf⟩
  clear hk c2
  go_enter Try.func22, Try.ntmps22
  go_wp2_with (go_at_call 52; refine Calls.mono (C.out _ (by (repeat (first | exact Below.refl _ _ | assumption | refine Below.drew ?_ | refine Below.alloc ?_ (by first | omega | (simp; done) | (simp; omega)) _ | refine Below.setCell ?_ (by first | omega | (simp; done) | (simp; omega)) _)))) ?_; rintro e w1 ⟨rfl, hb1⟩; refine Hid.out ?_)
  refine hidI ?_
  have hsz := hb1.size
  simp only [World.size_alloc] at hsz
  have HB : Hid (Below w.heap.size w w1) := hidI (Below.trans (by (repeat (first | exact Below.refl _ _ | assumption | refine Below.drew ?_ | refine Below.alloc ?_ (by first | omega | (simp; done) | (simp; omega)) _ | refine Below.setCell ?_ (by first | omega | (simp; done) | (simp; omega)) _))) (hb1.mono (by simp)))
  clear hb1 C
  go_wp2_with (go_at_call 53; refine Calls.mono (F.out _) ?_; rintro e w2 ⟨rfl, hb2⟩; refine Hid.out ?_)
  refine hidI ?_
  have HB2 : Hid (Below w.heap.size w w2) := hidI (Below.trans (by have := HB.out; (repeat (first | exact Below.refl _ _ | assumption | refine Below.drew ?_ | refine Below.alloc ?_ (by first | omega | (simp; done) | (simp; omega)) _ | refine Below.setCell ?_ (by first | omega | (simp; done) | (simp; omega)) _))) (hb2.mono (by simp; omega)))
  have e1 := HZ.out w2 HB2.out
  have g0 : w2.cell? ⟨w1.heap.size, 0, none⟩ = some (.int .u8 k) := by
    refine (hb2.cell (p := ⟨w1.heap.size, 0, none⟩) (by simp)).trans ?_
    go_simp
  have g1 : w2.cell? ⟨w1.heap.size, 1, none⟩ = some (.slice (some ⟨b, o, none⟩) l c) := by
    refine (hb2.cell (p := ⟨w1.heap.size, 1, none⟩) (by simp)).trans ?_
    go_simp
  obtain ⟨e1, e2⟩ := e1
  have k1 : (i : Int) < (l : Int) := by omega
  clear hb2 F HB HZ
  go_wp2
  go_ret
  exact ⟨rfl, _, HB2.out, rfl⟩
end Go.Proofs.Ytbjoljokdjgbnab
/-
  A map of columns: a column looked up, and a new one stored.
-/
namespace Go.Proofs.Ytbjoljokdjgbnab
open Go.RowKit Go.MapKept
open Go.ChangeMaps (setBlock heap_setBlock_same heap_setBlock_other)
/-- Keys that a map of columns can have. -/
def Keyed (es : Array MapEntry) : Prop := ∀ e ∈ es.toList, ∃ l, keyOf Try.prog 40 e.key = some l
theorem look_none {w : World} {mb clock : Nat} {es : Array MapEntry} {s : ByteArray} {d : Int} (hb : w.heap[mb]? = some (.map es clock)) (hk : Keyed es) (hs : s.size ≤ maxLen) (hd : Wf8 d) (hne : ∀ e ∈ es.toList, e.key ≠ ke s d) : Look w mb s d (.agg #[.int .u8 0, .slice none 0 0]) false := by
  intro u hu
  rw [hb] at hu
  obtain ⟨kl, hkey⟩ := keyOf_ke hs hd
  have ht := Try.underlying93
  rcases law40.find u hkey es.toList hk with ⟨h1, _⟩ | ⟨j, e, h1, h2, h3⟩
  · simp [Instr.lookup, run_underlying ht, MapKept.run_getObj_map hu, law40.check u es.isEmpty hkey, h1, Result.andThen]
  · exact absurd h3 (hne e (List.mem_of_getElem? h2))
theorem look_some {w : World} {mb clock j : Nat} {es : Array MapEntry} {e0 : MapEntry} {s : ByteArray} {d : Int} (hb : w.heap[mb]? = some (.map es clock)) (hst : Stamped es clock) (hk : Keyed es) (hs : s.size ≤ maxLen) (hd : Wf8 d) (hj : es.toList[j]? = some e0) (he : e0.key = ke s d) : Look w mb s d e0.val true := by
  intro u hu
  rw [hb] at hu
  obtain ⟨kl, hkey⟩ := keyOf_ke hs hd
  have ht := Try.underlying93
  rcases law40.find u hkey es.toList hk with ⟨_, h2⟩ | ⟨j', e', h1, h2, h3⟩
  · exact absurd he (h2 e0 (List.mem_of_getElem? hj))
  · obtain rfl := nodup_at hst.2.2 h2 hj (h3.trans he.symm)
    rw [hj] at h2; cases h2
    simp [Instr.lookup, run_underlying ht, MapKept.run_getObj_map hu, law40.check u es.isEmpty hkey, h1, Result.andThen]
theorem store_new {w : World} {mb clock : Nat} {es : Array MapEntry} {s : ByteArray} {d : Int} (v : Value) (hb : w.heap[mb]? = some (.map es clock)) (hk : Keyed es) (hs : s.size ≤ maxLen) (hd : Wf8 d) (hne : ∀ e ∈ es.toList, e.key ≠ ke s d) :
    (Instr.mapUpdate 93 (.map (some mb)) (ke s d) v).run Try.prog w = .ok () (setBlock w mb (.map (es.push { key := ke s d, val := v, born := clock }) (clock + 1))) := by
  obtain ⟨kl, hkey⟩ := keyOf_ke hs hd
  have ht := Try.underlying93
  rcases law40.find w hkey es.toList hk with ⟨h1, _⟩ | ⟨j, e, h1, h2, h3⟩
  · simp [Instr.mapUpdate, run_underlying ht, MapKept.run_getObj_map hb, law40.check w false hkey, h1, MapKept.run_setObj_map _ hb, Result.andThen, setBlock]
  · exact absurd h3 (hne e (List.mem_of_getElem? h2))
theorem store_again {w : World} {mb clock : Nat} {es : Array MapEntry} {s : ByteArray} {d : Int} (v : Value) (hb : w.heap[mb]? = some (.map (es.push { key := ke s d, val := v, born := clock }) (clock + 1))) (hk : Keyed es) (hs : s.size ≤ maxLen) (hd : Wf8 d) (hne : ∀ e ∈ es.toList, e.key ≠ ke s d) :
    (Instr.mapUpdate 93 (.map (some mb)) (ke s d) v).run Try.prog w = .ok () (setBlock w mb (.map (es.push { key := ke s d, val := v, born := clock }) (clock + 1))) := by
  obtain ⟨kl, hkey⟩ := keyOf_ke hs hd
  have ht := Try.underlying93
  have hk2 : ∀ e ∈ (es.push { key := ke s d, val := v, born := clock }).toList, ∃ l, keyOf Try.prog 40 e.key = some l := by
    intro e he
    rw [Array.toList_push, List.mem_append, List.mem_singleton] at he
    rcases he with he | rfl
    · exact hk e he
    · exact ⟨kl, hkey⟩
  rcases law40.find w hkey _ hk2 with ⟨_, h2⟩ | ⟨j, e, h1, h2, h3⟩
  · exact absurd rfl (h2 { key := ke s d, val := v, born := clock } (by simp))
  · have he : e = { key := ke s d, val := v, born := clock } := by
      have := List.mem_of_getElem? h2
      rw [Array.toList_push, List.mem_append, List.mem_singleton] at this
      rcases this with h | h
      · exact absurd h3 (hne e h)
      · exact h
    subst he
    have hsame : ∀ f : MapEntry → MapEntry, f { key := ke s d, val := v, born := clock } = { key := ke s d, val := v, born := clock } → (es.push { key := ke s d, val := v, born := clock }).modify j f = es.push { key := ke s d, val := v, born := clock } := by
      intro f hf
      apply Array.ext'
      rw [Array.toList_modify, ChangeMaps.modify_eq_set _ _ _ _ h2, hf]
      exact WideElems.set_self _ _ _ h2
    have hj' : (es.push { key := ke s d, val := v, born := clock })[j]? = some { key := ke s d, val := v, born := clock } := by rw [← Array.getElem?_toList]; exact h2
    have hs2 := hsame (fun e => { key := ke s d, val := v, born := e.born }) rfl
    clear hk2 h2 h3 hsame
    obtain ⟨A, hA⟩ : ∃ A, es.push { key := ke s d, val := v, born := clock } = A := ⟨_, rfl⟩
    rw [hA] at hb h1 hj' hs2 ⊢
    simp [Instr.mapUpdate, run_underlying ht, MapKept.run_getObj_map hb, law40.check w false hkey, h1, hj', hs2, law40.stays w hkey, MapKept.run_setObj_map _ hb, Result.andThen, setBlock]
end Go.Proofs.Ytbjoljokdjgbnab
/-
  Columns: a column declared.
-/
namespace Go.Proofs.Ytbjoljokdjgbnab
open Go.RowKit Go.MapKept
open Go.ChangeMaps (setBlock)
theorem sb_cell {u : World} {b n i : Nat} {o : Obj} (h : n ≠ b) : (setBlock u b o).cell? ⟨n, i, none⟩ = u.cell? ⟨n, i, none⟩ := World.cell?_of_block (by simp [setBlock, Ne.symm h])
theorem sb_same {u : World} {b : Nat} {o : Obj} (h : b < u.heap.size) : (setBlock u b o).heap[b]? = some o := by simp [setBlock, h]
theorem make60 (c : Nat) (hc : c ≤ 1000) (W : World) : (Instr.makeSlice 60 (.int .i64 (c : Int)) (.int .i64 (c : Int))).run Try.prog W = .ok (.slice (some ⟨W.heap.size, 0, none⟩) c c) (W.alloc (.cells (madeCells #[.int .i64 0] c) 51)) := by
  obtain ⟨i0, hi, hz0, hz1, hz2⟩ := info_parts (show (Try.prog.info? 51).map (fun i => (i.zero, i.size, i.bytes)) = some (some (.int .i64 0), 1, 8) by kernel_rfl)
  have := run_make (P := Try.prog) W 60 51 i0 (.int .i64 0) Try.underlying60 hi hz0 .i64 .i64 (c : Int) (c : Int) (by omega) (by omega) (by rw [hz2]; omega) (by omega)
  rw [hz1] at this
  simp only [Int.toNat_natCast, Nat.mul_one] at this
  exact this
set_option maxRecDepth 100000 in
set_option maxHeartbeats 2000000 in
theorem declare_ok (tb mb : Nat) (n m : Int) (s : ByteArray) (d q : Int) (es : Array MapEntry) (clock : Nat) (w : World) (c0 : w.cell? ⟨tb, 0, none⟩ = some (.int .i64 n)) (c1 : w.cell? ⟨tb, 1, none⟩ = some (.int .i64 m)) (c2 : w.cell? ⟨tb, 2, none⟩ = some (.map (some mb)))
    (hb : w.heap[mb]? = some (.map es clock)) (hky : Keyed es) (hs : s.size ≤ maxLen) (hwd : Wf8 d) (hne : ∀ e ∈ es.toList, e.key ≠ ke s d) (L : Nat) (hL : sideLen n m d = L) (hL30 : L ≤ 30) (hn : isName s = true) (hd : side d = true) (hq : kind q = true) (h24 : es.size < 24) :
    Calls Try.prog 43 #[.pointer (some ⟨tb, 0, none⟩), ke s d, .int .u8 q] w fun e w' => e = .returned (.int .i64 0) ∧ ∃ w3 r, Below w.heap.size w w3 ∧ w.heap.size ≤ r ∧ w3.heap[r]? = some (.cells (madeCells #[.int .i64 0] L) 51) ∧ w' = setBlock w3 mb (.map (es.push { key := ke s d, val := .agg #[.int .u8 q, .slice (some ⟨r, 0, none⟩) L L], born := clock }) (clock + 1)) := by
  have hk := look_none hb hky hs hwd hne
  have htb := World.block_lt_of_cell? w _ c2
  simp only at htb
  have hm : mb < w.heap.size := (Array.getElem?_eq_some_iff.1 hb).1
  have CK : Hid (∀ u, Below w.heap.size w u → Calls Try.prog 28 #[.pointer (some ⟨tb, 0, none⟩), ke s d] u fun e w' => e = .returned (.int .u8 0) ∧ Below u.heap.size u w') :=
    hidI fun u hu => kindOf_none tb mb s d u ((hu.cell (p := ⟨tb, 2, none⟩) htb).trans c2) (Nat.lt_of_lt_of_le hm hu.size) fun v hv => hk v (hv.trans (hu.block mb hm))
  have CN : Hid (∀ u, Calls Try.prog 77 #[.string s] u fun e w' => e = .returned (.bool true) ∧ Below u.heap.size u w') := hidI fun u => hn ▸ name_any s u
  have CS : Hid (∀ u, Calls Try.prog 78 #[.int .u8 d] u fun e w' => e = .returned (.bool true) ∧ u = w') := hidI fun u => hd ▸ side_any d u
  have CQ : Hid (∀ u, Calls Try.prog 79 #[.int .u8 q] u fun e w' => e = .returned (.bool true) ∧ u = w') := hidI fun u => hq ▸ kind_any q u
  have hnt : tb ≠ mb := fun e => by
    subst e
    simp [World.cell?, hb] at c2
  have hnw : w.heap.size ≠ mb := by omega
  have CV : Hid (∀ u v, u.heap[mb]? = some (.map (es.push { key := ke s d, val := v, born := clock }) (clock + 1)) → (Instr.mapUpdate 93 (.map (some mb)) (ke s d) v).run Try.prog u = .ok () (setBlock u mb (.map (es.push { key := ke s d, val := v, born := clock }) (clock + 1)))) := hidI fun u v hu => store_again v hu hky hs hwd hne
  have CU : Hid (∀ u v, Below w.heap.size w u → (Instr.mapUpdate 93 (.map (some mb)) (ke s d) v).run Try.prog u = .ok () (setBlock u mb (.map (es.push { key := ke s d, val := v, born := clock }) (clock + 1)))) := hidI fun u v hu => store_new v ((hu.block mb hm).trans hb) hky hs hwd hne
  have CLn : Hid (∀ u, Below w.heap.size w u → Calls Try.prog 27 #[.pointer (some ⟨tb, 0, none⟩), .int .u8 d] u fun e w' => e = .returned (.int .i64 (L : Int)) ∧ u = w') := hidI fun u hu => hL ▸ len_any tb n m d u ((hu.cell (p := ⟨tb, 0, none⟩) htb).trans c0) ((hu.cell (p := ⟨tb, 1, none⟩) htb).trans c1)
  have CC : Hid (∀ u, Below w.heap.size w u → u.cell? ⟨tb, 2, none⟩ = some (.map (some mb))) := hidI fun u hu => (hu.cell (p := ⟨tb, 2, none⟩) htb).trans c2
  have hmk := make60 L (by omega)
  clear hk hky hne
  go_enter Try.func43, Try.ntmps43
  go_wp2_with (go_at_call 77; refine Calls.mono (CN.out _) ?_; rintro e w1 ⟨rfl, hb1⟩; refine Hid.out ?_)
  refine hidI ?_
  have B1 : Hid (Below w.heap.size w w1) := hidI (Below.trans (by (repeat (first | exact Below.refl _ _ | assumption | refine Below.drew ?_ | refine Below.alloc ?_ (by first | omega | (simp; done) | (simp; omega)) _ | refine Below.setCell ?_ (by first | omega | (simp; done) | (simp; omega)) _))) (hb1.mono (by simp)))
  have g0 : w1.cell? ⟨w.heap.size, 0, none⟩ = some (.string s) := by
    refine (hb1.cell (p := ⟨w.heap.size, 0, none⟩) (by simp)).trans ?_
    go_simp
  have g1 : w1.cell? ⟨w.heap.size, 1, none⟩ = some (.int .u8 d) := by
    refine (hb1.cell (p := ⟨w.heap.size, 1, none⟩) (by simp)).trans ?_
    go_simp
  have hsz := hb1.size
  simp only [World.size_alloc] at hsz
  clear hb1 CN
  go_wp2_with (first | (go_at_call 78; refine Calls.mono (CS.out _) ?_; rintro e w' ⟨rfl, rfl⟩) | (go_at_call 79; refine Calls.mono (CQ.out _) ?_; rintro e w' ⟨rfl, rfl⟩) | (go_at_call 28; refine Calls.mono (CK.out _ B1.out) ?_; rintro e w2 ⟨rfl, hb2⟩; refine Hid.out ?_))
  refine hidI ?_
  have B2 : Hid (Below w.heap.size w w2) := hidI (B1.out.trans (hb2.mono B1.out.size))
  have g2 : w2.cell? ⟨w.heap.size, 0, none⟩ = some (.string s) := (hb2.cell (p := ⟨w.heap.size, 0, none⟩) (by simp only; omega)).trans g0
  have g3 : w2.cell? ⟨w.heap.size, 1, none⟩ = some (.int .u8 d) := (hb2.cell (p := ⟨w.heap.size, 1, none⟩) (by simp only; omega)).trans g1
  have hsz2 := hb2.size
  have m0 := (B2.out.cell (p := ⟨tb, 0, none⟩) htb).trans c0
  have m1 := (B2.out.cell (p := ⟨tb, 1, none⟩) htb).trans c1
  have m2 := (B2.out.cell (p := ⟨tb, 2, none⟩) htb).trans c2
  have m3 := (B2.out.block mb hm).trans hb
  have k24 : decide (24 ≤ (es.size : Int)) = false := by simp; omega
  clear hb2 CK CS CQ g0 g1 c0 c1 c2 hb B1
  have ql : (Builtin.len_ #[93] 3 #[.map (some mb)]).run Try.prog w2 = .ok (.int .i64 (es.size : Int)) w2 := run_len_map w2 93 3 mb es clock Try.underlying93 m3
  go_wp2
  clear ql m0 m1 m2 m3
  go_region_held3 (fun w' => w'.cell? ⟨tb, 2, none⟩ = some (.map (some mb)) ∧ w'.cell? ⟨w.heap.size, 0, none⟩ = some (.string s) ∧ w'.cell? ⟨w.heap.size, 1, none⟩ = some (.int .u8 d) ∧ (Instr.mapUpdate 93 (.map (some mb)) (ke s d) (.agg #[.int .u8 q, .slice (some ⟨w2.heap.size, 0, none⟩) L L])).run Try.prog w' = .ok () (setBlock w' mb (.map (es.push { key := ke s d, val := .agg #[.int .u8 q, .slice (some ⟨w2.heap.size, 0, none⟩) L L], born := clock }) (clock + 1))))
    (first
      | (have := B2.out; exact ⟨CC.out _ (by (repeat (first | exact Below.refl _ _ | assumption | refine Below.drew ?_ | refine Below.alloc ?_ (by first | omega | (simp; done) | (simp; omega)) _ | refine Below.setCell ?_ (by first | omega | (simp; done) | (simp; omega)) _))), by go_keep, by go_keep, CU.out _ _ (by (repeat (first | exact Below.refl _ _ | assumption | refine Below.drew ?_ | refine Below.alloc ?_ (by first | omega | (simp; done) | (simp; omega)) _ | refine Below.setCell ?_ (by first | omega | (simp; done) | (simp; omega)) _)))⟩)
      | (have := B2.out; exact ⟨(sb_cell hnt).trans (CC.out _ (by (repeat (first | exact Below.refl _ _ | assumption | refine Below.drew ?_ | refine Below.alloc ?_ (by first | omega | (simp; done) | (simp; omega)) _ | refine Below.setCell ?_ (by first | omega | (simp; done) | (simp; omega)) _)))), (sb_cell hnw).trans (by go_keep), (sb_cell hnw).trans (by go_keep), CV.out _ _ (sb_same (by simp; omega))⟩))
    ((go_at_call 27; refine Calls.mono (CLn.out _ (by have := B2.out; (repeat (first | exact Below.refl _ _ | assumption | refine Below.drew ?_ | refine Below.alloc ?_ (by first | omega | (simp; done) | (simp; omega)) _ | refine Below.setCell ?_ (by first | omega | (simp; done) | (simp; omega)) _)))) ?_; rintro e w' ⟨rfl, rfl⟩))
  all_goals
    go_wp2
    go_ret
    refine ⟨rfl, _, w2.heap.size, ?_, B2.out.size, ?_, rfl⟩
    · have := B2.out; (repeat (first | exact Below.refl _ _ | assumption | refine Below.drew ?_ | refine Below.alloc ?_ (by first | omega | (simp; done) | (simp; omega)) _ | refine Below.setCell ?_ (by first | omega | (simp; done) | (simp; omega)) _))
    · exact World.alloc_heap_new w2 _
end Go.Proofs.Ytbjoljokdjgbnab
/-
  Keys, held against each other: by side, then by name.
-/
namespace Go.Proofs.Ytbjoljokdjgbnab
open Go.RowKit Go.MapKept
theorem nan_side (x : Int) (w : World) : Calls Try.prog 82 #[.int .u8 x] w fun e w' => e = .returned (.bool false) ∧ w = w' := by
  go_enter Try.func82, Try.ntmps82
  go_wp2
  go_ret
  exact ⟨by simp, rfl⟩
theorem nan_name (x : ByteArray) (w : World) : Calls Try.prog 83 #[.string x] w fun e w' => e = .returned (.bool false) ∧ w = w' := by
  go_enter Try.func83, Try.ntmps83
  go_wp2
  go_ret
  exact ⟨by simp, rfl⟩
/-- Which of two numbers is less. -/
def cmpI (x y : Int) : Int := if x < y then -1 else if y < x then 1 else 0
theorem cmp_side (x y : Int) (w : World) : Calls Try.prog 58 #[.int .u8 x, .int .u8 y] w fun e w' => e = .returned (.int .i64 (cmpI x y)) ∧ w = w' := by
  have N := hidI nan_side
  unfold cmpI
  by_cases h1 : x < y
  · go_enter Try.func58, Try.ntmps58
    go_wp2_with (go_at_call 82; refine Calls.mono (N.out _ _) ?_; rintro e w' ⟨rfl, rfl⟩)
    go_ret
    exact ⟨by simp, rfl⟩
  · by_cases h2 : y < x
    · go_enter Try.func58, Try.ntmps58
      go_wp2_with (go_at_call 82; refine Calls.mono (N.out _ _) ?_; rintro e w' ⟨rfl, rfl⟩)
      go_ret
      exact ⟨by simp, rfl⟩
    · go_enter Try.func58, Try.ntmps58
      go_wp2_with (go_at_call 82; refine Calls.mono (N.out _ _) ?_; rintro e w' ⟨rfl, rfl⟩)
      go_ret
      exact ⟨by simp, rfl⟩
/-- Which of two texts is less. -/
def cmpS (x y : ByteArray) : Int := if Op.bytesLess x.toList y.toList = true then -1 else if (x.toList == y.toList) = true then 0 else 1
theorem cmp_name (x y : ByteArray) (w : World) : Calls Try.prog 59 #[.string x, .string y] w fun e w' => e = .returned (.int .i64 (cmpS x y)) ∧ w = w' := by
  have N := hidI nan_name
  unfold cmpS
  cases h1 : Op.bytesLess x.toList y.toList with
  | true =>
    go_enter Try.func59, Try.ntmps59
    go_wp2_with (go_at_call 83; refine Calls.mono (N.out _ _) ?_; rintro e w' ⟨rfl, rfl⟩)
    go_ret
    exact ⟨rfl, rfl⟩
  | false =>
    cases h2 : (x.toList == y.toList) with
    | true =>
      go_enter Try.func59, Try.ntmps59
      go_wp2_with (go_at_call 83; refine Calls.mono (N.out _ _) ?_; rintro e w' ⟨rfl, rfl⟩)
      go_ret
      exact ⟨rfl, rfl⟩
    | false =>
      go_enter Try.func59, Try.ntmps59
      go_wp2_with (go_at_call 83; refine Calls.mono (N.out _ _) ?_; rintro e w' ⟨rfl, rfl⟩)
      go_ret
      exact ⟨rfl, rfl⟩
set_option maxRecDepth 100000 in
/-- The first that is not 0, of two. -/
theorem or_two (b : Nat) (x y : Int) (w : World) (h0 : w.cell? ⟨b, 0, none⟩ = some (.int .i64 x)) (h1 : w.cell? ⟨b, 1, none⟩ = some (.int .i64 y)) :
    Calls Try.prog 57 #[.slice (some ⟨b, 0, none⟩) 2 2] w fun e w' => e = .returned (.int .i64 (if x = 0 then y else x)) ∧ w = w' := by
  go_enter Try.func57, Try.ntmps57
  go_wp2
  go_loopg [8] 2 (fun g s8 wx => ∃ i : Nat, i + g = 2 ∧ s8 = .int .i64 i ∧ (1 ≤ i → x = 0) ∧ (i = 2 → y = 0) ∧ w = wx)
  case atStart => exact ⟨0, by omega, rfl, by omega, by omega, rfl⟩
  case round =>
    obtain ⟨i, hig, rfl, q1, q2, rfl⟩ := hrel
    obtain rfl | rfl | rfl : i = 0 ∨ i = 1 ∨ i = 2 := by omega
    · by_cases hx : x = 0
      · subst hx
        go_wp2
        go_roundg 1
        case measure => omega
        case rel => exact ⟨1, by omega, by go_num, by simp, by omega, rfl⟩
      · have e1 : (x == 0) = false := by simpa using hx
        go_wp2
        go_ret
        exact ⟨by simp, rfl⟩
    · obtain rfl := q1 (by omega)
      by_cases hy : y = 0
      · subst hy
        go_wp2
        go_roundg 0
        case measure => omega
        case rel => exact ⟨2, by omega, by go_num, by simp, by simp, rfl⟩
      · have e1 : (y == 0) = false := by simpa using hy
        go_wp2
        go_ret
        exact ⟨by simp, rfl⟩
    · obtain rfl := q1 (by omega)
      obtain rfl := q2 rfl
      go_wp2
      go_ret
      exact ⟨by simp, rfl⟩
/-- How two keys stand to each other. -/
def cmpK (s s' : ByteArray) (d d' : Int) : Int := if cmpI d d' = 0 then cmpS s s' else cmpI d d'
set_option maxRecDepth 100000 in
set_option maxHeartbeats 2000000 in
theorem cmp_keys (s s' : ByteArray) (d d' : Int) (w : World) : Calls Try.prog 56 #[ke s d, ke s' d'] w fun e w' => e = .returned (.int .i64 (cmpK s s' d d')) ∧ Below w.heap.size w w' := by
  have C1 := hidI (cmp_side d d')
  have C2 := hidI (cmp_name s s')
  obtain ⟨x, hx⟩ : ∃ x, cmpI d d' = x := ⟨_, rfl⟩
  obtain ⟨y, hy⟩ : ∃ y, cmpS s s' = y := ⟨_, rfl⟩
  unfold cmpK
  rw [hx] at C1 ⊢
  rw [hy] at C2 ⊢
  have C3 := hidI (fun b => or_two b x y)
  obtain ⟨z, hz⟩ : ∃ z, (if x = 0 then y else x) = z := ⟨_, rfl⟩
  rw [hz] at C3 ⊢
  go_enter Try.func56, Try.ntmps56
  go_wp2
  go_region_held3 (fun w' => w'.cell? ⟨w.heap.size, 0, none⟩ = some (.string s) ∧ w'.cell? ⟨w.heap.size, 1, none⟩ = some (.int .u8 d) ∧ w'.cell? ⟨w.heap.size + 1, 0, none⟩ = some (.string s') ∧ w'.cell? ⟨w.heap.size + 1, 1, none⟩ = some (.int .u8 d'))
    (exact ⟨by go_keep, by go_keep, by go_keep, by go_keep⟩)
    ((first | (go_at_call 58; refine Calls.mono (C1.out _) ?_; rintro e w' ⟨rfl, rfl⟩) | (go_at_call 59; refine Calls.mono (C2.out _) ?_; rintro e w' ⟨rfl, rfl⟩) | (go_at_call 57; refine Calls.mono (C3.out _ _ (by go_simp) (by go_simp)) ?_; rintro e w' ⟨rfl, rfl⟩)))
  all_goals
    go_wp2
    go_ret
    exact ⟨rfl, by (repeat (first | exact Below.refl _ _ | assumption | refine Below.drew ?_ | refine Below.alloc ?_ (by first | omega | (simp; done) | (simp; omega)) _ | refine Below.setCell ?_ (by first | omega | (simp; done) | (simp; omega)) _))⟩
end Go.Proofs.Ytbjoljokdjgbnab
