/-
  The statement NumOrder: its function comes to true at every operation and three numbers.
-/
import Derived.Test.YtcaecfmjnboamaaDoorBack
namespace Go.Proofs.YtcaecfmjnboamaaDoor
open Go.RowKit
theorem do_new (o : Nat) (ho : two o) (x y : Int) (w : World) :
    Calls Tryd.prog 27 #[.int .u8 o, .slice (some ⟨w.heap.size, 0, none⟩) 2 2] (w.alloc (.cells #[.int .i64 x, .int .i64 y] 22)) fun e w' => e = .returned (.tuple #[.int .i64 (opTwo o x y), .int .i64 0]) ∧ Below w.heap.size w w' := by
  refine (do_two o ho _ x y w.heap.size 0 2 (by simp) (by simp)).mono ?_
  rintro e w' ⟨rfl, n, rfl⟩
  exact ⟨rfl, below_drewN ((Below.refl _ _).alloc (Nat.le_refl _) _) n⟩
/-- What takes in many does so in any order, and grouped in any way. -/
theorem wrap_assoc (a b c : Int) : wrap64 (wrap64 (a + b) + c) = wrap64 (a + wrap64 (b + c)) := by unfold wrap64; omega
theorem bit01 (a : Int) : bits .and .i64 a 1 = 0 ∨ bits .and .i64 a 1 = 1 := by rw [and1]; omega
theorem comm1 (a b : Int) : opTwo 1 a b = opTwo 1 b a := by show wrap64 (a + b) = wrap64 (b + a); rw [Int.add_comm]
theorem assoc1 (a b c : Int) : opTwo 1 (opTwo 1 a b) c = opTwo 1 a (opTwo 1 b c) := wrap_assoc a b c
theorem first1 {a : Int} (ha : In64 a) : opTwo 1 0 a = a := by show wrap64 (0 + a) = a; rw [Int.zero_add, wrap64_self ha]
theorem comm6 (a b : Int) : opTwo 6 a b = opTwo 6 b a := by show (if b < a then b else a) = (if a < b then a else b); split <;> split <;> omega
theorem assoc6 (a b c : Int) : opTwo 6 (opTwo 6 a b) c = opTwo 6 a (opTwo 6 b c) := by show (if c < (if b < a then b else a) then c else (if b < a then b else a)) = (if (if c < b then c else b) < a then (if c < b then c else b) else a); repeat (any_goals split); all_goals omega
theorem first6 {a : Int} (ha : In64 a) : opTwo 6 9223372036854775807 a = a := by show (if a < 9223372036854775807 then a else 9223372036854775807) = a; unfold In64 at ha; split <;> omega
theorem comm7 (a b : Int) : opTwo 7 a b = opTwo 7 b a := by show (if a < b then b else a) = (if b < a then a else b); split <;> split <;> omega
theorem assoc7 (a b c : Int) : opTwo 7 (opTwo 7 a b) c = opTwo 7 a (opTwo 7 b c) := by show (if (if a < b then b else a) < c then c else (if a < b then b else a)) = (if a < (if b < c then c else b) then (if b < c then c else b) else a); repeat (any_goals split); all_goals omega
theorem first7 {a : Int} (ha : In64 a) : opTwo 7 (-9223372036854775808) a = a := by show (if -9223372036854775808 < a then a else -9223372036854775808) = a; unfold In64 at ha; split <;> omega
theorem comm16 (a b : Int) : opTwo 16 a b = opTwo 16 b a := by show (if _ then _ else _) = (if _ then _ else _); split <;> split <;> omega
theorem assoc16 (a b c : Int) (ha : a = 0 ∨ a = 1) (hb : b = 0 ∨ b = 1) (hc : c = 0 ∨ c = 1) : opTwo 16 (opTwo 16 a b) c = opTwo 16 a (opTwo 16 b c) := by
  rcases ha with rfl | rfl <;> rcases hb with rfl | rfl <;> rcases hc with rfl | rfl <;> decide
theorem first16 (a : Int) (ha : a = 0 ∨ a = 1) : opTwo 16 1 a = a := by rcases ha with rfl | rfl <;> decide
theorem comm17 (a b : Int) : opTwo 17 a b = opTwo 17 b a := by show (if _ then _ else _) = (if _ then _ else _); split <;> split <;> omega
theorem assoc17 (a b c : Int) (ha : a = 0 ∨ a = 1) (hb : b = 0 ∨ b = 1) (hc : c = 0 ∨ c = 1) : opTwo 17 (opTwo 17 a b) c = opTwo 17 a (opTwo 17 b c) := by
  rcases ha with rfl | rfl <;> rcases hb with rfl | rfl <;> rcases hc with rfl | rfl <;> decide
theorem first17 (a : Int) (ha : a = 0 ∨ a = 1) : opTwo 17 0 a = a := by rcases ha with rfl | rfl <;> decide
set_option maxHeartbeats 2000000 in
theorem order1 (a b c : Int) (w : World) (ht : Tab w)
    (q1 : (opTwo 1 a b == opTwo 1 b a) = true) (q2 : (opTwo 1 (opTwo 1 a b) c == opTwo 1 a (opTwo 1 b c)) = true) (q3 : (opTwo 1 0 a == a) = true) :
    Calls Tryd.prog 8 #[.int .u8 1, .agg #[.int .i64 a, .int .i64 b, .int .i64 c]] w fun e w' => e = .returned (.bool true) ∧ Below w.heap.size w w' := by
  go_enter Tryd.func8, Tryd.ntmps8
  go_wp2
  go_quiet ((fail))
  have HB : Below w.heap.size w (World.drewN (w.alloc (.cells #[.int .i64 a, .int .i64 b, .int .i64 c] 44)) nq) := below_drewN ((Below.refl _ _).alloc (Nat.le_refl _) _) nq
  generalize World.drewN (w.alloc (.cells #[.int .i64 a, .int .i64 b, .int .i64 c] 44)) nq = wc at HB ⊢
  go_wp2_with (first
    | (go_at_call 27; refine (do_new 1 (by unfold two; omega) _ _ _).mono ?_; rintro e wn ⟨rfl, hbn⟩; have HB := HB.trans (hbn.mono HB.size); clear hbn)
    | (go_at_call 9; refine (live_any _ (ht.on HB)).mono ?_; rintro e wn ⟨rfl, hbn⟩; have HB := HB.trans (hbn.mono HB.size); clear hbn))
  go_ret
  exact ⟨rfl, by assumption⟩
set_option maxHeartbeats 2000000 in
theorem order6 (a b c : Int) (w : World) (ht : Tab w)
    (q1 : (opTwo 6 a b == opTwo 6 b a) = true) (q2 : (opTwo 6 (opTwo 6 a b) c == opTwo 6 a (opTwo 6 b c)) = true) (q3 : (opTwo 6 9223372036854775807 a == a) = true) :
    Calls Tryd.prog 8 #[.int .u8 6, .agg #[.int .i64 a, .int .i64 b, .int .i64 c]] w fun e w' => e = .returned (.bool true) ∧ Below w.heap.size w w' := by
  go_enter Tryd.func8, Tryd.ntmps8
  go_wp2
  go_quiet ((fail))
  have HB : Below w.heap.size w (World.drewN (w.alloc (.cells #[.int .i64 a, .int .i64 b, .int .i64 c] 44)) nq) := below_drewN ((Below.refl _ _).alloc (Nat.le_refl _) _) nq
  generalize World.drewN (w.alloc (.cells #[.int .i64 a, .int .i64 b, .int .i64 c] 44)) nq = wc at HB ⊢
  go_wp2_with (first
    | (go_at_call 27; refine (do_new 6 (by unfold two; omega) _ _ _).mono ?_; rintro e wn ⟨rfl, hbn⟩; have HB := HB.trans (hbn.mono HB.size); clear hbn)
    | (go_at_call 9; refine (live_any _ (ht.on HB)).mono ?_; rintro e wn ⟨rfl, hbn⟩; have HB := HB.trans (hbn.mono HB.size); clear hbn))
  go_ret
  exact ⟨rfl, by assumption⟩
set_option maxHeartbeats 2000000 in
theorem order7 (a b c : Int) (w : World) (ht : Tab w)
    (q1 : (opTwo 7 a b == opTwo 7 b a) = true) (q2 : (opTwo 7 (opTwo 7 a b) c == opTwo 7 a (opTwo 7 b c)) = true) (q3 : (opTwo 7 (-9223372036854775808) a == a) = true) :
    Calls Tryd.prog 8 #[.int .u8 7, .agg #[.int .i64 a, .int .i64 b, .int .i64 c]] w fun e w' => e = .returned (.bool true) ∧ Below w.heap.size w w' := by
  go_enter Tryd.func8, Tryd.ntmps8
  go_wp2
  go_quiet ((fail))
  have HB : Below w.heap.size w (World.drewN (w.alloc (.cells #[.int .i64 a, .int .i64 b, .int .i64 c] 44)) nq) := below_drewN ((Below.refl _ _).alloc (Nat.le_refl _) _) nq
  generalize World.drewN (w.alloc (.cells #[.int .i64 a, .int .i64 b, .int .i64 c] 44)) nq = wc at HB ⊢
  go_wp2_with (first
    | (go_at_call 27; refine (do_new 7 (by unfold two; omega) _ _ _).mono ?_; rintro e wn ⟨rfl, hbn⟩; have HB := HB.trans (hbn.mono HB.size); clear hbn)
    | (go_at_call 9; refine (live_any _ (ht.on HB)).mono ?_; rintro e wn ⟨rfl, hbn⟩; have HB := HB.trans (hbn.mono HB.size); clear hbn))
  go_ret
  exact ⟨rfl, by assumption⟩
set_option maxHeartbeats 2000000 in
theorem order16 (a b c : Int) (w : World) (ht : Tab w)
    (a' b' c' : Int) (ea : bits .and .i64 a 1 = a') (eb : bits .and .i64 b 1 = b') (ec : bits .and .i64 c 1 = c')
    (q1 : (opTwo 16 a' b' == opTwo 16 b' a') = true) (q2 : (opTwo 16 (opTwo 16 a' b') c' == opTwo 16 a' (opTwo 16 b' c')) = true) (q3 : (opTwo 16 1 a' == a') = true) :
    Calls Tryd.prog 8 #[.int .u8 16, .agg #[.int .i64 a, .int .i64 b, .int .i64 c]] w fun e w' => e = .returned (.bool true) ∧ Below w.heap.size w w' := by
  go_enter Tryd.func8, Tryd.ntmps8
  go_wp2
  go_quiet ((fail))
  have HB : Below w.heap.size w (World.drewN (w.alloc (.cells #[.int .i64 a, .int .i64 b, .int .i64 c] 44)) nq) := below_drewN ((Below.refl _ _).alloc (Nat.le_refl _) _) nq
  generalize World.drewN (w.alloc (.cells #[.int .i64 a, .int .i64 b, .int .i64 c] 44)) nq = wc at HB ⊢
  go_wp2_with (first
    | (go_at_call 27; refine (do_new 16 (by unfold two; omega) _ _ _).mono ?_; rintro e wn ⟨rfl, hbn⟩; have HB := HB.trans (hbn.mono HB.size); clear hbn)
    | (go_at_call 9; refine (live_any _ (ht.on HB)).mono ?_; rintro e wn ⟨rfl, hbn⟩; have HB := HB.trans (hbn.mono HB.size); clear hbn))
  go_ret
  exact ⟨rfl, by assumption⟩
set_option maxHeartbeats 2000000 in
theorem order17 (a b c : Int) (w : World) (ht : Tab w)
    (a' b' c' : Int) (ea : bits .and .i64 a 1 = a') (eb : bits .and .i64 b 1 = b') (ec : bits .and .i64 c 1 = c')
    (q1 : (opTwo 17 a' b' == opTwo 17 b' a') = true) (q2 : (opTwo 17 (opTwo 17 a' b') c' == opTwo 17 a' (opTwo 17 b' c')) = true) (q3 : (opTwo 17 0 a' == a') = true) :
    Calls Tryd.prog 8 #[.int .u8 17, .agg #[.int .i64 a, .int .i64 b, .int .i64 c]] w fun e w' => e = .returned (.bool true) ∧ Below w.heap.size w w' := by
  go_enter Tryd.func8, Tryd.ntmps8
  go_wp2
  go_quiet ((fail))
  have HB : Below w.heap.size w (World.drewN (w.alloc (.cells #[.int .i64 a, .int .i64 b, .int .i64 c] 44)) nq) := below_drewN ((Below.refl _ _).alloc (Nat.le_refl _) _) nq
  generalize World.drewN (w.alloc (.cells #[.int .i64 a, .int .i64 b, .int .i64 c] 44)) nq = wc at HB ⊢
  go_wp2_with (first
    | (go_at_call 27; refine (do_new 17 (by unfold two; omega) _ _ _).mono ?_; rintro e wn ⟨rfl, hbn⟩; have HB := HB.trans (hbn.mono HB.size); clear hbn)
    | (go_at_call 9; refine (live_any _ (ht.on HB)).mono ?_; rintro e wn ⟨rfl, hbn⟩; have HB := HB.trans (hbn.mono HB.size); clear hbn))
  go_ret
  exact ⟨rfl, by assumption⟩
theorem order_none (o : Int) (v : Value) (a b c : Int) (hv : v = .agg #[.int .i64 a, .int .i64 b, .int .i64 c]) (w : World) (ht : Tab w) (h1 : (o == 1) = false) (h2 : (o == 17) = false) (h3 : (o == 6) = false) (h4 : (o == 7) = false) (h5 : (o == 16) = false) :
    Calls Tryd.prog 8 #[.int .u8 o, v] w fun e w' => e = .returned (.bool true) ∧ Below w.heap.size w w' := by
  subst hv
  have HB : Below w.heap.size w (w.alloc (.cells #[.int .i64 a, .int .i64 b, .int .i64 c] 44)) := (Below.refl _ _).alloc (Nat.le_refl _) _
  go_enter Tryd.func8, Tryd.ntmps8
  go_wp2_with (first | (go_at_call 9; refine (live_any _ (ht.on HB)).mono ?_; rintro e wn ⟨rfl, hbn⟩; have HB := HB.trans (hbn.mono HB.size); clear hbn) | go_in)
  go_ret
  exact ⟨rfl, by assumption⟩
theorem numOrder_walk (o a b c : Int) (w : World) (ha : In64 a) (ht : Tab w) :
    Calls Tryd.prog 8 #[.int .u8 o, .agg #[.int .i64 a, .int .i64 b, .int .i64 c]] w fun e w' => e = .returned (.bool true) ∧ Below w.heap.size w w' := by
  by_cases h1 : o = 1
  · subst h1; exact order1 a b c w ht (by rw [comm1]; simp) (by rw [assoc1]; simp) (by rw [first1 ha]; simp)
  by_cases h6 : o = 6
  · subst h6; exact order6 a b c w ht (by rw [comm6]; simp) (by rw [assoc6]; simp) (by rw [first6 ha]; simp)
  by_cases h7 : o = 7
  · subst h7; exact order7 a b c w ht (by rw [comm7]; simp) (by rw [assoc7]; simp) (by rw [first7 ha]; simp)
  by_cases h16 : o = 16
  · subst h16; exact order16 a b c w ht _ _ _ rfl rfl rfl (by rw [comm16]; simp) (by rw [assoc16 _ _ _ (bit01 a) (bit01 b) (bit01 c)]; simp) (by rw [first16 _ (bit01 a)]; simp)
  by_cases h17 : o = 17
  · subst h17; exact order17 a b c w ht _ _ _ rfl rfl rfl (by rw [comm17]; simp) (by rw [assoc17 _ _ _ (bit01 a) (bit01 b) (bit01 c)]; simp) (by rw [first17 _ (bit01 a)]; simp)
  exact order_none o _ a b c rfl w ht (by simpa using h1) (by simpa using h17) (by simpa using h6) (by simpa using h7) (by simpa using h16)
end Go.Proofs.YtcaecfmjnboamaaDoor
