/-
  Nil columns answer so: the law ColumnNone, walked.
-/
import Derived.Test.YtbjoljokdjgbnacNoneAM
import Derived.Test.YtbjoljokdjgbnacNoneBM
import Derived.Test.YtbjoljokdjgbnacNoneCM
import Derived.Test.YtbjoljokdjgbnacNoneDM
import Derived.Test.YtbjoljokdjgbnacNoneEM
import Derived.Test.YtbjoljokdjgbnacGG
namespace Go.Proofs.Ytbjoljokdjgbnac
open Go.RowKit Go.Deep Go.MapKept
set_option maxRecDepth 100000 in
set_option maxHeartbeats 8000000 in
theorem none_at (kd : Int) (s : ByteArray) (d q i x : Int) (la : Option Addr) (ll lc : Nat) (hsl : ll ≤ lc) (a b : Int) (w : World) :
    Calls Try.prog 4 #[.agg #[.int .i64 kd, .string s, .int .u8 d, .int .u8 q, .int .i64 i, .int .i64 x, .slice la ll lc], .agg #[.int .i64 a, .int .i64 b]] w fun e w' => e = .returned (.bool true) ∧ Below w.heap.size w w' := by
  have HSL := hidI hsl
  clear hsl
  have c1 : Hid (((w.alloc (.cells #[.int .i64 kd, .string s, .int .u8 d, .int .u8 q, .int .i64 i, .int .i64 x, .slice la ll lc] 38)).alloc (.cells #[.int .i64 a, .int .i64 b] 41)).cell? ⟨w.heap.size, 1, none⟩ = some (.string s)) := hidI (by go_simp)
  have c2 : Hid (((w.alloc (.cells #[.int .i64 kd, .string s, .int .u8 d, .int .u8 q, .int .i64 i, .int .i64 x, .slice la ll lc] 38)).alloc (.cells #[.int .i64 a, .int .i64 b] 41)).cell? ⟨w.heap.size, 2, none⟩ = some (.int .u8 d)) := hidI (by go_simp)
  have c3 : Hid (((w.alloc (.cells #[.int .i64 kd, .string s, .int .u8 d, .int .u8 q, .int .i64 i, .int .i64 x, .slice la ll lc] 38)).alloc (.cells #[.int .i64 a, .int .i64 b] 41)).cell? ⟨w.heap.size, 3, none⟩ = some (.int .u8 q)) := hidI (by go_simp)
  have c4 : Hid (((w.alloc (.cells #[.int .i64 kd, .string s, .int .u8 d, .int .u8 q, .int .i64 i, .int .i64 x, .slice la ll lc] 38)).alloc (.cells #[.int .i64 a, .int .i64 b] 41)).cell? ⟨w.heap.size, 4, none⟩ = some (.int .i64 i)) := hidI (by go_simp)
  have c5 : Hid (((w.alloc (.cells #[.int .i64 kd, .string s, .int .u8 d, .int .u8 q, .int .i64 i, .int .i64 x, .slice la ll lc] 38)).alloc (.cells #[.int .i64 a, .int .i64 b] 41)).cell? ⟨w.heap.size, 5, none⟩ = some (.int .i64 x)) := hidI (by go_simp)
  have c6 : Hid (((w.alloc (.cells #[.int .i64 kd, .string s, .int .u8 d, .int .u8 q, .int .i64 i, .int .i64 x, .slice la ll lc] 38)).alloc (.cells #[.int .i64 a, .int .i64 b] 41)).cell? ⟨w.heap.size, 6, none⟩ = some (.slice la ll lc)) := hidI (by go_simp)
  have n0 : Hid (((w.alloc (.cells #[.int .i64 kd, .string s, .int .u8 d, .int .u8 q, .int .i64 i, .int .i64 x, .slice la ll lc] 38)).alloc (.cells #[.int .i64 a, .int .i64 b] 41)).cell? ⟨w.heap.size + 1, 0, none⟩ = some (.int .i64 a)) := hidI (by go_simp)
  have n1 : Hid (((w.alloc (.cells #[.int .i64 kd, .string s, .int .u8 d, .int .u8 q, .int .i64 i, .int .i64 x, .slice la ll lc] 38)).alloc (.cells #[.int .i64 a, .int .i64 b] 41)).cell? ⟨w.heap.size + 1, 1, none⟩ = some (.int .i64 b)) := hidI (by go_simp)
  have HB0 : Hid (Below w.heap.size w ((w.alloc (.cells #[.int .i64 kd, .string s, .int .u8 d, .int .u8 q, .int .i64 i, .int .i64 x, .slice la ll lc] 38)).alloc (.cells #[.int .i64 a, .int .i64 b] 41))) := hidI (((Below.refl _ w).alloc (Nat.le_refl _) _).alloc (by simp) _)
  have C := hidI (get_nil s d i ((w.alloc (.cells #[.int .i64 kd, .string s, .int .u8 d, .int .u8 q, .int .i64 i, .int .i64 x, .slice la ll lc] 38)).alloc (.cells #[.int .i64 a, .int .i64 b] 41)))
  go_enter Try.func4, Try.ntmps4
  go_wp2_with (go_at_call 13; refine Calls.mono C.out ?_; rintro e w1 ⟨rfl, hb⟩; refine Hid.out ?_)
  refine hidI ?_
  clear C
  obtain ⟨W, hW⟩ : ∃ W, ((w.alloc (.cells #[.int .i64 kd, .string s, .int .u8 d, .int .u8 q, .int .i64 i, .int .i64 x, .slice la ll lc] 38)).alloc (.cells #[.int .i64 a, .int .i64 b] 41)) = W := ⟨_, rfl⟩
  rw [hW] at c1 c2 c3 c4 c5 c6 n0 n1 HB0 hb
  clear hW
  have HC : Hid (∀ u : World, Below W.heap.size W u → u.cell? ⟨w.heap.size, 1, none⟩ = some (.string s) ∧ u.cell? ⟨w.heap.size, 2, none⟩ = some (.int .u8 d) ∧ u.cell? ⟨w.heap.size, 3, none⟩ = some (.int .u8 q) ∧ u.cell? ⟨w.heap.size, 4, none⟩ = some (.int .i64 i) ∧ u.cell? ⟨w.heap.size, 5, none⟩ = some (.int .i64 x) ∧ u.cell? ⟨w.heap.size, 6, none⟩ = some (.slice la ll lc) ∧ u.cell? ⟨w.heap.size + 1, 0, none⟩ = some (.int .i64 a) ∧ u.cell? ⟨w.heap.size + 1, 1, none⟩ = some (.int .i64 b)) := hidI fun u hu =>
    have k : ∀ {p : Addr} {v : Value}, W.cell? p = some v → u.cell? p = some v := fun {p v} hc => (hu.cell (World.block_lt_of_cell? W _ hc)).trans hc
    ⟨k c1.out, k c2.out, k c3.out, k c4.out, k c5.out, k c6.out, k n0.out, k n1.out⟩
  have HW := hidI hb
  clear c1 c2 c3 c4 c5 c6 n0 n1 hb
  have C := hidI (encode_nil w1)
  go_wp2_with (go_at_call 14; refine Calls.mono C.out ?_; rintro e w' ⟨rfl, rfl⟩; refine Hid.out ?_)
  refine hidI ?_
  clear C
  have K8 : Hid (∀ u, Below W.heap.size W u → Calls Try.prog 8 #[] u fun e w' => e = .returned (.bool true) ∧ Below W.heap.size W w') := hidI fun u hu => by
    refine (liveC_any u).mono ?_
    rintro e w' ⟨h1, h2⟩
    exact ⟨h1, hu.trans (h2.mono hu.size)⟩
  have K15 : Hid (∀ u, Below W.heap.size W u → Calls Try.prog 15 #[.pointer none, ke s d, .int .u8 q] u fun e w' => e = .returned (.int .i64 1) ∧ Below W.heap.size W w') := hidI fun u hu => by
    refine (declare_nil s d q u).mono ?_
    rintro e w' ⟨h1, h2⟩
    exact ⟨h1, hu.trans (h2.mono hu.size)⟩
  have K16 : Hid (∀ u, Below W.heap.size W u → Calls Try.prog 16 #[.pointer none, ke s d, .int .i64 i, .int .i64 x] u fun e w' => e = .returned (.int .i64 1) ∧ Below W.heap.size W w') := hidI fun u hu => by
    refine (set_nil s d i x u).mono ?_
    rintro e w' ⟨h1, h2⟩
    exact ⟨h1, hu.trans (h2.mono hu.size)⟩
  have K17 : Hid (∀ u, Below W.heap.size W u → Calls Try.prog 17 #[.pointer none, ke s d, .int .i64 x] u fun e w' => e = .returned (.int .i64 1) ∧ Below W.heap.size W w') := hidI fun u hu => by
    refine (fill_nil s d x u).mono ?_
    rintro e w' ⟨h1, h2⟩
    exact ⟨h1, hu.trans (h2.mono hu.size)⟩
  have K19 : Hid (∀ u, Below W.heap.size W u → Calls Try.prog 19 #[.slice la ll lc] u fun e w' => e = .returned (.slice la (min ll 40) lc) ∧ Below W.heap.size W w') := hidI fun u hu => by
    refine (fewW_any la ll lc HSL.out u).mono ?_
    rintro e w' ⟨h1, h2⟩
    exact ⟨h1, h2 ▸ hu⟩
  have K18 : Hid (∀ u, Below W.heap.size W u → Calls Try.prog 18 #[.pointer none, ke s d, .slice la (min ll 40) lc] u fun e w' => e = .returned (.int .i64 1) ∧ Below W.heap.size W w') := hidI fun u hu => by
    refine (load_nil s d (.slice la (min ll 40) lc) u).mono ?_
    rintro e w' ⟨h1, h2⟩
    exact ⟨h1, hu.trans (h2.mono hu.size)⟩
  have K20 : Hid (∀ u, Below W.heap.size W u → Calls Try.prog 20 #[.pointer none, ke s d] u fun e w' => e = .returned (.slice none 0 0) ∧ Below W.heap.size W w') := hidI fun u hu => by
    refine (list_nil s d u).mono ?_
    rintro e w' ⟨h1, h2⟩
    exact ⟨h1, hu.trans (h2.mono hu.size)⟩
  have K21 : Hid (∀ u, Below W.heap.size W u → Calls Try.prog 21 #[.pointer none, ke s d] u fun e w' => e = .returned (.int .u8 0) ∧ Below W.heap.size W w') := hidI fun u hu => by
    refine (kindOf_nil s d u).mono ?_
    rintro e w' ⟨h1, h2⟩
    exact ⟨h1, hu.trans (h2.mono hu.size)⟩
  have K22 : Hid (∀ u, Below W.heap.size W u → Calls Try.prog 22 #[.pointer none] u fun e w' => e = .returned (.slice none 0 0) ∧ Below W.heap.size W w') := hidI fun u hu => by
    refine (keys_nil u).mono ?_
    rintro e w' ⟨h1, h2⟩
    exact ⟨h1, h2 ▸ hu⟩
  have K23 : Hid (∀ u, Below W.heap.size W u → Calls Try.prog 23 #[.pointer none, .int .u8 d] u fun e w' => e = .returned (.int .i64 0) ∧ Below W.heap.size W w') := hidI fun u hu => by
    refine (len_nil d u).mono ?_
    rintro e w' ⟨h1, h2⟩
    exact ⟨h1, h2 ▸ hu⟩
  have K24 : Hid (∀ u, Below W.heap.size W u → Calls Try.prog 24 #[.pointer none, .pointer none] u fun e w' => e = .returned (.bool false) ∧ Below W.heap.size W w') := hidI fun u hu => by
    refine (same_nil none u).mono ?_
    rintro e w' ⟨h1, h2⟩
    exact ⟨h1, h2 ▸ hu⟩
  have K9 : Hid (∀ u, Below W.heap.size W u → Calls Try.prog 9 #[.pointer none] u fun e w' => e = .returned (.pointer none) ∧ Below W.heap.size W w') := hidI fun u hu => by
    refine (fork_nil u).mono ?_
    rintro e w' ⟨h1, h2⟩
    exact ⟨h1, h2 ▸ hu⟩
  go_wp2
  simp only [List.append]
  refine wp_region_Z (ops := opsN) (fun y => Below W.heap.size W y) 112 Try.mixed ?_
  rw [show opsN.size = 113 by kernel_rfl]
  refine castN (l' := doneN 0 []) (by kernel_rfl) rfl ?_
  refine segN0 (hidI fun _ _ _ _ _ h => h) HC K8 HW.out.drew (hidI fun w10 h0 => ?_)
  refine segN1 (hidI fun _ _ _ _ _ h => h) HC K15 h0 (hidI fun w11 h1 => ?_)
  refine segN2 (hidI fun _ _ _ _ _ h => h) HC K16 h1 (hidI fun w12 h2 => ?_)
  refine segN3 (hidI fun _ _ _ _ _ h => h) HC K17 h2 (hidI fun w13 h3 => ?_)
  refine segN4 (hidI fun _ _ _ _ _ h => h) HC K19 K18 h3 (hidI fun w14 h4 => ?_)
  refine segN5 (hidI fun _ _ _ _ _ h => h) HC  h4 (hidI fun w15 h5 => ?_)
  refine segN6 (hidI fun _ _ _ _ _ h => h) HC K20 h5 (hidI fun w16 h6 => ?_)
  refine segN7 (hidI fun _ _ _ _ _ h => h) HC K21 h6 (hidI fun w17 h7 => ?_)
  refine segN8 (hidI fun _ _ _ _ _ h => h) HC K22 h7 (hidI fun w18 h8 => ?_)
  refine segN9 (hidI fun _ _ _ _ _ h => h) HC K23 h8 (hidI fun w19 h9 => ?_)
  refine segN10 (hidI fun _ _ _ _ _ h => h) HC K24 h9 (hidI fun w20 h10 => ?_)
  refine segN11 (hidI fun _ _ _ _ _ h => h) HC K9 h10 (hidI fun w21 h11 => ?_)
  refine segN12 (hidI fun _ _ _ _ _ h => h) HC  h11 (hidI fun w22 h12 => ?_)
  by_cases hm : mayT a b
  · refine segSome (hidI fun _ _ _ _ _ h => h) HC (hidI fun u hu => ?_) (hidI fun u hu => ?_) h12 (hidI fun g25 g26 wz hz => ?_)
    · refine (cnew_ok a b u hm).mono ?_
      rintro e w' ⟨h1, h2⟩
      subst h2
      exact ⟨⟨_, h1⟩, (hu.alloc hu.size _).alloc (by have := hu.size; simp; omega) _⟩
    · refine (rnew_ok a b u hm).mono ?_
      rintro e w' ⟨h1, h2⟩
      subst h2
      exact ⟨⟨_, h1⟩, hu.alloc hu.size _⟩
    · have HBF := hidI (HB0.out.trans (hz.mono HB0.out.size))
      go_wp2
      go_ret
      exact ⟨rfl, HBF.out⟩
  · refine segNil (hidI fun _ _ _ _ _ h => h) HC (hidI fun u hu => ?_) (hidI fun u hu => ?_) h12 (hidI fun wz hz => ?_)
    · refine (cnew_nil a b u hm).mono ?_
      rintro e w' ⟨h1, h2⟩
      exact ⟨h1, h2 ▸ hu⟩
    · refine (rnew_nil a b u hm).mono ?_
      rintro e w' ⟨h1, h2⟩
      exact ⟨h1, h2 ▸ hu⟩
    · have HBF := hidI (HB0.out.trans (hz.mono HB0.out.size))
      go_wp2
      go_ret
      exact ⟨rfl, HBF.out⟩
theorem none_walk {w : World} (y : Deed) (hy : y.ok w.heap.size w) (a b : Int) (_ : (Lit.int .i64 a).wf = true) (_ : (Lit.int .i64 b).wf = true) :
    Calls Try.prog 4 #[.agg #[.int .i64 y.k, .string y.s, .int .u8 y.d, .int .u8 y.q, .int .i64 y.i, .int .i64 y.x, .slice y.a y.n y.cap], .agg #[.int .i64 a, .int .i64 b]] w fun e w' => e = .returned (.bool true) ∧ Below w.heap.size w w' :=
  none_at _ _ _ _ _ _ _ _ _ hy.2.2.2.1 a b w
end Go.Proofs.Ytbjoljokdjgbnac
