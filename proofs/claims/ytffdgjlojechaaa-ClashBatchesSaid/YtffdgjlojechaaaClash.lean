/-
  Whether an act hangs on the order with those that are done.
-/
import Derived.Test.YtffdgjlojechaaaMap
namespace Go.Proofs.Ytffdgjlojechaaa
open Go.RowKit Go.Deep Go.MapKept Go.Sort
@[go_sem] theorem eq47 (a b : Bool) (c d : Int) (w : World) : (Op.equalIn 10000 47 (.agg #[.bool a, .int .u8 c]) (.agg #[.bool b, .int .u8 d])).run Try.prog w = .ok (a == b && c == d) w := by
  have u4 := Try.underlying4
  have u37 := Try.underlying37
  have hS : Try.prog.underlying 47 = some (.struct (Try.prog.fieldsOf 47)) := by kernel_rfl
  have hp : Try.prog.stoodInHeld 47 = false := by kernel_rfl
  rw [show (10000 : Nat) = 9999 + 1 from rfl, run_equalIn_agg w 9999 47 _ _ hS hp]
  simp only [Program.fieldsOf, Try.underlying47]
  go_simp
  cases h1 : (a == b) <;> cases h2 : (c == d) <;> simp_all
/-- Whether an act hangs on the order with what names do. -/
def hits (f : Fn) (x : Deed) : Bool := match f x.s with | none => false | some d => d.1 || !(d.1 == x.does.1 && d.2 == x.does.2)
set_option maxRecDepth 100000 in
set_option maxHeartbeats 1000000 in
theorem clash_any (x : Deed) (w : World) (mb : Nat) (f : Fn) (h : MapD w mb f) (hs : x.s.size ≤ maxLen) : Calls Try.prog 17 #[.map (some mb), x.val] w fun e w' => e = .returned (.bool (hits f x)) ∧ Below w.heap.size w w' := by
  have C := hidI (deedOf_any x)
  obtain ⟨⟨p, q⟩, hd⟩ : ∃ d, x.does = d := ⟨_, rfl⟩
  unfold hits
  rw [hd] at C ⊢
  obtain ⟨k, s, o, i, e, c⟩ := x
  unfold Deed.val at C ⊢
  simp only at C hs ⊢
  have HL : Hid (∀ u : World, Below w.heap.size w u → (Instr.lookup 44 (.map (some mb)) (.string s) true).run Try.prog u = .ok (.tuple #[dval ((f s).getD (false, 0)), .bool (f s).isSome]) u) := hidI fun u hu => look (h.same (hu.block mb h.lt)) hs
  clear h hd
  have hgt : Try.prog.eqGuardType Try.prog.depth 47 = false := by kernel_rfl
  have L := HL.out (w.alloc (.cells #[.int .u8 k, .string s, .int .u8 o, .bool i, .int .i64 e, .int .i64 c] 39)) (by (repeat (first | exact Below.refl _ _ | assumption | refine Below.drew ?_ | refine Below.alloc ?_ (by first | omega | (simp; done) | (simp; omega)) _ | refine Below.setCell ?_ (by first | omega | (simp; done) | (simp; omega)) _)))
  clear HL
  cases hf : f s with
  | none =>
    rw [hf] at L
    simp only [Option.getD_none, Option.isSome_none, dval] at L
    go_enter Try.func17, Try.ntmps17
    go_wp2
    refine wp_region_quiet_below (by kernel_rfl) (by kernel_rfl) ?_
    repeat (first | go_big_quiet_step (fail) | quiet_step (fail))
    refine wpQuiet_nil ?_
    intro _ hw'
    obtain ⟨⟨dq, osq⟩, hw''⟩ := hw'
    subst hw''
    go_wp2
    go_ret
    exact ⟨rfl, Below.trans (by (repeat (first | exact Below.refl _ _ | assumption | refine Below.drew ?_ | refine Below.alloc ?_ (by first | omega | (simp; done) | (simp; omega)) _ | refine Below.setCell ?_ (by first | omega | (simp; done) | (simp; omega)) _))) ((below_regrown _ dq osq).mono (by simp; omega))⟩
  | some d =>
    obtain ⟨dp, dq⟩ := d
    rw [hf] at L
    simp only [Option.getD_some, Option.isSome_some, dval] at L
    cases dp with
    | true =>
      go_enter Try.func17, Try.ntmps17
      go_wp2
      have e0 : ∀ d os, (grow (redrawn ((w.alloc (.cells #[.int .u8 k, .string s, .int .u8 o, .bool i, .int .i64 e, .int .i64 c] 39)).alloc (.cells #[.bool true, .int .u8 dq] 47)) d) os).cell? ⟨w.heap.size + 1, 0, none⟩ = some (.bool true) := fun d os => cell_regrown (by go_simp) d os
      refine wp_region_quiet_below (by kernel_rfl) (by kernel_rfl) ?_
      repeat (first | go_big_quiet_step (fail) | quiet_step (fail))
      refine wpQuiet_nil ?_
      intro _ hw'
      obtain ⟨⟨dq, osq⟩, hw''⟩ := hw'
      subst hw''
      go_wp2
      go_ret
      exact ⟨rfl, Below.trans (by (repeat (first | exact Below.refl _ _ | assumption | refine Below.drew ?_ | refine Below.alloc ?_ (by first | omega | (simp; done) | (simp; omega)) _ | refine Below.setCell ?_ (by first | omega | (simp; done) | (simp; omega)) _))) ((below_regrown _ dq osq).mono (by simp; omega))⟩
    | false =>
      have CC : Hid (∀ d os, Calls Try.prog 18 #[.agg #[.int .u8 k, .string s, .int .u8 o, .bool i, .int .i64 e, .int .i64 c]] (grow (redrawn ((w.alloc (.cells #[.int .u8 k, .string s, .int .u8 o, .bool i, .int .i64 e, .int .i64 c] 39)).alloc (.cells #[.bool false, .int .u8 dq] 47)) d) os) fun ed w'' => ed = .returned (.agg #[.bool p, .int .u8 q]) ∧ ∃ p : Regrown, w'' = grow (redrawn ((w.alloc (.cells #[.int .u8 k, .string s, .int .u8 o, .bool i, .int .i64 e, .int .i64 c] 39)).alloc (.cells #[.bool false, .int .u8 dq] 47)) p.d) p.os) := hidI fun d os => Calls.regrown_of (C.out _)
      go_enter Try.func17, Try.ntmps17
      go_wp2
      have a0 : ∀ d os, (grow (redrawn ((w.alloc (.cells #[.int .u8 k, .string s, .int .u8 o, .bool i, .int .i64 e, .int .i64 c] 39)).alloc (.cells #[.bool false, .int .u8 dq] 47)) d) os).cell? ⟨w.heap.size, 0, none⟩ = some (.int .u8 k) := fun d os => cell_regrown (by go_simp) d os
      have a1 : ∀ d os, (grow (redrawn ((w.alloc (.cells #[.int .u8 k, .string s, .int .u8 o, .bool i, .int .i64 e, .int .i64 c] 39)).alloc (.cells #[.bool false, .int .u8 dq] 47)) d) os).cell? ⟨w.heap.size, 1, none⟩ = some (.string s) := fun d os => cell_regrown (by go_simp) d os
      have a2 : ∀ d os, (grow (redrawn ((w.alloc (.cells #[.int .u8 k, .string s, .int .u8 o, .bool i, .int .i64 e, .int .i64 c] 39)).alloc (.cells #[.bool false, .int .u8 dq] 47)) d) os).cell? ⟨w.heap.size, 2, none⟩ = some (.int .u8 o) := fun d os => cell_regrown (by go_simp) d os
      have a3 : ∀ d os, (grow (redrawn ((w.alloc (.cells #[.int .u8 k, .string s, .int .u8 o, .bool i, .int .i64 e, .int .i64 c] 39)).alloc (.cells #[.bool false, .int .u8 dq] 47)) d) os).cell? ⟨w.heap.size, 3, none⟩ = some (.bool i) := fun d os => cell_regrown (by go_simp) d os
      have a4 : ∀ d os, (grow (redrawn ((w.alloc (.cells #[.int .u8 k, .string s, .int .u8 o, .bool i, .int .i64 e, .int .i64 c] 39)).alloc (.cells #[.bool false, .int .u8 dq] 47)) d) os).cell? ⟨w.heap.size, 4, none⟩ = some (.int .i64 e) := fun d os => cell_regrown (by go_simp) d os
      have a5 : ∀ d os, (grow (redrawn ((w.alloc (.cells #[.int .u8 k, .string s, .int .u8 o, .bool i, .int .i64 e, .int .i64 c] 39)).alloc (.cells #[.bool false, .int .u8 dq] 47)) d) os).cell? ⟨w.heap.size, 5, none⟩ = some (.int .i64 c) := fun d os => cell_regrown (by go_simp) d os
      have e0 : ∀ d os, (grow (redrawn ((w.alloc (.cells #[.int .u8 k, .string s, .int .u8 o, .bool i, .int .i64 e, .int .i64 c] 39)).alloc (.cells #[.bool false, .int .u8 dq] 47)) d) os).cell? ⟨w.heap.size + 1, 0, none⟩ = some (.bool false) := fun d os => cell_regrown (by go_simp) d os
      have e1 : ∀ d os, (grow (redrawn ((w.alloc (.cells #[.int .u8 k, .string s, .int .u8 o, .bool i, .int .i64 e, .int .i64 c] 39)).alloc (.cells #[.bool false, .int .u8 dq] 47)) d) os).cell? ⟨w.heap.size + 1, 1, none⟩ = some (.int .u8 dq) := fun d os => cell_regrown (by go_simp) d os
      by_cases hq : dq = q
      · subst hq
        cases p
        · refine wp_region_quiet_below (by kernel_rfl) (by kernel_rfl) ?_
          repeat (first | go_big_quiet_step ((go_at_call 18; exact CC.out _ _)) | quiet_step ((go_at_call 18; exact CC.out _ _)))
          refine wpQuiet_nil ?_
          intro _ hw'
          obtain ⟨⟨dq', osq⟩, hw''⟩ := hw'
          subst hw''
          go_wp2
          go_ret
          refine ⟨?_, Below.trans (by (repeat (first | exact Below.refl _ _ | assumption | refine Below.drew ?_ | refine Below.alloc ?_ (by first | omega | (simp; done) | (simp; omega)) _ | refine Below.setCell ?_ (by first | omega | (simp; done) | (simp; omega)) _))) ((below_regrown _ dq' osq).mono (by simp; omega))⟩
          simp
        · refine wp_region_quiet_below (by kernel_rfl) (by kernel_rfl) ?_
          repeat (first | go_big_quiet_step ((go_at_call 18; exact CC.out _ _)) | quiet_step ((go_at_call 18; exact CC.out _ _)))
          refine wpQuiet_nil ?_
          intro _ hw'
          obtain ⟨⟨dq', osq⟩, hw''⟩ := hw'
          subst hw''
          go_wp2
          go_ret
          refine ⟨?_, Below.trans (by (repeat (first | exact Below.refl _ _ | assumption | refine Below.drew ?_ | refine Below.alloc ?_ (by first | omega | (simp; done) | (simp; omega)) _ | refine Below.setCell ?_ (by first | omega | (simp; done) | (simp; omega)) _))) ((below_regrown _ dq' osq).mono (by simp; omega))⟩
          simp
      · have h1 : (dq == q) = false := by simpa using hq
        have h2 : decide (dq = q) = false := by simpa using hq
        cases p
        · refine wp_region_quiet_below (by kernel_rfl) (by kernel_rfl) ?_
          repeat (first | go_big_quiet_step ((go_at_call 18; exact CC.out _ _)) | quiet_step ((go_at_call 18; exact CC.out _ _)))
          refine wpQuiet_nil ?_
          intro _ hw'
          obtain ⟨⟨dq', osq⟩, hw''⟩ := hw'
          subst hw''
          go_wp2
          go_ret
          refine ⟨?_, Below.trans (by (repeat (first | exact Below.refl _ _ | assumption | refine Below.drew ?_ | refine Below.alloc ?_ (by first | omega | (simp; done) | (simp; omega)) _ | refine Below.setCell ?_ (by first | omega | (simp; done) | (simp; omega)) _))) ((below_regrown _ dq' osq).mono (by simp; omega))⟩
          simpa using hq
        · refine wp_region_quiet_below (by kernel_rfl) (by kernel_rfl) ?_
          repeat (first | go_big_quiet_step ((go_at_call 18; exact CC.out _ _)) | quiet_step ((go_at_call 18; exact CC.out _ _)))
          refine wpQuiet_nil ?_
          intro _ hw'
          obtain ⟨⟨dq', osq⟩, hw''⟩ := hw'
          subst hw''
          go_wp2
          go_ret
          refine ⟨?_, Below.trans (by (repeat (first | exact Below.refl _ _ | assumption | refine Below.drew ?_ | refine Below.alloc ?_ (by first | omega | (simp; done) | (simp; omega)) _ | refine Below.setCell ?_ (by first | omega | (simp; done) | (simp; omega)) _))) ((below_regrown _ dq' osq).mono (by simp; omega))⟩
          simp
end Go.Proofs.Ytffdgjlojechaaa
