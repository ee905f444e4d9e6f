/-
  The program's bytes of a number, and back; whether a node, a tag may be; the first byte of a message that is wrong.
-/
import Derived.Test.YtdfieflcclbgjabRDec
namespace Go.Proofs.Ytdfieflcclbgjab
open Go.RowKit Go.Deep Go.MapKept Go.Sort
set_option maxHeartbeats 2000000 in
theorem bytes_any (a : Int) (w : World) :
    Calls Try.prog 14 #[.int .i64 a] w fun e w' => e = .returned (.agg (by8 a)) ∧ Below w.heap.size w w' := by
  go_enter Try.func14, Try.ntmps14
  go_wp2
  refine wp_loop_rounds 9 ?_
  rw [rounds_succ]
  go_wp2
  rw [rounds_succ]
  go_wp2
  rw [rounds_succ]
  go_wp2
  rw [rounds_succ]
  go_wp2
  rw [rounds_succ]
  go_wp2
  rw [rounds_succ]
  go_wp2
  rw [rounds_succ]
  go_wp2
  rw [rounds_succ]
  go_wp2
  rw [rounds_succ]
  go_wp2
  exact bodyPost_ret (v := .agg #[.int .u8 (a / 256 / 256 / 256 / 256 / 256 / 256 / 256 % 256), .int .u8 (a / 256 / 256 / 256 / 256 / 256 / 256 % 256), .int .u8 (a / 256 / 256 / 256 / 256 / 256 % 256), .int .u8 (a / 256 / 256 / 256 / 256 % 256), .int .u8 (a / 256 / 256 / 256 % 256), .int .u8 (a / 256 / 256 % 256), .int .u8 (a / 256 % 256), .int .u8 (a % 256)]) (by simp [results, Try.results14, go_sem]) rfl ⟨rfl, ((Below.refl _ _).alloc (Nat.le_refl _) _).alloc (by simp) _⟩
set_option maxHeartbeats 2000000 in
theorem join_any (b0 b1 b2 b3 b4 b5 b6 b7 : Int) (h0 : 0 ≤ b0 ∧ b0 ≤ 255) (h1 : 0 ≤ b1 ∧ b1 ≤ 255) (h2 : 0 ≤ b2 ∧ b2 ≤ 255) (h3 : 0 ≤ b3 ∧ b3 ≤ 255) (h4 : 0 ≤ b4 ∧ b4 ≤ 255) (h5 : 0 ≤ b5 ∧ b5 ≤ 255) (h6 : 0 ≤ b6 ∧ b6 ≤ 255) (h7 : 0 ≤ b7 ∧ b7 ≤ 255) (w : World) :
    Calls Try.prog 16 #[.agg #[.int .u8 b0, .int .u8 b1, .int .u8 b2, .int .u8 b3, .int .u8 b4, .int .u8 b5, .int .u8 b6, .int .u8 b7]] w fun e w' => e = .returned (.int .i64 (jn b0 b1 b2 b3 b4 b5 b6 b7)) ∧ Below w.heap.size w w' := by
  have e := join_eq b0 b1 b2 b3 b4 b5 b6 b7 h0 h1 h2 h3 h4 h5 h6 h7
  have E : Hid _ := e
  clear e
  go_enter Try.func16, Try.ntmps16
  go_wp2
  refine wp_loop_rounds 9 ?_
  rw [rounds_succ]
  go_wp2
  rw [rounds_succ]
  go_wp2
  rw [rounds_succ]
  go_wp2
  rw [rounds_succ]
  go_wp2
  rw [rounds_succ]
  go_wp2
  rw [rounds_succ]
  go_wp2
  rw [rounds_succ]
  go_wp2
  rw [rounds_succ]
  go_wp2
  rw [rounds_succ]
  go_wp2
  go_ret
  exact ⟨congrArg (fun z => Ending.returned (Value.int .i64 z)) E.out, (Below.refl _ _).alloc (Nat.le_refl _) _⟩
theorem isTo_any (x : Int) (w : World) : Calls Try.prog 12 #[.int .i64 x] w fun e w' => e = .returned (.bool (decide (0 ≤ x ∧ x < 12))) ∧ w = w' := by
  by_cases h0 : 0 ≤ x
  · by_cases h1 : x < 12
    · rw [decide_eq_true (And.intro h0 h1)]
      go_enter Try.func12, Try.ntmps12
      go_wp2
      go_ret
      exact ⟨rfl, rfl⟩
    · rw [decide_eq_false (fun h => h1 h.2)]
      have q1 : decide (x < 12) = false := by simpa using h1
      go_enter Try.func12, Try.ntmps12
      go_wp2
      go_ret
      exact ⟨rfl, rfl⟩
  · rw [decide_eq_false (fun h => h0 h.1)]
    have q0 : decide (0 ≤ x) = false := by simpa using h0
    go_enter Try.func12, Try.ntmps12
    go_wp2
    go_ret
    exact ⟨rfl, rfl⟩
theorem isTag_any (x : Int) (w : World) : Calls Try.prog 13 #[.int .i64 x] w fun e w' => e = .returned (.bool (decide (0 ≤ x ∧ x < 6))) ∧ w = w' := by
  by_cases h0 : 0 ≤ x
  · by_cases h1 : x < 6
    · rw [decide_eq_true (And.intro h0 h1)]
      go_enter Try.func13, Try.ntmps13
      go_wp2
      go_ret
      exact ⟨rfl, rfl⟩
    · rw [decide_eq_false (fun h => h1 h.2)]
      have q1 : decide (x < 6) = false := by simpa using h1
      go_enter Try.func13, Try.ntmps13
      go_wp2
      go_ret
      exact ⟨rfl, rfl⟩
  · rw [decide_eq_false (fun h => h0 h.1)]
    have q0 : decide (0 ≤ x) = false := by simpa using h0
    go_enter Try.func13, Try.ntmps13
    go_wp2
    go_ret
    exact ⟨rfl, rfl⟩
def wrongB (ds : List Int) : Int := if 12 ≤ ds.headD 0 then 0 else if 1 < ds.length ∧ 6 ≤ ds.getD 1 0 then 1 else if ds.length < 10 then (ds.length : Int) else -1
set_option maxRecDepth 100000 in
set_option maxHeartbeats 1000000 in
theorem wrong_any (w : World) (a : Option Addr) (cap : Nat) (ds : List Int) (hS : SB w a cap ds) (hby : ∀ x ∈ ds, IsB x) (h0 : 0 < ds.length) (hl : ds.length ≤ 900) :
    Calls Try.prog 15 #[.slice a ds.length cap] w fun e w' => e = .returned (.int .i64 (wrongB ds)) ∧ w = w' := by
  obtain ⟨t, ht⟩ : ∃ t, ds[0]? = some t := ⟨_, List.getElem?_eq_getElem h0⟩
  have hh : ds.headD 0 = t := by
    cases ds with
    | nil => simp at h0
    | cons x r => simpa using ht
  obtain ⟨b, off, rfl, hbw, hc⟩ := hS.cell ht
  have c0 := hc 0 t ht
  rw [Nat.add_zero] at c0
  have htb := hby t (List.mem_of_getElem? ht)
  unfold IsB at htb
  have wt : IntKind.i64.wrap t = t := by rw [IntKind.wrap_i64]; omega
  obtain ⟨n, hn⟩ : ∃ n, ds.length = n := ⟨_, rfl⟩
  have C1 : Hid (∀ (x : Int) (w : World), Calls Try.prog 12 #[.int .i64 x] w fun e w' => e = .returned (.bool (decide (0 ≤ x ∧ x < 12))) ∧ w = w') := hidI isTo_any
  have C2 : Hid (∀ (x : Int) (w : World), Calls Try.prog 13 #[.int .i64 x] w fun e w' => e = .returned (.bool (decide (0 ≤ x ∧ x < 6))) ∧ w = w') := hidI isTag_any
  by_cases h12 : 12 ≤ t
  · have e : wrongB ds = 0 := by unfold wrongB; rw [hh, if_pos h12]
    rw [e, hn]
    have q : decide (0 ≤ t ∧ t < 12) = false := by rw [decide_eq_false_iff_not]; omega
    have C1' := hidI (C1.out t)
    rw [q] at C1'
    have p0 : (0 : Int) < (n : Int) := by omega
    have p1 : 0 < n := by omega
    clear e hn ht hh hc hby hS C1 C2 q
    go_enter Try.func15, Try.ntmps15
    go_wp2_with (go_at_call 12; refine Calls.mono (C1'.out _) ?_; rintro e w' ⟨rfl, rfl⟩)
    go_ret
    exact ⟨rfl, rfl⟩
  have qT : decide (0 ≤ t ∧ t < 12) = true := by rw [decide_eq_true_eq]; omega
  have C1' := hidI (C1.out t)
  rw [qT] at C1'
  by_cases h1 : 1 < n
  · obtain ⟨q, hq⟩ : ∃ q, ds[1]? = some q := ⟨_, List.getElem?_eq_getElem (by omega)⟩
    have hg : ds.getD 1 0 = q := by simp [List.getD, hq]
    have c1 := hc 1 q hq
    have hqb := hby q (List.mem_of_getElem? hq)
    unfold IsB at hqb
    have wq : IntKind.i64.wrap q = q := by rw [IntKind.wrap_i64]; omega
    have k1 : (1 : Int) < (n : Int) := by omega
    by_cases h6 : 6 ≤ q
    · have e : wrongB ds = 1 := by unfold wrongB; rw [hh, if_neg h12, hg, if_pos ⟨by omega, h6⟩]
      rw [e, hn]
      have qq : decide (0 ≤ q ∧ q < 6) = false := by rw [decide_eq_false_iff_not]; omega
      have C2' := hidI (C2.out q)
      rw [qq] at C2'
      have p0 : (0 : Int) < (n : Int) := by omega
      have p1 : 0 < n := by omega
      clear e hn ht hh hc hby hS C1 C2 qq qT hq hg
      go_enter Try.func15, Try.ntmps15
      go_wp2_with (first | (go_at_call 12; refine Calls.mono (C1'.out _) ?_; rintro e w' ⟨rfl, rfl⟩) | (go_at_call 13; refine Calls.mono (C2'.out _) ?_; rintro e w' ⟨rfl, rfl⟩))
      go_ret
      exact ⟨rfl, rfl⟩
    · have qq : decide (0 ≤ q ∧ q < 6) = true := by rw [decide_eq_true_eq]; omega
      have C2' := hidI (C2.out q)
      rw [qq] at C2'
      by_cases h10 : n < 10
      · have e : wrongB ds = (n : Int) := by unfold wrongB; rw [hh, if_neg h12, hg, if_neg (fun h => h6 h.2), if_pos (by omega), hn]
        rw [e, hn]
        have k10 : (n : Int) < 10 := by omega
        have p0 : (0 : Int) < (n : Int) := by omega
        have p1 : 0 < n := by omega
        clear e hn ht hh hc hby hS C1 C2 qq qT hq hg
        go_enter Try.func15, Try.ntmps15
        go_wp2_with (first | (go_at_call 12; refine Calls.mono (C1'.out _) ?_; rintro e w' ⟨rfl, rfl⟩) | (go_at_call 13; refine Calls.mono (C2'.out _) ?_; rintro e w' ⟨rfl, rfl⟩))
        go_ret
        exact ⟨rfl, rfl⟩
      · have e : wrongB ds = -1 := by unfold wrongB; rw [hh, if_neg h12, hg, if_neg (fun h => h6 h.2), if_neg (by omega)]
        rw [e, hn]
        have k10 : ¬ (n : Int) < 10 := by omega
        have k11 : decide ((n : Int) < 10) = false := by simpa using k10
        have p0 : (0 : Int) < (n : Int) := by omega
        have p1 : 0 < n := by omega
        clear e hn ht hh hc hby hS C1 C2 qq qT hq hg
        go_enter Try.func15, Try.ntmps15
        go_wp2_with (first | (go_at_call 12; refine Calls.mono (C1'.out _) ?_; rintro e w' ⟨rfl, rfl⟩) | (go_at_call 13; refine Calls.mono (C2'.out _) ?_; rintro e w' ⟨rfl, rfl⟩))
        go_ret
        exact ⟨rfl, rfl⟩
  · have e : wrongB ds = (n : Int) := by unfold wrongB; rw [hh, if_neg h12, if_neg (fun h => h1 (by omega)), if_pos (by omega), hn]
    rw [e, hn]
    obtain rfl : n = 1 := by omega
    clear e hn ht hh hc hby hS C1 C2 qT
    go_enter Try.func15, Try.ntmps15
    go_wp2_with (go_at_call 12; refine Calls.mono (C1'.out _) ?_; rintro e w' ⟨rfl, rfl⟩)
    go_ret
    exact ⟨rfl, rfl⟩
end Go.Proofs.Ytdfieflcclbgjab
