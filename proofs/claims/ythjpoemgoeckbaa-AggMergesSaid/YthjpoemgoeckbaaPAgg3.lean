/-
  The program's Agg: Whole, Merge.
-/
import Derived.Test.YthjpoemgoeckbaaPAgg2
import Derived.Test.YthjpoemgoeckbaaSortM
namespace Go.Proofs.Ythjpoemgoeckbaa
open Go.RowKit Go.Deep Go.MapKept Go.Sort
def wholeP (o n : Nat) (ps : List Int) (k : Nat) : Int := (fromL n k).foldl (fun a j => opTwo o a (ps.getD j.toNat 0)) (redW (o : Int))
theorem pwhole_nil (k : Nat) (w : World) : Calls Try.prog 16 #[.pointer none, .int .u64 (k : Int)] w fun e w' => e = .returned (.tuple #[.int .i64 0, .int .i64 1]) ∧ w = w' := by
  go_enter Try.func16, Try.ntmps16
  go_wp2
  go_ret2
  exact ⟨rfl, rfl⟩
theorem fromL_get' {n k i : Nat} {z : Int} (hn : n ≤ 16) (h : (fromL n k)[i]? = some z) : ∃ q : Nat, z = (q : Int) ∧ q < n := by
  have hm := (fromL_perm hn k).mem_iff.1 (List.mem_of_getElem? h)
  obtain ⟨q, hq, rfl⟩ := List.mem_map.1 hm
  exact ⟨q, rfl, List.mem_range.1 hq⟩
theorem fromL_len (n k : Nat) (hn : n ≤ 16) : (fromL n k).length = n := by have := (fromL_perm hn k).length_eq; simpa using this
set_option maxRecDepth 100000 in
set_option maxHeartbeats 1000000 in
theorem pwhole_any {w : World} {p o n : Nat} {c : Int} {ps : List Int} (h : PAg w p o n c ps) (ho : many5 o) (hn : n ≤ 4) (k : Nat) (hk : k < 18446744073709551616) : Calls Try.prog 16 #[.pointer (some ⟨p, 0, none⟩), .int .u64 (k : Int)] w fun e w' => e = .returned (.tuple #[.int .i64 (wholeP o n ps k), .int .i64 0]) ∧ Below w.heap.size w w' := by
  have k0 := h.c0
  have k1 := h.c1
  have HA := hidI h
  have HO := hidI ho
  have CR := hidI (redP_any o w)
  have CF := hidI (Perm.fromP_any n k w (by omega) hk)
  obtain ⟨R, hR⟩ : ∃ R, wholeP o n ps k = R := ⟨_, rfl⟩
  have HR := hidI hR
  rw [hR]
  clear hR h ho
  obtain ⟨f, hf⟩ : ∃ f, redW (o : Int) = f := ⟨_, rfl⟩
  obtain ⟨b, hb⟩ : ∃ b, redB (o : Int) = b := ⟨_, rfl⟩
  rw [hf, hb] at CR
  have HF := hidI hf
  clear hf hb
  go_enter Try.func16, Try.ntmps16
  go_wp2_with (first | (go_at_call 31; refine Calls.mono CR.out ?_; rintro e w' ⟨rfl, rfl⟩) | (go_at_call 33; refine Calls.mono CF.out ?_; rintro e w1 ⟨og, rfl, ho1, hb1⟩; refine Hid.out ?_))
  refine hidI ?_
  have HB1 := hidI hb1
  have HQ1 := hidI ho1
  clear ho1 hb1 CR CF k0 k1
  go_wp2
  go_loopg [6, 34] n (fun g s6 s34 wx => ∃ (i : Nat) (acc : Int), i + g = n ∧ s6 = .int .i64 acc ∧ s34 = .int .i64 (i : Int) ∧ Hid (acc = ((fromL n k).take i).foldl (fun a j => opTwo o a (ps.getD j.toNat 0)) f) ∧ Hid (Below w1.heap.size w1 wx))
  case atStart => exact ⟨0, _, by omega, rfl, rfl, hidI rfl, hidI (Below.refl _ _)⟩
  case round =>
    obtain ⟨i, acc, hig, rfl, rfl, HAc, HBx⟩ := hrel
    have HBw := hidI (HB1.out.trans (HBx.out.mono HB1.out.size))
    cases gk with
    | zero =>
      obtain rfl : n = i := by omega
      have q1 : decide ((n : Int) < (n : Int)) = false := by simp
      have HE : Hid (acc = R) := hidI (by
        rw [HAc.out, List.take_of_length_le (by rw [fromL_len n k (by omega)]; omega), ← HR.out, ← HF.out]
        rfl)
      go_wp2
      go_ret2
      exact ⟨by rw [HE.out]; rfl, HBw.out⟩
    | succ g =>
      have q1 : (i : Int) < (n : Int) := by omega
      obtain ⟨z, hz⟩ : ∃ z, (fromL n k)[i]? = some z := ⟨_, List.getElem?_eq_getElem (by rw [fromL_len n k (by omega)]; omega)⟩
      obtain ⟨q, rfl, hq⟩ := fromL_get' (by omega) hz
      have hcq : wr.cell? ⟨og, i, none⟩ = some (.int .i64 (q : Int)) := by
        have h := World.ownsRow.cells HQ1.out rfl i (.int .i64 (q : Int)) (by rw [List.getElem?_map, hz]; rfl)
        rw [Addr.add_lit, Nat.zero_add] at h
        exact (HBx.out.cell (p := ⟨og, i, none⟩) (World.block_lt_of_cell? w1 _ h)).trans h
      obtain ⟨x, hx⟩ : ∃ x, ps[q]? = some x := ⟨_, List.getElem?_eq_getElem (by rw [HA.out.len]; omega)⟩
      have HAx := hidI (HA.out.below HBw.out (Nat.le_refl _))
      have hcx := HAx.out.c3 hx
      have q4 : (q : Int) < 4 := by omega
      have HTk : Hid (((fromL n k).take (i + 1)).foldl (fun a j => opTwo o a (ps.getD j.toNat 0)) f = opTwo o (((fromL n k).take i).foldl (fun a j => opTwo o a (ps.getD j.toNat 0)) f) x) := hidI (by
        rw [List.take_add_one, hz]
        simp [List.getD, hx])
      have CT := hidI (taking_any wr p x)
      clear hz hx
      go_wp2_with (go_at_call 28; refine Calls.mono CT.out ?_; rintro e w2 ⟨ba, bw, rfl, ht2, hb2⟩; refine Hid.out ?_)
      refine hidI ?_
      have HB2 := hidI (HBx.out.trans (hb2.mono HBx.out.size))
      have CK := hidI (took_any (HAx.out.below hb2 (Nat.le_refl _)) HO.out ht2 acc)
      obtain ⟨y, hy⟩ : ∃ y, opTwo o acc x = y := ⟨_, rfl⟩
      rw [hy] at CK
      have HY := hidI hy
      clear hy CT ht2 hb2 hcq hcx
      go_wp2_with (go_at_call 39; refine Calls.mono CK.out ?_; rintro e w3 ⟨rfl, hb3⟩; refine Hid.out ?_)
      refine hidI ?_
      have HB3 := hidI (HB2.out.trans (hb3.mono HB2.out.size))
      clear hb3 CK
      go_wp2
      go_roundg g
      case measure => omega
      case rel => exact ⟨i + 1, y, by omega, rfl, by go_num, hidI (by rw [HTk.out, ← HAc.out, HY.out]), HB3⟩
/-- Parts with another one's taken in. -/
def mrg (o : Nat) (ps qs : List Int) : Nat → List Int
  | 0 => ps
  | i + 1 => (mrg o ps qs i).set i (opTwo o (ps.getD i 0) (qs.getD i 0))
theorem mrg_len (o : Nat) (ps qs : List Int) : ∀ i, (mrg o ps qs i).length = ps.length
  | 0 => rfl
  | i + 1 => by rw [mrg, List.length_set, mrg_len o ps qs i]
theorem mrg_get (o : Nat) (ps qs : List Int) : ∀ (i j : Nat), j < ps.length → (mrg o ps qs i)[j]? = some (if j < i then opTwo o (ps.getD j 0) (qs.getD j 0) else ps.getD j 0)
  | 0, j, hj => by simp [mrg, List.getD, hj]
  | i + 1, j, hj => by
    rw [mrg, List.getElem?_set, mrg_len]
    by_cases e : i = j
    · subst e
      rw [if_pos rfl, if_pos hj, if_pos (by omega)]
    · rw [if_neg e, mrg_get o ps qs i j hj]
      by_cases h : j < i
      · rw [if_pos h, if_pos (by omega)]
      · rw [if_neg h, if_neg (by omega)]
theorem pmerge_nil1 (v : Value) (hv : v = .pointer none ∨ ∃ q, v = .pointer (some ⟨q, 0, none⟩)) (w : World) : Calls Try.prog 11 #[.pointer none, v] w fun e w' => e = .returned (.int .i64 1) ∧ w = w' := by
  rcases hv with rfl | ⟨q, rfl⟩
  all_goals
    go_enter Try.func11, Try.ntmps11
    go_wp2
    go_ret
    exact ⟨rfl, rfl⟩
theorem pmerge_nil2 (p : Nat) (w : World) : Calls Try.prog 11 #[.pointer (some ⟨p, 0, none⟩), .pointer none] w fun e w' => e = .returned (.int .i64 1) ∧ w = w' := by
  go_enter Try.func11, Try.ntmps11
  go_wp2
  go_ret
  exact ⟨rfl, rfl⟩
set_option maxRecDepth 100000 in
set_option maxHeartbeats 1000000 in
theorem pmerge_bad {w : World} {p o n q o' n' : Nat} {c d : Int} {ps qs : List Int} (h : PAg w p o n c ps) (h' : PAg w q o' n' d qs) (hne : ¬ (o = o' ∧ n = n')) : Calls Try.prog 11 #[.pointer (some ⟨p, 0, none⟩), .pointer (some ⟨q, 0, none⟩)] w fun e w' => e = .returned (.int .i64 2) ∧ Below w.heap.size w w' := by
  have kk : ∀ {a : Addr} {v : Value}, w.cell? a = some v → ∀ D os, (grow (redrawn w D) os).cell? a = some v := fun {a v} hc D os => cell_regrown hc D os
  have x0 := kk h.c0
  have x1 := kk h.c1
  have y0 := kk h'.c0
  have y1 := kk h'.c1
  clear kk h h'
  by_cases ho : o = o'
  · subst ho
    have hn : ¬ n = n' := fun e => hne ⟨rfl, e⟩
    have q1 : ((o : Int) == (o : Int)) = true := by simp
    have q2 : ((n : Int) == (n' : Int)) = false := by simp; omega
    clear hne hn
    go_enter Try.func11, Try.ntmps11
    go_wp2
    refine wp_region_quiet_below (by kernel_rfl) (by kernel_rfl) ?_
    repeat (first | go_big_quiet_step (fail) | quiet_step (fail))
    refine wpQuiet_nil ?_
    intro _ hw'
    obtain ⟨⟨dq, osq⟩, hw''⟩ := hw'
    subst hw''
    have HW := hidI (below_regrown w dq osq)
    generalize grow (redrawn w dq) osq = w7 at *
    clear x0 x1 y0 y1
    go_wp2
    go_ret
    exact ⟨rfl, HW.out⟩
  · have q1 : ((o : Int) == (o' : Int)) = false := by simp; omega
    have q1a : ((o : Int) != (o' : Int)) = true := by simp [bne, q1]
    have q1b : decide ((o : Int) = (o' : Int)) = false := by simp; omega
    have q1c : ¬ (o : Int) = (o' : Int) := by omega
    clear hne
    go_enter Try.func11, Try.ntmps11
    go_wp2
    refine wp_region_quiet_below (by kernel_rfl) (by kernel_rfl) ?_
    repeat (first | go_big_quiet_step (fail) | quiet_step (fail))
    refine wpQuiet_nil ?_
    intro _ hw'
    obtain ⟨⟨dq, osq⟩, hw''⟩ := hw'
    subst hw''
    have HW := hidI (below_regrown w dq osq)
    generalize grow (redrawn w dq) osq = w7 at *
    clear x0 x1 y0 y1
    go_wp2
    go_ret
    exact ⟨rfl, HW.out⟩
/-- What is read of the other one. -/
def Gives (W : World) (q : Nat) (d : Int) (qs : List Int) (i : Nat) : Prop := W.cell? ⟨q, 2, none⟩ = some (.int .i64 d) ∧ (i < 4 → W.cell? ⟨q, 3 + i, none⟩ = some (.int .i64 (qs.getD i 0)))
set_option maxRecDepth 100000 in
set_option maxHeartbeats 1000000 in
theorem merge_core {w : World} {p o n q : Nat} {c d : Int} {ps qs : List Int} (h : PAg w p o n c ps) (k0 : w.cell? ⟨q, 0, none⟩ = some (.int .u8 (o : Int))) (k1 : w.cell? ⟨q, 1, none⟩ = some (.int .i64 (n : Int))) (ho : many5 o) (hn : n ≤ 4) (hc : 0 ≤ c) (hd : 0 ≤ d) (hs : c + d ≤ 1000000)
    (hG : ∀ (W : World) (i : Nat), w.grownBy W (some p) → PAg W p o n c (mrg o ps qs i) → Gives W q d qs i) :
    Calls Try.prog 11 #[.pointer (some ⟨p, 0, none⟩), .pointer (some ⟨q, 0, none⟩)] w (TkPost w p o n (c + d) (mrg o ps qs n)) := by
  have kk : ∀ {a : Addr} {v : Value}, w.cell? a = some v → ∀ D os, (grow (redrawn w D) os).cell? a = some v := fun {a v} hc D os => cell_regrown hc D os
  have x0 := kk h.c0
  have x1 := kk h.c1
  have y0 := kk k0
  have y1 := kk k1
  have HA := hidI h
  have HG := hidI hG
  have HO := hidI ho
  clear kk h k0 k1 hG ho
  have q1 : ((o : Int) == (o : Int)) = true := by simp
  have q2 : ((n : Int) == (n : Int)) = true := by simp
  go_enter Try.func11, Try.ntmps11
  go_wp2
  refine wp_region_quiet_below (by kernel_rfl) (by kernel_rfl) ?_
  repeat (first | go_big_quiet_step (fail) | quiet_step (fail))
  refine wpQuiet_nil ?_
  intro _ hw'
  obtain ⟨⟨dq, osq⟩, hw''⟩ := hw'
  subst hw''
  have HW := hidI (below_regrown w dq osq)
  generalize grow (redrawn w dq) osq = w7 at *
  clear x0 x1 y0 y1 q1 q2
  have HA7 := hidI (HA.out.below HW.out (Nat.le_refl _))
  have HG7 : Hid (w.grownBy w7 (some p)) := hidI (below_grown HW.out (Nat.le_refl _))
  have kn := HA7.out.c1
  go_wp2
  clear kn
  go_loopg [38] n (fun g s38 wx => ∃ i : Nat, i + g = n ∧ s38 = .int .i64 (i : Int) ∧ Hid (PAg wx p o n c (mrg o ps qs i)) ∧ Hid (w.grownBy wx (some p)))
  case atStart => exact ⟨0, by omega, rfl, HA7, HG7⟩
  case round =>
    obtain ⟨i, hig, rfl, HAx, HGx⟩ := hrel
    have hgv := HG.out wr i HGx.out HAx.out
    cases gk with
    | zero =>
      obtain rfl : n = i := by omega
      have r1 : decide ((n : Int) < (n : Int)) = false := by simp
      have kd := hgv.1
      have CM := hidI (more_any HAx.out d hc hd hs)
      clear hgv
      go_wp2_with (go_at_call 29; refine Calls.mono CM.out ?_; rintro e w3 ⟨rfl, ha3, hg3⟩; refine Hid.out ?_)
      refine hidI ?_
      have HA3 := hidI ha3
      have HG3 := hidI (grown_tr HGx.out hg3)
      clear ha3 hg3 CM kd
      go_wp2
      go_ret
      exact ⟨rfl, HA3.out, HG3.out⟩
    | succ g =>
      have r1 : (i : Int) < (n : Int) := by omega
      have i4 : (i : Int) < 4 := by omega
      have kx := hgv.2 (by omega)
      obtain ⟨z, hz⟩ : ∃ z, qs.getD i 0 = z := ⟨_, rfl⟩
      rw [hz] at kx
      have hx := mrg_get o ps qs i i (by rw [← mrg_len o ps qs i, HAx.out.len]; omega)
      rw [if_neg (by omega)] at hx
      have HSt : Hid (mrg o ps qs (i + 1) = (mrg o ps qs i).set i (opTwo o (ps.getD i 0) z)) := hidI (by rw [mrg, hz])
      have CT := hidI (taking_any wr p z)
      have HX := hidI hx
      clear hgv hz hx
      go_wp2_with (go_at_call 28; refine Calls.mono CT.out ?_; rintro e w2 ⟨ba, bw, rfl, ht2, hb2⟩; refine Hid.out ?_)
      refine hidI ?_
      have HA2 := hidI (HAx.out.below hb2 (Nat.le_refl _))
      have HG2 := hidI (grown_tr HGx.out (below_grown hb2 (Nat.le_refl _)))
      have CC := hidI (change_take HA2.out HO.out ht2 i _ HX.out)
      rw [← HSt.out] at CC
      clear CT ht2 hb2 kx
      go_wp2_with (go_at_call 27; refine Calls.mono CC.out ?_; rintro e w3 ⟨rfl, ha3, hg3⟩; refine Hid.out ?_)
      refine hidI ?_
      have HA3 := hidI ha3
      have HG3 := hidI (grown_tr HG2.out hg3)
      clear ha3 hg3 CC
      go_wp2
      go_roundg g
      case measure => omega
      case rel => exact ⟨i + 1, by omega, by go_num, HA3, HG3⟩
theorem getD_some {l : List Int} {j : Nat} (h : j < l.length) : l[j]? = some (l.getD j 0) := by simp [List.getD, h]
theorem pmerge_two {w : World} {p o n q : Nat} {c d : Int} {ps qs : List Int} (h : PAg w p o n c ps) (h' : PAg w q o n d qs) (hpq : p ≠ q) (ho : many5 o) (hn : n ≤ 4) (hc : 0 ≤ c) (hd : 0 ≤ d) (hs : c + d ≤ 1000000) :
    Calls Try.prog 11 #[.pointer (some ⟨p, 0, none⟩), .pointer (some ⟨q, 0, none⟩)] w (TkPost w p o n (c + d) (mrg o ps qs n)) :=
  merge_core h h'.c0 h'.c1 ho hn hc hd hs fun W i hg _ => by
    have hq := h'.grown hg (fun e => hpq (by cases e; rfl))
    exact ⟨hq.c2, fun hi => hq.c3 (getD_some (by rw [hq.len]; exact hi))⟩
theorem pmerge_self {w : World} {p o n : Nat} {c : Int} {ps : List Int} (h : PAg w p o n c ps) (ho : many5 o) (hn : n ≤ 4) (hc : 0 ≤ c) (hs : c + c ≤ 1000000) :
    Calls Try.prog 11 #[.pointer (some ⟨p, 0, none⟩), .pointer (some ⟨p, 0, none⟩)] w (TkPost w p o n (c + c) (mrg o ps ps n)) :=
  merge_core h h.c0 h.c1 ho hn hc hc hs fun W i _ ha => by
    refine ⟨ha.c2, fun hi => ha.c3 ?_⟩
    rw [mrg_get o ps ps i i (by rw [h.len]; exact hi), if_neg (by omega)]
end Go.Proofs.Ythjpoemgoeckbaa
