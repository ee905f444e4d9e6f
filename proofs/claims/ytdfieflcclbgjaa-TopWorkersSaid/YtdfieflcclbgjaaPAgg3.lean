/-
  The program's Agg: Whole, Merge.
-/
import Derived.Test.YtdfieflcclbgjaaPAgg2
import Derived.Test.YtdfieflcclbgjaaSortM
namespace Go.Proofs.Ytdfieflcclbgjaa
open Go.RowKit Go.Deep Go.MapKept Go.Sort
def wholeP (o n : Nat) (ps : List Int) (k : Nat) : Int := (fromL n k).foldl (fun a j => opTwo o a (ps.getD j.toNat 0)) (redW (o : Int))
theorem pwhole_nil (k : Nat) (w : World) : Calls Try.prog 29 #[.pointer none, .int .u64 (k : Int)] w fun e w' => e = .returned (.tuple #[.int .i64 0, .int .i64 1]) ∧ w = w' := by
  go_enter Try.func29, Try.ntmps29
  go_wp2
  go_ret2
  exact ⟨rfl, rfl⟩
theorem fromL_get' {n k i : Nat} {z : Int} (hn : n ≤ 16) (h : (fromL n k)[i]? = some z) : ∃ q : Nat, z = (q : Int) ∧ q < n := by
  have hm := (fromL_perm hn k).mem_iff.1 (List.mem_of_getElem? h)
  obtain ⟨q, hq, rfl⟩ := List.mem_map.1 hm
  exact ⟨q, rfl, List.mem_range.1 hq⟩
theorem fromL_lenA (n k : Nat) (hn : n ≤ 16) : (fromL n k).length = n := by have := (fromL_perm hn k).length_eq; simpa using this
set_option maxRecDepth 100000 in
set_option maxHeartbeats 1000000 in
theorem pwhole_any {w : World} {p o n : Nat} {c : Int} {ps : List Int} (h : PAg w p o n c ps) (ho : many5 o) (hn : n ≤ 4) (k : Nat) (hk : k < 18446744073709551616) : Calls Try.prog 29 #[.pointer (some ⟨p, 0, none⟩), .int .u64 (k : Int)] w fun e w' => e = .returned (.tuple #[.int .i64 (wholeP o n ps k), .int .i64 0]) ∧ Below w.heap.size w w' := by
  have k0 := h.c0
  have k1 := h.c1
  have HA := hidI h
  have HO := hidI ho
  have CR := hidI (redP_any o w)
  have CF := hidI (Perm.fromP_any n k w (by omega) hk)
  obtain ⟨R, hR⟩ : ∃ R, wholeP o n ps k = R := ⟨_, rfl⟩
  have HR := hidI hR
  rw [hR]
  clear hR h ho
  obtain ⟨f, hf⟩ : ∃ f, redW (o : Int) = f := ⟨_, rfl⟩
  obtain ⟨b, hb⟩ : ∃ b, redB (o : Int) = b := ⟨_, rfl⟩
  rw [hf, hb] at CR
  have HF := hidI hf
  clear hf hb
  go_enter Try.func29, Try.ntmps29
  go_wp2_with (first | (go_at_call 53; refine Calls.mono CR.out ?_; rintro e w' ⟨rfl, rfl⟩) | (go_at_call 39; refine Calls.mono CF.out ?_; rintro e w1 ⟨og, rfl, ho1, hb1⟩; refine Hid.out ?_))
  refine hidI ?_
  have HB1 := hidI hb1
  have HQ1 := hidI ho1
  clear ho1 hb1 CR CF k0 k1
  go_wp2
  go_loopg [6, 34] n (fun g s6 s34 wx => ∃ (i : Nat) (acc : Int), i + g = n ∧ s6 = .int .i64 acc ∧ s34 = .int .i64 (i : Int) ∧ Hid (acc = ((fromL n k).take i).foldl (fun a j => opTwo o a (ps.getD j.toNat 0)) f) ∧ Hid (Below w1.heap.size w1 wx))
  case atStart => exact ⟨0, _, by omega, rfl, rfl, hidI rfl, hidI (Below.refl _ _)⟩
  case round =>
    obtain ⟨i, acc, hig, rfl, rfl, HAc, HBx⟩ := hrel
    have HBw := hidI (HB1.out.trans (HBx.out.mono HB1.out.size))
    cases gk with
    | zero =>
      obtain rfl : n = i := by omega
      have q1 : decide ((n : Int) < (n : Int)) = false := by simp
      have HE : Hid (acc = R) := hidI (by
        rw [HAc.out, List.take_of_length_le (by rw [fromL_lenA n k (by omega)]; omega), ← HR.out, ← HF.out]
        rfl)
      go_wp2
      go_ret2
      exact ⟨by rw [HE.out]; rfl, HBw.out⟩
    | succ g =>
      have q1 : (i : Int) < (n : Int) := by omega
      obtain ⟨z, hz⟩ : ∃ z, (fromL n k)[i]? = some z := ⟨_, List.getElem?_eq_getElem (by rw [fromL_lenA n k (by omega)]; omega)⟩
      obtain ⟨q, rfl, hq⟩ := fromL_get' (by omega) hz
      have hcq : wr.cell? ⟨og, i, none⟩ = some (.int .i64 (q : Int)) := by
        have h := World.ownsRow.cells HQ1.out rfl i (.int .i64 (q : Int)) (by rw [List.getElem?_map, hz]; rfl)
        rw [Addr.add_lit, Nat.zero_add] at h
        exact (HBx.out.cell (p := ⟨og, i, none⟩) (World.block_lt_of_cell? w1 _ h)).trans h
      obtain ⟨x, hx⟩ : ∃ x, ps[q]? = some x := ⟨_, List.getElem?_eq_getElem (by rw [HA.out.len]; omega)⟩
      have HAx := hidI (HA.out.below HBw.out (Nat.le_refl _))
      have hcx := HAx.out.c3 hx
      have q4 : (q : Int) < 4 := by omega
      have HTk : Hid (((fromL n k).take (i + 1)).foldl (fun a j => opTwo o a (ps.getD j.toNat 0)) f = opTwo o (((fromL n k).take i).foldl (fun a j => opTwo o a (ps.getD j.toNat 0)) f) x) := hidI (by
        rw [List.take_add_one, hz]
        simp [List.getD, hx])
      have CT := hidI (taking_any wr p x)
      clear hz hx
      go_wp2_with (go_at_call 57; refine Calls.mono CT.out ?_; rintro e w2 ⟨ba, bw, rfl, ht2, hb2⟩; refine Hid.out ?_)
      refine hidI ?_
      have HB2 := hidI (HBx.out.trans (hb2.mono HBx.out.size))
      have CK := hidI (took_any (HAx.out.below hb2 (Nat.le_refl _)) HO.out ht2 acc)
      obtain ⟨y, hy⟩ : ∃ y, opTwo o acc x = y := ⟨_, rfl⟩
      rw [hy] at CK
      have HY := hidI hy
      clear hy CT ht2 hb2 hcq hcx
      go_wp2_with (go_at_call 78; refine Calls.mono CK.out ?_; rintro e w3 ⟨rfl, hb3⟩; refine Hid.out ?_)
      refine hidI ?_
      have HB3 := hidI (HB2.out.trans (hb3.mono HB2.out.size))
      clear hb3 CK
      go_wp2
      go_roundg g
      case measure => omega
      case rel => exact ⟨i + 1, y, by omega, rfl, by go_num, hidI (by rw [HTk.out, ← HAc.out, HY.out]), HB3⟩
/-- Parts with another one's taken in. -/
def mrg (o : Nat) (ps qs : List Int) : Nat → List Int
  | 0 => ps
  | i + 1 => (mrg o ps qs i).set i (opTwo o (ps.getD i 0) (qs.getD i 0))
theorem mrg_len (o : Nat) (ps qs : List Int) : ∀ i, (mrg o ps qs i).length = ps.length
  | 0 => rfl
  | i + 1 => by rw [mrg, List.length_set, mrg_len o ps qs i]
theorem mrg_get (o : Nat) (ps qs : List Int) : ∀ (i j : Nat), j < ps.length → (mrg o ps qs i)[j]? = some (if j < i then opTwo o (ps.getD j 0) (qs.getD j 0) else ps.getD j 0)
  | 0, j, hj => by simp [mrg, List.getD, hj]
  | i + 1, j, hj => by
    rw [mrg, List.getElem?_set, mrg_len]
    by_cases e : i = j
    · subst e
      rw [if_pos rfl, if_pos hj, if_pos (by omega)]
    · rw [if_neg e, mrg_get o ps qs i j hj]
      by_cases h : j < i
      · rw [if_pos h, if_pos (by omega)]
      · rw [if_neg h, if_neg (by omega)]
/-- What is read of the other one. -/
def Gives (W : World) (q : Nat) (d : Int) (qs : List Int) (i : Nat) : Prop := W.cell? ⟨q, 2, none⟩ = some (.int .i64 d) ∧ (i < 4 → W.cell? ⟨q, 3 + i, none⟩ = some (.int .i64 (qs.getD i 0)))
theorem getD_some {l : List Int} {j : Nat} (h : j < l.length) : l[j]? = some (l.getD j 0) := by simp [List.getD, h]
end Go.Proofs.Ytdfieflcclbgjaa
