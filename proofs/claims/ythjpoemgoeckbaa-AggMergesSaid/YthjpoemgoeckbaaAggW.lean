/-
  The law of AggWhole.
-/
import Derived.Test.YthjpoemgoeckbaaAggL
import Derived.Laws.Bits128
namespace Go.Proofs.Ythjpoemgoeckbaa
open Go.RowKit Go.Deep Go.MapKept
theorem and3 (n : Int) : bits .and .i64 n 3 = n % 4 := by
  have h3 : (BitVec.ofInt 64 3).toNat = 2 ^ 2 - 1 := by decide
  have key : (BitVec.ofInt 64 n &&& BitVec.ofInt 64 3).toNat = (n % ((2 ^ 64 : Nat) : Int)).toNat % 2 ^ 2 := by
    rw [BitVec.toNat_and, BitVec.toNat_ofInt, h3, Nat.and_two_pow_sub_one_eq_mod]
  show IntKind.i64.wrap ((BitVec.ofInt 64 n &&& BitVec.ofInt 64 3).toNat : Nat) = n % 4
  rw [key, IntKind.wrap_i64]
  omega
theorem and1 (n : Int) : bits .and .i64 n 1 = n % 2 := by
  have h1 : (BitVec.ofInt 64 1).toNat = 2 ^ 1 - 1 := by decide
  have key : (BitVec.ofInt 64 n &&& BitVec.ofInt 64 1).toNat = (n % ((2 ^ 64 : Nat) : Int)).toNat % 2 ^ 1 := by
    rw [BitVec.toNat_and, BitVec.toNat_ofInt, h1, Nat.and_two_pow_sub_one_eq_mod]
  show IntKind.i64.wrap ((BitVec.ofInt 64 n &&& BitVec.ofInt 64 1).toNat : Nat) = n % 2
  rw [key, IntKind.wrap_i64]
  omega
/-- A number as the law has it. -/
def nrmW (o : Nat) (z : Int) : Int := if o = 16 ∨ o = 17 then z % 2 else z
def DW (o : Nat) (z : Int) : Prop := if o = 16 ∨ o = 17 then z = 0 ∨ z = 1 else In64 z
theorem nrmW_in {o : Nat} {z : Int} (h : In64 z) : DW o (nrmW o z) := by
  unfold DW nrmW
  split
  · omega
  · exact h
theorem groupsW {o : Nat} (h : many5 o) : Groups o (DW o) ∧ Neutral o (DW o) := by
  rcases h with rfl | rfl | rfl | rfl | rfl
  · exact groups_of (.inl rfl)
  · exact groups_of (.inr (.inl rfl))
  · exact groups_of (.inr (.inr rfl))
  · exact ⟨groups_and, neutral_and⟩
  · exact ⟨groups_or, neutral_or⟩
theorem whole_eq {o n : Nat} {ps : List Int} {rows : List (List Int)} {ws : List Int} (ho : many5 o) (h : Parts o n ps rows) (hp : rows.flatten.Perm ws) (hw : ∀ z ∈ ws, DW o z) (k : Nat) : wholeP o n ps k = partR o ws := by
  rw [h.whole k, whole_all (groupsW ho).1 (groupsW ho).2 (by have := h.2.1; have := h.2.2.1; omega) (fun r hr z hz => hw z (hp.mem_iff.1 (List.mem_flatten.2 ⟨r, hr, hz⟩))) k, fold_same o _ hp]
  rfl
theorem flatten_set {rows : List (List Int)} {wk : Nat} {row : List Int} (h : rows[wk]? = some row) (z : Int) : (rows.set wk (row ++ [z])).flatten.Perm (rows.flatten ++ [z]) := by
  induction rows generalizing wk with
  | nil => simp at h
  | cons r rest ih =>
    cases wk with
    | zero =>
      simp at h
      subst h
      simp only [List.set_cons_zero, List.flatten_cons, List.append_assoc]
      exact List.perm_append_left_iff .. |>.2 List.perm_append_comm
    | succ wk =>
      simp only [List.set_cons_succ, List.flatten_cons, List.append_assoc]
      exact (ih (by simpa using h)).append_left r
def TwPost (w : World) (p o n : Nat) (c : Int) (ws : List Int) (e : Ending) (w' : World) : Prop := e = .returned (.int .i64 0) ∧ (∃ ps rows, PAg w' p o n c ps ∧ Parts o n ps rows ∧ rows.flatten.Perm ws) ∧ w.grownBy w' (some p)
theorem takew_any {w : World} {p o n : Nat} {c : Int} {ps : List Int} {rows : List (List Int)} {ws : List Int} (h : PAg w p o n c ps) (hP : Parts o n ps rows) (hw : rows.flatten.Perm ws) (ho : many5 o) (wk : Nat) (hk : wk < n) (z : Int) (hc : 0 ≤ c) (hs : c ≤ 1000) :
    Calls Try.prog 15 #[.pointer (some ⟨p, 0, none⟩), .int .i64 (wk : Int), .int .i64 z] w (TwPost w p o n (c + 1) (ws ++ [z])) := by
  obtain ⟨row, hr, hx⟩ := hP.get hk
  refine (ptake_any h ho wk _ z hk hx hc (by omega)).mono ?_
  rintro e w' ⟨rfl, ha, hg⟩
  exact ⟨rfl, ⟨_, _, ha, hP.take hr z, (flatten_set hr z).trans (hw.append_right [z])⟩, hg⟩
set_option maxRecDepth 100000 in
set_option maxHeartbeats 4000000 in
theorem aggWhole_law (w : World) (o : Nat) (v : Value) (zs : List Int) (hv : SeesW w v zs) (hi : ∀ z ∈ zs, In64 z) (k : Nat) (hk : k < 18446744073709551616) :
    Calls Try.prog 5 #[.int .u8 (o : Int), v, .int .u64 (k : Int)] w fun e w' => e = .returned (.bool true) ∧ Below w.heap.size w w' := by
  by_cases ho : many5 o
  · obtain ⟨a, cap, rfl, hcap, hL⟩ := hv
    have HL := hidI hL
    have HIn := hidI hi
    clear hL hi
    obtain ⟨m, hm⟩ : ∃ m, zs.length = m := ⟨_, rfl⟩
    have HM := hidI hm
    rw [hm] at hcap ⊢
    clear hm
    have HO := hidI ho
    have C1 : Hid (Calls Try.prog 13 #[.int .u8 (o : Int), .int .i64 1] w (NwPost w o 1)) := hidI (pnew_any o 1 w ho (by omega) (by omega))
    have C2 : Hid (∀ W, Calls Try.prog 13 #[.int .u8 (o : Int), .int .i64 4] W (NwPost W o 4)) := hidI fun W => pnew_any o 4 W ho (by omega) (by omega)
    have CR := hidI (fun W => reducesR_any (o : Int) W)
    rw [redB_of ho] at CR
    obtain ⟨fr, hfr⟩ : ∃ fr, redW (o : Int) = fr := ⟨_, rfl⟩
    rw [hfr] at CR
    have HFr := hidI hfr
    clear ho hfr
    go_enter Try.func5, Try.ntmps5
    go_wp2_with (go_at_call 13; refine Calls.mono C1.out ?_; rintro e w1 ⟨p, rfl, hp, hA, hb1⟩; refine Hid.out ?_)
    refine hidI ?_
    have HB1 := hidI hb1
    have HA1 := hidI hA
    have hpl := hA.lt
    clear C1 hA hb1
    go_wp2_with (go_at_call 13; refine Calls.mono (C2.out _) ?_; rintro e w2 ⟨q, rfl, hq, hA, hb2⟩; refine Hid.out ?_)
    refine hidI ?_
    have HB2 := hidI (HB1.out.trans (hb2.mono HB1.out.size))
    have HA2 := hidI (HA1.out.below hb2 (Nat.le_refl _))
    have HQ2 := hidI hA
    have hql := hA.lt
    have hpq : p ≠ q := by omega
    have hqw : w.heap.size ≤ q := by have := HB1.out.size; omega
    clear C2 hA hb2 HA1 HB1
    have CL := hidI (live_any w2)
    go_wp2_with (first | (go_at_call 14; refine Calls.mono (CR.out _) ?_; rintro e w' ⟨rfl, rfl⟩) | (go_at_call 9; refine Calls.mono CL.out ?_; rintro e w3 ⟨rfl, hb3⟩; refine Hid.out ?_))
    refine hidI ?_
    have HB3 := hidI (HB2.out.trans (hb3.mono HB2.out.size))
    have HA3 : Hid (∃ ps rows, PAg w3 p o 1 ((0 : Nat) : Int) ps ∧ Parts o 1 ps rows ∧ rows.flatten.Perm []) := hidI ⟨_, [[]], HA2.out.below hb3 (Nat.le_refl _), parts_clear rfl (by omega), by simp⟩
    have HQ3 : Hid (∃ ps rows, PAg w3 q o 4 ((0 : Nat) : Int) ps ∧ Parts o 4 ps rows ∧ rows.flatten.Perm []) := hidI ⟨_, [[], [], [], []], HQ2.out.below hb3 (Nat.le_refl _), parts_clear rfl (by omega), by simp⟩
    clear CL CR hb3 HA2 HQ2 HB2 hpl hql
    obtain ⟨K, hK⟩ : ∃ K, min m 30 = K := ⟨_, rfl⟩
    have HKK := hidI hK
    obtain ⟨ws, hws⟩ : ∃ ws, (zs.take K).map (nrmW o) = ws := ⟨_, rfl⟩
    have HWs := hidI hws
    have HWl : Hid (ws.length = K) := hidI (by rw [← hws, List.length_map, List.length_take, HM.out]; omega)
    have HWd : Hid (∀ z ∈ ws, DW o z) := hidI fun z hz => by
      rw [← hws] at hz
      obtain ⟨y, hy, rfl⟩ := List.mem_map.1 hz
      exact nrmW_in (HIn.out y (List.mem_of_mem_take hy))
    clear hws
    have a3 := and3
    have HA30 := hidI a3
    clear a3
    by_cases h30 : 30 < m
    · have j30 : (30 : Int) < (m : Int) := by omega
      have hK30 : K = 30 := by omega
      clear hK
      subst hK30
      go_wp2
      go_loopg [12] 30 (fun g s12 wx => ∃ i : Nat, i + g = 30 ∧ s12 = .int .i64 (i : Int) ∧ Hid (Below w.heap.size w wx) ∧ Hid (∃ ps rows, PAg wx p o 1 ((i : Nat) : Int) ps ∧ Parts o 1 ps rows ∧ rows.flatten.Perm (ws.take i)) ∧ Hid (∃ ps rows, PAg wx q o 4 ((i : Nat) : Int) ps ∧ Parts o 4 ps rows ∧ rows.flatten.Perm (ws.reverse.take i)))
      case atStart => exact ⟨0, by omega, rfl, HB3, hidI (by rw [List.take_zero]; exact HA3.out), hidI (by rw [List.take_zero]; exact HQ3.out)⟩
      case round =>
        obtain ⟨i, hig, rfl, HB, HAx, HQx⟩ := hrel
        have hszr := HB.out.size
        obtain ⟨psA, rowsA, hA, hPA, hpA⟩ := HAx.out
        obtain ⟨psB, rowsB, hB, hPB, hpB⟩ := HQx.out
        cases gk with
        | zero =>
          obtain rfl : i = 30 := by omega
          have q1 : decide ((30 : Int) < (30 : Int)) = false := by simp
          have hX := whole_eq HO.out hPA (by rw [List.take_of_length_le (by rw [HWl.out]; exact Nat.le_refl _)] at hpA; exact hpA) HWd.out k
          have hY := whole_eq HO.out hPB (by rw [List.take_of_length_le (by rw [List.length_reverse, HWl.out]; exact Nat.le_refl _)] at hpB; exact hpB.trans (List.reverse_perm ws)) HWd.out k
          obtain ⟨r0, hr0, hx0⟩ := hPA.get (show 0 < 1 by omega)
          have hfl : rowsA.flatten = r0 := by
            have hl := hPA.2.1
            match rowsA, hl, hr0 with
            | [a], _, h => simp at h; subst h; simp
          have hZ : partR o r0 = partR o ws := by
            rw [List.take_of_length_le (by rw [HWl.out]; exact Nat.le_refl _), hfl] at hpA
            exact fold_same o _ hpA
          rw [hZ] at hx0
          obtain ⟨X, hXX⟩ : ∃ X, partR o ws = X := ⟨_, rfl⟩
          rw [hXX] at hX hY hx0
          have CA := hidI (pwhole_any hA HO.out (by omega) k hk)
          rw [hX] at CA
          have HAq := hidI hA
          have HBq := hidI hB
          have HX0 := hidI hx0
          have HY := hidI hY
          have HXX := hidI hXX
          clear hX hY hZ hXX hfl hr0 hx0 hA hB hPA hPB hpA hpB
          go_wp2_with (go_at_call 16; refine Calls.mono CA.out ?_; rintro e w4 ⟨rfl, hb4⟩; refine Hid.out ?_)
          refine hidI ?_
          have HB4 := hidI (HB.out.trans (hb4.mono hszr))
          have HBq4 := hidI (HBq.out.below hb4 (Nat.le_refl _))
          have HAq4 := hidI (HAq.out.below hb4 (Nat.le_refl _))
          clear hb4 CA HAq HBq
          have CB := hidI (pwhole_any HBq4.out HO.out (by omega) k hk)
          rw [HY.out] at CB
          go_wp2_with (go_at_call 16; refine Calls.mono CB.out ?_; rintro e w5 ⟨rfl, hb5⟩; refine Hid.out ?_)
          refine hidI ?_
          have HB5 := hidI (HB4.out.trans (hb5.mono HB4.out.size))
          have HBq5 := hidI (HBq4.out.below hb5 (Nat.le_refl _))
          have HAq5 := hidI (HAq4.out.below hb5 (Nat.le_refl _))
          clear hb5 CB HAq4 HBq4
          have CP : Hid (Calls Try.prog 17 #[.pointer (some ⟨p, 0, none⟩), .int .i64 0] w5 fun e w' => e = .returned (.tuple #[.int .i64 X, .int .i64 0]) ∧ w5 = w') := hidI (ppart_any HAq5.out 0 X (by omega) HX0.out)
          have CC := hidI (pcount_any HAq5.out)
          have CD := hidI (pcount_any HBq5.out)
          have kX : (X == X) = true := by simp
          obtain ⟨ct, hct⟩ : ∃ ct : Int, ((30 : Nat) : Int) = ct := ⟨_, rfl⟩
          rw [hct] at CC CD
          have kC : (ct == ct) = true := by simp
          have HCT := hidI hct
          clear hct
          clear HAq5 HBq5
          go_wp2_with (go_at_call 17; refine Calls.mono CP.out ?_; rintro e w' ⟨rfl, rfl⟩; refine Hid.out ?_)
          refine hidI ?_
          clear CP
          go_wp2_with (go_at_call 18; refine Calls.mono CC.out ?_; rintro e w' ⟨rfl, rfl⟩; refine Hid.out ?_)
          refine hidI ?_
          clear CC
          go_wp2_with (go_at_call 18; refine Calls.mono CD.out ?_; rintro e w' ⟨rfl, rfl⟩; refine Hid.out ?_)
          refine hidI ?_
          clear CD
          go_wp2
          go_ret
          exact ⟨rfl, HB5.out⟩
        | succ g =>
          have q1 : (i : Int) < (30 : Int) := by omega
          obtain ⟨j, hj⟩ : ∃ j : Nat, (29 : Int) - (i : Int) = (j : Int) := ⟨30 - 1 - i, by omega⟩
          have hjK : j < 30 := by omega
          have hjm : (j : Int) < (m : Int) := by omega
          have him : (i : Int) < (m : Int) := by omega
          obtain ⟨z, hz⟩ : ∃ z, zs[i]? = some z := ⟨_, List.getElem?_eq_getElem (by rw [HM.out]; omega)⟩
          obtain ⟨y, hy⟩ : ∃ y, zs[j]? = some y := ⟨_, List.getElem?_eq_getElem (by rw [HM.out]; omega)⟩
          have HWi : Hid (ws.take (i + 1) = ws.take i ++ [nrmW o z]) := hidI (by
            rw [List.take_add_one, ← HWs.out, List.getElem?_map, List.getElem?_take, if_pos (by omega), hz]; rfl)
          have HWj : Hid (ws.reverse.take (i + 1) = ws.reverse.take i ++ [nrmW o y]) := hidI (by
            have hwj : ws[j]? = some (nrmW o y) := by rw [← HWs.out, List.getElem?_map, List.getElem?_take, if_pos (by omega), hy]; rfl
            have hij : ws.length - 1 - i = j := by rw [HWl.out]; omega
            rw [List.take_add_one, List.getElem?_reverse (by rw [HWl.out]; omega), hij, hwj]; rfl)
          obtain ⟨b, off, rfl, hc⟩ : ∃ b off, a = some ⟨b, off, none⟩ ∧ ∀ (j : Nat) (z : Int), zs[j]? = some z → w.cell? ⟨b, off + j, none⟩ = some (.int .i64 z) := by
            rcases HL.out with h0 | h
            · rw [h0] at hz; simp at hz
            · exact h
          have cz : wr.cell? ⟨b, off + i, none⟩ = some (.int .i64 z) := (HB.out.cell (World.block_lt_of_cell? w _ (hc i z hz))).trans (hc i z hz)
          have cy : wr.cell? ⟨b, off + j, none⟩ = some (.int .i64 y) := (HB.out.cell (World.block_lt_of_cell? w _ (hc j y hy))).trans (hc j y hy)
          clear hc hz hy
          obtain ⟨z', hz'⟩ : ∃ z', nrmW o z = z' := ⟨_, rfl⟩
          obtain ⟨y', hy'⟩ : ∃ y', nrmW o y = y' := ⟨_, rfl⟩
          rw [hz'] at HWi
          rw [hy'] at HWj
          have CA : Hid (Calls Try.prog 15 #[.pointer (some ⟨p, 0, none⟩), .int .i64 0, .int .i64 z'] wr (TwPost wr p o 1 ((i : Nat) + 1) (ws.take i ++ [z']))) := hidI (takew_any hA hPA hpA HO.out 0 (by omega) z' (by omega) (by omega))
          have CB : Hid (∀ W, wr.grownBy W (some p) → ∀ x : Int, Calls Try.prog 15 #[.pointer (some ⟨q, 0, none⟩), .int .i64 (x % 4), .int .i64 y'] W (TwPost W q o 4 ((i : Nat) + 1) (ws.reverse.take i ++ [y']))) := hidI fun W hW x => by
            obtain ⟨wk, hwk⟩ : ∃ wk : Nat, x % 4 = (wk : Int) := ⟨(x % 4).toNat, by omega⟩
            rw [hwk]
            exact takew_any (hB.grown hW (fun e => hpq (by cases e; rfl))) hPB hpB HO.out wk (by omega) y' (by omega) (by omega)
          have a3 := HA30.out
          clear hA hPA hpA hB hPB hpB HAx HQx
          by_cases h67 : o = 16 ∨ o = 17
          · have ez : z % 2 = z' := by rw [← hz']; unfold nrmW; rw [if_pos h67]
            have ey : y % 2 = y' := by rw [← hy']; unfold nrmW; rw [if_pos h67]
            have az := and1 z
            have ay := and1 y
            rw [ez] at az
            rw [ey] at ay
            clear hz' hy' ez ey
            rcases h67 with rfl | rfl
            · have ko6 : (((16 : Nat) : Int) == 16) = true := by decide
              go_wp2_with (go_at_call 15; refine Calls.mono CA.out ?_; rintro e w4 ⟨rfl, hA4, hg4⟩; refine Hid.out ?_)
              refine hidI ?_
              have HA4 := hidI hA4
              have HB4 : Hid (Below w.heap.size w w4) := hidI (HB.out.grown hg4 hszr (fun k hk => by cases hk; exact hp))
              have CB4 := hidI (CB.out w4 hg4)
              clear CA CB hA4 hg4 cz cy
              go_wp2_with (go_at_call 15; refine Calls.mono (CB4.out _) ?_; rintro e w5 ⟨rfl, hB5, hg5⟩; refine Hid.out ?_)
              refine hidI ?_
              have HB5 : Hid (Below w.heap.size w w5) := hidI (HB4.out.grown hg5 HB4.out.size (fun k hk => by cases hk; exact hqw))
              have HA5 : Hid (∃ ps rows, PAg w5 p 16 1 ((i + 1 : Nat) : Int) ps ∧ Parts 16 1 ps rows ∧ rows.flatten.Perm (ws.take (i + 1))) := hidI (by
                obtain ⟨ps, rows, h1, h2, h3⟩ := HA4.out
                rw [HWi.out]
                exact ⟨ps, rows, h1.grown hg5 (fun e => hpq (by cases e; rfl)), h2, h3⟩)
              have HQ5 : Hid (∃ ps rows, PAg w5 q 16 4 ((i + 1 : Nat) : Int) ps ∧ Parts 16 4 ps rows ∧ rows.flatten.Perm (ws.reverse.take (i + 1))) := hidI (by
                rw [HWj.out]
                exact hB5)
              clear hB5 hg5 CB4 a3
              go_wp2
              go_roundg g
              case measure => omega
              case rel => exact ⟨i + 1, by omega, by go_num, HB5, HA5, HQ5⟩
            · have ko6 : (((17 : Nat) : Int) == 16) = false := by decide
              have ko7 : (((17 : Nat) : Int) == 17) = true := by decide
              go_wp2_with (go_at_call 15; refine Calls.mono CA.out ?_; rintro e w4 ⟨rfl, hA4, hg4⟩; refine Hid.out ?_)
              refine hidI ?_
              have HA4 := hidI hA4
              have HB4 : Hid (Below w.heap.size w w4) := hidI (HB.out.grown hg4 hszr (fun k hk => by cases hk; exact hp))
              have CB4 := hidI (CB.out w4 hg4)
              clear CA CB hA4 hg4 cz cy
              go_wp2_with (go_at_call 15; refine Calls.mono (CB4.out _) ?_; rintro e w5 ⟨rfl, hB5, hg5⟩; refine Hid.out ?_)
              refine hidI ?_
              have HB5 : Hid (Below w.heap.size w w5) := hidI (HB4.out.grown hg5 HB4.out.size (fun k hk => by cases hk; exact hqw))
              have HA5 : Hid (∃ ps rows, PAg w5 p 17 1 ((i + 1 : Nat) : Int) ps ∧ Parts 17 1 ps rows ∧ rows.flatten.Perm (ws.take (i + 1))) := hidI (by
                obtain ⟨ps, rows, h1, h2, h3⟩ := HA4.out
                rw [HWi.out]
                exact ⟨ps, rows, h1.grown hg5 (fun e => hpq (by cases e; rfl)), h2, h3⟩)
              have HQ5 : Hid (∃ ps rows, PAg w5 q 17 4 ((i + 1 : Nat) : Int) ps ∧ Parts 17 4 ps rows ∧ rows.flatten.Perm (ws.reverse.take (i + 1))) := hidI (by
                rw [HWj.out]
                exact hB5)
              clear hB5 hg5 CB4 a3
              go_wp2
              go_roundg g
              case measure => omega
              case rel => exact ⟨i + 1, by omega, by go_num, HB5, HA5, HQ5⟩
          · have ez : z = z' := by rw [← hz']; unfold nrmW; rw [if_neg h67]
            have ey : y = y' := by rw [← hy']; unfold nrmW; rw [if_neg h67]
            subst ez ey
            have ko6 : ((o : Int) == 16) = false := by simp; omega
            have ko7 : ((o : Int) == 17) = false := by simp; omega
            clear hz' hy' h67
            go_wp2_with (go_at_call 15; refine Calls.mono CA.out ?_; rintro e w4 ⟨rfl, hA4, hg4⟩; refine Hid.out ?_)
            refine hidI ?_
            have HA4 := hidI hA4
            have HB4 : Hid (Below w.heap.size w w4) := hidI (HB.out.grown hg4 hszr (fun k hk => by cases hk; exact hp))
            have CB4 := hidI (CB.out w4 hg4)
            clear CA CB hA4 hg4 cz cy
            go_wp2_with (go_at_call 15; refine Calls.mono (CB4.out _) ?_; rintro e w5 ⟨rfl, hB5, hg5⟩; refine Hid.out ?_)
            refine hidI ?_
            have HB5 : Hid (Below w.heap.size w w5) := hidI (HB4.out.grown hg5 HB4.out.size (fun k hk => by cases hk; exact hqw))
            have HA5 : Hid (∃ ps rows, PAg w5 p o 1 ((i + 1 : Nat) : Int) ps ∧ Parts o 1 ps rows ∧ rows.flatten.Perm (ws.take (i + 1))) := hidI (by
              obtain ⟨ps, rows, h1, h2, h3⟩ := HA4.out
              rw [HWi.out]
              exact ⟨ps, rows, h1.grown hg5 (fun e => hpq (by cases e; rfl)), h2, h3⟩)
            have HQ5 : Hid (∃ ps rows, PAg w5 q o 4 ((i + 1 : Nat) : Int) ps ∧ Parts o 4 ps rows ∧ rows.flatten.Perm (ws.reverse.take (i + 1))) := hidI (by
              rw [HWj.out]
              exact hB5)
            clear hB5 hg5 CB4 a3
            go_wp2
            go_roundg g
            case measure => omega
            case rel => exact ⟨i + 1, by omega, by go_num, HB5, HA5, HQ5⟩
    · have j30 : decide ((30 : Int) < (m : Int)) = false := by rw [decide_eq_false_iff_not]; omega
      have j31 : decide (30 < m) = false := by rw [decide_eq_false_iff_not]; omega
      have hKm : m = K := by omega
      clear hK
      subst hKm
      go_wp2
      go_loopg [12] m (fun g s12 wx => ∃ i : Nat, i + g = m ∧ s12 = .int .i64 (i : Int) ∧ Hid (Below w.heap.size w wx) ∧ Hid (∃ ps rows, PAg wx p o 1 ((i : Nat) : Int) ps ∧ Parts o 1 ps rows ∧ rows.flatten.Perm (ws.take i)) ∧ Hid (∃ ps rows, PAg wx q o 4 ((i : Nat) : Int) ps ∧ Parts o 4 ps rows ∧ rows.flatten.Perm (ws.reverse.take i)))
      case atStart => exact ⟨0, by omega, rfl, HB3, hidI (by rw [List.take_zero]; exact HA3.out), hidI (by rw [List.take_zero]; exact HQ3.out)⟩
      case round =>
        obtain ⟨i, hig, rfl, HB, HAx, HQx⟩ := hrel
        have hszr := HB.out.size
        obtain ⟨psA, rowsA, hA, hPA, hpA⟩ := HAx.out
        obtain ⟨psB, rowsB, hB, hPB, hpB⟩ := HQx.out
        cases gk with
        | zero =>
          obtain rfl : m = i := by omega
          have q1 : decide ((m : Int) < (m : Int)) = false := by simp
          have hX := whole_eq HO.out hPA (by rw [List.take_of_length_le (by rw [HWl.out]; exact Nat.le_refl _)] at hpA; exact hpA) HWd.out k
          have hY := whole_eq HO.out hPB (by rw [List.take_of_length_le (by rw [List.length_reverse, HWl.out]; exact Nat.le_refl _)] at hpB; exact hpB.trans (List.reverse_perm ws)) HWd.out k
          obtain ⟨r0, hr0, hx0⟩ := hPA.get (show 0 < 1 by omega)
          have hfl : rowsA.flatten = r0 := by
            have hl := hPA.2.1
            match rowsA, hl, hr0 with
            | [a], _, h => simp at h; subst h; simp
          have hZ : partR o r0 = partR o ws := by
            rw [List.take_of_length_le (by rw [HWl.out]; exact Nat.le_refl _), hfl] at hpA
            exact fold_same o _ hpA
          rw [hZ] at hx0
          obtain ⟨X, hXX⟩ : ∃ X, partR o ws = X := ⟨_, rfl⟩
          rw [hXX] at hX hY hx0
          have CA := hidI (pwhole_any hA HO.out (by omega) k hk)
          rw [hX] at CA
          have HAq := hidI hA
          have HBq := hidI hB
          have HX0 := hidI hx0
          have HY := hidI hY
          have HXX := hidI hXX
          clear hX hY hZ hXX hfl hr0 hx0 hA hB hPA hPB hpA hpB
          go_wp2_with (go_at_call 16; refine Calls.mono CA.out ?_; rintro e w4 ⟨rfl, hb4⟩; refine Hid.out ?_)
          refine hidI ?_
          have HB4 := hidI (HB.out.trans (hb4.mono hszr))
          have HBq4 := hidI (HBq.out.below hb4 (Nat.le_refl _))
          have HAq4 := hidI (HAq.out.below hb4 (Nat.le_refl _))
          clear hb4 CA HAq HBq
          have CB := hidI (pwhole_any HBq4.out HO.out (by omega) k hk)
          rw [HY.out] at CB
          go_wp2_with (go_at_call 16; refine Calls.mono CB.out ?_; rintro e w5 ⟨rfl, hb5⟩; refine Hid.out ?_)
          refine hidI ?_
          have HB5 := hidI (HB4.out.trans (hb5.mono HB4.out.size))
          have HBq5 := hidI (HBq4.out.below hb5 (Nat.le_refl _))
          have HAq5 := hidI (HAq4.out.below hb5 (Nat.le_refl _))
          clear hb5 CB HAq4 HBq4
          have CP : Hid (Calls Try.prog 17 #[.pointer (some ⟨p, 0, none⟩), .int .i64 0] w5 fun e w' => e = .returned (.tuple #[.int .i64 X, .int .i64 0]) ∧ w5 = w') := hidI (ppart_any HAq5.out 0 X (by omega) HX0.out)
          have CC := hidI (pcount_any HAq5.out)
          have CD := hidI (pcount_any HBq5.out)
          have kX : (X == X) = true := by simp
          obtain ⟨ct, hct⟩ : ∃ ct : Int, ((m : Nat) : Int) = ct := ⟨_, rfl⟩
          rw [hct] at CC CD
          have kC : (ct == ct) = true := by simp
          have HCT := hidI hct
          clear hct
          by_cases h0 : m = 0
          · have HXF : Hid (X = fr) := hidI (by
              have hw0 : ws = [] := List.eq_nil_of_length_eq_zero (by rw [HWl.out, h0])
              rw [← HXX.out, hw0, ← HFr.out]; rfl)
            have kF : (X == fr) = true := by rw [HXF.out]; simp
            have km : decide ((0 : Int) < (m : Int)) = false := by rw [decide_eq_false_iff_not]; omega
            have km2 : decide (0 < m) = false := by rw [decide_eq_false_iff_not]; omega
            have H0 := hidI h0
            clear h0
            clear HAq5 HBq5
            go_wp2_with (go_at_call 17; refine Calls.mono CP.out ?_; rintro e w' ⟨rfl, rfl⟩; refine Hid.out ?_)
            refine hidI ?_
            clear CP
            go_wp2_with (go_at_call 18; refine Calls.mono CC.out ?_; rintro e w' ⟨rfl, rfl⟩; refine Hid.out ?_)
            refine hidI ?_
            clear CC
            go_wp2_with (go_at_call 18; refine Calls.mono CD.out ?_; rintro e w' ⟨rfl, rfl⟩; refine Hid.out ?_)
            refine hidI ?_
            clear CD
            go_wp2
            go_ret
            exact ⟨rfl, HB5.out⟩
          have km : (0 : Int) < (m : Int) := by omega
          clear HAq5 HBq5
          go_wp2_with (go_at_call 17; refine Calls.mono CP.out ?_; rintro e w' ⟨rfl, rfl⟩; refine Hid.out ?_)
          refine hidI ?_
          clear CP
          go_wp2_with (go_at_call 18; refine Calls.mono CC.out ?_; rintro e w' ⟨rfl, rfl⟩; refine Hid.out ?_)
          refine hidI ?_
          clear CC
          go_wp2_with (go_at_call 18; refine Calls.mono CD.out ?_; rintro e w' ⟨rfl, rfl⟩; refine Hid.out ?_)
          refine hidI ?_
          clear CD
          go_wp2
          go_ret
          exact ⟨rfl, HB5.out⟩
        | succ g =>
          have q1 : (i : Int) < (m : Int) := by omega
          obtain ⟨j, hj⟩ : ∃ j : Nat, (m : Int) - 1 - (i : Int) = (j : Int) := ⟨m - 1 - i, by omega⟩
          have hjK : j < m := by omega
          have hjm : (j : Int) < (m : Int) := by omega
          have him : (i : Int) < (m : Int) := by omega
          obtain ⟨z, hz⟩ : ∃ z, zs[i]? = some z := ⟨_, List.getElem?_eq_getElem (by rw [HM.out]; omega)⟩
          obtain ⟨y, hy⟩ : ∃ y, zs[j]? = some y := ⟨_, List.getElem?_eq_getElem (by rw [HM.out]; omega)⟩
          have HWi : Hid (ws.take (i + 1) = ws.take i ++ [nrmW o z]) := hidI (by
            rw [List.take_add_one, ← HWs.out, List.getElem?_map, List.getElem?_take, if_pos (by omega), hz]; rfl)
          have HWj : Hid (ws.reverse.take (i + 1) = ws.reverse.take i ++ [nrmW o y]) := hidI (by
            have hwj : ws[j]? = some (nrmW o y) := by rw [← HWs.out, List.getElem?_map, List.getElem?_take, if_pos (by omega), hy]; rfl
            have hij : ws.length - 1 - i = j := by rw [HWl.out]; omega
            rw [List.take_add_one, List.getElem?_reverse (by rw [HWl.out]; omega), hij, hwj]; rfl)
          obtain ⟨b, off, rfl, hc⟩ : ∃ b off, a = some ⟨b, off, none⟩ ∧ ∀ (j : Nat) (z : Int), zs[j]? = some z → w.cell? ⟨b, off + j, none⟩ = some (.int .i64 z) := by
            rcases HL.out with h0 | h
            · rw [h0] at hz; simp at hz
            · exact h
          have cz : wr.cell? ⟨b, off + i, none⟩ = some (.int .i64 z) := (HB.out.cell (World.block_lt_of_cell? w _ (hc i z hz))).trans (hc i z hz)
          have cy : wr.cell? ⟨b, off + j, none⟩ = some (.int .i64 y) := (HB.out.cell (World.block_lt_of_cell? w _ (hc j y hy))).trans (hc j y hy)
          clear hc hz hy
          obtain ⟨z', hz'⟩ : ∃ z', nrmW o z = z' := ⟨_, rfl⟩
          obtain ⟨y', hy'⟩ : ∃ y', nrmW o y = y' := ⟨_, rfl⟩
          rw [hz'] at HWi
          rw [hy'] at HWj
          have CA : Hid (Calls Try.prog 15 #[.pointer (some ⟨p, 0, none⟩), .int .i64 0, .int .i64 z'] wr (TwPost wr p o 1 ((i : Nat) + 1) (ws.take i ++ [z']))) := hidI (takew_any hA hPA hpA HO.out 0 (by omega) z' (by omega) (by omega))
          have CB : Hid (∀ W, wr.grownBy W (some p) → ∀ x : Int, Calls Try.prog 15 #[.pointer (some ⟨q, 0, none⟩), .int .i64 (x % 4), .int .i64 y'] W (TwPost W q o 4 ((i : Nat) + 1) (ws.reverse.take i ++ [y']))) := hidI fun W hW x => by
            obtain ⟨wk, hwk⟩ : ∃ wk : Nat, x % 4 = (wk : Int) := ⟨(x % 4).toNat, by omega⟩
            rw [hwk]
            exact takew_any (hB.grown hW (fun e => hpq (by cases e; rfl))) hPB hpB HO.out wk (by omega) y' (by omega) (by omega)
          have a3 := HA30.out
          clear hA hPA hpA hB hPB hpB HAx HQx
          by_cases h67 : o = 16 ∨ o = 17
          · have ez : z % 2 = z' := by rw [← hz']; unfold nrmW; rw [if_pos h67]
            have ey : y % 2 = y' := by rw [← hy']; unfold nrmW; rw [if_pos h67]
            have az := and1 z
            have ay := and1 y
            rw [ez] at az
            rw [ey] at ay
            clear hz' hy' ez ey
            rcases h67 with rfl | rfl
            · have ko6 : (((16 : Nat) : Int) == 16) = true := by decide
              go_wp2_with (go_at_call 15; refine Calls.mono CA.out ?_; rintro e w4 ⟨rfl, hA4, hg4⟩; refine Hid.out ?_)
              refine hidI ?_
              have HA4 := hidI hA4
              have HB4 : Hid (Below w.heap.size w w4) := hidI (HB.out.grown hg4 hszr (fun k hk => by cases hk; exact hp))
              have CB4 := hidI (CB.out w4 hg4)
              clear CA CB hA4 hg4 cz cy
              go_wp2_with (go_at_call 15; refine Calls.mono (CB4.out _) ?_; rintro e w5 ⟨rfl, hB5, hg5⟩; refine Hid.out ?_)
              refine hidI ?_
              have HB5 : Hid (Below w.heap.size w w5) := hidI (HB4.out.grown hg5 HB4.out.size (fun k hk => by cases hk; exact hqw))
              have HA5 : Hid (∃ ps rows, PAg w5 p 16 1 ((i + 1 : Nat) : Int) ps ∧ Parts 16 1 ps rows ∧ rows.flatten.Perm (ws.take (i + 1))) := hidI (by
                obtain ⟨ps, rows, h1, h2, h3⟩ := HA4.out
                rw [HWi.out]
                exact ⟨ps, rows, h1.grown hg5 (fun e => hpq (by cases e; rfl)), h2, h3⟩)
              have HQ5 : Hid (∃ ps rows, PAg w5 q 16 4 ((i + 1 : Nat) : Int) ps ∧ Parts 16 4 ps rows ∧ rows.flatten.Perm (ws.reverse.take (i + 1))) := hidI (by
                rw [HWj.out]
                exact hB5)
              clear hB5 hg5 CB4 a3
              go_wp2
              go_roundg g
              case measure => omega
              case rel => exact ⟨i + 1, by omega, by go_num, HB5, HA5, HQ5⟩
            · have ko6 : (((17 : Nat) : Int) == 16) = false := by decide
              have ko7 : (((17 : Nat) : Int) == 17) = true := by decide
              go_wp2_with (go_at_call 15; refine Calls.mono CA.out ?_; rintro e w4 ⟨rfl, hA4, hg4⟩; refine Hid.out ?_)
              refine hidI ?_
              have HA4 := hidI hA4
              have HB4 : Hid (Below w.heap.size w w4) := hidI (HB.out.grown hg4 hszr (fun k hk => by cases hk; exact hp))
              have CB4 := hidI (CB.out w4 hg4)
              clear CA CB hA4 hg4 cz cy
              go_wp2_with (go_at_call 15; refine Calls.mono (CB4.out _) ?_; rintro e w5 ⟨rfl, hB5, hg5⟩; refine Hid.out ?_)
              refine hidI ?_
              have HB5 : Hid (Below w.heap.size w w5) := hidI (HB4.out.grown hg5 HB4.out.size (fun k hk => by cases hk; exact hqw))
              have HA5 : Hid (∃ ps rows, PAg w5 p 17 1 ((i + 1 : Nat) : Int) ps ∧ Parts 17 1 ps rows ∧ rows.flatten.Perm (ws.take (i + 1))) := hidI (by
                obtain ⟨ps, rows, h1, h2, h3⟩ := HA4.out
                rw [HWi.out]
                exact ⟨ps, rows, h1.grown hg5 (fun e => hpq (by cases e; rfl)), h2, h3⟩)
              have HQ5 : Hid (∃ ps rows, PAg w5 q 17 4 ((i + 1 : Nat) : Int) ps ∧ Parts 17 4 ps rows ∧ rows.flatten.Perm (ws.reverse.take (i + 1))) := hidI (by
                rw [HWj.out]
                exact hB5)
              clear hB5 hg5 CB4 a3
              go_wp2
              go_roundg g
              case measure => omega
              case rel => exact ⟨i + 1, by omega, by go_num, HB5, HA5, HQ5⟩
          · have ez : z = z' := by rw [← hz']; unfold nrmW; rw [if_neg h67]
            have ey : y = y' := by rw [← hy']; unfold nrmW; rw [if_neg h67]
            subst ez ey
            have ko6 : ((o : Int) == 16) = false := by simp; omega
            have ko7 : ((o : Int) == 17) = false := by simp; omega
            clear hz' hy' h67
            go_wp2_with (go_at_call 15; refine Calls.mono CA.out ?_; rintro e w4 ⟨rfl, hA4, hg4⟩; refine Hid.out ?_)
            refine hidI ?_
            have HA4 := hidI hA4
            have HB4 : Hid (Below w.heap.size w w4) := hidI (HB.out.grown hg4 hszr (fun k hk => by cases hk; exact hp))
            have CB4 := hidI (CB.out w4 hg4)
            clear CA CB hA4 hg4 cz cy
            go_wp2_with (go_at_call 15; refine Calls.mono (CB4.out _) ?_; rintro e w5 ⟨rfl, hB5, hg5⟩; refine Hid.out ?_)
            refine hidI ?_
            have HB5 : Hid (Below w.heap.size w w5) := hidI (HB4.out.grown hg5 HB4.out.size (fun k hk => by cases hk; exact hqw))
            have HA5 : Hid (∃ ps rows, PAg w5 p o 1 ((i + 1 : Nat) : Int) ps ∧ Parts o 1 ps rows ∧ rows.flatten.Perm (ws.take (i + 1))) := hidI (by
              obtain ⟨ps, rows, h1, h2, h3⟩ := HA4.out
              rw [HWi.out]
              exact ⟨ps, rows, h1.grown hg5 (fun e => hpq (by cases e; rfl)), h2, h3⟩)
            have HQ5 : Hid (∃ ps rows, PAg w5 q o 4 ((i + 1 : Nat) : Int) ps ∧ Parts o 4 ps rows ∧ rows.flatten.Perm (ws.reverse.take (i + 1))) := hidI (by
              rw [HWj.out]
              exact hB5)
            clear hB5 hg5 CB4 a3
            go_wp2
            go_roundg g
            case measure => omega
            case rel => exact ⟨i + 1, by omega, by go_num, HB5, HA5, HQ5⟩
  · have hr : redB (o : Int) = false := by
      cases h : redB (o : Int) with
      | false => rfl
      | true => exact absurd (redB_many h) ho
    have C1 := hidI (fun W => pnew_bad o 1 W (.inl hr))
    have C2 := hidI (fun W => pnew_bad o 4 W (.inl hr))
    have CR := hidI (fun W => reducesR_any (o : Int) W)
    rw [hr] at CR
    have CL := hidI (live_any w)
    clear ho hr hv hi
    go_enter Try.func5, Try.ntmps5
    go_wp2_with (go_at_call 13; refine Calls.mono (C1.out _) ?_; rintro e w1 ⟨rfl, rfl⟩; refine Hid.out ?_)
    refine hidI ?_
    clear C1
    go_wp2_with (first | (go_at_call 13; refine Calls.mono (C2.out _) ?_; rintro e w1 ⟨rfl, rfl⟩) | (go_at_call 14; refine Calls.mono (CR.out _) ?_; rintro e w' ⟨rfl, rfl⟩) | (go_at_call 9; refine Calls.mono CL.out ?_; rintro e w3 ⟨rfl, hb3⟩; refine Hid.out ?_))
    refine hidI ?_
    have HB3 := hidI hb3
    clear hb3 CL CR C2
    go_wp2
    go_ret
    exact ⟨rfl, HB3.out⟩
end Go.Proofs.Ythjpoemgoeckbaa
