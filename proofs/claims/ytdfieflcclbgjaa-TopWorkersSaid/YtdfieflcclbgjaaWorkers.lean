/-
  The law of TopWorkers.
-/
import Derived.Test.YtdfieflcclbgjaaRegW
import Derived.Test.YtdfieflcclbgjaaWkM
import Derived.Test.YtdfieflcclbgjaaPComb
import Derived.Test.YtdfieflcclbgjaaPTurn
import Derived.Test.YtdfieflcclbgjaaOpenM
namespace Go.Proofs.Ytdfieflcclbgjaa
open Go.RowKit Go.Deep Go.MapKept Go.Sort
theorem nat_u64 {a : Int} (h : (Lit.int .u64 a).wf = true) : ∃ n : Nat, a = (n : Int) ∧ n < 18446744073709551616 := by
  have e1 : IntKind.u64.min = 0 := rfl
  have e2 : IntKind.u64.max = 18446744073709551615 := rfl
  simp only [Lit.wf, e1, e2, Bool.and_eq_true, decide_eq_true_eq] at h
  exact ⟨a.toNat, by omega, by omega⟩
theorem and1 (n : Int) : bits .and .i64 n 1 = n % 2 := by
  have h1 : (BitVec.ofInt 64 1).toNat = 2 ^ 1 - 1 := by decide
  have key : (BitVec.ofInt 64 n &&& BitVec.ofInt 64 1).toNat = (n % ((2 ^ 64 : Nat) : Int)).toNat % 2 ^ 1 := by
    rw [BitVec.toNat_and, BitVec.toNat_ofInt, h1, Nat.and_two_pow_sub_one_eq_mod]
  show IntKind.i64.wrap ((BitVec.ofInt 64 n &&& BitVec.ofInt 64 1).toNat : Nat) = n % 2
  rw [key, IntKind.wrap_i64]
  omega
theorem seesO_lit (w : World) (os : List Nat) : SeesO (w.alloc (.cells (os.map fun o : Nat => Value.int .u8 (o : Int)).toArray 38)) (.slice (some ⟨w.heap.size, 0, none⟩) os.length os.length) os := by
  have hh := (MapKept.heap_alloc w (.cells (os.map fun o : Nat => Value.int .u8 (o : Int)).toArray 38)).1
  refine ⟨_, _, rfl, .inr ⟨w.heap.size, 0, rfl, fun j o ho => ?_⟩⟩
  rw [Lib.cell_of_heap hh, Nat.zero_add]
  simp [ho]
theorem pcombined (w : World) (v u : Value) (xs : List Msg) (os : List Nat) (hin : ∀ x ∈ xs, In64 x.to ∧ In64 x.tag) (hv : SeesM w v xs) (hu : SeesO w u os) (hl : xs.length ≤ 500) :
    Calls Try.prog 19 #[v, u] w fun e w' => ∃ r, e = .returned (.tuple #[r, .int .i64 (combRes os xs).2]) ∧ SeesM w' r (combRes os xs).1 ∧ Below w.heap.size w w' := by
  unfold combRes
  by_cases h1 : xs.all (tagOk os) = false
  · have hm : mayC os xs = 2 := if_pos h1
    have h := comb_bad w v u xs os hv hu (by omega) (.inl hm)
    rw [hm] at h
    rw [if_pos h1]
    exact h
  · by_cases h2 : xs.all (opOk os) = false
    · have hm : mayC os xs = 3 := by unfold mayC; rw [if_neg h1, if_pos h2]
      have h := comb_bad w v u xs os hv hu (by omega) (.inr hm)
      rw [hm] at h
      rw [if_neg h1, if_pos h2]
      exact h
    · rw [if_neg h1, if_neg h2]
      exact comb_ok w v u xs os hin hv hu (by omega) (by simpa using h1) (by simpa using h2)
set_option maxRecDepth 100000 in
set_option maxHeartbeats 8000000 in
theorem topWorkers_law (w : World) (v : Value) (xs0 : List Msg) (hv : SeesM w v xs0) (hi : ∀ x ∈ xs0, x.inr) (wh : Nat) (hwh : wh < 18446744073709551616) (k : Nat) (hk : k < 18446744073709551616) :
    Calls Try.prog 8 #[v, .int .u64 (wh : Int), .int .u64 (k : Int)] w fun e w' => e = .returned (.bool true) ∧ Below w.heap.size w w' := by
  have HV0 := hidI hv
  obtain ⟨a, cap, rfl, hcap, hs⟩ := hv
  have hwi : (wh : Int) < 18446744073709551616 := by omega
  obtain ⟨n, hn⟩ : ∃ n, xs0.length = n := ⟨_, rfl⟩
  have HIn0 := hidI hi
  clear hi
  have HO1 : Hid (SeesO (w.alloc (.cells #[.int .u8 1, .int .u8 7] 38)) (.slice (some ⟨w.heap.size, 0, none⟩) 2 2) ops2) := hidI (seesO_lit w ops2)
  have HB1 : Hid (Below w.heap.size w (w.alloc (.cells #[.int .u8 1, .int .u8 7] 38))) := hidI ((Below.refl _ w).alloc (Nat.le_refl _) _)
  have HSz : Hid ((w.alloc (.cells #[.int .u8 1, .int .u8 7] 38)).heap.size = w.heap.size + 1) := hidI (by simp)
  have C1 : Hid (Calls Try.prog 27 #[.int .u8 1, .int .i64 2] (w.alloc (.cells #[.int .u8 1, .int .u8 7] 38)) (NwPost (w.alloc (.cells #[.int .u8 1, .int .u8 7] 38)) 1 2)) := hidI (pnew_any 1 2 _ many1 (by omega) (by omega))
  by_cases h : 30 < n
  · have hne : xs0 ≠ [] := fun e => by rw [e] at hn; simp at hn; omega
    obtain ⟨b, off, rfl, hs2⟩ := hs.resolve_left hne
    obtain ⟨xs, hxs⟩ : ∃ xs, xs0.take 30 = xs := ⟨_, rfl⟩
    have HV : Hid (SeesM w (.slice (some ⟨b, off, none⟩) 30 cap) xs) := hidI (by
      rw [← hxs]
      exact ⟨_, cap, by rw [List.length_take]; simp; omega, by rw [List.length_take]; omega, .inr ⟨b, off, rfl, fun j x hx => hs2 j x (by
        rw [List.getElem?_take] at hx
        split at hx
        · exact hx
        · cases hx)⟩⟩)
    have HN : Hid (xs.length = 30) := hidI (by rw [← hxs, List.length_take]; omega)
    have HIn : Hid (∀ x ∈ xs, x.inr) := hidI fun x hx => HIn0.out x (by rw [← hxs] at hx; exact List.mem_of_mem_take hx)
    have k1 : (30 : Int) < (n : Int) := by omega
    have k2 : (30 : Int) ≤ (cap : Int) := by omega
    have k3 : 30 ≤ cap := by omega
    rw [hn]
    clear hs hs2 hcap hn HV0 hne hxs HIn0 h
    go_enter Try.func8, Try.ntmps8
    go_wp2_with (go_at_call 27; refine Calls.mono C1.out ?_; rintro e w2 ⟨pA, rfl, hlA, hA, hbA⟩; refine Hid.out ?_)
    refine hidI ?_
    have HB2 := hidI hbA
    have HA2 := hidI hA
    have HlA := hidI hlA
    clear hA hbA hlA C1
    generalize w.alloc (.cells #[.int .u8 1, .int .u8 7] 38) = w1 at *
    obtain ⟨B0, hB0⟩ : ∃ B0, w.heap.size = B0 := ⟨_, rfl⟩
    rw [hB0] at HO1 HB1 HSz ⊢
    have HBB := hidI hB0
    obtain ⟨B1, hB1⟩ : ∃ B1, w1.heap.size = B1 := ⟨_, rfl⟩
    rw [hB1] at HSz HB2 HlA
    have HBB1 := hidI hB1
    have HS2 : Hid (B1 ≤ w2.heap.size) := hidI (by have := HB2.out.size; omega)
    have HSS : Hid (B0 + 1 = B1) := hidI HSz.out.symm
    clear hB0 hB1 HSz
    have HU : Hid (∀ y, Below B1 w1 y → SeesO y (.slice (some ⟨B0, 0, none⟩) 2 2) ops2) := hidI fun y hy => HO1.out.below hy (by rw [HBB1.out]; exact Nat.le_refl _)
    clear HO1
    have C2 : Hid (Calls Try.prog 27 #[.int .u8 1, .int .i64 1] w2 (NwPost w2 1 1)) := hidI (pnew_any 1 1 _ many1 (by omega) (by omega))
    go_wp2_with (go_at_call 27; refine Calls.mono C2.out ?_; rintro e w3 ⟨pB, rfl, hlB, hB, hbB⟩; refine Hid.out ?_)
    refine hidI ?_
    have HB3 := hidI (HB2.out.trans (hbB.mono HS2.out))
    have HA3 := hidI (HA2.out.below hbB (Nat.le_refl _))
    have HBs3 := hidI hB
    have HS3 := hidI (Nat.le_trans HS2.out hbB.size)
    have HNE : Hid (pA ≠ pB ∧ B1 ≤ pB) := hidI (by have := HA2.out.lt; have := HS2.out; omega)
    clear hB hbB hlB C2 HB2 HA2
    have HT0 : Hid (TW (w3.alloc (.cells #[.slice none 0 0, .slice none 0 0] 52)) (w3.heap.size + 1) pA pB w3.heap.size (fun _ => .slice none 0 0) (.slice none 0 0) (fun _ => []) [] 0 0 [] []) := hidI (by
      have hb := (Below.refl w3.heap.size w3).alloc (Nat.le_refl _) (.cells #[.slice none 0 0, .slice none 0 0] 52)
      have h1 := HA3.out.lt
      have h2 := HBs3.out.lt
      refine ⟨⟨_, _, HA3.out.below hb (Nat.le_refl _), parts_clear rfl (by omega), by simp⟩, ⟨_, _, HBs3.out.below hb (Nat.le_refl _), parts_clear rfl (by omega), by simp⟩, (MapKept.heap_alloc w3 _).1, fun q _ => World.ownsRow_nil _ _ _ _, World.ownsRow_nil _ _ _ _, fun k hk => by simp [Value.ownBlock] at hk, fun q _ k hk => by simp [Value.ownBlock] at hk, ⟨by omega, by omega, by omega, by simp⟩, HNE.out.1, by omega, by omega⟩)
    have HB4 : Hid (Below B1 w1 (w3.alloc (.cells #[.slice none 0 0, .slice none 0 0] 52))) := hidI (HB3.out.alloc HS3.out _)
    have HS4 : Hid (B1 ≤ pA ∧ B1 ≤ pB ∧ B1 ≤ w3.heap.size) := hidI ⟨HlA.out, HNE.out.2, HS3.out⟩
    go_wp2
    generalize w3.alloc (.cells #[.slice none 0 0, .slice none 0 0] 52) = w4 at *
    obtain ⟨bx, hbx⟩ : ∃ bx, w3.heap.size = bx := ⟨_, rfl⟩
    rw [hbx] at HT0 HS4 ⊢
    clear hbx
    obtain ⟨BR, hBR⟩ : ∃ BR, bx + 1 = BR := ⟨_, rfl⟩
    rw [hBR] at HT0
    have HbxR : Hid (B1 ≤ BR) := hidI (by have := HS4.out; omega)
    clear hBR HA3 HBs3 HNE HB3 HS3 HlA
    go_loopg [11, 12] 30 (fun g s11 s12 wx => ∃ (i : Nat) (V : Nat → Value) (va : Value) (R : Nat → List Msg), i + g = 30 ∧ va = s11 ∧ s12 = .int .i64 (i : Int) ∧ Hid (TW wx BR pA pB bx V va R ((xs.take i).map nrw) i i (((xs.take i).map nrw).map Msg.val) (((xs.take i).map nrw).map Msg.val)) ∧ Hid ((R 0 ++ R 1).Perm ((xs.take i).map nrw)) ∧ Hid (Below B1 w1 wx))
    case atStart => exact ⟨0, fun _ => .slice none 0 0, _, fun _ => [], by omega, rfl, rfl, HT0, hidI (by simp), HB4⟩
    case round =>
      obtain ⟨i, V, va, R, hig, rfl, rfl, HT, HP, HBx⟩ := hrel
      have hszx : BR ≤ wr.heap.size := HT.out.lo.2.2.2
      cases gk with
      | succ g =>
        have k4 : (i : Int) < (30 : Int) := by omega
        obtain ⟨x, hx⟩ : ∃ x, xs[i]? = some x := ⟨_, List.getElem?_eq_getElem (by have := HN.out; omega)⟩
        obtain ⟨b1, o1, c1, e1, x0, x1, x2⟩ := HV.out.cell hx
        rw [HN.out] at e1
        cases e1
        have kk : ∀ {p : Addr} {v : Value}, w.cell? p = some v → wr.cell? p = some v := fun {p v} hc => by
          have h1 := World.block_lt_of_cell? w _ hc
          have h2 := (HB1.out.cell (by rw [HBB.out] at h1; exact h1)).trans hc
          exact (HBx.out.cell (by have := World.block_lt_of_cell? w1 _ h2; rw [HBB1.out] at this; exact this)).trans h2
        replace x0 := kk x0
        replace x1 := kk x1
        replace x2 := kk x2
        clear kk
        have HTK : Hid ((xs.take (i + 1)).map nrw = (xs.take i).map nrw ++ [nrw x]) := hidI (by rw [List.take_add_one, hx]; simp)
        have HLen : Hid (((xs.take i).map nrw).length ≤ 30) := hidI (by rw [List.length_map, List.length_take]; have := HN.out; omega)
        clear hx
        obtain ⟨xt, xg, xv⟩ := x
        simp only at x0 x1 x2
        have HNr : Hid (nrw ⟨xt, xg, xv⟩ = ⟨xt, xg % 2, xv⟩) := hidI rfl
        have a1 := and1 xg
        obtain ⟨tg, htg⟩ : ∃ tg, xg % 2 = tg := ⟨_, rfl⟩
        rw [htg] at HNr a1
        clear htg
        rw [HNr.out] at HTK
        clear HNr
        obtain ⟨q, aq, hq⟩ : ∃ q : Nat, bits BinOp.and IntKind.u64 ((wh : Int) / 2 ^ i) 1 = (q : Int) ∧ q < 2 := by
          refine ⟨(((wh : Int) / 2 ^ i) % 2).toNat, ?_, ?_⟩
          · rw [and1u]; omega
          · omega
        have hi30 : i ≤ 30 := by omega
        obtain ⟨L, hL⟩ : ∃ L, (xs.take i).map nrw = L := ⟨_, rfl⟩
        rw [hL] at HT HP HTK HLen
        clear hL
        have HRL : Hid ((R q).length ≤ 30) := hidI (by
          have h1 := HP.out.length_eq
          rw [List.length_append] at h1
          have h2 := HLen.out
          have : q = 0 ∨ q = 1 := by omega
          rcases this with rfl | rfl <;> omega)
        have hbA := (Below.refl wr.heap.size wr).alloc (Nat.le_refl _) (Obj.cells #[.int .i64 xt, .int .i64 tg, .int .i64 xv] 48)
        have HT5 := hidI (HT.out.below hbA.drew)
        have HB5 := hidI (HBx.out.trans (hbA.drew.mono (Nat.le_trans HbxR.out hszx)))
        have HM5 : Hid ((wr.alloc (Obj.cells #[.int .i64 xt, .int .i64 tg, .int .i64 xv] 48)).drew.heap[wr.heap.size]? = some (.cells #[.int .i64 xt, .int .i64 tg, .int .i64 xv] 48)) := hidI (MapKept.heap_alloc wr _).1
        have HZ5 : Hid (wr.heap.size < (wr.alloc (Obj.cells #[.int .i64 xt, .int .i64 tg, .int .i64 xv] 48)).drew.heap.size) := hidI (Array.getElem?_eq_some_iff.1 HM5.out).1
        have HNB : Hid ((V q).ownBlock ≠ some wr.heap.size ∧ va.ownBlock ≠ some wr.heap.size) := hidI ⟨fun e => by have := ((HT.out.rows q hq).lt _ e).2; omega, fun e => by have := (HT.out.all.lt _ e).2; omega⟩
        have hq2 : (q : Int) < 2 := by omega
        clear hbA HT
        go_wp2
        refine regW (bx := bx) (mb := wr.heap.size) (q := q) (rv := V q) (s0 := V 0) (s1 := V 1) (n := (R q).length) (cs := flatM (R q)) (p := xt) (g := tg) (J := xv) (B := BR) ⟨HT5.out.spot hq, by rw [Lib.cell_of_heap HM5.out]; rfl, by rw [Lib.cell_of_heap HM5.out]; rfl, by rw [Lib.cell_of_heap HM5.out]; rfl⟩ hq HT5.out.lo.2.2.1 HT5.out.lo.2.2.2 HT5.out.box HNB.out.1 (HT5.out.rows q hq) (by have := HRL.out; omega) (fun _ _ _ _ _ h => h) ?_
        intro W v6 t61 t62 t63 t64 t65 t66 t67 t68 hown hg hat
        have HT6 := hidI (HT5.out.push hq ⟨xt, tg, xv⟩ hg hown hat)
        have HP6 := hidI (perm_up hq ⟨xt, tg, xv⟩ HP.out)
        have HM6 : Hid ((W.setCell ⟨bx, q, none⟩ v6).heap[wr.heap.size]? = some (.cells #[.int .i64 xt, .int .i64 tg, .int .i64 xv] 48)) := hidI (((set_grown W bx q v6).block _ (Nat.lt_of_lt_of_le HZ5.out hg.size) (by have := HT5.out.lo; simp; omega)).trans ((hg.block _ HZ5.out (fun e => HNB.out.1 e.symm)).trans HM5.out))
        have HB6 : Hid (Below B1 w1 (W.setCell ⟨bx, q, none⟩ v6)) := hidI (Below.grown (Below.grown HB5.out hg (Nat.le_trans HbxR.out HT5.out.lo.2.2.2) (fun k hk => Nat.le_trans HbxR.out ((HT5.out.rows q hq).lt k hk).1)) (set_grown W bx q v6) (Nat.le_trans (Nat.le_trans HbxR.out HT5.out.lo.2.2.2) hg.size) (fun k hk => by cases hk; exact HS4.out.2.2))
        generalize W.setCell ⟨bx, q, none⟩ v6 = W6 at *
        clear hown hg hat HT5 HB5 HM5 HZ5 HP W
        obtain ⟨V6, hV6⟩ : ∃ V6, upV V q v6 = V6 := ⟨_, rfl⟩
        obtain ⟨R6, hR6⟩ : ∃ R6, upR R q ⟨xt, tg, xv⟩ = R6 := ⟨_, rfl⟩
        rw [hV6, hR6] at HT6
        rw [hR6] at HP6
        clear hV6 hR6
        obtain ⟨mb, hmb⟩ : ∃ mb, wr.heap.size = mb := ⟨_, rfl⟩
        rw [hmb] at HM6 HNB hszx ⊢
        clear hmb
        have c0 : W6.cell? ⟨mb, 0, none⟩ = some (.int .i64 xt) := by rw [Lib.cell_of_heap HM6.out]; rfl
        have c1 : W6.cell? ⟨mb, 1, none⟩ = some (.int .i64 tg) := by rw [Lib.cell_of_heap HM6.out]; rfl
        have c2 : W6.cell? ⟨mb, 2, none⟩ = some (.int .i64 xv) := by rw [Lib.cell_of_heap HM6.out]; rfl
        have HOA := hidI (World.ownsRow.alloc HT6.out.all (.cells #[.int .i64 xt, .int .i64 tg, .int .i64 xv] 48))
        have HSM := hidI (msg_seen (W := W6) ⟨xt, tg, xv⟩)
        have hz6 : BR ≤ W6.heap.size := HT6.out.lo.2.2.2
        have HMz : Hid (mb < W6.heap.size) := hidI (Array.getElem?_eq_some_iff.1 HM6.out).1
        have hln : L.length ≤ 30 := HLen.out
        go_wp2_with (at_builtin; go_must (refine wpList_append_any Try.underlying22 Try.info48 rfl (by decide) (by decide) rfl _ _ rfl BR va L.length (flatM L) rfl HOA.out _ 1 (Msg.cells ⟨xt, tg, xv⟩) rfl HSM.out (cells_one _) (by omega) (by simp; omega) ?_); intro v9 w9 hown9 hgrow9 hat9; refine Hid.out ?_)
        refine hidI ?_
        have hb6 := (Below.refl W6.heap.size W6).alloc (Nat.le_refl _) (Obj.cells #[.int .i64 xt, .int .i64 tg, .int .i64 xv] 48)
        have hg6 := grown_in hb6 hgrow9
        have HT9 := hidI (HT6.out.more ⟨xt, tg, xv⟩ hg6 hown9 (hat9.imp_right fun e => ⟨_, e, by simp⟩))
        have HM9 : Hid (w9.heap[mb]? = some (.cells #[.int .i64 xt, .int .i64 tg, .int .i64 xv] 48)) := hidI ((hg6.block mb HMz.out (fun e => HNB.out.2 e.symm)).trans HM6.out)
        have HB9 : Hid (Below B1 w1 w9) := hidI (Below.grown HB6.out hg6 (Nat.le_trans HbxR.out hz6) (fun k hk => Nat.le_trans HbxR.out (HT6.out.all.lt k hk).1))
        clear hb6 hg6 hown9 hgrow9 hat9 HOA HSM c0 c1 c2 HT6 HB6 HM6 HMz
        have c2 : w9.cell? ⟨mb, 2, none⟩ = some (.int .i64 xv) := by rw [Lib.cell_of_heap HM9.out]; rfl
        have CA := hidI (HT9.out.callA q hq xv (by omega))
        go_wp2_with (go_at_call 28; refine Calls.mono CA.out ?_; rintro e w10 ⟨rfl, ht10, hg10⟩; refine Hid.out ?_)
        refine hidI ?_
        have HT10 := hidI ht10
        have HM10 : Hid (w10.heap[mb]? = some (.cells #[.int .i64 xt, .int .i64 tg, .int .i64 xv] 48)) := hidI ((hg10.block mb (Array.getElem?_eq_some_iff.1 HM9.out).1 (by have := HT9.out.lo; simp; omega)).trans HM9.out)
        have HB10 : Hid (Below B1 w1 w10) := hidI (Below.grown HB9.out hg10 (Nat.le_trans HbxR.out HT9.out.lo.2.2.2) (fun k hk => by cases hk; exact HS4.out.1))
        clear ht10 hg10 CA c2 HT9 HB9 HM9
        have c2 : w10.cell? ⟨mb, 2, none⟩ = some (.int .i64 xv) := by rw [Lib.cell_of_heap HM10.out]; rfl
        have CB := hidI (HT10.out.callB xv (by omega))
        go_wp2_with (go_at_call 28; refine Calls.mono CB.out ?_; rintro e w11 ⟨rfl, ht11, hg11⟩; refine Hid.out ?_)
        refine hidI ?_
        have HB11 : Hid (Below B1 w1 w11) := hidI (Below.grown HB10.out hg11 (Nat.le_trans HbxR.out HT10.out.lo.2.2.2) (fun k hk => by cases hk; exact HS4.out.2.1))
        have HT11 := hidI ht11
        clear ht11 hg11 CB c2 HT10 HB10 HM10
        go_wp2
        go_roundg g
        case measure => omega
        case rel =>
          refine ⟨i + 1, V6, v9, R6, by omega, rfl, by go_num, ?_, ?_, HB11⟩
          · rw [HTK.out, List.map_append]
            exact HT11
          · rw [HTK.out]
            exact HP6
      | zero =>
        obtain rfl : 30 = i := by omega
        have HX : Hid (xs.take 30 = xs) := hidI (List.take_of_length_le (by rw [HN.out]; exact Nat.le_refl _))
        rw [HX.out] at HT HP
        have HKt : Hid (∀ x ∈ xs.map nrw, Kt x.to x.tag) := hidI fun x hx => by
          obtain ⟨y, hy, rfl⟩ := List.mem_map.1 hx
          exact nrw_kt (HIn.out y hy).1
        have HVl : Hid (∀ z ∈ (xs.map nrw).map Msg.val, In64 z) := hidI fun z hz => by
          obtain ⟨x, hx, rfl⟩ := List.mem_map.1 hz
          obtain ⟨y, hy, rfl⟩ := List.mem_map.1 hx
          exact (HIn.out y hy).2.2
        have HML : Hid ((xs.map nrw).length ≤ 30) := hidI (by rw [List.length_map]; have := HN.out; omega)
        obtain ⟨ms, hms⟩ : ∃ ms, xs.map nrw = ms := ⟨_, rfl⟩
        rw [hms] at HT HP HKt HVl HML
        obtain ⟨vals, hvals⟩ : ∃ vals, ms.map Msg.val = vals := ⟨_, rfl⟩
        rw [hvals] at HT HVl
        clear hms hvals HX
        have HK0 : Hid (∀ q, q < 2 → ∀ x ∈ R q, Kt x.to x.tag) := hidI fun q hq x hx => HKt.out x (HP.out.mem_iff.1 (by
          have : q = 0 ∨ q = 1 := by omega
          rcases this with rfl | rfl <;> simp [hx]))
        have HRL : Hid (∀ q, q < 2 → (R q).length ≤ 30) := hidI fun q hq => by
          have h1 := HP.out.length_eq
          rw [List.length_append] at h1
          have h2 := HML.out
          have : q = 0 ∨ q = 1 := by omega
          rcases this with rfl | rfl <;> omega
        have HCL : Hid (∀ l : List Msg, (sortM (combM ops2 l)).length ≤ l.length) := hidI fun l => by
          rw [(sortM_perm _).length_eq]
          have := combM_len ops2 l []
          simpa [combM] using this
        have c0 := HT.out.spot (q := 0) (by omega)
        have C1 := hidI (pcombined wr (V 0) _ (R 0) ops2 (fun x hx => kt_in (HK0.out 0 (by omega) x hx)) (seesM_of_owns (HT.out.rows 0 (by omega))) (HU.out _ HBx.out) (by have := HRL.out 0 (by omega); omega))
        rw [comb2 (HK0.out 0 (by omega))] at C1
        simp only at C1
        obtain ⟨W0, hW0⟩ : ∃ W0 : World, W0 = wr := ⟨wr, rfl⟩
        subst hW0
        go_wp2_with (go_at_call 19; refine Calls.mono C1.out ?_; rintro e w5 ⟨vx, rfl, hsx, hb5⟩; refine Hid.out ?_)
        refine hidI ?_
        have HT5 := hidI (HT.out.below hb5)
        have HS5 : Hid (B1 ≤ w5.heap.size) := hidI (Nat.le_trans HbxR.out HT5.out.lo.2.2.2)
        have HB5 := hidI (HBx.out.trans (hb5.mono (Nat.le_trans HbxR.out hszx)))
        have HX5 := hidI hsx
        clear hb5 hsx C1 c0 HT HBx
        have c1 := HT5.out.spot (q := 1) (by omega)
        have C2 := hidI (pcombined w5 (V 1) _ (R 1) ops2 (fun x hx => kt_in (HK0.out 1 (by omega) x hx)) (seesM_of_owns (HT5.out.rows 1 (by omega))) (HU.out _ HB5.out) (by have := HRL.out 1 (by omega); omega))
        rw [comb2 (HK0.out 1 (by omega))] at C2
        simp only at C2
        go_wp2_with (go_at_call 19; refine Calls.mono C2.out ?_; rintro e w6 ⟨vy, rfl, hsy, hb6⟩; refine Hid.out ?_)
        refine hidI ?_
        have HT6 := hidI (HT5.out.below hb6)
        have HS6 : Hid (B1 ≤ w6.heap.size) := hidI (Nat.le_trans HbxR.out HT6.out.lo.2.2.2)
        have HB6 := hidI (HB5.out.trans (hb6.mono HS5.out))
        have HX6 := hidI (HX5.out.below hb6 (Nat.le_refl _))
        have HY6 := hidI hsy
        clear hb6 hsy C2 c1 HT5 HB5 HX5 HS5
        obtain ⟨cA, hcA⟩ : ∃ cA, sortM (combM ops2 (R 0)) = cA := ⟨_, rfl⟩
        obtain ⟨cB, hcB⟩ : ∃ cB, sortM (combM ops2 (R 1)) = cB := ⟨_, rfl⟩
        have HWk : Hid (sortM (combM ops2 (turnM k (cB ++ cA))) = sortM (combM ops2 ms)) := hidI (by rw [← hcA, ← hcB]; exact workers_eq (R 0) (R 1) ms k HP.out)
        have HKc : Hid (∀ x ∈ turnM k (cB ++ cA), Kt x.to x.tag) := hidI fun x hx => by
          have h1 := (turnM_perm k _).mem_iff.1 hx
          rw [List.mem_append, ← hcA, ← hcB] at h1
          rcases h1 with h1 | h1
          · exact kt_comb (HK0.out 1 (by omega)) x h1
          · exact kt_comb (HK0.out 0 (by omega)) x h1
        have hlA : cA.length ≤ 30 := by rw [← hcA]; exact Nat.le_trans (HCL.out _) (HRL.out 0 (by omega))
        have hlB : cB.length ≤ 30 := by rw [← hcB]; exact Nat.le_trans (HCL.out _) (HRL.out 1 (by omega))
        rw [hcA] at HX6
        rw [hcB] at HY6
        clear hcA hcB HK0 HRL
        have HO7 := hidI (World.ownsRow_made (base := w6.heap.size) (e := 48) (size := 3) w6 #[] 0 (Nat.le_refl _) (by unfold maxLen; omega) rfl)
        have hb7 := (Below.refl w6.heap.size w6).alloc (Nat.le_refl _) (Obj.cells #[] 48)
        have HY7 := hidI (seesC_of_M (HY6.out.below hb7 (Nat.le_refl _)))
        have HX7 := hidI (HX6.out.below hb7 (Nat.le_refl _))
        have HB7' := hidI hb7
        clear hb7
        go_wp2_with (at_builtin; go_must (refine wpList_append_any Try.underlying22 Try.info48 rfl (by decide) (by decide) rfl _ _ rfl w6.heap.size _ 0 _ rfl HO7.out vy cB.length (flatM cB) rfl HY7.out flatM_cells (by omega) (by simp) ?_); intro v8 w8 hown8 hgrow8 _; refine Hid.out ?_)
        refine hidI ?_
        have HB8 : Hid (Below w6.heap.size w6 w8) := hidI (Below.grown HB7'.out hgrow8 (by simp) (fun k hk => (HO7.out.lt k hk).1))
        have HO8 : Hid (w8.ownsRow w6.heap.size 48 3 v8 cB.length (flatM cB)) := hidI (by
          have := hown8
          simp only [Nat.zero_add] at this
          simpa using this)
        have HX8 := hidI (seesC_of_M (HX6.out.below HB8.out (Nat.le_refl _)))
        clear hown8 hgrow8 HO7 HY7 HX7 HB7'
        have hz8 : w6.heap.size ≤ w8.heap.size := HB8.out.size
        go_wp2_with (at_builtin; go_must (refine wpList_append_any Try.underlying22 Try.info48 rfl (by decide) (by decide) rfl _ _ rfl w6.heap.size v8 cB.length _ rfl HO8.out vx cA.length (flatM cA) rfl HX8.out flatM_cells (by omega) (by omega) ?_); intro v9 w9 hown9 hgrow9 _; refine Hid.out ?_)
        refine hidI ?_
        have HB9 : Hid (Below w6.heap.size w6 w9) := hidI (Below.grown HB8.out hgrow9 (by omega) (fun k hk => (HO8.out.lt k hk).1))
        have HM9 : Hid (SeesM w9 v9 (cB ++ cA)) := hidI (by
          have := hown9
          rw [← flatM_append] at this
          exact seesM_of_owns this)
        clear hown9 hgrow9 HX8 HO8 HB8 hz8
        have HT9 := hidI (HT6.out.below HB9.out)
        have HBx9 := hidI (HB6.out.trans (HB9.out.mono HS6.out))
        have HS9 : Hid (B1 ≤ w9.heap.size) := hidI (Nat.le_trans HbxR.out HT9.out.lo.2.2.2)
        clear HT6 HB6 HB9 HX6 HY6
        have C3 := hidI (pturned_any w9 v9 (cB ++ cA) k hk HM9.out (by rw [List.length_append]; omega))
        go_wp2_with (go_at_call 14; refine Calls.mono C3.out ?_; rintro e w10 ⟨v10, rfl, hs10, hb10⟩; refine Hid.out ?_)
        refine hidI ?_
        have HT10 := hidI (HT9.out.below hb10)
        have HB10 := hidI (HBx9.out.trans (hb10.mono HS9.out))
        have HS10 : Hid (B1 ≤ w10.heap.size) := hidI (Nat.le_trans HbxR.out HT10.out.lo.2.2.2)
        have HM10 := hidI hs10
        clear hb10 hs10 C3 HT9 HBx9 HM9 HS9
        have C4 := hidI (pcombined w10 v10 _ (turnM k (cB ++ cA)) ops2 (fun x hx => kt_in (HKc.out x hx)) HM10.out (HU.out _ HB10.out) (by rw [turnM_length, List.length_append]; omega))
        rw [comb2 HKc.out, HWk.out] at C4
        simp only at C4
        go_wp2_with (go_at_call 19; refine Calls.mono C4.out ?_; rintro e w11 ⟨vz, rfl, hs11, hb11⟩; refine Hid.out ?_)
        refine hidI ?_
        have HT11 := hidI (HT10.out.below hb11)
        have HB11 := hidI (HB10.out.trans (hb11.mono HS10.out))
        have HS11 : Hid (B1 ≤ w11.heap.size) := hidI (Nat.le_trans HbxR.out HT11.out.lo.2.2.2)
        have HZ11 := hidI hs11
        clear hb11 hs11 C4 HT10 HB10 HM10 HS10
        have C5 := hidI (pcombined w11 va _ ms ops2 (fun x hx => kt_in (HKt.out x hx)) (seesM_of_owns HT11.out.all) (HU.out _ HB11.out) (by have := HML.out; omega))
        rw [comb2 HKt.out] at C5
        simp only at C5
        go_wp2_with (go_at_call 19; refine Calls.mono C5.out ?_; rintro e w12 ⟨vw, rfl, hs12, hb12⟩; refine Hid.out ?_)
        refine hidI ?_
        have HT12 := hidI (HT11.out.below hb12)
        have HB12 := hidI (HB11.out.trans (hb12.mono HS11.out))
        have HS12 : Hid (B1 ≤ w12.heap.size) := hidI (Nat.le_trans HbxR.out HT12.out.lo.2.2.2)
        have HZ12 := hidI (HZ11.out.below hb12 (Nat.le_refl _))
        have HW12 := hidI hs12
        clear hb12 hs12 C5 HT11 HB11 HS11 HZ11
        have hcl : (sortM (combM ops2 ms)).length ≤ 30 := Nat.le_trans (HCL.out _) HML.out
        obtain ⟨cs, hcs⟩ : ∃ cs, sortM (combM ops2 ms) = cs := ⟨_, rfl⟩
        rw [hcs] at HZ12 HW12 hcl
        clear hcs HWk HKc
        obtain ⟨l, hl⟩ : ∃ l, cs.length = l := ⟨_, rfl⟩
        have HCS := hidI hl
        obtain ⟨az, cz, ez⟩ : ∃ az cz, vz = .slice az l cz := by
          obtain ⟨az, cz, ez, _⟩ := HZ12.out
          exact ⟨az, cz, by rw [ez, hl]⟩
        obtain ⟨aw, cw, ew⟩ : ∃ aw cw, vw = .slice aw l cw := by
          obtain ⟨aw, cw, ew, _⟩ := HW12.out
          exact ⟨aw, cw, by rw [ew, hl]⟩
        subst ez
        subst ew
        rw [hl] at hcl
        clear hl
        have kl : ((l : Int) != (l : Int)) = false := by simp
        go_wp2
        go_loopg [23] l (fun g s23 wx => ∃ (j : Nat), j + g = l ∧ s23 = .int .i64 (j : Int) ∧ Hid (Below w12.heap.size w12 wx))
        case atStart => exact ⟨0, by omega, rfl, hidI (Below.refl _ _)⟩
        case round =>
          obtain ⟨j, hjg, rfl, HBj⟩ := hrel
          cases gk with
          | zero =>
            obtain rfl : j = l := by omega
            have k5 : decide ((j : Int) < (j : Int)) = false := by simp
            have HT13 := hidI (HT12.out.below HBj.out)
            have HB13 := hidI (HB12.out.trans (HBj.out.mono HS12.out))
            have HS13 : Hid (B1 ≤ wr.heap.size) := hidI (Nat.le_trans HbxR.out HT13.out.lo.2.2.2)
            have C6 := hidI (HT13.out.a.whole HVl.out k hk)
            obtain ⟨tot, htot⟩ : ∃ tot, partR 1 vals = tot := ⟨_, rfl⟩
            rw [htot] at C6
            go_wp2_with (go_at_call 29; refine Calls.mono C6.out ?_; rintro e w14 ⟨rfl, hb14⟩; refine Hid.out ?_)
            refine hidI ?_
            have HT14 := hidI (HT13.out.below hb14)
            have HB14 := hidI (HB13.out.trans (hb14.mono HS13.out))
            have HS14 : Hid (B1 ≤ w14.heap.size) := hidI (Nat.le_trans HbxR.out HT14.out.lo.2.2.2)
            clear hb14 C6 HT13 HB13 HS13
            have C7 := hidI (HT14.out.b.whole HVl.out k hk)
            rw [htot] at C7
            clear htot
            go_wp2_with (go_at_call 29; refine Calls.mono C7.out ?_; rintro e w15 ⟨rfl, hb15⟩; refine Hid.out ?_)
            refine hidI ?_
            have HB15 := hidI (HB14.out.trans (hb15.mono HS14.out))
            clear hb15 C7 HT14 HB14 HS14
            have kT : (tot == tot) = true := by simp
            go_wp2
            go_ret
            refine ⟨by simp, ?_⟩
            rw [HBB.out]
            exact HB1.out.trans (HB15.out.mono (by have := HSS.out; omega))
          | succ g =>
            have k5 : (j : Int) < (l : Int) := by omega
            obtain ⟨x, hx⟩ : ∃ x, cs[j]? = some x := ⟨_, List.getElem?_eq_getElem (by have := HCS.out; omega)⟩
            obtain ⟨b1, o1, d1, e1, x0, x1, x2⟩ := HZ12.out.cell hx
            obtain ⟨b2, o2, d2, e2, y0, y1, y2⟩ := HW12.out.cell hx
            rw [HCS.out] at e1 e2
            cases e1
            cases e2
            have kk : ∀ {p : Addr} {v : Value}, w12.cell? p = some v → ∀ d os, (grow (redrawn wr d) os).cell? p = some v := fun {p v} hc d os => cell_regrown ((HBj.out.cell (World.block_lt_of_cell? w12 _ hc)).trans hc) d os
            replace x0 := kk x0
            replace x1 := kk x1
            replace x2 := kk x2
            replace y0 := kk y0
            replace y1 := kk y1
            replace y2 := kk y2
            clear kk hx
            go_wp2
            refine wp_region_quiet_below (by kernel_rfl) (by kernel_rfl) ?_
            repeat (first | go_big_quiet_step (fail) | quiet_step (fail))
            refine wpQuiet_nil ?_
            intro _ hw'
            obtain ⟨⟨dq, osq⟩, hw''⟩ := hw'
            subst hw''
            have HW := hidI (HBj.out.trans ((below_regrown wr dq osq).mono HBj.out.size))
            generalize grow (redrawn wr dq) osq = w7 at *
            clear x0 x1 x2 y0 y1 y2
            go_wp2
            go_roundg g
            case measure => omega
            case rel => exact ⟨j + 1, by omega, by go_num, HW⟩
  · have HV : Hid (SeesM w (.slice a n cap) xs0) := hidI (by rw [← hn]; exact HV0.out)
    obtain ⟨xs, hxs⟩ : ∃ xs, xs = xs0 := ⟨_, rfl⟩
    subst hxs
    have HN := hidI hn
    have HIn := HIn0
    have hnl : n ≤ 30 := by omega
    have k1 : decide ((30 : Int) < (n : Int)) = false := by rw [decide_eq_false_iff_not]; omega
    have k2 : decide (30 < n) = false := by simpa using h
    rw [hn]
    clear hs hcap hn HV0 HIn0 h
    go_enter Try.func8, Try.ntmps8
    go_wp2_with (go_at_call 27; refine Calls.mono C1.out ?_; rintro e w2 ⟨pA, rfl, hlA, hA, hbA⟩; refine Hid.out ?_)
    refine hidI ?_
    have HB2 := hidI hbA
    have HA2 := hidI hA
    have HlA := hidI hlA
    clear hA hbA hlA C1
    generalize w.alloc (.cells #[.int .u8 1, .int .u8 7] 38) = w1 at *
    obtain ⟨B0, hB0⟩ : ∃ B0, w.heap.size = B0 := ⟨_, rfl⟩
    rw [hB0] at HO1 HB1 HSz ⊢
    have HBB := hidI hB0
    obtain ⟨B1, hB1⟩ : ∃ B1, w1.heap.size = B1 := ⟨_, rfl⟩
    rw [hB1] at HSz HB2 HlA
    have HBB1 := hidI hB1
    have HS2 : Hid (B1 ≤ w2.heap.size) := hidI (by have := HB2.out.size; omega)
    have HSS : Hid (B0 + 1 = B1) := hidI HSz.out.symm
    clear hB0 hB1 HSz
    have HU : Hid (∀ y, Below B1 w1 y → SeesO y (.slice (some ⟨B0, 0, none⟩) 2 2) ops2) := hidI fun y hy => HO1.out.below hy (by rw [HBB1.out]; exact Nat.le_refl _)
    clear HO1
    have C2 : Hid (Calls Try.prog 27 #[.int .u8 1, .int .i64 1] w2 (NwPost w2 1 1)) := hidI (pnew_any 1 1 _ many1 (by omega) (by omega))
    go_wp2_with (go_at_call 27; refine Calls.mono C2.out ?_; rintro e w3 ⟨pB, rfl, hlB, hB, hbB⟩; refine Hid.out ?_)
    refine hidI ?_
    have HB3 := hidI (HB2.out.trans (hbB.mono HS2.out))
    have HA3 := hidI (HA2.out.below hbB (Nat.le_refl _))
    have HBs3 := hidI hB
    have HS3 := hidI (Nat.le_trans HS2.out hbB.size)
    have HNE : Hid (pA ≠ pB ∧ B1 ≤ pB) := hidI (by have := HA2.out.lt; have := HS2.out; omega)
    clear hB hbB hlB C2 HB2 HA2
    have HT0 : Hid (TW (w3.alloc (.cells #[.slice none 0 0, .slice none 0 0] 52)) (w3.heap.size + 1) pA pB w3.heap.size (fun _ => .slice none 0 0) (.slice none 0 0) (fun _ => []) [] 0 0 [] []) := hidI (by
      have hb := (Below.refl w3.heap.size w3).alloc (Nat.le_refl _) (.cells #[.slice none 0 0, .slice none 0 0] 52)
      have h1 := HA3.out.lt
      have h2 := HBs3.out.lt
      refine ⟨⟨_, _, HA3.out.below hb (Nat.le_refl _), parts_clear rfl (by omega), by simp⟩, ⟨_, _, HBs3.out.below hb (Nat.le_refl _), parts_clear rfl (by omega), by simp⟩, (MapKept.heap_alloc w3 _).1, fun q _ => World.ownsRow_nil _ _ _ _, World.ownsRow_nil _ _ _ _, fun k hk => by simp [Value.ownBlock] at hk, fun q _ k hk => by simp [Value.ownBlock] at hk, ⟨by omega, by omega, by omega, by simp⟩, HNE.out.1, by omega, by omega⟩)
    have HB4 : Hid (Below B1 w1 (w3.alloc (.cells #[.slice none 0 0, .slice none 0 0] 52))) := hidI (HB3.out.alloc HS3.out _)
    have HS4 : Hid (B1 ≤ pA ∧ B1 ≤ pB ∧ B1 ≤ w3.heap.size) := hidI ⟨HlA.out, HNE.out.2, HS3.out⟩
    go_wp2
    generalize w3.alloc (.cells #[.slice none 0 0, .slice none 0 0] 52) = w4 at *
    obtain ⟨bx, hbx⟩ : ∃ bx, w3.heap.size = bx := ⟨_, rfl⟩
    rw [hbx] at HT0 HS4 ⊢
    clear hbx
    obtain ⟨BR, hBR⟩ : ∃ BR, bx + 1 = BR := ⟨_, rfl⟩
    rw [hBR] at HT0
    have HbxR : Hid (B1 ≤ BR) := hidI (by have := HS4.out; omega)
    clear hBR HA3 HBs3 HNE HB3 HS3 HlA
    go_loopg [11, 12] n (fun g s11 s12 wx => ∃ (i : Nat) (V : Nat → Value) (va : Value) (R : Nat → List Msg), i + g = n ∧ va = s11 ∧ s12 = .int .i64 (i : Int) ∧ Hid (TW wx BR pA pB bx V va R ((xs.take i).map nrw) i i (((xs.take i).map nrw).map Msg.val) (((xs.take i).map nrw).map Msg.val)) ∧ Hid ((R 0 ++ R 1).Perm ((xs.take i).map nrw)) ∧ Hid (Below B1 w1 wx))
    case atStart => exact ⟨0, fun _ => .slice none 0 0, _, fun _ => [], by omega, rfl, rfl, HT0, hidI (by simp), HB4⟩
    case round =>
      obtain ⟨i, V, va, R, hig, rfl, rfl, HT, HP, HBx⟩ := hrel
      have hszx : BR ≤ wr.heap.size := HT.out.lo.2.2.2
      cases gk with
      | succ g =>
        have k4 : (i : Int) < (n : Int) := by omega
        obtain ⟨x, hx⟩ : ∃ x, xs[i]? = some x := ⟨_, List.getElem?_eq_getElem (by have := HN.out; omega)⟩
        obtain ⟨b1, o1, c1, e1, x0, x1, x2⟩ := HV.out.cell hx
        rw [HN.out] at e1
        cases e1
        have kk : ∀ {p : Addr} {v : Value}, w.cell? p = some v → wr.cell? p = some v := fun {p v} hc => by
          have h1 := World.block_lt_of_cell? w _ hc
          have h2 := (HB1.out.cell (by rw [HBB.out] at h1; exact h1)).trans hc
          exact (HBx.out.cell (by have := World.block_lt_of_cell? w1 _ h2; rw [HBB1.out] at this; exact this)).trans h2
        replace x0 := kk x0
        replace x1 := kk x1
        replace x2 := kk x2
        clear kk
        have HTK : Hid ((xs.take (i + 1)).map nrw = (xs.take i).map nrw ++ [nrw x]) := hidI (by rw [List.take_add_one, hx]; simp)
        have HLen : Hid (((xs.take i).map nrw).length ≤ 30) := hidI (by rw [List.length_map, List.length_take]; have := HN.out; omega)
        clear hx
        obtain ⟨xt, xg, xv⟩ := x
        simp only at x0 x1 x2
        have HNr : Hid (nrw ⟨xt, xg, xv⟩ = ⟨xt, xg % 2, xv⟩) := hidI rfl
        have a1 := and1 xg
        obtain ⟨tg, htg⟩ : ∃ tg, xg % 2 = tg := ⟨_, rfl⟩
        rw [htg] at HNr a1
        clear htg
        rw [HNr.out] at HTK
        clear HNr
        obtain ⟨q, aq, hq⟩ : ∃ q : Nat, bits BinOp.and IntKind.u64 ((wh : Int) / 2 ^ i) 1 = (q : Int) ∧ q < 2 := by
          refine ⟨(((wh : Int) / 2 ^ i) % 2).toNat, ?_, ?_⟩
          · rw [and1u]; omega
          · omega
        have hi30 : i ≤ 30 := by omega
        obtain ⟨L, hL⟩ : ∃ L, (xs.take i).map nrw = L := ⟨_, rfl⟩
        rw [hL] at HT HP HTK HLen
        clear hL
        have HRL : Hid ((R q).length ≤ 30) := hidI (by
          have h1 := HP.out.length_eq
          rw [List.length_append] at h1
          have h2 := HLen.out
          have : q = 0 ∨ q = 1 := by omega
          rcases this with rfl | rfl <;> omega)
        have hbA := (Below.refl wr.heap.size wr).alloc (Nat.le_refl _) (Obj.cells #[.int .i64 xt, .int .i64 tg, .int .i64 xv] 48)
        have HT5 := hidI (HT.out.below hbA.drew)
        have HB5 := hidI (HBx.out.trans (hbA.drew.mono (Nat.le_trans HbxR.out hszx)))
        have HM5 : Hid ((wr.alloc (Obj.cells #[.int .i64 xt, .int .i64 tg, .int .i64 xv] 48)).drew.heap[wr.heap.size]? = some (.cells #[.int .i64 xt, .int .i64 tg, .int .i64 xv] 48)) := hidI (MapKept.heap_alloc wr _).1
        have HZ5 : Hid (wr.heap.size < (wr.alloc (Obj.cells #[.int .i64 xt, .int .i64 tg, .int .i64 xv] 48)).drew.heap.size) := hidI (Array.getElem?_eq_some_iff.1 HM5.out).1
        have HNB : Hid ((V q).ownBlock ≠ some wr.heap.size ∧ va.ownBlock ≠ some wr.heap.size) := hidI ⟨fun e => by have := ((HT.out.rows q hq).lt _ e).2; omega, fun e => by have := (HT.out.all.lt _ e).2; omega⟩
        have hq2 : (q : Int) < 2 := by omega
        clear hbA HT
        go_wp2
        refine regW (bx := bx) (mb := wr.heap.size) (q := q) (rv := V q) (s0 := V 0) (s1 := V 1) (n := (R q).length) (cs := flatM (R q)) (p := xt) (g := tg) (J := xv) (B := BR) ⟨HT5.out.spot hq, by rw [Lib.cell_of_heap HM5.out]; rfl, by rw [Lib.cell_of_heap HM5.out]; rfl, by rw [Lib.cell_of_heap HM5.out]; rfl⟩ hq HT5.out.lo.2.2.1 HT5.out.lo.2.2.2 HT5.out.box HNB.out.1 (HT5.out.rows q hq) (by have := HRL.out; omega) (fun _ _ _ _ _ h => h) ?_
        intro W v6 t61 t62 t63 t64 t65 t66 t67 t68 hown hg hat
        have HT6 := hidI (HT5.out.push hq ⟨xt, tg, xv⟩ hg hown hat)
        have HP6 := hidI (perm_up hq ⟨xt, tg, xv⟩ HP.out)
        have HM6 : Hid ((W.setCell ⟨bx, q, none⟩ v6).heap[wr.heap.size]? = some (.cells #[.int .i64 xt, .int .i64 tg, .int .i64 xv] 48)) := hidI (((set_grown W bx q v6).block _ (Nat.lt_of_lt_of_le HZ5.out hg.size) (by have := HT5.out.lo; simp; omega)).trans ((hg.block _ HZ5.out (fun e => HNB.out.1 e.symm)).trans HM5.out))
        have HB6 : Hid (Below B1 w1 (W.setCell ⟨bx, q, none⟩ v6)) := hidI (Below.grown (Below.grown HB5.out hg (Nat.le_trans HbxR.out HT5.out.lo.2.2.2) (fun k hk => Nat.le_trans HbxR.out ((HT5.out.rows q hq).lt k hk).1)) (set_grown W bx q v6) (Nat.le_trans (Nat.le_trans HbxR.out HT5.out.lo.2.2.2) hg.size) (fun k hk => by cases hk; exact HS4.out.2.2))
        generalize W.setCell ⟨bx, q, none⟩ v6 = W6 at *
        clear hown hg hat HT5 HB5 HM5 HZ5 HP W
        obtain ⟨V6, hV6⟩ : ∃ V6, upV V q v6 = V6 := ⟨_, rfl⟩
        obtain ⟨R6, hR6⟩ : ∃ R6, upR R q ⟨xt, tg, xv⟩ = R6 := ⟨_, rfl⟩
        rw [hV6, hR6] at HT6
        rw [hR6] at HP6
        clear hV6 hR6
        obtain ⟨mb, hmb⟩ : ∃ mb, wr.heap.size = mb := ⟨_, rfl⟩
        rw [hmb] at HM6 HNB hszx ⊢
        clear hmb
        have c0 : W6.cell? ⟨mb, 0, none⟩ = some (.int .i64 xt) := by rw [Lib.cell_of_heap HM6.out]; rfl
        have c1 : W6.cell? ⟨mb, 1, none⟩ = some (.int .i64 tg) := by rw [Lib.cell_of_heap HM6.out]; rfl
        have c2 : W6.cell? ⟨mb, 2, none⟩ = some (.int .i64 xv) := by rw [Lib.cell_of_heap HM6.out]; rfl
        have HOA := hidI (World.ownsRow.alloc HT6.out.all (.cells #[.int .i64 xt, .int .i64 tg, .int .i64 xv] 48))
        have HSM := hidI (msg_seen (W := W6) ⟨xt, tg, xv⟩)
        have hz6 : BR ≤ W6.heap.size := HT6.out.lo.2.2.2
        have HMz : Hid (mb < W6.heap.size) := hidI (Array.getElem?_eq_some_iff.1 HM6.out).1
        have hln : L.length ≤ 30 := HLen.out
        go_wp2_with (at_builtin; go_must (refine wpList_append_any Try.underlying22 Try.info48 rfl (by decide) (by decide) rfl _ _ rfl BR va L.length (flatM L) rfl HOA.out _ 1 (Msg.cells ⟨xt, tg, xv⟩) rfl HSM.out (cells_one _) (by omega) (by simp; omega) ?_); intro v9 w9 hown9 hgrow9 hat9; refine Hid.out ?_)
        refine hidI ?_
        have hb6 := (Below.refl W6.heap.size W6).alloc (Nat.le_refl _) (Obj.cells #[.int .i64 xt, .int .i64 tg, .int .i64 xv] 48)
        have hg6 := grown_in hb6 hgrow9
        have HT9 := hidI (HT6.out.more ⟨xt, tg, xv⟩ hg6 hown9 (hat9.imp_right fun e => ⟨_, e, by simp⟩))
        have HM9 : Hid (w9.heap[mb]? = some (.cells #[.int .i64 xt, .int .i64 tg, .int .i64 xv] 48)) := hidI ((hg6.block mb HMz.out (fun e => HNB.out.2 e.symm)).trans HM6.out)
        have HB9 : Hid (Below B1 w1 w9) := hidI (Below.grown HB6.out hg6 (Nat.le_trans HbxR.out hz6) (fun k hk => Nat.le_trans HbxR.out (HT6.out.all.lt k hk).1))
        clear hb6 hg6 hown9 hgrow9 hat9 HOA HSM c0 c1 c2 HT6 HB6 HM6 HMz
        have c2 : w9.cell? ⟨mb, 2, none⟩ = some (.int .i64 xv) := by rw [Lib.cell_of_heap HM9.out]; rfl
        have CA := hidI (HT9.out.callA q hq xv (by omega))
        go_wp2_with (go_at_call 28; refine Calls.mono CA.out ?_; rintro e w10 ⟨rfl, ht10, hg10⟩; refine Hid.out ?_)
        refine hidI ?_
        have HT10 := hidI ht10
        have HM10 : Hid (w10.heap[mb]? = some (.cells #[.int .i64 xt, .int .i64 tg, .int .i64 xv] 48)) := hidI ((hg10.block mb (Array.getElem?_eq_some_iff.1 HM9.out).1 (by have := HT9.out.lo; simp; omega)).trans HM9.out)
        have HB10 : Hid (Below B1 w1 w10) := hidI (Below.grown HB9.out hg10 (Nat.le_trans HbxR.out HT9.out.lo.2.2.2) (fun k hk => by cases hk; exact HS4.out.1))
        clear ht10 hg10 CA c2 HT9 HB9 HM9
        have c2 : w10.cell? ⟨mb, 2, none⟩ = some (.int .i64 xv) := by rw [Lib.cell_of_heap HM10.out]; rfl
        have CB := hidI (HT10.out.callB xv (by omega))
        go_wp2_with (go_at_call 28; refine Calls.mono CB.out ?_; rintro e w11 ⟨rfl, ht11, hg11⟩; refine Hid.out ?_)
        refine hidI ?_
        have HB11 : Hid (Below B1 w1 w11) := hidI (Below.grown HB10.out hg11 (Nat.le_trans HbxR.out HT10.out.lo.2.2.2) (fun k hk => by cases hk; exact HS4.out.2.1))
        have HT11 := hidI ht11
        clear ht11 hg11 CB c2 HT10 HB10 HM10
        go_wp2
        go_roundg g
        case measure => omega
        case rel =>
          refine ⟨i + 1, V6, v9, R6, by omega, rfl, by go_num, ?_, ?_, HB11⟩
          · rw [HTK.out, List.map_append]
            exact HT11
          · rw [HTK.out]
            exact HP6
      | zero =>
        obtain rfl : n = i := by omega
        have HX : Hid (xs.take n = xs) := hidI (List.take_of_length_le (by rw [HN.out]; exact Nat.le_refl _))
        rw [HX.out] at HT HP
        have HKt : Hid (∀ x ∈ xs.map nrw, Kt x.to x.tag) := hidI fun x hx => by
          obtain ⟨y, hy, rfl⟩ := List.mem_map.1 hx
          exact nrw_kt (HIn.out y hy).1
        have HVl : Hid (∀ z ∈ (xs.map nrw).map Msg.val, In64 z) := hidI fun z hz => by
          obtain ⟨x, hx, rfl⟩ := List.mem_map.1 hz
          obtain ⟨y, hy, rfl⟩ := List.mem_map.1 hx
          exact (HIn.out y hy).2.2
        have HML : Hid ((xs.map nrw).length ≤ 30) := hidI (by rw [List.length_map]; have := HN.out; omega)
        obtain ⟨ms, hms⟩ : ∃ ms, xs.map nrw = ms := ⟨_, rfl⟩
        rw [hms] at HT HP HKt HVl HML
        obtain ⟨vals, hvals⟩ : ∃ vals, ms.map Msg.val = vals := ⟨_, rfl⟩
        rw [hvals] at HT HVl
        clear hms hvals HX
        have HK0 : Hid (∀ q, q < 2 → ∀ x ∈ R q, Kt x.to x.tag) := hidI fun q hq x hx => HKt.out x (HP.out.mem_iff.1 (by
          have : q = 0 ∨ q = 1 := by omega
          rcases this with rfl | rfl <;> simp [hx]))
        have HRL : Hid (∀ q, q < 2 → (R q).length ≤ 30) := hidI fun q hq => by
          have h1 := HP.out.length_eq
          rw [List.length_append] at h1
          have h2 := HML.out
          have : q = 0 ∨ q = 1 := by omega
          rcases this with rfl | rfl <;> omega
        have HCL : Hid (∀ l : List Msg, (sortM (combM ops2 l)).length ≤ l.length) := hidI fun l => by
          rw [(sortM_perm _).length_eq]
          have := combM_len ops2 l []
          simpa [combM] using this
        have c0 := HT.out.spot (q := 0) (by omega)
        have C1 := hidI (pcombined wr (V 0) _ (R 0) ops2 (fun x hx => kt_in (HK0.out 0 (by omega) x hx)) (seesM_of_owns (HT.out.rows 0 (by omega))) (HU.out _ HBx.out) (by have := HRL.out 0 (by omega); omega))
        rw [comb2 (HK0.out 0 (by omega))] at C1
        simp only at C1
        obtain ⟨W0, hW0⟩ : ∃ W0 : World, W0 = wr := ⟨wr, rfl⟩
        subst hW0
        go_wp2_with (go_at_call 19; refine Calls.mono C1.out ?_; rintro e w5 ⟨vx, rfl, hsx, hb5⟩; refine Hid.out ?_)
        refine hidI ?_
        have HT5 := hidI (HT.out.below hb5)
        have HS5 : Hid (B1 ≤ w5.heap.size) := hidI (Nat.le_trans HbxR.out HT5.out.lo.2.2.2)
        have HB5 := hidI (HBx.out.trans (hb5.mono (Nat.le_trans HbxR.out hszx)))
        have HX5 := hidI hsx
        clear hb5 hsx C1 c0 HT HBx
        have c1 := HT5.out.spot (q := 1) (by omega)
        have C2 := hidI (pcombined w5 (V 1) _ (R 1) ops2 (fun x hx => kt_in (HK0.out 1 (by omega) x hx)) (seesM_of_owns (HT5.out.rows 1 (by omega))) (HU.out _ HB5.out) (by have := HRL.out 1 (by omega); omega))
        rw [comb2 (HK0.out 1 (by omega))] at C2
        simp only at C2
        go_wp2_with (go_at_call 19; refine Calls.mono C2.out ?_; rintro e w6 ⟨vy, rfl, hsy, hb6⟩; refine Hid.out ?_)
        refine hidI ?_
        have HT6 := hidI (HT5.out.below hb6)
        have HS6 : Hid (B1 ≤ w6.heap.size) := hidI (Nat.le_trans HbxR.out HT6.out.lo.2.2.2)
        have HB6 := hidI (HB5.out.trans (hb6.mono HS5.out))
        have HX6 := hidI (HX5.out.below hb6 (Nat.le_refl _))
        have HY6 := hidI hsy
        clear hb6 hsy C2 c1 HT5 HB5 HX5 HS5
        obtain ⟨cA, hcA⟩ : ∃ cA, sortM (combM ops2 (R 0)) = cA := ⟨_, rfl⟩
        obtain ⟨cB, hcB⟩ : ∃ cB, sortM (combM ops2 (R 1)) = cB := ⟨_, rfl⟩
        have HWk : Hid (sortM (combM ops2 (turnM k (cB ++ cA))) = sortM (combM ops2 ms)) := hidI (by rw [← hcA, ← hcB]; exact workers_eq (R 0) (R 1) ms k HP.out)
        have HKc : Hid (∀ x ∈ turnM k (cB ++ cA), Kt x.to x.tag) := hidI fun x hx => by
          have h1 := (turnM_perm k _).mem_iff.1 hx
          rw [List.mem_append, ← hcA, ← hcB] at h1
          rcases h1 with h1 | h1
          · exact kt_comb (HK0.out 1 (by omega)) x h1
          · exact kt_comb (HK0.out 0 (by omega)) x h1
        have hlA : cA.length ≤ 30 := by rw [← hcA]; exact Nat.le_trans (HCL.out _) (HRL.out 0 (by omega))
        have hlB : cB.length ≤ 30 := by rw [← hcB]; exact Nat.le_trans (HCL.out _) (HRL.out 1 (by omega))
        rw [hcA] at HX6
        rw [hcB] at HY6
        clear hcA hcB HK0 HRL
        have HO7 := hidI (World.ownsRow_made (base := w6.heap.size) (e := 48) (size := 3) w6 #[] 0 (Nat.le_refl _) (by unfold maxLen; omega) rfl)
        have hb7 := (Below.refl w6.heap.size w6).alloc (Nat.le_refl _) (Obj.cells #[] 48)
        have HY7 := hidI (seesC_of_M (HY6.out.below hb7 (Nat.le_refl _)))
        have HX7 := hidI (HX6.out.below hb7 (Nat.le_refl _))
        have HB7' := hidI hb7
        clear hb7
        go_wp2_with (at_builtin; go_must (refine wpList_append_any Try.underlying22 Try.info48 rfl (by decide) (by decide) rfl _ _ rfl w6.heap.size _ 0 _ rfl HO7.out vy cB.length (flatM cB) rfl HY7.out flatM_cells (by omega) (by simp) ?_); intro v8 w8 hown8 hgrow8 _; refine Hid.out ?_)
        refine hidI ?_
        have HB8 : Hid (Below w6.heap.size w6 w8) := hidI (Below.grown HB7'.out hgrow8 (by simp) (fun k hk => (HO7.out.lt k hk).1))
        have HO8 : Hid (w8.ownsRow w6.heap.size 48 3 v8 cB.length (flatM cB)) := hidI (by
          have := hown8
          simp only [Nat.zero_add] at this
          simpa using this)
        have HX8 := hidI (seesC_of_M (HX6.out.below HB8.out (Nat.le_refl _)))
        clear hown8 hgrow8 HO7 HY7 HX7 HB7'
        have hz8 : w6.heap.size ≤ w8.heap.size := HB8.out.size
        go_wp2_with (at_builtin; go_must (refine wpList_append_any Try.underlying22 Try.info48 rfl (by decide) (by decide) rfl _ _ rfl w6.heap.size v8 cB.length _ rfl HO8.out vx cA.length (flatM cA) rfl HX8.out flatM_cells (by omega) (by omega) ?_); intro v9 w9 hown9 hgrow9 _; refine Hid.out ?_)
        refine hidI ?_
        have HB9 : Hid (Below w6.heap.size w6 w9) := hidI (Below.grown HB8.out hgrow9 (by omega) (fun k hk => (HO8.out.lt k hk).1))
        have HM9 : Hid (SeesM w9 v9 (cB ++ cA)) := hidI (by
          have := hown9
          rw [← flatM_append] at this
          exact seesM_of_owns this)
        clear hown9 hgrow9 HX8 HO8 HB8 hz8
        have HT9 := hidI (HT6.out.below HB9.out)
        have HBx9 := hidI (HB6.out.trans (HB9.out.mono HS6.out))
        have HS9 : Hid (B1 ≤ w9.heap.size) := hidI (Nat.le_trans HbxR.out HT9.out.lo.2.2.2)
        clear HT6 HB6 HB9 HX6 HY6
        have C3 := hidI (pturned_any w9 v9 (cB ++ cA) k hk HM9.out (by rw [List.length_append]; omega))
        go_wp2_with (go_at_call 14; refine Calls.mono C3.out ?_; rintro e w10 ⟨v10, rfl, hs10, hb10⟩; refine Hid.out ?_)
        refine hidI ?_
        have HT10 := hidI (HT9.out.below hb10)
        have HB10 := hidI (HBx9.out.trans (hb10.mono HS9.out))
        have HS10 : Hid (B1 ≤ w10.heap.size) := hidI (Nat.le_trans HbxR.out HT10.out.lo.2.2.2)
        have HM10 := hidI hs10
        clear hb10 hs10 C3 HT9 HBx9 HM9 HS9
        have C4 := hidI (pcombined w10 v10 _ (turnM k (cB ++ cA)) ops2 (fun x hx => kt_in (HKc.out x hx)) HM10.out (HU.out _ HB10.out) (by rw [turnM_length, List.length_append]; omega))
        rw [comb2 HKc.out, HWk.out] at C4
        simp only at C4
        go_wp2_with (go_at_call 19; refine Calls.mono C4.out ?_; rintro e w11 ⟨vz, rfl, hs11, hb11⟩; refine Hid.out ?_)
        refine hidI ?_
        have HT11 := hidI (HT10.out.below hb11)
        have HB11 := hidI (HB10.out.trans (hb11.mono HS10.out))
        have HS11 : Hid (B1 ≤ w11.heap.size) := hidI (Nat.le_trans HbxR.out HT11.out.lo.2.2.2)
        have HZ11 := hidI hs11
        clear hb11 hs11 C4 HT10 HB10 HM10 HS10
        have C5 := hidI (pcombined w11 va _ ms ops2 (fun x hx => kt_in (HKt.out x hx)) (seesM_of_owns HT11.out.all) (HU.out _ HB11.out) (by have := HML.out; omega))
        rw [comb2 HKt.out] at C5
        simp only at C5
        go_wp2_with (go_at_call 19; refine Calls.mono C5.out ?_; rintro e w12 ⟨vw, rfl, hs12, hb12⟩; refine Hid.out ?_)
        refine hidI ?_
        have HT12 := hidI (HT11.out.below hb12)
        have HB12 := hidI (HB11.out.trans (hb12.mono HS11.out))
        have HS12 : Hid (B1 ≤ w12.heap.size) := hidI (Nat.le_trans HbxR.out HT12.out.lo.2.2.2)
        have HZ12 := hidI (HZ11.out.below hb12 (Nat.le_refl _))
        have HW12 := hidI hs12
        clear hb12 hs12 C5 HT11 HB11 HS11 HZ11
        have hcl : (sortM (combM ops2 ms)).length ≤ 30 := Nat.le_trans (HCL.out _) HML.out
        obtain ⟨cs, hcs⟩ : ∃ cs, sortM (combM ops2 ms) = cs := ⟨_, rfl⟩
        rw [hcs] at HZ12 HW12 hcl
        clear hcs HWk HKc
        obtain ⟨l, hl⟩ : ∃ l, cs.length = l := ⟨_, rfl⟩
        have HCS := hidI hl
        obtain ⟨az, cz, ez⟩ : ∃ az cz, vz = .slice az l cz := by
          obtain ⟨az, cz, ez, _⟩ := HZ12.out
          exact ⟨az, cz, by rw [ez, hl]⟩
        obtain ⟨aw, cw, ew⟩ : ∃ aw cw, vw = .slice aw l cw := by
          obtain ⟨aw, cw, ew, _⟩ := HW12.out
          exact ⟨aw, cw, by rw [ew, hl]⟩
        subst ez
        subst ew
        rw [hl] at hcl
        clear hl
        have kl : ((l : Int) != (l : Int)) = false := by simp
        go_wp2
        go_loopg [23] l (fun g s23 wx => ∃ (j : Nat), j + g = l ∧ s23 = .int .i64 (j : Int) ∧ Hid (Below w12.heap.size w12 wx))
        case atStart => exact ⟨0, by omega, rfl, hidI (Below.refl _ _)⟩
        case round =>
          obtain ⟨j, hjg, rfl, HBj⟩ := hrel
          cases gk with
          | zero =>
            obtain rfl : j = l := by omega
            have k5 : decide ((j : Int) < (j : Int)) = false := by simp
            have HT13 := hidI (HT12.out.below HBj.out)
            have HB13 := hidI (HB12.out.trans (HBj.out.mono HS12.out))
            have HS13 : Hid (B1 ≤ wr.heap.size) := hidI (Nat.le_trans HbxR.out HT13.out.lo.2.2.2)
            have C6 := hidI (HT13.out.a.whole HVl.out k hk)
            obtain ⟨tot, htot⟩ : ∃ tot, partR 1 vals = tot := ⟨_, rfl⟩
            rw [htot] at C6
            go_wp2_with (go_at_call 29; refine Calls.mono C6.out ?_; rintro e w14 ⟨rfl, hb14⟩; refine Hid.out ?_)
            refine hidI ?_
            have HT14 := hidI (HT13.out.below hb14)
            have HB14 := hidI (HB13.out.trans (hb14.mono HS13.out))
            have HS14 : Hid (B1 ≤ w14.heap.size) := hidI (Nat.le_trans HbxR.out HT14.out.lo.2.2.2)
            clear hb14 C6 HT13 HB13 HS13
            have C7 := hidI (HT14.out.b.whole HVl.out k hk)
            rw [htot] at C7
            clear htot
            go_wp2_with (go_at_call 29; refine Calls.mono C7.out ?_; rintro e w15 ⟨rfl, hb15⟩; refine Hid.out ?_)
            refine hidI ?_
            have HB15 := hidI (HB14.out.trans (hb15.mono HS14.out))
            clear hb15 C7 HT14 HB14 HS14
            have kT : (tot == tot) = true := by simp
            go_wp2
            go_ret
            refine ⟨by simp, ?_⟩
            rw [HBB.out]
            exact HB1.out.trans (HB15.out.mono (by have := HSS.out; omega))
          | succ g =>
            have k5 : (j : Int) < (l : Int) := by omega
            obtain ⟨x, hx⟩ : ∃ x, cs[j]? = some x := ⟨_, List.getElem?_eq_getElem (by have := HCS.out; omega)⟩
            obtain ⟨b1, o1, d1, e1, x0, x1, x2⟩ := HZ12.out.cell hx
            obtain ⟨b2, o2, d2, e2, y0, y1, y2⟩ := HW12.out.cell hx
            rw [HCS.out] at e1 e2
            cases e1
            cases e2
            have kk : ∀ {p : Addr} {v : Value}, w12.cell? p = some v → ∀ d os, (grow (redrawn wr d) os).cell? p = some v := fun {p v} hc d os => cell_regrown ((HBj.out.cell (World.block_lt_of_cell? w12 _ hc)).trans hc) d os
            replace x0 := kk x0
            replace x1 := kk x1
            replace x2 := kk x2
            replace y0 := kk y0
            replace y1 := kk y1
            replace y2 := kk y2
            clear kk hx
            go_wp2
            refine wp_region_quiet_below (by kernel_rfl) (by kernel_rfl) ?_
            repeat (first | go_big_quiet_step (fail) | quiet_step (fail))
            refine wpQuiet_nil ?_
            intro _ hw'
            obtain ⟨⟨dq, osq⟩, hw''⟩ := hw'
            subst hw''
            have HW := hidI (HBj.out.trans ((below_regrown wr dq osq).mono HBj.out.size))
            generalize grow (redrawn wr dq) osq = w7 at *
            clear x0 x1 x2 y0 y1 y2
            go_wp2
            go_roundg g
            case measure => omega
            case rel => exact ⟨j + 1, by omega, by go_num, HW⟩
theorem topWorkers_walk {w : World} (v : Value) (xs : List Msg) (hv : SeesM w v xs) (hi : ∀ x ∈ xs, x.inr) (wh : Nat) (hwh : wh < 18446744073709551616) (k : Nat) (hk : k < 18446744073709551616) :
    Calls Try.prog 8 #[v, .int .u64 wh, .int .u64 k] w fun e w' => e = .returned (.bool true) ∧ Below w.heap.size w w' := topWorkers_law w v xs hv hi wh hwh k hk
end Go.Proofs.Ytdfieflcclbgjaa
