/-
  The document's Decode of messages.
-/
import Derived.Test.YtdfieflcclbgjaaRegD
import Derived.Test.YtdfieflcclbgjaaREnc
namespace Go.Proofs.Ytdfieflcclbgjaa
open Go.RowKit Go.Deep Go.MapKept Go.Sort
/-- The messages that bytes say, from a place on, or the place of the first one that is wrong. -/
def decM (L : Nat) : Nat → Nat → List Int → Except Nat (List Msg)
  | 0, _, _ => .ok []
  | _ + 1, _, [] => .ok []
  | f + 1, i, t :: r => if 12 ≤ t then .error i else if r.length ≠ 0 ∧ 6 ≤ r.headD 0 then .error (i + 1) else if r.length < 9 then .error L else
    match decM L f (i + 10) (r.drop 9) with
    | .error p => .error p
    | .ok ms => .ok (⟨t, r.headD 0, joinL (r.drop 1)⟩ :: ms)
def app (acc : List Msg) : Except Nat (List Msg) → Except Nat (List Msg)
  | .error p => .error p
  | .ok ms => .ok (acc ++ ms)
theorem app_nil (r : Except Nat (List Msg)) : app [] r = r := by cases r <;> rfl
theorem decM_tag {L f i : Nat} {t q : Int} {r : List Int} (h12 : ¬ 12 ≤ t) (h6 : 6 ≤ q) : decM L (f + 1) i (t :: q :: r) = .error (i + 1) := by
  rw [decM, if_neg h12, if_pos ⟨by simp, h6⟩]
theorem decM_short {L f i : Nat} {t : Int} {r : List Int} (h12 : ¬ 12 ≤ t) (h6 : ¬ (r.length ≠ 0 ∧ 6 ≤ r.headD 0)) (hl : r.length < 9) : decM L (f + 1) i (t :: r) = .error L := by
  rw [decM, if_neg h12, if_neg h6, if_pos hl]
theorem decM_go {L f i : Nat} {t q : Int} {r : List Int} (acc : List Msg) (h12 : ¬ 12 ≤ t) (h6 : ¬ 6 ≤ q) (hl : 8 ≤ r.length) : app acc (decM L (f + 1) i (t :: q :: r)) = app (acc ++ [⟨t, q, joinL r⟩]) (decM L f (i + 10) (r.drop 8)) := by
  rw [decM, if_neg h12, if_neg (fun h => h6 h.2), if_neg (by rw [List.length_cons]; omega)]
  simp only [List.drop_succ_cons, List.headD_cons, List.drop_zero]
  cases decM L f (i + 10) (r.drop 8) with
  | error p => rfl
  | ok ms => simp [app]
def DecPost (w : World) (r : Except Nat (List Msg)) (e : Ending) (w' : World) : Prop :=
  Below w.heap.size w w' ∧ match r with
  | .error p => e = .returned (.tuple #[.slice none 0 0, .int .i64 (p : Int), .int .i64 3])
  | .ok ms => ∃ v, e = .returned (.tuple #[v, .int .i64 0, .int .i64 0]) ∧ SeesM w' v ms
def decs (bs : List Int) : Except Nat (List Msg) := decM bs.length ((bs.length + 9) / 10) 0 bs
theorem SB.cell {w : World} {a : Option Addr} {cap : Nat} {bs : List Int} (h : SB w a cap bs) {i : Nat} {z : Int} (hz : bs[i]? = some z) : ∃ b off, a = some ⟨b, off, none⟩ ∧ b < w.heap.size ∧ ∀ (j : Nat) (z : Int), bs[j]? = some z → w.cell? ⟨b, off + j, none⟩ = some (.int .u8 z) := by
  rcases h.2 with h0 | ⟨b, off, rfl, hc⟩
  · have := (List.getElem?_eq_some_iff.1 hz).1; omega
  · exact ⟨b, off, rfl, World.block_lt_of_cell? w _ (hc i z hz), hc⟩
theorem grown_trans {a b c : World} {r : Nat} (h : a.grownBy b (some r)) (k : b.grownBy c (some r)) : a.grownBy c (some r) :=
  ⟨k.1.trans h.1, k.2.trans h.2, k.3.trans h.3, Nat.le_trans h.4 k.4, fun i hi hne => (k.5 i (Nat.lt_of_lt_of_le hi h.4) hne).trans (h.5 i hi hne)⟩
theorem grown_cell (w : World) (B j : Nat) (u : Value) : w.grownBy (w.setCell ⟨B, j, none⟩ u) (some B) :=
  ⟨rfl, rfl, rfl, by simp, fun k _ hk => heap_setCell_other w ⟨B, j, none⟩ k u (fun e => hk (by simp [e]))⟩
set_option maxRecDepth 100000 in
set_option maxHeartbeats 2000000 in
theorem rdecode_any (w : World) (a : Option Addr) (cap : Nat) (bs : List Int) (hS : SB w a cap bs) (hby : ∀ x ∈ bs, IsB x) (hl : bs.length ≤ 900) : Calls Try.prog 26 #[.slice a bs.length cap] w (DecPost w (decs bs)) := by
  obtain ⟨R, hR⟩ : ∃ R, decs bs = R := ⟨_, rfl⟩
  obtain ⟨n, hn⟩ : ∃ n, bs.length = n := ⟨_, rfl⟩
  have HR : Hid (R = decM n ((n + 9) / 10) 0 bs) := hidI (by rw [← hR, ← hn]; rfl)
  have HN := hidI hn
  have HS := hidI hS
  have HBy := hidI hby
  rw [hR]
  rw [hn] at hl ⊢
  clear hR hn hS hby
  obtain ⟨K, hK⟩ : ∃ K, (n + 9) / 10 = K := ⟨_, rfl⟩
  have hK1 : n ≤ 10 * K := by omega
  have hK2 : 10 * K ≤ n + 9 := by omega
  rw [hK] at HR
  clear hK
  go_enter Try.func26, Try.ntmps26
  go_wp2
  go_loopg [5, 6] K (fun g s5 s6 wx => ∃ (j i : Nat) (acc : List Msg) (v5 : Value), j + g = K ∧ Hid (i = 10 * j) ∧ v5 = s5 ∧ s6 = .int .i64 (i : Int) ∧ Hid (acc.length = j) ∧ Hid (Below w.heap.size w wx) ∧ Hid (wx.ownsRow w.heap.size 48 3 v5 j (flatM acc)) ∧ Hid (R = app acc (decM n g i (bs.drop i))))
  case atStart => exact ⟨0, 0, [], _, by omega, hidI rfl, rfl, rfl, hidI rfl, hidI (Below.refl _ _), hidI (World.ownsRow_nil _ _ _ _), hidI (by rw [app_nil]; exact HR.out)⟩
  case round =>
    obtain ⟨j, i, acc, v5, hjg, HI, rfl, rfl, HA, HB, HO, HD⟩ := hrel
    cases gk with
    | zero =>
      have hi : n ≤ i := by have := HI.out; omega
      have k1 : decide ((i : Int) < (n : Int)) = false := by rw [decide_eq_false_iff_not]; omega
      have k2 : decide (i < n) = false := by rw [decide_eq_false_iff_not]; omega
      go_wp2
      go_ret3
      refine ⟨HB.out, ?_⟩
      rw [HD.out]
      have e : bs.drop i = [] := List.drop_eq_nil_of_le (by have := HN.out; omega)
      simp only [decM, app, List.append_nil]
      exact ⟨_, rfl, seesM_of_owns HO.out⟩
    | succ g =>
      have hi : i < n := by have := HI.out; omega
      have k1 : (i : Int) < (n : Int) := by omega
      have ki9 : (i : Int) ≤ 900 := by omega
      obtain ⟨t, ht⟩ : ∃ t, bs[i]? = some t := ⟨_, List.getElem?_eq_getElem (by have := HN.out; omega)⟩
      obtain ⟨b, off, rfl, hbw, hc⟩ := HS.out.cell ht
      have HC : Hid (∀ y, Below w.heap.size w y → ∀ (j : Nat) (z : Int), bs[j]? = some z → y.cell? ⟨b, off + j, none⟩ = some (.int .u8 z)) := hidI fun y hy j z hz => (hy.cell (p := ⟨b, off + j, none⟩) hbw).trans (hc j z hz)
      have c0 := HC.out wr HB.out i t ht
      have htb := HBy.out t (List.mem_of_getElem? ht)
      unfold IsB at htb
      have wt : IntKind.i64.wrap t = t := by rw [IntKind.wrap_i64]; omega
      have HDr : Hid (bs.drop i = t :: bs.drop (i + 1)) := hidI (List.drop_eq_getElem?_toList_append ▸ by rw [ht]; rfl)
      clear hc
      by_cases h12 : 12 ≤ t
      · have HF : Hid (R = .error i) := hidI (by rw [HD.out, HDr.out]; simp only [decM, if_pos h12, app])
        go_wp2
        go_ret3
        refine ⟨HB.out, ?_⟩
        rw [HF.out]
        rfl
      have q12 : decide (12 ≤ t) = false := by simpa using h12
      by_cases h1 : i + 1 < n
      · have k2 : (i : Int) + 1 < (n : Int) := by omega
        have k3 : (0 : Int) ≤ (i : Int) + 1 := by omega
        have k4 : ((i : Int) + 1).toNat = i + 1 := by omega
        obtain ⟨q, hq⟩ : ∃ q, bs[i + 1]? = some q := ⟨_, List.getElem?_eq_getElem (by have := HN.out; omega)⟩
        have c1 := HC.out wr HB.out (i + 1) q hq
        have hqb := HBy.out q (List.mem_of_getElem? hq)
        unfold IsB at hqb
        have wq : IntKind.i64.wrap q = q := by rw [IntKind.wrap_i64]; omega
        have HDq : Hid (bs.drop (i + 1) = q :: bs.drop (i + 2)) := hidI (List.drop_eq_getElem?_toList_append ▸ by rw [hq]; rfl)
        have HL2 : Hid ((bs.drop (i + 2)).length + i + 2 = n) := hidI (by rw [List.length_drop]; have := HN.out; omega)
        by_cases h6 : 6 ≤ q
        · have HF : Hid (R = .error (i + 1)) := hidI (by rw [HD.out, HDr.out, HDq.out, decM_tag h12 h6]; rfl)
          go_wp2
          go_ret3
          refine ⟨HB.out, ?_⟩
          rw [HF.out]
          rfl
        have q6 : decide (6 ≤ q) = false := by simpa using h6
        by_cases h10 : n - i < 10
        · have k5 : (n : Int) - (i : Int) < 10 := by omega
          have HF : Hid (R = .error n) := hidI (by rw [HD.out, HDr.out, HDq.out, decM_short (r := q :: bs.drop (i + 2)) h12 (fun h => h6 h.2) (by rw [List.length_cons]; have := HL2.out; omega)]; rfl)
          go_wp2
          go_ret3
          refine ⟨HB.out, ?_⟩
          rw [HF.out]
          rfl
        have k5 : decide ((n : Int) - (i : Int) < 10) = false := by rw [decide_eq_false_iff_not]; omega
        have h10' : i + 10 ≤ n := by omega
        obtain ⟨b0, b1, b2, b3, b4, b5, b6, b7, r8, hl8⟩ : ∃ b0 b1 b2 b3 b4 b5 b6 b7 r8, bs.drop (i + 2) = b0 :: b1 :: b2 :: b3 :: b4 :: b5 :: b6 :: b7 :: r8 := by
          have hlen := HL2.out
          match hb : bs.drop (i + 2), (by omega : 8 ≤ (bs.drop (i + 2)).length) with
          | b0 :: b1 :: b2 :: b3 :: b4 :: b5 :: b6 :: b7 :: r8, _ => exact ⟨b0, b1, b2, b3, b4, b5, b6, b7, r8, rfl⟩
        have Hl8 := hidI hl8
        have hb8 : ∀ z ∈ [b0, b1, b2, b3, b4, b5, b6, b7], IsB z := fun z hz => HBy.out z (List.mem_of_mem_drop (i := i + 2) (by rw [hl8]; simp at hz ⊢; omega))
        have CJ : Hid (∀ W, Calls Try.prog 52 #[.agg #[.int .u8 b0, .int .u8 b1, .int .u8 b2, .int .u8 b3, .int .u8 b4, .int .u8 b5, .int .u8 b6, .int .u8 b7]] W fun e w' => e = .returned (.int .i64 (jn b0 b1 b2 b3 b4 b5 b6 b7)) ∧ Below W.heap.size W w') := hidI fun W => joinR_any b0 b1 b2 b3 b4 b5 b6 b7 (hb8 b0 (by simp)) (hb8 b1 (by simp)) (hb8 b2 (by simp)) (hb8 b3 (by simp)) (hb8 b4 (by simp)) (hb8 b5 (by simp)) (hb8 b6 (by simp)) (hb8 b7 (by simp)) W
        have HEl : Hid (∀ m, m < 8 → bs[i + 2 + m]? = some ([b0, b1, b2, b3, b4, b5, b6, b7].getD m 0)) := hidI fun m hm => by
          have : (bs.drop (i + 2))[m]? = some ([b0, b1, b2, b3, b4, b5, b6, b7].getD m 0) := by
            rw [Hl8.out]
            match m, hm with
            | 0, _ => rfl
            | 1, _ => rfl
            | 2, _ => rfl
            | 3, _ => rfl
            | 4, _ => rfl
            | 5, _ => rfl
            | 6, _ => rfl
            | 7, _ => rfl
          rwa [List.getElem?_drop] at this
        have HRn : Hid (R = app (acc ++ [⟨t, q, jn b0 b1 b2 b3 b4 b5 b6 b7⟩]) (decM n g (i + 10) (bs.drop (i + 10)))) := hidI (by
          rw [HD.out, HDr.out, HDq.out, decM_go acc h12 h6 (by have := HL2.out; omega), List.drop_drop, Hl8.out]
          rfl)
        obtain ⟨J, hJ⟩ : ∃ J, jn b0 b1 b2 b3 b4 b5 b6 b7 = J := ⟨_, rfl⟩
        rw [hJ] at CJ HRn
        have HFA : Hid (flatM (acc ++ [⟨t, q, J⟩]) = flatM acc ++ Msg.cells ⟨t, q, J⟩) := hidI (by rw [flatM_append, flatM_one])
        clear hJ hl8 hb8 HDr HDq HD
        have HZ0 : Hid (∀ j, j < 8 → ∃ x, (wr.alloc (.cells #[.int .u8 0, .int .u8 0, .int .u8 0, .int .u8 0, .int .u8 0, .int .u8 0, .int .u8 0, .int .u8 0] 78)).cell? ⟨wr.heap.size, j, none⟩ = some (.int .u8 x) ∧ (wr.alloc (.cells #[.int .u8 0, .int .u8 0, .int .u8 0, .int .u8 0, .int .u8 0, .int .u8 0, .int .u8 0, .int .u8 0] 78)).frozen? ⟨wr.heap.size, j, none⟩ = false) := hidI fun j hj => by
          refine ⟨0, ?_, ?_⟩
          · rw [Lib.cell_of_heap (World.alloc_heap_new wr _)]
            match j, hj with
            | 0, _ => rfl
            | 1, _ => rfl
            | 2, _ => rfl
            | 3, _ => rfl
            | 4, _ => rfl
            | 5, _ => rfl
            | 6, _ => rfl
            | 7, _ => rfl
          · unfold World.frozen?
            simp only [World.alloc_heap_new]
            simp
        have HB0 : Hid (Below w.heap.size w (wr.alloc (.cells #[.int .u8 0, .int .u8 0, .int .u8 0, .int .u8 0, .int .u8 0, .int .u8 0, .int .u8 0, .int .u8 0] 78))) := hidI (HB.out.alloc HB.out.size _)
        have HO0 : Hid ((wr.alloc (.cells #[.int .u8 0, .int .u8 0, .int .u8 0, .int .u8 0, .int .u8 0, .int .u8 0, .int .u8 0, .int .u8 0] 78)).ownsRow w.heap.size 48 3 v5 j (flatM acc)) := hidI (World.ownsRow.alloc HO.out _)
        have HNE : Hid (v5.ownBlock ≠ some wr.heap.size) := hidI fun e => by have := (HO.out.lt _ e).2; omega
        have hszw := HB.out.size
        go_wp2
        obtain ⟨wb, hwb⟩ : ∃ wb, wr.heap.size = wb := ⟨_, rfl⟩
        rw [hwb] at HZ0 HNE ⊢
        have hwbw : w.heap.size ≤ wb := by omega
        have Hwb := hidI hwb
        clear hwb c0 c1
        have hs0 : wb < (wr.alloc (.cells #[.int .u8 0, .int .u8 0, .int .u8 0, .int .u8 0, .int .u8 0, .int .u8 0, .int .u8 0, .int .u8 0] 78)).heap.size := by simp [Hwb.out]
        generalize wr.alloc (.cells #[.int .u8 0, .int .u8 0, .int .u8 0, .int .u8 0, .int .u8 0, .int .u8 0, .int .u8 0, .int .u8 0] 78) = wq at *
        clear HB HO
        go_loopg [8] 8 (fun g2 s8 wz => ∃ (mm : Nat), mm + g2 = 8 ∧ s8 = .int .i64 (mm : Int) ∧ Hid (wq.grownBy wz (some wb)) ∧ Hid (∀ j, j < 8 → ∃ x, wz.cell? ⟨wb, j, none⟩ = some (.int .u8 x) ∧ (j < mm → x = [b0, b1, b2, b3, b4, b5, b6, b7].getD j 0) ∧ wz.frozen? ⟨wb, j, none⟩ = false))
        case atStart =>
          refine ⟨0, by omega, rfl, hidI (World.grownBy.refl _ _), hidI fun j hj => ?_⟩
          obtain ⟨x, h1, h2⟩ := HZ0.out j hj
          exact ⟨x, h1, fun h => absurd h (by omega), h2⟩
        case round =>
          obtain ⟨mm, hmg, rfl, HG, HCz⟩ := hrel
          have HBz : Hid (Below w.heap.size w wr) := hidI (Below.grown HB0.out HG.out HB0.out.size (fun k hk => by cases hk; omega))
          cases gk with
          | zero =>
            have hm8 : mm = 8 := by omega
            subst hm8
            have cc : ∀ (j : Nat) (x : Int), j < 8 → [b0, b1, b2, b3, b4, b5, b6, b7].getD j 0 = x → wr.cell? ⟨wb, j, none⟩ = some (.int .u8 x) := fun j x hj hx => by
              obtain ⟨y, hy, hyx, _⟩ := HCz.out j hj
              rw [hy, hyx hj, hx]
            have HOz : Hid (wr.ownsRow w.heap.size 48 3 v5 j (flatM acc)) := hidI (HO0.out.kept HG.out (.inr HNE.out))
            have hbd := HBz.out.trans (Below.mono (Below.refl _ wr).drew HBz.out.size)
            have HOd : Hid (wr.drew.ownsRow w.heap.size 48 3 v5 j (flatM acc)) := hidI (own_below HOz.out (Below.refl _ _).drew (Nat.le_refl _))
            have HSd : Hid (wr.drew.cell? ⟨b, off + i, none⟩ = some (.int .u8 t) ∧ wr.drew.cell? ⟨b, off + (i + 1), none⟩ = some (.int .u8 q) ∧ wr.drew.cell? ⟨wb, 0, none⟩ = some (.int .u8 b0) ∧ wr.drew.cell? ⟨wb, 1, none⟩ = some (.int .u8 b1) ∧ wr.drew.cell? ⟨wb, 2, none⟩ = some (.int .u8 b2) ∧ wr.drew.cell? ⟨wb, 3, none⟩ = some (.int .u8 b3) ∧ wr.drew.cell? ⟨wb, 4, none⟩ = some (.int .u8 b4) ∧ wr.drew.cell? ⟨wb, 5, none⟩ = some (.int .u8 b5) ∧ wr.drew.cell? ⟨wb, 6, none⟩ = some (.int .u8 b6) ∧ wr.drew.cell? ⟨wb, 7, none⟩ = some (.int .u8 b7)) := hidI ⟨HC.out _ hbd i t ht, HC.out _ hbd (i + 1) q hq, cc 0 b0 (by omega) rfl, cc 1 b1 (by omega) rfl, cc 2 b2 (by omega) rfl, cc 3 b3 (by omega) rfl, cc 4 b4 (by omega) rfl, cc 5 b5 (by omega) rfl, cc 6 b6 (by omega) rfl, cc 7 b7 (by omega) rfl⟩
            have HBd := hidI hbd
            clear cc hbd
            go_wp2
            refine regD (n := j) (B := w.heap.size) (wb := wb) (J := J) (cs := flatM acc) HSd.out (by omega) (by omega) hbw HBd.out.size HOd.out HNE.out (by omega) htb hqb CJ.out (fun _ _ _ _ _ h => h) ?_
            intro W v9 t58 t59 t60 t61 t62 t63 t64 t65 t66 t67 t68 t69 t70 t71 t72 t73 t74 hown hbl
            rw [← HFA.out] at hown
            have HO9 := hidI hown
            have HB9 : Hid (Below w.heap.size w W) := hidI (HBd.out.trans hbl)
            clear hown hbl
            go_wp2
            go_roundg g
            case measure => omega
            case rel => exact ⟨j + 1, i + 10, acc ++ [⟨t, q, J⟩], v9, by omega, hidI (by have := HI.out; omega), rfl, by go_num, hidI (by have := HA.out; simp; omega), HB9, HO9, HRn⟩
          | succ g2 =>
            have hmm : mm < 8 := by omega
            have c1 := HC.out wr HBz.out (i + 2 + mm) _ (HEl.out mm hmm)
            obtain ⟨xv, hxv⟩ : ∃ xv, [b0, b1, b2, b3, b4, b5, b6, b7].getD mm 0 = xv := ⟨_, rfl⟩
            rw [hxv] at c1
            have HXv := hidI hxv
            obtain ⟨x0, hx0, _, hfz⟩ := HCz.out mm hmm
            have y2 : ((i : Int) + 2 + (mm : Int)).toNat = i + 2 + mm := by omega
            have y3 : (0 : Int) ≤ (i : Int) + 2 + (mm : Int) := by omega
            have y4 : (i : Int) + 2 + (mm : Int) < (n : Int) := by omega
            have y5 : (mm : Int) < 8 := by omega
            have y6 : ((mm : Int)).toNat = mm := by omega
            have y7 : (0 : Int) ≤ (mm : Int) := by omega
            clear hxv
            go_wp2
            go_roundg g2
            case measure => omega
            case rel =>
              refine ⟨mm + 1, by omega, by go_num, hidI (grown_trans HG.out (grown_cell wr wb mm _)), hidI fun j hj => ?_⟩
              obtain ⟨y, hy, hyx, hfy⟩ := HCz.out j hj
              by_cases ej : j = mm
              · subst ej
                exact ⟨xv, World.cell?_setCell_same _ _ _ hy, fun _ => HXv.out.symm, by rw [World.frozen?_setCell]; exact hfy⟩
              · exact ⟨y, (World.cell?_setCell_other _ _ _ _ (by intro hh; simp only [Addr.mk.injEq] at hh; omega)).trans hy, fun h => hyx (by omega), by rw [World.frozen?_setCell]; exact hfy⟩
      · have k2 : decide ((i : Int) + 1 < (n : Int)) = false := by rw [decide_eq_false_iff_not]; omega
        have k5 : (n : Int) - (i : Int) < 10 := by omega
        have HF : Hid (R = .error n) := hidI (by
          have e : bs.drop (i + 1) = [] := List.drop_eq_nil_of_le (by have := HN.out; omega)
          rw [HD.out, HDr.out, e, decM_short h12 (fun h => h.1 rfl) (by simp)]
          rfl)
        go_wp2
        go_ret3
        refine ⟨HB.out, ?_⟩
        rw [HF.out]
        rfl
end Go.Proofs.Ytdfieflcclbgjaa
