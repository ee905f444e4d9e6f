/-
  A column read from bytes, on behind Declare.
-/
import Derived.Test.YtbjoljokdjgbnabReadM
namespace Go.Proofs.Ytbjoljokdjgbnab
open Go.RowKit Go.Deep Go.MapKept
theorem TB.mb {b0 : Nat} {w : World} {tb mb : Nat} {os : List One} (h : TB b0 w tb mb os) : b0 ≤ mb := by
  obtain ⟨_, _, _, _, h, _⟩ := h
  exact h
theorem text_small {t : List Int} {z : Int} (hz : IsB z) : (textOf (t.take z.toNat)).size ≤ maxLen := by
  unfold IsB at hz
  show ((t.take z.toNat).map _).toArray.size ≤ maxLen
  simp [maxLen]
  omega
set_option maxRecDepth 100000 in
set_option maxHeartbeats 4000000 in
theorem read_few (w0 : World) (tb mb : Nat) (os : List One) (w : World) (a : Option Addr) (cap : Nat) (bs : List Int) (hby : ∀ x ∈ bs, IsB x) (h0 : Below w0.heap.size w0 w) (hS : SB w0 a cap bs) (hT : TB w0.heap.size w tb mb os) (d q z : Int) (t : List Int) (hh : Head w0 a bs d q z t) (hz : IsB z) (hd : Wf8 d) (hl : ¬ t.length < z.toNat) (s : ByteArray) (hs : s = textOf (t.take z.toNat)) (hD : rdeclE os s d q = 0) (rs : List Int) (hrs : rs = t.drop z.toNat) (hk : rs.length < len32 d * 8) :
    Calls Try.prog 63 #[.pointer (some ⟨tb, 0, none⟩), .slice a bs.length cap] w (ReadPost w0 tb mb os bs) := by
  have HR : Hid (readO os bs = none) := hidI (by rw [hh.1]; subst hs hrs; simp only [readO, if_neg hl, if_pos hD, if_pos hk])
  have hsm : s.size ≤ maxLen := by rw [hs]; exact text_small hz
  have HSm := hidI hsm
  have HWd := hidI hd
  obtain ⟨o2, ho2⟩ : ∃ o2, insO os ⟨s, d, q, List.replicate (len32 d) 0⟩ = o2 := ⟨_, rfl⟩
  have CD : Hid (∀ W, Below w.heap.size w W → Calls Try.prog 43 #[.pointer (some ⟨tb, 0, none⟩), .agg #[.string s, .int .u8 d], .int .u8 q] W fun e w' => e = .returned (.int .i64 0) ∧ W.grownBy w' (some mb) ∧ TB w0.heap.size w' tb mb o2) := hidI fun W hW => by
    refine ((hT.below hW (Nat.le_refl _)).decl s d q hsm hd).mono ?_
    rintro e w' ⟨rfl, _, p2⟩
    rw [hD] at p2 ⊢
    rw [← ho2]
    exact ⟨rfl, p2 rfl⟩
  obtain ⟨rs', ra, rc, HRS, hcut2, hrsb⟩ := cut_l hS (3 + z.toNat) (3 + z) (by unfold IsB at hz; omega) (by rw [hh.1]; simp; omega)
  have hrr : rs' = rs := by rw [HRS.out, hrs, hh.1, Nat.add_comm]; rfl
  subst hrr
  have HRsb := hidI (hrsb _ hS)
  have HRby : Hid (∀ x ∈ rs', IsB x) := hidI fun x hx => hby x (List.mem_of_mem_drop (by rw [HRS.out] at hx; exact hx))
  have hL30 := len32_le d
  have hmb := hT.mb
  have hmbw := hT.low.2
  have hfn := (rdecl_ok hD).2.2.2.1
  have Hfn := hidI hfn
  have Ho2 := hidI ho2
  obtain ⟨L, hLd⟩ : ∃ L, len32 d = L := ⟨_, rfl⟩
  have HLd := hidI hLd
  rw [hLd] at hk hL30
  have CR : Hid (∀ W, Below w0.heap.size w0 W → Calls Try.prog 84 #[.int .i64 (L : Int), .slice ra rs'.length rc] W fun e w' => e = .returned (.tuple #[.slice none 0 0, .slice none 0 0, .bool false]) ∧ Below W.heap.size W w') := hidI fun W hW => by
    refine (readWords_any L (by omega) ra rc rs' HRby.out W (HRsb.out.below hW (Nat.le_refl _))).mono ?_
    rintro e w' ⟨hb, ⟨q1, rfl⟩ | ⟨q1, g, ds, ua, uc, q2, rfl, q3, q4⟩⟩
    · exact ⟨rfl, hb⟩
    · omega
  obtain ⟨e, b, off, rfl, hb, c0, c1, c2⟩ := hh
  have hn : bs.length = t.length + 3 := by rw [e]; simp
  have HE := hidI e
  have d0 : w.cell? ⟨b, off, none⟩ = some (.int .u8 d) := (h0.cell (p := ⟨b, off, none⟩) hb).trans c0
  have d1 : w.cell? ⟨b, off + 1, none⟩ = some (.int .u8 q) := (h0.cell (p := ⟨b, off + 1, none⟩) hb).trans c1
  have d2 : w.cell? ⟨b, off + 2, none⟩ = some (.int .u8 z) := (h0.cell (p := ⟨b, off + 2, none⟩) hb).trans c2
  have HB0 := hidI h0
  have hzn : (z.toNat : Int) = z := by unfold IsB at hz; omega
  obtain ⟨ps, pa, pc, HPS, hcut, hps⟩ := cut_lh hS 3 z.toNat 3 (3 + z) rfl (by omega) (by omega)
  have hps0 := hps _ hS
  have HX : Hid (textOf ps = s) := hidI (by rw [HPS.out, hs, e]; rfl)
  have HCV : Hid (∀ y, Below w.heap.size w y → (convert 66 9 (.slice pa ps.length pc)).run Try.prog y = .ok (.string s) y) := hidI fun y hy => by
    rw [← HX.out]
    exact text_cut (hps0.below (h0.trans (hy.mono h0.size)) (Nat.le_refl _))
  have HD0 : Hid (∀ y, Below w.heap.size w y → y.cell? ⟨b, off, none⟩ = some (.int .u8 d)) := hidI fun y hy => ((h0.trans (hy.mono h0.size)).cell (p := ⟨b, off, none⟩) hb).trans c0
  have HD1 : Hid (∀ y, Below w.heap.size w y → y.cell? ⟨b, off + 1, none⟩ = some (.int .u8 q)) := hidI fun y hy => ((h0.trans (hy.mono h0.size)).cell (p := ⟨b, off + 1, none⟩) hb).trans c1
  have hsz0 := h0.size
  have hbw : b < w.heap.size := by omega
  have hbne : b ≠ w.heap.size := by omega
  have HZ := hidI hz
  unfold IsB at hz
  have wz : IntKind.i64.wrap z = z := by rw [IntKind.wrap_i64]; omega
  have wz3 : wrap64 (3 + z) = 3 + z := by unfold wrap64; omega
  have j1 : ¬ ((bs.length : Int) < 3) := by omega
  have j2 : ¬ ((bs.length : Int) < 3 + z) := by omega
  have j3 : 2 < bs.length := by omega
  have j4 : (2 : Int) < (bs.length : Int) := by omega
  have j5 : 1 < bs.length := by omega
  have j6 : (1 : Int) < (bs.length : Int) := by omega
  have j7 : 0 < bs.length := by omega
  have j8 : (0 : Int) < (bs.length : Int) := by omega
  clear c0 c1 c2 h0 e hn hl hb hS hT hps hps0 hs hD hsm hd hz hzn hrsb hk hrs ho2 hLd hfn hby
  go_enter Try.func63, Try.ntmps63
  go_wp2
  go_region_held3 (fun y => Hid (Below w.heap.size w y) ∧ y.cell? ⟨b, off, none⟩ = some (.int .u8 d) ∧ y.cell? ⟨b, off + 1, none⟩ = some (.int .u8 q) ∧ (convert 66 9 (.slice pa ps.length pc)).run Try.prog y = .ok (.string s) y)
    (exact ⟨hidI (by (repeat (first | exact Below.refl _ _ | assumption | refine Below.drew ?_ | refine Below.alloc ?_ (by first | omega | (simp; done) | (simp; omega)) _ | refine Below.setCell ?_ (by first | omega | (simp; done) | (simp; omega)) _))), HD0.out _ (by (repeat (first | exact Below.refl _ _ | assumption | refine Below.drew ?_ | refine Below.alloc ?_ (by first | omega | (simp; done) | (simp; omega)) _ | refine Below.setCell ?_ (by first | omega | (simp; done) | (simp; omega)) _))), HD1.out _ (by (repeat (first | exact Below.refl _ _ | assumption | refine Below.drew ?_ | refine Below.alloc ?_ (by first | omega | (simp; done) | (simp; omega)) _ | refine Below.setCell ?_ (by first | omega | (simp; done) | (simp; omega)) _))), HCV.out _ (by (repeat (first | exact Below.refl _ _ | assumption | refine Below.drew ?_ | refine Below.alloc ?_ (by first | omega | (simp; done) | (simp; omega)) _ | refine Below.setCell ?_ (by first | omega | (simp; done) | (simp; omega)) _)))⟩)
    (fail)
  all_goals
    go_wp2_with (go_at_call 43; refine Calls.mono (CD.out _ (by (repeat (first | exact Below.refl _ _ | assumption | refine Below.drew ?_ | refine Below.alloc ?_ (by first | omega | (simp; done) | (simp; omega)) _ | refine Below.setCell ?_ (by first | omega | (simp; done) | (simp; omega)) _)))) ?_; rintro e w1 ⟨rfl, hg1, hT1⟩; refine Hid.out ?_)
    refine hidI ?_
    have hkb : w.heap.size < w1.heap.size := Nat.lt_of_lt_of_le (by simp) hg1.size
    have HB1 : Hid (Below w0.heap.size w0 w1) := hidI (Below.grown (HB0.out.trans (Below.mono (B := w.heap.size) (by (repeat (first | exact Below.refl _ _ | assumption | refine Below.drew ?_ | refine Below.alloc ?_ (by first | omega | (simp; done) | (simp; omega)) _ | refine Below.setCell ?_ (by first | omega | (simp; done) | (simp; omega)) _))) hsz0)) hg1 (by simp; omega) (fun k hk => by cases hk; exact hmb))
    have k0 : w1.cell? ⟨w.heap.size, 0, none⟩ = some (.string s) := kept_cell hg1 (by go_simp) (by simp; omega)
    have k1 : w1.cell? ⟨w.heap.size, 1, none⟩ = some (.int .u8 d) := kept_cell hg1 (by go_simp) (by simp; omega)
    have HT1 := hidI hT1
    have HK0 := hidI k0
    have HK1 := hidI k1
    clear hg1 hT1 CD d0 d1 d2 hcut wz wz3
    have CL : Hid (∀ W, Below w1.heap.size w1 W → Calls Try.prog 27 #[.pointer (some ⟨tb, 0, none⟩), .int .u8 d] W fun e w' => e = .returned (.int .i64 (L : Int)) ∧ Below W.heap.size W w') := hidI fun W hW => by
      refine ((HT1.out.below hW (Nat.le_refl _)).len d).mono ?_
      rintro e w' ⟨rfl, rfl⟩
      rw [HLd.out]
      exact ⟨rfl, Below.refl _ _⟩
    go_wp2
    go_region_held3 (fun y => Hid (Below w1.heap.size w1 y) ∧ y.cell? ⟨w.heap.size, 1, none⟩ = some (.int .u8 d))
      (first | assumption | exact ⟨hidI (by (repeat (first | exact Below.refl _ _ | assumption | refine Below.drew ?_ | refine Below.alloc ?_ (by first | omega | (simp; done) | (simp; omega)) _ | refine Below.setCell ?_ (by first | omega | (simp; done) | (simp; omega)) _))), by go_keep⟩)
      ((first
        | (go_at_call 27; refine Calls.mono (CL.out _ (by (repeat (first | exact Below.refl _ _ | assumption | refine Below.drew ?_ | refine Below.alloc ?_ (by first | omega | (simp; done) | (simp; omega)) _ | refine Below.setCell ?_ (by first | omega | (simp; done) | (simp; omega)) _)))) ?_; rintro e y1 ⟨rfl, hy1⟩; have hy2 : Below w1.heap.size w1 y1 := ⟨hy1.os, hy1.tape, hy1.output, hy1.size, hy1.block⟩; have hS1 : Hid (Below w1.heap.size w1 y1) ∧ y1.cell? ⟨w.heap.size, 1, none⟩ = some (.int .u8 d) := ⟨hidI hy2, (hy2.cell (p := ⟨w.heap.size, 1, none⟩) hkb).trans HK1.out⟩; clear hy1)
        | (go_at_call 84; refine Calls.mono (CR.out _ (HB1.out.trans (Below.mono (B := w1.heap.size) (by (repeat (first | exact Below.refl _ _ | assumption | refine Below.drew ?_ | refine Below.alloc ?_ (by first | omega | (simp; done) | (simp; omega)) _ | refine Below.setCell ?_ (by first | omega | (simp; done) | (simp; omega)) _))) HB1.out.size))) ?_; rintro e y3 ⟨rfl, hy3⟩; have hy4 : Below w1.heap.size w1 y3 := Below.trans (by (repeat (first | exact Below.refl _ _ | assumption | refine Below.drew ?_ | refine Below.alloc ?_ (by first | omega | (simp; done) | (simp; omega)) _ | refine Below.setCell ?_ (by first | omega | (simp; done) | (simp; omega)) _))) (Below.mono (B := y1.heap.size) ⟨hy3.os, hy3.tape, hy3.output, hy3.size, hy3.block⟩ hy2.size); have hS2 : Hid (Below w1.heap.size w1 y3) ∧ y3.cell? ⟨w.heap.size, 1, none⟩ = some (.int .u8 d) := ⟨hidI hy4, (hy4.cell (p := ⟨w.heap.size, 1, none⟩) hkb).trans HK1.out⟩; clear hy3)))
    all_goals
      have HB4 := hidI (HB1.out.trans (hy4.mono HB1.out.size))
      clear hy4 hy2
      go_wp2
      go_ret2
      exact ⟨by have := HB4.out; (repeat (first | exact Below.refl _ _ | assumption | refine Below.drew ?_ | refine Below.alloc ?_ (by first | omega | (simp; done) | (simp; omega)) _ | refine Below.setCell ?_ (by first | omega | (simp; done) | (simp; omega)) _)), .inl ⟨HR.out, rfl⟩⟩
set_option maxRecDepth 100000 in
set_option maxHeartbeats 4000000 in
theorem read_fits (w0 : World) (tb mb : Nat) (os : List One) (w : World) (a : Option Addr) (cap : Nat) (bs : List Int) (hby : ∀ x ∈ bs, IsB x) (h0 : Below w0.heap.size w0 w) (hS : SB w0 a cap bs) (hT : TB w0.heap.size w tb mb os) (d q z : Int) (t : List Int) (hh : Head w0 a bs d q z t) (hz : IsB z) (hd : Wf8 d) (hl : ¬ t.length < z.toNat) (s : ByteArray) (hs : s = textOf (t.take z.toNat)) (hD : rdeclE os s d q = 0) (rs : List Int) (hrs : rs = t.drop z.toNat) (hk : len32 d * 8 ≤ rs.length) (hall : (wordsL (len32 d) rs).all (rfit q) = true) :
    Calls Try.prog 63 #[.pointer (some ⟨tb, 0, none⟩), .slice a bs.length cap] w (ReadPost w0 tb mb os bs) := by
  have HR : Hid (readO os bs = some (⟨s, d, q, wordsL (len32 d) rs⟩, rs.drop (len32 d * 8))) := hidI (by rw [hh.1]; subst hs hrs; simp only [readO, if_neg hl, if_pos hD, if_neg (Nat.not_lt.2 hk), hall]; rfl)
  have hsm : s.size ≤ maxLen := by rw [hs]; exact text_small hz
  have HSm := hidI hsm
  have HWd := hidI hd
  obtain ⟨o2, ho2⟩ : ∃ o2, insO os ⟨s, d, q, List.replicate (len32 d) 0⟩ = o2 := ⟨_, rfl⟩
  have CD : Hid (∀ W, Below w.heap.size w W → Calls Try.prog 43 #[.pointer (some ⟨tb, 0, none⟩), .agg #[.string s, .int .u8 d], .int .u8 q] W fun e w' => e = .returned (.int .i64 0) ∧ W.grownBy w' (some mb) ∧ TB w0.heap.size w' tb mb o2) := hidI fun W hW => by
    refine ((hT.below hW (Nat.le_refl _)).decl s d q hsm hd).mono ?_
    rintro e w' ⟨rfl, _, p2⟩
    rw [hD] at p2 ⊢
    rw [← ho2]
    exact ⟨rfl, p2 rfl⟩
  obtain ⟨rs', ra, rc, HRS, hcut2, hrsb⟩ := cut_l hS (3 + z.toNat) (3 + z) (by unfold IsB at hz; omega) (by rw [hh.1]; simp; omega)
  have hrr : rs' = rs := by rw [HRS.out, hrs, hh.1, Nat.add_comm]; rfl
  subst hrr
  have HRsb := hidI (hrsb _ hS)
  have HRby : Hid (∀ x ∈ rs', IsB x) := hidI fun x hx => hby x (List.mem_of_mem_drop (by rw [HRS.out] at hx; exact hx))
  have hL30 := len32_le d
  have hmb := hT.mb
  have hmbw := hT.low.2
  have hfn := (rdecl_ok hD).2.2.2.1
  have Hfn := hidI hfn
  have Ho2 := hidI ho2
  have Hall := hidI hall
  obtain ⟨L, hLd⟩ : ∃ L, len32 d = L := ⟨_, rfl⟩
  have HLd := hidI hLd
  rw [hLd] at hk hL30 hall Hall
  rw [hLd] at HR
  have CR : Hid (∀ W, Below w0.heap.size w0 W → Calls Try.prog 84 #[.int .i64 (L : Int), .slice ra rs'.length rc] W fun e w' => ∃ (g : Nat) (ds : List Int) (ua : Option Addr) (uc : Nat), Hid (ds = rs'.drop (L * 8)) ∧ e = .returned (.tuple #[.slice (some ⟨g, 0, none⟩) L L, .slice ua ds.length uc, .bool true]) ∧ Sees w' (.slice (some ⟨g, 0, none⟩) L L) (wordsL L rs') ∧ SB w0 ua uc ds ∧ Below W.heap.size W w') := hidI fun W hW => by
    refine (readWords_any L (by omega) ra rc rs' HRby.out W (HRsb.out.below hW (Nat.le_refl _))).mono ?_
    rintro e w' ⟨hb, ⟨q1, rfl⟩ | ⟨q1, g, ds, ua, uc, q2, rfl, q3, q4⟩⟩
    · omega
    · exact ⟨g, ds, ua, uc, q2, rfl, q3, q4 _ HRsb.out, hb⟩
  obtain ⟨e, b, off, rfl, hb, c0, c1, c2⟩ := hh
  have hn : bs.length = t.length + 3 := by rw [e]; simp
  have HE := hidI e
  have d0 : w.cell? ⟨b, off, none⟩ = some (.int .u8 d) := (h0.cell (p := ⟨b, off, none⟩) hb).trans c0
  have d1 : w.cell? ⟨b, off + 1, none⟩ = some (.int .u8 q) := (h0.cell (p := ⟨b, off + 1, none⟩) hb).trans c1
  have d2 : w.cell? ⟨b, off + 2, none⟩ = some (.int .u8 z) := (h0.cell (p := ⟨b, off + 2, none⟩) hb).trans c2
  have HB0 := hidI h0
  have hzn : (z.toNat : Int) = z := by unfold IsB at hz; omega
  obtain ⟨ps, pa, pc, HPS, hcut, hps⟩ := cut_lh hS 3 z.toNat 3 (3 + z) rfl (by omega) (by omega)
  have hps0 := hps _ hS
  have HX : Hid (textOf ps = s) := hidI (by rw [HPS.out, hs, e]; rfl)
  have HCV : Hid (∀ y, Below w.heap.size w y → (convert 66 9 (.slice pa ps.length pc)).run Try.prog y = .ok (.string s) y) := hidI fun y hy => by
    rw [← HX.out]
    exact text_cut (hps0.below (h0.trans (hy.mono h0.size)) (Nat.le_refl _))
  have HD0 : Hid (∀ y, Below w.heap.size w y → y.cell? ⟨b, off, none⟩ = some (.int .u8 d)) := hidI fun y hy => ((h0.trans (hy.mono h0.size)).cell (p := ⟨b, off, none⟩) hb).trans c0
  have HD1 : Hid (∀ y, Below w.heap.size w y → y.cell? ⟨b, off + 1, none⟩ = some (.int .u8 q)) := hidI fun y hy => ((h0.trans (hy.mono h0.size)).cell (p := ⟨b, off + 1, none⟩) hb).trans c1
  have hsz0 := h0.size
  have hbw : b < w.heap.size := by omega
  have hbne : b ≠ w.heap.size := by omega
  have HZ := hidI hz
  unfold IsB at hz
  have wz : IntKind.i64.wrap z = z := by rw [IntKind.wrap_i64]; omega
  have wz3 : wrap64 (3 + z) = 3 + z := by unfold wrap64; omega
  have j1 : ¬ ((bs.length : Int) < 3) := by omega
  have j2 : ¬ ((bs.length : Int) < 3 + z) := by omega
  have j3 : 2 < bs.length := by omega
  have j4 : (2 : Int) < (bs.length : Int) := by omega
  have j5 : 1 < bs.length := by omega
  have j6 : (1 : Int) < (bs.length : Int) := by omega
  have j7 : 0 < bs.length := by omega
  have j8 : (0 : Int) < (bs.length : Int) := by omega
  clear c0 c1 c2 h0 e hn hl hb hS hT hps hps0 hs hD hsm hd hz hzn hrsb hk hrs ho2 hLd hfn hby hall
  go_enter Try.func63, Try.ntmps63
  go_wp2
  go_region_held3 (fun y => Hid (Below w.heap.size w y) ∧ y.cell? ⟨b, off, none⟩ = some (.int .u8 d) ∧ y.cell? ⟨b, off + 1, none⟩ = some (.int .u8 q) ∧ (convert 66 9 (.slice pa ps.length pc)).run Try.prog y = .ok (.string s) y)
    (exact ⟨hidI (by (repeat (first | exact Below.refl _ _ | assumption | refine Below.drew ?_ | refine Below.alloc ?_ (by first | omega | (simp; done) | (simp; omega)) _ | refine Below.setCell ?_ (by first | omega | (simp; done) | (simp; omega)) _))), HD0.out _ (by (repeat (first | exact Below.refl _ _ | assumption | refine Below.drew ?_ | refine Below.alloc ?_ (by first | omega | (simp; done) | (simp; omega)) _ | refine Below.setCell ?_ (by first | omega | (simp; done) | (simp; omega)) _))), HD1.out _ (by (repeat (first | exact Below.refl _ _ | assumption | refine Below.drew ?_ | refine Below.alloc ?_ (by first | omega | (simp; done) | (simp; omega)) _ | refine Below.setCell ?_ (by first | omega | (simp; done) | (simp; omega)) _))), HCV.out _ (by (repeat (first | exact Below.refl _ _ | assumption | refine Below.drew ?_ | refine Below.alloc ?_ (by first | omega | (simp; done) | (simp; omega)) _ | refine Below.setCell ?_ (by first | omega | (simp; done) | (simp; omega)) _)))⟩)
    (fail)
  all_goals
    go_wp2_with (go_at_call 43; refine Calls.mono (CD.out _ (by (repeat (first | exact Below.refl _ _ | assumption | refine Below.drew ?_ | refine Below.alloc ?_ (by first | omega | (simp; done) | (simp; omega)) _ | refine Below.setCell ?_ (by first | omega | (simp; done) | (simp; omega)) _)))) ?_; rintro e w1 ⟨rfl, hg1, hT1⟩; refine Hid.out ?_)
    refine hidI ?_
    have hkb : w.heap.size < w1.heap.size := Nat.lt_of_lt_of_le (by simp) hg1.size
    have HB1 : Hid (Below w0.heap.size w0 w1) := hidI (Below.grown (HB0.out.trans (Below.mono (B := w.heap.size) (by (repeat (first | exact Below.refl _ _ | assumption | refine Below.drew ?_ | refine Below.alloc ?_ (by first | omega | (simp; done) | (simp; omega)) _ | refine Below.setCell ?_ (by first | omega | (simp; done) | (simp; omega)) _))) hsz0)) hg1 (by simp; omega) (fun k hk => by cases hk; exact hmb))
    have k0 : w1.cell? ⟨w.heap.size, 0, none⟩ = some (.string s) := kept_cell hg1 (by go_simp) (by simp; omega)
    have k1 : w1.cell? ⟨w.heap.size, 1, none⟩ = some (.int .u8 d) := kept_cell hg1 (by go_simp) (by simp; omega)
    have HT1 := hidI hT1
    have HK0 := hidI k0
    have HK1 := hidI k1
    clear hg1 hT1 CD d0 d1 d2 hcut wz wz3
    have CL : Hid (∀ W, Below w1.heap.size w1 W → Calls Try.prog 27 #[.pointer (some ⟨tb, 0, none⟩), .int .u8 d] W fun e w' => e = .returned (.int .i64 (L : Int)) ∧ Below W.heap.size W w') := hidI fun W hW => by
      refine ((HT1.out.below hW (Nat.le_refl _)).len d).mono ?_
      rintro e w' ⟨rfl, rfl⟩
      rw [HLd.out]
      exact ⟨rfl, Below.refl _ _⟩
    go_wp2
    go_region_held3 (fun y => Hid (Below w1.heap.size w1 y) ∧ y.cell? ⟨w.heap.size, 1, none⟩ = some (.int .u8 d))
      (first | assumption | exact ⟨hidI (by (repeat (first | exact Below.refl _ _ | assumption | refine Below.drew ?_ | refine Below.alloc ?_ (by first | omega | (simp; done) | (simp; omega)) _ | refine Below.setCell ?_ (by first | omega | (simp; done) | (simp; omega)) _))), by go_keep⟩)
      ((first
        | (go_at_call 27; refine Calls.mono (CL.out _ (by (repeat (first | exact Below.refl _ _ | assumption | refine Below.drew ?_ | refine Below.alloc ?_ (by first | omega | (simp; done) | (simp; omega)) _ | refine Below.setCell ?_ (by first | omega | (simp; done) | (simp; omega)) _)))) ?_; rintro e y1 ⟨rfl, hy1⟩; have hy2 : Below w1.heap.size w1 y1 := ⟨hy1.os, hy1.tape, hy1.output, hy1.size, hy1.block⟩; have hS1 : Hid (Below w1.heap.size w1 y1) ∧ y1.cell? ⟨w.heap.size, 1, none⟩ = some (.int .u8 d) := ⟨hidI hy2, (hy2.cell (p := ⟨w.heap.size, 1, none⟩) hkb).trans HK1.out⟩; clear hy1)
        | (go_at_call 84; refine Calls.mono (CR.out _ (HB1.out.trans (Below.mono (B := w1.heap.size) (by (repeat (first | exact Below.refl _ _ | assumption | refine Below.drew ?_ | refine Below.alloc ?_ (by first | omega | (simp; done) | (simp; omega)) _ | refine Below.setCell ?_ (by first | omega | (simp; done) | (simp; omega)) _))) HB1.out.size))) ?_; rintro e y3 ⟨g, ds, ua, uc, HDS, rfl, hsee, hsb, hy3⟩; have hy4 : Below w1.heap.size w1 y3 := Below.trans (by (repeat (first | exact Below.refl _ _ | assumption | refine Below.drew ?_ | refine Below.alloc ?_ (by first | omega | (simp; done) | (simp; omega)) _ | refine Below.setCell ?_ (by first | omega | (simp; done) | (simp; omega)) _))) (Below.mono (B := y1.heap.size) ⟨hy3.os, hy3.tape, hy3.output, hy3.size, hy3.block⟩ hy2.size); have hS2 : Hid (Below w1.heap.size w1 y3) ∧ y3.cell? ⟨w.heap.size, 1, none⟩ = some (.int .u8 d) := ⟨hidI hy4, (hy4.cell (p := ⟨w.heap.size, 1, none⟩) hkb).trans HK1.out⟩; have HSee := hidI hsee; have HSb := hidI hsb; clear hy3 hsee hsb)))
    all_goals
      have HB4 := hidI (HB1.out.trans (hy4.mono HB1.out.size))
      have m0 : y3.cell? ⟨w.heap.size, 0, none⟩ = some (.string s) := (hy4.cell (p := ⟨w.heap.size, 0, none⟩) hkb).trans HK0.out
      have m1 : y3.cell? ⟨w.heap.size, 1, none⟩ = some (.int .u8 d) := (hy4.cell (p := ⟨w.heap.size, 1, none⟩) hkb).trans HK1.out
      have hTx := HT1.out.below hy4 (Nat.le_refl _)
      have CLd : Hid (∀ W, Below y3.heap.size y3 W → Calls Try.prog 74 #[.pointer (some ⟨tb, 0, none⟩), .agg #[.string s, .int .u8 d], .slice (some ⟨g, 0, none⟩) L L] W fun e w' => e = .returned (.int .i64 0) ∧ Below w0.heap.size W w' ∧ TB w0.heap.size w' tb mb (insO os ⟨s, d, q, wordsL L rs'⟩)) := hidI fun W hW => by
        refine ((hTx.below hW (Nat.le_refl _)).load s d HSm.out HWd.out (zs := wordsL L rs') (by rw [wordsL_len]; omega) (HSee.out.below hW (Nat.le_refl _))).mono ?_
        rintro e w' ⟨rfl, p1, p2⟩
        have hz : rloadE o2 s d (wordsL L rs') = 0 := by
          rw [← Ho2.out, ins_load Hfn.out (by rw [wordsL_len, HLd.out]), Hall.out]
          rfl
        rw [hz] at p2 ⊢
        refine ⟨rfl, p1, ?_⟩
        have h2 := p2 rfl
        rw [← Ho2.out, ins_up Hfn.out] at h2
        exact h2
      clear hy4 hy2 hTx hS2 hS1
      go_wp2_with (go_at_call 74; refine Calls.mono (CLd.out _ (by (repeat (first | exact Below.refl _ _ | assumption | refine Below.drew ?_ | refine Below.alloc ?_ (by first | omega | (simp; done) | (simp; omega)) _ | refine Below.setCell ?_ (by first | omega | (simp; done) | (simp; omega)) _)))) ?_; rintro e w5 ⟨rfl, hb5, hT5⟩; refine Hid.out ?_)
      refine hidI ?_
      have HB5 : Hid (Below w0.heap.size w0 w5) := hidI (Below.trans (B := w0.heap.size) (by have := HB4.out; (repeat (first | exact Below.refl _ _ | assumption | refine Below.drew ?_ | refine Below.alloc ?_ (by first | omega | (simp; done) | (simp; omega)) _ | refine Below.setCell ?_ (by first | omega | (simp; done) | (simp; omega)) _))) ⟨hb5.os, hb5.tape, hb5.output, hb5.size, hb5.block⟩)
      have HT5 := hidI hT5
      clear hb5 hT5 CLd m0 m1
      go_wp2
      go_ret2
      exact ⟨HB5.out, .inr ⟨_, ds, ua, uc, by rw [HDS.out]; exact HR.out, rfl, HSb.out, HT5.out⟩⟩
set_option maxRecDepth 100000 in
set_option maxHeartbeats 4000000 in
theorem read_bad (w0 : World) (tb mb : Nat) (os : List One) (w : World) (a : Option Addr) (cap : Nat) (bs : List Int) (hby : ∀ x ∈ bs, IsB x) (h0 : Below w0.heap.size w0 w) (hS : SB w0 a cap bs) (hT : TB w0.heap.size w tb mb os) (d q z : Int) (t : List Int) (hh : Head w0 a bs d q z t) (hz : IsB z) (hd : Wf8 d) (hl : ¬ t.length < z.toNat) (s : ByteArray) (hs : s = textOf (t.take z.toNat)) (hD : rdeclE os s d q = 0) (rs : List Int) (hrs : rs = t.drop z.toNat) (hk : len32 d * 8 ≤ rs.length) (hall : (wordsL (len32 d) rs).all (rfit q) = false) :
    Calls Try.prog 63 #[.pointer (some ⟨tb, 0, none⟩), .slice a bs.length cap] w (ReadPost w0 tb mb os bs) := by
  have HR : Hid (readO os bs = none) := hidI (by rw [hh.1]; subst hs hrs; simp only [readO, if_neg hl, if_pos hD, if_neg (Nat.not_lt.2 hk), hall]; rfl)
  have hsm : s.size ≤ maxLen := by rw [hs]; exact text_small hz
  have HSm := hidI hsm
  have HWd := hidI hd
  obtain ⟨o2, ho2⟩ : ∃ o2, insO os ⟨s, d, q, List.replicate (len32 d) 0⟩ = o2 := ⟨_, rfl⟩
  have CD : Hid (∀ W, Below w.heap.size w W → Calls Try.prog 43 #[.pointer (some ⟨tb, 0, none⟩), .agg #[.string s, .int .u8 d], .int .u8 q] W fun e w' => e = .returned (.int .i64 0) ∧ W.grownBy w' (some mb) ∧ TB w0.heap.size w' tb mb o2) := hidI fun W hW => by
    refine ((hT.below hW (Nat.le_refl _)).decl s d q hsm hd).mono ?_
    rintro e w' ⟨rfl, _, p2⟩
    rw [hD] at p2 ⊢
    rw [← ho2]
    exact ⟨rfl, p2 rfl⟩
  obtain ⟨rs', ra, rc, HRS, hcut2, hrsb⟩ := cut_l hS (3 + z.toNat) (3 + z) (by unfold IsB at hz; omega) (by rw [hh.1]; simp; omega)
  have hrr : rs' = rs := by rw [HRS.out, hrs, hh.1, Nat.add_comm]; rfl
  subst hrr
  have HRsb := hidI (hrsb _ hS)
  have HRby : Hid (∀ x ∈ rs', IsB x) := hidI fun x hx => hby x (List.mem_of_mem_drop (by rw [HRS.out] at hx; exact hx))
  have hL30 := len32_le d
  have hmb := hT.mb
  have hmbw := hT.low.2
  have hfn := (rdecl_ok hD).2.2.2.1
  have Hfn := hidI hfn
  have Ho2 := hidI ho2
  have Hall := hidI hall
  obtain ⟨L, hLd⟩ : ∃ L, len32 d = L := ⟨_, rfl⟩
  have HLd := hidI hLd
  rw [hLd] at hk hL30 hall Hall
  have CR : Hid (∀ W, Below w0.heap.size w0 W → Calls Try.prog 84 #[.int .i64 (L : Int), .slice ra rs'.length rc] W fun e w' => ∃ (g : Nat) (ds : List Int) (ua : Option Addr) (uc : Nat), Hid (ds = rs'.drop (L * 8)) ∧ e = .returned (.tuple #[.slice (some ⟨g, 0, none⟩) L L, .slice ua ds.length uc, .bool true]) ∧ Sees w' (.slice (some ⟨g, 0, none⟩) L L) (wordsL L rs') ∧ SB w0 ua uc ds ∧ Below W.heap.size W w') := hidI fun W hW => by
    refine (readWords_any L (by omega) ra rc rs' HRby.out W (HRsb.out.below hW (Nat.le_refl _))).mono ?_
    rintro e w' ⟨hb, ⟨q1, rfl⟩ | ⟨q1, g, ds, ua, uc, q2, rfl, q3, q4⟩⟩
    · omega
    · exact ⟨g, ds, ua, uc, q2, rfl, q3, q4 _ HRsb.out, hb⟩
  obtain ⟨e, b, off, rfl, hb, c0, c1, c2⟩ := hh
  have hn : bs.length = t.length + 3 := by rw [e]; simp
  have HE := hidI e
  have d0 : w.cell? ⟨b, off, none⟩ = some (.int .u8 d) := (h0.cell (p := ⟨b, off, none⟩) hb).trans c0
  have d1 : w.cell? ⟨b, off + 1, none⟩ = some (.int .u8 q) := (h0.cell (p := ⟨b, off + 1, none⟩) hb).trans c1
  have d2 : w.cell? ⟨b, off + 2, none⟩ = some (.int .u8 z) := (h0.cell (p := ⟨b, off + 2, none⟩) hb).trans c2
  have HB0 := hidI h0
  have hzn : (z.toNat : Int) = z := by unfold IsB at hz; omega
  obtain ⟨ps, pa, pc, HPS, hcut, hps⟩ := cut_lh hS 3 z.toNat 3 (3 + z) rfl (by omega) (by omega)
  have hps0 := hps _ hS
  have HX : Hid (textOf ps = s) := hidI (by rw [HPS.out, hs, e]; rfl)
  have HCV : Hid (∀ y, Below w.heap.size w y → (convert 66 9 (.slice pa ps.length pc)).run Try.prog y = .ok (.string s) y) := hidI fun y hy => by
    rw [← HX.out]
    exact text_cut (hps0.below (h0.trans (hy.mono h0.size)) (Nat.le_refl _))
  have HD0 : Hid (∀ y, Below w.heap.size w y → y.cell? ⟨b, off, none⟩ = some (.int .u8 d)) := hidI fun y hy => ((h0.trans (hy.mono h0.size)).cell (p := ⟨b, off, none⟩) hb).trans c0
  have HD1 : Hid (∀ y, Below w.heap.size w y → y.cell? ⟨b, off + 1, none⟩ = some (.int .u8 q)) := hidI fun y hy => ((h0.trans (hy.mono h0.size)).cell (p := ⟨b, off + 1, none⟩) hb).trans c1
  have hsz0 := h0.size
  have hbw : b < w.heap.size := by omega
  have hbne : b ≠ w.heap.size := by omega
  have HZ := hidI hz
  unfold IsB at hz
  have wz : IntKind.i64.wrap z = z := by rw [IntKind.wrap_i64]; omega
  have wz3 : wrap64 (3 + z) = 3 + z := by unfold wrap64; omega
  have j1 : ¬ ((bs.length : Int) < 3) := by omega
  have j2 : ¬ ((bs.length : Int) < 3 + z) := by omega
  have j3 : 2 < bs.length := by omega
  have j4 : (2 : Int) < (bs.length : Int) := by omega
  have j5 : 1 < bs.length := by omega
  have j6 : (1 : Int) < (bs.length : Int) := by omega
  have j7 : 0 < bs.length := by omega
  have j8 : (0 : Int) < (bs.length : Int) := by omega
  clear c0 c1 c2 h0 e hn hl hb hS hT hps hps0 hs hD hsm hd hz hzn hrsb hk hrs ho2 hLd hfn hby hall
  go_enter Try.func63, Try.ntmps63
  go_wp2
  go_region_held3 (fun y => Hid (Below w.heap.size w y) ∧ y.cell? ⟨b, off, none⟩ = some (.int .u8 d) ∧ y.cell? ⟨b, off + 1, none⟩ = some (.int .u8 q) ∧ (convert 66 9 (.slice pa ps.length pc)).run Try.prog y = .ok (.string s) y)
    (exact ⟨hidI (by (repeat (first | exact Below.refl _ _ | assumption | refine Below.drew ?_ | refine Below.alloc ?_ (by first | omega | (simp; done) | (simp; omega)) _ | refine Below.setCell ?_ (by first | omega | (simp; done) | (simp; omega)) _))), HD0.out _ (by (repeat (first | exact Below.refl _ _ | assumption | refine Below.drew ?_ | refine Below.alloc ?_ (by first | omega | (simp; done) | (simp; omega)) _ | refine Below.setCell ?_ (by first | omega | (simp; done) | (simp; omega)) _))), HD1.out _ (by (repeat (first | exact Below.refl _ _ | assumption | refine Below.drew ?_ | refine Below.alloc ?_ (by first | omega | (simp; done) | (simp; omega)) _ | refine Below.setCell ?_ (by first | omega | (simp; done) | (simp; omega)) _))), HCV.out _ (by (repeat (first | exact Below.refl _ _ | assumption | refine Below.drew ?_ | refine Below.alloc ?_ (by first | omega | (simp; done) | (simp; omega)) _ | refine Below.setCell ?_ (by first | omega | (simp; done) | (simp; omega)) _)))⟩)
    (fail)
  all_goals
    go_wp2_with (go_at_call 43; refine Calls.mono (CD.out _ (by (repeat (first | exact Below.refl _ _ | assumption | refine Below.drew ?_ | refine Below.alloc ?_ (by first | omega | (simp; done) | (simp; omega)) _ | refine Below.setCell ?_ (by first | omega | (simp; done) | (simp; omega)) _)))) ?_; rintro e w1 ⟨rfl, hg1, hT1⟩; refine Hid.out ?_)
    refine hidI ?_
    have hkb : w.heap.size < w1.heap.size := Nat.lt_of_lt_of_le (by simp) hg1.size
    have HB1 : Hid (Below w0.heap.size w0 w1) := hidI (Below.grown (HB0.out.trans (Below.mono (B := w.heap.size) (by (repeat (first | exact Below.refl _ _ | assumption | refine Below.drew ?_ | refine Below.alloc ?_ (by first | omega | (simp; done) | (simp; omega)) _ | refine Below.setCell ?_ (by first | omega | (simp; done) | (simp; omega)) _))) hsz0)) hg1 (by simp; omega) (fun k hk => by cases hk; exact hmb))
    have k0 : w1.cell? ⟨w.heap.size, 0, none⟩ = some (.string s) := kept_cell hg1 (by go_simp) (by simp; omega)
    have k1 : w1.cell? ⟨w.heap.size, 1, none⟩ = some (.int .u8 d) := kept_cell hg1 (by go_simp) (by simp; omega)
    have HT1 := hidI hT1
    have HK0 := hidI k0
    have HK1 := hidI k1
    clear hg1 hT1 CD d0 d1 d2 hcut wz wz3
    have CL : Hid (∀ W, Below w1.heap.size w1 W → Calls Try.prog 27 #[.pointer (some ⟨tb, 0, none⟩), .int .u8 d] W fun e w' => e = .returned (.int .i64 (L : Int)) ∧ Below W.heap.size W w') := hidI fun W hW => by
      refine ((HT1.out.below hW (Nat.le_refl _)).len d).mono ?_
      rintro e w' ⟨rfl, rfl⟩
      rw [HLd.out]
      exact ⟨rfl, Below.refl _ _⟩
    go_wp2
    go_region_held3 (fun y => Hid (Below w1.heap.size w1 y) ∧ y.cell? ⟨w.heap.size, 1, none⟩ = some (.int .u8 d))
      (first | assumption | exact ⟨hidI (by (repeat (first | exact Below.refl _ _ | assumption | refine Below.drew ?_ | refine Below.alloc ?_ (by first | omega | (simp; done) | (simp; omega)) _ | refine Below.setCell ?_ (by first | omega | (simp; done) | (simp; omega)) _))), by go_keep⟩)
      ((first
        | (go_at_call 27; refine Calls.mono (CL.out _ (by (repeat (first | exact Below.refl _ _ | assumption | refine Below.drew ?_ | refine Below.alloc ?_ (by first | omega | (simp; done) | (simp; omega)) _ | refine Below.setCell ?_ (by first | omega | (simp; done) | (simp; omega)) _)))) ?_; rintro e y1 ⟨rfl, hy1⟩; have hy2 : Below w1.heap.size w1 y1 := ⟨hy1.os, hy1.tape, hy1.output, hy1.size, hy1.block⟩; have hS1 : Hid (Below w1.heap.size w1 y1) ∧ y1.cell? ⟨w.heap.size, 1, none⟩ = some (.int .u8 d) := ⟨hidI hy2, (hy2.cell (p := ⟨w.heap.size, 1, none⟩) hkb).trans HK1.out⟩; clear hy1)
        | (go_at_call 84; refine Calls.mono (CR.out _ (HB1.out.trans (Below.mono (B := w1.heap.size) (by (repeat (first | exact Below.refl _ _ | assumption | refine Below.drew ?_ | refine Below.alloc ?_ (by first | omega | (simp; done) | (simp; omega)) _ | refine Below.setCell ?_ (by first | omega | (simp; done) | (simp; omega)) _))) HB1.out.size))) ?_; rintro e y3 ⟨g, ds, ua, uc, HDS, rfl, hsee, hsb, hy3⟩; have hy4 : Below w1.heap.size w1 y3 := Below.trans (by (repeat (first | exact Below.refl _ _ | assumption | refine Below.drew ?_ | refine Below.alloc ?_ (by first | omega | (simp; done) | (simp; omega)) _ | refine Below.setCell ?_ (by first | omega | (simp; done) | (simp; omega)) _))) (Below.mono (B := y1.heap.size) ⟨hy3.os, hy3.tape, hy3.output, hy3.size, hy3.block⟩ hy2.size); have hS2 : Hid (Below w1.heap.size w1 y3) ∧ y3.cell? ⟨w.heap.size, 1, none⟩ = some (.int .u8 d) := ⟨hidI hy4, (hy4.cell (p := ⟨w.heap.size, 1, none⟩) hkb).trans HK1.out⟩; have HSee := hidI hsee; have HSb := hidI hsb; clear hy3 hsee hsb)))
    all_goals
      have HB4 := hidI (HB1.out.trans (hy4.mono HB1.out.size))
      have m0 : y3.cell? ⟨w.heap.size, 0, none⟩ = some (.string s) := (hy4.cell (p := ⟨w.heap.size, 0, none⟩) hkb).trans HK0.out
      have m1 : y3.cell? ⟨w.heap.size, 1, none⟩ = some (.int .u8 d) := (hy4.cell (p := ⟨w.heap.size, 1, none⟩) hkb).trans HK1.out
      have hTx := HT1.out.below hy4 (Nat.le_refl _)
      have CLd : Hid (∀ W, Below y3.heap.size y3 W → Calls Try.prog 74 #[.pointer (some ⟨tb, 0, none⟩), .agg #[.string s, .int .u8 d], .slice (some ⟨g, 0, none⟩) L L] W fun e w' => e = .returned (.int .i64 3) ∧ Below w0.heap.size W w' ∧ True) := hidI fun W hW => by
        refine ((hTx.below hW (Nat.le_refl _)).load s d HSm.out HWd.out (zs := wordsL L rs') (by rw [wordsL_len]; omega) (HSee.out.below hW (Nat.le_refl _))).mono ?_
        rintro e w' ⟨rfl, p1, p2⟩
        have hz : rloadE o2 s d (wordsL L rs') = 3 := by
          rw [← Ho2.out, ins_load Hfn.out (by rw [wordsL_len, HLd.out]), Hall.out]
          rfl
        rw [hz] at p2 ⊢
        refine ⟨rfl, p1, ?_⟩
        trivial
      clear hy4 hy2 hTx hS2 hS1
      go_wp2_with (go_at_call 74; refine Calls.mono (CLd.out _ (by (repeat (first | exact Below.refl _ _ | assumption | refine Below.drew ?_ | refine Below.alloc ?_ (by first | omega | (simp; done) | (simp; omega)) _ | refine Below.setCell ?_ (by first | omega | (simp; done) | (simp; omega)) _)))) ?_; rintro e w5 ⟨rfl, hb5, hT5⟩; refine Hid.out ?_)
      refine hidI ?_
      have HB5 : Hid (Below w0.heap.size w0 w5) := hidI (Below.trans (B := w0.heap.size) (by have := HB4.out; (repeat (first | exact Below.refl _ _ | assumption | refine Below.drew ?_ | refine Below.alloc ?_ (by first | omega | (simp; done) | (simp; omega)) _ | refine Below.setCell ?_ (by first | omega | (simp; done) | (simp; omega)) _))) ⟨hb5.os, hb5.tape, hb5.output, hb5.size, hb5.block⟩)
      have HT5 := hidI hT5
      clear hb5 hT5 CLd m0 m1
      go_wp2
      go_ret2
      exact ⟨HB5.out, .inl ⟨HR.out, rfl⟩⟩
/-- The program's read. -/
theorem read_any (w0 : World) (tb mb : Nat) (os : List One) (w : World) (a : Option Addr) (cap : Nat) (bs : List Int) (hby : ∀ x ∈ bs, IsB x) (h0 : Below w0.heap.size w0 w) (hS : SB w0 a cap bs) (hT : TB w0.heap.size w tb mb os) :
    Calls Try.prog 63 #[.pointer (some ⟨tb, 0, none⟩), .slice a bs.length cap] w (ReadPost w0 tb mb os bs) := by
  by_cases h3 : bs.length < 3
  · exact read_short w0 tb mb os w a cap bs h0 h3
  obtain ⟨d, q, z, t, e⟩ := three bs h3
  have hh := head_of hS e
  have hz : IsB z := hby z (by rw [e]; simp)
  have hdB : IsB d := hby d (by rw [e]; simp)
  have hd : Wf8 d := by
    unfold IsB at hdB
    show (decide (IntKind.u8.min ≤ d) && decide (d ≤ IntKind.u8.max)) = true
    rw [show IntKind.u8.min = 0 by decide +kernel, show IntKind.u8.max = 255 by decide +kernel]
    simp
    omega
  by_cases hl : t.length < z.toNat
  · exact read_cut w0 tb mb os w a cap bs h0 d q z t hh hz hl
  by_cases hD : rdeclE os (textOf (t.take z.toNat)) d q = 0
  · by_cases hk : (t.drop z.toNat).length < len32 d * 8
    · exact read_few w0 tb mb os w a cap bs hby h0 hS hT d q z t hh hz hd hl _ rfl hD _ rfl hk
    · cases hall : (wordsL (len32 d) (t.drop z.toNat)).all (rfit q) with
      | true => exact read_fits w0 tb mb os w a cap bs hby h0 hS hT d q z t hh hz hd hl _ rfl hD _ rfl (Nat.le_of_not_lt hk) hall
      | false => exact read_bad w0 tb mb os w a cap bs hby h0 hS hT d q z t hh hz hd hl _ rfl hD _ rfl (Nat.le_of_not_lt hk) hall
  · exact read_decl w0 tb mb os w a cap bs h0 hS hT d q z t hh hz hd hl _ rfl hD
end Go.Proofs.Ytbjoljokdjgbnab
