/-
  A column read from bytes: the program's read.
-/
import Derived.Test.YtbjoljokdjgbnabRdTM
namespace Go.Proofs.Ytbjoljokdjgbnab
open Go.RowKit Go.Deep Go.MapKept
theorem readO_short (os : List One) : ∀ bs : List Int, bs.length < 3 → readO os bs = none
  | [], _ => rfl
  | [_], _ => rfl
  | [_, _], _ => rfl
  | _ :: _ :: _ :: _, h => by simp at h; omega
theorem three : ∀ bs : List Int, ¬ bs.length < 3 → ∃ d q z t, bs = d :: q :: z :: t
  | [], h => absurd (by simp) h
  | [_], h => absurd (by simp) h
  | [_, _], h => absurd (by simp) h
  | d :: q :: z :: t, _ => ⟨d, q, z, t, rfl⟩
theorem TB.len {b0 : Nat} {w : World} {tb mb : Nat} {os : List One} (h : TB b0 w tb mb os) (d : Int) : Calls Try.prog 27 #[.pointer (some ⟨tb, 0, none⟩), .int .u8 d] w fun e w' => e = .returned (.int .i64 (len32 d : Int)) ∧ w = w' := by
  obtain ⟨cs, hW, _⟩ := h
  have hL : sideLen 3 2 d = (len32 d : Nat) := by unfold len32 sideLen; split <;> (try split) <;> (try split) <;> rfl
  rw [← hL]
  exact len_any tb 3 2 d w hW.1 hW.2.1
theorem len32_le (d : Int) : len32 d ≤ 30 := by unfold len32 sideLen; split <;> (try split) <;> (try split) <;> decide
set_option maxRecDepth 100000 in
set_option maxHeartbeats 2000000 in
theorem read_short (w0 : World) (tb mb : Nat) (os : List One) (w : World) (a : Option Addr) (cap : Nat) (bs : List Int) (h0 : Below w0.heap.size w0 w) (hl : bs.length < 3) :
    Calls Try.prog 63 #[.pointer (some ⟨tb, 0, none⟩), .slice a bs.length cap] w (ReadPost w0 tb mb os bs) := by
  have j1 : (bs.length : Int) < 3 := by omega
  have HR := hidI (readO_short os bs hl)
  have HB := hidI h0
  clear hl h0
  go_enter Try.func63, Try.ntmps63
  go_wp2
  go_ret2
  exact ⟨HB.out, .inl ⟨HR.out, rfl⟩⟩
/-- What stands ahead, of three bytes or more. -/
def Head (w0 : World) (a : Option Addr) (bs : List Int) (d q z : Int) (t : List Int) : Prop := bs = d :: q :: z :: t ∧ ∃ b off, a = some ⟨b, off, none⟩ ∧ b < w0.heap.size ∧ w0.cell? ⟨b, off, none⟩ = some (.int .u8 d) ∧ w0.cell? ⟨b, off + 1, none⟩ = some (.int .u8 q) ∧ w0.cell? ⟨b, off + 2, none⟩ = some (.int .u8 z)
theorem head_of {w0 : World} {a : Option Addr} {cap : Nat} {bs : List Int} {d q z : Int} {t : List Int} (h : SB w0 a cap bs) (e : bs = d :: q :: z :: t) : Head w0 a bs d q z t := by
  refine ⟨e, ?_⟩
  rcases h.2 with h0 | ⟨b, off, rfl, hc⟩
  · rw [e] at h0; simp at h0
  · have c0 := hc 0 d (by rw [e]; rfl)
    exact ⟨b, off, rfl, World.block_lt_of_cell? w0 _ c0, c0, hc 1 q (by rw [e]; rfl), hc 2 z (by rw [e]; rfl)⟩
set_option maxRecDepth 100000 in
set_option maxHeartbeats 2000000 in
theorem read_cut (w0 : World) (tb mb : Nat) (os : List One) (w : World) (a : Option Addr) (cap : Nat) (bs : List Int) (h0 : Below w0.heap.size w0 w) (d q z : Int) (t : List Int) (hh : Head w0 a bs d q z t) (hz : IsB z) (hl : t.length < z.toNat) :
    Calls Try.prog 63 #[.pointer (some ⟨tb, 0, none⟩), .slice a bs.length cap] w (ReadPost w0 tb mb os bs) := by
  obtain ⟨e, b, off, rfl, hb, c0, c1, c2⟩ := hh
  have hn : bs.length = t.length + 3 := by rw [e]; simp
  have HR : Hid (readO os bs = none) := hidI (by rw [e]; simp [readO, hl])
  have d2 : w.cell? ⟨b, off + 2, none⟩ = some (.int .u8 z) := (h0.cell (p := ⟨b, off + 2, none⟩) hb).trans c2
  have HB := hidI h0
  unfold IsB at hz
  have wz : IntKind.i64.wrap z = z := by rw [IntKind.wrap_i64]; omega
  have wz3 : wrap64 (3 + z) = 3 + z := by unfold wrap64; omega
  have j1 : ¬ ((bs.length : Int) < 3) := by omega
  have j2 : (bs.length : Int) < 3 + z := by omega
  have j3 : 2 < bs.length := by omega
  have j4 : (2 : Int) < (bs.length : Int) := by omega
  clear c0 c1 c2 h0 e hn hl hb
  go_enter Try.func63, Try.ntmps63
  go_wp2
  go_ret2
  exact ⟨HB.out, .inl ⟨HR.out, rfl⟩⟩
set_option maxRecDepth 100000 in
set_option maxHeartbeats 4000000 in
theorem read_decl (w0 : World) (tb mb : Nat) (os : List One) (w : World) (a : Option Addr) (cap : Nat) (bs : List Int) (h0 : Below w0.heap.size w0 w) (hS : SB w0 a cap bs) (hT : TB w0.heap.size w tb mb os) (d q z : Int) (t : List Int) (hh : Head w0 a bs d q z t) (hz : IsB z) (hd : Wf8 d) (hl : ¬ t.length < z.toNat) (s : ByteArray) (hs : s = textOf (t.take z.toNat)) (hD : rdeclE os s d q ≠ 0) :
    Calls Try.prog 63 #[.pointer (some ⟨tb, 0, none⟩), .slice a bs.length cap] w (ReadPost w0 tb mb os bs) := by
  have HR : Hid (readO os bs = none) := hidI (by rw [hh.1]; rw [hs] at hD; simp [readO, hl, hD])
  have hsm : s.size ≤ maxLen := by
    rw [hs]
    unfold IsB at hz
    show ((t.take z.toNat).map _).toArray.size ≤ maxLen
    simp [maxLen]
    omega
  have CD : Hid (∀ W, Below w.heap.size w W → Calls Try.prog 43 #[.pointer (some ⟨tb, 0, none⟩), .agg #[.string s, .int .u8 d], .int .u8 q] W fun e w' => ∃ D : Int, D ≠ 0 ∧ e = .returned (.int .i64 D) ∧ Below W.heap.size W w') := hidI fun W hW => by
    refine ((hT.below hW (Nat.le_refl _)).decl s d q hsm hd).mono ?_
    rintro e w' ⟨rfl, p1, _⟩
    exact ⟨_, hD, rfl, p1 hD⟩
  obtain ⟨e, b, off, rfl, hb, c0, c1, c2⟩ := hh
  have hn : bs.length = t.length + 3 := by rw [e]; simp
  have HE := hidI e
  have d0 : w.cell? ⟨b, off, none⟩ = some (.int .u8 d) := (h0.cell (p := ⟨b, off, none⟩) hb).trans c0
  have d1 : w.cell? ⟨b, off + 1, none⟩ = some (.int .u8 q) := (h0.cell (p := ⟨b, off + 1, none⟩) hb).trans c1
  have d2 : w.cell? ⟨b, off + 2, none⟩ = some (.int .u8 z) := (h0.cell (p := ⟨b, off + 2, none⟩) hb).trans c2
  have HB0 := hidI h0
  have hzn : (z.toNat : Int) = z := by unfold IsB at hz; omega
  obtain ⟨ps, pa, pc, HPS, hcut, hps⟩ := cut_lh hS 3 z.toNat 3 (3 + z) rfl (by omega) (by omega)
  have hps0 := hps _ hS
  have HX : Hid (textOf ps = s) := hidI (by rw [HPS.out, hs, e]; rfl)
  have HCV : Hid (∀ y, Below w.heap.size w y → (convert 66 9 (.slice pa ps.length pc)).run Try.prog y = .ok (.string s) y) := hidI fun y hy => by
    rw [← HX.out]
    exact text_cut (hps0.below (h0.trans (hy.mono h0.size)) (Nat.le_refl _))
  have HD0 : Hid (∀ y, Below w.heap.size w y → y.cell? ⟨b, off, none⟩ = some (.int .u8 d)) := hidI fun y hy => ((h0.trans (hy.mono h0.size)).cell (p := ⟨b, off, none⟩) hb).trans c0
  have HD1 : Hid (∀ y, Below w.heap.size w y → y.cell? ⟨b, off + 1, none⟩ = some (.int .u8 q)) := hidI fun y hy => ((h0.trans (hy.mono h0.size)).cell (p := ⟨b, off + 1, none⟩) hb).trans c1
  have hsz0 := h0.size
  have hbw : b < w.heap.size := by omega
  have hbne : b ≠ w.heap.size := by omega
  have HZ := hidI hz
  unfold IsB at hz
  have wz : IntKind.i64.wrap z = z := by rw [IntKind.wrap_i64]; omega
  have wz3 : wrap64 (3 + z) = 3 + z := by unfold wrap64; omega
  have j1 : ¬ ((bs.length : Int) < 3) := by omega
  have j2 : ¬ ((bs.length : Int) < 3 + z) := by omega
  have j3 : 2 < bs.length := by omega
  have j4 : (2 : Int) < (bs.length : Int) := by omega
  have j5 : 1 < bs.length := by omega
  have j6 : (1 : Int) < (bs.length : Int) := by omega
  have j7 : 0 < bs.length := by omega
  have j8 : (0 : Int) < (bs.length : Int) := by omega
  clear c0 c1 c2 h0 e hn hl hb hS hT hps hps0 hs hD hsm hd hz hzn
  go_enter Try.func63, Try.ntmps63
  go_wp2
  go_region_held3 (fun y => Hid (Below w.heap.size w y) ∧ y.cell? ⟨b, off, none⟩ = some (.int .u8 d) ∧ y.cell? ⟨b, off + 1, none⟩ = some (.int .u8 q) ∧ (convert 66 9 (.slice pa ps.length pc)).run Try.prog y = .ok (.string s) y)
    (exact ⟨hidI (by (repeat (first | exact Below.refl _ _ | assumption | refine Below.drew ?_ | refine Below.alloc ?_ (by first | omega | (simp; done) | (simp; omega)) _ | refine Below.setCell ?_ (by first | omega | (simp; done) | (simp; omega)) _))), HD0.out _ (by (repeat (first | exact Below.refl _ _ | assumption | refine Below.drew ?_ | refine Below.alloc ?_ (by first | omega | (simp; done) | (simp; omega)) _ | refine Below.setCell ?_ (by first | omega | (simp; done) | (simp; omega)) _))), HD1.out _ (by (repeat (first | exact Below.refl _ _ | assumption | refine Below.drew ?_ | refine Below.alloc ?_ (by first | omega | (simp; done) | (simp; omega)) _ | refine Below.setCell ?_ (by first | omega | (simp; done) | (simp; omega)) _))), HCV.out _ (by (repeat (first | exact Below.refl _ _ | assumption | refine Below.drew ?_ | refine Below.alloc ?_ (by first | omega | (simp; done) | (simp; omega)) _ | refine Below.setCell ?_ (by first | omega | (simp; done) | (simp; omega)) _)))⟩)
    (fail)
  all_goals
    go_wp2_with (go_at_call 43; refine Calls.mono (CD.out _ (by (repeat (first | exact Below.refl _ _ | assumption | refine Below.drew ?_ | refine Below.alloc ?_ (by first | omega | (simp; done) | (simp; omega)) _ | refine Below.setCell ?_ (by first | omega | (simp; done) | (simp; omega)) _)))) ?_; rintro e w1 ⟨D, hD, rfl, hb1⟩; refine Hid.out ?_)
    refine hidI ?_
    have HB1 : Hid (Below w0.heap.size w0 w1) := hidI (HB0.out.trans ((Below.trans (by (repeat (first | exact Below.refl _ _ | assumption | refine Below.drew ?_ | refine Below.alloc ?_ (by first | omega | (simp; done) | (simp; omega)) _ | refine Below.setCell ?_ (by first | omega | (simp; done) | (simp; omega)) _))) (hb1.mono (by simp))).mono HB0.out.size))
    clear hb1
    go_wp2
    go_ret2
    exact ⟨HB1.out, .inl ⟨HR.out, rfl⟩⟩
end Go.Proofs.Ytbjoljokdjgbnab
