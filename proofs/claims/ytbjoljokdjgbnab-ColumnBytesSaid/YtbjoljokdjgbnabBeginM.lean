/-
  The document's Begin.
-/
import Derived.Test.YtbjoljokdjgbnabValsM
namespace Go.Proofs.Ytbjoljokdjgbnab
open Go.RowKit Go.Deep Go.MapKept
theorem book_none (w : World) : Book (w.alloc (.cells #[.int .i64 3, .int .i64 2, .slice none 0 0] 100)) (fun _ => False) w.heap.size 3 2 [] :=
  ⟨by simp, by simp, by go_simp, by go_simp, by go_simp, .slice none 0 0, [], by go_simp, rfl, ⟨none, 0, rfl, Nat.le_refl _, .inl rfl⟩, by intro b hb; simp [Value.ownBlock] at hb, by simp⟩
theorem takenNo (k : Nat) (x : Int) (hx : x = (k : Int)) (a : Option Addr) (cap : Nat) (bs : List Int) (w0 W : World) (hS : SB w0 a cap bs) (hW : Below w0.heap.size w0 W) (hk : bs.length < k) : Calls Try.prog 85 #[.slice a bs.length cap, .int .i64 x] W fun e W' => e = .returned (.tuple #[.slice none 0 0, .slice none 0 0, .bool false]) ∧ Below W.heap.size W W' := by
  refine (taken_any k x hx a cap bs W (hS.below hW (Nat.le_refl _))).mono ?_
  rintro e W' ⟨hb, ⟨_, h⟩ | ⟨h, _⟩⟩
  · exact ⟨h, hb⟩
  · omega
theorem takenOk (k : Nat) (x : Int) (hx : x = (k : Int)) (a : Option Addr) (cap : Nat) (bs : List Int) (w0 W : World) (hS : SB w0 a cap bs) (hW : Below w0.heap.size w0 W) (hk : k ≤ bs.length) : Calls Try.prog 85 #[.slice a bs.length cap, .int .i64 x] W fun e W' => ∃ (ps ds : List Int) (ua : Option Addr) (uc : Nat) (va : Option Addr) (vc : Nat), Hid (ps = bs.take k) ∧ Hid (ds = bs.drop k) ∧ e = .returned (.tuple #[.slice ua ps.length uc, .slice va ds.length vc, .bool true]) ∧ SB w0 ua uc ps ∧ SB w0 va vc ds ∧ Below W.heap.size W W' := by
  refine (taken_any k x hx a cap bs W (hS.below hW (Nat.le_refl _))).mono ?_
  rintro e W' ⟨hb, ⟨h, _⟩ | ⟨h, ps, ds, ua, uc, va, vc, h1, h2, h3, h4, h5⟩⟩
  · omega
  · exact ⟨ps, ds, ua, uc, va, vc, h1, h2, h3, h4 _ hS, h5 _ hS, hb⟩
/-- The key of the column ahead. -/
def LastAt (w : World) (lb : Nat) (ls : ByteArray) (ld : Int) : Prop := lb < w.heap.size ∧ w.cell? ⟨lb, 0, none⟩ = some (.string ls) ∧ w.cell? ⟨lb, 1, none⟩ = some (.int .u8 ld) ∧ w.frozen? ⟨lb, 0, none⟩ = false ∧ w.frozen? ⟨lb, 1, none⟩ = false
theorem LastAt.below {w w' : World} {B lb : Nat} {ls : ByteArray} {ld : Int} (h : LastAt w lb ls ld) (hb : Below B w w') (hB : w.heap.size ≤ B) : LastAt w' lb ls ld := by
  obtain ⟨h0, h1, h2, h3, h4⟩ := h
  have hl : lb < B := by omega
  exact ⟨Nat.lt_of_lt_of_le h0 hb.size, (hb.cell (p := ⟨lb, 0, none⟩) hl).trans h1, (hb.cell (p := ⟨lb, 1, none⟩) hl).trans h2, (hb.frozen (p := ⟨lb, 0, none⟩) hl).trans h3, (hb.frozen (p := ⟨lb, 1, none⟩) hl).trans h4⟩
theorem LastAt.grown {w w' : World} {lb rb : Nat} {ls : ByteArray} {ld : Int} (h : LastAt w lb ls ld) (hg : w.grownBy w' (some rb)) (hne : lb ≠ rb) : LastAt w' lb ls ld := by
  obtain ⟨h0, h1, h2, h3, h4⟩ := h
  have hb : w'.heap[lb]? = w.heap[lb]? := hg.block lb h0 (fun e => hne (by cases e; rfl))
  exact ⟨Nat.lt_of_lt_of_le h0 hg.size, (World.cell?_of_block hb).trans h1, (World.cell?_of_block hb).trans h2, by unfold World.frozen? at h3 ⊢; simp only at h3 ⊢; rw [hb]; exact h3, by unfold World.frozen? at h4 ⊢; simp only at h4 ⊢; rw [hb]; exact h4⟩
theorem own_see {w : World} {base : Nat} {v : Value} {zs : List Int} (h : w.ownsRow base 51 1 v zs.length (zs.map (Value.int .i64))) : Sees w v zs := by
  obtain ⟨a, cap, X, rfl, hX, hc⟩ := own_words h
  refine ⟨a, cap, rfl, ?_⟩
  by_cases h0 : zs = []
  · exact .inl h0
  · have h1 : 0 < zs.length := List.length_pos_iff.2 h0
    obtain ⟨g, rfl, _⟩ := hc w (fun p hp => (hX p hp).1) 0 _ (List.getElem?_eq_getElem h1)
    refine .inr ⟨g, 0, rfl, fun j hj => ?_⟩
    obtain ⟨g', he, hcell⟩ := hc w (fun p hp => (hX p hp).1) j _ (List.getElem?_eq_getElem hj)
    cases he
    rw [Nat.zero_add, hcell]
    simp [hj]
theorem runS_fail {g : Nat} {os : List One} {last : Option Ky} {cur : List Int} (h : readO os cur = none) : runS (g + 1) os last cur = none := by
  unfold runS
  rw [h]
theorem readO_ky {os : List One} {d q z : Int} {t : List Int} {o : One} {r : List Int} (h : readO os (d :: q :: z :: t) = some (o, r)) : o.ky = (textOf (t.take z.toNat), d) := by
  unfold readO at h
  simp only at h
  split at h
  · cases h
  · split at h
    · split at h
      · cases h
      · split at h
        · cases h; rfl
        · cases h
    · cases h
theorem runS_order {g : Nat} {os : List One} {last : Option Ky} {d q z : Int} {t : List Int} (h : behind last (textOf (t.take z.toNat), d) = false) : runS (g + 1) os last (d :: q :: z :: t) = none := by
  unfold runS
  cases hr : readO os (d :: q :: z :: t) with
  | none => rfl
  | some p =>
    obtain ⟨o, r⟩ := p
    simp only
    rw [readO_ky hr, h]
    rfl
set_option maxRecDepth 100000 in
set_option maxHeartbeats 8000000 in
theorem begin_any : BeginLaw := by
  intro a cap bs w hby hS
  have C1 := hidI (rnew_ok 3 2 w (by unfold mayT; omega))
  have HBk := hidI (book_none w)
  have HB0 : Hid (Below w.heap.size w (w.alloc (.cells #[.int .i64 3, .int .i64 2, .slice none 0 0] 100))) := hidI (by (repeat (first | exact Below.refl _ _ | assumption | refine Below.drew ?_ | refine Below.alloc ?_ (by first | omega | (simp; done) | (simp; omega)) _ | refine Below.setCell ?_ (by first | omega | (simp; done) | (simp; omega)) _)))
  have hW0s : (w.alloc (.cells #[.int .i64 3, .int .i64 2, .slice none 0 0] 100)).heap.size = w.heap.size + 1 := by simp
  obtain ⟨W0, hW0⟩ : ∃ W0, w.alloc (.cells #[.int .i64 3, .int .i64 2, .slice none 0 0] 100) = W0 := ⟨_, rfl⟩
  have C1' : Hid (Calls Try.prog 41 #[.int .i64 3, .int .i64 2] w fun e w' => e = .returned (.pointer (some ⟨w.heap.size, 0, none⟩)) ∧ w' = W0) := hidI (hW0 ▸ C1.out)
  rw [hW0] at HBk HB0 hW0s
  obtain ⟨rb, hrb⟩ : ∃ rb, w.heap.size = rb := ⟨_, rfl⟩
  have Hrb := hidI hrb
  rw [hrb] at HBk C1' hW0s
  clear C1 hW0 hrb
  by_cases hl : bs.length < 1
  · have hnil : bs = [] := List.length_eq_zero_iff.1 (by omega)
    have HD : Hid (runs bs = none) := hidI (by rw [hnil]; rfl)
    have CT := hidI (takenNo 1 1 rfl a cap bs w W0 hS HB0.out hl)
    clear hnil hS hby hl
    go_enter Try.func65, Try.ntmps65
    go_wp2_with (first | (go_at_call 41; refine Calls.mono C1'.out ?_; rintro e w1 ⟨rfl, rfl⟩) | (go_at_call 85; refine Calls.mono CT.out ?_; rintro e w2 ⟨rfl, hb2⟩; have HB2 := hidI (HB0.out.trans (hb2.mono HB0.out.size)); clear hb2; refine Hid.out ?_))
    refine hidI ?_
    go_wp2
    go_ret2
    exact ⟨HB2.out, .inl ⟨HD.out, rfl⟩⟩
  · obtain ⟨n, t, e⟩ : ∃ n t, bs = n :: t := by
      cases bs with
      | nil => simp at hl
      | cons n t => exact ⟨n, t, rfl⟩
    have hn := hby n (by rw [e]; simp)
    obtain ⟨m, hm⟩ : ∃ m : Nat, n = (m : Int) := ⟨n.toNat, by unfold IsB at hn; omega⟩
    subst hm
    have hm8 : m ≤ 255 := by unfold IsB at hn; omega
    have HRuns : Hid (runs bs = runS m [] none t) := hidI (by rw [e]; simp only [runs, Int.toNat_natCast])
    have HTby : Hid (∀ x ∈ t, IsB x) := hidI fun x hx => hby x (by rw [e]; simp [hx])
    have CT : Hid (Calls Try.prog 85 #[.slice a bs.length cap, .int .i64 1] W0 fun e W' => ∃ (nb noff uc : Nat) (va : Option Addr) (vc : Nat), e = .returned (.tuple #[.slice (some ⟨nb, noff, none⟩) 1 uc, .slice va t.length vc, .bool true]) ∧ nb < w.heap.size ∧ w.cell? ⟨nb, noff, none⟩ = some (.int .u8 (m : Int)) ∧ SB w va vc t ∧ Below W0.heap.size W0 W') := hidI ((takenOk 1 1 rfl a cap bs w W0 hS HB0.out (by omega)).mono (by
      rintro e' W' ⟨ps, ds, ua, uc, va, vc, h1, h2, rfl, h3, h4, h5⟩
      have hp : ps = [(m : Int)] := by rw [h1.out, e]; rfl
      have hd : ds = t := by rw [h2.out, e]; rfl
      subst hp hd
      rcases h3.2 with h0 | ⟨b, off, rfl, hc⟩
      · simp at h0
      · have c0 := hc 0 _ rfl
        exact ⟨b, off, uc, va, vc, rfl, World.block_lt_of_cell? w _ c0, c0, h4, h5⟩))
    clear hS hby hl e hn
    go_enter Try.func65, Try.ntmps65
    go_wp2_with (first | (go_at_call 41; refine Calls.mono C1'.out ?_; rintro e w1 ⟨rfl, rfl⟩) | (go_at_call 85; refine Calls.mono CT.out ?_; rintro e w1 ⟨nb, noff, uc, ta, tc, rfl, hnb, hcn, hts, hb1⟩; refine Hid.out ?_))
    refine hidI ?_
    have HBk1 := hidI (HBk.out.below hb1 (Nat.le_refl _))
    have HB1 := hidI (HB0.out.trans (hb1.mono HB0.out.size))
    have hs1 := hb1.size
    have HTs := hidI hts
    have HCn := hidI hcn
    clear hb1 hts hcn CT C1' HBk
    have HBL : Hid (Book (w1.alloc (.cells #[.string ⟨#[]⟩, .int .u8 0] 40)) (fun k => k = w1.heap.size) rb 3 2 []) := hidI (HBk1.out.grown (row := none) (by exact ⟨rfl, rfl, rfl, by simp, fun i hi _ => Below.heap_alloc _ _ _ hi⟩) (by simp) (by rintro k rfl; simp) (by rintro k rfl; exact .inr (Nat.le_refl _)))
    have HLA : Hid (LastAt (w1.alloc (.cells #[.string ⟨#[]⟩, .int .u8 0] 40)) w1.heap.size ⟨#[]⟩ 0) := hidI ⟨by simp, by go_simp, by go_simp, by go_simp, by go_simp⟩
    have HBW : Hid (Below w.heap.size w (w1.alloc (.cells #[.string ⟨#[]⟩, .int .u8 0] 40))) := hidI (HB1.out.alloc HB1.out.size _)
    go_wp2
    obtain ⟨lb, hlb⟩ : ∃ lb, w1.heap.size = lb := ⟨_, rfl⟩
    have hlr : lb ≠ rb := by omega
    have hlw : w.heap.size ≤ lb := by have := HB1.out.size; omega
    rw [hlb] at HBL HLA ⊢
    obtain ⟨W1, hW1⟩ : ∃ W1, w1.alloc (.cells #[.string ⟨#[]⟩, .int .u8 0] 40) = W1 := ⟨_, rfl⟩
    rw [hW1] at HBL HLA HBW ⊢
    clear hlb hW1 HBk1 HB1
    go_loopg [2, 12] m (fun g s2 s12 wx => ∃ (i : Nat) (cur : List Int) (os : List One) (last : Option Ky) (va : Option Addr) (vc : Nat) (ls : ByteArray) (ld : Int), i + g = m ∧ s2 = .slice va cur.length vc ∧ s12 = .int .i64 (i : Int) ∧ Hid (SB w va vc cur) ∧ Hid (∀ x ∈ cur, IsB x) ∧ Hid (Book wx (fun k => k = lb) rb 3 2 os) ∧ Hid (OkT os) ∧ Hid (Below w.heap.size w wx) ∧ Hid (runs bs = runS g os last cur) ∧ Hid (∀ k, behind last k = (decide (i = 0) || ltK (ls, ld) k)) ∧ Hid (LastAt wx lb ls ld))
    case atStart => exact ⟨0, t, [], none, ta, tc, ⟨#[]⟩, 0, by omega, rfl, rfl, HTs, HTby, HBL, hidI okT_nil, HBW, HRuns, hidI (by simp [behind]), HLA⟩
    case round =>
      obtain ⟨i, cur, os, last, va, vc, ls, ld, hig, rfl, rfl, HC, HCb, HBo, HOk, HB, HRun, HBeh, HL⟩ := hrel
      have cn : wr.cell? ⟨nb, noff, none⟩ = some (.int .u8 (m : Int)) := (HB.out.cell (p := ⟨nb, noff, none⟩) hnb).trans HCn.out
      have wm : IntKind.i64.wrap (m : Int) = (m : Int) := by rw [IntKind.wrap_i64]; omega
      cases gk with
      | zero =>
        have hil : i = m := by omega
        subst hil
        have j4 : ¬ ((i : Int) < (i : Int)) := by omega
        go_wp2
        go_ret2
        exact ⟨HB.out, .inr ⟨os, cur, va, vc, _, by rw [HRun.out]; rfl, rfl⟩⟩
      | succ g =>
        have j4 : (i : Int) < (m : Int) := by omega
        by_cases h3 : cur.length < 3
        · have HF : Hid (runs bs = none) := hidI (by rw [HRun.out]; exact runS_fail (readO_short os cur h3))
          have CT := hidI (takenNo 3 3 rfl va vc cur w wr HC.out HB.out h3)
          clear h3
          go_wp2_with (go_at_call 85; refine Calls.mono CT.out ?_; rintro e w2 ⟨rfl, hb2⟩; have HB2 := hidI (HB.out.trans (hb2.mono HB.out.size)); clear hb2; refine Hid.out ?_)
          refine hidI ?_
          go_wp2
          go_ret2
          exact ⟨HB2.out, .inl ⟨HF.out, rfl⟩⟩
        obtain ⟨d, q, z, t', ec⟩ := three cur h3
        have HEc := hidI ec
        have hz : IsB z := HCb.out z (by rw [ec]; simp)
        have hd : IsB d := HCb.out d (by rw [ec]; simp)
        have hq : IsB q := HCb.out q (by rw [ec]; simp)
        unfold IsB at hz hd hq
        have wz : IntKind.i64.wrap z = z := by rw [IntKind.wrap_i64]; omega
        have CT : Hid (Calls Try.prog 85 #[.slice va cur.length vc, .int .i64 3] wr fun e W' => ∃ (hb ho hc : Nat) (ra : Option Addr) (rc : Nat), e = .returned (.tuple #[.slice (some ⟨hb, ho, none⟩) 3 hc, .slice ra t'.length rc, .bool true]) ∧ hb < w.heap.size ∧ w.cell? ⟨hb, ho, none⟩ = some (.int .u8 d) ∧ w.cell? ⟨hb, ho + 1, none⟩ = some (.int .u8 q) ∧ w.cell? ⟨hb, ho + 2, none⟩ = some (.int .u8 z) ∧ SB w ra rc t' ∧ Below wr.heap.size wr W') := hidI ((takenOk 3 3 rfl va vc cur w wr HC.out HB.out (by omega)).mono (by
          rintro e' W' ⟨ps, ds, ua, uc, va', vc', h1, h2, rfl, h3, h4, h5⟩
          have hp : ps = [d, q, z] := by rw [h1.out, ec]; rfl
          have hd : ds = t' := by rw [h2.out, ec]; rfl
          subst hp hd
          rcases h3.2 with h0 | ⟨b, off, rfl, hc⟩
          · simp at h0
          · exact ⟨b, off, uc, va', vc', rfl, World.block_lt_of_cell? w _ (hc 0 _ rfl), hc 0 _ rfl, hc 1 _ rfl, hc 2 _ rfl, h4, h5⟩))
        clear ec
        go_wp2_with (go_at_call 85; refine Calls.mono CT.out ?_; rintro e w2 ⟨hb, ho, hc, ra, rc, rfl, hhb, hc0, hc1, hc2, hrs, hb2⟩; refine Hid.out ?_)
        refine hidI ?_
        have HB2 := hidI (HB.out.trans (hb2.mono HB.out.size))
        have HBo2 := hidI (HBo.out.below hb2 (Nat.le_refl _))
        have HL2 := hidI (HL.out.below hb2 (Nat.le_refl _))
        have HRs := hidI hrs
        have HC0 := hidI hc0
        have HC1 := hidI hc1
        have c2 : w2.cell? ⟨hb, ho + 2, none⟩ = some (.int .u8 z) := (HB2.out.cell (p := ⟨hb, ho + 2, none⟩) hhb).trans hc2
        have HRby : Hid (∀ x ∈ t', IsB x) := hidI fun x hx => HCb.out x (by rw [HEc.out]; simp [hx])
        clear hb2 hrs hc0 hc1 hc2 CT HBo HL HB cn
        by_cases h4 : t'.length < z.toNat
        · have HF : Hid (runs bs = none) := hidI (by rw [HRun.out, HEc.out]; exact runS_fail (by simp [readO, h4]))
          have CT := hidI (takenNo z.toNat z (by omega) ra rc t' w w2 HRs.out HB2.out h4)
          go_wp2_with (go_at_call 85; refine Calls.mono CT.out ?_; rintro e w3 ⟨rfl, hb3⟩; have HB3 := hidI (HB2.out.trans (hb3.mono HB2.out.size)); clear hb3; refine Hid.out ?_)
          refine hidI ?_
          go_wp2
          go_ret2
          exact ⟨HB3.out, .inl ⟨HF.out, rfl⟩⟩
        have CT := hidI (takenOk z.toNat z (by omega) ra rc t' w w2 HRs.out HB2.out (by omega))
        go_wp2_with (go_at_call 85; refine Calls.mono CT.out ?_; rintro e w3 ⟨ps, ds, pa, pc, qa, qc, HPS, HDS, rfl, hps, hds, hb3⟩; refine Hid.out ?_)
        refine hidI ?_
        have HB3 := hidI (HB2.out.trans (hb3.mono HB2.out.size))
        have HBo3 := hidI (HBo2.out.below hb3 (Nat.le_refl _))
        have HL3 := hidI (HL2.out.below hb3 (Nat.le_refl _))
        have hl3 := HL3.out.1
        have HPs := hidI hps
        have HDs := hidI hds
        have h4' : ¬ t'.length < z.toNat := h4
        have H4 := hidI h4'
        clear hb3 hps hds CT HBo2 HL2 c2 wz h4 h4'
        obtain ⟨s, hs⟩ : ∃ s, textOf ps = s := ⟨_, rfl⟩
        have HX := hidI hs
        have HXt : Hid (textOf (t'.take z.toNat) = s) := hidI (by rw [← HPS.out]; exact hs)
        have HCV : Hid (∀ y, Below w3.heap.size w3 y → (convert 66 9 (.slice pa ps.length pc)).run Try.prog y = .ok (.string s) y) := hidI fun y hy => by
          rw [← HX.out]
          exact text_cut (HPs.out.below (HB3.out.trans (hy.mono HB3.out.size)) (Nat.le_refl _))
        have HD0 : Hid (∀ y, Below w3.heap.size w3 y → y.cell? ⟨hb, ho, none⟩ = some (.int .u8 d)) := hidI fun y hy => ((HB3.out.trans (hy.mono HB3.out.size)).cell (p := ⟨hb, ho, none⟩) hhb).trans HC0.out
        have hsz3 := HB3.out.size
        have hbne : hb ≠ w3.heap.size := by omega
        clear hs
        go_wp2
        go_region_held3 (fun y => Hid (Below w3.heap.size w3 y) ∧ y.cell? ⟨hb, ho, none⟩ = some (.int .u8 d) ∧ (convert 66 9 (.slice pa ps.length pc)).run Try.prog y = .ok (.string s) y)
          (exact ⟨hidI (by (repeat (first | exact Below.refl _ _ | assumption | refine Below.drew ?_ | refine Below.alloc ?_ (by first | omega | (simp; done) | (simp; omega)) _ | refine Below.setCell ?_ (by first | omega | (simp; done) | (simp; omega)) _))), HD0.out _ (by (repeat (first | exact Below.refl _ _ | assumption | refine Below.drew ?_ | refine Below.alloc ?_ (by first | omega | (simp; done) | (simp; omega)) _ | refine Below.setCell ?_ (by first | omega | (simp; done) | (simp; omega)) _))), HCV.out _ (by (repeat (first | exact Below.refl _ _ | assumption | refine Below.drew ?_ | refine Below.alloc ?_ (by first | omega | (simp; done) | (simp; omega)) _ | refine Below.setCell ?_ (by first | omega | (simp; done) | (simp; omega)) _)))⟩)
          (fail)
        all_goals
          go_wp2
          have hL : sideLen 3 2 d = (len32 d : Nat) := by unfold len32 sideLen; split <;> (try split) <;> (try split) <;> rfl
          by_cases hD : rdeclE os s d q = 0
          · obtain ⟨o2, ho2⟩ : ∃ o2, insO os ⟨s, d, q, List.replicate (len32 d) 0⟩ = o2 := ⟨_, rfl⟩
            have Ho2 := hidI ho2
            have HDz := hidI hD
            have CD : Hid (∀ V, Below w3.heap.size w3 V → V.cell? ⟨w3.heap.size, 0, none⟩ = some (.string s) → V.cell? ⟨w3.heap.size, 1, none⟩ = some (.int .u8 d) → Calls Try.prog 70 #[.pointer (some ⟨rb, 0, none⟩), .agg #[.string s, .int .u8 d], .int .u8 q] V fun e w' => e = .returned (.int .i64 0) ∧ ((w'.cell? ⟨w3.heap.size, 0, none⟩ = some (.string s) ∧ w'.cell? ⟨w3.heap.size, 1, none⟩ = some (.int .u8 d) ∧ w'.cell? ⟨lb, 0, none⟩ = some (.string ls) ∧ w'.cell? ⟨lb, 1, none⟩ = some (.int .u8 ld) ∧ w'.cell? ⟨hb, ho + 1, none⟩ = some (.int .u8 q)) ∧ Below w.heap.size w w' ∧ Book w' (fun k => k = lb) rb 3 2 o2 ∧ LastAt w' lb ls ld)) := hidI fun V hV k0 k1 => by
              have hBV := HBo3.out.below hV (Nat.le_refl _)
              have hrbw := HBo3.out.rb
              have hkV := World.block_lt_of_cell? V _ k0
              simp only at hkV
              have hBel := HB3.out.trans (hV.mono hsz3)
              refine (rdecl_any (fun k => k = lb) rb 3 2 os s d q V hBV HOk.out.few hd.1 hq.1 (len32 d) hL (len32_le d)).mono ?_
              rintro e w' ⟨rfl, _, p2⟩
              obtain ⟨hg, hB'⟩ := p2 hD
              rw [ho2] at hB'
              rw [hD]
              have hL' := (HL3.out.below hV (Nat.le_refl _)).grown hg hlr
              have hBel' : Below w.heap.size w w' := Below.grown hBel hg hBel.size (fun k hk => by cases hk; have := Hrb.out; omega)
              exact ⟨rfl, ⟨kept_cell hg k0 (by simp; omega), kept_cell hg k1 (by simp; omega), hL'.2.1, hL'.2.2.1, (hBel'.cell (p := ⟨hb, ho + 1, none⟩) hhb).trans HC1.out⟩, hBel', hB', hL'⟩
            clear hD ho2 hL
            by_cases hi0 : i = 0
            · have hI : ¬ ((0 : Int) < (i : Int)) := by omega
              refine reg16B hI (by omega) (fun y => (y.cell? ⟨w3.heap.size, 0, none⟩ = some (.string s) ∧ y.cell? ⟨w3.heap.size, 1, none⟩ = some (.int .u8 d) ∧ y.cell? ⟨lb, 0, none⟩ = some (.string ls) ∧ y.cell? ⟨lb, 1, none⟩ = some (.int .u8 ld) ∧ y.cell? ⟨hb, ho + 1, none⟩ = some (.int .u8 q)) ∧ Below w.heap.size w y ∧ Book y (fun k => k = lb) rb 3 2 o2 ∧ LastAt y lb ls ld) ⟨by go_simp, by go_simp, (HL3.out.below (by (repeat (first | exact Below.refl _ _ | assumption | refine Below.drew ?_ | refine Below.alloc ?_ (by first | omega | (simp; done) | (simp; omega)) _ | refine Below.setCell ?_ (by first | omega | (simp; done) | (simp; omega)) _))) (Nat.le_refl _)).2.1, (HL3.out.below (by (repeat (first | exact Below.refl _ _ | assumption | refine Below.drew ?_ | refine Below.alloc ?_ (by first | omega | (simp; done) | (simp; omega)) _ | refine Below.setCell ?_ (by first | omega | (simp; done) | (simp; omega)) _))) (Nat.le_refl _)).2.2.1, ((HB3.out.trans (Below.mono (B := w3.heap.size) (by (repeat (first | exact Below.refl _ _ | assumption | refine Below.drew ?_ | refine Below.alloc ?_ (by first | omega | (simp; done) | (simp; omega)) _ | refine Below.setCell ?_ (by first | omega | (simp; done) | (simp; omega)) _))) hsz3)).cell (p := ⟨hb, ho + 1, none⟩) hhb).trans HC1.out⟩ (CD.out _ (by (repeat (first | exact Below.refl _ _ | assumption | refine Below.drew ?_ | refine Below.alloc ?_ (by first | omega | (simp; done) | (simp; omega)) _ | refine Below.setCell ?_ (by first | omega | (simp; done) | (simp; omega)) _))) (by go_simp) (by go_simp)) (fun w' h => h.1) (fun _ _ _ _ _ h => h) ?_
              intro W t73 t74 t75 t76 t77 t78 t79 t80 t81 t82 t83 t84 t85 t86 t87 t88 hR
              have HR5 := hidI hR
              have HBt : Hid (behind last (s, d) = true) := hidI (by rw [HBeh.out, decide_eq_true hi0]; rfl)
              clear hR CD HCV HD0 HL3 HBo3 hI
              obtain ⟨⟨k0, k1, l0, l1, _⟩, hBw, hBk, hLA⟩ := HR5.out
              have f0 := hLA.2.2.2.1
              have f1 := hLA.2.2.2.2
              have hL : sideLen 3 2 d = (len32 d : Nat) := by unfold len32 sideLen; split <;> (try split) <;> (try split) <;> rfl
              have hL30 := len32_le d
              obtain ⟨L, hLd⟩ : ∃ L, len32 d = L := ⟨_, rfl⟩
              have HLd := hidI hLd
              rw [hLd] at hL hL30
              have hkl : w3.heap.size ≠ lb := by omega
              have hkl2 : lb ≠ w3.heap.size := by omega
              have CL : Hid (∀ V, V = (W.setCell ⟨lb, 0, none⟩ (.string s)).setCell ⟨lb, 1, none⟩ (.int .u8 d) → Calls Try.prog 49 #[.pointer (some ⟨rb, 0, none⟩), .int .u8 d] V fun e w' => e = .returned (.int .i64 (L : Int)) ∧ Below w.heap.size w w' ∧ Book w' (fun k => k = lb) rb 3 2 o2 ∧ LastAt w' lb s d ∧ w'.cell? ⟨w3.heap.size, 0, none⟩ = some (.string s) ∧ w'.cell? ⟨w3.heap.size, 1, none⟩ = some (.int .u8 d)) := hidI (by
                rintro V rfl
                have hg : W.grownBy ((W.setCell ⟨lb, 0, none⟩ (.string s)).setCell ⟨lb, 1, none⟩ (.int .u8 d)) (some lb) := grown_trans (grown_cell W lb 0 _) (grown_cell _ lb 1 _)
                have hB' := hBk.grown hg (N' := fun k => k = lb) (fun b hb => by cases hb; rfl) (fun k hk => by subst hk; exact Nat.lt_of_lt_of_le hLA.1 hg.size) (fun k hk => .inl hk)
                refine (rlen_any rb 3 2 d _ hB'.2.2.1 hB'.2.2.2.1).mono ?_
                rintro e w' ⟨rfl, rfl⟩
                refine ⟨by rw [hL], Below.grown hBw hg hBw.size (fun k hk => by cases hk; exact hlw), hB', ⟨Nat.lt_of_lt_of_le hLA.1 hg.size, (World.cell?_setCell_other _ _ _ _ (by simp)).trans (World.cell?_setCell_same _ _ _ l0), World.cell?_setCell_same _ _ _ ((World.cell?_setCell_other _ _ _ _ (by simp)).trans l1), by rw [World.frozen?_setCell, World.frozen?_setCell]; exact f0, by rw [World.frozen?_setCell, World.frozen?_setCell]; exact f1⟩, kept_cell hg k0 (by simp; omega), kept_cell hg k1 (by simp; omega)⟩)
              clear hBw hBk hLA hL hLd
              go_wp2_with (go_at_call 49; refine Calls.mono (CL.out _ rfl) ?_; rintro e w5 ⟨rfl, hb5, hBk5, hL5, m0, m1⟩; refine Hid.out ?_)
              refine hidI ?_
              have HB5 := hidI hb5
              have HBk5 := hidI hBk5
              have HL5 := hidI hL5
              have HM0 := hidI m0
              have HM1 := hidI m1
              have wl : wrap64 (8 * (L : Int)) = 8 * (L : Int) := by unfold wrap64; omega
              clear hb5 hBk5 hL5 CL k0 k1 l0 l1 f0 f1 m0 m1 HR5
              by_cases h5 : ds.length < L * 8
              · have HF : Hid (runs bs = none) := hidI (by
                  rw [HRun.out, HEc.out]
                  refine runS_fail ?_
                  have h5' : (t'.drop z.toNat).length < len32 d * 8 := by rw [← HDS.out, HLd.out]; exact h5
                  have hDz : rdeclE os (textOf (t'.take z.toNat)) d q = 0 := by rw [HXt.out]; exact HDz.out
                  simp only [readO, if_neg H4.out, if_pos hDz, if_pos h5'])
                have CT := hidI (takenNo (L * 8) (8 * (L : Int)) (by omega) qa qc ds w w5 HDs.out HB5.out h5)
                go_wp2_with (go_at_call 85; refine Calls.mono CT.out ?_; rintro e w6 ⟨rfl, hb6⟩; have HB6 := hidI (HB5.out.trans (hb6.mono HB5.out.size)); clear hb6; refine Hid.out ?_)
                refine hidI ?_
                go_wp2
                go_ret2
                exact ⟨HB6.out, .inl ⟨HF.out, rfl⟩⟩
              have CT := hidI (takenOk (L * 8) (8 * (L : Int)) (by omega) qa qc ds w w5 HDs.out HB5.out (by omega))
              go_wp2_with (go_at_call 85; refine Calls.mono CT.out ?_; rintro e w6 ⟨vs, rs, xa, xc, ya, yc, HVS, HRS, rfl, hvs, hrs, hb6⟩; refine Hid.out ?_)
              refine hidI ?_
              have HB6 := hidI (HB5.out.trans (hb6.mono HB5.out.size))
              have HBk6 := hidI (HBk5.out.below hb6 (Nat.le_refl _))
              have HL6 := hidI (HL5.out.below hb6 (Nat.le_refl _))
              have hkw5 := World.block_lt_of_cell? w5 _ HM0.out
              simp only at hkw5
              have HN0 : Hid (w6.cell? ⟨w3.heap.size, 0, none⟩ = some (.string s)) := hidI ((hb6.cell (p := ⟨w3.heap.size, 0, none⟩) hkw5).trans HM0.out)
              have HN1 : Hid (w6.cell? ⟨w3.heap.size, 1, none⟩ = some (.int .u8 d)) := hidI ((hb6.cell (p := ⟨w3.heap.size, 1, none⟩) hkw5).trans HM1.out)
              have hkw6 : w3.heap.size < w6.heap.size := Nat.lt_of_lt_of_le hkw5 hb6.size
              have HVs := hidI hvs
              have HRsb := hidI hrs
              have HVl : Hid (vs.length = L * 8) := hidI (by rw [HVS.out, List.length_take]; omega)
              have HVby : Hid (∀ x ∈ vs, IsB x) := hidI fun x hx => HRby.out x (by rw [HVS.out] at hx; have := List.mem_of_mem_take hx; rw [HDS.out] at this; exact List.mem_of_mem_drop this)
              have HRby2 : Hid (∀ x ∈ rs, IsB x) := hidI fun x hx => HRby.out x (by rw [HRS.out] at hx; have := List.mem_of_mem_drop hx; rw [HDS.out] at this; exact List.mem_of_mem_drop this)
              have H5 := hidI h5
              clear hb6 hvs hrs CT wl HBk5 HL5 HM0 HM1 HB5 h5
              go_wp2
              refine vals_any w xa xc L vs w6 HB6.out HVs.out HVl.out (by omega) HVby.out ?_
              intro u21 u22 u104 u105 u106 u107 u108 u109 u110 u111 u112 u113 u114 u115 u116 u117 u118 u119 u120 u121 u122 u123 u124 u125 u126 u127 la lc wr hown hBy
              have HBy := hidI hBy
              clear hBy
              have n0 : wr.cell? ⟨w3.heap.size, 0, none⟩ = some (.string s) := (HBy.out.cell (p := ⟨w3.heap.size, 0, none⟩) hkw6).trans HN0.out
              have n1 : wr.cell? ⟨w3.heap.size, 1, none⟩ = some (.int .u8 d) := (HBy.out.cell (p := ⟨w3.heap.size, 1, none⟩) hkw6).trans HN1.out
              have HSee : Hid (Sees wr (.slice la L lc) (wordsL L vs)) := hidI (own_see (by rw [wordsL_len]; exact hown))
              have HB7 := hidI (HB6.out.trans (HBy.out.mono HB6.out.size))
              have HBk7 := hidI (HBk6.out.below HBy.out (Nat.le_refl _))
              have HL7 := hidI (HL6.out.below HBy.out (Nat.le_refl _))
              have hfn := (rdecl_ok HDz.out).2.2.2.1
              have hq1 := (rdecl_ok HDz.out).2.2.1
              have CLd := hidI (rloads_any (fun k => k = lb) rb 3 2 o2 s d (.slice la L lc) (wordsL L vs) wr HBk7.out (by rw [← Ho2.out, insO_len]; have := HOk.out.few; omega) (by
                intro o ho
                rw [← Ho2.out] at ho
                rcases insO_mem ho with rfl | ho
                · simp; have := len32_le d; omega
                · rw [(HOk.out.each o ho).len]; have := len32_le o.side; omega) (by
                rw [← Ho2.out]
                exact insO_sorted _ _ HOk.out.sorted (findO_none hfn)) HSee.out)
              have hds8 : len32 d * 8 ≤ (t'.drop z.toNat).length := by have := H5.out; rw [← HDS.out, HLd.out]; omega
              have hDz : rdeclE os (textOf (t'.take z.toNat)) d q = 0 := by rw [HXt.out]; exact HDz.out
              have hww : wordsL (len32 d) (t'.drop z.toNat) = wordsL L vs := by
                rw [HLd.out, HVS.out, ← HDS.out]
                exact words_take L ds (by have := H5.out; omega)
              have hle : rloadE o2 s d (wordsL L vs) = if (wordsL L vs).all (rfit q) then 0 else 3 := by
                rw [← Ho2.out, ins_load hfn (by rw [wordsL_len, HLd.out])]
              cases hall : (wordsL L vs).all (rfit q) with
              | true =>
                rw [hall] at hle
                have HRd : Hid (readO os cur = some (⟨s, d, q, wordsL L vs⟩, rs)) := hidI (by
                  have hall2 : (wordsL (len32 d) (t'.drop z.toNat)).all (rfit q) = true := by rw [hww]; exact hall
                  have hx : readO os (d :: q :: z :: t') = some (⟨textOf (t'.take z.toNat), d, q, wordsL (len32 d) (t'.drop z.toNat)⟩, (t'.drop z.toNat).drop (len32 d * 8)) := by
                    simp only [readO, if_neg H4.out, if_pos hDz, if_neg (Nat.not_lt.2 hds8), hall2]
                    rfl
                  rw [HEc.out, hx, HXt.out, hww, HLd.out, ← HDS.out, ← HRS.out])
                have HUp : Hid (upO o2 s d (fun _ => wordsL L vs) = insO os ⟨s, d, q, wordsL L vs⟩) := hidI (by rw [← Ho2.out, ins_up hfn])
                have CLd' : Hid (Calls Try.prog 76 #[.pointer (some ⟨rb, 0, none⟩), .agg #[.string s, .int .u8 d], .slice la L lc] wr fun e w' => e = .returned (.int .i64 0) ∧ Below w.heap.size w w' ∧ Book w' (fun k => k = lb) rb 3 2 (insO os ⟨s, d, q, wordsL L vs⟩) ∧ LastAt w' lb s d) := hidI (CLd.out.mono (by
                  rintro e w' ⟨rfl, _, p2⟩
                  obtain ⟨hg, hB'⟩ := p2 hle
                  rw [HUp.out] at hB'
                  exact ⟨by rw [hle]; rfl, Below.grown HB7.out hg HB7.out.size (fun k hk => by cases hk; have := Hrb.out; omega), hB', HL7.out.grown hg hlr⟩))
                obtain ⟨qq1, qq2, _, qq4⟩ := enc_read HCb.out HRd.out
                have HOk2 := hidI (HOk.out.ins qq1 qq2)
                have HRun2 : Hid (runs bs = runS g (insO os ⟨s, d, q, wordsL L vs⟩) (some (s, d)) rs) := hidI (by
                  rw [HRun.out]
                  conv => lhs; unfold runS
                  rw [HRd.out]
                  simp only
                  rw [show One.ky ⟨s, d, q, wordsL L vs⟩ = (s, d) from rfl, HBt.out]
                  rfl)
                clear hown CLd hle hall hww hDz hds8 hfn hq1 qq1 qq2 qq4
                go_wp2_with (go_at_call 76; refine Calls.mono CLd'.out ?_; rintro e w8 ⟨rfl, hb8, hBk8, hL8⟩; refine Hid.out ?_)
                refine hidI ?_
                have HB8 := hidI hb8
                have HBk8 := hidI hBk8
                have HL8 := hidI hL8
                clear hb8 hBk8 hL8 CLd' n0 n1
                go_wp2
                go_roundg g
                case measure => omega
                case rel => exact ⟨i + 1, rs, insO os ⟨s, d, q, wordsL L vs⟩, some (s, d), ya, yc, s, d, by omega, rfl, by go_num, HRsb, HRby2, HBk8, HOk2, HB8, HRun2, hidI (fun k => by simp [behind]), HL8⟩
              | false =>
                rw [hall] at hle
                have HF : Hid (runs bs = none) := hidI (by
                  rw [HRun.out, HEc.out]
                  refine runS_fail ?_
                  simp only [readO, if_neg H4.out, if_pos hDz, if_neg (Nat.not_lt.2 hds8), hww, hall]
                  rfl)
                have CLd' : Hid (Calls Try.prog 76 #[.pointer (some ⟨rb, 0, none⟩), .agg #[.string s, .int .u8 d], .slice la L lc] wr fun e w' => e = .returned (.int .i64 3) ∧ Below w.heap.size w w') := hidI (CLd.out.mono (by
                  rintro e w' ⟨rfl, p1, _⟩
                  have h3 : rloadE o2 s d (wordsL L vs) = 3 := hle
                  exact ⟨by rw [h3], HB7.out.trans ((p1 (by rw [h3]; decide)).mono HB7.out.size)⟩))
                clear hown CLd hle hall hww hDz hds8 hfn hq1
                go_wp2_with (go_at_call 76; refine Calls.mono CLd'.out ?_; rintro e w8 ⟨rfl, hb8⟩; refine Hid.out ?_)
                refine hidI ?_
                have HB8 := hidI hb8
                clear hb8 CLd' n0 n1
                go_wp2
                go_ret2
                exact ⟨HB8.out, .inl ⟨HF.out, rfl⟩⟩
            · have hI : (0 : Int) < (i : Int) := by omega
              cases hlt : ltK (ls, ld) (s, d) with
              | true =>
                refine reg16C (lt := true) hI (by omega) (fun y => (y.cell? ⟨w3.heap.size, 0, none⟩ = some (.string s) ∧ y.cell? ⟨w3.heap.size, 1, none⟩ = some (.int .u8 d) ∧ y.cell? ⟨lb, 0, none⟩ = some (.string ls) ∧ y.cell? ⟨lb, 1, none⟩ = some (.int .u8 ld) ∧ y.cell? ⟨hb, ho + 1, none⟩ = some (.int .u8 q)) ∧ Below w.heap.size w y ∧ Book y (fun k => k = lb) rb 3 2 o2 ∧ LastAt y lb ls ld) ⟨by go_simp, by go_simp, (HL3.out.below (by (repeat (first | exact Below.refl _ _ | assumption | refine Below.drew ?_ | refine Below.alloc ?_ (by first | omega | (simp; done) | (simp; omega)) _ | refine Below.setCell ?_ (by first | omega | (simp; done) | (simp; omega)) _))) (Nat.le_refl _)).2.1, (HL3.out.below (by (repeat (first | exact Below.refl _ _ | assumption | refine Below.drew ?_ | refine Below.alloc ?_ (by first | omega | (simp; done) | (simp; omega)) _ | refine Below.setCell ?_ (by first | omega | (simp; done) | (simp; omega)) _))) (Nat.le_refl _)).2.2.1, ((HB3.out.trans (Below.mono (B := w3.heap.size) (by (repeat (first | exact Below.refl _ _ | assumption | refine Below.drew ?_ | refine Below.alloc ?_ (by first | omega | (simp; done) | (simp; omega)) _ | refine Below.setCell ?_ (by first | omega | (simp; done) | (simp; omega)) _))) hsz3)).cell (p := ⟨hb, ho + 1, none⟩) hhb).trans HC1.out⟩ (CD.out _ (by (repeat (first | exact Below.refl _ _ | assumption | refine Below.drew ?_ | refine Below.alloc ?_ (by first | omega | (simp; done) | (simp; omega)) _ | refine Below.setCell ?_ (by first | omega | (simp; done) | (simp; omega)) _))) (by go_simp) (by go_simp)) (fun w' h => h.1) (fun w' _ => hlt ▸ rbefore_any ls s ld d w') (fun _ _ _ _ _ h => h) ?_
                intro W1 W t73 t74 t75 t76 t77 t78 t79 t80 t81 t82 t83 t84 t85 t86 t87 t88 hR1 hbW
                have hR : (W.cell? ⟨w3.heap.size, 0, none⟩ = some (.string s) ∧ W.cell? ⟨w3.heap.size, 1, none⟩ = some (.int .u8 d) ∧ W.cell? ⟨lb, 0, none⟩ = some (.string ls) ∧ W.cell? ⟨lb, 1, none⟩ = some (.int .u8 ld) ∧ W.cell? ⟨hb, ho + 1, none⟩ = some (.int .u8 q)) ∧ Below w.heap.size w W ∧ Book W (fun k => k = lb) rb 3 2 o2 ∧ LastAt W lb ls ld := by
                  obtain ⟨⟨q0, q1, q2, q3, q4⟩, q5, q6, q7⟩ := hR1
                  have zz : ∀ {p : Addr} {v : Value}, W1.cell? p = some v → W.cell? p = some v := fun {p v} hc => (hbW.cell (World.block_lt_of_cell? W1 _ hc)).trans hc
                  exact ⟨⟨zz q0, zz q1, zz q2, zz q3, zz q4⟩, q5.trans (hbW.mono q5.size), q6.below hbW (Nat.le_refl _), q7.below hbW (Nat.le_refl _)⟩
                have HR5 := hidI hR
                have HBt : Hid (behind last (s, d) = true) := hidI (by rw [HBeh.out, hlt]; simp)
                clear hR hR1 hbW CD HCV HD0 HL3 HBo3 hI
                obtain ⟨⟨k0, k1, l0, l1, _⟩, hBw, hBk, hLA⟩ := HR5.out
                have f0 := hLA.2.2.2.1
                have f1 := hLA.2.2.2.2
                have hL : sideLen 3 2 d = (len32 d : Nat) := by unfold len32 sideLen; split <;> (try split) <;> (try split) <;> rfl
                have hL30 := len32_le d
                obtain ⟨L, hLd⟩ : ∃ L, len32 d = L := ⟨_, rfl⟩
                have HLd := hidI hLd
                rw [hLd] at hL hL30
                have hkl : w3.heap.size ≠ lb := by omega
                have hkl2 : lb ≠ w3.heap.size := by omega
                have CL : Hid (∀ V, V = (W.setCell ⟨lb, 0, none⟩ (.string s)).setCell ⟨lb, 1, none⟩ (.int .u8 d) → Calls Try.prog 49 #[.pointer (some ⟨rb, 0, none⟩), .int .u8 d] V fun e w' => e = .returned (.int .i64 (L : Int)) ∧ Below w.heap.size w w' ∧ Book w' (fun k => k = lb) rb 3 2 o2 ∧ LastAt w' lb s d ∧ w'.cell? ⟨w3.heap.size, 0, none⟩ = some (.string s) ∧ w'.cell? ⟨w3.heap.size, 1, none⟩ = some (.int .u8 d)) := hidI (by
                  rintro V rfl
                  have hg : W.grownBy ((W.setCell ⟨lb, 0, none⟩ (.string s)).setCell ⟨lb, 1, none⟩ (.int .u8 d)) (some lb) := grown_trans (grown_cell W lb 0 _) (grown_cell _ lb 1 _)
                  have hB' := hBk.grown hg (N' := fun k => k = lb) (fun b hb => by cases hb; rfl) (fun k hk => by subst hk; exact Nat.lt_of_lt_of_le hLA.1 hg.size) (fun k hk => .inl hk)
                  refine (rlen_any rb 3 2 d _ hB'.2.2.1 hB'.2.2.2.1).mono ?_
                  rintro e w' ⟨rfl, rfl⟩
                  refine ⟨by rw [hL], Below.grown hBw hg hBw.size (fun k hk => by cases hk; exact hlw), hB', ⟨Nat.lt_of_lt_of_le hLA.1 hg.size, (World.cell?_setCell_other _ _ _ _ (by simp)).trans (World.cell?_setCell_same _ _ _ l0), World.cell?_setCell_same _ _ _ ((World.cell?_setCell_other _ _ _ _ (by simp)).trans l1), by rw [World.frozen?_setCell, World.frozen?_setCell]; exact f0, by rw [World.frozen?_setCell, World.frozen?_setCell]; exact f1⟩, kept_cell hg k0 (by simp; omega), kept_cell hg k1 (by simp; omega)⟩)
                clear hBw hBk hLA hL hLd
                go_wp2_with (go_at_call 49; refine Calls.mono (CL.out _ rfl) ?_; rintro e w5 ⟨rfl, hb5, hBk5, hL5, m0, m1⟩; refine Hid.out ?_)
                refine hidI ?_
                have HB5 := hidI hb5
                have HBk5 := hidI hBk5
                have HL5 := hidI hL5
                have HM0 := hidI m0
                have HM1 := hidI m1
                have wl : wrap64 (8 * (L : Int)) = 8 * (L : Int) := by unfold wrap64; omega
                clear hb5 hBk5 hL5 CL k0 k1 l0 l1 f0 f1 m0 m1 HR5
                by_cases h5 : ds.length < L * 8
                · have HF : Hid (runs bs = none) := hidI (by
                    rw [HRun.out, HEc.out]
                    refine runS_fail ?_
                    have h5' : (t'.drop z.toNat).length < len32 d * 8 := by rw [← HDS.out, HLd.out]; exact h5
                    have hDz : rdeclE os (textOf (t'.take z.toNat)) d q = 0 := by rw [HXt.out]; exact HDz.out
                    simp only [readO, if_neg H4.out, if_pos hDz, if_pos h5'])
                  have CT := hidI (takenNo (L * 8) (8 * (L : Int)) (by omega) qa qc ds w w5 HDs.out HB5.out h5)
                  go_wp2_with (go_at_call 85; refine Calls.mono CT.out ?_; rintro e w6 ⟨rfl, hb6⟩; have HB6 := hidI (HB5.out.trans (hb6.mono HB5.out.size)); clear hb6; refine Hid.out ?_)
                  refine hidI ?_
                  go_wp2
                  go_ret2
                  exact ⟨HB6.out, .inl ⟨HF.out, rfl⟩⟩
                have CT := hidI (takenOk (L * 8) (8 * (L : Int)) (by omega) qa qc ds w w5 HDs.out HB5.out (by omega))
                go_wp2_with (go_at_call 85; refine Calls.mono CT.out ?_; rintro e w6 ⟨vs, rs, xa, xc, ya, yc, HVS, HRS, rfl, hvs, hrs, hb6⟩; refine Hid.out ?_)
                refine hidI ?_
                have HB6 := hidI (HB5.out.trans (hb6.mono HB5.out.size))
                have HBk6 := hidI (HBk5.out.below hb6 (Nat.le_refl _))
                have HL6 := hidI (HL5.out.below hb6 (Nat.le_refl _))
                have hkw5 := World.block_lt_of_cell? w5 _ HM0.out
                simp only at hkw5
                have HN0 : Hid (w6.cell? ⟨w3.heap.size, 0, none⟩ = some (.string s)) := hidI ((hb6.cell (p := ⟨w3.heap.size, 0, none⟩) hkw5).trans HM0.out)
                have HN1 : Hid (w6.cell? ⟨w3.heap.size, 1, none⟩ = some (.int .u8 d)) := hidI ((hb6.cell (p := ⟨w3.heap.size, 1, none⟩) hkw5).trans HM1.out)
                have hkw6 : w3.heap.size < w6.heap.size := Nat.lt_of_lt_of_le hkw5 hb6.size
                have HVs := hidI hvs
                have HRsb := hidI hrs
                have HVl : Hid (vs.length = L * 8) := hidI (by rw [HVS.out, List.length_take]; omega)
                have HVby : Hid (∀ x ∈ vs, IsB x) := hidI fun x hx => HRby.out x (by rw [HVS.out] at hx; have := List.mem_of_mem_take hx; rw [HDS.out] at this; exact List.mem_of_mem_drop this)
                have HRby2 : Hid (∀ x ∈ rs, IsB x) := hidI fun x hx => HRby.out x (by rw [HRS.out] at hx; have := List.mem_of_mem_drop hx; rw [HDS.out] at this; exact List.mem_of_mem_drop this)
                have H5 := hidI h5
                clear hb6 hvs hrs CT wl HBk5 HL5 HM0 HM1 HB5 h5
                go_wp2
                refine vals_any w xa xc L vs w6 HB6.out HVs.out HVl.out (by omega) HVby.out ?_
                intro u21 u22 u104 u105 u106 u107 u108 u109 u110 u111 u112 u113 u114 u115 u116 u117 u118 u119 u120 u121 u122 u123 u124 u125 u126 u127 la lc wr hown hBy
                have HBy := hidI hBy
                clear hBy
                have n0 : wr.cell? ⟨w3.heap.size, 0, none⟩ = some (.string s) := (HBy.out.cell (p := ⟨w3.heap.size, 0, none⟩) hkw6).trans HN0.out
                have n1 : wr.cell? ⟨w3.heap.size, 1, none⟩ = some (.int .u8 d) := (HBy.out.cell (p := ⟨w3.heap.size, 1, none⟩) hkw6).trans HN1.out
                have HSee : Hid (Sees wr (.slice la L lc) (wordsL L vs)) := hidI (own_see (by rw [wordsL_len]; exact hown))
                have HB7 := hidI (HB6.out.trans (HBy.out.mono HB6.out.size))
                have HBk7 := hidI (HBk6.out.below HBy.out (Nat.le_refl _))
                have HL7 := hidI (HL6.out.below HBy.out (Nat.le_refl _))
                have hfn := (rdecl_ok HDz.out).2.2.2.1
                have hq1 := (rdecl_ok HDz.out).2.2.1
                have CLd := hidI (rloads_any (fun k => k = lb) rb 3 2 o2 s d (.slice la L lc) (wordsL L vs) wr HBk7.out (by rw [← Ho2.out, insO_len]; have := HOk.out.few; omega) (by
                  intro o ho
                  rw [← Ho2.out] at ho
                  rcases insO_mem ho with rfl | ho
                  · simp; have := len32_le d; omega
                  · rw [(HOk.out.each o ho).len]; have := len32_le o.side; omega) (by
                  rw [← Ho2.out]
                  exact insO_sorted _ _ HOk.out.sorted (findO_none hfn)) HSee.out)
                have hds8 : len32 d * 8 ≤ (t'.drop z.toNat).length := by have := H5.out; rw [← HDS.out, HLd.out]; omega
                have hDz : rdeclE os (textOf (t'.take z.toNat)) d q = 0 := by rw [HXt.out]; exact HDz.out
                have hww : wordsL (len32 d) (t'.drop z.toNat) = wordsL L vs := by
                  rw [HLd.out, HVS.out, ← HDS.out]
                  exact words_take L ds (by have := H5.out; omega)
                have hle : rloadE o2 s d (wordsL L vs) = if (wordsL L vs).all (rfit q) then 0 else 3 := by
                  rw [← Ho2.out, ins_load hfn (by rw [wordsL_len, HLd.out])]
                cases hall : (wordsL L vs).all (rfit q) with
                | true =>
                  rw [hall] at hle
                  have HRd : Hid (readO os cur = some (⟨s, d, q, wordsL L vs⟩, rs)) := hidI (by
                    have hall2 : (wordsL (len32 d) (t'.drop z.toNat)).all (rfit q) = true := by rw [hww]; exact hall
                    have hx : readO os (d :: q :: z :: t') = some (⟨textOf (t'.take z.toNat), d, q, wordsL (len32 d) (t'.drop z.toNat)⟩, (t'.drop z.toNat).drop (len32 d * 8)) := by
                      simp only [readO, if_neg H4.out, if_pos hDz, if_neg (Nat.not_lt.2 hds8), hall2]
                      rfl
                    rw [HEc.out, hx, HXt.out, hww, HLd.out, ← HDS.out, ← HRS.out])
                  have HUp : Hid (upO o2 s d (fun _ => wordsL L vs) = insO os ⟨s, d, q, wordsL L vs⟩) := hidI (by rw [← Ho2.out, ins_up hfn])
                  have CLd' : Hid (Calls Try.prog 76 #[.pointer (some ⟨rb, 0, none⟩), .agg #[.string s, .int .u8 d], .slice la L lc] wr fun e w' => e = .returned (.int .i64 0) ∧ Below w.heap.size w w' ∧ Book w' (fun k => k = lb) rb 3 2 (insO os ⟨s, d, q, wordsL L vs⟩) ∧ LastAt w' lb s d) := hidI (CLd.out.mono (by
                    rintro e w' ⟨rfl, _, p2⟩
                    obtain ⟨hg, hB'⟩ := p2 hle
                    rw [HUp.out] at hB'
                    exact ⟨by rw [hle]; rfl, Below.grown HB7.out hg HB7.out.size (fun k hk => by cases hk; have := Hrb.out; omega), hB', HL7.out.grown hg hlr⟩))
                  obtain ⟨qq1, qq2, _, qq4⟩ := enc_read HCb.out HRd.out
                  have HOk2 := hidI (HOk.out.ins qq1 qq2)
                  have HRun2 : Hid (runs bs = runS g (insO os ⟨s, d, q, wordsL L vs⟩) (some (s, d)) rs) := hidI (by
                    rw [HRun.out]
                    conv => lhs; unfold runS
                    rw [HRd.out]
                    simp only
                    rw [show One.ky ⟨s, d, q, wordsL L vs⟩ = (s, d) from rfl, HBt.out]
                    rfl)
                  clear hown CLd hle hall hww hDz hds8 hfn hq1 qq1 qq2 qq4
                  go_wp2_with (go_at_call 76; refine Calls.mono CLd'.out ?_; rintro e w8 ⟨rfl, hb8, hBk8, hL8⟩; refine Hid.out ?_)
                  refine hidI ?_
                  have HB8 := hidI hb8
                  have HBk8 := hidI hBk8
                  have HL8 := hidI hL8
                  clear hb8 hBk8 hL8 CLd' n0 n1
                  go_wp2
                  go_roundg g
                  case measure => omega
                  case rel => exact ⟨i + 1, rs, insO os ⟨s, d, q, wordsL L vs⟩, some (s, d), ya, yc, s, d, by omega, rfl, by go_num, HRsb, HRby2, HBk8, HOk2, HB8, HRun2, hidI (fun k => by simp [behind]), HL8⟩
                | false =>
                  rw [hall] at hle
                  have HF : Hid (runs bs = none) := hidI (by
                    rw [HRun.out, HEc.out]
                    refine runS_fail ?_
                    simp only [readO, if_neg H4.out, if_pos hDz, if_neg (Nat.not_lt.2 hds8), hww, hall]
                    rfl)
                  have CLd' : Hid (Calls Try.prog 76 #[.pointer (some ⟨rb, 0, none⟩), .agg #[.string s, .int .u8 d], .slice la L lc] wr fun e w' => e = .returned (.int .i64 3) ∧ Below w.heap.size w w') := hidI (CLd.out.mono (by
                    rintro e w' ⟨rfl, p1, _⟩
                    have h3 : rloadE o2 s d (wordsL L vs) = 3 := hle
                    exact ⟨by rw [h3], HB7.out.trans ((p1 (by rw [h3]; decide)).mono HB7.out.size)⟩))
                  clear hown CLd hle hall hww hDz hds8 hfn hq1
                  go_wp2_with (go_at_call 76; refine Calls.mono CLd'.out ?_; rintro e w8 ⟨rfl, hb8⟩; refine Hid.out ?_)
                  refine hidI ?_
                  have HB8 := hidI hb8
                  clear hb8 CLd' n0 n1
                  go_wp2
                  go_ret2
                  exact ⟨HB8.out, .inl ⟨HF.out, rfl⟩⟩
              | false =>
                have HF : Hid (runs bs = none) := hidI (by
                  rw [HRun.out, HEc.out]
                  refine runS_order ?_
                  rw [HXt.out, HBeh.out, hlt, decide_eq_false hi0]
                  rfl)
                refine reg16C (lt := false) hI (by omega) (fun y => (y.cell? ⟨w3.heap.size, 0, none⟩ = some (.string s) ∧ y.cell? ⟨w3.heap.size, 1, none⟩ = some (.int .u8 d) ∧ y.cell? ⟨lb, 0, none⟩ = some (.string ls) ∧ y.cell? ⟨lb, 1, none⟩ = some (.int .u8 ld) ∧ y.cell? ⟨hb, ho + 1, none⟩ = some (.int .u8 q)) ∧ Below w.heap.size w y ∧ Book y (fun k => k = lb) rb 3 2 o2 ∧ LastAt y lb ls ld) ⟨by go_simp, by go_simp, (HL3.out.below (by (repeat (first | exact Below.refl _ _ | assumption | refine Below.drew ?_ | refine Below.alloc ?_ (by first | omega | (simp; done) | (simp; omega)) _ | refine Below.setCell ?_ (by first | omega | (simp; done) | (simp; omega)) _))) (Nat.le_refl _)).2.1, (HL3.out.below (by (repeat (first | exact Below.refl _ _ | assumption | refine Below.drew ?_ | refine Below.alloc ?_ (by first | omega | (simp; done) | (simp; omega)) _ | refine Below.setCell ?_ (by first | omega | (simp; done) | (simp; omega)) _))) (Nat.le_refl _)).2.2.1, ((HB3.out.trans (Below.mono (B := w3.heap.size) (by (repeat (first | exact Below.refl _ _ | assumption | refine Below.drew ?_ | refine Below.alloc ?_ (by first | omega | (simp; done) | (simp; omega)) _ | refine Below.setCell ?_ (by first | omega | (simp; done) | (simp; omega)) _))) hsz3)).cell (p := ⟨hb, ho + 1, none⟩) hhb).trans HC1.out⟩ (CD.out _ (by (repeat (first | exact Below.refl _ _ | assumption | refine Below.drew ?_ | refine Below.alloc ?_ (by first | omega | (simp; done) | (simp; omega)) _ | refine Below.setCell ?_ (by first | omega | (simp; done) | (simp; omega)) _))) (by go_simp) (by go_simp)) (fun w' h => h.1) (fun w' _ => hlt ▸ rbefore_any ls s ld d w') (fun _ _ _ _ _ h => h) ?_
                intro W1 W t73 t74 t75 t76 t77 t78 t79 t80 t81 t82 t83 t84 t85 t86 t87 t88 hR hbW
                have HBW := hidI (hR.2.1.trans (hbW.mono hR.2.1.size))
                clear hR hbW CD
                go_wp2
                go_ret2
                exact ⟨HBW.out, .inl ⟨HF.out, rfl⟩⟩
          · have HF : Hid (runs bs = none) := hidI (by
              rw [HRun.out, HEc.out]
              refine runS_fail ?_
              have h4 := H4.out
              have hD2 := hD
              rw [← HXt.out] at hD2
              simp [readO, h4, hD2])
            obtain ⟨D, hDD⟩ : ∃ D, rdeclE os s d q = D := ⟨_, rfl⟩
            have CD : Hid (∀ V, Below w3.heap.size w3 V → V.cell? ⟨w3.heap.size, 0, none⟩ = some (.string s) → V.cell? ⟨w3.heap.size, 1, none⟩ = some (.int .u8 d) → Calls Try.prog 70 #[.pointer (some ⟨rb, 0, none⟩), .agg #[.string s, .int .u8 d], .int .u8 q] V fun e w' => e = .returned (.int .i64 D) ∧ ((w'.cell? ⟨w3.heap.size, 0, none⟩ = some (.string s) ∧ w'.cell? ⟨w3.heap.size, 1, none⟩ = some (.int .u8 d) ∧ w'.cell? ⟨lb, 0, none⟩ = some (.string ls) ∧ w'.cell? ⟨lb, 1, none⟩ = some (.int .u8 ld) ∧ w'.cell? ⟨hb, ho + 1, none⟩ = some (.int .u8 q)) ∧ Below w.heap.size w w')) := hidI fun V hV k0 k1 => by
              have hBV := HBo3.out.below hV (Nat.le_refl _)
              have hkV := World.block_lt_of_cell? V _ k0
              simp only at hkV
              have hBel := HB3.out.trans (hV.mono hsz3)
              refine (rdecl_any (fun k => k = lb) rb 3 2 os s d q V hBV HOk.out.few hd.1 hq.1 (len32 d) hL (len32_le d)).mono ?_
              rintro e w' ⟨rfl, p1, _⟩
              have hbb := p1 hD
              rw [hDD]
              have hL' := (HL3.out.below hV (Nat.le_refl _)).below hbb (Nat.le_refl _)
              have hBel' := hBel.trans (hbb.mono hBel.size)
              exact ⟨rfl, ⟨(hbb.cell (p := ⟨w3.heap.size, 0, none⟩) hkV).trans k0, (hbb.cell (p := ⟨w3.heap.size, 1, none⟩) hkV).trans k1, hL'.2.1, hL'.2.2.1, (hBel'.cell (p := ⟨hb, ho + 1, none⟩) hhb).trans HC1.out⟩, hBel'⟩
            have hDn : ¬ D = 0 := by rw [← hDD]; exact hD
            clear hDD hD hL
            refine reg16A hDn (by omega) (fun y => (y.cell? ⟨w3.heap.size, 0, none⟩ = some (.string s) ∧ y.cell? ⟨w3.heap.size, 1, none⟩ = some (.int .u8 d) ∧ y.cell? ⟨lb, 0, none⟩ = some (.string ls) ∧ y.cell? ⟨lb, 1, none⟩ = some (.int .u8 ld) ∧ y.cell? ⟨hb, ho + 1, none⟩ = some (.int .u8 q)) ∧ Below w.heap.size w y) ⟨by go_simp, by go_simp, (HL3.out.below (by (repeat (first | exact Below.refl _ _ | assumption | refine Below.drew ?_ | refine Below.alloc ?_ (by first | omega | (simp; done) | (simp; omega)) _ | refine Below.setCell ?_ (by first | omega | (simp; done) | (simp; omega)) _))) (Nat.le_refl _)).2.1, (HL3.out.below (by (repeat (first | exact Below.refl _ _ | assumption | refine Below.drew ?_ | refine Below.alloc ?_ (by first | omega | (simp; done) | (simp; omega)) _ | refine Below.setCell ?_ (by first | omega | (simp; done) | (simp; omega)) _))) (Nat.le_refl _)).2.2.1, ((HB3.out.trans (Below.mono (B := w3.heap.size) (by (repeat (first | exact Below.refl _ _ | assumption | refine Below.drew ?_ | refine Below.alloc ?_ (by first | omega | (simp; done) | (simp; omega)) _ | refine Below.setCell ?_ (by first | omega | (simp; done) | (simp; omega)) _))) hsz3)).cell (p := ⟨hb, ho + 1, none⟩) hhb).trans HC1.out⟩ (CD.out _ (by (repeat (first | exact Below.refl _ _ | assumption | refine Below.drew ?_ | refine Below.alloc ?_ (by first | omega | (simp; done) | (simp; omega)) _ | refine Below.setCell ?_ (by first | omega | (simp; done) | (simp; omega)) _))) (by go_simp) (by go_simp)) (fun w' h => h.1) (fun _ _ _ _ _ h => h) ?_
            intro W t73 t74 t75 t76 t77 t78 t79 t80 t81 t82 t83 t84 t85 t86 t87 t88 hR
            have HBW := hidI hR.2
            clear hR CD
            go_wp2
            go_ret2
            exact ⟨HBW.out, .inl ⟨HF.out, rfl⟩⟩
end Go.Proofs.Ytbjoljokdjgbnab
