/-
  The laws of mail, out of what the program's calls come to (premises): MailBytes.
-/
import Derived.Test.YtdfieflcclbgjaaMLaws
import Derived.Test.YtdfieflcclbgjaaBytesP
import Derived.Test.YtdfieflcclbgjaaOpenM
namespace Go.Proofs.Ytdfieflcclbgjaa
open Go.RowKit Go.Deep Go.MapKept Go.Sort
def encRes (xs : List Msg) : List Int × Int := if xs.all okM = true then (encMs xs, 0) else ([], 2)
def decRes (bs : List Int) : List Msg × Int × Int := match decs bs with
  | .error p => ([], (p : Int), 3)
  | .ok ms => (ms, 0, 0)
/-- Bytes, and the error. -/
def BytesOut (w : World) (r : List Int × Int) (e : Ending) (w' : World) : Prop := ∃ (a : Option Addr) (cap : Nat), e = .returned (.tuple #[.slice a r.1.length cap, .int .i64 r.2]) ∧ SB w' a cap r.1 ∧ Below w.heap.size w w'
def MsgsOut (w : World) (r : List Msg × Int × Int) (e : Ending) (w' : World) : Prop := ∃ v, e = .returned (.tuple #[v, .int .i64 r.2.1, .int .i64 r.2.2]) ∧ SeesM w' v r.1 ∧ Below w.heap.size w w'
theorem sb_nil (w : World) : SB w none 0 [] := ⟨Nat.le_refl _, .inl rfl⟩
theorem renc_res (w : World) (v : Value) (xs : List Msg) (hv : SeesM w v xs) (hl : xs.length ≤ 500) : Calls Try.prog 24 #[v] w (BytesOut w (encRes xs)) := by
  refine (rencode_any w v xs hv hl).mono ?_
  rintro e w' (⟨h1, rfl, hb⟩ | ⟨h1, u, rfl, hs, hb, hr⟩)
  · unfold encRes
    rw [if_neg (by simp [h1])]
    exact ⟨none, 0, rfl, sb_nil _, hb⟩
  · unfold encRes
    rw [if_pos h1]
    obtain ⟨_, a, cap, rfl, hs⟩ := hs
    obtain ⟨_, _, _, he, hc⟩ := hr
    cases he
    refine ⟨a, cap, rfl, ⟨hc, ?_⟩, hb⟩
    rcases hs with h0 | ⟨b, off, rfl, hs⟩
    · exact .inl h0
    · exact .inr ⟨b, off, rfl, fun j z hz => hs j _ (cellsB_get hz)⟩
theorem rdec_res (w : World) (a : Option Addr) (cap : Nat) (bs : List Int) (hS : SB w a cap bs) (hby : ∀ x ∈ bs, IsB x) (hl : bs.length ≤ 900) : Calls Try.prog 26 #[.slice a bs.length cap] w (MsgsOut w (decRes bs)) := by
  refine (rdecode_any w a cap bs hS hby hl).mono ?_
  rintro e w' ⟨hb, h⟩
  unfold decRes
  cases hd : decs bs with
  | error p => rw [hd] at h; exact ⟨_, h, SeesM.nil, hb⟩
  | ok ms => rw [hd] at h; obtain ⟨v, he, hs⟩ := h; exact ⟨v, he, hs, hb⟩
def PEncode : Prop := ∀ (w : World) (v : Value) (xs : List Msg), SeesM w v xs → xs.length ≤ 500 → Calls Try.prog 23 #[v] w (BytesOut w (encRes xs))
def PDecode : Prop := ∀ (w : World) (a : Option Addr) (cap : Nat) (bs : List Int), SB w a cap bs → (∀ x ∈ bs, IsB x) → bs.length ≤ 900 → Calls Try.prog 25 #[.slice a bs.length cap] w (MsgsOut w (decRes bs))
theorem dec_len (L : Nat) : ∀ (f i : Nat) (bs : List Int) (ms : List Msg), decM L f i bs = .ok ms → ms.length ≤ f
  | 0, _, _, ms, h => by simp only [decM, Except.ok.injEq] at h; subst h; simp
  | f + 1, _, [], ms, h => by simp only [decM, Except.ok.injEq] at h; subst h; simp
  | f + 1, i, t :: r, ms, h => by
    rw [decM] at h
    split at h
    · cases h
    · split at h
      · cases h
      · split at h
        · cases h
        · split at h
          · cases h
          · rename_i ns hns
            cases h
            have := dec_len L f _ _ ns hns
            simp; omega
set_option maxRecDepth 100000 in
set_option maxHeartbeats 2000000 in
theorem mailBytes_law (hL : PLive) (h1 : PEncode) (h2 : PDecode) (w : World) (v : Value) (xs0 : List Msg) (hv : SeesM w v xs0) (hin : ∀ x ∈ xs0, x.inr) (ba : Option Addr) (bc : Nat) (bs0 : List Int) (hS : SB w ba bc bs0) (hby : ∀ z ∈ bs0, IsB z) :
    Calls Try.prog 5 #[v, .slice ba bs0.length bc] w fun e w' => e = .returned (.bool true) ∧ Below w.heap.size w w' := by
  have C0 := hidI (few_any w v xs0 hv)
  obtain ⟨xs, hxs⟩ : ∃ xs, xs0.take 50 = xs := ⟨_, rfl⟩
  have hl : xs.length ≤ 50 := by rw [← hxs, List.length_take]; omega
  have hin' : ∀ x ∈ xs, x.inr := fun x hx => hin x (by rw [← hxs] at hx; exact List.mem_of_mem_take hx)
  rw [hxs] at C0
  have HL := hidI hL
  have H1 := hidI h1
  have H2 := hidI h2
  -- the bytes, cut
  obtain ⟨bs, hbs⟩ : ∃ bs, bs0.take 200 = bs := ⟨_, rfl⟩
  have hbl : bs.length ≤ 200 := by rw [← hbs, List.length_take]; omega
  have HBy : Hid (∀ z ∈ bs, IsB z) := hidI fun z hz => hby z (by rw [← hbs] at hz; exact List.mem_of_mem_take hz)
  have hSt : SB w ba bc bs := by
    refine ⟨by rw [← hbs, List.length_take]; have := hS.1; omega, ?_⟩
    rcases hS.2 with h0 | ⟨b, off, rfl, hc⟩
    · exact .inl (by rw [← hbs, List.length_take]; omega)
    · refine .inr ⟨b, off, rfl, fun j z hz => hc j z ?_⟩
      rw [← hbs, List.getElem?_take] at hz
      split at hz
      · exact hz
      · cases hz
  have HBS : Hid (∀ y, Below w.heap.size w y → SB y ba bc bs) := hidI fun y hy => hSt.below hy (Nat.le_refl _)
  have hba : 200 < bs0.length → ∃ b off, ba = some ⟨b, off, none⟩ := fun h => by
    rcases hS.2 with h0 | ⟨b, off, rfl, _⟩
    · omega
    · exact ⟨b, off, rfl⟩
  have hcap := hS.1
  obtain ⟨n0, hn0⟩ : ∃ n0, bs0.length = n0 := ⟨_, rfl⟩
  obtain ⟨bl, hbl2⟩ : ∃ bl, bs.length = bl := ⟨_, rfl⟩
  have hbl3 : bl = min 200 n0 := by rw [← hbl2, ← hbs, List.length_take, hn0]
  have HBL := hidI hbl2
  rw [hn0] at hcap hba ⊢
  -- what the calls answer
  obtain ⟨eb, heb⟩ : ∃ eb, (encRes xs).1 = eb := ⟨_, rfl⟩
  obtain ⟨eE, heE⟩ : ∃ eE, (encRes xs).2 = eE := ⟨_, rfl⟩
  obtain ⟨dm, hdm⟩ : ∃ dm, (decRes bs).1 = dm := ⟨_, rfl⟩
  obtain ⟨d2, hd2⟩ : ∃ d2, (decRes bs).2.1 = d2 := ⟨_, rfl⟩
  obtain ⟨d3, hd3⟩ : ∃ d3, (decRes bs).2.2 = d3 := ⟨_, rfl⟩
  have HE1 := hidI heb
  have HE2 := hidI heE
  have HD1 := hidI hdm
  have HD2 := hidI hd2
  have HD3 := hidI hd3
  obtain ⟨el, hel⟩ : ∃ el, eb.length = el := ⟨_, rfl⟩
  have HEL := hidI hel
  have hell : el ≤ 500 := by
    rw [← hel, ← heb]
    unfold encRes
    split
    · simp only [encMs_len]; omega
    · simp
  have hdl : dm.length ≤ 30 := by
    rw [← hdm]
    unfold decRes
    cases hd : decs bs with
    | error p => simp
    | ok ms =>
      have := dec_len _ _ _ _ ms hd
      simp only
      omega
  have HIn := hidI hin'
  have HHD := hidI hdm
  rw [heE.symm.trans heE] at heE
  have hcE : (xs.all okM = true ∧ eE = 0) ∨ (¬ xs.all okM = true ∧ eE = 2) := by
    rw [← HE2.out]
    unfold encRes
    by_cases h : xs.all okM = true
    · exact .inl ⟨h, by rw [if_pos h]⟩
    · exact .inr ⟨h, by rw [if_neg h]⟩
  have hcD : (∃ ms, decs bs = .ok ms ∧ d3 = 0) ∨ d3 = 3 := by
    rw [← HD3.out]
    unfold decRes
    cases hd : decs bs with
    | error p => exact .inr rfl
    | ok ms => exact .inl ⟨ms, rfl, rfl⟩
  clear hxs hv hin hin' hL h1 h2 hbs hSt hS hby hn0 hbl2 heb heE hdm hd2 hd3 hel
  rcases hcE with ⟨hall, rfl⟩ | ⟨hall, rfl⟩
  · have hok : ∀ x ∈ xs, okM x = true ∧ In64 x.val := fun x hx => ⟨List.all_eq_true.1 hall x hx, (HIn.out x hx).2.2⟩
    have hebe : eb = encMs xs := by rw [← HE1.out]; unfold encRes; rw [if_pos hall]
    have HEB : Hid (∀ z ∈ eb, IsB z) := hidI (by rw [hebe]; exact encMs_isB fun x hx => (hok x hx).1)
    have HDE : Hid (decRes eb = (xs, 0, 0)) := hidI (by unfold decRes; rw [hebe, decs_enc hok])
    clear hok hebe hall
    rcases hcD with ⟨ms, hms, rfl⟩ | rfl
    · have hED : encRes dm = (bs, 0) := by
        have hdmm : dm = ms := by rw [← HD1.out]; unfold decRes; rw [hms]
        obtain ⟨g1, g2⟩ := enc_decs HBy.out hms
        unfold encRes
        rw [hdmm, if_pos (List.all_eq_true.2 fun x hx => (g2 x hx).1), g1]
      have HED := hidI hED
      clear hms hED
      by_cases h200 : 200 < n0
      · have hb200 : bl = 200 := by omega
        obtain ⟨b, off, rfl⟩ := hba h200
        have k1 : (200 : Int) < (n0 : Int) := by omega
        have k2 : (200 : Int) ≤ (bc : Int) := by omega
        have k3 : 200 ≤ bc := by omega
        subst hb200
        clear hbl3 hba
        go_enter Try.func5, Try.ntmps5
        go_wp2_with (go_at_call 9; refine Calls.mono C0.out ?_; rintro e w1 ⟨v1, rfl, hs1, rfl⟩; refine Hid.out ?_)
        refine hidI ?_
        have HS : Hid (∀ y, Below w.heap.size w y → SeesM y v1 xs) := hidI fun y hy => hs1.below hy (Nat.le_refl _)
        clear hs1 C0
        have C := hidI (H1.out w v1 xs (HS.out _ (Below.refl _ _)) (by omega))
        unfold BytesOut at C
        rw [HE1.out, HE2.out] at C
        rw [HEL.out] at C
        go_wp2_with (go_at_call 23; refine Calls.mono C.out ?_; rintro e w2 ⟨xa, xc, rfl, hs, hb⟩; refine Hid.out ?_)
        refine hidI ?_
        have B2 := hidI hb
        have HX : Hid (∀ y, Below w2.heap.size w2 y → SB y xa xc eb) := hidI fun y hy => hs.below hy (Nat.le_refl _)
        clear hs hb C
        have C := hidI (renc_res w2 v1 xs (HS.out _ B2.out) (by omega))
        unfold BytesOut at C
        rw [HE1.out, HE2.out] at C
        rw [HEL.out] at C
        go_wp2_with (go_at_call 24; refine Calls.mono C.out ?_; rintro e w3 ⟨ya, yc, rfl, hs, hb⟩; refine Hid.out ?_)
        refine hidI ?_
        have B3 := hidI (B2.out.trans (hb.mono B2.out.size))
        have HY : Hid (∀ y, Below w3.heap.size w3 y → SB y ya yc eb) := hidI fun y hy => hs.below hy (Nat.le_refl _)
        have X3 := hidI hb
        clear hs hb C
        have C := hidI (H2.out w3 (some ⟨b, off, none⟩) bc bs (HBS.out _ B3.out) HBy.out (by omega))
        unfold MsgsOut at C
        rw [HD1.out, HD2.out, HD3.out] at C
        rw [HBL.out] at C
        go_wp2_with (go_at_call 25; refine Calls.mono C.out ?_; rintro e w4 ⟨m4, rfl, hs, hb⟩; refine Hid.out ?_)
        refine hidI ?_
        have B4 := hidI (B3.out.trans (hb.mono B3.out.size))
        have X4 := hidI (X3.out.trans (hb.mono X3.out.size))
        have Y4 := hidI hb
        have HMM : Hid (∀ y, Below w4.heap.size w4 y → SeesM y m4 dm) := hidI fun y hy => hs.below hy (Nat.le_refl _)
        clear hs hb C X3
        have C := hidI (rdec_res w4 (some ⟨b, off, none⟩) bc bs (HBS.out _ B4.out) HBy.out (by omega))
        unfold MsgsOut at C
        rw [HD1.out, HD2.out, HD3.out] at C
        rw [HBL.out] at C
        go_wp2_with (go_at_call 26; refine Calls.mono C.out ?_; rintro e w5 ⟨m5, rfl, hs, hb⟩; refine Hid.out ?_)
        refine hidI ?_
        have B5 := hidI (B4.out.trans (hb.mono B4.out.size))
        have X5 := hidI (X4.out.trans (hb.mono X4.out.size))
        have Y5 := hidI (Y4.out.trans (hb.mono Y4.out.size))
        have M5 := hidI hb
        have HNN : Hid (∀ y, Below w5.heap.size w5 y → SeesM y m5 dm) := hidI fun y hy => hs.below hy (Nat.le_refl _)
        clear hs hb C X4 Y4
        -- what was encoded is decoded
        have C := hidI (H2.out w5 xa xc eb (HX.out _ X5.out) HEB.out (by have := HEL.out; omega))
        unfold MsgsOut at C
        rw [HDE.out] at C
        simp only at C
        rw [HEL.out] at C
        go_wp2_with (go_at_call 25; refine Calls.mono C.out ?_; rintro e w6 ⟨m6, rfl, hs, hb⟩; refine Hid.out ?_)
        refine hidI ?_
        have B6 := hidI (B5.out.trans (hb.mono B5.out.size))
        have X6 := hidI (X5.out.trans (hb.mono X5.out.size))
        have Y6 := hidI (Y5.out.trans (hb.mono Y5.out.size))
        have M6 := hidI (M5.out.trans (hb.mono M5.out.size))
        have N6 := hidI hb
        have S6 := hidI hs
        clear hs hb C
        have C := hidI (rsame_eq w6 m6 v1 xs S6.out (HS.out _ B6.out) (by omega))
        go_wp2_with (go_at_call 11; refine Calls.mono C.out ?_; rintro e w7 ⟨rfl, hb⟩; refine Hid.out ?_)
        refine hidI ?_
        have B7 := hidI (B6.out.trans (hb.mono B6.out.size))
        have X7 := hidI (X6.out.trans (hb.mono X6.out.size))
        have Y7 := hidI (Y6.out.trans (hb.mono Y6.out.size))
        have M7 := hidI (M6.out.trans (hb.mono M6.out.size))
        have N7 := hidI (N6.out.trans (hb.mono N6.out.size))
        clear hb C S6 X6 Y6 M6 N6 B6
        -- what was decoded is encoded
        have C := hidI (H1.out w7 m4 dm (HMM.out _ M7.out) (by omega))
        unfold BytesOut at C
        rw [HED.out] at C
        simp only at C
        rw [HBL.out] at C
        go_wp2_with (go_at_call 23; refine Calls.mono C.out ?_; rintro e w8 ⟨za, zc, rfl, hs, hb⟩; refine Hid.out ?_)
        refine hidI ?_
        have B8 := hidI (B7.out.trans (hb.mono B7.out.size))
        have X8 := hidI (X7.out.trans (hb.mono X7.out.size))
        have Y8 := hidI (Y7.out.trans (hb.mono Y7.out.size))
        have M8 := hidI (M7.out.trans (hb.mono M7.out.size))
        have N8 := hidI (N7.out.trans (hb.mono N7.out.size))
        have t1 := text_cut hs
        have t2 := text_cut (HBS.out _ B8.out)
        rw [HBL.out] at t1 t2
        clear hs hb C
        have kb : ((textOf bs).toList == (textOf bs).toList) = true := by simp
        have kb2 : ((textOf bs).toList != (textOf bs).toList) = false := by simp
        have C := hidI (HL.out w8)
        go_wp2_with (go_at_call 10; refine Calls.mono C.out ?_; rintro e w9 ⟨rfl, hb⟩; refine Hid.out ?_)
        refine hidI ?_
        clear t1 t2 kb kb2
        have B9 := hidI (B8.out.trans (hb.mono B8.out.size))
        have t1 := text_cut (HX.out _ (X8.out.trans (hb.mono X8.out.size)))
        have t2 := text_cut (HY.out _ (Y8.out.trans (hb.mono Y8.out.size)))
        rw [HEL.out] at t1 t2
        have C := hidI (rsame_eq w9 m4 m5 dm (HMM.out _ (M8.out.trans (hb.mono M8.out.size))) (HNN.out _ (N8.out.trans (hb.mono N8.out.size))) (by omega))
        clear hb
        have k1 : ((textOf eb).toList == (textOf eb).toList) = true := by simp
        have k3 : (d2 == d2) = true := by simp
        go_wp2_with (go_at_call 11; refine Calls.mono C.out ?_; rintro e w10 ⟨rfl, hb⟩; refine Hid.out ?_)
        refine hidI ?_
        have B10 := hidI (B9.out.trans (hb.mono B9.out.size))
        clear hb C t1 t2
        go_wp2
        go_ret
        exact ⟨rfl, B10.out⟩
      · have hb200 : n0 = bl := by omega
        have k1 : decide ((200 : Int) < (bl : Int)) = false := by rw [decide_eq_false_iff_not]; omega
        have k2 : decide (200 < bl) = false := by rw [decide_eq_false_iff_not]; omega
        subst hb200
        clear hbl3 hba h200
        go_enter Try.func5, Try.ntmps5
        go_wp2_with (go_at_call 9; refine Calls.mono C0.out ?_; rintro e w1 ⟨v1, rfl, hs1, rfl⟩; refine Hid.out ?_)
        refine hidI ?_
        have HS : Hid (∀ y, Below w.heap.size w y → SeesM y v1 xs) := hidI fun y hy => hs1.below hy (Nat.le_refl _)
        clear hs1 C0
        have C := hidI (H1.out w v1 xs (HS.out _ (Below.refl _ _)) (by omega))
        unfold BytesOut at C
        rw [HE1.out, HE2.out] at C
        rw [HEL.out] at C
        go_wp2_with (go_at_call 23; refine Calls.mono C.out ?_; rintro e w2 ⟨xa, xc, rfl, hs, hb⟩; refine Hid.out ?_)
        refine hidI ?_
        have B2 := hidI hb
        have HX : Hid (∀ y, Below w2.heap.size w2 y → SB y xa xc eb) := hidI fun y hy => hs.below hy (Nat.le_refl _)
        clear hs hb C
        have C := hidI (renc_res w2 v1 xs (HS.out _ B2.out) (by omega))
        unfold BytesOut at C
        rw [HE1.out, HE2.out] at C
        rw [HEL.out] at C
        go_wp2_with (go_at_call 24; refine Calls.mono C.out ?_; rintro e w3 ⟨ya, yc, rfl, hs, hb⟩; refine Hid.out ?_)
        refine hidI ?_
        have B3 := hidI (B2.out.trans (hb.mono B2.out.size))
        have HY : Hid (∀ y, Below w3.heap.size w3 y → SB y ya yc eb) := hidI fun y hy => hs.below hy (Nat.le_refl _)
        have X3 := hidI hb
        clear hs hb C
        have C := hidI (H2.out w3 ba bc bs (HBS.out _ B3.out) HBy.out (by omega))
        unfold MsgsOut at C
        rw [HD1.out, HD2.out, HD3.out] at C
        rw [HBL.out] at C
        go_wp2_with (go_at_call 25; refine Calls.mono C.out ?_; rintro e w4 ⟨m4, rfl, hs, hb⟩; refine Hid.out ?_)
        refine hidI ?_
        have B4 := hidI (B3.out.trans (hb.mono B3.out.size))
        have X4 := hidI (X3.out.trans (hb.mono X3.out.size))
        have Y4 := hidI hb
        have HMM : Hid (∀ y, Below w4.heap.size w4 y → SeesM y m4 dm) := hidI fun y hy => hs.below hy (Nat.le_refl _)
        clear hs hb C X3
        have C := hidI (rdec_res w4 ba bc bs (HBS.out _ B4.out) HBy.out (by omega))
        unfold MsgsOut at C
        rw [HD1.out, HD2.out, HD3.out] at C
        rw [HBL.out] at C
        go_wp2_with (go_at_call 26; refine Calls.mono C.out ?_; rintro e w5 ⟨m5, rfl, hs, hb⟩; refine Hid.out ?_)
        refine hidI ?_
        have B5 := hidI (B4.out.trans (hb.mono B4.out.size))
        have X5 := hidI (X4.out.trans (hb.mono X4.out.size))
        have Y5 := hidI (Y4.out.trans (hb.mono Y4.out.size))
        have M5 := hidI hb
        have HNN : Hid (∀ y, Below w5.heap.size w5 y → SeesM y m5 dm) := hidI fun y hy => hs.below hy (Nat.le_refl _)
        clear hs hb C X4 Y4
        -- what was encoded is decoded
        have C := hidI (H2.out w5 xa xc eb (HX.out _ X5.out) HEB.out (by have := HEL.out; omega))
        unfold MsgsOut at C
        rw [HDE.out] at C
        simp only at C
        rw [HEL.out] at C
        go_wp2_with (go_at_call 25; refine Calls.mono C.out ?_; rintro e w6 ⟨m6, rfl, hs, hb⟩; refine Hid.out ?_)
        refine hidI ?_
        have B6 := hidI (B5.out.trans (hb.mono B5.out.size))
        have X6 := hidI (X5.out.trans (hb.mono X5.out.size))
        have Y6 := hidI (Y5.out.trans (hb.mono Y5.out.size))
        have M6 := hidI (M5.out.trans (hb.mono M5.out.size))
        have N6 := hidI hb
        have S6 := hidI hs
        clear hs hb C
        have C := hidI (rsame_eq w6 m6 v1 xs S6.out (HS.out _ B6.out) (by omega))
        go_wp2_with (go_at_call 11; refine Calls.mono C.out ?_; rintro e w7 ⟨rfl, hb⟩; refine Hid.out ?_)
        refine hidI ?_
        have B7 := hidI (B6.out.trans (hb.mono B6.out.size))
        have X7 := hidI (X6.out.trans (hb.mono X6.out.size))
        have Y7 := hidI (Y6.out.trans (hb.mono Y6.out.size))
        have M7 := hidI (M6.out.trans (hb.mono M6.out.size))
        have N7 := hidI (N6.out.trans (hb.mono N6.out.size))
        clear hb C S6 X6 Y6 M6 N6 B6
        -- what was decoded is encoded
        have C := hidI (H1.out w7 m4 dm (HMM.out _ M7.out) (by omega))
        unfold BytesOut at C
        rw [HED.out] at C
        simp only at C
        rw [HBL.out] at C
        go_wp2_with (go_at_call 23; refine Calls.mono C.out ?_; rintro e w8 ⟨za, zc, rfl, hs, hb⟩; refine Hid.out ?_)
        refine hidI ?_
        have B8 := hidI (B7.out.trans (hb.mono B7.out.size))
        have X8 := hidI (X7.out.trans (hb.mono X7.out.size))
        have Y8 := hidI (Y7.out.trans (hb.mono Y7.out.size))
        have M8 := hidI (M7.out.trans (hb.mono M7.out.size))
        have N8 := hidI (N7.out.trans (hb.mono N7.out.size))
        have t1 := text_cut hs
        have t2 := text_cut (HBS.out _ B8.out)
        rw [HBL.out] at t1 t2
        clear hs hb C
        have kb : ((textOf bs).toList == (textOf bs).toList) = true := by simp
        have kb2 : ((textOf bs).toList != (textOf bs).toList) = false := by simp
        have C := hidI (HL.out w8)
        go_wp2_with (go_at_call 10; refine Calls.mono C.out ?_; rintro e w9 ⟨rfl, hb⟩; refine Hid.out ?_)
        refine hidI ?_
        clear t1 t2 kb kb2
        have B9 := hidI (B8.out.trans (hb.mono B8.out.size))
        have t1 := text_cut (HX.out _ (X8.out.trans (hb.mono X8.out.size)))
        have t2 := text_cut (HY.out _ (Y8.out.trans (hb.mono Y8.out.size)))
        rw [HEL.out] at t1 t2
        have C := hidI (rsame_eq w9 m4 m5 dm (HMM.out _ (M8.out.trans (hb.mono M8.out.size))) (HNN.out _ (N8.out.trans (hb.mono N8.out.size))) (by omega))
        clear hb
        have k1 : ((textOf eb).toList == (textOf eb).toList) = true := by simp
        have k3 : (d2 == d2) = true := by simp
        go_wp2_with (go_at_call 11; refine Calls.mono C.out ?_; rintro e w10 ⟨rfl, hb⟩; refine Hid.out ?_)
        refine hidI ?_
        have B10 := hidI (B9.out.trans (hb.mono B9.out.size))
        clear hb C t1 t2
        go_wp2
        go_ret
        exact ⟨rfl, B10.out⟩
    · skip
      by_cases h200 : 200 < n0
      · have hb200 : bl = 200 := by omega
        obtain ⟨b, off, rfl⟩ := hba h200
        have k1 : (200 : Int) < (n0 : Int) := by omega
        have k2 : (200 : Int) ≤ (bc : Int) := by omega
        have k3 : 200 ≤ bc := by omega
        subst hb200
        clear hbl3 hba
        go_enter Try.func5, Try.ntmps5
        go_wp2_with (go_at_call 9; refine Calls.mono C0.out ?_; rintro e w1 ⟨v1, rfl, hs1, rfl⟩; refine Hid.out ?_)
        refine hidI ?_
        have HS : Hid (∀ y, Below w.heap.size w y → SeesM y v1 xs) := hidI fun y hy => hs1.below hy (Nat.le_refl _)
        clear hs1 C0
        have C := hidI (H1.out w v1 xs (HS.out _ (Below.refl _ _)) (by omega))
        unfold BytesOut at C
        rw [HE1.out, HE2.out] at C
        rw [HEL.out] at C
        go_wp2_with (go_at_call 23; refine Calls.mono C.out ?_; rintro e w2 ⟨xa, xc, rfl, hs, hb⟩; refine Hid.out ?_)
        refine hidI ?_
        have B2 := hidI hb
        have HX : Hid (∀ y, Below w2.heap.size w2 y → SB y xa xc eb) := hidI fun y hy => hs.below hy (Nat.le_refl _)
        clear hs hb C
        have C := hidI (renc_res w2 v1 xs (HS.out _ B2.out) (by omega))
        unfold BytesOut at C
        rw [HE1.out, HE2.out] at C
        rw [HEL.out] at C
        go_wp2_with (go_at_call 24; refine Calls.mono C.out ?_; rintro e w3 ⟨ya, yc, rfl, hs, hb⟩; refine Hid.out ?_)
        refine hidI ?_
        have B3 := hidI (B2.out.trans (hb.mono B2.out.size))
        have HY : Hid (∀ y, Below w3.heap.size w3 y → SB y ya yc eb) := hidI fun y hy => hs.below hy (Nat.le_refl _)
        have X3 := hidI hb
        clear hs hb C
        have C := hidI (H2.out w3 (some ⟨b, off, none⟩) bc bs (HBS.out _ B3.out) HBy.out (by omega))
        unfold MsgsOut at C
        rw [HD1.out, HD2.out, HD3.out] at C
        rw [HBL.out] at C
        go_wp2_with (go_at_call 25; refine Calls.mono C.out ?_; rintro e w4 ⟨m4, rfl, hs, hb⟩; refine Hid.out ?_)
        refine hidI ?_
        have B4 := hidI (B3.out.trans (hb.mono B3.out.size))
        have X4 := hidI (X3.out.trans (hb.mono X3.out.size))
        have Y4 := hidI hb
        have HMM : Hid (∀ y, Below w4.heap.size w4 y → SeesM y m4 dm) := hidI fun y hy => hs.below hy (Nat.le_refl _)
        clear hs hb C X3
        have C := hidI (rdec_res w4 (some ⟨b, off, none⟩) bc bs (HBS.out _ B4.out) HBy.out (by omega))
        unfold MsgsOut at C
        rw [HD1.out, HD2.out, HD3.out] at C
        rw [HBL.out] at C
        go_wp2_with (go_at_call 26; refine Calls.mono C.out ?_; rintro e w5 ⟨m5, rfl, hs, hb⟩; refine Hid.out ?_)
        refine hidI ?_
        have B5 := hidI (B4.out.trans (hb.mono B4.out.size))
        have X5 := hidI (X4.out.trans (hb.mono X4.out.size))
        have Y5 := hidI (Y4.out.trans (hb.mono Y4.out.size))
        have M5 := hidI hb
        have HNN : Hid (∀ y, Below w5.heap.size w5 y → SeesM y m5 dm) := hidI fun y hy => hs.below hy (Nat.le_refl _)
        clear hs hb C X4 Y4
        -- what was encoded is decoded
        have C := hidI (H2.out w5 xa xc eb (HX.out _ X5.out) HEB.out (by have := HEL.out; omega))
        unfold MsgsOut at C
        rw [HDE.out] at C
        simp only at C
        rw [HEL.out] at C
        go_wp2_with (go_at_call 25; refine Calls.mono C.out ?_; rintro e w6 ⟨m6, rfl, hs, hb⟩; refine Hid.out ?_)
        refine hidI ?_
        have B6 := hidI (B5.out.trans (hb.mono B5.out.size))
        have X6 := hidI (X5.out.trans (hb.mono X5.out.size))
        have Y6 := hidI (Y5.out.trans (hb.mono Y5.out.size))
        have M6 := hidI (M5.out.trans (hb.mono M5.out.size))
        have N6 := hidI hb
        have S6 := hidI hs
        clear hs hb C
        have C := hidI (rsame_eq w6 m6 v1 xs S6.out (HS.out _ B6.out) (by omega))
        go_wp2_with (go_at_call 11; refine Calls.mono C.out ?_; rintro e w7 ⟨rfl, hb⟩; refine Hid.out ?_)
        refine hidI ?_
        have B7 := hidI (B6.out.trans (hb.mono B6.out.size))
        have X7 := hidI (X6.out.trans (hb.mono X6.out.size))
        have Y7 := hidI (Y6.out.trans (hb.mono Y6.out.size))
        have M7 := hidI (M6.out.trans (hb.mono M6.out.size))
        have N7 := hidI (N6.out.trans (hb.mono N6.out.size))
        clear hb C S6 X6 Y6 M6 N6 B6
        have C := hidI (HL.out w7)
        go_wp2_with (go_at_call 10; refine Calls.mono C.out ?_; rintro e w9 ⟨rfl, hb⟩; refine Hid.out ?_)
        refine hidI ?_
        have B9 := hidI (B7.out.trans (hb.mono B7.out.size))
        have t1 := text_cut (HX.out _ (X7.out.trans (hb.mono X7.out.size)))
        have t2 := text_cut (HY.out _ (Y7.out.trans (hb.mono Y7.out.size)))
        rw [HEL.out] at t1 t2
        have C := hidI (rsame_eq w9 m4 m5 dm (HMM.out _ (M7.out.trans (hb.mono M7.out.size))) (HNN.out _ (N7.out.trans (hb.mono N7.out.size))) (by omega))
        clear hb
        have k1 : ((textOf eb).toList == (textOf eb).toList) = true := by simp
        have k3 : (d2 == d2) = true := by simp
        go_wp2_with (go_at_call 11; refine Calls.mono C.out ?_; rintro e w10 ⟨rfl, hb⟩; refine Hid.out ?_)
        refine hidI ?_
        have B10 := hidI (B9.out.trans (hb.mono B9.out.size))
        clear hb C t1 t2
        go_wp2
        go_ret
        exact ⟨rfl, B10.out⟩
      · have hb200 : n0 = bl := by omega
        have k1 : decide ((200 : Int) < (bl : Int)) = false := by rw [decide_eq_false_iff_not]; omega
        have k2 : decide (200 < bl) = false := by rw [decide_eq_false_iff_not]; omega
        subst hb200
        clear hbl3 hba h200
        go_enter Try.func5, Try.ntmps5
        go_wp2_with (go_at_call 9; refine Calls.mono C0.out ?_; rintro e w1 ⟨v1, rfl, hs1, rfl⟩; refine Hid.out ?_)
        refine hidI ?_
        have HS : Hid (∀ y, Below w.heap.size w y → SeesM y v1 xs) := hidI fun y hy => hs1.below hy (Nat.le_refl _)
        clear hs1 C0
        have C := hidI (H1.out w v1 xs (HS.out _ (Below.refl _ _)) (by omega))
        unfold BytesOut at C
        rw [HE1.out, HE2.out] at C
        rw [HEL.out] at C
        go_wp2_with (go_at_call 23; refine Calls.mono C.out ?_; rintro e w2 ⟨xa, xc, rfl, hs, hb⟩; refine Hid.out ?_)
        refine hidI ?_
        have B2 := hidI hb
        have HX : Hid (∀ y, Below w2.heap.size w2 y → SB y xa xc eb) := hidI fun y hy => hs.below hy (Nat.le_refl _)
        clear hs hb C
        have C := hidI (renc_res w2 v1 xs (HS.out _ B2.out) (by omega))
        unfold BytesOut at C
        rw [HE1.out, HE2.out] at C
        rw [HEL.out] at C
        go_wp2_with (go_at_call 24; refine Calls.mono C.out ?_; rintro e w3 ⟨ya, yc, rfl, hs, hb⟩; refine Hid.out ?_)
        refine hidI ?_
        have B3 := hidI (B2.out.trans (hb.mono B2.out.size))
        have HY : Hid (∀ y, Below w3.heap.size w3 y → SB y ya yc eb) := hidI fun y hy => hs.below hy (Nat.le_refl _)
        have X3 := hidI hb
        clear hs hb C
        have C := hidI (H2.out w3 ba bc bs (HBS.out _ B3.out) HBy.out (by omega))
        unfold MsgsOut at C
        rw [HD1.out, HD2.out, HD3.out] at C
        rw [HBL.out] at C
        go_wp2_with (go_at_call 25; refine Calls.mono C.out ?_; rintro e w4 ⟨m4, rfl, hs, hb⟩; refine Hid.out ?_)
        refine hidI ?_
        have B4 := hidI (B3.out.trans (hb.mono B3.out.size))
        have X4 := hidI (X3.out.trans (hb.mono X3.out.size))
        have Y4 := hidI hb
        have HMM : Hid (∀ y, Below w4.heap.size w4 y → SeesM y m4 dm) := hidI fun y hy => hs.below hy (Nat.le_refl _)
        clear hs hb C X3
        have C := hidI (rdec_res w4 ba bc bs (HBS.out _ B4.out) HBy.out (by omega))
        unfold MsgsOut at C
        rw [HD1.out, HD2.out, HD3.out] at C
        rw [HBL.out] at C
        go_wp2_with (go_at_call 26; refine Calls.mono C.out ?_; rintro e w5 ⟨m5, rfl, hs, hb⟩; refine Hid.out ?_)
        refine hidI ?_
        have B5 := hidI (B4.out.trans (hb.mono B4.out.size))
        have X5 := hidI (X4.out.trans (hb.mono X4.out.size))
        have Y5 := hidI (Y4.out.trans (hb.mono Y4.out.size))
        have M5 := hidI hb
        have HNN : Hid (∀ y, Below w5.heap.size w5 y → SeesM y m5 dm) := hidI fun y hy => hs.below hy (Nat.le_refl _)
        clear hs hb C X4 Y4
        -- what was encoded is decoded
        have C := hidI (H2.out w5 xa xc eb (HX.out _ X5.out) HEB.out (by have := HEL.out; omega))
        unfold MsgsOut at C
        rw [HDE.out] at C
        simp only at C
        rw [HEL.out] at C
        go_wp2_with (go_at_call 25; refine Calls.mono C.out ?_; rintro e w6 ⟨m6, rfl, hs, hb⟩; refine Hid.out ?_)
        refine hidI ?_
        have B6 := hidI (B5.out.trans (hb.mono B5.out.size))
        have X6 := hidI (X5.out.trans (hb.mono X5.out.size))
        have Y6 := hidI (Y5.out.trans (hb.mono Y5.out.size))
        have M6 := hidI (M5.out.trans (hb.mono M5.out.size))
        have N6 := hidI hb
        have S6 := hidI hs
        clear hs hb C
        have C := hidI (rsame_eq w6 m6 v1 xs S6.out (HS.out _ B6.out) (by omega))
        go_wp2_with (go_at_call 11; refine Calls.mono C.out ?_; rintro e w7 ⟨rfl, hb⟩; refine Hid.out ?_)
        refine hidI ?_
        have B7 := hidI (B6.out.trans (hb.mono B6.out.size))
        have X7 := hidI (X6.out.trans (hb.mono X6.out.size))
        have Y7 := hidI (Y6.out.trans (hb.mono Y6.out.size))
        have M7 := hidI (M6.out.trans (hb.mono M6.out.size))
        have N7 := hidI (N6.out.trans (hb.mono N6.out.size))
        clear hb C S6 X6 Y6 M6 N6 B6
        have C := hidI (HL.out w7)
        go_wp2_with (go_at_call 10; refine Calls.mono C.out ?_; rintro e w9 ⟨rfl, hb⟩; refine Hid.out ?_)
        refine hidI ?_
        have B9 := hidI (B7.out.trans (hb.mono B7.out.size))
        have t1 := text_cut (HX.out _ (X7.out.trans (hb.mono X7.out.size)))
        have t2 := text_cut (HY.out _ (Y7.out.trans (hb.mono Y7.out.size)))
        rw [HEL.out] at t1 t2
        have C := hidI (rsame_eq w9 m4 m5 dm (HMM.out _ (M7.out.trans (hb.mono M7.out.size))) (HNN.out _ (N7.out.trans (hb.mono N7.out.size))) (by omega))
        clear hb
        have k1 : ((textOf eb).toList == (textOf eb).toList) = true := by simp
        have k3 : (d2 == d2) = true := by simp
        go_wp2_with (go_at_call 11; refine Calls.mono C.out ?_; rintro e w10 ⟨rfl, hb⟩; refine Hid.out ?_)
        refine hidI ?_
        have B10 := hidI (B9.out.trans (hb.mono B9.out.size))
        clear hb C t1 t2
        go_wp2
        go_ret
        exact ⟨rfl, B10.out⟩
  · clear hall
    rcases hcD with ⟨ms, hms, rfl⟩ | rfl
    · have hED : encRes dm = (bs, 0) := by
        have hdmm : dm = ms := by rw [← HD1.out]; unfold decRes; rw [hms]
        obtain ⟨g1, g2⟩ := enc_decs HBy.out hms
        unfold encRes
        rw [hdmm, if_pos (List.all_eq_true.2 fun x hx => (g2 x hx).1), g1]
      have HED := hidI hED
      clear hms hED
      by_cases h200 : 200 < n0
      · have hb200 : bl = 200 := by omega
        obtain ⟨b, off, rfl⟩ := hba h200
        have k1 : (200 : Int) < (n0 : Int) := by omega
        have k2 : (200 : Int) ≤ (bc : Int) := by omega
        have k3 : 200 ≤ bc := by omega
        subst hb200
        clear hbl3 hba
        go_enter Try.func5, Try.ntmps5
        go_wp2_with (go_at_call 9; refine Calls.mono C0.out ?_; rintro e w1 ⟨v1, rfl, hs1, rfl⟩; refine Hid.out ?_)
        refine hidI ?_
        have HS : Hid (∀ y, Below w.heap.size w y → SeesM y v1 xs) := hidI fun y hy => hs1.below hy (Nat.le_refl _)
        clear hs1 C0
        have C := hidI (H1.out w v1 xs (HS.out _ (Below.refl _ _)) (by omega))
        unfold BytesOut at C
        rw [HE1.out, HE2.out] at C
        rw [HEL.out] at C
        go_wp2_with (go_at_call 23; refine Calls.mono C.out ?_; rintro e w2 ⟨xa, xc, rfl, hs, hb⟩; refine Hid.out ?_)
        refine hidI ?_
        have B2 := hidI hb
        have HX : Hid (∀ y, Below w2.heap.size w2 y → SB y xa xc eb) := hidI fun y hy => hs.below hy (Nat.le_refl _)
        clear hs hb C
        have C := hidI (renc_res w2 v1 xs (HS.out _ B2.out) (by omega))
        unfold BytesOut at C
        rw [HE1.out, HE2.out] at C
        rw [HEL.out] at C
        go_wp2_with (go_at_call 24; refine Calls.mono C.out ?_; rintro e w3 ⟨ya, yc, rfl, hs, hb⟩; refine Hid.out ?_)
        refine hidI ?_
        have B3 := hidI (B2.out.trans (hb.mono B2.out.size))
        have HY : Hid (∀ y, Below w3.heap.size w3 y → SB y ya yc eb) := hidI fun y hy => hs.below hy (Nat.le_refl _)
        have X3 := hidI hb
        clear hs hb C
        have C := hidI (H2.out w3 (some ⟨b, off, none⟩) bc bs (HBS.out _ B3.out) HBy.out (by omega))
        unfold MsgsOut at C
        rw [HD1.out, HD2.out, HD3.out] at C
        rw [HBL.out] at C
        go_wp2_with (go_at_call 25; refine Calls.mono C.out ?_; rintro e w4 ⟨m4, rfl, hs, hb⟩; refine Hid.out ?_)
        refine hidI ?_
        have B4 := hidI (B3.out.trans (hb.mono B3.out.size))
        have X4 := hidI (X3.out.trans (hb.mono X3.out.size))
        have Y4 := hidI hb
        have HMM : Hid (∀ y, Below w4.heap.size w4 y → SeesM y m4 dm) := hidI fun y hy => hs.below hy (Nat.le_refl _)
        clear hs hb C X3
        have C := hidI (rdec_res w4 (some ⟨b, off, none⟩) bc bs (HBS.out _ B4.out) HBy.out (by omega))
        unfold MsgsOut at C
        rw [HD1.out, HD2.out, HD3.out] at C
        rw [HBL.out] at C
        go_wp2_with (go_at_call 26; refine Calls.mono C.out ?_; rintro e w5 ⟨m5, rfl, hs, hb⟩; refine Hid.out ?_)
        refine hidI ?_
        have B5 := hidI (B4.out.trans (hb.mono B4.out.size))
        have X5 := hidI (X4.out.trans (hb.mono X4.out.size))
        have Y5 := hidI (Y4.out.trans (hb.mono Y4.out.size))
        have M5 := hidI hb
        have HNN : Hid (∀ y, Below w5.heap.size w5 y → SeesM y m5 dm) := hidI fun y hy => hs.below hy (Nat.le_refl _)
        clear hs hb C X4 Y4
        have N7 := hidI (Below.refl w5.heap.size w5)
        have B7 := B5
        have X7 := X5
        have Y7 := Y5
        have M7 := M5
        -- what was decoded is encoded
        have C := hidI (H1.out w5 m4 dm (HMM.out _ M7.out) (by omega))
        unfold BytesOut at C
        rw [HED.out] at C
        simp only at C
        rw [HBL.out] at C
        go_wp2_with (go_at_call 23; refine Calls.mono C.out ?_; rintro e w8 ⟨za, zc, rfl, hs, hb⟩; refine Hid.out ?_)
        refine hidI ?_
        have B8 := hidI (B7.out.trans (hb.mono B7.out.size))
        have X8 := hidI (X7.out.trans (hb.mono X7.out.size))
        have Y8 := hidI (Y7.out.trans (hb.mono Y7.out.size))
        have M8 := hidI (M7.out.trans (hb.mono M7.out.size))
        have N8 := hidI (N7.out.trans (hb.mono N7.out.size))
        have t1 := text_cut hs
        have t2 := text_cut (HBS.out _ B8.out)
        rw [HBL.out] at t1 t2
        clear hs hb C
        have kb : ((textOf bs).toList == (textOf bs).toList) = true := by simp
        have kb2 : ((textOf bs).toList != (textOf bs).toList) = false := by simp
        have C := hidI (HL.out w8)
        go_wp2_with (go_at_call 10; refine Calls.mono C.out ?_; rintro e w9 ⟨rfl, hb⟩; refine Hid.out ?_)
        refine hidI ?_
        clear t1 t2 kb kb2
        have B9 := hidI (B8.out.trans (hb.mono B8.out.size))
        have t1 := text_cut (HX.out _ (X8.out.trans (hb.mono X8.out.size)))
        have t2 := text_cut (HY.out _ (Y8.out.trans (hb.mono Y8.out.size)))
        rw [HEL.out] at t1 t2
        have C := hidI (rsame_eq w9 m4 m5 dm (HMM.out _ (M8.out.trans (hb.mono M8.out.size))) (HNN.out _ (N8.out.trans (hb.mono N8.out.size))) (by omega))
        clear hb
        have k1 : ((textOf eb).toList == (textOf eb).toList) = true := by simp
        have k3 : (d2 == d2) = true := by simp
        go_wp2_with (go_at_call 11; refine Calls.mono C.out ?_; rintro e w10 ⟨rfl, hb⟩; refine Hid.out ?_)
        refine hidI ?_
        have B10 := hidI (B9.out.trans (hb.mono B9.out.size))
        clear hb C t1 t2
        go_wp2
        go_ret
        exact ⟨rfl, B10.out⟩
      · have hb200 : n0 = bl := by omega
        have k1 : decide ((200 : Int) < (bl : Int)) = false := by rw [decide_eq_false_iff_not]; omega
        have k2 : decide (200 < bl) = false := by rw [decide_eq_false_iff_not]; omega
        subst hb200
        clear hbl3 hba h200
        go_enter Try.func5, Try.ntmps5
        go_wp2_with (go_at_call 9; refine Calls.mono C0.out ?_; rintro e w1 ⟨v1, rfl, hs1, rfl⟩; refine Hid.out ?_)
        refine hidI ?_
        have HS : Hid (∀ y, Below w.heap.size w y → SeesM y v1 xs) := hidI fun y hy => hs1.below hy (Nat.le_refl _)
        clear hs1 C0
        have C := hidI (H1.out w v1 xs (HS.out _ (Below.refl _ _)) (by omega))
        unfold BytesOut at C
        rw [HE1.out, HE2.out] at C
        rw [HEL.out] at C
        go_wp2_with (go_at_call 23; refine Calls.mono C.out ?_; rintro e w2 ⟨xa, xc, rfl, hs, hb⟩; refine Hid.out ?_)
        refine hidI ?_
        have B2 := hidI hb
        have HX : Hid (∀ y, Below w2.heap.size w2 y → SB y xa xc eb) := hidI fun y hy => hs.below hy (Nat.le_refl _)
        clear hs hb C
        have C := hidI (renc_res w2 v1 xs (HS.out _ B2.out) (by omega))
        unfold BytesOut at C
        rw [HE1.out, HE2.out] at C
        rw [HEL.out] at C
        go_wp2_with (go_at_call 24; refine Calls.mono C.out ?_; rintro e w3 ⟨ya, yc, rfl, hs, hb⟩; refine Hid.out ?_)
        refine hidI ?_
        have B3 := hidI (B2.out.trans (hb.mono B2.out.size))
        have HY : Hid (∀ y, Below w3.heap.size w3 y → SB y ya yc eb) := hidI fun y hy => hs.below hy (Nat.le_refl _)
        have X3 := hidI hb
        clear hs hb C
        have C := hidI (H2.out w3 ba bc bs (HBS.out _ B3.out) HBy.out (by omega))
        unfold MsgsOut at C
        rw [HD1.out, HD2.out, HD3.out] at C
        rw [HBL.out] at C
        go_wp2_with (go_at_call 25; refine Calls.mono C.out ?_; rintro e w4 ⟨m4, rfl, hs, hb⟩; refine Hid.out ?_)
        refine hidI ?_
        have B4 := hidI (B3.out.trans (hb.mono B3.out.size))
        have X4 := hidI (X3.out.trans (hb.mono X3.out.size))
        have Y4 := hidI hb
        have HMM : Hid (∀ y, Below w4.heap.size w4 y → SeesM y m4 dm) := hidI fun y hy => hs.below hy (Nat.le_refl _)
        clear hs hb C X3
        have C := hidI (rdec_res w4 ba bc bs (HBS.out _ B4.out) HBy.out (by omega))
        unfold MsgsOut at C
        rw [HD1.out, HD2.out, HD3.out] at C
        rw [HBL.out] at C
        go_wp2_with (go_at_call 26; refine Calls.mono C.out ?_; rintro e w5 ⟨m5, rfl, hs, hb⟩; refine Hid.out ?_)
        refine hidI ?_
        have B5 := hidI (B4.out.trans (hb.mono B4.out.size))
        have X5 := hidI (X4.out.trans (hb.mono X4.out.size))
        have Y5 := hidI (Y4.out.trans (hb.mono Y4.out.size))
        have M5 := hidI hb
        have HNN : Hid (∀ y, Below w5.heap.size w5 y → SeesM y m5 dm) := hidI fun y hy => hs.below hy (Nat.le_refl _)
        clear hs hb C X4 Y4
        have N7 := hidI (Below.refl w5.heap.size w5)
        have B7 := B5
        have X7 := X5
        have Y7 := Y5
        have M7 := M5
        -- what was decoded is encoded
        have C := hidI (H1.out w5 m4 dm (HMM.out _ M7.out) (by omega))
        unfold BytesOut at C
        rw [HED.out] at C
        simp only at C
        rw [HBL.out] at C
        go_wp2_with (go_at_call 23; refine Calls.mono C.out ?_; rintro e w8 ⟨za, zc, rfl, hs, hb⟩; refine Hid.out ?_)
        refine hidI ?_
        have B8 := hidI (B7.out.trans (hb.mono B7.out.size))
        have X8 := hidI (X7.out.trans (hb.mono X7.out.size))
        have Y8 := hidI (Y7.out.trans (hb.mono Y7.out.size))
        have M8 := hidI (M7.out.trans (hb.mono M7.out.size))
        have N8 := hidI (N7.out.trans (hb.mono N7.out.size))
        have t1 := text_cut hs
        have t2 := text_cut (HBS.out _ B8.out)
        rw [HBL.out] at t1 t2
        clear hs hb C
        have kb : ((textOf bs).toList == (textOf bs).toList) = true := by simp
        have kb2 : ((textOf bs).toList != (textOf bs).toList) = false := by simp
        have C := hidI (HL.out w8)
        go_wp2_with (go_at_call 10; refine Calls.mono C.out ?_; rintro e w9 ⟨rfl, hb⟩; refine Hid.out ?_)
        refine hidI ?_
        clear t1 t2 kb kb2
        have B9 := hidI (B8.out.trans (hb.mono B8.out.size))
        have t1 := text_cut (HX.out _ (X8.out.trans (hb.mono X8.out.size)))
        have t2 := text_cut (HY.out _ (Y8.out.trans (hb.mono Y8.out.size)))
        rw [HEL.out] at t1 t2
        have C := hidI (rsame_eq w9 m4 m5 dm (HMM.out _ (M8.out.trans (hb.mono M8.out.size))) (HNN.out _ (N8.out.trans (hb.mono N8.out.size))) (by omega))
        clear hb
        have k1 : ((textOf eb).toList == (textOf eb).toList) = true := by simp
        have k3 : (d2 == d2) = true := by simp
        go_wp2_with (go_at_call 11; refine Calls.mono C.out ?_; rintro e w10 ⟨rfl, hb⟩; refine Hid.out ?_)
        refine hidI ?_
        have B10 := hidI (B9.out.trans (hb.mono B9.out.size))
        clear hb C t1 t2
        go_wp2
        go_ret
        exact ⟨rfl, B10.out⟩
    · skip
      by_cases h200 : 200 < n0
      · have hb200 : bl = 200 := by omega
        obtain ⟨b, off, rfl⟩ := hba h200
        have k1 : (200 : Int) < (n0 : Int) := by omega
        have k2 : (200 : Int) ≤ (bc : Int) := by omega
        have k3 : 200 ≤ bc := by omega
        subst hb200
        clear hbl3 hba
        go_enter Try.func5, Try.ntmps5
        go_wp2_with (go_at_call 9; refine Calls.mono C0.out ?_; rintro e w1 ⟨v1, rfl, hs1, rfl⟩; refine Hid.out ?_)
        refine hidI ?_
        have HS : Hid (∀ y, Below w.heap.size w y → SeesM y v1 xs) := hidI fun y hy => hs1.below hy (Nat.le_refl _)
        clear hs1 C0
        have C := hidI (H1.out w v1 xs (HS.out _ (Below.refl _ _)) (by omega))
        unfold BytesOut at C
        rw [HE1.out, HE2.out] at C
        rw [HEL.out] at C
        go_wp2_with (go_at_call 23; refine Calls.mono C.out ?_; rintro e w2 ⟨xa, xc, rfl, hs, hb⟩; refine Hid.out ?_)
        refine hidI ?_
        have B2 := hidI hb
        have HX : Hid (∀ y, Below w2.heap.size w2 y → SB y xa xc eb) := hidI fun y hy => hs.below hy (Nat.le_refl _)
        clear hs hb C
        have C := hidI (renc_res w2 v1 xs (HS.out _ B2.out) (by omega))
        unfold BytesOut at C
        rw [HE1.out, HE2.out] at C
        rw [HEL.out] at C
        go_wp2_with (go_at_call 24; refine Calls.mono C.out ?_; rintro e w3 ⟨ya, yc, rfl, hs, hb⟩; refine Hid.out ?_)
        refine hidI ?_
        have B3 := hidI (B2.out.trans (hb.mono B2.out.size))
        have HY : Hid (∀ y, Below w3.heap.size w3 y → SB y ya yc eb) := hidI fun y hy => hs.below hy (Nat.le_refl _)
        have X3 := hidI hb
        clear hs hb C
        have C := hidI (H2.out w3 (some ⟨b, off, none⟩) bc bs (HBS.out _ B3.out) HBy.out (by omega))
        unfold MsgsOut at C
        rw [HD1.out, HD2.out, HD3.out] at C
        rw [HBL.out] at C
        go_wp2_with (go_at_call 25; refine Calls.mono C.out ?_; rintro e w4 ⟨m4, rfl, hs, hb⟩; refine Hid.out ?_)
        refine hidI ?_
        have B4 := hidI (B3.out.trans (hb.mono B3.out.size))
        have X4 := hidI (X3.out.trans (hb.mono X3.out.size))
        have Y4 := hidI hb
        have HMM : Hid (∀ y, Below w4.heap.size w4 y → SeesM y m4 dm) := hidI fun y hy => hs.below hy (Nat.le_refl _)
        clear hs hb C X3
        have C := hidI (rdec_res w4 (some ⟨b, off, none⟩) bc bs (HBS.out _ B4.out) HBy.out (by omega))
        unfold MsgsOut at C
        rw [HD1.out, HD2.out, HD3.out] at C
        rw [HBL.out] at C
        go_wp2_with (go_at_call 26; refine Calls.mono C.out ?_; rintro e w5 ⟨m5, rfl, hs, hb⟩; refine Hid.out ?_)
        refine hidI ?_
        have B5 := hidI (B4.out.trans (hb.mono B4.out.size))
        have X5 := hidI (X4.out.trans (hb.mono X4.out.size))
        have Y5 := hidI (Y4.out.trans (hb.mono Y4.out.size))
        have M5 := hidI hb
        have HNN : Hid (∀ y, Below w5.heap.size w5 y → SeesM y m5 dm) := hidI fun y hy => hs.below hy (Nat.le_refl _)
        clear hs hb C X4 Y4
        have N7 := hidI (Below.refl w5.heap.size w5)
        have B7 := B5
        have X7 := X5
        have Y7 := Y5
        have M7 := M5
        have C := hidI (HL.out w5)
        go_wp2_with (go_at_call 10; refine Calls.mono C.out ?_; rintro e w9 ⟨rfl, hb⟩; refine Hid.out ?_)
        refine hidI ?_
        have B9 := hidI (B7.out.trans (hb.mono B7.out.size))
        have t1 := text_cut (HX.out _ (X7.out.trans (hb.mono X7.out.size)))
        have t2 := text_cut (HY.out _ (Y7.out.trans (hb.mono Y7.out.size)))
        rw [HEL.out] at t1 t2
        have C := hidI (rsame_eq w9 m4 m5 dm (HMM.out _ (M7.out.trans (hb.mono M7.out.size))) (HNN.out _ (N7.out.trans (hb.mono N7.out.size))) (by omega))
        clear hb
        have k1 : ((textOf eb).toList == (textOf eb).toList) = true := by simp
        have k3 : (d2 == d2) = true := by simp
        go_wp2_with (go_at_call 11; refine Calls.mono C.out ?_; rintro e w10 ⟨rfl, hb⟩; refine Hid.out ?_)
        refine hidI ?_
        have B10 := hidI (B9.out.trans (hb.mono B9.out.size))
        clear hb C t1 t2
        go_wp2
        go_ret
        exact ⟨rfl, B10.out⟩
      · have hb200 : n0 = bl := by omega
        have k1 : decide ((200 : Int) < (bl : Int)) = false := by rw [decide_eq_false_iff_not]; omega
        have k2 : decide (200 < bl) = false := by rw [decide_eq_false_iff_not]; omega
        subst hb200
        clear hbl3 hba h200
        go_enter Try.func5, Try.ntmps5
        go_wp2_with (go_at_call 9; refine Calls.mono C0.out ?_; rintro e w1 ⟨v1, rfl, hs1, rfl⟩; refine Hid.out ?_)
        refine hidI ?_
        have HS : Hid (∀ y, Below w.heap.size w y → SeesM y v1 xs) := hidI fun y hy => hs1.below hy (Nat.le_refl _)
        clear hs1 C0
        have C := hidI (H1.out w v1 xs (HS.out _ (Below.refl _ _)) (by omega))
        unfold BytesOut at C
        rw [HE1.out, HE2.out] at C
        rw [HEL.out] at C
        go_wp2_with (go_at_call 23; refine Calls.mono C.out ?_; rintro e w2 ⟨xa, xc, rfl, hs, hb⟩; refine Hid.out ?_)
        refine hidI ?_
        have B2 := hidI hb
        have HX : Hid (∀ y, Below w2.heap.size w2 y → SB y xa xc eb) := hidI fun y hy => hs.below hy (Nat.le_refl _)
        clear hs hb C
        have C := hidI (renc_res w2 v1 xs (HS.out _ B2.out) (by omega))
        unfold BytesOut at C
        rw [HE1.out, HE2.out] at C
        rw [HEL.out] at C
        go_wp2_with (go_at_call 24; refine Calls.mono C.out ?_; rintro e w3 ⟨ya, yc, rfl, hs, hb⟩; refine Hid.out ?_)
        refine hidI ?_
        have B3 := hidI (B2.out.trans (hb.mono B2.out.size))
        have HY : Hid (∀ y, Below w3.heap.size w3 y → SB y ya yc eb) := hidI fun y hy => hs.below hy (Nat.le_refl _)
        have X3 := hidI hb
        clear hs hb C
        have C := hidI (H2.out w3 ba bc bs (HBS.out _ B3.out) HBy.out (by omega))
        unfold MsgsOut at C
        rw [HD1.out, HD2.out, HD3.out] at C
        rw [HBL.out] at C
        go_wp2_with (go_at_call 25; refine Calls.mono C.out ?_; rintro e w4 ⟨m4, rfl, hs, hb⟩; refine Hid.out ?_)
        refine hidI ?_
        have B4 := hidI (B3.out.trans (hb.mono B3.out.size))
        have X4 := hidI (X3.out.trans (hb.mono X3.out.size))
        have Y4 := hidI hb
        have HMM : Hid (∀ y, Below w4.heap.size w4 y → SeesM y m4 dm) := hidI fun y hy => hs.below hy (Nat.le_refl _)
        clear hs hb C X3
        have C := hidI (rdec_res w4 ba bc bs (HBS.out _ B4.out) HBy.out (by omega))
        unfold MsgsOut at C
        rw [HD1.out, HD2.out, HD3.out] at C
        rw [HBL.out] at C
        go_wp2_with (go_at_call 26; refine Calls.mono C.out ?_; rintro e w5 ⟨m5, rfl, hs, hb⟩; refine Hid.out ?_)
        refine hidI ?_
        have B5 := hidI (B4.out.trans (hb.mono B4.out.size))
        have X5 := hidI (X4.out.trans (hb.mono X4.out.size))
        have Y5 := hidI (Y4.out.trans (hb.mono Y4.out.size))
        have M5 := hidI hb
        have HNN : Hid (∀ y, Below w5.heap.size w5 y → SeesM y m5 dm) := hidI fun y hy => hs.below hy (Nat.le_refl _)
        clear hs hb C X4 Y4
        have N7 := hidI (Below.refl w5.heap.size w5)
        have B7 := B5
        have X7 := X5
        have Y7 := Y5
        have M7 := M5
        have C := hidI (HL.out w5)
        go_wp2_with (go_at_call 10; refine Calls.mono C.out ?_; rintro e w9 ⟨rfl, hb⟩; refine Hid.out ?_)
        refine hidI ?_
        have B9 := hidI (B7.out.trans (hb.mono B7.out.size))
        have t1 := text_cut (HX.out _ (X7.out.trans (hb.mono X7.out.size)))
        have t2 := text_cut (HY.out _ (Y7.out.trans (hb.mono Y7.out.size)))
        rw [HEL.out] at t1 t2
        have C := hidI (rsame_eq w9 m4 m5 dm (HMM.out _ (M7.out.trans (hb.mono M7.out.size))) (HNN.out _ (N7.out.trans (hb.mono N7.out.size))) (by omega))
        clear hb
        have k1 : ((textOf eb).toList == (textOf eb).toList) = true := by simp
        have k3 : (d2 == d2) = true := by simp
        go_wp2_with (go_at_call 11; refine Calls.mono C.out ?_; rintro e w10 ⟨rfl, hb⟩; refine Hid.out ?_)
        refine hidI ?_
        have B10 := hidI (B9.out.trans (hb.mono B9.out.size))
        clear hb C t1 t2
        go_wp2
        go_ret
        exact ⟨rfl, B10.out⟩
end Go.Proofs.Ytdfieflcclbgjaa
