/-
  The law of ColumnBytes, out of what Begin comes to.
-/
import Derived.Test.YtbjoljokdjgbnabRDecM
namespace Go.Proofs.Ytbjoljokdjgbnab
open Go.RowKit Go.Deep Go.MapKept
theorem dec_is {bs : List Int} {os : List One} (h : dec bs = some os) : encT os = bs := by
  unfold dec at h
  cases bs with
  | nil => cases h
  | cons n t =>
    simp only at h
    cases hr : runO n.toNat [] t with
    | none => rw [hr] at h; cases h
    | some p =>
      rw [hr] at h
      simp only at h
      split at h
      · rename_i he
        cases h
        exact he
      · cases h
set_option maxRecDepth 100000 in
set_option maxHeartbeats 4000000 in
theorem bytes_small (HBeg : BeginLaw) (w : World) (v : Value) (xs : List Deed) (hv : SeesD w v xs) (hok : ∀ x ∈ xs, x.ok w.heap.size w) (hin : ∀ x ∈ xs, x.inr) (a : Option Addr) (cap : Nat) (bs : List Int) (hby : ∀ x ∈ bs, IsB x) (hS : SB w a cap bs) (h400 : bs.length ≤ 400) :
    Calls Try.prog 8 #[v, .slice a bs.length cap] w fun e w' => e = .returned (.bool true) ∧ Below w.heap.size w w' := by
  have HBG := hidI HBeg
  have CP := hidI (playI_any w v xs hv hok hin)
  have j1 : ¬ ((400 : Int) < (bs.length : Int)) := by omega
  have HSB := hidI hS
  have HDby := hidI hby
  clear hby hS h400 hv hok hin HBeg
  go_enter Try.func8, Try.ntmps8
  go_wp2_with (go_at_call 16; refine Calls.mono CP.out ?_; rintro e w1 ⟨tb, mb, rb, cs, os, rfl, hB, hI, hb1⟩; refine Hid.out ?_)
  refine hidI ?_
  have HB := hidI hB
  have HI := hidI hI
  have HB1 := hidI hb1
  have HOk := hidI (ok_of hB.1 hB.2.2.1 hI)
  clear hB hI hb1 CP
  have CE := hidI (pencode_any tb mb 3 2 cs os w1 HB.out.1 HB.out.2.2.1)
  have hfew := HOk.out.few
  obtain ⟨X, hX⟩ : ∃ X, encT os = X := ⟨_, rfl⟩
  have HX := hidI hX
  have HXby : Hid (∀ x ∈ X, IsB x) := hidI (hX ▸ enc_isB HOk.out)
  have HDX : Hid (dec X = some os) := hidI (hX ▸ dec_enc HOk.out)
  rw [hX] at CE
  obtain ⟨sx, hsx⟩ : ∃ sx, textOf X = sx := ⟨_, rfl⟩
  have HSX := hidI hsx
  clear hX hsx
  go_wp2_with (go_at_call 29; refine Calls.mono CE.out ?_; intro e w2 he; obtain ⟨ea, ec, rfl, hes, heb⟩ := enc_sb he; clear he; refine Hid.out ?_)
  refine hidI ?_
  have HES := hidI hes
  have HB2 := hidI (HB1.out.trans (heb.mono HB1.out.size))
  have HBo2 := hidI (HB.out.below heb (Nat.le_refl _))
  clear hes heb CE
  have CR := hidI (rencode_any rb 3 2 os w2 HBo2.out.2.1.of hfew (fun o ho => (name_size (HOk.out.each o ho).name).2) (fun o ho => by rw [(HOk.out.each o ho).len]; exact len32_le _))
  rw [HX.out] at CR
  go_wp2_with (go_at_call 30; refine Calls.mono CR.out ?_; intro e w3 he; obtain ⟨fa, fc, rfl, hfs, hfb⟩ := enc_sb he; clear he; refine Hid.out ?_)
  refine hidI ?_
  have HFS := hidI hfs
  have HES3 := hidI (HES.out.below hfb (Nat.le_refl _))
  have HB3 := hidI (HB2.out.trans (hfb.mono HB2.out.size))
  have HBo3 := hidI (HBo2.out.below hfb (Nat.le_refl _))
  clear hfs hfb CR HES HBo2 HB HB1
  have CV := hidI (liveC_any w3)
  go_wp2_with (go_at_call 17; refine Calls.mono CV.out ?_; rintro e w4 ⟨rfl, hb4⟩; have HFS4 := hidI (HFS.out.below hb4 (Nat.le_refl _)); have HES4 := hidI (HES3.out.below hb4 (Nat.le_refl _)); have HB4 := hidI (HB3.out.trans (hb4.mono HB3.out.size)); have HBo4 := hidI (HBo3.out.below hb4 (Nat.le_refl _)); clear hb4; have cv1 := text_cut HFS4.out; have cv2 := text_cut HES4.out; rw [HSX.out] at cv1 cv2; refine Hid.out ?_)
  refine hidI ?_
  clear CV HFS HES3 HB3 HBo3
  have CD1 : Hid (Calls Try.prog 31 #[.int .i64 3, .int .i64 2, .slice ea X.length ec] w4 fun e w' => ∃ tb2 mb2, e = .returned (.tuple #[.pointer (some ⟨tb2, 0, none⟩), .int .i64 0]) ∧ TB w4.heap.size w' tb2 mb2 os ∧ Below w4.heap.size w4 w') := hidI ((pdec_any ea ec X HXby.out w4 HES4.out).mono (by
    rintro e w' ⟨h1, ⟨h2, _⟩ | ⟨os', tb2, mb2, h2, h3, h4⟩⟩
    · rw [HDX.out] at h2; cases h2
    · rw [HDX.out] at h2; cases h2; exact ⟨tb2, mb2, h3, h4, h1⟩))
  go_wp2_with (go_at_call 31; refine Calls.mono CD1.out ?_; rintro e w5 ⟨tb2, mb2, rfl, ht2, hb5⟩; refine Hid.out ?_)
  refine hidI ?_
  have HT2 := hidI ht2
  have HB5 := hidI (HB4.out.trans (hb5.mono HB4.out.size))
  have HBo5 := hidI (HBo4.out.below hb5 (Nat.le_refl _))
  clear ht2 hb5 CD1 cv1 cv2 HES4 HFS4 HBo4
  have HS5 := hidI (HSB.out.below HB5.out (Nat.le_refl _))
  cases hdd : dec bs with
  | none =>
    have CD2 : Hid (Calls Try.prog 31 #[.int .i64 3, .int .i64 2, .slice a bs.length cap] w5 fun e w' => e = .returned (.tuple #[.pointer none, .int .i64 3]) ∧ Below w5.heap.size w5 w') := hidI ((pdec_any a cap bs HDby.out w5 HS5.out).mono (by
      rintro e w' ⟨h1, ⟨_, h3⟩ | ⟨os', tb3, mb3, h2, h3, h4⟩⟩
      · exact ⟨h3, h1⟩
      · rw [hdd] at h2; cases h2))
    have HSd : Hid (decS bs = none) := hidI (by rw [dec_same HDby.out, hdd])
    clear hdd
    go_wp2_with (go_at_call 31; refine Calls.mono CD2.out ?_; rintro e w6 ⟨rfl, hb6⟩; refine Hid.out ?_)
    refine hidI ?_
    have HB6 := hidI (HB5.out.trans (hb6.mono HB5.out.size))
    have HBo6 := hidI (HBo5.out.below hb6 (Nat.le_refl _))
    have HT6 := hidI (HT2.out.below hb6 (Nat.le_refl _))
    clear hb6 CD2
    have HS6 := hidI (HSB.out.below HB6.out (Nat.le_refl _))
    have CD3 : Hid (Calls Try.prog 32 #[.int .i64 3, .int .i64 2, .slice a bs.length cap] w6 fun e w' => e = .returned (.tuple #[.pointer none, .int .i64 3]) ∧ Below w6.heap.size w6 w') := hidI ((rdec_any HBG.out a cap bs HDby.out w6 HS6.out).mono (by
      rintro e w' ⟨h1, ⟨_, h3⟩ | ⟨os', rb3, h2, h3⟩⟩
      · exact ⟨h3, h1⟩
      · rw [HSd.out] at h2; cases h2))
    go_wp2_with (go_at_call 32; refine Calls.mono CD3.out ?_; rintro e w7 ⟨rfl, hb7⟩; refine Hid.out ?_)
    refine hidI ?_
    have HB7 := hidI (HB6.out.trans (hb7.mono HB6.out.size))
    have HBo7 := hidI (HBo6.out.below hb7 (Nat.le_refl _))
    have HT7 := hidI (HT6.out.below hb7 (Nat.le_refl _))
    clear hb7 CD3
    have CS : Hid (Calls Try.prog 19 #[.pointer (some ⟨tb2, 0, none⟩), .pointer (some ⟨tb, 0, none⟩)] w7 fun e w' => e = .returned (.bool true) ∧ Below w7.heap.size w7 w') := hidI (by
      obtain ⟨cs2, hW2, hA2, _⟩ := HT7.out
      have := tsame_any hW2 HBo7.out.1
      rw [(same_iff hW2 HBo7.out.1 hA2 HBo7.out.2.2.1).2 rfl] at this
      exact this)
    go_wp2_with (go_at_call 19; refine Calls.mono CS.out ?_; rintro e w8 ⟨rfl, hb8⟩; refine Hid.out ?_)
    refine hidI ?_
    have HB8 := hidI (HB7.out.trans (hb8.mono HB7.out.size))
    clear hb8 CS
    go_wp2
    go_ret
    exact ⟨rfl, HB8.out⟩
  | some os3 =>
    have CD2 : Hid (Calls Try.prog 31 #[.int .i64 3, .int .i64 2, .slice a bs.length cap] w5 fun e w' => ∃ tb3 mb3, e = .returned (.tuple #[.pointer (some ⟨tb3, 0, none⟩), .int .i64 0]) ∧ TB w5.heap.size w' tb3 mb3 os3 ∧ Below w5.heap.size w5 w') := hidI ((pdec_any a cap bs HDby.out w5 HS5.out).mono (by
      rintro e w' ⟨h1, ⟨h2, _⟩ | ⟨os', tb3, mb3, h2, h3, h4⟩⟩
      · rw [hdd] at h2; cases h2
      · rw [hdd] at h2; cases h2; exact ⟨tb3, mb3, h3, h4, h1⟩))
    have HSd : Hid (decS bs = some os3) := hidI (by rw [dec_same HDby.out, hdd])
    have HEn := hidI (dec_is hdd)
    clear hdd
    go_wp2_with (go_at_call 31; refine Calls.mono CD2.out ?_; rintro e w6 ⟨tb3, mb3, rfl, ht3, hb6⟩; refine Hid.out ?_)
    refine hidI ?_
    have HB6 := hidI (HB5.out.trans (hb6.mono HB5.out.size))
    have HBo6 := hidI (HBo5.out.below hb6 (Nat.le_refl _))
    have HT6 := hidI (HT2.out.below hb6 (Nat.le_refl _))
    have HT3 := hidI ht3
    clear hb6 CD2 ht3
    have HS6 := hidI (HSB.out.below HB6.out (Nat.le_refl _))
    have CD3 : Hid (Calls Try.prog 32 #[.int .i64 3, .int .i64 2, .slice a bs.length cap] w6 fun e w' => ∃ rb3, e = .returned (.tuple #[.pointer (some ⟨rb3, 0, none⟩), .int .i64 0]) ∧ Below w6.heap.size w6 w') := hidI ((rdec_any HBG.out a cap bs HDby.out w6 HS6.out).mono (by
      rintro e w' ⟨h1, ⟨h2, _⟩ | ⟨os', rb3, h2, h3⟩⟩
      · rw [HSd.out] at h2; cases h2
      · exact ⟨rb3, h3, h1⟩))
    go_wp2_with (go_at_call 32; refine Calls.mono CD3.out ?_; rintro e w7 ⟨rb3, rfl, hb7⟩; refine Hid.out ?_)
    refine hidI ?_
    have HB7 := hidI (HB6.out.trans (hb7.mono HB6.out.size))
    have HBo7 := hidI (HBo6.out.below hb7 (Nat.le_refl _))
    have HT7 := hidI (HT6.out.below hb7 (Nat.le_refl _))
    have HT37 := hidI (HT3.out.below hb7 (Nat.le_refl _))
    clear hb7 CD3
    have CE3 := hidI (HT37.out.encode)
    rw [HEn.out] at CE3
    go_wp2_with (go_at_call 29; refine Calls.mono CE3.out ?_; intro e w8 he; obtain ⟨ga, gc, rfl, hgs, hgb⟩ := enc_sb he; clear he; refine Hid.out ?_)
    refine hidI ?_
    have HB8 := hidI (HB7.out.trans (hgb.mono HB7.out.size))
    have HBo8 := hidI (HBo7.out.below hgb (Nat.le_refl _))
    have HT8 := hidI (HT7.out.below hgb (Nat.le_refl _))
    have cv1 := text_cut hgs
    have cv2 := text_cut (HSB.out.below HB8.out (Nat.le_refl _))
    obtain ⟨sd, hsd⟩ : ∃ sd, textOf bs = sd := ⟨_, rfl⟩
    rw [hsd] at cv1 cv2
    clear hgs hgb CE3 hsd
    have CS : Hid (Calls Try.prog 19 #[.pointer (some ⟨tb2, 0, none⟩), .pointer (some ⟨tb, 0, none⟩)] w8 fun e w' => e = .returned (.bool true) ∧ Below w8.heap.size w8 w') := hidI (by
      obtain ⟨cs2, hW2, hA2, _⟩ := HT8.out
      have := tsame_any hW2 HBo8.out.1
      rw [(same_iff hW2 HBo8.out.1 hA2 HBo8.out.2.2.1).2 rfl] at this
      exact this)
    go_wp2_with (go_at_call 19; refine Calls.mono CS.out ?_; rintro e w9 ⟨rfl, hb9⟩; refine Hid.out ?_)
    refine hidI ?_
    have HB9 := hidI (HB8.out.trans (hb9.mono HB8.out.size))
    clear hb9 CS
    go_wp2
    go_ret
    exact ⟨rfl, HB9.out⟩
set_option maxRecDepth 100000 in
set_option maxHeartbeats 4000000 in
theorem bytes_big (HBeg : BeginLaw) (w : World) (v : Value) (xs : List Deed) (hv : SeesD w v xs) (hok : ∀ x ∈ xs, x.ok w.heap.size w) (hin : ∀ x ∈ xs, x.inr) (a : Option Addr) (cap : Nat) (bs : List Int) (hby : ∀ x ∈ bs, IsB x) (hS : SB w a cap bs) (h400 : 400 < bs.length) :
    Calls Try.prog 8 #[v, .slice a bs.length cap] w fun e w' => e = .returned (.bool true) ∧ Below w.heap.size w w' := by
  have HBG := hidI HBeg
  have CP := hidI (playI_any w v xs hv hok hin)
  have j1 : (400 : Int) < (bs.length : Int) := by omega
  obtain ⟨ds, xa, xc, HDS, hcut, hds⟩ := cut_h hS 400 400 rfl (by omega)
  have HSB := hidI (hds _ hS)
  have HDby : Hid (∀ x ∈ ds, IsB x) := hidI fun x hx => hby x (by rw [HDS.out] at hx; exact List.mem_of_mem_take hx)
  clear hds hby hS h400 hv hok hin HBeg
  go_enter Try.func8, Try.ntmps8
  go_wp2_with (go_at_call 16; refine Calls.mono CP.out ?_; rintro e w1 ⟨tb, mb, rb, cs, os, rfl, hB, hI, hb1⟩; refine Hid.out ?_)
  refine hidI ?_
  have HB := hidI hB
  have HI := hidI hI
  have HB1 := hidI hb1
  have HOk := hidI (ok_of hB.1 hB.2.2.1 hI)
  clear hB hI hb1 CP
  have CE := hidI (pencode_any tb mb 3 2 cs os w1 HB.out.1 HB.out.2.2.1)
  have hfew := HOk.out.few
  obtain ⟨X, hX⟩ : ∃ X, encT os = X := ⟨_, rfl⟩
  have HX := hidI hX
  have HXby : Hid (∀ x ∈ X, IsB x) := hidI (hX ▸ enc_isB HOk.out)
  have HDX : Hid (dec X = some os) := hidI (hX ▸ dec_enc HOk.out)
  rw [hX] at CE
  obtain ⟨sx, hsx⟩ : ∃ sx, textOf X = sx := ⟨_, rfl⟩
  have HSX := hidI hsx
  clear hX hsx
  go_wp2_with (go_at_call 29; refine Calls.mono CE.out ?_; intro e w2 he; obtain ⟨ea, ec, rfl, hes, heb⟩ := enc_sb he; clear he; refine Hid.out ?_)
  refine hidI ?_
  have HES := hidI hes
  have HB2 := hidI (HB1.out.trans (heb.mono HB1.out.size))
  have HBo2 := hidI (HB.out.below heb (Nat.le_refl _))
  clear hes heb CE
  have CR := hidI (rencode_any rb 3 2 os w2 HBo2.out.2.1.of hfew (fun o ho => (name_size (HOk.out.each o ho).name).2) (fun o ho => by rw [(HOk.out.each o ho).len]; exact len32_le _))
  rw [HX.out] at CR
  go_wp2_with (go_at_call 30; refine Calls.mono CR.out ?_; intro e w3 he; obtain ⟨fa, fc, rfl, hfs, hfb⟩ := enc_sb he; clear he; refine Hid.out ?_)
  refine hidI ?_
  have HFS := hidI hfs
  have HES3 := hidI (HES.out.below hfb (Nat.le_refl _))
  have HB3 := hidI (HB2.out.trans (hfb.mono HB2.out.size))
  have HBo3 := hidI (HBo2.out.below hfb (Nat.le_refl _))
  clear hfs hfb CR HES HBo2 HB HB1
  have CV := hidI (liveC_any w3)
  go_wp2_with (go_at_call 17; refine Calls.mono CV.out ?_; rintro e w4 ⟨rfl, hb4⟩; have HFS4 := hidI (HFS.out.below hb4 (Nat.le_refl _)); have HES4 := hidI (HES3.out.below hb4 (Nat.le_refl _)); have HB4 := hidI (HB3.out.trans (hb4.mono HB3.out.size)); have HBo4 := hidI (HBo3.out.below hb4 (Nat.le_refl _)); clear hb4; have cv1 := text_cut HFS4.out; have cv2 := text_cut HES4.out; rw [HSX.out] at cv1 cv2; refine Hid.out ?_)
  refine hidI ?_
  clear CV HFS HES3 HB3 HBo3
  have CD1 : Hid (Calls Try.prog 31 #[.int .i64 3, .int .i64 2, .slice ea X.length ec] w4 fun e w' => ∃ tb2 mb2, e = .returned (.tuple #[.pointer (some ⟨tb2, 0, none⟩), .int .i64 0]) ∧ TB w4.heap.size w' tb2 mb2 os ∧ Below w4.heap.size w4 w') := hidI ((pdec_any ea ec X HXby.out w4 HES4.out).mono (by
    rintro e w' ⟨h1, ⟨h2, _⟩ | ⟨os', tb2, mb2, h2, h3, h4⟩⟩
    · rw [HDX.out] at h2; cases h2
    · rw [HDX.out] at h2; cases h2; exact ⟨tb2, mb2, h3, h4, h1⟩))
  go_wp2_with (go_at_call 31; refine Calls.mono CD1.out ?_; rintro e w5 ⟨tb2, mb2, rfl, ht2, hb5⟩; refine Hid.out ?_)
  refine hidI ?_
  have HT2 := hidI ht2
  have HB5 := hidI (HB4.out.trans (hb5.mono HB4.out.size))
  have HBo5 := hidI (HBo4.out.below hb5 (Nat.le_refl _))
  clear ht2 hb5 CD1 cv1 cv2 HES4 HFS4 HBo4
  have HS5 := hidI (HSB.out.below HB5.out (Nat.le_refl _))
  cases hdd : dec ds with
  | none =>
    have CD2 : Hid (Calls Try.prog 31 #[.int .i64 3, .int .i64 2, .slice xa ds.length xc] w5 fun e w' => e = .returned (.tuple #[.pointer none, .int .i64 3]) ∧ Below w5.heap.size w5 w') := hidI ((pdec_any xa xc ds HDby.out w5 HS5.out).mono (by
      rintro e w' ⟨h1, ⟨_, h3⟩ | ⟨os', tb3, mb3, h2, h3, h4⟩⟩
      · exact ⟨h3, h1⟩
      · rw [hdd] at h2; cases h2))
    have HSd : Hid (decS ds = none) := hidI (by rw [dec_same HDby.out, hdd])
    clear hdd
    go_wp2_with (go_at_call 31; refine Calls.mono CD2.out ?_; rintro e w6 ⟨rfl, hb6⟩; refine Hid.out ?_)
    refine hidI ?_
    have HB6 := hidI (HB5.out.trans (hb6.mono HB5.out.size))
    have HBo6 := hidI (HBo5.out.below hb6 (Nat.le_refl _))
    have HT6 := hidI (HT2.out.below hb6 (Nat.le_refl _))
    clear hb6 CD2
    have HS6 := hidI (HSB.out.below HB6.out (Nat.le_refl _))
    have CD3 : Hid (Calls Try.prog 32 #[.int .i64 3, .int .i64 2, .slice xa ds.length xc] w6 fun e w' => e = .returned (.tuple #[.pointer none, .int .i64 3]) ∧ Below w6.heap.size w6 w') := hidI ((rdec_any HBG.out xa xc ds HDby.out w6 HS6.out).mono (by
      rintro e w' ⟨h1, ⟨_, h3⟩ | ⟨os', rb3, h2, h3⟩⟩
      · exact ⟨h3, h1⟩
      · rw [HSd.out] at h2; cases h2))
    go_wp2_with (go_at_call 32; refine Calls.mono CD3.out ?_; rintro e w7 ⟨rfl, hb7⟩; refine Hid.out ?_)
    refine hidI ?_
    have HB7 := hidI (HB6.out.trans (hb7.mono HB6.out.size))
    have HBo7 := hidI (HBo6.out.below hb7 (Nat.le_refl _))
    have HT7 := hidI (HT6.out.below hb7 (Nat.le_refl _))
    clear hb7 CD3
    have CS : Hid (Calls Try.prog 19 #[.pointer (some ⟨tb2, 0, none⟩), .pointer (some ⟨tb, 0, none⟩)] w7 fun e w' => e = .returned (.bool true) ∧ Below w7.heap.size w7 w') := hidI (by
      obtain ⟨cs2, hW2, hA2, _⟩ := HT7.out
      have := tsame_any hW2 HBo7.out.1
      rw [(same_iff hW2 HBo7.out.1 hA2 HBo7.out.2.2.1).2 rfl] at this
      exact this)
    go_wp2_with (go_at_call 19; refine Calls.mono CS.out ?_; rintro e w8 ⟨rfl, hb8⟩; refine Hid.out ?_)
    refine hidI ?_
    have HB8 := hidI (HB7.out.trans (hb8.mono HB7.out.size))
    clear hb8 CS
    go_wp2
    go_ret
    exact ⟨rfl, HB8.out⟩
  | some os3 =>
    have CD2 : Hid (Calls Try.prog 31 #[.int .i64 3, .int .i64 2, .slice xa ds.length xc] w5 fun e w' => ∃ tb3 mb3, e = .returned (.tuple #[.pointer (some ⟨tb3, 0, none⟩), .int .i64 0]) ∧ TB w5.heap.size w' tb3 mb3 os3 ∧ Below w5.heap.size w5 w') := hidI ((pdec_any xa xc ds HDby.out w5 HS5.out).mono (by
      rintro e w' ⟨h1, ⟨h2, _⟩ | ⟨os', tb3, mb3, h2, h3, h4⟩⟩
      · rw [hdd] at h2; cases h2
      · rw [hdd] at h2; cases h2; exact ⟨tb3, mb3, h3, h4, h1⟩))
    have HSd : Hid (decS ds = some os3) := hidI (by rw [dec_same HDby.out, hdd])
    have HEn := hidI (dec_is hdd)
    clear hdd
    go_wp2_with (go_at_call 31; refine Calls.mono CD2.out ?_; rintro e w6 ⟨tb3, mb3, rfl, ht3, hb6⟩; refine Hid.out ?_)
    refine hidI ?_
    have HB6 := hidI (HB5.out.trans (hb6.mono HB5.out.size))
    have HBo6 := hidI (HBo5.out.below hb6 (Nat.le_refl _))
    have HT6 := hidI (HT2.out.below hb6 (Nat.le_refl _))
    have HT3 := hidI ht3
    clear hb6 CD2 ht3
    have HS6 := hidI (HSB.out.below HB6.out (Nat.le_refl _))
    have CD3 : Hid (Calls Try.prog 32 #[.int .i64 3, .int .i64 2, .slice xa ds.length xc] w6 fun e w' => ∃ rb3, e = .returned (.tuple #[.pointer (some ⟨rb3, 0, none⟩), .int .i64 0]) ∧ Below w6.heap.size w6 w') := hidI ((rdec_any HBG.out xa xc ds HDby.out w6 HS6.out).mono (by
      rintro e w' ⟨h1, ⟨h2, _⟩ | ⟨os', rb3, h2, h3⟩⟩
      · rw [HSd.out] at h2; cases h2
      · exact ⟨rb3, h3, h1⟩))
    go_wp2_with (go_at_call 32; refine Calls.mono CD3.out ?_; rintro e w7 ⟨rb3, rfl, hb7⟩; refine Hid.out ?_)
    refine hidI ?_
    have HB7 := hidI (HB6.out.trans (hb7.mono HB6.out.size))
    have HBo7 := hidI (HBo6.out.below hb7 (Nat.le_refl _))
    have HT7 := hidI (HT6.out.below hb7 (Nat.le_refl _))
    have HT37 := hidI (HT3.out.below hb7 (Nat.le_refl _))
    clear hb7 CD3
    have CE3 := hidI (HT37.out.encode)
    rw [HEn.out] at CE3
    go_wp2_with (go_at_call 29; refine Calls.mono CE3.out ?_; intro e w8 he; obtain ⟨ga, gc, rfl, hgs, hgb⟩ := enc_sb he; clear he; refine Hid.out ?_)
    refine hidI ?_
    have HB8 := hidI (HB7.out.trans (hgb.mono HB7.out.size))
    have HBo8 := hidI (HBo7.out.below hgb (Nat.le_refl _))
    have HT8 := hidI (HT7.out.below hgb (Nat.le_refl _))
    have cv1 := text_cut hgs
    have cv2 := text_cut (HSB.out.below HB8.out (Nat.le_refl _))
    obtain ⟨sd, hsd⟩ : ∃ sd, textOf ds = sd := ⟨_, rfl⟩
    rw [hsd] at cv1 cv2
    clear hgs hgb CE3 hsd
    have CS : Hid (Calls Try.prog 19 #[.pointer (some ⟨tb2, 0, none⟩), .pointer (some ⟨tb, 0, none⟩)] w8 fun e w' => e = .returned (.bool true) ∧ Below w8.heap.size w8 w') := hidI (by
      obtain ⟨cs2, hW2, hA2, _⟩ := HT8.out
      have := tsame_any hW2 HBo8.out.1
      rw [(same_iff hW2 HBo8.out.1 hA2 HBo8.out.2.2.1).2 rfl] at this
      exact this)
    go_wp2_with (go_at_call 19; refine Calls.mono CS.out ?_; rintro e w9 ⟨rfl, hb9⟩; refine Hid.out ?_)
    refine hidI ?_
    have HB9 := hidI (HB8.out.trans (hb9.mono HB8.out.size))
    clear hb9 CS
    go_wp2
    go_ret
    exact ⟨rfl, HB9.out⟩
theorem bytes_law (HBeg : BeginLaw) (w : World) (v : Value) (xs : List Deed) (hv : SeesD w v xs) (hok : ∀ x ∈ xs, x.ok w.heap.size w) (hin : ∀ x ∈ xs, x.inr) (a : Option Addr) (cap : Nat) (bs : List Int) (hby : ∀ x ∈ bs, IsB x) (hS : SB w a cap bs) :
    Calls Try.prog 8 #[v, .slice a bs.length cap] w fun e w' => e = .returned (.bool true) ∧ Below w.heap.size w w' := by
  by_cases h : bs.length ≤ 400
  · exact bytes_small HBeg w v xs hv hok hin a cap bs hby hS h
  · exact bytes_big HBeg w v xs hv hok hin a cap bs hby hS (by omega)
end Go.Proofs.Ytbjoljokdjgbnab
