/-
  A graph's bytes as the document says them: the law GraphBytes, walked.
-/
import Derived.Test.YtbjoljokdjgbnaaRDec
import Derived.Test.YtbjoljokdjgbnaaBack
namespace Go.Proofs.Ytbjoljokdjgbnaa
open Go.RowKit Go.Deep
theorem nil_string (w : World) (l c : Nat) : (convert 41 9 (.slice none l c)).run Try.prog w = .ok (.string ByteArray.empty) w :=
  run_convert_bytes_nil w 41 5 Try.underlying41 Try.underlying5 l c 9 Try.underlying9
set_option maxRecDepth 100000 in
set_option maxHeartbeats 8000000 in
theorem bytes_in (n : Int) (v u : Value) (es : Edges) (bs : List Int) (w : World) (hv : ArgE w v es) (hu : SeesB w u bs) (hr : ∀ x ∈ bs, 0 ≤ x ∧ x < 256) (hl : bs.length ≤ 100) :
    Calls Try.prog 5 #[.int .i64 n, v, u] w fun e w' => e = .returned (.bool true) ∧ Below w.heap.size w w' := by
  have C1 := hidI (few_any v es w hv)
  have HV := hidI hv
  have HU := hidI hu
  have HR := hidI hr
  have hl32 : (es.take 32).length ≤ 32 := by simp; omega
  obtain ⟨fs, hfs⟩ : ∃ fs, es.take 32 = fs := ⟨_, rfl⟩
  rw [hfs] at C1 hl32
  have d100 : ∃ a len cap, u = .slice a len cap ∧ decide ((100 : Int) < (len : Int)) = false := by
    obtain ⟨a, cap, rfl, _⟩ := hu
    exact ⟨a, _, cap, rfl, by simp; omega⟩
  obtain ⟨ua, ulen, ucap, rfl, hd⟩ := d100
  have HF := hidI hfs
  clear hv hu hr hfs
  go_enter Try.func5, Try.ntmps5
  go_wp2_with (go_at_call 9; refine Calls.mono C1.out ?_; rintro e w1 ⟨l, rfl, hs, rfl⟩; refine Hid.out ?_)
  refine hidI ?_
  have HS := hidI hs
  clear hs C1
  rcases check_cases n fs with hbad | ⟨h1, h2, h3, hgd⟩
  · have C2 := hidI (encode_bad n l fs w HS.out hbad)
    go_wp2_with (go_at_call 25; refine Calls.mono C2.out ?_; rintro e w1 ⟨rfl, hb1⟩; refine Hid.out ?_)
    refine hidI ?_
    clear C2 HS
    have hu1 := hidI (HU.out.below hb1 (Nat.le_refl _))
    have HB1 := hidI hb1
    have C3 := hidI (few_any v es w1 ⟨HV.out.1.below hb1 (Nat.le_refl _), HV.out.2⟩)
    rw [HF.out] at C3
    clear HU HV hb1
    go_wp2_with (go_at_call 9; refine Calls.mono C3.out ?_; rintro e w2 ⟨l2, rfl, hs2, rfl⟩; refine Hid.out ?_)
    refine hidI ?_
    have C4 := hidI (rencode_bad n l2 fs w1 hs2 hbad)
    clear C3 hs2 hbad
    go_wp2_with (go_at_call 26; refine Calls.mono C4.out ?_; rintro e w2 ⟨rfl, rfl⟩; refine Hid.out ?_)
    refine hidI ?_
    clear C4
    have SX : ∀ w6 : World, Below w1.heap.size w1 w6 → (convert 41 9 (.slice none 0 0)).run Try.prog w6 = .ok (.string ByteArray.empty) w6 := fun w6 _ => nil_string w6 0 0
    have SX := hidI SX
    have SY := SX
    obtain ⟨st, hst⟩ : ∃ st, ByteArray.empty = st := ⟨_, rfl⟩
    rw [hst] at SX SY
    clear hst
    have W2 : Hid (Below w1.heap.size w1 w1) := Below.refl _ _
    obtain ⟨w2, hw2⟩ : ∃ w2, w2 = w1 := ⟨_, rfl⟩
    have hu2 : Hid (SeesB w2 (.slice ua ulen ucap) bs) := by rw [hw2]; exact hu1
    have HB2 : Hid (Below w.heap.size w w2) := by rw [hw2]; exact HB1
    have B12 : Hid (Below w1.heap.size w1 w2) := by rw [hw2]; exact W2
    rw [← hw2]
    clear hw2 W2 hu1
    cases hf : (fw bs).2 with
    | false =>
      have C5 := hidI (decode_bad _ bs w2 hu2.out HR.out (by omega) hf)
      have C6 := hidI (rdecode_bad _ bs w2 hu2.out HR.out (by omega) hf)
      obtain ⟨c1, hc1⟩ : ∃ c1, (fw bs).1 = c1 := ⟨_, rfl⟩
      rw [hc1] at C5 C6
      clear hf hc1 hu2
      go_wp2_with (go_at_call 27; refine Calls.mono C5.out ?_; rintro e w4 ⟨rfl, rfl⟩; refine Hid.out ?_)
      refine hidI ?_
      clear C5
      go_wp2_with (go_at_call 28; refine Calls.mono C6.out ?_; rintro e w4 ⟨rfl, hb4⟩; refine Hid.out ?_)
      refine hidI ?_
      clear C6
      have HB4 := hidI (HB2.out.trans (hb4.mono HB2.out.size))
      have B14 := hidI (B12.out.trans (hb4.mono B12.out.size))
      have B24 := hidI hb4
      have C7 := hidI (live_any w4)
      clear hb4 HB2 B12
      go_wp2_with (go_at_call 14; refine Calls.mono C7.out ?_; rintro e w5 ⟨rfl, hb5⟩; refine Hid.out ?_)
      refine hidI ?_
      clear C7
      have HB5 := hidI (HB4.out.trans (hb5.mono HB4.out.size))
      have t1 := SX.out w5 (B14.out.trans (hb5.mono B14.out.size))
      have t2 := SY.out w5 (B14.out.trans (hb5.mono B14.out.size))
      have C8 := hidI (sameE_empty none none 0 0 w5)
      clear hb5 HB4 B14 B24 SX SY
      go_wp2_with (go_at_call 22; refine Calls.mono C8.out ?_; rintro e w6 ⟨rfl, hb6⟩; refine Hid.out ?_)
      refine hidI ?_
      have HB6 := hidI (HB5.out.trans (hb6.mono HB5.out.size))
      clear C8 hb6 HB5
      go_wp2
      go_ret
      exact ⟨rfl, HB6.out⟩
    | true =>
      obtain ⟨m, gs, rfl, k1, k2, k3, kg⟩ := fw_true HR.out hf
      have C5 := hidI (decode_ok _ m gs w2 hu2.out k1 k2 k3 kg)
      have HK := hidI kg
      clear kg hf
      go_wp2_with (go_at_call 27; refine Calls.mono C5.out ?_; rintro e w3 ⟨q, rfl, hq, hb3⟩; refine Hid.out ?_)
      refine hidI ?_
      clear C5
      have HQ := hidI hq
      have HB3 := hidI (HB2.out.trans (hb3.mono HB2.out.size))
      have B13 := hidI (B12.out.trans (hb3.mono B12.out.size))
      have B23 := hidI hb3
      have C6 := hidI (rdecode_ok _ m gs w3 (hu2.out.below hb3 (Nat.le_refl _)) k1 k2 k3 HK.out)
      clear hu2 hb3 hq HB2 B12
      go_wp2_with (go_at_call 28; refine Calls.mono C6.out ?_; rintro e w4 ⟨r, rfl, hr4, hb4⟩; refine Hid.out ?_)
      refine hidI ?_
      clear C6
      have HB4 := hidI (HB3.out.trans (hb4.mono HB3.out.size))
      have B14 := hidI (B13.out.trans (hb4.mono B13.out.size))
      have B24 := hidI (B23.out.trans (hb4.mono B23.out.size))
      have HQ4 := hidI (HQ.out.below hb4 (Nat.le_refl _))
      have HR4 := hidI hr4
      have C7 := hidI (live_any w4)
      clear hb4 hr4 HB3 B13 B23 HQ
      go_wp2_with (go_at_call 14; refine Calls.mono C7.out ?_; rintro e w5 ⟨rfl, hb5⟩; refine Hid.out ?_)
      refine hidI ?_
      clear C7
      have HB5 := hidI (HB4.out.trans (hb5.mono HB4.out.size))
      have t1 := SX.out w5 (B14.out.trans (hb5.mono B14.out.size))
      have t2 := SY.out w5 (B14.out.trans (hb5.mono B14.out.size))
      have C8 := hidI (sameE_any q r gs w5 (HQ4.out.below hb5 (Nat.le_refl _)) (HR4.out.below hb5 (Nat.le_refl _)) (by omega))
      clear hb5 HB4 B14 B24 SX SY HQ4 HR4
      go_wp2_with (go_at_call 22; refine Calls.mono C8.out ?_; rintro e w6 ⟨rfl, hb6⟩; refine Hid.out ?_)
      refine hidI ?_
      have HB6 := hidI (HB5.out.trans (hb6.mono HB5.out.size))
      clear C8 hb6 HB5
      go_wp2
      go_ret
      exact ⟨rfl, HB6.out⟩
  · have C2 := hidI (encode_ok n l fs w HS.out h1 h2 h3 hgd)
    have HG := hidI hgd
    clear hgd
    go_wp2_with (go_at_call 25; refine Calls.mono C2.out ?_; rintro e w1 ⟨x, rfl, hx, hb1⟩; refine Hid.out ?_)
    refine hidI ?_
    clear C2 HS
    have hu1 := hidI (HU.out.below hb1 (Nat.le_refl _))
    have HB1 := hidI hb1
    have HX := hidI hx
    have C3 := hidI (few_any v es w1 ⟨HV.out.1.below hb1 (Nat.le_refl _), HV.out.2⟩)
    rw [HF.out] at C3
    clear HU HV hb1 hx
    go_wp2_with (go_at_call 9; refine Calls.mono C3.out ?_; rintro e w2 ⟨l2, rfl, hs2, rfl⟩; refine Hid.out ?_)
    refine hidI ?_
    have C4 := hidI (rencode_ok n l2 fs w1 hs2 h1 h2 h3 HG.out)
    clear C3 hs2
    go_wp2_with (go_at_call 26; refine Calls.mono C4.out ?_; rintro e w2 ⟨y, rfl, hy, hb2⟩; refine Hid.out ?_)
    refine hidI ?_
    clear C4
    have hu2 := hidI (hu1.out.below hb2 (Nat.le_refl _))
    have HB2 := hidI (HB1.out.trans (hb2.mono HB1.out.size))
    have B12 := hidI hb2
    have HY := hidI hy
    have SX := hidI (fun (w6 : World) (hb : Below w1.heap.size w1 w6) => seesB_string (HX.out.below hb (Nat.le_refl _)) (by simp [enc]))
    have SY := hidI (fun (w6 : World) (hb : Below w2.heap.size w2 w6) => seesB_string (HY.out.below hb (Nat.le_refl _)) (by simp [enc]))
    obtain ⟨st, hst⟩ : ∃ st, strOfNums (enc n fs) = st := ⟨_, rfl⟩
    rw [hst] at SX SY
    clear hst hu1 HX HY hb2 hy HG h1 h2 h3
    cases hf : (fw bs).2 with
    | false =>
      have C5 := hidI (decode_bad _ bs w2 hu2.out HR.out (by omega) hf)
      have C6 := hidI (rdecode_bad _ bs w2 hu2.out HR.out (by omega) hf)
      obtain ⟨c1, hc1⟩ : ∃ c1, (fw bs).1 = c1 := ⟨_, rfl⟩
      rw [hc1] at C5 C6
      clear hf hc1 hu2
      go_wp2_with (go_at_call 27; refine Calls.mono C5.out ?_; rintro e w4 ⟨rfl, rfl⟩; refine Hid.out ?_)
      refine hidI ?_
      clear C5
      go_wp2_with (go_at_call 28; refine Calls.mono C6.out ?_; rintro e w4 ⟨rfl, hb4⟩; refine Hid.out ?_)
      refine hidI ?_
      clear C6
      have HB4 := hidI (HB2.out.trans (hb4.mono HB2.out.size))
      have B14 := hidI (B12.out.trans (hb4.mono B12.out.size))
      have B24 := hidI hb4
      have C7 := hidI (live_any w4)
      clear hb4 HB2 B12
      go_wp2_with (go_at_call 14; refine Calls.mono C7.out ?_; rintro e w5 ⟨rfl, hb5⟩; refine Hid.out ?_)
      refine hidI ?_
      clear C7
      have HB5 := hidI (HB4.out.trans (hb5.mono HB4.out.size))
      have t1 := SX.out w5 (B14.out.trans (hb5.mono B14.out.size))
      have t2 := SY.out w5 (B24.out.trans (hb5.mono B24.out.size))
      have C8 := hidI (sameE_empty none none 0 0 w5)
      clear hb5 HB4 B14 B24 SX SY
      go_wp2_with (go_at_call 22; refine Calls.mono C8.out ?_; rintro e w6 ⟨rfl, hb6⟩; refine Hid.out ?_)
      refine hidI ?_
      have HB6 := hidI (HB5.out.trans (hb6.mono HB5.out.size))
      clear C8 hb6 HB5
      go_wp2
      go_ret
      exact ⟨rfl, HB6.out⟩
    | true =>
      obtain ⟨m, gs, rfl, k1, k2, k3, kg⟩ := fw_true HR.out hf
      have C5 := hidI (decode_ok _ m gs w2 hu2.out k1 k2 k3 kg)
      have HK := hidI kg
      clear kg hf
      go_wp2_with (go_at_call 27; refine Calls.mono C5.out ?_; rintro e w3 ⟨q, rfl, hq, hb3⟩; refine Hid.out ?_)
      refine hidI ?_
      clear C5
      have HQ := hidI hq
      have HB3 := hidI (HB2.out.trans (hb3.mono HB2.out.size))
      have B13 := hidI (B12.out.trans (hb3.mono B12.out.size))
      have B23 := hidI hb3
      have C6 := hidI (rdecode_ok _ m gs w3 (hu2.out.below hb3 (Nat.le_refl _)) k1 k2 k3 HK.out)
      clear hu2 hb3 hq HB2 B12
      go_wp2_with (go_at_call 28; refine Calls.mono C6.out ?_; rintro e w4 ⟨r, rfl, hr4, hb4⟩; refine Hid.out ?_)
      refine hidI ?_
      clear C6
      have HB4 := hidI (HB3.out.trans (hb4.mono HB3.out.size))
      have B14 := hidI (B13.out.trans (hb4.mono B13.out.size))
      have B24 := hidI (B23.out.trans (hb4.mono B23.out.size))
      have HQ4 := hidI (HQ.out.below hb4 (Nat.le_refl _))
      have HR4 := hidI hr4
      have C7 := hidI (live_any w4)
      clear hb4 hr4 HB3 B13 B23 HQ
      go_wp2_with (go_at_call 14; refine Calls.mono C7.out ?_; rintro e w5 ⟨rfl, hb5⟩; refine Hid.out ?_)
      refine hidI ?_
      clear C7
      have HB5 := hidI (HB4.out.trans (hb5.mono HB4.out.size))
      have t1 := SX.out w5 (B14.out.trans (hb5.mono B14.out.size))
      have t2 := SY.out w5 (B24.out.trans (hb5.mono B24.out.size))
      have C8 := hidI (sameE_any q r gs w5 (HQ4.out.below hb5 (Nat.le_refl _)) (HR4.out.below hb5 (Nat.le_refl _)) (by omega))
      clear hb5 HB4 B14 B24 SX SY HQ4 HR4
      go_wp2_with (go_at_call 22; refine Calls.mono C8.out ?_; rintro e w6 ⟨rfl, hb6⟩; refine Hid.out ?_)
      refine hidI ?_
      have HB6 := hidI (HB5.out.trans (hb6.mono HB5.out.size))
      clear C8 hb6 HB5
      go_wp2
      go_ret
      exact ⟨rfl, HB6.out⟩
set_option maxRecDepth 100000 in
set_option maxHeartbeats 8000000 in
theorem bytes_over (n : Int) (v : Value) (ux : Addr) (len ucap : Nat) (es : Edges) (bs : List Int) (w : World) (hv : ArgE w v es) (hu : SeesB w (.slice (some ux) 100 ucap) bs) (hr : ∀ x ∈ bs, 0 ≤ x ∧ x < 256) (hl : bs.length ≤ 100) (hlen : 100 < len) (hcap : len ≤ ucap) (hmx : ucap ≤ 9223372036854775807) :
    Calls Try.prog 5 #[.int .i64 n, v, .slice (some ux) len ucap] w fun e w' => e = .returned (.bool true) ∧ Below w.heap.size w w' := by
  have C1 := hidI (few_any v es w hv)
  have HV := hidI hv
  have HU := hidI hu
  have HR := hidI hr
  have hl32 : (es.take 32).length ≤ 32 := by simp; omega
  obtain ⟨fs, hfs⟩ : ∃ fs, es.take 32 = fs := ⟨_, rfl⟩
  rw [hfs] at C1 hl32
  have h100 : (100 : Int) < (len : Int) := by omega
  have HF := hidI hfs
  clear hv hu hr hfs
  go_enter Try.func5, Try.ntmps5
  go_wp2_with (go_at_call 9; refine Calls.mono C1.out ?_; rintro e w1 ⟨l, rfl, hs, rfl⟩; refine Hid.out ?_)
  refine hidI ?_
  have HS := hidI hs
  clear hs C1
  rcases check_cases n fs with hbad | ⟨h1, h2, h3, hgd⟩
  · have C2 := hidI (encode_bad n l fs w HS.out hbad)
    go_wp2_with (go_at_call 25; refine Calls.mono C2.out ?_; rintro e w1 ⟨rfl, hb1⟩; refine Hid.out ?_)
    refine hidI ?_
    clear C2 HS
    have hu1 := hidI (HU.out.below hb1 (Nat.le_refl _))
    have HB1 := hidI hb1
    have C3 := hidI (few_any v es w1 ⟨HV.out.1.below hb1 (Nat.le_refl _), HV.out.2⟩)
    rw [HF.out] at C3
    clear HU HV hb1
    go_wp2_with (go_at_call 9; refine Calls.mono C3.out ?_; rintro e w2 ⟨l2, rfl, hs2, rfl⟩; refine Hid.out ?_)
    refine hidI ?_
    have C4 := hidI (rencode_bad n l2 fs w1 hs2 hbad)
    clear C3 hs2 hbad
    go_wp2_with (go_at_call 26; refine Calls.mono C4.out ?_; rintro e w2 ⟨rfl, rfl⟩; refine Hid.out ?_)
    refine hidI ?_
    clear C4
    have SX : ∀ w6 : World, Below w1.heap.size w1 w6 → (convert 41 9 (.slice none 0 0)).run Try.prog w6 = .ok (.string ByteArray.empty) w6 := fun w6 _ => nil_string w6 0 0
    have SX := hidI SX
    have SY := SX
    obtain ⟨st, hst⟩ : ∃ st, ByteArray.empty = st := ⟨_, rfl⟩
    rw [hst] at SX SY
    clear hst
    have W2 : Hid (Below w1.heap.size w1 w1) := Below.refl _ _
    obtain ⟨w2, hw2⟩ : ∃ w2, w2 = w1 := ⟨_, rfl⟩
    have hu2 : Hid (SeesB w2 (.slice (some ux) 100 ucap) bs) := by rw [hw2]; exact hu1
    have HB2 : Hid (Below w.heap.size w w2) := by rw [hw2]; exact HB1
    have B12 : Hid (Below w1.heap.size w1 w2) := by rw [hw2]; exact W2
    rw [← hw2]
    clear hw2 W2 hu1
    cases hf : (fw bs).2 with
    | false =>
      have C5 := hidI (decode_bad _ bs w2 hu2.out HR.out (by omega) hf)
      have C6 := hidI (rdecode_bad _ bs w2 hu2.out HR.out (by omega) hf)
      obtain ⟨c1, hc1⟩ : ∃ c1, (fw bs).1 = c1 := ⟨_, rfl⟩
      rw [hc1] at C5 C6
      clear hf hc1 hu2
      go_wp2_with (go_at_call 27; refine Calls.mono C5.out ?_; rintro e w4 ⟨rfl, rfl⟩; refine Hid.out ?_)
      refine hidI ?_
      clear C5
      go_wp2_with (go_at_call 28; refine Calls.mono C6.out ?_; rintro e w4 ⟨rfl, hb4⟩; refine Hid.out ?_)
      refine hidI ?_
      clear C6
      have HB4 := hidI (HB2.out.trans (hb4.mono HB2.out.size))
      have B14 := hidI (B12.out.trans (hb4.mono B12.out.size))
      have B24 := hidI hb4
      have C7 := hidI (live_any w4)
      clear hb4 HB2 B12
      go_wp2_with (go_at_call 14; refine Calls.mono C7.out ?_; rintro e w5 ⟨rfl, hb5⟩; refine Hid.out ?_)
      refine hidI ?_
      clear C7
      have HB5 := hidI (HB4.out.trans (hb5.mono HB4.out.size))
      have t1 := SX.out w5 (B14.out.trans (hb5.mono B14.out.size))
      have t2 := SY.out w5 (B14.out.trans (hb5.mono B14.out.size))
      have C8 := hidI (sameE_empty none none 0 0 w5)
      clear hb5 HB4 B14 B24 SX SY
      go_wp2_with (go_at_call 22; refine Calls.mono C8.out ?_; rintro e w6 ⟨rfl, hb6⟩; refine Hid.out ?_)
      refine hidI ?_
      have HB6 := hidI (HB5.out.trans (hb6.mono HB5.out.size))
      clear C8 hb6 HB5
      go_wp2
      go_ret
      exact ⟨rfl, HB6.out⟩
    | true =>
      obtain ⟨m, gs, rfl, k1, k2, k3, kg⟩ := fw_true HR.out hf
      have C5 := hidI (decode_ok _ m gs w2 hu2.out k1 k2 k3 kg)
      have HK := hidI kg
      clear kg hf
      go_wp2_with (go_at_call 27; refine Calls.mono C5.out ?_; rintro e w3 ⟨q, rfl, hq, hb3⟩; refine Hid.out ?_)
      refine hidI ?_
      clear C5
      have HQ := hidI hq
      have HB3 := hidI (HB2.out.trans (hb3.mono HB2.out.size))
      have B13 := hidI (B12.out.trans (hb3.mono B12.out.size))
      have B23 := hidI hb3
      have C6 := hidI (rdecode_ok _ m gs w3 (hu2.out.below hb3 (Nat.le_refl _)) k1 k2 k3 HK.out)
      clear hu2 hb3 hq HB2 B12
      go_wp2_with (go_at_call 28; refine Calls.mono C6.out ?_; rintro e w4 ⟨r, rfl, hr4, hb4⟩; refine Hid.out ?_)
      refine hidI ?_
      clear C6
      have HB4 := hidI (HB3.out.trans (hb4.mono HB3.out.size))
      have B14 := hidI (B13.out.trans (hb4.mono B13.out.size))
      have B24 := hidI (B23.out.trans (hb4.mono B23.out.size))
      have HQ4 := hidI (HQ.out.below hb4 (Nat.le_refl _))
      have HR4 := hidI hr4
      have C7 := hidI (live_any w4)
      clear hb4 hr4 HB3 B13 B23 HQ
      go_wp2_with (go_at_call 14; refine Calls.mono C7.out ?_; rintro e w5 ⟨rfl, hb5⟩; refine Hid.out ?_)
      refine hidI ?_
      clear C7
      have HB5 := hidI (HB4.out.trans (hb5.mono HB4.out.size))
      have t1 := SX.out w5 (B14.out.trans (hb5.mono B14.out.size))
      have t2 := SY.out w5 (B14.out.trans (hb5.mono B14.out.size))
      have C8 := hidI (sameE_any q r gs w5 (HQ4.out.below hb5 (Nat.le_refl _)) (HR4.out.below hb5 (Nat.le_refl _)) (by omega))
      clear hb5 HB4 B14 B24 SX SY HQ4 HR4
      go_wp2_with (go_at_call 22; refine Calls.mono C8.out ?_; rintro e w6 ⟨rfl, hb6⟩; refine Hid.out ?_)
      refine hidI ?_
      have HB6 := hidI (HB5.out.trans (hb6.mono HB5.out.size))
      clear C8 hb6 HB5
      go_wp2
      go_ret
      exact ⟨rfl, HB6.out⟩
  · have C2 := hidI (encode_ok n l fs w HS.out h1 h2 h3 hgd)
    have HG := hidI hgd
    clear hgd
    go_wp2_with (go_at_call 25; refine Calls.mono C2.out ?_; rintro e w1 ⟨x, rfl, hx, hb1⟩; refine Hid.out ?_)
    refine hidI ?_
    clear C2 HS
    have hu1 := hidI (HU.out.below hb1 (Nat.le_refl _))
    have HB1 := hidI hb1
    have HX := hidI hx
    have C3 := hidI (few_any v es w1 ⟨HV.out.1.below hb1 (Nat.le_refl _), HV.out.2⟩)
    rw [HF.out] at C3
    clear HU HV hb1 hx
    go_wp2_with (go_at_call 9; refine Calls.mono C3.out ?_; rintro e w2 ⟨l2, rfl, hs2, rfl⟩; refine Hid.out ?_)
    refine hidI ?_
    have C4 := hidI (rencode_ok n l2 fs w1 hs2 h1 h2 h3 HG.out)
    clear C3 hs2
    go_wp2_with (go_at_call 26; refine Calls.mono C4.out ?_; rintro e w2 ⟨y, rfl, hy, hb2⟩; refine Hid.out ?_)
    refine hidI ?_
    clear C4
    have hu2 := hidI (hu1.out.below hb2 (Nat.le_refl _))
    have HB2 := hidI (HB1.out.trans (hb2.mono HB1.out.size))
    have B12 := hidI hb2
    have HY := hidI hy
    have SX := hidI (fun (w6 : World) (hb : Below w1.heap.size w1 w6) => seesB_string (HX.out.below hb (Nat.le_refl _)) (by simp [enc]))
    have SY := hidI (fun (w6 : World) (hb : Below w2.heap.size w2 w6) => seesB_string (HY.out.below hb (Nat.le_refl _)) (by simp [enc]))
    obtain ⟨st, hst⟩ : ∃ st, strOfNums (enc n fs) = st := ⟨_, rfl⟩
    rw [hst] at SX SY
    clear hst hu1 HX HY hb2 hy HG h1 h2 h3
    cases hf : (fw bs).2 with
    | false =>
      have C5 := hidI (decode_bad _ bs w2 hu2.out HR.out (by omega) hf)
      have C6 := hidI (rdecode_bad _ bs w2 hu2.out HR.out (by omega) hf)
      obtain ⟨c1, hc1⟩ : ∃ c1, (fw bs).1 = c1 := ⟨_, rfl⟩
      rw [hc1] at C5 C6
      clear hf hc1 hu2
      go_wp2_with (go_at_call 27; refine Calls.mono C5.out ?_; rintro e w4 ⟨rfl, rfl⟩; refine Hid.out ?_)
      refine hidI ?_
      clear C5
      go_wp2_with (go_at_call 28; refine Calls.mono C6.out ?_; rintro e w4 ⟨rfl, hb4⟩; refine Hid.out ?_)
      refine hidI ?_
      clear C6
      have HB4 := hidI (HB2.out.trans (hb4.mono HB2.out.size))
      have B14 := hidI (B12.out.trans (hb4.mono B12.out.size))
      have B24 := hidI hb4
      have C7 := hidI (live_any w4)
      clear hb4 HB2 B12
      go_wp2_with (go_at_call 14; refine Calls.mono C7.out ?_; rintro e w5 ⟨rfl, hb5⟩; refine Hid.out ?_)
      refine hidI ?_
      clear C7
      have HB5 := hidI (HB4.out.trans (hb5.mono HB4.out.size))
      have t1 := SX.out w5 (B14.out.trans (hb5.mono B14.out.size))
      have t2 := SY.out w5 (B24.out.trans (hb5.mono B24.out.size))
      have C8 := hidI (sameE_empty none none 0 0 w5)
      clear hb5 HB4 B14 B24 SX SY
      go_wp2_with (go_at_call 22; refine Calls.mono C8.out ?_; rintro e w6 ⟨rfl, hb6⟩; refine Hid.out ?_)
      refine hidI ?_
      have HB6 := hidI (HB5.out.trans (hb6.mono HB5.out.size))
      clear C8 hb6 HB5
      go_wp2
      go_ret
      exact ⟨rfl, HB6.out⟩
    | true =>
      obtain ⟨m, gs, rfl, k1, k2, k3, kg⟩ := fw_true HR.out hf
      have C5 := hidI (decode_ok _ m gs w2 hu2.out k1 k2 k3 kg)
      have HK := hidI kg
      clear kg hf
      go_wp2_with (go_at_call 27; refine Calls.mono C5.out ?_; rintro e w3 ⟨q, rfl, hq, hb3⟩; refine Hid.out ?_)
      refine hidI ?_
      clear C5
      have HQ := hidI hq
      have HB3 := hidI (HB2.out.trans (hb3.mono HB2.out.size))
      have B13 := hidI (B12.out.trans (hb3.mono B12.out.size))
      have B23 := hidI hb3
      have C6 := hidI (rdecode_ok _ m gs w3 (hu2.out.below hb3 (Nat.le_refl _)) k1 k2 k3 HK.out)
      clear hu2 hb3 hq HB2 B12
      go_wp2_with (go_at_call 28; refine Calls.mono C6.out ?_; rintro e w4 ⟨r, rfl, hr4, hb4⟩; refine Hid.out ?_)
      refine hidI ?_
      clear C6
      have HB4 := hidI (HB3.out.trans (hb4.mono HB3.out.size))
      have B14 := hidI (B13.out.trans (hb4.mono B13.out.size))
      have B24 := hidI (B23.out.trans (hb4.mono B23.out.size))
      have HQ4 := hidI (HQ.out.below hb4 (Nat.le_refl _))
      have HR4 := hidI hr4
      have C7 := hidI (live_any w4)
      clear hb4 hr4 HB3 B13 B23 HQ
      go_wp2_with (go_at_call 14; refine Calls.mono C7.out ?_; rintro e w5 ⟨rfl, hb5⟩; refine Hid.out ?_)
      refine hidI ?_
      clear C7
      have HB5 := hidI (HB4.out.trans (hb5.mono HB4.out.size))
      have t1 := SX.out w5 (B14.out.trans (hb5.mono B14.out.size))
      have t2 := SY.out w5 (B24.out.trans (hb5.mono B24.out.size))
      have C8 := hidI (sameE_any q r gs w5 (HQ4.out.below hb5 (Nat.le_refl _)) (HR4.out.below hb5 (Nat.le_refl _)) (by omega))
      clear hb5 HB4 B14 B24 SX SY HQ4 HR4
      go_wp2_with (go_at_call 22; refine Calls.mono C8.out ?_; rintro e w6 ⟨rfl, hb6⟩; refine Hid.out ?_)
      refine hidI ?_
      have HB6 := hidI (HB5.out.trans (hb6.mono HB5.out.size))
      clear C8 hb6 HB5
      go_wp2
      go_ret
      exact ⟨rfl, HB6.out⟩
/-- As the statement has its arguments. -/
theorem graphBytes_any (n : Int) (_ : -9223372036854775808 ≤ n ∧ n ≤ 9223372036854775807) {W : World} (v : Value) (es : Edges) (hv : ArgE W v es) (_ : ∀ x ∈ es, Wf x.1 ∧ Wf x.2) (u : Value) (bs : List Int) (hu : ArgB W u bs) (hr : ∀ x ∈ bs, 0 ≤ x ∧ x < 256) :
    Calls Try.prog 5 #[.int .i64 n, v, u] W fun e w' => e = .returned (.bool true) ∧ Below W.heap.size W w' := by
  by_cases hl : bs.length ≤ 100
  · exact bytes_in n v u es bs W hv hu.1 hr hl
  · obtain ⟨⟨a, cap, rfl, hs⟩, a', len', cap', he, h1, h2⟩ := hu
    cases he
    rcases hs with h0 | ⟨b, off, rfl, hc⟩
    · subst h0; simp at hl
    have e100 : (bs.take 100).length = 100 := by rw [List.length_take]; omega
    refine bytes_over n v _ _ _ es (bs.take 100) W hv ⟨some ⟨b, off, none⟩, cap, by rw [e100], .inr ⟨b, off, rfl, fun j hj => ?_⟩⟩ (fun x hx => hr x (List.mem_of_mem_take hx)) (by omega) (by omega) h1 h2
    rw [e100] at hj
    rw [show (bs.take 100).getD j 0 = bs.getD j 0 by simp [List.getD, hj]]
    exact hc j (by omega)
end Go.Proofs.Ytbjoljokdjgbnaa
