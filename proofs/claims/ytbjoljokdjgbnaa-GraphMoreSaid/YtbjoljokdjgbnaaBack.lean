/-
  Decode takes Encode back, and Encode Decode: the law GraphBack, walked.
-/
import Derived.Test.YtbjoljokdjgbnaaSameE
import Derived.Test.YtbjoljokdjgbnaaOpen
namespace Go.Proofs.Ytbjoljokdjgbnaa
open Go.RowKit Go.Deep
theorem check_cases (n : Int) (es : Edges) : (check n es).2 = 11 ∨ (1 ≤ n ∧ n ≤ 12 ∧ es.length ≤ 30 ∧ ∀ x ∈ es, good n x = true) := by
  unfold check
  split
  · exact .inl rfl
  · rename_i h
    cases hf : es.findIdx? (fun x => !good n x) with
    | some i => exact .inl rfl
    | none =>
      rw [List.findIdx?_eq_none_iff] at hf
      exact .inr ⟨by omega, by omega, by omega, fun x hx => by simpa using hf x hx⟩
theorem seesB_string {w : World} {v : Value} {bs : List Int} (h : SeesB w v bs) (h0 : bs ≠ []) : (convert 41 9 v).run Try.prog w = .ok (.string (strOfNums bs)) w := by
  obtain ⟨a, cap, rfl, h⟩ := h
  rcases h with h | ⟨b, off, rfl, hc⟩
  · exact absurd h h0
  · exact run_convert_bytes_arg w 41 5 Try.underlying41 Try.underlying5 b off _ cap bs rfl hc 9 Try.underlying9
set_option maxRecDepth 100000 in
set_option maxHeartbeats 4000000 in
theorem back_any (n : Int) (v u : Value) (es : Edges) (bs : List Int) (w : World) (hv : ArgE w v es) (hu : SeesB w u bs) (hr : ∀ x ∈ bs, 0 ≤ x ∧ x < 256) (hl : bs.length ≤ 9223372036854775807) :
    Calls Try.prog 6 #[.int .i64 n, v, u] w fun e w' => e = .returned (.bool true) ∧ Below w.heap.size w w' := by
  have C1 := hidI (few_any v es w hv)
  have HU := hidI hu
  have HR := hidI hr
  have hl32 : (es.take 32).length ≤ 32 := by simp; omega
  obtain ⟨fs, hfs⟩ : ∃ fs, es.take 32 = fs := ⟨_, rfl⟩
  rw [hfs] at C1 hl32
  clear hv hu hr hfs
  go_enter Try.func6, Try.ntmps6
  go_wp2_with (go_at_call 9; refine Calls.mono C1.out ?_; rintro e w1 ⟨l, rfl, hs, rfl⟩; refine Hid.out ?_)
  refine hidI ?_
  clear C1
  have HS := hidI hs
  clear hs
  rcases check_cases n fs with hbad | ⟨h1, h2, h3, hgd⟩
  · have C2 := hidI (encode_bad n l fs w HS.out hbad)
    clear hbad
    go_wp2_with (go_at_call 25; refine Calls.mono C2.out ?_; rintro e w3 ⟨rfl, hb3⟩; refine Hid.out ?_)
    refine hidI ?_
    clear C2
    have hu3 := hidI (HU.out.below hb3 (Nat.le_refl _))
    have HB3 := hidI hb3
    clear HU hb3 HS
    cases hf : (fw bs).2 with
    | false =>
      have C5 := hidI (decode_bad u bs w3 hu3.out HR.out hl hf)
      obtain ⟨c1, hc1⟩ : ∃ c1, (fw bs).1 = c1 := ⟨_, rfl⟩
      rw [hc1] at C5
      clear hf hc1 hu3
      go_wp2_with (go_at_call 27; refine Calls.mono C5.out ?_; rintro e w4 ⟨rfl, rfl⟩; refine Hid.out ?_)
      refine hidI ?_
      have C6 := hidI (live_any w3)
      clear C5
      go_wp2_with (go_at_call 14; refine Calls.mono C6.out ?_; rintro e w5 ⟨rfl, hb5⟩; refine Hid.out ?_)
      refine hidI ?_
      have HB5 := hidI (HB3.out.trans (hb5.mono HB3.out.size))
      clear C6 hb5 HB3
      go_wp2
      go_ret
      exact ⟨rfl, HB5.out⟩
    | true =>
      obtain ⟨m, gs, rfl, k1, k2, k3, kg⟩ := fw_true HR.out hf
      have C5 := hidI (decode_ok u m gs w3 hu3.out k1 k2 k3 kg)
      have HK := hidI kg
      clear kg hf
      go_wp2_with (go_at_call 27; refine Calls.mono C5.out ?_; rintro e w4 ⟨q, rfl, hq, hb4⟩; refine Hid.out ?_)
      refine hidI ?_
      clear C5
      have hu4 := hidI (hu3.out.below hb4 (Nat.le_refl _))
      have HB4 := hidI (HB3.out.trans (hb4.mono HB3.out.size))
      have C6 := hidI (encode_ok m q gs w4 hq k1 k2 k3 HK.out)
      clear hu3 HB3 hq hb4
      go_wp2_with (go_at_call 25; refine Calls.mono C6.out ?_; rintro e w5 ⟨y, rfl, hy, hb5⟩; refine Hid.out ?_)
      refine hidI ?_
      clear C6
      have hu5 := hidI (hu4.out.below hb5 (Nat.le_refl _))
      have HB5 := hidI (HB4.out.trans (hb5.mono HB4.out.size))
      have HY := hidI hy
      have C7 := hidI (live_any w5)
      clear hu4 HB4 hb5 hy
      go_wp2_with (go_at_call 14; refine Calls.mono C7.out ?_; rintro e w6 ⟨rfl, hb6⟩; refine Hid.out ?_)
      refine hidI ?_
      clear C7
      have t1 := seesB_string (hu5.out.below hb6 (Nat.le_refl _)) (by simp [enc])
      have t2 := seesB_string (HY.out.below hb6 (Nat.le_refl _)) (by simp [enc])
      have HB6 := hidI (HB5.out.trans (hb6.mono HB5.out.size))
      clear hu5 HY HB5 hb6
      obtain ⟨st, hst⟩ : ∃ st, strOfNums (enc m gs) = st := ⟨_, rfl⟩
      rw [hst] at t1 t2
      clear hst
      go_wp2
      go_ret
      exact ⟨rfl, HB6.out⟩
  · have C2 := hidI (encode_ok n l fs w HS.out h1 h2 h3 hgd)
    have HG := hidI hgd
    clear hgd
    go_wp2_with (go_at_call 25; refine Calls.mono C2.out ?_; rintro e w1 ⟨x, rfl, hx, hb1⟩; refine Hid.out ?_)
    refine hidI ?_
    clear C2
    have hu1 := hidI (HU.out.below hb1 (Nat.le_refl _))
    have hs1 := hidI (HS.out.below hb1 (Nat.le_refl _))
    have HB1 := hidI hb1
    have C3 := hidI (decode_ok x n fs w1 hx h1 h2 h3 HG.out)
    clear HU HS hb1 hx
    go_wp2_with (go_at_call 27; refine Calls.mono C3.out ?_; rintro e w2 ⟨p, rfl, hp, hb2⟩; refine Hid.out ?_)
    refine hidI ?_
    clear C3
    have hu2 := hidI (hu1.out.below hb2 (Nat.le_refl _))
    have hs2 := hidI (hs1.out.below hb2 (Nat.le_refl _))
    have HB2 := hidI (HB1.out.trans (hb2.mono HB1.out.size))
    have C4 := hidI (sameE_any p l fs w2 hp hs2.out (by omega))
    clear hu1 hs1 HB1 hp hb2
    go_wp2_with (go_at_call 22; refine Calls.mono C4.out ?_; rintro e w3 ⟨rfl, hb3⟩; refine Hid.out ?_)
    refine hidI ?_
    clear C4
    have hu3 := hidI (hu2.out.below hb3 (Nat.le_refl _))
    have HB3 := hidI (HB2.out.trans (hb3.mono HB2.out.size))
    clear hu2 hs2 HB2 hb3 HG h1 h2 h3
    cases hf : (fw bs).2 with
    | false =>
      have C5 := hidI (decode_bad u bs w3 hu3.out HR.out hl hf)
      obtain ⟨c1, hc1⟩ : ∃ c1, (fw bs).1 = c1 := ⟨_, rfl⟩
      rw [hc1] at C5
      clear hf hc1 hu3
      go_wp2_with (go_at_call 27; refine Calls.mono C5.out ?_; rintro e w4 ⟨rfl, rfl⟩; refine Hid.out ?_)
      refine hidI ?_
      have C6 := hidI (live_any w3)
      clear C5
      go_wp2_with (go_at_call 14; refine Calls.mono C6.out ?_; rintro e w5 ⟨rfl, hb5⟩; refine Hid.out ?_)
      refine hidI ?_
      have HB5 := hidI (HB3.out.trans (hb5.mono HB3.out.size))
      clear C6 hb5 HB3
      go_wp2
      go_ret
      exact ⟨rfl, HB5.out⟩
    | true =>
      obtain ⟨m, gs, rfl, k1, k2, k3, kg⟩ := fw_true HR.out hf
      have C5 := hidI (decode_ok u m gs w3 hu3.out k1 k2 k3 kg)
      have HK := hidI kg
      clear kg hf
      go_wp2_with (go_at_call 27; refine Calls.mono C5.out ?_; rintro e w4 ⟨q, rfl, hq, hb4⟩; refine Hid.out ?_)
      refine hidI ?_
      clear C5
      have hu4 := hidI (hu3.out.below hb4 (Nat.le_refl _))
      have HB4 := hidI (HB3.out.trans (hb4.mono HB3.out.size))
      have C6 := hidI (encode_ok m q gs w4 hq k1 k2 k3 HK.out)
      clear hu3 HB3 hq hb4
      go_wp2_with (go_at_call 25; refine Calls.mono C6.out ?_; rintro e w5 ⟨y, rfl, hy, hb5⟩; refine Hid.out ?_)
      refine hidI ?_
      clear C6
      have hu5 := hidI (hu4.out.below hb5 (Nat.le_refl _))
      have HB5 := hidI (HB4.out.trans (hb5.mono HB4.out.size))
      have HY := hidI hy
      have C7 := hidI (live_any w5)
      clear hu4 HB4 hb5 hy
      go_wp2_with (go_at_call 14; refine Calls.mono C7.out ?_; rintro e w6 ⟨rfl, hb6⟩; refine Hid.out ?_)
      refine hidI ?_
      clear C7
      have t1 := seesB_string (hu5.out.below hb6 (Nat.le_refl _)) (by simp [enc])
      have t2 := seesB_string (HY.out.below hb6 (Nat.le_refl _)) (by simp [enc])
      have HB6 := hidI (HB5.out.trans (hb6.mono HB5.out.size))
      clear hu5 HY HB5 hb6
      obtain ⟨st, hst⟩ : ∃ st, strOfNums (enc m gs) = st := ⟨_, rfl⟩
      rw [hst] at t1 t2
      clear hst
      go_wp2
      go_ret
      exact ⟨rfl, HB6.out⟩
/-- As the statement has its arguments. -/
theorem graphBack_any (n : Int) (_ : -9223372036854775808 ≤ n ∧ n ≤ 9223372036854775807) {W : World} (v : Value) (es : Edges) (hv : ArgE W v es) (_ : ∀ x ∈ es, Wf x.1 ∧ Wf x.2) (u : Value) (bs : List Int) (hu : ArgB W u bs) (hr : ∀ x ∈ bs, 0 ≤ x ∧ x < 256) :
    Calls Try.prog 6 #[.int .i64 n, v, u] W fun e w' => e = .returned (.bool true) ∧ Below W.heap.size W w' :=
  back_any n v u es bs W hv hu.1 hr hu.short
end Go.Proofs.Ytbjoljokdjgbnaa
