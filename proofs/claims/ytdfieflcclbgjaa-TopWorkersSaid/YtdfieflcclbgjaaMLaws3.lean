/-
  The laws of mail, out of what the program's calls come to (premises): MailSums.
-/
import Derived.Test.YtdfieflcclbgjaaMLaws
import Derived.Test.YtdfieflcclbgjaaRComb
namespace Go.Proofs.Ytdfieflcclbgjaa
open Go.RowKit Go.Deep Go.MapKept Go.Sort
def combRes (os : List Nat) (xs : List Msg) : List Msg × Int := if xs.all (tagOk os) = false then ([], 2) else if xs.all (opOk os) = false then ([], 3) else (sortM (combM os xs), 0)
theorem comb_post {w w' : World} {os : List Nat} {xs : List Msg} {e : Ending} (h : CombPost w os xs e w') : ∃ v, e = .returned (.tuple #[v, .int .i64 (combRes os xs).2]) ∧ SeesM w' v (combRes os xs).1 ∧ Below w.heap.size w w' := by
  obtain ⟨hb, h | h | h⟩ := h
  · obtain ⟨h1, rfl⟩ := h
    unfold combRes
    rw [if_pos h1]
    exact ⟨_, rfl, SeesM.nil, hb⟩
  · obtain ⟨h1, h2, rfl⟩ := h
    unfold combRes
    rw [if_neg (by simp [h1]), if_pos h2]
    exact ⟨_, rfl, SeesM.nil, hb⟩
  · obtain ⟨h1, h2, v, rfl, h3⟩ := h
    unfold combRes
    rw [if_neg (by simp [h1]), if_neg (by simp [h2])]
    exact ⟨v, rfl, h3, hb⟩
theorem combRes_len (os : List Nat) (xs : List Msg) : (combRes os xs).1.length ≤ xs.length := by
  unfold combRes
  split
  · simp
  · split
    · simp
    · simp only [sortM_length]
      have := combM_len os xs []
      simpa [combM] using this
def takeRes (o : Nat) (tag x : Int) (xs : List Msg) : Int × Int := if redB (o : Int) = true then (takeM o tag x xs, 0) else (0, 2)
theorem rtake_res (w : World) (v : Value) (xs : List Msg) (x tag : Int) (o : Nat) (hv : SeesM w v xs) (hl : xs.length ≤ 10000) : Calls Try.prog 22 #[.int .i64 x, .int .u8 (o : Int), .int .i64 tag, v] w fun e w' => e = .returned (.tuple #[.int .i64 (takeRes o tag x xs).1, .int .i64 (takeRes o tag x xs).2]) ∧ Below w.heap.size w w' := by
  unfold takeRes
  by_cases h : redB (o : Int) = true
  · rw [if_pos h]
    exact rtaken_any w v xs x tag o h hv hl
  · rw [if_neg h]
    exact (rtaken_bad w v x tag (o : Int) (by simpa using h)).mono (by rintro e w' ⟨rfl, rfl⟩; exact ⟨rfl, Below.refl _ _⟩)
def PCombined : Prop := ∀ (w : World) (v u : Value) (xs : List Msg) (os : List Nat), (∀ x ∈ xs, In64 x.to ∧ In64 x.tag) → SeesM w v xs → SeesO w u os → xs.length ≤ 500 → os.length ≤ 500 → Calls Try.prog 19 #[v, u] w fun e w' => ∃ r, e = .returned (.tuple #[r, .int .i64 (combRes os xs).2]) ∧ SeesM w' r (combRes os xs).1 ∧ Below w.heap.size w w'
def PTaken : Prop := ∀ (w : World) (v : Value) (xs : List Msg) (x tag : Int) (o : Nat), SeesM w v xs → xs.length ≤ 500 → Calls Try.prog 21 #[.int .i64 x, .int .u8 (o : Int), .int .i64 tag, v] w fun e w' => e = .returned (.tuple #[.int .i64 (takeRes o tag x xs).1, .int .i64 (takeRes o tag x xs).2]) ∧ Below w.heap.size w w'
theorem SeesO.below {w w' : World} {B : Nat} {v : Value} {os : List Nat} (h : SeesO w v os) (hb : Below B w w') (hB : w.heap.size ≤ B) : SeesO w' v os := by
  obtain ⟨a, cap, rfl, h⟩ := h
  refine ⟨a, cap, rfl, h.imp_right ?_⟩
  rintro ⟨b, off, rfl, h2⟩
  exact ⟨b, off, rfl, fun j o ho => (hb.cell (Nat.lt_of_lt_of_le (World.block_lt_of_cell? w _ (h2 j o ho)) hB)).trans (h2 j o ho)⟩
theorem ops_any (w : World) (v : Value) (os : List Nat) (hv : SeesO w v os) (hr : ∃ a n c, v = .slice a n c ∧ n ≤ c) : Calls Try.prog 18 #[v] w fun e w' => ∃ v', e = .returned v' ∧ SeesO w v' (os.take 10) ∧ w = w' := by
  have HV := hidI hv
  obtain ⟨a, cap, rfl, hs⟩ := hv
  have hcap : os.length ≤ cap := by obtain ⟨_, _, _, he, hc⟩ := hr; cases he; exact hc
  clear hr
  obtain ⟨n, hn⟩ : ∃ n, os.length = n := ⟨_, rfl⟩
  by_cases h : 10 < n
  · have hne : os ≠ [] := fun e => by rw [e] at hn; simp at hn; omega
    obtain ⟨b, off, rfl, hs2⟩ := hs.resolve_left hne
    have HR : Hid (SeesO w (.slice (some ⟨b, off, none⟩) 10 cap) (os.take 10)) := hidI ⟨_, cap, by rw [List.length_take]; simp; omega, .inr ⟨b, off, rfl, fun j x hx => hs2 j x (by
      rw [List.getElem?_take] at hx
      split at hx
      · exact hx
      · cases hx)⟩⟩
    have k1 : (10 : Int) < (n : Int) := by omega
    have k2 : (10 : Int) ≤ (cap : Int) := by omega
    have k3 : 10 ≤ cap := by omega
    rw [hn]
    clear hs hs2 hcap hn HV hne
    go_enter Try.func18, Try.ntmps18
    go_wp2
    go_ret
    exact ⟨_, rfl, HR.out, rfl⟩
  · have HR : Hid (SeesO w (.slice a n cap) (os.take 10)) := hidI (by rw [List.take_of_length_le (by omega), ← hn]; exact HV.out)
    have k1 : decide ((10 : Int) < (n : Int)) = false := by rw [decide_eq_false_iff_not]; omega
    have k2 : decide (10 < n) = false := by simpa using h
    rw [hn]
    clear hs hcap hn HV
    go_enter Try.func18, Try.ntmps18
    go_wp2
    go_ret
    exact ⟨_, rfl, HR.out, rfl⟩
set_option maxRecDepth 100000 in
set_option maxHeartbeats 1000000 in
theorem mailSums_law (hL : PLive) (h1 : PCombined) (h2 : PTaken) (w : World) (v u : Value) (xs0 : List Msg) (os0 : List Nat) (x : Int) (hin : ∀ x ∈ xs0, In64 x.to ∧ In64 x.tag) (hv : SeesM w v xs0) (hu : SeesO w u os0) (hr : ∃ a n c, u = .slice a n c ∧ n ≤ c) :
    Calls Try.prog 4 #[v, u, .int .i64 x] w fun e w' => e = .returned (.bool true) ∧ Below w.heap.size w w' := by
  have C0 := hidI (few_any w v xs0 hv)
  have C1 := hidI (ops_any w u os0 hu hr)
  obtain ⟨xs, hxs⟩ : ∃ xs, xs0.take 50 = xs := ⟨_, rfl⟩
  have hl : xs.length ≤ 50 := by rw [← hxs, List.length_take]; omega
  obtain ⟨os, hos⟩ : ∃ os, os0.take 10 = os := ⟨_, rfl⟩
  have hol : os.length ≤ 10 := by rw [← hos, List.length_take]; omega
  rw [hxs] at C0
  rw [hos] at C1
  have HIn : Hid (∀ x ∈ xs, In64 x.to ∧ In64 x.tag) := hidI fun x hx => hin x (by rw [← hxs] at hx; exact List.mem_of_mem_take hx)
  have HL := hidI hL
  have H1 := hidI h1
  have H2 := hidI h2
  clear hxs hos hv hu hr hL h1 h2 hin
  go_enter Try.func4, Try.ntmps4
  go_wp2_with (first | (go_at_call 9; refine Calls.mono C0.out ?_; rintro e w1 ⟨v1, rfl, hs1, rfl⟩) | (go_at_call 18; refine Calls.mono C1.out ?_; rintro e w1 ⟨u1, rfl, hs2, rfl⟩; refine Hid.out ?_))
  refine hidI ?_
  have HS : Hid (∀ y, Below w.heap.size w y → SeesM y v1 xs) := hidI fun y hy => hs1.below hy (Nat.le_refl _)
  have HU : Hid (∀ y, Below w.heap.size w y → SeesO y u1 os) := hidI fun y hy => hs2.below hy (Nat.le_refl _)
  clear hs1 hs2 C0 C1
  obtain ⟨ms, hms⟩ : ∃ ms, (combRes os xs).1 = ms := ⟨_, rfl⟩
  obtain ⟨E, hE⟩ : ∃ E, (combRes os xs).2 = E := ⟨_, rfl⟩
  have hml : ms.length ≤ 100 := by rw [← hms]; have := combRes_len os xs; omega
  have C := hidI (H1.out w v1 u1 xs os HIn.out (HS.out _ (Below.refl _ _)) (HU.out _ (Below.refl _ _)) (by omega) (by omega))
  rw [hms, hE] at C
  go_wp2_with (go_at_call 19; refine Calls.mono C.out ?_; rintro e w2 ⟨r2, rfl, hs, hb⟩; refine Hid.out ?_)
  refine hidI ?_
  have B2 := hidI hb
  have S2 := hidI hs
  clear hs hb C
  have C := hidI (rcombined_any w2 v1 u1 xs os (HS.out _ B2.out) (HU.out _ B2.out) (by omega))
  have C' : Hid (Calls Try.prog 20 #[v1, u1] w2 fun e w' => ∃ v, e = .returned (.tuple #[v, .int .i64 E]) ∧ SeesM w' v ms ∧ Below w2.heap.size w2 w') := hidI (C.out.mono fun e w' h => by have := comb_post h; rw [hms, hE] at this; exact this)
  clear C hms hE
  go_wp2_with (go_at_call 20; refine Calls.mono C'.out ?_; rintro e w3 ⟨r3, rfl, hs, hb⟩; refine Hid.out ?_)
  refine hidI ?_
  have B3 := hidI (B2.out.trans (hb.mono B2.out.size))
  have S3 := hidI hs
  have Q2 := hidI (S2.out.below hb (Nat.le_refl _))
  clear hs hb C' S2
  obtain ⟨oa, oc, he1, _⟩ := HU.out _ B3.out
  subst he1
  obtain ⟨n, hn⟩ : ∃ n, os.length = n := ⟨_, rfl⟩
  have HN := hidI hn
  rw [hn] at hol HU ⊢
  clear hn
  go_wp2
  go_loopg [11] n (fun g s11 wx => ∃ i : Nat, i + g = n ∧ s11 = .int .i64 (i : Int) ∧ Hid (Below w3.heap.size w3 wx))
  case atStart => exact ⟨0, by omega, rfl, hidI (Below.refl _ _)⟩
  case round =>
    obtain ⟨i, hig, rfl, HBx⟩ := hrel
    have HBw := hidI (B3.out.trans (HBx.out.mono B3.out.size))
    cases gk with
    | zero =>
      obtain rfl : n = i := by omega
      have k7 : decide ((n : Int) < (n : Int)) = false := by simp
      have C := hidI (HL.out wr)
      go_wp2_with (go_at_call 10; refine Calls.mono C.out ?_; rintro e w4 ⟨rfl, hb⟩; refine Hid.out ?_)
      refine hidI ?_
      have B4 := hidI (HBw.out.trans (hb.mono HBw.out.size))
      have P2 := hidI ((Q2.out.below HBx.out (Nat.le_refl _)).below hb (Nat.le_refl _))
      have P3 := hidI ((S3.out.below HBx.out (Nat.le_refl _)).below hb (Nat.le_refl _))
      clear hb C
      have C := hidI (rsame_eq w4 r2 r3 ms P2.out P3.out (by omega))
      go_wp2_with (go_at_call 11; refine Calls.mono C.out ?_; rintro e w5 ⟨rfl, hb⟩; refine Hid.out ?_)
      refine hidI ?_
      have B5 := hidI (B4.out.trans (hb.mono B4.out.size))
      clear hb C
      have kE : (E == E) = true := by simp
      go_wp2
      go_ret
      exact ⟨rfl, B5.out⟩
    | succ g =>
      have k7 : (i : Int) < (n : Int) := by omega
      obtain ⟨o, ho⟩ : ∃ o, os[i]? = some o := ⟨_, List.getElem?_eq_getElem (by have := HN.out; omega)⟩
      obtain ⟨b1, o1, c1, e1, y0⟩ := (HU.out _ HBw.out).cell ho
      rw [HN.out] at e1
      cases e1
      obtain ⟨T1, hT1⟩ : ∃ T1, (takeRes o (i : Int) x xs).1 = T1 := ⟨_, rfl⟩
      obtain ⟨T2, hT2⟩ : ∃ T2, (takeRes o (i : Int) x xs).2 = T2 := ⟨_, rfl⟩
      have CP := hidI (H2.out wr v1 xs x (i : Int) o (HS.out _ HBw.out) (by omega))
      have CR : Hid (∀ y, Below w.heap.size w y → Calls Try.prog 22 #[.int .i64 x, .int .u8 (o : Int), .int .i64 (i : Int), v1] y fun e w' => e = .returned (.tuple #[.int .i64 (takeRes o (i : Int) x xs).1, .int .i64 (takeRes o (i : Int) x xs).2]) ∧ Below y.heap.size y w') := hidI fun y hy => rtake_res y v1 xs x (i : Int) o (HS.out _ hy) (by omega)
      rw [hT1, hT2] at CP CR
      have hyl := World.block_lt_of_cell? wr _ y0
      clear ho hT1 hT2
      go_wp2_with (go_at_call 21; refine Calls.mono CP.out ?_; rintro e w4 ⟨rfl, hb⟩; refine Hid.out ?_)
      refine hidI ?_
      have B4 := hidI (HBw.out.trans (hb.mono HBw.out.size))
      have BX4 := hidI (HBx.out.trans (hb.mono HBx.out.size))
      have y4 : w4.cell? ⟨b1, o1 + i, none⟩ = some (.int .u8 (o : Int)) := (hb.cell hyl).trans y0
      clear hb CP y0
      go_wp2_with (go_at_call 22; refine Calls.mono (CR.out _ B4.out) ?_; rintro e w5 ⟨rfl, hb⟩; refine Hid.out ?_)
      refine hidI ?_
      have BX5 := hidI (BX4.out.trans (hb.mono BX4.out.size))
      clear hb CR y4
      have kT1 : (T1 == T1) = true := by simp
      have kT2 : (T2 == T2) = true := by simp
      go_wp2
      go_roundg g
      case measure => omega
      case rel => exact ⟨i + 1, by omega, by go_num, BX5⟩
end Go.Proofs.Ytdfieflcclbgjaa
