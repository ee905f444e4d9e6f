/-
  Tokens that are the same; what must be whatever is asked.
-/
import Derived.Test.YtlhjellnolhppaaDoorLine
namespace Go.Proofs.YtlhjellnolhppaaDoor
open Go.RowKit Go.Deep Go.MapKept
theorem SeesC.tok {w : World} {v : Value} {xs : List Tok} (h : SeesC w v xs.length 4 (flatT xs)) {j : Nat} {x : Tok} (hx : xs[j]? = some x) : ∃ b off cap, v = .slice (some ⟨b, off, none⟩) xs.length cap ∧
    w.cell? ⟨b, off + j * 4, none⟩ = some (.int .u8 x.k) ∧ w.cell? ⟨b, off + j * 4 + 1, none⟩ = some (.string x.s) ∧ w.cell? ⟨b, off + j * 4 + 2, none⟩ = some (.int .i64 x.n) ∧ w.cell? ⟨b, off + j * 4 + 3, none⟩ = some (.int .i64 x.p) := by
  obtain ⟨_, a, cap, rfl, h0 | ⟨b, off, rfl, hc⟩⟩ := h
  · have := (List.getElem?_eq_some_iff.1 hx).1; omega
  · refine ⟨b, off, cap, rfl, ?_, ?_, ?_, ?_⟩
    · have := hc (j * 4 + 0) (.int .u8 x.k) (flatT_get xs j 0 x hx (by decide)); exact this
    · have := hc (j * 4 + 1) (.string x.s) (flatT_get xs j 1 x hx (by decide)); rw [← Nat.add_assoc] at this; exact this
    · have := hc (j * 4 + 2) (.int .i64 x.n) (flatT_get xs j 2 x hx (by decide)); rw [← Nat.add_assoc] at this; exact this
    · have := hc (j * 4 + 3) (.int .i64 x.p) (flatT_get xs j 3 x hx (by decide)); rw [← Nat.add_assoc] at this; exact this
@[go_sem] theorem eq38 (x : Tok) (w : World) : (Op.equalIn 10000 38 (.agg #[.int .u8 x.k, .string x.s, .int .i64 x.n, .int .i64 x.p]) (.agg #[.int .u8 x.k, .string x.s, .int .i64 x.n, .int .i64 x.p])).run Tryd.prog w = .ok true w := by
  have u32 := Tryd.underlying32
  have u9 := Tryd.underlying9
  have u36 := Tryd.underlying36
  have u3 := Tryd.underlying3
  have hS : Tryd.prog.underlying 38 = some (.struct (Tryd.prog.fieldsOf 38)) := by kernel_rfl
  have hp : Tryd.prog.stoodInHeld 38 = false := by kernel_rfl
  rw [show (10000 : Nat) = 9999 + 1 from rfl, run_equalIn_agg w 9999 38 _ _ hS hp]
  simp only [Program.fieldsOf, Tryd.underlying38]
  go_simp
set_option maxRecDepth 100000 in
set_option maxHeartbeats 1000000 in
theorem rsame_eq (w : World) (u v : Value) (xs : List Tok) (hu : SeesC w u xs.length 4 (flatT xs)) (hv : SeesC w v xs.length 4 (flatT xs)) (hl : xs.length ≤ 600) :
    Calls Tryd.prog 12 #[u, v] w fun e w' => e = .returned (.bool true) ∧ Below w.heap.size w w' := by
  have HU := hidI hu
  have HV := hidI hv
  obtain ⟨_, a, cap, rfl, _⟩ := hu
  obtain ⟨_, b, cap', rfl, _⟩ := hv
  obtain ⟨n, hn⟩ : ∃ n, xs.length = n := ⟨_, rfl⟩
  have HN := hidI hn
  rw [hn] at hl ⊢
  clear hn
  go_enter Tryd.func12, Tryd.ntmps12
  go_wp2
  go_loopg [5] n (fun g s5 wx => ∃ i : Nat, i + g = n ∧ s5 = .int .i64 i ∧ Hid (Below w.heap.size w wx))
  case atStart => exact ⟨0, by omega, rfl, hidI (Below.refl _ _)⟩
  case round =>
    obtain ⟨i, hig, rfl, HX⟩ := hrel
    cases gk with
    | zero =>
      obtain rfl : n = i := by omega
      have k1 : decide ((n : Int) < (n : Int)) = false := by simp
      go_wp2
      go_ret
      exact ⟨rfl, HX.out⟩
    | succ g =>
      have k1 : (i : Int) < (n : Int) := by omega
      obtain ⟨x, hx⟩ : ∃ x, xs[i]? = some x := ⟨_, List.getElem?_eq_getElem (by have := HN.out; omega)⟩
      obtain ⟨ca, pa, cpa, ea, x0, x1, x2, x3⟩ := HU.out.tok hx
      obtain ⟨cb, pb, cpb, eb, y0, y1, y2, y3⟩ := HV.out.tok hx
      obtain rfl : a = some ⟨ca, pa, none⟩ := by cases ea; rfl
      obtain rfl : b = some ⟨cb, pb, none⟩ := by cases eb; rfl
      have kk : ∀ {p : Addr} {v : Value}, w.cell? p = some v → wr.cell? p = some v := fun {p v} hc => (HX.out.cell (World.block_lt_of_cell? w _ hc)).trans hc
      replace x0 := kk x0
      replace x1 := kk x1
      replace x2 := kk x2
      replace x3 := kk x3
      replace y0 := kk y0
      replace y1 := kk y1
      replace y2 := kk y2
      replace y3 := kk y3
      clear kk hx ea eb
      go_wp2
      go_region
      all_goals
        go_wp2
        go_roundg g
        case measure => omega
        case rel => exact ⟨i + 1, by omega, by go_num, hidI HX.out.drew⟩
theorem not_num {s : ByteArray} {c : UInt8} {r : Txt} (h : s.data.toList = c :: r) (h1 : c ≠ 45) (h2 : ¬ Dig c) : ¬ isNum s := by
  rintro ⟨v, hv, e⟩
  rw [h] at e
  rcases ok_itoa hv.1 hv.2 with ⟨_, ok, _⟩ | ⟨_, ds, e2, _⟩
  · exact h2 (ok.2.2.2.1 c (by rw [← e]; simp))
  · rw [e2] at e
    exact h1 (List.cons.inj e).1
theorem itoa5 : Lib.itoa (-5) = [45, 53] := by
  unfold Lib.itoa
  rw [if_pos (by decide)]
  rw [show (-5 : Int).natAbs = 5 from rfl, dec_small (by decide)]
  rfl
theorem is5 : isNum (bytesOf [45, 53]) := ⟨-5, ⟨by decide, by decide⟩, by rw [itoa5]; rfl⟩
theorem num5 : numV (bytesOf [45, 53]) = -5 := by
  obtain ⟨h1, h2⟩ := numV_in is5
  have e : (bytesOf [45, 53]).data.toList = Lib.itoa (-5) := by rw [itoa5]; rfl
  have p1 := parse_itoa (numV (bytesOf [45, 53])) h1.1 h1.2
  rw [← h2, e, parse_itoa (-5) (by decide) (by decide)] at p1
  exact (Lib.NumEnd.ok.inj p1).symm
theorem kp40 : kindP [40] = 1 := by unfold kindP; rw [if_pos rfl]
theorem kp41 : kindP [41] = 2 := by unfold kindP; rw [if_neg (by decide), if_pos rfl]
theorem kpset : kindP [115, 101, 116] = 3 := by
  unfold kindP
  rw [if_neg (by decide), if_neg (by decide)]
  unfold kindW
  rw [if_neg (not_num (c := 115) rfl (by decide) (by unfold Dig; decide)), if_pos (by decide +kernel)]
theorem kpa : kindP [97] = 3 := by
  unfold kindP
  rw [if_neg (by decide), if_neg (by decide)]
  unfold kindW
  rw [if_neg (not_num (c := 97) rfl (by decide) (by unfold Dig; decide)), if_pos (by decide +kernel)]
theorem kpA : kindP [65] = 0 := by
  unfold kindP
  rw [if_neg (by decide), if_neg (by decide)]
  unfold kindW
  rw [if_neg (not_num (c := 65) rfl (by decide) (by unfold Dig; decide)), if_neg (by decide +kernel)]
theorem kp5 : kindP [45, 53] = 4 := by
  unfold kindP
  rw [if_neg (by decide), if_neg (by decide)]
  unfold kindW
  rw [if_pos is5]
abbrev L1 : ByteArray := ⟨#[40, 115, 101, 116, 32, 97, 32, 45, 53, 41, 32, 59, 32, 120]⟩
abbrev L2 : ByteArray := ⟨#[40, 65]⟩
theorem pcs1 : pieces L1.data.toList = [(0, [40]), (1, [115, 101, 116]), (5, [97]), (7, [45, 53]), (9, [41])] := by decide +kernel
theorem pcs2 : pieces L2.data.toList = [(0, [40]), (1, [65])] := by decide +kernel
theorem lex1 : lexRes L1 = ([tok (0, [40]), tok (1, [115, 101, 116]), tok (5, [97]), tok (7, [45, 53]), tok (9, [41])], 0, 0) := by
  unfold lexRes
  rw [if_neg (by decide), pcs1]
  simp [bad, kp40, kp41, kpset, kpa, kp5]
theorem lex2 : lexRes L2 = ([], 1, 8) := by
  unfold lexRes
  rw [if_neg (by decide), pcs2]
  simp [bad, kp40, kpA]
theorem tok3 : (tok (7, [45, 53])).n = -5 := by
  unfold tok numP
  simp only
  rw [if_pos kp5, num5]
theorem tok4 : (tok (9, [41])).k = 2 := by
  unfold tok
  exact kp41
theorem live1 (w : World) (h : Laid w) : Calls Tryd.prog 8 #[.string L1] w fun e w' => ∃ b off cap, e = .returned (.tuple #[.slice (some ⟨b, off, none⟩) 5 cap, .int .i64 0, .int .i64 0]) ∧ w'.cell? ⟨b, off + 12 + 2, none⟩ = some (.int .i64 (-5)) ∧ w'.cell? ⟨b, off + 16, none⟩ = some (.int .u8 2) ∧ Below w.heap.size w w' := by
  refine (toks_any L1 w h).mono ?_
  rintro e w' ⟨v, rfl, v', rfl, hs, hb⟩
  rw [lex1] at hs ⊢
  obtain ⟨b, off, cap, rfl, _, _, c2, _⟩ := hs.tok (j := 3) rfl
  obtain ⟨b', off', cap', e, c0, _⟩ := hs.tok (j := 4) rfl
  cases e
  rw [tok3] at c2
  rw [tok4] at c0
  exact ⟨b, off, cap, rfl, c2, c0, hb⟩
theorem live2 (w : World) (h : Laid w) : Calls Tryd.prog 8 #[.string L2] w fun e w' => ∃ v, e = .returned (.tuple #[v, .int .i64 1, .int .i64 8]) ∧ Below w.heap.size w w' := by
  refine (toks_any L2 w h).mono ?_
  rintro e w' ⟨v, rfl, v', rfl, _, hb⟩
  rw [lex2]
  exact ⟨v', rfl, hb⟩
theorem live3 (w : World) : Calls Tryd.prog 13 #[.string ⟨#[97, 10, 98, 99]⟩, .int .i64 3] w fun e w' => e = .returned (.tuple #[.int .i64 1, .int .i64 1]) ∧ w = w' := by
  have h := line_any ⟨#[97, 10, 98, 99]⟩ 3 (by decide) w
  rw [show lineOf ⟨#[97, 10, 98, 99]⟩ 3 = (1, 1) by decide +kernel] at h
  exact h
set_option maxRecDepth 100000 in
set_option maxHeartbeats 1000000 in
theorem live_any (w : World) (h : Laid w) : Calls Tryd.prog 11 #[] w fun e w' => e = .returned (.bool true) ∧ Below w.heap.size w w' := by
  have C1 := hidI live1
  have C2 := hidI live2
  have C3 := hidI live3
  have HL := hidI h
  clear h
  go_enter Tryd.func11, Tryd.ntmps11
  go_wp2_with (first | (go_at_call 8; have hh := HL.out; clear hh; refine Calls.mono (C1.out _ HL.out) ?_; rintro e w1 ⟨b, off, cap, rfl, z1, z2, hb1⟩; have H1 := hidI hb1; have HL1 := hidI (HL.out.on hb1); clear hb1 HL) | (go_at_call 8; have hh := HL1.out; clear hh; refine Calls.mono (C2.out _ HL1.out) ?_; rintro e w2 ⟨v2, rfl, hb2⟩; have y1 := (hb2.cell (World.block_lt_of_cell? w1 _ z1)).trans z1; have y2 := (hb2.cell (World.block_lt_of_cell? w1 _ z2)).trans z2; have H2 := hidI hb2; clear hb2 z1 z2 HL1) | (go_at_call 13; refine Calls.mono (C3.out _) ?_; rintro e w3 ⟨rfl, rfl⟩))
  go_ret
  exact ⟨rfl, H1.out.trans (H2.out.mono H1.out.size)⟩
end Go.Proofs.YtlhjellnolhppaaDoor
