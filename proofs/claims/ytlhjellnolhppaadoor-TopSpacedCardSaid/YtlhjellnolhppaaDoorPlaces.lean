/-
  LexPlaces: tokens are the text's pieces at their places.
-/
import Derived.Test.YtlhjellnolhppaaDoorLaws
import Derived.BigQuiet
namespace Go.Proofs.YtlhjellnolhppaaDoor
open Go.RowKit Go.Deep Go.MapKept
/-- Pieces one behind the other, each where the text says it. -/
def ordered (t : Txt) : Nat → List Piece → Prop
  | _, [] => True
  | e, x :: r => e ≤ x.1 ∧ 1 ≤ x.2.length ∧ x.1 + x.2.length ≤ t.length ∧ (t.drop x.1).take x.2.length = x.2 ∧ ordered t (x.1 + x.2.length) r
theorem ordered_word {t : Txt} {p e : Nat} {b : Option Nat} {r : List Piece} (hp : p ≤ t.length) (hb : ∀ b', b = some b' → e ≤ b' ∧ b' < p) (he : e ≤ p) (h : ∀ e', e' ≤ p → ordered t e' r) : ordered t e (word t p b ++ r) := by
  cases b with
  | none => simpa [word] using h e he
  | some b' =>
    obtain ⟨h1, h2⟩ := hb b' rfl
    have hl : ((t.drop b').take (p - b')).length = p - b' := by rw [List.length_take, List.length_drop]; omega
    refine ⟨h1, ?_, ?_, ?_, ?_⟩
    · rw [hl]; omega
    · rw [hl]; simp only; omega
    · rw [hl]
    · rw [hl]
      refine h _ ?_
      simp only; omega
theorem run_ordered (t : Txt) : ∀ (r : Txt) (p : Nat) (b : Option Nat) (k : Bool) (e : Nat), t.drop p = r → p ≤ t.length → (∀ b', b = some b' → e ≤ b' ∧ b' < p) → e ≤ p → ordered t e (run t p b k r)
  | [], p, b, k, e, _, hp, hb, he => by
    simp only [run]
    have := ordered_word (r := []) hp hb he (fun _ _ => trivial)
    simpa using this
  | c :: r, p, b, k, e, hr, hp, hb, he => by
    have hlt : p < t.length := by
      rcases Nat.lt_or_ge p t.length with h | h
      · exact h
      · rw [List.drop_eq_nil_of_le h] at hr; cases hr
    have hr' : t.drop (p + 1) = r := by rw [← List.drop_drop, hr]; rfl
    have ih := fun (b : Option Nat) (k : Bool) (e : Nat) => run_ordered t r (p + 1) b k e hr' hlt
    have none' : ∀ (e' : Nat) b', (none : Option Nat) = some b' → e' ≤ b' ∧ b' < p + 1 := fun _ _ h => by cases h
    cases k with
    | true =>
      simp only [run]
      split
      · exact ih none false e (none' e) (by omega)
      · exact ih none true e (none' e) (by omega)
    | false =>
      simp only [run]
      split
      · exact ordered_word hp hb he (fun e' he' => ih none true e' (none' e') (by omega))
      · split
        · refine ordered_word hp hb he (fun e' he' => ⟨he', by simp, by simp; omega, ?_, ?_⟩)
          · simp [hr]
          · exact ih none false (p + 1) (none' _) (Nat.le_refl _)
        · split
          · exact ordered_word hp hb he (fun e' he' => ih none false e' (none' e') (by omega))
          · refine ih (some (b.getD p)) false e ?_ (by omega)
            rintro b' hb'
            cases hb'
            cases b with
            | none => exact ⟨he, by simp⟩
            | some b' => obtain ⟨h1, h2⟩ := hb b' rfl; exact ⟨h1, by simp; omega⟩
theorem pieces_ordered (t : Txt) : ordered t 0 (pieces t) := run_ordered t t 0 none false 0 rfl (by omega) (fun _ h => by cases h) (Nat.le_refl _)
theorem lex_cases (s : ByteArray) : (s.size ≤ 3000 ∧ bad 0 (pieces s.data.toList) = none ∧ lexRes s = ((pieces s.data.toList).map tok, 0, 0)) ∨ ∃ p er, lexRes s = ([], p, er) ∧ (er = 8 ∨ er = 4) := by
  unfold lexRes
  split
  · exact .inr ⟨_, _, rfl, .inr rfl⟩
  · split
    · rename_i pe hb
      refine .inr ⟨pe.1, pe.2, rfl, ?_⟩
      exact bad_err _ _ _ hb
    · rename_i h1 h2
      exact .inl ⟨by omega, h2, rfl⟩
where
  bad_err : ∀ (ps : List Piece) (c : Nat) (pe : Int × Int), bad c ps = some pe → pe.2 = 8 ∨ pe.2 = 4
    | [], _, _, h => by cases h
    | q :: r, c, pe, h => by
      unfold bad at h
      split at h
      · cases h; exact .inl rfl
      · split at h
        · cases h; exact .inr rfl
        · exact bad_err r (c + 1) pe h
theorem size_drewN (w : World) (n : Nat) : (w.drewN n).heap.size = w.heap.size := rfl
theorem cell_drewN' (w : World) (n : Nat) (p : Addr) : (w.drewN n).cell? p = w.cell? p := rfl
theorem below_drewN {B : Nat} {a w : World} (h : Below B a w) (n : Nat) : Below B a (w.drewN n) := h.trans ⟨rfl, rfl, rfl, Nat.le_refl _, fun _ _ => rfl⟩
theorem four_now {w : World} {a b c d : Value} : (w.alloc (.cells #[a, b, c, d] 38)).cell? ⟨w.heap.size, 0, none⟩ = some a ∧ (w.alloc (.cells #[a, b, c, d] 38)).cell? ⟨w.heap.size, 1, none⟩ = some b ∧ (w.alloc (.cells #[a, b, c, d] 38)).cell? ⟨w.heap.size, 2, none⟩ = some c ∧ (w.alloc (.cells #[a, b, c, d] 38)).cell? ⟨w.heap.size, 3, none⟩ = some d :=
  (four_cells (Below.refl _ _)).1
set_option maxRecDepth 100000 in
set_option maxHeartbeats 1000000 in
theorem lexPlaces_law (s0 : ByteArray) (w : World) (h : Laid w) : Calls Tryd.prog 5 #[.string s0] w fun e w' => e = .returned (.bool true) ∧ Below w.heap.size w w' := by
  have CS := hidI (short_any s0)
  obtain ⟨s, hs⟩ : ∃ s, bytesOf (s0.data.toList.take 3010) = s := ⟨_, rfl⟩
  obtain ⟨xs, p, er, hlen, hlr, C8, _⟩ := toks_two s
  rw [hs] at CS
  have CL := hidI live_any
  have H8 := hidI C8
  have HL := hidI h
  clear hs C8 h
  rcases lex_cases s with ⟨hsz, hbad, hl⟩ | ⟨p', er', hl, her⟩
  · rw [hl] at hlr
    cases hlr
    have HO := hidI (pieces_ordered s.data.toList)
    obtain ⟨ps, hps⟩ : ∃ ps, pieces s.data.toList = ps := ⟨_, rfl⟩
    rw [hps] at H8 HO hlen
    obtain ⟨n, hn⟩ : ∃ n, s.size = n := ⟨_, rfl⟩
    have ql : ∀ w, (Builtin.len_ #[9] 3 #[.string s]).run Tryd.prog w = .ok (.int .i64 (n : Int)) w := fun w => by rw [run_len_string w 9 3 s Tryd.underlying9, hn]; rfl
    have HN := hidI hn
    rw [hn] at hsz
    obtain ⟨N, hN⟩ : ∃ N, ps.length = N := ⟨_, rfl⟩
    have hN2 : (ps.map tok).length = N := by rw [List.length_map]; exact hN
    rw [hN2] at H8 hlen
    have HNN := hidI hN
    clear hn hl hbad hps hN hN2
    go_enter Tryd.func5, Tryd.ntmps5
    go_wp2_with (first | (go_at_call 9; refine Calls.mono (CS.out _) ?_; rintro e w1 ⟨rfl, rfl⟩) | (go_at_call 8; refine Calls.mono (H8.out _ HL.out) ?_; rintro e w1 ⟨va, rfl, hsa, hb1⟩; have HA := hidI hsa; have H1 := hidI hb1; obtain ⟨hl4, a, cap, rfl, hcc⟩ := hsa; clear hb1 hl4 hcc))
    go_loopg [6, 7] N (fun g s6 s7 wx => ∃ (i e : Nat), i + g = N ∧ s6 = .int .i64 e ∧ s7 = .int .i64 i ∧ Hid (Below w1.heap.size w1 wx) ∧ Hid (ordered s.data.toList e (ps.drop i)))
    case atStart => exact ⟨0, 0, by omega, rfl, rfl, hidI (Below.refl _ _), HO⟩
    case round =>
      obtain ⟨i, e, hig, rfl, rfl, HX, HD⟩ := hrel
      cases gk with
      | zero =>
        obtain rfl : N = i := by omega
        have k1 : decide ((N : Int) < (N : Int)) = false := by simp
        have k2 : decide ((N : Int) ≤ 600) = true := by simp; omega
        go_wp2_with (go_at_call 11; refine Calls.mono (CL.out _ ((HL.out.on H1.out).on HX.out)) ?_; rintro e w3 ⟨rfl, hb3⟩; have H3 := hidI hb3; clear hb3)
        go_ret
        refine ⟨rfl, ?_⟩
        have h2 := H1.out.trans (HX.out.mono H1.out.size)
        exact h2.trans (H3.out.mono h2.size)
      | succ g =>
        have k1 : (i : Int) < (N : Int) := by omega
        have hi : i < ps.length := by have := HNN.out; omega
        have hd := HD.out
        rw [List.drop_eq_getElem_cons hi] at hd
        obtain ⟨o1, o2, o3, o4, o5⟩ := hd
        obtain ⟨⟨at0, l⟩, hx⟩ : ∃ x, ps[i] = x := ⟨_, rfl⟩
        rw [hx] at o1 o2 o3 o4 o5
        simp only at o1 o2 o3 o4 o5
        have hsee := HA.out
        have hNl : N = (ps.map tok).length := by rw [List.length_map]; exact HNN.out.symm
        rw [hNl] at hsee
        obtain ⟨b, off, cap', ev, x0, x1, x2, x3⟩ := hsee.tok (j := i) (x := tok (at0, l)) (by rw [List.getElem?_map, List.getElem?_eq_getElem hi, hx]; rfl)
        obtain rfl : a = some ⟨b, off, none⟩ := by cases ev; rfl
        have kk : ∀ {p : Addr} {v : Value}, w1.cell? p = some v → wr.cell? p = some v := fun {p v} hc => (HX.out.cell (World.block_lt_of_cell? w1 _ hc)).trans hc
        replace x0 := kk x0
        replace x1 := kk x1
        replace x2 := kk x2
        replace x3 := kk x3
        have hln : s.data.toList.length = n := by rw [Array.length_toList]; exact HN.out
        rw [hln] at o3
        obtain ⟨m, hm⟩ : ∃ m, l.length = m := ⟨_, rfl⟩
        have hmb : (bytesOf l).size = m := by rw [bytes_size]; exact hm
        rw [hm] at o2 o3 o4 o5
        have q1 := slice_at s at0 m (by have := HN.out; omega)
        rw [o4] at q1
        have CK := hidI (kind_any (bytesOf l) (by rw [hmb]; omega))
        have hkp : kindP l = 1 ∨ kindP l = 2 ∨ kindP l = kindW (bytesOf l) := by
          unfold kindP
          split
          · exact .inl rfl
          · split
            · exact .inr (.inl rfl)
            · exact .inr (.inr rfl)
        simp only [tok] at x0 x1 x2 x3
        obtain ⟨tb, htb⟩ : ∃ tb, bytesOf l = tb := ⟨_, rfl⟩
        obtain ⟨K, hK⟩ : ∃ K, kindP l = K := ⟨_, rfl⟩
        obtain ⟨nv, hnv⟩ : ∃ nv, numP l = nv := ⟨_, rfl⟩
        obtain ⟨KW, hKW⟩ : ∃ KW, kindW (bytesOf l) = KW := ⟨_, rfl⟩
        rw [hKW, hK] at hkp
        rw [hKW] at CK
        rw [htb] at q1 CK x1 hmb
        rw [hK] at x0
        rw [hnv] at x2
        have ql2 : ∀ w, (Builtin.len_ #[9] 3 #[.string tb]).run Tryd.prog w = .ok (.int .i64 (m : Int)) w := fun w => by rw [run_len_string w 9 3 tb Tryd.underlying9, hmb]; rfl
        have HD2 : Hid (ordered s.data.toList (at0 + m) (ps.drop (i + 1))) := hidI o5
        have k2 : decide ((at0 : Int) < (e : Int)) = false := by simp; omega
        have k3 : decide ((m : Int) < 1) = false := by simp; omega
        have k2' : decide (at0 < e) = false := by simp; omega
        have k3' : decide (m = 0) = false := by simp; omega
        have k3'' : decide (m < 1) = false := by simp; omega
        have k4 : decide ((n : Int) - (at0 : Int) < (m : Int)) = false := by simp; omega
        clear kk hsee hNl ev hx hi o1 o2 o4 o5 hm hmb htb hK hnv hKW hln
        go_wp2
        go_quiet (fail)
        obtain ⟨z0, z1, z2, z3⟩ := four_now (w := wr) (a := .int .u8 K) (b := .string tb) (c := .int .i64 nv) (d := .int .i64 (at0 : Int))
        have hB2 : Below wr.heap.size wr ((wr.alloc (.cells #[.int .u8 K, .string tb, .int .i64 nv, .int .i64 (at0 : Int)] 38)).drewN nq) := below_drewN (by (repeat (first | exact Below.refl _ _ | assumption | refine Below.drew ?_ | refine Below.alloc ?_ (by first | omega | (simp; done) | (simp; omega)) _ | refine Below.setCell ?_ (by first | omega | (simp; done) | (simp; omega)) _))) nq
        have hz2 : wr.heap.size < ((wr.alloc (.cells #[.int .u8 K, .string tb, .int .i64 nv, .int .i64 (at0 : Int)] 38)).drewN nq).heap.size := by rw [size_drewN]; simp
        have y0 := (cell_drewN' _ nq ⟨wr.heap.size, 0, none⟩).trans z0
        have y1 := (cell_drewN' _ nq ⟨wr.heap.size, 1, none⟩).trans z1
        have y3 := (cell_drewN' _ nq ⟨wr.heap.size, 3, none⟩).trans z3
        obtain ⟨W2, hW2⟩ : ∃ W2, (wr.alloc (.cells #[.int .u8 K, .string tb, .int .i64 nv, .int .i64 (at0 : Int)] 38)).drewN nq = W2 := ⟨_, rfl⟩
        rw [hW2] at hB2 hz2 y0 y1 y3 ⊢
        have HB2 := hidI hB2
        have HZ2 := hidI hz2
        clear hW2 z0 z1 z2 z3 hB2 hz2 x0 x1 x2 x3
        by_cases hkk : K = KW
        · subst hkk
          go_wp2_with (go_at_call 15; go_must (refine Calls.mono (CK.out _ (((HL.out.on H1.out).on HX.out).on HB2.out)) ?_); rintro e w5 ⟨rfl, hb5⟩; have H5 := hidI hb5; have u0 := (hb5.cell HZ2.out).trans y0; have u1 := (hb5.cell HZ2.out).trans y1; have u3 := (hb5.cell HZ2.out).trans y3; clear hb5 y0 y1 y3)
          go_roundg g
          case measure => omega
          case rel =>
            refine ⟨i + 1, at0 + m, by omega, by go_num, by go_num, hidI ?_, HD2⟩
            have h2 := HX.out.trans (HB2.out.mono HX.out.size)
            exact h2.trans (H5.out.mono h2.size)
        · rcases hkp with rfl | rfl | hk3
          · have e1 : ((1 : Int) == KW) = false := by simpa using hkk
            have e2 : ((1 : Int) != KW) = true := by simpa using hkk
            go_wp2_with (go_at_call 15; go_must (refine Calls.mono (CK.out _ (((HL.out.on H1.out).on HX.out).on HB2.out)) ?_); rintro e w5 ⟨rfl, hb5⟩; have H5 := hidI hb5; have u0 := (hb5.cell HZ2.out).trans y0; have u1 := (hb5.cell HZ2.out).trans y1; have u3 := (hb5.cell HZ2.out).trans y3; clear hb5 y0 y1 y3)
            go_roundg g
            case measure => omega
            case rel =>
              refine ⟨i + 1, at0 + m, by omega, by go_num, by go_num, hidI ?_, HD2⟩
              have h2 := HX.out.trans (HB2.out.mono HX.out.size)
              exact h2.trans (H5.out.mono h2.size)
          · have e1 : ((2 : Int) == KW) = false := by simpa using hkk
            have e2 : ((2 : Int) != KW) = true := by simpa using hkk
            go_wp2_with (go_at_call 15; go_must (refine Calls.mono (CK.out _ (((HL.out.on H1.out).on HX.out).on HB2.out)) ?_); rintro e w5 ⟨rfl, hb5⟩; have H5 := hidI hb5; have u0 := (hb5.cell HZ2.out).trans y0; have u1 := (hb5.cell HZ2.out).trans y1; have u3 := (hb5.cell HZ2.out).trans y3; clear hb5 y0 y1 y3)
            go_roundg g
            case measure => omega
            case rel =>
              refine ⟨i + 1, at0 + m, by omega, by go_num, by go_num, hidI ?_, HD2⟩
              have h2 := HX.out.trans (HB2.out.mono HX.out.size)
              exact h2.trans (H5.out.mono h2.size)
          · exact absurd hk3 hkk
  · rw [hl] at hlr
    cases hlr
    have ke : (er == 0) = false := by rcases her with rfl | rfl <;> rfl
    rcases her with rfl | rfl
    all_goals
      clear ke
      go_enter Tryd.func5, Tryd.ntmps5
      go_wp2_with (first | (go_at_call 9; refine Calls.mono (CS.out _) ?_; rintro e w1 ⟨rfl, rfl⟩) | (go_at_call 8; refine Calls.mono (H8.out _ HL.out) ?_; rintro e w1 ⟨va, rfl, hsa, hb1⟩; have H1 := hidI hb1; obtain ⟨hl4, a, cap, rfl, hcc⟩ := hsa; clear hb1 hl4 hcc) | (go_at_call 11; refine Calls.mono (CL.out _ (HL.out.on H1.out)) ?_; rintro e w3 ⟨rfl, hb3⟩; have H3 := hidI hb3; clear hb3))
      go_ret
      exact ⟨rfl, H1.out.trans (H3.out.mono H1.out.size)⟩
end Go.Proofs.YtlhjellnolhppaaDoor
