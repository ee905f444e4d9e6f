/-
  TopSpaced: words with blanks between are tokens of their kinds, each at its place.
-/
import Derived.Test.YtlhjellnolhppaaDoorReg17
namespace Go.Proofs.YtlhjellnolhppaaDoor
open Go.RowKit Go.Deep Go.MapKept
theorem Tryd.info9 : (Tryd.prog.info? 9).map (fun i => (i.zero, i.size, i.bytes)) = some (some (.string ⟨#[]⟩), 1, 16) := by kernel_rfl
def cellsS (ws : List Txt) : List Value := ws.map fun l => Value.string (bytesOf l)
theorem cellsS_append (a b : List Txt) : cellsS (a ++ b) = cellsS a ++ cellsS b := by simp [cellsS]
theorem cellsS_one (l : List Txt) : ∀ c ∈ cellsS l, c.oneCell' = true := by
  intro c hc
  simp only [cellsS, List.mem_map] at hc
  obtain ⟨b, _, rfl⟩ := hc
  rfl
theorem str_seen {W : World} {b : Nat} {s : ByteArray} (h : b = W.heap.size) : SeesC (W.alloc (.cells #[.string s] 9)) (.slice (some ⟨b, 0, none⟩) 1 1) 1 1 (cellsS [s.data.toList]) := by
  subst h
  refine ⟨rfl, _, 1, rfl, .inr ⟨W.heap.size, 0, rfl, fun j v hv => ?_⟩⟩
  have hj : j < 1 := by have := (List.getElem?_eq_some_iff.1 hv).1; simpa [cellsS] using this
  obtain rfl : j = 0 := by omega
  simp only [cellsS, List.map_cons, List.map_nil, List.getElem?_cons_zero, Option.some.injEq, bytes_back] at hv
  subst hv
  go_simp
theorem plus_kind : kindW ⟨#[43]⟩ = 3 := by
  unfold kindW
  rw [if_neg (not_num (c := 43) (r := []) rfl (by decide) (by unfold Dig; decide)), if_pos (by decide +kernel)]
theorem join_add (ws : List Txt) (s : ByteArray) : bytesOf (joinW ws) ++ (s ++ ⟨#[32]⟩) = bytesOf (joinW (ws ++ [s.data.toList])) := by
  apply ByteArray.ext
  rw [joinW_snoc]
  apply Array.toList_inj.1
  simp [bytesOf]
/-- How far the words are put together. -/
def WInv (w : World) (ws : List Txt) (v : Value) (wx : World) : Prop :=
  wx.ownsRow w.heap.size 9 1 v ws.length (cellsS ws) ∧ Below w.heap.size w wx ∧ ∀ l ∈ ws, wordy l
theorem SeesC.one {w : World} {v : Value} {n : Nat} {cs : List Value} (h : SeesC w v n 1 cs) {j : Nat} {c : Value} (hc : cs[j]? = some c) : ∃ b off cap, v = .slice (some ⟨b, off, none⟩) n cap ∧ w.cell? ⟨b, off + j, none⟩ = some c := by
  obtain ⟨hl, a, cap, rfl, h0 | ⟨b, off, rfl, hcc⟩⟩ := h
  · subst h0
    have := (List.getElem?_eq_some_iff.1 hc).1
    omega
  · exact ⟨b, off, cap, rfl, hcc j c hc⟩
set_option maxRecDepth 100000 in
set_option maxHeartbeats 4000000 in
theorem topSpaced_law (w : World) (a0 : Option Addr) (n c0 : Nat) (ss : List ByteArray) (hss : SeesC w (.slice a0 n c0) n 1 (ss.map Value.string)) (hsz : ∀ s ∈ ss, s.size ≤ 140737488355328) (h : Laid w) :
    Calls Tryd.prog 7 #[.slice a0 n c0] w fun e w' => e = .returned (.bool true) ∧ Below w.heap.size w w' := by
  have HS := hidI hss
  have HZ := hidI hsz
  have HL := hidI h
  have hlen : ss.length = n := by have := hss.1; simpa using this
  have HLEN := hidI hlen
  obtain ⟨m, hm⟩ : ∃ m, min n 20 = m := ⟨_, rfl⟩
  have hm1 : m ≤ 20 := by omega
  have hm2 : m ≤ n := by omega
  have hm3 : m < 20 → m = n := by omega
  clear hss hsz h hlen hm
  go_enter Tryd.func7, Tryd.ntmps7
  go_wp2
  go_loopg [3, 4, 5] m (fun g s3 s4 s5 wx => ∃ (i : Nat) (ws : List Txt), i + g = m ∧ ws.length ≤ i ∧ s3 = .string (bytesOf (joinW ws)) ∧ s5 = .int .i64 i ∧ Hid (WInv w ws s4 wx))
  case atStart => exact ⟨0, [], by omega, by simp, rfl, rfl, hidI ⟨World.ownsRow_nil _ _ _ _, Below.refl _ _, fun l hl => by cases hl⟩⟩
  case round =>
    obtain ⟨i, ws, hig, hwi, rfl, rfl, HI⟩ := hrel
    have HOW := hidI HI.out.1
    have HB := hidI HI.out.2.1
    have HW := hidI HI.out.2.2
    obtain ⟨a4, c4, rfl⟩ := own_slice HI.out.1
    obtain ⟨N, hN⟩ : ∃ N, ws.length = N := ⟨_, rfl⟩
    have HNN := hidI hN
    rw [hN] at HOW hwi ⊢
    have HLR := hidI (HL.out.on HB.out)
    clear HI hN
    cases gk with
    | zero =>
      obtain rfl : m = i := by omega
      have hlx := lex_join ws HW.out (by have := HNN.out; omega)
      obtain ⟨xs, p0, er0, hxl, hlr, C8, _⟩ := toks_two (bytesOf (joinW ws))
      rw [hlx] at hlr
      cases hlr
      have hsl : ((spots 0 ws).map tok).length = N := by rw [List.length_map, spots_length]; exact HNN.out
      rw [hsl] at C8
      have HC8 := hidI C8
      have HLJ := hidI (line_join ws HW.out)
      have C13 := hidI (fun (p : Int) => line_any (bytesOf (joinW ws)) p (by
        have := joinW_len ws HW.out
        have h2 := HNN.out
        rw [bytes_size]
        omega))
      have HSEES := hidI (seesC_of_owns HOW.out)
      obtain ⟨tx, htx⟩ : ∃ tx, bytesOf (joinW ws) = tx := ⟨_, rfl⟩
      rw [htx] at HC8 HLJ C13 ⊢
      have CP := hidI (kind_any ⟨#[43]⟩ (by decide))
      rw [plus_kind] at CP
      clear hlx C8 hxl hsl htx
      have kend : decide ((m : Int) < (n : Int)) = false ∨ decide ((m : Int) < 20) = false := by
        by_cases h20 : m < 20
        · left; have := hm3 h20; simp; omega
        · right; simp; omega
      obtain ⟨b1, hb1⟩ : ∃ b, decide ((m : Int) < (n : Int)) = b := ⟨_, rfl⟩
      obtain ⟨b2, hb2⟩ : ∃ b, decide ((m : Int) < 20) = b := ⟨_, rfl⟩
      rw [hb1, hb2] at kend
      have hb1' : decide (m < n) = b1 := by rw [← hb1]; congr 1; simp
      have hb2' : decide (m < 20) = b2 := by rw [← hb2]; congr 1; simp; omega
      have hwN : N ≤ 20 := by omega
      cases b1 <;> cases b2
      case true.true => rcases kend with h | h <;> cases h
      all_goals
        clear kend
        go_wp2_with (go_at_call 8; go_must (refine Calls.mono (HC8.out _ HLR.out) ?_); rintro e w1 ⟨va, rfl, hsa, hbb1⟩; have H1 := hidI hbb1; have HA := hidI hsa; obtain ⟨hl4, aa, capa, rfl, hcc⟩ := hsa; clear hbb1 hl4 hcc)
        go_loopg [10] N (fun g s10 wx => ∃ i : Nat, i + g = N ∧ s10 = .int .i64 i ∧ Hid (Below w1.heap.size w1 wx))
        case atStart => exact ⟨0, by omega, rfl, hidI (Below.refl _ _)⟩
        case round =>
          obtain ⟨i, hig2, rfl, HX⟩ := hrel
          have HLX := hidI ((HLR.out.on H1.out).on HX.out)
          cases gk with
          | zero =>
            obtain rfl : N = i := by omega
            have k5 : decide ((N : Int) < (N : Int)) = false := by simp
            go_wp2_with (go_at_call 15; go_must (refine Calls.mono (CP.out _ HLX.out) ?_); rintro e w3 ⟨rfl, hb3⟩; have H3 := hidI hb3; clear hb3)
            go_ret
            refine ⟨rfl, ?_⟩
            have h1 := HB.out.trans (H1.out.mono HB.out.size)
            have h2 := h1.trans (HX.out.mono h1.size)
            exact h2.trans (H3.out.mono h2.size)
          | succ g =>
            have k5 : (i : Int) < (N : Int) := by omega
            have k5' : i < N := by omega
            obtain ⟨l, hwl⟩ : ∃ l, ws[i]? = some l := ⟨_, List.getElem?_eq_getElem (by have := HNN.out; omega)⟩
            obtain ⟨p, hp1, _, hp2⟩ := spots_get ws 0 i l hwl
            have hwd := HW.out l (List.mem_of_getElem? hwl)
            have hA := HA.out
            have hNl : N = ((spots 0 ws).map tok).length := by rw [List.length_map, spots_length]; exact HNN.out.symm
            rw [hNl] at hA
            obtain ⟨bt, ot, ct, ea, x0, x1, x2, x3⟩ := hA.tok (j := i) (x := tok (p, l)) (by rw [List.getElem?_map, hp1]; rfl)
            obtain rfl : aa = some ⟨bt, ot, none⟩ := by cases ea; rfl
            obtain ⟨bw, ow, cw, eb, y0⟩ := (HSEES.out.below H1.out (Nat.le_refl _)).one (j := i) (c := .string (bytesOf l)) (by simp [cellsS, hwl])
            obtain rfl : a4 = some ⟨bw, ow, none⟩ := by cases eb; rfl
            have kk : ∀ {p : Addr} {v : Value}, w1.cell? p = some v → wr.cell? p = some v := fun {p v} hc => (HX.out.cell (World.block_lt_of_cell? w1 _ hc)).trans hc
            replace x0 := kk x0
            replace x1 := kk x1
            replace x3 := kk x3
            replace y0 := kk y0
            simp only [tok] at x0 x1 x3
            have hlj := HLJ.out p (by omega)
            have C13p := hidI (C13.out (p : Int))
            rw [hlj] at C13p
            have CKl := hidI (kind_any (bytesOf l) (by
              have h1 := (wordy_facts hwd).2.1
              rw [bytes_size]
              omega))
            rw [← (kindP_word hwd).1] at CKl
            obtain ⟨sl, hsl⟩ : ∃ sl, bytesOf l = sl := ⟨_, rfl⟩
            obtain ⟨k, hk⟩ : ∃ k, kindP l = k := ⟨_, rfl⟩
            rw [hsl] at x1 y0 CKl
            rw [hk] at x0 CKl
            clear kk hA hNl ea eb hwl hp1 hp2 hwd hlj hsl hk x2
            go_wp2_with (go_at_call 13; go_must (refine Calls.mono (C13p.out _) ?_); rintro e w3 ⟨rfl, rfl⟩)
            refine reg17 (p := p) (i := i) (n := N) (k := k) (s := sl) (bt := bt) (ot := ot) (bw := bw) (ow := ow) k5' (fun w hw => CKl.out w hw) (HLX.out.on (Below.drew (Below.refl _ _))) ⟨x0, x1, x3, y0⟩ (fun _ _ _ _ _ h => h) ?_
            intro W t79 t80 t81 t82 t83 t84 t85 t86 t87 t88 t89 t90 t91 t92 t93 t94 t95 t96 t97 t98 t99 t100 t101 t102 t103 t104 t105 t106 t107 t108 t109 t110 t111 t112 t113 hbW
            have HBW := hidI hbW
            clear hbW x0 x1 x3 y0
            go_wp2
            go_roundg g
            case measure => omega
            case rel =>
              refine ⟨i + 1, by omega, by go_num, hidI ?_⟩
              have h1 : Below w1.heap.size w1 _ := HX.out.drew
              exact h1.trans (HBW.out.mono h1.size)
    | succ g =>
      have k1 : (i : Int) < (n : Int) := by omega
      have k2 : (i : Int) < 20 := by omega
      have k1' : i < n := by omega
      have k2' : i < 20 := by omega
      obtain ⟨s, hsi⟩ : ∃ s, ss[i]? = some s := ⟨_, List.getElem?_eq_getElem (by have := HLEN.out; omega)⟩
      obtain ⟨b, off, cap', ev, hcell⟩ := HS.out.one (j := i) (c := .string s) (by rw [List.getElem?_map, hsi]; rfl)
      obtain rfl : a0 = some ⟨b, off, none⟩ := by cases ev; rfl
      have hcr : wr.cell? ⟨b, off + i, none⟩ = some (.string s) := (HB.out.cell (World.block_lt_of_cell? w _ hcell)).trans hcell
      have HCW := hidI hcell
      have hs47 := HZ.out s (List.mem_of_getElem? hsi)
      have CK := hidI (kind_any s hs47)
      have hcs := kind_cases s
      have HWY : Hid (kindW s = 3 ∨ kindW s = 4 → wordy s.data.toList) := hidI fun h => by unfold wordy; rw [bytes_back]; exact h
      obtain ⟨K, hK⟩ : ∃ K, kindW s = K := ⟨_, rfl⟩
      rw [hK] at CK hcs HWY
      obtain ⟨tx, htx⟩ : ∃ tx, bytesOf (joinW ws) = tx := ⟨_, rfl⟩
      have HTX := hidI (join_add ws s)
      have HTE := hidI htx
      have hjl := joinW_len ws HW.out
      rw [HNN.out, ← bytes_size, htx] at hjl
      rw [htx] at HTX ⊢
      clear hsi ev hcell hK htx
      rcases hcs with rfl | hcs
      · go_wp2_with (go_at_call 15; go_must (refine Calls.mono (CK.out _ HLR.out) ?_); rintro e w1 ⟨rfl, hb1⟩; have H1 := hidI hb1; clear hb1)
        go_roundg g
        case measure => omega
        case rel =>
          refine ⟨i + 1, ws, by omega, by have := HNN.out; omega, by rw [HTE.out], by go_num, hidI ⟨?_, HB.out.trans (H1.out.mono HB.out.size), HW.out⟩⟩
          have h := own_below HOW.out H1.out (Nat.le_refl _)
          rw [HNN.out]
          exact h
      · have hwy := HWY.out hcs
        have hs20 : s.size ≤ 20 := by
          have h := (wordy_facts hwy).2.1
          rw [Array.length_toList] at h
          exact h
        have HWD := hidI hwy
        clear hwy
        rcases hcs with rfl | rfl
        all_goals
          go_wp2_with (first | (go_at_call 15; go_must (refine Calls.mono (CK.out _ HLR.out) ?_); rintro e w1 ⟨rfl, hb1⟩; have H1 := hidI hb1; have hc1 := (hb1.cell (World.block_lt_of_cell? wr _ hcr)).trans hcr; clear hb1) | (at_builtin; go_must (refine wpList_append_any Tryd.underlying40 Tryd.info9 rfl (by decide) (by decide) rfl _ _ rfl w.heap.size _ N (cellsS ws) rfl (own_below (own_below HOW.out H1.out (Nat.le_refl _)) (by (repeat (first | exact Below.refl _ _ | assumption | refine Below.drew ?_ | refine Below.alloc ?_ (by first | omega | (simp; done) | (simp; omega)) _ | refine Below.setCell ?_ (by first | omega | (simp; done) | (simp; omega)) _))) (Nat.le_refl _)) (.slice (some ⟨_, 0, none⟩) 1 1) 1 (cellsS [s.data.toList]) rfl (str_seen (by simp)) (cellsS_one _) (by omega) (by have := HB.out.size; have := H1.out.size; simp; omega) ?_); intro v9 w9 hown9 hgrow9 hat9; refine Hid.out ?_))
          refine hidI ?_
          have hb0 : Below w.heap.size w w1 := HB.out.trans (H1.out.mono HB.out.size)
          have hz := hb0.size
          have hB9 : Below w.heap.size w w9 := Below.grown (by (repeat (first | exact Below.refl _ _ | assumption | refine Below.drew ?_ | refine Below.alloc ?_ (by first | omega | (simp; done) | (simp; omega)) _ | refine Below.setCell ?_ (by first | omega | (simp; done) | (simp; omega)) _))) hgrow9 (by simp; omega) (fun k hk => (HOW.out.lt k hk).1)
          rw [← cellsS_append] at hown9
          have HO9 := hidI hown9
          have HB9 := hidI hB9
          clear hown9 hgrow9 hat9 hB9 hb0 hz
          go_wp2
          go_roundg g
          case measure => omega
          case rel =>
            refine ⟨i + 1, ws ++ [s.data.toList], by omega, by have := HNN.out; simp; omega, by first | rw [HTX.out] | rw [← HTX.out], by go_num, hidI ⟨?_, HB9.out, ?_⟩⟩
            · have h := HO9.out
              rw [List.length_append, HNN.out]
              exact h
            · intro l hl
              rcases List.mem_append.1 hl with hl | hl
              · exact HW.out l hl
              · rw [List.mem_singleton] at hl
                subst hl
                exact HWD.out
end Go.Proofs.YtlhjellnolhppaaDoor
