/-
  LexBlanks: more signs between words change nothing but places.
-/
import Derived.Test.YtlhjellnolhppaaDoorWideM
import Derived.Lib.AppendStr
import Derived.Laws.IdiomStrings
import Derived.Shelf.Bytes.SlSmallAll
import Derived.BigQuiet
namespace Go.Proofs.YtlhjellnolhppaaDoor
open Go.RowKit Go.Deep Go.MapKept
def cellsB (l : Txt) : List Value := l.map fun b => Value.int .u8 (b.toNat : Int)
theorem cellsB_append (a b : Txt) : cellsB (a ++ b) = cellsB a ++ cellsB b := by simp [cellsB]
theorem cellsB_one (l : Txt) : ∀ c ∈ cellsB l, c.oneCell' = true := by
  intro c hc
  simp only [cellsB, List.mem_map] at hc
  obtain ⟨b, _, rfl⟩ := hc
  rfl
theorem Tryd.info5 : (Tryd.prog.info? 5).map (fun i => (i.zero, i.size, i.bytes)) = some (some (.int .u8 0), 1, 1) := by kernel_rfl
theorem one_seen {W : World} {b : Nat} (c : UInt8) (h : b = W.heap.size) : SeesC (W.alloc (.cells #[.int .u8 (c.toNat : Int)] 5)) (.slice (some ⟨b, 0, none⟩) 1 1) 1 1 (cellsB [c]) := by
  subst h
  refine ⟨rfl, _, 1, rfl, .inr ⟨W.heap.size, 0, rfl, fun j v hv => ?_⟩⟩
  have hj : j < 1 := by have := (List.getElem?_eq_some_iff.1 hv).1; simpa [cellsB] using this
  obtain rfl : j = 0 := by omega
  simp only [cellsB, List.map_cons, List.map_nil, List.getElem?_cons_zero, Option.some.injEq] at hv
  subst hv
  go_simp
theorem two_seen {W : World} {b : Nat} (h : b = W.heap.size) : SeesC (W.alloc (.cells #[.int .u8 9, .int .u8 32] 5)) (.slice (some ⟨b, 0, none⟩) 2 2) 2 1 (cellsB [9, 32]) := by
  subst h
  refine ⟨rfl, _, 2, rfl, .inr ⟨W.heap.size, 0, rfl, fun j v hv => ?_⟩⟩
  have hj : j < 2 := by have := (List.getElem?_eq_some_iff.1 hv).1; simpa [cellsB] using this
  have hm : j = 0 ∨ j = 1 := by omega
  rcases hm with rfl | rfl
  · have : v = .int .u8 9 := by simpa [cellsB] using hv.symm
    subst this
    go_simp
  · have : v = .int .u8 32 := by simpa [cellsB] using hv.symm
    subst this
    go_simp
theorem conv_own {W : World} {base n : Nat} {v : Value} {l : Txt} (hn : l.length = n) (ho : W.ownsRow base 5 1 v n (cellsB l)) : (convert 39 9 v).run Tryd.prog W = .ok (.string (bytesOf l)) W := by
  subst hn
  rcases ho.2 with ⟨rfl, h0⟩ | ⟨g, cap, cur, rfl, _⟩
  · have hl : l = [] := List.eq_nil_of_length_eq_zero h0
    subst hl
    exact Go.Proofs.run_convert_bytes_zero W 39 5 Tryd.underlying39 Tryd.underlying5 none 0 9 Tryd.underlying9
  · refine run_convert_bytes_back W 39 9 5 ⟨g, 0, none⟩ cap l Tryd.underlying39 Tryd.underlying5 Tryd.underlying9 (fun j hj => ?_)
    exact World.ownsRow.cells ho rfl j _ (by simp [cellsB, hj])
theorem wide_len (t : Txt) : (wide t).length ≤ 6 * t.length := by
  induction t with
  | nil => simp [wide]
  | cons c r ih =>
    rw [wide_cons, List.length_append, List.length_cons]
    have : (wideB c).length ≤ 6 := by unfold wideB; split <;> (try split) <;> simp
    omega
theorem wide_next (s : ByteArray) (i : Nat) (h : i < s.size) : wide (s.data.toList.take (i + 1)) = wide (s.data.toList.take i) ++ wideB (s.get! i) := by
  rw [List.take_add_one, get_byte s i h]
  simp [wide]
/-- How far the wider text is made. -/
def BInv (s : ByteArray) (w : World) (i : Nat) (v : Value) (wx : World) : Prop :=
  wx.ownsRow w.heap.size 5 1 v (wide (s.data.toList.take i)).length (cellsB (wide (s.data.toList.take i))) ∧ Below w.heap.size w wx
theorem BInv.next {s : ByteArray} {w : World} {i : Nat} {v : Value} {wx : World} {l : Txt} {n : Nat} (h : i < s.size) (hl : wide (s.data.toList.take i) ++ wideB (s.get! i) = l) (hn : l.length = n) (ho : wx.ownsRow w.heap.size 5 1 v n (cellsB l)) (hb : Below w.heap.size w wx) : BInv s w (i + 1) v wx := by
  unfold BInv
  rw [wide_next s i h, hl, hn]
  exact ⟨ho, hb⟩
set_option maxRecDepth 100000 in
set_option maxHeartbeats 2000000 in
theorem lexBlanks_out (s0 : ByteArray) (s : ByteArray) (hs : s.size ≤ 800) (h0 : 800 < s0.size) (he : bytesOf (s0.data.toList.take 800) = s) (w : World) (h : Laid w) : Calls Tryd.prog 6 #[.string s0] w fun e w' => e = .returned (.bool true) ∧ Below w.heap.size w w' := by
  have CL := hidI live_any
  have HL := hidI h
  have HLW := hidI (lex_wide (s := s) (u := bytesOf (wide s.data.toList)) (by simp [bytesOf]))
  have HBIG : Hid (3000 < (wide s.data.toList).length → lexRes (bytesOf (wide s.data.toList)) = ([], 0, 4)) := hidI fun h => by unfold lexRes; rw [if_pos (by rw [bytes_size]; exact h)]
  obtain ⟨xs, p, er, hxl, hlx, C8s, _⟩ := toks_two s
  obtain ⟨ys, p', er', hyl, hly, C8u, _⟩ := toks_two (bytesOf (wide s.data.toList))
  have husz : (bytesOf (wide s.data.toList)).size = (wide s.data.toList).length := bytes_size _
  have hwl := wide_len s.data.toList
  have hsl : s.data.toList.length = s.size := by rw [Array.length_toList]; rfl
  have QI := hidI (sign_at s)
  obtain ⟨n, hn⟩ : ∃ n, s.size = n := ⟨_, rfl⟩
  obtain ⟨n0, hn0⟩ : ∃ n0, s0.size = n0 := ⟨_, rfl⟩
  have ql0 : ∀ w, (Builtin.len_ #[9] 3 #[.string s0]).run Tryd.prog w = .ok (.int .i64 (n0 : Int)) w := fun w => by rw [run_len_string w 9 3 s0 Tryd.underlying9, hn0]; rfl
  have ql : ∀ w, (Builtin.len_ #[9] 3 #[.string s]).run Tryd.prog w = .ok (.int .i64 (n : Int)) w := fun w => by rw [run_len_string w 9 3 s Tryd.underlying9, hn]; rfl
  have q0 : ∀ w, (Instr.slice 9 (.string s0) none (some (.int .i64 800)) none).run Tryd.prog w = .ok (.string s) w := by rw [← he]; exact slice_upto s0 800 (by omega)
  have k0 : decide (800 < (n0 : Int)) = true := by simp; omega
  clear he h0 hn0
  have HN := hidI hn
  rw [hsl] at hwl
  rw [husz] at HLW
  rw [hn] at hs QI hwl hsl HLW
  have C8S := hidI C8s
  have C8U := hidI C8u
  have HLX := hidI hlx
  have HLY := hidI hly
  have HSL := hidI hsl
  have HWL : Hid (∀ i, (wide (s.data.toList.take i)).length ≤ 4800) := hidI fun i => by
    have := wide_len (s.data.toList.take i)
    rw [List.length_take, hsl] at this
    omega
  clear hn C8s C8u hlx hly husz hsl h hwl
  go_enter Tryd.func6, Tryd.ntmps6
  go_wp2
  go_loopg [3, 4] n (fun g s3 s4 wx => ∃ i : Nat, i + g = n ∧ s4 = .int .i64 i ∧ Hid (BInv s w i s3 wx))
  case atStart => exact ⟨0, by omega, rfl, hidI ⟨by simpa [wide, cellsB] using World.ownsRow_nil w w.heap.size 5 1, Below.refl _ _⟩⟩
  case round =>
    obtain ⟨i, hig, rfl, HI⟩ := hrel
    have HOW := hidI HI.out.1
    have HB := hidI HI.out.2
    have hwi := HWL.out i
    obtain ⟨l, hl⟩ : ∃ l, wide (s.data.toList.take i) = l := ⟨_, rfl⟩
    obtain ⟨L, hL⟩ : ∃ L, l.length = L := ⟨_, rfl⟩
    rw [hl, hL] at HOW
    rw [hl, hL] at hwi
    obtain ⟨a5, c5, rfl⟩ := own_slice HOW.out
    cases gk with
    | zero =>
      obtain rfl : n = i := by omega
      have hlw : l = wide s.data.toList := by rw [← hl, List.take_of_length_le (by rw [HSL.out]; exact Nat.le_refl _)]
      subst hlw
      have k1 : decide ((n : Int) < (n : Int)) = false := by simp
      rw [hL] at HBIG HLW
      have HCV : Hid (∀ W : World, Below wr.heap.size wr W → (convert 39 9 (.slice a5 L c5)).run Tryd.prog W = .ok (.string (bytesOf (wide s.data.toList))) W) := hidI fun W hW => conv_own hL (own_below HOW.out hW (Nat.le_refl _))
      obtain ⟨u, hu⟩ : ∃ u, bytesOf (wide s.data.toList) = u := ⟨_, rfl⟩
      rw [hu] at HCV C8U HLY HBIG HLW
      have HLr := hidI (HL.out.on HB.out)
      clear hl hL HI hu
      by_cases hbig : 3000 < L
      · have h4 := HBIG.out hbig
        rw [HLY.out] at h4
        cases h4
        have k2 : decide (3000 < (L : Int)) = true := by simp; omega
        have k2' : decide (3000 < L) = true := by simp; omega
        clear hbig HLW
        go_wp2_with (first | (go_at_call 8; have hh := C8S.out; clear hh; refine Calls.mono (C8S.out _ HLr.out) ?_; rintro e w1 ⟨va, rfl, hsa, hb1⟩; have H1 := hidI hb1; have qc := HCV.out w1 hb1; clear hb1 hsa C8S) | (go_at_call 8; refine Calls.mono (C8U.out _ (HLr.out.on H1.out)) ?_; rintro e w2 ⟨vb, rfl, hsb, hb2⟩; have H2 := hidI hb2; clear hb2 hsb) | (go_at_call 11; refine Calls.mono (CL.out _ ((HLr.out.on H1.out).on H2.out)) ?_; rintro e w3 ⟨rfl, hb3⟩; have H3 := hidI hb3; clear hb3))
        go_ret
        refine ⟨rfl, ?_⟩
        have h1 := HB.out.trans (H1.out.mono HB.out.size)
        have h2 := h1.trans (H2.out.mono h1.size)
        exact h2.trans (H3.out.mono h2.size)
      · obtain ⟨xs', ys', p1, p2, er1, e1, e2, e3, e4⟩ := HLW.out (by omega) (by omega)
        rw [HLX.out] at e1
        rw [HLY.out] at e2
        cases e1
        cases e2
        have k2 : decide (3000 < (L : Int)) = false := by simp; omega
        have k2' : decide (3000 < L) = false := by simp; omega
        obtain ⟨N, hN⟩ : ∃ N, xs.length = N := ⟨_, rfl⟩
        have hN2 : ys.length = N := by rw [← e3]; exact hN
        have HE := hidI e4
        have HNX := hidI hN
        have HNY := hidI hN2
        rw [hN] at hxl
        have C8S' : Hid (∀ w, Laid w → Calls Tryd.prog 8 #[.string s] w fun e w' => ∃ a cap, e = .returned (.tuple #[.slice a N cap, .int .i64 p, .int .i64 er]) ∧ SeesC w' (.slice a N cap) xs.length 4 (flatT xs) ∧ Below w.heap.size w w') := hidI fun w hw => (C8S.out w hw).mono (by
          rintro e w' ⟨v, rfl, hsv, hbv⟩
          have hsv' := hsv
          obtain ⟨_, a, cap, rfl, _⟩ := hsv
          rw [hN] at hsv' ⊢
          exact ⟨a, cap, rfl, hsv', hbv⟩)
        have C8U' : Hid (∀ w, Laid w → Calls Tryd.prog 8 #[.string u] w fun e w' => ∃ a cap, e = .returned (.tuple #[.slice a N cap, .int .i64 p', .int .i64 er]) ∧ SeesC w' (.slice a N cap) ys.length 4 (flatT ys) ∧ Below w.heap.size w w') := hidI fun w hw => (C8U.out w hw).mono (by
          rintro e w' ⟨v, rfl, hsv, hbv⟩
          have hsv' := hsv
          obtain ⟨_, a, cap, rfl, _⟩ := hsv
          rw [hN2] at hsv' ⊢
          exact ⟨a, cap, rfl, hsv', hbv⟩)
        obtain ⟨b4, hb4⟩ : ∃ b, (er == 4) = b := ⟨_, rfl⟩
        clear hbig HLW HLX HLY HBIG e3 e4 hN hN2 C8S C8U hyl
        cases b4
        all_goals
          go_wp2_with (first | (go_at_call 8; have hh := C8S'.out; clear hh; refine Calls.mono (C8S'.out _ HLr.out) ?_; rintro e w1 ⟨aa, capa, rfl, hsa, hb1⟩; have H1 := hidI hb1; have qc := HCV.out w1 hb1; have HA := hidI hsa; clear hb1 hsa C8S') | (go_at_call 8; refine Calls.mono (C8U'.out _ (HLr.out.on H1.out)) ?_; rintro e w2 ⟨ab, capb, rfl, hsb, hb2⟩; have H2 := hidI hb2; have HBB := hidI hsb; clear hb2 hsb qc))
          go_loopg [11] N (fun g s11 wx => ∃ i : Nat, i + g = N ∧ s11 = .int .i64 i ∧ Hid (Below w2.heap.size w2 wx))
          case atStart => exact ⟨0, by omega, rfl, hidI (Below.refl _ _)⟩
          case round =>
            obtain ⟨i, hig2, rfl, HX⟩ := hrel
            have h12 := H1.out
            cases gk with
            | zero =>
              obtain rfl : N = i := by omega
              have k5 : decide ((N : Int) < (N : Int)) = false := by simp
              clear h12
              go_wp2_with (go_at_call 11; refine Calls.mono (CL.out _ (((HLr.out.on H1.out).on H2.out).on HX.out)) ?_; rintro e w3 ⟨rfl, hb3⟩; have H3 := hidI hb3; clear hb3)
              go_ret
              refine ⟨rfl, ?_⟩
              have h1 := HB.out.trans (H1.out.mono HB.out.size)
              have h2 := h1.trans (H2.out.mono h1.size)
              have h3 := h2.trans (HX.out.mono h2.size)
              exact h3.trans (H3.out.mono h3.size)
            | succ g =>
              clear h12
              have k5 : (i : Int) < (N : Int) := by omega
              obtain ⟨x, hx⟩ : ∃ x, xs[i]? = some x := ⟨_, List.getElem?_eq_getElem (by have := HNX.out; omega)⟩
              obtain ⟨y, hy⟩ : ∃ y, ys[i]? = some y := ⟨_, List.getElem?_eq_getElem (by have := HNY.out; omega)⟩
              obtain ⟨ek, es, en⟩ := HE.out i x y hx hy
              have hA := HA.out
              have hBb := HBB.out
              obtain ⟨ca, pa, cpa, ea, x0, x1, x2, x3⟩ := hA.tok hx
              obtain ⟨cb, pb, cpb, eb, y0, y1, y2, y3⟩ := hBb.tok hy
              obtain rfl : aa = some ⟨ca, pa, none⟩ := by cases ea; rfl
              obtain rfl : ab = some ⟨cb, pb, none⟩ := by cases eb; rfl
              have kx : ∀ {p : Addr} {v : Value}, w1.cell? p = some v → wr.cell? p = some v := fun {p v} hc => by
                have e1 := (H2.out.cell (World.block_lt_of_cell? w1 _ hc)).trans hc
                exact (HX.out.cell (World.block_lt_of_cell? w2 _ e1)).trans e1
              have ky : ∀ {p : Addr} {v : Value}, w2.cell? p = some v → wr.cell? p = some v := fun {p v} hc => (HX.out.cell (World.block_lt_of_cell? w2 _ hc)).trans hc
              replace x0 := kx x0
              replace x1 := kx x1
              replace x2 := kx x2
              replace y0 := ky y0
              replace y1 := ky y1
              replace y2 := ky y2
              rw [← ek] at y0
              rw [← es] at y1
              rw [← en] at y2
              obtain ⟨K, hK⟩ : ∃ K, x.k = K := ⟨_, rfl⟩
              obtain ⟨S, hS⟩ : ∃ S, x.s = S := ⟨_, rfl⟩
              obtain ⟨V, hV⟩ : ∃ V, x.n = V := ⟨_, rfl⟩
              rw [hK] at x0 y0
              rw [hS] at x1 y1
              rw [hV] at x2 y2
              clear kx ky hx hy ek es en hA hBb ea eb x3 y3 hK hS hV
              go_wp2
              go_quiet (fail)
              go_wp2
              go_roundg g
              case measure => omega
              case rel => exact ⟨i + 1, by omega, by go_num, hidI (below_drewN HX.out _)⟩
    | succ g =>
      have k3 : (i : Int) < (n : Int) := by omega
      have him : i < n := by omega
      have q1 : ∀ w, (Instr.index 9 (.string s) (.int .i64 (i : Int))).run Tryd.prog w = .ok (.int .u8 (sign s i)) w := QI.out i him
      have hby := sign_byte s i (by have := HN.out; omega)
      have HNX := hidI (fun (v : Value) (wx : World) (l' : Txt) (m : Nat) => BInv.next (s := s) (w := w) (i := i) (v := v) (wx := wx) (l := l') (n := m) (by have := HN.out; omega))
      rw [hl] at HNX
      obtain ⟨c, hc⟩ : ∃ c, s.get! i = c := ⟨_, rfl⟩
      rw [hc] at hby HNX
      rw [hby] at q1
      have HLL := hidI hL
      clear hby hl hL hc HI
      cases h32 : (c == 32) with
      | true =>
        obtain rfl : c = 32 := by simpa using h32
        clear h32
        go_wp2_with (at_builtin; go_must (refine wpList_append_any Tryd.underlying39 Tryd.info5 rfl (by decide) (by decide) rfl _ _ rfl w.heap.size _ L (cellsB (l)) rfl (own_below HOW.out (by (repeat (first | exact Below.refl _ _ | assumption | refine Below.drew ?_ | refine Below.alloc ?_ (by first | omega | (simp; done) | (simp; omega)) _ | refine Below.setCell ?_ (by first | omega | (simp; done) | (simp; omega)) _))) (Nat.le_refl _)) (.slice (some ⟨_, 0, none⟩) 2 2) 2 (cellsB [9, 32]) rfl (two_seen (by simp)) (cellsB_one _) (by omega) (by have := HB.out.size; simp; omega) ?_); intro v8 w8 hown8 hgrow8 hat8; refine Hid.out ?_)
        refine hidI ?_
        have hb0 := HB.out
        have hz := hb0.size
        have hB8 : Below w.heap.size w w8 := Below.grown (by (repeat (first | exact Below.refl _ _ | assumption | refine Below.drew ?_ | refine Below.alloc ?_ (by first | omega | (simp; done) | (simp; omega)) _ | refine Below.setCell ?_ (by first | omega | (simp; done) | (simp; omega)) _))) hgrow8 (by simp; omega) (fun k hk => (HOW.out.lt k hk).1)
        have HB8 := hidI hB8
        rw [← cellsB_append] at hown8
        have HO8 := hidI hown8
        obtain ⟨a8, c8, rfl⟩ := own_slice hown8
        clear hown8 hgrow8 hat8 hB8 hb0 hz
        go_wp2_with (at_builtin; go_must (refine wpList_append_any Tryd.underlying39 Tryd.info5 rfl (by decide) (by decide) rfl _ _ rfl w.heap.size _ (L + 2) (cellsB (l ++ [9, 32])) rfl (own_below HO8.out (by (repeat (first | exact Below.refl _ _ | assumption | refine Below.drew ?_ | refine Below.alloc ?_ (by first | omega | (simp; done) | (simp; omega)) _ | refine Below.setCell ?_ (by first | omega | (simp; done) | (simp; omega)) _))) (Nat.le_refl _)) (.slice (some ⟨_, 0, none⟩) 1 1) 1 (cellsB [32]) rfl (one_seen 32 (by simp)) (cellsB_one _) (by omega) (by have := HB8.out.size; simp; omega) ?_); intro v9 w9 hown9 hgrow9 hat9; refine Hid.out ?_)
        refine hidI ?_
        have hb0 := HB8.out
        have hz := hb0.size
        have hB9 : Below w.heap.size w w9 := Below.grown (by (repeat (first | exact Below.refl _ _ | assumption | refine Below.drew ?_ | refine Below.alloc ?_ (by first | omega | (simp; done) | (simp; omega)) _ | refine Below.setCell ?_ (by first | omega | (simp; done) | (simp; omega)) _))) hgrow9 (by simp; omega) (fun k hk => (HO8.out.lt k hk).1)
        rw [← cellsB_append] at hown9
        have HN9 := hidI (HNX.out _ _ _ _ (by simp [wideB]) (by simp [HLL.out]) hown9 hB9)
        clear hown9 hgrow9 hat9 hB9 hb0 hz
        go_wp2
        go_roundg g
        case measure => omega
        case rel => exact ⟨i + 1, by omega, by go_num, HN9⟩
      | false =>
        have k32 : ((c.toNat : Int) == 32) = false := by rw [← h32]; exact u8_eq c 32 (by decide)
        cases h10 : (c == 10) with
        | true =>
          obtain rfl : c = 10 := by simpa using h10
          clear h10 h32
          obtain ⟨i0, hi, hz0, hz1, hz2⟩ := info_parts Tryd.info5
          go_wp2_with (at_builtin; go_must (refine Lib.wpList_append_own_string _ rfl _ _ 39 9 rfl w.heap.size 5 i0 Tryd.underlying39 Tryd.underlying9 hi hz0 hz1 hz2 _ L (cellsB l) rfl HOW.out ⟨#[32, 59, 40, 120, 10]⟩ rfl (by unfold maxLen; show L + 5 ≤ _; omega) (by show L + 5 ≤ _; omega) (by have := HB.out.size; omega) ?_); intro v8 w8 hown8 hgrow8 hat8; refine Hid.out ?_)
          refine hidI ?_
          have hb0 := HB.out
          have hz := hb0.size
          have hB8 : Below w.heap.size w w8 := Below.grown hb0 hgrow8 (by omega) (fun k hk => (HOW.out.lt k hk).1)
          have HB8 := hidI hB8
          have hown8' : w8.ownsRow w.heap.size 5 1 v8 (L + 5) (cellsB (l ++ [32, 59, 40, 120, 10])) := by rw [cellsB_append]; exact hown8
          have HO8 := hidI hown8'
          obtain ⟨a8, c8, rfl⟩ := own_slice hown8'
          clear hown8 hown8' hgrow8 hat8 hB8 hb0 hz
          go_wp2_with (at_builtin; go_must (refine wpList_append_any Tryd.underlying39 Tryd.info5 rfl (by decide) (by decide) rfl _ _ rfl w.heap.size _ (L + 5) (cellsB (l ++ [32, 59, 40, 120, 10])) rfl (own_below HO8.out (by (repeat (first | exact Below.refl _ _ | assumption | refine Below.drew ?_ | refine Below.alloc ?_ (by first | omega | (simp; done) | (simp; omega)) _ | refine Below.setCell ?_ (by first | omega | (simp; done) | (simp; omega)) _))) (Nat.le_refl _)) (.slice (some ⟨_, 0, none⟩) 1 1) 1 (cellsB [10]) rfl (one_seen 10 (by simp)) (cellsB_one _) (by omega) (by have := HB8.out.size; simp; omega) ?_); intro v9 w9 hown9 hgrow9 hat9; refine Hid.out ?_)
          refine hidI ?_
          have hb0 := HB8.out
          have hz := hb0.size
          have hB9 : Below w.heap.size w w9 := Below.grown (by (repeat (first | exact Below.refl _ _ | assumption | refine Below.drew ?_ | refine Below.alloc ?_ (by first | omega | (simp; done) | (simp; omega)) _ | refine Below.setCell ?_ (by first | omega | (simp; done) | (simp; omega)) _))) hgrow9 (by simp; omega) (fun k hk => (HO8.out.lt k hk).1)
          rw [← cellsB_append] at hown9
          have HN9 := hidI (HNX.out _ _ _ _ (by simp [wideB]) (by simp [HLL.out]) hown9 hB9)
          clear hown9 hgrow9 hat9 hB9 hb0 hz
          go_wp2
          go_roundg g
          case measure => omega
          case rel => exact ⟨i + 1, by omega, by go_num, HN9⟩
        | false =>
          have k10 : ((c.toNat : Int) == 10) = false := by rw [← h10]; exact u8_eq c 10 (by decide)
          have HC : Hid (wideB c = [c]) := hidI (by
            have h1 : ¬ c = 32 := by simpa using h32
            have h2 : ¬ c = 10 := by simpa using h10
            simp [wideB, h1, h2])
          clear h32 h10
          go_wp2_with (at_builtin; go_must (refine wpList_append_any Tryd.underlying39 Tryd.info5 rfl (by decide) (by decide) rfl _ _ rfl w.heap.size _ L (cellsB (l)) rfl (own_below HOW.out (by (repeat (first | exact Below.refl _ _ | assumption | refine Below.drew ?_ | refine Below.alloc ?_ (by first | omega | (simp; done) | (simp; omega)) _ | refine Below.setCell ?_ (by first | omega | (simp; done) | (simp; omega)) _))) (Nat.le_refl _)) (.slice (some ⟨_, 0, none⟩) 1 1) 1 (cellsB [c]) rfl (one_seen c (by simp)) (cellsB_one _) (by omega) (by have := HB.out.size; simp; omega) ?_); intro v9 w9 hown9 hgrow9 hat9; refine Hid.out ?_)
          refine hidI ?_
          have hb0 := HB.out
          have hz := hb0.size
          have hB9 : Below w.heap.size w w9 := Below.grown (by (repeat (first | exact Below.refl _ _ | assumption | refine Below.drew ?_ | refine Below.alloc ?_ (by first | omega | (simp; done) | (simp; omega)) _ | refine Below.setCell ?_ (by first | omega | (simp; done) | (simp; omega)) _))) hgrow9 (by simp; omega) (fun k hk => (HOW.out.lt k hk).1)
          rw [← cellsB_append] at hown9
          have HN9 := hidI (HNX.out _ _ _ _ (by rw [HC.out]) (by simp [HLL.out]) hown9 hB9)
          clear hown9 hgrow9 hat9 hB9 hb0 hz
          go_wp2
          go_roundg g
          case measure => omega
          case rel => exact ⟨i + 1, by omega, by go_num, HN9⟩
set_option maxRecDepth 100000 in
set_option maxHeartbeats 2000000 in
theorem lexBlanks_in (s0 : ByteArray) (hs : s0.size ≤ 800) (w : World) (h : Laid w) : Calls Tryd.prog 6 #[.string s0] w fun e w' => e = .returned (.bool true) ∧ Below w.heap.size w w' := by
  have CL := hidI live_any
  have HL := hidI h
  have HLW := hidI (lex_wide (s := s0) (u := bytesOf (wide s0.data.toList)) (by simp [bytesOf]))
  have HBIG : Hid (3000 < (wide s0.data.toList).length → lexRes (bytesOf (wide s0.data.toList)) = ([], 0, 4)) := hidI fun h => by unfold lexRes; rw [if_pos (by rw [bytes_size]; exact h)]
  obtain ⟨xs, p, er, hxl, hlx, C8s0, _⟩ := toks_two s0
  obtain ⟨ys, p', er', hyl, hly, C8u, _⟩ := toks_two (bytesOf (wide s0.data.toList))
  have husz : (bytesOf (wide s0.data.toList)).size = (wide s0.data.toList).length := bytes_size _
  have hwl := wide_len s0.data.toList
  have hsl : s0.data.toList.length = s0.size := by rw [Array.length_toList]; rfl
  have QI := hidI (sign_at s0)
  obtain ⟨n, hn⟩ : ∃ n, s0.size = n := ⟨_, rfl⟩
  have ql : ∀ w, (Builtin.len_ #[9] 3 #[.string s0]).run Tryd.prog w = .ok (.int .i64 (n : Int)) w := fun w => by rw [run_len_string w 9 3 s0 Tryd.underlying9, hn]; rfl
  have k0 : decide (800 < (n : Int)) = false := by simp; omega
  have HN := hidI hn
  rw [hsl] at hwl
  rw [husz] at HLW
  rw [hn] at hs QI hwl hsl HLW
  have C8S := hidI C8s0
  have C8U := hidI C8u
  have HLX := hidI hlx
  have HLY := hidI hly
  have HSL := hidI hsl
  have HWL : Hid (∀ i, (wide (s0.data.toList.take i)).length ≤ 4800) := hidI fun i => by
    have := wide_len (s0.data.toList.take i)
    rw [List.length_take, hsl] at this
    omega
  clear hn C8s0 C8u hlx hly husz hsl h hwl
  go_enter Tryd.func6, Tryd.ntmps6
  go_wp2
  go_loopg [3, 4] n (fun g s3 s4 wx => ∃ i : Nat, i + g = n ∧ s4 = .int .i64 i ∧ Hid (BInv s0 w i s3 wx))
  case atStart => exact ⟨0, by omega, rfl, hidI ⟨by simpa [wide, cellsB] using World.ownsRow_nil w w.heap.size 5 1, Below.refl _ _⟩⟩
  case round =>
    obtain ⟨i, hig, rfl, HI⟩ := hrel
    have HOW := hidI HI.out.1
    have HB := hidI HI.out.2
    have hwi := HWL.out i
    obtain ⟨l, hl⟩ : ∃ l, wide (s0.data.toList.take i) = l := ⟨_, rfl⟩
    obtain ⟨L, hL⟩ : ∃ L, l.length = L := ⟨_, rfl⟩
    rw [hl, hL] at HOW
    rw [hl, hL] at hwi
    obtain ⟨a5, c5, rfl⟩ := own_slice HOW.out
    cases gk with
    | zero =>
      obtain rfl : n = i := by omega
      have hlw : l = wide s0.data.toList := by rw [← hl, List.take_of_length_le (by rw [HSL.out]; exact Nat.le_refl _)]
      subst hlw
      have k1 : decide ((n : Int) < (n : Int)) = false := by simp
      rw [hL] at HBIG HLW
      have HCV : Hid (∀ W : World, Below wr.heap.size wr W → (convert 39 9 (.slice a5 L c5)).run Tryd.prog W = .ok (.string (bytesOf (wide s0.data.toList))) W) := hidI fun W hW => conv_own hL (own_below HOW.out hW (Nat.le_refl _))
      obtain ⟨u, hu⟩ : ∃ u, bytesOf (wide s0.data.toList) = u := ⟨_, rfl⟩
      rw [hu] at HCV C8U HLY HBIG HLW
      have HLr := hidI (HL.out.on HB.out)
      clear hl hL HI hu
      by_cases hbig : 3000 < L
      · have h4 := HBIG.out hbig
        rw [HLY.out] at h4
        cases h4
        have k2 : decide (3000 < (L : Int)) = true := by simp; omega
        have k2' : decide (3000 < L) = true := by simp; omega
        clear hbig HLW
        go_wp2_with (first | (go_at_call 8; have hh := C8S.out; clear hh; refine Calls.mono (C8S.out _ HLr.out) ?_; rintro e w1 ⟨va, rfl, hsa, hb1⟩; have H1 := hidI hb1; have qc := HCV.out w1 hb1; clear hb1 hsa C8S) | (go_at_call 8; refine Calls.mono (C8U.out _ (HLr.out.on H1.out)) ?_; rintro e w2 ⟨vb, rfl, hsb, hb2⟩; have H2 := hidI hb2; clear hb2 hsb) | (go_at_call 11; refine Calls.mono (CL.out _ ((HLr.out.on H1.out).on H2.out)) ?_; rintro e w3 ⟨rfl, hb3⟩; have H3 := hidI hb3; clear hb3))
        go_ret
        refine ⟨rfl, ?_⟩
        have h1 := HB.out.trans (H1.out.mono HB.out.size)
        have h2 := h1.trans (H2.out.mono h1.size)
        exact h2.trans (H3.out.mono h2.size)
      · obtain ⟨xs', ys', p1, p2, er1, e1, e2, e3, e4⟩ := HLW.out (by omega) (by omega)
        rw [HLX.out] at e1
        rw [HLY.out] at e2
        cases e1
        cases e2
        have k2 : decide (3000 < (L : Int)) = false := by simp; omega
        have k2' : decide (3000 < L) = false := by simp; omega
        obtain ⟨N, hN⟩ : ∃ N, xs.length = N := ⟨_, rfl⟩
        have hN2 : ys.length = N := by rw [← e3]; exact hN
        have HE := hidI e4
        have HNX := hidI hN
        have HNY := hidI hN2
        rw [hN] at hxl
        have C8S' : Hid (∀ w, Laid w → Calls Tryd.prog 8 #[.string s0] w fun e w' => ∃ a cap, e = .returned (.tuple #[.slice a N cap, .int .i64 p, .int .i64 er]) ∧ SeesC w' (.slice a N cap) xs.length 4 (flatT xs) ∧ Below w.heap.size w w') := hidI fun w hw => (C8S.out w hw).mono (by
          rintro e w' ⟨v, rfl, hsv, hbv⟩
          have hsv' := hsv
          obtain ⟨_, a, cap, rfl, _⟩ := hsv
          rw [hN] at hsv' ⊢
          exact ⟨a, cap, rfl, hsv', hbv⟩)
        have C8U' : Hid (∀ w, Laid w → Calls Tryd.prog 8 #[.string u] w fun e w' => ∃ a cap, e = .returned (.tuple #[.slice a N cap, .int .i64 p', .int .i64 er]) ∧ SeesC w' (.slice a N cap) ys.length 4 (flatT ys) ∧ Below w.heap.size w w') := hidI fun w hw => (C8U.out w hw).mono (by
          rintro e w' ⟨v, rfl, hsv, hbv⟩
          have hsv' := hsv
          obtain ⟨_, a, cap, rfl, _⟩ := hsv
          rw [hN2] at hsv' ⊢
          exact ⟨a, cap, rfl, hsv', hbv⟩)
        obtain ⟨b4, hb4⟩ : ∃ b, (er == 4) = b := ⟨_, rfl⟩
        clear hbig HLW HLX HLY HBIG e3 e4 hN hN2 C8S C8U hyl
        cases b4
        all_goals
          go_wp2_with (first | (go_at_call 8; have hh := C8S'.out; clear hh; refine Calls.mono (C8S'.out _ HLr.out) ?_; rintro e w1 ⟨aa, capa, rfl, hsa, hb1⟩; have H1 := hidI hb1; have qc := HCV.out w1 hb1; have HA := hidI hsa; clear hb1 hsa C8S') | (go_at_call 8; refine Calls.mono (C8U'.out _ (HLr.out.on H1.out)) ?_; rintro e w2 ⟨ab, capb, rfl, hsb, hb2⟩; have H2 := hidI hb2; have HBB := hidI hsb; clear hb2 hsb qc))
          go_loopg [11] N (fun g s11 wx => ∃ i : Nat, i + g = N ∧ s11 = .int .i64 i ∧ Hid (Below w2.heap.size w2 wx))
          case atStart => exact ⟨0, by omega, rfl, hidI (Below.refl _ _)⟩
          case round =>
            obtain ⟨i, hig2, rfl, HX⟩ := hrel
            have h12 := H1.out
            cases gk with
            | zero =>
              obtain rfl : N = i := by omega
              have k5 : decide ((N : Int) < (N : Int)) = false := by simp
              clear h12
              go_wp2_with (go_at_call 11; refine Calls.mono (CL.out _ (((HLr.out.on H1.out).on H2.out).on HX.out)) ?_; rintro e w3 ⟨rfl, hb3⟩; have H3 := hidI hb3; clear hb3)
              go_ret
              refine ⟨rfl, ?_⟩
              have h1 := HB.out.trans (H1.out.mono HB.out.size)
              have h2 := h1.trans (H2.out.mono h1.size)
              have h3 := h2.trans (HX.out.mono h2.size)
              exact h3.trans (H3.out.mono h3.size)
            | succ g =>
              clear h12
              have k5 : (i : Int) < (N : Int) := by omega
              obtain ⟨x, hx⟩ : ∃ x, xs[i]? = some x := ⟨_, List.getElem?_eq_getElem (by have := HNX.out; omega)⟩
              obtain ⟨y, hy⟩ : ∃ y, ys[i]? = some y := ⟨_, List.getElem?_eq_getElem (by have := HNY.out; omega)⟩
              obtain ⟨ek, es, en⟩ := HE.out i x y hx hy
              have hA := HA.out
              have hBb := HBB.out
              obtain ⟨ca, pa, cpa, ea, x0, x1, x2, x3⟩ := hA.tok hx
              obtain ⟨cb, pb, cpb, eb, y0, y1, y2, y3⟩ := hBb.tok hy
              obtain rfl : aa = some ⟨ca, pa, none⟩ := by cases ea; rfl
              obtain rfl : ab = some ⟨cb, pb, none⟩ := by cases eb; rfl
              have kx : ∀ {p : Addr} {v : Value}, w1.cell? p = some v → wr.cell? p = some v := fun {p v} hc => by
                have e1 := (H2.out.cell (World.block_lt_of_cell? w1 _ hc)).trans hc
                exact (HX.out.cell (World.block_lt_of_cell? w2 _ e1)).trans e1
              have ky : ∀ {p : Addr} {v : Value}, w2.cell? p = some v → wr.cell? p = some v := fun {p v} hc => (HX.out.cell (World.block_lt_of_cell? w2 _ hc)).trans hc
              replace x0 := kx x0
              replace x1 := kx x1
              replace x2 := kx x2
              replace y0 := ky y0
              replace y1 := ky y1
              replace y2 := ky y2
              rw [← ek] at y0
              rw [← es] at y1
              rw [← en] at y2
              obtain ⟨K, hK⟩ : ∃ K, x.k = K := ⟨_, rfl⟩
              obtain ⟨S, hS⟩ : ∃ S, x.s = S := ⟨_, rfl⟩
              obtain ⟨V, hV⟩ : ∃ V, x.n = V := ⟨_, rfl⟩
              rw [hK] at x0 y0
              rw [hS] at x1 y1
              rw [hV] at x2 y2
              clear kx ky hx hy ek es en hA hBb ea eb x3 y3 hK hS hV
              go_wp2
              go_quiet (fail)
              go_wp2
              go_roundg g
              case measure => omega
              case rel => exact ⟨i + 1, by omega, by go_num, hidI (below_drewN HX.out _)⟩
    | succ g =>
      have k3 : (i : Int) < (n : Int) := by omega
      have him : i < n := by omega
      have q1 : ∀ w, (Instr.index 9 (.string s0) (.int .i64 (i : Int))).run Tryd.prog w = .ok (.int .u8 (sign s0 i)) w := QI.out i him
      have hby := sign_byte s0 i (by have := HN.out; omega)
      have HNX := hidI (fun (v : Value) (wx : World) (l' : Txt) (m : Nat) => BInv.next (s := s0) (w := w) (i := i) (v := v) (wx := wx) (l := l') (n := m) (by have := HN.out; omega))
      rw [hl] at HNX
      obtain ⟨c, hc⟩ : ∃ c, s0.get! i = c := ⟨_, rfl⟩
      rw [hc] at hby HNX
      rw [hby] at q1
      have HLL := hidI hL
      clear hby hl hL hc HI
      cases h32 : (c == 32) with
      | true =>
        obtain rfl : c = 32 := by simpa using h32
        clear h32
        go_wp2_with (at_builtin; go_must (refine wpList_append_any Tryd.underlying39 Tryd.info5 rfl (by decide) (by decide) rfl _ _ rfl w.heap.size _ L (cellsB (l)) rfl (own_below HOW.out (by (repeat (first | exact Below.refl _ _ | assumption | refine Below.drew ?_ | refine Below.alloc ?_ (by first | omega | (simp; done) | (simp; omega)) _ | refine Below.setCell ?_ (by first | omega | (simp; done) | (simp; omega)) _))) (Nat.le_refl _)) (.slice (some ⟨_, 0, none⟩) 2 2) 2 (cellsB [9, 32]) rfl (two_seen (by simp)) (cellsB_one _) (by omega) (by have := HB.out.size; simp; omega) ?_); intro v8 w8 hown8 hgrow8 hat8; refine Hid.out ?_)
        refine hidI ?_
        have hb0 := HB.out
        have hz := hb0.size
        have hB8 : Below w.heap.size w w8 := Below.grown (by (repeat (first | exact Below.refl _ _ | assumption | refine Below.drew ?_ | refine Below.alloc ?_ (by first | omega | (simp; done) | (simp; omega)) _ | refine Below.setCell ?_ (by first | omega | (simp; done) | (simp; omega)) _))) hgrow8 (by simp; omega) (fun k hk => (HOW.out.lt k hk).1)
        have HB8 := hidI hB8
        rw [← cellsB_append] at hown8
        have HO8 := hidI hown8
        obtain ⟨a8, c8, rfl⟩ := own_slice hown8
        clear hown8 hgrow8 hat8 hB8 hb0 hz
        go_wp2_with (at_builtin; go_must (refine wpList_append_any Tryd.underlying39 Tryd.info5 rfl (by decide) (by decide) rfl _ _ rfl w.heap.size _ (L + 2) (cellsB (l ++ [9, 32])) rfl (own_below HO8.out (by (repeat (first | exact Below.refl _ _ | assumption | refine Below.drew ?_ | refine Below.alloc ?_ (by first | omega | (simp; done) | (simp; omega)) _ | refine Below.setCell ?_ (by first | omega | (simp; done) | (simp; omega)) _))) (Nat.le_refl _)) (.slice (some ⟨_, 0, none⟩) 1 1) 1 (cellsB [32]) rfl (one_seen 32 (by simp)) (cellsB_one _) (by omega) (by have := HB8.out.size; simp; omega) ?_); intro v9 w9 hown9 hgrow9 hat9; refine Hid.out ?_)
        refine hidI ?_
        have hb0 := HB8.out
        have hz := hb0.size
        have hB9 : Below w.heap.size w w9 := Below.grown (by (repeat (first | exact Below.refl _ _ | assumption | refine Below.drew ?_ | refine Below.alloc ?_ (by first | omega | (simp; done) | (simp; omega)) _ | refine Below.setCell ?_ (by first | omega | (simp; done) | (simp; omega)) _))) hgrow9 (by simp; omega) (fun k hk => (HO8.out.lt k hk).1)
        rw [← cellsB_append] at hown9
        have HN9 := hidI (HNX.out _ _ _ _ (by simp [wideB]) (by simp [HLL.out]) hown9 hB9)
        clear hown9 hgrow9 hat9 hB9 hb0 hz
        go_wp2
        go_roundg g
        case measure => omega
        case rel => exact ⟨i + 1, by omega, by go_num, HN9⟩
      | false =>
        have k32 : ((c.toNat : Int) == 32) = false := by rw [← h32]; exact u8_eq c 32 (by decide)
        cases h10 : (c == 10) with
        | true =>
          obtain rfl : c = 10 := by simpa using h10
          clear h10 h32
          obtain ⟨i0, hi, hz0, hz1, hz2⟩ := info_parts Tryd.info5
          go_wp2_with (at_builtin; go_must (refine Lib.wpList_append_own_string _ rfl _ _ 39 9 rfl w.heap.size 5 i0 Tryd.underlying39 Tryd.underlying9 hi hz0 hz1 hz2 _ L (cellsB l) rfl HOW.out ⟨#[32, 59, 40, 120, 10]⟩ rfl (by unfold maxLen; show L + 5 ≤ _; omega) (by show L + 5 ≤ _; omega) (by have := HB.out.size; omega) ?_); intro v8 w8 hown8 hgrow8 hat8; refine Hid.out ?_)
          refine hidI ?_
          have hb0 := HB.out
          have hz := hb0.size
          have hB8 : Below w.heap.size w w8 := Below.grown hb0 hgrow8 (by omega) (fun k hk => (HOW.out.lt k hk).1)
          have HB8 := hidI hB8
          have hown8' : w8.ownsRow w.heap.size 5 1 v8 (L + 5) (cellsB (l ++ [32, 59, 40, 120, 10])) := by rw [cellsB_append]; exact hown8
          have HO8 := hidI hown8'
          obtain ⟨a8, c8, rfl⟩ := own_slice hown8'
          clear hown8 hown8' hgrow8 hat8 hB8 hb0 hz
          go_wp2_with (at_builtin; go_must (refine wpList_append_any Tryd.underlying39 Tryd.info5 rfl (by decide) (by decide) rfl _ _ rfl w.heap.size _ (L + 5) (cellsB (l ++ [32, 59, 40, 120, 10])) rfl (own_below HO8.out (by (repeat (first | exact Below.refl _ _ | assumption | refine Below.drew ?_ | refine Below.alloc ?_ (by first | omega | (simp; done) | (simp; omega)) _ | refine Below.setCell ?_ (by first | omega | (simp; done) | (simp; omega)) _))) (Nat.le_refl _)) (.slice (some ⟨_, 0, none⟩) 1 1) 1 (cellsB [10]) rfl (one_seen 10 (by simp)) (cellsB_one _) (by omega) (by have := HB8.out.size; simp; omega) ?_); intro v9 w9 hown9 hgrow9 hat9; refine Hid.out ?_)
          refine hidI ?_
          have hb0 := HB8.out
          have hz := hb0.size
          have hB9 : Below w.heap.size w w9 := Below.grown (by (repeat (first | exact Below.refl _ _ | assumption | refine Below.drew ?_ | refine Below.alloc ?_ (by first | omega | (simp; done) | (simp; omega)) _ | refine Below.setCell ?_ (by first | omega | (simp; done) | (simp; omega)) _))) hgrow9 (by simp; omega) (fun k hk => (HO8.out.lt k hk).1)
          rw [← cellsB_append] at hown9
          have HN9 := hidI (HNX.out _ _ _ _ (by simp [wideB]) (by simp [HLL.out]) hown9 hB9)
          clear hown9 hgrow9 hat9 hB9 hb0 hz
          go_wp2
          go_roundg g
          case measure => omega
          case rel => exact ⟨i + 1, by omega, by go_num, HN9⟩
        | false =>
          have k10 : ((c.toNat : Int) == 10) = false := by rw [← h10]; exact u8_eq c 10 (by decide)
          have HC : Hid (wideB c = [c]) := hidI (by
            have h1 : ¬ c = 32 := by simpa using h32
            have h2 : ¬ c = 10 := by simpa using h10
            simp [wideB, h1, h2])
          clear h32 h10
          go_wp2_with (at_builtin; go_must (refine wpList_append_any Tryd.underlying39 Tryd.info5 rfl (by decide) (by decide) rfl _ _ rfl w.heap.size _ L (cellsB (l)) rfl (own_below HOW.out (by (repeat (first | exact Below.refl _ _ | assumption | refine Below.drew ?_ | refine Below.alloc ?_ (by first | omega | (simp; done) | (simp; omega)) _ | refine Below.setCell ?_ (by first | omega | (simp; done) | (simp; omega)) _))) (Nat.le_refl _)) (.slice (some ⟨_, 0, none⟩) 1 1) 1 (cellsB [c]) rfl (one_seen c (by simp)) (cellsB_one _) (by omega) (by have := HB.out.size; simp; omega) ?_); intro v9 w9 hown9 hgrow9 hat9; refine Hid.out ?_)
          refine hidI ?_
          have hb0 := HB.out
          have hz := hb0.size
          have hB9 : Below w.heap.size w w9 := Below.grown (by (repeat (first | exact Below.refl _ _ | assumption | refine Below.drew ?_ | refine Below.alloc ?_ (by first | omega | (simp; done) | (simp; omega)) _ | refine Below.setCell ?_ (by first | omega | (simp; done) | (simp; omega)) _))) hgrow9 (by simp; omega) (fun k hk => (HOW.out.lt k hk).1)
          rw [← cellsB_append] at hown9
          have HN9 := hidI (HNX.out _ _ _ _ (by rw [HC.out]) (by simp [HLL.out]) hown9 hB9)
          clear hown9 hgrow9 hat9 hB9 hb0 hz
          go_wp2
          go_roundg g
          case measure => omega
          case rel => exact ⟨i + 1, by omega, by go_num, HN9⟩
theorem lexBlanks_law (s0 : ByteArray) (w : World) (h : Laid w) : Calls Tryd.prog 6 #[.string s0] w fun e w' => e = .returned (.bool true) ∧ Below w.heap.size w w' := by
  rcases Nat.lt_or_ge 800 s0.size with hs | hs
  · exact lexBlanks_out s0 (bytesOf (s0.data.toList.take 800)) (by rw [bytes_size, List.length_take]; omega) hs rfl w h
  · exact lexBlanks_in s0 hs w h
end Go.Proofs.YtlhjellnolhppaaDoor
