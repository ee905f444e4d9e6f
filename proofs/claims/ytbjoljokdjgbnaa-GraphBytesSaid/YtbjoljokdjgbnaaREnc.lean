/-
  The document's Encode.
-/
import Derived.Test.YtbjoljokdjgbnaaRCheck
import Derived.Test.YtbjoljokdjgbnaaDec
namespace Go.Proofs.Ytbjoljokdjgbnaa
open Go.RowKit Go.Deep
set_option maxHeartbeats 1000000 in
theorem rencode_bad (n : Int) (v : Value) (es : Edges) (w : World) (hv : SeesE w v es) (hc : (check n es).2 = 11) :
    Calls Try.prog 26 #[.int .i64 n, v] w fun e w' => e = .returned (.tuple #[.slice none 0 0, .int .i64 11]) ∧ w = w' := by
  have C : Hid _ := rcheck_any n v es w hv
  rw [hc] at C
  obtain ⟨c1, h1⟩ : ∃ c1, (check n es).1 = c1 := ⟨_, rfl⟩
  rw [h1] at C
  clear h1 hv hc
  go_enter Try.func26, Try.ntmps26
  go_wp2_with (go_at_call 11; refine Calls.mono C.out ?_; rintro e w1 ⟨rfl, rfl⟩)
  go_ret2
  exact ⟨rfl, rfl⟩
set_option maxRecDepth 100000 in
set_option maxHeartbeats 1000000 in
theorem rencode_ok (n : Int) (v : Value) (es : Edges) (w : World) (hv : SeesE w v es) (h1 : 1 ≤ n) (h2 : n ≤ 12) (h3 : es.length ≤ 30) (hgd : ∀ x ∈ es, good n x = true) :
    Calls Try.prog 26 #[.int .i64 n, v] w fun e w' => ∃ u, e = .returned (.tuple #[u, .int .i64 0]) ∧ SeesB w' u (enc n es) ∧ Below w.heap.size w w' := by
  obtain ⟨i0, hi, hz0, hz1, hz2⟩ := info_parts Try.info5
  have hck : check n es = (0, 0) := by
    unfold check; rw [if_neg (by omega), findIdx_none (fun j x hx => hgd x (List.mem_of_getElem? hx))]
  have C : Hid _ := rcheck_any n v es w hv
  rw [hck] at C
  obtain ⟨a, cap, rfl, hs⟩ := hv
  have HS : Hid _ := hs
  have HG : Hid _ := hgd
  obtain ⟨m, hm⟩ : ∃ m, es.length = m := ⟨_, rfl⟩
  rw [hm] at h3 C ⊢
  have HM : Hid _ := hm
  clear hs hm hgd hck
  have wn : IntKind.u8.wrap n = n := by rw [IntKind.wrap_u8]; omega
  have wm : IntKind.u8.wrap (m : Int) = m := by rw [IntKind.wrap_u8]; omega
  go_enter Try.func26, Try.ntmps26
  go_wp2_with (go_at_call 11; refine Calls.mono C.out ?_; rintro e w1 ⟨rfl, rfl⟩; refine Hid.out ?_)
  refine hidI ?_
  clear C
  go_wp2
  go_loopg [8, 9] m (fun g s8 s9 wx => ∃ (i : Nat), i + g = m ∧ s9 = .int .i64 i ∧ wx.ownsRow w.heap.size 5 1 s8 (2 + 2 * i) ((n :: (m : Int) :: ends (es.take i)).map (Value.int .u8)) ∧ Below w.heap.size w wx ∧ w.heap.size ≤ wx.heap.size)
  case atStart =>
    refine ⟨0, by omega, rfl, ?_, (Below.refl _ w).alloc (Nat.le_refl _) _, by simp⟩
    exact ⟨by simp [ends], .inr ⟨w.heap.size, 2, _, rfl, Nat.le_refl _, World.alloc_heap_new w _, by omega, by unfold maxLen; omega, rfl, rfl⟩⟩
  case round =>
    obtain ⟨i, hig, rfl, ho, hbl, hsz⟩ := hrel
    have HO := hidI ho
    have HB := hidI hbl
    clear ho hbl
    cases gk with
    | zero =>
      have hil : i = m := by omega
      subst hil
      go_wp2
      go_ret2
      have hl : (enc n es).length = 2 + 2 * i := by rw [enc_length, HM.out]
      refine ⟨_, rfl, seesB_of_owns (base := w.heap.size) (e := 5) ?_, HB.out⟩
      have := HO.out
      rw [List.take_of_length_le (by rw [HM.out]; exact Nat.le_refl _)] at this
      rw [hl]
      unfold enc
      rw [HM.out]
      exact this
    | succ g =>
      have hlt : i < m := by omega
      have k3 : (i : Int) < (m : Int) := by omega
      obtain ⟨x, hx⟩ : ∃ x, es[i]? = some x := ⟨es[i]'(by have := HM.out; omega), List.getElem?_eq_getElem _⟩
      have HX : Hid _ := hx
      have hgx := HG.out x (List.mem_of_getElem? hx)
      rcases HS.out with h0 | ⟨b, off, rfl, hc⟩
      · have := HM.out; rw [h0] at this; simp at this; omega
      have hbw : b < w.heap.size := World.block_lt_of_cell? w _ (hc i x hx).1
      have c1 : wr.cell? ⟨b, off + i * 2, none⟩ = some (.int .i64 x.1) := (HB.out.cell (p := ⟨b, off + i * 2, none⟩) hbw).trans (hc i x hx).1
      have c2 : wr.cell? ⟨b, off + i * 2 + 1, none⟩ = some (.int .i64 x.2) := (HB.out.cell (p := ⟨b, off + i * 2 + 1, none⟩) hbw).trans (hc i x hx).2
      simp only [good, Bool.and_eq_true, decide_eq_true_eq] at hgx
      obtain ⟨⟨g1, g2⟩, g3, g4⟩ := hgx
      have wx1 : IntKind.u8.wrap x.1 = x.1 := by rw [IntKind.wrap_u8]; omega
      have wx2 : IntKind.u8.wrap x.2 = x.2 := by rw [IntKind.wrap_u8]; omega
      clear hx hc g1 g2 g3 g4
      have hnw : ∀ (j : Nat) (u : Value), [Value.int .u8 x.1, .int .u8 x.2][j]? = some u → (wr.alloc (.cells #[.int .u8 x.1, .int .u8 x.2] 5)).drew.cell? ((⟨wr.heap.size, 0, none⟩ : Addr).add j) = some u := pair_new wr (.int .u8 x.1) (.int .u8 x.2) 5
      have hne : some b ≠ u8.ownBlock := fun hk => by have := (HO.out.lt b hk.symm).1; omega
      have d1 : (wr.alloc (.cells #[.int .u8 x.1, .int .u8 x.2] 5)).drew.cell? ⟨b, off + i * 2, none⟩ = some (.int .i64 x.1) := cell_al _ c1
      have d2 : (wr.alloc (.cells #[.int .u8 x.1, .int .u8 x.2] 5)).drew.cell? ⟨b, off + i * 2 + 1, none⟩ = some (.int .i64 x.2) := cell_al _ c2
      have hod : (wr.alloc (.cells #[.int .u8 x.1, .int .u8 x.2] 5)).drew.ownsRow w.heap.size 5 1 u8 (2 + 2 * i) ((n :: (m : Int) :: ends (es.take i)).map (Value.int .u8)) := HO.out.alloc _
      have HOD := hidI hod
      have HNW := hidI hnw
      have D1 := hidI d1
      have D2 := hidI d2
      have HNE := hidI hne
      have q1 : 2 + 2 * i + 2 ≤ maxLen := by unfold maxLen; omega
      have q2 : (2 + 2 * i + 2) * 1 ≤ 140737488355328 := by omega
      have q3 : w.heap.size ≤ (wr.alloc (.cells #[.int .u8 x.1, .int .u8 x.2] 5)).drew.heap.size := by simp; omega
      have Q1 := hidI q1
      have Q2 := hidI q2
      have Q3 := hidI q3
      clear hne d1 d2 hod hnw q1 q2 q3 hbw
      go_wp2
      go_region_held_law (fun w' => w'.cell? ⟨b, off + i * 2, none⟩ = some (.int .i64 x.1) ∧ w'.cell? ⟨b, off + i * 2 + 1, none⟩ = some (.int .i64 x.2))
        (first | assumption | exact ⟨D1.out, D2.out⟩ | exact ⟨kept_cell hgrow D1.out HNE.out, kept_cell hgrow D2.out HNE.out⟩ | go_keep)
        ((refine step_append_lies _ rfl _ _ 41 rfl w.heap.size 5 i0 (.int .u8 0) 1 1 Try.underlying41 hi hz0 hz1 hz2 rfl (by decide) u8 (2 + 2 * i) _ rfl HOD.out ⟨wr.heap.size, 0, none⟩ 2 2 [.int .u8 x.1, .int .u8 x.2] rfl rfl HNW.out (by simp [Value.oneCell']) (by decide) Q1.out Q2.out Q3.out _ rfl ?_; intro gq capq wq hown' hgrow _ _))
      have HO4 := hidI hown'
      have HR4 := hidI hgrow
      clear hown' hgrow
      go_wp2
      go_roundg g
      case measure => omega
      case rel =>
        have e1 : ends (es.take (i + 1)) = ends (es.take i) ++ [x.1, x.2] := by
          rw [List.take_add_one, HX.out]; simp [ends_append, ends]
        have h5 := HB.out.size
        refine ⟨i + 1, by omega, by go_num, ?_, ?_, ?_⟩
        · have := HO4.out
          rw [e1, show 2 + 2 * (i + 1) = 2 + 2 * i + 2 by omega]
          simpa using this
        · exact ((HB.out.alloc h5 _).drew).grown HR4.out (by simp; omega) (by intro k hk; have := HO.out.lt k hk; omega)
        · have := HR4.out.size; simp at *; omega
end Go.Proofs.Ytbjoljokdjgbnaa
