/-
  The graph that bytes say: what Decode comes to.
-/
import Derived.Test.YtbjoljokdjgbnaaFirst
import Derived.Deep.AppendLies
import Derived.Deep.RegionHeldLaw
namespace Go.Proofs.Ytbjoljokdjgbnaa
open Go.RowKit Go.Deep
theorem ends_at : ∀ (es : Edges) (i : Nat) (x : Int × Int), es[i]? = some x → (ends es).getD (2 * i) 0 = x.1 ∧ (ends es).getD (2 * i + 1) 0 = x.2
  | [], i, x, h => by simp at h
  | y :: r, 0, x, h => by simp at h; subst h; exact ⟨rfl, rfl⟩
  | y :: r, i + 1, x, h => by
    have := ends_at r i x (by simpa using h)
    rw [show 2 * (i + 1) = 2 * i + 2 by omega]
    exact ⟨this.1, this.2⟩
theorem enc_at {n : Int} {es : Edges} {i : Nat} {x : Int × Int} (h : es[i]? = some x) : (enc n es).getD (2 + 2 * i) 0 = x.1 ∧ (enc n es).getD (2 + 2 * i + 1) 0 = x.2 := by
  have := ends_at es i x h
  rw [show 2 + 2 * i = 2 * i + 2 by omega]
  exact this
theorem ends_mem {es : Edges} {z : Int} (h : z ∈ ends es) : ∃ x ∈ es, z = x.1 ∨ z = x.2 := by
  induction es with
  | nil => simp [ends] at h
  | cons x r ih =>
    simp only [ends, List.mem_cons] at h
    rcases h with h | h | h
    · exact ⟨x, by simp, .inl h⟩
    · exact ⟨x, by simp, .inr h⟩
    · obtain ⟨y, hy, hz⟩ := ih h
      exact ⟨y, by simp [hy], hz⟩
theorem enc_bytes {n : Int} {es : Edges} (h1 : 1 ≤ n) (h2 : n ≤ 12) (h3 : es.length ≤ 30) (hgd : ∀ x ∈ es, good n x = true) : ∀ z ∈ enc n es, 0 ≤ z ∧ z < 256 := by
  intro z hz
  simp only [enc, List.mem_cons] at hz
  rcases hz with rfl | rfl | hz
  · omega
  · omega
  · obtain ⟨x, hx, hz⟩ := ends_mem hz
    have := hgd x hx
    simp only [good, Bool.and_eq_true, decide_eq_true_eq] at this
    omega
/-- A graph's bytes are right. -/
theorem fw_enc {n : Int} {es : Edges} (h1 : 1 ≤ n) (h2 : n ≤ 12) (h3 : es.length ≤ 30) (hgd : ∀ x ∈ es, good n x = true) : fw (enc n es) = (((enc n es).length : Int), true) := by
  rw [fw_none]
  · have : (enc n es).length = 2 + 2 * es.length := enc_length n es
    have e1 : endAt (enc n es) (enc n es).length = 2 + 2 * (es.length : Int) := by
      unfold endAt; rw [if_neg (by omega)]; rfl
    rw [e1, this]; simp
  · intro j hj
    rw [enc_length] at hj
    unfold wrongAt
    by_cases h0 : j = 0
    · rw [if_pos h0]; simp [enc]; omega
    · rw [if_neg h0]
      by_cases hj1 : j = 1
      · rw [if_pos hj1]; simp [enc]; omega
      · rw [if_neg hj1]
        have e1 : (enc n es).getD 1 0 = es.length := rfl
        have e0 : (enc n es).getD 0 0 = n := rfl
        obtain ⟨x, hx⟩ : ∃ x, es[(j - 2) / 2]? = some x := ⟨es[(j - 2) / 2]'(by omega), List.getElem?_eq_getElem _⟩
        have hgx := hgd x (List.mem_of_getElem? hx)
        simp only [good, Bool.and_eq_true, decide_eq_true_eq] at hgx
        obtain ⟨a1, a2⟩ := enc_at (n := n) hx
        rw [e0, e1]
        rcases Nat.mod_two_eq_zero_or_one j with hm | hm
        · rw [show 2 + 2 * ((j - 2) / 2) = j by omega] at a1
          rw [a1]; simp; omega
        · rw [show 2 + 2 * ((j - 2) / 2) + 1 = j by omega] at a2
          rw [a2]; simp; omega
/-- Two by two. -/
def pairs : List Int → Edges
  | x :: y :: r => (x, y) :: pairs r
  | _ => []
theorem ends_pairs : ∀ (m : Nat) (l : List Int), l.length = 2 * m → ends (pairs l) = l ∧ (pairs l).length = m
  | 0, l, h => by
    obtain rfl : l = [] := List.eq_nil_of_length_eq_zero (by omega)
    exact ⟨rfl, rfl⟩
  | m + 1, [], h => by simp at h
  | m + 1, [x], h => by simp at h; omega
  | m + 1, x :: y :: r, h => by
    obtain ⟨i1, i2⟩ := ends_pairs m r (by simp at h; omega)
    exact ⟨by simp [pairs, ends, i1], by simp [pairs, i2]⟩
/-- Right bytes are a graph's. -/
theorem fw_true {bs : List Int} (hr : ∀ z ∈ bs, 0 ≤ z ∧ z < 256) (h : (fw bs).2 = true) : ∃ n es, bs = enc n es ∧ 1 ≤ n ∧ n ≤ 12 ∧ es.length ≤ 30 ∧ ∀ x ∈ es, good n x = true := by
  cases hf : (List.range bs.length).find? (wrongAt bs) with
  | some i => unfold fw at h; rw [hf] at h; cases h
  | none =>
    have hn : ∀ j, j < bs.length → wrongAt bs j = false := by
      intro j hj
      rw [List.find?_range_eq_none] at hf
      have := hf j hj
      simpa using this
    unfold fw at h; rw [hf] at h
    simp only [decide_eq_true_eq] at h
    unfold endAt at h
    split at h
    · omega
    · rename_i h2
      match bs, hn, h, hr, h2 with
      | n :: m :: r, hn, h, hr, h2 =>
        have e1 : (n :: m :: r).getD 1 0 = m := rfl
        have e0 : (n :: m :: r).getD 0 0 = n := rfl
        rw [e1] at h
        have w0 := hn 0 (by simp)
        have w1 := hn 1 (by simp)
        simp only [wrongAt, if_true, e0, e1, if_neg (show ¬ (1 = 0) by decide)] at w0 w1
        have m0 := (hr m (by simp)).1
        obtain ⟨k, rfl⟩ : ∃ k : Nat, m = k := ⟨m.toNat, by omega⟩
        obtain ⟨p1, p2⟩ := ends_pairs k r (by simp at h; omega)
        simp only [Bool.not_eq_false', Bool.and_eq_true, decide_eq_true_eq] at w0
        simp only [decide_eq_false_iff_not] at w1
        refine ⟨n, pairs r, by unfold enc; rw [p1, p2], w0.1, w0.2, by omega, fun x hx => ?_⟩
        obtain ⟨i, hi⟩ := List.getElem?_of_mem hx
        have hil := (List.getElem?_eq_some_iff.1 hi).1
        obtain ⟨a1, a2⟩ := ends_at _ i x hi
        rw [p1] at a1 a2
        have hlen : (n :: (k : Int) :: r).length = 2 + 2 * k := by simp at h ⊢; omega
        have q1 := hn (2 * i + 2) (by rw [hlen]; omega)
        have q2 := hn (2 * i + 3) (by rw [hlen]; omega)
        unfold wrongAt at q1 q2
        rw [if_neg (by omega), if_neg (by omega), e0, e1, show (n :: (k : Int) :: r).getD (2 * i + 2) 0 = r.getD (2 * i) 0 from rfl, a1] at q1
        rw [if_neg (by omega), if_neg (by omega), e0, e1, show (n :: (k : Int) :: r).getD (2 * i + 3) 0 = r.getD (2 * i + 1) 0 from rfl, a2] at q2
        simp only [Bool.or_eq_false_iff, Bool.not_eq_false'] at q1 q2
        unfold good
        rw [q1.2, q2.2]; rfl
theorem results_tmp4 {fn : Func} {t u v x : Tmp} (h : fn.results = #[.tmp t, .tmp u, .tmp v, .tmp x]) (tmps : Array Value) (P : Program) (w : World) :
    (results fn tmps).run P w = .ok (.tuple #[tmps.getD t undef, tmps.getD u undef, tmps.getD v undef, tmps.getD x undef]) w := by
  simp [results, h]
set_option maxHeartbeats 1000000 in
theorem decode_bad (v : Value) (bs : List Int) (w : World) (hv : SeesB w v bs) (hr : ∀ x ∈ bs, 0 ≤ x ∧ x < 256) (hl : bs.length ≤ 9223372036854775807) (hf : (fw bs).2 = false) :
    Calls Try.prog 27 #[v] w fun e w' => e = .returned (.tuple #[.int .i64 0, .slice none 0 0, .int .i64 (fw bs).1, .int .i64 3]) ∧ w = w' := by
  have C := hidI (first_any v bs w hv hr hl)
  rw [hf] at C
  obtain ⟨c1, h1⟩ : ∃ c1, (fw bs).1 = c1 := ⟨_, rfl⟩
  rw [h1] at C ⊢
  clear h1 hv hf hr
  go_enter Try.func27, Try.ntmps27
  go_wp2_with (go_at_call 54; refine Calls.mono C.out ?_; rintro e w1 ⟨rfl, rfl⟩)
  refine bodyPost_ret (results_tmp4 rfl _ _ _) rfl ?_
  exact ⟨rfl, rfl⟩
theorem flat_append : ∀ es fs : Edges, flat (es ++ fs) = flat es ++ flat fs
  | [], _ => rfl
  | _ :: r, fs => by simp [flat, flat_append r fs]
theorem kept_cell {W W' : World} {row : Option Nat} {p : Addr} {x : Value} (hg : W.grownBy W' row) (hc : W.cell? p = some x) (hne : some p.block ≠ row) : W'.cell? p = some x :=
  (hg.cell_far p (World.block_lt_of_cell? W _ hc) hne).trans hc
set_option maxRecDepth 100000 in
set_option maxHeartbeats 2000000 in
theorem decode_ok (v : Value) (n : Int) (es : Edges) (w : World) (hv : SeesB w v (enc n es)) (h1 : 1 ≤ n) (h2 : n ≤ 12) (h3 : es.length ≤ 30) (hgd : ∀ x ∈ es, good n x = true) :
    Calls Try.prog 27 #[v] w fun e w' => ∃ u, e = .returned (.tuple #[.int .i64 n, u, .int .i64 0, .int .i64 0]) ∧ SeesE w' u es ∧ Below w.heap.size w w' := by
  obtain ⟨i0, hi, hz0, hz1, hz2⟩ := info_parts Try.info55
  have hel := enc_length n es
  have C := hidI (first_any v (enc n es) w hv (enc_bytes h1 h2 h3 hgd) (by omega))
  rw [fw_enc h1 h2 h3 hgd] at C
  obtain ⟨a, cap, rfl, hs⟩ := hv
  rcases hs with h0 | ⟨b, off, rfl, hc⟩
  · cases h0
  have c0 := hc 0 (by omega)
  rw [Nat.add_zero, show (enc n es).getD 0 0 = n from rfl] at c0
  have hbw : b < w.heap.size := World.block_lt_of_cell? w _ c0
  have HC := hidI hc
  have HG := hidI hgd
  have HL := hidI hel
  rw [hel] at C ⊢
  obtain ⟨m, hm⟩ : ∃ m, es.length = m := ⟨_, rfl⟩
  rw [hm] at h3 C ⊢
  have HM := hidI hm
  have wn : IntKind.i64.wrap n = n := by rw [IntKind.wrap_i64]; omega
  obtain ⟨L, hL⟩ : ∃ L, 2 + 2 * m = L := ⟨_, rfl⟩
  rw [hL] at C ⊢
  have hL2 : 2 ≤ L := by omega
  have hL3 : L ≤ 62 := by omega
  have HLL := hidI hL
  clear hc hgd hel hm hL
  go_enter Try.func27, Try.ntmps27
  go_wp2_with (go_at_call 54; refine Calls.mono C.out ?_; rintro e w1 ⟨rfl, rfl⟩; refine Hid.out ?_)
  refine hidI ?_
  clear C
  go_wp2
  go_loopg [8, 9] m (fun g s8 s9 wx => ∃ (i p : Nat), i + g = m ∧ p = 2 + 2 * i ∧ s9 = .int .i64 p ∧ wx.ownsRow w.heap.size 55 2 s8 i (flat (es.take i)) ∧ Below w.heap.size w wx ∧ w.heap.size ≤ wx.heap.size)
  case atStart => exact ⟨0, 2, by omega, rfl, rfl, World.ownsRow_nil _ _ _ _, Below.refl _ _, Nat.le_refl _⟩
  case round =>
    obtain ⟨i, p, hig, hp, rfl, ho, hbl, hsz⟩ := hrel
    have HO := hidI ho
    have HB := hidI hbl
    clear ho hbl
    cases gk with
    | zero =>
      have hil : i = m := by omega
      subst hil
      have hpl : p = L := by have := HLL.out; omega
      subst hpl
      clear hp
      have d0 : wr.cell? ⟨b, off, none⟩ = some (.int .u8 n) := (HB.out.cell (p := ⟨b, off, none⟩) hbw).trans c0
      go_wp2
      refine bodyPost_ret (results_tmp4 rfl _ _ _) rfl ?_
      refine ⟨_, rfl, seesE_of_owns (base := w.heap.size) ?_, HB.out⟩
      have := HO.out
      rw [List.take_of_length_le (by rw [HM.out]; exact Nat.le_refl _)] at this
      rw [HM.out]
      exact this
    | succ g =>
      have hlt : i < m := by omega
      have hpL : p + 1 < L := by have := HLL.out; omega
      have HP := hidI hp
      have k1 : (p : Int) + 1 < (L : Int) := by omega
      have k0 : (0 : Int) ≤ (p : Int) + 1 := by omega
      have k2 : ((p : Int) + 1).toNat = p + 1 := by omega
      have k3 : (p : Int) < (L : Int) := by omega
      have k4 : IntKind.i64.wrap ((p : Int) + 1) = (p : Int) + 1 := by rw [IntKind.wrap_i64]; omega
      obtain ⟨x, hx⟩ : ∃ x, es[i]? = some x := ⟨es[i]'(by have := HM.out; omega), List.getElem?_eq_getElem _⟩
      have HX : Hid _ := hx
      have hgx := HG.out x (List.mem_of_getElem? hx)
      obtain ⟨a1, a2⟩ := enc_at (n := n) hx
      rw [← hp] at a1 a2
      have b1 := HC.out p (by have := HL.out; have := HM.out; omega)
      have b2 := HC.out (p + 1) (by have := HL.out; have := HM.out; omega)
      rw [a1] at b1
      rw [a2] at b2
      have c1 : wr.cell? ⟨b, off + p, none⟩ = some (.int .u8 x.1) := (HB.out.cell (p := ⟨b, _, none⟩) hbw).trans b1
      have c2 : wr.cell? ⟨b, off + (p + 1), none⟩ = some (.int .u8 x.2) := (HB.out.cell (p := ⟨b, _, none⟩) hbw).trans b2
      simp only [good, Bool.and_eq_true, decide_eq_true_eq] at hgx
      obtain ⟨⟨g1, g2⟩, g3, g4⟩ := hgx
      have wx1 : IntKind.i64.wrap x.1 = x.1 := by rw [IntKind.wrap_i64]; omega
      have wx2 : IntKind.i64.wrap x.2 = x.2 := by rw [IntKind.wrap_i64]; omega
      clear hp hx g1 g2 g3 g4 a1 a2 b1 b2
      have hnw := pair_new wr (.int .i64 x.1) (.int .i64 x.2) 55
      have hne : some b ≠ u8.ownBlock := fun hk => by have := (HO.out.lt b hk.symm).1; omega
      have d1 : (wr.alloc (.cells #[.int .i64 x.1, .int .i64 x.2] 55)).drew.cell? ⟨b, off + p, none⟩ = some (.int .u8 x.1) := cell_al _ c1
      have d2 : (wr.alloc (.cells #[.int .i64 x.1, .int .i64 x.2] 55)).drew.cell? ⟨b, off + (p + 1), none⟩ = some (.int .u8 x.2) := cell_al _ c2
      have hod : (wr.alloc (.cells #[.int .i64 x.1, .int .i64 x.2] 55)).drew.ownsRow w.heap.size 55 2 u8 i (flat (es.take i)) := HO.out.alloc _
      have HOD := hidI hod
      have HNW := hidI hnw
      have D1 := hidI d1
      have D2 := hidI d2
      have HNE := hidI hne
      have q1 : i + 1 ≤ maxLen := by unfold maxLen; omega
      have q2 : (i + 1) * 16 ≤ 140737488355328 := by omega
      have q3 : w.heap.size ≤ (wr.alloc (.cells #[.int .i64 x.1, .int .i64 x.2] 55)).drew.heap.size := by simp; omega
      have Q1 := hidI q1
      have Q2 := hidI q2
      have Q3 := hidI q3
      clear hne d1 d2 hod hnw q1 q2 q3
      go_wp2
      go_region_held_law (fun w' => w'.cell? ⟨b, off + p, none⟩ = some (.int .u8 x.1) ∧ w'.cell? ⟨b, off + (p + 1), none⟩ = some (.int .u8 x.2))
        (first | assumption | exact ⟨D1.out, D2.out⟩ | exact ⟨kept_cell hgrow D1.out HNE.out, kept_cell hgrow D2.out HNE.out⟩ | go_keep)
        ((refine step_append_lies _ rfl _ _ 22 rfl w.heap.size 55 i0 (.agg #[.int .i64 0, .int .i64 0]) 2 16 Try.underlying22 hi hz0 hz1 hz2 rfl (by decide) u8 i _ rfl HOD.out ⟨wr.heap.size, 0, none⟩ 1 1 [.int .i64 x.1, .int .i64 x.2] rfl rfl HNW.out (by simp [Value.oneCell']) (by decide) Q1.out Q2.out Q3.out _ rfl ?_; intro gq capq wq hown' hgrow _ _))
      have HO4 := hidI hown'
      have HR4 := hidI hgrow
      clear hown' hgrow
      go_wp2
      go_roundg g
      case measure => omega
      case rel =>
        have e1 : flat (es.take (i + 1)) = flat (es.take i) ++ [.int .i64 x.1, .int .i64 x.2] := by
          rw [List.take_add_one, HX.out]; simp [flat_append, flat]
        have h5 := HB.out.size
        refine ⟨i + 1, p + 2, by omega, by have := HP.out; omega, by go_num, ?_, ?_, ?_⟩
        · rw [e1]; exact HO4.out
        · exact ((HB.out.alloc h5 _).drew).grown HR4.out (by simp; omega) (by intro k hk; have := HO.out.lt k hk; omega)
        · have := HR4.out.size; simp at *; omega
end Go.Proofs.Ytbjoljokdjgbnaa
