/-
  A graph's bytes: what Encode comes to.
-/
import Derived.Test.YtbjoljokdjgbnaaSame
import Derived.Laws.BytesArg
import Derived.Laws.MakeOwn
namespace Go.Proofs.Ytbjoljokdjgbnaa
open Go.RowKit Go.Deep
/-- The value v reads as the bytes bs. -/
def SeesB (w : World) (v : Value) (bs : List Int) : Prop :=
  ∃ (a : Option Addr) (cap : Nat), v = .slice a bs.length cap ∧ (bs = [] ∨ ∃ b off, a = some ⟨b, off, none⟩ ∧ ∀ j, j < bs.length → w.cell? ⟨b, off + j, none⟩ = some (.int .u8 (bs.getD j 0)))
theorem SeesB.below {w w' : World} {v : Value} {zs : List Int} {B : Nat} (h : SeesB w v zs) (hb : Below B w w') (hB : w.heap.size ≤ B) : SeesB w' v zs := by
  obtain ⟨a, cap, rfl, h⟩ := h
  refine ⟨a, cap, rfl, ?_⟩
  rcases h with h | ⟨b, off, rfl, hc⟩
  · exact .inl h
  · exact .inr ⟨b, off, rfl, fun j hj => (hb.cell (p := ⟨b, off + j, none⟩) (Nat.lt_of_lt_of_le (World.block_lt_of_cell? w _ (hc j hj)) hB)).trans (hc j hj)⟩
theorem seesB_of_owns {w : World} {base e : Nat} {v : Value} {zs : List Int} (h : w.ownsRow base e 1 v zs.length (zs.map (Value.int .u8))) : SeesB w v zs := by
  rcases Joins.ownsRow_forms h with ⟨rfl, h0⟩ | ⟨g, cap, rfl⟩
  · exact ⟨none, 0, by rw [h0], .inl (List.eq_nil_of_length_eq_zero h0)⟩
  · refine ⟨_, cap, rfl, .inr ⟨g, 0, rfl, fun j hj => ?_⟩⟩
    rw [Nat.zero_add, ← add_at]
    exact World.ownsRow.cells h rfl j _ (by simp [List.getD, hj])
theorem Try.info5 : (Try.prog.info? 5).map (fun i => (i.zero, i.size, i.bytes)) = some (some (.int .u8 0), 1, 1) := by kernel_rfl
/-- The edges' ends, one behind the other. -/
def ends : Edges → List Int
  | [] => []
  | x :: r => x.1 :: x.2 :: ends r
theorem ends_length : ∀ es : Edges, (ends es).length = 2 * es.length
  | [] => rfl
  | _ :: r => by simp [ends, ends_length r]; omega
theorem ends_append : ∀ es fs : Edges, ends (es ++ fs) = ends es ++ ends fs
  | [], _ => rfl
  | _ :: r, fs => by simp [ends, ends_append r fs]
/-- A graph's bytes. -/
def enc (n : Int) (es : Edges) : List Int := n :: (es.length : Int) :: ends es
theorem enc_length (n : Int) (es : Edges) : (enc n es).length = 2 + 2 * es.length := by simp [enc, ends_length]; omega
theorem pair_new (w : World) (x y : Value) (t : TypeId) : ∀ (j : Nat) (u : Value), [x, y][j]? = some u → (w.alloc (.cells #[x, y] t)).cell? ((⟨w.heap.size, 0, none⟩ : Addr).add j) = some u := by
  intro j u h
  have hn := World.alloc_heap_new w (.cells #[x, y] t)
  rw [add_at]
  match j, h with
  | 0, h => cases h; unfold World.cell?; rw [hn]; rfl
  | 1, h => cases h; unfold World.cell?; rw [hn]; rfl
  | j + 2, h => simp at h
set_option maxHeartbeats 1000000 in
theorem encode_bad (n : Int) (v : Value) (es : Edges) (w : World) (hv : SeesE w v es) (hc : (check n es).2 = 11) :
    Calls Try.prog 25 #[.int .i64 n, v] w fun e w' => e = .returned (.tuple #[.slice none 0 0, .int .i64 11]) ∧ Below w.heap.size w w' := by
  have C : Hid _ := check_any n v es w hv
  rw [hc] at C
  obtain ⟨c1, h1⟩ : ∃ c1, (check n es).1 = c1 := ⟨_, rfl⟩
  rw [h1] at C
  clear h1 hv hc
  go_enter Try.func25, Try.ntmps25
  go_wp2_with (go_at_call 10; refine Calls.mono C.out ?_; rintro e w1 ⟨rfl, hb⟩)
  go_ret2
  exact ⟨rfl, hb⟩
set_option maxRecDepth 100000 in
set_option maxHeartbeats 1000000 in
theorem encode_ok (n : Int) (v : Value) (es : Edges) (w : World) (hv : SeesE w v es) (h1 : 1 ≤ n) (h2 : n ≤ 12) (h3 : es.length ≤ 30) (hgd : ∀ x ∈ es, good n x = true) :
    Calls Try.prog 25 #[.int .i64 n, v] w fun e w' => ∃ u, e = .returned (.tuple #[u, .int .i64 0]) ∧ SeesB w' u (enc n es) ∧ Below w.heap.size w w' := by
  obtain ⟨i0, hi, hz0, hz1, hz2⟩ := info_parts Try.info5
  have hck : check n es = (0, 0) := by
    unfold check; rw [if_neg (by omega), findIdx_none (fun j x hx => hgd x (List.mem_of_getElem? hx))]
  have C : Hid _ := check_any n v es w hv
  rw [hck] at C
  obtain ⟨a, cap, rfl, hs⟩ := hv
  have HS : Hid _ := hs
  have HG : Hid _ := hgd
  obtain ⟨m, hm⟩ : ∃ m, es.length = m := ⟨_, rfl⟩
  rw [hm] at h3 C ⊢
  have HM : Hid _ := hm
  clear hs hm hgd hck
  have wn : IntKind.u8.wrap n = n := by rw [IntKind.wrap_u8]; omega
  have wm : IntKind.u8.wrap (m : Int) = m := by rw [IntKind.wrap_u8]; omega
  go_enter Try.func25, Try.ntmps25
  go_wp2_with (go_at_call 10; refine Calls.mono C.out ?_; rintro e w1 ⟨rfl, hb⟩; refine Hid.out ?_)
  refine hidI ?_
  obtain ⟨w2, hmk, hown, hgr⟩ := run_make_own w1 w1.heap.size 41 5 i0 (.int .u8 0) 1 Try.underlying41 hi hz0 hz1 .i64 .i64 (2 + 2 * m) (by rw [hz2]; omega) (by unfold maxLen; omega) (Nat.le_refl _)
  have e1 : ((2 + 2 * m : Nat) : Int) = 2 + 2 * (m : Int) := by omega
  rw [e1] at hmk
  clear C e1
  have HO := hidI hown
  have HR := hidI hgr
  have HB := hidI hb
  clear hown hgr hb
  go_wp2_with (at_builtin; refine wpList_append_own _ rfl _ _ 41 rfl w1.heap.size 5 i0 (.int .u8 0) 1 1 Try.underlying41 hi hz0 hz1 hz2 rfl (by decide) _ _ _ rfl (HO.out.alloc _) ⟨w2.heap.size, 0, none⟩ 2 2 [.int .u8 n, .int .u8 m] rfl rfl ?qc2 (by simp [Value.oneCell']) ?qc4 ?qc5 ?qc6 ?_)
  case qc2 => exact pair_new _ _ _ _
  case qc4 => unfold maxLen; omega
  case qc5 => omega
  case qc6 => have := HR.out.size; simp; omega
  intro v' w3 hown3 hgrow3 _
  refine Hid.out ?_
  refine hidI ?_
  have hb3 : Below w.heap.size w w3 := by
    have hs1 := HB.out.size
    have hs2 := HR.out.size
    exact (((HB.out.grown HR.out hs1 (by intro k hk; cases hk)).alloc (by omega) _).grown hgrow3 (by simp; omega) (by intro k hk; have := HO.out.lt k hk; omega))
  have hs3 : w1.heap.size ≤ w3.heap.size := by have := hgrow3.size; have := HR.out.size; simp at *; omega
  have hs01 := HB.out.size
  have HO3 := hidI hown3
  have HB3 := hidI hb3
  clear HO HR HB hgrow3 hown3 hb3 hmk
  go_wp2
  go_loopg [8, 35] m (fun g s8 s35 wx => ∃ (i : Nat), i + g = m ∧ s35 = .int .i64 i ∧ wx.ownsRow w1.heap.size 5 1 s8 (2 + 2 * i) ((n :: (m : Int) :: ends (es.take i)).map (Value.int .u8)) ∧ Below w.heap.size w wx ∧ w1.heap.size ≤ wx.heap.size)
  case atStart => exact ⟨0, by omega, rfl, by simpa [ends] using HO3.out, HB3.out, hs3⟩
  case round =>
    obtain ⟨i, hig, rfl, ho, hbl, hsz⟩ := hrel
    have HO := hidI ho
    have HB := hidI hbl
    clear ho hbl HO3 HB3
    cases gk with
    | zero =>
      have hil : i = m := by omega
      subst hil
      go_wp2
      go_ret2
      have hl : (enc n es).length = 2 + 2 * i := by rw [enc_length, HM.out]
      refine ⟨_, rfl, seesB_of_owns (base := w1.heap.size) (e := 5) ?_, HB.out⟩
      have := HO.out
      rw [List.take_of_length_le (by rw [HM.out]; exact Nat.le_refl _)] at this
      rw [hl]
      unfold enc
      rw [HM.out]
      exact this
    | succ g =>
      have hlt : i < m := by omega
      obtain ⟨x, hx⟩ : ∃ x, es[i]? = some x := ⟨es[i]'(by have := HM.out; omega), List.getElem?_eq_getElem _⟩
      have HX : Hid _ := hx
      have hgx := HG.out x (List.mem_of_getElem? hx)
      rcases HS.out with h0 | ⟨b, off, rfl, hc⟩
      · have := HM.out; rw [h0] at this; simp at this; omega
      have hbw : b < w.heap.size := World.block_lt_of_cell? w _ (hc i x hx).1
      have c1 : wr.cell? ⟨b, off + i * 2, none⟩ = some (.int .i64 x.1) := (HB.out.cell (p := ⟨b, off + i * 2, none⟩) hbw).trans (hc i x hx).1
      have c2 : wr.cell? ⟨b, off + i * 2 + 1, none⟩ = some (.int .i64 x.2) := (HB.out.cell (p := ⟨b, off + i * 2 + 1, none⟩) hbw).trans (hc i x hx).2
      simp only [good, Bool.and_eq_true, decide_eq_true_eq] at hgx
      obtain ⟨⟨g1, g2⟩, g3, g4⟩ := hgx
      have wx1 : IntKind.u8.wrap x.1 = x.1 := by rw [IntKind.wrap_u8]; omega
      have wx2 : IntKind.u8.wrap x.2 = x.2 := by rw [IntKind.wrap_u8]; omega
      clear hx hc g1 g2 g3 g4 hbw
      go_wp2_with (at_builtin; refine wpList_append_own _ rfl _ _ 41 rfl w1.heap.size 5 i0 (.int .u8 0) 1 1 Try.underlying41 hi hz0 hz1 hz2 rfl (by decide) _ _ _ rfl ((HO.out.alloc _).alloc _) ⟨wr.heap.size + 1, 0, none⟩ 2 2 [.int .u8 x.1, .int .u8 x.2] rfl rfl ?qc2 (by simp [Value.oneCell']) ?qc4 ?qc5 ?qc6 ?_)
      case qc2 =>
        have h := pair_new (wr.alloc (.cells #[.int .i64 x.1, .int .i64 x.2] 55)) (.int .u8 x.1) (.int .u8 x.2) 5
        simp only [World.size_alloc] at h
        exact h
      case qc4 => unfold maxLen; omega
      case qc5 => omega
      case qc6 => simp; omega
      intro v' w4 hown4 hgrow4 _
      have HO4 := hidI hown4
      have HR4 := hidI hgrow4
      clear hown4 hgrow4
      go_wp2
      go_roundg g
      case measure => omega
      case rel =>
        have e1 : ends (es.take (i + 1)) = ends (es.take i) ++ [x.1, x.2] := by
          rw [List.take_add_one, HX.out]; simp [ends_append, ends]
        refine ⟨i + 1, by omega, by go_num, ?_, ?_, ?_⟩
        · have := HO4.out
          rw [e1, show 2 + 2 * (i + 1) = 2 + 2 * i + 2 by omega]
          simpa using this
        · have h5 := HB.out.size
          exact ((HB.out.alloc h5 _).alloc (by simp; omega) _).grown HR4.out (by simp; omega) (by intro k hk; have := HO.out.lt k hk; omega)
        · have := HR4.out.size; simp at *; omega
end Go.Proofs.Ytbjoljokdjgbnaa
