/-
  Places anew, each higher by that many.
-/
import Derived.Test.YtnlplkchkhibaaaDoorTRight
namespace Go.Proofs.YtnlplkchkhibaaaDoor
open Go.RowKit Go.Deep Go.MapKept
def up (b : Int) (l : List Int) : List Int := l.map fun x => IntKind.i64.wrap (x + b)
theorem up_length (b : Int) (l : List Int) : (up b l).length = l.length := by simp [up]
theorem intsI_append (a b : List Int) : intsI (a ++ b) = intsI a ++ intsI b := by simp [intsI]
theorem up_next {b : Int} {l : List Int} {i : Nat} {x : Int} (h : l[i]? = some x) : intsI (up b (l.take (i + 1))) = intsI (up b (l.take i)) ++ [.int .i64 (IntKind.i64.wrap (x + b))] := by
  rw [List.take_add_one, h]
  simp [up, intsI]
/-- What higher leaves. -/
def HighPost (w : World) (b : Int) (l : List Int) (e : Ending) (w' : World) : Prop := ∃ v, e = .returned v ∧ w'.ownsRow w.heap.size 3 1 v l.length (intsI (up b l)) ∧ Below w.heap.size w w'
theorem ints_cell {w : World} {a : Option Addr} {cap : Nat} {l : List Int} (h : SeesC w (.slice a l.length cap) l.length 1 (intsI l)) {i : Nat} {x : Int} (hx : l[i]? = some x) : ∃ b off, a = some ⟨b, off, none⟩ ∧ w.cell? ⟨b, off + i, none⟩ = some (.int .i64 x) := by
  obtain ⟨_, a', cap', he, h0 | ⟨b, off, rfl, hc⟩⟩ := h
  · have := (List.getElem?_eq_some_iff.1 hx).1; omega
  · cases he
    exact ⟨b, off, rfl, hc i _ (intsI_get hx)⟩
set_option maxHeartbeats 4000000 in
theorem higher_any (l : List Int) (a : Option Addr) (cap : Nat) (b : Int) (hl : l.length ≤ 99999) (w : World) (hv : SeesC w (.slice a l.length cap) l.length 1 (intsI l)) :
    Calls Tryd.prog 37 #[.slice a l.length cap, .int .i64 b] w (HighPost w b l) := by
  have HV := hidI hv
  clear hv
  go_enter Tryd.func37, Tryd.ntmps37
  go_wp2
  go_loopg [5, 10] l.length (fun g s5 s10 wx => ∃ i : Nat, i + g = l.length ∧ s10 = .int .i64 (i : Int) ∧ Hid (wx.ownsRow w.heap.size 3 1 s5 i (intsI (up b (l.take i)))) ∧ Hid (Below w.heap.size w wx))
  case atStart => exact ⟨0, by omega, rfl, hidI ⟨by simp [up, intsI], .inl ⟨rfl, rfl⟩⟩, hidI (Below.refl _ _)⟩
  case round =>
    obtain ⟨i, hi, rfl, HO, HX⟩ := hrel
    cases gk with
    | succ g =>
      have hil : i < l.length := by omega
      have hgi : l[i]? = some l[i] := List.getElem?_eq_getElem hil
      obtain ⟨x, hx⟩ : ∃ x, l[i] = x := ⟨_, rfl⟩
      rw [hx] at hgi
      obtain ⟨tb, to, rfl, c0⟩ := ints_cell HV.out hgi
      have c1 : wr.cell? ⟨tb, to + i, none⟩ = some (.int .i64 x) := (HX.out.cell (World.block_lt_of_cell? w _ c0)).trans c0
      have HU := hidI (up_next (b := b) hgi)
      obtain ⟨y, wy⟩ : ∃ y, IntKind.i64.wrap (x + b) = y := ⟨_, rfl⟩
      rw [wy] at HU
      have e1 : (i : Int) < (l.length : Int) := by omega
      have e2 : (0 : Int) ≤ (i : Int) := by omega
      have e3 : ((i : Int)).toNat = i := by omega
      obtain ⟨oa, oc, rfl⟩ := own_slice HO.out
      have hsz := HX.out.size
      have HOA := hidI (HO.out.alloc (.cells #[.int .i64 y] 3))
      have HVA := hidI (int_at (W := wr) (b := wr.heap.size) y rfl)
      clear hgi hx c0
      go_wp2_with (at_builtin; go_must (refine wpList_append_any Tryd.underlying24 Tryd.info3x rfl (by decide) (by decide) rfl _ _ rfl w.heap.size (.slice oa i oc) i (intsI (up b (l.take i))) rfl HOA.out _ 1 [.int .i64 y] rfl HVA.out (by simp [Value.oneCell']) (by omega) (by simp; omega) ?_); intro ov' w4 hown4 hgrow4 hat4; refine Hid.out ?_)
      have hB4 : Below w.heap.size w w4 := (HX.out.alloc hsz _).grown hgrow4 (by simp; omega) (fun k e => (HO.out.lt k e).1)
      rw [← HU.out] at hown4
      have H4 := hidI hown4
      have HB4 := hidI hB4
      refine hidI ?_
      clear hown4 hgrow4 hat4 hB4 HOA HVA HU
      go_wp2
      go_roundg g
      case measure => omega
      case rel => exact ⟨i + 1, by omega, by go_num, H4, HB4⟩
    | zero =>
      have hil : i = l.length := by omega
      subst hil
      rw [List.take_length] at HO
      go_wp2
      go_ret
      exact ⟨_, rfl, HO.out, HX.out⟩
end Go.Proofs.YtnlplkchkhibaaaDoor
/-
  A form anew, with no kids.
-/
namespace Go.Proofs.YtnlplkchkhibaaaDoor
open Go.RowKit Go.Deep Go.MapKept
theorem box2 {w w1 : World} {a b c d f a' b' c' d' f' : Value} (hb : Below ((w.alloc (.cells #[a, b, c, d, f] 40)).alloc (.cells #[a', b', c', d', f'] 40)).heap.size ((w.alloc (.cells #[a, b, c, d, f] 40)).alloc (.cells #[a', b', c', d', f'] 40)) w1) :
    (w1.cell? ⟨w.heap.size, 0, none⟩ = some a ∧ w1.cell? ⟨w.heap.size, 1, none⟩ = some b ∧ w1.cell? ⟨w.heap.size, 2, none⟩ = some c ∧ w1.cell? ⟨w.heap.size, 3, none⟩ = some d ∧ w1.cell? ⟨w.heap.size, 4, none⟩ = some f) ∧
    (w1.cell? ⟨w.heap.size + 1, 0, none⟩ = some a' ∧ w1.cell? ⟨w.heap.size + 1, 1, none⟩ = some b' ∧ w1.cell? ⟨w.heap.size + 1, 2, none⟩ = some c' ∧ w1.cell? ⟨w.heap.size + 1, 3, none⟩ = some d' ∧ w1.cell? ⟨w.heap.size + 1, 4, none⟩ = some f') ∧
    (∀ k, w1.frozen? ⟨w.heap.size, k, none⟩ = false) ∧ (∀ k, w1.frozen? ⟨w.heap.size + 1, k, none⟩ = false) ∧ w.heap.size + 1 < w1.heap.size := by
  have hs := hb.size
  have l0 : w.heap.size < ((w.alloc (.cells #[a, b, c, d, f] 40)).alloc (.cells #[a', b', c', d', f'] 40)).heap.size := by simp; omega
  have l1 : w.heap.size + 1 < ((w.alloc (.cells #[a, b, c, d, f] 40)).alloc (.cells #[a', b', c', d', f'] 40)).heap.size := by simp
  refine ⟨⟨(hb.cell l0).trans ?_, (hb.cell l0).trans ?_, (hb.cell l0).trans ?_, (hb.cell l0).trans ?_, (hb.cell l0).trans ?_⟩, ⟨(hb.cell l1).trans ?_, (hb.cell l1).trans ?_, (hb.cell l1).trans ?_, (hb.cell l1).trans ?_, (hb.cell l1).trans ?_⟩, fun k => (hb.frozen l0).trans ?_, fun k => (hb.frozen l1).trans ?_, Nat.lt_of_lt_of_le l1 hs⟩ <;> go_simp
set_option maxRecDepth 100000 in
set_option maxHeartbeats 4000000 in
theorem kidless_any (x : Fm) (kv : Value) (hk : ∃ a n c, kv = .slice a n c) (hs : x.s.size ≤ 140737488355328) (w : World) :
    Calls Tryd.prog 33 #[.agg #[.int .u8 x.k, .string x.s, .int .i64 x.n, kv, .int .i64 x.p]] w fun e w' => e = .returned (.agg #[.int .u8 x.k, .string x.s, .int .i64 x.n, .slice none 0 0, .int .i64 x.p]) ∧ Below w.heap.size w w' := by
  have C := hidI (clone_any x.s hs)
  obtain ⟨ka, kn, kc, rfl⟩ := hk
  clear hs
  obtain ⟨k, s, n, kids, p⟩ := x
  simp only at C ⊢
  go_enter Tryd.func33, Tryd.ntmps33
  go_wp2_with (go_at_call 51; refine Calls.mono (C.out _) ?_; rintro e w1 ⟨rfl, hb1⟩; obtain ⟨⟨a0, a1, a2, a3, a4⟩, ⟨b0, b1, b2, b3, b4⟩, fa, fb, hlt⟩ := box2 hb1; have fa0 := fa 0; have fa1 := fa 1; have fa2 := fa 2; have fa3 := fa 3; have fa4 := fa 4; have fb0 := fb 0; have fb1 := fb 1; have fb2 := fb 2; have fb3 := fb 3; have fb4 := fb 4; have H1 := hidI hb1; have hne : ¬ w.heap.size + 1 = w.heap.size := (by omega); have hne' : ¬ w.heap.size = w.heap.size + 1 := (by omega); have hl0 : w.heap.size < w1.heap.size := (by omega); clear hb1 fa fb)
  refine bodyPost_ret (v := .agg #[.int .u8 k, .string s, .int .i64 n, .slice none 0 0, .int .i64 p]) ?_ rfl ?_
  · rw [results_one rfl]
    go_simp
  · refine ⟨rfl, ?_⟩
    have h1 := H1.out
    have h2 : Below w.heap.size w w1 := (((Below.refl _ w).alloc (Nat.le_refl _) _).alloc (by simp) _).trans (h1.mono (by simp; omega))
    have h3 := h2.size
    have n0 : ¬ w.heap.size + 1 < w.heap.size := by omega
    repeat (refine Below.setCell ?_ (by first | omega | (simp; done)) _)
    exact h2
end Go.Proofs.YtnlplkchkhibaaaDoor
/-
  Forms anew, their kids' places higher by that many.
-/
namespace Go.Proofs.YtnlplkchkhibaaaDoor
open Go.RowKit Go.Deep Go.MapKept
def upF (b : Int) (x : Fm) : Fm := ⟨x.k, x.s, x.n, up b x.kids, x.p⟩
theorem SeesC.grow2 {w w' : World} {row : Option Nat} {n size : Nat} {v : Value} {cs : List Value} (h : SeesC w v n size cs) (hg : w.grownBy w' row) (hne : n = 0 ∨ v.ownBlock ≠ row) : SeesC w' v n size cs := by
  rcases hne with h0 | h1
  · obtain ⟨hl, a, cap, rfl, _⟩ := h
    exact ⟨hl, a, cap, rfl, .inl h0⟩
  · exact h.grown hg h1
/-- Forms of one's own, each with kids of its own. -/
structure OwnM (base : Nat) (w : World) (v : Value) (ms : List MV) : Prop where
  own : w.ownsRow base 40 5 v ms.length (flatM ms)
  kid : ∀ x ∈ ms, SeesC w x.2 x.1.kids.length 1 (intsI x.1.kids)
  apart : ∀ x ∈ ms, x.1.kids.length = 0 ∨ x.2.ownBlock ≠ v.ownBlock
  lt : ∀ x ∈ ms, ∀ k, x.2.ownBlock = some k → base ≤ k ∧ k < w.heap.size
theorem OwnM.sees {base : Nat} {w : World} {v : Value} {ms : List MV} (h : OwnM base w v ms) : SeesM w v ms :=
  ⟨seesC_of_owns h.own, fun _ x hx => h.kid x (List.mem_of_getElem? hx)⟩
theorem OwnM.nil (base : Nat) (w : World) : OwnM base w (.slice none 0 0) [] :=
  ⟨⟨rfl, .inl ⟨rfl, rfl⟩⟩, fun x hx => by simp at hx, fun x hx => by simp at hx, fun x hx => by simp at hx⟩
theorem OwnM.below {base : Nat} {w w' : World} {v : Value} {ms : List MV} (h : OwnM base w v ms) (hb : Below w.heap.size w w') : OwnM base w' v ms :=
  ⟨own_below h.own hb (Nat.le_refl _), fun x hx => (h.kid x hx).below hb (Nat.le_refl _), h.apart, fun x hx k hk => ⟨(h.lt x hx k hk).1, Nat.lt_of_lt_of_le (h.lt x hx k hk).2 hb.size⟩⟩
theorem OwnM.join {base : Nat} {w w' : World} {v v' : Value} {ms ns : List MV} (h : OwnM base w v ms) (ho : w'.ownsRow base 40 5 v' (ms.length + ns.length) (flatM ms ++ flatM ns)) (hg : w.grownBy w' v.ownBlock) (hat : v'.ownBlock = v.ownBlock ∨ v'.ownBlock = some w.heap.size)
    (hk : ∀ x ∈ ns, SeesC w x.2 x.1.kids.length 1 (intsI x.1.kids)) (ha : ∀ x ∈ ns, x.1.kids.length = 0 ∨ x.2.ownBlock ≠ v.ownBlock) (hl : ∀ x ∈ ns, ∀ k, x.2.ownBlock = some k → base ≤ k ∧ k < w.heap.size) : OwnM base w' v' (ms ++ ns) := by
  have key : ∀ x ∈ ms ++ ns, SeesC w x.2 x.1.kids.length 1 (intsI x.1.kids) ∧ (x.1.kids.length = 0 ∨ x.2.ownBlock ≠ v.ownBlock) ∧ ∀ k, x.2.ownBlock = some k → base ≤ k ∧ k < w.heap.size := by
    intro x hx
    rcases List.mem_append.1 hx with hx | hx
    · exact ⟨h.kid x hx, h.apart x hx, h.lt x hx⟩
    · exact ⟨hk x hx, ha x hx, hl x hx⟩
  refine ⟨?_, fun x hx => (key x hx).1.grow2 hg (key x hx).2.1, fun x hx => ?_, fun x hx k hk => ⟨((key x hx).2.2 k hk).1, Nat.lt_of_lt_of_le ((key x hx).2.2 k hk).2 hg.size⟩⟩
  · rw [List.length_append]
    rw [show flatM (ms ++ ns) = flatM ms ++ flatM ns by simp [flatM]]
    exact ho
  · rcases (key x hx).2.1 with h0 | h1
    · exact .inl h0
    · refine .inr fun e => ?_
      rcases hat with e1 | e1
      · exact h1 (e.trans e1)
      · have := ((key x hx).2.2 _ (e.trans e1)).2
        omega
/-- What moved leaves. -/
def MovePost (w : World) (b : Int) (ms : List MV) (e : Ending) (w' : World) : Prop := ∃ v ns, e = .returned v ∧ OwnM w.heap.size w' v ns ∧ ns.map Prod.fst = ms.map (fun x => upF b x.1) ∧ Below w.heap.size w w'
theorem mv_seen {W : World} {a b c d f : Value} : SeesC (W.alloc (.cells #[a, b, c, d, f] 40)) (.slice (some ⟨W.heap.size, 0, none⟩) 1 1) 1 5 [a, b, c, d, f] := by
  refine ⟨rfl, _, _, rfl, .inr ⟨_, _, rfl, fun j u hj => ?_⟩⟩
  have hl := (List.getElem?_eq_some_iff.1 hj).1
  simp only [List.length_cons, List.length_nil] at hl
  rw [Nat.zero_add]
  rcases (show j = 0 ∨ j = 1 ∨ j = 2 ∨ j = 3 ∨ j = 4 by omega) with rfl | rfl | rfl | rfl | rfl <;> simp at hj <;> subst hj <;> go_simp
theorem mv_at {W : World} {g : Nat} {a b c d f : Value} (h : g = W.heap.size) : SeesC (W.alloc (.cells #[a, b, c, d, f] 40)) (.slice (some ⟨g, 0, none⟩) 1 1) 1 5 [a, b, c, d, f] := by
  subst h
  exact mv_seen
theorem box1 {w w1 : World} {a b c d f : Value} (hb : Below (w.alloc (.cells #[a, b, c, d, f] 40)).heap.size (w.alloc (.cells #[a, b, c, d, f] 40)) w1) :
    (w1.cell? ⟨w.heap.size, 0, none⟩ = some a ∧ w1.cell? ⟨w.heap.size, 1, none⟩ = some b ∧ w1.cell? ⟨w.heap.size, 2, none⟩ = some c ∧ w1.cell? ⟨w.heap.size, 3, none⟩ = some d ∧ w1.cell? ⟨w.heap.size, 4, none⟩ = some f) ∧ (∀ k, w1.frozen? ⟨w.heap.size, k, none⟩ = false) ∧ w.heap.size < w1.heap.size ∧ Below w.heap.size w w1 := by
  have hs := hb.size
  have l0 : w.heap.size < (w.alloc (.cells #[a, b, c, d, f] 40)).heap.size := by simp
  refine ⟨⟨(hb.cell l0).trans ?_, (hb.cell l0).trans ?_, (hb.cell l0).trans ?_, (hb.cell l0).trans ?_, (hb.cell l0).trans ?_⟩, fun k => (hb.frozen l0).trans ?_, Nat.lt_of_lt_of_le l0 hs, ((Below.refl _ w).alloc (Nat.le_refl _) _).trans (hb.mono (by simp))⟩ <;> go_simp
set_option maxRecDepth 100000 in
set_option maxHeartbeats 4000000 in
theorem moved_any (fv : Value) (ms : List MV) (b : Int) (w : World) (hm : SeesM w fv ms) (hml : ms.length ≤ 400) (hkl : ∀ x ∈ ms, x.1.kids.length ≤ 99999) (hsl : ∀ x ∈ ms, x.1.s.size ≤ 140737488355328) :
    Calls Tryd.prog 36 #[fv, .int .i64 b] w (MovePost w b ms) := by
  obtain ⟨_, fa, fc, hfv, _⟩ := hm.row
  subst hfv
  have HM := hidI hm
  have HKL := hidI hkl
  have HSL := hidI hsl
  clear hm hkl hsl
  go_enter Tryd.func36, Tryd.ntmps36
  go_wp2
  go_loopg [5, 11] ms.length (fun g s5 s11 wx => ∃ i : Nat, i + g = ms.length ∧ s11 = .int .i64 (i : Int) ∧ (∃ ns : List MV, ns.map Prod.fst = (ms.take i).map (fun x => upF b x.1) ∧ Hid (OwnM w.heap.size wx s5 ns)) ∧ Hid (Below w.heap.size w wx))
  case atStart => exact ⟨0, by omega, rfl, ⟨[], rfl, hidI (OwnM.nil _ _)⟩, hidI (Below.refl _ _)⟩
  case round =>
    obtain ⟨i, hi, rfl, ⟨ns, hns, HO⟩, HX⟩ := hrel
    have hnl : ns.length = i := by have := congrArg List.length hns; simp at this; omega
    subst hnl
    have HNS := hidI hns
    clear hns
    cases gk with
    | succ g =>
      have hil : ns.length < ms.length := by omega
      have hgi : ms[ns.length]? = some ms[ns.length] := List.getElem?_eq_getElem hil
      obtain ⟨x, hx⟩ : ∃ x, ms[ns.length] = x := ⟨_, rfl⟩
      rw [hx] at hgi
      obtain ⟨fb, fo, fc', ka, kc, hfv, hx2, c0, c1, c2, c3, c4⟩ := (HM.out.below HX.out (Nat.le_refl _)).load hgi
      cases hfv
      have hkid := HM.out.kid ns.length x hgi
      rw [hx2] at hkid
      have HK := hidI hkid
      have hkx := HKL.out x (List.mem_of_getElem? hgi)
      have hsx := HSL.out x (List.mem_of_getElem? hgi)
      have HGI := hidI hgi
      have CK := hidI (fun W => kidless_any x.1 (.slice ka x.1.kids.length kc) ⟨_, _, _, rfl⟩ hsx W)
      obtain ⟨⟨k, s, n, kids, p⟩, kv⟩ := x
      simp only at CK HK hkx c0 c1 c2 c3 c4 hx2
      subst hx2
      have e1 : (ns.length : Int) < (ms.length : Int) := by omega
      have e2 : (0 : Int) ≤ (ns.length : Int) := by omega
      have e3 : ((ns.length : Int)).toNat = ns.length := by omega
      have hsz := HX.out.size
      clear hgi hx hkid hsx
      obtain ⟨oa, oc, rfl⟩ := own_slice HO.out.own
      go_wp2_with (go_at_call 33; refine Calls.mono (CK.out _) ?_; rintro e w1 ⟨rfl, hb1⟩; refine Hid.out ?_)
      obtain ⟨⟨_, _, _, a3, _⟩, _, hl1, hB1⟩ := box1 hb1
      have HK1 : Hid (SeesC (w1.alloc (.cells #[.int .u8 k, .string s, .int .i64 n, .slice none 0 0, .int .i64 p] 40)) (.slice ka kids.length kc) kids.length 1 (intsI kids)) := hidI (HK.out.below ((HX.out.trans (hB1.mono hsz)).alloc (Nat.le_trans hsz hB1.size) _) (Nat.le_refl _))
      have CH := hidI (higher_any kids ka kc b hkx _ HK1.out)
      have HB1 := hidI hB1
      have a3' := cell_al (.cells #[.int .u8 k, .string s, .int .i64 n, .slice none 0 0, .int .i64 p] 40) a3
      clear hb1 HK1 hB1
      refine hidI ?_
      go_wp2_with (go_at_call 37; refine Calls.mono CH.out ?_; rintro e w2 ⟨hv, rfl, ho2, hb2⟩; refine Hid.out ?_)
      obtain ⟨⟨d0, d1, d2, _, d4⟩, df, hl2, hB2⟩ := box1 hb2
      have f0 := df 3
      obtain ⟨ha, hc, rfl⟩ := own_slice ho2
      have hbs : (w1.alloc (.cells #[.int .u8 k, .string s, .int .i64 n, .slice none 0 0, .int .i64 p] 40)).heap.size = w1.heap.size + 1 := by simp
      rw [hbs] at ho2
      have hlt2 := ho2.lt
      obtain ⟨WS, hWS⟩ : ∃ WS, w2.setCell ⟨w1.heap.size, 3, none⟩ (.slice ha kids.length hc) = WS := ⟨_, rfl⟩
      have hzS : WS.heap.size = w2.heap.size := by rw [← hWS]; simp
      have hB3 : Below wr.heap.size wr WS := by rw [← hWS]; exact (HB1.out.trans (hB2.mono HB1.out.size)).setCell (by simp; omega) _
      have hoS : WS.ownsRow (w1.heap.size + 1) 3 1 (.slice ha kids.length hc) kids.length (intsI (up b kids)) := by rw [← hWS]; exact ownsRow_setCell_below ho2 (by simp) _
      have HWS := hidI hWS
      have HOA := hidI ((HO.out.below hB3).below ((Below.refl _ WS).alloc (Nat.le_refl _) (.cells #[.int .u8 k, .string s, .int .i64 n, .slice ha kids.length hc, .int .i64 p] 40)))
      have HVA := hidI (mv_at (W := WS) (g := w2.heap.size) (a := .int .u8 k) (b := .string s) (c := .int .i64 n) (d := .slice ha kids.length hc) (f := .int .i64 p) hzS.symm)
      have HKD := hidI (seesC_of_owns (hoS.alloc (.cells #[.int .u8 k, .string s, .int .i64 n, .slice ha kids.length hc, .int .i64 p] 40)))
      have HLT := hidI hlt2
      have HBS := hidI (HX.out.trans (hB3.mono hsz))
      have hoo := HO.out.own.lt
      have HOO := hidI hoo
      have hzB := hB3.size
      rw [← hWS] at HOA HVA
      refine hidI ?_
      clear hb2 ho2 hlt2 hB3 hoS hWS df hB2 hoo
      go_wp2_with (at_builtin; go_must (refine wpList_append_any Tryd.underlying23 Tryd.info40x rfl (by decide) (by decide) rfl _ _ rfl w.heap.size (.slice oa ns.length oc) ns.length (flatM ns) rfl HOA.out.own _ 1 [.int .u8 k, .string s, .int .i64 n, .slice ha kids.length hc, .int .i64 p] rfl HVA.out (by simp [Value.oneCell']) (by omega) (by simp; omega) ?_); intro ov' w4 hown4 hgrow4 hat4; refine Hid.out ?_)
      rw [HWS.out] at HOA HVA hgrow4 hat4
      have hJ := HOA.out.join (ns := [((⟨k, s, n, up b kids, p⟩ : Fm), Value.slice ha kids.length hc)]) hown4 hgrow4 hat4
        (fun y hy => by simp at hy; subst hy; rw [show (up b kids).length = kids.length from up_length _ _]; exact HKD.out)
        (fun y hy => by
          simp at hy; subst hy
          cases ha with
          | none => 
            refine .inl ?_
            show (up b kids).length = 0
            rw [up_length]
            obtain ⟨_, a5, c5, e5, h5 | ⟨b5, o5, e6, _⟩⟩ := HKD.out
            · exact h5
            · cases e5; cases e6
          | some A =>
            refine .inr fun e => ?_
            have h1 := HLT.out A.block (by simp [Value.ownBlock])
            have h2 := HOO.out A.block (e.symm.trans (by simp [Value.ownBlock]))
            omega)
        (fun y hy kk hk => by
          simp at hy; subst hy
          have h1 := HLT.out kk hk
          simp
          omega)
      have hB4 : Below w.heap.size w w4 := (HBS.out.alloc (by omega) _).grown hgrow4 (by simp; omega) (fun k e => (HOO.out k e).1)
      have HJ := hidI hJ
      have HB4 := hidI hB4
      refine hidI ?_
      clear hown4 hgrow4 hat4 hB4 hJ HOA HVA HKD HBS
      go_wp2
      go_roundg g
      case measure => omega
      case rel => exact ⟨ns.length + 1, by omega, by go_num, ⟨_, by rw [List.take_add_one, HGI.out]; simp [HNS.out, upF], HJ⟩, HB4⟩
    | zero =>
      have hil : ns.length = ms.length := by omega
      have hN := HNS.out
      rw [hil, List.take_length] at hN
      have e1 : ¬ ((ns.length : Int) < (ms.length : Int)) := by omega
      obtain ⟨oa, oc, rfl⟩ := own_slice HO.out.own
      have HN := hidI hN
      clear hN hil
      go_wp2
      go_ret
      exact ⟨_, ns, rfl, HO.out, HN.out, HX.out⟩
end Go.Proofs.YtnlplkchkhibaaaDoor
/-
  Both: two lists of forms as one.
-/
namespace Go.Proofs.YtnlplkchkhibaaaDoor
open Go.RowKit Go.Deep Go.MapKept
theorem results_3t {fn : Func} {t u v : Tmp} (h : fn.results = #[.tmp t, .tmp u, .tmp v]) (tmps : Array Value) (P : Program) (w : World) :
    (results fn tmps).run P w = .ok (.tuple #[tmps.getD t undef, tmps.getD u undef, tmps.getD v undef]) w := by
  simp [results, h]
def RightC (fv tv : Value) (r : Bool) (w : World) : Prop := ∀ W, Below w.heap.size w W → Calls Tryd.prog 17 #[fv, tv] W fun e w' => e = .returned (.bool r) ∧ Below W.heap.size W w'
/-- What Both leaves, if it can be. -/
def BothPost (w : World) (ms ns : List MV) (top also : List Int) (e : Ending) (w' : World) : Prop := ∃ v u xs, e = .returned (.tuple #[v, u, .int .i64 0]) ∧ OwnM w.heap.size w' v xs ∧ xs.map Prod.fst = ms.map (fun x => upF 0 x.1) ++ ns.map (fun x => upF (ms.length : Int) x.1) ∧ w'.ownsRow w.heap.size 3 1 u (top.length + also.length) (intsI (up 0 top ++ up (ms.length : Int) also)) ∧ Below w.heap.size w w'
theorem both_bad1 (fa ta ga ua : Option Addr) (fn tn gn un fc tc gc uc : Nat) (w : World) (h1 : RightC (.slice fa fn fc) (.slice ta tn tc) false w) :
    Calls Tryd.prog 23 #[.slice fa fn fc, .slice ta tn tc, .slice ga gn gc, .slice ua un uc] w fun e w' => e = .returned (.tuple #[.slice none 0 0, .slice none 0 0, .int .i64 3]) ∧ Below w.heap.size w w' := by
  have H1 := hidI h1
  clear h1
  go_enter Tryd.func23, Tryd.ntmps23
  go_wp2_with (go_at_call 17; refine (H1.out _ (Below.refl _ _)).mono ?_; rintro e w1 ⟨rfl, hb1⟩; have HB1 := hidI hb1; clear hb1)
  refine bodyPost_ret (results_3t rfl _ _ _) rfl ?_
  exact ⟨rfl, HB1.out⟩
theorem both_bad2 (fa ta ga ua : Option Addr) (fn tn gn un fc tc gc uc : Nat) (w : World) (h1 : RightC (.slice fa fn fc) (.slice ta tn tc) true w) (h2 : RightC (.slice ga gn gc) (.slice ua un uc) false w) :
    Calls Tryd.prog 23 #[.slice fa fn fc, .slice ta tn tc, .slice ga gn gc, .slice ua un uc] w fun e w' => e = .returned (.tuple #[.slice none 0 0, .slice none 0 0, .int .i64 3]) ∧ Below w.heap.size w w' := by
  have H1 := hidI h1
  have H2 := hidI h2
  clear h1 h2
  go_enter Tryd.func23, Tryd.ntmps23
  go_wp2_with (first
    | (go_at_call 17; refine (H1.out _ (Below.refl _ _)).mono ?_; rintro e w1 ⟨rfl, hb1⟩; have HB1 := hidI hb1; clear hb1 H1)
    | (go_at_call 17; refine (H2.out _ HB1.out).mono ?_; rintro e w2 ⟨rfl, hb2⟩; have HB2 := hidI (HB1.out.trans (hb2.mono HB1.out.size)); clear hb2))
  refine bodyPost_ret (results_3t rfl _ _ _) rfl ?_
  exact ⟨rfl, HB2.out⟩
theorem both_long (fa ta ga ua : Option Addr) (fn tn gn un fc tc gc uc : Nat) (w : World) (hl : 400 < fn + gn) (hf : fn ≤ 400) (hg : gn ≤ 400) (h1 : RightC (.slice fa fn fc) (.slice ta tn tc) true w) (h2 : RightC (.slice ga gn gc) (.slice ua un uc) true w) :
    Calls Tryd.prog 23 #[.slice fa fn fc, .slice ta tn tc, .slice ga gn gc, .slice ua un uc] w fun e w' => e = .returned (.tuple #[.slice none 0 0, .slice none 0 0, .int .i64 4]) ∧ Below w.heap.size w w' := by
  have H1 := hidI h1
  have H2 := hidI h2
  have ww : IntKind.i64.wrap ((fn : Int) + (gn : Int)) = (fn : Int) + (gn : Int) := by rw [IntKind.wrap_i64]; omega
  have e1 : (400 : Int) < (fn : Int) + (gn : Int) := by omega
  clear h1 h2
  go_enter Tryd.func23, Tryd.ntmps23
  go_wp2_with (first
    | (go_at_call 17; refine (H1.out _ (Below.refl _ _)).mono ?_; rintro e w1 ⟨rfl, hb1⟩; have HB1 := hidI hb1; clear hb1 H1)
    | (go_at_call 17; refine (H2.out _ HB1.out).mono ?_; rintro e w2 ⟨rfl, hb2⟩; have HB2 := hidI (HB1.out.trans (hb2.mono HB1.out.size)); clear hb2))
  refine bodyPost_ret (results_3t rfl _ _ _) rfl ?_
  exact ⟨rfl, HB2.out⟩
end Go.Proofs.YtnlplkchkhibaaaDoor
/-
  Both, where it can be.
-/
namespace Go.Proofs.YtnlplkchkhibaaaDoor
open Go.RowKit Go.Deep Go.MapKept
theorem own_lower {w : World} {base base' e size n : Nat} {v : Value} {xs : List Value} (h : w.ownsRow base' e size v n xs) (hb : base ≤ base') : w.ownsRow base e size v n xs := by
  refine ⟨h.1, ?_⟩
  rcases h.2 with h0 | ⟨g, cap, cur, rfl, hbase, r⟩
  · exact .inl h0
  · exact .inr ⟨g, cap, cur, rfl, Nat.le_trans hb hbase, r⟩
theorem OwnM.lower {base base' : Nat} {w : World} {v : Value} {ms : List MV} (h : OwnM base' w v ms) (hb : base ≤ base') : OwnM base w v ms :=
  ⟨own_lower h.own hb, h.kid, h.apart, fun x hx k hk => ⟨Nat.le_trans hb (h.lt x hx k hk).1, (h.lt x hx k hk).2⟩⟩
theorem seesC_block {w : World} {v : Value} {n size : Nat} {cs : List Value} (h : SeesC w v n size cs) : n = 0 ∨ ∃ k, v.ownBlock = some k := by
  obtain ⟨_, a, cap, rfl, h0 | ⟨b, off, rfl, _⟩⟩ := h
  · exact .inl h0
  · exact .inr ⟨b, rfl⟩
theorem flatM_one {ms : List MV} (h : ∀ x ∈ ms, ∃ a n c, x.2 = .slice a n c) : ∀ c ∈ flatM ms, c.oneCell' = true := by
  intro c hc
  obtain ⟨x, hx, hc⟩ := List.mem_flatMap.1 hc
  obtain ⟨a, n, k, hv⟩ := h x hx
  simp only [mcells, hv, List.mem_cons, List.not_mem_nil, or_false] at hc
  rcases hc with rfl | rfl | rfl | rfl | rfl <;> rfl
theorem intsI_one (l : List Int) : ∀ c ∈ intsI l, c.oneCell' = true := by
  intro c hc
  obtain ⟨x, _, rfl⟩ := List.mem_map.1 hc
  rfl
theorem OwnM.slices {base : Nat} {w : World} {v : Value} {ms : List MV} (h : OwnM base w v ms) : ∀ x ∈ ms, ∃ a n c, x.2 = .slice a n c := fun x hx => by
  obtain ⟨_, a, c, e, _⟩ := h.kid x hx
  exact ⟨a, _, c, e⟩
set_option maxRecDepth 100000 in
set_option maxHeartbeats 4000000 in
theorem both_ok (fv tv gv uv : Value) (ms ns : List MV) (top also : List Int) (w : World) (hf : SeesM w fv ms) (ht : SeesC w tv top.length 1 (intsI top)) (hg : SeesM w gv ns) (hu : SeesC w uv also.length 1 (intsI also)) (hl : ms.length + ns.length ≤ 400) (htl : top.length ≤ 49999) (hul : also.length ≤ 49999)
    (hkf : ∀ x ∈ ms, x.1.kids.length ≤ 99999) (hsf : ∀ x ∈ ms, x.1.s.size ≤ 140737488355328) (hkg : ∀ x ∈ ns, x.1.kids.length ≤ 99999) (hsg : ∀ x ∈ ns, x.1.s.size ≤ 140737488355328) (h1 : RightC fv tv true w) (h2 : RightC gv uv true w) :
    Calls Tryd.prog 23 #[fv, tv, gv, uv] w (BothPost w ms ns top also) := by
  obtain ⟨_, fa, fc, hfv, _⟩ := hf.row
  obtain ⟨_, ga, gc, hgv, _⟩ := hg.row
  obtain ⟨_, ta, tc, htv, _⟩ := id ht
  obtain ⟨_, ua, uc, huv, _⟩ := id hu
  subst hfv hgv htv huv
  have H1 := hidI h1
  have H2 := hidI h2
  have M1 := hidI fun W (hb : Below w.heap.size w W) => moved_any _ ms 0 W (hf.below hb (Nat.le_refl _)) (by omega) hkf hsf
  have M2 := hidI fun W (hb : Below w.heap.size w W) => moved_any _ ns (ms.length : Int) W (hg.below hb (Nat.le_refl _)) (by omega) hkg hsg
  have T1 := hidI fun W (hb : Below w.heap.size w W) => higher_any top ta tc 0 (by omega) W (ht.below hb (Nat.le_refl _))
  have T2 := hidI fun W (hb : Below w.heap.size w W) => higher_any also ua uc (ms.length : Int) (by omega) W (hu.below hb (Nat.le_refl _))
  have ww : IntKind.i64.wrap ((ms.length : Int) + (ns.length : Int)) = (ms.length : Int) + (ns.length : Int) := by rw [IntKind.wrap_i64]; omega
  have e1 : ¬ (400 : Int) < (ms.length : Int) + (ns.length : Int) := by omega
  clear h1 h2 hf hg ht hu hkf hsf hkg hsg
  go_enter Tryd.func23, Tryd.ntmps23
  go_wp2_with (first
    | (go_at_call 17; refine (H1.out _ (Below.refl _ _)).mono ?_; rintro e w1 ⟨rfl, hb1⟩; have HB1 := hidI hb1; clear hb1 H1)
    | (go_at_call 17; refine (H2.out _ HB1.out).mono ?_; rintro e w2 ⟨rfl, hb2⟩; have HB2 := hidI (HB1.out.trans (hb2.mono HB1.out.size)); clear hb2 H2)
    | (go_at_call 36; refine (M1.out _ HB2.out).mono ?_; rintro e w3 ⟨v1, xs, rfl, ho3, hx3, hb3⟩; have HB3 := hidI (HB2.out.trans (hb3.mono HB2.out.size)); have HO3 := hidI ho3; have HX3 := hidI hx3; obtain ⟨a3, c3, rfl⟩ := own_slice ho3.own; clear hb3 M1 ho3 hx3)
    | (go_at_call 36; refine (M2.out _ HB3.out).mono ?_; rintro e w4 ⟨v2, ys, rfl, ho4, hx4, hb4⟩; have HB4 := hidI (HB3.out.trans (hb4.mono HB3.out.size)); have HB34 := hidI hb4; have HO4 := hidI ho4; have HX4 := hidI hx4; obtain ⟨a4, c4, rfl⟩ := own_slice ho4.own; refine Hid.out ?_))
  have hxl : xs.length = ms.length := by have := congrArg List.length HX3.out; simpa using this
  have hyl : ys.length = ns.length := by have := congrArg List.length HX4.out; simpa using this
  have hO4 := (HO3.out.below HB34.out).lower (base := w.heap.size) HB2.out.size
  have HOW := hidI hO4
  have HOV := hidI (seesC_of_owns HO4.out.own)
  have HFL := hidI (flatM_one HO4.out.slices)
  have hz4 := HB4.out.size
  refine hidI ?_
  clear ho4 hx4 hb4 hO4
  go_wp2_with (at_builtin; go_must (refine wpList_append_any Tryd.underlying23 Tryd.info40x rfl (by decide) (by decide) rfl _ _ rfl w.heap.size _ xs.length (flatM xs) rfl HOW.out.own _ ys.length (flatM ys) rfl HOV.out HFL.out (by omega) (by omega) ?_); intro ov' w5 hown5 hgrow5 hat5; refine Hid.out ?_)
  have hJ := HOW.out.join hown5 hgrow5 hat5 HO4.out.kid (fun y hy => by
      rcases seesC_block (HO4.out.kid y hy) with h0 | ⟨k, hk⟩
      · exact .inl h0
      · refine .inr fun e => ?_
        have h5 := (HO4.out.lt y hy k hk).1
        have h6 := (HO3.out.own.lt k (e.symm.trans hk)).2
        omega) (fun y hy k hk => ⟨Nat.le_trans HB3.out.size (HO4.out.lt y hy k hk).1, (HO4.out.lt y hy k hk).2⟩)
  have hB5 : Below w.heap.size w w5 := HB4.out.grown hgrow5 hz4 (fun k e => (HOW.out.own.lt k e).1)
  obtain ⟨a5, c5, rfl⟩ := own_slice hown5
  have HJ := hidI hJ
  have HB5 := hidI hB5
  refine hidI ?_
  clear hown5 hgrow5 hat5 hB5 hJ HOW HOV HFL HB34
  go_wp2_with (first
    | (go_at_call 37; refine (T1.out _ HB5.out).mono ?_; rintro e w6 ⟨v6, rfl, ho6, hb6⟩; have HB6 := hidI (HB5.out.trans (hb6.mono HB5.out.size)); have HC6 := hidI hb6; have HO6 := hidI ho6; obtain ⟨a6, c6, rfl⟩ := own_slice ho6; clear hb6 T1 ho6)
    | (go_at_call 37; refine (T2.out _ HB6.out).mono ?_; rintro e w7 ⟨v7, rfl, ho7, hb7⟩; have HB7 := hidI (HB6.out.trans (hb7.mono HB6.out.size)); have HC7 := hidI hb7; have HO7 := hidI ho7; obtain ⟨a7, c7, rfl⟩ := own_slice ho7; refine Hid.out ?_))
  have HOW := hidI (own_lower (own_below HO6.out HC7.out (Nat.le_refl _)) HB5.out.size)
  have HOV := hidI (seesC_of_owns HO7.out)
  have hz7 := HB7.out.size
  have HC57 := hidI (HC6.out.trans (HC7.out.mono HC6.out.size))
  have hz57 := HC57.out.size
  refine hidI ?_
  clear ho7 hb7
  go_wp2_with (at_builtin; go_must (refine wpList_append_any Tryd.underlying24 Tryd.info3x rfl (by decide) (by decide) rfl _ _ rfl w.heap.size _ top.length (intsI (up 0 top)) rfl HOW.out _ also.length (intsI (up (ms.length : Int) also)) rfl HOV.out (intsI_one _) (by omega) (by omega) ?_); intro ov' w8 hown8 hgrow8 hat8; refine Hid.out ?_)
  have hB8 : Below w.heap.size w w8 := HB7.out.grown hgrow8 hz7 (fun k e => (HOW.out.lt k e).1)
  have hB58 : Below w5.heap.size w5 w8 := HC57.out.grown hgrow8 hz57 (fun k e => (HO6.out.lt k e).1)
  have HB8 := hidI hB8
  have HJ8 := hidI (HJ.out.below hB58)
  rw [← intsI_append] at hown8
  have HT8 := hidI hown8
  refine hidI ?_
  clear hown8 hgrow8 hat8 hB8 hB58
  obtain ⟨a8, c8, rfl⟩ := own_slice HT8.out
  go_wp2
  refine bodyPost_ret (results_3t rfl _ _ _) rfl ?_
  exact ⟨_, _, xs ++ ys, rfl, by have := HJ8.out; rw [hxl, hyl] at this; exact this, by rw [List.map_append, HX3.out, HX4.out], HT8.out, HB8.out⟩
end Go.Proofs.YtnlplkchkhibaaaDoor
