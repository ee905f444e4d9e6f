/-
  The document's Encode.
-/
import Derived.Test.YtbjoljokdjgbnabByteCM
import Derived.Lib.AppendStr
namespace Go.Proofs.Ytbjoljokdjgbnab
open Go.RowKit Go.Deep Go.MapKept
/-- What has been put together so far: a row of one's own. -/
abbrev OwnB (w : World) (base : Nat) (v : Value) (bs : List Int) : Prop := w.ownsRow base 5 1 v bs.length (cellsB bs)
theorem cellsB_append (a b : List Int) : cellsB (a ++ b) = cellsB a ++ cellsB b := by simp [cellsB]
theorem str_cells (s : ByteArray) : Lib.strCells s = cellsB (nums s) := by
  unfold Lib.strCells cellsB nums
  rw [List.map_map]
  rfl
theorem own_built (w : World) (z : Int) : OwnB (w.alloc (.cells #[.int .u8 z] 5)) w.heap.size (.slice (some ⟨w.heap.size, 0, none⟩) 1 1) [z] :=
  ⟨rfl, .inr ⟨w.heap.size, 1, #[.int .u8 z], rfl, Nat.le_refl _, (MapKept.heap_alloc w _).1, Nat.le_refl _, by decide, rfl, rfl⟩⟩
theorem sees_built (w : World) (bs : List Int) : SeesC (w.alloc (.cells (cellsB bs).toArray 5)) (.slice (some ⟨w.heap.size, 0, none⟩) bs.length bs.length) bs.length 1 (cellsB bs) := by
  refine ⟨by simp [cellsB], _, _, rfl, .inr ⟨w.heap.size, 0, rfl, fun j c hc => ?_⟩⟩
  rw [Lib.cell_of_heap (MapKept.heap_alloc w _).1]
  simpa using hc
theorem OwnB.more {w : World} {base : Nat} {v : Value} {a b : List Int} (h : w.ownsRow base 5 1 v (a.length + b.length) (cellsB a ++ cellsB b)) : OwnB w base v (a ++ b) := by
  show w.ownsRow base 5 1 v (a ++ b).length (cellsB (a ++ b))
  rw [List.length_append, cellsB_append]
  exact h
theorem OwnB.grow {w0 w w' : World} {v : Value} {bs : List Int} (h : OwnB w w0.heap.size v bs) (hb : Below w0.heap.size w0 w) (hg : w.grownBy w' v.ownBlock) : Below w0.heap.size w0 w' := Below.grown hb hg hb.size (fun k hk => (h.lt k hk).1)
theorem encO_len {o : One} (hn : o.name.size ≤ 8) (hv : o.vals.length ≤ 30) : (encO o).length ≤ 251 := by
  unfold encO
  simp only [List.length_cons, List.length_append, nums_len, flat_len]
  omega
theorem encT_len : ∀ {os : List One}, (∀ o ∈ os, o.name.size ≤ 8) → (∀ o ∈ os, o.vals.length ≤ 30) → (os.flatMap encO).length ≤ os.length * 251
  | [], _, _ => by simp
  | o :: r, hn, hv => by
    have h1 := encO_len (hn o (by simp)) (hv o (by simp))
    have h2 := encT_len (os := r) (fun x hx => hn x (by simp [hx])) (fun x hx => hv x (by simp [hx]))
    simp only [List.flatMap_cons, List.length_append, List.length_cons]
    omega
/-- A slice with no fewer places than elements. -/
def Room (u : Value) : Prop := ∃ a m c, u = .slice a m c ∧ m ≤ c
theorem own_room {w : World} {base : Nat} {v : Value} {bs : List Int} (h : OwnB w base v bs) : Room v := by
  rcases h.2 with ⟨rfl, h0⟩ | ⟨g, cap, cur, rfl, _, _, hle, _⟩
  · exact ⟨none, 0, 0, rfl, Nat.le_refl _⟩
  · exact ⟨_, _, cap, rfl, hle⟩
def EncPost (w : World) (bs : List Int) (e : Ending) (w' : World) : Prop := ∃ u, e = .returned (.tuple #[u, .int .i64 0]) ∧ SeesC w' u bs.length 1 (cellsB bs) ∧ Below w.heap.size w w' ∧ Room u
theorem own_slice {w : World} {base : Nat} {v : Value} {bs : List Int} (h : OwnB w base v bs) : ∃ a c, v = .slice a bs.length c := by
  rcases h.2 with ⟨rfl, h0⟩ | ⟨g, cap, cur, rfl, _⟩
  · exact ⟨none, 0, by rw [h0]⟩
  · exact ⟨_, cap, rfl⟩
def notB (o : Obj) : Prop := ∀ cs f, o ≠ .cells cs 5 f
/-- A row of bytes in the making, and blocks beside it that stay. -/
structure Keep (w0 W : World) (v : Value) (pre : List Int) (X : List (Nat × Obj)) : Prop where
  own : OwnB W w0.heap.size v pre
  low : Below w0.heap.size w0 W
  obj : ∀ p ∈ X, W.heap[p.1]? = some p.2 ∧ notB p.2
theorem Keep.ne {w0 W : World} {v : Value} {pre : List Int} {X : List (Nat × Obj)} (h : Keep w0 W v pre X) {p : Nat × Obj} (hp : p ∈ X) : v.ownBlock ≠ some p.1 := by
  intro e
  obtain ⟨h1, h2⟩ := h.obj p hp
  rcases h.own.2 with ⟨rfl, _⟩ | ⟨g, cap, cur, rfl, _, hg, _⟩
  · simp [Value.ownBlock] at e
  · simp [Value.ownBlock] at e
    subst e
    rw [h1] at hg
    exact h2 cur _ (Option.some.inj hg)
theorem Keep.alloc {w0 W : World} {v : Value} {pre : List Int} {X : List (Nat × Obj)} (h : Keep w0 W v pre X) (o : Obj) : Keep w0 (W.alloc o) v pre X :=
  ⟨World.ownsRow.alloc h.own o, h.low.alloc h.low.size _, fun p hp => ⟨(Lib.alloc_old W o p.1 (Array.getElem?_eq_some_iff.1 (h.obj p hp).1).1).trans (h.obj p hp).1, (h.obj p hp).2⟩⟩
theorem Keep.add {w0 W : World} {v : Value} {pre : List Int} {X : List (Nat × Obj)} (h : Keep w0 W v pre X) (o : Obj) (ho : notB o) : Keep w0 (W.alloc o) v pre ((W.heap.size, o) :: X) := by
  refine ⟨(h.alloc o).own, (h.alloc o).low, fun p hp => ?_⟩
  rcases List.mem_cons.1 hp with rfl | hp
  · exact ⟨World.alloc_heap_new W o, ho⟩
  · exact (h.alloc o).obj p hp
theorem Keep.below {w0 W W' : World} {v : Value} {pre : List Int} {X : List (Nat × Obj)} (h : Keep w0 W v pre X) (hb : Below W.heap.size W W') : Keep w0 W' v pre X := by
  refine ⟨h.own.kept (row := none) ⟨hb.os, hb.tape, hb.output, hb.size, fun k hk _ => hb.block k hk⟩ (by cases hv : v.ownBlock <;> simp), h.low.trans (hb.mono h.low.size), fun p hp => ⟨(hb.block p.1 (Array.getElem?_eq_some_iff.1 (h.obj p hp).1).1).trans (h.obj p hp).1, (h.obj p hp).2⟩⟩
theorem Keep.app {w0 W W' : World} {v v' : Value} {pre bs : List Int} {X : List (Nat × Obj)} (h : Keep w0 W v pre X) (ho : W'.ownsRow w0.heap.size 5 1 v' (pre.length + bs.length) (cellsB pre ++ cellsB bs)) (hg : W.grownBy W' v.ownBlock) : Keep w0 W' v' (pre ++ bs) X := by
  refine ⟨OwnB.more ho, h.own.grow h.low hg, fun p hp => ?_⟩
  obtain ⟨h1, h2⟩ := h.obj p hp
  have hlt := (Array.getElem?_eq_some_iff.1 h1).1
  exact ⟨(hg.block p.1 hlt (fun e => h.ne hp e.symm)).trans h1, h2⟩
theorem Keep.appS {w0 W W' : World} {v v' : Value} {pre : List Int} {X : List (Nat × Obj)} (h : Keep w0 W v pre X) (s : ByteArray) (ho : W'.ownsRow w0.heap.size 5 1 v' (pre.length + s.size) (cellsB pre ++ Lib.strCells s)) (hg : W.grownBy W' v.ownBlock) : Keep w0 W' v' (pre ++ nums s) X := by
  rw [str_cells, ← nums_len] at ho
  exact h.app ho hg
theorem notB_cells (cs : Array Value) (t : TypeId) (f : Nat × Nat) (h : t ≠ 5) : notB (.cells cs t f) := by
  intro cs' f' e
  injection e with e1 e2 e3
  exact h e2
theorem Keep.few {w0 W : World} {v : Value} {pre : List Int} {X Y : List (Nat × Obj)} (h : Keep w0 W v pre X) (hY : ∀ p ∈ Y, p ∈ X) : Keep w0 W v pre Y := ⟨h.own, h.low, fun p hp => h.obj p (hY p hp)⟩
theorem Keep.slice {w0 W : World} {v : Value} {pre : List Int} {X : List (Nat × Obj)} (h : Keep w0 W v pre X) : ∃ a c, v = .slice a pre.length c := own_slice h.own
theorem obj_cell {w : World} {k j : Nat} {cs : Array Value} {t : TypeId} {v : Value} (h : w.heap[k]? = some (.cells cs t (0, 0))) (hv : cs[j]? = some v) : w.cell? ⟨k, j, none⟩ = some v := by rw [Lib.cell_of_heap h]; exact hv
theorem by8_get {z : Int} {j : Nat} (hj : j < 8) : ∃ y, (by8 z)[j]? = some (.int .u8 y) ∧ (encW z)[j]? = some y := by
  have hm : j = 0 ∨ j = 1 ∨ j = 2 ∨ j = 3 ∨ j = 4 ∨ j = 5 ∨ j = 6 ∨ j = 7 := by omega
  rcases hm with rfl | rfl | rfl | rfl | rfl | rfl | rfl | rfl <;> exact ⟨_, rfl, rfl⟩
abbrev oneObj (o : One) (sl : Value) : Obj := .cells #[.string o.name, .int .u8 o.side, .int .u8 o.kind, sl] 102
set_option maxRecDepth 100000 in
set_option maxHeartbeats 1000000 in
theorem rencode_any (rb : Nat) (n m : Int) (os : List One) (w : World) (h : BookOf w rb n m os) (hl : os.length ≤ 24) (hn : ∀ o ∈ os, o.name.size ≤ 8) (hv : ∀ o ∈ os, o.vals.length ≤ 30) :
    Calls Try.prog 30 #[.pointer (some ⟨rb, 0, none⟩)] w (EncPost w (encT os)) := by
  obtain ⟨_, _, lv, c2, hs⟩ := h
  obtain ⟨a, cap, rfl, hs⟩ := hs
  obtain ⟨i0, hi, hz0, hz1, hz2⟩ := info_parts Try.info5
  have HS := hidI hs
  have HN := hidI hn
  have HV := hidI hv
  have Hc2 := hidI c2
  have wl : IntKind.u8.wrap (os.length : Int) = (os.length : Int) := by rw [IntKind.wrap_u8]; omega
  have HK0 : Hid (Keep w (w.alloc (.cells #[.int .u8 (os.length : Int)] 5)) (.slice (some ⟨w.heap.size, 0, none⟩) 1 1) [(os.length : Int)] []) := hidI ⟨own_built w _, (Below.refl _ w).alloc (Nat.le_refl _) _, by simp⟩
  have Hlen : Hid (∀ i, i ≤ os.length → ((os.take i).flatMap encO).length ≤ 6024) := hidI fun i hi => by
    have := encT_len (os := os.take i) (fun o ho => hn o (List.mem_of_mem_take ho)) (fun o ho => hv o (List.mem_of_mem_take ho))
    rw [List.length_take] at this
    omega
  clear hs hn hv
  go_enter Try.func30, Try.ntmps30
  go_wp2
  clear wl c2
  go_loopg [4, 5] os.length (fun g s4 s5 wx => ∃ (i : Nat) (pre : List Int) (a4 : Option Addr) (c4 : Nat), i + g = os.length ∧ s4 = .slice a4 pre.length c4 ∧ s5 = .int .i64 (i : Int) ∧ Hid (pre = (os.length : Int) :: (os.take i).flatMap encO) ∧ Hid (Keep w wx (.slice a4 pre.length c4) pre []))
  case atStart => exact ⟨0, [(os.length : Int)], _, _, by omega, rfl, rfl, hidI (by simp), HK0⟩
  case round =>
    obtain ⟨i, pre, va4, vc4, hig, rfl, rfl, HP, HK⟩ := hrel
    have c2r : wr.cell? ⟨rb, 2, none⟩ = some (.slice a os.length cap) := (HK.out.low.cell (World.block_lt_of_cell? w _ Hc2.out)).trans Hc2.out
    cases gk with
    | zero =>
      have hil : i = os.length := by omega
      have j1 : ¬ ((i : Int) < (os.length : Int)) := by omega
      have HF : Hid (SeesC wr (.slice va4 pre.length vc4) (encT os).length 1 (cellsB (encT os))) := hidI (by
        have e : encT os = pre := by rw [HP.out, hil, List.take_length]; rfl
        rw [e]
        exact seesC_of_owns HK.out.own)
      clear hil
      go_wp2
      go_ret2
      exact ⟨_, rfl, HF.out, HK.out.low, own_room HK.out.own⟩
    | succ g =>
      have hil : i < os.length := by omega
      obtain ⟨o, ho⟩ : ∃ o, os[i]? = some o := ⟨_, List.getElem?_eq_getElem hil⟩
      have hom := List.mem_of_getElem? ho
      have hn8 := HN.out o hom
      have hv30 := HV.out o hom
      have HTk : Hid ((os.take (i + 1)).flatMap encO = (os.take i).flatMap encO ++ encO o) := hidI (by rw [List.take_add_one, ho]; simp)
      obtain ⟨b, off, rfl, hlie⟩ : ∃ b off, a = some ⟨b, off, none⟩ ∧ LieO w b off os := by
        rcases HS.out with h0 | h1
        · rw [h0] at hil; simp at hil
        · exact h1
      obtain ⟨d0, d1, d2, vv, d3, hvs⟩ := hlie i o ho
      have kk : ∀ {p : Addr} {v : Value}, w.cell? p = some v → wr.cell? p = some v := fun {p v} hc => (HK.out.low.cell (World.block_lt_of_cell? w _ hc)).trans hc
      replace d0 := kk d0
      replace d1 := kk d1
      replace d2 := kk d2
      replace d3 := kk d3
      obtain ⟨va, vc, rfl, hvs⟩ := hvs
      have HVS := hidI hvs
      have j1 : (i : Int) < (os.length : Int) := by omega
      have j2 : (0 : Int) ≤ (i : Int) := by omega
      have j3 : ((i : Int)).toNat = i := by omega
      have wz : IntKind.u8.wrap (o.name.size : Int) = (o.name.size : Int) := by rw [IntKind.wrap_u8]; omega
      have hpl : pre.length ≤ 6025 := by rw [HP.out, List.length_cons]; have := Hlen.out i (by omega); omega
      have HKx := hidI (HK.out.add (oneObj o (.slice va o.vals.length vc)) (notB_cells _ _ _ (by decide)))
      have HKy := hidI (HKx.out.alloc (.cells #[.int .u8 o.side, .int .u8 o.kind, .int .u8 (o.name.size : Int)] 5))
      have HVy : Hid (SeesC ((wr.alloc (oneObj o (.slice va o.vals.length vc))).alloc (.cells #[.int .u8 o.side, .int .u8 o.kind, .int .u8 (o.name.size : Int)] 5)) (.slice (some ⟨wr.heap.size + 1, 0, none⟩) 3 3) 3 1 (cellsB [o.side, o.kind, (o.name.size : Int)])) := hidI (by
        have := sees_built (wr.alloc (oneObj o (.slice va o.vals.length vc))) [o.side, o.kind, (o.name.size : Int)]
        rw [World.size_alloc] at this
        exact this)
      clear kk hlie hvs hom ho
      go_wp2_with (at_builtin; go_must (refine wpList_append_any Try.underlying66 Try.info5 rfl (by decide) (by decide) rfl _ _ rfl w.heap.size _ pre.length (cellsB pre) rfl HKy.out.own _ 3 (cellsB [o.side, o.kind, (o.name.size : Int)]) rfl HVy.out (cellsB_one _) (by omega) (by have := HKy.out.low.size; omega) ?_); intro v1 w2 hown2 hgrow2 _; refine Hid.out ?_)
      refine hidI ?_
      have HK2 := hidI (HKy.out.app (bs := [o.side, o.kind, (o.name.size : Int)]) hown2 hgrow2)
      obtain ⟨bx, hbx⟩ : ∃ bx, wr.heap.size = bx := ⟨_, rfl⟩
      rw [hbx] at HK2 ⊢
      clear hown2 hgrow2 HKx HKy HVy hbx d0 d1 d2 d3 c2r
      obtain ⟨p2, hp2⟩ : ∃ p2, pre ++ [o.side, o.kind, (o.name.size : Int)] = p2 := ⟨_, rfl⟩
      rw [hp2] at HK2
      have hp2l : p2.length = pre.length + 3 := by rw [← hp2]; simp
      have Hp2 := hidI hp2
      obtain ⟨va5, vc5, hs5⟩ := HK2.out.slice
      subst hs5
      have hx2 := (HK2.out.obj _ (List.mem_singleton.2 rfl)).1
      have e0 : w2.cell? ⟨bx, 0, none⟩ = some (.string o.name) := obj_cell hx2 rfl
      clear hp2 hx2
      go_wp2_with (at_builtin; go_must (refine Lib.wpList_append_own_string _ rfl _ _ 66 9 rfl w.heap.size 5 i0 Try.underlying66 Try.underlying9 hi hz0 hz1 hz2 _ p2.length (cellsB p2) rfl HK2.out.own o.name rfl (by unfold maxLen; omega) (by omega) (by have := HK2.out.low.size; omega) ?_); intro v3 w3 hown3 hgrow3 hat3; refine Hid.out ?_)
      refine hidI ?_
      have HK3 := hidI (HK2.out.appS o.name hown3 hgrow3)
      clear hown3 hgrow3 hat3 HK2 e0
      obtain ⟨p3, hp3⟩ : ∃ p3, p2 ++ nums o.name = p3 := ⟨_, rfl⟩
      rw [hp3] at HK3
      have hp3l : p3.length ≤ pre.length + 11 := by rw [← hp3]; simp [nums_len]; omega
      have Hp3 := hidI hp3
      clear hp3
      obtain ⟨va6, vc6, hs6⟩ := HK3.out.slice
      subst hs6
      go_wp2
      go_loopg [4, 7] o.vals.length (fun g' s4 s7 wy => ∃ (k : Nat) (q : List Int) (a4 : Option Addr) (c4 : Nat), k + g' = o.vals.length ∧ s4 = .slice a4 q.length c4 ∧ s7 = .int .i64 (k : Int) ∧ Hid (q = p3 ++ (o.vals.take k).flatMap encW) ∧ Hid (Keep w wy (.slice a4 q.length c4) q [(bx, oneObj o (.slice va o.vals.length vc))]))
      case atStart => exact ⟨0, p3, _, _, by omega, rfl, rfl, hidI (by simp), HK3⟩
      case round =>
        obtain ⟨k, q, va6, vc6, hkg, rfl, rfl, HQ, HK4⟩ := hrel
        have hx4 := (HK4.out.obj _ (List.mem_singleton.2 rfl)).1
        have e3 : wr.cell? ⟨bx, 3, none⟩ = some (.slice va o.vals.length vc) := obj_cell hx4 rfl
        clear hx4
        cases gk with
        | zero =>
          have hkl : k = o.vals.length := by omega
          have k1 : ¬ ((k : Int) < (o.vals.length : Int)) := by omega
          have HN2 : Hid (q = (os.length : Int) :: (os.take (i + 1)).flatMap encO) := hidI (by
            rw [HQ.out, ← Hp3.out, ← Hp2.out, HP.out, HTk.out, hkl, List.take_length]
            simp [encO])
          clear hkl
          go_wp2
          go_roundg g
          case measure => omega
          case rel => exact ⟨i + 1, q, _, _, by omega, rfl, by go_num, HN2, hidI (HK4.out.few (by simp))⟩
        | succ g' =>
          have hkl : k < o.vals.length := by omega
          obtain ⟨z, hz⟩ : ∃ z, o.vals[k]? = some z := ⟨_, List.getElem?_eq_getElem hkl⟩
          have HTz : Hid ((o.vals.take (k + 1)).flatMap encW = (o.vals.take k).flatMap encW ++ encW z) := hidI (by rw [List.take_add_one, hz]; simp)
          have hql : q.length ≤ pre.length + 251 := by
            rw [HQ.out, List.length_append, flat_len, List.length_take]; omega
          obtain ⟨vb, vo, rfl, hcell⟩ : ∃ vb vo, va = some ⟨vb, vo, none⟩ ∧ wr.cell? ⟨vb, vo + k, none⟩ = some (.int .i64 z) := by
            rcases HVS.out with h0 | ⟨vb, vo, rfl, hc⟩
            · rw [h0] at hkl; simp at hkl
            · refine ⟨vb, vo, rfl, ?_⟩
              have hcz := hc k hkl
              rw [show o.vals.getD k 0 = z by rw [List.getD_eq_getElem?_getD, hz]; rfl] at hcz
              exact (HK4.out.low.cell (World.block_lt_of_cell? w _ hcz)).trans hcz
          have k1 : (k : Int) < (o.vals.length : Int) := by omega
          have k2 : (0 : Int) ≤ (k : Int) := by omega
          have k3 : ((k : Int)).toNat = k := by omega
          have CB := hidI (bytesR_any z wr)
          obtain ⟨y0, y1, y2, y3, y4, y5, y6, y7, hy8⟩ : ∃ y0 y1 y2 y3 y4 y5 y6 y7, by8 z = #[Value.int .u8 y0, .int .u8 y1, .int .u8 y2, .int .u8 y3, .int .u8 y4, .int .u8 y5, .int .u8 y6, .int .u8 y7] := ⟨_, _, _, _, _, _, _, _, rfl⟩
          have HY8 := hidI hy8
          rw [hy8] at CB
          clear hy8 hz hkl
          go_wp2_with (go_at_call 62; refine CB.out.mono ?_; rintro e w5 ⟨rfl, hb5⟩; have HK5 := hidI (HK4.out.below hb5); clear hb5; refine Hid.out ?_)
          refine hidI ?_
          clear CB e3
          have HK6 := hidI (HK5.out.add (.cells #[.int .u8 y0, .int .u8 y1, .int .u8 y2, .int .u8 y3, .int .u8 y4, .int .u8 y5, .int .u8 y6, .int .u8 y7] 114) (notB_cells _ _ _ (by decide)))
          obtain ⟨b8, hb8⟩ : ∃ b8, w5.heap.size = b8 := ⟨_, rfl⟩
          rw [hb8] at HK6
          have Hb8 := hidI hb8
          clear hb8
          go_wp2
          rw [Hb8.out]
          clear HK5 Hb8
          go_loopg [4, 9] 8 (fun g2 s4 s9 wz => ∃ (j : Nat) (r : List Int) (a4 : Option Addr) (c4 : Nat), j + g2 = 8 ∧ s4 = .slice a4 r.length c4 ∧ s9 = .int .i64 (j : Int) ∧ Hid (r = q ++ (encW z).take j) ∧ Hid (Keep w wz (.slice a4 r.length c4) r [(b8, .cells #[.int .u8 y0, .int .u8 y1, .int .u8 y2, .int .u8 y3, .int .u8 y4, .int .u8 y5, .int .u8 y6, .int .u8 y7] 114), (bx, oneObj o (.slice (some ⟨vb, vo, none⟩) o.vals.length vc))]))
          case atStart => exact ⟨0, q, _, _, by omega, rfl, rfl, hidI (by simp), HK6⟩
          case round =>
            obtain ⟨j, r, va7, vc7, hjg, rfl, rfl, HR, HK7⟩ := hrel
            cases gk with
            | zero =>
              have hj8 : j = 8 := by omega
              have j8 : ¬ ((j : Int) < 8) := by omega
              have HN3 : Hid (r = p3 ++ (o.vals.take (k + 1)).flatMap encW) := hidI (by
                have e : (encW z).take 8 = encW z := rfl
                rw [HR.out, hj8, HTz.out, HQ.out, e]
                simp)
              clear hj8
              go_wp2
              go_roundg g'
              case measure => omega
              case rel => exact ⟨k + 1, r, _, _, by omega, rfl, by go_num, HN3, hidI (HK7.out.few (by simp))⟩
            | succ g2 =>
              have hj8 : j < 8 := by omega
              have j8 : (j : Int) < 8 := by omega
              have j9 : (0 : Int) ≤ (j : Int) := by omega
              have j10 : ((j : Int)).toNat = j := by omega
              obtain ⟨y, hy1, hy2⟩ := by8_get (z := z) hj8
              rw [HY8.out] at hy1
              have e8 : wr.cell? ⟨b8, j, none⟩ = some (.int .u8 y) := obj_cell (HK7.out.obj (b8, _) (List.mem_cons.2 (.inl rfl))).1 hy1
              have hrl : r.length ≤ pre.length + 259 := by rw [HR.out, List.length_append, List.length_take]; omega
              have HTj : Hid ((encW z).take (j + 1) = (encW z).take j ++ [y]) := hidI (by rw [List.take_add_one, hy2]; rfl)
              have HK8 := hidI (HK7.out.alloc (.cells #[.int .u8 y] 5))
              have HV8 : Hid (SeesC (wr.alloc (.cells #[.int .u8 y] 5)) (.slice (some ⟨wr.heap.size, 0, none⟩) 1 1) 1 1 (cellsB [y])) := hidI (sees_built wr [y])
              clear hy1 hy2
              go_wp2_with (at_builtin; go_must (refine wpList_append_any Try.underlying66 Try.info5 rfl (by decide) (by decide) rfl _ _ rfl w.heap.size _ r.length (cellsB r) rfl HK8.out.own _ 1 (cellsB [y]) rfl HV8.out (cellsB_one _) (by omega) (by have := HK8.out.low.size; omega) ?_); intro v9 w9 hown9 hgrow9 _; refine Hid.out ?_)
              refine hidI ?_
              have HK9 := hidI (HK8.out.app (bs := [y]) hown9 hgrow9)
              clear hown9 hgrow9 HK8 HV8 e8
              obtain ⟨va9, vc9, hs9⟩ := HK9.out.slice
              subst hs9
              go_wp2
              go_roundg g2
              case measure => omega
              case rel => exact ⟨j + 1, r ++ [y], _, _, by omega, rfl, by go_num, hidI (by rw [HR.out, HTj.out]; simp), HK9⟩
end Go.Proofs.Ytbjoljokdjgbnab
