/-
  Texts Pair PairDo Do Play Played KeysOf OpenD, one behind the other.
-/
import Derived.Test.YtbjoljokdjgbnabGF
import Derived.ProofKit
import Derived.OpenShut
import Derived.Deep.SlicePairs
/-
  A table and the document's, side by side: what a deed on both makes of them.
-/
namespace Go.Proofs.Ytbjoljokdjgbnab
open Go.RowKit Go.Deep Go.MapKept
def rdeclE (os : List One) (s : ByteArray) (d q : Int) : Int := if isName s then (if side d && kind q then (match os.find? (One.at s d) with | some _ => 6 | none => if os.length < 24 then 0 else 4) else 2) else 3
theorem rdecl_any (N : Nat → Prop) (rb : Nat) (n m : Int) (os : List One) (s : ByteArray) (d q : Int) (w : World) (h : Book w N rb n m os) (hl : os.length ≤ 24) (hd0 : 0 ≤ d) (hq0 : 0 ≤ q) (L : Nat) (hL : sideLen n m d = L) (hL30 : L ≤ 30) :
    Calls Try.prog 70 #[.pointer (some ⟨rb, 0, none⟩), ke s d, .int .u8 q] w (RPost w N rb n m (rdeclE os s d q) (insO os ⟨s, d, q, List.replicate L 0⟩)) := by
  unfold rdeclE
  cases hn : isName s with
  | false => exact rdecl_name N rb n m _ s d q w hn
  | true =>
    rw [if_pos rfl]
    by_cases h0 : d = 0
    · rw [show (side d && kind q) = false by simp [side, h0]]; exact rdecl_d0 N rb n m _ s d q w hn h0
    by_cases h3 : 3 < d
    · rw [show (side d && kind q) = false by simp [side]; omega]; exact rdecl_d3 N rb n m _ s d q w hn h0 h3
    by_cases g0 : q = 0
    · rw [show (side d && kind q) = false by simp [kind, g0]]; exact rdecl_q0 N rb n m _ s d q w hn h0 h3 g0
    by_cases g3 : 2 < q
    · rw [show (side d && kind q) = false by simp [kind]; omega]; exact rdecl_q2 N rb n m _ s d q w hn h0 h3 g0 g3
    have hsd : side d = true := by simp [side]; omega
    have hkq : kind q = true := by simp [kind]; omega
    rw [show (side d && kind q) = true by simp [hsd, hkq], if_pos rfl]
    exact rdecl_go N rb n m os s d q w h hl hn hsd hkq L hL hL30
/-- The blocks of a table. -/
def NB (tb mb : Nat) (cs : List Column) (k : Nat) : Prop := k = tb ∨ k = mb ∨ ∃ c ∈ cs, c.row = k
theorem NB_rows {tb mb : Nat} {cs cs' : List Column} (h : cs'.map Column.row = cs.map Column.row) {k : Nat} (hk : NB tb mb cs' k) : NB tb mb cs k := by
  rcases hk with hk | hk | ⟨c, hc, hk⟩
  · exact .inl hk
  · exact .inr (.inl hk)
  · have : c.row ∈ cs.map Column.row := by rw [← h]; exact List.mem_map.2 ⟨c, hc, rfl⟩
    obtain ⟨c', hc', he⟩ := List.mem_map.1 this
    exact .inr (.inr ⟨c', hc', he.trans hk⟩)
theorem Whole.lt {w : World} {tb mb : Nat} {n m : Int} {cs : List Column} (h : Whole w tb mb n m cs) {k : Nat} (hk : NB tb mb cs k) : k < w.heap.size := by
  rcases hk with rfl | rfl | ⟨c, hc, rfl⟩
  · exact World.block_lt_of_cell? w ⟨k, 0, none⟩ h.1
  · exact (Array.getElem?_eq_some_iff.1 h.2.2.2.1).1
  · exact (h.2.2.2.2.1 c hc).2.1
theorem Whole.off {w w' : World} {tb mb b : Nat} {n m : Int} {cs : List Column} (h : Whole w tb mb n m cs) (hg : w.grownBy w' (some b)) (hb : ¬ NB tb mb cs b) : Whole w' tb mb n m cs := by
  have kb : ∀ {k : Nat}, NB tb mb cs k → w'.heap[k]? = w.heap[k]? := fun {k} hk => hg.block k (h.lt hk) (fun e => hb (by cases e; exact hk))
  have ktb : NB tb mb cs tb := .inl rfl
  obtain ⟨h0, h1, h2, h3, h4, h5⟩ := h
  refine ⟨(World.cell?_of_block (kb ktb)).trans h0, (World.cell?_of_block (kb ktb)).trans h1, (World.cell?_of_block (kb ktb)).trans h2, (kb (.inr (.inl rfl))).trans h3, fun c hc => ?_, h5⟩
  obtain ⟨q1, q2, q3, q4, q5⟩ := h4 c hc
  have kc : NB tb mb cs c.row := .inr (.inr ⟨c, hc, rfl⟩)
  exact ⟨q1, Nat.lt_of_lt_of_le q2 hg.size, q3, q4, fun j hj => ⟨(World.cell?_of_block (kb kc)).trans (q5 j hj).1, (World.frozen?_of_block (kb kc)).trans (q5 j hj).2⟩⟩
def Lows (b0 tb mb rb : Nat) (cs : List Column) : Prop := b0 ≤ tb ∧ b0 ≤ mb ∧ b0 ≤ rb ∧ ∀ c ∈ cs, b0 ≤ c.row
/-- A table and the document's, with the same columns, each in blocks of its own. -/
def Both (w : World) (b0 tb mb rb : Nat) (cs : List Column) (os : List One) : Prop := Whole w tb mb 3 2 cs ∧ Book w (NB tb mb cs) rb 3 2 os ∧ Agree cs os ∧ Lows b0 tb mb rb cs
theorem Both.below {w w' : World} {b0 tb mb rb B : Nat} {cs : List Column} {os : List One} (h : Both w b0 tb mb rb cs os) (hb : Below B w w') (hB : w.heap.size ≤ B) : Both w' b0 tb mb rb cs os :=
  ⟨h.1.below hb hB, h.2.1.below hb hB, h.2.2⟩
/-- Behind the table's deed, ahead of the document's. -/
def Mid (b0 bx : Nat) (u0 u1 : World) (tb mb rb : Nat) (c : Int) (os os' : List One) : Prop :=
  ∃ cs1, Whole u1 tb mb 3 2 cs1 ∧ Book u1 (NB tb mb cs1) rb 3 2 os ∧ Agree cs1 (if c = 0 then os' else os) ∧ Lows b0 tb mb rb cs1 ∧ Below b0 u0 u1 ∧ u1.heap[bx]? = u0.heap[bx]? ∧ bx < u0.heap.size ∧ bx ≠ rb
/-- Behind both. -/
def Done (b0 bx : Nat) (u0 u2 : World) (tb mb rb : Nat) (os' : List One) : Prop :=
  ∃ cs1, Both u2 b0 tb mb rb cs1 os' ∧ Below b0 u0 u2 ∧ u2.heap[bx]? = u0.heap[bx]?
theorem Mid.after {b0 bx : Nat} {u0 u1 u2 : World} {tb mb rb : Nat} {c : Int} {os os' : List One} (h : ∃ cs1, (Whole u1 tb mb 3 2 cs1 ∧ Book u1 (NB tb mb cs1) rb 3 2 os ∧ Agree cs1 (if c = 0 then os' else os) ∧ Lows b0 tb mb rb cs1 ∧ Below b0 u0 u1 ∧ u1.heap[bx]? = u0.heap[bx]? ∧ bx < u0.heap.size ∧ bx ≠ rb) ∧ ∃ e, RPost u1 (NB tb mb cs1) rb 3 2 c os' e u2) : Done b0 bx u0 u2 tb mb rb (if c = 0 then os' else os) := by
  obtain ⟨cs1, ⟨hW, hB, hA, hL, hb, hx, hxs, hxr⟩, e, _, p1, p2⟩ := h
  have hs1 := hb.size
  by_cases hc : c = 0
  · obtain ⟨hg, hB2⟩ := p2 hc
    rw [if_pos hc] at hA ⊢
    refine ⟨cs1, ⟨hW.off hg hB.2.1, hB2, hA, hL⟩, hb.trans ⟨hg.os, hg.tape, hg.output, hg.size, fun k hk => hg.block k ?_ fun e => ?_⟩, (hg.block bx (by omega) fun e => hxr (by cases e; rfl)).trans hx⟩
    · have := hB.rb; have := hL.2.2.1; omega
    · cases e; have := hL.2.2.1; omega
  · have hb2 := p1 hc
    rw [if_neg hc] at hA ⊢
    refine ⟨cs1, ⟨hW.below hb2 (Nat.le_refl _), hB.below hb2 (Nat.le_refl _), hA, hL⟩, hb.trans (hb2.mono ?_), (hb2.block bx (by omega)).trans hx⟩
    have := hB.rb; have := hL.2.2.1; omega
theorem Agree.vals {cs : List Column} {os : List One} (h : Agree cs os) {w : World} {tb mb : Nat} {n m : Int} (hW : Whole w tb mb n m cs) : ∀ o ∈ os, o.vals.length ≤ 100000 := fun o ho => by
  obtain ⟨c, hc, rfl⟩ := List.mem_map.1 (h.1.mem_iff.1 ho)
  have := (hW.2.2.2.2.1 c hc).1.2.2.2.2.2.2.1
  show c.vals.length ≤ _
  omega
theorem Agree.few {cs : List Column} {os : List One} (h : Agree cs os) {w : World} {tb mb : Nat} {n m : Int} (hW : Whole w tb mb n m cs) : os.length ≤ 24 := by rw [h.length]; exact hW.2.2.2.2.2.2.2
theorem fit_rfit {k : Int} (h : kind k = true) (x : Int) : fit k x = rfit k x := by
  simp only [kind, Bool.or_eq_true, decide_eq_true_eq] at h
  rcases h with rfl | rfl <;> simp [fit, rfit]
theorem rows_map (cs : List Column) (s : ByteArray) (d : Int) (f : List Int → List Int) : (cs.map fun c => if c.at s d then { c with vals := f c.vals } else c).map Column.row = cs.map Column.row := by
  rw [List.map_map]
  apply List.map_congr_left
  intro c _
  simp only [Function.comp]
  split <;> rfl
end Go.Proofs.Ytbjoljokdjgbnab
/-
  The four deeds, on a table, and on the document's behind it.
-/
namespace Go.Proofs.Ytbjoljokdjgbnab
open Go.RowKit Go.Deep Go.MapKept
theorem Both.low {u : World} {b0 tb mb rb : Nat} {cs : List Column} {os : List One} (h : Both u b0 tb mb rb cs os) : b0 ≤ u.heap.size := by
  have := h.2.1.rb; have := h.2.2.2.2.2.1; omega
theorem Both.stay {u u1 : World} {b0 bx tb mb rb : Nat} {cs : List Column} {os os' : List One} {c : Int} (h : Both u b0 tb mb rb cs os) (hb : Below u.heap.size u u1) (hc : c ≠ 0) (hx : bx < u.heap.size) (hxr : bx ≠ rb) : Mid b0 bx u u1 tb mb rb c os os' :=
  ⟨cs, h.1.below hb (Nat.le_refl _), h.2.1.below hb (Nat.le_refl _), by rw [if_neg hc]; exact h.2.2.1, h.2.2.2, hb.mono h.low, hb.block bx hx, hx, hxr⟩
theorem Both.put {u u1 : World} {b0 bx tb mb rb : Nat} {cs cs1 : List Column} {os os' : List One} (h : Both u b0 tb mb rb cs os) {cc : Column} (hcc : cc ∈ cs) (hg : u.grownBy u1 (some cc.row)) (hW : Whole u1 tb mb 3 2 cs1) (hrows : cs1.map Column.row = cs.map Column.row) (hA : Agree cs1 os') (hx : bx < u.heap.size) (hxr : bx ≠ rb) (hxn : ¬ NB tb mb cs bx) : Mid b0 bx u u1 tb mb rb 0 os os' := by
  have hcr : NB tb mb cs cc.row := .inr (.inr ⟨cc, hcc, rfl⟩)
  have hlow := h.2.2.2.2.2.2 cc hcc
  refine ⟨cs1, hW, h.2.1.grown hg (fun b hb => by cases hb; exact hcr) (fun k hk => hW.lt hk) (fun k hk => .inl (NB_rows hrows hk)), by rw [if_pos rfl]; exact hA, ⟨h.2.2.2.1, h.2.2.2.2.1, h.2.2.2.2.2.1, fun c hc => ?_⟩, ⟨hg.os, hg.tape, hg.output, hg.size, fun k hk => hg.block k ?_ fun e => ?_⟩, hg.block bx hx fun e => hxn (by cases e; exact hcr), hx, hxr⟩
  · have : c.row ∈ cs.map Column.row := by rw [← hrows]; exact List.mem_map.2 ⟨c, hc, rfl⟩
    obtain ⟨c', hc', he⟩ := List.mem_map.1 this
    rw [← he]; exact h.2.2.2.2.2.2 c' hc'
  · have := h.low; omega
  · cases e; omega
theorem Both.add {u u1 : World} {b0 bx tb mb rb : Nat} {cs : List Column} {os os' : List One} (h : Both u b0 tb mb rb cs os) {cn : Column} (hr : u.heap.size ≤ cn.row) (hb : Below mb u u1) (hk : ∀ k, k < u.heap.size → k ≠ mb → u1.heap[k]? = u.heap[k]?) (hW : Whole u1 tb mb 3 2 (cs ++ [cn])) (hA : Agree (cs ++ [cn]) os') (hx : bx < u.heap.size) (hxr : bx ≠ rb) (hxn : ¬ NB tb mb cs bx) : Mid b0 bx u u1 tb mb rb 0 os os' := by
  have hg : u.grownBy u1 (some mb) := ⟨hb.os, hb.tape, hb.output, hb.size, fun k hk' hne => hk k hk' fun e => hne (by rw [e])⟩
  refine ⟨cs ++ [cn], hW, h.2.1.grown hg (fun b hb => by cases hb; exact .inr (.inl rfl)) (fun k hk => hW.lt hk) (fun k hk => ?_), by rw [if_pos rfl]; exact hA, ⟨h.2.2.2.1, h.2.2.2.2.1, h.2.2.2.2.2.1, fun c hc => ?_⟩, hb.mono h.2.2.2.2.1, hk bx hx fun e => hxn (.inr (.inl e)), hx, hxr⟩
  · rcases hk with hk | hk | ⟨c, hc, hk⟩
    · exact .inl (.inl hk)
    · exact .inl (.inr (.inl hk))
    · rcases List.mem_append.1 hc with hc | hc
      · exact .inl (.inr (.inr ⟨c, hc, hk⟩))
      · obtain rfl : c = cn := by simpa using hc
        exact .inr (hk ▸ hr)
  · rcases List.mem_append.1 hc with hc | hc
    · exact h.2.2.2.2.2.2 c hc
    · obtain rfl : c = cn := by simpa using hc
      have := h.low; omega
section
variable {u : World} {b0 bx tb mb rb : Nat} {cs : List Column} {os : List One} (h : Both u b0 tb mb rb cs os) (hx : bx < u.heap.size) (hxr : bx ≠ rb) (hxn : ¬ NB tb mb cs bx) {s : ByteArray} {d : Int} (hs : s.size ≤ maxLen) (hd : Wf8 d)
include h hx hxr hxn hs hd
theorem t_set (i x : Int) : Calls Try.prog 22 #[.pointer (some ⟨tb, 0, none⟩), ke s d, .int .i64 i, .int .i64 x] u fun e u1 => e = .returned (.int .i64 (setE cs s d i x)) ∧ Mid b0 bx u u1 tb mb rb (setE cs s d i x) os (upO os s d fun vs => vs.set i.toNat x) := by
  refine (whole_put h.1 hs hd i x).mono ?_
  rintro e u1 ⟨rfl, p1, p2⟩
  refine ⟨rfl, ?_⟩
  by_cases hc : setE cs s d i x = 0
  · obtain ⟨c, hcm, _, _, hg, hW⟩ := p2 hc
    rw [hc]
    exact h.put hcm hg hW (rows_map cs s d fun vs => vs.set i.toNat x) (h.2.2.1.up s d fun vs => vs.set i.toNat x) hx hxr hxn
  · exact h.stay (p1 hc) hc hx hxr
theorem t_fill (x : Int) : Calls Try.prog 72 #[.pointer (some ⟨tb, 0, none⟩), ke s d, .int .i64 x] u fun e u1 => e = .returned (.int .i64 (fillE cs s d x)) ∧ Mid b0 bx u u1 tb mb rb (fillE cs s d x) os (upO os s d fun vs => List.replicate vs.length x) := by
  refine (whole_fills h.1 hs hd x).mono ?_
  rintro e u1 ⟨rfl, p1, p2⟩
  refine ⟨rfl, ?_⟩
  by_cases hc : fillE cs s d x = 0
  · obtain ⟨c, hcm, _, _, hg, hW⟩ := p2 hc
    rw [hc]
    exact h.put hcm hg hW (rows_map cs s d fun vs => List.replicate vs.length x) (h.2.2.1.up s d fun vs => List.replicate vs.length x) hx hxr hxn
  · exact h.stay (p1 hc) hc hx hxr
theorem t_load {lv : Value} {zs : List Int} (hz : zs.length ≤ 100000) (hv : Sees u lv zs) : Calls Try.prog 74 #[.pointer (some ⟨tb, 0, none⟩), ke s d, lv] u fun e u1 => e = .returned (.int .i64 (loadsE cs s d zs)) ∧ Mid b0 bx u u1 tb mb rb (loadsE cs s d zs) os (upO os s d fun _ => zs) := by
  refine (whole_loads h.1 hs hd hz hv).mono ?_
  rintro e u1 ⟨rfl, p1, p2⟩
  refine ⟨rfl, ?_⟩
  by_cases hc : loadsE cs s d zs = 0
  · obtain ⟨c, hcm, _, _, hg, hW⟩ := p2 hc
    rw [hc]
    exact h.put hcm hg hW (rows_map cs s d fun _ => zs) (h.2.2.1.up s d fun _ => zs) hx hxr hxn
  · exact h.stay (p1 hc) hc hx hxr
theorem t_decl (q : Int) (L : Nat) (hL : sideLen 3 2 d = L) (hL30 : L ≤ 30) : Calls Try.prog 43 #[.pointer (some ⟨tb, 0, none⟩), ke s d, .int .u8 q] u fun e u1 => e = .returned (.int .i64 (declE cs s d q)) ∧ Mid b0 bx u u1 tb mb rb (declE cs s d q) os (insO os ⟨s, d, q, List.replicate L 0⟩) := by
  refine (whole_decl h.1 s d q hs hd L hL hL30).mono ?_
  rintro e u1 ⟨rfl, p1, p2⟩
  refine ⟨rfl, ?_⟩
  by_cases hc : declE cs s d q = 0
  · obtain ⟨r, hr, _, hb, hk, hW⟩ := p2 hc
    rw [hc]
    refine h.add (cn := ⟨s, d, q, List.replicate L 0, r, L⟩) hr hb hk hW (h.2.2.1.ins ⟨s, d, q, List.replicate L 0, r, L⟩ fun x hxm hxk => ?_) hx hxr hxn
    rcases col_cases cs s d with ⟨i, c, _, _, _, hf⟩ | ⟨hno, _⟩
    · unfold declE at hc
      rw [hf] at hc
      split at hc
      · split at hc
        · simp at hc
        · simp at hc
      · simp at hc
    · exact hno x hxm hxk
  · exact h.stay (p1 hc) hc hx hxr
end
theorem setE_eq {cs : List Column} {os : List One} {w : World} {tb mb : Nat} {n m : Int} (hA : Agree cs os) (hW : Whole w tb mb n m cs) (s : ByteArray) (d i x : Int) : setE cs s d i x = rsetE os s d i x := by
  unfold setE rsetE
  rw [hA.find hW.2.2.2.2.2.1]
  cases hf : cs.find? (Column.at s d) with
  | none => rfl
  | some c =>
    have hk := (hW.2.2.2.2.1 c (List.mem_of_find?_eq_some hf)).1.2.2.2.2.1
    simp only [Option.map_some, Column.one, fit_rfit hk]
theorem fillE_eq {cs : List Column} {os : List One} {w : World} {tb mb : Nat} {n m : Int} (hA : Agree cs os) (hW : Whole w tb mb n m cs) (s : ByteArray) (d x : Int) : fillE cs s d x = rfillE os s d x := by
  unfold fillE rfillE
  rw [hA.find hW.2.2.2.2.2.1]
  cases hf : cs.find? (Column.at s d) with
  | none => rfl
  | some c =>
    have hk := (hW.2.2.2.2.1 c (List.mem_of_find?_eq_some hf)).1.2.2.2.2.1
    simp only [Option.map_some, Column.one, fit_rfit hk]
theorem loadsE_eq {cs : List Column} {os : List One} {w : World} {tb mb : Nat} {n m : Int} (hA : Agree cs os) (hW : Whole w tb mb n m cs) (s : ByteArray) (d : Int) (zs : List Int) : loadsE cs s d zs = rloadE os s d zs := by
  unfold loadsE rloadE
  rw [hA.find hW.2.2.2.2.2.1]
  cases hf : cs.find? (Column.at s d) with
  | none => rfl
  | some c =>
    have hk := (hW.2.2.2.2.1 c (List.mem_of_find?_eq_some hf)).1.2.2.2.2.1
    have he : fit c.kind = rfit c.kind := funext fun x => fit_rfit hk x
    simp only [Option.map_some, Column.one, loadE, he]
theorem declE_eq {cs : List Column} {os : List One} {w : World} {tb mb : Nat} {n m : Int} (hA : Agree cs os) (hW : Whole w tb mb n m cs) (s : ByteArray) (d q : Int) : declE cs s d q = rdeclE os s d q := by
  unfold declE rdeclE
  rw [hA.find hW.2.2.2.2.2.1, hA.length]
  cases cs.find? (Column.at s d) <;> rfl
section
variable {u u1 : World} {b0 bx tb mb rb : Nat} {os os' : List One} {c : Int} (h : Mid b0 bx u u1 tb mb rb c os os') {s : ByteArray} {d : Int} (hso : Sorted os) (h24 : os.length ≤ 24) (hv : ∀ o ∈ os, o.vals.length ≤ 100000)
include h hso h24 hv
theorem r_set (i x : Int) (hc : c = rsetE os s d i x) (ho : os' = upO os s d fun vs => vs.set i.toNat x) : Calls Try.prog 71 #[.pointer (some ⟨rb, 0, none⟩), ke s d, .int .i64 i, .int .i64 x] u1 fun e u2 => e = .returned (.int .i64 c) ∧ Done b0 bx u u2 tb mb rb (if c = 0 then os' else os) := by
  obtain ⟨cs1, hm⟩ := h
  subst hc ho
  exact (rset_any _ rb 3 2 os s d i x u1 hm.2.1 (by omega) hv hso).mono fun e u2 hp => ⟨hp.1, Mid.after ⟨cs1, hm, e, hp⟩⟩
theorem r_fill (x : Int) (hc : c = rfillE os s d x) (ho : os' = upO os s d fun vs => List.replicate vs.length x) : Calls Try.prog 73 #[.pointer (some ⟨rb, 0, none⟩), ke s d, .int .i64 x] u1 fun e u2 => e = .returned (.int .i64 c) ∧ Done b0 bx u u2 tb mb rb (if c = 0 then os' else os) := by
  obtain ⟨cs1, hm⟩ := h
  subst hc ho
  exact (rfill_any _ rb 3 2 os s d x u1 hm.2.1 (by omega) hv hso).mono fun e u2 hp => ⟨hp.1, Mid.after ⟨cs1, hm, e, hp⟩⟩
theorem r_load {lv : Value} {zs : List Int} (hlv : Sees u1 lv zs) (hc : c = rloadE os s d zs) (ho : os' = upO os s d fun _ => zs) : Calls Try.prog 76 #[.pointer (some ⟨rb, 0, none⟩), ke s d, lv] u1 fun e u2 => e = .returned (.int .i64 c) ∧ Done b0 bx u u2 tb mb rb (if c = 0 then os' else os) := by
  obtain ⟨cs1, hm⟩ := h
  subst hc ho
  exact (rloads_any _ rb 3 2 os s d lv zs u1 hm.2.1 (by omega) hv hso hlv).mono fun e u2 hp => ⟨hp.1, Mid.after ⟨cs1, hm, e, hp⟩⟩
omit hso hv in
theorem r_decl (q : Int) (hd0 : 0 ≤ d) (hq0 : 0 ≤ q) (L : Nat) (hL : sideLen 3 2 d = L) (hL30 : L ≤ 30) (hc : c = rdeclE os s d q) (ho : os' = insO os ⟨s, d, q, List.replicate L 0⟩) : Calls Try.prog 70 #[.pointer (some ⟨rb, 0, none⟩), ke s d, .int .u8 q] u1 fun e u2 => e = .returned (.int .i64 c) ∧ Done b0 bx u u2 tb mb rb (if c = 0 then os' else os) := by
  obtain ⟨cs1, hm⟩ := h
  subst hc ho
  exact (rdecl_any _ rb 3 2 os s d q u1 hm.2.1 (by omega) hd0 hq0 L hL hL30).mono fun e u2 hp => ⟨hp.1, Mid.after ⟨cs1, hm, e, hp⟩⟩
end
end Go.Proofs.Ytbjoljokdjgbnab
/-
  A deed on both.
-/
namespace Go.Proofs.Ytbjoljokdjgbnab
open Go.RowKit Go.Deep Go.MapKept
theorem fewW_any (a : Option Addr) (n cap : Nat) (hc : n ≤ cap) (w : World) : Calls Try.prog 75 #[.slice a n cap] w fun e w' => e = .returned (.slice a (min n 40) cap) ∧ w = w' := by
  have u60 : ∀ w, Sem.run Try.prog (underlying 60) w = .ok (TypeDesc.slice 51) w := run_underlying Try.underlying60
  by_cases h : 40 < n
  · have k1 : decide ((40 : Int) < (n : Int)) = true := by simp; omega
    have k2 : (40 : Int) ≤ (cap : Int) := by omega
    have k3 : 40 ≤ cap := by omega
    go_enter Try.func75, Try.ntmps75
    go_wp2
    go_ret
    exact ⟨by first | rfl | (simp [Nat.min_eq_right (Nat.le_of_lt h)]; done) | (rw [Nat.min_eq_right (Nat.le_of_lt h)]; rfl), rfl⟩
  · have k1 : decide ((40 : Int) < (n : Int)) = false := by simp; omega
    go_enter Try.func75, Try.ntmps75
    go_wp2
    go_ret
    exact ⟨by rw [Nat.min_eq_left (by omega)]; rfl, rfl⟩
theorem wf8_pos {d : Int} (h : Wf8 d) : 0 ≤ d := by
  have e1 : IntKind.u8.min = 0 := rfl
  have h' : (Lit.int .u8 d).wf = true := h
  simp only [Lit.wf, e1, Bool.and_eq_true, decide_eq_true_eq] at h'
  exact h'.1
theorem few_sees {u : World} {a : Option Addr} {n cap : Nat} {zs : List Int} (h : Sees u (.slice a n cap) zs) : Sees u (.slice a (min n 40) cap) (zs.take 40) := by
  obtain ⟨a', cap', he, hs⟩ := h
  simp only [Value.slice.injEq] at he
  obtain ⟨rfl, rfl, rfl⟩ := he
  refine ⟨_, _, by rw [List.length_take, Nat.min_comm], ?_⟩
  rcases hs with rfl | ⟨b, off, rfl, hs⟩
  · exact .inl rfl
  · refine .inr ⟨b, off, rfl, fun j hj => ?_⟩
    rw [List.length_take] at hj
    rw [hs j (by omega)]
    simp [List.getD, show j < 40 by omega]
section
variable {w : World} {b0 tb mb rb : Nat} {cs : List Column} {os : List One} (h : Both w b0 tb mb rb cs os) {s : ByteArray} {d : Int} (hs : s.size ≤ maxLen) (hd : Wf8 d)
include h hs hd
set_option maxRecDepth 100000
set_option maxHeartbeats 1000000

theorem do_1 (q i x : Int) (lv : Value)  :
    Calls Try.prog 42 #[.pointer (some ⟨tb, 0, none⟩), .pointer (some ⟨rb, 0, none⟩), .agg #[.int .i64 1, .string s, .int .u8 d, .int .u8 q, .int .i64 i, .int .i64 x, lv]] w fun e w' => e = .returned (.bool true) ∧ ∃ cs' os', Both w' b0 tb mb rb cs' os' ∧ Below b0 w w' := by
  have hlow := h.low
  have hso := h.2.2.1.2
  have h24 := h.2.2.1.few h.1
  have hvl := h.2.2.1.vals h.1
  have hrbs := h.2.1.rb
  obtain ⟨c, hc⟩ : ∃ c, setE cs s d i x = c := ⟨_, rfl⟩
  obtain ⟨os', ho⟩ : ∃ os', (upO os s d fun vs => vs.set i.toNat x) = os' := ⟨_, rfl⟩
  have hce : c = rsetE os s d i x := by rw [← hc]; exact setE_eq h.2.2.1 h.1 s d i x

  have C1 : Hid (∀ y, Below w.heap.size w y → (y.cell? ⟨w.heap.size, 1, none⟩ = some (.string s) ∧ y.cell? ⟨w.heap.size, 2, none⟩ = some (.int .u8 d) ∧ y.cell? ⟨w.heap.size, 4, none⟩ = some (.int .i64 i) ∧ y.cell? ⟨w.heap.size, 5, none⟩ = some (.int .i64 x)) → Calls Try.prog 22 #[.pointer (some ⟨tb, 0, none⟩), ke s d, .int .i64 i, .int .i64 x] y fun e u1 => e = .returned (.int .i64 c) ∧ Mid b0 w.heap.size y u1 tb mb rb c os os' ∧ (u1.cell? ⟨w.heap.size, 1, none⟩ = some (.string s) ∧ u1.cell? ⟨w.heap.size, 2, none⟩ = some (.int .u8 d) ∧ u1.cell? ⟨w.heap.size, 4, none⟩ = some (.int .i64 i) ∧ u1.cell? ⟨w.heap.size, 5, none⟩ = some (.int .i64 x))) := hidI fun y hy hS => by
    have hyx : w.heap.size < y.heap.size := World.block_lt_of_cell? y ⟨w.heap.size, 1, none⟩ hS.1
    refine (t_set (h.below hy (Nat.le_refl _)) hyx (by omega) (fun hk => Nat.lt_irrefl _ (h.1.lt hk)) hs hd i x).mono ?_
    rintro e u1 ⟨rfl, hm⟩
    rw [hc, ho] at hm
    rw [hc]
    have hb : u1.heap[w.heap.size]? = y.heap[w.heap.size]? := by obtain ⟨_, _, _, _, _, _, hb, _⟩ := hm; exact hb
    exact ⟨rfl, hm, (World.cell?_of_block (a := ⟨w.heap.size, 1, none⟩) hb).trans hS.1, (World.cell?_of_block (a := ⟨w.heap.size, 2, none⟩) hb).trans hS.2.1, (World.cell?_of_block (a := ⟨w.heap.size, 4, none⟩) hb).trans hS.2.2.1, (World.cell?_of_block (a := ⟨w.heap.size, 5, none⟩) hb).trans hS.2.2.2⟩
  have C2 : Hid (∀ y u1, Below w.heap.size w y → Mid b0 w.heap.size y u1 tb mb rb c os os' → (u1.cell? ⟨w.heap.size, 1, none⟩ = some (.string s) ∧ u1.cell? ⟨w.heap.size, 2, none⟩ = some (.int .u8 d) ∧ u1.cell? ⟨w.heap.size, 4, none⟩ = some (.int .i64 i) ∧ u1.cell? ⟨w.heap.size, 5, none⟩ = some (.int .i64 x)) → Calls Try.prog 71 #[.pointer (some ⟨rb, 0, none⟩), ke s d, .int .i64 i, .int .i64 x] u1 fun e u2 => e = .returned (.int .i64 c) ∧ Done b0 w.heap.size y u2 tb mb rb (if c = 0 then os' else os) ∧ (u2.cell? ⟨w.heap.size, 1, none⟩ = some (.string s) ∧ u2.cell? ⟨w.heap.size, 2, none⟩ = some (.int .u8 d) ∧ u2.cell? ⟨w.heap.size, 4, none⟩ = some (.int .i64 i) ∧ u2.cell? ⟨w.heap.size, 5, none⟩ = some (.int .i64 x))) := hidI fun y u1 hy hm hS => by
    have hb1 : u1.heap[w.heap.size]? = y.heap[w.heap.size]? := by obtain ⟨_, _, _, _, _, _, hb, _⟩ := hm; exact hb
    refine (r_set hm hso h24 hvl i x hce ho.symm).mono ?_
    rintro e u2 ⟨rfl, hdn⟩
    have hb2 : u2.heap[w.heap.size]? = y.heap[w.heap.size]? := by obtain ⟨_, _, _, hb⟩ := hdn; exact hb
    have hb := hb2.trans hb1.symm
    exact ⟨rfl, hdn, (World.cell?_of_block (a := ⟨w.heap.size, 1, none⟩) hb).trans hS.1, (World.cell?_of_block (a := ⟨w.heap.size, 2, none⟩) hb).trans hS.2.1, (World.cell?_of_block (a := ⟨w.heap.size, 4, none⟩) hb).trans hS.2.2.1, (World.cell?_of_block (a := ⟨w.heap.size, 5, none⟩) hb).trans hS.2.2.2⟩
  have HC := hidI (And.intro hc (And.intro ho hce))
  clear hc ho hce 
  go_enter Try.func42, Try.ntmps42
  go_wp2
  go_region_held3 (fun y => y.cell? ⟨w.heap.size, 1, none⟩ = some (.string s) ∧ y.cell? ⟨w.heap.size, 2, none⟩ = some (.int .u8 d) ∧ y.cell? ⟨w.heap.size, 4, none⟩ = some (.int .i64 i) ∧ y.cell? ⟨w.heap.size, 5, none⟩ = some (.int .i64 x))
    (first | exact ⟨by go_keep, by go_keep, by go_keep, by go_keep⟩ | assumption)
    ((first | (go_at_call 22; refine Calls.mono (C1.out _ (by (repeat (first | exact Below.refl _ _ | assumption | refine Below.drew ?_ | refine Below.alloc ?_ (by first | omega | (simp; done) | (simp; omega)) _ | refine Below.setCell ?_ (by first | omega | (simp; done) | (simp; omega)) _))) (by assumption)) ?_; rintro e w1 ⟨rfl, hm1, hS1⟩; have HM1 := hidI hm1; clear hm1) | (go_at_call 71; refine Calls.mono (C2.out _ _ (by (repeat (first | exact Below.refl _ _ | assumption | refine Below.drew ?_ | refine Below.alloc ?_ (by first | omega | (simp; done) | (simp; omega)) _ | refine Below.setCell ?_ (by first | omega | (simp; done) | (simp; omega)) _))) HM1.out (by assumption)) ?_; rintro e w2 ⟨rfl, hd2, hS2⟩; have HD2 := hidI hd2; clear hd2)))
  all_goals
    go_wp2
    go_ret
    obtain ⟨cs1, hB, hbel, _⟩ := HD2.out
    exact ⟨by simp, cs1, _, hB, Below.trans (by refine Below.mono (B := w.heap.size) ?_ hlow; (repeat (first | exact Below.refl _ _ | assumption | refine Below.drew ?_ | refine Below.alloc ?_ (by first | omega | (simp; done) | (simp; omega)) _ | refine Below.setCell ?_ (by first | omega | (simp; done) | (simp; omega)) _))) hbel⟩

theorem do_2 (q i x : Int) (lv : Value)  :
    Calls Try.prog 42 #[.pointer (some ⟨tb, 0, none⟩), .pointer (some ⟨rb, 0, none⟩), .agg #[.int .i64 2, .string s, .int .u8 d, .int .u8 q, .int .i64 i, .int .i64 x, lv]] w fun e w' => e = .returned (.bool true) ∧ ∃ cs' os', Both w' b0 tb mb rb cs' os' ∧ Below b0 w w' := by
  have hlow := h.low
  have hso := h.2.2.1.2
  have h24 := h.2.2.1.few h.1
  have hvl := h.2.2.1.vals h.1
  have hrbs := h.2.1.rb
  obtain ⟨c, hc⟩ : ∃ c, fillE cs s d x = c := ⟨_, rfl⟩
  obtain ⟨os', ho⟩ : ∃ os', (upO os s d fun vs => List.replicate vs.length x) = os' := ⟨_, rfl⟩
  have hce : c = rfillE os s d x := by rw [← hc]; exact fillE_eq h.2.2.1 h.1 s d x

  have C1 : Hid (∀ y, Below w.heap.size w y → (y.cell? ⟨w.heap.size, 1, none⟩ = some (.string s) ∧ y.cell? ⟨w.heap.size, 2, none⟩ = some (.int .u8 d) ∧ y.cell? ⟨w.heap.size, 5, none⟩ = some (.int .i64 x)) → Calls Try.prog 72 #[.pointer (some ⟨tb, 0, none⟩), ke s d, .int .i64 x] y fun e u1 => e = .returned (.int .i64 c) ∧ Mid b0 w.heap.size y u1 tb mb rb c os os' ∧ (u1.cell? ⟨w.heap.size, 1, none⟩ = some (.string s) ∧ u1.cell? ⟨w.heap.size, 2, none⟩ = some (.int .u8 d) ∧ u1.cell? ⟨w.heap.size, 5, none⟩ = some (.int .i64 x))) := hidI fun y hy hS => by
    have hyx : w.heap.size < y.heap.size := World.block_lt_of_cell? y ⟨w.heap.size, 1, none⟩ hS.1
    refine (t_fill (h.below hy (Nat.le_refl _)) hyx (by omega) (fun hk => Nat.lt_irrefl _ (h.1.lt hk)) hs hd x).mono ?_
    rintro e u1 ⟨rfl, hm⟩
    rw [hc, ho] at hm
    rw [hc]
    have hb : u1.heap[w.heap.size]? = y.heap[w.heap.size]? := by obtain ⟨_, _, _, _, _, _, hb, _⟩ := hm; exact hb
    exact ⟨rfl, hm, (World.cell?_of_block (a := ⟨w.heap.size, 1, none⟩) hb).trans hS.1, (World.cell?_of_block (a := ⟨w.heap.size, 2, none⟩) hb).trans hS.2.1, (World.cell?_of_block (a := ⟨w.heap.size, 5, none⟩) hb).trans hS.2.2⟩
  have C2 : Hid (∀ y u1, Below w.heap.size w y → Mid b0 w.heap.size y u1 tb mb rb c os os' → (u1.cell? ⟨w.heap.size, 1, none⟩ = some (.string s) ∧ u1.cell? ⟨w.heap.size, 2, none⟩ = some (.int .u8 d) ∧ u1.cell? ⟨w.heap.size, 5, none⟩ = some (.int .i64 x)) → Calls Try.prog 73 #[.pointer (some ⟨rb, 0, none⟩), ke s d, .int .i64 x] u1 fun e u2 => e = .returned (.int .i64 c) ∧ Done b0 w.heap.size y u2 tb mb rb (if c = 0 then os' else os) ∧ (u2.cell? ⟨w.heap.size, 1, none⟩ = some (.string s) ∧ u2.cell? ⟨w.heap.size, 2, none⟩ = some (.int .u8 d) ∧ u2.cell? ⟨w.heap.size, 5, none⟩ = some (.int .i64 x))) := hidI fun y u1 hy hm hS => by
    have hb1 : u1.heap[w.heap.size]? = y.heap[w.heap.size]? := by obtain ⟨_, _, _, _, _, _, hb, _⟩ := hm; exact hb
    refine (r_fill hm hso h24 hvl x hce ho.symm).mono ?_
    rintro e u2 ⟨rfl, hdn⟩
    have hb2 : u2.heap[w.heap.size]? = y.heap[w.heap.size]? := by obtain ⟨_, _, _, hb⟩ := hdn; exact hb
    have hb := hb2.trans hb1.symm
    exact ⟨rfl, hdn, (World.cell?_of_block (a := ⟨w.heap.size, 1, none⟩) hb).trans hS.1, (World.cell?_of_block (a := ⟨w.heap.size, 2, none⟩) hb).trans hS.2.1, (World.cell?_of_block (a := ⟨w.heap.size, 5, none⟩) hb).trans hS.2.2⟩
  have HC := hidI (And.intro hc (And.intro ho hce))
  clear hc ho hce 
  go_enter Try.func42, Try.ntmps42
  go_wp2
  go_region_held3 (fun y => y.cell? ⟨w.heap.size, 1, none⟩ = some (.string s) ∧ y.cell? ⟨w.heap.size, 2, none⟩ = some (.int .u8 d) ∧ y.cell? ⟨w.heap.size, 5, none⟩ = some (.int .i64 x))
    (first | exact ⟨by go_keep, by go_keep, by go_keep⟩ | assumption)
    ((first | (go_at_call 72; refine Calls.mono (C1.out _ (by (repeat (first | exact Below.refl _ _ | assumption | refine Below.drew ?_ | refine Below.alloc ?_ (by first | omega | (simp; done) | (simp; omega)) _ | refine Below.setCell ?_ (by first | omega | (simp; done) | (simp; omega)) _))) (by assumption)) ?_; rintro e w1 ⟨rfl, hm1, hS1⟩; have HM1 := hidI hm1; clear hm1) | (go_at_call 73; refine Calls.mono (C2.out _ _ (by (repeat (first | exact Below.refl _ _ | assumption | refine Below.drew ?_ | refine Below.alloc ?_ (by first | omega | (simp; done) | (simp; omega)) _ | refine Below.setCell ?_ (by first | omega | (simp; done) | (simp; omega)) _))) HM1.out (by assumption)) ?_; rintro e w2 ⟨rfl, hd2, hS2⟩; have HD2 := hidI hd2; clear hd2)))
  all_goals
    go_wp2
    go_ret
    obtain ⟨cs1, hB, hbel, _⟩ := HD2.out
    exact ⟨by simp, cs1, _, hB, Below.trans (by refine Below.mono (B := w.heap.size) ?_ hlow; (repeat (first | exact Below.refl _ _ | assumption | refine Below.drew ?_ | refine Below.alloc ?_ (by first | omega | (simp; done) | (simp; omega)) _ | refine Below.setCell ?_ (by first | omega | (simp; done) | (simp; omega)) _))) hbel⟩

theorem do_3 (q i x : Int) (a : Option Addr) (n cap : Nat) (zs : List Int) (hsb : ∀ u, Below b0 w u → Sees u (.slice a n cap) zs) (hcap : n ≤ cap) :
    Calls Try.prog 42 #[.pointer (some ⟨tb, 0, none⟩), .pointer (some ⟨rb, 0, none⟩), .agg #[.int .i64 3, .string s, .int .u8 d, .int .u8 q, .int .i64 i, .int .i64 x, .slice a n cap]] w fun e w' => e = .returned (.bool true) ∧ ∃ cs' os', Both w' b0 tb mb rb cs' os' ∧ Below b0 w w' := by
  have hlow := h.low
  have hso := h.2.2.1.2
  have h24 := h.2.2.1.few h.1
  have hvl := h.2.2.1.vals h.1
  have hrbs := h.2.1.rb
  obtain ⟨c, hc⟩ : ∃ c, loadsE cs s d (zs.take 40) = c := ⟨_, rfl⟩
  obtain ⟨os', ho⟩ : ∃ os', (upO os s d fun _ => zs.take 40) = os' := ⟨_, rfl⟩
  have hce : c = rloadE os s d (zs.take 40) := by rw [← hc]; exact loadsE_eq h.2.2.1 h.1 s d (zs.take 40)
  have CF : Hid (∀ u, Calls Try.prog 75 #[.slice a n cap] u fun e w' => e = .returned (.slice a (min n 40) cap) ∧ u = w') := hidI fun u => fewW_any a n cap hcap u
  have C1 : Hid (∀ y, Below w.heap.size w y → (y.cell? ⟨w.heap.size, 1, none⟩ = some (.string s) ∧ y.cell? ⟨w.heap.size, 2, none⟩ = some (.int .u8 d) ∧ y.cell? ⟨w.heap.size, 6, none⟩ = some (.slice a n cap)) → Calls Try.prog 74 #[.pointer (some ⟨tb, 0, none⟩), ke s d, .slice a (min n 40) cap] y fun e u1 => e = .returned (.int .i64 c) ∧ Mid b0 w.heap.size y u1 tb mb rb c os os' ∧ (u1.cell? ⟨w.heap.size, 1, none⟩ = some (.string s) ∧ u1.cell? ⟨w.heap.size, 2, none⟩ = some (.int .u8 d) ∧ u1.cell? ⟨w.heap.size, 6, none⟩ = some (.slice a n cap))) := hidI fun y hy hS => by
    have hyx : w.heap.size < y.heap.size := World.block_lt_of_cell? y ⟨w.heap.size, 1, none⟩ hS.1
    refine (t_load (h.below hy (Nat.le_refl _)) hyx (by omega) (fun hk => Nat.lt_irrefl _ (h.1.lt hk)) hs hd (by rw [List.length_take]; omega) (few_sees (hsb y (hy.mono hlow)))).mono ?_
    rintro e u1 ⟨rfl, hm⟩
    rw [hc, ho] at hm
    rw [hc]
    have hb : u1.heap[w.heap.size]? = y.heap[w.heap.size]? := by obtain ⟨_, _, _, _, _, _, hb, _⟩ := hm; exact hb
    exact ⟨rfl, hm, (World.cell?_of_block (a := ⟨w.heap.size, 1, none⟩) hb).trans hS.1, (World.cell?_of_block (a := ⟨w.heap.size, 2, none⟩) hb).trans hS.2.1, (World.cell?_of_block (a := ⟨w.heap.size, 6, none⟩) hb).trans hS.2.2⟩
  have C2 : Hid (∀ y u1, Below w.heap.size w y → Mid b0 w.heap.size y u1 tb mb rb c os os' → (u1.cell? ⟨w.heap.size, 1, none⟩ = some (.string s) ∧ u1.cell? ⟨w.heap.size, 2, none⟩ = some (.int .u8 d) ∧ u1.cell? ⟨w.heap.size, 6, none⟩ = some (.slice a n cap)) → Calls Try.prog 76 #[.pointer (some ⟨rb, 0, none⟩), ke s d, .slice a (min n 40) cap] u1 fun e u2 => e = .returned (.int .i64 c) ∧ Done b0 w.heap.size y u2 tb mb rb (if c = 0 then os' else os) ∧ (u2.cell? ⟨w.heap.size, 1, none⟩ = some (.string s) ∧ u2.cell? ⟨w.heap.size, 2, none⟩ = some (.int .u8 d) ∧ u2.cell? ⟨w.heap.size, 6, none⟩ = some (.slice a n cap))) := hidI fun y u1 hy hm hS => by
    have hb1 : u1.heap[w.heap.size]? = y.heap[w.heap.size]? := by obtain ⟨_, _, _, _, _, _, hb, _⟩ := hm; exact hb
    refine (r_load hm hso h24 hvl (by obtain ⟨_, _, _, _, _, hb, _⟩ := hm; exact few_sees (hsb u1 ((hy.mono hlow).trans hb))) hce ho.symm).mono ?_
    rintro e u2 ⟨rfl, hdn⟩
    have hb2 : u2.heap[w.heap.size]? = y.heap[w.heap.size]? := by obtain ⟨_, _, _, hb⟩ := hdn; exact hb
    have hb := hb2.trans hb1.symm
    exact ⟨rfl, hdn, (World.cell?_of_block (a := ⟨w.heap.size, 1, none⟩) hb).trans hS.1, (World.cell?_of_block (a := ⟨w.heap.size, 2, none⟩) hb).trans hS.2.1, (World.cell?_of_block (a := ⟨w.heap.size, 6, none⟩) hb).trans hS.2.2⟩
  have HC := hidI (And.intro hc (And.intro ho hce))
  clear hc ho hce hsb hcap
  go_enter Try.func42, Try.ntmps42
  go_wp2
  go_region_held3 (fun y => y.cell? ⟨w.heap.size, 1, none⟩ = some (.string s) ∧ y.cell? ⟨w.heap.size, 2, none⟩ = some (.int .u8 d) ∧ y.cell? ⟨w.heap.size, 6, none⟩ = some (.slice a n cap))
    (first | exact ⟨by go_keep, by go_keep, by go_keep⟩ | assumption)
    ((first | (go_at_call 75; refine Calls.mono (CF.out _) ?_; rintro e wf ⟨rfl, rfl⟩) | (first | (go_at_call 74; refine Calls.mono (C1.out _ (by (repeat (first | exact Below.refl _ _ | assumption | refine Below.drew ?_ | refine Below.alloc ?_ (by first | omega | (simp; done) | (simp; omega)) _ | refine Below.setCell ?_ (by first | omega | (simp; done) | (simp; omega)) _))) (by assumption)) ?_; rintro e w1 ⟨rfl, hm1, hS1⟩; have HM1 := hidI hm1; clear hm1) | (go_at_call 76; refine Calls.mono (C2.out _ _ (by (repeat (first | exact Below.refl _ _ | assumption | refine Below.drew ?_ | refine Below.alloc ?_ (by first | omega | (simp; done) | (simp; omega)) _ | refine Below.setCell ?_ (by first | omega | (simp; done) | (simp; omega)) _))) HM1.out (by assumption)) ?_; rintro e w2 ⟨rfl, hd2, hS2⟩; have HD2 := hidI hd2; clear hd2))))
  all_goals
    go_wp2
    go_ret
    obtain ⟨cs1, hB, hbel, _⟩ := HD2.out
    exact ⟨by simp, cs1, _, hB, Below.trans (by refine Below.mono (B := w.heap.size) ?_ hlow; (repeat (first | exact Below.refl _ _ | assumption | refine Below.drew ?_ | refine Below.alloc ?_ (by first | omega | (simp; done) | (simp; omega)) _ | refine Below.setCell ?_ (by first | omega | (simp; done) | (simp; omega)) _))) hbel⟩

theorem do_0 (q i x : Int) (lv : Value) (hq0 : 0 ≤ q) (hLL : sideLen 3 2 d = ((sideLen 3 2 d).toNat : Int)) (hL3 : (sideLen 3 2 d).toNat ≤ 30) :
    Calls Try.prog 42 #[.pointer (some ⟨tb, 0, none⟩), .pointer (some ⟨rb, 0, none⟩), .agg #[.int .i64 0, .string s, .int .u8 d, .int .u8 q, .int .i64 i, .int .i64 x, lv]] w fun e w' => e = .returned (.bool true) ∧ ∃ cs' os', Both w' b0 tb mb rb cs' os' ∧ Below b0 w w' := by
  have hlow := h.low
  have hso := h.2.2.1.2
  have h24 := h.2.2.1.few h.1
  have hvl := h.2.2.1.vals h.1
  have hrbs := h.2.1.rb
  obtain ⟨c, hc⟩ : ∃ c, declE cs s d q = c := ⟨_, rfl⟩
  obtain ⟨os', ho⟩ : ∃ os', (insO os ⟨s, d, q, List.replicate (sideLen 3 2 d).toNat 0⟩) = os' := ⟨_, rfl⟩
  have hce : c = rdeclE os s d q := by rw [← hc]; exact declE_eq h.2.2.1 h.1 s d q

  have C1 : Hid (∀ y, Below w.heap.size w y → (y.cell? ⟨w.heap.size, 1, none⟩ = some (.string s) ∧ y.cell? ⟨w.heap.size, 2, none⟩ = some (.int .u8 d) ∧ y.cell? ⟨w.heap.size, 3, none⟩ = some (.int .u8 q)) → Calls Try.prog 43 #[.pointer (some ⟨tb, 0, none⟩), ke s d, .int .u8 q] y fun e u1 => e = .returned (.int .i64 c) ∧ Mid b0 w.heap.size y u1 tb mb rb c os os' ∧ (u1.cell? ⟨w.heap.size, 1, none⟩ = some (.string s) ∧ u1.cell? ⟨w.heap.size, 2, none⟩ = some (.int .u8 d) ∧ u1.cell? ⟨w.heap.size, 3, none⟩ = some (.int .u8 q))) := hidI fun y hy hS => by
    have hyx : w.heap.size < y.heap.size := World.block_lt_of_cell? y ⟨w.heap.size, 1, none⟩ hS.1
    refine (t_decl (h.below hy (Nat.le_refl _)) hyx (by omega) (fun hk => Nat.lt_irrefl _ (h.1.lt hk)) hs hd q (sideLen 3 2 d).toNat hLL hL3).mono ?_
    rintro e u1 ⟨rfl, hm⟩
    rw [hc, ho] at hm
    rw [hc]
    have hb : u1.heap[w.heap.size]? = y.heap[w.heap.size]? := by obtain ⟨_, _, _, _, _, _, hb, _⟩ := hm; exact hb
    exact ⟨rfl, hm, (World.cell?_of_block (a := ⟨w.heap.size, 1, none⟩) hb).trans hS.1, (World.cell?_of_block (a := ⟨w.heap.size, 2, none⟩) hb).trans hS.2.1, (World.cell?_of_block (a := ⟨w.heap.size, 3, none⟩) hb).trans hS.2.2⟩
  have C2 : Hid (∀ y u1, Below w.heap.size w y → Mid b0 w.heap.size y u1 tb mb rb c os os' → (u1.cell? ⟨w.heap.size, 1, none⟩ = some (.string s) ∧ u1.cell? ⟨w.heap.size, 2, none⟩ = some (.int .u8 d) ∧ u1.cell? ⟨w.heap.size, 3, none⟩ = some (.int .u8 q)) → Calls Try.prog 70 #[.pointer (some ⟨rb, 0, none⟩), ke s d, .int .u8 q] u1 fun e u2 => e = .returned (.int .i64 c) ∧ Done b0 w.heap.size y u2 tb mb rb (if c = 0 then os' else os) ∧ (u2.cell? ⟨w.heap.size, 1, none⟩ = some (.string s) ∧ u2.cell? ⟨w.heap.size, 2, none⟩ = some (.int .u8 d) ∧ u2.cell? ⟨w.heap.size, 3, none⟩ = some (.int .u8 q))) := hidI fun y u1 hy hm hS => by
    have hb1 : u1.heap[w.heap.size]? = y.heap[w.heap.size]? := by obtain ⟨_, _, _, _, _, _, hb, _⟩ := hm; exact hb
    refine (r_decl hm h24 q (wf8_pos hd) hq0 (sideLen 3 2 d).toNat hLL hL3 hce ho.symm).mono ?_
    rintro e u2 ⟨rfl, hdn⟩
    have hb2 : u2.heap[w.heap.size]? = y.heap[w.heap.size]? := by obtain ⟨_, _, _, hb⟩ := hdn; exact hb
    have hb := hb2.trans hb1.symm
    exact ⟨rfl, hdn, (World.cell?_of_block (a := ⟨w.heap.size, 1, none⟩) hb).trans hS.1, (World.cell?_of_block (a := ⟨w.heap.size, 2, none⟩) hb).trans hS.2.1, (World.cell?_of_block (a := ⟨w.heap.size, 3, none⟩) hb).trans hS.2.2⟩
  have HC := hidI (And.intro hc (And.intro ho hce))
  clear hc ho hce 
  go_enter Try.func42, Try.ntmps42
  go_wp2
  go_region_held3 (fun y => y.cell? ⟨w.heap.size, 1, none⟩ = some (.string s) ∧ y.cell? ⟨w.heap.size, 2, none⟩ = some (.int .u8 d) ∧ y.cell? ⟨w.heap.size, 3, none⟩ = some (.int .u8 q))
    (first | exact ⟨by go_keep, by go_keep, by go_keep⟩ | assumption)
    ((first | (go_at_call 43; refine Calls.mono (C1.out _ (by (repeat (first | exact Below.refl _ _ | assumption | refine Below.drew ?_ | refine Below.alloc ?_ (by first | omega | (simp; done) | (simp; omega)) _ | refine Below.setCell ?_ (by first | omega | (simp; done) | (simp; omega)) _))) (by assumption)) ?_; rintro e w1 ⟨rfl, hm1, hS1⟩; have HM1 := hidI hm1; clear hm1) | (go_at_call 70; refine Calls.mono (C2.out _ _ (by (repeat (first | exact Below.refl _ _ | assumption | refine Below.drew ?_ | refine Below.alloc ?_ (by first | omega | (simp; done) | (simp; omega)) _ | refine Below.setCell ?_ (by first | omega | (simp; done) | (simp; omega)) _))) HM1.out (by assumption)) ?_; rintro e w2 ⟨rfl, hd2, hS2⟩; have HD2 := hidI hd2; clear hd2)))
  all_goals
    go_wp2
    go_ret
    obtain ⟨cs1, hB, hbel, _⟩ := HD2.out
    exact ⟨by simp, cs1, _, hB, Below.trans (by refine Below.mono (B := w.heap.size) ?_ hlow; (repeat (first | exact Below.refl _ _ | assumption | refine Below.drew ?_ | refine Below.alloc ?_ (by first | omega | (simp; done) | (simp; omega)) _ | refine Below.setCell ?_ (by first | omega | (simp; done) | (simp; omega)) _))) hbel⟩
end
end Go.Proofs.Ytbjoljokdjgbnab
/-
  Deeds on both, from none on.
-/
namespace Go.Proofs.Ytbjoljokdjgbnab
open Go.RowKit Go.Deep Go.MapKept
/-- A deed. -/
structure Deed where
  k : Int
  s : ByteArray
  d : Int
  q : Int
  i : Int
  x : Int
  a : Option Addr
  n : Nat
  cap : Nat
  zs : List Int
def Deed.val (x : Deed) : Value := .agg #[.int .i64 x.k, .string x.s, .int .u8 x.d, .int .u8 x.q, .int .i64 x.i, .int .i64 x.x, .slice x.a x.n x.cap]
def Deed.ok (b0 : Nat) (w : World) (x : Deed) : Prop := x.s.size ≤ maxLen ∧ Wf8 x.d ∧ 0 ≤ x.q ∧ x.n ≤ x.cap ∧ ∀ u, Below b0 w u → Sees u (.slice x.a x.n x.cap) x.zs
theorem Deed.ok.later {b0 : Nat} {w w' : World} {x : Deed} (h : x.ok b0 w) (hb : Below b0 w w') : x.ok b0 w' := ⟨h.1, h.2.1, h.2.2.1, h.2.2.2.1, fun u hu => h.2.2.2.2 u (hb.trans hu)⟩
theorem side32 (d : Int) : sideLen 3 2 d = ((sideLen 3 2 d).toNat : Int) ∧ (sideLen 3 2 d).toNat ≤ 30 := by
  unfold sideLen
  split
  · decide
  · split
    · decide
    · split <;> decide
set_option maxRecDepth 100000 in
theorem do_else {w : World} {b0 tb mb rb : Nat} {cs : List Column} {os : List One} (h : Both w b0 tb mb rb cs os) (k : Int) (s : ByteArray) (d q i x : Int) (lv : Value) (h0 : k ≠ 0) (h1 : k ≠ 1) (h2 : k ≠ 2) (h3 : k ≠ 3) :
    Calls Try.prog 42 #[.pointer (some ⟨tb, 0, none⟩), .pointer (some ⟨rb, 0, none⟩), .agg #[.int .i64 k, .string s, .int .u8 d, .int .u8 q, .int .i64 i, .int .i64 x, lv]] w fun e w' => e = .returned (.bool true) ∧ ∃ cs' os', Both w' b0 tb mb rb cs' os' ∧ Below b0 w w' := by
  have k0 : (k == 0) = false := by simpa using h0
  have k1 : (k == 1) = false := by simpa using h1
  have k2 : (k == 2) = false := by simpa using h2
  have k3 : (k == 3) = false := by simpa using h3
  have H := hidI h
  have hlow := h.low
  clear h
  go_enter Try.func42, Try.ntmps42
  go_wp2
  go_ret
  have hb : Below w.heap.size w (w.alloc (.cells #[.int .i64 k, .string s, .int .u8 d, .int .u8 q, .int .i64 i, .int .i64 x, lv] 89)) := (Below.refl _ w).alloc (Nat.le_refl _) _
  exact ⟨rfl, cs, os, H.out.below hb (Nat.le_refl _), hb.mono hlow⟩
theorem do_any {w : World} {b0 tb mb rb : Nat} {cs : List Column} {os : List One} (h : Both w b0 tb mb rb cs os) (x : Deed) (hx : x.ok b0 w) :
    Calls Try.prog 42 #[.pointer (some ⟨tb, 0, none⟩), .pointer (some ⟨rb, 0, none⟩), x.val] w fun e w' => e = .returned (.bool true) ∧ ∃ cs' os', Both w' b0 tb mb rb cs' os' ∧ Below b0 w w' := by
  obtain ⟨k, s, d, q, i, y, a, n, cap, zs⟩ := x
  obtain ⟨o1, o2, o3, o4, o5⟩ := hx
  by_cases h0 : k = 0
  · subst h0; exact do_0 h o1 o2 q i y _ o3 (side32 d).1 (side32 d).2
  by_cases h1 : k = 1
  · subst h1; exact do_1 h o1 o2 q i y _
  by_cases h2 : k = 2
  · subst h2; exact do_2 h o1 o2 q i y _
  by_cases h3 : k = 3
  · subst h3; exact do_3 h o1 o2 q i y a n cap zs o5 o4
  exact do_else h k s d q i y _ h0 h1 h2 h3
/-- Deeds lie in a row. -/
def SeesD (w : World) (v : Value) (xs : List Deed) : Prop :=
  ∃ (a : Option Addr) (cap : Nat), v = .slice a xs.length cap ∧ (xs = [] ∨ ∃ b off, a = some ⟨b, off, none⟩ ∧ ∀ (j : Nat) (x : Deed), xs[j]? = some x → w.cell? ⟨b, off + j * 7, none⟩ = some (.int .i64 x.k) ∧ w.cell? ⟨b, off + j * 7 + 1, none⟩ = some (.string x.s) ∧ w.cell? ⟨b, off + j * 7 + 2, none⟩ = some (.int .u8 x.d) ∧ w.cell? ⟨b, off + j * 7 + 3, none⟩ = some (.int .u8 x.q) ∧ w.cell? ⟨b, off + j * 7 + 4, none⟩ = some (.int .i64 x.i) ∧ w.cell? ⟨b, off + j * 7 + 5, none⟩ = some (.int .i64 x.x) ∧ w.cell? ⟨b, off + j * 7 + 6, none⟩ = some (.slice x.a x.n x.cap))
theorem both_new (w : World) : Both (((w.alloc (.map #[] 0)).alloc (.cells #[.int .i64 3, .int .i64 2, .map (some w.heap.size)] 95)).alloc (.cells #[.int .i64 3, .int .i64 2, .slice none 0 0] 100)) w.heap.size (w.heap.size + 1) w.heap.size (w.heap.size + 2) [] [] := by
  refine ⟨⟨by go_simp, by go_simp, by go_simp, ?_, by simp, ?_, ?_, by simp⟩, ⟨?_, ?_, by go_simp, by go_simp, by go_simp, .slice none 0 0, [], by go_simp, rfl, ⟨none, 0, rfl, Nat.le_refl _, .inl rfl⟩, ?_, by simp⟩, ⟨by simp, by simp [Sorted]⟩, by omega, by omega, by omega, by simp⟩
  · rw [Below.heap_alloc _ _ _ (by simp only [World.size_alloc]; omega), Below.heap_alloc _ _ _ (by simp), World.alloc_heap_new]
    rfl
  · intro i j a b h; simp at h
  · intro i j a b h; simp at h
  · rintro k (rfl | rfl | ⟨c, hc, _⟩)
    · simp only [World.size_alloc]; omega
    · simp only [World.size_alloc]; omega
    · simp at hc
  · rintro (h | h | ⟨c, hc, _⟩)
    · omega
    · omega
    · simp at hc
  · intro b hb; simp [Value.ownBlock] at hb
end Go.Proofs.Ytbjoljokdjgbnab
/-
  The laws' play: at most 50 deeds on both.
-/
namespace Go.Proofs.Ytbjoljokdjgbnab
open Go.RowKit Go.Deep Go.MapKept
set_option maxRecDepth 100000 in
set_option maxHeartbeats 1000000 in
theorem play_any (w : World) (v : Value) (xs : List Deed) (hv : SeesD w v xs) (hok : ∀ x ∈ xs, x.ok w.heap.size w) :
    Calls Try.prog 16 #[v] w fun e w' => ∃ tb mb rb cs os, e = .returned (.tuple #[.pointer (some ⟨tb, 0, none⟩), .pointer (some ⟨rb, 0, none⟩), .bool true]) ∧ Both w' w.heap.size tb mb rb cs os ∧ Below w.heap.size w w' := by
  obtain ⟨a, cap, rfl, hL⟩ := hv
  have HL := hidI hL
  have HO := hidI hok
  have may : mayT 3 2 := by unfold mayT; omega
  have C1 := hidI (cnew_ok 3 2 w may)
  have C2 := hidI (rnew_ok 3 2 ((w.alloc (.map #[] 0)).alloc (.cells #[.int .i64 3, .int .i64 2, .map (some w.heap.size)] 95)) may)
  have hBN := both_new w
  have hbW : Below w.heap.size w (((w.alloc (.map #[] 0)).alloc (.cells #[.int .i64 3, .int .i64 2, .map (some w.heap.size)] 95)).alloc (.cells #[.int .i64 3, .int .i64 2, .slice none 0 0] 100)) := (by (repeat (first | exact Below.refl _ _ | assumption | refine Below.drew ?_ | refine Below.alloc ?_ (by first | omega | (simp; done) | (simp; omega)) _ | refine Below.setCell ?_ (by first | omega | (simp; done) | (simp; omega)) _)))
  have HBN := hidI hBN
  have HBW := hidI hbW
  obtain ⟨k, hk⟩ : ∃ k, xs.length = k := ⟨_, rfl⟩
  have HK := hidI hk
  rw [hk]
  clear hL hok hBN hbW hk
  go_enter Try.func16, Try.ntmps16
  go_wp2_with (first | (go_at_call 40; refine Calls.mono C1.out ?_; rintro e w1 ⟨rfl, rfl⟩) | (go_at_call 41; refine Calls.mono C2.out ?_; rintro e w2 ⟨rfl, rfl⟩; refine Hid.out ?_))
  refine hidI ?_
  try simp only [World.size_alloc]
  obtain ⟨W, hW⟩ : ∃ W, (((w.alloc (.map #[] 0)).alloc (.cells #[.int .i64 3, .int .i64 2, .map (some w.heap.size)] 95)).alloc (.cells #[.int .i64 3, .int .i64 2, .slice none 0 0] 100)) = W := ⟨_, rfl⟩
  rw [hW] at HBN HBW ⊢
  clear hW C1 C2
  obtain ⟨tb, htb⟩ : ∃ tb, w.heap.size + 1 = tb := ⟨_, rfl⟩
  obtain ⟨rb, hrb⟩ : ∃ rb, w.heap.size + 2 = rb := ⟨_, rfl⟩
  have hrb2 : w.heap.size + 1 + 1 = rb := by omega
  rw [htb, hrb] at HBN
  first | rw [htb, hrb] | rw [hrb2, htb] | (simp only [Nat.add_assoc, Nat.reduceAdd]; rw [htb, hrb])
  clear htb hrb hrb2
  obtain ⟨mb, hmb⟩ : ∃ mb, w.heap.size = mb := ⟨_, rfl⟩
  have HBN2 : Hid (∃ cs os, Both W w.heap.size tb mb rb cs os) := hidI ⟨_, _, by rw [hmb] at HBN ⊢; exact HBN.out⟩
  clear HBN hmb may
  go_wp2
  go_loopg [7] (min k 50) (fun g s7 wx => ∃ i : Nat, i + g = min k 50 ∧ s7 = .int .i64 i ∧ Hid ((∃ cs os, Both wx w.heap.size tb mb rb cs os) ∧ Below w.heap.size w wx))
  case atStart => exact ⟨0, by omega, rfl, hidI ⟨HBN2.out, HBW.out⟩⟩
  case round =>
    obtain ⟨i, hig, rfl, HX⟩ := hrel
    cases gk with
    | zero =>
      have hend : i = k ∨ (i < k ∧ i = 50) := by omega
      rcases hend with rfl | ⟨hlt, rfl⟩
      · have k1 : decide ((i : Int) < (i : Int)) = false := by simp
        go_wp2
        go_ret3
        obtain ⟨⟨cs, os, hB⟩, hbel⟩ := HX.out
        exact ⟨tb, mb, rb, cs, os, rfl, hB, hbel⟩
      · have k1 : ((50 : Nat) : Int) < (k : Int) := by omega
        have k1' : (50 : Int) < (k : Int) := by omega
        go_wp2
        go_ret3
        obtain ⟨⟨cs, os, hB⟩, hbel⟩ := HX.out
        exact ⟨tb, mb, rb, cs, os, rfl, hB, hbel⟩
    | succ g =>
      have hik : i < k := by omega
      have k1 : (i : Int) < (k : Int) := by omega
      have k2 : (i : Int) < 50 := by omega
      obtain ⟨x, hx⟩ : ∃ x, xs[i]? = some x := ⟨_, List.getElem?_eq_getElem (by have := HK.out; omega)⟩
      have hxo := HO.out x (List.mem_of_getElem? hx)
      have C : Hid (Calls Try.prog 42 #[.pointer (some ⟨tb, 0, none⟩), .pointer (some ⟨rb, 0, none⟩), .agg #[.int .i64 x.k, .string x.s, .int .u8 x.d, .int .u8 x.q, .int .i64 x.i, .int .i64 x.x, .slice x.a x.n x.cap]] wr fun e w' => e = .returned (.bool true) ∧ ∃ cs' os', Both w' w.heap.size tb mb rb cs' os' ∧ Below w.heap.size wr w') := hidI (by
        obtain ⟨⟨cs, os, hB⟩, hbel⟩ := HX.out
        exact do_any hB x (hxo.later hbel))
      rcases HL.out with hnil | ⟨b, off, rfl, hlie⟩
      · subst hnil; simp at hx
      have kk : ∀ {p : Addr} {v : Value}, w.cell? p = some v → wr.cell? p = some v := fun {p v} hc => (HX.out.2.cell (World.block_lt_of_cell? w _ hc)).trans hc
      obtain ⟨c0, c1, c2, c3, c4, c5, c6⟩ := hlie i x hx
      replace c0 := kk c0
      replace c1 := kk c1
      replace c2 := kk c2
      replace c3 := kk c3
      replace c4 := kk c4
      replace c5 := kk c5
      replace c6 := kk c6
      clear hlie kk hxo hx
      go_wp2_with (go_at_call 42; refine Calls.mono C.out ?_; rintro e w3 ⟨rfl, hB3⟩; have HB3 := hidI hB3; clear hB3; refine Hid.out ?_)
      refine hidI ?_
      go_wp2
      go_roundg g
      case measure => omega
      case rel =>
        refine ⟨i + 1, by omega, by go_num, hidI ?_⟩
        obtain ⟨cs', os', hB, hbel⟩ := HB3.out
        exact ⟨⟨cs', os', hB⟩, HX.out.2.trans hbel⟩
end Go.Proofs.Ytbjoljokdjgbnab
/-
  Keys in a row; the Keys of a table that agrees with the document's.
-/
namespace Go.Proofs.Ytbjoljokdjgbnab
open Go.RowKit Go.Deep Go.MapKept Go.Sort Go.Shelf
/-- Keys lie in a row. -/
def SeesK (w : World) (v : Value) (ks : List Ky) : Prop :=
  ∃ (a : Option Addr) (cap : Nat), v = .slice a ks.length cap ∧ (ks = [] ∨ ∃ b off, a = some ⟨b, off, none⟩ ∧ ∀ (j : Nat) (k : Ky), ks[j]? = some k → w.cell? ⟨b, off + j * 2, none⟩ = some (.string k.1) ∧ w.cell? ⟨b, off + j * 2 + 1, none⟩ = some (.int .u8 k.2))
theorem SeesK.below {w w' : World} {v : Value} {ks : List Ky} {B : Nat} (h : SeesK w v ks) (hb : RowKit.Below B w w') (hB : w.heap.size ≤ B) : SeesK w' v ks := by
  obtain ⟨a, cap, rfl, h⟩ := h
  refine ⟨a, cap, rfl, h.imp_right ?_⟩
  rintro ⟨b, off, rfl, hl⟩
  refine ⟨b, off, rfl, fun j k hk => ?_⟩
  obtain ⟨h0, h1⟩ := hl j k hk
  have z : ∀ {p : Addr} {v : Value}, w.cell? p = some v → w'.cell? p = some v := fun {p v} hc => (hb.cell (Nat.lt_of_lt_of_le (World.block_lt_of_cell? w _ hc) hB)).trans hc
  exact ⟨z h0, z h1⟩
theorem seesK_holds {w : World} {g cap : Nat} {ds : Array Ky} (h : HoldsK encK 2 w g 0 ds) : SeesK w (.slice (some ⟨g, 0, none⟩) ds.toList.length cap) ds.toList := by
  refine ⟨_, cap, rfl, .inr ⟨g, 0, rfl, fun j k hk => ?_⟩⟩
  have hj : j < ds.size := by simpa using (List.getElem?_eq_some_iff.1 hk).1
  have hk' : ds[j]! = k := by
    rw [getElem!_pos ds j hj]
    simpa using (List.getElem?_eq_some_iff.1 hk).2
  have h0 := (h (j * 2) (by rw [size_flatK]; omega)).1
  have h1 := (h (j * 2 + 1) (by rw [size_flatK]; omega)).1
  rw [get_flatK _ _ _ _ (by omega)] at h0 h1
  rw [show j * 2 / 2 = j by omega, show j * 2 % 2 = 0 by omega, hk'] at h0
  rw [show (j * 2 + 1) / 2 = j by omega, show (j * 2 + 1) % 2 = 1 by omega, hk'] at h1
  rw [Nat.zero_add] at h0 h1
  rw [Nat.zero_add]
  exact ⟨h0, h1⟩
theorem tkeys_any {w : World} {b0 tb mb rb : Nat} {cs : List Column} {os : List One} (h : Both w b0 tb mb rb cs os) :
    Calls Try.prog 25 #[.pointer (some ⟨tb, 0, none⟩)] w fun e w' => ∃ v, e = .returned v ∧ SeesK w' v (os.map One.ky) ∧ RowKit.Below w.heap.size w w' := by
  refine (whole_keys h.1).mono ?_
  rintro e w' ⟨g, cap, ds, rfl, hsz, hp, hs, hH, _, hb⟩
  have hks : ds.toList = os.map One.ky := h.2.2.1.keys hp (by
    rw [List.pairwise_iff_getElem]
    intro i j hi hj hij
    have := hs i j (Nat.zero_le _) hij (by simpa using hj)
    rw [getElem!_pos ds j (by simpa using hj), getElem!_pos ds i (by simpa using hi)] at this
    simpa using this)
  refine ⟨_, rfl, ?_, hb⟩
  have := seesK_holds (cap := cap) hH
  rw [hks] at this
  rw [← hsz, show ds.size = ds.toList.length by simp, hks]
  exact this
/-- The i-th key is a column's. -/
theorem Agree.nth {cs : List Column} {os : List One} (h : Agree cs os) (hap : apartK cs) {i : Nat} {k : Ky} (hk : (os.map One.ky)[i]? = some k) : ∃ c ∈ cs, k = (c.name, c.side) ∧ cs.find? (Column.at c.name c.side) = some c := by
  rw [List.getElem?_map] at hk
  obtain ⟨o, ho, rfl⟩ := Option.map_eq_some_iff.1 hk
  obtain ⟨c, hc, rfl⟩ := List.mem_map.1 (h.1.mem_iff.1 (List.mem_of_getElem? ho))
  refine ⟨c, hc, rfl, ?_⟩
  rcases col_cases cs c.name c.side with ⟨j, c', hj, e1, e2, hf⟩ | ⟨hno, _⟩
  · obtain ⟨i', hi'⟩ := List.getElem?_of_mem hc
    obtain rfl := hap i' j c c' hi' hj e1.symm e2.symm
    obtain rfl : c = c' := by simpa using hi'.symm.trans hj
    exact hf
  · exact absurd ⟨rfl, rfl⟩ (hno c hc)
end Go.Proofs.Ytbjoljokdjgbnab
/-
  Arguments as the laws take them: deeds.
-/
namespace Go.Proofs.Ytbjoljokdjgbnab
open Go.ChangeShapes Go.WideShapes Go.ChangeAt Go.RowKit Go.Deep
instance : Inhabited Deed := ⟨⟨0, ⟨#[]⟩, 0, 0, 0, 0, none, 0, 0, []⟩⟩
theorem open_words {H : Type} {enc : TypeId × Value → H} {W : World} {fuel : Nat} {c : Value} {x : DataW H × List MemPlace} (h : DataW.trod enc Try.prog W 0 (fun _ => true) true fuel 60 [c] = some x) : ∃ (a : Option Addr) (n cap : Nat) (zs : List Int), c = .slice a n cap ∧ n ≤ cap ∧ Sees W (.slice a n cap) zs := by
  rcases open_ints Try.underlying60 Try.underlying51 (by kernel_rfl) h with ⟨hcs, _⟩ | ⟨x, len, cap, zs, hcs, _, hl, hm, hz, _, hcell, hwz⟩
  · obtain rfl : c = .slice none 0 0 := by simpa using hcs
    exact ⟨none, 0, 0, [], rfl, Nat.le_refl _, none, 0, rfl, .inl rfl⟩
  · obtain rfl : c = .slice (some x) len cap := by simpa using hcs
    have hz' : zs.length = cap := by simpa using hz
    have htl : (zs.take len).length = len := by rw [List.length_take]; omega
    refine ⟨some x, len, cap, zs.take len, rfl, hl, some x, cap, by rw [htl], ?_⟩
    by_cases h0 : len = 0
    · left; rw [h0]; rfl
    right
    obtain ⟨b, off, spot⟩ := x
    have hc := hcell 0 (by omega)
    have hspot : spot = none := by simpa [Addr.add] using World.cell?_spot hc
    subst hspot
    refine ⟨b, off, rfl, fun j hj => ?_⟩
    rw [htl] at hj
    have := hcell j (by omega)
    rw [show (zs.take len).getD j 0 = zs.getD j 0 by simp [List.getD, hj]]
    rw [Addr.add_lit] at this
    exact this
theorem open_key {H : Type} {enc : TypeId × Value → H} {W : World} {fuel : Nat} {c0 c1 : Value} {x : DataW H × List MemPlace} (h : DataW.trod enc Try.prog W 0 (fun _ => true) true fuel 40 [c0, c1] = some x) : ∃ (s : ByteArray) (d : Int), c0 = .string s ∧ c1 = .int .u8 d ∧ s.size ≤ maxLen ∧ Wf8 d := by
  obtain ⟨xs, k, _, _, _, hxl, hf⟩ := DataW.trod_struct Try.underlying40 h
  have g0 := hf 0 { name := "Name", type := 9, offset := 0, embedded := false, tag := "", pkgPath := "", byteOffset := 0 } rfl
  have g1 := hf 1 { name := "Side", type := 38, offset := 1, embedded := false, tag := "", pkgPath := "", byteOffset := 16 } rfl

  rw [show Try.prog.cellsOf 9 = 1 by kernel_rfl] at g0
  rw [show Try.prog.cellsOf 38 = 1 by kernel_rfl] at g1
  simp at g0 g1
  match xs, hxl with
  | [y0, y1], _ =>
    obtain ⟨s, hs, _, hsz⟩ := DataW.trod_string Try.underlying9 g0
    obtain ⟨d, hd, _, hw⟩ := DataW.trod_int Try.underlying38 g1
    exact ⟨s, d, by simpa using hs, by simpa using hd, hsz, hw⟩
theorem len6 {α : Type} : ∀ {l : List α}, l.length = 6 → ∃ a b c d e f, l = [a, b, c, d, e, f]
  | [a, b, c, d, e, f], _ => ⟨a, b, c, d, e, f, rfl⟩
theorem len7 {α : Type} : ∀ {l : List α}, l.length = 7 → ∃ a b c d e f g, l = [a, b, c, d, e, f, g]
  | [a, b, c, d, e, f, g], _ => ⟨a, b, c, d, e, f, g, rfl⟩
theorem open_deed {H : Type} {enc : TypeId × Value → H} {W : World} {fuel : Nat} {cs : List Value} {x : DataW H × List MemPlace} (hl : cs.length = 7) (h : DataW.trod enc Try.prog W 0 (fun _ => true) true fuel 89 cs = some x) :
    ∃ y : Deed, cs = [.int .i64 y.k, .string y.s, .int .u8 y.d, .int .u8 y.q, .int .i64 y.i, .int .i64 y.x, .slice y.a y.n y.cap] ∧ y.ok W.heap.size W := by
  obtain ⟨xs, k, _, _, _, hxl, hf⟩ := DataW.trod_struct Try.underlying89 h
  have g0 := hf 0 { name := "Kind", type := 3, offset := 0, embedded := false, tag := "", pkgPath := "", byteOffset := 0 } rfl
  have g1 := hf 1 { name := "Key", type := 40, offset := 1, embedded := false, tag := "", pkgPath := "", byteOffset := 8 } rfl
  have g2 := hf 2 { name := "Of", type := 63, offset := 3, embedded := false, tag := "", pkgPath := "", byteOffset := 32 } rfl
  have g3 := hf 3 { name := "I", type := 3, offset := 4, embedded := false, tag := "", pkgPath := "", byteOffset := 40 } rfl
  have g4 := hf 4 { name := "W", type := 51, offset := 5, embedded := false, tag := "", pkgPath := "", byteOffset := 48 } rfl
  have g5 := hf 5 { name := "L", type := 60, offset := 6, embedded := false, tag := "", pkgPath := "", byteOffset := 56 } rfl

  rw [show Try.prog.cellsOf 3 = 1 by kernel_rfl] at g0 g3
  rw [show Try.prog.cellsOf 40 = 2 by kernel_rfl] at g1
  rw [show Try.prog.cellsOf 63 = 1 by kernel_rfl] at g2
  rw [show Try.prog.cellsOf 51 = 1 by kernel_rfl] at g4
  rw [show Try.prog.cellsOf 60 = 1 by kernel_rfl] at g5
  obtain ⟨y0, y1, y2, y3, y4, y5, rfl⟩ := len6 (show xs.length = 6 from hxl)
  obtain ⟨c0, c1, c2, c3, c4, c5, c6, rfl⟩ := len7 hl
  simp at g0 g1 g2 g3 g4 g5
  obtain ⟨kk, h0, _, _⟩ := DataW.trod_int Try.underlying3 g0
  obtain ⟨s, d, rfl, rfl, hs, hd⟩ := open_key g1
  obtain ⟨q, h2, _, hq⟩ := DataW.trod_int Try.underlying63 g2
  obtain ⟨i, h3, _, _⟩ := DataW.trod_int Try.underlying3 g3
  obtain ⟨xx, h4, _, _⟩ := DataW.trod_int Try.underlying51 g4
  obtain ⟨a, n, cap, zs, rfl, hc, hz⟩ := open_words g5
  simp at h0 h2 h3 h4
  subst h0 h2 h3 h4
  exact ⟨⟨kk, s, d, q, i, xx, a, n, cap, zs⟩, rfl, hs, hd, wf8_pos hq, hc, fun u hu => hz.below hu (Nat.le_refl _)⟩
set_option maxRecDepth 100000 in
theorem open_deeds {H : Type} {enc : TypeId × Value → H} {W : World} {base : Nat} {v : Value} {d : DataW H} {p : List MemPlace} (hv : Value.okWide Try.prog W .any base 37 v)
    (h1 : DataW.Trod enc Try.prog W 0 (fun _ => true) true 37 v d p) : ∃ xs : List Deed, SeesD W v xs ∧ ∀ x ∈ xs, x.ok W.heap.size W := by
  obtain ⟨ad, len, cap, rfl⟩ := okWide_slice Try.underlying37 hv
  obtain ⟨fuel, hf⟩ := h1
  rcases open_slice Try.underlying37 hf with ⟨hcs, _⟩ | ⟨x, l, c, m, n, D, Pl, hcs, _, hl, hm, hmm, _, hx⟩
  · simp [Value.cells] at hcs
    obtain ⟨rfl, rfl, rfl⟩ := hcs
    exact ⟨[], ⟨none, 0, rfl, .inl rfl⟩, by simp⟩
  · simp [Value.cells] at hcs
    obtain ⟨rfl, rfl, rfl⟩ := hcs
    have hmc : m = cap := by simpa using hmm
    subst hmc
    have c7 : Try.prog.cellsOf 89 = 7 := by kernel_rfl
    rw [c7] at hx
    have each : ∀ i, i < m → ∃ y : Deed, (W.cell? (x.add (i * 7)) = some (.int .i64 y.k) ∧ W.cell? (x.add (i * 7 + 1)) = some (.string y.s) ∧ W.cell? (x.add (i * 7 + 2)) = some (.int .u8 y.d) ∧ W.cell? (x.add (i * 7 + 3)) = some (.int .u8 y.q) ∧ W.cell? (x.add (i * 7 + 4)) = some (.int .i64 y.i) ∧ W.cell? (x.add (i * 7 + 5)) = some (.int .i64 y.x) ∧ W.cell? (x.add (i * 7 + 6)) = some (.slice y.a y.n y.cap)) ∧ y.ok W.heap.size W := by
      intro i hi
      obtain ⟨cs', h1, h2⟩ := hx i hi
      obtain ⟨_, hlen, hcell⟩ := World.cells?_some h1
      obtain ⟨y, rfl, hok⟩ := open_deed hlen h2
      have e := fun j hj => hcell j hj
      simp only [add_add] at e
      exact ⟨y, ⟨e 0 (by omega), e 1 (by omega), e 2 (by omega), e 3 (by omega), e 4 (by omega), e 5 (by omega), e 6 (by omega)⟩, hok⟩
    obtain ⟨f, hf'⟩ := choose_lt each
    refine ⟨(List.range len).map f, ⟨some x, m, by simp, ?_⟩, fun y hy => ?_⟩
    · by_cases h0 : len = 0
      · left; rw [h0]; rfl
      right
      obtain ⟨b, off, spot⟩ := x
      have hc := (hf' 0 (by omega)).1.1
      have hspot : spot = none := by simpa [Addr.add] using World.cell?_spot hc
      subst hspot
      refine ⟨b, off, rfl, fun j y hy => ?_⟩
      have hj : j < len := by have := (List.getElem?_eq_some_iff.1 hy).1; simpa using this
      have hfj : y = f j := by rw [List.getElem?_map] at hy; simp [hj] at hy; exact hy.symm
      have e := (hf' j (by omega)).1
      simp only [Addr.add_lit, ← Nat.add_assoc] at e
      rw [hfj]
      exact e
    · obtain ⟨j, hj, rfl⟩ := List.mem_map.1 hy
      exact (hf' j (by have := List.mem_range.1 hj; omega)).2
end Go.Proofs.Ytbjoljokdjgbnab
