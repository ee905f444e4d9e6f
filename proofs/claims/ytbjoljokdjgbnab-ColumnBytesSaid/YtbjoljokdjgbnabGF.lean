/-
  Texts BookX BookLoad Agree BookSet BookFill BookLoads BookDecl Zed CutO Reg BookDecl2, one behind the other.
-/
import Derived.Test.YtbjoljokdjgbnabGE
import Derived.Test.YtbjoljokdjgbnabProg
import Derived.OrdersHeld
import Derived.Deep.RegionHeld3
import Derived.Test.YtbjoljokdjgbnabGA
import Derived.Lib.QuietBelow
import Derived.BigQuiet
/-
  The document's table with what it stands on: its columns as cells, and blocks that it keeps away from.
-/
namespace Go.Proofs.Ytbjoljokdjgbnab
open Go.RowKit Go.Deep Go.MapKept
def oneCells (p : One × Value) : List Value := [.string p.1.name, .int .u8 p.1.side, .int .u8 p.1.kind, p.2]
def flatO : List (One × Value) → List Value
  | [] => []
  | p :: r => oneCells p ++ flatO r
theorem flatO_length : ∀ ps : List (One × Value), (flatO ps).length = ps.length * 4
  | [] => rfl
  | p :: r => by simp only [flatO, List.length_append, flatO_length r, List.length_cons, oneCells, List.length_nil]; omega
theorem flatO_get : ∀ (ps : List (One × Value)) (j : Nat) (p : One × Value), ps[j]? = some p → ∀ k, k < 4 → (flatO ps)[j * 4 + k]? = (oneCells p)[k]?
  | [], _, _, h, _, _ => by simp at h
  | q :: r, 0, p, h, k, hk => by
    obtain rfl : q = p := by simpa using h
    rw [flatO, List.getElem?_append_left (by simp [oneCells]; omega)]
    simp
  | q :: r, j + 1, p, h, k, hk => by
    rw [flatO, List.getElem?_append_right (by simp [oneCells]; omega), ← flatO_get r j p (by simpa using h) k hk]
    congr 1
    simp [oneCells]; omega
theorem flatO_append : ∀ ps qs : List (One × Value), flatO (ps ++ qs) = flatO ps ++ flatO qs
  | [], _ => rfl
  | p :: r, qs => by simp only [List.cons_append, flatO, flatO_append r qs, List.append_assoc]
theorem flatO_take : ∀ (ps : List (One × Value)) (i : Nat), (flatO ps).take (i * 4) = flatO (ps.take i)
  | [], i => by simp [flatO]
  | p :: r, 0 => by simp [flatO]
  | p :: r, i + 1 => by
    rw [List.take_succ_cons, flatO, flatO, ← flatO_take r i, show (i + 1) * 4 = (oneCells p).length + i * 4 by simp [oneCells]; omega, List.take_length_add_append]
theorem flatO_drop : ∀ (ps : List (One × Value)) (i : Nat), (flatO ps).drop (i * 4) = flatO (ps.drop i)
  | [], i => by simp [flatO]
  | p :: r, 0 => by simp [flatO]
  | p :: r, i + 1 => by
    rw [List.drop_succ_cons, flatO, ← flatO_drop r i, show (i + 1) * 4 = (oneCells p).length + i * 4 by simp [oneCells]; omega, List.drop_length_add_append]
theorem flatO_set : ∀ (ps : List (One × Value)) (i : Nat) (o : One) (v u : Value) (zs : List Int), ps[i]? = some (o, v) → flatO (ps.set i ({ o with vals := zs }, u)) = (flatO ps).set (i * 4 + 3) u
  | [], _, _, _, _, _, h => by simp at h
  | q :: r, 0, o, v, u, zs, h => by
    obtain rfl : q = (o, v) := by simpa using h
    simp [flatO, oneCells]
  | q :: r, i + 1, o, v, u, zs, h => by
    rw [List.set_cons_succ, flatO, flatO, flatO_set r i o v u zs (by simpa using h), List.set_append_right _ _ (by simp [oneCells]; omega)]
    congr 2
    simp [oneCells]; omega
theorem flatO_mem {ps : List (One × Value)} {u : Value} (h : u ∈ flatO ps) (hs : ∀ p ∈ ps, p.2.oneCell' = true) : u.oneCell' = true := by
  induction ps with
  | nil => simp [flatO] at h
  | cons p r ih =>
    rw [flatO, List.mem_append] at h
    rcases h with h | h
    · simp only [oneCells, List.mem_cons, List.not_mem_nil, or_false] at h
      rcases h with rfl | rfl | rfl | rfl
      · rfl
      · rfl
      · rfl
      · exact hs p (by simp)
    · exact ih h fun p hp => hs p (by simp [hp])
/-- A row of columns, as cells. -/
def SeesR (w : World) (v : Value) (n : Nat) (xs : List Value) : Prop :=
  ∃ (a : Option Addr) (cap : Nat), v = .slice a n cap ∧ n ≤ cap ∧ (n = 0 ∨ ∃ b off, a = some ⟨b, off, none⟩ ∧ ∀ (j : Nat) (u : Value), xs[j]? = some u → w.cell? ⟨b, off + j, none⟩ = some u)
theorem SeesR.grown {w w' : World} {v : Value} {n : Nat} {xs : List Value} {row : Option Nat} (h : SeesR w v n xs) (hg : w.grownBy w' row) (hne : v.ownBlock = none ∨ v.ownBlock ≠ row) : SeesR w' v n xs := by
  obtain ⟨a, cap, rfl, hc, h⟩ := h
  refine ⟨a, cap, rfl, hc, h.imp_right ?_⟩
  rintro ⟨b, off, rfl, hl⟩
  exact ⟨b, off, rfl, fun j u hu => hg.cell (hl j u hu) (by simpa [Value.ownBlock] using hne)⟩
theorem Sees.grown {w w' : World} {v : Value} {zs : List Int} {row : Option Nat} (h : Sees w v zs) (hg : w.grownBy w' row) (hne : v.ownBlock = none ∨ v.ownBlock ≠ row) : Sees w' v zs := by
  obtain ⟨a, cap, rfl, h⟩ := h
  refine ⟨a, cap, rfl, h.imp_right ?_⟩
  rintro ⟨b, off, rfl, hl⟩
  exact ⟨b, off, rfl, fun j hj => hg.cell (hl j hj) (by simpa [Value.ownBlock] using hne)⟩
/-- A slice that lies in no block of N, and not in rb. -/
def Free (w : World) (N : Nat → Prop) (rb : Nat) (v : Value) : Prop := ∀ b, v.ownBlock = some b → ¬ N b ∧ b ≠ rb ∧ b < w.heap.size
theorem Free.ne {w : World} {N : Nat → Prop} {rb : Nat} {v : Value} (h : Free w N rb v) : v.ownBlock = none ∨ v.ownBlock ≠ some rb := by
  cases hv : v.ownBlock with
  | none => exact .inl rfl
  | some b => exact .inr fun e => (h b hv).2.1 (by simpa using e)
theorem Free.off {w : World} {N : Nat → Prop} {rb : Nat} {v : Value} (h : Free w N rb v) {row : Option Nat} (hrow : ∀ b, row = some b → N b) : v.ownBlock = none ∨ v.ownBlock ≠ row := by
  cases hv : v.ownBlock with
  | none => exact .inl rfl
  | some c => exact .inr fun e => (h c hv).1 (hrow c e.symm)
theorem Free.more {w w' : World} {N N' : Nat → Prop} {rb : Nat} {v : Value} (h : Free w N rb v) (hs : w.heap.size ≤ w'.heap.size) (hNN : ∀ k, N' k → N k ∨ w.heap.size ≤ k) : Free w' N' rb v := fun b hb => by
  obtain ⟨h1, h2, h3⟩ := h b hb
  refine ⟨fun hk => ?_, h2, Nat.lt_of_lt_of_le h3 hs⟩
  rcases hNN b hk with hk | hk
  · exact h1 hk
  · omega
theorem Free.made {w w' : World} {N : Nat → Prop} {rb : Nat} {v : Value} (hv : ∀ b, v.ownBlock = some b → w.heap.size ≤ b ∧ b < w'.heap.size) (hN : ∀ k, N k → k < w.heap.size) (hr : rb < w.heap.size) : Free w' N rb v := fun b hb => by
  obtain ⟨h1, h2⟩ := hv b hb
  refine ⟨fun hk => ?_, by omega, h2⟩
  have := hN b hk; omega
/-- The document's table at rb, away from the blocks of N. -/
def Book (w : World) (N : Nat → Prop) (rb : Nat) (n m : Int) (os : List One) : Prop :=
  (∀ k, N k → k < w.heap.size) ∧ ¬ N rb ∧ w.cell? ⟨rb, 0, none⟩ = some (.int .i64 n) ∧ w.cell? ⟨rb, 1, none⟩ = some (.int .i64 m) ∧ w.frozen? ⟨rb, 2, none⟩ = false ∧
    ∃ (v : Value) (ps : List (One × Value)), w.cell? ⟨rb, 2, none⟩ = some v ∧ ps.map Prod.fst = os ∧ SeesR w v ps.length (flatO ps) ∧ Free w N rb v ∧ ∀ p ∈ ps, Sees w p.2 p.1.vals ∧ Free w N rb p.2
theorem Book.rb {w : World} {N : Nat → Prop} {rb : Nat} {n m : Int} {os : List One} (h : Book w N rb n m os) : rb < w.heap.size := World.block_lt_of_cell? w ⟨rb, 0, none⟩ h.2.2.1
theorem Book.of {w : World} {N : Nat → Prop} {rb : Nat} {n m : Int} {os : List One} (h : Book w N rb n m os) : BookOf w rb n m os := by
  obtain ⟨_, _, h0, h1, _, v, ps, h2, rfl, ⟨a, cap, rfl, hcap, h3⟩, _, h4⟩ := h
  refine ⟨h0, h1, _, h2, a, cap, by simp, ?_⟩
  rcases h3 with h3 | ⟨b, off, rfl, h3⟩
  · exact .inl (by simpa using h3)
  · refine .inr ⟨b, off, rfl, fun j o ho => ?_⟩
    rw [List.getElem?_map] at ho
    obtain ⟨p, hp, rfl⟩ := Option.map_eq_some_iff.1 ho
    have g := fun k hk => flatO_get ps j p hp k hk
    have q0 := h3 _ _ ((g 0 (by omega)).trans rfl)
    have q1 := h3 _ _ ((g 1 (by omega)).trans rfl)
    have q2 := h3 _ _ ((g 2 (by omega)).trans rfl)
    have q3 := h3 _ _ ((g 3 (by omega)).trans rfl)
    simp only [Nat.add_zero, ← Nat.add_assoc] at q0 q1 q2 q3
    exact ⟨q0, q1, q2, _, q3, (h4 p (List.mem_of_getElem? hp)).1⟩
/-- A block that the table keeps away from is changed; new blocks to keep away from. -/
theorem Book.grown {w w' : World} {N N' : Nat → Prop} {rb : Nat} {n m : Int} {os : List One} (h : Book w N rb n m os) {row : Option Nat} (hg : w.grownBy w' row) (hrow : ∀ b, row = some b → N b) (hN' : ∀ k, N' k → k < w'.heap.size) (hNN : ∀ k, N' k → N k ∨ w.heap.size ≤ k) : Book w' N' rb n m os := by
  have hrb := h.rb
  obtain ⟨hN, hr, h0, h1, hf, v, ps, h2, h3, h4, h5, h6⟩ := h
  have hne : some rb ≠ row := fun e => hr (hrow rb e.symm)
  refine ⟨hN', fun hk => ?_, hg.cell h0 hne, hg.cell h1 hne, ?_, v, ps, hg.cell h2 hne, h3, h4.grown hg (h5.off hrow), h5.more hg.size hNN, fun p hp => ⟨(h6 p hp).1.grown hg ((h6 p hp).2.off hrow), (h6 p hp).2.more hg.size hNN⟩⟩
  · rcases hNN rb hk with hk | hk
    · exact hr hk
    · omega
  · rw [← hf]; exact World.frozen?_of_block (hg.block rb hrb hne)
theorem below_grown {w w' : World} {B : Nat} (hb : Below B w w') (hB : w.heap.size ≤ B) (row : Option Nat) : w.grownBy w' row := ⟨hb.os, hb.tape, hb.output, hb.size, fun k hk _ => hb.block k (Nat.lt_of_lt_of_le hk hB)⟩
theorem Book.below {w w' : World} {N : Nat → Prop} {rb : Nat} {n m : Int} {os : List One} {B : Nat} (h : Book w N rb n m os) (hb : Below B w w') (hB : w.heap.size ≤ B) : Book w' N rb n m os :=
  h.grown (below_grown hb hB none) (by simp) (fun k hk => Nat.lt_of_lt_of_le (h.1 k hk) hb.size) fun k hk => .inl hk
end Go.Proofs.Ytbjoljokdjgbnab
/-
  The document's load: a column with other values.
-/
namespace Go.Proofs.Ytbjoljokdjgbnab
open Go.RowKit Go.Deep Go.MapKept
theorem Try.info102 : (Try.prog.info? 102).map (fun i => (i.zero, i.size, i.bytes)) = some (some (.agg #[.string ⟨#[]⟩, .int .u8 0, .int .u8 0, .slice none 0 0]), 4, 56) := by kernel_rfl
/-- Columns appended to a row of one's own. -/
theorem run_append_ones (W : World) (ty base : Nat) (v : Value) (n : Nat) (xs : List Value) (u : Value) (ps : List (One × Value)) (ho : W.ownsRow base 102 4 v n xs) (hu : SeesR W u ps.length (flatO ps)) (h1 : ∀ p ∈ ps, p.2.oneCell' = true) (hn : n + ps.length ≤ 100000) (hb : base ≤ W.heap.size) :
    ∃ v' w', (Builtin.append_ #[98, 98] ty #[v, u]).run Try.prog W = .ok v' w' ∧ w'.ownsRow base 102 4 v' (n + ps.length) (xs ++ flatO ps) ∧ W.grownBy w' v.ownBlock ∧ (v'.ownBlock = v.ownBlock ∨ v'.ownBlock = some W.heap.size) := by
  obtain ⟨i0, hi, hz0, hz1, hz2⟩ := info_parts Try.info102
  obtain ⟨a, cap, rfl, hcap, hs⟩ := hu
  by_cases h0 : ps.length = 0
  · obtain rfl : ps = [] := List.eq_nil_of_length_eq_zero h0
    refine ⟨v, W, ?_, by simpa [flatO] using ho, World.grownBy.refl _ _, .inl rfl⟩
    rcases ho.2 with ⟨rfl, rfl⟩ | ⟨g, cap', cur, rfl, _, _, hle, _⟩
    · cases a <;> simp [Builtin.append_, run_underlying Try.underlying98, sizeOf, typeInfo, hi, loadCells, loadCellsFrom, Builtin.lenOf, Builtin.firstCells]
    · cases a <;> simp [Builtin.append_, run_underlying Try.underlying98, sizeOf, typeInfo, hi, hle, storeCells, loadCells, loadCellsFrom, Builtin.lenOf, Builtin.firstCells]
  · rcases hs with hs | ⟨b, off, rfl, hc⟩
    · exact absurd hs h0
    obtain ⟨v', w', hr, h2, h3, _, h5⟩ := run_append_own_at (P := Try.prog) W base 98 ty 102 i0 _ 4 56 Try.underlying98 hi hz0 hz1 hz2 rfl (by decide) v n xs ho ⟨b, off, none⟩ ps.length cap (flatO ps) (flatO_length ps)
      (fun j u hj => by rw [Addr.add_lit]; exact hc j u hj)
      (fun u hu => flatO_mem hu h1) (by unfold maxLen; omega) (by omega) hb
    exact ⟨v', w', hr, h2, h3, h5⟩
theorem wpList_append_ones {ops : Array Oper} {rest : List Oper} {o : Oper} {a : Act} {Q : Exit → Act → World → Prop} {W : World} (hgd : o.guard = none) (s x : Operand)
    (ho : o.op = .call { callee := .builtin .append, args := #[s, x], argTypes := #[98, 98] }) (base : Nat) (v : Value) (n : Nat) (xs : List Value) (hs : a.eval s = v) (hown : W.ownsRow base 102 4 v n xs)
    (u : Value) (ps : List (One × Value)) (hx : a.eval x = u) (hu : SeesR W u ps.length (flatO ps)) (h1 : ∀ p ∈ ps, p.2.oneCell' = true) (hn : n + ps.length ≤ 100000) (hb : base ≤ W.heap.size)
    (h : ∀ v' w', w'.ownsRow base 102 4 v' (n + ps.length) (xs ++ flatO ps) → W.grownBy w' v.ownBlock → (v'.ownBlock = v.ownBlock ∨ v'.ownBlock = some W.heap.size) → wpList Try.prog ops Q rest (a.put o.dst v') w') :
    wpList Try.prog ops Q (o :: rest) a W := by
  refine wpList_plain hgd fun K hK => ?_
  obtain ⟨v', w', hr, h2, h3, h4⟩ := run_append_ones W o.type base v n xs u ps hown hu h1 hn hb
  unfold Oper.wp execOp
  simp only [ho, resolve, invoke, builtin, Sem.run_bind, Sem.run_pure, Result.andThen_ok, List.map_toArray, List.map_cons, List.map_nil, hs, hx, hr]
  exact hK _ _ (h v' w' h2 h3 h4)
theorem grown_setCell (w : World) (a : Addr) (u : Value) : w.grownBy (w.setCell a u) (some a.block) :=
  ⟨rfl, rfl, rfl, by simp [World.setCell], fun k _ hne => Below.heap_setCell _ _ _ _ (fun e => hne (by rw [e]))⟩
/-- Another row of columns is put into the table. -/
theorem Book.renew {w w2 : World} {N : Nat → Prop} {rb : Nat} {n m : Int} {os : List One} (h : Book w N rb n m os) (hb : Below w.heap.size w w2) {v' : Value} {ps' : List (One × Value)} (hs : SeesR w2 v' ps'.length (flatO ps')) (hf : Free w2 N rb v') (hp : ∀ p ∈ ps', Sees w2 p.2 p.1.vals ∧ Free w2 N rb p.2) :
    w.grownBy (w2.setCell ⟨rb, 2, none⟩ v') (some rb) ∧ Book (w2.setCell ⟨rb, 2, none⟩ v') N rb n m (ps'.map Prod.fst) := by
  have hrb := h.rb
  have h2 := h.below hb (Nat.le_refl _)
  obtain ⟨hN, hr, c0, c1, hz, v, ps, c2, _⟩ := h2
  have hg : w2.grownBy (w2.setCell ⟨rb, 2, none⟩ v') (some rb) := grown_setCell w2 ⟨rb, 2, none⟩ v'
  refine ⟨(below_grown hb (Nat.le_refl _) (some rb)).trans hg, fun k hk => Nat.lt_of_lt_of_le (hN k hk) hg.size, hr, ?_, ?_, ?_, v', ps', ?_, rfl, hs.grown hg hf.ne, hf.more hg.size fun k hk => .inl hk, fun p hm => ⟨(hp p hm).1.grown hg (hp p hm).2.ne, (hp p hm).2.more hg.size fun k hk => .inl hk⟩⟩
  · rw [World.cell?_setCell_other _ _ _ _ (by simp)]; exact c0
  · rw [World.cell?_setCell_other _ _ _ _ (by simp)]; exact c1
  · rw [World.frozen?_setCell]; exact hz
  · exact World.cell?_setCell_same _ _ _ c2
theorem seesR_of_owns {w : World} {base : Nat} {v : Value} {n : Nat} {xs : List Value} (h : w.ownsRow base 102 4 v n xs) : SeesR w v n xs ∧ ∀ b, v.ownBlock = some b → base ≤ b ∧ b < w.heap.size := by
  refine ⟨?_, h.lt⟩
  have hc := h
  rcases h.2 with ⟨rfl, rfl⟩ | ⟨g, cap, cur, rfl, _, _, hle, _⟩
  · exact ⟨none, 0, rfl, Nat.le_refl _, .inl rfl⟩
  · refine ⟨_, cap, rfl, hle, .inr ⟨g, 0, rfl, fun j u hu => ?_⟩⟩
    rw [Nat.zero_add, ← add_at]
    exact World.ownsRow.cells hc rfl j u hu
theorem sees_cell {w : World} {v : Value} {zs : List Int} (h : Sees w v zs) : v.oneCell' = true := by obtain ⟨a, cap, rfl, _⟩ := h; rfl
set_option maxRecDepth 100000 in
set_option maxHeartbeats 1000000 in
theorem rload_any (N : Nat → Prop) (rb : Nat) (n m : Int) (os : List One) (i : Nat) (o : One) (lv : Value) (zs : List Int) (w : World) (h : Book w N rb n m os) (hl : os.length ≤ 1000) (ho : os[i]? = some o) (hv : Sees w lv zs) (hf : Free w N rb lv) :
    Calls Try.prog 90 #[.pointer (some ⟨rb, 0, none⟩), .int .i64 i, lv] w fun e w' => e = .returned (.tuple #[]) ∧ w.grownBy w' (some rb) ∧ Book w' N rb n m (os.set i { o with vals := zs }) := by
  have H := hidI h
  obtain ⟨hN, hr, c0, c1, hz, v, ps, c2, rfl, hS, hF, hP⟩ := h
  rw [List.length_map] at hl
  rw [List.getElem?_map] at ho
  obtain ⟨⟨o', pv⟩, hp, ho'⟩ := Option.map_eq_some_iff.1 ho
  obtain rfl : o' = o := ho'
  have hWb : Below w.heap.size w (w.alloc (.cells #[] 102)) := (Below.refl _ w).alloc (Nat.le_refl _) _
  have HO := hidI (World.ownsRow_made (base := w.heap.size) (e := 102) (size := 4) w #[] 0 (Nat.le_refl _) (by unfold maxLen; omega) rfl)
  have HS := hidI (hS.grown (below_grown hWb (Nat.le_refl _) none) (Classical.em _))
  have H1 := hidI (fun p hp => sees_cell (hP p hp).1)
  have HP := hidI hP
  have hrb := H.out.rb
  have c2W := (hWb.cell (p := ⟨rb, 2, none⟩) hrb).trans c2
  have HN := hidI hN
  have HV := hidI hv
  have HF := hidI hf
  obtain ⟨la, lc, rfl, _⟩ := hv
  obtain ⟨va, vc, rfl, _⟩ := hS
  have u98 : ∀ w, Sem.run Try.prog (underlying 98) w = .ok (TypeDesc.slice 102) w := run_underlying Try.underlying98
  have hio := (List.getElem?_eq_some_iff.1 hp).1
  clear hN hf hP hF hz c0 c1 hr hWb c2 ho
  go_enter Try.func90, Try.ntmps90
  go_wp2_with (at_builtin; refine wpList_append_ones rfl _ _ rfl w.heap.size _ 0 [] rfl HO.out _ ps rfl HS.out H1.out (by omega) (by simp) ?_; intro v' w1 hown' hgrow' hat'; refine Hid.out ?_)
  refine hidI ?_
  rw [Nat.zero_add, List.nil_append] at hown'
  have hb1 : Below w.heap.size w w1 := ((Below.refl _ w).alloc (Nat.le_refl _) _).grown hgrow' (by simp) (fun k hk => (HO.out.lt k hk).1)
  have HB1 := hidI hb1
  have HOwn := hidI hown'
  obtain ⟨hlx, ⟨rfl, h0⟩ | ⟨g, cap, cur, rfl, hbg, hcur, hcap, hcm, hcs, htk⟩⟩ := hown'
  · omega
  have q2 := (hb1.cell (p := ⟨rb, 2, none⟩) hrb).trans (by
    have := c2W
    exact (((Below.refl _ w).alloc (Nat.le_refl _) (.cells #[] 102)).cell (p := ⟨rb, 2, none⟩) hrb).symm.trans this)
  have q2f := (hb1.frozen (p := ⟨rb, 2, none⟩) hrb).trans H.out.2.2.2.2.1
  have gcell := (flatO_get ps i _ hp 3 (by omega)).trans rfl
  have gc : w1.cell? ⟨g, i * 4 + 3, none⟩ = some pv := by rw [← add_at]; exact World.ownsRow.cells HOwn.out rfl _ _ gcell
  have gf : w1.frozen? ⟨g, i * 4 + 3, none⟩ = false := by
    simp [World.frozen?, hcur]
  have kio : (i : Int) < (ps.length : Int) := by omega
  have hne : rb ≠ g := by omega
  obtain ⟨L, hL⟩ : ∃ L, ps.length = L := ⟨_, rfl⟩
  rw [hL] at hio kio
  clear hb1 hgrow' hat' hlx hcur hcap hcm hcs htk c2W gcell
  go_wp2
  go_end0
  subst hL
  have HB2 : Below w.heap.size w (w1.setCell ⟨g, i * 4 + 3, none⟩ (.slice la zs.length lc)) := HB1.out.setCell hbg _
  have hsz := HB2.size
  have hset : (ps.map Prod.fst).set i { o' with vals := zs } = (ps.set i ({ o' with vals := zs }, .slice la zs.length lc)).map Prod.fst := by rw [List.map_set]
  rw [hset]
  have hgs := HOwn.out.lt g rfl
  have hN := HN.out
  refine ⟨rfl, H.out.renew HB2 (ps' := ps.set i ({ o' with vals := zs }, .slice la zs.length lc)) ?_ ?_ ?_⟩
  · obtain ⟨a2, cap2, he, hle, hs2⟩ := (seesR_of_owns HOwn.out).1
    refine ⟨_, cap, by simp, ?_, .inr ⟨g, 0, rfl, fun j u hu => ?_⟩⟩
    · simp only [Value.slice.injEq] at he; rw [List.length_set]; omega
    · rw [flatO_set ps i o' pv _ zs hp] at hu
      rw [Nat.zero_add]
      by_cases hj : i * 4 + 3 = j
      · subst hj
        rw [List.getElem?_set_self (by rw [flatO_length]; omega)] at hu
        obtain rfl := Option.some.inj hu
        exact World.cell?_setCell_same _ _ _ gc
      · rw [List.getElem?_set_ne hj] at hu
        rw [World.cell?_setCell_other _ _ _ _ (by first | (simp; done) | (simp; omega) | (simpa using hj) | (simpa using Ne.symm hj))]
        rw [← add_at]; exact World.ownsRow.cells HOwn.out rfl _ _ hu
  · refine Free.made (w := w) (fun b hb => ?_) hN hrb
    obtain rfl : g = b := by simpa [Value.ownBlock] using hb
    exact ⟨hbg, by simpa [World.setCell] using hgs.2⟩
  · intro p hp'
    obtain ⟨j, hj⟩ := List.getElem?_of_mem hp'
    have hg2 := below_grown HB2 (Nat.le_refl _) none
    by_cases hij : i = j
    · subst hij
      rw [List.getElem?_set_self (by omega)] at hj
      obtain rfl := Option.some.inj hj
      exact ⟨HV.out.grown hg2 (Classical.em _), HF.out.more hsz fun k hk => .inl hk⟩
    · rw [List.getElem?_set_ne hij] at hj
      have := HP.out p (List.mem_of_getElem? hj)
      exact ⟨this.1.grown hg2 (Classical.em _), this.2.more hsz fun k hk => .inl hk⟩
end Go.Proofs.Ytbjoljokdjgbnab
/-
  The table's columns and the document's: the same, the document's sorted by their keys.
-/
namespace Go.Proofs.Ytbjoljokdjgbnab
open Go.RowKit Go.Deep Go.MapKept
theorem bytes_inj {a b : ByteArray} (h : a.toList = b.toList) : a = b := by
  rw [ByteArray.toList_eq, ByteArray.toList_eq] at h
  exact ByteArray.ext (Array.toList_inj.1 h)
theorem lex_total : ∀ (x y : List UInt8), x < y ∨ x = y ∨ y < x
  | [], [] => .inr (.inl rfl)
  | [], _ :: _ => .inl (List.nil_lt_cons _ _)
  | _ :: _, [] => .inr (.inr (List.nil_lt_cons _ _))
  | a :: r, b :: s => by
    rcases Nat.lt_trichotomy a.toNat b.toNat with h | h | h
    · exact .inl (List.cons_lt_cons_iff.2 (.inl h))
    · obtain rfl : a = b := UInt8.toNat_inj.1 h
      rcases lex_total r s with h | h | h
      · exact .inl (List.cons_lt_cons_iff.2 (.inr ⟨rfl, h⟩))
      · exact .inr (.inl (by rw [h]))
      · exact .inr (.inr (List.cons_lt_cons_iff.2 (.inr ⟨rfl, h⟩)))
    · exact .inr (.inr (List.cons_lt_cons_iff.2 (.inl h)))
theorem lex_irrefl : ∀ (x : List UInt8), ¬ x < x
  | [] => List.not_lt_nil _
  | a :: r => fun h => by
    rcases List.cons_lt_cons_iff.1 h with h | h
    · exact UInt8.lt_irrefl a h
    · exact lex_irrefl r h.2
theorem lex_trans : ∀ (x y z : List UInt8), x < y → y < z → x < z
  | _, y, [], _, h => absurd h (List.not_lt_nil _)
  | x, [], _ :: _, h, _ => absurd h (List.not_lt_nil _)
  | [], _ :: _, c :: t, _, _ => List.nil_lt_cons _ _
  | a :: r, b :: s, c :: t, h1, h2 => by
    rcases List.cons_lt_cons_iff.1 h1 with h1 | ⟨rfl, g1⟩ <;> rcases List.cons_lt_cons_iff.1 h2 with h2 | ⟨rfl, g2⟩
    · exact List.cons_lt_cons_iff.2 (.inl (UInt8.lt_trans h1 h2))
    · exact List.cons_lt_cons_iff.2 (.inl h1)
    · exact List.cons_lt_cons_iff.2 (.inl h2)
    · exact List.cons_lt_cons_iff.2 (.inr ⟨rfl, lex_trans r s t g1 g2⟩)
theorem ltK_irrefl (x : Ky) : ltK x x = false := by simp [ltK, lex_irrefl]
theorem ltK_trans {x y z : Ky} (h1 : ltK x y = true) (h2 : ltK y z = true) : ltK x z = true := by
  simp only [ltK, Bool.or_eq_true, Bool.and_eq_true, decide_eq_true_eq] at *
  rcases h1 with h1 | ⟨h1, h1'⟩ <;> rcases h2 with h2 | ⟨h2, h2'⟩
  · exact .inl (by omega)
  · exact .inl (by omega)
  · exact .inl (by omega)
  · exact .inr ⟨by omega, lex_trans _ _ _ h1' h2'⟩
theorem ltK_total {x y : Ky} (h : ltK x y = false) (hne : x ≠ y) : ltK y x = true := by
  simp only [ltK, Bool.or_eq_true, Bool.and_eq_true, decide_eq_true_eq, Bool.or_eq_false_iff, Bool.and_eq_false_iff, decide_eq_false_iff_not] at *
  obtain ⟨h1, h2⟩ := h
  by_cases h3 : y.2 < x.2
  · exact .inl h3
  · have h4 : x.2 = y.2 := by omega
    refine .inr ⟨h4.symm, ?_⟩
    rcases lex_total x.1.toList y.1.toList with h | h | h
    · rcases h2 with h2 | h2
      · exact absurd h4 h2
      · exact absurd h h2
    · exact absurd (Prod.ext (bytes_inj h) h4) hne
    · exact h
def One.ky (o : One) : Ky := (o.name, o.side)
def Column.one (c : Column) : One := ⟨c.name, c.side, c.kind, c.vals⟩
def Sorted (os : List One) : Prop := os.Pairwise fun a b => ltK a.ky b.ky = true
/-- The document's columns are the table's, by their keys. -/
def Agree (cs : List Column) (os : List One) : Prop := os.Perm (cs.map Column.one) ∧ Sorted os
theorem Agree.length {cs : List Column} {os : List One} (h : Agree cs os) : os.length = cs.length := by simpa using h.1.length_eq
theorem Agree.find {cs : List Column} {os : List One} (h : Agree cs os) (hap : apartK cs) (s : ByteArray) (d : Int) : os.find? (One.at s d) = (cs.find? (Column.at s d)).map Column.one := by
  cases hc : cs.find? (Column.at s d) with
  | none =>
    refine List.find?_eq_none.2 fun o ho hat => ?_
    obtain ⟨c, hc1, rfl⟩ := List.mem_map.1 (h.1.mem_iff.1 ho)
    exact List.find?_eq_none.1 hc c hc1 hat
  | some c =>
    have hcm := List.mem_of_find?_eq_some hc
    have hat := List.find?_some hc
    cases ho : os.find? (One.at s d) with
    | none => exact absurd hat (List.find?_eq_none.1 ho c.one (h.1.mem_iff.2 (List.mem_map.2 ⟨c, hcm, rfl⟩)))
    | some o =>
      obtain ⟨c', hc1, rfl⟩ := List.mem_map.1 (h.1.mem_iff.1 (List.mem_of_find?_eq_some ho))
      have hat' := List.find?_some ho
      simp only [Column.at, Bool.and_eq_true, decide_eq_true_eq] at hat
      simp only [One.at, Column.one, Bool.and_eq_true] at hat'
      replace hat' := And.intro (of_decide_eq_true hat'.1) (of_decide_eq_true hat'.2)
      obtain ⟨i, hi⟩ := List.getElem?_of_mem hcm
      obtain ⟨j, hj⟩ := List.getElem?_of_mem hc1
      obtain rfl := hap i j c c' hi hj (hat.1.trans hat'.1.symm) (hat.2.trans hat'.2.symm)
      obtain rfl : c = c' := by simpa using hi.symm.trans hj
      rfl
/-- A column's values anew. -/
def upO (os : List One) (s : ByteArray) (d : Int) (f : List Int → List Int) : List One := os.map fun o => if o.at s d then { o with vals := f o.vals } else o
theorem Agree.up {cs : List Column} {os : List One} (h : Agree cs os) (s : ByteArray) (d : Int) (f : List Int → List Int) : Agree (cs.map fun c => if c.at s d then { c with vals := f c.vals } else c) (upO os s d f) := by
  refine ⟨?_, ?_⟩
  · have := h.1.map fun o => if o.at s d then { o with vals := f o.vals } else o
    rw [List.map_map] at this ⊢
    have he : ((fun o : One => if o.at s d then { o with vals := f o.vals } else o) ∘ Column.one) = (Column.one ∘ fun c => if c.at s d then { c with vals := f c.vals } else c) := by
      funext c
      simp only [Function.comp]
      have hq : One.at s d c.one = c.at s d := rfl
      rw [hq]
      cases c.at s d <;> rfl
    rw [he] at this
    exact this
  · unfold Sorted upO
    rw [List.pairwise_map]
    refine h.2.imp fun {a b} hab => ?_
    have : ∀ o : One, (if o.at s d then { o with vals := f o.vals } else o).ky = o.ky := fun o => by split <;> rfl
    rw [this, this]; exact hab
theorem Sorted.apart {os : List One} (h : Sorted os) {i j : Nat} {a b : One} (hi : os[i]? = some a) (hj : os[j]? = some b) (hk : a.ky = b.ky) : i = j := by
  rcases Nat.lt_trichotomy i j with hij | rfl | hij
  · obtain ⟨h1, rfl⟩ := List.getElem?_eq_some_iff.1 hi
    obtain ⟨h2, rfl⟩ := List.getElem?_eq_some_iff.1 hj
    have := List.pairwise_iff_getElem.1 h i j h1 h2 hij
    rw [hk, ltK_irrefl] at this
    exact absurd this (by decide)
  · rfl
  · obtain ⟨h1, rfl⟩ := List.getElem?_eq_some_iff.1 hi
    obtain ⟨h2, rfl⟩ := List.getElem?_eq_some_iff.1 hj
    have := List.pairwise_iff_getElem.1 h j i h2 h1 hij
    rw [hk, ltK_irrefl] at this
    exact absurd this (by decide)
theorem up_set {os : List One} (h : Sorted os) {i : Nat} {o : One} (ho : os[i]? = some o) (f : List Int → List Int) : os.set i { o with vals := f o.vals } = upO os o.name o.side f := by
  apply List.ext_getElem?
  intro j
  unfold upO
  rw [List.getElem?_map]
  by_cases hj : i = j
  · subst hj
    rw [List.getElem?_set_self (List.getElem?_eq_some_iff.1 ho).1, ho]
    simp [One.at]
  · rw [List.getElem?_set_ne hj]
    cases hx : os[j]? with
    | none => rfl
    | some x =>
      have hat : x.at o.name o.side = false := by
        cases hq : x.at o.name o.side with
        | false => rfl
        | true =>
          simp only [One.at, Bool.and_eq_true, decide_eq_true_eq] at hq
          exact absurd (h.apart ho hx (Prod.ext hq.1.symm hq.2.symm)) hj
      simp [hat]
/-- Where a key comes. -/
def insAt (k : Ky) : List One → Nat
  | [] => 0
  | o :: r => if ltK o.ky k then insAt k r + 1 else 0
theorem insAt_le (k : Ky) : ∀ os, insAt k os ≤ os.length
  | [] => Nat.le_refl _
  | o :: r => by unfold insAt; split <;> simp [insAt_le k r]
def insO (os : List One) (o : One) : List One := os.take (insAt o.ky os) ++ o :: os.drop (insAt o.ky os)
theorem insO_sorted (o : One) : ∀ (os : List One), Sorted os → (∀ x ∈ os, x.ky ≠ o.ky) → Sorted (insO os o)
  | [], _, _ => by simp [insO, insAt, Sorted]
  | x :: r, hs, hne => by
    have hs' := List.pairwise_cons.1 hs
    cases hx : ltK x.ky o.ky with
    | true =>
      have ih := insO_sorted o r hs'.2 fun y hy => hne y (List.mem_cons_of_mem _ hy)
      have he : insO (x :: r) o = x :: insO r o := by simp [insO, insAt, hx]
      rw [he]
      refine List.pairwise_cons.2 ⟨fun y hy => ?_, ih⟩
      simp only [insO, List.mem_append, List.mem_cons] at hy
      rcases hy with hy | rfl | hy
      · exact hs'.1 y (List.mem_of_mem_take hy)
      · exact hx
      · exact hs'.1 y (List.mem_of_mem_drop hy)
    | false =>
      have he : insO (x :: r) o = o :: x :: r := by simp [insO, insAt, hx]
      rw [he]
      have hox := ltK_total hx (hne x (by simp))
      refine List.pairwise_cons.2 ⟨fun y hy => ?_, hs⟩
      rcases List.mem_cons.1 hy with rfl | hy
      · exact hox
      · exact ltK_trans hox (hs'.1 y hy)
theorem Agree.ins {cs : List Column} {os : List One} (h : Agree cs os) (c : Column) (hne : ∀ x ∈ cs, ¬ (x.name = c.name ∧ x.side = c.side)) : Agree (cs ++ [c]) (insO os c.one) := by
  refine ⟨?_, insO_sorted _ _ h.2 fun x hx hk => ?_⟩
  · unfold insO
    refine List.perm_middle.trans ?_
    rw [List.take_append_drop, List.map_append]
    refine (List.Perm.cons _ h.1).trans ?_
    exact (List.perm_append_singleton _ _).symm
  · obtain ⟨c', hc', rfl⟩ := List.mem_map.1 (h.1.mem_iff.1 hx)
    simp only [One.ky, Column.one, Prod.mk.injEq] at hk
    exact hne c' hc' hk
/-- Keys told by a sorted row of a table's are the document's. -/
theorem Agree.keys {cs : List Column} {os : List One} (h : Agree cs os) {ks : List Ky} (hp : ks.Perm (cs.map fun c => (c.name, c.side))) (hs : ks.Pairwise fun a b => ltK b a = false) : ks = os.map One.ky := by
  have hp2 : ks.Perm (os.map One.ky) := by
    refine hp.trans ?_
    have := (h.1.map One.ky).symm
    rwa [List.map_map] at this
  have hs2 : (os.map One.ky).Pairwise fun a b => ltK a b = true := List.pairwise_map.2 h.2
  generalize os.map One.ky = ys at hp2 hs2
  clear hp h
  induction ys generalizing ks with
  | nil => exact List.Perm.eq_nil hp2
  | cons y r ih =>
    cases ks with
    | nil => exact absurd hp2.length_eq (by simp)
    | cons x t =>
      have hs2' := List.pairwise_cons.1 hs2
      have hs' := List.pairwise_cons.1 hs
      have hxy : x = y := by
        have hx : x ∈ y :: r := hp2.mem_iff.1 (by simp)
        have hy : y ∈ x :: t := hp2.mem_iff.2 (by simp)
        rcases List.mem_cons.1 hx with h | hx
        · exact h
        · rcases List.mem_cons.1 hy with h | hy
          · exact h.symm
          · have h1 := hs2'.1 x hx
            have h2 := hs'.1 y hy
            rw [h1] at h2
            exact absurd h2 (by decide)
      subst hxy
      rw [ih hs'.2 ((List.perm_cons _).1 hp2) hs2'.2]
end Go.Proofs.Ytbjoljokdjgbnab
/-
  Set of the document's table.
-/
namespace Go.Proofs.Ytbjoljokdjgbnab
open Go.RowKit Go.Deep Go.MapKept
def rfit (k x : Int) : Bool := decide (k = 1) || decide (x = 0) || decide (x = 1)
def rsetE (os : List One) (s : ByteArray) (d j x : Int) : Int := match os.find? (One.at s d) with | none => 5 | some o => if 0 ≤ j ∧ j < (o.vals.length : Int) then (if rfit o.kind x then 0 else 3) else 2
def RPost (w : World) (N : Nat → Prop) (rb : Nat) (n m : Int) (r : Int) (os' : List One) (e : Ending) (w' : World) : Prop :=
  e = .returned (.int .i64 r) ∧ (r ≠ 0 → Below w.heap.size w w') ∧ (r = 0 → w.grownBy w' (some rb) ∧ Book w' N rb n m os')
theorem RPost.bad {w w' : World} {N : Nat → Prop} {rb : Nat} {n m r : Int} {os' : List One} (hr : r ≠ 0) (h : Below w.heap.size w w') : RPost w N rb n m r os' (.returned (.int .i64 r)) w' := ⟨rfl, fun _ => h, fun h0 => absurd h0 hr⟩
theorem RPost.good {w w' : World} {N : Nat → Prop} {rb : Nat} {n m : Int} {os' : List One} (h1 : w.grownBy w' (some rb)) (h2 : Book w' N rb n m os') : RPost w N rb n m 0 os' (.returned (.int .i64 0)) w' := ⟨rfl, fun h => absurd rfl h, fun _ => ⟨h1, h2⟩⟩
set_option maxRecDepth 100000 in
set_option maxHeartbeats 1000000 in
theorem rset_any (N : Nat → Prop) (rb : Nat) (n m : Int) (os : List One) (s : ByteArray) (d j x : Int) (w : World) (h : Book w N rb n m os) (hl : os.length ≤ 1000) (hv : ∀ o ∈ os, o.vals.length ≤ 100000) (hso : Sorted os) :
    Calls Try.prog 71 #[.pointer (some ⟨rb, 0, none⟩), ke s d, .int .i64 j, .int .i64 x] w (RPost w N rb n m (rsetE os s d j x) (upO os s d fun vs => vs.set j.toNat x)) := by
  have C : Hid (∀ u, Below w.heap.size w u → Calls Try.prog 54 #[.pointer (some ⟨rb, 0, none⟩), ke s d] u fun e w' => e = .returned (.int .i64 (atE s d 0 os)) ∧ Below u.heap.size u w') := hidI fun u hu => rat_any rb n m os s d u (h.of.below hu (Nat.le_refl _)) hl
  have H := hidI h
  have hrb := h.rb
  clear h
  rcases at_cases os s d with ⟨i, o, ho, e1, e2, ha, hf⟩ | ⟨ha, hf⟩
  · rw [ha] at C
    have hR : rsetE os s d j x = if 0 ≤ j ∧ j < (o.vals.length : Int) then (if rfit o.kind x then 0 else 3) else 2 := by simp [rsetE, hf]
    have hvo := hv o (List.mem_of_getElem? ho)
    have CL : Hid (∀ (u : World) (lv : Value) (zs : List Int), Below w.heap.size w u → Sees u lv zs → Free u N rb lv → Calls Try.prog 90 #[.pointer (some ⟨rb, 0, none⟩), .int .i64 i, lv] u fun e w' => e = .returned (.tuple #[]) ∧ u.grownBy w' (some rb) ∧ Book w' N rb n m (os.set i { o with vals := zs })) := hidI fun u lv zs hu hs hfr => rload_any N rb n m os i o lv zs u (H.out.below hu (Nat.le_refl _)) hl ho hs hfr
    have HU : Hid (os.set i { o with vals := o.vals.set j.toNat x } = upO os s d fun vs => vs.set j.toNat x) := hidI (by
      have := up_set hso ho fun vs => vs.set j.toNat x
      rw [this, e1, e2])
    have D := hidI (rfit_any o.kind x)
    clear hv
    go_enter Try.func71, Try.ntmps71
    go_wp2_with (go_at_call 54; refine Calls.mono (C.out _ (by (repeat (first | exact Below.refl _ _ | assumption | refine Below.drew ?_ | refine Below.alloc ?_ (by first | omega | (simp; done) | (simp; omega)) _ | refine Below.setCell ?_ (by first | omega | (simp; done) | (simp; omega)) _)))) ?_; rintro e w1 ⟨rfl, hb1⟩; refine Hid.out ?_)
    refine hidI ?_
    have HB : Hid (Below w.heap.size w w1) := hidI (Below.trans (by (repeat (first | exact Below.refl _ _ | assumption | refine Below.drew ?_ | refine Below.alloc ?_ (by first | omega | (simp; done) | (simp; omega)) _ | refine Below.setCell ?_ (by first | omega | (simp; done) | (simp; omega)) _))) (hb1.mono (by simp)))
    clear hb1 C
    have HK := hidI (H.out.below HB.out (Nat.le_refl _))
    obtain ⟨hN1, _, _, _, _, v, ps, c2, hps, hS, _, hP⟩ := HK.out
    have HN1 := hidI hN1
    clear hN1
    subst hps
    rw [List.getElem?_map] at ho
    obtain ⟨⟨o', pv⟩, hp, ho'⟩ := Option.map_eq_some_iff.1 ho
    obtain rfl : o' = o := ho'
    rw [List.length_map] at hl
    have hio := (List.getElem?_eq_some_iff.1 hp).1
    obtain ⟨va, vc, rfl, hvc, hS⟩ := hS
    rcases hS with h0 | ⟨b, off, rfl, hS⟩
    · omega
    have x2 := hS _ _ ((flatO_get ps i _ hp 2 (by omega)).trans rfl)
    have x3 := hS _ _ ((flatO_get ps i _ hp 3 (by omega)).trans rfl)
    simp only [← Nat.add_assoc] at x2 x3
    have HV := hidI (hP _ (List.mem_of_getElem? hp)).1
    obtain ⟨a', cap', hpv, hL'⟩ := (hP _ (List.mem_of_getElem? hp)).1
    simp only at hpv
    subst hpv
    simp only at HV
    obtain ⟨k, hk⟩ : ∃ k, ps.length = k := ⟨_, rfl⟩
    rw [hk] at c2 hio hl
    have k3 : (i : Int) < (k : Int) := by omega
    have k4 : decide ((i : Int) < 0) = false := by simp
    obtain ⟨l, hll⟩ : ∃ l, o'.vals.length = l := ⟨_, rfl⟩
    have HLL := hidI hll
    rw [hll] at x3 hR HV
    clear hS hP hk hll
    by_cases j0 : j < 0
    · have k5 : decide (j < 0) = true := by simpa using j0
      rw [if_neg (by omega)] at hR
      go_wp2
      go_ret
      first | exact RPost.bad (by decide) HB.out | (rw [hR]; exact RPost.bad (by decide) HB.out)
    · have k5 : decide (j < 0) = false := by simpa using j0
      by_cases j1 : j < (l : Int)
      · have k6 : decide ((l : Int) ≤ j) = false := by simpa using j1
        rw [if_pos (by omega)] at hR
        obtain ⟨t, rfl⟩ : ∃ t : Nat, j = (t : Int) := ⟨j.toNat, by omega⟩
        cases hfx : rfit o'.kind x with
        | false =>
          rw [hfx] at hR
          rw [show (decide (o'.kind = 1) || decide (x = 0) || decide (x = 1)) = false from hfx] at D
          go_wp2_with (go_at_call 89; refine Calls.mono (D.out _) ?_; rintro e w2 ⟨rfl, rfl⟩)
          go_ret
          first | exact RPost.bad (by decide) HB.out | (rw [hR]; exact RPost.bad (by decide) HB.out)
        | true =>
          rw [hfx] at hR
          rw [show (decide (o'.kind = 1) || decide (x = 0) || decide (x = 1)) = true from hfx] at D
          have HV2 := hidI (HV.out.below ((Below.refl _ w1).alloc (Nat.le_refl _) (.cells #[] 51)) (Nat.le_refl _))
          have HO := hidI (World.ownsRow_made (base := w1.heap.size) (e := 51) (size := 1) w1 #[] 0 (Nat.le_refl _) (by unfold maxLen; omega) rfl)
          have hw1 := HB.out.size
          have kA : ∀ {p : Addr} {v : Value}, w1.cell? p = some v → (w1.alloc (.cells #[] 51)).cell? p = some v := fun {p v} hc => (((Below.refl _ w1).alloc (Nat.le_refl _) (.cells #[] 51)).cell (World.block_lt_of_cell? w1 _ hc)).trans hc
          have c2a := kA c2
          have x3a := kA x3
          clear kA
          have u36 : ∀ w, Sem.run Try.prog (underlying 60) w = .ok (TypeDesc.slice 51) w := run_underlying Try.underlying60
          have HL' := hidI hL'
          clear hL'
          go_wp2_with first | (go_at_call 89; refine Calls.mono (D.out _) ?_; rintro e w2 ⟨rfl, rfl⟩) | (at_builtin; refine wpList_append_words rfl _ _ rfl w1.heap.size _ 0 [] rfl HO.out _ o'.vals rfl HV2.out (by have := HLL.out; omega) (by simp) ?_; intro v' w2 hown' hgrow' hat'; refine Hid.out ?_)
          refine hidI ?_
          have hb2 : Below w1.heap.size w1 w2 := ((Below.refl _ w1).alloc (Nat.le_refl _) _).grown hgrow' (by simp) (fun k hk => (HO.out.lt k hk).1)
          rw [Nat.zero_add, List.nil_append, HLL.out] at hown'
          have HOwn := hidI hown'
          obtain ⟨hlx, ⟨rfl, h0⟩ | ⟨g, cap, cur, rfl, hbg, hcur, hcap, hcm, hcs, htk⟩⟩ := hown'
          · omega
          have htl : t < l := by omega
          have gc : w2.cell? ⟨g, t, none⟩ = some (.int .i64 (o'.vals.getD t 0)) := by
            rw [← add_at]; exact World.ownsRow.cells HOwn.out rfl _ _ (by have := HLL.out; simp [List.getD, show t < o'.vals.length by omega])
          have gf : w2.frozen? ⟨g, t, none⟩ = false := by simp [World.frozen?, hcur]
          have hgl := (HOwn.out.lt g rfl).2
          have HB3 : Hid (Below w.heap.size w (w2.setCell ⟨g, t, none⟩ (.int .i64 x))) := hidI ((HB.out.trans (hb2.mono hw1)).setCell (by simp only; omega) _)
          have HF3 : Hid (Free (w2.setCell ⟨g, t, none⟩ (.int .i64 x)) N rb (.slice (some ⟨g, 0, none⟩) l cap)) := hidI (Free.made (w := w1) (fun b hb => by
            obtain rfl : g = b := by simpa [Value.ownBlock] using hb
            exact ⟨hbg, by simpa [World.setCell] using hgl⟩) HN1.out (by omega))
          have HV3 : Hid (Sees (w2.setCell ⟨g, t, none⟩ (.int .i64 x)) (.slice (some ⟨g, 0, none⟩) l cap) (o'.vals.set t x)) := hidI (by
            have hll := HLL.out
            refine ⟨_, cap, by rw [List.length_set, hll], .inr ⟨g, 0, rfl, fun q hq => ?_⟩⟩
            rw [List.length_set, hll] at hq
            rw [Nat.zero_add]
            by_cases hqt : t = q
            · subst hqt
              rw [World.cell?_setCell_same _ _ _ gc]
              simp [List.getD, show t < o'.vals.length by omega]
            · rw [World.cell?_setCell_other _ _ _ _ (by first | (simp; done) | (simp; omega) | (simpa using hqt) | (simpa using Ne.symm hqt)), ← add_at]
              rw [show (o'.vals.set t x).getD q 0 = o'.vals.getD q 0 by simp only [List.getD, List.getElem?_set_ne hqt]]
              exact World.ownsRow.cells HOwn.out rfl _ _ (by simp [List.getD, show q < o'.vals.length by omega]))
          have k8 : (t : Int) < (l : Int) := by omega
          clear hlx hcur hcap hcm hcs htk hat' hgrow' hb2
          go_wp2_with (go_at_call 90; refine Calls.mono (CL.out _ _ _ HB3.out HV3.out HF3.out) ?_; rintro e w4 ⟨rfl, hg4, hbk⟩; refine Hid.out ?_)
          refine hidI ?_
          have HG := hidI hg4
          have HK4 := hidI hbk
          clear hg4 hbk
          go_wp2
          go_ret
          have hU := HU.out
          simp only [Int.toNat_natCast] at hU
          have hbk := HK4.out
          rw [hU] at hbk
          first
            | exact RPost.good ((below_grown HB3.out (Nat.le_refl _) _).trans HG.out) hbk
            | (rw [hR]; exact RPost.good ((below_grown HB3.out (Nat.le_refl _) _).trans HG.out) hbk)
      · have k6 : decide ((l : Int) ≤ j) = true := by simpa using j1
        rw [if_neg (by omega)] at hR
        go_wp2
        go_ret
        first | exact RPost.bad (by decide) HB.out | (rw [hR]; exact RPost.bad (by decide) HB.out)
  · rw [ha] at C
    rw [show rsetE os s d j x = 5 by simp [rsetE, hf]]
    go_enter Try.func71, Try.ntmps71
    go_wp2_with (go_at_call 54; refine Calls.mono (C.out _ (by (repeat (first | exact Below.refl _ _ | assumption | refine Below.drew ?_ | refine Below.alloc ?_ (by first | omega | (simp; done) | (simp; omega)) _ | refine Below.setCell ?_ (by first | omega | (simp; done) | (simp; omega)) _)))) ?_; rintro e w1 ⟨rfl, hb1⟩; refine Hid.out ?_)
    refine hidI ?_
    have HB : Hid (Below w.heap.size w w1) := hidI (Below.trans (by (repeat (first | exact Below.refl _ _ | assumption | refine Below.drew ?_ | refine Below.alloc ?_ (by first | omega | (simp; done) | (simp; omega)) _ | refine Below.setCell ?_ (by first | omega | (simp; done) | (simp; omega)) _))) (hb1.mono (by simp)))
    clear hb1 C
    go_wp2
    go_ret
    exact RPost.bad (by decide) HB.out
end Go.Proofs.Ytbjoljokdjgbnab
/-
  Fill of the document's table.
-/
namespace Go.Proofs.Ytbjoljokdjgbnab
open Go.RowKit Go.Deep Go.MapKept
def rfillE (os : List One) (s : ByteArray) (d x : Int) : Int := match os.find? (One.at s d) with | none => 5 | some o => if rfit o.kind x then 0 else 3
set_option maxRecDepth 100000 in
set_option maxHeartbeats 1000000 in
theorem rfill_any (N : Nat → Prop) (rb : Nat) (n m : Int) (os : List One) (s : ByteArray) (d x : Int) (w : World) (h : Book w N rb n m os) (hl : os.length ≤ 1000) (hv : ∀ o ∈ os, o.vals.length ≤ 100000) (hso : Sorted os) :
    Calls Try.prog 73 #[.pointer (some ⟨rb, 0, none⟩), ke s d, .int .i64 x] w (RPost w N rb n m (rfillE os s d x) (upO os s d fun vs => List.replicate vs.length x)) := by
  have C : Hid (∀ u, Below w.heap.size w u → Calls Try.prog 54 #[.pointer (some ⟨rb, 0, none⟩), ke s d] u fun e w' => e = .returned (.int .i64 (atE s d 0 os)) ∧ Below u.heap.size u w') := hidI fun u hu => rat_any rb n m os s d u (h.of.below hu (Nat.le_refl _)) hl
  have H := hidI h
  have hrb := h.rb
  clear h
  rcases at_cases os s d with ⟨i, o, ho, e1, e2, ha, hf⟩ | ⟨ha, hf⟩
  · rw [ha] at C
    have hR : rfillE os s d x = if rfit o.kind x then 0 else 3 := by simp [rfillE, hf]
    have hvo := hv o (List.mem_of_getElem? ho)
    have CL : Hid (∀ (u : World) (lv : Value) (zs : List Int), Below w.heap.size w u → Sees u lv zs → Free u N rb lv → Calls Try.prog 90 #[.pointer (some ⟨rb, 0, none⟩), .int .i64 i, lv] u fun e w' => e = .returned (.tuple #[]) ∧ u.grownBy w' (some rb) ∧ Book w' N rb n m (os.set i { o with vals := zs })) := hidI fun u lv zs hu hs hfr => rload_any N rb n m os i o lv zs u (H.out.below hu (Nat.le_refl _)) hl ho hs hfr
    have HU : Hid (os.set i { o with vals := List.replicate o.vals.length x } = upO os s d fun vs => List.replicate vs.length x) := hidI (by
      have := up_set hso ho fun vs => List.replicate vs.length x
      rw [this, e1, e2])
    have D := hidI (rfit_any o.kind x)
    clear hv
    go_enter Try.func73, Try.ntmps73
    go_wp2_with (go_at_call 54; refine Calls.mono (C.out _ (by (repeat (first | exact Below.refl _ _ | assumption | refine Below.drew ?_ | refine Below.alloc ?_ (by first | omega | (simp; done) | (simp; omega)) _ | refine Below.setCell ?_ (by first | omega | (simp; done) | (simp; omega)) _)))) ?_; rintro e w1 ⟨rfl, hb1⟩; refine Hid.out ?_)
    refine hidI ?_
    have HB : Hid (Below w.heap.size w w1) := hidI (Below.trans (by (repeat (first | exact Below.refl _ _ | assumption | refine Below.drew ?_ | refine Below.alloc ?_ (by first | omega | (simp; done) | (simp; omega)) _ | refine Below.setCell ?_ (by first | omega | (simp; done) | (simp; omega)) _))) (hb1.mono (by simp)))
    clear hb1 C
    have HK := hidI (H.out.below HB.out (Nat.le_refl _))
    obtain ⟨hN1, _, _, _, _, v, ps, c2, hps, hS, _, hP⟩ := HK.out
    have HN1 := hidI hN1
    clear hN1
    subst hps
    rw [List.getElem?_map] at ho
    obtain ⟨⟨o', pv⟩, hp, ho'⟩ := Option.map_eq_some_iff.1 ho
    obtain rfl : o' = o := ho'
    rw [List.length_map] at hl
    have hio := (List.getElem?_eq_some_iff.1 hp).1
    obtain ⟨va, vc, rfl, hvc, hS⟩ := hS
    rcases hS with h0 | ⟨b, off, rfl, hS⟩
    · omega
    have x2 := hS _ _ ((flatO_get ps i _ hp 2 (by omega)).trans rfl)
    have x3 := hS _ _ ((flatO_get ps i _ hp 3 (by omega)).trans rfl)
    simp only [← Nat.add_assoc] at x2 x3
    have HV := hidI (hP _ (List.mem_of_getElem? hp)).1
    obtain ⟨a', cap', hpv, hL'⟩ := (hP _ (List.mem_of_getElem? hp)).1
    simp only at hpv
    subst hpv
    simp only at HV
    obtain ⟨k, hk⟩ : ∃ k, ps.length = k := ⟨_, rfl⟩
    rw [hk] at c2 hio hl
    have k3 : (i : Int) < (k : Int) := by omega
    have k4 : decide ((i : Int) < 0) = false := by simp
    obtain ⟨l, hll⟩ : ∃ l, o'.vals.length = l := ⟨_, rfl⟩
    have HLL := hidI hll
    rw [hll] at x3 HV HU
    clear hS hP hk hll
    have HL' := hidI hL'
    clear hL'
    cases hfx : rfit o'.kind x with
    | false =>
      rw [hfx] at hR
      rw [show (decide (o'.kind = 1) || decide (x = 0) || decide (x = 1)) = false from hfx] at D
      go_wp2_with (go_at_call 89; refine Calls.mono (D.out _) ?_; rintro e w2 ⟨rfl, rfl⟩)
      go_ret
      first | exact RPost.bad (by decide) HB.out | (rw [hR]; exact RPost.bad (by decide) HB.out)
    | true =>
      rw [hfx] at hR
      rw [show (decide (o'.kind = 1) || decide (x = 0) || decide (x = 1)) = true from hfx] at D
      have hw1 := HB.out.size
      have u36 : ∀ w, Sem.run Try.prog (underlying 60) w = .ok (TypeDesc.slice 51) w := run_underlying Try.underlying60
      go_wp2_with (go_at_call 89; refine Calls.mono (D.out _) ?_; rintro e w2 ⟨rfl, rfl⟩)
      go_loopg [8, 9] l (fun g s8 s9 wx => ∃ (q : Nat) (v8 : Value), q + g = l ∧ v8 = s8 ∧ s9 = .int .i64 q ∧ Hid (Below w1.heap.size w1 wx) ∧ Hid (wx.ownsRow w1.heap.size 51 1 v8 q ((List.replicate q x).map (Value.int .i64))))
      case atStart => exact ⟨0, _, by omega, rfl, rfl, hidI (Below.refl _ _), hidI (World.ownsRow_nil _ _ _ _)⟩
      case round =>
        obtain ⟨q, v8, hqg, rfl, rfl, HX, HW⟩ := hrel
        have hl1 : l ≤ 100000 := by have := HLL.out; omega
        have kk : ∀ {p : Addr} {v : Value}, w1.cell? p = some v → wr.cell? p = some v := fun {p v} hc => (HX.out.cell (World.block_lt_of_cell? w1 _ hc)).trans hc
        have c2' := kk c2
        have x3' := kk x3
        have hwr := HX.out.size
        clear kk c2 x3 x2
        cases gk with
        | zero =>
          obtain rfl : l = q := by omega
          have HB3 : Hid (Below w.heap.size w wr) := hidI (HB.out.trans (HX.out.mono hw1))
          have HV3 : Hid (Sees wr v8 (List.replicate l x)) := hidI (sees_of_owns (base := w1.heap.size) (e := 51) (by simpa using HW.out))
          have HF3 : Hid (Free wr N rb v8) := hidI (Free.made (w := w1) (fun b hb => HW.out.lt b hb) HN1.out (by omega))
          go_wp2_with (go_at_call 90; refine Calls.mono (CL.out _ _ _ HB3.out HV3.out HF3.out) ?_; rintro e w4 ⟨rfl, hg4, hbk⟩; refine Hid.out ?_)
          refine hidI ?_
          have HG := hidI hg4
          have HK4 := hidI hbk
          clear hg4 hbk
          go_wp2
          go_ret
          have hbk := HK4.out
          rw [HU.out] at hbk
          first
            | exact RPost.good ((below_grown HB3.out (Nat.le_refl _) _).trans HG.out) hbk
            | (rw [hR]; exact RPost.good ((below_grown HB3.out (Nat.le_refl _) _).trans HG.out) hbk)
        | succ g =>
          have k8 : (q : Int) < (l : Int) := by omega
          have HV2 : Hid (Sees (wr.alloc (.cells #[.int .i64 x] 51)) (.slice (some ⟨wr.heap.size, 0, none⟩) 1 1) [x]) := hidI ⟨_, 1, rfl, .inr ⟨wr.heap.size, 0, rfl, fun j hj => by
            obtain rfl : j = 0 := by simpa using hj
            go_simp⟩⟩
          have HW2 := hidI (HW.out.alloc (.cells #[.int .i64 x] 51))
          go_wp2_with (at_builtin; go_must (refine wpList_append_words rfl _ _ rfl w1.heap.size _ q _ rfl HW2.out _ [x] rfl HV2.out (by simp; omega) (by simp; omega) ?_); intro v' w2 hown' hgrow' hat'; refine Hid.out ?_)
          refine hidI ?_
          have HX2 : Hid (Below w1.heap.size w1 w2) := hidI ((HX.out.alloc hwr _).grown hgrow' (by simp; omega) (fun k hk => (HW2.out.lt k hk).1))
          have HW3 := hidI hown'
          clear hown' hgrow' hat'
          go_wp2
          go_roundg g
          case measure => omega
          case rel => exact ⟨q + 1, _, by omega, rfl, by go_num, HX2, hidI (by have := HW3.out; rw [← List.map_append, ← List.replicate_succ'] at this; simpa using this)⟩
  · rw [ha] at C
    rw [show rfillE os s d x = 5 by simp [rfillE, hf]]
    go_enter Try.func73, Try.ntmps73
    go_wp2_with (go_at_call 54; refine Calls.mono (C.out _ (by (repeat (first | exact Below.refl _ _ | assumption | refine Below.drew ?_ | refine Below.alloc ?_ (by first | omega | (simp; done) | (simp; omega)) _ | refine Below.setCell ?_ (by first | omega | (simp; done) | (simp; omega)) _)))) ?_; rintro e w1 ⟨rfl, hb1⟩; refine Hid.out ?_)
    refine hidI ?_
    have HB : Hid (Below w.heap.size w w1) := hidI (Below.trans (by (repeat (first | exact Below.refl _ _ | assumption | refine Below.drew ?_ | refine Below.alloc ?_ (by first | omega | (simp; done) | (simp; omega)) _ | refine Below.setCell ?_ (by first | omega | (simp; done) | (simp; omega)) _))) (hb1.mono (by simp)))
    clear hb1 C
    go_wp2
    go_ret
    exact RPost.bad (by decide) HB.out
end Go.Proofs.Ytbjoljokdjgbnab
/-
  Load of the document's table.
-/
namespace Go.Proofs.Ytbjoljokdjgbnab
open Go.RowKit Go.Deep Go.MapKept
def rloadE (os : List One) (s : ByteArray) (d : Int) (zs : List Int) : Int := match os.find? (One.at s d) with | none => 5 | some o => if zs.length = o.vals.length then (if zs.all (rfit o.kind) then 0 else 3) else 2
theorem below_drewN {B : Nat} {a w : World} (h : Below B a w) : ∀ n, Below B a (w.drewN n) := fun n => by
  first
    | exact ⟨h.os, h.tape, h.output, h.size, h.block⟩
    | (induction n generalizing w with
      | zero => exact h
      | succ n ih => exact ih h.drew)
set_option maxRecDepth 100000 in
set_option maxHeartbeats 1000000 in
theorem rloads_any (N : Nat → Prop) (rb : Nat) (n m : Int) (os : List One) (s : ByteArray) (d : Int) (lv : Value) (zs : List Int) (w : World) (h : Book w N rb n m os) (hl : os.length ≤ 1000) (hv : ∀ o ∈ os, o.vals.length ≤ 100000) (hso : Sorted os) (hlv : Sees w lv zs) :
    Calls Try.prog 76 #[.pointer (some ⟨rb, 0, none⟩), ke s d, lv] w (RPost w N rb n m (rloadE os s d zs) (upO os s d fun _ => zs)) := by
  have C : Hid (∀ u, Below w.heap.size w u → Calls Try.prog 54 #[.pointer (some ⟨rb, 0, none⟩), ke s d] u fun e w' => e = .returned (.int .i64 (atE s d 0 os)) ∧ Below u.heap.size u w') := hidI fun u hu => rat_any rb n m os s d u (h.of.below hu (Nat.le_refl _)) hl
  have H := hidI h
  have hrb := h.rb
  clear h
  have HLV := hidI hlv
  obtain ⟨la, lc, rfl, hlc⟩ := hlv
  have HLC := hidI hlc
  clear hlc
  rcases at_cases os s d with ⟨i, o, ho, e1, e2, ha, hf⟩ | ⟨ha, hf⟩
  · rw [ha] at C
    have hR : rloadE os s d zs = if zs.length = o.vals.length then (if zs.all (rfit o.kind) then 0 else 3) else 2 := by simp [rloadE, hf]
    have hvo := hv o (List.mem_of_getElem? ho)
    have CL : Hid (∀ (u : World) (lv : Value) (zs : List Int), Below w.heap.size w u → Sees u lv zs → Free u N rb lv → Calls Try.prog 90 #[.pointer (some ⟨rb, 0, none⟩), .int .i64 i, lv] u fun e w' => e = .returned (.tuple #[]) ∧ u.grownBy w' (some rb) ∧ Book w' N rb n m (os.set i { o with vals := zs })) := hidI fun u lv zs hu hs hfr => rload_any N rb n m os i o lv zs u (H.out.below hu (Nat.le_refl _)) hl ho hs hfr
    have HU : Hid (os.set i { o with vals := zs } = upO os s d fun _ => zs) := hidI (by
      have := up_set hso ho fun _ => zs
      rw [this, e1, e2])
    have D := hidI (rfit_any o.kind)
    clear hv
    go_enter Try.func76, Try.ntmps76
    go_wp2_with (go_at_call 54; refine Calls.mono (C.out _ (by (repeat (first | exact Below.refl _ _ | assumption | refine Below.drew ?_ | refine Below.alloc ?_ (by first | omega | (simp; done) | (simp; omega)) _ | refine Below.setCell ?_ (by first | omega | (simp; done) | (simp; omega)) _)))) ?_; rintro e w1 ⟨rfl, hb1⟩; refine Hid.out ?_)
    refine hidI ?_
    have HB : Hid (Below w.heap.size w w1) := hidI (Below.trans (by (repeat (first | exact Below.refl _ _ | assumption | refine Below.drew ?_ | refine Below.alloc ?_ (by first | omega | (simp; done) | (simp; omega)) _ | refine Below.setCell ?_ (by first | omega | (simp; done) | (simp; omega)) _))) (hb1.mono (by simp)))
    clear hb1 C
    have HK := hidI (H.out.below HB.out (Nat.le_refl _))
    obtain ⟨hN1, _, _, _, _, v, ps, c2, hps, hS, _, hP⟩ := HK.out
    have HN1 := hidI hN1
    clear hN1
    subst hps
    rw [List.getElem?_map] at ho
    obtain ⟨⟨o', pv⟩, hp, ho'⟩ := Option.map_eq_some_iff.1 ho
    obtain rfl : o' = o := ho'
    rw [List.length_map] at hl
    have hio := (List.getElem?_eq_some_iff.1 hp).1
    obtain ⟨va, vc, rfl, hvc, hS⟩ := hS
    rcases hS with h0 | ⟨b, off, rfl, hS⟩
    · omega
    have x2 := hS _ _ ((flatO_get ps i _ hp 2 (by omega)).trans rfl)
    have x3 := hS _ _ ((flatO_get ps i _ hp 3 (by omega)).trans rfl)
    simp only [← Nat.add_assoc] at x2 x3
    have HV := hidI (hP _ (List.mem_of_getElem? hp)).1
    obtain ⟨a', cap', hpv, hL'⟩ := (hP _ (List.mem_of_getElem? hp)).1
    simp only at hpv
    subst hpv
    simp only at HV
    obtain ⟨k, hk⟩ : ∃ k, ps.length = k := ⟨_, rfl⟩
    rw [hk] at c2 hio hl
    have k3 : (i : Int) < (k : Int) := by omega
    have k4 : decide ((i : Int) < 0) = false := by simp
    obtain ⟨l, hll⟩ : ∃ l, o'.vals.length = l := ⟨_, rfl⟩
    have HLL := hidI hll
    rw [hll] at x3 hR HV
    clear hS hP hk hll
    have HL' := hidI hL'
    clear hL'
    have HLV1 := hidI (HLV.out.below HB.out (Nat.le_refl _))
    obtain ⟨z, hzl⟩ : ∃ z, zs.length = z := ⟨_, rfl⟩
    have HZL := hidI hzl
    rw [hzl] at hR HLV1 ⊢
    clear hzl HLV
    by_cases hzz : z = l
    · subst hzz
      rw [if_pos rfl] at hR
      have hw1 := HB.out.size
      have u36 : ∀ w, Sem.run Try.prog (underlying 60) w = .ok (TypeDesc.slice 51) w := run_underlying Try.underlying60
      go_wp2
      go_loopg [8] z (fun g s8 wx => ∃ q : Nat, q + g = z ∧ s8 = .int .i64 q ∧ zs.all (rfit o'.kind) = (zs.drop q).all (rfit o'.kind) ∧ Hid (Below w1.heap.size w1 wx))
      case atStart => exact ⟨0, by omega, rfl, rfl, hidI (Below.refl _ _)⟩
      case round =>
        obtain ⟨q, hqg, rfl, hall, HX⟩ := hrel
        have hl1 : z ≤ 100000 := by have := HLL.out; omega
        have kk : ∀ {p : Addr} {v : Value}, w1.cell? p = some v → wr.cell? p = some v := fun {p v} hc => (HX.out.cell (World.block_lt_of_cell? w1 _ hc)).trans hc
        have c2' := kk c2
        have x2' := kk x2
        have x3' := kk x3
        have hwr := HX.out.size
        clear kk c2 x3 x2
        cases gk with
        | zero =>
          obtain rfl : z = q := by omega
          rw [hall, List.drop_eq_nil_of_le (by have := HZL.out; omega)] at hR
          have HV2 := hidI ((HLV1.out.below HX.out (Nat.le_refl _)).below ((Below.refl _ wr).alloc (Nat.le_refl _) (.cells #[] 51)) (Nat.le_refl _))
          have HO := hidI (World.ownsRow_made (base := w1.heap.size) (e := 51) (size := 1) wr #[] 0 hwr (by unfold maxLen; omega) rfl)
          go_wp2_with (at_builtin; go_must (refine wpList_append_words rfl _ _ rfl w1.heap.size _ 0 [] rfl HO.out _ zs rfl HV2.out (by have := HZL.out; omega) (by simp; omega) ?_); intro v' w2 hown' hgrow' hat'; refine Hid.out ?_)
          refine hidI ?_
          have hX2 : Below w1.heap.size w1 w2 := (HX.out.alloc hwr _).grown hgrow' (by simp; omega) (fun k hk => (HO.out.lt k hk).1)
          have HB3 : Hid (Below w.heap.size w w2) := hidI (HB.out.trans (hX2.mono hw1))
          have HV3 : Hid (Sees w2 v' zs) := hidI (sees_of_owns (base := w1.heap.size) (e := 51) (by simpa using hown'))
          have HF3 : Hid (Free w2 N rb v') := hidI (Free.made (w := w1) (fun b hb => hown'.lt b hb) HN1.out (by omega))
          clear hown' hgrow' hat' hX2
          go_wp2_with (go_at_call 90; refine Calls.mono (CL.out _ _ _ HB3.out HV3.out HF3.out) ?_; rintro e w4 ⟨rfl, hg4, hbk⟩; refine Hid.out ?_)
          refine hidI ?_
          have HG := hidI hg4
          have HK4 := hidI hbk
          clear hg4 hbk
          go_wp2
          go_ret
          have hbk := HK4.out
          rw [HU.out] at hbk
          first
            | exact RPost.good ((below_grown HB3.out (Nat.le_refl _) _).trans HG.out) hbk
            | (rw [hR]; exact RPost.good ((below_grown HB3.out (Nat.le_refl _) _).trans HG.out) hbk)
        | succ g =>
          have k8 : (q : Int) < (z : Int) := by omega
          have hdrop : zs.drop q = zs.getD q 0 :: zs.drop (q + 1) := by
            have hzl := HZL.out
            rw [List.drop_eq_getElem_cons (by omega)]
            congr 1
            simp [List.getD, show q < zs.length by omega]
          rw [hdrop, List.all_cons] at hall
          obtain ⟨_, _, hsl, hcl⟩ := HLV1.out
          simp only [Value.slice.injEq] at hsl
          obtain ⟨rfl, hz2, rfl⟩ := hsl
          rcases hcl with hnil | ⟨lb, lo, rfl, hcl⟩
          · have := HZL.out; subst hnil; simp at this; omega
          have x4 := (HX.out.cell (World.block_lt_of_cell? w1 _ (hcl q (by omega)))).trans (hcl q (by omega))
          obtain ⟨y, hy⟩ : ∃ y, zs.getD q 0 = y := ⟨_, rfl⟩
          rw [hy] at x4 hall
          clear hcl hz2 hdrop hy
          cases hfy : rfit o'.kind y with
          | true =>
            have D1 := hidI (D.out y)
            rw [show (decide (o'.kind = 1) || decide (y = 0) || decide (y = 1)) = true from hfy] at D1
            rw [hfy, Bool.true_and] at hall
            go_wp2
            go_quiet (first | (go_at_call 89; exact Calls.quiet_of_same ((D1.out _).mono fun _ _ h => ⟨h.1, h.2.symm⟩)))
            go_wp2
            go_roundg g
            case measure => omega
            case rel => exact ⟨q + 1, by omega, by go_num, hall, hidI (by have := HX.out; (repeat (first | assumption | refine Below.drew ?_ | refine below_drewN ?_ _)))⟩
          | false =>
            have D1 := hidI (D.out y)
            rw [show (decide (o'.kind = 1) || decide (y = 0) || decide (y = 1)) = false from hfy] at D1
            rw [hfy, Bool.false_and] at hall
            rw [hall] at hR
            go_wp2
            go_quiet (first | (go_at_call 89; exact Calls.quiet_of_same ((D1.out _).mono fun _ _ h => ⟨h.1, h.2.symm⟩)))
            go_wp2
            go_ret
            have hB : Below w.heap.size w wr := HB.out.trans (HX.out.mono hw1)
            first
              | exact RPost.bad (by decide) (by (repeat (first | assumption | refine Below.drew ?_ | refine below_drewN ?_ _)))
              | (rw [hR]; exact RPost.bad (by decide) (by (repeat (first | assumption | refine Below.drew ?_ | refine below_drewN ?_ _))))
    · rw [if_neg hzz] at hR
      have k8 : ((z : Int) == (l : Int)) = false := by simp only [beq_eq_false_iff_ne, ne_eq]; omega
      go_wp2
      go_ret
      first | exact RPost.bad (by decide) HB.out | (rw [hR]; exact RPost.bad (by decide) HB.out)
  · rw [ha] at C
    rw [show rloadE os s d zs = 5 by simp [rloadE, hf]]
    go_enter Try.func76, Try.ntmps76
    go_wp2_with (go_at_call 54; refine Calls.mono (C.out _ (by (repeat (first | exact Below.refl _ _ | assumption | refine Below.drew ?_ | refine Below.alloc ?_ (by first | omega | (simp; done) | (simp; omega)) _ | refine Below.setCell ?_ (by first | omega | (simp; done) | (simp; omega)) _)))) ?_; rintro e w1 ⟨rfl, hb1⟩; refine Hid.out ?_)
    refine hidI ?_
    have HB : Hid (Below w.heap.size w w1) := hidI (Below.trans (by (repeat (first | exact Below.refl _ _ | assumption | refine Below.drew ?_ | refine Below.alloc ?_ (by first | omega | (simp; done) | (simp; omega)) _ | refine Below.setCell ?_ (by first | omega | (simp; done) | (simp; omega)) _))) (hb1.mono (by simp)))
    clear hb1 C
    go_wp2
    go_ret
    exact RPost.bad (by decide) HB.out
end Go.Proofs.Ytbjoljokdjgbnab
/-
  Declare of the document's table: what is refused ahead of its look at the columns.
-/
namespace Go.Proofs.Ytbjoljokdjgbnab
open Go.RowKit Go.Deep Go.MapKept
set_option maxRecDepth 100000 in
theorem rdecl_name (N : Nat → Prop) (rb : Nat) (n m : Int) (os' : List One) (s : ByteArray) (d q : Int) (w : World) (hn : isName s = false) :
    Calls Try.prog 70 #[.pointer (some ⟨rb, 0, none⟩), ke s d, .int .u8 q] w (RPost w N rb n m 3 os') := by
  have CN : Hid (∀ u, Calls Try.prog 88 #[.string s] u fun e w' => e = .returned (.bool false) ∧ u = w') := hidI fun u => hn ▸ rname_any s u
  go_enter Try.func70, Try.ntmps70
  go_wp2_with (go_at_call 88; refine Calls.mono (CN.out _) ?_; rintro e w1 ⟨rfl, rfl⟩)
  go_ret
  exact RPost.bad (by decide) (by (repeat (first | exact Below.refl _ _ | assumption | refine Below.drew ?_ | refine Below.alloc ?_ (by first | omega | (simp; done) | (simp; omega)) _ | refine Below.setCell ?_ (by first | omega | (simp; done) | (simp; omega)) _)))
set_option maxRecDepth 100000 in
theorem rdecl_d0 (N : Nat → Prop) (rb : Nat) (n m : Int) (os' : List One) (s : ByteArray) (d q : Int) (w : World) (hn : isName s = true) (h : d = 0) :
    Calls Try.prog 70 #[.pointer (some ⟨rb, 0, none⟩), ke s d, .int .u8 q] w (RPost w N rb n m 2 os') := by
  have CN : Hid (∀ u, Calls Try.prog 88 #[.string s] u fun e w' => e = .returned (.bool true) ∧ u = w') := hidI fun u => hn ▸ rname_any s u
  subst h
  go_enter Try.func70, Try.ntmps70
  go_wp2_with (go_at_call 88; refine Calls.mono (CN.out _) ?_; rintro e w1 ⟨rfl, rfl⟩)
  go_ret
  exact RPost.bad (by decide) (by (repeat (first | exact Below.refl _ _ | assumption | refine Below.drew ?_ | refine Below.alloc ?_ (by first | omega | (simp; done) | (simp; omega)) _ | refine Below.setCell ?_ (by first | omega | (simp; done) | (simp; omega)) _)))
set_option maxRecDepth 100000 in
theorem rdecl_d3 (N : Nat → Prop) (rb : Nat) (n m : Int) (os' : List One) (s : ByteArray) (d q : Int) (w : World) (hn : isName s = true) (h0 : d ≠ 0) (h : 3 < d) :
    Calls Try.prog 70 #[.pointer (some ⟨rb, 0, none⟩), ke s d, .int .u8 q] w (RPost w N rb n m 2 os') := by
  have CN : Hid (∀ u, Calls Try.prog 88 #[.string s] u fun e w' => e = .returned (.bool true) ∧ u = w') := hidI fun u => hn ▸ rname_any s u
  have k0 : (d == 0) = false := by simpa using h0
  have k1 : decide (3 < d) = true := by simpa using h
  go_enter Try.func70, Try.ntmps70
  go_wp2_with (go_at_call 88; refine Calls.mono (CN.out _) ?_; rintro e w1 ⟨rfl, rfl⟩)
  go_ret
  exact RPost.bad (by decide) (by (repeat (first | exact Below.refl _ _ | assumption | refine Below.drew ?_ | refine Below.alloc ?_ (by first | omega | (simp; done) | (simp; omega)) _ | refine Below.setCell ?_ (by first | omega | (simp; done) | (simp; omega)) _)))
set_option maxRecDepth 100000 in
theorem rdecl_q0 (N : Nat → Prop) (rb : Nat) (n m : Int) (os' : List One) (s : ByteArray) (d q : Int) (w : World) (hn : isName s = true) (h0 : d ≠ 0) (h3 : ¬ 3 < d) (h : q = 0) :
    Calls Try.prog 70 #[.pointer (some ⟨rb, 0, none⟩), ke s d, .int .u8 q] w (RPost w N rb n m 2 os') := by
  have CN : Hid (∀ u, Calls Try.prog 88 #[.string s] u fun e w' => e = .returned (.bool true) ∧ u = w') := hidI fun u => hn ▸ rname_any s u
  have k0 : (d == 0) = false := by simpa using h0
  have k1 : decide (3 < d) = false := by simpa using h3
  subst h
  go_enter Try.func70, Try.ntmps70
  go_wp2_with (go_at_call 88; refine Calls.mono (CN.out _) ?_; rintro e w1 ⟨rfl, rfl⟩)
  go_ret
  exact RPost.bad (by decide) (by (repeat (first | exact Below.refl _ _ | assumption | refine Below.drew ?_ | refine Below.alloc ?_ (by first | omega | (simp; done) | (simp; omega)) _ | refine Below.setCell ?_ (by first | omega | (simp; done) | (simp; omega)) _)))
set_option maxRecDepth 100000 in
theorem rdecl_q2 (N : Nat → Prop) (rb : Nat) (n m : Int) (os' : List One) (s : ByteArray) (d q : Int) (w : World) (hn : isName s = true) (h0 : d ≠ 0) (h3 : ¬ 3 < d) (hq : q ≠ 0) (h : 2 < q) :
    Calls Try.prog 70 #[.pointer (some ⟨rb, 0, none⟩), ke s d, .int .u8 q] w (RPost w N rb n m 2 os') := by
  have CN : Hid (∀ u, Calls Try.prog 88 #[.string s] u fun e w' => e = .returned (.bool true) ∧ u = w') := hidI fun u => hn ▸ rname_any s u
  have k0 : (d == 0) = false := by simpa using h0
  have k1 : decide (3 < d) = false := by simpa using h3
  have k2 : (q == 0) = false := by simpa using hq
  have k3 : decide (2 < q) = true := by simpa using h
  go_enter Try.func70, Try.ntmps70
  go_wp2_with (go_at_call 88; refine Calls.mono (CN.out _) ?_; rintro e w1 ⟨rfl, rfl⟩)
  go_ret
  exact RPost.bad (by decide) (by (repeat (first | exact Below.refl _ _ | assumption | refine Below.drew ?_ | refine Below.alloc ?_ (by first | omega | (simp; done) | (simp; omega)) _ | refine Below.setCell ?_ (by first | omega | (simp; done) | (simp; omega)) _)))
end Go.Proofs.Ytbjoljokdjgbnab
/-
  Orders of a region whose last operation may change what others have loaded: a condition that need not hold behind that one.
-/
namespace Go.Proofs.Ytbjoljokdjgbnab
open Go
section
variable {P : Program} {ops : Array Oper} {Q : Exit → Act → World → Prop} {md : Region.Mode} {S : World → Prop} {z : Nat}
/-- Whatever comes up next, till nothing is left; S behind all but z. -/
def wpZ (P : Program) (md : Region.Mode) (ops : Array Oper) (Q : Exit → Act → World → Prop) (S : World → Prop) (z : Nat) : Nat → Array Bool → Act → World → Prop
  | 0 => fun l a w => Region.ready md ops l = [] ∧ Q .normal a w
  | n + 1 => fun l a w => (Region.ready md ops l = [] → Q .normal a w) ∧ ∀ i ∈ Region.ready md ops l, wpOp P ops Q i (fun b v => (i ≠ z → S v) ∧ wpZ P md ops Q S z n (l.setIfInBounds i true) b v) a w
theorem wpZ_any : ∀ (n : Nat) (l : Array Bool) (a : Act) (w : World), wpZ P md ops Q S z n l a w → wpAny P md ops Q n l a w := by
  intro n
  induction n with
  | zero => exact fun _ _ _ h => h
  | succ n ih => exact fun l a w h => ⟨h.1, fun i hi => wpOp_mono (fun b v hb => ih _ b v hb.2) (h.2 i hi)⟩
/-- D: what waits for i, z among it. -/
structure Behind (md : Region.Mode) (ops : Array Oper) (i z : Nat) (D : List Nat) : Prop where
  has : z ∈ D
  free : i ∉ D
  waits : ∀ d ∈ D, ∃ o, ops[d]? = some o ∧ ∃ e ∈ o.after, Region.binds md e = true ∧ (e.on = i ∨ e.on ∈ D)
theorem not_both {l : Array Bool} {j : Nat} (h0 : l.getD j true = false) (h1 : l.getD j false = true) : False := by
  rcases Nat.lt_or_ge j l.size with h | h
  · simp [h] at h0 h1; rw [h0] at h1; cases h1
  · simp [h] at h0
theorem wpZ_first {i : Nat} {o : Oper} {v : Value} {D : List Nat} (hi : ops[i]? = some o) (hsel : Region.noSelect ops = true) (hD : Behind md ops i z D) (hQ : ∀ c a w, Q (.panic c) (a.put o.dst v) w → Q (.panic c) a w) :
    ∀ (n : Nat) (l : Array Bool) (a : Act) (w : World), (∀ j oj, ops[j]? = some oj → j ≠ i → l.getD j true = false → (∀ e ∈ oj.after, Region.binds md e = true → e.on ≠ i) → o.apart ops oj = true) →
      i ∈ Region.ready md ops l → (∀ d ∈ D, l.getD d true = false) → YieldsIf P ops S o v a → S w → wpZ P md ops Q S z n (l.setIfInBounds i true) (a.put o.dst v) w → wpZ P md ops Q S z (n + 1) l a w := by
  intro n
  induction n with
  | zero =>
    intro l a w _ hr _ hy hS H
    refine ⟨fun e => absurd (e ▸ hr) (by simp), fun j hj => ?_⟩
    by_cases hji : j = i
    · subst hji
      exact hy.wpOp hi hS ⟨fun _ => hS, H⟩
    · have := ready_mono hj hji
      rw [H.1] at this
      simp at this
  | succ n ih =>
    intro l a w hap hr hl hy hS H
    refine ⟨fun e => absurd (e ▸ hr) (by simp), fun j hj => ?_⟩
    by_cases hji : j = i
    · subst hji
      exact hy.wpOp hi hS ⟨fun _ => hS, H⟩
    · obtain ⟨hun, oj, hoj, hall⟩ := mem_ready.1 hj
      have hri := (mem_ready.1 hr).1
      have hjD : j ∉ D := fun hm => by
        obtain ⟨o', ho', e, he, hb, hon⟩ := hD.waits j hm
        obtain rfl : oj = o' := by rw [hoj] at ho'; exact Option.some.inj ho'
        rcases hon with hon | hon
        · exact not_both hri (hon ▸ hall e he hb)
        · exact not_both (hl _ hon) (hall e he hb)
      have hjz : j ≠ z := fun e => hjD (e ▸ hD.has)
      have hstep := wpOp_putIf hoj (hap j oj hoj hji hun fun e he hb hon => not_both hri (hon ▸ hall e he hb)) (fun cs b => Region.noSelect_spec hsel i o cs b hi) (fun cs b => Region.noSelect_spec hsel j oj cs b hoj) hQ hy (H.2 j (ready_mono hj hji))
      refine wpOp_mono (fun b u hb => ?_) hstep
      obtain ⟨hyb, hSu, hrest⟩ := hb
      refine ⟨hSu, ih _ b u (fun k ok hok hki hkun hno => hap k ok hok hki ?_ hno) (ready_mono hr (Ne.symm hji)) (fun d hd => ?_) hyb (hSu hjz) ?_⟩
      · by_cases hjk : j = k
        · exact hjk ▸ hun
        · rwa [getD_set_ne true hjk] at hkun
      · rw [getD_set_ne true (fun e : j = d => hjD (by rw [e]; exact hd))]
        exact hl d hd
      · rwa [Array.setIfInBounds_comm _ _ hji]
def behindB (md : Region.Mode) (ops : Array Oper) (l : Array Bool) (i z : Nat) (D : List Nat) : Bool :=
  D.contains z && !D.contains i && D.all fun d => !(l.getD d true) && match ops[d]? with | some o => o.after.any fun e => Region.binds md e && (e.on == i || D.contains e.on) | none => false
theorem wpZ_take {i : Nat} {o : Oper} {v : Value} {n : Nat} {l : Array Bool} {a : Act} {w : World} (D : List Nat) (hi : ops[i]? = some o) (hsel : Region.noSelect ops = true) (hf : Region.free md ops l i = true) (hr : (Region.ready md ops l).contains i = true) (hD : behindB md ops l i z D = true)
    (hQ : ∀ c a w, Q (.panic c) (a.put o.dst v) w → Q (.panic c) a w) (hy : YieldsIf P ops S o v a) (hS : S w) (h : wpZ P md ops Q S z n (l.setIfInBounds i true) (a.put o.dst v) w) : wpZ P md ops Q S z (n + 1) l a w := by
  simp only [behindB, Bool.and_eq_true, List.all_eq_true, Bool.not_eq_true', List.contains_iff_mem] at hD
  obtain ⟨⟨h1, h2⟩, h3⟩ := hD
  refine wpZ_first (D := D) hi hsel ⟨h1, by simpa using h2, fun d hd => ?_⟩ hQ n l a w (Region.free_spec hi hf) (by simpa using hr) (fun d hd => (h3 d hd).1) hy hS h
  have := (h3 d hd).2
  cases ho : ops[d]? with
  | none => rw [ho] at this; simp at this
  | some o' =>
    rw [ho] at this
    obtain ⟨e, he, hb⟩ := Array.any_eq_true'.1 this
    simp only [Bool.and_eq_true, Bool.or_eq_true, beq_iff_eq, List.contains_iff_mem] at hb
    exact ⟨o', rfl, e, he, hb.1, hb.2⟩
theorem wpZ_all {rs : List Nat} {n : Nat} {l : Array Bool} {a : Act} {w : World} (hr : Region.ready md ops l = rs) (hne : rs ≠ []) (h : ∀ i ∈ rs, wpOp P ops Q i (fun b v => (i ≠ z → S v) ∧ wpZ P md ops Q S z n (l.setIfInBounds i true) b v) a w) : wpZ P md ops Q S z (n + 1) l a w := by
  subst hr
  exact ⟨fun e => absurd e hne, h⟩
theorem wpZ_done {l : Array Bool} {a : Act} {w : World} (hr : Region.ready md ops l = []) (h : Q .normal a w) (n : Nat) : wpZ P md ops Q S z n l a w := by
  cases n with
  | zero => exact ⟨hr, h⟩
  | succ n => exact ⟨fun _ => h, by simp [hr]⟩
theorem wpZ_last {l : Array Bool} {a : Act} {w : World} (hr : Region.ready md ops l = [z]) (hd : Region.ready md ops (l.setIfInBounds z true) = []) (h : wpOp P ops Q z (fun b v => Q .normal b v) a w) (n : Nat) : wpZ P md ops Q S z (n + 1) l a w :=
  wpZ_all hr (by simp) fun i hi => by
    obtain rfl : i = z := by simpa using hi
    exact wpOp_mono (fun b v hb => ⟨fun e => absurd rfl e, wpZ_done hd hb _⟩) h
theorem wpOp_go {i : Nat} {o : Oper} {K : Act → World → Prop} {a : Act} {w : World} (ho : ops[i]? = some o) (hg : o.guard = none) (h : ∀ K' : Act → World → Prop, (∀ a w, K a w → K' a w) → Oper.wp P o a w K' Q) : wpOp P ops Q i K a w := by
  refine wpOp_step ho fun K' hK => ?_
  rw [if_pos (by unfold Region.wanted; rw [hg])]
  exact h K' hK
theorem wp_region_Z {id : Nat} {a : Act} {w : World} (S : World → Prop) (z : Nat) (hm : P.follows .mixedOrders = true) (h : wpZ P .any ops Q S z ops.size (Array.replicate ops.size false) a w.drew) : (Code.region id ops true).wp P Q a w :=
  wp_region_any hm (wpZ_any _ _ _ _ h)
end
end Go.Proofs.Ytbjoljokdjgbnab
/-
  A row of columns cut in two.
-/
namespace Go.Proofs.Ytbjoljokdjgbnab
open Go.RowKit Go.Deep Go.MapKept
theorem Try.size102 : ∀ w, (sizeOf 102).run Try.prog w = .ok 4 w := fun w => by
  obtain ⟨i0, hi, hz0, hz1, hz2⟩ := info_parts Try.info102
  simp [sizeOf, typeInfo, hi, hz1]
theorem Try.elem98 : Try.prog.elem 98 = 102 := by kernel_rfl
theorem add_zero (a : Addr) : a.add 0 = a := by unfold Addr.add; simp
theorem cut_low {W : World} {va : Option Addr} {vc : Nat} {ps : List (One × Value)} (h : SeesR W (.slice va ps.length vc) ps.length (flatO ps)) (i : Nat) (hi : i ≤ ps.length) : SeesR W (.slice va i vc) i (flatO (ps.take i)) := by
  obtain ⟨a, cap, he, hcap, hs⟩ := h
  simp only [Value.slice.injEq] at he
  obtain ⟨rfl, _, rfl⟩ := he
  refine ⟨_, vc, rfl, by omega, ?_⟩
  rcases hs with h0 | ⟨b, off, rfl, hs⟩
  · exact .inl (by omega)
  · refine .inr ⟨b, off, rfl, fun j u hu => ?_⟩
    rw [← flatO_take] at hu
    refine hs j u ?_
    rw [List.getElem?_take] at hu
    split at hu
    · exact hu
    · cases hu
theorem cut_high {W : World} {va : Option Addr} {vc : Nat} {ps : List (One × Value)} (h : SeesR W (.slice va ps.length vc) ps.length (flatO ps)) (i : Nat) (hi : i ≤ ps.length) :
    SeesR W (.slice (if vc = i then va else va.map fun x => x.add (i * 4)) (ps.length - i) (vc - i)) (ps.drop i).length (flatO (ps.drop i)) := by
  obtain ⟨a, cap, he, hcap, hs⟩ := h
  simp only [Value.slice.injEq] at he
  obtain ⟨rfl, _, rfl⟩ := he
  refine ⟨_, vc - i, by rw [List.length_drop], by rw [List.length_drop]; omega, ?_⟩
  by_cases hik : i = ps.length
  · exact .inl (by rw [List.length_drop]; omega)
  rcases hs with h0 | ⟨b, off, rfl, hs⟩
  · exact absurd h0 (by omega)
  · refine .inr ⟨b, off + i * 4, ?_, fun j u hu => ?_⟩
    · rw [if_neg (by omega)]
      simp only [Option.map_some, Addr.add_lit]
    · rw [← flatO_drop, List.getElem?_drop] at hu
      have := hs _ _ hu
      rwa [← Nat.add_assoc] at this
theorem wp_append_ones {o : Oper} {a : Act} {K : Act → World → Prop} {Q : Exit → Act → World → Prop} {W : World} (s x : Operand)
    (ho : o.op = .call { callee := .builtin .append, args := #[s, x], argTypes := #[98, 98] }) (base : Nat) (v : Value) (n : Nat) (xs : List Value) (hs : a.eval s = v) (hown : W.ownsRow base 102 4 v n xs)
    (u : Value) (ps : List (One × Value)) (hx : a.eval x = u) (hu : SeesR W u ps.length (flatO ps)) (h1 : ∀ p ∈ ps, p.2.oneCell' = true) (hn : n + ps.length ≤ 100000) (hb : base ≤ W.heap.size)
    (h : ∀ v' w', w'.ownsRow base 102 4 v' (n + ps.length) (xs ++ flatO ps) → W.grownBy w' v.ownBlock → (v'.ownBlock = v.ownBlock ∨ v'.ownBlock = some W.heap.size) → K (a.put o.dst v') w') :
    o.wp Try.prog a W K Q := by
  obtain ⟨v', w', hr, h2, h3, h4⟩ := run_append_ones W o.type base v n xs u ps hown hu h1 hn hb
  unfold Oper.wp execOp
  simp only [ho, resolve, invoke, builtin, Sem.run_bind, Sem.run_pure, Result.andThen_ok, List.map_toArray, List.map_cons, List.map_nil, hs, hx, hr]
  exact h v' w' h2 h3 h4
theorem one_seen {W : World} (o : One) (v : Value) : SeesR (W.alloc (.cells #[.string o.name, .int .u8 o.side, .int .u8 o.kind, v] 102)) (.slice (some ⟨W.heap.size, 0, none⟩) 1 1) 1 (flatO [(o, v)]) := by
  refine ⟨_, 1, rfl, Nat.le_refl _, .inr ⟨W.heap.size, 0, rfl, fun j u hu => ?_⟩⟩
  have hj := (List.getElem?_eq_some_iff.1 hu).1
  simp only [flatO, oneCells, List.append_nil, List.length_cons, List.length_nil] at hj hu
  match j, hj with
  | 0, _ => simp at hu; subst hu; go_simp
  | 1, _ => simp at hu; subst hu; go_simp
  | 2, _ => simp at hu; subst hu; go_simp
  | 3, _ => simp at hu; subst hu; go_simp
theorem zeros_seen {W : World} (L r : Nat) (h : W.heap[r]? = some (.cells (madeCells #[.int .i64 0] L) 51)) : Sees W (.slice (some ⟨r, 0, none⟩) L L) (List.replicate L 0) := by
  refine ⟨_, L, by simp, .inr ⟨r, 0, rfl, fun j hj => ?_⟩⟩
  rw [List.length_replicate] at hj
  rw [Nat.zero_add, (cell_of_row h hj).1]
  simp [List.getD, hj]
end Go.Proofs.Ytbjoljokdjgbnab
/-
  The last statement of the document's Declare but one: three appends and a store, in whatever order.
-/
namespace Go.Proofs.Ytbjoljokdjgbnab
open Go.RowKit Go.Deep Go.MapKept
def ops15 : Array Oper := #[{ dst := some 75, op := Go.Op.move (Go.Operand.tmp 0), type := 42, pos := "ref.go:81", after := #[], guard := none }, { dst := some 76, op := Go.Op.buildSlice 98 0 #[], type := 98, pos := "ref.go:81", after := #[], guard := none }, { dst := some 77, op := Go.Op.move (Go.Operand.tmp 0), type := 42, pos := "ref.go:81", after := #[], guard := none }, { dst := some 78, op := Go.Op.nilCheck (Go.Operand.tmp 77), type := 0, pos := "ref.go:81", after := #[{ on := 2, ground := Go.Ground.data }], guard := none }, { dst := some 79, op := Go.Op.fieldAddr 100 (Go.Operand.tmp 78) 2, type := 0, pos := "ref.go:81", after := #[{ on := 3, ground := Go.Ground.data }], guard := none }, { dst := some 80, op := Go.Op.load 98 (Go.Operand.tmp 79), type := 98, pos := "ref.go:81", after := #[{ on := 4, ground := Go.Ground.data }], guard := none }, { dst := some 81, op := Go.Op.move (Go.Operand.tmp 7), type := 3, pos := "ref.go:81", after := #[], guard := none }, { dst := some 82, op := Go.Op.slice 98 (Go.Operand.tmp 80) none (some (Go.Operand.tmp 81)) none, type := 98, pos := "ref.go:81", after := #[{ on := 5, ground := Go.Ground.data }, { on := 6, ground := Go.Ground.data }], guard := none }, { dst := some 83, op := Go.Op.call { callee := Go.Callee.builtin Go.Builtin.append, args := #[Go.Operand.tmp 76, Go.Operand.tmp 82], argTypes := #[98, 98] }, type := 98, pos := "ref.go:81", after := #[{ on := 1, ground := Go.Ground.data }, { on := 7, ground := Go.Ground.data }], guard := none }, { dst := some 84, op := Go.Op.load 102 (Go.Operand.tmp 8), type := 102, pos := "ref.go:81", after := #[], guard := none }, { dst := some 85, op := Go.Op.buildSlice 98 1 #[(0, Go.Operand.tmp 84)], type := 98, pos := "ref.go:81", after := #[{ on := 9, ground := Go.Ground.data }], guard := none }, { dst := some 86, op := Go.Op.call { callee := Go.Callee.builtin Go.Builtin.append, args := #[Go.Operand.tmp 83, Go.Operand.tmp 85], argTypes := #[98, 98] }, type := 98, pos := "ref.go:81", after := #[{ on := 8, ground := Go.Ground.data }, { on := 10, ground := Go.Ground.data }, { on := 8, ground := Go.Ground.chain }], guard := none }, { dst := some 87, op := Go.Op.move (Go.Operand.tmp 0), type := 42, pos := "ref.go:81", after := #[], guard := none }, { dst := some 88, op := Go.Op.nilCheck (Go.Operand.tmp 87), type := 0, pos := "ref.go:81", after := #[{ on := 12, ground := Go.Ground.data }], guard := none }, { dst := some 89, op := Go.Op.fieldAddr 100 (Go.Operand.tmp 88) 2, type := 0, pos := "ref.go:81", after := #[{ on := 13, ground := Go.Ground.data }], guard := none }, { dst := some 90, op := Go.Op.load 98 (Go.Operand.tmp 89), type := 98, pos := "ref.go:81", after := #[{ on := 14, ground := Go.Ground.data }], guard := none }, { dst := some 91, op := Go.Op.move (Go.Operand.tmp 7), type := 3, pos := "ref.go:81", after := #[], guard := none }, { dst := some 92, op := Go.Op.slice 98 (Go.Operand.tmp 90) (some (Go.Operand.tmp 91)) none none, type := 98, pos := "ref.go:81", after := #[{ on := 15, ground := Go.Ground.data }, { on := 16, ground := Go.Ground.data }], guard := none }, { dst := some 93, op := Go.Op.call { callee := Go.Callee.builtin Go.Builtin.append, args := #[Go.Operand.tmp 86, Go.Operand.tmp 92], argTypes := #[98, 98] }, type := 98, pos := "ref.go:81", after := #[{ on := 11, ground := Go.Ground.data }, { on := 17, ground := Go.Ground.data }, { on := 11, ground := Go.Ground.chain }], guard := none }, { dst := some 94, op := Go.Op.nilCheck (Go.Operand.tmp 75), type := 0, pos := "ref.go:81", after := #[{ on := 0, ground := Go.Ground.data }, { on := 0, ground := Go.Ground.phase }, { on := 1, ground := Go.Ground.phase }, { on := 2, ground := Go.Ground.phase }, { on := 3, ground := Go.Ground.phase }, { on := 4, ground := Go.Ground.phase }, { on := 5, ground := Go.Ground.phase }, { on := 6, ground := Go.Ground.phase }, { on := 7, ground := Go.Ground.phase }, { on := 8, ground := Go.Ground.phase }, { on := 9, ground := Go.Ground.phase }, { on := 10, ground := Go.Ground.phase }, { on := 11, ground := Go.Ground.phase }, { on := 12, ground := Go.Ground.phase }, { on := 13, ground := Go.Ground.phase }, { on := 14, ground := Go.Ground.phase }, { on := 15, ground := Go.Ground.phase }, { on := 16, ground := Go.Ground.phase }, { on := 17, ground := Go.Ground.phase }, { on := 18, ground := Go.Ground.phase }], guard := none }, { dst := some 95, op := Go.Op.fieldAddr 100 (Go.Operand.tmp 94) 2, type := 0, pos := "ref.go:81", after := #[{ on := 19, ground := Go.Ground.data }, { on := 0, ground := Go.Ground.phase }, { on := 1, ground := Go.Ground.phase }, { on := 2, ground := Go.Ground.phase }, { on := 3, ground := Go.Ground.phase }, { on := 4, ground := Go.Ground.phase }, { on := 5, ground := Go.Ground.phase }, { on := 6, ground := Go.Ground.phase }, { on := 7, ground := Go.Ground.phase }, { on := 8, ground := Go.Ground.phase }, { on := 9, ground := Go.Ground.phase }, { on := 10, ground := Go.Ground.phase }, { on := 11, ground := Go.Ground.phase }, { on := 12, ground := Go.Ground.phase }, { on := 13, ground := Go.Ground.phase }, { on := 14, ground := Go.Ground.phase }, { on := 15, ground := Go.Ground.phase }, { on := 16, ground := Go.Ground.phase }, { on := 17, ground := Go.Ground.phase }, { on := 18, ground := Go.Ground.phase }], guard := none }, { dst := none, op := Go.Op.store 98 (Go.Operand.tmp 95) (Go.Operand.tmp 93), type := 0, pos := "ref.go:81", after := #[{ on := 20, ground := Go.Ground.data }, { on := 18, ground := Go.Ground.data }, { on := 18, ground := Go.Ground.chain }, { on := 0, ground := Go.Ground.phase }, { on := 1, ground := Go.Ground.phase }, { on := 2, ground := Go.Ground.phase }, { on := 3, ground := Go.Ground.phase }, { on := 4, ground := Go.Ground.phase }, { on := 5, ground := Go.Ground.phase }, { on := 6, ground := Go.Ground.phase }, { on := 7, ground := Go.Ground.phase }, { on := 8, ground := Go.Ground.phase }, { on := 9, ground := Go.Ground.phase }, { on := 10, ground := Go.Ground.phase }, { on := 11, ground := Go.Ground.phase }, { on := 12, ground := Go.Ground.phase }, { on := 13, ground := Go.Ground.phase }, { on := 14, ground := Go.Ground.phase }, { on := 15, ground := Go.Ground.phase }, { on := 16, ground := Go.Ground.phase }, { on := 17, ground := Go.Ground.phase }, { on := 18, ground := Go.Ground.phase }], guard := none }]
theorem t0 : ops15[0]? = some { dst := some 75, op := Go.Op.move (Go.Operand.tmp 0), type := 42, pos := "ref.go:81", after := #[], guard := none } := by kernel_rfl
theorem t1 : ops15[1]? = some { dst := some 76, op := Go.Op.buildSlice 98 0 #[], type := 98, pos := "ref.go:81", after := #[], guard := none } := by kernel_rfl
theorem t2 : ops15[2]? = some { dst := some 77, op := Go.Op.move (Go.Operand.tmp 0), type := 42, pos := "ref.go:81", after := #[], guard := none } := by kernel_rfl
theorem t3 : ops15[3]? = some { dst := some 78, op := Go.Op.nilCheck (Go.Operand.tmp 77), type := 0, pos := "ref.go:81", after := #[{ on := 2, ground := Go.Ground.data }], guard := none } := by kernel_rfl
theorem t4 : ops15[4]? = some { dst := some 79, op := Go.Op.fieldAddr 100 (Go.Operand.tmp 78) 2, type := 0, pos := "ref.go:81", after := #[{ on := 3, ground := Go.Ground.data }], guard := none } := by kernel_rfl
theorem t5 : ops15[5]? = some { dst := some 80, op := Go.Op.load 98 (Go.Operand.tmp 79), type := 98, pos := "ref.go:81", after := #[{ on := 4, ground := Go.Ground.data }], guard := none } := by kernel_rfl
theorem t6 : ops15[6]? = some { dst := some 81, op := Go.Op.move (Go.Operand.tmp 7), type := 3, pos := "ref.go:81", after := #[], guard := none } := by kernel_rfl
theorem t7 : ops15[7]? = some { dst := some 82, op := Go.Op.slice 98 (Go.Operand.tmp 80) none (some (Go.Operand.tmp 81)) none, type := 98, pos := "ref.go:81", after := #[{ on := 5, ground := Go.Ground.data }, { on := 6, ground := Go.Ground.data }], guard := none } := by kernel_rfl
theorem t8 : ops15[8]? = some { dst := some 83, op := Go.Op.call { callee := Go.Callee.builtin Go.Builtin.append, args := #[Go.Operand.tmp 76, Go.Operand.tmp 82], argTypes := #[98, 98] }, type := 98, pos := "ref.go:81", after := #[{ on := 1, ground := Go.Ground.data }, { on := 7, ground := Go.Ground.data }], guard := none } := by kernel_rfl
theorem t9 : ops15[9]? = some { dst := some 84, op := Go.Op.load 102 (Go.Operand.tmp 8), type := 102, pos := "ref.go:81", after := #[], guard := none } := by kernel_rfl
theorem t10 : ops15[10]? = some { dst := some 85, op := Go.Op.buildSlice 98 1 #[(0, Go.Operand.tmp 84)], type := 98, pos := "ref.go:81", after := #[{ on := 9, ground := Go.Ground.data }], guard := none } := by kernel_rfl
theorem t11 : ops15[11]? = some { dst := some 86, op := Go.Op.call { callee := Go.Callee.builtin Go.Builtin.append, args := #[Go.Operand.tmp 83, Go.Operand.tmp 85], argTypes := #[98, 98] }, type := 98, pos := "ref.go:81", after := #[{ on := 8, ground := Go.Ground.data }, { on := 10, ground := Go.Ground.data }, { on := 8, ground := Go.Ground.chain }], guard := none } := by kernel_rfl
theorem t12 : ops15[12]? = some { dst := some 87, op := Go.Op.move (Go.Operand.tmp 0), type := 42, pos := "ref.go:81", after := #[], guard := none } := by kernel_rfl
theorem t13 : ops15[13]? = some { dst := some 88, op := Go.Op.nilCheck (Go.Operand.tmp 87), type := 0, pos := "ref.go:81", after := #[{ on := 12, ground := Go.Ground.data }], guard := none } := by kernel_rfl
theorem t14 : ops15[14]? = some { dst := some 89, op := Go.Op.fieldAddr 100 (Go.Operand.tmp 88) 2, type := 0, pos := "ref.go:81", after := #[{ on := 13, ground := Go.Ground.data }], guard := none } := by kernel_rfl
theorem t15 : ops15[15]? = some { dst := some 90, op := Go.Op.load 98 (Go.Operand.tmp 89), type := 98, pos := "ref.go:81", after := #[{ on := 14, ground := Go.Ground.data }], guard := none } := by kernel_rfl
theorem t16 : ops15[16]? = some { dst := some 91, op := Go.Op.move (Go.Operand.tmp 7), type := 3, pos := "ref.go:81", after := #[], guard := none } := by kernel_rfl
theorem t17 : ops15[17]? = some { dst := some 92, op := Go.Op.slice 98 (Go.Operand.tmp 90) (some (Go.Operand.tmp 91)) none none, type := 98, pos := "ref.go:81", after := #[{ on := 15, ground := Go.Ground.data }, { on := 16, ground := Go.Ground.data }], guard := none } := by kernel_rfl
theorem t18 : ops15[18]? = some { dst := some 93, op := Go.Op.call { callee := Go.Callee.builtin Go.Builtin.append, args := #[Go.Operand.tmp 86, Go.Operand.tmp 92], argTypes := #[98, 98] }, type := 98, pos := "ref.go:81", after := #[{ on := 11, ground := Go.Ground.data }, { on := 17, ground := Go.Ground.data }, { on := 11, ground := Go.Ground.chain }], guard := none } := by kernel_rfl
theorem t19 : ops15[19]? = some { dst := some 94, op := Go.Op.nilCheck (Go.Operand.tmp 75), type := 0, pos := "ref.go:81", after := #[{ on := 0, ground := Go.Ground.data }, { on := 0, ground := Go.Ground.phase }, { on := 1, ground := Go.Ground.phase }, { on := 2, ground := Go.Ground.phase }, { on := 3, ground := Go.Ground.phase }, { on := 4, ground := Go.Ground.phase }, { on := 5, ground := Go.Ground.phase }, { on := 6, ground := Go.Ground.phase }, { on := 7, ground := Go.Ground.phase }, { on := 8, ground := Go.Ground.phase }, { on := 9, ground := Go.Ground.phase }, { on := 10, ground := Go.Ground.phase }, { on := 11, ground := Go.Ground.phase }, { on := 12, ground := Go.Ground.phase }, { on := 13, ground := Go.Ground.phase }, { on := 14, ground := Go.Ground.phase }, { on := 15, ground := Go.Ground.phase }, { on := 16, ground := Go.Ground.phase }, { on := 17, ground := Go.Ground.phase }, { on := 18, ground := Go.Ground.phase }], guard := none } := by kernel_rfl
theorem t20 : ops15[20]? = some { dst := some 95, op := Go.Op.fieldAddr 100 (Go.Operand.tmp 94) 2, type := 0, pos := "ref.go:81", after := #[{ on := 19, ground := Go.Ground.data }, { on := 0, ground := Go.Ground.phase }, { on := 1, ground := Go.Ground.phase }, { on := 2, ground := Go.Ground.phase }, { on := 3, ground := Go.Ground.phase }, { on := 4, ground := Go.Ground.phase }, { on := 5, ground := Go.Ground.phase }, { on := 6, ground := Go.Ground.phase }, { on := 7, ground := Go.Ground.phase }, { on := 8, ground := Go.Ground.phase }, { on := 9, ground := Go.Ground.phase }, { on := 10, ground := Go.Ground.phase }, { on := 11, ground := Go.Ground.phase }, { on := 12, ground := Go.Ground.phase }, { on := 13, ground := Go.Ground.phase }, { on := 14, ground := Go.Ground.phase }, { on := 15, ground := Go.Ground.phase }, { on := 16, ground := Go.Ground.phase }, { on := 17, ground := Go.Ground.phase }, { on := 18, ground := Go.Ground.phase }], guard := none } := by kernel_rfl
theorem t21 : ops15[21]? = some { dst := none, op := Go.Op.store 98 (Go.Operand.tmp 95) (Go.Operand.tmp 93), type := 0, pos := "ref.go:81", after := #[{ on := 20, ground := Go.Ground.data }, { on := 18, ground := Go.Ground.data }, { on := 18, ground := Go.Ground.chain }, { on := 0, ground := Go.Ground.phase }, { on := 1, ground := Go.Ground.phase }, { on := 2, ground := Go.Ground.phase }, { on := 3, ground := Go.Ground.phase }, { on := 4, ground := Go.Ground.phase }, { on := 5, ground := Go.Ground.phase }, { on := 6, ground := Go.Ground.phase }, { on := 7, ground := Go.Ground.phase }, { on := 8, ground := Go.Ground.phase }, { on := 9, ground := Go.Ground.phase }, { on := 10, ground := Go.Ground.phase }, { on := 11, ground := Go.Ground.phase }, { on := 12, ground := Go.Ground.phase }, { on := 13, ground := Go.Ground.phase }, { on := 14, ground := Go.Ground.phase }, { on := 15, ground := Go.Ground.phase }, { on := 16, ground := Go.Ground.phase }, { on := 17, ground := Go.Ground.phase }, { on := 18, ground := Go.Ground.phase }], guard := none } := by kernel_rfl
set_option maxRecDepth 100000 in
set_option maxHeartbeats 1500000 in
theorem reg15 {x1 x2 x3 x4 x5 x6 x9 x10 x11 x12 x13 x14 x15 x16 x17 x18 x19 x20 x21 x22 x23 x24 x25 x26 x27 x28 x29 x30 x31 x32 x33 x34 x35 x36 x37 x38 x39 x40 x41 x42 x43 x44 x45 x46 x47 x48 x49 x50 x51 x52 x53 x54 x55 x56 x57 x58 x59 x60 x61 x62 x63 x64 x65 x66 x67 x68 x69 x70 x71 x72 x73 x74 : Value} {Q : Exit → Act → World → Prop} {V0 : World} {rb xb rr L i vc : Nat} {va : Option Addr} {ps : List (One × Value)} {s : ByteArray} {d q : Int} {zs : List Int}
    (hS0 : V0.drew.cell? ⟨rb, 2, none⟩ = some (.slice va ps.length vc) ∧ V0.drew.cell? ⟨xb, 0, none⟩ = some (.string s) ∧ V0.drew.cell? ⟨xb, 1, none⟩ = some (.int .u8 d) ∧ V0.drew.cell? ⟨xb, 2, none⟩ = some (.int .u8 q) ∧ V0.drew.cell? ⟨xb, 3, none⟩ = some (.slice (some ⟨rr, 0, none⟩) L L)) (hfz : V0.drew.frozen? ⟨rb, 2, none⟩ = false) (hSv : SeesR V0.drew (.slice va ps.length vc) ps.length (flatO ps)) (h1 : ∀ p ∈ ps, p.2.oneCell' = true) (hik : i ≤ ps.length) (h24 : ps.length ≤ 24)
    (hpan : ∀ c (a : Act) w (dd : Tmp) vv, Q (.panic c) (a.put (some dd) vv) w → Q (.panic c) a w)
    (hQ : ∀ (W6 : World) (v93 : Value) (t75 t76 t77 t78 t79 t80 t81 t82 t83 t84 t85 t86 t87 t88 t89 t90 t91 t92 t93 t94 t95 : Value), Below V0.drew.heap.size V0.drew W6 → W6.ownsRow V0.drew.heap.size 102 4 v93 (ps.take i ++ ((⟨s, d, q, zs⟩ : One), (Value.slice (some ⟨rr, 0, none⟩) L L)) :: ps.drop i).length (flatO (ps.take i ++ ((⟨s, d, q, zs⟩ : One), (Value.slice (some ⟨rr, 0, none⟩) L L)) :: ps.drop i)) → Q .normal { tmps := #[.pointer (some ⟨rb, 0, none⟩), x1, x2, x3, x4, x5, x6, .int .i64 i, .pointer (some ⟨xb, 0, none⟩), x9, x10, x11, x12, x13, x14, x15, x16, x17, x18, x19, x20, x21, x22, x23, x24, x25, x26, x27, x28, x29, x30, x31, x32, x33, x34, x35, x36, x37, x38, x39, x40, x41, x42, x43, x44, x45, x46, x47, x48, x49, x50, x51, x52, x53, x54, x55, x56, x57, x58, x59, x60, x61, x62, x63, x64, x65, x66, x67, x68, x69, x70, x71, x72, x73, x74, t75, t76, t77, t78, t79, t80, t81, t82, t83, t84, t85, t86, t87, t88, t89, t90, t91, t92, t93, t94, t95], defers := [] } (W6.setCell ⟨rb, 2, none⟩ v93)) :
    (Code.region 15 ops15 true).wp Try.prog Q { tmps := #[.pointer (some ⟨rb, 0, none⟩), x1, x2, x3, x4, x5, x6, .int .i64 i, .pointer (some ⟨xb, 0, none⟩), x9, x10, x11, x12, x13, x14, x15, x16, x17, x18, x19, x20, x21, x22, x23, x24, x25, x26, x27, x28, x29, x30, x31, x32, x33, x34, x35, x36, x37, x38, x39, x40, x41, x42, x43, x44, x45, x46, x47, x48, x49, x50, x51, x52, x53, x54, x55, x56, x57, x58, x59, x60, x61, x62, x63, x64, x65, x66, x67, x68, x69, x70, x71, x72, x73, x74, undef, undef, undef, undef, undef, undef, undef, undef, undef, undef, undef, undef, undef, undef, undef, undef, undef, undef, undef, undef, undef], defers := [] } V0 := by
  have hvc : ps.length ≤ vc := by
    obtain ⟨_, _, he, hc, _⟩ := hSv
    simp only [Value.slice.injEq] at he
    omega
  refine wp_region_Z (fun w' => w'.cell? ⟨rb, 2, none⟩ = some (.slice va ps.length vc) ∧ w'.cell? ⟨xb, 0, none⟩ = some (.string s) ∧ w'.cell? ⟨xb, 1, none⟩ = some (.int .u8 d) ∧ w'.cell? ⟨xb, 2, none⟩ = some (.int .u8 q) ∧ w'.cell? ⟨xb, 3, none⟩ = some (.slice (some ⟨rr, 0, none⟩) L L)) 21 Try.mixed ?_
  obtain ⟨V, hV⟩ : ∃ V, V0.drew = V := ⟨_, rfl⟩
  rw [hV] at hS0 hfz hSv hQ ⊢
  clear hV
  have hrbV : rb < V.heap.size := World.block_lt_of_cell? V _ hS0.1
  have HSv := hidI hSv
  have H1 := hidI h1
  have HQ := hidI hQ
  have HPan := hidI hpan
  obtain ⟨v92, s92⟩ : ∃ v92, Value.slice (if vc = i then va else va.map fun x => x.add (i * 4)) (ps.length - i) (vc - i) = v92 := ⟨_, rfl⟩
  have HV92 := hidI s92
  have hivc : (i : Int) ≤ (vc : Int) := by omega
  have hiki : (i : Int) ≤ (ps.length : Int) := by omega
  clear hSv h1 hQ s92 hpan
  refine wpZ_take [21] (i := 0) (v := (.pointer (some ⟨rb, 0, none⟩))) t0 (by kernel_rfl) (by kernel_rfl) (by kernel_rfl) (by kernel_rfl) (fun c a w h => HPan.out c a w _ _ h) (.inl ⟨by rfl, fun y hy => ?_⟩) hS0 ?_
  · go_simp
  refine wpZ_take [21] (i := 2) (v := (.pointer (some ⟨rb, 0, none⟩))) t2 (by kernel_rfl) (by kernel_rfl) (by kernel_rfl) (by kernel_rfl) (fun c a w h => HPan.out c a w _ _ h) (.inl ⟨by rfl, fun y hy => ?_⟩) hS0 ?_
  · go_simp
  refine wpZ_take [21] (i := 3) (v := (.pointer (some ⟨rb, 0, none⟩))) t3 (by kernel_rfl) (by kernel_rfl) (by kernel_rfl) (by kernel_rfl) (fun c a w h => HPan.out c a w _ _ h) (.inl ⟨by rfl, fun y hy => ?_⟩) hS0 ?_
  · go_simp
  refine wpZ_take [21] (i := 4) (v := (.pointer (some ⟨rb, 2, none⟩))) t4 (by kernel_rfl) (by kernel_rfl) (by kernel_rfl) (by kernel_rfl) (fun c a w h => HPan.out c a w _ _ h) (.inl ⟨by rfl, fun y hy => ?_⟩) hS0 ?_
  · go_simp
  refine wpZ_take [21] (i := 5) (v := (.slice va ps.length vc)) t5 (by kernel_rfl) (by kernel_rfl) (by kernel_rfl) (by kernel_rfl) (fun c a w h => HPan.out c a w _ _ h) (.inl ⟨by rfl, fun y hy => ?_⟩) hS0 ?_
  · obtain ⟨y0, y1, y2, y3, y4⟩ := hy; go_simp
  refine wpZ_take [21] (i := 6) (v := (.int .i64 i)) t6 (by kernel_rfl) (by kernel_rfl) (by kernel_rfl) (by kernel_rfl) (fun c a w h => HPan.out c a w _ _ h) (.inl ⟨by rfl, fun y hy => ?_⟩) hS0 ?_
  · go_simp
  refine wpZ_take [21] (i := 7) (v := (.slice va i vc)) t7 (by kernel_rfl) (by kernel_rfl) (by kernel_rfl) (by kernel_rfl) (fun c a w h => HPan.out c a w _ _ h) (.inl ⟨by rfl, fun y hy => ?_⟩) hS0 ?_
  · go_simp
  refine wpZ_take [21] (i := 9) (v := (.agg #[.string s, .int .u8 d, .int .u8 q, .slice (some ⟨rr, 0, none⟩) L L])) t9 (by kernel_rfl) (by kernel_rfl) (by kernel_rfl) (by kernel_rfl) (fun c a w h => HPan.out c a w _ _ h) (.inl ⟨by rfl, fun y hy => ?_⟩) hS0 ?_
  · obtain ⟨y0, y1, y2, y3, y4⟩ := hy; go_simp
  refine wpZ_take [21] (i := 12) (v := (.pointer (some ⟨rb, 0, none⟩))) t12 (by kernel_rfl) (by kernel_rfl) (by kernel_rfl) (by kernel_rfl) (fun c a w h => HPan.out c a w _ _ h) (.inl ⟨by rfl, fun y hy => ?_⟩) hS0 ?_
  · go_simp
  refine wpZ_take [21] (i := 13) (v := (.pointer (some ⟨rb, 0, none⟩))) t13 (by kernel_rfl) (by kernel_rfl) (by kernel_rfl) (by kernel_rfl) (fun c a w h => HPan.out c a w _ _ h) (.inl ⟨by rfl, fun y hy => ?_⟩) hS0 ?_
  · go_simp
  refine wpZ_take [21] (i := 14) (v := (.pointer (some ⟨rb, 2, none⟩))) t14 (by kernel_rfl) (by kernel_rfl) (by kernel_rfl) (by kernel_rfl) (fun c a w h => HPan.out c a w _ _ h) (.inl ⟨by rfl, fun y hy => ?_⟩) hS0 ?_
  · go_simp
  refine wpZ_take [21] (i := 15) (v := (.slice va ps.length vc)) t15 (by kernel_rfl) (by kernel_rfl) (by kernel_rfl) (by kernel_rfl) (fun c a w h => HPan.out c a w _ _ h) (.inl ⟨by rfl, fun y hy => ?_⟩) hS0 ?_
  · obtain ⟨y0, y1, y2, y3, y4⟩ := hy; go_simp
  refine wpZ_take [21] (i := 16) (v := (.int .i64 i)) t16 (by kernel_rfl) (by kernel_rfl) (by kernel_rfl) (by kernel_rfl) (fun c a w h => HPan.out c a w _ _ h) (.inl ⟨by rfl, fun y hy => ?_⟩) hS0 ?_
  · go_simp
  refine wpZ_take [21] (i := 17) (v := v92) t17 (by kernel_rfl) (by kernel_rfl) (by kernel_rfl) (by kernel_rfl) (fun c a w h => HPan.out c a w _ _ h) (.inl ⟨by rfl, fun y hy => ?_⟩) hS0 ?_
  · have s92 := HV92.out; go_simp; first | done | (simp only [*]; done) | (rw [← s92]; simp; done) | exact congrArg (fun z => Result.ok (Next.value z) y) s92

  have HKS : Hid (∀ y : World, Below V.heap.size V y → y.cell? ⟨rb, 2, none⟩ = some (.slice va ps.length vc) ∧ y.cell? ⟨xb, 0, none⟩ = some (.string s) ∧ y.cell? ⟨xb, 1, none⟩ = some (.int .u8 d) ∧ y.cell? ⟨xb, 2, none⟩ = some (.int .u8 q) ∧ y.cell? ⟨xb, 3, none⟩ = some (.slice (some ⟨rr, 0, none⟩) L L)) := hidI fun y hy => by
    have z : ∀ {p : Addr} {v : Value}, V.cell? p = some v → y.cell? p = some v := fun {p v} hc => (hy.cell (World.block_lt_of_cell? V _ hc)).trans hc
    exact ⟨z hS0.1, z hS0.2.1, z hS0.2.2.1, z hS0.2.2.2.1, z hS0.2.2.2.2⟩
  have HTK : Hid ((ps.take i).length = i) := hidI (by rw [List.length_take]; omega)
  have HDR : Hid ((ps.drop i).length ≤ 24) := hidI (by rw [List.length_drop]; omega)
  have H1T : Hid (∀ p ∈ ps.take i, p.2.oneCell' = true) := hidI fun p hp => H1.out p (List.mem_of_mem_take hp)
  have H1D : Hid (∀ p ∈ ps.drop i, p.2.oneCell' = true) := hidI fun p hp => H1.out p (List.mem_of_mem_drop hp)
  have H1X : Hid (∀ p ∈ [((⟨s, d, q, zs⟩ : One), (Value.slice (some ⟨rr, 0, none⟩) L L))], p.2.oneCell' = true) := hidI fun p hp => by rw [List.mem_singleton] at hp; subst hp; rfl
  have s82 : Hid (∀ y : World, Below V.heap.size V y → SeesR y (.slice va i vc) (ps.take i).length (flatO (ps.take i))) := hidI fun y hy => by rw [HTK.out]; exact (cut_low HSv.out i hik).grown (below_grown hy (Nat.le_refl _) none) (Classical.em _)
  have s92 : Hid (∀ y : World, Below V.heap.size V y → SeesR y v92 (ps.drop i).length (flatO (ps.drop i))) := hidI fun y hy => by rw [← HV92.out]; exact (cut_high HSv.out i hik).grown (below_grown hy (Nat.le_refl _) none) (Classical.em _)
  have hi24 : i ≤ 24 := by omega

  have HOI : Hid (((V.alloc (Obj.cells #[] 102)).alloc (Obj.cells #[.string s, .int .u8 d, .int .u8 q, .slice (some ⟨rr, 0, none⟩) L L] 102)).ownsRow V.heap.size 102 4 (.slice (some ⟨V.heap.size, 0, none⟩) 0 0) 0 []) := hidI ((World.ownsRow_made (base := V.heap.size) (e := 102) (size := 4)  V #[] 0 (Nat.le_refl _) (by unfold maxLen; omega) rfl).alloc _)
  have HOII : Hid ((V.alloc (Obj.cells #[] 102)).ownsRow V.heap.size 102 4 (.slice (some ⟨V.heap.size, 0, none⟩) 0 0) 0 []) := hidI (World.ownsRow_made (base := V.heap.size) (e := 102) (size := 4)  V #[] 0 (Nat.le_refl _) (by unfold maxLen; omega) rfl)
  have HOIII : Hid (((V.alloc (Obj.cells #[.string s, .int .u8 d, .int .u8 q, .slice (some ⟨rr, 0, none⟩) L L] 102)).alloc (Obj.cells #[] 102)).ownsRow V.heap.size 102 4 (.slice (some ⟨V.heap.size + 1, 0, none⟩) 0 0) 0 []) := hidI (by
    have := World.ownsRow_made (base := V.heap.size) (e := 102) (size := 4)  (V.alloc (Obj.cells #[.string s, .int .u8 d, .int .u8 q, .slice (some ⟨rr, 0, none⟩) L L] 102)) #[] 0 (by simp) (by unfold maxLen; omega) rfl
    rwa [World.size_alloc] at this)
  refine wpZ_all (rs := [1, 10]) (by kernel_rfl) (by simp) fun j0 hj0 => ?_
  have hj01 : j0 = 1 ∨ j0 = 10 := by simpa using hj0
  clear hj0
  rcases hj01 with rfl | rfl
  · refine wpOp_go t1 rfl fun K1 hK1 => ?_
    unfold Oper.wp
    go_simp
    refine hK1 _ _ ⟨fun _ => HKS.out _ (by (repeat (first | exact Below.refl _ _ | assumption | refine Below.drew ?_ | refine Below.alloc ?_ (by first | omega | (simp; done) | (simp; omega)) _ | refine Below.setCell ?_ (by first | omega | (simp; done) | (simp; omega)) _))), ?_⟩
    clear hK1 K1
    refine wpZ_all (rs := [8, 10]) (by kernel_rfl) (by simp) fun j1 hj1 => ?_
    have hj11 : j1 = 10 ∨ j1 = 8 := by have : j1 = 8 ∨ j1 = 10 := by simpa using hj1
                                       omega
    clear hj1
    rcases hj11 with rfl | rfl
    · refine wpOp_go t10 rfl fun K1 hK1 => ?_
      unfold Oper.wp
      go_simp
      refine hK1 _ _ ⟨fun _ => HKS.out _ (by (repeat (first | exact Below.refl _ _ | assumption | refine Below.drew ?_ | refine Below.alloc ?_ (by first | omega | (simp; done) | (simp; omega)) _ | refine Below.setCell ?_ (by first | omega | (simp; done) | (simp; omega)) _))), ?_⟩
      clear hK1 K1
      refine wpZ_all (rs := [8]) (by kernel_rfl) (by simp) fun j8 hj8 => ?_
      obtain rfl : j8 = 8 := by simpa using hj8
      refine wpOp_go t8 rfl fun K1 hK1 => ?_
      refine wp_append_ones _ _ rfl V.heap.size (.slice (some ⟨V.heap.size, 0, none⟩) 0 0) 0 [] rfl HOI.out (.slice va i vc) (ps.take i) rfl (s82.out _ (by (repeat (first | exact Below.refl _ _ | assumption | refine Below.drew ?_ | refine Below.alloc ?_ (by first | omega | (simp; done) | (simp; omega)) _ | refine Below.setCell ?_ (by first | omega | (simp; done) | (simp; omega)) _)))) H1T.out (by have := HTK.out; omega) (by simp only [World.size_alloc]; omega) ?_
      intro v83 W3 hown3 hgrow3 hat3
      rw [Nat.zero_add, List.nil_append, HTK.out] at hown3
      have hB3 : Below V.heap.size V W3 := Below.grown (w := (V.alloc (Obj.cells #[] 102)).alloc (Obj.cells #[.string s, .int .u8 d, .int .u8 q, .slice (some ⟨rr, 0, none⟩) L L] 102)) (by (repeat (first | exact Below.refl _ _ | assumption | refine Below.drew ?_ | refine Below.alloc ?_ (by first | omega | (simp; done) | (simp; omega)) _ | refine Below.setCell ?_ (by first | omega | (simp; done) | (simp; omega)) _))) hgrow3 (by simp only [World.size_alloc]; omega) (fun k hk => ((HOI.out).lt k hk).1)
      have HO83 : Hid (W3.ownsRow V.heap.size 102 4 v83 i (flatO (ps.take i))) := hidI hown3
      have HS85 : Hid (SeesR W3 (.slice (some ⟨V.heap.size + 1, 0, none⟩) 1 1) 1 (flatO [((⟨s, d, q, zs⟩ : One), (Value.slice (some ⟨rr, 0, none⟩) L L))])) := hidI ((by have := one_seen (W := V.alloc (Obj.cells #[] 102)) (⟨s, d, q, zs⟩ : One) (Value.slice (some ⟨rr, 0, none⟩) L L); rwa [World.size_alloc] at this : SeesR ((V.alloc (Obj.cells #[] 102)).alloc (Obj.cells #[.string s, .int .u8 d, .int .u8 q, .slice (some ⟨rr, 0, none⟩) L L] 102)) (.slice (some ⟨V.heap.size + 1, 0, none⟩) 1 1) 1 (flatO [((⟨s, d, q, zs⟩ : One), (Value.slice (some ⟨rr, 0, none⟩) L L))])).grown hgrow3 (.inr (by simp [Value.ownBlock])))
      have HBF := hidI hB3
      refine hK1 _ _ ⟨fun _ => HKS.out _ HBF.out, ?_⟩
      clear hK1 K1 hown3 hgrow3 hat3 hB3
      refine wpZ_all (rs := [11]) (by kernel_rfl) (by simp) fun j11 hj11 => ?_
      obtain rfl : j11 = 11 := by simpa using hj11
      refine wpOp_go t11 rfl fun K1 hK1 => ?_
      refine wp_append_ones _ _ rfl V.heap.size v83 i (flatO (ps.take i)) rfl HO83.out _ [((⟨s, d, q, zs⟩ : One), (Value.slice (some ⟨rr, 0, none⟩) L L))] rfl HS85.out H1X.out (by simp only [List.length_cons, List.length_nil]; omega) HBF.out.size ?_
      intro v86 W5 hown5 hgrow5 hat5
      have HB5 : Hid (Below V.heap.size V W5) := hidI (HBF.out.grown hgrow5 HBF.out.size (fun k hk => (HO83.out.lt k hk).1))
      have HO86 : Hid (W5.ownsRow V.heap.size 102 4 v86 (i + 1) (flatO (ps.take i) ++ flatO [((⟨s, d, q, zs⟩ : One), (Value.slice (some ⟨rr, 0, none⟩) L L))])) := hidI (by simpa only [List.length_cons, List.length_nil, Nat.zero_add] using hown5)
      refine hK1 _ _ ⟨fun _ => HKS.out _ HB5.out, ?_⟩
      clear hK1 K1 hown5 hgrow5 hat5 HO83 HS85 HBF
      refine wpZ_all (rs := [18]) (by kernel_rfl) (by simp) fun j18 hj18 => ?_
      obtain rfl : j18 = 18 := by simpa using hj18
      refine wpOp_go t18 rfl fun K1 hK1 => ?_
      refine wp_append_ones _ _ rfl V.heap.size v86 (i + 1) _ rfl HO86.out v92 (ps.drop i) rfl (s92.out _ HB5.out) H1D.out (by have := HDR.out; omega) HB5.out.size ?_
      intro v93 W6 hown6 hgrow6 hat6
      have HB6 : Hid (Below V.heap.size V W6) := hidI (HB5.out.grown hgrow6 HB5.out.size (fun k hk => (HO86.out.lt k hk).1))
      have HO93 : Hid (W6.ownsRow V.heap.size 102 4 v93 (ps.take i ++ ((⟨s, d, q, zs⟩ : One), (Value.slice (some ⟨rr, 0, none⟩) L L)) :: ps.drop i).length (flatO (ps.take i ++ ((⟨s, d, q, zs⟩ : One), (Value.slice (some ⟨rr, 0, none⟩) L L)) :: ps.drop i))) := hidI (by
        have hl6 : (ps.take i ++ ((⟨s, d, q, zs⟩ : One), (Value.slice (some ⟨rr, 0, none⟩) L L)) :: ps.drop i).length = i + 1 + (ps.drop i).length := by have := HTK.out; simp only [List.length_append, List.length_cons]; omega
        have hf6 : flatO (ps.take i ++ ((⟨s, d, q, zs⟩ : One), (Value.slice (some ⟨rr, 0, none⟩) L L)) :: ps.drop i) = flatO (ps.take i) ++ flatO [((⟨s, d, q, zs⟩ : One), (Value.slice (some ⟨rr, 0, none⟩) L L))] ++ flatO (ps.drop i) := by rw [show ps.take i ++ ((⟨s, d, q, zs⟩ : One), (Value.slice (some ⟨rr, 0, none⟩) L L)) :: ps.drop i = (ps.take i ++ [((⟨s, d, q, zs⟩ : One), (Value.slice (some ⟨rr, 0, none⟩) L L))]) ++ ps.drop i by simp, flatO_append, flatO_append]
        rw [hl6, hf6]; exact hown6)
      refine hK1 _ _ ⟨fun _ => HKS.out _ HB6.out, ?_⟩
      clear hK1 K1 hown6 hgrow6 hat6 HO86 HB5
      have hS6 := HKS.out _ HB6.out
      obtain ⟨a6, l6, c6, hv6⟩ : ∃ a6 l6 c6, v93 = .slice a6 l6 c6 := by
        obtain ⟨a6, c6, h6, _⟩ := (seesR_of_owns HO93.out).1
        exact ⟨_, _, _, h6⟩
      subst hv6
      have hf6 : W6.frozen? ⟨rb, 2, none⟩ = false := (HB6.out.frozen (p := ⟨rb, 2, none⟩) hrbV).trans hfz
      have hc6 := hS6.1
      refine wpZ_take [20, 21] (i := 19) (v := (.pointer (some ⟨rb, 0, none⟩))) t19 (by kernel_rfl) (by kernel_rfl) (by kernel_rfl) (by kernel_rfl) (fun c a w h => HPan.out c a w _ _ h) (.inl ⟨by rfl, fun y hy => ?_⟩) hS6 ?_
      · go_simp
      refine wpZ_take [21] (i := 20) (v := (.pointer (some ⟨rb, 2, none⟩))) t20 (by kernel_rfl) (by kernel_rfl) (by kernel_rfl) (by kernel_rfl) (fun c a w h => HPan.out c a w _ _ h) (.inl ⟨by rfl, fun y hy => ?_⟩) hS6 ?_
      · go_simp
      refine wpZ_last (by kernel_rfl) (by kernel_rfl) ?_ _
      refine wpOp_go t21 rfl fun K1 hK1 => ?_
      unfold Oper.wp
      go_simp
      refine hK1 _ _ ?_
      exact HQ.out _ _ _ _ _ _ _ _ _ _ _ _ _ _ _ _ _ _ _ _ _ _ _ HB6.out HO93.out
    · refine wpOp_go t8 rfl fun K1 hK1 => ?_
      refine wp_append_ones _ _ rfl V.heap.size (.slice (some ⟨V.heap.size, 0, none⟩) 0 0) 0 [] rfl HOII.out (.slice va i vc) (ps.take i) rfl (s82.out _ (by (repeat (first | exact Below.refl _ _ | assumption | refine Below.drew ?_ | refine Below.alloc ?_ (by first | omega | (simp; done) | (simp; omega)) _ | refine Below.setCell ?_ (by first | omega | (simp; done) | (simp; omega)) _)))) H1T.out (by have := HTK.out; omega) (by simp only [World.size_alloc]; omega) ?_
      intro v83 W3 hown3 hgrow3 hat3
      rw [Nat.zero_add, List.nil_append, HTK.out] at hown3
      have hB3 : Below V.heap.size V W3 := Below.grown (w := V.alloc (Obj.cells #[] 102)) (by (repeat (first | exact Below.refl _ _ | assumption | refine Below.drew ?_ | refine Below.alloc ?_ (by first | omega | (simp; done) | (simp; omega)) _ | refine Below.setCell ?_ (by first | omega | (simp; done) | (simp; omega)) _))) hgrow3 (by simp only [World.size_alloc]; omega) (fun k hk => ((HOII.out).lt k hk).1)
      have HO83 : Hid (W3.ownsRow V.heap.size 102 4 v83 i (flatO (ps.take i))) := hidI hown3
      refine hK1 _ _ ⟨fun _ => HKS.out _ hB3, ?_⟩
      clear hK1 K1
      refine wpZ_all (rs := [10]) (by kernel_rfl) (by simp) fun j10 hj10 => ?_
      obtain rfl : j10 = 10 := by simpa using hj10
      refine wpOp_go t10 rfl fun K1 hK1 => ?_
      unfold Oper.wp
      go_simp
      have HB4 : Hid (Below V.heap.size V (W3.alloc (Obj.cells #[.string s, .int .u8 d, .int .u8 q, .slice (some ⟨rr, 0, none⟩) L L] 102))) := hidI (hB3.alloc hB3.size _)
      have HO83b : Hid ((W3.alloc (Obj.cells #[.string s, .int .u8 d, .int .u8 q, .slice (some ⟨rr, 0, none⟩) L L] 102)).ownsRow V.heap.size 102 4 v83 i (flatO (ps.take i))) := hidI (HO83.out.alloc _)
      have HS85 : Hid (SeesR (W3.alloc (Obj.cells #[.string s, .int .u8 d, .int .u8 q, .slice (some ⟨rr, 0, none⟩) L L] 102)) (.slice (some ⟨W3.heap.size, 0, none⟩) 1 1) 1 (flatO [((⟨s, d, q, zs⟩ : One), (Value.slice (some ⟨rr, 0, none⟩) L L))])) := hidI (one_seen (W := W3) (⟨s, d, q, zs⟩ : One) (Value.slice (some ⟨rr, 0, none⟩) L L))
      refine hK1 _ _ ⟨fun _ => HKS.out _ HB4.out, ?_⟩
      clear hK1 K1 HO83 hown3 hgrow3 hat3
      generalize W3.heap.size = gx at *
      generalize W3.alloc (Obj.cells #[.string s, .int .u8 d, .int .u8 q, .slice (some ⟨rr, 0, none⟩) L L] 102) = W4 at *
      have HO83 := HO83b
      have HBF := HB4
      refine wpZ_all (rs := [11]) (by kernel_rfl) (by simp) fun j11 hj11 => ?_
      obtain rfl : j11 = 11 := by simpa using hj11
      refine wpOp_go t11 rfl fun K1 hK1 => ?_
      refine wp_append_ones _ _ rfl V.heap.size v83 i (flatO (ps.take i)) rfl HO83.out _ [((⟨s, d, q, zs⟩ : One), (Value.slice (some ⟨rr, 0, none⟩) L L))] rfl HS85.out H1X.out (by simp only [List.length_cons, List.length_nil]; omega) HBF.out.size ?_
      intro v86 W5 hown5 hgrow5 hat5
      have HB5 : Hid (Below V.heap.size V W5) := hidI (HBF.out.grown hgrow5 HBF.out.size (fun k hk => (HO83.out.lt k hk).1))
      have HO86 : Hid (W5.ownsRow V.heap.size 102 4 v86 (i + 1) (flatO (ps.take i) ++ flatO [((⟨s, d, q, zs⟩ : One), (Value.slice (some ⟨rr, 0, none⟩) L L))])) := hidI (by simpa only [List.length_cons, List.length_nil, Nat.zero_add] using hown5)
      refine hK1 _ _ ⟨fun _ => HKS.out _ HB5.out, ?_⟩
      clear hK1 K1 hown5 hgrow5 hat5 HO83 HS85 HBF
      refine wpZ_all (rs := [18]) (by kernel_rfl) (by simp) fun j18 hj18 => ?_
      obtain rfl : j18 = 18 := by simpa using hj18
      refine wpOp_go t18 rfl fun K1 hK1 => ?_
      refine wp_append_ones _ _ rfl V.heap.size v86 (i + 1) _ rfl HO86.out v92 (ps.drop i) rfl (s92.out _ HB5.out) H1D.out (by have := HDR.out; omega) HB5.out.size ?_
      intro v93 W6 hown6 hgrow6 hat6
      have HB6 : Hid (Below V.heap.size V W6) := hidI (HB5.out.grown hgrow6 HB5.out.size (fun k hk => (HO86.out.lt k hk).1))
      have HO93 : Hid (W6.ownsRow V.heap.size 102 4 v93 (ps.take i ++ ((⟨s, d, q, zs⟩ : One), (Value.slice (some ⟨rr, 0, none⟩) L L)) :: ps.drop i).length (flatO (ps.take i ++ ((⟨s, d, q, zs⟩ : One), (Value.slice (some ⟨rr, 0, none⟩) L L)) :: ps.drop i))) := hidI (by
        have hl6 : (ps.take i ++ ((⟨s, d, q, zs⟩ : One), (Value.slice (some ⟨rr, 0, none⟩) L L)) :: ps.drop i).length = i + 1 + (ps.drop i).length := by have := HTK.out; simp only [List.length_append, List.length_cons]; omega
        have hf6 : flatO (ps.take i ++ ((⟨s, d, q, zs⟩ : One), (Value.slice (some ⟨rr, 0, none⟩) L L)) :: ps.drop i) = flatO (ps.take i) ++ flatO [((⟨s, d, q, zs⟩ : One), (Value.slice (some ⟨rr, 0, none⟩) L L))] ++ flatO (ps.drop i) := by rw [show ps.take i ++ ((⟨s, d, q, zs⟩ : One), (Value.slice (some ⟨rr, 0, none⟩) L L)) :: ps.drop i = (ps.take i ++ [((⟨s, d, q, zs⟩ : One), (Value.slice (some ⟨rr, 0, none⟩) L L))]) ++ ps.drop i by simp, flatO_append, flatO_append]
        rw [hl6, hf6]; exact hown6)
      refine hK1 _ _ ⟨fun _ => HKS.out _ HB6.out, ?_⟩
      clear hK1 K1 hown6 hgrow6 hat6 HO86 HB5
      have hS6 := HKS.out _ HB6.out
      obtain ⟨a6, l6, c6, hv6⟩ : ∃ a6 l6 c6, v93 = .slice a6 l6 c6 := by
        obtain ⟨a6, c6, h6, _⟩ := (seesR_of_owns HO93.out).1
        exact ⟨_, _, _, h6⟩
      subst hv6
      have hf6 : W6.frozen? ⟨rb, 2, none⟩ = false := (HB6.out.frozen (p := ⟨rb, 2, none⟩) hrbV).trans hfz
      have hc6 := hS6.1
      refine wpZ_take [20, 21] (i := 19) (v := (.pointer (some ⟨rb, 0, none⟩))) t19 (by kernel_rfl) (by kernel_rfl) (by kernel_rfl) (by kernel_rfl) (fun c a w h => HPan.out c a w _ _ h) (.inl ⟨by rfl, fun y hy => ?_⟩) hS6 ?_
      · go_simp
      refine wpZ_take [21] (i := 20) (v := (.pointer (some ⟨rb, 2, none⟩))) t20 (by kernel_rfl) (by kernel_rfl) (by kernel_rfl) (by kernel_rfl) (fun c a w h => HPan.out c a w _ _ h) (.inl ⟨by rfl, fun y hy => ?_⟩) hS6 ?_
      · go_simp
      refine wpZ_last (by kernel_rfl) (by kernel_rfl) ?_ _
      refine wpOp_go t21 rfl fun K1 hK1 => ?_
      unfold Oper.wp
      go_simp
      refine hK1 _ _ ?_
      exact HQ.out _ _ _ _ _ _ _ _ _ _ _ _ _ _ _ _ _ _ _ _ _ _ _ HB6.out HO93.out
  · refine wpOp_go t10 rfl fun K1 hK1 => ?_
    unfold Oper.wp
    go_simp
    refine hK1 _ _ ⟨fun _ => HKS.out _ (by (repeat (first | exact Below.refl _ _ | assumption | refine Below.drew ?_ | refine Below.alloc ?_ (by first | omega | (simp; done) | (simp; omega)) _ | refine Below.setCell ?_ (by first | omega | (simp; done) | (simp; omega)) _))), ?_⟩
    clear hK1 K1
    refine wpZ_all (rs := [1]) (by kernel_rfl) (by simp) fun j1 hj1 => ?_
    obtain rfl : j1 = 1 := by simpa using hj1
    refine wpOp_go t1 rfl fun K1 hK1 => ?_
    unfold Oper.wp
    go_simp
    refine hK1 _ _ ⟨fun _ => HKS.out _ (by (repeat (first | exact Below.refl _ _ | assumption | refine Below.drew ?_ | refine Below.alloc ?_ (by first | omega | (simp; done) | (simp; omega)) _ | refine Below.setCell ?_ (by first | omega | (simp; done) | (simp; omega)) _))), ?_⟩
    clear hK1 K1
    refine wpZ_all (rs := [8]) (by kernel_rfl) (by simp) fun j8 hj8 => ?_
    obtain rfl : j8 = 8 := by simpa using hj8
    refine wpOp_go t8 rfl fun K1 hK1 => ?_
    refine wp_append_ones _ _ rfl V.heap.size (.slice (some ⟨V.heap.size + 1, 0, none⟩) 0 0) 0 [] rfl HOIII.out (.slice va i vc) (ps.take i) rfl (s82.out _ (by (repeat (first | exact Below.refl _ _ | assumption | refine Below.drew ?_ | refine Below.alloc ?_ (by first | omega | (simp; done) | (simp; omega)) _ | refine Below.setCell ?_ (by first | omega | (simp; done) | (simp; omega)) _)))) H1T.out (by have := HTK.out; omega) (by simp only [World.size_alloc]; omega) ?_
    intro v83 W3 hown3 hgrow3 hat3
    rw [Nat.zero_add, List.nil_append, HTK.out] at hown3
    have hB3 : Below V.heap.size V W3 := Below.grown (w := (V.alloc (Obj.cells #[.string s, .int .u8 d, .int .u8 q, .slice (some ⟨rr, 0, none⟩) L L] 102)).alloc (Obj.cells #[] 102)) (by (repeat (first | exact Below.refl _ _ | assumption | refine Below.drew ?_ | refine Below.alloc ?_ (by first | omega | (simp; done) | (simp; omega)) _ | refine Below.setCell ?_ (by first | omega | (simp; done) | (simp; omega)) _))) hgrow3 (by simp only [World.size_alloc]; omega) (fun k hk => ((HOIII.out).lt k hk).1)
    have HO83 : Hid (W3.ownsRow V.heap.size 102 4 v83 i (flatO (ps.take i))) := hidI hown3
    have HS85 : Hid (SeesR W3 (.slice (some ⟨V.heap.size, 0, none⟩) 1 1) 1 (flatO [((⟨s, d, q, zs⟩ : One), (Value.slice (some ⟨rr, 0, none⟩) L L))])) := hidI (((one_seen (W := V) (⟨s, d, q, zs⟩ : One) (Value.slice (some ⟨rr, 0, none⟩) L L)).grown (World.grownBy_alloc _ (Obj.cells #[] 102) none) (Classical.em _)).grown hgrow3 (.inr (by simp [Value.ownBlock])))
    have HBF := hidI hB3
    refine hK1 _ _ ⟨fun _ => HKS.out _ HBF.out, ?_⟩
    clear hK1 K1 hown3 hgrow3 hat3 hB3
    refine wpZ_all (rs := [11]) (by kernel_rfl) (by simp) fun j11 hj11 => ?_
    obtain rfl : j11 = 11 := by simpa using hj11
    refine wpOp_go t11 rfl fun K1 hK1 => ?_
    refine wp_append_ones _ _ rfl V.heap.size v83 i (flatO (ps.take i)) rfl HO83.out _ [((⟨s, d, q, zs⟩ : One), (Value.slice (some ⟨rr, 0, none⟩) L L))] rfl HS85.out H1X.out (by simp only [List.length_cons, List.length_nil]; omega) HBF.out.size ?_
    intro v86 W5 hown5 hgrow5 hat5
    have HB5 : Hid (Below V.heap.size V W5) := hidI (HBF.out.grown hgrow5 HBF.out.size (fun k hk => (HO83.out.lt k hk).1))
    have HO86 : Hid (W5.ownsRow V.heap.size 102 4 v86 (i + 1) (flatO (ps.take i) ++ flatO [((⟨s, d, q, zs⟩ : One), (Value.slice (some ⟨rr, 0, none⟩) L L))])) := hidI (by simpa only [List.length_cons, List.length_nil, Nat.zero_add] using hown5)
    refine hK1 _ _ ⟨fun _ => HKS.out _ HB5.out, ?_⟩
    clear hK1 K1 hown5 hgrow5 hat5 HO83 HS85 HBF
    refine wpZ_all (rs := [18]) (by kernel_rfl) (by simp) fun j18 hj18 => ?_
    obtain rfl : j18 = 18 := by simpa using hj18
    refine wpOp_go t18 rfl fun K1 hK1 => ?_
    refine wp_append_ones _ _ rfl V.heap.size v86 (i + 1) _ rfl HO86.out v92 (ps.drop i) rfl (s92.out _ HB5.out) H1D.out (by have := HDR.out; omega) HB5.out.size ?_
    intro v93 W6 hown6 hgrow6 hat6
    have HB6 : Hid (Below V.heap.size V W6) := hidI (HB5.out.grown hgrow6 HB5.out.size (fun k hk => (HO86.out.lt k hk).1))
    have HO93 : Hid (W6.ownsRow V.heap.size 102 4 v93 (ps.take i ++ ((⟨s, d, q, zs⟩ : One), (Value.slice (some ⟨rr, 0, none⟩) L L)) :: ps.drop i).length (flatO (ps.take i ++ ((⟨s, d, q, zs⟩ : One), (Value.slice (some ⟨rr, 0, none⟩) L L)) :: ps.drop i))) := hidI (by
      have hl6 : (ps.take i ++ ((⟨s, d, q, zs⟩ : One), (Value.slice (some ⟨rr, 0, none⟩) L L)) :: ps.drop i).length = i + 1 + (ps.drop i).length := by have := HTK.out; simp only [List.length_append, List.length_cons]; omega
      have hf6 : flatO (ps.take i ++ ((⟨s, d, q, zs⟩ : One), (Value.slice (some ⟨rr, 0, none⟩) L L)) :: ps.drop i) = flatO (ps.take i) ++ flatO [((⟨s, d, q, zs⟩ : One), (Value.slice (some ⟨rr, 0, none⟩) L L))] ++ flatO (ps.drop i) := by rw [show ps.take i ++ ((⟨s, d, q, zs⟩ : One), (Value.slice (some ⟨rr, 0, none⟩) L L)) :: ps.drop i = (ps.take i ++ [((⟨s, d, q, zs⟩ : One), (Value.slice (some ⟨rr, 0, none⟩) L L))]) ++ ps.drop i by simp, flatO_append, flatO_append]
      rw [hl6, hf6]; exact hown6)
    refine hK1 _ _ ⟨fun _ => HKS.out _ HB6.out, ?_⟩
    clear hK1 K1 hown6 hgrow6 hat6 HO86 HB5
    have hS6 := HKS.out _ HB6.out
    obtain ⟨a6, l6, c6, hv6⟩ : ∃ a6 l6 c6, v93 = .slice a6 l6 c6 := by
      obtain ⟨a6, c6, h6, _⟩ := (seesR_of_owns HO93.out).1
      exact ⟨_, _, _, h6⟩
    subst hv6
    have hf6 : W6.frozen? ⟨rb, 2, none⟩ = false := (HB6.out.frozen (p := ⟨rb, 2, none⟩) hrbV).trans hfz
    have hc6 := hS6.1
    refine wpZ_take [20, 21] (i := 19) (v := (.pointer (some ⟨rb, 0, none⟩))) t19 (by kernel_rfl) (by kernel_rfl) (by kernel_rfl) (by kernel_rfl) (fun c a w h => HPan.out c a w _ _ h) (.inl ⟨by rfl, fun y hy => ?_⟩) hS6 ?_
    · go_simp
    refine wpZ_take [21] (i := 20) (v := (.pointer (some ⟨rb, 2, none⟩))) t20 (by kernel_rfl) (by kernel_rfl) (by kernel_rfl) (by kernel_rfl) (fun c a w h => HPan.out c a w _ _ h) (.inl ⟨by rfl, fun y hy => ?_⟩) hS6 ?_
    · go_simp
    refine wpZ_last (by kernel_rfl) (by kernel_rfl) ?_ _
    refine wpOp_go t21 rfl fun K1 hK1 => ?_
    unfold Oper.wp
    go_simp
    refine hK1 _ _ ?_
    exact HQ.out _ _ _ _ _ _ _ _ _ _ _ _ _ _ _ _ _ _ _ _ _ _ _ HB6.out HO93.out

end Go.Proofs.Ytbjoljokdjgbnab
/-
  Declare of the document's table: a column that is new.
-/
namespace Go.Proofs.Ytbjoljokdjgbnab
open Go.RowKit Go.Deep Go.MapKept
theorem ins_step (k : Ky) (os : List One) (i : Nat) (o : One) (ho : os[i]? = some o) (hlt : ltK o.ky k = true) : i + insAt k (os.drop i) = i + 1 + insAt k (os.drop (i + 1)) := by
  have hi := (List.getElem?_eq_some_iff.1 ho).1
  rw [List.drop_eq_getElem_cons hi, (List.getElem?_eq_some_iff.1 ho).2, insAt, if_pos hlt]
  omega
theorem ins_stop (k : Ky) (os : List One) (i : Nat) (o : One) (ho : os[i]? = some o) (hlt : ltK o.ky k = false) : insAt k (os.drop i) = 0 := by
  have hi := (List.getElem?_eq_some_iff.1 ho).1
  rw [List.drop_eq_getElem_cons hi, (List.getElem?_eq_some_iff.1 ho).2, insAt, if_neg (by rw [hlt]; decide)]
set_option maxRecDepth 100000 in
set_option maxHeartbeats 3000000 in
theorem rdecl_go (N : Nat → Prop) (rb : Nat) (n m : Int) (os : List One) (s : ByteArray) (d q : Int) (w : World) (h : Book w N rb n m os) (hl : os.length ≤ 24) (hn : isName s = true) (hd : side d = true) (hq : kind q = true) (L : Nat) (hL : sideLen n m d = L) (hL30 : L ≤ 30) :
    Calls Try.prog 70 #[.pointer (some ⟨rb, 0, none⟩), ke s d, .int .u8 q] w (RPost w N rb n m (match os.find? (One.at s d) with | some _ => 6 | none => if os.length < 24 then 0 else 4) (insO os ⟨s, d, q, List.replicate L 0⟩)) := by
  have CN : Hid (∀ u, Calls Try.prog 88 #[.string s] u fun e w' => e = .returned (.bool true) ∧ u = w') := hidI fun u => hn ▸ rname_any s u
  have C : Hid (∀ u, Below w.heap.size w u → Calls Try.prog 54 #[.pointer (some ⟨rb, 0, none⟩), ke s d] u fun e w' => e = .returned (.int .i64 (atE s d 0 os)) ∧ Below u.heap.size u w') := hidI fun u hu => rat_any rb n m os s d u (h.of.below hu (Nat.le_refl _)) (by omega)
  have H := hidI h
  have hrb := h.rb
  have CLn : Hid (∀ u, Below w.heap.size w u → Calls Try.prog 49 #[.pointer (some ⟨rb, 0, none⟩), .int .u8 d] u fun e w' => e = .returned (.int .i64 (L : Int)) ∧ u = w') := hidI fun u hu => hL ▸ rlen_any rb n m d u ((hu.cell (p := ⟨rb, 0, none⟩) hrb).trans h.2.2.1) ((hu.cell (p := ⟨rb, 1, none⟩) hrb).trans h.2.2.2.1)
  clear h
  have k0 : (d == 0) = false := by simp [side] at hd; simp; omega
  have k1 : decide (3 < d) = false := by simp [side] at hd; simp; omega
  have k2 : (q == 0) = false := by simp [kind] at hq; simp; omega
  have k3 : decide (2 < q) = false := by simp [kind] at hq; simp; omega
  have hmk := make60 L (by omega)
  have HK := hidI (And.intro hd hq)
  clear hd hq hn
  rcases at_cases os s d with ⟨i, o, ho, e1, e2, ha, hf⟩ | ⟨ha, hf⟩
  · rw [ha] at C
    rw [hf]
    have k4 : decide ((0 : Int) ≤ (i : Int)) = true := by simp
    go_enter Try.func70, Try.ntmps70
    go_wp2_with (first | (go_at_call 88; refine Calls.mono (CN.out _) ?_; rintro e w1 ⟨rfl, rfl⟩) | (go_at_call 54; refine Calls.mono (C.out _ (by (repeat (first | exact Below.refl _ _ | assumption | refine Below.drew ?_ | refine Below.alloc ?_ (by first | omega | (simp; done) | (simp; omega)) _ | refine Below.setCell ?_ (by first | omega | (simp; done) | (simp; omega)) _)))) ?_; rintro e w1 ⟨rfl, hb1⟩; refine Hid.out ?_))
    refine hidI ?_
    have HB : Hid (Below w.heap.size w w1) := hidI (Below.trans (by (repeat (first | exact Below.refl _ _ | assumption | refine Below.drew ?_ | refine Below.alloc ?_ (by first | omega | (simp; done) | (simp; omega)) _ | refine Below.setCell ?_ (by first | omega | (simp; done) | (simp; omega)) _))) (hb1.mono (by simp)))
    clear hb1 C
    go_wp2
    go_ret
    exact RPost.bad (by decide) HB.out
  · rw [ha] at C
    rw [hf]
    simp only
    generalize hR : (if os.length < 24 then (0 : Int) else 4) = r
    have HR := hidI hR
    clear hR
    go_enter Try.func70, Try.ntmps70
    go_wp2_with (first | (go_at_call 88; refine Calls.mono (CN.out _) ?_; rintro e w1 ⟨rfl, rfl⟩) | (go_at_call 54; refine Calls.mono (C.out _ (by (repeat (first | exact Below.refl _ _ | assumption | refine Below.drew ?_ | refine Below.alloc ?_ (by first | omega | (simp; done) | (simp; omega)) _ | refine Below.setCell ?_ (by first | omega | (simp; done) | (simp; omega)) _)))) ?_; rintro e w1 ⟨rfl, hb1⟩; refine Hid.out ?_))
    refine hidI ?_
    have HB : Hid (Below w.heap.size w w1) := hidI (Below.trans (by (repeat (first | exact Below.refl _ _ | assumption | refine Below.drew ?_ | refine Below.alloc ?_ (by first | omega | (simp; done) | (simp; omega)) _ | refine Below.setCell ?_ (by first | omega | (simp; done) | (simp; omega)) _))) (hb1.mono (by simp)))
    have g0 : w1.cell? ⟨w.heap.size, 0, none⟩ = some (.string s) := by
      refine (hb1.cell (p := ⟨w.heap.size, 0, none⟩) (by simp)).trans ?_
      go_simp
    have g1 : w1.cell? ⟨w.heap.size, 1, none⟩ = some (.int .u8 d) := by
      refine (hb1.cell (p := ⟨w.heap.size, 1, none⟩) (by simp)).trans ?_
      go_simp
    have hsz := hb1.size
    simp only [World.size_alloc] at hsz
    clear hb1 C CN
    have HKK := hidI (H.out.below HB.out (Nat.le_refl _))
    obtain ⟨hN1, _, m0, m1, _, v, ps, c2, hps, hS, hFv, hP⟩ := HKK.out
    have HN1 := hidI hN1
    have HP := hidI hP
    have HFv := hidI hFv
    have HSv := hidI hS
    clear hN1 hP hFv
    subst hps
    rw [List.length_map] at hl
    obtain ⟨va, vc, rfl, hvc, hS⟩ := hS
    obtain ⟨k, hk⟩ : ∃ k, ps.length = k := ⟨_, rfl⟩
    have HPL := hidI hk
    rw [hk] at c2 hl hvc
    by_cases h24 : 24 ≤ k
    · have k5 : decide ((24 : Int) ≤ (k : Int)) = true := by simp; omega
      clear hS hk
      go_wp2
      go_ret
      have hln := HPL.out
      obtain rfl : (4 : Int) = r := by rw [← HR.out, if_neg (by rw [List.length_map]; omega)]
      exact RPost.bad (by decide) HB.out
    · have k5 : decide ((24 : Int) ≤ (k : Int)) = false := by simp; omega
      have HSS := hidI hS
      obtain rfl : (0 : Int) = r := by rw [← HR.out, if_pos (by rw [List.length_map]; omega)]
      clear hS hk
      go_wp2
      go_loopg [7] k (fun g s7 wx => ∃ i : Nat, i + g = k ∧ s7 = .int .i64 i ∧ insAt (s, d) (ps.map Prod.fst) = i + insAt (s, d) ((ps.map Prod.fst).drop i) ∧ Hid (Below w1.heap.size w1 wx))
      case atStart => exact ⟨0, by omega, rfl, by simp, hidI (Below.refl _ _)⟩
      case round =>
        obtain ⟨i, hig, rfl, hins, HX⟩ := hrel
        have HIN := hidI hins
        clear hins
        have kk : ∀ {p : Addr} {v : Value}, w1.cell? p = some v → wr.cell? p = some v := fun {p v} hc => (HX.out.cell (World.block_lt_of_cell? w1 _ hc)).trans hc
        have c2' := kk c2
        have g0' := kk g0
        have g1' := kk g1
        have hwr := HX.out.size
        have q2 := fun d os => cell_regrown c2' d os
        have q3 := fun d os => cell_regrown g0' d os
        have q4 := fun d os => cell_regrown g1' d os
        have hw1 := HB.out.size
        have HBR : Hid (Below w.heap.size w wr) := hidI (HB.out.trans (HX.out.mono hw1))
        have hcase : (i = k) ∨ (i < k ∧ ∃ p : One × Value, ps[i]? = some p) := by
          rcases Nat.lt_or_ge i k with hlt | hge
          · exact .inr ⟨hlt, _, List.getElem?_eq_getElem (by have := HPL.out; omega)⟩
          · exact .inl (by omega)
        rcases hcase with rfl | ⟨hik, p, hp⟩
        · have k6 : decide ((i : Int) < (i : Int)) = false := by simp
          have HI : Hid (insAt (s, d) (ps.map Prod.fst) = i) := hidI (by
            have := HIN.out
            rw [List.drop_eq_nil_of_le (by have := HPL.out; simp; omega)] at this
            simpa [insAt] using this)
          go_wp2
          refine wp_region_quiet_below (by kernel_rfl) (by kernel_rfl) ?_
          repeat (first | go_big_quiet_step (fail) | quiet_step (fail))
          refine wpQuiet_nil ?_
          intro _ hw'
          obtain ⟨⟨dq, osq⟩, hw''⟩ := hw'
          subst hw''
          have kkq := hidI (below_regrown wr dq osq)
          generalize Go.Sort.grow (redrawn wr dq) osq = wu at *
          have HBU : Hid (Below w.heap.size w wu) := hidI (HBR.out.trans (kkq.out.mono HBR.out.size))
          clear q2 q3 q4
          have kv : ∀ {p : Addr} {v : Value}, wr.cell? p = some v → wu.cell? p = some v := fun {p v} hc => (kkq.out.cell (World.block_lt_of_cell? wr _ hc)).trans hc
          have f0 := kv g0'
          have f1 := kv g1'
          have f2 := kv c2'
          have f3 := kv (kk m0)
          have f4 := kv (kk m1)
          have hbs := HBU.out.size
          have hxs : w.heap.size < wu.heap.size := World.block_lt_of_cell? wu ⟨w.heap.size, 0, none⟩ f0
          have hik : i ≤ ps.length := by have := HPL.out; omega
          have HSU : Hid (SeesR wu (.slice va ps.length vc) ps.length (flatO ps)) := hidI ((HSv.out.grown (below_grown HX.out (Nat.le_refl _) none) (Classical.em _)).grown (below_grown kkq.out (Nat.le_refl _) none) (Classical.em _))
          have H1 := hidI (fun p hp => sees_cell (HP.out p hp).1)
          clear kv g0 g1 g0' g1' c2' c2 m0 m1 kk hik
          go_wp2
          go_region_held3 (fun w' => w'.cell? ⟨w.heap.size, 0, none⟩ = some (.string s) ∧ w'.cell? ⟨w.heap.size, 1, none⟩ = some (.int .u8 d) ∧ w'.cell? ⟨rb, 0, none⟩ = some (.int .i64 n) ∧ w'.cell? ⟨rb, 1, none⟩ = some (.int .i64 m))
            (exact ⟨by go_keep, by go_keep, by go_keep, by go_keep⟩)
            ((go_at_call 49; refine Calls.mono (CLn.out _ (by have := HBU.out; (repeat (first | exact Below.refl _ _ | assumption | refine Below.drew ?_ | refine Below.alloc ?_ (by first | omega | (simp; done) | (simp; omega)) _ | refine Below.setCell ?_ (by first | omega | (simp; done) | (simp; omega)) _)))) ?_; rintro e w' ⟨rfl, rfl⟩))
          all_goals
            go_wp2
            have hfin : ∃ xb rr U, True := ⟨0, 0, wu, trivial⟩
            clear hfin
            have MK := hidI (fun (u : World) => @World.alloc_heap_new u)
            first
              | (show Code.wp _ _ _ _ (((wu.alloc (Obj.cells (madeCells #[.int .i64 0] L) 51)).alloc (Obj.cells #[.string s, .int .u8 d, .int .u8 q, .slice (some ⟨wu.heap.size, 0, none⟩) L L] 102)).drew)
                 have hUB : Below w.heap.size w (((wu.alloc (Obj.cells (madeCells #[.int .i64 0] L) 51)).alloc (Obj.cells #[.string s, .int .u8 d, .int .u8 q, .slice (some ⟨wu.heap.size, 0, none⟩) L L] 102)).drew) := (by have := HBU.out; (repeat (first | exact Below.refl _ _ | assumption | refine Below.drew ?_ | refine Below.alloc ?_ (by first | omega | (simp; done) | (simp; omega)) _ | refine Below.setCell ?_ (by first | omega | (simp; done) | (simp; omega)) _)))
                 have hb2 : Below wu.heap.size wu (((wu.alloc (Obj.cells (madeCells #[.int .i64 0] L) 51)).alloc (Obj.cells #[.string s, .int .u8 d, .int .u8 q, .slice (some ⟨wu.heap.size, 0, none⟩) L L] 102)).drew) := (by (repeat (first | exact Below.refl _ _ | assumption | refine Below.drew ?_ | refine Below.alloc ?_ (by first | omega | (simp; done) | (simp; omega)) _ | refine Below.setCell ?_ (by first | omega | (simp; done) | (simp; omega)) _)))
                 have x0 : (((wu.alloc (Obj.cells (madeCells #[.int .i64 0] L) 51)).alloc (Obj.cells #[.string s, .int .u8 d, .int .u8 q, .slice (some ⟨wu.heap.size, 0, none⟩) L L] 102)).drew).cell? ⟨wu.heap.size + 1, 0, none⟩ = some (.string s) := by go_simp
                 have x1 : (((wu.alloc (Obj.cells (madeCells #[.int .i64 0] L) 51)).alloc (Obj.cells #[.string s, .int .u8 d, .int .u8 q, .slice (some ⟨wu.heap.size, 0, none⟩) L L] 102)).drew).cell? ⟨wu.heap.size + 1, 1, none⟩ = some (.int .u8 d) := by go_simp
                 have x2 : (((wu.alloc (Obj.cells (madeCells #[.int .i64 0] L) 51)).alloc (Obj.cells #[.string s, .int .u8 d, .int .u8 q, .slice (some ⟨wu.heap.size, 0, none⟩) L L] 102)).drew).cell? ⟨wu.heap.size + 1, 2, none⟩ = some (.int .u8 q) := by go_simp
                 have x3 : (((wu.alloc (Obj.cells (madeCells #[.int .i64 0] L) 51)).alloc (Obj.cells #[.string s, .int .u8 d, .int .u8 q, .slice (some ⟨wu.heap.size, 0, none⟩) L L] 102)).drew).cell? ⟨wu.heap.size + 1, 3, none⟩ = some (.slice (some ⟨wu.heap.size, 0, none⟩) L L) := by go_simp
                 have xr : (((wu.alloc (Obj.cells (madeCells #[.int .i64 0] L) 51)).alloc (Obj.cells #[.string s, .int .u8 d, .int .u8 q, .slice (some ⟨wu.heap.size, 0, none⟩) L L] 102)).drew).heap[wu.heap.size]? = some (.cells (madeCells #[.int .i64 0] L) 51) := (Below.heap_alloc _ _ _ (by simp)).trans (World.alloc_heap_new wu _)
                 have xl : wu.heap.size < (((wu.alloc (Obj.cells (madeCells #[.int .i64 0] L) 51)).alloc (Obj.cells #[.string s, .int .u8 d, .int .u8 q, .slice (some ⟨wu.heap.size, 0, none⟩) L L] 102)).drew).heap.size := (Array.getElem?_eq_some_iff.1 xr).1
                 have xx : wu.heap.size < wu.heap.size + 1 := by omega
                 have xw : wu.heap.size ≤ wu.heap.size + 1 := by omega
                 have xq : wu.heap.size ≤ wu.heap.size := Nat.le_refl _
                 generalize (((wu.alloc (Obj.cells (madeCells #[.int .i64 0] L) 51)).alloc (Obj.cells #[.string s, .int .u8 d, .int .u8 q, .slice (some ⟨wu.heap.size, 0, none⟩) L L] 102)).drew) = U at x0 x1 x2 x3 xr xl hUB hb2 ⊢
                 obtain ⟨xb, hxb⟩ : ∃ xb, wu.heap.size + 1 = xb := ⟨_, rfl⟩
                 obtain ⟨rr, hrr⟩ : ∃ rr, wu.heap.size = rr := ⟨_, rfl⟩
                 have hxr : wu.heap.size ≤ xb ∧ wu.heap.size ≤ rr := ⟨by omega, by omega⟩
                 have HXR := hidI hxr
                 rw [hxb] at x0 x1 x2 x3 ⊢
                 rw [hrr] at x3 xr xl ⊢
                 clear hxb hrr xx xw xq hxr
                 refine hidI ?_)
              | (show Code.wp _ _ _ _ (((wu.alloc (Obj.cells #[.string s, .int .u8 d, .int .u8 q, .slice (some ⟨wu.heap.size + 1, 0, none⟩) L L] 102)).alloc (Obj.cells (madeCells #[.int .i64 0] L) 51)).drew)
                 have hUB : Below w.heap.size w (((wu.alloc (Obj.cells #[.string s, .int .u8 d, .int .u8 q, .slice (some ⟨wu.heap.size + 1, 0, none⟩) L L] 102)).alloc (Obj.cells (madeCells #[.int .i64 0] L) 51)).drew) := (by have := HBU.out; (repeat (first | exact Below.refl _ _ | assumption | refine Below.drew ?_ | refine Below.alloc ?_ (by first | omega | (simp; done) | (simp; omega)) _ | refine Below.setCell ?_ (by first | omega | (simp; done) | (simp; omega)) _)))
                 have hb2 : Below wu.heap.size wu (((wu.alloc (Obj.cells #[.string s, .int .u8 d, .int .u8 q, .slice (some ⟨wu.heap.size + 1, 0, none⟩) L L] 102)).alloc (Obj.cells (madeCells #[.int .i64 0] L) 51)).drew) := (by (repeat (first | exact Below.refl _ _ | assumption | refine Below.drew ?_ | refine Below.alloc ?_ (by first | omega | (simp; done) | (simp; omega)) _ | refine Below.setCell ?_ (by first | omega | (simp; done) | (simp; omega)) _)))
                 have x0 : (((wu.alloc (Obj.cells #[.string s, .int .u8 d, .int .u8 q, .slice (some ⟨wu.heap.size + 1, 0, none⟩) L L] 102)).alloc (Obj.cells (madeCells #[.int .i64 0] L) 51)).drew).cell? ⟨wu.heap.size, 0, none⟩ = some (.string s) := by go_simp
                 have x1 : (((wu.alloc (Obj.cells #[.string s, .int .u8 d, .int .u8 q, .slice (some ⟨wu.heap.size + 1, 0, none⟩) L L] 102)).alloc (Obj.cells (madeCells #[.int .i64 0] L) 51)).drew).cell? ⟨wu.heap.size, 1, none⟩ = some (.int .u8 d) := by go_simp
                 have x2 : (((wu.alloc (Obj.cells #[.string s, .int .u8 d, .int .u8 q, .slice (some ⟨wu.heap.size + 1, 0, none⟩) L L] 102)).alloc (Obj.cells (madeCells #[.int .i64 0] L) 51)).drew).cell? ⟨wu.heap.size, 2, none⟩ = some (.int .u8 q) := by go_simp
                 have x3 : (((wu.alloc (Obj.cells #[.string s, .int .u8 d, .int .u8 q, .slice (some ⟨wu.heap.size + 1, 0, none⟩) L L] 102)).alloc (Obj.cells (madeCells #[.int .i64 0] L) 51)).drew).cell? ⟨wu.heap.size, 3, none⟩ = some (.slice (some ⟨wu.heap.size + 1, 0, none⟩) L L) := by go_simp
                 have xr : (((wu.alloc (Obj.cells #[.string s, .int .u8 d, .int .u8 q, .slice (some ⟨wu.heap.size + 1, 0, none⟩) L L] 102)).alloc (Obj.cells (madeCells #[.int .i64 0] L) 51)).drew).heap[wu.heap.size + 1]? = some (.cells (madeCells #[.int .i64 0] L) 51) := by
                   have := World.alloc_heap_new (wu.alloc (Obj.cells #[.string s, .int .u8 d, .int .u8 q, .slice (some ⟨wu.heap.size + 1, 0, none⟩) L L] 102)) (Obj.cells (madeCells #[.int .i64 0] L) 51)
                   rwa [World.size_alloc] at this
                 have xl := (Array.getElem?_eq_some_iff.1 xr).1
                 generalize (((wu.alloc (Obj.cells #[.string s, .int .u8 d, .int .u8 q, .slice (some ⟨wu.heap.size + 1, 0, none⟩) L L] 102)).alloc (Obj.cells (madeCells #[.int .i64 0] L) 51)).drew) = U at x0 x1 x2 x3 xr xl hUB hb2 ⊢
                 obtain ⟨rr, hrr⟩ : ∃ rr, wu.heap.size + 1 = rr := ⟨_, rfl⟩
                 obtain ⟨xb, hxb⟩ : ∃ xb, wu.heap.size = xb := ⟨_, rfl⟩
                 have hxr : wu.heap.size ≤ xb ∧ wu.heap.size ≤ rr := ⟨by omega, by omega⟩
                 have HXR := hidI hxr
                 rw [hrr] at x3 xr xl ⊢
                 rw [hxb] at x0 x1 x2 x3 ⊢
                 clear hxb hrr hxr
                 refine hidI ?_)
            refine Hid.out ?_
            have F2 : U.cell? ⟨rb, 2, none⟩ = some (.slice va i vc) := (hb2.cell (World.block_lt_of_cell? wu ⟨rb, 2, none⟩ f2)).trans f2
            have hU2 := hb2.size
            have hS0 : U.drew.cell? ⟨rb, 2, none⟩ = some (.slice va i vc) ∧ U.drew.cell? ⟨xb, 0, none⟩ = some (.string s) ∧ U.drew.cell? ⟨xb, 1, none⟩ = some (.int .u8 d) ∧ U.drew.cell? ⟨xb, 2, none⟩ = some (.int .u8 q) ∧ U.drew.cell? ⟨xb, 3, none⟩ = some (.slice (some ⟨rr, 0, none⟩) L L) := ⟨F2, x0, x1, x2, x3⟩
            have HUB : Hid (Below w.heap.size w U.drew) := hidI hUB.drew
            have HB2 : Hid (Below wu.heap.size wu U.drew) := hidI hb2.drew
            have HXR2 : Hid (U.drew.heap[rr]? = some (.cells (madeCells #[.int .i64 0] L) 51)) := hidI xr
            clear F2 x0 x1 x2 x3 xr hUB hb2 f0 f1 f2 f3 f4 MK xl hU2
            have HSU2 := hidI (HSU.out.grown (below_grown HB2.out (Nat.le_refl _) none) (Classical.em _))
            have hfz2 : U.drew.frozen? ⟨rb, 2, none⟩ = false := (HUB.out.frozen (p := ⟨rb, 2, none⟩) hrb).trans H.out.2.2.2.2.1
            have hik : i ≤ ps.length := by have := HPL.out; omega
            have hp24 : ps.length ≤ 24 := by have := HPL.out; omega
            rw [← HPL.out] at hS0
            refine reg15 (zs := List.replicate L 0) hS0 hfz2 HSU2.out H1.out hik hp24 (fun _ _ _ _ _ h => h) ?_
            intro W6 v93 t75 t76 t77 t78 t79 t80 t81 t82 t83 t84 t85 t86 t87 t88 t89 t90 t91 t92 t93 t94 t95 hB6 hO93
            obtain ⟨V, hV⟩ : ∃ V, U.drew = V := ⟨_, rfl⟩
            rw [hV] at HUB HB2 HXR2 hB6 hO93
            clear hV hfz2 hS0 HSU2
            have HB6 := hidI hB6
            have HO93 := hidI hO93
            have hVw : w.heap.size ≤ V.heap.size := HUB.out.size
            have HW6 : Hid (Below w.heap.size w W6) := hidI (HUB.out.trans (HB6.out.mono hVw))
            clear hB6 hO93
            go_wp2
            go_ret
            have hi' := HI.out
            have hins : insO (ps.map Prod.fst) ⟨s, d, q, List.replicate L 0⟩ = (ps.take i ++ ((⟨s, d, q, List.replicate L 0⟩ : One), (Value.slice (some ⟨rr, 0, none⟩) L L)) :: ps.drop i).map Prod.fst := by
              unfold insO
              rw [show One.ky ⟨s, d, q, List.replicate L 0⟩ = (s, d) from rfl, hi', List.map_append, List.map_cons, List.map_take, List.map_drop]
            rw [hins]
            have hsz6 := HW6.out.size
            have hVs := HB6.out.size
            have hwu := HB2.out.size
            have hwv := kkq.out.size
            have hN1 := HN1.out
            have hNw : ∀ k, N k → k < w.heap.size := H.out.1
            obtain ⟨hx1, hx2⟩ := HXR.out
            refine (fun hh => RPost.good hh.1 hh.2) (H.out.renew HW6.out (seesR_of_owns HO93.out).1 (Free.made (w := w) (fun b hb => ?_) hNw hrb) ?_)
            · have := HO93.out.lt b hb; exact ⟨by omega, this.2⟩
            · intro p hp
              rcases List.mem_append.1 hp with hp | hp
              · have := HP.out p (List.mem_of_mem_take hp)
                exact ⟨this.1.grown (below_grown (HX.out.trans ((kkq.out.trans ((HB2.out.trans (HB6.out.mono hwu)).mono hwv)).mono hwr)) (Nat.le_refl _) none) (Classical.em _), this.2.more (by omega) fun k hk => .inl hk⟩
              · rcases List.mem_cons.1 hp with rfl | hp
                · refine ⟨zeros_seen L rr ?_, Free.made (w := w) (fun b hb => ?_) hNw hrb⟩
                  · have := HXR2.out
                    exact (HB6.out.block rr (Array.getElem?_eq_some_iff.1 this).1).trans this
                  · obtain rfl : rr = b := by simpa [Value.ownBlock] using hb
                    have := (Array.getElem?_eq_some_iff.1 HXR2.out).1
                    exact ⟨by omega, by omega⟩
                · have := HP.out p (List.mem_of_mem_drop hp)
                  exact ⟨this.1.grown (below_grown (HX.out.trans ((kkq.out.trans ((HB2.out.trans (HB6.out.mono hwu)).mono hwv)).mono hwr)) (Nat.le_refl _) none) (Classical.em _), this.2.more (by omega) fun k hk => .inl hk⟩
        · obtain ⟨o, pv⟩ := p
          have k6 : (i : Int) < (k : Int) := by omega
          rcases HSS.out with h0 | ⟨b, off, rfl, hlie⟩
          · have := HPL.out; omega
          have e0 := hlie _ _ ((flatO_get ps i _ hp 0 (by omega)).trans rfl)
          have e1 := hlie _ _ ((flatO_get ps i _ hp 1 (by omega)).trans rfl)
          simp only [Nat.add_zero, ← Nat.add_assoc] at e0 e1
          have q5 := fun d os => cell_regrown (kk e0) d os
          have q6 := fun d os => cell_regrown (kk e1) d os
          have C86 := hidI (fun dd (oo : Array Obj) => Calls.regrown_of (w := wr) (d := dd) (os := oo) (rbefore_any o.name s o.side d (Go.Sort.grow (redrawn wr dd) oo)))
          have hpo : (ps.map Prod.fst)[i]? = some o := by rw [List.getElem?_map, hp]; rfl
          clear hlie
          cases hlt : ltK (o.name, o.side) (s, d) with
          | true =>
            rw [hlt] at C86
            go_wp2
            refine wp_region_quiet_below (by kernel_rfl) (by kernel_rfl) ?_
            repeat (first | go_big_quiet_step ((go_at_call 86; exact C86.out _ _)) | quiet_step ((go_at_call 86; exact C86.out _ _)))
            refine wpQuiet_nil ?_
            intro _ hw'
            obtain ⟨⟨dq, osq⟩, hw''⟩ := hw'
            subst hw''
            have kkq := hidI (below_regrown wr dq osq)
            generalize Go.Sort.grow (redrawn wr dq) osq = wu at *
            clear q2 q3 q4 q5 q6 C86
            cases gk with
            | zero => omega
            | succ g =>
              go_wp2
              go_roundg g
              case measure => omega
              case rel => exact ⟨i + 1, by omega, by go_num, by rw [HIN.out]; exact ins_step (s, d) _ i o hpo hlt, hidI (HX.out.trans (kkq.out.mono hwr))⟩
          | false =>
            rw [hlt] at C86
            have HI : Hid (insAt (s, d) (ps.map Prod.fst) = i) := hidI (by
              have := HIN.out
              rwa [ins_stop (s, d) _ i o hpo hlt] at this)
            go_wp2
            refine wp_region_quiet_below (by kernel_rfl) (by kernel_rfl) ?_
            repeat (first | go_big_quiet_step ((go_at_call 86; exact C86.out _ _)) | quiet_step ((go_at_call 86; exact C86.out _ _)))
            refine wpQuiet_nil ?_
            intro _ hw'
            obtain ⟨⟨dq, osq⟩, hw''⟩ := hw'
            subst hw''
            have kkq := hidI (below_regrown wr dq osq)
            generalize Go.Sort.grow (redrawn wr dq) osq = wu at *
            have HBU : Hid (Below w.heap.size w wu) := hidI (HBR.out.trans (kkq.out.mono HBR.out.size))
            clear q2 q3 q4 q5 q6 C86
            have kv : ∀ {p : Addr} {v : Value}, wr.cell? p = some v → wu.cell? p = some v := fun {p v} hc => (kkq.out.cell (World.block_lt_of_cell? wr _ hc)).trans hc
            have f0 := kv g0'
            have f1 := kv g1'
            have f2 := kv c2'
            have f3 := kv (kk m0)
            have f4 := kv (kk m1)
            have hbs := HBU.out.size
            have hxs : w.heap.size < wu.heap.size := World.block_lt_of_cell? wu ⟨w.heap.size, 0, none⟩ f0
            have hik : i ≤ ps.length := by have := HPL.out; omega
            have HSU : Hid (SeesR wu (.slice (some ⟨b, off, none⟩) ps.length vc) ps.length (flatO ps)) := hidI ((HSv.out.grown (below_grown HX.out (Nat.le_refl _) none) (Classical.em _)).grown (below_grown kkq.out (Nat.le_refl _) none) (Classical.em _))
            have H1 := hidI (fun p hp => sees_cell (HP.out p hp).1)
            clear kv g0 g1 g0' g1' c2' c2 m0 m1 kk hik
            go_wp2
            go_region_held3 (fun w' => w'.cell? ⟨w.heap.size, 0, none⟩ = some (.string s) ∧ w'.cell? ⟨w.heap.size, 1, none⟩ = some (.int .u8 d) ∧ w'.cell? ⟨rb, 0, none⟩ = some (.int .i64 n) ∧ w'.cell? ⟨rb, 1, none⟩ = some (.int .i64 m))
              (exact ⟨by go_keep, by go_keep, by go_keep, by go_keep⟩)
              ((go_at_call 49; refine Calls.mono (CLn.out _ (by have := HBU.out; (repeat (first | exact Below.refl _ _ | assumption | refine Below.drew ?_ | refine Below.alloc ?_ (by first | omega | (simp; done) | (simp; omega)) _ | refine Below.setCell ?_ (by first | omega | (simp; done) | (simp; omega)) _)))) ?_; rintro e w' ⟨rfl, rfl⟩))
            all_goals
              go_wp2
              have hfin : ∃ xb rr U, True := ⟨0, 0, wu, trivial⟩
              clear hfin
              have MK := hidI (fun (u : World) => @World.alloc_heap_new u)
              first
                | (show Code.wp _ _ _ _ (((wu.alloc (Obj.cells (madeCells #[.int .i64 0] L) 51)).alloc (Obj.cells #[.string s, .int .u8 d, .int .u8 q, .slice (some ⟨wu.heap.size, 0, none⟩) L L] 102)).drew)
                   have hUB : Below w.heap.size w (((wu.alloc (Obj.cells (madeCells #[.int .i64 0] L) 51)).alloc (Obj.cells #[.string s, .int .u8 d, .int .u8 q, .slice (some ⟨wu.heap.size, 0, none⟩) L L] 102)).drew) := (by have := HBU.out; (repeat (first | exact Below.refl _ _ | assumption | refine Below.drew ?_ | refine Below.alloc ?_ (by first | omega | (simp; done) | (simp; omega)) _ | refine Below.setCell ?_ (by first | omega | (simp; done) | (simp; omega)) _)))
                   have hb2 : Below wu.heap.size wu (((wu.alloc (Obj.cells (madeCells #[.int .i64 0] L) 51)).alloc (Obj.cells #[.string s, .int .u8 d, .int .u8 q, .slice (some ⟨wu.heap.size, 0, none⟩) L L] 102)).drew) := (by (repeat (first | exact Below.refl _ _ | assumption | refine Below.drew ?_ | refine Below.alloc ?_ (by first | omega | (simp; done) | (simp; omega)) _ | refine Below.setCell ?_ (by first | omega | (simp; done) | (simp; omega)) _)))
                   have x0 : (((wu.alloc (Obj.cells (madeCells #[.int .i64 0] L) 51)).alloc (Obj.cells #[.string s, .int .u8 d, .int .u8 q, .slice (some ⟨wu.heap.size, 0, none⟩) L L] 102)).drew).cell? ⟨wu.heap.size + 1, 0, none⟩ = some (.string s) := by go_simp
                   have x1 : (((wu.alloc (Obj.cells (madeCells #[.int .i64 0] L) 51)).alloc (Obj.cells #[.string s, .int .u8 d, .int .u8 q, .slice (some ⟨wu.heap.size, 0, none⟩) L L] 102)).drew).cell? ⟨wu.heap.size + 1, 1, none⟩ = some (.int .u8 d) := by go_simp
                   have x2 : (((wu.alloc (Obj.cells (madeCells #[.int .i64 0] L) 51)).alloc (Obj.cells #[.string s, .int .u8 d, .int .u8 q, .slice (some ⟨wu.heap.size, 0, none⟩) L L] 102)).drew).cell? ⟨wu.heap.size + 1, 2, none⟩ = some (.int .u8 q) := by go_simp
                   have x3 : (((wu.alloc (Obj.cells (madeCells #[.int .i64 0] L) 51)).alloc (Obj.cells #[.string s, .int .u8 d, .int .u8 q, .slice (some ⟨wu.heap.size, 0, none⟩) L L] 102)).drew).cell? ⟨wu.heap.size + 1, 3, none⟩ = some (.slice (some ⟨wu.heap.size, 0, none⟩) L L) := by go_simp
                   have xr : (((wu.alloc (Obj.cells (madeCells #[.int .i64 0] L) 51)).alloc (Obj.cells #[.string s, .int .u8 d, .int .u8 q, .slice (some ⟨wu.heap.size, 0, none⟩) L L] 102)).drew).heap[wu.heap.size]? = some (.cells (madeCells #[.int .i64 0] L) 51) := (Below.heap_alloc _ _ _ (by simp)).trans (World.alloc_heap_new wu _)
                   have xl : wu.heap.size < (((wu.alloc (Obj.cells (madeCells #[.int .i64 0] L) 51)).alloc (Obj.cells #[.string s, .int .u8 d, .int .u8 q, .slice (some ⟨wu.heap.size, 0, none⟩) L L] 102)).drew).heap.size := (Array.getElem?_eq_some_iff.1 xr).1
                   have xx : wu.heap.size < wu.heap.size + 1 := by omega
                   have xw : wu.heap.size ≤ wu.heap.size + 1 := by omega
                   have xq : wu.heap.size ≤ wu.heap.size := Nat.le_refl _
                   generalize (((wu.alloc (Obj.cells (madeCells #[.int .i64 0] L) 51)).alloc (Obj.cells #[.string s, .int .u8 d, .int .u8 q, .slice (some ⟨wu.heap.size, 0, none⟩) L L] 102)).drew) = U at x0 x1 x2 x3 xr xl hUB hb2 ⊢
                   obtain ⟨xb, hxb⟩ : ∃ xb, wu.heap.size + 1 = xb := ⟨_, rfl⟩
                   obtain ⟨rr, hrr⟩ : ∃ rr, wu.heap.size = rr := ⟨_, rfl⟩
                   have hxr : wu.heap.size ≤ xb ∧ wu.heap.size ≤ rr := ⟨by omega, by omega⟩
                   have HXR := hidI hxr
                   rw [hxb] at x0 x1 x2 x3 ⊢
                   rw [hrr] at x3 xr xl ⊢
                   clear hxb hrr xx xw xq hxr
                   refine hidI ?_)
                | (show Code.wp _ _ _ _ (((wu.alloc (Obj.cells #[.string s, .int .u8 d, .int .u8 q, .slice (some ⟨wu.heap.size + 1, 0, none⟩) L L] 102)).alloc (Obj.cells (madeCells #[.int .i64 0] L) 51)).drew)
                   have hUB : Below w.heap.size w (((wu.alloc (Obj.cells #[.string s, .int .u8 d, .int .u8 q, .slice (some ⟨wu.heap.size + 1, 0, none⟩) L L] 102)).alloc (Obj.cells (madeCells #[.int .i64 0] L) 51)).drew) := (by have := HBU.out; (repeat (first | exact Below.refl _ _ | assumption | refine Below.drew ?_ | refine Below.alloc ?_ (by first | omega | (simp; done) | (simp; omega)) _ | refine Below.setCell ?_ (by first | omega | (simp; done) | (simp; omega)) _)))
                   have hb2 : Below wu.heap.size wu (((wu.alloc (Obj.cells #[.string s, .int .u8 d, .int .u8 q, .slice (some ⟨wu.heap.size + 1, 0, none⟩) L L] 102)).alloc (Obj.cells (madeCells #[.int .i64 0] L) 51)).drew) := (by (repeat (first | exact Below.refl _ _ | assumption | refine Below.drew ?_ | refine Below.alloc ?_ (by first | omega | (simp; done) | (simp; omega)) _ | refine Below.setCell ?_ (by first | omega | (simp; done) | (simp; omega)) _)))
                   have x0 : (((wu.alloc (Obj.cells #[.string s, .int .u8 d, .int .u8 q, .slice (some ⟨wu.heap.size + 1, 0, none⟩) L L] 102)).alloc (Obj.cells (madeCells #[.int .i64 0] L) 51)).drew).cell? ⟨wu.heap.size, 0, none⟩ = some (.string s) := by go_simp
                   have x1 : (((wu.alloc (Obj.cells #[.string s, .int .u8 d, .int .u8 q, .slice (some ⟨wu.heap.size + 1, 0, none⟩) L L] 102)).alloc (Obj.cells (madeCells #[.int .i64 0] L) 51)).drew).cell? ⟨wu.heap.size, 1, none⟩ = some (.int .u8 d) := by go_simp
                   have x2 : (((wu.alloc (Obj.cells #[.string s, .int .u8 d, .int .u8 q, .slice (some ⟨wu.heap.size + 1, 0, none⟩) L L] 102)).alloc (Obj.cells (madeCells #[.int .i64 0] L) 51)).drew).cell? ⟨wu.heap.size, 2, none⟩ = some (.int .u8 q) := by go_simp
                   have x3 : (((wu.alloc (Obj.cells #[.string s, .int .u8 d, .int .u8 q, .slice (some ⟨wu.heap.size + 1, 0, none⟩) L L] 102)).alloc (Obj.cells (madeCells #[.int .i64 0] L) 51)).drew).cell? ⟨wu.heap.size, 3, none⟩ = some (.slice (some ⟨wu.heap.size + 1, 0, none⟩) L L) := by go_simp
                   have xr : (((wu.alloc (Obj.cells #[.string s, .int .u8 d, .int .u8 q, .slice (some ⟨wu.heap.size + 1, 0, none⟩) L L] 102)).alloc (Obj.cells (madeCells #[.int .i64 0] L) 51)).drew).heap[wu.heap.size + 1]? = some (.cells (madeCells #[.int .i64 0] L) 51) := by
                     have := World.alloc_heap_new (wu.alloc (Obj.cells #[.string s, .int .u8 d, .int .u8 q, .slice (some ⟨wu.heap.size + 1, 0, none⟩) L L] 102)) (Obj.cells (madeCells #[.int .i64 0] L) 51)
                     rwa [World.size_alloc] at this
                   have xl := (Array.getElem?_eq_some_iff.1 xr).1
                   generalize (((wu.alloc (Obj.cells #[.string s, .int .u8 d, .int .u8 q, .slice (some ⟨wu.heap.size + 1, 0, none⟩) L L] 102)).alloc (Obj.cells (madeCells #[.int .i64 0] L) 51)).drew) = U at x0 x1 x2 x3 xr xl hUB hb2 ⊢
                   obtain ⟨rr, hrr⟩ : ∃ rr, wu.heap.size + 1 = rr := ⟨_, rfl⟩
                   obtain ⟨xb, hxb⟩ : ∃ xb, wu.heap.size = xb := ⟨_, rfl⟩
                   have hxr : wu.heap.size ≤ xb ∧ wu.heap.size ≤ rr := ⟨by omega, by omega⟩
                   have HXR := hidI hxr
                   rw [hrr] at x3 xr xl ⊢
                   rw [hxb] at x0 x1 x2 x3 ⊢
                   clear hxb hrr hxr
                   refine hidI ?_)
              refine Hid.out ?_
              have F2 : U.cell? ⟨rb, 2, none⟩ = some (.slice (some ⟨b, off, none⟩) k vc) := (hb2.cell (World.block_lt_of_cell? wu ⟨rb, 2, none⟩ f2)).trans f2
              have hU2 := hb2.size
              have hS0 : U.drew.cell? ⟨rb, 2, none⟩ = some (.slice (some ⟨b, off, none⟩) k vc) ∧ U.drew.cell? ⟨xb, 0, none⟩ = some (.string s) ∧ U.drew.cell? ⟨xb, 1, none⟩ = some (.int .u8 d) ∧ U.drew.cell? ⟨xb, 2, none⟩ = some (.int .u8 q) ∧ U.drew.cell? ⟨xb, 3, none⟩ = some (.slice (some ⟨rr, 0, none⟩) L L) := ⟨F2, x0, x1, x2, x3⟩
              have HUB : Hid (Below w.heap.size w U.drew) := hidI hUB.drew
              have HB2 : Hid (Below wu.heap.size wu U.drew) := hidI hb2.drew
              have HXR2 : Hid (U.drew.heap[rr]? = some (.cells (madeCells #[.int .i64 0] L) 51)) := hidI xr
              clear F2 x0 x1 x2 x3 xr hUB hb2 f0 f1 f2 f3 f4 MK xl hU2
              have HSU2 := hidI (HSU.out.grown (below_grown HB2.out (Nat.le_refl _) none) (Classical.em _))
              have hfz2 : U.drew.frozen? ⟨rb, 2, none⟩ = false := (HUB.out.frozen (p := ⟨rb, 2, none⟩) hrb).trans H.out.2.2.2.2.1
              have hik : i ≤ ps.length := by have := HPL.out; omega
              have hp24 : ps.length ≤ 24 := by have := HPL.out; omega
              rw [← HPL.out] at hS0
              refine reg15 (zs := List.replicate L 0) hS0 hfz2 HSU2.out H1.out hik hp24 (fun _ _ _ _ _ h => h) ?_
              intro W6 v93 t75 t76 t77 t78 t79 t80 t81 t82 t83 t84 t85 t86 t87 t88 t89 t90 t91 t92 t93 t94 t95 hB6 hO93
              obtain ⟨V, hV⟩ : ∃ V, U.drew = V := ⟨_, rfl⟩
              rw [hV] at HUB HB2 HXR2 hB6 hO93
              clear hV hfz2 hS0 HSU2
              have HB6 := hidI hB6
              have HO93 := hidI hO93
              have hVw : w.heap.size ≤ V.heap.size := HUB.out.size
              have HW6 : Hid (Below w.heap.size w W6) := hidI (HUB.out.trans (HB6.out.mono hVw))
              clear hB6 hO93
              go_wp2
              go_ret
              have hi' := HI.out
              have hins : insO (ps.map Prod.fst) ⟨s, d, q, List.replicate L 0⟩ = (ps.take i ++ ((⟨s, d, q, List.replicate L 0⟩ : One), (Value.slice (some ⟨rr, 0, none⟩) L L)) :: ps.drop i).map Prod.fst := by
                unfold insO
                rw [show One.ky ⟨s, d, q, List.replicate L 0⟩ = (s, d) from rfl, hi', List.map_append, List.map_cons, List.map_take, List.map_drop]
              rw [hins]
              have hsz6 := HW6.out.size
              have hVs := HB6.out.size
              have hwu := HB2.out.size
              have hwv := kkq.out.size
              have hN1 := HN1.out
              have hNw : ∀ k, N k → k < w.heap.size := H.out.1
              obtain ⟨hx1, hx2⟩ := HXR.out
              refine (fun hh => RPost.good hh.1 hh.2) (H.out.renew HW6.out (seesR_of_owns HO93.out).1 (Free.made (w := w) (fun b hb => ?_) hNw hrb) ?_)
              · have := HO93.out.lt b hb; exact ⟨by omega, this.2⟩
              · intro p hp
                rcases List.mem_append.1 hp with hp | hp
                · have := HP.out p (List.mem_of_mem_take hp)
                  exact ⟨this.1.grown (below_grown (HX.out.trans ((kkq.out.trans ((HB2.out.trans (HB6.out.mono hwu)).mono hwv)).mono hwr)) (Nat.le_refl _) none) (Classical.em _), this.2.more (by omega) fun k hk => .inl hk⟩
                · rcases List.mem_cons.1 hp with rfl | hp
                  · refine ⟨zeros_seen L rr ?_, Free.made (w := w) (fun b hb => ?_) hNw hrb⟩
                    · have := HXR2.out
                      exact (HB6.out.block rr (Array.getElem?_eq_some_iff.1 this).1).trans this
                    · obtain rfl : rr = b := by simpa [Value.ownBlock] using hb
                      have := (Array.getElem?_eq_some_iff.1 HXR2.out).1
                      exact ⟨by omega, by omega⟩
                  · have := HP.out p (List.mem_of_mem_drop hp)
                    exact ⟨this.1.grown (below_grown (HX.out.trans ((kkq.out.trans ((HB2.out.trans (HB6.out.mono hwu)).mono hwv)).mono hwr)) (Nat.le_refl _) none) (Classical.em _), this.2.more (by omega) fun k hk => .inl hk⟩
end Go.Proofs.Ytbjoljokdjgbnab
