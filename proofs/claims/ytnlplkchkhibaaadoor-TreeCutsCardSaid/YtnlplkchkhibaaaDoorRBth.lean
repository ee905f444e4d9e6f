/-
  A list of places yet to go through, and the walk: the same places.
-/
import Derived.Test.YtnlplkchkhibaaaDoorRRt
import Derived.Test.YtnlplkchkhibaaaDoorHigher
import Derived.Test.YtnlplkchkhibaaaDoorRegA12
namespace Go.Proofs.YtnlplkchkhibaaaDoor
open Go.RowKit Go.Deep Go.MapKept
/-- Of places those that stand above own, and are places. -/
def filt (n own : Int) (l : List Int) : List Int := l.filter fun c => decide (own < c) && decide (c < n)
theorem filt_in {n own p : Int} {r : List Int} (h : own < p ∧ p < n) : filt n own (p :: r) = p :: filt n own r := by simp [filt, h.1, h.2]
theorem filt_out {n own p : Int} {r : List Int} (h : ¬ (own < p ∧ p < n)) : filt n own (p :: r) = filt n own r := by
  unfold filt
  rw [List.filter_cons_of_neg]
  simpa using h
theorem filt_mem {n own c : Int} {l : List Int} (h : c ∈ filt n own l) : own < c ∧ c < n := by
  have := (List.mem_filter.1 h).2
  simpa using this
/-- The list of what is yet to do, for so many steps. -/
def runB (K : Int → List Int) (n : Int) : Nat → List Int → List Int → List Int
  | 0, _, out => out
  | _ + 1, [], out => out
  | f + 1, a :: t, out => runB K n f ((filt n a (K a)).take 400 ++ t) (out ++ [a])
theorem runB_nil (K : Int → List Int) (n : Int) (f : Nat) (out : List Int) : runB K n f [] out = out := by cases f <;> rfl
theorem runB_pre (K : Int → List Int) (n : Int) : ∀ (f : Nat) (A X Y out : List Int), f ≤ A.length → runB K n f (A ++ X) out = runB K n f (A ++ Y) out
  | 0, _, _, _, _, _ => rfl
  | f + 1, [], _, _, _, h => by simp at h
  | f + 1, a :: A, X, Y, out, h => by
    simp only [List.cons_append, runB]
    rw [← List.append_assoc, ← List.append_assoc]
    exact runB_pre K n f _ X Y _ (by simp only [List.length_cons, List.length_append] at h ⊢; omega)
theorem runB_step (K : Int → List Int) (n : Int) (f : Nat) (hf : f ≤ 400) (a : Int) (t out : List Int) : runB K n (f + 1) (a :: t) out = runB K n f (filt n a (K a) ++ t) (out ++ [a]) := by
  simp only [runB]
  by_cases h : (filt n a (K a)).length ≤ 400
  · rw [List.take_of_length_le h]
  · have e : filt n a (K a) ++ t = (filt n a (K a)).take 400 ++ ((filt n a (K a)).drop 400 ++ t) := by rw [← List.append_assoc, List.take_append_drop]
    rw [e]
    exact runB_pre K n f _ _ _ _ (by rw [List.length_take]; omega)
theorem runB_walk {K : Int → List Int} {n told up own t' : Int} {l : List Int} {ys : List (Int × Int)} {ok : Bool} (h : WalkR K n told up own l t' ys ok) : 0 ≤ told → told ≤ 401 → ∀ (T out : List Int),
    runB K n (401 - told).toNat (filt n own l ++ T) out = if ok = true then runB K n (401 - t').toNat T (out ++ ys.map Prod.snd) else out ++ ys.map Prod.snd := by
  induction h with
  | done => intro _ _ T out; simp [filt]
  | skip hp _ ih => intro h0 h1 T out; rw [filt_out hp]; exact ih h0 h1 T out
  | @full told up own p r h1 h2 h3 => intro _ h4 T out; rw [show (401 - told).toNat = 0 by omega]; simp [runB]
  | @cut told up own p t' r ys h1 h2 h3 w1 ih =>
    intro h0 _ T out
    rw [filt_in ⟨h1, h2⟩, List.cons_append, show (401 - told).toNat = (401 - (told + 1)).toNat + 1 by omega, runB_step K n _ (by omega)]
    have := ih (by omega) (by omega) (filt n own r ++ T) (out ++ [p])
    rw [this]
    simp
  | @more told up own p t1 t' r ys1 ys2 ok h1 h2 h3 w1 w2 ih1 ih2 =>
    intro h0 _ T out
    rw [filt_in ⟨h1, h2⟩, List.cons_append, show (401 - told).toNat = (401 - (told + 1)).toNat + 1 by omega, runB_step K n _ (by omega)]
    have e1 := ih1 (by omega) (by omega) (filt n own r ++ T) (out ++ [p])
    have e2 := w1.told
    have e3 := w1.most (by omega)
    have e4 := ih2 (by omega) (by omega) T (out ++ [p] ++ ys1.map Prod.snd)
    rw [e1, if_pos rfl, e4]
    simp
theorem runB_all {K : Int → List Int} {n at' t' : Int} {all : List (Int × Int)} {ok : Bool} (h : WalkR K n 0 (-1) (-1) [at'] t' all ok) (h0 : 0 ≤ at') (h1 : at' < n) : runB K n 401 [at'] [] = all.map Prod.snd := by
  have := runB_walk h (by omega) (by omega) [] []
  rw [show filt n (-1) [at'] = [at'] from filt_in ⟨by omega, h1⟩] at this
  simp only [List.append_nil, List.nil_append] at this
  rw [show (401 - (0 : Int)).toNat = 401 by omega] at this
  rw [this]
  split
  · exact runB_nil _ _ _ _
  · rfl
end Go.Proofs.YtnlplkchkhibaaaDoor
/-
  The document's Below and Size, at any forms.
-/
namespace Go.Proofs.YtnlplkchkhibaaaDoor
open Go.RowKit Go.Deep Go.MapKept
/-- An append of as many as memory holds. -/
theorem wpList_append_big {P : Program} {t e size bytes : Nat} {z : Value} (ht : P.underlying t = some (.slice e)) (hinfo : (P.info? e).map (fun i => (i.zero, i.size, i.bytes)) = some (some z, size, bytes)) (hzs : z.cells.size = size) (hsz : 0 < size)
    {ops : Array Oper} {rest : List Oper} {o : Oper} {a : Act} {Q : Exit → Act → World → Prop} {W : World} (hgd : o.guard = none) (s x : Operand)
    (ho : o.op = .call { callee := .builtin .append, args := #[s, x], argTypes := #[t, t] }) (base : Nat) (v : Value) (n : Nat) (xs : List Value) (hs : a.eval s = v) (hown : W.ownsRow base e size v n xs)
    (u : Value) (m : Nat) (cs : List Value) (hx : a.eval x = u) (hu : SeesC W u m size cs) (h1 : ∀ c ∈ cs, c.oneCell' = true) (hn : n + m ≤ 140737488355328) (hnb : (n + m) * bytes ≤ 140737488355328) (hb : base ≤ W.heap.size)
    (h : ∀ v' w', w'.ownsRow base e size v' (n + m) (xs ++ cs) → W.grownBy w' v.ownBlock → (v'.ownBlock = v.ownBlock ∨ v'.ownBlock = some W.heap.size) → wpList P ops Q rest (a.put o.dst v') w') :
    wpList P ops Q (o :: rest) a W := by
  have key : ∃ v' w', (Builtin.append_ #[t, t] o.type #[v, u]).run P W = .ok v' w' ∧ w'.ownsRow base e size v' (n + m) (xs ++ cs) ∧ W.grownBy w' v.ownBlock ∧ (v'.ownBlock = v.ownBlock ∨ v'.ownBlock = some W.heap.size) := by
    obtain ⟨i0, hi, hz0, hz1, hz2⟩ := info_parts hinfo
    obtain ⟨hl, a, cap, rfl, hs⟩ := hu
    rcases hs with rfl | ⟨b, off, rfl, hc⟩
    · obtain rfl : cs = [] := List.eq_nil_of_length_eq_zero (by simpa using hl)
      refine ⟨v, W, ?_, by simpa using hown, World.grownBy.refl _ _, .inl rfl⟩
      rcases hown.2 with ⟨rfl, rfl⟩ | ⟨g, cap', cur, rfl, _, _, hle, _⟩
      · cases a <;> simp [Builtin.append_, run_underlying ht, sizeOf, typeInfo, hi, loadCells, loadCellsFrom, Builtin.lenOf, Builtin.firstCells]
      · cases a <;> simp [Builtin.append_, run_underlying ht, sizeOf, typeInfo, hi, hle, storeCells, loadCells, loadCellsFrom, Builtin.lenOf, Builtin.firstCells]
    · obtain ⟨v', w', hr, h2, h3, _, h5⟩ := run_append_own_at (P := P) W base t o.type e i0 z size bytes ht hi hz0 hz1 hz2 hzs hsz v n xs hown ⟨b, off, none⟩ m cap cs hl
        (fun j u hj => by rw [Addr.add_lit]; exact hc j u hj) h1 (by unfold maxLen; omega) hnb hb
      exact ⟨v', w', hr, h2, h3, h5⟩
  refine wpList_plain hgd fun _ hK => ?_
  obtain ⟨v', w', hr, h2, h3, h4⟩ := key
  unfold Oper.wp execOp
  simp only [ho, resolve, invoke, builtin, Sem.run_bind, Sem.run_pure, Result.andThen_ok, List.map_toArray, List.map_cons, List.map_nil, hs, hx, hr]
  exact hK _ _ (h v' w' h2 h3 h4)
/-- Places that are told, with room. -/
structure Todo (w : World) (v : Value) (l : List Int) : Prop where
  sees : SeesC w v l.length 1 (intsI l)
  room : ∀ a n c, v = .slice a n c → n ≤ c
/-- Two slices that share no block. -/
def Away (n : Nat) (tv ov : Value) : Prop := 0 < n → ∀ k, tv.ownBlock = some k → ov.ownBlock ≠ some k
theorem intsI_append2 (a b : List Int) : intsI (a ++ b) = intsI a ++ intsI b := by simp [intsI]
theorem cut_one {W : World} {b off n cap : Nat} {cs : List Value} (h : SeesC W (.slice (some ⟨b, off, none⟩) (n + 1) cap) (n + 1) 1 cs) (hc : n + 1 ≤ cap) : SeesC W (.slice (if cap = 1 then some ⟨b, off, none⟩ else some ⟨b, off + 1, none⟩) n (cap - 1)) n 1 (cs.drop 1) := by
  obtain ⟨hl, a', cap', he, hs⟩ := h
  simp only [Value.slice.injEq] at he
  obtain ⟨rfl, _, rfl⟩ := he
  refine ⟨by rw [List.length_drop, hl]; omega, _, cap - 1, rfl, ?_⟩
  by_cases hik : n = 0
  · exact .inl hik
  rcases hs with h0 | ⟨b', off', he, hs⟩
  · omega
  · cases he
    refine .inr ⟨b, off + 1, ?_, fun j u hu => ?_⟩
    · rw [if_neg (by omega)]
    · rw [List.getElem?_drop] at hu
      have := hs _ u hu
      rwa [← Nat.add_assoc] at this
theorem todo_below {w w' : World} {tv : Value} {l : List Int} {B : Nat} (h : Todo w tv l) (hb : Below B w w') (hB : w.heap.size ≤ B) : Todo w' tv l := ⟨h.sees.below hb hB, h.room⟩
theorem todo_grown {w w' : World} {tv ov ov' : Value} {l : List Int} {o : Obj} (hT : Todo w tv l) (hW : Away l.length tv ov) (hg : (w.alloc o).grownBy w' ov.ownBlock) (hat : ov'.ownBlock = ov.ownBlock ∨ ov'.ownBlock = some (w.alloc o).heap.size) : Todo w' tv l ∧ Away l.length tv ov' := by
  have hs := hT.sees.below (B := w.heap.size) ((Below.refl _ w).alloc (Nat.le_refl _) o) (Nat.le_refl _)
  by_cases hl : l.length = 0
  · obtain ⟨h1, a, c, h2, _⟩ := hT.sees
    exact ⟨⟨⟨h1, a, c, h2, .inl hl⟩, hT.room⟩, fun h => by omega⟩
  · have hlt := sees_lt hT.sees (by decide) (by omega)
    obtain ⟨k, hk⟩ : ∃ k, tv.ownBlock = some k := by
      obtain ⟨_, a, c, rfl, h | ⟨b, off, rfl, _⟩⟩ := hT.sees
      · exact absurd h hl
      · exact ⟨b, rfl⟩
    have hne : tv.ownBlock ≠ ov.ownBlock := fun e => hW (by omega) k hk (e.symm.trans hk)
    refine ⟨⟨hs.grown hg hne, hT.room⟩, fun _ k2 hk2 e => ?_⟩
    rcases hat with h | h
    · exact hW (by omega) k2 hk2 (h.symm.trans e)
    · have := hlt k2 hk2
      rw [h] at e
      simp at e
      omega
theorem filt_take {n own c : Int} {l : List Int} {i : Nat} (h : l[i]? = some c) : filt n own (l.take (i + 1)) = filt n own (l.take i) ++ (if own < c ∧ c < n then [c] else []) := by
  rw [List.take_add_one, h]
  unfold filt
  rw [List.filter_append]
  congr 1
  by_cases hc : own < c ∧ c < n
  · rw [if_pos hc]; simp [hc.1, hc.2]
  · rw [if_neg hc]; simpa using fun h1 => by have := hc; omega
theorem own_room {w : World} {base e size n : Nat} {v : Value} {xs : List Value} (h : w.ownsRow base e size v n xs) : ∀ a m c, v = .slice a m c → m ≤ c := by
  intro a m c e
  rcases h.2 with ⟨rfl, _⟩ | ⟨g, cap, cur, rfl, _, _, h4, _⟩
  · cases e; omega
  · cases e; exact h4
theorem filt_len (n own : Int) (l : List Int) (i : Nat) : (filt n own (l.take i)).length ≤ i := by
  unfold filt
  have := List.length_filter_le (fun c => decide (own < c) && decide (c < n)) (l.take i)
  rw [List.length_take] at this
  omega
set_option maxRecDepth 100000 in
set_option maxHeartbeats 4000000 in
theorem rbelow_any (fv : Value) (ms : List MV) (at' : Int) (w : World) (hm : SeesM w fv ms) (hkl : ∀ x ∈ ms, x.1.kids.length ≤ 17592186044416) (h0 : 0 ≤ at') (h1 : at' < ms.length) :
    Calls Tryd.prog 52 #[fv, .int .i64 at'] w fun e w' => (∃ v, e = .returned v ∧ SeesC w' v ((runB (kidsOf ms) ms.length 401 [at'] []).length - 1) 1 (intsI ((runB (kidsOf ms) ms.length 401 [at'] []).drop 1))) ∧ Below w.heap.size w w' := by
  obtain ⟨_, fa, fc, hfv, _⟩ := hm.row
  have HM := hidI hm
  have HKL := hidI hkl
  subst hfv
  obtain ⟨R, hR⟩ : ∃ R, runB (kidsOf ms) ms.length 401 [at'] [] = R := ⟨_, rfl⟩
  rw [hR]
  have HR := hidI hR
  have n0 : ¬ at' < 0 := by omega
  have n1 : ¬ ((ms.length : Int) ≤ at') := by omega
  have HTA : Hid (Todo (w.alloc (.cells #[.int .i64 at'] 3)) (.slice (some ⟨w.heap.size, 0, none⟩) 1 1) [at']) := hidI ⟨int_at (W := w) (b := w.heap.size) at' rfl, fun a n c e => by cases e; omega⟩
  have HBA : Hid (Below w.heap.size w (w.alloc (.cells #[.int .i64 at'] 3))) := hidI ((Below.refl _ w).alloc (Nat.le_refl _) _)
  clear hm hkl hR
  go_enter Tryd.func52, Tryd.ntmps52
  go_wp2
  go_loopg [5, 6] 401 (fun g s5 s6 wx => ∃ (out todo : List Int), out.length + g = 401 ∧ todo.length ≤ 1 + 400 * out.length ∧ (out = [] → todo = [at']) ∧ Hid (∀ c ∈ todo, 0 ≤ c ∧ c < ms.length) ∧ Hid (runB (kidsOf ms) ms.length g todo out = R) ∧ Hid (wx.ownsRow w.heap.size 3 1 s5 out.length (intsI out)) ∧ Hid (Todo wx s6 todo) ∧ Hid (Away todo.length s6 s5) ∧ Hid (Below w.heap.size w wx))
  case atStart => exact ⟨[], [at'], rfl, by simp, fun _ => rfl, hidI (by simpa using ⟨h0, h1⟩), HR, hidI (World.ownsRow_nil _ _ _ _), HTA, hidI (fun _ k _ e => by cases e), HBA⟩
  case round =>
    obtain ⟨out, todo, hg, htl, hst, HV, HQ, HO, HT, HW, HB⟩ := hrel
    obtain ⟨oa, oc, rfl⟩ := own_slice HO.out
    obtain ⟨_, ta, tc, rfl, _⟩ := HT.out.sees
    have hoc := HO.out
    by_cases hex : todo = [] ∨ gk = 0
    · have hne : out ≠ [] := fun e => by
        rcases hex with h | h
        · rw [hst e] at h; cases h
        · subst e; subst h; simp at hg
      obtain ⟨m, hm⟩ : ∃ m, out.length = m + 1 := ⟨out.length - 1, by have := List.length_pos_iff.2 hne; omega⟩
      have hRo : R = out := by
        rw [← HQ.out]
        rcases hex with rfl | rfl
        · exact runB_nil _ _ _ _
        · rfl
      rcases hoc.2 with ⟨_, hz⟩ | ⟨ob, oc', cur, hov, hob, _, hcap, _⟩
      · omega
      cases hov
      have hse := seesC_of_owns HO.out
      have hcp : out.length ≤ oc := hcap
      rw [hm] at hse hcap
      have HS : Hid (∀ A C, (oc = 1 ∨ A = some ⟨ob, 1, none⟩) → SeesC wr (.slice A m C) (R.length - 1) 1 (intsI (R.drop 1))) := hidI fun A C hA => by
        have h2 := cut_one hse hcap
        rw [hRo, hm, show m + 1 - 1 = m by omega]
        have e : intsI (out.drop 1) = (intsI out).drop 1 := by simp [intsI]
        rw [e]
        obtain ⟨hl, A', C', he, hs⟩ := h2
        refine ⟨hl, A, C, rfl, ?_⟩
        rcases hA with rfl | rfl
        · exact .inl (by omega)
        · rcases hs with h | ⟨b1, o1, hb1, hs⟩
          · exact .inl h
          · by_cases h1 : oc = 1
            · exact .inl (by omega)
            · cases he
              rw [if_neg h1] at hb1
              cases hb1
              exact .inr ⟨ob, 1, rfl, by simpa using hs⟩
      have e1 : (1 : Int) ≤ (out.length : Int) := by omega
      have e2 : (out.length : Int) ≤ (oc : Int) := by omega
      have e3 : out.length - 1 = m := by omega
      clear hse hcap hRo hm hne hoc HTA HBA HR hob
      by_cases hc1 : oc = 1
      · have HS1 : Hid (∀ A C, SeesC wr (.slice A m C) (R.length - 1) 1 (intsI (R.drop 1))) := hidI fun A C => HS.out A C (.inl hc1)
        clear HS
        subst hc1
        rcases hex with rfl | rfl
        all_goals
          go_wp2
          all_goals
            go_ret
            exact ⟨⟨_, rfl, HS1.out _ _⟩, HB.out⟩
      · have HS1 : Hid (∀ C, SeesC wr (.slice (some ⟨ob, 1, none⟩) m C) (R.length - 1) 1 (intsI (R.drop 1))) := hidI fun C => HS.out _ C (.inr rfl)
        clear HS
        rcases hex with rfl | rfl
        all_goals
          go_wp2
          all_goals
            go_ret
            exact ⟨⟨_, rfl, HS1.out _⟩, HB.out⟩
    obtain ⟨a, t, rfl⟩ : ∃ a t, todo = a :: t := by cases todo with | nil => exact absurd (.inl rfl) hex | cons a t => exact ⟨a, t, rfl⟩
    obtain ⟨g, rfl⟩ : ∃ g, gk = g + 1 := ⟨gk - 1, by have : gk ≠ 0 := fun e => hex (.inr e); omega⟩
    obtain ⟨tb, to, rfl, ct⟩ := ints_cell HT.out.sees (i := 0) rfl
    have htr := HT.out.room _ _ _ rfl
    rw [List.length_cons] at htr
    have e1 : (0 : Int) < (((a :: t).length : Nat) : Int) := by simp only [List.length_cons]; omega
    have e2 : (out.length : Int) ≤ 400 := by omega
    have e3 : (1 : Int) ≤ (((a :: t).length : Nat) : Int) := by omega
    have e4 : (((a :: t).length : Nat) : Int) ≤ (tc : Int) := by simp only [List.length_cons]; omega
    have ct0 : wr.cell? ⟨tb, to, none⟩ = some (.int .i64 a) := by simpa using ct
    -- what is yet to do, without its first
    obtain ⟨ta2, hta2⟩ : ∃ x, (if tc = 1 then some (⟨tb, to, none⟩ : Addr) else some ⟨tb, to + 1, none⟩) = x := ⟨_, rfl⟩
    have hT2 : Todo wr (.slice ta2 t.length (tc - 1)) t := by
      have h2 := cut_one HT.out.sees (by simpa using htr)
      rw [hta2] at h2
      refine ⟨by simpa [intsI] using h2, fun a n c e => ?_⟩
      cases e
      omega
    have hW2 : Away t.length (.slice ta2 t.length (tc - 1)) (.slice oa out.length oc) := fun hp k hk => by
      have : tc ≠ 1 := by omega
      rw [if_neg this] at hta2
      subst hta2
      exact HW.out (by simp) k hk
    obtain ⟨tl, htl2⟩ : ∃ tl, t.length = tl := ⟨_, rfl⟩
    obtain ⟨tc2, htc2⟩ : ∃ tc2, tc - 1 = tc2 := ⟨_, rfl⟩
    rw [htl2, htc2] at hT2 hW2
    have e5 : (a :: t).length - 1 = tl := by simp [htl2]
    have HT2 := hidI hT2
    have HW2 := hidI hW2
    have HOA := hidI (HO.out.alloc (.cells #[.int .i64 a] 3))
    have HVA := hidI (int_at (W := wr) (b := wr.heap.size) a rfl)
    have hsz := HB.out.size
    have HTL : Hid (t.length + 1 ≤ 1 + 400 * out.length) := hidI (by simpa using htl)
    have HL1 := hidI htl2
    have HL2 := hidI htc2
    obtain ⟨T, hT⟩ : ∃ T, (a :: t).length = T := ⟨_, rfl⟩
    rw [hT] at e1 e3 e4 e5 ⊢
    -- the form that stands there
    obtain ⟨an, rfl⟩ : ∃ an : Nat, a = (an : Int) := ⟨a.toNat, by have := HV.out a (by simp); omega⟩
    have hal : an < ms.length := by have := HV.out (an : Int) (by simp); omega
    have f1 : (0 : Int) ≤ (an : Int) := by omega
    have f2 : (an : Int) < (ms.length : Int) := by omega
    have f3 : ((an : Int)).toNat = an := by omega
    have hx : ms[an]? = some ms[an] := List.getElem?_eq_getElem hal
    obtain ⟨x, hxe⟩ : ∃ x, ms[an] = x := ⟨_, rfl⟩
    rw [hxe] at hx
    obtain ⟨fb, fo, fc', ka, kc, hv1, hk1, x0, x1, x2, x3, x4⟩ := HM.out.load hx
    cases hv1
    have hfbl : fb < w.heap.size := World.block_lt_of_cell? w _ x3
    have hkm : kidsOf ms (an : Int) = x.1.kids := by unfold kidsOf; rw [f3, hx]
    have hkl := HKL.out x (List.mem_of_getElem? hx)
    have hks := HM.out.kid an x hx
    rw [hk1] at hks
    have HQ2 : Hid (runB (kidsOf ms) ms.length g ((filt ms.length an x.1.kids).take 400 ++ t) (out ++ [(an : Int)]) = R) := hidI (by rw [← HQ.out, ← hkm]; rfl)
    obtain ⟨K, hK⟩ : ∃ K, x.1.kids = K := ⟨_, rfl⟩
    rw [hK] at hks x3 hkl HQ2
    have HKS := hidI hks
    have HX3 := hidI x3
    clear ct hT2 hW2 hex hoc htr hT htl2 hst h0 h1 HTA HBA HR hx hxe hk1 x0 x1 x2 x3 x4 hkm hks hK HQ htl
    go_wp2_with (at_builtin; go_must (refine wpList_append_any Tryd.underlying24 Tryd.info3x rfl (by decide) (by decide) rfl _ _ rfl w.heap.size (.slice oa out.length oc) out.length (intsI out) rfl HOA.out _ 1 [.int .i64 (an : Int)] rfl HVA.out (by simp [Value.oneCell']) (by omega) (by simp; omega) ?_); intro ov' w4 hown4 hgrow4 hat4; refine Hid.out ?_)
    have HB4 : Hid (Below w.heap.size w w4) := hidI ((HB.out.alloc hsz _).grown hgrow4 (by simp; omega) (fun k e => (HO.out.lt k e).1))
    have htg := todo_grown HT2.out (by rw [HL1.out]; exact HW2.out) hgrow4 hat4
    have HT4 := hidI htg.1
    have HW4 := hidI htg.2
    have HO4 : Hid (w4.ownsRow w.heap.size 3 1 ov' (out ++ [(an : Int)]).length (intsI (out ++ [(an : Int)]))) := hidI (by
      have := hown4
      rw [intsI_append2, List.length_append]
      exact this)
    refine hidI ?_
    clear hown4 hgrow4 hat4 htg HOA HVA HT2 HW2 HO HT HW HB hsz ct0
    obtain ⟨oa4, oc4, rfl⟩ := own_slice HO4.out
    obtain ⟨ol, hol⟩ : ∃ ol, (out ++ [(an : Int)]).length = ol := ⟨_, rfl⟩
    have HOL := hidI hol
    rw [hol] at HO4 HW4 ⊢
    have HB44 : Hid (Below w4.heap.size w4 w4) := hidI (Below.refl _ _)
    clear hol
    go_wp2
    go_loopg [8, 9] K.length (fun g2 s8 s9 wx => ∃ i : Nat, i + g2 = K.length ∧ s9 = .int .i64 (i : Int) ∧ Hid (wx.ownsRow w4.heap.size 3 1 s8 (filt ms.length an (K.take i)).length (intsI (filt ms.length an (K.take i)))) ∧ Hid (Below w4.heap.size w4 wx))
    case atStart => exact ⟨0, by omega, rfl, hidI (World.ownsRow_nil _ _ _ _), HB44⟩
    case round =>
      obtain ⟨i, hi, rfl, HK, HB5⟩ := hrel
      have HBw := hidI (HB4.out.trans (HB5.out.mono HB4.out.size))
      have x3 := (HBw.out.cell (p := ⟨fb, fo + an * 5 + 3, none⟩) hfbl).trans HX3.out
      obtain ⟨ka2, kc2, rfl⟩ := own_slice HK.out
      have hsz4 := HB5.out.size
      cases gk with
      | zero =>
        obtain rfl : i = K.length := by omega
        have g1 : ¬ ((K.length : Int) < (K.length : Int)) := by omega
        rw [List.take_length] at HK ⊢
        have hfl := filt_len ms.length an K K.length
        rw [List.take_length] at hfl
        have HT5 := hidI (HT4.out.sees.below HB5.out (Nat.le_refl _))
        rw [HL1.out] at HT5
        have HOL1 : Hid (ol = out.length + 1) := hidI (by rw [← HOL.out]; simp)
        have hTL := HTL.out
        rw [HL1.out] at hTL
        have hrm := own_room HK.out _ _ _ rfl
        by_cases h400 : (400 : Int) < ((filt ms.length an K).length : Int)
        · have hka : ka2 ≠ none := fun e => by
            subst e
            rcases HK.out.2 with ⟨_, hz⟩ | ⟨_, _, _, he, _⟩
            · omega
            · cases he
          have HC := hidI (own_cut (m := 400) HK.out (by omega) hka)
          have c1 : (400 : Int) ≤ (kc2 : Int) := by omega
          have hxs : (intsI (filt ms.length an K)).take (400 * 1) = intsI ((filt ms.length an K).take 400) := by simp [intsI, List.map_take]
          rw [hxs] at HC
          have hlt : ((filt ms.length an K).take 400).length = 400 := by rw [List.length_take]; omega
          have HLT := hidI hlt
          clear hxs hlt
          go_wp2_with (at_builtin; go_must (refine wpList_append_big Tryd.underlying24 Tryd.info3x rfl (by decide) rfl _ _ rfl w4.heap.size (.slice ka2 400 kc2) 400 (intsI ((filt ms.length an K).take 400)) rfl HC.out _ tl (intsI t) rfl HT5.out (intsI_one _) (by omega) (by omega) (by omega) ?_); intro nv w7 hown7 hgrow7 hat7; refine Hid.out ?_)
          have HB7 : Hid (Below w4.heap.size w4 w7) := hidI (HB5.out.grown hgrow7 hsz4 (fun k e => (HC.out.lt k e).1))
          have HO7 : Hid (w7.ownsRow w.heap.size 3 1 (.slice oa4 ol oc4) ol (intsI (out ++ [(an : Int)]))) := hidI (own_below HO4.out HB7.out (Nat.le_refl _))
          have HN7 : Hid (w7.ownsRow w4.heap.size 3 1 nv ((filt ms.length an K).take 400 ++ t).length (intsI ((filt ms.length an K).take 400 ++ t))) := hidI (by
            have := hown7
            rw [intsI_append2, List.length_append, HL1.out, HLT.out]
            exact this)
          refine hidI ?_
          clear hown7 hgrow7 hat7
          go_wp2
          go_roundg g
          case measure => omega
          case rel =>
            refine ⟨out ++ [(an : Int)], (filt ms.length an K).take 400 ++ t, by have := HOL1.out; rw [HOL.out]; omega, ?_, fun e => by simp at e, hidI (fun c hc => ?_), HQ2, hidI ?_, hidI ⟨seesC_of_owns HN7.out, own_room HN7.out⟩, hidI (fun _ k hk e => ?_), hidI (HB4.out.trans (HB7.out.mono HB4.out.size))⟩
            · have := HTL.out
              have := HOL1.out
              rw [List.length_append, List.length_take, HOL.out]
              omega
            · rcases List.mem_append.1 hc with hc | hc
              · have := filt_mem (List.mem_of_mem_take hc)
                omega
              · exact HV.out c (List.mem_cons_of_mem _ hc)
            · rw [HOL.out]
              exact HO7.out
            · have p1 := (HN7.out.lt k hk).1
              have p2 := (HO4.out.lt k e).2
              omega
        · have htk : (filt ms.length an K).take 400 = filt ms.length an K := List.take_of_length_le (by omega)
          have HLT := hidI htk
          clear htk
          go_wp2_with (at_builtin; go_must (refine wpList_append_big Tryd.underlying24 Tryd.info3x rfl (by decide) rfl _ _ rfl w4.heap.size (.slice ka2 (filt ms.length an K).length kc2) (filt ms.length an K).length (intsI (filt ms.length an K)) rfl HK.out _ tl (intsI t) rfl HT5.out (intsI_one _) (by omega) (by omega) (by omega) ?_); intro nv w7 hown7 hgrow7 hat7; refine Hid.out ?_)
          have HB7 : Hid (Below w4.heap.size w4 w7) := hidI (HB5.out.grown hgrow7 hsz4 (fun k e => (HK.out.lt k e).1))
          have HO7 : Hid (w7.ownsRow w.heap.size 3 1 (.slice oa4 ol oc4) ol (intsI (out ++ [(an : Int)]))) := hidI (own_below HO4.out HB7.out (Nat.le_refl _))
          have HN7 : Hid (w7.ownsRow w4.heap.size 3 1 nv ((filt ms.length an K).take 400 ++ t).length (intsI ((filt ms.length an K).take 400 ++ t))) := hidI (by
            have := hown7
            rw [intsI_append2, List.length_append, HL1.out, HLT.out]
            exact this)
          refine hidI ?_
          clear hown7 hgrow7 hat7
          go_wp2
          go_roundg g
          case measure => omega
          case rel =>
            refine ⟨out ++ [(an : Int)], (filt ms.length an K).take 400 ++ t, by have := HOL1.out; rw [HOL.out]; omega, ?_, fun e => by simp at e, hidI (fun c hc => ?_), HQ2, hidI ?_, hidI ⟨seesC_of_owns HN7.out, own_room HN7.out⟩, hidI (fun _ k hk e => ?_), hidI (HB4.out.trans (HB7.out.mono HB4.out.size))⟩
            · have := HTL.out
              have := HOL1.out
              rw [List.length_append, List.length_take, HOL.out]
              omega
            · rcases List.mem_append.1 hc with hc | hc
              · have := filt_mem (List.mem_of_mem_take hc)
                omega
              · exact HV.out c (List.mem_cons_of_mem _ hc)
            · rw [HOL.out]
              exact HO7.out
            · have p1 := (HN7.out.lt k hk).1
              have p2 := (HO4.out.lt k e).2
              omega
      | succ g2 =>
        have hil : i < K.length := by omega
        have g1 : (i : Int) < (K.length : Int) := by omega
        have g2' : (0 : Int) ≤ (i : Int) := by omega
        have g3 : ((i : Int)).toNat = i := by omega
        have hgi : K[i]? = some K[i] := List.getElem?_eq_getElem hil
        obtain ⟨c, hc⟩ : ∃ c, K[i] = c := ⟨_, rfl⟩
        rw [hc] at hgi
        obtain ⟨kb, ko, rfl, c0⟩ := ints_cell HKS.out hgi
        have cp : wr.cell? ⟨kb, ko + i, none⟩ = some (.int .i64 c) := (HBw.out.cell (World.block_lt_of_cell? w _ c0)).trans c0
        have HF := hidI (filt_take (n := ms.length) (own := an) hgi)
        have hfl := filt_len ms.length an K i
        obtain ⟨F, hF⟩ : ∃ F, filt ms.length an (K.take i) = F := ⟨_, rfl⟩
        rw [hF] at HF HK hfl ⊢
        clear hgi hc c0 hF
        by_cases hin : (an : Int) < c ∧ c < (ms.length : Int)
        · obtain ⟨i1, i2⟩ := hin
          rw [if_pos ⟨i1, i2⟩] at HF
          have HOA := hidI (HK.out.alloc (.cells #[.int .i64 c] 3))
          have HVA := hidI (int_at (W := wr) (b := wr.heap.size) c rfl)
          go_wp2_with (at_builtin; go_must (refine wpList_append_big Tryd.underlying24 Tryd.info3x rfl (by decide) rfl _ _ rfl w4.heap.size (.slice ka2 F.length kc2) F.length (intsI F) rfl HOA.out _ 1 [.int .i64 c] rfl HVA.out (by simp [Value.oneCell']) (by omega) (by omega) (by simp; omega) ?_); intro kv' w6 hown6 hgrow6 hat6; refine Hid.out ?_)
          have HB6 : Hid (Below w4.heap.size w4 w6) := hidI ((HB5.out.alloc hsz4 _).grown hgrow6 (by simp; omega) (fun k e => (HK.out.lt k e).1))
          have HO6 : Hid (w6.ownsRow w4.heap.size 3 1 kv' (F ++ [c]).length (intsI (F ++ [c]))) := hidI (by
            have := hown6
            rw [intsI_append2, List.length_append]
            exact this)
          refine hidI ?_
          clear hown6 hgrow6 hat6 HOA HVA HK x3 cp HBw
          go_wp2
          go_roundg g2
          case measure => omega
          case rel => exact ⟨i + 1, by omega, by go_num, by rw [HF.out]; exact HO6, HB6⟩
        · rw [if_neg hin, List.append_nil] at HF
          by_cases i1 : (an : Int) < c
          · have i2 : ¬ c < (ms.length : Int) := fun h => hin ⟨i1, h⟩
            clear hin
            go_wp2
            go_roundg g2
            case measure => omega
            case rel => exact ⟨i + 1, by omega, by go_num, by rw [HF.out]; exact HK, HB5⟩
          · clear hin
            go_wp2
            go_roundg g2
            case measure => omega
            case rel => exact ⟨i + 1, by omega, by go_num, by rw [HF.out]; exact HK, HB5⟩
theorem runB_len (K : Int → List Int) (n : Int) : ∀ (f : Nat) (todo out : List Int), out.length ≤ (runB K n f todo out).length
  | 0, _, _ => Nat.le_refl _
  | _ + 1, [], _ => Nat.le_refl _
  | f + 1, a :: t, out => by
    have := runB_len K n f ((filt n a (K a)).take 400 ++ t) (out ++ [a])
    simp only [List.length_append, List.length_cons, List.length_nil] at this
    simp only [runB]
    omega
set_option maxHeartbeats 1000000 in
theorem rsize_any (fv : Value) (ms : List MV) (at' : Int) (w : World) (hm : SeesM w fv ms) (hkl : ∀ x ∈ ms, x.1.kids.length ≤ 17592186044416) {t' : Int} {all : List (Int × Int)} {ok : Bool} (hW : WalkR (kidsOf ms) ms.length 0 (-1) (-1) [at'] t' all ok) :
    Calls Tryd.prog 34 #[fv, .int .i64 at'] w fun e w' => e = .returned (.int .i64 (all.length : Int)) ∧ Below w.heap.size w w' := by
  obtain ⟨_, fa, fc, hfv, _⟩ := hm.row
  subst hfv
  by_cases hin : 0 ≤ at' ∧ at' < ms.length
  · obtain ⟨h0, h1⟩ := hin
    have C := rbelow_any _ ms at' w hm hkl h0 h1
    have hr := runB_all hW h0 h1
    have hl := runB_len (kidsOf ms) ms.length 400 ((filt ms.length at' (kidsOf ms at')).take 400 ++ []) ([] ++ [at'])
    have hle : 1 ≤ all.length := by
      have e : runB (kidsOf ms) ms.length 401 [at'] [] = runB (kidsOf ms) ms.length 400 ((filt ms.length at' (kidsOf ms at')).take 400 ++ []) ([] ++ [at']) := rfl
      rw [← e, hr] at hl
      simpa using hl
    have hmost : all.length ≤ 401 := by
      have h1 := hW.told
      have h2 := hW.most (by omega)
      omega
    rw [hr, List.length_map] at C
    have HC := hidI C
    have n0 : ¬ at' < 0 := by omega
    have n1 : ¬ ((ms.length : Int) ≤ at') := by omega
    obtain ⟨L, hL⟩ : ∃ L, all.length = L + 1 := ⟨all.length - 1, by omega⟩
    rw [hL] at HC hmost ⊢
    rw [show L + 1 - 1 = L by omega] at HC
    have wl : IntKind.i64.wrap ((L : Int) + 1) = ((L + 1 : Nat) : Int) := by rw [IntKind.wrap_i64]; omega
    clear hm hkl hW C hr hl hle hL
    go_enter Tryd.func34, Tryd.ntmps34
    go_wp2_with (go_at_call 52; refine HC.out.mono ?_; rintro e w1 ⟨⟨v, rfl, hv⟩, hb⟩; obtain ⟨_, va, vc, rfl, _⟩ := hv; have HB1 := hidI hb; clear hb)
    go_ret
    exact ⟨rfl, HB1.out⟩
  · have hall : all = [] := by
      cases hW with
      | skip _ h => cases h; rfl
      | full => rfl
      | cut h1 h2 => exact absurd ⟨by omega, h2⟩ hin
      | more h1 h2 => exact absurd ⟨by omega, h2⟩ hin
    subst hall
    clear hm hkl hW
    by_cases h0 : at' < 0
    · go_enter Tryd.func34, Tryd.ntmps34
      go_wp2
      go_ret
      exact ⟨rfl, Below.refl _ _⟩
    · have h1 : (ms.length : Int) ≤ at' := by omega
      clear hin
      go_enter Tryd.func34, Tryd.ntmps34
      go_wp2
      go_ret
      exact ⟨rfl, Below.refl _ _⟩
end Go.Proofs.YtnlplkchkhibaaaDoor
/-
  Alone at any forms.
-/
namespace Go.Proofs.YtnlplkchkhibaaaDoor
open Go.RowKit Go.Deep Go.MapKept
attribute [local go_sem] Oper.semAt_some
set_option maxRecDepth 100000 in
set_option maxHeartbeats 8000000 in
theorem alone_gen (fv : Value) (ms : List MV) (at' : Int) (w : World) (hsm : SeesM w fv ms) (hkl : ∀ x ∈ ms, x.1.kids.length ≤ 17592186044416) (hsl : ∀ x ∈ ms, x.1.s.size ≤ 140737488355328) (hml : ms.length ≤ 1000000) {t' : Int} {all : List (Int × Int)} {ok : Bool} (hW : WalkR (kidsOf ms) ms.length 0 (-1) (-1) [at'] t' all ok) (h1 : 0 < all.length) (h4 : all.length ≤ 400) :
    Calls Tryd.prog 21 #[fv, .int .i64 at'] w (AlonePost w (ms.map fun x => natF x.1) all) := by
  obtain ⟨fs, hms⟩ : ∃ fs, (ms.map fun x => natF x.1) = fs := ⟨_, rfl⟩
  rw [hms]
  have hsm' := hsm
  obtain ⟨⟨_, fa, fc, rfl, _⟩, _⟩ := hsm
  have HM := hidI hsm'
  have HW := hidI hW
  have HK := hidI hkl
  have HSL := hidI hsl
  have HMS := hidI hms
  have g0 := Boxed.new w 23 (.slice fa ms.length fc)
  have hbA : Below w.heap.size w (w.alloc (.cells #[.slice fa ms.length fc] 23)) := (Below.refl _ w).alloc (Nat.le_refl _) _
  have HBA := hidI hbA
  have HG0 := hidI g0
  have HS := hidI (size_any _ ms at' (w.alloc (.cells #[.slice fa ms.length fc] 23)) (hsm'.below hbA (Nat.le_refl _)) (fun x hx => by have := hkl x hx; omega) (by omega) hW)
  have q1 : ((all.length : Int) == 0) = false := by rw [beq_eq_false_iff_ne]; omega
  have q2 : ¬ (400 : Int) < (all.length : Int) := by omega
  have q3 : ¬ all.length = 0 := by omega
  have q4 : decide ((400 : Int) < (all.length : Int)) = false := by simp; omega
  clear hsm' hW hkl hsl hms hbA g0
  refine (callsIn_wide (n := 0)).1 ?_
  refine callsIn_of_wp_marks Tryd.func21 rfl trivial ?_ rfl
  simp only [Tryd.ntmps21, List.size_toArray, List.length_cons, List.length_nil, Nat.reduceAdd, Nat.reduceSub, Array.replicate_succ, Array.replicate_zero, List.push_toArray, List.append_toArray, List.nil_append, List.cons_append]
  gi_wp2_with (first
    | (refine ⟨trivial, rfl, ?_⟩; gi_at_call 15; refine (callsIn_wide.2 HS.out).mono ?_; rintro e w1 ⟨rfl, hb1⟩; have HB1 := hidI hb1; have k2 := (hb1.cell (p := ⟨w.heap.size, 0, none⟩) HG0.out.lt).trans HG0.out.cell; have k3 := cell_al (.cells #[.slice none 0 0] 23) k2; have hl1 : w.heap.size < w1.heap.size := Nat.lt_of_lt_of_le HG0.out.lt hb1.size; clear hb1)
    | (refine ⟨trivial, rfl, ?_⟩; gi_at_call 28; refine (callsIn_wide.2 (walk_any _ _ _ _ _ _ _)).mono ?_; rintro e w' ⟨rfl, rfl⟩))
  have hb0 : Below w1.heap.size w1 ((((w1.alloc (.cells #[.slice none 0 0] 23)).alloc (.cells #[.int .i64 at'] 3)).alloc (.cells #[.slice fa ms.length fc] 23)).alloc (.cells #[.slice (some ⟨w1.heap.size + 1, 0, none⟩) 1 1] 24)) := (((((Below.refl _ w1).alloc (Nat.le_refl _) _).alloc (by simp) _).alloc (by simp; omega) _).alloc (by simp; omega) _)
  have g8 := (((Boxed.new w1 23 (.slice none 0 0)).alloc (.cells #[.int .i64 at'] 3)).alloc (.cells #[.slice fa ms.length fc] 23)).alloc (.cells #[.slice (some ⟨w1.heap.size + 1, 0, none⟩) 1 1] 24)
  have g1 := ((Boxed.new (w1.alloc (.cells #[.slice none 0 0] 23)) 3 (.int .i64 at')).alloc (.cells #[.slice fa ms.length fc] 23)).alloc (.cells #[.slice (some ⟨w1.heap.size + 1, 0, none⟩) 1 1] 24)
  have g2 := (Boxed.new ((w1.alloc (.cells #[.slice none 0 0] 23)).alloc (.cells #[.int .i64 at'] 3)) 23 (.slice fa ms.length fc)).alloc (.cells #[.slice (some ⟨w1.heap.size + 1, 0, none⟩) 1 1] 24)
  have g3 := Boxed.new (((w1.alloc (.cells #[.slice none 0 0] 23)).alloc (.cells #[.int .i64 at'] 3)).alloc (.cells #[.slice fa ms.length fc] 23)) 24 (.slice (some ⟨w1.heap.size + 1, 0, none⟩) 1 1)
  simp only [World.size_alloc] at g1 g2 g3
  have hsz : ((((w1.alloc (.cells #[.slice none 0 0] 23)).alloc (.cells #[.int .i64 at'] 3)).alloc (.cells #[.slice fa ms.length fc] 23)).alloc (.cells #[.slice (some ⟨w1.heap.size + 1, 0, none⟩) 1 1] 24)).heap.size = w1.heap.size + 4 := by simp
  obtain ⟨W0, hW0⟩ : ∃ W0, (((w1.alloc (.cells #[.slice none 0 0] 23)).alloc (.cells #[.int .i64 at'] 3)).alloc (.cells #[.slice fa ms.length fc] 23)).alloc (.cells #[.slice (some ⟨w1.heap.size + 1, 0, none⟩) 1 1] 24) = W0 := ⟨_, rfl⟩
  rw [hW0] at hb0 g8 g1 g2 g3 hsz ⊢
  clear hW0 k2 k3
  have hbw1 : Below w.heap.size w w1 := HBA.out.trans (HB1.out.mono HBA.out.size)
  have hbw : Below w.heap.size w W0 := hbw1.trans (hb0.mono hbw1.size)
  have gB : Boxed W0 w.heap.size 23 (.slice fa ms.length fc) := box_below (box_below HG0.out HB1.out) hb0
  obtain ⟨B8, hB8⟩ : ∃ B8, w1.heap.size = B8 := ⟨_, rfl⟩
  rw [hB8] at g8 g1 g2 g3 hsz hl1 ⊢
  have hsm0 := HM.out.below hbw (Nat.le_refl _)
  have htp0 : SeesC W0 (.slice (some ⟨B8 + 1, 0, none⟩) 1 1) [at'].length 1 (intsI [at']) := by
    refine ⟨rfl, _, 1, rfl, .inr ⟨B8 + 1, 0, rfl, fun j c hc => ?_⟩⟩
    have hj : j < 1 := by have := (List.getElem?_eq_some_iff.1 hc).1; simpa [intsI] using this
    obtain rfl : j = 0 := by omega
    simp only [intsI, List.map_cons, List.map_nil, List.getElem?_cons_zero, Option.some.injEq] at hc
    subst hc
    exact g1.cell
  have hseq := walk_seq5 (.slice fa ms.length fc) (.slice (some ⟨B8 + 1, 0, none⟩) 1 1) ms [at'] (B8 + 1 + 1) (B8 + 1 + 1 + 1) (fun k => k = B8) W0 g2.cell g3.cell hsm0 htp0 (by omega) (fun k hk => by omega) (by
      rintro v n (⟨rfl, rfl⟩ | ⟨rfl, rfl⟩ | ⟨x, hx, rfl, rfl⟩) hn k hk
      · have := sees_lt HM.out.row (by decide) hn k hk; omega
      · have e : B8 + 1 = k := by simpa [Value.ownBlock] using hk
        omega
      · obtain ⟨i, hi⟩ := List.getElem?_of_mem hx
        have := sees_lt (HM.out.kid i x hi) (by decide) hn k hk; omega) (fun x hx => by have := HK.out x hx; omega) (by simp) (by omega) HW.out
  refine range_walk5 (gf := 47) (lb := #[.pointer (some ⟨B8 + 1 + 1, 0, none⟩), .pointer (some ⟨B8 + 1 + 1 + 1, 0, none⟩)]) rfl (enters_of Tryd.func47 (by kernel_rfl) rfl) hseq rfl
    (fun pre W => ∃ xs v, AlI w (.slice fa ms.length fc) w.heap.size B8 (W0.heap.size + 5) (pre.foldl (stepA fs) []) pre.length xs v W) (fun _ _ => False) ?hI ?hIo ?hIx ?h0
    (fun st W => (∃ xs v, AlI w (.slice fa ms.length fc) w.heap.size B8 (W0.heap.size + 5) (st.1.foldl (stepA fs) []) st.1.length xs v W) ∧ st.2.2 = { tmps := #[.slice fa ms.length fc, .int .i64 at', .pointer (some ⟨w.heap.size, 0, none⟩), undef, .slice none 0 0, .slice none 0 0, .int .i64 0, .int .i64 (all.length : Int), .pointer (some ⟨B8, 0, none⟩), .int .i64 st.2.1.1, .int .i64 st.2.1.2, .slice fa ms.length fc, .int .i64 at', .int .i64 (all.length : Int), .int .i64 (all.length : Int), .bool false, .int .i64 (all.length : Int), .bool false, .slice fa ms.length fc, .int .i64 at', .slice (some ⟨B8 + 1, 0, none⟩) 1 1, .func (.func 47) #[] #[.pointer (some ⟨B8 + 1 + 1, 0, none⟩), .pointer (some ⟨B8 + 1 + 1 + 1, 0, none⟩)], .int .i64 st.2.1.1, .int .i64 st.2.1.2, undef, undef, undef, undef, undef, undef, undef, undef, undef, undef, undef, undef, undef, undef, undef, undef, undef, undef, undef, undef, undef, undef, undef, undef, undef], defers := [] })
    ?hAx ?assign ?body ?done ?stop
  case hI => exact AlI.kept (f := fun pre => pre.foldl (stepA fs) []) (by omega)
  case hIo => exact fun pre X u k q1 q2 ⟨xs, v, h⟩ => ⟨xs, v, h.low u (by omega) (by omega) (by omega) (by omega)⟩
  case hIx => exact fun _ _ _ _ h => h.elim
  case h0 => exact ⟨[], .slice none 0 0, rfl, by simp, AR.nil _ _, gB, g8, hbw⟩
  case hAx =>
    rintro st X Y row ⟨h1, ha⟩ hg hrow
    exact ⟨AlI.kept (f := fun pre => pre.foldl (stepA fs) []) (B' := W0.heap.size) (by omega) st.1 X Y row h1 hg hrow, ha⟩
  case assign =>
    rintro l pre x W K hi hK
    dsimp only [encP]
    gi_wp2
    exact hK _ _ (KeepsFrom.refl _ _) (Keeps.refl _ _) ⟨hi, rfl⟩
  case body =>
    rintro l pre ⟨up, pl⟩ a' W hR hz5 ⟨⟨xs, v, h⟩, ha⟩
    dsimp only at ha h
    subst ha
    have hal : pre.length < all.length := by have := hR.length_le; simp at this; omega
    have hat : all[pre.length]? = some (up, pl) := by
      obtain ⟨r, hr⟩ := hR
      rw [← hr]; simp
    obtain ⟨p0, p1, hup⟩ := HW.out.ups (by omega) pre.length (up, pl) hat
    simp only at p0 p1 hup
    obtain ⟨q, rfl⟩ : ∃ q : Nat, pl = (q : Int) := ⟨pl.toNat, by omega⟩
    have hqm : q < ms.length := by omega
    have hmq : ms[q]? = some ms[q] := List.getElem?_eq_getElem hqm
    obtain ⟨x, hx⟩ : ∃ x, ms[q] = x := ⟨_, rfl⟩
    rw [hx] at hmq
    obtain ⟨x1, x2⟩ := x
    have hf : fs[q]? = some (natF x1) := by rw [← HMS.out, List.getElem?_map, hmq]; rfl
    have hxl : xs.length = pre.length := by
      have e1 := h.len
      have e2 : ∀ (l : List (Int × Int)), (∀ y ∈ l, 0 ≤ y.2 ∧ y.2 < (ms.length : Int)) → ∀ A, (l.foldl (stepA fs) A).length = A.length + l.length := by
        intro l
        induction l with
        | nil => intro _ A; simp
        | cons y r ih =>
          intro hy A
          have hy0 := hy y (by simp)
          have hlen : ms.length = fs.length := by rw [← HMS.out]; simp
          have hg : fs[y.2.toNat]? = some fs[y.2.toNat] := List.getElem?_eq_getElem (by omega)
          rw [List.foldl_cons, ih (fun z hz => hy z (by simp [hz]))]
          unfold stepA
          rw [hg]
          simp [upd_length]
          omega
      rw [e1, e2 pre (fun y hy => by
        obtain ⟨j, hj⟩ := List.getElem?_of_mem hy
        have hj2 : all[j]? = some y := by
          obtain ⟨r, hr⟩ := hR
          have hjl := (List.getElem?_eq_some_iff.1 hj).1
          rw [← hr, List.append_assoc, List.getElem?_append_left hjl]; exact hj
        have := HW.out.ups (by omega) j y hj2
        exact ⟨this.1, this.2.1⟩)]
      simp
    have HXL := hidI hxl
    have hst : (pre ++ [(up, (q : Int))]).foldl (stepA fs) [] = upd (pre.foldl (stepA fs) []) up [(pre.foldl (stepA fs) []).length] ++ [bare (natF x1)] := by
      rw [List.foldl_append, List.foldl_cons, List.foldl_nil]
      unfold stepA
      simp only [Int.toNat_natCast, hf, Option.toList_some, List.map_cons, List.map_nil]
    have HST := hidI hst
    have CK := hidI fun W' => kidless_any x1 x2 (by obtain ⟨_, a, c, e, _⟩ := HM.out.kid q _ hmq; exact ⟨a, _, c, e⟩) (HSL.out _ (List.mem_of_getElem? hmq)) W'
    have HMQ := hidI hmq
    have HH := hidI h
    have hsl0 := h.rows.own
    obtain ⟨va, vc, rfl⟩ := own_slice hsl0
    clear h hst hmq hf hx hat hR hsl0
    rcases hup with rfl | ⟨r0, r1⟩
    · gi_wp2
      have HYL := HXL
      have HZX : Hid (W0.heap.size + 5 ≤ W.drew.heap.size) := hidI hz5
      have hlo := (HM.out.below HH.out.below (Nat.le_refl _)).load HMQ.out
      obtain ⟨fb, fo, fc', ka, kc, hfv, hx2, c0, c1, c2, c3, c4⟩ := hlo
      simp only at hx2
      subst hx2
      have hfb : fb < w.heap.size := by
        cases hfv
        have := sees_lt HM.out.row (by decide) (by omega) fb rfl
        exact this
      refine regA12 (k := x1.k) (s := x1.s) (n' := x1.n) (p := x1.p) (B8 := B8) (B2 := w.heap.size) (base := W0.heap.size + 5) (fb := fb) (fo := fo) (fl := ms.length) (fc := fc') (q := q) (ka := ka) (kn := x1.kids.length) (kc := kc) (u := .slice va xs.length vc) (m := xs.length) (cs := flatF xs) (fun w' => CK.out w') ⟨HH.out.b8.cell, by rw [← hfv]; exact HH.out.b2.cell, c0, c1, c2, c3, c4⟩ HH.out.b8.frozen ?hown (by omega) ?hbs hqm ?ha ?hb ?hc ?hQ
      case hown => exact HH.out.rows.own
      case hbs => exact HZX.out
      case ha => exact fun e => by have := (HH.out.rows.own.lt _ e).1; omega
      case hb => exact fun e => by have := (HH.out.rows.own.lt _ e).1; omega
      case hc => exact fun e => by have := (HH.out.rows.own.lt _ e).1; omega
      case hQ =>
        intro W1 W5 u' t39 t40 t41 t42 t43 t44 t45 t46 hb hg ho hat
        have hbA : Below W.heap.size W (W1.alloc (.cells #[.int .u8 x1.k, .string x1.s, .int .i64 x1.n, .slice none 0 0, .int .i64 x1.p] 40)) := ((Below.drew (Below.refl _ W)).trans hb).alloc hb.size _
        have kr := keep_round (B := W0.heap.size) (N := W0.heap.size) (X := fun k => k = B8) (g := B8) (j := 0) (u' := u') hbA (own_below HH.out.rows.own hbA (Nat.le_refl _)) hg (by omega) (fun h => h.1 rfl)
        refine ⟨kr.1, kr.2, xs ++ [(bare (natF x1), .slice none 0 0)], u', ?_⟩
        have hF := HH.out.form (f := natF x1) hb hg ho hat (by omega) (by omega) (by omega) (by omega) (by omega)
        rw [HST.out, List.length_append]
        exact hF.more (by simp)
    · obtain ⟨r, rfl⟩ : ∃ r : Nat, up = (r : Int) := ⟨up.toNat, by omega⟩
      have hrx : r < xs.length := by have := HXL.out; omega
      have hgr : xs[r]? = some xs[r] := List.getElem?_eq_getElem hrx
      obtain ⟨x', hx'⟩ : ∃ x', xs[r] = x' := ⟨_, rfl⟩
      rw [hx'] at hgr
      obtain ⟨g, gc, hve, hgb, _⟩ := own_some HH.out.rows.own (by omega)
      cases hve
      obtain ⟨kka, kkc, hkv⟩ := own_slice (HH.out.rows.kid hgr)
      have hck : W.cell? ⟨g, r * 5 + 3, none⟩ = some (.slice kka x'.1.kids.length kkc) := by
        rw [← hkv]
        exact own_cell HH.out.rows.own (by rw [flatF_get xs r 3 x' hgr (by omega)]; rfl)
      have hkl' := HH.out.kl x' (List.mem_of_getElem? hgr)
      have hkr := HH.out.rows.kid hgr
      rw [hkv] at hkr
      have hapt := HH.out.rows.apart hgr
      have HGR := hidI hgr
      have HKV := hidI hkv
      have e9 : ((r : Int) == -1) = false := by rw [beq_eq_false_iff_ne]; omega
      have e10 : ¬ (r : Int) = -1 := by omega
      clear hgr hx'
      gi_wp2
      refine regA11 (B8 := B8) (base := W0.heap.size + 5) (g := g) (m := xs.length) (uc := vc) (q := r) (ka := kka) (kn := x'.1.kids.length) (kc := kkc) (ks := ints x'.1.kids) ⟨HH.out.b8.cell, hck⟩ (own_free HH.out.rows.own _) hkr (by omega) hz5 hrx ?ha ?hb ?hQ
      case ha => exact fun e => by have := (hkr.lt _ e).1; omega
      case hb =>
        rw [← HKV.out]
        rcases hapt with h0 | h0
        · rw [h0]; simp
        · exact h0
      case hQ =>
        intro W5 u' t26 t27 t28 t29 t30 t31 t32 t33 t34 t35 t36 t37 t38 hg ho hat
        rw [← HKV.out] at hg hat
        have hA2 := HH.out.kid HGR.out rfl hg ho hat (by omega) (by omega) (by omega)
        have hbA : Below W.heap.size W (W.drew.alloc (.cells #[.int .i64 (xs.length : Int)] 3)) := (Below.drew (Below.refl _ W)).alloc (Nat.le_refl _) _
        have HK1 := hidI (keep_round (B := W0.heap.size) (N := W0.heap.size) (X := fun k => k = B8) (g := g) (j := r * 5 + 3) (u' := u') hbA (own_below (HH.out.rows.kid HGR.out) hbA (Nat.le_refl _)) hg (by omega) (fun h => by have := h.2; omega))
        have hz6 : W0.heap.size + 5 ≤ (W5.setCell ⟨g, r * 5 + 3, none⟩ u').heap.size := Nat.le_trans hz5 HK1.out.2.1
        obtain ⟨WX, hWX⟩ : ∃ WX, W5.setCell ⟨g, r * 5 + 3, none⟩ u' = WX := ⟨_, rfl⟩
        obtain ⟨YS, hYS⟩ : ∃ YS, xs.set r (addKid xs.length x'.1, u') = YS := ⟨_, rfl⟩
        rw [hWX] at hA2 HK1 hz6 ⊢
        rw [hYS] at hA2
        have hyl : YS.length = pre.length := by rw [← hYS, List.length_set]; exact HXL.out
        have HYL := hidI hyl
        have HA2 := hidI hA2
        have HZX : Hid (W0.heap.size + 5 ≤ WX.drew.heap.size) := hidI hz6
        clear hg ho hat hA2 hbA hWX hYS
        gi_wp2
        have hlo := (HM.out.below HA2.out.below (Nat.le_refl _)).load HMQ.out
        obtain ⟨fb, fo, fc', ka, kc, hfv, hx2, c0, c1, c2, c3, c4⟩ := hlo
        simp only at hx2
        subst hx2
        have hfb : fb < w.heap.size := by
          cases hfv
          have := sees_lt HM.out.row (by decide) (by omega) fb rfl
          exact this
        refine regA12 (k := x1.k) (s := x1.s) (n' := x1.n) (p := x1.p) (B8 := B8) (B2 := w.heap.size) (base := W0.heap.size + 5) (fb := fb) (fo := fo) (fl := ms.length) (fc := fc') (q := q) (ka := ka) (kn := x1.kids.length) (kc := kc) (u := .slice (some ⟨g, 0, none⟩) xs.length vc) (m := YS.length) (cs := flatF YS) (fun w' => CK.out w') ⟨HA2.out.b8.cell, by rw [← hfv]; exact HA2.out.b2.cell, c0, c1, c2, c3, c4⟩ HA2.out.b8.frozen ?hown (by omega) ?hbs hqm ?ha ?hb ?hc ?hQ
        case hown => exact HA2.out.rows.own
        case hbs => exact HZX.out
        case ha => exact fun e => by have := (HA2.out.rows.own.lt _ e).1; omega
        case hb => exact fun e => by have := (HA2.out.rows.own.lt _ e).1; omega
        case hc => exact fun e => by have := (HA2.out.rows.own.lt _ e).1; omega
        case hQ =>
          intro W1 W5 u' t39 t40 t41 t42 t43 t44 t45 t46 hb hg ho hat
          have hbA : Below WX.heap.size WX (W1.alloc (.cells #[.int .u8 x1.k, .string x1.s, .int .i64 x1.n, .slice none 0 0, .int .i64 x1.p] 40)) := ((Below.drew (Below.refl _ WX)).trans hb).alloc hb.size _
          have kr := keep_round (B := W0.heap.size) (N := W0.heap.size) (X := fun k => k = B8) (g := B8) (j := 0) (u' := u') hbA (own_below HA2.out.rows.own hbA (Nat.le_refl _)) hg (by omega) (fun h => h.1 rfl)
          refine ⟨HK1.out.1.trans kr.1, HK1.out.2.trans kr.2, YS ++ [(bare (natF x1), .slice none 0 0)], u', ?_⟩
          have hF := HA2.out.form (f := natF x1) hb hg ho hat (by omega) (by omega) (by omega) (by omega) (by omega)
          rw [HST.out, List.length_append]
          exact hF.more (by simp)
  case done =>
    rintro D xs W hD rfl ⟨ys, v, h⟩ hK
    have hDl : D < W.heap.size := (Array.getElem?_eq_some_iff.1 hK).1
    have c8 := h.b8.cell
    obtain ⟨va, vc, rfl⟩ := own_slice h.rows.own
    have hK' : (W.alloc (.cells #[.int .i64 0] 3)).heap[D]? = some (.deferred (some [])) := (Below.heap_alloc W _ D hDl).trans hK
    have hbA : Below W.heap.size W (W.alloc (.cells #[.int .i64 0] 3)) := (Below.refl _ W).alloc (Nat.le_refl _) _
    have hA := h.down hbA
    have HA := hidI hA
    have HD : Hid (D < W.heap.size) := hidI hDl
    have HKK := hidI hK'
    clear h hA hbA g8 g1 g2 g3 gB
    gi_wp2
    refine ⟨by simp, .inl ⟨_, _, rfl, run_takeDeferred HKK.out, ?_⟩⟩
    refine ⟨_, results_3t rfl _ _ _, _, _, ys, rfl, HA.out.same, (HA.out.rows.keptO (grownBy_putObj' _ D _) (fun r e => by cases e; exact ⟨_, HKK.out, rfl⟩)).lower (by omega), (int_seen (W := W) 0).grown (grownBy_putObj' _ D _) (fun e => by simp [Value.ownBlock] at e; have := HD.out; omega), HA.out.below.trans (belowK_b (w := w) (Nat.le_refl _) _ D _ _ (by omega) HKK.out rfl rfl)⟩
  case stop => exact fun _ _ _ _ h => h.elim
end Go.Proofs.YtnlplkchkhibaaaDoor
/-
  Alone and Both where there is none: the program's Alone, the document's Both.
-/
namespace Go.Proofs.YtnlplkchkhibaaaDoor
open Go.RowKit Go.Deep Go.MapKept
def NonePost (w : World) (n : Int) (e : Ending) (w' : World) : Prop := e = .returned (.tuple #[.slice none 0 0, .slice none 0 0, .int .i64 n]) ∧ Below w.heap.size w w'
set_option maxHeartbeats 1000000 in
theorem alone_off (fv : Value) (ms : List MV) (at' : Int) (w : World) (hsm : SeesM w fv ms) (hkl : ∀ x ∈ ms, x.1.kids.length ≤ 17592186044416) (hml : ms.length ≤ 1000000) {t' : Int} {all : List (Int × Int)} {ok : Bool} (hW : WalkR (kidsOf ms) ms.length 0 (-1) (-1) [at'] t' all ok) (h1 : all.length = 0 ∨ 400 < all.length) :
    Calls Tryd.prog 21 #[fv, .int .i64 at'] w (NonePost w (if all.length = 0 then 2 else 4)) := by
  have hsm' := hsm
  obtain ⟨⟨_, fa, fc, rfl, _⟩, _⟩ := hsm
  have hbA : Below w.heap.size w (w.alloc (.cells #[.slice fa ms.length fc] 23)) := (Below.refl _ w).alloc (Nat.le_refl _) _
  have HBA := hidI hbA
  have HS := hidI (size_any _ ms at' (w.alloc (.cells #[.slice fa ms.length fc] 23)) (hsm'.below hbA (Nat.le_refl _)) (fun x hx => by have := hkl x hx; omega) (by omega) hW)
  obtain ⟨L, hL⟩ : ∃ L, all.length = L := ⟨_, rfl⟩
  rw [hL] at HS h1 ⊢
  clear hL hW hkl hsm' hbA
  rcases h1 with rfl | h1
  · rw [if_pos rfl]
    go_enter Tryd.func21, Tryd.ntmps21
    go_wp2_with (go_at_call 15; refine HS.out.mono ?_; rintro e w1 ⟨rfl, hb1⟩; have HB1 := hidI (HBA.out.trans (hb1.mono HBA.out.size)); clear hb1)
    refine bodyPost_ret (results_3t rfl _ _ _) rfl ?_
    exact ⟨rfl, HB1.out⟩
  · rw [if_neg (by omega)]
    have q1 : ((L : Int) == 0) = false := by rw [beq_eq_false_iff_ne]; omega
    have q2 : (400 : Int) < (L : Int) := by omega
    have q3 : ¬ L = 0 := by omega
    go_enter Tryd.func21, Tryd.ntmps21
    go_wp2_with (go_at_call 15; refine HS.out.mono ?_; rintro e w1 ⟨rfl, hb1⟩; have HB1 := hidI (HBA.out.trans (hb1.mono HBA.out.size)); clear hb1)
    refine bodyPost_ret (results_3t rfl _ _ _) rfl ?_
    exact ⟨rfl, HB1.out⟩
def RightD (fv tv : Value) (r : Bool) (w : World) : Prop := ∀ W, Below w.heap.size w W → Calls Tryd.prog 38 #[fv, tv] W fun e w' => e = .returned (.bool r) ∧ Below W.heap.size W w'
set_option maxHeartbeats 1000000 in
theorem rboth_bad (fa ta : Option Addr) (fn tn fc tc : Nat) (w : World) (h1 : RightD (.slice fa fn fc) (.slice ta tn tc) false w) :
    Calls Tryd.prog 24 #[.slice fa fn fc, .slice ta tn tc, .slice fa fn fc, .slice ta tn tc] w (NonePost w 3) := by
  have H1 := hidI h1
  clear h1
  go_enter Tryd.func24, Tryd.ntmps24
  go_wp2_with (go_at_call 38; refine (H1.out _ (Below.refl _ _)).mono ?_; rintro e w1 ⟨rfl, hb1⟩; have HB1 := hidI hb1; clear hb1 H1)
  refine bodyPost_ret (results_3t rfl _ _ _) rfl ?_
  exact ⟨rfl, HB1.out⟩
set_option maxHeartbeats 1000000 in
theorem rboth_long (fa ta : Option Addr) (fn tn fc tc : Nat) (w : World) (hl : 400 < fn + fn) (hf : fn ≤ 400) (h1 : RightD (.slice fa fn fc) (.slice ta tn tc) true w) :
    Calls Tryd.prog 24 #[.slice fa fn fc, .slice ta tn tc, .slice fa fn fc, .slice ta tn tc] w (NonePost w 4) := by
  have H1 := hidI h1
  have H2 := hidI h1
  have ws : IntKind.i64.wrap ((fn : Int) + (fn : Int)) = (fn : Int) + (fn : Int) := by rw [IntKind.wrap_i64]; omega
  have e1 : (400 : Int) < (fn : Int) + (fn : Int) := by omega
  clear h1
  go_enter Tryd.func24, Tryd.ntmps24
  go_wp2_with (first
    | (go_at_call 38; refine (H1.out _ (Below.refl _ _)).mono ?_; rintro e w1 ⟨rfl, hb1⟩; have HB1 := hidI hb1; clear hb1 H1)
    | (go_at_call 38; refine (H2.out _ HB1.out).mono ?_; rintro e w2 ⟨rfl, hb2⟩; have HB2 := hidI (HB1.out.trans (hb2.mono HB1.out.size)); clear hb2))
  refine bodyPost_ret (results_3t rfl _ _ _) rfl ?_
  exact ⟨rfl, HB2.out⟩
end Go.Proofs.YtnlplkchkhibaaaDoor
/-
  The document's Both, where it can be.
-/
namespace Go.Proofs.YtnlplkchkhibaaaDoor
open Go.RowKit Go.Deep Go.MapKept
def RBothPost (w : World) (ms : List MV) (top : List Int) (e : Ending) (w' : World) : Prop := ∃ v u xs, e = .returned (.tuple #[v, u, .int .i64 0]) ∧ xs.map Prod.fst = ms.map Prod.fst ++ ms.map (fun x => upF (ms.length : Int) x.1) ∧ SeesM w' v xs ∧ SeesC w' u (top ++ up (ms.length : Int) top).length 1 (intsI (top ++ up (ms.length : Int) top)) ∧ Below w.heap.size w w'
/-- Forms that lie away from a slice that grows. -/
structure Outs (w : World) (v pv : Value) (xs : List MV) : Prop where
  sees : SeesM w v xs
  row : ∀ k, v.ownBlock = some k → pv.ownBlock ≠ some k ∧ k < w.heap.size
  kid : ∀ x ∈ xs, ∀ k, x.2.ownBlock = some k → pv.ownBlock ≠ some k ∧ k < w.heap.size
theorem Outs.grow {w w' : World} {v pv pv' : Value} {xs : List MV} {o : Obj} (h : Outs w v pv xs) (hg : (w.alloc o).grownBy w' pv.ownBlock) (hat : pv'.ownBlock = pv.ownBlock ∨ pv'.ownBlock = some (w.alloc o).heap.size) : Outs w' v pv' xs := by
  have hs := h.sees.below (B := w.heap.size) ((Below.refl _ w).alloc (Nat.le_refl _) o) (Nat.le_refl _)
  have hz : w.heap.size < w'.heap.size := by have := hg.size; simp at this; omega
  have key : ∀ {u : Value} {n size : Nat} {cs : List Value}, SeesC (w.alloc o) u n size cs → (∀ k, u.ownBlock = some k → pv.ownBlock ≠ some k ∧ k < w.heap.size) → SeesC w' u n size cs := fun {u n size cs} h1 h2 => h1.grow2 hg (by
    rcases seesC_block h1 with h0 | ⟨k, hk⟩
    · exact .inl h0
    · exact .inr fun e => (h2 k hk).1 (e.symm.trans hk))
  have far : ∀ {u : Value}, (∀ k, u.ownBlock = some k → pv.ownBlock ≠ some k ∧ k < w.heap.size) → ∀ k, u.ownBlock = some k → pv'.ownBlock ≠ some k ∧ k < w'.heap.size := fun {u} h2 k hk => by
    have h3 := h2 k hk
    refine ⟨fun e => ?_, by omega⟩
    rcases hat with h4 | h4
    · exact h3.1 (h4.symm.trans e)
    · rw [h4] at e
      simp at e
      omega
  exact ⟨⟨key hs.row h.row, fun i x hx => key (hs.kid i x hx) (h.kid x (List.mem_of_getElem? hx))⟩, far h.row, fun x hx => far (h.kid x hx)⟩
set_option maxRecDepth 100000 in
set_option maxHeartbeats 4000000 in
theorem rboth_ok (fv tv : Value) (ms : List MV) (top : List Int) (w : World) (hm : SeesM w fv ms) (ht : SeesC w tv top.length 1 (intsI top)) (hml : ms.length + ms.length ≤ 400) (htl : top.length ≤ 400) (hkl : ∀ x ∈ ms, x.1.kids.length ≤ 400) (h1 : RightD fv tv true w) :
    Calls Tryd.prog 24 #[fv, tv, fv, tv] w (RBothPost w ms top) := by
  obtain ⟨_, fa, fc, hfv, _⟩ := hm.row
  have ht2 := ht
  obtain ⟨_, ta, tc, htv, _⟩ := ht2
  subst hfv
  subst htv
  have HM := hidI hm
  have HT := hidI ht
  have HKL := hidI hkl
  have H1 := hidI h1
  have H2 := hidI h1
  have ws : IntKind.i64.wrap ((ms.length : Int) + (ms.length : Int)) = (ms.length : Int) + (ms.length : Int) := by rw [IntKind.wrap_i64]; omega
  have e1 : ¬ (400 : Int) < (ms.length : Int) + (ms.length : Int) := by omega
  clear h1 hm ht hkl
  go_enter Tryd.func24, Tryd.ntmps24
  go_wp2_with (first
    | (go_at_call 38; refine (H1.out _ (Below.refl _ _)).mono ?_; rintro e w1 ⟨rfl, hb1⟩; have HB1 := hidI hb1; clear hb1 H1)
    | (go_at_call 38; refine (H2.out _ HB1.out).mono ?_; rintro e w2 ⟨rfl, hb2⟩; have HB2 := hidI (HB1.out.trans (hb2.mono HB1.out.size)); clear hb2 HB1 H2))
  go_loopg [11, 12] ms.length (fun g s11 s12 wx => ∃ i : Nat, i + g = ms.length ∧ s12 = .int .i64 (i : Int) ∧ (∃ ns : List MV, ns.map Prod.fst = (ms.take i).map Prod.fst ∧ Hid (OwnM w.heap.size wx s11 ns)) ∧ Hid (Below w.heap.size w wx))
  case atStart => exact ⟨0, by omega, rfl, ⟨[], rfl, hidI (OwnM.nil _ _)⟩, HB2⟩
  case round =>
    obtain ⟨i, hi, rfl, ⟨ns, hns, HO⟩, HX⟩ := hrel
    have hnl : ns.length = i := by have := congrArg List.length hns; simp at this; omega
    subst hnl
    have HNS := hidI hns
    clear hns
    cases gk with
    | succ g =>
      have hil : ns.length < ms.length := by omega
      have hgi : ms[ns.length]? = some ms[ns.length] := List.getElem?_eq_getElem hil
      obtain ⟨x, hx⟩ : ∃ x, ms[ns.length] = x := ⟨_, rfl⟩
      rw [hx] at hgi
      obtain ⟨fb, fo, fc', ka, kc, hfv, hx2, c0, c1, c2, c3, c4⟩ := (HM.out.below HX.out (Nat.le_refl _)).load hgi
      cases hfv
      have hkid := HM.out.kid ns.length x hgi
      rw [hx2] at hkid
      have HK := hidI hkid
      have hkx := HKL.out x (List.mem_of_getElem? hgi)
      have HGI := hidI hgi
      obtain ⟨⟨k, s, n, kids, p⟩, kv⟩ := x
      simp only at HK hkx c0 c1 c2 c3 c4 hx2
      subst hx2
      have e1 : (ns.length : Int) < (ms.length : Int) := by omega
      have e2 : (0 : Int) ≤ (ns.length : Int) := by omega
      have e3 : ((ns.length : Int)).toNat = ns.length := by omega
      have hsz := HX.out.size
      clear hgi hx hkid
      obtain ⟨oa, oc, rfl⟩ := own_slice HO.out.own
      have HBX : Hid (Below w.heap.size w (wr.alloc (.cells #[.int .u8 k, .string s, .int .i64 n, .slice ka kids.length kc, .int .i64 p] 40))) := hidI (HX.out.alloc hsz _)
      have HKV : Hid (SeesC ((wr.alloc (.cells #[.int .u8 k, .string s, .int .i64 n, .slice ka kids.length kc, .int .i64 p] 40)).alloc (.cells #[] 3)) (.slice ka kids.length kc) kids.length 1 (intsI kids)) := hidI (HK.out.below ((HX.out.alloc hsz _).alloc (by simp; omega) _) (Nat.le_refl _))
      have HE := hidI (empty_row (wr.alloc (.cells #[.int .u8 k, .string s, .int .i64 n, .slice ka kids.length kc, .int .i64 p] 40)) (wr.heap.size + 1) (by simp))
      rw [show (wr.alloc (.cells #[.int .u8 k, .string s, .int .i64 n, .slice ka kids.length kc, .int .i64 p] 40)).heap.size = wr.heap.size + 1 by simp] at HE
      go_wp2_with (at_builtin; go_must (refine wpList_append_any Tryd.underlying24 Tryd.info3x rfl (by decide) (by decide) rfl _ _ rfl (wr.heap.size + 1) (.slice (some ⟨wr.heap.size + 1, 0, none⟩) 0 0) 0 [] rfl HE.out _ kids.length (intsI kids) rfl HKV.out (intsI_one _) (by omega) (by simp) ?_); intro hv w2 ho2 hg2 hat2; refine Hid.out ?_)
      rw [Nat.zero_add, List.nil_append] at ho2
      have hb2 : Below (wr.alloc (.cells #[.int .u8 k, .string s, .int .i64 n, .slice ka kids.length kc, .int .i64 p] 40)).heap.size (wr.alloc (.cells #[.int .u8 k, .string s, .int .i64 n, .slice ka kids.length kc, .int .i64 p] 40)) w2 := ((Below.refl _ _).alloc (Nat.le_refl _) _).grown hg2 (by simp) (fun k e => by cases e; simp)
      obtain ⟨⟨d0, d1, d2, _, d4⟩, df, hl2, hB2⟩ := box1 hb2
      have d3 : ∃ u, w2.cell? ⟨wr.heap.size, 3, none⟩ = some u := ⟨_, by assumption⟩
      have f0 := df 3
      obtain ⟨ha, hc, rfl⟩ := own_slice ho2
      have hlt2 := ho2.lt
      obtain ⟨WS, hWS⟩ : ∃ WS, w2.setCell ⟨wr.heap.size, 3, none⟩ (.slice ha kids.length hc) = WS := ⟨_, rfl⟩
      have hzS : WS.heap.size = w2.heap.size := by rw [← hWS]; simp
      have hB3 : Below wr.heap.size wr WS := by rw [← hWS]; exact hB2.setCell (by simp) _
      have hoS : WS.ownsRow (wr.heap.size + 1) 3 1 (.slice ha kids.length hc) kids.length (intsI kids) := by rw [← hWS]; exact ownsRow_setCell_below ho2 (by simp) _
      have HWS := hidI hWS
      have HOA := hidI ((HO.out.below hB3).below ((Below.refl _ WS).alloc (Nat.le_refl _) (.cells #[.int .u8 k, .string s, .int .i64 n, .slice ha kids.length hc, .int .i64 p] 40)))
      have HVA := hidI (mv_at (W := WS) (g := w2.heap.size) (a := .int .u8 k) (b := .string s) (c := .int .i64 n) (d := .slice ha kids.length hc) (f := .int .i64 p) hzS.symm)
      have HKD := hidI (seesC_of_owns (hoS.alloc (.cells #[.int .u8 k, .string s, .int .i64 n, .slice ha kids.length hc, .int .i64 p] 40)))
      have HLT := hidI hlt2
      have HBS := hidI (HX.out.trans (hB3.mono hsz))
      have hoo := HO.out.own.lt
      have HOO := hidI hoo
      have hzB := hB3.size
      rw [← hWS] at HOA HVA
      refine hidI ?_
      clear hb2 ho2 hlt2 hB3 hoS hWS df hB2 hoo hg2 hat2 HE HKV HBX
      go_wp2_with (at_builtin; go_must (refine wpList_append_any Tryd.underlying23 Tryd.info40x rfl (by decide) (by decide) rfl _ _ rfl w.heap.size (.slice oa ns.length oc) ns.length (flatM ns) rfl HOA.out.own _ 1 [.int .u8 k, .string s, .int .i64 n, .slice ha kids.length hc, .int .i64 p] rfl HVA.out (by simp [Value.oneCell']) (by omega) (by simp; omega) ?_); intro ov' w4 hown4 hgrow4 hat4; refine Hid.out ?_)
      rw [HWS.out] at HOA HVA hgrow4 hat4
      have hJ := HOA.out.join (ns := [((⟨k, s, n, kids, p⟩ : Fm), Value.slice ha kids.length hc)]) hown4 hgrow4 hat4
        (fun y hy => by simp at hy; subst hy; exact HKD.out)
        (fun y hy => by
          simp at hy; subst hy
          cases ha with
          | none =>
            refine .inl ?_
            show kids.length = 0
            obtain ⟨_, a5, c5, e5, h5 | ⟨b5, o5, e6, _⟩⟩ := HKD.out
            · exact h5
            · cases e5; cases e6
          | some A =>
            refine .inr fun e => ?_
            have h1 := HLT.out A.block (by simp [Value.ownBlock])
            have h2 := HOO.out A.block (e.symm.trans (by simp [Value.ownBlock]))
            omega)
        (fun y hy kk hk => by
          simp at hy; subst hy
          have h1 := HLT.out kk hk
          simp
          omega)
      have hB4 : Below w.heap.size w w4 := (HBS.out.alloc (by omega) _).grown hgrow4 (by simp; omega) (fun k e => (HOO.out k e).1)
      have HJ := hidI hJ
      have HB4 := hidI hB4
      refine hidI ?_
      clear hown4 hgrow4 hat4 hB4 hJ HOA HVA HKD HBS
      go_wp2
      go_roundg g
      case measure => omega
      case rel => exact ⟨ns.length + 1, by omega, by go_num, ⟨_, by rw [List.take_add_one, HGI.out]; simp [HNS.out], HJ⟩, HB4⟩
    | zero =>
      have hil : ns.length = ms.length := by omega
      have hN := HNS.out
      rw [hil, List.take_length] at hN
      have e1 : ¬ ((ns.length : Int) < (ms.length : Int)) := by omega
      obtain ⟨oa, oc, rfl⟩ := own_slice HO.out.own
      have HN := hidI hN
      have hsz := HX.out.size
      clear hil
      have HTV : Hid (SeesC (wr.alloc (.cells #[] 3)) (.slice ta top.length tc) top.length 1 (intsI top)) := hidI (HT.out.below (HX.out.alloc hsz _) (Nat.le_refl _))
      have HE := hidI (empty_row wr wr.heap.size (Nat.le_refl _))
      clear hN
      go_wp2_with (at_builtin; go_must (refine wpList_append_any Tryd.underlying24 Tryd.info3x rfl (by decide) (by decide) rfl _ _ rfl wr.heap.size (.slice (some ⟨wr.heap.size, 0, none⟩) 0 0) 0 [] rfl HE.out _ top.length (intsI top) rfl HTV.out (intsI_one _) (by omega) (by simp) ?_); intro pv w5 ho5 hg5 hat5; refine Hid.out ?_)
      rw [Nat.zero_add, List.nil_append] at ho5
      have hb5 : Below wr.heap.size wr w5 := ((Below.refl _ wr).alloc (Nat.le_refl _) _).grown hg5 (by simp) (fun k e => by cases e; exact Nat.le_refl _)
      have HB5 := hidI (HX.out.trans (hb5.mono hsz))
      have HO5 := hidI (HO.out.below hb5)
      have HP5 := hidI (own_lower ho5 hsz)
      have HA5 : Hid (∀ k, pv.ownBlock = some k → (Value.slice oa ns.length oc).ownBlock ≠ some k) := hidI (fun k hk e => by
        have h1 := (ho5.lt k hk).1
        have h2 := (HO.out.own.lt k e).2
        omega)
      obtain ⟨pa, pc, rfl⟩ := own_slice ho5
      have HA6 : Hid (∀ x ∈ ns, ∀ k, x.2.ownBlock = some k → (Value.slice pa top.length pc).ownBlock ≠ some k) := hidI (fun x hx k hk e => by
        have h1 := (ho5.lt k e).1
        have h2 := (HO.out.lt x hx k hk).2
        omega)
      refine hidI ?_
      clear ho5 hg5 hat5 hb5 HTV HE HO HX hsz
      go_wp2
      go_loopg [11, 15] ms.length (fun g s11 s15 wx => ∃ (i : Nat) (xs : List MV), i + g = ms.length ∧ s15 = .int .i64 (i : Int) ∧ Hid (xs.map Prod.fst = ms.map Prod.fst ++ (ms.take i).map (fun x => upF (ms.length : Int) x.1)) ∧ Hid (OwnM w.heap.size wx s11 xs) ∧ Hid (wx.ownsRow w.heap.size 3 1 (.slice pa top.length pc) top.length (intsI top)) ∧ Hid (∀ k, (Value.slice pa top.length pc).ownBlock = some k → s11.ownBlock ≠ some k) ∧ Hid (∀ x ∈ xs, ∀ k, x.2.ownBlock = some k → (Value.slice pa top.length pc).ownBlock ≠ some k) ∧ Hid (Below w.heap.size w wx))
      case atStart => exact ⟨0, ns, by omega, rfl, hidI (by simpa using HN.out), HO5, HP5, HA5, HA6, HB5⟩
      case round =>
        rename World => wo
        clear HO5 HP5 HA5 HA6 HB5 HN
        obtain ⟨i, xs, hi, rfl, HN, HO, HP, HA, HC, HX⟩ := hrel
        have HXL : Hid (xs.length = ms.length + i) := hidI (by have := congrArg List.length HN.out; simp at this; omega)
        cases gk with
        | zero =>
          obtain rfl : i = ms.length := by omega
          rw [List.take_length] at HN
          have e1 : ¬ ((ms.length : Int) < (ms.length : Int)) := by omega
          obtain ⟨oa2, oc2, rfl⟩ := own_slice HO.out.own
          have HOu : Hid (Outs wo (.slice oa2 xs.length oc2) (.slice pa top.length pc) xs) := hidI ⟨HO.out.sees, fun k hk => ⟨fun e => HA.out k e hk, (HO.out.own.lt k hk).2⟩, fun x hx k hk => ⟨HC.out x hx k hk, (HO.out.lt x hx k hk).2⟩⟩
          clear HO HA HC
          go_wp2
          go_loopg [14, 19] top.length (fun g s14 s19 wx => ∃ j : Nat, j + g = top.length ∧ s19 = .int .i64 (j : Int) ∧ Hid (wx.ownsRow w.heap.size 3 1 s14 (top.length + j) (intsI (top ++ up (ms.length : Int) (top.take j)))) ∧ Hid (Outs wx (.slice oa2 xs.length oc2) s14 xs) ∧ Hid (Below w.heap.size w wx))
          case atStart => exact ⟨0, by omega, rfl, hidI (by simpa [up] using HP.out), HOu, HX⟩
          case round =>
            clear HP HOu HX
            obtain ⟨j, hj, rfl, HP, HOu, HX⟩ := hrel
            obtain ⟨pa4, pc4, rfl⟩ := own_slice HP.out
            have hsz := HX.out.size
            cases gk with
            | zero =>
              obtain rfl : j = top.length := by omega
              rw [List.take_length] at HP
              have f1 : ¬ ((top.length : Int) < (top.length : Int)) := by omega
              go_wp2
              refine bodyPost_ret (results_3t rfl _ _ _) rfl ?_
              refine ⟨_, _, xs, rfl, HN.out, HOu.out.sees, ?_, HX.out⟩
              have := seesC_of_owns HP.out
              rw [List.length_append, up_length]
              exact this
            | succ g =>
              have hil : j < top.length := by omega
              have f1 : (j : Int) < (top.length : Int) := by omega
              have f2 : (0 : Int) ≤ (j : Int) := by omega
              have f3 : ((j : Int)).toNat = j := by omega
              have hgi : top[j]? = some top[j] := List.getElem?_eq_getElem hil
              obtain ⟨c, hc⟩ : ∃ c, top[j] = c := ⟨_, rfl⟩
              rw [hc] at hgi
              obtain ⟨tb, to, rfl, c0⟩ := ints_cell HT.out hgi
              have c1 : wr.cell? ⟨tb, to + j, none⟩ = some (.int .i64 c) := (HX.out.cell (World.block_lt_of_cell? w _ c0)).trans c0
              have HU := hidI (up_next (b := (ms.length : Int)) hgi)
              obtain ⟨y, wy⟩ : ∃ y, IntKind.i64.wrap (c + (ms.length : Int)) = y := ⟨_, rfl⟩
              rw [wy] at HU
              have HOA := hidI (HP.out.alloc (.cells #[.int .i64 y] 3))
              have HVA := hidI (int_at (W := wr) (b := wr.heap.size) y rfl)
              clear hgi hc c0
              go_wp2_with (at_builtin; go_must (refine wpList_append_any Tryd.underlying24 Tryd.info3x rfl (by decide) (by decide) rfl _ _ rfl w.heap.size (.slice pa4 (top.length + j) pc4) (top.length + j) (intsI (top ++ up (ms.length : Int) (top.take j))) rfl HOA.out _ 1 [.int .i64 y] rfl HVA.out (by simp [Value.oneCell']) (by omega) (by simp; omega) ?_); intro pv' w6 ho6 hg6 hat6; refine Hid.out ?_)
              have HB6 : Hid (Below w.heap.size w w6) := hidI ((HX.out.alloc hsz _).grown hg6 (by simp; omega) (fun k e => (HP.out.lt k e).1))
              have HOu6 := hidI (HOu.out.grow hg6 hat6)
              have HP6 : Hid (w6.ownsRow w.heap.size 3 1 pv' (top.length + (j + 1)) (intsI (top ++ up (ms.length : Int) (top.take (j + 1))))) := hidI (by
                rw [intsI_append, HU.out, ← List.append_assoc, ← intsI_append]
                exact ho6)
              refine hidI ?_
              clear ho6 hg6 hat6 HOA HVA HU
              go_wp2
              go_roundg g
              case measure => omega
              case rel => exact ⟨j + 1, by omega, by go_num, HP6, HOu6, HB6⟩
        | succ g =>
          have hil : i < ms.length := by omega
          have hgi : ms[i]? = some ms[i] := List.getElem?_eq_getElem hil
          obtain ⟨x, hx⟩ : ∃ x, ms[i] = x := ⟨_, rfl⟩
          rw [hx] at hgi
          obtain ⟨fb, fo, fc', ka, kc, hfv, hx2, c0, c1, c2, c3, c4⟩ := (HM.out.below HX.out (Nat.le_refl _)).load hgi
          cases hfv
          have hkid := HM.out.kid i x hgi
          rw [hx2] at hkid
          have HK := hidI hkid
          have hkx := HKL.out x (List.mem_of_getElem? hgi)
          have HGI := hidI hgi
          obtain ⟨⟨k, s, n, kids, p⟩, kv⟩ := x
          simp only at HK hkx c0 c1 c2 c3 c4 hx2
          subst hx2
          have e1 : (i : Int) < (ms.length : Int) := by omega
          have e2 : (0 : Int) ≤ (i : Int) := by omega
          have e3 : ((i : Int)).toNat = i := by omega
          have hsz := HX.out.size
          clear hgi hx hkid
          obtain ⟨oa, oc, rfl⟩ := own_slice HO.out.own
          have HB0 : Hid (Below (wo.alloc (.cells #[.int .u8 k, .string s, .int .i64 n, .slice ka kids.length kc, .int .i64 p] 40)).heap.size (wo.alloc (.cells #[.int .u8 k, .string s, .int .i64 n, .slice ka kids.length kc, .int .i64 p] 40)) (wo.alloc (.cells #[.int .u8 k, .string s, .int .i64 n, .slice ka kids.length kc, .int .i64 p] 40))) := hidI (Below.refl _ _)
          go_wp2
          go_loopg [17, 18] kids.length (fun g s17 s18 wx => ∃ j : Nat, j + g = kids.length ∧ s18 = .int .i64 (j : Int) ∧ Hid (wx.ownsRow (wo.heap.size + 1) 3 1 s17 j (intsI (up (ms.length : Int) (kids.take j)))) ∧ Hid (Below (wo.alloc (.cells #[.int .u8 k, .string s, .int .i64 n, .slice ka kids.length kc, .int .i64 p] 40)).heap.size (wo.alloc (.cells #[.int .u8 k, .string s, .int .i64 n, .slice ka kids.length kc, .int .i64 p] 40)) wx))
          case atStart => exact ⟨0, by omega, rfl, hidI (by simpa [up, intsI] using World.ownsRow_nil _ _ _ _), HB0⟩
          case round =>
            clear c0 c1 c2 c3 c4 HB0
            obtain ⟨j, hj, rfl, HQ, HB⟩ := hrel
            obtain ⟨ha, hc, rfl⟩ := own_slice HQ.out
            have hb2 := HB.out
            obtain ⟨⟨d0, d1, d2, d3, d4⟩, df, hl2, hB2⟩ := box1 hb2
            cases gk with
            | succ g3 =>
              have hjl : j < kids.length := by omega
              have f1 : (j : Int) < (kids.length : Int) := by omega
              have f2 : (0 : Int) ≤ (j : Int) := by omega
              have f3 : ((j : Int)).toNat = j := by omega
              have hgi : kids[j]? = some kids[j] := List.getElem?_eq_getElem hjl
              obtain ⟨c, hcc⟩ : ∃ c, kids[j] = c := ⟨_, rfl⟩
              rw [hcc] at hgi
              obtain ⟨tb, to, rfl, c0⟩ := ints_cell HK.out hgi
              have c1 : wr.cell? ⟨tb, to + j, none⟩ = some (.int .i64 c) := ((HX.out.trans (hB2.mono hsz)).cell (World.block_lt_of_cell? w _ c0)).trans c0
              have HU := hidI (up_next (b := (ms.length : Int)) hgi)
              obtain ⟨y, wy⟩ : ∃ y, IntKind.i64.wrap (c + (ms.length : Int)) = y := ⟨_, rfl⟩
              rw [wy] at HU
              have HOA := hidI (HQ.out.alloc (.cells #[.int .i64 y] 3))
              have HVA := hidI (int_at (W := wr) (b := wr.heap.size) y rfl)
              have hzz := HB.out.size
              have hz1 : (wo.alloc (.cells #[.int .u8 k, .string s, .int .i64 n, .slice (some ⟨tb, to, none⟩) kids.length kc, .int .i64 p] 40)).heap.size = wo.heap.size + 1 := by simp
              have HZ1 := hidI hz1
              rw [hz1] at hzz
              clear hgi hcc c0 hb2 df hB2 d0 d1 d2 d4 hz1
              go_wp2_with (at_builtin; go_must (refine wpList_append_any Tryd.underlying24 Tryd.info3x rfl (by decide) (by decide) rfl _ _ rfl (wo.heap.size + 1) (.slice ha j hc) j (intsI (up (ms.length : Int) (kids.take j))) rfl HOA.out _ 1 [.int .i64 y] rfl HVA.out (by simp [Value.oneCell']) (by omega) (by simp; omega) ?_); intro kv' w6 ho6 hg6 hat6; refine Hid.out ?_)
              have HB6 := hidI ((HB.out.alloc HB.out.size _).grown hg6 (by rw [HZ1.out]; simp; omega) (fun k e => by rw [HZ1.out]; exact (HQ.out.lt k e).1))
              rw [← HU.out] at ho6
              have HQ6 := hidI ho6
              refine hidI ?_
              clear ho6 hg6 hat6 HOA HVA HU
              go_wp2
              go_roundg g3
              case measure => omega
              case rel => exact ⟨j + 1, by omega, by go_num, HQ6, HB6⟩
            | zero =>
              obtain rfl : j = kids.length := by omega
              rw [List.take_length] at HQ
              have f1 : ¬ ((kids.length : Int) < (kids.length : Int)) := by omega
              have f0 := df 3
              have hlt2 := HQ.out.lt
              obtain ⟨WS, hWS⟩ : ∃ WS, wr.setCell ⟨wo.heap.size, 3, none⟩ (.slice ha kids.length hc) = WS := ⟨_, rfl⟩
              have hzS : WS.heap.size = wr.heap.size := by rw [← hWS]; simp
              have hB3 : Below wo.heap.size wo WS := by rw [← hWS]; exact hB2.setCell (by simp) _
              have hoS : WS.ownsRow (wo.heap.size + 1) 3 1 (.slice ha kids.length hc) kids.length (intsI (up (ms.length : Int) kids)) := by rw [← hWS]; exact ownsRow_setCell_below HQ.out (by simp) _
              have HWS := hidI hWS
              have HOA := hidI ((HO.out.below hB3).below ((Below.refl _ WS).alloc (Nat.le_refl _) (.cells #[.int .u8 k, .string s, .int .i64 n, .slice ha kids.length hc, .int .i64 p] 40)))
              have HPA := hidI (own_below (own_below HP.out hB3 (Nat.le_refl _)) ((Below.refl _ WS).alloc (Nat.le_refl _) (.cells #[.int .u8 k, .string s, .int .i64 n, .slice ha kids.length hc, .int .i64 p] 40)) (Nat.le_refl _))
              have HVA := hidI (mv_at (W := WS) (g := wr.heap.size) (a := .int .u8 k) (b := .string s) (c := .int .i64 n) (d := .slice ha kids.length hc) (f := .int .i64 p) hzS.symm)
              have HKD := hidI (seesC_of_owns (hoS.alloc (.cells #[.int .u8 k, .string s, .int .i64 n, .slice ha kids.length hc, .int .i64 p] 40)))
              have HLT := hidI hlt2
              have HBS := hidI (HX.out.trans (hB3.mono hsz))
              have hoo := HO.out.own.lt
              have HOO := hidI hoo
              have hzB := hB3.size
              have HPL := hidI HP.out.lt
              have hxm : xs.length ≤ 400 := by have := HXL.out; omega
              rw [← hWS] at HOA HVA
              clear hb2 hlt2 hB3 hoS hWS df hB2 hoo
              go_wp2_with (at_builtin; go_must (refine wpList_append_any Tryd.underlying23 Tryd.info40x rfl (by decide) (by decide) rfl _ _ rfl w.heap.size (.slice oa xs.length oc) xs.length (flatM xs) rfl HOA.out.own _ 1 [.int .u8 k, .string s, .int .i64 n, .slice ha kids.length hc, .int .i64 p] rfl HVA.out (by simp [Value.oneCell']) (by omega) (by simp; omega) ?_); intro ov' w4 hown4 hgrow4 hat4; refine Hid.out ?_)
              rw [HWS.out] at HOA HVA hgrow4 hat4
              have hJ := HOA.out.join (ns := [((⟨k, s, n, up (ms.length : Int) kids, p⟩ : Fm), Value.slice ha kids.length hc)]) hown4 hgrow4 hat4
                (fun y hy => by simp at hy; subst hy; rw [show (up (ms.length : Int) kids).length = kids.length from up_length _ _]; exact HKD.out)
                (fun y hy => by
                  simp at hy; subst hy
                  cases ha with
                  | none =>
                    refine .inl ?_
                    show (up (ms.length : Int) kids).length = 0
                    rw [up_length]
                    obtain ⟨_, a5, c5, e5, h5 | ⟨b5, o5, e6, _⟩⟩ := HKD.out
                    · exact h5
                    · cases e5; cases e6
                  | some A =>
                    refine .inr fun e => ?_
                    have h1 := HLT.out A.block (by simp [Value.ownBlock])
                    have h2 := HOO.out A.block (e.symm.trans (by simp [Value.ownBlock]))
                    omega)
                (fun y hy kk hk => by
                  simp at hy; subst hy
                  have h1 := HLT.out kk hk
                  simp
                  omega)
              have hB4 : Below w.heap.size w w4 := (HBS.out.alloc (by omega) _).grown hgrow4 (by simp; omega) (fun k e => (HOO.out k e).1)
              have HJ := hidI hJ
              have HB4 := hidI hB4
              have HP4 : Hid (w4.ownsRow w.heap.size 3 1 (.slice pa top.length pc) top.length (intsI top)) := hidI (HPA.out.kept hgrow4 (by
                cases hpb : (Value.slice pa top.length pc).ownBlock with
                | none => exact .inl rfl
                | some kk => exact .inr fun e => HA.out kk hpb e.symm))
              have HA4 : Hid (∀ k, (Value.slice pa top.length pc).ownBlock = some k → ov'.ownBlock ≠ some k) := hidI (fun kk hk e => by
                rcases hat4 with h | h
                · exact HA.out kk hk (h.symm.trans e)
                · have h2 := (HPL.out kk hk).2
                  rw [h] at e
                  simp at e
                  omega)
              have HC4 : Hid (∀ x ∈ xs ++ [((⟨k, s, n, up (ms.length : Int) kids, p⟩ : Fm), Value.slice ha kids.length hc)], ∀ k, x.2.ownBlock = some k → (Value.slice pa top.length pc).ownBlock ≠ some k) := hidI (fun x hx kk hk e => by
                rcases List.mem_append.1 hx with hx | hx
                · exact HC.out x hx kk hk e
                · simp at hx
                  subst hx
                  have h1 := (HLT.out kk hk).1
                  have h2 := (HPL.out kk e).2
                  omega)
              refine hidI ?_
              clear hown4 hgrow4 hat4 hB4 hJ HOA HVA HKD HBS HPA
              go_wp2
              go_roundg g
              case measure => omega
              case rel => exact ⟨i + 1, _, by omega, by go_num, hidI (by rw [List.take_add_one, HGI.out]; simp [HN.out, upF]), HJ, HP4, HA4, HC4, HB4⟩
end Go.Proofs.YtnlplkchkhibaaaDoor
