/-
  The program's Agg: Take, Part, Count, Clear, New, Fork.
-/
import Derived.Test.YtdfieflcclbgjaaPAgg
namespace Go.Proofs.Ytdfieflcclbgjaa
open Go.RowKit Go.Deep Go.MapKept
theorem more_any {w : World} {p o n : Nat} {c : Int} {ps : List Int} (h : PAg w p o n c ps) (k : Int) (hc : 0 ≤ c) (hk : 0 ≤ k) (hs : c + k ≤ 1000000) : Calls Try.prog 58 #[.pointer (some ⟨p, 0, none⟩), .int .i64 k] w (ChPost w p o n (c + k) ps) := by
  have k2 := h.c2
  have f2 := h.fz 2
  have HP : Hid (ChPost w p o n (c + k) ps (.returned (.tuple #[])) (w.setCell ⟨p, 2, none⟩ (.int .i64 (c + k)))) := hidI ⟨rfl, h.count _, set_grown _ _ _ _⟩
  have q1 : ¬ (9223372036854775807 - c < k) := by omega
  clear h
  go_enter Try.func58, Try.ntmps58
  go_wp2
  go_end0
  exact HP.out
def TkPost (w : World) (p o n : Nat) (c : Int) (ps : List Int) (e : Ending) (w' : World) : Prop := e = .returned (.int .i64 0) ∧ PAg w' p o n c ps ∧ w.grownBy w' (some p)
theorem ptake_nil (k x : Int) (w : World) : Calls Try.prog 28 #[.pointer none, .int .i64 k, .int .i64 x] w fun e w' => e = .returned (.int .i64 1) ∧ w = w' := by
  have C := hidI (check_nil k w)
  go_enter Try.func28, Try.ntmps28
  go_wp2_with (go_at_call 55; refine Calls.mono C.out ?_; rintro e w' ⟨rfl, rfl⟩)
  go_ret
  exact ⟨rfl, rfl⟩
theorem ptake_bad {w : World} {p o n : Nat} {c : Int} {ps : List Int} (h : PAg w p o n c ps) (k x : Int) (hk : mayE n k = 2) : Calls Try.prog 28 #[.pointer (some ⟨p, 0, none⟩), .int .i64 k, .int .i64 x] w fun e w' => e = .returned (.int .i64 2) ∧ w = w' := by
  have C := hidI (check_any h k)
  rw [hk] at C
  clear h hk
  go_enter Try.func28, Try.ntmps28
  go_wp2_with (go_at_call 55; refine Calls.mono C.out ?_; rintro e w' ⟨rfl, rfl⟩)
  go_ret
  exact ⟨rfl, rfl⟩
theorem may_ok {n : Nat} {wk : Nat} (h : wk < n) : mayE n (wk : Int) = 0 := if_pos (by omega)
set_option maxRecDepth 100000 in
set_option maxHeartbeats 1000000 in
theorem ptake_any {w : World} {p o n : Nat} {c : Int} {ps : List Int} (h : PAg w p o n c ps) (ho : many5 o) (wk : Nat) (x z : Int) (hw : wk < n) (hx : ps[wk]? = some x) (hc : 0 ≤ c) (hs : c ≤ 100000) :
    Calls Try.prog 28 #[.pointer (some ⟨p, 0, none⟩), .int .i64 (wk : Int), .int .i64 z] w (TkPost w p o n (c + 1) (ps.set wk (opTwo o x z))) := by
  have C := hidI (check_any h (wk : Int))
  rw [may_ok hw] at C
  have CT := hidI (taking_any w p z)
  have HA := hidI h
  have HX := hidI hx
  have HO := hidI ho
  clear h hw hx ho
  go_enter Try.func28, Try.ntmps28
  go_wp2_with (first | (go_at_call 55; refine Calls.mono C.out ?_; rintro e w' ⟨rfl, rfl⟩) | (go_at_call 57; refine Calls.mono CT.out ?_; rintro e w1 ⟨ba, bw, rfl, ht1, hb1⟩; refine Hid.out ?_))
  refine hidI ?_
  have HA1 := hidI (HA.out.below hb1 (Nat.le_refl _))
  have HG1 : Hid (w.grownBy w1 (some p)) := hidI (below_grown hb1 (Nat.le_refl _))
  have CC := hidI (change_take HA1.out HO.out ht1 wk x HX.out)
  clear C CT ht1 hb1
  go_wp2_with (go_at_call 56; refine Calls.mono CC.out ?_; rintro e w2 ⟨rfl, ha2, hg2⟩; refine Hid.out ?_)
  refine hidI ?_
  have HG2 := hidI (grown_tr HG1.out hg2)
  have CM := hidI (more_any ha2 1 hc (by omega) (by omega))
  clear CC ha2 hg2 HG1 HA1
  go_wp2_with (go_at_call 58; refine Calls.mono CM.out ?_; rintro e w3 ⟨rfl, ha3, hg3⟩; refine Hid.out ?_)
  refine hidI ?_
  have HG3 := hidI (grown_tr HG2.out hg3)
  have HA3 := hidI ha3
  clear CM ha3 hg3 HG2
  go_wp2
  go_ret
  exact ⟨rfl, HA3.out, HG3.out⟩
theorem pclear_nil (w : World) : Calls Try.prog 54 #[.pointer none] w fun e w' => e = .returned (.tuple #[]) ∧ w = w' := by
  go_enter Try.func54, Try.ntmps54
  go_wp2
  exact bodyPost_ret (v := .tuple #[]) (results_none Try.results54 _ _ _) rfl ⟨rfl, rfl⟩
/-- Parts begun anew. -/
def clr (f : Int) (ps : List Int) : Nat → List Int
  | 0 => ps
  | i + 1 => (clr f ps i).set i f
theorem clr_len (f : Int) (ps : List Int) : ∀ i, (clr f ps i).length = ps.length
  | 0 => rfl
  | i + 1 => by rw [clr, List.length_set, clr_len f ps i]
theorem clr_get (f : Int) (ps : List Int) : ∀ (i j : Nat), j < ps.length → (clr f ps i)[j]? = some (if j < i then f else ps.getD j 0)
  | 0, j, hj => by simp [clr, List.getD, hj]
  | i + 1, j, hj => by
    rw [clr, List.getElem?_set, clr_len]
    by_cases e : i = j
    · subst e
      rw [if_pos rfl, if_pos hj, if_pos (by omega)]
    · rw [if_neg e, clr_get f ps i j hj]
      by_cases h : j < i
      · rw [if_pos h, if_pos (by omega)]
      · rw [if_neg h, if_neg (by omega)]
set_option maxRecDepth 100000 in
set_option maxHeartbeats 1000000 in
theorem pclear_any {w : World} {p o n : Nat} {c : Int} {ps : List Int} (h : PAg w p o n c ps) (hn : n ≤ 4) : Calls Try.prog 54 #[.pointer (some ⟨p, 0, none⟩)] w (ChPost w p o n 0 (clr (redW (o : Int)) ps n)) := by
  have k0 := h.c0
  have k1 := h.c1
  have C := hidI (redP_any o w)
  obtain ⟨f, hf⟩ : ∃ f, redW (o : Int) = f := ⟨_, rfl⟩
  obtain ⟨b, hb⟩ : ∃ b, redB (o : Int) = b := ⟨_, rfl⟩
  rw [hf, hb] at C
  rw [hf]
  clear hf hb
  have HA := hidI h
  have HL := hidI h.len
  have hpl := h.lt
  clear h
  have HB0 : Hid (Below w.heap.size w (w.alloc (.cells #[.int .i64 f] 31))) := hidI ((Below.refl _ w).alloc (Nat.le_refl _) _)
  have HA0 := hidI (HA.out.below HB0.out (Nat.le_refl _))
  have HF0 : Hid ((w.alloc (.cells #[.int .i64 f] 31)).cell? ⟨w.heap.size, 0, none⟩ = some (.int .i64 f)) := hidI (by go_simp)
  go_enter Try.func54, Try.ntmps54
  go_wp2_with (go_at_call 53; refine Calls.mono C.out ?_; rintro e w' ⟨rfl, rfl⟩)
  clear C k0 k1
  obtain ⟨ba, hba⟩ : ∃ ba, w.heap.size = ba := ⟨_, rfl⟩
  rw [hba] at HF0 hpl ⊢
  have HBA := hidI hba
  clear hba
  have HG0 : Hid (w.grownBy (w.alloc (.cells #[.int .i64 f] 31)) (some p)) := hidI (below_grown HB0.out (Nat.le_refl _))
  generalize w.alloc (.cells #[.int .i64 f] 31) = w1 at *
  go_loopg [19] n (fun g s19 wx => ∃ i : Nat, i + g = n ∧ s19 = .int .i64 (i : Int) ∧ Hid (PAg wx p o n c (clr f ps i)) ∧ Hid (w1.grownBy wx (some p)))
  case atStart => exact ⟨0, by omega, rfl, HA0, hidI (World.grownBy.refl _ _)⟩
  case round =>
    obtain ⟨i, hig, rfl, HAx, HGx⟩ := hrel
    cases gk with
    | zero =>
      obtain rfl : n = i := by omega
      have q1 : decide ((n : Int) < (n : Int)) = false := by simp
      have f2 := HAx.out.fz 2
      have k2 := HAx.out.c2
      have HP : Hid (ChPost w p o n 0 (clr f ps n) (.returned (.tuple #[])) (wr.setCell ⟨p, 2, none⟩ (.int .i64 0))) := hidI ⟨rfl, HAx.out.count 0, grown_tr (grown_tr HG0.out HGx.out) (set_grown _ _ _ _)⟩
      go_wp2
      go_end0
      exact HP.out
    | succ g =>
      have hi : i < n := by omega
      have q1 : (i : Int) < (n : Int) := by omega
      have HFx : Hid (wr.cell? ⟨ba, 0, none⟩ = some (.int .i64 f)) := hidI (HGx.out.cell HF0.out (by intro e; simp at e; omega))
      have hx := clr_get f ps i i (by rw [HL.out]; omega)
      have CC := hidI (change_clear HAx.out HFx.out i _ hx)
      clear hx
      go_wp2_with (go_at_call 56; refine Calls.mono CC.out ?_; rintro e w2 ⟨rfl, ha2, hg2⟩; refine Hid.out ?_)
      refine hidI ?_
      have HA2 := hidI ha2
      have HG2 := hidI (grown_tr HGx.out hg2)
      clear ha2 hg2 CC HFx
      go_wp2
      go_roundg g
      case measure => omega
      case rel => exact ⟨i + 1, by omega, by go_num, HA2, HG2⟩
theorem pnew_bad (o : Nat) (n : Int) (w : World) (h : redB (o : Int) = false ∨ n < 1 ∨ 4 < n) : Calls Try.prog 27 #[.int .u8 (o : Int), .int .i64 n] w fun e w' => e = .returned (.pointer none) ∧ w = w' := by
  have C := hidI (redP_any o w)
  cases hr : redB (o : Int) with
  | false =>
    rw [hr] at C
    clear h hr
    go_enter Try.func27, Try.ntmps27
    go_wp2_with (go_at_call 53; refine Calls.mono C.out ?_; rintro e w' ⟨rfl, rfl⟩)
    go_ret
    exact ⟨rfl, rfl⟩
  | true =>
    rw [hr] at C
    have h' : n < 1 ∨ 4 < n := by rcases h with h | h; rw [hr] at h; cases h; exact h
    clear h hr
    by_cases h1 : n < 1
    · go_enter Try.func27, Try.ntmps27
      go_wp2_with (go_at_call 53; refine Calls.mono C.out ?_; rintro e w' ⟨rfl, rfl⟩)
      go_ret
      exact ⟨rfl, rfl⟩
    · have q1 : decide (n < 1) = false := by simpa using h1
      have h4 : 4 < n := by omega
      clear h'
      go_enter Try.func27, Try.ntmps27
      go_wp2_with (go_at_call 53; refine Calls.mono C.out ?_; rintro e w' ⟨rfl, rfl⟩)
      go_ret
      exact ⟨rfl, rfl⟩
def NwPost (w : World) (o n : Nat) (e : Ending) (w' : World) : Prop := ∃ p, e = .returned (.pointer (some ⟨p, 0, none⟩)) ∧ w.heap.size ≤ p ∧ PAg w' p o n 0 (clr (redW (o : Int)) [0, 0, 0, 0] n) ∧ Below w.heap.size w w'
theorem grown_below {w w' w'' : World} {p : Nat} (hb : Below w.heap.size w w') (hg : w'.grownBy w'' (some p)) (hp : w.heap.size ≤ p) : Below w.heap.size w w'' := hb.grown hg hb.size (fun k hk => by cases hk; exact hp)
set_option maxRecDepth 100000 in
theorem pnew_any (o n : Nat) (w : World) (ho : many5 o) (h1 : 1 ≤ n) (h4 : n ≤ 4) : Calls Try.prog 27 #[.int .u8 (o : Int), .int .i64 (n : Int)] w (NwPost w o n) := by
  have C := hidI (redP_any o w)
  rw [redB_of ho] at C
  have q1 : ¬ ((n : Int) < 1) := by omega
  have q2 : ¬ (4 < (n : Int)) := by omega
  have q1' : decide ((n : Int) < 1) = false := by simpa using q1
  have q2' : decide (4 < (n : Int)) = false := by simpa using q2
  have HA : Hid (PAg (w.alloc (.cells #[.int .u8 (o : Int), .int .i64 (n : Int), .int .i64 0, .int .i64 0, .int .i64 0, .int .i64 0, .int .i64 0] 84)) w.heap.size o n 0 [0, 0, 0, 0]) := hidI ⟨rfl, (MapKept.heap_alloc w _).1⟩
  have HB : Hid (Below w.heap.size w (w.alloc (.cells #[.int .u8 (o : Int), .int .i64 (n : Int), .int .i64 0, .int .i64 0, .int .i64 0, .int .i64 0, .int .i64 0] 84))) := hidI ((Below.refl _ w).alloc (Nat.le_refl _) _)
  have CC := hidI (pclear_any HA.out h4)
  go_enter Try.func27, Try.ntmps27
  go_wp2_with (first | (go_at_call 53; refine Calls.mono C.out ?_; rintro e w' ⟨rfl, rfl⟩) | (go_at_call 54; refine Calls.mono CC.out ?_; rintro e w2 ⟨rfl, ha2, hg2⟩; refine Hid.out ?_))
  refine hidI ?_
  have HA2 := hidI ha2
  have HB2 := hidI (grown_below HB.out hg2 (Nat.le_refl _))
  clear ha2 hg2 C CC HA HB
  go_wp2
  go_ret
  exact ⟨_, rfl, Nat.le_refl _, HA2.out, HB2.out⟩
def FkPost (w : World) (o n : Nat) (c : Int) (ps : List Int) (e : Ending) (w' : World) : Prop := ∃ q, e = .returned (.pointer (some ⟨q, 0, none⟩)) ∧ w.heap.size ≤ q ∧ PAg w' q o n c ps ∧ Below w.heap.size w w'
theorem four_of {l : List Int} (h : l.length = 4) : ∃ a b c d, l = [a, b, c, d] := by
  match l, h with
  | [a, b, c, d], _ => exact ⟨a, b, c, d, rfl⟩
end Go.Proofs.Ytdfieflcclbgjaa
