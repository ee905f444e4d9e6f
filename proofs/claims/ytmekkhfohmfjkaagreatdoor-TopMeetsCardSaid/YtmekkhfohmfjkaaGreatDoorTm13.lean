/-
  Part 13 of the proof: PBrk, PFit.
-/
import Derived.Test.YtmekkhfohmfjkaaGreatDoorTm10
import Derived.Test.YtmekkhfohmfjkaaGreatDoorTm01
import Derived.Test.YtmekkhfohmfjkaaGreatDoorTm07
namespace Go.Proofs.YtmekkhfohmfjkaaGreatDoor
open Go.RowKit Go.Deep Go.MapKept
theorem must_ok (a : Value) (n : Int) (w : World) : Calls Tryz.prog 91 #[a, .bool true, .int .i64 n] w fun e w' => e = .returned (.tuple #[]) ∧ w = w' := by
 go_enter Tryz.func91, Tryz.ntmps91
 go_wp2
 go_end0
 exact ⟨rfl, rfl⟩
theorem zcU {c : Cx} (hc : c.Ok) {p : PV} {X : List Rw} {w : World} (h : RdS c p X w) {n : Nat} {x : FV} (hx : c.fs[n]? = some x) : Calls Tryz.prog 91 #[.pointer (some ⟨c.B, 0, none⟩), .bool false, .int .i64 (n : Int)] w fun e w' => e = .panicked (flt2 x.1.p) ∧ w = w' := by
 have hn : n < c.fs.length := (List.getElem?_eq_some_iff.1 hx).1
 obtain ⟨g, o, cap, hv, _, _, _, _, c4⟩ := hc.form h.below hx
 have b5 := h.cell (j := 5) (u := c.fv) rfl
 rw [hv] at b5
 have e1 : (n : Int) < (c.fs.length : Int) := by omega
 have e2 : (0 : Int) ≤ (n : Int) := by omega
 clear hv h hx
 go_enter Tryz.func91, Tryz.ntmps91
 go_wp2
 exact ⟨rfl, rfl, rfl⟩
theorem redN_any (o : Nat) (ho : o ≤ 19) (w : World) : Calls Tryz.prog 146 #[.int .u8 (o : Int)] w fun e w' => (∃ q, e = .returned (.tuple #[.int .i64 q, .bool (redN o)])) ∧ w = w' := by
 have hm : o = 0 ∨ o = 1 ∨ o = 2 ∨ o = 3 ∨ o = 4 ∨ o = 5 ∨ o = 6 ∨ o = 7 ∨ o = 8 ∨ o = 9 ∨ o = 10 ∨ o = 11 ∨ o = 12 ∨ o = 13 ∨ o = 14 ∨ o = 15 ∨ o = 16 ∨ o = 17 ∨ o = 18 ∨ o = 19 := by omega
 rcases hm with rfl | rfl | rfl | rfl | rfl | rfl | rfl | rfl | rfl | rfl | rfl | rfl | rfl | rfl | rfl | rfl | rfl | rfl | rfl | rfl
 all_goals
  go_enter Tryz.func146, Tryz.ntmps146
  go_wp2
  go_ret2
  exact ⟨⟨_, rfl⟩, rfl⟩
theorem arityN_any (o : Nat) (ho : o ≤ 19) (w : World) : Calls Tryz.prog 185 #[.int .u8 (o : Int)] w fun e w' => e = .returned (.int .i64 (arityN o : Int)) ∧ w = w' := by
 have hm : o = 0 ∨ o = 1 ∨ o = 2 ∨ o = 3 ∨ o = 4 ∨ o = 5 ∨ o = 6 ∨ o = 7 ∨ o = 8 ∨ o = 9 ∨ o = 10 ∨ o = 11 ∨ o = 12 ∨ o = 13 ∨ o = 14 ∨ o = 15 ∨ o = 16 ∨ o = 17 ∨ o = 18 ∨ o = 19 := by omega
 rcases hm with rfl | rfl | rfl | rfl | rfl | rfl | rfl | rfl | rfl | rfl | rfl | rfl | rfl | rfl | rfl | rfl | rfl | rfl | rfl | rfl
 all_goals
  go_enter Tryz.func185, Tryz.ntmps185
  go_wp2
  go_ret
  exact ⟨rfl, rfl⟩
def asW (b : Bool) : Int := if b = true then 1 else 0
theorem asWord_any (b : Bool) (w : World) : Calls Tryz.prog 184 #[.bool b] w fun e w' => e = .returned (.int .i64 (asW b)) ∧ w = w' := by
 cases b
 all_goals
  go_enter Tryz.func184, Tryz.ntmps184
  go_wp2
  go_ret
  exact ⟨rfl, rfl⟩
def BrkPost (c : Cx) (n : Nat) (w : World) (e : Ending) (w' : World) : Prop := ∃ kv, e = .returned (.tuple #[.string (brkW c.l n), kv]) ∧ SeesK c.w0 kv (brkK c.l n) ∧ Below w.heap.size w w'
theorem brk_any {c : Cx} (hc : c.Ok) {p : PV} {X : List Rw} {w : World} (h : RdS c p X w) {n : Nat} (hn : n < c.fs.length) : Calls Tryz.prog 90 #[.pointer (some ⟨c.B, 0, none⟩), .int .i64 (n : Int)] w (BrkPost c n w) := by
 obtain ⟨x, hx⟩ : ∃ x, c.fs[n]? = some x := ⟨_, List.getElem?_eq_getElem hn⟩
 obtain ⟨g, o, cap, hv, _, _, _, c3, _⟩ := hc.form h.below hx
 have b5 := h.cell (j := 5) (u := c.fv) rfl
 rw [hv] at b5
 have e1 : (n : Int) < (c.fs.length : Int) := by omega
 have e2 : (0 : Int) ≤ (n : Int) := by omega
 obtain ⟨hk, hr⟩ := hc.kid n x hx
 have hkl := hc.kidlen n x hx
 have hfx := Cx.frm_at hx
 cases hks : x.1.kids with
 | nil =>
  have hkv : ∃ ka kc, x.2 = .slice ka 0 kc := by
   obtain ⟨_, a, cap, e, _⟩ := hk
   rw [hks] at e
   exact ⟨a, cap, e⟩
  obtain ⟨ka, kc, hkv⟩ := hkv
  rw [hkv] at c3
  have hW : brkW c.l n = ⟨#[]⟩ := by unfold brkW; rw [hfx, hks]; rfl
  have hK : brkK c.l n = [] := by unfold brkK; rw [hfx, hks]; rfl
  have HP : Hid (∀ w', Below w.heap.size w w' → BrkPost c n w (.returned (.tuple #[.string ⟨#[]⟩, .slice none 0 0])) w') := hidI fun w' hb => ⟨_, by rw [hW], by rw [hK]; exact ⟨rfl, none, 0, rfl, .inl rfl⟩, hb⟩
  clear hv h hx hk hr hW hK hfx hks hkv
  go_enter Tryz.func90, Tryz.ntmps90
  go_wp2
  go_ret2
  exact HP.out _ (by (repeat (first | exact Below.refl _ _ | assumption | refine Below.drew ?_ | refine Below.alloc ?_ (by first | omega | (simp; done) | (simp; omega)) _ | refine Below.setCell ?_ (by first | omega | (simp; done) | (simp; omega)) _)))
 | cons m r =>
  have hml := (hc.kidlt n x hx m (by rw [hks]; simp)).2
  obtain ⟨y, hy⟩ : ∃ y, c.fs[m]? = some y := ⟨_, List.getElem?_eq_getElem hml⟩
  obtain ⟨g', o', cap', hv', _, d1, _, _, _⟩ := hc.form h.below hy
  rw [hv] at hv'
  cases hv'
  obtain ⟨hl1, ka, kc, hkv, h0⟩ := hk
  rw [hks] at hl1 hkv h0
  rcases h0 with h0 | ⟨kb, ko, rfl, hcell⟩
  ·simp at h0
  have k0 : w.cell? ⟨kb, ko, none⟩ = some (.int .i64 (m : Int)) := by
   have := hcell 0 (.int .i64 (m : Int)) (by simp [ints])
   exact (h.below.cell (World.block_lt_of_cell? c.w0 _ this)).trans this
  have hrc : r.length + 1 ≤ kc := by
   obtain ⟨_, _, _, e, hle⟩ := hr
   rw [hkv] at e
   cases e
   simpa using hle
  have hW : brkW c.l n = y.1.s := by unfold brkW; rw [hfx, hks]; simp only; rw [Cx.frm_at hy]
  have hK : brkK c.l n = r := by unfold brkK; rw [hfx, hks]; rfl
  have HP : Hid (∀ w' kv, SeesK c.w0 kv r → Below w.heap.size w w' → BrkPost c n w (.returned (.tuple #[.string y.1.s, kv])) w') := hidI fun w' kv hs hb => ⟨kv, by rw [hW], by rw [hK]; exact hs, hb⟩
  have HK1 : Hid (SeesK c.w0 (.slice (some ⟨kb, ko + 1, none⟩) r.length (kc - 1)) r) := hidI (by
   refine ⟨by simp [ints], some ⟨kb, ko + 1, none⟩, kc - 1, rfl, .inr ⟨kb, ko + 1, rfl, fun j u hj => ?_⟩⟩
   have := hcell (j + 1) u (by simpa [ints] using hj)
   rwa [show ko + (j + 1) = ko + 1 + j by omega] at this)
  have HK0 : Hid (r.length = 0 → SeesK c.w0 (.slice (some ⟨kb, ko, none⟩) 0 0) r) := hidI (fun h0 => ⟨by simp [ints], some ⟨kb, ko, none⟩, 0, by rw [h0], .inl h0⟩)
  rw [hkv] at c3
  simp only [List.length_cons] at c3
  have hkl2 : r.length + 1 ≤ 400 := by rw [hks] at hkl; simpa using hkl
  have m1 : (m : Int) < (c.fs.length : Int) := by omega
  have m2 : (0 : Int) ≤ (m : Int) := by omega
  have q1 : (((r.length + 1 : Nat) : Int) == 0) = false := by rw [beq_eq_false_iff_ne]; omega
  obtain ⟨rl, hrl⟩ : ∃ rl, r.length = rl := ⟨_, rfl⟩
  rw [hrl] at c3 HK1 HK0 hrc hkl2 q1
  clear hv h hx hr hW hK hfx hks hkv hcell hl1 hkl hy hml hrl
  by_cases hk1 : kc = 1
  ·subst hk1
   obtain rfl : rl = 0 := by omega
   have HK2 := hidI (HK0.out rfl)
   clear HK0 HK1
   go_enter Tryz.func90, Tryz.ntmps90
   go_wp2
   go_quiet (fail)
   generalize nq = n1
   go_wp2
   go_ret2
   exact HP.out _ _ HK2.out (below_drewN (Below.refl _ _) n1)
  ·have hk2 : ¬ kc - 1 = 0 := by omega
   clear HK0
   go_enter Tryz.func90, Tryz.ntmps90
   go_wp2
   go_quiet (fail)
   generalize nq = n1
   go_wp2
   go_ret2
   exact HP.out _ _ HK1.out (below_drewN (Below.refl _ _) n1)
theorem not_num2 {s : ByteArray} {c : UInt8} {r : Txt} (h : s.data.toList = c :: r) (h1 : c ≠ 45) (h2 : ¬ Dig c) : ¬ isNum s := by
 rintro ⟨v, hv, e⟩
 rw [h] at e
 rcases ok_itoa hv.1 hv.2 with ⟨_, ok, _⟩ | ⟨_, ds, e2, _⟩
 ·exact h2 (ok.2.2.2.1 c (by rw [← e]; simp))
 ·rw [e2] at e
  exact h1 (List.cons.inj e).1
theorem kind_letter {s : ByteArray} (h0 : 0 < s.size) (hl : letter (sign s 0) = true) : (kindW s == 3) = nameB s := by
 obtain ⟨c, r, hs⟩ : ∃ c r, s.data.toList = c :: r := by
  cases h : s.data.toList with
  | nil =>
   have : s.size = 0 := by
    have := congrArg List.length h
    simpa using this
   omega
  | cons c r => exact ⟨c, r, rfl⟩
 have hc : sign s 0 = (c.toNat : Int) := by
  unfold sign
  have : s.data[0]? = some c := by rw [← Array.getElem?_toList, hs]; rfl
  rw [Array.getD_eq_getD_getElem?, this]
  rfl
 rw [hc] at hl
 unfold letter at hl
 simp only [Bool.and_eq_true, decide_eq_true_eq] at hl
 have hnum : ¬ isNum s := not_num2 hs (by rintro rfl; simp at hl) (by
  unfold Dig
  intro hd
  have h1 := hd.2
  have : c.toNat ≤ 57 := by simpa using h1
  omega)
 have hop : opB s = false := by
  unfold opB
  rw [List.any_eq_false]
  intro i hi
  have hi' := List.mem_range.1 hi
  rw [beq_iff_eq, ByteArray.toList_eq, hs]
  intro e
  have e1 := (List.cons.inj e).1
  subst e1
  have hm : i = 0 ∨ i = 1 ∨ i = 2 ∨ i = 3 ∨ i = 4 ∨ i = 5 ∨ i = 6 ∨ i = 7 ∨ i = 8 ∨ i = 9 := by omega
  rcases hm with rfl | rfl | rfl | rfl | rfl | rfl | rfl | rfl | rfl | rfl <;> simp [opc] at hl
 unfold kindW
 rw [if_neg hnum, hop, Bool.false_or]
 cases nameB s <;> rfl
theorem name_first {s : ByteArray} (h0 : 0 < s.size) (hl : letter (sign s 0) = false) : nameB s = false := by
 unfold nameB
 have : (List.range s.size).all (fun i => goodAt (sign s i) i) = false := by
  rw [List.all_eq_false]
  exact ⟨0, List.mem_range.2 h0, by unfold goodAt; rw [hl]; simp⟩
 rw [this]; rfl
theorem name_empty : nameB ⟨#[]⟩ = false := by decide +kernel
theorem ba_empty {s : ByteArray} (h : ¬ s = ⟨#[]⟩) : 0 < s.size ∧ (s.toList == []) = false := by
 cases s with
 | mk d =>
  have hd : d ≠ #[] := fun e => h (by rw [e])
  have hz : 0 < d.size := Array.size_pos_iff.2 hd
  refine ⟨hz, ?_⟩
  rw [beq_eq_false_iff_ne, ByteArray.toList_eq]
  intro e
  exact hd (Array.toList_eq_nil_iff.1 (by simpa using e))
theorem zdE (s : ByteArray) (hs : s.size ≤ 140737488355328) (w : World) (hL : Laid w) : Calls Tryz.prog 147 #[.string s] w fun e w' => e = .returned (.bool (nameB s)) ∧ Below w.heap.size w w' := by
 by_cases he : s = ⟨#[]⟩
 ·subst he
  rw [name_empty]
  clear hL
  go_enter Tryz.func147, Tryz.ntmps147
  go_wp2
  go_ret
  exact ⟨rfl, Below.refl _ _⟩
 ·obtain ⟨h0, he2⟩ := ba_empty he
  have hi := sign_at s 0 h0
  simp only [Int.natCast_zero] at hi
  by_cases hl : letter (sign s 0) = true
  ·have HK := hidI (kind_letter h0 hl)
   have C := hidI (kind_any s hs w hL)
   unfold letter at hl
   simp only [Bool.and_eq_true, decide_eq_true_eq] at hl
   obtain ⟨l1, l2⟩ := hl
   obtain ⟨k, hk⟩ : ∃ k, kindW s = k := ⟨_, rfl⟩
   rw [hk] at HK C
   obtain ⟨b, hb⟩ : ∃ b, (k == 3) = b := ⟨_, rfl⟩
   rw [hb] at HK
   rw [← HK.out]
   clear hL hk HK
   generalize sign s 0 = c0 at hi l1 l2
   go_enter Tryz.func147, Tryz.ntmps147
   go_wp2_with (go_at_call 57; refine C.out.mono ?_; rintro e w1 ⟨rfl, hb1⟩; clear C)
   go_ret
   exact ⟨rfl, hb1⟩
  ·have hl2 : letter (sign s 0) = false := by simpa using hl
   rw [name_first h0 hl2]
   unfold letter at hl2
   generalize sign s 0 = c0 at hi hl2
   clear hL hl
   by_cases l1 : 97 ≤ c0
   ·have l2 : ¬ c0 ≤ 122 := by simpa [l1] using hl2
    clear hl2
    go_enter Tryz.func147, Tryz.ntmps147
    go_wp2
    go_ret
    exact ⟨rfl, Below.refl _ _⟩
   ·clear hl2
    go_enter Tryz.func147, Tryz.ntmps147
    go_wp2
    go_ret
    exact ⟨rfl, Below.refl _ _⟩
def ptL (s : ByteArray) : List Nat := s.data.toList.map UInt8.toNat
theorem ptL_len (s : ByteArray) : (ptL s).length = s.size := by simp [ptL]
theorem ptL_get (s : ByteArray) (i : Nat) (h : i < s.size) : (((ptL s).getD i 0 : Nat) : Int) = sign s i := by
 have hd : i < s.data.size := h
 unfold ptL sign
 rw [List.getD_eq_getElem?_getD, List.getElem?_map, Array.getElem?_toList, Array.getD_eq_getD_getElem?, Array.getElem?_eq_getElem hd]
 rfl
theorem nth_any (s pt : ByteArray) (h0 : 0 < pt.size) (hb : pt.size ≤ 1000) (i : Nat) (w : World) : Calls Tryz.prog 122 #[.agg #[.string s, .string pt], .int .i64 (i : Int)] w fun e w' => e = .returned (.int .i32 (nthP (ptL pt) i : Int)) ∧ Below w.heap.size w w' := by
 have HR : Hid ((nthP (ptL pt) i : Int) = sign pt (min i (pt.size - 1))) := hidI (by
  unfold nthP
  rw [ptL_len]
  exact ptL_get pt _ (by omega))
 rw [HR.out]
 have hx := sign_at pt (min i (pt.size - 1)) (by omega)
 have hsb : 0 ≤ sign pt (min i (pt.size - 1)) ∧ sign pt (min i (pt.size - 1)) ≤ 255 := by
  unfold sign
  have := (pt.data.getD (min i (pt.size - 1)) 0).toNat_lt
  omega
 obtain ⟨n, hn⟩ : ∃ n, pt.size = n := ⟨_, rfl⟩
 have ql : ∀ w, (Builtin.len_ #[9] 3 #[.string pt]).run Tryz.prog w = .ok (.int .i64 (n : Int)) w := fun w => by rw [run_len_string w 9 3 pt Tryz.underlying9, hn]; rfl
 rw [hn] at hx hsb h0 hb
 rw [hn]
 obtain ⟨j, hj⟩ : ∃ j : Nat, min i (n - 1) = j := ⟨_, rfl⟩
 rw [hj] at hx hsb
 rw [hj]
 have e1 : min (i : Int) ((n : Int) - 1) = (j : Int) := by omega
 generalize sign pt j = c0 at hx hsb
 clear HR hn hj
 go_enter Tryz.func122, Tryz.ntmps122
 go_wp2
 go_ret
 exact ⟨rfl, by (repeat (first | exact Below.refl _ _ | assumption | refine Below.drew ?_ | refine Below.alloc ?_ (by first | omega | (simp; done) | (simp; omega)) _ | refine Below.setCell ?_ (by first | omega | (simp; done) | (simp; omega)) _))⟩
theorem leastP_snoc (l : List Nat) (x : Nat) : leastP (l ++ [x]) = leastP l + (if x = 99 ∨ x = 115 then 0 else 1) := by simp [leastP]
theorem mostP_snoc (l : List Nat) (x : Nat) : mostP (l ++ [x]) = mostP l + (if x = 97 then 6 else if x = 115 then 400 else 1) := by simp [mostP]
set_option maxHeartbeats 1000000 in
theorem fits_any (s pt : ByteArray) (hasc : ∀ (i : Nat) (h : i < pt.size), (pt[i]'h).toNat < 128) (hb : pt.size ≤ 10) (many : Nat) (w : World) : Calls Tryz.prog 120 #[.agg #[.string s, .string pt], .int .i64 (many : Int)] w fun e w' => e = .returned (.bool (fitsP (ptL pt) many)) ∧ Below w.heap.size w w' := by
 obtain ⟨n, hn⟩ : ∃ n, pt.size = n := ⟨_, rfl⟩
 have HN := hidI hn
 have HASC := hidI hasc
 have QE : Hid (∀ ty, (Instr.next (.pointer (some ⟨w.heap.size + 1, 0, none⟩)) true ty).run Tryz.prog ((w.alloc (.cells #[.string s, .string pt] 151)).iter pt n) = .ok (.tuple #[.bool false]) ((w.alloc (.cells #[.string s, .string pt] 151)).iter pt n)) := hidI fun ty => by have := run_next_end (P := Tryz.prog) (w.alloc (.cells #[.string s, .string pt] 151)) pt n ty (by omega); simpa using this
 have QN : Hid (∀ pos ty, pos < n → (Instr.next (.pointer (some ⟨w.heap.size + 1, 0, none⟩)) true ty).run Tryz.prog ((w.alloc (.cells #[.string s, .string pt] 151)).iter pt pos) = .ok (.tuple #[.bool true, .int .i64 pos, .int .i32 (Utf8.decode pt pos).1]) ((w.alloc (.cells #[.string s, .string pt] 151)).iter pt (pos + (Utf8.decode pt pos).2))) := hidI fun pos ty h => by have := run_next_any (P := Tryz.prog) (w.alloc (.cells #[.string s, .string pt] 151)) pt pos ty (by omega); simpa using this
 have HB : Hid (∀ pos, Below w.heap.size w ((w.alloc (.cells #[.string s, .string pt] 151)).iter pt pos)) := hidI fun pos => ((Below.refl _ _).alloc (Nat.le_refl _) _).alloc (by simp) _
 rw [hn] at hb
 clear hn hasc
 go_enter Tryz.func120, Tryz.ntmps120
 go_wp2
 go_loopg [5, 6] n (fun g s5 s6 wx => ∃ pos L M : Nat, pos + g = n ∧ (w.alloc (.cells #[.string s, .string pt] 151)).iter pt pos = wx ∧ s5 = .int .i64 (L : Int) ∧ s6 = .int .i64 (M : Int) ∧ Hid (L = leastP ((ptL pt).take pos)) ∧ Hid (M = mostP ((ptL pt).take pos)) ∧ L ≤ pos ∧ M ≤ 400 * pos)
 case atStart => exact ⟨0, 0, 0, by omega, rfl, rfl, rfl, hidI rfl, hidI rfl, by omega, by omega⟩
 case round =>
  obtain ⟨pos, L, M, hpg, rfl, rfl, rfl, HA, HA2, hLb, hMb⟩ := hrel
  cases gk with
  | zero =>
   obtain rfl : n = pos := by omega
   have qe := QE.out
   have hfull : (ptL pt).take n = ptL pt := List.take_of_length_le (by rw [ptL_len, HN.out]; omega)
   have HF : Hid (fitsP (ptL pt) many = (decide ((L : Int) ≤ (many : Int)) && decide ((many : Int) ≤ (M : Int)))) := hidI (by
    unfold fitsP
    rw [← hfull, ← HA.out, ← HA2.out]
    simp)
   clear HA HA2 hfull
   by_cases h1 : (L : Int) ≤ (many : Int)
   ·by_cases h2 : (many : Int) ≤ (M : Int)
    ·have HF2 : Hid (fitsP (ptL pt) many = true) := hidI (by rw [HF.out, decide_eq_true h1, decide_eq_true h2]; rfl)
     clear HF
     go_wp2
     go_ret
     exact ⟨by rw [HF2.out]; rfl, HB.out _⟩
    ·have HF2 : Hid (fitsP (ptL pt) many = false) := hidI (by rw [HF.out, decide_eq_true h1, decide_eq_false h2]; rfl)
     clear HF
     go_wp2
     go_ret
     exact ⟨by rw [HF2.out]; rfl, HB.out _⟩
   ·have HF2 : Hid (fitsP (ptL pt) many = false) := hidI (by rw [HF.out, decide_eq_false h1]; rfl)
    clear HF
    go_wp2
    go_ret
    exact ⟨by rw [HF2.out]; rfl, HB.out _⟩
  | succ g =>
   have hlt : pos < n := by omega
   have qn := fun ty => QN.out pos ty hlt
   have hlt' : pos < pt.size := by have := HN.out; omega
   have hd := decode_ascii pt pos hlt' (HASC.out pos hlt')
   rw [hd] at qn
   obtain ⟨c, hcc⟩ : ∃ c : Nat, (pt[pos]'hlt').toNat = c := ⟨_, rfl⟩
   have hg : (ptL pt)[pos]? = some c := by
    have hd : pos < pt.data.size := hlt'
    unfold ptL
    rw [List.getElem?_map, Array.getElem?_toList, Array.getElem?_eq_getElem hd]
    exact congrArg some hcc
   have HT : Hid (leastP ((ptL pt).take (pos + 1)) = L + (if c = 99 ∨ c = 115 then 0 else 1) ∧ mostP ((ptL pt).take (pos + 1)) = M + (if c = 97 then 6 else if c = 115 then 400 else 1)) := hidI (by
    rw [List.take_add_one, hg]
    simp only [Option.toList]
    rw [leastP_snoc, mostP_snoc, ← HA.out, ← HA2.out]
    exact ⟨rfl, rfl⟩)
   rw [hcc] at qn
   simp only at qn
   clear hd hcc hg HA HA2
   by_cases c1 : c = 99
   ·subst c1
    go_wp2
    go_roundg g
    case measure => omega
    case rel => exact ⟨pos + 1, L, M + 1, by omega, rfl, rfl, by go_num, hidI (by rw [HT.out.1]; simp), hidI (by rw [HT.out.2]; simp), by omega, by omega⟩
   by_cases c2 : c = 97
   ·subst c2
    go_wp2
    go_roundg g
    case measure => omega
    case rel => exact ⟨pos + 1, L + 1, M + 6, by omega, rfl, by go_num, by go_num, hidI (by rw [HT.out.1]; simp), hidI (by rw [HT.out.2]; simp), by omega, by omega⟩
   by_cases c3 : c = 115
   ·subst c3
    go_wp2
    go_roundg g
    case measure => omega
    case rel => exact ⟨pos + 1, L, M + 400, by omega, rfl, rfl, by go_num, hidI (by rw [HT.out.1]; simp), hidI (by rw [HT.out.2]; simp), by omega, by omega⟩
   ·have d1 : ((c : Int) == 99) = false := by rw [beq_eq_false_iff_ne]; omega
    have d2 : ((c : Int) == 97) = false := by rw [beq_eq_false_iff_ne]; omega
    have d3 : ((c : Int) == 115) = false := by rw [beq_eq_false_iff_ne]; omega
    have HT2 : Hid (leastP ((ptL pt).take (pos + 1)) = L + 1 ∧ mostP ((ptL pt).take (pos + 1)) = M + 1) := hidI (by rw [HT.out.1, HT.out.2]; simp [c1, c2, c3])
    clear HT
    go_wp2
    go_roundg g
    case measure => omega
    case rel => exact ⟨pos + 1, L + 1, M + 1, by omega, rfl, by go_num, by go_num, hidI HT2.out.1.symm, hidI HT2.out.2.symm, by omega, by omega⟩
end Go.Proofs.YtmekkhfohmfjkaaGreatDoor
