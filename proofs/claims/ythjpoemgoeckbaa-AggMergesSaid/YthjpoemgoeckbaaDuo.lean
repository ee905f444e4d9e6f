/-
  The program's Agg and the document's, side by side; the laws' do, same, live.
-/
import Derived.Test.YthjpoemgoeckbaaAgM
import Derived.Test.YthjpoemgoeckbaaRegDo
import Derived.Test.YthjpoemgoeckbaaRAgg2
import Derived.Test.YthjpoemgoeckbaaRAgg4
import Derived.Test.YthjpoemgoeckbaaRMerge
namespace Go.Proofs.Ythjpoemgoeckbaa
open Go.RowKit Go.Deep Go.MapKept
/-- Nothing but blocks of S has changed. -/
structure Chg (w w' : World) (S : Nat → Prop) : Prop where
  os : w'.os = w.os
  tape : w'.tape = w.tape
  output : w'.output = w.output
  size : w.heap.size ≤ w'.heap.size
  block : ∀ k, k < w.heap.size → ¬ S k → w'.heap[k]? = w.heap[k]?
theorem Chg.refl (w : World) (S : Nat → Prop) : Chg w w S := ⟨rfl, rfl, rfl, Nat.le_refl _, fun _ _ _ => rfl⟩
theorem Chg.trans {a b c : World} {S : Nat → Prop} (h : Chg a b S) (k : Chg b c S) : Chg a c S := ⟨k.os.trans h.os, k.tape.trans h.tape, k.output.trans h.output, Nat.le_trans h.size k.size, fun i hi hn => (k.block i (Nat.lt_of_lt_of_le hi h.size) hn).trans (h.block i hi hn)⟩
theorem chg_grown {w w' : World} {r : Nat} {S : Nat → Prop} (h : w.grownBy w' (some r)) (hr : S r) : Chg w w' S := ⟨h.os, h.tape, h.output, h.size, fun k hk hn => h.block k hk (fun e => hn (by cases e; exact hr))⟩
theorem chg_below {w w' : World} {S : Nat → Prop} {B : Nat} (h : Below B w w') (hB : w.heap.size ≤ B) : Chg w w' S := ⟨h.os, h.tape, h.output, h.size, fun k hk _ => h.block k (Nat.lt_of_lt_of_le hk hB)⟩
theorem Chg.cell {w w' : World} {S : Nat → Prop} (h : Chg w w' S) {a : Addr} {v : Value} (hc : w.cell? a = some v) (hn : ¬ S a.block) : w'.cell? a = some v := (World.cell?_of_block (h.block a.block (World.block_lt_of_cell? w _ hc) hn)).trans hc
theorem Chg.toBelow {w w' : World} {S : Nat → Prop} {B : Nat} (h : Chg w w' S) (hS : ∀ k, S k → B ≤ k) (hB : B ≤ w.heap.size) : Below B w w' := ⟨h.os, h.tape, h.output, h.size, fun k hk => h.block k (by omega) (fun e => by have := hS k e; omega)⟩
theorem PAg.chg {w w' : World} {S : Nat → Prop} {p o n : Nat} {c : Int} {ps : List Int} (h : PAg w p o n c ps) (hg : Chg w w' S) (hn : ¬ S p) : PAg w' p o n c ps := ⟨h.len, (hg.block p h.lt hn).trans h.blk⟩
theorem RAg.chg {w w' : World} {N S : Nat → Prop} {q o : Nat} {rows : List (List Int)} (h : RAg w N q o rows) (hg : Chg w w' S) (hS : ∀ b, S b → N b) (hn : ¬ S q) : RAg w' N q o rows := by
  obtain ⟨lv, k1, vs, h1, h2, h3⟩ := h.c1
  have hb := hg.block q h.lt hn
  refine ⟨Nat.lt_of_lt_of_le h.lt hg.size, h.mem, fun k hk => Nat.lt_of_lt_of_le (h.few k hk) hg.size, (World.cell?_of_block hb).trans h.c0, ⟨lv, (World.cell?_of_block hb).trans k1, vs, ?_, fun b e => ⟨Nat.lt_of_lt_of_le (h2 b e).1 hg.size, (h2 b e).2⟩, fun j v r hv hr => ?_⟩, ?_⟩
  · obtain ⟨hl, a, cap, rfl, hs⟩ := h1
    refine ⟨hl, a, cap, rfl, hs.imp_right ?_⟩
    rintro ⟨b, off, rfl, hc⟩
    exact ⟨b, off, rfl, fun j c hj => hg.cell (hc j c hj) (fun e => (h2 b rfl).2 (hS b e))⟩
  · obtain ⟨hw, hbk⟩ := h3 j v r hv hr
    refine ⟨?_, fun b e => ⟨Nat.lt_of_lt_of_le (hbk b e).1 hg.size, (hbk b e).2⟩⟩
    obtain ⟨a, cap, rfl, hc, hs⟩ := hw
    refine ⟨a, cap, rfl, hc, hs.imp_right ?_⟩
    rintro ⟨b, off, rfl, hcc⟩
    exact ⟨b, off, rfl, fun j z hz => hg.cell (hcc j z hz) (fun e => (hbk b rfl).2 (hS b e))⟩
  · have := h.f1
    unfold World.frozen? at this ⊢
    simp only at this ⊢
    rw [hb]
    exact this
theorem RAg.less {w : World} {N N' : Nat → Prop} {q o : Nat} {rows : List (List Int)} (h : RAg w N q o rows) (hN : ∀ k, N' k → N k) (hq : N' q) : RAg w N' q o rows := by
  obtain ⟨lv, k1, vs, h1, h2, h3⟩ := h.c1
  exact ⟨h.lt, hq, fun k hk => h.few k (hN k hk), h.c0, ⟨lv, k1, vs, h1, fun b e => ⟨(h2 b e).1, fun hn => (h2 b e).2 (hN b hn)⟩, fun j v r hv hr => ⟨(h3 j v r hv hr).1, fun b e => ⟨((h3 j v r hv hr).2 b e).1, fun hn => ((h3 j v r hv hr).2 b e).2 (hN b hn)⟩⟩⟩, h.f1⟩
/-- Both have the same. -/
structure Duo (w : World) (N : Nat → Prop) (p q o n : Nat) (rows : List (List Int)) (L : Nat) : Prop where
  pg : ∃ ps, PAg w p o n (countR rows : Nat) ps ∧ Parts o n ps rows
  rg : RAg w N q o rows
  m5 : many5 o
  n1 : 1 ≤ n
  np : N p
  ne : p ≠ q
  fit : ∀ r ∈ rows, ∀ z ∈ r, In64 z
  few : countR rows ≤ L
theorem Duo.chg {w w' : World} {N S : Nat → Prop} {p q o n L : Nat} {rows : List (List Int)} (h : Duo w N p q o n rows L) (hg : Chg w w' S) (hS : ∀ b, S b → N b) (hp : ¬ S p) (hq : ¬ S q) : Duo w' N p q o n rows L := by
  obtain ⟨ps, h1, h2⟩ := h.pg
  exact ⟨⟨ps, h1.chg hg hp, h2⟩, h.rg.chg hg hS hq, h.m5, h.n1, h.np, h.ne, h.fit, h.few⟩
theorem Duo.below {w w' : World} {N : Nat → Prop} {p q o n L : Nat} {rows : List (List Int)} (h : Duo w N p q o n rows L) (hb : Below w.heap.size w w') : Duo w' N p q o n rows L := h.chg (S := fun _ => False) (chg_below hb (Nat.le_refl _)) (fun _ e => e.elim) (fun e => e) (fun e => e)
theorem Duo.more {w : World} {N : Nat → Prop} {p q o n L L' : Nat} {rows : List (List Int)} (h : Duo w N p q o n rows L) (hl : L ≤ L') : Duo w N p q o n rows L' := ⟨h.pg, h.rg, h.m5, h.n1, h.np, h.ne, h.fit, Nat.le_trans h.few hl⟩
theorem Duo.len {w : World} {N : Nat → Prop} {p q o n L : Nat} {rows : List (List Int)} (h : Duo w N p q o n rows L) : rows.length = n ∧ n ≤ 4 := by
  obtain ⟨ps, _, h2⟩ := h.pg
  exact ⟨h2.2.1, h2.2.2.1⟩
theorem le_sum : ∀ {l : List Nat} {x : Nat}, x ∈ l → x ≤ l.sum
  | a :: r, x, h => by
    rcases List.mem_cons.1 h with rfl | h
    · simp
    · have := le_sum h
      simp
      omega
theorem row_few {rows : List (List Int)} {r : List Int} (h : r ∈ rows) : r.length ≤ countR rows := le_sum (List.mem_map.2 ⟨r, h, rfl⟩)
def pq (p q : Nat) : Nat → Prop := fun k => k = p ∨ k = q
theorem Duo.two {w : World} {N : Nat → Prop} {p q o n L : Nat} {rows : List (List Int)} (h : Duo w N p q o n rows L) : ∀ b, pq p q b → N b := fun b hb => by
  rcases hb with rfl | rfl
  · exact h.np
  · exact h.rg.mem
/-- What a deed makes of the rows. -/
def deed (x : Msg) (n : Nat) (rows : List (List Int)) : List (List Int) :=
  if x.to = 0 then (if 0 ≤ x.tag ∧ x.tag < (n : Int) then rows.set x.tag.toNat (rows.getD x.tag.toNat [] ++ [x.val]) else rows) else if x.to = 1 then List.replicate n [] else rows
def DoPost (w : World) (N : Nat → Prop) (p q o n : Nat) (rows : List (List Int)) (L : Nat) (e : Ending) (w' : World) : Prop := e = .returned (.bool true) ∧ Duo w' N p q o n rows L ∧ Chg w w' (pq p q)
set_option maxRecDepth 100000 in
set_option maxHeartbeats 1000000 in
theorem do_any {w : World} {N : Nat → Prop} {p q o n L : Nat} {rows : List (List Int)} (h : Duo w N p q o n rows L) (hL : L ≤ 1000) (x : Msg) (hx : In64 x.val) :
    Calls Try.prog 21 #[.pointer (some ⟨p, 0, none⟩), .pointer (some ⟨q, 0, none⟩), x.value] w (DoPost w N p q o n (deed x n rows) (L + 1)) := by
  obtain ⟨xk, xw, xz⟩ := x
  simp only at hx
  unfold Msg.value
  simp only
  obtain ⟨ps, hP, hPs⟩ := h.pg
  have hN4 := hPs.2.2.1
  have hB0 : Below w.heap.size w (w.alloc (.cells #[.int .i64 xk, .int .i64 xw, .int .i64 xz] 54)) := (Below.refl _ w).alloc (Nat.le_refl _) _
  have hD1 := h.below hB0
  have hpl := hP.lt
  have hql := h.rg.lt
  have HD1 := hidI hD1
  have HC1 : Hid (Chg w (w.alloc (.cells #[.int .i64 xk, .int .i64 xw, .int .i64 xz] 54)) (pq p q)) := hidI (chg_below hB0 (Nat.le_refl _))
  have d1 : (w.alloc (.cells #[.int .i64 xk, .int .i64 xw, .int .i64 xz] 54)).cell? ⟨w.heap.size, 1, none⟩ = some (.int .i64 xw) := by go_simp
  have d2 : (w.alloc (.cells #[.int .i64 xk, .int .i64 xw, .int .i64 xz] 54)).cell? ⟨w.heap.size, 2, none⟩ = some (.int .i64 xz) := by go_simp
  have HDc := hidI (And.intro d1 d2)
  clear d1 d2 hB0 hD1
  obtain ⟨bd, hbd⟩ : ∃ bd, w.heap.size = bd := ⟨_, rfl⟩
  rw [hbd] at HDc
  by_cases h0 : xk = 0
  · subst h0
    have hfew := h.few
    clear hP hPs h
    obtain ⟨w1, hw1⟩ : ∃ w1, w.alloc (.cells #[.int .i64 0, .int .i64 xw, .int .i64 xz] 54) = w1 := ⟨_, rfl⟩
    rw [hw1] at HDc HD1 HC1
    have HDd := hidI (HD1.out.below (Below.refl _ w1).drew)
    obtain ⟨ps, hP, hPs⟩ := HDd.out.pg
    have key : ∃ E, (Calls Try.prog 15 #[.pointer (some ⟨p, 0, none⟩), .int .i64 xw, .int .i64 xz] w1.drew fun e w' => e = .returned (.int .i64 E) ∧ ((∃ ps', PAg w' p o n (countR (deed ⟨0, xw, xz⟩ n rows) : Nat) ps' ∧ Parts o n ps' (deed ⟨0, xw, xz⟩ n rows)) ∧ w1.drew.grownBy w' (some p))) ∧
        (∀ W, w1.drew.grownBy W (some p) → Calls Try.prog 30 #[.pointer (some ⟨q, 0, none⟩), .int .i64 xw, .int .i64 xz] W fun e w' => e = .returned (.int .i64 E) ∧ (RAg w' N q o (deed ⟨0, xw, xz⟩ n rows) ∧ W.grownBy w' (some q))) ∧ (∀ r ∈ deed ⟨0, xw, xz⟩ n rows, ∀ z ∈ r, In64 z) ∧ countR (deed ⟨0, xw, xz⟩ n rows) ≤ L + 1 := by
      by_cases hr : 0 ≤ xw ∧ xw < (n : Int)
      · obtain ⟨wk, rfl⟩ : ∃ wk : Nat, xw = (wk : Int) := ⟨xw.toNat, by omega⟩
        have hwk : wk < n := by omega
        obtain ⟨row, hrow, hpr⟩ := hPs.get hwk
        have hde : deed ⟨0, (wk : Int), xz⟩ n rows = rows.set wk (row ++ [xz]) := by
          unfold deed
          simp only [if_true]
          rw [if_pos hr]
          simp [List.getD, hrow]
        have hrm := List.mem_of_getElem? hrow
        have hrl := row_few hrm
        rw [hde]
        refine ⟨0, ?_, ?_, ?_, ?_⟩
        · refine (ptake_any hP HDd.out.m5 wk _ xz hwk hpr (by omega) (by omega)).mono ?_
          rintro e w' ⟨rfl, ha, hg⟩
          refine ⟨rfl, ⟨_, ?_, hPs.take hrow xz⟩, hg⟩
          rw [count_set hrow]
          exact ha
        · intro W hg
          have hR := HDd.out.rg.grown hg (fun b e => by cases e; exact HDd.out.np) (fun e => HDd.out.ne (by cases e; rfl))
          refine (rtake_any hR wk row xz hrow (by omega) (by have := HDd.out.len; omega)).mono ?_
          rintro e w' ⟨rfl, ha, hg⟩
          exact ⟨rfl, ha, hg⟩
        · intro r hr z hz
          rcases List.mem_or_eq_of_mem_set hr with hr | rfl
          · exact HDd.out.fit r hr z hz
          · rcases List.mem_append.1 hz with hz | hz
            · exact HDd.out.fit row hrm z hz
            · rw [List.mem_singleton.1 hz]; exact hx
        · rw [count_set hrow]; omega
      · have hm : mayE n xw = 2 := if_neg hr
        have hde : deed ⟨0, xw, xz⟩ n rows = rows := by
          unfold deed
          simp only [if_true]
          rw [if_neg hr]
        rw [hde]
        refine ⟨2, ?_, ?_, HDd.out.fit, by omega⟩
        · refine (ptake_bad hP xw xz hm).mono ?_
          rintro e w' ⟨rfl, rfl⟩
          exact ⟨rfl, ⟨ps, hP, hPs⟩, World.grownBy.refl _ _⟩
        · intro W hg
          have hR := HDd.out.rg.grown hg (fun b e => by cases e; exact HDd.out.np) (fun e => HDd.out.ne (by cases e; rfl))
          refine (rtake_bad hR xw xz (by rw [HDd.out.len.1]; exact hm)).mono ?_
          rintro e w' ⟨rfl, rfl⟩
          exact ⟨rfl, hR, World.grownBy.refl _ _⟩
    obtain ⟨E, hA, hB, hfit, hcnt⟩ := key
    have HA := hidI hA
    have HBq := hidI hB
    have HFit := hidI hfit
    have HCnt := hidI hcnt
    have HNe : Hid (bd ≠ p ∧ bd ≠ q) := hidI (by omega)
    have HW1 := hidI hw1
    have HBd := hidI hbd
    clear hA hB hfit hcnt hP hPs hw1 hpl hql hbd
    obtain ⟨rows', hrows'⟩ : ∃ rows', deed ⟨0, xw, xz⟩ n rows = rows' := ⟨_, rfl⟩
    rw [hrows'] at HA HBq HFit HCnt ⊢
    clear hrows'
    have k0 : ((0 : Int) == 0) = true := by simp
    go_enter Try.func21, Try.ntmps21
    go_wp2
    rw [HBd.out, HW1.out]
    refine regDo (bd := bd) (k := xw) (z := xz) (E := E) (P1 := fun W => (∃ ps', PAg W p o n (countR rows' : Nat) ps' ∧ Parts o n ps' rows') ∧ w1.drew.grownBy W (some p)) (P2 := fun W => (∃ ps', PAg W p o n (countR rows' : Nat) ps' ∧ Parts o n ps' rows') ∧ RAg W N q o rows' ∧ Chg w1 W (pq p q)) HDc.out HA.out ?_ ?_ ?_ (fun _ _ _ _ _ h => h) ?_
    · rintro W ⟨_, hg⟩
      exact ⟨hg.cell HDc.out.1 (fun e => HNe.out.1 (by cases e; rfl)), hg.cell HDc.out.2 (fun e => HNe.out.1 (by cases e; rfl))⟩
    · rintro W ⟨⟨ps', h1, h2⟩, hg⟩
      refine (HBq.out W hg).mono ?_
      rintro e w' ⟨rfl, hR, hg2⟩
      refine ⟨rfl, ⟨ps', h1.grown hg2 (fun e => HD1.out.ne (by cases e; rfl)), h2⟩, hR, ?_⟩
      exact (chg_below (Below.refl _ w1).drew (Nat.le_refl _)).trans ((chg_grown hg (.inl rfl)).trans (chg_grown hg2 (.inr rfl)))
    · rintro W ⟨_, _, hg⟩
      have hn : ¬ pq p q bd := fun e => e.elim HNe.out.1 HNe.out.2
      exact ⟨hg.cell HDc.out.1 hn, hg.cell HDc.out.2 hn⟩
    intro W t11 t12 t13 t14 t15 t16 t17 t18 t19 t20 t21 t22 t23 hp2
    have HP : Hid (DoPost w N p q o n rows' (L + 1) (.returned (.bool true)) W) := hidI ⟨rfl, ⟨hp2.1, hp2.2.1, HD1.out.m5, HD1.out.n1, HD1.out.np, HD1.out.ne, HFit.out, HCnt.out⟩, HC1.out.trans hp2.2.2⟩
    clear hp2
    go_wp2
    go_ret
    exact HP.out
  · have k0 : (xk == 0) = false := by simpa using h0
    by_cases h1 : xk = 1
    · subst h1
      have hde : deed ⟨1, xw, xz⟩ n rows = List.replicate n [] := rfl
      rw [hde]
      clear hP hPs h hbd hde
      obtain ⟨w1, hw1⟩ : ∃ w1, w.alloc (.cells #[.int .i64 1, .int .i64 xw, .int .i64 xz] 54) = w1 := ⟨_, rfl⟩
      rw [hw1] at HD1 HC1
      have HW1 := hidI hw1
      obtain ⟨ps, hP, hPs⟩ := HD1.out.pg
      have C1 := hidI (pclear_any hP hN4)
      have HL4 := hidI hPs.1
      clear hP hPs hw1 HDc
      have k1 : ((1 : Int) == 0) = false := by decide
      go_enter Try.func21, Try.ntmps21
      go_wp2_with (go_at_call 22; rw [HW1.out]; refine Calls.mono C1.out ?_; rintro e w2 ⟨rfl, ha2, hg2⟩; refine Hid.out ?_)
      refine hidI ?_
      have HR2 := hidI (HD1.out.rg.grown hg2 (fun b e => by cases e; exact HD1.out.np) (fun e => HD1.out.ne (by cases e; rfl)))
      have HA2 := hidI ha2
      have HG2 : Hid (Chg w1 w2 (pq p q)) := hidI (chg_grown hg2 (.inl rfl))
      have C2 := hidI (rclear_any HR2.out (by have := HD1.out.len; omega))
      clear ha2 hg2 C1
      go_wp2_with (go_at_call 34; refine Calls.mono C2.out ?_; rintro e w3 ⟨rfl, hr3, hg3⟩; refine Hid.out ?_)
      refine hidI ?_
      have HP : Hid (DoPost w N p q o n (List.replicate n []) (L + 1) (.returned (.bool true)) w3) := hidI ⟨rfl, ⟨⟨_, by rw [count_nil]; exact HA2.out.grown hg3 (fun e => HD1.out.ne (by cases e; rfl)), parts_clear HL4.out hN4⟩, by rw [HD1.out.len.1] at hr3; exact hr3, HD1.out.m5, HD1.out.n1, HD1.out.np, HD1.out.ne, fun r hr z hz => by rw [List.eq_of_mem_replicate hr] at hz; simp at hz, by rw [count_nil]; omega⟩, HC1.out.trans (HG2.out.trans (chg_grown hg3 (.inr rfl)))⟩
      clear hr3 hg3 C2
      go_wp2
      go_ret
      exact HP.out
    · have hde : deed ⟨xk, xw, xz⟩ n rows = rows := by
        unfold deed
        simp only
        rw [if_neg h0, if_neg h1]
      rw [hde]
      have k1 : (xk == 1) = false := by simpa using h1
      have HP : Hid (DoPost w N p q o n rows (L + 1) (.returned (.bool true)) (w.alloc (.cells #[.int .i64 xk, .int .i64 xw, .int .i64 xz] 54))) := hidI ⟨rfl, HD1.out.more (by omega), HC1.out⟩
      clear hP hPs h hbd hde
      go_enter Try.func21, Try.ntmps21
      go_wp2
      go_ret
      exact HP.out
end Go.Proofs.Ythjpoemgoeckbaa
