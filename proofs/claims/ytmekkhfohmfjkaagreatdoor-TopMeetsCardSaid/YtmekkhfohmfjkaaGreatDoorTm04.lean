/-
  Part 4 of the proof: PVoc, RegV.
-/
import Derived.Test.YtmekkhfohmfjkaaGreatDoorTm03
import Derived.Deep.LoopGhost
import Derived.Test.YtmekkhfohmfjkaaGreatDoorTm02
namespace Go.Proofs.YtmekkhfohmfjkaaGreatDoor
open Go.RowKit Go.Deep Go.MapKept Go.WideMaps Go.WideShapes
open Go.ChangeMaps (setBlock)
theorem put_same {w : World} {b : Nat} (o : Obj) (h : b < w.heap.size) : (setBlock w b o).heap[b]? = some o := by simp [setBlock, h]
theorem zcP {w : World} {b i : Nat} (o : Obj) (h : i ≠ b) : (setBlock w b o).heap[i]? = w.heap[i]? := by simp [setBlock, Ne.symm h]
theorem below_put {B : Nat} {w u : World} {mb : Nat} (o : Obj) (h : Below B w u) (hb : B ≤ mb) : Below B w (setBlock u mb o) := by
 refine ⟨h.os, h.tape, h.output, ?_, fun k hk => ?_⟩
 ·have := h.size
  simpa [setBlock] using this
 ·exact (zcP o (by omega)).trans (h.block k hk)
theorem field126 (s p : ByteArray) (u : World) : (Instr.field 151 (.agg #[.string s, .string p]) 0).run Tryz.prog u = .ok (.string s) u := by kernel_rfl
theorem zcR {P : Program} {ops : Array Oper} {rest : List Oper} {o : Oper} {a : Act} {Q : Exit → Act → World → Prop} {w w' : World} {t : TypeId} {m k x : Operand} {mv kv xv : Value} (hg : o.guard = none) (ho : o.op = .mapUpdate t m k x) (hm : a.eval m = mv) (hk : a.eval k = kv) (hx : a.eval x = xv) (hr : (Instr.mapUpdate t mv kv xv).run P w = .ok () w') (h : wpList P ops Q rest (a.put o.dst undef) w') : wpList P ops Q (o :: rest) a w :=
 wpList_plain hg fun _ hK => by
  unfold Oper.wp execOp
  simp only [ho, hm, hk, hx, Sem.run_bind, hr, Result.andThen_ok]
  exact hK _ _ h
def vocF (wd : Nat → ByteArray) : Nat → Fn
 | 0 => fun _ => none
 | n + 1 => if wd (n + 1) = ⟨#[]⟩ then vocF wd n else upd (vocF wd n) (wd (n + 1)) (.int .u8 ((n + 1 : Nat) : Int))
def stmtWd : Nat → ByteArray
 | 1 => ⟨#[115, 101, 116]⟩
 | 2 => ⟨#[102, 111, 108, 100]⟩
 | 3 => ⟨#[101, 97, 99, 104]⟩
 | 4 => ⟨#[105, 102]⟩
 | 5 => ⟨#[119, 104, 105, 108, 101]⟩
 | 6 => ⟨#[108, 111, 111, 112]⟩
 | 7 => ⟨#[98, 102, 115]⟩
 | _ => ⟨#[]⟩
def stmtPt : Nat → ByteArray
 | 1 => ⟨#[110, 101]⟩
 | 2 => ⟨#[110, 111, 101, 99]⟩
 | 3 => ⟨#[97]⟩
 | 4 => ⟨#[101, 116, 102]⟩
 | 5 => ⟨#[101, 115]⟩
 | 6 => ⟨#[101, 115]⟩
 | 7 => ⟨#[110, 101, 115]⟩
 | _ => ⟨#[]⟩
def actWd : Nat → ByteArray
 | 1 => ⟨#[112, 117, 116]⟩
 | 2 => ⟨#[112, 117, 115, 104]⟩
 | 3 => ⟨#[112, 117, 108, 108]⟩
 | _ => ⟨#[]⟩
def actPt : Nat → ByteArray
 | 1 => ⟨#[110, 101, 99]⟩
 | 2 => ⟨#[110, 111, 119, 101, 99]⟩
 | 3 => ⟨#[110, 111, 119, 101]⟩
 | _ => ⟨#[]⟩
def exprWd : Nat → ByteArray
 | 1 => ⟨#[]⟩
 | 2 => ⟨#[]⟩
 | 3 => ⟨#[111, 119, 110]⟩
 | 4 => ⟨#[102, 97, 114]⟩
 | 5 => ⟨#[118, 105, 97]⟩
 | 6 => ⟨#[105, 100]⟩
 | 7 => ⟨#[102, 97, 114, 105, 100]⟩
 | 8 => ⟨#[100, 101, 103]⟩
 | 9 => ⟨#[99, 111, 117, 110, 116]⟩
 | 10 => ⟨#[]⟩
 | _ => ⟨#[]⟩
def exprPt : Nat → ByteArray
 | 1 => ⟨#[]⟩
 | 2 => ⟨#[]⟩
 | 3 => ⟨#[110]⟩
 | 4 => ⟨#[110]⟩
 | 5 => ⟨#[110]⟩
 | 6 => ⟨#[]⟩
 | 7 => ⟨#[]⟩
 | 8 => ⟨#[119]⟩
 | 9 => ⟨#[]⟩
 | 10 => ⟨#[]⟩
 | _ => ⟨#[]⟩
theorem stmtSh_any (k : Nat) (h1 : 1 ≤ k) (h2 : k ≤ 7) (w : World) : Calls Tryz.prog 79 #[.int .u8 (k : Int)] w (ShPost w (stmtWd k) (stmtPt k)) := by
 have hm : k = 1 ∨ k = 2 ∨ k = 3 ∨ k = 4 ∨ k = 5 ∨ k = 6 ∨ k = 7 := by omega
 rcases hm with rfl | rfl | rfl | rfl | rfl | rfl | rfl
 ·exact stmtSh1 w
 ·exact stmtSh2 w
 ·exact stmtSh3 w
 ·exact stmtSh4 w
 ·exact stmtSh5 w
 ·exact stmtSh6 w
 ·exact stmtSh7 w
theorem actSh_any (k : Nat) (h1 : 1 ≤ k) (h2 : k ≤ 3) (w : World) : Calls Tryz.prog 82 #[.int .u8 (k : Int)] w (ShPost w (actWd k) (actPt k)) := by
 have hm : k = 1 ∨ k = 2 ∨ k = 3 := by omega
 rcases hm with rfl | rfl | rfl
 ·exact actSh1 w
 ·exact actSh2 w
 ·exact actSh3 w
theorem exprSh_any (k : Nat) (h1 : 1 ≤ k) (h2 : k ≤ 10) (w : World) : Calls Tryz.prog 85 #[.int .u8 (k : Int)] w (ShPost w (exprWd k) (exprPt k)) := by
 have hm : k = 1 ∨ k = 2 ∨ k = 3 ∨ k = 4 ∨ k = 5 ∨ k = 6 ∨ k = 7 ∨ k = 8 ∨ k = 9 ∨ k = 10 := by omega
 rcases hm with rfl | rfl | rfl | rfl | rfl | rfl | rfl | rfl | rfl | rfl
 ·exact exprSh1 w
 ·exact exprSh2 w
 ·exact exprSh3 w
 ·exact exprSh4 w
 ·exact exprSh5 w
 ·exact exprSh6 w
 ·exact exprSh7 w
 ·exact exprSh8 w
 ·exact exprSh9 w
 ·exact exprSh10 w
theorem stmtW_any (k : Nat) (h1 : 1 ≤ k) (h2 : k ≤ 7) (w : World) : Calls Tryz.prog 78 #[.int .u8 (k : Int)] w fun e w' => e = .returned (.string (stmtWd k)) ∧ Below w.heap.size w w' := by
 have hC := stmtSh_any k h1 h2 w
 clear h1 h2
 obtain ⟨s, hs⟩ : ∃ s, stmtWd k = s := ⟨_, rfl⟩
 obtain ⟨p, hp⟩ : ∃ p, stmtPt k = p := ⟨_, rfl⟩
 rw [hs, hp] at hC
 rw [hs]
 clear hs hp
 have C := hidI hC
 clear hC
 have hf := field126 s p
 go_enter Tryz.func78, Tryz.ntmps78
 go_wp2_with (go_at_call 79; refine C.out.mono ?_; intro e w1 h1; obtain ⟨rfl, hb1⟩ := h1; clear C)
 go_ret
 exact ⟨rfl, hb1⟩
theorem actW_any (k : Nat) (h1 : 1 ≤ k) (h2 : k ≤ 3) (w : World) : Calls Tryz.prog 81 #[.int .u8 (k : Int)] w fun e w' => e = .returned (.string (actWd k)) ∧ Below w.heap.size w w' := by
 have hC := actSh_any k h1 h2 w
 clear h1 h2
 obtain ⟨s, hs⟩ : ∃ s, actWd k = s := ⟨_, rfl⟩
 obtain ⟨p, hp⟩ : ∃ p, actPt k = p := ⟨_, rfl⟩
 rw [hs, hp] at hC
 rw [hs]
 clear hs hp
 have C := hidI hC
 clear hC
 have hf := field126 s p
 go_enter Tryz.func81, Tryz.ntmps81
 go_wp2_with (go_at_call 82; refine C.out.mono ?_; intro e w1 h1; obtain ⟨rfl, hb1⟩ := h1; clear C)
 go_ret
 exact ⟨rfl, hb1⟩
theorem exprW_any (k : Nat) (h1 : 1 ≤ k) (h2 : k ≤ 10) (w : World) : Calls Tryz.prog 84 #[.int .u8 (k : Int)] w fun e w' => e = .returned (.string (exprWd k)) ∧ Below w.heap.size w w' := by
 have hC := exprSh_any k h1 h2 w
 clear h1 h2
 obtain ⟨s, hs⟩ : ∃ s, exprWd k = s := ⟨_, rfl⟩
 obtain ⟨p, hp⟩ : ∃ p, exprPt k = p := ⟨_, rfl⟩
 rw [hs, hp] at hC
 rw [hs]
 clear hs hp
 have C := hidI hC
 clear hC
 have hf := field126 s p
 go_enter Tryz.func84, Tryz.ntmps84
 go_wp2_with (go_at_call 85; refine C.out.mono ?_; intro e w1 h1; obtain ⟨rfl, hb1⟩ := h1; clear C)
 go_ret
 exact ⟨rfl, hb1⟩
theorem zero_86 (w : World) : (zeroValue 74).run Tryz.prog w = .ok (.int .u8 0) w := by kernel_rfl
theorem under_86 : Tryz.prog.underlying 101 = some (.map 9 74) := by kernel_rfl
theorem stmt_voc (w : World) : Calls Tryz.prog 77 #[.int .u8 7, .func (.func 78) #[] #[]] w fun e w' => ∃ mb, e = .returned (.map (some mb)) ∧ w.heap.size ≤ mb ∧ MapG w' mb (vocF stmtWd 7) ∧ Below w.heap.size w w' := by
 have hlen : ∀ k, 1 ≤ k → k ≤ 7 → (stmtWd k).size ≤ maxLen := by
  intro k h1 h2
  have hm : k = 1 ∨ k = 2 ∨ k = 3 ∨ k = 4 ∨ k = 5 ∨ k = 6 ∨ k = 7 := by omega
  rcases hm with rfl | rfl | rfl | rfl | rfl | rfl | rfl <;> decide
 have HLEN := hidI hlen
 clear hlen
 have hmm := @run_makeMap Tryz.prog
 go_enter Tryz.func77, Tryz.ntmps77
 go_wp2
 go_loopg [6] 7 (fun g s6 wx => ∃ j : Nat, 1 ≤ j ∧ j + g = 7 + 1 ∧ s6 = .int .u8 (j : Int) ∧ Hid (Below w.heap.size w wx) ∧ Hid (MapG wx w.heap.size (vocF stmtWd (j - 1))))
 case atStart => exact ⟨1, by omega, by omega, rfl, hidI (by (repeat (first | exact Below.refl _ _ | assumption | refine Below.drew ?_ | refine Below.alloc ?_ (by first | omega | (simp; done) | (simp; omega)) _ | refine Below.setCell ?_ (by first | omega | (simp; done) | (simp; omega)) _))), hidI (mapG_made w)⟩
 case round =>
  obtain ⟨j, hj1, hig, rfl, HB, HM⟩ := hrel
  cases gk with
  | zero =>
   obtain rfl : j = 7 + 1 := by omega
   go_wp2
   go_ret
   exact ⟨_, rfl, Nat.le_refl _, HM.out, HB.out⟩
  | succ g =>
   have k1 : (j : Int) ≤ 7 := by omega
   have C := hidI (stmtW_any j hj1 (by omega) wr)
   have HL := hidI (HLEN.out j hj1 (by omega))
   have hv : vocF stmtWd j = if stmtWd j = ⟨#[]⟩ then vocF stmtWd (j - 1) else upd (vocF stmtWd (j - 1)) (stmtWd j) (.int .u8 (j : Int)) := by
    cases j with
    | zero => omega
    | succ i => rfl
   have HV := hidI hv
   clear hv
   obtain ⟨s, hs⟩ : ∃ s, stmtWd j = s := ⟨_, rfl⟩
   rw [hs] at C HL HV
   clear hs
   have hsz := HB.out.size
   by_cases he : s = ⟨#[]⟩
   ·subst he
    have HV1 : Hid (vocF stmtWd j = vocF stmtWd (j - 1)) := hidI (by rw [HV.out, if_pos rfl])
    clear HV
    go_wp2_with (go_at_call 78; refine C.out.mono ?_; rintro e w1 ⟨rfl, hb1⟩; clear C)
    go_roundg g
    case rel => exact ⟨j + 1, by omega, by omega, by go_num, hidI (HB.out.trans (hb1.mono hsz)), hidI (by rw [Nat.add_sub_cancel, HV1.out]; exact HM.out.same (hb1.block _ (HM.out.lt)))⟩
    case measure => omega
   ·have HV1 : Hid (vocF stmtWd j = upd (vocF stmtWd (j - 1)) s (.int .u8 (j : Int))) := hidI (by rw [HV.out, if_neg he])
    clear HV
    have he2 : (s.toList == []) = false := by
     rw [beq_eq_false_iff_ne]
     intro h
     apply he
     rw [ByteArray.toList_eq] at h
     cases s with
     | mk d => simp only [ByteArray.mk.injEq]; exact Array.toList_eq_nil_iff.1 (by simpa using h)
    go_wp2_with (go_at_call 78; refine C.out.mono ?_; rintro e w1 ⟨rfl, hb1⟩; clear C; refine Hid.out ?_)
    have hM1 : MapG w1 w.heap.size (vocF stmtWd (j - 1)) := HM.out.same (hb1.block _ (HM.out.lt))
    obtain ⟨o, ho1, _, ho3⟩ := store under_86 Tryz.underlying9 hM1 HL.out (.int .u8 (j : Int))
    have hst := ho1 w1 rfl
    have HO3 := hidI ho3
    have HB1 := hidI (HB.out.trans (hb1.mono hsz))
    have HM1 := hidI hM1
    clear ho1 ho3 hM1
    refine hidI ?_
    go_wp2_with (refine zcR (mv := .map (some w.heap.size)) (kv := .string s) (xv := .int .u8 (j : Int)) rfl rfl rfl rfl rfl hst ?_; clear hst)
    go_roundg g
    case rel => exact ⟨j + 1, by omega, by omega, by go_num, hidI (below_put o HB1.out (Nat.le_refl _)), hidI (by rw [Nat.add_sub_cancel, HV1.out]; exact HO3.out _ (put_same o HM1.out.lt))⟩
    case measure => omega
theorem opWord_any2 (k : Nat) (_ : 1 ≤ k) (h2 : k ≤ 19) (w : World) : Calls Tryz.prog 87 #[.int .u8 (k : Int)] w fun e w' => e = .returned (.string (opWd k)) ∧ Below w.heap.size w w' := opWord_any k h2 w
theorem zero_87 (w : World) : (zeroValue 124).run Tryz.prog w = .ok (.int .u8 0) w := by kernel_rfl
theorem under_87 : Tryz.prog.underlying 102 = some (.map 9 124) := by kernel_rfl
theorem act_voc (w : World) : Calls Tryz.prog 80 #[.int .u8 3, .func (.func 81) #[] #[]] w fun e w' => ∃ mb, e = .returned (.map (some mb)) ∧ w.heap.size ≤ mb ∧ MapG w' mb (vocF actWd 3) ∧ Below w.heap.size w w' := by
 have hlen : ∀ k, 1 ≤ k → k ≤ 3 → (actWd k).size ≤ maxLen := by
  intro k h1 h2
  have hm : k = 1 ∨ k = 2 ∨ k = 3 := by omega
  rcases hm with rfl | rfl | rfl <;> decide
 have HLEN := hidI hlen
 clear hlen
 have hmm := @run_makeMap Tryz.prog
 go_enter Tryz.func80, Tryz.ntmps80
 go_wp2
 go_loopg [6] 3 (fun g s6 wx => ∃ j : Nat, 1 ≤ j ∧ j + g = 3 + 1 ∧ s6 = .int .u8 (j : Int) ∧ Hid (Below w.heap.size w wx) ∧ Hid (MapG wx w.heap.size (vocF actWd (j - 1))))
 case atStart => exact ⟨1, by omega, by omega, rfl, hidI (by (repeat (first | exact Below.refl _ _ | assumption | refine Below.drew ?_ | refine Below.alloc ?_ (by first | omega | (simp; done) | (simp; omega)) _ | refine Below.setCell ?_ (by first | omega | (simp; done) | (simp; omega)) _))), hidI (mapG_made w)⟩
 case round =>
  obtain ⟨j, hj1, hig, rfl, HB, HM⟩ := hrel
  cases gk with
  | zero =>
   obtain rfl : j = 3 + 1 := by omega
   go_wp2
   go_ret
   exact ⟨_, rfl, Nat.le_refl _, HM.out, HB.out⟩
  | succ g =>
   have k1 : (j : Int) ≤ 3 := by omega
   have C := hidI (actW_any j hj1 (by omega) wr)
   have HL := hidI (HLEN.out j hj1 (by omega))
   have hv : vocF actWd j = if actWd j = ⟨#[]⟩ then vocF actWd (j - 1) else upd (vocF actWd (j - 1)) (actWd j) (.int .u8 (j : Int)) := by
    cases j with
    | zero => omega
    | succ i => rfl
   have HV := hidI hv
   clear hv
   obtain ⟨s, hs⟩ : ∃ s, actWd j = s := ⟨_, rfl⟩
   rw [hs] at C HL HV
   clear hs
   have hsz := HB.out.size
   by_cases he : s = ⟨#[]⟩
   ·subst he
    have HV1 : Hid (vocF actWd j = vocF actWd (j - 1)) := hidI (by rw [HV.out, if_pos rfl])
    clear HV
    go_wp2_with (go_at_call 81; refine C.out.mono ?_; rintro e w1 ⟨rfl, hb1⟩; clear C)
    go_roundg g
    case rel => exact ⟨j + 1, by omega, by omega, by go_num, hidI (HB.out.trans (hb1.mono hsz)), hidI (by rw [Nat.add_sub_cancel, HV1.out]; exact HM.out.same (hb1.block _ (HM.out.lt)))⟩
    case measure => omega
   ·have HV1 : Hid (vocF actWd j = upd (vocF actWd (j - 1)) s (.int .u8 (j : Int))) := hidI (by rw [HV.out, if_neg he])
    clear HV
    have he2 : (s.toList == []) = false := by
     rw [beq_eq_false_iff_ne]
     intro h
     apply he
     rw [ByteArray.toList_eq] at h
     cases s with
     | mk d => simp only [ByteArray.mk.injEq]; exact Array.toList_eq_nil_iff.1 (by simpa using h)
    go_wp2_with (go_at_call 81; refine C.out.mono ?_; rintro e w1 ⟨rfl, hb1⟩; clear C; refine Hid.out ?_)
    have hM1 : MapG w1 w.heap.size (vocF actWd (j - 1)) := HM.out.same (hb1.block _ (HM.out.lt))
    obtain ⟨o, ho1, _, ho3⟩ := store under_87 Tryz.underlying9 hM1 HL.out (.int .u8 (j : Int))
    have hst := ho1 w1 rfl
    have HO3 := hidI ho3
    have HB1 := hidI (HB.out.trans (hb1.mono hsz))
    have HM1 := hidI hM1
    clear ho1 ho3 hM1
    refine hidI ?_
    go_wp2_with (refine zcR (mv := .map (some w.heap.size)) (kv := .string s) (xv := .int .u8 (j : Int)) rfl rfl rfl rfl rfl hst ?_; clear hst)
    go_roundg g
    case rel => exact ⟨j + 1, by omega, by omega, by go_num, hidI (below_put o HB1.out (Nat.le_refl _)), hidI (by rw [Nat.add_sub_cancel, HV1.out]; exact HO3.out _ (put_same o HM1.out.lt))⟩
    case measure => omega
theorem zero_88 (w : World) : (zeroValue 158).run Tryz.prog w = .ok (.int .u8 0) w := by kernel_rfl
theorem under_88 : Tryz.prog.underlying 103 = some (.map 9 158) := by kernel_rfl
theorem expr_voc (w : World) : Calls Tryz.prog 83 #[.int .u8 10, .func (.func 84) #[] #[]] w fun e w' => ∃ mb, e = .returned (.map (some mb)) ∧ w.heap.size ≤ mb ∧ MapG w' mb (vocF exprWd 10) ∧ Below w.heap.size w w' := by
 have hlen : ∀ k, 1 ≤ k → k ≤ 10 → (exprWd k).size ≤ maxLen := by
  intro k h1 h2
  have hm : k = 1 ∨ k = 2 ∨ k = 3 ∨ k = 4 ∨ k = 5 ∨ k = 6 ∨ k = 7 ∨ k = 8 ∨ k = 9 ∨ k = 10 := by omega
  rcases hm with rfl | rfl | rfl | rfl | rfl | rfl | rfl | rfl | rfl | rfl <;> decide
 have HLEN := hidI hlen
 clear hlen
 have hmm := @run_makeMap Tryz.prog
 go_enter Tryz.func83, Tryz.ntmps83
 go_wp2
 go_loopg [6] 10 (fun g s6 wx => ∃ j : Nat, 1 ≤ j ∧ j + g = 10 + 1 ∧ s6 = .int .u8 (j : Int) ∧ Hid (Below w.heap.size w wx) ∧ Hid (MapG wx w.heap.size (vocF exprWd (j - 1))))
 case atStart => exact ⟨1, by omega, by omega, rfl, hidI (by (repeat (first | exact Below.refl _ _ | assumption | refine Below.drew ?_ | refine Below.alloc ?_ (by first | omega | (simp; done) | (simp; omega)) _ | refine Below.setCell ?_ (by first | omega | (simp; done) | (simp; omega)) _))), hidI (mapG_made w)⟩
 case round =>
  obtain ⟨j, hj1, hig, rfl, HB, HM⟩ := hrel
  cases gk with
  | zero =>
   obtain rfl : j = 10 + 1 := by omega
   go_wp2
   go_ret
   exact ⟨_, rfl, Nat.le_refl _, HM.out, HB.out⟩
  | succ g =>
   have k1 : (j : Int) ≤ 10 := by omega
   have C := hidI (exprW_any j hj1 (by omega) wr)
   have HL := hidI (HLEN.out j hj1 (by omega))
   have hv : vocF exprWd j = if exprWd j = ⟨#[]⟩ then vocF exprWd (j - 1) else upd (vocF exprWd (j - 1)) (exprWd j) (.int .u8 (j : Int)) := by
    cases j with
    | zero => omega
    | succ i => rfl
   have HV := hidI hv
   clear hv
   obtain ⟨s, hs⟩ : ∃ s, exprWd j = s := ⟨_, rfl⟩
   rw [hs] at C HL HV
   clear hs
   have hsz := HB.out.size
   by_cases he : s = ⟨#[]⟩
   ·subst he
    have HV1 : Hid (vocF exprWd j = vocF exprWd (j - 1)) := hidI (by rw [HV.out, if_pos rfl])
    clear HV
    go_wp2_with (go_at_call 84; refine C.out.mono ?_; rintro e w1 ⟨rfl, hb1⟩; clear C)
    go_roundg g
    case rel => exact ⟨j + 1, by omega, by omega, by go_num, hidI (HB.out.trans (hb1.mono hsz)), hidI (by rw [Nat.add_sub_cancel, HV1.out]; exact HM.out.same (hb1.block _ (HM.out.lt)))⟩
    case measure => omega
   ·have HV1 : Hid (vocF exprWd j = upd (vocF exprWd (j - 1)) s (.int .u8 (j : Int))) := hidI (by rw [HV.out, if_neg he])
    clear HV
    have he2 : (s.toList == []) = false := by
     rw [beq_eq_false_iff_ne]
     intro h
     apply he
     rw [ByteArray.toList_eq] at h
     cases s with
     | mk d => simp only [ByteArray.mk.injEq]; exact Array.toList_eq_nil_iff.1 (by simpa using h)
    go_wp2_with (go_at_call 84; refine C.out.mono ?_; rintro e w1 ⟨rfl, hb1⟩; clear C; refine Hid.out ?_)
    have hM1 : MapG w1 w.heap.size (vocF exprWd (j - 1)) := HM.out.same (hb1.block _ (HM.out.lt))
    obtain ⟨o, ho1, _, ho3⟩ := store under_88 Tryz.underlying9 hM1 HL.out (.int .u8 (j : Int))
    have hst := ho1 w1 rfl
    have HO3 := hidI ho3
    have HB1 := hidI (HB.out.trans (hb1.mono hsz))
    have HM1 := hidI hM1
    clear ho1 ho3 hM1
    refine hidI ?_
    go_wp2_with (refine zcR (mv := .map (some w.heap.size)) (kv := .string s) (xv := .int .u8 (j : Int)) rfl rfl rfl rfl rfl hst ?_; clear hst)
    go_roundg g
    case rel => exact ⟨j + 1, by omega, by omega, by go_num, hidI (below_put o HB1.out (Nat.le_refl _)), hidI (by rw [Nat.add_sub_cancel, HV1.out]; exact HO3.out _ (put_same o HM1.out.lt))⟩
    case measure => omega
theorem zero_89 (w : World) : (zeroValue 75).run Tryz.prog w = .ok (.int .u8 0) w := by kernel_rfl
theorem under_89 : Tryz.prog.underlying 104 = some (.map 9 75) := by kernel_rfl
theorem op_voc (w : World) : Calls Tryz.prog 86 #[.int .u8 19, .func (.func 87) #[] #[]] w fun e w' => ∃ mb, e = .returned (.map (some mb)) ∧ w.heap.size ≤ mb ∧ MapG w' mb (vocF opWd 19) ∧ Below w.heap.size w w' := by
 have hlen : ∀ k, 1 ≤ k → k ≤ 19 → (opWd k).size ≤ maxLen := by
  intro k h1 h2
  have hm : k = 1 ∨ k = 2 ∨ k = 3 ∨ k = 4 ∨ k = 5 ∨ k = 6 ∨ k = 7 ∨ k = 8 ∨ k = 9 ∨ k = 10 ∨ k = 11 ∨ k = 12 ∨ k = 13 ∨ k = 14 ∨ k = 15 ∨ k = 16 ∨ k = 17 ∨ k = 18 ∨ k = 19 := by omega
  rcases hm with rfl | rfl | rfl | rfl | rfl | rfl | rfl | rfl | rfl | rfl | rfl | rfl | rfl | rfl | rfl | rfl | rfl | rfl | rfl <;> decide
 have HLEN := hidI hlen
 clear hlen
 have hmm := @run_makeMap Tryz.prog
 go_enter Tryz.func86, Tryz.ntmps86
 go_wp2
 go_loopg [6] 19 (fun g s6 wx => ∃ j : Nat, 1 ≤ j ∧ j + g = 19 + 1 ∧ s6 = .int .u8 (j : Int) ∧ Hid (Below w.heap.size w wx) ∧ Hid (MapG wx w.heap.size (vocF opWd (j - 1))))
 case atStart => exact ⟨1, by omega, by omega, rfl, hidI (by (repeat (first | exact Below.refl _ _ | assumption | refine Below.drew ?_ | refine Below.alloc ?_ (by first | omega | (simp; done) | (simp; omega)) _ | refine Below.setCell ?_ (by first | omega | (simp; done) | (simp; omega)) _))), hidI (mapG_made w)⟩
 case round =>
  obtain ⟨j, hj1, hig, rfl, HB, HM⟩ := hrel
  cases gk with
  | zero =>
   obtain rfl : j = 19 + 1 := by omega
   go_wp2
   go_ret
   exact ⟨_, rfl, Nat.le_refl _, HM.out, HB.out⟩
  | succ g =>
   have k1 : (j : Int) ≤ 19 := by omega
   have C := hidI (opWord_any2 j hj1 (by omega) wr)
   have HL := hidI (HLEN.out j hj1 (by omega))
   have hv : vocF opWd j = if opWd j = ⟨#[]⟩ then vocF opWd (j - 1) else upd (vocF opWd (j - 1)) (opWd j) (.int .u8 (j : Int)) := by
    cases j with
    | zero => omega
    | succ i => rfl
   have HV := hidI hv
   clear hv
   obtain ⟨s, hs⟩ : ∃ s, opWd j = s := ⟨_, rfl⟩
   rw [hs] at C HL HV
   clear hs
   have hsz := HB.out.size
   by_cases he : s = ⟨#[]⟩
   ·subst he
    have HV1 : Hid (vocF opWd j = vocF opWd (j - 1)) := hidI (by rw [HV.out, if_pos rfl])
    clear HV
    go_wp2_with (go_at_call 87; refine C.out.mono ?_; rintro e w1 ⟨rfl, hb1⟩; clear C)
    go_roundg g
    case rel => exact ⟨j + 1, by omega, by omega, by go_num, hidI (HB.out.trans (hb1.mono hsz)), hidI (by rw [Nat.add_sub_cancel, HV1.out]; exact HM.out.same (hb1.block _ (HM.out.lt)))⟩
    case measure => omega
   ·have HV1 : Hid (vocF opWd j = upd (vocF opWd (j - 1)) s (.int .u8 (j : Int))) := hidI (by rw [HV.out, if_neg he])
    clear HV
    have he2 : (s.toList == []) = false := by
     rw [beq_eq_false_iff_ne]
     intro h
     apply he
     rw [ByteArray.toList_eq] at h
     cases s with
     | mk d => simp only [ByteArray.mk.injEq]; exact Array.toList_eq_nil_iff.1 (by simpa using h)
    go_wp2_with (go_at_call 87; refine C.out.mono ?_; rintro e w1 ⟨rfl, hb1⟩; clear C; refine Hid.out ?_)
    have hM1 : MapG w1 w.heap.size (vocF opWd (j - 1)) := HM.out.same (hb1.block _ (HM.out.lt))
    obtain ⟨o, ho1, _, ho3⟩ := store under_89 Tryz.underlying9 hM1 HL.out (.int .u8 (j : Int))
    have hst := ho1 w1 rfl
    have HO3 := hidI ho3
    have HB1 := hidI (HB.out.trans (hb1.mono hsz))
    have HM1 := hidI hM1
    clear ho1 ho3 hM1
    refine hidI ?_
    go_wp2_with (refine zcR (mv := .map (some w.heap.size)) (kv := .string s) (xv := .int .u8 (j : Int)) rfl rfl rfl rfl rfl hst ?_; clear hst)
    go_roundg g
    case rel => exact ⟨j + 1, by omega, by omega, by go_num, hidI (below_put o HB1.out (Nat.le_refl _)), hidI (by rw [Nat.add_sub_cancel, HV1.out]; exact HO3.out _ (put_same o HM1.out.lt))⟩
    case measure => omega
open Go.RowKit Go.Deep Go.MapKept
def opsV : Array Oper := #[⟨some 18, .fieldAddr 106 (.tmp 1) 0, 0, "words.go:149", #[], none⟩, ⟨some 19, .load 100 (.tmp 18), 100, "words.go:149", #[⟨0, .data⟩], none⟩, ⟨some 20, .move (.tmp 2), 23, "words.go:149", #[], none⟩, ⟨some 21, .move (.tmp 3), 33, "words.go:149", #[], none⟩, ⟨some 22, .call ⟨.value (.func 88), #[.tmp 20, .tmp 21], #[23, 33]⟩, 151, "words.go:149", #[⟨2, .data⟩, ⟨3, .data⟩], none⟩, ⟨some 23, .field 151 (.tmp 22) 0, 9, "words.go:149", #[⟨4, .data⟩], none⟩, ⟨some 24, .move (.tmp 2), 23, "words.go:149", #[], none⟩, ⟨some 25, .move (.tmp 3), 33, "words.go:149", #[], none⟩, ⟨some 26, .build 56 #[(1, .tmp 24), (2, .tmp 25)], 56, "words.go:149", #[⟨6, .data⟩, ⟨7, .data⟩], none⟩, ⟨none, .mapUpdate 100 (.tmp 19) (.tmp 23) (.tmp 26), 0, "words.go:149", #[⟨1, .data⟩, ⟨5, .data⟩, ⟨8, .data⟩, ⟨4, .chain⟩, ⟨0, .phase⟩, ⟨1, .phase⟩, ⟨2, .phase⟩, ⟨3, .phase⟩, ⟨4, .phase⟩, ⟨5, .phase⟩, ⟨6, .phase⟩, ⟨7, .phase⟩, ⟨8, .phase⟩], none⟩]
theorem opsV_0 : opsV[0]? = some ⟨some 18, .fieldAddr 106 (.tmp 1) 0, 0, "words.go:149", #[], none⟩ := by kernel_rfl
theorem opsV_1 : opsV[1]? = some ⟨some 19, .load 100 (.tmp 18), 100, "words.go:149", #[⟨0, .data⟩], none⟩ := by kernel_rfl
theorem opsV_2 : opsV[2]? = some ⟨some 20, .move (.tmp 2), 23, "words.go:149", #[], none⟩ := by kernel_rfl
theorem opsV_3 : opsV[3]? = some ⟨some 21, .move (.tmp 3), 33, "words.go:149", #[], none⟩ := by kernel_rfl
theorem opsV_4 : opsV[4]? = some ⟨some 22, .call ⟨.value (.func 88), #[.tmp 20, .tmp 21], #[23, 33]⟩, 151, "words.go:149", #[⟨2, .data⟩, ⟨3, .data⟩], none⟩ := by kernel_rfl
theorem opsV_5 : opsV[5]? = some ⟨some 23, .field 151 (.tmp 22) 0, 9, "words.go:149", #[⟨4, .data⟩], none⟩ := by kernel_rfl
theorem opsV_6 : opsV[6]? = some ⟨some 24, .move (.tmp 2), 23, "words.go:149", #[], none⟩ := by kernel_rfl
theorem opsV_7 : opsV[7]? = some ⟨some 25, .move (.tmp 3), 33, "words.go:149", #[], none⟩ := by kernel_rfl
theorem opsV_8 : opsV[8]? = some ⟨some 26, .build 56 #[(1, .tmp 24), (2, .tmp 25)], 56, "words.go:149", #[⟨6, .data⟩, ⟨7, .data⟩], none⟩ := by kernel_rfl
theorem opsV_9 : opsV[9]? = some ⟨none, .mapUpdate 100 (.tmp 19) (.tmp 23) (.tmp 26), 0, "words.go:149", #[⟨1, .data⟩, ⟨5, .data⟩, ⟨8, .data⟩, ⟨4, .chain⟩, ⟨0, .phase⟩, ⟨1, .phase⟩, ⟨2, .phase⟩, ⟨3, .phase⟩, ⟨4, .phase⟩, ⟨5, .phase⟩, ⟨6, .phase⟩, ⟨7, .phase⟩, ⟨8, .phase⟩], none⟩ := by kernel_rfl
set_option maxRecDepth 100000 in
set_option maxHeartbeats 1500000 in
theorem regV {x0 x4 x5 x6 x7 x8 x9 x10 x11 x12 x13 x14 x15 x16 x17 x18 x19 x20 x21 x22 x23 x24 x25 x26 x27 : Value} {Q : Exit → Act → World → Prop} {V0 : World} {vb mb : Nat} {sd kd : Int} {s p : ByteArray}
  (hS0 : V0.drew.cell? ⟨vb, 0, none⟩ = some (.map (some mb)))
  (hC : ∀ W, Calls Tryz.prog 88 #[.int .u8 sd, .int .u8 kd] W (ShPost W s p))
  (hU : ∀ W, Below V0.drew.heap.size V0.drew W → ∃ W', (Instr.mapUpdate 100 (.map (some mb)) (.string s) (.agg #[.string ⟨#[]⟩, .int .u8 sd, .int .u8 kd])).run Tryz.prog W = .ok () W')
  (hpan : ∀ c (a : Act) w (dd : Tmp) vv, Q (.panic c) (a.put (some dd) vv) w → Q (.panic c) a w)
  (hQ : ∀ (W W' : World) (t18 t19 t20 t21 t22 t23 t24 t25 t26 : Value), Below V0.drew.heap.size V0.drew W → (Instr.mapUpdate 100 (.map (some mb)) (.string s) (.agg #[.string ⟨#[]⟩, .int .u8 sd, .int .u8 kd])).run Tryz.prog W = .ok () W' → Q .normal { tmps := #[x0, .pointer (some ⟨vb, 0, none⟩), .int .u8 sd, .int .u8 kd, x4, x5, x6, x7, x8, x9, x10, x11, x12, x13, x14, x15, x16, x17, t18, t19, t20, t21, t22, t23, t24, t25, t26, x27], defers := [] } W') :
  (Code.region 8 opsV true).wp Tryz.prog Q { tmps := #[x0, .pointer (some ⟨vb, 0, none⟩), .int .u8 sd, .int .u8 kd, x4, x5, x6, x7, x8, x9, x10, x11, x12, x13, x14, x15, x16, x17, x18, x19, x20, x21, x22, x23, x24, x25, x26, x27], defers := [] } V0 := by
 refine zbC (fun y => y.cell? ⟨vb, 0, none⟩ = some (.map (some mb))) 9 Tryz.mixed ?_
 obtain ⟨V, hV⟩ : ∃ V, V0.drew = V := ⟨_, rfl⟩
 rw [hV] at hS0 hU hQ ⊢
 clear hV
 have HQ := hidI hQ
 have HPan := hidI hpan
 have HC := hidI hC
 have HU := hidI hU
 have hf := field126 s p
 clear hQ hpan hC hU
 refine zaB [1, 9] (i := 0) (v := (.pointer (some ⟨vb, 0, none⟩))) opsV_0 (by kernel_rfl) (by kernel_rfl) (by kernel_rfl) (by kernel_rfl) (fun c a w h => HPan.out c a w _ _ h) (.inl ⟨by rfl, fun y hy => ?_⟩) hS0 ?_
 ·go_simp
 refine zaB [9] (i := 1) (v := (.map (some mb))) opsV_1 (by kernel_rfl) (by kernel_rfl) (by kernel_rfl) (by kernel_rfl) (fun c a w h => HPan.out c a w _ _ h) (.inl ⟨by rfl, fun y hy => ?_⟩) hS0 ?_
 ·go_simp
 refine zaB [4, 5, 9] (i := 2) (v := (.int .u8 sd)) opsV_2 (by kernel_rfl) (by kernel_rfl) (by kernel_rfl) (by kernel_rfl) (fun c a w h => HPan.out c a w _ _ h) (.inl ⟨by rfl, fun y hy => ?_⟩) hS0 ?_
 ·go_simp
 refine zaB [4, 5, 9] (i := 3) (v := (.int .u8 kd)) opsV_3 (by kernel_rfl) (by kernel_rfl) (by kernel_rfl) (by kernel_rfl) (fun c a w h => HPan.out c a w _ _ h) (.inl ⟨by rfl, fun y hy => ?_⟩) hS0 ?_
 ·go_simp
 refine zaB [8, 9] (i := 6) (v := (.int .u8 sd)) opsV_6 (by kernel_rfl) (by kernel_rfl) (by kernel_rfl) (by kernel_rfl) (fun c a w h => HPan.out c a w _ _ h) (.inl ⟨by rfl, fun y hy => ?_⟩) hS0 ?_
 ·go_simp
 refine zaB [8, 9] (i := 7) (v := (.int .u8 kd)) opsV_7 (by kernel_rfl) (by kernel_rfl) (by kernel_rfl) (by kernel_rfl) (fun c a w h => HPan.out c a w _ _ h) (.inl ⟨by rfl, fun y hy => ?_⟩) hS0 ?_
 ·go_simp
 refine zaB [9] (i := 8) (v := (.agg #[.string ⟨#[]⟩, .int .u8 sd, .int .u8 kd])) opsV_8 (by kernel_rfl) (by kernel_rfl) (by kernel_rfl) (by kernel_rfl) (fun c a w h => HPan.out c a w _ _ h) (.inl ⟨by rfl, fun y hy => ?_⟩) hS0 ?_
 ·go_simp
 have HKS : Hid (∀ y : World, Below V.heap.size V y → y.cell? ⟨vb, 0, none⟩ = some (.map (some mb))) := hidI fun y hy => (hy.cell (World.block_lt_of_cell? V _ hS0)).trans hS0
 refine zaT (rs := [4]) (by kernel_rfl) (by simp) fun j4 hj4 => ?_
 obtain rfl : j4 = 4 := by simpa using hj4
 refine zaP opsV_4 rfl fun K1 hK1 => ?_
 unfold Oper.wp
 go_simp
 refine Calls.mono (HC.out V) ?_
 intro e W1 h1
 obtain ⟨rfl, hb1⟩ := h1
 have HB1 := hidI hb1
 have hS1 := HKS.out W1 hb1
 obtain ⟨W2, hrun⟩ := HU.out W1 hb1
 have HRun := hidI hrun
 clear hb1
 refine hK1 _ _ ⟨fun _ => hS1, ?_⟩
 clear hK1 K1
 refine zaT (rs := [5]) (by kernel_rfl) (by simp) fun j5 hj5 => ?_
 obtain rfl : j5 = 5 := by simpa using hj5
 refine zaP opsV_5 rfl fun K1 hK1 => ?_
 unfold Oper.wp
 go_simp
 refine hK1 _ _ ⟨fun _ => hS1, ?_⟩
 clear hK1 K1
 refine zbJ (by kernel_rfl) (by kernel_rfl) ?_ _
 refine zaP opsV_9 rfl fun K1 hK1 => ?_
 unfold Oper.wp
 go_simp
 refine hK1 _ _ ?_
 exact HQ.out W1 W2 _ _ _ _ _ _ _ _ _ HB1.out HRun.out
end Go.Proofs.YtmekkhfohmfjkaaGreatDoor
