/-
  Part 9 of the proof: EndW, Catch, ReadW, PParse, Forms.
-/
import Derived.Test.YtmekkhfohmfjkaaGreatDoorTm08
import Derived.Tactics
import Derived.Tactics2
import Derived.Defers
import Derived.Recover
import Derived.Laws.Pointers
namespace Go.Proofs.YtmekkhfohmfjkaaGreatDoor
open Go.RowKit Go.Deep Go.MapKept
def rr1 : Array Oper := #[⟨some 8, .move (.tmp 0), 202, "parse.go:83", #[], none⟩, ⟨some 9, .nilCheck (.tmp 8), 0, "parse.go:83", #[⟨0, .data⟩], none⟩, ⟨some 10, .fieldAddr 94 (.tmp 9) 0, 0, "parse.go:83", #[⟨1, .data⟩], none⟩, ⟨some 11, .load 66 (.tmp 10), 66, "parse.go:83", #[⟨2, .data⟩], none⟩, ⟨some 12, .move (.tmp 0), 202, "parse.go:83", #[], none⟩, ⟨some 13, .call ⟨.value (.func 114), #[.tmp 12], #[202]⟩, 3, "parse.go:83", #[⟨4, .data⟩], none⟩, ⟨some 14, .indexAddr 66 (.tmp 11) (.tmp 13), 0, "parse.go:83", #[⟨3, .data⟩, ⟨5, .data⟩], none⟩, ⟨some 15, .fieldAddr 115 (.tmp 14) 4, 0, "parse.go:83", #[⟨6, .data⟩], none⟩, ⟨some 16, .load 3 (.tmp 15), 3, "parse.go:83", #[⟨7, .data⟩], none⟩, ⟨some 17, .build 96 #[(0, .tmp 16), (1, .const (.int .i64 8))], 96, "parse.go:83", #[⟨8, .data⟩], none⟩, ⟨some 18, .makeInterface 96 (.tmp 17), 20, "parse.go:83", #[⟨9, .data⟩], none⟩, ⟨none, .panic (.tmp 18), 0, "parse.go:83", #[⟨10, .data⟩, ⟨5, .chain⟩], none⟩]
theorem rr1_0 : rr1[0]? = some ⟨some 8, .move (.tmp 0), 202, "parse.go:83", #[], none⟩ := by kernel_rfl
theorem rr1_1 : rr1[1]? = some ⟨some 9, .nilCheck (.tmp 8), 0, "parse.go:83", #[⟨0, .data⟩], none⟩ := by kernel_rfl
theorem rr1_2 : rr1[2]? = some ⟨some 10, .fieldAddr 94 (.tmp 9) 0, 0, "parse.go:83", #[⟨1, .data⟩], none⟩ := by kernel_rfl
theorem rr1_3 : rr1[3]? = some ⟨some 11, .load 66 (.tmp 10), 66, "parse.go:83", #[⟨2, .data⟩], none⟩ := by kernel_rfl
theorem rr1_4 : rr1[4]? = some ⟨some 12, .move (.tmp 0), 202, "parse.go:83", #[], none⟩ := by kernel_rfl
theorem rr1_5 : rr1[5]? = some ⟨some 13, .call ⟨.value (.func 114), #[.tmp 12], #[202]⟩, 3, "parse.go:83", #[⟨4, .data⟩], none⟩ := by kernel_rfl
theorem rr1_6 : rr1[6]? = some ⟨some 14, .indexAddr 66 (.tmp 11) (.tmp 13), 0, "parse.go:83", #[⟨3, .data⟩, ⟨5, .data⟩], none⟩ := by kernel_rfl
theorem rr1_7 : rr1[7]? = some ⟨some 15, .fieldAddr 115 (.tmp 14) 4, 0, "parse.go:83", #[⟨6, .data⟩], none⟩ := by kernel_rfl
theorem rr1_8 : rr1[8]? = some ⟨some 16, .load 3 (.tmp 15), 3, "parse.go:83", #[⟨7, .data⟩], none⟩ := by kernel_rfl
theorem rr1_9 : rr1[9]? = some ⟨some 17, .build 96 #[(0, .tmp 16), (1, .const (.int .i64 8))], 96, "parse.go:83", #[⟨8, .data⟩], none⟩ := by kernel_rfl
theorem rr1_10 : rr1[10]? = some ⟨some 18, .makeInterface 96 (.tmp 17), 20, "parse.go:83", #[⟨9, .data⟩], none⟩ := by kernel_rfl
theorem rr1_11 : rr1[11]? = some ⟨none, .panic (.tmp 18), 0, "parse.go:83", #[⟨10, .data⟩, ⟨5, .chain⟩], none⟩ := by kernel_rfl
set_option maxRecDepth 100000 in
set_option maxHeartbeats 2500000 in
theorem reg1e {x1 x2 x3 x4 x5 x6 x7 x8 x9 x10 x11 x12 x13 x14 x15 x16 x17 x18 : Value} {Q : Exit → Act → World → Prop} {V0 : World} {B ff fn fc b : Nat} {p : Int} (hS0 : V0.drew.cell? ⟨B, 0, none⟩ = some (.slice (some ⟨ff, 0, none⟩) fn fc) ∧ V0.drew.cell? ⟨ff, b * 5 + 4, none⟩ = some (.int .i64 p)) (hbn : b < fn)
  (hC : Calls Tryz.prog 114 #[.pointer (some ⟨B, 0, none⟩)] V0.drew fun e w' => e = .returned (.int .i64 (b : Int)) ∧ ∃ n, V0.drew.drewN n = w')
  (hpan : ∀ c (a : Act) w (dd : Tmp) vv, Q (.panic c) (a.put (some dd) vv) w → Q (.panic c) a w)
  (hQ : ∀ (a : Act) (n : Nat), a.defers = [] → Q (.panic (flt p 8)) a (V0.drew.drewN n)) :
  (Code.region 1 rr1 true).wp Tryz.prog Q { tmps := #[.pointer (some ⟨B, 0, none⟩), x1, x2, x3, x4, x5, x6, x7, x8, x9, x10, x11, x12, x13, x14, x15, x16, x17, x18], defers := [] } V0 := by
 refine zbC (fun y => y.cell? ⟨B, 0, none⟩ = some (.slice (some ⟨ff, 0, none⟩) fn fc) ∧ y.cell? ⟨ff, b * 5 + 4, none⟩ = some (.int .i64 p)) 11 Tryz.mixed ?_
 obtain ⟨V, hV⟩ : ∃ V, V0.drew = V := ⟨_, rfl⟩
 rw [hV] at hS0 hC hQ ⊢
 clear hV
 have HQ := hidI hQ
 have HC := hidI hC
 have HPan := hidI hpan
 have e2 : (b : Int) < (fn : Int) := by omega
 have e3 : (0 : Int) ≤ (b : Int) := by omega
 have e5 : ((b : Int)).toNat = b := by omega
 clear hQ hpan hC
 refine zaB [1, 2, 3, 6, 7, 8, 9, 10, 11] (i := 0) (v := (.pointer (some ⟨B, 0, none⟩))) rr1_0 (by kernel_rfl) (by kernel_rfl) (by kernel_rfl) (by kernel_rfl) (fun c a w h => HPan.out c a w _ _ h) (.inl ⟨by rfl, fun y hy => ?_⟩) hS0 ?_
 ·obtain ⟨hy0, hy1⟩ := hy
  go_simp
 refine zaB [2, 3, 6, 7, 8, 9, 10, 11] (i := 1) (v := (.pointer (some ⟨B, 0, none⟩))) rr1_1 (by kernel_rfl) (by kernel_rfl) (by kernel_rfl) (by kernel_rfl) (fun c a w h => HPan.out c a w _ _ h) (.inl ⟨by rfl, fun y hy => ?_⟩) hS0 ?_
 ·obtain ⟨hy0, hy1⟩ := hy
  go_simp
 refine zaB [3, 6, 7, 8, 9, 10, 11] (i := 2) (v := (.pointer (some ⟨B, 0, none⟩))) rr1_2 (by kernel_rfl) (by kernel_rfl) (by kernel_rfl) (by kernel_rfl) (fun c a w h => HPan.out c a w _ _ h) (.inl ⟨by rfl, fun y hy => ?_⟩) hS0 ?_
 ·obtain ⟨hy0, hy1⟩ := hy
  go_simp
 refine zaB [6, 7, 8, 9, 10, 11] (i := 3) (v := (.slice (some ⟨ff, 0, none⟩) fn fc)) rr1_3 (by kernel_rfl) (by kernel_rfl) (by kernel_rfl) (by kernel_rfl) (fun c a w h => HPan.out c a w _ _ h) (.inl ⟨by rfl, fun y hy => ?_⟩) hS0 ?_
 ·obtain ⟨hy0, hy1⟩ := hy
  go_simp
 refine zaB [5, 6, 7, 8, 9, 10, 11] (i := 4) (v := (.pointer (some ⟨B, 0, none⟩))) rr1_4 (by kernel_rfl) (by kernel_rfl) (by kernel_rfl) (by kernel_rfl) (fun c a w h => HPan.out c a w _ _ h) (.inl ⟨by rfl, fun y hy => ?_⟩) hS0 ?_
 ·obtain ⟨hy0, hy1⟩ := hy
  go_simp
 refine zaT (rs := [5]) (by kernel_rfl) (by simp) fun j5 hj5 => ?_
 obtain rfl : j5 = 5 := by simpa using hj5
 refine zaP rr1_5 rfl fun K1 hK1 => ?_
 unfold Oper.wp
 go_simp
 refine Calls.mono HC.out ?_
 rintro e W1 ⟨rfl, n1, rfl⟩
 go_simp
 have hS1 : (V.drewN n1).cell? ⟨B, 0, none⟩ = some (.slice (some ⟨ff, 0, none⟩) fn fc) ∧ (V.drewN n1).cell? ⟨ff, b * 5 + 4, none⟩ = some (.int .i64 p) := hS0
 refine hK1 _ _ ⟨fun _ => hS1, ?_⟩
 clear hK1 K1
 have hc1 := hS1.1
 have hc2 := hS1.2
 refine zaT (rs := [6]) (by kernel_rfl) (by simp) fun j6 hj6 => ?_
 obtain rfl : j6 = 6 := by simpa using hj6
 refine zaP rr1_6 rfl fun K1 hK1 => ?_
 unfold Oper.wp
 go_simp
 refine hK1 _ _ ⟨fun _ => hS1, ?_⟩
 clear hK1 K1
 refine zaT (rs := [7]) (by kernel_rfl) (by simp) fun j7 hj7 => ?_
 obtain rfl : j7 = 7 := by simpa using hj7
 refine zaP rr1_7 rfl fun K1 hK1 => ?_
 unfold Oper.wp
 go_simp
 refine hK1 _ _ ⟨fun _ => hS1, ?_⟩
 clear hK1 K1
 refine zaT (rs := [8]) (by kernel_rfl) (by simp) fun j8 hj8 => ?_
 obtain rfl : j8 = 8 := by simpa using hj8
 refine zaP rr1_8 rfl fun K1 hK1 => ?_
 unfold Oper.wp
 go_simp
 refine hK1 _ _ ⟨fun _ => hS1, ?_⟩
 clear hK1 K1
 refine zaT (rs := [9]) (by kernel_rfl) (by simp) fun j9 hj9 => ?_
 obtain rfl : j9 = 9 := by simpa using hj9
 refine zaP rr1_9 rfl fun K1 hK1 => ?_
 unfold Oper.wp
 go_simp
 refine hK1 _ _ ⟨fun _ => hS1, ?_⟩
 clear hK1 K1
 refine zaT (rs := [10]) (by kernel_rfl) (by simp) fun j10 hj10 => ?_
 obtain rfl : j10 = 10 := by simpa using hj10
 refine zaP rr1_10 rfl fun K1 hK1 => ?_
 unfold Oper.wp
 go_simp
 refine hK1 _ _ ⟨fun _ => hS1, ?_⟩
 clear hK1 K1
 refine zbJ (by kernel_rfl) (by kernel_rfl) ?_ _
 refine zaP rr1_11 rfl fun K1 hK1 => ?_
 unfold Oper.wp
 go_simp
 exact HQ.out _ n1 rfl
def EndRes (w : World) (r : Except (Int × Int) St) (e : Ending) (w' : World) : Prop :=
 match r with
 | .error q => e = .panicked (flt q.1 q.2) ∧ ∃ n, w.drewN n = w'
 | .ok _ => e = .returned (.tuple #[]) ∧ w = w'
section
variable {w : World} {base B : Nat} {fs : List FV} {top opn : List Nat} {fv tv ov : Value}
theorem drew_drewN (w : World) (n : Nat) : w.drew.drewN n = w.drewN (1 + n) := by
 unfold World.drew World.drewN
 simp [Nat.add_assoc]
theorem end_any (h : RD w base B fs top opn fv tv ov) (hG : Good ⟨fs.map Prod.fst, top, opn⟩) :
  Calls Tryz.prog 73 #[.pointer (some ⟨B, 0, none⟩)] w fun e w' => EndRes w (finish ⟨fs.map Prod.fst, top, opn⟩) e w' := by
 unfold finish
 simp only
 have c2 := h.c2
 cases hb : opn.getLast? with
 | none =>
  obtain rfl : opn = [] := by simpa using hb
  obtain ⟨oa, oc, hov⟩ := zaF h.oo
  rw [hov] at c2
  simp only [List.length_nil] at c2
  clear h hG hb hov
  go_enter Tryz.func73, Tryz.ntmps73
  go_wp2
  go_end0
  exact ⟨rfl, rfl⟩
 | some b =>
  have hbm : b ∈ opn := List.mem_of_getLast? hb
  have hbl := hG.open_lt b hbm
  simp only [List.length_map] at hbl
  have ho := hG.open_len
  simp only at ho
  have hol : 0 < opn.length := List.length_pos_of_mem hbm
  have hx : fs[b]? = some fs[b] := List.getElem?_eq_getElem hbl
  obtain ⟨oa, oc, hov⟩ := zaF h.oo
  rw [hov] at c2
  obtain ⟨ff, fc, hfv, _, _⟩ := own_some h.fo (by omega)
  have hfo := h.fo
  have c0 := h.c0
  rw [hfv] at hfo c0
  have hp : atOf (fs.map Prod.fst) b = fs[b].1.p := by unfold atOf; rw [List.getElem?_map, hx]; rfl
  have hcp := own_cell hfo (j := b * 5 + 4) (u := .int .i64 fs[b].1.p) (by rw [zcG fs b 4 _ hx (by omega)]; rfl)
  show Calls Tryz.prog 73 #[.pointer (some ⟨B, 0, none⟩)] w fun e w' => EndRes w (.error (atOf (fs.map Prod.fst) b, 8)) e w'
  rw [hp]
  obtain ⟨p, hpp⟩ : ∃ p, fs[b].1.p = p := ⟨_, rfl⟩
  rw [hpp] at hcp ⊢
  have q1 : decide ((0 : Int) < (opn.length : Int)) = true := by simp; omega
  have HS := hidI (show w.drew.cell? ⟨B, 0, none⟩ = some (.slice (some ⟨ff, 0, none⟩) fs.length fc) ∧ w.drew.cell? ⟨ff, b * 5 + 4, none⟩ = some (.int .i64 p) from ⟨c0, hcp⟩)
  have HI := hidI (inner_any h.drew ho hb)
  have q2 : (0 : Int) < (opn.length : Int) := by omega
  clear h hG hb hov hfo hcp hpp hp hx hfv c0 hbm
  go_enter Tryz.func73, Tryz.ntmps73
  go_wp2
  refine reg1e HS.out hbl HI.out (fun _ _ _ _ _ h => h) ?_
  intro a n hd
  exact ⟨hd, rfl, 1 + n, (drew_drewN w n).symm⟩
end
theorem assert59 (v : Value) (w : World) : (Instr.typeAssert (.iface 96 v) 20 96 false).run Tryz.prog w = .ok v w := by kernel_rfl
theorem catch_fault (E : Nat) (x y p er : Int) (older : List PanicEntry) (w : World) (h0 : w.cell? ⟨E, 0, none⟩ = some (.int .i64 x)) (h1 : w.cell? ⟨E, 1, none⟩ = some (.int .i64 y)) (hz : ∀ j, w.frozen? ⟨E, j, none⟩ = false) :
  CallsD Tryz.prog 71 #[.pointer (some ⟨E, 0, none⟩)] (.panicking ({ v := .iface 96 (.agg #[.int .i64 p, .int .i64 er]), recovered := false } :: older)) w fun e u' w' =>
   e = .returned (.tuple #[]) ∧ u' = .panicking ({ v := .iface 96 (.agg #[.int .i64 p, .int .i64 er]), recovered := true } :: older) ∧ w' = (w.setCell ⟨E, 0, none⟩ (.int .i64 p)).setCell ⟨E, 1, none⟩ (.int .i64 er) := by
 have hz0 := hz 0
 have hz1 := hz 1
 refine callsD_of_wpS Tryz.func71 rfl fun c₀ cs hu => ?_
 apply wpS_seq
 apply wpS_region
 simp [wpOpsS, go_sem, recoverD, hu, Tryz.ntmps71, Exit.thenS]
 apply wpS_seq
 apply wpS_region
 simp [wpOpsS, go_sem, Exit.thenS]
 refine wpS_cond (t := true) (by simp [Act.eval, Array.replicate]) ?_
 simp only [if_true]
 apply wpS_region
 simp [wpOpsS, go_sem, assert59, h0, h1, hz0, hz1]
 simp [bodyPostS, results, Tryz.results71]
theorem catch_idle (E : Nat) (w : World) :
  CallsD Tryz.prog 71 #[.pointer (some ⟨E, 0, none⟩)] .returning w fun e u' w' => e = .returned (.tuple #[]) ∧ u' = .returning ∧ w' = w := by
 refine callsD_of_wpS Tryz.func71 rfl fun c₀ cs hu => ?_
 apply wpS_seq
 apply wpS_region
 simp [wpOpsS, go_sem, recoverD, hu, Tryz.ntmps71, Exit.thenS]
 refine wpS_of_wp ?_
 go_wp2
 cases c₀
 simp_all [bodyPostS, results, Tryz.results71]
theorem two_apart (w : World) (a b c : Value) (h : a = .slice none 0 0 ∧ b = .slice none 0 0 ∧ c = .slice none 0 0) : RD ((w.alloc (.cells #[a, b, c] 94)).alloc (.cells #[.int .i64 0, .int .i64 0] 96)) w.heap.size w.heap.size [] [] [] a b c := by
 obtain ⟨rfl, rfl, rfl⟩ := h
 constructor
 ·intro r hr
  simp only [rrows, List.map_nil, List.mem_cons, List.mem_nil_iff, or_false] at hr
  rcases hr with rfl | rfl | rfl | rfl | rfl
  ·refine World.ownsRow.alloc ?_ _
   exact ⟨rfl, .inr ⟨w.heap.size, 1, #[.slice none 0 0, .slice none 0 0, .slice none 0 0], rfl, Nat.le_refl _, by show (w.heap.push _)[w.heap.size]? = _; simp, Nat.le_refl _, by decide, rfl, rfl⟩⟩
  ·exact World.ownsRow_nil _ _ _ _
  ·exact World.ownsRow_nil _ _ _ _
  ·exact World.ownsRow_nil _ _ _ _
  ·exact ⟨rfl, .inr ⟨w.heap.size + 1, 1, #[.int .i64 0, .int .i64 0], rfl, by omega, by show ((w.heap.push _).push _)[w.heap.size + 1]? = _; rw [show w.heap.size + 1 = (w.heap.push (Obj.cells #[Value.slice none 0 0, Value.slice none 0 0, Value.slice none 0 0] 94)).size by simp, Array.getElem?_push_size], Nat.le_refl _, by decide, rfl, rfl⟩⟩
 ·intro i j x y hx hy hij
  have hi : i < 5 := (List.getElem?_eq_some_iff.1 hx).1
  have hj : j < 5 := (List.getElem?_eq_some_iff.1 hy).1
  have hii : i = 0 ∨ i = 1 ∨ i = 2 ∨ i = 3 ∨ i = 4 := by omega
  have hjj : j = 0 ∨ j = 1 ∨ j = 2 ∨ j = 3 ∨ j = 4 := by omega
  rcases hii with rfl | rfl | rfl | rfl | rfl <;> rcases hjj with rfl | rfl | rfl | rfl | rfl <;> first | (exact absurd rfl hij) | (simp only [rrows, List.getElem?_cons_zero, List.getElem?_cons_succ, Option.some.injEq] at hx hy; subst hx; subst hy; simp [Ap, bx, Value.ownBlock])
def RI (ts : List Tok) (w : World) (j : Nat) (wy : World) : Prop :=
 ∃ fs top opn fv tv ov, steps (ts.take j) begin0 = .ok ⟨fs.map Prod.fst, top, opn⟩ ∧ Good ⟨fs.map Prod.fst, top, opn⟩ ∧ RD wy w.heap.size w.heap.size fs top opn fv tv ov ∧ Below w.heap.size w wy
def ReadOk (w : World) (σ : St) (e : Ending) (w' : World) : Prop :=
 ∃ fs top opn fv tv ov, e = .returned (.tuple #[.agg #[fv, tv, ov], .agg #[.int .i64 0, .int .i64 0]]) ∧ RD w' w.heap.size w.heap.size fs top opn fv tv ov ∧ σ = ⟨fs.map Prod.fst, top, opn⟩ ∧ Below w.heap.size w w'
def IsSl (v : Value) : Prop := ∃ a n c, v = .slice a n c
theorem own_sl {w : World} {base e size n : Nat} {v : Value} {xs : List Value} (h : w.ownsRow base e size v n xs) : IsSl v := by
 obtain ⟨a, c, e⟩ := zaF h
 exact ⟨a, n, c, e⟩
def ReadRes (w : World) (r : Except (Int × Int) St) (e : Ending) (w' : World) : Prop :=
 match r with
 | .error q => ∃ fv tv ov, IsSl fv ∧ IsSl tv ∧ IsSl ov ∧ e = .returned (.tuple #[.agg #[fv, tv, ov], .agg #[.int .i64 q.1, .int .i64 q.2]]) ∧ Below w.heap.size w w'
 | .ok σ => ReadOk w σ e w'
theorem steps_append (a b : List Tok) : ∀ (σ : St), steps (a ++ b) σ = (match steps a σ with | .error e => .error e | .ok σ' => steps b σ' : Except (Int × Int) St) := by
 induction a with
 | nil => intro σ; rfl
 | cons t r ih =>
  intro σ
  simp only [List.cons_append, steps]
  cases step σ t with
  | error e => rfl
  | ok σ' => exact ih σ'
theorem steps_next {ts : List Tok} {j : Nat} {t : Tok} {σ σ0 : St} (hj : ts[j]? = some t) (h : steps (ts.take j) σ0 = .ok σ) : steps (ts.take (j + 1)) σ0 = step σ t := by
 rw [List.take_add_one, hj, steps_append, h]
 show (match step σ t with | .error e => .error e | .ok σ' => steps [] σ' : Except (Int × Int) St) = step σ t
 cases step σ t <;> rfl
theorem steps_stop {ts : List Tok} {j : Nat} {t : Tok} {σ σ0 : St} {q : Int × Int} (hj : ts[j]? = some t) (h : steps (ts.take j) σ0 = .ok σ) (hq : step σ t = .error q) : steps ts σ0 = .error q := by
 have h1 := steps_next hj h
 rw [hq] at h1
 rw [← List.take_append_drop (j + 1) ts, steps_append, h1]
theorem parse_stop {ts : List Tok} {j : Nat} {t : Tok} {σ : St} {q : Int × Int} (hj : ts[j]? = some t) (h : steps (ts.take j) begin0 = .ok σ) (hq : step σ t = .error q) : parse ts = .error q := by
 unfold parse
 rw [steps_stop hj h hq]
theorem parse_end {ts : List Tok} {σ : St} (h : steps ts begin0 = .ok σ) : parse ts = finish σ := by
 unfold parse
 rw [h]
theorem zcW {w : World} {base E n : Nat} {xs : List Value} {j : Nat} {u : Value} (h : w.ownsRow base 96 2 (bx E) n xs) (hj : xs[j]? = some u) : w.cell? ⟨E, j, none⟩ = some u := by
 have := World.ownsRow.cells h (g := E) rfl j u hj
 rwa [show (⟨E, 0, none⟩ : Addr).add j = ⟨E, 0 + j, none⟩ from Addr.add_lit .., Nat.zero_add] at this
theorem RD.again {w : World} {base B : Nat} {fs : List FV} {top opn : List Nat} {fv tv ov : Value} (h : RD w base B fs top opn fv tv ov) :
  RD (((((w.setCell ⟨B, 0, none⟩ fv).setCell ⟨B, 1, none⟩ tv).setCell ⟨B, 2, none⟩ ov).setCell ⟨B + 1, 0, none⟩ (.int .i64 0)).setCell ⟨B + 1, 1, none⟩ (.int .i64 0)).drew base B fs top opn fv tv ov := by
 have h0 : RD (w.setCell ⟨B, 0, none⟩ fv) base B fs top opn fv tv ov := RowsOk.setc (i := 0) (g := B) (cap := 1) (j := 0) (r := ⟨bx B, 94, 3, 1, [fv, tv, ov]⟩) h rfl rfl fv
 have h1 : RD ((w.setCell ⟨B, 0, none⟩ fv).setCell ⟨B, 1, none⟩ tv) base B fs top opn fv tv ov := RowsOk.setc (i := 0) (g := B) (cap := 1) (j := 1) (r := ⟨bx B, 94, 3, 1, [fv, tv, ov]⟩) h0 rfl rfl tv
 have h2 : RD (((w.setCell ⟨B, 0, none⟩ fv).setCell ⟨B, 1, none⟩ tv).setCell ⟨B, 2, none⟩ ov) base B fs top opn fv tv ov := RowsOk.setc (i := 0) (g := B) (cap := 1) (j := 2) (r := ⟨bx B, 94, 3, 1, [fv, tv, ov]⟩) h1 rfl rfl ov
 have h3 : RD ((((w.setCell ⟨B, 0, none⟩ fv).setCell ⟨B, 1, none⟩ tv).setCell ⟨B, 2, none⟩ ov).setCell ⟨B + 1, 0, none⟩ (.int .i64 0)) base B fs top opn fv tv ov := RowsOk.setc (i := 4) (g := B + 1) (cap := 1) (j := 0) (r := ⟨bx (B + 1), 96, 2, 1, [.int .i64 0, .int .i64 0]⟩) h2 rfl rfl (.int .i64 0)
 have h4 : RD (((((w.setCell ⟨B, 0, none⟩ fv).setCell ⟨B, 1, none⟩ tv).setCell ⟨B, 2, none⟩ ov).setCell ⟨B + 1, 0, none⟩ (.int .i64 0)).setCell ⟨B + 1, 1, none⟩ (.int .i64 0)) base B fs top opn fv tv ov := RowsOk.setc (i := 4) (g := B + 1) (cap := 1) (j := 1) (r := ⟨bx (B + 1), 96, 2, 1, [.int .i64 0, .int .i64 0]⟩) h3 rfl rfl (.int .i64 0)
 exact h4.drew
set_option maxHeartbeats 2000000 in
theorem read_any (ts : List Tok) (v : Value) (w : World) (hv : SeesC w v ts.length 4 (flatT ts)) (hs : ∀ t ∈ ts, t.s.size ≤ 140737488355328) (hl : ts.length ≤ 100000) :
  Calls Tryz.prog 45 #[v] w fun e w' => ReadRes w (parse ts) e w' := by
 have hmf : ∀ (fn : Go.Fn) (first cap : Array Value) (w : World), (Instr.makeFunc fn first cap).run Tryz.prog w = .ok (.func fn first cap) w := fun _ _ _ _ => rfl
 have HV := hidI hv
 obtain ⟨hlen, a, cap, rfl, hc⟩ := hv
 have HC := hidI hc
 have H0 := hidI (two_apart w (.slice none 0 0) (.slice none 0 0) (.slice none 0 0) ⟨rfl, rfl, rfl⟩)
 have HB0 : Hid (Below w.heap.size w ((w.alloc (.cells #[.slice none 0 0, .slice none 0 0, .slice none 0 0] 94)).alloc (.cells #[.int .i64 0, .int .i64 0] 96))) := hidI (by (repeat (first | exact Below.refl _ _ | assumption | refine Below.drew ?_ | refine Below.alloc ?_ (by first | omega | (simp; done) | (simp; omega)) _ | refine Below.setCell ?_ (by first | omega | (simp; done) | (simp; omega)) _)))
 have HS := hidI hs
 clear hc hs
 go_enter_defers Tryz.func45, Tryz.ntmps45
 go_wp2
 go_loopg [9] ts.length (fun gh s9 wy => ∃ j : Nat, j + gh = ts.length ∧ s9 = .int .i64 (j : Int) ∧ RI ts w j wy)
 case atStart => exact ⟨0, by omega, rfl, [], [], [], _, _, _, rfl, good_begin, H0.out, HB0.out⟩
 case round =>
  obtain ⟨j, hj, rfl, hRI⟩ := hrel
  cases gk with
  | succ g =>
   have hjl : j < ts.length := by omega
   have hti : ts[j]? = some ts[j] := List.getElem?_eq_getElem hjl
   obtain ⟨t, ht⟩ : ∃ t, ts[j] = t := ⟨_, rfl⟩
   rw [ht] at hti
   rcases HC.out with h0 | ⟨b, off, rfl, hcs⟩
   ·omega
   obtain ⟨fs, top, opn, fv, tv, ov, hst, hG, hRD, hbl⟩ := hRI
   have hcell : ∀ i u, i < 4 → t.cells[i]? = some u → wr.cell? ⟨b, off + j * 4 + i, none⟩ = some u := fun i u hi hu => by
    have := hcs (j * 4 + i) u (by rw [flatT_get ts j i t hti hi]; exact hu)
    rw [← Nat.add_assoc] at this
    exact (hbl.cell (World.block_lt_of_cell? w _ this)).trans this
   have k0 := hcell 0 _ (by omega) rfl
   have k1 := hcell 1 _ (by omega) rfl
   have k2 := hcell 2 _ (by omega) rfl
   have k3 := hcell 3 _ (by omega) rfl
   have hts : t.s.size ≤ 140737488355328 := HS.out t (List.mem_of_getElem? hti)
   have HT := hidI (take_any (hRD.alloc (.cells #[.int .u8 t.k, .string t.s, .int .i64 t.n, .int .i64 t.p] 91)) hG t hts)
   have HB1 : Hid (Below w.heap.size w (wr.alloc (.cells #[.int .u8 t.k, .string t.s, .int .i64 t.n, .int .i64 t.p] 91))) := hidI (hbl.alloc hbl.size _)
   have HRD := hidI hRD
   have e1 : (j : Int) < (ts.length : Int) := by omega
   have e2 : (0 : Int) ≤ (j : Int) := by omega
   have e3 : ((j : Int)).toNat = j := by omega
   have hlt := hRD.lt
   have HG := hidI hG
   have HST := hidI hst
   have HTI := hidI hti
   simp only [Nat.add_zero] at k0
   cases hq : step ⟨fs.map Prod.fst, top, opn⟩ t with
   | error q =>
    have HP := hidI (parse_stop hti hst hq)
    rw [hq] at HT
    clear hq hst hti hcell hcs hG hbl hRD ht
    go_wp2_with (go_at_call 72; refine HT.out.mono ?_; intro e w2 hres; obtain ⟨rfl, hb2⟩ := hres; have HB2 := hidI hb2; clear hb2 HT)
    have hRA := HRD.out.alloc (.cells #[.int .u8 t.k, .string t.s, .int .i64 t.n, .int .i64 t.p] 91)
    have hR2 := hRA.down HB2.out
    have hE0 := zcW hR2.eo (j := 0) rfl
    have hE1 := zcW hR2.eo (j := 1) rfl
    have hEf : ∀ j, w2.frozen? ⟨w.heap.size + 1, j, none⟩ = false := fun j => zcT hR2.eo j
    have hc0 := hR2.c0
    have hc1 := hR2.c1
    have hc2 := hR2.c2
    refine leaves_cons (f := 71) (args := #[.pointer (some ⟨w.heap.size + 1, 0, none⟩)]) (by simp) (by simp [go_sem]) ?_
    refine (catch_fault (w.heap.size + 1) 0 0 q.1 q.2 [] _ hE0 hE1 hEf).mono ?_
    rintro e u' w'' ⟨rfl, rfl, rfl⟩
    have hBf : Below w.heap.size w ((w2.setCell ⟨w.heap.size + 1, 0, none⟩ (.int .i64 q.1)).setCell ⟨w.heap.size + 1, 1, none⟩ (.int .i64 q.2)) := ((HB1.out.trans (HB2.out.mono HB1.out.size)).setCell (by simp) _).setCell (by simp) _
    have hF0 := World.cell?_setCell_same w2 ⟨w.heap.size + 1, 0, none⟩ (.int .i64 q.1) hE0
    have hF1 : ((w2.setCell ⟨w.heap.size + 1, 0, none⟩ (.int .i64 q.1)).setCell ⟨w.heap.size + 1, 1, none⟩ (.int .i64 q.2)).cell? ⟨w.heap.size + 1, 1, none⟩ = some (.int .i64 q.2) := World.cell?_setCell_same _ _ _ ((World.cell?_setCell_other _ _ _ _ (by simp)).trans hE1)
    simp [Leaves, settle, results, Tryz.results45, go_sem, hc0, hc1, hc2, hF0, hF1]
    rw [HP.out]
    exact ⟨fv, tv, ov, own_sl hR2.fo, own_sl hR2.to, own_sl hR2.oo, rfl, hBf⟩
   | ok σ' =>
    have hst2 := steps_next hti hst
    rw [hq] at hst2 HT
    have HN := hidI hst2
    have HG2 := hidI (step_good hG hq)
    clear hq hst hti hcell hcs hG hbl hRD ht hst2
    go_wp2_with (go_at_call 72; refine HT.out.mono ?_; intro e w2 hres; obtain ⟨rfl, hb2⟩ := hres; have HB2 := hidI hb2; clear hb2 HT)
    go_roundg g
    case measure => omega
    case rel =>
     obtain ⟨hbb, fs2, top2, opn2, fv2, tv2, ov2, hR2, rfl⟩ := HB2.out
     exact ⟨j + 1, by omega, by go_num, fs2, top2, opn2, fv2, tv2, ov2, HN.out, HG2.out, hR2, HB1.out.trans hbb⟩
  | zero =>
   have hje : ts.length = j := by omega
   obtain ⟨fs, top, opn, fv, tv, ov, hst, hG, hRD, hbl⟩ := hRI
   rw [← hje, List.take_length] at hst
   have HP := hidI (parse_end hst)
   have HE := hidI (end_any hRD hG)
   have HRD := hidI hRD
   have HBL := hidI hbl
   have e1 : ¬ (j : Int) < (ts.length : Int) := by omega
   subst hje
   cases hq : finish ⟨fs.map Prod.fst, top, opn⟩ with
   | error q =>
    rw [hq] at HE HP
    clear hq hst hG hbl hRD
    go_wp2_with (go_at_call 73; refine HE.out.mono ?_; intro e w2 hres; obtain ⟨rfl, n2, rfl⟩ := hres; clear HE)
    have hR2 := HRD.out.drewN n2
    have hB2 : Below w.heap.size w (wr.drewN n2) := ⟨HBL.out.os, HBL.out.tape, HBL.out.output, HBL.out.size, HBL.out.block⟩
    obtain ⟨w2, hw2⟩ : ∃ w2, wr.drewN n2 = w2 := ⟨_, rfl⟩
    rw [hw2] at hR2 hB2 ⊢
    clear hw2
    have hE0 := zcW hR2.eo (j := 0) rfl
    have hE1 := zcW hR2.eo (j := 1) rfl
    have hEf : ∀ j, w2.frozen? ⟨w.heap.size + 1, j, none⟩ = false := fun j => zcT hR2.eo j
    have hc0 := hR2.c0
    have hc1 := hR2.c1
    have hc2 := hR2.c2
    refine leaves_cons (f := 71) (args := #[.pointer (some ⟨w.heap.size + 1, 0, none⟩)]) (by simp) (by simp [go_sem]) ?_
    refine (catch_fault (w.heap.size + 1) 0 0 q.1 q.2 [] _ hE0 hE1 hEf).mono ?_
    rintro e u' w'' ⟨rfl, rfl, rfl⟩
    have hBf : Below w.heap.size w ((w2.setCell ⟨w.heap.size + 1, 0, none⟩ (.int .i64 q.1)).setCell ⟨w.heap.size + 1, 1, none⟩ (.int .i64 q.2)) := (hB2.setCell (by simp) _).setCell (by simp) _
    have hF0 := World.cell?_setCell_same w2 ⟨w.heap.size + 1, 0, none⟩ (.int .i64 q.1) hE0
    have hF1 : ((w2.setCell ⟨w.heap.size + 1, 0, none⟩ (.int .i64 q.1)).setCell ⟨w.heap.size + 1, 1, none⟩ (.int .i64 q.2)).cell? ⟨w.heap.size + 1, 1, none⟩ = some (.int .i64 q.2) := World.cell?_setCell_same _ _ _ ((World.cell?_setCell_other _ _ _ _ (by simp)).trans hE1)
    simp [Leaves, settle, results, Tryz.results45, go_sem, hc0, hc1, hc2, hF0, hF1]
    rw [HP.out]
    exact ⟨fv, tv, ov, own_sl hR2.fo, own_sl hR2.to, own_sl hR2.oo, rfl, hBf⟩
   | ok σ' =>
    rw [hq] at HE HP
    have hoe : opn = [] := by
     unfold finish at hq
     cases hb : opn.getLast? with
     | none => simpa using hb
     | some b => simp [hb] at hq
    clear hst hG hbl hRD
    have hc0 := HRD.out.c0
    have hc1 := HRD.out.c1
    have hc2 := HRD.out.c2
    have hz0 := HRD.out.free 0
    have hz1 := HRD.out.free 1
    have hz2 := HRD.out.free 2
    have hE0 := zcW HRD.out.eo (j := 0) rfl
    have hE1 := zcW HRD.out.eo (j := 1) rfl
    have hy0 := zcT HRD.out.eo 0
    have hy1 := zcT HRD.out.eo 1
    subst hoe
    obtain ⟨oa, oc, hov⟩ := zaF HRD.out.oo
    have hov' : ov = .slice oa 0 oc := hov
    subst hov'
    obtain ⟨fa, fc, rfl⟩ := zaF HRD.out.fo
    obtain ⟨ta, tc, rfl⟩ := zaF HRD.out.to
    have HA := hidI HRD.out.again
    have HBA : Hid (Below w.heap.size w (((((wr.setCell ⟨w.heap.size, 0, none⟩ (.slice fa fs.length fc)).setCell ⟨w.heap.size, 1, none⟩ (.slice ta top.length tc)).setCell ⟨w.heap.size, 2, none⟩ (.slice oa 0 oc)).setCell ⟨w.heap.size + 1, 0, none⟩ (.int .i64 0)).setCell ⟨w.heap.size + 1, 1, none⟩ (.int .i64 0)).drew) :=
     hidI (((((HBL.out.setCell (by simp) _).setCell (by simp) _).setCell (by simp) _).setCell (by simp) _).setCell (by simp) _).drew
    have hqq : σ' = ⟨fs.map Prod.fst, top, []⟩ := by unfold finish at hq; simp at hq; exact hq.symm
    have HQQ := hidI hqq
    clear hq hqq
    go_wp2_with (go_at_call 73; refine HE.out.mono ?_; intro e w2 hres; obtain ⟨rfl, rfl⟩ := hres; clear HE)
    go_region
    go_wp2
    obtain ⟨wf, hwf⟩ : ∃ wf, (((((wr.setCell ⟨w.heap.size, 0, none⟩ (.slice fa fs.length fc)).setCell ⟨w.heap.size, 1, none⟩ (.slice ta top.length tc)).setCell ⟨w.heap.size, 2, none⟩ (.slice oa 0 oc)).setCell ⟨w.heap.size + 1, 0, none⟩ (.int .i64 0)).setCell ⟨w.heap.size + 1, 1, none⟩ (.int .i64 0)).drew = wf := ⟨_, rfl⟩
    rw [hwf] at HA HBA ⊢
    clear hwf
    have g0 := HA.out.c0
    have g1 := HA.out.c1
    have g2 := HA.out.c2
    have gE0 := zcW HA.out.eo (j := 0) rfl
    have gE1 := zcW HA.out.eo (j := 1) rfl
    refine leaves_cons (f := 71) (args := #[.pointer (some ⟨w.heap.size + 1, 0, none⟩)]) (by simp) (by simp [go_sem]) ?_
    refine (catch_idle (w.heap.size + 1) _).mono ?_
    rintro e u' w'' ⟨rfl, rfl, rfl⟩
    simp [Leaves, settle, results, Tryz.results45, go_sem, g0, g1, g2, gE0, gE1]
    rw [HP.out]
    exact ⟨fs, top, [], _, _, _, rfl, HA.out, HQQ.out, HBA.out⟩
theorem results_four {fn : Func} {t u v x : Tmp} (h : fn.results = #[.tmp t, .tmp u, .tmp v, .tmp x]) (tmps : Array Value) (P : Program) (w : World) :
  (results fn tmps).run P w = .ok (.tuple #[tmps.getD t undef, tmps.getD u undef, tmps.getD v undef, tmps.getD x undef]) w := by
 simp [results, h]
def Roomy (v : Value) : Prop := ∃ a n c, v = .slice a n c ∧ n ≤ c
theorem roomy_of {w : World} {base e size n : Nat} {v : Value} {xs : List Value} (h : w.ownsRow base e size v n xs) : Roomy v := by
 rcases h.2 with ⟨rfl, rfl⟩ | ⟨g, cap, cur, rfl, r⟩
 ·exact ⟨_, _, _, rfl, Nat.le_refl _⟩
 ·exact ⟨_, _, _, rfl, r.2.2.1⟩
def SeesF (w : World) (v : Value) (l : List Frm) : Prop :=
 ∃ fs : List FV, fs.map Prod.fst = l ∧ SeesC w v fs.length 5 (flatF fs) ∧ ∀ (i : Nat) (x : FV), fs[i]? = some x → SeesC w x.2 x.1.kids.length 1 (ints x.1.kids) ∧ Roomy x.2
theorem SeesF.below {w w' : World} {v : Value} {l : List Frm} (h : SeesF w v l) (hb : Below w.heap.size w w') : SeesF w' v l := by
 obtain ⟨fs, h1, h2, h3⟩ := h
 exact ⟨fs, h1, h2.below hb (Nat.le_refl _), fun i x hx => ⟨(h3 i x hx).1.below hb (Nat.le_refl _), (h3 i x hx).2⟩⟩
theorem RD.sees {w : World} {base B : Nat} {fs : List FV} {top opn : List Nat} {fv tv ov : Value} (h : RD w base B fs top opn fv tv ov) : SeesF w fv (fs.map Prod.fst) :=
 ⟨fs, rfl, zbA h.fo, fun _ _ hx => ⟨zbA (h.ko hx), roomy_of (h.ko hx)⟩⟩
theorem step_err {σ : St} {t : Tok} {q : Int × Int} (h : step σ t = .error q) : q.2 = 4 ∨ q.2 = 8 := by
 unfold step at h
 split at h
 ·split at h
  ·cases h; exact .inr rfl
  ·cases h
 ·split at h
  ·split at h
   ·cases h; exact .inl rfl
   ·split at h
    ·cases h; exact .inl rfl
    ·cases h
  ·split at h
   ·split at h
    ·cases h; exact .inl rfl
    ·cases h
   ·cases h
theorem steps_err : ∀ (l : List Tok) (σ : St) (q : Int × Int), steps l σ = .error q → q.2 = 4 ∨ q.2 = 8
 | [], _, _, h => by cases h
 | t :: r, σ, q, h => by
  unfold steps at h
  cases hs : step σ t with
  | error e => rw [hs] at h; cases h; exact step_err hs
  | ok σ' => rw [hs] at h; exact steps_err r σ' q h
theorem tparse_err {l : List Tok} {q : Int × Int} (h : parse l = .error q) : q.2 = 4 ∨ q.2 = 8 := by
 unfold parse at h
 cases hs : steps l begin0 with
 | error e => rw [hs] at h; cases h; exact steps_err _ _ _ hs
 | ok σ =>
  rw [hs] at h
  simp only at h
  unfold finish at h
  split at h
  ·cases h
  ·cases h; exact .inr rfl
def PRes (w : World) (r : Except (Int × Int) St) (e : Ending) (w' : World) : Prop :=
 match r with
 | .error q => e = .returned (.tuple #[.slice none 0 0, .slice none 0 0, .int .i64 q.1, .int .i64 q.2]) ∧ Below w.heap.size w w'
 | .ok σ => ∃ fv tv, e = .returned (.tuple #[fv, tv, .int .i64 0, .int .i64 0]) ∧ SeesF w' fv σ.forms ∧ SeesC w' tv σ.top.length 1 (ints σ.top) ∧ Below w.heap.size w w'
set_option maxHeartbeats 1000000 in
theorem tparse_any (ts : List Tok) (v : Value) (w : World) (hv : SeesC w v ts.length 4 (flatT ts)) (hs : ∀ t ∈ ts, t.s.size ≤ 140737488355328) (hl : ts.length ≤ 100000) :
  Calls Tryz.prog 29 #[v] w fun e w' => PRes w (parse ts) e w' := by
 have HR := hidI (read_any ts v w hv hs hl)
 clear hv hs hl
 cases hp : parse ts with
 | error q =>
  have hq := tparse_err hp
  rw [hp] at HR
  have hne : (q.2 == 0) = false := by rcases hq with h | h <;> rw [h] <;> rfl
  have hne2 : ¬ q.2 = 0 := by rcases hq with h | h <;> rw [h] <;> decide
  clear hp hq
  go_enter Tryz.func29, Tryz.ntmps29
  go_wp2_with (go_at_call 45; refine HR.out.mono ?_; intro e w1 hres; obtain ⟨fv, tv, ov, ⟨a1, n1, c1, rfl⟩, ⟨a2, n2, c2, rfl⟩, ⟨a3, n3, c3, rfl⟩, rfl, hb1⟩ := hres; clear HR)
  go_quiet (fail)
  generalize nq = n9
  go_wp2
  refine bodyPost_ret (results_four rfl _ _ _) rfl ?_
  have hB : Below w1.heap.size w1 (((w1.alloc (.cells #[.slice a1 n1 c1, .slice a2 n2 c2, .slice a3 n3 c3] 94)).alloc (.cells #[.int .i64 q.1, .int .i64 q.2] 96)).drewN n9) := ⟨rfl, rfl, rfl, by simp; omega, fun k hk => by show ((w1.alloc _).alloc _).heap[k]? = _; rw [Below.heap_alloc _ _ _ (by simp; omega), Below.heap_alloc _ _ _ hk]⟩
  exact ⟨rfl, hb1.trans (hB.mono hb1.size)⟩
 | ok σ =>
  rw [hp] at HR
  clear hp
  go_enter Tryz.func29, Tryz.ntmps29
  go_wp2_with (go_at_call 45; refine HR.out.mono ?_; intro e w1 hres; obtain ⟨fs, top, opn, fv, tv, ov, rfl, hR1, hσ, hb1⟩ := hres; obtain ⟨a1, n1, c1, rfl⟩ := own_sl hR1.fo; obtain ⟨a2, n2, c2, rfl⟩ := own_sl hR1.to; obtain ⟨a3, n3, c3, rfl⟩ := own_sl hR1.oo; have HR1 := hidI hR1; have HS := hidI hσ; clear HR hR1 hσ)
  go_quiet (fail)
  generalize nq = n9
  go_wp2
  refine bodyPost_ret (results_four rfl _ _ _) rfl ?_
  have hB : Below w1.heap.size w1 (((w1.alloc (.cells #[.slice a1 n1 c1, .slice a2 n2 c2, .slice a3 n3 c3] 94)).alloc (.cells #[.int .i64 0, .int .i64 0] 96)).drewN n9) := ⟨rfl, rfl, rfl, by simp; omega, fun k hk => by show ((w1.alloc _).alloc _).heap[k]? = _; rw [Below.heap_alloc _ _ _ (by simp; omega), Below.heap_alloc _ _ _ hk]⟩
  refine ⟨_, _, rfl, ?_, ?_, hb1.trans (hB.mono hb1.size)⟩
  ·rw [HS.out]; exact (HR1.out.sees).below hB
  ·rw [HS.out]; exact (zbA HR1.out.to).below hB (Nat.le_refl _)
structure Fm where
 k : Int
 s : ByteArray
 n : Int
 kids : List Int
 p : Int
abbrev MV := Fm × Value
def mcells (x : MV) : List Value := [.int .u8 x.1.k, .string x.1.s, .int .i64 x.1.n, x.2, .int .i64 x.1.p]
def flatM (l : List MV) : List Value := l.flatMap mcells
theorem flatM_get : ∀ (l : List MV) (j i : Nat) (x : MV), l[j]? = some x → i < 5 → (flatM l)[j * 5 + i]? = (mcells x)[i]?
 | [], _, _, _, h, _ => by simp at h
 | y :: r, 0, i, x, h, hi => by
  obtain rfl : y = x := by simpa using h
  simp only [flatM, List.flatMap_cons, Nat.zero_mul, Nat.zero_add]
  rw [List.getElem?_append_left (by simpa [mcells] using hi)]
 | y :: r, j + 1, i, x, h, hi => by
  have := flatM_get r j i x (by simpa using h) hi
  rw [← this]
  simp only [flatM, List.flatMap_cons]
  rw [List.getElem?_append_right (by simp [mcells]; omega)]
  congr 1
  simp [mcells]; omega
def intsI (l : List Int) : List Value := l.map fun n => Value.int .i64 n
theorem zcF {l : List Int} {j : Nat} {x : Int} (h : l[j]? = some x) : (intsI l)[j]? = some (.int .i64 x) := by simp [intsI, h]
structure SeesM (w : World) (v : Value) (ms : List MV) : Prop where
 row : SeesC w v ms.length 5 (flatM ms)
 kid : ∀ (i : Nat) (x : MV), ms[i]? = some x → SeesC w x.2 x.1.kids.length 1 (intsI x.1.kids)
theorem SeesM.below {w w' : World} {v : Value} {ms : List MV} {B : Nat} (h : SeesM w v ms) (hb : Below B w w') (hB : w.heap.size ≤ B) : SeesM w' v ms :=
 ⟨h.row.below hb hB, fun i x hx => (h.kid i x hx).below hb hB⟩
def toFm (f : Frm) : Fm := ⟨f.k, f.s, f.n, f.kids.map fun (n : Nat) => (n : Int), f.p⟩
theorem seesM_of {w : World} {v : Value} {l : List Frm} (h : SeesF w v l) : ∃ ms : List MV, ms.map Prod.fst = l.map toFm ∧ SeesM w v ms ∧ ∀ x ∈ ms, Roomy x.2 := by
 obtain ⟨fs, rfl, h1, h2⟩ := h
 have e1 : flatM (fs.map fun x => (toFm x.1, x.2)) = flatF fs := by
  unfold flatM flatF
  rw [List.flatMap_map]
  rfl
 refine ⟨fs.map fun x => (toFm x.1, x.2), by simp, ⟨?_, ?_⟩, fun x hx => ?_⟩
 ·rw [e1, List.length_map]; exact h1
 ·intro i x hx
  rw [List.getElem?_map] at hx
  cases hf : fs[i]? with
  | none => rw [hf] at hx; simp at hx
  | some y =>
   rw [hf] at hx
   simp only [Option.map_some, Option.some.injEq] at hx
   subst hx
   have := (h2 i y hf).1
   have e2 : intsI (toFm y.1).kids = ints y.1.kids := by simp [intsI, ints, toFm]
   show SeesC w y.2 (toFm y.1).kids.length 1 (intsI (toFm y.1).kids)
   rw [e2]
   simpa [toFm] using this
 ·obtain ⟨y, hy, rfl⟩ := List.mem_map.1 hx
  obtain ⟨i, hi⟩ := List.getElem?_of_mem hy
  exact (h2 i y hi).2
def kidsOf (ms : List MV) (p : Int) : List Int := match ms[p.toNat]? with | some x => x.1.kids | none => []
inductive WalkR (K : Int → List Int) (n : Int) : Int → Int → Int → List Int → Int → List (Int × Int) → Bool → Prop
 | done (told up own : Int) : WalkR K n told up own [] told [] true
 | skip {told up own p t' : Int} {r : List Int} {ys : List (Int × Int)} {ok : Bool} : (¬ (own < p ∧ p < n)) → WalkR K n told up own r t' ys ok → WalkR K n told up own (p :: r) t' ys ok
 | full {told up own p : Int} {r : List Int} : own < p → p < n → 400 < told → WalkR K n told up own (p :: r) told [] false
 | cut {told up own p t' : Int} {r : List Int} {ys : List (Int × Int)} : own < p → p < n → told ≤ 400 → WalkR K n (told + 1) told p (K p) t' ys false → WalkR K n told up own (p :: r) t' ((up, p) :: ys) false
 | more {told up own p t1 t' : Int} {r : List Int} {ys1 ys2 : List (Int × Int)} {ok : Bool} : own < p → p < n → told ≤ 400 → WalkR K n (told + 1) told p (K p) t1 ys1 true → WalkR K n t1 up own r t' ys2 ok → WalkR K n told up own (p :: r) t' ((up, p) :: (ys1 ++ ys2)) ok
theorem WalkR.told {K : Int → List Int} {n told up own t' : Int} {l : List Int} {ys : List (Int × Int)} {ok : Bool} (h : WalkR K n told up own l t' ys ok) : t' = told + ys.length := by
 induction h with
 | done => simp
 | skip _ _ ih => exact ih
 | full => simp
 | cut _ _ _ _ ih => rw [ih]; simp; omega
 | more _ _ _ _ _ ih1 ih2 => rw [ih2, ih1]; simp; omega
theorem WalkR.most {K : Int → List Int} {n told up own t' : Int} {l : List Int} {ys : List (Int × Int)} {ok : Bool} (h : WalkR K n told up own l t' ys ok) (h0 : told ≤ 401) : t' ≤ 401 := by
 induction h with
 | done => exact h0
 | skip _ _ ih => exact ih h0
 | full => exact h0
 | cut _ _ h4 _ ih => exact ih (by omega)
 | more _ _ h4 _ _ ih1 ih2 => exact ih2 (ih1 (by omega))
end Go.Proofs.YtmekkhfohmfjkaaGreatDoor
