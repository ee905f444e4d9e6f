/-
  A bracket that is open at the end, in whatever order; what end comes to.
-/
import Derived.Test.YtnlplkchkhibaaaDoorTake
namespace Go.Proofs.YtnlplkchkhibaaaDoor
open Go.RowKit Go.Deep Go.MapKept
def rr1 : Array Oper := #[{ dst := some 8, op := Op.move (Operand.tmp 0), type := 104, pos := "parse.go:83", after := #[], guard := none }, { dst := some 9, op := Op.nilCheck (Operand.tmp 8), type := 0, pos := "parse.go:83", after := #[{ on := 0, ground := Ground.data }], guard := none }, { dst := some 10, op := Op.fieldAddr 57 (Operand.tmp 9) 0, type := 0, pos := "parse.go:83", after := #[{ on := 1, ground := Ground.data }], guard := none }, { dst := some 11, op := Op.load 23 (Operand.tmp 10), type := 23, pos := "parse.go:83", after := #[{ on := 2, ground := Ground.data }], guard := none }, { dst := some 12, op := Op.move (Operand.tmp 0), type := 104, pos := "parse.go:83", after := #[], guard := none }, { dst := some 13, op := Op.call { callee := Callee.value (Operand.func 64), args := #[Operand.tmp 12], argTypes := #[104] }, type := 3, pos := "parse.go:83", after := #[{ on := 4, ground := Ground.data }], guard := none }, { dst := some 14, op := Op.indexAddr 23 (Operand.tmp 11) (Operand.tmp 13), type := 0, pos := "parse.go:83", after := #[{ on := 3, ground := Ground.data }, { on := 5, ground := Ground.data }], guard := none }, { dst := some 15, op := Op.fieldAddr 40 (Operand.tmp 14) 4, type := 0, pos := "parse.go:83", after := #[{ on := 6, ground := Ground.data }], guard := none }, { dst := some 16, op := Op.load 3 (Operand.tmp 15), type := 3, pos := "parse.go:83", after := #[{ on := 7, ground := Ground.data }], guard := none }, { dst := some 17, op := Op.build 59 #[(0, Operand.tmp 16), (1, Operand.const (Value.int IntKind.i64 8))], type := 59, pos := "parse.go:83", after := #[{ on := 8, ground := Ground.data }], guard := none }, { dst := some 18, op := Op.makeInterface 59 (Operand.tmp 17), type := 20, pos := "parse.go:83", after := #[{ on := 9, ground := Ground.data }], guard := none }, { dst := none, op := Op.panic (Operand.tmp 18), type := 0, pos := "parse.go:83", after := #[{ on := 10, ground := Ground.data }, { on := 5, ground := Ground.chain }], guard := none }]
theorem rr1_0 : rr1[0]? = some { dst := some 8, op := Op.move (Operand.tmp 0), type := 104, pos := "parse.go:83", after := #[], guard := none } := by kernel_rfl
theorem rr1_1 : rr1[1]? = some { dst := some 9, op := Op.nilCheck (Operand.tmp 8), type := 0, pos := "parse.go:83", after := #[{ on := 0, ground := Ground.data }], guard := none } := by kernel_rfl
theorem rr1_2 : rr1[2]? = some { dst := some 10, op := Op.fieldAddr 57 (Operand.tmp 9) 0, type := 0, pos := "parse.go:83", after := #[{ on := 1, ground := Ground.data }], guard := none } := by kernel_rfl
theorem rr1_3 : rr1[3]? = some { dst := some 11, op := Op.load 23 (Operand.tmp 10), type := 23, pos := "parse.go:83", after := #[{ on := 2, ground := Ground.data }], guard := none } := by kernel_rfl
theorem rr1_4 : rr1[4]? = some { dst := some 12, op := Op.move (Operand.tmp 0), type := 104, pos := "parse.go:83", after := #[], guard := none } := by kernel_rfl
theorem rr1_5 : rr1[5]? = some { dst := some 13, op := Op.call { callee := Callee.value (Operand.func 64), args := #[Operand.tmp 12], argTypes := #[104] }, type := 3, pos := "parse.go:83", after := #[{ on := 4, ground := Ground.data }], guard := none } := by kernel_rfl
theorem rr1_6 : rr1[6]? = some { dst := some 14, op := Op.indexAddr 23 (Operand.tmp 11) (Operand.tmp 13), type := 0, pos := "parse.go:83", after := #[{ on := 3, ground := Ground.data }, { on := 5, ground := Ground.data }], guard := none } := by kernel_rfl
theorem rr1_7 : rr1[7]? = some { dst := some 15, op := Op.fieldAddr 40 (Operand.tmp 14) 4, type := 0, pos := "parse.go:83", after := #[{ on := 6, ground := Ground.data }], guard := none } := by kernel_rfl
theorem rr1_8 : rr1[8]? = some { dst := some 16, op := Op.load 3 (Operand.tmp 15), type := 3, pos := "parse.go:83", after := #[{ on := 7, ground := Ground.data }], guard := none } := by kernel_rfl
theorem rr1_9 : rr1[9]? = some { dst := some 17, op := Op.build 59 #[(0, Operand.tmp 16), (1, Operand.const (Value.int IntKind.i64 8))], type := 59, pos := "parse.go:83", after := #[{ on := 8, ground := Ground.data }], guard := none } := by kernel_rfl
theorem rr1_10 : rr1[10]? = some { dst := some 18, op := Op.makeInterface 59 (Operand.tmp 17), type := 20, pos := "parse.go:83", after := #[{ on := 9, ground := Ground.data }], guard := none } := by kernel_rfl
theorem rr1_11 : rr1[11]? = some { dst := none, op := Op.panic (Operand.tmp 18), type := 0, pos := "parse.go:83", after := #[{ on := 10, ground := Ground.data }, { on := 5, ground := Ground.chain }], guard := none } := by kernel_rfl
set_option maxRecDepth 100000 in
set_option maxHeartbeats 2500000 in
theorem reg1e {x1 x2 x3 x4 x5 x6 x7 x8 x9 x10 x11 x12 x13 x14 x15 x16 x17 x18 : Value} {Q : Exit → Act → World → Prop} {V0 : World} {B ff fn fc b : Nat} {p : Int} (hS0 : V0.drew.cell? ⟨B, 0, none⟩ = some (.slice (some ⟨ff, 0, none⟩) fn fc) ∧ V0.drew.cell? ⟨ff, b * 5 + 4, none⟩ = some (.int .i64 p)) (hbn : b < fn)
    (hC : Calls Tryd.prog 64 #[.pointer (some ⟨B, 0, none⟩)] V0.drew fun e w' => e = .returned (.int .i64 (b : Int)) ∧ ∃ n, V0.drew.drewN n = w')
    (hpan : ∀ c (a : Act) w (dd : Tmp) vv, Q (.panic c) (a.put (some dd) vv) w → Q (.panic c) a w)
    (hQ : ∀ (a : Act) (n : Nat), a.defers = [] → Q (.panic (flt p 8)) a (V0.drew.drewN n)) :
    (Code.region 1 rr1 true).wp Tryd.prog Q { tmps := #[.pointer (some ⟨B, 0, none⟩), x1, x2, x3, x4, x5, x6, x7, x8, x9, x10, x11, x12, x13, x14, x15, x16, x17, x18], defers := [] } V0 := by
  refine wp_region_Z (fun y => y.cell? ⟨B, 0, none⟩ = some (.slice (some ⟨ff, 0, none⟩) fn fc) ∧ y.cell? ⟨ff, b * 5 + 4, none⟩ = some (.int .i64 p)) 11 Tryd.mixed ?_
  obtain ⟨V, hV⟩ : ∃ V, V0.drew = V := ⟨_, rfl⟩
  rw [hV] at hS0 hC hQ ⊢
  clear hV
  have HQ := hidI hQ
  have HC := hidI hC
  have HPan := hidI hpan
  have e2 : (b : Int) < (fn : Int) := by omega
  have e3 : (0 : Int) ≤ (b : Int) := by omega
  have e5 : ((b : Int)).toNat = b := by omega
  clear hQ hpan hC
  refine wpZ_take [1, 2, 3, 6, 7, 8, 9, 10, 11] (i := 0) (v := (.pointer (some ⟨B, 0, none⟩))) rr1_0 (by kernel_rfl) (by kernel_rfl) (by kernel_rfl) (by kernel_rfl) (fun c a w h => HPan.out c a w _ _ h) (.inl ⟨by rfl, fun y hy => ?_⟩) hS0 ?_
  · obtain ⟨hy0, hy1⟩ := hy
    go_simp
  refine wpZ_take [2, 3, 6, 7, 8, 9, 10, 11] (i := 1) (v := (.pointer (some ⟨B, 0, none⟩))) rr1_1 (by kernel_rfl) (by kernel_rfl) (by kernel_rfl) (by kernel_rfl) (fun c a w h => HPan.out c a w _ _ h) (.inl ⟨by rfl, fun y hy => ?_⟩) hS0 ?_
  · obtain ⟨hy0, hy1⟩ := hy
    go_simp
  refine wpZ_take [3, 6, 7, 8, 9, 10, 11] (i := 2) (v := (.pointer (some ⟨B, 0, none⟩))) rr1_2 (by kernel_rfl) (by kernel_rfl) (by kernel_rfl) (by kernel_rfl) (fun c a w h => HPan.out c a w _ _ h) (.inl ⟨by rfl, fun y hy => ?_⟩) hS0 ?_
  · obtain ⟨hy0, hy1⟩ := hy
    go_simp
  refine wpZ_take [6, 7, 8, 9, 10, 11] (i := 3) (v := (.slice (some ⟨ff, 0, none⟩) fn fc)) rr1_3 (by kernel_rfl) (by kernel_rfl) (by kernel_rfl) (by kernel_rfl) (fun c a w h => HPan.out c a w _ _ h) (.inl ⟨by rfl, fun y hy => ?_⟩) hS0 ?_
  · obtain ⟨hy0, hy1⟩ := hy
    go_simp
  refine wpZ_take [5, 6, 7, 8, 9, 10, 11] (i := 4) (v := (.pointer (some ⟨B, 0, none⟩))) rr1_4 (by kernel_rfl) (by kernel_rfl) (by kernel_rfl) (by kernel_rfl) (fun c a w h => HPan.out c a w _ _ h) (.inl ⟨by rfl, fun y hy => ?_⟩) hS0 ?_
  · obtain ⟨hy0, hy1⟩ := hy
    go_simp
  refine wpZ_all (rs := [5]) (by kernel_rfl) (by simp) fun j5 hj5 => ?_
  obtain rfl : j5 = 5 := by simpa using hj5
  refine wpOp_go rr1_5 rfl fun K1 hK1 => ?_
  unfold Oper.wp
  go_simp
  refine Calls.mono HC.out ?_
  rintro e W1 ⟨rfl, n1, rfl⟩
  go_simp
  have hS1 : (V.drewN n1).cell? ⟨B, 0, none⟩ = some (.slice (some ⟨ff, 0, none⟩) fn fc) ∧ (V.drewN n1).cell? ⟨ff, b * 5 + 4, none⟩ = some (.int .i64 p) := hS0
  refine hK1 _ _ ⟨fun _ => hS1, ?_⟩
  clear hK1 K1
  have hc1 := hS1.1
  have hc2 := hS1.2
  refine wpZ_all (rs := [6]) (by kernel_rfl) (by simp) fun j6 hj6 => ?_
  obtain rfl : j6 = 6 := by simpa using hj6
  refine wpOp_go rr1_6 rfl fun K1 hK1 => ?_
  unfold Oper.wp
  go_simp
  refine hK1 _ _ ⟨fun _ => hS1, ?_⟩
  clear hK1 K1
  refine wpZ_all (rs := [7]) (by kernel_rfl) (by simp) fun j7 hj7 => ?_
  obtain rfl : j7 = 7 := by simpa using hj7
  refine wpOp_go rr1_7 rfl fun K1 hK1 => ?_
  unfold Oper.wp
  go_simp
  refine hK1 _ _ ⟨fun _ => hS1, ?_⟩
  clear hK1 K1
  refine wpZ_all (rs := [8]) (by kernel_rfl) (by simp) fun j8 hj8 => ?_
  obtain rfl : j8 = 8 := by simpa using hj8
  refine wpOp_go rr1_8 rfl fun K1 hK1 => ?_
  unfold Oper.wp
  go_simp
  refine hK1 _ _ ⟨fun _ => hS1, ?_⟩
  clear hK1 K1
  refine wpZ_all (rs := [9]) (by kernel_rfl) (by simp) fun j9 hj9 => ?_
  obtain rfl : j9 = 9 := by simpa using hj9
  refine wpOp_go rr1_9 rfl fun K1 hK1 => ?_
  unfold Oper.wp
  go_simp
  refine hK1 _ _ ⟨fun _ => hS1, ?_⟩
  clear hK1 K1
  refine wpZ_all (rs := [10]) (by kernel_rfl) (by simp) fun j10 hj10 => ?_
  obtain rfl : j10 = 10 := by simpa using hj10
  refine wpOp_go rr1_10 rfl fun K1 hK1 => ?_
  unfold Oper.wp
  go_simp
  refine hK1 _ _ ⟨fun _ => hS1, ?_⟩
  clear hK1 K1
  refine wpZ_last (by kernel_rfl) (by kernel_rfl) ?_ _
  refine wpOp_go rr1_11 rfl fun K1 hK1 => ?_
  unfold Oper.wp
  go_simp
  exact HQ.out _ n1 rfl
def EndRes (w : World) (r : Except (Int × Int) St) (e : Ending) (w' : World) : Prop :=
  match r with
  | .error q => e = .panicked (flt q.1 q.2) ∧ ∃ n, w.drewN n = w'
  | .ok _ => e = .returned (.tuple #[]) ∧ w = w'
section
variable {w : World} {base B : Nat} {fs : List FV} {top opn : List Nat} {fv tv ov : Value}
theorem drew_drewN (w : World) (n : Nat) : w.drew.drewN n = w.drewN (1 + n) := by
  unfold World.drew World.drewN
  simp [Nat.add_assoc]
theorem end_any (h : RD w base B fs top opn fv tv ov) (hG : Good ⟨fs.map Prod.fst, top, opn⟩) :
    Calls Tryd.prog 46 #[.pointer (some ⟨B, 0, none⟩)] w fun e w' => EndRes w (finish ⟨fs.map Prod.fst, top, opn⟩) e w' := by
  unfold finish
  simp only
  have c2 := h.c2
  cases hb : opn.getLast? with
  | none =>
    obtain rfl : opn = [] := by simpa using hb
    obtain ⟨oa, oc, hov⟩ := own_slice h.oo
    rw [hov] at c2
    simp only [List.length_nil] at c2
    clear h hG hb hov
    go_enter Tryd.func46, Tryd.ntmps46
    go_wp2
    go_end0
    exact ⟨rfl, rfl⟩
  | some b =>
    have hbm : b ∈ opn := List.mem_of_getLast? hb
    have hbl := hG.open_lt b hbm
    simp only [List.length_map] at hbl
    have ho := hG.open_len
    simp only at ho
    have hol : 0 < opn.length := List.length_pos_of_mem hbm
    have hx : fs[b]? = some fs[b] := List.getElem?_eq_getElem hbl
    obtain ⟨oa, oc, hov⟩ := own_slice h.oo
    rw [hov] at c2
    obtain ⟨ff, fc, hfv, _, _⟩ := own_some h.fo (by omega)
    have hfo := h.fo
    have c0 := h.c0
    rw [hfv] at hfo c0
    have hp : atOf (fs.map Prod.fst) b = fs[b].1.p := by unfold atOf; rw [List.getElem?_map, hx]; rfl
    have hcp := own_cell hfo (j := b * 5 + 4) (u := .int .i64 fs[b].1.p) (by rw [flatF_get fs b 4 _ hx (by omega)]; rfl)
    show Calls Tryd.prog 46 #[.pointer (some ⟨B, 0, none⟩)] w fun e w' => EndRes w (.error (atOf (fs.map Prod.fst) b, 8)) e w'
    rw [hp]
    obtain ⟨p, hpp⟩ : ∃ p, fs[b].1.p = p := ⟨_, rfl⟩
    rw [hpp] at hcp ⊢
    have q1 : decide ((0 : Int) < (opn.length : Int)) = true := by simp; omega
    have HS := hidI (show w.drew.cell? ⟨B, 0, none⟩ = some (.slice (some ⟨ff, 0, none⟩) fs.length fc) ∧ w.drew.cell? ⟨ff, b * 5 + 4, none⟩ = some (.int .i64 p) from ⟨c0, hcp⟩)
    have HI := hidI (inner_any h.drew ho hb)
    have q2 : (0 : Int) < (opn.length : Int) := by omega
    clear h hG hb hov hfo hcp hpp hp hx hfv c0 hbm
    go_enter Tryd.func46, Tryd.ntmps46
    go_wp2
    refine reg1e HS.out hbl HI.out (fun _ _ _ _ _ h => h) ?_
    intro a n hd
    exact ⟨hd, rfl, 1 + n, (drew_drewN w n).symm⟩
end
end Go.Proofs.YtnlplkchkhibaaaDoor
