/-
  Part 6 of the proof: RowsP, Seqs, Reg8, AddT, AddK.
-/
import Derived.Test.YtmekkhfohmfjkaaGreatDoorTm05
import Derived.Test.YtmekkhfohmfjkaaGreatDoorTm02
import Derived.Maps.AppendAt
import Derived.Lib.SmallJoins
import Derived.WalkSpells
import Derived.WalkLawsBesides
import Derived.Deep.LoopGhost
import Derived.Lib.SliceRun
import Derived.Deep.RegionHeldLaw
import Derived.Deep.AppendLies
import Derived.Deep.RegionHeld3
namespace Go.Proofs.YtmekkhfohmfjkaaGreatDoor
open Go.RowKit Go.Deep Go.MapKept
structure RowsP (w : World) (base : Nat) (l : List Rw) : Prop where
 own : ∀ r ∈ l, Own w base r
 apart : l.Pairwise (fun a b => Ap a.v b.v)
theorem RowsP.perm {w : World} {base : Nat} {l m : List Rw} (h : RowsP w base l) (p : l.Perm m) : RowsP w base m :=
 ⟨fun r hr => h.own r (p.mem_iff.2 hr), (List.Perm.pairwise_iff (fun {_ _} h => Ap.symm h) p).1 h.apart⟩
theorem RowsP.head {w : World} {base : Nat} {r : Rw} {l : List Rw} (h : RowsP w base (r :: l)) : w.ownsRow base r.e r.size r.v r.n r.xs := h.own r (List.mem_cons_self)
theorem RowsP.rest {w : World} {base : Nat} {r : Rw} {l : List Rw} (h : RowsP w base (r :: l)) : RowsP w base l := ⟨fun x hx => h.own x (List.mem_cons_of_mem _ hx), (List.pairwise_cons.1 h.apart).2⟩
theorem RowsP.far_head {w : World} {base : Nat} {r : Rw} {l : List Rw} (h : RowsP w base (r :: l)) : ∀ x ∈ l, Ap r.v x.v := (List.pairwise_cons.1 h.apart).1
theorem RowsP.lt {w : World} {base : Nat} {l : List Rw} (h : RowsP w base l) {r : Rw} (hr : r ∈ l) {k : Nat} (hk : r.v.ownBlock = some k) : base ≤ k ∧ k < w.heap.size := (h.own r hr).lt k hk
theorem RowsP.far {w w' : World} {base : Nat} {l : List Rw} (h : RowsP w base l) {row : Option Nat} (hg : w.grownBy w' row) (hne : ∀ r ∈ l, r.v.ownBlock = none ∨ r.v.ownBlock ≠ row) : RowsP w' base l :=
 ⟨fun r hr => (h.own r hr).kept hg (hne r hr), h.apart⟩
theorem RowsP.alloc {w : World} {base : Nat} {l : List Rw} (h : RowsP w base l) (o : Obj) : RowsP (w.alloc o) base l := ⟨fun r hr => World.ownsRow.alloc (h.own r hr) o, h.apart⟩
theorem RowsP.drew {w : World} {base : Nat} {l : List Rw} (h : RowsP w base l) : RowsP w.drew base l := ⟨fun r hr => owns_drew (h.own r hr), h.apart⟩
theorem RowsP.below {w w' : World} {base : Nat} {l : List Rw} (h : RowsP w base l) (hb : Below w.heap.size w w') : RowsP w' base l := ⟨fun r hr => own_below (h.own r hr) hb (Nat.le_refl _), h.apart⟩
theorem RowsP.put {w w' : World} {base : Nat} {r r' : Rw} {l : List Rw} (h : RowsP w base (r :: l)) (hg : w.grownBy w' r.v.ownBlock) (ho : Own w' base r') (hb : r'.v.ownBlock = none ∨ r'.v.ownBlock = r.v.ownBlock ∨ r'.v.ownBlock = some w.heap.size) : RowsP w' base (r' :: l) := by
 have hap : ∀ x ∈ l, Ap r'.v x.v := by
  intro x hx
  rcases hb with e | e | e
  ·exact .inl e
  ·have := h.far_head x hx
   unfold Ap at this ⊢
   rw [e]; exact this
  ·refine .inr ?_
   rw [e]
   intro hk
   have := (h.lt (List.mem_cons_of_mem _ hx) hk.symm).2
   omega
 constructor
 ·intro x hx
  rcases List.mem_cons.1 hx with rfl | hx
  ·exact ho
  ·exact (h.own x (List.mem_cons_of_mem _ hx)).kept hg (Ap.symm (h.far_head x hx))
 ·exact List.pairwise_cons.2 ⟨hap, h.rest.apart⟩
theorem RowsP.setc {w : World} {base : Nat} {r : Rw} {l : List Rw} (h : RowsP w base (r :: l)) {g cap j : Nat} (hv : r.v = .slice (some ⟨g, 0, none⟩) r.n cap) (u : Value) : RowsP (w.setCell ⟨g, j, none⟩ u) base ({ r with xs := r.xs.set j u } :: l) := by
 have ho := h.head
 refine h.put (by rw [hv]; exact zbT w g j u) ?_ (.inr (.inl rfl))
 unfold Own
 show (w.setCell ⟨g, j, none⟩ u).ownsRow base r.e r.size r.v r.n (r.xs.set j u)
 rw [hv] at ho ⊢
 exact own_setG ho u
theorem RowsP.nil {w : World} {base : Nat} {l : List Rw} (h : RowsP w base l) (e size : Nat) : RowsP w base (⟨.slice none 0 0, e, size, 0, []⟩ :: l) :=
 ⟨fun r hr => by
  rcases List.mem_cons.1 hr with rfl | hr
  ·exact World.ownsRow_nil _ _ _ _
  ·exact h.own r hr, List.pairwise_cons.2 ⟨fun _ _ => .inl rfl, h.apart⟩⟩
theorem RowsP.add {w w' : World} {base : Nat} {l : List Rw} (h : RowsP w base l) {r : Rw} (hl : RowsP w' base l) (ho : Own w' base r) (hb : ∀ k, r.v.ownBlock = some k → w.heap.size ≤ k) : RowsP w' base (r :: l) :=
 ⟨fun x hx => by
  rcases List.mem_cons.1 hx with rfl | hx
  ·exact ho
  ·exact hl.own x hx, List.pairwise_cons.2 ⟨fun x hx => by
   cases hk : r.v.ownBlock with
   | none => exact .inl hk
   | some k =>
    refine .inr ?_
    rw [hk]
    intro e
    have := (h.lt hx e.symm).2
    have := hb k hk
    omega, hl.apart⟩⟩
theorem RowsP.sub {w : World} {base : Nat} {l m : List Rw} (h : RowsP w base l) (hs : m.Sublist l) : RowsP w base m := ⟨fun r hr => h.own r (hs.mem hr), h.apart.sublist hs⟩
theorem zaA {w : World} {base B e size n : Nat} {xs : List Value} {j : Nat} {u : Value} (h : w.ownsRow base e size (bx B) n xs) (hj : xs[j]? = some u) : w.cell? ⟨B, j, none⟩ = some u := by
 have := World.ownsRow.cells h (g := B) rfl j u hj
 rwa [show (⟨B, 0, none⟩ : Addr).add j = ⟨B, 0 + j, none⟩ from Addr.add_lit .., Nat.zero_add] at this
theorem zaQ {w : World} {base B e size : Nat} {xs : List Value} (h : w.ownsRow base e size (bx B) 1 xs) (j : Nat) : w.frozen? ⟨B, j, none⟩ = false := zcT h j
theorem zcK (w : World) (base e size : Nat) (xs : Array Value) (hb : base ≤ w.heap.size) (hs : xs.size = size) : (w.alloc (.cells xs e)).ownsRow base e size (bx w.heap.size) 1 xs.toList := by
 refine ⟨by simp [hs], .inr ⟨w.heap.size, 1, xs, rfl, hb, (MapKept.heap_alloc w _).1, Nat.le_refl _, ?_, ?_, ?_⟩⟩
 all_goals first | decide | omega | (rw [List.take_of_length_le (by simp [hs])])
open Go.RowKit Go.Shelf
attribute [local go_sem] Oper.semAt_some
def Keeps (T : Nat → Obj → Prop) (W W' : World) : Prop := W.heap.size ≤ W'.heap.size ∧ ∀ k o, T k o → W.heap[k]? = some o → W'.heap[k]? = some o
theorem Keeps.refl (T : Nat → Obj → Prop) (W : World) : Keeps T W W := ⟨Nat.le_refl _, fun _ _ _ h => h⟩
theorem Keeps.trans {T : Nat → Obj → Prop} {X Y Z : World} (h : Keeps T X Y) (k : Keeps T Y Z) : Keeps T X Z := ⟨Nat.le_trans h.1 k.1, fun i o ht hi => k.2 i o ht (h.2 i o ht hi)⟩
theorem Keeps.grown {T : Nat → Obj → Prop} {X Y : World} {row : Option Nat} (hg : X.grownBy Y row) (hr : ∀ k o, row = some k → X.heap[k]? = some o → ¬ T k o) : Keeps T X Y :=
 ⟨hg.size, fun k o ht hk => (hg.block k (Array.getElem?_eq_some_iff.1 hk).1 fun e => hr k o e.symm hk ht).trans hk⟩
theorem Keeps.alloc (T : Nat → Obj → Prop) (W : World) (o : Obj) : Keeps T W (W.alloc o) := Keeps.grown (World.grownBy_alloc W o none) fun _ _ e => by cases e
theorem Keeps.cell {T : Nat → Obj → Prop} {W W' : World} {p : Addr} {v : Value} (h : Keeps T W W') (ht : ∀ o, T p.block o) (hc : W.cell? p = some v) : W'.cell? p = some v := by
 obtain ⟨o, ho, _⟩ := cells_of_cell hc
 have := h.2 p.block o (ht o) ho
 unfold World.cell? at hc ⊢
 rw [this]; rw [ho] at hc; exact hc
theorem keeps_of_below {n : Nat} {T : Nat → Obj → Prop} {W W' : World} (h : Below n W W') (hT : ∀ k o, T k o → W.heap[k]? = some o → k < n) : Keeps T W W' :=
 ⟨h.size, fun k o ht hk => (h.block k (hT k o ht hk)).trans hk⟩
def Seq {α : Type} (g : Nat) (lb : Array Value) (encs : α → Array Value) (T : Nat → Obj → Prop) (S : List α → Prop) (R : List α → α → Prop) (w : World) : Prop :=
 ∀ (l : Nat) (J Jx : List α → World → Prop) (W : World), Below w.heap.size w W → OwnFrom W.heap.size J → OwnFrom W.heap.size Jx →
  (∀ pre x W1, J pre W1 → R pre x → YieldAt Fence.wide 0 Tryz.prog l (encs x) W1 fun e W' =>
   KeepsFrom W.heap.size W1 W' ∧ ((e = .returned (.bool true) ∧ J (pre ++ [x]) W' ∧ Keeps T W1 W') ∨ (e = .returned (.bool false) ∧ Jx (pre ++ [x]) W'))) →
  J [] W →
  CallsIn Fence.wide 0 Tryz.prog g (#[.func (.yield l) #[] #[]] ++ lb) W fun e W' => (∃ v, e = .returned v) ∧ ((∃ xs, S xs ∧ J xs W') ∨ (∃ pre, Jx pre W'))
theorem cell_al {W : World} {p : Addr} {v : Value} (o : Obj) (h : W.cell? p = some v) : (W.alloc o).cell? p = some v :=
 (((Below.refl _ W).alloc (Nat.le_refl _) o).cell (World.block_lt_of_cell? W _ h)).trans h
theorem Tryz.info115x : (Tryz.prog.info? 115).map (fun i => (i.zero, i.size, i.bytes)) = some (some (.agg #[.int .u8 0, .string ⟨#[]⟩, .int .i64 0, .slice none 0 0, .int .i64 0]), 5, 64) := by kernel_rfl
theorem form_seen {W : World} (f : Frm) : SeesC (W.alloc (.cells #[.int .u8 f.k, .string f.s, .int .i64 f.n, .slice none 0 0, .int .i64 f.p] 115)) (.slice (some ⟨W.heap.size, 0, none⟩) 1 1) 1 5 (fcells (f, .slice none 0 0)) := by
 refine ⟨rfl, _, 1, rfl, .inr ⟨W.heap.size, 0, rfl, fun j c hc => ?_⟩⟩
 have hj : j < 5 := by have := (List.getElem?_eq_some_iff.1 hc).1; simpa [fcells] using this
 have hm : j = 0 ∨ j = 1 ∨ j = 2 ∨ j = 3 ∨ j = 4 := by omega
 rcases hm with rfl | rfl | rfl | rfl | rfl <;> simp only [fcells, List.getElem?_cons_zero, List.getElem?_cons_succ, Option.some.injEq] at hc <;> subst hc <;> go_simp
theorem fcells_one (f : Frm) : ∀ c ∈ fcells (f, .slice none 0 0), c.oneCell' = true := by
 intro c hc
 simp only [fcells, List.mem_cons, List.mem_nil_iff, or_false] at hc
 rcases hc with rfl | rfl | rfl | rfl | rfl <;> rfl
def rr8 : Array Oper := #[⟨some 51, .move (.tmp 0), 202, "parse.go:75", #[], none⟩, ⟨some 52, .move (.tmp 0), 202, "parse.go:75", #[], none⟩, ⟨some 53, .nilCheck (.tmp 52), 0, "parse.go:75", #[⟨1, .data⟩], none⟩, ⟨some 54, .fieldAddr 94 (.tmp 53) 0, 0, "parse.go:75", #[⟨2, .data⟩], none⟩, ⟨some 55, .load 66 (.tmp 54), 66, "parse.go:75", #[⟨3, .data⟩], none⟩, ⟨some 56, .load 115 (.tmp 3), 115, "parse.go:75", #[], none⟩, ⟨some 57, .buildSlice 66 1 #[(0, .tmp 56)], 66, "parse.go:75", #[⟨5, .data⟩], none⟩, ⟨some 58, .call ⟨.builtin .append, #[.tmp 55, .tmp 57], #[66, 66]⟩, 66, "parse.go:75", #[⟨4, .data⟩, ⟨6, .data⟩], none⟩, ⟨some 59, .nilCheck (.tmp 51), 0, "parse.go:75", #[⟨0, .data⟩, ⟨0, .phase⟩, ⟨1, .phase⟩, ⟨2, .phase⟩, ⟨3, .phase⟩, ⟨4, .phase⟩, ⟨5, .phase⟩, ⟨6, .phase⟩, ⟨7, .phase⟩], none⟩, ⟨some 60, .fieldAddr 94 (.tmp 59) 0, 0, "parse.go:75", #[⟨8, .data⟩, ⟨0, .phase⟩, ⟨1, .phase⟩, ⟨2, .phase⟩, ⟨3, .phase⟩, ⟨4, .phase⟩, ⟨5, .phase⟩, ⟨6, .phase⟩, ⟨7, .phase⟩], none⟩, ⟨none, .store 66 (.tmp 60) (.tmp 58), 0, "parse.go:75", #[⟨9, .data⟩, ⟨7, .data⟩, ⟨7, .chain⟩, ⟨0, .phase⟩, ⟨1, .phase⟩, ⟨2, .phase⟩, ⟨3, .phase⟩, ⟨4, .phase⟩, ⟨5, .phase⟩, ⟨6, .phase⟩, ⟨7, .phase⟩], none⟩]
theorem rr8_0 : rr8[0]? = some ⟨some 51, .move (.tmp 0), 202, "parse.go:75", #[], none⟩ := by kernel_rfl
theorem rr8_1 : rr8[1]? = some ⟨some 52, .move (.tmp 0), 202, "parse.go:75", #[], none⟩ := by kernel_rfl
theorem rr8_2 : rr8[2]? = some ⟨some 53, .nilCheck (.tmp 52), 0, "parse.go:75", #[⟨1, .data⟩], none⟩ := by kernel_rfl
theorem rr8_3 : rr8[3]? = some ⟨some 54, .fieldAddr 94 (.tmp 53) 0, 0, "parse.go:75", #[⟨2, .data⟩], none⟩ := by kernel_rfl
theorem rr8_4 : rr8[4]? = some ⟨some 55, .load 66 (.tmp 54), 66, "parse.go:75", #[⟨3, .data⟩], none⟩ := by kernel_rfl
theorem rr8_5 : rr8[5]? = some ⟨some 56, .load 115 (.tmp 3), 115, "parse.go:75", #[], none⟩ := by kernel_rfl
theorem rr8_6 : rr8[6]? = some ⟨some 57, .buildSlice 66 1 #[(0, .tmp 56)], 66, "parse.go:75", #[⟨5, .data⟩], none⟩ := by kernel_rfl
theorem rr8_7 : rr8[7]? = some ⟨some 58, .call ⟨.builtin .append, #[.tmp 55, .tmp 57], #[66, 66]⟩, 66, "parse.go:75", #[⟨4, .data⟩, ⟨6, .data⟩], none⟩ := by kernel_rfl
theorem rr8_8 : rr8[8]? = some ⟨some 59, .nilCheck (.tmp 51), 0, "parse.go:75", #[⟨0, .data⟩, ⟨0, .phase⟩, ⟨1, .phase⟩, ⟨2, .phase⟩, ⟨3, .phase⟩, ⟨4, .phase⟩, ⟨5, .phase⟩, ⟨6, .phase⟩, ⟨7, .phase⟩], none⟩ := by kernel_rfl
theorem rr8_9 : rr8[9]? = some ⟨some 60, .fieldAddr 94 (.tmp 59) 0, 0, "parse.go:75", #[⟨8, .data⟩, ⟨0, .phase⟩, ⟨1, .phase⟩, ⟨2, .phase⟩, ⟨3, .phase⟩, ⟨4, .phase⟩, ⟨5, .phase⟩, ⟨6, .phase⟩, ⟨7, .phase⟩], none⟩ := by kernel_rfl
theorem rr8_10 : rr8[10]? = some ⟨none, .store 66 (.tmp 60) (.tmp 58), 0, "parse.go:75", #[⟨9, .data⟩, ⟨7, .data⟩, ⟨7, .chain⟩, ⟨0, .phase⟩, ⟨1, .phase⟩, ⟨2, .phase⟩, ⟨3, .phase⟩, ⟨4, .phase⟩, ⟨5, .phase⟩, ⟨6, .phase⟩, ⟨7, .phase⟩], none⟩ := by kernel_rfl
set_option maxRecDepth 100000 in
set_option maxHeartbeats 1500000 in
theorem reg8 {x1 x2 x4 x5 x6 x7 x8 x9 x10 x11 x12 x13 x14 x15 x16 x17 x18 x19 x20 x21 x22 x23 x24 x25 x26 x27 x28 x29 x30 x31 x32 x33 x34 x35 x36 x37 x38 x39 x40 x41 x42 x43 x44 x45 x46 x47 x48 x49 x50 x51 x52 x53 x54 x55 x56 x57 x58 x59 x60 x61 : Value} {Q : Exit → Act → World → Prop} {V0 : World} {B FB base : Nat} {fv : Value} {fs : List FV} {f : Frm}
  (hS0 : V0.drew.cell? ⟨B, 0, none⟩ = some fv ∧ V0.drew.cell? ⟨FB, 0, none⟩ = some (.int .u8 f.k) ∧ V0.drew.cell? ⟨FB, 1, none⟩ = some (.string f.s) ∧ V0.drew.cell? ⟨FB, 2, none⟩ = some (.int .i64 f.n) ∧ V0.drew.cell? ⟨FB, 3, none⟩ = some (.slice none 0 0) ∧ V0.drew.cell? ⟨FB, 4, none⟩ = some (.int .i64 f.p)) (hfz : V0.drew.frozen? ⟨B, 0, none⟩ = false) (hown : V0.drew.ownsRow base 115 5 fv fs.length (flatF fs)) (hr : fs.length ≤ 400) (hbase : base ≤ V0.drew.heap.size)
  (hg : fv.ownBlock ≠ some B) (hg2 : fv.ownBlock ≠ some FB)
  (hpan : ∀ c (a : Act) w (dd : Tmp) vv, Q (.panic c) (a.put (some dd) vv) w → Q (.panic c) a w)
  (hQ : ∀ (W5 : World) (u' : Value) (t51 t52 t53 t54 t55 t56 t57 t58 t59 t60 : Value), (V0.drew.alloc (.cells #[.int .u8 f.k, .string f.s, .int .i64 f.n, .slice none 0 0, .int .i64 f.p] 115)).grownBy W5 fv.ownBlock → W5.ownsRow base 115 5 u' (fs.length + 1) (flatF fs ++ fcells (f, .slice none 0 0)) → (u'.ownBlock = fv.ownBlock ∨ u'.ownBlock = some (V0.drew.heap.size + 1)) → Q .normal { tmps := #[.pointer (some ⟨B, 0, none⟩), x1, x2, .pointer (some ⟨FB, 0, none⟩), x4, x5, x6, x7, x8, x9, x10, x11, x12, x13, x14, x15, x16, x17, x18, x19, x20, x21, x22, x23, x24, x25, x26, x27, x28, x29, x30, x31, x32, x33, x34, x35, x36, x37, x38, x39, x40, x41, x42, x43, x44, x45, x46, x47, x48, x49, x50, t51, t52, t53, t54, t55, t56, t57, t58, t59, t60, x61], defers := [] } (W5.setCell ⟨B, 0, none⟩ u')) :
  (Code.region 8 rr8 true).wp Tryz.prog Q { tmps := #[.pointer (some ⟨B, 0, none⟩), x1, x2, .pointer (some ⟨FB, 0, none⟩), x4, x5, x6, x7, x8, x9, x10, x11, x12, x13, x14, x15, x16, x17, x18, x19, x20, x21, x22, x23, x24, x25, x26, x27, x28, x29, x30, x31, x32, x33, x34, x35, x36, x37, x38, x39, x40, x41, x42, x43, x44, x45, x46, x47, x48, x49, x50, x51, x52, x53, x54, x55, x56, x57, x58, x59, x60, x61], defers := [] } V0 := by
 refine zbC (fun y => y.cell? ⟨B, 0, none⟩ = some fv ∧ y.cell? ⟨FB, 0, none⟩ = some (.int .u8 f.k) ∧ y.cell? ⟨FB, 1, none⟩ = some (.string f.s) ∧ y.cell? ⟨FB, 2, none⟩ = some (.int .i64 f.n) ∧ y.cell? ⟨FB, 3, none⟩ = some (.slice none 0 0) ∧ y.cell? ⟨FB, 4, none⟩ = some (.int .i64 f.p)) 10 Tryz.mixed ?_
 obtain ⟨V, hV⟩ : ∃ V, V0.drew = V := ⟨_, rfl⟩
 rw [hV] at hS0 hfz hown hbase hQ ⊢
 clear hV
 have HOwn := hidI hown
 have HQ := hidI hQ
 have HPan := hidI hpan
 have hgl : B < V.heap.size := World.block_lt_of_cell? V _ hS0.1
 have hgl2 : FB < V.heap.size := World.block_lt_of_cell? V _ hS0.2.1
 have hu1 : ∃ ua ul uc, fv = .slice ua ul uc := by
  rcases hown.2 with ⟨rfl, _⟩ | ⟨_, _, _, rfl, _⟩ <;> exact ⟨_, _, _, rfl⟩
 obtain ⟨ua, ul, uc, rfl⟩ := hu1
 clear hown hQ hpan
 refine zaB [10] (i := 0) (v := (.pointer (some ⟨B, 0, none⟩))) rr8_0 (by kernel_rfl) (by kernel_rfl) (by kernel_rfl) (by kernel_rfl) (fun c a w h => HPan.out c a w _ _ h) (.inl ⟨by rfl, fun y hy => ?_⟩) hS0 ?_
 ·obtain ⟨hy0, hy1, hy2, hy3, hy4, hy5⟩ := hy
  go_simp
 refine zaB [10] (i := 1) (v := (.pointer (some ⟨B, 0, none⟩))) rr8_1 (by kernel_rfl) (by kernel_rfl) (by kernel_rfl) (by kernel_rfl) (fun c a w h => HPan.out c a w _ _ h) (.inl ⟨by rfl, fun y hy => ?_⟩) hS0 ?_
 ·obtain ⟨hy0, hy1, hy2, hy3, hy4, hy5⟩ := hy
  go_simp
 refine zaB [10] (i := 2) (v := (.pointer (some ⟨B, 0, none⟩))) rr8_2 (by kernel_rfl) (by kernel_rfl) (by kernel_rfl) (by kernel_rfl) (fun c a w h => HPan.out c a w _ _ h) (.inl ⟨by rfl, fun y hy => ?_⟩) hS0 ?_
 ·obtain ⟨hy0, hy1, hy2, hy3, hy4, hy5⟩ := hy
  go_simp
 refine zaB [10] (i := 3) (v := (.pointer (some ⟨B, 0, none⟩))) rr8_3 (by kernel_rfl) (by kernel_rfl) (by kernel_rfl) (by kernel_rfl) (fun c a w h => HPan.out c a w _ _ h) (.inl ⟨by rfl, fun y hy => ?_⟩) hS0 ?_
 ·obtain ⟨hy0, hy1, hy2, hy3, hy4, hy5⟩ := hy
  go_simp
 refine zaB [10] (i := 4) (v := (.slice ua ul uc)) rr8_4 (by kernel_rfl) (by kernel_rfl) (by kernel_rfl) (by kernel_rfl) (fun c a w h => HPan.out c a w _ _ h) (.inl ⟨by rfl, fun y hy => ?_⟩) hS0 ?_
 ·obtain ⟨hy0, hy1, hy2, hy3, hy4, hy5⟩ := hy
  go_simp
 refine zaB [10] (i := 5) (v := (.agg #[.int .u8 f.k, .string f.s, .int .i64 f.n, .slice none 0 0, .int .i64 f.p])) rr8_5 (by kernel_rfl) (by kernel_rfl) (by kernel_rfl) (by kernel_rfl) (fun c a w h => HPan.out c a w _ _ h) (.inl ⟨by rfl, fun y hy => ?_⟩) hS0 ?_
 ·obtain ⟨hy0, hy1, hy2, hy3, hy4, hy5⟩ := hy
  go_simp
 have HKS : Hid (∀ y : World, Below V.heap.size V y → y.cell? ⟨B, 0, none⟩ = some (.slice ua ul uc) ∧ y.cell? ⟨FB, 0, none⟩ = some (.int .u8 f.k) ∧ y.cell? ⟨FB, 1, none⟩ = some (.string f.s) ∧ y.cell? ⟨FB, 2, none⟩ = some (.int .i64 f.n) ∧ y.cell? ⟨FB, 3, none⟩ = some (.slice none 0 0) ∧ y.cell? ⟨FB, 4, none⟩ = some (.int .i64 f.p)) := hidI fun y hy => ⟨(hy.cell hgl).trans hS0.1, (hy.cell hgl2).trans hS0.2.1, (hy.cell hgl2).trans hS0.2.2.1, (hy.cell hgl2).trans hS0.2.2.2.1, (hy.cell hgl2).trans hS0.2.2.2.2.1, (hy.cell hgl2).trans hS0.2.2.2.2.2⟩
 clear hS0
 refine zaT (rs := [6]) (by kernel_rfl) (by simp) fun j6 hj6 => ?_
 obtain rfl : j6 = 6 := by simpa using hj6
 refine zaP rr8_6 rfl fun K1 hK1 => ?_
 unfold Oper.wp
 go_simp
 have hA : Below V.heap.size V (V.alloc (.cells #[.int .u8 f.k, .string f.s, .int .i64 f.n, .slice none 0 0, .int .i64 f.p] 115)) := by (repeat (first | exact Below.refl _ _ | assumption | refine Below.drew ?_ | refine Below.alloc ?_ (by first | omega | (simp; done) | (simp; omega)) _ | refine Below.setCell ?_ (by first | omega | (simp; done) | (simp; omega)) _))
 have hSA := HKS.out _ hA
 refine hK1 _ _ ⟨fun _ => hSA, ?_⟩
 clear hK1 K1
 have HO2 := hidI (HOwn.out.alloc (.cells #[.int .u8 f.k, .string f.s, .int .i64 f.n, .slice none 0 0, .int .i64 f.p] 115))
 have HV := hidI (form_seen (W := V) f)
 have hfA : (V.alloc (.cells #[.int .u8 f.k, .string f.s, .int .i64 f.n, .slice none 0 0, .int .i64 f.p] 115)).frozen? ⟨B, 0, none⟩ = false := (hA.frozen (p := ⟨B, 0, none⟩) hgl).trans hfz
 have hszA : (V.alloc (.cells #[.int .u8 f.k, .string f.s, .int .i64 f.n, .slice none 0 0, .int .i64 f.p] 115)).heap.size = V.heap.size + 1 := by simp
 obtain ⟨VA, hVA⟩ : ∃ VA, V.alloc (.cells #[.int .u8 f.k, .string f.s, .int .i64 f.n, .slice none 0 0, .int .i64 f.p] 115) = VA := ⟨_, rfl⟩
 rw [hVA] at HO2 HV hSA hfA hszA ⊢
 have HVA := hidI hVA
 clear hVA hA
 refine zaT (rs := [7]) (by kernel_rfl) (by simp) fun j7 hj7 => ?_
 obtain rfl : j7 = 7 := by simpa using hj7
 refine zaP rr8_7 rfl fun K1 hK1 => ?_
 refine zbF Tryz.underlying66 Tryz.info115x rfl (by decide) (by decide) _ _ rfl base _ fs.length (flatF fs) rfl HO2.out _ 1 (fcells (f, .slice none 0 0)) rfl HV.out (fcells_one f) (by omega) (by omega) ?_
 intro u' W5 hown5 hgrow5 hat5
 have HO5 := hidI hown5
 have HG5 := hidI hgrow5
 have HA5 := hidI hat5
 have hS5 : W5.cell? ⟨B, 0, none⟩ = some (.slice ua ul uc) ∧ W5.cell? ⟨FB, 0, none⟩ = some (.int .u8 f.k) ∧ W5.cell? ⟨FB, 1, none⟩ = some (.string f.s) ∧ W5.cell? ⟨FB, 2, none⟩ = some (.int .i64 f.n) ∧ W5.cell? ⟨FB, 3, none⟩ = some (.slice none 0 0) ∧ W5.cell? ⟨FB, 4, none⟩ = some (.int .i64 f.p) := ⟨hgrow5.cell hSA.1 (fun e => hg e.symm), hgrow5.cell hSA.2.1 (fun e => hg2 e.symm), hgrow5.cell hSA.2.2.1 (fun e => hg2 e.symm), hgrow5.cell hSA.2.2.2.1 (fun e => hg2 e.symm), hgrow5.cell hSA.2.2.2.2.1 (fun e => hg2 e.symm), hgrow5.cell hSA.2.2.2.2.2 (fun e => hg2 e.symm)⟩
 have hf5 : W5.frozen? ⟨B, 0, none⟩ = false := (World.frozen?_of_block (w := VA) (a := ⟨B, 0, none⟩) (hgrow5.block B (by omega) (fun e => hg e.symm))).trans hfA
 have hc5 := hS5.1
 obtain ⟨a6, l6, c6, hv6⟩ : ∃ a6 l6 c6, u' = .slice a6 l6 c6 := by
  rcases hown5.2 with ⟨rfl, _⟩ | ⟨_, _, _, rfl, _⟩ <;> exact ⟨_, _, _, rfl⟩
 subst hv6
 refine hK1 _ _ ⟨fun _ => hS5, ?_⟩
 clear hK1 K1 hown5 hgrow5 hat5 hSA
 refine zaT (rs := [8]) (by kernel_rfl) (by simp) fun j8 hj8 => ?_
 obtain rfl : j8 = 8 := by simpa using hj8
 refine zaP rr8_8 rfl fun K1 hK1 => ?_
 unfold Oper.wp
 go_simp
 refine hK1 _ _ ⟨fun _ => hS5, ?_⟩
 clear hK1 K1
 refine zaT (rs := [9]) (by kernel_rfl) (by simp) fun j9 hj9 => ?_
 obtain rfl : j9 = 9 := by simpa using hj9
 refine zaP rr8_9 rfl fun K1 hK1 => ?_
 unfold Oper.wp
 go_simp
 refine hK1 _ _ ⟨fun _ => hS5, ?_⟩
 clear hK1 K1
 refine zbJ (by kernel_rfl) (by kernel_rfl) ?_ _
 refine zaP rr8_10 rfl fun K1 hK1 => ?_
 unfold Oper.wp
 go_simp
 refine hK1 _ _ ?_
 exact HQ.out W5 _ _ _ _ _ _ _ _ _ _ _ (by rw [HVA.out]; exact HG5.out) HO5.out (by first | exact HA5.out | (rw [← hszA]; exact HA5.out))
theorem Tryz.info3x : (Tryz.prog.info? 3).map (fun i => (i.zero, i.size, i.bytes)) = some (some (.int .i64 0), 1, 8) := by kernel_rfl
theorem int_seen {W : World} (x : Int) : SeesC (W.alloc (.cells #[.int .i64 x] 3)) (.slice (some ⟨W.heap.size, 0, none⟩) 1 1) 1 1 [.int .i64 x] := by
 refine ⟨rfl, _, 1, rfl, .inr ⟨W.heap.size, 0, rfl, fun j c hc => ?_⟩⟩
 have hj : j < 1 := by have := (List.getElem?_eq_some_iff.1 hc).1; simpa using this
 obtain rfl : j = 0 := by omega
 simp only [List.getElem?_cons_zero, Option.some.injEq] at hc
 subst hc
 go_simp
theorem int_at {W : World} {b : Nat} (x : Int) (h : b = W.heap.size) : SeesC (W.alloc (.cells #[.int .i64 x] 3)) (.slice (some ⟨b, 0, none⟩) 1 1) 1 1 [.int .i64 x] := by subst h; exact int_seen x
abbrev flt (p e : Int) : List PanicEntry := [{ v := .iface 96 (.agg #[.int .i64 p, .int .i64 e]), recovered := false }]
section
variable {w : World} {base B : Nat} {fs : List FV} {top opn : List Nat} {fv tv ov : Value}
theorem add_full (h : RD w base B fs top opn fv tv ov) (hl : fs.length = 400) (f : Frm) :
  Calls Tryz.prog 113 #[.pointer (some ⟨B, 0, none⟩), .agg #[.int .u8 f.k, .string f.s, .int .i64 f.n, .slice none 0 0, .int .i64 f.p]] w fun e w' => e = .panicked (flt f.p 4) ∧ Below w.heap.size w w' := by
 obtain ⟨fa, fc, rfl⟩ := zaF h.fo
 have c0 := h.c0
 rw [hl] at c0
 have cA := cell_al (.cells #[.int .u8 f.k, .string f.s, .int .i64 f.n, .slice none 0 0, .int .i64 f.p] 115) c0
 clear h
 go_enter Tryz.func113, Tryz.ntmps113
 go_wp2
 exact ⟨rfl, rfl, by (repeat (first | exact Below.refl _ _ | assumption | refine Below.drew ?_ | refine Below.alloc ?_ (by first | omega | (simp; done) | (simp; omega)) _ | refine Below.setCell ?_ (by first | omega | (simp; done) | (simp; omega)) _))⟩
def AddPost (w : World) (base B : Nat) (fs : List FV) (top opn : List Nat) (fv tv ov : Value) (f : Frm) (w' : World) : Prop :=
 Chg (RB B fs top opn fv tv ov) w w' ∧ ∃ fs' top' fv' tv', RD w' base B fs' top' opn fv' tv' ov ∧ addF f ⟨fs.map Prod.fst, top, opn⟩ = ⟨fs'.map Prod.fst, top', opn⟩
set_option maxHeartbeats 1000000 in
theorem add_top (h : RD w base B fs top [] fv tv ov) (hl : fs.length < 400) (ht : top.length ≤ fs.length) (f : Frm) (hf : f.kids = []) :
  Calls Tryz.prog 113 #[.pointer (some ⟨B, 0, none⟩), .agg #[.int .u8 f.k, .string f.s, .int .i64 f.n, .slice none 0 0, .int .i64 f.p]] w fun e w' => e = .returned (.int .i64 (fs.length : Int)) ∧ AddPost w base B fs top [] fv tv ov f w' := by
 have HR := hidI (h.alloc (.cells #[.int .u8 f.k, .string f.s, .int .i64 f.n, .slice none 0 0, .int .i64 f.p] 115))
 have HR0 := hidI h
 have hlt := h.lt
 obtain ⟨oa, oc, rfl⟩ := zaF h.oo
 obtain ⟨fa, fc, rfl⟩ := zaF h.fo
 obtain ⟨ta, tc, rfl⟩ := zaF h.to
 have a0 := HR.out.c0
 have a1 := HR.out.c1
 have a2 := HR.out.c2
 simp only [List.length_nil] at a2
 have hne : ((fs.length : Int) == 400) = false := by rw [beq_eq_false_iff_ne]; omega
 have hne2 : ¬ fs.length = 400 := by omega
 clear h
 have HO := hidI ((HR.out.alloc (.cells #[.int .i64 (fs.length : Int)] 3)).to)
 have HV := hidI (int_at (W := w.alloc (.cells #[.int .u8 f.k, .string f.s, .int .i64 f.n, .slice none 0 0, .int .i64 f.p] 115)) (b := w.heap.size + 1) (fs.length : Int) (by simp))
 go_enter Tryz.func113, Tryz.ntmps113
 go_wp2_with (at_builtin; go_must (refine zcA Tryz.underlying45 Tryz.info3x rfl (by decide) (by decide) rfl _ _ rfl base (.slice ta top.length tc) top.length (ints top) rfl HO.out _ 1 [.int .i64 (fs.length : Int)] rfl HV.out (by simp [Value.oneCell']) (by omega) (by simp; omega) ?_); intro tv' w4 hown4 hgrow4 hat4; refine Hid.out ?_)
 have HRB := hidI (HR.out.alloc (.cells #[.int .i64 (fs.length : Int)] 3))
 obtain ⟨WB, hWB⟩ : ∃ WB, (w.alloc (.cells #[.int .u8 f.k, .string f.s, .int .i64 f.n, .slice none 0 0, .int .i64 f.p] 115)).alloc (.cells #[.int .i64 (fs.length : Int)] 3) = WB := ⟨_, rfl⟩
 have HWB := hidI hWB
 rw [hWB] at HRB hgrow4 hat4
 have HF : Hid (RowsOk WB base (rrows B fs top [] (.slice fa fs.length fc) (.slice ta top.length tc) (.slice oa ([] : List Nat).length oc))) := hidI HRB.out
 have hszB : WB.heap.size = w.heap.size + 2 := by rw [← hWB]; simp
 have hcB : ∀ j u, j < 5 → (#[.int .u8 f.k, .string f.s, .int .i64 f.n, .slice none 0 0, .int .i64 f.p] : Array Value)[j]? = some u → WB.cell? ⟨w.heap.size, j, none⟩ = some u := by
  intro j u hj hu
  rw [← hWB]
  refine cell_al _ ?_
  have hm : j = 0 ∨ j = 1 ∨ j = 2 ∨ j = 3 ∨ j = 4 := by omega
  rcases hm with rfl | rfl | rfl | rfl | rfl <;> simp at hu <;> subst hu <;> go_simp
 have hneB : Ap (bx B) (.slice ta top.length tc) := HRB.out.apart 0 2 _ _ rfl rfl (by omega)
 have h4 : RD (w4.setCell ⟨B, 1, none⟩ tv') base B fs (top ++ [fs.length]) [] (.slice fa fs.length fc) tv' (.slice oa ([] : List Nat).length oc) := by
  refine HRB.out.putT hgrow4 ?_ hat4
  rw [ints_append, List.length_append]; exact hown4
 have hB4 : w4.cell? ⟨B, 1, none⟩ = some (.slice ta top.length tc) := hgrow4.cell HRB.out.c1 (by rcases hneB with h | h; cases h; exact h)
 have hf4 : w4.frozen? ⟨B, 1, none⟩ = false := (World.frozen?_of_block (w := WB) (a := ⟨B, 1, none⟩) (hgrow4.block B (by rw [hszB]; omega) (by rcases hneB with h | h; cases h; exact h))).trans (HRB.out.free 1)
 have hlt4 := hown4.lt
 obtain ⟨va, vc, rfl⟩ := zaF hown4
 refine hidI ?_
 have HG4 := hidI hgrow4
 have HO4 := hidI hown4
 have HA4 := hidI hat4
 have H4 := hidI h4
 have hd5 := hcB
 clear hgrow4 hown4 hat4 h4 hWB hneB
 go_wp2
 have hfbt : Value.ownBlock (.slice ta top.length tc) ≠ some w.heap.size := fun e => by have := (HR0.out.to).lt _ e; omega
 have hfbf : Value.ownBlock (.slice fa fs.length fc) ≠ some w.heap.size := fun e => by have := (HR0.out.fo).lt _ e; omega
 have hBne : ¬ w.heap.size = B := by omega
 have hbx : ∀ j u, j < 5 → (#[.int .u8 f.k, .string f.s, .int .i64 f.n, .slice none 0 0, .int .i64 f.p] : Array Value)[j]? = some u → (w4.setCell ⟨B, 1, none⟩ (.slice va (top.length + 1) vc)).drew.cell? ⟨w.heap.size, j, none⟩ = some u := fun j u hj hu =>
  (World.cell?_of_block (w := w4) (Below.heap_setCell w4 ⟨B, 1, none⟩ _ w.heap.size hBne)).trans (HG4.out.cell (hcB j u hj hu) (Ne.symm hfbt))
 refine reg8 (fs := fs) (f := f) (base := base) (fv := .slice fa fs.length fc) (FB := w.heap.size) ⟨H4.out.drew.c0, hbx 0 _ (by omega) rfl, hbx 1 _ (by omega) rfl, hbx 2 _ (by omega) rfl, hbx 3 _ (by omega) rfl, hbx 4 _ (by omega) rfl⟩ (H4.out.drew.free 0) H4.out.drew.fo (by omega) (by have := H4.out.drew.lt; omega) (by rcases H4.out.drew.apart 0 1 _ _ rfl rfl (by omega) with h | h; cases h; exact Ne.symm h) hfbf (fun _ _ _ _ _ h => h) ?_
 intro W5 u' t51 t52 t53 t54 t55 t56 t57 t58 t59 t60 hg5 ho5 ha5
 go_wp2
 go_ret
 refine ⟨rfl, ?_, fs ++ [(f, .slice none 0 0)], top ++ [fs.length], u', _, (H4.out.drew.alloc _).putF hf hg5 ho5 (by simpa using ha5), by simp [addF]⟩
 have hR : ∀ (i : Nat) (r : Rw), (rrows B fs top [] (.slice fa fs.length fc) (.slice ta top.length tc) (.slice oa ([] : List Nat).length oc))[i]? = some r → ∀ k, r.v.ownBlock = some k → RB B fs top [] (.slice fa fs.length fc) (.slice ta top.length tc) (.slice oa ([] : List Nat).length oc) k := fun i r hr k hk => ⟨r, List.mem_of_getElem? hr, hk⟩
 have q := ((Chg.refl (RB B fs top [] (.slice fa fs.length fc) (.slice ta top.length tc) (.slice oa ([] : List Nat).length oc)) w).alloc (.cells #[.int .u8 f.k, .string f.s, .int .i64 f.n, .slice none 0 0, .int .i64 f.p] 115)).alloc (.cells #[.int .i64 (fs.length : Int)] 3)
 rw [HWB.out] at q
 exact ((((q.grown HG4.out (fun k e _ => hR 2 _ rfl k e)).setc (fun _ => hR 0 _ rfl B rfl)).drew.alloc _).grown hg5 (fun k e _ => hR 1 _ rfl k e)).setc (fun _ => hR 0 _ rfl B rfl)
end
section
variable {w : World} {base B : Nat} {fs : List FV} {top opn : List Nat} {fv tv ov : Value}
theorem addF_last {fs : List FV} {top opn : List Nat} {b : Nat} {x : FV} {kv kv2 : Value} (f : Frm) (hb : opn.getLast? = some b) (hx : fs[b]? = some x) :
  addF f ⟨fs.map Prod.fst, top, opn⟩ = ⟨(fs.set b (addKid fs.length x.1, kv) ++ [(f, kv2)]).map Prod.fst, top, opn⟩ := by
 unfold addF
 rw [hb]
 simp only [List.map_append, List.map_cons, List.map_nil, List.length_map, St.mk.injEq, and_true, List.append_cancel_right_eq]
 apply List.ext_getElem?
 intro i
 rw [List.getElem?_modify, List.map_set, List.getElem?_set, List.getElem?_map, List.length_map]
 have hbl : b < fs.length := (List.getElem?_eq_some_iff.1 hx).1
 by_cases hi : b = i
 ·subst hi
  obtain ⟨_, rfl⟩ := List.getElem?_eq_some_iff.1 hx
  simp [hbl]
 ·simp [hi]
theorem RD.drewN (h : RD w base B fs top opn fv tv ov) (n : Nat) : RD (w.drewN n) base B fs top opn fv tv ov := ⟨fun r hr => (h.own r hr : Own w base r), h.apart⟩
set_option maxHeartbeats 2000000 in
theorem add_kid (h : RD w base B fs top opn fv tv ov) (hl : fs.length < 400) (ho : opn.length ≤ 12) {b : Nat} (hb : opn.getLast? = some b) {x : FV} (hx : fs[b]? = some x) (hk : x.1.kids.length ≤ 400) (f : Frm) (hf : f.kids = []) :
  Calls Tryz.prog 113 #[.pointer (some ⟨B, 0, none⟩), .agg #[.int .u8 f.k, .string f.s, .int .i64 f.n, .slice none 0 0, .int .i64 f.p]] w fun e w' => e = .returned (.int .i64 (fs.length : Int)) ∧ AddPost w base B fs top opn fv tv ov f w' := by
 have HR := hidI (h.alloc (.cells #[.int .u8 f.k, .string f.s, .int .i64 f.n, .slice none 0 0, .int .i64 f.p] 115))
 have HR0 := hidI h
 have hlt := h.lt
 have hbl : b < fs.length := (List.getElem?_eq_some_iff.1 hx).1
 obtain ⟨oa, oc, rfl⟩ := zaF h.oo
 obtain ⟨ff, fc, rfl, hff, hff2⟩ := own_some h.fo (by omega)
 obtain ⟨ka, kc, hkv⟩ := zaF (h.ko hx)
 have hol : 0 < opn.length := by cases opn with | nil => simp at hb | cons _ _ => simp
 have a0 := HR.out.c0
 have a2 := HR.out.c2
 have hne : ((fs.length : Int) == 400) = false := by rw [beq_eq_false_iff_ne]; omega
 have hne2 : ¬ fs.length = 400 := by omega
 have hne3 : ((opn.length : Int) == 0) = false := by rw [beq_eq_false_iff_ne]; omega
 have hne4 : ¬ opn.length = 0 := by omega
 have e2 : (b : Int) < (fs.length : Int) := by omega
 have e3 : (0 : Int) ≤ (b : Int) := by omega
 have e5 : ((b : Int)).toNat = b := by omega
 have HI := hidI (fun n => inner_any (HR.out.drewN n) ho hb)
 clear h
 have hck : (w.alloc (.cells #[.int .u8 f.k, .string f.s, .int .i64 f.n, .slice none 0 0, .int .i64 f.p] 115)).cell? ⟨ff, b * 5 + 3, none⟩ = some (.slice ka x.1.kids.length kc) := by
  rw [← hkv]
  exact own_cell HR.out.fo (by rw [zcG fs b 3 x hx (by omega)]; rfl)
 go_enter Tryz.func113, Tryz.ntmps113
 go_wp2
 go_quiet ((go_at_call 114; exact Calls.quiet_of ((HI.out _).mono fun e w' h => ⟨h.1, h.2.imp fun _ e => e.symm⟩)))
 generalize nq = n1
 have HRD := hidI (HR.out.drewN n1)
 have hszD : ((w.alloc (.cells #[.int .u8 f.k, .string f.s, .int .i64 f.n, .slice none 0 0, .int .i64 f.p] 115)).drewN n1).heap.size = w.heap.size + 1 := by simp
 have hckD : ((w.alloc (.cells #[.int .u8 f.k, .string f.s, .int .i64 f.n, .slice none 0 0, .int .i64 f.p] 115)).drewN n1).cell? ⟨ff, b * 5 + 3, none⟩ = some (.slice ka x.1.kids.length kc) := hck
 have hcD : ∀ j u, j < 5 → (#[.int .u8 f.k, .string f.s, .int .i64 f.n, .slice none 0 0, .int .i64 f.p] : Array Value)[j]? = some u → ((w.alloc (.cells #[.int .u8 f.k, .string f.s, .int .i64 f.n, .slice none 0 0, .int .i64 f.p] 115)).drewN n1).cell? ⟨w.heap.size, j, none⟩ = some u := by
  intro j u hj hu
  show (w.alloc (.cells #[.int .u8 f.k, .string f.s, .int .i64 f.n, .slice none 0 0, .int .i64 f.p] 115)).cell? ⟨w.heap.size, j, none⟩ = some u
  have hm : j = 0 ∨ j = 1 ∨ j = 2 ∨ j = 3 ∨ j = 4 := by omega
  rcases hm with rfl | rfl | rfl | rfl | rfl <;> simp at hu <;> subst hu <;> go_simp
 have HQ0 := hidI (((Chg.refl (RB B fs top opn (.slice (some ⟨ff, 0, none⟩) fs.length fc) tv (.slice oa opn.length oc)) w).alloc (.cells #[.int .u8 f.k, .string f.s, .int .i64 f.n, .slice none 0 0, .int .i64 f.p] 115)))
 have HQ1 : Hid (Chg (RB B fs top opn (.slice (some ⟨ff, 0, none⟩) fs.length fc) tv (.slice oa opn.length oc)) w ((w.alloc (.cells #[.int .u8 f.k, .string f.s, .int .i64 f.n, .slice none 0 0, .int .i64 f.p] 115)).drewN n1)) := hidI ⟨HQ0.out.os, HQ0.out.tape, HQ0.out.output, HQ0.out.size, HQ0.out.block⟩
 clear a0 a2 hck
 obtain ⟨WD, hWD⟩ : ∃ WD, (w.alloc (.cells #[.int .u8 f.k, .string f.s, .int .i64 f.n, .slice none 0 0, .int .i64 f.p] 115)).drewN n1 = WD := ⟨_, rfl⟩
 rw [hWD] at HRD hszD hckD hcD HQ1 ⊢
 clear hWD HQ0 HI HR
 have HO := hidI (World.ownsRow.alloc (HRD.out.ko hx) (.cells #[.int .i64 (fs.length : Int)] 3))
 rw [hkv] at HO
 have HV := hidI (int_at (W := WD) (b := w.heap.size + 1) (fs.length : Int) hszD.symm)
 go_wp2_with (at_builtin; go_must (refine zcA Tryz.underlying45 Tryz.info3x rfl (by decide) (by decide) rfl _ _ rfl base (.slice ka x.1.kids.length kc) x.1.kids.length (ints x.1.kids) rfl HO.out _ 1 [.int .i64 (fs.length : Int)] rfl HV.out (by simp [Value.oneCell']) (by omega) (by simp; omega) ?_); intro kv' w4 hown4 hgrow4 hat4; refine Hid.out ?_)
 have HRB := hidI (HRD.out.alloc (.cells #[.int .i64 (fs.length : Int)] 3))
 have HQ2 := hidI (HQ1.out.alloc (.cells #[.int .i64 (fs.length : Int)] 3))
 have hcB : ∀ j u, j < 5 → (#[.int .u8 f.k, .string f.s, .int .i64 f.n, .slice none 0 0, .int .i64 f.p] : Array Value)[j]? = some u → (WD.alloc (.cells #[.int .i64 (fs.length : Int)] 3)).cell? ⟨w.heap.size, j, none⟩ = some u := fun j u hj hu => cell_al _ (hcD j u hj hu)
 have hckB := cell_al (.cells #[.int .i64 (fs.length : Int)] 3) hckD
 have hszB : (WD.alloc (.cells #[.int .i64 (fs.length : Int)] 3)).heap.size = w.heap.size + 2 := by simp [hszD]
 obtain ⟨WB, hWB⟩ : ∃ WB, WD.alloc (.cells #[.int .i64 (fs.length : Int)] 3) = WB := ⟨_, rfl⟩
 rw [hWB] at HRB hgrow4 hat4 hcB hszB HQ2 hckB
 have hgr : WB.grownBy w4 x.2.ownBlock := by rw [hkv]; exact hgrow4
 have hneF : Ap (.slice (some ⟨ff, 0, none⟩) fs.length fc) x.2 := HRB.out.apart 1 (b + 5) _ _ rfl (RD.kat hx) (by omega)
 have hneF' : some ff ≠ x.2.ownBlock := by rcases hneF with h | h; cases h; exact h
 have h4 : RD (w4.setCell ⟨ff, b * 5 + 3, none⟩ kv') base B (fs.set b (addKid fs.length x.1, kv')) top opn (.slice (some ⟨ff, 0, none⟩) fs.length fc) tv (.slice oa opn.length oc) :=
  HRB.out.putK hx rfl hgr hown4 (by rw [hkv]; exact hat4)
 have hB4 : w4.cell? ⟨ff, b * 5 + 3, none⟩ = some (.slice ka x.1.kids.length kc) := hgr.cell hckB hneF'
 have hf4 : w4.frozen? ⟨ff, b * 5 + 3, none⟩ = false := (World.frozen?_of_block (w := WB) (a := ⟨ff, b * 5 + 3, none⟩) (hgr.block ff (by rw [hszB]; omega) hneF')).trans (zcT HRB.out.fo _)
 have hfbk : x.2.ownBlock ≠ some w.heap.size := fun e => by have := (HR0.out.ko hx).lt _ e; omega
 have hfbf : Value.ownBlock (.slice (some ⟨ff, 0, none⟩) fs.length fc) ≠ some w.heap.size := fun e => by have := (HR0.out.fo).lt _ e; omega
 have hFne : ¬ w.heap.size = ff := by omega
 have hbx : ∀ j u, j < 5 → (#[.int .u8 f.k, .string f.s, .int .i64 f.n, .slice none 0 0, .int .i64 f.p] : Array Value)[j]? = some u → (w4.setCell ⟨ff, b * 5 + 3, none⟩ kv').drew.cell? ⟨w.heap.size, j, none⟩ = some u := fun j u hj hu =>
  (World.cell?_of_block (w := w4) (Below.heap_setCell w4 ⟨ff, b * 5 + 3, none⟩ _ w.heap.size hFne)).trans (hgr.cell (hcB j u hj hu) (Ne.symm hfbk))
 have hR : ∀ (i : Nat) (r : Rw), (rrows B fs top opn (.slice (some ⟨ff, 0, none⟩) fs.length fc) tv (.slice oa opn.length oc))[i]? = some r → ∀ k, r.v.ownBlock = some k → RB B fs top opn (.slice (some ⟨ff, 0, none⟩) fs.length fc) tv (.slice oa opn.length oc) k := fun i r hr k hk => ⟨r, List.mem_of_getElem? hr, hk⟩
 have HQ3 := hidI ((HQ2.out.grown hgr (fun k e _ => hR (b + 5) _ (RD.kat hx) k e)).setc (g := ff) (j := b * 5 + 3) (u := kv') (fun _ => hR 1 _ rfl ff rfl))
 have HRr := hidI hR
 have H4 := hidI h4
 have hlen : (fs.set b (addKid fs.length x.1, kv')).length = fs.length := by simp
 obtain ⟨va, vc, rfl⟩ := zaF hown4
 have HBX := hidI hbx
 refine hidI ?_
 clear hgrow4 hown4 hat4 h4 hWB hneF hgr hR hbx hcB hcD hckB hckD HQ2 HQ1 HRB HO HV
 go_wp2
 refine reg8 (fs := fs.set b (addKid fs.length x.1, .slice va (x.1.kids.length + 1) vc)) (f := f) (base := base) (fv := .slice (some ⟨ff, 0, none⟩) fs.length fc) (FB := w.heap.size) ⟨H4.out.drew.c0, HBX.out 0 _ (by omega) rfl, HBX.out 1 _ (by omega) rfl, HBX.out 2 _ (by omega) rfl, HBX.out 3 _ (by omega) rfl, HBX.out 4 _ (by omega) rfl⟩ (H4.out.drew.free 0) H4.out.drew.fo (by omega) (by have := H4.out.drew.lt; omega) (by rcases H4.out.drew.apart 0 1 _ _ rfl rfl (by omega) with h | h; cases h; exact Ne.symm h) hfbf (fun _ _ _ _ _ h => h) ?_
 intro W5 u' t51 t52 t53 t54 t55 t56 t57 t58 t59 t60 hg5 ho5 ha5
 go_wp2
 go_ret
 refine ⟨rfl, ?_, fs.set b (addKid fs.length x.1, .slice va (x.1.kids.length + 1) vc) ++ [(f, .slice none 0 0)], top, u', tv, (H4.out.drew.alloc _).putF hf hg5 ho5 (by simpa using ha5), addF_last f hb hx⟩
 exact ((HQ3.out.drew.alloc _).grown hg5 (fun k e _ => HRr.out 1 _ rfl k e)).setc (fun _ => HRr.out 0 _ rfl B rfl)
def AddRes (w : World) (base B : Nat) (fs : List FV) (top opn : List Nat) (fv tv ov : Value) (f : Frm) (e : Ending) (w' : World) : Prop :=
 if fs.length = 400 then e = .panicked (flt f.p 4) ∧ Below w.heap.size w w' else e = .returned (.int .i64 (fs.length : Int)) ∧ AddPost w base B fs top opn fv tv ov f w'
theorem add_any (h : RD w base B fs top opn fv tv ov) (hG : Good ⟨fs.map Prod.fst, top, opn⟩) (f : Frm) (hf : f.kids = []) :
  Calls Tryz.prog 113 #[.pointer (some ⟨B, 0, none⟩), .agg #[.int .u8 f.k, .string f.s, .int .i64 f.n, .slice none 0 0, .int .i64 f.p]] w fun e w' => AddRes w base B fs top opn fv tv ov f e w' := by
 have hlen := hG.len
 have htop := hG.top_len
 simp only [List.length_map] at hlen htop
 unfold AddRes
 by_cases hl : fs.length = 400
 ·refine (add_full h hl f).mono ?_
  intro e w' hh
  rw [if_pos hl]
  exact hh
 ·simp only [if_neg hl]
  cases hb : opn.getLast? with
  | none =>
   obtain rfl : opn = [] := by simpa using hb
   exact add_top h (by omega) htop f hf
  | some b =>
   have hbm : b ∈ opn := List.mem_of_getLast? hb
   have hbl := hG.open_lt b hbm
   simp only [List.length_map] at hbl
   have hx : fs[b]? = some fs[b] := List.getElem?_eq_getElem hbl
   have hk := hG.kid_len fs[b].1 (List.mem_map.2 ⟨fs[b], List.getElem_mem hbl, rfl⟩)
   simp only [List.length_map] at hk
   exact add_kid h (by omega) hG.open_len hb hx (by omega) f hf
end
end Go.Proofs.YtmekkhfohmfjkaaGreatDoor
