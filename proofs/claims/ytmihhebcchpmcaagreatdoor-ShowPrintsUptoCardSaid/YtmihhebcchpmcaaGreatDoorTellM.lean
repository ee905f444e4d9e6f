/-
  The text of a form: a function of the forms, of what stands ahead of a kid, of a place and of how many brackets are around it. Boxes that a builder leaves alone.
-/
import Derived.Test.YtmihhebcchpmcaaGreatDoorBuild
import Derived.Test.YtmihhebcchpmcaaGreatDoorSizeW
import Derived.Deep.RegionHeld3
namespace Go.Proofs.YtmihhebcchpmcaaGreatDoor
open Go.RowKit Go.Deep Go.MapKept
abbrev GapF := List Int → Nat → Nat → List UInt8
def txt (fs : List Fm) (gap : GapF) : Nat → Int → Nat → List UInt8
  | 0, _, _ => []
  | m + 1, a, d => match fs[a.toNat]? with
    | none => []
    | some f => if f.k = 1 then 40 :: (f.kids.zipIdx.flatMap (fun p => gap f.kids p.2 (d + 1) ++ txt fs gap m p.1 (d + 1)) ++ [41]) else if f.k = 3 then f.s.data.toList else if f.k = 4 then Lib.itoa f.n else []
def gapB : GapF := fun _ n _ => if n = 0 then [] else [32]
theorem txt_open {fs : List Fm} {gap : GapF} {m : Nat} {i : Nat} {d : Nat} {f : Fm} (h : fs[i]? = some f) (hk : f.k = 1) : txt fs gap (m + 1) (i : Int) d = 40 :: (f.kids.zipIdx.flatMap (fun p => gap f.kids p.2 (d + 1) ++ txt fs gap m p.1 (d + 1)) ++ [41]) := by
  simp [txt, h, hk]
theorem txt_name {fs : List Fm} {gap : GapF} {m : Nat} {i : Nat} {d : Nat} {f : Fm} (h : fs[i]? = some f) (hk : f.k = 3) : txt fs gap (m + 1) (i : Int) d = f.s.data.toList := by
  simp [txt, h, hk]
theorem txt_num {fs : List Fm} {gap : GapF} {m : Nat} {i : Nat} {d : Nat} {f : Fm} (h : fs[i]? = some f) (hk : f.k = 4) : txt fs gap (m + 1) (i : Int) d = Lib.itoa f.n := by
  simp [txt, h, hk]
theorem txt_none {fs : List Fm} {gap : GapF} {m : Nat} {i : Nat} {d : Nat} {f : Fm} (h : fs[i]? = some f) (h1 : ¬ f.k = 1) (h3 : ¬ f.k = 3) (h4 : ¬ f.k = 4) : txt fs gap (m + 1) (i : Int) d = [] := by
  simp [txt, h, h1, h3, h4]
/-- What the first i kids are told as. -/
def kidsT (fs : List Fm) (gap : GapF) (m d : Nat) (ks : List Int) (i : Nat) : List UInt8 := (ks.zipIdx.take i).flatMap (fun p => gap ks p.2 (d + 1) ++ txt fs gap m p.1 (d + 1))
theorem kidsT_zero (fs : List Fm) (gap : GapF) (m d : Nat) (ks : List Int) : kidsT fs gap m d ks 0 = [] := by simp [kidsT]
theorem kidsT_all (fs : List Fm) (gap : GapF) (m d : Nat) (ks : List Int) : kidsT fs gap m d ks ks.length = ks.zipIdx.flatMap (fun p => gap ks p.2 (d + 1) ++ txt fs gap m p.1 (d + 1)) := by
  unfold kidsT
  rw [List.take_of_length_le (by simp)]
theorem kidsT_succ {fs : List Fm} {gap : GapF} {m d : Nat} {ks : List Int} {i : Nat} {c : Int} (h : ks[i]? = some c) : kidsT fs gap m d ks (i + 1) = kidsT fs gap m d ks i ++ (gap ks i (d + 1) ++ txt fs gap m c (d + 1)) := by
  unfold kidsT
  rw [List.take_add_one, List.flatMap_append]
  congr 1
  simp [List.getElem?_zipIdx, h]
theorem kidsT_le (fs : List Fm) (gap : GapF) (m d : Nat) (ks : List Int) (i : Nat) : (kidsT fs gap m d ks i).length ≤ (ks.zipIdx.flatMap (fun p => gap ks p.2 (d + 1) ++ txt fs gap m p.1 (d + 1))).length := by
  unfold kidsT
  conv => rhs; rw [← List.take_append_drop i ks.zipIdx, List.flatMap_append, List.length_append]
  omega
/-- One cell in a block of its own. -/
def BoxH (w : World) (k : Nat) (t : TypeId) (v : Value) : Prop := w.heap[k]? = some (.cells #[v] t (0, 0))
theorem BoxH.cell {w : World} {k : Nat} {t : TypeId} {v : Value} (h : BoxH w k t v) : w.cell? ⟨k, 0, none⟩ = some v := by rw [Lib.cell_of_heap h]; rfl
theorem BoxH.lt {w : World} {k : Nat} {t : TypeId} {v : Value} (h : BoxH w k t v) : k < w.heap.size := (Array.getElem?_eq_some_iff.1 h).1
theorem BoxH.kept {w w' : World} {k b : Nat} {t : TypeId} {v : Value} (h : BoxH w k t v) (hk : Lib.OthersKept 5 (some b) w w') (hb : k ≠ b) (ht : t ≠ 5) : BoxH w' k t v :=
  hk k _ h (by simpa using hb) (fun c fz e => ht (by cases e; rfl))
theorem BoxH.below {w w' : World} {k B : Nat} {t : TypeId} {v : Value} (h : BoxH w k t v) (hb : Below B w w') (hk : k < B) : BoxH w' k t v := (hb.block k hk).trans h
theorem BoxH.alloc {w : World} {k : Nat} {t : TypeId} {v : Value} (h : BoxH w k t v) (o : Obj) : BoxH (w.alloc o) k t v := (Lib.alloc_old w o k h.lt).trans h
theorem BoxH.new (w : World) (t : TypeId) (v : Value) : BoxH (w.alloc (.cells #[v] t)) w.heap.size t v := by unfold BoxH; show (w.heap.push _)[w.heap.size]? = _; simp
theorem kept_high {e : TypeId} {b : Option Nat} {a w : World} (h : Lib.OthersKept e b a w) {p : Addr} (hp : a.heap.size ≤ p.block) (v : Value) : Lib.OthersKept e b a (w.setCell p v) := by
  intro k x hk hb hx
  have h1 := h k x hk hb hx
  have hlt : k < a.heap.size := (Array.getElem?_eq_some_iff.1 hk).1
  rw [Below.heap_setCell _ _ _ _ (by omega)]
  exact h1
end Go.Proofs.YtmihhebcchpmcaaGreatDoor
/-
  teller: the form at a place is put behind a builder's text, piece by piece.
-/
namespace Go.Proofs.YtmihhebcchpmcaaGreatDoor
open Go.RowKit Go.Deep Go.MapKept
abbrev fnPut (Bx : Nat) : Value := .func (.func 44) #[] #[.pointer (some ⟨Bx, 0, none⟩)]
abbrev fnTell (Bl Bp Bg Bt : Nat) : Value := .func (.func 42) #[] #[.pointer (some ⟨Bl, 0, none⟩), .pointer (some ⟨Bp, 0, none⟩), .pointer (some ⟨Bg, 0, none⟩), .pointer (some ⟨Bt, 0, none⟩)]
/-- The builder's text is longer by m; nothing else that was there is changed. -/
def Wr (B b : Nat) (l m : List UInt8) (w w' : World) : Prop := BldF B b (l ++ m) w' ∧ Below B w w' ∧ Lib.OthersKept 5 (some b) w w'
theorem Wr.trans {B b : Nat} {l m m' : List UInt8} {w w' w'' : World} (h : Wr B b l m w w') (h' : Wr B b (l ++ m) m' w' w'') : Wr B b l (m ++ m') w w'' :=
  ⟨by rw [← List.append_assoc]; exact h'.1, h.2.1.trans h'.2.1, h.2.2.trans h'.2.2⟩
theorem put_any (B b Bx : Nat) (l : List UInt8) (s : ByteArray) (w : World) (hx : BoxH w Bx 40 (.pointer (some ⟨b, 0, none⟩))) (h : BldF B b l w) (hlen : l.length + s.data.toList.length ≤ 140737488355328) (hBw : B ≤ w.heap.size) :
    Calls Tryz.prog 44 #[.string s, .pointer (some ⟨Bx, 0, none⟩)] w fun e w' => e = .returned (.tuple #[]) ∧ Wr B b l s.data.toList w w' := by
  have HW := hidI (write_any B b l s.data.toList w h hlen hBw)
  have hs : (⟨s.data.toList.toArray⟩ : ByteArray) = s := by cases s; simp
  rw [hs] at HW
  have c0 := hx.cell
  clear hx h hs
  go_enter Tryz.func44, Tryz.ntmps44
  go_wp2_with (go_at_call 45; refine HW.out.mono ?_; rintro e w1 ⟨⟨n, rfl⟩, h1, h2, h3⟩; have H1 := hidI h1; have H2 := hidI h2; have H3 := hidI h3; clear h1 h2 h3)
  go_end0
  exact ⟨rfl, H1.out, H2.out, H3.out⟩
theorem blanks_any (kv : Value) (n : Nat) (d : Int) (w : World) : Calls Tryz.prog 20 #[kv, .int .i64 (n : Int), .int .i64 d] w fun e w' => e = .returned (.string ⟨(gapB [] n 0).toArray⟩) ∧ w = w' := by
  by_cases h : n = 0
  · subst h
    go_enter Tryz.func20, Tryz.ntmps20
    go_wp2
    go_ret
    exact ⟨rfl, rfl⟩
  · have e1 : ((n : Int) == 0) = false := by rw [beq_eq_false_iff_ne]; omega
    have e2 : ¬ (n : Int) = 0 := by omega
    have e3 : gapB [] n 0 = [32] := by simp [gapB, h]
    rw [e3]
    go_enter Tryz.func20, Tryz.ntmps20
    go_wp2
    go_ret
    exact ⟨rfl, rfl⟩
end Go.Proofs.YtmihhebcchpmcaaGreatDoor
/-
  What the closures of show lie on: boxes, a form of its own, a builder behind calls that leave it alone.
-/
namespace Go.Proofs.YtmihhebcchpmcaaGreatDoor
open Go.RowKit Go.Deep Go.MapKept
/-- Is the form at a place a bracket? -/
def isOp (fs : List Fm) (k : Int) : Bool := match fs[k.toNat]? with
  | some f => f.k == 1
  | none => false
def gapL (fs : List Fm) : GapF := fun ks n d => if (ks.take (n + 1)).any (isOp fs) then 10 :: List.replicate (2 * d) 32 else gapB ks n d
/-- The boxes of teller's closure. -/
structure TEnv (w : World) (fv gv : Value) (Bl Bp Bg Bt Bx b : Nat) : Prop where
  l : BoxH w Bl 22 fv
  p : BoxH w Bp 46 (fnPut Bx)
  g : BoxH w Bg 50 gv
  t : BoxH w Bt 44 (fnTell Bl Bp Bg Bt)
  x : BoxH w Bx 40 (.pointer (some ⟨b, 0, none⟩))
  ne : Bl ≠ b ∧ Bp ≠ b ∧ Bg ≠ b ∧ Bt ≠ b ∧ Bx ≠ b
theorem TEnv.kept {w w' : World} {fv gv : Value} {Bl Bp Bg Bt Bx b : Nat} (h : TEnv w fv gv Bl Bp Bg Bt Bx b) (hk : Lib.OthersKept 5 (some b) w w') : TEnv w' fv gv Bl Bp Bg Bt Bx b :=
  ⟨h.l.kept hk h.ne.1 (by decide), h.p.kept hk h.ne.2.1 (by decide), h.g.kept hk h.ne.2.2.1 (by decide), h.t.kept hk h.ne.2.2.2.1 (by decide), h.x.kept hk h.ne.2.2.2.2 (by decide), h.ne⟩
/-- Forms that can be told: kids of a bracket stand behind it. -/
structure Tellable (ms : List MV) : Prop where
  kid : ∀ (i : Nat) (x : MV), ms[i]? = some x → x.1.k = 1 → ∀ c ∈ x.1.kids, (i : Int) < c ∧ c < (ms.length : Int)
  num : ∀ x ∈ ms, In64 x.1.n
  few : ∀ x ∈ ms, x.1.kids.length ≤ 4611686018427387904
abbrev formsOf (ms : List MV) : List Fm := ms.map Prod.fst
theorem forms_at {ms : List MV} {i : Nat} {x : MV} (h : ms[i]? = some x) : (formsOf ms)[i]? = some x.1 := by simp [formsOf, h]
/-- The form's own block, as it is while its kids are told. -/
def FormH (w : World) (k : Nat) (x : Fm) (kv : Value) : Prop := w.heap[k]? = some (.cells #[.int .u8 x.k, .string x.s, .int .i64 x.n, kv, .int .i64 x.p] 56 (0, 0))
theorem FormH.kept {w w' : World} {k b : Nat} {x : Fm} {kv : Value} (h : FormH w k x kv) (hk : Lib.OthersKept 5 (some b) w w') (hb : k ≠ b) : FormH w' k x kv :=
  hk k _ h (by simpa using hb) (fun c fz e => by cases e)
theorem FormH.below {w w' : World} {k B : Nat} {x : Fm} {kv : Value} (h : FormH w k x kv) (hb : Below B w w') (hk : k < B) : FormH w' k x kv := (hb.block k hk).trans h
theorem FormH.cell {w : World} {k : Nat} {x : Fm} {kv : Value} (h : FormH w k x kv) : w.cell? ⟨k, 0, none⟩ = some (.int .u8 x.k) ∧ w.cell? ⟨k, 1, none⟩ = some (.string x.s) ∧ w.cell? ⟨k, 2, none⟩ = some (.int .i64 x.n) ∧ w.cell? ⟨k, 3, none⟩ = some kv := by
  refine ⟨?_, ?_, ?_, ?_⟩ <;> (rw [Lib.cell_of_heap h]; rfl)
theorem bld_lt {B b : Nat} {l : List UInt8} {w : World} (h : BldF B b l w) : b < w.heap.size := by
  rcases h with ⟨_, v, h, _⟩ | ⟨_, v, h, _⟩ <;> exact (Array.getElem?_eq_some_iff.1 h).1
theorem bld_base {B b : Nat} {l : List UInt8} {w : World} (h : BldF B b l w) : B ≤ b := by
  rcases h with ⟨h, _⟩ | ⟨h, _⟩ <;> exact h
theorem TEnv.alloc {w : World} {fv gv : Value} {Bl Bp Bg Bt Bx b : Nat} (h : TEnv w fv gv Bl Bp Bg Bt Bx b) (o : Obj) : TEnv (w.alloc o) fv gv Bl Bp Bg Bt Bx b :=
  ⟨h.l.alloc _, h.p.alloc _, h.g.alloc _, h.t.alloc _, h.x.alloc _, h.ne⟩
theorem TEnv.low {w w' : World} {fv gv : Value} {Bl Bp Bg Bt Bx b : Nat} (h : TEnv w fv gv Bl Bp Bg Bt Bx b) (hb : Below w.heap.size w w') : TEnv w' fv gv Bl Bp Bg Bt Bx b :=
  ⟨h.l.below hb h.l.lt, h.p.below hb h.p.lt, h.g.below hb h.g.lt, h.t.below hb h.t.lt, h.x.below hb h.x.lt, h.ne⟩
theorem at_low {B b : Nat} {p : Value} {bs : List Value} {w w' : World} (h : Lib.BuilderAtF 43 5 B b p bs w) (hb : Below w.heap.size w w') : Lib.BuilderAtF 43 5 B b p bs w' := by
  have hlt := h.lt
  obtain ⟨h1, v, h2, h3, h4⟩ := h
  exact ⟨h1, v, (hb.block b hlt).trans h2, h3.kept (row := none) ⟨hb.os, hb.tape, hb.output, hb.size, fun k hk _ => hb.block k hk⟩ (by cases hv : v.ownBlock <;> simp), h4⟩
theorem bld_low {B b : Nat} {l : List UInt8} {w w' : World} (h : BldF B b l w) (hb : Below w.heap.size w w') : BldF B b l w' := h.imp (at_low · hb) (at_low · hb)
theorem undrew {B : Nat} {w w' : World} (h : Below B w.drew w') : Below B w w' := ⟨h.os, h.tape, h.output, h.size, h.block⟩
theorem kept_low {e : TypeId} {b : Option Nat} {w w' : World} (hb : Below w.heap.size w w') : Lib.OthersKept e b w w' := fun k _ hk _ _ => (hb.block k (Array.getElem?_eq_some_iff.1 hk).1).trans hk
end Go.Proofs.YtmihhebcchpmcaaGreatDoor
