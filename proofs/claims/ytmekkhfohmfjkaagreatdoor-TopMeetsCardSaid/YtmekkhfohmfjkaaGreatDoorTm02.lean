/-
  Part 2 of the proof: TlM, Zed, Round, PShape.
-/
import Derived.Test.YtmekkhfohmfjkaaGreatDoorTm01
import Derived.Test.YtmekkhfohmfjkaaGreatDoorProg
import Derived.OrdersHeld
import Derived.Deep.RegionHeld3
import Derived.Test.YtmekkhfohmfjkaaGreatDoorChecked
import Derived.RangeFuncNested
import Derived.RangeFuncBound
import Derived.RangeFuncCalls
import Derived.RangeFuncLeaves
import Derived.Shelf.Abstract
import Derived.Shelf.RegionOpen
import Derived.WalkKit
import Derived.OwnWalkIn
import Derived.TacticsInMore
import Derived.LoopNIn
import Derived.LoopIn
import Derived.BigQuiet
import Derived.Test.YtmekkhfohmfjkaaGreatDoorTm00
import Derived.Carry
import Derived.OneCell
import Derived.OwnWalk
import Derived.Deep.DeepMust
import Derived.Deep.LoopGhost
import Derived.Deep.OwnRows
import Derived.Deep.AppendLies
import Derived.Laws.MakeOwn
import Derived.Laws.ResultCell
import Derived.Laws.StructEq
import Derived.Lib.SmallJoins
import Derived.Lib.SliceRun
import Derived.Lib.QuietBelow
import Derived.Maps.OwnRows
namespace Go.Proofs.YtmekkhfohmfjkaaGreatDoor
open Go.RowKit Go.Deep Go.MapKept
structure TS where
 x : Nat
 s : Nat
 f : Nat
 d : Nat
 ts : List Tok
abbrev TM := TS → Option TS
def opW (o : Nat) : ByteArray := if o = 0 then emptyS else opWs.getD (o - 1) emptyS
def stmtW : Nat → ByteArray
 | 1 => ⟨#[115, 101, 116]⟩ | 2 => ⟨#[102, 111, 108, 100]⟩ | 3 => ⟨#[101, 97, 99, 104]⟩ | 4 => ⟨#[105, 102]⟩ | 5 => ⟨#[119, 104, 105, 108, 101]⟩ | 6 => ⟨#[108, 111, 111, 112]⟩ | 7 => ⟨#[98, 102, 115]⟩ | _ => ⟨#[]⟩
def actW : Nat → ByteArray
 | 1 => ⟨#[112, 117, 116]⟩ | 2 => ⟨#[112, 117, 115, 104]⟩ | 3 => ⟨#[112, 117, 108, 108]⟩ | _ => ⟨#[]⟩
def exprW : Nat → ByteArray
 | 3 => ⟨#[111, 119, 110]⟩ | 4 => ⟨#[102, 97, 114]⟩ | 5 => ⟨#[118, 105, 97]⟩ | 6 => ⟨#[105, 100]⟩ | 7 => ⟨#[102, 97, 114, 105, 100]⟩ | 8 => ⟨#[100, 101, 103]⟩ | 9 => ⟨#[99, 111, 117, 110, 116]⟩ | _ => ⟨#[]⟩
def declW (sd kd : Nat) : ByteArray :=
 if sd = 1 ∧ kd = 1 then ⟨#[105, 110, 116]⟩ else if sd = 1 ∧ kd = 2 then ⟨#[98, 111, 111, 108]⟩ else if sd = 2 ∧ kd = 1 then ⟨#[110, 105, 110, 116]⟩ else if sd = 2 ∧ kd = 2 then ⟨#[110, 98, 111, 111, 108]⟩ else if sd = 3 ∧ kd = 1 then ⟨#[101, 105, 110, 116]⟩ else if sd = 3 ∧ kd = 2 then ⟨#[101, 98, 111, 111, 108]⟩ else ⟨#[]⟩
def declS (sd kd : Nat) : List Nat := if declW sd kd = (⟨#[]⟩ : ByteArray) then [] else [110]
def wayW (b : Bool) : ByteArray := if b = true then ⟨#[105, 110]⟩ else ⟨#[111, 117, 116]⟩
def tForm (t : Tok) : TM := fun σ => if σ.f + 1 ≤ 400 then some { σ with f := σ.f + 1, ts := σ.ts ++ [t] } else none
def tWord (s : ByteArray) : TM := tForm ⟨3, s, 0, 0⟩
def tName (s : ByteArray) : TM := fun σ => if nmOk s = true then tWord s σ else none
def tOpen : TM := fun σ => if σ.d + 1 ≤ 12 then tForm ⟨1, emptyS, 0, 0⟩ { σ with d := σ.d + 1 } else none
def tClose (σ : TS) : TS := { σ with d := σ.d - 1, ts := σ.ts ++ [⟨2, emptyS, 0, 0⟩] }
def tBrk (g : TM) : TM := fun σ => match tOpen σ with
 | none => none
 | some σ1 => match g σ1 with
  | none => none
  | some σ2 => some (tClose σ2)
def tAll {α : Type} (g : α → TM) : List α → TM
 | [], σ => some σ
 | a :: r, σ => match g a σ with
  | none => none
  | some σ1 => tAll g r σ1
def tSeq (g h : TM) : TM := fun σ => match g σ with
 | none => none
 | some σ1 => h σ1
def bareP (ps : List Nat) (c : Ctn) : Bool :=
 (decide (c.name = (⟨#[]⟩ : ByteArray)) || ps.contains 110) && (c.op == 0 || ps.contains 111) && (!c.inn || ps.contains 119) &&
  (c.e == -1 || ps.contains 101) && (c.cond == -1 || ps.contains 99) && (c.acts.length == 0 || ps.contains 97) &&
  (c.thn.length == 0 || ps.contains 116 || ps.contains 115) && (c.els.length == 0 || ps.contains 102)
def tShaped (wd : ByteArray) (ps : List Nat) (c : Ctn) (part : Nat → TM) : TM := fun σ =>
 if wd ≠ (⟨#[]⟩ : ByteArray) ∧ bareP ps c = true then tBrk (tSeq (tWord wd) (tAll part ps)) σ else none
def tPart (ex : Int → TM) (ac : Actn → TM) (st : Int → TM) (c : Ctn) (part : Nat) : TM := fun σ =>
 if part = 110 then tName c.name σ
 else if part = 111 then (if redN c.op = true then tWord (opW c.op) σ else none)
 else if part = 119 then tWord (wayW c.inn) σ
 else if part = 101 then ex c.e σ
 else if part = 99 then (if c.cond = -1 then some σ else ex c.cond σ)
 else if part = 97 then (if 1 ≤ c.acts.length ∧ c.acts.length ≤ 6 then tAll ac c.acts σ else none)
 else if part = 116 then tBrk (tAll st c.thn) σ
 else if part = 102 then tBrk (tAll st c.els) σ
 else if part = 115 then tAll st c.thn σ
 else some σ
def noT {α : Type} : α → TM := fun _ _ => none
def tLit (of : Nat) (n : Int) : TM := fun σ =>
 if of = 1 then tForm ⟨4, emptyS, n, 0⟩ σ
 else if of = 2 ∧ n = 1 then tWord ⟨#[116, 114, 117, 101]⟩ σ
 else if of = 2 ∧ n = 0 then tWord ⟨#[102, 97, 108, 115, 101]⟩ σ
 else none
def exp0 : Exp := ⟨0, 0, 0, emptyS, 0, []⟩
def ctnX (e : Exp) : Ctn := { ctn0 with name := e.name, inn := decide (e.num = 1) }
def tCall (ex : Int → TM) (o : Nat) (kids : List Int) : TM := fun σ =>
 if 0 < arityN o ∧ kids.length = arityN o then tBrk (tSeq (tWord (opW o)) (tAll ex kids)) σ else none
def plainX (e : Exp) : Exp :=
 if e.k = 1 then ⟨1, e.of, 0, emptyS, e.num, []⟩ else if e.k = 2 then ⟨2, 0, 0, e.name, 0, []⟩ else if e.k = 10 then ⟨10, 0, e.op, emptyS, 0, e.kids⟩ else ⟨e.k, 0, 0, e.name, if e.num = 1 then 1 else 0, []⟩
def sameX (a b : Exp) : Bool := a.k == b.k && a.of == b.of && a.op == b.op && decide (a.name = b.name) && a.num == b.num && decide (a.kids = b.kids)
def tBody (ex : Int → TM) (e : Exp) : TM :=
 if e.k = 1 then tLit e.of e.num
 else if e.k = 2 then fun σ => if e.name ≠ (⟨#[116, 114, 117, 101]⟩ : ByteArray) ∧ e.name ≠ (⟨#[102, 97, 108, 115, 101]⟩ : ByteArray) then tName e.name σ else none
 else if e.k = 10 then tCall ex e.op e.kids
 else tShaped (exprW e.k) (exprSh e.k) (ctnX e) (tPart noT noT noT (ctnX e))
def tExpr (xs : List Exp) : Nat → Int → TM
 | 0, _, _ => none
 | f + 1, a, σ =>
  if 0 ≤ a ∧ a < xs.length then
   match tBody (tExpr xs f) (xs.getD a.toNat exp0) σ with
   | none => none
   | some σ1 => if sameX (xs.getD a.toNat exp0) (plainX (xs.getD a.toNat exp0)) = true ∧ a = σ1.x then some { σ1 with x := σ1.x + 1 } else none
  else none
def ctnA (a : Actn) : Ctn := ⟨a.name, a.op, a.inn, a.e, a.cond, [], [], []⟩
def tAct (ex : Int → TM) (a : Actn) : TM := tShaped (actW a.k) (actSh a.k) (ctnA a) (tPart ex noT noT (ctnA a))
def ctnS (s : Stm) : Ctn := ⟨s.name, s.op, false, s.e, s.cond, s.acts, s.thn, s.els⟩
def stm0 : Stm := ⟨0, emptyS, 0, 0, 0, [], [], []⟩
def tStmt (ex : Int → TM) (ss : List Stm) : Nat → Int → TM
 | 0, _, _ => none
 | f + 1, a, σ =>
  if 0 ≤ a ∧ a < ss.length then
   match tShaped (stmtW (ss.getD a.toNat stm0).k) (stmtSh (ss.getD a.toNat stm0).k) (ctnS (ss.getD a.toNat stm0)) (tPart ex (tAct ex) (tStmt ex ss f) (ctnS (ss.getD a.toNat stm0))) σ with
   | none => none
   | some σ1 => if a = σ1.s then some { σ1 with s := σ1.s + 1 } else none
  else none
def ctnD (d : Dcl) : Ctn := { ctn0 with name := d.name }
def tDecl (d : Dcl) : TM := tShaped (declW d.side d.kind) (declS d.side d.kind) (ctnD d) (tPart noT noT noT (ctnD d))
def tE (P : Prg) : Int → TM := tExpr P.exprs 401
def tProg (P : Prg) : TM := fun σ =>
 if P.decls.length ≤ 24 then
  match tAll tDecl P.decls σ with
  | none => none
  | some σ1 => match tAll (tStmt (tE P) P.stmts 401) P.main σ1 with
   | none => none
   | some σ2 => if σ2.x = P.exprs.length ∧ σ2.s = P.stmts.length then some σ2 else none
 else none
def ts0 : TS := ⟨0, 0, 0, 0, []⟩
def soundP (P : Prg) : Bool := (tProg P ts0).isSome
def Kp (r : TM) : Prop := ∀ σ σ', r σ = some σ' → σ'.d = σ.d ∧ σ.f ≤ σ'.f ∧ (σ.f ≤ 400 → σ'.f ≤ 400)
theorem kp_form (t : Tok) : Kp (tForm t) := by
 intro σ σ' h
 unfold tForm at h
 split at h
 ·cases h; exact ⟨rfl, by simp, fun _ => by assumption⟩
 ·cases h
theorem zcQ (s : ByteArray) : Kp (tWord s) := kp_form _
theorem kp_name (s : ByteArray) : Kp (tName s) := by
 intro σ σ' h
 unfold tName at h
 split at h
 ·exact zcQ _ _ _ h
 ·cases h
theorem kp_seq {g h : TM} (hg : Kp g) (hh : Kp h) : Kp (tSeq g h) := by
 intro σ σ' e
 unfold tSeq at e
 split at e
 ·cases e
 ·rename_i σ1 h1
  obtain ⟨a1, a2, a3⟩ := hg _ _ h1
  obtain ⟨b1, b2, b3⟩ := hh _ _ e
  exact ⟨b1.trans a1, Nat.le_trans a2 b2, fun x => b3 (a3 x)⟩
theorem kp_all {α : Type} {g : α → TM} (hg : ∀ a, Kp (g a)) : ∀ l : List α, Kp (tAll g l)
 | [] => by intro σ σ' h; cases h; exact ⟨rfl, Nat.le_refl _, fun x => x⟩
 | a :: r => by
  intro σ σ' h
  unfold tAll at h
  split at h
  ·cases h
  ·rename_i σ1 h1
   obtain ⟨a1, a2, a3⟩ := hg a _ _ h1
   obtain ⟨b1, b2, b3⟩ := kp_all hg r _ _ h
   exact ⟨b1.trans a1, Nat.le_trans a2 b2, fun x => b3 (a3 x)⟩
theorem kp_open {σ σ' : TS} (h : tOpen σ = some σ') : σ'.d = σ.d + 1 ∧ σ'.f = σ.f + 1 ∧ σ'.f ≤ 400 ∧ σ.d + 1 ≤ 12 ∧ σ'.ts = σ.ts ++ [⟨1, emptyS, 0, 0⟩] ∧ σ'.x = σ.x ∧ σ'.s = σ.s := by
 unfold tOpen at h
 split at h
 ·unfold tForm at h
  split at h
  ·cases h; exact ⟨rfl, rfl, by assumption, by assumption, rfl, rfl, rfl⟩
  ·cases h
 ·cases h
theorem kp_brk {g : TM} (hg : Kp g) : Kp (tBrk g) := by
 intro σ σ' e
 unfold tBrk at e
 split at e
 ·cases e
 ·rename_i σ1 h1
  split at e
  ·cases e
  ·rename_i σ2 h2
   obtain ⟨a1, a2, a3, _⟩ := kp_open h1
   obtain ⟨b1, b2, b3⟩ := hg _ _ h2
   cases e
   refine ⟨?_, ?_, fun _ => b3 a3⟩
   ·show σ2.d - 1 = σ.d
    omega
   ·show σ.f ≤ σ2.f
    omega
theorem kp_none : Kp (fun _ => none) := by intro σ σ' h; cases h
theorem zbV {c : Prop} [Decidable c] {g h : TM} (hg : Kp g) (hh : Kp h) : Kp (fun σ => if c then g σ else h σ) := by
 intro σ σ' e
 simp only at e
 split at e
 ·exact hg _ _ e
 ·exact hh _ _ e
theorem kp_ite2 {c : Prop} [Decidable c] {g h : TM} (hg : Kp g) (hh : Kp h) : Kp (if c then g else h) := by
 split
 ·exact hg
 ·exact hh
theorem kp_id : Kp some := by intro σ σ' h; cases h; exact ⟨rfl, Nat.le_refl _, fun x => x⟩
theorem kp_shaped {wd : ByteArray} {ps : List Nat} {c : Ctn} {part : Nat → TM} (h : ∀ a, Kp (part a)) : Kp (tShaped wd ps c part) :=
 zbV (kp_brk (kp_seq (zcQ _) (kp_all h _))) kp_none
theorem kp_part {ex : Int → TM} {ac : Actn → TM} {st : Int → TM} {c : Ctn} (h1 : ∀ a, Kp (ex a)) (h2 : ∀ a, Kp (ac a)) (h3 : ∀ a, Kp (st a)) (part : Nat) : Kp (tPart ex ac st c part) :=
 zbV (kp_name _) (zbV (zbV (zcQ _) kp_none) (zbV (zcQ _) (zbV (h1 _) (zbV (zbV kp_id (h1 _)) (zbV (zbV (kp_all h2 _) kp_none) (zbV (kp_brk (kp_all h3 _)) (zbV (kp_brk (kp_all h3 _)) (zbV (kp_all h3 _) kp_id))))))))
theorem zdD {α : Type} (a : α) : Kp (noT a) := kp_none
theorem kp_lit (of : Nat) (n : Int) : Kp (tLit of n) := zbV (kp_form _) (zbV (zcQ _) (zbV (zcQ _) kp_none))
theorem kp_call {ex : Int → TM} (h1 : ∀ a, Kp (ex a)) (o : Nat) (kids : List Int) : Kp (tCall ex o kids) := zbV (kp_brk (kp_seq (zcQ _) (kp_all h1 _))) kp_none
theorem kp_body {ex : Int → TM} (h1 : ∀ a, Kp (ex a)) (e : Exp) : Kp (tBody ex e) :=
 kp_ite2 (kp_lit _ _) (kp_ite2 (zbV (kp_name _) kp_none) (kp_ite2 (kp_call h1 _ _) (kp_shaped (kp_part zdD zdD zdD))))
theorem kp_expr (xs : List Exp) : ∀ (f : Nat) (a : Int), Kp (tExpr xs f a)
 | 0, a => by intro σ σ' h; cases h
 | f + 1, a => by
  intro σ σ' h
  unfold tExpr at h
  split at h
  ·split at h
   ·cases h
   ·rename_i σ1 h1
    split at h
    ·cases h
     have := kp_body (kp_expr xs f) _ _ _ h1
     exact this
    ·cases h
  ·cases h
theorem kp_act {ex : Int → TM} (h1 : ∀ a, Kp (ex a)) (a : Actn) : Kp (tAct ex a) := kp_shaped (kp_part h1 zdD zdD)
theorem kp_stmt {ex : Int → TM} (h1 : ∀ a, Kp (ex a)) (ss : List Stm) : ∀ (f : Nat) (a : Int), Kp (tStmt ex ss f a)
 | 0, a => by intro σ σ' h; cases h
 | f + 1, a => by
  intro σ σ' h
  unfold tStmt at h
  split at h
  ·split at h
   ·cases h
   ·rename_i σ1 h2
    split at h
    ·cases h
     have := kp_shaped (kp_part h1 (kp_act h1) (kp_stmt h1 ss f)) _ _ h2
     exact this
    ·cases h
  ·cases h
open Go
section
variable {P : Program} {ops : Array Oper} {Q : Exit → Act → World → Prop} {md : Region.Mode} {S : World → Prop} {z : Nat}
def wpZ (P : Program) (md : Region.Mode) (ops : Array Oper) (Q : Exit → Act → World → Prop) (S : World → Prop) (z : Nat) : Nat → Array Bool → Act → World → Prop
 | 0 => fun l a w => Region.ready md ops l = [] ∧ Q .normal a w
 | n + 1 => fun l a w => (Region.ready md ops l = [] → Q .normal a w) ∧ ∀ i ∈ Region.ready md ops l, wpOp P ops Q i (fun b v => (i ≠ z → S v) ∧ wpZ P md ops Q S z n (l.setIfInBounds i true) b v) a w
theorem wpZ_any : ∀ (n : Nat) (l : Array Bool) (a : Act) (w : World), wpZ P md ops Q S z n l a w → wpAny P md ops Q n l a w := by
 intro n
 induction n with
 | zero => exact fun _ _ _ h => h
 | succ n ih => exact fun l a w h => ⟨h.1, fun i hi => wpOp_mono (fun b v hb => ih _ b v hb.2) (h.2 i hi)⟩
structure Behind (md : Region.Mode) (ops : Array Oper) (i z : Nat) (D : List Nat) : Prop where
 has : z ∈ D
 free : i ∉ D
 waits : ∀ d ∈ D, ∃ o, ops[d]? = some o ∧ ∃ e ∈ o.after, Region.binds md e = true ∧ (e.on = i ∨ e.on ∈ D)
theorem not_both {l : Array Bool} {j : Nat} (h0 : l.getD j true = false) (h1 : l.getD j false = true) : False := by
 rcases Nat.lt_or_ge j l.size with h | h
 ·simp [h] at h0 h1; rw [h0] at h1; cases h1
 ·simp [h] at h0
theorem wpZ_first {i : Nat} {o : Oper} {v : Value} {D : List Nat} (hi : ops[i]? = some o) (hsel : Region.noSelect ops = true) (hD : Behind md ops i z D) (hQ : ∀ c a w, Q (.panic c) (a.put o.dst v) w → Q (.panic c) a w) :
  ∀ (n : Nat) (l : Array Bool) (a : Act) (w : World), (∀ j oj, ops[j]? = some oj → j ≠ i → l.getD j true = false → (∀ e ∈ oj.after, Region.binds md e = true → e.on ≠ i) → o.apart ops oj = true) →
   i ∈ Region.ready md ops l → (∀ d ∈ D, l.getD d true = false) → YieldsIf P ops S o v a → S w → wpZ P md ops Q S z n (l.setIfInBounds i true) (a.put o.dst v) w → wpZ P md ops Q S z (n + 1) l a w := by
 intro n
 induction n with
 | zero =>
  intro l a w _ hr _ hy hS H
  refine ⟨fun e => absurd (e ▸ hr) (by simp), fun j hj => ?_⟩
  by_cases hji : j = i
  ·subst hji
   exact hy.wpOp hi hS ⟨fun _ => hS, H⟩
  ·have := ready_mono hj hji
   rw [H.1] at this
   simp at this
 | succ n ih =>
  intro l a w hap hr hl hy hS H
  refine ⟨fun e => absurd (e ▸ hr) (by simp), fun j hj => ?_⟩
  by_cases hji : j = i
  ·subst hji
   exact hy.wpOp hi hS ⟨fun _ => hS, H⟩
  ·obtain ⟨hun, oj, hoj, hall⟩ := mem_ready.1 hj
   have hri := (mem_ready.1 hr).1
   have hjD : j ∉ D := fun hm => by
    obtain ⟨o', ho', e, he, hb, hon⟩ := hD.waits j hm
    obtain rfl : oj = o' := by rw [hoj] at ho'; exact Option.some.inj ho'
    rcases hon with hon | hon
    ·exact not_both hri (hon ▸ hall e he hb)
    ·exact not_both (hl _ hon) (hall e he hb)
   have hjz : j ≠ z := fun e => hjD (e ▸ hD.has)
   have hstep := wpOp_putIf hoj (hap j oj hoj hji hun fun e he hb hon => not_both hri (hon ▸ hall e he hb)) (fun cs b => Region.noSelect_spec hsel i o cs b hi) (fun cs b => Region.noSelect_spec hsel j oj cs b hoj) hQ hy (H.2 j (ready_mono hj hji))
   refine wpOp_mono (fun b u hb => ?_) hstep
   obtain ⟨hyb, hSu, hrest⟩ := hb
   refine ⟨hSu, ih _ b u (fun k ok hok hki hkun hno => hap k ok hok hki ?_ hno) (ready_mono hr (Ne.symm hji)) (fun d hd => ?_) hyb (hSu hjz) ?_⟩
   ·by_cases hjk : j = k
    ·exact hjk ▸ hun
    ·rwa [getD_set_ne true hjk] at hkun
   ·rw [getD_set_ne true (fun e : j = d => hjD (by rw [e]; exact hd))]
    exact hl d hd
   ·rwa [Array.setIfInBounds_comm _ _ hji]
def behindB (md : Region.Mode) (ops : Array Oper) (l : Array Bool) (i z : Nat) (D : List Nat) : Bool :=
 D.contains z && !D.contains i && D.all fun d => !(l.getD d true) && match ops[d]? with | some o => o.after.any fun e => Region.binds md e && (e.on == i || D.contains e.on) | none => false
theorem zaB {i : Nat} {o : Oper} {v : Value} {n : Nat} {l : Array Bool} {a : Act} {w : World} (D : List Nat) (hi : ops[i]? = some o) (hsel : Region.noSelect ops = true) (hf : Region.free md ops l i = true) (hr : (Region.ready md ops l).contains i = true) (hD : behindB md ops l i z D = true)
  (hQ : ∀ c a w, Q (.panic c) (a.put o.dst v) w → Q (.panic c) a w) (hy : YieldsIf P ops S o v a) (hS : S w) (h : wpZ P md ops Q S z n (l.setIfInBounds i true) (a.put o.dst v) w) : wpZ P md ops Q S z (n + 1) l a w := by
 simp only [behindB, Bool.and_eq_true, List.all_eq_true, Bool.not_eq_true', List.contains_iff_mem] at hD
 obtain ⟨⟨h1, h2⟩, h3⟩ := hD
 refine wpZ_first (D := D) hi hsel ⟨h1, by simpa using h2, fun d hd => ?_⟩ hQ n l a w (Region.free_spec hi hf) (by simpa using hr) (fun d hd => (h3 d hd).1) hy hS h
 have := (h3 d hd).2
 cases ho : ops[d]? with
 | none => rw [ho] at this; simp at this
 | some o' =>
  rw [ho] at this
  obtain ⟨e, he, hb⟩ := Array.any_eq_true'.1 this
  simp only [Bool.and_eq_true, Bool.or_eq_true, beq_iff_eq, List.contains_iff_mem] at hb
  exact ⟨o', rfl, e, he, hb.1, hb.2⟩
theorem zaT {rs : List Nat} {n : Nat} {l : Array Bool} {a : Act} {w : World} (hr : Region.ready md ops l = rs) (hne : rs ≠ []) (h : ∀ i ∈ rs, wpOp P ops Q i (fun b v => (i ≠ z → S v) ∧ wpZ P md ops Q S z n (l.setIfInBounds i true) b v) a w) : wpZ P md ops Q S z (n + 1) l a w := by
 subst hr
 exact ⟨fun e => absurd e hne, h⟩
theorem wpZ_done {l : Array Bool} {a : Act} {w : World} (hr : Region.ready md ops l = []) (h : Q .normal a w) (n : Nat) : wpZ P md ops Q S z n l a w := by
 cases n with
 | zero => exact ⟨hr, h⟩
 | succ n => exact ⟨fun _ => h, by simp [hr]⟩
theorem zbJ {l : Array Bool} {a : Act} {w : World} (hr : Region.ready md ops l = [z]) (hd : Region.ready md ops (l.setIfInBounds z true) = []) (h : wpOp P ops Q z (fun b v => Q .normal b v) a w) (n : Nat) : wpZ P md ops Q S z (n + 1) l a w :=
 zaT hr (by simp) fun i hi => by
  obtain rfl : i = z := by simpa using hi
  exact wpOp_mono (fun b v hb => ⟨fun e => absurd rfl e, wpZ_done hd hb _⟩) h
theorem zaP {i : Nat} {o : Oper} {K : Act → World → Prop} {a : Act} {w : World} (ho : ops[i]? = some o) (hg : o.guard = none) (h : ∀ K' : Act → World → Prop, (∀ a w, K a w → K' a w) → Oper.wp P o a w K' Q) : wpOp P ops Q i K a w := by
 refine wpOp_step ho fun K' hK => ?_
 rw [if_pos (by unfold Region.wanted; rw [hg])]
 exact h K' hK
theorem zbC {id : Nat} {a : Act} {w : World} (S : World → Prop) (z : Nat) (hm : P.follows .mixedOrders = true) (h : wpZ P .any ops Q S z ops.size (Array.replicate ops.size false) a w.drew) : (Code.region id ops true).wp P Q a w :=
 wp_region_any hm (wpZ_any _ _ _ _ h)
end
open Go.RowKit
abbrev WR (l : Nat) : Fence := Fence.wide.inRound l
def noDefer (ops : Array Oper) : Bool := ops.all fun o => match o.op with | .defer _ => false | _ => true
theorem noDefer_spec {ops : Array Oper} (h : noDefer ops = true) {i : Nat} {o : Oper} (ho : ops[i]? = some o) (c : Call) : o.op ≠ .defer c := by
 intro e
 have hm : o ∈ ops := Array.mem_of_getElem? ho
 have h1 := (Array.all_eq_true'.1 h) o hm
 rw [e] at h1
 cases h1
theorem rowsIn_wide {n l : Nat} {P : Program} {row : String} {args : Array Value} {w : World} {R : Value → World → Prop} (h : Rows P row args w R) : RowsIn (WR l) n P row args w R := by
 intro c cs _
 obtain ⟨v, w', hr, hs⟩ := h c cs
 exact ⟨v, w', hr, stepsIn_wide.2 hs⟩
theorem uponIn_of {l n : Nat} {P : Program} {o : Oper} {a : Act} {K : Act → World → Prop} {Q : Exit → Act → World → Prop} {r : Result Next} (h : o.upon P a K Q r) : o.uponIn (WR l) n P a K Q r := by
 cases r with
 | ok x w' =>
  cases x with
  | value v => exact h
  | skip => exact h
  | defer d => exact h
  | enter f args => exact ⟨fun hd => (by cases hd), CallsIn.inRound l (callsIn_wide.2 h)⟩
  | row row args => exact ⟨fun hd => (by cases hd), rowsIn_wide h⟩
  | _ => exact h.elim
 | halt x w' => cases x <;> first | exact h | exact h.elim
theorem opIn_of {l n : Nat} {P : Program} {o : Oper} {a : Act} {w : World} {K : Act → World → Prop} {Q : Exit → Act → World → Prop} (hd : ∀ c, o.op ≠ .defer c) (h : o.wp P a w K Q) : o.wpIn (WR l) n P a w K Q := by
 refine ⟨fun _ _ => trivial, ?_⟩
 rw [show (WR l).round = some l from rfl, Oper.semAt_some l _ _ hd]
 exact uponIn_of h
theorem wpOpIn_of {l n : Nat} {P : Program} {ops : Array Oper} {Q : Exit → Act → World → Prop} (hd : noDefer ops = true) (hQ : ¬ LetsOut Q) {i : Nat} {K : Act → World → Prop} {a : Act} {w : World} (h : wpOp P ops Q i K a w) :
  wpOpIn (WR l) n P ops Q i K a w := by
 unfold wpOp at h
 unfold wpOpIn
 cases ho : ops[i]? with
 | none => rw [ho] at h; exact h
 | some o =>
  rw [ho] at h
  simp only at h ⊢
  split
  ·rename_i hw
   rw [if_pos hw] at h
   rcases h with h | ⟨_, h⟩
   ·exact opIn_of (noDefer_spec hd ho) h
   ·exact absurd h hQ
  ·rename_i hw
   rw [if_neg hw] at h
   exact ⟨fun _ _ => trivial, h⟩
theorem wpAnyIn_of {l n : Nat} {P : Program} {md : Region.Mode} {ops : Array Oper} {Q : Exit → Act → World → Prop} (hd : noDefer ops = true) (hQ : ¬ LetsOut Q) :
  ∀ (fuel : Nat) (listed : Array Bool) (a : Act) (w : World), wpAny P md ops Q fuel listed a w → wpAnyIn (WR l) n P md ops Q fuel listed a w
 | 0, _, _, _, h => h
 | fuel + 1, _, _, _, h => ⟨h.1, fun i hi => wpOpIn_mono (fun a' w' h' => wpAnyIn_of hd hQ fuel _ a' w' h') (wpOpIn_of hd hQ (h.2 i hi))⟩
def Goes (R : Act → World → Prop) : Exit → Act → World → Prop
 | .normal, a, w => R a w
 | _, _, _ => False
theorem goes_out (R : Act → World → Prop) : ¬ LetsOut (Goes R) := fun ⟨_, _, h⟩ => h
theorem goes_imp {R : Act → World → Prop} {Q : Exit → Act → World → Prop} (h : ∀ a w, R a w → Q .normal a w) : ∀ e a w, Goes R e a w → Q e a w := fun e a w hg => by cases e <;> first | exact h a w hg | exact hg.elim
theorem Tryz.mixed : Tryz.prog.follows .mixedOrders = true := by kernel_rfl
theorem zaD {fn : Func} {p : Tmp} {ty : TypeId} (h : fn.results = #[.cell p ty]) (tmps : Array Value) (P : Program) (w : World) :
  (results fn tmps).run P w = ((asAddr (tmps.getD p undef)).run P w).andThen fun a w₁ => (loadVar ty a).run P w₁ := by
 simp only [results, h]
 simp [Sem.run_bind, Result.andThen]
def ShPost (w : World) (s p : ByteArray) (e : Ending) (w' : World) : Prop := e = .returned (.agg #[.string s, .string p]) ∧ Below w.heap.size w w'
theorem stmtSh1 (w : World) : Calls Tryz.prog 79 #[.int .u8 1] w (ShPost w ⟨#[115, 101, 116]⟩ ⟨#[110, 101]⟩) := by
 go_enter Tryz.func79, Tryz.ntmps79
 go_wp2
 (try simp only [Exit.inBlock, Exit.then])
 refine bodyPost_ret (v := .agg #[.string ⟨#[115, 101, 116]⟩, .string ⟨#[110, 101]⟩]) ?_ rfl ⟨by simp, ?_⟩
 ·rw [zaD rfl]
  go_simp
 ·(repeat (first | exact Below.refl _ _ | assumption | refine Below.drew ?_ | refine Below.alloc ?_ (by first | omega | (simp; done) | (simp; omega)) _ | refine Below.setCell ?_ (by first | omega | (simp; done) | (simp; omega)) _))
theorem stmtSh2 (w : World) : Calls Tryz.prog 79 #[.int .u8 2] w (ShPost w ⟨#[102, 111, 108, 100]⟩ ⟨#[110, 111, 101, 99]⟩) := by
 go_enter Tryz.func79, Tryz.ntmps79
 go_wp2
 (try simp only [Exit.inBlock, Exit.then])
 refine bodyPost_ret (v := .agg #[.string ⟨#[102, 111, 108, 100]⟩, .string ⟨#[110, 111, 101, 99]⟩]) ?_ rfl ⟨by simp, ?_⟩
 ·rw [zaD rfl]
  go_simp
 ·(repeat (first | exact Below.refl _ _ | assumption | refine Below.drew ?_ | refine Below.alloc ?_ (by first | omega | (simp; done) | (simp; omega)) _ | refine Below.setCell ?_ (by first | omega | (simp; done) | (simp; omega)) _))
theorem stmtSh3 (w : World) : Calls Tryz.prog 79 #[.int .u8 3] w (ShPost w ⟨#[101, 97, 99, 104]⟩ ⟨#[97]⟩) := by
 go_enter Tryz.func79, Tryz.ntmps79
 go_wp2
 (try simp only [Exit.inBlock, Exit.then])
 refine bodyPost_ret (v := .agg #[.string ⟨#[101, 97, 99, 104]⟩, .string ⟨#[97]⟩]) ?_ rfl ⟨by simp, ?_⟩
 ·rw [zaD rfl]
  go_simp
 ·(repeat (first | exact Below.refl _ _ | assumption | refine Below.drew ?_ | refine Below.alloc ?_ (by first | omega | (simp; done) | (simp; omega)) _ | refine Below.setCell ?_ (by first | omega | (simp; done) | (simp; omega)) _))
theorem stmtSh4 (w : World) : Calls Tryz.prog 79 #[.int .u8 4] w (ShPost w ⟨#[105, 102]⟩ ⟨#[101, 116, 102]⟩) := by
 go_enter Tryz.func79, Tryz.ntmps79
 go_wp2
 (try simp only [Exit.inBlock, Exit.then])
 refine bodyPost_ret (v := .agg #[.string ⟨#[105, 102]⟩, .string ⟨#[101, 116, 102]⟩]) ?_ rfl ⟨by simp, ?_⟩
 ·rw [zaD rfl]
  go_simp
 ·(repeat (first | exact Below.refl _ _ | assumption | refine Below.drew ?_ | refine Below.alloc ?_ (by first | omega | (simp; done) | (simp; omega)) _ | refine Below.setCell ?_ (by first | omega | (simp; done) | (simp; omega)) _))
theorem stmtSh5 (w : World) : Calls Tryz.prog 79 #[.int .u8 5] w (ShPost w ⟨#[119, 104, 105, 108, 101]⟩ ⟨#[101, 115]⟩) := by
 go_enter Tryz.func79, Tryz.ntmps79
 go_wp2
 (try simp only [Exit.inBlock, Exit.then])
 refine bodyPost_ret (v := .agg #[.string ⟨#[119, 104, 105, 108, 101]⟩, .string ⟨#[101, 115]⟩]) ?_ rfl ⟨by simp, ?_⟩
 ·rw [zaD rfl]
  go_simp
 ·(repeat (first | exact Below.refl _ _ | assumption | refine Below.drew ?_ | refine Below.alloc ?_ (by first | omega | (simp; done) | (simp; omega)) _ | refine Below.setCell ?_ (by first | omega | (simp; done) | (simp; omega)) _))
theorem stmtSh6 (w : World) : Calls Tryz.prog 79 #[.int .u8 6] w (ShPost w ⟨#[108, 111, 111, 112]⟩ ⟨#[101, 115]⟩) := by
 go_enter Tryz.func79, Tryz.ntmps79
 go_wp2
 (try simp only [Exit.inBlock, Exit.then])
 refine bodyPost_ret (v := .agg #[.string ⟨#[108, 111, 111, 112]⟩, .string ⟨#[101, 115]⟩]) ?_ rfl ⟨by simp, ?_⟩
 ·rw [zaD rfl]
  go_simp
 ·(repeat (first | exact Below.refl _ _ | assumption | refine Below.drew ?_ | refine Below.alloc ?_ (by first | omega | (simp; done) | (simp; omega)) _ | refine Below.setCell ?_ (by first | omega | (simp; done) | (simp; omega)) _))
theorem stmtSh7 (w : World) : Calls Tryz.prog 79 #[.int .u8 7] w (ShPost w ⟨#[98, 102, 115]⟩ ⟨#[110, 101, 115]⟩) := by
 go_enter Tryz.func79, Tryz.ntmps79
 go_wp2
 (try simp only [Exit.inBlock, Exit.then])
 refine bodyPost_ret (v := .agg #[.string ⟨#[98, 102, 115]⟩, .string ⟨#[110, 101, 115]⟩]) ?_ rfl ⟨by simp, ?_⟩
 ·rw [zaD rfl]
  go_simp
 ·(repeat (first | exact Below.refl _ _ | assumption | refine Below.drew ?_ | refine Below.alloc ?_ (by first | omega | (simp; done) | (simp; omega)) _ | refine Below.setCell ?_ (by first | omega | (simp; done) | (simp; omega)) _))
theorem actSh1 (w : World) : Calls Tryz.prog 82 #[.int .u8 1] w (ShPost w ⟨#[112, 117, 116]⟩ ⟨#[110, 101, 99]⟩) := by
 go_enter Tryz.func82, Tryz.ntmps82
 go_wp2
 (try simp only [Exit.inBlock, Exit.then])
 refine bodyPost_ret (v := .agg #[.string ⟨#[112, 117, 116]⟩, .string ⟨#[110, 101, 99]⟩]) ?_ rfl ⟨by simp, ?_⟩
 ·rw [zaD rfl]
  go_simp
 ·(repeat (first | exact Below.refl _ _ | assumption | refine Below.drew ?_ | refine Below.alloc ?_ (by first | omega | (simp; done) | (simp; omega)) _ | refine Below.setCell ?_ (by first | omega | (simp; done) | (simp; omega)) _))
theorem actSh2 (w : World) : Calls Tryz.prog 82 #[.int .u8 2] w (ShPost w ⟨#[112, 117, 115, 104]⟩ ⟨#[110, 111, 119, 101, 99]⟩) := by
 go_enter Tryz.func82, Tryz.ntmps82
 go_wp2
 (try simp only [Exit.inBlock, Exit.then])
 refine bodyPost_ret (v := .agg #[.string ⟨#[112, 117, 115, 104]⟩, .string ⟨#[110, 111, 119, 101, 99]⟩]) ?_ rfl ⟨by simp, ?_⟩
 ·rw [zaD rfl]
  go_simp
 ·(repeat (first | exact Below.refl _ _ | assumption | refine Below.drew ?_ | refine Below.alloc ?_ (by first | omega | (simp; done) | (simp; omega)) _ | refine Below.setCell ?_ (by first | omega | (simp; done) | (simp; omega)) _))
theorem actSh3 (w : World) : Calls Tryz.prog 82 #[.int .u8 3] w (ShPost w ⟨#[112, 117, 108, 108]⟩ ⟨#[110, 111, 119, 101]⟩) := by
 go_enter Tryz.func82, Tryz.ntmps82
 go_wp2
 (try simp only [Exit.inBlock, Exit.then])
 refine bodyPost_ret (v := .agg #[.string ⟨#[112, 117, 108, 108]⟩, .string ⟨#[110, 111, 119, 101]⟩]) ?_ rfl ⟨by simp, ?_⟩
 ·rw [zaD rfl]
  go_simp
 ·(repeat (first | exact Below.refl _ _ | assumption | refine Below.drew ?_ | refine Below.alloc ?_ (by first | omega | (simp; done) | (simp; omega)) _ | refine Below.setCell ?_ (by first | omega | (simp; done) | (simp; omega)) _))
theorem exprSh1 (w : World) : Calls Tryz.prog 85 #[.int .u8 1] w (ShPost w ⟨#[]⟩ ⟨#[]⟩) := by
 go_enter Tryz.func85, Tryz.ntmps85
 go_wp2
 (try simp only [Exit.inBlock, Exit.then])
 refine bodyPost_ret (v := .agg #[.string ⟨#[]⟩, .string ⟨#[]⟩]) ?_ rfl ⟨by simp, ?_⟩
 ·rw [zaD rfl]
  go_simp
 ·(repeat (first | exact Below.refl _ _ | assumption | refine Below.drew ?_ | refine Below.alloc ?_ (by first | omega | (simp; done) | (simp; omega)) _ | refine Below.setCell ?_ (by first | omega | (simp; done) | (simp; omega)) _))
theorem exprSh2 (w : World) : Calls Tryz.prog 85 #[.int .u8 2] w (ShPost w ⟨#[]⟩ ⟨#[]⟩) := by
 go_enter Tryz.func85, Tryz.ntmps85
 go_wp2
 (try simp only [Exit.inBlock, Exit.then])
 refine bodyPost_ret (v := .agg #[.string ⟨#[]⟩, .string ⟨#[]⟩]) ?_ rfl ⟨by simp, ?_⟩
 ·rw [zaD rfl]
  go_simp
 ·(repeat (first | exact Below.refl _ _ | assumption | refine Below.drew ?_ | refine Below.alloc ?_ (by first | omega | (simp; done) | (simp; omega)) _ | refine Below.setCell ?_ (by first | omega | (simp; done) | (simp; omega)) _))
theorem exprSh3 (w : World) : Calls Tryz.prog 85 #[.int .u8 3] w (ShPost w ⟨#[111, 119, 110]⟩ ⟨#[110]⟩) := by
 go_enter Tryz.func85, Tryz.ntmps85
 go_wp2
 (try simp only [Exit.inBlock, Exit.then])
 refine bodyPost_ret (v := .agg #[.string ⟨#[111, 119, 110]⟩, .string ⟨#[110]⟩]) ?_ rfl ⟨by simp, ?_⟩
 ·rw [zaD rfl]
  go_simp
 ·(repeat (first | exact Below.refl _ _ | assumption | refine Below.drew ?_ | refine Below.alloc ?_ (by first | omega | (simp; done) | (simp; omega)) _ | refine Below.setCell ?_ (by first | omega | (simp; done) | (simp; omega)) _))
theorem exprSh4 (w : World) : Calls Tryz.prog 85 #[.int .u8 4] w (ShPost w ⟨#[102, 97, 114]⟩ ⟨#[110]⟩) := by
 go_enter Tryz.func85, Tryz.ntmps85
 go_wp2
 (try simp only [Exit.inBlock, Exit.then])
 refine bodyPost_ret (v := .agg #[.string ⟨#[102, 97, 114]⟩, .string ⟨#[110]⟩]) ?_ rfl ⟨by simp, ?_⟩
 ·rw [zaD rfl]
  go_simp
 ·(repeat (first | exact Below.refl _ _ | assumption | refine Below.drew ?_ | refine Below.alloc ?_ (by first | omega | (simp; done) | (simp; omega)) _ | refine Below.setCell ?_ (by first | omega | (simp; done) | (simp; omega)) _))
theorem exprSh5 (w : World) : Calls Tryz.prog 85 #[.int .u8 5] w (ShPost w ⟨#[118, 105, 97]⟩ ⟨#[110]⟩) := by
 go_enter Tryz.func85, Tryz.ntmps85
 go_wp2
 (try simp only [Exit.inBlock, Exit.then])
 refine bodyPost_ret (v := .agg #[.string ⟨#[118, 105, 97]⟩, .string ⟨#[110]⟩]) ?_ rfl ⟨by simp, ?_⟩
 ·rw [zaD rfl]
  go_simp
 ·(repeat (first | exact Below.refl _ _ | assumption | refine Below.drew ?_ | refine Below.alloc ?_ (by first | omega | (simp; done) | (simp; omega)) _ | refine Below.setCell ?_ (by first | omega | (simp; done) | (simp; omega)) _))
theorem exprSh6 (w : World) : Calls Tryz.prog 85 #[.int .u8 6] w (ShPost w ⟨#[105, 100]⟩ ⟨#[]⟩) := by
 go_enter Tryz.func85, Tryz.ntmps85
 go_wp2
 (try simp only [Exit.inBlock, Exit.then])
 refine bodyPost_ret (v := .agg #[.string ⟨#[105, 100]⟩, .string ⟨#[]⟩]) ?_ rfl ⟨by simp, ?_⟩
 ·rw [zaD rfl]
  go_simp
 ·(repeat (first | exact Below.refl _ _ | assumption | refine Below.drew ?_ | refine Below.alloc ?_ (by first | omega | (simp; done) | (simp; omega)) _ | refine Below.setCell ?_ (by first | omega | (simp; done) | (simp; omega)) _))
theorem exprSh7 (w : World) : Calls Tryz.prog 85 #[.int .u8 7] w (ShPost w ⟨#[102, 97, 114, 105, 100]⟩ ⟨#[]⟩) := by
 go_enter Tryz.func85, Tryz.ntmps85
 go_wp2
 (try simp only [Exit.inBlock, Exit.then])
 refine bodyPost_ret (v := .agg #[.string ⟨#[102, 97, 114, 105, 100]⟩, .string ⟨#[]⟩]) ?_ rfl ⟨by simp, ?_⟩
 ·rw [zaD rfl]
  go_simp
 ·(repeat (first | exact Below.refl _ _ | assumption | refine Below.drew ?_ | refine Below.alloc ?_ (by first | omega | (simp; done) | (simp; omega)) _ | refine Below.setCell ?_ (by first | omega | (simp; done) | (simp; omega)) _))
theorem exprSh8 (w : World) : Calls Tryz.prog 85 #[.int .u8 8] w (ShPost w ⟨#[100, 101, 103]⟩ ⟨#[119]⟩) := by
 go_enter Tryz.func85, Tryz.ntmps85
 go_wp2
 (try simp only [Exit.inBlock, Exit.then])
 refine bodyPost_ret (v := .agg #[.string ⟨#[100, 101, 103]⟩, .string ⟨#[119]⟩]) ?_ rfl ⟨by simp, ?_⟩
 ·rw [zaD rfl]
  go_simp
 ·(repeat (first | exact Below.refl _ _ | assumption | refine Below.drew ?_ | refine Below.alloc ?_ (by first | omega | (simp; done) | (simp; omega)) _ | refine Below.setCell ?_ (by first | omega | (simp; done) | (simp; omega)) _))
theorem exprSh9 (w : World) : Calls Tryz.prog 85 #[.int .u8 9] w (ShPost w ⟨#[99, 111, 117, 110, 116]⟩ ⟨#[]⟩) := by
 go_enter Tryz.func85, Tryz.ntmps85
 go_wp2
 (try simp only [Exit.inBlock, Exit.then])
 refine bodyPost_ret (v := .agg #[.string ⟨#[99, 111, 117, 110, 116]⟩, .string ⟨#[]⟩]) ?_ rfl ⟨by simp, ?_⟩
 ·rw [zaD rfl]
  go_simp
 ·(repeat (first | exact Below.refl _ _ | assumption | refine Below.drew ?_ | refine Below.alloc ?_ (by first | omega | (simp; done) | (simp; omega)) _ | refine Below.setCell ?_ (by first | omega | (simp; done) | (simp; omega)) _))
theorem exprSh10 (w : World) : Calls Tryz.prog 85 #[.int .u8 10] w (ShPost w ⟨#[]⟩ ⟨#[]⟩) := by
 go_enter Tryz.func85, Tryz.ntmps85
 go_wp2
 (try simp only [Exit.inBlock, Exit.then])
 refine bodyPost_ret (v := .agg #[.string ⟨#[]⟩, .string ⟨#[]⟩]) ?_ rfl ⟨by simp, ?_⟩
 ·rw [zaD rfl]
  go_simp
 ·(repeat (first | exact Below.refl _ _ | assumption | refine Below.drew ?_ | refine Below.alloc ?_ (by first | omega | (simp; done) | (simp; omega)) _ | refine Below.setCell ?_ (by first | omega | (simp; done) | (simp; omega)) _))
end Go.Proofs.YtmekkhfohmfjkaaGreatDoor
