/-
  Part 41 of the proof: MtA, MtC, Ord3, Src.
-/
import Derived.Test.YtmekkhfohmfjkaaGreatDoorTm40
import Derived.Laws.Concat
import Derived.Test.YtmekkhfohmfjkaaGreatDoorTm27
import Derived.Laws.CopyOwn
namespace Go.Proofs.YtmekkhfohmfjkaaGreatDoor
open Go.RowKit Go.Deep Go.MapKept
theorem sees_own {w : World} {base : Nat} {p : PV} (h : OwnP w base p) : SeesPv w p where
 d := zbA (h.own (dRow p) (by simp))
 x := zbA (h.own (xRow p) (by simp))
 s := zbA (h.own (sRow p) (by simp))
 m := zbA (h.own (mRow p) (by simp))
 xk := fun x hx => zbA (h.own (kRow x) (by simp only [List.mem_cons, List.mem_append, List.mem_map]; exact .inr (.inr (.inr (.inr (.inl ⟨x, hx, rfl⟩))))))
 sa := fun x hx => zbA (h.own ⟨x.av, 126, 6, x.s.acts.length, flatAc x.s.acts⟩ (by simp only [List.mem_cons, List.mem_append, List.mem_flatMap]; exact .inr (.inr (.inr (.inr (.inr ⟨x, hx, by simp [sRows]⟩))))))
 st := fun x hx => zbA (h.own ⟨x.tv, 3, 1, x.s.thn.length, intsI x.s.thn⟩ (by simp only [List.mem_cons, List.mem_append, List.mem_flatMap]; exact .inr (.inr (.inr (.inr (.inr ⟨x, hx, by simp [sRows]⟩))))))
 se := fun x hx => zbA (h.own ⟨x.ev, 3, 1, x.s.els.length, intsI x.s.els⟩ (by simp only [List.mem_cons, List.mem_append, List.mem_flatMap]; exact .inr (.inr (.inr (.inr (.inr ⟨x, hx, by simp [sRows]⟩))))))
def readT (t : Txt) : Option Prg :=
 match parse ((pieces t).map tokW) with
 | .ok σ => (match pTop σ.forms σ.top prg0 with | .ok P => some P | .error _ => none)
 | .error _ => none
def prgB (P : Prg) : Bool :=
 decide (P.decls.length ≤ 24 ∧ P.exprs.length ≤ 1000 ∧ P.stmts.length ≤ 1000 ∧ P.main.length ≤ 1000) &&
 (P.decls.all fun d => decide (d.side < 256 ∧ d.kind < 256 ∧ d.name.size ≤ 100)) &&
 (P.exprs.all fun x => decide (x.k < 256 ∧ x.of < 256 ∧ x.op < 256 ∧ x.name.size ≤ 100 ∧ x.kids.length ≤ 1000)) &&
 (P.stmts.all fun s => decide (s.k < 256 ∧ s.op < 256 ∧ s.name.size ≤ 100 ∧ s.acts.length ≤ 1000 ∧ s.thn.length ≤ 1000 ∧ s.els.length ≤ 1000) && s.acts.all fun a => decide (a.k < 256 ∧ a.op < 256 ∧ a.name.size ≤ 100))
theorem prgB_ok {P : Prg} (h : prgB P = true) : PrgOk P ∧ P.decls.length ≤ 24 ∧ ∀ s ∈ P.stmts, s.acts.length ≤ 1000 := by
 simp only [prgB, Bool.and_eq_true, decide_eq_true_eq, List.all_eq_true] at h
 obtain ⟨⟨⟨⟨h1, h2, h3, h4⟩, hd⟩, hx⟩, hs⟩ := h
 refine ⟨⟨by omega, by omega, by omega, by omega, fun d m => ?_, fun x m => ?_, fun s m => ?_⟩, h1, fun s m => (hs s m).1.2.2.2.1⟩
 ·obtain ⟨a, b, c⟩ := hd d m
  exact ⟨a, b, by unfold SmlN; omega⟩
 ·obtain ⟨a, b, c, d, e⟩ := hx x m
  exact ⟨a, b, c, by unfold SmlN; omega, by omega⟩
 ·obtain ⟨⟨a, b, c, d, e, f⟩, g⟩ := hs s m
  refine ⟨a, b, by unfold SmlN; omega, by omega, by omega, by omega, fun y hy => ?_⟩
  obtain ⟨a, b, c⟩ := g y hy
  exact ⟨a, b, by unfold SmlN; omega⟩
def goodT (t : Txt) : Bool :=
 ((pieces t).all fun q => okW q.2) && decide ((pieces t).length ≤ 600) && decide (t.length ≤ 1000) && (((pieces t).map tokW).all fun k => decide (k.s.size ≤ 100)) &&
 (match readT t with | some P => prgB P | none => false)
theorem goodT_source {t : Txt} {P : Prg} (h : goodT t = true) (hP : readT t = some P) (w : World) (hL : Laid w) : Calls Tryz.prog 18 #[.string (bytesOf t)] w (ReadPost P w) := by
 simp only [goodT, Bool.and_eq_true, decide_eq_true_eq] at h
 obtain ⟨⟨⟨⟨h1, h2⟩, h3⟩, h4⟩, h5⟩ := h
 rw [hP] at h5
 have hb := prgB_ok h5
 unfold readT at hP
 cases hq : parse ((pieces t).map tokW) with
 | error e => rw [hq] at hP; cases hP
 | ok σ =>
  rw [hq] at hP
  simp only at hP
  cases hr : pTop σ.forms σ.top prg0 with
  | error e => rw [hr] at hP; cases hP
  | ok Q =>
   rw [hr] at hP
   obtain rfl := Option.some.inj hP
   exact source_ok (lex_ok h1 (by omega) (by omega)) (fun k hk => by have := of_decide_eq_true (List.all_eq_true.1 h4 k hk); omega) (by simp; omega) hq (nmT_ok h1) hr hb.2.1 w hL
def actsT : List Txt := [
 [40, 112, 117, 116, 32, 120, 32, 49, 41],
 [40, 112, 117, 115, 104, 32, 120, 32, 43, 32, 111, 117, 116, 32, 49, 41],
 [40, 112, 117, 115, 104, 32, 120, 32, 43, 32, 105, 110, 32, 50, 41],
 [40, 112, 117, 108, 108, 32, 120, 32, 43, 32, 111, 117, 116, 32, 49, 41],
 [40, 112, 117, 115, 104, 32, 120, 32, 109, 97, 120, 32, 111, 117, 116, 32, 49, 41],
 [40, 112, 117, 116, 32, 121, 32, 49, 41],
 [40, 112, 117, 115, 104, 32, 121, 32, 43, 32, 111, 117, 116, 32, 49, 41]]
def headT : Txt := [40, 110, 105, 110, 116, 32, 120, 41, 32, 40, 110, 105, 110, 116, 32, 121, 41, 32, 40, 101, 97, 99, 104, 32]
def meetT (i k : Nat) : Txt := headT ++ actsT.getD i [] ++ [32] ++ actsT.getD k [] ++ [41]
def otherM (i k : Nat) : Bool := decide (5 ≤ i) != decide (5 ≤ k)
def alikeM (i k : Nat) : Bool := (decide (1 ≤ i ∧ i ≤ 3 ∧ 1 ≤ k ∧ k ≤ 3) || decide (i = 4 ∧ k = 4)) || decide (i = 6 ∧ k = 6)
def meetB (i k : Nat) : Bool :=
 goodT (meetT i k) && (match readT (meetT i k) with | some P => decide ((checkP P).1 = 0) && (decide ((checkP P).2 = 0) == (otherM i k || alikeM i k)) && decide ((checkP P).2 = 0 ∨ (checkP P).2 = 10) | none => false)
set_option maxRecDepth 100000 in
theorem meet_all : ∀ i < 7, ∀ k < 7, meetB i k = true := by decide +kernel
theorem add_bytes (P : Program) (w : World) (x y : Txt) (hx : x.length ≤ 1000) (hy : y.length ≤ 1000) : (Op.stringOp .add (bytesOf x) (bytesOf y)).run P w = .ok (.string (bytesOf (x ++ y))) w := by
 have h := run_string_add (P := P) w (bytesOf x) (bytesOf y) (by simp [bytesOf, ByteArray.size]; omega) (by simp [bytesOf, ByteArray.size]; omega)
 rw [h]
 have e : bytesOf x ++ bytesOf y = bytesOf (x ++ y) := by
  apply ByteArray.ext
  simp [bytesOf]
 rw [e]
theorem acts_len : ∀ i : Nat, (actsT.getD i []).length ≤ 20
 | 0 | 1 | 2 | 3 | 4 | 5 | 6 => by decide
 | i + 7 => by simp [actsT]
def rowT : Array Value := #[.string ⟨#[40, 112, 117, 116, 32, 120, 32, 49, 41]⟩, .string ⟨#[40, 112, 117, 115, 104, 32, 120, 32, 43, 32, 111, 117, 116, 32, 49, 41]⟩, .string ⟨#[40, 112, 117, 115, 104, 32, 120, 32, 43, 32, 105, 110, 32, 50, 41]⟩, .string ⟨#[40, 112, 117, 108, 108, 32, 120, 32, 43, 32, 111, 117, 116, 32, 49, 41]⟩, .string ⟨#[40, 112, 117, 115, 104, 32, 120, 32, 109, 97, 120, 32, 111, 117, 116, 32, 49, 41]⟩, .string ⟨#[40, 112, 117, 116, 32, 121, 32, 49, 41]⟩, .string ⟨#[40, 112, 117, 115, 104, 32, 121, 32, 43, 32, 111, 117, 116, 32, 49, 41]⟩]
theorem rowT_get {i : Nat} (h : i < 7) : rowT[i]? = some (.string (bytesOf (actsT.getD i []))) := by
 have : i = 0 ∨ i = 1 ∨ i = 2 ∨ i = 3 ∨ i = 4 ∨ i = 5 ∨ i = 6 := by omega
 rcases this with rfl | rfl | rfl | rfl | rfl | rfl | rfl <;> rfl
theorem rowT_cell {w w' : World} {ty : TypeId} {i : Nat} (h : i < 7) (hb : Below (w.heap.size + 1) (w.alloc (.cells rowT ty)) w') : w'.cell? ⟨w.heap.size, i, none⟩ = some (.string (bytesOf (actsT.getD i []))) := by
 refine (hb.cell (p := ⟨w.heap.size, i, none⟩) (by simp)).trans ?_
 have : i = 0 ∨ i = 1 ∨ i = 2 ∨ i = 3 ∨ i = 4 ∨ i = 5 ∨ i = 6 := by omega
 unfold rowT
 rcases this with rfl | rfl | rfl | rfl | rfl | rfl | rfl <;> go_simp <;> rfl
section
variable {P : Program} {ops : Array Oper} {Q : Exit → Act → World → Prop} {σ : Type} {S : σ → Array Bool → World → Prop} {vals : σ → Nat → Value} {z : Nat} {a0 : Act}
theorem wpAny_seq3 {oz : Oper} (hok : SeqOk2 ops z a0.tmps.size) (hz : ops[z]? = some oz)
  (hstep : ∀ i o, i < z → ops[i]? = some o → ∀ (q : σ) a w (l : Array Bool), Fr ops (vals q) z a0 a (· ∈ afterOn o) → l.size = z + 1 → l[i]? = some false → (∀ k ∈ afterOn o, l[k]? = some true) → (∀ (j : Nat) (oj : Oper), l[j]? = some true → ops[j]? = some oj → ∀ k ∈ afterOn oj, l[k]? = some true) → S q l w → ∀ K : Act → World → Prop, (∀ q' v, (∀ j, j ≠ i → l[j]? = some true → vals q' j = vals q j) → S q' (l.setIfInBounds i true) v → K (a.put o.dst (vals q' i)) v) → if Region.wanted o (yielded ops a.tmps) = true then o.wp P a w K Q else K (a.put o.dst undef) w)
  (hlast : ∀ (q : σ) w (l : Array Bool), (∀ j, j < z → l[j]? = some true) → S q l w → ∀ K : Act → World → Prop, (∀ b v, Q .normal b v → K b v) → if Region.wanted oz (yielded ops (putTo ops (vals q) a0 z).tmps) = true then oz.wp P (putTo ops (vals q) a0 z) w K Q else K ((putTo ops (vals q) a0 z).put oz.dst undef) w) :
  ∀ (n : Nat) (q : σ) (l : Array Bool) (a : Act) (w : World), l.size = ops.size → (∀ (i : Nat) (o : Oper), l[i]? = some true → ops[i]? = some o → ∀ k ∈ afterOn o, l[k]? = some true) → l[z]? = some false → Fr ops (vals q) z a0 a (fun j => l[j]? = some true) → l.toList.count false = n → S q l w → wpAny P .any ops Q n l a w := by
 intro n
 induction n with
 | zero =>
  intro q l a w _ _ h3 _ h5 _
  have := zbR h3
  omega
 | succ n ih =>
  intro q l a w h1 h2 h3 h4 h5 hS
  have hzs : z < l.size := (Array.getElem?_eq_some_iff.1 h3).1
  have hcase : ∀ k, k < l.size → l[k]? = some true ∨ l[k]? = some false := fun k hk => by
   rw [Array.getElem?_eq_getElem hk]
   cases l[k] <;> simp
  have hmem : ∀ i, i ∈ Region.ready .any ops l ↔ l[i]? = some false ∧ ∃ o, ops[i]? = some o ∧ ∀ k ∈ afterOn o, l[k]? = some true := by
   intro i
   rw [mem_ready]
   constructor
   ·rintro ⟨g1, o, ho, g2⟩
    have hi : i < l.size := by rw [h1]; exact (Array.getElem?_eq_some_iff.1 ho).1
    refine ⟨?_, o, ho, fun k hk => ?_⟩
    ·rcases hcase i hi with e | e
     ·rw [zbE e] at g1; cases g1
     ·exact e
    ·obtain ⟨e, he, hb, rfl⟩ := zcC.1 hk
     have g3 := g2 e he hb
     have hlt := hok.back i o ho e.on hk
     rcases hcase e.on (by omega) with e' | e'
     ·exact e'
     ·rw [zbE e'] at g3; cases g3
   ·rintro ⟨g1, o, ho, g2⟩
    exact ⟨zbE g1, o, ho, fun e he hb => zbE (g2 e.on (zcC.2 ⟨e, he, hb, rfl⟩))⟩
  refine ⟨fun hr => ?_, fun i hi => ?_⟩
  ·exfalso
   have key : ∀ m, m ≤ z → (∀ k, k < m → l[k]? = some true) := by
    intro m
    induction m with
    | zero => intro _ k hk; omega
    | succ m ihm =>
     intro hm k hk
     have prev := ihm (by omega)
     by_cases hkm : k < m
     ·exact prev k hkm
     ·obtain rfl : k = m := by omega
      rcases hcase k (by omega) with e | e
      ·exact e
      ·exfalso
       have hks : k < ops.size := by omega
       have : k ∈ Region.ready .any ops l := (hmem k).2 ⟨e, ops[k], Array.getElem?_eq_getElem hks, fun j hj => prev j (hok.back k _ (Array.getElem?_eq_getElem hks) j hj)⟩
       rw [hr] at this
       simp at this
   have : z ∈ Region.ready .any ops l := (hmem z).2 ⟨h3, oz, hz, fun j hj => key z (Nat.le_refl _) j (hok.back z _ hz j hj)⟩
   rw [hr] at this
   simp at this
  ·obtain ⟨g1, o, ho, g2⟩ := (hmem i).1 hi
   by_cases hiz : i = z
   ·subst hiz
    obtain rfl : oz = o := by rw [hz] at ho; exact Option.some.inj ho
    have hall : ∀ (m j : Nat), i - j ≤ m → j < i → l[j]? = some true := by
     intro m
     induction m with
     | zero => intro j h1 h2; omega
     | succ m ihm =>
      intro j hj1 hj2
      obtain ⟨k, ok, hjk, hki, hok', hin⟩ := hok.fore j hj2
      by_cases hke : k = i
      ·subst hke
       obtain rfl : oz = ok := by rw [hz] at hok'; exact Option.some.inj hok'
       exact g2 j hin
      ·exact h2 k ok (ihm k (by omega) (by omega)) hok' j hin
    have ha : a = putTo ops (vals q) a0 i := fr_all2 hok h4 (fun j hj => hall i j (by omega) hj)
    have hcnt := zbR g1
    have hnone : ∀ j : Nat, (l.setIfInBounds i true)[j]? ≠ some false := by
     intro j hj
     rw [Array.getElem?_setIfInBounds] at hj
     split at hj
     ·first
      | (cases hj; done)
      | (split at hj <;> cases hj)
     ·have hjs := (Array.getElem?_eq_some_iff.1 hj).1
      have := hall i j (by omega) (by rw [h1, hok.size] at hjs; omega)
      rw [hj] at this; cases this
    have hc0 : (l.setIfInBounds i true).toList.count false = 0 := by
     refine List.count_eq_zero.2 fun hm => ?_
     obtain ⟨j, hj⟩ := List.getElem?_of_mem hm
     exact hnone j (by rw [← Array.getElem?_toList]; exact hj)
    have hn0 : n = 0 := by omega
    subst hn0
    subst ha
    refine wpOp_step hz fun K' hK' => hlast q w l (fun j hj => hall i j (by omega) hj) hS K' fun b v hb => hK' b v ⟨?_, hb⟩
    cases hr : Region.ready .any ops (l.setIfInBounds i true) with
    | nil => rfl
    | cons j r =>
     exfalso
     have hj : j ∈ Region.ready .any ops (l.setIfInBounds i true) := by rw [hr]; simp
     obtain ⟨q1, o', ho', _⟩ := mem_ready.1 hj
     have hjs : j < (l.setIfInBounds i true).size := by rw [Array.size_setIfInBounds, h1]; exact (Array.getElem?_eq_some_iff.1 ho').1
     refine hnone j ?_
     rw [Array.getElem?_eq_getElem hjs]
     rw [Array.getD_eq_getD_getElem?, Array.getElem?_eq_getElem hjs] at q1
     simpa using q1
   ·have hiz' : i < z := by
     have := (Array.getElem?_eq_some_iff.1 ho).1
     rw [hok.size] at this; omega
    refine wpOp_step ho fun K' hK' => ?_
    refine hstep i o hiz' ho q a w l ⟨h4.size, h4.df, h4.old, fun j hj hjz d hd => h4.new j (g2 j hj) hjz d hd⟩ (by rw [h1, hok.size]) g1 g2 h2 hS K' fun q' v hqq hv => hK' _ _ ?_
    have hod : o.dst = dstOf ops i := by unfold dstOf; rw [ho]; rfl
    refine ih q' _ _ _ (by simpa using h1) ?_ ?_ ?_ (by have := zbR g1; omega) hv
    ·intro j o' hj ho' k hk
     have hkk : l[k]? = some true := by
      rw [Array.getElem?_setIfInBounds] at hj
      split at hj
      ·rename_i hij
       subst hij
       obtain rfl : o = o' := by rw [ho] at ho'; exact Option.some.inj ho'
       exact g2 k hk
      ·exact h2 j o' hj ho' k hk
     rw [Array.getElem?_setIfInBounds]
     split
     ·rename_i hik
      subst hik
      rw [hkk] at g1; cases g1
     ·exact hkk
    ·rw [Array.getElem?_setIfInBounds, if_neg hiz]
     exact h3
    ·refine ⟨by rw [put_size]; exact h4.size, by rw [put_df]; exact h4.df, fun k hk => ?_, fun j hj hjz d hd => ?_⟩
     ·rw [hod]
      cases hdi : dstOf ops i with
      | none => exact h4.old k hk
      | some di =>
       rw [zcB, if_neg (fun e => hk i hiz' (by rw [hdi, e]))]
       exact h4.old k hk
     ·rw [hod]
      by_cases hij : i = j
      ·subst hij
       rw [hd, zcB, if_pos rfl, h4.size, if_pos (hok.dst i hiz' d hd).1]
      ·have hj' : l[j]? = some true := by
        rw [Array.getElem?_setIfInBounds, if_neg hij] at hj
        exact hj
       have hold : a.tmps[d]? = some (vals q' j) := by
        rw [hqq j (fun e => hij e.symm) hj']
        exact h4.new j hj' hjz d hd
       cases hdi : dstOf ops i with
       | none => exact hold
       | some di =>
        rw [zcB, if_neg (fun e => (hok.dst j hjz d hd).2 i hiz' hij (by rw [hdi, e]))]
        exact hold
theorem wp_region_seq3 {id : Nat} {w : World} {oz : Oper} {σ : Type} (vals : σ → Nat → Value) (S : σ → Array Bool → World → Prop) (q0 : σ) (z : Nat) (hm : P.follows .mixedOrders = true) (hsq : seqB ops z = true) (hdb : dstB2 ops z a0.tmps.size = true) (hz : ops[z]? = some oz) (hS : S q0 (Array.replicate ops.size false) w.drew)
  (hstep : ∀ i o, i < z → ops[i]? = some o → ∀ (q : σ) a w (l : Array Bool), Fr ops (vals q) z a0 a (· ∈ afterOn o) → l.size = z + 1 → l[i]? = some false → (∀ k ∈ afterOn o, l[k]? = some true) → (∀ (j : Nat) (oj : Oper), l[j]? = some true → ops[j]? = some oj → ∀ k ∈ afterOn oj, l[k]? = some true) → S q l w → ∀ K : Act → World → Prop, (∀ q' v, (∀ j, j ≠ i → l[j]? = some true → vals q' j = vals q j) → S q' (l.setIfInBounds i true) v → K (a.put o.dst (vals q' i)) v) → if Region.wanted o (yielded ops a.tmps) = true then o.wp P a w K Q else K (a.put o.dst undef) w)
  (hlast : ∀ (q : σ) w (l : Array Bool), (∀ j, j < z → l[j]? = some true) → S q l w → ∀ K : Act → World → Prop, (∀ b v, Q .normal b v → K b v) → if Region.wanted oz (yielded ops (putTo ops (vals q) a0 z).tmps) = true then oz.wp P (putTo ops (vals q) a0 z) w K Q else K ((putTo ops (vals q) a0 z).put oz.dst undef) w) :
  (Code.region id ops true).wp P Q a0 w := by
 have hok := seqOk2 hsq hdb
 refine wp_region_any hm (wpAny_seq3 hok hz hstep hlast ops.size q0 (Array.replicate ops.size false) a0 _ (by simp) ?_ ?_ ⟨rfl, rfl, fun _ _ => rfl, ?_⟩ (by simp) hS)
 ·intro i o hi
  rw [Array.getElem?_replicate] at hi
  split at hi <;> cases hi
 ·rw [Array.getElem?_replicate, if_pos (by rw [hok.size]; omega)]
 ·intro j hj
  rw [Array.getElem?_replicate] at hj
  split at hj <;> cases hj
end
theorem SeesC.mono {w u : World} {n size : Nat} {v : Value} {cs : List Value} (h : SeesC w v n size cs) (hk : ∀ (x : Addr) (c : Value), w.cell? x = some c → u.cell? x = some c) : SeesC u v n size cs := by
 obtain ⟨hl, a, cap, rfl, h⟩ := h
 refine ⟨hl, a, cap, rfl, ?_⟩
 rcases h with h | ⟨b, off, rfl, h⟩
 ·exact .inl h
 ·exact .inr ⟨b, off, rfl, fun j c hj => hk _ _ (h j c hj)⟩
theorem SeesPv.mono {w u : World} {p : PV} (h : SeesPv w p) (hk : ∀ (x : Addr) (c : Value), w.cell? x = some c → u.cell? x = some c) : SeesPv u p :=
 ⟨h.d.mono hk, h.x.mono hk, h.s.mono hk, h.m.mono hk, fun x hx => (h.xk x hx).mono hk, fun x hx => (h.sa x hx).mono hk, fun x hx => (h.st x hx).mono hk, fun x hx => (h.se x hx).mono hk⟩
def KeepP (n : Nat) (w : World) (p : PV) : Prop := ∀ u : World, (∀ (x : Addr) (c : Value), x.block ≠ n → w.cell? x = some c → u.cell? x = some c) → SeesPv u p
theorem KeepP.sees {n : Nat} {w : World} {p : PV} (h : KeepP n w p) : SeesPv w p := h w fun _ _ _ e => e
theorem KeepP.mono {n : Nat} {w u : World} {p : PV} (h : KeepP n w p) (hk : ∀ (x : Addr) (c : Value), x.block ≠ n → w.cell? x = some c → u.cell? x = some c) : KeepP n u p :=
 fun v hv => h v fun x c hx hc => hv x c hx (hk x c hx hc)
theorem keep_of_lt {n : Nat} {w u : World} {p : PV} (h : SeesPv w p) (hn : w.heap.size ≤ n) (hk : ∀ (x : Addr) (c : Value), x.block ≠ n → w.cell? x = some c → u.cell? x = some c) : KeepP n u p :=
 fun v hv => h.mono fun x c hc => have := World.block_lt_of_cell? w _ hc; hv x c (by omega) (hk x c (by omega) hc)
theorem zcE {w u : World} {base e size n m : Nat} {v : Value} {cs : List Value} (h : w.ownsRow base e size v n cs) (hm : m < base) (hk : ∀ (x : Addr) (c : Value), x.block ≠ m → w.cell? x = some c → u.cell? x = some c) : SeesC u v n size cs := by
 have hs := zbA h
 rcases h.2 with ⟨rfl, h0⟩ | ⟨g, cap, cur, rfl, hg, _⟩
 ·exact ⟨h.1, none, 0, by rw [h0], .inl h0⟩
 ·obtain ⟨hl, a, cap', hv, h'⟩ := hs
  refine ⟨hl, a, cap', hv, ?_⟩
  rcases h' with h' | ⟨b, off, rfl, h'⟩
  ·exact .inl h'
  ·refine .inr ⟨b, off, rfl, fun j c hj => hk _ _ ?_ (h' j c hj)⟩
   cases hv
   show g ≠ m
   omega
theorem keep_own {w : World} {base m : Nat} {p : PV} (h : OwnP w base p) (hm : m < base) : KeepP m w p := fun u hk => {
 d := zcE (h.own (dRow p) (by simp)) hm hk
 x := zcE (h.own (xRow p) (by simp)) hm hk
 s := zcE (h.own (sRow p) (by simp)) hm hk
 m := zcE (h.own (mRow p) (by simp)) hm hk
 xk := fun x hx => zcE (h.own (kRow x) (by simp only [List.mem_cons, List.mem_append, List.mem_map]; exact .inr (.inr (.inr (.inr (.inl ⟨x, hx, rfl⟩)))))) hm hk
 sa := fun x hx => zcE (h.own ⟨x.av, 126, 6, x.s.acts.length, flatAc x.s.acts⟩ (by simp only [List.mem_cons, List.mem_append, List.mem_flatMap]; exact .inr (.inr (.inr (.inr (.inr ⟨x, hx, by simp [sRows]⟩)))))) hm hk
 st := fun x hx => zcE (h.own ⟨x.tv, 3, 1, x.s.thn.length, intsI x.s.thn⟩ (by simp only [List.mem_cons, List.mem_append, List.mem_flatMap]; exact .inr (.inr (.inr (.inr (.inr ⟨x, hx, by simp [sRows]⟩)))))) hm hk
 se := fun x hx => zcE (h.own ⟨x.ev, 3, 1, x.s.els.length, intsI x.s.els⟩ (by simp only [List.mem_cons, List.mem_append, List.mem_flatMap]; exact .inr (.inr (.inr (.inr (.inr ⟨x, hx, by simp [sRows]⟩)))))) hm hk }
def pcells (p : PV) : Array Value := #[p.dv, p.xv, p.sv, p.mv]
theorem SeesC.one {w : World} {n size : Nat} {v : Value} {cs : List Value} (h : SeesC w v n size cs) : v.oneCell' = true := by
 obtain ⟨_, a, cap, rfl, _⟩ := h
 rfl
theorem pcells_one {w : World} {p : PV} (h : SeesPv w p) : (pcells p).all (·.oneCell') = true := by
 simp [pcells, h.d.one, h.x.one, h.s.one, h.m.one]
structure SrcS (P : Prg) (W0 : World) (c a s : Nat) (q : Nat × PV) (l : Array Bool) (y : World) : Prop where
 below : Below W0.heap.size W0 y
 read : l[c]? = some true → q.2.prg = P ∧ SeesPv y q.2
 made : l[a]? = some true → W0.heap.size ≤ q.1 ∧ (∃ cs : Array Value, y.heap[q.1]? = some (.cells cs 47 (0, 0)) ∧ cs.size = 4 ∧ (l[s]? = some true → cs = pcells q.2)) ∧ (l[c]? = some true → KeepP q.1 y q.2)
theorem set_ne {l : Array Bool} {i j : Nat} (h : i ≠ j) : (l.setIfInBounds i true)[j]? = l[j]? := by rw [Array.getElem?_setIfInBounds, if_neg h]
theorem SrcS.pure {P : Prg} {W0 y : World} {c a s : Nat} {q : Nat × PV} {l : Array Bool} (h : SrcS P W0 c a s q l y) {i : Nat} (h1 : i ≠ c) (h2 : i ≠ a) (h3 : i ≠ s) : SrcS P W0 c a s q (l.setIfInBounds i true) y := by
 refine ⟨h.below, ?_, ?_⟩
 ·rw [set_ne h1]; exact h.read
 ·rw [set_ne h1, set_ne h2, set_ne h3]; exact h.made
theorem SrcS.call {P : Prg} {W0 y y' : World} {c a s : Nat} {q : Nat × PV} {l : Array Bool} (h : SrcS P W0 c a s q l y) (hca : c ≠ a) (hcs : c ≠ s) (hs : l[s]? ≠ some true) {p' : PV} (hp : p'.prg = P) (ho : OwnP y' y.heap.size p') (hb : Below y.heap.size y y') : SrcS P W0 c a s (q.1, p') (l.setIfInBounds c true) y' := by
 refine ⟨h.below.trans (hb.mono h.below.size), fun _ => ⟨hp, sees_own ho⟩, ?_⟩
 rw [set_ne hca, set_ne hcs]
 intro ha
 obtain ⟨m1, ⟨cs, m2, m3, _⟩, _⟩ := h.made ha
 have hlt : q.1 < y.heap.size := (Array.getElem?_eq_some_iff.1 m2).1
 exact ⟨m1, ⟨cs, (hb.block _ hlt).trans m2, m3, fun e => absurd e hs⟩, fun _ => keep_own ho hlt⟩
theorem SrcS.alloc {P : Prg} {W0 y : World} {c a s : Nat} {q : Nat × PV} {l : Array Bool} (h : SrcS P W0 c a s q l y) (hca : c ≠ a) (has : a ≠ s) (hs : l[s]? ≠ some true) (cs : Array Value) (hcs : cs.size = 4) : SrcS P W0 c a s (y.heap.size, q.2) (l.setIfInBounds a true) (y.alloc (.cells cs 47)) := by
 have hb : Below y.heap.size y (y.alloc (.cells cs 47)) := (Below.refl _ _).alloc (Nat.le_refl _) _
 refine ⟨h.below.trans (hb.mono h.below.size), ?_, ?_⟩
 ·rw [set_ne (Ne.symm hca)]
  intro hc
  exact ⟨(h.read hc).1, (h.read hc).2.below hb⟩
 ·rw [set_ne (Ne.symm hca), set_ne has]
  intro _
  refine ⟨h.below.size, ⟨cs, heap_alloc_last y _, hcs, fun e => absurd e hs⟩, fun hc => keep_of_lt (h.read hc).2 (Nat.le_refl _) fun x v _ hv => (hb.cell (World.block_lt_of_cell? y _ hv)).trans hv⟩
theorem SrcS.store {P : Prg} {W0 y : World} {c a s : Nat} {q : Nat × PV} {l : Array Bool} (h : SrcS P W0 c a s q l y) (_hcs : c ≠ s) (_has : a ≠ s) (hc : l[c]? = some true) (ha : l[a]? = some true) : SrcS P W0 c a s q (l.setIfInBounds s true) (y.setRow q.1 (pcells q.2)) := by
 obtain ⟨m1, ⟨cs, m2, m3, _⟩, m4⟩ := h.made ha
 have hk := (m4 hc).mono (u := y.setRow q.1 (pcells q.2)) fun x v hx hv => (cell_setRow_other y q.1 _ x hx).trans hv
 refine ⟨below_setRow h.below m1 _, fun _ => ⟨(h.read hc).1, hk.sees⟩, fun _ => ⟨m1, ⟨_, setRow_heap y q.1 cs _ _ _ m2, rfl, fun _ => rfl⟩, fun _ => hk⟩⟩
theorem SrcS.start (P : Prg) (W0 : World) (c a s n : Nat) (q : Nat × PV) : SrcS P W0 c a s q (Array.replicate n false) W0 := by
 have hr : ∀ k : Nat, (Array.replicate n false)[k]? ≠ some true := by
  intro k
  rw [Array.getElem?_replicate]
  split <;> simp
 exact ⟨Below.refl _ _, fun e => absurd e (hr _), fun e => absurd e (hr _)⟩
theorem SrcS.done {P : Prg} {W0 y : World} {c a s : Nat} {q : Nat × PV} {l : Array Bool} (h : SrcS P W0 c a s q l y) (hc : l[c]? = some true) (ha : l[a]? = some true) (hs : l[s]? = some true) : q.2.prg = P ∧ SeesPv y q.2 ∧ Below W0.heap.size W0 y ∧ W0.heap.size ≤ q.1 ∧ q.1 < y.heap.size ∧ y.cell? ⟨q.1, 0, none⟩ = some q.2.dv ∧ y.cell? ⟨q.1, 1, none⟩ = some q.2.xv ∧ y.cell? ⟨q.1, 2, none⟩ = some q.2.sv ∧ y.cell? ⟨q.1, 3, none⟩ = some q.2.mv := by
 obtain ⟨m1, ⟨cs, m2, m3, m5⟩, m4⟩ := h.made ha
 obtain rfl := m5 hs
 have g := fun j => cell_of_row y q.1 j _ _ _ m2
 exact ⟨(h.read hc).1, (h.read hc).2, h.below, m1, (Array.getElem?_eq_some_iff.1 m2).1, g 0, g 1, g 2, g 3⟩
end Go.Proofs.YtmekkhfohmfjkaaGreatDoor
