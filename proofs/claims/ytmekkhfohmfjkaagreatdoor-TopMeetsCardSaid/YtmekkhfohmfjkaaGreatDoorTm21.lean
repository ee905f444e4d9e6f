/-
  Part 21 of the proof: Ord, TlA, TlB.
-/
import Derived.Test.YtmekkhfohmfjkaaGreatDoorTm20
import Derived.Test.YtmekkhfohmfjkaaGreatDoorTm02
namespace Go.Proofs.YtmekkhfohmfjkaaGreatDoor
open Go.RowKit Go.Deep Go.MapKept
def afterOn (o : Oper) : List Nat := (o.after.toList.filter (Region.binds .any)).map (·.on)
def dstOf (ops : Array Oper) (i : Nat) : Option Nat := (ops[i]?).bind (·.dst)
def seqB (ops : Array Oper) (z : Nat) : Bool :=
 decide (ops.size = z + 1) && (List.range (z + 1)).all (fun i => match ops[i]? with | some o => (afterOn o).all (fun k => decide (k < i)) | none => false) &&
  (List.range z).all (fun i => (List.range (z + 1)).any fun j => decide (i < j) && match ops[j]? with | some o => (afterOn o).contains i | none => false)
def dstB (ops : Array Oper) (z n : Nat) : Bool :=
 (List.range z).all fun i => match dstOf ops i with
  | some d => decide (d < n) && (List.range z).all (fun j => i == j || !(dstOf ops j == some d))
  | none => false
structure Fr (ops : Array Oper) (vals : Nat → Value) (z : Nat) (a0 a : Act) (D : Nat → Prop) : Prop where
 size : a.tmps.size = a0.tmps.size
 df : a.defers = a0.defers
 old : ∀ k, (∀ i, i < z → dstOf ops i ≠ some k) → a.tmps[k]? = a0.tmps[k]?
 new : ∀ j, D j → j < z → ∀ d, dstOf ops j = some d → a.tmps[d]? = some (vals j)
def putTo (ops : Array Oper) (vals : Nat → Value) (a0 : Act) : Nat → Act
 | 0 => a0
 | m + 1 => (putTo ops vals a0 m).put (dstOf ops m) (vals m)
theorem act_ext {a b : Act} (h1 : a.tmps = b.tmps) (h2 : a.defers = b.defers) : a = b := by cases a; cases b; cases h1; cases h2; rfl
theorem zcC {o : Oper} {k : Nat} : k ∈ afterOn o ↔ ∃ e ∈ o.after, Region.binds .any e = true ∧ e.on = k := by
 unfold afterOn
 simp only [List.mem_map, List.mem_filter, Array.mem_toList_iff]
 constructor
 ·rintro ⟨e, ⟨h1, h2⟩, h3⟩; exact ⟨e, h1, h2, h3⟩
 ·rintro ⟨e, h1, h2, h3⟩; exact ⟨e, ⟨h1, h2⟩, h3⟩
structure SeqOk (ops : Array Oper) (z n : Nat) : Prop where
 size : ops.size = z + 1
 back : ∀ i o, ops[i]? = some o → ∀ k ∈ afterOn o, k < i
 fore : ∀ i, i < z → ∃ j o, i < j ∧ j ≤ z ∧ ops[j]? = some o ∧ i ∈ afterOn o
 dst : ∀ i, i < z → ∃ d, dstOf ops i = some d ∧ d < n ∧ ∀ j, j < z → j ≠ i → dstOf ops j ≠ some d
theorem seqOk {ops : Array Oper} {z n : Nat} (h : seqB ops z = true) (hd : dstB ops z n = true) : SeqOk ops z n := by
 unfold seqB at h
 simp only [Bool.and_eq_true, decide_eq_true_eq, List.all_eq_true, List.mem_range, List.any_eq_true] at h
 obtain ⟨⟨h1, h2⟩, h3⟩ := h
 refine ⟨h1, ?_, ?_, ?_⟩
 ·intro i o ho k hk
  have hi : i < ops.size := (Array.getElem?_eq_some_iff.1 ho).1
  have := h2 i (by omega)
  rw [ho] at this
  exact of_decide_eq_true (List.all_eq_true.1 this k hk)
 ·intro i hi
  obtain ⟨j, hj, hx⟩ := h3 i hi
  cases ho : ops[j]? with
  | none => rw [ho] at hx; simp at hx
  | some o =>
   rw [ho] at hx
   simp only [List.contains_iff_mem] at hx
   exact ⟨j, o, hx.1, by omega, ho, hx.2⟩
 ·intro i hi
  unfold dstB at hd
  have := List.all_eq_true.1 hd i (List.mem_range.2 hi)
  cases hdi : dstOf ops i with
  | none => rw [hdi] at this; cases this
  | some d =>
   rw [hdi] at this
   simp only [Bool.and_eq_true, decide_eq_true_eq, List.all_eq_true, List.mem_range, Bool.or_eq_true, beq_iff_eq, Bool.not_eq_true'] at this
   refine ⟨d, rfl, this.1, fun j hj hji e => ?_⟩
   rcases this.2 j hj with e' | e'
   ·exact hji e'.symm
   ·rw [e] at e'; simp at e'
theorem put_size (a : Act) (d : Option Nat) (v : Value) : (a.put d v).tmps.size = a.tmps.size := by cases d <;> simp [Act.put]
theorem put_df (a : Act) (d : Option Nat) (v : Value) : (a.put d v).defers = a.defers := by cases d <;> rfl
theorem zcB (a : Act) (d k : Nat) (v : Value) : (a.put (some d) v).tmps[k]? = if d = k then (if d < a.tmps.size then some v else none) else a.tmps[k]? := by
 simp only [Act.put, Array.getElem?_setIfInBounds]
theorem putTo_size (ops : Array Oper) (vals : Nat → Value) (a0 : Act) : ∀ m, (putTo ops vals a0 m).tmps.size = a0.tmps.size
 | 0 => rfl
 | m + 1 => by simp only [putTo]; rw [put_size, putTo_size ops vals a0 m]
theorem putTo_df (ops : Array Oper) (vals : Nat → Value) (a0 : Act) : ∀ m, (putTo ops vals a0 m).defers = a0.defers
 | 0 => rfl
 | m + 1 => by simp only [putTo]; rw [put_df, putTo_df ops vals a0 m]
theorem putTo_old (ops : Array Oper) (vals : Nat → Value) (a0 : Act) (k : Nat) : ∀ m, (∀ i, i < m → dstOf ops i ≠ some k) → (putTo ops vals a0 m).tmps[k]? = a0.tmps[k]?
 | 0, _ => rfl
 | m + 1, h => by
  simp only [putTo]
  have ih := putTo_old ops vals a0 k m (fun i hi => h i (by omega))
  cases hd : dstOf ops m with
  | none => exact ih
  | some d =>
   rw [zcB, if_neg (fun e => h m (by omega) (by rw [hd, e]))]
   exact ih
theorem putTo_new {ops : Array Oper} {z : Nat} (vals : Nat → Value) (a0 : Act) (hok : SeqOk ops z a0.tmps.size) {i d : Nat} (hd : dstOf ops i = some d) : ∀ m, i < m → m ≤ z → (putTo ops vals a0 m).tmps[d]? = some (vals i)
 | 0, h, _ => absurd h (by omega)
 | m + 1, h, hm => by
  simp only [putTo]
  obtain ⟨d', hd', hlt, hne⟩ := hok.dst i (by omega)
  obtain rfl : d = d' := by rw [hd] at hd'; exact Option.some.inj hd'
  by_cases him : i = m
  ·subst him
   rw [hd, zcB, if_pos rfl, putTo_size, if_pos hlt]
  ·have ih := putTo_new vals a0 hok hd m (by omega) (by omega)
   cases hdm : dstOf ops m with
   | none => exact ih
   | some d2 =>
    rw [zcB, if_neg (fun e => hne m (by omega) (Ne.symm him) (by rw [hdm, e]))]
    exact ih
theorem fr_all {ops : Array Oper} {vals : Nat → Value} {z : Nat} {a0 a : Act} (hok : SeqOk ops z a0.tmps.size) {D : Nat → Prop} (h : Fr ops vals z a0 a D) (hD : ∀ j, j < z → D j) : a = putTo ops vals a0 z := by
 refine act_ext (Array.ext_getElem? fun k => ?_) (h.df.trans (putTo_df ops vals a0 z).symm)
 by_cases hk : ∃ i, i < z ∧ dstOf ops i = some k
 ·obtain ⟨i, hi, hd⟩ := hk
  rw [h.new i (hD i hi) hi k hd, putTo_new vals a0 hok hd z hi (Nat.le_refl _)]
 ·have hk' : ∀ i, i < z → dstOf ops i ≠ some k := fun i hi e => hk ⟨i, hi, e⟩
  rw [h.old k hk', putTo_old ops vals a0 k z hk']
theorem zbR {l : Array Bool} {i : Nat} (h : l[i]? = some false) : (l.setIfInBounds i true).toList.count false + 1 = l.toList.count false := by
 have hi : i < l.toList.length := by have := (Array.getElem?_eq_some_iff.1 h).1; simpa using this
 have he : l.toList[i] = false := by
  have := (Array.getElem?_eq_some_iff.1 h).2
  simpa using this
 have h1 : 1 ≤ l.toList.count false := List.one_le_count_iff.2 (he ▸ List.getElem_mem hi)
 have h2 := List.count_set (a := true) (b := false) hi
 rw [he] at h2
 rw [Array.toList_setIfInBounds, h2]
 have e1 : ((false == false) = true) := rfl
 have e2 : ¬ ((true == false) = true) := by decide
 rw [if_pos e1, if_neg e2]
 omega
theorem zaJ {o : Oper} {y : Nat → Option Bool} (h : o.guard = none) : Region.wanted o y = true := by
 unfold Region.wanted
 rw [h]
theorem st_pos {c : Bool} {p q : Prop} (h : c = true) (hp : p) : if c = true then p else q := by rw [if_pos h]; exact hp
theorem st_neg {c : Bool} {p q : Prop} (h : c = false) (hq : q) : if c = true then p else q := by rw [if_neg (by rw [h]; decide)]; exact hq
theorem old_of {ops : Array Oper} {z k : Nat} (h : ((List.range z).all fun i => !(dstOf ops i == some k)) = true) : ∀ i, i < z → dstOf ops i ≠ some k := by
 intro i hi e
 have := List.all_eq_true.1 h i (List.mem_range.2 hi)
 rw [e] at this
 simp at this
theorem so {x : Option Oper} {o p : Oper} (h : x = some o) (k : x = some p) : o = p := Option.some.inj (h.symm.trans k)
theorem Fr.nw {ops : Array Oper} {vals : Nat → Value} {z : Nat} {a0 a : Act} {o : Oper} (hF : Fr ops vals z a0 a (· ∈ afterOn o)) (j d : Nat) (h : ((afterOn o).contains j && decide (j < z) && (dstOf ops j == some d)) = true := by kernel_rfl) : a.tmps[d]? = some (vals j) := by
 simp only [Bool.and_eq_true, decide_eq_true_eq, beq_iff_eq] at h
 exact hF.new j (List.contains_iff_mem.1 h.1.1) h.1.2 d h.2
theorem Fr.ev {ops : Array Oper} {vals : Nat → Value} {z : Nat} {a0 a : Act} {o : Oper} (hF : Fr ops vals z a0 a (· ∈ afterOn o)) (j d : Nat) (h : ((afterOn o).contains j && decide (j < z) && (dstOf ops j == some d)) = true := by kernel_rfl) : a.eval (.tmp d) = vals j := zaC (hF.nw j d h)
theorem Fr.od {ops : Array Oper} {vals : Nat → Value} {z : Nat} {a0 a : Act} {D : Nat → Prop} (hF : Fr ops vals z a0 a D) (k : Nat) {v : Value} (e : a0.tmps[k]? = some v) (h : ((List.range z).all fun i => !(dstOf ops i == some k)) = true := by kernel_rfl) : a.eval (.tmp k) = v := zaC ((hF.old k (old_of h)).trans e)
theorem zbG {P : Program} {Q : Exit → Act → World → Prop} {o : Oper} {a : Act} {w : World} {K : Act → World → Prop} {v : Value} (hr : (execOp a.eval o).run P w = .ok (.value v) w) (hk : K (a.put o.dst v) w) : o.wp P a w K Q := by
 unfold Oper.wp
 rw [hr, Oper.upon_value]
 exact hk
theorem zaV {P : Program} {Q : Exit → Act → World → Prop} {o : Oper} {a : Act} {w : World} {K : Act → World → Prop} {v : Value} {y : Nat → Option Bool} {q : Prop} (hg : o.guard = none) (hr : (execOp a.eval o).run P w = .ok (.value v) w) (hk : K (a.put o.dst v) w) : if Region.wanted o y = true then o.wp P a w K Q else q := st_pos (zaJ hg) (zbG hr hk)
theorem zbN {ops : Array Oper} {o : Oper} {a : Act} {g d : Nat} {b : Bool} {p q : Prop} (hg : o.guard = some (g, b)) (hd : dstOf ops g = some d) (hv : a.tmps[d]? = some (.bool b)) (hp : p) : if Region.wanted o (yielded ops a.tmps) = true then p else q := by
 refine st_pos ?_ hp
 unfold Region.wanted
 rw [hg]
 show (yielded ops a.tmps g == some b) = true
 rw [yl_of hd hv]
 simp
theorem zbS {ops : Array Oper} {o : Oper} {a : Act} {g d : Nat} {b : Bool} {p q : Prop} (hg : o.guard = some (g, b)) (hd : dstOf ops g = some d) (hv : a.tmps[d]? = some (.bool !b)) (hq : q) : if Region.wanted o (yielded ops a.tmps) = true then p else q := by
 refine st_neg ?_ hq
 unfold Region.wanted
 rw [hg]
 show (yielded ops a.tmps g == some b) = false
 rw [yl_of hd hv]
 cases b <;> rfl
theorem zbK {l : Array Bool} {i j : Nat} (h : i ≠ j) : (l.setIfInBounds i true)[j]? = l[j]? := by rw [Array.getElem?_setIfInBounds, if_neg h]
section
variable {P : Program} {ops : Array Oper} {Q : Exit → Act → World → Prop} {S : World → Prop} {vals : Nat → Value} {z : Nat} {a0 : Act}
theorem zbE {l : Array Bool} {i : Nat} {b c : Bool} (h : l[i]? = some b) : l.getD i c = b := by rw [Array.getD_eq_getD_getElem?, h]; rfl
theorem wpAny_seq {oz : Oper} (hok : SeqOk ops z a0.tmps.size) (hz : ops[z]? = some oz)
  (hstep : ∀ i o, i < z → ops[i]? = some o → ∀ a w, Fr ops vals z a0 a (· ∈ afterOn o) → S w → ∀ K : Act → World → Prop, (∀ v, S v → K (a.put o.dst (vals i)) v) → if Region.wanted o (yielded ops a.tmps) = true then o.wp P a w K Q else K (a.put o.dst undef) w)
  (hlast : ∀ w, S w → ∀ K : Act → World → Prop, (∀ b v, Q .normal b v → K b v) → if Region.wanted oz (yielded ops (putTo ops vals a0 z).tmps) = true then oz.wp P (putTo ops vals a0 z) w K Q else K ((putTo ops vals a0 z).put oz.dst undef) w) :
  ∀ (n : Nat) (l : Array Bool) (a : Act) (w : World), l.size = ops.size → (∀ (i : Nat) (o : Oper), l[i]? = some true → ops[i]? = some o → ∀ k ∈ afterOn o, l[k]? = some true) → l[z]? = some false → Fr ops vals z a0 a (fun j => l[j]? = some true) → l.toList.count false = n → S w → wpAny P .any ops Q n l a w := by
 intro n
 induction n with
 | zero =>
  intro l a w _ _ h3 _ h5 _
  have := zbR h3
  omega
 | succ n ih =>
  intro l a w h1 h2 h3 h4 h5 hS
  have hzs : z < l.size := (Array.getElem?_eq_some_iff.1 h3).1
  have hcase : ∀ k, k < l.size → l[k]? = some true ∨ l[k]? = some false := fun k hk => by
   rw [Array.getElem?_eq_getElem hk]
   cases l[k] <;> simp
  have hmem : ∀ i, i ∈ Region.ready .any ops l ↔ l[i]? = some false ∧ ∃ o, ops[i]? = some o ∧ ∀ k ∈ afterOn o, l[k]? = some true := by
   intro i
   rw [mem_ready]
   constructor
   ·rintro ⟨g1, o, ho, g2⟩
    have hi : i < l.size := by rw [h1]; exact (Array.getElem?_eq_some_iff.1 ho).1
    refine ⟨?_, o, ho, fun k hk => ?_⟩
    ·rcases hcase i hi with e | e
     ·rw [zbE e] at g1; cases g1
     ·exact e
    ·obtain ⟨e, he, hb, rfl⟩ := zcC.1 hk
     have g3 := g2 e he hb
     have hlt := hok.back i o ho e.on hk
     rcases hcase e.on (by omega) with e' | e'
     ·exact e'
     ·rw [zbE e'] at g3; cases g3
   ·rintro ⟨g1, o, ho, g2⟩
    exact ⟨zbE g1, o, ho, fun e he hb => zbE (g2 e.on (zcC.2 ⟨e, he, hb, rfl⟩))⟩
  refine ⟨fun hr => ?_, fun i hi => ?_⟩
  ·exfalso
   have key : ∀ m, m ≤ z → (∀ k, k < m → l[k]? = some true) := by
    intro m
    induction m with
    | zero => intro _ k hk; omega
    | succ m ihm =>
     intro hm k hk
     have prev := ihm (by omega)
     by_cases hkm : k < m
     ·exact prev k hkm
     ·obtain rfl : k = m := by omega
      rcases hcase k (by omega) with e | e
      ·exact e
      ·exfalso
       have hks : k < ops.size := by omega
       have : k ∈ Region.ready .any ops l := (hmem k).2 ⟨e, ops[k], Array.getElem?_eq_getElem hks, fun j hj => prev j (hok.back k _ (Array.getElem?_eq_getElem hks) j hj)⟩
       rw [hr] at this
       simp at this
   have : z ∈ Region.ready .any ops l := (hmem z).2 ⟨h3, oz, hz, fun j hj => key z (Nat.le_refl _) j (hok.back z _ hz j hj)⟩
   rw [hr] at this
   simp at this
  ·obtain ⟨g1, o, ho, g2⟩ := (hmem i).1 hi
   by_cases hiz : i = z
   ·subst hiz
    obtain rfl : oz = o := by rw [hz] at ho; exact Option.some.inj ho
    have hall : ∀ (m j : Nat), i - j ≤ m → j < i → l[j]? = some true := by
     intro m
     induction m with
     | zero => intro j h1 h2; omega
     | succ m ihm =>
      intro j hj1 hj2
      obtain ⟨k, ok, hjk, hki, hok', hin⟩ := hok.fore j hj2
      by_cases hke : k = i
      ·subst hke
       obtain rfl : oz = ok := by rw [hz] at hok'; exact Option.some.inj hok'
       exact g2 j hin
      ·exact h2 k ok (ihm k (by omega) (by omega)) hok' j hin
    have ha : a = putTo ops vals a0 i := fr_all hok h4 (fun j hj => hall i j (by omega) hj)
    have hcnt := zbR g1
    have hnone : ∀ j : Nat, (l.setIfInBounds i true)[j]? ≠ some false := by
     intro j hj
     rw [Array.getElem?_setIfInBounds] at hj
     split at hj
     ·first
      | (cases hj; done)
      | (split at hj <;> cases hj)
     ·have hjs := (Array.getElem?_eq_some_iff.1 hj).1
      have := hall i j (by omega) (by rw [h1, hok.size] at hjs; omega)
      rw [hj] at this; cases this
    have hc0 : (l.setIfInBounds i true).toList.count false = 0 := by
     refine List.count_eq_zero.2 fun hm => ?_
     obtain ⟨j, hj⟩ := List.getElem?_of_mem hm
     exact hnone j (by rw [← Array.getElem?_toList]; exact hj)
    have hn0 : n = 0 := by omega
    subst hn0
    subst ha
    refine wpOp_step hz fun K' hK' => hlast w hS K' fun b v hb => hK' b v ⟨?_, hb⟩
    cases hr : Region.ready .any ops (l.setIfInBounds i true) with
    | nil => rfl
    | cons j r =>
     exfalso
     have hj : j ∈ Region.ready .any ops (l.setIfInBounds i true) := by rw [hr]; simp
     obtain ⟨q1, o', ho', _⟩ := mem_ready.1 hj
     have hjs : j < (l.setIfInBounds i true).size := by rw [Array.size_setIfInBounds, h1]; exact (Array.getElem?_eq_some_iff.1 ho').1
     refine hnone j ?_
     rw [Array.getElem?_eq_getElem hjs]
     rw [Array.getD_eq_getD_getElem?, Array.getElem?_eq_getElem hjs] at q1
     simpa using q1
   ·have hiz' : i < z := by
     have := (Array.getElem?_eq_some_iff.1 ho).1
     rw [hok.size] at this; omega
    refine wpOp_step ho fun K' hK' => ?_
    refine hstep i o hiz' ho a w ⟨h4.size, h4.df, h4.old, fun j hj hjz d hd => h4.new j (g2 j hj) hjz d hd⟩ hS K' fun v hv => hK' _ _ ?_
    obtain ⟨di, hdi, hdlt, hdne⟩ := hok.dst i hiz'
    have hod : o.dst = some di := by unfold dstOf at hdi; rw [ho] at hdi; exact hdi
    refine ih _ _ _ (by simpa using h1) ?_ ?_ ?_ (by have := zbR g1; omega) hv
    ·intro j o' hj ho' k hk
     have hkk : l[k]? = some true := by
      rw [Array.getElem?_setIfInBounds] at hj
      split at hj
      ·rename_i hij
       subst hij
       obtain rfl : o = o' := by rw [ho] at ho'; exact Option.some.inj ho'
       exact g2 k hk
      ·exact h2 j o' hj ho' k hk
     rw [Array.getElem?_setIfInBounds]
     split
     ·rename_i hik
      subst hik
      rw [hkk] at g1; cases g1
     ·exact hkk
    ·rw [Array.getElem?_setIfInBounds, if_neg hiz]
     exact h3
    ·refine ⟨by rw [hod, put_size]; exact h4.size, by rw [hod, put_df]; exact h4.df, fun k hk => ?_, fun j hj hjz d hd => ?_⟩
     ·rw [hod, zcB, if_neg (fun e => hk i hiz' (by rw [hdi, e]))]
      exact h4.old k hk
     ·rw [hod, zcB]
      by_cases hij : i = j
      ·subst hij
       obtain rfl : di = d := by rw [hdi] at hd; exact Option.some.inj hd
       rw [if_pos rfl, h4.size, if_pos hdlt]
      ·rw [if_neg (fun e => hdne j hjz (Ne.symm hij) (by rw [hd, e]))]
       refine h4.new j ?_ hjz d hd
       rw [Array.getElem?_setIfInBounds, if_neg hij] at hj
       exact hj
theorem zaU {id : Nat} {w : World} {oz : Oper} (vals : Nat → Value) (S : World → Prop) (z : Nat) (hm : P.follows .mixedOrders = true) (hsq : seqB ops z = true) (hdb : dstB ops z a0.tmps.size = true) (hz : ops[z]? = some oz) (hS : S w.drew)
  (hstep : ∀ i o, i < z → ops[i]? = some o → ∀ a w, Fr ops vals z a0 a (· ∈ afterOn o) → S w → ∀ K : Act → World → Prop, (∀ v, S v → K (a.put o.dst (vals i)) v) → if Region.wanted o (yielded ops a.tmps) = true then o.wp P a w K Q else K (a.put o.dst undef) w)
  (hlast : ∀ w, S w → ∀ K : Act → World → Prop, (∀ b v, Q .normal b v → K b v) → if Region.wanted oz (yielded ops (putTo ops vals a0 z).tmps) = true then oz.wp P (putTo ops vals a0 z) w K Q else K ((putTo ops vals a0 z).put oz.dst undef) w) :
  (Code.region id ops true).wp P Q a0 w := by
 have hok := seqOk hsq hdb
 refine wp_region_any hm (wpAny_seq hok hz hstep hlast ops.size (Array.replicate ops.size false) a0 _ (by simp) ?_ ?_ ⟨rfl, rfl, fun _ _ => rfl, ?_⟩ (by simp) hS)
 ·intro i o hi
  rw [Array.getElem?_replicate] at hi
  split at hi <;> cases hi
 ·rw [Array.getElem?_replicate, if_pos (by rw [hok.size]; omega)]
 ·intro j hj
  rw [Array.getElem?_replicate] at hj
  split at hj <;> cases hj
end
theorem zbH (a : Value) (w : World) : Calls Tryz.prog 124 #[a, .bool true] w fun e w' => e = .returned (.tuple #[]) ∧ w = w' := by
 go_enter Tryz.func124, Tryz.ntmps124
 go_wp2
 go_end0
 exact ⟨rfl, rfl⟩
theorem zaW (a : Value) (w : World) : Calls Tryz.prog 124 #[a, .bool false] w fun e w' => e = .panicked flt3 ∧ w = w' := by
 go_enter Tryz.func124, Tryz.ntmps124
 go_wp2
 exact ⟨rfl, rfl, rfl⟩
def tkBox (b : Nat) (tk : Tok) : Rw := ⟨bx b, 91, 4, 1, [.int .u8 tk.k, .string tk.s, .int .i64 tk.n, .int .i64 tk.p]⟩
def fo3o0 : Oper := ⟨some 18, .move (.tmp 0), 219, "tell.go:27", #[], none⟩
def fo3o1 : Oper := ⟨some 19, .nilCheck (.tmp 18), 0, "tell.go:27", #[⟨0, .data⟩], none⟩
def fo3o2 : Oper := ⟨some 20, .fieldAddr 174 (.tmp 19) 5, 0, "tell.go:27", #[⟨1, .data⟩], none⟩
def fo3o3 : Oper := ⟨some 21, .load 117 (.tmp 20), 117, "tell.go:27", #[⟨2, .data⟩], none⟩
def fo3o4 : Oper := ⟨some 22, .load 91 (.tmp 3), 91, "tell.go:27", #[], none⟩
def fo3o5 : Oper := ⟨some 23, .call ⟨.value (.tmp 21), #[.tmp 22], #[91]⟩, 0, "tell.go:27", #[⟨3, .data⟩, ⟨4, .data⟩], none⟩
def fo3 : Array Oper := #[fo3o0, fo3o1, fo3o2, fo3o3, fo3o4, fo3o5]
theorem fo3_0 : fo3[0]? = some fo3o0 := by kernel_rfl
theorem fo3_1 : fo3[1]? = some fo3o1 := by kernel_rfl
theorem fo3_2 : fo3[2]? = some fo3o2 := by kernel_rfl
theorem fo3_3 : fo3[3]? = some fo3o3 := by kernel_rfl
theorem fo3_4 : fo3[4]? = some fo3o4 := by kernel_rfl
theorem fo3_5 : fo3[5]? = some fo3o5 := by kernel_rfl
theorem fo3_d0 : dstOf fo3 0 = some 18 := by kernel_rfl
theorem fo3_d1 : dstOf fo3 1 = some 19 := by kernel_rfl
theorem fo3_d2 : dstOf fo3 2 = some 20 := by kernel_rfl
theorem fo3_d3 : dstOf fo3 3 = some 21 := by kernel_rfl
theorem fo3_d4 : dstOf fo3 4 = some 22 := by kernel_rfl
set_option maxRecDepth 100000 in
set_option maxHeartbeats 1000000 in
theorem form_any {t : Tx} {F : Nat} (hk : t.Ok F) {σ : TS} {X : List Rw} {w : World} {tk : Tok} (h : TlR t σ X w) (hl : TsOk1 σ) (hs : SmlN tk.s) : Calls Tryz.prog 173 #[.pointer (some ⟨t.B, 0, none⟩), .agg #[.int .u8 tk.k, .string tk.s, .int .i64 tk.n, .int .i64 tk.p]] w (TPost t X (tForm tk σ)) := by
 obtain rfl := hk.isF
 obtain ⟨hput, hfn⟩ := hk.fn
 have HFN := hidI hfn
 have HPUT := hidI hput
 have HSM := hidI hs
 have HA : Hid (TlR t σ (tkBox w.heap.size tk :: X) (w.alloc (.cells #[.int .u8 tk.k, .string tk.s, .int .i64 tk.n, .int .i64 tk.p] 91))) := hidI (h.newbox 91 4 #[.int .u8 tk.k, .string tk.s, .int .i64 tk.n, .int .i64 tk.p] rfl)
 have b6 := HA.out.cell (j := 6) (u := .int .i64 (σ.f : Int)) rfl
 have z6 := HA.out.free 6
 have hBl := h.lt
 obtain ⟨l1, l2, l3⟩ := hl
 clear hs hfn hput
 have HR : Hid (tForm tk σ = if σ.f + 1 ≤ 400 then some { σ with f := σ.f + 1, ts := σ.ts ++ [tk] } else none) := hidI rfl
 by_cases hf : σ.f + 1 ≤ 400
 ·have HR2 : Hid (tForm tk σ = some { σ with f := σ.f + 1, ts := σ.ts ++ [tk] }) := hidI (by rw [HR.out, if_pos hf])
  have HLIM : Hid (TsOk { σ with f := σ.f + 1, ts := σ.ts ++ [tk] }) := hidI ⟨hf, by simp only [List.length_append, List.length_cons, List.length_nil]; omega, l3⟩
  have HS1 : Hid (TlR t { σ with f := σ.f + 1 } (tkBox w.heap.size tk :: X) ((w.setCell ⟨t.B, 6, none⟩ (.int .i64 ((σ.f : Int) + 1))).alloc (.cells #[.int .u8 tk.k, .string tk.s, .int .i64 tk.n, .int .i64 tk.p] 91))) := hidI (by
   have h0 := (h.setc 6 (.int .i64 ((σ.f : Int) + 1)) { σ with f := σ.f + 1 } rfl (by simp [tlBox])).newbox 91 4 #[.int .u8 tk.k, .string tk.s, .int .i64 tk.n, .int .i64 tk.p] rfl
   rwa [World.size_setCell] at h0)
  have c6 := HS1.out.cell (j := 6) (u := .int .i64 ((σ.f : Int) + 1)) rfl
  have k1 : (σ.f : Int) + 1 ≤ 400 := by omega
  have CM := hidI (fun W => zbH (.pointer (some ⟨t.B, 0, none⟩)) W)
  clear HA HR h
  replace HR := HR2
  clear HR2
  go_enter Tryz.func173, Tryz.ntmps173
  go_wp2_with (go_at_call 124; refine Calls.mono (CM.out _) ?_; intro e w2 h2; obtain ⟨rfl, rfl⟩ := h2; clear CM)
  refine zaU (ops := fo3) (fun i => match i with | 0 => .pointer (some ⟨t.B, 0, none⟩) | 1 => .pointer (some ⟨t.B, 0, none⟩) | 2 => .pointer (some ⟨t.B, 8, none⟩) | 3 => .func (.func 52) #[] #[] | 4 => .agg #[.int .u8 tk.k, .string tk.s, .int .i64 tk.n, .int .i64 tk.p] | _ => undef) (fun y => TlR t { σ with f := σ.f + 1 } (tkBox w.heap.size tk :: X) y) 5 Tryz.mixed (by kernel_rfl) (by kernel_rfl) fo3_5 HS1.out.drew ?_ ?_
  ·intro i9 o9 hi9 ho9 a9 w9 hF9 hS9 K9 hK9
   have hc9 : i9 = 0 ∨ i9 = 1 ∨ i9 = 2 ∨ i9 = 3 ∨ i9 = 4 := by omega
   clear hi9
   rcases hc9 with rfl | rfl | rfl | rfl | rfl
   ·obtain rfl := so fo3_0 ho9
    have e0 := hF9.od 0 (v := .pointer (some ⟨t.B, 0, none⟩)) rfl
    refine zaV rfl ?_ (hK9 _ hS9)
    clear ho9 hF9
    simp only [fo3o0, execOp, e0]
    first | done | (go_simp <;> omega)
   ·obtain rfl := so fo3_1 ho9
    have e18 := hF9.ev 0 18
    refine zaV rfl ?_ (hK9 _ hS9)
    clear ho9 hF9
    simp only [fo3o1, execOp, e18]
    first | done | (go_simp <;> omega)
   ·obtain rfl := so fo3_2 ho9
    have e19 := hF9.ev 1 19
    refine zaV rfl ?_ (hK9 _ hS9)
    clear ho9 hF9
    simp only [fo3o2, execOp, e19]
    first | done | (go_simp <;> omega)
   ·obtain rfl := so fo3_3 ho9
    have e20 := hF9.ev 2 20
    have c8 := hS9.cell (j := 8) (u := t.put) rfl
    rw [HPUT.out] at c8
    refine zaV rfl ?_ (hK9 _ hS9)
    clear ho9 hF9
    simp only [fo3o3, execOp, e20]
    first | done | (go_simp <;> omega)
   ·obtain rfl := so fo3_4 ho9
    have e3 := hF9.od 3 (v := .pointer (some ⟨w.heap.size, 0, none⟩)) rfl
    have q0 := zaA hS9.row (j := 0) rfl
    have q1 := zaA hS9.row (j := 1) rfl
    have q2 := zaA hS9.row (j := 2) rfl
    have q3 := zaA hS9.row (j := 3) rfl
    refine zaV rfl ?_ (hK9 _ hS9)
    clear ho9 hF9
    simp only [fo3o4, execOp, e3]
    first | done | (go_simp <;> omega)
  ·intro w9 hS9 K9 hK9
   simp only [putTo, fo3_d0, fo3_d1, fo3_d2, fo3_d3, fo3_d4, fo3o5]
   rw [if_pos (zaJ rfl)]
   unfold Oper.wp
   go_simp
   refine Calls.mono (HFN.out _ _ _ tk hS9 (by simp only; omega) HSM.out) ?_
   rintro e w1 ⟨rfl, h1⟩
   refine hK9 _ _ ?_
   go_end0
   rw [HR.out]
   exact ⟨rfl, h1.less, HLIM.out⟩
 ·have HR2 : Hid (tForm tk σ = none) := hidI (by rw [HR.out, if_neg hf])
  have HS1 : Hid (TlR t { σ with f := σ.f + 1 } (tkBox w.heap.size tk :: X) ((w.setCell ⟨t.B, 6, none⟩ (.int .i64 ((σ.f : Int) + 1))).alloc (.cells #[.int .u8 tk.k, .string tk.s, .int .i64 tk.n, .int .i64 tk.p] 91))) := hidI (by
   have h0 := (h.setc 6 (.int .i64 ((σ.f : Int) + 1)) { σ with f := σ.f + 1 } rfl (by simp [tlBox])).newbox 91 4 #[.int .u8 tk.k, .string tk.s, .int .i64 tk.n, .int .i64 tk.p] rfl
   rwa [World.size_setCell] at h0)
  have c6 := HS1.out.cell (j := 6) (u := .int .i64 ((σ.f : Int) + 1)) rfl
  have k1 : ¬ ((σ.f : Int) + 1 ≤ 400) := by omega
  have CM := hidI (fun W => zaW (.pointer (some ⟨t.B, 0, none⟩)) W)
  clear HA HR h
  go_enter Tryz.func173, Tryz.ntmps173
  go_wp2_with (go_at_call 124; refine Calls.mono (CM.out _) ?_; intro e w2 h2; obtain ⟨rfl, rfl⟩ := h2; clear CM)
  refine ⟨rfl, ?_⟩
  rw [HR2.out]
  exact ⟨rfl, HS1.out.bad (.cons _ (.refl _))⟩
theorem zcS {t : Tx} {F : Nat} (hk : t.Ok F) {σ : TS} {X : List Rw} {w : World} {s : ByteArray} (h : TlS t σ X w) (hs : SmlN s) : Calls Tryz.prog 154 #[.pointer (some ⟨t.B, 0, none⟩), .string s] w (TPost t X (tWord s σ)) := by
 have C := hidI (form_any hk (tk := ⟨3, s, 0, 0⟩) h.r h.lim.one hs)
 have HR : Hid (tForm ⟨3, s, 0, 0⟩ σ = tWord s σ) := hidI rfl
 rw [HR.out] at C
 cases hr : tWord s σ with
 | none =>
  rw [hr] at C
  clear hr HR h
  go_enter Tryz.func154, Tryz.ntmps154
  go_wp2_with (go_at_call 173; refine C.out.mono ?_; intro e w1 h1; obtain ⟨rfl, hb1⟩ := h1; clear C)
  exact ⟨rfl, rfl, hb1⟩
 | some σ1 =>
  rw [hr] at C
  clear hr HR h
  go_enter Tryz.func154, Tryz.ntmps154
  go_wp2_with (go_at_call 173; refine C.out.mono ?_; intro e w1 h1; obtain ⟨rfl, hb1⟩ := h1; clear C)
  go_end0
  exact ⟨rfl, hb1⟩
theorem tname_any {t : Tx} {F : Nat} (hk : t.Ok F) {σ : TS} {X : List Rw} {w : World} {s : ByteArray} (h : TlS t σ X w) (hs : SmlN s) : Calls Tryz.prog 174 #[.pointer (some ⟨t.B, 0, none⟩), .string s] w (TPost t X (tName s σ)) := by
 have C1 := hidI (zdE s hs w (hk.laid.on h.r.below))
 cases hn : nameB s with
 | false =>
  have HR : Hid (tName s σ = none) := hidI (by unfold tName nmOk; rw [hn]; rfl)
  rw [hn] at C1
  have CM := hidI (fun W => zaW (.pointer (some ⟨t.B, 0, none⟩)) W)
  have HH := hidI h
  clear hn h
  go_enter Tryz.func174, Tryz.ntmps174
  go_wp2_with (first
   | (go_at_call 147; refine C1.out.mono ?_; intro e w1 h1; obtain ⟨rfl, hb1⟩ := h1; clear C1; have HS1 := hidI (HH.out.on hb1))
   | (go_at_call 124; refine Calls.mono (CM.out _) ?_; intro e w2 h2; obtain ⟨rfl, rfl⟩ := h2; clear CM))
  refine ⟨rfl, ?_⟩
  rw [HR.out]
  exact ⟨rfl, HS1.out.bad (.refl _)⟩
 | true =>
  have HR : Hid (tName s σ = tWord s σ) := hidI (by unfold tName nmOk; rw [hn]; rfl)
  rw [hn] at C1
  have CM := hidI (fun W => zbH (.pointer (some ⟨t.B, 0, none⟩)) W)
  have HH := hidI h
  have CW := hidI (fun W (hW : TlS t σ X W) => zcS hk hW hs)
  rw [HR.out]
  clear hn h HR
  cases hr : tWord s σ with
  | none =>
   rw [hr] at CW
   clear hr
   go_enter Tryz.func174, Tryz.ntmps174
   go_wp2_with (first
    | (go_at_call 147; refine C1.out.mono ?_; intro e w1 h1; obtain ⟨rfl, hb1⟩ := h1; clear C1; have HS1 := hidI (HH.out.on hb1))
    | (go_at_call 124; refine Calls.mono (CM.out _) ?_; intro e w2 h2; obtain ⟨rfl, rfl⟩ := h2; clear CM)
    | (go_at_call 154; refine Calls.mono (CW.out _ HS1.out) ?_; intro e w3 h3; obtain ⟨rfl, hb3⟩ := h3; clear CW))
   exact ⟨rfl, rfl, hb3⟩
  | some σ1 =>
   rw [hr] at CW
   clear hr
   go_enter Tryz.func174, Tryz.ntmps174
   go_wp2_with (first
    | (go_at_call 147; refine C1.out.mono ?_; intro e w1 h1; obtain ⟨rfl, hb1⟩ := h1; clear C1; have HS1 := hidI (HH.out.on hb1))
    | (go_at_call 124; refine Calls.mono (CM.out _) ?_; intro e w2 h2; obtain ⟨rfl, rfl⟩ := h2; clear CM)
    | (go_at_call 154; refine Calls.mono (CW.out _ HS1.out) ?_; intro e w3 h3; obtain ⟨rfl, hb3⟩ := h3; clear CW))
   go_end0
   exact ⟨rfl, hb3⟩
def Clo (G : Nat) (caps : Array Value) : Prop :=
 (G = 153 ∧ ∃ a b c : Nat, caps = #[.pointer (some ⟨a, 0, none⟩), .pointer (some ⟨b, 0, none⟩), .pointer (some ⟨c, 0, none⟩)]) ∨
 (G = 192 ∧ ∃ a b c : Nat, caps = #[.pointer (some ⟨a, 0, none⟩), .pointer (some ⟨b, 0, none⟩), .pointer (some ⟨c, 0, none⟩)]) ∨
 (G = 178 ∧ ∃ a b : Nat, caps = #[.pointer (some ⟨a, 0, none⟩), .pointer (some ⟨b, 0, none⟩)]) ∨
 (G = 179 ∧ ∃ a b : Nat, caps = #[.pointer (some ⟨a, 0, none⟩), .pointer (some ⟨b, 0, none⟩)])
set_option maxHeartbeats 2000000 in
theorem brk2_any {t : Tx} {F : Nat} (hk : t.Ok F) {σ : TS} {X : List Rw} {w : World} (h : TlS t σ X w) {G : Nat} {caps : Array Value} (hc : Clo G caps) {g : TM} (hg : Kp g)
  (HG : ∀ (σ1 : TS) (w1 : World), TlS t σ1 X w1 → σ1.f = σ.f + 1 → Calls Tryz.prog G caps w1 (TPost t X (g σ1))) :
  Calls Tryz.prog 152 #[.pointer (some ⟨t.B, 0, none⟩), .func (.func G) #[] caps] w (TPost t X (tBrk g σ)) := by
 obtain rfl := hk.isF
 obtain ⟨hput, hfn⟩ := hk.fn
 have HFN := hidI hfn
 have HPUT := hidI hput
 have HG := hidI HG
 obtain ⟨l1, l2, l3⟩ := h.lim
 have b7 := h.r.cell (j := 7) (u := .int .i64 (σ.d : Int)) rfl
 have z7 := h.r.free 7
 have HS1 : Hid (TlR t { σ with d := σ.d + 1 } X (w.setCell ⟨t.B, 7, none⟩ (.int .i64 ((σ.d : Int) + 1)))) := hidI (h.r.setc 7 _ { σ with d := σ.d + 1 } rfl (by simp [tlBox]))
 have c7 := HS1.out.cell (j := 7) (u := .int .i64 ((σ.d : Int) + 1)) rfl
 have hB := h.r.lt
 have HKP := hidI hg
 clear h hput hfn hg
 by_cases hd : σ.d + 1 ≤ 12
 ·have k1 : (σ.d : Int) + 1 ≤ 12 := by omega
  have CM := hidI (fun W => zbH (.pointer (some ⟨t.B, 0, none⟩)) W)
  have CF := hidI (form_any hk (tk := ⟨1, ⟨#[]⟩, 0, 0⟩) HS1.out ⟨l1, by show σ.ts.length + (σ.d + 1) ≤ 2 * σ.f + 1; omega, hd⟩ (by unfold SmlN; decide))
  have HO : Hid (tForm ⟨1, ⟨#[]⟩, 0, 0⟩ { σ with d := σ.d + 1 } = tOpen σ) := hidI (by unfold tOpen; rw [if_pos hd]; rfl)
  rw [HO.out] at CF
  cases ho : tOpen σ with
  | none =>
   have HR : Hid (tBrk g σ = none) := hidI (by unfold tBrk; rw [ho])
   rw [ho] at CF
   clear ho HG HFN HO
   rcases hc with ⟨rfl, a, b, c, rfl⟩ | ⟨rfl, a, b, c, rfl⟩ | ⟨rfl, a, b, rfl⟩ | ⟨rfl, a, b, rfl⟩
   all_goals
    go_enter Tryz.func152, Tryz.ntmps152
    go_wp2_with (first
     | (go_at_call 124; refine Calls.mono (CM.out _) ?_; intro e w2 h2; obtain ⟨rfl, rfl⟩ := h2; clear CM)
     | (go_at_call 173; refine Calls.mono (CF.out) ?_; intro e w3 h3; obtain ⟨rfl, hb3⟩ := h3; clear CF))
    refine ⟨rfl, ?_⟩
    rw [HR.out]
    exact ⟨rfl, hb3⟩
  | some σ1 =>
   rw [ho] at CF
   obtain ⟨o1, o2, o3, o4, o5, _⟩ := kp_open ho
   have HF1 := hidI o2
   have HO1 := hidI o1
   clear o1 o2 o3 o4 o5 HO
   cases hr : g σ1 with
   | none =>
    have HR : Hid (tBrk g σ = none) := hidI (by unfold tBrk; rw [ho]; simp only [hr])
    have HG := hidI (fun w1 (h1 : TlS t σ1 X w1) (h2 : σ1.f = σ.f + 1) => HG.out σ1 w1 h1 h2)
    rw [hr] at HG
    replace HG : Hid (∀ (σ9 : Unit) w1, TlS t σ1 X w1 → σ1.f = σ.f + 1 → Calls Tryz.prog G caps w1 (TPost t X none)) := hidI (fun _ => HG.out)
    clear ho hr HFN
    rcases hc with ⟨rfl, a, b, c, rfl⟩ | ⟨rfl, a, b, c, rfl⟩ | ⟨rfl, a, b, rfl⟩ | ⟨rfl, a, b, rfl⟩
    ·go_enter Tryz.func152, Tryz.ntmps152
     go_wp2_with (first
      | (go_at_call 124; refine Calls.mono (CM.out _) ?_; intro e w2 h2; obtain ⟨rfl, rfl⟩ := h2; clear CM)
      | (go_at_call 173; refine Calls.mono (CF.out) ?_; intro e w3 h3; obtain ⟨rfl, hb3⟩ := h3; clear CF; have HS3 := hidI hb3; clear hb3)
      | (go_at_call 153; refine Calls.mono (HG.out () _ HS3.out HF1.out) ?_; intro e w4 h4; obtain ⟨rfl, hb4⟩ := h4; clear HG))
     refine ⟨rfl, ?_⟩
     rw [HR.out]
     exact ⟨rfl, hb4⟩
    ·go_enter Tryz.func152, Tryz.ntmps152
     go_wp2_with (first
      | (go_at_call 124; refine Calls.mono (CM.out _) ?_; intro e w2 h2; obtain ⟨rfl, rfl⟩ := h2; clear CM)
      | (go_at_call 173; refine Calls.mono (CF.out) ?_; intro e w3 h3; obtain ⟨rfl, hb3⟩ := h3; clear CF; have HS3 := hidI hb3; clear hb3)
      | (go_at_call 192; refine Calls.mono (HG.out () _ HS3.out HF1.out) ?_; intro e w4 h4; obtain ⟨rfl, hb4⟩ := h4; clear HG))
     refine ⟨rfl, ?_⟩
     rw [HR.out]
     exact ⟨rfl, hb4⟩
    ·go_enter Tryz.func152, Tryz.ntmps152
     go_wp2_with (first
      | (go_at_call 124; refine Calls.mono (CM.out _) ?_; intro e w2 h2; obtain ⟨rfl, rfl⟩ := h2; clear CM)
      | (go_at_call 173; refine Calls.mono (CF.out) ?_; intro e w3 h3; obtain ⟨rfl, hb3⟩ := h3; clear CF; have HS3 := hidI hb3; clear hb3)
      | (go_at_call 178; refine Calls.mono (HG.out () _ HS3.out HF1.out) ?_; intro e w4 h4; obtain ⟨rfl, hb4⟩ := h4; clear HG))
     refine ⟨rfl, ?_⟩
     rw [HR.out]
     exact ⟨rfl, hb4⟩
    ·go_enter Tryz.func152, Tryz.ntmps152
     go_wp2_with (first
      | (go_at_call 124; refine Calls.mono (CM.out _) ?_; intro e w2 h2; obtain ⟨rfl, rfl⟩ := h2; clear CM)
      | (go_at_call 173; refine Calls.mono (CF.out) ?_; intro e w3 h3; obtain ⟨rfl, hb3⟩ := h3; clear CF; have HS3 := hidI hb3; clear hb3)
      | (go_at_call 179; refine Calls.mono (HG.out () _ HS3.out HF1.out) ?_; intro e w4 h4; obtain ⟨rfl, hb4⟩ := h4; clear HG))
     refine ⟨rfl, ?_⟩
     rw [HR.out]
     exact ⟨rfl, hb4⟩
   | some σ2 =>
    have HR : Hid (tBrk g σ = some (tClose σ2)) := hidI (by unfold tBrk; rw [ho]; simp only [hr])
    have HG := hidI (fun w1 (h1 : TlS t σ1 X w1) (h2 : σ1.f = σ.f + 1) => HG.out σ1 w1 h1 h2)
    rw [hr] at HG
    replace HG : Hid (∀ (σ9 : Unit) w1, TlS t σ1 X w1 → σ1.f = σ.f + 1 → Calls Tryz.prog G caps w1 (TPost t X (some σ2))) := hidI (fun _ => HG.out)
    have HD2 : Hid ((σ2.d : Int) = (σ.d : Int) + 1) := hidI (by have := (HKP.out _ _ hr).1; have := HO1.out; omega)
    clear ho hr
    rcases hc with ⟨rfl, a, b, c, rfl⟩ | ⟨rfl, a, b, c, rfl⟩ | ⟨rfl, a, b, rfl⟩ | ⟨rfl, a, b, rfl⟩
    ·go_enter Tryz.func152, Tryz.ntmps152
     go_wp2_with (first
      | (go_at_call 124; refine Calls.mono (CM.out _) ?_; intro e w2 h2; obtain ⟨rfl, rfl⟩ := h2; clear CM)
      | (go_at_call 173; refine Calls.mono (CF.out) ?_; intro e w3 h3; obtain ⟨rfl, hb3⟩ := h3; clear CF; have HS3 := hidI hb3; clear hb3)
      | (go_at_call 153; refine Calls.mono (HG.out () _ HS3.out HF1.out) ?_; intro e w4 h4; obtain ⟨rfl, hb4⟩ := h4; clear HG; have HS4 := hidI hb4; clear hb4; have c8 := HS4.out.r.cell (j := 8) (u := t.put) rfl; rw [HPUT.out] at c8)
      | (go_at_call 52; refine Calls.mono (HFN.out _ _ _ ⟨2, ⟨#[]⟩, 0, 0⟩ HS4.out.r (by obtain ⟨m1, m2, m3⟩ := HS4.out.lim; omega) (by unfold SmlN; decide)) ?_; intro e w5 h5; obtain ⟨rfl, hb5⟩ := h5; have HS5 := hidI hb5; clear hb5; have c7 := HS5.out.cell (j := 7) (u := .int .i64 (σ2.d : Int)) rfl; rw [HD2.out] at c7; have z7 := HS5.out.free 7))
     go_end0
     rw [HR.out]
     refine ⟨rfl, HS5.out.setc 7 _ (tClose σ2) rfl (by simp only [tlBox, tClose]; simp; have := HD2.out; omega), ?_⟩
     obtain ⟨m1, m2, m3⟩ := HS4.out.lim
     have := HD2.out
     refine ⟨m1, ?_, ?_⟩
     ·show (σ2.ts ++ [(⟨2, emptyS, 0, 0⟩ : Tok)]).length + (σ2.d - 1) ≤ 2 * σ2.f
      simp only [List.length_append, List.length_cons, List.length_nil]
      omega
     ·show σ2.d - 1 ≤ 12
      omega
    ·go_enter Tryz.func152, Tryz.ntmps152
     go_wp2_with (first
      | (go_at_call 124; refine Calls.mono (CM.out _) ?_; intro e w2 h2; obtain ⟨rfl, rfl⟩ := h2; clear CM)
      | (go_at_call 173; refine Calls.mono (CF.out) ?_; intro e w3 h3; obtain ⟨rfl, hb3⟩ := h3; clear CF; have HS3 := hidI hb3; clear hb3)
      | (go_at_call 192; refine Calls.mono (HG.out () _ HS3.out HF1.out) ?_; intro e w4 h4; obtain ⟨rfl, hb4⟩ := h4; clear HG; have HS4 := hidI hb4; clear hb4; have c8 := HS4.out.r.cell (j := 8) (u := t.put) rfl; rw [HPUT.out] at c8)
      | (go_at_call 52; refine Calls.mono (HFN.out _ _ _ ⟨2, ⟨#[]⟩, 0, 0⟩ HS4.out.r (by obtain ⟨m1, m2, m3⟩ := HS4.out.lim; omega) (by unfold SmlN; decide)) ?_; intro e w5 h5; obtain ⟨rfl, hb5⟩ := h5; have HS5 := hidI hb5; clear hb5; have c7 := HS5.out.cell (j := 7) (u := .int .i64 (σ2.d : Int)) rfl; rw [HD2.out] at c7; have z7 := HS5.out.free 7))
     go_end0
     rw [HR.out]
     refine ⟨rfl, HS5.out.setc 7 _ (tClose σ2) rfl (by simp only [tlBox, tClose]; simp; have := HD2.out; omega), ?_⟩
     obtain ⟨m1, m2, m3⟩ := HS4.out.lim
     have := HD2.out
     refine ⟨m1, ?_, ?_⟩
     ·show (σ2.ts ++ [(⟨2, emptyS, 0, 0⟩ : Tok)]).length + (σ2.d - 1) ≤ 2 * σ2.f
      simp only [List.length_append, List.length_cons, List.length_nil]
      omega
     ·show σ2.d - 1 ≤ 12
      omega
    ·go_enter Tryz.func152, Tryz.ntmps152
     go_wp2_with (first
      | (go_at_call 124; refine Calls.mono (CM.out _) ?_; intro e w2 h2; obtain ⟨rfl, rfl⟩ := h2; clear CM)
      | (go_at_call 173; refine Calls.mono (CF.out) ?_; intro e w3 h3; obtain ⟨rfl, hb3⟩ := h3; clear CF; have HS3 := hidI hb3; clear hb3)
      | (go_at_call 178; refine Calls.mono (HG.out () _ HS3.out HF1.out) ?_; intro e w4 h4; obtain ⟨rfl, hb4⟩ := h4; clear HG; have HS4 := hidI hb4; clear hb4; have c8 := HS4.out.r.cell (j := 8) (u := t.put) rfl; rw [HPUT.out] at c8)
      | (go_at_call 52; refine Calls.mono (HFN.out _ _ _ ⟨2, ⟨#[]⟩, 0, 0⟩ HS4.out.r (by obtain ⟨m1, m2, m3⟩ := HS4.out.lim; omega) (by unfold SmlN; decide)) ?_; intro e w5 h5; obtain ⟨rfl, hb5⟩ := h5; have HS5 := hidI hb5; clear hb5; have c7 := HS5.out.cell (j := 7) (u := .int .i64 (σ2.d : Int)) rfl; rw [HD2.out] at c7; have z7 := HS5.out.free 7))
     go_end0
     rw [HR.out]
     refine ⟨rfl, HS5.out.setc 7 _ (tClose σ2) rfl (by simp only [tlBox, tClose]; simp; have := HD2.out; omega), ?_⟩
     obtain ⟨m1, m2, m3⟩ := HS4.out.lim
     have := HD2.out
     refine ⟨m1, ?_, ?_⟩
     ·show (σ2.ts ++ [(⟨2, emptyS, 0, 0⟩ : Tok)]).length + (σ2.d - 1) ≤ 2 * σ2.f
      simp only [List.length_append, List.length_cons, List.length_nil]
      omega
     ·show σ2.d - 1 ≤ 12
      omega
    ·go_enter Tryz.func152, Tryz.ntmps152
     go_wp2_with (first
      | (go_at_call 124; refine Calls.mono (CM.out _) ?_; intro e w2 h2; obtain ⟨rfl, rfl⟩ := h2; clear CM)
      | (go_at_call 173; refine Calls.mono (CF.out) ?_; intro e w3 h3; obtain ⟨rfl, hb3⟩ := h3; clear CF; have HS3 := hidI hb3; clear hb3)
      | (go_at_call 179; refine Calls.mono (HG.out () _ HS3.out HF1.out) ?_; intro e w4 h4; obtain ⟨rfl, hb4⟩ := h4; clear HG; have HS4 := hidI hb4; clear hb4; have c8 := HS4.out.r.cell (j := 8) (u := t.put) rfl; rw [HPUT.out] at c8)
      | (go_at_call 52; refine Calls.mono (HFN.out _ _ _ ⟨2, ⟨#[]⟩, 0, 0⟩ HS4.out.r (by obtain ⟨m1, m2, m3⟩ := HS4.out.lim; omega) (by unfold SmlN; decide)) ?_; intro e w5 h5; obtain ⟨rfl, hb5⟩ := h5; have HS5 := hidI hb5; clear hb5; have c7 := HS5.out.cell (j := 7) (u := .int .i64 (σ2.d : Int)) rfl; rw [HD2.out] at c7; have z7 := HS5.out.free 7))
     go_end0
     rw [HR.out]
     refine ⟨rfl, HS5.out.setc 7 _ (tClose σ2) rfl (by simp only [tlBox, tClose]; simp; have := HD2.out; omega), ?_⟩
     obtain ⟨m1, m2, m3⟩ := HS4.out.lim
     have := HD2.out
     refine ⟨m1, ?_, ?_⟩
     ·show (σ2.ts ++ [(⟨2, emptyS, 0, 0⟩ : Tok)]).length + (σ2.d - 1) ≤ 2 * σ2.f
      simp only [List.length_append, List.length_cons, List.length_nil]
      omega
     ·show σ2.d - 1 ≤ 12
      omega
 ·have k1 : ¬ ((σ.d : Int) + 1 ≤ 12) := by omega
  have HR : Hid (tBrk g σ = none) := hidI (by unfold tBrk tOpen; rw [if_neg hd])
  have CM := hidI (fun W => zaW (.pointer (some ⟨t.B, 0, none⟩)) W)
  clear HG HFN
  rcases hc with ⟨rfl, a, b, c, rfl⟩ | ⟨rfl, a, b, c, rfl⟩ | ⟨rfl, a, b, rfl⟩ | ⟨rfl, a, b, rfl⟩
  all_goals
   go_enter Tryz.func152, Tryz.ntmps152
   go_wp2_with (first
    | (go_at_call 124; refine Calls.mono (CM.out _) ?_; intro e w2 h2; obtain ⟨rfl, rfl⟩ := h2; clear CM))
   refine ⟨rfl, ?_⟩
   rw [HR.out]
   exact ⟨rfl, HS1.out.bad (.refl _)⟩
end Go.Proofs.YtmekkhfohmfjkaaGreatDoor
