/-
  One token more: what take comes to.
-/
import Derived.Test.YtnlplkchkhibaaaDoorReg9
namespace Go.Proofs.YtnlplkchkhibaaaDoor
open Go.RowKit Go.Deep Go.MapKept
/-- What take comes to. -/
def TakeOk (w : World) (base B : Nat) (σ : St) (w' : World) : Prop :=
  Below base w w' ∧ ∃ fs top opn fv tv ov, RD w' base B fs top opn fv tv ov ∧ σ = ⟨fs.map Prod.fst, top, opn⟩
def TakeRes (w : World) (base B : Nat) (r : Except (Int × Int) St) (e : Ending) (w' : World) : Prop :=
  match r with
  | .error q => e = .panicked (flt q.1 q.2) ∧ Below w.heap.size w w'
  | .ok σ => e = .returned (.tuple #[]) ∧ TakeOk w base B σ w'
section
variable {w : World} {base B : Nat} {fs : List FV} {top opn : List Nat} {fv tv ov : Value}
theorem take_deep (h : RD w base B fs top opn fv tv ov) (s : ByteArray) (n p : Int) (hl : opn.length = 12) :
    Calls Tryd.prog 45 #[.pointer (some ⟨B, 0, none⟩), .agg #[.int .u8 1, .string s, .int .i64 n, .int .i64 p]] w fun e w' => e = .panicked (flt p 4) ∧ Below w.heap.size w w' := by
  have hlt := h.lt
  obtain ⟨oa, oc, rfl⟩ := own_slice h.oo
  have c2 := (h.alloc (.cells #[.int .u8 1, .string s, .int .i64 n, .int .i64 p] 37)).c2
  rw [hl] at c2
  clear h
  go_enter Tryd.func45, Tryd.ntmps45
  go_wp2
  exact ⟨rfl, rfl, by (repeat (first | exact Below.refl _ _ | assumption | refine Below.drew ?_ | refine Below.alloc ?_ (by first | omega | (simp; done) | (simp; omega)) _ | refine Below.setCell ?_ (by first | omega | (simp; done) | (simp; omega)) _))⟩
theorem take_none (h : RD w base B fs top [] fv tv ov) (s : ByteArray) (n p : Int) :
    Calls Tryd.prog 45 #[.pointer (some ⟨B, 0, none⟩), .agg #[.int .u8 2, .string s, .int .i64 n, .int .i64 p]] w fun e w' => e = .panicked (flt p 8) ∧ Below w.heap.size w w' := by
  have hlt := h.lt
  obtain ⟨oa, oc, rfl⟩ := own_slice h.oo
  have c2 := (h.alloc (.cells #[.int .u8 2, .string s, .int .i64 n, .int .i64 p] 37)).c2
  simp only [List.length_nil] at c2
  clear h
  go_enter Tryd.func45, Tryd.ntmps45
  go_wp2
  exact ⟨rfl, rfl, by (repeat (first | exact Below.refl _ _ | assumption | refine Below.drew ?_ | refine Below.alloc ?_ (by first | omega | (simp; done) | (simp; omega)) _ | refine Below.setCell ?_ (by first | omega | (simp; done) | (simp; omega)) _))⟩
theorem take_other (h : RD w base B fs top opn fv tv ov) (k : Int) (s : ByteArray) (n p : Int) (h1 : k ≠ 1) (h2 : k ≠ 2) (h3 : k ≠ 3) (h4 : k ≠ 4) :
    Calls Tryd.prog 45 #[.pointer (some ⟨B, 0, none⟩), .agg #[.int .u8 k, .string s, .int .i64 n, .int .i64 p]] w fun e w' => e = .returned (.tuple #[]) ∧ TakeOk w base B ⟨fs.map Prod.fst, top, opn⟩ w' := by
  have hlt := h.lt
  have hR := hidI (h.alloc (.cells #[.int .u8 k, .string s, .int .i64 n, .int .i64 p] 37))
  have q1 : (k == 1) = false := by simp [h1]
  have q2 : (k == 2) = false := by simp [h2]
  have q3 : (k == 3) = false := by simp [h3]
  have q4 : (k == 4) = false := by simp [h4]
  clear h
  go_enter Tryd.func45, Tryd.ntmps45
  go_wp2
  go_end0
  exact ⟨rfl, by (repeat (first | exact Below.refl _ _ | assumption | refine Below.drew ?_ | refine Below.alloc ?_ (by first | omega | (simp; done) | (simp; omega)) _ | refine Below.setCell ?_ (by first | omega | (simp; done) | (simp; omega)) _)), fs, top, opn, fv, tv, ov, hR.out, rfl⟩
theorem take_open (h : RD w base B fs top opn fv tv ov) (hG : Good ⟨fs.map Prod.fst, top, opn⟩) (s : ByteArray) (n p : Int) (hl : opn.length ≠ 12) :
    Calls Tryd.prog 45 #[.pointer (some ⟨B, 0, none⟩), .agg #[.int .u8 1, .string s, .int .i64 n, .int .i64 p]] w fun e w' =>
      (fs.length = 400 ∧ e = .panicked (flt p 4) ∧ Below w.heap.size w w') ∨ (¬ fs.length = 400 ∧ e = .returned (.tuple #[]) ∧ TakeOk w base B { addF ⟨1, ⟨#[]⟩, 0, [], p⟩ ⟨fs.map Prod.fst, top, opn⟩ with opn := opn ++ [fs.length] } w') := by
  have hlt := h.lt
  have HR := hidI (h.alloc (.cells #[.int .u8 1, .string s, .int .i64 n, .int .i64 p] 37))
  have HTR : Hid (¬ RB B fs top opn fv tv ov w.heap.size) := hidI fun hr => by have := h.block hr; omega
  have hb : Below base w (w.alloc (.cells #[.int .u8 1, .string s, .int .i64 n, .int .i64 p] 37)) := by (repeat (first | exact Below.refl _ _ | assumption | refine Below.drew ?_ | refine Below.alloc ?_ (by first | omega | (simp; done) | (simp; omega)) _ | refine Below.setCell ?_ (by first | omega | (simp; done) | (simp; omega)) _))
  have HB := hidI hb
  have HZ : Hid (Below w.heap.size w (w.alloc (.cells #[.int .u8 1, .string s, .int .i64 n, .int .i64 p] 37))) := hidI (by (repeat (first | exact Below.refl _ _ | assumption | refine Below.drew ?_ | refine Below.alloc ?_ (by first | omega | (simp; done) | (simp; omega)) _ | refine Below.setCell ?_ (by first | omega | (simp; done) | (simp; omega)) _)))
  have HG := hidI hG
  have ho := hG.open_len
  simp only at ho
  obtain ⟨oa, oc, hov⟩ := own_slice h.oo
  have c2 := HR.out.c2
  rw [hov] at c2
  have q1 : ((opn.length : Int) == 12) = false := by rw [beq_eq_false_iff_ne]; omega
  have ct : (w.alloc (.cells #[.int .u8 1, .string s, .int .i64 n, .int .i64 p] 37)).cell? ⟨w.heap.size, 3, none⟩ = some (.int .i64 p) := by go_simp
  have CT := hidI ct
  clear h hG hb ct
  go_enter Tryd.func45, Tryd.ntmps45
  go_wp2
  refine reg5 (TB := w.heap.size) (p := p) HR.out.drew CT.out HTR.out ho (add_any HR.out.drew HG.out ⟨1, ⟨#[]⟩, 0, [], p⟩ rfl) (fun _ _ _ _ _ h => h) ?_ ?_
  · intro a W hf hW hd
    exact ⟨hd, .inl ⟨hf, rfl, (HZ.out.drew.trans (hW.mono (by simp)))⟩⟩
  · intro W5 fs' top' fv' tv' ov' t18 t19 t20 t21 t22 t23 t24 t25 t26 t27 t28 t29 t30 t31 hf hW hR5 hadd
    have hA : TakeOk w base B { addF ⟨1, ⟨#[]⟩, 0, [], p⟩ ⟨fs.map Prod.fst, top, opn⟩ with opn := opn ++ [fs.length] } W5 := ⟨HB.out.drew.trans hW, fs', top', _, fv', tv', ov', hR5, by rw [hadd]⟩
    have HA := hidI hA
    clear hA hR5 hadd
    go_wp2
    go_end0
    first | exact .inr ⟨hf, rfl, HA.out⟩ | exact ⟨rfl, HA.out⟩
theorem take_name (h : RD w base B fs top opn fv tv ov) (hG : Good ⟨fs.map Prod.fst, top, opn⟩) (s : ByteArray) (hs : s.size ≤ 140737488355328) (n p : Int) :
    Calls Tryd.prog 45 #[.pointer (some ⟨B, 0, none⟩), .agg #[.int .u8 3, .string s, .int .i64 n, .int .i64 p]] w fun e w' =>
      (fs.length = 400 ∧ e = .panicked (flt p 4) ∧ Below w.heap.size w w') ∨ (¬ fs.length = 400 ∧ e = .returned (.tuple #[]) ∧ TakeOk w base B (addF ⟨3, s, 0, [], p⟩ ⟨fs.map Prod.fst, top, opn⟩) w') := by
  have hlt := h.lt
  have HR := hidI (h.alloc (.cells #[.int .u8 3, .string s, .int .i64 n, .int .i64 p] 37))
  have hb : Below base w (w.alloc (.cells #[.int .u8 3, .string s, .int .i64 n, .int .i64 p] 37)) := by (repeat (first | exact Below.refl _ _ | assumption | refine Below.drew ?_ | refine Below.alloc ?_ (by first | omega | (simp; done) | (simp; omega)) _ | refine Below.setCell ?_ (by first | omega | (simp; done) | (simp; omega)) _))
  have HB := hidI hb
  have HZ : Hid (Below w.heap.size w (w.alloc (.cells #[.int .u8 3, .string s, .int .i64 n, .int .i64 p] 37))) := hidI (by (repeat (first | exact Below.refl _ _ | assumption | refine Below.drew ?_ | refine Below.alloc ?_ (by first | omega | (simp; done) | (simp; omega)) _ | refine Below.setCell ?_ (by first | omega | (simp; done) | (simp; omega)) _)))
  have HG := hidI hG
  have ct : (w.alloc (.cells #[.int .u8 3, .string s, .int .i64 n, .int .i64 p] 37)).cell? ⟨w.heap.size, 1, none⟩ = some (.string s) ∧ (w.alloc (.cells #[.int .u8 3, .string s, .int .i64 n, .int .i64 p] 37)).cell? ⟨w.heap.size, 3, none⟩ = some (.int .i64 p) := by constructor <;> go_simp
  have CT := hidI ct
  clear h hG hb ct
  go_enter Tryd.func45, Tryd.ntmps45
  go_wp2
  refine reg11 (TB := w.heap.size) (p := p) hs HR.out.drew HG.out CT.out (fun _ _ _ _ _ h => h) ?_ ?_
  · intro a W hf hW hd
    exact ⟨hd, .inl ⟨hf, rfl, (HZ.out.drew.trans (hW.mono (by simp)))⟩⟩
  · intro W5 fs' top' fv' tv' t60 t61 t62 t63 t64 t65 t66 t67 hf hW hR5 hadd
    have hA : TakeOk w base B (addF ⟨3, s, 0, [], p⟩ ⟨fs.map Prod.fst, top, opn⟩) W5 := ⟨HB.out.drew.trans hW, fs', top', _, fv', tv', ov, hR5, by rw [hadd]⟩
    have HA := hidI hA
    clear hA hR5 hadd
    go_wp2
    go_end0
    first | exact .inr ⟨hf, rfl, HA.out⟩ | exact ⟨rfl, HA.out⟩
theorem take_num (h : RD w base B fs top opn fv tv ov) (hG : Good ⟨fs.map Prod.fst, top, opn⟩) (s : ByteArray) (n p : Int) :
    Calls Tryd.prog 45 #[.pointer (some ⟨B, 0, none⟩), .agg #[.int .u8 4, .string s, .int .i64 n, .int .i64 p]] w fun e w' =>
      TakeRes w base B (if fs.length = 400 then .error (p, 4) else .ok (addF ⟨4, ⟨#[]⟩, n, [], p⟩ ⟨fs.map Prod.fst, top, opn⟩)) e w' := by
  have hlt := h.lt
  have HR := hidI (h.alloc (.cells #[.int .u8 4, .string s, .int .i64 n, .int .i64 p] 37))
  have hb : Below base w (w.alloc (.cells #[.int .u8 4, .string s, .int .i64 n, .int .i64 p] 37)) := by (repeat (first | exact Below.refl _ _ | assumption | refine Below.drew ?_ | refine Below.alloc ?_ (by first | omega | (simp; done) | (simp; omega)) _ | refine Below.setCell ?_ (by first | omega | (simp; done) | (simp; omega)) _))
  have HB := hidI hb
  have HZ : Hid (Below w.heap.size w (w.alloc (.cells #[.int .u8 4, .string s, .int .i64 n, .int .i64 p] 37))) := hidI (by (repeat (first | exact Below.refl _ _ | assumption | refine Below.drew ?_ | refine Below.alloc ?_ (by first | omega | (simp; done) | (simp; omega)) _ | refine Below.setCell ?_ (by first | omega | (simp; done) | (simp; omega)) _)))
  have HC := hidI (add_any HR.out hG ⟨4, ⟨#[]⟩, n, [], p⟩ rfl)
  clear h hG hb
  by_cases hf : fs.length = 400
  · simp only [if_pos hf]
    go_enter Tryd.func45, Tryd.ntmps45
    go_wp2_with (go_at_call 63; refine HC.out.mono ?_; intro e w1 hres; unfold AddRes at hres; rw [if_pos hf] at hres; obtain ⟨rfl, hb1⟩ := hres; clear HC)
    exact ⟨rfl, rfl, HZ.out.trans (hb1.mono (by simp))⟩
  · simp only [if_neg hf]
    go_enter Tryd.func45, Tryd.ntmps45
    go_wp2_with (go_at_call 63; refine HC.out.mono ?_; intro e w1 hres; unfold AddRes at hres; rw [if_neg hf] at hres; obtain ⟨rfl, hres1⟩ := hres; have HP := hidI hres1; clear hres1 HC)
    go_end0
    obtain ⟨hchg, fs', top', fv', tv', hR5, hadd⟩ := HP.out
    exact ⟨rfl, HB.out.trans (hchg.below (n := base) (by have := HR.out.lt; omega) (fun k hk hr => by have := HR.out.block hr; omega)), fs', top', _, fv', tv', ov, hR5, hadd⟩
theorem take_close (h : RD w base B fs top opn fv tv ov) (ho : opn.length ≤ 12) (hne : opn ≠ []) (s : ByteArray) (n p : Int) :
    Calls Tryd.prog 45 #[.pointer (some ⟨B, 0, none⟩), .agg #[.int .u8 2, .string s, .int .i64 n, .int .i64 p]] w fun e w' => e = .returned (.tuple #[]) ∧ TakeOk w base B ⟨fs.map Prod.fst, top, opn.dropLast⟩ w' := by
  have hlt := h.lt
  have HR := hidI (h.alloc (.cells #[.int .u8 2, .string s, .int .i64 n, .int .i64 p] 37))
  have hb : Below base w (w.alloc (.cells #[.int .u8 2, .string s, .int .i64 n, .int .i64 p] 37)) := by (repeat (first | exact Below.refl _ _ | assumption | refine Below.drew ?_ | refine Below.alloc ?_ (by first | omega | (simp; done) | (simp; omega)) _ | refine Below.setCell ?_ (by first | omega | (simp; done) | (simp; omega)) _))
  have HB := hidI hb
  have HZ : Hid (Below w.heap.size w (w.alloc (.cells #[.int .u8 2, .string s, .int .i64 n, .int .i64 p] 37))) := hidI (by (repeat (first | exact Below.refl _ _ | assumption | refine Below.drew ?_ | refine Below.alloc ?_ (by first | omega | (simp; done) | (simp; omega)) _ | refine Below.setCell ?_ (by first | omega | (simp; done) | (simp; omega)) _)))
  have hol : 0 < opn.length := List.length_pos_iff.2 hne
  obtain ⟨og, oc, hov, _, _⟩ := own_some HR.out.oo hol
  have c2 := HR.out.c2
  have cf := HR.out.free 2
  rw [hov] at c2
  obtain ⟨m, hm⟩ : ∃ m, opn.length = m + 1 := ⟨opn.length - 1, by omega⟩
  have hcap : m + 1 ≤ oc := by
    have := HR.out.oo
    rw [hov] at this
    rcases this.2 with ⟨h0, _⟩ | ⟨_, _, _, e, _, _, h1, _⟩
    · cases h0
    · cases e; omega
  have HO := hidI (show (w.alloc (.cells #[.int .u8 2, .string s, .int .i64 n, .int .i64 p] 37)).ownsRow base 3 1 (.slice (some ⟨og, 0, none⟩) m oc) opn.dropLast.length (ints opn.dropLast) by
    have := HR.out.oo
    rw [hov] at this
    have q := own_cut this (m := m) (by omega) (by simp)
    have e1 : opn.dropLast.length = m := by simp; omega
    have e2 : ints opn.dropLast = (ints opn).take (m * 1) := by
      rw [List.dropLast_eq_take, hm]
      simp [ints, List.map_take]
    rw [e1, e2]
    exact q)
  have HP := hidI (HR.out.drew.putO (w' := (w.alloc (.cells #[.int .u8 2, .string s, .int .i64 n, .int .i64 p] 37)).drew) (ov' := .slice (some ⟨og, 0, none⟩) m oc) (opn' := opn.dropLast) ⟨rfl, rfl, rfl, Nat.le_refl _, fun _ _ _ => rfl⟩ (owns_drew HO.out) (.inr (.inl (by rw [hov]; rfl))))
  rw [hm] at c2
  have q1 : (((m + 1 : Nat) : Int) == 0) = false := by rw [beq_eq_false_iff_ne]; omega
  have e4 : m ≤ oc := by omega
  have e9 : m ≤ 12 := by omega
  have HC2 := hidI (HR.out.drew.c2)
  rw [hov, hm] at HC2
  have HF := hidI cf
  clear h hb hov hm hcap HO
  go_enter Tryd.func45, Tryd.ntmps45
  go_wp2
  refine reg9 (B := B) (og := og) (oc := oc) (m := m) HC2.out HF.out e4 e9 (fun _ _ _ _ _ h => h) ?_
  intro t44 t45 t46 t47 t48 t49 t50 t51 t52 t53 t54 t55 t56 t57
  have hA : TakeOk w base B ⟨fs.map Prod.fst, top, opn.dropLast⟩ (((w.alloc (.cells #[.int .u8 2, .string s, .int .i64 n, .int .i64 p] 37)).drew.setCell ⟨B, 2, none⟩ (.slice (some ⟨og, 0, none⟩) m oc))) :=
    ⟨Below.setCell HB.out.drew hlt.1 _, fs, top, _, fv, tv, _, HP.out, rfl⟩
  have HA := hidI hA
  clear hA
  go_wp2
  go_end0
  exact ⟨rfl, HA.out⟩
theorem take_any (h : RD w base B fs top opn fv tv ov) (hG : Good ⟨fs.map Prod.fst, top, opn⟩) (t : Tok) (hs : t.s.size ≤ 140737488355328) :
    Calls Tryd.prog 45 #[.pointer (some ⟨B, 0, none⟩), .agg #[.int .u8 t.k, .string t.s, .int .i64 t.n, .int .i64 t.p]] w fun e w' => TakeRes w base B (step ⟨fs.map Prod.fst, top, opn⟩ t) e w' := by
  obtain ⟨k, s, n, p⟩ := t
  have ho := hG.open_len
  simp only at ho
  by_cases h2 : k = 2
  · subst h2
    by_cases hn : opn = []
    · subst hn
      refine (take_none h s n p).mono ?_
      intro e w' hh
      simp only [step, if_true]
      exact hh
    · refine (take_close h ho hn s n p).mono ?_
      intro e w' hh
      simp only [step, if_true, if_neg hn]
      exact hh
  by_cases h1 : k = 1
  · subst h1
    by_cases hd : opn.length = 12
    · refine (take_deep h s n p hd).mono ?_
      intro e w' hh
      simp only [step, if_neg h2, if_true, hd]
      exact hh
    · refine (take_open h hG s n p hd).mono ?_
      rintro e w' (⟨hf, hh⟩ | ⟨hf, hh⟩)
      · simp only [step, if_neg h2, if_true, if_neg hd, List.length_map, hf]
        exact hh
      · simp only [step, if_neg h2, if_true, if_neg hd, List.length_map, if_neg hf]
        exact hh
  by_cases h3 : k = 3
  · subst h3
    refine (take_name h hG s hs n p).mono ?_
    rintro e w' (⟨hf, hh⟩ | ⟨hf, hh⟩)
    · simp only [step, if_neg h2, if_neg h1, true_or, if_true, List.length_map, hf]
      exact hh
    · simp only [step, if_neg h2, if_neg h1, true_or, if_true, List.length_map, if_neg hf]
      exact hh
  by_cases h4 : k = 4
  · subst h4
    refine (take_num h hG s n p).mono ?_
    intro e w' hh
    simp only [step, if_neg h2, if_neg h1, or_true, if_true, List.length_map]
    exact hh
  · refine (take_other h k s n p h1 h2 h3 h4).mono ?_
    intro e w' hh
    have hor : ¬ (k = 3 ∨ k = 4) := by rintro (e | e); exact h3 e; exact h4 e
    simp only [step, if_neg h2, if_neg h1, if_neg hor]
    exact hh
end
end Go.Proofs.YtnlplkchkhibaaaDoor
