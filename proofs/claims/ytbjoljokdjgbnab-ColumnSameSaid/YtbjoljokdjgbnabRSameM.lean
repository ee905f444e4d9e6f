/-
  Same of two tables of the document's.
-/
import Derived.Test.YtbjoljokdjgbnabTSameM
namespace Go.Proofs.Ytbjoljokdjgbnab
open Go.RowKit Go.Deep Go.MapKept
theorem One.eq {a b : One} (h1 : a.name = b.name) (h2 : a.side = b.side) (h3 : a.kind = b.kind) (h4 : a.vals = b.vals) : a = b := by
  cases a; cases b; simp only at h1 h2 h3 h4; subst h1 h2 h3 h4; rfl
set_option maxRecDepth 100000 in
set_option maxHeartbeats 3000000 in
theorem rsame_any {w : World} {rb qb : Nat} {n m : Int} {os os' : List One} (h : BookOf w rb n m os) (h' : BookOf w qb n m os') (hl : os.length ≤ 1000) (hv : ∀ o ∈ os, o.vals.length ≤ 100000) (hv' : ∀ o ∈ os', o.vals.length ≤ 100000) (res : Bool) (hres : res = true ↔ os = os') :
    Calls Try.prog 20 #[.pointer (some ⟨rb, 0, none⟩), .pointer (some ⟨qb, 0, none⟩)] w fun e w' => e = .returned (.bool res) ∧ RowKit.Below w.heap.size w w' := by
  obtain ⟨c0, c1, v, c2, a, cap, rfl, hL⟩ := h
  obtain ⟨d0, d1, v', d2, a', cap', rfl, hL'⟩ := h'
  have HL := hidI hL
  have HL' := hidI hL'
  have HRES := hidI hres
  have HV := hidI (And.intro hv hv')
  obtain ⟨k, hk⟩ : ∃ k, os.length = k := ⟨_, rfl⟩
  obtain ⟨k', hk'⟩ : ∃ k', os'.length = k' := ⟨_, rfl⟩
  have HK := hidI (And.intro hk hk')
  rw [hk] at c2 hl
  rw [hk'] at d2
  clear hL hL' hres hv hv' hk hk'
  have kn : (n == n) = true := by simp
  have km : (m == m) = true := by simp
  by_cases hkk : ¬ k = k'
  · have k1 : ((k : Int) == (k' : Int)) = false := by simp only [beq_eq_false_iff_ne, ne_eq]; omega
    obtain rfl : false = res := by
      cases res with
      | false => rfl
      | true =>
        exfalso
        have he := HRES.out.1 rfl
        obtain ⟨h1, h2⟩ := HK.out
        rw [he] at h1
        omega
    go_enter Try.func20, Try.ntmps20
    go_wp2
    go_quiet (fail)
    go_wp2
    go_ret
    exact ⟨rfl, below_drewN (Below.refl _ _) _⟩
  replace hkk : k = k' := Classical.not_not.1 hkk
  subst hkk
  have k1 : ((k : Int) == (k : Int)) = true := by simp
  go_enter Try.func20, Try.ntmps20
  go_wp2
  go_quiet (fail)
  have hb0 : RowKit.Below w.heap.size w (w.drewN nq) := below_drewN (Below.refl _ _) _
  have HB0 := hidI hb0
  clear hb0
  go_wp2
  go_loopg [5] k (fun g s5 wx => ∃ i : Nat, i + g = k ∧ s5 = .int .i64 i ∧ Hid (os.take i = os'.take i) ∧ Hid (RowKit.Below w.heap.size w wx))
  case atStart => exact ⟨0, by omega, rfl, hidI rfl, HB0⟩
  case round =>
    obtain ⟨i, hig, rfl, HT, HX⟩ := hrel
    have hwr := HX.out.size
    have kk : ∀ {p : Addr} {v : Value}, w.cell? p = some v → wr.cell? p = some v := fun {p v} hc => (HX.out.cell (World.block_lt_of_cell? w _ hc)).trans hc
    have c2' := kk c2
    have d2' := kk d2
    cases gk with
    | zero =>
      obtain rfl : k = i := by omega
      have k3 : decide ((k : Int) < (k : Int)) = false := by simp
      obtain rfl : true = res := by
        refine (HRES.out.2 ?_).symm
        obtain ⟨h1, h2⟩ := HK.out
        have := HT.out
        rwa [List.take_of_length_le (by omega), List.take_of_length_le (by omega)] at this
      go_wp2
      go_ret
      exact ⟨rfl, HX.out⟩
    | succ g =>
      have k3 : (i : Int) < (k : Int) := by omega
      obtain ⟨o, ho⟩ : ∃ o, os[i]? = some o := ⟨_, List.getElem?_eq_getElem (by have := HK.out.1; omega)⟩
      obtain ⟨o', ho'⟩ : ∃ o', os'[i]? = some o' := ⟨_, List.getElem?_eq_getElem (by have := HK.out.2; omega)⟩
      rcases HL.out with hnil | ⟨b, off, rfl, hlie⟩
      · subst hnil; simp at ho
      rcases HL'.out with hnil | ⟨b', off', rfl, hlie'⟩
      · subst hnil; simp at ho'
      obtain ⟨e0, e1, e2, ev, e3, hse⟩ := hlie i o ho
      obtain ⟨f0, f1, f2, fv, f3, hsf⟩ := hlie' i o' ho'
      have HSE := hidI (hse.below HX.out (Nat.le_refl _))
      have HSF := hidI (hsf.below HX.out (Nat.le_refl _))
      replace e0 := kk e0
      replace e1 := kk e1
      replace e2 := kk e2
      replace e3 := kk e3
      replace f0 := kk f0
      replace f1 := kk f1
      replace f2 := kk f2
      replace f3 := kk f3
      obtain ⟨ea, ec, rfl, _⟩ := hse
      obtain ⟨fa, fc, rfl, _⟩ := hsf
      clear hlie hlie' kk
      have hgt : Try.prog.eqGuardType Try.prog.depth 40 = false := by kernel_rfl
      have qa := fun d os => cell_regrown c2' d os
      have qb' := fun d os => cell_regrown d2' d os
      have q0 := fun d os => cell_regrown e0 d os
      have q1 := fun d os => cell_regrown e1 d os
      have q2 := fun d os => cell_regrown e2 d os
      have q3 := fun d os => cell_regrown e3 d os
      have p0 := fun d os => cell_regrown f0 d os
      have p1 := fun d os => cell_regrown f1 d os
      have p2 := fun d os => cell_regrown f2 d os
      have p3 := fun d os => cell_regrown f3 d os
      by_cases n1 : ¬ o.name = o'.name
      · have n3 : ¬ o.name.toList = o'.name.toList := fun e => n1 (bytes_inj e)
        have n4 : (o.name.toList == o'.name.toList) = false := by simpa using n3
        have hbad : ¬ o' = o := fun e => n1 (by rw [e])
        obtain rfl : false = res := by
          cases res with
          | false => rfl
          | true =>
            exfalso
            have he := HRES.out.1 rfl
            rw [he] at ho
            obtain rfl : o' = o := by rw [ho'] at ho; exact Option.some.inj ho
            exact hbad rfl
        go_wp2
        refine wp_region_quiet_below (by kernel_rfl) (by kernel_rfl) ?_
        repeat (first | go_big_quiet_step (fail) | quiet_step (fail))
        refine wpQuiet_nil ?_
        intro _ hw'
        obtain ⟨⟨dq, osq⟩, hw''⟩ := hw'
        subst hw''
        have kkq := hidI (below_regrown wr dq osq)
        generalize Go.Sort.grow (redrawn wr dq) osq = wu at *
        have HXu : Hid (RowKit.Below w.heap.size w wu) := hidI (HX.out.trans (kkq.out.mono hwr))
        go_wp2
        go_ret
        exact ⟨rfl, HXu.out⟩
      replace n1 : o.name = o'.name := Classical.not_not.1 n1
      rw [← n1] at p0 f0
      by_cases n2 : ¬ o.side = o'.side
      · have n4 : (o.side == o'.side) = false := by simpa using n2
        have hbad : ¬ o' = o := fun e => n2 (by rw [e])
        obtain rfl : false = res := by
          cases res with
          | false => rfl
          | true =>
            exfalso
            have he := HRES.out.1 rfl
            rw [he] at ho
            obtain rfl : o' = o := by rw [ho'] at ho; exact Option.some.inj ho
            exact hbad rfl
        go_wp2
        refine wp_region_quiet_below (by kernel_rfl) (by kernel_rfl) ?_
        repeat (first | go_big_quiet_step (fail) | quiet_step (fail))
        refine wpQuiet_nil ?_
        intro _ hw'
        obtain ⟨⟨dq, osq⟩, hw''⟩ := hw'
        subst hw''
        have kkq := hidI (below_regrown wr dq osq)
        generalize Go.Sort.grow (redrawn wr dq) osq = wu at *
        have HXu : Hid (RowKit.Below w.heap.size w wu) := hidI (HX.out.trans (kkq.out.mono hwr))
        go_wp2
        go_ret
        exact ⟨rfl, HXu.out⟩
      replace n2 : o.side = o'.side := Classical.not_not.1 n2
      rw [← n2] at p1 f1
      by_cases n5 : ¬ o.kind = o'.kind
      · have n6 : (o.kind == o'.kind) = false := by simpa using n5
        have hbad : ¬ o' = o := fun e => n5 (by rw [e])
        obtain rfl : false = res := by
          cases res with
          | false => rfl
          | true =>
            exfalso
            have he := HRES.out.1 rfl
            rw [he] at ho
            obtain rfl : o' = o := by rw [ho'] at ho; exact Option.some.inj ho
            exact hbad rfl
        clear n1 n2
        go_wp2
        refine wp_region_quiet_below (by kernel_rfl) (by kernel_rfl) ?_
        repeat (first | go_big_quiet_step (fail) | quiet_step (fail))
        refine wpQuiet_nil ?_
        intro _ hw'
        obtain ⟨⟨dq, osq⟩, hw''⟩ := hw'
        subst hw''
        have kkq := hidI (below_regrown wr dq osq)
        generalize Go.Sort.grow (redrawn wr dq) osq = wu at *
        have HXu : Hid (RowKit.Below w.heap.size w wu) := hidI (HX.out.trans (kkq.out.mono hwr))
        go_wp2
        go_ret
        exact ⟨rfl, HXu.out⟩
      replace n5 : o.kind = o'.kind := Classical.not_not.1 n5
      rw [← n5] at p2 f2
      have k9 : (o.kind == o.kind) = true := by simp
      obtain ⟨q, hq⟩ : ∃ q, decide (o.vals = o'.vals) = q := ⟨_, rfl⟩
      have C46 := hidI (fun dd (oo : Array Obj) => Calls.regrown_of (w := wr) (d := dd) (os := oo) (words_any (HSE.out.below (below_regrown wr dd oo) (Nat.le_refl _)) (HSF.out.below (below_regrown wr dd oo) (Nat.le_refl _)) (HV.out.1 o (List.mem_of_getElem? ho)) (HV.out.2 o' (List.mem_of_getElem? ho'))))
      rw [hq] at C46
      have HN := hidI (And.intro n1 (And.intro n2 (And.intro n5 hq)))
      clear n1 n2 n5 hq
      cases q with
      | true =>
        go_wp2
        refine wp_region_quiet_below (by kernel_rfl) (by kernel_rfl) ?_
        repeat (first | go_big_quiet_step ((go_at_call 46; exact C46.out _ _)) | quiet_step ((go_at_call 46; exact C46.out _ _)))
        refine wpQuiet_nil ?_
        intro _ hw'
        obtain ⟨⟨dq, osq⟩, hw''⟩ := hw'
        subst hw''
        have kkq := hidI (below_regrown wr dq osq)
        generalize Go.Sort.grow (redrawn wr dq) osq = wu at *
        have HXu : Hid (RowKit.Below w.heap.size w wu) := hidI (HX.out.trans (kkq.out.mono hwr))
        clear C46
        go_wp2
        go_roundg g
        case measure => omega
        case rel =>
          refine ⟨i + 1, by omega, by go_num, hidI ?_, HXu⟩
          obtain ⟨m1, m2, m3, m4⟩ := HN.out
          rw [List.take_add_one, List.take_add_one, HT.out, ho, ho', One.eq m1 m2 m3 (of_decide_eq_true m4)]
      | false =>
        have hbad : ¬ o' = o := fun e => by
          have := of_decide_eq_false HN.out.2.2.2
          exact this (by rw [e])
        obtain rfl : false = res := by
          cases res with
          | false => rfl
          | true =>
            exfalso
            have he := HRES.out.1 rfl
            rw [he] at ho
            obtain rfl : o' = o := by rw [ho'] at ho; exact Option.some.inj ho
            exact hbad rfl
        go_wp2
        refine wp_region_quiet_below (by kernel_rfl) (by kernel_rfl) ?_
        repeat (first | go_big_quiet_step ((go_at_call 46; exact C46.out _ _)) | quiet_step ((go_at_call 46; exact C46.out _ _)))
        refine wpQuiet_nil ?_
        intro _ hw'
        obtain ⟨⟨dq, osq⟩, hw''⟩ := hw'
        subst hw''
        have kkq := hidI (below_regrown wr dq osq)
        generalize Go.Sort.grow (redrawn wr dq) osq = wu at *
        have HXu : Hid (RowKit.Below w.heap.size w wu) := hidI (HX.out.trans (kkq.out.mono hwr))
        clear C46
        go_wp2
        go_ret
        exact ⟨rfl, HXu.out⟩
end Go.Proofs.Ytbjoljokdjgbnab
