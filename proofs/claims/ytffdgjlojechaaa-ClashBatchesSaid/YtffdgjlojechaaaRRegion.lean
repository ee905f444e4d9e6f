/-
  The document's Region.
-/
import Derived.Test.YtffdgjlojechaaaMathR
namespace Go.Proofs.Ytffdgjlojechaaa
open Go.RowKit Go.Deep Go.MapKept Go.Sort
theorem bytes_ne {s t : ByteArray} (h : ¬ s = t) : ¬ s.toList = t.toList := fun e => h (by
  rw [ByteArray.toList_eq, ByteArray.toList_eq] at e
  exact ByteArray.ext (Array.toList_inj.1 e))
set_option maxRecDepth 100000 in
set_option maxHeartbeats 1000000 in
theorem rregion_any (w : World) (v : Value) (xs : List Deed) (hv : SeesA w v xs) (hlen : xs.length ≤ 1000) :
    Calls Try.prog 9 #[v] w fun e w' => e = .returned (.tuple #[.int .i64 (R xs).1, .int .i64 (R xs).2]) ∧ Below w.heap.size w w' := by
  obtain ⟨a, cap, rfl, hL⟩ := hv
  have HL := hidI hL
  obtain ⟨n, hn⟩ : ∃ n, xs.length = n := ⟨_, rfl⟩
  have HN := hidI hn
  rw [hn] at hlen ⊢
  obtain ⟨T, hT⟩ : ∃ T, R xs = T := ⟨_, rfl⟩
  have HR := hidI hT
  rw [hT]
  clear hL hn hT
  go_enter Try.func9, Try.ntmps9
  go_wp2
  go_loopg [4] n (fun g s4 wx => ∃ i : Nat, i + g = n ∧ s4 = .int .i64 i ∧ Hid (refReg (xs.take i) i (xs.drop i) = T) ∧ Hid (Below w.heap.size w wx))
  case atStart => exact ⟨0, by omega, rfl, hidI (by simpa [R] using HR.out), hidI (Below.refl _ _)⟩
  case round =>
    obtain ⟨i, hig, rfl, HT, HY⟩ := hrel
    cases gk with
    | zero =>
      obtain rfl : n = i := by omega
      have k1 : decide ((n : Int) < (n : Int)) = false := by simp
      go_wp2
      go_ret2
      have hf := HT.out
      rw [List.drop_eq_nil_of_le (by have := HN.out; omega)] at hf
      rw [← hf]
      exact ⟨rfl, HY.out⟩
    | succ g =>
      have k1 : (i : Int) < (n : Int) := by omega
      obtain ⟨x, hx⟩ : ∃ x, xs[i]? = some x := ⟨_, List.getElem?_eq_getElem (by have := HN.out; omega)⟩
      rcases HL.out with hnil | ⟨b, off, rfl, hlie⟩
      · subst hnil; simp at hx
      have hdrop : xs.drop i = x :: xs.drop (i + 1) := by
        rw [List.drop_eq_getElem_cons (by have := HN.out; omega)]
        congr 1
        exact Option.some.inj ((List.getElem?_eq_getElem _).symm.trans hx)
      have hf := HT.out
      rw [hdrop, refReg] at hf
      have HF := hidI hf
      have HX := hidI hx
      have HLI := hidI hlie
      clear hdrop hf HT hx hlie HL
      go_wp2
      go_loopg [5] i (fun g2 s5 wy => ∃ j : Nat, j + g2 = i ∧ s5 = .int .i64 j ∧ Hid (((xs.take j).any fun y => cl y x) = false) ∧ Hid (Below w.heap.size w wy))
      case atStart => exact ⟨0, by omega, rfl, hidI (by simp), HY⟩
      case round =>
        obtain ⟨j, hjg, rfl, HJ, HZ⟩ := hrel
        cases gk with
        | zero =>
          obtain rfl : i = j := by omega
          have k2 : decide ((i : Int) < (i : Int)) = false := by simp
          go_wp2
          go_roundg g
          case measure => omega
          case rel =>
            refine ⟨i + 1, by omega, by go_num, hidI ?_, HZ⟩
            have hf := HF.out
            rw [HJ.out] at hf
            rw [List.take_add_one, HX.out]
            simpa using hf
        | succ g2 =>
          have k2 : (j : Int) < (i : Int) := by omega
          have k3 : (j : Int) < (n : Int) := by omega
          obtain ⟨y, hy⟩ : ∃ y, xs[j]? = some y := ⟨_, List.getElem?_eq_getElem (by have := HN.out; omega)⟩
          have kk : ∀ {p : Addr} {v : Value}, w.cell? p = some v → ∀ d os, (grow (redrawn wr d) os).cell? p = some v := fun {p v} hc d os => cell_regrown ((HZ.out.cell (World.block_lt_of_cell? w _ hc)).trans hc) d os
          obtain ⟨x0, x1, x2, _⟩ := HLI.out i x HX.out
          obtain ⟨y0, y1, y2, _⟩ := HLI.out j y hy
          replace x0 := kk x0
          replace x1 := kk x1
          replace x2 := kk x2
          replace y0 := kk y0
          replace y1 := kk y1
          replace y2 := kk y2
          have HTK : Hid (xs.take (j + 1) = xs.take j ++ [y]) := hidI (by rw [List.take_add_one, hy]; rfl)
          clear kk
          have HMEM : Hid (y ∈ xs.take i) := hidI (List.mem_of_getElem? (i := j) (by rw [List.getElem?_take, if_pos (by omega)]; exact hy))
          clear hy
          by_cases n1 : y.s = x.s
          · by_cases n2 : y.k = 1
            · have HC : Hid (cl y x = true) := hidI (by simp [cl, n1, n2])
              rw [n1] at y1
              rw [n2] at y0
              go_wp2
              refine wp_region_quiet_below (by kernel_rfl) (by kernel_rfl) ?_
              repeat (first | go_big_quiet_step (fail) | quiet_step (fail))
              refine wpQuiet_nil ?_
              intro _ hw'
              obtain ⟨⟨dq, osq⟩, hw''⟩ := hw'
              subst hw''
              have HW := hidI (HZ.out.trans ((below_regrown wr dq osq).mono HZ.out.size))
              generalize grow (redrawn wr dq) osq = w7 at *
              clear x0 x1 x2 y0 y1 y2
              go_wp2
              go_ret2
              have hf := HF.out
              rw [if_pos (List.any_eq_true.2 ⟨y, HMEM.out, HC.out⟩)] at hf
              rw [← hf]
              exact ⟨rfl, HW.out⟩
            · have n2' : (y.k == 1) = false := by simpa using n2
              have n2'' : decide (y.k = 1) = false := by simpa using n2
              by_cases n4 : x.k = 1
              · have HC : Hid (cl y x = true) := hidI (by simp [cl, n1, n4])
                rw [n1] at y1
                rw [n4] at x0
                go_wp2
                refine wp_region_quiet_below (by kernel_rfl) (by kernel_rfl) ?_
                repeat (first | go_big_quiet_step (fail) | quiet_step (fail))
                refine wpQuiet_nil ?_
                intro _ hw'
                obtain ⟨⟨dq, osq⟩, hw''⟩ := hw'
                subst hw''
                have HW := hidI (HZ.out.trans ((below_regrown wr dq osq).mono HZ.out.size))
                generalize grow (redrawn wr dq) osq = w7 at *
                clear x0 x1 x2 y0 y1 y2
                go_wp2
                go_ret2
                have hf := HF.out
                rw [if_pos (List.any_eq_true.2 ⟨y, HMEM.out, HC.out⟩)] at hf
                rw [← hf]
                exact ⟨rfl, HW.out⟩
              · have n4' : (x.k == 1) = false := by simpa using n4
                have n4'' : decide (x.k = 1) = false := by simpa using n4
                by_cases n5 : y.o = x.o
                · have HC : Hid (cl y x = false) := hidI (by simp [cl, n2, n4, n5])
                  rw [n1] at y1
                  rw [n5] at y2
                  go_wp2
                  refine wp_region_quiet_below (by kernel_rfl) (by kernel_rfl) ?_
                  repeat (first | go_big_quiet_step (fail) | quiet_step (fail))
                  refine wpQuiet_nil ?_
                  intro _ hw'
                  obtain ⟨⟨dq, osq⟩, hw''⟩ := hw'
                  subst hw''
                  have HW := hidI (HZ.out.trans ((below_regrown wr dq osq).mono HZ.out.size))
                  generalize grow (redrawn wr dq) osq = w7 at *
                  clear x0 x1 x2 y0 y1 y2
                  go_wp2
                  go_roundg g2
                  case measure => omega
                  case rel =>
                    refine ⟨j + 1, by omega, by go_num, hidI ?_, HW⟩
                    rw [HTK.out, List.any_append, HJ.out]
                    simp [HC.out]
                · have n5' : (y.o == x.o) = false := by simpa using n5
                  have n5'' : decide (y.o = x.o) = false := by simpa using n5
                  have HC : Hid (cl y x = true) := hidI (by simp [cl, n1, n5])
                  rw [n1] at y1
                  go_wp2
                  refine wp_region_quiet_below (by kernel_rfl) (by kernel_rfl) ?_
                  repeat (first | go_big_quiet_step (fail) | quiet_step (fail))
                  refine wpQuiet_nil ?_
                  intro _ hw'
                  obtain ⟨⟨dq, osq⟩, hw''⟩ := hw'
                  subst hw''
                  have HW := hidI (HZ.out.trans ((below_regrown wr dq osq).mono HZ.out.size))
                  generalize grow (redrawn wr dq) osq = w7 at *
                  clear x0 x1 x2 y0 y1 y2
                  go_wp2
                  go_ret2
                  have hf := HF.out
                  rw [if_pos (List.any_eq_true.2 ⟨y, HMEM.out, HC.out⟩)] at hf
                  rw [← hf]
                  exact ⟨rfl, HW.out⟩
          · have n3 := bytes_ne n1
            have n3' : (y.s.toList == x.s.toList) = false := by simpa using n3
            have HC : Hid (cl y x = false) := hidI (by simp [cl, n1])
            go_wp2
            refine wp_region_quiet_below (by kernel_rfl) (by kernel_rfl) ?_
            repeat (first | go_big_quiet_step (fail) | quiet_step (fail))
            refine wpQuiet_nil ?_
            intro _ hw'
            obtain ⟨⟨dq, osq⟩, hw''⟩ := hw'
            subst hw''
            have HW := hidI (HZ.out.trans ((below_regrown wr dq osq).mono HZ.out.size))
            generalize grow (redrawn wr dq) osq = w7 at *
            clear x0 x1 x2 y0 y1 y2
            go_wp2
            go_roundg g2
            case measure => omega
            case rel =>
              refine ⟨j + 1, by omega, by go_num, hidI ?_, HW⟩
              rw [HTK.out, List.any_append, HJ.out]
              simp [HC.out]
end Go.Proofs.Ytffdgjlojechaaa
