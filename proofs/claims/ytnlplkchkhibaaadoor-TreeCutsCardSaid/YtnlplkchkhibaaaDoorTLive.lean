/-
  What must be whatever is asked: its tokens, and its forms.
-/
import Derived.Test.YtnlplkchkhibaaaDoorSizeW
import Derived.Test.YtnlplkchkhibaaaDoorTopOM
namespace Go.Proofs.YtnlplkchkhibaaaDoor
open Go.RowKit Go.Deep Go.MapKept
abbrev tsL : List Tok := [⟨1, ⟨#[]⟩, 0, 0⟩, ⟨3, ⟨#[97]⟩, 0, 1⟩, ⟨1, ⟨#[]⟩, 0, 3⟩, ⟨4, ⟨#[]⟩, 4, 4⟩, ⟨2, ⟨#[]⟩, 0, 5⟩, ⟨2, ⟨#[]⟩, 0, 6⟩]
abbrev fmL : List Frm := [⟨1, ⟨#[]⟩, 0, [1, 2], 0⟩, ⟨3, ⟨#[97]⟩, 0, [], 1⟩, ⟨1, ⟨#[]⟩, 0, [3], 3⟩, ⟨4, ⟨#[]⟩, 4, [], 4⟩]
theorem parse6 : parse tsL = .ok ⟨fmL, [0], []⟩ := by rfl
theorem parse5 : parse (tsL.take 5) = .error (0, 8) := by rfl
theorem kwa : kindW ⟨#[97]⟩ = 3 := by
  unfold kindW
  rw [if_neg (not_num (c := 97) (r := []) rfl (by decide) (by unfold Dig; decide)), if_pos (by decide +kernel)]
theorem four_of {ms : List MV} (h : ms.map Prod.fst = fmL.map toFm) : ∃ k0 k1 k2 k3, ms = [(⟨1, ⟨#[]⟩, 0, [1, 2], 0⟩, k0), (⟨3, ⟨#[97]⟩, 0, [], 1⟩, k1), (⟨1, ⟨#[]⟩, 0, [3], 3⟩, k2), (⟨4, ⟨#[]⟩, 4, [], 4⟩, k3)] := by
  match ms, h with
  | [(a, k0), (b, k1), (c, k2), (d, k3)], h =>
    simp only [List.map_cons, List.map_nil, toFm, List.cons.injEq, and_true] at h
    obtain ⟨rfl, rfl, rfl, rfl⟩ := h
    exact ⟨k0, k1, k2, k3, rfl⟩
section
variable (k0 k1 k2 k3 : Value)
abbrev msL : List MV := [(⟨1, ⟨#[]⟩, 0, [1, 2], 0⟩, k0), (⟨3, ⟨#[97]⟩, 0, [], 1⟩, k1), (⟨1, ⟨#[]⟩, 0, [3], 3⟩, k2), (⟨4, ⟨#[]⟩, 4, [], 4⟩, k3)]
theorem walkL : WalkR (kidsOf (msL k0 k1 k2 k3)) (msL k0 k1 k2 k3).length 0 (-1) (-1) [0] 4 [(-1, 0), (0, 1), (0, 2), (2, 3)] true := by
  have q3 : WalkR (kidsOf (msL k0 k1 k2 k3)) (msL k0 k1 k2 k3).length 4 3 3 [] 4 [] true := .done _ _ _
  have q2 : WalkR (kidsOf (msL k0 k1 k2 k3)) (msL k0 k1 k2 k3).length 3 2 2 [3] 4 [(2, 3)] true := .more (ys1 := []) (ys2 := []) (t1 := 4) (by decide) (by simp) (by decide) q3 (.done _ _ _)
  have q1 : WalkR (kidsOf (msL k0 k1 k2 k3)) (msL k0 k1 k2 k3).length 2 1 1 [] 2 [] true := .done _ _ _
  have q0 : WalkR (kidsOf (msL k0 k1 k2 k3)) (msL k0 k1 k2 k3).length 1 0 0 [1, 2] 4 [(0, 1), (0, 2), (2, 3)] true :=
    .more (ys1 := []) (ys2 := [(0, 2), (2, 3)]) (t1 := 2) (by decide) (by simp) (by decide) q1 (.more (ys1 := [(2, 3)]) (ys2 := []) (t1 := 4) (by decide) (by simp) (by decide) q2 (.done _ _ _))
  exact .more (ys1 := [(0, 1), (0, 2), (2, 3)]) (ys2 := []) (t1 := 4) (by decide) (by simp) (by decide) q0 (.done _ _ _)
theorem depthL : depthOf (msL k0 k1 k2 k3) [0] = 2 := by rfl
theorem namedL : namedN (msL k0 k1 k2 k3) [0] = 4 := by rfl
theorem okL : ∀ (i : Nat) (x : MV), (msL k0 k1 k2 k3)[i]? = some x → okF x.1 = true := by
  intro i x hx
  have hi : i < 4 := (List.getElem?_eq_some_iff.1 hx).1
  have hm : i = 0 ∨ i = 1 ∨ i = 2 ∨ i = 3 := by omega
  have e0 : (⟨#[]⟩ : ByteArray).toList = [] := by rw [ByteArray.toList_eq]
  rcases hm with rfl | rfl | rfl | rfl <;> simp only [List.getElem?_cons_zero, List.getElem?_cons_succ, Option.some.injEq] at hx <;> subst hx <;> simp [okF, kwa, e0]
theorem ordL : InOrd [(-1, 0), (0, 1), (0, 2), (2, 3)] := by decide
end
end Go.Proofs.YtnlplkchkhibaaaDoor
/-
  What must be whatever is asked, of tree.
-/
namespace Go.Proofs.YtnlplkchkhibaaaDoor
open Go.RowKit Go.Deep Go.MapKept
abbrev cellsL : Array Value := #[.int .u8 1, .string ⟨#[]⟩, .int .i64 0, .int .i64 0, .int .u8 3, .string ⟨#[97]⟩, .int .i64 0, .int .i64 1, .int .u8 1, .string ⟨#[]⟩, .int .i64 0, .int .i64 3, .int .u8 4, .string ⟨#[]⟩, .int .i64 4, .int .i64 4, .int .u8 2, .string ⟨#[]⟩, .int .i64 0, .int .i64 5, .int .u8 2, .string ⟨#[]⟩, .int .i64 0, .int .i64 6]
theorem cell_new (w : World) (cs : Array Value) (t : TypeId) (j : Nat) (c : Value) (h : cs.toList[j]? = some c) : (w.alloc (.cells cs t)).cell? ⟨w.heap.size, j, none⟩ = some c := by
  unfold World.cell?
  rw [World.alloc_heap_new]
  have : cs[j]? = some c := by rw [← Array.getElem?_toList]; exact h
  simpa using this
theorem rightL (k0 k1 k2 k3 : Value) (fv tv : Value) (w : World) (hL : Laid w) (hm : SeesM w fv (msL k0 k1 k2 k3)) (ht : SeesC w tv [(0 : Int)].length 1 (intsI [0])) : Calls Tryd.prog 17 #[fv, tv] w fun e w' => e = .returned (.bool true) ∧ Below w.heap.size w w' := by
  have h := right_walk fv tv (msL k0 k1 k2 k3) [0] w hL hm ht (by simp) (by simp) (by intro x hx; simp at hx; rcases hx with rfl | rfl | rfl | rfl <;> exact Nat.le_of_ble_eq_true rfl) (by intro x hx; simp at hx; rcases hx with rfl | rfl | rfl | rfl <;> exact Nat.le_of_ble_eq_true rfl) (okL k0 k1 k2 k3) (walkL k0 k1 k2 k3)
  rw [depthL, namedL] at h
  have e1 : (decide (InOrd [((-1 : Int), (0 : Int)), (0, 1), (0, 2), (2, 3)]) && (decide ((([((-1 : Int), (0 : Int)), (0, 1), (0, 2), (2, 3)] : List (Int × Int)).length : Int) = ((msL k0 k1 k2 k3).length : Int)) && (decide ((4 : Int) = ((msL k0 k1 k2 k3).length : Int)) && decide ((2 : Int) ≤ 12)))) = true := by
    rw [decide_eq_true ordL]
    rfl
  rw [e1] at h
  exact h
set_option maxHeartbeats 2000000 in
theorem tlive_any (w : World) (hL : Laid w) : Calls Tryd.prog 12 #[] w fun e w' => e = .returned (.bool true) ∧ Below w.heap.size w w' := by
  have hs6 : SeesC (w.alloc (.cells cellsL 37)) (.slice (some ⟨w.heap.size, 0, none⟩) 6 6) tsL.length 4 (flatT tsL) := by
    refine ⟨rfl, _, 6, rfl, .inr ⟨w.heap.size, 0, rfl, fun j c hc => ?_⟩⟩
    rw [Nat.zero_add]
    exact cell_new w cellsL 37 j c hc
  have hs5 : SeesC (w.alloc (.cells cellsL 37)) (.slice (some ⟨w.heap.size, 0, none⟩) 5 6) (tsL.take 5).length 4 (flatT (tsL.take 5)) := by
    refine ⟨rfl, _, 6, rfl, .inr ⟨w.heap.size, 0, rfl, fun j c hc => ?_⟩⟩
    rw [Nat.zero_add]
    refine cell_new w cellsL 37 j c ?_
    have hj : j < 20 := (List.getElem?_eq_some_iff.1 hc).1
    rw [← hc]
    show (cellsL.toList)[j]? = (cellsL.toList.take 20)[j]?
    rw [List.getElem?_take_of_lt hj]
  have hsz : ∀ t ∈ tsL, t.s.size ≤ 140737488355328 := by intro t ht; simp at ht; rcases ht with rfl | rfl | rfl | rfl | rfl | rfl <;> decide
  have hp6 := tparse_any tsL _ _ hs6 hsz (by decide)
  rw [parse6] at hp6
  have C6 := hidI hp6
  have HS5 := hidI hs5
  have hb0 : Below w.heap.size w (w.alloc (.cells cellsL 37)) := by (repeat (first | exact Below.refl _ _ | assumption | refine Below.drew ?_ | refine Below.alloc ?_ (by first | omega | (simp; done) | (simp; omega)) _ | refine Below.setCell ?_ (by first | omega | (simp; done) | (simp; omega)) _))
  have HB0 := hidI hb0
  have HL := hidI hL
  have HZ := hidI hsz
  clear hs6 hs5 hp6 hb0 hL hsz
  go_enter Tryd.func12, Tryd.ntmps12
  go_wp2_with (go_at_call 9; have hh := C6.out; clear hh; refine C6.out.mono ?_; rintro e w1 ⟨fv, tv, rfl, hf, ht, hb1⟩; refine Hid.out ?_)
  obtain ⟨ms, hms, hsm⟩ := seesM_of hf
  obtain ⟨k0, k1, k2, k3, rfl⟩ := four_of hms
  obtain ⟨_, fa, fc, hfv, _⟩ := hsm.row
  have ht2 := ht
  obtain ⟨_, ta, tc, htv, _⟩ := ht2
  have HSM := hidI hsm
  have hti : SeesC w1 tv [(0 : Int)].length 1 (intsI [0]) := ht
  have HB1 := hidI hb1
  have hp5 := tparse_any (tsL.take 5) _ _ (HS5.out.below hb1 (Nat.le_refl _)) (fun t h => HZ.out t (List.mem_of_mem_take h)) (by decide)
  rw [parse5] at hp5
  have C5 := hidI hp5
  subst hfv
  subst htv
  have hbw1 := HB0.out.trans (hb1.mono HB0.out.size)
  have HBW := hidI hbw1
  have hL1 := HL.out.on hbw1
  have C17 : Hid (∀ W, Below w1.heap.size w1 W → Calls Tryd.prog 17 #[.slice fa 4 fc, .slice ta 1 tc] W fun e w' => e = .returned (.bool true) ∧ Below W.heap.size W w') := hidI fun W h => rightL k0 k1 k2 k3 _ _ W (hL1.on h) (HSM.out.below h (Nat.le_refl _)) (hti.below h (Nat.le_refl _))
  have C18 : Hid (∀ W, Below w1.heap.size w1 W → Calls Tryd.prog 18 #[.slice fa 4 fc, .slice ta 1 tc] W fun e w' => e = .returned (.int .i64 2) ∧ Below W.heap.size W w') := hidI fun W h => by
    have := depth_any (.slice fa 4 fc) (.slice ta 1 tc) (msL k0 k1 k2 k3) [0] W (HSM.out.below h (Nat.le_refl _)) (hti.below h (Nat.le_refl _)) (by simp) (by intro x hx; simp at hx; rcases hx with rfl | rfl | rfl | rfl <;> exact Nat.le_of_ble_eq_true rfl) (by simp)
    rwa [depthL] at this
  have C15 : Hid (∀ W, Below w1.heap.size w1 W → Calls Tryd.prog 15 #[.slice fa 4 fc, .int .i64 0] W fun e w' => e = .returned (.int .i64 4) ∧ Below W.heap.size W w') := hidI fun W h =>
    size_any (.slice fa 4 fc) (msL k0 k1 k2 k3) 0 W (HSM.out.below h (Nat.le_refl _)) (by intro x hx; simp at hx; rcases hx with rfl | rfl | rfl | rfl <;> exact Nat.le_of_ble_eq_true rfl) (by simp) (walkL k0 k1 k2 k3)
  refine hidI ?_
  clear hsm ht hti hb1 hp5 C6 hms hf hbw1 hL1 HSM HS5 HB0 HL HZ
  go_wp2_with (first
    | (go_at_call 9; refine C5.out.mono ?_; rintro e w2 ⟨rfl, hb2⟩; have HB2 := hidI hb2; clear hb2)
    | (go_at_call 17; refine (C17.out _ HB2.out).mono ?_; rintro e w3 ⟨rfl, hb3⟩; have HB3 := hidI (HB2.out.trans (hb3.mono HB2.out.size)); clear hb3)
    | (go_at_call 18; refine (C18.out _ HB3.out).mono ?_; rintro e w4 ⟨rfl, hb4⟩; have HB4 := hidI (HB3.out.trans (hb4.mono HB3.out.size)); clear hb4)
    | (go_at_call 15; refine (C15.out _ HB4.out).mono ?_; rintro e w5 ⟨rfl, hb5⟩; have HB5 := hidI (HB4.out.trans (hb5.mono HB4.out.size)); clear hb5))
  go_ret
  exact ⟨rfl, HBW.out.trans (HB5.out.mono HBW.out.size)⟩
end Go.Proofs.YtnlplkchkhibaaaDoor
