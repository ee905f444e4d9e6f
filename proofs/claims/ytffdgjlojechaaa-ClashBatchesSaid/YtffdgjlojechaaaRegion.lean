/-
  Whether acts hang on the order.
-/
import Derived.Test.YtffdgjlojechaaaClash
namespace Go.Proofs.Ytffdgjlojechaaa
open Go.RowKit Go.Deep Go.MapKept
open Go.ChangeMaps (setBlock)
theorem sb_cell {u : World} {b n i : Nat} {o : Obj} (h : n ≠ b) : (setBlock u b o).cell? ⟨n, i, none⟩ = u.cell? ⟨n, i, none⟩ := World.cell?_of_block (by simp [setBlock, Ne.symm h])
theorem sb_same {u : World} {b : Nat} {o : Obj} (h : b < u.heap.size) : (setBlock u b o).heap[b]? = some o := by simp [setBlock, h]
theorem sb_below {B : Nat} {w u : World} {b : Nat} {o : Obj} (h : Below B w u) (hb : B ≤ b) : Below B w (setBlock u b o) := by
  refine h.trans ⟨rfl, rfl, rfl, by simp [setBlock], fun k hk => ?_⟩
  have : b ≠ k := by omega
  simp [setBlock, this]
/-- The first act that hangs on the order, from a place on. -/
def reg (f : Fn) : Nat → List Deed → Int × Int
  | _, [] => (0, 0)
  | i, x :: r => if hits f x then ((i : Int), 10) else reg (upd f x.s x.does) (i + 1) r
/-- Names no longer than a machine has room for. -/
def okA (xs : List Deed) : Prop := ∀ x ∈ xs, x.s.size ≤ 140737488355328
set_option maxRecDepth 100000 in
set_option maxHeartbeats 1000000 in
theorem region_any (w : World) (v : Value) (xs : List Deed) (hv : SeesA w v xs) (hok : okA xs) (hlen : xs.length ≤ 1000) :
    Calls Try.prog 8 #[v] w fun e w' => e = .returned (.tuple #[.int .i64 (reg (fun _ => none) 0 xs).1, .int .i64 (reg (fun _ => none) 0 xs).2]) ∧ Below w.heap.size w w' := by
  obtain ⟨a, cap, rfl, hL⟩ := hv
  have HL := hidI hL
  have HO := hidI hok
  obtain ⟨k, hk⟩ : ∃ k, xs.length = k := ⟨_, rfl⟩
  have HK := hidI hk
  rw [hk] at hlen ⊢
  clear hL hok hk
  obtain ⟨R, hR⟩ : ∃ R, reg (fun _ => none) 0 xs = R := ⟨_, rfl⟩
  have HR := hidI hR
  rw [hR]
  clear hR
  obtain ⟨mb, hmb⟩ : ∃ mb, w.heap.size = mb := ⟨_, rfl⟩
  have HM := hidI (mapD_made w)
  have HB := hidI ((Below.refl w.heap.size w).alloc (Nat.le_refl _) (.map #[] 0))
  rw [hmb] at HM HB
  have hmm := @run_makeMap Try.prog
  go_enter Try.func8, Try.ntmps8
  go_wp2
  try simp only [hmb]
  go_loopg [10] k (fun g s10 wx => ∃ i : Nat, i + g = k ∧ s10 = .int .i64 i ∧ Hid (∃ f, MapD wx mb f ∧ reg f i (xs.drop i) = R) ∧ Hid (Below mb w wx))
  case atStart => exact ⟨0, by omega, rfl, hidI ⟨_, HM.out, by simpa using HR.out⟩, HB⟩
  case round =>
    obtain ⟨i, hig, rfl, HX, HY⟩ := hrel
    cases gk with
    | zero =>
      obtain rfl : k = i := by omega
      have k1 : decide ((k : Int) < (k : Int)) = false := by simp
      go_wp2
      go_ret2
      obtain ⟨f, _, hf⟩ := HX.out
      rw [List.drop_eq_nil_of_le (by have := HK.out; omega)] at hf
      rw [← hf]
      exact ⟨rfl, by rw [hmb]; exact HY.out⟩
    | succ g =>
      have k1 : (i : Int) < (k : Int) := by omega
      obtain ⟨x, hx⟩ : ∃ x, xs[i]? = some x := ⟨_, List.getElem?_eq_getElem (by have := HK.out; omega)⟩
      have hxs : x.s.size ≤ maxLen := by have := HO.out x (List.mem_of_getElem? hx); unfold maxLen; omega
      rcases HL.out with hnil | ⟨b, off, rfl, hlie⟩
      · subst hnil; simp at hx
      have kk : ∀ {p : Addr} {v : Value}, w.cell? p = some v → wr.cell? p = some v := fun {p v} hc => (HY.out.cell (by rw [← hmb]; exact World.block_lt_of_cell? w _ hc)).trans hc
      obtain ⟨c0, c1, c2, c3, c4, c5⟩ := hlie i x hx
      replace c0 := kk c0
      replace c1 := kk c1
      replace c2 := kk c2
      replace c3 := kk c3
      replace c4 := kk c4
      replace c5 := kk c5
      have hdrop : xs.drop i = x :: xs.drop (i + 1) := by
        rw [List.drop_eq_getElem_cons (by have := HK.out; omega)]
        congr 1
        exact Option.some.inj ((List.getElem?_eq_getElem _).symm.trans hx)
      obtain ⟨f, hM, hf⟩ := HX.out
      rw [hdrop] at hf
      have HF := hidI hf
      have hmlt := hM.lt
      have hmw : mb ≤ w.heap.size := by omega
      obtain ⟨W, hW⟩ : ∃ W, wr.alloc (.cells #[.int .u8 x.k, .string x.s, .int .u8 x.o, .bool x.i, .int .i64 x.e, .int .i64 x.c] 39) = W := ⟨_, rfl⟩
      have hWb : Below wr.heap.size wr W := by subst hW; (repeat (first | exact Below.refl _ _ | assumption | refine Below.drew ?_ | refine Below.alloc ?_ (by first | omega | (simp; done) | (simp; omega)) _ | refine Below.setCell ?_ (by first | omega | (simp; done) | (simp; omega)) _))
      have hWs : W.heap.size = wr.heap.size + 1 := by subst hW; simp
      have hMW : MapD W mb f := hM.same (hWb.block mb hmlt)
      have C := hidI (clash_any x W mb f hMW hxs)
      obtain ⟨hit, hhit⟩ : ∃ h, hits f x = h := ⟨_, rfl⟩
      rw [hhit] at C
      have e0 : W.cell? ⟨wr.heap.size, 0, none⟩ = some (.int .u8 x.k) := by subst hW; go_simp
      have e1 : W.cell? ⟨wr.heap.size, 1, none⟩ = some (.string x.s) := by subst hW; go_simp
      have e2 : W.cell? ⟨wr.heap.size, 2, none⟩ = some (.int .u8 x.o) := by subst hW; go_simp
      have e3 : W.cell? ⟨wr.heap.size, 3, none⟩ = some (.bool x.i) := by subst hW; go_simp
      have e4 : W.cell? ⟨wr.heap.size, 4, none⟩ = some (.int .i64 x.e) := by subst hW; go_simp
      have e5 : W.cell? ⟨wr.heap.size, 5, none⟩ = some (.int .i64 x.c) := by subst hW; go_simp
      have HWb := hidI hWb
      have HH := hidI hhit
      have HMW := hidI hMW
      clear hlie kk hdrop hf hM hx hWb hhit hMW HX
      go_wp2_with (go_at_call 17; refine Calls.mono C.out ?_; rintro e w3 ⟨rfl, hb3⟩; refine Hid.out ?_)
      refine hidI ?_
      have H3 := hidI hb3
      have hs3 := hb3.size
      clear hb3 C hW
      cases hit with
      | true =>
        go_wp2
        go_ret2
        have hf := HF.out
        rw [reg, HH.out] at hf
        simp only [if_true] at hf
        rw [← hf]
        exact ⟨rfl, by rw [hmb]; exact HY.out.trans ((HWb.out.trans (H3.out.mono HWb.out.size)).mono (by omega))⟩
      | false =>
        have D : ∀ u : World, Below w3.heap.size w3 u → ∀ {j : Nat} {v : Value}, W.cell? ⟨wr.heap.size, j, none⟩ = some v → u.cell? ⟨wr.heap.size, j, none⟩ = some v := fun u hu {j v} h =>
          ((hu.cell (p := ⟨wr.heap.size, j, none⟩) (by simp only; omega)).trans (H3.out.cell (p := ⟨wr.heap.size, j, none⟩) (by simp only; omega))).trans h
        obtain ⟨o, s1, s2, s3⟩ := store (HMW.out.same (H3.out.block mb (by omega))) hxs x.does
        have A0 : Hid (∀ u : World, Below w3.heap.size w3 u → u.cell? ⟨wr.heap.size, 0, none⟩ = some (.int .u8 x.k)) := hidI fun u hu => D u hu e0
        have A1 : Hid (∀ u : World, Below w3.heap.size w3 u → u.cell? ⟨wr.heap.size, 1, none⟩ = some (.string x.s)) := hidI fun u hu => D u hu e1
        have A2 : Hid (∀ u : World, Below w3.heap.size w3 u → u.cell? ⟨wr.heap.size, 2, none⟩ = some (.int .u8 x.o)) := hidI fun u hu => D u hu e2
        have A3 : Hid (∀ u : World, Below w3.heap.size w3 u → u.cell? ⟨wr.heap.size, 3, none⟩ = some (.bool x.i)) := hidI fun u hu => D u hu e3
        have A4 : Hid (∀ u : World, Below w3.heap.size w3 u → u.cell? ⟨wr.heap.size, 4, none⟩ = some (.int .i64 x.e)) := hidI fun u hu => D u hu e4
        have A5 : Hid (∀ u : World, Below w3.heap.size w3 u → u.cell? ⟨wr.heap.size, 5, none⟩ = some (.int .i64 x.c)) := hidI fun u hu => D u hu e5
        have U : Hid (∀ u : World, Below w3.heap.size w3 u → (Instr.mapUpdate 44 (.map (some mb)) (.string x.s) (dval x.does)).run Try.prog u = .ok () (setBlock u mb o)) := hidI fun u hu => s1 u (hu.block mb (by omega))
        have V : Hid (∀ u : World, u.heap[mb]? = some o → (Instr.mapUpdate 44 (.map (some mb)) (.string x.s) (dval x.does)).run Try.prog u = .ok () (setBlock u mb o)) := hidI s2
        have S3 := hidI s3
        have s0 : Hid (Below w3.heap.size w3 w3.drew) := hidI (Below.refl _ _).drew
        have C8 := hidI (deedOf_any x w3.drew)
        have hne : wr.heap.size ≠ mb := by omega
        clear D s1 s2 s3 e0 e1 e2 e3 e4 e5 c0 c1 c2 c3 c4 c5
        go_wp2
        go_region_held3 (fun w' => w'.cell? ⟨wr.heap.size, 0, none⟩ = some (.int .u8 x.k) ∧ w'.cell? ⟨wr.heap.size, 1, none⟩ = some (.string x.s) ∧ w'.cell? ⟨wr.heap.size, 2, none⟩ = some (.int .u8 x.o) ∧ w'.cell? ⟨wr.heap.size, 3, none⟩ = some (.bool x.i) ∧ w'.cell? ⟨wr.heap.size, 4, none⟩ = some (.int .i64 x.e) ∧ w'.cell? ⟨wr.heap.size, 5, none⟩ = some (.int .i64 x.c) ∧ (Instr.mapUpdate 44 (.map (some mb)) (.string x.s) (dval x.does)).run Try.prog w' = .ok () (setBlock w' mb o))
          (first | assumption | exact ⟨A0.out _ kk.out, A1.out _ kk.out, A2.out _ kk.out, A3.out _ kk.out, A4.out _ kk.out, A5.out _ kk.out, U.out _ kk.out⟩ | exact ⟨A0.out _ s0.out, A1.out _ s0.out, A2.out _ s0.out, A3.out _ s0.out, A4.out _ s0.out, A5.out _ s0.out, U.out _ s0.out⟩ | exact ⟨(sb_cell hne).trans (A0.out _ kk.out), (sb_cell hne).trans (A1.out _ kk.out), (sb_cell hne).trans (A2.out _ kk.out), (sb_cell hne).trans (A3.out _ kk.out), (sb_cell hne).trans (A4.out _ kk.out), (sb_cell hne).trans (A5.out _ kk.out), V.out _ (sb_same (by have := kk.out.size; omega))⟩)
          ((go_at_call 18; refine Calls.mono C8.out ?_; rintro e w4 ⟨rfl, hb4⟩; have kk := hidI (s0.out.trans (hb4.mono s0.out.size)); clear hb4))
        all_goals
          go_wp2
          go_roundg g
          case measure => omega
          case rel =>
            have b4 := kk.out
            refine ⟨i + 1, by omega, by go_num, hidI ⟨_, S3.out _ (sb_same (by have := b4.size; omega)), ?_⟩, hidI (sb_below (HY.out.trans (((HWb.out.trans (H3.out.mono HWb.out.size)).mono (by omega)).trans (b4.mono (by omega)))) (Nat.le_refl _))⟩
            have hf := HF.out
            rw [reg, HH.out] at hf
            simpa using hf
end Go.Proofs.Ytffdgjlojechaaa
