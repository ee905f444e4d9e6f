/-
  A form put behind all others: what add comes to.
-/
import Derived.Test.YtpfgohlicfcaeabDoorReg8
namespace Go.Proofs.YtpfgohlicfcaeabDoor
open Go.RowKit Go.Deep Go.MapKept
theorem Tryd.info3x : (Tryd.prog.info? 3).map (fun i => (i.zero, i.size, i.bytes)) = some (some (.int .i64 0), 1, 8) := by kernel_rfl
theorem int_seen {W : World} (x : Int) : SeesC (W.alloc (.cells #[.int .i64 x] 3)) (.slice (some ⟨W.heap.size, 0, none⟩) 1 1) 1 1 [.int .i64 x] := by
  refine ⟨rfl, _, 1, rfl, .inr ⟨W.heap.size, 0, rfl, fun j c hc => ?_⟩⟩
  have hj : j < 1 := by have := (List.getElem?_eq_some_iff.1 hc).1; simpa using this
  obtain rfl : j = 0 := by omega
  simp only [List.getElem?_cons_zero, Option.some.injEq] at hc
  subst hc
  go_simp
theorem int_at {W : World} {b : Nat} (x : Int) (h : b = W.heap.size) : SeesC (W.alloc (.cells #[.int .i64 x] 3)) (.slice (some ⟨b, 0, none⟩) 1 1) 1 1 [.int .i64 x] := by subst h; exact int_seen x
abbrev flt (p e : Int) : List PanicEntry := [{ v := .iface 65 (.agg #[.int .i64 p, .int .i64 e]), recovered := false }]
section
variable {w : World} {base B : Nat} {fs : List FV} {top opn : List Nat} {fv tv ov : Value}
theorem add_full (h : RD w base B fs top opn fv tv ov) (hl : fs.length = 400) (f : Frm) :
    Calls Tryd.prog 77 #[.pointer (some ⟨B, 0, none⟩), .agg #[.int .u8 f.k, .string f.s, .int .i64 f.n, .slice none 0 0, .int .i64 f.p]] w fun e w' => e = .panicked (flt f.p 4) ∧ Below w.heap.size w w' := by
  obtain ⟨fa, fc, rfl⟩ := own_slice h.fo
  have c0 := h.c0
  rw [hl] at c0
  have cA := cell_al (.cells #[.int .u8 f.k, .string f.s, .int .i64 f.n, .slice none 0 0, .int .i64 f.p] 35) c0
  clear h
  go_enter Tryd.func77, Tryd.ntmps77
  go_wp2
  exact ⟨rfl, rfl, by (repeat (first | exact Below.refl _ _ | assumption | refine Below.drew ?_ | refine Below.alloc ?_ (by first | omega | (simp; done) | (simp; omega)) _ | refine Below.setCell ?_ (by first | omega | (simp; done) | (simp; omega)) _))⟩
def AddPost (w : World) (base B : Nat) (fs : List FV) (top opn : List Nat) (fv tv ov : Value) (f : Frm) (w' : World) : Prop :=
  Chg (RB B fs top opn fv tv ov) w w' ∧ ∃ fs' top' fv' tv', RD w' base B fs' top' opn fv' tv' ov ∧ addF f ⟨fs.map Prod.fst, top, opn⟩ = ⟨fs'.map Prod.fst, top', opn⟩
set_option maxHeartbeats 1000000 in
theorem add_top (h : RD w base B fs top [] fv tv ov) (hl : fs.length < 400) (ht : top.length ≤ fs.length) (f : Frm) (hf : f.kids = []) :
    Calls Tryd.prog 77 #[.pointer (some ⟨B, 0, none⟩), .agg #[.int .u8 f.k, .string f.s, .int .i64 f.n, .slice none 0 0, .int .i64 f.p]] w fun e w' => e = .returned (.int .i64 (fs.length : Int)) ∧ AddPost w base B fs top [] fv tv ov f w' := by
  have HR := hidI (h.alloc (.cells #[.int .u8 f.k, .string f.s, .int .i64 f.n, .slice none 0 0, .int .i64 f.p] 35))
  have HR0 := hidI h
  have hlt := h.lt
  obtain ⟨oa, oc, rfl⟩ := own_slice h.oo
  obtain ⟨fa, fc, rfl⟩ := own_slice h.fo
  obtain ⟨ta, tc, rfl⟩ := own_slice h.to
  have a0 := HR.out.c0
  have a1 := HR.out.c1
  have a2 := HR.out.c2
  simp only [List.length_nil] at a2
  have hne : ((fs.length : Int) == 400) = false := by rw [beq_eq_false_iff_ne]; omega
  have hne2 : ¬ fs.length = 400 := by omega
  clear h
  have HO := hidI ((HR.out.alloc (.cells #[.int .i64 (fs.length : Int)] 3)).to)
  have HV := hidI (int_at (W := w.alloc (.cells #[.int .u8 f.k, .string f.s, .int .i64 f.n, .slice none 0 0, .int .i64 f.p] 35)) (b := w.heap.size + 1) (fs.length : Int) (by simp))
  go_enter Tryd.func77, Tryd.ntmps77
  go_wp2_with (at_builtin; go_must (refine wpList_append_any Tryd.underlying23 Tryd.info3x rfl (by decide) (by decide) rfl _ _ rfl base (.slice ta top.length tc) top.length (ints top) rfl HO.out _ 1 [.int .i64 (fs.length : Int)] rfl HV.out (by simp [Value.oneCell']) (by omega) (by simp; omega) ?_); intro tv' w4 hown4 hgrow4 hat4; refine Hid.out ?_)
  have HRB := hidI (HR.out.alloc (.cells #[.int .i64 (fs.length : Int)] 3))
  obtain ⟨WB, hWB⟩ : ∃ WB, (w.alloc (.cells #[.int .u8 f.k, .string f.s, .int .i64 f.n, .slice none 0 0, .int .i64 f.p] 35)).alloc (.cells #[.int .i64 (fs.length : Int)] 3) = WB := ⟨_, rfl⟩
  have HWB := hidI hWB
  rw [hWB] at HRB hgrow4 hat4
  have HF : Hid (RowsOk WB base (rrows B fs top [] (.slice fa fs.length fc) (.slice ta top.length tc) (.slice oa ([] : List Nat).length oc))) := hidI HRB.out
  have hszB : WB.heap.size = w.heap.size + 2 := by rw [← hWB]; simp
  have hcB : ∀ j u, j < 5 → (#[.int .u8 f.k, .string f.s, .int .i64 f.n, .slice none 0 0, .int .i64 f.p] : Array Value)[j]? = some u → WB.cell? ⟨w.heap.size, j, none⟩ = some u := by
    intro j u hj hu
    rw [← hWB]
    refine cell_al _ ?_
    have hm : j = 0 ∨ j = 1 ∨ j = 2 ∨ j = 3 ∨ j = 4 := by omega
    rcases hm with rfl | rfl | rfl | rfl | rfl <;> simp at hu <;> subst hu <;> go_simp
  have hneB : Ap (bx B) (.slice ta top.length tc) := HRB.out.apart 0 2 _ _ rfl rfl (by omega)
  have h4 : RD (w4.setCell ⟨B, 1, none⟩ tv') base B fs (top ++ [fs.length]) [] (.slice fa fs.length fc) tv' (.slice oa ([] : List Nat).length oc) := by
    refine HRB.out.putT hgrow4 ?_ hat4
    rw [ints_append, List.length_append]; exact hown4
  have hB4 : w4.cell? ⟨B, 1, none⟩ = some (.slice ta top.length tc) := hgrow4.cell HRB.out.c1 (by rcases hneB with h | h; cases h; exact h)
  have hf4 : w4.frozen? ⟨B, 1, none⟩ = false := (World.frozen?_of_block (w := WB) (a := ⟨B, 1, none⟩) (hgrow4.block B (by rw [hszB]; omega) (by rcases hneB with h | h; cases h; exact h))).trans (HRB.out.free 1)
  have hlt4 := hown4.lt
  obtain ⟨va, vc, rfl⟩ := own_slice hown4
  refine hidI ?_
  have HG4 := hidI hgrow4
  have HO4 := hidI hown4
  have HA4 := hidI hat4
  have H4 := hidI h4
  have hd5 := hcB
  clear hgrow4 hown4 hat4 h4 hWB hneB
  go_wp2
  have hfbt : Value.ownBlock (.slice ta top.length tc) ≠ some w.heap.size := fun e => by have := (HR0.out.to).lt _ e; omega
  have hfbf : Value.ownBlock (.slice fa fs.length fc) ≠ some w.heap.size := fun e => by have := (HR0.out.fo).lt _ e; omega
  have hBne : ¬ w.heap.size = B := by omega
  have hbx : ∀ j u, j < 5 → (#[.int .u8 f.k, .string f.s, .int .i64 f.n, .slice none 0 0, .int .i64 f.p] : Array Value)[j]? = some u → (w4.setCell ⟨B, 1, none⟩ (.slice va (top.length + 1) vc)).drew.cell? ⟨w.heap.size, j, none⟩ = some u := fun j u hj hu =>
    (World.cell?_of_block (w := w4) (Below.heap_setCell w4 ⟨B, 1, none⟩ _ w.heap.size hBne)).trans (HG4.out.cell (hcB j u hj hu) (Ne.symm hfbt))
  refine reg8 (fs := fs) (f := f) (base := base) (fv := .slice fa fs.length fc) (FB := w.heap.size) ⟨H4.out.drew.c0, hbx 0 _ (by omega) rfl, hbx 1 _ (by omega) rfl, hbx 2 _ (by omega) rfl, hbx 3 _ (by omega) rfl, hbx 4 _ (by omega) rfl⟩ (H4.out.drew.free 0) H4.out.drew.fo (by omega) (by have := H4.out.drew.lt; omega) (by rcases H4.out.drew.apart 0 1 _ _ rfl rfl (by omega) with h | h; cases h; exact Ne.symm h) hfbf (fun _ _ _ _ _ h => h) ?_
  intro W5 u' t51 t52 t53 t54 t55 t56 t57 t58 t59 t60 hg5 ho5 ha5
  go_wp2
  go_ret
  refine ⟨rfl, ?_, fs ++ [(f, .slice none 0 0)], top ++ [fs.length], u', _, (H4.out.drew.alloc _).putF hf hg5 ho5 (by simpa using ha5), by simp [addF]⟩
  have hR : ∀ (i : Nat) (r : Rw), (rrows B fs top [] (.slice fa fs.length fc) (.slice ta top.length tc) (.slice oa ([] : List Nat).length oc))[i]? = some r → ∀ k, r.v.ownBlock = some k → RB B fs top [] (.slice fa fs.length fc) (.slice ta top.length tc) (.slice oa ([] : List Nat).length oc) k := fun i r hr k hk => ⟨r, List.mem_of_getElem? hr, hk⟩
  have q := ((Chg.refl (RB B fs top [] (.slice fa fs.length fc) (.slice ta top.length tc) (.slice oa ([] : List Nat).length oc)) w).alloc (.cells #[.int .u8 f.k, .string f.s, .int .i64 f.n, .slice none 0 0, .int .i64 f.p] 35)).alloc (.cells #[.int .i64 (fs.length : Int)] 3)
  rw [HWB.out] at q
  exact ((((q.grown HG4.out (fun k e _ => hR 2 _ rfl k e)).setc (fun _ => hR 0 _ rfl B rfl)).drew.alloc _).grown hg5 (fun k e _ => hR 1 _ rfl k e)).setc (fun _ => hR 0 _ rfl B rfl)
end
end Go.Proofs.YtpfgohlicfcaeabDoor
