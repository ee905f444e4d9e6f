/-
  A form put into the innermost bracket that is open, and add at every reader.
-/
import Derived.Test.YtpfgohlicfcaeabDoorAddT
namespace Go.Proofs.YtpfgohlicfcaeabDoor
open Go.RowKit Go.Deep Go.MapKept
section
variable {w : World} {base B : Nat} {fs : List FV} {top opn : List Nat} {fv tv ov : Value}
theorem addF_last {fs : List FV} {top opn : List Nat} {b : Nat} {x : FV} {kv kv2 : Value} (f : Frm) (hb : opn.getLast? = some b) (hx : fs[b]? = some x) :
    addF f ⟨fs.map Prod.fst, top, opn⟩ = ⟨(fs.set b (addKid fs.length x.1, kv) ++ [(f, kv2)]).map Prod.fst, top, opn⟩ := by
  unfold addF
  rw [hb]
  simp only [List.map_append, List.map_cons, List.map_nil, List.length_map, St.mk.injEq, and_true, List.append_cancel_right_eq]
  apply List.ext_getElem?
  intro i
  rw [List.getElem?_modify, List.map_set, List.getElem?_set, List.getElem?_map, List.length_map]
  have hbl : b < fs.length := (List.getElem?_eq_some_iff.1 hx).1
  by_cases hi : b = i
  · subst hi
    obtain ⟨_, rfl⟩ := List.getElem?_eq_some_iff.1 hx
    simp [hbl]
  · simp [hi]
theorem RD.drewN (h : RD w base B fs top opn fv tv ov) (n : Nat) : RD (w.drewN n) base B fs top opn fv tv ov := ⟨fun r hr => (h.own r hr : Own w base r), h.apart⟩
set_option maxHeartbeats 2000000 in
theorem add_kid (h : RD w base B fs top opn fv tv ov) (hl : fs.length < 400) (ho : opn.length ≤ 12) {b : Nat} (hb : opn.getLast? = some b) {x : FV} (hx : fs[b]? = some x) (hk : x.1.kids.length ≤ 400) (f : Frm) (hf : f.kids = []) :
    Calls Tryd.prog 77 #[.pointer (some ⟨B, 0, none⟩), .agg #[.int .u8 f.k, .string f.s, .int .i64 f.n, .slice none 0 0, .int .i64 f.p]] w fun e w' => e = .returned (.int .i64 (fs.length : Int)) ∧ AddPost w base B fs top opn fv tv ov f w' := by
  have HR := hidI (h.alloc (.cells #[.int .u8 f.k, .string f.s, .int .i64 f.n, .slice none 0 0, .int .i64 f.p] 35))
  have HR0 := hidI h
  have hlt := h.lt
  have hbl : b < fs.length := (List.getElem?_eq_some_iff.1 hx).1
  obtain ⟨oa, oc, rfl⟩ := own_slice h.oo
  obtain ⟨ff, fc, rfl, hff, hff2⟩ := own_some h.fo (by omega)
  obtain ⟨ka, kc, hkv⟩ := own_slice (h.ko hx)
  have hol : 0 < opn.length := by cases opn with | nil => simp at hb | cons _ _ => simp
  have a0 := HR.out.c0
  have a2 := HR.out.c2
  have hne : ((fs.length : Int) == 400) = false := by rw [beq_eq_false_iff_ne]; omega
  have hne2 : ¬ fs.length = 400 := by omega
  have hne3 : ((opn.length : Int) == 0) = false := by rw [beq_eq_false_iff_ne]; omega
  have hne4 : ¬ opn.length = 0 := by omega
  have e2 : (b : Int) < (fs.length : Int) := by omega
  have e3 : (0 : Int) ≤ (b : Int) := by omega
  have e5 : ((b : Int)).toNat = b := by omega
  have HI := hidI (fun n => inner_any (HR.out.drewN n) ho hb)
  clear h
  have hck : (w.alloc (.cells #[.int .u8 f.k, .string f.s, .int .i64 f.n, .slice none 0 0, .int .i64 f.p] 35)).cell? ⟨ff, b * 5 + 3, none⟩ = some (.slice ka x.1.kids.length kc) := by
    rw [← hkv]
    exact own_cell HR.out.fo (by rw [flatF_get fs b 3 x hx (by omega)]; rfl)
  go_enter Tryd.func77, Tryd.ntmps77
  go_wp2
  go_quiet ((go_at_call 78; exact Calls.quiet_of ((HI.out _).mono fun e w' h => ⟨h.1, h.2.imp fun _ e => e.symm⟩)))
  generalize nq = n1
  have HRD := hidI (HR.out.drewN n1)
  have hszD : ((w.alloc (.cells #[.int .u8 f.k, .string f.s, .int .i64 f.n, .slice none 0 0, .int .i64 f.p] 35)).drewN n1).heap.size = w.heap.size + 1 := by simp
  have hckD : ((w.alloc (.cells #[.int .u8 f.k, .string f.s, .int .i64 f.n, .slice none 0 0, .int .i64 f.p] 35)).drewN n1).cell? ⟨ff, b * 5 + 3, none⟩ = some (.slice ka x.1.kids.length kc) := hck
  have hcD : ∀ j u, j < 5 → (#[.int .u8 f.k, .string f.s, .int .i64 f.n, .slice none 0 0, .int .i64 f.p] : Array Value)[j]? = some u → ((w.alloc (.cells #[.int .u8 f.k, .string f.s, .int .i64 f.n, .slice none 0 0, .int .i64 f.p] 35)).drewN n1).cell? ⟨w.heap.size, j, none⟩ = some u := by
    intro j u hj hu
    show (w.alloc (.cells #[.int .u8 f.k, .string f.s, .int .i64 f.n, .slice none 0 0, .int .i64 f.p] 35)).cell? ⟨w.heap.size, j, none⟩ = some u
    have hm : j = 0 ∨ j = 1 ∨ j = 2 ∨ j = 3 ∨ j = 4 := by omega
    rcases hm with rfl | rfl | rfl | rfl | rfl <;> simp at hu <;> subst hu <;> go_simp
  have HQ0 := hidI (((Chg.refl (RB B fs top opn (.slice (some ⟨ff, 0, none⟩) fs.length fc) tv (.slice oa opn.length oc)) w).alloc (.cells #[.int .u8 f.k, .string f.s, .int .i64 f.n, .slice none 0 0, .int .i64 f.p] 35)))
  have HQ1 : Hid (Chg (RB B fs top opn (.slice (some ⟨ff, 0, none⟩) fs.length fc) tv (.slice oa opn.length oc)) w ((w.alloc (.cells #[.int .u8 f.k, .string f.s, .int .i64 f.n, .slice none 0 0, .int .i64 f.p] 35)).drewN n1)) := hidI ⟨HQ0.out.os, HQ0.out.tape, HQ0.out.output, HQ0.out.size, HQ0.out.block⟩
  clear a0 a2 hck
  obtain ⟨WD, hWD⟩ : ∃ WD, (w.alloc (.cells #[.int .u8 f.k, .string f.s, .int .i64 f.n, .slice none 0 0, .int .i64 f.p] 35)).drewN n1 = WD := ⟨_, rfl⟩
  rw [hWD] at HRD hszD hckD hcD HQ1 ⊢
  clear hWD HQ0 HI HR
  have HO := hidI (World.ownsRow.alloc (HRD.out.ko hx) (.cells #[.int .i64 (fs.length : Int)] 3))
  rw [hkv] at HO
  have HV := hidI (int_at (W := WD) (b := w.heap.size + 1) (fs.length : Int) hszD.symm)
  go_wp2_with (at_builtin; go_must (refine wpList_append_any Tryd.underlying23 Tryd.info3x rfl (by decide) (by decide) rfl _ _ rfl base (.slice ka x.1.kids.length kc) x.1.kids.length (ints x.1.kids) rfl HO.out _ 1 [.int .i64 (fs.length : Int)] rfl HV.out (by simp [Value.oneCell']) (by omega) (by simp; omega) ?_); intro kv' w4 hown4 hgrow4 hat4; refine Hid.out ?_)
  have HRB := hidI (HRD.out.alloc (.cells #[.int .i64 (fs.length : Int)] 3))
  have HQ2 := hidI (HQ1.out.alloc (.cells #[.int .i64 (fs.length : Int)] 3))
  have hcB : ∀ j u, j < 5 → (#[.int .u8 f.k, .string f.s, .int .i64 f.n, .slice none 0 0, .int .i64 f.p] : Array Value)[j]? = some u → (WD.alloc (.cells #[.int .i64 (fs.length : Int)] 3)).cell? ⟨w.heap.size, j, none⟩ = some u := fun j u hj hu => cell_al _ (hcD j u hj hu)
  have hckB := cell_al (.cells #[.int .i64 (fs.length : Int)] 3) hckD
  have hszB : (WD.alloc (.cells #[.int .i64 (fs.length : Int)] 3)).heap.size = w.heap.size + 2 := by simp [hszD]
  obtain ⟨WB, hWB⟩ : ∃ WB, WD.alloc (.cells #[.int .i64 (fs.length : Int)] 3) = WB := ⟨_, rfl⟩
  rw [hWB] at HRB hgrow4 hat4 hcB hszB HQ2 hckB
  have hgr : WB.grownBy w4 x.2.ownBlock := by rw [hkv]; exact hgrow4
  have hneF : Ap (.slice (some ⟨ff, 0, none⟩) fs.length fc) x.2 := HRB.out.apart 1 (b + 5) _ _ rfl (RD.kat hx) (by omega)
  have hneF' : some ff ≠ x.2.ownBlock := by rcases hneF with h | h; cases h; exact h
  have h4 : RD (w4.setCell ⟨ff, b * 5 + 3, none⟩ kv') base B (fs.set b (addKid fs.length x.1, kv')) top opn (.slice (some ⟨ff, 0, none⟩) fs.length fc) tv (.slice oa opn.length oc) :=
    HRB.out.putK hx rfl hgr hown4 (by rw [hkv]; exact hat4)
  have hB4 : w4.cell? ⟨ff, b * 5 + 3, none⟩ = some (.slice ka x.1.kids.length kc) := hgr.cell hckB hneF'
  have hf4 : w4.frozen? ⟨ff, b * 5 + 3, none⟩ = false := (World.frozen?_of_block (w := WB) (a := ⟨ff, b * 5 + 3, none⟩) (hgr.block ff (by rw [hszB]; omega) hneF')).trans (own_free HRB.out.fo _)
  have hfbk : x.2.ownBlock ≠ some w.heap.size := fun e => by have := (HR0.out.ko hx).lt _ e; omega
  have hfbf : Value.ownBlock (.slice (some ⟨ff, 0, none⟩) fs.length fc) ≠ some w.heap.size := fun e => by have := (HR0.out.fo).lt _ e; omega
  have hFne : ¬ w.heap.size = ff := by omega
  have hbx : ∀ j u, j < 5 → (#[.int .u8 f.k, .string f.s, .int .i64 f.n, .slice none 0 0, .int .i64 f.p] : Array Value)[j]? = some u → (w4.setCell ⟨ff, b * 5 + 3, none⟩ kv').drew.cell? ⟨w.heap.size, j, none⟩ = some u := fun j u hj hu =>
    (World.cell?_of_block (w := w4) (Below.heap_setCell w4 ⟨ff, b * 5 + 3, none⟩ _ w.heap.size hFne)).trans (hgr.cell (hcB j u hj hu) (Ne.symm hfbk))
  have hR : ∀ (i : Nat) (r : Rw), (rrows B fs top opn (.slice (some ⟨ff, 0, none⟩) fs.length fc) tv (.slice oa opn.length oc))[i]? = some r → ∀ k, r.v.ownBlock = some k → RB B fs top opn (.slice (some ⟨ff, 0, none⟩) fs.length fc) tv (.slice oa opn.length oc) k := fun i r hr k hk => ⟨r, List.mem_of_getElem? hr, hk⟩
  have HQ3 := hidI ((HQ2.out.grown hgr (fun k e _ => hR (b + 5) _ (RD.kat hx) k e)).setc (g := ff) (j := b * 5 + 3) (u := kv') (fun _ => hR 1 _ rfl ff rfl))
  have HRr := hidI hR
  have H4 := hidI h4
  have hlen : (fs.set b (addKid fs.length x.1, kv')).length = fs.length := by simp
  obtain ⟨va, vc, rfl⟩ := own_slice hown4
  have HBX := hidI hbx
  refine hidI ?_
  clear hgrow4 hown4 hat4 h4 hWB hneF hgr hR hbx hcB hcD hckB hckD HQ2 HQ1 HRB HO HV
  go_wp2
  refine reg8 (fs := fs.set b (addKid fs.length x.1, .slice va (x.1.kids.length + 1) vc)) (f := f) (base := base) (fv := .slice (some ⟨ff, 0, none⟩) fs.length fc) (FB := w.heap.size) ⟨H4.out.drew.c0, HBX.out 0 _ (by omega) rfl, HBX.out 1 _ (by omega) rfl, HBX.out 2 _ (by omega) rfl, HBX.out 3 _ (by omega) rfl, HBX.out 4 _ (by omega) rfl⟩ (H4.out.drew.free 0) H4.out.drew.fo (by omega) (by have := H4.out.drew.lt; omega) (by rcases H4.out.drew.apart 0 1 _ _ rfl rfl (by omega) with h | h; cases h; exact Ne.symm h) hfbf (fun _ _ _ _ _ h => h) ?_
  intro W5 u' t51 t52 t53 t54 t55 t56 t57 t58 t59 t60 hg5 ho5 ha5
  go_wp2
  go_ret
  refine ⟨rfl, ?_, fs.set b (addKid fs.length x.1, .slice va (x.1.kids.length + 1) vc) ++ [(f, .slice none 0 0)], top, u', tv, (H4.out.drew.alloc _).putF hf hg5 ho5 (by simpa using ha5), addF_last f hb hx⟩
  exact ((HQ3.out.drew.alloc _).grown hg5 (fun k e _ => HRr.out 1 _ rfl k e)).setc (fun _ => HRr.out 0 _ rfl B rfl)
/-- What add comes to. -/
def AddRes (w : World) (base B : Nat) (fs : List FV) (top opn : List Nat) (fv tv ov : Value) (f : Frm) (e : Ending) (w' : World) : Prop :=
  if fs.length = 400 then e = .panicked (flt f.p 4) ∧ Below w.heap.size w w' else e = .returned (.int .i64 (fs.length : Int)) ∧ AddPost w base B fs top opn fv tv ov f w'
theorem add_any (h : RD w base B fs top opn fv tv ov) (hG : Good ⟨fs.map Prod.fst, top, opn⟩) (f : Frm) (hf : f.kids = []) :
    Calls Tryd.prog 77 #[.pointer (some ⟨B, 0, none⟩), .agg #[.int .u8 f.k, .string f.s, .int .i64 f.n, .slice none 0 0, .int .i64 f.p]] w fun e w' => AddRes w base B fs top opn fv tv ov f e w' := by
  have hlen := hG.len
  have htop := hG.top_len
  simp only [List.length_map] at hlen htop
  unfold AddRes
  by_cases hl : fs.length = 400
  · refine (add_full h hl f).mono ?_
    intro e w' hh
    rw [if_pos hl]
    exact hh
  · simp only [if_neg hl]
    cases hb : opn.getLast? with
    | none =>
      obtain rfl : opn = [] := by simpa using hb
      exact add_top h (by omega) htop f hf
    | some b =>
      have hbm : b ∈ opn := List.mem_of_getLast? hb
      have hbl := hG.open_lt b hbm
      simp only [List.length_map] at hbl
      have hx : fs[b]? = some fs[b] := List.getElem?_eq_getElem hbl
      have hk := hG.kid_len fs[b].1 (List.mem_map.2 ⟨fs[b], List.getElem_mem hbl, rfl⟩)
      simp only [List.length_map] at hk
      exact add_kid h (by omega) hG.open_len hb hx (by omega) f hf
end
end Go.Proofs.YtpfgohlicfcaeabDoor
