/-
  Size: how many places the walk tells.
-/
import Derived.Test.YtnlplkchkhibaaaDoorWalkS
import Derived.Test.YtnlplkchkhibaaaDoorPToks
namespace Go.Proofs.YtnlplkchkhibaaaDoor
open Go.RowKit Go.Deep Go.MapKept
attribute [local go_sem] Oper.semAt_some
/-- How many were told so far. -/
def SzI (w : World) (B : Nat) (pre : List (Int × Int)) (W : World) : Prop := Boxed W B 3 (.int .i64 (pre.length : Int)) ∧ Below w.heap.size w W
theorem SzI.kept {w : World} {B B' : Nat} (hB : w.heap.size ≤ B') (hl : B < B') : OwnFrom B' (SzI w B) := by
  rintro pre X Y row ⟨h1, h2⟩ hg hr
  refine ⟨?_, h2.grown hg h2.size (fun k e => Nat.le_trans hB (hr k e).1)⟩
  exact (hg.block B h1.lt (fun e => by have := (hr B e.symm).1; omega)).trans h1
theorem SzI.box {w : World} {B : Nat} {pre : List (Int × Int)} {X : World} (h : SzI w B pre X) {k : Nat} (u : Value) (hk : w.heap.size ≤ k) (hne : B ≠ k) : SzI w B pre (X.setCell ⟨k, 0, none⟩ u) :=
  ⟨(Below.heap_setCell X ⟨k, 0, none⟩ u B hne).trans h.1, h.2.setCell hk u⟩
set_option maxRecDepth 100000 in
set_option maxHeartbeats 4000000 in
theorem size_any (fv : Value) (ms : List MV) (at' : Int) (w : World) (hsm : SeesM w fv ms) (hkl : ∀ x ∈ ms, x.1.kids.length ≤ 4611686018427387904) (hml : ms.length ≤ 4611686018427387904) {t' : Int} {all : List (Int × Int)} {ok : Bool} (hW : WalkR (kidsOf ms) ms.length 0 (-1) (-1) [at'] t' all ok) :
    Calls Tryd.prog 15 #[fv, .int .i64 at'] w fun e w' => e = .returned (.int .i64 (all.length : Int)) ∧ Below w.heap.size w w' := by
  have hsm' := hsm
  obtain ⟨⟨_, fa, fc, rfl, _⟩, _⟩ := hsm
  have HM := hidI hsm'
  have HW := hidI hW
  have HK := hidI hkl
  clear hsm' hW hkl
  refine (callsIn_wide (n := 0)).1 ?_
  refine callsIn_of_wp_marks Tryd.func15 rfl trivial ?_ rfl
  simp only [Tryd.ntmps15, List.size_toArray, List.length_cons, List.length_nil, Nat.reduceAdd, Nat.reduceSub, Array.replicate_succ, Array.replicate_zero, List.push_toArray, List.append_toArray, List.nil_append, List.cons_append]
  gi_wp2_with (refine ⟨trivial, rfl, ?_⟩; gi_at_call 28; refine (callsIn_wide.2 (walk_any _ _ _ _ _ _ _)).mono ?_; rintro e w' ⟨rfl, rfl⟩)
  have hb0 : Below w.heap.size w ((((w.alloc (.cells #[.int .i64 0] 3)).alloc (.cells #[.int .i64 at'] 3)).alloc (.cells #[.slice fa ms.length fc] 23)).alloc (.cells #[.slice (some ⟨w.heap.size + 1, 0, none⟩) 1 1] 24)) := by (repeat (first | exact Below.refl _ _ | assumption | refine Below.drew ?_ | refine Below.alloc ?_ (by first | omega | (simp; done) | (simp; omega)) _ | refine Below.setCell ?_ (by first | omega | (simp; done) | (simp; omega)) _))
  have g0 := (((Boxed.new w 3 (.int .i64 0)).alloc (.cells #[.int .i64 at'] 3)).alloc (.cells #[.slice fa ms.length fc] 23)).alloc (.cells #[.slice (some ⟨w.heap.size + 1, 0, none⟩) 1 1] 24)
  have g1 := ((Boxed.new (w.alloc (.cells #[.int .i64 0] 3)) 3 (.int .i64 at')).alloc (.cells #[.slice fa ms.length fc] 23)).alloc (.cells #[.slice (some ⟨w.heap.size + 1, 0, none⟩) 1 1] 24)
  have g2 := (Boxed.new ((w.alloc (.cells #[.int .i64 0] 3)).alloc (.cells #[.int .i64 at'] 3)) 23 (.slice fa ms.length fc)).alloc (.cells #[.slice (some ⟨w.heap.size + 1, 0, none⟩) 1 1] 24)
  have g3 := Boxed.new (((w.alloc (.cells #[.int .i64 0] 3)).alloc (.cells #[.int .i64 at'] 3)).alloc (.cells #[.slice fa ms.length fc] 23)) 24 (.slice (some ⟨w.heap.size + 1, 0, none⟩) 1 1)
  simp only [World.size_alloc] at g1 g2 g3
  have hsz : ((((w.alloc (.cells #[.int .i64 0] 3)).alloc (.cells #[.int .i64 at'] 3)).alloc (.cells #[.slice fa ms.length fc] 23)).alloc (.cells #[.slice (some ⟨w.heap.size + 1, 0, none⟩) 1 1] 24)).heap.size = w.heap.size + 4 := by simp
  obtain ⟨W0, hW0⟩ : ∃ W0, (((w.alloc (.cells #[.int .i64 0] 3)).alloc (.cells #[.int .i64 at'] 3)).alloc (.cells #[.slice fa ms.length fc] 23)).alloc (.cells #[.slice (some ⟨w.heap.size + 1, 0, none⟩) 1 1] 24) = W0 := ⟨_, rfl⟩
  rw [hW0] at hb0 g0 g1 g2 g3 hsz ⊢
  clear hW0
  have hsm0 := HM.out.below hb0 (Nat.le_refl _)
  have htp0 : SeesC W0 (.slice (some ⟨w.heap.size + 1, 0, none⟩) 1 1) [at'].length 1 (intsI [at']) := by
    refine ⟨rfl, _, 1, rfl, .inr ⟨w.heap.size + 1, 0, rfl, fun j c hc => ?_⟩⟩
    have hj : j < 1 := by have := (List.getElem?_eq_some_iff.1 hc).1; simpa [intsI] using this
    obtain rfl : j = 0 := by omega
    simp only [intsI, List.map_cons, List.map_nil, List.getElem?_cons_zero, Option.some.injEq] at hc
    subst hc
    exact g1.cell
  have hseq := walk_seq (.slice fa ms.length fc) (.slice (some ⟨w.heap.size + 1, 0, none⟩) 1 1) ms [at'] (w.heap.size + 1 + 1) (w.heap.size + 1 + 1 + 1) (fun k => k = w.heap.size) W0 g2.cell g3.cell hsm0 htp0 (by omega) (fun k hk => by omega) (by
      rintro v n (⟨rfl, rfl⟩ | ⟨rfl, rfl⟩ | ⟨x, hx, rfl, rfl⟩) hn k hk
      · have := sees_lt HM.out.row (by decide) hn k hk; omega
      · have e : w.heap.size + 1 = k := by simpa [Value.ownBlock] using hk
        omega
      · obtain ⟨i, hi⟩ := List.getElem?_of_mem hx
        have := sees_lt (HM.out.kid i x hi) (by decide) hn k hk; omega) HK.out (by simp) hml HW.out
  have hmost := HW.out.most (by omega)
  have htold := HW.out.told
  refine range_walk (gf := 47) (lb := #[.pointer (some ⟨w.heap.size + 1 + 1, 0, none⟩), .pointer (some ⟨w.heap.size + 1 + 1 + 1, 0, none⟩)]) rfl (enters_of Tryd.func47 (by kernel_rfl) rfl) hseq rfl
    (SzI w w.heap.size) (fun _ _ => False) ?hI ?hIo ?hIx ?h0
    (fun st W => SzI w w.heap.size st.1 W ∧ ∃ t10 t11, st.2.2 = { tmps := #[.slice fa ms.length fc, .int .i64 at', undef, undef, .int .i64 0, .pointer (some ⟨w.heap.size, 0, none⟩), .slice fa ms.length fc, .int .i64 at', .slice (some ⟨w.heap.size + 1, 0, none⟩) 1 1, .func (.func 47) #[] #[.pointer (some ⟨w.heap.size + 1 + 1, 0, none⟩), .pointer (some ⟨w.heap.size + 1 + 1 + 1, 0, none⟩)], t10, t11, undef, undef, undef], defers := [] })
    ?hAx ?assign ?body ?done ?stop
  case hI => exact SzI.kept (by omega) (by omega)
  case hIo => exact fun pre X u k h1 h2 h => h.box u (by omega) (by omega)
  case hIx => exact fun _ _ _ _ h => h.elim
  case h0 => exact ⟨g0, hb0⟩
  case hAx =>
    rintro st X Y row ⟨h1, ha⟩ hg hrow
    exact ⟨SzI.kept (B' := W0.heap.size) (by omega) (by omega) st.1 X Y row h1 hg hrow, ha⟩
  case assign =>
    rintro l pre x W K hi hK
    dsimp only [encP]
    gi_wp2
    exact hK _ _ (KeepsFrom.refl _ _) (Keeps.refl _ _) ⟨hi, _, _, rfl⟩
  case body =>
    rintro l pre x a' W hR ⟨hi, t10, t11, rfl⟩
    obtain ⟨hbx, hbl⟩ := hi
    have hlen : pre.length < all.length := by have := hR.length_le; simp at this; omega
    have hc := hbx.cell
    have hz := hbx.frozen
    have hw1 : IntKind.i64.wrap ((pre.length : Int) + 1) = (pre.length : Int) + 1 := by rw [IntKind.wrap_i64]; omega
    have HBX := hidI hbx
    have HBL := hidI hbl
    clear hbx hbl
    gi_wp2
    refine ⟨(KeepsOthers.setCell _ _ _).from _, Keeps.grown (grownBy_setCell' W w.heap.size _) (fun k o e _ ht => ?_), ?_, ?_⟩
    · cases e; exact ht.2.1 rfl
    · have := HBX.out.set (.int .i64 ((pre.length : Int) + 1))
      rw [List.length_append]
      exact this
    · exact HBL.out.setCell (Nat.le_refl _) _
  case done =>
    rintro D xs W hD rfl ⟨hbx, hbl⟩ hK
    have d0 : Boxed (W.putObj D (.deferred none)) w.heap.size 3 (.int .i64 (xs.length : Int)) := (World.putObj_heap_other (by omega)).trans hbx
    have hc := hbx.cell
    have HBL := hidI hbl
    clear hbx hbl g0 g1 g2 g3
    gi_wp2
    refine ⟨by simp, .inl ⟨_, _, rfl, run_takeDeferred hK, ?_⟩⟩
    exact ⟨_, results_tmp rfl _ _ _, rfl, HBL.out.trans (belowK_b (w := w) (Nat.le_refl _) W D _ _ (by omega) hK rfl rfl)⟩
  case stop => exact fun _ _ _ _ h => h.elim
end Go.Proofs.YtnlplkchkhibaaaDoor
