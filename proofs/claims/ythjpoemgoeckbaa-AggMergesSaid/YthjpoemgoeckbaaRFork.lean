/-
  The document's Fork and Merge of an Agg.
-/
import Derived.Test.YthjpoemgoeckbaaRegF
namespace Go.Proofs.Ythjpoemgoeckbaa
open Go.RowKit Go.Deep Go.MapKept Go.Sort
def ForkPost (w : World) (N : Nat → Prop) (o : Nat) (rows : List (List Int)) (e : Ending) (w' : World) : Prop := ∃ q, e = .returned (.pointer (some ⟨q, 0, none⟩)) ∧ w.heap.size ≤ q ∧ Below w.heap.size w w' ∧ ∀ N' : Nat → Prop, (∀ k, N' k → N k ∨ k = q) → N' q → RAg w' N' q o rows
theorem rfork_nil (w : World) : Calls Try.prog 20 #[.pointer none] w fun e w' => e = .returned (.pointer none) ∧ w = w' := by
  go_enter Try.func20, Try.ntmps20
  go_wp2
  go_ret
  exact ⟨rfl, rfl⟩
set_option maxRecDepth 100000 in
set_option maxHeartbeats 1000000 in
theorem rfork_any {w : World} {N : Nat → Prop} {p o : Nat} {rows : List (List Int)} (h : RAg w N p o rows) (hn4 : rows.length ≤ 100) : Calls Try.prog 20 #[.pointer (some ⟨p, 0, none⟩)] w (ForkPost w N o rows) := by
  have H := hidI h
  obtain ⟨lv, k1, vs, hsc, hfree, hrows⟩ := h.c1
  have hsc' := hsc
  obtain ⟨hvl, a, cap, rfl, _⟩ := hsc
  have H1 : Hid (∀ c ∈ vs, c.oneCell' = true) := hidI fun c hc => by
    obtain ⟨j, hj⟩ := List.mem_iff_getElem?.1 hc
    have hjl := (List.getElem?_eq_some_iff.1 hj).1
    obtain ⟨⟨a', c', he, _⟩, _⟩ := hrows j c _ hj (List.getElem?_eq_getElem (show j < rows.length by omega))
    exact sliceOne he
  have HRows := hidI hrows
  have HVS := hidI (hsc'.below (Below.refl _ w).drew (Nat.le_refl _))
  have HVL := hidI hvl
  obtain ⟨n, hn⟩ : ∃ n, rows.length = n := ⟨_, rfl⟩
  have HN := hidI hn
  rw [hn] at k1 hn4 HVS
  have HS0 : Hid (w.drew.cell? ⟨p, 0, none⟩ = some (.int .u8 (o : Int)) ∧ w.drew.cell? ⟨p, 1, none⟩ = some (.slice a n cap)) := hidI ⟨h.c0, k1⟩
  clear hrows hvl hsc' hfree h hn k1
  go_enter Try.func20, Try.ntmps20
  go_wp2
  refine regF HS0.out HVS.out H1.out (by omega) (fun _ _ _ _ _ h => h) ?_
  intro W vA t5 t6 t7 t8 t9 t10 t11 t12 t13 t14 t15 t16 hown hbl
  have HO := hidI hown
  have HB : Hid (Below w.heap.size w W) := hidI (Below.trans (Below.refl _ w).drew hbl)
  clear hown hbl
  obtain ⟨va, vc, hvA, _⟩ := own_cap HO.out
  subst hvA
  have hbW := (Below.refl W.heap.size W).alloc (Nat.le_refl _) (.cells #[.int .u8 (o : Int), .slice va n vc] 67)
  have HBW : Hid (Below w.heap.size w (W.alloc (.cells #[.int .u8 (o : Int), .slice va n vc] 67))) := hidI (HB.out.alloc HB.out.size _)
  have HRes : Hid (∀ N' : Nat → Prop, (∀ k, N' k → N k ∨ k = W.heap.size) → N' W.heap.size → RAg (W.alloc (.cells #[.int .u8 (o : Int), .slice va n vc] 67)) N' W.heap.size o rows) := hidI fun N' hN' hq => by
    have hsW := HB.out.size
    have hNot : ∀ b, b < W.heap.size → (¬ N b ∨ w.heap.size ≤ b) → ¬ N' b := fun b hb hor hN => by
      rcases hN' b hN with h1 | h1
      · rcases hor with h2 | h2
        · exact h2 h1
        · have := H.out.few b h1; omega
      · omega
    have hwlt : ∀ b, b < w.heap.size → b < W.heap.size := fun b hb => by omega
    refine ⟨by simp, hq, fun k hk => ?_, by go_simp, ⟨.slice va n vc, by go_simp, vs, ?_, fun b hb => ?_, fun j v r hv hr => ?_⟩, by go_simp⟩
    · rcases hN' k hk with h1 | h1
      · have := H.out.few k h1; simp; omega
      · simp; omega
    · rw [HN.out]
      exact (seesC_of_owns HO.out).below hbW (Nat.le_refl _)
    · have h1 := HO.out.lt b hb
      exact ⟨by simp; omega, hNot b h1.2 (.inr h1.1)⟩
    · obtain ⟨q1, q2⟩ := HRows.out j v r hv hr
      refine ⟨(q1.below HB.out (Nat.le_refl _)).below hbW (Nat.le_refl _), fun b hb => ?_⟩
      have := q2 b hb
      have hw2 := hwlt b this.1
      exact ⟨by simp; omega, hNot b hw2 (.inl this.2)⟩
  have hwW := HB.out.size
  clear hbW
  go_wp2
  go_ret
  exact ⟨W.heap.size, rfl, hwW, HBW.out, HRes.out⟩
end Go.Proofs.Ythjpoemgoeckbaa
