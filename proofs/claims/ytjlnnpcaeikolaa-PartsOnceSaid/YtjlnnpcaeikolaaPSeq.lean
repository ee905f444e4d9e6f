/-
  The walk over all nodes, worker by worker.
-/
import Derived.Test.YtjlnnpcaeikolaaPWalk
namespace Go.Proofs.Ytjlnnpcaeikolaa
open Go.RowKit Go.Shelf
attribute [local go_sem] Oper.semAt_some
theorem keeps_sees {T : Nat → Obj → Prop} {n₀ : Nat} (hT : ∀ k o, k < n₀ → T k o) {W W' : World} (h : Keeps T W W') {v : Value} {zs : List Int} (hs : Sees W v zs) (hlt : ∀ b off len cap, v = .slice (some ⟨b, off, none⟩) len cap → 0 < len → b < n₀) : Sees W' v zs := by
  obtain ⟨a, cap, rfl, hs⟩ := hs
  refine ⟨a, cap, rfl, ?_⟩
  rcases hs with hs | ⟨b, off, rfl, hc⟩
  · exact .inl hs
  · by_cases h0 : zs.length = 0
    · exact .inl (List.eq_nil_of_length_eq_zero h0)
    · exact .inr ⟨b, off, rfl, fun j hj => h.cell (fun o => hT _ o (hlt b off _ _ rfl (by omega))) (hc j hj)⟩
set_option maxRecDepth 100000 in
set_option maxHeartbeats 4000000 in
theorem walk1_in (l Bg pb n k n₀ : Nat) (wk : Nat → Nat) (T : Nat → Obj → Prop) (hT : ∀ k o, k < n₀ → T k o) (J Jx : List (Own1 n k wk) → World → Prop) (W W0 : World) (hJ : OwnFrom W.heap.size J)
    (hY : ∀ pre x W, J pre W → pre.length < (pall n k wk k (Nat.le_refl _)).length → YieldAt Fence.wide 0 Try.prog l (encP x) W fun e W' =>
      KeepsFrom W0.heap.size W W' ∧ ((e = .returned (.bool true) ∧ J (pre ++ [x]) W' ∧ Keeps T W W') ∨ (e = .returned (.bool false) ∧ Jx (pre ++ [x]) W')))
    (hBg : W.cell? ⟨Bg, 0, none⟩ = some (.pointer (some ⟨pb, 0, none⟩))) (hTB : ∀ o, T Bg o) (hpb : pb < n₀) (hk4 : k ≤ 4) (hn12 : n ≤ 12) (c1 : W.cell? ⟨pb, 1, none⟩ = some (.int .i64 (k : Int)))
    (hrow : ∀ u, u < 4 → ∃ a cap, W.cell? ⟨pb, 2 + u, none⟩ = some (.slice a (mem n wk u).length cap) ∧ ((mem n wk u) = [] ∨ ∃ b off, a = some ⟨b, off, none⟩ ∧ b < n₀ ∧ ∀ j, j < (mem n wk u).length → W.cell? ⟨b, off + j, none⟩ = some (.int .i64 ((mem n wk u).getD j 0)))) (h0 : J [] W) :
    CallsIn Fence.wide 0 Try.prog 37 #[.func (.yield l) #[] #[], .pointer (some ⟨Bg, 0, none⟩)] W fun e W' => (∃ v, e = .returned v) ∧
      ((∃ ys, ys = pall n k wk k (Nat.le_refl _) ∧ J ys W') ∨ (∃ pre, Jx pre W')) := by
  have CW : Hid (Calls Try.prog 19 #[.pointer (some ⟨pb, 0, none⟩)] W fun e w' => e = .returned (.int .i64 (k : Int)) ∧ W = w') := by
    refine hidI ?_
    go_enter Try.func19, Try.ntmps19
    go_wp2
    go_ret
    exact ⟨rfl, rfl⟩
  have HR := hidI hrow
  have HY := hidI hY
  have HT := hidI hT
  have HTB := hidI hTB
  clear hrow hY hT hTB
  refine callsIn_of_wp Try.func37 rfl trivial ?_ rfl
  simp only [Try.ntmps37, List.size_toArray, List.length_cons, List.length_nil, Nat.reduceAdd, Nat.reduceSub, Array.replicate_succ, Array.replicate_zero, List.push_toArray, List.append_toArray, List.nil_append, List.cons_append]
  gi_wp2_with (refine ⟨trivial, rfl, ?_⟩; gi_at_call 19; refine (callsIn_wide.2 CW.out).mono ?_; rintro e w' ⟨rfl, rfl⟩)
  gi_loopg [8] k (fun g s8 wr => ∃ (u : Nat) (hu : u ≤ k), u + g = k ∧ s8 = .int .i64 u ∧ J (pall n k wk u hu) wr ∧ Keeps T W wr)
  case atStart => exact ⟨0, by omega, by omega, rfl, h0, Keeps.refl _ _⟩
  case round =>
    obtain ⟨u, hu, hug, rfl, hJs, hkp⟩ := hrel
    have HJS := hidI hJs
    have HKP := hidI hkp
    clear hJs hkp
    cases gk with
    | zero =>
      have huk : u = k := by omega
      subst huk
      gi_wp2
      go_end0
      exact ⟨⟨_, rfl⟩, .inl ⟨_, rfl, HJS.out⟩⟩
    | succ g =>
      have huk : u < k := by omega
      have huk2 : (u : Int) < (k : Int) := by omega
      have hu4 : (u : Int) < 4 := by omega
      have hu40 : u < 4 := by omega
      obtain ⟨a, cap, hcv, hcc⟩ := HR.out u hu40
      have d0 : wr.cell? ⟨Bg, 0, none⟩ = some (.pointer (some ⟨pb, 0, none⟩)) := HKP.out.cell (p := ⟨Bg, 0, none⟩) HTB.out hBg
      have d1 : wr.cell? ⟨pb, 2 + u, none⟩ = some (.slice a (mem n wk u).length cap) := HKP.out.cell (p := ⟨pb, 2 + u, none⟩) (fun o => HT.out _ o hpb) hcv
      obtain ⟨q, hq⟩ : ∃ q, (mem n wk u).length = q := ⟨_, rfl⟩
      have hq12 : q ≤ 12 := by have := mem_length n wk u; omega
      rw [hq] at d1 hcc
      have HQ := hidI hq
      have HC := hidI hcc
      clear hcv hcc hq
      gi_wp2
      gi_loopg [18] q (fun gh s18 wy => ∃ (i : Nat), i + gh = q ∧ s18 = .int .i64 i ∧ J (pall n k wk u hu ++ (pw n k wk u huk).take i) wy ∧ Keeps T W wy)
      case atStart => exact ⟨0, by omega, rfl, by simpa using HJS.out, HKP.out⟩
      case round =>
        obtain ⟨i, hig, rfl, hJs, hkp⟩ := hrel
        have HJ2 := hidI hJs
        have HK2 := hidI hkp
        clear hJs hkp
        cases gk with
        | zero =>
          have hil : q = i := by omega
          subst hil
          gi_wp2
          go_roundg g
          case measure => omega
          case rel =>
            refine ⟨u + 1, by omega, by omega, by go_num, ?_, HK2.out⟩
            have := HJ2.out
            rw [List.take_of_length_le (by rw [pw_length, HQ.out]; exact Nat.le_refl _)] at this
            exact this
        | succ gh =>
          have hiq : i < q := by omega
          have hiq2 : (i : Int) < (q : Int) := by omega
          have him : i < (mem n wk u).length := by rw [HQ.out]; exact hiq
          rcases HC.out with h0 | ⟨b, off, rfl, hbn, hcc⟩
          · have := HQ.out; rw [h0] at this; simp at this; omega
          have e1 : wr.cell? ⟨b, off + i, none⟩ = some (.int .i64 ((mem n wk u).getD i 0)) := HK2.out.cell (p := ⟨b, off + i, none⟩) (fun o => HT.out _ o hbn) (hcc i hiq)
          have hgd : (mem n wk u).getD i 0 = (mem n wk u)[i] := by simp [List.getD, him]
          rw [hgd] at e1
          obtain ⟨fn, tmps, assign, body, hy, hR⟩ := HY.out _ ⟨(u, (mem n wk u)[i]), huk, List.getElem_mem him⟩ _ HJ2.out (pall_step huk him)
          dsimp only [encP] at hy
          have HP := hidI (pw_at huk him)
          clear hcc hgd
          gi_wp2
          refine ⟨rfl, hR.mono ?_⟩
          rintro e W3 ⟨_, ⟨rfl, hJ3, hk3⟩ | ⟨rfl, hJx3⟩⟩
          · gi_wp2
            go_roundg gh
            case measure => omega
            case rel =>
              refine ⟨i + 1, by omega, by go_num, ?_, HK2.out.trans hk3⟩
              rw [List.take_add_one, HP.out, ← List.append_assoc]
              exact hJ3
          · gi_wp2
            refine bodyPost_ret (results_none rfl _ _ _) rfl ?_
            exact ⟨⟨_, rfl⟩, .inr ⟨_, hJx3⟩⟩
end Go.Proofs.Ytjlnnpcaeikolaa
