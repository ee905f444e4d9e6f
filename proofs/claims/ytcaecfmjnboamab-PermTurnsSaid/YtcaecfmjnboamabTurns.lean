/-
  The call of the law PermTurns.
-/
import Derived.Test.YtcaecfmjnboamabUndo
import Derived.Test.YtcaecfmjnboamabRefTurn
import Derived.Test.YtcaecfmjnboamabRefGroups
import Derived.Test.YtcaecfmjnboamabSameRows
import Derived.Test.YtcaecfmjnboamabOnce
namespace Go.Proofs.Ytcaecfmjnboamab
open Go.RowKit Go.Deep
theorem turnW_len (p l : List Int) : (turnW p l).length ≤ p.length := by
  unfold turnW
  split
  · rw [turnL_length]; exact Nat.le_refl _
  · exact Nat.zero_le _
theorem backW_len (p : List Int) : (backW p).length ≤ p.length := by
  unfold backW
  split
  · rw [backL_length]; exact Nat.le_refl _
  · exact Nat.zero_le _
theorem thenW_len (p q : List Int) : (thenW p q).length ≤ q.length := by
  unfold thenW
  split
  · exact turnW_len _ _
  · exact Nat.zero_le _
theorem mem_flat_len : ∀ (ls : List (List Int)) (l : List Int), l ∈ ls → l.length ≤ ls.flatten.length
  | [], _, h => by simp at h
  | m :: r, l, h => by
    rw [List.flatten_cons, List.length_append]
    rcases List.mem_cons.1 h with rfl | h
    · omega
    · have := mem_flat_len r l h; omega
theorem groups_pos (cuts : Nat) : ∀ (zs cur : List Int) (i : Nat), ∀ l ∈ groupsL cuts i cur zs, l ≠ []
  | [], cur, i, l, h => by
    unfold groupsL at h
    by_cases hc : cur = []
    · rw [if_pos hc] at h; simp at h
    · rw [if_neg hc] at h; simp at h; subst h; exact hc
  | z :: r, cur, i, l, h => by
    unfold groupsL at h
    split at h
    · rcases List.mem_cons.1 h with rfl | h
      · simp
      · exact groups_pos cuts r [] (i + 1) l h
    · exact groups_pos cuts r (cur ++ [z]) (i + 1) l h
theorem SeesAll.tail {w : World} {x : Value × List Int} {l : List (Value × List Int)} (h : SeesAll w (x :: l)) : SeesAll w l := fun z hz => h z (List.mem_cons_of_mem _ hz)
set_option maxHeartbeats 2000000 in
theorem permTurns_any (v u : Value) (ps qs : List Int) (cuts : Nat) (hcu : cuts < 18446744073709551616) (w : World) (hv : Arg w v ps) (hu : Arg w u qs) :
    Calls Try.prog 4 #[v, u, .int .u64 cuts] w fun e w' => e = .returned (.bool true) ∧ Below w.heap.size w w' := by
  have CL : Hid (∀ w : World, _) := fun w => live_any w
  obtain ⟨p, hp⟩ : ∃ p, ps.take 80 = p := ⟨_, rfl⟩
  have hp80 : p.length ≤ 80 := by rw [← hp, List.length_take]; omega
  obtain ⟨q, hq⟩ : ∃ q, qs.take 80 = q := ⟨_, rfl⟩
  have hq80 : q.length ≤ 80 := by rw [← hq, List.length_take]; omega
  have C1 : Hid _ := few_any v ps w hv
  have C2 : Hid _ := few_any u qs w hu
  rw [hp] at C1
  rw [hq] at C2
  clear hp hq hv hu
  go_enter Try.func4, Try.ntmps4
  go_wp2_with (go_at_call 12; refine Calls.mono C1.out ?_; rintro e w1 ⟨vp, rfl, hSp, rfl⟩; refine Hid.out ?_)
  refine hidI ?_
  go_wp2_with (go_at_call 12; refine Calls.mono C2.out ?_; rintro e w1 ⟨vq, rfl, hSq, rfl⟩; refine Hid.out ?_)
  refine hidI ?_
  clear C1 C2
  have HA : Hid (SeesAll w [(vp, p), (vq, q)]) := by
    intro z hz
    rcases List.mem_cons.1 hz with rfl | hz
    · exact hSp
    · rcases List.mem_cons.1 hz with rfl | hz
      · exact hSq
      · cases hz
  have hbw : Below w.heap.size w w := Below.refl _ _
  clear hSp hSq
  obtain ⟨e1, he1⟩ : ∃ e, turnE p q = e := ⟨_, rfl⟩
  obtain ⟨e2, he2⟩ : ∃ e, backE p = e := ⟨_, rfl⟩
  obtain ⟨e3, he3⟩ : ∃ e, thenE p q = e := ⟨_, rfl⟩
  obtain ⟨l1, hl1⟩ : ∃ l, turnW p q = l := ⟨_, rfl⟩
  obtain ⟨l2, hl2⟩ : ∃ l, backW p = l := ⟨_, rfl⟩
  obtain ⟨l3, hl3⟩ : ∃ l, thenW p q = l := ⟨_, rfl⟩
  have hl1' : l1.length ≤ 80 := by have := turnW_len p q; rw [hl1] at this; omega
  have hl2' : l2.length ≤ 80 := by have := backW_len p; rw [hl2] at this; omega
  have hl3' : l3.length ≤ 80 := by have := thenW_len p q; rw [hl3] at this; omega
  have CT : Hid (∀ w : World, SeesAll w [(vp, p), (vq, q)] → _) := fun w h => turn_any vp vq p q w (h (vp, p) (by simp)) (h (vq, q) (by simp))
  have CT' : Hid (∀ w : World, SeesAll w [(vp, p), (vq, q)] → _) := fun w h => refTurn_any vp vq p q w (h (vp, p) (by simp)) (h (vq, q) (by simp))
  have CB : Hid (∀ w : World, SeesAll w [(vp, p), (vq, q)] → _) := fun w h => back_any vp p w (h (vp, p) (by simp))
  have CB' : Hid (∀ w : World, SeesAll w [(vp, p), (vq, q)] → _) := fun w h => refBack_any vp p w (h (vp, p) (by simp))
  have CH : Hid (∀ w : World, SeesAll w [(vp, p), (vq, q)] → _) := fun w h => then_any vp vq p q w (h (vp, p) (by simp)) (h (vq, q) (by simp))
  have CH' : Hid (∀ w : World, SeesAll w [(vp, p), (vq, q)] → _) := fun w h => refThen_any vp vq p q w (h (vp, p) (by simp)) (h (vq, q) (by simp))
  rw [he1, hl1] at CT CT'
  rw [he2, hl2] at CB CB'
  rw [he3, hl3] at CH CH'
  clear he1 he2 he3 hl1 hl2 hl3
  go_wp2_with (go_at_call 20; refine Calls.mono (CT.out _ HA.out) ?_; rintro e w1 ⟨va, rfl, hS, hb⟩; refine Hid.out ?_)
  refine hidI ?_
  have HA : Hid (SeesAll w1 ((va, l1) :: [(vp, p), (vq, q)])) := (SeesAll.below HA.out hb (Nat.le_refl _)).put hS
  have hbw : Below w.heap.size w w1 := hbw.trans (hb.mono hbw.size)
  clear hS hb CT
  go_wp2_with (go_at_call 21; refine Calls.mono (CT'.out _ (SeesAll.tail HA.out)) ?_; rintro e w2 ⟨vb, rfl, hS, hb⟩; refine Hid.out ?_)
  refine hidI ?_
  have HA : Hid (SeesAll w2 ((vb, l1) :: ((va, l1) :: [(vp, p), (vq, q)]))) := (SeesAll.below HA.out hb (Nat.le_refl _)).put hS
  have hbw : Below w.heap.size w w2 := hbw.trans (hb.mono hbw.size)
  clear hS hb CT'
  go_wp2_with (go_at_call 22; refine Calls.mono (CB.out _ (SeesAll.tail (SeesAll.tail HA.out))) ?_; rintro e w3 ⟨vc, rfl, hS, hb⟩; refine Hid.out ?_)
  refine hidI ?_
  have HA : Hid (SeesAll w3 ((vc, l2) :: ((vb, l1) :: ((va, l1) :: [(vp, p), (vq, q)])))) := (SeesAll.below HA.out hb (Nat.le_refl _)).put hS
  have hbw : Below w.heap.size w w3 := hbw.trans (hb.mono hbw.size)
  clear hS hb CB
  go_wp2_with (go_at_call 23; refine Calls.mono (CB'.out _ (SeesAll.tail (SeesAll.tail (SeesAll.tail HA.out)))) ?_; rintro e w4 ⟨vd, rfl, hS, hb⟩; refine Hid.out ?_)
  refine hidI ?_
  have HA : Hid (SeesAll w4 ((vd, l2) :: ((vc, l2) :: ((vb, l1) :: ((va, l1) :: [(vp, p), (vq, q)]))))) := (SeesAll.below HA.out hb (Nat.le_refl _)).put hS
  have hbw : Below w.heap.size w w4 := hbw.trans (hb.mono hbw.size)
  clear hS hb CB'
  go_wp2_with (go_at_call 24; refine Calls.mono (CH.out _ (SeesAll.tail (SeesAll.tail (SeesAll.tail (SeesAll.tail HA.out))))) ?_; rintro e w5 ⟨ve, rfl, hS, hb⟩; refine Hid.out ?_)
  refine hidI ?_
  have HA : Hid (SeesAll w5 ((ve, l3) :: ((vd, l2) :: ((vc, l2) :: ((vb, l1) :: ((va, l1) :: [(vp, p), (vq, q)])))))) := (SeesAll.below HA.out hb (Nat.le_refl _)).put hS
  have hbw : Below w.heap.size w w5 := hbw.trans (hb.mono hbw.size)
  clear hS hb CH
  go_wp2_with (go_at_call 25; refine Calls.mono (CH'.out _ (SeesAll.tail (SeesAll.tail (SeesAll.tail (SeesAll.tail (SeesAll.tail HA.out)))))) ?_; rintro e w6 ⟨vf, rfl, hS, hb⟩; refine Hid.out ?_)
  refine hidI ?_
  have HA : Hid (SeesAll w6 ((vf, l3) :: ((ve, l3) :: ((vd, l2) :: ((vc, l2) :: ((vb, l1) :: ((va, l1) :: [(vp, p), (vq, q)]))))))) := (SeesAll.below HA.out hb (Nat.le_refl _)).put hS
  have hbw : Below w.heap.size w w6 := hbw.trans (hb.mono hbw.size)
  clear hS hb CH'
  go_wp2_with (go_at_call 14; refine Calls.mono (CL.out _) ?_; rintro e w7 ⟨rfl, hb⟩; refine Hid.out ?_)
  refine hidI ?_
  have HA : Hid (SeesAll w7 _) := SeesAll.below HA.out hb (Nat.le_refl _)
  have hbw : Below w.heap.size w w7 := hbw.trans (hb.mono hbw.size)
  clear hb CL
  go_wp2_with (go_at_call 15; refine Calls.mono (same_any _ _ l1 _ (HA.out (va, l1) (by simp)) (HA.out (vb, l1) (by simp)) (by omega)) ?_; rintro e w8 ⟨rfl, hb⟩; refine Hid.out ?_)
  refine hidI ?_
  have HA : Hid (SeesAll w8 _) := SeesAll.below HA.out hb (Nat.le_refl _)
  have hbw : Below w.heap.size w w8 := hbw.trans (hb.mono hbw.size)
  clear hb
  go_wp2_with (go_at_call 15; refine Calls.mono (same_any _ _ l2 _ (HA.out (vc, l2) (by simp)) (HA.out (vd, l2) (by simp)) (by omega)) ?_; rintro e w9 ⟨rfl, hb⟩; refine Hid.out ?_)
  refine hidI ?_
  have HA : Hid (SeesAll w9 _) := SeesAll.below HA.out hb (Nat.le_refl _)
  have hbw : Below w.heap.size w w9 := hbw.trans (hb.mono hbw.size)
  clear hb
  go_wp2_with (go_at_call 15; refine Calls.mono (same_any _ _ l3 _ (HA.out (ve, l3) (by simp)) (HA.out (vf, l3) (by simp)) (by omega)) ?_; rintro e wa ⟨rfl, hb⟩; refine Hid.out ?_)
  refine hidI ?_
  have HA : Hid (SeesAll wa _) := SeesAll.below HA.out hb (Nat.le_refl _)
  have hbw : Below w.heap.size w wa := hbw.trans (hb.mono hbw.size)
  clear hb
  obtain ⟨ls, hls⟩ : ∃ ls, groupsL cuts 0 [] q = ls := ⟨_, rfl⟩
  have hflat : ls.flatten = q := by rw [← hls, groups_flat]; rfl
  have hlen : ls.length ≤ 1000 := by
    have h1 := flat_len ls (by rw [← hls]; exact groups_pos cuts q [] 0)
    rw [hflat] at h1
    omega
  have hlen' : Hid (∀ l ∈ ls, l.length ≤ 1000) := fun l hl => by
    have := mem_flat_len ls l hl
    rw [hflat] at this
    omega
  have CG : Hid _ := groups_any vq q cuts hcu wa (HA.out (vq, q) (by simp)) (by omega)
  rw [hls] at CG
  go_wp2_with (go_at_call 27; refine Calls.mono CG.out ?_; rintro e wb ⟨r1, rfl, hR1, hb⟩; refine Hid.out ?_)
  refine hidI ?_
  have HA : Hid (SeesAll wb _) := SeesAll.below HA.out hb (Nat.le_refl _)
  have hbw : Below w.heap.size w wb := hbw.trans (hb.mono hbw.size)
  have hS1 := hR1.sees
  clear hb hR1 CG
  have CG : Hid _ := refGroups_any vq q cuts hcu wb (HA.out (vq, q) (by simp)) (by omega)
  rw [hls] at CG
  clear hls hflat
  go_wp2_with (go_at_call 28; refine Calls.mono CG.out ?_; rintro e wc ⟨r2, rfl, hR2, hb⟩; refine Hid.out ?_)
  refine hidI ?_
  have hbw : Below w.heap.size w wc := hbw.trans (hb.mono hbw.size)
  have hS2 := hR2.sees
  have hS1 := hS1.below hb (Nat.le_refl _)
  clear hb hR2 CG HA
  go_wp2_with (go_at_call 26; refine Calls.mono (sameRows_any _ _ ls _ hS1 hS2 hlen hlen'.out) ?_; rintro e wd ⟨rfl, hb⟩; refine Hid.out ?_)
  refine hidI ?_
  have hbw : Below w.heap.size w wd := hbw.trans (hb.mono hbw.size)
  clear hb hS1 hS2
  go_wp2
  go_ret
  exact ⟨rfl, hbw⟩
end Go.Proofs.Ytcaecfmjnboamab
