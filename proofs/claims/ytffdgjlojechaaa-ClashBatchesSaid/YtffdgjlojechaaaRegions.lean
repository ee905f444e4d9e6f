/-
  Whether acts hang on the order, the names that they write, rows that do not: as the document says.
-/
import Derived.Test.YtffdgjlojechaaaSame
import Derived.Test.YtffdgjlojechaaaFewer
namespace Go.Proofs.Ytffdgjlojechaaa
open Go.RowKit Go.Deep Go.MapKept
theorem sees_slice {w : World} {v : Value} {rows : List (List Deed)} (h : SeesRows w v rows) : ∃ a c, v = .slice a rows.length c := by
  obtain ⟨_, ⟨_, a, c, rfl, _⟩, _⟩ := h
  exact ⟨a, c, rfl⟩
theorem fold_length (ts : List Txt) : ∀ acc, (ts.foldl withT acc).length ≤ acc.length + ts.length := by
  induction ts with
  | nil => intro acc; simp
  | cons t r ih =>
    intro acc
    rw [List.foldl_cons]
    have h1 := ih (withT acc t)
    have h2 := withT_length acc t
    simp only [List.length_cons]
    omega
theorem good_small {l : List Deed} : (batch [] none' l).length ≤ l.length := by
  obtain ⟨hg, hf⟩ := batch_good l
  have : ∀ (B : List (List Deed)), (∀ r ∈ B, 1 ≤ r.length) → B.length ≤ B.flatten.length := by
    intro B
    induction B with
    | nil => intro _; simp
    | cons r B ih =>
      intro h
      have h1 := ih (fun s hs => h s (List.mem_cons_of_mem _ hs))
      have h2 := h r (by simp)
      simp only [List.flatten_cons, List.length_append, List.length_cons]
      omega
  have h := this _ (fun r hr => (hg.each r hr).2.1)
  rwa [hf] at h
set_option maxRecDepth 100000 in
set_option maxHeartbeats 1000000 in
theorem regions_any (w : World) (a : Option Addr) (n cap : Nat) (xs : List Deed) (hv : SeesA w (.slice a n cap) xs) (hcap : n ≤ cap) (hok : okA xs) :
    Calls Try.prog 3 #[.slice a n cap] w fun e w' => e = .returned (.bool true) ∧ Below w.heap.size w w' := by
  have C7 := hidI (few_any a n cap w hcap)
  have hv14 := few_sees hv
  have hok14 : okA (xs.take 14) := fun x hx => hok x (List.mem_of_mem_take hx)
  have hl14 : (xs.take 14).length ≤ 14 := by rw [List.length_take]; omega
  obtain ⟨k, hk⟩ : ∃ k, min n 14 = k := ⟨_, rfl⟩
  obtain ⟨ys, hys⟩ : ∃ ys, xs.take 14 = ys := ⟨_, rfl⟩
  rw [hys] at hv14 hok14 hl14
  rw [hk] at hv14 C7
  have HV := hidI hv14
  have HO := hidI hok14
  clear hv hcap hok hv14 hok14 hk hys
  obtain ⟨c, d, hR⟩ : ∃ c d, R ys = (c, d) := ⟨_, _, rfl⟩
  have S0 : Hid (∀ u : World, Below w.heap.size w u → SeesA u (.slice a k cap) ys) := hidI fun u hu => HV.out.below hu (Nat.le_refl _)
  have C8 : Hid (∀ u : World, Below w.heap.size w u → Calls Try.prog 8 #[.slice a k cap] u fun e w' => e = .returned (.tuple #[.int .i64 c, .int .i64 d]) ∧ Below u.heap.size u w') := hidI fun u hu => by
    have := region_R u _ ys (S0.out u hu) HO.out (by omega)
    rwa [hR] at this
  have C9 : Hid (∀ u : World, Below w.heap.size w u → Calls Try.prog 9 #[.slice a k cap] u fun e w' => e = .returned (.tuple #[.int .i64 c, .int .i64 d]) ∧ Below u.heap.size u w') := hidI fun u hu => by
    have := rregion_any u _ ys (S0.out u hu) (by omega)
    rwa [hR] at this
  have CL := hidI live_any
  have C12 : Hid (∀ u : World, Below w.heap.size w u → Calls Try.prog 12 #[.slice a k cap] u fun e w' => ∃ v', e = .returned v' ∧ SeesS w' v' ((ys.map Deed.t).foldl withT []) ∧ Below u.heap.size u w') := hidI fun u hu => by
    have := writes_any u _ ys (S0.out u hu) HO.out (by omega)
    rwa [uniq_fold] at this
  have C13 : Hid (∀ u : World, Below w.heap.size w u → Calls Try.prog 13 #[.slice a k cap] u fun e w' => ∃ v', e = .returned v' ∧ SeesS w' v' ((ys.map Deed.t).foldl withT []) ∧ Below u.heap.size u w') := hidI fun u hu => rwrites_any u _ ys (S0.out u hu) (by omega)
  have HTL : Hid (((ys.map Deed.t).foldl withT []).length ≤ 1000) := hidI (by have := fold_length (ys.map Deed.t) []; simp only [List.length_nil, List.length_map] at this; omega)
  have C11 : Hid (∀ (u : World) (p q : Value), SeesS u p ((ys.map Deed.t).foldl withT []) → SeesS u q ((ys.map Deed.t).foldl withT []) → Calls Try.prog 11 #[p, q] u fun e w' => e = .returned (.bool true) ∧ Below u.heap.size u w') := hidI fun u p q hp hq => sameTexts_any u p q _ hp hq HTL.out
  have hBl : (batch [] none' ys).length ≤ 14 := Nat.le_trans good_small hl14
  obtain ⟨m, hm⟩ : ∃ m, (batch [] none' ys).length = m := ⟨_, rfl⟩
  have C15 : Hid (∀ u : World, Below w.heap.size w u → Calls Try.prog 15 #[.slice a k cap] u fun e w' => ∃ p q, e = .returned (.slice p m q) ∧ SeesRows w' (.slice p m q) (batch [] none' ys) ∧ Below u.heap.size u w') := hidI fun u hu => by
    refine Calls.mono (batches_any u _ ys (S0.out u hu) HO.out (by omega)) ?_
    rintro e w' ⟨v', vs, rfl, hR, hb⟩
    have hs := hR.sees
    obtain ⟨p, q, rfl⟩ := sees_slice hs
    rw [hm] at hs ⊢
    exact ⟨p, q, rfl, hs, hb⟩
  have C16 : Hid (∀ u : World, Below w.heap.size w u → Calls Try.prog 16 #[.slice a k cap] u fun e w' => ∃ p q, e = .returned (.slice p m q) ∧ SeesRows w' (.slice p m q) (batch [] none' ys) ∧ Below u.heap.size u w') := hidI fun u hu => by
    refine Calls.mono (rbatches_any u _ ys (S0.out u hu) (by omega)) ?_
    rintro e w' ⟨v', vs, rfl, hR, hb⟩
    have hs := hR.sees
    rw [← batch_is_rb] at hs
    obtain ⟨p, q, rfl⟩ := sees_slice hs
    rw [hm] at hs ⊢
    exact ⟨p, q, rfl, hs, hb⟩
  have C14 : Hid (∀ (u : World) (p q : Option Addr) (i j : Nat), SeesRows u (.slice p m i) (batch [] none' ys) → SeesRows u (.slice q m j) (batch [] none' ys) → Calls Try.prog 14 #[.slice p m i, .slice q m j] u fun e w' => e = .returned (.bool true) ∧ Below u.heap.size u w') := hidI fun u p q i j hp hq => sameRows_any u p m i q j _ hm hp hq (by omega) (fun r hr => by have := ((batch_good ys).1.each r hr).2.2; omega)
  clear HV HO hR hm HTL S0
  go_enter Try.func3, Try.ntmps3
  go_wp2_with (first | (go_at_call 7; refine Calls.mono C7.out ?_; rintro e w' ⟨rfl, rfl⟩) | (go_at_call 8; refine Calls.mono (C8.out _ (Below.refl _ _)) ?_; rintro e w1 ⟨rfl, hb1⟩; refine Hid.out ?_))
  refine hidI ?_
  have H1 := hidI hb1
  clear hb1 C7 C8
  go_wp2_with (go_at_call 9; refine Calls.mono (C9.out _ H1.out) ?_; rintro e w2 ⟨rfl, hb2⟩; refine Hid.out ?_)
  refine hidI ?_
  have H2 := hidI (H1.out.trans (hb2.mono H1.out.size))
  clear hb2 C9
  go_wp2_with (go_at_call 10; refine Calls.mono (CL.out _) ?_; rintro e w3 ⟨rfl, hb3⟩; refine Hid.out ?_)
  refine hidI ?_
  have H3 := hidI (H2.out.trans (hb3.mono H2.out.size))
  clear hb3 CL
  go_wp2_with (go_at_call 12; refine Calls.mono (C12.out _ H3.out) ?_; rintro e w4 ⟨p4, rfl, hs4, hb4⟩; refine Hid.out ?_)
  refine hidI ?_
  have H4 := hidI (H3.out.trans (hb4.mono H3.out.size))
  have S4 := hidI hs4
  clear hb4 hs4 C12
  go_wp2_with (go_at_call 13; refine Calls.mono (C13.out _ H4.out) ?_; rintro e w5 ⟨p5, rfl, hs5, hb5⟩; refine Hid.out ?_)
  refine hidI ?_
  have H5 := hidI (H4.out.trans (hb5.mono H4.out.size))
  have S5 := hidI hs5
  have S45 := hidI (S4.out.below hb5 (Nat.le_refl _))
  clear hb5 hs5 C13
  go_wp2_with (go_at_call 11; refine Calls.mono (C11.out _ _ _ S45.out S5.out) ?_; rintro e w6 ⟨rfl, hb6⟩; refine Hid.out ?_)
  refine hidI ?_
  have H6 := hidI (H5.out.trans (hb6.mono H5.out.size))
  clear hb6 C11 S4 S5 S45
  go_wp2_with (go_at_call 15; refine Calls.mono (C15.out _ H6.out) ?_; rintro e w7 ⟨p7, q7, rfl, hs7, hb7⟩; refine Hid.out ?_)
  refine hidI ?_
  have H7 := hidI (H6.out.trans (hb7.mono H6.out.size))
  have S7 := hidI hs7
  clear hb7 hs7 C15
  go_wp2_with (go_at_call 16; refine Calls.mono (C16.out _ H7.out) ?_; rintro e w8 ⟨p8, q8, rfl, hs8, hb8⟩; refine Hid.out ?_)
  refine hidI ?_
  have H8 := hidI (H7.out.trans (hb8.mono H7.out.size))
  have S8 := hidI hs8
  have S78 := hidI (S7.out.below hb8 (Nat.le_refl _))
  clear hb8 hs8 C16
  go_wp2_with (go_at_call 14; refine Calls.mono (C14.out _ _ _ _ _ S78.out S8.out) ?_; rintro e w9 ⟨rfl, hb9⟩; refine Hid.out ?_)
  refine hidI ?_
  have H9 := hidI (H8.out.trans (hb9.mono H8.out.size))
  clear hb9 C14 S7 S8 S78
  go_wp2
  go_ret
  exact ⟨rfl, H9.out⟩
end Go.Proofs.Ytffdgjlojechaaa
