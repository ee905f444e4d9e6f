/-
  Fewer acts of a region that does not clash do not clash.
-/
import Derived.Test.YtffdgjlojechaaaLive
namespace Go.Proofs.Ytffdgjlojechaaa
open Go.RowKit Go.Deep Go.MapKept
theorem region_R (w : World) (v : Value) (xs : List Deed) (hv : SeesA w v xs) (hok : okA xs) (hlen : xs.length ≤ 1000) :
    Calls Try.prog 8 #[v] w fun e w' => e = .returned (.tuple #[.int .i64 (R xs).1, .int .i64 (R xs).2]) ∧ Below w.heap.size w w' := by
  have := region_any w v xs hv hok hlen
  rwa [reg_R] at this
theorem few_sees {w : World} {a : Option Addr} {n cap : Nat} {xs : List Deed} (h : SeesA w (.slice a n cap) xs) : SeesA w (.slice a (min n 14) cap) (xs.take 14) := by
  obtain ⟨a', cap', he, h⟩ := h
  simp only [Value.slice.injEq] at he
  obtain ⟨rfl, rfl, rfl⟩ := he
  refine ⟨a, cap, by rw [List.length_take, Nat.min_comm], ?_⟩
  rcases h with rfl | ⟨b, off, rfl, h⟩
  · exact .inl rfl
  · refine .inr ⟨b, off, rfl, fun j x hx => h j x ?_⟩
    rw [List.getElem?_take] at hx
    split at hx
    · exact hx
    · cases hx
theorem Apart.sub {l m : List Deed} (h : Apart l) (hs : m.Sublist l) : Apart m := List.Pairwise.sublist hs h
set_option maxRecDepth 100000 in
set_option maxHeartbeats 1000000 in
theorem fewer_any (w : World) (a : Option Addr) (n cap : Nat) (xs : List Deed) (hv : SeesA w (.slice a n cap) xs) (hcap : n ≤ cap) (hok : okA xs) (wh : Int) :
    Calls Try.prog 5 #[.slice a n cap, .int .u16 wh] w fun e w' => e = .returned (.bool true) ∧ Below w.heap.size w w' := by
  have C7 := hidI (few_any a n cap w hcap)
  have hv14 := few_sees hv
  have hok14 : okA (xs.take 14) := fun x hx => hok x (List.mem_of_mem_take hx)
  have hl14 : (xs.take 14).length ≤ 14 := by rw [List.length_take]; omega
  have hn14 : (xs.take 14).length = min n 14 := by
    obtain ⟨_, _, he, _⟩ := hv14
    simp only [Value.slice.injEq] at he
    exact he.2.1.symm
  obtain ⟨k, hk⟩ : ∃ k, min n 14 = k := ⟨_, rfl⟩
  obtain ⟨ys, hys⟩ : ∃ ys, xs.take 14 = ys := ⟨_, rfl⟩
  rw [hys] at hv14 hok14 hl14 hn14
  rw [hk] at hv14 C7 hn14
  have HV := hidI hv14
  have HO := hidI hok14
  have HN := hidI hn14
  have hk14 : k ≤ 14 := by omega
  have CL := hidI live_any
  clear hv hcap hok hv14 hok14 hl14 hn14 hk hys
  go_enter Try.func5, Try.ntmps5
  go_wp2_with (go_at_call 7; refine Calls.mono C7.out ?_; rintro e w' ⟨rfl, rfl⟩)
  go_loopg [5, 6] k (fun g s5 s6 wx => ∃ (i : Nat) (v5 : Value), v5 = s5 ∧ i + g = k ∧ s6 = .int .i64 i ∧ Hid (Below w.heap.size w wx) ∧ Hid (∃ ms : List Deed, ms.Sublist (ys.take i) ∧ wx.ownsRow w.heap.size 39 6 v5 ms.length (flatA ms)))
  case atStart => exact ⟨0, _, rfl, by omega, rfl, hidI (Below.refl _ _), hidI ⟨[], by simp, World.ownsRow_nil w w.heap.size 39 6⟩⟩
  case round =>
    obtain ⟨i, v5, rfl, hig, rfl, HX, HW⟩ := hrel
    have hwr := HX.out.size
    cases gk with
    | zero =>
      obtain rfl : k = i := by omega
      have k1 : decide ((k : Int) < (k : Int)) = false := by simp
      obtain ⟨ms, hsub, hown⟩ := HW.out
      rw [List.take_of_length_le (by have := HN.out; omega)] at hsub
      have hml : ms.length ≤ 14 := by have := hsub.length_le; have := HN.out; omega
      have C1 := hidI (region_R wr _ ys (HV.out.below HX.out (Nat.le_refl _)) HO.out (by have := HN.out; omega))
      have hmo : okA ms := fun x hx => HO.out x (hsub.subset hx)
      have C2 : Hid (∀ u : World, Below wr.heap.size wr u → Calls Try.prog 8 #[v5] u fun e w' => e = .returned (.tuple #[.int .i64 (R ms).1, .int .i64 (R ms).2]) ∧ Below u.heap.size u w') := hidI fun u hu => region_R u _ ms (seesA_of_C (seesC_of_owns (own_below hown hu (Nat.le_refl _)))) hmo (by omega)
      have HSub := hidI hsub
      clear hown hsub hmo
      by_cases hA : Apart ys
      · have h1 : R ys = (0, 0) := R_ok hA
        have h2 : R ms = (0, 0) := R_ok (hA.sub HSub.out)
        rw [h1] at C1
        rw [h2] at C2
        clear h1 h2
        go_wp2_with (go_at_call 8; refine Calls.mono C1.out ?_; rintro e w1 ⟨rfl, hb1⟩; refine Hid.out ?_)
        refine hidI ?_
        have H1 := hidI hb1
        clear hb1
        go_wp2_with (go_at_call 8; refine Calls.mono (C2.out _ H1.out) ?_; rintro e w2 ⟨rfl, hb2⟩; refine Hid.out ?_)
        refine hidI ?_
        have H2 := hidI (H1.out.trans (hb2.mono H1.out.size))
        clear hb2
        go_wp2_with (go_at_call 10; refine Calls.mono (CL.out _) ?_; rintro e w3 ⟨rfl, hb3⟩; refine Hid.out ?_)
        refine hidI ?_
        have H3 := hidI (H2.out.trans (hb3.mono H2.out.size))
        clear hb3
        go_wp2
        go_ret
        exact ⟨rfl, HX.out.trans (H3.out.mono hwr)⟩
      · obtain ⟨c, d, h1, h1d⟩ : ∃ c d, R ys = (c, d) ∧ d = 10 := ⟨_, _, rfl, R_bad hA⟩
        obtain ⟨c2, d2, h2⟩ : ∃ c d, R ms = (c, d) := ⟨_, _, rfl⟩
        rw [h1, h1d] at C1
        rw [h2] at C2
        clear h1 h1d h2
        go_wp2_with (go_at_call 8; refine Calls.mono C1.out ?_; rintro e w1 ⟨rfl, hb1⟩; refine Hid.out ?_)
        refine hidI ?_
        have H1 := hidI hb1
        clear hb1
        go_wp2_with (go_at_call 8; refine Calls.mono (C2.out _ H1.out) ?_; rintro e w2 ⟨rfl, hb2⟩; refine Hid.out ?_)
        refine hidI ?_
        have H2 := hidI (H1.out.trans (hb2.mono H1.out.size))
        clear hb2
        go_wp2_with (go_at_call 10; refine Calls.mono (CL.out _) ?_; rintro e w3 ⟨rfl, hb3⟩; refine Hid.out ?_)
        refine hidI ?_
        have H3 := hidI (H2.out.trans (hb3.mono H2.out.size))
        clear hb3
        go_wp2
        go_ret
        exact ⟨rfl, HX.out.trans (H3.out.mono hwr)⟩
    | succ g =>
      have k1 : (i : Int) < (k : Int) := by omega
      obtain ⟨x, hx⟩ : ∃ x, ys[i]? = some x := ⟨_, List.getElem?_eq_getElem (by have := HN.out; omega)⟩
      obtain ⟨a', cap', he, hlie⟩ := HV.out
      simp only [Value.slice.injEq] at he
      obtain ⟨rfl, hkk, rfl⟩ := he
      clear hkk
      rcases hlie with hnil | ⟨b, off, rfl, hlie⟩
      · subst hnil; simp at hx
      have kk : ∀ {p : Addr} {v : Value}, w.cell? p = some v → wr.cell? p = some v := fun {p v} hc => (HX.out.cell (World.block_lt_of_cell? w _ hc)).trans hc
      obtain ⟨c0, c1, c2, c3, c4, c5⟩ := hlie i x hx
      replace c0 := kk c0
      replace c1 := kk c1
      replace c2 := kk c2
      replace c3 := kk c3
      replace c4 := kk c4
      replace c5 := kk c5
      have HTK : Hid (ys.take (i + 1) = ys.take i ++ [x]) := hidI (by rw [List.take_add_one, hx]; rfl)
      obtain ⟨ms, hsub, hown⟩ := HW.out
      have hml : ms.length ≤ i := by have := hsub.length_le; rw [List.length_take] at this; omega
      have HSub := hidI hsub
      have HO4 := hidI (hown.alloc (.cells #[.int .u8 x.k, .string x.s, .int .u8 x.o, .bool x.i, .int .i64 x.e, .int .i64 x.c] 39))
      have HV4 := hidI (act_seen (W := wr) x)
      have HOW := hidI hown
      clear hlie kk hx hsub hown HW
      obtain ⟨bt, hbt⟩ : ∃ bt, (bits BinOp.and IntKind.u16 (wh / 2 ^ i) 1 == 1) = bt := ⟨_, rfl⟩
      cases bt with
      | true =>
        go_wp2_with (at_builtin; go_must (refine wpList_append_any Try.underlying22 Try.info39 rfl (by decide) (by decide) rfl _ _ rfl w.heap.size _ ms.length (flatA ms) rfl HO4.out _ 1 x.cells rfl HV4.out (cells_one x) (by omega) (by simp; omega) ?_); intro v' w4 hown' hgrow' hat'; refine Hid.out ?_)
        refine hidI ?_
        have HX2 : Hid (Below w.heap.size w w4) := hidI ((HX.out.alloc hwr _).grown hgrow' (by simp; omega) (fun k hk => (HO4.out.lt k hk).1))
        have HO5 := hidI hown'
        clear hown' hgrow' hat'
        go_wp2
        go_roundg g
        case measure => omega
        case rel =>
          refine ⟨i + 1, _, rfl, by omega, by go_num, HX2, hidI ⟨ms ++ [x], ?_, ?_⟩⟩
          · rw [HTK.out]; exact List.Sublist.append HSub.out (List.Sublist.refl _)
          · rw [flatA_append, flatA_one, List.length_append]; exact HO5.out
      | false =>
        go_wp2
        go_roundg g
        case measure => omega
        case rel =>
          refine ⟨i + 1, _, rfl, by omega, by go_num, HX, hidI ⟨ms, ?_, HOW.out⟩⟩
          rw [HTK.out]; exact HSub.out.trans (List.sublist_append_left _ _)
end Go.Proofs.Ytffdgjlojechaaa
