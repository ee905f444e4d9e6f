/-
  Rows, one behind the other, are the acts; none clashes, or is too long, but with the next one's first it would.
-/
import Derived.Test.YtffdgjlojechaaaReg17
import Derived.Test.YtffdgjlojechaaaRegions
namespace Go.Proofs.Ytffdgjlojechaaa
open Go.RowKit Go.Deep Go.MapKept
def offs (B : List (List Deed)) (i : Nat) : Nat := (B.take i).flatten.length
theorem offs_succ {B : List (List Deed)} {i : Nat} {r : List Deed} (h : B[i]? = some r) : offs B (i + 1) = offs B i + r.length := by
  unfold offs
  rw [List.take_add_one, h]
  simp
theorem offs_get : ∀ {B : List (List Deed)} {i k : Nat} {r : List Deed}, B[i]? = some r → k < r.length → B.flatten[offs B i + k]? = r[k]?
  | [], _, _, _, h, _ => by simp at h
  | q :: B, 0, k, r, h, hk => by
    obtain rfl : q = r := by simpa using h
    simp only [offs, List.take_zero, List.flatten_nil, List.length_nil, Nat.zero_add, List.flatten_cons]
    rw [List.getElem?_append_left hk]
  | q :: B, i + 1, k, r, h, hk => by
    have := offs_get (B := B) (i := i) (k := k) (by simpa using h) hk
    rw [← this]
    simp only [offs, List.take_succ_cons, List.flatten_cons, List.length_append]
    rw [List.getElem?_append_right (by omega)]
    congr 1
    omega
theorem offs_end (B : List (List Deed)) : offs B B.length = B.flatten.length := by unfold offs; rw [List.take_length]
theorem offs_le (B : List (List Deed)) (i : Nat) : offs B i ≤ B.flatten.length := by
  unfold offs
  have : B.flatten = (B.take i).flatten ++ (B.drop i).flatten := by rw [← List.flatten_append, List.take_append_drop]
  rw [this, List.length_append]
  omega
/-- The next row's first act. -/
theorem good_next {B : List (List Deed)} (hg : GoodRows B) {i : Nat} {r : List Deed} (hr : B[i]? = some r) (hlt : offs B (i + 1) < B.flatten.length) :
    ∃ x, B.flatten[offs B (i + 1)]? = some x ∧ (r.length < 6 → ¬ Apart (r ++ [x])) := by
  have hi : i + 1 < B.length := by
    rcases Nat.lt_or_ge (i + 1) B.length with h | h
    · exact h
    · have : offs B (i + 1) = B.flatten.length := by unfold offs; rw [List.take_of_length_le h]
      omega
  obtain ⟨s, hs⟩ : ∃ s, B[i + 1]? = some s := ⟨_, List.getElem?_eq_getElem hi⟩
  have hsl := (hg.each s (List.mem_of_getElem? hs)).2.1
  cases s with
  | nil => simp at hsl
  | cons x t =>
    refine ⟨x, ?_, fun h6 => hg.chain i r x t hr hs h6⟩
    have := offs_get (B := B) (i := i + 1) (k := 0) hs (by simp)
    simpa using this
set_option maxRecDepth 100000 in
set_option maxHeartbeats 2000000 in
theorem batL_any (w : World) (a : Option Addr) (n cap : Nat) (xs : List Deed) (hv : SeesA w (.slice a n cap) xs) (hcap : n ≤ cap) (hok : okA xs) :
    Calls Try.prog 6 #[.slice a n cap] w fun e w' => e = .returned (.bool true) ∧ Below w.heap.size w w' := by
  have C7 := hidI (few_any a n cap w hcap)
  have hv14 := few_sees hv
  have hok14 : okA (xs.take 14) := fun x hx => hok x (List.mem_of_mem_take hx)
  have hl14 : (xs.take 14).length ≤ 14 := by rw [List.length_take]; omega
  have hn14 : (xs.take 14).length = min n 14 := by
    obtain ⟨_, _, he, _⟩ := hv14
    simp only [Value.slice.injEq] at he
    exact he.2.1.symm
  obtain ⟨k, hk⟩ : ∃ k, min n 14 = k := ⟨_, rfl⟩
  obtain ⟨ys, hys⟩ : ∃ ys, xs.take 14 = ys := ⟨_, rfl⟩
  rw [hys] at hv14 hok14 hl14 hn14
  rw [hk] at hv14 C7 hn14
  have hk14 : k ≤ 14 := by omega
  clear hv hcap hok hk hys hl14
  have CL := hidI live_any
  obtain ⟨B, hB⟩ : ∃ B, batch [] none' ys = B := ⟨_, rfl⟩
  obtain ⟨hG, hF⟩ := batch_good ys
  have hBl : (batch [] none' ys).length ≤ ys.length := good_small
  have hC15 := batches_any w _ ys hv14 hok14 (by omega)
  rw [hB] at hG hF hBl hC15
  clear hB
  obtain ⟨m, hm⟩ : ∃ m, B.length = m := ⟨_, rfl⟩
  have C15 : Hid (Calls Try.prog 15 #[.slice a k cap] w fun e w' => ∃ p q, e = .returned (.slice p m q) ∧ SeesRows w' (.slice p m q) B ∧ Below w.heap.size w w') := hidI (by
    refine Calls.mono hC15 ?_
    rintro e w' ⟨v', vs, rfl, hR, hb⟩
    have hs := hR.sees
    obtain ⟨p, q, rfl⟩ := sees_slice hs
    rw [hm] at hs ⊢
    exact ⟨p, q, rfl, hs, hb⟩)
  have HV := hidI hv14
  have HO := hidI hok14
  have HN := hidI hn14
  have HG := hidI hG
  have HF := hidI hF
  have HM := hidI hm
  have hm14 : m ≤ 14 := by omega
  have HOB : Hid (∀ r ∈ B, okA r) := hidI fun r hr x hx => hok14 x (by rw [← hF]; exact List.mem_flatten.2 ⟨r, hr, hx⟩)
  have hgt : Try.prog.eqGuardType Try.prog.depth 39 = false := by kernel_rfl
  clear hv14 hok14 hn14 hG hF hm hBl hC15
  go_enter Try.func6, Try.ntmps6
  go_wp2_with (first | (go_at_call 7; refine Calls.mono C7.out ?_; rintro e w' ⟨rfl, rfl⟩) | (go_at_call 15; refine Calls.mono C15.out ?_; rintro e w1 ⟨p, q, rfl, hs1, hb1⟩; refine Hid.out ?_))
  refine hidI ?_
  have HS := hidI hs1
  have HB1 := hidI hb1
  have hb1s := hb1.size
  clear hs1 hb1 C15 C7
  go_wp2
  go_loopg [4, 5] m (fun g s4 s5 wx => ∃ i : Nat, i + g = m ∧ s5 = .int .i64 i ∧ s4 = .int .i64 ((offs B i : Nat) : Int) ∧ Hid (Below w1.heap.size w1 wx))
  case atStart => exact ⟨0, by omega, rfl, by simp [offs], hidI (Below.refl _ _)⟩
  case round =>
    obtain ⟨i, hig, rfl, rfl, HX⟩ := hrel
    have hxs := HX.out.size
    cases gk with
    | zero =>
      obtain rfl : m = i := by omega
      have k1 : decide ((m : Int) < (m : Int)) = false := by simp
      have hoff : offs B m = k := by rw [← HM.out, offs_end, HF.out]; exact HN.out
      rw [hoff]
      clear hoff
      go_wp2_with (go_at_call 10; refine Calls.mono (CL.out _) ?_; rintro e w3 ⟨rfl, hb3⟩; refine Hid.out ?_)
      refine hidI ?_
      have H3 := hidI hb3
      clear hb3
      go_wp2
      go_ret
      exact ⟨rfl, (HB1.out.trans (HX.out.mono hb1s)).trans (H3.out.mono (by omega))⟩
    | succ g =>
      have k1 : (i : Int) < (m : Int) := by omega
      obtain ⟨r, hr⟩ : ∃ r, B[i]? = some r := ⟨_, List.getElem?_eq_getElem (by have := HM.out; omega)⟩
      obtain ⟨gb, go, ua, uc, rfl, hcr, hsr⟩ := HS.out.at hr
      obtain ⟨hap, h1, h6⟩ := HG.out.each r (List.mem_of_getElem? hr)
      have hoksucc := offs_succ hr
      have hole := offs_le B (i + 1)
      rw [HF.out, HN.out] at hole
      have HNEXT : Hid (offs B (i + 1) < k → ∃ x, ys[offs B (i + 1)]? = some x ∧ (r.length < 6 → ¬ Apart (r ++ [x]))) := hidI fun h => by
        have := good_next HG.out hr (by rw [HF.out, HN.out]; exact h)
        rwa [HF.out] at this
      have HGET : Hid (∀ j, j < r.length → ys[offs B i + j]? = r[j]?) := hidI fun j hj => by
        have := offs_get hr hj
        rwa [HF.out] at this
      obtain ⟨on, hon⟩ : ∃ on, offs B i = on := ⟨_, rfl⟩
      have HON := hidI hon
      rw [hon] at HGET hoksucc ⊢
      obtain ⟨rl, hrl⟩ : ∃ rl, r.length = rl := ⟨_, rfl⟩
      have HRL := hidI hrl
      have hokr := HOB.out r (List.mem_of_getElem? hr)
      rw [hrl] at hcr hsr h1 h6 hoksucc
      have KR : Hid (∀ u : World, Below w1.heap.size w1 u → u.cell? ⟨gb, go + i, none⟩ = some (.slice ua rl uc)) := hidI fun u hu => (hu.cell (World.block_lt_of_cell? w1 _ hcr)).trans hcr
      have SR : Hid (∀ u : World, Below w1.heap.size w1 u → SeesA u (.slice ua rl uc) r) := hidI fun u hu => hsr.below hu (Nat.le_refl _)
      have LY : Hid (∀ u : World, Below w1.heap.size w1 u → SeesA u (.slice a k cap) ys) := hidI fun u hu => HV.out.below (HB1.out.trans (hu.mono hb1s)) (Nat.le_refl _)
      have C8 : Hid (∀ u : World, Below w1.heap.size w1 u → Calls Try.prog 8 #[.slice ua rl uc] u fun e w' => e = .returned (.tuple #[.int .i64 0, .int .i64 0]) ∧ Below u.heap.size u w') := hidI fun u hu => by
        have := region_R u _ r (SR.out u hu) hokr (by omega)
        rwa [R_ok hap] at this
      have HOS := hidI hoksucc
      have HOKR := hidI hokr
      have cr := KR.out _ HX.out
      have k2 : decide ((rl : Int) < 1) = false := by simp; omega
      have k3 : decide ((6 : Int) < (rl : Int)) = false := by simp; omega
      clear hr hcr hsr hap hon hrl hokr hoksucc
      go_wp2_with (go_at_call 8; refine Calls.mono (C8.out _ HX.out) ?_; rintro e w2 ⟨rfl, hb2⟩; refine Hid.out ?_)
      refine hidI ?_
      have H2 := hidI (HX.out.trans (hb2.mono hxs))
      have cr2 := KR.out _ H2.out
      clear hb2 cr C8
      go_wp2
      go_loopg [4, 8] rl (fun g2 s4 s8 wy => ∃ j : Nat, j + g2 = rl ∧ s8 = .int .i64 j ∧ s4 = .int .i64 ((on + j : Nat) : Int) ∧ Hid (Below w1.heap.size w1 wy))
      case atStart => exact ⟨0, by omega, rfl, rfl, H2⟩
      case round =>
        obtain ⟨j, hjg, rfl, rfl, HY⟩ := hrel
        have hys1 := HY.out.size
        have cr3 := KR.out _ HY.out
        cases gk with
        | zero =>
          obtain rfl : rl = j := by omega
          have k4 : decide ((rl : Int) < (rl : Int)) = false := by simp
          obtain ⟨nn, hnn⟩ : ∃ nn, on + rl = nn := ⟨_, rfl⟩
          rw [hnn] at HOS ⊢
          have HNN := hidI hnn
          clear hnn
          have hnk : nn ≤ k := by have := HOS.out; omega
          by_cases hlt : nn < k
          · have k5 : (nn : Int) < (k : Int) := by omega
            by_cases hr6 : rl < 6
            · have k6 : (rl : Int) < 6 := by omega
              obtain ⟨x, hx, hna⟩ := HNEXT.out (by rw [HOS.out]; exact hlt)
              rw [HOS.out] at hx
              have hnap := hna (by rw [HRL.out]; exact hr6)
              obtain ⟨c, d, hRR, hd⟩ : ∃ c d, R (r ++ [x]) = (c, d) ∧ d = 10 := ⟨_, _, rfl, R_bad hnap⟩
              subst hd
              have hxok : x.s.size ≤ 140737488355328 := HO.out x (List.mem_of_getElem? hx)
              have hCall : ∀ (u : World) (pv : Value), u.ownsRow wr.drew.heap.size 39 6 pv (r.length + 1) (flatA r ++ x.cells) → Below wr.drew.heap.size wr.drew u → Calls Try.prog 8 #[pv] u fun e w' => e = .returned (.tuple #[.int .i64 c, .int .i64 10]) ∧ Below u.heap.size u w' := fun u pv ho _ => by
                have ho' : u.ownsRow wr.drew.heap.size 39 6 pv (r ++ [x]).length (flatA (r ++ [x])) := by rw [flatA_append, flatA_one, List.length_append]; exact ho
                have := region_R u pv (r ++ [x]) (seesA_of_C (seesC_of_owns ho')) (fun y hy => by
                  rcases List.mem_append.1 hy with hy | hy
                  · exact HOKR.out y hy
                  · obtain rfl := List.mem_singleton.1 hy; exact hxok) (by rw [List.length_append, HRL.out]; simp; omega)
                rwa [hRR] at this
              have HCall := hidI hCall
              obtain ⟨b, off, rfl, x0, x1, x2, x3, x4, x5⟩ := (LY.out _ HY.out).at hx
              have hSC := seesC_of_A (SR.out _ HY.out)
              have hrl' : r.length ≤ 1000 := by rw [HRL.out]; omega
              clear hCall hx hna hnap hRR hxok
              go_wp2
              refine reg17 (r := r) (x := x) (c := c) (d := 10) ⟨cr3, x0, x1, x2, x3, x4, x5⟩ (by omega) hlt (hSC.below (Below.refl _ _).drew (Nat.le_refl _)) hrl' HCall.out (fun _ _ _ _ _ h => h) ?_
              intro w9 t88 t89 t90 t91 t92 t93 t94 t95 t96 t97 t98 t99 t100 t101 t102 t103 hb9
              have H9 := hidI (HY.out.trans (((Below.refl _ _).drew.trans hb9).mono hys1))
              clear hb9 hSC x0 x1 x2 x3 x4 x5 HCall
              go_wp2
              go_roundg g
              case measure => omega
              case rel => exact ⟨i + 1, by omega, by go_num, by rw [HOS.out], H9⟩
            · have k6 : decide ((rl : Int) < 6) = false := by simp; omega
              go_wp2
              go_roundg g
              case measure => omega
              case rel => exact ⟨i + 1, by omega, by go_num, by rw [HOS.out], HY⟩
          · have k5 : decide ((nn : Int) < (k : Int)) = false := by simp; omega
            go_wp2
            go_roundg g
            case measure => omega
            case rel => exact ⟨i + 1, by omega, by go_num, by rw [HOS.out], HY⟩
        | succ g2 =>
          have k4 : (j : Int) < (rl : Int) := by omega
          obtain ⟨x, hx⟩ : ∃ x, r[j]? = some x := ⟨_, List.getElem?_eq_getElem (by have := HRL.out; omega)⟩
          have hyx := HGET.out j (by have := HRL.out; omega)
          rw [hx] at hyx
          obtain ⟨nn, hnn⟩ : ∃ nn, on + j = nn := ⟨_, rfl⟩
          have HNN := hidI hnn
          rw [hnn] at hyx ⊢
          have hnk : nn < k := by have := HOS.out; omega
          clear hnn
          have k5 : (nn : Int) < (k : Int) := by omega
          have k5' : decide ((k : Int) ≤ (nn : Int)) = false := by simp; omega
          obtain ⟨ca, pa, rfl, x0, x1, x2, x3, x4, x5⟩ := (SR.out _ HY.out).at hx
          obtain ⟨cb, pb, rfl, y0, y1, y2, y3, y4, y5⟩ := (LY.out _ HY.out).at hyx
          have kk : ∀ {p : Addr} {v : Value}, wr.cell? p = some v → ∀ d os, (Sort.grow (redrawn wr d) os).cell? p = some v := fun {p v} hc d os => cell_regrown hc d os
          replace x0 := kk x0
          replace x1 := kk x1
          replace x2 := kk x2
          replace x3 := kk x3
          replace x4 := kk x4
          replace x5 := kk x5
          replace y0 := kk y0
          replace y1 := kk y1
          replace y2 := kk y2
          replace y3 := kk y3
          replace y4 := kk y4
          replace y5 := kk y5
          have cr3q := kk cr3
          clear hx hyx kk cr2
          go_wp2
          refine wp_region_quiet_below (by kernel_rfl) (by kernel_rfl) ?_
          repeat (first | go_big_quiet_step (fail) | quiet_step (fail))
          refine wpQuiet_nil ?_
          intro _ hw'
          obtain ⟨⟨dq, osq⟩, hw''⟩ := hw'
          subst hw''
          have HW := hidI (HY.out.trans ((below_regrown wr dq osq).mono hys1))
          generalize Sort.grow (redrawn wr dq) osq = w7 at *
          clear x0 x1 x2 x3 x4 x5 y0 y1 y2 y3 y4 y5 cr3 cr3q
          go_wp2
          go_roundg g2
          case measure => omega
          case rel => exact ⟨j + 1, by omega, by go_num, by rw [← Nat.add_assoc, HNN.out]; go_num, HW⟩
end Go.Proofs.Ytffdgjlojechaaa
