/-
  ColumnForks, walked.
-/
import Derived.Test.YtbjoljokdjgbnacRForkM
import Derived.Test.YtbjoljokdjgbnacForkM
import Derived.Test.YtbjoljokdjgbnacSameTM
import Derived.Test.YtbjoljokdjgbnacGG
namespace Go.Proofs.Ytbjoljokdjgbnac
open Go.RowKit Go.Deep Go.MapKept
theorem Deed.ok.more {w w' : World} {x : Deed} (h : x.ok w.heap.size w) (hb : Below w.heap.size w w') : x.ok w'.heap.size w' := ⟨h.1, h.2.1, h.2.2.1, h.2.2.2.1, fun u hu => h.2.2.2.2 u (hb.trans (hu.mono hb.size))⟩
theorem pos32 {w : World} {tb mb : Nat} {cs : List Column} (h : Whole w tb mb 3 2 cs) : ∀ c ∈ cs, 1 ≤ c.vals.length := fun c hc => by
  obtain ⟨_, _, _, hs, _, hl, _⟩ := (h.2.2.2.2.1 c hc).1
  simp only [side, Bool.or_eq_true, decide_eq_true_eq] at hs
  rcases hs with (hs | hs) | hs <;> rw [hs] at hl <;> simp [sideLen] at hl <;> omega
set_option maxRecDepth 100000 in
set_option maxHeartbeats 1000000 in
theorem forks_walk {w : World} (v : Value) (xs : List Deed) (hv : SeesD w v xs) (hok : ∀ x ∈ xs, x.ok w.heap.size w) (u : Value) (ys : List Deed) (hu : SeesD w u ys) (hok' : ∀ x ∈ ys, x.ok w.heap.size w) :
    Calls Try.prog 3 #[v, u] w fun e w' => e = .returned (.bool true) ∧ Below w.heap.size w w' := by
  have CP := hidI (play_any w v xs hv hok)
  have CV := hidI liveC_any
  have HO := hidI hok'
  obtain ⟨a, cap, rfl, hL⟩ := hu
  have HL := hidI hL
  obtain ⟨k, hk⟩ : ∃ k, ys.length = k := ⟨_, rfl⟩
  have HK := hidI hk
  rw [hk]
  clear hv hok hok' hL hk
  go_enter Try.func3, Try.ntmps3
  go_wp2_with (go_at_call 7; refine Calls.mono CP.out ?_; rintro e w1 ⟨tb, mb, rb, cs, os, rfl, hB1, hb1⟩; refine Hid.out ?_)
  refine hidI ?_
  have HB1 := hidI hB1
  have HW1 := hidI hb1
  clear hB1 hb1 CP
  go_wp2_with (go_at_call 8; refine Calls.mono (CV.out _) ?_; rintro e w2 ⟨rfl, hb2⟩; refine Hid.out ?_)
  refine hidI ?_
  have HB2 := hidI (HB1.out.below hb2 (Nat.le_refl _))
  have HW2 : Hid (Below w.heap.size w w2) := hidI (HW1.out.trans (hb2.mono HW1.out.size))
  clear hb2 CV HB1 HW1
  have CF := hidI (fork_any HB2.out.1 (by unfold mayT; omega) (pos32 HB2.out.1))
  go_wp2_with (go_at_call 9; refine Calls.mono CF.out ?_; rintro e w3 ⟨tf, mf, csf, rfl, hWf, hpf, hb3, l1, l2, l3⟩; refine Hid.out ?_)
  refine hidI ?_
  have hK3 : Book w3 (NB tf mf csf) rb 3 2 os := HB2.out.2.1.grown (below_grown hb3 (Nat.le_refl _) none) (by simp) (fun k hk => hWf.lt hk) (fun k hk => .inr (by
    rcases hk with rfl | rfl | ⟨c, hc, rfl⟩
    · exact l1
    · exact l2
    · exact l3 c hc))
  have h24 := HB2.out.2.2.1.few HB2.out.1
  have CG := hidI (rfork_any (NB tf mf csf) rb 3 2 os w3 hK3 (by omega))
  have HF3 := hidI (And.intro hWf (And.intro hpf (And.intro hb3 (And.intro l1 (And.intro l2 l3)))))
  clear hK3 hWf hpf hb3 l1 l2 l3 CF
  go_wp2_with (go_at_call 10; refine Calls.mono CG.out ?_; rintro e w4 ⟨qb, rfl, hK4, hb4, l4⟩; refine Hid.out ?_)
  refine hidI ?_
  have HB4 : Hid ((∃ cs' os', Both w4 w2.heap.size tf mf qb cs' os') ∧ Below w2.heap.size w2 w4) := hidI (by
    obtain ⟨hWf, hpf, hb3, l1, l2, l3⟩ := HF3.out
    have hs3 := hb3.size
    exact ⟨⟨csf, os, hWf.below hb4 (Nat.le_refl _), hK4, ⟨HB2.out.2.2.1.1.trans hpf.symm, HB2.out.2.2.1.2⟩, l1, l2, by omega, l3⟩, hb3.trans (hb4.mono hs3)⟩)
  clear hK4 hb4 l4 CG HF3
  go_wp2
  go_loopg [10] (min k 14) (fun g s10 wx => ∃ i : Nat, i + g = min k 14 ∧ s10 = .int .i64 i ∧ Hid ((∃ cs' os', Both wx w2.heap.size tf mf qb cs' os') ∧ Below w2.heap.size w2 wx))
  case atStart => exact ⟨0, by omega, rfl, HB4⟩
  case round =>
    obtain ⟨i, hig, rfl, HX⟩ := hrel
    have hw2 := HW2.out.size
    cases gk with
    | zero =>
      have CS : Hid (Calls Try.prog 12 #[.pointer (some ⟨tb, 0, none⟩), .pointer (some ⟨rb, 0, none⟩), ke ⟨#[]⟩ 0] wr fun e w' => e = .returned (.bool true) ∧ Below wr.heap.size wr w') := hidI (same_any (HB2.out.below HX.out.2 (Nat.le_refl _)) ⟨#[]⟩ 0 (by decide) rfl)
      have CS2 : Hid (∀ y, Below wr.heap.size wr y → Calls Try.prog 12 #[.pointer (some ⟨tf, 0, none⟩), .pointer (some ⟨qb, 0, none⟩), ke ⟨#[]⟩ 0] y fun e w' => e = .returned (.bool true) ∧ Below y.heap.size y w') := hidI fun y hy => by
        obtain ⟨⟨cs', os', hB⟩, _⟩ := HX.out
        exact same_any (hB.below hy (Nat.le_refl _)) ⟨#[]⟩ 0 (by decide) rfl
      have HXw : Hid (Below w.heap.size w wr) := hidI (HW2.out.trans (HX.out.2.mono hw2))
      have hend : i = k ∨ (i < k ∧ i = 14) := by omega
      rcases hend with rfl | ⟨k1n, rfl⟩
      · have k1 : decide ((i : Int) < (i : Int)) = false := by simp
        go_wp2_with (go_at_call 12; refine Calls.mono CS.out ?_; rintro e w5 ⟨rfl, hb5⟩; refine Hid.out ?_)
        refine hidI ?_
        have HW5 : Hid (Below w.heap.size w w5) := hidI (HXw.out.trans (hb5.mono HXw.out.size))
        have CS3 := hidI (CS2.out w5 hb5)
        clear hb5 CS CS2
        go_wp2_with (go_at_call 12; refine Calls.mono CS3.out ?_; rintro e w6 ⟨rfl, hb6⟩; refine Hid.out ?_)
        refine hidI ?_
        have HW6 : Hid (Below w.heap.size w w6) := hidI (HW5.out.trans (hb6.mono HW5.out.size))
        clear hb6 CS3
        go_wp2
        go_ret
        exact ⟨rfl, HW6.out⟩
      · have k1 : ((14 : Nat) : Int) < (k : Int) := by omega
        have k1' : (14 : Int) < (k : Int) := by omega
        go_wp2_with (go_at_call 12; refine Calls.mono CS.out ?_; rintro e w5 ⟨rfl, hb5⟩; refine Hid.out ?_)
        refine hidI ?_
        have HW5 : Hid (Below w.heap.size w w5) := hidI (HXw.out.trans (hb5.mono HXw.out.size))
        have CS3 := hidI (CS2.out w5 hb5)
        clear hb5 CS CS2
        go_wp2_with (go_at_call 12; refine Calls.mono CS3.out ?_; rintro e w6 ⟨rfl, hb6⟩; refine Hid.out ?_)
        refine hidI ?_
        have HW6 : Hid (Below w.heap.size w w6) := hidI (HW5.out.trans (hb6.mono HW5.out.size))
        clear hb6 CS3
        go_wp2
        go_ret
        exact ⟨rfl, HW6.out⟩
    | succ g =>
      have hik : i < k := by omega
      have k1 : (i : Int) < (k : Int) := by omega
      have k2 : (i : Int) < 14 := by omega
      obtain ⟨x, hx⟩ : ∃ x, ys[i]? = some x := ⟨_, List.getElem?_eq_getElem (by have := HK.out; omega)⟩
      have hxo := (HO.out x (List.mem_of_getElem? hx)).more HW2.out
      have C : Hid (Calls Try.prog 11 #[.pointer (some ⟨tf, 0, none⟩), .pointer (some ⟨qb, 0, none⟩), .agg #[.int .i64 x.k, .string x.s, .int .u8 x.d, .int .u8 x.q, .int .i64 x.i, .int .i64 x.x, .slice x.a x.n x.cap]] wr fun e w' => e = .returned (.bool true) ∧ ∃ cs' os', Both w' w2.heap.size tf mf qb cs' os' ∧ Below w2.heap.size wr w') := hidI (by
        obtain ⟨⟨cs', os', hB⟩, hbel⟩ := HX.out
        exact do_any hB x (hxo.later hbel))
      rcases HL.out with hnil | ⟨b, off, rfl, hlie⟩
      · subst hnil; simp at hx
      have HXw : Hid (Below w.heap.size w wr) := hidI (HW2.out.trans (HX.out.2.mono hw2))
      have kk : ∀ {p : Addr} {v : Value}, w.cell? p = some v → wr.cell? p = some v := fun {p v} hc => (HXw.out.cell (World.block_lt_of_cell? w _ hc)).trans hc
      obtain ⟨c0, c1, c2, c3, c4, c5, c6⟩ := hlie i x hx
      replace c0 := kk c0
      replace c1 := kk c1
      replace c2 := kk c2
      replace c3 := kk c3
      replace c4 := kk c4
      replace c5 := kk c5
      replace c6 := kk c6
      clear hlie kk hxo hx
      go_wp2_with (go_at_call 11; refine Calls.mono C.out ?_; rintro e w5 ⟨rfl, hB5⟩; have HB5 := hidI hB5; clear hB5; refine Hid.out ?_)
      refine hidI ?_
      go_wp2
      go_roundg g
      case measure => omega
      case rel =>
        refine ⟨i + 1, by omega, by go_num, hidI ?_⟩
        obtain ⟨cs', os', hB, hbel⟩ := HB5.out
        exact ⟨⟨cs', os', hB⟩, HX.out.2.trans hbel⟩
end Go.Proofs.Ytbjoljokdjgbnac
