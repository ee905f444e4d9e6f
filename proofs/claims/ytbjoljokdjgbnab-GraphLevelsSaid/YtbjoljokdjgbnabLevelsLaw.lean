/-
  Along an edge a level rises by 1 at most: the law GraphLevels, walked.
-/
import Derived.Test.YtbjoljokdjgbnabReach
import Derived.Test.YtbjoljokdjgbnabHang
namespace Go.Proofs.Ytbjoljokdjgbnab
open Go.RowKit Go.Deep
theorem in8 {a : Int} (h : (Lit.int .u8 a).wf = true) : 0 ≤ a ∧ a < 256 := by
  have e1 : IntKind.u8.min = 0 := rfl
  have e2 : IntKind.u8.max = 255 := rfl
  simp only [Lit.wf, e1, e2, Bool.and_eq_true, decide_eq_true_eq] at h
  omega
theorem check_cases (n : Int) (es : Edges) : (check n es).2 = 11 ∨ (1 ≤ n ∧ n ≤ 12 ∧ es.length ≤ 30 ∧ ∀ x ∈ es, good n x = true) := by
  unfold check
  split
  · exact .inl rfl
  · rename_i h
    cases hf : es.findIdx? (fun x => !good n x) with
    | some i => exact .inl rfl
    | none =>
      rw [List.findIdx?_eq_none_iff] at hf
      exact .inr ⟨by omega, by omega, by omega, fun x hx => by simpa using hf x hx⟩
theorem Way.cases_first {es : Edges} {a b : Nat} (h : Way es a b) : a = b ∨ ∃ y : Nat, ((a : Int), (y : Int)) ∈ es ∧ Way es y b := by
  induction h with
  | here => exact .inl rfl
  | on _ he ih =>
    rcases ih with rfl | ⟨y, h1, h2⟩
    · exact .inr ⟨_, he, .here _⟩
    · exact .inr ⟨y, h1, .on h2 he⟩
/-- A node has a level just if it is the root, or a way leads there. -/
theorem level_reach {es : Edges} {N r v : Nat} (hr : r < N) (hv : v < N) (hg : ∀ x ∈ es, good N x = true) (hne : ¬ v = r) : 0 ≤ (levels N es r).getD v 0 ↔ reach N es r v = true := by
  rw [levels_way hr hv hg, reach_riter hg hv, riter_way hg]
  constructor
  · intro h
    rcases h.cases_first with e | h
    · exact absurd e.symm hne
    · exact h
  · rintro ⟨y, h1, h2⟩
    exact Way.first h1 h2
theorem label_level {es : Edges} {N r v : Nat} (hr : r < N) (hv : v < N) (hg : ∀ x ∈ es, good N x = true) (h : 0 ≤ (levels N es r).getD v 0) : (joined N es).getD v 0 = (joined N es).getD r 0 :=
  joined_way hg (((levels_way hr hv hg).1 h).mono fun _ hx => mem_ways2.2 (.inl hx))
theorem levels_le {es : Edges} {N root p : Nat} (hroot : root < N) (hp : p < N) (hg : ∀ x ∈ es, good N x = true) : (levels N es root).getD p 0 ≤ N := by
  have hl : levels N es root = (List.range N).foldl (lround es) ((List.replicate N (-1)).set root 0) := by
    unfold levels; rw [if_pos (by omega)]; simp
  rw [hl]; exact (lev_all hroot hg N).top p hp
theorem below_dn {n : Nat} {w V : World} (h : Below n w V) (k : Nat) : Below n w (V.drewN k) := ⟨h.os, h.tape, h.output, h.size, h.block⟩
set_option maxRecDepth 100000 in
set_option maxHeartbeats 1000000 in
theorem lv_bad (n rt : Int) (fs : Edges) (gv : Value) (es : Edges) (w : World) (hv : ArgE w gv es) (hfs : es.take 32 = fs) (hc : (check n fs).2 = 11) :
    Calls Try.prog 3 #[.int .i64 n, gv, .int .u8 rt] w fun e w' => e = .returned (.bool true) ∧ Below w.heap.size w w' := by
  have C1 := hidI (few_any gv es w hv)
  rw [hfs] at C1
  have HC := hidI hc
  clear hv hfs hc
  go_enter Try.func3, Try.ntmps3
  go_wp2_with (go_at_call 9; refine Calls.mono C1.out ?_; rintro e w1 ⟨l, rfl, hs, rfl⟩; refine Hid.out ?_)
  refine hidI ?_
  have C2 := hidI (new_nil n l fs w hs HC.out)
  clear C1 hs
  go_wp2_with (go_at_call 10; refine Calls.mono C2.out ?_; rintro e w1 ⟨rfl, hb1⟩; refine Hid.out ?_)
  refine hidI ?_
  have C3 := hidI (live_any w1)
  have HB1 := hidI hb1
  clear C2 hb1
  go_wp2_with (go_at_call 11; refine Calls.mono C3.out ?_; rintro e w5 ⟨rfl, hb5⟩)
  go_ret
  exact ⟨rfl, HB1.out.trans (hb5.mono HB1.out.size)⟩
set_option maxRecDepth 100000 in
set_option maxHeartbeats 8000000 in
theorem lv_ok (n : Int) (rt : Nat) (hrt : rt < 256) (fs : Edges) (gv : Value) (es : Edges) (w : World) (hv : ArgE w gv es) (hfs : es.take 32 = fs) (h1 : 1 ≤ n) (h2 : n ≤ 12) (h3 : fs.length ≤ 30) (hgd : ∀ x ∈ fs, good n x = true) :
    Calls Try.prog 3 #[.int .i64 n, gv, .int .u8 (rt : Int)] w fun e w' => e = .returned (.bool true) ∧ Below w.heap.size w w' := by
  obtain ⟨N, rfl⟩ : ∃ N : Nat, n = N := ⟨n.toNat, by omega⟩
  have C1 := hidI (few_any gv es w hv)
  rw [hfs] at C1
  have HG := hidI hgd
  have wrt : IntKind.i64.wrap (rt : Int) = rt := by rw [IntKind.wrap_i64]; omega
  obtain ⟨r, hr⟩ : ∃ r, rt % N = r := ⟨_, rfl⟩
  have hrN : r < N := by rw [← hr]; exact Nat.mod_lt _ (by omega)
  have htm : (rt : Int).tmod (N : Int) = (r : Int) := by
    rw [Int.tmod_eq_emod_of_nonneg (by omega), ← hr]; exact (Int.natCast_emod rt N).symm
  have hN0 : ¬ (N : Int) = 0 := by omega
  have hN00 : ((N : Int) == 0) = false := by simp; omega
  have hN1 : ¬ (N : Int) = -1 := by omega
  clear hv hfs hgd hr
  go_enter Try.func3, Try.ntmps3
  go_wp2_with (go_at_call 9; refine Calls.mono C1.out ?_; rintro e w1 ⟨l, rfl, hs, rfl⟩; refine Hid.out ?_)
  refine hidI ?_
  have C2 := hidI (new_ok N l fs w hs h1 h2 h3 HG.out)
  have HS := hidI hs
  clear C1 hs
  go_wp2_with (go_at_call 10; refine Calls.mono C2.out ?_; rintro e w1 ⟨gb, rfl, hg1, hb1⟩; refine Hid.out ?_)
  refine hidI ?_
  have CN := hidI (n_any _ _ _ w1 hg1)
  have CL := hidI (levels_any (some ⟨gb, 0, none⟩) N (r : Int) fs w1 hg1 (by omega))
  have HG1 := hidI hg1
  have HB1 := hidI hb1
  have HS1 := hidI (HS.out.below hb1 (Nat.le_refl _))
  clear C2 hg1 hb1 HS
  go_wp2_with (first | (go_at_call 12; refine Calls.mono CN.out ?_; rintro e w' ⟨rfl, rfl⟩) | (go_at_call 13; refine Calls.mono CL.out ?_; rintro e w2 ⟨u1, rfl, hu1, hb2⟩; refine Hid.out ?_))
  refine hidI ?_
  have HG2 := hidI (HG1.out.below hb2 (Nat.le_refl _))
  have HB2 := hidI (HB1.out.trans (hb2.mono HB1.out.size))
  have HS2 := hidI (HS1.out.below hb2 (Nat.le_refl _))
  have U1 := hidI hu1
  have C := hidI (reaches_walk gb N fs w2 HG2.out)
  clear CN CL HG1 HB1 HS1 hu1 hb2
  go_wp2_with (go_at_call 14; refine Calls.mono C.out ?_; rintro e w3 ⟨u2, rfl, hu2, hb3⟩; refine Hid.out ?_)
  refine hidI ?_
  have HG3 := hidI (HG2.out.below hb3 (Nat.le_refl _))
  have HB3 := hidI (HB2.out.trans (hb3.mono HB2.out.size))
  have HS3 := hidI (HS2.out.below hb3 (Nat.le_refl _))
  have U13 := hidI (U1.out.below hb3 (Nat.le_refl _))
  have U2 := hidI hu2
  clear C HG2 HB2 HS2 U1 hu2 hb3
  have C := hidI (joined_walk gb N fs w3 HG3.out)
  go_wp2_with (go_at_call 15; refine Calls.mono C.out ?_; rintro e w4 ⟨u3, rfl, hu3, hb4⟩; refine Hid.out ?_)
  refine hidI ?_
  have HG4 := HG3.out.below hb4 (Nat.le_refl _)
  have HB4 := hidI (HB3.out.trans (hb4.mono HB3.out.size))
  have hs4 := HS3.out.below hb4 (Nat.le_refl _)
  have hk4 := U13.out.below hb4 (Nat.le_refl _)
  have hm4 := U2.out.below hb4 (Nat.le_refl _)
  have CN := hidI (n_any _ _ _ w4 HG4)
  have HG4' := hidI HG4
  clear C HG3 HB3 HS3 U13 U2 hb4
  have hlk := levels_length N fs (r : Int)
  have hlj : (joined N fs).length = N := by unfold joined; rw [jfold_length, selfs_length]
  obtain ⟨ka, kcap, rfl, hkc⟩ := hk4
  obtain ⟨ja, jcap, rfl, hjc⟩ := hu3
  obtain ⟨ma, mcap, rfl, hmc⟩ := hm4
  obtain ⟨la, lcap, rfl, hlc⟩ := hs4
  rw [hlk] at hkc ⊢
  rw [hlj] at hjc ⊢
  rcases hkc with hkc | ⟨kb, ko, rfl, hkc⟩
  · rw [hkc] at hlk; simp at hlk; omega
  rcases hjc with hjc | ⟨jb, jo, rfl, hjc⟩
  · rw [hjc] at hlj; simp at hlj; omega
  rcases hmc with hmc | ⟨mb, rfl, hmc⟩
  · omega
  obtain ⟨kk, hkk⟩ : ∃ kk, levels N fs (r : Int) = kk := ⟨_, rfl⟩
  obtain ⟨lb, hlb⟩ : ∃ lb, joined N fs = lb := ⟨_, rfl⟩
  rw [hkk] at hkc
  rw [hlb] at hjc
  have kr := hkc r hrN
  have hroot : kk.getD r 0 = 0 := by rw [← hkk]; exact levels_root hrN HG.out
  rw [hroot] at kr
  have HKC := hidI hkc
  have HJC := hidI hjc
  have HMC := hidI hmc
  have HLC := hidI hlc
  have HKK := hidI hkk
  have HLB := hidI hlb
  obtain ⟨m, hm⟩ : ∃ m, fs.length = m := ⟨_, rfl⟩
  rw [hm] at h3 ⊢
  have HM := hidI hm
  clear hkc hjc hmc hlc hkk hlb hm hlk hlj hroot HG4
  go_wp2_with (go_at_call 12; refine Calls.mono CN.out ?_; rintro e w' ⟨rfl, rfl⟩)
  go_loopg [12] m (fun g s12 wx => ∃ (i : Nat), i + g = m ∧ s12 = .int .i64 i ∧ ∃ n1, w4.drewN n1 = wx)
  case atStart => exact ⟨0, by omega, rfl, 0, rfl⟩
  case round =>
    obtain ⟨i, hig, rfl, n1, rfl⟩ := hrel
    cases gk with
    | zero =>
      have hil : i = m := by omega
      subst hil
      go_wp2
      go_loopg [15] N (fun g s15 wx => ∃ (v : Nat), v + g = N ∧ s15 = .int .i64 v ∧ ∃ n2, w4.drewN n2 = wx)
      case atStart => exact ⟨0, by omega, rfl, n1, rfl⟩
      case round =>
        obtain ⟨v, hvg, rfl, n2, rfl⟩ := hrel
        have CN2 : Hid (Calls Try.prog 12 #[.pointer (some ⟨gb, 0, none⟩)] (w4.drewN n2) fun e w' => e = .returned (.int .i64 (N : Int)) ∧ w4.drewN n2 = w') := hidI (n_any _ _ fs _ (HG4'.out.below (below_dn (Below.refl w4.heap.size w4) n2) (Nat.le_refl _)))
        cases gk with
        | zero =>
          have hvN : v = N := by omega
          subst hvN
          go_wp2_with (go_at_call 12; refine Calls.mono CN2.out ?_; rintro e w' ⟨rfl, rfl⟩; refine Hid.out ?_)
          refine hidI ?_
          have C6 := hidI (live_any (w4.drewN n2))
          go_wp2_with (go_at_call 11; refine Calls.mono C6.out ?_; rintro e w5 ⟨rfl, hb5⟩)
          go_ret
          exact ⟨rfl, (below_dn HB4.out n2).trans (hb5.mono HB4.out.size)⟩
        | succ g =>
          have hvN : v < N := by omega
          have kv := HKC.out v hvN
          have jv := HJC.out v hvN
          have jr := HJC.out r hrN
          obtain ⟨mr, m1, m2⟩ := HMC.out r hrN
          have mv := m2 v hvN
          have jle : lb.getD v 0 ≤ (v : Int) := by rw [← HLB.out]; exact (joined_le HG.out hvN).1
          have F1 := hidI (level_reach (es := fs) hrN hvN HG.out)
          have F2 := hidI (label_level (es := fs) hrN hvN HG.out)
          rw [HKK.out] at F1 F2
          rw [HLB.out] at F2
          obtain ⟨a, ha⟩ : ∃ a, kk.getD v 0 = a := ⟨_, rfl⟩
          obtain ⟨c, hc⟩ : ∃ c, lb.getD v 0 = c := ⟨_, rfl⟩
          obtain ⟨d, hd⟩ : ∃ d, lb.getD r 0 = d := ⟨_, rfl⟩
          obtain ⟨t, ht⟩ : ∃ t, reach N fs r v = t := ⟨_, rfl⟩
          rw [ha] at kv F1 F2
          rw [hc] at jv jle F2
          rw [hd] at jr F2
          rw [ht] at mv F1
          have jle' : decide ((v : Int) < c) = false := by simp; omega
          go_wp2_with (go_at_call 12; refine Calls.mono CN2.out ?_; rintro e w' ⟨rfl, rfl⟩; refine Hid.out ?_)
          refine hidI ?_
          clear m2 CN2 ha ht
          by_cases hvr : v = r
          · subst hvr
            rw [kr] at kv
            rw [jr] at jv
            cases kv
            cases jv
            go_wp2
            go_quiet (fail)
            generalize nq = n3
            go_wp2
            go_roundg g
            case measure => omega
            case rel => exact ⟨v + 1, by omega, by go_num, _, rfl⟩
          · have q1 : ((v : Int) == (r : Int)) = false := by simp; omega
            have q2 : decide ((v : Int) = (r : Int)) = false := by simp; omega
            have hvN2 : (v : Int) < (N : Int) := by omega
            have hrN2 : (r : Int) < (N : Int) := by omega
            cases t with
            | true =>
              have h0 : 0 ≤ a := (F1.out hvr).2 rfl
              have hcd := F2.out h0
              subst hcd
              go_wp2
              go_quiet (fail)
              generalize nq = n3
              go_wp2
              go_roundg g
              case measure => omega
              case rel => exact ⟨v + 1, by omega, by go_num, _, rfl⟩
            | false =>
              have h0 : ¬ 0 ≤ a := fun h => by have := (F1.out hvr).1 h; cases this
              have h0' : decide (0 ≤ a) = false := by simpa using h0
              go_wp2
              go_quiet (fail)
              generalize nq = n3
              go_wp2
              go_roundg g
              case measure => omega
              case rel => exact ⟨v + 1, by omega, by go_num, _, rfl⟩
    | succ g =>
      have hlt : i < m := by omega
      have hlt2 : (i : Int) < (m : Int) := by omega
      obtain ⟨x, hx⟩ : ∃ x, fs[i]? = some x := ⟨fs[i]'(by have := HM.out; omega), List.getElem?_eq_getElem _⟩
      rcases HLC.out with h0 | ⟨eb, eo, rfl, hl⟩
      · have := HM.out; rw [h0] at this; simp at this; omega
      obtain ⟨d1, d2⟩ := hl i x hx
      have hmem := List.mem_of_getElem? hx
      have hgx := HG.out x hmem
      simp only [good, Bool.and_eq_true, decide_eq_true_eq] at hgx
      obtain ⟨x1, x2⟩ := x
      obtain ⟨p, hp⟩ : ∃ p : Nat, x1 = p := ⟨x1.toNat, by have := hgx.1.1; dsimp only at this; omega⟩
      obtain ⟨q, hq⟩ : ∃ q : Nat, x2 = q := ⟨x2.toNat, by have := hgx.2.1; dsimp only at this; omega⟩
      subst hp hq
      dsimp only at d1 d2 hgx
      have hpN : p < N := by omega
      have hqN : q < N := by omega
      have hpN2 : (p : Int) < (N : Int) := by omega
      have hqN2 : (q : Int) < (N : Int) := by omega
      have kp := HKC.out p hpN
      have kq := HKC.out q hqN
      have jp := HJC.out p hpN
      have jq := HJC.out q hqN
      have hjj : lb.getD q 0 = lb.getD p 0 := by rw [← HLB.out]; exact joined_way HG.out (.on (.here p) (mem_ways2.2 (.inl hmem)))
      rw [hjj] at jq
      have hri := levels_rise (es := fs) (N := N) (root := r) hrN HG.out hmem
      rw [HKK.out] at hri
      have hkl : kk.getD p 0 ≤ N := by rw [← HKK.out]; exact levels_le hrN hpN HG.out
      obtain ⟨a, ha⟩ : ∃ a, kk.getD p 0 = a := ⟨_, rfl⟩
      obtain ⟨b, hb⟩ : ∃ b, kk.getD q 0 = b := ⟨_, rfl⟩
      obtain ⟨c, hc⟩ : ∃ c, lb.getD p 0 = c := ⟨_, rfl⟩
      rw [ha] at kp hri hkl
      rw [hb] at kq hri
      rw [hc] at jp jq
      clear hx hl hmem hgx hjj ha hb hc
      by_cases h0 : 0 ≤ a
      · obtain ⟨b1, b2⟩ := hri h0
        have e1 : decide (b < 0) = false := by simp; omega
        have e2 : decide (a + 1 < b) = false := by simp; omega
        go_wp2
        go_quiet (fail)
        generalize nq = n3
        go_wp2
        go_quiet (fail)
        generalize nq = n4
        go_wp2
        go_roundg g
        case measure => omega
        case rel => exact ⟨i + 1, by omega, by go_num, _, rfl⟩
      · have e0 : decide (0 ≤ a) = false := by simpa using h0
        go_wp2
        go_quiet (fail)
        generalize nq = n3
        go_wp2
        go_quiet (fail)
        generalize nq = n4
        go_wp2
        go_roundg g
        case measure => omega
        case rel => exact ⟨i + 1, by omega, by go_num, _, rfl⟩
/-- As the statement has its arguments. -/
theorem graphLevels_any (n : Int) (_ : -9223372036854775808 ≤ n ∧ n ≤ 9223372036854775807) {W : World} (v : Value) (es : Edges) (hv : ArgE W v es) (_ : ∀ x ∈ es, Wf x.1 ∧ Wf x.2) (rt : Int) (hrt : 0 ≤ rt ∧ rt < 256) :
    Calls Try.prog 3 #[.int .i64 n, v, .int .u8 rt] W fun e w' => e = .returned (.bool true) ∧ Below W.heap.size W w' := by
  rcases check_cases n (es.take 32) with h | ⟨h1, h2, h3, h4⟩
  · exact lv_bad n rt _ v es W hv rfl h
  · obtain ⟨r, rfl⟩ : ∃ r : Nat, rt = r := ⟨rt.toNat, by omega⟩
    exact lv_ok n r (by omega) _ v es W hv rfl h1 h2 h3 h4
end Go.Proofs.Ytbjoljokdjgbnab
