/-
  Turned of Turned is the graph; its Out is In: the law GraphTurned, walked.
-/
import Derived.Test.YtbjoljokdjgbnaaTurn
import Derived.Test.YtbjoljokdjgbnaaPlays
namespace Go.Proofs.Ytbjoljokdjgbnaa
open Go.RowKit Go.Deep
set_option maxHeartbeats 1000000 in
theorem turns_bad (n : Int) (fs : Edges) (gv : Value) (es : Edges) (w : World) (hv : ArgE w gv es) (hfs : es.take 32 = fs) (hc : (check n fs).2 = 11) :
    Calls Try.prog 8 #[.int .i64 n, gv] w fun e w' => e = .returned (.bool true) ∧ Below w.heap.size w w' := by
  have C1 := hidI (few_any gv es w hv)
  rw [hfs] at C1
  have HC := hidI hc
  clear hv hfs hc
  go_enter Try.func8, Try.ntmps8
  go_wp2_with (go_at_call 9; refine Calls.mono C1.out ?_; rintro e w1 ⟨l, rfl, hs, rfl⟩; refine Hid.out ?_)
  refine hidI ?_
  have C2 := hidI (new_nil n l fs w hs HC.out)
  clear C1 hs
  go_wp2_with (go_at_call 12; refine Calls.mono C2.out ?_; rintro e w1 ⟨rfl, hb1⟩; refine Hid.out ?_)
  refine hidI ?_
  have C3 := hidI (live_any w1)
  have HB1 := hidI hb1
  clear C2 hb1
  go_wp2_with (go_at_call 14; refine Calls.mono C3.out ?_; rintro e w5 ⟨rfl, hb5⟩)
  go_ret
  exact ⟨rfl, HB1.out.trans (hb5.mono HB1.out.size)⟩
/-- The graph, the graph turned, and the edges, as they stand. -/
def Tri (w0 w : World) (gp tp : Option Addr) (N : Nat) (fs : Edges) (l : Value) : Prop := IsG w gp (N : Int) fs ∧ IsG w tp (N : Int) (fs.map swap) ∧ SeesE w l fs ∧ Below w0.heap.size w0 w
theorem Tri.below {w0 w w' : World} {gp tp : Option Addr} {N : Nat} {fs : Edges} {l : Value} (h : Tri w0 w gp tp N fs l) (hb : Below w.heap.size w w') : Tri w0 w' gp tp N fs l :=
  ⟨h.1.below hb (Nat.le_refl _), h.2.1.below hb (Nat.le_refl _), h.2.2.1.below hb (Nat.le_refl _), h.2.2.2.trans (hb.mono h.2.2.2.size)⟩
set_option maxRecDepth 100000 in
set_option maxHeartbeats 8000000 in
theorem turns_ok (n : Int) (fs : Edges) (gv : Value) (es : Edges) (w : World) (hv : ArgE w gv es) (hfs : es.take 32 = fs) (h1 : 1 ≤ n) (h2 : n ≤ 12) (h3 : fs.length ≤ 30) (hgd : ∀ x ∈ fs, good n x = true) :
    Calls Try.prog 8 #[.int .i64 n, gv] w fun e w' => e = .returned (.bool true) ∧ Below w.heap.size w w' := by
  obtain ⟨N, rfl⟩ : ∃ N : Nat, n = N := ⟨n.toNat, by omega⟩
  have C1 := hidI (few_any gv es w hv)
  rw [hfs] at C1
  have HG := hidI hgd
  clear hv hfs hgd
  go_enter Try.func8, Try.ntmps8
  go_wp2_with (go_at_call 9; refine Calls.mono C1.out ?_; rintro e w1 ⟨l, rfl, hs, rfl⟩; refine Hid.out ?_)
  refine hidI ?_
  have C2 := hidI (new_ok N l fs w hs h1 h2 h3 HG.out)
  have HS := hidI hs
  clear C1 hs
  go_wp2_with (go_at_call 12; refine Calls.mono C2.out ?_; rintro e w1 ⟨gb, rfl, hg1, hb1⟩; refine Hid.out ?_)
  refine hidI ?_
  have C3 := hidI (turned_walk gb N fs w1 hg1)
  have HG1 := hidI hg1
  have HS1 := hidI (HS.out.below hb1 (Nat.le_refl _))
  have HB1 := hidI hb1
  clear C2 hg1 hb1 HS
  go_wp2_with (go_at_call 33; refine Calls.mono C3.out ?_; rintro e w2 ⟨tb, rfl, hg2, hb2⟩; refine Hid.out ?_)
  refine hidI ?_
  have TR : Hid (Tri w w2 (some ⟨gb, 0, none⟩) (some ⟨tb, 0, none⟩) N fs l) := ⟨HG1.out.below hb2 (Nat.le_refl _), hg2, HS1.out.below hb2 (Nat.le_refl _), HB1.out.trans (hb2.mono HB1.out.size)⟩
  have ER : Hid (fs.length ≤ 1000000) := hidI (by omega)
  have ES : Hid ((fs.map swap).length ≤ 1000000) := hidI (by rw [List.length_map]; omega)
  clear C3 HG1 HS1 HB1 hg2 hb2
  go_wp2
  go_loopg [7] N (fun g s7 wx => ∃ (v : Nat), v + g = N ∧ s7 = .int .i64 v ∧ Tri w wx (some ⟨gb, 0, none⟩) (some ⟨tb, 0, none⟩) N fs l)
  case atStart => exact ⟨0, by omega, rfl, TR.out⟩
  case round =>
    obtain ⟨v, hvg, rfl, tr⟩ := hrel
    have C := hidI (n_any _ _ _ wr tr.1)
    have TX := hidI tr
    clear tr TR
    cases gk with
    | zero =>
      have hvN : v = N := by omega
      subst hvN
      go_wp2_with (go_at_call 30; refine Calls.mono C.out ?_; rintro e w' ⟨rfl, rfl⟩; refine Hid.out ?_)
      refine hidI ?_
      clear C
      have C := hidI (live_any wr)
      go_wp2_with (go_at_call 14; refine Calls.mono C.out ?_; rintro e w3 ⟨rfl, hb3⟩; refine Hid.out ?_)
      refine hidI ?_
      have T3 := hidI (TX.out.below hb3)
      clear C hb3 TX
      have C := hidI (turned_walk tb v (fs.map swap) w3 T3.out.2.1)
      rw [swap_swap] at C
      go_wp2_with (go_at_call 33; refine Calls.mono C.out ?_; rintro e w4 ⟨ub, rfl, hg4, hb4⟩; refine Hid.out ?_)
      refine hidI ?_
      have T4 := hidI (T3.out.below hb4)
      have HG4 := hidI hg4
      clear C hb4 hg4 T3
      have C := hidI (rnew_ok v l fs w4 T4.out.2.2.1 h1 h2 h3 HG.out)
      go_wp2_with (go_at_call 13; refine Calls.mono C.out ?_; rintro e w5 ⟨rb, rfl, hr5, hb5⟩; refine Hid.out ?_)
      refine hidI ?_
      have T5 := hidI (T4.out.below hb5)
      have HG5 := hidI (HG4.out.below hb5 (Nat.le_refl _))
      have C' := hidI (same_graphs (some ⟨ub, 0, none⟩) (some ⟨rb, 0, none⟩) v fs w5 HG5.out hr5 (by simp))
      clear C hb5 hr5 T4 HG4 HG5
      go_wp2_with (go_at_call 15; refine Calls.mono C'.out ?_; rintro e w6 ⟨rfl, hb6⟩; refine Hid.out ?_)
      refine hidI ?_
      have T6 := hidI (T5.out.below hb6)
      clear C' hb6 T5
      have C := hidI (rnew_ok v l fs w6 T6.out.2.2.1 h1 h2 h3 HG.out)
      go_wp2_with (go_at_call 13; refine Calls.mono C.out ?_; rintro e w7 ⟨qb, rfl, hr7, hb7⟩; refine Hid.out ?_)
      refine hidI ?_
      have T7 := hidI (T6.out.below hb7)
      have C' := hidI (rturned_walk qb v fs w7 hr7)
      clear C hb7 hr7 T6
      go_wp2_with (go_at_call 34; refine Calls.mono C'.out ?_; rintro e w8 ⟨sb, rfl, hr8, hb8⟩; refine Hid.out ?_)
      refine hidI ?_
      have T8 := hidI (T7.out.below hb8)
      have C := hidI (same_graphs (some ⟨tb, 0, none⟩) (some ⟨sb, 0, none⟩) v (fs.map swap) w8 T8.out.2.1 hr8 (by simp))
      clear C' hb8 hr8 T7
      go_wp2_with (go_at_call 15; refine Calls.mono C.out ?_; rintro e w9 ⟨rfl, hb9⟩)
      go_ret
      exact ⟨rfl, (T8.out.below hb9).2.2.2⟩
    | succ g =>
      have hvN : v < N := by omega
      go_wp2_with (go_at_call 30; refine Calls.mono C.out ?_; rintro e w' ⟨rfl, rfl⟩; refine Hid.out ?_)
      refine hidI ?_
      clear C
      have C := hidI (out_any (some ⟨tb, 0, none⟩) (v : Int) (fs.map swap) ES.out wr (TX.out.2.1.walks))
      rw [places_swap] at C
      go_wp2_with (go_at_call 31; refine Calls.mono C.out ?_; rintro e wa1 ⟨u1, rfl, hs, hb⟩; refine Hid.out ?_)
      refine hidI ?_
      have Ta1 := hidI (TX.out.below hb)
      have S1 := hidI hs
      clear C hs hb TX
      have C := hidI (in_any (some ⟨gb, 0, none⟩) (v : Int) fs ER.out wa1 (Ta1.out.1.walks))
      go_wp2_with (go_at_call 32; refine Calls.mono C.out ?_; rintro e wa2 ⟨u2, rfl, hs, hb⟩; refine Hid.out ?_)
      refine hidI ?_
      have Ta2 := hidI (Ta1.out.below hb)
      have S2 := hidI hs
      have R2 := hidI (S1.out.below hb (Nat.le_refl _))
      clear C hs hb Ta1 S1
      have C := hidI (same_any u1 u2 _ wa2 R2.out S2.out (by have := places_length fs (v : Int) true; have := places_length fs (v : Int) false; first | omega | (simp; omega)))
      go_wp2_with (go_at_call 16; refine Calls.mono C.out ?_; rintro e wa3 ⟨rfl, hb⟩; refine Hid.out ?_)
      refine hidI ?_
      have Ta3 := hidI (Ta2.out.below hb)
      clear C hb Ta2 R2 S2
      have C := hidI (in_any (some ⟨tb, 0, none⟩) (v : Int) (fs.map swap) ES.out wa3 (Ta3.out.2.1.walks))
      rw [places_swap] at C
      go_wp2_with (go_at_call 32; refine Calls.mono C.out ?_; rintro e wa4 ⟨u4, rfl, hs, hb⟩; refine Hid.out ?_)
      refine hidI ?_
      have Ta4 := hidI (Ta3.out.below hb)
      have S4 := hidI hs
      clear C hs hb Ta3
      have C := hidI (out_any (some ⟨gb, 0, none⟩) (v : Int) fs ER.out wa4 (Ta4.out.1.walks))
      go_wp2_with (go_at_call 31; refine Calls.mono C.out ?_; rintro e wa5 ⟨u5, rfl, hs, hb⟩; refine Hid.out ?_)
      refine hidI ?_
      have Ta5 := hidI (Ta4.out.below hb)
      have S5 := hidI hs
      have R5 := hidI (S4.out.below hb (Nat.le_refl _))
      clear C hs hb Ta4 S4
      have C := hidI (same_any u4 u5 _ wa5 R5.out S5.out (by have := places_length fs (v : Int) true; have := places_length fs (v : Int) false; first | omega | (simp; omega)))
      go_wp2_with (go_at_call 16; refine Calls.mono C.out ?_; rintro e wa6 ⟨rfl, hb⟩; refine Hid.out ?_)
      refine hidI ?_
      have Ta6 := hidI (Ta5.out.below hb)
      clear C hb Ta5 R5 S5
      go_wp2
      go_roundg g
      case measure => omega
      case rel => exact ⟨v + 1, by omega, by go_num, Ta6.out⟩
/-- As the statement has its arguments. -/
theorem graphTurned_any (n : Int) (_ : -9223372036854775808 ≤ n ∧ n ≤ 9223372036854775807) {W : World} (v : Value) (es : Edges) (hv : ArgE W v es) (_ : ∀ x ∈ es, Wf x.1 ∧ Wf x.2) :
    Calls Try.prog 8 #[.int .i64 n, v] W fun e w' => e = .returned (.bool true) ∧ Below W.heap.size W w' := by
  rcases check_cases n (es.take 32) with h | ⟨h1, h2, h3, h4⟩
  · exact turns_bad n _ v es W hv rfl h
  · exact turns_ok n _ v es W hv rfl h1 h2 h3 h4
end Go.Proofs.Ytbjoljokdjgbnaa
