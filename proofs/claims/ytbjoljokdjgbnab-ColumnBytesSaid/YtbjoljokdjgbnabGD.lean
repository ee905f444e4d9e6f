/-
  Texts Fill Load Whole WholeDo Arms WholeTell DeclErr WholeAll WholeList, one behind the other.
-/
import Derived.Test.YtbjoljokdjgbnabGB
import Derived.Laws.IdiomCopy
import Derived.Test.YtbjoljokdjgbnabGC
/-
  All values of a column let be one: what Fill comes to.
-/
namespace Go.Proofs.Ytbjoljokdjgbnab
open Go.RowKit Go.MapKept
theorem grown_trans {a b c : World} {r : Nat} (h : a.grownBy b (some r)) (k : b.grownBy c (some r)) : a.grownBy c (some r) :=
  ⟨k.1.trans h.1, k.2.trans h.2, k.3.trans h.3, Nat.le_trans h.4 k.4, fun i hi hne => (k.5 i (Nat.lt_of_lt_of_le hi h.4) hne).trans (h.5 i hi hne)⟩
theorem grown_below {a b : World} (r : Nat) (h : Below a.heap.size a b) : a.grownBy b (some r) := ⟨h.os, h.tape, h.output, h.size, fun i hi _ => h.block i hi⟩
theorem grown_cell (w : World) (b j : Nat) (v : Value) : w.grownBy (w.setCell ⟨b, j, none⟩ v) (some b) := ⟨rfl, rfl, rfl, by simp, fun k _ hk => Below.heap_setCell _ _ _ k (fun e => hk (by rw [e]))⟩
theorem fill_none (tb mb : Nat) (s : ByteArray) (d x : Int) (w : World) (c2 : w.cell? ⟨tb, 2, none⟩ = some (.map (some mb))) (hm : mb < w.heap.size) (hk : Look w mb s d (.agg #[.int .u8 0, .slice none 0 0]) false) :
    Calls Try.prog 72 #[.pointer (some ⟨tb, 0, none⟩), ke s d, .int .i64 x] w fun e w' => e = .returned (.int .i64 5) ∧ Below w.heap.size w w' := by
  have htb := World.block_lt_of_cell? w _ c2
  simp only at htb
  have C : Hid (∀ u, Below w.heap.size w u → Calls Try.prog 60 #[.pointer (some ⟨tb, 0, none⟩), ke s d] u fun e w' => e = .returned (.tuple #[.agg #[.int .u8 0, .slice none 0 0], .int .i64 5]) ∧ Below u.heap.size u w') :=
    hidI fun u hu => find_none tb mb s d u ((hu.cell (p := ⟨tb, 2, none⟩) htb).trans c2) (Nat.lt_of_lt_of_le hm hu.size) fun v hv => hk v (hv.trans (hu.block mb hm))
  clear hk c2
  go_enter Try.func72, Try.ntmps72
  go_wp2_with (go_at_call 60; refine Calls.mono (C.out _ (by (repeat (first | exact Below.refl _ _ | assumption | refine Below.drew ?_ | refine Below.alloc ?_ (by first | omega | (simp; done) | (simp; omega)) _ | refine Below.setCell ?_ (by first | omega | (simp; done) | (simp; omega)) _)))) ?_; rintro e w1 ⟨rfl, hb1⟩; refine Hid.out ?_)
  refine hidI ?_
  have hsz := hb1.size
  simp only [World.size_alloc] at hsz
  have HB : Hid (Below w.heap.size w w1) := hidI (Below.trans (by (repeat (first | exact Below.refl _ _ | assumption | refine Below.drew ?_ | refine Below.alloc ?_ (by first | omega | (simp; done) | (simp; omega)) _ | refine Below.setCell ?_ (by first | omega | (simp; done) | (simp; omega)) _))) (hb1.mono (by simp)))
  clear hb1 C
  go_wp2
  go_ret
  exact ⟨rfl, by have := HB.out; (repeat (first | exact Below.refl _ _ | assumption | refine Below.drew ?_ | refine Below.alloc ?_ (by first | omega | (simp; done) | (simp; omega)) _ | refine Below.setCell ?_ (by first | omega | (simp; done) | (simp; omega)) _))⟩
set_option maxRecDepth 100000 in
set_option maxHeartbeats 2000000 in
theorem fill_some (tb mb : Nat) (s : ByteArray) (d : Int) (k x : Int) (b : Nat) (l c : Nat) (w : World) (c2 : w.cell? ⟨tb, 2, none⟩ = some (.map (some mb))) (hm : mb < w.heap.size) (hk : Look w mb s d (.agg #[.int .u8 k, .slice (some ⟨b, 0, none⟩) l c]) true) (hl : l ≤ 100000) (hb : b < w.heap.size)
    (hz : ∀ j, j < l → ∃ z, w.cell? ⟨b, j, none⟩ = some (.int .i64 z)) (hf : ∀ j, j < l → w.frozen? ⟨b, j, none⟩ = false) :
    Calls Try.prog 72 #[.pointer (some ⟨tb, 0, none⟩), ke s d, .int .i64 x] w fun e w' => (fit k x = false ∧ e = .returned (.int .i64 3) ∧ Below w.heap.size w w') ∨ (fit k x = true ∧ e = .returned (.int .i64 0) ∧ w.grownBy w' (some b) ∧ ∀ j, j < l → w'.cell? ⟨b, j, none⟩ = some (.int .i64 x) ∧ w'.frozen? ⟨b, j, none⟩ = false) := by
  have htb := World.block_lt_of_cell? w _ c2
  simp only at htb
  have C : Hid (∀ u, Below w.heap.size w u → Calls Try.prog 60 #[.pointer (some ⟨tb, 0, none⟩), ke s d] u fun e w' => e = .returned (.tuple #[.agg #[.int .u8 k, .slice (some ⟨b, 0, none⟩) l c], .int .i64 0]) ∧ Below u.heap.size u w') :=
    hidI fun u hu => find_some tb mb s d k _ l c u ((hu.cell (p := ⟨tb, 2, none⟩) htb).trans c2) (Nat.lt_of_lt_of_le hm hu.size) fun v hv => hk v (hv.trans (hu.block mb hm))
  obtain ⟨ft, hft⟩ : ∃ ft, fit k x = ft := ⟨_, rfl⟩
  have F : Hid (∀ u, Calls Try.prog 53 #[.agg #[.int .u8 k, .slice (some ⟨b, 0, none⟩) l c], .int .i64 x] u fun e w' => e = .returned (.bool ft) ∧ Below u.heap.size u w') := hidI fun u => hft ▸ fit_any k x _ l c u
  have HZ : Hid (∀ u, Below w.heap.size w u → ∀ j, j < l → (∃ z, u.cell? ⟨b, j, none⟩ = some (.int .i64 z)) ∧ u.frozen? ⟨b, j, none⟩ = false) := hidI fun u hu j hj => by
    obtain ⟨z, hz'⟩ := hz j hj
    exact ⟨⟨z, (hu.cell (p := ⟨b, j, none⟩) hb).trans hz'⟩, (hu.frozen (p := ⟨b, j, none⟩) hb).trans (hf j hj)⟩
  have HFT := hidI hft
  clear hk c2 hz hf hft
  go_enter Try.func72, Try.ntmps72
  go_wp2_with (go_at_call 60; refine Calls.mono (C.out _ (by (repeat (first | exact Below.refl _ _ | assumption | refine Below.drew ?_ | refine Below.alloc ?_ (by first | omega | (simp; done) | (simp; omega)) _ | refine Below.setCell ?_ (by first | omega | (simp; done) | (simp; omega)) _)))) ?_; rintro e w1 ⟨rfl, hb1⟩; refine Hid.out ?_)
  refine hidI ?_
  have hsz := hb1.size
  simp only [World.size_alloc] at hsz
  have HB : Hid (Below w.heap.size w w1) := hidI (Below.trans (by (repeat (first | exact Below.refl _ _ | assumption | refine Below.drew ?_ | refine Below.alloc ?_ (by first | omega | (simp; done) | (simp; omega)) _ | refine Below.setCell ?_ (by first | omega | (simp; done) | (simp; omega)) _))) (hb1.mono (by simp)))
  clear hb1 C
  go_wp2_with (go_at_call 53; refine Calls.mono (F.out _) ?_; rintro e w2 ⟨rfl, hb2⟩; refine Hid.out ?_)
  refine hidI ?_
  have HB2 : Hid (Below w.heap.size w w2) := hidI (Below.trans (by have := HB.out; (repeat (first | exact Below.refl _ _ | assumption | refine Below.drew ?_ | refine Below.alloc ?_ (by first | omega | (simp; done) | (simp; omega)) _ | refine Below.setCell ?_ (by first | omega | (simp; done) | (simp; omega)) _))) (hb2.mono (by simp; omega)))
  have g0 : w2.cell? ⟨w1.heap.size, 0, none⟩ = some (.int .u8 k) := by
    refine (hb2.cell (p := ⟨w1.heap.size, 0, none⟩) (by simp)).trans ?_
    go_simp
  have g1 : w2.cell? ⟨w1.heap.size, 1, none⟩ = some (.slice (some ⟨b, 0, none⟩) l c) := by
    refine (hb2.cell (p := ⟨w1.heap.size, 1, none⟩) (by simp)).trans ?_
    go_simp
  clear hb2 F HB
  cases ft with
  | false =>
    clear g0 g1
    go_wp2
    go_ret
    exact .inl ⟨HFT.out, rfl, HB2.out⟩
  | true =>
    have hbc : b ≠ w1.heap.size := by omega
    have HG1 := hidI g1
    clear g0
    go_wp2
    clear g1
    go_loopg [26] l (fun g s26 wr => ∃ (i : Nat), i + g = l ∧ s26 = .int .i64 i ∧ w2.grownBy wr (some b) ∧ (∀ j, j < l → (∃ z, wr.cell? ⟨b, j, none⟩ = some (.int .i64 z) ∧ (j < i → z = x)) ∧ wr.frozen? ⟨b, j, none⟩ = false))
    case atStart =>
      refine ⟨0, by omega, rfl, grown_below b (Below.refl _ _), fun j hj => ?_⟩
      obtain ⟨⟨z, hz⟩, hf⟩ := HZ.out w2 HB2.out j hj
      exact ⟨⟨z, hz, fun h => absurd h (by omega)⟩, hf⟩
    case round =>
      obtain ⟨i, hig, rfl, hgr, hcs⟩ := hrel
      have HGR := hidI hgr
      have HCS := hidI hcs
      have g1 : wr.cell? ⟨w1.heap.size, 1, none⟩ = some (.slice (some ⟨b, 0, none⟩) l c) := kept_cell hgr HG1.out (fun h => hbc (Option.some.inj h).symm)
      cases gk with
      | zero =>
        have hil : i = l := by omega
        subst hil
        clear hgr hcs
        go_wp2
        go_ret
        refine .inr ⟨HFT.out, rfl, grown_trans (grown_below b HB2.out) HGR.out, fun j hj => ?_⟩
        obtain ⟨⟨z, hz, hx⟩, hf⟩ := HCS.out j hj
        rw [hx hj] at hz
        exact ⟨hz, hf⟩
      | succ g =>
        have hil : i < l := by omega
        have hil2 : (i : Int) < (l : Int) := by omega
        obtain ⟨⟨z, hz, _⟩, hf⟩ := hcs i hil
        clear hgr hcs
        go_wp2
        go_roundg g
        case measure => omega
        case rel =>
          refine ⟨i + 1, by omega, by go_num, grown_trans HGR.out (grown_cell wr b i _), fun j hj => ?_⟩
          obtain ⟨⟨z', hz', hx'⟩, hf'⟩ := HCS.out j hj
          refine ⟨?_, by rw [World.frozen?_setCell]; exact hf'⟩
          by_cases e : j = i
          · subst e
            exact ⟨x, World.cell?_setCell_same _ _ _ hz', fun _ => rfl⟩
          · exact ⟨z', (World.cell?_setCell_other _ _ _ _ (by intro hh; simp only [Addr.mk.injEq] at hh; omega)).trans hz', fun h => hx' (by omega)⟩
end Go.Proofs.Ytbjoljokdjgbnab
/-
  All values of a column let be those of a list: what Load comes to.
-/
namespace Go.Proofs.Ytbjoljokdjgbnab
open Go.RowKit Go.MapKept
theorem setCells_grown (b : Nat) : ∀ (cs : List Value) (o : Nat) (w : World), w.grownBy (w.setCells b o cs) (some b)
  | [], _, _ => grown_below b (Below.refl _ _)
  | v :: r, o, w => grown_trans (grown_cell w b o v) (setCells_grown b r (o + 1) (w.setCell ⟨b, o, none⟩ v))
theorem setCells_frozen (b : Nat) (p : Addr) : ∀ (cs : List Value) (o : Nat) (w : World), (w.setCells b o cs).frozen? p = w.frozen? p
  | [], _, _ => rfl
  | v :: r, o, w => (setCells_frozen b p r (o + 1) (w.setCell ⟨b, o, none⟩ v)).trans (World.frozen?_setCell _ _ _ _)
theorem setCells_before (b : Nat) : ∀ (cs : List Value) (o : Nat) (w : World) (q : Nat), q < o → (w.setCells b o cs).cell? ⟨b, q, none⟩ = w.cell? ⟨b, q, none⟩
  | [], _, _, _, _ => rfl
  | v :: r, o, w, q, hq => (setCells_before b r (o + 1) (w.setCell ⟨b, o, none⟩ v) q (by omega)).trans (World.cell?_setCell_other _ _ _ _ (by intro hh; simp only [Addr.mk.injEq] at hh; omega))
theorem setCells_cell (b : Nat) : ∀ (cs : List Value) (o : Nat) (w : World), (∀ j, j < cs.length → ∃ u, w.cell? ⟨b, o + j, none⟩ = some u) → ∀ j v, cs[j]? = some v → (w.setCells b o cs).cell? ⟨b, o + j, none⟩ = some v
  | [], _, _, _, j, v, h => by simp at h
  | x :: r, o, w, hc, 0, v, h => by
    simp at h
    subst h
    obtain ⟨u, hu⟩ := hc 0 (by simp)
    have h1 : (w.setCell ⟨b, o, none⟩ x).cell? ⟨b, o, none⟩ = some x := World.cell?_setCell_same _ _ _ hu
    exact (setCells_before b r (o + 1) (w.setCell ⟨b, o, none⟩ x) o (by omega)).trans h1
  | x :: r, o, w, hc, j + 1, v, h => by
    have ih := setCells_cell b r (o + 1) (w.setCell ⟨b, o, none⟩ x) (fun i hi => by
      obtain ⟨u, hu⟩ := hc (i + 1) (by simp; omega)
      exact ⟨u, by rw [World.cell?_setCell_other _ _ _ _ (by intro hh; simp only [Addr.mk.injEq] at hh; omega), show o + 1 + i = o + (i + 1) by omega]; exact hu⟩) j v (by simpa using h)
    rw [show o + (j + 1) = o + 1 + j by omega]
    exact ih
theorem load_none (tb mb : Nat) (s : ByteArray) (d : Int) (a : Option Addr) (ll lc : Nat) (w : World) (c2 : w.cell? ⟨tb, 2, none⟩ = some (.map (some mb))) (hm : mb < w.heap.size) (hk : Look w mb s d (.agg #[.int .u8 0, .slice none 0 0]) false) :
    Calls Try.prog 74 #[.pointer (some ⟨tb, 0, none⟩), ke s d, .slice a ll lc] w fun e w' => e = .returned (.int .i64 5) ∧ Below w.heap.size w w' := by
  have htb := World.block_lt_of_cell? w _ c2
  simp only at htb
  have C : Hid (∀ u, Below w.heap.size w u → Calls Try.prog 60 #[.pointer (some ⟨tb, 0, none⟩), ke s d] u fun e w' => e = .returned (.tuple #[.agg #[.int .u8 0, .slice none 0 0], .int .i64 5]) ∧ Below u.heap.size u w') :=
    hidI fun u hu => find_none tb mb s d u ((hu.cell (p := ⟨tb, 2, none⟩) htb).trans c2) (Nat.lt_of_lt_of_le hm hu.size) fun v hv => hk v (hv.trans (hu.block mb hm))
  clear hk c2
  go_enter Try.func74, Try.ntmps74
  go_wp2_with (go_at_call 60; refine Calls.mono (C.out _ (by (repeat (first | exact Below.refl _ _ | assumption | refine Below.drew ?_ | refine Below.alloc ?_ (by first | omega | (simp; done) | (simp; omega)) _ | refine Below.setCell ?_ (by first | omega | (simp; done) | (simp; omega)) _)))) ?_; rintro e w1 ⟨rfl, hb1⟩; refine Hid.out ?_)
  refine hidI ?_
  have hsz := hb1.size
  simp only [World.size_alloc] at hsz
  have HB : Hid (Below w.heap.size w w1) := hidI (Below.trans (by (repeat (first | exact Below.refl _ _ | assumption | refine Below.drew ?_ | refine Below.alloc ?_ (by first | omega | (simp; done) | (simp; omega)) _ | refine Below.setCell ?_ (by first | omega | (simp; done) | (simp; omega)) _))) (hb1.mono (by simp)))
  clear hb1 C
  go_wp2
  go_ret
  exact ⟨rfl, by have := HB.out; (repeat (first | exact Below.refl _ _ | assumption | refine Below.drew ?_ | refine Below.alloc ?_ (by first | omega | (simp; done) | (simp; omega)) _ | refine Below.setCell ?_ (by first | omega | (simp; done) | (simp; omega)) _))⟩
/-- What Load tells. -/
def loadE (k : Int) (l : Nat) (zs : List Int) : Int := if zs.length = l then (if zs.all (fit k) then 0 else 3) else 2
theorem Try.size51 : (Try.prog.info? 51).map (·.size) = some 1 := by kernel_rfl
set_option maxRecDepth 100000 in
set_option maxHeartbeats 4000000 in
theorem load_some (tb mb : Nat) (s : ByteArray) (d : Int) (k : Int) (b : Nat) (l c : Nat) (lv : Value) (zs : List Int) (w : World) (c2 : w.cell? ⟨tb, 2, none⟩ = some (.map (some mb))) (hm : mb < w.heap.size) (hk : Look w mb s d (.agg #[.int .u8 k, .slice (some ⟨b, 0, none⟩) l c]) true) (hl : zs.length ≤ 100000) (hb : b < w.heap.size)
    (hz : ∀ j, j < l → ∃ z, w.cell? ⟨b, j, none⟩ = some (.int .i64 z)) (hf : ∀ j, j < l → w.frozen? ⟨b, j, none⟩ = false) (hv : Sees w lv zs) :
    Calls Try.prog 74 #[.pointer (some ⟨tb, 0, none⟩), ke s d, lv] w fun e w' => e = .returned (.int .i64 (loadE k l zs)) ∧ (loadE k l zs ≠ 0 → Below w.heap.size w w') ∧ (loadE k l zs = 0 → w.grownBy w' (some b) ∧ ∀ j, j < l → w'.cell? ⟨b, j, none⟩ = some (.int .i64 (zs.getD j 0)) ∧ w'.frozen? ⟨b, j, none⟩ = false) := by
  have htb := World.block_lt_of_cell? w _ c2
  simp only at htb
  have C : Hid (∀ u, Below w.heap.size w u → Calls Try.prog 60 #[.pointer (some ⟨tb, 0, none⟩), ke s d] u fun e w' => e = .returned (.tuple #[.agg #[.int .u8 k, .slice (some ⟨b, 0, none⟩) l c], .int .i64 0]) ∧ Below u.heap.size u w') :=
    hidI fun u hu => find_some tb mb s d k _ l c u ((hu.cell (p := ⟨tb, 2, none⟩) htb).trans c2) (Nat.lt_of_lt_of_le hm hu.size) fun v hv => hk v (hv.trans (hu.block mb hm))
  have F : Hid (∀ u x, Calls Try.prog 53 #[.agg #[.int .u8 k, .slice (some ⟨b, 0, none⟩) l c], .int .i64 x] u fun e w' => e = .returned (.bool (fit k x)) ∧ Below u.heap.size u w') := hidI fun u x => fit_any k x _ l c u
  have HZ : Hid (∀ u, Below w.heap.size w u → ∀ j, j < l → (∃ z, u.cell? ⟨b, j, none⟩ = some (.int .i64 z)) ∧ u.frozen? ⟨b, j, none⟩ = false) := hidI fun u hu j hj => by
    obtain ⟨z, hz'⟩ := hz j hj
    exact ⟨⟨z, (hu.cell (p := ⟨b, j, none⟩) hb).trans hz'⟩, (hu.frozen (p := ⟨b, j, none⟩) hb).trans (hf j hj)⟩
  have HV := hidI hv
  obtain ⟨a, ac, rfl, _⟩ := hv
  obtain ⟨n, hn⟩ : ∃ n, zs.length = n := ⟨_, rfl⟩
  rw [hn] at hl HV ⊢
  have HN := hidI hn
  clear hk c2 hz hf hn
  go_enter Try.func74, Try.ntmps74
  go_wp2_with (go_at_call 60; refine Calls.mono (C.out _ (by (repeat (first | exact Below.refl _ _ | assumption | refine Below.drew ?_ | refine Below.alloc ?_ (by first | omega | (simp; done) | (simp; omega)) _ | refine Below.setCell ?_ (by first | omega | (simp; done) | (simp; omega)) _)))) ?_; rintro e w1 ⟨rfl, hb1⟩; refine Hid.out ?_)
  refine hidI ?_
  have hsz := hb1.size
  simp only [World.size_alloc] at hsz
  have HB1 : Hid (Below w.heap.size w (w1.alloc (.cells #[.int .u8 k, .slice (some ⟨b, 0, none⟩) l c] 97))) := hidI (by have := Below.trans (show Below w.heap.size w (w.alloc (.cells #[.string s, .int .u8 d] 40)) by (repeat (first | exact Below.refl _ _ | assumption | refine Below.drew ?_ | refine Below.alloc ?_ (by first | omega | (simp; done) | (simp; omega)) _ | refine Below.setCell ?_ (by first | omega | (simp; done) | (simp; omega)) _))) (hb1.mono (by simp)); (repeat (first | exact Below.refl _ _ | assumption | refine Below.drew ?_ | refine Below.alloc ?_ (by first | omega | (simp; done) | (simp; omega)) _ | refine Below.setCell ?_ (by first | omega | (simp; done) | (simp; omega)) _)))
  have g0 : (w1.alloc (.cells #[.int .u8 k, .slice (some ⟨b, 0, none⟩) l c] 97)).cell? ⟨w1.heap.size, 0, none⟩ = some (.int .u8 k) := by go_simp
  have g1 : (w1.alloc (.cells #[.int .u8 k, .slice (some ⟨b, 0, none⟩) l c] 97)).cell? ⟨w1.heap.size, 1, none⟩ = some (.slice (some ⟨b, 0, none⟩) l c) := by go_simp
  have HG := hidI (And.intro g0 g1)
  clear hb1 C g0 g1
  by_cases hnl : n = l
  · subst hnl
    go_wp2
    obtain ⟨w2, hw2⟩ : ∃ w2, w1.alloc (.cells #[.int .u8 k, .slice (some ⟨b, 0, none⟩) n c] 97) = w2 := ⟨_, rfl⟩
    have hcb : w1.heap.size < w2.heap.size := by rw [← hw2]; simp
    rw [hw2] at HB1 HG ⊢
    clear hw2
    go_loopg [28] n (fun g s28 wr => ∃ (i : Nat), i + g = n ∧ s28 = .int .i64 i ∧ Below w2.heap.size w2 wr ∧ ∀ j, j < i → fit k (zs.getD j 0) = true)
    case atStart => exact ⟨0, by omega, rfl, Below.refl _ _, fun j hj => absurd hj (by omega)⟩
    case round =>
      obtain ⟨i, hig, rfl, hbl, hall⟩ := hrel
      have HA := hidI hall
      have HB := hidI hbl
      have g0 : wr.cell? ⟨w1.heap.size, 0, none⟩ = some (.int .u8 k) := (hbl.cell (p := ⟨w1.heap.size, 0, none⟩) hcb).trans HG.out.1
      have g1 : wr.cell? ⟨w1.heap.size, 1, none⟩ = some (.slice (some ⟨b, 0, none⟩) n c) := (hbl.cell (p := ⟨w1.heap.size, 1, none⟩) hcb).trans HG.out.2
      have HBW := hidI (HB1.out.trans (hbl.mono HB1.out.size))
      clear hall hbl
      cases gk with
      | zero =>
        have hin : i = n := by omega
        subst hin
        have hE : Hid (loadE k i zs = 0) := by
          refine hidI ?_
          unfold loadE
          rw [if_pos HN.out, if_pos]
          rw [List.all_eq_true]
          intro x hx
          obtain ⟨j, hj, rfl⟩ := List.getElem_of_mem hx
          have := HA.out j (by rw [← HN.out]; exact hj)
          simpa [List.getD, hj] using this
        obtain ⟨va, vc, hve, hvs⟩ := HV.out.below HBW.out (Nat.le_refl _)
        rw [HN.out] at hve
        cases hve
        by_cases hi0 : i = 0
        · subst hi0
          have qc : ∀ ty, (Builtin.copy_ #[60, 60] ty #[.slice (some ⟨b, 0, none⟩) 0 c, .slice a 0 ac]).run Try.prog wr = .ok (goInt 0) wr := fun ty => run_copy_none wr 60 60 ty 51 _ _ 0 c 0 ac Try.underlying60 Try.size51 rfl
          clear g0
          go_wp2
          go_ret
          refine ⟨by rw [hE.out]; rfl, fun h => absurd hE.out h, fun _ => ?_⟩
          first | exact grown_below b HBW.out | exact ⟨grown_below b HBW.out, fun j hj => absurd hj (by omega)⟩
        · rcases hvs with h0 | ⟨vb, vo, rfl, hvc⟩
          · have := HN.out; rw [h0] at this; simp at this; omega
          have hlen : (zs.map (Value.int .i64)).length = i := by simp [HN.out]
          have qc : ∀ ty, (Builtin.copy_ #[60, 60] ty #[.slice (some ⟨b, 0, none⟩) i c, .slice (some ⟨vb, vo, none⟩) i ac]).run Try.prog wr = .ok (goInt i) (wr.setCells b 0 (zs.map (Value.int .i64))) := fun ty => by
            have := run_copy_cells (P := Try.prog) wr 60 60 ty 51 b 0 i c ⟨vb, vo, none⟩ i ac (zs.map (Value.int .i64)) Try.underlying60 Try.size51 (by rw [hlen]; exact (Nat.min_self i).symm) (fun j v hj => by
              rw [List.getElem?_map] at hj
              obtain ⟨z, hz, rfl⟩ := Option.map_eq_some_iff.1 hj
              have hjl := (List.getElem?_eq_some_iff.1 hz).1
              rw [Addr.add_lit, hvc j hjl]
              simp [List.getD, hz]) (fun j hj => by
              obtain ⟨⟨z, hz⟩, _⟩ := HZ.out wr HBW.out j (by omega)
              rw [Nat.zero_add, hz]; rfl) (fun j hj => by rw [Nat.zero_add]; exact (HZ.out wr HBW.out j (by omega)).2) (by intro v hv; obtain ⟨z, _, rfl⟩ := List.mem_map.1 hv; rfl)
            rw [hlen] at this
            exact this
          have HQ1 := hidI (setCells_grown b (zs.map (Value.int .i64)) 0 wr)
          have HQ2 : Hid (∀ j, j < i → (wr.setCells b 0 (zs.map (Value.int .i64))).cell? ⟨b, j, none⟩ = some (.int .i64 (zs.getD j 0))) := fun j hj => by
            have := setCells_cell b (zs.map (Value.int .i64)) 0 wr (fun q hq => by
              obtain ⟨⟨z, hz⟩, _⟩ := HZ.out wr HBW.out q (by omega)
              exact ⟨_, by rw [Nat.zero_add]; exact hz⟩) j (.int .i64 (zs.getD j 0)) (by rw [List.getElem?_map]; simp [List.getD, show j < zs.length by rw [HN.out]; exact hj])
            rwa [Nat.zero_add] at this
          clear g0 hvc
          go_wp2
          go_ret
          refine ⟨by rw [hE.out]; rfl, fun h => absurd hE.out h, fun _ => ⟨grown_trans (grown_below b HBW.out) HQ1.out, fun j hj => ⟨HQ2.out j hj, ?_⟩⟩⟩
          rw [setCells_frozen]
          exact (HZ.out wr HBW.out j hj).2
      | succ g =>
        have hin : i < n := by omega
        have hin2 : (i : Int) < (n : Int) := by omega
        obtain ⟨va, vc, hve, hvs⟩ := HV.out.below HBW.out (Nat.le_refl _)
        rw [HN.out] at hve
        cases hve
        rcases hvs with h0 | ⟨vb, vo, rfl, hvc⟩
        · have := HN.out; rw [h0] at this; simp at this; omega
        have ci := hvc i (by rw [HN.out]; exact hin)
        obtain ⟨x, hx⟩ : ∃ x, zs.getD i 0 = x := ⟨_, rfl⟩
        rw [hx] at ci
        have HX := hidI hx
        obtain ⟨ft, hft⟩ : ∃ ft, fit k x = ft := ⟨_, rfl⟩
        have F1 := hidI (F.out wr x)
        rw [hft] at F1
        have HFT := hidI hft
        clear hvc hx hft
        go_wp2_with (go_at_call 53; refine Calls.mono F1.out ?_; rintro e w4 ⟨rfl, hb4⟩; refine Hid.out ?_)
        refine hidI ?_
        have HB4 := hidI (HB.out.trans (hb4.mono HB.out.size))
        clear F1 hb4 g0 g1 ci
        cases ft with
        | false =>
          have hE : Hid (loadE k n zs = 3) := by
            refine hidI ?_
            unfold loadE
            rw [if_pos HN.out, if_neg]
            rw [List.all_eq_true]
            intro h
            have := h (zs.getD i 0) (by rw [List.getD, List.getElem?_eq_getElem (by rw [HN.out]; exact hin)]; exact List.getElem_mem _)
            rw [HX.out, HFT.out] at this
            cases this
          go_wp2
          go_ret
          exact ⟨by rw [hE.out]; rfl, fun _ => HB1.out.trans (HB4.out.mono HB1.out.size), fun h => by rw [hE.out] at h; cases h⟩
        | true =>
          go_wp2
          go_roundg g
          case measure => omega
          case rel =>
            refine ⟨i + 1, by omega, by go_num, HB4.out, fun j hj => ?_⟩
            by_cases e : j = i
            · subst e; rw [HX.out]; exact HFT.out
            · exact HA.out j (by omega)
  · have hE : Hid (loadE k l zs = 2) := by refine hidI ?_; unfold loadE; rw [if_neg (by rw [HN.out]; exact hnl)]
    have q1 : ((n : Int) == (l : Int)) = false := by simp; omega
    have q2 : decide ((n : Int) = (l : Int)) = false := by simp; omega
    have q3 : ¬ n = l := hnl
    go_wp2
    go_ret
    exact ⟨by rw [hE.out]; rfl, fun _ => HB1.out, fun h => by rw [hE.out] at h; cases h⟩
end Go.Proofs.Ytbjoljokdjgbnab
/-
  A whole table: its columns, each in a row of its own.
-/
namespace Go.Proofs.Ytbjoljokdjgbnab
open Go.RowKit Go.MapKept
/-- A column: its key, its kind, its values, the block of its row. -/
structure Column where
  name : ByteArray
  side : Int
  kind : Int
  vals : List Int
  row : Nat
  cap : Nat
def Column.entry (c : Column) (born : Nat) : MapEntry := { key := ke c.name c.side, val := .agg #[.int .u8 c.kind, .slice (some ⟨c.row, 0, none⟩) c.vals.length c.cap], born := born }
def ents : Nat → List Column → List MapEntry
  | _, [] => []
  | k, c :: r => c.entry k :: ents (k + 1) r
theorem ents_length : ∀ (k : Nat) (cs : List Column), (ents k cs).length = cs.length
  | _, [] => rfl
  | k, _ :: r => by simp [ents, ents_length (k + 1) r]
theorem ents_get : ∀ (cs : List Column) (k i : Nat), (ents k cs)[i]? = (cs[i]?).map fun c => c.entry (k + i)
  | [], _, _ => by simp [ents]
  | c :: r, k, 0 => by simp [ents]
  | c :: r, k, i + 1 => by
    have := ents_get r (k + 1) i
    simp only [ents, List.getElem?_cons_succ, this]
    rw [show k + 1 + i = k + (i + 1) by omega]
theorem ents_snoc : ∀ (cs : List Column) (k : Nat) (c : Column), ents k (cs ++ [c]) = ents k cs ++ [c.entry (k + cs.length)]
  | [], _, _ => by simp [ents]
  | x :: r, k, c => by
    have := ents_snoc r (k + 1) c
    simp only [ents, List.cons_append, this, List.length_cons]
    rw [show k + 1 + r.length = k + (r.length + 1) by omega]
theorem ents_mem {cs : List Column} {k : Nat} {e : MapEntry} (h : e ∈ ents k cs) : ∃ (i : Nat) (c : Column), cs[i]? = some c ∧ e = c.entry (k + i) := by
  obtain ⟨i, hi⟩ := List.getElem?_of_mem h
  rw [ents_get] at hi
  obtain ⟨c, hc, rfl⟩ := Option.map_eq_some_iff.1 hi
  exact ⟨i, c, hc, rfl⟩
/-- What may be a column of a table of n nodes and m edges. -/
def Column.ok (n m : Int) (c : Column) : Prop := isName c.name = true ∧ c.name.size ≤ maxLen ∧ Wf8 c.side ∧ Go.Proofs.Ytbjoljokdjgbnab.side c.side = true ∧ Go.Proofs.Ytbjoljokdjgbnab.kind c.kind = true ∧ (c.vals.length : Int) = sideLen n m c.side ∧ c.vals.length ≤ 30 ∧ c.vals.all (fit c.kind) = true
def apartK (cs : List Column) : Prop := ∀ (i j : Nat) (a b : Column), cs[i]? = some a → cs[j]? = some b → a.name = b.name → a.side = b.side → i = j
def apartR (cs : List Column) : Prop := ∀ (i j : Nat) (a b : Column), cs[i]? = some a → cs[j]? = some b → a.row = b.row → i = j
/-- The table at tb is one of n nodes and m edges, with the columns cs. -/
def Whole (w : World) (tb mb : Nat) (n m : Int) (cs : List Column) : Prop :=
  w.cell? ⟨tb, 0, none⟩ = some (.int .i64 n) ∧ w.cell? ⟨tb, 1, none⟩ = some (.int .i64 m) ∧ w.cell? ⟨tb, 2, none⟩ = some (.map (some mb)) ∧ w.heap[mb]? = some (.map (ents 0 cs).toArray cs.length) ∧
    (∀ c ∈ cs, c.ok n m ∧ c.row < w.heap.size ∧ c.row ≠ tb ∧ c.row ≠ mb ∧ ∀ j, j < c.vals.length → w.cell? ⟨c.row, j, none⟩ = some (.int .i64 (c.vals.getD j 0)) ∧ w.frozen? ⟨c.row, j, none⟩ = false) ∧ apartK cs ∧ apartR cs ∧ cs.length ≤ 24
theorem Whole.below {w w' : World} {tb mb B : Nat} {n m : Int} {cs : List Column} (h : Whole w tb mb n m cs) (hb : Below B w w') (hB : w.heap.size ≤ B) : Whole w' tb mb n m cs := by
  obtain ⟨h0, h1, h2, h3, h4, h5⟩ := h
  have k : ∀ {p : Addr} {v : Value}, w.cell? p = some v → w'.cell? p = some v := fun {p v} hc => (hb.cell (Nat.lt_of_lt_of_le (World.block_lt_of_cell? w _ hc) hB)).trans hc
  refine ⟨k h0, k h1, k h2, (hb.block mb (Nat.lt_of_lt_of_le (Array.getElem?_eq_some_iff.1 h3).1 hB)).trans h3, fun c hc => ?_, h5⟩
  obtain ⟨q1, q2, q3, q4, q5⟩ := h4 c hc
  exact ⟨q1, Nat.lt_of_lt_of_le q2 hb.size, q3, q4, fun j hj => ⟨k (q5 j hj).1, (hb.frozen (p := ⟨c.row, j, none⟩) (Nat.lt_of_lt_of_le q2 hB)).trans (q5 j hj).2⟩⟩
theorem ents_keyed {n m : Int} {cs : List Column} (h : ∀ c ∈ cs, c.ok n m) : Keyed (ents 0 cs).toArray := by
  intro e he
  obtain ⟨i, c, hc, rfl⟩ := ents_mem (by simpa using he)
  obtain ⟨_, q2, q3, _⟩ := h c (List.mem_of_getElem? hc)
  exact keyOf_ke q2 q3
theorem ents_stamped {cs : List Column} (h : apartK cs) : Stamped (ents 0 cs).toArray cs.length := by
  have hget : ∀ i (hi : i < (ents 0 cs).length), ∃ c, cs[i]? = some c ∧ (ents 0 cs)[i] = c.entry i := fun i hi => by
    have h1 := ents_get cs 0 i
    rw [List.getElem?_eq_getElem hi] at h1
    obtain ⟨c, hc, he⟩ := Option.map_eq_some_iff.1 h1.symm
    exact ⟨c, hc, by rw [← he, Nat.zero_add]⟩
  refine ⟨fun x hx => ?_, ?_, ?_⟩
  · obtain ⟨i, c, hc, rfl⟩ := ents_mem (by simpa using hx)
    have := (List.getElem?_eq_some_iff.1 hc).1
    simp only [Column.entry]; omega
  · unfold List.Nodup
    rw [List.pairwise_map, List.pairwise_iff_getElem]
    intro i j hi hj hij
    obtain ⟨c, _, e1⟩ := hget i (by simpa using hi)
    obtain ⟨c', _, e2⟩ := hget j (by simpa using hj)
    simp only [] at *
    rw [e1, e2]
    simp only [Column.entry]
    omega
  · unfold List.Nodup
    rw [List.pairwise_map, List.pairwise_iff_getElem]
    intro i j hi hj hij
    obtain ⟨c, hc, e1⟩ := hget i (by simpa using hi)
    obtain ⟨c', hc', e2⟩ := hget j (by simpa using hj)
    simp only [] at *
    rw [e1, e2]
    intro he
    have := ke_inj he
    have := h i j c c' hc hc' this.1 this.2
    omega
/-- A key is a column's, or none's. -/
theorem Whole.look_some {w : World} {tb mb : Nat} {n m : Int} {cs : List Column} (h : Whole w tb mb n m cs) {i : Nat} {c : Column} (hc : cs[i]? = some c) : Look w mb c.name c.side (.agg #[.int .u8 c.kind, .slice (some ⟨c.row, 0, none⟩) c.vals.length c.cap]) true := by
  obtain ⟨_, _, _, h3, h4, h5, _⟩ := h
  obtain ⟨⟨_, q2, q3, _⟩, _⟩ := h4 c (List.mem_of_getElem? hc)
  exact Go.Proofs.Ytbjoljokdjgbnab.look_some (j := i) (e0 := c.entry i) h3 (ents_stamped h5) (ents_keyed fun c hc => (h4 c hc).1) q2 q3 (by have := ents_get cs 0 i; rw [hc, Nat.zero_add] at this; simpa using this) rfl
theorem Whole.look_none {w : World} {tb mb : Nat} {n m : Int} {cs : List Column} (h : Whole w tb mb n m cs) {s : ByteArray} {d : Int} (hs : s.size ≤ maxLen) (hd : Wf8 d) (hne : ∀ c ∈ cs, ¬ (c.name = s ∧ c.side = d)) : Look w mb s d (.agg #[.int .u8 0, .slice none 0 0]) false := by
  obtain ⟨_, _, _, h3, h4, _⟩ := h
  refine Go.Proofs.Ytbjoljokdjgbnab.look_none h3 (ents_keyed fun c hc => (h4 c hc).1) hs hd fun e he hk => ?_
  obtain ⟨i, c, hc, rfl⟩ := ents_mem (by simpa using he)
  exact hne c (List.mem_of_getElem? hc) (ke_inj hk)
end Go.Proofs.Ytbjoljokdjgbnab
/-
  What Declare, Set, Fill and Load make of a whole table.
-/
namespace Go.Proofs.Ytbjoljokdjgbnab
open Go.RowKit Go.MapKept
open Go.ChangeMaps (setBlock)
theorem ents_set : ∀ (cs : List Column) (k i : Nat) (c c' : Column), cs[i]? = some c → (∀ b, c'.entry b = c.entry b) → ents k (cs.set i c') = ents k cs
  | [], _, _, _, _, h, _ => by simp at h
  | x :: r, k, 0, c, c', h, he => by
    obtain rfl : x = c := by simpa using h
    simp only [List.set_cons_zero, ents, he]
  | x :: r, k, i + 1, c, c', h, he => by
    simp only [List.set_cons_succ, ents, ents_set r (k + 1) i c c' (by simpa using h) he]
theorem set_get {cs : List Column} {i : Nat} {c c' x : Column} (hc : cs[i]? = some c) {j : Nat} (hx : (cs.set i c')[j]? = some x) : (j = i ∧ x = c') ∨ (j ≠ i ∧ cs[j]? = some x) := by
  by_cases hj : i = j
  · subst hj
    rw [List.getElem?_set_self (List.getElem?_eq_some_iff.1 hc).1] at hx
    exact .inl ⟨rfl, by simpa using hx.symm⟩
  · rw [List.getElem?_set_ne hj] at hx
    exact .inr ⟨Ne.symm hj, hx⟩
/-- A column's values put anew, all but its row as it was. -/
theorem Whole.put {w w' : World} {tb mb : Nat} {n m : Int} {cs : List Column} (h : Whole w tb mb n m cs) {i : Nat} {c : Column} (hc : cs[i]? = some c) (vs : List Int) (hl : vs.length = c.vals.length) (hfit : vs.all (fit c.kind) = true) (hsz : w.heap.size ≤ w'.heap.size)
    (hk : ∀ k, k < w.heap.size → k ≠ c.row → w'.heap[k]? = w.heap[k]?) (hrow : ∀ j, j < c.vals.length → w'.cell? ⟨c.row, j, none⟩ = some (.int .i64 (vs.getD j 0)) ∧ w'.frozen? ⟨c.row, j, none⟩ = false) : Whole w' tb mb n m (cs.set i { c with vals := vs }) := by
  obtain ⟨h0, h1, h2, h3, h4, h5, h6, h7⟩ := h
  obtain ⟨q1, q2, q3, q4, q5⟩ := h4 c (List.mem_of_getElem? hc)
  have kc : ∀ {b o : Nat} {v : Value}, b ≠ c.row → w.cell? ⟨b, o, none⟩ = some v → w'.cell? ⟨b, o, none⟩ = some v := fun {b o v} hne hv => (World.cell?_of_block (hk b (World.block_lt_of_cell? w _ hv) hne)).trans hv
  have hmb := (Array.getElem?_eq_some_iff.1 h3).1
  refine ⟨kc (Ne.symm q3) h0, kc (Ne.symm q3) h1, kc (Ne.symm q3) h2, ?_, ?_, ?_, ?_, by simpa using h7⟩
  · rw [ents_set cs 0 i c _ hc fun b => by simp [Column.entry, hl], List.length_set]
    exact (hk mb hmb (Ne.symm q4)).trans h3
  · intro x hx
    obtain ⟨j, hj⟩ := List.getElem?_of_mem hx
    rcases set_get hc hj with ⟨_, rfl⟩ | ⟨hne, hj⟩
    · obtain ⟨p1, p2, p3, p4, p5, p6, p7, p8⟩ := q1
      exact ⟨⟨p1, p2, p3, p4, p5, by simpa [hl] using p6, by simpa [hl] using p7, hfit⟩, Nat.lt_of_lt_of_le q2 hsz, q3, q4, fun j hj => hrow j (by simpa [hl] using hj)⟩
    · obtain ⟨r1, r2, r3, r4, r5⟩ := h4 x (List.mem_of_getElem? hj)
      have hrn : x.row ≠ c.row := fun e => hne (h6 j i x c hj hc e)
      exact ⟨r1, Nat.lt_of_lt_of_le r2 hsz, r3, r4, fun j hj => ⟨kc hrn (r5 j hj).1, (World.frozen?_of_block (hk x.row r2 hrn)).trans (r5 j hj).2⟩⟩
  · intro a b x y hx hy e1 e2
    rcases set_get hc hx with ⟨rfl, rfl⟩ | ⟨_, hx'⟩ <;> rcases set_get hc hy with ⟨rfl, rfl⟩ | ⟨_, hy'⟩
    · rfl
    · exact h5 _ _ c y hc hy' e1 e2
    · exact h5 _ _ x c hx' hc e1 e2
    · exact h5 _ _ x y hx' hy' e1 e2
  · intro a b x y hx hy e1
    rcases set_get hc hx with ⟨rfl, rfl⟩ | ⟨_, hx'⟩ <;> rcases set_get hc hy with ⟨rfl, rfl⟩ | ⟨_, hy'⟩
    · rfl
    · exact h6 _ _ c y hc hy' e1
    · exact h6 _ _ x c hx' hc e1
    · exact h6 _ _ x y hx' hy' e1
theorem Whole.apart {w : World} {tb mb : Nat} {n m : Int} {cs : List Column} (h : Whole w tb mb n m cs) : tb ≠ mb := by
  rintro rfl
  obtain ⟨h0, _, _, h3, _⟩ := h
  simp [World.cell?, h3] at h0
/-- Fill of a column that is there. -/
theorem whole_fill {tb mb : Nat} {n m : Int} {cs : List Column} {w : World} (h : Whole w tb mb n m cs) {i : Nat} {c : Column} (hc : cs[i]? = some c) (x : Int) :
    Calls Try.prog 72 #[.pointer (some ⟨tb, 0, none⟩), ke c.name c.side, .int .i64 x] w fun e w' => (fit c.kind x = false ∧ e = .returned (.int .i64 3) ∧ Below w.heap.size w w') ∨ (fit c.kind x = true ∧ e = .returned (.int .i64 0) ∧ w.grownBy w' (some c.row) ∧ Whole w' tb mb n m (cs.set i { c with vals := List.replicate c.vals.length x })) := by
  have hl := h.look_some hc
  have hw := h
  obtain ⟨h0, h1, h2, h3, h4, h5, h6, h7⟩ := h
  obtain ⟨q1, q2, q3, q4, q5⟩ := h4 c (List.mem_of_getElem? hc)
  obtain ⟨p1, p2, p3, p4, p5, p6, p7, p8⟩ := q1
  refine (fill_some tb mb c.name c.side c.kind x c.row c.vals.length c.cap w h2 (Array.getElem?_eq_some_iff.1 h3).1 hl (by omega) q2 (fun j hj => ⟨_, (q5 j hj).1⟩) fun j hj => (q5 j hj).2).mono ?_
  rintro e w' (hf | ⟨hf, rfl, hg, hr⟩)
  · exact .inl hf
  · refine .inr ⟨hf, rfl, hg, hw.put hc _ (by simp) (by simp [hf]) hg.size (fun k hk hne => hg.block k hk (by simpa using hne)) fun j hj => ?_⟩
    have := hr j hj
    refine ⟨?_, this.2⟩
    rw [this.1]
    simp [List.getD_eq_getElem?_getD, hj]
/-- Load into a column that is there. -/
theorem whole_load {tb mb : Nat} {n m : Int} {cs : List Column} {w : World} (h : Whole w tb mb n m cs) {i : Nat} {c : Column} (hc : cs[i]? = some c) {lv : Value} {zs : List Int} (hz : zs.length ≤ 100000) (hv : Sees w lv zs) (hok : loadE c.kind c.vals.length zs = 0 → zs.length = c.vals.length ∧ zs.all (fit c.kind) = true) :
    Calls Try.prog 74 #[.pointer (some ⟨tb, 0, none⟩), ke c.name c.side, lv] w fun e w' => e = .returned (.int .i64 (loadE c.kind c.vals.length zs)) ∧ (loadE c.kind c.vals.length zs ≠ 0 → Below w.heap.size w w') ∧ (loadE c.kind c.vals.length zs = 0 → w.grownBy w' (some c.row) ∧ Whole w' tb mb n m (cs.set i { c with vals := zs })) := by
  have hl := h.look_some hc
  have hw := h
  obtain ⟨h0, h1, h2, h3, h4, h5, h6, h7⟩ := h
  obtain ⟨q1, q2, q3, q4, q5⟩ := h4 c (List.mem_of_getElem? hc)
  obtain ⟨p1, p2, p3, p4, p5, p6, p7, p8⟩ := q1
  refine (load_some tb mb c.name c.side c.kind c.row c.vals.length c.cap lv zs w h2 (Array.getElem?_eq_some_iff.1 h3).1 hl hz q2 (fun j hj => ⟨_, (q5 j hj).1⟩) (fun j hj => (q5 j hj).2) hv).mono ?_
  rintro e w' ⟨rfl, hA, hB⟩
  refine ⟨rfl, hA, fun he => ?_⟩
  obtain ⟨hg, hr⟩ := hB he
  exact ⟨hg, hw.put hc zs (hok he).1 (hok he).2 hg.size (fun k hk hne => hg.block k hk (by simpa using hne)) hr⟩
/-- Declare of a column that is none. -/
theorem whole_declare {tb mb : Nat} {n m : Int} {cs : List Column} {w : World} (h : Whole w tb mb n m cs) {s : ByteArray} {d q : Int} (hs : s.size ≤ maxLen) (hwd : Wf8 d) (hne : ∀ c ∈ cs, ¬ (c.name = s ∧ c.side = d)) (L : Nat) (hL : sideLen n m d = L) (hL30 : L ≤ 30) (hn : isName s = true) (hd : side d = true) (hq : kind q = true) (h24 : cs.length < 24) (hf0 : fit q 0 = true) :
    Calls Try.prog 43 #[.pointer (some ⟨tb, 0, none⟩), ke s d, .int .u8 q] w fun e w' => e = .returned (.int .i64 0) ∧ ∃ r, w.heap.size ≤ r ∧ r < w'.heap.size ∧ Below mb w w' ∧ (∀ k, k < w.heap.size → k ≠ mb → w'.heap[k]? = w.heap[k]?) ∧ Whole w' tb mb n m (cs ++ [⟨s, d, q, List.replicate L 0, r, L⟩]) := by
  have hap := h.apart
  obtain ⟨h0, h1, h2, h3, h4, h5, h6, h7⟩ := h
  have hmb := (Array.getElem?_eq_some_iff.1 h3).1
  have htb := World.block_lt_of_cell? w _ h0
  simp only at htb
  refine (declare_ok tb mb n m s d q _ _ w h0 h1 h2 h3 (ents_keyed fun c hc => (h4 c hc).1) hs hwd (fun e he hk => ?_) L hL hL30 hn hd hq (by simpa [ents_length] using h24)).mono ?_
  · obtain ⟨i, c, hc, rfl⟩ := ents_mem (by simpa using he)
    exact hne c (List.mem_of_getElem? hc) (ke_inj hk)
  · rintro e w' ⟨rfl, w3, r, hb3, hr, hrow', rfl⟩
    have hsz3 := hb3.size
    generalize hE : Obj.map ((ents 0 cs).toArray.push { key := ke s d, val := .agg #[.int .u8 q, .slice (some ⟨r, 0, none⟩) L L], born := cs.length }) (cs.length + 1) = ob
    have hm' : (setBlock w3 mb ob).heap[mb]? = some ob := sb_same (by omega)
    have hrs : r < (setBlock w3 mb ob).heap.size := by simpa [setBlock] using (Array.getElem?_eq_some_iff.1 hrow').1
    have hrow : ∀ j, j < L → (setBlock w3 mb ob).cell? ⟨r, j, none⟩ = some (.int .i64 0) ∧ (setBlock w3 mb ob).frozen? ⟨r, j, none⟩ = false := fun j hj => by
      have := cell_of_row hrow' hj
      refine ⟨(sb_cell (by omega)).trans this.1, ?_⟩
      rw [← this.2]; exact World.frozen?_of_block (by simp [setBlock, show mb ≠ r by omega])
    have hk : ∀ k, k < w.heap.size → k ≠ mb → (setBlock w3 mb ob).heap[k]? = w.heap[k]? := fun k hk hne => by
      rw [show (setBlock w3 mb ob).heap[k]? = w3.heap[k]? by simp [setBlock, Ne.symm hne]]
      exact hb3.block k hk
    have hB : Below mb w (setBlock w3 mb ob) := (hb3.mono (by omega)).trans ⟨rfl, rfl, rfl, by simp [setBlock], fun k hk => by simp [setBlock, show mb ≠ k by omega]⟩
    generalize setBlock w3 mb ob = w' at hm' hrs hrow hk hB ⊢
    subst hE
    have hsz := hB.size
    have kc : ∀ {b o : Nat} {v : Value}, b ≠ mb → w.cell? ⟨b, o, none⟩ = some v → w'.cell? ⟨b, o, none⟩ = some v := fun {b o v} hne hv => (World.cell?_of_block (hk b (World.block_lt_of_cell? w _ hv) hne)).trans hv
    have hsn : ∀ {j : Nat} {x : Column}, (cs ++ [(⟨s, d, q, List.replicate L 0, r, L⟩ : Column)])[j]? = some x → (cs[j]? = some x ∧ j < cs.length) ∨ (j = cs.length ∧ x = ⟨s, d, q, List.replicate L 0, r, L⟩) := fun {j x} hj => by
      by_cases hlt : j < cs.length
      · rw [List.getElem?_append_left hlt] at hj
        exact .inl ⟨hj, hlt⟩
      · rw [List.getElem?_append_right (by omega)] at hj
        have := (List.getElem?_eq_some_iff.1 hj).1
        simp only [List.length_cons, List.length_nil] at this
        have hj' : j = cs.length := by omega
        subst hj'
        exact .inr ⟨rfl, by simpa using hj.symm⟩
    refine ⟨rfl, r, hr, hrs, hB, hk, kc hap h0, kc hap h1, kc hap h2, ?_, ?_, ?_, ?_, by simp; omega⟩
    · rw [hm', ents_snoc]
      simp [Column.entry]
    · intro x hx
      rcases List.mem_append.1 hx with hx | hx
      · obtain ⟨r1, r2, r3, r4, r5⟩ := h4 x hx
        exact ⟨r1, Nat.lt_of_lt_of_le r2 hsz, r3, r4, fun j hj => ⟨kc r4 (r5 j hj).1, (World.frozen?_of_block (hk x.row r2 r4)).trans (r5 j hj).2⟩⟩
      · obtain rfl : x = _ := by simpa using hx
        refine ⟨⟨hn, hs, hwd, hd, hq, by simpa using hL.symm, by simpa using hL30, by simp [hf0]⟩, hrs, by simp only; omega, by simp only; omega, fun j hj => ?_⟩
        have hj' : j < L := by simpa using hj
        refine ⟨?_, (hrow j hj').2⟩
        rw [(hrow j hj').1]
        simp [List.getD_eq_getElem?_getD, hj']
    · intro a b x y hx hy e1 e2
      rcases hsn hx with ⟨hx, ha⟩ | ⟨ha, rfl⟩ <;> rcases hsn hy with ⟨hy, hb⟩ | ⟨hb, rfl⟩
      · exact h5 _ _ x y hx hy e1 e2
      · exact absurd ⟨e1, e2⟩ (hne x (List.mem_of_getElem? hx))
      · exact absurd ⟨e1.symm, e2.symm⟩ (hne y (List.mem_of_getElem? hy))
      · omega
    · intro a b x y hx hy e1
      rcases hsn hx with ⟨hx, ha⟩ | ⟨ha, rfl⟩ <;> rcases hsn hy with ⟨hy, hb⟩ | ⟨hb, rfl⟩
      · exact h6 _ _ x y hx hy e1
      · have := (h4 x (List.mem_of_getElem? hx)).2.1
        simp only at e1; omega
      · have := (h4 y (List.mem_of_getElem? hy)).2.1
        simp only at e1; omega
      · omega
/-- Set of one value of a column that is there. -/
theorem whole_set {tb mb : Nat} {n m : Int} {cs : List Column} {w : World} (h : Whole w tb mb n m cs) {i : Nat} {c : Column} (hc : cs[i]? = some c) (j : Nat) (hj : j < c.vals.length) (x : Int) (hx : fit c.kind x = true) :
    Calls Try.prog 22 #[.pointer (some ⟨tb, 0, none⟩), ke c.name c.side, .int .i64 (j : Int), .int .i64 x] w fun e w' => e = .returned (.int .i64 0) ∧ w.grownBy w' (some c.row) ∧ Whole w' tb mb n m (cs.set i { c with vals := c.vals.set j x }) := by
  have hl := h.look_some hc
  have hw := h
  obtain ⟨h0, h1, h2, h3, h4, h5, h6, h7⟩ := h
  obtain ⟨q1, q2, q3, q4, q5⟩ := h4 c (List.mem_of_getElem? hc)
  obtain ⟨p1, p2, p3, p4, p5, p6, p7, p8⟩ := q1
  refine (set_fit tb mb c.name c.side c.kind x _ c.row 0 c.vals.length c.cap j w h2 (Array.getElem?_eq_some_iff.1 h3).1 hl hj hx (by rw [Nat.zero_add]; exact (q5 j hj).1) (by rw [Nat.zero_add]; exact (q5 j hj).2)).mono ?_
  rintro e w' ⟨rfl, w1, hb, rfl⟩
  rw [Nat.zero_add]
  have hsz : (w1.setCell ⟨c.row, j, none⟩ (.int .i64 x)).heap.size = w1.heap.size := by simp
  have hbs := hb.size
  have hk : ∀ k, k < w.heap.size → k ≠ c.row → (w1.setCell ⟨c.row, j, none⟩ (.int .i64 x)).heap[k]? = w.heap[k]? := fun k hk hne => (Below.heap_setCell w1 ⟨c.row, j, none⟩ _ k hne).trans (hb.block k hk)
  refine ⟨rfl, ⟨hb.os, hb.tape, hb.output, by omega, fun k hk' hne => hk k hk' (by simpa using hne)⟩, hw.put hc _ (by simp) ?_ (by omega) hk fun t ht => ?_⟩
  · rw [List.all_eq_true] at p8 ⊢
    intro y hy
    rcases List.mem_or_eq_of_mem_set hy with hy | rfl
    · exact p8 y hy
    · exact hx
  · rw [World.frozen?_setCell]
    refine ⟨?_, (hb.frozen (p := ⟨c.row, t, none⟩) q2).trans (q5 t ht).2⟩
    by_cases e : j = t
    · subst e
      rw [show (c.vals.set j x).getD j 0 = x by simp [List.getD_eq_getElem?_getD, hj]]
      exact World.cell?_setCell_same _ _ _ ((hb.cell (p := ⟨c.row, j, none⟩) q2).trans (q5 j hj).1)
    · rw [show (c.vals.set j x).getD t 0 = c.vals.getD t 0 by simp [List.getD_eq_getElem?_getD, List.getElem?_set_ne e]]
      exact (World.cell?_setCell_other _ _ _ _ (by intro h; cases h; exact e rfl)).trans ((hb.cell (p := ⟨c.row, t, none⟩) q2).trans (q5 t ht).1)
end Go.Proofs.Ytbjoljokdjgbnab
/-
  Get and Set where the key is none's, or the place is none.
-/
namespace Go.Proofs.Ytbjoljokdjgbnab
open Go.RowKit Go.Deep Go.MapKept
theorem place_none (tb mb : Nat) (s : ByteArray) (d : Int) (i : Int) (w : World) (c2 : w.cell? ⟨tb, 2, none⟩ = some (.map (some mb))) (hm : mb < w.heap.size) (hk : Look w mb s d (.agg #[.int .u8 0, .slice none 0 0]) false) :
    Calls Try.prog 52 #[.pointer (some ⟨tb, 0, none⟩), ke s d, .int .i64 i] w fun e w' => e = .returned (.tuple #[.agg #[.int .u8 0, .slice none 0 0], .int .i64 5]) ∧ Below w.heap.size w w' := by
  have htb := World.block_lt_of_cell? w _ c2
  simp only at htb
  have C : Hid (∀ u, Below w.heap.size w u → Calls Try.prog 60 #[.pointer (some ⟨tb, 0, none⟩), ke s d] u fun e w' => e = .returned (.tuple #[.agg #[.int .u8 0, .slice none 0 0], .int .i64 5]) ∧ Below u.heap.size u w') :=
    hidI fun u hu => find_none tb mb s d u ((hu.cell (p := ⟨tb, 2, none⟩) htb).trans c2) (Nat.lt_of_lt_of_le hm hu.size) fun v hv => hk v (hv.trans (hu.block mb hm))
  clear hk c2
  go_enter Try.func52, Try.ntmps52
  go_wp2_with (go_at_call 60; refine Calls.mono (C.out _ (by (repeat (first | exact Below.refl _ _ | assumption | refine Below.drew ?_ | refine Below.alloc ?_ (by first | omega | (simp; done) | (simp; omega)) _ | refine Below.setCell ?_ (by first | omega | (simp; done) | (simp; omega)) _)))) ?_; rintro e w1 ⟨rfl, hb1⟩; refine Hid.out ?_)
  refine hidI ?_
  have hsz := hb1.size
  simp only [World.size_alloc] at hsz
  have Z : Below (w.heap.size + 2) ((w.alloc (.cells #[.string s, .int .u8 d] 40)).alloc (.cells #[.int .u8 0, .slice none 0 0] 97)) (w1.alloc (.cells #[.int .u8 0, .slice none 0 0] 97)) := (hb1.mono (by simp)).alloc (by omega) _

  have d0 : (w1.alloc (.cells #[.int .u8 0, .slice none 0 0] 97)).cell? ⟨w.heap.size + 1, 0, none⟩ = some (.int .u8 0) := by
    refine (Z.cell (p := ⟨w.heap.size + 1, 0, none⟩) (by simp)).trans ?_
    go_simp
  have d1 : (w1.alloc (.cells #[.int .u8 0, .slice none 0 0] 97)).cell? ⟨w.heap.size + 1, 1, none⟩ = some (.slice none 0 0) := by
    refine (Z.cell (p := ⟨w.heap.size + 1, 1, none⟩) (by simp)).trans ?_
    go_simp
  have f0 : (w1.alloc (.cells #[.int .u8 0, .slice none 0 0] 97)).frozen? ⟨w.heap.size + 1, 0, none⟩ = false := by
    refine (Z.frozen (p := ⟨w.heap.size + 1, 0, none⟩) (by simp)).trans ?_
    go_simp
  have f1 : (w1.alloc (.cells #[.int .u8 0, .slice none 0 0] 97)).frozen? ⟨w.heap.size + 1, 1, none⟩ = false := by
    refine (Z.frozen (p := ⟨w.heap.size + 1, 1, none⟩) (by simp)).trans ?_
    go_simp
  have bel : Below w.heap.size w w1 := Below.trans (by (repeat (first | exact Below.refl _ _ | assumption | refine Below.drew ?_ | refine Below.alloc ?_ (by first | omega | (simp; done) | (simp; omega)) _ | refine Below.setCell ?_ (by first | omega | (simp; done) | (simp; omega)) _))) (hb1.mono (by simp; omega))
  have HB := hidI bel
  clear hb1 C bel Z
  go_wp2
  (try simp only [Exit.inBlock, Exit.then])
  refine bodyPost_ret (v := .tuple #[.agg #[.int .u8 0, .slice none 0 0], .int .i64 5]) ?_ rfl ⟨rfl, ?_⟩
  · rw [results_cell_tmp rfl]
    go_simp
  · refine Below.setCell (Below.setCell (HB.out.alloc (by omega) _) ?_ _) ?_ _ <;> simp

theorem place_low (tb mb : Nat) (s : ByteArray) (d : Int) (k : Int) (a : Option Addr) (l c : Nat) (i : Int) (w : World) (c2 : w.cell? ⟨tb, 2, none⟩ = some (.map (some mb))) (hm : mb < w.heap.size) (hk : Look w mb s d (.agg #[.int .u8 k, .slice a l c]) true) (hi : i < 0) :
    Calls Try.prog 52 #[.pointer (some ⟨tb, 0, none⟩), ke s d, .int .i64 i] w fun e w' => e = .returned (.tuple #[.agg #[.int .u8 0, .slice none 0 0], .int .i64 2]) ∧ Below w.heap.size w w' := by
  have htb := World.block_lt_of_cell? w _ c2
  simp only at htb
  have C : Hid (∀ u, Below w.heap.size w u → Calls Try.prog 60 #[.pointer (some ⟨tb, 0, none⟩), ke s d] u fun e w' => e = .returned (.tuple #[.agg #[.int .u8 k, .slice a l c], .int .i64 0]) ∧ Below u.heap.size u w') :=
    hidI fun u hu => find_some tb mb s d k a l c u ((hu.cell (p := ⟨tb, 2, none⟩) htb).trans c2) (Nat.lt_of_lt_of_le hm hu.size) fun v hv => hk v (hv.trans (hu.block mb hm))
  clear hk c2
  go_enter Try.func52, Try.ntmps52
  go_wp2_with (go_at_call 60; refine Calls.mono (C.out _ (by (repeat (first | exact Below.refl _ _ | assumption | refine Below.drew ?_ | refine Below.alloc ?_ (by first | omega | (simp; done) | (simp; omega)) _ | refine Below.setCell ?_ (by first | omega | (simp; done) | (simp; omega)) _)))) ?_; rintro e w1 ⟨rfl, hb1⟩; refine Hid.out ?_)
  refine hidI ?_
  have hsz := hb1.size
  simp only [World.size_alloc] at hsz
  have Z : Below (w.heap.size + 2) ((w.alloc (.cells #[.string s, .int .u8 d] 40)).alloc (.cells #[.int .u8 0, .slice none 0 0] 97)) (w1.alloc (.cells #[.int .u8 k, .slice a l c] 97)) := (hb1.mono (by simp)).alloc (by omega) _

  have d0 : (w1.alloc (.cells #[.int .u8 k, .slice a l c] 97)).cell? ⟨w.heap.size + 1, 0, none⟩ = some (.int .u8 0) := by
    refine (Z.cell (p := ⟨w.heap.size + 1, 0, none⟩) (by simp)).trans ?_
    go_simp
  have d1 : (w1.alloc (.cells #[.int .u8 k, .slice a l c] 97)).cell? ⟨w.heap.size + 1, 1, none⟩ = some (.slice none 0 0) := by
    refine (Z.cell (p := ⟨w.heap.size + 1, 1, none⟩) (by simp)).trans ?_
    go_simp
  have f0 : (w1.alloc (.cells #[.int .u8 k, .slice a l c] 97)).frozen? ⟨w.heap.size + 1, 0, none⟩ = false := by
    refine (Z.frozen (p := ⟨w.heap.size + 1, 0, none⟩) (by simp)).trans ?_
    go_simp
  have f1 : (w1.alloc (.cells #[.int .u8 k, .slice a l c] 97)).frozen? ⟨w.heap.size + 1, 1, none⟩ = false := by
    refine (Z.frozen (p := ⟨w.heap.size + 1, 1, none⟩) (by simp)).trans ?_
    go_simp
  have bel : Below w.heap.size w w1 := Below.trans (by (repeat (first | exact Below.refl _ _ | assumption | refine Below.drew ?_ | refine Below.alloc ?_ (by first | omega | (simp; done) | (simp; omega)) _ | refine Below.setCell ?_ (by first | omega | (simp; done) | (simp; omega)) _))) (hb1.mono (by simp; omega))
  have HB := hidI bel
  clear hb1 C bel Z
  have k1 : decide (i < 0) = true := by simpa using hi
  go_wp2
  (try simp only [Exit.inBlock, Exit.then])
  refine bodyPost_ret (v := .tuple #[.agg #[.int .u8 0, .slice none 0 0], .int .i64 2]) ?_ rfl ⟨rfl, ?_⟩
  · rw [results_cell_tmp rfl]
    go_simp
  · refine Below.setCell (Below.setCell (HB.out.alloc (by omega) _) ?_ _) ?_ _ <;> simp

theorem place_high (tb mb : Nat) (s : ByteArray) (d : Int) (k : Int) (a : Option Addr) (l c : Nat) (i : Int) (w : World) (c2 : w.cell? ⟨tb, 2, none⟩ = some (.map (some mb))) (hm : mb < w.heap.size) (hk : Look w mb s d (.agg #[.int .u8 k, .slice a l c]) true) (h0 : 0 ≤ i) (hi : (l : Int) ≤ i) :
    Calls Try.prog 52 #[.pointer (some ⟨tb, 0, none⟩), ke s d, .int .i64 i] w fun e w' => e = .returned (.tuple #[.agg #[.int .u8 0, .slice none 0 0], .int .i64 2]) ∧ Below w.heap.size w w' := by
  have htb := World.block_lt_of_cell? w _ c2
  simp only at htb
  have C : Hid (∀ u, Below w.heap.size w u → Calls Try.prog 60 #[.pointer (some ⟨tb, 0, none⟩), ke s d] u fun e w' => e = .returned (.tuple #[.agg #[.int .u8 k, .slice a l c], .int .i64 0]) ∧ Below u.heap.size u w') :=
    hidI fun u hu => find_some tb mb s d k a l c u ((hu.cell (p := ⟨tb, 2, none⟩) htb).trans c2) (Nat.lt_of_lt_of_le hm hu.size) fun v hv => hk v (hv.trans (hu.block mb hm))
  clear hk c2
  go_enter Try.func52, Try.ntmps52
  go_wp2_with (go_at_call 60; refine Calls.mono (C.out _ (by (repeat (first | exact Below.refl _ _ | assumption | refine Below.drew ?_ | refine Below.alloc ?_ (by first | omega | (simp; done) | (simp; omega)) _ | refine Below.setCell ?_ (by first | omega | (simp; done) | (simp; omega)) _)))) ?_; rintro e w1 ⟨rfl, hb1⟩; refine Hid.out ?_)
  refine hidI ?_
  have hsz := hb1.size
  simp only [World.size_alloc] at hsz
  have Z : Below (w.heap.size + 2) ((w.alloc (.cells #[.string s, .int .u8 d] 40)).alloc (.cells #[.int .u8 0, .slice none 0 0] 97)) (w1.alloc (.cells #[.int .u8 k, .slice a l c] 97)) := (hb1.mono (by simp)).alloc (by omega) _

  have d0 : (w1.alloc (.cells #[.int .u8 k, .slice a l c] 97)).cell? ⟨w.heap.size + 1, 0, none⟩ = some (.int .u8 0) := by
    refine (Z.cell (p := ⟨w.heap.size + 1, 0, none⟩) (by simp)).trans ?_
    go_simp
  have d1 : (w1.alloc (.cells #[.int .u8 k, .slice a l c] 97)).cell? ⟨w.heap.size + 1, 1, none⟩ = some (.slice none 0 0) := by
    refine (Z.cell (p := ⟨w.heap.size + 1, 1, none⟩) (by simp)).trans ?_
    go_simp
  have f0 : (w1.alloc (.cells #[.int .u8 k, .slice a l c] 97)).frozen? ⟨w.heap.size + 1, 0, none⟩ = false := by
    refine (Z.frozen (p := ⟨w.heap.size + 1, 0, none⟩) (by simp)).trans ?_
    go_simp
  have f1 : (w1.alloc (.cells #[.int .u8 k, .slice a l c] 97)).frozen? ⟨w.heap.size + 1, 1, none⟩ = false := by
    refine (Z.frozen (p := ⟨w.heap.size + 1, 1, none⟩) (by simp)).trans ?_
    go_simp
  have bel : Below w.heap.size w w1 := Below.trans (by (repeat (first | exact Below.refl _ _ | assumption | refine Below.drew ?_ | refine Below.alloc ?_ (by first | omega | (simp; done) | (simp; omega)) _ | refine Below.setCell ?_ (by first | omega | (simp; done) | (simp; omega)) _))) (hb1.mono (by simp; omega))
  have HB := hidI bel
  clear hb1 C bel Z
  have k1 : decide (i < 0) = false := by simpa using h0
  have k2 : decide ((l : Int) ≤ i) = true := by simpa using hi
  go_wp2
  (try simp only [Exit.inBlock, Exit.then])
  refine bodyPost_ret (v := .tuple #[.agg #[.int .u8 0, .slice none 0 0], .int .i64 2]) ?_ rfl ⟨rfl, ?_⟩
  · rw [results_cell_tmp rfl]
    go_simp
  · refine Below.setCell (Below.setCell (HB.out.alloc (by omega) _) ?_ _) ?_ _ <;> simp

theorem get_err (tb : Nat) (s : ByteArray) (d i r : Int) (hr : r = 5 ∨ r = 2) (w : World) (hC : ∀ u, Below w.heap.size w u → Calls Try.prog 52 #[.pointer (some ⟨tb, 0, none⟩), ke s d, .int .i64 i] u fun e w' => e = .returned (.tuple #[.agg #[.int .u8 0, .slice none 0 0], .int .i64 r]) ∧ Below u.heap.size u w') :
    Calls Try.prog 23 #[.pointer (some ⟨tb, 0, none⟩), ke s d, .int .i64 i] w fun e w' => e = .returned (.tuple #[.int .i64 0, .int .i64 r]) ∧ Below w.heap.size w w' := by
  have C := hidI hC
  clear hC
  rcases hr with rfl | rfl
  all_goals
    go_enter Try.func23, Try.ntmps23
    go_wp2_with (go_at_call 52; refine Calls.mono (C.out _ (by (repeat (first | exact Below.refl _ _ | assumption | refine Below.drew ?_ | refine Below.alloc ?_ (by first | omega | (simp; done) | (simp; omega)) _ | refine Below.setCell ?_ (by first | omega | (simp; done) | (simp; omega)) _)))) ?_; rintro e w1 ⟨rfl, hb1⟩; refine Hid.out ?_)
    refine hidI ?_
    have hsz := hb1.size
    simp only [World.size_alloc] at hsz
    have HB : Hid (Below w.heap.size w w1) := hidI (Below.trans (by (repeat (first | exact Below.refl _ _ | assumption | refine Below.drew ?_ | refine Below.alloc ?_ (by first | omega | (simp; done) | (simp; omega)) _ | refine Below.setCell ?_ (by first | omega | (simp; done) | (simp; omega)) _))) (hb1.mono (by simp)))
    clear hb1 C
    go_wp2
    go_ret2
    exact ⟨rfl, by have := HB.out; (repeat (first | exact Below.refl _ _ | assumption | refine Below.drew ?_ | refine Below.alloc ?_ (by first | omega | (simp; done) | (simp; omega)) _ | refine Below.setCell ?_ (by first | omega | (simp; done) | (simp; omega)) _))⟩

theorem set_err (tb : Nat) (s : ByteArray) (d i r : Int) (x : Int) (hr : r = 5 ∨ r = 2) (w : World) (hC : ∀ u, Below w.heap.size w u → Calls Try.prog 52 #[.pointer (some ⟨tb, 0, none⟩), ke s d, .int .i64 i] u fun e w' => e = .returned (.tuple #[.agg #[.int .u8 0, .slice none 0 0], .int .i64 r]) ∧ Below u.heap.size u w') :
    Calls Try.prog 22 #[.pointer (some ⟨tb, 0, none⟩), ke s d, .int .i64 i, .int .i64 x] w fun e w' => e = .returned (.int .i64 r) ∧ Below w.heap.size w w' := by
  have C := hidI hC
  clear hC
  rcases hr with rfl | rfl
  all_goals
    go_enter Try.func22, Try.ntmps22
    go_wp2_with (go_at_call 52; refine Calls.mono (C.out _ (by (repeat (first | exact Below.refl _ _ | assumption | refine Below.drew ?_ | refine Below.alloc ?_ (by first | omega | (simp; done) | (simp; omega)) _ | refine Below.setCell ?_ (by first | omega | (simp; done) | (simp; omega)) _)))) ?_; rintro e w1 ⟨rfl, hb1⟩; refine Hid.out ?_)
    refine hidI ?_
    have hsz := hb1.size
    simp only [World.size_alloc] at hsz
    have HB : Hid (Below w.heap.size w w1) := hidI (Below.trans (by (repeat (first | exact Below.refl _ _ | assumption | refine Below.drew ?_ | refine Below.alloc ?_ (by first | omega | (simp; done) | (simp; omega)) _ | refine Below.setCell ?_ (by first | omega | (simp; done) | (simp; omega)) _))) (hb1.mono (by simp)))
    clear hb1 C
    go_wp2
    go_ret
    exact ⟨rfl, by have := HB.out; (repeat (first | exact Below.refl _ _ | assumption | refine Below.drew ?_ | refine Below.alloc ?_ (by first | omega | (simp; done) | (simp; omega)) _ | refine Below.setCell ?_ (by first | omega | (simp; done) | (simp; omega)) _))⟩

end Go.Proofs.Ytbjoljokdjgbnab
/-
  What a whole table tells: KindOf, Get, List, Set at any key and place.
-/
namespace Go.Proofs.Ytbjoljokdjgbnab
open Go.RowKit Go.MapKept
def Column.at (s : ByteArray) (d : Int) (c : Column) : Bool := decide (c.name = s) && decide (c.side = d)
/-- A key's column, and its number. -/
theorem col_cases (cs : List Column) (s : ByteArray) (d : Int) : (∃ (i : Nat) (c : Column), cs[i]? = some c ∧ c.name = s ∧ c.side = d ∧ cs.find? (Column.at s d) = some c) ∨ ((∀ c ∈ cs, ¬ (c.name = s ∧ c.side = d)) ∧ cs.find? (Column.at s d) = none) := by
  cases h : cs.find? (Column.at s d) with
  | none =>
    refine .inr ⟨fun c hc he => ?_, rfl⟩
    have := List.find?_eq_none.1 h c hc
    simp [Column.at, he.1, he.2] at this
  | some c =>
    have h1 := List.find?_some h
    have h2 := List.mem_of_find?_eq_some h
    simp only [Column.at, Bool.and_eq_true, decide_eq_true_eq] at h1
    obtain ⟨i, hi⟩ := List.getElem?_of_mem h2
    exact .inl ⟨i, c, hi, h1.1, h1.2, rfl⟩
def kindE (cs : List Column) (s : ByteArray) (d : Int) : Int := match cs.find? (Column.at s d) with | none => 0 | some c => c.kind
theorem whole_kind {tb mb : Nat} {n m : Int} {cs : List Column} {w : World} (h : Whole w tb mb n m cs) {s : ByteArray} {d : Int} (hs : s.size ≤ maxLen) (hd : Wf8 d) :
    Calls Try.prog 28 #[.pointer (some ⟨tb, 0, none⟩), ke s d] w fun e w' => e = .returned (.int .u8 (kindE cs s d)) ∧ Below w.heap.size w w' := by
  have hmb := (Array.getElem?_eq_some_iff.1 h.2.2.2.1).1
  rcases col_cases cs s d with ⟨i, c, hc, rfl, rfl, hf⟩ | ⟨hno, hf⟩
  · simp only [kindE, hf]
    exact kindOf_some tb mb _ _ c.kind _ _ _ w h.2.2.1 hmb (h.look_some hc)
  · simp only [kindE, hf]
    exact kindOf_none tb mb _ _ w h.2.2.1 hmb (h.look_none hs hd hno)
def getE (cs : List Column) (s : ByteArray) (d i : Int) : Int × Int := match cs.find? (Column.at s d) with | none => (0, 5) | some c => if 0 ≤ i ∧ i < (c.vals.length : Int) then (c.vals.getD i.toNat 0, 0) else (0, 2)
theorem whole_get {tb mb : Nat} {n m : Int} {cs : List Column} {w : World} (h : Whole w tb mb n m cs) {s : ByteArray} {d : Int} (hs : s.size ≤ maxLen) (hd : Wf8 d) (i : Int) :
    Calls Try.prog 23 #[.pointer (some ⟨tb, 0, none⟩), ke s d, .int .i64 i] w fun e w' => e = .returned (.tuple #[.int .i64 (getE cs s d i).1, .int .i64 (getE cs s d i).2]) ∧ Below w.heap.size w w' := by
  have hmb := (Array.getElem?_eq_some_iff.1 h.2.2.2.1).1
  rcases col_cases cs s d with ⟨k, c, hc, rfl, rfl, hf⟩ | ⟨hno, hf⟩
  · simp only [getE, hf]
    by_cases h0 : 0 ≤ i
    · by_cases h1 : i < (c.vals.length : Int)
      · obtain ⟨j, rfl⟩ : ∃ j : Nat, i = (j : Int) := ⟨i.toNat, by omega⟩
        rw [if_pos ⟨h0, h1⟩]
        have q := (h.2.2.2.2.1 c (List.mem_of_getElem? hc)).2.2.2.2 j (by omega)
        exact get_some tb mb _ _ c.kind c.row 0 _ _ j _ w h.2.2.1 hmb (h.look_some hc) (by omega) (by rw [Nat.zero_add]; simpa using q.1)
      · rw [if_neg (by omega)]
        exact get_err tb _ _ i 2 (.inr rfl) w fun u hu => by
          have hU := h.below hu (Nat.le_refl _)
          exact place_high tb mb _ _ c.kind _ _ _ i u hU.2.2.1 (Array.getElem?_eq_some_iff.1 hU.2.2.2.1).1 (hU.look_some hc) h0 (by omega)
    · rw [if_neg (by omega)]
      exact get_err tb _ _ i 2 (.inr rfl) w fun u hu => by
        have hU := h.below hu (Nat.le_refl _)
        exact place_low tb mb _ _ c.kind _ _ _ i u hU.2.2.1 (Array.getElem?_eq_some_iff.1 hU.2.2.2.1).1 (hU.look_some hc) (by omega)
  · simp only [getE, hf]
    exact get_err tb _ _ i 5 (.inl rfl) w fun u hu => by
      have hU := h.below hu (Nat.le_refl _)
      exact place_none tb mb _ _ i u hU.2.2.1 (Array.getElem?_eq_some_iff.1 hU.2.2.2.1).1 (hU.look_none hs hd hno)
def setE (cs : List Column) (s : ByteArray) (d i x : Int) : Int := match cs.find? (Column.at s d) with | none => 5 | some c => if 0 ≤ i ∧ i < (c.vals.length : Int) then (if fit c.kind x then 0 else 3) else 2
/-- The columns behind a Set that is none's fault. -/
def setC (cs : List Column) (s : ByteArray) (d i x : Int) : List Column := cs.map fun c => if c.at s d then { c with vals := c.vals.set i.toNat x } else c
theorem set_map {cs : List Column} (hap : apartK cs) {i : Nat} {c : Column} (hc : cs[i]? = some c) (f : Column → Column) : (cs.map fun x => if x.at c.name c.side then f x else x) = cs.set i (f c) := by
  apply List.ext_getElem?
  intro j
  rw [List.getElem?_map]
  by_cases hj : i = j
  · subst hj
    rw [List.getElem?_set_self (List.getElem?_eq_some_iff.1 hc).1, hc]
    simp [Column.at]
  · rw [List.getElem?_set_ne hj]
    cases hx : cs[j]? with
    | none => rfl
    | some x =>
      have : ¬ (x.name = c.name ∧ x.side = c.side) := fun e => hj (hap i j c x hc hx e.1.symm e.2.symm)
      have hat : x.at c.name c.side = false := by
        cases hq : x.at c.name c.side with
        | false => rfl
        | true => simp only [Column.at, Bool.and_eq_true, decide_eq_true_eq] at hq; exact absurd hq this
      simp [hat]
theorem whole_put {tb mb : Nat} {n m : Int} {cs : List Column} {w : World} (h : Whole w tb mb n m cs) {s : ByteArray} {d : Int} (hs : s.size ≤ maxLen) (hd : Wf8 d) (i x : Int) :
    Calls Try.prog 22 #[.pointer (some ⟨tb, 0, none⟩), ke s d, .int .i64 i, .int .i64 x] w fun e w' => e = .returned (.int .i64 (setE cs s d i x)) ∧ (setE cs s d i x ≠ 0 → Below w.heap.size w w') ∧ (setE cs s d i x = 0 → ∃ c ∈ cs, c.name = s ∧ c.side = d ∧ w.grownBy w' (some c.row) ∧ Whole w' tb mb n m (setC cs s d i x)) := by
  have hmb := (Array.getElem?_eq_some_iff.1 h.2.2.2.1).1
  rcases col_cases cs s d with ⟨k, c, hc, rfl, rfl, hf⟩ | ⟨hno, hf⟩
  · simp only [setE, hf]
    by_cases h0 : 0 ≤ i
    · by_cases h1 : i < (c.vals.length : Int)
      · obtain ⟨j, rfl⟩ : ∃ j : Nat, i = (j : Int) := ⟨i.toNat, by omega⟩
        rw [if_pos ⟨h0, h1⟩]
        cases hx : fit c.kind x with
        | true =>
          refine (whole_set h hc j (by omega) x hx).mono ?_
          rintro e w' ⟨rfl, hg, hW⟩
          refine ⟨rfl, fun hn => absurd rfl hn, fun _ => ⟨c, List.mem_of_getElem? hc, rfl, rfl, hg, ?_⟩⟩
          rw [setC, set_map h.2.2.2.2.2.1 hc fun c => { c with vals := c.vals.set (j : Int).toNat x }]
          exact hW
        | false =>
          refine (set_unfit tb mb _ _ c.kind x c.row 0 _ _ j w h.2.2.1 hmb (h.look_some hc) (by omega) hx).mono ?_
          rintro e w' ⟨rfl, hb⟩
          exact ⟨rfl, fun _ => hb, fun hn => absurd hn (by decide)⟩
      · rw [if_neg (by omega)]
        refine Calls.mono (set_err tb _ _ i 2 x (.inr rfl) w fun u hu => by
          have hU := h.below hu (Nat.le_refl _)
          exact place_high tb mb _ _ c.kind _ _ _ i u hU.2.2.1 (Array.getElem?_eq_some_iff.1 hU.2.2.2.1).1 (hU.look_some hc) h0 (by omega)) ?_
        rintro e w' ⟨rfl, hb⟩
        exact ⟨rfl, fun _ => hb, fun hn => absurd hn (by decide)⟩
    · rw [if_neg (by omega)]
      refine Calls.mono (set_err tb _ _ i 2 x (.inr rfl) w fun u hu => by
        have hU := h.below hu (Nat.le_refl _)
        exact place_low tb mb _ _ c.kind _ _ _ i u hU.2.2.1 (Array.getElem?_eq_some_iff.1 hU.2.2.2.1).1 (hU.look_some hc) (by omega)) ?_
      rintro e w' ⟨rfl, hb⟩
      exact ⟨rfl, fun _ => hb, fun hn => absurd hn (by decide)⟩
  · simp only [setE, hf]
    refine Calls.mono (set_err tb _ _ i 5 x (.inl rfl) w fun u hu => by
      have hU := h.below hu (Nat.le_refl _)
      exact place_none tb mb _ _ i u hU.2.2.1 (Array.getElem?_eq_some_iff.1 hU.2.2.2.1).1 (hU.look_none hs hd hno)) ?_
    rintro e w' ⟨rfl, hb⟩
    exact ⟨rfl, fun _ => hb, fun hn => absurd hn (by decide)⟩
end Go.Proofs.Ytbjoljokdjgbnab
/-
  Declare where it may not.
-/
namespace Go.Proofs.Ytbjoljokdjgbnab
open Go.RowKit Go.Deep Go.MapKept
set_option maxRecDepth 100000 in
theorem declare_name (tb : Nat) (s : ByteArray) (d q : Int) (w : World) (hn : isName s = false) :
    Calls Try.prog 43 #[.pointer (some ⟨tb, 0, none⟩), ke s d, .int .u8 q] w fun e w' => e = .returned (.int .i64 3) ∧ Below w.heap.size w w' := by
  have CN : Hid (∀ u, Calls Try.prog 77 #[.string s] u fun e w' => e = .returned (.bool false) ∧ Below u.heap.size u w') := hidI fun u => hn ▸ name_any s u
  go_enter Try.func43, Try.ntmps43
  go_wp2_with (go_at_call 77; refine Calls.mono (CN.out _) ?_; rintro e w1 ⟨rfl, hb1⟩; refine Hid.out ?_)
  refine hidI ?_
  have B1 : Hid (Below w.heap.size w w1) := hidI (Below.trans (by (repeat (first | exact Below.refl _ _ | assumption | refine Below.drew ?_ | refine Below.alloc ?_ (by first | omega | (simp; done) | (simp; omega)) _ | refine Below.setCell ?_ (by first | omega | (simp; done) | (simp; omega)) _))) (hb1.mono (by simp)))
  clear hb1 CN
  go_wp2
  go_ret
  exact ⟨rfl, by have := B1.out; (repeat (first | exact Below.refl _ _ | assumption | refine Below.drew ?_ | refine Below.alloc ?_ (by first | omega | (simp; done) | (simp; omega)) _ | refine Below.setCell ?_ (by first | omega | (simp; done) | (simp; omega)) _))⟩
set_option maxRecDepth 100000 in
theorem declare_side (tb : Nat) (s : ByteArray) (d q : Int) (w : World) (hn : isName s = true) (hd : side d = false) :
    Calls Try.prog 43 #[.pointer (some ⟨tb, 0, none⟩), ke s d, .int .u8 q] w fun e w' => e = .returned (.int .i64 2) ∧ Below w.heap.size w w' := by
  have CN : Hid (∀ u, Calls Try.prog 77 #[.string s] u fun e w' => e = .returned (.bool true) ∧ Below u.heap.size u w') := hidI fun u => hn ▸ name_any s u
  have CS : Hid (∀ u, Calls Try.prog 78 #[.int .u8 d] u fun e w' => e = .returned (.bool false) ∧ u = w') := hidI fun u => hd ▸ side_any d u
  go_enter Try.func43, Try.ntmps43
  go_wp2_with (go_at_call 77; refine Calls.mono (CN.out _) ?_; rintro e w1 ⟨rfl, hb1⟩; refine Hid.out ?_)
  refine hidI ?_
  have B1 : Hid (Below w.heap.size w w1) := hidI (Below.trans (by (repeat (first | exact Below.refl _ _ | assumption | refine Below.drew ?_ | refine Below.alloc ?_ (by first | omega | (simp; done) | (simp; omega)) _ | refine Below.setCell ?_ (by first | omega | (simp; done) | (simp; omega)) _))) (hb1.mono (by simp)))
  have g0 : w1.cell? ⟨w.heap.size, 0, none⟩ = some (.string s) := by
    refine (hb1.cell (p := ⟨w.heap.size, 0, none⟩) (by simp)).trans ?_
    go_simp
  have g1 : w1.cell? ⟨w.heap.size, 1, none⟩ = some (.int .u8 d) := by
    refine (hb1.cell (p := ⟨w.heap.size, 1, none⟩) (by simp)).trans ?_
    go_simp
  have hsz := hb1.size
  simp only [World.size_alloc] at hsz
  clear hb1 CN
  go_wp2_with (go_at_call 78; refine Calls.mono (CS.out _) ?_; rintro e w' ⟨rfl, rfl⟩)
  go_ret
  exact ⟨rfl, by have := B1.out; (repeat (first | exact Below.refl _ _ | assumption | refine Below.drew ?_ | refine Below.alloc ?_ (by first | omega | (simp; done) | (simp; omega)) _ | refine Below.setCell ?_ (by first | omega | (simp; done) | (simp; omega)) _))⟩
set_option maxRecDepth 100000 in
theorem declare_kind (tb : Nat) (s : ByteArray) (d q : Int) (w : World) (hn : isName s = true) (hd : side d = true) (hq : kind q = false) :
    Calls Try.prog 43 #[.pointer (some ⟨tb, 0, none⟩), ke s d, .int .u8 q] w fun e w' => e = .returned (.int .i64 2) ∧ Below w.heap.size w w' := by
  have CN : Hid (∀ u, Calls Try.prog 77 #[.string s] u fun e w' => e = .returned (.bool true) ∧ Below u.heap.size u w') := hidI fun u => hn ▸ name_any s u
  have CS : Hid (∀ u, Calls Try.prog 78 #[.int .u8 d] u fun e w' => e = .returned (.bool true) ∧ u = w') := hidI fun u => hd ▸ side_any d u
  have CQ : Hid (∀ u, Calls Try.prog 79 #[.int .u8 q] u fun e w' => e = .returned (.bool false) ∧ u = w') := hidI fun u => hq ▸ kind_any q u
  go_enter Try.func43, Try.ntmps43
  go_wp2_with (go_at_call 77; refine Calls.mono (CN.out _) ?_; rintro e w1 ⟨rfl, hb1⟩; refine Hid.out ?_)
  refine hidI ?_
  have B1 : Hid (Below w.heap.size w w1) := hidI (Below.trans (by (repeat (first | exact Below.refl _ _ | assumption | refine Below.drew ?_ | refine Below.alloc ?_ (by first | omega | (simp; done) | (simp; omega)) _ | refine Below.setCell ?_ (by first | omega | (simp; done) | (simp; omega)) _))) (hb1.mono (by simp)))
  have g0 : w1.cell? ⟨w.heap.size, 0, none⟩ = some (.string s) := by
    refine (hb1.cell (p := ⟨w.heap.size, 0, none⟩) (by simp)).trans ?_
    go_simp
  have g1 : w1.cell? ⟨w.heap.size, 1, none⟩ = some (.int .u8 d) := by
    refine (hb1.cell (p := ⟨w.heap.size, 1, none⟩) (by simp)).trans ?_
    go_simp
  have hsz := hb1.size
  simp only [World.size_alloc] at hsz
  clear hb1 CN
  go_wp2_with (first | (go_at_call 78; refine Calls.mono (CS.out _) ?_; rintro e w' ⟨rfl, rfl⟩) | (go_at_call 79; refine Calls.mono (CQ.out _) ?_; rintro e w' ⟨rfl, rfl⟩))
  go_ret
  exact ⟨rfl, by have := B1.out; (repeat (first | exact Below.refl _ _ | assumption | refine Below.drew ?_ | refine Below.alloc ?_ (by first | omega | (simp; done) | (simp; omega)) _ | refine Below.setCell ?_ (by first | omega | (simp; done) | (simp; omega)) _))⟩
set_option maxRecDepth 100000 in
theorem declare_twice (tb : Nat) (s : ByteArray) (d q : Int) (w : World) (k : Int) (hkk : kind k = true) (hn : isName s = true) (hd : side d = true) (hq : kind q = true) (hC : ∀ u, Below w.heap.size w u → Calls Try.prog 28 #[.pointer (some ⟨tb, 0, none⟩), ke s d] u fun e w' => e = .returned (.int .u8 k) ∧ Below u.heap.size u w') :
    Calls Try.prog 43 #[.pointer (some ⟨tb, 0, none⟩), ke s d, .int .u8 q] w fun e w' => e = .returned (.int .i64 6) ∧ Below w.heap.size w w' := by
  have CN : Hid (∀ u, Calls Try.prog 77 #[.string s] u fun e w' => e = .returned (.bool true) ∧ Below u.heap.size u w') := hidI fun u => hn ▸ name_any s u
  have CS : Hid (∀ u, Calls Try.prog 78 #[.int .u8 d] u fun e w' => e = .returned (.bool true) ∧ u = w') := hidI fun u => hd ▸ side_any d u
  have CQ : Hid (∀ u, Calls Try.prog 79 #[.int .u8 q] u fun e w' => e = .returned (.bool true) ∧ u = w') := hidI fun u => hq ▸ kind_any q u
  have CK := hidI hC
  clear hC
  have k1 : (k != 0) = true := by
    simp only [kind, Bool.or_eq_true, decide_eq_true_eq] at hkk
    simp; omega
  go_enter Try.func43, Try.ntmps43
  go_wp2_with (go_at_call 77; refine Calls.mono (CN.out _) ?_; rintro e w1 ⟨rfl, hb1⟩; refine Hid.out ?_)
  refine hidI ?_
  have B1 : Hid (Below w.heap.size w w1) := hidI (Below.trans (by (repeat (first | exact Below.refl _ _ | assumption | refine Below.drew ?_ | refine Below.alloc ?_ (by first | omega | (simp; done) | (simp; omega)) _ | refine Below.setCell ?_ (by first | omega | (simp; done) | (simp; omega)) _))) (hb1.mono (by simp)))
  have g0 : w1.cell? ⟨w.heap.size, 0, none⟩ = some (.string s) := by
    refine (hb1.cell (p := ⟨w.heap.size, 0, none⟩) (by simp)).trans ?_
    go_simp
  have g1 : w1.cell? ⟨w.heap.size, 1, none⟩ = some (.int .u8 d) := by
    refine (hb1.cell (p := ⟨w.heap.size, 1, none⟩) (by simp)).trans ?_
    go_simp
  have hsz := hb1.size
  simp only [World.size_alloc] at hsz
  clear hb1 CN
  go_wp2_with (first | (go_at_call 78; refine Calls.mono (CS.out _) ?_; rintro e w' ⟨rfl, rfl⟩) | (go_at_call 79; refine Calls.mono (CQ.out _) ?_; rintro e w' ⟨rfl, rfl⟩) | (go_at_call 28; refine Calls.mono (CK.out _ B1.out) ?_; rintro e w2 ⟨rfl, hb2⟩; refine Hid.out ?_))
  refine hidI ?_
  have B2 : Hid (Below w.heap.size w w2) := hidI (B1.out.trans (hb2.mono B1.out.size))
  have hsz2 := hb2.size
  clear hb2 CK CS CQ g0 g1 B1
  go_wp2
  go_ret
  exact ⟨rfl, by have := B2.out; (repeat (first | exact Below.refl _ _ | assumption | refine Below.drew ?_ | refine Below.alloc ?_ (by first | omega | (simp; done) | (simp; omega)) _ | refine Below.setCell ?_ (by first | omega | (simp; done) | (simp; omega)) _))⟩
set_option maxRecDepth 100000 in
theorem declare_full (tb : Nat) (s : ByteArray) (d q : Int) (w : World) (mb : Nat) (es : Array MapEntry) (clock : Nat) (c2 : w.cell? ⟨tb, 2, none⟩ = some (.map (some mb))) (hb : w.heap[mb]? = some (.map es clock)) (hn : isName s = true) (hd : side d = true) (hq : kind q = true) (h24 : 24 ≤ es.size) (hC : ∀ u, Below w.heap.size w u → Calls Try.prog 28 #[.pointer (some ⟨tb, 0, none⟩), ke s d] u fun e w' => e = .returned (.int .u8 0) ∧ Below u.heap.size u w') :
    Calls Try.prog 43 #[.pointer (some ⟨tb, 0, none⟩), ke s d, .int .u8 q] w fun e w' => e = .returned (.int .i64 4) ∧ Below w.heap.size w w' := by
  have htb := World.block_lt_of_cell? w _ c2
  simp only at htb
  have hm : mb < w.heap.size := (Array.getElem?_eq_some_iff.1 hb).1
  have CN : Hid (∀ u, Calls Try.prog 77 #[.string s] u fun e w' => e = .returned (.bool true) ∧ Below u.heap.size u w') := hidI fun u => hn ▸ name_any s u
  have CS : Hid (∀ u, Calls Try.prog 78 #[.int .u8 d] u fun e w' => e = .returned (.bool true) ∧ u = w') := hidI fun u => hd ▸ side_any d u
  have CQ : Hid (∀ u, Calls Try.prog 79 #[.int .u8 q] u fun e w' => e = .returned (.bool true) ∧ u = w') := hidI fun u => hq ▸ kind_any q u
  have CK := hidI hC
  clear hC
  go_enter Try.func43, Try.ntmps43
  go_wp2_with (go_at_call 77; refine Calls.mono (CN.out _) ?_; rintro e w1 ⟨rfl, hb1⟩; refine Hid.out ?_)
  refine hidI ?_
  have B1 : Hid (Below w.heap.size w w1) := hidI (Below.trans (by (repeat (first | exact Below.refl _ _ | assumption | refine Below.drew ?_ | refine Below.alloc ?_ (by first | omega | (simp; done) | (simp; omega)) _ | refine Below.setCell ?_ (by first | omega | (simp; done) | (simp; omega)) _))) (hb1.mono (by simp)))
  have g0 : w1.cell? ⟨w.heap.size, 0, none⟩ = some (.string s) := by
    refine (hb1.cell (p := ⟨w.heap.size, 0, none⟩) (by simp)).trans ?_
    go_simp
  have g1 : w1.cell? ⟨w.heap.size, 1, none⟩ = some (.int .u8 d) := by
    refine (hb1.cell (p := ⟨w.heap.size, 1, none⟩) (by simp)).trans ?_
    go_simp
  have hsz := hb1.size
  simp only [World.size_alloc] at hsz
  clear hb1 CN
  go_wp2_with (first | (go_at_call 78; refine Calls.mono (CS.out _) ?_; rintro e w' ⟨rfl, rfl⟩) | (go_at_call 79; refine Calls.mono (CQ.out _) ?_; rintro e w' ⟨rfl, rfl⟩) | (go_at_call 28; refine Calls.mono (CK.out _ B1.out) ?_; rintro e w2 ⟨rfl, hb2⟩; refine Hid.out ?_))
  refine hidI ?_
  have B2 : Hid (Below w.heap.size w w2) := hidI (B1.out.trans (hb2.mono B1.out.size))
  have hsz2 := hb2.size
  clear hb2 CK CS CQ g0 g1 B1
  have m2 := (B2.out.cell (p := ⟨tb, 2, none⟩) htb).trans c2
  have ql : (Builtin.len_ #[93] 3 #[.map (some mb)]).run Try.prog w2 = .ok (.int .i64 (es.size : Int)) w2 := run_len_map w2 93 3 mb es clock Try.underlying93 ((B2.out.block mb hm).trans hb)
  have k1 : decide ((24 : Int) ≤ (es.size : Int)) = true := by simp; omega
  go_wp2
  go_ret
  exact ⟨rfl, by have := B2.out; (repeat (first | exact Below.refl _ _ | assumption | refine Below.drew ?_ | refine Below.alloc ?_ (by first | omega | (simp; done) | (simp; omega)) _ | refine Below.setCell ?_ (by first | omega | (simp; done) | (simp; omega)) _))⟩
end Go.Proofs.Ytbjoljokdjgbnab
/-
  Declare, Fill, Load and List of a whole table, at any key.
-/
namespace Go.Proofs.Ytbjoljokdjgbnab
open Go.RowKit Go.MapKept
def declE (cs : List Column) (s : ByteArray) (d q : Int) : Int :=
  if isName s then (if side d && kind q then (match cs.find? (Column.at s d) with | some _ => 6 | none => if cs.length < 24 then 0 else 4) else 2) else 3
theorem whole_decl {tb mb : Nat} {n m : Int} {cs : List Column} {w : World} (h : Whole w tb mb n m cs) (s : ByteArray) (d q : Int) (hs : s.size ≤ maxLen) (hwd : Wf8 d) (L : Nat) (hL : sideLen n m d = L) (hL30 : L ≤ 30) :
    Calls Try.prog 43 #[.pointer (some ⟨tb, 0, none⟩), ke s d, .int .u8 q] w fun e w' => e = .returned (.int .i64 (declE cs s d q)) ∧ (declE cs s d q ≠ 0 → Below w.heap.size w w') ∧ (declE cs s d q = 0 → ∃ r, w.heap.size ≤ r ∧ r < w'.heap.size ∧ Below mb w w' ∧ (∀ k, k < w.heap.size → k ≠ mb → w'.heap[k]? = w.heap[k]?) ∧ Whole w' tb mb n m (cs ++ [⟨s, d, q, List.replicate L 0, r, L⟩])) := by
  have hmb := (Array.getElem?_eq_some_iff.1 h.2.2.2.1).1
  have fail : ∀ {v : Int}, declE cs s d q = v → v ≠ 0 → Calls Try.prog 43 #[.pointer (some ⟨tb, 0, none⟩), ke s d, .int .u8 q] w (fun e w' => e = .returned (.int .i64 v) ∧ Below w.heap.size w w') → Calls Try.prog 43 #[.pointer (some ⟨tb, 0, none⟩), ke s d, .int .u8 q] w fun e w' => e = .returned (.int .i64 (declE cs s d q)) ∧ (declE cs s d q ≠ 0 → Below w.heap.size w w') ∧ (declE cs s d q = 0 → ∃ r, w.heap.size ≤ r ∧ r < w'.heap.size ∧ Below mb w w' ∧ (∀ k, k < w.heap.size → k ≠ mb → w'.heap[k]? = w.heap[k]?) ∧ Whole w' tb mb n m (cs ++ [⟨s, d, q, List.replicate L 0, r, L⟩])) := by
    intro v hv h0 hc
    rw [hv]
    refine hc.mono ?_
    rintro e w' ⟨rfl, hb⟩
    exact ⟨rfl, fun _ => hb, fun hx => absurd hx h0⟩
  cases hn : isName s with
  | false => exact fail (v := 3) (by simp [declE, hn]) (by decide) (declare_name tb s d q w hn)
  | true =>
    cases hd : side d with
    | false => exact fail (v := 2) (by simp [declE, hn, hd]) (by decide) (declare_side tb s d q w hn hd)
    | true =>
      cases hq : kind q with
      | false => exact fail (v := 2) (by simp [declE, hn, hd, hq]) (by decide) (declare_kind tb s d q w hn hd hq)
      | true =>
        rcases col_cases cs s d with ⟨k, c, hc, e1, e2, hf⟩ | ⟨hno, hf⟩
        · have hkk : kind c.kind = true := (h.2.2.2.2.1 c (List.mem_of_getElem? hc)).1.2.2.2.2.1
          refine fail (v := 6) (by simp [declE, hn, hd, hq, hf]) (by decide) (declare_twice tb s d q w c.kind hkk hn hd hq fun u hu => ?_)
          have := whole_kind (h.below hu (Nat.le_refl _)) hs hwd (s := s) (d := d)
          rwa [show kindE cs s d = c.kind by simp only [kindE, hf]] at this
        · by_cases h24 : cs.length < 24
          · have hE : declE cs s d q = 0 := by simp [declE, hn, hd, hq, hf, h24]
            rw [hE]
            refine (whole_declare h hs hwd hno L hL hL30 hn hd hq h24 (by simp [fit])).mono ?_
            rintro e w' ⟨rfl, hr⟩
            exact ⟨rfl, fun hx => absurd rfl hx, fun _ => hr⟩
          · refine fail (v := 4) (by simp [declE, hn, hd, hq, hf, h24]) (by decide) (declare_full tb s d q w mb _ _ h.2.2.1 h.2.2.2.1 hn hd hq (by simp [ents_length]; omega) fun u hu => ?_)
            have := whole_kind (h.below hu (Nat.le_refl _)) hs hwd (s := s) (d := d)
            rwa [show kindE cs s d = 0 by simp only [kindE, hf]] at this
def fillE (cs : List Column) (s : ByteArray) (d x : Int) : Int := match cs.find? (Column.at s d) with | none => 5 | some c => if fit c.kind x then 0 else 3
def fillC (cs : List Column) (s : ByteArray) (d x : Int) : List Column := cs.map fun c => if c.at s d then { c with vals := List.replicate c.vals.length x } else c
theorem whole_fills {tb mb : Nat} {n m : Int} {cs : List Column} {w : World} (h : Whole w tb mb n m cs) {s : ByteArray} {d : Int} (hs : s.size ≤ maxLen) (hd : Wf8 d) (x : Int) :
    Calls Try.prog 72 #[.pointer (some ⟨tb, 0, none⟩), ke s d, .int .i64 x] w fun e w' => e = .returned (.int .i64 (fillE cs s d x)) ∧ (fillE cs s d x ≠ 0 → Below w.heap.size w w') ∧ (fillE cs s d x = 0 → ∃ c ∈ cs, c.name = s ∧ c.side = d ∧ w.grownBy w' (some c.row) ∧ Whole w' tb mb n m (fillC cs s d x)) := by
  have hmb := (Array.getElem?_eq_some_iff.1 h.2.2.2.1).1
  rcases col_cases cs s d with ⟨k, c, hc, rfl, rfl, hf⟩ | ⟨hno, hf⟩
  · refine (whole_fill h hc x).mono ?_
    rintro e w' (⟨hx, rfl, hb⟩ | ⟨hx, rfl, hg, hW⟩)
    · rw [show fillE cs c.name c.side x = 3 by simp [fillE, hf, hx]]
      exact ⟨rfl, fun _ => hb, fun hn => absurd hn (by decide)⟩
    · rw [show fillE cs c.name c.side x = 0 by simp [fillE, hf, hx]]
      refine ⟨rfl, fun hn => absurd rfl hn, fun _ => ⟨c, List.mem_of_getElem? hc, rfl, rfl, hg, ?_⟩⟩
      rw [fillC, set_map h.2.2.2.2.2.1 hc fun c => { c with vals := List.replicate c.vals.length x }]
      exact hW
  · rw [show fillE cs s d x = 5 by simp [fillE, hf]]
    refine (fill_none tb mb s d x w h.2.2.1 hmb (h.look_none hs hd hno)).mono ?_
    rintro e w' ⟨rfl, hb⟩
    exact ⟨rfl, fun _ => hb, fun hn => absurd hn (by decide)⟩
def loadsE (cs : List Column) (s : ByteArray) (d : Int) (zs : List Int) : Int := match cs.find? (Column.at s d) with | none => 5 | some c => loadE c.kind c.vals.length zs
def loadC (cs : List Column) (s : ByteArray) (d : Int) (zs : List Int) : List Column := cs.map fun c => if c.at s d then { c with vals := zs } else c
theorem whole_loads {tb mb : Nat} {n m : Int} {cs : List Column} {w : World} (h : Whole w tb mb n m cs) {s : ByteArray} {d : Int} (hs : s.size ≤ maxLen) (hd : Wf8 d) {lv : Value} {zs : List Int} (hz : zs.length ≤ 100000) (hv : Sees w lv zs) :
    Calls Try.prog 74 #[.pointer (some ⟨tb, 0, none⟩), ke s d, lv] w fun e w' => e = .returned (.int .i64 (loadsE cs s d zs)) ∧ (loadsE cs s d zs ≠ 0 → Below w.heap.size w w') ∧ (loadsE cs s d zs = 0 → ∃ c ∈ cs, c.name = s ∧ c.side = d ∧ w.grownBy w' (some c.row) ∧ Whole w' tb mb n m (loadC cs s d zs)) := by
  have hmb := (Array.getElem?_eq_some_iff.1 h.2.2.2.1).1
  rcases col_cases cs s d with ⟨k, c, hc, rfl, rfl, hf⟩ | ⟨hno, hf⟩
  · rw [show loadsE cs c.name c.side zs = loadE c.kind c.vals.length zs by simp [loadsE, hf]]
    refine (whole_load h hc hz hv fun h0 => ?_).mono ?_
    · unfold loadE at h0
      split at h0
      · split at h0
        · rename_i a b; exact ⟨a, b⟩
        · exact absurd h0 (by decide)
      · exact absurd h0 (by decide)
    · rintro e w' ⟨rfl, hA, hB⟩
      refine ⟨rfl, hA, fun h0 => ⟨c, List.mem_of_getElem? hc, rfl, rfl, (hB h0).1, ?_⟩⟩
      rw [loadC, set_map h.2.2.2.2.2.1 hc fun c => { c with vals := zs }]
      exact (hB h0).2
  · rw [show loadsE cs s d zs = 5 by simp [loadsE, hf]]
    obtain ⟨a, cap, rfl, _⟩ := hv
    refine (load_none tb mb s d a _ cap w h.2.2.1 hmb (h.look_none hs hd hno)).mono ?_
    rintro e w' ⟨rfl, hb⟩
    exact ⟨rfl, fun _ => hb, fun hn => absurd hn (by decide)⟩
end Go.Proofs.Ytbjoljokdjgbnab
/-
  List and Keys of a whole table.
-/
namespace Go.Proofs.Ytbjoljokdjgbnab
open Go.RowKit Go.MapKept Go.Deep
open Go.RowKit Go.MapKept Go.Sort Go.Shelf
open Go.ChangeMaps (setBlock)
theorem list_none (tb mb : Nat) (s : ByteArray) (d : Int) (w : World) (c2 : w.cell? ⟨tb, 2, none⟩ = some (.map (some mb))) (hm : mb < w.heap.size) (hk : Look w mb s d (.agg #[.int .u8 0, .slice none 0 0]) false) :
    Calls Try.prog 26 #[.pointer (some ⟨tb, 0, none⟩), ke s d] w fun e w' => e = .returned (.slice none 0 0) ∧ Below w.heap.size w w' := by
  have htb := World.block_lt_of_cell? w _ c2
  simp only at htb
  have D := hidI (clone_nil 0 0)
  have C : Hid (∀ u, Below w.heap.size w u → Calls Try.prog 60 #[.pointer (some ⟨tb, 0, none⟩), ke s d] u fun e w' => e = .returned (.tuple #[.agg #[.int .u8 0, .slice none 0 0], .int .i64 5]) ∧ Below u.heap.size u w') :=
    hidI fun u hu => find_none tb mb s d u ((hu.cell (p := ⟨tb, 2, none⟩) htb).trans c2) (Nat.lt_of_lt_of_le hm hu.size) fun v hv => hk v (hv.trans (hu.block mb hm))
  clear hk c2
  go_enter Try.func26, Try.ntmps26
  go_wp2_with (go_at_call 60; refine Calls.mono (C.out _ (by (repeat (first | exact Below.refl _ _ | assumption | refine Below.drew ?_ | refine Below.alloc ?_ (by first | omega | (simp; done) | (simp; omega)) _ | refine Below.setCell ?_ (by first | omega | (simp; done) | (simp; omega)) _)))) ?_; rintro e w1 ⟨rfl, hb1⟩; refine Hid.out ?_)
  refine hidI ?_
  have hsz := hb1.size
  simp only [World.size_alloc] at hsz
  have HB : Hid (Below w.heap.size w w1) := hidI (Below.trans (by (repeat (first | exact Below.refl _ _ | assumption | refine Below.drew ?_ | refine Below.alloc ?_ (by first | omega | (simp; done) | (simp; omega)) _ | refine Below.setCell ?_ (by first | omega | (simp; done) | (simp; omega)) _))) (hb1.mono (by simp)))
  clear hb1 C
  go_wp2_with (go_at_call 51; refine Calls.mono (D.out _) ?_; rintro e w2 ⟨rfl, rfl⟩)
  go_ret
  exact ⟨rfl, by have := HB.out; (repeat (first | exact Below.refl _ _ | assumption | refine Below.drew ?_ | refine Below.alloc ?_ (by first | omega | (simp; done) | (simp; omega)) _ | refine Below.setCell ?_ (by first | omega | (simp; done) | (simp; omega)) _))⟩
def listE (cs : List Column) (s : ByteArray) (d : Int) : List Int := match cs.find? (Column.at s d) with | none => [] | some c => c.vals
theorem whole_list {tb mb : Nat} {n m : Int} {cs : List Column} {w : World} (h : Whole w tb mb n m cs) {s : ByteArray} {d : Int} (hs : s.size ≤ maxLen) (hd : Wf8 d) :
    Calls Try.prog 26 #[.pointer (some ⟨tb, 0, none⟩), ke s d] w fun e w' => ∃ u, e = .returned u ∧ Sees w' u (listE cs s d) ∧ Below w.heap.size w w' := by
  have hmb := (Array.getElem?_eq_some_iff.1 h.2.2.2.1).1
  rcases col_cases cs s d with ⟨k, c, hc, rfl, rfl, hf⟩ | ⟨hno, hf⟩
  · rw [show listE cs c.name c.side = c.vals by simp [listE, hf]]
    have q := h.2.2.2.2.1 c (List.mem_of_getElem? hc)
    have q7 := q.1.2.2.2.2.2.2.1
    exact list_some tb mb _ _ c.kind _ _ c.vals w h.2.2.1 hmb (h.look_some hc) (by omega) ⟨_, _, rfl, .inr ⟨_, _, rfl, fun j hj => by rw [Nat.zero_add]; exact (q.2.2.2.2 j hj).1⟩⟩
  · rw [show listE cs s d = [] by simp [listE, hf]]
    refine (list_none tb mb s d w h.2.2.1 hmb (h.look_none hs hd hno)).mono ?_
    rintro e w' ⟨rfl, hb⟩
    exact ⟨_, rfl, ⟨none, 0, rfl, .inl rfl⟩, hb⟩
theorem ents_kys : ∀ (cs : List Column) (k : Nat), (ents k cs).map kyOf = cs.map fun c => (c.name, c.side)
  | [], _ => rfl
  | c :: r, k => by
    simp only [ents, List.map_cons, ents_kys r (k + 1)]
    rw [kyOf_eq (s := c.name) (d := c.side) rfl]
theorem whole_keys {tb mb : Nat} {n m : Int} {cs : List Column} {w : World} (h : Whole w tb mb n m cs) :
    Calls Try.prog 25 #[.pointer (some ⟨tb, 0, none⟩)] w fun e w' => ∃ (g cap : Nat) (ds : Array Ky), e = .returned (.slice (some ⟨g, 0, none⟩) cs.length cap) ∧ ds.size = cs.length ∧ ds.toList.Perm (cs.map fun c => (c.name, c.side)) ∧ SortedIn ltK 0 ds.size ds ∧ HoldsK encK 2 w' g 0 ds ∧ w.heap.size ≤ g ∧ Below w.heap.size w w' := by
  have hes : (ents 0 cs).toArray.size = cs.length := by simp [ents_length]
  refine (keys_any tb mb _ _ w h.2.2.1 h.2.2.2.1 (ents_stamped h.2.2.2.2.2.1) (fun e he => ?_) (by rw [hes]; exact h.2.2.2.2.2.2.2)).mono ?_
  · obtain ⟨i, c, hc, rfl⟩ := ents_mem (by simpa using he)
    exact ⟨c.name, c.side, rfl⟩
  · rintro e w' ⟨g, cap, ds, rfl, h1, h2, h3, h4, h5, h6⟩
    rw [hes] at h1 ⊢
    exact ⟨g, cap, ds, rfl, h1, by simpa [ents_kys] using h2, h3, h4, h5, h6⟩
end Go.Proofs.Ytbjoljokdjgbnab
