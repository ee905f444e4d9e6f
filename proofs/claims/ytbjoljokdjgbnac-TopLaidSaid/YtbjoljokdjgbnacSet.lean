/-
  Columns: a value set; how long a side's columns are.
-/
import Derived.Test.YtbjoljokdjgbnacTell
namespace Go.Proofs.Ytbjoljokdjgbnac
open Go.RowKit Go.MapKept
/-- How long a side's columns are. -/
def sideLen (n m s : Int) : Int := if s = 1 then 1 else if s = 2 then n else if s = 3 then m else 0
theorem len_any (tb : Nat) (n m s : Int) (w : World) (c0 : w.cell? ⟨tb, 0, none⟩ = some (.int .i64 n)) (c1 : w.cell? ⟨tb, 1, none⟩ = some (.int .i64 m)) :
    Calls Try.prog 23 #[.pointer (some ⟨tb, 0, none⟩), .int .u8 s] w fun e w' => e = .returned (.int .i64 (sideLen n m s)) ∧ w = w' := by
  unfold sideLen
  by_cases h1 : s = 1
  · subst h1
    go_enter Try.func23, Try.ntmps23
    go_wp2
    go_ret
    exact ⟨rfl, rfl⟩
  by_cases h2 : s = 2
  · subst h2
    go_enter Try.func23, Try.ntmps23
    go_wp2
    go_ret
    exact ⟨rfl, rfl⟩
  by_cases h3 : s = 3
  · subst h3
    go_enter Try.func23, Try.ntmps23
    go_wp2
    go_ret
    exact ⟨rfl, rfl⟩
  have q1 : (s == 1) = false := by simpa using h1
  have q2 : (s == 2) = false := by simpa using h2
  have q3 : (s == 3) = false := by simpa using h3
  go_enter Try.func23, Try.ntmps23
  go_wp2
  go_ret
  exact ⟨by simp, rfl⟩
theorem set_unfit (tb mb : Nat) (s : ByteArray) (d : Int) (k x : Int) (b o : Nat) (l c : Nat) (i : Nat) (w : World) (c2 : w.cell? ⟨tb, 2, none⟩ = some (.map (some mb))) (hm : mb < w.heap.size) (hk : Look w mb s d (.agg #[.int .u8 k, .slice (some ⟨b, o, none⟩) l c]) true) (hi : i < l) (hx : fit k x = false) :
    Calls Try.prog 16 #[.pointer (some ⟨tb, 0, none⟩), ke s d, .int .i64 (i : Int), .int .i64 x] w fun e w' => e = .returned (.int .i64 3) ∧ Below w.heap.size w w' := by
  have htb := World.block_lt_of_cell? w _ c2
  simp only at htb
  have C : Hid (∀ u, Below w.heap.size w u → Calls Try.prog 47 #[.pointer (some ⟨tb, 0, none⟩), ke s d, .int .i64 (i : Int)] u fun e w' => e = .returned (.tuple #[.agg #[.int .u8 k, .slice (some ⟨b, o, none⟩) l c], .int .i64 0]) ∧ Below u.heap.size u w') :=
    hidI fun u hu => place_some tb mb s d k _ l c i u ((hu.cell (p := ⟨tb, 2, none⟩) htb).trans c2) (Nat.lt_of_lt_of_le hm hu.size) (fun v hv => hk v (hv.trans (hu.block mb hm))) hi
  have F : Hid (∀ u, Calls Try.prog 52 #[.agg #[.int .u8 k, .slice (some ⟨b, o, none⟩) l c], .int .i64 x] u fun e w' => e = .returned (.bool false) ∧ Below u.heap.size u w') := hidI fun u => hx ▸ fit_any k x _ l c u
  clear hk c2
  go_enter Try.func16, Try.ntmps16
  go_wp2_with (go_at_call 47; refine Calls.mono (C.out _ (by (repeat (first | exact Below.refl _ _ | assumption | refine Below.drew ?_ | refine Below.alloc ?_ (by first | omega | (simp; done) | (simp; omega)) _ | refine Below.setCell ?_ (by first | omega | (simp; done) | (simp; omega)) _)))) ?_; rintro e w1 ⟨rfl, hb1⟩; refine Hid.out ?_)
  refine hidI ?_
  have hsz := hb1.size
  simp only [World.size_alloc] at hsz
  have HB : Hid (Below w.heap.size w w1) := hidI (Below.trans (by (repeat (first | exact Below.refl _ _ | assumption | refine Below.drew ?_ | refine Below.alloc ?_ (by first | omega | (simp; done) | (simp; omega)) _ | refine Below.setCell ?_ (by first | omega | (simp; done) | (simp; omega)) _))) (hb1.mono (by simp)))
  clear hb1 C
  go_wp2_with (go_at_call 52; refine Calls.mono (F.out _) ?_; rintro e w2 ⟨rfl, hb2⟩; refine Hid.out ?_)
  refine hidI ?_
  have HB2 : Hid (Below w.heap.size w w2) := hidI (Below.trans (by have := HB.out; (repeat (first | exact Below.refl _ _ | assumption | refine Below.drew ?_ | refine Below.alloc ?_ (by first | omega | (simp; done) | (simp; omega)) _ | refine Below.setCell ?_ (by first | omega | (simp; done) | (simp; omega)) _))) (hb2.mono (by simp; omega)))
  clear hb2 F HB
  go_wp2
  go_ret
  exact ⟨rfl, by have := HB2.out; (repeat (first | exact Below.refl _ _ | assumption | refine Below.drew ?_ | refine Below.alloc ?_ (by first | omega | (simp; done) | (simp; omega)) _ | refine Below.setCell ?_ (by first | omega | (simp; done) | (simp; omega)) _))⟩
theorem set_fit (tb mb : Nat) (s : ByteArray) (d : Int) (k x z : Int) (b o : Nat) (l c : Nat) (i : Nat) (w : World) (c2 : w.cell? ⟨tb, 2, none⟩ = some (.map (some mb))) (hm : mb < w.heap.size) (hk : Look w mb s d (.agg #[.int .u8 k, .slice (some ⟨b, o, none⟩) l c]) true) (hi : i < l) (hx : fit k x = true)
    (hz : w.cell? ⟨b, o + i, none⟩ = some (.int .i64 z)) (hf : w.frozen? ⟨b, o + i, none⟩ = false) :
    Calls Try.prog 16 #[.pointer (some ⟨tb, 0, none⟩), ke s d, .int .i64 (i : Int), .int .i64 x] w fun e w' => e = .returned (.int .i64 0) ∧ ∃ w1, Below w.heap.size w w1 ∧ w' = w1.setCell ⟨b, o + i, none⟩ (.int .i64 x) := by
  have htb := World.block_lt_of_cell? w _ c2
  simp only at htb
  have hzb := World.block_lt_of_cell? w _ hz
  simp only at hzb
  have C : Hid (∀ u, Below w.heap.size w u → Calls Try.prog 47 #[.pointer (some ⟨tb, 0, none⟩), ke s d, .int .i64 (i : Int)] u fun e w' => e = .returned (.tuple #[.agg #[.int .u8 k, .slice (some ⟨b, o, none⟩) l c], .int .i64 0]) ∧ Below u.heap.size u w') :=
    hidI fun u hu => place_some tb mb s d k _ l c i u ((hu.cell (p := ⟨tb, 2, none⟩) htb).trans c2) (Nat.lt_of_lt_of_le hm hu.size) (fun v hv => hk v (hv.trans (hu.block mb hm))) hi
  have F : Hid (∀ u, Calls Try.prog 52 #[.agg #[.int .u8 k, .slice (some ⟨b, o, none⟩) l c], .int .i64 x] u fun e w' => e = .returned (.bool true) ∧ Below u.heap.size u w') := hidI fun u => hx ▸ fit_any k x _ l c u
  have HZ : Hid (∀ u, Below w.heap.size w u → u.cell? ⟨b, o + i, none⟩ = some (.int .i64 z) ∧ u.frozen? ⟨b, o + i, none⟩ = false) := hidI fun u hu => ⟨(hu.cell (p := ⟨b, o + i, none⟩) hzb).trans hz, (hu.frozen (p := ⟨b, o + i, none⟩) hzb).trans hf⟩
  clear hk c2
  go_enter Try.func16, Try.ntmps16
  go_wp2_with (go_at_call 47; refine Calls.mono (C.out _ (by (repeat (first | exact Below.refl _ _ | assumption | refine Below.drew ?_ | refine Below.alloc ?_ (by first | omega | (simp; done) | (simp; omega)) _ | refine Below.setCell ?_ (by first | omega | (simp; done) | (simp; omega)) _)))) ?_; rintro e w1 ⟨rfl, hb1⟩; refine Hid.out ?_)
  refine hidI ?_
  have hsz := hb1.size
  simp only [World.size_alloc] at hsz
  have HB : Hid (Below w.heap.size w w1) := hidI (Below.trans (by (repeat (first | exact Below.refl _ _ | assumption | refine Below.drew ?_ | refine Below.alloc ?_ (by first | omega | (simp; done) | (simp; omega)) _ | refine Below.setCell ?_ (by first | omega | (simp; done) | (simp; omega)) _))) (hb1.mono (by simp)))
  clear hb1 C
  go_wp2_with (go_at_call 52; refine Calls.mono (F.out _) ?_; rintro e w2 ⟨rfl, hb2⟩; refine Hid.out ?_)
  refine hidI ?_
  have HB2 : Hid (Below w.heap.size w w2) := hidI (Below.trans (by have := HB.out; (repeat (first | exact Below.refl _ _ | assumption | refine Below.drew ?_ | refine Below.alloc ?_ (by first | omega | (simp; done) | (simp; omega)) _ | refine Below.setCell ?_ (by first | omega | (simp; done) | (simp; omega)) _))) (hb2.mono (by simp; omega)))
  have e1 := HZ.out w2 HB2.out
  have g0 : w2.cell? ⟨w1.heap.size, 0, none⟩ = some (.int .u8 k) := by
    refine (hb2.cell (p := ⟨w1.heap.size, 0, none⟩) (by simp)).trans ?_
    go_simp
  have g1 : w2.cell? ⟨w1.heap.size, 1, none⟩ = some (.slice (some ⟨b, o, none⟩) l c) := by
    refine (hb2.cell (p := ⟨w1.heap.size, 1, none⟩) (by simp)).trans ?_
    go_simp
  obtain ⟨e1, e2⟩ := e1
  have k1 : (i : Int) < (l : Int) := by omega
  clear hb2 F HB HZ
  go_wp2
  go_ret
  exact ⟨rfl, _, HB2.out, rfl⟩
end Go.Proofs.Ytbjoljokdjgbnac
