/-
  Columns: a value read, and set; a column's kind.
-/
import Derived.Test.YtbjoljokdjgbnacKey
namespace Go.Proofs.Ytbjoljokdjgbnac
open Go.RowKit Go.MapKept
theorem kindOf_some (tb mb : Nat) (s : ByteArray) (d : Int) (k : Int) (a : Option Addr) (l c : Nat) (w : World) (c2 : w.cell? ⟨tb, 2, none⟩ = some (.map (some mb))) (hm : mb < w.heap.size) (hk : Look w mb s d (.agg #[.int .u8 k, .slice a l c]) true) :
    Calls Try.prog 21 #[.pointer (some ⟨tb, 0, none⟩), ke s d] w fun e w' => e = .returned (.int .u8 k) ∧ Below w.heap.size w w' := by
  have htb := World.block_lt_of_cell? w _ c2
  simp only at htb
  have C : Hid (∀ u, Below w.heap.size w u → Calls Try.prog 53 #[.pointer (some ⟨tb, 0, none⟩), ke s d] u fun e w' => e = .returned (.tuple #[.agg #[.int .u8 k, .slice a l c], .int .i64 0]) ∧ Below u.heap.size u w') :=
    hidI fun u hu => find_some tb mb s d k a l c u ((hu.cell (p := ⟨tb, 2, none⟩) htb).trans c2) (Nat.lt_of_lt_of_le hm hu.size) fun v hv => hk v (hv.trans (hu.block mb hm))
  clear hk c2
  go_enter Try.func21, Try.ntmps21
  go_wp2_with (go_at_call 53; refine Calls.mono (C.out _ (by (repeat (first | exact Below.refl _ _ | assumption | refine Below.drew ?_ | refine Below.alloc ?_ (by first | omega | (simp; done) | (simp; omega)) _ | refine Below.setCell ?_ (by first | omega | (simp; done) | (simp; omega)) _)))) ?_; rintro e w1 ⟨rfl, hb1⟩; refine Hid.out ?_)
  refine hidI ?_
  have hsz := hb1.size
  simp only [World.size_alloc] at hsz
  have HB : Hid (Below w.heap.size w w1) := hidI (Below.trans (by (repeat (first | exact Below.refl _ _ | assumption | refine Below.drew ?_ | refine Below.alloc ?_ (by first | omega | (simp; done) | (simp; omega)) _ | refine Below.setCell ?_ (by first | omega | (simp; done) | (simp; omega)) _))) (hb1.mono (by simp)))
  clear hb1 C
  go_wp2
  go_ret
  exact ⟨rfl, by have := HB.out; (repeat (first | exact Below.refl _ _ | assumption | refine Below.drew ?_ | refine Below.alloc ?_ (by first | omega | (simp; done) | (simp; omega)) _ | refine Below.setCell ?_ (by first | omega | (simp; done) | (simp; omega)) _))⟩
theorem kindOf_none (tb mb : Nat) (s : ByteArray) (d : Int) (w : World) (c2 : w.cell? ⟨tb, 2, none⟩ = some (.map (some mb))) (hm : mb < w.heap.size) (hk : Look w mb s d (.agg #[.int .u8 0, .slice none 0 0]) false) :
    Calls Try.prog 21 #[.pointer (some ⟨tb, 0, none⟩), ke s d] w fun e w' => e = .returned (.int .u8 0) ∧ Below w.heap.size w w' := by
  have htb := World.block_lt_of_cell? w _ c2
  simp only at htb
  have C : Hid (∀ u, Below w.heap.size w u → Calls Try.prog 53 #[.pointer (some ⟨tb, 0, none⟩), ke s d] u fun e w' => e = .returned (.tuple #[.agg #[.int .u8 0, .slice none 0 0], .int .i64 5]) ∧ Below u.heap.size u w') :=
    hidI fun u hu => find_none tb mb s d u ((hu.cell (p := ⟨tb, 2, none⟩) htb).trans c2) (Nat.lt_of_lt_of_le hm hu.size) fun v hv => hk v (hv.trans (hu.block mb hm))
  clear hk c2
  go_enter Try.func21, Try.ntmps21
  go_wp2_with (go_at_call 53; refine Calls.mono (C.out _ (by (repeat (first | exact Below.refl _ _ | assumption | refine Below.drew ?_ | refine Below.alloc ?_ (by first | omega | (simp; done) | (simp; omega)) _ | refine Below.setCell ?_ (by first | omega | (simp; done) | (simp; omega)) _)))) ?_; rintro e w1 ⟨rfl, hb1⟩; refine Hid.out ?_)
  refine hidI ?_
  have hsz := hb1.size
  simp only [World.size_alloc] at hsz
  have HB : Hid (Below w.heap.size w w1) := hidI (Below.trans (by (repeat (first | exact Below.refl _ _ | assumption | refine Below.drew ?_ | refine Below.alloc ?_ (by first | omega | (simp; done) | (simp; omega)) _ | refine Below.setCell ?_ (by first | omega | (simp; done) | (simp; omega)) _))) (hb1.mono (by simp)))
  clear hb1 C
  go_wp2
  go_ret
  exact ⟨rfl, by have := HB.out; (repeat (first | exact Below.refl _ _ | assumption | refine Below.drew ?_ | refine Below.alloc ?_ (by first | omega | (simp; done) | (simp; omega)) _ | refine Below.setCell ?_ (by first | omega | (simp; done) | (simp; omega)) _))⟩
theorem get_some (tb mb : Nat) (s : ByteArray) (d : Int) (k : Int) (b o : Nat) (l c : Nat) (i : Nat) (z : Int) (w : World) (c2 : w.cell? ⟨tb, 2, none⟩ = some (.map (some mb))) (hm : mb < w.heap.size) (hk : Look w mb s d (.agg #[.int .u8 k, .slice (some ⟨b, o, none⟩) l c]) true) (hi : i < l) (hz : w.cell? ⟨b, o + i, none⟩ = some (.int .i64 z)) :
    Calls Try.prog 13 #[.pointer (some ⟨tb, 0, none⟩), ke s d, .int .i64 (i : Int)] w fun e w' => e = .returned (.tuple #[.int .i64 z, .int .i64 0]) ∧ Below w.heap.size w w' := by
  have htb := World.block_lt_of_cell? w _ c2
  simp only at htb
  have hzb := World.block_lt_of_cell? w _ hz
  simp only at hzb
  have C : Hid (∀ u, Below w.heap.size w u → Calls Try.prog 47 #[.pointer (some ⟨tb, 0, none⟩), ke s d, .int .i64 (i : Int)] u fun e w' => e = .returned (.tuple #[.agg #[.int .u8 k, .slice (some ⟨b, o, none⟩) l c], .int .i64 0]) ∧ Below u.heap.size u w') :=
    hidI fun u hu => place_some tb mb s d k _ l c i u ((hu.cell (p := ⟨tb, 2, none⟩) htb).trans c2) (Nat.lt_of_lt_of_le hm hu.size) (fun v hv => hk v (hv.trans (hu.block mb hm))) hi
  have HZ : Hid (∀ u, Below w.heap.size w u → u.cell? ⟨b, o + i, none⟩ = some (.int .i64 z)) := hidI fun u hu => (hu.cell (p := ⟨b, o + i, none⟩) hzb).trans hz
  clear hk c2
  go_enter Try.func13, Try.ntmps13
  go_wp2_with (go_at_call 47; refine Calls.mono (C.out _ (by (repeat (first | exact Below.refl _ _ | assumption | refine Below.drew ?_ | refine Below.alloc ?_ (by first | omega | (simp; done) | (simp; omega)) _ | refine Below.setCell ?_ (by first | omega | (simp; done) | (simp; omega)) _)))) ?_; rintro e w1 ⟨rfl, hb1⟩; refine Hid.out ?_)
  refine hidI ?_
  have hsz := hb1.size
  simp only [World.size_alloc] at hsz
  have HB : Hid (Below w.heap.size w w1) := hidI (Below.trans (by (repeat (first | exact Below.refl _ _ | assumption | refine Below.drew ?_ | refine Below.alloc ?_ (by first | omega | (simp; done) | (simp; omega)) _ | refine Below.setCell ?_ (by first | omega | (simp; done) | (simp; omega)) _))) (hb1.mono (by simp)))
  have e1 := HZ.out (w1.alloc (.cells #[.int .u8 k, .slice (some ⟨b, o, none⟩) l c] 80)) (by have := HB.out; (repeat (first | exact Below.refl _ _ | assumption | refine Below.drew ?_ | refine Below.alloc ?_ (by first | omega | (simp; done) | (simp; omega)) _ | refine Below.setCell ?_ (by first | omega | (simp; done) | (simp; omega)) _)))
  have k1 : (i : Int) < (l : Int) := by omega
  clear hb1 C HZ
  go_wp2
  go_ret2
  exact ⟨rfl, by have := HB.out; (repeat (first | exact Below.refl _ _ | assumption | refine Below.drew ?_ | refine Below.alloc ?_ (by first | omega | (simp; done) | (simp; omega)) _ | refine Below.setCell ?_ (by first | omega | (simp; done) | (simp; omega)) _))⟩
end Go.Proofs.Ytbjoljokdjgbnac
