/-
  Keys of columns, as a map has them; and a column looked up.
-/
import Derived.Test.YtbjoljokdjgbnacName
import Derived.Test.YtbjoljokdjgbnacMap
import Derived.Deep.RegionHeld3
namespace Go.Proofs.Ytbjoljokdjgbnac
open Go.RowKit Go.MapKept
open Go.ChangeMaps (setBlock heap_setBlock_same heap_setBlock_other)
theorem law33 : WideMaps.KeyLaw Try.prog 33 := deep_law_laid laidOutB69 (m := 2) (by decide) (of_decide_eq_true (by kernel_rfl)) (by kernel_rfl) (by kernel_rfl)
abbrev Wf8 (a : Int) : Prop := (Lit.int .u8 a).wf = true
theorem ke_inj {s s' : ByteArray} {d d' : Int} (h : ke s d = ke s' d') : s = s' ∧ d = d' := by simpa [ke] using h
theorem keyOf_ke {s : ByteArray} {d : Int} (hs : s.size ≤ maxLen) (hd : Wf8 d) : ∃ kl, keyOf Try.prog 33 (ke s d) = some kl := by
  have hu := Try.underlying33
  have hk : Try.prog.keyType 33 = true := by kernel_rfl
  obtain ⟨m, hm⟩ : ∃ m, Try.prog.types.size + 1 = m + 2 := ⟨Try.prog.types.size - 1, by have : 1 ≤ Try.prog.types.size := (by kernel_rfl : decide (1 ≤ Try.prog.types.size) = true) |> of_decide_eq_true; omega⟩
  have hc9 : Try.prog.cellsOf 9 = 1 := by kernel_rfl
  have hc31 : Try.prog.cellsOf 31 = 1 := by kernel_rfl
  have hc33 : Try.prog.cellsOf 33 = 2 := by kernel_rfl
  unfold keyOf ke
  simp only [hu]
  rw [if_pos (by simp [hk, Value.formed, hu, hc33]), hm]
  unfold Program.keyLits
  simp only [hu, Value.cells]
  rw [if_pos (by simp [hc33])]
  simp [hc9, hc31, Program.keyLits, Try.underlying9, Try.underlying31, hd, hs]
/-- What a map of columns tells at a key, wherever the map is as it was. -/
def Look (w : World) (mb : Nat) (s : ByteArray) (d : Int) (c : Value) (there : Bool) : Prop :=
  ∀ u : World, u.heap[mb]? = w.heap[mb]? → (Instr.lookup 76 (.map (some mb)) (ke s d) true).run Try.prog u = .ok (.tuple #[c, .bool there]) u
set_option maxRecDepth 100000 in
set_option maxHeartbeats 2000000 in
theorem find_some (tb mb : Nat) (s : ByteArray) (d : Int) (k : Int) (a : Option Addr) (l c : Nat) (w : World) (c2 : w.cell? ⟨tb, 2, none⟩ = some (.map (some mb))) (hm : mb < w.heap.size) (hk : Look w mb s d (.agg #[.int .u8 k, .slice a l c]) true) :
    Calls Try.prog 53 #[.pointer (some ⟨tb, 0, none⟩), ke s d] w fun e w' => e = .returned (.tuple #[.agg #[.int .u8 k, .slice a l c], .int .i64 0]) ∧ Below w.heap.size w w' := by
  have htb := World.block_lt_of_cell? w _ c2
  simp only at htb
  have L0 : ∀ u : World, Below w.heap.size w u → (Instr.lookup 76 (.map (some mb)) (ke s d) true).run Try.prog u = .ok (.tuple #[.agg #[.int .u8 k, .slice a l c], .bool true]) u := fun u hu => hk u (hu.block mb hm)
  have C0 : ∀ u : World, Below w.heap.size w u → u.cell? ⟨tb, 2, none⟩ = some (.map (some mb)) := fun u hu => (hu.cell (p := ⟨tb, 2, none⟩) htb).trans c2
  have HL0 := hidI L0
  have HC0 := hidI C0
  clear hk c2 L0 C0
  go_enter Try.func53, Try.ntmps53
  go_wp2
  go_region_held3 (fun w' => Hid (Below w.heap.size w w') ∧ w'.cell? ⟨tb, 2, none⟩ = some (.map (some mb)) ∧ w'.cell? ⟨w.heap.size, 0, none⟩ = some (.string s) ∧ w'.cell? ⟨w.heap.size, 1, none⟩ = some (.int .u8 d) ∧ (Instr.lookup 76 (.map (some mb)) (ke s d) true).run Try.prog w' = .ok (.tuple #[.agg #[.int .u8 k, .slice a l c], .bool true]) w')
    (exact ⟨hidI (by (repeat (first | exact Below.refl _ _ | assumption | refine Below.drew ?_ | refine Below.alloc ?_ (by first | omega | (simp; done) | (simp; omega)) _ | refine Below.setCell ?_ (by first | omega | (simp; done) | (simp; omega)) _))), HC0.out _ (by (repeat (first | exact Below.refl _ _ | assumption | refine Below.drew ?_ | refine Below.alloc ?_ (by first | omega | (simp; done) | (simp; omega)) _ | refine Below.setCell ?_ (by first | omega | (simp; done) | (simp; omega)) _))), by go_keep, by go_keep, HL0.out _ (by (repeat (first | exact Below.refl _ _ | assumption | refine Below.drew ?_ | refine Below.alloc ?_ (by first | omega | (simp; done) | (simp; omega)) _ | refine Below.setCell ?_ (by first | omega | (simp; done) | (simp; omega)) _)))⟩)
    (fail)
  all_goals
    go_wp2
    (try simp only [Exit.inBlock, Exit.then])
    refine bodyPost_ret (v := .tuple #[.agg #[.int .u8 k, .slice a l c], .int .i64 0]) ?_ rfl ⟨rfl, ?_⟩
    · rw [results_cell_tmp rfl]
      go_simp
    · (repeat (first | exact Below.refl _ _ | assumption | refine Below.drew ?_ | refine Below.alloc ?_ (by first | omega | (simp; done) | (simp; omega)) _ | refine Below.setCell ?_ (by first | omega | (simp; done) | (simp; omega)) _))
set_option maxRecDepth 100000 in
set_option maxHeartbeats 2000000 in
theorem find_none (tb mb : Nat) (s : ByteArray) (d : Int) (w : World) (c2 : w.cell? ⟨tb, 2, none⟩ = some (.map (some mb))) (hm : mb < w.heap.size) (hk : Look w mb s d (.agg #[.int .u8 0, .slice none 0 0]) false) :
    Calls Try.prog 53 #[.pointer (some ⟨tb, 0, none⟩), ke s d] w fun e w' => e = .returned (.tuple #[.agg #[.int .u8 0, .slice none 0 0], .int .i64 5]) ∧ Below w.heap.size w w' := by
  have htb := World.block_lt_of_cell? w _ c2
  simp only at htb
  have L0 : ∀ u : World, Below w.heap.size w u → (Instr.lookup 76 (.map (some mb)) (ke s d) true).run Try.prog u = .ok (.tuple #[.agg #[.int .u8 0, .slice none 0 0], .bool false]) u := fun u hu => hk u (hu.block mb hm)
  have C0 : ∀ u : World, Below w.heap.size w u → u.cell? ⟨tb, 2, none⟩ = some (.map (some mb)) := fun u hu => (hu.cell (p := ⟨tb, 2, none⟩) htb).trans c2
  have HL0 := hidI L0
  have HC0 := hidI C0
  clear hk c2 L0 C0
  go_enter Try.func53, Try.ntmps53
  go_wp2
  go_region_held3 (fun w' => Hid (Below w.heap.size w w') ∧ w'.cell? ⟨tb, 2, none⟩ = some (.map (some mb)) ∧ w'.cell? ⟨w.heap.size, 0, none⟩ = some (.string s) ∧ w'.cell? ⟨w.heap.size, 1, none⟩ = some (.int .u8 d) ∧ (Instr.lookup 76 (.map (some mb)) (ke s d) true).run Try.prog w' = .ok (.tuple #[.agg #[.int .u8 0, .slice none 0 0], .bool false]) w')
    (exact ⟨hidI (by (repeat (first | exact Below.refl _ _ | assumption | refine Below.drew ?_ | refine Below.alloc ?_ (by first | omega | (simp; done) | (simp; omega)) _ | refine Below.setCell ?_ (by first | omega | (simp; done) | (simp; omega)) _))), HC0.out _ (by (repeat (first | exact Below.refl _ _ | assumption | refine Below.drew ?_ | refine Below.alloc ?_ (by first | omega | (simp; done) | (simp; omega)) _ | refine Below.setCell ?_ (by first | omega | (simp; done) | (simp; omega)) _))), by go_keep, by go_keep, HL0.out _ (by (repeat (first | exact Below.refl _ _ | assumption | refine Below.drew ?_ | refine Below.alloc ?_ (by first | omega | (simp; done) | (simp; omega)) _ | refine Below.setCell ?_ (by first | omega | (simp; done) | (simp; omega)) _)))⟩)
    (fail)
  all_goals
    go_wp2
    (try simp only [Exit.inBlock, Exit.then])
    refine bodyPost_ret (v := .tuple #[.agg #[.int .u8 0, .slice none 0 0], .int .i64 5]) ?_ rfl ⟨rfl, ?_⟩
    · rw [results_cell_tmp rfl]
      go_simp
    · (repeat (first | exact Below.refl _ _ | assumption | refine Below.drew ?_ | refine Below.alloc ?_ (by first | omega | (simp; done) | (simp; omega)) _ | refine Below.setCell ?_ (by first | omega | (simp; done) | (simp; omega)) _))
/-- place finds the column, and the place in it. -/
theorem place_some (tb mb : Nat) (s : ByteArray) (d : Int) (k : Int) (a : Option Addr) (l c : Nat) (i : Nat) (w : World) (c2 : w.cell? ⟨tb, 2, none⟩ = some (.map (some mb))) (hm : mb < w.heap.size) (hk : Look w mb s d (.agg #[.int .u8 k, .slice a l c]) true) (hi : i < l) :
    Calls Try.prog 47 #[.pointer (some ⟨tb, 0, none⟩), ke s d, .int .i64 (i : Int)] w fun e w' => e = .returned (.tuple #[.agg #[.int .u8 k, .slice a l c], .int .i64 0]) ∧ Below w.heap.size w w' := by
  have htb := World.block_lt_of_cell? w _ c2
  simp only at htb
  have C : Hid (∀ u, Below w.heap.size w u → Calls Try.prog 53 #[.pointer (some ⟨tb, 0, none⟩), ke s d] u fun e w' => e = .returned (.tuple #[.agg #[.int .u8 k, .slice a l c], .int .i64 0]) ∧ Below u.heap.size u w') :=
    hidI fun u hu => find_some tb mb s d k a l c u ((hu.cell (p := ⟨tb, 2, none⟩) htb).trans c2) (Nat.lt_of_lt_of_le hm hu.size) fun v hv => hk v (hv.trans (hu.block mb hm))
  clear hk c2
  go_enter Try.func47, Try.ntmps47
  go_wp2_with (go_at_call 53; refine Calls.mono (C.out _ (by (repeat (first | exact Below.refl _ _ | assumption | refine Below.drew ?_ | refine Below.alloc ?_ (by first | omega | (simp; done) | (simp; omega)) _ | refine Below.setCell ?_ (by first | omega | (simp; done) | (simp; omega)) _)))) ?_; rintro e w1 ⟨rfl, hb1⟩; refine Hid.out ?_)
  refine hidI ?_
  have hsz := hb1.size
  simp only [World.size_alloc] at hsz
  have Z : Below (w.heap.size + 2) ((w.alloc (.cells #[.string s, .int .u8 d] 33)).alloc (.cells #[.int .u8 0, .slice none 0 0] 80)) (w1.alloc (.cells #[.int .u8 k, .slice a l c] 80)) := (hb1.mono (by simp)).alloc (by omega) _
  have d0 : (w1.alloc (.cells #[.int .u8 k, .slice a l c] 80)).cell? ⟨w.heap.size + 1, 0, none⟩ = some (.int .u8 0) := by
    refine (Z.cell (p := ⟨w.heap.size + 1, 0, none⟩) (by simp)).trans ?_
    go_simp
  have d1 : (w1.alloc (.cells #[.int .u8 k, .slice a l c] 80)).cell? ⟨w.heap.size + 1, 1, none⟩ = some (.slice none 0 0) := by
    refine (Z.cell (p := ⟨w.heap.size + 1, 1, none⟩) (by simp)).trans ?_
    go_simp
  have f0 : (w1.alloc (.cells #[.int .u8 k, .slice a l c] 80)).frozen? ⟨w.heap.size + 1, 0, none⟩ = false := by
    refine (Z.frozen (p := ⟨w.heap.size + 1, 0, none⟩) (by simp)).trans ?_
    go_simp
  have f1 : (w1.alloc (.cells #[.int .u8 k, .slice a l c] 80)).frozen? ⟨w.heap.size + 1, 1, none⟩ = false := by
    refine (Z.frozen (p := ⟨w.heap.size + 1, 1, none⟩) (by simp)).trans ?_
    go_simp
  have bel : Below w.heap.size w w1 := Below.trans (by (repeat (first | exact Below.refl _ _ | assumption | refine Below.drew ?_ | refine Below.alloc ?_ (by first | omega | (simp; done) | (simp; omega)) _ | refine Below.setCell ?_ (by first | omega | (simp; done) | (simp; omega)) _))) (hb1.mono (by simp; omega))
  have HB := hidI bel
  have k1 : decide ((i : Int) < 0) = false := by simp
  have k2 : decide ((l : Int) ≤ (i : Int)) = false := by simp; omega
  clear hb1 C bel Z
  go_wp2
  (try simp only [Exit.inBlock, Exit.then])
  refine bodyPost_ret (v := .tuple #[.agg #[.int .u8 k, .slice a l c], .int .i64 0]) ?_ rfl ⟨rfl, ?_⟩
  · rw [results_cell_tmp rfl]
    go_simp
  · refine Below.setCell (Below.setCell (HB.out.alloc (by omega) _) ?_ _) ?_ _ <;> simp
end Go.Proofs.Ytbjoljokdjgbnac
