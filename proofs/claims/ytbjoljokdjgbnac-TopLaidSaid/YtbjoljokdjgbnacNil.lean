/-
  Nil columns, as they answer.
-/
import Derived.Test.YtbjoljokdjgbnacBase
import Derived.Laws.ResultCell
namespace Go.Proofs.Ytbjoljokdjgbnac
open Go.RowKit Go.Deep
/-- A key: a name, and a side. -/
abbrev ke (s : ByteArray) (d : Int) : Value := .agg #[.string s, .int .u8 d]
theorem find_nil (s : ByteArray) (d : Int) (w : World) : Calls Try.prog 53 #[.pointer none, ke s d] w fun e w' => e = .returned (.tuple #[.agg #[.int .u8 0, .slice none 0 0], .int .i64 1]) ∧ Below w.heap.size w w' := by
  go_enter Try.func53, Try.ntmps53
  go_wp2
  (try simp only [Exit.inBlock, Exit.then])
  refine bodyPost_ret (v := .tuple #[.agg #[.int .u8 0, .slice none 0 0], .int .i64 1]) ?_ rfl ⟨rfl, ?_⟩
  · rw [results_cell_tmp rfl]
    go_simp
  · (repeat (first | exact Below.refl _ _ | assumption | refine Below.drew ?_ | refine Below.alloc ?_ (by first | omega | (simp; done) | (simp; omega)) _ | refine Below.setCell ?_ (by first | omega | (simp; done) | (simp; omega)) _))
theorem place_nil (s : ByteArray) (d : Int) (i : Int) (w : World) : Calls Try.prog 47 #[.pointer none, ke s d, .int .i64 i] w fun e w' => e = .returned (.tuple #[.agg #[.int .u8 0, .slice none 0 0], .int .i64 1]) ∧ Below w.heap.size w w' := by
  have C := hidI (find_nil s d)
  go_enter Try.func47, Try.ntmps47
  go_wp2_with (go_at_call 53; refine Calls.mono (C.out _) ?_; rintro e w1 ⟨rfl, hb1⟩; refine Hid.out ?_)
  refine hidI ?_
  have hsz := hb1.size
  simp only [World.size_alloc] at hsz
  have Z : Below (w.heap.size + 2) ((w.alloc (.cells #[.string s, .int .u8 d] 33)).alloc (.cells #[.int .u8 0, .slice none 0 0] 80)) (w1.alloc (.cells #[.int .u8 0, .slice none 0 0] 80)) := (hb1.mono (by simp)).alloc (by omega) _
  have d0 : (w1.alloc (.cells #[.int .u8 0, .slice none 0 0] 80)).cell? ⟨w.heap.size + 1, 0, none⟩ = some (.int .u8 0) := by
    refine (Z.cell (p := ⟨w.heap.size + 1, 0, none⟩) (by simp)).trans ?_
    go_simp
  have d1 : (w1.alloc (.cells #[.int .u8 0, .slice none 0 0] 80)).cell? ⟨w.heap.size + 1, 1, none⟩ = some (.slice none 0 0) := by
    refine (Z.cell (p := ⟨w.heap.size + 1, 1, none⟩) (by simp)).trans ?_
    go_simp
  have f0 : (w1.alloc (.cells #[.int .u8 0, .slice none 0 0] 80)).frozen? ⟨w.heap.size + 1, 0, none⟩ = false := by
    refine (Z.frozen (p := ⟨w.heap.size + 1, 0, none⟩) (by simp)).trans ?_
    go_simp
  have f1 : (w1.alloc (.cells #[.int .u8 0, .slice none 0 0] 80)).frozen? ⟨w.heap.size + 1, 1, none⟩ = false := by
    refine (Z.frozen (p := ⟨w.heap.size + 1, 1, none⟩) (by simp)).trans ?_
    go_simp
  have bel : Below w.heap.size w w1 := Below.trans (by (repeat (first | exact Below.refl _ _ | assumption | refine Below.drew ?_ | refine Below.alloc ?_ (by first | omega | (simp; done) | (simp; omega)) _ | refine Below.setCell ?_ (by first | omega | (simp; done) | (simp; omega)) _))) (hb1.mono (by simp; omega))
  have HB := hidI bel
  clear hb1 C bel Z
  go_wp2
  (try simp only [Exit.inBlock, Exit.then])
  refine bodyPost_ret (v := .tuple #[.agg #[.int .u8 0, .slice none 0 0], .int .i64 1]) ?_ rfl ⟨rfl, ?_⟩
  · rw [results_cell_tmp rfl]
    go_simp
  · refine Below.setCell (Below.setCell (HB.out.alloc (by omega) _) ?_ _) ?_ _ <;> simp
theorem get_nil (s : ByteArray) (d : Int) (i : Int) (w : World) : Calls Try.prog 13 #[.pointer none, ke s d, .int .i64 i] w fun e w' => e = .returned (.tuple #[.int .i64 0, .int .i64 1]) ∧ Below w.heap.size w w' := by
  have C := hidI (place_nil s d i)
  go_enter Try.func13, Try.ntmps13
  go_wp2_with (go_at_call 47; refine Calls.mono (C.out _) ?_; rintro e w1 ⟨rfl, hb1⟩; refine Hid.out ?_)
  refine hidI ?_
  have hsz := hb1.size
  simp only [World.size_alloc] at hsz
  have HB : Hid (Below w.heap.size w w1) := hidI (Below.trans (by (repeat (first | exact Below.refl _ _ | assumption | refine Below.drew ?_ | refine Below.alloc ?_ (by first | omega | (simp; done) | (simp; omega)) _ | refine Below.setCell ?_ (by first | omega | (simp; done) | (simp; omega)) _))) (hb1.mono (by simp)))
  clear hb1 C
  go_wp2
  go_ret2
  exact ⟨rfl, by have := HB.out; (repeat (first | exact Below.refl _ _ | assumption | refine Below.drew ?_ | refine Below.alloc ?_ (by first | omega | (simp; done) | (simp; omega)) _ | refine Below.setCell ?_ (by first | omega | (simp; done) | (simp; omega)) _))⟩
theorem encode_nil (w : World) : Calls Try.prog 14 #[.pointer none] w fun e w' => e = .returned (.tuple #[.slice none 0 0, .int .i64 1]) ∧ w = w' := by
  go_enter Try.func14, Try.ntmps14
  go_wp2
  go_ret2
  exact ⟨rfl, rfl⟩
theorem declare_nil (s : ByteArray) (d : Int) (q : Int) (w : World) : Calls Try.prog 15 #[.pointer none, ke s d, .int .u8 q] w fun e w' => e = .returned (.int .i64 1) ∧ Below w.heap.size w w' := by
  go_enter Try.func15, Try.ntmps15
  go_wp2
  go_ret
  exact ⟨rfl, by (repeat (first | exact Below.refl _ _ | assumption | refine Below.drew ?_ | refine Below.alloc ?_ (by first | omega | (simp; done) | (simp; omega)) _ | refine Below.setCell ?_ (by first | omega | (simp; done) | (simp; omega)) _))⟩
theorem set_nil (s : ByteArray) (d : Int) (i x : Int) (w : World) : Calls Try.prog 16 #[.pointer none, ke s d, .int .i64 i, .int .i64 x] w fun e w' => e = .returned (.int .i64 1) ∧ Below w.heap.size w w' := by
  have C := hidI (place_nil s d i)
  go_enter Try.func16, Try.ntmps16
  go_wp2_with (go_at_call 47; refine Calls.mono (C.out _) ?_; rintro e w1 ⟨rfl, hb1⟩; refine Hid.out ?_)
  refine hidI ?_
  have hsz := hb1.size
  simp only [World.size_alloc] at hsz
  have HB : Hid (Below w.heap.size w w1) := hidI (Below.trans (by (repeat (first | exact Below.refl _ _ | assumption | refine Below.drew ?_ | refine Below.alloc ?_ (by first | omega | (simp; done) | (simp; omega)) _ | refine Below.setCell ?_ (by first | omega | (simp; done) | (simp; omega)) _))) (hb1.mono (by simp)))
  clear hb1 C
  go_wp2
  go_ret
  exact ⟨rfl, by have := HB.out; (repeat (first | exact Below.refl _ _ | assumption | refine Below.drew ?_ | refine Below.alloc ?_ (by first | omega | (simp; done) | (simp; omega)) _ | refine Below.setCell ?_ (by first | omega | (simp; done) | (simp; omega)) _))⟩
theorem fill_nil (s : ByteArray) (d : Int) (x : Int) (w : World) : Calls Try.prog 17 #[.pointer none, ke s d, .int .i64 x] w fun e w' => e = .returned (.int .i64 1) ∧ Below w.heap.size w w' := by
  have C := hidI (find_nil s d)
  go_enter Try.func17, Try.ntmps17
  go_wp2_with (go_at_call 53; refine Calls.mono (C.out _) ?_; rintro e w1 ⟨rfl, hb1⟩; refine Hid.out ?_)
  refine hidI ?_
  have hsz := hb1.size
  simp only [World.size_alloc] at hsz
  have HB : Hid (Below w.heap.size w w1) := hidI (Below.trans (by (repeat (first | exact Below.refl _ _ | assumption | refine Below.drew ?_ | refine Below.alloc ?_ (by first | omega | (simp; done) | (simp; omega)) _ | refine Below.setCell ?_ (by first | omega | (simp; done) | (simp; omega)) _))) (hb1.mono (by simp)))
  clear hb1 C
  go_wp2
  go_ret
  exact ⟨rfl, by have := HB.out; (repeat (first | exact Below.refl _ _ | assumption | refine Below.drew ?_ | refine Below.alloc ?_ (by first | omega | (simp; done) | (simp; omega)) _ | refine Below.setCell ?_ (by first | omega | (simp; done) | (simp; omega)) _))⟩
theorem load_nil (s : ByteArray) (d : Int) (l : Value) (w : World) : Calls Try.prog 18 #[.pointer none, ke s d, l] w fun e w' => e = .returned (.int .i64 1) ∧ Below w.heap.size w w' := by
  have C := hidI (find_nil s d)
  go_enter Try.func18, Try.ntmps18
  go_wp2_with (go_at_call 53; refine Calls.mono (C.out _) ?_; rintro e w1 ⟨rfl, hb1⟩; refine Hid.out ?_)
  refine hidI ?_
  have hsz := hb1.size
  simp only [World.size_alloc] at hsz
  have HB : Hid (Below w.heap.size w w1) := hidI (Below.trans (by (repeat (first | exact Below.refl _ _ | assumption | refine Below.drew ?_ | refine Below.alloc ?_ (by first | omega | (simp; done) | (simp; omega)) _ | refine Below.setCell ?_ (by first | omega | (simp; done) | (simp; omega)) _))) (hb1.mono (by simp)))
  clear hb1 C
  go_wp2
  go_ret
  exact ⟨rfl, by have := HB.out; (repeat (first | exact Below.refl _ _ | assumption | refine Below.drew ?_ | refine Below.alloc ?_ (by first | omega | (simp; done) | (simp; omega)) _ | refine Below.setCell ?_ (by first | omega | (simp; done) | (simp; omega)) _))⟩
theorem kindOf_nil (s : ByteArray) (d : Int) (w : World) : Calls Try.prog 21 #[.pointer none, ke s d] w fun e w' => e = .returned (.int .u8 0) ∧ Below w.heap.size w w' := by
  have C := hidI (find_nil s d)
  go_enter Try.func21, Try.ntmps21
  go_wp2_with (go_at_call 53; refine Calls.mono (C.out _) ?_; rintro e w1 ⟨rfl, hb1⟩; refine Hid.out ?_)
  refine hidI ?_
  have hsz := hb1.size
  simp only [World.size_alloc] at hsz
  have HB : Hid (Below w.heap.size w w1) := hidI (Below.trans (by (repeat (first | exact Below.refl _ _ | assumption | refine Below.drew ?_ | refine Below.alloc ?_ (by first | omega | (simp; done) | (simp; omega)) _ | refine Below.setCell ?_ (by first | omega | (simp; done) | (simp; omega)) _))) (hb1.mono (by simp)))
  clear hb1 C
  go_wp2
  go_ret
  exact ⟨rfl, by have := HB.out; (repeat (first | exact Below.refl _ _ | assumption | refine Below.drew ?_ | refine Below.alloc ?_ (by first | omega | (simp; done) | (simp; omega)) _ | refine Below.setCell ?_ (by first | omega | (simp; done) | (simp; omega)) _))⟩
theorem keys_nil (w : World) : Calls Try.prog 22 #[.pointer none] w fun e w' => e = .returned (.slice none 0 0) ∧ w = w' := by
  go_enter Try.func22, Try.ntmps22
  go_wp2
  go_ret
  exact ⟨rfl, rfl⟩
theorem len_nil (s : Int) (w : World) : Calls Try.prog 23 #[.pointer none, .int .u8 s] w fun e w' => e = .returned (.int .i64 0) ∧ w = w' := by
  go_enter Try.func23, Try.ntmps23
  go_wp2
  go_ret
  exact ⟨rfl, rfl⟩
theorem same_nil (o : Option Addr) (w : World) : Calls Try.prog 24 #[.pointer none, .pointer o] w fun e w' => e = .returned (.bool false) ∧ w = w' := by
  go_enter Try.func24, Try.ntmps24
  go_wp2
  go_ret
  exact ⟨rfl, rfl⟩
theorem fork_nil (w : World) : Calls Try.prog 9 #[.pointer none] w fun e w' => e = .returned (.pointer none) ∧ w = w' := by
  go_enter Try.func9, Try.ntmps9
  go_wp2
  go_ret
  exact ⟨rfl, rfl⟩
end Go.Proofs.Ytbjoljokdjgbnac
