/-
  Part 22 of the proof: Has, TlHas.
-/
import Derived.Shelf.Strings.Runes
import Derived.Test.YtmekkhfohmfjkaaGreatDoorProg
import Derived.Test.YtmekkhfohmfjkaaGreatDoorTm02
namespace Go.Proofs
open Go.Shelf
def Tryz.lays151_ren : Go.Shelf.Ren := ⟨fun | 151 => 186 | 152 => 191 | 137 => 194 | 119 => 195 | 224 => 196 | 225 => 197 | 217 => 198 | 266 => 199 | n => n, fun | 9 => 9 | 21 => 21 | 4 => 4 | 3 => 3 | 5 => 5 | 0 => 0 | 46 => 187 | n => n, fun | n => n⟩
theorem Tryz.lays151 : Go.Proofs.Lays.n151 Tryz.prog Tryz.lays151_ren := {
 mixed := by kernel_rfl
 f119 := Tryz.func195.trans (congrArg some (by kernel_rfl))
 f137 := Tryz.func194.trans (congrArg some (by kernel_rfl))
 f151 := Tryz.func186.trans (congrArg some (by kernel_rfl))
 f152 := Tryz.func191.trans (congrArg some (by kernel_rfl))
 f217 := Tryz.func198.trans (congrArg some (by kernel_rfl))
 f224 := Tryz.func196.trans (congrArg some (by kernel_rfl))
 f225 := Tryz.func197.trans (congrArg some (by kernel_rfl))
 f266 := Tryz.func199.trans (congrArg some (by kernel_rfl))
 t0 := Tryz.underlying0
 a0 := Tryz.isAgg0
 z0 := Tryz.sizeOf0
 v0 := Tryz.zeroValue0
 t3 := Tryz.underlying3
 a3 := Tryz.isAgg3
 z3 := Tryz.sizeOf3
 v3 := Tryz.zeroValue3
 t4 := Tryz.underlying4
 a4 := Tryz.isAgg4
 z4 := Tryz.sizeOf4
 v4 := Tryz.zeroValue4
 t5 := Tryz.underlying5
 a5 := Tryz.isAgg5
 z5 := Tryz.sizeOf5
 v5 := Tryz.zeroValue5
 t9 := Tryz.underlying9
 a9 := Tryz.isAgg9
 z9 := Tryz.sizeOf9
 v9 := Tryz.zeroValue9
 t21 := Tryz.underlying21
 a21 := Tryz.isAgg21
 z21 := Tryz.sizeOf21
 v21 := Tryz.zeroValue21
 t46 := Tryz.underlying187
 a46 := Tryz.isAgg187
 z46 := Tryz.sizeOf187
 v46 := Tryz.zeroValue187 }
open Go.RowKit Go.Lib in
theorem Tryz.strings_ContainsRune_ascii (s : ByteArray) (r : Int) (w : World) (h0 : 0 ≤ r) (h1 : r < 128) :
  Calls Tryz.prog 186 #[.string s, .int .i32 r] w fun e w' => e = .returned (.bool (decide (0 ≤ Lib.indexByte s.data.toList r.toNat.toUInt8))) ∧ w' = w := Any.strings_ContainsRune_ascii Tryz.lays151 s r w h0 h1
end Go.Proofs
namespace Go.Proofs.YtmekkhfohmfjkaaGreatDoor
open Go.RowKit Go.Deep Go.MapKept
def hasB (p : ByteArray) (c : Nat) : Bool := decide (0 ≤ Lib.indexByte p.data.toList c.toUInt8)
theorem has_any (sw sp : ByteArray) (c : Nat) (hc : c < 128) (w : World) : Calls Tryz.prog 172 #[.agg #[.string sw, .string sp], .int .i32 (c : Int)] w fun e w' => e = .returned (.bool (hasB sp c)) ∧ Below w.heap.size w w' := by
 have C := hidI (fun W => Tryz.strings_ContainsRune_ascii sp (c : Int) W (by omega) (by omega))
 go_enter Tryz.func172, Tryz.ntmps172
 go_wp2_with (go_at_call 186; refine (C.out _).mono ?_; intro e w1 h1; obtain ⟨rfl, rfl⟩ := h1; clear C)
 go_ret
 exact ⟨rfl, by (repeat (first | exact Below.refl _ _ | assumption | refine Below.drew ?_ | refine Below.alloc ?_ (by first | omega | (simp; done) | (simp; omega)) _ | refine Below.setCell ?_ (by first | omega | (simp; done) | (simp; omega)) _))⟩
end Go.Proofs.YtmekkhfohmfjkaaGreatDoor
