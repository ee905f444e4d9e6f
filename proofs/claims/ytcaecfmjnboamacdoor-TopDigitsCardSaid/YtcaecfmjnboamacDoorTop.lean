/-
  The statement TopDigits: its function comes to true at every number of 64 bits.
-/
import Derived.Test.YtcaecfmjnboamacDoorCalls
namespace Go.Proofs.YtcaecfmjnboamacDoor
open Go.RowKit
theorem bytes_parts {a : Int} (h : In64 a) : ∃ a0 a1 a2 a3 a4 a5 a6 a7 : Int, by8 a = #[.int .u8 a0, .int .u8 a1, .int .u8 a2, .int .u8 a3, .int .u8 a4, .int .u8 a5, .int .u8 a6, .int .u8 a7] ∧ jn a0 a1 a2 a3 a4 a5 a6 a7 = a ∧ (0 ≤ a0 ∧ a0 ≤ 255) ∧ (0 ≤ a1 ∧ a1 ≤ 255) ∧ (0 ≤ a2 ∧ a2 ≤ 255) ∧ (0 ≤ a3 ∧ a3 ≤ 255) ∧ (0 ≤ a4 ∧ a4 ≤ 255) ∧ (0 ≤ a5 ∧ a5 ≤ 255) ∧ (0 ≤ a6 ∧ a6 ≤ 255) ∧ (0 ≤ a7 ∧ a7 ≤ 255) :=
  ⟨_, _, _, _, _, _, _, _, rfl, jn_by8 h, ⟨by omega, by omega⟩, ⟨by omega, by omega⟩, ⟨by omega, by omega⟩, ⟨by omega, by omega⟩, ⟨by omega, by omega⟩, ⟨by omega, by omega⟩, ⟨by omega, by omega⟩, ⟨by omega, by omega⟩⟩
theorem whole {a : Int} (h : In64 a) : wrap64 (up (wrap64 (dn a 32 - dn (nar 32 a) 32)) 32 + nar 32 a) = a := by
  rw [up_eq (wrap64_in _), dn_eq, dn_eq, nar32 h]
  unfold In64 at h
  unfold wrap64
  split <;> omega
theorem Hid.mk' {p : Prop} (h : p) : Hid p := h
set_option maxHeartbeats 1000000 in
theorem topDigits_walk (a : Int) (w : World) (ha : In64 a) (ht : Tab w) :
    Calls Tryd.prog 3 #[.int .i64 a] w fun e w' => e = .returned (.bool true) ∧ Below w.heap.size w w' := by
  obtain ⟨a0, a1, a2, a3, a4, a5, a6, a7, hby, hjn, h0, h1, h2, h3, h4, h5, h6, h7⟩ := bytes_parts ha
  have cA := fun w => join_any a0 a1 a2 a3 a4 a5 a6 a7 h0 h1 h2 h3 h4 h5 h6 h7 w
  rw [hjn] at cA
  have CA : Hid (∀ w, _) := cA
  have cB := fun w => bytes_any a w
  rw [hby] at cB
  have CB : Hid (∀ w, _) := cB
  obtain ⟨D, hD⟩ : ∃ D : ByteArray, D = ⟨(Lib.itoa a).toArray⟩ := ⟨_, rfl⟩
  have hDl : D.data.toList = Lib.itoa a := by rw [hD]
  have hDs : D.size ≤ 281474976710656 := by
    rw [Lib.size_eq, hDl]
    have := Lib.itoa_length_le a ha.1 ha.2
    omega
  have cD := fun (w : World) (ht : Tab w) => digits_any a w ha ht
  rw [← hD] at cD
  have CD : Hid (∀ w, _) := cD
  have CP := Hid.mk' (fun (w : World) (ht : Tab w) => parse_yes D hDs a ha hDl w ht)
  have q1 : (wrap64 (up (wrap64 (dn a 32 - dn (nar 32 a) 32)) 32 + nar 32 a) == a) = true := by rw [whole ha]; simp
  have q2 : (nar 8 a == dn (up a 56) 56) = true := by rw [show nar 8 a = dn (up a 56) 56 from rfl]; simp
  clear cA cB cD hby hjn hD hDl hDs h0 h1 h2 h3 h4 h5 h6 h7
  go_enter Tryd.func3, Tryd.ntmps3
  go_wp2_with fail
  refine (CB.out _).mono ?_
  rintro e w1 ⟨rfl, hb1⟩
  have HB : Below w.heap.size w (w1.alloc (.cells #[.int .u8 a0, .int .u8 a1, .int .u8 a2, .int .u8 a3, .int .u8 a4, .int .u8 a5, .int .u8 a6, .int .u8 a7] 23)) := hb1.alloc hb1.size _
  go_wp2_with fail
  refine (CA.out _).mono ?_
  rintro e w2 ⟨rfl, hb2⟩
  have HB := HB.trans (hb2.mono HB.size)
  clear hb2
  go_wp2_with fail
  refine (CD.out _ (ht.on HB)).mono ?_
  rintro e w3 ⟨rfl, hb3⟩
  have HB := HB.trans (hb3.mono HB.size)
  clear hb3
  go_wp2_with fail
  refine (CP.out _ (ht.on HB)).mono ?_
  rintro e w4 ⟨rfl, hb4⟩
  have HB := HB.trans (hb4.mono HB.size)
  clear hb4
  go_wp2_with (first | (go_at_call 8; refine (narrow_any _ _ _).mono ?_; rintro e w' ⟨rfl, rfl⟩) | (go_at_call 9; refine (shr_any _ _ _).mono ?_; rintro e w' ⟨rfl, rfl⟩) | (go_at_call 11; refine (shl_any _ _ _).mono ?_; rintro e w' ⟨rfl, rfl⟩) | go_in)
  go_ret
  exact ⟨rfl, HB⟩
end Go.Proofs.YtcaecfmjnboamacDoor
