/-
  A table on its way, behind bytes: what Declare and Load come to.
-/
import Derived.Test.YtbjoljokdjgbnabRdWM
namespace Go.Proofs.Ytbjoljokdjgbnab
open Go.RowKit Go.Deep Go.MapKept
/-- A table of 3 nodes and 2 edges at blocks from b0 on, with these columns. -/
def TB (b0 : Nat) (w : World) (tb mb : Nat) (os : List One) : Prop := ∃ cs, Whole w tb mb 3 2 cs ∧ Agree cs os ∧ b0 ≤ tb ∧ b0 ≤ mb ∧ ∀ c ∈ cs, b0 ≤ c.row
theorem TB.below {b0 B : Nat} {w w' : World} {tb mb : Nat} {os : List One} (h : TB b0 w tb mb os) (hb : Below B w w') (hB : w.heap.size ≤ B) : TB b0 w' tb mb os := by
  obtain ⟨cs, hW, hr⟩ := h
  exact ⟨cs, hW.below hb hB, hr⟩
theorem TB.low {b0 : Nat} {w : World} {tb mb : Nat} {os : List One} (h : TB b0 w tb mb os) : b0 ≤ w.heap.size ∧ mb < w.heap.size := by
  obtain ⟨cs, hW, _, _, hm, _⟩ := h
  have := (Array.getElem?_eq_some_iff.1 hW.2.2.2.1).1
  exact ⟨by omega, this⟩
theorem TB.decl {b0 : Nat} {w : World} {tb mb : Nat} {os : List One} (h : TB b0 w tb mb os) (s : ByteArray) (d q : Int) (hs : s.size ≤ maxLen) (hd : Wf8 d) :
    Calls Try.prog 43 #[.pointer (some ⟨tb, 0, none⟩), ke s d, .int .u8 q] w fun e w' => e = .returned (.int .i64 (rdeclE os s d q)) ∧ (rdeclE os s d q ≠ 0 → Below w.heap.size w w') ∧ (rdeclE os s d q = 0 → w.grownBy w' (some mb) ∧ TB b0 w' tb mb (insO os ⟨s, d, q, List.replicate (len32 d) 0⟩)) := by
  obtain ⟨cs, hW, hA, h1, h2, h3⟩ := h
  have hL : sideLen 3 2 d = (len32 d : Nat) := by unfold len32 sideLen; split <;> (try split) <;> (try split) <;> rfl
  have hL30 : len32 d ≤ 30 := by unfold len32 sideLen; split <;> (try split) <;> (try split) <;> decide
  have e0 := declE_eq hA hW s d q
  have hlt : b0 ≤ w.heap.size := by have := (Array.getElem?_eq_some_iff.1 hW.2.2.2.1).1; omega
  refine (whole_decl hW s d q hs hd (len32 d) hL hL30).mono ?_
  rintro e u1 ⟨rfl, p1, p2⟩
  rw [e0] at p1 p2
  refine ⟨by rw [e0], p1, fun hc => ?_⟩
  obtain ⟨r, hr, _, hb, hk, hW'⟩ := p2 hc
  refine ⟨⟨hb.os, hb.tape, hb.output, hb.size, fun k hk' hne => hk k hk' fun e => hne (by rw [e])⟩, _, hW', hA.ins ⟨s, d, q, List.replicate (len32 d) 0, r, len32 d⟩ (fun x hxm hxk => ?_), h1, h2, fun c hc => ?_⟩
  · obtain ⟨_, _, _, hf, _⟩ := rdecl_ok hc
    have hf2 := hA.find hW.2.2.2.2.2.1 s d
    rw [hf] at hf2
    rcases col_cases cs s d with ⟨i, c, _, _, _, hf3⟩ | ⟨hno, _⟩
    · rw [hf3] at hf2; simp at hf2
    · exact hno x hxm hxk
  · rcases List.mem_append.1 hc with hc | hc
    · exact h3 c hc
    · obtain rfl := List.mem_singleton.1 hc
      show b0 ≤ r
      omega
theorem TB.load {b0 : Nat} {w : World} {tb mb : Nat} {os : List One} (h : TB b0 w tb mb os) (s : ByteArray) (d : Int) (hs : s.size ≤ maxLen) (hd : Wf8 d) {lv : Value} {zs : List Int} (hz : zs.length ≤ 100000) (hv : Sees w lv zs) :
    Calls Try.prog 74 #[.pointer (some ⟨tb, 0, none⟩), ke s d, lv] w fun e w' => e = .returned (.int .i64 (rloadE os s d zs)) ∧ Below b0 w w' ∧ (rloadE os s d zs = 0 → TB b0 w' tb mb (upO os s d fun _ => zs)) := by
  have hlt := h.low.1
  obtain ⟨cs, hW, hA, h1, h2, h3⟩ := h
  have e0 := loadsE_eq hA hW s d zs
  refine (whole_loads hW hs hd hz hv).mono ?_
  rintro e u1 ⟨rfl, p1, p2⟩
  rw [e0] at p1 p2
  refine ⟨by rw [e0], ?_, fun hc => ?_⟩
  · by_cases hc : rloadE os s d zs = 0
    · obtain ⟨c, hcm, _, _, hg, _⟩ := p2 hc
      have := h3 c hcm
      exact ⟨hg.os, hg.tape, hg.output, hg.size, fun k hk => hg.block k (by omega) fun e => by cases e; omega⟩
    · exact (p1 hc).mono hlt
  · obtain ⟨c, hcm, _, _, hg, hW'⟩ := p2 hc
    refine ⟨_, hW', hA.up s d fun _ => zs, h1, h2, fun x hx => ?_⟩
    have hx2 : x.row ∈ (loadC cs s d zs).map Column.row := List.mem_map.2 ⟨x, hx, rfl⟩
    rw [show (loadC cs s d zs).map Column.row = cs.map Column.row from rows_map cs s d fun _ => zs] at hx2
    obtain ⟨c', hc', he⟩ := List.mem_map.1 hx2
    rw [← he]
    exact h3 c' hc'
/-- A column put among others is found again. -/
theorem ins_find {os : List One} {s : ByteArray} {d q : Int} {vs : List Int} (hf : os.find? (One.at s d) = none) : (insO os ⟨s, d, q, vs⟩).find? (One.at s d) = some ⟨s, d, q, vs⟩ := by
  unfold insO
  rw [List.find?_append]
  have h1 : (os.take (insAt (One.ky ⟨s, d, q, vs⟩) os)).find? (One.at s d) = none := List.find?_eq_none.2 fun x hx => List.find?_eq_none.1 hf x (List.mem_of_mem_take hx)
  rw [h1]
  simp [One.at]
theorem ins_up {os : List One} {s : ByteArray} {d q : Int} {vs zs : List Int} (hf : os.find? (One.at s d) = none) : upO (insO os ⟨s, d, q, vs⟩) s d (fun _ => zs) = insO os ⟨s, d, q, zs⟩ := by
  have hid : ∀ l : List One, (∀ x ∈ l, x ∈ os) → l.map (fun o => if o.at s d then { o with vals := zs } else o) = l := fun l hl => by
    conv => rhs; rw [← List.map_id l]
    refine List.map_congr_left fun x hx => ?_
    have := List.find?_eq_none.1 hf x (hl x hx)
    rw [if_neg this]
    rfl
  have hat : One.at s d ⟨s, d, q, vs⟩ = true := by simp [One.at]
  unfold upO insO
  rw [List.map_append, List.map_cons, hid _ (fun x hx => List.mem_of_mem_take hx), hid _ (fun x hx => List.mem_of_mem_drop hx), if_pos hat]
  rfl
theorem ins_load {os : List One} {s : ByteArray} {d q : Int} {zs : List Int} (hf : os.find? (One.at s d) = none) (hl : zs.length = len32 d) : rloadE (insO os ⟨s, d, q, List.replicate (len32 d) 0⟩) s d zs = if zs.all (rfit q) then 0 else 3 := by
  unfold rloadE
  rw [ins_find hf]
  simp [hl]
def ReadPost (w0 : World) (tb mb : Nat) (os : List One) (bs : List Int) (e : Ending) (w' : World) : Prop := Below w0.heap.size w0 w' ∧
  ((readO os bs = none ∧ e = .returned (.tuple #[.slice none 0 0, .bool false])) ∨
   (∃ (o : One) (r : List Int) (ua : Option Addr) (uc : Nat), readO os bs = some (o, r) ∧ e = .returned (.tuple #[.slice ua r.length uc, .bool true]) ∧ SB w0 ua uc r ∧ TB w0.heap.size w' tb mb (insO os o)))
end Go.Proofs.Ytbjoljokdjgbnab
