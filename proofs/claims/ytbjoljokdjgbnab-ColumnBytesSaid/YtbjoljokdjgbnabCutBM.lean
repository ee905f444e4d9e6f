/-
  Parts of a slice of bytes; the numbers that bytes begin with; a text out of bytes.
-/
import Derived.Test.YtbjoljokdjgbnabEncPM
import Derived.OwnWalk
import Derived.Laws.Cover3
import Derived.Laws.BytesArg
namespace Go.Proofs.Ytbjoljokdjgbnab
open Go.RowKit Go.Deep Go.MapKept
/-- A slice of bytes, with no fewer places than bytes. -/
def SB (w : World) (a : Option Addr) (cap : Nat) (bs : List Int) : Prop :=
  bs.length ≤ cap ∧ (bs.length = 0 ∨ ∃ b off, a = some ⟨b, off, none⟩ ∧ ∀ (j : Nat) (z : Int), bs[j]? = some z → w.cell? ⟨b, off + j, none⟩ = some (.int .u8 z))
theorem SB.below {w w' : World} {B cap : Nat} {a : Option Addr} {bs : List Int} (h : SB w a cap bs) (hb : Below B w w') (hB : w.heap.size ≤ B) : SB w' a cap bs := by
  refine ⟨h.1, h.2.imp_right ?_⟩
  rintro ⟨b, off, rfl, h2⟩
  exact ⟨b, off, rfl, fun j c hc => (hb.cell (Nat.lt_of_lt_of_le (World.block_lt_of_cell? w _ (h2 j c hc)) hB)).trans (h2 j c hc)⟩
theorem SB.sees {w : World} {cap : Nat} {a : Option Addr} {bs : List Int} (h : SB w a cap bs) : SeesC w (.slice a bs.length cap) bs.length 1 (cellsB bs) := by
  refine ⟨by simp [cellsB], a, cap, rfl, h.2.imp_right ?_⟩
  rintro ⟨b, off, rfl, h2⟩
  refine ⟨b, off, rfl, fun j c hc => ?_⟩
  simp only [cellsB, List.getElem?_map, Option.map_eq_some_iff] at hc
  obtain ⟨z, hz, rfl⟩ := hc
  exact h2 j z hz
theorem ht66 : Try.prog.underlying 66 = some (.slice (Try.prog.elem 66)) := by simp [Program.elem, Try.underlying66]
theorem he66 : Try.prog.elem 66 = 5 := by simp [Program.elem, Try.underlying66]
/-- What stands behind so many bytes. -/
theorem cut_l {w : World} {a : Option Addr} {cap : Nat} {bs : List Int} (h : SB w a cap bs) (l : Nat) (x : Int) (hx : x = (l : Int)) (hl : l ≤ bs.length) : ∃ ds ua uc, Hid (ds = bs.drop l) ∧ (∀ W : World, (Instr.slice 66 (.slice a bs.length cap) (some (.int .i64 x)) none none).run Try.prog W = .ok (.slice ua ds.length uc) W) ∧ (∀ v, SB v a cap bs → SB v ua uc ds) := by
  obtain ⟨i0, hi, hz0, hz1, hz2⟩ := info_parts Try.info5
  subst hx
  refine ⟨bs.drop l, (if cap = l then a else a.map (·.add (l * 1))), cap - l, hidI rfl, fun W => ?_, fun v h => ⟨by rw [List.length_drop]; have := h.1; omega, ?_⟩⟩
  · rw [run_slice_l W 66 _ _ _ ht66 .i64 _ (by omega) (by omega), he66]
    simp [sizeOf, typeInfo, hi, hz1, sliced, Result.andThen]
  · rcases h.2 with h0 | ⟨b, off, rfl, hc⟩
    · exact .inl (by rw [List.length_drop]; omega)
    · by_cases hlt : l = bs.length
      · exact .inl (by rw [List.length_drop]; omega)
      · have := h.1
        refine .inr ⟨b, off + l, by rw [if_neg (by omega)]; simp [Addr.add_lit], fun j z hj => ?_⟩
        rw [List.getElem?_drop] at hj
        rw [Nat.add_assoc]
        exact hc _ _ hj
/-- What stands ahead of so many bytes. -/
theorem cut_lh {w : World} {a : Option Addr} {cap : Nat} {bs : List Int} (h : SB w a cap bs) (l k : Nat) (x y : Int) (hx : x = (l : Int)) (hy : y = (l : Int) + (k : Int)) (hl : l + k ≤ bs.length) : ∃ ds ua uc, Hid (ds = (bs.drop l).take k) ∧ (∀ W : World, (Instr.slice 66 (.slice a bs.length cap) (some (.int .i64 x)) (some (.int .i64 y)) none).run Try.prog W = .ok (.slice ua ds.length uc) W) ∧ (∀ v, SB v a cap bs → SB v ua uc ds) := by
  obtain ⟨i0, hi, hz0, hz1, hz2⟩ := info_parts Try.info5
  subst hx
  have hlen : ((bs.drop l).take k).length = k := by rw [List.length_take, List.length_drop]; omega
  have h1 := h.1
  refine ⟨(bs.drop l).take k, (if cap = l then a else a.map (·.add (l * 1))), cap - l, hidI rfl, fun W => ?_, fun v h => ⟨by rw [hlen]; omega, ?_⟩⟩
  · rw [run_slice_lh W 66 _ _ _ ht66 .i64 .i64 _ _ (by omega) (by omega) (by omega), he66, hlen]
    have e : y.toNat - l = k := by omega
    simp [sizeOf, typeInfo, hi, hz1, sliced, Result.andThen, e]
  · rw [hlen]
    rcases h.2 with h0 | ⟨b, off, rfl, hc⟩
    · exact .inl (by omega)
    · by_cases hlt : k = 0
      · exact .inl hlt
      · refine .inr ⟨b, off + l, by rw [if_neg (by omega)]; simp [Addr.add_lit], fun j z hj => ?_⟩
        rw [List.getElem?_take] at hj
        split at hj
        · rw [List.getElem?_drop] at hj
          rw [Nat.add_assoc]
          exact hc _ _ hj
        · cases hj
theorem cut_h {w : World} {a : Option Addr} {cap : Nat} {bs : List Int} (h : SB w a cap bs) (k : Nat) (y : Int) (hy : y = (k : Int)) (hl : k ≤ bs.length) : ∃ ds ua uc, Hid (ds = bs.take k) ∧ (∀ W : World, (Instr.slice 66 (.slice a bs.length cap) none (some (.int .i64 y)) none).run Try.prog W = .ok (.slice ua ds.length uc) W) ∧ (∀ v, SB v a cap bs → SB v ua uc ds) := by
  obtain ⟨i0, hi, hz0, hz1, hz2⟩ := info_parts Try.info5
  subst hy
  have hlen : (bs.take k).length = k := by rw [List.length_take]; omega
  have h1 := h.1
  refine ⟨bs.take k, (if cap = 0 then a else a.map (·.add (0 * 1))), cap - 0, hidI rfl, fun W => ?_, fun v h => ⟨by rw [hlen]; omega, ?_⟩⟩
  · rw [run_slice_h W 66 _ _ _ ht66 .i64 _ (by omega) (by omega), he66, hlen]
    simp [sizeOf, typeInfo, hi, hz1, sliced, Result.andThen]
  · rw [hlen]
    rcases h.2 with h0 | ⟨b, off, rfl, hc⟩
    · exact .inl (by omega)
    · by_cases hlt : k = 0
      · exact .inl hlt
      · refine .inr ⟨b, off, by rw [if_neg (by omega)]; simp [Addr.add_lit], fun j z hj => ?_⟩
        rw [List.getElem?_take] at hj
        split at hj
        · exact hc _ _ hj
        · cases hj
/-- A text out of bytes. -/
theorem text_cut {w : World} {a : Option Addr} {cap : Nat} {bs : List Int} (h : SB w a cap bs) : (convert 66 9 (.slice a bs.length cap)).run Try.prog w = .ok (.string (textOf bs)) w := by
  have hs : Try.prog.underlying 66 = some (.slice 5) := Try.underlying66
  have hu : Try.prog.underlying 5 = some (.int .u8) := Try.underlying5
  have empty : bs = [] → (convert 66 9 (.slice a bs.length cap)).run Try.prog w = .ok (.string (textOf bs)) w := by
    rintro rfl
    have et : textOf [] = ByteArray.empty := rfl
    rw [et]
    cases a with
    | none => exact run_convert_bytes_nil w 66 5 hs hu _ _ 9 Try.underlying9
    | some p =>
      rw [List.length_nil, run_convert_bytes_string w 66 9 5 _ 0 cap hs hu Try.underlying9]
      simp [Conv.bytesToString, loadCells, loadCellsFrom]
  rcases h.2 with h0 | ⟨b, off, rfl, hc⟩
  · exact empty (List.length_eq_zero_iff.1 h0)
  · exact run_convert_bytes_arg w 66 5 hs hu b off bs.length cap bs rfl (fun i hi => by
      have := hc i bs[i] (List.getElem?_eq_getElem hi)
      rw [this]; simp [hi]) 9 Try.underlying9
/-- The document's taken. -/
def TakenPost (w : World) (k : Nat) (a : Option Addr) (cap : Nat) (bs : List Int) (e : Ending) (w' : World) : Prop := Below w.heap.size w w' ∧
  ((bs.length < k ∧ e = .returned (.tuple #[.slice none 0 0, .slice none 0 0, .bool false])) ∨
   (k ≤ bs.length ∧ ∃ (ps ds : List Int) (ua : Option Addr) (uc : Nat) (va : Option Addr) (vc : Nat), Hid (ps = bs.take k) ∧ Hid (ds = bs.drop k) ∧ e = .returned (.tuple #[.slice ua ps.length uc, .slice va ds.length vc, .bool true]) ∧ (∀ v, SB v a cap bs → SB v ua uc ps) ∧ (∀ v, SB v a cap bs → SB v va vc ds)))
theorem taken_any (k : Nat) (x : Int) (hx : x = (k : Int)) (a : Option Addr) (cap : Nat) (bs : List Int) (w : World) (h : SB w a cap bs) : Calls Try.prog 85 #[.slice a bs.length cap, .int .i64 x] w (TakenPost w k a cap bs) := by
  by_cases hk : k ≤ bs.length
  · obtain ⟨ps, ua, uc, HPS, hu, hS⟩ := cut_h h k x hx hk
    obtain ⟨ds, va, vc, HDS, hv, hT⟩ := cut_l h k x hx hk
    have j1 : ¬ ((bs.length : Int) < x) := by omega
    have HX := hidI hx
    have HS := hidI hS
    have HT := hidI hT
    clear hx hS hT h
    go_enter Try.func85, Try.ntmps85
    go_wp2
    go_region
    all_goals
      go_wp2
      go_ret3
      have hbl : Below w.heap.size w w.drew := (Below.refl _ _).drew
      exact ⟨hbl, .inr ⟨hk, _, _, _, _, _, _, HPS, HDS, rfl, HS.out, HT.out⟩⟩
  · have j1 : (bs.length : Int) < x := by omega
    have HX := hidI hx
    clear hx
    go_enter Try.func85, Try.ntmps85
    go_wp2
    go_ret3
    exact ⟨Below.refl _ _, .inl ⟨by omega, rfl⟩⟩
/-- bytes.Equal. -/
theorem equalB_any (a c : Option Addr) (cap cap2 : Nat) (bs ds : List Int) (hb : ∀ z ∈ bs, IsB z) (hd : ∀ z ∈ ds, IsB z) (w : World) (h : SB w a cap bs) (h2 : SB w c cap2 ds) : Calls Try.prog 64 #[.slice a bs.length cap, .slice c ds.length cap2] w fun e w' => e = .returned (.bool (decide (bs = ds))) ∧ w = w' := by
  have e1 := text_cut h
  have e2 := text_cut h2
  have e3 : (decide (textOf bs = textOf ds)) = decide (bs = ds) := by
    rw [decide_eq_decide]
    refine ⟨fun e => ?_, fun e => by rw [e]⟩
    have := congrArg nums e
    rwa [nums_text hb, nums_text hd] at this
  rw [← e3]
  obtain ⟨s, hs⟩ : ∃ s, textOf bs = s := ⟨_, rfl⟩
  obtain ⟨t, ht⟩ : ∃ t, textOf ds = t := ⟨_, rfl⟩
  rw [hs] at e1 ⊢
  rw [ht] at e2 ⊢
  clear e3 h h2 hb hd hs ht
  go_enter Try.func64, Try.ntmps64
  go_wp2
  go_ret
  refine ⟨congrArg (fun b => Ending.returned (Value.bool b)) ?_, rfl⟩
  show (s.toList == t.toList) = decide (s = t)
  by_cases h : s = t
  · subst h; simp
  · have : s.toList ≠ t.toList := fun e => h (by rw [Go.ByteArray.toList_eq, Go.ByteArray.toList_eq] at e; exact ByteArray.ext (Array.toList_inj.1 e))
    simp [h, this]
end Go.Proofs.Ytbjoljokdjgbnab
