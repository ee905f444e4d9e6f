/-
  Numbers as bytes, and back; the document's Bytes and Join; slices of bytes.
-/
import Derived.Test.YtdfieflcclbgjaaMBase
import Derived.Laws.Cover3
import Derived.Laws.BytesArg
namespace Go.Proofs.Ytdfieflcclbgjaa
open Go.RowKit Go.Deep Go.MapKept
def IsB (z : Int) : Prop := 0 ≤ z ∧ z ≤ 255
def encW (a : Int) : List Int := [a / 256 / 256 / 256 / 256 / 256 / 256 / 256 % 256, a / 256 / 256 / 256 / 256 / 256 / 256 % 256, a / 256 / 256 / 256 / 256 / 256 % 256, a / 256 / 256 / 256 / 256 % 256, a / 256 / 256 / 256 % 256, a / 256 / 256 % 256, a / 256 % 256, a % 256]
def jn (b0 b1 b2 b3 b4 b5 b6 b7 : Int) : Int := wrap64 (b0 * 72057594037927936 + b1 * 281474976710656 + b2 * 1099511627776 + b3 * 4294967296 + b4 * 16777216 + b5 * 65536 + b6 * 256 + b7)
def joinL : List Int → Int
  | b0 :: b1 :: b2 :: b3 :: b4 :: b5 :: b6 :: b7 :: _ => jn b0 b1 b2 b3 b4 b5 b6 b7
  | _ => 0
theorem join_enc {a : Int} (h : In64 a) (r : List Int) : joinL (encW a ++ r) = a := by
  unfold In64 at h
  simp only [encW, List.cons_append, joinL, jn, wrap64]
  omega
theorem encW_len (a : Int) : (encW a).length = 8 := rfl
theorem encW_isB (a : Int) : ∀ z ∈ encW a, IsB z := by
  intro z hz
  simp only [encW, List.mem_cons, List.not_mem_nil, or_false] at hz
  unfold IsB
  rcases hz with rfl | rfl | rfl | rfl | rfl | rfl | rfl | rfl <;> omega
theorem enc_join {l : List Int} (h : l.length = 8) (hb : ∀ z ∈ l, IsB z) : encW (joinL l) = l := by
  match l, h with
  | [b0, b1, b2, b3, b4, b5, b6, b7], _ =>
    have h0 := hb b0 (by simp)
    have h1 := hb b1 (by simp)
    have h2 := hb b2 (by simp)
    have h3 := hb b3 (by simp)
    have h4 := hb b4 (by simp)
    have h5 := hb b5 (by simp)
    have h6 := hb b6 (by simp)
    have h7 := hb b7 (by simp)
    unfold IsB at h0 h1 h2 h3 h4 h5 h6 h7
    obtain ⟨q, hq⟩ : ∃ q, jn b0 b1 b2 b3 b4 b5 b6 b7 = b0 * 72057594037927936 + b1 * 281474976710656 + b2 * 1099511627776 + b3 * 4294967296 + b4 * 16777216 + b5 * 65536 + b6 * 256 + b7 + 18446744073709551616 * q := by
      unfold jn wrap64
      exact ⟨-((b0 * 72057594037927936 + b1 * 281474976710656 + b2 * 1099511627776 + b3 * 4294967296 + b4 * 16777216 + b5 * 65536 + b6 * 256 + b7 + 9223372036854775808) / 18446744073709551616), by omega⟩
    simp only [joinL]
    obtain ⟨J, hJ⟩ : ∃ J, jn b0 b1 b2 b3 b4 b5 b6 b7 = J := ⟨_, rfl⟩
    rw [hJ] at hq ⊢
    simp only [encW, List.cons.injEq, and_true]
    refine ⟨?_, ?_, ?_, ?_, ?_, ?_, ?_, ?_⟩ <;> omega
def nums (s : ByteArray) : List Int := s.data.toList.map fun c => (c.toNat : Int)
def textOf (l : List Int) : ByteArray := ⟨(l.map fun z => UInt8.ofNat z.toNat).toArray⟩
theorem nums_len (s : ByteArray) : (nums s).length = s.size := by simp [nums]
theorem text_nums (s : ByteArray) : textOf (nums s) = s := by
  unfold textOf nums
  cases s with
  | mk d =>
    congr 1
    rw [List.map_map]
    have : d.toList.map ((fun z : Int => UInt8.ofNat z.toNat) ∘ fun c : UInt8 => (c.toNat : Int)) = d.toList := by
      conv => rhs; rw [← List.map_id d.toList]
      refine List.map_congr_left fun c _ => ?_
      simp
    rw [this]
theorem nums_text {l : List Int} (h : ∀ z ∈ l, IsB z) : nums (textOf l) = l := by
  unfold textOf nums
  simp only [List.map_map]
  conv => rhs; rw [← List.map_id l]
  refine List.map_congr_left fun z hz => ?_
  have := h z hz
  unfold IsB at this
  simp only [Function.comp, id, UInt8.toNat_ofNat']
  omega
theorem wrap64_in (x : Int) : In64 (wrap64 x) := by unfold In64 wrap64; omega
theorem joinL_in (l : List Int) : In64 (joinL l) := by
  unfold joinL
  split
  · exact wrap64_in _
  · unfold In64; omega
theorem joinL_take {b : List Int} (h : 8 ≤ b.length) (k : Nat) : joinL (b.take (8 + k)) = joinL b := by
  match b, h with
  | b0 :: b1 :: b2 :: b3 :: b4 :: b5 :: b6 :: b7 :: r, _ =>
    rw [show 8 + k = k + 1 + 1 + 1 + 1 + 1 + 1 + 1 + 1 by omega]
    rfl
  | [], h => simp at h
  | [_], h => simp at h
  | [_, _], h => simp at h
  | [_, _, _], h => simp at h
  | [_, _, _, _], h => simp at h
  | [_, _, _, _, _], h => simp at h
  | [_, _, _, _, _, _], h => simp at h
  | [_, _, _, _, _, _, _], h => simp at h
def by8 (a : Int) : Array Value := #[.int .u8 (a / 256 / 256 / 256 / 256 / 256 / 256 / 256 % 256), .int .u8 (a / 256 / 256 / 256 / 256 / 256 / 256 % 256), .int .u8 (a / 256 / 256 / 256 / 256 / 256 % 256), .int .u8 (a / 256 / 256 / 256 / 256 % 256), .int .u8 (a / 256 / 256 / 256 % 256), .int .u8 (a / 256 / 256 % 256), .int .u8 (a / 256 % 256), .int .u8 (a % 256)]
theorem by8_wrap (a : Int) : by8 (IntKind.u64.wrap a) = by8 a := by
  unfold by8
  rw [IntKind.wrap_u64]
  rw [show a % 18446744073709551616 / 256 / 256 / 256 / 256 / 256 / 256 / 256 % 256 = a / 256 / 256 / 256 / 256 / 256 / 256 / 256 % 256 by omega]
  rw [show a % 18446744073709551616 / 256 / 256 / 256 / 256 / 256 / 256 % 256 = a / 256 / 256 / 256 / 256 / 256 / 256 % 256 by omega]
  rw [show a % 18446744073709551616 / 256 / 256 / 256 / 256 / 256 % 256 = a / 256 / 256 / 256 / 256 / 256 % 256 by omega]
  rw [show a % 18446744073709551616 / 256 / 256 / 256 / 256 % 256 = a / 256 / 256 / 256 / 256 % 256 by omega]
  rw [show a % 18446744073709551616 / 256 / 256 / 256 % 256 = a / 256 / 256 / 256 % 256 by omega]
  rw [show a % 18446744073709551616 / 256 / 256 % 256 = a / 256 / 256 % 256 by omega]
  rw [show a % 18446744073709551616 / 256 % 256 = a / 256 % 256 by omega]
  rw [show a % 18446744073709551616 % 256 = a % 256 by omega]
theorem bytesR_any (a : Int) (w : World) :
    Calls Try.prog 49 #[.int .i64 a] w fun e w' => e = .returned (.agg (by8 a)) ∧ Below w.heap.size w w' := by
  rw [← by8_wrap a]
  have hu0 : 0 ≤ IntKind.u64.wrap a := by rw [IntKind.wrap_u64]; omega
  have hu1 : IntKind.u64.wrap a ≤ 18446744073709551615 := by rw [IntKind.wrap_u64]; omega
  obtain ⟨u, hu⟩ : ∃ u, IntKind.u64.wrap a = u := ⟨_, rfl⟩
  rw [hu] at hu0 hu1 ⊢
  go_enter Try.func49, Try.ntmps49
  go_wp2
  refine wp_loop_rounds 9 ?_
  rw [rounds_succ]
  go_wp2
  rw [rounds_succ]
  go_wp2
  rw [rounds_succ]
  go_wp2
  rw [rounds_succ]
  go_wp2
  rw [rounds_succ]
  go_wp2
  rw [rounds_succ]
  go_wp2
  rw [rounds_succ]
  go_wp2
  rw [rounds_succ]
  go_wp2
  rw [rounds_succ]
  go_wp2
  exact bodyPost_ret (v := .agg #[.int .u8 (u / 256 / 256 / 256 / 256 / 256 / 256 / 256 % 256), .int .u8 (u / 256 / 256 / 256 / 256 / 256 / 256 % 256), .int .u8 (u / 256 / 256 / 256 / 256 / 256 % 256), .int .u8 (u / 256 / 256 / 256 / 256 % 256), .int .u8 (u / 256 / 256 / 256 % 256), .int .u8 (u / 256 / 256 % 256), .int .u8 (u / 256 % 256), .int .u8 (u % 256)]) (by simp [results, go_sem]) rfl ⟨rfl, ((Below.refl _ _).alloc (Nat.le_refl _) _).alloc (by simp) _⟩
theorem or8 (x b : Int) (h : 0 ≤ b ∧ b ≤ 255) : bits .or .i64 (wrap64 (x * 256)) b = wrap64 (x * 256 + b) := by
  have key : (BitVec.ofInt 64 (wrap64 (x * 256)) ||| BitVec.ofInt 64 b).toNat = ((x * 256) % 18446744073709551616).toNat + b.toNat := by
    rw [BitVec.toNat_or, BitVec.toNat_ofInt, BitVec.toNat_ofInt]
    have e1 : (wrap64 (x * 256) % ((2 ^ 64 : Nat) : Int)).toNat = 2 ^ 8 * ((x * 256) % 18446744073709551616 / 256).toNat := by unfold wrap64; omega
    have e2 : (b % ((2 ^ 64 : Nat) : Int)).toNat = b.toNat := by omega
    rw [e1, e2, ← Nat.two_pow_add_eq_or_of_lt (by omega)]
    omega
  show IntKind.i64.wrap ((BitVec.ofInt 64 (wrap64 (x * 256)) ||| BitVec.ofInt 64 b).toNat : Nat) = wrap64 (x * 256 + b)
  rw [key, IntKind.wrap_i64]
  unfold wrap64
  omega
theorem or0 (b : Int) (h : 0 ≤ b ∧ b ≤ 255) : bits .or .i64 0 b = b := by
  have h1 := or8 0 b h
  rw [show wrap64 (0 * 256) = 0 by decide +kernel, Int.zero_mul, Int.zero_add] at h1
  rw [h1]; unfold wrap64; omega
theorem wrap_step (y b : Int) : wrap64 (wrap64 y * 256 + b) = wrap64 (y * 256 + b) := by unfold wrap64; omega
theorem join_eq (b0 b1 b2 b3 b4 b5 b6 b7 : Int) (h0 : 0 ≤ b0 ∧ b0 ≤ 255) (h1 : 0 ≤ b1 ∧ b1 ≤ 255) (h2 : 0 ≤ b2 ∧ b2 ≤ 255) (h3 : 0 ≤ b3 ∧ b3 ≤ 255) (h4 : 0 ≤ b4 ∧ b4 ≤ 255) (h5 : 0 ≤ b5 ∧ b5 ≤ 255) (h6 : 0 ≤ b6 ∧ b6 ≤ 255) (h7 : 0 ≤ b7 ∧ b7 ≤ 255) : (bits .or .i64 (wrap64 ((bits .or .i64 (wrap64 ((bits .or .i64 (wrap64 ((bits .or .i64 (wrap64 ((bits .or .i64 (wrap64 ((bits .or .i64 (wrap64 ((bits .or .i64 (wrap64 ((bits .or .i64 0 b0) * 256)) b1) * 256)) b2) * 256)) b3) * 256)) b4) * 256)) b5) * 256)) b6) * 256)) b7) = jn b0 b1 b2 b3 b4 b5 b6 b7 := by
  rw [or0 b0 h0, or8 _ b1 h1, or8 _ b2 h2, or8 _ b3 h3, or8 _ b4 h4, or8 _ b5 h5, or8 _ b6 h6, or8 _ b7 h7]
  rw [wrap_step (b0 * 256 + b1) b2, wrap_step ((b0 * 256 + b1) * 256 + b2) b3, wrap_step (((b0 * 256 + b1) * 256 + b2) * 256 + b3) b4, wrap_step ((((b0 * 256 + b1) * 256 + b2) * 256 + b3) * 256 + b4) b5, wrap_step (((((b0 * 256 + b1) * 256 + b2) * 256 + b3) * 256 + b4) * 256 + b5) b6, wrap_step ((((((b0 * 256 + b1) * 256 + b2) * 256 + b3) * 256 + b4) * 256 + b5) * 256 + b6) b7]
  unfold jn
  exact congrArg wrap64 (by omega)
theorem joinR_any (b0 b1 b2 b3 b4 b5 b6 b7 : Int) (h0 : 0 ≤ b0 ∧ b0 ≤ 255) (h1 : 0 ≤ b1 ∧ b1 ≤ 255) (h2 : 0 ≤ b2 ∧ b2 ≤ 255) (h3 : 0 ≤ b3 ∧ b3 ≤ 255) (h4 : 0 ≤ b4 ∧ b4 ≤ 255) (h5 : 0 ≤ b5 ∧ b5 ≤ 255) (h6 : 0 ≤ b6 ∧ b6 ≤ 255) (h7 : 0 ≤ b7 ∧ b7 ≤ 255) (w : World) :
    Calls Try.prog 52 #[.agg #[.int .u8 b0, .int .u8 b1, .int .u8 b2, .int .u8 b3, .int .u8 b4, .int .u8 b5, .int .u8 b6, .int .u8 b7]] w fun e w' => e = .returned (.int .i64 (jn b0 b1 b2 b3 b4 b5 b6 b7)) ∧ Below w.heap.size w w' := by
  go_enter Try.func52, Try.ntmps52
  go_wp2
  refine wp_loop_rounds 9 ?_
  rw [rounds_succ]
  go_wp2
  rw [rounds_succ]
  go_wp2
  rw [rounds_succ]
  go_wp2
  rw [rounds_succ]
  go_wp2
  rw [rounds_succ]
  go_wp2
  rw [rounds_succ]
  go_wp2
  rw [rounds_succ]
  go_wp2
  rw [rounds_succ]
  go_wp2
  rw [rounds_succ]
  go_wp2
  go_ret
  exact ⟨congrArg (fun z => Ending.returned (Value.int .i64 z)) (by unfold jn; exact congrArg wrap64 (by omega)), (Below.refl _ _).alloc (Nat.le_refl _) _⟩
theorem by8_enc (a : Int) : by8 a = ((encW a).map (Value.int .u8)).toArray := rfl
def cellsB (bs : List Int) : List Value := bs.map (Value.int .u8)
theorem cellsB_one (bs : List Int) : ∀ c ∈ cellsB bs, c.oneCell' = true := by
  intro c hc
  obtain ⟨z, _, rfl⟩ := List.mem_map.1 hc
  rfl
theorem cellsB_len (bs : List Int) : (cellsB bs).length = bs.length := by simp [cellsB]
theorem cellsB_get {bs : List Int} {j : Nat} {z : Int} (h : bs[j]? = some z) : (cellsB bs)[j]? = some (.int .u8 z) := by simp [cellsB, h]
theorem Try.info5 : (Try.prog.info? 5).map (fun i => (i.zero, i.size, i.bytes)) = some (some (.int .u8 0), 1, 1) := by kernel_rfl
def SB (w : World) (a : Option Addr) (cap : Nat) (bs : List Int) : Prop :=
  bs.length ≤ cap ∧ (bs.length = 0 ∨ ∃ b off, a = some ⟨b, off, none⟩ ∧ ∀ (j : Nat) (z : Int), bs[j]? = some z → w.cell? ⟨b, off + j, none⟩ = some (.int .u8 z))
theorem SB.below {w w' : World} {B cap : Nat} {a : Option Addr} {bs : List Int} (h : SB w a cap bs) (hb : Below B w w') (hB : w.heap.size ≤ B) : SB w' a cap bs := by
  refine ⟨h.1, h.2.imp_right ?_⟩
  rintro ⟨b, off, rfl, h2⟩
  exact ⟨b, off, rfl, fun j c hc => (hb.cell (Nat.lt_of_lt_of_le (World.block_lt_of_cell? w _ (h2 j c hc)) hB)).trans (h2 j c hc)⟩
theorem SB.sees {w : World} {cap : Nat} {a : Option Addr} {bs : List Int} (h : SB w a cap bs) : SeesC w (.slice a bs.length cap) bs.length 1 (cellsB bs) := by
  refine ⟨by simp [cellsB], a, cap, rfl, h.2.imp_right ?_⟩
  rintro ⟨b, off, rfl, h2⟩
  refine ⟨b, off, rfl, fun j c hc => ?_⟩
  simp only [cellsB, List.getElem?_map, Option.map_eq_some_iff] at hc
  obtain ⟨z, hz, rfl⟩ := hc
  exact h2 j z hz
theorem htB : Try.prog.underlying 40 = some (.slice (Try.prog.elem 40)) := by simp [Program.elem, Try.underlying40]
theorem heB : Try.prog.elem 40 = 5 := by simp [Program.elem, Try.underlying40]
theorem cut_l {w : World} {a : Option Addr} {cap : Nat} {bs : List Int} (h : SB w a cap bs) (l : Nat) (x : Int) (hx : x = (l : Int)) (hl : l ≤ bs.length) : ∃ ds ua uc, Hid (ds = bs.drop l) ∧ (∀ W : World, (Instr.slice 40 (.slice a bs.length cap) (some (.int .i64 x)) none none).run Try.prog W = .ok (.slice ua ds.length uc) W) ∧ (∀ v, SB v a cap bs → SB v ua uc ds) := by
  obtain ⟨i0, hi, hz0, hz1, hz2⟩ := info_parts Try.info5
  subst hx
  refine ⟨bs.drop l, (if cap = l then a else a.map (·.add (l * 1))), cap - l, hidI rfl, fun W => ?_, fun v h => ⟨by rw [List.length_drop]; have := h.1; omega, ?_⟩⟩
  · rw [run_slice_l W 40 _ _ _ htB .i64 _ (by omega) (by omega), heB]
    simp [sizeOf, typeInfo, hi, hz1, sliced, Result.andThen]
  · rcases h.2 with h0 | ⟨b, off, rfl, hc⟩
    · exact .inl (by rw [List.length_drop]; omega)
    · by_cases hlt : l = bs.length
      · exact .inl (by rw [List.length_drop]; omega)
      · have := h.1
        refine .inr ⟨b, off + l, by rw [if_neg (by omega)]; simp [Addr.add_lit], fun j z hj => ?_⟩
        rw [List.getElem?_drop] at hj
        rw [Nat.add_assoc]
        exact hc _ _ hj
theorem cut_lh {w : World} {a : Option Addr} {cap : Nat} {bs : List Int} (h : SB w a cap bs) (l k : Nat) (x y : Int) (hx : x = (l : Int)) (hy : y = (l : Int) + (k : Int)) (hl : l + k ≤ bs.length) : ∃ ds ua uc, Hid (ds = (bs.drop l).take k) ∧ (∀ W : World, (Instr.slice 40 (.slice a bs.length cap) (some (.int .i64 x)) (some (.int .i64 y)) none).run Try.prog W = .ok (.slice ua ds.length uc) W) ∧ (∀ v, SB v a cap bs → SB v ua uc ds) := by
  obtain ⟨i0, hi, hz0, hz1, hz2⟩ := info_parts Try.info5
  subst hx
  have hlen : ((bs.drop l).take k).length = k := by rw [List.length_take, List.length_drop]; omega
  have h1 := h.1
  refine ⟨(bs.drop l).take k, (if cap = l then a else a.map (·.add (l * 1))), cap - l, hidI rfl, fun W => ?_, fun v h => ⟨by rw [hlen]; omega, ?_⟩⟩
  · rw [run_slice_lh W 40 _ _ _ htB .i64 .i64 _ _ (by omega) (by omega) (by omega), heB, hlen]
    have e : y.toNat - l = k := by omega
    simp [sizeOf, typeInfo, hi, hz1, sliced, Result.andThen, e]
  · rw [hlen]
    rcases h.2 with h0 | ⟨b, off, rfl, hc⟩
    · exact .inl (by omega)
    · by_cases hlt : k = 0
      · exact .inl hlt
      · refine .inr ⟨b, off + l, by rw [if_neg (by omega)]; simp [Addr.add_lit], fun j z hj => ?_⟩
        rw [List.getElem?_take] at hj
        split at hj
        · rw [List.getElem?_drop] at hj
          rw [Nat.add_assoc]
          exact hc _ _ hj
        · cases hj
theorem cut_h {w : World} {a : Option Addr} {cap : Nat} {bs : List Int} (h : SB w a cap bs) (k : Nat) (y : Int) (hy : y = (k : Int)) (hl : k ≤ bs.length) : ∃ ds ua uc, Hid (ds = bs.take k) ∧ (∀ W : World, (Instr.slice 40 (.slice a bs.length cap) none (some (.int .i64 y)) none).run Try.prog W = .ok (.slice ua ds.length uc) W) ∧ (∀ v, SB v a cap bs → SB v ua uc ds) := by
  obtain ⟨i0, hi, hz0, hz1, hz2⟩ := info_parts Try.info5
  subst hy
  have hlen : (bs.take k).length = k := by rw [List.length_take]; omega
  have h1 := h.1
  refine ⟨bs.take k, (if cap = 0 then a else a.map (·.add (0 * 1))), cap - 0, hidI rfl, fun W => ?_, fun v h => ⟨by rw [hlen]; omega, ?_⟩⟩
  · rw [run_slice_h W 40 _ _ _ htB .i64 _ (by omega) (by omega), heB, hlen]
    simp [sizeOf, typeInfo, hi, hz1, sliced, Result.andThen]
  · rw [hlen]
    rcases h.2 with h0 | ⟨b, off, rfl, hc⟩
    · exact .inl (by omega)
    · by_cases hlt : k = 0
      · exact .inl hlt
      · refine .inr ⟨b, off, by rw [if_neg (by omega)]; simp [Addr.add_lit], fun j z hj => ?_⟩
        rw [List.getElem?_take] at hj
        split at hj
        · exact hc _ _ hj
        · cases hj
theorem text_cut {w : World} {a : Option Addr} {cap : Nat} {bs : List Int} (h : SB w a cap bs) : (convert 40 9 (.slice a bs.length cap)).run Try.prog w = .ok (.string (textOf bs)) w := by
  have hs : Try.prog.underlying 40 = some (.slice 5) := Try.underlying40
  have hu : Try.prog.underlying 5 = some (.int .u8) := Try.underlying5
  have empty : bs = [] → (convert 40 9 (.slice a bs.length cap)).run Try.prog w = .ok (.string (textOf bs)) w := by
    rintro rfl
    have et : textOf [] = ByteArray.empty := rfl
    rw [et]
    cases a with
    | none => exact run_convert_bytes_nil w 40 5 hs hu _ _ 9 Try.underlying9
    | some p =>
      rw [List.length_nil, run_convert_bytes_string w 40 9 5 _ 0 cap hs hu Try.underlying9]
      simp [Conv.bytesToString, loadCells, loadCellsFrom]
  rcases h.2 with h0 | ⟨b, off, rfl, hc⟩
  · exact empty (List.length_eq_zero_iff.1 h0)
  · exact run_convert_bytes_arg w 40 5 hs hu b off bs.length cap bs rfl (fun i hi => by
      have := hc i bs[i] (List.getElem?_eq_getElem hi)
      rw [this]; simp [hi]) 9 Try.underlying9
end Go.Proofs.Ytdfieflcclbgjaa
