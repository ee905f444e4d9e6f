/-
  The program's small functions of signs and pieces.
-/
import Derived.Test.YtnlplkchkhibaaaDoorToks
import Derived.Test.YtnlplkchkhibaaaDoorRToks
import Derived.Test.YtnlplkchkhibaaaDoorRange
import Derived.Laws.ResultCell
namespace Go.Proofs.YtnlplkchkhibaaaDoor
open Go.RowKit Go.Deep Go.MapKept
def brI (c : Int) : Bool := c == 40 || c == 41
theorem brI_eq (c : UInt8) : brI (c.toNat : Int) = bracket c := by
  unfold brI bracket
  have h1 : ((c.toNat : Int) == 40) = (c == 40) := u8_eq c 40 (by decide)
  have h2 : ((c.toNat : Int) == 41) = (c == 41) := u8_eq c 41 (by decide)
  rw [h1, h2]
theorem spaced_any (c : Int) (w : World) : Calls Tryd.prog 58 #[.int .i32 c] w fun e w' => e = .returned (.bool (spI c)) ∧ w = w' := by
  unfold spI
  obtain ⟨b1, h1⟩ : ∃ b, (c == 32) = b := ⟨_, rfl⟩
  obtain ⟨b2, h2⟩ : ∃ b, (c == 9) = b := ⟨_, rfl⟩
  obtain ⟨b3, h3⟩ : ∃ b, (c == 10) = b := ⟨_, rfl⟩
  rw [h1, h2, h3]
  cases b1 <;> cases b2 <;> cases b3
  all_goals
    go_enter Tryd.func58, Tryd.ntmps58
    go_wp2
    go_ret
    exact ⟨rfl, rfl⟩
theorem bracket_any (c : Int) (w : World) : Calls Tryd.prog 57 #[.int .i32 c] w fun e w' => e = .returned (.bool (brI c)) ∧ w = w' := by
  unfold brI
  obtain ⟨b1, h1⟩ : ∃ b, (c == 40) = b := ⟨_, rfl⟩
  obtain ⟨b2, h2⟩ : ∃ b, (c == 41) = b := ⟨_, rfl⟩
  rw [h1, h2]
  cases b1 <;> cases b2
  all_goals
    go_enter Tryd.func57, Tryd.ntmps57
    go_wp2
    go_ret
    exact ⟨rfl, rfl⟩
/-- Clone. -/
theorem clone_any (s : ByteArray) (hs : s.size ≤ 140737488355328) (w : World) : Calls Tryd.prog 51 #[.string s] w fun e w' => e = .returned (.string s) ∧ Below w.heap.size w w' := by
  have C := hidI (fun w => Any.stringslite_Clone Tryd.laysM316 s w (by omega))
  go_enter Tryd.func51, Tryd.ntmps51
  go_wp2_with (go_at_call 67; refine Calls.mono (C.out _) ?_; rintro e w' ⟨rfl, hb⟩; have HB := hidI hb; clear hb)
  go_ret
  exact ⟨rfl, HB.out⟩
theorem pieceKind_any (s : ByteArray) (hl : s.size ≤ 140737488355328) (w : World) (h : Laid w) : Calls Tryd.prog 40 #[.string s] w fun e w' => e = .returned (.int .u8 (kindP s.data.toList)) ∧ Below w.heap.size w w' := by
  have C := hidI (kind_any s hl w h)
  have hk : kindP s.data.toList = if s.toList == [40] then 1 else if s.toList == [41] then 2 else kindW s := by
    unfold kindP
    rw [ByteArray.toList_eq, bytes_back]
    simp
  rw [hk]
  obtain ⟨K, hK⟩ : ∃ K, kindW s = K := ⟨_, rfl⟩
  rw [hK] at C ⊢
  clear hk hK
  cases h0 : (s.toList == [40]) with
  | true =>
    go_enter Tryd.func40, Tryd.ntmps40
    go_wp2
    go_ret
    exact ⟨rfl, Below.refl _ _⟩
  | false =>
    cases h1 : (s.toList == [41]) with
    | true =>
      go_enter Tryd.func40, Tryd.ntmps40
      go_wp2
      go_ret
      exact ⟨rfl, Below.refl _ _⟩
    | false =>
      go_enter Tryd.func40, Tryd.ntmps40
      go_wp2_with (go_at_call 50; refine Calls.mono C.out ?_; rintro e w1 ⟨rfl, hb1⟩; have H1 := hidI hb1; clear hb1)
      go_ret
      exact ⟨rfl, H1.out⟩
theorem pieces_any (s : ByteArray) (w : World) : Calls Tryd.prog 39 #[.string s] w fun e w' => e = .returned (.func (.func 56) #[] #[.pointer (some ⟨w.heap.size, 0, none⟩)]) ∧ w.alloc (.cells #[.string s] 9) = w' := by
  go_enter Tryd.func39, Tryd.ntmps39
  go_wp2
  go_ret
  exact ⟨rfl, rfl⟩
theorem results_one {fn : Func} {p : Tmp} {ty : TypeId} (h : fn.results = #[.cell p ty]) (tmps : Array Value) (P : Program) (w : World) :
    (results fn tmps).run P w = ((asAddr (tmps.getD p undef)).run P w).andThen fun a w₁ => (loadVar ty a).run P w₁ := by
  simp only [results, h]
  simp [Sem.run_bind, Result.andThen]
theorem zero_cells {w w1 : World} (hb : Below (w.alloc (.cells #[.int .u8 0, .string ⟨#[]⟩, .int .i64 0, .int .i64 0] 37)).heap.size (w.alloc (.cells #[.int .u8 0, .string ⟨#[]⟩, .int .i64 0, .int .i64 0] 37)) w1) :
    (w1.cell? ⟨w.heap.size, 0, none⟩ = some (.int .u8 0) ∧ w1.cell? ⟨w.heap.size, 1, none⟩ = some (.string ⟨#[]⟩) ∧ w1.cell? ⟨w.heap.size, 2, none⟩ = some (.int .i64 0) ∧ w1.cell? ⟨w.heap.size, 3, none⟩ = some (.int .i64 0)) ∧ ∀ k, w1.frozen? ⟨w.heap.size, k, none⟩ = false := by
  obtain ⟨h0, h1, h2, h3⟩ := tok_cells0 w 0
  have hlt : w.heap.size < (w.alloc (.cells #[.int .u8 0, .string ⟨#[]⟩, .int .i64 0, .int .i64 0] 37)).heap.size := by simp
  exact ⟨⟨(hb.cell hlt).trans h0, (hb.cell hlt).trans h1, (hb.cell hlt).trans h2, (hb.cell hlt).trans h3⟩, fun k => (hb.frozen hlt).trans (tok_free w 0 k)⟩
theorem four_cells {w w1 : World} {a b c d : Value} (hb : Below (w.alloc (.cells #[a, b, c, d] 37)).heap.size (w.alloc (.cells #[a, b, c, d] 37)) w1) :
    (w1.cell? ⟨w.heap.size, 0, none⟩ = some a ∧ w1.cell? ⟨w.heap.size, 1, none⟩ = some b ∧ w1.cell? ⟨w.heap.size, 2, none⟩ = some c ∧ w1.cell? ⟨w.heap.size, 3, none⟩ = some d) ∧ ∀ k, w1.frozen? ⟨w.heap.size, k, none⟩ = false := by
  have hlt : w.heap.size < (w.alloc (.cells #[a, b, c, d] 37)).heap.size := by simp
  refine ⟨⟨(hb.cell hlt).trans ?_, (hb.cell hlt).trans ?_, (hb.cell hlt).trans ?_, (hb.cell hlt).trans ?_⟩, fun k => (hb.frozen hlt).trans ?_⟩ <;> go_simp
set_option maxRecDepth 100000 in
set_option maxHeartbeats 4000000 in
theorem token_any (k : Int) (s : ByteArray) (i : Int) (hs : s.size ≤ 140737488355328) (w : World) (h : Laid w) : Calls Tryd.prog 41 #[.int .u8 k, .string s, .int .i64 i] w fun e w' =>
    e = .returned (.agg #[.int .u8 k, .string s, .int .i64 (if k = 4 then numV s else 0), .int .i64 i]) ∧ Below w.heap.size w w' := by
  have C := hidI (clone_any s hs)
  have CP := hidI (parse_any s hs)
  have HL := hidI h
  cases hk : (k == 4) with
  | false =>
    have hk' : ¬ k = 4 := by simpa using hk
    rw [if_neg hk']
    clear hk' h
    go_enter Tryd.func41, Tryd.ntmps41
    go_wp2_with (go_at_call 51; refine Calls.mono (C.out _) ?_; rintro e w1 ⟨rfl, hb1⟩; have H1 := hidI hb1; have hlt1 := Nat.lt_of_lt_of_le (show w.heap.size < _ by simp) hb1.size; obtain ⟨⟨z0, z1, z2, z3⟩, zf⟩ := zero_cells (hb1.alloc hb1.size (.cells #[.int .u8 k, .string s, .int .i64 0, .int .i64 i] 37)); have zf0 := zf 0; have zf1 := zf 1; have zf2 := zf 2; have zf3 := zf 3; obtain ⟨⟨x0, x1, x2, x3⟩, xf⟩ := zero_cells hb1; have xf0 := xf 0; have xf1 := xf 1; have xf2 := xf 2; have xf3 := xf 3; have hne : ¬ w1.heap.size = w.heap.size := (by omega); have hne' : ¬ w.heap.size = w1.heap.size := (by omega); clear hb1 zf xf)
    refine bodyPost_ret (v := .agg #[.int .u8 k, .string s, .int .i64 0, .int .i64 i]) ?_ rfl ?_
    · rw [results_one rfl]
      go_simp
    · refine ⟨rfl, ?_⟩
      have h1 := H1.out
      have h2 : Below w.heap.size w w1 := ((Below.refl _ w).alloc (Nat.le_refl _) _).trans (h1.mono (by simp))
      have h3 := h2.size
      (repeat (first | exact Below.refl _ _ | assumption | refine Below.drew ?_ | refine Below.alloc ?_ (by first | omega | (simp; done) | (simp; omega)) _ | refine Below.setCell ?_ (by first | omega | (simp; done) | (simp; omega)) _))
  | true =>
    obtain rfl : k = 4 := by simpa using hk
    rw [if_pos rfl]
    obtain ⟨nv, hnv⟩ : ∃ nv, numV s = nv := ⟨_, rfl⟩
    rw [hnv] at CP ⊢
    clear hnv h hk
    go_enter Tryd.func41, Tryd.ntmps41
    go_wp2_with (first | (go_at_call 51; refine Calls.mono (C.out _) ?_; rintro e w1 ⟨rfl, hb1⟩; have H1 := hidI hb1; clear hb1) | (go_at_call 59; go_must (refine Calls.mono (CP.out _ (HL.out.on (by have h1 := H1.out; have h2 : Below w.heap.size w w1 := ((Below.refl _ w).alloc (Nat.le_refl _) _).trans (h1.mono (by simp)); have h3 := h2.size; (repeat (first | exact Below.refl _ _ | assumption | refine Below.drew ?_ | refine Below.alloc ?_ (by first | omega | (simp; done) | (simp; omega)) _ | refine Below.setCell ?_ (by first | omega | (simp; done) | (simp; omega)) _))))) ?_); rintro e w2 ⟨rfl, hb2⟩; have H2 := hidI hb2; have hlt1 := Nat.lt_of_lt_of_le (show w.heap.size < _ by simp) H1.out.size; obtain ⟨⟨z0, z1, z2, z3⟩, zf⟩ := zero_cells ((H1.out.alloc H1.out.size (.cells #[.int .u8 4, .string s, .int .i64 0, .int .i64 i] 37)).trans (hb2.mono (by have := H1.out.size; simp only [World.size_alloc] at *; omega))); have zf0 := zf 0; have zf1 := zf 1; have zf2 := zf 2; have zf3 := zf 3; obtain ⟨⟨y0, y1, y2, y3⟩, yf⟩ := four_cells hb2; have yf2 := yf 2; have hne : ¬ w1.heap.size = w.heap.size := (by omega); have hne' : ¬ w.heap.size = w1.heap.size := (by omega); clear hb2 zf yf))
    refine bodyPost_ret (v := .agg #[.int .u8 4, .string s, .int .i64 nv, .int .i64 i]) ?_ rfl ?_
    · rw [results_one rfl]
      go_simp
    · refine ⟨rfl, ?_⟩
      have h1 := H1.out
      have h2 : Below w.heap.size w w1 := ((Below.refl _ w).alloc (Nat.le_refl _) _).trans (h1.mono (by simp))
      have h3 := h2.size
      have h4 : Below w.heap.size w w2 := (h2.alloc h3 _).trans (H2.out.mono (by simp; omega))
      (repeat (first | exact Below.refl _ _ | assumption | refine Below.drew ?_ | refine Below.alloc ?_ (by first | omega | (simp; done) | (simp; omega)) _ | refine Below.setCell ?_ (by first | omega | (simp; done) | (simp; omega)) _))
end Go.Proofs.YtnlplkchkhibaaaDoor
