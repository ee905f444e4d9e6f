/-
  What the program's function that yields the pieces of a text yields.
-/
import Derived.Test.YtmihhebcchpmcaaGreatDoorReadW
import Derived.Sort.LoopGhostIn
import Derived.Test.YtmihhebcchpmcaaGreatDoorZed
import Derived.Test.YtmihhebcchpmcaaGreatDoorRange
namespace Go.Proofs.YtmihhebcchpmcaaGreatDoor
open Go.RowKit Go.Shelf Go.Lib
attribute [local go_sem] Oper.semAt_some
abbrev encQ (x : Piece) : Array Value := #[.int .i64 (x.1 : Int), .string (bytesOf x.2)]
theorem slice_to (s : ByteArray) (i j : Nat) (h : i ≤ j) (hj : j ≤ s.size) (w : World) : (Instr.slice 9 (.string s) (some (.int .i64 (i : Int))) (some (.int .i64 (j : Int))) none).run Tryz.prog w = .ok (.string (bytesOf ((s.data.toList.drop i).take (j - i)))) w := by
  have := slice_at s i (j - i) (by omega) w
  rw [show (i : Int) + ((j - i : Nat) : Int) = (j : Int) by omega] at this
  exact this
theorem slice_from (s : ByteArray) (i : Nat) (h : i ≤ s.size) (w : World) : (Instr.slice 9 (.string s) (some (.int .i64 (i : Int))) none none).run Tryz.prog w = .ok (.string (bytesOf ((s.data.toList.drop i).take (s.size - i)))) w := by
  rw [run_slice_string_from_if w 9 s .i64 _ Tryz.underlying9, if_pos (by omega)]
  congr 2
  apply ByteArray.ext
  simp only [bytesOf, ByteArray.data_extract]
  apply Array.toList_inj.1
  rw [Array.toList_extract, List.extract_eq_take_drop, Int.toNat_natCast]
/-- What the walk over a text keeps. -/
def PKeep (s : ByteArray) (T : Nat → Obj → Prop) (W : World) (J : List Piece → World → Prop) (pre : List Piece) (pos : Nat) (wx : World) : Prop :=
  J pre wx ∧ Keeps T W wx ∧ wx.heap[W.heap.size]? = some (.stringIter s pos)
theorem PKeep.next {s : ByteArray} {T : Nat → Obj → Prop} {W : World} {J : List Piece → World → Prop} {pre : List Piece} {pos : Nat} {wx : World} (hJ : OwnFrom W.heap.size J) (hT : ∀ k o, T k o → k < W.heap.size) (h : PKeep s T W J pre pos wx) (q : Nat) : PKeep s T W J pre q (wx.iterAt W.heap.size s q) := by
  obtain ⟨h1, h2, h3⟩ := h
  refine ⟨hJ.putObj (.stringIter s q) h1 (Nat.le_refl _) h3 rfl, h2.trans (Keeps.grown (grownBy_putObj' wx W.heap.size (.stringIter s q)) fun k o e hk ht => ?_), iterAt_heap wx _ s pos q h3⟩
  cases e
  have := hT _ _ ht
  omega
theorem PKeep.first {s : ByteArray} {T : Nat → Obj → Prop} {W : World} {J : List Piece → World → Prop} (hJ : OwnFrom W.heap.size J) (h : J [] W) : PKeep s T W J [] 0 (W.alloc (.stringIter s 0)) :=
  ⟨hJ.alloc _ h, Keeps.alloc _ _ _, World.alloc_heap_new W _⟩
theorem PKeep.yield {s : ByteArray} {T : Nat → Obj → Prop} {W : World} {J : List Piece → World → Prop} {pre pre' : List Piece} {pos : Nat} {wx W3 : World} (h : PKeep s T W J pre pos wx) (hkf : KeepsFrom W.heap.size wx W3) (hJ3 : J pre' W3) (hk3 : Keeps T wx W3) : PKeep s T W J pre' pos W3 :=
  ⟨hJ3, h.2.1.trans hk3, hkf.same _ _ (Nat.le_refl _) h.2.2 rfl⟩
theorem PKeep.text {s s' : ByteArray} {T : Nat → Obj → Prop} {W : World} {J : List Piece → World → Prop} {pre : List Piece} {pos : Nat} {wx : World} {Bg : Nat} (h : PKeep s T W J pre pos wx) (hT : ∀ o, T Bg o) (hc : W.cell? ⟨Bg, 0, none⟩ = some (.string s')) : wx.cell? ⟨Bg, 0, none⟩ = some (.string s') := h.2.1.cell (p := ⟨Bg, 0, none⟩) hT hc
end Go.Proofs.YtmihhebcchpmcaaGreatDoor
/-
  A token put behind the others, in whatever order.
-/
namespace Go.Proofs.YtmihhebcchpmcaaGreatDoor
open Go.RowKit Go.Deep Go.MapKept
/-- A region that draws, in a round, whose last operation may change what others have loaded. -/
theorem round_Z {l n id : Nat} {ops : Array Oper} {Q : Exit → Act → World → Prop} {a : Act} {w : World} (S : World → Prop) (z : Nat) (hd : noDefer ops = true)
    (h : wpZ Tryz.prog .any ops (Goes (Q .normal)) S z ops.size (Array.replicate ops.size false) a w.drew) : (Code.region id ops true).wpIn (WR l) n Tryz.prog Q a w :=
  wpIn_mono (wpIn_region_any Tryz.mixed (wpAnyIn_of hd (goes_out _) _ _ _ _ (wpZ_any _ _ _ _ h))) (goes_imp fun _ _ h => h)
end Go.Proofs.YtmihhebcchpmcaaGreatDoor
/-
  The program's way to find a text's tokens.
-/
namespace Go.Proofs.YtmihhebcchpmcaaGreatDoor
open Go.RowKit Go.Shelf
attribute [local go_sem] Oper.semAt_some
theorem box_below {W W2 : World} {B : Nat} {t : TypeId} {v : Value} (h : Boxed W B t v) (hb : Below W.heap.size W W2) : Boxed W2 B t v := (hb.block B h.lt).trans h
theorem from_below {B : Nat} {W W2 : World} (hb : Below W.heap.size W W2) : KeepsFrom B W W2 := ⟨hb.size, fun k _ _ hk _ => (hb.block k (Array.getElem?_eq_some_iff.1 hk).1).trans hk⟩
theorem owns_set {w : World} {base size n B j : Nat} {e : TypeId} {v u : Value} {xs : List Value} (h : w.ownsRow base e size v n xs) (hne : v.ownBlock ≠ some B) : (w.setCell ⟨B, j, none⟩ u).ownsRow base e size v n xs := by
  refine ⟨h.1, ?_⟩
  rcases h.2 with h0 | ⟨g, cap, cur, rfl, hb, hgb, r⟩
  · exact .inl h0
  · exact .inr ⟨g, cap, cur, rfl, hb, (Below.heap_setCell w ⟨B, j, none⟩ _ g (fun e => hne (by simp only at e; rw [e]; rfl))).trans hgb, r⟩
theorem own_kept {W W' : World} {row : Option Nat} {base e size n : Nat} {v : Value} {xs : List Value} (h : W.ownsRow base e size v n xs) (hg : W.grownBy W' row) (hr : ∀ r, row = some r → ∃ o : Obj, W.heap[r]? = some o ∧ o.isCells = false) : W'.ownsRow base e size v n xs := by
  refine ⟨h.1, ?_⟩
  rcases h.2 with h0 | ⟨g, cap, cur, rfl, hb, hgb, r⟩
  · exact .inl h0
  · refine .inr ⟨g, cap, cur, rfl, hb, (hg.block g (Array.getElem?_eq_some_iff.1 hgb).1 fun e => ?_).trans hgb, r⟩
    obtain ⟨o, ho, hc⟩ := hr g e.symm
    rw [hgb] at ho
    cases ho
    cases hc
theorem drop_prefix {α : Type} {pre ps : List α} {x : α} (h : (pre ++ [x]) <+: ps) : ∃ r, ps.drop pre.length = x :: r ∧ ps.drop (pre.length + 1) = r := by
  obtain ⟨r, rfl⟩ := h
  refine ⟨r, by simp, ?_⟩
  rw [← List.drop_drop]
  simp
theorem run_len (t : Txt) : ∀ (r : Txt) (p : Nat) (b : Option Nat) (k : Bool), ∀ x ∈ run t p b k r, x.2.length ≤ t.length + 1
  | [], p, b, k, x, hx => by
    simp only [run] at hx
    exact word_len t p b x hx
  | c :: r, p, b, true, x, hx => by
    simp only [run] at hx
    split at hx
    · exact run_len t r _ _ _ x hx
    · exact run_len t r _ _ _ x hx
  | c :: r, p, b, false, x, hx => by
    simp only [run] at hx
    split at hx
    · rcases List.mem_append.1 hx with h | h
      · exact word_len t p b x h
      · exact run_len t r _ _ _ x h
    · split at hx
      · rcases List.mem_append.1 hx with h | h
        · exact word_len t p b x h
        · rcases List.mem_cons.1 h with rfl | h
          · simp
          · exact run_len t r _ _ _ x h
      · split at hx
        · rcases List.mem_append.1 hx with h | h
          · exact word_len t p b x h
          · exact run_len t r _ _ _ x h
        · exact run_len t r _ _ _ x hx
where
  word_len (t : Txt) (p : Nat) (b : Option Nat) (x : Piece) (hx : x ∈ word t p b) : x.2.length ≤ t.length + 1 := by
    cases b with
    | none => simp [word] at hx
    | some b =>
      simp only [word, List.mem_singleton] at hx
      subst hx
      simp only [List.length_take, List.length_drop]
      omega
theorem results_three {fn : Func} {p q r : Tmp} {tp tq tr : TypeId} (h : fn.results = #[.cell p tp, .cell q tq, .cell r tr]) (tmps : Array Value) (P : Program) (w : World) :
    (results fn tmps).run P w = ((asAddr (tmps.getD p undef)).run P w).andThen fun a w₁ => ((loadVar tp a).run P w₁).andThen fun u w₂ => ((asAddr (tmps.getD q undef)).run P w₂).andThen fun b w₃ => ((loadVar tq b).run P w₃).andThen fun v w₄ =>
      ((asAddr (tmps.getD r undef)).run P w₄).andThen fun c w₅ => ((loadVar tr c).run P w₅).andThen fun x w₆ => .ok (.tuple #[u, v, x]) w₆ := by
  simp only [results, h]
  simp [Sem.run_bind, Result.andThen]
theorem more_from {W W1 W5 : World} {B : Nat} {v v' : Value} {o : Obj} {b3 : Nat} (hb : Below W.drew.heap.size W.drew W1) (hg : (W1.alloc o).grownBy W5 v.ownBlock) {base e size n : Nat} {xs : List Value} (ho : W.ownsRow base e size v n xs) : KeepsFrom B W (W5.setCell ⟨b3, 0, none⟩ v') := by
  have hb' : Below W.heap.size W W1 := (Below.drew (Below.refl _ W)).trans hb
  refine (from_below hb').trans (((KeepsOthers.alloc W1 o).trans ((KeepsOthers.of_grownBy hg fun j o' ej hj => ?_).trans (KeepsOthers.setCell _ _ _))).from _)
  have h1 := ((own_below ho hb' (Nat.le_refl _)).alloc o).2
  rcases h1 with ⟨rfl, _⟩ | ⟨g, cap, cur, rfl, _, hgb, _⟩
  · cases ej
  · simp only [Value.ownBlock, Option.some.injEq] at ej
    subst ej
    rw [hgb] at hj
    cases hj
    rfl
theorem more_keeps {W W1 W5 : World} {v v' : Value} {o : Obj} {b3 b4 B : Nat} (hb : Below W.drew.heap.size W.drew W1) (hg : (W1.alloc o).grownBy W5 v.ownBlock) {e size n : Nat} {xs : List Value} (ho : W.ownsRow B e size v n xs) (h34 : b3 ≠ b4) (h4 : b4 < B) : Keeps (fun k _ => k = b4) W (W5.setCell ⟨b3, 0, none⟩ v') := by
  have hb' : Below W.heap.size W W1 := (Below.drew (Below.refl _ W)).trans hb
  refine (keeps_of_below hb' fun k o' _ hk => (Array.getElem?_eq_some_iff.1 hk).1).trans ((Keeps.alloc _ W1 o).trans ((Keeps.grown hg fun k o' ek _ hk => ?_).trans (Keeps.grown (grownBy_setCell' W5 b3 v') fun k o' ek _ hk => ?_)))
  · have := (ho.lt k ek).1; omega
  · cases ek; exact h34 hk
end Go.Proofs.YtmihhebcchpmcaaGreatDoor
