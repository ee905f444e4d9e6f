/-
  The numbers with which bytes begin: the program's readWords.
-/
import Derived.Test.YtbjoljokdjgbnabCutBM
namespace Go.Proofs.Ytbjoljokdjgbnab
open Go.RowKit Go.Deep Go.MapKept
theorem wordsL_get : ∀ (n : Nat) (b : List Int) (i : Nat), i < n → (wordsL n b).getD i 0 = joinL (b.drop (i * 8))
  | 0, _, _, h => absurd h (by omega)
  | n + 1, b, 0, _ => by simp [wordsL]
  | n + 1, b, i + 1, h => by
    simp only [wordsL, List.getD_cons_succ]
    rw [wordsL_get n (b.drop 8) i (by omega), List.drop_drop]
    congr 2
    omega
/-- Eight bytes ahead. -/
theorem eight {l : List Int} (h : 8 ≤ l.length) (hb : ∀ z ∈ l, IsB z) : ∃ b0 b1 b2 b3 b4 b5 b6 b7 r, l = b0 :: b1 :: b2 :: b3 :: b4 :: b5 :: b6 :: b7 :: r ∧ IsB b0 ∧ IsB b1 ∧ IsB b2 ∧ IsB b3 ∧ IsB b4 ∧ IsB b5 ∧ IsB b6 ∧ IsB b7 ∧ joinL l = jn b0 b1 b2 b3 b4 b5 b6 b7 := by
  match l, h with
  | b0 :: b1 :: b2 :: b3 :: b4 :: b5 :: b6 :: b7 :: r, _ => exact ⟨b0, b1, b2, b3, b4, b5, b6, b7, r, rfl, hb _ (by simp), hb _ (by simp), hb _ (by simp), hb _ (by simp), hb _ (by simp), hb _ (by simp), hb _ (by simp), hb _ (by simp), rfl⟩
  | [], h => simp at h
  | [_], h => simp at h
  | [_, _], h => simp at h
  | [_, _, _], h => simp at h
  | [_, _, _, _], h => simp at h
  | [_, _, _, _, _], h => simp at h
  | [_, _, _, _, _, _], h => simp at h
  | [_, _, _, _, _, _, _], h => simp at h
def RWPost (w : World) (n : Nat) (a : Option Addr) (cap : Nat) (bs : List Int) (e : Ending) (w' : World) : Prop := Below w.heap.size w w' ∧
  ((bs.length < n * 8 ∧ e = .returned (.tuple #[.slice none 0 0, .slice none 0 0, .bool false])) ∨
   (n * 8 ≤ bs.length ∧ ∃ (g : Nat) (ds : List Int) (ua : Option Addr) (uc : Nat), Hid (ds = bs.drop (n * 8)) ∧ e = .returned (.tuple #[.slice (some ⟨g, 0, none⟩) n n, .slice ua ds.length uc, .bool true]) ∧ Sees w' (.slice (some ⟨g, 0, none⟩) n n) (wordsL n bs) ∧ (∀ v, SB v a cap bs → SB v ua uc ds)))
theorem made_cell (W : World) (n j : Nat) (hj : j < n) : (W.alloc (.cells (madeCells #[.int .i64 0] n) 51)).cell? ⟨W.heap.size, j, none⟩ = some (.int .i64 0) ∧ (W.alloc (.cells (madeCells #[.int .i64 0] n) 51)).frozen? ⟨W.heap.size, j, none⟩ = false := by
  have h := World.alloc_heap_new W (.cells (madeCells #[.int .i64 0] n) 51)
  refine ⟨?_, ?_⟩
  · rw [Lib.cell_of_heap h]
    simp [madeCells, hj, Nat.mod_one]
  · unfold World.frozen?
    simp only [h]
    simp
set_option maxRecDepth 100000 in
set_option maxHeartbeats 2000000 in
theorem readWords_any (n : Nat) (hn : n ≤ 100) (a : Option Addr) (cap : Nat) (bs : List Int) (hb : ∀ z ∈ bs, IsB z) (w : World) (h : SB w a cap bs) : Calls Try.prog 84 #[.int .i64 (n : Int), .slice a bs.length cap] w (RWPost w n a cap bs) := by
  have HB := hidI hb
  have H := hidI h
  clear hb h
  have wm : wrap64 ((n : Int) * 8) = (n : Int) * 8 := by unfold wrap64; omega
  by_cases hk : n * 8 ≤ bs.length
  · have j1 : ¬ ((bs.length : Int) < (n : Int) * 8) := by omega
    obtain ⟨ds, ua, uc, HDS, hu, hS⟩ := cut_l H.out (n * 8) ((n : Int) * 8) (by omega) hk
    have HU := hidI hu
    have HS := hidI hS
    have hmk := make60 n (by omega)
    clear hu hS
    go_enter Try.func84, Try.ntmps84
    go_wp2
    clear hmk j1
    go_loopg [18] n (fun g s18 wx => ∃ (i : Nat), i + g = n ∧ s18 = .int .i64 (i : Int) ∧ Hid (Below w.heap.size w wx) ∧ w.heap.size < wx.heap.size ∧ Hid (∀ j, j < n → (∃ z, wx.cell? ⟨w.heap.size, j, none⟩ = some (.int .i64 z) ∧ (j < i → z = (wordsL n bs).getD j 0)) ∧ wx.frozen? ⟨w.heap.size, j, none⟩ = false))
    case atStart =>
      refine ⟨0, by omega, rfl, hidI ((Below.refl _ _).alloc (Nat.le_refl _) _), by simp, hidI fun j hj => ⟨⟨0, (made_cell w n j hj).1, fun h => absurd h (by omega)⟩, (made_cell w n j hj).2⟩⟩
    case round =>
      obtain ⟨i, hig, rfl, HBl, hsz, HC⟩ := hrel
      cases gk with
      | zero =>
        have hil : i = n := by omega
        subst hil
        have j2 : ¬ ((i : Int) < (i : Int)) := by omega
        have hu := HU.out
        go_wp2
        go_region
        all_goals
          go_wp2
          go_ret3
          have hbl : Below w.heap.size w wr.drew := HBl.out.drew
          refine ⟨hbl, .inr ⟨hk, _, _, _, _, HDS, rfl, ⟨_, i, by rw [wordsL_len], .inr ⟨_, 0, rfl, fun j hj => ?_⟩⟩, HS.out⟩⟩
          rw [wordsL_len] at hj
          obtain ⟨⟨z, hz, hx⟩, _⟩ := HC.out j hj
          have hz2 : wr.drew.cell? ⟨w.heap.size, j, none⟩ = some (.int .i64 z) := hz
          rw [Nat.zero_add, hz2, hx hj]
      | succ g =>
        have hil : i < n := by omega
        have j2 : (i : Int) < (n : Int) := by omega
        have j3 : (0 : Int) ≤ (i : Int) := by omega
        have j4 : ((i : Int)).toNat = i := by omega
        have wi : wrap64 ((i : Int) * 8) = (i : Int) * 8 := by unfold wrap64; omega
        obtain ⟨es, va, vc, HES, hv, hT⟩ := cut_l H.out (i * 8) ((i : Int) * 8) (by omega) (by omega)
        obtain ⟨b0, b1, b2, b3, b4, b5, b6, b7, r, hl8, q0, q1, q2, q3, q4, q5, q6, q7, hjn⟩ := eight (l := es) (by rw [HES.out, List.length_drop]; omega) (fun z hz => HB.out z (by rw [HES.out] at hz; exact List.mem_of_mem_drop hz))
        have hW := (hT _ H.out).below HBl.out (Nat.le_refl _)
        have h8 : 8 ≤ es.length := by rw [HES.out, List.length_drop]; omega
        obtain ⟨vb, voff, rfl, hcs⟩ : ∃ vb voff, va = some ⟨vb, voff, none⟩ ∧ ∀ (j : Nat) (z : Int), es[j]? = some z → wr.cell? ⟨vb, voff + j, none⟩ = some (.int .u8 z) := by
          rcases hW.2 with h0 | hh
          · omega
          · exact hh
        have e0 := hcs 0 b0 (by rw [hl8]; rfl)
        have e1 := hcs 1 b1 (by rw [hl8]; rfl)
        have e2 := hcs 2 b2 (by rw [hl8]; rfl)
        have e3 := hcs 3 b3 (by rw [hl8]; rfl)
        have e4 := hcs 4 b4 (by rw [hl8]; rfl)
        have e5 := hcs 5 b5 (by rw [hl8]; rfl)
        have e6 := hcs 6 b6 (by rw [hl8]; rfl)
        have e7 := hcs 7 b7 (by rw [hl8]; rfl)
        rw [Nat.add_zero] at e0
        have hat : ∀ W, (Instr.arrayAt 114 (.slice (some ⟨vb, voff, none⟩) es.length vc)).run Try.prog W = .ok (.pointer (some ⟨vb, voff, none⟩)) W := fun W => run_arrayAt W 114 _ 8 _ _ vc Try.underlying114 h8
        have CJ := hidI (join_any b0 b1 b2 b3 b4 b5 b6 b7 q0 q1 q2 q3 q4 q5 q6 q7 wr)
        have HJ : Hid (jn b0 b1 b2 b3 b4 b5 b6 b7 = (wordsL n bs).getD i 0) := hidI (by rw [wordsL_get n bs i hil, ← hjn, HES.out])
        obtain ⟨J, hJ⟩ : ∃ J, jn b0 b1 b2 b3 b4 b5 b6 b7 = J := ⟨_, rfl⟩
        rw [hJ] at CJ HJ
        clear hJ hjn hl8 hcs hW hT q0 q1 q2 q3 q4 q5 q6 q7 h8
        go_wp2_with (go_at_call 103; refine CJ.out.mono ?_; rintro e w5 ⟨rfl, hb5⟩; have HB5 := hidI hb5; clear hb5; refine Hid.out ?_)
        refine hidI ?_
        obtain ⟨⟨z, hz, _⟩, hf⟩ := HC.out i hil
        have hz5 : w5.cell? ⟨w.heap.size, i, none⟩ = some (.int .i64 z) := (HB5.out.cell (p := ⟨w.heap.size, i, none⟩) hsz).trans hz
        have hf5 : w5.frozen? ⟨w.heap.size, i, none⟩ = false := (HB5.out.frozen (p := ⟨w.heap.size, i, none⟩) hsz).trans hf
        clear hz hf CJ e0 e1 e2 e3 e4 e5 e6 e7 hat hv
        go_wp2
        go_roundg g
        case measure => omega
        case rel =>
          have hs5 := HB5.out.size
          refine ⟨i + 1, by omega, by go_num, hidI (Below.setCell (HBl.out.trans (HB5.out.mono HBl.out.size)) (Nat.le_refl _) _), by simp; omega, hidI fun j hj => ?_⟩
          obtain ⟨⟨z', hz', hx'⟩, hf'⟩ := HC.out j hj
          have hz6 : w5.cell? ⟨w.heap.size, j, none⟩ = some (.int .i64 z') := (HB5.out.cell (p := ⟨w.heap.size, j, none⟩) hsz).trans hz'
          refine ⟨?_, by rw [World.frozen?_setCell]; exact (HB5.out.frozen (p := ⟨w.heap.size, j, none⟩) hsz).trans hf'⟩
          by_cases e : j = i
          · subst e
            exact ⟨J, World.cell?_setCell_same _ _ _ hz6, fun _ => HJ.out⟩
          · exact ⟨z', (World.cell?_setCell_other _ _ _ _ (by intro hh; simp only [Addr.mk.injEq] at hh; omega)).trans hz6, fun h => hx' (by omega)⟩
  · have j1 : (bs.length : Int) < (n : Int) * 8 := by omega
    go_enter Try.func84, Try.ntmps84
    go_wp2
    go_ret3
    exact ⟨Below.refl _ _, .inl ⟨by omega, rfl⟩⟩
end Go.Proofs.Ytbjoljokdjgbnab
