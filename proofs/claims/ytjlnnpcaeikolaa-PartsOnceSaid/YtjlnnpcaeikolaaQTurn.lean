/-
  The calls of perm.Turn, perm.Back and perm.Then: what they come to.
-/
import Derived.Test.YtjlnnpcaeikolaaQFrom
namespace Go.Proofs.Ytjlnnpcaeikolaa.Perm
open Go.RowKit Go.Deep
theorem rightF_range {n : Nat} : ∀ {l : List Int} {sn : List Bool}, rightF n sn l = true → ∀ v ∈ l, 0 ≤ v ∧ v < (n : Int)
  | [], _, _, _, h => by simp at h
  | u :: r, sn, h, v, hv => by
    simp only [rightF] at h
    split at h
    · cases h
    · rename_i hn
      rcases List.mem_cons.1 hv with rfl | hv
      · omega
      · exact rightF_range h v hv
theorem rightB_parts {zs : List Int} (h : rightB zs = true) : zs.length ≤ 16 ∧ rightF zs.length none16 zs = true := by
  unfold rightB at h
  rw [Bool.and_eq_true] at h
  exact ⟨of_decide_eq_true h.1, h.2⟩
theorem rightB_range {zs : List Int} (h : rightB zs = true) : ∀ j, j < zs.length → ∃ q : Nat, zs.getD j 0 = (q : Int) ∧ q < zs.length := by
  intro j hj
  have e : zs.getD j 0 = zs[j] := by simp [List.getD, hj]
  have := rightF_range (rightB_parts h).2 zs[j] (List.getElem_mem hj)
  exact ⟨zs[j].toNat, by omega, by omega⟩
/-- The row g of the world w holds the numbers xs. -/
def Row (w : World) (g : Nat) (n : Nat) (f : Nat → Int) : Prop := w.rowIs g 3 n (fun j => .int .i64 (f j))
theorem Row.sees {w : World} {g n : Nat} {f : Nat → Int} (h : Row w g n f) (hn : n ≤ 16) : Sees w (.slice (some ⟨g, 0, none⟩) n n) ((List.range n).map f) := by
  refine ⟨some ⟨g, 0, none⟩, n, by simp, by simp; omega, .inr ⟨g, 0, rfl, fun j hj => ?_⟩⟩
  have hj' : j < n := by simpa using hj
  rw [Nat.zero_add, World.rowIs.cell h hj']
  simp [List.getD, hj']
theorem Row.put {w : World} {g n : Nat} {f f' : Nat → Int} (h : Row w g n f) (i : Nat) (z : Int) (e : ∀ j, j < n → f' j = if j = i then z else f j) : Row (w.setCell ⟨g, i, none⟩ (.int .i64 z)) g n f' := by
  refine (World.rowIs.set h i (.int .i64 z)).congr ?_
  intro j hj
  rw [e j hj]
  split <;> rfl
def turnL (p l : List Int) : List Int := p.map (fun j => l.getD j.toNat 0)
def turnB (p l : List Int) : Bool := rightB p && decide (l.length = p.length)
def turnW (p l : List Int) : List Int := if turnB p l = true then turnL p l else []
def turnE (p l : List Int) : Int := if turnB p l = true then 0 else 3
theorem turnL_range (p l : List Int) : (List.range p.length).map (fun j => l.getD (p.getD j 0).toNat 0) = turnL p l := by
  unfold turnL
  apply List.ext_getElem
  · simp
  · intro i h1 h2
    simp at h1
    simp [List.getD, h1]
theorem turn_not (v u : Value) (p : List Int) (w : World) (hv : Sees w v p) (hr : rightB p = false) :
    Calls Try.prog 34 #[v, u] w fun e w' => e = .returned (.tuple #[.slice none 0 0, .int .i64 3]) ∧ Below w.heap.size w w' := by
  have C := right_any v p w hv
  rw [hr] at C
  have c : Hid _ := C
  clear C
  go_enter Try.func34, Try.ntmps34
  go_wp2_with (go_at_call 40; refine Calls.mono c.out ?_; rintro e w1 ⟨rfl, hb1⟩)
  go_ret2
  exact ⟨rfl, hb1⟩
theorem turn_other (v u : Value) (p l : List Int) (w : World) (hv : Sees w v p) (hu : Sees w u l) (hr : rightB p = true) (hl : l.length ≠ p.length) :
    Calls Try.prog 34 #[v, u] w fun e w' => e = .returned (.tuple #[.slice none 0 0, .int .i64 3]) ∧ Below w.heap.size w w' := by
  have C := right_any v p w hv
  rw [hr] at C
  have c : Hid _ := C
  clear C
  obtain ⟨a, cap, rfl, _, _⟩ := hv
  obtain ⟨a', cap', rfl, _, _⟩ := hu
  have q : ((l.length : Int) == (p.length : Int)) = false := by simp; omega
  go_enter Try.func34, Try.ntmps34
  go_wp2_with (go_at_call 40; refine Calls.mono c.out ?_; rintro e w1 ⟨rfl, hb1⟩)
  go_ret2
  exact ⟨rfl, hb1⟩
set_option maxHeartbeats 1000000 in
theorem turn_walk (b off b' off' len cap cap' : Nat) (p l : List Int) (w : World) (hr : rightB p = true) (hp : p.length = len) (hl : l.length = len)
    (hc : ∀ j, j < len → w.cell? ⟨b, off + j, none⟩ = some (.int .i64 (p.getD j 0)))
    (hc' : ∀ j, j < len → w.cell? ⟨b', off' + j, none⟩ = some (.int .i64 (l.getD j 0))) (hpos : 0 < len) :
    Calls Try.prog 34 #[.slice (some ⟨b, off, none⟩) len cap, .slice (some ⟨b', off', none⟩) len cap'] w fun e w' => ∃ g, e = .returned (.tuple #[.slice (some ⟨g, 0, none⟩) len len, .int .i64 0]) ∧ Sees w' (.slice (some ⟨g, 0, none⟩) len len) (turnL p l) ∧ Below w.heap.size w w' := by
  obtain ⟨i3, hi, hz0, hz1, hz2⟩ := info_parts info3
  have hb1 : b < w.heap.size := World.block_lt_of_cell? w _ (hc 0 hpos)
  have hb2 : b' < w.heap.size := World.block_lt_of_cell? w _ (hc' 0 hpos)
  have h16 : len ≤ 16 := by rw [← hp]; exact (rightB_parts hr).1
  have HR : Hid _ := rightB_range hr
  have C := right_any (.slice (some ⟨b, off, none⟩) len cap) p w ⟨_, cap, by rw [hp], by omega, .inr ⟨b, off, rfl, by rw [hp]; exact hc⟩⟩
  rw [hr] at C
  have c : Hid _ := C
  have HC : Hid _ := hc
  have HC' : Hid _ := hc'
  clear C hc hc' hr
  have q : ((len : Int) == (len : Int)) = true := by simp
  go_enter Try.func34, Try.ntmps34
  go_wp2_with (first | (go_at_call 40; refine Calls.mono c.out ?_; rintro e w1 ⟨rfl, hbb⟩) | (at_make; refine wpList_make_row _ rfl _ _ 23 rfl 3 i3 (.int .i64 0) Try.underlying23 hi hz0 hz1 rfl .i64 .i64 len rfl rfl (by rw [hz2]; omega) (by omega) ?_; refine Hid.out ?_))
  refine hidI ?_
  have hrow : Row (w1.alloc (.cells (madeCells #[.int .i64 0] len) 3)) w1.heap.size len (fun _ => 0) := World.rowIs_made w1 (.int .i64 0) len 3
  have hb3 := hbb.alloc hbb.size (.cells (madeCells #[.int .i64 0] len) 3)
  have hG := hbb.size
  obtain ⟨G, hGe⟩ : ∃ G, w1.heap.size = G := ⟨_, rfl⟩
  rw [hGe] at hrow hG
  rw [hGe]
  generalize w1.alloc (.cells (madeCells #[.int .i64 0] len) 3) = w2 at hrow hb3 ⊢
  clear hbb c hGe
  clear w1
  go_wp2
  go_loopg [24] len (fun g s24 wx => ∃ (i : Nat), i + g = len ∧ s24 = .int .i64 i ∧ Row wx G len (fun j => if j < i then l.getD (p.getD j 0).toNat 0 else 0) ∧ Below w.heap.size w wx)
  case atStart => exact ⟨0, by omega, rfl, by simpa using hrow, hb3⟩
  case round =>
    clear hrow hb3
    obtain ⟨i, hig, rfl, hrow, hb⟩ := hrel
    cases gk with
    | zero =>
      have hil : i = len := by omega
      subst hil
      have hS := hrow.sees h16
      have e1 : (List.range i).map (fun j => if j < i then l.getD (p.getD j 0).toNat 0 else 0) = turnL p l := by
        rw [← turnL_range, hp]
        apply List.map_congr_left
        intro j hj
        rw [if_pos (List.mem_range.1 hj)]
      rw [e1] at hS
      go_wp2
      go_ret2
      exact ⟨G, rfl, hS, hb⟩
    | succ g =>
      have hlt : i < len := by omega
      obtain ⟨q, hq, hql⟩ := HR.out i (by omega)
      rw [hp] at hql
      have hx : wr.cell? ⟨b, off + i, none⟩ = some (.int .i64 (q : Int)) := by rw [hb.cell (p := ⟨b, off + i, none⟩) hb1, HC.out i hlt, hq]
      have hy : wr.cell? ⟨b', off' + q, none⟩ = some (.int .i64 (l.getD q 0)) := (hb.cell (p := ⟨b', off' + q, none⟩) hb2).trans (HC'.out q hql)
      obtain ⟨z, hz⟩ : ∃ z, l.getD q 0 = z := ⟨_, rfl⟩
      rw [hz] at hy
      have hfr : wr.frozen? ⟨G, i, none⟩ = false := World.rowIs.frozen hrow i
      have hcl := World.rowIs.cell hrow hlt
      have hrow' : Row (wr.setCell ⟨G, i, none⟩ (.int .i64 z)) G len (fun j => if j < i + 1 then l.getD (p.getD j 0).toNat 0 else 0) := hrow.put i z (fun j hj => by
        by_cases e : j = i
        · subst e; rw [if_pos (by omega), if_pos rfl, hq, Int.toNat_natCast, hz]
        · rw [if_neg e]
          by_cases h1 : j < i
          · rw [if_pos h1, if_pos (by omega)]
          · rw [if_neg h1, if_neg (by omega)])
      have hb' : Below w.heap.size w (wr.setCell ⟨G, i, none⟩ (.int .i64 z)) := hb.setCell hG _
      have HH : Hid _ := hrow'
      clear hrow' hrow hq hz
      go_wp2
      go_roundg g
      case measure => omega
      case rel => exact ⟨i + 1, by omega, by go_num, HH.out, hb'⟩
theorem turn_empty (a a' : Option Addr) (cap cap' : Nat) (w : World) :
    Calls Try.prog 34 #[.slice a 0 cap, .slice a' 0 cap'] w fun e w' => ∃ x, e = .returned (.tuple #[x, .int .i64 0]) ∧ Sees w' x [] ∧ Below w.heap.size w w' := by
  obtain ⟨i3, hi, hz0, hz1, hz2⟩ := info_parts info3
  have c : Hid _ := right_empty a cap w
  go_enter Try.func34, Try.ntmps34
  go_wp2_with (first | (go_at_call 40; refine Calls.mono c.out ?_; rintro e w1 ⟨rfl, hbb⟩) | (at_make; refine wpList_make_row _ rfl _ _ 23 rfl 3 i3 (.int .i64 0) Try.underlying23 hi hz0 hz1 rfl .i64 .i64 0 rfl rfl (by rw [hz2]; omega) (by omega) ?_; refine Hid.out ?_))
  refine hidI ?_
  have hb3 := hbb.alloc hbb.size (.cells (madeCells #[.int .i64 0] 0) 3)
  go_wp2
  refine wp_loop_rounds 1 ?_
  rw [rounds_succ]
  go_wp2
  go_ret2
  exact ⟨_, rfl, ⟨_, 0, rfl, by simp, .inl rfl⟩, hb3⟩
theorem sees_nil (w : World) : Sees w (.slice none 0 0) [] := ⟨none, 0, rfl, by simp, .inl rfl⟩
theorem turn_any (v u : Value) (p l : List Int) (w : World) (hv : Sees w v p) (hu : Sees w u l) :
    Calls Try.prog 34 #[v, u] w fun e w' => ∃ x, e = .returned (.tuple #[x, .int .i64 (turnE p l)]) ∧ Sees w' x (turnW p l) ∧ Below w.heap.size w w' := by
  unfold turnE turnW turnB
  cases hr : rightB p
  · refine (turn_not v u p w hv hr).mono ?_
    rintro e w' ⟨rfl, hb⟩
    exact ⟨_, rfl, sees_nil _, hb⟩
  · by_cases hl : l.length = p.length
    · rw [decide_eq_true hl, Bool.and_self, if_pos rfl, if_pos rfl]
      obtain ⟨a, cap, rfl, _, hs⟩ := hv
      obtain ⟨a', cap', rfl, _, hs'⟩ := hu
      by_cases h0 : p = []
      · subst h0
        rw [hl]
        exact turn_empty a a' cap cap' w
      · rcases hs with h1 | ⟨b, off, rfl, hc⟩
        · exact absurd h1 h0
        have hpos : 0 < p.length := List.length_pos_iff.2 h0
        rcases hs' with h1 | ⟨b', off', rfl, hc'⟩
        · subst h1; simp at hl; omega
        rw [hl] at hc' ⊢
        refine (turn_walk b off b' off' p.length cap cap' p l w hr rfl hl hc hc' hpos).mono ?_
        rintro e w' ⟨g, rfl, hS, hb⟩
        exact ⟨_, rfl, hS, hb⟩
    · rw [decide_eq_false hl]
      refine (turn_other v u p l w hv hu hr hl).mono ?_
      rintro e w' ⟨rfl, hb⟩
      exact ⟨_, rfl, sees_nil _, hb⟩
def backAt (p : List Int) : Nat → Nat → Int
  | 0, _ => 0
  | i + 1, j => if p.getD i 0 = (j : Int) then (i : Int) else backAt p i j
def backL (p : List Int) : List Int := (List.range p.length).map (fun j => backAt p p.length j)
def backW (p : List Int) : List Int := if rightB p = true then backL p else []
end Go.Proofs.Ytjlnnpcaeikolaa.Perm
