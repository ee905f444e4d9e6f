/-
  The call of the law PermGroups.
-/
import Derived.Test.YtcaecfmjnboamabSame
namespace Go.Proofs.Ytcaecfmjnboamab
open Go.RowKit Go.Deep
theorem groups_flat (cuts : Nat) : ∀ (zs cur : List Int) (i : Nat), (groupsL cuts i cur zs).flatten = cur ++ zs
  | [], cur, i => by
    unfold groupsL
    by_cases h : cur = []
    · subst h; rfl
    · rw [if_neg h]; simp
  | z :: r, cur, i => by
    unfold groupsL
    split
    · rw [List.flatten_cons, groups_flat cuts r [] (i + 1)]; simp
    · rw [groups_flat cuts r (cur ++ [z]) (i + 1)]; simp
theorem take_flat_le (ls : List (List Int)) (k : Nat) : ((ls.take k).flatten).length ≤ ls.flatten.length := by
  have : ls.flatten = (ls.take k).flatten ++ (ls.drop k).flatten := by rw [← List.flatten_append, List.take_append_drop]
  rw [this, List.length_append]
  omega
theorem take_flat_succ (ls : List (List Int)) {k : Nat} (h : k < ls.length) : (ls.take (k + 1)).flatten = (ls.take k).flatten ++ ls[k] := by
  rw [List.take_succ_eq_append_getElem h, List.flatten_append]
  simp
theorem flat_len : ∀ (ls : List (List Int)), (∀ l ∈ ls, l ≠ []) → ls.length ≤ ls.flatten.length
  | [], _ => by simp
  | l :: r, h => by
    have h1 := flat_len r (fun m hm => h m (List.mem_cons_of_mem _ hm))
    have h2 := List.length_pos_iff.2 (h l (List.mem_cons_self ..))
    rw [List.flatten_cons, List.length_append, List.length_cons]
    omega
theorem ls_pos {w : World} {B : Nat} {vs : List Value} {ls : List (List Int)} (h : RowsAt w B vs ls) {k : Nat} (hk : k < ls.length) : ∃ v g c, vs[k]? = some v ∧ v = .slice (some ⟨g, 0, none⟩) ls[k].length c ∧ 0 < ls[k].length ∧ g < w.heap.size ∧ w.ownsRow B 3 1 v ls[k].length (ls[k].map (Value.int .i64)) := by
  have hv : k < vs.length := by rw [h.1]; exact hk
  have hh := h.2 k vs[k] ls[k] (List.getElem?_eq_getElem hv) (List.getElem?_eq_getElem hk)
  have hp : 0 < ls[k].length := List.length_pos_iff.2 hh.1
  obtain ⟨g, c, hf⟩ := Joins.ownsRow_form hh.2 hp
  refine ⟨vs[k], g, c, List.getElem?_eq_getElem hv, hf, hp, ?_, hh.2⟩
  have := hh.2.lt g (by rw [hf]; rfl)
  exact this.2
theorem add_lit (g j : Nat) : (⟨g, 0, none⟩ : Addr).add j = ⟨g, j, none⟩ := by unfold Addr.add; split <;> simp_all
set_option maxHeartbeats 2000000 in
theorem permGroups_any (v : Value) (zs : List Int) (cuts : Nat) (hcu : cuts < 18446744073709551616) (w : World) (hv : Arg w v zs) :
    Calls Try.prog 7 #[v, .int .u64 cuts] w fun e w' => e = .returned (.bool true) ∧ Below w.heap.size w w' := by
  obtain ⟨i3, hi, hz0, hz1, hz2⟩ := info_parts info3
  have CL : Hid (∀ w : World, _) := fun w => live_any w
  obtain ⟨ys, hys⟩ : ∃ ys, zs.take 80 = ys := ⟨_, rfl⟩
  have hy80 : ys.length ≤ 80 := by rw [← hys, List.length_take]; omega
  have CW : Hid _ := few_any v zs w hv
  rw [hys] at CW
  clear hys hv
  go_enter Try.func7, Try.ntmps7
  go_wp2_with (go_at_call 12; refine Calls.mono CW.out ?_; rintro e w1 ⟨u, rfl, hS, rfl⟩; refine Hid.out ?_)
  refine hidI ?_
  clear CW
  obtain ⟨ls, hls⟩ : ∃ ls, groupsL cuts 0 [] ys = ls := ⟨_, rfl⟩
  have hflat : ls.flatten = ys := by rw [← hls, groups_flat]; rfl
  have CG : Hid _ := groups_any u ys cuts hcu w hS (by omega)
  rw [hls] at CG
  have hnil : ys = [] → ls = [] := by rintro rfl; rw [← hls]; rfl
  clear hls
  go_wp2_with (go_at_call 27; refine Calls.mono CG.out ?_; rintro e w2 ⟨rv, rfl, ⟨vs, hrow, hrs⟩, hb2⟩; refine Hid.out ?_)
  refine hidI ?_
  clear CG
  have hS2 : Sees w2 u ys := hS.below hb2 (Nat.le_refl _)
  clear hS
  have hlen : ls.length ≤ 80 := by
    have h1 := flat_len ls (fun l hl => by
      obtain ⟨t, ht⟩ := List.getElem?_of_mem hl
      have htl : t < vs.length := by rw [hrs.1]; exact (List.getElem?_eq_some_iff.1 ht).1
      exact (hrs.2 t vs[t] l (List.getElem?_eq_getElem htl) ht).1)
    rw [hflat] at h1
    omega
  obtain ⟨ra, rc, rfl, hra⟩ : ∃ ra rc, rv = .slice ra ls.length rc ∧ (0 < ls.length → ∃ g, ra = some ⟨g, 0, none⟩) := by
    rcases Joins.ownsRow_forms hrow with ⟨rfl, h0⟩ | ⟨g, cap, rfl⟩
    · exact ⟨none, 0, by rw [h0], fun h => by omega⟩
    · exact ⟨_, cap, rfl, fun _ => ⟨g, rfl⟩⟩
  go_wp2
  go_loopg [5, 7] ls.length (fun g s5 s7 wx => ∃ (i : Nat), i + g = ls.length ∧ s7 = .int .i64 i ∧ wx.ownsRow w2.heap.size 3 1 s5 (ls.take i).flatten.length ((ls.take i).flatten.map (Value.int .i64)) ∧ Below w2.heap.size w2 wx)
  case atStart => exact ⟨0, by omega, rfl, World.ownsRow_nil _ _ _ _, Below.refl _ _⟩
  case round =>
    obtain ⟨i, hig, rfl, hown, hb⟩ := hrel
    cases gk with
    | zero =>
      have hil : i = ls.length := by omega
      rw [hil, List.take_length, hflat] at hown
      subst hil
      have hSo : Sees wr u5 ys := sees_own hown (by omega)
      have hSu : Sees wr u ys := hS2.below hb (Nat.le_refl _)
      have hbw : Below w.heap.size w wr := hb2.trans (hb.mono hb2.size)
      clear hS2 hb hb2 hown
      obtain ⟨ua, uc, hue⟩ : ∃ ua uc, u = .slice ua ys.length uc := by obtain ⟨a, c, h, _⟩ := hSu; exact ⟨a, c, h⟩
      subst hue
      go_wp2_with (go_at_call 14; refine Calls.mono (CL.out _) ?_; rintro e w3 ⟨rfl, hb3⟩; refine Hid.out ?_)
      refine hidI ?_
      have hSo3 := hSo.below hb3 (Nat.le_refl _)
      have hSu3 := hSu.below hb3 (Nat.le_refl _)
      have hbw3 : Below w.heap.size w w3 := hbw.trans (hb3.mono hbw.size)
      clear hSo hSu hbw hb3
      go_wp2_with (go_at_call 15; refine Calls.mono (same_any _ _ ys _ hSo3 hSu3 (by omega)) ?_; rintro e w4 ⟨rfl, hb4⟩; refine Hid.out ?_)
      refine hidI ?_
      have hbw4 : Below w.heap.size w w4 := hbw3.trans (hb4.mono hbw3.size)
      clear hSo3 hSu3 hbw3 hb4
      by_cases hyz : ys = []
      · have hl0 : ls.length = 0 := by rw [hnil hyz]; rfl
        have hy0 : ys.length = 0 := by rw [hyz]; rfl
        rw [hl0, hy0]
        go_wp2
        go_ret
        exact ⟨rfl, hbw4⟩
      · have hyp : (0 : Int) < (ys.length : Int) := by have := List.length_pos_iff.2 hyz; omega
        go_wp2
        go_ret
        exact ⟨rfl, hbw4⟩
    | succ g =>
      have hlt : i < ls.length := by omega
      obtain ⟨rg, rfl⟩ := hra (by omega)
      obtain ⟨vi, gi, ci, hvi, hvf, hpos, hgi, hoi⟩ := ls_pos hrs hlt
      have hrl := hrow.lt rg rfl
      have hcell : wr.cell? ⟨rg, i, none⟩ = some (.slice (some ⟨gi, 0, none⟩) ls[i].length ci) := by
        rw [hb.cell (p := ⟨rg, i, none⟩) hrl.2, ← add_lit, ← hvf]
        exact World.ownsRow.cells hrow rfl i vi hvi
      have hnews : ∀ j x, (ls[i].map (Value.int .i64))[j]? = some x → wr.cell? ((⟨gi, 0, none⟩ : Addr).add j) = some x := by
        intro j x hx
        rw [add_lit, hb.cell (p := ⟨gi, j, none⟩) hgi, ← add_lit]
        exact World.ownsRow.cells hoi (by rw [hvf]; rfl) j x hx
      have hsucc := take_flat_succ ls hlt
      have htl : (ls.take (i + 1)).flatten.length ≤ 80 := by
        have := take_flat_le ls (i + 1)
        rw [hflat] at this
        omega
      rw [hsucc, List.length_append] at htl
      obtain ⟨l, hl⟩ : ∃ l, ls[i] = l := ⟨_, rfl⟩
      rw [hl] at hsucc htl hnews hcell hpos
      obtain ⟨out, hout⟩ : ∃ out, (ls.take i).flatten = out := ⟨_, rfl⟩
      rw [hout] at hown hsucc htl
      have q0 : ((l.length : Int) == 0) = false := by simp; intro h; subst h; simp at hpos
      have qi : (i : Int) < (ls.length : Int) := by omega
      clear hvi hvf hoi hl
      go_wp2_with (at_builtin; refine wpList_append_own _ rfl _ _ 23 rfl w2.heap.size 3 i3 (.int .i64 0) 1 8 Try.underlying23 hi hz0 hz1 hz2 rfl (by decide) _ _ _ rfl hown ⟨gi, 0, none⟩ l.length ci (l.map (Value.int .i64)) rfl (by simp) hnews (by intro u hu; obtain ⟨x, _, rfl⟩ := List.mem_map.1 hu; rfl) (by unfold maxLen; omega) (by omega) hb.size ?_; intro v5 w5 hown5 hg5 hnl; clear hnl; refine Hid.out ?_)
      refine hidI ?_
      have hown5' : w5.ownsRow w2.heap.size 3 1 v5 (ls.take (i + 1)).flatten.length ((ls.take (i + 1)).flatten.map (Value.int .i64)) := by
        rw [hsucc, List.length_append, List.map_append]; exact hown5
      have hb5 : Below w2.heap.size w2 w5 := hb.grown hg5 hb.size (fun q hq => (hown.lt q hq).1)
      go_wp2
      go_roundg g
      case measure => omega
      case rel => exact ⟨i + 1, by omega, by go_num, hown5', hb5⟩
end Go.Proofs.Ytcaecfmjnboamab
