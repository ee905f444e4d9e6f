/-
  The program's messages to a node; what a value is that takes messages in; both, takesMany.
-/
import Derived.Test.YtdfieflcclbgjabNumP
import Derived.Test.YtdfieflcclbgjabRSort
import Derived.Test.YtdfieflcclbgjabRTaken
namespace Go.Proofs.Ytdfieflcclbgjab
open Go.RowKit Go.Deep Go.MapKept Go.Sort
set_option maxRecDepth 100000 in
set_option maxHeartbeats 1000000 in
theorem pfor_any (w : World) (v : Value) (xs : List Msg) (t : Int) (hv : SeesM w v xs) (hl : xs.length ≤ 10000) :
    Calls Try.prog 8 #[v, .int .i64 t] w fun e w' => ∃ v', e = .returned v' ∧ SeesM w' v' (xs.filter fun x => x.to == t) ∧ Below w.heap.size w w' := by
  obtain ⟨a, cap, rfl, hcap, hL⟩ := hv
  have HV : Hid (SeesM w (.slice a xs.length cap) xs) := hidI ⟨a, cap, rfl, hcap, hL⟩
  clear hL hcap
  obtain ⟨k, hk⟩ : ∃ k, xs.length = k := ⟨_, rfl⟩
  have HK := hidI hk
  rw [hk] at hl HV ⊢
  clear hk
  go_enter Try.func8, Try.ntmps8
  go_wp2
  go_loopg [5, 10] k (fun g s5 s10 wx => ∃ (i n : Nat) (v3 : Value), v3 = s5 ∧ i + g = k ∧ n ≤ i ∧ s10 = .int .i64 i ∧ Hid (Below w.heap.size w wx) ∧ Hid (wx.ownsRow w.heap.size 26 3 v3 n (flatM ((xs.take i).filter fun x => x.to == t))))
  case atStart => exact ⟨0, 0, _, rfl, by omega, by omega, rfl, hidI (Below.refl _ _), hidI (World.ownsRow_nil _ _ _ _)⟩
  case round =>
    obtain ⟨i, n, v3, rfl, hig, hni, rfl, HB, HO⟩ := hrel
    cases gk with
    | zero =>
      obtain rfl : k = i := by omega
      have k1 : decide ((k : Int) < (k : Int)) = false := by simp
      go_wp2
      go_ret
      have h := HO.out
      rw [List.take_of_length_le (by have := HK.out; omega)] at h
      exact ⟨v3, rfl, seesM_of_owns h, HB.out⟩
    | succ g =>
      have k1 : (i : Int) < (k : Int) := by omega
      obtain ⟨x, hx⟩ : ∃ x, xs[i]? = some x := ⟨_, List.getElem?_eq_getElem (by have := HK.out; omega)⟩
      obtain ⟨b1, o1, c1, e1, x0, x1, x2⟩ := HV.out.cell hx
      rw [HK.out] at e1
      cases e1
      have kk : ∀ {p : Addr} {v : Value}, w.cell? p = some v → wr.cell? p = some v := fun {p v} hc => (HB.out.cell (World.block_lt_of_cell? w _ hc)).trans hc
      replace x0 := kk x0
      replace x1 := kk x1
      replace x2 := kk x2
      clear kk
      have HTK : Hid (xs.take (i + 1) = xs.take i ++ [x]) := hidI (by rw [List.take_add_one, hx]; rfl)
      clear hx
      have hsz := HB.out.size
      by_cases ht : x.to = t
      · obtain ⟨x1', x2', x3'⟩ := x
        simp only at ht
        subst ht
        simp only at x0 x1 x2
        have k2 : (x1' == x1') = true := by simp
        have HF : Hid (flatM ((xs.take (i + 1)).filter fun x => x.to == x1') = flatM ((xs.take i).filter fun x => x.to == x1') ++ Msg.cells ⟨x1', x2', x3'⟩) := hidI (by rw [HTK.out, List.filter_append, flatM_append]; simp [flatM_one])
        have HOA := hidI (World.ownsRow.alloc (World.ownsRow.alloc HO.out (.cells #[.int .i64 x1', .int .i64 x2', .int .i64 x3'] 26)) (.cells #[.int .i64 x1', .int .i64 x2', .int .i64 x3'] 26))
        have HSM := hidI (msg_seen (W := wr.alloc (.cells #[.int .i64 x1', .int .i64 x2', .int .i64 x3'] 26)) ⟨x1', x2', x3'⟩)
        simp only [World.size_alloc] at HSM
        go_wp2_with (at_builtin; go_must (refine wpList_append_any Try.underlying22 Try.info26 rfl (by decide) (by decide) rfl _ _ rfl w.heap.size _ n _ rfl HOA.out _ 1 (Msg.cells ⟨x1', x2', x3'⟩) rfl HSM.out (cells_one _) (by omega) (by simp; omega) ?_); intro v9 w9 hown9 hgrow9 _; refine Hid.out ?_)
        refine hidI ?_
        have HB9 : Hid (Below w.heap.size w w9) := hidI (Below.grown ((HB.out.alloc hsz _).alloc (by simp; omega) _) hgrow9 (by simp; omega) (fun k hk => (HOA.out.lt k hk).1))
        rw [← HF.out] at hown9
        have HO9 := hidI hown9
        clear hown9 hgrow9 HOA HSM
        go_wp2
        go_roundg g
        case measure => omega
        case rel => exact ⟨i + 1, n + 1, v9, rfl, by omega, by omega, by go_num, HB9, HO9⟩
      · have k2 : (x.to == t) = false := by simpa using ht
        have HF : Hid ((xs.take (i + 1)).filter (fun x => x.to == t) = (xs.take i).filter fun x => x.to == t) := hidI (by rw [HTK.out, List.filter_append]; simp [ht])
        have HBA := hidI (HB.out.alloc hsz (.cells #[.int .i64 x.to, .int .i64 x.tag, .int .i64 x.val] 26))
        have HOA := hidI (World.ownsRow.alloc HO.out (.cells #[.int .i64 x.to, .int .i64 x.tag, .int .i64 x.val] 26))
        go_wp2
        go_roundg g
        case measure => omega
        case rel => exact ⟨i + 1, n, v3, rfl, by omega, by omega, by go_num, HBA, hidI (by rw [HF.out]; exact HOA.out)⟩
end Go.Proofs.Ytdfieflcclbgjab
