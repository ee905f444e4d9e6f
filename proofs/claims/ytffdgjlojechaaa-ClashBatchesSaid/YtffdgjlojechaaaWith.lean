/-
  The document's with, and Writes; whether texts are the same.
-/
import Derived.Test.YtffdgjlojechaaaRegW
import Derived.Test.YtffdgjlojechaaaWithM
import Derived.Sort.Walk0
namespace Go.Proofs.Ytffdgjlojechaaa
open Go.RowKit Go.Deep Go.MapKept
theorem toList_bytesOf (t : Txt) : (bytesOf t).toList = t := by rw [ByteArray.toList_eq]; simp [bytesOf]
theorem seesC_of_S {w : World} {a : Option Addr} {n cap : Nat} {ts : List Txt} (h : SeesS w (.slice a n cap) ts) : SeesC w (.slice a n cap) n 1 (vals ts) ∧ n = ts.length ∧ n ≤ cap := by
  obtain ⟨a', cap', he, hc, hs⟩ := h
  simp only [Value.slice.injEq] at he
  obtain ⟨rfl, rfl, rfl⟩ := he
  refine ⟨⟨by simp [vals], _, cap, rfl, ?_⟩, rfl, hc⟩
  rcases hs with rfl | ⟨b, off, rfl, hs⟩
  · exact .inl rfl
  · refine .inr ⟨b, off, rfl, fun j c hj => ?_⟩
    simp only [vals, List.getElem?_map, Option.map_eq_some_iff] at hj
    obtain ⟨t, ht, rfl⟩ := hj
    exact hs j t ht
theorem withT_length (ts : List Txt) (t : Txt) : (withT ts t).length ≤ ts.length + 1 := by
  have := place_le ts t
  unfold withT
  split
  · omega
  · simp only [List.length_append, List.length_take, List.length_drop, List.length_cons, List.length_nil]; omega
theorem vals_one {ts : List Txt} : ∀ c ∈ vals ts, c.oneCell' = true := by
  intro c hc
  obtain ⟨t, _, rfl⟩ := List.mem_map.1 hc
  rfl
set_option maxRecDepth 100000 in
set_option maxHeartbeats 1000000 in
theorem rwith_any (w : World) (v : Value) (ts : List Txt) (hv : SeesS w v ts) (hl : ts.length ≤ 900) (s : ByteArray) :
    Calls Try.prog 21 #[v, .string s] w fun e w' => ∃ v', e = .returned v' ∧ SeesS w' v' (withT ts s.data.toList) ∧ Below w.heap.size w w' := by
  obtain ⟨t, ht⟩ : ∃ t, s.data.toList = t := ⟨_, rfl⟩
  have hst : s = bytesOf t := by rw [← ht, bytes_back]
  subst hst
  rw [ht]
  clear ht
  obtain ⟨a, cap, rfl, hcap, hL⟩ := hv
  have HV : Hid (SeesS w (.slice a ts.length cap) ts) := hidI ⟨a, cap, rfl, hcap, hL⟩
  obtain ⟨n, hn⟩ : ∃ n, ts.length = n := ⟨_, rfl⟩
  have HN := hidI hn
  have HL := hidI hL
  rw [hn] at hl hcap HV ⊢
  clear hn hL
  obtain ⟨p, hp⟩ : ∃ p, place ts t = p := ⟨_, rfl⟩
  have hpn : p ≤ n := by rw [← hp, ← HN.out]; exact place_le ts t
  have HP := hidI hp
  have HLT : Hid (∀ i, i < p → ∃ u, ts[i]? = some u ∧ u < t) := hidI fun i hi => place_lt (by rw [hp]; exact hi)
  have HAT : Hid (∀ u, ts[p]? = some u → ¬ u < t) := hidI fun u hu => place_at (by rw [hp]; exact hu)
  clear hp
  go_enter Try.func21, Try.ntmps21
  go_wp2
  go_loopg [5] p (fun g s5 wx => ∃ i : Nat, i + g = p ∧ s5 = .int .i64 i ∧ w = wx)
  case atStart => exact ⟨0, by omega, rfl, rfl⟩
  case round =>
    obtain ⟨i, hig, rfl, rfl⟩ := hrel
    cases gk with
    | zero =>
      obtain rfl : p = i := by omega
      have HINS : Hid (¬ ts[p]? = some t → withT ts t = ts.take p ++ [t] ++ ts.drop p) := hidI fun h => by unfold withT; rw [HP.out, if_neg h]
      by_cases hpe : p = n
      · subst hpe
        have k1 : decide ((p : Int) < (p : Int)) = false := by simp
        have hno : ¬ ts[p]? = some t := by rw [List.getElem?_eq_none (by have := HN.out; omega)]; simp
        have HC := hidI (seesC_of_S HV.out)
        go_wp2
        refine regW (n := p) (cs := vals ts) trivial (Nat.le_refl _) hcap (HC.out.1.below (Below.refl _ _).drew (Nat.le_refl _)) vals_one (by omega) (fun _ _ _ _ _ h => h) ?_
        intro W v9 t33 t34 t35 t36 t37 t38 t39 t40 t41 t42 t43 t44 hb9 ho9
        have HB9 := hidI hb9
        have HO9 := hidI ho9
        clear hb9 ho9
        go_wp2
        go_ret
        refine ⟨v9, rfl, ?_, (Below.refl _ _).drew.trans HB9.out⟩
        rw [HINS.out hno]
        refine seesS_of_owns (base := w.heap.size) ?_
        have := HO9.out
        rw [Nat.mul_one] at this
        have e1 : (ts.take p ++ [t] ++ ts.drop p).length = p + 1 + (p - p) := by simp [HN.out]
        have e2 : vals (ts.take p ++ [t] ++ ts.drop p) = (vals ts).take p ++ [.string (bytesOf t)] ++ (vals ts).drop p := by simp [vals, List.map_take, List.map_drop]
        rw [e1, e2]
        exact this
      · have hlt : p < n := by omega
        have k1 : (p : Int) < (n : Int) := by omega
        obtain ⟨u, hu⟩ : ∃ u, ts[p]? = some u := ⟨_, List.getElem?_eq_getElem (by have := HN.out; omega)⟩
        have hnl := HAT.out u hu
        rcases HL.out with hnil | ⟨b, off, rfl, hlie⟩
        · subst hnil; simp at hu
        have hc := hlie p u hu
        have hbl : Op.bytesLess (bytesOf u).toList (bytesOf t).toList = false := by rw [Go.Proofs.bytesLess_eq, toList_bytesOf, toList_bytesOf]; simpa using hnl
        by_cases hut : u = t
        · subst hut
          have HRES : Hid (withT ts u = ts) := hidI (by unfold withT; rw [HP.out, if_pos hu])
          go_wp2
          go_ret
          refine ⟨_, rfl, ?_, Below.refl _ _⟩
          rw [HRES.out]; exact HV.out
        · have hno : ¬ ts[p]? = some t := by rw [hu]; simpa using hut
          have hne : ¬ (bytesOf u).toList = (bytesOf t).toList := by rw [toList_bytesOf, toList_bytesOf]; exact hut
          have hne' : ((bytesOf u).toList == (bytesOf t).toList) = false := by simpa using hne
          have HC := hidI (seesC_of_S HV.out)
          have HNO := hidI hno
          clear hlie hno hu hnl
          go_wp2
          refine regW (n := n) (cs := vals ts) trivial (by omega) hcap (HC.out.1.below (Below.refl _ _).drew (Nat.le_refl _)) vals_one (by omega) (fun _ _ _ _ _ h => h) ?_
          intro W v9 t33 t34 t35 t36 t37 t38 t39 t40 t41 t42 t43 t44 hb9 ho9
          have HB9 := hidI hb9
          have HO9 := hidI ho9
          clear hb9 ho9
          go_wp2
          go_ret
          refine ⟨v9, rfl, ?_, (Below.refl _ _).drew.trans HB9.out⟩
          rw [HINS.out HNO.out]
          refine seesS_of_owns (base := w.heap.size) ?_
          have := HO9.out
          rw [Nat.mul_one] at this
          have e1 : (ts.take p ++ [t] ++ ts.drop p).length = p + 1 + (n - p) := by simp [HN.out]; omega
          have e2 : vals (ts.take p ++ [t] ++ ts.drop p) = (vals ts).take p ++ [.string (bytesOf t)] ++ (vals ts).drop p := by simp [vals, List.map_take, List.map_drop]
          rw [e1, e2]
          exact this
    | succ g =>
      have hlt : i < p := by omega
      have k1 : (i : Int) < (n : Int) := by omega
      obtain ⟨u, hu, hut⟩ := HLT.out i hlt
      rcases HL.out with hnil | ⟨b, off, rfl, hlie⟩
      · subst hnil; simp at hu
      have hc := hlie i u hu
      have hbl : Op.bytesLess (bytesOf u).toList (bytesOf t).toList = true := by rw [Go.Proofs.bytesLess_eq, toList_bytesOf, toList_bytesOf]; simpa using hut
      clear hlie hu
      go_wp2
      go_roundg g
      case measure => omega
      case rel => exact ⟨i + 1, by omega, by go_num, rfl⟩
set_option maxRecDepth 100000 in
set_option maxHeartbeats 1000000 in
theorem rwrites_any (w : World) (v : Value) (xs : List Deed) (hv : SeesA w v xs) (hlen : xs.length ≤ 900) :
    Calls Try.prog 13 #[v] w fun e w' => ∃ v', e = .returned v' ∧ SeesS w' v' ((xs.map Deed.t).foldl withT []) ∧ Below w.heap.size w w' := by
  obtain ⟨a, cap, rfl, hL⟩ := hv
  have HL := hidI hL
  obtain ⟨k, hk⟩ : ∃ k, xs.length = k := ⟨_, rfl⟩
  have HK := hidI hk
  rw [hk] at hlen ⊢
  clear hL hk
  go_enter Try.func13, Try.ntmps13
  go_wp2
  go_loopg [3, 4] k (fun g s3 s4 wx => ∃ (i : Nat) (v3 : Value), v3 = s3 ∧ i + g = k ∧ s4 = .int .i64 i ∧ Hid (Below w.heap.size w wx) ∧ Hid (SeesS wx v3 (((xs.map Deed.t).take i).foldl withT []) ∧ (((xs.map Deed.t).take i).foldl withT []).length ≤ i))
  case atStart => exact ⟨0, _, rfl, by omega, rfl, hidI (Below.refl _ _), hidI ⟨⟨none, 0, by simp, by simp, .inl (by simp)⟩, by simp⟩⟩
  case round =>
    obtain ⟨i, v3, rfl, hig, rfl, HX, HW⟩ := hrel
    have hwr := HX.out.size
    cases gk with
    | zero =>
      obtain rfl : k = i := by omega
      have k1 : decide ((k : Int) < (k : Int)) = false := by simp
      go_wp2
      go_ret
      have h := HW.out.1
      rw [List.take_of_length_le (by have := HK.out; simp; omega)] at h
      exact ⟨v3, rfl, h, HX.out⟩
    | succ g =>
      have k1 : (i : Int) < (k : Int) := by omega
      obtain ⟨x, hx⟩ : ∃ x, xs[i]? = some x := ⟨_, List.getElem?_eq_getElem (by have := HK.out; omega)⟩
      have C := hidI (rwith_any wr v3 _ HW.out.1 (by have := HW.out.2; omega) x.s)
      rcases HL.out with hnil | ⟨b, off, rfl, hlie⟩
      · subst hnil; simp at hx
      have kk : ∀ {p : Addr} {v : Value}, w.cell? p = some v → wr.cell? p = some v := fun {p v} hc => (HX.out.cell (World.block_lt_of_cell? w _ hc)).trans hc
      obtain ⟨_, c1, _⟩ := hlie i x hx
      replace c1 := kk c1
      have HTK : Hid (((xs.map Deed.t).take (i + 1)).foldl withT [] = withT (((xs.map Deed.t).take i).foldl withT []) x.s.data.toList) := hidI (by rw [List.take_add_one, List.getElem?_map, hx]; simp [Deed.t])
      clear hlie kk hx
      go_wp2_with (go_at_call 21; refine Calls.mono C.out ?_; rintro e w3 ⟨v', rfl, hs3, hb3⟩; refine Hid.out ?_)
      refine hidI ?_
      have H3 := hidI hs3
      have B3 := hidI hb3
      clear hs3 hb3
      go_wp2
      go_roundg g
      case measure => omega
      case rel =>
        refine ⟨i + 1, _, rfl, by omega, by go_num, hidI (HX.out.trans (B3.out.mono hwr)), hidI ?_⟩
        rw [HTK.out]
        refine ⟨H3.out, ?_⟩
        have := HW.out.2
        have := withT_length (((xs.map Deed.t).take i).foldl withT []) x.s.data.toList
        omega
end Go.Proofs.Ytffdgjlojechaaa
