/-
  The document's From.
-/
import Derived.Test.YtdfieflcclbgjaaPermM
import Derived.WalkSpells
import Derived.WalkLawsBesides
import Derived.Maps.AppendAt
namespace Go.Proofs.Ytdfieflcclbgjaa.Perm
open Go.RowKit Go.Deep
theorem info3 : (Try.prog.info? 3).map (fun i => (i.zero, i.size, i.bytes)) = some (some (.int .i64 0), 1, 8) := by kernel_rfl
def Sees (w : World) (v : Value) (zs : List Int) : Prop :=
  ∃ (a : Option Addr) (cap : Nat), v = .slice a zs.length cap ∧ zs.length ≤ 9223372036854775807 ∧ (zs = [] ∨ ∃ b off, a = some ⟨b, off, none⟩ ∧ ∀ j, j < zs.length → w.cell? ⟨b, off + j, none⟩ = some (.int .i64 (zs.getD j 0)))
theorem Sees.below {w w' : World} {v : Value} {zs : List Int} {B : Nat} (h : Sees w v zs) (hb : Below B w w') (hB : w.heap.size ≤ B) : Sees w' v zs := by
  obtain ⟨a, cap, rfl, hl, h⟩ := h
  refine ⟨a, cap, rfl, hl, ?_⟩
  rcases h with h | ⟨b, off, rfl, hc⟩
  · exact .inl h
  · exact .inr ⟨b, off, rfl, fun j hj => by
      have := World.block_lt_of_cell? w _ (hc j hj)
      exact (hb.cell (p := ⟨b, off + j, none⟩) (Nat.lt_of_lt_of_le this hB)).trans (hc j hj)⟩
theorem sees_own {w : World} {base n : Nat} {v : Value} {zs : List Int} (h : w.ownsRow base 3 1 v n (zs.map (Value.int .i64))) (hl : n ≤ 1000000) : Sees w v zs := by
  have hn : zs.length = n := by have := h.1; simpa using this
  rcases Joins.ownsRow_forms h with ⟨rfl, h0⟩ | ⟨g, cap, rfl⟩
  · have : zs = [] := List.eq_nil_of_length_eq_zero (by omega)
    subst this
    exact ⟨none, 0, rfl, by simp, .inl rfl⟩
  · refine ⟨some ⟨g, 0, none⟩, cap, by rw [hn], by omega, .inr ⟨g, 0, rfl, fun j hj => ?_⟩⟩
    have := World.ownsRow.cells h rfl j (.int .i64 (zs.getD j 0)) (by simp [List.getD, hj])
    rw [Nat.zero_add]
    rw [show (⟨g, 0, none⟩ : Addr).add j = ⟨g, j, none⟩ by unfold Addr.add; split <;> simp_all] at this
    exact this
theorem wrap_fac {k : Nat} (h : k < 16) : IntKind.u64.wrap ((fac k : Int) * ((k : Int) + 1)) = (fac (k + 1) : Int) := by
  have e : (fac k : Int) * ((k : Int) + 1) = ((fac (k + 1) : Nat) : Int) := by
    show _ = (((k + 1) * fac k : Nat) : Int)
    rw [Nat.mul_comm]; simp
  have b := fac_le (k + 1) (by omega)
  rw [e, IntKind.wrap_u64]; omega

theorem manyR_out (n : Int) (w : World) (h : n < 0 ∨ 16 < n) :
    Calls Try.prog 65 #[.int .i64 n] w fun e w' => e = .returned (.int .u64 0) ∧ w = w' := by
  rcases h with h | h
  · go_enter Try.func65, Try.ntmps65
    go_wp2
    go_ret
    exact ⟨rfl, rfl⟩
  · have h0 : 0 ≤ n := by omega
    go_enter Try.func65, Try.ntmps65
    go_wp2
    go_ret
    exact ⟨rfl, rfl⟩
theorem manyR_in (n : Nat) (w : World) (h : n ≤ 16) :
    Calls Try.prog 65 #[.int .i64 n] w fun e w' => e = .returned (.int .u64 (fac n)) ∧ w = w' := by
  go_enter Try.func65, Try.ntmps65
  go_wp2
  go_loop [3, 4] (fun m i => ∃ j : Nat, (j + 1 ≤ n ∨ j = 0) ∧ i = .int .i64 ((j : Int) + 2) ∧ m = .int .u64 (fac (j + 1))) (fun _ i => n + 1 - (intOf i).toNat)
  case atStart => exact ⟨0, Or.inr rfl, rfl, rfl⟩
  case round =>
    obtain ⟨j, hj, rfl, rfl⟩ := hrel
    by_cases hlt : j + 2 ≤ n
    · have hlt' : (j : Int) + 2 ≤ (n : Int) := by omega
      have hw : IntKind.u64.wrap ((fac (j + 1) : Int) * ((j : Int) + 2)) = (fac (j + 1 + 1) : Int) := by
        have := wrap_fac (k := j + 1) (by omega)
        rw [← this, show ((j + 1 : Nat) : Int) + 1 = (j : Int) + 2 by omega]
      go_wp2
      go_round
      case rel => exact ⟨j + 1, by omega, by go_num, rfl⟩
      case measure => simp [intOf]; omega
    · have hge : ¬ (j : Int) + 2 ≤ (n : Int) := by omega
      have e : fac (j + 1) = fac n := by
        rcases hj with hj | rfl
        · rw [show n = j + 1 by omega]
        · rcases (show n = 0 ∨ n = 1 by omega) with rfl | rfl <;> rfl
      go_wp2
      go_ret
      exact ⟨rfl, rfl⟩
theorem step_append_own {P : Program} {w : World} {ops : Array Oper} {o : Oper} {a : Act} {K : Act → World → Prop} {Q : Exit → Act → World → Prop} {E : Prop} (hgd : o.guard = none) (s x : Operand) (t : TypeId)
    (ho : o.op = .call { callee := .builtin .append, args := #[s, x], argTypes := #[t, t] })
    (base : Nat) (e : TypeId) (i : TypeInfo) (z : Value) (size bytes : Nat) (ht : P.underlying t = some (.slice e)) (hi : P.info? e = some i) (hz : i.zero = some z)
    (hsize : i.size = size) (hby : i.bytes = bytes) (hzs : z.cells.size = size) (hsz : 0 < size)
    (v : Value) (n : Nat) (xs : List Value) (hs : a.eval s = v) (hown : w.ownsRow base e size v n xs)
    (ad : Addr) (m c : Nat) (news : List Value) (hx : a.eval x = .slice (some ad) m c) (hl : news.length = m * size) (hnews : ∀ j u, news[j]? = some u → w.cell? (ad.add j) = some u) (h1 : ∀ u ∈ news, u.oneCell' = true)
    (h63 : n + m ≤ maxLen) (hbytes : (n + m) * bytes ≤ 140737488355328) (hbase : base ≤ w.heap.size)
    (h : ∀ v' w', w'.ownsRow base e size v' (n + m) (xs ++ news) → w.grownBy w' v.ownBlock → K (a.put o.dst v') w') :
    if Region.wanted o (yielded ops a.tmps) = true then Oper.wp P o a w K Q else E := by
  have hw : Region.wanted o (yielded ops a.tmps) = true := by simp [Region.wanted, hgd]
  rw [if_pos hw]
  exact wp_append_own w s x t ho base e i z size bytes ht hi hz hsize hby hzs hsz v n xs hs hown ad m c news hx hl hnews h1 h63 hbytes hbase (fun v' w' h2 h3 _ => h v' w' h2 h3)
theorem own_empty (w : World) (e B g : Nat) (hg : g = w.heap.size) (hB : B ≤ g) : (w.alloc (.cells #[] e)).ownsRow B e 1 (.slice (some ⟨g, 0, none⟩) 0 0) 0 [] := by
  subst hg
  exact ⟨rfl, .inr ⟨w.heap.size, 0, #[], rfl, hB, blk_alloc_new _ _, Nat.le_refl _, Nat.zero_le _, rfl, rfl⟩⟩
theorem add_lit (g j : Nat) : (⟨g, 0, none⟩ : Addr).add j = ⟨g, j, none⟩ := by unfold Addr.add; split <;> simp_all
set_option maxHeartbeats 4000000 in
theorem refFrom_walk (n : Nat) (k : Nat) (w : World) (h : n ≤ 16) (hk : k < 18446744073709551616) :
    Calls Try.prog 40 #[.int .i64 n, .int .u64 k] w fun e w' => ∃ (x : Value) (ps : List Int), e = .returned (.tuple #[x, .int .i64 0]) ∧ ps.length = n ∧ Steps n none16 (k % fac n) ps ∧ Sees w' x ps ∧ Below w.heap.size w w' := by
  obtain ⟨i3, hi, hz0, hz1, hz2⟩ := info_parts info3
  have hf := fac_pos n
  have hfl := fac_le n h
  obtain ⟨k0, hk0⟩ : ∃ k0, k % fac n = k0 := ⟨_, rfl⟩
  have hkm : k0 < fac n := by rw [← hk0]; exact Nat.mod_lt _ hf
  have ek : (k : Int) % (fac n : Int) = (k0 : Int) := by rw [← hk0]; rfl
  rw [hk0]
  clear hk0
  have hf0 : ((fac n : Int) == 0) = false := by simp; omega
  go_enter Try.func40, Try.ntmps40
  go_wp2_with (go_at_call 65; refine (manyR_in n _ h).mono ?_; rintro e w' ⟨rfl, rfl⟩)
  rw [ek]
  clear ek hf0 hf hk
  go_loopg [7, 9] n (fun g s7 s9 wx => ∃ (i : Nat), i + g = n ∧ s9 = .int .i64 i ∧ wx.ownsRow w.heap.size 3 1 s7 i ((free none16 i).map (Value.int .i64)) ∧ Below w.heap.size w wx)
  case atStart => exact ⟨0, by omega, rfl, World.ownsRow_nil _ _ _ _, Below.refl _ _⟩
  case round =>
    obtain ⟨i, hig, rfl, hown, hb⟩ := hrel
    cases gk with
    | succ g =>
      have hlt : (i : Int) < (n : Int) := by omega
      have hfs : free none16 (i + 1) = free none16 i ++ [(i : Int)] := by rw [free_none, free_none, List.range_succ, List.map_append]; rfl
      have HT : Hid _ := hfs
      clear hfs
      go_wp2_with (at_builtin; refine wpList_append_own _ rfl _ _ 65 rfl w.heap.size 3 i3 (.int .i64 0) 1 8 Try.underlying65 hi hz0 hz1 hz2 rfl (by decide) _ _ _ rfl (hown.alloc _) ⟨wr.heap.size, 0, none⟩ 1 1 [.int .i64 i] rfl rfl (cell_one_new _ _ _) (by intro u hu; simp at hu; subst hu; rfl) (by unfold maxLen; omega) (by omega) (by have := hb.size; simp; omega) ?_; intro v6 w6 hown6 hg6 hnl; clear hnl; refine Hid.out ?_)
      refine hidI ?_
      have hown6' : w6.ownsRow w.heap.size 3 1 v6 (i + 1) ((free none16 (i + 1)).map (Value.int .i64)) := by rw [HT.out, List.map_append]; exact hown6
      have hb6 : Below w.heap.size w w6 := (hb.alloc hb.size _).grown hg6 (by have := hb.size; simp; omega) (fun q hq => (hown.lt q hq).1)
      clear hown hown6 hg6 hb
      go_wp2
      go_roundg g
      case measure => omega
      case rel => exact ⟨i + 1, by omega, by go_num, hown6', hb6⟩
    | zero =>
      have hin : i = n := by omega
      subst hin
      go_wp2
      go_loopg [1, 6, 7, 8] i (fun g s1 s6 s7 s8 wx => ∃ (kc : Nat) (sn : List Bool) (ps : List Int) (la : Option Addr) (lc : Nat), s7 = .slice la g lc ∧ s1 = .int .u64 kc ∧ s6 = .int .u64 (fac g) ∧ ps.length + g = i ∧ kc < fac g ∧ sn.length = 16 ∧ Aside (below sn i = g) ∧
          wx.ownsRow w.heap.size 3 1 s7 g ((free sn i).map (Value.int .i64)) ∧ wx.ownsRow w.heap.size 3 1 s8 ps.length (ps.map (Value.int .i64)) ∧ (s7.ownBlock = none ∨ s7.ownBlock ≠ s8.ownBlock) ∧
          Aside (∀ r, r.length = g → Steps i sn kc r → Steps i none16 k0 (ps ++ r)) ∧ Below w.heap.size w wx)
      case atStart =>
        obtain ⟨la, lc, hue⟩ : ∃ a c, u7 = .slice a i c := by
          rcases Joins.ownsRow_forms hown with ⟨h1, h2⟩ | ⟨g, c, h1⟩
          · exact ⟨none, 0, by rw [h1, h2]⟩
          · exact ⟨_, c, h1⟩
        exact ⟨k0, none16, [], la, lc, hue, rfl, rfl, by simp, hkm, rfl, below_none i, hown, World.ownsRow_nil _ _ _ _, by cases u7.ownBlock <;> simp [Value.ownBlock], fun r _ h => h, hb⟩
      case round =>
        clear hown hb hkm
        obtain ⟨kc, sn, ps, la, lc, rfl, rfl, rfl, hpl, hkc, hsl, HBN, hleft, hout, hapart, HI, hb⟩ := hrel
        cases gk with
        | zero =>
          go_wp2
          go_ret2
          exact ⟨u8, ps, rfl, by omega, by have := HI.out [] rfl trivial; rwa [List.append_nil] at this, sees_own hout (by omega), hb⟩
        | succ g =>
          obtain ⟨G, c', hform⟩ := Joins.ownsRow_form hleft (by omega)
          cases hform
          have hFp := fac_pos g
          have hFl := fac_le g (by omega)
          have hFl' := fac_le (g + 1) (by omega)
          have hF0 : ((fac g : Int) == 0) = false := by simp; omega
          have eF : (fac (g + 1) : Int) / ((g : Int) + 1) = (fac g : Int) := by
            have : fac (g + 1) / (g + 1) = fac g := Nat.mul_div_cancel_left _ (Nat.succ_pos g)
            rw [← this]; rfl
          have qp : (0 : Int) < ((g + 1 : Nat) : Int) := by omega
          obtain ⟨sk, hsk⟩ : ∃ sk, kc / fac g = sk := ⟨_, rfl⟩
          obtain ⟨kr, hkr⟩ : ∃ kr, kc % fac g = kr := ⟨_, rfl⟩
          have e1 : (kc : Int) / (fac g : Int) = (sk : Int) := by rw [← hsk]; rfl
          have e2 : (kc : Int) % (fac g : Int) = (kr : Int) := by rw [← hkr]; rfl
          have hsb : sk < g + 1 := by
            rw [← hsk]
            exact Nat.div_lt_of_lt_mul (by rw [Nat.mul_comm]; exact hkc)
          have hkrl : kr < fac g := by rw [← hkr]; exact Nat.mod_lt _ hFp
          obtain ⟨v, hv, hvi, hvf, hvb⟩ := free_get (sn := sn) (n := i) (i := sk) (by rw [HBN.out]; exact hsb)
          have hset := free_set (sn := sn) (v := v) (by omega) hvf hvi
          rw [hvb, erase_parts] at hset
          have hfl' := free_len sn i
          rw [HBN.out] at hfl'
          have hcell : wr.cell? ⟨G, sk, none⟩ = some (.int .i64 (v : Int)) := by
            have := World.ownsRow.cells hleft rfl sk (.int .i64 (v : Int)) (by
              rw [List.getElem?_map, List.getElem?_eq_getElem (by omega)]
              have : (free sn i)[sk]'(by omega) = (v : Int) := by rw [← hv]; simp [List.getD, hfl', hsb]
              rw [this]; rfl)
            rwa [add_lit] at this
          have HS : Aside (kc / fac g = sk ∧ kc % fac g = kr) := ⟨hsk, hkr⟩
          have HV : Aside (sn.getD v false = false ∧ v < i ∧ below sn v = sk) := ⟨hvf, hvi, hvb⟩
          have HE : Aside (free (sn.set v true) i = (free sn i).take sk ++ (free sn i).drop (sk + 1)) := hset
          have HFL : Aside ((free sn i).length = g + 1) := hfl'
          clear hsk hkr hvf hvb hset hfl' hv
          go_wp2_with (at_builtin; refine wpList_append_own _ rfl _ _ 65 rfl w.heap.size 3 i3 (.int .i64 0) 1 8 Try.underlying65 hi hz0 hz1 hz2 rfl (by decide) _ _ _ rfl (hout.alloc _) ⟨wr.heap.size, 0, none⟩ 1 1 [.int .i64 v] rfl rfl (cell_one_new _ _ _) (by intro u hu; simp at hu; subst hu; rfl) (by unfold maxLen; omega) (by omega) (by have := hb.size; simp; omega) ?_; intro vo w6 hout6 hg6 hnl; clear hnl; refine Hid.out ?_)
          refine hidI ?_
          have hb6 : Below w.heap.size w w6 := (hb.alloc hb.size _).grown hg6 (by have := hb.size; simp; omega) (fun q hq => (hout.lt q hq).1)
          have hleft6 : w6.ownsRow w.heap.size 3 1 (.slice (some ⟨G, 0, none⟩) (g + 1) lc) (g + 1) ((free sn i).map (Value.int .i64)) := (hleft.alloc _).kept hg6 hapart
          have hout6' : w6.ownsRow w.heap.size 3 1 vo (ps ++ [(v : Int)]).length ((ps ++ [(v : Int)]).map (Value.int .i64)) := by rw [List.length_append, List.map_append]; exact hout6
          clear hleft hout hout6 hg6 hb hapart hcell
          have hlc : g + 1 ≤ lc := by
            rcases hleft6.2 with ⟨h1, _⟩ | ⟨_, cap, _, h1, _, _, h2, _⟩
            · cases h1
            · cases h1; exact h2
          have hGw : G < w6.heap.size := (hleft6.lt G rfl).2
          have hnews1 : ∀ w' : World, Below w6.heap.size w6 w' → ∀ j u, (((free sn i).take sk).map (Value.int .i64))[j]? = some u → w'.cell? ((⟨G, 0, none⟩ : Addr).add j) = some u := by
            intro w' hbw j u hu
            rw [add_lit, hbw.cell (p := ⟨G, j, none⟩) hGw, ← add_lit]
            refine World.ownsRow.cells hleft6 rfl j u ?_
            rw [← hu, List.map_take, List.getElem?_take]
            split
            · rfl
            · rename_i hj
              rw [List.map_take, List.getElem?_take, if_neg hj] at hu
              cases hu
          have hnews2 : ∀ w' : World, Below w6.heap.size w6 w' → ∀ j u, (((free sn i).drop (sk + 1)).map (Value.int .i64))[j]? = some u → w'.cell? ((⟨G, sk + 1, none⟩ : Addr).add j) = some u := by
            intro w' hbw j u hu
            have : (⟨G, sk + 1, none⟩ : Addr).add j = ⟨G, sk + 1 + j, none⟩ := by unfold Addr.add; split <;> simp_all
            rw [this, hbw.cell (p := ⟨G, sk + 1 + j, none⟩) hGw, ← add_lit]
            refine World.ownsRow.cells hleft6 rfl (sk + 1 + j) u ?_
            rw [← hu, List.map_drop, List.getElem?_drop]
          have H1 : Hid _ := hnews1
          have H2 : Hid _ := hnews2
          clear hnews1 hnews2
          go_wp2
          obtain ⟨t, ht⟩ : ∃ t, sk + 1 = t := ⟨_, rfl⟩
          have et : (sk : Int) + 1 = (t : Int) := by omega
          have hskI : (sk : Int) < (g : Int) + 1 := by omega
          have hskl : (sk : Int) ≤ (lc : Int) := by omega
          have hlcI : ((g : Int) + 1) ≤ (lc : Int) := by omega
          have htI : (t : Int) ≤ (g : Int) + 1 := by omega
          have htl : t ≤ 17 := by omega
          have hwr : IntKind.u64.wrap (t : Int) = (t : Int) := by rw [IntKind.wrap_u64]; omega
          rw [ht] at H2 HE
          by_cases hcl : lc = t
          · subst hcl
            have H3 : Hid (∀ w' : World, Below w6.heap.size w6 w' → ∀ j u, (((free sn i).drop lc).map (Value.int .i64))[j]? = some u → w'.cell? ((⟨G, 0, none⟩ : Addr).add j) = some u) := by
              intro w' _ j u hu
              rw [List.drop_of_length_le (by rw [HFL.out]; exact hlc)] at hu
              simp at hu
            go_region_held3 (fun w' => Below w6.heap.size w6 w') (first | exact Below.refl _ _ | exact (Below.refl _ _).drew | (refine Below.drew ?_; assumption) | (refine Below.alloc (by assumption) (by simp) _) | (refine Below.grown (by assumption) hg8 (Below.size (by assumption)) (fun q hq => (World.ownsRow.lt hown7 q hq).1)) | (refine Below.grown (by assumption) hg7 (by simp) (by simp [Value.ownBlock]))) ((first | (refine step_append_own (by rfl) _ _ 65 (by rfl) w6.heap.size 3 i3 (.int .i64 0) 1 8 Try.underlying65 hi hz0 hz1 hz2 rfl (by decide) (.slice (some ⟨w6.heap.size, 0, none⟩) 0 0) 0 [] (by rfl) (own_empty _ _ _ _ (by simp) (by simp)) ⟨G, 0, none⟩ sk lc (((free sn i).take sk).map (Value.int .i64)) (by rfl) (by rw [List.length_map, List.length_take, HFL.out]; omega) (H1.out _ (by assumption)) (by intro u hu; obtain ⟨x, _, rfl⟩ := List.mem_map.1 hu; rfl) (by unfold maxLen; omega) (by omega) (by simp) ?_; intro v7 w7 hown7 hg7) | (refine step_append_own (by rfl) _ _ 65 (by rfl) w6.heap.size 3 i3 (.int .i64 0) 1 8 Try.underlying65 hi hz0 hz1 hz2 rfl (by decide) v7 (0 + sk) _ (by rfl) hown7 ⟨G, 0, none⟩ 0 0 (((free sn i).drop lc).map (Value.int .i64)) (by rfl) (by rw [List.length_map, List.length_drop, HFL.out]; omega) (H3.out _ (by assumption)) (by intro u hu; obtain ⟨x, _, rfl⟩ := List.mem_map.1 hu; rfl) (by unfold maxLen; omega) (by omega) (Below.size (by assumption)) ?_; intro v8 w8 hown8 hg8)))
            have hB8 : Below w6.heap.size w6 w8 := by assumption
            have hL : w8.ownsRow w.heap.size 3 1 v8 g ((free (sn.set v true) i).map (Value.int .i64)) := by
              have h1 := Joins.ownsRow_le hown8 hb6.size
              rw [List.nil_append, ← List.map_append, ← HE.out, show 0 + sk + 0 = g by omega] at h1
              exact h1
            have hO := own_below hout6' hB8 (Nat.le_refl _)
            have hap : v8.ownBlock = none ∨ v8.ownBlock ≠ vo.ownBlock := by
              cases hq : v8.ownBlock with
              | none => exact .inl rfl
              | some q =>
                refine .inr (fun he => ?_)
                have h1 := (hown8.lt q hq).1
                have h2 := (hout6'.lt q he.symm).2
                omega
            have hbn : below (sn.set v true) i = g := by rw [below_set (by omega) HV.out.1, if_pos HV.out.2.1, HBN.out]; omega
            have hb8 : Below w.heap.size w w8 := hb6.trans (hB8.mono hb6.size)
            have hst : Aside (∀ r, r.length = g → Steps i (sn.set v true) kr r → Steps i none16 k0 ((ps ++ [(v : Int)]) ++ r)) := fun r hr hs => by
              rw [List.append_assoc]
              refine HI.out (v :: r) (by simp [hr]) ⟨v, rfl, HV.out.2.1, HV.out.1, ?_, ?_⟩
              · rw [hr, HS.out.1]; exact HV.out.2.2
              · rw [hr, HS.out.2]; exact hs
            have hBN : Aside _ := hbn
            have hsl' : (sn.set v true).length = 16 := by simpa using hsl
            have hpl' : (ps ++ [(v : Int)]).length + g = i := by simp; omega
            obtain ⟨la', lc', hf⟩ : ∃ la' lc', v8 = .slice la' g lc' := by
              rcases Joins.ownsRow_forms hL with ⟨h1, h2⟩ | ⟨q, cc, h1⟩
              · exact ⟨none, 0, by rw [h1, h2]⟩
              · exact ⟨_, cc, h1⟩
            have HF : Hid _ := hf
            clear hf hbn hown8 hg8 hB8 hown7 hg7 hout6' hleft6 hb6 et hskI hskl hlcI htI htl hwr
            go_wp2
            go_roundg g
            case measure => omega
            case rel => exact ⟨kr, sn.set v true, ps ++ [(v : Int)], la', lc', HF.out, rfl, rfl, hpl', hkrl, hsl', hBN, hL, hO, hap, hst, hb8⟩
          · have H3 : Hid (∀ w' : World, Below w6.heap.size w6 w' → ∀ j u, (((free sn i).drop t).map (Value.int .i64))[j]? = some u → w'.cell? ((⟨G, t, none⟩ : Addr).add j) = some u) := H2.out
            go_region_held3 (fun w' => Below w6.heap.size w6 w') (first | exact Below.refl _ _ | exact (Below.refl _ _).drew | (refine Below.drew ?_; assumption) | (refine Below.alloc (by assumption) (by simp) _) | (refine Below.grown (by assumption) hg8 (Below.size (by assumption)) (fun q hq => (World.ownsRow.lt hown7 q hq).1)) | (refine Below.grown (by assumption) hg7 (by simp) (by simp [Value.ownBlock]))) ((first | (refine step_append_own (by rfl) _ _ 65 (by rfl) w6.heap.size 3 i3 (.int .i64 0) 1 8 Try.underlying65 hi hz0 hz1 hz2 rfl (by decide) (.slice (some ⟨w6.heap.size, 0, none⟩) 0 0) 0 [] (by rfl) (own_empty _ _ _ _ (by simp) (by simp)) ⟨G, 0, none⟩ sk lc (((free sn i).take sk).map (Value.int .i64)) (by rfl) (by rw [List.length_map, List.length_take, HFL.out]; omega) (H1.out _ (by assumption)) (by intro u hu; obtain ⟨x, _, rfl⟩ := List.mem_map.1 hu; rfl) (by unfold maxLen; omega) (by omega) (by simp) ?_; intro v7 w7 hown7 hg7) | (refine step_append_own (by rfl) _ _ 65 (by rfl) w6.heap.size 3 i3 (.int .i64 0) 1 8 Try.underlying65 hi hz0 hz1 hz2 rfl (by decide) v7 (0 + sk) _ (by rfl) hown7 ⟨G, t, none⟩ (g + 1 - t) (lc - t) (((free sn i).drop t).map (Value.int .i64)) (by rfl) (by rw [List.length_map, List.length_drop, HFL.out]; omega) (H3.out _ (by assumption)) (by intro u hu; obtain ⟨x, _, rfl⟩ := List.mem_map.1 hu; rfl) (by unfold maxLen; omega) (by omega) (Below.size (by assumption)) ?_; intro v8 w8 hown8 hg8)))
            have hB8 : Below w6.heap.size w6 w8 := by assumption
            have hL : w8.ownsRow w.heap.size 3 1 v8 g ((free (sn.set v true) i).map (Value.int .i64)) := by
              have h1 := Joins.ownsRow_le hown8 hb6.size
              rw [List.nil_append, ← List.map_append, ← HE.out, show 0 + sk + (g + 1 - t) = g by omega] at h1
              exact h1
            have hO := own_below hout6' hB8 (Nat.le_refl _)
            have hap : v8.ownBlock = none ∨ v8.ownBlock ≠ vo.ownBlock := by
              cases hq : v8.ownBlock with
              | none => exact .inl rfl
              | some q =>
                refine .inr (fun he => ?_)
                have h1 := (hown8.lt q hq).1
                have h2 := (hout6'.lt q he.symm).2
                omega
            have hbn : below (sn.set v true) i = g := by rw [below_set (by omega) HV.out.1, if_pos HV.out.2.1, HBN.out]; omega
            have hb8 : Below w.heap.size w w8 := hb6.trans (hB8.mono hb6.size)
            have hst : Aside (∀ r, r.length = g → Steps i (sn.set v true) kr r → Steps i none16 k0 ((ps ++ [(v : Int)]) ++ r)) := fun r hr hs => by
              rw [List.append_assoc]
              refine HI.out (v :: r) (by simp [hr]) ⟨v, rfl, HV.out.2.1, HV.out.1, ?_, ?_⟩
              · rw [hr, HS.out.1]; exact HV.out.2.2
              · rw [hr, HS.out.2]; exact hs
            have hBN : Aside _ := hbn
            have hsl' : (sn.set v true).length = 16 := by simpa using hsl
            have hpl' : (ps ++ [(v : Int)]).length + g = i := by simp; omega
            obtain ⟨la', lc', hf⟩ : ∃ la' lc', v8 = .slice la' g lc' := by
              rcases Joins.ownsRow_forms hL with ⟨h1, h2⟩ | ⟨q, cc, h1⟩
              · exact ⟨none, 0, by rw [h1, h2]⟩
              · exact ⟨_, cc, h1⟩
            have HF : Hid _ := hf
            clear hf hbn hown8 hg8 hB8 hown7 hg7 hout6' hleft6 hb6 et hskI hskl hlcI htI htl hwr
            go_wp2
            go_roundg g
            case measure => omega
            case rel => exact ⟨kr, sn.set v true, ps ++ [(v : Int)], la', lc', HF.out, rfl, rfl, hpl', hkrl, hsl', hBN, hL, hO, hap, hst, hb8⟩
end Go.Proofs.Ytdfieflcclbgjaa.Perm
