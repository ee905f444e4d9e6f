/-
  What Fork stores for a column: the last statement of its loop.
-/
import Derived.Test.YtbjoljokdjgbnabGF
import Derived.Test.YtbjoljokdjgbnabGG
namespace Go.Proofs.Ytbjoljokdjgbnab
open Go.RowKit Go.Deep Go.MapKept
open Go.ChangeMaps (setBlock)
set_option maxRecDepth 100000 in
set_option maxHeartbeats 1000000 in
/-- A column's values cloned: a row of its own. -/
theorem cloneW_own (x : Addr) (cap : Nat) (zs : List Int) (w : World) (hl : zs.length ≤ 100000) (hv : Sees w (.slice (some x) zs.length cap) zs) :
    Calls Try.prog 51 #[.slice (some x) zs.length cap] w fun e w' => ∃ u, e = .returned u ∧ w'.ownsRow w.heap.size 51 1 u zs.length (zs.map (Value.int .i64)) ∧ Below w.heap.size w w' := by
  have HV := hidI (hv.below ((Below.refl _ w).alloc (Nat.le_refl _) (.cells #[] 51)) (Nat.le_refl _))
  have HO := hidI (World.ownsRow_made (base := w.heap.size) (e := 51) (size := 1) w #[] 0 (Nat.le_refl _) (by unfold maxLen; omega) rfl)
  have q36 := nil60
  have u36 : ∀ w, Sem.run Try.prog (underlying 60) w = .ok (TypeDesc.slice 51) w := run_underlying Try.underlying60
  clear hv
  go_enter Try.func51, Try.ntmps51
  go_wp2_with (at_builtin; refine wpList_append_words rfl _ _ rfl w.heap.size _ 0 [] rfl HO.out _ zs rfl HV.out (by omega) (by simp) ?_; intro v' w1 hown' hgrow' hat')
  go_ret
  refine ⟨v', rfl, by simpa using hown', ?_⟩
  exact ((Below.refl _ w).alloc (Nat.le_refl _) _).grown hgrow' (by simp) (fun k hk => (HO.out.lt k hk).1)
/-- A column more. -/
theorem Whole.add {w w' : World} {tb mb : Nat} {n m : Int} {cs : List Column} (h : Whole w tb mb n m cs) {c : Column} (hm : w'.heap[mb]? = some (.map (ents 0 (cs ++ [c])).toArray (cs.length + 1))) (hsz : w.heap.size ≤ w'.heap.size) (hk : ∀ k, k < w.heap.size → k ≠ mb → w'.heap[k]? = w.heap[k]?) (hok : c.ok n m) (hr : w.heap.size ≤ c.row) (hr' : c.row < w'.heap.size)
    (hrow : ∀ j, j < c.vals.length → w'.cell? ⟨c.row, j, none⟩ = some (.int .i64 (c.vals.getD j 0)) ∧ w'.frozen? ⟨c.row, j, none⟩ = false) (hne : ∀ x ∈ cs, ¬ (x.name = c.name ∧ x.side = c.side)) (h24 : cs.length < 24) : Whole w' tb mb n m (cs ++ [c]) := by
  have hap := h.apart
  have htb : tb < w.heap.size := h.lt (.inl rfl)
  have hmb : mb < w.heap.size := h.lt (.inr (.inl rfl))
  obtain ⟨h0, h1, h2, h3, h4, h5, h6, h7⟩ := h
  have kc : ∀ {b o : Nat} {v : Value}, b ≠ mb → w.cell? ⟨b, o, none⟩ = some v → w'.cell? ⟨b, o, none⟩ = some v := fun {b o v} hne hv => (World.cell?_of_block (hk b (World.block_lt_of_cell? w _ hv) hne)).trans hv
  have hsn : ∀ {j : Nat} {x : Column}, (cs ++ [c])[j]? = some x → (cs[j]? = some x ∧ j < cs.length) ∨ (j = cs.length ∧ x = c) := fun {j x} hj => by
    by_cases hlt : j < cs.length
    · rw [List.getElem?_append_left hlt] at hj
      exact .inl ⟨hj, hlt⟩
    · rw [List.getElem?_append_right (by omega)] at hj
      have := (List.getElem?_eq_some_iff.1 hj).1
      simp only [List.length_cons, List.length_nil] at this
      have hj' : j = cs.length := by omega
      subst hj'
      exact .inr ⟨rfl, by simpa using hj.symm⟩
  refine ⟨kc hap h0, kc hap h1, kc hap h2, by rw [hm]; simp, ?_, ?_, ?_, by simp; omega⟩
  · intro x hx
    rcases List.mem_append.1 hx with hx | hx
    · obtain ⟨r1, r2, r3, r4, r5⟩ := h4 x hx
      exact ⟨r1, Nat.lt_of_lt_of_le r2 hsz, r3, r4, fun j hj => ⟨kc r4 (r5 j hj).1, (World.frozen?_of_block (hk x.row r2 r4)).trans (r5 j hj).2⟩⟩
    · obtain rfl : x = c := by simpa using hx
      exact ⟨hok, hr', by omega, by omega, hrow⟩
  · intro a b x y hx hy e1 e2
    rcases hsn hx with ⟨hx', ha⟩ | ⟨ha, hxc⟩ <;> rcases hsn hy with ⟨hy', hb⟩ | ⟨hb, hyc⟩
    · exact h5 _ _ x y hx' hy' e1 e2
    · rw [hyc] at e1 e2; exact absurd ⟨e1, e2⟩ (hne x (List.mem_of_getElem? hx'))
    · rw [hxc] at e1 e2; exact absurd ⟨e1.symm, e2.symm⟩ (hne y (List.mem_of_getElem? hy'))
    · omega
  · intro a b x y hx hy e1
    rcases hsn hx with ⟨hx', ha⟩ | ⟨ha, hxc⟩ <;> rcases hsn hy with ⟨hy', hb⟩ | ⟨hb, hyc⟩
    · exact h6 _ _ x y hx' hy' e1
    · rw [hyc] at e1; have := (h4 x (List.mem_of_getElem? hx')).2.1; omega
    · rw [hxc] at e1; have := (h4 y (List.mem_of_getElem? hy')).2.1; omega
    · omega
def ops7 : Array Oper := #[{ dst := some 27, op := Go.Op.move (Go.Operand.tmp 3), type := 41, pos := "column.go:216", after := #[], guard := none }, { dst := some 28, op := Go.Op.nilCheck (Go.Operand.tmp 27), type := 0, pos := "column.go:216", after := #[{ on := 0, ground := Go.Ground.data }], guard := none }, { dst := some 29, op := Go.Op.fieldAddr 95 (Go.Operand.tmp 28) 2, type := 0, pos := "column.go:216", after := #[{ on := 1, ground := Go.Ground.data }], guard := none }, { dst := some 30, op := Go.Op.load 93 (Go.Operand.tmp 29), type := 93, pos := "column.go:216", after := #[{ on := 2, ground := Go.Ground.data }], guard := none }, { dst := some 31, op := Go.Op.load 40 (Go.Operand.tmp 4), type := 40, pos := "column.go:216", after := #[], guard := none }, { dst := some 32, op := Go.Op.fieldAddr 97 (Go.Operand.tmp 5) 0, type := 0, pos := "column.go:216", after := #[], guard := none }, { dst := some 33, op := Go.Op.load 63 (Go.Operand.tmp 32), type := 63, pos := "column.go:216", after := #[{ on := 5, ground := Go.Ground.data }], guard := none }, { dst := some 34, op := Go.Op.fieldAddr 97 (Go.Operand.tmp 5) 1, type := 0, pos := "column.go:216", after := #[], guard := none }, { dst := some 35, op := Go.Op.load 60 (Go.Operand.tmp 34), type := 60, pos := "column.go:216", after := #[{ on := 7, ground := Go.Ground.data }], guard := none }, { dst := some 36, op := Go.Op.call { callee := Go.Callee.value (Go.Operand.func 51), args := #[Go.Operand.tmp 35], argTypes := #[60] }, type := 60, pos := "column.go:216", after := #[{ on := 8, ground := Go.Ground.data }], guard := none }, { dst := some 37, op := Go.Op.build 97 #[(0, Go.Operand.tmp 33), (1, Go.Operand.tmp 36)], type := 97, pos := "column.go:216", after := #[{ on := 6, ground := Go.Ground.data }, { on := 9, ground := Go.Ground.data }], guard := none }, { dst := none, op := Go.Op.mapUpdate 93 (Go.Operand.tmp 30) (Go.Operand.tmp 31) (Go.Operand.tmp 37), type := 0, pos := "column.go:216", after := #[{ on := 3, ground := Go.Ground.data }, { on := 4, ground := Go.Ground.data }, { on := 10, ground := Go.Ground.data }, { on := 9, ground := Go.Ground.chain }, { on := 0, ground := Go.Ground.phase }, { on := 1, ground := Go.Ground.phase }, { on := 2, ground := Go.Ground.phase }, { on := 3, ground := Go.Ground.phase }, { on := 4, ground := Go.Ground.phase }, { on := 5, ground := Go.Ground.phase }, { on := 6, ground := Go.Ground.phase }, { on := 7, ground := Go.Ground.phase }, { on := 8, ground := Go.Ground.phase }, { on := 9, ground := Go.Ground.phase }, { on := 10, ground := Go.Ground.phase }], guard := none }]
theorem r0 : ops7[0]? = some { dst := some 27, op := Go.Op.move (Go.Operand.tmp 3), type := 41, pos := "column.go:216", after := #[], guard := none } := by kernel_rfl
theorem r1 : ops7[1]? = some { dst := some 28, op := Go.Op.nilCheck (Go.Operand.tmp 27), type := 0, pos := "column.go:216", after := #[{ on := 0, ground := Go.Ground.data }], guard := none } := by kernel_rfl
theorem r2 : ops7[2]? = some { dst := some 29, op := Go.Op.fieldAddr 95 (Go.Operand.tmp 28) 2, type := 0, pos := "column.go:216", after := #[{ on := 1, ground := Go.Ground.data }], guard := none } := by kernel_rfl
theorem r3 : ops7[3]? = some { dst := some 30, op := Go.Op.load 93 (Go.Operand.tmp 29), type := 93, pos := "column.go:216", after := #[{ on := 2, ground := Go.Ground.data }], guard := none } := by kernel_rfl
theorem r4 : ops7[4]? = some { dst := some 31, op := Go.Op.load 40 (Go.Operand.tmp 4), type := 40, pos := "column.go:216", after := #[], guard := none } := by kernel_rfl
theorem r5 : ops7[5]? = some { dst := some 32, op := Go.Op.fieldAddr 97 (Go.Operand.tmp 5) 0, type := 0, pos := "column.go:216", after := #[], guard := none } := by kernel_rfl
theorem r6 : ops7[6]? = some { dst := some 33, op := Go.Op.load 63 (Go.Operand.tmp 32), type := 63, pos := "column.go:216", after := #[{ on := 5, ground := Go.Ground.data }], guard := none } := by kernel_rfl
theorem r7 : ops7[7]? = some { dst := some 34, op := Go.Op.fieldAddr 97 (Go.Operand.tmp 5) 1, type := 0, pos := "column.go:216", after := #[], guard := none } := by kernel_rfl
theorem r8 : ops7[8]? = some { dst := some 35, op := Go.Op.load 60 (Go.Operand.tmp 34), type := 60, pos := "column.go:216", after := #[{ on := 7, ground := Go.Ground.data }], guard := none } := by kernel_rfl
theorem r9 : ops7[9]? = some { dst := some 36, op := Go.Op.call { callee := Go.Callee.value (Go.Operand.func 51), args := #[Go.Operand.tmp 35], argTypes := #[60] }, type := 60, pos := "column.go:216", after := #[{ on := 8, ground := Go.Ground.data }], guard := none } := by kernel_rfl
theorem r10 : ops7[10]? = some { dst := some 37, op := Go.Op.build 97 #[(0, Go.Operand.tmp 33), (1, Go.Operand.tmp 36)], type := 97, pos := "column.go:216", after := #[{ on := 6, ground := Go.Ground.data }, { on := 9, ground := Go.Ground.data }], guard := none } := by kernel_rfl
theorem r11 : ops7[11]? = some { dst := none, op := Go.Op.mapUpdate 93 (Go.Operand.tmp 30) (Go.Operand.tmp 31) (Go.Operand.tmp 37), type := 0, pos := "column.go:216", after := #[{ on := 3, ground := Go.Ground.data }, { on := 4, ground := Go.Ground.data }, { on := 10, ground := Go.Ground.data }, { on := 9, ground := Go.Ground.chain }, { on := 0, ground := Go.Ground.phase }, { on := 1, ground := Go.Ground.phase }, { on := 2, ground := Go.Ground.phase }, { on := 3, ground := Go.Ground.phase }, { on := 4, ground := Go.Ground.phase }, { on := 5, ground := Go.Ground.phase }, { on := 6, ground := Go.Ground.phase }, { on := 7, ground := Go.Ground.phase }, { on := 8, ground := Go.Ground.phase }, { on := 9, ground := Go.Ground.phase }, { on := 10, ground := Go.Ground.phase }], guard := none } := by kernel_rfl
set_option maxRecDepth 100000 in
set_option maxHeartbeats 1500000 in
theorem reg7 {x0 x1 x2 x6 x7 x8 x9 x10 x11 x12 x13 x14 x15 x16 x17 x18 x19 x20 x21 x22 x23 x24 x25 x26 x27 x28 x29 x30 x31 x32 x33 x34 x35 x36 x37 x38 : Value} {Q : Exit → Act → World → Prop} {V0 : World} {tf mf kb cb row L cap : Nat} {s : ByteArray} {d q : Int} {zs : List Int} (ob : Value → Obj)
    (hS0 : V0.drew.cell? ⟨tf, 2, none⟩ = some (.map (some mf)) ∧ V0.drew.cell? ⟨kb, 0, none⟩ = some (.string s) ∧ V0.drew.cell? ⟨kb, 1, none⟩ = some (.int .u8 d) ∧ V0.drew.cell? ⟨cb, 0, none⟩ = some (.int .u8 q) ∧ V0.drew.cell? ⟨cb, 1, none⟩ = some (.slice (some ⟨row, 0, none⟩) L cap)) (hC : Calls Try.prog 51 #[.slice (some ⟨row, 0, none⟩) L cap] V0.drew fun e w' => ∃ u, e = .returned u ∧ w'.ownsRow V0.drew.heap.size 51 1 u L (zs.map (Value.int .i64)) ∧ Below V0.drew.heap.size V0.drew w')
    (hst : ∀ (y : World) (v : Value), Below V0.drew.heap.size V0.drew y → (Instr.mapUpdate 93 (.map (some mf)) (.agg #[.string s, .int .u8 d]) (.agg #[.int .u8 q, v])).run Try.prog y = .ok () (setBlock y mf (ob v)))
    (hpan : ∀ c (a : Act) w (dd : Tmp) vv, Q (.panic c) (a.put (some dd) vv) w → Q (.panic c) a w)
    (hQ : ∀ (W6 : World) (v t27 t28 t29 t30 t31 t32 t33 t34 t35 t36 t37 : Value), Below V0.drew.heap.size V0.drew W6 → W6.ownsRow V0.drew.heap.size 51 1 v L (zs.map (Value.int .i64)) → Q .normal { tmps := #[x0, x1, x2, .pointer (some ⟨tf, 0, none⟩), .pointer (some ⟨kb, 0, none⟩), .pointer (some ⟨cb, 0, none⟩), x6, x7, x8, x9, x10, x11, x12, x13, x14, x15, x16, x17, x18, x19, x20, x21, x22, x23, x24, x25, x26, t27, t28, t29, t30, t31, t32, t33, t34, t35, t36, t37, x38], defers := [] } (setBlock W6 mf (ob v))) :
    (Code.region 7 ops7 true).wp Try.prog Q { tmps := #[x0, x1, x2, .pointer (some ⟨tf, 0, none⟩), .pointer (some ⟨kb, 0, none⟩), .pointer (some ⟨cb, 0, none⟩), x6, x7, x8, x9, x10, x11, x12, x13, x14, x15, x16, x17, x18, x19, x20, x21, x22, x23, x24, x25, x26, x27, x28, x29, x30, x31, x32, x33, x34, x35, x36, x37, x38], defers := [] } V0 := by
  refine wp_region_Z (fun y => y.cell? ⟨tf, 2, none⟩ = some (.map (some mf)) ∧ y.cell? ⟨kb, 0, none⟩ = some (.string s) ∧ y.cell? ⟨kb, 1, none⟩ = some (.int .u8 d) ∧ y.cell? ⟨cb, 0, none⟩ = some (.int .u8 q) ∧ y.cell? ⟨cb, 1, none⟩ = some (.slice (some ⟨row, 0, none⟩) L cap)) 11 Try.mixed ?_
  obtain ⟨V, hV⟩ : ∃ V, V0.drew = V := ⟨_, rfl⟩
  rw [hV] at hS0 hC hst hQ ⊢
  clear hV
  have HC := hidI hC
  have HST := hidI hst
  have HQ := hidI hQ
  have HPan := hidI hpan
  clear hC hst hQ hpan
  refine wpZ_take [1, 2, 3, 11] (i := 0) (v := (.pointer (some ⟨tf, 0, none⟩))) r0 (by kernel_rfl) (by kernel_rfl) (by kernel_rfl) (by kernel_rfl) (fun c a w h => HPan.out c a w _ _ h) (.inl ⟨by rfl, fun y hy => ?_⟩) hS0 ?_
  · go_simp
  refine wpZ_take [2, 3, 11] (i := 1) (v := (.pointer (some ⟨tf, 0, none⟩))) r1 (by kernel_rfl) (by kernel_rfl) (by kernel_rfl) (by kernel_rfl) (fun c a w h => HPan.out c a w _ _ h) (.inl ⟨by rfl, fun y hy => ?_⟩) hS0 ?_
  · go_simp
  refine wpZ_take [3, 11] (i := 2) (v := (.pointer (some ⟨tf, 2, none⟩))) r2 (by kernel_rfl) (by kernel_rfl) (by kernel_rfl) (by kernel_rfl) (fun c a w h => HPan.out c a w _ _ h) (.inl ⟨by rfl, fun y hy => ?_⟩) hS0 ?_
  · go_simp
  refine wpZ_take [11] (i := 3) (v := (.map (some mf))) r3 (by kernel_rfl) (by kernel_rfl) (by kernel_rfl) (by kernel_rfl) (fun c a w h => HPan.out c a w _ _ h) (.inl ⟨by rfl, fun y hy => ?_⟩) hS0 ?_
  · obtain ⟨y0, y1, y2, y3, y4⟩ := hy; go_simp
  refine wpZ_take [11] (i := 4) (v := (.agg #[.string s, .int .u8 d])) r4 (by kernel_rfl) (by kernel_rfl) (by kernel_rfl) (by kernel_rfl) (fun c a w h => HPan.out c a w _ _ h) (.inl ⟨by rfl, fun y hy => ?_⟩) hS0 ?_
  · obtain ⟨y0, y1, y2, y3, y4⟩ := hy; go_simp
  refine wpZ_take [6, 10, 11] (i := 5) (v := (.pointer (some ⟨cb, 0, none⟩))) r5 (by kernel_rfl) (by kernel_rfl) (by kernel_rfl) (by kernel_rfl) (fun c a w h => HPan.out c a w _ _ h) (.inl ⟨by rfl, fun y hy => ?_⟩) hS0 ?_
  · go_simp
  refine wpZ_take [10, 11] (i := 6) (v := (.int .u8 q)) r6 (by kernel_rfl) (by kernel_rfl) (by kernel_rfl) (by kernel_rfl) (fun c a w h => HPan.out c a w _ _ h) (.inl ⟨by rfl, fun y hy => ?_⟩) hS0 ?_
  · obtain ⟨y0, y1, y2, y3, y4⟩ := hy; go_simp
  refine wpZ_take [8, 9, 10, 11] (i := 7) (v := (.pointer (some ⟨cb, 1, none⟩))) r7 (by kernel_rfl) (by kernel_rfl) (by kernel_rfl) (by kernel_rfl) (fun c a w h => HPan.out c a w _ _ h) (.inl ⟨by rfl, fun y hy => ?_⟩) hS0 ?_
  · go_simp
  refine wpZ_take [9, 10, 11] (i := 8) (v := (.slice (some ⟨row, 0, none⟩) L cap)) r8 (by kernel_rfl) (by kernel_rfl) (by kernel_rfl) (by kernel_rfl) (fun c a w h => HPan.out c a w _ _ h) (.inl ⟨by rfl, fun y hy => ?_⟩) hS0 ?_
  · obtain ⟨y0, y1, y2, y3, y4⟩ := hy; go_simp
  refine wpZ_all (rs := [9]) (by kernel_rfl) (by simp) fun j9 hj9 => ?_
  obtain rfl : j9 = 9 := by simpa using hj9
  refine wpOp_go r9 rfl fun K1 hK1 => ?_
  unfold Oper.wp
  go_simp
  refine Calls.mono HC.out ?_
  rintro e W5 ⟨v, rfl, hown, hb⟩
  have HO := hidI hown
  have HB := hidI hb
  have q11 := HST.out W5 v HB.out
  have hS5 : W5.cell? ⟨tf, 2, none⟩ = some (.map (some mf)) ∧ W5.cell? ⟨kb, 0, none⟩ = some (.string s) ∧ W5.cell? ⟨kb, 1, none⟩ = some (.int .u8 d) ∧ W5.cell? ⟨cb, 0, none⟩ = some (.int .u8 q) ∧ W5.cell? ⟨cb, 1, none⟩ = some (.slice (some ⟨row, 0, none⟩) L cap) := by
    have z : ∀ {p : Addr} {v : Value}, V.cell? p = some v → W5.cell? p = some v := fun {p v} hc => (HB.out.cell (World.block_lt_of_cell? V _ hc)).trans hc
    exact ⟨z hS0.1, z hS0.2.1, z hS0.2.2.1, z hS0.2.2.2.1, z hS0.2.2.2.2⟩
  obtain ⟨va, vn, vc, hv5⟩ : ∃ va vn vc, v = .slice va vn vc := by
    rcases hown.2 with ⟨h1, _⟩ | ⟨g, cp, cur, h1, _⟩
    · exact ⟨_, _, _, h1⟩
    · exact ⟨_, _, _, h1⟩
  subst hv5
  refine hK1 _ _ ⟨fun _ => hS5, ?_⟩
  clear hK1 K1 hown hb
  refine wpZ_take [11] (i := 10) (v := (.agg #[.int .u8 q, .slice va vn vc])) r10 (by kernel_rfl) (by kernel_rfl) (by kernel_rfl) (by kernel_rfl) (fun c a w h => HPan.out c a w _ _ h) (.inl ⟨by rfl, fun y hy => ?_⟩) hS5 ?_
  · go_simp
  refine wpZ_last (by kernel_rfl) (by kernel_rfl) ?_ _
  refine wpOp_go r11 rfl fun K1 hK1 => ?_
  unfold Oper.wp
  go_simp
  refine hK1 _ _ ?_
  exact HQ.out _ _ _ _ _ _ _ _ _ _ _ _ _ HB.out HO.out

end Go.Proofs.Ytbjoljokdjgbnab
