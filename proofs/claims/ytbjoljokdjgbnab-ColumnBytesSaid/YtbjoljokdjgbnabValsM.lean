/-
  The values' loop of the document's Begin.
-/
import Derived.Test.YtbjoljokdjgbnabReg16M
namespace Go.Proofs.Ytbjoljokdjgbnab
open Go.RowKit Go.Deep Go.MapKept
theorem info51 : (Try.prog.info? 51).map (fun i => (i.zero, i.size, i.bytes)) = some (some (.int .i64 0), 1, 8) := by kernel_rfl
theorem own_below {w w' : World} {base e size n : Nat} {v : Value} {xs : List Value} (h : w.ownsRow base e size v n xs) (hb : Below w.heap.size w w') : w'.ownsRow base e size v n xs := h.kept (row := none) ⟨hb.os, hb.tape, hb.output, hb.size, fun k hk _ => hb.block k hk⟩ (by cases hv : v.ownBlock <;> simp)
theorem own_sl {w : World} {base e n : Nat} {v : Value} {xs : List Value} (h : w.ownsRow base e 1 v n xs) : ∃ a c, v = .slice a n c := by
  rcases h.2 with ⟨rfl, h0⟩ | ⟨g, cap, cur, rfl, _⟩
  · exact ⟨none, 0, by rw [h0]⟩
  · exact ⟨_, cap, rfl⟩
theorem sees_one (w : World) (x : Int) : SeesC (w.alloc (.cells #[.int .i64 x] 51)) (.slice (some ⟨w.heap.size, 0, none⟩) 1 1) 1 1 [.int .i64 x] := by
  refine ⟨rfl, _, _, rfl, .inr ⟨w.heap.size, 0, rfl, fun j c hc => ?_⟩⟩
  rw [Lib.cell_of_heap (MapKept.heap_alloc w _).1]
  simpa using hc
def codeC : Code := (((Code.region 28 #[{ dst := some 111, op := Op.move (Operand.tmp 22), type := 3, pos := "ref.go:288", after := #[], guard := none }, { dst := some 112, op := Op.binOp BinOp.lss 3 (Operand.tmp 111) (Operand.const (Value.int IntKind.i64 8)) 3, type := 4, pos := "ref.go:288", after := #[{ on := 0, ground := Ground.data }], guard := none }] false).seq (Code.cond (Operand.tmp 112) Code.skip (Code.exit 4))).seq ((Code.block 5 (Code.region 30 #[{ dst := some 115, op := Op.move (Operand.tmp 22), type := 3, pos := "ref.go:289", after := #[], guard := none }, { dst := some 116, op := Op.move (Operand.tmp 18), type := 66, pos := "ref.go:289", after := #[], guard := none }, { dst := some 117, op := Op.move (Operand.tmp 20), type := 3, pos := "ref.go:289", after := #[], guard := none }, { dst := some 118, op := Op.move (Operand.tmp 22), type := 3, pos := "ref.go:289", after := #[], guard := none }, { dst := some 119, op := Op.binOp BinOp.add 3 (Operand.tmp 117) (Operand.tmp 118) 3, type := 3, pos := "ref.go:289", after := #[{ on := 2, ground := Ground.data }, { on := 3, ground := Ground.data }], guard := none }, { dst := some 120, op := Op.indexAddr 66 (Operand.tmp 116) (Operand.tmp 119), type := 0, pos := "ref.go:289", after := #[{ on := 1, ground := Ground.data }, { on := 4, ground := Ground.data }], guard := none }, { dst := some 121, op := Op.load 5 (Operand.tmp 120), type := 5, pos := "ref.go:289", after := #[{ on := 5, ground := Ground.data }], guard := none }, { dst := some 122, op := Op.indexAddr 114 (Operand.tmp 21) (Operand.tmp 115), type := 0, pos := "ref.go:289", after := #[{ on := 0, ground := Ground.data }, { on := 0, ground := Ground.phase }, { on := 1, ground := Ground.phase }, { on := 2, ground := Ground.phase }, { on := 3, ground := Ground.phase }, { on := 4, ground := Ground.phase }, { on := 5, ground := Ground.phase }, { on := 6, ground := Ground.phase }], guard := none }, { dst := none, op := Op.store 5 (Operand.tmp 122) (Operand.tmp 121), type := 0, pos := "ref.go:289", after := #[{ on := 7, ground := Ground.data }, { on := 6, ground := Ground.data }, { on := 0, ground := Ground.phase }, { on := 1, ground := Ground.phase }, { on := 2, ground := Ground.phase }, { on := 3, ground := Ground.phase }, { on := 4, ground := Ground.phase }, { on := 5, ground := Ground.phase }, { on := 6, ground := Ground.phase }], guard := none }] false)).seq (Code.region 29 #[{ dst := some 113, op := Op.move (Operand.tmp 22), type := 3, pos := "ref.go:288", after := #[], guard := none }, { dst := some 114, op := Op.binOp BinOp.add 3 (Operand.tmp 113) (Operand.const (Value.int IntKind.i64 1)) 3, type := 3, pos := "ref.go:288", after := #[{ on := 0, ground := Ground.data }], guard := none }, { dst := some 22, op := Op.assign (Operand.tmp 114), type := 3, pos := "ref.go:288", after := #[{ on := 1, ground := Ground.data }, { on := 0, ground := Ground.phase }, { on := 1, ground := Ground.phase }], guard := none }] false)))
set_option maxRecDepth 100000 in
set_option maxHeartbeats 4000000 in
theorem inner_any {s0 s1 s2 s3 s4 s5 s6 s7 s8 s9 s10 s11 s12 s13 s14 s15 s16 s17 s19 s23 s24 s25 s26 s27 s28 s29 s30 s31 s32 s33 s34 s35 s36 s37 s38 s39 s40 s41 s42 s43 s44 s45 s46 s47 s48 s49 s50 s51 s52 s53 s54 s55 s56 s57 s58 s59 s60 s61 s62 s63 s64 s65 s66 s67 s68 s69 s70 s71 s72 s73 s74 s75 s76 s77 s78 s79 s80 s81 s82 s83 s84 s85 s86 s87 s88 s89 s90 s91 s92 s93 s94 s95 s96 s97 s98 s99 s100 s101 s102 s103 s104 s105 s106 s107 s108 s109 s110 s111 s112 s113 s114 s115 s116 s117 s118 s119 s120 s121 s122 s123 s124 s125 s126 s127 s128 s129 s130 s131 s132 s133 s134 s135 : Value} {Q0 : Exit → Act → World → Prop} (vb voff n vc J wb : Nat) (xs : List Int) (wx : World) (hvb : vb < wb) (hJ : J + 8 ≤ n) (hn : n ≤ 100000)
    (hz : ∀ j, j < 8 → ∃ x, wx.cell? ⟨wb, j, none⟩ = some (.int .u8 x) ∧ wx.frozen? ⟨wb, j, none⟩ = false)
    (hv : ∀ m, m < 8 → wx.cell? ⟨vb, voff + (J + m), none⟩ = some (.int .u8 (xs.getD m 0)))
    (hexit : ∀ (u111 u112 u115 u116 u117 u118 u119 u120 u121 u122 u113 u114 : Value) (wz : World), (∀ j, j < 8 → wz.cell? ⟨wb, j, none⟩ = some (.int .u8 (xs.getD j 0))) → Below wb wx wz → wx.heap.size ≤ wz.heap.size → Q0 (.exit 4) ⟨(List.toArray (s0 :: s1 :: s2 :: s3 :: s4 :: s5 :: s6 :: s7 :: s8 :: s9 :: s10 :: s11 :: s12 :: s13 :: s14 :: s15 :: s16 :: s17 :: .slice (some ⟨vb, voff, none⟩) n vc :: s19 :: .int .i64 (J : Int) :: .pointer (some ⟨wb, 0, none⟩) :: .int .i64 8 :: s23 :: s24 :: s25 :: s26 :: s27 :: s28 :: s29 :: s30 :: s31 :: s32 :: s33 :: s34 :: s35 :: s36 :: s37 :: s38 :: s39 :: s40 :: s41 :: s42 :: s43 :: s44 :: s45 :: s46 :: s47 :: s48 :: s49 :: s50 :: s51 :: s52 :: s53 :: s54 :: s55 :: s56 :: s57 :: s58 :: s59 :: s60 :: s61 :: s62 :: s63 :: s64 :: s65 :: s66 :: s67 :: s68 :: s69 :: s70 :: s71 :: s72 :: s73 :: s74 :: s75 :: s76 :: s77 :: s78 :: s79 :: s80 :: s81 :: s82 :: s83 :: s84 :: s85 :: s86 :: s87 :: s88 :: s89 :: s90 :: s91 :: s92 :: s93 :: s94 :: s95 :: s96 :: s97 :: s98 :: s99 :: s100 :: s101 :: s102 :: s103 :: s104 :: s105 :: s106 :: s107 :: s108 :: s109 :: s110 :: u111 :: u112 :: u113 :: u114 :: u115 :: u116 :: u117 :: u118 :: u119 :: u120 :: u121 :: u122 :: s123 :: s124 :: s125 :: s126 :: s127 :: s128 :: s129 :: s130 :: s131 :: s132 :: s133 :: s134 :: s135 :: [])), []⟩ wz) :
    Code.wp Try.prog (Code.loop codeC) Q0 ⟨(List.toArray (s0 :: s1 :: s2 :: s3 :: s4 :: s5 :: s6 :: s7 :: s8 :: s9 :: s10 :: s11 :: s12 :: s13 :: s14 :: s15 :: s16 :: s17 :: .slice (some ⟨vb, voff, none⟩) n vc :: s19 :: .int .i64 (J : Int) :: .pointer (some ⟨wb, 0, none⟩) :: .int .i64 0 :: s23 :: s24 :: s25 :: s26 :: s27 :: s28 :: s29 :: s30 :: s31 :: s32 :: s33 :: s34 :: s35 :: s36 :: s37 :: s38 :: s39 :: s40 :: s41 :: s42 :: s43 :: s44 :: s45 :: s46 :: s47 :: s48 :: s49 :: s50 :: s51 :: s52 :: s53 :: s54 :: s55 :: s56 :: s57 :: s58 :: s59 :: s60 :: s61 :: s62 :: s63 :: s64 :: s65 :: s66 :: s67 :: s68 :: s69 :: s70 :: s71 :: s72 :: s73 :: s74 :: s75 :: s76 :: s77 :: s78 :: s79 :: s80 :: s81 :: s82 :: s83 :: s84 :: s85 :: s86 :: s87 :: s88 :: s89 :: s90 :: s91 :: s92 :: s93 :: s94 :: s95 :: s96 :: s97 :: s98 :: s99 :: s100 :: s101 :: s102 :: s103 :: s104 :: s105 :: s106 :: s107 :: s108 :: s109 :: s110 :: s111 :: s112 :: s113 :: s114 :: s115 :: s116 :: s117 :: s118 :: s119 :: s120 :: s121 :: s122 :: s123 :: s124 :: s125 :: s126 :: s127 :: s128 :: s129 :: s130 :: s131 :: s132 :: s133 :: s134 :: s135 :: [])), []⟩ wx := by
  unfold codeC
  have HV := hidI hv
  have HZ := hidI hz
  have HX := hidI hexit
  clear hv hz hexit
  go_loopg [22] 8 (fun g2 s22 wz => ∃ (mm : Nat), mm + g2 = 8 ∧ s22 = .int .i64 (mm : Int) ∧ wx.heap.size ≤ wz.heap.size ∧ Hid (Below wb wx wz) ∧ Hid (∀ j, j < 8 → ∃ x, wz.cell? ⟨wb, j, none⟩ = some (.int .u8 x) ∧ (j < mm → x = xs.getD j 0) ∧ wz.frozen? ⟨wb, j, none⟩ = false))
  case atStart =>
    refine ⟨0, by omega, rfl, Nat.le_refl _, hidI (Below.refl _ _), hidI fun j hj => ?_⟩
    obtain ⟨x, h1, h2⟩ := HZ.out j hj
    exact ⟨x, h1, fun h => absurd h (by omega), h2⟩
  case round =>
    obtain ⟨mm, hmg, rfl, hqs, HBz, HCz⟩ := hrel
    cases gk with
    | zero =>
      have hm8 : mm = 8 := by omega
      subst hm8
      go_wp2
      refine HX.out _ _ _ _ _ _ _ _ _ _ _ _ _ (fun j hj => ?_) HBz.out hqs
      obtain ⟨y, hy, hyx, _⟩ := HCz.out j hj
      rw [hy, hyx hj]
    | succ g2 =>
      have hmm : mm < 8 := by omega
      have c1 : wr.cell? ⟨vb, voff + (J + mm), none⟩ = some (.int .u8 (xs.getD mm 0)) := (HBz.out.cell (p := ⟨vb, voff + (J + mm), none⟩) hvb).trans (HV.out mm hmm)
      obtain ⟨xv, hxv⟩ : ∃ xv, xs.getD mm 0 = xv := ⟨_, rfl⟩
      rw [hxv] at c1
      have HXv := hidI hxv
      obtain ⟨x0, hx0, _, hfz⟩ := HCz.out mm hmm
      have y2 : ((J : Int) + (mm : Int)).toNat = J + mm := by omega
      have y3 : (0 : Int) ≤ (J : Int) + (mm : Int) := by omega
      have y4 : (J : Int) + (mm : Int) < (n : Int) := by omega
      have y5 : (mm : Int) < 8 := by omega
      have y6 : ((mm : Int)).toNat = mm := by omega
      have y7 : (0 : Int) ≤ (mm : Int) := by omega
      clear hxv
      have y8 : (J : Int) ≤ 100000 := by omega
      have y9 : (0 : Int) ≤ (J : Int) := by omega
      go_wp2
      go_roundg g2
      case measure => omega
      case rel =>
        refine ⟨mm + 1, by omega, by go_num, by simp; omega, hidI (Below.setCell HBz.out (Nat.le_refl _) _), hidI fun j hj => ?_⟩
        obtain ⟨y, hy, hyx, hfy⟩ := HCz.out j hj
        by_cases ej : j = mm
        · subst ej
          exact ⟨xv, World.cell?_setCell_same _ _ _ hy, fun _ => HXv.out.symm, by rw [World.frozen?_setCell]; exact hfy⟩
        · exact ⟨y, (World.cell?_setCell_other _ _ _ _ (by intro hh; simp only [Addr.mk.injEq] at hh; omega)).trans hy, fun h => hyx (by omega), by rw [World.frozen?_setCell]; exact hfy⟩
def codeB : Code := (((Code.region 24 #[{ dst := some 104, op := Op.move (Operand.tmp 20), type := 3, pos := "ref.go:286", after := #[], guard := none }, { dst := some 105, op := Op.binOp BinOp.add 3 (Operand.tmp 104) (Operand.const (Value.int IntKind.i64 7)) 3, type := 3, pos := "ref.go:286", after := #[{ on := 0, ground := Ground.data }], guard := none }, { dst := some 106, op := Op.move (Operand.tmp 18), type := 66, pos := "ref.go:286", after := #[], guard := none }, { dst := some 107, op := Op.call { callee := Callee.builtin Builtin.len, args := #[Operand.tmp 106], argTypes := #[66] }, type := 3, pos := "ref.go:286", after := #[{ on := 2, ground := Ground.data }], guard := none }, { dst := some 108, op := Op.binOp BinOp.lss 3 (Operand.tmp 105) (Operand.tmp 107) 3, type := 4, pos := "ref.go:286", after := #[{ on := 1, ground := Ground.data }, { on := 3, ground := Ground.data }], guard := none }] false).seq (Code.cond (Operand.tmp 108) Code.skip (Code.exit 2))).seq ((Code.block 3 ((Code.region 26 #[{ dst := some 21, op := Op.alloc 114, type := 0, pos := "ref.go:287", after := #[], guard := none }] false).seq (((Code.region 27 #[{ dst := some 22, op := Op.assign (Operand.const (Value.int IntKind.i64 0)), type := 3, pos := "ref.go:288", after := #[], guard := none }] false).seq (Code.block 4 (((Code.region 28 #[{ dst := some 111, op := Op.move (Operand.tmp 22), type := 3, pos := "ref.go:288", after := #[], guard := none }, { dst := some 112, op := Op.binOp BinOp.lss 3 (Operand.tmp 111) (Operand.const (Value.int IntKind.i64 8)) 3, type := 4, pos := "ref.go:288", after := #[{ on := 0, ground := Ground.data }], guard := none }] false).seq (Code.cond (Operand.tmp 112) Code.skip (Code.exit 4))).seq ((Code.block 5 (Code.region 30 #[{ dst := some 115, op := Op.move (Operand.tmp 22), type := 3, pos := "ref.go:289", after := #[], guard := none }, { dst := some 116, op := Op.move (Operand.tmp 18), type := 66, pos := "ref.go:289", after := #[], guard := none }, { dst := some 117, op := Op.move (Operand.tmp 20), type := 3, pos := "ref.go:289", after := #[], guard := none }, { dst := some 118, op := Op.move (Operand.tmp 22), type := 3, pos := "ref.go:289", after := #[], guard := none }, { dst := some 119, op := Op.binOp BinOp.add 3 (Operand.tmp 117) (Operand.tmp 118) 3, type := 3, pos := "ref.go:289", after := #[{ on := 2, ground := Ground.data }, { on := 3, ground := Ground.data }], guard := none }, { dst := some 120, op := Op.indexAddr 66 (Operand.tmp 116) (Operand.tmp 119), type := 0, pos := "ref.go:289", after := #[{ on := 1, ground := Ground.data }, { on := 4, ground := Ground.data }], guard := none }, { dst := some 121, op := Op.load 5 (Operand.tmp 120), type := 5, pos := "ref.go:289", after := #[{ on := 5, ground := Ground.data }], guard := none }, { dst := some 122, op := Op.indexAddr 114 (Operand.tmp 21) (Operand.tmp 115), type := 0, pos := "ref.go:289", after := #[{ on := 0, ground := Ground.data }, { on := 0, ground := Ground.phase }, { on := 1, ground := Ground.phase }, { on := 2, ground := Ground.phase }, { on := 3, ground := Ground.phase }, { on := 4, ground := Ground.phase }, { on := 5, ground := Ground.phase }, { on := 6, ground := Ground.phase }], guard := none }, { dst := none, op := Op.store 5 (Operand.tmp 122) (Operand.tmp 121), type := 0, pos := "ref.go:289", after := #[{ on := 7, ground := Ground.data }, { on := 6, ground := Ground.data }, { on := 0, ground := Ground.phase }, { on := 1, ground := Ground.phase }, { on := 2, ground := Ground.phase }, { on := 3, ground := Ground.phase }, { on := 4, ground := Ground.phase }, { on := 5, ground := Ground.phase }, { on := 6, ground := Ground.phase }], guard := none }] false)).seq (Code.region 29 #[{ dst := some 113, op := Op.move (Operand.tmp 22), type := 3, pos := "ref.go:288", after := #[], guard := none }, { dst := some 114, op := Op.binOp BinOp.add 3 (Operand.tmp 113) (Operand.const (Value.int IntKind.i64 1)) 3, type := 3, pos := "ref.go:288", after := #[{ on := 0, ground := Ground.data }], guard := none }, { dst := some 22, op := Op.assign (Operand.tmp 114), type := 3, pos := "ref.go:288", after := #[{ on := 1, ground := Ground.data }, { on := 0, ground := Ground.phase }, { on := 1, ground := Ground.phase }], guard := none }] false))).loop)).seq (Code.region 31 #[{ dst := some 123, op := Op.move (Operand.tmp 19), type := 60, pos := "ref.go:291", after := #[], guard := none }, { dst := some 124, op := Op.load 114 (Operand.tmp 21), type := 114, pos := "ref.go:291", after := #[], guard := none }, { dst := some 125, op := Op.call { callee := Callee.value (Operand.func 87), args := #[Operand.tmp 124], argTypes := #[114] }, type := 51, pos := "ref.go:291", after := #[{ on := 1, ground := Ground.data }], guard := none }, { dst := some 126, op := Op.buildSlice 60 1 #[(0, Operand.tmp 125)], type := 60, pos := "ref.go:291", after := #[{ on := 2, ground := Ground.data }], guard := none }, { dst := some 127, op := Op.call { callee := Callee.builtin Builtin.append, args := #[Operand.tmp 123, Operand.tmp 126], argTypes := #[60, 60] }, type := 60, pos := "ref.go:291", after := #[{ on := 0, ground := Ground.data }, { on := 3, ground := Ground.data }, { on := 2, ground := Ground.chain }], guard := none }, { dst := some 19, op := Op.assign (Operand.tmp 127), type := 60, pos := "ref.go:291", after := #[{ on := 4, ground := Ground.data }, { on := 4, ground := Ground.chain }, { on := 0, ground := Ground.phase }, { on := 1, ground := Ground.phase }, { on := 2, ground := Ground.phase }, { on := 3, ground := Ground.phase }, { on := 4, ground := Ground.phase }], guard := none }] false)))).seq (Code.region 25 #[{ dst := some 109, op := Op.move (Operand.tmp 20), type := 3, pos := "ref.go:286", after := #[], guard := none }, { dst := some 110, op := Op.binOp BinOp.add 3 (Operand.tmp 109) (Operand.const (Value.int IntKind.i64 8)) 3, type := 3, pos := "ref.go:286", after := #[{ on := 0, ground := Ground.data }], guard := none }, { dst := some 20, op := Op.assign (Operand.tmp 110), type := 3, pos := "ref.go:286", after := #[{ on := 1, ground := Ground.data }, { on := 0, ground := Ground.phase }, { on := 1, ground := Ground.phase }], guard := none }] false)))
set_option maxRecDepth 100000 in
set_option maxHeartbeats 4000000 in
theorem vals_any {s0 s1 s2 s3 s4 s5 s6 s7 s8 s9 s10 s11 s12 s13 s14 s15 s16 s17 s21 s22 s23 s24 s25 s26 s27 s28 s29 s30 s31 s32 s33 s34 s35 s36 s37 s38 s39 s40 s41 s42 s43 s44 s45 s46 s47 s48 s49 s50 s51 s52 s53 s54 s55 s56 s57 s58 s59 s60 s61 s62 s63 s64 s65 s66 s67 s68 s69 s70 s71 s72 s73 s74 s75 s76 s77 s78 s79 s80 s81 s82 s83 s84 s85 s86 s87 s88 s89 s90 s91 s92 s93 s94 s95 s96 s97 s98 s99 s100 s101 s102 s103 s104 s105 s106 s107 s108 s109 s110 s111 s112 s113 s114 s115 s116 s117 s118 s119 s120 s121 s122 s123 s124 s125 s126 s127 s128 s129 s130 s131 s132 s133 s134 s135 : Value} {Q0 : Exit → Act → World → Prop} (w0 : World) (xa : Option Addr) (xc L : Nat) (vs : List Int) (w6 : World) (hB6 : Below w0.heap.size w0 w6) (hvs : SB w0 xa xc vs) (hVl : vs.length = L * 8) (hL30 : L ≤ 30) (hby : ∀ x ∈ vs, IsB x)
    (hexit : ∀ (u21 u22 u104 u105 u106 u107 u108 u109 u110 u111 u112 u113 u114 u115 u116 u117 u118 u119 u120 u121 u122 u123 u124 u125 u126 u127 : Value) (la : Option Addr) (lc : Nat) (wz : World), wz.ownsRow w6.heap.size 51 1 (.slice la L lc) L ((wordsL L vs).map (Value.int .i64)) → Below w6.heap.size w6 wz → Q0 (.exit 2) ⟨(List.toArray (s0 :: s1 :: s2 :: s3 :: s4 :: s5 :: s6 :: s7 :: s8 :: s9 :: s10 :: s11 :: s12 :: s13 :: s14 :: s15 :: s16 :: s17 :: .slice xa vs.length xc :: .slice la L lc :: .int .i64 ((L * 8 : Nat) : Int) :: u21 :: u22 :: s23 :: s24 :: s25 :: s26 :: s27 :: s28 :: s29 :: s30 :: s31 :: s32 :: s33 :: s34 :: s35 :: s36 :: s37 :: s38 :: s39 :: s40 :: s41 :: s42 :: s43 :: s44 :: s45 :: s46 :: s47 :: s48 :: s49 :: s50 :: s51 :: s52 :: s53 :: s54 :: s55 :: s56 :: s57 :: s58 :: s59 :: s60 :: s61 :: s62 :: s63 :: s64 :: s65 :: s66 :: s67 :: s68 :: s69 :: s70 :: s71 :: s72 :: s73 :: s74 :: s75 :: s76 :: s77 :: s78 :: s79 :: s80 :: s81 :: s82 :: s83 :: s84 :: s85 :: s86 :: s87 :: s88 :: s89 :: s90 :: s91 :: s92 :: s93 :: s94 :: s95 :: s96 :: s97 :: s98 :: s99 :: s100 :: s101 :: s102 :: s103 :: u104 :: u105 :: u106 :: u107 :: u108 :: u109 :: u110 :: u111 :: u112 :: u113 :: u114 :: u115 :: u116 :: u117 :: u118 :: u119 :: u120 :: u121 :: u122 :: u123 :: u124 :: u125 :: u126 :: u127 :: s128 :: s129 :: s130 :: s131 :: s132 :: s133 :: s134 :: s135 :: [])), []⟩ wz) :
    Code.wp Try.prog (Code.loop codeB) Q0 ⟨(List.toArray (s0 :: s1 :: s2 :: s3 :: s4 :: s5 :: s6 :: s7 :: s8 :: s9 :: s10 :: s11 :: s12 :: s13 :: s14 :: s15 :: s16 :: s17 :: .slice xa vs.length xc :: .slice none 0 0 :: .int .i64 0 :: s21 :: s22 :: s23 :: s24 :: s25 :: s26 :: s27 :: s28 :: s29 :: s30 :: s31 :: s32 :: s33 :: s34 :: s35 :: s36 :: s37 :: s38 :: s39 :: s40 :: s41 :: s42 :: s43 :: s44 :: s45 :: s46 :: s47 :: s48 :: s49 :: s50 :: s51 :: s52 :: s53 :: s54 :: s55 :: s56 :: s57 :: s58 :: s59 :: s60 :: s61 :: s62 :: s63 :: s64 :: s65 :: s66 :: s67 :: s68 :: s69 :: s70 :: s71 :: s72 :: s73 :: s74 :: s75 :: s76 :: s77 :: s78 :: s79 :: s80 :: s81 :: s82 :: s83 :: s84 :: s85 :: s86 :: s87 :: s88 :: s89 :: s90 :: s91 :: s92 :: s93 :: s94 :: s95 :: s96 :: s97 :: s98 :: s99 :: s100 :: s101 :: s102 :: s103 :: s104 :: s105 :: s106 :: s107 :: s108 :: s109 :: s110 :: s111 :: s112 :: s113 :: s114 :: s115 :: s116 :: s117 :: s118 :: s119 :: s120 :: s121 :: s122 :: s123 :: s124 :: s125 :: s126 :: s127 :: s128 :: s129 :: s130 :: s131 :: s132 :: s133 :: s134 :: s135 :: [])), []⟩ w6 := by
  unfold codeB
  have HB6 := hidI hB6
  have HVs := hidI hvs
  have HVl := hidI hVl
  have HVby := hidI hby
  have HX := hidI hexit
  clear hB6 hvs hVl hby hexit
  go_loopg [19, 20] L (fun g' s19 s20 wy => ∃ (k J : Nat) (la : Option Addr) (lc : Nat), k + g' = L ∧ Hid (J = k * 8) ∧ s19 = .slice la k lc ∧ s20 = .int .i64 (J : Int) ∧ Hid (wy.ownsRow w6.heap.size 51 1 (.slice la k lc) k (((wordsL L vs).take k).map (Value.int .i64))) ∧ Hid (Below w6.heap.size w6 wy))
  case atStart => exact ⟨0, 0, none, 0, by omega, hidI rfl, rfl, rfl, hidI (World.ownsRow_nil _ _ _ _), hidI (Below.refl _ _)⟩
  case round =>
    obtain ⟨k, J, la, lc, hkg, HJ, rfl, rfl, HOw, HBy⟩ := hrel
    have hJb : J ≤ 240 := by have := HJ.out; omega
    have jb0 : (0 : Int) ≤ (J : Int) := by omega
    have jb1 : (J : Int) ≤ 240 := by omega
    cases gk with
    | zero =>
      have HkL : Hid (k = L) := hidI (by omega)
      have j7 : ¬ ((J : Int) + 7 < (vs.length : Int)) := by have := HVl.out; have := HJ.out; omega
      go_wp2
      have hkL := HkL.out
      have hJ := HJ.out
      subst hkL
      subst hJ
      have ho := HOw.out
      rw [List.take_of_length_le (by rw [wordsL_len]; exact Nat.le_refl _)] at ho
      exact HX.out _ _ _ _ _ _ _ _ _ _ _ _ _ _ _ _ _ _ _ _ _ _ _ _ _ _ _ _ _ ho HBy.out
    | succ g' =>
      have hkL : k < L := by omega
      have j7 : (J : Int) + 7 < (vs.length : Int) := by have := HVl.out; have := HJ.out; omega
      have hj8 : J + 8 ≤ vs.length := by have := HVl.out; have := HJ.out; omega
      have hvn : vs.length ≤ 100000 := by have := HVl.out; omega
      obtain ⟨b0, b1, b2, b3, b4, b5, b6, b7, r8, hl8, q0, q1, q2, q3, q4, q5, q6, q7, hjn⟩ := eight (l := vs.drop J) (by rw [List.length_drop]; omega) (fun x hx => HVby.out x (List.mem_of_mem_drop hx))
      have HBw := hidI (HB6.out.trans (HBy.out.mono HB6.out.size))
      obtain ⟨vb, voff, rfl, hvb, hcs⟩ : ∃ vb voff, xa = some ⟨vb, voff, none⟩ ∧ vb < wr.heap.size ∧ ∀ (j : Nat) (x : Int), (vs.drop J)[j]? = some x → wr.cell? ⟨vb, voff + (J + j), none⟩ = some (.int .u8 x) := by
        rcases (HVs.out.below HBw.out (Nat.le_refl _)).2 with h0 | ⟨vb, voff, rfl, hc⟩
        · omega
        · have hc0 := hc 0 _ (List.getElem?_eq_getElem (by omega))
          exact ⟨vb, voff, rfl, World.block_lt_of_cell? wr _ hc0, fun j x hx => hc _ _ (by rw [List.getElem?_drop] at hx; exact hx)⟩
      have CJ := hidI (fun W' => joinR_any b0 b1 b2 b3 b4 b5 b6 b7 q0 q1 q2 q3 q4 q5 q6 q7 W')
      have HJv : Hid (jn b0 b1 b2 b3 b4 b5 b6 b7 = (wordsL L vs).getD k 0) := hidI (by rw [wordsL_get L vs k hkL, ← hjn, HJ.out])
      obtain ⟨Jv, hJv⟩ : ∃ Jv, jn b0 b1 b2 b3 b4 b5 b6 b7 = Jv := ⟨_, rfl⟩
      rw [hJv] at CJ HJv
      have HTk : Hid (((wordsL L vs).take (k + 1)).map (Value.int .i64) = ((wordsL L vs).take k).map (Value.int .i64) ++ [.int .i64 Jv]) := hidI (by
        have hk2 : k < (wordsL L vs).length := by rw [wordsL_len]; exact hkL
        have hj2 : Jv = (wordsL L vs)[k] := by rw [HJv.out]; simp [hk2]
        rw [hj2, List.take_add_one, List.getElem?_eq_getElem hk2, List.map_append]
        rfl)
      have HEl : Hid (∀ mm, mm < 8 → wr.cell? ⟨vb, voff + (J + mm), none⟩ = some (.int .u8 ([b0, b1, b2, b3, b4, b5, b6, b7].getD mm 0))) := hidI fun mm hmm => hcs mm _ (by
        rw [hl8]
        match mm, hmm with
        | 0, _ => rfl
        | 1, _ => rfl
        | 2, _ => rfl
        | 3, _ => rfl
        | 4, _ => rfl
        | 5, _ => rfl
        | 6, _ => rfl
        | 7, _ => rfl)
      clear hJv hjn hl8 hcs q0 q1 q2 q3 q4 q5 q6 q7
      have HCS : Hid (∀ mm, mm < 8 → (wr.alloc (.cells #[.int .u8 0, .int .u8 0, .int .u8 0, .int .u8 0, .int .u8 0, .int .u8 0, .int .u8 0, .int .u8 0] 114)).cell? ⟨vb, voff + (J + mm), none⟩ = some (.int .u8 ([b0, b1, b2, b3, b4, b5, b6, b7].getD mm 0))) := hidI fun mm hmm => by
        rw [World.cell?_of_block (Below.heap_alloc _ _ _ hvb)]
        exact HEl.out mm hmm
      have HZ0 : Hid (∀ j, j < 8 → ∃ x, (wr.alloc (.cells #[.int .u8 0, .int .u8 0, .int .u8 0, .int .u8 0, .int .u8 0, .int .u8 0, .int .u8 0, .int .u8 0] 114)).cell? ⟨wr.heap.size, j, none⟩ = some (.int .u8 x) ∧ (wr.alloc (.cells #[.int .u8 0, .int .u8 0, .int .u8 0, .int .u8 0, .int .u8 0, .int .u8 0, .int .u8 0, .int .u8 0] 114)).frozen? ⟨wr.heap.size, j, none⟩ = false) := hidI fun j hj => by
        refine ⟨0, ?_, ?_⟩
        · rw [Lib.cell_of_heap (World.alloc_heap_new wr _)]
          match j, hj with
          | 0, _ => rfl
          | 1, _ => rfl
          | 2, _ => rfl
          | 3, _ => rfl
          | 4, _ => rfl
          | 5, _ => rfl
          | 6, _ => rfl
          | 7, _ => rfl
        · unfold World.frozen?
          simp only [World.alloc_heap_new]
          simp
      clear HEl
      go_wp2
      refine inner_any vb voff vs.length xc J wr.heap.size [b0, b1, b2, b3, b4, b5, b6, b7] _ hvb hj8 hvn HZ0.out HCS.out ?_
      intro u111 u112 u115 u116 u117 u118 u119 u120 u121 u122 u113 u114 wz hcz hbz hsz
      have hsz' : wr.heap.size < wz.heap.size := by simp at hsz; omega
      have HBz : Hid (Below wr.heap.size wr wz) := hidI (Below.trans (by (repeat (first | exact Below.refl _ _ | assumption | refine Below.drew ?_ | refine Below.alloc ?_ (by first | omega | (simp; done) | (simp; omega)) _ | refine Below.setCell ?_ (by first | omega | (simp; done) | (simp; omega)) _))) hbz)
      have e0 := hcz 0 (by omega)
      have e1 := hcz 1 (by omega)
      have e2 := hcz 2 (by omega)
      have e3 := hcz 3 (by omega)
      have e4 := hcz 4 (by omega)
      have e5 := hcz 5 (by omega)
      have e6 := hcz 6 (by omega)
      have e7 := hcz 7 (by omega)
      simp only [List.getD_cons_zero, List.getD_cons_succ] at e0 e1 e2 e3 e4 e5 e6 e7
      clear hcz hbz HCS HZ0 hsz
      go_wp2_with (go_at_call 87; refine Calls.mono (CJ.out _) ?_; rintro e w7' ⟨rfl, hb7⟩; refine Hid.out ?_)
      refine hidI ?_
      have HB8 : Hid (Below wr.heap.size wr w7') := hidI (HBz.out.trans (hb7.mono HBz.out.size))
      have HOw8 := hidI (own_below HOw.out HB8.out)
      have HOw9 := hidI (World.ownsRow.alloc HOw8.out (.cells #[.int .i64 Jv] 51))
      have HV9 : Hid (SeesC (w7'.alloc (.cells #[.int .i64 Jv] 51)) (.slice (some ⟨w7'.heap.size, 0, none⟩) 1 1) 1 1 [.int .i64 Jv]) := hidI (sees_one w7' Jv)
      have HBy8 := hidI (HBy.out.trans (HB8.out.mono HBy.out.size))
      clear hb7 e0 e1 e2 e3 e4 e5 e6 e7 CJ
      go_wp2_with (at_builtin; go_must (refine wpList_append_any Try.underlying60 info51 rfl (by decide) (by decide) rfl _ _ rfl w6.heap.size _ k _ rfl HOw9.out _ 1 [.int .i64 Jv] rfl HV9.out (by simp [Value.oneCell']) (by omega) (by have := HBy8.out.size; simp; omega) ?_); intro v9 w9 hown9 hgrow9 _; refine Hid.out ?_)
      refine hidI ?_
      have HBy9 : Hid (Below w6.heap.size w6 w9) := hidI (Below.grown (HBy8.out.alloc HBy8.out.size _) hgrow9 (by have := HBy8.out.size; simp; omega) (fun k hk => (HOw9.out.lt k hk).1))
      rw [← HTk.out] at hown9
      obtain ⟨la', lc', hv9⟩ := own_sl hown9
      subst hv9
      have HO9 := hidI hown9
      clear hown9 hgrow9 HOw8 HOw9 HV9
      go_wp2
      go_roundg g'
      case measure => omega
      case rel => exact ⟨k + 1, J + 8, la', lc', by omega, hidI (by have := HJ.out; omega), rfl, by go_num, HO9, HBy9⟩
end Go.Proofs.Ytbjoljokdjgbnab
