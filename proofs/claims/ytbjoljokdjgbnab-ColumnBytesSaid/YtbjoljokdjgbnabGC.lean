/-
  Texts Sort Keys0 Words Tab Keys1 Keys2 Fresh LiveC, one behind the other.
-/
import Derived.Shelf.SlSortCmp.WholeK
import Derived.Ground.SlsfProg
import Derived.Test.YtbjoljokdjgbnabProg
import Derived.Test.YtbjoljokdjgbnabGB
import Derived.Sort.Walk0
import Derived.Test.YtbjoljokdjgbnabGA
import Derived.Laws.MakeOwn
import Derived.Maps.RangeRun
import Derived.Deep.AppendLies
/-
  slices.SortFunc of keys, as the library lays it at this program.
-/
namespace Go.Proofs
open Go.Shelf
def Try.sortKeys_ren : Go.Shelf.Ren := ⟨fun | 6 => 55 | 15 => 81 | 14 => 80 | 28 => 101 | 29 => 102 | 20 => 93 | 21 => 94 | 22 => 95 | 23 => 96 | 24 => 97 | 25 => 98 | 26 => 99 | 27 => 100 | 46 => 104 | 47 => 105 | 48 => 106 | 49 => 107 | 50 => 108 | 57 => 109 | n => n, fun | 22 => 58 | 24 => 40 | 25 => 112 | 3 => 3 | 39 => 131 | 0 => 0 | 53 => 152 | 55 => 133 | 4 => 4 | 46 => 145 | 45 => 144 | 50 => 149 | 5 => 5 | 9 => 9 | 66 => 154 | 70 => 158 | 76 => 160 | 77 => 161 | n => n, fun | n => n⟩
theorem Try.sortKeys : Go.Proofs.SlLaysF0.n6 Try.prog Try.sortKeys_ren := {
  mixed := by kernel_rfl
  f6 := ⟨Try.f55.name, by decide, Try.func55.trans (congrArg some (by kernel_rfl))⟩
  f14 := ⟨Try.f80.name, by decide, Try.func80.trans (congrArg some (by kernel_rfl))⟩
  f15 := Try.func81.trans (congrArg some (by kernel_rfl))
  f20 := ⟨Try.f93.name, by decide, Try.func93.trans (congrArg some (by kernel_rfl))⟩
  f21 := ⟨Try.f94.name, by decide, Try.func94.trans (congrArg some (by kernel_rfl))⟩
  f22 := ⟨Try.f95.name, by decide, Try.func95.trans (congrArg some (by kernel_rfl))⟩
  f23 := ⟨Try.f96.name, by decide, Try.func96.trans (congrArg some (by kernel_rfl))⟩
  f24 := ⟨Try.f97.name, by decide, Try.func97.trans (congrArg some (by kernel_rfl))⟩
  f25 := ⟨Try.f98.name, by decide, Try.func98.trans (congrArg some (by kernel_rfl))⟩
  f26 := ⟨Try.f99.name, by decide, Try.func99.trans (congrArg some (by kernel_rfl))⟩
  f27 := ⟨Try.f100.name, by decide, Try.func100.trans (congrArg some (by kernel_rfl))⟩
  f28 := Try.func101.trans (congrArg some (by kernel_rfl))
  f29 := Try.func102.trans (congrArg some (by kernel_rfl))
  f46 := ⟨Try.f104.name, by decide, Try.func104.trans (congrArg some (by kernel_rfl))⟩
  f47 := Try.func105.trans (congrArg some (by kernel_rfl))
  f48 := Try.func106.trans (congrArg some (by kernel_rfl))
  f49 := ⟨Try.f107.name, by decide, Try.func107.trans (congrArg some (by kernel_rfl))⟩
  f50 := ⟨Try.f108.name, by decide, Try.func108.trans (congrArg some (by kernel_rfl))⟩
  f57 := ⟨Try.f109.name, by decide, Try.func109.trans (congrArg some (by kernel_rfl))⟩
  t0 := Try.underlying0
  a0 := Try.isAgg0
  z0 := Try.sizeOf0
  v0 := Try.zeroValue0
  t3 := Try.underlying3
  a3 := Try.isAgg3
  z3 := Try.sizeOf3
  v3 := Try.zeroValue3
  t4 := Try.underlying4
  a4 := Try.isAgg4
  z4 := Try.sizeOf4
  v4 := Try.zeroValue4
  t5 := Try.underlying5
  a5 := Try.isAgg5
  z5 := Try.sizeOf5
  v5 := Try.zeroValue5
  t9 := Try.underlying9
  a9 := Try.isAgg9
  z9 := Try.sizeOf9
  v9 := Try.zeroValue9
  t22 := Try.underlying58
  a22 := Try.isAgg58
  z22 := Try.sizeOf58
  v22 := Try.zeroValue58
  t25 := Try.underlying112
  a25 := Try.isAgg112
  z25 := Try.sizeOf112
  v25 := Try.zeroValue112
  t39 := Try.underlying131
  a39 := Try.isAgg131
  z39 := Try.sizeOf131
  v39 := Try.zeroValue131
  t45 := Try.underlying144
  a45 := Try.isAgg144
  z45 := Try.sizeOf144
  v45 := Try.zeroValue144
  t46 := Try.underlying145
  a46 := Try.isAgg145
  z46 := Try.sizeOf145
  v46 := Try.zeroValue145
  t50 := Try.underlying149
  a50 := Try.isAgg149
  z50 := Try.sizeOf149
  v50 := Try.zeroValue149
  t53 := Try.underlying152
  a53 := Try.isAgg152
  z53 := Try.sizeOf152
  v53 := Try.zeroValue152
  t55 := Try.underlying133
  a55 := Try.isAgg133
  z55 := Try.sizeOf133
  v55 := Try.zeroValue133
  t66 := Try.underlying154
  a66 := Try.isAgg154
  z66 := Try.sizeOf154
  v66 := Try.zeroValue154
  t70 := Try.underlying158
  a70 := Try.isAgg158
  z70 := Try.sizeOf158
  v70 := Try.zeroValue158
  t76 := Try.underlying160
  a76 := Try.isAgg160
  z76 := Try.sizeOf160
  v76 := Try.zeroValue160
  t77 := Try.underlying161
  a77 := Try.isAgg161
  z77 := Try.sizeOf161
  v77 := Try.zeroValue161 }
end Go.Proofs
/-
  Keys that are sorted: what SortFunc of keys comes to.
-/
namespace Go.Proofs.Ytbjoljokdjgbnab
open Go.RowKit Go.MapKept Go.Sort Go.Shelf
/-- Blocks were laid, orders drawn; nothing else. -/
def Lays (w w' : World) : Prop := ∃ q os', w' = grow (w.drewN q) os'
theorem Lays.refl (w : World) : Lays w w := ⟨0, #[], by rw [grow_empty]; rfl⟩
theorem Lays.alloc {w w' : World} (h : Lays w w') (o : Obj) : Lays w (w'.alloc o) := by
  obtain ⟨q, os, rfl⟩ := h
  exact ⟨q, os ++ #[o], by rw [alloc_eq_grow, grow_grow]⟩
theorem Lays.drew {w w' : World} (h : Lays w w') : Lays w w'.drew := by
  obtain ⟨q, os, rfl⟩ := h
  exact ⟨q + 1, os, by rw [drew_grow]; rfl⟩
set_option maxRecDepth 100000 in
set_option maxHeartbeats 2000000 in
theorem cmp_keysL (s s' : ByteArray) (d d' : Int) (w : World) : Calls Try.prog 56 #[ke s d, ke s' d'] w fun e w' => e = .returned (.int .i64 (cmpK s s' d d')) ∧ Lays w w' := by
  have C1 := hidI (cmp_side d d')
  have C2 := hidI (cmp_name s s')
  obtain ⟨x, hx⟩ : ∃ x, cmpI d d' = x := ⟨_, rfl⟩
  obtain ⟨y, hy⟩ : ∃ y, cmpS s s' = y := ⟨_, rfl⟩
  unfold cmpK
  rw [hx] at C1 ⊢
  rw [hy] at C2 ⊢
  have C3 := hidI (fun b => or_two b x y)
  obtain ⟨z, hz⟩ : ∃ z, (if x = 0 then y else x) = z := ⟨_, rfl⟩
  rw [hz] at C3 ⊢
  go_enter Try.func56, Try.ntmps56
  go_wp2
  go_region_held3 (fun w' => w'.cell? ⟨w.heap.size, 0, none⟩ = some (.string s) ∧ w'.cell? ⟨w.heap.size, 1, none⟩ = some (.int .u8 d) ∧ w'.cell? ⟨w.heap.size + 1, 0, none⟩ = some (.string s') ∧ w'.cell? ⟨w.heap.size + 1, 1, none⟩ = some (.int .u8 d'))
    (exact ⟨by go_keep, by go_keep, by go_keep, by go_keep⟩)
    ((first | (go_at_call 58; refine Calls.mono (C1.out _) ?_; rintro e w' ⟨rfl, rfl⟩) | (go_at_call 59; refine Calls.mono (C2.out _) ?_; rintro e w' ⟨rfl, rfl⟩) | (go_at_call 57; refine Calls.mono (C3.out _ _ (by go_simp) (by go_simp)) ?_; rintro e w' ⟨rfl, rfl⟩)))
  all_goals
    go_wp2
    go_ret
    refine ⟨rfl, ?_⟩
    repeat (first | exact Lays.refl _ | refine Lays.drew ?_ | refine Lays.alloc ?_ _)
abbrev Ky := ByteArray × Int
def encK (x : Ky) : List Value := [.string x.1, .int .u8 x.2]
def cfK (x y : Ky) : Int := cmpK x.1 y.1 x.2 y.2
/-- By side, then by name. -/
def ltK (x y : Ky) : Bool := decide (x.2 < y.2) || (decide (x.2 = y.2) && decide (x.1.toList < y.1.toList))
theorem ltOf_cfK (x y : Ky) : ltOf cfK x y = ltK x y := by
  unfold ltOf cfK cmpK cmpI cmpS ltK
  rw [bytesLess_eq]
  by_cases h1 : x.2 < y.2
  · simp [h1]
  · by_cases h2 : y.2 < x.2
    · have h3 : ¬ x.2 = y.2 := by omega
      simp [h1, h2, h3]
    · have h3 : x.2 = y.2 := by omega
      by_cases h4 : x.1.toList < y.1.toList
      · simp [h3, h4]
      · by_cases h5 : x.1.toList = y.1.toList
        · have h6 : ¬ y.1.toList < y.1.toList := List.lt_irrefl _
          simp [h3, h5, h6]
        · simp [h3, h4, h5]
theorem swoK : SWO (ltOf cfK) where
  irrefl x := by rw [ltOf_cfK]; simp [ltK, List.lt_irrefl]
  trans x y z h1 h2 := by
    rw [ltOf_cfK] at *
    simp only [ltK, Bool.or_eq_true, Bool.and_eq_true, decide_eq_true_eq] at *
    rcases h1 with h1 | ⟨h1, h1'⟩
    · rcases h2 with h2 | ⟨h2, _⟩
      · left; omega
      · left; omega
    · rcases h2 with h2 | ⟨h2, h2'⟩
      · left; omega
      · right; exact ⟨by omega, List.lt_trans h1' h2'⟩
  ntrans x y z h1 h2 := by
    rw [ltOf_cfK] at *
    simp only [ltK, Bool.or_eq_false_iff, Bool.and_eq_false_iff, decide_eq_false_iff_not] at *
    obtain ⟨a1, b1⟩ := h1
    obtain ⟨a2, b2⟩ := h2
    refine ⟨by omega, ?_⟩
    by_cases e : x.2 = z.2
    · right
      have b1' : ¬ x.1.toList < y.1.toList := by
        rcases b1 with b1 | b1
        · omega
        · exact b1
      have b2' : ¬ y.1.toList < z.1.toList := by
        rcases b2 with b2 | b2
        · omega
        · exact b2
      exact fun h => List.not_lt.2 (List.le_trans (List.not_lt.1 b2') (List.not_lt.1 b1')) h
    · left; exact e
theorem isAgg40 (w : World) : (isAgg 40).run Try.prog w = .ok true w := by simp [isAgg, run_underlying Try.underlying40]
theorem Try.info40 : (Try.prog.info? 40).map (fun i => (i.zero, i.size, i.bytes)) = some (some (.agg #[.string ⟨#[]⟩, .int .u8 0]), 2, 24) := by kernel_rfl
theorem sizeOf40 (w : World) : (Go.sizeOf 40).run Try.prog w = .ok 2 w := by
  obtain ⟨i0, hi, hz0, hz1, hz2⟩ := info_parts Try.info40
  simp [Go.sizeOf, typeInfo, hi, hz1]
theorem sort_keys (blk off cap : Nat) (d : Array Ky) (w : World) (hH : HoldsK encK 2 w blk off d) (hblk : blk < w.heap.size) (hsz : d.size < 4611686018427387904) :
    Calls Try.prog 55 #[.slice (some ⟨blk, off, none⟩) d.size cap, .func (.func 56) #[] #[]] w fun e w' => e = .returned (.tuple #[]) ∧ ∃ d' n os, PermIn 0 d.size d d' ∧ SortedIn (ltOf cfK) 0 d.size d' ∧ w' = sortWorldK encK 2 w blk off n d' os := by
  have eg : ∀ args w, (callFunc 56 args).run Try.prog w = .ok (.enter 56 args) w := enters_of Try.func56 (by kernel_rfl) rfl
  exact AnyQ.slices_SortFunc Try.sortKeys 2 isAgg40 sizeOf40 encK (fun _ => rfl) (fun x v hv => by simp [encK] at hv; rcases hv with rfl | rfl <;> rfl) cfK swoK 56 #[] blk off cap d w eg (fun _ _ _ _ x y => cmp_keysL x.1 y.1 x.2 y.2 _) hH hblk hsz
end Go.Proofs.Ytbjoljokdjgbnab
/-
  Words: a column's values cloned, and listed.
-/
namespace Go.Proofs.Ytbjoljokdjgbnab
open Go.RowKit Go.Deep
theorem Try.info51 : (Try.prog.info? 51).map (fun i => (i.zero, i.size, i.bytes)) = some (some (.int .i64 0), 1, 8) := by kernel_rfl
theorem nil60 (w : World) (a : Option Addr) (n c n' c' : Nat) : (binOp .eql 60 (.slice a n c) (.slice none n' c')).run Try.prog w = .ok (.bool a.isNone) w := Lib.run_eql_slice_nil w _ _ a n c n' c' Try.underlying60
/-- Numbers appended to a row of one's own. -/
theorem run_append_words (W : World) (ty base : Nat) (v : Value) (n : Nat) (xs : List Value) (u : Value) (zs : List Int) (ho : W.ownsRow base 51 1 v n xs) (hu : Sees W u zs) (hn : n + zs.length ≤ 1000000) (hb : base ≤ W.heap.size) :
    ∃ v' w', (Builtin.append_ #[60, 60] ty #[v, u]).run Try.prog W = .ok v' w' ∧ w'.ownsRow base 51 1 v' (n + zs.length) (xs ++ zs.map (Value.int .i64)) ∧ W.grownBy w' v.ownBlock ∧ (v'.ownBlock = v.ownBlock ∨ v'.ownBlock = some W.heap.size) := by
  obtain ⟨i0, hi, hz0, hz1, hz2⟩ := info_parts Try.info51
  obtain ⟨a, cap, rfl, hs⟩ := hu
  rcases hs with rfl | ⟨b, off, rfl, hc⟩
  · refine ⟨v, W, ?_, by simpa using ho, World.grownBy.refl _ _, .inl rfl⟩
    rcases ho.2 with ⟨rfl, rfl⟩ | ⟨g, cap', cur, rfl, _, _, hle, _⟩
    · cases a <;> simp [Builtin.append_, run_underlying Try.underlying60, sizeOf, typeInfo, hi, loadCells, loadCellsFrom, Builtin.lenOf, Builtin.firstCells]
    · cases a <;> simp [Builtin.append_, run_underlying Try.underlying60, sizeOf, typeInfo, hi, hle, storeCells, loadCells, loadCellsFrom, Builtin.lenOf, Builtin.firstCells]
  · obtain ⟨v', w', hr, h2, h3, _, h5⟩ := run_append_own_at (P := Try.prog) W base 60 ty 51 i0 (.int .i64 0) 1 8 Try.underlying60 hi hz0 hz1 hz2 rfl (by decide) v n xs ho ⟨b, off, none⟩ zs.length cap (zs.map (Value.int .i64)) (by simp)
      (fun j u hj => by
        rw [List.getElem?_map] at hj
        obtain ⟨z, hz, rfl⟩ := Option.map_eq_some_iff.1 hj
        have hjl := (List.getElem?_eq_some_iff.1 hz).1
        have := hc j hjl
        rw [Addr.add_lit, this]
        simp [List.getD, hz])
      (by intro u hu; obtain ⟨z, _, rfl⟩ := List.mem_map.1 hu; rfl) (by unfold maxLen; omega) (by omega) hb
    exact ⟨v', w', hr, h2, h3, h5⟩
theorem wpList_append_words {ops : Array Oper} {rest : List Oper} {o : Oper} {a : Act} {Q : Exit → Act → World → Prop} {W : World} (hgd : o.guard = none) (s x : Operand)
    (ho : o.op = .call { callee := .builtin .append, args := #[s, x], argTypes := #[60, 60] }) (base : Nat) (v : Value) (n : Nat) (xs : List Value) (hs : a.eval s = v) (hown : W.ownsRow base 51 1 v n xs)
    (u : Value) (zs : List Int) (hx : a.eval x = u) (hu : Sees W u zs) (hn : n + zs.length ≤ 1000000) (hb : base ≤ W.heap.size)
    (h : ∀ v' w', w'.ownsRow base 51 1 v' (n + zs.length) (xs ++ zs.map (Value.int .i64)) → W.grownBy w' v.ownBlock → (v'.ownBlock = v.ownBlock ∨ v'.ownBlock = some W.heap.size) → wpList Try.prog ops Q rest (a.put o.dst v') w') :
    wpList Try.prog ops Q (o :: rest) a W := by
  refine wpList_plain hgd fun K hK => ?_
  obtain ⟨v', w', hr, h2, h3, h4⟩ := run_append_words W o.type base v n xs u zs hown hu hn hb
  unfold Oper.wp execOp
  simp only [ho, resolve, invoke, builtin, Sem.run_bind, Sem.run_pure, Result.andThen_ok, List.map_toArray, List.map_cons, List.map_nil, hs, hx, hr]
  exact hK _ _ (h v' w' h2 h3 h4)
set_option maxRecDepth 100000 in
set_option maxHeartbeats 1000000 in
theorem cloneW_walk (x : Addr) (cap : Nat) (zs : List Int) (w : World) (hl : zs.length ≤ 100000) (hv : Sees w (.slice (some x) zs.length cap) zs) :
    Calls Try.prog 51 #[.slice (some x) zs.length cap] w fun e w' => ∃ u, e = .returned u ∧ Sees w' u zs ∧ Below w.heap.size w w' := by
  have HV := hidI (hv.below ((Below.refl _ w).alloc (Nat.le_refl _) (.cells #[] 51)) (Nat.le_refl _))
  have HO := hidI (World.ownsRow_made (base := w.heap.size) (e := 51) (size := 1) w #[] 0 (Nat.le_refl _) (by unfold maxLen; omega) rfl)
  have q36 := nil60
  have u36 : ∀ w, Sem.run Try.prog (underlying 60) w = .ok (TypeDesc.slice 51) w := run_underlying Try.underlying60
  clear hv
  go_enter Try.func51, Try.ntmps51
  go_wp2_with (at_builtin; refine wpList_append_words rfl _ _ rfl w.heap.size _ 0 [] rfl HO.out _ zs rfl HV.out (by omega) (by simp) ?_; intro v' w1 hown' hgrow' hat')
  go_ret
  refine ⟨v', rfl, sees_of_owns (base := w.heap.size) (e := 51) (by simpa using hown'), ?_⟩
  exact ((Below.refl _ w).alloc (Nat.le_refl _) _).grown hgrow' (by simp) (fun k hk => (HO.out.lt k hk).1)
theorem list_some (tb mb : Nat) (s : ByteArray) (d : Int) (k : Int) (a : Addr) (c : Nat) (zs : List Int) (w : World) (c2 : w.cell? ⟨tb, 2, none⟩ = some (.map (some mb))) (hm : mb < w.heap.size) (hk : Look w mb s d (.agg #[.int .u8 k, .slice (some a) zs.length c]) true) (hl : zs.length ≤ 100000) (hz : Sees w (.slice (some a) zs.length c) zs) :
    Calls Try.prog 26 #[.pointer (some ⟨tb, 0, none⟩), ke s d] w fun e w' => ∃ u, e = .returned u ∧ Sees w' u zs ∧ Below w.heap.size w w' := by
  have htb := World.block_lt_of_cell? w _ c2
  simp only at htb
  have D : Hid (∀ u, Below w.heap.size w u → Calls Try.prog 51 #[.slice (some a) zs.length c] u fun e w' => ∃ v, e = .returned v ∧ Sees w' v zs ∧ Below u.heap.size u w') := hidI fun u hu => cloneW_walk a c zs u hl (hz.below hu (Nat.le_refl _))
  obtain ⟨l, hl2⟩ : ∃ l, zs.length = l := ⟨_, rfl⟩
  rw [hl2] at hk D
  have C : Hid (∀ u, Below w.heap.size w u → Calls Try.prog 60 #[.pointer (some ⟨tb, 0, none⟩), ke s d] u fun e w' => e = .returned (.tuple #[.agg #[.int .u8 k, .slice (some a) l c], .int .i64 0]) ∧ Below u.heap.size u w') :=
    hidI fun u hu => find_some tb mb s d k _ l c u ((hu.cell (p := ⟨tb, 2, none⟩) htb).trans c2) (Nat.lt_of_lt_of_le hm hu.size) fun v hv => hk v (hv.trans (hu.block mb hm))
  clear hk c2 hz
  go_enter Try.func26, Try.ntmps26
  go_wp2_with (go_at_call 60; refine Calls.mono (C.out _ (by (repeat (first | exact Below.refl _ _ | assumption | refine Below.drew ?_ | refine Below.alloc ?_ (by first | omega | (simp; done) | (simp; omega)) _ | refine Below.setCell ?_ (by first | omega | (simp; done) | (simp; omega)) _)))) ?_; rintro e w1 ⟨rfl, hb1⟩; refine Hid.out ?_)
  refine hidI ?_
  have hsz := hb1.size
  simp only [World.size_alloc] at hsz
  have HB : Hid (Below w.heap.size w w1) := hidI (Below.trans (by (repeat (first | exact Below.refl _ _ | assumption | refine Below.drew ?_ | refine Below.alloc ?_ (by first | omega | (simp; done) | (simp; omega)) _ | refine Below.setCell ?_ (by first | omega | (simp; done) | (simp; omega)) _))) (hb1.mono (by simp)))
  clear hb1 C
  have HB2 : Hid (Below w.heap.size w (w1.alloc (.cells #[.int .u8 k, .slice (some a) l c] 97))) := hidI (by have := HB.out; (repeat (first | exact Below.refl _ _ | assumption | refine Below.drew ?_ | refine Below.alloc ?_ (by first | omega | (simp; done) | (simp; omega)) _ | refine Below.setCell ?_ (by first | omega | (simp; done) | (simp; omega)) _)))
  go_wp2_with (go_at_call 51; refine Calls.mono (D.out _ HB2.out) ?_; rintro e w2 ⟨v, rfl, hv, hb2⟩)
  go_ret
  exact ⟨_, rfl, hv, HB2.out.trans (hb2.mono HB2.out.size)⟩
end Go.Proofs.Ytbjoljokdjgbnab
/-
  A table with one column, as it stands.
-/
namespace Go.Proofs.Ytbjoljokdjgbnab
open Go.RowKit Go.MapKept
open Go.ChangeMaps (setBlock)
/-- The table at tb has the column of the key (s, d), of kind k, with the values zs, in the row b. -/
def Tab (w : World) (tb mb b : Nat) (s : ByteArray) (d k : Int) (zs : List Int) : Prop :=
  w.cell? ⟨tb, 2, none⟩ = some (.map (some mb)) ∧ mb < w.heap.size ∧ Look w mb s d (.agg #[.int .u8 k, .slice (some ⟨b, 0, none⟩) zs.length zs.length]) true ∧
    (∀ j, j < zs.length → w.cell? ⟨b, j, none⟩ = some (.int .i64 (zs.getD j 0)) ∧ w.frozen? ⟨b, j, none⟩ = false) ∧ b ≠ tb ∧ b ≠ mb
theorem Tab.below {w w' : World} {tb mb b n : Nat} {s : ByteArray} {d k : Int} {zs : List Int} (h : Tab w tb mb b s d k zs) (hb : Below n w w') (hn : w.heap.size ≤ n) : Tab w' tb mb b s d k zs := by
  obtain ⟨h1, h2, h3, h4, h5, h6⟩ := h
  have l1 := World.block_lt_of_cell? w _ h1
  refine ⟨(hb.cell (p := ⟨tb, 2, none⟩) (Nat.lt_of_lt_of_le l1 hn)).trans h1, Nat.lt_of_lt_of_le h2 hb.size, fun u hu => h3 u (hu.trans (hb.block mb (Nat.lt_of_lt_of_le h2 hn))), fun j hj => ?_, h5, h6⟩
  have l2 := World.block_lt_of_cell? w _ (h4 j hj).1
  exact ⟨(hb.cell (p := ⟨b, j, none⟩) (Nat.lt_of_lt_of_le l2 hn)).trans (h4 j hj).1, (hb.frozen (p := ⟨b, j, none⟩) (Nat.lt_of_lt_of_le l2 hn)).trans (h4 j hj).2⟩
theorem Tab.get {w : World} {tb mb b : Nat} {s : ByteArray} {d k : Int} {zs : List Int} (h : Tab w tb mb b s d k zs) {i : Nat} (hi : i < zs.length) :
    Calls Try.prog 23 #[.pointer (some ⟨tb, 0, none⟩), ke s d, .int .i64 (i : Int)] w fun e w' => e = .returned (.tuple #[.int .i64 (zs.getD i 0), .int .i64 0]) ∧ Below w.heap.size w w' := by
  obtain ⟨h1, h2, h3, h4, _⟩ := h
  exact get_some tb mb s d k b 0 _ _ i _ w h1 h2 h3 hi (by rw [Nat.zero_add]; exact (h4 i hi).1)
theorem Tab.list {w : World} {tb mb b : Nat} {s : ByteArray} {d k : Int} {zs : List Int} (h : Tab w tb mb b s d k zs) (hl : zs.length ≤ 100000) :
    Calls Try.prog 26 #[.pointer (some ⟨tb, 0, none⟩), ke s d] w fun e w' => ∃ u, e = .returned u ∧ Sees w' u zs ∧ Below w.heap.size w w' := by
  obtain ⟨h1, h2, h3, h4, _⟩ := h
  exact list_some tb mb s d k ⟨b, 0, none⟩ _ zs w h1 h2 h3 hl ⟨some ⟨b, 0, none⟩, _, rfl, .inr ⟨b, 0, rfl, fun j hj => by rw [Nat.zero_add]; exact (h4 j hj).1⟩⟩
theorem Tab.setCell {w : World} {tb mb b : Nat} {s : ByteArray} {d k : Int} {zs : List Int} (h : Tab w tb mb b s d k zs) {i : Nat} (hi : i < zs.length) (x : Int) : Tab (w.setCell ⟨b, i, none⟩ (.int .i64 x)) tb mb b s d k (zs.set i x) := by
  obtain ⟨h1, h2, h3, h4, h5, h6⟩ := h
  have hsz : (w.setCell ⟨b, i, none⟩ (.int .i64 x)).heap.size = w.heap.size := by simp
  refine ⟨(World.cell?_setCell_far w ⟨b, i, none⟩ ⟨tb, 2, none⟩ _ h5).trans h1, by omega, ?_, fun j hj => ?_, h5, h6⟩
  · rw [List.length_set]
    exact fun u hu => h3 u (hu.trans (Below.heap_setCell w ⟨b, i, none⟩ _ mb (Ne.symm h6)))
  · rw [List.length_set] at hj
    rw [World.frozen?_setCell]
    refine ⟨?_, (h4 j hj).2⟩
    rw [getD_set _ _ _ _ hj]
    by_cases e : i = j
    · subst e
      rw [if_pos rfl]
      exact World.cell?_setCell_same _ _ _ (h4 i hi).1
    · rw [if_neg e]
      exact (World.cell?_setCell_other _ _ _ _ (by intro h; cases h; exact e rfl)).trans (h4 j hj).1
theorem Tab.put {w : World} {tb mb b : Nat} {s : ByteArray} {d k : Int} {zs : List Int} (h : Tab w tb mb b s d k zs) {i : Nat} (hi : i < zs.length) (x : Int) (hx : fit k x = true) :
    Calls Try.prog 22 #[.pointer (some ⟨tb, 0, none⟩), ke s d, .int .i64 (i : Int), .int .i64 x] w fun e w' => e = .returned (.int .i64 0) ∧ Tab w' tb mb b s d k (zs.set i x) ∧ ∃ w1, Below w.heap.size w w1 ∧ w' = w1.setCell ⟨b, i, none⟩ (.int .i64 x) := by
  have h' := h
  obtain ⟨h1, h2, h3, h4, _⟩ := h
  refine (set_fit tb mb s d k x _ b 0 _ _ i w h1 h2 h3 hi hx (by rw [Nat.zero_add]; exact (h4 i hi).1) (by rw [Nat.zero_add]; exact (h4 i hi).2)).mono ?_
  rintro e w' ⟨rfl, w1, hb, rfl⟩
  rw [Nat.zero_add]
  exact ⟨rfl, (h'.below hb (Nat.le_refl _)).setCell hi x, w1, hb, rfl⟩
end Go.Proofs.Ytbjoljokdjgbnab
/-
  A table's keys, collected: what stands in the row.
-/
namespace Go.Proofs.Ytbjoljokdjgbnab
open Go.RowKit Go.MapKept Go.Sort Go.Shelf
theorem below_sort {enc : Ky → List Value} {k : Nat} {w : World} {blk off n B : Nat} {d : Array Ky} {os : Array Obj} (hB : B ≤ blk) (hblk : blk < w.heap.size) : Below B w (sortWorldK enc k w blk off n d os) := by
  refine ⟨rfl, rfl, rfl, size_sortWorldK_c _ _ _ _ _ _ _ _, fun j hj => ?_⟩
  have h1 : j < w.heap.size := by omega
  have h2 : blk ≠ j := by omega
  simp [sortWorldK, grow, putRowK, putRow, mapBlock, Array.getElem?_append, h1, Array.getElem_modify, h2]
/-- An entry's key, as a name and a side. -/
def kyOf (e : MapEntry) : Ky := match e.key with
  | .agg #[.string s, .int .u8 d] => (s, d)
  | _ => (⟨#[]⟩, 0)
theorem kyOf_eq {e : MapEntry} {s : ByteArray} {d : Int} (h : e.key = ke s d) : kyOf e = (s, d) := by unfold kyOf; rw [h]; rfl
def flatE (vis : List MapEntry) : List Value := vis.flatMap fun e => encK (kyOf e)
theorem flatE_length (vis : List MapEntry) : (flatE vis).length = vis.length * 2 := by
  induction vis with
  | nil => rfl
  | cons e r ih => simp only [flatE, List.flatMap_cons, List.length_append, List.length_cons] at *; rw [ih]; simp [encK]; omega
theorem flatE_snoc (vis : List MapEntry) (e : MapEntry) : flatE (vis ++ [e]) = flatE vis ++ encK (kyOf e) := by simp [flatE]
theorem flatE_get : ∀ (vis : List MapEntry) (j : Nat) (c : Nat), j < vis.length → c < 2 → (flatE vis)[j * 2 + c]? = (encK (kyOf (vis[j]!)))[c]?
  | [], j, c, hj, _ => by simp at hj
  | e :: r, 0, c, _, hc => by
    have : c = 0 ∨ c = 1 := by omega
    rcases this with rfl | rfl <;> simp [flatE, encK]
  | e :: r, j + 1, c, hj, hc => by
    have ih := flatE_get r j c (by simpa using hj) hc
    have e1 : (j + 1) * 2 + c = (j * 2 + c) + 2 := by omega
    have e2 : flatE (e :: r) = .string (kyOf e).1 :: .int .u8 (kyOf e).2 :: flatE r := by simp [flatE, encK]
    rw [e1, e2]
    simpa using ih
/-- A row of one's own with the keys of vis, as the sort wants it. -/
theorem holds_of_owns {w : World} {base g cap : Nat} {vis : List MapEntry} (h : w.ownsRow base 40 2 (.slice (some ⟨g, 0, none⟩) vis.length cap) vis.length (flatE vis)) : HoldsK encK 2 w g 0 (vis.map kyOf).toArray := by
  intro j hj
  have hj' : j < vis.length * 2 := by simpa using hj
  have hf : w.frozen? ⟨g, 0 + j, none⟩ = false := by
    rcases h.2 with ⟨h1, _⟩ | ⟨g', cap', cur, h1, _, hb, _⟩
    · cases h1
    · cases h1
      simp [World.frozen?, hb]
  refine ⟨?_, hf⟩
  have e1 : j = (j / 2) * 2 + j % 2 := by omega
  have hget := flatE_get vis (j / 2) (j % 2) (by omega) (by omega)
  rw [← e1] at hget
  have hq : j / 2 < vis.length := by omega
  have hE : (flatK encK 2 (vis.map kyOf).toArray)[j]! = (encK (kyOf (vis[j / 2]!)))[j % 2]! := by
    rw [get_flatK _ _ _ _ (by simpa using hj')]
    simp [hq]
  have hsome : (encK (kyOf (vis[j / 2]!)))[j % 2]? = some ((encK (kyOf (vis[j / 2]!)))[j % 2]!) := by
    have : j % 2 = 0 ∨ j % 2 = 1 := by omega
    rcases this with e | e <;> simp [encK, e]
  rw [hsome] at hget
  have hc := World.ownsRow.cells h rfl j _ hget
  rw [add_at] at hc
  rw [Nat.zero_add, hE]
  exact hc
end Go.Proofs.Ytbjoljokdjgbnab
/-
  A table's keys, by side, then by name: what Keys comes to.
-/
namespace Go.Proofs.Ytbjoljokdjgbnab
open Go.RowKit Go.MapKept Go.Sort Go.Shelf
open Go.ChangeMaps (setBlock)
theorem born_inj : ∀ {l : List MapEntry}, (l.map (·.born)).Nodup → ∀ {x y : MapEntry}, x ∈ l → y ∈ l → x.born = y.born → x = y
  | [], _, x, _, hx, _, _ => by cases hx
  | a :: l, h, x, y, hx, hy, e => by
    rw [List.map_cons, List.nodup_cons] at h
    rcases List.mem_cons.1 hx with hx1 | hx1
    · rcases List.mem_cons.1 hy with hy1 | hy1
      · rw [hx1, hy1]
      · subst hx1; exact absurd (List.mem_map.2 ⟨y, hy1, e.symm⟩) h.1
    · rcases List.mem_cons.1 hy with hy1 | hy1
      · subst hy1; exact absurd (List.mem_map.2 ⟨x, hx1, e⟩) h.1
      · exact born_inj h.2 hx1 hy1 e
theorem nodup_of_map {l : List MapEntry} (h : (l.map (·.born)).Nodup) : l.Nodup := by
  unfold List.Nodup at h ⊢
  rw [List.pairwise_map] at h
  exact h.imp fun hne e => hne (by rw [e])
theorem pair_newK (w : World) (x y : Value) (t : TypeId) (b : Nat) (hb : b = w.heap.size) : ∀ (j : Nat) (u : Value), [x, y][j]? = some u → (w.alloc (.cells #[x, y] t)).cell? ((⟨b, 0, none⟩ : Addr).add j) = some u := by
  subst hb
  intro j u hj
  rw [add_at]
  match j, hj with
  | 0, hj => simp at hj; subst hj; unfold World.cell?; rw [World.alloc_heap_new]; rfl
  | 1, hj => simp at hj; subst hj; unfold World.cell?; rw [World.alloc_heap_new]; rfl
  | j + 2, hj => simp at hj
theorem ltOf_cfK' : ltOf cfK = ltK := by funext x y; exact ltOf_cfK x y
/-- Behind the range: all entries were met, each once. -/
theorem vis_perm {es : Array MapEntry} {vis : List MapEntry} {seen : Array Nat} (hst : (es.toList.map (·.born)).Nodup) (hs : seen.toList = vis.map (·.born)) (hv : (vis.map (·.born)).Nodup) (hin : ∀ e ∈ vis, e ∈ es.toList) (hall : ∀ x ∈ es.toList, seen.contains x.born = true) : vis.Perm es.toList := by
  rw [List.perm_ext_iff_of_nodup (nodup_of_map hv) (nodup_of_map hst)]
  intro x
  refine ⟨hin x, fun hx => ?_⟩
  have h1 := hall x hx
  rw [Array.contains_iff_mem, ← Array.mem_toList_iff, hs] at h1
  obtain ⟨y, hy, e⟩ := List.mem_map.1 h1
  have := born_inj hst (hin y hy) hx e
  subst this
  exact hy
set_option maxRecDepth 100000 in
set_option maxHeartbeats 4000000 in
theorem keys_any (tb mb : Nat) (es : Array MapEntry) (clock : Nat) (w : World) (c2 : w.cell? ⟨tb, 2, none⟩ = some (.map (some mb))) (hb : w.heap[mb]? = some (.map es clock)) (hst : Stamped es clock) (hky : ∀ e ∈ es.toList, ∃ s d, e.key = ke s d) (h24 : es.size ≤ 24) :
    Calls Try.prog 25 #[.pointer (some ⟨tb, 0, none⟩)] w fun e w' => ∃ (g cap : Nat) (ds : Array Ky), e = .returned (.slice (some ⟨g, 0, none⟩) es.size cap) ∧ ds.size = es.size ∧ ds.toList.Perm (es.toList.map kyOf) ∧ SortedIn ltK 0 ds.size ds ∧ HoldsK encK 2 w' g 0 ds ∧ w.heap.size ≤ g ∧ Below w.heap.size w w' := by
  obtain ⟨i0, hi, hz0, hz1, hz2⟩ := info_parts Try.info40
  have ql : (Builtin.len_ #[93] 3 #[.map (some mb)]).run Try.prog w = .ok (.int .i64 (es.size : Int)) w := run_len_map w 93 3 mb es clock Try.underlying93 hb
  obtain ⟨w1, qm, hown1, hg1⟩ := run_make_own (P := Try.prog) w w.heap.size 58 40 i0 (.agg #[.string ⟨#[]⟩, .int .u8 0]) 2 Try.underlying58 hi hz0 hz1 .i64 .i64 es.size (by rw [hz2]; omega) (by unfold maxLen; omega) (Nat.le_refl _)
  have b1 : Below w.heap.size w w1 := (Below.refl _ w).grown hg1 (Nat.le_refl _) (fun _ e => by cases e)
  have hbm : mb < w.heap.size := (Array.getElem?_eq_some_iff.1 hb).1
  have hbt := World.block_lt_of_cell? w _ c2
  have c2' : w1.cell? ⟨tb, 2, none⟩ = some (.map (some mb)) := (b1.cell (p := ⟨tb, 2, none⟩) hbt).trans c2
  have hb' : w1.heap[mb]? = some (.map es clock) := (b1.block mb hbm).trans hb
  have qr := run_range_map (P := Try.prog) w1 93 40 97 mb es clock Try.underlying93 hb'
  have b2 : Below w.heap.size w (w1.alloc (.mapIter (some mb) clock #[] clock)) := b1.alloc b1.size _
  have hr0 : (w1.alloc (.mapIter (some mb) clock #[] clock)).heap[w1.heap.size]? = some (.mapIter (some mb) clock #[] clock) := World.alloc_heap_new w1 _
  have hown2 := hown1.alloc (.mapIter (some mb) clock #[] clock)
  obtain ⟨r, hre⟩ : ∃ r, w1.heap.size = r := ⟨_, rfl⟩
  have hrw : w.heap.size ≤ r := by rw [← hre]; exact b1.size
  have HO0 := hidI hown2
  have HB0 := hidI b2
  have HR0 := hidI hr0
  rw [hre] at HR0
  have HBM := hidI hb
  have HST := hidI hst
  have HKY := hidI hky
  have hle0 : (leftOf es #[]).size = es.size := by simp [leftOf]
  have HLE := hidI hle0
  clear hown1 hg1 b2 hr0 hown2 hky hst hle0
  go_enter Try.func25, Try.ntmps25
  go_wp2
  clear qm qr ql b1 c2 c2' hb hb'
  go_loopg [3] es.size (fun g s3 wr => ∃ (vis : List MapEntry) (seen : Array Nat) (c0 g0 cap : Nat), ((leftOf es seen).size = g ∧ vis.length + g ≤ es.size) ∧ seen.toList = vis.map (·.born) ∧ (vis.map (·.born)).Nodup ∧ (∀ e ∈ vis, e ∈ es.toList) ∧ s3 = .slice (some ⟨g0, 0, none⟩) vis.length cap ∧ wr.ownsRow w.heap.size 40 2 (.slice (some ⟨g0, 0, none⟩) vis.length cap) vis.length (flatE vis) ∧ wr.heap[r]? = some (.mapIter (some mb) clock seen c0) ∧ clock ≤ c0 ∧ Below w.heap.size w wr)
  case atStart => exact ⟨[], #[], clock, w.heap.size, es.size, ⟨HLE.out, by simp⟩, rfl, by simp, by simp, rfl, HO0.out, HR0.out, Nat.le_refl _, HB0.out⟩
  case round =>
    obtain ⟨vis, seen, c0, g0, cap, ⟨hlg, hvg⟩, hsv, hvn, hvin, rfl, hown, hr, hc0, hbl⟩ := hrel
    have hbr : wr.heap[mb]? = some (.map es clock) := (hbl.block mb hbm).trans HBM.out
    have HL := hidI (And.intro hlg hvg)
    have HSV := hidI hsv
    have HVN := hidI hvn
    have HVI := hidI hvin
    have HO := hidI hown
    have HB := hidI hbl
    have HR := hidI hr
    have hszr := hbl.size
    clear HO0 HB0 HR0 HLE
    rcases run_next_at (P := Try.prog) wr 0 r mb clock c0 seen es clock hr hbr HST.out.1 hc0 with ⟨h0, hrun⟩ | ⟨e, he, wn, hal, hrun⟩
    · have hp := vis_perm HST.out.2.1 hsv hvn hvin (all_seen es seen h0)
      have hlen : vis.length = es.size := by rw [hp.length_eq]; simp
      have hg0 : g0 < wr.heap.size := (hown.lt g0 rfl).2
      have hg0b : w.heap.size ≤ g0 := (hown.lt g0 rfl).1
      have hHo := holds_of_owns hown
      have CS := sort_keys g0 0 cap (vis.map kyOf).toArray wr hHo hg0 (by simp; omega)
      have hds : (vis.map kyOf).toArray.size = es.size := by simp [hlen]
      rw [hds] at CS
      have HCS := hidI CS
      have HHO := hidI hHo
      have HP := hidI hp
      have HDS := hidI hds
      rw [hlen]
      clear CS hHo hp hds hown hr hbr hbl hsv hvn hvin hlg hvg h0 hlen
      go_wp2_with (go_at_call 55; refine Calls.mono HCS.out ?_; rintro e w' ⟨rfl, d', n, os, hpi, hso, rfl⟩; refine Hid.out ?_)
      refine hidI ?_
      have HH' : Hid (HoldsK encK 2 (sortWorldK encK 2 wr g0 0 n d' os) g0 0 d') := holdsK_sortWorldK_c _ _ _ _ _ _ _ _ _ HHO.out hg0 (by have := hpi.1; rw [this])
      have HB' : Hid (RowKit.Below w.heap.size w (sortWorldK encK 2 wr g0 0 n d' os)) := HB.out.trans (below_sort hg0b hg0)
      have HPI := hidI hpi
      have HSO := hidI hso
      clear hpi hso HCS
      go_wp2
      go_ret
      have hd's : d'.size = es.size := by have := HPI.out.1; rw [this]; exact HDS.out
      refine ⟨g0, cap, d', rfl, hd's, ?_, ?_, HH'.out, hg0b, HB'.out⟩
      · have h1 := HPI.out.2.2
        rw [← hd's] at h1
        have e1 : d'.extract 0 d'.size = d' := by simp
        have e2 : (vis.map kyOf).toArray.extract 0 d'.size = (vis.map kyOf).toArray := by rw [hd's, ← HDS.out, Array.extract_size]
        rw [e1, e2] at h1
        exact h1.trans (HP.out.map kyOf)
      · have h2 := HSO.out
        rw [ltOf_cfK'] at h2
        rw [hd's]
        exact h2
    · obtain ⟨hem, hes⟩ := mem_left he
      obtain ⟨s, d, hk⟩ := HKY.out e hem
      have hsh := left_shrinks es seen e he
      have hrl : r < wr.heap.size := (Array.getElem?_eq_some_iff.1 hr).1
      have hnh : wn.heap = wr.heap := by rcases hal with rfl | rfl <;> rfl
      have hg2 : wr.grownBy (setBlock wn r (.mapIter (some mb) clock (seen.push e.born) clock)) (some r) := by
        rcases hal with rfl | rfl <;> exact ⟨rfl, rfl, rfl, by simp [setBlock], fun i _ hi => by simp [setBlock, show r ≠ i from fun e1 => hi (by rw [e1])]; try rfl⟩
      have hr2 : (setBlock wn r (.mapIter (some mb) clock (seen.push e.born) clock)).heap[r]? = some (.mapIter (some mb) clock (seen.push e.born) clock) := by simp [setBlock, hnh, hrl]
      obtain ⟨W2, hW2⟩ : ∃ W2, setBlock wn r (.mapIter (some mb) clock (seen.push e.born) clock) = W2 := ⟨_, rfl⟩
      rw [hW2] at hrun hg2 hr2
      have hb2 : W2.heap[mb]? = some (.map es clock) := (hg2.block mb (by omega) (by intro h; have := Option.some.inj h; omega)).trans hbr
      have qe := run_entry_at (P := Try.prog) W2 r mb clock seen es clock e hr2 hb2 hem HST.out.2.1
      rw [hk] at hrun qe
      obtain ⟨ev, hev⟩ : ∃ ev, e.val = ev := ⟨_, rfl⟩
      rw [hev] at hrun qe
      have hg0r : g0 ≠ r := by
        rcases hown.2 with ⟨h1, _⟩ | ⟨g', cap', cur, h1, _, hgb, _⟩
        · cases h1
        · cases h1
          intro e1
          rw [e1, hr] at hgb
          cases hgb
      have hown2 := hown.kept hg2 (.inr fun h => hg0r (Option.some.inj h))
      have hbl2 : RowKit.Below w.heap.size w W2 := hbl.grown hg2 hszr (fun j ej => by cases ej; exact hrw)
      have hsz2 := hbl2.size
      have OWN : Hid (((W2.alloc (.cells #[.string s, .int .u8 d] 40)).alloc (.cells #[.string s, .int .u8 d] 40)).ownsRow w.heap.size 40 2 (.slice (some ⟨g0, 0, none⟩) vis.length cap) vis.length (flatE vis)) := (hown2.alloc _).alloc _
      have BEL : Hid (RowKit.Below w.heap.size w ((W2.alloc (.cells #[.string s, .int .u8 d] 40)).alloc (.cells #[.string s, .int .u8 d] 40))) := (hbl2.alloc hsz2 _).alloc (by simp; omega) _
      have HRr : Hid (((W2.alloc (.cells #[.string s, .int .u8 d] 40)).alloc (.cells #[.string s, .int .u8 d] 40)).heap[r]? = some (.mapIter (some mb) clock (seen.push e.born) clock)) := by
        have hr2l := (Array.getElem?_eq_some_iff.1 hr2).1
        rw [Below.heap_alloc _ _ _ (by simp; omega), Below.heap_alloc _ _ _ hr2l]
        exact hr2
      have hrl2 : r < W2.heap.size := (Array.getElem?_eq_some_iff.1 hr2).1
      have PN := hidI (pair_newK (W2.alloc (.cells #[.string s, .int .u8 d] 40)) (.string s) (.int .u8 d) 40 (W2.heap.size + 1) (by simp))
      have H63 : Hid (vis.length + 1 ≤ maxLen) := hidI (by unfold maxLen; omega)
      have H64 : Hid ((vis.length + 1) * 24 ≤ 140737488355328) := hidI (by omega)
      have H65 : Hid (w.heap.size ≤ ((W2.alloc (.cells #[.string s, .int .u8 d] 40)).alloc (.cells #[.string s, .int .u8 d] 40)).heap.size) := hidI (by simp; omega)
      have HEM := hidI hem
      have HES := hidI hes
      have HSH := hidI hsh
      have HKE := hidI hk
      clear hr hbr hown hbl hown2 hbl2 hg2 hr2 hb2 hW2 hal hnh hsv hvn hvin he hem hes hsh hk hev
      go_wp2_with (at_builtin; refine wpList_append_lies _ rfl _ _ 58 rfl w.heap.size 40 i0 (.agg #[.string ⟨#[]⟩, .int .u8 0]) 2 24 Try.underlying58 hi hz0 hz1 hz2 rfl (by decide) _ _ _ rfl OWN.out ⟨W2.heap.size + 1, 0, none⟩ 1 1 [.string s, .int .u8 d] rfl rfl PN.out (by simp [Value.oneCell']) (by decide) H63.out H64.out H65.out _ rfl ?_; intro gq cp W5 h1 h2 _ _; have Z1 := hidI h1; have Z2 : Hid (World.grownBy ((W2.alloc (.cells #[.string s, .int .u8 d] 40)).alloc (.cells #[.string s, .int .u8 d] 40)) W5 (some g0)) := h2; clear h1 h2; refine Hid.out ?_)
      refine hidI ?_
      clear hrun qe
      go_wp2
      go_roundg (leftOf es (seen.push e.born)).size
      case measure => have := HSH.out; omega
      case rel =>
        have hl := HSH.out
        have hl2 := HL.out
        refine ⟨vis ++ [e], seen.push e.born, clock, gq, cp, ⟨rfl, by simp; omega⟩, ?_, ?_, ?_, ?_, ?_, ?_, Nat.le_refl _, ?_⟩
        · rw [Array.toList_push, HSV.out]; simp
        · rw [List.map_append, List.map_cons, List.map_nil, List.nodup_append]
          refine ⟨HVN.out, by simp, fun a ha b hb => ?_⟩
          simp at hb
          subst hb
          intro e1
          subst e1
          have := HES.out
          rw [← HSV.out, Array.mem_toList_iff, ← Array.contains_iff_mem] at ha
          rw [this] at ha
          cases ha
        · intro x hx
          rcases List.mem_append.1 hx with hx | hx
          · exact HVI.out x hx
          · rw [List.mem_singleton] at hx; subst hx; exact HEM.out
        · simp
        · have := Z1.out
          rw [flatE_snoc, kyOf_eq HKE.out, List.length_append]
          exact this
        · exact (Z2.out.block r (by simp; omega) (fun h => hg0r (Option.some.inj h).symm)).trans HRr.out
        · exact BEL.out.grown Z2.out (by simp; omega) (fun j ej => by cases ej; exact (OWN.out.lt g0 rfl).1)
end Go.Proofs.Ytbjoljokdjgbnab
/-
  A new table, and its first column declared.
-/
namespace Go.Proofs.Ytbjoljokdjgbnab
open Go.RowKit Go.MapKept
open Go.ChangeMaps (setBlock)
theorem cell_of_row {w : World} {r L : Nat} (h : w.heap[r]? = some (.cells (madeCells #[.int .i64 0] L) 51)) {j : Nat} (hj : j < L) : w.cell? ⟨r, j, none⟩ = some (.int .i64 0) ∧ w.frozen? ⟨r, j, none⟩ = false := by
  rw [made_cells] at h
  constructor
  · simp [World.cell?, h, hj]
  · simp [World.frozen?, h]
/-- The first column of a table that has none yet. -/
theorem declare_tab (tb mb : Nat) (n m : Int) (W : World) (s : ByteArray) (d q : Int) (c0 : W.cell? ⟨tb, 0, none⟩ = some (.int .i64 n)) (c1 : W.cell? ⟨tb, 1, none⟩ = some (.int .i64 m)) (c2 : W.cell? ⟨tb, 2, none⟩ = some (.map (some mb))) (hb : W.heap[mb]? = some (.map #[] 0)) (hmt : mb < tb)
    (hs : s.size ≤ maxLen) (hwd : Wf8 d) (hn : isName s = true) (hd : side d = true) (hq : kind q = true) (L : Nat) (hL : sideLen n m d = L) (hL30 : L ≤ 30) :
    Calls Try.prog 43 #[.pointer (some ⟨tb, 0, none⟩), ke s d, .int .u8 q] W fun e w' => e = .returned (.int .i64 0) ∧ ∃ b, Tab w' tb mb b s d q (List.replicate L 0) ∧ W.heap.size ≤ b ∧ Below mb W w' := by
  have htb := World.block_lt_of_cell? W _ c2
  simp only at htb
  refine (declare_ok tb mb n m s d q #[] 0 W c0 c1 c2 hb (by intro e he; simp at he) hs hwd (by intro e he; simp at he) L hL hL30 hn hd hq (by simp)).mono ?_
  rintro e w' ⟨rfl, w3, r, hb3, hr, hrow, rfl⟩
  have hsz3 := hb3.size
  have hrl : r < w3.heap.size := (Array.getElem?_eq_some_iff.1 hrow).1
  have hlen : (List.replicate L (0 : Int)).length = L := by simp
  refine ⟨rfl, r, ⟨(sb_cell (by omega)).trans ((hb3.cell (p := ⟨tb, 2, none⟩) (by simp only; omega)).trans c2), ?_, ?_, fun j hj => ?_, by omega, by omega⟩, by omega, ?_⟩
  · simp [setBlock]; omega
  · rw [hlen]
    obtain ⟨kl, hkey⟩ := keyOf_ke hs hwd
    obtain ⟨X, hX⟩ : ∃ X : MapEntry, X = { key := ke s d, val := .agg #[.int .u8 q, .slice (some ⟨r, 0, none⟩) L L], born := 0 } := ⟨_, rfl⟩
    have hv : X.val = .agg #[.int .u8 q, .slice (some ⟨r, 0, none⟩) L L] := by rw [hX]
    have hk : X.key = ke s d := by rw [hX]
    have hbn : X.born = 0 := by rw [hX]
    rw [← hX, ← hv]
    have hl : ((#[] : Array MapEntry).push X).toList = [X] := rfl
    exact look_some (j := 0) (clock := 1) (es := (#[] : Array MapEntry).push X) (e0 := X) (sb_same (by omega)) ⟨by rw [hl]; simp [hbn], by rw [hl]; simp, by rw [hl]; simp⟩ (by intro e he; rw [hl, List.mem_singleton] at he; subst he; rw [hk]; exact ⟨kl, hkey⟩) hs hwd (by rw [hl]; rfl) hk
  · rw [hlen] at hj
    have := cell_of_row hrow hj
    refine ⟨(sb_cell (by omega)).trans ?_, ?_⟩
    · rw [this.1]; simp [List.getD, hj]
    · rw [← this.2]; exact World.frozen?_of_block (by simp [setBlock, show mb ≠ r by omega])
  · exact (hb3.mono (by omega)).trans ⟨rfl, rfl, rfl, by simp [setBlock], fun k hk => by simp [setBlock, show mb ≠ k by omega]⟩
theorem declare_first (n m : Int) (w : World) (s : ByteArray) (d q : Int) (hs : s.size ≤ maxLen) (hwd : Wf8 d) (hn : isName s = true) (hd : side d = true) (hq : kind q = true) (L : Nat) (hL : sideLen n m d = L) (hL30 : L ≤ 30) :
    Calls Try.prog 43 #[.pointer (some ⟨w.heap.size + 1, 0, none⟩), ke s d, .int .u8 q] ((w.alloc (.map #[] 0)).alloc (.cells #[.int .i64 n, .int .i64 m, .map (some w.heap.size)] 95)) fun e w' => e = .returned (.int .i64 0) ∧ ∃ b, Tab w' (w.heap.size + 1) w.heap.size b s d q (List.replicate L 0) ∧ w.heap.size ≤ b ∧ Below w.heap.size w w' := by
  have c0 : ((w.alloc (.map #[] 0)).alloc (.cells #[.int .i64 n, .int .i64 m, .map (some w.heap.size)] 95)).cell? ⟨w.heap.size + 1, 0, none⟩ = some (.int .i64 n) := by go_simp
  have c1 : ((w.alloc (.map #[] 0)).alloc (.cells #[.int .i64 n, .int .i64 m, .map (some w.heap.size)] 95)).cell? ⟨w.heap.size + 1, 1, none⟩ = some (.int .i64 m) := by go_simp
  have c2 : ((w.alloc (.map #[] 0)).alloc (.cells #[.int .i64 n, .int .i64 m, .map (some w.heap.size)] 95)).cell? ⟨w.heap.size + 1, 2, none⟩ = some (.map (some w.heap.size)) := by go_simp
  have hb : ((w.alloc (.map #[] 0)).alloc (.cells #[.int .i64 n, .int .i64 m, .map (some w.heap.size)] 95)).heap[w.heap.size]? = some (.map #[] 0) := by
    rw [Below.heap_alloc _ _ _ (by simp)]
    exact (MapKept.heap_alloc w _).1
  have hB : Below w.heap.size w ((w.alloc (.map #[] 0)).alloc (.cells #[.int .i64 n, .int .i64 m, .map (some w.heap.size)] 95)) := by (repeat (first | exact Below.refl _ _ | assumption | refine Below.drew ?_ | refine Below.alloc ?_ (by first | omega | (simp; done) | (simp; omega)) _ | refine Below.setCell ?_ (by first | omega | (simp; done) | (simp; omega)) _))
  have hsz : ((w.alloc (.map #[] 0)).alloc (.cells #[.int .i64 n, .int .i64 m, .map (some w.heap.size)] 95)).heap.size = w.heap.size + 2 := by simp
  obtain ⟨W, hW⟩ : ∃ W, ((w.alloc (.map #[] 0)).alloc (.cells #[.int .i64 n, .int .i64 m, .map (some w.heap.size)] 95)) = W := ⟨_, rfl⟩
  rw [hW] at c0 c1 c2 hb hB hsz ⊢
  clear hW
  refine (declare_ok (w.heap.size + 1) w.heap.size n m s d q #[] 0 W c0 c1 c2 hb (by intro e he; simp at he) hs hwd (by intro e he; simp at he) L hL hL30 hn hd hq (by simp)).mono ?_
  rintro e w' ⟨rfl, w3, r, hb3, hr, hrow, rfl⟩
  have hsz3 := hb3.size
  have hrl : r < w3.heap.size := (Array.getElem?_eq_some_iff.1 hrow).1
  have hlen : (List.replicate L (0 : Int)).length = L := by simp
  refine ⟨rfl, r, ⟨(sb_cell (by omega)).trans ((hb3.cell (p := ⟨w.heap.size + 1, 2, none⟩) (by simp only; omega)).trans c2), ?_, ?_, fun j hj => ?_, by omega, by omega⟩, by omega, ?_⟩
  · simp [setBlock]; omega
  · rw [hlen]
    obtain ⟨kl, hkey⟩ := keyOf_ke hs hwd
    obtain ⟨X, hX⟩ : ∃ X : MapEntry, X = { key := ke s d, val := .agg #[.int .u8 q, .slice (some ⟨r, 0, none⟩) L L], born := 0 } := ⟨_, rfl⟩
    have hv : X.val = .agg #[.int .u8 q, .slice (some ⟨r, 0, none⟩) L L] := by rw [hX]
    have hk : X.key = ke s d := by rw [hX]
    have hbn : X.born = 0 := by rw [hX]
    rw [← hX, ← hv]
    have hl : ((#[] : Array MapEntry).push X).toList = [X] := rfl
    exact look_some (j := 0) (clock := 1) (es := (#[] : Array MapEntry).push X) (e0 := X) (sb_same (by omega)) ⟨by rw [hl]; simp [hbn], by rw [hl]; simp, by rw [hl]; simp⟩ (by intro e he; rw [hl, List.mem_singleton] at he; subst he; rw [hk]; exact ⟨kl, hkey⟩) hs hwd (by rw [hl]; rfl) hk
  · rw [hlen] at hj
    have := cell_of_row hrow hj
    refine ⟨(sb_cell (by omega)).trans ?_, ?_⟩
    · rw [this.1]; simp [List.getD, hj]
    · rw [← this.2]; exact World.frozen?_of_block (by simp [setBlock, show w.heap.size ≠ r by omega])
  · exact (hB.trans (hb3.mono (by omega))).trans ⟨rfl, rfl, rfl, by simp [setBlock], fun k hk => by simp [setBlock, show w.heap.size ≠ k by omega]⟩
end Go.Proofs.Ytbjoljokdjgbnab
/-
  What must be whatever is asked of columns: the laws' own live.
-/
namespace Go.Proofs.Ytbjoljokdjgbnab
open Go.RowKit Go.MapKept
open Go.ChangeMaps (setBlock)
abbrev sX : ByteArray := ⟨#[120]⟩
def X0 (r : Nat) : MapEntry := { key := ke sX 1, val := .agg #[.int .u8 1, .slice (some ⟨r, 0, none⟩) 1 1], born := 0 }
def X1 (r : Nat) : MapEntry := { key := ke sX 2, val := .agg #[.int .u8 2, .slice (some ⟨r, 0, none⟩) 2 2], born := 1 }
def esT (r0 r1 : Nat) : Array MapEntry := #[X0 r0, X1 r1]
theorem sX_name : isName sX = true := by decide
theorem esT_list (r0 r1 : Nat) : (esT r0 r1).toList = [X0 r0, X1 r1] := rfl
theorem X_ne (r0 r1 : Nat) : (X0 r0).key ≠ (X1 r1).key := by
  intro h
  have : ke sX 1 = ke sX 2 := h
  have := (ke_inj this).2
  omega
theorem esT_stamped (r0 r1 : Nat) : Stamped (esT r0 r1) 2 := by
  refine ⟨?_, ?_, ?_⟩
  · rw [esT_list]; intro x hx; simp at hx; rcases hx with rfl | rfl <;> simp [X0, X1]
  · rw [esT_list]; simp [X0, X1]
  · rw [esT_list]; simp only [List.map_cons, List.map_nil, List.nodup_cons, List.mem_singleton, List.not_mem_nil, not_false_eq_true, List.nodup_nil, and_true]; exact X_ne r0 r1
theorem esT_keyed (r0 r1 : Nat) : Keyed (esT r0 r1) := by
  intro e he
  rw [esT_list] at he
  simp at he
  rcases he with rfl | rfl
  · exact keyOf_ke (s := sX) (d := 1) (by decide) (by decide)
  · exact keyOf_ke (s := sX) (d := 2) (by decide) (by decide)
/-- The two columns as they stand; both keys in blocks of their own. -/
def Two (w : World) (tb mb kb r0 r1 : Nat) (z : Int) : Prop :=
  w.cell? ⟨tb, 2, none⟩ = some (.map (some mb)) ∧ w.heap[mb]? = some (.map (esT r0 r1) 2) ∧ w.cell? ⟨r0, 0, none⟩ = some (.int .i64 z) ∧ w.frozen? ⟨r0, 0, none⟩ = false ∧ (∀ j, j < 2 → w.cell? ⟨r1, j, none⟩ = some (.int .i64 0)) ∧
    (w.cell? ⟨kb, 0, none⟩ = some (.string sX) ∧ w.cell? ⟨kb, 1, none⟩ = some (.int .u8 1) ∧ w.cell? ⟨kb + 1, 0, none⟩ = some (.string sX) ∧ w.cell? ⟨kb + 1, 1, none⟩ = some (.int .u8 2)) ∧ r0 ≠ tb ∧ r0 ≠ mb ∧ r0 ≠ r1 ∧ r0 ≠ kb ∧ r0 ≠ kb + 1
theorem Two.below {w w' : World} {tb mb kb r0 r1 : Nat} {z : Int} (h : Two w tb mb kb r0 r1 z) (hb : Below w.heap.size w w') : Two w' tb mb kb r0 r1 z := by
  obtain ⟨h1, h2, h3, h4, h5, ⟨h6, h7, h8, h9⟩, h10⟩ := h
  have k : ∀ {p : Addr} {v : Value}, w.cell? p = some v → w'.cell? p = some v := fun {p v} hc => (hb.cell (World.block_lt_of_cell? w _ hc)).trans hc
  exact ⟨k h1, (hb.block mb (Array.getElem?_eq_some_iff.1 h2).1).trans h2, k h3, (hb.frozen (p := ⟨r0, 0, none⟩) (World.block_lt_of_cell? w _ h3)).trans h4, fun j hj => k (h5 j hj), ⟨k h6, k h7, k h8, k h9⟩, h10⟩
theorem Two.set {w : World} {tb mb kb r0 r1 : Nat} {z : Int} (h : Two w tb mb kb r0 r1 z) (x : Int) : Two (w.setCell ⟨r0, 0, none⟩ (.int .i64 x)) tb mb kb r0 r1 x := by
  obtain ⟨h1, h2, h3, h4, h5, ⟨h6, h7, h8, h9⟩, n1, n2, n3, n4, n5⟩ := h
  have k : ∀ {b i : Nat} {v : Value}, r0 ≠ b → w.cell? ⟨b, i, none⟩ = some v → (w.setCell ⟨r0, 0, none⟩ (.int .i64 x)).cell? ⟨b, i, none⟩ = some v := fun {b i v} hne hc => (World.cell?_setCell_far w ⟨r0, 0, none⟩ ⟨b, i, none⟩ _ hne).trans hc
  exact ⟨k n1 h1, (Below.heap_setCell w ⟨r0, 0, none⟩ _ mb (Ne.symm n2)).trans h2, World.cell?_setCell_same _ _ _ h3, by rw [World.frozen?_setCell]; exact h4, fun j hj => k n3 (h5 j hj), ⟨k n4 h6, k n4 h7, k n5 h8, k n5 h9⟩, n1, n2, n3, n4, n5⟩
theorem Two.look0 {w : World} {tb mb kb r0 r1 : Nat} {z : Int} (h : Two w tb mb kb r0 r1 z) : Look w mb sX 1 (.agg #[.int .u8 1, .slice (some ⟨r0, 0, none⟩) 1 1]) true :=
  look_some (j := 0) (e0 := X0 r0) h.2.1 (esT_stamped r0 r1) (esT_keyed r0 r1) (by decide) (by decide) rfl rfl
theorem Two.look1 {w : World} {tb mb kb r0 r1 : Nat} {z : Int} (h : Two w tb mb kb r0 r1 z) : Look w mb sX 2 (.agg #[.int .u8 2, .slice (some ⟨r1, 0, none⟩) 2 2]) true :=
  look_some (j := 1) (e0 := X1 r1) h.2.1 (esT_stamped r0 r1) (esT_keyed r0 r1) (by decide) (by decide) rfl rfl
theorem Two.lt {w : World} {tb mb kb r0 r1 : Nat} {z : Int} (h : Two w tb mb kb r0 r1 z) : mb < w.heap.size := (Array.getElem?_eq_some_iff.1 h.2.1).1
/-- A declaration, by what stands behind it: all blocks but the map's are as they were. -/
theorem declare_look (tb mb : Nat) (n m : Int) (s : ByteArray) (d q : Int) (es : Array MapEntry) (clock : Nat) (w : World) (c0 : w.cell? ⟨tb, 0, none⟩ = some (.int .i64 n)) (c1 : w.cell? ⟨tb, 1, none⟩ = some (.int .i64 m)) (c2 : w.cell? ⟨tb, 2, none⟩ = some (.map (some mb)))
    (hb : w.heap[mb]? = some (.map es clock)) (hky : Keyed es) (hs : s.size ≤ maxLen) (hwd : Wf8 d) (hne : ∀ e ∈ es.toList, e.key ≠ ke s d) (L : Nat) (hL : sideLen n m d = L) (hL30 : L ≤ 30) (hn : isName s = true) (hd : side d = true) (hq : kind q = true) (h24 : es.size < 24) :
    Calls Try.prog 43 #[.pointer (some ⟨tb, 0, none⟩), ke s d, .int .u8 q] w fun e w' => e = .returned (.int .i64 0) ∧ ∃ r, w'.heap[mb]? = some (.map (es.push { key := ke s d, val := .agg #[.int .u8 q, .slice (some ⟨r, 0, none⟩) L L], born := clock }) (clock + 1)) ∧ w.heap.size ≤ r ∧ (∀ j, j < L → w'.cell? ⟨r, j, none⟩ = some (.int .i64 0) ∧ w'.frozen? ⟨r, j, none⟩ = false) ∧ (∀ k, k < w.heap.size → k ≠ mb → w'.heap[k]? = w.heap[k]?) ∧ Below mb w w' := by
  have hmb : mb < w.heap.size := (Array.getElem?_eq_some_iff.1 hb).1
  refine (declare_ok tb mb n m s d q es clock w c0 c1 c2 hb hky hs hwd hne L hL hL30 hn hd hq h24).mono ?_
  rintro e w' ⟨rfl, w3, r, hb3, hr, hrow, rfl⟩
  have hsz3 := hb3.size
  refine ⟨rfl, r, sb_same (by omega), hr, fun j hj => ?_, fun k hk hne => ?_, ?_⟩
  · have := cell_of_row hrow hj
    refine ⟨(sb_cell (by omega)).trans this.1, ?_⟩
    rw [← this.2]; exact World.frozen?_of_block (by simp [setBlock, show mb ≠ r by omega])
  · rw [show (setBlock w3 mb (.map (es.push { key := ke s d, val := .agg #[.int .u8 q, .slice (some ⟨r, 0, none⟩) L L], born := clock }) (clock + 1))).heap[k]? = w3.heap[k]? by simp [setBlock, Ne.symm hne]]
    exact hb3.block k hk
  · exact (hb3.mono (by omega)).trans ⟨rfl, rfl, rfl, by simp [setBlock], fun k hk => by simp [setBlock, show mb ≠ k by omega]⟩
set_option maxRecDepth 100000 in
set_option maxHeartbeats 4000000 in
theorem liveC_any (w : World) : Calls Try.prog 17 #[] w fun e w' => e = .returned (.bool true) ∧ Below w.heap.size w w' := by
  have CC := hidI (cnew_ok 2 1 w ⟨by decide, by decide, by decide, by decide⟩)
  go_enter Try.func17, Try.ntmps17
  go_wp2_with (go_at_call 40; refine Calls.mono CC.out ?_; rintro e w2 ⟨rfl, rfl⟩; refine Hid.out ?_)
  refine hidI ?_
  obtain ⟨w2, hw2⟩ : ∃ w2, w2 = (w.alloc (.map #[] 0)).alloc (.cells #[.int .i64 2, .int .i64 1, .map (some w.heap.size)] 95) := ⟨_, rfl⟩
  rw [← hw2]
  have c0 : w2.cell? ⟨w.heap.size + 1, 0, none⟩ = some (.int .i64 2) := by rw [hw2]; go_simp
  have c1 : w2.cell? ⟨w.heap.size + 1, 1, none⟩ = some (.int .i64 1) := by rw [hw2]; go_simp
  have c2 : w2.cell? ⟨w.heap.size + 1, 2, none⟩ = some (.map (some w.heap.size)) := by rw [hw2]; go_simp
  have hmb : w2.heap[w.heap.size]? = some (.map #[] 0) := by
    rw [hw2, Below.heap_alloc _ _ _ (by simp)]
    exact (MapKept.heap_alloc w _).1
  have hB2 : Below w.heap.size w w2 := by rw [hw2]; exact ((Below.refl _ w).alloc (Nat.le_refl _) _).alloc (by simp) _
  have hsz2 : w2.heap.size = w.heap.size + 2 := by rw [hw2]; simp
  clear hw2 CC
  have k0 : ((w2.alloc (.cells #[.string sX, .int .u8 1] 40)).alloc (.cells #[.string sX, .int .u8 2] 40)).cell? ⟨w2.heap.size, 0, none⟩ = some (.string sX) := by go_simp
  have k1 : ((w2.alloc (.cells #[.string sX, .int .u8 1] 40)).alloc (.cells #[.string sX, .int .u8 2] 40)).cell? ⟨w2.heap.size, 1, none⟩ = some (.int .u8 1) := by go_simp
  have k2 : ((w2.alloc (.cells #[.string sX, .int .u8 1] 40)).alloc (.cells #[.string sX, .int .u8 2] 40)).cell? ⟨w2.heap.size + 1, 0, none⟩ = some (.string sX) := by go_simp
  have k3 : ((w2.alloc (.cells #[.string sX, .int .u8 1] 40)).alloc (.cells #[.string sX, .int .u8 2] 40)).cell? ⟨w2.heap.size + 1, 1, none⟩ = some (.int .u8 2) := by go_simp
  have HB3 : Hid (Below w.heap.size w ((w2.alloc (.cells #[.string sX, .int .u8 1] 40)).alloc (.cells #[.string sX, .int .u8 2] 40))) := (hB2.alloc (by omega) _).alloc (by simp; omega) _
  have d0 := cell_al (.cells #[.string sX, .int .u8 2] 40) (cell_al (.cells #[.string sX, .int .u8 1] 40) c0)
  have d1 := cell_al (.cells #[.string sX, .int .u8 2] 40) (cell_al (.cells #[.string sX, .int .u8 1] 40) c1)
  have d2 := cell_al (.cells #[.string sX, .int .u8 2] 40) (cell_al (.cells #[.string sX, .int .u8 1] 40) c2)
  have dm : ((w2.alloc (.cells #[.string sX, .int .u8 1] 40)).alloc (.cells #[.string sX, .int .u8 2] 40)).heap[w.heap.size]? = some (.map #[] 0) := (Below.heap_alloc _ _ _ (by simp; omega)).trans ((Below.heap_alloc _ _ _ (by omega)).trans hmb)
  have hs3 : ((w2.alloc (.cells #[.string sX, .int .u8 1] 40)).alloc (.cells #[.string sX, .int .u8 2] 40)).heap.size = w.heap.size + 4 := by simp; omega
  have C1 := hidI (declare_look (w.heap.size + 1) w.heap.size 2 1 sX 1 1 #[] 0 _ d0 d1 d2 dm (by intro e he; simp at he) (by decide) (by decide) (by intro e he; simp at he) 1 rfl (by omega) sX_name (by decide) (by decide) (by simp))
  rw [hsz2] at k0 k1 k2 k3
  have HK := hidI (And.intro k0 (And.intro k1 (And.intro k2 k3)))
  have HD := hidI (And.intro d0 (And.intro d1 d2))
  have HS3 := hidI hs3
  clear c0 c1 c2 hmb hB2 k0 k1 k2 k3 d0 d1 d2 dm hs3
  go_wp2_with (go_at_call 43; refine Calls.mono C1.out ?_; rintro e w4 ⟨rfl, r0, hm4, hr0, hq0, hk4, hb4⟩; refine Hid.out ?_)
  refine hidI ?_
  clear C1
  obtain ⟨w3, hw3⟩ : ∃ w3, (w2.alloc (.cells #[.string sX, .int .u8 1] 40)).alloc (.cells #[.string sX, .int .u8 2] 40) = w3 := ⟨_, rfl⟩
  rw [hw3] at HB3 HK HD HS3 hr0 hk4 hb4
  clear hw3 hsz2
  have hs3 : w3.heap.size = w.heap.size + 4 := HS3.out
  have kc4 : ∀ {b i : Nat} {v : Value}, b ≠ w.heap.size → w3.cell? ⟨b, i, none⟩ = some v → w4.cell? ⟨b, i, none⟩ = some v := fun {b i v} hne hc => (World.cell?_of_block (hk4 b (World.block_lt_of_cell? w3 _ hc) hne)).trans hc
  obtain ⟨j0, j1, j2, j3⟩ := HK.out
  obtain ⟨e0, e1, e2⟩ := HD.out
  have k0 := kc4 (by omega) j0
  have k1 := kc4 (by omega) j1
  have k2 := kc4 (by omega) j2
  have k3 := kc4 (by omega) j3
  have d0 := kc4 (by omega) e0
  have d1 := kc4 (by omega) e1
  have d2 := kc4 (by omega) e2
  have hr0l : r0 < w4.heap.size := World.block_lt_of_cell? w4 _ (hq0 0 (by omega)).1
  have hs4 := hb4.size
  have C2 := hidI (declare_look (w.heap.size + 1) w.heap.size 2 1 sX 2 2 _ _ w4 d0 d1 d2 hm4 (by
      intro e he
      rw [show ((#[] : Array MapEntry).push { key := ke sX 1, val := .agg #[.int .u8 1, .slice (some ⟨r0, 0, none⟩) 1 1], born := 0 }).toList = [{ key := ke sX 1, val := .agg #[.int .u8 1, .slice (some ⟨r0, 0, none⟩) 1 1], born := 0 }] from rfl, List.mem_singleton] at he
      subst he
      exact keyOf_ke (s := sX) (d := 1) (by decide) (by decide)) (by decide) (by decide) (by
      intro e he
      rw [show ((#[] : Array MapEntry).push { key := ke sX 1, val := .agg #[.int .u8 1, .slice (some ⟨r0, 0, none⟩) 1 1], born := 0 }).toList = [{ key := ke sX 1, val := .agg #[.int .u8 1, .slice (some ⟨r0, 0, none⟩) 1 1], born := 0 }] from rfl, List.mem_singleton] at he
      subst he
      intro h
      have := (ke_inj h).2
      omega) 2 rfl (by omega) sX_name (by decide) (by decide) (by simp))
  have HB4 : Hid (Below w.heap.size w w4) := HB3.out.trans hb4
  have HQ0 := hidI (hq0 0 (by omega))
  have HK4 := hidI (And.intro k0 (And.intro k1 (And.intro k2 k3)))
  have HD4 := hidI d2
  clear HB3 HK HD HS3 hk4 hb4 hq0 hm4 j0 j1 j2 j3 e0 e1 e2 k0 k1 d0 d1 d2 kc4
  go_wp2_with (go_at_call 43; refine Calls.mono C2.out ?_; rintro e w5 ⟨rfl, r1, hm5, hr1, hq1, hk5, hb5⟩; refine Hid.out ?_)
  refine hidI ?_
  clear C2 k2 k3
  have kc5 : ∀ {b i : Nat} {v : Value}, b ≠ w.heap.size → w4.cell? ⟨b, i, none⟩ = some v → w5.cell? ⟨b, i, none⟩ = some v := fun {b i v} hne hc => (World.cell?_of_block (hk5 b (World.block_lt_of_cell? w4 _ hc) hne)).trans hc
  have T5 : Hid (Two w5 (w.heap.size + 1) w.heap.size (w.heap.size + 2) r0 r1 0) := by
    obtain ⟨k0, k1, k2, k3⟩ := HK4.out
    have hr0n : r0 ≠ w.heap.size := by omega
    refine ⟨kc5 (by omega) HD4.out, hm5, kc5 hr0n HQ0.out.1, ?_, fun j hj => (hq1 j hj).1, ⟨kc5 (by omega) k0, kc5 (by omega) k1, kc5 (by omega) k2, kc5 (by omega) k3⟩, by omega, by omega, by omega, by omega, by omega⟩
    rw [← HQ0.out.2]
    exact World.frozen?_of_block (hk5 r0 hr0l hr0n)
  have HB5 : Hid (Below w.heap.size w w5) := HB4.out.trans hb5
  have hr0w : w.heap.size ≤ r0 := by omega
  clear hm5 hr1 hq1 hk5 hb5 kc5 HK4 HD4 HQ0 HB4 hr0l hs4 hr0 hs3
  have C3 : Hid (Calls Try.prog 22 #[.pointer (some ⟨w.heap.size + 1, 0, none⟩), ke sX 1, .int .i64 0, .int .i64 7] w5 fun e w' => e = .returned (.int .i64 0) ∧ Two w' (w.heap.size + 1) w.heap.size (w.heap.size + 2) r0 r1 7 ∧ Below w.heap.size w w') := by
    refine (set_fit (w.heap.size + 1) w.heap.size sX 1 1 7 0 r0 0 1 1 0 w5 T5.out.1 T5.out.lt T5.out.look0 (by omega) (by decide) T5.out.2.2.1 T5.out.2.2.2.1).mono ?_
    rintro e w' ⟨rfl, wa, hba, rfl⟩
    exact ⟨rfl, (T5.out.below hba).set 7, (HB5.out.trans (hba.mono HB5.out.size)).setCell (p := ⟨r0, 0, none⟩) hr0w _⟩
  have g0 := T5.out.2.2.2.2.2.1.1
  have g1 := T5.out.2.2.2.2.2.1.2.1
  go_wp2_with (go_at_call 22; refine Calls.mono C3.out ?_; rintro e w6 ⟨rfl, ht6, hb6⟩; refine Hid.out ?_)
  refine hidI ?_
  have T6 := hidI ht6
  have HB6 := hidI hb6
  have h2 := ht6.2.2.2.2.2.1.2.2.1
  have h3 := ht6.2.2.2.2.2.1.2.2.2
  have C4 : Hid (Calls Try.prog 22 #[.pointer (some ⟨w.heap.size + 1, 0, none⟩), ke sX 2, .int .i64 1, .int .i64 2] w6 fun e w' => e = .returned (.int .i64 3) ∧ Below w6.heap.size w6 w') := set_unfit (w.heap.size + 1) w.heap.size sX 2 2 2 r1 0 2 2 1 w6 ht6.1 ht6.lt ht6.look1 (by omega) (by decide)
  clear C3 g0 g1 ht6 hb6 T5 HB5
  go_wp2_with (go_at_call 22; refine Calls.mono C4.out ?_; rintro e w7 ⟨rfl, hb7⟩; refine Hid.out ?_)
  refine hidI ?_
  have T7 := hidI (T6.out.below hb7)
  have HB7 := hidI (HB6.out.trans (hb7.mono HB6.out.size))
  have C5 : Hid (Calls Try.prog 23 #[.pointer (some ⟨w.heap.size + 1, 0, none⟩), ke sX 1, .int .i64 0] w7 fun e w' => e = .returned (.tuple #[.int .i64 7, .int .i64 0]) ∧ Below w7.heap.size w7 w') := get_some (w.heap.size + 1) w.heap.size sX 1 1 r0 0 1 1 0 7 w7 T7.out.1 T7.out.lt T7.out.look0 (by omega) T7.out.2.2.1
  have g0 := T7.out.2.2.2.2.2.1.1
  have g1 := T7.out.2.2.2.2.2.1.2.1
  clear C4 hb7 h2 h3 T6 HB6
  go_wp2_with (go_at_call 23; refine Calls.mono C5.out ?_; rintro e w8 ⟨rfl, hb8⟩; refine Hid.out ?_)
  refine hidI ?_
  have T8 := hidI (T7.out.below hb8)
  have HB8 := hidI (HB7.out.trans (hb8.mono HB7.out.size))
  have C6 : Hid (Calls Try.prog 25 #[.pointer (some ⟨w.heap.size + 1, 0, none⟩)] w8 fun e w' => ∃ g cap, e = .returned (.slice (some ⟨g, 0, none⟩) 2 cap) ∧ Below w8.heap.size w8 w') := by
    refine (keys_any (w.heap.size + 1) w.heap.size (esT r0 r1) 2 w8 T8.out.1 T8.out.2.1 (esT_stamped r0 r1) (fun e he => ?_) (by simp [esT])).mono ?_
    · rw [esT_list] at he
      simp at he
      rcases he with rfl | rfl
      · exact ⟨sX, 1, rfl⟩
      · exact ⟨sX, 2, rfl⟩
    · rintro e w' ⟨g, cap, ds, rfl, _, _, _, _, _, hb⟩
      exact ⟨g, cap, rfl, hb⟩
  clear C5 hb8 g0 g1 T7 HB7
  go_wp2_with (go_at_call 25; refine Calls.mono C6.out ?_; rintro e w9 ⟨kg, kcap, rfl, hb9⟩; refine Hid.out ?_)
  refine hidI ?_
  have T9 := hidI (T8.out.below hb9)
  have HB9 := hidI (HB8.out.trans (hb9.mono HB8.out.size))
  have h2 := T9.out.2.2.2.2.2.1.2.2.1
  have h3 := T9.out.2.2.2.2.2.1.2.2.2
  have C7 : Hid (Calls Try.prog 26 #[.pointer (some ⟨w.heap.size + 1, 0, none⟩), ke sX 2] w9 fun e w' => ∃ u, e = .returned u ∧ Sees w' u [0, 0] ∧ Below w9.heap.size w9 w') := by
    refine list_some (w.heap.size + 1) w.heap.size sX 2 2 ⟨r1, 0, none⟩ 2 [0, 0] w9 T9.out.1 T9.out.lt T9.out.look1 (by simp) ⟨some ⟨r1, 0, none⟩, 2, rfl, .inr ⟨r1, 0, rfl, fun j hj => ?_⟩⟩
    have hj2 : j < 2 := by simpa using hj
    rw [Nat.zero_add, T9.out.2.2.2.2.1 j hj2]
    have : j = 0 ∨ j = 1 := by omega
    rcases this with rfl | rfl <;> rfl
  clear C6 hb9 T8 HB8
  go_wp2_with (go_at_call 26; refine Calls.mono C7.out ?_; rintro e w10 ⟨lu, rfl, hs10, hb10⟩; refine Hid.out ?_)
  refine hidI ?_
  have HB10 := hidI (HB9.out.trans (hb10.mono HB9.out.size))
  obtain ⟨la, lc, rfl, _⟩ := hs10
  simp only [List.length_cons, List.length_nil]
  clear C7 hb10 T9 HB9 h2 h3
  go_wp2
  go_ret
  exact ⟨rfl, HB10.out⟩
end Go.Proofs.Ytbjoljokdjgbnab
