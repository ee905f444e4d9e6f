/-
  The program's Encode.
-/
import Derived.Test.YtbjoljokdjgbnabEncRM
import Derived.Test.YtbjoljokdjgbnabGG
import Derived.Test.YtbjoljokdjgbnabFork7M
import Derived.Deep.RegionHeld3
namespace Go.Proofs.Ytbjoljokdjgbnab
open Go.RowKit Go.Deep Go.MapKept
theorem sorted_find {os : List One} (h : Sorted os) {i : Nat} {o : One} (ho : os[i]? = some o) : os.find? (One.at o.name o.side) = some o := by
  cases hf : os.find? (One.at o.name o.side) with
  | none => exact absurd rfl (findO_none hf o (List.mem_of_getElem? ho))
  | some x =>
    have hx := List.find?_some hf
    unfold One.at at hx
    simp only [Bool.and_eq_true, decide_eq_true_eq] at hx
    obtain ⟨j, hj⟩ := List.getElem?_of_mem (List.mem_of_find?_eq_some hf)
    have := h.apart hj ho (by unfold One.ky; rw [hx.1, hx.2])
    subst this
    rw [ho] at hj
    exact hj.symm
theorem agree_at {cs : List Column} {os : List One} (h : Agree cs os) (hap : apartK cs) {i : Nat} {o : One} (ho : os[i]? = some o) : kindE cs o.name o.side = o.kind ∧ listE cs o.name o.side = o.vals := by
  have h1 := h.find hap o.name o.side
  rw [sorted_find h.2 ho] at h1
  obtain ⟨c, hc, he⟩ := Option.map_eq_some_iff.1 h1.symm
  unfold kindE listE
  rw [hc]
  rw [← he]
  exact ⟨rfl, rfl⟩
theorem keysA {w : World} {tb mb : Nat} {n m : Int} {cs : List Column} {os : List One} (h : Whole w tb mb n m cs) (hA : Agree cs os) :
    Calls Try.prog 25 #[.pointer (some ⟨tb, 0, none⟩)] w fun e w' => ∃ v, e = .returned v ∧ SeesK w' v (os.map One.ky) ∧ RowKit.Below w.heap.size w w' := by
  refine (whole_keys h).mono ?_
  rintro e w' ⟨g, cap, ds, rfl, hsz, hp, hs, hH, _, hb⟩
  have hks : ds.toList = os.map One.ky := hA.keys hp (by
    rw [List.pairwise_iff_getElem]
    intro i j hi hj hij
    have := hs i j (Nat.zero_le _) hij (by simpa using hj)
    rw [getElem!_pos ds j (by simpa using hj), getElem!_pos ds i (by simpa using hi)] at this
    simpa using this)
  refine ⟨_, rfl, ?_, hb⟩
  have := seesK_holds (cap := cap) hH
  rw [hks] at this
  rw [← hsz, show ds.size = ds.toList.length by simp, hks]
  exact this
/-- What a column of a whole table is like. -/
theorem Whole.one {w : World} {tb mb : Nat} {n m : Int} {cs : List Column} {os : List One} (h : Whole w tb mb n m cs) (hA : Agree cs os) : ∀ o ∈ os, o.name.size ≤ 8 ∧ o.vals.length ≤ 30 ∧ Wf8 o.side ∧ isName o.name = true ∧ side o.side = true ∧ kind o.kind = true ∧ (o.vals.length : Int) = sideLen n m o.side ∧ o.vals.all (fit o.kind) = true := by
  intro o ho
  obtain ⟨c, hc, rfl⟩ := List.mem_map.1 (hA.1.mem_iff.1 ho)
  obtain ⟨⟨q1, _, q3, q4, q5, q6, q7, q8⟩, _⟩ := h.2.2.2.2.1 c hc
  exact ⟨(name_size q1).2, q7, q3, q1, q4, q5, q6, q8⟩
theorem own_base {w : World} {b b' e size n : Nat} {v : Value} {xs : List Value} (h : w.ownsRow b e size v n xs) (hb : b' ≤ b) : w.ownsRow b' e size v n xs := by
  refine ⟨h.1, ?_⟩
  rcases h.2 with h2 | ⟨g, cap, cur, e1, e2, e3⟩
  · exact .inl h2
  · exact .inr ⟨g, cap, cur, e1, Nat.le_trans hb e2, e3⟩
theorem listO_some (tb mb : Nat) (s : ByteArray) (d : Int) (k : Int) (a : Addr) (c : Nat) (zs : List Int) (w : World) (c2 : w.cell? ⟨tb, 2, none⟩ = some (.map (some mb))) (hm : mb < w.heap.size) (hk : Look w mb s d (.agg #[.int .u8 k, .slice (some a) zs.length c]) true) (hl : zs.length ≤ 100000) (hz : Sees w (.slice (some a) zs.length c) zs) :
    Calls Try.prog 26 #[.pointer (some ⟨tb, 0, none⟩), ke s d] w fun e w' => ∃ u, e = .returned u ∧ w'.ownsRow w.heap.size 51 1 u zs.length (zs.map (Value.int .i64)) ∧ Below w.heap.size w w' := by
  have htb := World.block_lt_of_cell? w _ c2
  simp only at htb
  have D : Hid (∀ u, Below w.heap.size w u → Calls Try.prog 51 #[.slice (some a) zs.length c] u fun e w' => ∃ v, e = .returned v ∧ w'.ownsRow w.heap.size 51 1 v zs.length (zs.map (Value.int .i64)) ∧ Below u.heap.size u w') := hidI fun u hu => (cloneW_own a c zs u hl (hz.below hu (Nat.le_refl _))).mono (by rintro e w' ⟨v, h1, h2, h3⟩; exact ⟨v, h1, own_base h2 hu.size, h3⟩)
  obtain ⟨l, hl2⟩ : ∃ l, zs.length = l := ⟨_, rfl⟩
  rw [hl2] at hk D
  have C : Hid (∀ u, Below w.heap.size w u → Calls Try.prog 60 #[.pointer (some ⟨tb, 0, none⟩), ke s d] u fun e w' => e = .returned (.tuple #[.agg #[.int .u8 k, .slice (some a) l c], .int .i64 0]) ∧ Below u.heap.size u w') :=
    hidI fun u hu => find_some tb mb s d k _ l c u ((hu.cell (p := ⟨tb, 2, none⟩) htb).trans c2) (Nat.lt_of_lt_of_le hm hu.size) fun v hv => hk v (hv.trans (hu.block mb hm))
  clear hk c2 hz
  go_enter Try.func26, Try.ntmps26
  go_wp2_with (go_at_call 60; refine Calls.mono (C.out _ (by (repeat (first | exact Below.refl _ _ | assumption | refine Below.drew ?_ | refine Below.alloc ?_ (by first | omega | (simp; done) | (simp; omega)) _ | refine Below.setCell ?_ (by first | omega | (simp; done) | (simp; omega)) _)))) ?_; rintro e w1 ⟨rfl, hb1⟩; refine Hid.out ?_)
  refine hidI ?_
  have hsz := hb1.size
  simp only [World.size_alloc] at hsz
  have HB : Hid (Below w.heap.size w w1) := hidI (Below.trans (by (repeat (first | exact Below.refl _ _ | assumption | refine Below.drew ?_ | refine Below.alloc ?_ (by first | omega | (simp; done) | (simp; omega)) _ | refine Below.setCell ?_ (by first | omega | (simp; done) | (simp; omega)) _))) (hb1.mono (by simp)))
  clear hb1 C
  have HB2 : Hid (Below w.heap.size w (w1.alloc (.cells #[.int .u8 k, .slice (some a) l c] 97))) := hidI (by have := HB.out; (repeat (first | exact Below.refl _ _ | assumption | refine Below.drew ?_ | refine Below.alloc ?_ (by first | omega | (simp; done) | (simp; omega)) _ | refine Below.setCell ?_ (by first | omega | (simp; done) | (simp; omega)) _)))
  go_wp2_with (go_at_call 51; refine Calls.mono (D.out _ HB2.out) ?_; rintro e w2 ⟨v, rfl, hv, hb2⟩)
  go_ret
  exact ⟨_, rfl, by rw [hl2]; exact hv, HB2.out.trans (hb2.mono HB2.out.size)⟩
theorem listO_any {tb mb : Nat} {n m : Int} {cs : List Column} {w : World} (h : Whole w tb mb n m cs) {s : ByteArray} {d : Int} (hs : s.size ≤ maxLen) (hd : Wf8 d) :
    Calls Try.prog 26 #[.pointer (some ⟨tb, 0, none⟩), ke s d] w fun e w' => ∃ u, e = .returned u ∧ w'.ownsRow w.heap.size 51 1 u (listE cs s d).length ((listE cs s d).map (Value.int .i64)) ∧ Below w.heap.size w w' := by
  have hmb := (Array.getElem?_eq_some_iff.1 h.2.2.2.1).1
  rcases col_cases cs s d with ⟨k, c, hc, rfl, rfl, hf⟩ | ⟨hno, hf⟩
  · rw [show listE cs c.name c.side = c.vals by simp [listE, hf]]
    have q := h.2.2.2.2.1 c (List.mem_of_getElem? hc)
    have q7 := q.1.2.2.2.2.2.2.1
    exact listO_some tb mb _ _ c.kind _ _ c.vals w h.2.2.1 hmb (h.look_some hc) (by omega) ⟨_, _, rfl, .inr ⟨_, _, rfl, fun j hj => by rw [Nat.zero_add]; exact (q.2.2.2.2 j hj).1⟩⟩
  · rw [show listE cs s d = [] by simp [listE, hf]]
    refine (list_none tb mb s d w h.2.2.1 hmb (h.look_none hs hd hno)).mono ?_
    rintro e w' ⟨rfl, hb⟩
    exact ⟨_, rfl, World.ownsRow_nil _ _ _ _, hb⟩
/-- What a row of numbers of one's own tells, wherever its block is as it was. -/
theorem own_words {w : World} {base : Nat} {v : Value} {zs : List Int} (h : w.ownsRow base 51 1 v zs.length (zs.map (Value.int .i64))) : ∃ (a : Option Addr) (cap : Nat) (X : List (Nat × Obj)), v = .slice a zs.length cap ∧ (∀ p ∈ X, w.heap[p.1]? = some p.2 ∧ notB p.2) ∧ ∀ W : World, (∀ p ∈ X, W.heap[p.1]? = some p.2) → ∀ (k : Nat) (z : Int), zs[k]? = some z → ∃ g, a = some ⟨g, 0, none⟩ ∧ W.cell? ⟨g, k, none⟩ = some (.int .i64 z) := by
  rcases h.2 with ⟨rfl, h0⟩ | ⟨g, cap, cur, rfl, _, hg, _, _, _, ht⟩
  · refine ⟨none, 0, [], by rw [h0], by simp, fun W _ k z hk => ?_⟩
    have : zs = [] := List.length_eq_zero_iff.1 h0
    rw [this] at hk
    simp at hk
  · refine ⟨_, cap, [(g, .cells cur 51)], rfl, ?_, fun W hW k z hk => ⟨g, rfl, ?_⟩⟩
    · intro p hp
      obtain rfl := List.mem_singleton.1 hp
      exact ⟨hg, notB_cells _ _ _ (by decide)⟩
    · refine obj_cell (hW _ (List.mem_singleton.2 rfl)) ?_
      have h1 : (zs.map (Value.int .i64))[k]? = some (.int .i64 z) := by simp [hk]
      rw [← ht, List.getElem?_take] at h1
      split at h1
      · simpa using h1
      · cases h1
theorem Keep.more {w0 W : World} {v : Value} {pre : List Int} {X Y : List (Nat × Obj)} (h : Keep w0 W v pre X) (hY : ∀ p ∈ Y, W.heap[p.1]? = some p.2 ∧ notB p.2) : Keep w0 W v pre (Y ++ X) := ⟨h.own, h.low, fun p hp => by
  rcases List.mem_append.1 hp with hp | hp
  · exact hY p hp
  · exact h.obj p hp⟩
theorem sees_by8 {W : World} {b8 : Nat} {z : Int} {cs : Array Value} (h : W.heap[b8]? = some (.cells cs 114 (0, 0))) (hc : by8 z = cs) : SeesC W (.slice (some ⟨b8, 0, none⟩) 8 8) 8 1 (cellsB (encW z)) := by
  refine ⟨rfl, _, 8, rfl, .inr ⟨b8, 0, rfl, fun j c hj => ?_⟩⟩
  rw [Nat.zero_add]
  refine obj_cell h ?_
  rw [← hc, by8_enc]
  simpa [cellsB] using hj
abbrev keyObj (s : ByteArray) (d : Int) : Obj := .cells #[.string s, .int .u8 d] 40
set_option maxRecDepth 100000 in
set_option maxHeartbeats 1000000 in
theorem pencode_any (tb mb : Nat) (n m : Int) (cs : List Column) (os : List One) (w : World) (h : Whole w tb mb n m cs) (hA : Agree cs os) :
    Calls Try.prog 29 #[.pointer (some ⟨tb, 0, none⟩)] w (EncPost w (encT os)) := by
  obtain ⟨i0, hi, hz0, hz1, hz2⟩ := info_parts Try.info5
  have hone := h.one hA
  have hl : os.length ≤ 24 := hA.few h
  have HW := hidI h
  have HA := hidI hA
  have HOne := hidI hone
  have CK := hidI (keysA h hA)
  have Hlen : Hid (∀ i, i ≤ os.length → ((os.take i).flatMap encO).length ≤ 6024) := hidI fun i hi => by
    have := encT_len (os := os.take i) (fun o ho => (hone o (List.mem_of_mem_take ho)).1) (fun o ho => (hone o (List.mem_of_mem_take ho)).2.1)
    rw [List.length_take] at this
    omega
  have hml : (os.map One.ky).length = os.length := by simp
  have Hml := hidI hml
  clear h hA hone hml
  have wl : IntKind.u8.wrap (os.length : Int) = (os.length : Int) := by rw [IntKind.wrap_u8]; omega
  go_enter Try.func29, Try.ntmps29
  go_wp2_with (go_at_call 25; refine CK.out.mono ?_; rintro e w1 ⟨kv, rfl, hk, hb1⟩; have HKv := hidI hk; have HB1 := hidI hb1; clear hk hb1 CK; refine Hid.out ?_)
  refine hidI ?_
  obtain ⟨ka, kc, hkv, hks⟩ := HKv.out
  rw [Hml.out] at hkv
  subst hkv
  have HKs := hidI hks
  clear hks HKv
  have HK0 : Hid (Keep w1 (w1.alloc (.cells #[.int .u8 (os.length : Int)] 5)) (.slice (some ⟨w1.heap.size, 0, none⟩) 1 1) [(os.length : Int)] []) := hidI ⟨own_built w1 _, (Below.refl _ w1).alloc (Nat.le_refl _) _, by simp⟩
  have HUp : Hid (∀ W, Below w1.heap.size w1 W → Below w.heap.size w W) := hidI fun W hW => HB1.out.trans (hW.mono HB1.out.size)
  go_wp2
  clear wl
  go_loopg [5, 21] os.length (fun g s5 s21 wx => ∃ (i : Nat) (pre : List Int) (a4 : Option Addr) (c4 : Nat), i + g = os.length ∧ s5 = .slice a4 pre.length c4 ∧ s21 = .int .i64 (i : Int) ∧ Hid (pre = (os.length : Int) :: (os.take i).flatMap encO) ∧ Hid (Keep w1 wx (.slice a4 pre.length c4) pre []))
  case atStart => exact ⟨0, [(os.length : Int)], _, _, by omega, rfl, rfl, hidI (by simp), HK0⟩
  case round =>
    obtain ⟨i, pre, va4, vc4, hig, rfl, rfl, HP, HK⟩ := hrel
    cases gk with
    | zero =>
      have hil : i = os.length := by omega
      have j1 : ¬ ((i : Int) < (os.length : Int)) := by omega
      have HF : Hid (SeesC wr (.slice va4 pre.length vc4) (encT os).length 1 (cellsB (encT os))) := hidI (by
        have e : encT os = pre := by rw [HP.out, hil, List.take_length]; rfl
        rw [e]
        exact seesC_of_owns HK.out.own)
      clear hil
      go_wp2
      go_ret2
      exact ⟨_, rfl, HF.out, HUp.out _ HK.out.low, own_room HK.out.own⟩
    | succ g =>
      have hil : i < os.length := by omega
      obtain ⟨o, ho⟩ : ∃ o, os[i]? = some o := ⟨_, List.getElem?_eq_getElem hil⟩
      have hom := List.mem_of_getElem? ho
      obtain ⟨hn8, hv30, hwf, _⟩ := HOne.out o hom
      have HTk : Hid ((os.take (i + 1)).flatMap encO = (os.take i).flatMap encO ++ encO o) := hidI (by rw [List.take_add_one, ho]; simp)
      obtain ⟨hke, hle⟩ := agree_at HA.out HW.out.2.2.2.2.2.1 ho
      obtain ⟨b, off, rfl, hkc⟩ : ∃ b off, ka = some ⟨b, off, none⟩ ∧ wr.cell? ⟨b, off + i * 2, none⟩ = some (.string o.name) ∧ wr.cell? ⟨b, off + i * 2 + 1, none⟩ = some (.int .u8 o.side) := by
        rcases HKs.out with h0 | ⟨b, off, rfl, hc⟩
        · have := Hml.out; rw [h0] at this; simp at this; omega
        · obtain ⟨q0, q1⟩ := hc i o.ky (by rw [List.getElem?_map, ho]; rfl)
          exact ⟨b, off, rfl, (HK.out.low.cell (World.block_lt_of_cell? w1 _ q0)).trans q0, (HK.out.low.cell (World.block_lt_of_cell? w1 _ q1)).trans q1⟩
      obtain ⟨d0, d1⟩ := hkc
      have CKd : Hid (∀ W, Below w.heap.size w W → Calls Try.prog 28 #[.pointer (some ⟨tb, 0, none⟩), .agg #[.string o.name, .int .u8 o.side]] W fun e w' => e = .returned (.int .u8 o.kind) ∧ Below W.heap.size W w') := hidI fun W hW => by
        have := whole_kind (HW.out.below hW (Nat.le_refl _)) (s := o.name) (d := o.side) (by unfold maxLen; omega) hwf
        rw [hke] at this
        exact this
      have CLs : Hid (∀ W, Below w.heap.size w W → Calls Try.prog 26 #[.pointer (some ⟨tb, 0, none⟩), .agg #[.string o.name, .int .u8 o.side]] W fun e w' => ∃ u, e = .returned u ∧ w'.ownsRow W.heap.size 51 1 u o.vals.length (o.vals.map (Value.int .i64)) ∧ Below W.heap.size W w') := hidI fun W hW => by
        have := listO_any (HW.out.below hW (Nat.le_refl _)) (s := o.name) (d := o.side) (by unfold maxLen; omega) hwf
        rw [hle] at this
        exact this
      have j1 : (i : Int) < (os.length : Int) := by omega
      have j2 : (0 : Int) ≤ (i : Int) := by omega
      have j3 : ((i : Int)).toNat = i := by omega
      have wz : IntKind.u8.wrap (o.name.size : Int) = (o.name.size : Int) := by rw [IntKind.wrap_u8]; omega
      have hpl : pre.length ≤ 6025 := by rw [HP.out, List.length_cons]; have := Hlen.out i (by omega); omega
      have HKx := hidI (HK.out.add (keyObj o.name o.side) (notB_cells _ _ _ (by decide)))
      obtain ⟨wk, hwk⟩ : ∃ wk, wr.alloc (keyObj o.name o.side) = wk := ⟨_, rfl⟩
      obtain ⟨bk, hbk⟩ : ∃ bk, wr.heap.size = bk := ⟨_, rfl⟩
      have Hwk := hidI hwk
      have Hbk := hidI hbk
      rw [hwk, hbk] at HKx
      clear hwk hbk hke hle hom ho
      go_wp2
      rw [Hwk.out]
      rw [Hbk.out]
      clear Hwk Hbk d0 d1
      have hxk := (HKx.out.obj _ (List.mem_singleton.2 rfl)).1
      have e0 : wk.cell? ⟨bk, 0, none⟩ = some (.string o.name) := obj_cell hxk rfl
      have e1 : wk.cell? ⟨bk, 1, none⟩ = some (.int .u8 o.side) := obj_cell hxk rfl
      clear hxk
      go_region_held3 (fun y => y.cell? ⟨bk, 0, none⟩ = some (.string o.name) ∧ y.cell? ⟨bk, 1, none⟩ = some (.int .u8 o.side))
        (first | exact ⟨by go_keep, by go_keep⟩ | assumption)
        ((first
          | (go_at_call 28; refine Calls.mono (CKd.out _ (by refine HUp.out _ ?_; refine HKx.out.low.trans ?_; refine Below.mono (B := wk.heap.size) ?_ HKx.out.low.size; (repeat (first | exact Below.refl _ _ | assumption | refine Below.drew ?_ | refine Below.alloc ?_ (by first | omega | (simp; done) | (simp; omega)) _)))) ?_; rintro e y1 ⟨rfl, hy1⟩; have hy2 : Below wk.heap.size wk y1 := ⟨hy1.os, hy1.tape, hy1.output, hy1.size, hy1.block⟩; have HKy := hidI (HKx.out.below hy2); have hS1 : y1.cell? ⟨bk, 0, none⟩ = some (.string o.name) ∧ y1.cell? ⟨bk, 1, none⟩ = some (.int .u8 o.side) := ⟨obj_cell (HKy.out.obj _ (List.mem_singleton.2 rfl)).1 rfl, obj_cell (HKy.out.obj _ (List.mem_singleton.2 rfl)).1 rfl⟩; clear hy1 hy2)
          | (refine step_append_any Try.underlying66 Try.info5 rfl (by decide) (by decide) rfl _ _ rfl w1.heap.size _ pre.length (cellsB pre) rfl (HKy.out.alloc _).own _ 3 (cellsB [o.side, o.kind, (o.name.size : Int)]) rfl (sees_built y1 [o.side, o.kind, (o.name.size : Int)]) (cellsB_one _) (by omega) (by have := HKy.out.low.size; simp; omega) ?_; intro v1 w2 hown2 hgrow2 _; have HK2 := hidI ((HKy.out.alloc (.cells #[.int .u8 o.side, .int .u8 o.kind, .int .u8 (o.name.size : Int)] 5)).app (bs := [o.side, o.kind, (o.name.size : Int)]) hown2 hgrow2); have hS2 : w2.cell? ⟨bk, 0, none⟩ = some (.string o.name) ∧ w2.cell? ⟨bk, 1, none⟩ = some (.int .u8 o.side) := ⟨obj_cell (HK2.out.obj _ (List.mem_singleton.2 rfl)).1 rfl, obj_cell (HK2.out.obj _ (List.mem_singleton.2 rfl)).1 rfl⟩)))
      all_goals
        obtain ⟨p2, hp2⟩ : ∃ p2, pre ++ [o.side, o.kind, (o.name.size : Int)] = p2 := ⟨_, rfl⟩
        rw [hp2] at HK2
        have hp2l : p2.length = pre.length + 3 := by rw [← hp2]; simp
        have Hp2 := hidI hp2
        obtain ⟨va5, vc5, hs5⟩ := HK2.out.slice
        subst hs5
        have hx2 := (HK2.out.obj _ (List.mem_singleton.2 rfl)).1
        have f0 : w2.cell? ⟨bk, 0, none⟩ = some (.string o.name) := obj_cell hx2 rfl
        clear hp2 hx2 hown2 hgrow2 hS2 hS1 HKy e0 e1 HKx
        go_wp2_with (at_builtin; go_must (refine Lib.wpList_append_own_string _ rfl _ _ 66 9 rfl w1.heap.size 5 i0 Try.underlying66 Try.underlying9 hi hz0 hz1 hz2 _ p2.length (cellsB p2) rfl HK2.out.own o.name rfl (by unfold maxLen; omega) (by omega) (by have := HK2.out.low.size; omega) ?_); intro v3 w3 hown3 hgrow3 hat3; refine Hid.out ?_)
        refine hidI ?_
        have HK3 := hidI (HK2.out.appS o.name hown3 hgrow3)
        clear hown3 hgrow3 hat3 HK2 f0
        obtain ⟨p3, hp3⟩ : ∃ p3, p2 ++ nums o.name = p3 := ⟨_, rfl⟩
        rw [hp3] at HK3
        have hp3l : p3.length ≤ pre.length + 11 := by rw [← hp3]; simp [nums_len]; omega
        have Hp3 := hidI hp3
        clear hp3
        obtain ⟨va6, vc6, hs6⟩ := HK3.out.slice
        subst hs6
        have hx3 := (HK3.out.obj _ (List.mem_singleton.2 rfl)).1
        have f0 : w3.cell? ⟨bk, 0, none⟩ = some (.string o.name) := obj_cell hx3 rfl
        have f1 : w3.cell? ⟨bk, 1, none⟩ = some (.int .u8 o.side) := obj_cell hx3 rfl
        clear hx3
        go_wp2_with (go_at_call 26; refine (CLs.out _ (HUp.out _ HK3.out.low)).mono ?_; rintro e w4 ⟨u, rfl, hu, hb4⟩; have HU := hidI hu; have HK4 := hidI ((HK3.out.few (Y := []) (by simp)).below hb4); clear hu hb4; refine Hid.out ?_)
        refine hidI ?_
        obtain ⟨ua, uc, LX, hue, hL1, hL2⟩ := own_words HU.out
        subst hue
        have HL2 := hidI hL2
        have HK5 := hidI (HK4.out.more hL1)
        rw [List.append_nil] at HK5
        clear hL1 hL2 HU HK4 HK3 f0 f1
        go_wp2
        go_loopg [5, 45] o.vals.length (fun g' s5 s45 wy => ∃ (k : Nat) (q : List Int) (a4 : Option Addr) (c4 : Nat), k + g' = o.vals.length ∧ s5 = .slice a4 q.length c4 ∧ s45 = .int .i64 (k : Int) ∧ Hid (q = p3 ++ (o.vals.take k).flatMap encW) ∧ Hid (Keep w1 wy (.slice a4 q.length c4) q LX))
        case atStart => exact ⟨0, p3, _, _, by omega, rfl, rfl, hidI (by simp), HK5⟩
        case round =>
          obtain ⟨k, q, va7, vc7, hkg, rfl, rfl, HQ, HK6⟩ := hrel
          cases gk with
          | zero =>
            have hkl : k = o.vals.length := by omega
            have k1 : ¬ ((k : Int) < (o.vals.length : Int)) := by omega
            have HN2 : Hid (q = (os.length : Int) :: (os.take (i + 1)).flatMap encO) := hidI (by
              rw [HQ.out, ← Hp3.out, ← Hp2.out, HP.out, HTk.out, hkl, List.take_length]
              simp [encO])
            clear hkl
            go_wp2
            go_roundg g
            case measure => omega
            case rel => exact ⟨i + 1, q, _, _, by omega, rfl, by go_num, HN2, hidI (HK6.out.few (by simp))⟩
          | succ g' =>
            have hkl : k < o.vals.length := by omega
            obtain ⟨z, hz⟩ : ∃ z, o.vals[k]? = some z := ⟨_, List.getElem?_eq_getElem hkl⟩
            have HTz : Hid ((o.vals.take (k + 1)).flatMap encW = (o.vals.take k).flatMap encW ++ encW z) := hidI (by rw [List.take_add_one, hz]; simp)
            have hql : q.length ≤ pre.length + 251 := by
              rw [HQ.out, List.length_append, flat_len, List.length_take]; omega
            obtain ⟨ug, rfl, hcell⟩ := HL2.out wr (fun p hp => (HK6.out.obj p hp).1) k z hz
            have k1 : (k : Int) < (o.vals.length : Int) := by omega
            have k2 : (0 : Int) ≤ (k : Int) := by omega
            have k3 : ((k : Int)).toNat = k := by omega
            have CB := hidI (bytes_any z wr)
            obtain ⟨y0, y1, y2, y3, y4, y5, y6, y7, hy8⟩ : ∃ y0 y1 y2 y3 y4 y5 y6 y7, by8 z = #[Value.int .u8 y0, .int .u8 y1, .int .u8 y2, .int .u8 y3, .int .u8 y4, .int .u8 y5, .int .u8 y6, .int .u8 y7] := ⟨_, _, _, _, _, _, _, _, rfl⟩
            have HY8 := hidI hy8
            rw [hy8] at CB
            clear hy8 hz hkl
            go_wp2_with (go_at_call 61; refine CB.out.mono ?_; rintro e w5 ⟨rfl, hb5⟩; have HK7 := hidI (HK6.out.below hb5); clear hb5; refine Hid.out ?_)
            refine hidI ?_
            clear CB hcell
            have HK8 := hidI (HK7.out.alloc (.cells #[.int .u8 y0, .int .u8 y1, .int .u8 y2, .int .u8 y3, .int .u8 y4, .int .u8 y5, .int .u8 y6, .int .u8 y7] 114))
            have HV8 := hidI (sees_by8 (World.alloc_heap_new w5 (.cells #[.int .u8 y0, .int .u8 y1, .int .u8 y2, .int .u8 y3, .int .u8 y4, .int .u8 y5, .int .u8 y6, .int .u8 y7] 114)) HY8.out)
            clear HK7
            go_wp2_with (at_builtin; go_must (refine wpList_append_any Try.underlying66 Try.info5 rfl (by decide) (by decide) rfl _ _ rfl w1.heap.size _ q.length (cellsB q) rfl HK8.out.own _ 8 (cellsB (encW z)) rfl HV8.out (cellsB_one _) (by omega) (by have := HK8.out.low.size; omega) ?_); intro v9 w9 hown9 hgrow9 _; refine Hid.out ?_)
            refine hidI ?_
            have HK9 := hidI (HK8.out.app (bs := encW z) hown9 hgrow9)
            clear hown9 hgrow9 HK8 HV8
            obtain ⟨va9, vc9, hs9⟩ := HK9.out.slice
            subst hs9
            go_wp2
            go_roundg g'
            case measure => omega
            case rel => exact ⟨k + 1, q ++ encW z, _, _, by omega, rfl, by go_num, hidI (by rw [HTz.out, HQ.out]; simp), HK9⟩
end Go.Proofs.Ytbjoljokdjgbnab
