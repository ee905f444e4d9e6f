/-
  Same: forms that are the same but for places are told to be the same.
-/
import Derived.Test.YtmihhebcchpmcaaGreatDoorBackQ
namespace Go.Proofs.YtmihhebcchpmcaaGreatDoor
open Go.RowKit Go.Deep Go.MapKept Go.Shelf
theorem below_drewN8 (w : World) (n : Nat) : Below w.heap.size w (w.drewN n) := ⟨rfl, rfl, rfl, Nat.le_refl _, fun _ _ => rfl⟩
theorem equal_ok (v u : Value) (ks : List Int) (w : World) (hv : SeesC w v ks.length 1 (intsI ks)) (hu : SeesC w u ks.length 1 (intsI ks)) (hl : ks.length ≤ 4611686018427387904) :
    Calls Tryz.prog 31 #[v, u] w fun e w' => e = .returned (.bool true) ∧ Below w.heap.size w w' := by
  obtain ⟨_, a, c, rfl, h1⟩ := hv
  obtain ⟨_, a', c', rfl, h2⟩ := hu
  by_cases h0 : ks.length = 0
  · rw [h0]
    refine (Tryz.slices_Equal_int_empty a a' c 0 c' w (by omega)).mono ?_
    rintro e w' ⟨rfl, rfl⟩
    exact ⟨rfl, Below.refl _ _⟩
  · obtain ⟨b, off, rfl, hc⟩ := h1.resolve_left h0
    obtain ⟨b', off', rfl, hc'⟩ := h2.resolve_left h0
    have hcell : ∀ (b off : Nat), (∀ (j : Nat) (c : Value), (intsI ks)[j]? = some c → w.cell? ⟨b, off + j, none⟩ = some c) → ∀ j, j < ks.length → w.cell? ⟨b, off + j, none⟩ = some (.int .i64 (ks.getD j 0)) := fun b off h j hj => by
      refine h j _ (intsI_get ?_)
      rw [List.getD_eq_getElem?_getD, List.getElem?_eq_getElem hj]
      rfl
    refine (Tryz.slices_Equal_int b off ks.length c b' off' ks.length c' ks ks w (Nat.le_refl _) (Nat.le_refl _) (by omega) (by omega) (hcell b off hc) (hcell b' off' hc')).mono ?_
    rintro e w' ⟨rfl, q, rfl⟩
    exact ⟨by simp, below_drewN8 w q⟩
def keyM (x : MV) : Int × ByteArray × Int × List Int := (x.1.k, x.1.s, x.1.n, x.1.kids)
set_option maxHeartbeats 1000000 in
theorem alike_ok (k : Int) (s : ByteArray) (n p q : Int) (a a' : Option Addr) (c c' : Nat) (ks : List Int) (w : World) (hv : SeesC w (.slice a ks.length c) ks.length 1 (intsI ks)) (hu : SeesC w (.slice a' ks.length c') ks.length 1 (intsI ks)) (hl : ks.length ≤ 4611686018427387904) :
    Calls Tryz.prog 33 #[.agg #[.int .u8 k, .string s, .int .i64 n, .slice a ks.length c, .int .i64 p], .agg #[.int .u8 k, .string s, .int .i64 n, .slice a' ks.length c', .int .i64 q]] w fun e w' => e = .returned (.bool true) ∧ Below w.heap.size w w' := by
  have CE := hidI fun (y : World) (hy : Below w.heap.size w y) => equal_ok _ _ ks y (hv.below hy (Nat.le_refl _)) (hu.below hy (Nat.le_refl _)) hl
  have hb : Below w.heap.size w ((w.alloc (.cells #[.int .u8 k, .string s, .int .i64 n, .slice a ks.length c, .int .i64 p] 56)).alloc (.cells #[.int .u8 k, .string s, .int .i64 n, .slice a' ks.length c', .int .i64 q] 56)) := by (repeat (first | exact Below.refl _ _ | assumption | refine Below.drew ?_ | refine Below.alloc ?_ (by first | omega | (simp; done) | (simp; omega)) _ | refine Below.setCell ?_ (by first | omega | (simp; done) | (simp; omega)) _))
  have HB := hidI hb
  clear hv hu hb
  go_enter Tryz.func33, Tryz.ntmps33
  go_wp2_with (go_at_call 31; refine (CE.out _ HB.out).mono ?_; rintro e w1 ⟨rfl, hb1⟩; have HB1 := hidI (HB.out.trans (hb1.mono HB.out.size)); clear hb1)
  go_ret
  exact ⟨by simp, HB1.out⟩
set_option maxHeartbeats 1000000 in
theorem equalFunc_ok (fv gv : Value) (ms ns : List MV) (w : World) (hm : SeesM w fv ms) (hn : SeesM w gv ns) (hk : ms.map keyM = ns.map keyM) (hml : ms.length ≤ 100000) (hfew : ∀ x ∈ ms, x.1.kids.length ≤ 4611686018427387904) :
    Calls Tryz.prog 32 #[fv, gv, .func (.func 33) #[] #[]] w fun e w' => e = .returned (.bool true) ∧ Below w.heap.size w w' := by
  have hlen : ns.length = ms.length := by have := congrArg List.length hk; simpa using this.symm
  obtain ⟨_, fa, fc, hfv, _⟩ := hm.row
  obtain ⟨_, ga, gc, hgv, _⟩ := hn.row
  rw [hlen] at hgv
  subst hfv
  subst hgv
  have HM := hidI hm
  have HN := hidI hn
  have HK := hidI hk
  have HF := hidI hfew
  have HLen := hidI hlen
  clear hm hn hk hfew hlen
  go_enter Tryz.func32, Tryz.ntmps32
  go_wp2
  go_loopg [17] ms.length (fun g s17 wx => ∃ i : Nat, i + g = ms.length ∧ s17 = .int .i64 (i : Int) ∧ Hid (Below w.heap.size w wx))
  case atStart => exact ⟨0, by omega, rfl, hidI (Below.refl _ _)⟩
  case round =>
    obtain ⟨i, hi, rfl, HX⟩ := hrel
    cases gk with
    | zero =>
      have i1 : ¬ ((i : Int) < (ms.length : Int)) := by omega
      go_wp2
      go_ret
      exact ⟨rfl, HX.out⟩
    | succ g =>
      have hil : i < ms.length := by omega
      have hil2 : i < ns.length := by rw [HLen.out]; exact hil
      obtain ⟨x, hx⟩ : ∃ x, ms[i]? = some x := ⟨_, List.getElem?_eq_getElem hil⟩
      obtain ⟨y, hy⟩ : ∃ y, ns[i]? = some y := ⟨_, List.getElem?_eq_getElem hil2⟩
      have hkey : keyM x = keyM y := by
        have := congrArg (fun l => l[i]?) HK.out
        simp only [List.getElem?_map, hx, hy, Option.map_some, Option.some.injEq] at this
        exact this
      unfold keyM at hkey
      simp only [Prod.mk.injEq] at hkey
      obtain ⟨k1, k2, k3, k4⟩ := hkey
      have hsm := HM.out.below HX.out (Nat.le_refl _)
      have hsn := HN.out.below HX.out (Nat.le_refl _)
      obtain ⟨fb, fo, fc', ka, kc, hfv, hkv, y0, y1, y2, y3, y4⟩ := hsm.load hx
      obtain ⟨gb, go', gc', la, lc, hgv, hlv, z0, z1, z2, z3, z4⟩ := hsn.load hy
      rw [HLen.out] at hgv
      cases hfv
      cases hgv
      have q1 := hsm.kid i x hx
      have q2 := hsn.kid i y hy
      rw [hkv] at q1
      rw [hlv] at q2
      rw [← k4] at q2 z3
      rw [← k1] at z0
      rw [← k2] at z1
      rw [← k3] at z2
      have hfx := HF.out x (List.mem_of_getElem? hx)
      have CA := hidI fun (Y : World) (hY : Below wr.heap.size wr Y) => alike_ok x.1.k x.1.s x.1.n x.1.p y.1.p ka la kc lc x.1.kids Y (q1.below hY (Nat.le_refl _)) (q2.below hY (Nat.le_refl _)) hfx
      have hb2 : Below wr.heap.size wr ((wr.alloc (.cells #[.int .u8 x.1.k, .string x.1.s, .int .i64 x.1.n, .slice ka x.1.kids.length kc, .int .i64 x.1.p] 56)).alloc (.cells #[.int .u8 x.1.k, .string x.1.s, .int .i64 x.1.n, .slice la x.1.kids.length lc, .int .i64 y.1.p] 56)) := by (repeat (first | exact Below.refl _ _ | assumption | refine Below.drew ?_ | refine Below.alloc ?_ (by first | omega | (simp; done) | (simp; omega)) _ | refine Below.setCell ?_ (by first | omega | (simp; done) | (simp; omega)) _))
      have HB2 := hidI hb2
      have hA : Below wr.heap.size wr (wr.alloc (.cells #[.int .u8 x.1.k, .string x.1.s, .int .i64 x.1.n, .slice ka x.1.kids.length kc, .int .i64 x.1.p] 56)) := by (repeat (first | exact Below.refl _ _ | assumption | refine Below.drew ?_ | refine Below.alloc ?_ (by first | omega | (simp; done) | (simp; omega)) _ | refine Below.setCell ?_ (by first | omega | (simp; done) | (simp; omega)) _))
      have lt1 := World.block_lt_of_cell? wr _ z0
      have z0' := (hA.cell lt1).trans z0
      have z1' := (hA.cell (p := ⟨gb, go' + i * 5 + 1, none⟩) lt1).trans z1
      have z2' := (hA.cell (p := ⟨gb, go' + i * 5 + 2, none⟩) lt1).trans z2
      have z3' := (hA.cell (p := ⟨gb, go' + i * 5 + 3, none⟩) lt1).trans z3
      have z4' := (hA.cell (p := ⟨gb, go' + i * 5 + 4, none⟩) lt1).trans z4
      have i1 : (i : Int) < (ms.length : Int) := by omega
      have i2 : (0 : Int) ≤ (i : Int) := by omega
      have i3 : ((i : Int)).toNat = i := by omega
      clear q1 q2 hkv hlv hsm hsn k1 k2 k3 k4 hb2 hA hx hy hil hil2 hfx
      go_wp2_with (go_at_call 33; refine (CA.out _ HB2.out).mono ?_; rintro e w1 ⟨rfl, hb1⟩; have HB1 := hidI (HX.out.trans ((HB2.out.trans (hb1.mono HB2.out.size)).mono HX.out.size)); clear hb1)
      go_roundg g
      case measure => omega
      case rel => exact ⟨i + 1, by omega, by go_num, HB1⟩
set_option maxHeartbeats 1000000 in
theorem same_ok (fv tv gv uv : Value) (ms ns : List MV) (top : List Int) (w : World) (hm : SeesM w fv ms) (hn : SeesM w gv ns) (hk : ms.map keyM = ns.map keyM) (hml : ms.length ≤ 100000) (hfew : ∀ x ∈ ms, x.1.kids.length ≤ 4611686018427387904) (ht : SeesC w tv top.length 1 (intsI top)) (hu : SeesC w uv top.length 1 (intsI top)) (htl : top.length ≤ 4611686018427387904) (hR1 : RightC fv tv true w) (hR2 : RightC gv uv true w) :
    Calls Tryz.prog 16 #[fv, tv, gv, uv] w fun e w' => e = .returned (.bool true) ∧ Below w.heap.size w w' := by
  have C1 := hidI (hR1 w (Below.refl _ _))
  have C2 := hidI hR2
  have C3 := hidI fun (y : World) (hy : Below w.heap.size w y) => equal_ok tv uv top y (ht.below hy (Nat.le_refl _)) (hu.below hy (Nat.le_refl _)) htl
  have C4 := hidI fun (y : World) (hy : Below w.heap.size w y) => equalFunc_ok fv gv ms ns y (hm.below hy (Nat.le_refl _)) (hn.below hy (Nat.le_refl _)) hk hml hfew
  clear hm hn hk hfew ht hu hR1 hR2
  go_enter Tryz.func16, Tryz.ntmps16
  go_wp2_with (go_at_call 18; refine C1.out.mono ?_; rintro e w1 ⟨rfl, hb1⟩; have HB1 := hidI hb1; clear hb1 C1; refine Hid.out ?_)
  refine hidI ?_
  go_wp2_with (go_at_call 18; refine (C2.out _ HB1.out).mono ?_; rintro e w2 ⟨rfl, hb2⟩; have HB2 := hidI (HB1.out.trans (hb2.mono HB1.out.size)); clear hb2 C2; refine Hid.out ?_)
  refine hidI ?_
  go_wp2_with (first
    | (go_at_call 31; refine (C3.out _ HB2.out).mono ?_; rintro e w3 ⟨rfl, hb3⟩; have HB3 := hidI (HB2.out.trans (hb3.mono HB2.out.size)); clear hb3)
    | (go_at_call 32; refine (C4.out _ HB3.out).mono ?_; rintro e w4 ⟨rfl, hb4⟩; have HB4 := hidI (HB3.out.trans (hb4.mono HB3.out.size)); clear hb4))
  go_ret
  exact ⟨rfl, HB4.out⟩
end Go.Proofs.YtmihhebcchpmcaaGreatDoor
