/-
  Same, of the program and of the document, at any forms.
-/
import Derived.Test.YtmihhebcchpmcaaGreatDoorSameS
import Derived.Test.YtmihhebcchpmcaaGreatDoorBackQ
import Derived.Test.YtmihhebcchpmcaaGreatDoorRRt
import Derived.Test.YtmihhebcchpmcaaGreatDoorRText
namespace Go.Proofs.YtmihhebcchpmcaaGreatDoor
open Go.RowKit Go.Deep Go.MapKept Go.Shelf
theorem equal_any (v u : Value) (ks ls : List Int) (w : World) (hv : SeesC w v ks.length 1 (intsI ks)) (hu : SeesC w u ls.length 1 (intsI ls)) (hl : ks.length ≤ 4611686018427387904) (hl2 : ls.length ≤ 4611686018427387904) :
    Calls Tryz.prog 31 #[v, u] w fun e w' => e = .returned (.bool (ks == ls)) ∧ Below w.heap.size w w' := by
  obtain ⟨_, a, c, rfl, h1⟩ := hv
  obtain ⟨_, a', c', rfl, h2⟩ := hu
  by_cases h0 : ks.length = 0
  · have hk := List.length_eq_zero_iff.1 h0
    subst hk
    refine (Tryz.slices_Equal_int_empty a a' c ls.length c' w (by omega)).mono ?_
    rintro e w' ⟨rfl, rfl⟩
    refine ⟨?_, Below.refl _ _⟩
    cases ls with
    | nil => rfl
    | cons x r => simp
  by_cases h0' : ls.length = 0
  · have hk := List.length_eq_zero_iff.1 h0'
    subst hk
    obtain ⟨b, off, rfl, hc⟩ := h1.resolve_left h0
    have e1 : ¬ (ks.length : Int) = 0 := by omega
    have e2 : ((ks.length : Int) == 0) = false := by rw [beq_eq_false_iff_ne]; exact e1
    have hks : (ks == ([] : List Int)) = false := by cases ks with | nil => simp at h0 | cons x r => rfl
    rw [hks]
    clear h1 h2 hks
    go_enter Tryz.func31, Tryz.ntmps31
    go_wp2
    go_ret
    exact ⟨rfl, Below.refl _ _⟩
  · obtain ⟨b, off, rfl, hc⟩ := h1.resolve_left h0
    obtain ⟨b', off', rfl, hc'⟩ := h2.resolve_left h0'
    have hcell : ∀ (ks : List Int) (b off : Nat), (∀ (j : Nat) (c : Value), (intsI ks)[j]? = some c → w.cell? ⟨b, off + j, none⟩ = some c) → ∀ j, j < ks.length → w.cell? ⟨b, off + j, none⟩ = some (.int .i64 (ks.getD j 0)) := fun ks b off h j hj => by
      refine h j _ (intsI_get ?_)
      rw [List.getD_eq_getElem?_getD, List.getElem?_eq_getElem hj]
      rfl
    refine (Tryz.slices_Equal_int b off ks.length c b' off' ls.length c' ks ls w (Nat.le_refl _) (Nat.le_refl _) (by omega) (by omega) (hcell ks b off hc) (hcell ls b' off' hc')).mono ?_
    rintro e w' ⟨rfl, q, rfl⟩
    exact ⟨by simp, below_drewN8 w q⟩
theorem bytes_ext {a b : ByteArray} (e : a.toList = b.toList) : a = b := by
  rw [ByteArray.toList_eq, ByteArray.toList_eq] at e
  cases a; cases b
  simp only [ByteArray.mk.injEq]
  exact Array.toList_inj.1 e
def sameK (x y : Fm) : Bool := (x.k == y.k) && ((x.s.toList == y.s.toList) && ((x.n == y.n) && (x.kids == y.kids)))
set_option maxHeartbeats 2000000 in
theorem alike_any (x y : Fm) (a a' : Option Addr) (c c' : Nat) (w : World) (hv : SeesC w (.slice a x.kids.length c) x.kids.length 1 (intsI x.kids)) (hu : SeesC w (.slice a' y.kids.length c') y.kids.length 1 (intsI y.kids)) (hl : x.kids.length ≤ 4611686018427387904) (hl2 : y.kids.length ≤ 4611686018427387904) :
    Calls Tryz.prog 33 #[.agg #[.int .u8 x.k, .string x.s, .int .i64 x.n, .slice a x.kids.length c, .int .i64 x.p], .agg #[.int .u8 y.k, .string y.s, .int .i64 y.n, .slice a' y.kids.length c', .int .i64 y.p]] w fun e w' => e = .returned (.bool (sameK x y)) ∧ Below w.heap.size w w' := by
  have CE := hidI fun (z : World) (hz : Below w.heap.size w z) => equal_any _ _ x.kids y.kids z (hv.below hz (Nat.le_refl _)) (hu.below hz (Nat.le_refl _)) hl hl2
  have hb : Below w.heap.size w ((w.alloc (.cells #[.int .u8 x.k, .string x.s, .int .i64 x.n, .slice a x.kids.length c, .int .i64 x.p] 56)).alloc (.cells #[.int .u8 y.k, .string y.s, .int .i64 y.n, .slice a' y.kids.length c', .int .i64 y.p] 56)) := by (repeat (first | exact Below.refl _ _ | assumption | refine Below.drew ?_ | refine Below.alloc ?_ (by first | omega | (simp; done) | (simp; omega)) _ | refine Below.setCell ?_ (by first | omega | (simp; done) | (simp; omega)) _))
  have HB := hidI hb
  obtain ⟨k, t, n, ks, p⟩ := x
  obtain ⟨k', t', n', ks', p'⟩ := y
  simp only at hv hu hl hl2 CE HB ⊢
  unfold sameK
  simp only
  clear hv hu hb
  by_cases h1 : k = k'
  · subst h1
    by_cases h2 : t = t'
    · subst h2
      by_cases h3 : n = n'
      · subst h3
        obtain ⟨q, hq⟩ : ∃ q, (ks == ks') = q := ⟨_, rfl⟩
        rw [hq] at CE ⊢
        clear hq
        go_enter Tryz.func33, Tryz.ntmps33
        go_wp2_with (go_at_call 31; refine (CE.out _ HB.out).mono ?_; rintro e w1 ⟨rfl, hb1⟩; have HB1 := hidI (HB.out.trans (hb1.mono HB.out.size)); clear hb1)
        go_ret
        exact ⟨by simp, HB1.out⟩
      · have n3 : (n == n') = false := by rw [beq_eq_false_iff_ne]; exact h3
        rw [n3]
        go_enter Tryz.func33, Tryz.ntmps33
        go_wp2
        go_ret
        exact ⟨by simp, HB.out⟩
    · have n2 : (t.toList == t'.toList) = false := by
        rw [beq_eq_false_iff_ne]
        intro e
        exact h2 (bytes_ext e)
      rw [n2]
      go_enter Tryz.func33, Tryz.ntmps33
      go_wp2
      go_ret
      exact ⟨by simp, HB.out⟩
  · have n1 : (k == k') = false := by rw [beq_eq_false_iff_ne]; exact h1
    rw [n1]
    go_enter Tryz.func33, Tryz.ntmps33
    go_wp2
    go_ret
    exact ⟨by simp, HB.out⟩
def sameL : List MV → List MV → Bool
  | [], [] => true
  | x :: r, y :: q => sameK x.1 y.1 && sameL r q
  | _, _ => false
theorem sameL_len : ∀ {a b : List MV}, a.length ≠ b.length → sameL a b = false
  | [], [], h => by simp at h
  | [], y :: q, _ => rfl
  | x :: r, [], _ => rfl
  | x :: r, y :: q, h => by simp only [sameL]; rw [sameL_len (a := r) (b := q) (by simpa using h)]; simp
theorem sameK_iff (x y : Fm) : sameK x y = true ↔ (x.k, x.s, x.n, x.kids) = (y.k, y.s, y.n, y.kids) := by
  unfold sameK
  simp only [Bool.and_eq_true, beq_iff_eq, Prod.mk.injEq]
  exact ⟨fun h => ⟨h.1, bytes_ext h.2.1, h.2.2⟩, fun h => ⟨h.1, by rw [h.2.1], h.2.2⟩⟩
theorem sameL_iff : ∀ (a b : List MV), sameL a b = true ↔ a.map keyM = b.map keyM
  | [], [] => by simp [sameL]
  | [], y :: q => by simp [sameL]
  | x :: r, [] => by simp [sameL]
  | x :: r, y :: q => by
    simp only [sameL, Bool.and_eq_true, List.map_cons, List.cons.injEq, sameL_iff r q, sameK_iff]
    rfl
set_option maxHeartbeats 2000000 in
theorem equalFunc_any (fv gv : Value) (ms ns : List MV) (w : World) (hm : SeesM w fv ms) (hn : SeesM w gv ns) (hml : ms.length ≤ 100000) (hfew : ∀ x ∈ ms, x.1.kids.length ≤ 4611686018427387904) (hfew2 : ∀ x ∈ ns, x.1.kids.length ≤ 4611686018427387904) :
    Calls Tryz.prog 32 #[fv, gv, .func (.func 33) #[] #[]] w fun e w' => e = .returned (.bool (sameL ms ns)) ∧ Below w.heap.size w w' := by
  obtain ⟨_, fa, fc, hfv, _⟩ := hm.row
  obtain ⟨_, ga, gc, hgv, _⟩ := hn.row
  subst hfv
  subst hgv
  by_cases hlen : ns.length = ms.length
  · rw [hlen] at hn
    rw [hlen]
    have HM := hidI hm
    have HN := hidI hn
    have HF := hidI hfew
    have HF2 := hidI hfew2
    have HLen := hidI hlen
    obtain ⟨R, hR⟩ : ∃ R, sameL ms ns = R := ⟨_, rfl⟩
    rw [hR]
    have HR := hidI hR
    clear hm hn hfew hfew2 hlen hR
    go_enter Tryz.func32, Tryz.ntmps32
    go_wp2
    go_loopg [17] ms.length (fun g s17 wx => ∃ i : Nat, i + g = ms.length ∧ s17 = .int .i64 (i : Int) ∧ Hid (R = sameL (ms.drop i) (ns.drop i)) ∧ Hid (Below w.heap.size w wx))
    case atStart => exact ⟨0, by omega, rfl, hidI (by simp [HR.out]), hidI (Below.refl _ _)⟩
    case round =>
      obtain ⟨i, hi, rfl, HI, HX⟩ := hrel
      cases gk with
      | zero =>
        have i1 : ¬ ((i : Int) < (ms.length : Int)) := by omega
        have hR1 : R = true := by
          rw [HI.out, List.drop_eq_nil_of_le (by omega), List.drop_eq_nil_of_le (by rw [HLen.out]; omega)]
          rfl
        have HR1 := hidI hR1
        clear hR1
        go_wp2
        go_ret
        exact ⟨by rw [HR1.out] <;> first | rfl | skip, HX.out⟩
      | succ g =>
        have hil : i < ms.length := by omega
        have hil2 : i < ns.length := by rw [HLen.out]; exact hil
        obtain ⟨x, hx⟩ : ∃ x, ms[i]? = some x := ⟨_, List.getElem?_eq_getElem hil⟩
        obtain ⟨y, hy⟩ : ∃ y, ns[i]? = some y := ⟨_, List.getElem?_eq_getElem hil2⟩
        have hdx : ms.drop i = x :: ms.drop (i + 1) := by rw [List.drop_eq_getElem_cons hil]; congr 1; rw [List.getElem?_eq_getElem hil] at hx; exact Option.some.inj hx
        have hdy : ns.drop i = y :: ns.drop (i + 1) := by rw [List.drop_eq_getElem_cons hil2]; congr 1; rw [List.getElem?_eq_getElem hil2] at hy; exact Option.some.inj hy
        have hRs : R = (sameK x.1 y.1 && sameL (ms.drop (i + 1)) (ns.drop (i + 1))) := by rw [HI.out, hdx, hdy]; rfl
        have HRs := hidI hRs
        clear hdx hdy hRs
        have hsm := HM.out.below HX.out (Nat.le_refl _)
        have hsn := HN.out
        rw [← HLen.out] at hsn
        have hsn2 := hsn.below HX.out (Nat.le_refl _)
        obtain ⟨fb, fo, fc', ka, kc, hfv, hkv, y0, y1, y2, y3, y4⟩ := hsm.load hx
        obtain ⟨gb, go', gc', la, lc, hgv, hlv, z0, z1, z2, z3, z4⟩ := hsn2.load hy
        rw [HLen.out] at hgv
        cases hfv
        cases hgv
        have q1 := hsm.kid i x hx
        have q2 := hsn2.kid i y hy
        rw [hkv] at q1
        rw [hlv] at q2
        have hfx := HF.out x (List.mem_of_getElem? hx)
        have hfy := HF2.out y (List.mem_of_getElem? hy)
        have CA := hidI fun (Y : World) (hY : Below wr.heap.size wr Y) => alike_any x.1 y.1 ka la kc lc Y (q1.below hY (Nat.le_refl _)) (q2.below hY (Nat.le_refl _)) hfx hfy
        have hb2 : Below wr.heap.size wr ((wr.alloc (.cells #[.int .u8 x.1.k, .string x.1.s, .int .i64 x.1.n, .slice ka x.1.kids.length kc, .int .i64 x.1.p] 56)).alloc (.cells #[.int .u8 y.1.k, .string y.1.s, .int .i64 y.1.n, .slice la y.1.kids.length lc, .int .i64 y.1.p] 56)) := by (repeat (first | exact Below.refl _ _ | assumption | refine Below.drew ?_ | refine Below.alloc ?_ (by first | omega | (simp; done) | (simp; omega)) _ | refine Below.setCell ?_ (by first | omega | (simp; done) | (simp; omega)) _))
        have HB2 := hidI hb2
        have hA : Below wr.heap.size wr (wr.alloc (.cells #[.int .u8 x.1.k, .string x.1.s, .int .i64 x.1.n, .slice ka x.1.kids.length kc, .int .i64 x.1.p] 56)) := by (repeat (first | exact Below.refl _ _ | assumption | refine Below.drew ?_ | refine Below.alloc ?_ (by first | omega | (simp; done) | (simp; omega)) _ | refine Below.setCell ?_ (by first | omega | (simp; done) | (simp; omega)) _))
        have lt1 := World.block_lt_of_cell? wr _ z0
        have z0' := (hA.cell lt1).trans z0
        have z1' := (hA.cell (p := ⟨gb, go' + i * 5 + 1, none⟩) lt1).trans z1
        have z2' := (hA.cell (p := ⟨gb, go' + i * 5 + 2, none⟩) lt1).trans z2
        have z3' := (hA.cell (p := ⟨gb, go' + i * 5 + 3, none⟩) lt1).trans z3
        have z4' := (hA.cell (p := ⟨gb, go' + i * 5 + 4, none⟩) lt1).trans z4
        have i1 : (i : Int) < (ms.length : Int) := by omega
        have i2 : (0 : Int) ≤ (i : Int) := by omega
        have i3 : ((i : Int)).toNat = i := by omega
        obtain ⟨sk, hsk⟩ : ∃ sk, sameK x.1 y.1 = sk := ⟨_, rfl⟩
        rw [hsk] at CA HRs
        clear q1 q2 hkv hlv hsm hsn hsn2 hb2 hA hx hy hil hil2 hfx hfy hsk
        cases sk with
        | false =>
          have hR1 : R = false := by rw [HRs.out]; rfl
          have HR1 := hidI hR1
          clear hR1
          go_wp2_with (go_at_call 33; refine (CA.out _ HB2.out).mono ?_; rintro e w1 ⟨rfl, hb1⟩; have HB1 := hidI (HX.out.trans ((HB2.out.trans (hb1.mono HB2.out.size)).mono HX.out.size)); clear hb1)
          go_ret
          exact ⟨by rw [HR1.out] <;> first | rfl | skip, HB1.out⟩
        | true =>
          have HR1 : Hid (R = sameL (ms.drop (i + 1)) (ns.drop (i + 1))) := hidI (by rw [HRs.out]; simp)
          go_wp2_with (go_at_call 33; refine (CA.out _ HB2.out).mono ?_; rintro e w1 ⟨rfl, hb1⟩; have HB1 := hidI (HX.out.trans ((HB2.out.trans (hb1.mono HB2.out.size)).mono HX.out.size)); clear hb1)
          go_roundg g
          case measure => omega
          case rel => exact ⟨i + 1, by omega, by go_num, HR1, HB1⟩
  · rw [sameL_len (fun e => hlen e.symm)]
    have e1 : ¬ (ms.length : Int) = (ns.length : Int) := by omega
    have e2 : ((ms.length : Int) == (ns.length : Int)) = false := by rw [beq_eq_false_iff_ne]; exact e1
    clear hm hn hfew hfew2
    go_enter Tryz.func32, Tryz.ntmps32
    go_wp2
    go_ret
    exact ⟨rfl, Below.refl _ _⟩
end Go.Proofs.YtmihhebcchpmcaaGreatDoor
