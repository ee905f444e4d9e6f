/-
  The document's Same, at forms that are the same.
-/
import Derived.Test.YtnlplkchkhibaaaDoorRPrs
namespace Go.Proofs.YtnlplkchkhibaaaDoor
open Go.RowKit Go.Deep Go.MapKept
theorem sameInts_eq (u v : Value) (xs : List Int) (hl : xs.length ≤ 4611686018427387904) (w : World) (hu : SeesC w u xs.length 1 (intsI xs)) (hv : SeesC w v xs.length 1 (intsI xs)) :
    Calls Tryd.prog 14 #[u, v] w fun e w' => e = .returned (.bool true) ∧ ∃ n, w' = w.drewN n := by
  obtain ⟨_, a, cap, rfl, ha⟩ := hu
  obtain ⟨_, b, cap', rfl, hb⟩ := hv
  have HA := hidI ha
  have HB := hidI hb
  clear ha hb
  go_enter Tryd.func14, Tryd.ntmps14
  go_wp2
  go_loopg [5] xs.length (fun g s5 wx => ∃ i n : Nat, i + g = xs.length ∧ s5 = .int .i64 (i : Int) ∧ w.drewN n = wx)
  case atStart => exact ⟨0, 0, by omega, rfl, rfl⟩
  case round =>
    obtain ⟨i, n0, hi, rfl, rfl⟩ := hrel
    cases gk with
    | zero =>
      have hil : i = xs.length := by omega
      have e1 : ¬ ((i : Int) < (xs.length : Int)) := by omega
      subst hil
      go_wp2
      go_ret
      exact ⟨rfl, n0, rfl⟩
    | succ g =>
      have hil : i < xs.length := by omega
      have e1 : (i : Int) < (xs.length : Int) := by omega
      have e2 : (0 : Int) ≤ (i : Int) := by omega
      have e3 : ((i : Int)).toNat = i := by omega
      have hgi : xs[i]? = some xs[i] := List.getElem?_eq_getElem hil
      obtain ⟨p, hp⟩ : ∃ p, xs[i] = p := ⟨_, rfl⟩
      rw [hp] at hgi
      rcases HA.out with h0 | ⟨pa, oa, rfl, ha⟩
      · omega
      rcases HB.out with h0 | ⟨pb, ob, rfl, hb⟩
      · omega
      have c1 : w.cell? ⟨pa, oa + i, none⟩ = some (.int .i64 p) := ha i _ (intsI_get hgi)
      have c2 : w.cell? ⟨pb, ob + i, none⟩ = some (.int .i64 p) := hb i _ (intsI_get hgi)
      clear ha hb hp hgi
      go_wp2
      go_quiet (fail)
      generalize nq = n1
      go_wp2
      go_roundg g
      case measure => omega
      case rel => exact ⟨i + 1, n0 + n1, by omega, by go_num, by simp⟩
set_option maxRecDepth 100000 in
set_option maxHeartbeats 4000000 in
theorem same_eq (u v : Value) (ms ms' : List MV) (he : ms.map Prod.fst = ms'.map Prod.fst) (hml : ms.length ≤ 4611686018427387904) (hkl : ∀ x ∈ ms, x.1.kids.length ≤ 4611686018427387904) (w : World) (hu : SeesM w u ms) (hv : SeesM w v ms') :
    Calls Tryd.prog 13 #[u, v] w fun e w' => e = .returned (.bool true) ∧ Below w.heap.size w w' := by
  have hlen : ms'.length = ms.length := by have := congrArg List.length he; simpa using this.symm
  have HU := hidI hu
  have HV := hidI hv
  obtain ⟨_, a, cap, hau, _⟩ := hu.row
  obtain ⟨_, b, cap', hbv, _⟩ := hv.row
  rw [hlen] at hbv
  subst hau
  subst hbv
  have HE := hidI he
  have HKL := hidI hkl
  have HLen := hidI hlen
  clear hu hv he hkl hlen
  go_enter Tryd.func13, Tryd.ntmps13
  go_wp2
  go_loopg [5] ms.length (fun g s5 wx => ∃ i n : Nat, i + g = ms.length ∧ s5 = .int .i64 (i : Int) ∧ w.drewN n = wx)
  case atStart => exact ⟨0, 0, by omega, rfl, rfl⟩
  case round =>
    obtain ⟨i, n0, hi, rfl, rfl⟩ := hrel
    cases gk with
    | zero =>
      have hil : i = ms.length := by omega
      have e1 : ¬ ((i : Int) < (ms.length : Int)) := by omega
      subst hil
      go_wp2
      go_ret
      exact ⟨rfl, ⟨rfl, rfl, rfl, Nat.le_refl _, fun _ _ => rfl⟩⟩
    | succ g =>
      have hil : i < ms.length := by omega
      have e1 : (i : Int) < (ms.length : Int) := by omega
      have e2 : (0 : Int) ≤ (i : Int) := by omega
      have e3 : ((i : Int)).toNat = i := by omega
      have hx : ms[i]? = some ms[i] := List.getElem?_eq_getElem hil
      have hy : ms'[i]? = some (ms'[i]'(by rw [HLen.out]; exact hil)) := List.getElem?_eq_getElem _
      obtain ⟨x, hxe⟩ : ∃ x, ms[i] = x := ⟨_, rfl⟩
      obtain ⟨y, hye⟩ : ∃ y, ms'[i]'(by rw [HLen.out]; exact hil) = y := ⟨_, rfl⟩
      rw [hxe] at hx
      rw [hye] at hy
      have hxy : x.1 = y.1 := by
        have h1 : (ms.map Prod.fst)[i]? = some x.1 := by rw [List.getElem?_map, hx]; rfl
        have h2 : (ms'.map Prod.fst)[i]? = some y.1 := by rw [List.getElem?_map, hy]; rfl
        rw [HE.out, h2] at h1
        exact (Option.some.inj h1).symm
      obtain ⟨pa, oa, ca, ka, kca, hv1, hk1, x0, x1, x2, x3, x4⟩ := HU.out.load hx
      obtain ⟨pb, ob, cb, kb, kcb, hv2, hk2, y0, y1, y2, y3, y4⟩ := HV.out.load hy
      rw [HLen.out] at hv2
      cases hv1
      cases hv2
      rw [← hxy] at y0 y1 y2 y3 y4 hk2
      have CK : Hid (∀ n, Calls Tryd.prog 14 #[.slice ka x.1.kids.length kca, .slice kb x.1.kids.length kcb] ((w.drewN n0).drewN n) fun e w' => e = .returned (.bool true) ∧ ∃ m, w' = ((w.drewN n0).drewN n).drewN m) := hidI fun n => by
        have h1 := HU.out.kid i x hx
        have h2 := HV.out.kid i y hy
        rw [← hxy] at h2
        rw [hk1] at h1
        rw [hk2] at h2
        exact sameInts_eq _ _ x.1.kids (HKL.out x (List.mem_of_getElem? hx)) ((w.drewN n0).drewN n) h1 h2
      obtain ⟨⟨fk, fss, fn, fks, fp⟩, xv⟩ := x
      simp only at x0 x1 x2 x3 x4 y0 y1 y2 y3 y4 CK
      have z0 : (w.drewN n0).cell? ⟨pa, oa + i * 5, none⟩ = some (.int .u8 fk) := x0
      have z1 : (w.drewN n0).cell? ⟨pa, oa + i * 5 + 1, none⟩ = some (.string fss) := x1
      have z2 : (w.drewN n0).cell? ⟨pa, oa + i * 5 + 2, none⟩ = some (.int .i64 fn) := x2
      have z3 : (w.drewN n0).cell? ⟨pa, oa + i * 5 + 3, none⟩ = some (.slice ka fks.length kca) := x3
      have z4 : (w.drewN n0).cell? ⟨pa, oa + i * 5 + 4, none⟩ = some (.int .i64 fp) := x4
      have v0 : (w.drewN n0).cell? ⟨pb, ob + i * 5, none⟩ = some (.int .u8 fk) := y0
      have v1 : (w.drewN n0).cell? ⟨pb, ob + i * 5 + 1, none⟩ = some (.string fss) := y1
      have v2 : (w.drewN n0).cell? ⟨pb, ob + i * 5 + 2, none⟩ = some (.int .i64 fn) := y2
      have v3 : (w.drewN n0).cell? ⟨pb, ob + i * 5 + 3, none⟩ = some (.slice kb fks.length kcb) := y3
      have v4 : (w.drewN n0).cell? ⟨pb, ob + i * 5 + 4, none⟩ = some (.int .i64 fp) := y4
      clear x0 x1 x2 x3 x4 y0 y1 y2 y3 y4 hx hy hxe hye hxy hk1 hk2
      obtain ⟨V, hV⟩ : ∃ V, w.drewN n0 = V := ⟨_, rfl⟩
      have HVV := hidI hV
      rw [hV] at z0 z1 z2 z3 z4 v0 v1 v2 v3 v4 CK ⊢
      clear hV
      go_wp2
      go_quiet ((go_at_call 14; exact Calls.quiet_of (CK.out _)))
      generalize nq = n1
      go_wp2
      go_roundg g
      case measure => omega
      case rel => exact ⟨i + 1, n0 + n1, by omega, by go_num, by rw [← HVV.out]; simp⟩
end Go.Proofs.YtnlplkchkhibaaaDoor
