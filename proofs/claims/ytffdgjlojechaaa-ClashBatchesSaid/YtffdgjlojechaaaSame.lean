/-
  Texts, and rows of acts, that are the same.
-/
import Derived.Test.YtffdgjlojechaaaRBat
import Derived.Test.YtffdgjlojechaaaWith
namespace Go.Proofs.Ytffdgjlojechaaa
open Go.RowKit Go.Deep Go.MapKept
set_option maxRecDepth 100000 in
set_option maxHeartbeats 1000000 in
theorem sameTexts_any (w : World) (u v : Value) (ts : List Txt) (hu : SeesS w u ts) (hv : SeesS w v ts) (hl : ts.length ≤ 1000) :
    Calls Try.prog 11 #[u, v] w fun e w' => e = .returned (.bool true) ∧ Below w.heap.size w w' := by
  obtain ⟨a, cap, rfl, _, hA⟩ := hu
  obtain ⟨b, cap', rfl, _, hB⟩ := hv
  obtain ⟨n, hn⟩ : ∃ n, ts.length = n := ⟨_, rfl⟩
  have HN := hidI hn
  have HA := hidI hA
  have HB := hidI hB
  rw [hn] at hl ⊢
  clear hn hA hB
  go_enter Try.func11, Try.ntmps11
  go_wp2
  go_loopg [5] n (fun g s5 wx => ∃ i : Nat, i + g = n ∧ s5 = .int .i64 i ∧ Hid (Below w.heap.size w wx))
  case atStart => exact ⟨0, by omega, rfl, hidI (Below.refl _ _)⟩
  case round =>
    obtain ⟨i, hig, rfl, HX⟩ := hrel
    cases gk with
    | zero =>
      obtain rfl : n = i := by omega
      have k1 : decide ((n : Int) < (n : Int)) = false := by simp
      go_wp2
      go_ret
      exact ⟨rfl, HX.out⟩
    | succ g =>
      have k1 : (i : Int) < (n : Int) := by omega
      obtain ⟨t, ht⟩ : ∃ t, ts[i]? = some t := ⟨_, List.getElem?_eq_getElem (by have := HN.out; omega)⟩
      rcases HA.out with hnil | ⟨ba, oa, rfl, hla⟩
      · subst hnil; simp at ht
      rcases HB.out with hnil | ⟨bb, ob, rfl, hlb⟩
      · subst hnil; simp at ht
      have kk : ∀ {p : Addr} {v : Value}, w.cell? p = some v → wr.cell? p = some v := fun {p v} hc => (HX.out.cell (World.block_lt_of_cell? w _ hc)).trans hc
      have c1 := kk (hla i t ht)
      have c2 := kk (hlb i t ht)
      clear hla hlb kk ht
      go_wp2
      go_region
      all_goals
        go_wp2
        go_roundg g
        case measure => omega
        case rel => exact ⟨i + 1, by omega, by go_num, hidI HX.out.drew⟩
@[go_sem] theorem eq39 (x : Deed) (w : World) : (Op.equalIn 10000 39 (.agg #[.int .u8 x.k, .string x.s, .int .u8 x.o, .bool x.i, .int .i64 x.e, .int .i64 x.c]) (.agg #[.int .u8 x.k, .string x.s, .int .u8 x.o, .bool x.i, .int .i64 x.e, .int .i64 x.c])).run Try.prog w = .ok true w := by
  have u36 := Try.underlying36
  have u9 := Try.underlying9
  have u37 := Try.underlying37
  have u4 := Try.underlying4
  have u3 := Try.underlying3
  have hS : Try.prog.underlying 39 = some (.struct (Try.prog.fieldsOf 39)) := by kernel_rfl
  have hp : Try.prog.stoodInHeld 39 = false := by kernel_rfl
  rw [show (10000 : Nat) = 9999 + 1 from rfl, run_equalIn_agg w 9999 39 _ _ hS hp]
  simp only [Program.fieldsOf, Try.underlying39]
  go_simp
/-- Rows of acts, as they are read. -/
def SeesRows (w : World) (v : Value) (rows : List (List Deed)) : Prop :=
  ∃ vs : List Value, SeesC w v rows.length 1 vs ∧ ∀ (j : Nat) (r : List Deed) (u : Value), rows[j]? = some r → vs[j]? = some u → SeesA w u r
theorem SeesRows.below {w w' : World} {B : Nat} {v : Value} {rows : List (List Deed)} (h : SeesRows w v rows) (hb : Below B w w') (hB : w.heap.size ≤ B) : SeesRows w' v rows := by
  obtain ⟨vs, h1, h2⟩ := h
  exact ⟨vs, h1.below hb hB, fun j r u hr hu => (h2 j r u hr hu).below hb hB⟩
theorem RowsAt.sees {w : World} {base : Nat} {v : Value} {rows : List (List Deed)} {vs : List Value} (h : RowsAt w base v rows vs) : SeesRows w v rows :=
  ⟨vs, seesC_of_owns h.own, fun j r u hr hu => seesA_of_C (seesC_of_owns (h.each j r u hr hu))⟩
theorem RowsO.sees {w : World} {base : Nat} {v : Value} {rows : List (List Deed)} {vs : List Value} (h : RowsO w base v rows vs) : SeesRows w v rows :=
  ⟨vs, seesC_of_owns h.own, fun j r u hr hu => seesA_of_C (seesC_of_owns (h.each j r u hr hu))⟩
/-- A row, told by a slice of rows. -/
theorem SeesRows.at {w : World} {a : Option Addr} {n cap : Nat} {rows : List (List Deed)} (h : SeesRows w (.slice a n cap) rows) {i : Nat} {r : List Deed} (hr : rows[i]? = some r) :
    ∃ b off ua uc, a = some ⟨b, off, none⟩ ∧ w.cell? ⟨b, off + i, none⟩ = some (.slice ua r.length uc) ∧ SeesA w (.slice ua r.length uc) r := by
  obtain ⟨vs, ⟨hl, a', cap', he, hs⟩, h2⟩ := h
  simp only [Value.slice.injEq] at he
  obtain ⟨rfl, rfl, rfl⟩ := he
  have hi := (List.getElem?_eq_some_iff.1 hr).1
  obtain ⟨u, hu⟩ : ∃ u, vs[i]? = some u := ⟨_, List.getElem?_eq_getElem (by omega)⟩
  rcases hs with h0 | ⟨b, off, rfl, hs⟩
  · omega
  · have hsa := h2 i r u hr hu
    obtain ⟨ua, uc, rfl, _⟩ := id hsa
    exact ⟨b, off, ua, uc, rfl, hs i _ hu, hsa⟩
theorem SeesA.at {w : World} {a : Option Addr} {n cap : Nat} {xs : List Deed} (h : SeesA w (.slice a n cap) xs) {i : Nat} {x : Deed} (hx : xs[i]? = some x) :
    ∃ b off, a = some ⟨b, off, none⟩ ∧ w.cell? ⟨b, off + i * 6, none⟩ = some (.int .u8 x.k) ∧ w.cell? ⟨b, off + i * 6 + 1, none⟩ = some (.string x.s) ∧ w.cell? ⟨b, off + i * 6 + 2, none⟩ = some (.int .u8 x.o) ∧ w.cell? ⟨b, off + i * 6 + 3, none⟩ = some (.bool x.i) ∧ w.cell? ⟨b, off + i * 6 + 4, none⟩ = some (.int .i64 x.e) ∧ w.cell? ⟨b, off + i * 6 + 5, none⟩ = some (.int .i64 x.c) := by
  obtain ⟨a', cap', he, hs⟩ := h
  simp only [Value.slice.injEq] at he
  obtain ⟨rfl, rfl, rfl⟩ := he
  rcases hs with rfl | ⟨b, off, rfl, hs⟩
  · simp at hx
  · exact ⟨b, off, rfl, hs i x hx⟩
set_option maxRecDepth 100000 in
set_option maxHeartbeats 2000000 in
theorem sameRows_any (w : World) (a : Option Addr) (n cap : Nat) (b : Option Addr) (cap' : Nat) (rows : List (List Deed)) (hn : rows.length = n) (hu : SeesRows w (.slice a n cap) rows) (hv : SeesRows w (.slice b n cap') rows) (hl : n ≤ 1000) (hrl : ∀ r ∈ rows, r.length ≤ 1000) :
    Calls Try.prog 14 #[.slice a n cap, .slice b n cap'] w fun e w' => e = .returned (.bool true) ∧ Below w.heap.size w w' := by
  have HN := hidI hn
  have HU := hidI hu
  have HV := hidI hv
  have HRL := hidI hrl
  have hgt : Try.prog.eqGuardType Try.prog.depth 39 = false := by kernel_rfl
  clear hn hu hv hrl
  go_enter Try.func14, Try.ntmps14
  go_wp2
  go_loopg [5] n (fun g s5 wx => ∃ i : Nat, i + g = n ∧ s5 = .int .i64 i ∧ Hid (Below w.heap.size w wx))
  case atStart => exact ⟨0, by omega, rfl, hidI (Below.refl _ _)⟩
  case round =>
    obtain ⟨i, hig, rfl, HX⟩ := hrel
    cases gk with
    | zero =>
      obtain rfl : n = i := by omega
      have k1 : decide ((n : Int) < (n : Int)) = false := by simp
      go_wp2
      go_ret
      exact ⟨rfl, HX.out⟩
    | succ g =>
      have k1 : (i : Int) < (n : Int) := by omega
      obtain ⟨r, hr⟩ : ∃ r, rows[i]? = some r := ⟨_, List.getElem?_eq_getElem (by have := HN.out; omega)⟩
      obtain ⟨ba, oa, ua, uca, rfl, hca, hsa⟩ := HU.out.at hr
      obtain ⟨bb, ob, ub, ucb, rfl, hcb, hsb⟩ := HV.out.at hr
      have hrm := HRL.out r (List.mem_of_getElem? hr)
      obtain ⟨m, hm⟩ : ∃ m, r.length = m := ⟨_, rfl⟩
      have HM := hidI hm
      rw [hm] at hca hcb hsa hsb hrm
      have HSA := hidI hsa
      have HSB := hidI hsb
      have KA : Hid (∀ u : World, Below w.heap.size w u → u.cell? ⟨ba, oa + i, none⟩ = some (.slice ua m uca)) := hidI fun u hu => (hu.cell (World.block_lt_of_cell? w _ hca)).trans hca
      have KB : Hid (∀ u : World, Below w.heap.size w u → u.cell? ⟨bb, ob + i, none⟩ = some (.slice ub m ucb)) := hidI fun u hu => (hu.cell (World.block_lt_of_cell? w _ hcb)).trans hcb
      have a0 := KA.out _ HX.out
      have b0 := KB.out _ HX.out
      clear hm hr hsa hsb hca hcb
      go_wp2
      go_region
      all_goals
        clear a0 b0
        go_wp2
        go_loopg [6] m (fun g2 s6 wy => ∃ j : Nat, j + g2 = m ∧ s6 = .int .i64 j ∧ Hid (Below w.heap.size w wy))
        case atStart => exact ⟨0, by omega, rfl, hidI HX.out.drew⟩
        case round =>
          obtain ⟨j, hjg, rfl, HY⟩ := hrel
          have a1 := KA.out _ HY.out
          have b1 := KB.out _ HY.out
          cases gk with
          | zero =>
            obtain rfl : m = j := by omega
            have k2 : decide ((m : Int) < (m : Int)) = false := by simp
            go_wp2
            go_roundg g
            case measure => omega
            case rel => exact ⟨i + 1, by omega, by go_num, HY⟩
          | succ g2 =>
            have k2 : (j : Int) < (m : Int) := by omega
            obtain ⟨x, hx⟩ : ∃ x, r[j]? = some x := ⟨_, List.getElem?_eq_getElem (by have := HM.out; omega)⟩
            obtain ⟨ca, pa, rfl, x0, x1, x2, x3, x4, x5⟩ := HSA.out.at hx
            obtain ⟨cb, pb, rfl, y0, y1, y2, y3, y4, y5⟩ := HSB.out.at hx
            have kk : ∀ {p : Addr} {v : Value}, w.cell? p = some v → wr.cell? p = some v := fun {p v} hc => (HY.out.cell (World.block_lt_of_cell? w _ hc)).trans hc
            replace x0 := kk x0
            replace x1 := kk x1
            replace x2 := kk x2
            replace x3 := kk x3
            replace x4 := kk x4
            replace x5 := kk x5
            replace y0 := kk y0
            replace y1 := kk y1
            replace y2 := kk y2
            replace y3 := kk y3
            replace y4 := kk y4
            replace y5 := kk y5
            clear kk hx
            go_wp2
            go_region
            all_goals
              go_wp2
              go_roundg g2
              case measure => omega
              case rel => exact ⟨j + 1, by omega, by go_num, hidI HY.out.drew⟩
end Go.Proofs.Ytffdgjlojechaaa
