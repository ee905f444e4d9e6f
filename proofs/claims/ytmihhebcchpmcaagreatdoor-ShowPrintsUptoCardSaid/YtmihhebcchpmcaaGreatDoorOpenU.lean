/-
  Forms and places as the laws take them.
-/
import Derived.Test.YtmihhebcchpmcaaGreatDoorPrn
import Derived.ProofKit
import Derived.Test.YtmihhebcchpmcaaGreatDoorRows
import Derived.OpenShut
import Derived.SizedLaws
import Derived.Deep.SlicePairs
namespace Go.Proofs.YtmihhebcchpmcaaGreatDoor
open Go.ChangeShapes Go.WideShapes Go.ChangeAt Go.RowKit Go.Deep
theorem in64_wfU {a : Int} (h : (Lit.int .i64 a).wf = true) : In64 a := by
  have e1 : IntKind.i64.min = -9223372036854775808 := rfl
  have e2 : IntKind.i64.max = 9223372036854775807 := rfl
  simp only [Lit.wf, e1, e2, Bool.and_eq_true, decide_eq_true_eq] at h
  exact h
theorem bulk_mem {H : Type} : ∀ {ds : List (DataW H)} {d : DataW H}, d ∈ ds → Rows.uptoBulk d ≤ Rows.uptoBulkAll ds
  | d0 :: r, d, hd => by
    simp only [Rows.uptoBulkAll]
    rcases List.mem_cons.1 hd with rfl | hd
    · omega
    · have := bulk_mem hd; omega
instance inhFmU : Inhabited Fm := ⟨⟨0, ⟨#[]⟩, 0, [], 0⟩⟩
theorem len5U {α : Type} : ∀ {l : List α}, l.length = 5 → ∃ a b c d e, l = [a, b, c, d, e]
  | [a, b, c, d, e], _ => ⟨a, b, c, d, e, rfl⟩
theorem weights_inU {H : Type} {P : Program} {e : TypeId} : ∀ {ds : List (DataW H)} {d : DataW H}, d ∈ ds → ∀ n ∈ d.weights P e, n ∈ DataW.weightsAll P e ds
  | d0 :: r, d, hd, n, hn => by
    simp only [DataW.weightsAll, List.mem_append]
    rcases List.mem_cons.1 hd with rfl | hd
    · exact .inl hn
    · exact .inr (weights_inU hd n hn)
theorem bytes3U : Tryz.prog.bytesOf 3 = 8 := by kernel_rfl
theorem cells3U : Tryz.prog.cellsOf 3 = 1 := by kernel_rfl
/-- A slice of numbers, within an argument. -/
theorem open_intsU {H : Type} {enc : TypeId × Value → H} {W : World} {fuel : Nat} {cs : List Value} {x : DataW H × List MemPlace} (h : DataW.trod enc Tryz.prog W 0 (fun _ => true) true fuel 23 cs = some x) :
    ∃ (a : Option Addr) (cap : Nat) (l : List Int), cs = [.slice a l.length cap] ∧ l.length ≤ cap ∧ SeesC W (.slice a l.length cap) l.length 1 (intsI l) ∧ ∀ b, (∀ n ∈ x.1.weights Tryz.prog 23, n ≤ b) → cap * 8 ≤ b := by
  rcases open_slice1 Tryz.underlying23 cells3U h with ⟨rfl, rfl⟩ | ⟨a, len, cap, m, n, V, D, Pl, rfl, _, hl, hm, hmm, rfl, hx⟩
  · exact ⟨none, 0, [], rfl, Nat.le_refl _, ⟨rfl, none, 0, rfl, .inl rfl⟩, fun b _ => by omega⟩
  · have hmc : m = cap := by simpa using hmm
    subst hmc
    have each : ∀ i, i < m → ∃ z : Int, V i = .int .i64 z := fun i hi => by
      obtain ⟨z, hz, _, _⟩ := DataW.trod_int Tryz.underlying3 (hx i hi).2
      exact ⟨z, by simpa using hz⟩
    obtain ⟨f, hf⟩ := choose_lt each
    have hlf : ((List.range len).map f).length = len := by simp
    refine ⟨some a, m, (List.range len).map f, by rw [hlf], by rw [hlf]; omega, ⟨by simp [intsI], some a, m, by rw [hlf], ?_⟩, fun b hb => ?_⟩
    · rw [hlf]
      by_cases h0 : len = 0
      · exact .inl h0
      right
      obtain ⟨b, off, spot⟩ := a
      have hc := (hx 0 (by omega)).1
      have hspot : spot = none := by simpa [Addr.add] using World.cell?_spot hc
      subst hspot
      refine ⟨b, off, rfl, fun j y hy => ?_⟩
      have hj : j < len := by have := (List.getElem?_eq_some_iff.1 hy).1; simpa [intsI] using this
      have e := (hx j (by omega)).1
      rw [hf j (by omega)] at e
      have hy2 : y = .int .i64 (f j) := by
        simp [intsI, List.getElem?_map, List.getElem?_range hj] at hy
        exact hy.symm
      rw [hy2]
      rw [Addr.add_lit] at e
      exact e
    · have := hb (m * 8) (by
        simp only [DataW.weights, Tryz.underlying23, bytes3U, List.length_map, List.length_range, List.mem_cons]
        exact .inl (by congr 1; omega))
      exact this
theorem open_formU {H : Type} {enc : TypeId × Value → H} {W : World} {fuel : Nat} {cs : List Value} {x : DataW H × List MemPlace} (hl : cs.length = 5) (h : DataW.trod enc Tryz.prog W 0 (fun _ => true) true fuel 56 cs = some x) :
    ∃ y : MV, cs = mcells y ∧ SeesC W y.2 y.1.kids.length 1 (intsI y.1.kids) ∧ Roomy y.2 ∧ In64 y.1.n ∧ y.1.s.size ≤ Rows.uptoBulk x.1 ∧ ∀ b, (∀ n ∈ x.1.weights Tryz.prog 56, n ≤ b) → y.1.s.size ≤ b ∧ y.1.kids.length * 8 ≤ b := by
  obtain ⟨xs, k, _, rfl, _, hxl, hf⟩ := DataW.trod_struct Tryz.underlying56 h
  have g0 := hf 0 { name := "Kind", type := 53, offset := 0, embedded := false, tag := "", pkgPath := "", byteOffset := 0 } rfl
  have g1 := hf 1 { name := "Text", type := 9, offset := 1, embedded := false, tag := "", pkgPath := "", byteOffset := 8 } rfl
  have g2 := hf 2 { name := "Num", type := 54, offset := 2, embedded := false, tag := "", pkgPath := "", byteOffset := 24 } rfl
  have g3 := hf 3 { name := "Kids", type := 23, offset := 3, embedded := false, tag := "", pkgPath := "", byteOffset := 32 } rfl
  have g4 := hf 4 { name := "At", type := 3, offset := 4, embedded := false, tag := "", pkgPath := "", byteOffset := 56 } rfl
  rw [show Tryz.prog.cellsOf 53 = 1 by kernel_rfl] at g0
  rw [show Tryz.prog.cellsOf 9 = 1 by kernel_rfl] at g1
  rw [show Tryz.prog.cellsOf 54 = 1 by kernel_rfl] at g2
  rw [show Tryz.prog.cellsOf 23 = 1 by kernel_rfl] at g3
  rw [cells3U] at g4
  obtain ⟨y0, y1, y2, y3, y4, rfl⟩ := len5U (show xs.length = 5 from hxl)
  obtain ⟨c0, c1, c2, c3, c4, rfl⟩ := len5U hl
  simp at g0 g1 g2 g3 g4
  obtain ⟨kk, h0, _, _⟩ := DataW.trod_int Tryz.underlying53 g0
  obtain ⟨s, h1, hy1, _⟩ := DataW.trod_string Tryz.underlying9 g1
  obtain ⟨o, h2, _, ho⟩ := DataW.trod_int Tryz.underlying54 g2
  obtain ⟨a, cap, l, h3, hcap, hsee, hwt⟩ := open_intsU g3
  obtain ⟨i, h4, _, _⟩ := DataW.trod_int Tryz.underlying3 g4
  simp at h0 h1 h2 h3 h4
  subst h0 h1 h2 h3 h4
  refine ⟨(⟨kk, s, o, l, i⟩, .slice a l.length cap), rfl, hsee, ⟨_, _, _, rfl, hcap⟩, in64_wfU ho, (by
    have hy : y1.1 = .lit (.string s.data.toList) := by rw [hy1]
    simp only [List.map_cons, List.map_nil, Rows.uptoBulk, Rows.uptoBulkAll, hy]
    have e : s.data.toList.length = s.size := by rw [Array.length_toList]; rfl
    omega), fun b hb => ⟨?_, ?_⟩⟩
  · have := hb s.data.toList.length (by
      simp only [DataW.weights, Tryz.underlying56, List.map_cons, List.map_nil]
      refine DataW.weights_mem_each (j := 1) (t := 9) (d := y1.1) rfl rfl _ ?_
      rw [hy1]
      simp [DataW.weights])
    simpa using this
  · have := hwt b fun n hn => hb n (by
      simp only [DataW.weights, Tryz.underlying56, List.map_cons, List.map_nil]
      exact DataW.weights_mem_each (j := 3) (t := 23) (d := y3.1) rfl rfl _ hn)
    show l.length * 8 ≤ b
    omega
set_option maxRecDepth 100000 in
theorem open_formsU {H : Type} {enc : TypeId × Value → H} {W : World} {base : Nat} {v : Value} {d : DataW H} {p : List MemPlace} (hv : Value.okWide Tryz.prog W .any base 22 v)
    (h1 : DataW.Trod enc Tryz.prog W 0 (fun _ => true) true 22 v d p) (bd : Nat) (hw : ∀ n ∈ d.weights Tryz.prog 22, n ≤ bd) : ∃ (a : Option Addr) (cap : Nat) (ms : List MV), v = .slice a ms.length cap ∧ ms.length ≤ cap ∧ SeesM W (.slice a ms.length cap) ms ∧ (∀ x ∈ ms, Roomy x.2) ∧ (∀ x ∈ ms, In64 x.1.n) ∧ (∀ x ∈ ms, x.1.s.size ≤ Rows.uptoBulk d) ∧ ∀ x ∈ ms, x.1.s.size ≤ bd ∧ x.1.kids.length * 8 ≤ bd := by
  obtain ⟨ad, len, cap, rfl⟩ := okWide_slice Tryz.underlying22 hv
  obtain ⟨fuel, hf⟩ := h1
  rcases open_slice Tryz.underlying22 hf with ⟨hcs, _⟩ | ⟨x, l, c, m, n, D, Pl, hcs, _, hl, hm, hmm, hd, hx⟩
  · simp [Value.cells] at hcs
    obtain ⟨rfl, rfl, rfl⟩ := hcs
    exact ⟨none, 0, [], rfl, Nat.le_refl _, ⟨⟨rfl, none, 0, rfl, .inl rfl⟩, fun i x hx => by simp at hx⟩, fun x hx => by simp at hx, fun x hx => by simp at hx, fun x hx => by simp at hx, fun x hx => by simp at hx⟩
  · simp [Value.cells] at hcs
    obtain ⟨rfl, rfl, rfl⟩ := hcs
    have hmc : m = cap := by simpa using hmm
    subst hmc
    have c5 : Tryz.prog.cellsOf 56 = 5 := by kernel_rfl
    rw [c5] at hx
    simp only [Prod.mk.injEq] at hd
    obtain ⟨rfl, _⟩ := hd
    have each : ∀ i, i < m → ∃ y : MV, (∀ j c, (mcells y)[j]? = some c → W.cell? (x.add (i * 5 + j)) = some c) ∧ SeesC W y.2 y.1.kids.length 1 (intsI y.1.kids) ∧ Roomy y.2 ∧ In64 y.1.n ∧ y.1.s.size ≤ Rows.uptoBulk (D i) ∧ (i < len → y.1.s.size ≤ bd ∧ y.1.kids.length * 8 ≤ bd) := by
      intro i hi
      obtain ⟨cs', h1, h2⟩ := hx i hi
      obtain ⟨_, hlen, hcell⟩ := World.cells?_some h1
      obtain ⟨y, rfl, hsee, hroom, hnum, hbk, hok⟩ := open_formU hlen h2
      refine ⟨y, fun j c hj => ?_, hsee, hroom, hnum, hbk, fun hil => hok _ fun n hn => hw n ?_⟩
      · have hj4 := (List.getElem?_eq_some_iff.1 hj).1
        have := hcell j (by simpa [mcells] using hj4)
        rw [add_add] at this
        rw [this, ← hj]
      · simp only [DataW.weights, Tryz.underlying22, List.mem_cons, List.mem_append]
        refine .inr (.inl (weights_inU ?_ n hn))
        exact List.mem_map.2 ⟨i, List.mem_range.2 hil, rfl⟩
    obtain ⟨f, hf'⟩ := choose_lt each
    have hlf : ((List.range len).map f).length = len := by simp
    have hget : ∀ i, i < len → ((List.range len).map f)[i]? = some (f i) := fun i hi => by
      rw [List.getElem?_map, List.getElem?_range hi]
      rfl
    refine ⟨some x, m, (List.range len).map f, by rw [hlf], by rw [hlf]; omega, ⟨⟨by rw [flatM_length], some x, m, by rw [hlf], ?_⟩, fun i y hy => ?_⟩, fun y hy => ?_, fun y hy => ?_, fun y hy => ?_, fun y hy => ?_⟩
    · rw [hlf]
      by_cases h0 : len = 0
      · exact .inl h0
      right
      obtain ⟨b, off, spot⟩ := x
      have hc := (hf' 0 (by omega)).1 0 _ rfl
      have hspot : spot = none := by simpa [Addr.add] using World.cell?_spot hc
      subst hspot
      refine ⟨b, off, rfl, fun j y hy => ?_⟩
      have hj : j < len * 5 := by have := (List.getElem?_eq_some_iff.1 hy).1; rw [flatM_length, hlf] at this; exact this
      have h2 := flatM_get _ (j / 5) (j % 5) (f (j / 5)) (hget _ (by omega)) (by omega)
      rw [show j / 5 * 5 + j % 5 = j by omega, hy] at h2
      have e := (hf' (j / 5) (by omega)).1 (j % 5) y h2.symm
      rw [Addr.add_lit, show j / 5 * 5 + j % 5 = j by omega] at e
      exact e
    · have hi : i < len := by have := (List.getElem?_eq_some_iff.1 hy).1; simpa using this
      rw [hget i hi] at hy
      obtain rfl : f i = y := by simpa using hy
      exact (hf' i (by omega)).2.1
    · obtain ⟨j, hj, rfl⟩ := List.mem_map.1 hy
      have hjl := List.mem_range.1 hj
      exact (hf' j (by omega)).2.2.1
    · obtain ⟨j, hj, rfl⟩ := List.mem_map.1 hy
      have hjl := List.mem_range.1 hj
      exact (hf' j (by omega)).2.2.2.1
    · obtain ⟨j, hj, rfl⟩ := List.mem_map.1 hy
      have hjl := List.mem_range.1 hj
      have h1 := (hf' j (by omega)).2.2.2.2.1
      have h2 := bulk_mem (ds := (List.range len).map D) (List.mem_map.2 ⟨j, hj, rfl⟩)
      simp only [Rows.uptoBulk]
      omega
    · obtain ⟨j, hj, rfl⟩ := List.mem_map.1 hy
      have hjl := List.mem_range.1 hj
      exact (hf' j (by omega)).2.2.2.2.2 hjl
set_option maxRecDepth 100000 in
theorem open_intargU {H : Type} {enc : TypeId × Value → H} {W : World} {base : Nat} {v : Value} {d : DataW H} {p : List MemPlace} (hv : Value.okWide Tryz.prog W .any base 23 v)
    (h1 : DataW.Trod enc Tryz.prog W 0 (fun _ => true) true 23 v d p) : ∃ (a : Option Addr) (cap : Nat) (l : List Int), v = .slice a l.length cap ∧ l.length ≤ cap ∧ SeesC W (.slice a l.length cap) l.length 1 (intsI l) := by
  obtain ⟨ad, len, cap, rfl⟩ := okWide_slice Tryz.underlying23 hv
  obtain ⟨fuel, hf⟩ := h1
  obtain ⟨a, cap', l, hcs, hc, hs, _⟩ := open_intsU hf
  simp [Value.cells] at hcs
  obtain ⟨rfl, rfl, rfl⟩ := hcs
  exact ⟨_, _, l, rfl, hc, hs⟩
end Go.Proofs.YtmihhebcchpmcaaGreatDoor
