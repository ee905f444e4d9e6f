/-
  Part 5 of the proof: PWords, VocM, Rows2.
-/
import Derived.Test.YtmekkhfohmfjkaaGreatDoorTm04
import Derived.Test.YtmekkhfohmfjkaaGreatDoorTm01
namespace Go.Proofs.YtmekkhfohmfjkaaGreatDoor
open Go.RowKit Go.Deep Go.MapKept Go.WideMaps Go.WideShapes
open Go.ChangeMaps (setBlock)
def dWd : Nat → ByteArray
 | 0 => ⟨#[105, 110, 116]⟩
 | 1 => ⟨#[98, 111, 111, 108]⟩
 | 2 => ⟨#[110, 105, 110, 116]⟩
 | 3 => ⟨#[110, 98, 111, 111, 108]⟩
 | 4 => ⟨#[101, 105, 110, 116]⟩
 | 5 => ⟨#[101, 98, 111, 111, 108]⟩
 | _ => ⟨#[]⟩
def dDc (m : Nat) : Value := .agg #[.string ⟨#[]⟩, .int .u8 ((m / 2 + 1 : Nat) : Int), .int .u8 ((m % 2 + 1 : Nat) : Int)]
def decF : Nat → Fn
 | 0 => fun _ => none
 | m + 1 => upd (decF m) (dWd m) (dDc m)
theorem declSh_any (j k : Nat) (h1 : 1 ≤ j) (h2 : j ≤ 3) (h3 : 1 ≤ k) (h4 : k ≤ 2) (w : World) : Calls Tryz.prog 88 #[.int .u8 (j : Int), .int .u8 (k : Int)] w (ShPost w (dWd ((j - 1) * 2 + (k - 1))) ⟨#[110]⟩) := by
 have hj : j = 1 ∨ j = 2 ∨ j = 3 := by omega
 have hk : k = 1 ∨ k = 2 := by omega
 rcases hj with rfl | rfl | rfl <;> rcases hk with rfl | rfl
 ·exact declSh11 w
 ·exact declSh12 w
 ·exact declSh21 w
 ·exact declSh22 w
 ·exact declSh31 w
 ·exact declSh32 w
theorem under_85 : Tryz.prog.underlying 100 = some (.map 9 56) := by kernel_rfl
theorem zero_85 (w : World) : (zeroValue 56).run Tryz.prog w = .ok (.agg #[.string ⟨#[]⟩, .int .u8 0, .int .u8 0]) w := by kernel_rfl
structure Voc where
 d : Nat
 s : Nat
 a : Nat
 x : Nat
 o : Nat
def Voc.vals (v : Voc) : List Value := [.map (some v.d), .map (some v.s), .map (some v.a), .map (some v.x), .map (some v.o)]
structure IsVoc (w : World) (v : Voc) (f : Fn) : Prop where
 d : MapG w v.d f
 s : MapG w v.s (vocF stmtWd 7)
 a : MapG w v.a (vocF actWd 3)
 x : MapG w v.x (vocF exprWd 10)
 o : MapG w v.o (vocF opWd 19)
theorem IsVoc.below {w w' : World} {v : Voc} {f : Fn} (h : IsVoc w v f) {B : Nat} (hb : Below B w w') (h1 : v.d < B) (h2 : v.s < B) (h3 : v.a < B) (h4 : v.x < B) (h5 : v.o < B) : IsVoc w' v f :=
 ⟨h.d.same (hb.block _ h1), h.s.same (hb.block _ h2), h.a.same (hb.block _ h3), h.x.same (hb.block _ h4), h.o.same (hb.block _ h5)⟩
theorem IsVoc.on {w w' : World} {v : Voc} {f : Fn} (h : IsVoc w v f) (hb : Below w.heap.size w w') : IsVoc w' v f := h.below hb h.d.lt h.s.lt h.a.lt h.x.lt h.o.lt
structure VW (w : World) (vb : Nat) (v : Voc) (m : Nat) (wx : World) : Prop where
 below : Below w.heap.size w wx
 voc : IsVoc wx v (decF m)
 from_ : w.heap.size ≤ v.d ∧ w.heap.size ≤ vb
 apart : v.s ≠ v.d ∧ v.a ≠ v.d ∧ v.x ≠ v.d ∧ v.o ≠ v.d ∧ vb ≠ v.d
 c0 : wx.cell? ⟨vb, 0, none⟩ = some (.map (some v.d))
 c1 : wx.cell? ⟨vb, 1, none⟩ = some (.map (some v.s))
 c2 : wx.cell? ⟨vb, 2, none⟩ = some (.map (some v.a))
 c3 : wx.cell? ⟨vb, 3, none⟩ = some (.map (some v.x))
 c4 : wx.cell? ⟨vb, 4, none⟩ = some (.map (some v.o))
theorem VW.on {w wx wy : World} {vb m : Nat} {v : Voc} (h : VW w vb v m wx) (hb : Below wx.heap.size wx wy) : VW w vb v m wy := by
 have z : ∀ {p : Addr} {u : Value}, wx.cell? p = some u → wy.cell? p = some u := fun {p u} hc => (hb.cell (World.block_lt_of_cell? wx _ hc)).trans hc
 exact ⟨h.below.trans (hb.mono h.below.size), h.voc.on hb, h.from_, h.apart, z h.c0, z h.c1, z h.c2, z h.c3, z h.c4⟩
theorem VW.put {w wx : World} {vb m : Nat} {v : Voc} (h : VW w vb v m wx) {o : Obj} (ho : ∀ u : World, u.heap[v.d]? = some o → MapG u v.d (upd (decF m) (dWd m) (dDc m))) : VW w vb v (m + 1) (setBlock wx v.d o) := by
 have z : ∀ {j : Nat} {u : Value}, wx.cell? ⟨vb, j, none⟩ = some u → (setBlock wx v.d o).cell? ⟨vb, j, none⟩ = some u := fun {j u} hc => (World.cell?_of_block (w := wx) (zcP o h.apart.2.2.2.2)).trans hc
 exact ⟨below_put o h.below h.from_.1, ⟨ho _ (put_same o h.voc.d.lt), h.voc.s.same (zcP o h.apart.1), h.voc.a.same (zcP o h.apart.2.1), h.voc.x.same (zcP o h.apart.2.2.1), h.voc.o.same (zcP o h.apart.2.2.2.1)⟩, h.from_, h.apart, z h.c0, z h.c1, z h.c2, z h.c3, z h.c4⟩
theorem vw_start {w w4 wx : World} {v : Voc} (hb : Below w.heap.size w w4) (hv : IsVoc w4 v (decF 0)) (hf : w.heap.size ≤ v.d) (hne : v.s ≠ v.d ∧ v.a ≠ v.d ∧ v.x ≠ v.d ∧ v.o ≠ v.d ∧ w4.heap.size ≠ v.d) (h : Below w4.heap.size w4 wx)
  (c0 : wx.cell? ⟨w4.heap.size, 0, none⟩ = some (.map (some v.d))) (c1 : wx.cell? ⟨w4.heap.size, 1, none⟩ = some (.map (some v.s))) (c2 : wx.cell? ⟨w4.heap.size, 2, none⟩ = some (.map (some v.a))) (c3 : wx.cell? ⟨w4.heap.size, 3, none⟩ = some (.map (some v.x))) (c4 : wx.cell? ⟨w4.heap.size, 4, none⟩ = some (.map (some v.o))) : VW w w4.heap.size v 0 wx :=
 ⟨hb.trans (h.mono hb.size), hv.on h, ⟨hf, hb.size⟩, hne, c0, c1, c2, c3, c4⟩
theorem IsVoc.setc {w : World} {v : Voc} {f : Fn} (h : IsVoc w v f) {g j : Nat} {u : Value} (h1 : v.d ≠ g) (h2 : v.s ≠ g) (h3 : v.a ≠ g) (h4 : v.x ≠ g) (h5 : v.o ≠ g) : IsVoc (w.setCell ⟨g, j, none⟩ u) v f :=
 ⟨h.d.same (Below.heap_setCell w ⟨g, j, none⟩ u _ h1), h.s.same (Below.heap_setCell w ⟨g, j, none⟩ u _ h2), h.a.same (Below.heap_setCell w ⟨g, j, none⟩ u _ h3), h.x.same (Below.heap_setCell w ⟨g, j, none⟩ u _ h4), h.o.same (Below.heap_setCell w ⟨g, j, none⟩ u _ h5)⟩
structure RB5 (b : Nat) (wx : World) : Prop where
 cell : ∀ j, j < 5 → wx.cell? ⟨b, j, none⟩ = some (.map none)
 free : ∀ j, wx.frozen? ⟨b, j, none⟩ = false
theorem RB5.lt {b : Nat} {wx : World} (h : RB5 b wx) : b < wx.heap.size := World.block_lt_of_cell? wx _ (h.cell 0 (by omega))
theorem RB5.same {b : Nat} {wx wy : World} (h : RB5 b wx) (e : wy.heap[b]? = wx.heap[b]?) : RB5 b wy :=
 ⟨fun j hj => (World.cell?_of_block (w := wx) (a := ⟨b, j, none⟩) e).trans (h.cell j hj), fun j => (World.frozen?_of_block (w := wx) (a := ⟨b, j, none⟩) e).trans (h.free j)⟩
theorem RB5.on {b : Nat} {wx wy : World} (h : RB5 b wx) (hb : Below wx.heap.size wx wy) : RB5 b wy := h.same (hb.block b h.lt)
def WordsPost (w : World) (e : Ending) (w' : World) : Prop := ∃ v : Voc, e = .returned (.agg v.vals.toArray) ∧ IsVoc w' v (decF 6) ∧ Below w.heap.size w w'
set_option maxHeartbeats 2000000 in
theorem words_any (w : World) : Calls Tryz.prog 47 #[] w (WordsPost w) := by
 have C1 := hidI (fun u => stmt_voc u)
 have C2 := hidI (fun u => act_voc u)
 have C3 := hidI (fun u => expr_voc u)
 have C4 := hidI (fun u => op_voc u)
 have hmm := @run_makeMap Tryz.prog
 go_enter Tryz.func47, Tryz.ntmps47
 go_wp2_with (first
  | (go_at_call 77; refine Calls.mono (C1.out _) ?_; rintro e w1 ⟨m1, rfl, hm1, hM1, hb1⟩; clear C1)
  | (go_at_call 80; refine Calls.mono (C2.out _) ?_; rintro e w2 ⟨m2, rfl, hm2, hM2, hb2⟩; clear C2)
  | (go_at_call 83; refine Calls.mono (C3.out _) ?_; rintro e w3 ⟨m3, rfl, hm3, hM3, hb3⟩; clear C3)
  | (go_at_call 86; refine Calls.mono (C4.out _) ?_; rintro e w4 ⟨m4, rfl, hm4, hM4, hb4⟩; clear C4; refine Hid.out ?_))
 have hz0 : w.heap.size + 1 + 1 ≤ m1 := by simpa using hm1
 have hs1 := hb1.size
 have hs2 := hb2.size
 have hs3 := hb3.size
 have hs4 := hb4.size
 simp only [World.size_alloc] at hs1 hb1 hm1
 have hl1 := hM1.lt
 have hl2 := hM2.lt
 have hl3 := hM3.lt
 have hl4 := hM4.lt
 have hd0 := mapG_made (w.alloc (.cells #[.map none, .map none, .map none, .map none, .map none] 106))
 simp only [World.size_alloc] at hd0
 have hd4 : MapG w4 (w.heap.size + 1) (decF 0) := (((MapG.same hd0 (hb1.block _ (by omega))).same (hb2.block _ (by omega))).same (hb3.block _ (by omega))).same (hb4.block _ (by omega))
 have hV4 : IsVoc w4 ⟨w.heap.size + 1, m1, m2, m3, m4⟩ (decF 0) :=
  ⟨hd4, ((hM1.same (hb2.block _ (by omega))).same (hb3.block _ (by omega))).same (hb4.block _ (by omega)), (hM2.same (hb3.block _ (by omega))).same (hb4.block _ (by omega)), hM3.same (hb4.block _ (by omega)), hM4⟩
 have hB0 : Below w.heap.size w ((w.alloc (.cells #[.map none, .map none, .map none, .map none, .map none] 106)).alloc (.map #[] 0)) := by (repeat (first | exact Below.refl _ _ | assumption | refine Below.drew ?_ | refine Below.alloc ?_ (by first | omega | (simp; done) | (simp; omega)) _ | refine Below.setCell ?_ (by first | omega | (simp; done) | (simp; omega)) _))
 have hB4 : Below w.heap.size w w4 := (((hB0.trans (hb1.mono (by omega))).trans (hb2.mono (by omega))).trans (hb3.mono (by omega))).trans (hb4.mono (by omega))
 have hr4 : ∀ j, j < 5 → w4.cell? ⟨w.heap.size, j, none⟩ = some (.map none) := by
  have z : ∀ {p : Addr} {u : Value}, ((w.alloc (.cells #[.map none, .map none, .map none, .map none, .map none] 106)).alloc (.map #[] 0)).cell? p = some u → w4.cell? p = some u := fun {p u} hc => by
   have hlt := World.block_lt_of_cell? _ _ hc
   simp only [World.size_alloc] at hlt
   exact (World.cell?_of_block (((hb4.block p.block (by omega)).trans (hb3.block p.block (by omega))).trans ((hb2.block p.block (by omega)).trans (hb1.block p.block (by omega))))).trans hc
  intro j hj
  apply z
  have hm : j = 0 ∨ j = 1 ∨ j = 2 ∨ j = 3 ∨ j = 4 := by omega
  rcases hm with rfl | rfl | rfl | rfl | rfl <;> go_simp
 have hf4 : ∀ j, w4.frozen? ⟨w.heap.size, j, none⟩ = false := by
  intro j
  refine (World.frozen?_of_block (w := (w.alloc (.cells #[.map none, .map none, .map none, .map none, .map none] 106)).alloc (.map #[] 0)) (a := ⟨w.heap.size, j, none⟩) (((hb4.block w.heap.size (by omega)).trans (hb3.block w.heap.size (by omega))).trans ((hb2.block w.heap.size (by omega)).trans (hb1.block w.heap.size (by omega))))).trans ?_
  go_simp
 have hlt4 : w.heap.size < w4.heap.size := by omega
 have HV4 := hidI hV4
 have HB4 := hidI hB4
 have HR4 : Hid (RB5 w.heap.size w4) := hidI ⟨hr4, hf4⟩
 have hn0 : m1 ≠ w.heap.size ∧ m2 ≠ w.heap.size ∧ m3 ≠ w.heap.size ∧ m4 ≠ w.heap.size := by omega
 have HN0 := hidI hn0
 clear hn0
 have hne : m1 ≠ w.heap.size + 1 ∧ m2 ≠ w.heap.size + 1 ∧ m3 ≠ w.heap.size + 1 ∧ m4 ≠ w.heap.size + 1 ∧ w4.heap.size ≠ w.heap.size + 1 := by omega
 have HNE := hidI hne
 clear hne hV4 hB4 hr4 hd4 hd0 hb1 hb2 hb3 hb4 hM1 hM2 hM3 hM4 hm1 hm2 hm3 hm4 hs1 hs2 hs3 hs4 hl1 hl2 hl3 hl4 hz0 hB0 hf4
 refine hidI ?_
 go_wp2
 go_loopg [2] 3 (fun g s2 wx => ∃ j : Nat, 1 ≤ j ∧ j + g = 4 ∧ s2 = .int .u8 (j : Int) ∧ Hid (VW w w4.heap.size ⟨w.heap.size + 1, m1, m2, m3, m4⟩ ((j - 1) * 2) wx) ∧ Hid (RB5 w.heap.size wx))
 case atStart =>
  refine ⟨1, by omega, by omega, rfl, hidI (vw_start HB4.out HV4.out (by simp) HNE.out (by (repeat (first | exact Below.refl _ _ | assumption | refine Below.drew ?_ | refine Below.alloc ?_ (by first | omega | (simp; done) | (simp; omega)) _ | refine Below.setCell ?_ (by first | omega | (simp; done) | (simp; omega)) _))) ?_ ?_ ?_ ?_ ?_), hidI (HR4.out.on (by (repeat (first | exact Below.refl _ _ | assumption | refine Below.drew ?_ | refine Below.alloc ?_ (by first | omega | (simp; done) | (simp; omega)) _ | refine Below.setCell ?_ (by first | omega | (simp; done) | (simp; omega)) _))))⟩
  all_goals go_simp
 case round =>
  obtain ⟨j, hj1, hig, rfl, HVW, HRB⟩ := hrel
  clear HV4 HB4 HR4
  cases gk with
  | zero =>
   obtain rfl : j = 4 := by omega
   have c0 := HVW.out.c0
   have c1 := HVW.out.c1
   have c2 := HVW.out.c2
   have c3 := HVW.out.c3
   have c4 := HVW.out.c4
   have r0 := HRB.out.cell 0 (by omega)
   have r1 := HRB.out.cell 1 (by omega)
   have r2 := HRB.out.cell 2 (by omega)
   have r3 := HRB.out.cell 3 (by omega)
   have r4 := HRB.out.cell 4 (by omega)
   have f0 := HRB.out.free 0
   have f1 := HRB.out.free 1
   have f2 := HRB.out.free 2
   have f3 := HRB.out.free 3
   have f4 := HRB.out.free 4
   have HBL := hidI HVW.out.below
   have HVC : Hid (IsVoc wr ⟨w.heap.size + 1, m1, m2, m3, m4⟩ (decF 6)) := hidI HVW.out.voc
   go_wp2
   refine bodyPost_ret (v := .agg #[.map (some (w.heap.size + 1)), .map (some m1), .map (some m2), .map (some m3), .map (some m4)]) ?_ rfl ⟨⟨w.heap.size + 1, m1, m2, m3, m4⟩, rfl, ?_, ?_⟩
   ·rw [zaD rfl]
    go_simp
   ·obtain ⟨n1, n2, n3, n4⟩ := HN0.out
    have n0 : w.heap.size + 1 ≠ w.heap.size := by omega
    exact ((((HVC.out.setc n0 n1 n2 n3 n4).setc n0 n1 n2 n3 n4).setc n0 n1 n2 n3 n4).setc n0 n1 n2 n3 n4).setc n0 n1 n2 n3 n4
   ·exact ((((HBL.out.setCell (Nat.le_refl _) _).setCell (Nat.le_refl _) _).setCell (Nat.le_refl _) _).setCell (Nat.le_refl _) _).setCell (Nat.le_refl _) _
  | succ g =>
   have k1 : (j : Int) ≤ 3 := by omega
   go_wp2
   go_loopg [3] 2 (fun g s3 wx => ∃ k : Nat, 1 ≤ k ∧ k + g = 3 ∧ s3 = .int .u8 (k : Int) ∧ Hid (VW w w4.heap.size ⟨w.heap.size + 1, m1, m2, m3, m4⟩ ((j - 1) * 2 + (k - 1)) wx) ∧ Hid (RB5 w.heap.size wx))
   case atStart => exact ⟨1, by omega, by omega, rfl, hidI HVW.out, HRB⟩
   case round =>
    obtain ⟨k, hk1, hkg, rfl, HVW2, HRB2⟩ := hrel
    clear HVW HRB
    cases gk with
    | zero =>
     obtain rfl : k = 3 := by omega
     have HVW3 : Hid (VW w w4.heap.size ⟨w.heap.size + 1, m1, m2, m3, m4⟩ ((j + 1 - 1) * 2) wr) := hidI (by have := HVW2.out; rwa [show (j - 1) * 2 + (3 - 1) = (j + 1 - 1) * 2 by omega] at this)
     clear HVW2
     go_wp2
     go_roundg g
     case measure => omega
     case rel => exact ⟨j + 1, by omega, by omega, by go_num, HVW3, HRB2⟩
    | succ g2 =>
     have k2 : (k : Int) ≤ 2 := by omega
     have HC := hidI (declSh_any j k hj1 (by omega) hk1 (by omega))
     have HM : Hid ((j - 1) * 2 + (k + 1 - 1) = (j - 1) * 2 + (k - 1) + 1) := hidI (by omega)
     have HD : Hid (dDc ((j - 1) * 2 + (k - 1)) = .agg #[.string ⟨#[]⟩, .int .u8 (j : Int), .int .u8 (k : Int)]) := hidI (by
      unfold dDc
      rw [show ((j - 1) * 2 + (k - 1)) / 2 + 1 = j by omega, show ((j - 1) * 2 + (k - 1)) % 2 + 1 = k by omega])
     have HS : Hid ((dWd ((j - 1) * 2 + (k - 1))).size ≤ maxLen) := hidI (by
      have hm : (j - 1) * 2 + (k - 1) = 0 ∨ (j - 1) * 2 + (k - 1) = 1 ∨ (j - 1) * 2 + (k - 1) = 2 ∨ (j - 1) * 2 + (k - 1) = 3 ∨ (j - 1) * 2 + (k - 1) = 4 ∨ (j - 1) * 2 + (k - 1) = 5 := by omega
      rcases hm with h | h | h | h | h | h <;> rw [h] <;> decide)
     go_wp2
     refine regV (vb := w4.heap.size) (mb := w.heap.size + 1) HVW2.out.c0 HC.out ?_ (fun _ _ _ _ _ h => h) ?_
     ·intro W hW
      obtain ⟨o, ho1, _, _⟩ := store under_85 Tryz.underlying9 (HVW2.out.voc.d.same (hW.block _ HVW2.out.voc.d.lt)) HS.out (dDc ((j - 1) * 2 + (k - 1)))
      have := ho1 W rfl
      rw [HD.out] at this
      exact ⟨_, this⟩
     ·intro W W' t18 t19 t20 t21 t22 t23 t24 t25 t26 hW hr
      obtain ⟨o, ho1, _, ho3⟩ := store under_85 Tryz.underlying9 (HVW2.out.voc.d.same (hW.block _ HVW2.out.voc.d.lt)) HS.out (dDc ((j - 1) * 2 + (k - 1)))
      have h1 := ho1 W rfl
      have hW' : Below wr.heap.size wr W := ⟨hW.os, hW.tape, hW.output, hW.size, hW.block⟩
      rw [HD.out] at h1
      have h2 : W' = setBlock W (w.heap.size + 1) o := by
       have := hr.symm.trans h1
       simpa using this
      have HVW4 : Hid (VW w w4.heap.size ⟨w.heap.size + 1, m1, m2, m3, m4⟩ ((j - 1) * 2 + (k + 1 - 1)) W') := hidI (by
       rw [h2, HM.out]
       exact (HVW2.out.on hW').put ho3)
      have HRB4 : Hid (RB5 w.heap.size W') := hidI (by
       rw [h2]
       exact (HRB2.out.on hW').same (zcP o (by omega)))
      clear h1 h2 hr ho1 ho3 hW hW' HVW2 HRB2 HC HD HS HM
      go_wp2
      go_roundg g2
      case measure => omega
      case rel => exact ⟨k + 1, by omega, by omega, by go_num, HVW4, HRB4⟩
open Go.RowKit Go.Deep Go.MapKept
def vw (n : Nat) : Option Value := if n = 0 then none else some (.int .u8 (n : Int))
theorem voc_stmt (s : ByteArray) : vocF stmtWd 7 s = vw (stmtOf s) := by
 by_cases h0 : s = (⟨#[115, 101, 116]⟩ : ByteArray)
 ·subst h0; kernel_rfl
 by_cases h1 : s = (⟨#[102, 111, 108, 100]⟩ : ByteArray)
 ·subst h1; kernel_rfl
 by_cases h2 : s = (⟨#[101, 97, 99, 104]⟩ : ByteArray)
 ·subst h2; kernel_rfl
 by_cases h3 : s = (⟨#[105, 102]⟩ : ByteArray)
 ·subst h3; kernel_rfl
 by_cases h4 : s = (⟨#[119, 104, 105, 108, 101]⟩ : ByteArray)
 ·subst h4; kernel_rfl
 by_cases h5 : s = (⟨#[108, 111, 111, 112]⟩ : ByteArray)
 ·subst h5; kernel_rfl
 by_cases h6 : s = (⟨#[98, 102, 115]⟩ : ByteArray)
 ·subst h6; kernel_rfl
 simp [vocF, upd, stmtWd, stmtOf, vw, h0, h1, h2, h3, h4, h5, h6]
theorem voc_act (s : ByteArray) : vocF actWd 3 s = vw (actOf s) := by
 by_cases h0 : s = (⟨#[112, 117, 116]⟩ : ByteArray)
 ·subst h0; kernel_rfl
 by_cases h1 : s = (⟨#[112, 117, 115, 104]⟩ : ByteArray)
 ·subst h1; kernel_rfl
 by_cases h2 : s = (⟨#[112, 117, 108, 108]⟩ : ByteArray)
 ·subst h2; kernel_rfl
 simp [vocF, upd, actWd, actOf, vw, h0, h1, h2]
theorem voc_expr (s : ByteArray) : vocF exprWd 10 s = vw (exprOf s) := by
 by_cases h0 : s = (⟨#[111, 119, 110]⟩ : ByteArray)
 ·subst h0; kernel_rfl
 by_cases h1 : s = (⟨#[102, 97, 114]⟩ : ByteArray)
 ·subst h1; kernel_rfl
 by_cases h2 : s = (⟨#[118, 105, 97]⟩ : ByteArray)
 ·subst h2; kernel_rfl
 by_cases h3 : s = (⟨#[105, 100]⟩ : ByteArray)
 ·subst h3; kernel_rfl
 by_cases h4 : s = (⟨#[102, 97, 114, 105, 100]⟩ : ByteArray)
 ·subst h4; kernel_rfl
 by_cases h5 : s = (⟨#[100, 101, 103]⟩ : ByteArray)
 ·subst h5; kernel_rfl
 by_cases h6 : s = (⟨#[99, 111, 117, 110, 116]⟩ : ByteArray)
 ·subst h6; kernel_rfl
 simp [vocF, upd, exprWd, exprOf, vw, h0, h1, h2, h3, h4, h5, h6]
theorem voc_op (s : ByteArray) : vocF opWd 19 s = vw (opOf s) := by
 by_cases h0 : s = (⟨#[43]⟩ : ByteArray)
 ·subst h0; kernel_rfl
 by_cases h1 : s = (⟨#[45]⟩ : ByteArray)
 ·subst h1; kernel_rfl
 by_cases h2 : s = (⟨#[42]⟩ : ByteArray)
 ·subst h2; kernel_rfl
 by_cases h3 : s = (⟨#[47]⟩ : ByteArray)
 ·subst h3; kernel_rfl
 by_cases h4 : s = (⟨#[37]⟩ : ByteArray)
 ·subst h4; kernel_rfl
 by_cases h5 : s = (⟨#[109, 105, 110]⟩ : ByteArray)
 ·subst h5; kernel_rfl
 by_cases h6 : s = (⟨#[109, 97, 120]⟩ : ByteArray)
 ·subst h6; kernel_rfl
 by_cases h7 : s = (⟨#[115, 104, 108]⟩ : ByteArray)
 ·subst h7; kernel_rfl
 by_cases h8 : s = (⟨#[115, 104, 114]⟩ : ByteArray)
 ·subst h8; kernel_rfl
 by_cases h9 : s = (⟨#[38]⟩ : ByteArray)
 ·subst h9; kernel_rfl
 by_cases h10 : s = (⟨#[124]⟩ : ByteArray)
 ·subst h10; kernel_rfl
 by_cases h11 : s = (⟨#[94]⟩ : ByteArray)
 ·subst h11; kernel_rfl
 by_cases h12 : s = (⟨#[61]⟩ : ByteArray)
 ·subst h12; kernel_rfl
 by_cases h13 : s = (⟨#[60]⟩ : ByteArray)
 ·subst h13; kernel_rfl
 by_cases h14 : s = (⟨#[110, 111, 116]⟩ : ByteArray)
 ·subst h14; kernel_rfl
 by_cases h15 : s = (⟨#[97, 110, 100]⟩ : ByteArray)
 ·subst h15; kernel_rfl
 by_cases h16 : s = (⟨#[111, 114]⟩ : ByteArray)
 ·subst h16; kernel_rfl
 by_cases h17 : s = (⟨#[105, 102]⟩ : ByteArray)
 ·subst h17; kernel_rfl
 by_cases h18 : s = (⟨#[110, 97, 114, 114, 111, 119]⟩ : ByteArray)
 ·subst h18; kernel_rfl
 simp [vocF, upd, opWd, opVals, opOf, opWs, vw, List.findIdx?_cons, h0, h1, h2, h3, h4, h5, h6, h7, h8, h9, h10, h11, h12, h13, h14, h15, h16, h17, h18]
def decV (o : Option (Nat × Nat)) : Option Value := match o with | none => none | some (sd, kd) => some (.agg #[.string ⟨#[]⟩, .int .u8 (sd : Int), .int .u8 (kd : Int)])
theorem voc_decl (s : ByteArray) : decF 6 s = decV (declOf s) := by
 by_cases h0 : s = (⟨#[105, 110, 116]⟩ : ByteArray)
 ·subst h0; kernel_rfl
 by_cases h1 : s = (⟨#[98, 111, 111, 108]⟩ : ByteArray)
 ·subst h1; kernel_rfl
 by_cases h2 : s = (⟨#[110, 105, 110, 116]⟩ : ByteArray)
 ·subst h2; kernel_rfl
 by_cases h3 : s = (⟨#[110, 98, 111, 111, 108]⟩ : ByteArray)
 ·subst h3; kernel_rfl
 by_cases h4 : s = (⟨#[101, 105, 110, 116]⟩ : ByteArray)
 ·subst h4; kernel_rfl
 by_cases h5 : s = (⟨#[101, 98, 111, 111, 108]⟩ : ByteArray)
 ·subst h5; kernel_rfl
 simp [decF, upd, dWd, declOf, decV, h0, h1, h2, h3, h4, h5]
structure Rw where
 v : Value
 e : Nat
 size : Nat
 n : Nat
 xs : List Value
def Ap (a b : Value) : Prop := a.ownBlock = none ∨ a.ownBlock ≠ b.ownBlock
theorem Ap.symm {a b : Value} (h : Ap a b) : Ap b a := by
 rcases h with h | h
 ·cases hb : b.ownBlock with
  | none => exact .inl hb
  | some k => exact .inr (by rw [hb, h]; simp)
 ·exact .inr (Ne.symm h)
def Own (w : World) (base : Nat) (r : Rw) : Prop := w.ownsRow base r.e r.size r.v r.n r.xs
structure RowsOk (w : World) (base : Nat) (l : List Rw) : Prop where
 own : ∀ r ∈ l, Own w base r
 apart : ∀ (i j : Nat) (a b : Rw), l[i]? = some a → l[j]? = some b → i ≠ j → Ap a.v b.v
theorem RowsOk.at {w : World} {base : Nat} {l : List Rw} (h : RowsOk w base l) {i : Nat} {r : Rw} (hr : l[i]? = some r) : w.ownsRow base r.e r.size r.v r.n r.xs := h.own r (List.mem_of_getElem? hr)
theorem RowsOk.far {w w' : World} {base : Nat} {l : List Rw} (h : RowsOk w base l) {row : Option Nat} (hg : w.grownBy w' row) (hne : ∀ r ∈ l, r.v.ownBlock = none ∨ r.v.ownBlock ≠ row) : RowsOk w' base l :=
 ⟨fun r hr => (h.own r hr).kept hg (hne r hr), h.apart⟩
theorem RowsOk.alloc {w : World} {base : Nat} {l : List Rw} (h : RowsOk w base l) (o : Obj) : RowsOk (w.alloc o) base l :=
 ⟨fun r hr => World.ownsRow.alloc (h.own r hr) o, h.apart⟩
theorem owns_drew {w : World} {base e size n : Nat} {v : Value} {xs : List Value} (h : w.ownsRow base e size v n xs) : w.drew.ownsRow base e size v n xs := h
theorem RowsOk.drew {w : World} {base : Nat} {l : List Rw} (h : RowsOk w base l) : RowsOk w.drew base l := ⟨fun r hr => owns_drew (h.own r hr), h.apart⟩
theorem RowsOk.put {w w' : World} {base : Nat} {l : List Rw} (h : RowsOk w base l) {i : Nat} {r r' : Rw} (hr : l[i]? = some r) (hg : w.grownBy w' r.v.ownBlock) (ho : Own w' base r') (hb : r'.v.ownBlock = none ∨ r'.v.ownBlock = r.v.ownBlock ∨ r'.v.ownBlock = some w.heap.size) : RowsOk w' base (l.set i r') := by
 have hap : ∀ j b, l[j]? = some b → i ≠ j → Ap r'.v b.v := by
  intro j b hj hij
  rcases hb with e | e | e
  ·exact .inl e
  ·have := h.apart i j r b hr hj hij
   unfold Ap at this ⊢
   rw [e]; exact this
  ·refine .inr ?_
   rw [e]
   intro hk
   have := (h.at hj).lt _ hk.symm
   omega
 constructor
 ·intro x hx
  obtain ⟨j, hj⟩ := List.getElem?_of_mem hx
  rw [List.getElem?_set] at hj
  by_cases hij : i = j
  ·subst hij
   have hlt : i < l.length := (List.getElem?_eq_some_iff.1 hr).1
   simp only [if_true, hlt] at hj
   cases hj; exact ho
  ·simp only [hij, if_false] at hj
   exact (h.at hj).kept hg ((h.apart i j r x hr hj hij).symm)
 ·intro a b x y hx hy hab
  rw [List.getElem?_set] at hx hy
  have hlt : i < l.length := (List.getElem?_eq_some_iff.1 hr).1
  by_cases ha : i = a
  ·subst ha
   have hb' : ¬ i = b := hab
   simp only [if_true, hlt, Option.some.injEq] at hx
   simp only [hb', if_false] at hy
   subst hx
   exact hap b y hy hab
  ·simp only [ha, if_false] at hx
   by_cases hbb : i = b
   ·subst hbb
    simp only [if_true, hlt, Option.some.injEq] at hy
    subst hy
    exact (hap a x hx ha).symm
   ·simp only [hbb, if_false] at hy
    exact h.apart a b x y hx hy hab
theorem RowsOk.push {w : World} {base : Nat} {l : List Rw} (h : RowsOk w base l) (e size : Nat) : RowsOk w base (l ++ [⟨.slice none 0 0, e, size, 0, []⟩]) := by
 constructor
 ·intro r hr
  rcases List.mem_append.1 hr with hr | hr
  ·exact h.own r hr
  ·obtain rfl : r = _ := by simpa using hr
   exact World.ownsRow_nil _ _ _ _
 ·intro i j a b ha hb hij
  have hn : Value.ownBlock (.slice none 0 0) = none := rfl
  by_cases hi : i < l.length
  ·rw [List.getElem?_append_left hi] at ha
   by_cases hj : j < l.length
   ·rw [List.getElem?_append_left hj] at hb; exact h.apart i j a b ha hb hij
   ·rw [List.getElem?_append_right (by omega)] at hb
    obtain ⟨k, hk⟩ : ∃ k, j - l.length = k := ⟨_, rfl⟩
    rw [hk] at hb
    cases k with
    | zero => simp at hb; subst hb; exact Ap.symm (.inl hn)
    | succ k => simp at hb
  ·rw [List.getElem?_append_right (by omega)] at ha
   obtain ⟨k, hk⟩ : ∃ k, i - l.length = k := ⟨_, rfl⟩
   rw [hk] at ha
   cases k with
   | zero => simp at ha; subst ha; exact .inl hn
   | succ k => simp at ha
theorem own_setG {w : World} {base e size n g cap j : Nat} {xs : List Value} (h : w.ownsRow base e size (.slice (some ⟨g, 0, none⟩) n cap) n xs) (u : Value) : (w.setCell ⟨g, j, none⟩ u).ownsRow base e size (.slice (some ⟨g, 0, none⟩) n cap) n (xs.set j u) := by
 refine ⟨by rw [List.length_set]; exact h.1, ?_⟩
 rcases h.2 with ⟨h0, _⟩ | ⟨g', cap', cur, he, hb, hh, h1, h2, h3, h4⟩
 ·cases h0
 ·simp only [Value.slice.injEq, Option.some.injEq, Addr.mk.injEq, and_true, true_and] at he
  obtain ⟨rfl, rfl⟩ := he
  refine .inr ⟨g, cap, cur.setIfInBounds j u, rfl, hb, heap_setCell_same _ _ _ _ _ _ hh, h1, h2, by simpa using h3, ?_⟩
  rw [Array.toList_setIfInBounds, List.take_set, h4]
theorem zbT (w : World) (g j : Nat) (u : Value) : w.grownBy (w.setCell ⟨g, j, none⟩ u) (some g) := ⟨rfl, rfl, rfl, (Below.setCell (Below.refl 0 w) (Nat.zero_le _) u).size, fun k _ hne => Below.heap_setCell w ⟨g, j, none⟩ u k (fun e => hne (by rw [e]))⟩
theorem RowsOk.setc {w : World} {base : Nat} {l : List Rw} (h : RowsOk w base l) {i g cap j : Nat} {r : Rw} (hr : l[i]? = some r) (hv : r.v = .slice (some ⟨g, 0, none⟩) r.n cap) (u : Value) : RowsOk (w.setCell ⟨g, j, none⟩ u) base (l.set i { r with xs := r.xs.set j u }) := by
 have ho := h.at hr
 refine h.put hr (by rw [hv]; exact zbT w g j u) ?_ (.inr (.inl rfl))
 unfold Own
 show (w.setCell ⟨g, j, none⟩ u).ownsRow base r.e r.size r.v r.n (r.xs.set j u)
 rw [hv] at ho ⊢
 exact own_setG ho u
theorem own_cut {w : World} {base e size n m : Nat} {a : Option Addr} {cap : Nat} {xs : List Value} (h : w.ownsRow base e size (.slice a n cap) n xs) (hm : m ≤ n) (ha : a ≠ none) : w.ownsRow base e size (.slice a m cap) m (xs.take (m * size)) := by
 have hmul : m * size ≤ n * size := Nat.mul_le_mul hm (Nat.le_refl _)
 refine ⟨by rw [List.length_take, h.1]; omega, ?_⟩
 rcases h.2 with ⟨h0, _⟩ | ⟨g', cap', cur, he, hb, hh, h1, h2, h3, h4⟩
 ·cases h0; exact absurd rfl ha
 ·cases he
  refine .inr ⟨g', cap, cur, rfl, hb, hh, by omega, h2, h3, ?_⟩
  rw [← h4, List.take_take]
  congr 1
  omega
abbrev FV := Frm × Value
def fcells (x : FV) : List Value := [.int .u8 x.1.k, .string x.1.s, .int .i64 x.1.n, x.2, .int .i64 x.1.p]
def flatF (l : List FV) : List Value := l.flatMap fcells
theorem flatF_append (a b : List FV) : flatF (a ++ b) = flatF a ++ flatF b := by simp [flatF]
theorem flatF_one (x : FV) : flatF [x] = fcells x := by simp [flatF]
theorem zcG : ∀ (l : List FV) (j i : Nat) (x : FV), l[j]? = some x → i < 5 → (flatF l)[j * 5 + i]? = (fcells x)[i]?
 | [], _, _, _, h, _ => by simp at h
 | y :: r, 0, i, x, h, hi => by
  obtain rfl : y = x := by simpa using h
  simp only [flatF, List.flatMap_cons, Nat.zero_mul, Nat.zero_add]
  rw [List.getElem?_append_left (by simpa [fcells] using hi)]
 | y :: r, j + 1, i, x, h, hi => by
  have := zcG r j i x (by simpa using h) hi
  rw [← this]
  simp only [flatF, List.flatMap_cons]
  rw [List.getElem?_append_right (by simp [fcells]; omega)]
  congr 1
  simp [fcells]; omega
theorem flatF_set : ∀ (l : List FV) (b : Nat) (g : Frm) (kv kv' : Value) (ks : List Nat), l[b]? = some (g, kv) → flatF (l.set b ({ g with kids := ks }, kv')) = (flatF l).set (b * 5 + 3) kv'
 | [], _, _, _, _, _, h => by simp at h
 | y :: r, 0, g, kv, kv', ks, h => by
  obtain rfl : y = (g, kv) := by simpa using h
  simp [flatF, fcells]
 | y :: r, b + 1, g, kv, kv', ks, h => by
  have ih := flatF_set r b g kv kv' ks (by simpa using h)
  unfold flatF at ih ⊢
  simp only [List.set_cons_succ, List.flatMap_cons]
  rw [ih]
  rw [show (b + 1) * 5 + 3 = (fcells y).length + (b * 5 + 3) by simp [fcells]; omega]
  rw [List.set_append_right _ _ (by omega)]
  congr 2
  omega
def ints (l : List Nat) : List Value := l.map fun (n : Nat) => Value.int .i64 (n : Int)
theorem ints_get {l : List Nat} {j x : Nat} (h : l[j]? = some x) : (ints l)[j]? = some (.int .i64 (x : Int)) := by simp [ints, h]
theorem ints_append (a b : List Nat) : ints (a ++ b) = ints a ++ ints b := by simp [ints]
def bx (B : Nat) : Value := .slice (some ⟨B, 0, none⟩) 1 1
def kidRow (x : FV) : Rw := ⟨x.2, 3, 1, x.1.kids.length, ints x.1.kids⟩
def rrows (B : Nat) (fs : List FV) (top opn : List Nat) (fv tv ov : Value) : List Rw :=
 ⟨bx B, 94, 3, 1, [fv, tv, ov]⟩ :: ⟨fv, 115, 5, fs.length, flatF fs⟩ :: ⟨tv, 3, 1, top.length, ints top⟩ :: ⟨ov, 3, 1, opn.length, ints opn⟩ :: ⟨bx (B + 1), 96, 2, 1, [.int .i64 0, .int .i64 0]⟩ :: fs.map kidRow
def RD (w : World) (base B : Nat) (fs : List FV) (top opn : List Nat) (fv tv ov : Value) : Prop := RowsOk w base (rrows B fs top opn fv tv ov)
section
variable {w : World} {base B : Nat} {fs : List FV} {top opn : List Nat} {fv tv ov : Value}
theorem bx_cell {w : World} {base B e n : Nat} {xs : List Value} {j : Nat} {u : Value} (h : w.ownsRow base e 3 (bx B) n xs) (hj : xs[j]? = some u) : w.cell? ⟨B, j, none⟩ = some u := by
 have := World.ownsRow.cells h (g := B) rfl j u hj
 rwa [show (⟨B, 0, none⟩ : Addr).add j = ⟨B, 0 + j, none⟩ from Addr.add_lit .., Nat.zero_add] at this
theorem RD.c0 (h : RD w base B fs top opn fv tv ov) : w.cell? ⟨B, 0, none⟩ = some fv := bx_cell (RowsOk.at (i := 0) h rfl) rfl
theorem RD.c1 (h : RD w base B fs top opn fv tv ov) : w.cell? ⟨B, 1, none⟩ = some tv := bx_cell (RowsOk.at (i := 0) h rfl) rfl
theorem RD.c2 (h : RD w base B fs top opn fv tv ov) : w.cell? ⟨B, 2, none⟩ = some ov := bx_cell (RowsOk.at (i := 0) h rfl) rfl
theorem zcT {w : World} {base e size n g cap : Nat} {xs : List Value} (h : w.ownsRow base e size (.slice (some ⟨g, 0, none⟩) n cap) n xs) (j : Nat) : w.frozen? ⟨g, j, none⟩ = false := by
 rcases h.2 with ⟨h0, _⟩ | ⟨g', cap', cur, he, hb, hh, h1, h2, h3, h4⟩
 ·cases h0
 ·simp only [Value.slice.injEq, Option.some.injEq, Addr.mk.injEq, and_true, true_and] at he
  obtain ⟨rfl, rfl⟩ := he
  unfold World.frozen?
  simp [hh]
theorem RD.free (h : RD w base B fs top opn fv tv ov) (j : Nat) : w.frozen? ⟨B, j, none⟩ = false := zcT (RowsOk.at (i := 0) h rfl) j
theorem RD.lt (h : RD w base B fs top opn fv tv ov) : base ≤ B ∧ B < w.heap.size := (RowsOk.at (i := 0) h rfl).lt B rfl
theorem RD.fo (h : RD w base B fs top opn fv tv ov) : w.ownsRow base 115 5 fv fs.length (flatF fs) := RowsOk.at (i := 1) h rfl
theorem RD.to (h : RD w base B fs top opn fv tv ov) : w.ownsRow base 3 1 tv top.length (ints top) := RowsOk.at (i := 2) h rfl
theorem RD.oo (h : RD w base B fs top opn fv tv ov) : w.ownsRow base 3 1 ov opn.length (ints opn) := RowsOk.at (i := 3) h rfl
theorem RD.eo (h : RD w base B fs top opn fv tv ov) : w.ownsRow base 96 2 (bx (B + 1)) 1 [.int .i64 0, .int .i64 0] := RowsOk.at (i := 4) h rfl
theorem RD.kat {b : Nat} {x : FV} (hx : fs[b]? = some x) : (rrows B fs top opn fv tv ov)[b + 5]? = some (kidRow x) := by simp [rrows, hx]
theorem RD.ko (h : RD w base B fs top opn fv tv ov) {b : Nat} {x : FV} (hx : fs[b]? = some x) : w.ownsRow base 3 1 x.2 x.1.kids.length (ints x.1.kids) := RowsOk.at (i := b + 5) h (RD.kat hx)
theorem RD.drew (h : RD w base B fs top opn fv tv ov) : RD w.drew base B fs top opn fv tv ov := RowsOk.drew h
theorem RD.alloc (h : RD w base B fs top opn fv tv ov) (o : Obj) : RD (w.alloc o) base B fs top opn fv tv ov := RowsOk.alloc h o
def RB (B : Nat) (fs : List FV) (top opn : List Nat) (fv tv ov : Value) (k : Nat) : Prop := ∃ r ∈ rrows B fs top opn fv tv ov, r.v.ownBlock = some k
theorem RD.block (h : RD w base B fs top opn fv tv ov) {k : Nat} (hk : RB B fs top opn fv tv ov k) : base ≤ k ∧ k < w.heap.size := by
 obtain ⟨r, hr, e⟩ := hk
 exact (RowsOk.own h r hr).lt k e
structure Chg (R : Nat → Prop) (w w' : World) : Prop where
 os : w'.os = w.os
 tape : w'.tape = w.tape
 output : w'.output = w.output
 size : w.heap.size ≤ w'.heap.size
 block : ∀ k, k < w.heap.size → ¬ R k → w'.heap[k]? = w.heap[k]?
theorem Chg.refl (R : Nat → Prop) (w : World) : Chg R w w := ⟨rfl, rfl, rfl, Nat.le_refl _, fun _ _ _ => rfl⟩
theorem Chg.grown {R : Nat → Prop} {a b c : World} (h : Chg R a b) {row : Option Nat} (hg : b.grownBy c row) (hr : ∀ k, row = some k → k < a.heap.size → R k) : Chg R a c :=
 ⟨hg.os.trans h.os, hg.tape.trans h.tape, hg.output.trans h.output, Nat.le_trans h.size hg.size, fun i hi hn => (hg.block i (Nat.lt_of_lt_of_le hi h.size) (fun e => hn (hr i e.symm hi))).trans (h.block i hi hn)⟩
theorem Chg.alloc {R : Nat → Prop} {a b : World} (h : Chg R a b) (o : Obj) : Chg R a (b.alloc o) := h.grown (World.grownBy_alloc b o none) (fun _ e => by cases e)
theorem Chg.drew {R : Nat → Prop} {a b : World} (h : Chg R a b) : Chg R a b.drew := ⟨h.os, h.tape, h.output, h.size, h.block⟩
theorem Chg.setc {R : Nat → Prop} {a b : World} (h : Chg R a b) {g j : Nat} {u : Value} (hr : g < a.heap.size → R g) : Chg R a (b.setCell ⟨g, j, none⟩ u) := h.grown (zbT b g j u) (fun k e hk => by cases e; exact hr hk)
theorem Chg.below {R : Nat → Prop} {n : Nat} {a b : World} (h : Chg R a b) (hn : n ≤ a.heap.size) (hR : ∀ k, k < n → ¬ R k) : Below n a b :=
 ⟨h.os, h.tape, h.output, h.size, fun k hk => h.block k (Nat.lt_of_lt_of_le hk hn) (hR k hk)⟩
theorem Chg.cell {R : Nat → Prop} {a b : World} (h : Chg R a b) {p : Addr} {u : Value} (hc : a.cell? p = some u) (hr : ¬ R p.block) : b.cell? p = some u :=
 (World.cell?_of_block (w := a) (h.block p.block (World.block_lt_of_cell? a _ hc) hr)).trans hc
theorem RD.putO (h : RD w base B fs top opn fv tv ov) {w' : World} {ov' : Value} {opn' : List Nat} (hg : w.grownBy w' ov.ownBlock) (ho : w'.ownsRow base 3 1 ov' opn'.length (ints opn')) (hb : ov'.ownBlock = none ∨ ov'.ownBlock = ov.ownBlock ∨ ov'.ownBlock = some w.heap.size) :
  RD (w'.setCell ⟨B, 2, none⟩ ov') base B fs top opn' fv tv ov' := by
 have h1 := RowsOk.put (i := 3) (r' := ⟨ov', 3, 1, opn'.length, ints opn'⟩) h rfl hg ho hb
 exact RowsOk.setc (i := 0) (g := B) (cap := 1) (j := 2) (r := ⟨bx B, 94, 3, 1, [fv, tv, ov]⟩) h1 rfl rfl ov'
theorem RD.putT (h : RD w base B fs top opn fv tv ov) {w' : World} {tv' : Value} {top' : List Nat} (hg : w.grownBy w' tv.ownBlock) (ho : w'.ownsRow base 3 1 tv' top'.length (ints top')) (hb : tv'.ownBlock = tv.ownBlock ∨ tv'.ownBlock = some w.heap.size) :
  RD (w'.setCell ⟨B, 1, none⟩ tv') base B fs top' opn fv tv' ov := by
 have h1 := RowsOk.put (i := 2) (r' := ⟨tv', 3, 1, top'.length, ints top'⟩) h rfl hg ho (.inr hb)
 exact RowsOk.setc (i := 0) (g := B) (cap := 1) (j := 1) (r := ⟨bx B, 94, 3, 1, [fv, tv, ov]⟩) h1 rfl rfl tv'
theorem RD.putF (h : RD w base B fs top opn fv tv ov) {w' : World} {fv' : Value} {f : Frm} (hf : f.kids = []) (hg : w.grownBy w' fv.ownBlock) (ho : w'.ownsRow base 115 5 fv' (fs.length + 1) (flatF fs ++ fcells (f, .slice none 0 0))) (hb : fv'.ownBlock = fv.ownBlock ∨ fv'.ownBlock = some w.heap.size) :
  RD (w'.setCell ⟨B, 0, none⟩ fv') base B (fs ++ [(f, Value.slice none 0 0)]) top opn fv' tv ov := by
 have ho' : w'.ownsRow base 115 5 fv' (fs ++ [(f, Value.slice none 0 0)]).length (flatF (fs ++ [(f, Value.slice none 0 0)])) := by
  rw [flatF_append, flatF_one, List.length_append]; exact ho
 have h1 := RowsOk.put (i := 1) (r' := ⟨fv', 115, 5, (fs ++ [(f, Value.slice none 0 0)]).length, flatF (fs ++ [(f, Value.slice none 0 0)])⟩) h rfl hg ho' (.inr hb)
 have h2 := RowsOk.setc (i := 0) (g := B) (cap := 1) (j := 0) (r := ⟨bx B, 94, 3, 1, [fv, tv, ov]⟩) h1 rfl rfl fv'
 have h3 := RowsOk.push h2 3 1
 unfold RD
 have e : rrows B (fs ++ [(f, Value.slice none 0 0)]) top opn fv' tv ov = ((((rrows B fs top opn fv tv ov).set 1 ⟨fv', 115, 5, (fs ++ [(f, Value.slice none 0 0)]).length, flatF (fs ++ [(f, Value.slice none 0 0)])⟩).set 0 ⟨bx B, 94, 3, 1, [fv', tv, ov]⟩) ++ [⟨.slice none 0 0, 3, 1, 0, []⟩]) := by
  simp [rrows, kidRow, hf, ints]
 rw [e]
 exact h3
theorem RD.putK (h : RD w base B fs top opn fv tv ov) {w' : World} {b g cap : Nat} {x : FV} {kv' : Value} {n : Nat} (hx : fs[b]? = some x) (hv : fv = .slice (some ⟨g, 0, none⟩) fs.length cap) (hg : w.grownBy w' x.2.ownBlock) (ho : w'.ownsRow base 3 1 kv' (x.1.kids.length + 1) (ints x.1.kids ++ [.int .i64 (n : Int)])) (hb : kv'.ownBlock = x.2.ownBlock ∨ kv'.ownBlock = some w.heap.size) :
  RD (w'.setCell ⟨g, b * 5 + 3, none⟩ kv') base B (fs.set b (addKid n x.1, kv')) top opn fv tv ov := by
 have ho' : Own w' base (kidRow (addKid n x.1, kv')) := by
  unfold Own kidRow addKid
  show w'.ownsRow base 3 1 kv' (x.1.kids ++ [n]).length (ints (x.1.kids ++ [n]))
  rw [ints_append, List.length_append]
  exact ho
 have h1 := RowsOk.put (i := b + 5) h (RD.kat hx) hg ho' (.inr hb)
 have hlt : b < fs.length := (List.getElem?_eq_some_iff.1 hx).1
 have h2 := RowsOk.setc (i := 1) (g := g) (cap := cap) (j := b * 5 + 3) (r := ⟨fv, 115, 5, fs.length, flatF fs⟩) h1 (by simp [rrows]) hv kv'
 unfold RD
 have e : rrows B (fs.set b (addKid n x.1, kv')) top opn fv tv ov = ((rrows B fs top opn fv tv ov).set (b + 5) (kidRow (addKid n x.1, kv'))).set 1 ⟨fv, 115, 5, fs.length, (flatF fs).set (b * 5 + 3) kv'⟩ := by
  have e1 := flatF_set fs b x.1 x.2 kv' (x.1.kids ++ [n]) hx
  have e2 : flatF (fs.set b (addKid n x.1, kv')) = (flatF fs).set (b * 5 + 3) kv' := e1
  simp only [rrows, e2, List.length_set, List.map_set, List.set_cons_succ, List.set_cons_zero]
 rw [e]
 exact h2
end
section
variable {w : World} {base B : Nat} {fs : List FV} {top opn : List Nat} {fv tv ov : Value}
theorem own_some {w : World} {base e size n : Nat} {v : Value} {xs : List Value} (h : w.ownsRow base e size v n xs) (hn : 0 < n) : ∃ g cap, v = .slice (some ⟨g, 0, none⟩) n cap ∧ base ≤ g ∧ g < w.heap.size := by
 have hl := h.lt
 rcases h.2 with ⟨_, h0⟩ | ⟨g, cap, cur, rfl, _⟩
 ·omega
 ·have := hl g rfl
  exact ⟨g, cap, rfl, this.1, this.2⟩
theorem own_cell {w : World} {base e size n g cap : Nat} {xs : List Value} (h : w.ownsRow base e size (.slice (some ⟨g, 0, none⟩) n cap) n xs) {j : Nat} {u : Value} (hj : xs[j]? = some u) : w.cell? ⟨g, j, none⟩ = some u := by
 have := World.ownsRow.cells h (g := g) rfl j u hj
 rwa [show (⟨g, 0, none⟩ : Addr).add j = ⟨g, 0 + j, none⟩ from Addr.add_lit .., Nat.zero_add] at this
theorem inner_any (h : RD w base B fs top opn fv tv ov) (hG : opn.length ≤ 12) {b : Nat} (hb : opn.getLast? = some b) : Calls Tryz.prog 114 #[.pointer (some ⟨B, 0, none⟩)] w fun e w' => e = .returned (.int .i64 (b : Int)) ∧ ∃ n, w.drewN n = w' := by
 obtain ⟨pre, rfl⟩ : ∃ pre, opn = pre ++ [b] := by
  rcases List.eq_nil_or_concat opn with rfl | ⟨pre, x, rfl⟩
  ·simp at hb
  ·simp at hb; subst hb; exact ⟨pre, by simp⟩
 obtain ⟨g, cap, hv, _, _⟩ := own_some h.oo (by simp)
 have h2 := h.c2
 have ho := h.oo
 rw [hv] at ho h2
 have hcell := own_cell ho (j := pre.length) (ints_get (x := b) (by simp))
 simp only [List.length_append, List.length_cons, List.length_nil, Nat.zero_add] at h2 hG
 clear ho hb hv h
 obtain ⟨m, hm⟩ : ∃ m, pre.length = m := ⟨_, rfl⟩
 rw [hm] at h2 hG hcell
 have e1 : IntKind.i64.wrap (((m + 1 : Nat) : Int) - 1) = (m : Int) := by rw [show (((m + 1 : Nat) : Int) - 1) = (m : Int) by omega]; rw [IntKind.wrap_i64]; omega
 have e2 : (m : Int) < ((m + 1 : Nat) : Int) := by omega
 have e3 : (0 : Int) ≤ (m : Int) := by omega
 have e4 : m < m + 1 := by omega
 have e5 : ((m : Int)).toNat = m := by omega
 go_enter Tryz.func114, Tryz.ntmps114
 go_wp2
 go_quiet (fail)
 generalize nq = n1
 go_wp2
 go_ret
 exact ⟨rfl, n1, rfl⟩
end
end Go.Proofs.YtmekkhfohmfjkaaGreatDoor
