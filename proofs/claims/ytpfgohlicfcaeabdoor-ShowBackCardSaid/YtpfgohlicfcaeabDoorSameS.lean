/-
  Same: forms that are the same but for places are told to be the same.
-/
import Derived.Test.YtpfgohlicfcaeabDoorBackM
namespace Go.Proofs.YtpfgohlicfcaeabDoor
open Go.RowKit Go.Deep Go.MapKept Go.Shelf
theorem below_drewN8 (w : World) (n : Nat) : Below w.heap.size w (w.drewN n) := ⟨rfl, rfl, rfl, Nat.le_refl _, fun _ _ => rfl⟩
theorem equal_ok (v u : Value) (ks : List Int) (w : World) (hv : SeesC w v ks.length 1 (intsI ks)) (hu : SeesC w u ks.length 1 (intsI ks)) (hl : ks.length ≤ 4611686018427387904) :
    Calls Tryd.prog 23 #[v, u] w fun e w' => e = .returned (.bool true) ∧ Below w.heap.size w w' := by
  obtain ⟨_, a, c, rfl, h1⟩ := hv
  obtain ⟨_, a', c', rfl, h2⟩ := hu
  by_cases h0 : ks.length = 0
  · rw [h0]
    refine (Tryd.slices_Equal_int_empty a a' c 0 c' w (by omega)).mono ?_
    rintro e w' ⟨rfl, rfl⟩
    exact ⟨rfl, Below.refl _ _⟩
  · obtain ⟨b, off, rfl, hc⟩ := h1.resolve_left h0
    obtain ⟨b', off', rfl, hc'⟩ := h2.resolve_left h0
    have hcell : ∀ (b off : Nat), (∀ (j : Nat) (c : Value), (intsI ks)[j]? = some c → w.cell? ⟨b, off + j, none⟩ = some c) → ∀ j, j < ks.length → w.cell? ⟨b, off + j, none⟩ = some (.int .i64 (ks.getD j 0)) := fun b off h j hj => by
      refine h j _ (intsI_get ?_)
      rw [List.getD_eq_getElem?_getD, List.getElem?_eq_getElem hj]
      rfl
    refine (Tryd.slices_Equal_int b off ks.length c b' off' ks.length c' ks ks w (Nat.le_refl _) (Nat.le_refl _) (by omega) (by omega) (hcell b off hc) (hcell b' off' hc')).mono ?_
    rintro e w' ⟨rfl, q, rfl⟩
    exact ⟨by simp, below_drewN8 w q⟩
def keyM (x : MV) : Int × ByteArray × Int × List Int := (x.1.k, x.1.s, x.1.n, x.1.kids)
set_option maxHeartbeats 1000000 in
theorem alike_ok (k : Int) (s : ByteArray) (n p q : Int) (a a' : Option Addr) (c c' : Nat) (ks : List Int) (w : World) (hv : SeesC w (.slice a ks.length c) ks.length 1 (intsI ks)) (hu : SeesC w (.slice a' ks.length c') ks.length 1 (intsI ks)) (hl : ks.length ≤ 4611686018427387904) :
    Calls Tryd.prog 25 #[.agg #[.int .u8 k, .string s, .int .i64 n, .slice a ks.length c, .int .i64 p], .agg #[.int .u8 k, .string s, .int .i64 n, .slice a' ks.length c', .int .i64 q]] w fun e w' => e = .returned (.bool true) ∧ Below w.heap.size w w' := by
  have CE := hidI fun (y : World) (hy : Below w.heap.size w y) => equal_ok _ _ ks y (hv.below hy (Nat.le_refl _)) (hu.below hy (Nat.le_refl _)) hl
  have hb : Below w.heap.size w ((w.alloc (.cells #[.int .u8 k, .string s, .int .i64 n, .slice a ks.length c, .int .i64 p] 35)).alloc (.cells #[.int .u8 k, .string s, .int .i64 n, .slice a' ks.length c', .int .i64 q] 35)) := by (repeat (first | exact Below.refl _ _ | assumption | refine Below.drew ?_ | refine Below.alloc ?_ (by first | omega | (simp; done) | (simp; omega)) _ | refine Below.setCell ?_ (by first | omega | (simp; done) | (simp; omega)) _))
  have HB := hidI hb
  clear hv hu hb
  go_enter Tryd.func25, Tryd.ntmps25
  go_wp2_with (go_at_call 23; refine (CE.out _ HB.out).mono ?_; rintro e w1 ⟨rfl, hb1⟩; have HB1 := hidI (HB.out.trans (hb1.mono HB.out.size)); clear hb1)
  go_ret
  exact ⟨by simp, HB1.out⟩
set_option maxHeartbeats 1000000 in
theorem equalFunc_ok (fv gv : Value) (ms ns : List MV) (w : World) (hm : SeesM w fv ms) (hn : SeesM w gv ns) (hk : ms.map keyM = ns.map keyM) (hml : ms.length ≤ 100000) (hfew : ∀ x ∈ ms, x.1.kids.length ≤ 4611686018427387904) :
    Calls Tryd.prog 24 #[fv, gv, .func (.func 25) #[] #[]] w fun e w' => e = .returned (.bool true) ∧ Below w.heap.size w w' := by
  have hlen : ns.length = ms.length := by have := congrArg List.length hk; simpa using this.symm
  obtain ⟨_, fa, fc, hfv, _⟩ := hm.row
  obtain ⟨_, ga, gc, hgv, _⟩ := hn.row
  rw [hlen] at hgv
  subst hfv
  subst hgv
  have HM := hidI hm
  have HN := hidI hn
  have HK := hidI hk
  have HF := hidI hfew
  have HLen := hidI hlen
  clear hm hn hk hfew hlen
  go_enter Tryd.func24, Tryd.ntmps24
  go_wp2
  go_loopg [17] ms.length (fun g s17 wx => ∃ i : Nat, i + g = ms.length ∧ s17 = .int .i64 (i : Int) ∧ Hid (Below w.heap.size w wx))
  case atStart => exact ⟨0, by omega, rfl, hidI (Below.refl _ _)⟩
  case round =>
    obtain ⟨i, hi, rfl, HX⟩ := hrel
    cases gk with
    | zero =>
      have i1 : ¬ ((i : Int) < (ms.length : Int)) := by omega
      go_wp2
      go_ret
      exact ⟨rfl, HX.out⟩
    | succ g =>
      have hil : i < ms.length := by omega
      have hil2 : i < ns.length := by rw [HLen.out]; exact hil
      obtain ⟨x, hx⟩ : ∃ x, ms[i]? = some x := ⟨_, List.getElem?_eq_getElem hil⟩
      obtain ⟨y, hy⟩ : ∃ y, ns[i]? = some y := ⟨_, List.getElem?_eq_getElem hil2⟩
      have hkey : keyM x = keyM y := by
        have := congrArg (fun l => l[i]?) HK.out
        simp only [List.getElem?_map, hx, hy, Option.map_some, Option.some.injEq] at this
        exact this
      unfold keyM at hkey
      simp only [Prod.mk.injEq] at hkey
      obtain ⟨k1, k2, k3, k4⟩ := hkey
      have hsm := HM.out.below HX.out (Nat.le_refl _)
      have hsn := HN.out.below HX.out (Nat.le_refl _)
      obtain ⟨fb, fo, fc', ka, kc, hfv, hkv, y0, y1, y2, y3, y4⟩ := hsm.load hx
      obtain ⟨gb, go', gc', la, lc, hgv, hlv, z0, z1, z2, z3, z4⟩ := hsn.load hy
      rw [HLen.out] at hgv
      cases hfv
      cases hgv
      have q1 := hsm.kid i x hx
      have q2 := hsn.kid i y hy
      rw [hkv] at q1
      rw [hlv] at q2
      rw [← k4] at q2 z3
      rw [← k1] at z0
      rw [← k2] at z1
      rw [← k3] at z2
      have hfx := HF.out x (List.mem_of_getElem? hx)
      have CA := hidI fun (Y : World) (hY : Below wr.heap.size wr Y) => alike_ok x.1.k x.1.s x.1.n x.1.p y.1.p ka la kc lc x.1.kids Y (q1.below hY (Nat.le_refl _)) (q2.below hY (Nat.le_refl _)) hfx
      have hb2 : Below wr.heap.size wr ((wr.alloc (.cells #[.int .u8 x.1.k, .string x.1.s, .int .i64 x.1.n, .slice ka x.1.kids.length kc, .int .i64 x.1.p] 35)).alloc (.cells #[.int .u8 x.1.k, .string x.1.s, .int .i64 x.1.n, .slice la x.1.kids.length lc, .int .i64 y.1.p] 35)) := by (repeat (first | exact Below.refl _ _ | assumption | refine Below.drew ?_ | refine Below.alloc ?_ (by first | omega | (simp; done) | (simp; omega)) _ | refine Below.setCell ?_ (by first | omega | (simp; done) | (simp; omega)) _))
      have HB2 := hidI hb2
      have hA : Below wr.heap.size wr (wr.alloc (.cells #[.int .u8 x.1.k, .string x.1.s, .int .i64 x.1.n, .slice ka x.1.kids.length kc, .int .i64 x.1.p] 35)) := by (repeat (first | exact Below.refl _ _ | assumption | refine Below.drew ?_ | refine Below.alloc ?_ (by first | omega | (simp; done) | (simp; omega)) _ | refine Below.setCell ?_ (by first | omega | (simp; done) | (simp; omega)) _))
      have lt1 := World.block_lt_of_cell? wr _ z0
      have z0' := (hA.cell lt1).trans z0
      have z1' := (hA.cell (p := ⟨gb, go' + i * 5 + 1, none⟩) lt1).trans z1
      have z2' := (hA.cell (p := ⟨gb, go' + i * 5 + 2, none⟩) lt1).trans z2
      have z3' := (hA.cell (p := ⟨gb, go' + i * 5 + 3, none⟩) lt1).trans z3
      have z4' := (hA.cell (p := ⟨gb, go' + i * 5 + 4, none⟩) lt1).trans z4
      have i1 : (i : Int) < (ms.length : Int) := by omega
      have i2 : (0 : Int) ≤ (i : Int) := by omega
      have i3 : ((i : Int)).toNat = i := by omega
      clear q1 q2 hkv hlv hsm hsn k1 k2 k3 k4 hb2 hA hx hy hil hil2 hfx
      go_wp2_with (go_at_call 25; refine (CA.out _ HB2.out).mono ?_; rintro e w1 ⟨rfl, hb1⟩; have HB1 := hidI (HX.out.trans ((HB2.out.trans (hb1.mono HB2.out.size)).mono HX.out.size)); clear hb1)
      go_roundg g
      case measure => omega
      case rel => exact ⟨i + 1, by omega, by go_num, HB1⟩
set_option maxHeartbeats 1000000 in
theorem same_ok (fv tv gv uv : Value) (ms ns : List MV) (top : List Int) (w : World) (hm : SeesM w fv ms) (hn : SeesM w gv ns) (hk : ms.map keyM = ns.map keyM) (hml : ms.length ≤ 100000) (hfew : ∀ x ∈ ms, x.1.kids.length ≤ 4611686018427387904) (ht : SeesC w tv top.length 1 (intsI top)) (hu : SeesC w uv top.length 1 (intsI top)) (htl : top.length ≤ 4611686018427387904) (hR1 : RightC fv tv true w) (hR2 : RightC gv uv true w) :
    Calls Tryd.prog 11 #[fv, tv, gv, uv] w fun e w' => e = .returned (.bool true) ∧ Below w.heap.size w w' := by
  have C1 := hidI (hR1 w (Below.refl _ _))
  have C2 := hidI hR2
  have C3 := hidI fun (y : World) (hy : Below w.heap.size w y) => equal_ok tv uv top y (ht.below hy (Nat.le_refl _)) (hu.below hy (Nat.le_refl _)) htl
  have C4 := hidI fun (y : World) (hy : Below w.heap.size w y) => equalFunc_ok fv gv ms ns y (hm.below hy (Nat.le_refl _)) (hn.below hy (Nat.le_refl _)) hk hml hfew
  clear hm hn hk hfew ht hu hR1 hR2
  go_enter Tryd.func11, Tryd.ntmps11
  go_wp2_with (go_at_call 22; refine C1.out.mono ?_; rintro e w1 ⟨rfl, hb1⟩; have HB1 := hidI hb1; clear hb1 C1; refine Hid.out ?_)
  refine hidI ?_
  go_wp2_with (go_at_call 22; refine (C2.out _ HB1.out).mono ?_; rintro e w2 ⟨rfl, hb2⟩; have HB2 := hidI (HB1.out.trans (hb2.mono HB1.out.size)); clear hb2 C2; refine Hid.out ?_)
  refine hidI ?_
  go_wp2_with (first
    | (go_at_call 23; refine (C3.out _ HB2.out).mono ?_; rintro e w3 ⟨rfl, hb3⟩; have HB3 := hidI (HB2.out.trans (hb3.mono HB2.out.size)); clear hb3)
    | (go_at_call 24; refine (C4.out _ HB3.out).mono ?_; rintro e w4 ⟨rfl, hb4⟩; have HB4 := hidI (HB3.out.trans (hb4.mono HB3.out.size)); clear hb4))
  go_ret
  exact ⟨rfl, HB4.out⟩
end Go.Proofs.YtpfgohlicfcaeabDoor
/-
  Reading any text; texts of forms that are the same but for places.
-/
namespace Go.Proofs.YtpfgohlicfcaeabDoor
open Go.RowKit Go.Deep Go.MapKept Go.Shelf
theorem run_sub2 {t : Txt} : ∀ (r : Txt) (p : Nat) (b : Option Nat) (k : Bool), ∀ q ∈ run t p b k r, q.2.length ≤ max t.length 1 := by
  intro r
  have hw : ∀ (p : Nat) (b : Option Nat), ∀ q ∈ word t p b, q.2.length ≤ max t.length 1 := by
    intro p b q hq
    cases b with
    | none => simp [word] at hq
    | some b => simp [word] at hq; subst hq; simp only [List.length_take, List.length_drop]; omega
  induction r with
  | nil =>
    intro p b k q hq
    cases k <;> exact hw p b q (by simpa [run] using hq)
  | cons c r ih =>
    intro p b k q hq
    cases k with
    | true =>
      simp only [run] at hq
      split at hq <;> exact ih _ _ _ q hq
    | false =>
      simp only [run] at hq
      split at hq
      · rcases List.mem_append.1 hq with h | h
        · exact hw p b q h
        · exact ih _ _ _ q h
      · split at hq
        · rcases List.mem_append.1 hq with h | h
          · exact hw p b q h
          · rcases List.mem_cons.1 h with rfl | h
            · simp; omega
            · exact ih _ _ _ q h
        · split at hq
          · rcases List.mem_append.1 hq with h | h
            · exact hw p b q h
            · exact ih _ _ _ q h
          · exact ih _ _ _ q hq
theorem lex_ok3 (s : ByteArray) : (lexRes s).1.length ≤ 600 ∧ ∀ t ∈ (lexRes s).1, TokOk t := by
  unfold lexRes
  by_cases h : 3000 < s.size
  · rw [if_pos h]; simp
  rw [if_neg h]
  split
  · simp
  · rename_i hb
    obtain ⟨h1, h2⟩ := bad_none 0 _ (by omega) hb
    refine ⟨by simpa using h1, fun t ht => ?_⟩
    obtain ⟨q, hq, rfl⟩ := List.mem_map.1 ht
    have hl := run_sub2 _ _ _ _ q hq
    have hsz : s.data.toList.length = s.size := by rw [Array.length_toList]; rfl
    refine ⟨fun h3 => ?_, fun h4 => ?_, ?_⟩
    · have h3' : kindP q.2 = 3 := h3
      unfold kindP at h3'
      split at h3'
      · simp at h3'
      · split at h3'
        · simp at h3'
        · exact h3'
    · have h4' : kindP q.2 = 4 := h4
      show In64 (numP q.2)
      unfold numP
      rw [if_pos h4']
      unfold kindP at h4'
      split at h4'
      · simp at h4'
      · split at h4'
        · simp at h4'
        · unfold kindW at h4'
          split at h4'
          · rename_i hn; exact (numV_in hn).1
          · split at h4' <;> simp at h4'
    · show (bytesOf q.2).size ≤ 3000
      rw [bytes_size]
      omega
set_option maxHeartbeats 1000000 in
theorem read9_any (s : ByteArray) (w : World) : Calls Tryd.prog 7 #[.string s] w fun e w' => ReadPost s w e w' := by
  have CT := hidI (rtoks_any s w)
  have hlen := (lex_ok3 s).1
  have CP := hidI fun (v : Value) (y : World) (hv : SeesC y v (lexRes s).1.length 4 (flatT (lexRes s).1)) => rtparse_any (lexRes s).1 v y hv (by omega)
  have HR : Hid (readR s = if (lexRes s).2.2 = 0 then (match parse (lexRes s).1 with | .ok σ => some σ | .error _ => none) else none) := hidI rfl
  unfold ReadPost
  rw [HR.out]
  obtain ⟨lr, hlr⟩ : ∃ lr, lexRes s = lr := ⟨_, rfl⟩
  have HT : Hid (∀ v w', RTPost s w v w' → ∃ u, v = .tuple #[u, .int .i64 lr.2.1, .int .i64 lr.2.2] ∧ SeesC w' u lr.1.length 4 (flatT lr.1) ∧ Below w.heap.size w w') := hidI fun v w' hp => by rw [← hlr]; exact hp
  rw [hlr] at CP ⊢
  clear hlr hlen HR
  by_cases h0 : lr.2.2 = 0
  · rw [if_pos h0]
    rw [h0] at HT
    cases hp : parse lr.1 with
    | error q =>
      rw [hp] at CP
      have hq := tparse_err hp
      have hne : (q.2 == 0) = false := by rcases hq with h | h <;> rw [h] <;> rfl
      have hne2 : ¬ q.2 = 0 := by rcases hq with h | h <;> rw [h] <;> decide
      clear hp hq h0
      go_enter Tryd.func7, Tryd.ntmps7
      go_wp2_with (go_at_call 16; refine CT.out.mono ?_; rintro e w1 ⟨v, rfl, hv⟩; obtain ⟨u, rfl, hu, hb1⟩ := HT.out _ _ hv; have HU := hidI hu; have HB1 := hidI hb1; clear hv hu hb1; refine Hid.out ?_)
      refine hidI ?_
      go_wp2_with (go_at_call 17; refine (CP.out _ _ HU.out).mono ?_; rintro e w2 ⟨rfl, hb2⟩; have HB2 := hidI (HB1.out.trans (hb2.mono HB1.out.size)); clear hb2)
      refine bodyPost_ret (results_3t rfl _ _ _) rfl ?_
      exact ⟨⟨_, _, rfl⟩, HB2.out⟩
    | ok σ =>
      rw [hp] at CP
      clear hp h0
      go_enter Tryd.func7, Tryd.ntmps7
      go_wp2_with (go_at_call 16; refine CT.out.mono ?_; rintro e w1 ⟨v, rfl, hv⟩; obtain ⟨u, rfl, hu, hb1⟩ := HT.out _ _ hv; have HU := hidI hu; have HB1 := hidI hb1; clear hv hu hb1; refine Hid.out ?_)
      refine hidI ?_
      go_wp2_with (go_at_call 17; refine (CP.out _ _ HU.out).mono ?_; rintro e w2 ⟨fv, tv, rfl, hf, ht, hb2⟩; have HF := hidI hf; have HTt := hidI ht; have HB2 := hidI (HB1.out.trans (hb2.mono HB1.out.size)); clear hf ht hb2)
      refine bodyPost_ret (results_3t rfl _ _ _) rfl ?_
      exact ⟨_, _, rfl, HF.out, HTt.out, HB2.out⟩
  · rw [if_neg h0]
    have hne : (lr.2.2 == 0) = false := by simp [h0]
    go_enter Tryd.func7, Tryd.ntmps7
    go_wp2_with (go_at_call 16; refine CT.out.mono ?_; rintro e w1 ⟨v, rfl, hv⟩; obtain ⟨u, rfl, hu, hb1⟩ := HT.out _ _ hv; have HB1 := hidI hb1; clear hv hu hb1)
    refine bodyPost_ret (results_3t rfl _ _ _) rfl ?_
    exact ⟨⟨_, _, rfl⟩, HB1.out⟩
theorem rd_of3 {s : ByteArray} {σ : St} (hr : readR s = some σ) : ∃ lv, Rd (lexRes s).1 σ lv := by
  unfold readR at hr
  split at hr
  · split at hr
    · rename_i σ' hp
      cases hr
      obtain ⟨lv, h1, h2, h3, _⟩ := shape_parse hp
      have ho := (lex_ok3 s).2
      refine ⟨lv, h1, h2, h3, parse_good hp, fun t ht => by have := (ho t ht).2.2; omega, ?_, told_parse ho hp⟩
      rw [List.all_eq_true]
      intro t ht
      unfold nmT
      by_cases hk : t.k = 3
      · simp [hk, (ho t ht).1 hk]
      · simp [hk]
    · cases hr
  · cases hr
def keyF (f : Fm) : Int × ByteArray × Int × List Int := (f.k, f.s, f.n, f.kids)
theorem key_at {A B : List Fm} (h : A.map keyF = B.map keyF) (i : Nat) : (A[i]?).map keyF = (B[i]?).map keyF := by rw [← List.getElem?_map, ← List.getElem?_map, h]
theorem txt_alike {A B : List Fm} (h : A.map keyF = B.map keyF) (gap : GapF) : ∀ (m : Nat) (a : Int) (d : Nat), txt A gap m a d = txt B gap m a d
  | 0, a, d => rfl
  | m + 1, a, d => by
    unfold txt
    have hk := key_at h a.toNat
    cases ha : A[a.toNat]? with
    | none =>
      rw [ha] at hk
      cases hb : B[a.toNat]? with
      | none => rfl
      | some y => rw [hb] at hk; simp at hk
    | some x =>
      rw [ha] at hk
      cases hb : B[a.toNat]? with
      | none => rw [hb] at hk; simp at hk
      | some y =>
        rw [hb] at hk
        simp only [Option.map_some, Option.some.injEq, keyF, Prod.mk.injEq] at hk
        obtain ⟨e1, e2, e3, e4⟩ := hk
        simp only [e1, e2, e3, e4, txt_alike h gap m]
theorem keyF_of {σ τ : St} (h : Alike σ τ) : (σ.forms.map toFm).map keyF = (τ.forms.map toFm).map keyF := by
  have e : ∀ l : List Frm, (l.map toFm).map keyF = (l.map key4).map fun p => (p.1, p.2.1, p.2.2.1, castI p.2.2.2) := fun l => by rw [List.map_map, List.map_map]; rfl
  rw [e, e, h.forms]
theorem prn_alike {σ τ : St} (h : Alike σ τ) : prn (τ.forms.map toFm) gapB (castI τ.top) = prn (σ.forms.map toFm) gapB (castI σ.top) := by
  unfold prn
  rw [h.top]
  congr 1
  funext t
  unfold lineT
  rw [List.length_map, List.length_map, h.len, txt_alike (keyF_of h) gapB]
theorem keyM_of {σ τ : St} (h : Alike σ τ) {ms ns : List MV} (hm : ms.map Prod.fst = σ.forms.map toFm) (hn : ns.map Prod.fst = τ.forms.map toFm) : ms.map keyM = ns.map keyM := by
  have e : ∀ l : List MV, l.map keyM = (l.map Prod.fst).map keyF := fun l => by rw [List.map_map]; rfl
  rw [e, e, hm, hn, keyF_of h]
theorem read_weak (s : ByteArray) (w : World) : Calls Tryd.prog 7 #[.string s] w fun e w' => (∃ fv tv b, e = .returned (.tuple #[fv, tv, .bool b])) ∧ Below w.heap.size w w' := by
  refine (read9_any s w).mono ?_
  intro e w' h
  unfold ReadPost at h
  split at h
  · obtain ⟨⟨fv, tv, rfl⟩, hb⟩ := h
    exact ⟨⟨fv, tv, false, rfl⟩, hb⟩
  · obtain ⟨fv, tv, rfl, _, _, hb⟩ := h
    exact ⟨⟨fv, tv, true, rfl⟩, hb⟩
theorem read_some {s : ByteArray} {σ : St} (h : readR s = some σ) (w : World) : Calls Tryd.prog 7 #[.string s] w fun e w' => ∃ fv tv, e = .returned (.tuple #[fv, tv, .bool true]) ∧ SeesF w' fv σ.forms ∧ SeesC w' tv σ.top.length 1 (ints σ.top) ∧ Below w.heap.size w w' := by
  have := read9_any s w
  unfold ReadPost at this
  rw [h] at this
  exact this
/-- What has been read lies in memory, for all that follows. -/
structure Lies (w : World) (σ : St) (lv : List Nat) (T : List Tok) (fv tv : Value) (ms : List MV) : Prop where
  rd : Rd T σ lv
  same : ms.map Prod.fst = σ.forms.map toFm
  sees : SeesM w fv ms
  tops : SeesC w tv (castI σ.top).length 1 (intsI (castI σ.top))
  room : ∀ x ∈ ms, Roomy x.2
theorem Lies.on {w w' : World} {σ : St} {lv : List Nat} {T : List Tok} {fv tv : Value} {ms : List MV} (h : Lies w σ lv T fv tv ms) (hb : Below w.heap.size w w') : Lies w' σ lv T fv tv ms :=
  ⟨h.rd, h.same, h.sees.below hb (Nat.le_refl _), h.tops.below hb (Nat.le_refl _), h.room⟩
theorem lies_of {w : World} {s : ByteArray} {σ : St} (h : readR s = some σ) {fv tv : Value} (hf : SeesF w fv σ.forms) (ht : SeesC w tv σ.top.length 1 (ints σ.top)) : ∃ lv ms, Lies w σ lv (lexRes s).1 fv tv ms := by
  obtain ⟨lv, hr⟩ := rd_of3 h
  obtain ⟨ms, h1, h2, h3⟩ := seesM_of hf
  exact ⟨lv, ms, hr, h1, h2, sees_ints ht, h3⟩
theorem Lies.len {w : World} {σ : St} {lv : List Nat} {T : List Tok} {fv tv : Value} {ms : List MV} (h : Lies w σ lv T fv tv ms) : ms.length ≤ 400 := by have := len_same h.same; have := h.rd.good.len; omega
theorem Lies.tlen {w : World} {σ : St} {lv : List Nat} {T : List Tok} {fv tv : Value} {ms : List MV} (h : Lies w σ lv T fv tv ms) : (castI σ.top).length ≤ 400 := by have := h.rd.good.len; have := h.rd.good.top_len; simp [castI]; omega
section
variable {w : World} {σ : St} {lv : List Nat} {T : List Tok} {fv tv : Value} {ms : List MV} (h : Lies w σ lv T fv tv ms) (hL : Laid w)
include h hL
theorem Lies.right : RightC fv tv true w := h.rd.right h.same hL h.sees h.tops
theorem Lies.print : Calls Tryd.prog 9 #[fv, tv] w fun e w' => e = .returned (.tuple #[.string ⟨(prn (σ.forms.map toFm) gapB (castI σ.top)).toArray⟩, .int .i64 0]) ∧ Below w.heap.size w w' := by
  have hfo : formsOf ms = σ.forms.map toFm := h.same
  have hl := len_prn h.rd.shape h.rd.told h.rd.good.len gapB (fun ks n d _ => len_gapB ks n d)
  have h1 := h.len
  have h2 := h.tlen
  have := print_any fv tv ms (castI σ.top) w h.sees h.tops (h.right hL) (h.rd.tellable h.same) (by omega) hL.tab (h.rd.tops h.same) (by omega) (by rw [hfo]; omega)
  rw [hfo] at this
  exact this
theorem Lies.pretty : Calls Tryd.prog 10 #[fv, tv] w fun e w' => e = .returned (.tuple #[.string ⟨(prn (σ.forms.map toFm) (gapL (σ.forms.map toFm)) (castI σ.top)).toArray⟩, .int .i64 0]) ∧ Below w.heap.size w w' := by
  have hfo : formsOf ms = σ.forms.map toFm := h.same
  have hl := len_prn h.rd.shape h.rd.told h.rd.good.len (gapL (σ.forms.map toFm)) (fun ks n d hd => len_gapL _ ks n d hd)
  have h1 := h.len
  have h2 := h.tlen
  have := pretty_any fv tv ms (castI σ.top) w h.sees h.tops (h.right hL) (h.rd.tellable h.same) (by omega) hL.tab (h.rd.tops h.same) (by omega) (by rw [hfo]; omega) h.room
  rw [hfo] at this
  exact this
theorem Lies.alike {τ : St} {lv' : List Nat} {T' : List Tok} {gv uv : Value} {ns : List MV} (h' : Lies w τ lv' T' gv uv ns) (ha : Alike σ τ) : Calls Tryd.prog 11 #[fv, tv, gv, uv] w fun e w' => e = .returned (.bool true) ∧ Below w.heap.size w w' := by
  have h1 := h.len
  have h2 := h.tlen
  have ht := h'.tops
  rw [← ha.top] at ht
  exact same_ok fv tv gv uv ms ns (castI σ.top) w h.sees h'.sees (keyM_of ha h.same h'.same) (by omega) (h.rd.tellable h.same).few h.tops ht (by omega) (h.right hL) (h'.right hL)
end
end Go.Proofs.YtpfgohlicfcaeabDoor
/-
  ShowBack: what is read of Print is the same form, and is printed so again; so it is of lines.
-/
namespace Go.Proofs.YtpfgohlicfcaeabDoor
open Go.RowKit Go.Deep Go.MapKept Go.Shelf
set_option maxRecDepth 100000 in
set_option maxHeartbeats 4000000 in
theorem showBack_law (s : ByteArray) (w : World) (hL : Laid w) : Calls Tryd.prog 3 #[.string s] w fun e w' => e = .returned (.bool true) ∧ Below w.heap.size w w' := by
  have HL := hidI hL
  clear hL
  have ql : ∀ w, (Builtin.len_ #[9] 3 #[.string s]).run Tryd.prog w = .ok (.int .i64 (s.size : Int)) w := fun w => by rw [run_len_string w 9 3 s Tryd.underlying9]; rfl
  by_cases hc : 700 < s.size
  · have qs : ∀ w, (Instr.slice 9 (.string s) none (some (.int .i64 700)) none).run Tryd.prog w = .ok (.string (bytesOf (s.data.toList.take 700))) w := fun w => by exact cut_string s 700 (by omega) w
    obtain ⟨s1, hs1⟩ : ∃ s1, bytesOf (s.data.toList.take 700) = s1 := ⟨_, rfl⟩
    rw [hs1] at qs
    have e0 : (700 : Int) < (s.size : Int) := by omega
    obtain ⟨n, hn⟩ : ∃ n, s.size = n := ⟨_, rfl⟩
    rw [hn] at ql e0
    clear hs1 hn hc
    cases hr : readR s1 with
    | none =>
      have CR0 := read9_any s1 w
      unfold ReadPost at CR0
      rw [hr] at CR0
      have CR := hidI CR0
      clear CR0 hr
      go_enter Tryd.func3, Tryd.ntmps3
      go_wp2_with (first
        | (go_at_call 7; refine CR.out.mono ?_; rintro e w1 ⟨⟨fv, tv, rfl⟩, hb1⟩; have HB1 := hidI hb1; clear hb1)
        | (go_at_call 8; refine (live8_any _ (HL.out.on HB1.out)).mono ?_; rintro e w2 ⟨rfl, hb2⟩; have HB2 := hidI (HB1.out.trans (hb2.mono HB1.out.size)); clear hb2))
      go_ret
      exact ⟨rfl, HB2.out⟩
    | some σ =>
      have CR := hidI (read_some hr w)
      have HR := hidI hr
      obtain ⟨PB, hPB⟩ : ∃ PB, prn (σ.forms.map toFm) gapB (castI σ.top) = PB := ⟨_, rfl⟩
      obtain ⟨PL, hPL⟩ : ∃ PL, prn (σ.forms.map toFm) (gapL (σ.forms.map toFm)) (castI σ.top) = PL := ⟨_, rfl⟩
      have HPB := hidI hPB
      have HPL := hidI hPL
      obtain ⟨SB, hSB⟩ : ∃ SB, (⟨PB.toArray⟩ : ByteArray) = SB := ⟨_, rfl⟩
      obtain ⟨SL, hSL⟩ : ∃ SL, (⟨PL.toArray⟩ : ByteArray) = SL := ⟨_, rfl⟩
      have zB : SB.size = PB.length := by rw [← hSB]; show PB.toArray.size = _; simp
      have zL : SL.size = PL.length := by rw [← hSL]; show PL.toArray.size = _; simp
      have qB : ∀ w, (Builtin.len_ #[9] 3 #[.string SB]).run Tryd.prog w = .ok (.int .i64 (PB.length : Int)) w := fun w => by rw [run_len_string w 9 3 SB Tryd.underlying9, zB]; rfl
      have qL : ∀ w, (Builtin.len_ #[9] 3 #[.string SL]).run Tryd.prog w = .ok (.int .i64 (PL.length : Int)) w := fun w => by rw [run_len_string w 9 3 SL Tryd.underlying9, zL]; rfl
      have HSB := hidI hSB
      have HSL := hidI hSL
      clear hr zB zL hPB hPL hSB hSL
      go_enter Tryd.func3, Tryd.ntmps3
      go_wp2_with (go_at_call 7; refine CR.out.mono ?_; rintro e w1 ⟨fv, tv, rfl, hf, ht, hb1⟩; have HF := hidI hf; have HT0 := hidI ht; have HB1 := hidI hb1; clear hf ht hb1 CR; refine Hid.out ?_)
      refine hidI ?_
      obtain ⟨lv, ms, hli⟩ := lies_of HR.out HF.out HT0.out
      obtain ⟨_, fa, fc, hfv, _⟩ := hli.sees.row
      obtain ⟨_, ta, tc, htv, _⟩ := id hli.tops
      obtain ⟨N, hN⟩ : ∃ N, ms.length = N := ⟨_, rfl⟩
      obtain ⟨K, hK⟩ : ∃ K, (castI σ.top).length = K := ⟨_, rfl⟩
      rw [hN] at hfv
      rw [hK] at htv
      subst hfv
      subst htv
      have HLi := hidI hli
      clear hli hN hK HF HT0
      have CP : Hid (∀ y, Below w1.heap.size w1 y → Calls Tryd.prog 9 #[.slice fa N fc, .slice ta K tc] y fun e w' => e = .returned (.tuple #[.string SB, .int .i64 0]) ∧ Below y.heap.size y w') := hidI fun y hy => by
        have := (HLi.out.on hy).print ((HL.out.on HB1.out).on hy)
        rw [HPB.out, HSB.out] at this
        exact this
      have CQ : Hid (∀ y, Below w1.heap.size w1 y → Calls Tryd.prog 10 #[.slice fa N fc, .slice ta K tc] y fun e w' => e = .returned (.tuple #[.string SL, .int .i64 0]) ∧ Below y.heap.size y w') := hidI fun y hy => by
        have := (HLi.out.on hy).pretty ((HL.out.on HB1.out).on hy)
        rw [HPL.out, HSL.out] at this
        exact this
      go_wp2_with (go_at_call 9; refine (CP.out _ (Below.refl _ _)).mono ?_; rintro e w2 ⟨rfl, hb2⟩; have HB2 := hidI hb2; clear hb2 CP; refine Hid.out ?_)
      refine hidI ?_
      go_wp2_with (go_at_call 10; refine (CQ.out _ HB2.out).mono ?_; rintro e w3 ⟨rfl, hb3⟩; have HB3 := hidI (HB2.out.trans (hb3.mono HB2.out.size)); clear hb3 CQ; refine Hid.out ?_)
      refine hidI ?_
      by_cases hl3 : PL.length ≤ 3000 ∧ PB.length ≤ 3000
      · obtain ⟨hlL, hlB⟩ := hl3
        have hrb := read_back HLi.out.rd HR.out gapOk_B (by rw [HPB.out]; exact hlB)
        have hrl := read_back HLi.out.rd HR.out (gapOk_L (σ.forms.map toFm)) (by rw [HPL.out]; exact hlL)
        rw [HPB.out, HSB.out] at hrb
        rw [HPL.out, HSL.out] at hrl
        obtain ⟨τ, hτ, hat⟩ := hrb
        obtain ⟨υ, hυ, hau⟩ := hrl
        have C1 := hidI fun (y : World) => read_some hτ y
        have C2 := hidI fun (y : World) => read_some hυ y
        have Hτ := hidI hτ
        have Hυ := hidI hυ
        have Hat := hidI hat
        have Hau := hidI hau
        have e1 : ¬ (3000 : Int) < (PL.length : Int) := by omega
        have e2 : ¬ (3000 : Int) < (PB.length : Int) := by omega
        clear hτ hυ hat hau hlL hlB
        go_wp2_with (go_at_call 7; refine (C1.out _).mono ?_; rintro e w4 ⟨gv, uv, rfl, hf, ht, hb4⟩; have HF := hidI hf; have HT0 := hidI ht; have HS4 := hidI hb4; have HB4 := hidI (HB3.out.trans (hb4.mono HB3.out.size)); clear hf ht hb4 C1; refine Hid.out ?_)
        refine hidI ?_
        go_wp2_with (go_at_call 7; refine (C2.out _).mono ?_; rintro e w5 ⟨gv2, uv2, rfl, hf, ht, hb5⟩; have HF2 := hidI hf; have HT2 := hidI ht; have HS5 := hidI hb5; have HB5 := hidI (HB4.out.trans (hb5.mono HB4.out.size)); clear hf ht hb5 C2; refine Hid.out ?_)
        refine hidI ?_
        obtain ⟨lv1, ns, hl1⟩ := lies_of Hτ.out HF.out HT0.out
        obtain ⟨lv2, os, hl2⟩ := lies_of Hυ.out HF2.out HT2.out
        obtain ⟨_, ga, gc, hgv, _⟩ := hl1.sees.row
        obtain ⟨_, ua, uc, huv, _⟩ := id hl1.tops
        obtain ⟨_, ga2, gc2, hgv2, _⟩ := hl2.sees.row
        obtain ⟨_, ua2, uc2, huv2, _⟩ := id hl2.tops
        have h15 := hl1.on HS5.out
        obtain ⟨N1, hN1⟩ : ∃ N1, ns.length = N1 := ⟨_, rfl⟩
        obtain ⟨K1, hK1⟩ : ∃ K1, (castI τ.top).length = K1 := ⟨_, rfl⟩
        obtain ⟨N2, hN2⟩ : ∃ N2, os.length = N2 := ⟨_, rfl⟩
        obtain ⟨K2, hK2⟩ : ∃ K2, (castI υ.top).length = K2 := ⟨_, rfl⟩
        rw [hN1] at hgv
        rw [hK1] at huv
        rw [hN2] at hgv2
        rw [hK2] at huv2
        subst hgv
        subst huv
        subst hgv2
        subst huv2
        have H1 := hidI h15
        have H2 := hidI hl2
        have HW5 : Hid (Laid w5) := hidI ((HL.out.on HB1.out).on HB5.out)
        have H0 := hidI (HLi.out.on HB5.out)
        have CPr : Hid (∀ y, Below w5.heap.size w5 y → Calls Tryd.prog 9 #[.slice ga N1 gc, .slice ua K1 uc] y fun e w' => e = .returned (.tuple #[.string SB, .int .i64 0]) ∧ Below y.heap.size y w') := hidI fun y hy => by
          have := (H1.out.on hy).print (HW5.out.on hy)
          rw [prn_alike Hat.out, HPB.out, HSB.out] at this
          exact this
        have CS1 := hidI fun (y : World) (hy : Below w5.heap.size w5 y) => (H0.out.on hy).alike (HW5.out.on hy) (H1.out.on hy) Hat.out
        have CS2 := hidI fun (y : World) (hy : Below w5.heap.size w5 y) => (H0.out.on hy).alike (HW5.out.on hy) (H2.out.on hy) Hau.out
        clear hl1 hl2 h15 hN1 hK1 hN2 hK2 HF HT0 HF2 HT2 HS4 HS5
        go_wp2_with (go_at_call 9; refine (CPr.out _ (Below.refl _ _)).mono ?_; rintro e w6 ⟨rfl, hb6⟩; have HB6 := hidI hb6; clear hb6 CPr; refine Hid.out ?_)
        refine hidI ?_
        go_wp2_with (go_at_call 8; refine (live8_any _ (HW5.out.on HB6.out)).mono ?_; rintro e w7 ⟨rfl, hb7⟩; have HB7 := hidI (HB6.out.trans (hb7.mono HB6.out.size)); clear hb7; refine Hid.out ?_)
        refine hidI ?_
        go_wp2_with (go_at_call 11; refine (CS1.out _ HB7.out).mono ?_; rintro e w8 ⟨rfl, hb8⟩; have HB8 := hidI (HB7.out.trans (hb8.mono HB7.out.size)); clear hb8 CS1; refine Hid.out ?_)
        refine hidI ?_
        go_wp2_with (go_at_call 11; refine (CS2.out _ HB8.out).mono ?_; rintro e w9 ⟨rfl, hb9⟩; have HB9 := hidI (HB8.out.trans (hb9.mono HB8.out.size)); clear hb9 CS2)
        go_ret
        exact ⟨by simp, HB1.out.trans ((HB5.out.trans (HB9.out.mono HB5.out.size)).mono HB1.out.size)⟩
      · have C1 := hidI fun (y : World) => read_weak SB y
        have C2 := hidI fun (y : World) => read_weak SL y
        have HC : Hid (PL.length ≤ 3000 → ¬ PB.length ≤ 3000) := hidI fun a b => hl3 ⟨a, b⟩
        clear hl3
        go_wp2_with (go_at_call 7; refine (C1.out _).mono ?_; rintro e w4 ⟨⟨gv, uv, bb, rfl⟩, hb4⟩; have HB4 := hidI (HB3.out.trans (hb4.mono HB3.out.size)); clear hb4 C1; refine Hid.out ?_)
        refine hidI ?_
        go_wp2_with (go_at_call 7; refine (C2.out _).mono ?_; rintro e w5 ⟨⟨gv2, uv2, bb2, rfl⟩, hb5⟩; have HB5 := hidI (HB4.out.trans (hb5.mono HB4.out.size)); clear hb5 C2; refine Hid.out ?_)
        refine hidI ?_
        have HW5 : Hid (Laid w5) := hidI ((HL.out.on HB1.out).on HB5.out)
        by_cases hlL : 3000 < PL.length
        · have e1 : (3000 : Int) < (PL.length : Int) := by omega
          clear hlL
          go_wp2_with (go_at_call 8; refine (live8_any _ HW5.out).mono ?_; rintro e w6 ⟨rfl, hb6⟩; have HB6 := hidI (HB5.out.trans (hb6.mono HB5.out.size)); clear hb6)
          go_ret
          exact ⟨rfl, HB1.out.trans (HB6.out.mono HB1.out.size)⟩
        · have e1 : ¬ (3000 : Int) < (PL.length : Int) := by omega
          have hlB := HC.out (by omega)
          have e2 : (3000 : Int) < (PB.length : Int) := by omega
          clear hlL hlB
          go_wp2_with (go_at_call 8; refine (live8_any _ HW5.out).mono ?_; rintro e w6 ⟨rfl, hb6⟩; have HB6 := hidI (HB5.out.trans (hb6.mono HB5.out.size)); clear hb6)
          go_ret
          exact ⟨rfl, HB1.out.trans (HB6.out.mono HB1.out.size)⟩
  · have e0 : ¬ (700 : Int) < (s.size : Int) := by omega
    obtain ⟨n, hn⟩ : ∃ n, s.size = n := ⟨_, rfl⟩
    rw [hn] at ql e0
    clear hn hc
    cases hr : readR s with
    | none =>
      have CR0 := read9_any s w
      unfold ReadPost at CR0
      rw [hr] at CR0
      have CR := hidI CR0
      clear CR0 hr
      go_enter Tryd.func3, Tryd.ntmps3
      go_wp2_with (first
        | (go_at_call 7; refine CR.out.mono ?_; rintro e w1 ⟨⟨fv, tv, rfl⟩, hb1⟩; have HB1 := hidI hb1; clear hb1)
        | (go_at_call 8; refine (live8_any _ (HL.out.on HB1.out)).mono ?_; rintro e w2 ⟨rfl, hb2⟩; have HB2 := hidI (HB1.out.trans (hb2.mono HB1.out.size)); clear hb2))
      go_ret
      exact ⟨rfl, HB2.out⟩
    | some σ =>
      have CR := hidI (read_some hr w)
      have HR := hidI hr
      obtain ⟨PB, hPB⟩ : ∃ PB, prn (σ.forms.map toFm) gapB (castI σ.top) = PB := ⟨_, rfl⟩
      obtain ⟨PL, hPL⟩ : ∃ PL, prn (σ.forms.map toFm) (gapL (σ.forms.map toFm)) (castI σ.top) = PL := ⟨_, rfl⟩
      have HPB := hidI hPB
      have HPL := hidI hPL
      obtain ⟨SB, hSB⟩ : ∃ SB, (⟨PB.toArray⟩ : ByteArray) = SB := ⟨_, rfl⟩
      obtain ⟨SL, hSL⟩ : ∃ SL, (⟨PL.toArray⟩ : ByteArray) = SL := ⟨_, rfl⟩
      have zB : SB.size = PB.length := by rw [← hSB]; show PB.toArray.size = _; simp
      have zL : SL.size = PL.length := by rw [← hSL]; show PL.toArray.size = _; simp
      have qB : ∀ w, (Builtin.len_ #[9] 3 #[.string SB]).run Tryd.prog w = .ok (.int .i64 (PB.length : Int)) w := fun w => by rw [run_len_string w 9 3 SB Tryd.underlying9, zB]; rfl
      have qL : ∀ w, (Builtin.len_ #[9] 3 #[.string SL]).run Tryd.prog w = .ok (.int .i64 (PL.length : Int)) w := fun w => by rw [run_len_string w 9 3 SL Tryd.underlying9, zL]; rfl
      have HSB := hidI hSB
      have HSL := hidI hSL
      clear hr zB zL hPB hPL hSB hSL
      go_enter Tryd.func3, Tryd.ntmps3
      go_wp2_with (go_at_call 7; refine CR.out.mono ?_; rintro e w1 ⟨fv, tv, rfl, hf, ht, hb1⟩; have HF := hidI hf; have HT0 := hidI ht; have HB1 := hidI hb1; clear hf ht hb1 CR; refine Hid.out ?_)
      refine hidI ?_
      obtain ⟨lv, ms, hli⟩ := lies_of HR.out HF.out HT0.out
      obtain ⟨_, fa, fc, hfv, _⟩ := hli.sees.row
      obtain ⟨_, ta, tc, htv, _⟩ := id hli.tops
      obtain ⟨N, hN⟩ : ∃ N, ms.length = N := ⟨_, rfl⟩
      obtain ⟨K, hK⟩ : ∃ K, (castI σ.top).length = K := ⟨_, rfl⟩
      rw [hN] at hfv
      rw [hK] at htv
      subst hfv
      subst htv
      have HLi := hidI hli
      clear hli hN hK HF HT0
      have CP : Hid (∀ y, Below w1.heap.size w1 y → Calls Tryd.prog 9 #[.slice fa N fc, .slice ta K tc] y fun e w' => e = .returned (.tuple #[.string SB, .int .i64 0]) ∧ Below y.heap.size y w') := hidI fun y hy => by
        have := (HLi.out.on hy).print ((HL.out.on HB1.out).on hy)
        rw [HPB.out, HSB.out] at this
        exact this
      have CQ : Hid (∀ y, Below w1.heap.size w1 y → Calls Tryd.prog 10 #[.slice fa N fc, .slice ta K tc] y fun e w' => e = .returned (.tuple #[.string SL, .int .i64 0]) ∧ Below y.heap.size y w') := hidI fun y hy => by
        have := (HLi.out.on hy).pretty ((HL.out.on HB1.out).on hy)
        rw [HPL.out, HSL.out] at this
        exact this
      go_wp2_with (go_at_call 9; refine (CP.out _ (Below.refl _ _)).mono ?_; rintro e w2 ⟨rfl, hb2⟩; have HB2 := hidI hb2; clear hb2 CP; refine Hid.out ?_)
      refine hidI ?_
      go_wp2_with (go_at_call 10; refine (CQ.out _ HB2.out).mono ?_; rintro e w3 ⟨rfl, hb3⟩; have HB3 := hidI (HB2.out.trans (hb3.mono HB2.out.size)); clear hb3 CQ; refine Hid.out ?_)
      refine hidI ?_
      by_cases hl3 : PL.length ≤ 3000 ∧ PB.length ≤ 3000
      · obtain ⟨hlL, hlB⟩ := hl3
        have hrb := read_back HLi.out.rd HR.out gapOk_B (by rw [HPB.out]; exact hlB)
        have hrl := read_back HLi.out.rd HR.out (gapOk_L (σ.forms.map toFm)) (by rw [HPL.out]; exact hlL)
        rw [HPB.out, HSB.out] at hrb
        rw [HPL.out, HSL.out] at hrl
        obtain ⟨τ, hτ, hat⟩ := hrb
        obtain ⟨υ, hυ, hau⟩ := hrl
        have C1 := hidI fun (y : World) => read_some hτ y
        have C2 := hidI fun (y : World) => read_some hυ y
        have Hτ := hidI hτ
        have Hυ := hidI hυ
        have Hat := hidI hat
        have Hau := hidI hau
        have e1 : ¬ (3000 : Int) < (PL.length : Int) := by omega
        have e2 : ¬ (3000 : Int) < (PB.length : Int) := by omega
        clear hτ hυ hat hau hlL hlB
        go_wp2_with (go_at_call 7; refine (C1.out _).mono ?_; rintro e w4 ⟨gv, uv, rfl, hf, ht, hb4⟩; have HF := hidI hf; have HT0 := hidI ht; have HS4 := hidI hb4; have HB4 := hidI (HB3.out.trans (hb4.mono HB3.out.size)); clear hf ht hb4 C1; refine Hid.out ?_)
        refine hidI ?_
        go_wp2_with (go_at_call 7; refine (C2.out _).mono ?_; rintro e w5 ⟨gv2, uv2, rfl, hf, ht, hb5⟩; have HF2 := hidI hf; have HT2 := hidI ht; have HS5 := hidI hb5; have HB5 := hidI (HB4.out.trans (hb5.mono HB4.out.size)); clear hf ht hb5 C2; refine Hid.out ?_)
        refine hidI ?_
        obtain ⟨lv1, ns, hl1⟩ := lies_of Hτ.out HF.out HT0.out
        obtain ⟨lv2, os, hl2⟩ := lies_of Hυ.out HF2.out HT2.out
        obtain ⟨_, ga, gc, hgv, _⟩ := hl1.sees.row
        obtain ⟨_, ua, uc, huv, _⟩ := id hl1.tops
        obtain ⟨_, ga2, gc2, hgv2, _⟩ := hl2.sees.row
        obtain ⟨_, ua2, uc2, huv2, _⟩ := id hl2.tops
        have h15 := hl1.on HS5.out
        obtain ⟨N1, hN1⟩ : ∃ N1, ns.length = N1 := ⟨_, rfl⟩
        obtain ⟨K1, hK1⟩ : ∃ K1, (castI τ.top).length = K1 := ⟨_, rfl⟩
        obtain ⟨N2, hN2⟩ : ∃ N2, os.length = N2 := ⟨_, rfl⟩
        obtain ⟨K2, hK2⟩ : ∃ K2, (castI υ.top).length = K2 := ⟨_, rfl⟩
        rw [hN1] at hgv
        rw [hK1] at huv
        rw [hN2] at hgv2
        rw [hK2] at huv2
        subst hgv
        subst huv
        subst hgv2
        subst huv2
        have H1 := hidI h15
        have H2 := hidI hl2
        have HW5 : Hid (Laid w5) := hidI ((HL.out.on HB1.out).on HB5.out)
        have H0 := hidI (HLi.out.on HB5.out)
        have CPr : Hid (∀ y, Below w5.heap.size w5 y → Calls Tryd.prog 9 #[.slice ga N1 gc, .slice ua K1 uc] y fun e w' => e = .returned (.tuple #[.string SB, .int .i64 0]) ∧ Below y.heap.size y w') := hidI fun y hy => by
          have := (H1.out.on hy).print (HW5.out.on hy)
          rw [prn_alike Hat.out, HPB.out, HSB.out] at this
          exact this
        have CS1 := hidI fun (y : World) (hy : Below w5.heap.size w5 y) => (H0.out.on hy).alike (HW5.out.on hy) (H1.out.on hy) Hat.out
        have CS2 := hidI fun (y : World) (hy : Below w5.heap.size w5 y) => (H0.out.on hy).alike (HW5.out.on hy) (H2.out.on hy) Hau.out
        clear hl1 hl2 h15 hN1 hK1 hN2 hK2 HF HT0 HF2 HT2 HS4 HS5
        go_wp2_with (go_at_call 9; refine (CPr.out _ (Below.refl _ _)).mono ?_; rintro e w6 ⟨rfl, hb6⟩; have HB6 := hidI hb6; clear hb6 CPr; refine Hid.out ?_)
        refine hidI ?_
        go_wp2_with (go_at_call 8; refine (live8_any _ (HW5.out.on HB6.out)).mono ?_; rintro e w7 ⟨rfl, hb7⟩; have HB7 := hidI (HB6.out.trans (hb7.mono HB6.out.size)); clear hb7; refine Hid.out ?_)
        refine hidI ?_
        go_wp2_with (go_at_call 11; refine (CS1.out _ HB7.out).mono ?_; rintro e w8 ⟨rfl, hb8⟩; have HB8 := hidI (HB7.out.trans (hb8.mono HB7.out.size)); clear hb8 CS1; refine Hid.out ?_)
        refine hidI ?_
        go_wp2_with (go_at_call 11; refine (CS2.out _ HB8.out).mono ?_; rintro e w9 ⟨rfl, hb9⟩; have HB9 := hidI (HB8.out.trans (hb9.mono HB8.out.size)); clear hb9 CS2)
        go_ret
        exact ⟨by simp, HB1.out.trans ((HB5.out.trans (HB9.out.mono HB5.out.size)).mono HB1.out.size)⟩
      · have C1 := hidI fun (y : World) => read_weak SB y
        have C2 := hidI fun (y : World) => read_weak SL y
        have HC : Hid (PL.length ≤ 3000 → ¬ PB.length ≤ 3000) := hidI fun a b => hl3 ⟨a, b⟩
        clear hl3
        go_wp2_with (go_at_call 7; refine (C1.out _).mono ?_; rintro e w4 ⟨⟨gv, uv, bb, rfl⟩, hb4⟩; have HB4 := hidI (HB3.out.trans (hb4.mono HB3.out.size)); clear hb4 C1; refine Hid.out ?_)
        refine hidI ?_
        go_wp2_with (go_at_call 7; refine (C2.out _).mono ?_; rintro e w5 ⟨⟨gv2, uv2, bb2, rfl⟩, hb5⟩; have HB5 := hidI (HB4.out.trans (hb5.mono HB4.out.size)); clear hb5 C2; refine Hid.out ?_)
        refine hidI ?_
        have HW5 : Hid (Laid w5) := hidI ((HL.out.on HB1.out).on HB5.out)
        by_cases hlL : 3000 < PL.length
        · have e1 : (3000 : Int) < (PL.length : Int) := by omega
          clear hlL
          go_wp2_with (go_at_call 8; refine (live8_any _ HW5.out).mono ?_; rintro e w6 ⟨rfl, hb6⟩; have HB6 := hidI (HB5.out.trans (hb6.mono HB5.out.size)); clear hb6)
          go_ret
          exact ⟨rfl, HB1.out.trans (HB6.out.mono HB1.out.size)⟩
        · have e1 : ¬ (3000 : Int) < (PL.length : Int) := by omega
          have hlB := HC.out (by omega)
          have e2 : (3000 : Int) < (PB.length : Int) := by omega
          clear hlL hlB
          go_wp2_with (go_at_call 8; refine (live8_any _ HW5.out).mono ?_; rintro e w6 ⟨rfl, hb6⟩; have HB6 := hidI (HB5.out.trans (hb6.mono HB5.out.size)); clear hb6)
          go_ret
          exact ⟨rfl, HB1.out.trans (HB6.out.mono HB1.out.size)⟩
end Go.Proofs.YtpfgohlicfcaeabDoor
