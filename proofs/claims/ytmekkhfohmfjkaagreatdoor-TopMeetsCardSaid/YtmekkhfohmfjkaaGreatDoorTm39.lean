/-
  Part 39 of the proof: LexC, PSrc2, TlK.
-/
import Derived.Test.YtmekkhfohmfjkaaGreatDoorTm38
import Derived.Test.YtmekkhfohmfjkaaGreatDoorTm13
import Derived.Test.YtmekkhfohmfjkaaGreatDoorTm36
import Derived.Test.YtmekkhfohmfjkaaGreatDoorTm32
namespace Go.Proofs.YtmekkhfohmfjkaaGreatDoor
open Go.RowKit Go.Deep Go.MapKept
def dig1 (l : Txt) : Bool := match l with | [c] => decide (48 ≤ c.toNat ∧ c.toNat ≤ 57) | _ => false
def begins (l : Txt) : Bool := match l with | c :: _ => decide (c ≠ 45 ∧ ¬ (48 ≤ c.toNat ∧ c.toNat ≤ 57)) | [] => false
def okW (l : Txt) : Bool := l == [40] || l == [41] || dig1 l || (begins l && (nameB (bytesOf l) || opB (bytesOf l)))
def kcW (l : Txt) : Int := if l = [40] then 1 else if l = [41] then 2 else if dig1 l = true then 4 else 3
def numC (l : Txt) : Int := match l with | [c] => if 48 ≤ c.toNat ∧ c.toNat ≤ 57 then (c.toNat : Int) - 48 else 0 | _ => 0
def tokW (q : Piece) : Tok := ⟨kcW q.2, bytesOf q.2, numC q.2, (q.1 : Int)⟩
theorem itoa_dig {n : Nat} (h : n < 10) : Lib.itoa (n : Int) = [UInt8.ofNat (48 + n)] := by
 unfold Lib.itoa
 rw [if_neg (by omega), show ((n : Int)).toNat = n by omega, dec_small (by omega)]
theorem num_dig {c : UInt8} (h : 48 ≤ c.toNat ∧ c.toNat ≤ 57) : isNum (bytesOf [c]) ∧ numV (bytesOf [c]) = (c.toNat : Int) - 48 := by
 obtain ⟨n, hn⟩ : ∃ n, c.toNat = 48 + n := ⟨c.toNat - 48, by omega⟩
 have hc : c = UInt8.ofNat (48 + n) := by rw [← hn]; simp
 have hit := itoa_dig (n := n) (by omega)
 have e : (bytesOf [c]).data.toList = Lib.itoa (n : Int) := by rw [hit, ← hc]; rfl
 have hin : In64 (n : Int) := ⟨by omega, by omega⟩
 have is : isNum (bytesOf [c]) := ⟨(n : Int), hin, e⟩
 refine ⟨is, ?_⟩
 obtain ⟨h1, h2⟩ := numV_in is
 have p1 := parse_itoa (numV (bytesOf [c])) h1.1 h1.2
 rw [← h2, e, parse_itoa (n : Int) hin.1 hin.2] at p1
 have := (Lib.NumEnd.ok.inj p1).symm
 omega
theorem kind_ok {l : Txt} (h : okW l = true) : kindP l = kcW l ∧ kcW l ≠ 0 ∧ numP l = numC l := by
 unfold okW at h
 by_cases h1 : l = [40]
 ·subst h1; refine ⟨?_, by decide, ?_⟩ <;> simp [kindP, kcW, numP, numC]
 by_cases h2 : l = [41]
 ·subst h2; refine ⟨?_, by decide, ?_⟩ <;> simp [kindP, kcW, numP, numC]
 simp only [Bool.or_eq_true, beq_iff_eq, h1, h2, false_or, Bool.and_eq_true] at h
 rcases h with h | ⟨hb, hn⟩
 ·obtain ⟨c, rfl, hc⟩ : ∃ c, l = [c] ∧ (48 ≤ c.toNat ∧ c.toNat ≤ 57) := by
   unfold dig1 at h
   split at h
   ·rename_i c; exact ⟨c, rfl, of_decide_eq_true h⟩
   ·cases h
  obtain ⟨is, nv⟩ := num_dig hc
  have hk : kindP [c] = 4 := by unfold kindP; rw [if_neg h1, if_neg h2]; unfold kindW; rw [if_pos is]
  have hk2 : kcW [c] = 4 := by unfold kcW; rw [if_neg h1, if_neg h2, if_pos h]
  refine ⟨hk.trans hk2.symm, by rw [hk2]; decide, ?_⟩
  unfold numP numC
  rw [if_pos hk, nv]
  simp only [if_pos hc]
 ·obtain ⟨c, r, rfl, hc⟩ : ∃ c r, l = c :: r ∧ (c ≠ 45 ∧ ¬ (48 ≤ c.toNat ∧ c.toNat ≤ 57)) := by
   unfold begins at hb
   split at hb
   ·rename_i c r; exact ⟨c, r, rfl, of_decide_eq_true hb⟩
   ·cases hb
  have hnum : ¬ isNum (bytesOf (c :: r)) := not_num2 (c := c) (r := r) (by simp [bytesOf]) hc.1 (by
   unfold Dig
   intro hd
   have h1 := hd.1
   have h2 := hd.2
   exact hc.2 ⟨by simpa using h1, by simpa using h2⟩)
  have hd0 : dig1 (c :: r) = false := by
   unfold dig1
   split
   ·rename_i c' he
    cases he
    exact decide_eq_false hc.2
   ·rfl
  have hk : kindP (c :: r) = 3 := by
   unfold kindP
   rw [if_neg h1, if_neg h2]
   unfold kindW
   rw [if_neg hnum, if_pos (by rcases hn with h | h <;> simp [h])]
  have hk2 : kcW (c :: r) = 3 := by unfold kcW; rw [if_neg h1, if_neg h2, if_neg (by rw [hd0]; simp)]
  refine ⟨hk.trans hk2.symm, by rw [hk2]; decide, ?_⟩
  unfold numP numC
  rw [if_neg (by rw [hk]; decide)]
  split
  ·rename_i c' he
   cases he
   rw [if_neg hc.2]
  ·rfl
theorem bad_ok : ∀ (ps : List Piece) (c : Nat), (∀ q ∈ ps, okW q.2 = true) → c + ps.length ≤ 600 → bad c ps = none
 | [], _, _, _ => rfl
 | q :: r, c, h, hl => by
  simp only [List.length_cons] at hl
  obtain ⟨a1, a2, _⟩ := kind_ok (h q (by simp))
  unfold bad
  rw [if_neg (by rw [a1]; exact a2), if_neg (by omega)]
  exact bad_ok r (c + 1) (fun x hx => h x (by simp [hx])) (by omega)
theorem lex_ok {s : Txt} (h : ((pieces s).all fun q => okW q.2) = true) (hl : (pieces s).length ≤ 600) (hn : s.length ≤ 3000) : lexRes (bytesOf s) = ((pieces s).map tokW, 0, 0) := by
 have ha : ∀ q ∈ pieces s, okW q.2 = true := List.all_eq_true.1 h
 have hm : (pieces s).map tok = (pieces s).map tokW := List.map_congr_left fun q hq => by
  obtain ⟨a1, _, a3⟩ := kind_ok (ha q hq)
  unfold tok tokW
  rw [a1, a3]
 have hd : (bytesOf s).data.toList = s := by simp [bytesOf]
 have hsz : (bytesOf s).size = s.length := by simp [bytesOf, ByteArray.size]
 unfold lexRes
 rw [if_neg (by rw [hsz]; omega), hd, bad_ok _ 0 ha (by omega), hm]
theorem nmT_ok {s : Txt} (h : ((pieces s).all fun q => okW q.2) = true) : ((pieces s).map tokW).all nmT = true := by
 rw [List.all_map, List.all_eq_true]
 intro q hq
 obtain ⟨a1, _, _⟩ := kind_ok (List.all_eq_true.1 h q hq)
 show nmT (tokW q) = true
 unfold nmT tokW
 by_cases h3 : kcW q.2 = 3
 ·have hk : kindW (bytesOf q.2) = 3 := by
   rw [← a1] at h3
   unfold kindP at h3
   split at h3
   ·cases h3
   ·split at h3
    ·cases h3
    ·exact h3
  simp [hk]
 ·simp [h3]
set_option maxHeartbeats 2000000 in
theorem source_ok {s : ByteArray} {ts : List Tok} {σ : St} {P : Prg} (hlex : lexRes s = (ts, 0, 0)) (hts : ∀ t ∈ ts, t.s.size ≤ 140737488355328) (htl : ts.length ≤ 100000) (hp : parse ts = .ok σ) (hnm : ts.all nmT = true) (hP : pTop σ.forms σ.top prg0 = .ok P) (hD : P.decls.length ≤ 24) (w : World) (hL : Laid w) :
  Calls Tryz.prog 18 #[.string s] w (ReadPost P w) := by
 have hbA : Below w.heap.size w (w.alloc (.cells #[.slice none 0 0, .slice none 0 0, .slice none 0 0, .slice none 0 0] 47)) := by (repeat (first | exact Below.refl _ _ | assumption | refine Below.drew ?_ | refine Below.alloc ?_ (by first | omega | (simp; done) | (simp; omega)) _ | refine Below.setCell ?_ (by first | omega | (simp; done) | (simp; omega)) _))
 have C1 : Hid (Calls Tryz.prog 28 #[.string s] (w.alloc (.cells #[.slice none 0 0, .slice none 0 0, .slice none 0 0, .slice none 0 0] 47)) fun e w' => ∃ a1 c1, e = .returned (.tuple #[.slice a1 ts.length c1, .int .i64 0, .int .i64 0]) ∧ SeesC w' (.slice a1 ts.length c1) ts.length 4 (flatT ts) ∧ Below (w.alloc (.cells #[.slice none 0 0, .slice none 0 0, .slice none 0 0, .slice none 0 0] 47)).heap.size (w.alloc (.cells #[.slice none 0 0, .slice none 0 0, .slice none 0 0, .slice none 0 0] 47)) w') := hidI ((toks_any s _ (hL.on hbA)).mono (by
  rintro e w' ⟨v, rfl, v', rfl, h2, h3⟩
  rw [hlex] at h2 ⊢
  obtain ⟨_, a1, c1, hv, _⟩ := id h2
  subst hv
  exact ⟨a1, c1, rfl, h2, h3⟩))
 have C2 : Hid (∀ W v, SeesC W v ts.length 4 (flatT ts) → Calls Tryz.prog 29 #[v] W fun e w' => ∃ fv tv, e = .returned (.tuple #[fv, tv, .int .i64 0, .int .i64 0]) ∧ SeesF w' fv σ.forms ∧ SeesC w' tv σ.top.length 1 (ints σ.top) ∧ Below W.heap.size W w') := hidI (fun W v hv => by
  have := tparse_any ts v W hv hts htl
  rw [hp] at this
  exact this)
 have C3 : Hid (∀ W fv tv, Laid W → SeesF W fv σ.forms → SeesC W tv σ.top.length 1 (ints σ.top) → Calls Tryz.prog 30 #[fv, tv] W (ReadPost P W)) := hidI (fun W fv tv hW hF hT => read_parsed hp hts hnm hP hD hW hF hT)
 have HL := hidI hL
 have HBA := hidI hbA
 clear hlex hts htl hp hnm hP hD hL hbA
 go_enter Tryz.func18, Tryz.ntmps18
 go_wp2_with (first
  | (go_at_call 28; refine C1.out.mono ?_; intro e w1 h1; obtain ⟨a1, c1, rfl, hs1, hb1⟩ := h1; clear C1; have HS1 := hidI hs1; clear hs1; have HB1 := hidI (HBA.out.trans (hb1.mono HBA.out.size)))
  | (go_at_call 29; refine Calls.mono (C2.out _ _ HS1.out) ?_; intro e w2 h2; obtain ⟨fv, tv, rfl, hF2, hT2, hb2⟩ := h2; clear C2; have HF2 := hidI hF2; have HT2 := hidI hT2; clear hF2 hT2; have HB2 := hidI (HB1.out.trans (hb2.mono HB1.out.size)))
  | (go_at_call 30; refine Calls.mono (C3.out _ _ _ (HL.out.on HB2.out) HF2.out HT2.out) ?_; intro e w3 h3; obtain ⟨p', hp', rfl, hO3, hb3⟩ := h3; clear C3; refine Hid.out ?_))
 have z : ∀ {p : Addr} {v : Value}, (w.alloc (.cells #[.slice none 0 0, .slice none 0 0, .slice none 0 0, .slice none 0 0] 47)).cell? p = some v → w3.cell? p = some v := fun {p v} hc => by
  have h1 := (hb1.cell (World.block_lt_of_cell? _ _ hc)).trans hc
  have h2 := (hb2.cell (World.block_lt_of_cell? _ _ h1)).trans h1
  exact (hb3.cell (World.block_lt_of_cell? _ _ h2)).trans h2
 have r0 : w3.cell? ⟨w.heap.size, 0, none⟩ = some (.slice none 0 0) := z (by go_simp)
 have r1 : w3.cell? ⟨w.heap.size, 1, none⟩ = some (.slice none 0 0) := z (by go_simp)
 have r2 : w3.cell? ⟨w.heap.size, 2, none⟩ = some (.slice none 0 0) := z (by go_simp)
 have r3 : w3.cell? ⟨w.heap.size, 3, none⟩ = some (.slice none 0 0) := z (by go_simp)
 have hz1 := hb1.size
 have hz2 := hb2.size
 simp only [World.size_alloc] at hz1
 have fz : ∀ j, w3.frozen? ⟨w.heap.size, j, none⟩ = false := fun j => by
  refine (hb3.frozen (p := ⟨w.heap.size, j, none⟩) (by show w.heap.size < w2.heap.size; omega)).trans ((hb2.frozen (p := ⟨w.heap.size, j, none⟩) (by show w.heap.size < w1.heap.size; omega)).trans ((hb1.frozen (p := ⟨w.heap.size, j, none⟩) (by simp)).trans ?_))
  go_simp
 have f0 := fz 0
 have f1 := fz 1
 have f2 := fz 2
 have f3 := fz 3
 obtain ⟨da, dc, hdv⟩ : ∃ da dc, p'.dv = .slice da p'.ds.length dc := zaF (RowsP.head (r := dRow p') hO3)
 obtain ⟨xa, xc, hxv⟩ : ∃ xa xc, p'.xv = .slice xa p'.xs.length xc := zaF (RowsP.head (r := xRow p') hO3.rest)
 obtain ⟨sa, sc, hsv⟩ : ∃ sa sc, p'.sv = .slice sa p'.ss.length sc := zaF (RowsP.head (r := sRow p') hO3.rest.rest)
 obtain ⟨ma, mc, hmv⟩ : ∃ ma mc, p'.mv = .slice ma p'.ms.length mc := zaF (RowsP.head (r := mRow p') hO3.rest.rest.rest)
 have HV4 := hidI (And.intro hdv (And.intro hxv (And.intro hsv hmv)))
 have hpv : pval p' = .agg #[.slice da p'.ds.length dc, .slice xa p'.xs.length xc, .slice sa p'.ss.length sc, .slice ma p'.ms.length mc] := by rw [pval, hdv, hxv, hsv, hmv]
 have HO3 := hidI hO3
 have HP' := hidI hp'
 have HB3 := hidI (HB2.out.trans (hb3.mono HB2.out.size))
 have hw2 : w.heap.size + 1 ≤ w2.heap.size := by omega
 rw [hpv]
 clear z fz hdv hxv hsv hmv hpv hO3 hp' hb1 hb2 hb3 hz1 hz2
 refine hidI ?_
 go_wp2
 refine bodyPost_ret (v := .tuple #[.agg #[.slice da p'.ds.length dc, .slice xa p'.xs.length xc, .slice sa p'.ss.length sc, .slice ma p'.ms.length mc], .int .i64 0, .int .i64 0]) ?_ rfl ?_
 ·rw [results_ctt rfl]
  (go_simp <;> first | done | rfl)
 ·have hfar : ∀ (W : World) (j : Nat) (v : Value), RowsP W w2.heap.size (dRow p' :: xRow p' :: sRow p' :: mRow p' :: (p'.xs.map kRow ++ p'.ss.flatMap sRows)) → RowsP (W.setCell ⟨w.heap.size, j, none⟩ v) w2.heap.size (dRow p' :: xRow p' :: sRow p' :: mRow p' :: (p'.xs.map kRow ++ p'.ss.flatMap sRows)) := fun W j v h => h.far (zbT W w.heap.size j v) (fun r hr => .inr (fun e => by have := (h.lt hr e).1; omega))
  obtain ⟨e1, e2, e3, e4⟩ := HV4.out
  refine ⟨p', HP'.out, by rw [pval, e1, e2, e3, e4], RowsP.base (hfar _ 3 _ (hfar _ 2 _ (hfar _ 1 _ (hfar _ 0 _ HO3.out)))) (by omega), ?_⟩
  exact (((HB3.out.setCell (Nat.le_refl _) _).setCell (Nat.le_refl _) _).setCell (Nat.le_refl _) _).setCell (Nat.le_refl _) _
def CtPost (t : Tx) (X : List Rw) (r : Option TS) (e : Ending) (w' : World) : Prop :=
 match r with
 | none => e = .returned (.agg #[.int .i64 0, .int .i64 3]) ∧ TBad t X w'
 | some σ' => e = .returned (.agg #[.int .i64 0, .int .i64 0]) ∧ TlS t σ' X w'
theorem TBad.setbox {t : Tx} {X : List Rw} {w : World} {B e size j : Nat} {xs : List Value} (h : TBad t (⟨bx B, e, size, 1, xs⟩ :: X) w) (u : Value) : TBad t (⟨bx B, e, size, 1, xs.set j u⟩ :: X) (w.setCell ⟨B, j, none⟩ u) :=
 ⟨h.below.setCell (h.rows.head.lt B rfl).1 u, h.rows.setc (g := B) (cap := 1) (j := j) rfl u⟩
set_option maxHeartbeats 1000000 in
theorem tcaught_any {t : Tx} {F : Nat} (hk : t.Ok F) {σ : TS} {X : List Rw} {w : World} (h : TlS t σ X w) :
  Calls Tryz.prog 48 #[.func (.func 94) #[.pointer (some ⟨t.B, 0, none⟩)] #[]] w (CtPost t X (tProg t.P.prg σ)) := by
 have hmf : ∀ (fn : Go.Fn) (first cap : Array Value) (w : World), (Instr.makeFunc fn first cap).run Tryz.prog w = .ok (.func fn first cap) w := fun _ _ _ _ => rfl
 have HS0 : TlS t σ (fBox w.heap.size :: X) (w.alloc (.cells #[.int .i64 0, .int .i64 0] 111)) := h.newbox 111 2 #[.int .i64 0, .int .i64 0] rfl
 have C := hidI (tall_any hk HS0)
 cases hr : tProg t.P.prg σ with
 | none =>
  rw [hr] at C
  clear hr h HS0
  go_enter_defers Tryz.func48, Tryz.ntmps48
  go_wp2_with (go_at_call 94; refine C.out.mono ?_; intro e w1 h1; obtain ⟨rfl, hb1⟩ := h1; clear C)
  have hr := RowsP.head (r := fBox w.heap.size) hb1.rows
  have hE0 := zaA hr (j := 0) rfl
  have hE1 := zaA hr (j := 1) rfl
  have hEf : ∀ j, w1.frozen? ⟨w.heap.size, j, none⟩ = false := fun j => zaQ hr j
  refine leaves_cons (f := 89) (args := #[.pointer (some ⟨w.heap.size, 0, none⟩)]) (by simp) (by simp [go_sem]) ?_
  refine (catch2_fault w.heap.size 0 0 0 3 [] _ hE0 hE1 hEf).mono ?_
  rintro e u' w'' ⟨rfl, rfl, rfl⟩
  have hF0 := World.cell?_setCell_same w1 ⟨w.heap.size, 0, none⟩ (.int .i64 0) hE0
  have hF1 : ((w1.setCell ⟨w.heap.size, 0, none⟩ (.int .i64 0)).setCell ⟨w.heap.size, 1, none⟩ (.int .i64 3)).cell? ⟨w.heap.size, 1, none⟩ = some (.int .i64 3) := World.cell?_setCell_same _ _ _ ((World.cell?_setCell_other _ _ _ _ (by simp)).trans hE1)
  simp [Leaves, settle, results, Tryz.results48, go_sem, hF0, hF1]
  exact ⟨rfl, (TBad.setbox (j := 1) (TBad.setbox (j := 0) hb1 (.int .i64 0)) (.int .i64 3)).sub (.cons _ (.refl _))⟩
 | some σ1 =>
  rw [hr] at C
  clear hr h HS0
  go_enter_defers Tryz.func48, Tryz.ntmps48
  go_wp2_with (go_at_call 94; refine C.out.mono ?_; intro e w1 h1; obtain ⟨rfl, hb1⟩ := h1; clear C; refine Hid.out ?_)
  have hr := hb1.r.row
  have hE0 := zaA hr (j := 0) rfl
  have hE1 := zaA hr (j := 1) rfl
  have f0 := zaQ hr 0
  have f1 := zaQ hr 1
  have HFIN : Hid (TlS t σ1 X ((w1.setCell ⟨w.heap.size, 0, none⟩ (.int .i64 0)).setCell ⟨w.heap.size, 1, none⟩ (.int .i64 0))) := hidI ⟨(TlR.setbox (j := 1) (TlR.setbox (j := 0) hb1.r (.int .i64 0)) (.int .i64 0)).less, hb1.lim⟩
  clear hr hb1
  refine hidI ?_
  go_wp2
  refine leaves_cons (f := 89) (args := #[.pointer (some ⟨w.heap.size, 0, none⟩)]) (by simp) (by simp [go_sem]) ?_
  refine (catch2_idle w.heap.size _).mono ?_
  rintro e u' w'' ⟨rfl, rfl, rfl⟩
  have hF0 := World.cell?_setCell_same w1 ⟨w.heap.size, 0, none⟩ (.int .i64 0) hE0
  have hF1 : ((w1.setCell ⟨w.heap.size, 0, none⟩ (.int .i64 0)).setCell ⟨w.heap.size, 1, none⟩ (.int .i64 0)).cell? ⟨w.heap.size, 1, none⟩ = some (.int .i64 0) := World.cell?_setCell_same _ _ _ ((World.cell?_setCell_other _ _ _ _ (by simp)).trans hE1)
  simp [Leaves, settle, results, Tryz.results48, go_sem, hF0, hF1]
  exact ⟨rfl, HFIN.out⟩
theorem put_sound (t : Tx) (hpr : t.pr = fun _ Q => Q = []) : PutOk t 52 := by
 intro σ X w tk h _ _
 have hA := h.alloc (.cells #[.int .u8 tk.k, .string tk.s, .int .i64 tk.n, .int .i64 tk.p] 91)
 have HA : Hid (TlR t { σ with ts := σ.ts ++ [tk] } X (w.alloc (.cells #[.int .u8 tk.k, .string tk.s, .int .i64 tk.n, .int .i64 tk.p] 91))) := hidI (by
  obtain ⟨Q, hq, hr⟩ := hA.rows
  rw [hpr] at hq
  exact ⟨hA.below, ⟨Q, by rw [hpr]; exact hq, hr⟩, hA.kept⟩)
 clear h hA
 go_enter Tryz.func52, Tryz.ntmps52
 go_wp2
 go_end0
 exact ⟨rfl, HA.out⟩
theorem field196 (x y : Int) (u : World) : (Instr.field 111 (.agg #[.int .i64 x, .int .i64 y]) 1).run Tryz.prog u = .ok (.int .i64 y) u := by kernel_rfl
def sndT (w : World) (B : Nat) (p : PV) : Tx := ⟨w, B, p, .func (.func 52) #[] #[], fun _ Q => Q = [], []⟩
set_option maxRecDepth 100000 in
set_option maxHeartbeats 1000000 in
theorem told_sound (p : PV) (da xa sa ma : Option Addr) (dn dc xn xc sn sc mn mc : Nat) (hd : p.dv = .slice da dn dc) (hx : p.xv = .slice xa xn xc) (hs : p.sv = .slice sa sn sc) (hm : p.mv = .slice ma mn mc) (w : World) (hL : Laid w) (hp : SeesPv w p) (ho : PrgOk p.prg) :
  Calls Tryz.prog 51 #[.agg #[.slice da dn dc, .slice xa xn xc, .slice sa sn sc, .slice ma mn mc], .func (.func 52) #[] #[]] w fun e w' => e = .returned (.bool (soundP p.prg)) ∧ Below w.heap.size w w' := by
 have hmf : ∀ (fn : Go.Fn) (first cap : Array Value) (w : World), (Instr.makeFunc fn first cap).run Tryz.prog w = .ok (.func fn first cap) w := fun _ _ _ _ => rfl
 have hk : (sndT w (w.heap.size + 1) p).Ok 52 := ⟨hL, hp, ho, rfl, rfl, fun K => put_sound _ rfl⟩
 have HS : TlS (sndT w (w.heap.size + 1) p) ts0 [] ((w.alloc (.cells #[.slice da dn dc, .slice xa xn xc, .slice sa sn sc, .slice ma mn mc] 47)).alloc (.cells #[.slice da dn dc, .slice xa xn xc, .slice sa sn sc, .slice ma mn mc, .int .i64 0, .int .i64 0, .int .i64 0, .int .i64 0, .func (.func 52) #[] #[]] 174)) := by
  have hb : Below w.heap.size w (w.alloc (.cells #[.slice da dn dc, .slice xa xn xc, .slice sa sn sc, .slice ma mn mc] 47)) := (Below.refl _ _).alloc (Nat.le_refl _) _
  refine ⟨⟨hb.alloc hb.size _, ⟨[], rfl, ?_⟩, fun x hx => absurd hx (by simp [sndT])⟩, ⟨by decide, by decide, by decide⟩⟩
  have h1 : RowsP (w.alloc (.cells #[.slice da dn dc, .slice xa xn xc, .slice sa sn sc, .slice ma mn mc] 47)) w.heap.size [] := ⟨fun r hr => absurd hr (by simp), List.Pairwise.nil⟩
  have h2 := zcK (w.alloc (.cells #[.slice da dn dc, .slice xa xn xc, .slice sa sn sc, .slice ma mn mc] 47)) w.heap.size 174 9 #[.slice da dn dc, .slice xa xn xc, .slice sa sn sc, .slice ma mn mc, .int .i64 0, .int .i64 0, .int .i64 0, .int .i64 0, .func (.func 52) #[] #[]] hb.size rfl
  rw [World.size_alloc] at h2
  have e1 : (tlBox (sndT w (w.heap.size + 1) p) ts0) = ⟨bx (w.heap.size + 1), 174, 9, 1, [.slice da dn dc, .slice xa xn xc, .slice sa sn sc, .slice ma mn mc, .int .i64 0, .int .i64 0, .int .i64 0, .int .i64 0, .func (.func 52) #[] #[]]⟩ := by
   simp [tlBox, sndT, ts0, hd, hx, hs, hm]
  rw [e1]
  exact h1.add (h1.alloc _) h2 (fun k hk => by cases hk; simp)
 have C := hidI (tcaught_any hk HS)
 have HS0 : Hid (soundP p.prg = (tProg p.prg ts0).isSome) := hidI rfl
 have hP : (sndT w (w.heap.size + 1) p).P.prg = p.prg := rfl
 have hB : (sndT w (w.heap.size + 1) p).B = w.heap.size + 1 := rfl
 rw [hP, hB] at C
 cases hr : tProg p.prg ts0 with
 | none =>
  have HR : Hid (soundP p.prg = false) := hidI (by rw [HS0.out, hr]; rfl)
  rw [hr] at C
  have hf3 := fun u => field196 0 3 u
  have hf0 := fun u => field196 0 0 u
  clear hr HS hk hp ho hd hx hs hm hP hB
  go_enter Tryz.func51, Tryz.ntmps51
  go_wp2_with (go_at_call 48; refine C.out.mono ?_; intro e w1 h1; obtain ⟨rfl, hb1⟩ := h1; clear C)
  go_ret
  rw [HR.out]
  exact ⟨rfl, hb1.below⟩
 | some σ1 =>
  have HR : Hid (soundP p.prg = true) := hidI (by rw [HS0.out, hr]; rfl)
  rw [hr] at C
  have hf3 := fun u => field196 0 3 u
  have hf0 := fun u => field196 0 0 u
  clear hr HS hk hp ho hd hx hs hm hP hB
  go_enter Tryz.func51, Tryz.ntmps51
  go_wp2_with (go_at_call 48; refine C.out.mono ?_; intro e w1 h1; obtain ⟨rfl, hb1⟩ := h1; clear C)
  go_ret
  rw [HR.out]
  exact ⟨rfl, hb1.r.below⟩
theorem sound_any (p : PV) (w : World) (hL : Laid w) (hp : SeesPv w p) (ho : PrgOk p.prg) :
  Calls Tryz.prog 31 #[.agg #[p.dv, p.xv, p.sv, p.mv]] w fun e w' => e = .returned (.bool (soundP p.prg)) ∧ Below w.heap.size w w' := by
 obtain ⟨_, da, dc, hd, _⟩ := id hp.d
 obtain ⟨_, xa, xc, hx, _⟩ := id hp.x
 obtain ⟨_, sa, sc, hs, _⟩ := id hp.s
 obtain ⟨_, ma, mc, hm, _⟩ := id hp.m
 have hb : Below w.heap.size w (w.alloc (.cells #[.slice da p.ds.length dc, .slice xa p.xs.length xc, .slice sa p.ss.length sc, .slice ma p.ms.length mc] 47)) := (Below.refl _ _).alloc (Nat.le_refl _) _
 have C := hidI (told_sound p da xa sa ma _ dc _ xc _ sc _ mc hd hx hs hm _ (hL.on hb) (hp.below hb) ho)
 have HB := hidI hb
 rw [hd, hx, hs, hm]
 clear hd hx hs hm hb hp ho hL
 go_enter Tryz.func31, Tryz.ntmps31
 go_wp2_with (go_at_call 51; refine C.out.mono ?_; intro e w1 h1; obtain ⟨rfl, hb1⟩ := h1; clear C)
 go_ret
 exact ⟨rfl, HB.out.trans (hb1.mono HB.out.size)⟩
end Go.Proofs.YtmekkhfohmfjkaaGreatDoor
