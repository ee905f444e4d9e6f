/-
  Texts Book BookName BookAt BookTo BookTell BookGet BookList, one behind the other.
-/
import Derived.Test.YtbjoljokdjgbnabGD
import Derived.BigQuiet
import Derived.Laws.StructEq
/-
  The document's table: Len, before.
-/
namespace Go.Proofs.Ytbjoljokdjgbnab
open Go.RowKit Go.Deep Go.MapKept
theorem rlen_any (tb : Nat) (n m s : Int) (w : World) (c0 : w.cell? ⟨tb, 0, none⟩ = some (.int .i64 n)) (c1 : w.cell? ⟨tb, 1, none⟩ = some (.int .i64 m)) :
    Calls Try.prog 49 #[.pointer (some ⟨tb, 0, none⟩), .int .u8 s] w fun e w' => e = .returned (.int .i64 (sideLen n m s)) ∧ w = w' := by
  unfold sideLen
  by_cases h1 : s = 1
  · subst h1
    go_enter Try.func49, Try.ntmps49
    go_wp2
    go_ret
    exact ⟨rfl, rfl⟩
  by_cases h2 : s = 2
  · subst h2
    go_enter Try.func49, Try.ntmps49
    go_wp2
    go_ret
    exact ⟨rfl, rfl⟩
  by_cases h3 : s = 3
  · subst h3
    go_enter Try.func49, Try.ntmps49
    go_wp2
    go_ret
    exact ⟨rfl, rfl⟩
  have q1 : (s == 1) = false := by simpa using h1
  have q2 : (s == 2) = false := by simpa using h2
  have q3 : (s == 3) = false := by simpa using h3
  go_enter Try.func49, Try.ntmps49
  go_wp2
  go_ret
  exact ⟨by simp, rfl⟩
theorem rbefore_any (s t : ByteArray) (d f : Int) (w : World) :
    Calls Try.prog 86 #[ke s d, ke t f] w fun e w' => e = .returned (.bool (ltK (s, d) (t, f))) ∧ Below w.heap.size w w' := by
  obtain ⟨v, hv⟩ : ∃ v, ltK (s, d) (t, f) = v := ⟨_, rfl⟩
  rw [hv]
  unfold ltK at hv
  simp only at hv
  by_cases h1 : d < f
  · have k1 : decide (d < f) = true := by simpa using h1
    obtain rfl : true = v := by rw [← hv, k1]; rfl
    go_enter Try.func86, Try.ntmps86
    go_wp2
    go_ret
    exact ⟨rfl, by (repeat (first | exact Below.refl _ _ | assumption | refine Below.drew ?_ | refine Below.alloc ?_ (by first | omega | (simp; done) | (simp; omega)) _ | refine Below.setCell ?_ (by first | omega | (simp; done) | (simp; omega)) _))⟩
  · have k1 : decide (d < f) = false := by simpa using h1
    by_cases h2 : d = f
    · subst h2
      have k2 : (d == d) = true := by simp
      have k3 : Op.bytesLess s.toList t.toList = v := by rw [bytesLess_eq, ← hv, k1]; simp
      go_enter Try.func86, Try.ntmps86
      go_wp2
      go_ret
      exact ⟨by simp, by (repeat (first | exact Below.refl _ _ | assumption | refine Below.drew ?_ | refine Below.alloc ?_ (by first | omega | (simp; done) | (simp; omega)) _ | refine Below.setCell ?_ (by first | omega | (simp; done) | (simp; omega)) _))⟩
    · have k2 : (d == f) = false := by simpa using h2
      obtain rfl : false = v := by rw [← hv, k1]; simp [h2]
      go_enter Try.func86, Try.ntmps86
      go_wp2
      go_ret
      exact ⟨rfl, by (repeat (first | exact Below.refl _ _ | assumption | refine Below.drew ?_ | refine Below.alloc ?_ (by first | omega | (simp; done) | (simp; omega)) _ | refine Below.setCell ?_ (by first | omega | (simp; done) | (simp; omega)) _))⟩
end Go.Proofs.Ytbjoljokdjgbnab
/-
  The document's Name.
-/
namespace Go.Proofs.Ytbjoljokdjgbnab
open Go.RowKit Go.Deep Go.MapKept
def goodAt (c : Int) (i : Nat) : Bool := letter c || (digit c && decide (i ≠ 0))
set_option maxRecDepth 100000 in
set_option maxHeartbeats 4000000 in
theorem rname_in (s : ByteArray) (w : World) (h1 : 1 ≤ s.size) (h8 : s.size ≤ 8) :
    Calls Try.prog 88 #[.string s] w fun e w' => e = .returned (.bool ((List.range s.size).all fun i => goodAt (sign s i) i)) ∧ w = w' := by
  obtain ⟨m, hm⟩ : ∃ m, s.size = m := ⟨_, rfl⟩
  have ql : ∀ w, (Builtin.len_ #[9] 3 #[.string s]).run Try.prog w = .ok (.int .i64 (m : Int)) w := fun w => by rw [run_len_string w 9 3 s Try.underlying9, hm]; rfl
  have QI := hidI (sign_at s)
  rw [hm] at QI h1 h8 ⊢
  have k1 : decide ((m : Int) < 1) = false := by simp; omega
  have k2 : decide (8 < (m : Int)) = false := by simp; omega
  obtain ⟨f, hf⟩ : ∃ f : Nat → Int, ∀ i, sign s i = f i := ⟨_, fun _ => rfl⟩
  simp only [hf] at QI ⊢
  go_enter Try.func88, Try.ntmps88
  go_wp2
  go_loopg [3] m (fun g s3 wx => ∃ i : Nat, i + g = m ∧ s3 = .int .i64 i ∧ (∀ j, j < i → goodAt (f j) j = true) ∧ w = wx)
  case atStart => exact ⟨0, by omega, rfl, by simp, rfl⟩
  case round =>
    obtain ⟨i, hig, rfl, hall, rfl⟩ := hrel
    cases gk with
    | zero =>
      have him : m = i := by omega
      subst him
      go_wp2
      go_ret
      refine ⟨?_, rfl⟩
      have : (List.range m).all (fun i => goodAt (f i) i) = true := by rw [List.all_eq_true]; intro j hj; exact hall j (List.mem_range.1 hj)
      rw [this]; rfl
    | succ g =>
      have him : i < m := by omega
      have k3 : (i : Int) < (m : Int) := by omega
      have q1 : ∀ w, (Instr.index 9 (.string s) (.int .i64 (i : Int))).run Try.prog w = .ok (.int .u8 (f i)) w := QI.out i him
      have A := hidI hall
      clear hall
      obtain ⟨c, hc⟩ : ∃ c, f i = c := ⟨_, rfl⟩
      rw [hc] at q1
      have hgood : goodAt c i = (decide (97 ≤ c) && decide (c ≤ 122) || (decide (48 ≤ c) && decide (c ≤ 57) && decide (i ≠ 0))) := rfl
      obtain ⟨b1, a1⟩ : ∃ b, decide (97 ≤ c) = b := ⟨_, rfl⟩
      obtain ⟨b2, a2⟩ : ∃ b, decide (c ≤ 122) = b := ⟨_, rfl⟩
      obtain ⟨b3, a3⟩ : ∃ b, decide (48 ≤ c) = b := ⟨_, rfl⟩
      obtain ⟨b4, a4⟩ : ∃ b, decide (c ≤ 57) = b := ⟨_, rfl⟩
      have a5 : decide (i ≠ 0) = !((i : Int) == 0) := by
        by_cases h : i = 0
        · subst h; rfl
        · rw [show ((i : Int) == 0) = false by simpa using h]; simpa using h
      obtain ⟨b5, a6⟩ : ∃ b, ((i : Int) == 0) = b := ⟨_, rfl⟩
      rw [a1, a2, a3, a4, a5, a6] at hgood
      clear a5
      cases b1 <;> cases b2 <;> cases b3 <;> cases b4 <;> cases b5
      all_goals first
        | (have hg : goodAt c i = true := hgood
           go_wp2
           go_roundg g
           case measure => omega
           case rel =>
             refine ⟨i + 1, by omega, by go_num, fun j hj => ?_, rfl⟩
             rcases Nat.lt_succ_iff_lt_or_eq.1 hj with h | rfl
             · exact A.out j h
             · rw [hc]; exact hg)
        | (have hg : goodAt c i = false := hgood
           go_wp2
           go_ret
           refine ⟨?_, rfl⟩
           have : (List.range m).all (fun i => goodAt (f i) i) = false := by
             rw [List.all_eq_false]
             exact ⟨i, List.mem_range.2 him, by rw [hc, hg]; simp⟩
           rw [this]; rfl)
set_option maxRecDepth 100000 in
theorem rname_out (s : ByteArray) (w : World) (h : s.size < 1 ∨ 8 < s.size) : Calls Try.prog 88 #[.string s] w fun e w' => e = .returned (.bool false) ∧ w = w' := by
  obtain ⟨m, hm⟩ : ∃ m, s.size = m := ⟨_, rfl⟩
  have ql : ∀ w, (Builtin.len_ #[9] 3 #[.string s]).run Try.prog w = .ok (.int .i64 (m : Int)) w := fun w => by rw [run_len_string w 9 3 s Try.underlying9, hm]; rfl
  rw [hm] at h
  clear hm
  rcases h with h | h
  · have k1 : decide ((m : Int) < 1) = true := by simp; omega
    go_enter Try.func88, Try.ntmps88
    go_wp2
    go_ret
    exact ⟨rfl, rfl⟩
  · have k1 : decide ((m : Int) < 1) = false := by simp; omega
    have k2 : decide (8 < (m : Int)) = true := by simp; omega
    go_enter Try.func88, Try.ntmps88
    go_wp2
    go_ret
    exact ⟨rfl, rfl⟩
theorem rname_any (s : ByteArray) (w : World) : Calls Try.prog 88 #[.string s] w fun e w' => e = .returned (.bool (isName s)) ∧ w = w' := by
  by_cases h : s.size < 1 ∨ 8 < s.size
  · have : isName s = false := by
      unfold isName
      have : (decide (1 ≤ s.size) && decide (s.size ≤ 8)) = false := by
        rcases h with h | h
        · rw [decide_eq_false (by omega : ¬ 1 ≤ s.size)]; rfl
        · rw [decide_eq_false (by omega : ¬ s.size ≤ 8)]; simp
      rw [this]; rfl
    rw [this]
    exact rname_out s w h
  · have : isName s = (List.range s.size).all fun i => goodAt (sign s i) i := by
      rw [Bool.eq_iff_iff]
      simp only [isName, goodAt, Bool.and_eq_true, decide_eq_true_eq, List.all_eq_true, List.mem_range, Bool.or_eq_true]
      constructor
      · rintro ⟨⟨_, h0⟩, h2⟩ i hi
        by_cases hz : i = 0
        · subst hz; exact .inl h0
        · rcases h2 i hi with h3 | h3
          · exact .inl h3
          · exact .inr ⟨h3, hz⟩
      · intro h2
        refine ⟨⟨⟨by omega, by omega⟩, ?_⟩, fun i hi => ?_⟩
        · rcases h2 0 (by omega) with h3 | h3
          · exact h3
          · exact absurd rfl h3.2
        · rcases h2 i hi with h3 | h3
          · exact .inl h3
          · exact .inr h3.1
    rw [this]
    exact rname_in s w (by omega) (by omega)
end Go.Proofs.Ytbjoljokdjgbnab
/-
  The document's table, and its at.
-/
namespace Go.Proofs.Ytbjoljokdjgbnab
open Go.RowKit Go.Deep Go.MapKept
/-- A column of the document's. -/
structure One where
  name : ByteArray
  side : Int
  kind : Int
  vals : List Int
/-- Columns lie in a row. -/
def LieO (w : World) (b off : Nat) (os : List One) : Prop :=
  ∀ (j : Nat) (o : One), os[j]? = some o → w.cell? ⟨b, off + j * 4, none⟩ = some (.string o.name) ∧ w.cell? ⟨b, off + j * 4 + 1, none⟩ = some (.int .u8 o.side) ∧ w.cell? ⟨b, off + j * 4 + 2, none⟩ = some (.int .u8 o.kind) ∧ ∃ v, w.cell? ⟨b, off + j * 4 + 3, none⟩ = some v ∧ Sees w v o.vals
def SeesO (w : World) (v : Value) (os : List One) : Prop :=
  ∃ (a : Option Addr) (cap : Nat), v = .slice a os.length cap ∧ (os = [] ∨ ∃ b off, a = some ⟨b, off, none⟩ ∧ LieO w b off os)
theorem SeesO.below {w w' : World} {v : Value} {os : List One} {B : Nat} (h : SeesO w v os) (hb : Below B w w') (hB : w.heap.size ≤ B) : SeesO w' v os := by
  obtain ⟨a, cap, rfl, h⟩ := h
  refine ⟨a, cap, rfl, h.imp_right ?_⟩
  rintro ⟨b, off, rfl, hl⟩
  refine ⟨b, off, rfl, fun j o ho => ?_⟩
  obtain ⟨h0, h1, h2, x, h3, h4⟩ := hl j o ho
  have k : ∀ {p : Addr} {v : Value}, w.cell? p = some v → w'.cell? p = some v := fun {p v} hc => (hb.cell (Nat.lt_of_lt_of_le (World.block_lt_of_cell? w _ hc) hB)).trans hc
  exact ⟨k h0, k h1, k h2, x, k h3, h4.below hb hB⟩
/-- The document's table at rb. -/
def BookOf (w : World) (rb : Nat) (n m : Int) (os : List One) : Prop :=
  w.cell? ⟨rb, 0, none⟩ = some (.int .i64 n) ∧ w.cell? ⟨rb, 1, none⟩ = some (.int .i64 m) ∧ ∃ v, w.cell? ⟨rb, 2, none⟩ = some v ∧ SeesO w v os
theorem BookOf.below {w w' : World} {rb : Nat} {n m : Int} {os : List One} {B : Nat} (h : BookOf w rb n m os) (hb : Below B w w') (hB : w.heap.size ≤ B) : BookOf w' rb n m os := by
  obtain ⟨h0, h1, v, h2, h3⟩ := h
  have k : ∀ {p : Addr} {v : Value}, w.cell? p = some v → w'.cell? p = some v := fun {p v} hc => (hb.cell (Nat.lt_of_lt_of_le (World.block_lt_of_cell? w _ hc) hB)).trans hc
  exact ⟨k h0, k h1, v, k h2, h3.below hb hB⟩
/-- A key's place, from the i-th on; -1: none. -/
def atE (s : ByteArray) (d : Int) : Nat → List One → Int
  | _, [] => -1
  | i, o :: r => if o.name = s ∧ o.side = d then (i : Int) else atE s d (i + 1) r
end Go.Proofs.Ytbjoljokdjgbnab
/-
  The document's at.
-/
namespace Go.Proofs.Ytbjoljokdjgbnab
open Go.RowKit Go.Deep Go.MapKept
@[go_sem] theorem eq33 (a b : ByteArray) (c d : Int) (w : World) : (Op.equalIn 10000 40 (.agg #[.string a, .int .u8 c]) (.agg #[.string b, .int .u8 d])).run Try.prog w = .ok (a.toList == b.toList && c == d) w := by
  have u9 := Try.underlying9
  have u31 := Try.underlying38
  have hS : Try.prog.underlying 40 = some (.struct (Try.prog.fieldsOf 40)) := by kernel_rfl
  have hp : Try.prog.stoodInHeld 40 = false := by kernel_rfl
  rw [show (10000 : Nat) = 9999 + 1 from rfl, run_equalIn_agg w 9999 40 _ _ hS hp]
  simp only [Program.fieldsOf, Try.underlying40]
  go_simp
  cases h1 : (a.toList == b.toList) <;> cases h2 : (c == d) <;> simp_all
set_option maxRecDepth 100000 in
set_option maxHeartbeats 2000000 in
theorem rat_any (rb : Nat) (n m : Int) (os : List One) (s : ByteArray) (d : Int) (w : World) (h : BookOf w rb n m os) (hl : os.length ≤ 1000) :
    Calls Try.prog 54 #[.pointer (some ⟨rb, 0, none⟩), ke s d] w fun e w' => e = .returned (.int .i64 (atE s d 0 os)) ∧ Below w.heap.size w w' := by
  obtain ⟨W, hW⟩ : ∃ W, w.alloc (.cells #[.string s, .int .u8 d] 40) = W := ⟨_, rfl⟩
  have hbel : Below w.heap.size w W := by subst hW; exact (Below.refl _ _).alloc (by omega) _
  have hB := h.below hbel (Nat.le_refl _)
  obtain ⟨_, _, v, h2, a, cap, rfl, hL⟩ := hB
  have g0 : W.cell? ⟨w.heap.size, 0, none⟩ = some (.string s) := by subst hW; go_simp
  have g1 : W.cell? ⟨w.heap.size, 1, none⟩ = some (.int .u8 d) := by subst hW; go_simp
  obtain ⟨k, hk⟩ : ∃ k, os.length = k := ⟨_, rfl⟩
  rw [hk] at h2 hl
  have HL := hidI hL
  have HB := hidI hbel
  clear hL hbel h
  go_enter Try.func54, Try.ntmps54
  go_wp2
  go_loopg [5] k (fun g s5 wx => ∃ i : Nat, i + g = k ∧ s5 = .int .i64 i ∧ atE s d 0 os = atE s d i (os.drop i) ∧ Hid (Below W.heap.size W wx))
  case atStart => exact ⟨0, by omega, rfl, rfl, hidI (Below.refl _ _)⟩
  case round =>
    obtain ⟨i, hig, rfl, hat, HX⟩ := hrel
    have kk : ∀ {p : Addr} {v : Value}, W.cell? p = some v → wr.cell? p = some v := fun {p v} hc => (HX.out.cell (World.block_lt_of_cell? W _ hc)).trans hc
    have HY : Hid (Below w.heap.size w wr) := hidI (HB.out.trans (HX.out.mono HB.out.size))
    have h2' := kk h2
    have g0' := kk g0
    have g1' := kk g1
    clear h2 g0 g1
    cases gk with
    | zero =>
      have him : k = i := by omega
      subst him
      go_wp2
      go_ret
      refine ⟨?_, HY.out⟩
      rw [hat, List.drop_eq_nil_of_le (by omega)]
      rfl
    | succ g =>
      have him : i < k := by omega
      have k3 : (i : Int) < (k : Int) := by omega
      obtain ⟨o, ho⟩ : ∃ o, os[i]? = some o := ⟨_, List.getElem?_eq_getElem (by omega)⟩
      rcases HL.out with hnil | ⟨b, off, rfl, hlie⟩
      · subst hnil; simp at hk; omega
      obtain ⟨e0, e1, _⟩ := hlie i o ho
      replace e0 := kk e0
      replace e1 := kk e1
      clear hlie HL kk
      have hgt : Try.prog.eqGuardType Try.prog.depth 40 = false := by kernel_rfl
      have hdrop : os.drop i = o :: os.drop (i + 1) := by
        rw [List.drop_eq_getElem_cons (by omega)]
        congr 1
        exact (List.getElem?_eq_some_iff.1 ho).2
      rw [hdrop] at hat
      by_cases n1 : o.name = s
      · by_cases n2 : o.side = d
        · rw [n1] at e0
          rw [n2] at e1
          go_wp2
          go_region
          all_goals
            go_wp2
            go_ret
            refine ⟨?_, by have := HY.out; (repeat (first | exact Below.refl _ _ | assumption | refine Below.drew ?_))⟩
            rw [hat, atE, if_pos ⟨n1, n2⟩]
            rfl
        · rw [n1] at e0
          go_wp2
          go_region
          all_goals
            go_wp2
            go_roundg g
            case measure => omega
            case rel =>
              refine ⟨i + 1, by omega, by go_num, ?_, hidI (by have := HX.out; (repeat (first | exact Below.refl _ _ | assumption | refine Below.drew ?_)))⟩
              rw [hat, atE, if_neg (by simp [n1, n2])]
      · have n3 : ¬ o.name.toList = s.toList := fun e => n1 (by
          rw [ByteArray.toList_eq, ByteArray.toList_eq] at e
          exact ByteArray.ext (Array.toList_inj.1 e))
        go_wp2
        go_region
        all_goals
          go_wp2
          go_roundg g
          case measure => omega
          case rel =>
            refine ⟨i + 1, by omega, by go_num, ?_, hidI (by have := HX.out; (repeat (first | exact Below.refl _ _ | assumption | refine Below.drew ?_)))⟩
            rw [hat, atE, if_neg (fun h => n1 h.1)]
end Go.Proofs.Ytbjoljokdjgbnab
/-
  KindOf and Get of the document's table.
-/
namespace Go.Proofs.Ytbjoljokdjgbnab
open Go.RowKit Go.Deep Go.MapKept
def One.at (s : ByteArray) (d : Int) (o : One) : Bool := decide (o.name = s) && decide (o.side = d)
theorem at_from (s : ByteArray) (d : Int) : ∀ (os : List One) (k : Nat), (∃ (i : Nat) (o : One), os[i]? = some o ∧ o.name = s ∧ o.side = d ∧ atE s d k os = (k + i : Nat) ∧ os.find? (One.at s d) = some o) ∨ (atE s d k os = -1 ∧ os.find? (One.at s d) = none)
  | [], k => .inr ⟨rfl, rfl⟩
  | o :: r, k => by
    by_cases h : o.name = s ∧ o.side = d
    · exact .inl ⟨0, o, rfl, h.1, h.2, by simp [atE, h], by simp [One.at, h]⟩
    · have hat : One.at s d o = false := by
        cases hq : One.at s d o with
        | false => rfl
        | true => simp only [One.at, Bool.and_eq_true, decide_eq_true_eq] at hq; exact absurd hq h
      rcases at_from s d r (k + 1) with ⟨i, p, h1, h2, h3, h4, h5⟩ | ⟨h4, h5⟩
      · exact .inl ⟨i + 1, p, by simpa using h1, h2, h3, by rw [atE, if_neg h, h4]; congr 1; omega, by rw [List.find?_cons, hat]; exact h5⟩
      · exact .inr ⟨by rw [atE, if_neg h, h4], by rw [List.find?_cons, hat]; exact h5⟩
theorem at_cases (os : List One) (s : ByteArray) (d : Int) : (∃ (i : Nat) (o : One), os[i]? = some o ∧ o.name = s ∧ o.side = d ∧ atE s d 0 os = (i : Int) ∧ os.find? (One.at s d) = some o) ∨ (atE s d 0 os = -1 ∧ os.find? (One.at s d) = none) := by
  have := at_from s d os 0
  simpa using this
def rkindE (os : List One) (s : ByteArray) (d : Int) : Int := match os.find? (One.at s d) with | none => 0 | some o => o.kind
set_option maxRecDepth 100000 in
theorem rkind_any (rb : Nat) (n m : Int) (os : List One) (s : ByteArray) (d : Int) (w : World) (h : BookOf w rb n m os) (hl : os.length ≤ 1000) :
    Calls Try.prog 48 #[.pointer (some ⟨rb, 0, none⟩), ke s d] w fun e w' => e = .returned (.int .u8 (rkindE os s d)) ∧ Below w.heap.size w w' := by
  have C : Hid (∀ u, Below w.heap.size w u → Calls Try.prog 54 #[.pointer (some ⟨rb, 0, none⟩), ke s d] u fun e w' => e = .returned (.int .i64 (atE s d 0 os)) ∧ Below u.heap.size u w') := hidI fun u hu => rat_any rb n m os s d u (h.below hu (Nat.le_refl _)) hl
  have H := hidI h
  rcases at_cases os s d with ⟨i, o, ho, e1, e2, ha, hf⟩ | ⟨ha, hf⟩
  · rw [show rkindE os s d = o.kind by simp [rkindE, hf]]
    rw [ha] at C
    go_enter Try.func48, Try.ntmps48
    go_wp2_with (go_at_call 54; refine Calls.mono (C.out _ (by (repeat (first | exact Below.refl _ _ | assumption | refine Below.drew ?_ | refine Below.alloc ?_ (by first | omega | (simp; done) | (simp; omega)) _ | refine Below.setCell ?_ (by first | omega | (simp; done) | (simp; omega)) _)))) ?_; rintro e w1 ⟨rfl, hb1⟩; refine Hid.out ?_)
    refine hidI ?_
    have HB : Hid (Below w.heap.size w w1) := hidI (Below.trans (by (repeat (first | exact Below.refl _ _ | assumption | refine Below.drew ?_ | refine Below.alloc ?_ (by first | omega | (simp; done) | (simp; omega)) _ | refine Below.setCell ?_ (by first | omega | (simp; done) | (simp; omega)) _))) (hb1.mono (by simp)))
    clear hb1 C
    obtain ⟨_, _, v, c2, a, cap, rfl, hL⟩ := H.out.below HB.out (Nat.le_refl _)
    have hio := (List.getElem?_eq_some_iff.1 ho).1
    rcases hL with hnil | ⟨b, off, rfl, hlie⟩
    · subst hnil; simp at ho
    obtain ⟨_, _, x2, v, x3, a', cap', rfl, hL'⟩ := hlie i o ho
    clear hlie H
    obtain ⟨k, hk⟩ : ∃ k, os.length = k := ⟨_, rfl⟩
    rw [hk] at c2 hio
    have k3 : (i : Int) < (k : Int) := by omega
    have k4 : decide ((i : Int) < 0) = false := by simp
    go_wp2
    go_ret
    exact ⟨rfl, HB.out⟩
  · rw [show rkindE os s d = 0 by simp [rkindE, hf]]
    rw [ha] at C
    go_enter Try.func48, Try.ntmps48
    go_wp2_with (go_at_call 54; refine Calls.mono (C.out _ (by (repeat (first | exact Below.refl _ _ | assumption | refine Below.drew ?_ | refine Below.alloc ?_ (by first | omega | (simp; done) | (simp; omega)) _ | refine Below.setCell ?_ (by first | omega | (simp; done) | (simp; omega)) _)))) ?_; rintro e w1 ⟨rfl, hb1⟩; refine Hid.out ?_)
    refine hidI ?_
    have HB : Hid (Below w.heap.size w w1) := hidI (Below.trans (by (repeat (first | exact Below.refl _ _ | assumption | refine Below.drew ?_ | refine Below.alloc ?_ (by first | omega | (simp; done) | (simp; omega)) _ | refine Below.setCell ?_ (by first | omega | (simp; done) | (simp; omega)) _))) (hb1.mono (by simp)))
    clear hb1 C
    go_wp2
    go_ret
    exact ⟨rfl, HB.out⟩
end Go.Proofs.Ytbjoljokdjgbnab
/-
  Get of the document's table.
-/
namespace Go.Proofs.Ytbjoljokdjgbnab
open Go.RowKit Go.Deep Go.MapKept
def rgetE (os : List One) (s : ByteArray) (d i : Int) : Int × Int := match os.find? (One.at s d) with | none => (0, 5) | some c => if 0 ≤ i ∧ i < (c.vals.length : Int) then (c.vals.getD i.toNat 0, 0) else (0, 2)
set_option maxRecDepth 100000 in
theorem rget_any (rb : Nat) (n m : Int) (os : List One) (s : ByteArray) (d j : Int) (w : World) (h : BookOf w rb n m os) (hl : os.length ≤ 1000) :
    Calls Try.prog 24 #[.pointer (some ⟨rb, 0, none⟩), ke s d, .int .i64 j] w fun e w' => e = .returned (.tuple #[.int .i64 (rgetE os s d j).1, .int .i64 (rgetE os s d j).2]) ∧ Below w.heap.size w w' := by
  have C : Hid (∀ u, Below w.heap.size w u → Calls Try.prog 54 #[.pointer (some ⟨rb, 0, none⟩), ke s d] u fun e w' => e = .returned (.int .i64 (atE s d 0 os)) ∧ Below u.heap.size u w') := hidI fun u hu => rat_any rb n m os s d u (h.below hu (Nat.le_refl _)) hl
  have H := hidI h
  rcases at_cases os s d with ⟨i, o, ho, e1, e2, ha, hf⟩ | ⟨ha, hf⟩
  · rw [ha] at C
    have hR : rgetE os s d j = if 0 ≤ j ∧ j < (o.vals.length : Int) then (o.vals.getD j.toNat 0, 0) else (0, 2) := by simp [rgetE, hf]
    go_enter Try.func24, Try.ntmps24
    go_wp2_with (go_at_call 54; refine Calls.mono (C.out _ (by (repeat (first | exact Below.refl _ _ | assumption | refine Below.drew ?_ | refine Below.alloc ?_ (by first | omega | (simp; done) | (simp; omega)) _ | refine Below.setCell ?_ (by first | omega | (simp; done) | (simp; omega)) _)))) ?_; rintro e w1 ⟨rfl, hb1⟩; refine Hid.out ?_)
    refine hidI ?_
    have HB : Hid (Below w.heap.size w w1) := hidI (Below.trans (by (repeat (first | exact Below.refl _ _ | assumption | refine Below.drew ?_ | refine Below.alloc ?_ (by first | omega | (simp; done) | (simp; omega)) _ | refine Below.setCell ?_ (by first | omega | (simp; done) | (simp; omega)) _))) (hb1.mono (by simp)))
    clear hb1 C
    obtain ⟨_, _, v, c2, a, cap, rfl, hL⟩ := H.out.below HB.out (Nat.le_refl _)
    have hio := (List.getElem?_eq_some_iff.1 ho).1
    rcases hL with hnil | ⟨b, off, rfl, hlie⟩
    · subst hnil; simp at ho
    obtain ⟨_, _, x2, v, x3, a', cap', rfl, hL'⟩ := hlie i o ho
    clear hlie H
    obtain ⟨k, hk⟩ : ∃ k, os.length = k := ⟨_, rfl⟩
    rw [hk] at c2 hio
    have k3 : (i : Int) < (k : Int) := by omega
    have k4 : decide ((i : Int) < 0) = false := by simp
    obtain ⟨l, hll⟩ : ∃ l, o.vals.length = l := ⟨_, rfl⟩
    rw [hll] at x3 hR
    have k7 : decide ((i : Int) < 0) = false := by simp
    by_cases j0 : j < 0
    · have k5 : decide (j < 0) = true := by simpa using j0
      rw [if_neg (by omega)] at hR
      go_wp2
      go_ret2
      exact ⟨by first | rfl | (rw [hR]; rfl) | (simp; done), HB.out⟩
    · have k5 : decide (j < 0) = false := by simpa using j0
      by_cases j1 : j < (l : Int)
      · have k6 : decide ((l : Int) ≤ j) = false := by simpa using j1
        rw [if_pos (by omega)] at hR
        obtain ⟨t, rfl⟩ : ∃ t : Nat, j = (t : Int) := ⟨j.toNat, by omega⟩
        rcases hL' with hnil | ⟨b', off', rfl, hz⟩
        · rw [hnil] at hll; simp at hll; omega
        have x4 := hz t (by omega)
        clear hz
        go_wp2
        go_ret2
        exact ⟨by first | rfl | (rw [hR]; rfl) | (simp; done), HB.out⟩
      · have k6 : decide ((l : Int) ≤ j) = true := by simpa using j1
        rw [if_neg (by omega)] at hR
        go_wp2
        go_ret2
        exact ⟨by first | rfl | (rw [hR]; rfl) | (simp; done), HB.out⟩
  · rw [show rgetE os s d j = (0, 5) by simp [rgetE, hf]]
    rw [ha] at C
    go_enter Try.func24, Try.ntmps24
    go_wp2_with (go_at_call 54; refine Calls.mono (C.out _ (by (repeat (first | exact Below.refl _ _ | assumption | refine Below.drew ?_ | refine Below.alloc ?_ (by first | omega | (simp; done) | (simp; omega)) _ | refine Below.setCell ?_ (by first | omega | (simp; done) | (simp; omega)) _)))) ?_; rintro e w1 ⟨rfl, hb1⟩; refine Hid.out ?_)
    refine hidI ?_
    have HB : Hid (Below w.heap.size w w1) := hidI (Below.trans (by (repeat (first | exact Below.refl _ _ | assumption | refine Below.drew ?_ | refine Below.alloc ?_ (by first | omega | (simp; done) | (simp; omega)) _ | refine Below.setCell ?_ (by first | omega | (simp; done) | (simp; omega)) _))) (hb1.mono (by simp)))
    clear hb1 C
    go_wp2
    go_ret2
    exact ⟨rfl, HB.out⟩
end Go.Proofs.Ytbjoljokdjgbnab
/-
  List of the document's table.
-/
namespace Go.Proofs.Ytbjoljokdjgbnab
open Go.RowKit Go.Deep Go.MapKept
def rlistE (os : List One) (s : ByteArray) (d : Int) : List Int := match os.find? (One.at s d) with | none => [] | some o => o.vals
set_option maxRecDepth 100000 in
set_option maxHeartbeats 1000000 in
theorem rlist_any (rb : Nat) (n m : Int) (os : List One) (s : ByteArray) (d : Int) (w : World) (h : BookOf w rb n m os) (hl : os.length ≤ 1000) (hv : ∀ o ∈ os, o.vals.length ≤ 100000) :
    Calls Try.prog 47 #[.pointer (some ⟨rb, 0, none⟩), ke s d] w fun e w' => ∃ u, e = .returned u ∧ Sees w' u (rlistE os s d) ∧ Below w.heap.size w w' := by
  have C : Hid (∀ u, Below w.heap.size w u → Calls Try.prog 54 #[.pointer (some ⟨rb, 0, none⟩), ke s d] u fun e w' => e = .returned (.int .i64 (atE s d 0 os)) ∧ Below u.heap.size u w') := hidI fun u hu => rat_any rb n m os s d u (h.below hu (Nat.le_refl _)) hl
  have H := hidI h
  rcases at_cases os s d with ⟨i, o, ho, e1, e2, ha, hf⟩ | ⟨ha, hf⟩
  · rw [ha] at C
    rw [show rlistE os s d = o.vals by simp [rlistE, hf]]
    have hvo := hv o (List.mem_of_getElem? ho)
    go_enter Try.func47, Try.ntmps47
    go_wp2_with (go_at_call 54; refine Calls.mono (C.out _ (by (repeat (first | exact Below.refl _ _ | assumption | refine Below.drew ?_ | refine Below.alloc ?_ (by first | omega | (simp; done) | (simp; omega)) _ | refine Below.setCell ?_ (by first | omega | (simp; done) | (simp; omega)) _)))) ?_; rintro e w1 ⟨rfl, hb1⟩; refine Hid.out ?_)
    refine hidI ?_
    have HB : Hid (Below w.heap.size w w1) := hidI (Below.trans (by (repeat (first | exact Below.refl _ _ | assumption | refine Below.drew ?_ | refine Below.alloc ?_ (by first | omega | (simp; done) | (simp; omega)) _ | refine Below.setCell ?_ (by first | omega | (simp; done) | (simp; omega)) _))) (hb1.mono (by simp)))
    clear hb1 C
    obtain ⟨_, _, v, c2, a, cap, rfl, hL⟩ := H.out.below HB.out (Nat.le_refl _)
    have hio := (List.getElem?_eq_some_iff.1 ho).1
    rcases hL with hnil | ⟨b, off, rfl, hlie⟩
    · subst hnil; simp at ho
    obtain ⟨_, _, x2, v, x3, a', cap', rfl, hL'⟩ := hlie i o ho
    clear hlie H
    obtain ⟨k, hk⟩ : ∃ k, os.length = k := ⟨_, rfl⟩
    rw [hk] at c2 hio
    have k3 : (i : Int) < (k : Int) := by omega
    have k4 : decide ((i : Int) < 0) = false := by simp
    have HV0 : Sees w1 (.slice a' o.vals.length cap') o.vals := ⟨a', cap', rfl, hL'⟩
    have HV := hidI (HV0.below ((Below.refl _ w1).alloc (Nat.le_refl _) (.cells #[] 51)) (Nat.le_refl _))
    have HO := hidI (World.ownsRow_made (base := w1.heap.size) (e := 51) (size := 1) w1 #[] 0 (Nat.le_refl _) (by unfold maxLen; omega) rfl)
    have hw1 := HB.out.size
    clear HV0 hL'
    have kA : ∀ {p : Addr} {v : Value}, w1.cell? p = some v → (w1.alloc (.cells #[] 51)).cell? p = some v := fun {p v} hc => (((Below.refl _ w1).alloc (Nat.le_refl _) (.cells #[] 51)).cell (World.block_lt_of_cell? w1 _ hc)).trans hc
    have c2a := kA c2
    have x3a := kA x3
    clear kA c2 x3 x2
    have u36 : ∀ w, Sem.run Try.prog (underlying 60) w = .ok (TypeDesc.slice 51) w := run_underlying Try.underlying60
    go_wp2_with (at_builtin; refine wpList_append_words rfl _ _ rfl w1.heap.size _ 0 [] rfl HO.out _ o.vals rfl HV.out (by omega) (by simp) ?_; intro v' w2 hown' hgrow' hat')
    go_ret
    refine ⟨v', rfl, sees_of_owns (base := w1.heap.size) (e := 51) (by simpa using hown'), HB.out.trans (Below.mono (B := w1.heap.size) ?_ hw1)⟩
    exact ((Below.refl _ w1).alloc (Nat.le_refl _) _).grown hgrow' (by simp) (fun k hk => (HO.out.lt k hk).1)
  · rw [ha] at C
    rw [show rlistE os s d = [] by simp [rlistE, hf]]
    go_enter Try.func47, Try.ntmps47
    go_wp2_with (go_at_call 54; refine Calls.mono (C.out _ (by (repeat (first | exact Below.refl _ _ | assumption | refine Below.drew ?_ | refine Below.alloc ?_ (by first | omega | (simp; done) | (simp; omega)) _ | refine Below.setCell ?_ (by first | omega | (simp; done) | (simp; omega)) _)))) ?_; rintro e w1 ⟨rfl, hb1⟩; refine Hid.out ?_)
    refine hidI ?_
    have HB : Hid (Below w.heap.size w w1) := hidI (Below.trans (by (repeat (first | exact Below.refl _ _ | assumption | refine Below.drew ?_ | refine Below.alloc ?_ (by first | omega | (simp; done) | (simp; omega)) _ | refine Below.setCell ?_ (by first | omega | (simp; done) | (simp; omega)) _))) (hb1.mono (by simp)))
    clear hb1 C
    go_wp2
    go_ret
    exact ⟨_, rfl, ⟨none, 0, rfl, .inl rfl⟩, HB.out⟩
end Go.Proofs.Ytbjoljokdjgbnab
