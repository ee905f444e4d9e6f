/-
  Texts with a bracket too many: their tokens, and what Parse tells of them.
-/
import Derived.Test.YtmihhebcchpmcaaGreatDoorPParse
import Derived.Test.YtmihhebcchpmcaaGreatDoorPToks
namespace Go.Proofs.YtmihhebcchpmcaaGreatDoor
open Go.RowKit Go.Deep Go.MapKept
def unit6 : Txt := [40, 98, 32, 49, 41, 32]
def rep (n : Nat) : Txt := (List.replicate n unit6).flatten
theorem rep_succ (n : Nat) : rep (n + 1) = rep n ++ unit6 := by
  unfold rep
  rw [List.replicate_succ', List.flatten_append]
  simp
theorem rep_len (n : Nat) : (rep n).length = 6 * n := by
  induction n with
  | zero => rfl
  | succ n ih => rw [rep_succ, List.length_append, ih]; simp [unit6]; omega
def withB (n k : Nat) (c : UInt8) : Txt := (rep n).take (6 * k) ++ [c] ++ (rep n).drop (6 * k)
def kc (l : Txt) : Int := if l = [40] then 1 else if l = [41] then 2 else if l = [98] then 3 else 4
def tokc (q : Piece) : Tok := ⟨kc q.2, bytesOf q.2, if q.2 = [49] then 1 else 0, (q.1 : Int)⟩
def four (l : Txt) : Bool := l == [40] || l == [41] || l == [98] || l == [49]
theorem not_num {s : ByteArray} {c : UInt8} {r : Txt} (h : s.data.toList = c :: r) (h1 : c ≠ 45) (h2 : ¬ Dig c) : ¬ isNum s := by
  rintro ⟨v, hv, e⟩
  rw [h] at e
  rcases ok_itoa hv.1 hv.2 with ⟨_, ok, _⟩ | ⟨_, ds, e2, _⟩
  · exact h2 (ok.2.2.2.1 c (by rw [← e]; simp))
  · rw [e2] at e
    exact h1 (List.cons.inj e).1
theorem itoa1 : Lib.itoa 1 = [49] := by
  unfold Lib.itoa
  rw [if_neg (by decide)]
  rw [show (1 : Int).toNat = 1 from rfl, dec_small (by decide)]
  rfl
theorem is1 : isNum (bytesOf [49]) := ⟨1, ⟨by decide, by decide⟩, by rw [itoa1]; rfl⟩
theorem num1 : numV (bytesOf [49]) = 1 := by
  obtain ⟨h1, h2⟩ := numV_in is1
  have e : (bytesOf [49]).data.toList = Lib.itoa 1 := by rw [itoa1]; rfl
  have p1 := parse_itoa (numV (bytesOf [49])) h1.1 h1.2
  rw [← h2, e, parse_itoa 1 (by decide) (by decide)] at p1
  exact (Lib.NumEnd.ok.inj p1).symm
theorem kp40 : kindP [40] = 1 := by unfold kindP; rw [if_pos rfl]
theorem kp41 : kindP [41] = 2 := by unfold kindP; rw [if_neg (by decide), if_pos rfl]
theorem kpb : kindP [98] = 3 := by
  unfold kindP
  rw [if_neg (by decide), if_neg (by decide)]
  unfold kindW
  rw [if_neg (not_num (c := 98) rfl (by decide) (by unfold Dig; decide)), if_pos (by decide +kernel)]
theorem kp1 : kindP [49] = 4 := by
  unfold kindP
  rw [if_neg (by decide), if_neg (by decide)]
  unfold kindW
  rw [if_pos is1]
theorem four_cases {l : Txt} (h : four l = true) : l = [40] ∨ l = [41] ∨ l = [98] ∨ l = [49] := by
  unfold four at h
  simp only [Bool.or_eq_true, beq_iff_eq] at h
  rcases h with ((h | h) | h) | h
  · exact .inl h
  · exact .inr (.inl h)
  · exact .inr (.inr (.inl h))
  · exact .inr (.inr (.inr h))
theorem tok_four {q : Piece} (h : four q.2 = true) : tok q = tokc q := by
  obtain ⟨i, l⟩ := q
  rcases four_cases h with e | e | e | e <;> simp only at e <;> subst e
  · simp [tok, tokc, numP, kp40, kc]
  · simp [tok, tokc, numP, kp41, kc]
  · simp [tok, tokc, numP, kpb, kc]
  · simp [tok, tokc, numP, kp1, kc, num1]
theorem kind_four {l : Txt} (h : four l = true) : kindP l ≠ 0 := by
  rcases four_cases h with e | e | e | e <;> subst e
  · rw [kp40]; decide
  · rw [kp41]; decide
  · rw [kpb]; decide
  · rw [kp1]; decide
theorem bad_four : ∀ (ps : List Piece) (c : Nat), (∀ q ∈ ps, four q.2 = true) → c + ps.length ≤ 600 → bad c ps = none
  | [], _, _, _ => rfl
  | q :: r, c, h, hl => by
    simp only [List.length_cons] at hl
    unfold bad
    rw [if_neg (kind_four (h q (by simp))), if_neg (by omega)]
    exact bad_four r (c + 1) (fun x hx => h x (by simp [hx])) (by omega)
def errOf (r : Except (Int × Int) St) : Option (Int × Int) := match r with | .error q => some q | .ok _ => none
def checkB (n k : Nat) (c : UInt8) : Bool := ((pieces (withB n k c)).all fun q => four q.2) && decide ((pieces (withB n k c)).length ≤ 60) && (errOf (parse ((pieces (withB n k c)).map tokc)) == some (((6 * k : Nat) : Int), 8))
theorem check_all : ((List.range 11).all fun n => (List.range n).all fun k => checkB n k 40 && checkB n k 41) = true := by decide +kernel
theorem check_at {n k : Nat} (hn : n ≤ 10) (hk : k < n) {c : UInt8} (hc : c = 40 ∨ c = 41) : checkB n k c = true := by
  have h := List.all_eq_true.1 check_all n (by simp; omega)
  have h2 := List.all_eq_true.1 h k (by simp; omega)
  rw [Bool.and_eq_true] at h2
  rcases hc with rfl | rfl
  · exact h2.1
  · exact h2.2
theorem withB_len (n k : Nat) (c : UInt8) : (withB n k c).length = 6 * n + 1 := by
  unfold withB
  simp only [List.length_append, List.length_take, List.length_drop, rep_len, List.length_cons, List.length_nil]
  omega
theorem lex_withB {n k : Nat} (hn : n ≤ 10) (hk : k < n) {c : UInt8} (hc : c = 40 ∨ c = 41) : ∃ ts, lexRes (bytesOf (withB n k c)) = (ts, 0, 0) ∧ parse ts = .error (((6 * k : Nat) : Int), 8) ∧ ts.length ≤ 60 ∧ ∀ t ∈ ts, t.s.size ≤ 140737488355328 := by
  have h := check_at hn hk hc
  unfold checkB at h
  simp only [Bool.and_eq_true, List.all_eq_true, decide_eq_true_eq, beq_iff_eq] at h
  obtain ⟨⟨h1, h2⟩, h3⟩ := h
  have hb := bad_four (pieces (withB n k c)) 0 h1 (by omega)
  have hm : (pieces (withB n k c)).map tok = (pieces (withB n k c)).map tokc := List.map_congr_left fun q hq => tok_four (h1 q hq)
  refine ⟨(pieces (withB n k c)).map tok, ?_, ?_, by simpa using h2, ?_⟩
  · unfold lexRes
    have hd : (bytesOf (withB n k c)).data.toList = withB n k c := by simp [bytesOf]
    rw [if_neg (by rw [bytes_size, withB_len]; omega), hd, hb]
  · rw [hm]
    cases hp : parse ((pieces (withB n k c)).map tokc) with
    | error q => rw [hp] at h3; simp only [errOf, Option.some.injEq] at h3; rw [h3]
    | ok σ => rw [hp] at h3; simp [errOf] at h3
  · intro t ht
    obtain ⟨q, hq, rfl⟩ := List.mem_map.1 ht
    show (bytesOf q.2).size ≤ _
    rw [bytes_size]
    rcases four_cases (h1 q hq) with e | e | e | e <;> rw [e] <;> decide
end Go.Proofs.YtmihhebcchpmcaaGreatDoor
