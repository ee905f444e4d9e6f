/-
  The document's Decode of messages.
-/
import Derived.Test.YtdfieflcclbgjabRegD
import Derived.Test.YtdfieflcclbgjabREnc
namespace Go.Proofs.Ytdfieflcclbgjab
open Go.RowKit Go.Deep Go.MapKept Go.Sort
/-- The messages that bytes say, from a place on, or the place of the first one that is wrong. -/
def decM (L : Nat) : Nat → Nat → List Int → Except Nat (List Msg)
  | 0, _, _ => .ok []
  | _ + 1, _, [] => .ok []
  | f + 1, i, t :: r => if 12 ≤ t then .error i else if r.length ≠ 0 ∧ 6 ≤ r.headD 0 then .error (i + 1) else if r.length < 9 then .error L else
    match decM L f (i + 10) (r.drop 9) with
    | .error p => .error p
    | .ok ms => .ok (⟨t, r.headD 0, joinL (r.drop 1)⟩ :: ms)
def app (acc : List Msg) : Except Nat (List Msg) → Except Nat (List Msg)
  | .error p => .error p
  | .ok ms => .ok (acc ++ ms)
theorem app_nil (r : Except Nat (List Msg)) : app [] r = r := by cases r <;> rfl
theorem decM_tag {L f i : Nat} {t q : Int} {r : List Int} (h12 : ¬ 12 ≤ t) (h6 : 6 ≤ q) : decM L (f + 1) i (t :: q :: r) = .error (i + 1) := by
  rw [decM, if_neg h12, if_pos ⟨by simp, h6⟩]
theorem decM_short {L f i : Nat} {t : Int} {r : List Int} (h12 : ¬ 12 ≤ t) (h6 : ¬ (r.length ≠ 0 ∧ 6 ≤ r.headD 0)) (hl : r.length < 9) : decM L (f + 1) i (t :: r) = .error L := by
  rw [decM, if_neg h12, if_neg h6, if_pos hl]
theorem decM_go {L f i : Nat} {t q : Int} {r : List Int} (acc : List Msg) (h12 : ¬ 12 ≤ t) (h6 : ¬ 6 ≤ q) (hl : 8 ≤ r.length) : app acc (decM L (f + 1) i (t :: q :: r)) = app (acc ++ [⟨t, q, joinL r⟩]) (decM L f (i + 10) (r.drop 8)) := by
  rw [decM, if_neg h12, if_neg (fun h => h6 h.2), if_neg (by rw [List.length_cons]; omega)]
  simp only [List.drop_succ_cons, List.headD_cons, List.drop_zero]
  cases decM L f (i + 10) (r.drop 8) with
  | error p => rfl
  | ok ms => simp [app]
def DecPost (w : World) (r : Except Nat (List Msg)) (e : Ending) (w' : World) : Prop :=
  Below w.heap.size w w' ∧ match r with
  | .error p => e = .returned (.tuple #[.slice none 0 0, .int .i64 (p : Int), .int .i64 3])
  | .ok ms => ∃ v, e = .returned (.tuple #[v, .int .i64 0, .int .i64 0]) ∧ SeesM w' v ms
def decs (bs : List Int) : Except Nat (List Msg) := decM bs.length ((bs.length + 9) / 10) 0 bs
theorem SB.cell {w : World} {a : Option Addr} {cap : Nat} {bs : List Int} (h : SB w a cap bs) {i : Nat} {z : Int} (hz : bs[i]? = some z) : ∃ b off, a = some ⟨b, off, none⟩ ∧ b < w.heap.size ∧ ∀ (j : Nat) (z : Int), bs[j]? = some z → w.cell? ⟨b, off + j, none⟩ = some (.int .u8 z) := by
  rcases h.2 with h0 | ⟨b, off, rfl, hc⟩
  · have := (List.getElem?_eq_some_iff.1 hz).1; omega
  · exact ⟨b, off, rfl, World.block_lt_of_cell? w _ (hc i z hz), hc⟩
theorem grown_trans {a b c : World} {r : Nat} (h : a.grownBy b (some r)) (k : b.grownBy c (some r)) : a.grownBy c (some r) :=
  ⟨k.1.trans h.1, k.2.trans h.2, k.3.trans h.3, Nat.le_trans h.4 k.4, fun i hi hne => (k.5 i (Nat.lt_of_lt_of_le hi h.4) hne).trans (h.5 i hi hne)⟩
theorem grown_cell (w : World) (B j : Nat) (u : Value) : w.grownBy (w.setCell ⟨B, j, none⟩ u) (some B) :=
  ⟨rfl, rfl, rfl, by simp, fun k _ hk => heap_setCell_other w ⟨B, j, none⟩ k u (fun e => hk (by simp [e]))⟩
end Go.Proofs.Ytdfieflcclbgjab
