/-
  The columns that bytes say: the document's Decode, out of its Begin; the law of ColumnBytes, out of the same.
-/
import Derived.Test.YtbjoljokdjgbnabDecPM
import Derived.Test.YtbjoljokdjgbnabSameL0M
namespace Go.Proofs.Ytbjoljokdjgbnab
open Go.RowKit Go.Deep Go.MapKept
def runs (bs : List Int) : Option (List One × List Int) := match bs with
  | [] => none
  | n :: t => runS n.toNat [] none t
def BegPost (w : World) (bs : List Int) (e : Ending) (w' : World) : Prop := Below w.heap.size w w' ∧
  ((runs bs = none ∧ e = .returned (.tuple #[.pointer none, .slice none 0 0])) ∨
   (∃ (os : List One) (r : List Int) (ua : Option Addr) (uc rb : Nat), runs bs = some (os, r) ∧ e = .returned (.tuple #[.pointer (some ⟨rb, 0, none⟩), .slice ua r.length uc])))
/-- What Begin comes to. -/
def BeginLaw : Prop := ∀ (a : Option Addr) (cap : Nat) (bs : List Int) (w : World), (∀ x ∈ bs, IsB x) → SB w a cap bs → Calls Try.prog 65 #[.int .i64 3, .int .i64 2, .slice a bs.length cap] w (BegPost w bs)
def RDecPost (w : World) (bs : List Int) (e : Ending) (w' : World) : Prop := Below w.heap.size w w' ∧
  ((decS bs = none ∧ e = .returned (.tuple #[.pointer none, .int .i64 3])) ∨
   (∃ (os : List One) (rb : Nat), decS bs = some os ∧ e = .returned (.tuple #[.pointer (some ⟨rb, 0, none⟩), .int .i64 0])))
theorem decS_runs (bs : List Int) : decS bs = match runs bs with | none => none | some (os, r) => if r = [] then some os else none := by
  unfold decS runs
  cases bs with
  | nil => rfl
  | cons n t => rfl
set_option maxRecDepth 100000 in
set_option maxHeartbeats 2000000 in
theorem rdec_any (HBeg : BeginLaw) (a : Option Addr) (cap : Nat) (bs : List Int) (hby : ∀ x ∈ bs, IsB x) (w : World) (hS : SB w a cap bs) : Calls Try.prog 32 #[.int .i64 3, .int .i64 2, .slice a bs.length cap] w (RDecPost w bs) := by
  have C := hidI (HBeg a cap bs w hby hS)
  have HD := hidI (decS_runs bs)
  clear hby hS
  cases hr : runs bs with
  | none =>
    have C' : Hid (Calls Try.prog 65 #[.int .i64 3, .int .i64 2, .slice a bs.length cap] w fun e w' => e = .returned (.tuple #[.pointer none, .slice none 0 0]) ∧ Below w.heap.size w w') := hidI (C.out.mono (by
      rintro e w' ⟨h1, ⟨_, h2⟩ | ⟨os, r, ua, uc, rb, h2, _⟩⟩
      · exact ⟨h2, h1⟩
      · rw [hr] at h2; cases h2))
    have HD2 : Hid (decS bs = none) := hidI (by rw [HD.out, hr])
    clear C hr HBeg
    go_enter Try.func32, Try.ntmps32
    go_wp2_with (go_at_call 65; refine Calls.mono C'.out ?_; rintro e w1 ⟨rfl, hb⟩; have HB := hidI hb; clear hb; refine Hid.out ?_)
    refine hidI ?_
    go_wp2
    go_ret2
    exact ⟨HB.out, .inl ⟨HD2.out, rfl⟩⟩
  | some p =>
    obtain ⟨os, r⟩ := p
    have C' : Hid (Calls Try.prog 65 #[.int .i64 3, .int .i64 2, .slice a bs.length cap] w fun e w' => ∃ ua uc rb, e = .returned (.tuple #[.pointer (some ⟨rb, 0, none⟩), .slice ua r.length uc]) ∧ Below w.heap.size w w') := hidI (C.out.mono (by
      rintro e w' ⟨h1, ⟨h2, _⟩ | ⟨os', r', ua, uc, rb, h2, h3⟩⟩
      · rw [hr] at h2; cases h2
      · rw [hr] at h2; cases h2; exact ⟨ua, uc, rb, h3, h1⟩))
    by_cases h0 : r = []
    · have HD2 : Hid (decS bs = some os) := hidI (by rw [HD.out, hr]; simp [h0])
      have j1 : ¬ ((0 : Int) < (r.length : Int)) := by rw [h0]; simp
      have j2 : decide ((0 : Int) < (r.length : Int)) = false := decide_eq_false j1
      clear C hr HBeg h0
      go_enter Try.func32, Try.ntmps32
      go_wp2_with (go_at_call 65; refine Calls.mono C'.out ?_; rintro e w1 ⟨ua, uc, rb, rfl, hb⟩; have HB := hidI hb; clear hb; refine Hid.out ?_)
      refine hidI ?_
      go_wp2
      go_ret2
      exact ⟨HB.out, .inr ⟨os, _, HD2.out, rfl⟩⟩
    · have HD2 : Hid (decS bs = none) := hidI (by rw [HD.out, hr]; simp [h0])
      have j0 : 0 < r.length := List.length_pos_iff.2 h0
      have j1 : ((0 : Int) < (r.length : Int)) := by omega
      clear C hr HBeg h0
      go_enter Try.func32, Try.ntmps32
      go_wp2_with (go_at_call 65; refine Calls.mono C'.out ?_; rintro e w1 ⟨ua, uc, rb, rfl, hb⟩; have HB := hidI hb; clear hb; refine Hid.out ?_)
      refine hidI ?_
      go_wp2
      go_ret2
      exact ⟨HB.out, .inl ⟨HD2.out, rfl⟩⟩
/-- What play leaves is right. -/
theorem ok_of {w : World} {tb mb : Nat} {cs : List Column} {os : List One} (hW : Whole w tb mb 3 2 cs) (hA : Agree cs os) (hi : InAll os) : OkT os := by
  refine ⟨hA.2, fun o ho => ?_, hA.few hW⟩
  obtain ⟨c, hc, rfl⟩ := List.mem_map.1 (hA.1.mem_iff.1 ho)
  obtain ⟨q1, q2, q3, q4, q5, q6, q7, q8⟩ := (hW.2.2.2.2.1 c hc).1
  refine ⟨q1, q4, q5, ?_, ?_, hi _ ho⟩
  · show c.vals.length = len32 c.side
    unfold len32
    omega
  · show c.vals.all (rfit c.kind) = true
    rw [← q8]
    congr 1
    exact funext fun x => (fit_rfit q5 x).symm
end Go.Proofs.Ytbjoljokdjgbnab
