/-
  Forms that tokens say: the plain reckoning of both sides.
-/
import Derived.Test.YtmihhebcchpmcaaGreatDoorApp
namespace Go.Proofs.YtmihhebcchpmcaaGreatDoor
open Go.RowKit Go.Deep Go.MapKept
/-- A form. -/
structure Frm where
  k : Int
  s : ByteArray
  n : Int
  kids : List Nat
  p : Int
/-- How far tokens have been read. -/
structure St where
  forms : List Frm
  top : List Nat
  opn : List Nat
def emptyS : ByteArray := ⟨#[]⟩
def addKid (n : Nat) (g : Frm) : Frm := { g with kids := g.kids ++ [n] }
/-- A form put behind all others, into the innermost bracket that is open. -/
def addF (f : Frm) (σ : St) : St :=
  match σ.opn.getLast? with
  | none => { σ with forms := σ.forms ++ [f], top := σ.top ++ [σ.forms.length] }
  | some b => { σ with forms := σ.forms.modify b (addKid σ.forms.length) ++ [f] }
def formOf (t : Tok) : Frm := if t.k = 1 then ⟨1, emptyS, 0, [], t.p⟩ else if t.k = 3 then ⟨3, t.s, 0, [], t.p⟩ else ⟨4, emptyS, t.n, [], t.p⟩
/-- One token more; or the error, and where. -/
def step (σ : St) (t : Tok) : Except (Int × Int) St :=
  if t.k = 2 then (if σ.opn = [] then .error (t.p, 8) else .ok { σ with opn := σ.opn.dropLast })
  else if t.k = 1 then (if σ.opn.length = 12 then .error (t.p, 4) else if σ.forms.length = 400 then .error (t.p, 4) else .ok { addF (formOf t) σ with opn := σ.opn ++ [σ.forms.length] })
  else if t.k = 3 ∨ t.k = 4 then (if σ.forms.length = 400 then .error (t.p, 4) else .ok (addF (formOf t) σ))
  else .ok σ
def steps : List Tok → St → Except (Int × Int) St
  | [], σ => .ok σ
  | t :: r, σ => match step σ t with
    | .error e => .error e
    | .ok σ' => steps r σ'
def atOf (l : List Frm) (b : Nat) : Int := match l[b]? with | some f => f.p | none => 0
def finish (σ : St) : Except (Int × Int) St :=
  match σ.opn.getLast? with
  | none => .ok σ
  | some b => .error (atOf σ.forms b, 8)
def begin0 : St := ⟨[], [], []⟩
/-- What tokens say. -/
def parse (l : List Tok) : Except (Int × Int) St :=
  match steps l begin0 with
  | .error e => .error e
  | .ok σ => finish σ
/-- What holds of what has been read. -/
structure Good (σ : St) : Prop where
  open_lt : ∀ b ∈ σ.opn, b < σ.forms.length
  open_len : σ.opn.length ≤ 12
  len : σ.forms.length ≤ 400
  top_len : σ.top.length ≤ σ.forms.length
  kid_len : ∀ f ∈ σ.forms, f.kids.length ≤ σ.forms.length
theorem good_begin : Good begin0 := ⟨by simp [begin0], by simp [begin0], by simp [begin0], by simp [begin0], by simp [begin0]⟩
theorem addF_opn (f : Frm) (σ : St) : (addF f σ).opn = σ.opn := by unfold addF; split <;> rfl
theorem addF_len (f : Frm) (σ : St) : (addF f σ).forms.length = σ.forms.length + 1 := by unfold addF; split <;> simp
theorem addF_top (f : Frm) (σ : St) : (addF f σ).top.length ≤ σ.top.length + 1 := by unfold addF; split <;> simp
theorem addF_good {f : Frm} {σ : St} (h : Good σ) (hf : f.kids = []) (hl : σ.forms.length < 400) : Good (addF f σ) := by
  refine ⟨fun b hb => ?_, ?_, ?_, ?_, ?_⟩
  · rw [addF_opn] at hb; rw [addF_len]; have := h.open_lt b hb; omega
  · rw [addF_opn]; exact h.open_len
  · rw [addF_len]; omega
  · rw [addF_len]; have := addF_top f σ; have := h.top_len; omega
  · intro g hg
    rw [addF_len]
    unfold addF at hg
    split at hg
    · simp only [List.mem_append, List.mem_singleton] at hg
      rcases hg with hg | rfl
      · have := h.kid_len g hg; omega
      · rw [hf]; simp
    · simp only [List.mem_append, List.mem_singleton] at hg
      rcases hg with hg | rfl
      · obtain ⟨i, hi⟩ := List.getElem?_of_mem hg
        rw [List.getElem?_modify] at hi
        cases hs : σ.forms[i]? with
        | none => rw [hs] at hi; simp at hi
        | some q =>
          have hq := h.kid_len q (List.mem_of_getElem? hs)
          rw [hs] at hi
          simp only [Option.map_eq_map, Option.map_some, Option.some.injEq] at hi
          subst hi
          split
          · simp only [addKid, List.length_append, List.length_cons, List.length_nil]; omega
          · omega
      · rw [hf]; simp
theorem formOf_kids (t : Tok) : (formOf t).kids = [] := by unfold formOf; split; rfl; split <;> rfl
theorem step_good {σ σ' : St} {t : Tok} (h : Good σ) (he : step σ t = .ok σ') : Good σ' := by
  unfold step at he
  split at he
  · split at he
    · cases he
    · cases he
      exact ⟨fun b hb => h.open_lt b ((List.dropLast_sublist _).mem hb), by have := h.open_len; simp; omega, h.len, h.top_len, h.kid_len⟩
  · split at he
    · split at he
      · cases he
      · split at he
        · cases he
        · cases he
          have hl := h.len
          have g := addF_good (f := formOf t) h (formOf_kids t) (by omega)
          have ho := h.open_len
          refine ⟨fun b hb => ?_, by simp; omega, g.len, g.top_len, g.kid_len⟩
          simp only [List.mem_append, List.mem_singleton] at hb
          show b < (addF (formOf t) σ).forms.length
          rw [addF_len]
          rcases hb with hb | rfl
          · have := h.open_lt b hb; omega
          · omega
    · split at he
      · split at he
        · cases he
        · cases he
          have hl := h.len
          exact addF_good h (formOf_kids t) (by omega)
      · cases he; exact h
end Go.Proofs.YtmihhebcchpmcaaGreatDoor
