/-
  Messages as bytes, and back: mathematics alone.
-/
import Derived.Test.YtdfieflcclbgjabRDec
namespace Go.Proofs.Ytdfieflcclbgjab
theorem okM_iff {x : Msg} (h : okM x = true) : 0 ≤ x.to ∧ x.to < 12 ∧ 0 ≤ x.tag ∧ x.tag < 6 := of_decide_eq_true h
theorem encM_isB {x : Msg} (h : okM x = true) : ∀ z ∈ encM x, IsB z := by
  have := okM_iff h
  intro z hz
  unfold encM at hz
  simp only [List.mem_cons] at hz
  unfold IsB
  rcases hz with rfl | rfl | hz
  · omega
  · omega
  · exact encW_isB _ z hz
theorem encMs_isB {xs : List Msg} (h : ∀ x ∈ xs, okM x = true) : ∀ z ∈ encMs xs, IsB z := by
  intro z hz
  obtain ⟨x, hx, hz⟩ := List.mem_flatMap.1 hz
  exact encM_isB (h x hx) z hz
theorem dec_enc (L : Nat) : ∀ (xs : List Msg) (i : Nat), (∀ x ∈ xs, okM x = true ∧ In64 x.val) → decM L xs.length i (encMs xs) = .ok xs
  | [], i, _ => by simp [decM]
  | x :: r, i, h => by
    have hx := h x (by simp)
    have ho := okM_iff hx.1
    have ih := dec_enc L r (i + 10) (fun y hy => h y (by simp [hy]))
    have e : encMs (x :: r) = x.to :: x.tag :: (encW x.val ++ encMs r) := by simp [encMs, encM]
    have h8 : 8 ≤ (encW x.val ++ encMs r).length := by rw [List.length_append, encW_len]; omega
    have hg := decM_go (L := L) (f := r.length) (i := i) (t := x.to) (q := x.tag) (r := encW x.val ++ encMs r) [] (by omega) (by omega) h8
    have hdr : (encW x.val ++ encMs r).drop 8 = encMs r := List.drop_left' (encW_len _)
    rw [app_nil, hdr, ih, join_enc hx.2] at hg
    rw [List.length_cons, e, hg]
    rfl
theorem decs_enc {xs : List Msg} (h : ∀ x ∈ xs, okM x = true ∧ In64 x.val) : decs (encMs xs) = .ok xs := by
  unfold decs
  rw [encMs_len, show (xs.length * 10 + 9) / 10 = xs.length by omega]
  exact dec_enc _ xs 0 h
theorem enc_dec (L : Nat) : ∀ (f i : Nat) (bs : List Int) (ms : List Msg), (∀ z ∈ bs, IsB z) → bs.length ≤ 10 * f → decM L f i bs = .ok ms → encMs ms = bs ∧ ∀ x ∈ ms, okM x = true ∧ In64 x.val
  | 0, i, bs, ms, _, hl, h => by
    have : bs = [] := List.eq_nil_of_length_eq_zero (by omega)
    subst this
    simp only [decM, Except.ok.injEq] at h
    subst h
    exact ⟨rfl, by simp⟩
  | f + 1, i, [], ms, _, _, h => by
    simp only [decM, Except.ok.injEq] at h
    subst h
    exact ⟨rfl, by simp⟩
  | f + 1, i, t :: r, ms, hb, hl, h => by
    have htb := hb t (by simp)
    unfold IsB at htb
    by_cases h12 : 12 ≤ t
    · rw [decM, if_pos h12] at h; cases h
    by_cases hq : r.length ≠ 0 ∧ 6 ≤ r.headD 0
    · rw [decM, if_neg h12, if_pos hq] at h; cases h
    by_cases h9 : r.length < 9
    · rw [decM_short h12 hq h9] at h; cases h
    match r, h9, hq, hb, hl, h with
    | q :: r', h9, hq, hb, hl, h =>
      have hqb := hb q (by simp)
      unfold IsB at hqb
      have h6 : ¬ 6 ≤ q := fun e => hq ⟨by simp, e⟩
      have h8 : 8 ≤ r'.length := by rw [List.length_cons] at h9; omega
      have hg := decM_go (L := L) (f := f) (i := i) (t := t) (q := q) (r := r') [] h12 h6 h8
      rw [app_nil, h] at hg
      cases hd : decM L f (i + 10) (r'.drop 8) with
      | error p => rw [hd] at hg; cases hg
      | ok ns =>
        rw [hd] at hg
        simp only [app, List.nil_append, Except.ok.injEq] at hg
        subst hg
        obtain ⟨ie, io⟩ := enc_dec L f (i + 10) (r'.drop 8) ns (fun z hz => hb z (by have := List.mem_of_mem_drop hz; simp [this])) (by rw [List.length_drop]; simp only [List.length_cons] at hl; omega) hd
        have hj : encW (joinL r') = r'.take 8 := by
          rw [← joinL_take h8 0, Nat.add_zero]
          exact enc_join (by rw [List.length_take]; omega) (fun z hz => hb z (by have := List.mem_of_mem_take hz; simp [this]))
        refine ⟨?_, fun x hx => ?_⟩
        · have e : encMs ([⟨t, q, joinL r'⟩] ++ ns) = t :: q :: (encW (joinL r') ++ encMs ns) := by simp [encMs, encM]
          rw [e, hj, ie, List.take_append_drop]
        · rcases List.mem_append.1 hx with hx | hx
          · rw [List.mem_singleton.1 hx]
            exact ⟨decide_eq_true (by simp only; omega), joinL_in _⟩
          · exact io x hx
theorem enc_decs {bs : List Int} {ms : List Msg} (hb : ∀ z ∈ bs, IsB z) (h : decs bs = .ok ms) : encMs ms = bs ∧ ∀ x ∈ ms, okM x = true ∧ In64 x.val :=
  enc_dec _ _ 0 bs ms hb (by omega) h
end Go.Proofs.Ytdfieflcclbgjab
