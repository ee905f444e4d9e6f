/-
  Combined and taken are the same in whatever order messages come; taken of combined is taken of all: mathematics alone.
-/
import Derived.Test.YtdfieflcclbgjaaCombM
import Derived.Test.YtdfieflcclbgjaaSortM
import Derived.Test.YtdfieflcclbgjaaRTaken
namespace Go.Proofs.Ytdfieflcclbgjaa
open Go.RowKit
theorem op_else {o : Nat} (h : ¬ many5 o) (a b : Int) : opTwo o a b = 0 := by
  unfold opTwo
  split
  · exact absurd (.inl rfl) h
  · exact absurd (.inr (.inl rfl)) h
  · exact absurd (.inr (.inr (.inl rfl))) h
  · exact absurd (.inr (.inr (.inr (.inl rfl)))) h
  · exact absurd (.inr (.inr (.inr (.inr rfl)))) h
  · rfl
theorem op1 (a b : Int) : opTwo 1 a b = wrap64 (a + b) := rfl
theorem op6 (a b : Int) : opTwo 6 a b = if b < a then b else a := rfl
theorem op7 (a b : Int) : opTwo 7 a b = if a < b then b else a := rfl
theorem op16 (a b : Int) : opTwo 16 a b = if ¬ a = 0 ∧ ¬ b = 0 then 1 else 0 := rfl
theorem op17 (a b : Int) : opTwo 17 a b = if ¬ a = 0 ∨ ¬ b = 0 then 1 else 0 := rfl
theorem op_comm (o : Nat) (a b : Int) : opTwo o a b = opTwo o b a := by
  by_cases h : many5 o
  · rcases h with rfl | rfl | rfl | rfl | rfl
    · rw [op1, op1, Int.add_comm]
    · rw [op6, op6]; split <;> split <;> omega
    · rw [op7, op7]; split <;> split <;> omega
    · rw [op16, op16]; split <;> split <;> omega
    · rw [op17, op17]; split <;> split <;> omega
  · rw [op_else h, op_else h]
theorem op_turns (o : Nat) (a x y : Int) : opTwo o (opTwo o a x) y = opTwo o (opTwo o a y) x := by
  by_cases h : many5 o
  · rcases h with rfl | rfl | rfl | rfl | rfl
    · rw [op1, op1, op1, op1]; unfold wrap64; omega
    · rw [op6 a x, op6 a y, op6, op6]; (repeat (any_goals split)); all_goals omega
    · rw [op7 a x, op7 a y, op7, op7]; (repeat (any_goals split)); all_goals omega
    · rw [op16 a x, op16 a y, op16, op16]; (repeat (any_goals split)); all_goals omega
    · rw [op17 a x, op17 a y, op17, op17]; (repeat (any_goals split)); all_goals omega
  · rw [op_else h, op_else h]
theorem upd_pos (os : List Nat) {m u : Msg} (h : likeM m u = true) : updM os m u = ⟨u.to, u.tag, opTwo (os.getD m.tag.toNat 0) u.val m.val⟩ := by unfold updM; rw [if_pos h]
theorem upd_neg (os : List Nat) {m u : Msg} (h : ¬ likeM m u = true) : updM os m u = u := by unfold updM; rw [if_neg h]
theorem like_upd (os : List Nat) (m n u : Msg) : likeM m (updM os n u) = likeM m u := by
  unfold updM
  split <;> rfl
theorem any_upd (os : List Nat) (m n : Msg) (l : List Msg) : (l.map (updM os n)).any (likeM m) = l.any (likeM m) := by
  rw [List.any_map]
  congr 1
  funext u
  exact like_upd os m n u
theorem like_key {m n : Msg} (h : likeM m n = true) : n.to = m.to ∧ n.tag = m.tag := by simpa [likeM] using h
theorem like_same {m n : Msg} (h : likeM m n = true) (u : Msg) : likeM m u = likeM n u := by
  obtain ⟨h1, h2⟩ := like_key h
  unfold likeM
  rw [h1, h2]
theorem like_symm {m n : Msg} (h : likeM m n = true) : likeM n m = true := by
  obtain ⟨h1, h2⟩ := like_key h
  simp [likeM, h1, h2]
theorem upd_turns (os : List Nat) (m n u : Msg) : updM os m (updM os n u) = updM os n (updM os m u) := by
  by_cases h1 : likeM m u = true
  · have g1 : ∀ z, likeM m ⟨u.to, u.tag, z⟩ = true := fun _ => h1
    by_cases h2 : likeM n u = true
    · have g2 : ∀ z, likeM n ⟨u.to, u.tag, z⟩ = true := fun _ => h2
      have k1 := like_key h1
      have k2 := like_key h2
      have e : n.tag = m.tag := by rw [← k2.2, k1.2]
      rw [upd_pos os h1, upd_pos os h2, upd_pos os (g1 _), upd_pos os (g2 _)]
      simp only [Msg.mk.injEq, true_and]
      rw [e]
      exact op_turns _ _ _ _
    · have g2 : ∀ z, ¬ likeM n ⟨u.to, u.tag, z⟩ = true := fun _ => h2
      rw [upd_neg os h2, upd_pos os h1, upd_neg os (g2 _)]
  · have g1 : ∀ z, ¬ likeM m ⟨u.to, u.tag, z⟩ = true := fun _ => h1
    by_cases h2 : likeM n u = true
    · rw [upd_pos os h2, upd_neg os h1, upd_neg os (g1 _), upd_pos os h2]
    · rw [upd_neg os h2, upd_neg os h1, upd_neg os h2]
theorem addM_perm (os : List Nat) {acc acc' : List Msg} (h : acc.Perm acc') (m : Msg) : (addM os acc m).Perm (addM os acc' m) := by
  unfold addM
  have e : acc.any (likeM m) = acc'.any (likeM m) := by
    rw [Bool.eq_iff_iff, List.any_eq_true, List.any_eq_true]
    exact ⟨fun ⟨x, hx, hp⟩ => ⟨x, h.mem_iff.1 hx, hp⟩, fun ⟨x, hx, hp⟩ => ⟨x, h.mem_iff.2 hx, hp⟩⟩
  rw [e]
  split
  · exact h.map _
  · exact h.append_right _
theorem addM_swap (os : List Nat) (acc : List Msg) (x y : Msg) : (addM os (addM os acc y) x).Perm (addM os (addM os acc x) y) := by
  by_cases hx : acc.any (likeM x) = true
  · have e1 : addM os acc x = acc.map (updM os x) := by unfold addM; rw [if_pos hx]
    by_cases hy : acc.any (likeM y) = true
    · have e2 : addM os acc y = acc.map (updM os y) := by unfold addM; rw [if_pos hy]
      have f1 : addM os (acc.map (updM os y)) x = (acc.map (updM os y)).map (updM os x) := by unfold addM; rw [any_upd, if_pos hx]
      have f2 : addM os (acc.map (updM os x)) y = (acc.map (updM os x)).map (updM os y) := by unfold addM; rw [any_upd, if_pos hy]
      rw [e1, e2, f1, f2, List.map_map, List.map_map]
      refine List.Perm.of_eq (List.map_congr_left fun u _ => ?_)
      exact upd_turns os x y u
    · have e2 : addM os acc y = acc ++ [y] := by unfold addM; rw [if_neg hy]
      have hxy : likeM x y = false := by
        cases h : likeM x y with
        | false => rfl
        | true =>
          exfalso
          apply hy
          rw [List.any_eq_true] at hx ⊢
          obtain ⟨u, hu, hl⟩ := hx
          exact ⟨u, hu, by rw [← like_same h]; exact hl⟩
      have f1 : addM os (acc ++ [y]) x = acc.map (updM os x) ++ [y] := by
        unfold addM
        rw [List.any_append, hx, Bool.true_or, if_pos rfl, List.map_append]
        simp [updM, hxy]
      have f2 : addM os (acc.map (updM os x)) y = acc.map (updM os x) ++ [y] := by unfold addM; rw [any_upd, if_neg hy]
      rw [e1, e2, f1, f2]
  · have e1 : addM os acc x = acc ++ [x] := by unfold addM; rw [if_neg hx]
    by_cases hy : acc.any (likeM y) = true
    · have e2 : addM os acc y = acc.map (updM os y) := by unfold addM; rw [if_pos hy]
      have hyx : likeM y x = false := by
        cases h : likeM y x with
        | false => rfl
        | true =>
          exfalso
          apply hx
          rw [List.any_eq_true] at hy ⊢
          obtain ⟨u, hu, hl⟩ := hy
          exact ⟨u, hu, by rw [← like_same h]; exact hl⟩
      have f1 : addM os (acc ++ [x]) y = acc.map (updM os y) ++ [x] := by
        unfold addM
        rw [List.any_append, hy, Bool.true_or, if_pos rfl, List.map_append]
        simp [updM, hyx]
      have f2 : addM os (acc.map (updM os y)) x = acc.map (updM os y) ++ [x] := by unfold addM; rw [any_upd, if_neg hx]
      rw [e1, e2, f1, f2]
    · have e2 : addM os acc y = acc ++ [y] := by unfold addM; rw [if_neg hy]
      have nx : acc.map (updM os x) = acc := updM_none (by simpa using hx)
      have ny : acc.map (updM os y) = acc := updM_none (by simpa using hy)
      rw [e1, e2]
      cases hl : likeM x y with
      | true =>
        have hl' := like_symm hl
        obtain ⟨k1, k2⟩ := like_key hl
        have f1 : addM os (acc ++ [y]) x = acc ++ [updM os x y] := by
          unfold addM
          rw [List.any_append, if_pos (by simp [hl]), List.map_append, nx]
          rfl
        have f2 : addM os (acc ++ [x]) y = acc ++ [updM os y x] := by
          unfold addM
          rw [List.any_append, if_pos (by simp [hl']), List.map_append, ny]
          rfl
        have e : updM os x y = updM os y x := by
          unfold updM
          rw [if_pos hl, if_pos hl', k1, k2]
          simp only [Msg.mk.injEq, true_and]
          exact op_comm _ _ _
        rw [f1, f2, e]
      | false =>
        have hl' : likeM y x = false := by
          cases h : likeM y x with
          | false => rfl
          | true => rw [like_symm h] at hl; cases hl
        have f1 : addM os (acc ++ [y]) x = acc ++ [y] ++ [x] := by
          unfold addM
          rw [List.any_append, if_neg (by simp [hl]; simpa using hx)]
        have f2 : addM os (acc ++ [x]) y = acc ++ [x] ++ [y] := by
          unfold addM
          rw [List.any_append, if_neg (by simp [hl']; simpa using hy)]
        rw [f1, f2, List.append_assoc, List.append_assoc]
        exact (List.Perm.swap x y []).append_left acc
theorem comb_perm (os : List Nat) {xs ys : List Msg} (h : xs.Perm ys) : ∀ {acc acc' : List Msg}, acc.Perm acc' → (xs.foldl (addM os) acc).Perm (ys.foldl (addM os) acc') := by
  induction h with
  | nil => intro acc acc' h; exact h
  | cons x _ ih => intro acc acc' h; exact ih (addM_perm os h x)
  | swap x y l =>
    intro acc acc' h
    have base : ∀ (l : List Msg) {a b : List Msg}, a.Perm b → (l.foldl (addM os) a).Perm (l.foldl (addM os) b) := by
      intro l
      induction l with
      | nil => intro a b h; exact h
      | cons x r ih => intro a b h; exact ih (addM_perm os h x)
    refine base l ?_
    exact (addM_swap os acc x y).trans (addM_perm os (addM_perm os h x) y)
  | trans _ _ ih1 ih2 => intro acc acc' h; exact (ih1 (List.Perm.refl _)).trans (ih2 h)
theorem comb_same (os : List Nat) {xs ys : List Msg} (h : xs.Perm ys) : sortM (combM os xs) = sortM (combM os ys) := sortM_eq (comb_perm os h (List.Perm.refl _))
theorem take_same (o : Nat) (tag x : Int) {xs ys : List Msg} (h : xs.Perm ys) : takeM o tag x xs = takeM o tag x ys := by
  unfold takeM
  refine List.Perm.foldl_eq' h (fun a _ b _ z => ?_) x
  split <;> split <;> first | rfl | exact op_turns _ _ _ _
/-- What is taken in of one node's messages of one tag. -/
def takeF (o : Nat) (t tag : Int) (x : Int) (xs : List Msg) : Int := xs.foldl (fun a m => if m.to = t ∧ m.tag = tag then opTwo o a m.val else a) x
theorem takeF_filter (o : Nat) (t tag : Int) : ∀ (xs : List Msg) (x : Int), takeM o tag x (xs.filter fun m => m.to == t) = takeF o t tag x xs
  | [], _ => rfl
  | m :: r, x => by
    unfold takeM takeF
    rw [List.filter_cons, List.foldl_cons]
    by_cases h : m.to = t
    · rw [if_pos (by simpa using h), List.foldl_cons]
      by_cases h2 : m.tag = tag
      · rw [if_pos h2, if_pos ⟨h, h2⟩]
        exact takeF_filter o t tag r _
      · rw [if_neg h2, if_neg (fun e => h2 e.2)]
        exact takeF_filter o t tag r _
    · rw [if_neg (by simpa using h), if_neg (fun e => h e.1)]
      exact takeF_filter o t tag r _
theorem takeF_end (o : Nat) (t tag : Int) : ∀ (xs : List Msg) (x m : Int), takeF o t tag (opTwo o x m) xs = opTwo o (takeF o t tag x xs) m
  | [], _, _ => rfl
  | u :: r, x, m => by
    unfold takeF
    rw [List.foldl_cons, List.foldl_cons]
    split
    · rw [op_turns]
      exact takeF_end o t tag r _ m
    · exact takeF_end o t tag r _ m
/-- Each node and tag once. -/
def Apart (l : List Msg) : Prop := l.Pairwise fun u v => likeM u v = false
/-- Numbers that may be grouped however. -/
def Groups (o : Nat) (D : Int → Prop) : Prop := (∀ a b, D a → D b → D (opTwo o a b)) ∧ ∀ a b c, D a → D b → D c → opTwo o (opTwo o a b) c = opTwo o a (opTwo o b c)
theorem upd_skip (os : List Nat) {m : Msg} {l : List Msg} (h : ∀ u ∈ l, likeM m u = false) : l.map (updM os m) = l := by
  conv => rhs; rw [← List.map_id l]
  refine List.map_congr_left fun u hu => ?_
  simp [updM, h u hu]
theorem takeF_upd (os : List Nat) (o : Nat) (t tag : Int) (D : Int → Prop) (hD : Groups o D) (m : Msg) (hm : m.to = t ∧ m.tag = tag) (ho : os.getD m.tag.toNat 0 = o) (hmD : D m.val) : ∀ (l : List Msg) (x : Int), Apart l → (∀ u ∈ l, u.to = t ∧ u.tag = tag → D u.val) → D x → l.any (likeM m) = true → takeF o t tag x (l.map (updM os m)) = opTwo o (takeF o t tag x l) m.val
  | [], _, _, _, _, h => by simp at h
  | u :: r, x, ha, hv, hx, h => by
    unfold Apart at ha
    rw [List.pairwise_cons] at ha
    by_cases hl : likeM m u = true
    · have hk := like_key hl
      have hkt : u.to = t ∧ u.tag = tag := ⟨by rw [hk.1]; exact hm.1, by rw [hk.2]; exact hm.2⟩
      have hr : r.map (updM os m) = r := upd_skip os fun v hvr => by
        rw [like_same hl]; exact ha.1 v hvr
      have huD := hv u (by simp) hkt
      rw [List.map_cons, hr]
      unfold takeF
      rw [List.foldl_cons, List.foldl_cons]
      have e : updM os m u = ⟨u.to, u.tag, opTwo o u.val m.val⟩ := by unfold updM; rw [if_pos hl, ho]
      rw [e]
      simp only
      rw [if_pos hkt, if_pos hkt, ← hD.2 x u.val m.val hx huD hmD]
      exact takeF_end o t tag r _ _
    · have e : updM os m u = u := by unfold updM; rw [if_neg hl]
      have hn : ¬ (u.to = t ∧ u.tag = tag) := fun hk => hl (by simp [likeM, hk.1, hk.2, hm.1, hm.2])
      have hany : r.any (likeM m) = true := by
        rw [List.any_cons] at h
        simpa [hl] using h
      rw [List.map_cons, e]
      unfold takeF
      rw [List.foldl_cons, List.foldl_cons, if_neg hn]
      exact takeF_upd os o t tag D hD m hm ho hmD r x ha.2 (fun v hvr => hv v (by simp [hvr])) hx hany
theorem takeF_other (os : List Nat) (o : Nat) (t tag : Int) (m : Msg) (hm : ¬ (m.to = t ∧ m.tag = tag)) : ∀ (l : List Msg) (x : Int), takeF o t tag x (l.map (updM os m)) = takeF o t tag x l
  | [], _ => rfl
  | u :: r, x => by
    unfold takeF
    rw [List.map_cons, List.foldl_cons, List.foldl_cons]
    by_cases hl : likeM m u = true
    · have hk := like_key hl
      have hn : ¬ (u.to = t ∧ u.tag = tag) := fun h => hm ⟨by rw [← hk.1]; exact h.1, by rw [← hk.2]; exact h.2⟩
      have e : (updM os m u).to = u.to ∧ (updM os m u).tag = u.tag := by unfold updM; rw [if_pos hl]; exact ⟨rfl, rfl⟩
      rw [if_neg hn, if_neg (by rw [e.1, e.2]; exact hn)]
      exact takeF_other os o t tag m hm r x
    · have e : updM os m u = u := by unfold updM; rw [if_neg hl]
      rw [e]
      exact takeF_other os o t tag m hm r _
theorem apart_upd (os : List Nat) (m : Msg) {l : List Msg} (h : Apart l) : Apart (l.map (updM os m)) := by
  unfold Apart at h ⊢
  rw [List.pairwise_map]
  refine h.imp fun {a b} hab => ?_
  rw [like_upd]
  unfold updM
  split
  · exact hab
  · exact hab
theorem addM_apart (os : List Nat) {l : List Msg} (h : Apart l) (m : Msg) : Apart (addM os l m) := by
  unfold addM
  split
  · exact apart_upd os m h
  · rename_i hn
    unfold Apart at h ⊢
    rw [List.pairwise_append]
    refine ⟨h, by simp, fun a ha b hb => ?_⟩
    rw [List.mem_singleton.1 hb]
    cases hl : likeM a m with
    | false => rfl
    | true =>
      exfalso
      exact hn (List.any_eq_true.2 ⟨a, ha, like_symm hl⟩)
theorem comb_apart (os : List Nat) : ∀ (xs acc : List Msg), Apart acc → Apart (xs.foldl (addM os) acc)
  | [], _, h => h
  | x :: r, acc, h => comb_apart os r (addM os acc x) (addM_apart os h x)
/-- Values of a node and tag stay among those that may be grouped. -/
theorem addM_in (os : List Nat) (o : Nat) (t tag : Int) (D : Int → Prop) (hD : Groups o D) (ho : os.getD tag.toNat 0 = o) {acc : List Msg} (h : ∀ u ∈ acc, u.to = t ∧ u.tag = tag → D u.val) (m : Msg) (hm : m.to = t ∧ m.tag = tag → D m.val) : ∀ u ∈ addM os acc m, u.to = t ∧ u.tag = tag → D u.val := by
  intro u hu hk
  unfold addM at hu
  split at hu
  · obtain ⟨v, hv, rfl⟩ := List.mem_map.1 hu
    by_cases hl : likeM m v = true
    · have hkk := like_key hl
      have e : updM os m v = ⟨v.to, v.tag, opTwo (os.getD m.tag.toNat 0) v.val m.val⟩ := by unfold updM; rw [if_pos hl]
      rw [e] at hk ⊢
      simp only at hk ⊢
      have hmk : m.to = t ∧ m.tag = tag := ⟨by rw [← hkk.1]; exact hk.1, by rw [← hkk.2]; exact hk.2⟩
      rw [hmk.2, ho]
      exact hD.1 _ _ (h v hv hk) (hm hmk)
    · have e : updM os m v = v := by unfold updM; rw [if_neg hl]
      rw [e] at hk ⊢
      exact h v hv hk
  · rcases List.mem_append.1 hu with hu | hu
    · exact h u hu hk
    · rw [List.mem_singleton.1 hu] at hk ⊢
      exact hm hk
theorem takeF_add (os : List Nat) (o : Nat) (t tag : Int) (D : Int → Prop) (hD : Groups o D) (ho : os.getD tag.toNat 0 = o) {acc : List Msg} (ha : Apart acc) (h : ∀ u ∈ acc, u.to = t ∧ u.tag = tag → D u.val) (m : Msg) (hm : m.to = t ∧ m.tag = tag → D m.val) (x : Int) (hx : D x) :
    takeF o t tag x (addM os acc m) = if m.to = t ∧ m.tag = tag then opTwo o (takeF o t tag x acc) m.val else takeF o t tag x acc := by
  unfold addM
  split
  · rename_i hany
    by_cases hk : m.to = t ∧ m.tag = tag
    · rw [if_pos hk]
      exact takeF_upd os o t tag D hD m hk (by rw [hk.2]; exact ho) (hm hk) acc x ha h hx hany
    · rw [if_neg hk]
      exact takeF_other os o t tag m hk acc x
  · unfold takeF
    rw [List.foldl_append, List.foldl_cons, List.foldl_nil]
/-- Taken of combined is taken of all. -/
theorem takeF_comb (os : List Nat) (o : Nat) (t tag : Int) (D : Int → Prop) (hD : Groups o D) (ho : os.getD tag.toNat 0 = o) (x : Int) (hx : D x) : ∀ (xs acc : List Msg), Apart acc → (∀ u ∈ acc, u.to = t ∧ u.tag = tag → D u.val) → (∀ u ∈ xs, u.to = t ∧ u.tag = tag → D u.val) → takeF o t tag x (xs.foldl (addM os) acc) = takeF o t tag (takeF o t tag x acc) xs
  | [], _, _, _, _ => rfl
  | m :: r, acc, ha, h1, h2 => by
    rw [List.foldl_cons, takeF_comb os o t tag D hD ho x hx r (addM os acc m) (addM_apart os ha m) (addM_in os o t tag D hD ho h1 m (h2 m (by simp))) (fun u hu => h2 u (by simp [hu])), takeF_add os o t tag D hD ho ha h1 m (h2 m (by simp)) x hx]
    conv => rhs; unfold takeF
    rw [List.foldl_cons]
    rfl
theorem taken_comb (os : List Nat) (o : Nat) (t tag : Int) (D : Int → Prop) (hD : Groups o D) (ho : os.getD tag.toNat 0 = o) (x : Int) (hx : D x) (xs : List Msg) (h : ∀ u ∈ xs, u.to = t ∧ u.tag = tag → D u.val) :
    takeM o tag x ((sortM (combM os xs)).filter fun m => m.to == t) = takeM o tag x (xs.filter fun m => m.to == t) := by
  rw [take_same o tag x ((sortM_perm (combM os xs)).filter _), takeF_filter, takeF_filter]
  exact takeF_comb os o t tag D hD ho x hx xs [] List.Pairwise.nil (by simp) h
theorem groups_add : Groups 1 fun _ => True := ⟨fun _ _ _ _ => trivial, fun a b c _ _ _ => by rw [op1, op1, op1, op1]; unfold wrap64; omega⟩
theorem groups_min : Groups 6 fun _ => True := ⟨fun _ _ _ _ => trivial, fun a b c _ _ _ => by
  rw [op6 a b, op6 b c, op6, op6]; (repeat (any_goals split)); all_goals omega⟩
theorem groups_max : Groups 7 fun _ => True := ⟨fun _ _ _ _ => trivial, fun a b c _ _ _ => by
  rw [op7 a b, op7 b c, op7, op7]; (repeat (any_goals split)); all_goals omega⟩
theorem groups_or : Groups 17 fun a => a = 0 ∨ a = 1 := ⟨fun a b ha hb => by rw [op17]; split <;> omega, fun a b c ha hb hc => by
  rw [op17 a b, op17 b c, op17, op17]; (repeat (any_goals split)); all_goals omega⟩
theorem groups_and : Groups 16 fun a => a = 0 ∨ a = 1 := ⟨fun a b ha hb => by rw [op16]; split <;> omega, fun a b c ha hb hc => by
  rw [op16 a b, op16 b c, op16, op16]; (repeat (any_goals split)); all_goals omega⟩
end Go.Proofs.Ytdfieflcclbgjaa
