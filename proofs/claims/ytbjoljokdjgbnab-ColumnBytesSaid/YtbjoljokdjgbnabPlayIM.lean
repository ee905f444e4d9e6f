/-
  Deeds on both, the values within 64 bits.
-/
import Derived.Test.YtbjoljokdjgbnabGG
namespace Go.Proofs.Ytbjoljokdjgbnab
open Go.RowKit Go.Deep Go.MapKept
def In64 (a : Int) : Prop := -9223372036854775808 ≤ a ∧ a ≤ 9223372036854775807
def InAll (os : List One) : Prop := ∀ o ∈ os, ∀ z ∈ o.vals, In64 z
def Deed.inr (x : Deed) : Prop := In64 x.x ∧ ∀ z ∈ x.zs, In64 z
theorem InAll.pick {os os' : List One} {c : Int} (h : c = 0 → InAll os') (hi : InAll os) : InAll (if c = 0 then os' else os) := by
  split
  · rename_i h0; exact h h0
  · exact hi
theorem InAll.up {os : List One} (h : InAll os) (s : ByteArray) (d : Int) (f : List Int → List Int) (hf : ∀ vs : List Int, (∀ z ∈ vs, In64 z) → ∀ z ∈ f vs, In64 z) : InAll (upO os s d f) := by
  intro o ho
  unfold upO at ho
  obtain ⟨x, hx, rfl⟩ := List.mem_map.1 ho
  split
  · exact hf _ (h x hx)
  · exact h x hx
theorem InAll.upSet {os : List One} (h : InAll os) (s : ByteArray) (d i : Int) {x : Int} (hx : In64 x) : InAll (upO os s d fun vs => vs.set i.toNat x) := h.up s d _ fun vs hv z hz => by
  rcases List.mem_or_eq_of_mem_set hz with hz | rfl
  · exact hv z hz
  · exact hx
theorem InAll.upFill {os : List One} (h : InAll os) (s : ByteArray) (d : Int) {x : Int} (hx : In64 x) : InAll (upO os s d fun vs => List.replicate vs.length x) := h.up s d _ fun vs _ z hz => by
  simp only [List.mem_replicate] at hz
  rw [hz.2]
  exact hx
theorem InAll.upLoad {os : List One} (h : InAll os) (s : ByteArray) (d : Int) {zs : List Int} (hz : ∀ z ∈ zs, In64 z) : InAll (upO os s d fun _ => zs) := h.up s d _ fun _ _ => hz
theorem InAll.ins {os : List One} (h : InAll os) (o : One) (ho : ∀ z ∈ o.vals, In64 z) : InAll (insO os o) := by
  intro x hx
  unfold insO at hx
  rcases List.mem_append.1 hx with hx | hx
  · exact h x (List.mem_of_mem_take hx)
  · rcases List.mem_cons.1 hx with rfl | hx
    · exact ho
    · exact h x (List.mem_of_mem_drop hx)
section
variable {w : World} {b0 tb mb rb : Nat} {cs : List Column} {os : List One} (h : Both w b0 tb mb rb cs os) {s : ByteArray} {d : Int} (hs : s.size ≤ maxLen) (hd : Wf8 d)
include h hs hd
set_option maxRecDepth 100000
set_option maxHeartbeats 1000000

theorem doI_1 (q i x : Int) (lv : Value) (hxi : In64 x) :
    Calls Try.prog 42 #[.pointer (some ⟨tb, 0, none⟩), .pointer (some ⟨rb, 0, none⟩), .agg #[.int .i64 1, .string s, .int .u8 d, .int .u8 q, .int .i64 i, .int .i64 x, lv]] w fun e w' => e = .returned (.bool true) ∧ ∃ cs' os', Both w' b0 tb mb rb cs' os' ∧ Below b0 w w' ∧ (InAll os → InAll os') := by
  have hlow := h.low
  have hso := h.2.2.1.2
  have h24 := h.2.2.1.few h.1
  have hvl := h.2.2.1.vals h.1
  have hrbs := h.2.1.rb
  obtain ⟨c, hc⟩ : ∃ c, setE cs s d i x = c := ⟨_, rfl⟩
  obtain ⟨os', ho⟩ : ∃ os', (upO os s d fun vs => vs.set i.toNat x) = os' := ⟨_, rfl⟩
  have hce : c = rsetE os s d i x := by rw [← hc]; exact setE_eq h.2.2.1 h.1 s d i x

  have C1 : Hid (∀ y, Below w.heap.size w y → (y.cell? ⟨w.heap.size, 1, none⟩ = some (.string s) ∧ y.cell? ⟨w.heap.size, 2, none⟩ = some (.int .u8 d) ∧ y.cell? ⟨w.heap.size, 4, none⟩ = some (.int .i64 i) ∧ y.cell? ⟨w.heap.size, 5, none⟩ = some (.int .i64 x)) → Calls Try.prog 22 #[.pointer (some ⟨tb, 0, none⟩), ke s d, .int .i64 i, .int .i64 x] y fun e u1 => e = .returned (.int .i64 c) ∧ Mid b0 w.heap.size y u1 tb mb rb c os os' ∧ (u1.cell? ⟨w.heap.size, 1, none⟩ = some (.string s) ∧ u1.cell? ⟨w.heap.size, 2, none⟩ = some (.int .u8 d) ∧ u1.cell? ⟨w.heap.size, 4, none⟩ = some (.int .i64 i) ∧ u1.cell? ⟨w.heap.size, 5, none⟩ = some (.int .i64 x))) := hidI fun y hy hS => by
    have hyx : w.heap.size < y.heap.size := World.block_lt_of_cell? y ⟨w.heap.size, 1, none⟩ hS.1
    refine (t_set (h.below hy (Nat.le_refl _)) hyx (by omega) (fun hk => Nat.lt_irrefl _ (h.1.lt hk)) hs hd i x).mono ?_
    rintro e u1 ⟨rfl, hm⟩
    rw [hc, ho] at hm
    rw [hc]
    have hb : u1.heap[w.heap.size]? = y.heap[w.heap.size]? := by obtain ⟨_, _, _, _, _, _, hb, _⟩ := hm; exact hb
    exact ⟨rfl, hm, (World.cell?_of_block (a := ⟨w.heap.size, 1, none⟩) hb).trans hS.1, (World.cell?_of_block (a := ⟨w.heap.size, 2, none⟩) hb).trans hS.2.1, (World.cell?_of_block (a := ⟨w.heap.size, 4, none⟩) hb).trans hS.2.2.1, (World.cell?_of_block (a := ⟨w.heap.size, 5, none⟩) hb).trans hS.2.2.2⟩
  have C2 : Hid (∀ y u1, Below w.heap.size w y → Mid b0 w.heap.size y u1 tb mb rb c os os' → (u1.cell? ⟨w.heap.size, 1, none⟩ = some (.string s) ∧ u1.cell? ⟨w.heap.size, 2, none⟩ = some (.int .u8 d) ∧ u1.cell? ⟨w.heap.size, 4, none⟩ = some (.int .i64 i) ∧ u1.cell? ⟨w.heap.size, 5, none⟩ = some (.int .i64 x)) → Calls Try.prog 71 #[.pointer (some ⟨rb, 0, none⟩), ke s d, .int .i64 i, .int .i64 x] u1 fun e u2 => e = .returned (.int .i64 c) ∧ Done b0 w.heap.size y u2 tb mb rb (if c = 0 then os' else os) ∧ (u2.cell? ⟨w.heap.size, 1, none⟩ = some (.string s) ∧ u2.cell? ⟨w.heap.size, 2, none⟩ = some (.int .u8 d) ∧ u2.cell? ⟨w.heap.size, 4, none⟩ = some (.int .i64 i) ∧ u2.cell? ⟨w.heap.size, 5, none⟩ = some (.int .i64 x))) := hidI fun y u1 hy hm hS => by
    have hb1 : u1.heap[w.heap.size]? = y.heap[w.heap.size]? := by obtain ⟨_, _, _, _, _, _, hb, _⟩ := hm; exact hb
    refine (r_set hm hso h24 hvl i x hce ho.symm).mono ?_
    rintro e u2 ⟨rfl, hdn⟩
    have hb2 : u2.heap[w.heap.size]? = y.heap[w.heap.size]? := by obtain ⟨_, _, _, hb⟩ := hdn; exact hb
    have hb := hb2.trans hb1.symm
    exact ⟨rfl, hdn, (World.cell?_of_block (a := ⟨w.heap.size, 1, none⟩) hb).trans hS.1, (World.cell?_of_block (a := ⟨w.heap.size, 2, none⟩) hb).trans hS.2.1, (World.cell?_of_block (a := ⟨w.heap.size, 4, none⟩) hb).trans hS.2.2.1, (World.cell?_of_block (a := ⟨w.heap.size, 5, none⟩) hb).trans hS.2.2.2⟩
  have HC := hidI (And.intro hc (And.intro ho hce))
  clear hc ho hce 
  go_enter Try.func42, Try.ntmps42
  go_wp2
  go_region_held3 (fun y => y.cell? ⟨w.heap.size, 1, none⟩ = some (.string s) ∧ y.cell? ⟨w.heap.size, 2, none⟩ = some (.int .u8 d) ∧ y.cell? ⟨w.heap.size, 4, none⟩ = some (.int .i64 i) ∧ y.cell? ⟨w.heap.size, 5, none⟩ = some (.int .i64 x))
    (first | exact ⟨by go_keep, by go_keep, by go_keep, by go_keep⟩ | assumption)
    ((first | (go_at_call 22; refine Calls.mono (C1.out _ (by (repeat (first | exact Below.refl _ _ | assumption | refine Below.drew ?_ | refine Below.alloc ?_ (by first | omega | (simp; done) | (simp; omega)) _ | refine Below.setCell ?_ (by first | omega | (simp; done) | (simp; omega)) _))) (by assumption)) ?_; rintro e w1 ⟨rfl, hm1, hS1⟩; have HM1 := hidI hm1; clear hm1) | (go_at_call 71; refine Calls.mono (C2.out _ _ (by (repeat (first | exact Below.refl _ _ | assumption | refine Below.drew ?_ | refine Below.alloc ?_ (by first | omega | (simp; done) | (simp; omega)) _ | refine Below.setCell ?_ (by first | omega | (simp; done) | (simp; omega)) _))) HM1.out (by assumption)) ?_; rintro e w2 ⟨rfl, hd2, hS2⟩; have HD2 := hidI hd2; clear hd2)))
  all_goals
    go_wp2
    go_ret
    obtain ⟨cs1, hB, hbel, _⟩ := HD2.out
    exact ⟨by simp, cs1, _, hB, Below.trans (by refine Below.mono (B := w.heap.size) ?_ hlow; (repeat (first | exact Below.refl _ _ | assumption | refine Below.drew ?_ | refine Below.alloc ?_ (by first | omega | (simp; done) | (simp; omega)) _ | refine Below.setCell ?_ (by first | omega | (simp; done) | (simp; omega)) _))) hbel, fun hi => InAll.pick (fun _ => by rw [← HC.out.2.1]; exact InAll.upSet hi _ _ _ hxi) hi⟩

theorem doI_2 (q i x : Int) (lv : Value) (hxi : In64 x) :
    Calls Try.prog 42 #[.pointer (some ⟨tb, 0, none⟩), .pointer (some ⟨rb, 0, none⟩), .agg #[.int .i64 2, .string s, .int .u8 d, .int .u8 q, .int .i64 i, .int .i64 x, lv]] w fun e w' => e = .returned (.bool true) ∧ ∃ cs' os', Both w' b0 tb mb rb cs' os' ∧ Below b0 w w' ∧ (InAll os → InAll os') := by
  have hlow := h.low
  have hso := h.2.2.1.2
  have h24 := h.2.2.1.few h.1
  have hvl := h.2.2.1.vals h.1
  have hrbs := h.2.1.rb
  obtain ⟨c, hc⟩ : ∃ c, fillE cs s d x = c := ⟨_, rfl⟩
  obtain ⟨os', ho⟩ : ∃ os', (upO os s d fun vs => List.replicate vs.length x) = os' := ⟨_, rfl⟩
  have hce : c = rfillE os s d x := by rw [← hc]; exact fillE_eq h.2.2.1 h.1 s d x

  have C1 : Hid (∀ y, Below w.heap.size w y → (y.cell? ⟨w.heap.size, 1, none⟩ = some (.string s) ∧ y.cell? ⟨w.heap.size, 2, none⟩ = some (.int .u8 d) ∧ y.cell? ⟨w.heap.size, 5, none⟩ = some (.int .i64 x)) → Calls Try.prog 72 #[.pointer (some ⟨tb, 0, none⟩), ke s d, .int .i64 x] y fun e u1 => e = .returned (.int .i64 c) ∧ Mid b0 w.heap.size y u1 tb mb rb c os os' ∧ (u1.cell? ⟨w.heap.size, 1, none⟩ = some (.string s) ∧ u1.cell? ⟨w.heap.size, 2, none⟩ = some (.int .u8 d) ∧ u1.cell? ⟨w.heap.size, 5, none⟩ = some (.int .i64 x))) := hidI fun y hy hS => by
    have hyx : w.heap.size < y.heap.size := World.block_lt_of_cell? y ⟨w.heap.size, 1, none⟩ hS.1
    refine (t_fill (h.below hy (Nat.le_refl _)) hyx (by omega) (fun hk => Nat.lt_irrefl _ (h.1.lt hk)) hs hd x).mono ?_
    rintro e u1 ⟨rfl, hm⟩
    rw [hc, ho] at hm
    rw [hc]
    have hb : u1.heap[w.heap.size]? = y.heap[w.heap.size]? := by obtain ⟨_, _, _, _, _, _, hb, _⟩ := hm; exact hb
    exact ⟨rfl, hm, (World.cell?_of_block (a := ⟨w.heap.size, 1, none⟩) hb).trans hS.1, (World.cell?_of_block (a := ⟨w.heap.size, 2, none⟩) hb).trans hS.2.1, (World.cell?_of_block (a := ⟨w.heap.size, 5, none⟩) hb).trans hS.2.2⟩
  have C2 : Hid (∀ y u1, Below w.heap.size w y → Mid b0 w.heap.size y u1 tb mb rb c os os' → (u1.cell? ⟨w.heap.size, 1, none⟩ = some (.string s) ∧ u1.cell? ⟨w.heap.size, 2, none⟩ = some (.int .u8 d) ∧ u1.cell? ⟨w.heap.size, 5, none⟩ = some (.int .i64 x)) → Calls Try.prog 73 #[.pointer (some ⟨rb, 0, none⟩), ke s d, .int .i64 x] u1 fun e u2 => e = .returned (.int .i64 c) ∧ Done b0 w.heap.size y u2 tb mb rb (if c = 0 then os' else os) ∧ (u2.cell? ⟨w.heap.size, 1, none⟩ = some (.string s) ∧ u2.cell? ⟨w.heap.size, 2, none⟩ = some (.int .u8 d) ∧ u2.cell? ⟨w.heap.size, 5, none⟩ = some (.int .i64 x))) := hidI fun y u1 hy hm hS => by
    have hb1 : u1.heap[w.heap.size]? = y.heap[w.heap.size]? := by obtain ⟨_, _, _, _, _, _, hb, _⟩ := hm; exact hb
    refine (r_fill hm hso h24 hvl x hce ho.symm).mono ?_
    rintro e u2 ⟨rfl, hdn⟩
    have hb2 : u2.heap[w.heap.size]? = y.heap[w.heap.size]? := by obtain ⟨_, _, _, hb⟩ := hdn; exact hb
    have hb := hb2.trans hb1.symm
    exact ⟨rfl, hdn, (World.cell?_of_block (a := ⟨w.heap.size, 1, none⟩) hb).trans hS.1, (World.cell?_of_block (a := ⟨w.heap.size, 2, none⟩) hb).trans hS.2.1, (World.cell?_of_block (a := ⟨w.heap.size, 5, none⟩) hb).trans hS.2.2⟩
  have HC := hidI (And.intro hc (And.intro ho hce))
  clear hc ho hce 
  go_enter Try.func42, Try.ntmps42
  go_wp2
  go_region_held3 (fun y => y.cell? ⟨w.heap.size, 1, none⟩ = some (.string s) ∧ y.cell? ⟨w.heap.size, 2, none⟩ = some (.int .u8 d) ∧ y.cell? ⟨w.heap.size, 5, none⟩ = some (.int .i64 x))
    (first | exact ⟨by go_keep, by go_keep, by go_keep⟩ | assumption)
    ((first | (go_at_call 72; refine Calls.mono (C1.out _ (by (repeat (first | exact Below.refl _ _ | assumption | refine Below.drew ?_ | refine Below.alloc ?_ (by first | omega | (simp; done) | (simp; omega)) _ | refine Below.setCell ?_ (by first | omega | (simp; done) | (simp; omega)) _))) (by assumption)) ?_; rintro e w1 ⟨rfl, hm1, hS1⟩; have HM1 := hidI hm1; clear hm1) | (go_at_call 73; refine Calls.mono (C2.out _ _ (by (repeat (first | exact Below.refl _ _ | assumption | refine Below.drew ?_ | refine Below.alloc ?_ (by first | omega | (simp; done) | (simp; omega)) _ | refine Below.setCell ?_ (by first | omega | (simp; done) | (simp; omega)) _))) HM1.out (by assumption)) ?_; rintro e w2 ⟨rfl, hd2, hS2⟩; have HD2 := hidI hd2; clear hd2)))
  all_goals
    go_wp2
    go_ret
    obtain ⟨cs1, hB, hbel, _⟩ := HD2.out
    exact ⟨by simp, cs1, _, hB, Below.trans (by refine Below.mono (B := w.heap.size) ?_ hlow; (repeat (first | exact Below.refl _ _ | assumption | refine Below.drew ?_ | refine Below.alloc ?_ (by first | omega | (simp; done) | (simp; omega)) _ | refine Below.setCell ?_ (by first | omega | (simp; done) | (simp; omega)) _))) hbel, fun hi => InAll.pick (fun _ => by rw [← HC.out.2.1]; exact InAll.upFill hi _ _ hxi) hi⟩

theorem doI_3 (q i x : Int) (a : Option Addr) (n cap : Nat) (zs : List Int) (hsb : ∀ u, Below b0 w u → Sees u (.slice a n cap) zs) (hcap : n ≤ cap) (hzi : ∀ z ∈ zs, In64 z) :
    Calls Try.prog 42 #[.pointer (some ⟨tb, 0, none⟩), .pointer (some ⟨rb, 0, none⟩), .agg #[.int .i64 3, .string s, .int .u8 d, .int .u8 q, .int .i64 i, .int .i64 x, .slice a n cap]] w fun e w' => e = .returned (.bool true) ∧ ∃ cs' os', Both w' b0 tb mb rb cs' os' ∧ Below b0 w w' ∧ (InAll os → InAll os') := by
  have hlow := h.low
  have hso := h.2.2.1.2
  have h24 := h.2.2.1.few h.1
  have hvl := h.2.2.1.vals h.1
  have hrbs := h.2.1.rb
  obtain ⟨c, hc⟩ : ∃ c, loadsE cs s d (zs.take 40) = c := ⟨_, rfl⟩
  obtain ⟨os', ho⟩ : ∃ os', (upO os s d fun _ => zs.take 40) = os' := ⟨_, rfl⟩
  have hce : c = rloadE os s d (zs.take 40) := by rw [← hc]; exact loadsE_eq h.2.2.1 h.1 s d (zs.take 40)
  have CF : Hid (∀ u, Calls Try.prog 75 #[.slice a n cap] u fun e w' => e = .returned (.slice a (min n 40) cap) ∧ u = w') := hidI fun u => fewW_any a n cap hcap u
  have C1 : Hid (∀ y, Below w.heap.size w y → (y.cell? ⟨w.heap.size, 1, none⟩ = some (.string s) ∧ y.cell? ⟨w.heap.size, 2, none⟩ = some (.int .u8 d) ∧ y.cell? ⟨w.heap.size, 6, none⟩ = some (.slice a n cap)) → Calls Try.prog 74 #[.pointer (some ⟨tb, 0, none⟩), ke s d, .slice a (min n 40) cap] y fun e u1 => e = .returned (.int .i64 c) ∧ Mid b0 w.heap.size y u1 tb mb rb c os os' ∧ (u1.cell? ⟨w.heap.size, 1, none⟩ = some (.string s) ∧ u1.cell? ⟨w.heap.size, 2, none⟩ = some (.int .u8 d) ∧ u1.cell? ⟨w.heap.size, 6, none⟩ = some (.slice a n cap))) := hidI fun y hy hS => by
    have hyx : w.heap.size < y.heap.size := World.block_lt_of_cell? y ⟨w.heap.size, 1, none⟩ hS.1
    refine (t_load (h.below hy (Nat.le_refl _)) hyx (by omega) (fun hk => Nat.lt_irrefl _ (h.1.lt hk)) hs hd (by rw [List.length_take]; omega) (few_sees (hsb y (hy.mono hlow)))).mono ?_
    rintro e u1 ⟨rfl, hm⟩
    rw [hc, ho] at hm
    rw [hc]
    have hb : u1.heap[w.heap.size]? = y.heap[w.heap.size]? := by obtain ⟨_, _, _, _, _, _, hb, _⟩ := hm; exact hb
    exact ⟨rfl, hm, (World.cell?_of_block (a := ⟨w.heap.size, 1, none⟩) hb).trans hS.1, (World.cell?_of_block (a := ⟨w.heap.size, 2, none⟩) hb).trans hS.2.1, (World.cell?_of_block (a := ⟨w.heap.size, 6, none⟩) hb).trans hS.2.2⟩
  have C2 : Hid (∀ y u1, Below w.heap.size w y → Mid b0 w.heap.size y u1 tb mb rb c os os' → (u1.cell? ⟨w.heap.size, 1, none⟩ = some (.string s) ∧ u1.cell? ⟨w.heap.size, 2, none⟩ = some (.int .u8 d) ∧ u1.cell? ⟨w.heap.size, 6, none⟩ = some (.slice a n cap)) → Calls Try.prog 76 #[.pointer (some ⟨rb, 0, none⟩), ke s d, .slice a (min n 40) cap] u1 fun e u2 => e = .returned (.int .i64 c) ∧ Done b0 w.heap.size y u2 tb mb rb (if c = 0 then os' else os) ∧ (u2.cell? ⟨w.heap.size, 1, none⟩ = some (.string s) ∧ u2.cell? ⟨w.heap.size, 2, none⟩ = some (.int .u8 d) ∧ u2.cell? ⟨w.heap.size, 6, none⟩ = some (.slice a n cap))) := hidI fun y u1 hy hm hS => by
    have hb1 : u1.heap[w.heap.size]? = y.heap[w.heap.size]? := by obtain ⟨_, _, _, _, _, _, hb, _⟩ := hm; exact hb
    refine (r_load hm hso h24 hvl (by obtain ⟨_, _, _, _, _, hb, _⟩ := hm; exact few_sees (hsb u1 ((hy.mono hlow).trans hb))) hce ho.symm).mono ?_
    rintro e u2 ⟨rfl, hdn⟩
    have hb2 : u2.heap[w.heap.size]? = y.heap[w.heap.size]? := by obtain ⟨_, _, _, hb⟩ := hdn; exact hb
    have hb := hb2.trans hb1.symm
    exact ⟨rfl, hdn, (World.cell?_of_block (a := ⟨w.heap.size, 1, none⟩) hb).trans hS.1, (World.cell?_of_block (a := ⟨w.heap.size, 2, none⟩) hb).trans hS.2.1, (World.cell?_of_block (a := ⟨w.heap.size, 6, none⟩) hb).trans hS.2.2⟩
  have HC := hidI (And.intro hc (And.intro ho hce))
  clear hc ho hce hsb hcap
  go_enter Try.func42, Try.ntmps42
  go_wp2
  go_region_held3 (fun y => y.cell? ⟨w.heap.size, 1, none⟩ = some (.string s) ∧ y.cell? ⟨w.heap.size, 2, none⟩ = some (.int .u8 d) ∧ y.cell? ⟨w.heap.size, 6, none⟩ = some (.slice a n cap))
    (first | exact ⟨by go_keep, by go_keep, by go_keep⟩ | assumption)
    ((first | (go_at_call 75; refine Calls.mono (CF.out _) ?_; rintro e wf ⟨rfl, rfl⟩) | (first | (go_at_call 74; refine Calls.mono (C1.out _ (by (repeat (first | exact Below.refl _ _ | assumption | refine Below.drew ?_ | refine Below.alloc ?_ (by first | omega | (simp; done) | (simp; omega)) _ | refine Below.setCell ?_ (by first | omega | (simp; done) | (simp; omega)) _))) (by assumption)) ?_; rintro e w1 ⟨rfl, hm1, hS1⟩; have HM1 := hidI hm1; clear hm1) | (go_at_call 76; refine Calls.mono (C2.out _ _ (by (repeat (first | exact Below.refl _ _ | assumption | refine Below.drew ?_ | refine Below.alloc ?_ (by first | omega | (simp; done) | (simp; omega)) _ | refine Below.setCell ?_ (by first | omega | (simp; done) | (simp; omega)) _))) HM1.out (by assumption)) ?_; rintro e w2 ⟨rfl, hd2, hS2⟩; have HD2 := hidI hd2; clear hd2))))
  all_goals
    go_wp2
    go_ret
    obtain ⟨cs1, hB, hbel, _⟩ := HD2.out
    exact ⟨by simp, cs1, _, hB, Below.trans (by refine Below.mono (B := w.heap.size) ?_ hlow; (repeat (first | exact Below.refl _ _ | assumption | refine Below.drew ?_ | refine Below.alloc ?_ (by first | omega | (simp; done) | (simp; omega)) _ | refine Below.setCell ?_ (by first | omega | (simp; done) | (simp; omega)) _))) hbel, fun hi => InAll.pick (fun _ => by rw [← HC.out.2.1]; exact InAll.upLoad hi _ _ (fun z hz => hzi z (List.mem_of_mem_take hz))) hi⟩

theorem doI_0 (q i x : Int) (lv : Value) (hq0 : 0 ≤ q) (hLL : sideLen 3 2 d = ((sideLen 3 2 d).toNat : Int)) (hL3 : (sideLen 3 2 d).toNat ≤ 30) :
    Calls Try.prog 42 #[.pointer (some ⟨tb, 0, none⟩), .pointer (some ⟨rb, 0, none⟩), .agg #[.int .i64 0, .string s, .int .u8 d, .int .u8 q, .int .i64 i, .int .i64 x, lv]] w fun e w' => e = .returned (.bool true) ∧ ∃ cs' os', Both w' b0 tb mb rb cs' os' ∧ Below b0 w w' ∧ (InAll os → InAll os') := by
  have hlow := h.low
  have hso := h.2.2.1.2
  have h24 := h.2.2.1.few h.1
  have hvl := h.2.2.1.vals h.1
  have hrbs := h.2.1.rb
  obtain ⟨c, hc⟩ : ∃ c, declE cs s d q = c := ⟨_, rfl⟩
  obtain ⟨os', ho⟩ : ∃ os', (insO os ⟨s, d, q, List.replicate (sideLen 3 2 d).toNat 0⟩) = os' := ⟨_, rfl⟩
  have hce : c = rdeclE os s d q := by rw [← hc]; exact declE_eq h.2.2.1 h.1 s d q

  have C1 : Hid (∀ y, Below w.heap.size w y → (y.cell? ⟨w.heap.size, 1, none⟩ = some (.string s) ∧ y.cell? ⟨w.heap.size, 2, none⟩ = some (.int .u8 d) ∧ y.cell? ⟨w.heap.size, 3, none⟩ = some (.int .u8 q)) → Calls Try.prog 43 #[.pointer (some ⟨tb, 0, none⟩), ke s d, .int .u8 q] y fun e u1 => e = .returned (.int .i64 c) ∧ Mid b0 w.heap.size y u1 tb mb rb c os os' ∧ (u1.cell? ⟨w.heap.size, 1, none⟩ = some (.string s) ∧ u1.cell? ⟨w.heap.size, 2, none⟩ = some (.int .u8 d) ∧ u1.cell? ⟨w.heap.size, 3, none⟩ = some (.int .u8 q))) := hidI fun y hy hS => by
    have hyx : w.heap.size < y.heap.size := World.block_lt_of_cell? y ⟨w.heap.size, 1, none⟩ hS.1
    refine (t_decl (h.below hy (Nat.le_refl _)) hyx (by omega) (fun hk => Nat.lt_irrefl _ (h.1.lt hk)) hs hd q (sideLen 3 2 d).toNat hLL hL3).mono ?_
    rintro e u1 ⟨rfl, hm⟩
    rw [hc, ho] at hm
    rw [hc]
    have hb : u1.heap[w.heap.size]? = y.heap[w.heap.size]? := by obtain ⟨_, _, _, _, _, _, hb, _⟩ := hm; exact hb
    exact ⟨rfl, hm, (World.cell?_of_block (a := ⟨w.heap.size, 1, none⟩) hb).trans hS.1, (World.cell?_of_block (a := ⟨w.heap.size, 2, none⟩) hb).trans hS.2.1, (World.cell?_of_block (a := ⟨w.heap.size, 3, none⟩) hb).trans hS.2.2⟩
  have C2 : Hid (∀ y u1, Below w.heap.size w y → Mid b0 w.heap.size y u1 tb mb rb c os os' → (u1.cell? ⟨w.heap.size, 1, none⟩ = some (.string s) ∧ u1.cell? ⟨w.heap.size, 2, none⟩ = some (.int .u8 d) ∧ u1.cell? ⟨w.heap.size, 3, none⟩ = some (.int .u8 q)) → Calls Try.prog 70 #[.pointer (some ⟨rb, 0, none⟩), ke s d, .int .u8 q] u1 fun e u2 => e = .returned (.int .i64 c) ∧ Done b0 w.heap.size y u2 tb mb rb (if c = 0 then os' else os) ∧ (u2.cell? ⟨w.heap.size, 1, none⟩ = some (.string s) ∧ u2.cell? ⟨w.heap.size, 2, none⟩ = some (.int .u8 d) ∧ u2.cell? ⟨w.heap.size, 3, none⟩ = some (.int .u8 q))) := hidI fun y u1 hy hm hS => by
    have hb1 : u1.heap[w.heap.size]? = y.heap[w.heap.size]? := by obtain ⟨_, _, _, _, _, _, hb, _⟩ := hm; exact hb
    refine (r_decl hm h24 q (wf8_pos hd) hq0 (sideLen 3 2 d).toNat hLL hL3 hce ho.symm).mono ?_
    rintro e u2 ⟨rfl, hdn⟩
    have hb2 : u2.heap[w.heap.size]? = y.heap[w.heap.size]? := by obtain ⟨_, _, _, hb⟩ := hdn; exact hb
    have hb := hb2.trans hb1.symm
    exact ⟨rfl, hdn, (World.cell?_of_block (a := ⟨w.heap.size, 1, none⟩) hb).trans hS.1, (World.cell?_of_block (a := ⟨w.heap.size, 2, none⟩) hb).trans hS.2.1, (World.cell?_of_block (a := ⟨w.heap.size, 3, none⟩) hb).trans hS.2.2⟩
  have HC := hidI (And.intro hc (And.intro ho hce))
  clear hc ho hce 
  go_enter Try.func42, Try.ntmps42
  go_wp2
  go_region_held3 (fun y => y.cell? ⟨w.heap.size, 1, none⟩ = some (.string s) ∧ y.cell? ⟨w.heap.size, 2, none⟩ = some (.int .u8 d) ∧ y.cell? ⟨w.heap.size, 3, none⟩ = some (.int .u8 q))
    (first | exact ⟨by go_keep, by go_keep, by go_keep⟩ | assumption)
    ((first | (go_at_call 43; refine Calls.mono (C1.out _ (by (repeat (first | exact Below.refl _ _ | assumption | refine Below.drew ?_ | refine Below.alloc ?_ (by first | omega | (simp; done) | (simp; omega)) _ | refine Below.setCell ?_ (by first | omega | (simp; done) | (simp; omega)) _))) (by assumption)) ?_; rintro e w1 ⟨rfl, hm1, hS1⟩; have HM1 := hidI hm1; clear hm1) | (go_at_call 70; refine Calls.mono (C2.out _ _ (by (repeat (first | exact Below.refl _ _ | assumption | refine Below.drew ?_ | refine Below.alloc ?_ (by first | omega | (simp; done) | (simp; omega)) _ | refine Below.setCell ?_ (by first | omega | (simp; done) | (simp; omega)) _))) HM1.out (by assumption)) ?_; rintro e w2 ⟨rfl, hd2, hS2⟩; have HD2 := hidI hd2; clear hd2)))
  all_goals
    go_wp2
    go_ret
    obtain ⟨cs1, hB, hbel, _⟩ := HD2.out
    exact ⟨by simp, cs1, _, hB, Below.trans (by refine Below.mono (B := w.heap.size) ?_ hlow; (repeat (first | exact Below.refl _ _ | assumption | refine Below.drew ?_ | refine Below.alloc ?_ (by first | omega | (simp; done) | (simp; omega)) _ | refine Below.setCell ?_ (by first | omega | (simp; done) | (simp; omega)) _))) hbel, fun hi => InAll.pick (fun _ => by rw [← HC.out.2.1]; exact InAll.ins hi _ (fun z hz => by simp only [List.mem_replicate] at hz; rw [hz.2]; unfold In64; omega)) hi⟩
end
set_option maxRecDepth 100000 in
theorem doI_else {w : World} {b0 tb mb rb : Nat} {cs : List Column} {os : List One} (h : Both w b0 tb mb rb cs os) (k : Int) (s : ByteArray) (d q i x : Int) (lv : Value) (h0 : k ≠ 0) (h1 : k ≠ 1) (h2 : k ≠ 2) (h3 : k ≠ 3) :
    Calls Try.prog 42 #[.pointer (some ⟨tb, 0, none⟩), .pointer (some ⟨rb, 0, none⟩), .agg #[.int .i64 k, .string s, .int .u8 d, .int .u8 q, .int .i64 i, .int .i64 x, lv]] w fun e w' => e = .returned (.bool true) ∧ ∃ cs' os', Both w' b0 tb mb rb cs' os' ∧ Below b0 w w' ∧ (InAll os → InAll os') := by
  have k0 : (k == 0) = false := by simpa using h0
  have k1 : (k == 1) = false := by simpa using h1
  have k2 : (k == 2) = false := by simpa using h2
  have k3 : (k == 3) = false := by simpa using h3
  have H := hidI h
  have hlow := h.low
  clear h
  go_enter Try.func42, Try.ntmps42
  go_wp2
  go_ret
  have hb : Below w.heap.size w (w.alloc (.cells #[.int .i64 k, .string s, .int .u8 d, .int .u8 q, .int .i64 i, .int .i64 x, lv] 89)) := (Below.refl _ w).alloc (Nat.le_refl _) _
  exact ⟨rfl, cs, os, H.out.below hb (Nat.le_refl _), hb.mono hlow, fun hi => hi⟩
theorem doI_any {w : World} {b0 tb mb rb : Nat} {cs : List Column} {os : List One} (h : Both w b0 tb mb rb cs os) (x : Deed) (hx : x.ok b0 w) (hi : x.inr) :
    Calls Try.prog 42 #[.pointer (some ⟨tb, 0, none⟩), .pointer (some ⟨rb, 0, none⟩), x.val] w fun e w' => e = .returned (.bool true) ∧ ∃ cs' os', Both w' b0 tb mb rb cs' os' ∧ Below b0 w w' ∧ (InAll os → InAll os') := by
  obtain ⟨k, s, d, q, i, y, a, n, cap, zs⟩ := x
  obtain ⟨o1, o2, o3, o4, o5⟩ := hx
  obtain ⟨hi1, hi2⟩ := hi
  by_cases h0 : k = 0
  · subst h0; exact doI_0 h o1 o2 q i y _ o3 (side32 d).1 (side32 d).2
  by_cases h1 : k = 1
  · subst h1; exact doI_1 h o1 o2 q i y _ hi1
  by_cases h2 : k = 2
  · subst h2; exact doI_2 h o1 o2 q i y _ hi1
  by_cases h3 : k = 3
  · subst h3; exact doI_3 h o1 o2 q i y a n cap zs o5 o4 hi2
  exact doI_else h k s d q i y _ h0 h1 h2 h3
set_option maxRecDepth 100000 in
set_option maxHeartbeats 1000000 in
theorem playI_any (w : World) (v : Value) (xs : List Deed) (hv : SeesD w v xs) (hok : ∀ x ∈ xs, x.ok w.heap.size w) (hin : ∀ x ∈ xs, x.inr) :
    Calls Try.prog 16 #[v] w fun e w' => ∃ tb mb rb cs os, e = .returned (.tuple #[.pointer (some ⟨tb, 0, none⟩), .pointer (some ⟨rb, 0, none⟩), .bool true]) ∧ Both w' w.heap.size tb mb rb cs os ∧ InAll os ∧ Below w.heap.size w w' := by
  obtain ⟨a, cap, rfl, hL⟩ := hv
  have HL := hidI hL
  have HO := hidI hok
  have HIn := hidI hin
  have may : mayT 3 2 := by unfold mayT; omega
  have C1 := hidI (cnew_ok 3 2 w may)
  have C2 := hidI (rnew_ok 3 2 ((w.alloc (.map #[] 0)).alloc (.cells #[.int .i64 3, .int .i64 2, .map (some w.heap.size)] 95)) may)
  have hBN := both_new w
  have hbW : Below w.heap.size w (((w.alloc (.map #[] 0)).alloc (.cells #[.int .i64 3, .int .i64 2, .map (some w.heap.size)] 95)).alloc (.cells #[.int .i64 3, .int .i64 2, .slice none 0 0] 100)) := (by (repeat (first | exact Below.refl _ _ | assumption | refine Below.drew ?_ | refine Below.alloc ?_ (by first | omega | (simp; done) | (simp; omega)) _ | refine Below.setCell ?_ (by first | omega | (simp; done) | (simp; omega)) _)))
  have HBN := hidI hBN
  have HBW := hidI hbW
  obtain ⟨k, hk⟩ : ∃ k, xs.length = k := ⟨_, rfl⟩
  have HK := hidI hk
  rw [hk]
  clear hL hok hin hBN hbW hk
  go_enter Try.func16, Try.ntmps16
  go_wp2_with (first | (go_at_call 40; refine Calls.mono C1.out ?_; rintro e w1 ⟨rfl, rfl⟩) | (go_at_call 41; refine Calls.mono C2.out ?_; rintro e w2 ⟨rfl, rfl⟩; refine Hid.out ?_))
  refine hidI ?_
  try simp only [World.size_alloc]
  obtain ⟨W, hW⟩ : ∃ W, (((w.alloc (.map #[] 0)).alloc (.cells #[.int .i64 3, .int .i64 2, .map (some w.heap.size)] 95)).alloc (.cells #[.int .i64 3, .int .i64 2, .slice none 0 0] 100)) = W := ⟨_, rfl⟩
  rw [hW] at HBN HBW ⊢
  clear hW C1 C2
  obtain ⟨tb, htb⟩ : ∃ tb, w.heap.size + 1 = tb := ⟨_, rfl⟩
  obtain ⟨rb, hrb⟩ : ∃ rb, w.heap.size + 2 = rb := ⟨_, rfl⟩
  have hrb2 : w.heap.size + 1 + 1 = rb := by omega
  rw [htb, hrb] at HBN
  first | rw [htb, hrb] | rw [hrb2, htb] | (simp only [Nat.add_assoc, Nat.reduceAdd]; rw [htb, hrb])
  clear htb hrb hrb2
  obtain ⟨mb, hmb⟩ : ∃ mb, w.heap.size = mb := ⟨_, rfl⟩
  have HBN2 : Hid (∃ cs os, Both W w.heap.size tb mb rb cs os ∧ InAll os) := hidI ⟨_, _, by rw [hmb] at HBN ⊢; exact HBN.out, fun o ho => by simp at ho⟩
  clear HBN hmb may
  go_wp2
  go_loopg [7] (min k 50) (fun g s7 wx => ∃ i : Nat, i + g = min k 50 ∧ s7 = .int .i64 i ∧ Hid ((∃ cs os, Both wx w.heap.size tb mb rb cs os ∧ InAll os) ∧ Below w.heap.size w wx))
  case atStart => exact ⟨0, by omega, rfl, hidI ⟨HBN2.out, HBW.out⟩⟩
  case round =>
    obtain ⟨i, hig, rfl, HX⟩ := hrel
    cases gk with
    | zero =>
      have hend : i = k ∨ (i < k ∧ i = 50) := by omega
      rcases hend with rfl | ⟨hlt, rfl⟩
      · have k1 : decide ((i : Int) < (i : Int)) = false := by simp
        go_wp2
        go_ret3
        obtain ⟨⟨cs, os, hB, hI⟩, hbel⟩ := HX.out
        exact ⟨tb, mb, rb, cs, os, rfl, hB, hI, hbel⟩
      · have k1 : ((50 : Nat) : Int) < (k : Int) := by omega
        have k1' : (50 : Int) < (k : Int) := by omega
        go_wp2
        go_ret3
        obtain ⟨⟨cs, os, hB, hI⟩, hbel⟩ := HX.out
        exact ⟨tb, mb, rb, cs, os, rfl, hB, hI, hbel⟩
    | succ g =>
      have hik : i < k := by omega
      have k1 : (i : Int) < (k : Int) := by omega
      have k2 : (i : Int) < 50 := by omega
      obtain ⟨x, hx⟩ : ∃ x, xs[i]? = some x := ⟨_, List.getElem?_eq_getElem (by have := HK.out; omega)⟩
      have hxo := HO.out x (List.mem_of_getElem? hx)
      have C : Hid (Calls Try.prog 42 #[.pointer (some ⟨tb, 0, none⟩), .pointer (some ⟨rb, 0, none⟩), .agg #[.int .i64 x.k, .string x.s, .int .u8 x.d, .int .u8 x.q, .int .i64 x.i, .int .i64 x.x, .slice x.a x.n x.cap]] wr fun e w' => e = .returned (.bool true) ∧ ∃ cs' os', (Both w' w.heap.size tb mb rb cs' os' ∧ InAll os') ∧ Below w.heap.size wr w') := hidI (by
        obtain ⟨⟨cs, os, hB, hI⟩, hbel⟩ := HX.out
        refine (doI_any hB x (hxo.later hbel) (HIn.out x (List.mem_of_getElem? hx))).mono ?_
        rintro e w' ⟨he, cs', os', h1, h2, h3⟩
        exact ⟨he, cs', os', ⟨h1, h3 hI⟩, h2⟩)
      rcases HL.out with hnil | ⟨b, off, rfl, hlie⟩
      · subst hnil; simp at hx
      have kk : ∀ {p : Addr} {v : Value}, w.cell? p = some v → wr.cell? p = some v := fun {p v} hc => (HX.out.2.cell (World.block_lt_of_cell? w _ hc)).trans hc
      obtain ⟨c0, c1, c2, c3, c4, c5, c6⟩ := hlie i x hx
      replace c0 := kk c0
      replace c1 := kk c1
      replace c2 := kk c2
      replace c3 := kk c3
      replace c4 := kk c4
      replace c5 := kk c5
      replace c6 := kk c6
      clear hlie kk hxo hx
      go_wp2_with (go_at_call 42; refine Calls.mono C.out ?_; rintro e w3 ⟨rfl, hB3⟩; have HB3 := hidI hB3; clear hB3; refine Hid.out ?_)
      refine hidI ?_
      go_wp2
      go_roundg g
      case measure => omega
      case rel =>
        refine ⟨i + 1, by omega, by go_num, hidI ?_⟩
        obtain ⟨cs', os', hB, hbel⟩ := HB3.out
        exact ⟨⟨cs', os', hB⟩, HX.out.2.trans hbel⟩
end Go.Proofs.Ytbjoljokdjgbnab
