/-
  Bytes and Join, of the program and of the document; bytes that a slice tells.
-/
import Derived.Test.YtbjoljokdjgbnabBytesRM
import Derived.OneCell
namespace Go.Proofs.Ytbjoljokdjgbnab
open Go.RowKit Go.Deep Go.MapKept
/-- The bytes of a number, the highest first. -/
def by8 (a : Int) : Array Value := #[.int .u8 (a / 256 / 256 / 256 / 256 / 256 / 256 / 256 % 256), .int .u8 (a / 256 / 256 / 256 / 256 / 256 / 256 % 256), .int .u8 (a / 256 / 256 / 256 / 256 / 256 % 256), .int .u8 (a / 256 / 256 / 256 / 256 % 256), .int .u8 (a / 256 / 256 / 256 % 256), .int .u8 (a / 256 / 256 % 256), .int .u8 (a / 256 % 256), .int .u8 (a % 256)]
set_option maxHeartbeats 2000000 in
theorem bytes_any (a : Int) (w : World) :
    Calls Try.prog 61 #[.int .i64 a] w fun e w' => e = .returned (.agg (by8 a)) ∧ Below w.heap.size w w' := by
  go_enter Try.func61, Try.ntmps61
  go_wp2
  refine wp_loop_rounds 9 ?_
  rw [rounds_succ]
  go_wp2
  rw [rounds_succ]
  go_wp2
  rw [rounds_succ]
  go_wp2
  rw [rounds_succ]
  go_wp2
  rw [rounds_succ]
  go_wp2
  rw [rounds_succ]
  go_wp2
  rw [rounds_succ]
  go_wp2
  rw [rounds_succ]
  go_wp2
  rw [rounds_succ]
  go_wp2
  exact bodyPost_ret (v := .agg #[.int .u8 (a / 256 / 256 / 256 / 256 / 256 / 256 / 256 % 256), .int .u8 (a / 256 / 256 / 256 / 256 / 256 / 256 % 256), .int .u8 (a / 256 / 256 / 256 / 256 / 256 % 256), .int .u8 (a / 256 / 256 / 256 / 256 % 256), .int .u8 (a / 256 / 256 / 256 % 256), .int .u8 (a / 256 / 256 % 256), .int .u8 (a / 256 % 256), .int .u8 (a % 256)]) (by simp [results, go_sem]) rfl ⟨rfl, ((Below.refl _ _).alloc (Nat.le_refl _) _).alloc (by simp) _⟩
theorem by8_wrap (a : Int) : by8 (IntKind.u64.wrap a) = by8 a := by
  unfold by8
  rw [IntKind.wrap_u64]
  rw [show a % 18446744073709551616 / 256 / 256 / 256 / 256 / 256 / 256 / 256 % 256 = a / 256 / 256 / 256 / 256 / 256 / 256 / 256 % 256 by omega]
  rw [show a % 18446744073709551616 / 256 / 256 / 256 / 256 / 256 / 256 % 256 = a / 256 / 256 / 256 / 256 / 256 / 256 % 256 by omega]
  rw [show a % 18446744073709551616 / 256 / 256 / 256 / 256 / 256 % 256 = a / 256 / 256 / 256 / 256 / 256 % 256 by omega]
  rw [show a % 18446744073709551616 / 256 / 256 / 256 / 256 % 256 = a / 256 / 256 / 256 / 256 % 256 by omega]
  rw [show a % 18446744073709551616 / 256 / 256 / 256 % 256 = a / 256 / 256 / 256 % 256 by omega]
  rw [show a % 18446744073709551616 / 256 / 256 % 256 = a / 256 / 256 % 256 by omega]
  rw [show a % 18446744073709551616 / 256 % 256 = a / 256 % 256 by omega]
  rw [show a % 18446744073709551616 % 256 = a % 256 by omega]
set_option maxHeartbeats 2000000 in
theorem bytesR_any (a : Int) (w : World) :
    Calls Try.prog 62 #[.int .i64 a] w fun e w' => e = .returned (.agg (by8 a)) ∧ Below w.heap.size w w' := by
  rw [← by8_wrap a]
  have hu0 : 0 ≤ IntKind.u64.wrap a := by rw [IntKind.wrap_u64]; omega
  have hu1 : IntKind.u64.wrap a ≤ 18446744073709551615 := by rw [IntKind.wrap_u64]; omega
  obtain ⟨u, hu⟩ : ∃ u, IntKind.u64.wrap a = u := ⟨_, rfl⟩
  rw [hu] at hu0 hu1 ⊢
  go_enter Try.func62, Try.ntmps62
  go_wp2
  refine wp_loop_rounds 9 ?_
  rw [rounds_succ]
  go_wp2
  rw [rounds_succ]
  go_wp2
  rw [rounds_succ]
  go_wp2
  rw [rounds_succ]
  go_wp2
  rw [rounds_succ]
  go_wp2
  rw [rounds_succ]
  go_wp2
  rw [rounds_succ]
  go_wp2
  rw [rounds_succ]
  go_wp2
  rw [rounds_succ]
  go_wp2
  exact bodyPost_ret (v := .agg #[.int .u8 (u / 256 / 256 / 256 / 256 / 256 / 256 / 256 % 256), .int .u8 (u / 256 / 256 / 256 / 256 / 256 / 256 % 256), .int .u8 (u / 256 / 256 / 256 / 256 / 256 % 256), .int .u8 (u / 256 / 256 / 256 / 256 % 256), .int .u8 (u / 256 / 256 / 256 % 256), .int .u8 (u / 256 / 256 % 256), .int .u8 (u / 256 % 256), .int .u8 (u % 256)]) (by simp [results, go_sem]) rfl ⟨rfl, ((Below.refl _ _).alloc (Nat.le_refl _) _).alloc (by simp) _⟩
theorem or8 (x b : Int) (h : 0 ≤ b ∧ b ≤ 255) : bits .or .i64 (wrap64 (x * 256)) b = wrap64 (x * 256 + b) := by
  have key : (BitVec.ofInt 64 (wrap64 (x * 256)) ||| BitVec.ofInt 64 b).toNat = ((x * 256) % 18446744073709551616).toNat + b.toNat := by
    rw [BitVec.toNat_or, BitVec.toNat_ofInt, BitVec.toNat_ofInt]
    have e1 : (wrap64 (x * 256) % ((2 ^ 64 : Nat) : Int)).toNat = 2 ^ 8 * ((x * 256) % 18446744073709551616 / 256).toNat := by unfold wrap64; omega
    have e2 : (b % ((2 ^ 64 : Nat) : Int)).toNat = b.toNat := by omega
    rw [e1, e2, ← Nat.two_pow_add_eq_or_of_lt (by omega)]
    omega
  show IntKind.i64.wrap ((BitVec.ofInt 64 (wrap64 (x * 256)) ||| BitVec.ofInt 64 b).toNat : Nat) = wrap64 (x * 256 + b)
  rw [key, IntKind.wrap_i64]
  unfold wrap64
  omega
theorem or0 (b : Int) (h : 0 ≤ b ∧ b ≤ 255) : bits .or .i64 0 b = b := by
  have h1 := or8 0 b h
  rw [show wrap64 (0 * 256) = 0 by decide +kernel, Int.zero_mul, Int.zero_add] at h1
  rw [h1]; unfold wrap64; omega
theorem wrap_step (y b : Int) : wrap64 (wrap64 y * 256 + b) = wrap64 (y * 256 + b) := by unfold wrap64; omega
theorem join_eq (b0 b1 b2 b3 b4 b5 b6 b7 : Int) (h0 : 0 ≤ b0 ∧ b0 ≤ 255) (h1 : 0 ≤ b1 ∧ b1 ≤ 255) (h2 : 0 ≤ b2 ∧ b2 ≤ 255) (h3 : 0 ≤ b3 ∧ b3 ≤ 255) (h4 : 0 ≤ b4 ∧ b4 ≤ 255) (h5 : 0 ≤ b5 ∧ b5 ≤ 255) (h6 : 0 ≤ b6 ∧ b6 ≤ 255) (h7 : 0 ≤ b7 ∧ b7 ≤ 255) : (bits .or .i64 (wrap64 ((bits .or .i64 (wrap64 ((bits .or .i64 (wrap64 ((bits .or .i64 (wrap64 ((bits .or .i64 (wrap64 ((bits .or .i64 (wrap64 ((bits .or .i64 (wrap64 ((bits .or .i64 0 b0) * 256)) b1) * 256)) b2) * 256)) b3) * 256)) b4) * 256)) b5) * 256)) b6) * 256)) b7) = jn b0 b1 b2 b3 b4 b5 b6 b7 := by
  rw [or0 b0 h0, or8 _ b1 h1, or8 _ b2 h2, or8 _ b3 h3, or8 _ b4 h4, or8 _ b5 h5, or8 _ b6 h6, or8 _ b7 h7]
  rw [wrap_step (b0 * 256 + b1) b2, wrap_step ((b0 * 256 + b1) * 256 + b2) b3, wrap_step (((b0 * 256 + b1) * 256 + b2) * 256 + b3) b4, wrap_step ((((b0 * 256 + b1) * 256 + b2) * 256 + b3) * 256 + b4) b5, wrap_step (((((b0 * 256 + b1) * 256 + b2) * 256 + b3) * 256 + b4) * 256 + b5) b6, wrap_step ((((((b0 * 256 + b1) * 256 + b2) * 256 + b3) * 256 + b4) * 256 + b5) * 256 + b6) b7]
  unfold jn
  exact congrArg wrap64 (by omega)
set_option maxHeartbeats 2000000 in
theorem join_any (b0 b1 b2 b3 b4 b5 b6 b7 : Int) (h0 : 0 ≤ b0 ∧ b0 ≤ 255) (h1 : 0 ≤ b1 ∧ b1 ≤ 255) (h2 : 0 ≤ b2 ∧ b2 ≤ 255) (h3 : 0 ≤ b3 ∧ b3 ≤ 255) (h4 : 0 ≤ b4 ∧ b4 ≤ 255) (h5 : 0 ≤ b5 ∧ b5 ≤ 255) (h6 : 0 ≤ b6 ∧ b6 ≤ 255) (h7 : 0 ≤ b7 ∧ b7 ≤ 255) (w : World) :
    Calls Try.prog 103 #[.agg #[.int .u8 b0, .int .u8 b1, .int .u8 b2, .int .u8 b3, .int .u8 b4, .int .u8 b5, .int .u8 b6, .int .u8 b7]] w fun e w' => e = .returned (.int .i64 (jn b0 b1 b2 b3 b4 b5 b6 b7)) ∧ Below w.heap.size w w' := by
  have e := join_eq b0 b1 b2 b3 b4 b5 b6 b7 h0 h1 h2 h3 h4 h5 h6 h7
  have E : Hid _ := e
  clear e
  go_enter Try.func103, Try.ntmps103
  go_wp2
  refine wp_loop_rounds 9 ?_
  rw [rounds_succ]
  go_wp2
  rw [rounds_succ]
  go_wp2
  rw [rounds_succ]
  go_wp2
  rw [rounds_succ]
  go_wp2
  rw [rounds_succ]
  go_wp2
  rw [rounds_succ]
  go_wp2
  rw [rounds_succ]
  go_wp2
  rw [rounds_succ]
  go_wp2
  rw [rounds_succ]
  go_wp2
  go_ret
  exact ⟨congrArg (fun z => Ending.returned (Value.int .i64 z)) E.out, (Below.refl _ _).alloc (Nat.le_refl _) _⟩
set_option maxHeartbeats 2000000 in
theorem joinR_any (b0 b1 b2 b3 b4 b5 b6 b7 : Int) (h0 : 0 ≤ b0 ∧ b0 ≤ 255) (h1 : 0 ≤ b1 ∧ b1 ≤ 255) (h2 : 0 ≤ b2 ∧ b2 ≤ 255) (h3 : 0 ≤ b3 ∧ b3 ≤ 255) (h4 : 0 ≤ b4 ∧ b4 ≤ 255) (h5 : 0 ≤ b5 ∧ b5 ≤ 255) (h6 : 0 ≤ b6 ∧ b6 ≤ 255) (h7 : 0 ≤ b7 ∧ b7 ≤ 255) (w : World) :
    Calls Try.prog 87 #[.agg #[.int .u8 b0, .int .u8 b1, .int .u8 b2, .int .u8 b3, .int .u8 b4, .int .u8 b5, .int .u8 b6, .int .u8 b7]] w fun e w' => e = .returned (.int .i64 (jn b0 b1 b2 b3 b4 b5 b6 b7)) ∧ Below w.heap.size w w' := by
  go_enter Try.func87, Try.ntmps87
  go_wp2
  refine wp_loop_rounds 9 ?_
  rw [rounds_succ]
  go_wp2
  rw [rounds_succ]
  go_wp2
  rw [rounds_succ]
  go_wp2
  rw [rounds_succ]
  go_wp2
  rw [rounds_succ]
  go_wp2
  rw [rounds_succ]
  go_wp2
  rw [rounds_succ]
  go_wp2
  rw [rounds_succ]
  go_wp2
  rw [rounds_succ]
  go_wp2
  go_ret
  exact ⟨congrArg (fun z => Ending.returned (Value.int .i64 z)) (by unfold jn; exact congrArg wrap64 (by omega)), (Below.refl _ _).alloc (Nat.le_refl _) _⟩
/-- A slice of n elements, each of so many cells, tells the cells. -/
def SeesC (w : World) (v : Value) (n size : Nat) (cs : List Value) : Prop :=
  cs.length = n * size ∧ ∃ (a : Option Addr) (cap : Nat), v = .slice a n cap ∧ (n = 0 ∨ ∃ b off, a = some ⟨b, off, none⟩ ∧ ∀ (j : Nat) (c : Value), cs[j]? = some c → w.cell? ⟨b, off + j, none⟩ = some c)
theorem SeesC.below {w w' : World} {B n size : Nat} {v : Value} {cs : List Value} (h : SeesC w v n size cs) (hb : Below B w w') (hB : w.heap.size ≤ B) : SeesC w' v n size cs := by
  obtain ⟨hl, a, cap, rfl, h⟩ := h
  refine ⟨hl, a, cap, rfl, ?_⟩
  rcases h with h | ⟨b, off, rfl, h⟩
  · exact .inl h
  · exact .inr ⟨b, off, rfl, fun j c hc => (hb.cell (Nat.lt_of_lt_of_le (World.block_lt_of_cell? w _ (h j c hc)) hB)).trans (h j c hc)⟩
theorem SeesC.grown {w w' : World} {row : Option Nat} {n size : Nat} {v : Value} {cs : List Value} (h : SeesC w v n size cs) (hg : w.grownBy w' row) (hne : v.ownBlock ≠ row) : SeesC w' v n size cs := by
  obtain ⟨hl, a, cap, rfl, h⟩ := h
  refine ⟨hl, a, cap, rfl, h.imp_right ?_⟩
  rintro ⟨b, off, rfl, h2⟩
  exact ⟨b, off, rfl, fun j c hc => hg.cell (h2 j c hc) (by simpa [Value.ownBlock] using hne)⟩
theorem seesC_of_owns {w : World} {base e size n : Nat} {v : Value} {cs : List Value} (h : w.ownsRow base e size v n cs) : SeesC w v n size cs := by
  have hc := h
  refine ⟨h.1, ?_⟩
  rcases h.2 with ⟨rfl, h0⟩ | ⟨g, cap, cur, rfl, _⟩
  · exact ⟨none, 0, by rw [h0], .inl h0⟩
  · refine ⟨_, cap, rfl, .inr ⟨g, 0, rfl, fun j c hj => ?_⟩⟩
    have e0 := World.ownsRow.cells hc rfl j c hj
    rw [show (⟨g, 0, none⟩ : Addr).add j = ⟨g, 0 + j, none⟩ from Addr.add_lit ..] at e0
    exact e0
theorem run_append_any {P : Program} {t e size bytes : Nat} {z : Value} (ht : P.underlying t = some (.slice e)) (hinfo : (P.info? e).map (fun i => (i.zero, i.size, i.bytes)) = some (some z, size, bytes)) (hzs : z.cells.size = size) (hsz : 0 < size) (hby : bytes ≤ 1000)
    (W : World) (ty base : Nat) (v : Value) (n : Nat) (xs : List Value) (u : Value) (m : Nat) (cs : List Value) (ho : W.ownsRow base e size v n xs) (hu : SeesC W u m size cs) (h1 : ∀ c ∈ cs, c.oneCell' = true) (hn : n + m ≤ 100000) (hb : base ≤ W.heap.size) :
    ∃ v' w', (Builtin.append_ #[t, t] ty #[v, u]).run P W = .ok v' w' ∧ w'.ownsRow base e size v' (n + m) (xs ++ cs) ∧ W.grownBy w' v.ownBlock ∧ (v'.ownBlock = v.ownBlock ∨ v'.ownBlock = some W.heap.size) := by
  obtain ⟨i0, hi, hz0, hz1, hz2⟩ := info_parts hinfo
  obtain ⟨hl, a, cap, rfl, hs⟩ := hu
  rcases hs with rfl | ⟨b, off, rfl, hc⟩
  · obtain rfl : cs = [] := List.eq_nil_of_length_eq_zero (by simpa using hl)
    refine ⟨v, W, ?_, by simpa using ho, World.grownBy.refl _ _, .inl rfl⟩
    rcases ho.2 with ⟨rfl, rfl⟩ | ⟨g, cap', cur, rfl, _, _, hle, _⟩
    · cases a <;> simp [Builtin.append_, run_underlying ht, sizeOf, typeInfo, hi, loadCells, loadCellsFrom, Builtin.lenOf, Builtin.firstCells]
    · cases a <;> simp [Builtin.append_, run_underlying ht, sizeOf, typeInfo, hi, hle, storeCells, loadCells, loadCellsFrom, Builtin.lenOf, Builtin.firstCells]
  · have hmul : (n + m) * bytes ≤ 100000 * 1000 := Nat.mul_le_mul hn hby
    obtain ⟨v', w', hr, h2, h3, _, h5⟩ := run_append_own_at (P := P) W base t ty e i0 z size bytes ht hi hz0 hz1 hz2 hzs hsz v n xs ho ⟨b, off, none⟩ m cap cs hl
      (fun j u hj => by rw [Addr.add_lit]; exact hc j u hj) h1 (by unfold maxLen; omega) (by omega) hb
    exact ⟨v', w', hr, h2, h3, h5⟩
theorem wp_append_any {P : Program} {t e size bytes : Nat} {z : Value} (ht : P.underlying t = some (.slice e)) (hinfo : (P.info? e).map (fun i => (i.zero, i.size, i.bytes)) = some (some z, size, bytes)) (hzs : z.cells.size = size) (hsz : 0 < size) (hby : bytes ≤ 1000)
    {o : Oper} {a : Act} {K : Act → World → Prop} {Q : Exit → Act → World → Prop} {W : World} (s x : Operand)
    (ho : o.op = .call { callee := .builtin .append, args := #[s, x], argTypes := #[t, t] }) (base : Nat) (v : Value) (n : Nat) (xs : List Value) (hs : a.eval s = v) (hown : W.ownsRow base e size v n xs)
    (u : Value) (m : Nat) (cs : List Value) (hx : a.eval x = u) (hu : SeesC W u m size cs) (h1 : ∀ c ∈ cs, c.oneCell' = true) (hn : n + m ≤ 100000) (hb : base ≤ W.heap.size)
    (h : ∀ v' w', w'.ownsRow base e size v' (n + m) (xs ++ cs) → W.grownBy w' v.ownBlock → (v'.ownBlock = v.ownBlock ∨ v'.ownBlock = some W.heap.size) → K (a.put o.dst v') w') :
    o.wp P a W K Q := by
  obtain ⟨v', w', hr, h2, h3, h4⟩ := run_append_any ht hinfo hzs hsz hby W o.type base v n xs u m cs hown hu h1 hn hb
  unfold Oper.wp execOp
  simp only [ho, resolve, invoke, builtin, Sem.run_bind, Sem.run_pure, Result.andThen_ok, List.map_toArray, List.map_cons, List.map_nil, hs, hx, hr]
  exact h v' w' h2 h3 h4
theorem wpList_append_any {P : Program} {t e size bytes : Nat} {z : Value} (ht : P.underlying t = some (.slice e)) (hinfo : (P.info? e).map (fun i => (i.zero, i.size, i.bytes)) = some (some z, size, bytes)) (hzs : z.cells.size = size) (hsz : 0 < size) (hby : bytes ≤ 1000)
    {ops : Array Oper} {rest : List Oper} {o : Oper} {a : Act} {Q : Exit → Act → World → Prop} {W : World} (hgd : o.guard = none) (s x : Operand)
    (ho : o.op = .call { callee := .builtin .append, args := #[s, x], argTypes := #[t, t] }) (base : Nat) (v : Value) (n : Nat) (xs : List Value) (hs : a.eval s = v) (hown : W.ownsRow base e size v n xs)
    (u : Value) (m : Nat) (cs : List Value) (hx : a.eval x = u) (hu : SeesC W u m size cs) (h1 : ∀ c ∈ cs, c.oneCell' = true) (hn : n + m ≤ 100000) (hb : base ≤ W.heap.size)
    (h : ∀ v' w', w'.ownsRow base e size v' (n + m) (xs ++ cs) → W.grownBy w' v.ownBlock → (v'.ownBlock = v.ownBlock ∨ v'.ownBlock = some W.heap.size) → wpList P ops Q rest (a.put o.dst v') w') :
    wpList P ops Q (o :: rest) a W :=
  wpList_plain hgd fun _ hK => wp_append_any ht hinfo hzs hsz hby s x ho base v n xs hs hown u m cs hx hu h1 hn hb fun v' w' h2 h3 h4 => hK _ _ (h v' w' h2 h3 h4)
theorem step_append_any {P : Program} {t e size bytes : Nat} {z : Value} (ht : P.underlying t = some (.slice e)) (hinfo : (P.info? e).map (fun i => (i.zero, i.size, i.bytes)) = some (some z, size, bytes)) (hzs : z.cells.size = size) (hsz : 0 < size) (hby : bytes ≤ 1000)
    {ops : Array Oper} {E : Prop} {o : Oper} {a : Act} {K : Act → World → Prop} {Q : Exit → Act → World → Prop} {W : World} (hgd : o.guard = none) (s x : Operand)
    (ho : o.op = .call { callee := .builtin .append, args := #[s, x], argTypes := #[t, t] }) (base : Nat) (v : Value) (n : Nat) (xs : List Value) (hs : a.eval s = v) (hown : W.ownsRow base e size v n xs)
    (u : Value) (m : Nat) (cs : List Value) (hx : a.eval x = u) (hu : SeesC W u m size cs) (h1 : ∀ c ∈ cs, c.oneCell' = true) (hn : n + m ≤ 100000) (hb : base ≤ W.heap.size)
    (h : ∀ v' w', w'.ownsRow base e size v' (n + m) (xs ++ cs) → W.grownBy w' v.ownBlock → (v'.ownBlock = v.ownBlock ∨ v'.ownBlock = some W.heap.size) → K (a.put o.dst v') w') :
    if Region.wanted o (yielded ops a.tmps) = true then Oper.wp P o a W K Q else E := by
  have hw : Region.wanted o (yielded ops a.tmps) = true := by simp [Region.wanted, hgd]
  rw [if_pos hw]
  exact wp_append_any ht hinfo hzs hsz hby s x ho base v n xs hs hown u m cs hx hu h1 hn hb h
/-- One cell of a row set. -/
theorem own_set {w : World} {base e n g cap j : Nat} {xs : List Value} (h : w.ownsRow base e 1 (.slice (some ⟨g, 0, none⟩) n cap) n xs) (u : Value) : (w.setCell ⟨g, j, none⟩ u).ownsRow base e 1 (.slice (some ⟨g, 0, none⟩) n cap) n (xs.set j u) := by
  refine ⟨by rw [List.length_set]; exact h.1, ?_⟩
  rcases h.2 with ⟨h0, _⟩ | ⟨g', cap', cur, he, hb, hh, h1, h2, h3, h4⟩
  · cases h0
  · simp only [Value.slice.injEq, Option.some.injEq, Addr.mk.injEq, and_true, true_and] at he
    obtain ⟨rfl, rfl⟩ := he
    refine .inr ⟨g, cap, cur.setIfInBounds j u, rfl, hb, heap_setCell_same _ _ _ _ _ _ hh, h1, h2, by simpa using h3, ?_⟩
    rw [Array.toList_setIfInBounds, List.take_set, h4]
theorem by8_enc (a : Int) : by8 a = ((encW a).map (Value.int .u8)).toArray := rfl
/-- A slice tells bytes. -/
def cellsB (bs : List Int) : List Value := bs.map (Value.int .u8)
theorem cellsB_one (bs : List Int) : ∀ c ∈ cellsB bs, c.oneCell' = true := by
  intro c hc
  obtain ⟨z, _, rfl⟩ := List.mem_map.1 hc
  rfl
theorem cellsB_len (bs : List Int) : (cellsB bs).length = bs.length := by simp [cellsB]
theorem cellsB_get {bs : List Int} {j : Nat} {z : Int} (h : bs[j]? = some z) : (cellsB bs)[j]? = some (.int .u8 z) := by simp [cellsB, h]
theorem Try.info5 : (Try.prog.info? 5).map (fun i => (i.zero, i.size, i.bytes)) = some (some (.int .u8 0), 1, 1) := by kernel_rfl
end Go.Proofs.Ytbjoljokdjgbnab
