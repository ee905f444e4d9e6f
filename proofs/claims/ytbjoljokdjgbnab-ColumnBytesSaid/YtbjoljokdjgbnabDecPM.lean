/-
  The columns that bytes say: the program's Decode.
-/
import Derived.Test.YtbjoljokdjgbnabReadTM
import Derived.Test.YtbjoljokdjgbnabForkM
namespace Go.Proofs.Ytbjoljokdjgbnab
open Go.RowKit Go.Deep Go.MapKept
def DecPost (w : World) (bs : List Int) (e : Ending) (w' : World) : Prop := Below w.heap.size w w' ∧
  ((dec bs = none ∧ e = .returned (.tuple #[.pointer none, .int .i64 3])) ∨
   (∃ (os : List One) (tb mb : Nat), dec bs = some os ∧ e = .returned (.tuple #[.pointer (some ⟨tb, 0, none⟩), .int .i64 0]) ∧ TB w.heap.size w' tb mb os))
theorem tb_new (w : World) : TB w.heap.size ((w.alloc (.map #[] 0)).alloc (.cells #[.int .i64 3, .int .i64 2, .map (some w.heap.size)] 95)) (w.heap.size + 1) w.heap.size [] :=
  ⟨[], whole_new w 3 2, ⟨List.Perm.refl _, List.Pairwise.nil⟩, by omega, Nat.le_refl _, by simp⟩
theorem TB.encode {b0 : Nat} {w : World} {tb mb : Nat} {os : List One} (h : TB b0 w tb mb os) : Calls Try.prog 29 #[.pointer (some ⟨tb, 0, none⟩)] w (EncPost w (encT os)) := by
  obtain ⟨cs, hW, hA, _⟩ := h
  exact pencode_any tb mb 3 2 cs os w hW hA
theorem enc_sb {w : World} {bs : List Int} {e : Ending} {w' : World} (h : EncPost w bs e w') : ∃ a c, e = .returned (.tuple #[.slice a bs.length c, .int .i64 0]) ∧ SB w' a c bs ∧ Below w.heap.size w w' := by
  obtain ⟨u, rfl, ⟨_, a, cap, rfl, hs⟩, hb, a', m', c', he, hle⟩ := h
  cases he
  refine ⟨a, cap, rfl, ⟨hle, hs.imp_right ?_⟩, hb⟩
  rintro ⟨b, off, rfl, hc⟩
  exact ⟨b, off, rfl, fun j z hz => hc j _ (cellsB_get hz)⟩
theorem enc_isB {os : List One} (h : OkT os) : ∀ z ∈ encT os, IsB z := by
  intro z hz
  unfold encT at hz
  rcases List.mem_cons.1 hz with rfl | hz
  · have := h.few
    unfold IsB
    omega
  obtain ⟨o, ho, hz⟩ := List.mem_flatMap.1 hz
  have hk := h.each o ho
  unfold encO at hz
  unfold IsB
  rcases List.mem_cons.1 hz with rfl | hz
  · have := hk.side; unfold side at this; simp at this; omega
  rcases List.mem_cons.1 hz with rfl | hz
  · have := hk.kind; unfold kind at this; simp at this; omega
  rcases List.mem_cons.1 hz with rfl | hz
  · have := name_size hk.name; omega
  rcases List.mem_append.1 hz with hz | hz
  · unfold nums at hz
    obtain ⟨c, _, rfl⟩ := List.mem_map.1 hz
    have := c.toNat_lt
    omega
  · obtain ⟨y, _, hy⟩ := List.mem_flatMap.1 hz
    exact encW_isB y z hy
set_option maxRecDepth 100000 in
set_option maxHeartbeats 2000000 in
theorem pdec_any (a : Option Addr) (cap : Nat) (bs : List Int) (hby : ∀ x ∈ bs, IsB x) (w : World) (hS : SB w a cap bs) : Calls Try.prog 31 #[.int .i64 3, .int .i64 2, .slice a bs.length cap] w (DecPost w bs) := by
  have C1 := hidI (cnew_ok 3 2 w (by unfold mayT; omega))
  have HTn := hidI (tb_new w)
  have HBn : Hid (Below w.heap.size w ((w.alloc (.map #[] 0)).alloc (.cells #[.int .i64 3, .int .i64 2, .map (some w.heap.size)] 95))) := hidI (by (repeat (first | exact Below.refl _ _ | assumption | refine Below.drew ?_ | refine Below.alloc ?_ (by first | omega | (simp; done) | (simp; omega)) _ | refine Below.setCell ?_ (by first | omega | (simp; done) | (simp; omega)) _)))
  obtain ⟨W, hW⟩ : ∃ W, ((w.alloc (.map #[] 0)).alloc (.cells #[.int .i64 3, .int .i64 2, .map (some w.heap.size)] 95)) = W := ⟨_, rfl⟩
  rw [hW] at HTn HBn
  have C1' : Hid (Calls Try.prog 40 #[.int .i64 3, .int .i64 2] w fun e w' => e = .returned (.pointer (some ⟨w.heap.size + 1, 0, none⟩)) ∧ w' = W) := hidI (hW ▸ C1.out)
  obtain ⟨tb, htb⟩ : ∃ tb, w.heap.size + 1 = tb := ⟨_, rfl⟩
  rw [htb] at HTn C1'
  obtain ⟨mb, hmb⟩ : ∃ mb, w.heap.size = mb ∧ TB w.heap.size W tb mb [] := ⟨_, rfl, HTn.out⟩
  have HT0 := hidI hmb.2
  clear hW C1 htb HTn hmb
  by_cases hl : bs.length = 0
  · have hnil : bs = [] := List.length_eq_zero_iff.1 hl
    have HD : Hid (dec bs = none) := hidI (by rw [hnil]; rfl)
    have j1 : (bs.length : Int) = 0 := by omega
    clear hnil hS hby hl
    go_enter Try.func31, Try.ntmps31
    go_wp2_with (go_at_call 40; refine Calls.mono C1'.out ?_; rintro e w1 ⟨rfl, rfl⟩; refine Hid.out ?_)
    refine hidI ?_
    go_wp2
    go_ret2
    exact ⟨HBn.out, .inl ⟨HD.out, rfl⟩⟩
  · obtain ⟨n, t, e⟩ : ∃ n t, bs = n :: t := by
      cases bs with
      | nil => simp at hl
      | cons n t => exact ⟨n, t, rfl⟩
    obtain ⟨ts, ta, tc, HTS, hcut, htsb⟩ := cut_l hS 1 1 rfl (by omega)
    have hts : ts = t := by rw [HTS.out, e]; rfl
    subst hts
    have hn := hby n (by rw [e]; simp)
    have HTsb := hidI (htsb _ hS)
    have HTby : Hid (∀ x ∈ ts, IsB x) := hidI fun x hx => hby x (by rw [e]; simp [hx])
    have HBy := hidI hby
    have HS := hidI hS
    have HE := hidI e
    have hc0 : ∃ b off, a = some ⟨b, off, none⟩ ∧ W.cell? ⟨b, off, none⟩ = some (.int .u8 n) := by
      rcases (hS.below HBn.out (Nat.le_refl _)).2 with h0 | ⟨b, off, rfl, hc⟩
      · omega
      · exact ⟨b, off, rfl, hc 0 n (by rw [e]; rfl)⟩
    obtain ⟨b, off, rfl, c0⟩ := hc0
    have j1 : ((bs.length : Int) == 0) = false := by rw [beq_eq_false_iff_ne]; omega
    have j2 : 0 < bs.length := by omega
    have j3 : (0 : Int) < (bs.length : Int) := by omega
    obtain ⟨m, hm⟩ : ∃ m : Nat, n = (m : Int) := ⟨n.toNat, by unfold IsB at hn; omega⟩
    subst hm
    have hm8 : m ≤ 255 := by unfold IsB at hn; omega
    have HDec : Hid (dec bs = match runO m [] ts with | none => none | some (os, _) => if encT os = bs then some os else none) := hidI (by rw [e]; simp only [dec, Int.toNat_natCast]; cases runO m [] ts <;> rfl)
    clear hS hby hl e htsb hn
    go_enter Try.func31, Try.ntmps31
    go_wp2_with (go_at_call 40; refine Calls.mono C1'.out ?_; rintro e w1 ⟨rfl, rfl⟩; refine Hid.out ?_)
    refine hidI ?_
    clear C1'
    go_wp2
    clear c0 hcut
    go_loopg [9, 29] m (fun g s9 s29 wx => ∃ (i : Nat) (cur : List Int) (os : List One) (va : Option Addr) (vc : Nat), i + g = m ∧ s9 = .slice va cur.length vc ∧ s29 = .int .u8 (i : Int) ∧ Hid (SB w va vc cur) ∧ Hid (∀ x ∈ cur, IsB x) ∧ Hid (TB w.heap.size wx tb mb os) ∧ Hid (Below w.heap.size w wx) ∧ Hid (runO m [] ts = runO g os cur) ∧ Hid (OkT os))
    case atStart => exact ⟨0, ts, [], ta, tc, by omega, rfl, rfl, HTsb, HTby, HT0, HBn, hidI rfl, hidI okT_nil⟩
    case round =>
      obtain ⟨i, cur, os, va, vc, hig, rfl, rfl, HC, HCb, HT, HB, HRun, HOk⟩ := hrel
      cases gk with
      | zero =>
        have hil : i = m := by omega
        subst hil
        have j4 : ¬ ((i : Int) < (i : Int)) := by omega
        have CE := hidI (HT.out.encode)
        go_wp2_with (go_at_call 29; refine Calls.mono CE.out ?_; intro e w3 he; obtain ⟨ea, ec, rfl, hes, heb⟩ := enc_sb he; clear he; refine Hid.out ?_)
        refine hidI ?_
        have HB3 := hidI (HB.out.trans (heb.mono HB.out.size))
        have HT3 := hidI (HT.out.below heb (Nat.le_refl _))
        have CQ := hidI (equalB_any ea _ ec cap (encT os) bs (enc_isB HOk.out) HBy.out w3 hes (HS.out.below HB3.out (Nat.le_refl _)))
        have HD2 : Hid (dec bs = if encT os = bs then some os else none) := hidI (by rw [HDec.out, HRun.out]; simp only [runO])
        clear hes heb CE
        obtain ⟨en, hen⟩ : ∃ en, (encT os).length = en := ⟨_, rfl⟩
        rw [hen] at CQ ⊢
        by_cases hq : encT os = bs
        · rw [decide_eq_true hq] at CQ
          rw [if_pos hq] at HD2
          clear hq hen
          go_wp2_with (go_at_call 64; refine Calls.mono CQ.out ?_; rintro e w4 ⟨rfl, rfl⟩; refine Hid.out ?_)
          refine hidI ?_
          go_wp2
          go_ret2
          exact ⟨HB3.out, .inr ⟨os, tb, mb, HD2.out, rfl, HT3.out⟩⟩
        · rw [decide_eq_false hq] at CQ
          rw [if_neg hq] at HD2
          clear hq hen
          go_wp2_with (go_at_call 64; refine Calls.mono CQ.out ?_; rintro e w4 ⟨rfl, rfl⟩; refine Hid.out ?_)
          refine hidI ?_
          go_wp2
          go_ret2
          exact ⟨HB3.out, .inl ⟨HD2.out, rfl⟩⟩
      | succ g =>
        have j4 : (i : Int) < (m : Int) := by omega
        have CR := hidI (read_any w tb mb os wr va vc cur HCb.out HB.out HC.out HT.out)
        have wi : IntKind.u8.wrap ((i : Int) + 1) = (i : Int) + 1 := by rw [IntKind.wrap_u8]; omega
        cases hro : readO os cur with
        | none =>
          have CR' : Hid (Calls Try.prog 63 #[.pointer (some ⟨tb, 0, none⟩), .slice va cur.length vc] wr fun e w' => Below w.heap.size w w' ∧ e = .returned (.tuple #[.slice none 0 0, .bool false])) := hidI (CR.out.mono (by
            rintro e w' ⟨h1, ⟨_, h3⟩ | ⟨o, r, ua, uc, h3, _⟩⟩
            · exact ⟨h1, h3⟩
            · rw [hro] at h3; cases h3))
          have HD2 : Hid (dec bs = none) := hidI (by rw [HDec.out, HRun.out]; simp only [runO, hro])
          clear CR
          go_wp2_with (go_at_call 63; refine Calls.mono CR'.out ?_; rintro e w3 ⟨hb3, rfl⟩; have HB3 := hidI hb3; clear hb3; refine Hid.out ?_)
          refine hidI ?_
          go_wp2
          go_ret2
          exact ⟨HB3.out, .inl ⟨HD2.out, rfl⟩⟩
        | some p =>
          obtain ⟨o, r⟩ := p
          have CR' : Hid (Calls Try.prog 63 #[.pointer (some ⟨tb, 0, none⟩), .slice va cur.length vc] wr fun e w' => ∃ ua uc, Below w.heap.size w w' ∧ e = .returned (.tuple #[.slice ua r.length uc, .bool true]) ∧ SB w ua uc r ∧ TB w.heap.size w' tb mb (insO os o)) := hidI (CR.out.mono (by
            rintro e w' ⟨h1, ⟨h3, _⟩ | ⟨o', r', ua, uc, h3, h4, h5, h6⟩⟩
            · rw [hro] at h3; cases h3
            · rw [hro] at h3
              cases h3
              exact ⟨ua, uc, h1, h4, h5, h6⟩))
          have HRun2 : Hid (runO m [] ts = runO g (insO os o) r) := hidI (by rw [HRun.out]; simp only [runO, hro])
          obtain ⟨q1, q2, q3, q4⟩ := enc_read HCb.out hro
          have HOk2 := hidI (HOk.out.ins q1 q2)
          have HCb2 := hidI q4
          clear CR hro q1 q2 q3 q4
          go_wp2_with (go_at_call 63; refine Calls.mono CR'.out ?_; rintro e w3 ⟨ua, uc, hb3, rfl, hs3, ht3⟩; have HB3 := hidI hb3; have HS3 := hidI hs3; have HT3 := hidI ht3; clear hb3 hs3 ht3; refine Hid.out ?_)
          refine hidI ?_
          go_wp2
          go_roundg g
          case measure => omega
          case rel => exact ⟨i + 1, r, insO os o, ua, uc, by omega, rfl, by go_num, HS3, HCb2, HT3, HB3, HRun2, HOk2⟩
end Go.Proofs.Ytbjoljokdjgbnab
