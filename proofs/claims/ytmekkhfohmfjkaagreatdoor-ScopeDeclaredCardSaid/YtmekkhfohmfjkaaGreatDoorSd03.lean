/-
  Part 3 of the proof: PVoc, RegV, PWords, VocM.
-/
import Derived.Test.YtmekkhfohmfjkaaGreatDoorSd02
import Derived.Deep.LoopGhost
import Derived.Test.YtmekkhfohmfjkaaGreatDoorSd01
namespace Go.Proofs.YtmekkhfohmfjkaaGreatDoor
open Go.RowKit Go.Deep Go.MapKept Go.WideMaps Go.WideShapes
open Go.ChangeMaps (setBlock)
theorem put_same {w:World} {b:Nat} (o:Obj) (h:b<w.heap.size):(setBlock w b o).heap[b]?=some o:=by simp [setBlock,h]
theorem zcQ {w:World} {b i:Nat} (o:Obj) (h:i≠b):(setBlock w b o).heap[i]?=w.heap[i]?:=by simp [setBlock,Ne.symm h]
theorem zdH {B:Nat} {w u:World} {mb:Nat} (o:Obj) (h:Below B w u) (hb:B≤mb):Below B w (setBlock u mb o):=by
 refine ⟨h.os,h.tape,h.output,?_,fun k hk => ?_⟩
 ·have:=h.size
  simpa [setBlock] using this
 ·exact (zcQ o (by omega)).trans (h.block k hk)
theorem field126 (s p:ByteArray) (u:World):(Instr.field 151 (.agg #[.string s,.string p]) 0).run Tryz.prog u=.ok (.string s) u:=by kernel_rfl
theorem zcS {P:Program} {ops:Array Oper} {rest:List Oper} {o:Oper} {a:Act} {Q:Exit→Act→World→Prop} {w w':World} {t:TypeId} {m k x:Operand} {mv kv xv:Value} (hg:o.guard=none) (ho:o.op=.mapUpdate t m k x) (hm:a.eval m=mv) (hk:a.eval k=kv) (hx:a.eval x=xv) (hr:(Instr.mapUpdate t mv kv xv).run P w=.ok () w') (h:wpList P ops Q rest (a.put o.dst undef) w'):wpList P ops Q (o::rest) a w:=
 wpList_plain hg fun _ hK=>by
  unfold Oper.wp execOp
  simp only [ho,hm,hk,hx,Sem.run_bind,hr,Result.andThen_ok]
  exact hK _ _ h
def vocF (wd:Nat→ByteArray):Nat→Fn
 | 0=>fun _=>none
 | n+1=>if wd (n+1)=⟨#[]⟩ then vocF wd n else upd (vocF wd n) (wd (n+1)) (.int .u8 ((n+1:Nat):Int))
def stmtWd:Nat→ByteArray
 | 1=>⟨#[115,101,116]⟩
 | 2=>⟨#[102,111,108,100]⟩
 | 3=>⟨#[101,97,99,104]⟩
 | 4=>⟨#[105,102]⟩
 | 5=>⟨#[119,104,105,108,101]⟩
 | 6=>⟨#[108,111,111,112]⟩
 | 7=>⟨#[98,102,115]⟩
 | _=>⟨#[]⟩
def stmtPt:Nat→ByteArray
 | 1=>⟨#[110,101]⟩
 | 2=>⟨#[110,111,101,99]⟩
 | 3=>⟨#[97]⟩
 | 4=>⟨#[101,116,102]⟩
 | 5=>⟨#[101,115]⟩
 | 6=>⟨#[101,115]⟩
 | 7=>⟨#[110,101,115]⟩
 | _=>⟨#[]⟩
def actWd:Nat→ByteArray
 | 1=>⟨#[112,117,116]⟩
 | 2=>⟨#[112,117,115,104]⟩
 | 3=>⟨#[112,117,108,108]⟩
 | _=>⟨#[]⟩
def actPt:Nat→ByteArray
 | 1=>⟨#[110,101,99]⟩
 | 2=>⟨#[110,111,119,101,99]⟩
 | 3=>⟨#[110,111,119,101]⟩
 | _=>⟨#[]⟩
def exprWd:Nat→ByteArray
 | 1=>⟨#[]⟩
 | 2=>⟨#[]⟩
 | 3=>⟨#[111,119,110]⟩
 | 4=>⟨#[102,97,114]⟩
 | 5=>⟨#[118,105,97]⟩
 | 6=>⟨#[105,100]⟩
 | 7=>⟨#[102,97,114,105,100]⟩
 | 8=>⟨#[100,101,103]⟩
 | 9=>⟨#[99,111,117,110,116]⟩
 | 10=>⟨#[]⟩
 | _=>⟨#[]⟩
def exprPt:Nat→ByteArray
 | 1=>⟨#[]⟩
 | 2=>⟨#[]⟩
 | 3=>⟨#[110]⟩
 | 4=>⟨#[110]⟩
 | 5=>⟨#[110]⟩
 | 6=>⟨#[]⟩
 | 7=>⟨#[]⟩
 | 8=>⟨#[119]⟩
 | 9=>⟨#[]⟩
 | 10=>⟨#[]⟩
 | _=>⟨#[]⟩
theorem stmtSh_any (k:Nat) (h1:1≤k) (h2:k≤7) (w:World):Calls Tryz.prog 79 #[.int .u8 (k:Int)] w (ShPost w (stmtWd k) (stmtPt k)):=by
 have hm:k=1∨k=2∨k=3∨k=4∨k=5∨k=6∨k=7:=by omega
 rcases hm with rfl|rfl|rfl|rfl|rfl|rfl|rfl
 ·exact stmtSh1 w
 ·exact stmtSh2 w
 ·exact stmtSh3 w
 ·exact stmtSh4 w
 ·exact stmtSh5 w
 ·exact stmtSh6 w
 ·exact stmtSh7 w
theorem actSh_any (k:Nat) (h1:1≤k) (h2:k≤3) (w:World):Calls Tryz.prog 82 #[.int .u8 (k:Int)] w (ShPost w (actWd k) (actPt k)):=by
 have hm:k=1∨k=2∨k=3:=by omega
 rcases hm with rfl|rfl|rfl
 ·exact actSh1 w
 ·exact actSh2 w
 ·exact actSh3 w
theorem exprSh_any (k:Nat) (h1:1≤k) (h2:k≤10) (w:World):Calls Tryz.prog 85 #[.int .u8 (k:Int)] w (ShPost w (exprWd k) (exprPt k)):=by
 have hm:k=1∨k=2∨k=3∨k=4∨k=5∨k=6∨k=7∨k=8∨k=9∨k=10:=by omega
 rcases hm with rfl|rfl|rfl|rfl|rfl|rfl|rfl|rfl|rfl|rfl
 ·exact exprSh1 w
 ·exact exprSh2 w
 ·exact exprSh3 w
 ·exact exprSh4 w
 ·exact exprSh5 w
 ·exact exprSh6 w
 ·exact exprSh7 w
 ·exact exprSh8 w
 ·exact exprSh9 w
 ·exact exprSh10 w
theorem stmtW_any (k:Nat) (h1:1≤k) (h2:k≤7) (w:World):Calls Tryz.prog 78 #[.int .u8 (k:Int)] w fun e w'=>e=.returned (.string (stmtWd k))∧Below w.heap.size w w':=by
 have hC:=stmtSh_any k h1 h2 w
 clear h1 h2
 obtain ⟨s,hs⟩:∃ s,stmtWd k=s:=⟨_,rfl⟩
 obtain ⟨p,hp⟩:∃ p,stmtPt k=p:=⟨_,rfl⟩
 rw [hs,hp] at hC
 rw [hs]
 clear hs hp
 have C:=hidI hC
 clear hC
 have hf:=field126 s p
 go_enter Tryz.func78,Tryz.ntmps78
 go_wp2_with (go_at_call 79;refine C.out.mono ?_;intro e w1 h1;obtain ⟨rfl,hb1⟩:=h1;clear C)
 go_ret
 exact ⟨rfl,hb1⟩
theorem actW_any (k:Nat) (h1:1≤k) (h2:k≤3) (w:World):Calls Tryz.prog 81 #[.int .u8 (k:Int)] w fun e w'=>e=.returned (.string (actWd k))∧Below w.heap.size w w':=by
 have hC:=actSh_any k h1 h2 w
 clear h1 h2
 obtain ⟨s,hs⟩:∃ s,actWd k=s:=⟨_,rfl⟩
 obtain ⟨p,hp⟩:∃ p,actPt k=p:=⟨_,rfl⟩
 rw [hs,hp] at hC
 rw [hs]
 clear hs hp
 have C:=hidI hC
 clear hC
 have hf:=field126 s p
 go_enter Tryz.func81,Tryz.ntmps81
 go_wp2_with (go_at_call 82;refine C.out.mono ?_;intro e w1 h1;obtain ⟨rfl,hb1⟩:=h1;clear C)
 go_ret
 exact ⟨rfl,hb1⟩
theorem exprW_any (k:Nat) (h1:1≤k) (h2:k≤10) (w:World):Calls Tryz.prog 84 #[.int .u8 (k:Int)] w fun e w'=>e=.returned (.string (exprWd k))∧Below w.heap.size w w':=by
 have hC:=exprSh_any k h1 h2 w
 clear h1 h2
 obtain ⟨s,hs⟩:∃ s,exprWd k=s:=⟨_,rfl⟩
 obtain ⟨p,hp⟩:∃ p,exprPt k=p:=⟨_,rfl⟩
 rw [hs,hp] at hC
 rw [hs]
 clear hs hp
 have C:=hidI hC
 clear hC
 have hf:=field126 s p
 go_enter Tryz.func84,Tryz.ntmps84
 go_wp2_with (go_at_call 85;refine C.out.mono ?_;intro e w1 h1;obtain ⟨rfl,hb1⟩:=h1;clear C)
 go_ret
 exact ⟨rfl,hb1⟩
theorem zero_86 (w:World):(zeroValue 74).run Tryz.prog w=.ok (.int .u8 0) w:=by kernel_rfl
theorem under_86:Tryz.prog.underlying 101=some (.map 9 74):=by kernel_rfl
theorem stmt_voc (w:World):Calls Tryz.prog 77 #[.int .u8 7,.func (.func 78) #[] #[]] w fun e w'=>∃ mb,e=.returned (.map (some mb))∧w.heap.size≤mb∧MapG w' mb (vocF stmtWd 7)∧Below w.heap.size w w':=by
 have hlen:∀ k,1≤k→k≤7→(stmtWd k).size≤maxLen:=by
  intro k h1 h2
  have hm:k=1∨k=2∨k=3∨k=4∨k=5∨k=6∨k=7:=by omega
  rcases hm with rfl|rfl|rfl|rfl|rfl|rfl|rfl<;>decide
 have HLEN:=hidI hlen
 clear hlen
 have hmm:=@run_makeMap Tryz.prog
 go_enter Tryz.func77,Tryz.ntmps77
 go_wp2
 go_loopg [6] 7 (fun g s6 wx=>∃ j:Nat,1≤j∧j+g=7+1∧s6=.int .u8 (j:Int)∧Hid (Below w.heap.size w wx)∧Hid (MapG wx w.heap.size (vocF stmtWd (j-1))))
 case atStart=>exact ⟨1,by omega,by omega,rfl,hidI (by exact belowT),hidI (zdB w)⟩
 case round=>
  obtain ⟨j,hj1,hig,rfl,HB,HM⟩:=hrel
  cases gk with
  | zero=>
   obtain rfl:j=7+1:=by omega
   go_wp2
   go_ret
   exact ⟨_,rfl,Nat.le_refl _,HM.out,HB.out⟩
  | succ g=>
   have k1:(j:Int)≤7:=by omega
   have C:=hidI (stmtW_any j hj1 (by omega) wr)
   have HL:=hidI (HLEN.out j hj1 (by omega))
   have hv:vocF stmtWd j=if stmtWd j=⟨#[]⟩ then vocF stmtWd (j-1) else upd (vocF stmtWd (j-1)) (stmtWd j) (.int .u8 (j:Int)):=by
    cases j with
    | zero=>omega
    | succ i=>rfl
   have HV:=hidI hv
   clear hv
   obtain ⟨s,hs⟩:∃ s,stmtWd j=s:=⟨_,rfl⟩
   rw [hs] at C HL HV
   clear hs
   have hsz:=HB.out.size
   by_cases he:s=⟨#[]⟩
   ·subst he
    have HV1:Hid (vocF stmtWd j=vocF stmtWd (j-1)):=hidI (by rw [HV.out,if_pos rfl])
    clear HV
    go_wp2_with (go_at_call 78;refine C.out.mono ?_;rintro e w1 ⟨rfl,hb1⟩;clear C)
    go_roundg g
    case rel=>exact ⟨j+1,by omega,by omega,by go_num,hidI (HB.out.trans (hb1.mono hsz)),hidI (by rw [Nat.add_sub_cancel,HV1.out];exact HM.out.same (hb1.block _ (HM.out.lt)))⟩
    case measure=>omega
   ·have HV1:Hid (vocF stmtWd j=upd (vocF stmtWd (j-1)) s (.int .u8 (j:Int))):=hidI (by rw [HV.out,if_neg he])
    clear HV
    have he2:(s.toList==[])=false:=by
     rw [beq_eq_false_iff_ne]
     intro h
     apply he
     rw [ByteArray.toList_eq] at h
     cases s with
     | mk d=>simp only [ByteArray.mk.injEq];exact Array.toList_eq_nil_iff.1 (by simpa using h)
    go_wp2_with (go_at_call 78;refine C.out.mono ?_;rintro e w1 ⟨rfl,hb1⟩;clear C;refine Hid.out ?_)
    have hM1:MapG w1 w.heap.size (vocF stmtWd (j-1)):=HM.out.same (hb1.block _ (HM.out.lt))
    obtain ⟨o,ho1,_,ho3⟩:=store under_86 Tryz.underlying9 hM1 HL.out (.int .u8 (j:Int))
    have hst:=ho1 w1 rfl
    have HO3:=hidI ho3
    have HB1:=hidI (HB.out.trans (hb1.mono hsz))
    have HM1:=hidI hM1
    clear ho1 ho3 hM1
    refine hidI ?_
    go_wp2_with (refine zcS (mv:=.map (some w.heap.size)) (kv:=.string s) (xv:=.int .u8 (j:Int)) rfl rfl rfl rfl rfl hst ?_;clear hst)
    go_roundg g
    case rel=>exact ⟨j+1,by omega,by omega,by go_num,hidI (zdH o HB1.out (Nat.le_refl _)),hidI (by rw [Nat.add_sub_cancel,HV1.out];exact HO3.out _ (put_same o HM1.out.lt))⟩
    case measure=>omega
theorem opWord_any2 (k:Nat) (_:1≤k) (h2:k≤19) (w:World):Calls Tryz.prog 87 #[.int .u8 (k:Int)] w fun e w'=>e=.returned (.string (opWd k))∧Below w.heap.size w w':=opWord_any k h2 w
theorem zero_87 (w:World):(zeroValue 124).run Tryz.prog w=.ok (.int .u8 0) w:=by kernel_rfl
theorem under_87:Tryz.prog.underlying 102=some (.map 9 124):=by kernel_rfl
theorem act_voc (w:World):Calls Tryz.prog 80 #[.int .u8 3,.func (.func 81) #[] #[]] w fun e w'=>∃ mb,e=.returned (.map (some mb))∧w.heap.size≤mb∧MapG w' mb (vocF actWd 3)∧Below w.heap.size w w':=by
 have hlen:∀ k,1≤k→k≤3→(actWd k).size≤maxLen:=by
  intro k h1 h2
  have hm:k=1∨k=2∨k=3:=by omega
  rcases hm with rfl|rfl|rfl<;>decide
 have HLEN:=hidI hlen
 clear hlen
 have hmm:=@run_makeMap Tryz.prog
 go_enter Tryz.func80,Tryz.ntmps80
 go_wp2
 go_loopg [6] 3 (fun g s6 wx=>∃ j:Nat,1≤j∧j+g=3+1∧s6=.int .u8 (j:Int)∧Hid (Below w.heap.size w wx)∧Hid (MapG wx w.heap.size (vocF actWd (j-1))))
 case atStart=>exact ⟨1,by omega,by omega,rfl,hidI (by exact belowT),hidI (zdB w)⟩
 case round=>
  obtain ⟨j,hj1,hig,rfl,HB,HM⟩:=hrel
  cases gk with
  | zero=>
   obtain rfl:j=3+1:=by omega
   go_wp2
   go_ret
   exact ⟨_,rfl,Nat.le_refl _,HM.out,HB.out⟩
  | succ g=>
   have k1:(j:Int)≤3:=by omega
   have C:=hidI (actW_any j hj1 (by omega) wr)
   have HL:=hidI (HLEN.out j hj1 (by omega))
   have hv:vocF actWd j=if actWd j=⟨#[]⟩ then vocF actWd (j-1) else upd (vocF actWd (j-1)) (actWd j) (.int .u8 (j:Int)):=by
    cases j with
    | zero=>omega
    | succ i=>rfl
   have HV:=hidI hv
   clear hv
   obtain ⟨s,hs⟩:∃ s,actWd j=s:=⟨_,rfl⟩
   rw [hs] at C HL HV
   clear hs
   have hsz:=HB.out.size
   by_cases he:s=⟨#[]⟩
   ·subst he
    have HV1:Hid (vocF actWd j=vocF actWd (j-1)):=hidI (by rw [HV.out,if_pos rfl])
    clear HV
    go_wp2_with (go_at_call 81;refine C.out.mono ?_;rintro e w1 ⟨rfl,hb1⟩;clear C)
    go_roundg g
    case rel=>exact ⟨j+1,by omega,by omega,by go_num,hidI (HB.out.trans (hb1.mono hsz)),hidI (by rw [Nat.add_sub_cancel,HV1.out];exact HM.out.same (hb1.block _ (HM.out.lt)))⟩
    case measure=>omega
   ·have HV1:Hid (vocF actWd j=upd (vocF actWd (j-1)) s (.int .u8 (j:Int))):=hidI (by rw [HV.out,if_neg he])
    clear HV
    have he2:(s.toList==[])=false:=by
     rw [beq_eq_false_iff_ne]
     intro h
     apply he
     rw [ByteArray.toList_eq] at h
     cases s with
     | mk d=>simp only [ByteArray.mk.injEq];exact Array.toList_eq_nil_iff.1 (by simpa using h)
    go_wp2_with (go_at_call 81;refine C.out.mono ?_;rintro e w1 ⟨rfl,hb1⟩;clear C;refine Hid.out ?_)
    have hM1:MapG w1 w.heap.size (vocF actWd (j-1)):=HM.out.same (hb1.block _ (HM.out.lt))
    obtain ⟨o,ho1,_,ho3⟩:=store under_87 Tryz.underlying9 hM1 HL.out (.int .u8 (j:Int))
    have hst:=ho1 w1 rfl
    have HO3:=hidI ho3
    have HB1:=hidI (HB.out.trans (hb1.mono hsz))
    have HM1:=hidI hM1
    clear ho1 ho3 hM1
    refine hidI ?_
    go_wp2_with (refine zcS (mv:=.map (some w.heap.size)) (kv:=.string s) (xv:=.int .u8 (j:Int)) rfl rfl rfl rfl rfl hst ?_;clear hst)
    go_roundg g
    case rel=>exact ⟨j+1,by omega,by omega,by go_num,hidI (zdH o HB1.out (Nat.le_refl _)),hidI (by rw [Nat.add_sub_cancel,HV1.out];exact HO3.out _ (put_same o HM1.out.lt))⟩
    case measure=>omega
theorem zero_88 (w:World):(zeroValue 158).run Tryz.prog w=.ok (.int .u8 0) w:=by kernel_rfl
theorem under_88:Tryz.prog.underlying 103=some (.map 9 158):=by kernel_rfl
theorem expr_voc (w:World):Calls Tryz.prog 83 #[.int .u8 10,.func (.func 84) #[] #[]] w fun e w'=>∃ mb,e=.returned (.map (some mb))∧w.heap.size≤mb∧MapG w' mb (vocF exprWd 10)∧Below w.heap.size w w':=by
 have hlen:∀ k,1≤k→k≤10→(exprWd k).size≤maxLen:=by
  intro k h1 h2
  have hm:k=1∨k=2∨k=3∨k=4∨k=5∨k=6∨k=7∨k=8∨k=9∨k=10:=by omega
  rcases hm with rfl|rfl|rfl|rfl|rfl|rfl|rfl|rfl|rfl|rfl<;>decide
 have HLEN:=hidI hlen
 clear hlen
 have hmm:=@run_makeMap Tryz.prog
 go_enter Tryz.func83,Tryz.ntmps83
 go_wp2
 go_loopg [6] 10 (fun g s6 wx=>∃ j:Nat,1≤j∧j+g=10+1∧s6=.int .u8 (j:Int)∧Hid (Below w.heap.size w wx)∧Hid (MapG wx w.heap.size (vocF exprWd (j-1))))
 case atStart=>exact ⟨1,by omega,by omega,rfl,hidI (by exact belowT),hidI (zdB w)⟩
 case round=>
  obtain ⟨j,hj1,hig,rfl,HB,HM⟩:=hrel
  cases gk with
  | zero=>
   obtain rfl:j=10+1:=by omega
   go_wp2
   go_ret
   exact ⟨_,rfl,Nat.le_refl _,HM.out,HB.out⟩
  | succ g=>
   have k1:(j:Int)≤10:=by omega
   have C:=hidI (exprW_any j hj1 (by omega) wr)
   have HL:=hidI (HLEN.out j hj1 (by omega))
   have hv:vocF exprWd j=if exprWd j=⟨#[]⟩ then vocF exprWd (j-1) else upd (vocF exprWd (j-1)) (exprWd j) (.int .u8 (j:Int)):=by
    cases j with
    | zero=>omega
    | succ i=>rfl
   have HV:=hidI hv
   clear hv
   obtain ⟨s,hs⟩:∃ s,exprWd j=s:=⟨_,rfl⟩
   rw [hs] at C HL HV
   clear hs
   have hsz:=HB.out.size
   by_cases he:s=⟨#[]⟩
   ·subst he
    have HV1:Hid (vocF exprWd j=vocF exprWd (j-1)):=hidI (by rw [HV.out,if_pos rfl])
    clear HV
    go_wp2_with (go_at_call 84;refine C.out.mono ?_;rintro e w1 ⟨rfl,hb1⟩;clear C)
    go_roundg g
    case rel=>exact ⟨j+1,by omega,by omega,by go_num,hidI (HB.out.trans (hb1.mono hsz)),hidI (by rw [Nat.add_sub_cancel,HV1.out];exact HM.out.same (hb1.block _ (HM.out.lt)))⟩
    case measure=>omega
   ·have HV1:Hid (vocF exprWd j=upd (vocF exprWd (j-1)) s (.int .u8 (j:Int))):=hidI (by rw [HV.out,if_neg he])
    clear HV
    have he2:(s.toList==[])=false:=by
     rw [beq_eq_false_iff_ne]
     intro h
     apply he
     rw [ByteArray.toList_eq] at h
     cases s with
     | mk d=>simp only [ByteArray.mk.injEq];exact Array.toList_eq_nil_iff.1 (by simpa using h)
    go_wp2_with (go_at_call 84;refine C.out.mono ?_;rintro e w1 ⟨rfl,hb1⟩;clear C;refine Hid.out ?_)
    have hM1:MapG w1 w.heap.size (vocF exprWd (j-1)):=HM.out.same (hb1.block _ (HM.out.lt))
    obtain ⟨o,ho1,_,ho3⟩:=store under_88 Tryz.underlying9 hM1 HL.out (.int .u8 (j:Int))
    have hst:=ho1 w1 rfl
    have HO3:=hidI ho3
    have HB1:=hidI (HB.out.trans (hb1.mono hsz))
    have HM1:=hidI hM1
    clear ho1 ho3 hM1
    refine hidI ?_
    go_wp2_with (refine zcS (mv:=.map (some w.heap.size)) (kv:=.string s) (xv:=.int .u8 (j:Int)) rfl rfl rfl rfl rfl hst ?_;clear hst)
    go_roundg g
    case rel=>exact ⟨j+1,by omega,by omega,by go_num,hidI (zdH o HB1.out (Nat.le_refl _)),hidI (by rw [Nat.add_sub_cancel,HV1.out];exact HO3.out _ (put_same o HM1.out.lt))⟩
    case measure=>omega
theorem zero_89 (w:World):(zeroValue 75).run Tryz.prog w=.ok (.int .u8 0) w:=by kernel_rfl
theorem under_89:Tryz.prog.underlying 104=some (.map 9 75):=by kernel_rfl
theorem op_voc (w:World):Calls Tryz.prog 86 #[.int .u8 19,.func (.func 87) #[] #[]] w fun e w'=>∃ mb,e=.returned (.map (some mb))∧w.heap.size≤mb∧MapG w' mb (vocF opWd 19)∧Below w.heap.size w w':=by
 have hlen:∀ k,1≤k→k≤19→(opWd k).size≤maxLen:=by
  intro k h1 h2
  have hm:k=1∨k=2∨k=3∨k=4∨k=5∨k=6∨k=7∨k=8∨k=9∨k=10∨k=11∨k=12∨k=13∨k=14∨k=15∨k=16∨k=17∨k=18∨k=19:=by omega
  rcases hm with rfl|rfl|rfl|rfl|rfl|rfl|rfl|rfl|rfl|rfl|rfl|rfl|rfl|rfl|rfl|rfl|rfl|rfl|rfl<;>decide
 have HLEN:=hidI hlen
 clear hlen
 have hmm:=@run_makeMap Tryz.prog
 go_enter Tryz.func86,Tryz.ntmps86
 go_wp2
 go_loopg [6] 19 (fun g s6 wx=>∃ j:Nat,1≤j∧j+g=19+1∧s6=.int .u8 (j:Int)∧Hid (Below w.heap.size w wx)∧Hid (MapG wx w.heap.size (vocF opWd (j-1))))
 case atStart=>exact ⟨1,by omega,by omega,rfl,hidI (by exact belowT),hidI (zdB w)⟩
 case round=>
  obtain ⟨j,hj1,hig,rfl,HB,HM⟩:=hrel
  cases gk with
  | zero=>
   obtain rfl:j=19+1:=by omega
   go_wp2
   go_ret
   exact ⟨_,rfl,Nat.le_refl _,HM.out,HB.out⟩
  | succ g=>
   have k1:(j:Int)≤19:=by omega
   have C:=hidI (opWord_any2 j hj1 (by omega) wr)
   have HL:=hidI (HLEN.out j hj1 (by omega))
   have hv:vocF opWd j=if opWd j=⟨#[]⟩ then vocF opWd (j-1) else upd (vocF opWd (j-1)) (opWd j) (.int .u8 (j:Int)):=by
    cases j with
    | zero=>omega
    | succ i=>rfl
   have HV:=hidI hv
   clear hv
   obtain ⟨s,hs⟩:∃ s,opWd j=s:=⟨_,rfl⟩
   rw [hs] at C HL HV
   clear hs
   have hsz:=HB.out.size
   by_cases he:s=⟨#[]⟩
   ·subst he
    have HV1:Hid (vocF opWd j=vocF opWd (j-1)):=hidI (by rw [HV.out,if_pos rfl])
    clear HV
    go_wp2_with (go_at_call 87;refine C.out.mono ?_;rintro e w1 ⟨rfl,hb1⟩;clear C)
    go_roundg g
    case rel=>exact ⟨j+1,by omega,by omega,by go_num,hidI (HB.out.trans (hb1.mono hsz)),hidI (by rw [Nat.add_sub_cancel,HV1.out];exact HM.out.same (hb1.block _ (HM.out.lt)))⟩
    case measure=>omega
   ·have HV1:Hid (vocF opWd j=upd (vocF opWd (j-1)) s (.int .u8 (j:Int))):=hidI (by rw [HV.out,if_neg he])
    clear HV
    have he2:(s.toList==[])=false:=by
     rw [beq_eq_false_iff_ne]
     intro h
     apply he
     rw [ByteArray.toList_eq] at h
     cases s with
     | mk d=>simp only [ByteArray.mk.injEq];exact Array.toList_eq_nil_iff.1 (by simpa using h)
    go_wp2_with (go_at_call 87;refine C.out.mono ?_;rintro e w1 ⟨rfl,hb1⟩;clear C;refine Hid.out ?_)
    have hM1:MapG w1 w.heap.size (vocF opWd (j-1)):=HM.out.same (hb1.block _ (HM.out.lt))
    obtain ⟨o,ho1,_,ho3⟩:=store under_89 Tryz.underlying9 hM1 HL.out (.int .u8 (j:Int))
    have hst:=ho1 w1 rfl
    have HO3:=hidI ho3
    have HB1:=hidI (HB.out.trans (hb1.mono hsz))
    have HM1:=hidI hM1
    clear ho1 ho3 hM1
    refine hidI ?_
    go_wp2_with (refine zcS (mv:=.map (some w.heap.size)) (kv:=.string s) (xv:=.int .u8 (j:Int)) rfl rfl rfl rfl rfl hst ?_;clear hst)
    go_roundg g
    case rel=>exact ⟨j+1,by omega,by omega,by go_num,hidI (zdH o HB1.out (Nat.le_refl _)),hidI (by rw [Nat.add_sub_cancel,HV1.out];exact HO3.out _ (put_same o HM1.out.lt))⟩
    case measure=>omega
open Go.RowKit Go.Deep Go.MapKept
@[go_sem] def opsVN:Nat→Oper
 | 0=>⟨some 18,.fieldAddr 106 (.tmp 1) 0,0, "words.go:149",#[],none⟩
 | 1=>⟨some 19,.load 100 (.tmp 18),100, "words.go:149",#[⟨0,.data⟩],none⟩
 | 2=>⟨some 20,.move (.tmp 2),23, "words.go:149",#[],none⟩
 | 3=>⟨some 21,.move (.tmp 3),33, "words.go:149",#[],none⟩
 | 4=>⟨some 22,.call ⟨.value (.func 88),#[.tmp 20,.tmp 21],#[23,33]⟩,151, "words.go:149",#[⟨2,.data⟩,⟨3,.data⟩],none⟩
 | 5=>⟨some 23,.field 151 (.tmp 22) 0,9, "words.go:149",#[⟨4,.data⟩],none⟩
 | 6=>⟨some 24,.move (.tmp 2),23, "words.go:149",#[],none⟩
 | 7=>⟨some 25,.move (.tmp 3),33, "words.go:149",#[],none⟩
 | 8=>⟨some 26,.build 56 #[(1,.tmp 24),(2,.tmp 25)],56, "words.go:149",#[⟨6,.data⟩,⟨7,.data⟩],none⟩
 | _=>⟨none,.mapUpdate 100 (.tmp 19) (.tmp 23) (.tmp 26),0, "words.go:149",#[⟨1,.data⟩,⟨5,.data⟩,⟨8,.data⟩,⟨4,.chain⟩,⟨0,.phase⟩,⟨1,.phase⟩,⟨2,.phase⟩,⟨3,.phase⟩,⟨4,.phase⟩,⟨5,.phase⟩,⟨6,.phase⟩,⟨7,.phase⟩,⟨8,.phase⟩],none⟩
def opsV:Array Oper:=opsA opsVN 9
theorem opsV_0:opsV[0]?=some (opsVN 0):=zaA opsVN 9 (by decide)
theorem opsV_1:opsV[1]?=some (opsVN 1):=zaA opsVN 9 (by decide)
theorem opsV_2:opsV[2]?=some (opsVN 2):=zaA opsVN 9 (by decide)
theorem opsV_3:opsV[3]?=some (opsVN 3):=zaA opsVN 9 (by decide)
theorem opsV_4:opsV[4]?=some (opsVN 4):=zaA opsVN 9 (by decide)
theorem opsV_5:opsV[5]?=some (opsVN 5):=zaA opsVN 9 (by decide)
theorem opsV_6:opsV[6]?=some (opsVN 6):=zaA opsVN 9 (by decide)
theorem opsV_7:opsV[7]?=some (opsVN 7):=zaA opsVN 9 (by decide)
theorem opsV_8:opsV[8]?=some (opsVN 8):=zaA opsVN 9 (by decide)
theorem opsV_9:opsV[9]?=some (opsVN 9):=zaA opsVN 9 (by decide)
set_option maxRecDepth 100000 in
set_option maxHeartbeats 1500000 in
theorem regV {x0 x4 x5 x6 x7 x8 x9 x10 x11 x12 x13 x14 x15 x16 x17 x18 x19 x20 x21 x22 x23 x24 x25 x26 x27:Value} {Q:Exit→Act→World→Prop} {V0:World} {vb mb:Nat} {sd kd:Int} {s p:ByteArray}
  (hS0:V0.drew.cell? ⟨vb,0,none⟩=some (.map (some mb)))
  (hC:∀ W,Calls Tryz.prog 88 #[.int .u8 sd,.int .u8 kd] W (ShPost W s p))
  (hU:∀ W,Below V0.drew.heap.size V0.drew W→∃ W',(Instr.mapUpdate 100 (.map (some mb)) (.string s) (.agg #[.string ⟨#[]⟩,.int .u8 sd,.int .u8 kd])).run Tryz.prog W=.ok () W')
  (hpan:∀ c (a:Act) w (dd:Tmp) vv,Q (.panic c) (a.put (some dd) vv) w→Q (.panic c) a w)
  (hQ:∀ (W W':World) (t18 t19 t20 t21 t22 t23 t24 t25 t26:Value),Below V0.drew.heap.size V0.drew W→(Instr.mapUpdate 100 (.map (some mb)) (.string s) (.agg #[.string ⟨#[]⟩,.int .u8 sd,.int .u8 kd])).run Tryz.prog W=.ok () W'→Q .normal { tmps:=#[x0,.pointer (some ⟨vb,0,none⟩),.int .u8 sd,.int .u8 kd,x4,x5,x6,x7,x8,x9,x10,x11,x12,x13,x14,x15,x16,x17,t18,t19,t20,t21,t22,t23,t24,t25,t26,x27],defers:=[] } W') :
  (Code.region 8 opsV true).wp Tryz.prog Q { tmps:=#[x0,.pointer (some ⟨vb,0,none⟩),.int .u8 sd,.int .u8 kd,x4,x5,x6,x7,x8,x9,x10,x11,x12,x13,x14,x15,x16,x17,x18,x19,x20,x21,x22,x23,x24,x25,x26,x27],defers:=[] } V0:=by
 refine zbE (fun y=>y.cell? ⟨vb,0,none⟩=some (.map (some mb))) 9 Tryz.mixed ?_
 obtain ⟨V,hV⟩:∃ V,V0.drew=V:=⟨_,rfl⟩
 rw [hV] at hS0 hU hQ ⊢
 clear hV
 have HQ:=hidI hQ
 have HPan:=hidI hpan
 have HC:=hidI hC
 have HU:=hidI hU
 have hf:=field126 s p
 clear hQ hpan hC hU
 refine zaF [1,9] (i:=0) (v:=(.pointer (some ⟨vb,0,none⟩))) opsV_0 HPan.out hS0 (fun y hy => ?_) ?_
 ·go_simp
 refine zaF [9] (i:=1) (v:=(.map (some mb))) opsV_1 HPan.out hS0 (fun y hy => ?_) ?_
 ·go_simp
 refine zaF [4,5,9] (i:=2) (v:=(.int .u8 sd)) opsV_2 HPan.out hS0 (fun y hy => ?_) ?_
 ·go_simp
 refine zaF [4,5,9] (i:=3) (v:=(.int .u8 kd)) opsV_3 HPan.out hS0 (fun y hy => ?_) ?_
 ·go_simp
 refine zaF [8,9] (i:=6) (v:=(.int .u8 sd)) opsV_6 HPan.out hS0 (fun y hy => ?_) ?_
 ·go_simp
 refine zaF [8,9] (i:=7) (v:=(.int .u8 kd)) opsV_7 HPan.out hS0 (fun y hy => ?_) ?_
 ·go_simp
 refine zaF [9] (i:=8) (v:=(.agg #[.string ⟨#[]⟩,.int .u8 sd,.int .u8 kd])) opsV_8 HPan.out hS0 (fun y hy => ?_) ?_
 ·go_simp
 have HKS:Hid (∀ y:World,Below V.heap.size V y→y.cell? ⟨vb,0,none⟩=some (.map (some mb))):=hidI fun y hy=>(hy.cell (World.block_lt_of_cell? V _ hS0)).trans hS0
 refine zbB (rs:=[4]) (by kernel_rfl) (by simp) fun j4 hj4 => ?_
 obtain rfl:j4=4:=by simpa using hj4
 refine zaN opsV_4 rfl fun K1 hK1 => ?_
 unfold Oper.wp
 go_simp
 refine Calls.mono (HC.out V) ?_
 intro e W1 h1
 obtain ⟨rfl,hb1⟩:=h1
 have HB1:=hidI hb1
 have hS1:=HKS.out W1 hb1
 obtain ⟨W2,hrun⟩:=HU.out W1 hb1
 have HRun:=hidI hrun
 clear hb1
 refine hK1 _ _ ⟨fun _=>hS1,?_⟩
 clear hK1 K1
 refine zbB (rs:=[5]) (by kernel_rfl) (by simp) fun j5 hj5 => ?_
 obtain rfl:j5=5:=by simpa using hj5
 refine zaN opsV_5 rfl fun K1 hK1 => ?_
 unfold Oper.wp
 go_simp
 refine hK1 _ _ ⟨fun _=>hS1,?_⟩
 clear hK1 K1
 refine zbN (by kernel_rfl) (by kernel_rfl) ?_ _
 refine zaN opsV_9 rfl fun K1 hK1 => ?_
 unfold Oper.wp
 go_simp
 refine hK1 _ _ ?_
 exact HQ.out W1 W2 _ _ _ _ _ _ _ _ _ HB1.out HRun.out
open Go.RowKit Go.Deep Go.MapKept Go.WideMaps Go.WideShapes
open Go.ChangeMaps (setBlock)
def dWd:Nat→ByteArray
 | 0=>⟨#[105,110,116]⟩
 | 1=>⟨#[98,111,111,108]⟩
 | 2=>⟨#[110,105,110,116]⟩
 | 3=>⟨#[110,98,111,111,108]⟩
 | 4=>⟨#[101,105,110,116]⟩
 | 5=>⟨#[101,98,111,111,108]⟩
 | _=>⟨#[]⟩
def dDc (m:Nat):Value:=.agg #[.string ⟨#[]⟩,.int .u8 ((m / 2+1:Nat):Int),.int .u8 ((m % 2+1:Nat):Int)]
def decF:Nat→Fn
 | 0=>fun _=>none
 | m+1=>upd (decF m) (dWd m) (dDc m)
theorem declSh_any (j k:Nat) (h1:1≤j) (h2:j≤3) (h3:1≤k) (h4:k≤2) (w:World):Calls Tryz.prog 88 #[.int .u8 (j:Int),.int .u8 (k:Int)] w (ShPost w (dWd ((j-1)*2+(k-1))) ⟨#[110]⟩):=by
 have hj:j=1∨j=2∨j=3:=by omega
 have hk:k=1∨k=2:=by omega
 rcases hj with rfl|rfl|rfl<;>rcases hk with rfl|rfl
 ·exact declSh11 w
 ·exact declSh12 w
 ·exact declSh21 w
 ·exact declSh22 w
 ·exact declSh31 w
 ·exact declSh32 w
theorem under_85:Tryz.prog.underlying 100=some (.map 9 56):=by kernel_rfl
theorem zero_85 (w:World):(zeroValue 56).run Tryz.prog w=.ok (.agg #[.string ⟨#[]⟩,.int .u8 0,.int .u8 0]) w:=by kernel_rfl
structure Voc where
 d:Nat
 s:Nat
 a:Nat
 x:Nat
 o:Nat
def Voc.vals (v:Voc):List Value:=[.map (some v.d),.map (some v.s),.map (some v.a),.map (some v.x),.map (some v.o)]
structure IsVoc (w:World) (v:Voc) (f:Fn):Prop where
 d:MapG w v.d f
 s:MapG w v.s (vocF stmtWd 7)
 a:MapG w v.a (vocF actWd 3)
 x:MapG w v.x (vocF exprWd 10)
 o:MapG w v.o (vocF opWd 19)
theorem IsVoc.below {w w':World} {v:Voc} {f:Fn} (h:IsVoc w v f) {B:Nat} (hb:Below B w w') (h1:v.d<B) (h2:v.s<B) (h3:v.a<B) (h4:v.x<B) (h5:v.o<B):IsVoc w' v f:=
 ⟨h.d.same (hb.block _ h1),h.s.same (hb.block _ h2),h.a.same (hb.block _ h3),h.x.same (hb.block _ h4),h.o.same (hb.block _ h5)⟩
theorem IsVoc.on {w w':World} {v:Voc} {f:Fn} (h:IsVoc w v f) (hb:Below w.heap.size w w'):IsVoc w' v f:=h.below hb h.d.lt h.s.lt h.a.lt h.x.lt h.o.lt
structure VW (w:World) (vb:Nat) (v:Voc) (m:Nat) (wx:World):Prop where
 below:Below w.heap.size w wx
 voc:IsVoc wx v (decF m)
 from_:w.heap.size≤v.d∧w.heap.size≤vb
 apart:v.s≠v.d∧v.a≠v.d∧v.x≠v.d∧v.o≠v.d∧vb≠v.d
 c0:wx.cell? ⟨vb,0,none⟩=some (.map (some v.d))
 c1:wx.cell? ⟨vb,1,none⟩=some (.map (some v.s))
 c2:wx.cell? ⟨vb,2,none⟩=some (.map (some v.a))
 c3:wx.cell? ⟨vb,3,none⟩=some (.map (some v.x))
 c4:wx.cell? ⟨vb,4,none⟩=some (.map (some v.o))
theorem VW.on {w wx wy:World} {vb m:Nat} {v:Voc} (h:VW w vb v m wx) (hb:Below wx.heap.size wx wy):VW w vb v m wy:=by
 have z:∀ {p:Addr} {u:Value},wx.cell? p=some u→wy.cell? p=some u:=fun {p u} hc=>(hb.cell (World.block_lt_of_cell? wx _ hc)).trans hc
 exact ⟨h.below.trans (hb.mono h.below.size),h.voc.on hb,h.from_,h.apart,z h.c0,z h.c1,z h.c2,z h.c3,z h.c4⟩
theorem VW.put {w wx:World} {vb m:Nat} {v:Voc} (h:VW w vb v m wx) {o:Obj} (ho:∀ u:World,u.heap[v.d]?=some o→MapG u v.d (upd (decF m) (dWd m) (dDc m))):VW w vb v (m+1) (setBlock wx v.d o):=by
 have z:∀ {j:Nat} {u:Value},wx.cell? ⟨vb,j,none⟩=some u→(setBlock wx v.d o).cell? ⟨vb,j,none⟩=some u:=fun {j u} hc=>(World.cell?_of_block (w:=wx) (zcQ o h.apart.2.2.2.2)).trans hc
 exact ⟨zdH o h.below h.from_.1,⟨ho _ (put_same o h.voc.d.lt),h.voc.s.same (zcQ o h.apart.1),h.voc.a.same (zcQ o h.apart.2.1),h.voc.x.same (zcQ o h.apart.2.2.1),h.voc.o.same (zcQ o h.apart.2.2.2.1)⟩,h.from_,h.apart,z h.c0,z h.c1,z h.c2,z h.c3,z h.c4⟩
theorem vw_start {w w4 wx:World} {v:Voc} (hb:Below w.heap.size w w4) (hv:IsVoc w4 v (decF 0)) (hf:w.heap.size≤v.d) (hne:v.s≠v.d∧v.a≠v.d∧v.x≠v.d∧v.o≠v.d∧w4.heap.size≠v.d) (h:Below w4.heap.size w4 wx)
  (c0:wx.cell? ⟨w4.heap.size,0,none⟩=some (.map (some v.d))) (c1:wx.cell? ⟨w4.heap.size,1,none⟩=some (.map (some v.s))) (c2:wx.cell? ⟨w4.heap.size,2,none⟩=some (.map (some v.a))) (c3:wx.cell? ⟨w4.heap.size,3,none⟩=some (.map (some v.x))) (c4:wx.cell? ⟨w4.heap.size,4,none⟩=some (.map (some v.o))):VW w w4.heap.size v 0 wx:=
 ⟨hb.trans (h.mono hb.size),hv.on h,⟨hf,hb.size⟩,hne,c0,c1,c2,c3,c4⟩
theorem IsVoc.setc {w:World} {v:Voc} {f:Fn} (h:IsVoc w v f) {g j:Nat} {u:Value} (h1:v.d≠g) (h2:v.s≠g) (h3:v.a≠g) (h4:v.x≠g) (h5:v.o≠g):IsVoc (w.setCell ⟨g,j,none⟩ u) v f:=
 ⟨h.d.same (Below.heap_setCell w ⟨g,j,none⟩ u _ h1),h.s.same (Below.heap_setCell w ⟨g,j,none⟩ u _ h2),h.a.same (Below.heap_setCell w ⟨g,j,none⟩ u _ h3),h.x.same (Below.heap_setCell w ⟨g,j,none⟩ u _ h4),h.o.same (Below.heap_setCell w ⟨g,j,none⟩ u _ h5)⟩
structure RB5 (b:Nat) (wx:World):Prop where
 cell:∀ j,j<5→wx.cell? ⟨b,j,none⟩=some (.map none)
 free:∀ j,wx.frozen? ⟨b,j,none⟩=false
theorem RB5.lt {b:Nat} {wx:World} (h:RB5 b wx):b<wx.heap.size:=World.block_lt_of_cell? wx _ (h.cell 0 (by omega))
theorem RB5.same {b:Nat} {wx wy:World} (h:RB5 b wx) (e:wy.heap[b]?=wx.heap[b]?):RB5 b wy:=
 ⟨fun j hj=>(World.cell?_of_block (w:=wx) (a:=⟨b,j,none⟩) e).trans (h.cell j hj),fun j=>(World.frozen?_of_block (w:=wx) (a:=⟨b,j,none⟩) e).trans (h.free j)⟩
theorem RB5.on {b:Nat} {wx wy:World} (h:RB5 b wx) (hb:Below wx.heap.size wx wy):RB5 b wy:=h.same (hb.block b h.lt)
def WordsPost (w:World) (e:Ending) (w':World):Prop:=∃ v:Voc,e=.returned (.agg v.vals.toArray)∧IsVoc w' v (decF 6)∧Below w.heap.size w w'
set_option maxHeartbeats 2000000 in
theorem words_any (w:World):Calls Tryz.prog 47 #[] w (WordsPost w):=by
 have C1:=hidI (fun u=>stmt_voc u)
 have C2:=hidI (fun u=>act_voc u)
 have C3:=hidI (fun u=>expr_voc u)
 have C4:=hidI (fun u=>op_voc u)
 have hmm:=@run_makeMap Tryz.prog
 go_enter Tryz.func47,Tryz.ntmps47
 go_wp2_with (first
  | (go_at_call 77;refine Calls.mono (C1.out _) ?_;rintro e w1 ⟨m1,rfl,hm1,hM1,hb1⟩;clear C1)
  | (go_at_call 80;refine Calls.mono (C2.out _) ?_;rintro e w2 ⟨m2,rfl,hm2,hM2,hb2⟩;clear C2)
  | (go_at_call 83;refine Calls.mono (C3.out _) ?_;rintro e w3 ⟨m3,rfl,hm3,hM3,hb3⟩;clear C3)
  | (go_at_call 86;refine Calls.mono (C4.out _) ?_;rintro e w4 ⟨m4,rfl,hm4,hM4,hb4⟩;clear C4;refine Hid.out ?_))
 have hz0:w.heap.size+1+1≤m1:=by simpa using hm1
 have hs1:=hb1.size
 have hs2:=hb2.size
 have hs3:=hb3.size
 have hs4:=hb4.size
 simp only [World.size_alloc] at hs1 hb1 hm1
 have hl1:=hM1.lt
 have hl2:=hM2.lt
 have hl3:=hM3.lt
 have hl4:=hM4.lt
 have hd0:=zdB (w.alloc (.cells #[.map none,.map none,.map none,.map none,.map none] 106))
 simp only [World.size_alloc] at hd0
 have hd4:MapG w4 (w.heap.size+1) (decF 0):=(((MapG.same hd0 (hb1.block _ (by omega))).same (hb2.block _ (by omega))).same (hb3.block _ (by omega))).same (hb4.block _ (by omega))
 have hV4:IsVoc w4 ⟨w.heap.size+1,m1,m2,m3,m4⟩ (decF 0):=
  ⟨hd4,((hM1.same (hb2.block _ (by omega))).same (hb3.block _ (by omega))).same (hb4.block _ (by omega)),(hM2.same (hb3.block _ (by omega))).same (hb4.block _ (by omega)),hM3.same (hb4.block _ (by omega)),hM4⟩
 have hB0:Below w.heap.size w ((w.alloc (.cells #[.map none,.map none,.map none,.map none,.map none] 106)).alloc (.map #[] 0)):=by exact belowT
 have hB4:Below w.heap.size w w4:=(((hB0.trans (hb1.mono (by omega))).trans (hb2.mono (by omega))).trans (hb3.mono (by omega))).trans (hb4.mono (by omega))
 have hr4:∀ j,j<5→w4.cell? ⟨w.heap.size,j,none⟩=some (.map none):=by
  have z:∀ {p:Addr} {u:Value},((w.alloc (.cells #[.map none,.map none,.map none,.map none,.map none] 106)).alloc (.map #[] 0)).cell? p=some u→w4.cell? p=some u:=fun {p u} hc=>by
   have hlt:=World.block_lt_of_cell? _ _ hc
   simp only [World.size_alloc] at hlt
   exact (World.cell?_of_block (((hb4.block p.block (by omega)).trans (hb3.block p.block (by omega))).trans ((hb2.block p.block (by omega)).trans (hb1.block p.block (by omega))))).trans hc
  intro j hj
  apply z
  have hm:j=0∨j=1∨j=2∨j=3∨j=4:=by omega
  rcases hm with rfl|rfl|rfl|rfl|rfl<;>go_simp
 have hf4:∀ j,w4.frozen? ⟨w.heap.size,j,none⟩=false:=by
  intro j
  refine (World.frozen?_of_block (w:=(w.alloc (.cells #[.map none,.map none,.map none,.map none,.map none] 106)).alloc (.map #[] 0)) (a:=⟨w.heap.size,j,none⟩) (((hb4.block w.heap.size (by omega)).trans (hb3.block w.heap.size (by omega))).trans ((hb2.block w.heap.size (by omega)).trans (hb1.block w.heap.size (by omega))))).trans ?_
  go_simp
 have hlt4:w.heap.size<w4.heap.size:=by omega
 have HV4:=hidI hV4
 have HB4:=hidI hB4
 have HR4:Hid (RB5 w.heap.size w4):=hidI ⟨hr4,hf4⟩
 have hn0:m1≠w.heap.size∧m2≠w.heap.size∧m3≠w.heap.size∧m4≠w.heap.size:=by omega
 have HN0:=hidI hn0
 clear hn0
 have hne:m1≠w.heap.size+1∧m2≠w.heap.size+1∧m3≠w.heap.size+1∧m4≠w.heap.size+1∧w4.heap.size≠w.heap.size+1:=by omega
 have HNE:=hidI hne
 clear hne hV4 hB4 hr4 hd4 hd0 hb1 hb2 hb3 hb4 hM1 hM2 hM3 hM4 hm1 hm2 hm3 hm4 hs1 hs2 hs3 hs4 hl1 hl2 hl3 hl4 hz0 hB0 hf4
 refine hidI ?_
 go_wp2
 go_loopg [2] 3 (fun g s2 wx=>∃ j:Nat,1≤j∧j+g=4∧s2=.int .u8 (j:Int)∧Hid (VW w w4.heap.size ⟨w.heap.size+1,m1,m2,m3,m4⟩ ((j-1)*2) wx)∧Hid (RB5 w.heap.size wx))
 case atStart=>
  refine ⟨1,by omega,by omega,rfl,hidI (vw_start HB4.out HV4.out (by simp) HNE.out (by exact belowT) ?_ ?_ ?_ ?_ ?_),hidI (HR4.out.on (by exact belowT))⟩
  all_goals go_simp
 case round=>
  obtain ⟨j,hj1,hig,rfl,HVW,HRB⟩:=hrel
  clear HV4 HB4 HR4
  cases gk with
  | zero=>
   obtain rfl:j=4:=by omega
   have c0:=HVW.out.c0
   have c1:=HVW.out.c1
   have c2:=HVW.out.c2
   have c3:=HVW.out.c3
   have c4:=HVW.out.c4
   have r0:=HRB.out.cell 0 (by omega)
   have r1:=HRB.out.cell 1 (by omega)
   have r2:=HRB.out.cell 2 (by omega)
   have r3:=HRB.out.cell 3 (by omega)
   have r4:=HRB.out.cell 4 (by omega)
   have f0:=HRB.out.free 0
   have f1:=HRB.out.free 1
   have f2:=HRB.out.free 2
   have f3:=HRB.out.free 3
   have f4:=HRB.out.free 4
   have HBL:=hidI HVW.out.below
   have HVC:Hid (IsVoc wr ⟨w.heap.size+1,m1,m2,m3,m4⟩ (decF 6)):=hidI HVW.out.voc
   go_wp2
   refine bodyPost_ret (v:=.agg #[.map (some (w.heap.size+1)),.map (some m1),.map (some m2),.map (some m3),.map (some m4)]) ?_ rfl ⟨⟨w.heap.size+1,m1,m2,m3,m4⟩,rfl,?_,?_⟩
   ·rw [zaC rfl]
    go_simp
   ·obtain ⟨n1,n2,n3,n4⟩:=HN0.out
    have n0:w.heap.size+1≠w.heap.size:=by omega
    exact ((((HVC.out.setc n0 n1 n2 n3 n4).setc n0 n1 n2 n3 n4).setc n0 n1 n2 n3 n4).setc n0 n1 n2 n3 n4).setc n0 n1 n2 n3 n4
   ·exact ((((HBL.out.setCell (Nat.le_refl _) _).setCell (Nat.le_refl _) _).setCell (Nat.le_refl _) _).setCell (Nat.le_refl _) _).setCell (Nat.le_refl _) _
  | succ g=>
   have k1:(j:Int)≤3:=by omega
   go_wp2
   go_loopg [3] 2 (fun g s3 wx=>∃ k:Nat,1≤k∧k+g=3∧s3=.int .u8 (k:Int)∧Hid (VW w w4.heap.size ⟨w.heap.size+1,m1,m2,m3,m4⟩ ((j-1)*2+(k-1)) wx)∧Hid (RB5 w.heap.size wx))
   case atStart=>exact ⟨1,by omega,by omega,rfl,hidI HVW.out,HRB⟩
   case round=>
    obtain ⟨k,hk1,hkg,rfl,HVW2,HRB2⟩:=hrel
    clear HVW HRB
    cases gk with
    | zero=>
     obtain rfl:k=3:=by omega
     have HVW3:Hid (VW w w4.heap.size ⟨w.heap.size+1,m1,m2,m3,m4⟩ ((j+1-1)*2) wr):=hidI (by have:=HVW2.out;rwa [show (j-1)*2+(3-1)=(j+1-1)*2 by omega] at this)
     clear HVW2
     go_wp2
     go_roundg g
     case measure=>omega
     case rel=>exact ⟨j+1,by omega,by omega,by go_num,HVW3,HRB2⟩
    | succ g2=>
     have k2:(k:Int)≤2:=by omega
     have HC:=hidI (declSh_any j k hj1 (by omega) hk1 (by omega))
     have HM:Hid ((j-1)*2+(k+1-1)=(j-1)*2+(k-1)+1):=hidI (by omega)
     have HD:Hid (dDc ((j-1)*2+(k-1))=.agg #[.string ⟨#[]⟩,.int .u8 (j:Int),.int .u8 (k:Int)]):=hidI (by
      unfold dDc
      rw [show ((j-1)*2+(k-1)) / 2+1=j by omega,show ((j-1)*2+(k-1)) % 2+1=k by omega])
     have HS:Hid ((dWd ((j-1)*2+(k-1))).size≤maxLen):=hidI (by
      have hm:(j-1)*2+(k-1)=0∨(j-1)*2+(k-1)=1∨(j-1)*2+(k-1)=2∨(j-1)*2+(k-1)=3∨(j-1)*2+(k-1)=4∨(j-1)*2+(k-1)=5:=by omega
      rcases hm with h|h|h|h|h|h<;>rw [h]<;>decide)
     go_wp2
     refine regV (vb:=w4.heap.size) (mb:=w.heap.size+1) HVW2.out.c0 HC.out ?_ (fun _ _ _ _ _ h=>h) ?_
     ·intro W hW
      obtain ⟨o,ho1,_,_⟩:=store under_85 Tryz.underlying9 (HVW2.out.voc.d.same (hW.block _ HVW2.out.voc.d.lt)) HS.out (dDc ((j-1)*2+(k-1)))
      have:=ho1 W rfl
      rw [HD.out] at this
      exact ⟨_,this⟩
     ·intro W W' t18 t19 t20 t21 t22 t23 t24 t25 t26 hW hr
      obtain ⟨o,ho1,_,ho3⟩:=store under_85 Tryz.underlying9 (HVW2.out.voc.d.same (hW.block _ HVW2.out.voc.d.lt)) HS.out (dDc ((j-1)*2+(k-1)))
      have h1:=ho1 W rfl
      have hW':Below wr.heap.size wr W:=⟨hW.os,hW.tape,hW.output,hW.size,hW.block⟩
      rw [HD.out] at h1
      have h2:W'=setBlock W (w.heap.size+1) o:=by
       have:=hr.symm.trans h1
       simpa using this
      have HVW4:Hid (VW w w4.heap.size ⟨w.heap.size+1,m1,m2,m3,m4⟩ ((j-1)*2+(k+1-1)) W'):=hidI (by
       rw [h2,HM.out]
       exact (HVW2.out.on hW').put ho3)
      have HRB4:Hid (RB5 w.heap.size W'):=hidI (by
       rw [h2]
       exact (HRB2.out.on hW').same (zcQ o (by omega)))
      clear h1 h2 hr ho1 ho3 hW hW' HVW2 HRB2 HC HD HS HM
      go_wp2
      go_roundg g2
      case measure=>omega
      case rel=>exact ⟨k+1,by omega,by omega,by go_num,HVW4,HRB4⟩
def vw (n:Nat):Option Value:=if n=0 then none else some (.int .u8 (n:Int))
theorem voc_stmt (s:ByteArray):vocF stmtWd 7 s=vw (stmtOf s):=by
 by_cases h0:s=(⟨#[115,101,116]⟩:ByteArray)
 ·subst h0;kernel_rfl
 by_cases h1:s=(⟨#[102,111,108,100]⟩:ByteArray)
 ·subst h1;kernel_rfl
 by_cases h2:s=(⟨#[101,97,99,104]⟩:ByteArray)
 ·subst h2;kernel_rfl
 by_cases h3:s=(⟨#[105,102]⟩:ByteArray)
 ·subst h3;kernel_rfl
 by_cases h4:s=(⟨#[119,104,105,108,101]⟩:ByteArray)
 ·subst h4;kernel_rfl
 by_cases h5:s=(⟨#[108,111,111,112]⟩:ByteArray)
 ·subst h5;kernel_rfl
 by_cases h6:s=(⟨#[98,102,115]⟩:ByteArray)
 ·subst h6;kernel_rfl
 simp [vocF,upd,stmtWd,stmtOf,vw,h0,h1,h2,h3,h4,h5,h6]
theorem voc_act (s:ByteArray):vocF actWd 3 s=vw (actOf s):=by
 by_cases h0:s=(⟨#[112,117,116]⟩:ByteArray)
 ·subst h0;kernel_rfl
 by_cases h1:s=(⟨#[112,117,115,104]⟩:ByteArray)
 ·subst h1;kernel_rfl
 by_cases h2:s=(⟨#[112,117,108,108]⟩:ByteArray)
 ·subst h2;kernel_rfl
 simp [vocF,upd,actWd,actOf,vw,h0,h1,h2]
theorem voc_expr (s:ByteArray):vocF exprWd 10 s=vw (exprOf s):=by
 by_cases h0:s=(⟨#[111,119,110]⟩:ByteArray)
 ·subst h0;kernel_rfl
 by_cases h1:s=(⟨#[102,97,114]⟩:ByteArray)
 ·subst h1;kernel_rfl
 by_cases h2:s=(⟨#[118,105,97]⟩:ByteArray)
 ·subst h2;kernel_rfl
 by_cases h3:s=(⟨#[105,100]⟩:ByteArray)
 ·subst h3;kernel_rfl
 by_cases h4:s=(⟨#[102,97,114,105,100]⟩:ByteArray)
 ·subst h4;kernel_rfl
 by_cases h5:s=(⟨#[100,101,103]⟩:ByteArray)
 ·subst h5;kernel_rfl
 by_cases h6:s=(⟨#[99,111,117,110,116]⟩:ByteArray)
 ·subst h6;kernel_rfl
 simp [vocF,upd,exprWd,exprOf,vw,h0,h1,h2,h3,h4,h5,h6]
theorem voc_op (s:ByteArray):vocF opWd 19 s=vw (opOf s):=by
 by_cases h0:s=(⟨#[43]⟩:ByteArray)
 ·subst h0;kernel_rfl
 by_cases h1:s=(⟨#[45]⟩:ByteArray)
 ·subst h1;kernel_rfl
 by_cases h2:s=(⟨#[42]⟩:ByteArray)
 ·subst h2;kernel_rfl
 by_cases h3:s=(⟨#[47]⟩:ByteArray)
 ·subst h3;kernel_rfl
 by_cases h4:s=(⟨#[37]⟩:ByteArray)
 ·subst h4;kernel_rfl
 by_cases h5:s=(⟨#[109,105,110]⟩:ByteArray)
 ·subst h5;kernel_rfl
 by_cases h6:s=(⟨#[109,97,120]⟩:ByteArray)
 ·subst h6;kernel_rfl
 by_cases h7:s=(⟨#[115,104,108]⟩:ByteArray)
 ·subst h7;kernel_rfl
 by_cases h8:s=(⟨#[115,104,114]⟩:ByteArray)
 ·subst h8;kernel_rfl
 by_cases h9:s=(⟨#[38]⟩:ByteArray)
 ·subst h9;kernel_rfl
 by_cases h10:s=(⟨#[124]⟩:ByteArray)
 ·subst h10;kernel_rfl
 by_cases h11:s=(⟨#[94]⟩:ByteArray)
 ·subst h11;kernel_rfl
 by_cases h12:s=(⟨#[61]⟩:ByteArray)
 ·subst h12;kernel_rfl
 by_cases h13:s=(⟨#[60]⟩:ByteArray)
 ·subst h13;kernel_rfl
 by_cases h14:s=(⟨#[110,111,116]⟩:ByteArray)
 ·subst h14;kernel_rfl
 by_cases h15:s=(⟨#[97,110,100]⟩:ByteArray)
 ·subst h15;kernel_rfl
 by_cases h16:s=(⟨#[111,114]⟩:ByteArray)
 ·subst h16;kernel_rfl
 by_cases h17:s=(⟨#[105,102]⟩:ByteArray)
 ·subst h17;kernel_rfl
 by_cases h18:s=(⟨#[110,97,114,114,111,119]⟩:ByteArray)
 ·subst h18;kernel_rfl
 simp [vocF,upd,opWd,opVals,opOf,opWs,vw,List.findIdx?_cons,h0,h1,h2,h3,h4,h5,h6,h7,h8,h9,h10,h11,h12,h13,h14,h15,h16,h17,h18]
def decV (o:Option (Nat × Nat)):Option Value:=match o with|none=>none|some (sd,kd)=>some (.agg #[.string ⟨#[]⟩,.int .u8 (sd:Int),.int .u8 (kd:Int)])
theorem voc_decl (s:ByteArray):decF 6 s=decV (declOf s):=by
 by_cases h0:s=(⟨#[105,110,116]⟩:ByteArray)
 ·subst h0;kernel_rfl
 by_cases h1:s=(⟨#[98,111,111,108]⟩:ByteArray)
 ·subst h1;kernel_rfl
 by_cases h2:s=(⟨#[110,105,110,116]⟩:ByteArray)
 ·subst h2;kernel_rfl
 by_cases h3:s=(⟨#[110,98,111,111,108]⟩:ByteArray)
 ·subst h3;kernel_rfl
 by_cases h4:s=(⟨#[101,105,110,116]⟩:ByteArray)
 ·subst h4;kernel_rfl
 by_cases h5:s=(⟨#[101,98,111,111,108]⟩:ByteArray)
 ·subst h5;kernel_rfl
 simp [decF,upd,dWd,declOf,decV,h0,h1,h2,h3,h4,h5]
end Go.Proofs.YtmekkhfohmfjkaaGreatDoor
