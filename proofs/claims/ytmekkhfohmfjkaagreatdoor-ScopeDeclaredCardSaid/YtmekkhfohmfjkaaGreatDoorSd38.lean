/-
  Part 38 of the proof: SdA, SdB, OpenDc.
-/
import Derived.Test.YtmekkhfohmfjkaaGreatDoorSd20
import Derived.Test.YtmekkhfohmfjkaaGreatDoorSd37
import Derived.Test.YtmekkhfohmfjkaaGreatDoorSd11
import Derived.ProofKit
import Derived.OpenShut
import Derived.SizedLaws
import Derived.Deep.SlicePairs
namespace Go.Proofs.YtmekkhfohmfjkaaGreatDoor
open Go.RowKit Go.Deep Go.MapKept
structure SdS (w:World) (xs:List ByteArray) (q:Value × Value) (l:Array Bool) (y:World):Prop where
 b:Below w.heap.size w y
 u:l[28]?=some true→SeesC y q.1 xs.length 1 (xs.map Value.string)
 n:l[31]?=some true→SeesC y q.2 xs.length 1 (xs.map Value.string)
theorem SdS.start (w:World) (xs:List ByteArray) (q:Value × Value) (n:Nat):SdS w xs q (Array.replicate n false) w.drew:=by
 have hr:∀ k:Nat,(Array.replicate n false)[k]?≠some true:=by
  intro k
  rw [Array.getElem?_replicate]
  split<;>simp
 exact ⟨(Below.refl _ _).drew,fun e=>absurd e (hr _),fun e=>absurd e (hr _)⟩
theorem SdS.keep {w y:World} {xs:List ByteArray} {q:Value × Value} {l:Array Bool} (h:SdS w xs q l y) {i:Nat} (h1:i≠28) (h3:i≠31):SdS w xs q (l.setIfInBounds i true) y:=by
 refine ⟨h.b,?_,?_⟩
 ·rw [setne h1];exact h.u
 ·rw [setne h3];exact h.n
theorem SdS.call {w y y':World} {xs:List ByteArray} {q:Value × Value} {l:Array Bool} (h:SdS w xs q l y) {i:Nat} (h1:i≠28) (h3:i≠31) (hb:Below y.heap.size y y'):SdS w xs q (l.setIfInBounds i true) y':=by
 refine ⟨h.b.trans (hb.mono h.b.size),?_,?_⟩
 ·rw [setne h1];exact fun e=>SeesC.below (h.u e) hb (Nat.le_refl _)
 ·rw [setne h3];exact fun e=>SeesC.below (h.n e) hb (Nat.le_refl _)
theorem SdS.one {w y y':World} {xs:List ByteArray} {q:Value × Value} {l:Array Bool} (h:SdS w xs q l y) {v:Value} (hv:SeesC y' v xs.length 1 (xs.map Value.string)) (hb:Below y.heap.size y y'):SdS w xs (v,q.2) (l.setIfInBounds 28 true) y':=by
 refine ⟨h.b.trans (hb.mono h.b.size),fun _=>hv,?_⟩
 rw [setne (by decide)]
 exact fun e=>SeesC.below (h.n e) hb (Nat.le_refl _)
theorem SdS.two {w y y':World} {xs:List ByteArray} {q:Value × Value} {l:Array Bool} (h:SdS w xs q l y) {v:Value} (hv:SeesC y' v xs.length 1 (xs.map Value.string)) (hb:Below y.heap.size y y'):SdS w xs (q.1,v) (l.setIfInBounds 31 true) y':=by
 refine ⟨h.b.trans (hb.mono h.b.size),?_,fun _=>hv⟩
 rw [setne (by decide)]
 exact fun e=>SeesC.below (h.u e) hb (Nat.le_refl _)
def sdcN:Nat→Oper
 | 0=>⟨some 27,.call ⟨.value (.func 10),#[],#[]⟩,4, "law.go:47",#[],none⟩
 | 1=>⟨some 28,.move (.tmp 27),4, "law.go:47",#[⟨0,.data⟩,⟨0,.chain⟩],none⟩
 | 2=>⟨some 29,.move (.tmp 7),27, "law.go:47",#[⟨1,.guard⟩],some (1,true)⟩
 | 3=>⟨some 30,.move (.tmp 10),27, "law.go:47",#[⟨1,.guard⟩],some (1,true)⟩
 | 4=>⟨some 31,.call ⟨.value (.func 11),#[.tmp 29,.tmp 30],#[27,27]⟩,4, "law.go:47",#[⟨2,.data⟩,⟨3,.data⟩,⟨1,.chain⟩,⟨1,.guard⟩],some (1,true)⟩
 | 5=>⟨some 32,.pick (.tmp 28) (.tmp 31) (.const (.bool false)),4, "law.go:47",#[⟨1,.data⟩,⟨4,.data⟩],none⟩
 | 6=>⟨some 33,.move (.tmp 32),4, "law.go:47",#[⟨5,.data⟩,⟨4,.chain⟩],none⟩
 | 7=>⟨some 34,.move (.tmp 8),3, "law.go:47",#[⟨6,.guard⟩],some (6,true)⟩
 | 8=>⟨some 35,.move (.tmp 11),3, "law.go:47",#[⟨6,.guard⟩],some (6,true)⟩
 | 9=>⟨some 36,.binOp .eql 3 (.tmp 34) (.tmp 35) 3,4, "law.go:47",#[⟨7,.data⟩,⟨8,.data⟩,⟨6,.guard⟩],some (6,true)⟩
 | 10=>⟨some 37,.pick (.tmp 33) (.tmp 36) (.const (.bool false)),4, "law.go:47",#[⟨6,.data⟩,⟨9,.data⟩],none⟩
 | 11=>⟨some 38,.move (.tmp 37),4, "law.go:47",#[⟨10,.data⟩,⟨6,.chain⟩],none⟩
 | 12=>⟨some 39,.move (.tmp 9),28, "law.go:47",#[⟨11,.guard⟩],some (11,true)⟩
 | 13=>⟨some 40,.move (.tmp 12),28, "law.go:47",#[⟨11,.guard⟩],some (11,true)⟩
 | 14=>⟨some 41,.binOp .eql 28 (.tmp 39) (.tmp 40) 28,4, "law.go:47",#[⟨12,.data⟩,⟨13,.data⟩,⟨11,.guard⟩],some (11,true)⟩
 | 15=>⟨some 42,.pick (.tmp 38) (.tmp 41) (.const (.bool false)),4, "law.go:47",#[⟨11,.data⟩,⟨14,.data⟩],none⟩
 | 16=>⟨some 43,.move (.tmp 42),4, "law.go:47",#[⟨15,.data⟩,⟨11,.chain⟩],none⟩
 | 17=>⟨some 44,.move (.tmp 0),22, "law.go:47",#[⟨16,.guard⟩],some (16,true)⟩
 | 18=>⟨some 45,.load 25 (.tmp 4),25, "law.go:47",#[⟨16,.guard⟩],some (16,true)⟩
 | 19=>⟨some 46,.call ⟨.value (.func 12),#[.tmp 44,.tmp 45],#[22,25]⟩,33, "law.go:47",#[⟨17,.data⟩,⟨18,.data⟩,⟨16,.chain⟩,⟨16,.guard⟩],some (16,true)⟩
 | 20=>⟨some 47,.move (.tmp 0),22, "law.go:47",#[⟨16,.guard⟩],some (16,true)⟩
 | 21=>⟨some 48,.load 25 (.tmp 4),25, "law.go:47",#[⟨16,.guard⟩],some (16,true)⟩
 | 22=>⟨some 49,.call ⟨.value (.func 13),#[.tmp 47,.tmp 48],#[22,25]⟩,33, "law.go:47",#[⟨20,.data⟩,⟨21,.data⟩,⟨19,.chain⟩,⟨16,.guard⟩],some (16,true)⟩
 | 23=>⟨some 50,.binOp .eql 33 (.tmp 46) (.tmp 49) 33,4, "law.go:47",#[⟨19,.data⟩,⟨22,.data⟩,⟨16,.guard⟩],some (16,true)⟩
 | 24=>⟨some 51,.pick (.tmp 43) (.tmp 50) (.const (.bool false)),4, "law.go:47",#[⟨16,.data⟩,⟨23,.data⟩],none⟩
 | 25=>⟨some 52,.move (.tmp 51),4, "law.go:47",#[⟨24,.data⟩,⟨22,.chain⟩],none⟩
 | 26=>⟨some 53,.move (.tmp 0),22, "law.go:47",#[⟨25,.guard⟩],some (25,true)⟩
 | 27=>⟨some 54,.move (.tmp 2),3, "law.go:47",#[⟨25,.guard⟩],some (25,true)⟩
 | 28=>⟨some 55,.call ⟨.value (.func 15),#[.tmp 53,.tmp 54],#[22,3]⟩,36, "law.go:47",#[⟨26,.data⟩,⟨27,.data⟩,⟨25,.chain⟩,⟨25,.guard⟩],some (25,true)⟩
 | 29=>⟨some 56,.move (.tmp 0),22, "law.go:47",#[⟨25,.guard⟩],some (25,true)⟩
 | 30=>⟨some 57,.move (.tmp 2),3, "law.go:47",#[⟨25,.guard⟩],some (25,true)⟩
 | 31=>⟨some 58,.call ⟨.value (.func 16),#[.tmp 56,.tmp 57],#[22,3]⟩,36, "law.go:47",#[⟨29,.data⟩,⟨30,.data⟩,⟨28,.chain⟩,⟨25,.guard⟩],some (25,true)⟩
 | 32=>⟨some 59,.call ⟨.value (.func 14),#[.tmp 55,.tmp 58],#[36,36]⟩,4, "law.go:47",#[⟨28,.data⟩,⟨31,.data⟩,⟨31,.chain⟩,⟨25,.guard⟩],some (25,true)⟩
 | 33=>⟨some 60,.pick (.tmp 52) (.tmp 59) (.const (.bool false)),4, "law.go:47",#[⟨25,.data⟩,⟨32,.data⟩],none⟩
 | _=>⟨some 6,.assign (.tmp 60),4, "law.go:47",#[⟨33,.data⟩,⟨32,.chain⟩,⟨0,.phase⟩,⟨1,.phase⟩,⟨2,.phase⟩,⟨3,.phase⟩,⟨4,.phase⟩,⟨5,.phase⟩,⟨6,.phase⟩,⟨7,.phase⟩,⟨8,.phase⟩,⟨9,.phase⟩,⟨10,.phase⟩,⟨11,.phase⟩,⟨12,.phase⟩,⟨13,.phase⟩,⟨14,.phase⟩,⟨15,.phase⟩,⟨16,.phase⟩,⟨17,.phase⟩,⟨18,.phase⟩,⟨19,.phase⟩,⟨20,.phase⟩,⟨21,.phase⟩,⟨22,.phase⟩,⟨23,.phase⟩,⟨24,.phase⟩,⟨25,.phase⟩,⟨26,.phase⟩,⟨27,.phase⟩,⟨28,.phase⟩,⟨29,.phase⟩,⟨30,.phase⟩,⟨31,.phase⟩,⟨32,.phase⟩,⟨33,.phase⟩],none⟩
set_option maxRecDepth 100000 in
set_option maxHeartbeats 8000000 in
theorem regSdC (w:World) (B kd sd:Nat) (v0 v7 v10:Value) (r1 r2 k:Int) (s:ByteArray) (xs:List ByteArray) (h0:w.cell? ⟨B,0,none⟩=some (.string s)) (h1:w.cell? ⟨B,1,none⟩=some (.int .u8 (sd:Int)))
  (hLive:∀ y,Below w.heap.size w y→Calls Tryz.prog 10 #[] y fun e y'=>e=.returned (.bool true)∧Below y.heap.size y y')
  (hSame:∀ y,Below w.heap.size w y→Calls Tryz.prog 11 #[v7,v10] y fun e y'=>e=.returned (.bool true)∧Below y.heap.size y y')
  (hK1:∀ y,Below w.heap.size w y→Calls Tryz.prog 12 #[v0,.agg #[.string s,.int .u8 (sd:Int)]] y fun e y'=>e=.returned (.int .u8 (kd:Int))∧Below y.heap.size y y')
  (hK2:∀ y,Below w.heap.size w y→Calls Tryz.prog 13 #[v0,.agg #[.string s,.int .u8 (sd:Int)]] y fun e y'=>e=.returned (.int .u8 (kd:Int))∧Below y.heap.size y y')
  (hF1:∀ y,Below w.heap.size w y→Calls Tryz.prog 15 #[v0,.int .i64 k] y fun e y'=>∃ v,e=.returned v∧SeesC y' v xs.length 1 (xs.map Value.string)∧Below y.heap.size y y')
  (hF2:∀ y,Below w.heap.size w y→Calls Tryz.prog 16 #[v0,.int .i64 k] y fun e y'=>∃ v,e=.returned v∧SeesC y' v xs.length 1 (xs.map Value.string)∧Below y.heap.size y y')
  (hTx:∀ y,Below w.heap.size w y→∀ a b,SeesC y a xs.length 1 (xs.map Value.string)→SeesC y b xs.length 1 (xs.map Value.string)→Calls Tryz.prog 14 #[a,b] y fun e y'=>e=.returned (.bool true)∧Below y.heap.size y y')
  {Q:Exit→Act→World→Prop} {x1 x3 x5 x6 x13 x14 x15 x16 x17 x18 x19 x20 x21 x22 x23 x24 x25 x26 x27 x28 x29 x30 x31 x32 x33 x34 x35 x36 x37 x38 x39 x40 x41 x42 x43 x44 x45 x46 x47 x48 x49 x50 x51 x52 x53 x54 x55 x56 x57 x58 x59 x60:Value} {ri:Nat}
  (h:∀ (u1 u2:Value) (y:World),Below w.heap.size w y→Q .normal ⟨#[v0,x1,.int .i64 k,x3,.pointer (some ⟨B,0,none⟩),x5,.bool true,v7,.int .i64 r1,.int .i64 r2,v10,.int .i64 r1,.int .i64 r2,x13,x14,x15,x16,x17,x18,x19,x20,x21,x22,x23,x24,x25,x26,.bool true,.bool true,v7,v10,.bool true,.bool true,.bool true,.int .i64 r1,.int .i64 r1,.bool true,.bool true,.bool true,.int .i64 r2,.int .i64 r2,.bool true,.bool true,.bool true,v0,.agg #[.string s,.int .u8 (sd:Int)],.int .u8 (kd:Int),v0,.agg #[.string s,.int .u8 (sd:Int)],.int .u8 (kd:Int),.bool true,.bool true,.bool true,v0,.int .i64 k,u1,v0,.int .i64 k,u2,.bool true,.bool true],[]⟩ y) :
  (Code.region ri (opsA sdcN 34) true).wp Tryz.prog Q ⟨#[v0,x1,.int .i64 k,x3,.pointer (some ⟨B,0,none⟩),x5,x6,v7,.int .i64 r1,.int .i64 r2,v10,.int .i64 r1,.int .i64 r2,x13,x14,x15,x16,x17,x18,x19,x20,x21,x22,x23,x24,x25,x26,x27,x28,x29,x30,x31,x32,x33,x34,x35,x36,x37,x38,x39,x40,x41,x42,x43,x44,x45,x46,x47,x48,x49,x50,x51,x52,x53,x54,x55,x56,x57,x58,x59,x60],[]⟩ w:=by
 refine wp_region_seq3A sdcN (fun (q:Value × Value) j0=>match j0 with|0=>.bool true|1=>.bool true|2=>v7|3=>v10|4=>.bool true|5=>.bool true|6=>.bool true|7=>.int .i64 r1|8=>.int .i64 r1|9=>.bool true|10=>.bool true|11=>.bool true|12=>.int .i64 r2|13=>.int .i64 r2|14=>.bool true|15=>.bool true|16=>.bool true|17=>v0|18=>.agg #[.string s,.int .u8 (sd:Int)]|19=>.int .u8 (kd:Int)|20=>v0|21=>.agg #[.string s,.int .u8 (sd:Int)]|22=>.int .u8 (kd:Int)|23=>.bool true|24=>.bool true|25=>.bool true|26=>v0|27=>.int .i64 k|28=>q.1|29=>v0|30=>.int .i64 k|31=>q.2|32=>.bool true|33=>.bool true|_=>undef) (SdS w xs) (undef,undef) 34 Tryz.mixed (by kernel_rfl) (by kernel_rfl) (SdS.start w xs _ _) ?_ ?_
 ·intro i9 hi9 q9 a9 w9 l9 hF9 hL9 hl9 hA9 hC9 hS9 K9 hK9
  have hc9:i9=0∨i9=1∨i9=2∨i9=3∨i9=4∨i9=5∨i9=6∨i9=7∨i9=8∨i9=9∨i9=10∨i9=11∨i9=12∨i9=13∨i9=14∨i9=15∨i9=16∨i9=17∨i9=18∨i9=19∨i9=20∨i9=21∨i9=22∨i9=23∨i9=24∨i9=25∨i9=26∨i9=27∨i9=28∨i9=29∨i9=30∨i9=31∨i9=32∨i9=33:=by omega
  clear hi9
  rcases hc9 with rfl|rfl|rfl|rfl|rfl|rfl|rfl|rfl|rfl|rfl|rfl|rfl|rfl|rfl|rfl|rfl|rfl|rfl|rfl|rfl|rfl|rfl|rfl|rfl|rfl|rfl|rfl|rfl|rfl|rfl|rfl|rfl|rfl|rfl
  ·rw [if_pos (zaD rfl)]
   unfold Oper.wp
   have hr9:(execOp a9.eval (sdcN 0)).run Tryz.prog w9=.ok (.enter 10 #[]) w9:=by
    simp only [sdcN,execOp]
    go_simp
   rw [hr9,Oper.upon_enter]
   refine Calls.mono (hLive w9 hS9.b) ?_
   intro e w10 h10
   obtain ⟨rfl,hb11⟩:=h10
   exact hK9 q9 w10 (fun _ _ _=>rfl) (hS9.call (by decide) (by decide) hb11)
  ·have e27:=hF9.ev 0 27
   refine zaW rfl ?_ (hK9 q9 w9 (fun _ _ _=>rfl) (hS9.keep (by decide) (by decide)))
   clear hF9 hA9
   simp only [sdcN,execOp,e27]
   first|done|(go_simp<;>omega)
  ·have e7:=hF9.od 7 (v:=v7) rfl
   refine zbC rfl (hF9.nw 1 28) ?_
   refine zaR ?_ (hK9 q9 w9 (fun _ _ _=>rfl) (hS9.keep (by decide) (by decide)))
   clear hF9 hA9
   simp only [sdcN,execOp,e7]
   first|done|(go_simp<;>omega)
  ·have e10:=hF9.od 10 (v:=v10) rfl
   refine zbC rfl (hF9.nw 1 28) ?_
   refine zaR ?_ (hK9 q9 w9 (fun _ _ _=>rfl) (hS9.keep (by decide) (by decide)))
   clear hF9 hA9
   simp only [sdcN,execOp,e10]
   first|done|(go_simp<;>omega)
  ·refine zbC rfl (hF9.nw 1 28) ?_
   unfold Oper.wp
   have f29:=hF9.nw 2 29
   have f30:=hF9.nw 3 30
   have hr9:(execOp a9.eval (sdcN 4)).run Tryz.prog w9=.ok (.enter 11 #[v7,v10]) w9:=by
    simp only [sdcN,execOp]
    go_simp
   rw [hr9,Oper.upon_enter]
   refine Calls.mono (hSame w9 hS9.b) ?_
   intro e w10 h10
   obtain ⟨rfl,hb11⟩:=h10
   exact hK9 q9 w10 (fun _ _ _=>rfl) (hS9.call (by decide) (by decide) hb11)
  ·have e28:=hF9.ev 1 28
   have e31:=hF9.ev 4 31
   refine zaW rfl ?_ (hK9 q9 w9 (fun _ _ _=>rfl) (hS9.keep (by decide) (by decide)))
   clear hF9 hA9
   simp only [sdcN,execOp,e28,e31]
   first|done|(go_simp<;>omega)
  ·have e32:=hF9.ev 5 32
   refine zaW rfl ?_ (hK9 q9 w9 (fun _ _ _=>rfl) (hS9.keep (by decide) (by decide)))
   clear hF9 hA9
   simp only [sdcN,execOp,e32]
   first|done|(go_simp<;>omega)
  ·have e8:=hF9.od 8 (v:=.int .i64 r1) rfl
   refine zbC rfl (hF9.nw 6 33) ?_
   refine zaR ?_ (hK9 q9 w9 (fun _ _ _=>rfl) (hS9.keep (by decide) (by decide)))
   clear hF9 hA9
   simp only [sdcN,execOp,e8]
   first|done|(go_simp<;>omega)
  ·have e11:=hF9.od 11 (v:=.int .i64 r1) rfl
   refine zbC rfl (hF9.nw 6 33) ?_
   refine zaR ?_ (hK9 q9 w9 (fun _ _ _=>rfl) (hS9.keep (by decide) (by decide)))
   clear hF9 hA9
   simp only [sdcN,execOp,e11]
   first|done|(go_simp<;>omega)
  ·have e34:=hF9.ev 7 34
   have e35:=hF9.ev 8 35
   refine zbC rfl (hF9.nw 6 33) ?_
   refine zaR ?_ (hK9 q9 w9 (fun _ _ _=>rfl) (hS9.keep (by decide) (by decide)))
   clear hF9 hA9
   simp only [sdcN,execOp,e34,e35]
   first|done|(go_simp<;>omega)
  ·have e33:=hF9.ev 6 33
   have e36:=hF9.ev 9 36
   refine zaW rfl ?_ (hK9 q9 w9 (fun _ _ _=>rfl) (hS9.keep (by decide) (by decide)))
   clear hF9 hA9
   simp only [sdcN,execOp,e33,e36]
   first|done|(go_simp<;>omega)
  ·have e37:=hF9.ev 10 37
   refine zaW rfl ?_ (hK9 q9 w9 (fun _ _ _=>rfl) (hS9.keep (by decide) (by decide)))
   clear hF9 hA9
   simp only [sdcN,execOp,e37]
   first|done|(go_simp<;>omega)
  ·have e9:=hF9.od 9 (v:=.int .i64 r2) rfl
   refine zbC rfl (hF9.nw 11 38) ?_
   refine zaR ?_ (hK9 q9 w9 (fun _ _ _=>rfl) (hS9.keep (by decide) (by decide)))
   clear hF9 hA9
   simp only [sdcN,execOp,e9]
   first|done|(go_simp<;>omega)
  ·have e12:=hF9.od 12 (v:=.int .i64 r2) rfl
   refine zbC rfl (hF9.nw 11 38) ?_
   refine zaR ?_ (hK9 q9 w9 (fun _ _ _=>rfl) (hS9.keep (by decide) (by decide)))
   clear hF9 hA9
   simp only [sdcN,execOp,e12]
   first|done|(go_simp<;>omega)
  ·have e39:=hF9.ev 12 39
   have e40:=hF9.ev 13 40
   refine zbC rfl (hF9.nw 11 38) ?_
   refine zaR ?_ (hK9 q9 w9 (fun _ _ _=>rfl) (hS9.keep (by decide) (by decide)))
   clear hF9 hA9
   simp only [sdcN,execOp,e39,e40]
   first|done|(go_simp<;>omega)
  ·have e38:=hF9.ev 11 38
   have e41:=hF9.ev 14 41
   refine zaW rfl ?_ (hK9 q9 w9 (fun _ _ _=>rfl) (hS9.keep (by decide) (by decide)))
   clear hF9 hA9
   simp only [sdcN,execOp,e38,e41]
   first|done|(go_simp<;>omega)
  ·have e42:=hF9.ev 15 42
   refine zaW rfl ?_ (hK9 q9 w9 (fun _ _ _=>rfl) (hS9.keep (by decide) (by decide)))
   clear hF9 hA9
   simp only [sdcN,execOp,e42]
   first|done|(go_simp<;>omega)
  ·have e0:=hF9.od 0 (v:=v0) rfl
   refine zbC rfl (hF9.nw 16 43) ?_
   refine zaR ?_ (hK9 q9 w9 (fun _ _ _=>rfl) (hS9.keep (by decide) (by decide)))
   clear hF9 hA9
   simp only [sdcN,execOp,e0]
   first|done|(go_simp<;>omega)
  ·have e4:=hF9.od 4 (v:=.pointer (some ⟨B,0,none⟩)) rfl
   refine zbC rfl (hF9.nw 16 43) ?_
   have y0:=zaJ hS9.b h0
   have y1:=zaJ hS9.b h1
   refine zaR ?_ (hK9 q9 w9 (fun _ _ _=>rfl) (hS9.keep (by decide) (by decide)))
   clear hF9 hA9
   simp only [sdcN,execOp,e4]
   first|done|(go_simp<;>omega)
  ·refine zbC rfl (hF9.nw 16 43) ?_
   unfold Oper.wp
   have f44:=hF9.nw 17 44
   have f45:=hF9.nw 18 45
   have hr9:(execOp a9.eval (sdcN 19)).run Tryz.prog w9=.ok (.enter 12 #[v0,.agg #[.string s,.int .u8 (sd:Int)]]) w9:=by
    simp only [sdcN,execOp]
    go_simp
   rw [hr9,Oper.upon_enter]
   refine Calls.mono (hK1 w9 hS9.b) ?_
   intro e w10 h10
   obtain ⟨rfl,hb11⟩:=h10
   exact hK9 q9 w10 (fun _ _ _=>rfl) (hS9.call (by decide) (by decide) hb11)
  ·have e0:=hF9.od 0 (v:=v0) rfl
   refine zbC rfl (hF9.nw 16 43) ?_
   refine zaR ?_ (hK9 q9 w9 (fun _ _ _=>rfl) (hS9.keep (by decide) (by decide)))
   clear hF9 hA9
   simp only [sdcN,execOp,e0]
   first|done|(go_simp<;>omega)
  ·have e4:=hF9.od 4 (v:=.pointer (some ⟨B,0,none⟩)) rfl
   refine zbC rfl (hF9.nw 16 43) ?_
   have y0:=zaJ hS9.b h0
   have y1:=zaJ hS9.b h1
   refine zaR ?_ (hK9 q9 w9 (fun _ _ _=>rfl) (hS9.keep (by decide) (by decide)))
   clear hF9 hA9
   simp only [sdcN,execOp,e4]
   first|done|(go_simp<;>omega)
  ·refine zbC rfl (hF9.nw 16 43) ?_
   unfold Oper.wp
   have f47:=hF9.nw 20 47
   have f48:=hF9.nw 21 48
   have hr9:(execOp a9.eval (sdcN 22)).run Tryz.prog w9=.ok (.enter 13 #[v0,.agg #[.string s,.int .u8 (sd:Int)]]) w9:=by
    simp only [sdcN,execOp]
    go_simp
   rw [hr9,Oper.upon_enter]
   refine Calls.mono (hK2 w9 hS9.b) ?_
   intro e w10 h10
   obtain ⟨rfl,hb11⟩:=h10
   exact hK9 q9 w10 (fun _ _ _=>rfl) (hS9.call (by decide) (by decide) hb11)
  ·have e46:=hF9.ev 19 46
   have e49:=hF9.ev 22 49
   refine zbC rfl (hF9.nw 16 43) ?_
   refine zaR ?_ (hK9 q9 w9 (fun _ _ _=>rfl) (hS9.keep (by decide) (by decide)))
   clear hF9 hA9
   simp only [sdcN,execOp,e46,e49]
   first|done|(go_simp<;>omega)
  ·have e43:=hF9.ev 16 43
   have e50:=hF9.ev 23 50
   refine zaW rfl ?_ (hK9 q9 w9 (fun _ _ _=>rfl) (hS9.keep (by decide) (by decide)))
   clear hF9 hA9
   simp only [sdcN,execOp,e43,e50]
   first|done|(go_simp<;>omega)
  ·have e51:=hF9.ev 24 51
   refine zaW rfl ?_ (hK9 q9 w9 (fun _ _ _=>rfl) (hS9.keep (by decide) (by decide)))
   clear hF9 hA9
   simp only [sdcN,execOp,e51]
   first|done|(go_simp<;>omega)
  ·have e0:=hF9.od 0 (v:=v0) rfl
   refine zbC rfl (hF9.nw 25 52) ?_
   refine zaR ?_ (hK9 q9 w9 (fun _ _ _=>rfl) (hS9.keep (by decide) (by decide)))
   clear hF9 hA9
   simp only [sdcN,execOp,e0]
   first|done|(go_simp<;>omega)
  ·have e2:=hF9.od 2 (v:=.int .i64 k) rfl
   refine zbC rfl (hF9.nw 25 52) ?_
   refine zaR ?_ (hK9 q9 w9 (fun _ _ _=>rfl) (hS9.keep (by decide) (by decide)))
   clear hF9 hA9
   simp only [sdcN,execOp,e2]
   first|done|(go_simp<;>omega)
  ·refine zbC rfl (hF9.nw 25 52) ?_
   unfold Oper.wp
   have f53:=hF9.nw 26 53
   have f54:=hF9.nw 27 54
   have hr9:(execOp a9.eval (sdcN 28)).run Tryz.prog w9=.ok (.enter 15 #[v0,.int .i64 k]) w9:=by
    simp only [sdcN,execOp]
    go_simp
   rw [hr9,Oper.upon_enter]
   refine Calls.mono (hF1 w9 hS9.b) ?_
   intro e w10 h10
   obtain ⟨v11,rfl,hv11,hb11⟩:=h10
   refine hK9 (v11,q9.2) w10 ?_ (hS9.one hv11 hb11)
   intro j9 hj9 hd9
   have hjz:=(Array.getElem?_eq_some_iff.1 hd9).1
   rw [hL9] at hjz
   have hcj:j9=0∨j9=1∨j9=2∨j9=3∨j9=4∨j9=5∨j9=6∨j9=7∨j9=8∨j9=9∨j9=10∨j9=11∨j9=12∨j9=13∨j9=14∨j9=15∨j9=16∨j9=17∨j9=18∨j9=19∨j9=20∨j9=21∨j9=22∨j9=23∨j9=24∨j9=25∨j9=26∨j9=27∨j9=28∨j9=29∨j9=30∨j9=31∨j9=32∨j9=33∨j9=34:=by omega
   clear hjz
   rcases hcj with rfl|rfl|rfl|rfl|rfl|rfl|rfl|rfl|rfl|rfl|rfl|rfl|rfl|rfl|rfl|rfl|rfl|rfl|rfl|rfl|rfl|rfl|rfl|rfl|rfl|rfl|rfl|rfl|rfl|rfl|rfl|rfl|rfl|rfl|rfl
   all_goals first|rfl|exact absurd rfl hj9
  ·have e0:=hF9.od 0 (v:=v0) rfl
   refine zbC rfl (hF9.nw 25 52) ?_
   refine zaR ?_ (hK9 q9 w9 (fun _ _ _=>rfl) (hS9.keep (by decide) (by decide)))
   clear hF9 hA9
   simp only [sdcN,execOp,e0]
   first|done|(go_simp<;>omega)
  ·have e2:=hF9.od 2 (v:=.int .i64 k) rfl
   refine zbC rfl (hF9.nw 25 52) ?_
   refine zaR ?_ (hK9 q9 w9 (fun _ _ _=>rfl) (hS9.keep (by decide) (by decide)))
   clear hF9 hA9
   simp only [sdcN,execOp,e2]
   first|done|(go_simp<;>omega)
  ·refine zbC rfl (hF9.nw 25 52) ?_
   unfold Oper.wp
   have f56:=hF9.nw 29 56
   have f57:=hF9.nw 30 57
   have hr9:(execOp a9.eval (sdcN 31)).run Tryz.prog w9=.ok (.enter 16 #[v0,.int .i64 k]) w9:=by
    simp only [sdcN,execOp]
    go_simp
   rw [hr9,Oper.upon_enter]
   refine Calls.mono (hF2 w9 hS9.b) ?_
   intro e w10 h10
   obtain ⟨v11,rfl,hv11,hb11⟩:=h10
   refine hK9 (q9.1,v11) w10 ?_ (hS9.two hv11 hb11)
   intro j9 hj9 hd9
   have hjz:=(Array.getElem?_eq_some_iff.1 hd9).1
   rw [hL9] at hjz
   have hcj:j9=0∨j9=1∨j9=2∨j9=3∨j9=4∨j9=5∨j9=6∨j9=7∨j9=8∨j9=9∨j9=10∨j9=11∨j9=12∨j9=13∨j9=14∨j9=15∨j9=16∨j9=17∨j9=18∨j9=19∨j9=20∨j9=21∨j9=22∨j9=23∨j9=24∨j9=25∨j9=26∨j9=27∨j9=28∨j9=29∨j9=30∨j9=31∨j9=32∨j9=33∨j9=34:=by omega
   clear hjz
   rcases hcj with rfl|rfl|rfl|rfl|rfl|rfl|rfl|rfl|rfl|rfl|rfl|rfl|rfl|rfl|rfl|rfl|rfl|rfl|rfl|rfl|rfl|rfl|rfl|rfl|rfl|rfl|rfl|rfl|rfl|rfl|rfl|rfl|rfl|rfl|rfl
   all_goals first|rfl|exact absurd rfl hj9
  ·refine zbC rfl (hF9.nw 25 52) ?_
   unfold Oper.wp
   have f55:=hF9.nw 28 55
   have f58:=hF9.nw 31 58
   have hr9:(execOp a9.eval (sdcN 32)).run Tryz.prog w9=.ok (.enter 14 #[q9.1,q9.2]) w9:=by
    simp only [sdcN,execOp]
    go_simp
   rw [hr9,Oper.upon_enter]
   refine Calls.mono (hTx w9 hS9.b _ _ (hS9.u (hA9 28 (List.contains_iff_mem.1 (by kernel_rfl)))) (hS9.n (hA9 31 (List.contains_iff_mem.1 (by kernel_rfl))))) ?_
   intro e w10 h10
   obtain ⟨rfl,hb11⟩:=h10
   exact hK9 q9 w10 (fun _ _ _=>rfl) (hS9.call (by decide) (by decide) hb11)
  ·have e52:=hF9.ev 25 52
   have e59:=hF9.ev 32 59
   refine zaW rfl ?_ (hK9 q9 w9 (fun _ _ _=>rfl) (hS9.keep (by decide) (by decide)))
   clear hF9 hA9
   simp only [sdcN,execOp,e52,e59]
   first|done|(go_simp<;>omega)
 ·intro q9 w9 l9 hall9 hS9 K9 hK9
  simp only [putA,sdcN]
  rw [if_pos (zaD rfl)]
  unfold Oper.wp
  go_simp
  exact hK9 _ _ (h _ _ _ hS9.b)
theorem dcl_keys {w w':World} {r2:Int} {ds:List Dcl} {kv:Value} (h1:r2=0→w'.ownsRow w.heap.size 25 2 kv ds.length (flatK ds)) (h2:r2≠0→kv=.slice none 0 0):SeesKd w' kv (if r2=0 then ds else []):=by
 by_cases h:r2=0
 ·rw [if_pos h]
  exact zaS (h1 h)
 ·rw [if_neg h,h2 h]
  exact ⟨rfl,none,0,rfl,.inl rfl⟩
set_option maxRecDepth 100000 in
set_option maxHeartbeats 8000000 in
theorem scopeDeclared_law (w:World) (a:Option Addr) (n cap:Nat) (ds:List Dcl) (hv:SeesD w (.slice a n cap) ds) (hc:n≤cap) (hm:n≤10000000000000) (hs:∀ d∈ds,d.name.size≤140737488355328) (hsd:∀ d∈ds,d.side<256) (hL:Laid w) (s:ByteArray) (sd:Nat) (k:Int) (hk:In64 k) :
  Calls Tryz.prog 3 #[.slice a n cap,.agg #[.string s,.int .u8 (sd:Int)],.int .i64 k] w fun e w'=>e=.returned (.bool true)∧Below w.heap.size w w':=by
 obtain ⟨W,hW⟩:∃ W,w.alloc (.cells #[.string s,.int .u8 (sd:Int)] 25)=W:=⟨_,rfl⟩
 have b0:Below w.heap.size w W:=hW▸belowT
 have hAK:=AtBd.new w 25 #[.string s,.int .u8 (sd:Int)]
 rw [hW] at hAK
 have CF:=hidI (few_any W a n cap ds (SeesC.below hv b0 (Nat.le_refl _)) hc hm)
 have HS:Hid (∀ d∈ds.take 40,d.name.size≤140737488355328∧d.side<256):=hidI (fun d hd=>⟨hs d (List.mem_of_mem_take hd),hsd d (List.mem_of_mem_take hd)⟩)
 have hlen:(ds.take 40).length≤40:=by rw [List.length_take];omega
 have HL:=hidI (hL.on b0)
 have HB0:=hidI b0
 have HAK:=hidI hAK
 have HW:=hidI hW
 have HK:=hidI hk
 generalize ds.take 40=ds' at *
 clear hv hs hsd hL b0 hAK hk hW
 obtain ⟨R,hR⟩:∃ R,declR ds' 0 ds'=R:=⟨_,rfl⟩
 go_enter Tryz.func3,Tryz.ntmps3
 go_wp2_with (go_at_call 7;rw [HW.out];refine CF.out.mono ?_;intro e w1 h1;obtain ⟨⟨v1,rfl,hv1⟩,rfl⟩:=h1;clear CF;refine Hid.out ?_)
 have HV:=hidI hv1
 have CD:=hidI (declared_any w1 HL.out v1 ds' hv1 (by omega) HS.out)
 have CR:=hidI (fun (y:World) (hy:Below w1.heap.size w1 y)=>rdeclared_any y v1 ds' (SeesC.below HV.out hy (Nat.le_refl _)) (by omega))
 rw [hR] at CD CR
 obtain ⟨r1,r2⟩:=R
 have hlen2:=hidI hlen
 clear hv1 hR
 refine hidI ?_
 go_wp2_with (first|(go_at_call 8;refine CD.out.mono ?_;intro e w2 h2;obtain ⟨⟨kv,rfl,hk1,hk2⟩,hb2⟩:=h2;have HB2:=hidI hb2;have HK2:Hid (SeesKd w2 kv (if r2=0 then ds' else [])):=hidI (dcl_keys hk1 hk2);clear hb2 hk1 hk2 CD)|(go_at_call 9;refine Calls.mono (CR.out w2 HB2.out) ?_;intro e w3 h3;obtain ⟨kv2,rfl,hk3,hb3⟩:=h3;have HB3:=hidI hb3;have HK3:=hidI hk3;clear hb3 hk3 CR))
 have hBW:=HB2.out.trans (HB3.out.mono HB2.out.size)
 have y0:=zaJ hBW (HAK.out 0 _ rfl)
 have y1:=zaJ hBW (HAK.out 1 _ rfl)
 have HSE:Hid (∀ y,Below w3.heap.size w3 y→SeesD y v1 ds'):=hidI (fun y hy=>SeesC.below HV.out (hBW.trans (hy.mono hBW.size)) (Nat.le_refl _))
 have HLL:Hid (∀ y,Below w3.heap.size w3 y→Laid y):=hidI (fun y hy=>(HL.out.on hBW).on hy)
 obtain ⟨K',hK'⟩:∃ K',(if r2=0 then ds' else [])=K':=⟨_,rfl⟩
 have hkl:K'.length≤1000:=by
  rw [←hK']
  have:=hlen2.out
  split<;>simp<;>omega
 have hk2:=SeesC.below HK2.out HB3.out (Nat.le_refl _)
 have hk3:=HK3.out
 rw [hK'] at hk2 hk3
 have hxl:=freshL_len ds' k
 refine regSdC w3 w.heap.size (kindD s sd ds') sd v1 kv kv2 r1 r2 k s (freshL ds' k) y0 y1
  (fun y hy=>live_ok y (HLL.out y hy))
  (fun y hy=>sameKeys_any y kv kv2 K' (SeesC.below hk2 hy (Nat.le_refl _)) (SeesC.below hk3 hy (Nat.le_refl _)) hkl)
  (fun y hy=>kindOf_any y v1 ds' (HSE.out y hy) (by have:=hlen2.out;omega) s sd)
  (fun y hy=>rkindOf_any y v1 ds' (HSE.out y hy) (by have:=hlen2.out;omega) s sd)
  (fun y hy=>fresh_any y v1 ds' k HK.out (HLL.out y hy) (HSE.out y hy) (by have:=hlen2.out;omega) (fun d hd=>(HS.out d hd).1))
  (fun y hy=>rfresh_any y v1 ds' k (HSE.out y hy) (by have:=hlen2.out;omega))
  (fun y _ a b ha hb=>sameTexts_any y a b (freshL ds' k) ha hb (by omega))
  (fun u1 u2 y hy => ?_)
 have HBZ:=hidI (HB0.out.trans ((hBW.trans (hy.mono hBW.size)).mono HB0.out.size))
 clear hy y0 y1 hk2 hk3 hBW HSE HLL HL HV HK2 HK3 HB2 HB3 HB0 HAK HS hlen2 hxl
 go_wp2
 go_ret
 exact ⟨rfl,HBZ.out⟩
open Go.ChangeShapes Go.WideShapes Go.ChangeAt Go.RowKit Go.Deep Go.Joins
instance:Inhabited Dcl:=⟨⟨⟨#[]⟩,0,0⟩⟩
theorem nat_u8 {a:Int} (h:(Lit.int .u8 a).wf=true):∃ n:Nat,a=(n:Int)∧n<256:=by
 have e1:IntKind.u8.min=0:=rfl
 have e2:IntKind.u8.max=255:=rfl
 simp only [Lit.wf,e1,e2,Bool.and_eq_true,decide_eq_true_eq] at h
 exact ⟨a.toNat,by omega,by omega⟩
theorem len3d {α:Type}:∀ {l:List α},l.length=3→∃ a b c,l=[a,b,c]
 | [a,b,c],_=>⟨a,b,c,rfl⟩
theorem weights_in {H:Type} {P:Program} {e:TypeId}:∀ {ds:List (DataW H)} {d:DataW H},d∈ds→∀ n∈d.weights P e,n∈DataW.weightsAll P e ds
 | d0::r,d,hd,n,hn=>by
  simp only [DataW.weightsAll,List.mem_append]
  rcases List.mem_cons.1 hd with rfl|hd
  ·exact .inl hn
  ·exact .inr (weights_in hd n hn)
theorem bytesDcl:Tryz.prog.bytesOf 56=24:=by kernel_rfl
set_option maxRecDepth 100000 in
theorem open_key {H:Type} {enc:TypeId × Value→H} {W:World} {base:Nat} {v:Value} {d:DataW H} {p:List MemPlace} (hv:Value.okWide Tryz.prog W .any base 25 v)
  (h1:DataW.Trod enc Tryz.prog W 0 (fun _=>true) true 25 v d p):∃ (s:ByteArray) (sd:Nat),v=.agg #[.string s,.int .u8 (sd:Int)]∧s.size≤maxLen∧sd<256:=by
 obtain ⟨v0,v1,y0,y1,n,rfl,_,_,g0,g1⟩:=open_agg2 Tryz.underlying25 (by kernel_rfl) (by kernel_rfl) hv h1
 obtain ⟨s,hs,_,hsz⟩:=DataW.trod_string Tryz.underlying9 g0
 obtain ⟨q,hq,_,hw⟩:=DataW.trod_int Tryz.underlying23 g1
 obtain ⟨m,rfl,hm⟩:=nat_u8 hw
 obtain rfl:v0=.string s:=by simpa using hs
 obtain rfl:v1=.int .u8 (m:Int):=by simpa using hq
 exact ⟨s,m,rfl,hsz,hm⟩
theorem open_decl {H:Type} {enc:TypeId × Value→H} {W:World} {fuel:Nat} {cs:List Value} {x:DataW H × List MemPlace} (hl:cs.length=3) (h:DataW.trod enc Tryz.prog W 0 (fun _=>true) true fuel 56 cs=some x) :
  ∃ y:Dcl,cs=[.string y.name,.int .u8 (y.side:Int),.int .u8 (y.kind:Int)]∧y.side<256∧y.kind<256∧∀ b,(∀ n∈x.1.weights Tryz.prog 56,n≤b)→y.name.size≤b:=by
 obtain ⟨xs,k,_,rfl,_,hxl,hf⟩:=DataW.trod_struct Tryz.underlying56 h
 have g0:=hf 0 { name := "Name",type:=9,offset:=0,embedded:=false,tag := "",pkgPath := "",byteOffset:=0 } rfl
 have g1:=hf 1 { name := "Side",type:=23,offset:=1,embedded:=false,tag := "",pkgPath := "",byteOffset:=16 } rfl
 have g2:=hf 2 { name := "Kind",type:=33,offset:=2,embedded:=false,tag := "",pkgPath := "",byteOffset:=17 } rfl
 rw [show Tryz.prog.cellsOf 9=1 by kernel_rfl] at g0
 rw [show Tryz.prog.cellsOf 23=1 by kernel_rfl] at g1
 rw [show Tryz.prog.cellsOf 33=1 by kernel_rfl] at g2
 obtain ⟨y0,y1,y2,rfl⟩:=len3d (show xs.length=3 from hxl)
 obtain ⟨c0,c1,c2,rfl⟩:=len3d hl
 simp at g0 g1 g2
 obtain ⟨s,h0,hy0,_⟩:=DataW.trod_string Tryz.underlying9 g0
 obtain ⟨a,h1,_,w1⟩:=DataW.trod_int Tryz.underlying23 g1
 obtain ⟨b,h2,_,w2⟩:=DataW.trod_int Tryz.underlying33 g2
 obtain ⟨na,rfl,ha⟩:=nat_u8 w1
 obtain ⟨nb,rfl,hb⟩:=nat_u8 w2
 simp at h0 h1 h2
 subst h0 h1 h2
 refine ⟨⟨s,na,nb⟩,rfl,ha,hb,fun b hb => ?_⟩
 have:=hb s.data.toList.length (by
  simp only [DataW.weights,Tryz.underlying56,List.map_cons,List.map_nil]
  refine DataW.weights_mem_each (j:=0) (t:=9) (d:=y0.1) rfl rfl _ ?_
  rw [hy0]
  simp [DataW.weights])
 simpa using this
theorem flatD_len:∀ l:List Dcl,(flatD l).length=l.length*3
 | []=>rfl
 | d::r=>by
  have:=flatD_len r
  simp only [flatD,List.flatMap_cons,List.length_append,List.length_cons] at this ⊢
  rw [this]
  simp [dcells]
  omega
theorem flatD_at:∀ (l:List Dcl) (i j:Nat) (d:Dcl),l[i]?=some d→j<3→(flatD l)[i*3+j]?=(dcells d)[j]?
 | [],i,j,d,h,_=>by simp at h
 | x::r,0,j,d,h,hj=>by
  obtain rfl:x=d:=by simpa using h
  have hl:j<(dcells x).length:=by simpa [dcells] using hj
  simp only [flatD,List.flatMap_cons,Nat.zero_mul,Nat.zero_add]
  rw [List.getElem?_append_left hl]
 | x::r,i+1,j,d,h,hj=>by
  have h2:=flatD_at r i j d (by simpa using h) hj
  have hl:(dcells x).length=3:=rfl
  simp only [flatD,List.flatMap_cons] at h2 ⊢
  rw [List.getElem?_append_right (by rw [hl];omega),hl,show (i+1)*3+j-3=i*3+j by omega]
  exact h2
set_option maxRecDepth 100000 in
theorem open_decls {H:Type} {enc:TypeId × Value→H} {W:World} {base:Nat} {v:Value} {d:DataW H} {p:List MemPlace} (hv:Value.okWide Tryz.prog W .any base 22 v)
  (h1:DataW.Trod enc Tryz.prog W 0 (fun _=>true) true 22 v d p) (bd:Nat) (hw:∀ n∈d.weights Tryz.prog 22,n≤bd):∃ (a:Option Addr) (n cap:Nat) (ds:List Dcl),v=.slice a n cap∧n≤cap∧cap*24≤bd∧SeesD W (.slice a n cap) ds∧(∀ x∈ds,x.side<256∧x.kind<256)∧∀ x∈ds,x.name.size≤bd:=by
 obtain ⟨ad,len,cap,rfl⟩:=okWide_slice Tryz.underlying22 hv
 obtain ⟨fuel,hf⟩:=h1
 rcases open_slice Tryz.underlying22 hf with ⟨hcs,_⟩|⟨x,l,c,m,n,D,Pl,hcs,_,hl,hm,hmm,hd,hx⟩
 ·simp [Value.cells] at hcs
  obtain ⟨rfl,rfl,rfl⟩:=hcs
  exact ⟨none,0,0,[],rfl,Nat.le_refl _,by omega,⟨rfl,none,0,rfl,.inl rfl⟩,fun x hx=>by simp at hx,fun x hx=>by simp at hx⟩
 ·simp [Value.cells] at hcs
  obtain ⟨rfl,rfl,rfl⟩:=hcs
  have hmc:m=cap:=by simpa using hmm
  subst hmc
  have c3:Tryz.prog.cellsOf 56=3:=by kernel_rfl
  rw [c3] at hx
  simp only [Prod.mk.injEq] at hd
  obtain ⟨rfl,_⟩:=hd
  have each:∀ i,i<m→∃ y:Dcl,(∀ j c,(dcells y)[j]?=some c→W.cell? (x.add (i*3+j))=some c)∧(y.side<256∧y.kind<256)∧(i<len→y.name.size≤bd):=by
   intro i hi
   obtain ⟨cs',h1,h2⟩:=hx i hi
   obtain ⟨_,hlen,hcell⟩:=World.cells?_some h1
   obtain ⟨y,rfl,hs1,hs2,hok⟩:=open_decl hlen h2
   refine ⟨y,fun j c hj => ?_,⟨hs1,hs2⟩,fun hil=>hok _ fun n hn=>hw n ?_⟩
   ·have hj4:=(List.getElem?_eq_some_iff.1 hj).1
    have:=hcell j (by simpa [dcells] using hj4)
    rw [add_add] at this
    rw [this,←hj]
    rfl
   ·simp only [DataW.weights,Tryz.underlying22,List.mem_cons,List.mem_append]
    refine .inr (.inl (weights_in ?_ n hn))
    exact List.mem_map.2 ⟨i,List.mem_range.2 hil,rfl⟩
  obtain ⟨f,hf'⟩:=choose_lt each
  have hlf:((List.range len).map f).length=len:=by simp
  have hget:∀ i,i<len→((List.range len).map f)[i]?=some (f i):=fun i hi=>by
   rw [List.getElem?_map,List.getElem?_range hi]
   rfl
  have hwt:=hw (m*24) (by
   simp only [DataW.weights,Tryz.underlying22,bytesDcl,List.length_map,List.length_range,List.mem_cons]
   exact .inl (by congr 1;omega))
  refine ⟨some x,len,m,(List.range len).map f,rfl,hl,hwt,⟨by rw [flatD_len],some x,m,by rw [hlf],?_⟩,fun y hy => ?_,fun y hy => ?_⟩
  ·rw [hlf]
   by_cases h0:len=0
   ·exact .inl h0
   right
   obtain ⟨b,off,spot⟩:=x
   have hc:=(hf' 0 (by omega)).1 0 _ rfl
   have hspot:spot=none:=by simpa [Addr.add] using World.cell?_spot hc
   subst hspot
   refine ⟨b,off,rfl,fun j y hy => ?_⟩
   have hj:j<len*3:=by have:=(List.getElem?_eq_some_iff.1 hy).1;rw [flatD_len,hlf] at this;exact this
   have h2:=flatD_at _ (j / 3) (j % 3) (f (j / 3)) (hget _ (by omega)) (by omega)
   rw [show j / 3*3+j % 3=j by omega,hy] at h2
   have e:=(hf' (j / 3) (by omega)).1 (j % 3) y h2.symm
   rw [Addr.add_lit,show j / 3*3+j % 3=j by omega] at e
   exact e
  ·obtain ⟨j,hj,rfl⟩:=List.mem_map.1 hy
   have hjl:=List.mem_range.1 hj
   exact (hf' j (by omega)).2.1
  ·obtain ⟨j,hj,rfl⟩:=List.mem_map.1 hy
   have hjl:=List.mem_range.1 hj
   exact (hf' j (by omega)).2.2 hjl
end Go.Proofs.YtmekkhfohmfjkaaGreatDoor
