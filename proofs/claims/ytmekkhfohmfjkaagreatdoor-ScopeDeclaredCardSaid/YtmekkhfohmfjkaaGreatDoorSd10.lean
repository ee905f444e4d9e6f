/-
  Part 10 of the proof: PFit, RegZ.
-/
import Derived.Test.YtmekkhfohmfjkaaGreatDoorSd09
import Derived.Test.YtmekkhfohmfjkaaGreatDoorSd05
namespace Go.Proofs.YtmekkhfohmfjkaaGreatDoor
open Go.RowKit Go.Deep Go.MapKept
theorem not_num2 {s:ByteArray} {c:UInt8} {r:Txt} (h:s.data.toList=c::r) (h1:c≠45) (h2:¬ Dig c):¬ isNum s:=by
 rintro ⟨v,hv,e⟩
 rw [h] at e
 rcases ok_itoa hv.1 hv.2 with ⟨_,ok,_⟩|⟨_,ds,e2,_⟩
 ·exact h2 (ok.2.2.2.1 c (by rw [←e];simp))
 ·rw [e2] at e
  exact h1 (List.cons.inj e).1
theorem kind_letter {s:ByteArray} (h0:0<s.size) (hl:letter (sign s 0)=true):(kindW s==3)=nameB s:=by
 obtain ⟨c,r,hs⟩:∃ c r,s.data.toList=c::r:=by
  cases h:s.data.toList with
  | nil=>
   have:s.size=0:=by
    have:=congrArg List.length h
    simpa using this
   omega
  | cons c r=>exact ⟨c,r,rfl⟩
 have hc:sign s 0=(c.toNat:Int):=by
  unfold sign
  have:s.data[0]?=some c:=by rw [←Array.getElem?_toList,hs];rfl
  rw [Array.getD_eq_getD_getElem?,this]
  rfl
 rw [hc] at hl
 unfold letter at hl
 simp only [Bool.and_eq_true,decide_eq_true_eq] at hl
 have hnum:¬ isNum s:=not_num2 hs (by rintro rfl;simp at hl) (by
  unfold Dig
  intro hd
  have h1:=hd.2
  have:c.toNat≤57:=by simpa using h1
  omega)
 have hop:opB s=false:=by
  unfold opB
  rw [List.any_eq_false]
  intro i hi
  have hi':=List.mem_range.1 hi
  rw [beq_iff_eq,ByteArray.toList_eq,hs]
  intro e
  have e1:=(List.cons.inj e).1
  subst e1
  have hm:i=0∨i=1∨i=2∨i=3∨i=4∨i=5∨i=6∨i=7∨i=8∨i=9:=by omega
  rcases hm with rfl|rfl|rfl|rfl|rfl|rfl|rfl|rfl|rfl|rfl<;>simp [opc] at hl
 unfold kindW
 rw [if_neg hnum,hop,Bool.false_or]
 cases nameB s<;>rfl
theorem name_first {s:ByteArray} (h0:0<s.size) (hl:letter (sign s 0)=false):nameB s=false:=by
 unfold nameB
 have:(List.range s.size).all (fun i=>goodAt (sign s i) i)=false:=by
  rw [List.all_eq_false]
  exact ⟨0,List.mem_range.2 h0,by unfold goodAt;rw [hl];simp⟩
 rw [this];rfl
theorem name_empty:nameB ⟨#[]⟩=false:=by decide +kernel
theorem ba_empty {s:ByteArray} (h:¬ s=⟨#[]⟩):0<s.size∧(s.toList==[])=false:=by
 cases s with
 | mk d=>
  have hd:d≠#[]:=fun e=>h (by rw [e])
  have hz:0<d.size:=Array.size_pos_iff.2 hd
  refine ⟨hz,?_⟩
  rw [beq_eq_false_iff_ne,ByteArray.toList_eq]
  intro e
  exact hd (Array.toList_eq_nil_iff.1 (by simpa using e))
theorem zdE (s:ByteArray) (hs:s.size≤140737488355328) (w:World) (hL:Laid w):Calls Tryz.prog 147 #[.string s] w fun e w'=>e=.returned (.bool (nameB s))∧Below w.heap.size w w':=by
 by_cases he:s=⟨#[]⟩
 ·subst he
  rw [name_empty]
  clear hL
  go_enter Tryz.func147,Tryz.ntmps147
  go_wp2
  go_ret
  exact ⟨rfl,Below.refl _ _⟩
 ·obtain ⟨h0,he2⟩:=ba_empty he
  have hi:=sign_at s 0 h0
  simp only [Int.natCast_zero] at hi
  by_cases hl:letter (sign s 0)=true
  ·have HK:=hidI (kind_letter h0 hl)
   have C:=hidI (kind_any s hs w hL)
   unfold letter at hl
   simp only [Bool.and_eq_true,decide_eq_true_eq] at hl
   obtain ⟨l1,l2⟩:=hl
   obtain ⟨k,hk⟩:∃ k,kindW s=k:=⟨_,rfl⟩
   rw [hk] at HK C
   obtain ⟨b,hb⟩:∃ b,(k==3)=b:=⟨_,rfl⟩
   rw [hb] at HK
   rw [←HK.out]
   clear hL hk HK
   generalize sign s 0=c0 at hi l1 l2
   go_enter Tryz.func147,Tryz.ntmps147
   go_wp2_with (go_at_call 57;refine C.out.mono ?_;rintro e w1 ⟨rfl,hb1⟩;clear C)
   go_ret
   exact ⟨rfl,hb1⟩
  ·have hl2:letter (sign s 0)=false:=by simpa using hl
   rw [name_first h0 hl2]
   unfold letter at hl2
   generalize sign s 0=c0 at hi hl2
   clear hL hl
   by_cases l1:97≤c0
   ·have l2:¬ c0≤122:=by simpa [l1] using hl2
    clear hl2
    go_enter Tryz.func147,Tryz.ntmps147
    go_wp2
    go_ret
    exact ⟨rfl,Below.refl _ _⟩
   ·clear hl2
    go_enter Tryz.func147,Tryz.ntmps147
    go_wp2
    go_ret
    exact ⟨rfl,Below.refl _ _⟩
theorem isName2_any (s:ByteArray) (hs:s.size≤140737488355328) (w:World) (hL:Laid w):Calls Tryz.prog 35 #[.string s] w fun e w'=>e=.returned (.bool (nameB s))∧Below w.heap.size w w':=by
 by_cases he:s=⟨#[]⟩
 ·subst he
  rw [name_empty]
  clear hL
  go_enter Tryz.func35,Tryz.ntmps35
  go_wp2
  go_ret
  exact ⟨rfl,Below.refl _ _⟩
 ·obtain ⟨h0,he2⟩:=ba_empty he
  have hi:=sign_at s 0 h0
  simp only [Int.natCast_zero] at hi
  by_cases hl:letter (sign s 0)=true
  ·have HK:=hidI (kind_letter h0 hl)
   have C:=hidI (kind_any s hs w hL)
   unfold letter at hl
   simp only [Bool.and_eq_true,decide_eq_true_eq] at hl
   obtain ⟨l1,l2⟩:=hl
   obtain ⟨k,hk⟩:∃ k,kindW s=k:=⟨_,rfl⟩
   rw [hk] at HK C
   obtain ⟨b,hb⟩:∃ b,(k==3)=b:=⟨_,rfl⟩
   rw [hb] at HK
   rw [←HK.out]
   clear hL hk HK
   generalize sign s 0=c0 at hi l1 l2
   go_enter Tryz.func35,Tryz.ntmps35
   go_wp2_with (go_at_call 57;refine C.out.mono ?_;rintro e w1 ⟨rfl,hb1⟩;clear C)
   go_ret
   exact ⟨rfl,hb1⟩
  ·have hl2:letter (sign s 0)=false:=by simpa using hl
   rw [name_first h0 hl2]
   unfold letter at hl2
   generalize sign s 0=c0 at hi hl2
   clear hL hl
   by_cases l1:97≤c0
   ·have l2:¬ c0≤122:=by simpa [l1] using hl2
    clear hl2
    go_enter Tryz.func35,Tryz.ntmps35
    go_wp2
    go_ret
    exact ⟨rfl,Below.refl _ _⟩
   ·clear hl2
    go_enter Tryz.func35,Tryz.ntmps35
    go_wp2
    go_ret
    exact ⟨rfl,Below.refl _ _⟩
def ptL (s:ByteArray):List Nat:=s.data.toList.map UInt8.toNat
theorem ptL_len (s:ByteArray):(ptL s).length=s.size:=by simp [ptL]
theorem ptL_get (s:ByteArray) (i:Nat) (h:i<s.size):(((ptL s).getD i 0:Nat):Int)=sign s i:=by
 have hd:i<s.data.size:=h
 unfold ptL sign
 rw [List.getD_eq_getElem?_getD,List.getElem?_map,Array.getElem?_toList,Array.getD_eq_getD_getElem?,Array.getElem?_eq_getElem hd]
 rfl
theorem nth_any (s pt:ByteArray) (h0:0<pt.size) (hb:pt.size≤1000) (i:Nat) (w:World):Calls Tryz.prog 122 #[.agg #[.string s,.string pt],.int .i64 (i:Int)] w fun e w'=>e=.returned (.int .i32 (nthP (ptL pt) i:Int))∧Below w.heap.size w w':=by
 have HR:Hid ((nthP (ptL pt) i:Int)=sign pt (min i (pt.size-1))):=hidI (by
  unfold nthP
  rw [ptL_len]
  exact ptL_get pt _ (by omega))
 rw [HR.out]
 have hx:=sign_at pt (min i (pt.size-1)) (by omega)
 have hsb:0≤sign pt (min i (pt.size-1))∧sign pt (min i (pt.size-1))≤255:=by
  unfold sign
  have:=(pt.data.getD (min i (pt.size-1)) 0).toNat_lt
  omega
 obtain ⟨n,hn⟩:∃ n,pt.size=n:=⟨_,rfl⟩
 have ql:∀ w,(Builtin.len_ #[9] 3 #[.string pt]).run Tryz.prog w=.ok (.int .i64 (n:Int)) w:=fun w=>by rw [run_len_string w 9 3 pt Tryz.underlying9,hn];rfl
 rw [hn] at hx hsb h0 hb
 rw [hn]
 obtain ⟨j,hj⟩:∃ j:Nat,min i (n-1)=j:=⟨_,rfl⟩
 rw [hj] at hx hsb
 rw [hj]
 have e1:min (i:Int) ((n:Int)-1)=(j:Int):=by omega
 generalize sign pt j=c0 at hx hsb
 clear HR hn hj
 go_enter Tryz.func122,Tryz.ntmps122
 go_wp2
 go_ret
 exact ⟨rfl,by exact belowT⟩
theorem leastP_snoc (l:List Nat) (x:Nat):leastP (l++[x])=leastP l+(if x=99∨x=115 then 0 else 1):=by simp [leastP]
theorem mostP_snoc (l:List Nat) (x:Nat):mostP (l++[x])=mostP l+(if x=97 then 6 else if x=115 then 400 else 1):=by simp [mostP]
set_option maxHeartbeats 1000000 in
theorem fits_any (s pt:ByteArray) (hasc:∀ (i:Nat) (h:i<pt.size),(pt[i]'h).toNat<128) (hb:pt.size≤10) (many:Nat) (w:World):Calls Tryz.prog 120 #[.agg #[.string s,.string pt],.int .i64 (many:Int)] w fun e w'=>e=.returned (.bool (fitsP (ptL pt) many))∧Below w.heap.size w w':=by
 obtain ⟨n,hn⟩:∃ n,pt.size=n:=⟨_,rfl⟩
 have HN:=hidI hn
 have HASC:=hidI hasc
 have QE:Hid (∀ ty,(Instr.next (.pointer (some ⟨w.heap.size+1,0,none⟩)) true ty).run Tryz.prog ((w.alloc (.cells #[.string s,.string pt] 151)).iter pt n)=.ok (.tuple #[.bool false]) ((w.alloc (.cells #[.string s,.string pt] 151)).iter pt n)):=hidI fun ty=>by have:=run_next_end (P:=Tryz.prog) (w.alloc (.cells #[.string s,.string pt] 151)) pt n ty (by omega);simpa using this
 have QN:Hid (∀ pos ty,pos<n→(Instr.next (.pointer (some ⟨w.heap.size+1,0,none⟩)) true ty).run Tryz.prog ((w.alloc (.cells #[.string s,.string pt] 151)).iter pt pos)=.ok (.tuple #[.bool true,.int .i64 pos,.int .i32 (Utf8.decode pt pos).1]) ((w.alloc (.cells #[.string s,.string pt] 151)).iter pt (pos+(Utf8.decode pt pos).2))):=hidI fun pos ty h=>by have:=run_next_any (P:=Tryz.prog) (w.alloc (.cells #[.string s,.string pt] 151)) pt pos ty (by omega);simpa using this
 have HB:Hid (∀ pos,Below w.heap.size w ((w.alloc (.cells #[.string s,.string pt] 151)).iter pt pos)):=hidI fun pos=>((Below.refl _ _).alloc (Nat.le_refl _) _).alloc (by simp) _
 rw [hn] at hb
 clear hn hasc
 go_enter Tryz.func120,Tryz.ntmps120
 go_wp2
 go_loopg [5,6] n (fun g s5 s6 wx=>∃ pos L M:Nat,pos+g=n∧(w.alloc (.cells #[.string s,.string pt] 151)).iter pt pos=wx∧s5=.int .i64 (L:Int)∧s6=.int .i64 (M:Int)∧Hid (L=leastP ((ptL pt).take pos))∧Hid (M=mostP ((ptL pt).take pos))∧L≤pos∧M≤400*pos)
 case atStart=>exact ⟨0,0,0,by omega,rfl,rfl,rfl,hidI rfl,hidI rfl,by omega,by omega⟩
 case round=>
  obtain ⟨pos,L,M,hpg,rfl,rfl,rfl,HA,HA2,hLb,hMb⟩:=hrel
  cases gk with
  | zero=>
   obtain rfl:n=pos:=by omega
   have qe:=QE.out
   have hfull:(ptL pt).take n=ptL pt:=List.take_of_length_le (by rw [ptL_len,HN.out];omega)
   have HF:Hid (fitsP (ptL pt) many=(decide ((L:Int)≤(many:Int)) && decide ((many:Int)≤(M:Int)))):=hidI (by
    unfold fitsP
    rw [←hfull,←HA.out,←HA2.out]
    simp)
   clear HA HA2 hfull
   by_cases h1:(L:Int)≤(many:Int)
   ·by_cases h2:(many:Int)≤(M:Int)
    ·have HF2:Hid (fitsP (ptL pt) many=true):=hidI (by rw [HF.out,decide_eq_true h1,decide_eq_true h2];rfl)
     clear HF
     go_wp2
     go_ret
     exact ⟨by rw [HF2.out];rfl,HB.out _⟩
    ·have HF2:Hid (fitsP (ptL pt) many=false):=hidI (by rw [HF.out,decide_eq_true h1,decide_eq_false h2];rfl)
     clear HF
     go_wp2
     go_ret
     exact ⟨by rw [HF2.out];rfl,HB.out _⟩
   ·have HF2:Hid (fitsP (ptL pt) many=false):=hidI (by rw [HF.out,decide_eq_false h1];rfl)
    clear HF
    go_wp2
    go_ret
    exact ⟨by rw [HF2.out];rfl,HB.out _⟩
  | succ g=>
   have hlt:pos<n:=by omega
   have qn:=fun ty=>QN.out pos ty hlt
   have hlt':pos<pt.size:=by have:=HN.out;omega
   have hd:=decode_ascii pt pos hlt' (HASC.out pos hlt')
   rw [hd] at qn
   obtain ⟨c,hcc⟩:∃ c:Nat,(pt[pos]'hlt').toNat=c:=⟨_,rfl⟩
   have hg:(ptL pt)[pos]?=some c:=by
    have hd:pos<pt.data.size:=hlt'
    unfold ptL
    rw [List.getElem?_map,Array.getElem?_toList,Array.getElem?_eq_getElem hd]
    exact congrArg some hcc
   have HT:Hid (leastP ((ptL pt).take (pos+1))=L+(if c=99∨c=115 then 0 else 1)∧mostP ((ptL pt).take (pos+1))=M+(if c=97 then 6 else if c=115 then 400 else 1)):=hidI (by
    rw [List.take_add_one,hg]
    simp only [Option.toList]
    rw [leastP_snoc,mostP_snoc,←HA.out,←HA2.out]
    exact ⟨rfl,rfl⟩)
   rw [hcc] at qn
   simp only at qn
   clear hd hcc hg HA HA2
   by_cases c1:c=99
   ·subst c1
    go_wp2
    go_roundg g
    case measure=>omega
    case rel=>exact ⟨pos+1,L,M+1,by omega,rfl,rfl,by go_num,hidI (by rw [HT.out.1];simp),hidI (by rw [HT.out.2];simp),by omega,by omega⟩
   by_cases c2:c=97
   ·subst c2
    go_wp2
    go_roundg g
    case measure=>omega
    case rel=>exact ⟨pos+1,L+1,M+6,by omega,rfl,by go_num,by go_num,hidI (by rw [HT.out.1];simp),hidI (by rw [HT.out.2];simp),by omega,by omega⟩
   by_cases c3:c=115
   ·subst c3
    go_wp2
    go_roundg g
    case measure=>omega
    case rel=>exact ⟨pos+1,L,M+400,by omega,rfl,rfl,by go_num,hidI (by rw [HT.out.1];simp),hidI (by rw [HT.out.2];simp),by omega,by omega⟩
   ·have d1:((c:Int)==99)=false:=by rw [beq_eq_false_iff_ne];omega
    have d2:((c:Int)==97)=false:=by rw [beq_eq_false_iff_ne];omega
    have d3:((c:Int)==115)=false:=by rw [beq_eq_false_iff_ne];omega
    have HT2:Hid (leastP ((ptL pt).take (pos+1))=L+1∧mostP ((ptL pt).take (pos+1))=M+1):=hidI (by rw [HT.out.1,HT.out.2];simp [c1,c2,c3])
    clear HT
    go_wp2
    go_roundg g
    case measure=>omega
    case rel=>exact ⟨pos+1,L+1,M+1,by omega,rfl,by go_num,by go_num,hidI HT2.out.1.symm,hidI HT2.out.2.symm,by omega,by omega⟩
@[go_sem] def opsON:Nat→Oper
 | 0=>⟨some 33,.move (.tmp 1),217, "read.go:136",#[],none⟩
 | 1=>⟨some 34,.move (.tmp 0),164, "read.go:136",#[],none⟩
 | 2=>⟨some 35,.nilCheck (.tmp 34),0, "read.go:136",#[⟨1,.data⟩],none⟩
 | 3=>⟨some 36,.fieldAddr 109 (.tmp 35) 0,0, "read.go:136",#[⟨2,.data⟩],none⟩
 | 4=>⟨some 37,.fieldAddr 106 (.tmp 36) 4,0, "read.go:136",#[⟨3,.data⟩],none⟩
 | 5=>⟨some 38,.load 104 (.tmp 37),104, "read.go:136",#[⟨4,.data⟩],none⟩
 | 6=>⟨some 39,.fieldAddr 115 (.tmp 8) 1,0, "read.go:136",#[],none⟩
 | 7=>⟨some 40,.load 9 (.tmp 39),9, "read.go:136",#[⟨6,.data⟩],none⟩
 | 8=>⟨some 41,.lookup 104 (.tmp 38) (.tmp 40) false,75, "read.go:136",#[⟨5,.data⟩,⟨7,.data⟩],none⟩
 | 9=>⟨some 42,.nilCheck (.tmp 33),0, "read.go:136",#[⟨0,.data⟩,⟨0,.phase⟩,⟨1,.phase⟩,⟨2,.phase⟩,⟨3,.phase⟩,⟨4,.phase⟩,⟨5,.phase⟩,⟨6,.phase⟩,⟨7,.phase⟩,⟨8,.phase⟩],none⟩
 | 10=>⟨some 43,.fieldAddr 170 (.tmp 42) 1,0, "read.go:136",#[⟨9,.data⟩,⟨0,.phase⟩,⟨1,.phase⟩,⟨2,.phase⟩,⟨3,.phase⟩,⟨4,.phase⟩,⟨5,.phase⟩,⟨6,.phase⟩,⟨7,.phase⟩,⟨8,.phase⟩],none⟩
 | _=>⟨none,.store 75 (.tmp 43) (.tmp 41),0, "read.go:136",#[⟨10,.data⟩,⟨8,.data⟩,⟨0,.phase⟩,⟨1,.phase⟩,⟨2,.phase⟩,⟨3,.phase⟩,⟨4,.phase⟩,⟨5,.phase⟩,⟨6,.phase⟩,⟨7,.phase⟩,⟨8,.phase⟩],none⟩
def opsO:Array Oper:=opsA opsON 11
theorem opsO_0:opsO[0]?=some (opsON 0):=zaA opsON 11 (by decide)
theorem opsO_1:opsO[1]?=some (opsON 1):=zaA opsON 11 (by decide)
theorem opsO_2:opsO[2]?=some (opsON 2):=zaA opsON 11 (by decide)
theorem opsO_3:opsO[3]?=some (opsON 3):=zaA opsON 11 (by decide)
theorem opsO_4:opsO[4]?=some (opsON 4):=zaA opsON 11 (by decide)
theorem opsO_5:opsO[5]?=some (opsON 5):=zaA opsON 11 (by decide)
theorem opsO_6:opsO[6]?=some (opsON 6):=zaA opsON 11 (by decide)
theorem opsO_7:opsO[7]?=some (opsON 7):=zaA opsON 11 (by decide)
theorem opsO_8:opsO[8]?=some (opsON 8):=zaA opsON 11 (by decide)
theorem opsO_9:opsO[9]?=some (opsON 9):=zaA opsON 11 (by decide)
theorem opsO_10:opsO[10]?=some (opsON 10):=zaA opsON 11 (by decide)
theorem opsO_11:opsO[11]?=some (opsON 11):=zaA opsON 11 (by decide)
set_option maxRecDepth 100000 in
set_option maxHeartbeats 2000000 in
theorem regO {x2 x3 x4 x5 x6 x7 x9 x10 x11 x12 x13 x14 x15 x16 x17 x18 x19 x20 x21 x22 x23 x24 x25 x26 x27 x28 x29 x30 x31 x32 x33 x34 x35 x36 x37 x38 x39 x40 x41 x42 x43 x44 x45 x46 x47 x48 x49 x50 x51 x52 x53 x54 x55 x56 x57 x58 x59 x60 x61 x62 x63 x64 x65 x66 x67 x68 x69 x70 x71 x72 x73 x74 x75 x76 x77 x78 x79 x80 x81 x82 x83 x84 x85 x86 x87 x88 x89 x90 x91 x92 x93 x94 x95 x96 x97 x98 x99 x100 x101 x102 x103 x104 x105 x106 x107 x108 x109 x110 x111 x112 x113 x114 x115:Value} {Q:Exit→Act→World→Prop} {V0:World} {B cb fb mo:Nat} {s:ByteArray} {o:Int} {u:Value}
  (hS0:(V0.drew.cell? ⟨B,4,none⟩=some (.map (some mo))∧V0.drew.cell? ⟨fb,1,none⟩=some (.string s)∧(Instr.lookup 104 (.map (some mo)) (.string s) false).run Tryz.prog V0.drew=.ok (.int .u8 o) V0.drew)) (hu:V0.drew.cell? ⟨cb,1,none⟩=some u) (hf:V0.drew.frozen? ⟨cb,1,none⟩=false)
  (hpan:∀ c (a:Act) w (dd:Tmp) vv,Q (.panic c) (a.put (some dd) vv) w→Q (.panic c) a w)
  (HQ:Hid (∀ (t33 t34 t35 t36 t37 t38 t39 t40 t41 t42 t43:Value),Q .normal { tmps:=#[.pointer (some ⟨B,0,none⟩),.pointer (some ⟨cb,0,none⟩),x2,x3,x4,x5,x6,x7,.pointer (some ⟨fb,0,none⟩),x9,x10,x11,x12,x13,x14,x15,x16,x17,x18,x19,x20,x21,x22,x23,x24,x25,x26,x27,x28,x29,x30,x31,x32,t33,t34,t35,t36,t37,t38,t39,t40,t41,t42,t43,x44,x45,x46,x47,x48,x49,x50,x51,x52,x53,x54,x55,x56,x57,x58,x59,x60,x61,x62,x63,x64,x65,x66,x67,x68,x69,x70,x71,x72,x73,x74,x75,x76,x77,x78,x79,x80,x81,x82,x83,x84,x85,x86,x87,x88,x89,x90,x91,x92,x93,x94,x95,x96,x97,x98,x99,x100,x101,x102,x103,x104,x105,x106,x107,x108,x109,x110,x111,x112,x113,x114,x115],defers:=[] } (V0.drew.setCell ⟨cb,1,none⟩ (.int .u8 o)))) :
  (Code.region 6 opsO true).wp Tryz.prog Q { tmps:=#[.pointer (some ⟨B,0,none⟩),.pointer (some ⟨cb,0,none⟩),x2,x3,x4,x5,x6,x7,.pointer (some ⟨fb,0,none⟩),x9,x10,x11,x12,x13,x14,x15,x16,x17,x18,x19,x20,x21,x22,x23,x24,x25,x26,x27,x28,x29,x30,x31,x32,x33,x34,x35,x36,x37,x38,x39,x40,x41,x42,x43,x44,x45,x46,x47,x48,x49,x50,x51,x52,x53,x54,x55,x56,x57,x58,x59,x60,x61,x62,x63,x64,x65,x66,x67,x68,x69,x70,x71,x72,x73,x74,x75,x76,x77,x78,x79,x80,x81,x82,x83,x84,x85,x86,x87,x88,x89,x90,x91,x92,x93,x94,x95,x96,x97,x98,x99,x100,x101,x102,x103,x104,x105,x106,x107,x108,x109,x110,x111,x112,x113,x114,x115],defers:=[] } V0:=by
 obtain ⟨V,hV⟩:∃ V,V0.drew=V:=⟨_,rfl⟩
 refine zbE (fun y=>(y.cell? ⟨B,4,none⟩=some (.map (some mo))∧y.cell? ⟨fb,1,none⟩=some (.string s)∧(Instr.lookup 104 (.map (some mo)) (.string s) false).run Tryz.prog y=.ok (.int .u8 o) y)) 11 Tryz.mixed ?_
 rw [hV] at hS0 hu hf HQ ⊢
 clear hV
 have HPan:=hidI hpan
 clear hpan
 refine zaF [9,10,11] (i:=0) (v:=(.pointer (some ⟨cb,0,none⟩))) opsO_0 HPan.out hS0 (fun y hy => ?_) ?_
 ·go_simp
 refine zaF [2,3,4,5,8,9,10,11] (i:=1) (v:=(.pointer (some ⟨B,0,none⟩))) opsO_1 HPan.out hS0 (fun y hy => ?_) ?_
 ·go_simp
 refine zaF [3,4,5,8,9,10,11] (i:=2) (v:=(.pointer (some ⟨B,0,none⟩))) opsO_2 HPan.out hS0 (fun y hy => ?_) ?_
 ·go_simp
 refine zaF [4,5,8,9,10,11] (i:=3) (v:=(.pointer (some ⟨B,0,none⟩))) opsO_3 HPan.out hS0 (fun y hy => ?_) ?_
 ·go_simp
 refine zaF [5,8,9,10,11] (i:=4) (v:=(.pointer (some ⟨B,4,none⟩))) opsO_4 HPan.out hS0 (fun y hy => ?_) ?_
 ·go_simp
 refine zaF [8,9,10,11] (i:=5) (v:=(.map (some mo))) opsO_5 HPan.out hS0 (fun y hy => ?_) ?_
 ·obtain ⟨y0,y1,y2⟩:=hy;go_simp
 refine zaF [7,8,9,10,11] (i:=6) (v:=(.pointer (some ⟨fb,1,none⟩))) opsO_6 HPan.out hS0 (fun y hy => ?_) ?_
 ·go_simp
 refine zaF [8,9,10,11] (i:=7) (v:=(.string s)) opsO_7 HPan.out hS0 (fun y hy => ?_) ?_
 ·obtain ⟨y0,y1,y2⟩:=hy;go_simp
 refine zaF [9,10,11] (i:=8) (v:=(.int .u8 o)) opsO_8 HPan.out hS0 (fun y hy => ?_) ?_
 ·obtain ⟨y0,y1,y2⟩:=hy;go_simp
 refine zaF [10,11] (i:=9) (v:=(.pointer (some ⟨cb,0,none⟩))) opsO_9 HPan.out hS0 (fun y hy => ?_) ?_
 ·go_simp
 refine zaF [11] (i:=10) (v:=(.pointer (some ⟨cb,1,none⟩))) opsO_10 HPan.out hS0 (fun y hy => ?_) ?_
 ·go_simp
 refine zbN (by kernel_rfl) (by kernel_rfl) ?_ _
 refine zaN opsO_11 rfl fun K1 hK1 => ?_
 unfold Oper.wp
 go_simp
 refine hK1 _ _ ?_
 exact HQ.out _ _ _ _ _ _ _ _ _ _ _
@[go_sem] def opsCN:Nat→Oper
 | 0=>⟨some 28,.move (.tmp 0),164, "read.go:105",#[],none⟩
 | 1=>⟨some 29,.move (.tmp 0),164, "read.go:105",#[],none⟩
 | 2=>⟨some 30,.move (.tmp 0),164, "read.go:105",#[],none⟩
 | 3=>⟨some 31,.nilCheck (.tmp 30),0, "read.go:105",#[⟨2,.data⟩],none⟩
 | 4=>⟨some 32,.fieldAddr 109 (.tmp 31) 1,0, "read.go:105",#[⟨3,.data⟩],none⟩
 | 5=>⟨some 33,.load 66 (.tmp 32),66, "read.go:105",#[⟨4,.data⟩],none⟩
 | 6=>⟨some 34,.move (.tmp 10),3, "read.go:105",#[],none⟩
 | 7=>⟨some 35,.indexAddr 66 (.tmp 33) (.tmp 34),0, "read.go:105",#[⟨5,.data⟩,⟨6,.data⟩],none⟩
 | 8=>⟨some 36,.load 115 (.tmp 35),115, "read.go:105",#[⟨7,.data⟩],none⟩
 | 9=>⟨some 37,.load 151 (.tmp 7),151, "read.go:105",#[],none⟩
 | 10=>⟨some 38,.move (.tmp 9),3, "read.go:105",#[],none⟩
 | 11=>⟨some 39,.call ⟨.value (.func 122),#[.tmp 37,.tmp 38],#[151,3]⟩,21, "read.go:105",#[⟨9,.data⟩,⟨10,.data⟩],none⟩
 | 12=>⟨some 40,.call ⟨.value (.func 121),#[.tmp 29,.tmp 36,.tmp 39],#[164,115,21]⟩,4, "read.go:105",#[⟨1,.data⟩,⟨8,.data⟩,⟨11,.data⟩,⟨11,.chain⟩],none⟩
 | 13=>⟨some 41,.move (.tmp 1),3, "read.go:105",#[],none⟩
 | _=>⟨some 42,.call ⟨.value (.func 91),#[.tmp 28,.tmp 40,.tmp 41],#[164,4,3]⟩,0, "read.go:105",#[⟨0,.data⟩,⟨12,.data⟩,⟨13,.data⟩,⟨12,.chain⟩],none⟩
def opsC:Array Oper:=opsA opsCN 14
theorem opsC_0:opsC[0]?=some (opsCN 0):=zaA opsCN 14 (by decide)
theorem opsC_1:opsC[1]?=some (opsCN 1):=zaA opsCN 14 (by decide)
theorem opsC_2:opsC[2]?=some (opsCN 2):=zaA opsCN 14 (by decide)
theorem opsC_3:opsC[3]?=some (opsCN 3):=zaA opsCN 14 (by decide)
theorem opsC_4:opsC[4]?=some (opsCN 4):=zaA opsCN 14 (by decide)
theorem opsC_5:opsC[5]?=some (opsCN 5):=zaA opsCN 14 (by decide)
theorem opsC_6:opsC[6]?=some (opsCN 6):=zaA opsCN 14 (by decide)
theorem opsC_7:opsC[7]?=some (opsCN 7):=zaA opsCN 14 (by decide)
theorem opsC_8:opsC[8]?=some (opsCN 8):=zaA opsCN 14 (by decide)
theorem opsC_9:opsC[9]?=some (opsCN 9):=zaA opsCN 14 (by decide)
theorem opsC_10:opsC[10]?=some (opsCN 10):=zaA opsCN 14 (by decide)
theorem opsC_11:opsC[11]?=some (opsCN 11):=zaA opsCN 14 (by decide)
theorem opsC_12:opsC[12]?=some (opsCN 12):=zaA opsCN 14 (by decide)
theorem opsC_13:opsC[13]?=some (opsCN 13):=zaA opsCN 14 (by decide)
theorem opsC_14:opsC[14]?=some (opsCN 14):=zaA opsCN 14 (by decide)
set_option maxRecDepth 100000 in
set_option maxHeartbeats 2000000 in
theorem regC {x2 x3 x4 x5 x6 x8 x11 x12 x13 x14 x15 x16 x17 x18 x19 x20 x21 x22 x23 x24 x25 x26 x27 x28 x29 x30 x31 x32 x33 x34 x35 x36 x37 x38 x39 x40 x41 x42 x43 x44 x45 x46 x47 x48 x49 x50 x51 x52 x53 x54 x55 x56 x57 x58 x59:Value} {Q:Exit→Act→World→Prop} {V0:World} {B sb g o fl fc kid:Nat} {s sw sp:ByteArray} {k nn pp at_ ix pc:Int} {kv:Value} {r:Bool}
  (c0:V0.drew.cell? ⟨B,5,none⟩=some (.slice (some ⟨g,o,none⟩) fl fc)) (c1:V0.drew.cell? ⟨g,o+kid*5,none⟩=some (.int .u8 k)) (c2:V0.drew.cell? ⟨g,o+kid*5+1,none⟩=some (.string s)) (c3:V0.drew.cell? ⟨g,o+kid*5+2,none⟩=some (.int .i64 nn)) (c4:V0.drew.cell? ⟨g,o+kid*5+3,none⟩=some (kv)) (c5:V0.drew.cell? ⟨g,o+kid*5+4,none⟩=some (.int .i64 pp)) (c6:V0.drew.cell? ⟨sb,0,none⟩=some (.string sw)) (c7:V0.drew.cell? ⟨sb,1,none⟩=some (.string sp)) (e1:(kid:Int)<(fl:Int)) (e2:(0:Int)≤(kid:Int)) (hS0:Below V0.drew.heap.size V0.drew V0.drew)
  (HC1:Hid (∀ W,Calls Tryz.prog 122 #[.agg #[.string sw,.string sp],.int .i64 ix] W fun e w'=>e=.returned (.int .i32 pc)∧Below W.heap.size W w'))
  (HC2:Hid (∀ W,Below V0.drew.heap.size V0.drew W→Calls Tryz.prog 121 #[.pointer (some ⟨B,0,none⟩),.agg #[.int .u8 k,.string s,.int .i64 nn,kv,.int .i64 pp],.int .i32 pc] W fun e w'=>e=.returned (.bool r)∧Below V0.drew.heap.size V0.drew w'))
  (HC3:Hid (∀ W,Below V0.drew.heap.size V0.drew W→Calls Tryz.prog 91 #[.pointer (some ⟨B,0,none⟩),.bool r,.int .i64 at_] W fun e w'=>(e=.returned (.tuple #[])∧Below V0.drew.heap.size V0.drew w'∧r=true)∨(∃ ch,e=.panicked ch∧∀ a:Act,a.defers=[]→Q (.panic ch) a w')))
  (hpan:∀ c (a:Act) w (dd:Tmp) vv,Q (.panic c) (a.put (some dd) vv) w→Q (.panic c) a w)
  (HQ:Hid (∀ (W:World) (t28 t29 t30 t31 t32 t33 t34 t35 t36 t37 t38 t39 t40 t41 t42:Value),r=true→Below V0.drew.heap.size V0.drew W→Q .normal { tmps:=#[.pointer (some ⟨B,0,none⟩),.int .i64 at_,x2,x3,x4,x5,x6,.pointer (some ⟨sb,0,none⟩),x8,.int .i64 ix,.int .i64 (kid:Int),x11,x12,x13,x14,x15,x16,x17,x18,x19,x20,x21,x22,x23,x24,x25,x26,x27,t28,t29,t30,t31,t32,t33,t34,t35,t36,t37,t38,t39,t40,t41,t42,x43,x44,x45,x46,x47,x48,x49,x50,x51,x52,x53,x54,x55,x56,x57,x58,x59],defers:=[] } W)) :
  (Code.region 5 opsC true).wp Tryz.prog Q { tmps:=#[.pointer (some ⟨B,0,none⟩),.int .i64 at_,x2,x3,x4,x5,x6,.pointer (some ⟨sb,0,none⟩),x8,.int .i64 ix,.int .i64 (kid:Int),x11,x12,x13,x14,x15,x16,x17,x18,x19,x20,x21,x22,x23,x24,x25,x26,x27,x28,x29,x30,x31,x32,x33,x34,x35,x36,x37,x38,x39,x40,x41,x42,x43,x44,x45,x46,x47,x48,x49,x50,x51,x52,x53,x54,x55,x56,x57,x58,x59],defers:=[] } V0:=by
 obtain ⟨V,hV⟩:∃ V,V0.drew=V:=⟨_,rfl⟩
 refine zbE (fun y=>Below V0.drew.heap.size V0.drew y) 14 Tryz.mixed ?_
 rw [hV] at c0 c1 c2 c3 c4 c5 c6 c7 hS0 HC2 HC3 HQ ⊢
 clear hV
 have HPan:=hidI hpan
 clear hpan
 refine zaF [14] (i:=0) (v:=(.pointer (some ⟨B,0,none⟩))) opsC_0 HPan.out hS0 (fun y hy => ?_) ?_
 ·go_simp
 refine zaF [12,14] (i:=1) (v:=(.pointer (some ⟨B,0,none⟩))) opsC_1 HPan.out hS0 (fun y hy => ?_) ?_
 ·go_simp
 refine zaF [3,4,5,7,8,12,14] (i:=2) (v:=(.pointer (some ⟨B,0,none⟩))) opsC_2 HPan.out hS0 (fun y hy => ?_) ?_
 ·go_simp
 refine zaF [4,5,7,8,12,14] (i:=3) (v:=(.pointer (some ⟨B,0,none⟩))) opsC_3 HPan.out hS0 (fun y hy => ?_) ?_
 ·go_simp
 refine zaF [5,7,8,12,14] (i:=4) (v:=(.pointer (some ⟨B,5,none⟩))) opsC_4 HPan.out hS0 (fun y hy => ?_) ?_
 ·go_simp
 refine zaF [7,8,12,14] (i:=5) (v:=(.slice (some ⟨g,o,none⟩) fl fc)) opsC_5 HPan.out hS0 (fun y hy => ?_) ?_
 ·have q0:=(hy.cell (World.block_lt_of_cell? V _ c0)).trans c0;go_simp
 refine zaF [7,8,12,14] (i:=6) (v:=(.int .i64 (kid:Int))) opsC_6 HPan.out hS0 (fun y hy => ?_) ?_
 ·go_simp
 refine zaF [8,12,14] (i:=7) (v:=(.pointer (some ⟨g,o+kid*5,none⟩))) opsC_7 HPan.out hS0 (fun y hy => ?_) ?_
 ·go_simp
 refine zaF [12,14] (i:=8) (v:=(.agg #[.int .u8 k,.string s,.int .i64 nn,kv,.int .i64 pp])) opsC_8 HPan.out hS0 (fun y hy => ?_) ?_
 ·have q1:=(hy.cell (World.block_lt_of_cell? V _ c1)).trans c1;have q2:=(hy.cell (World.block_lt_of_cell? V _ c2)).trans c2;have q3:=(hy.cell (World.block_lt_of_cell? V _ c3)).trans c3;have q4:=(hy.cell (World.block_lt_of_cell? V _ c4)).trans c4;have q5:=(hy.cell (World.block_lt_of_cell? V _ c5)).trans c5;go_simp
 refine zaF [11,12,14] (i:=9) (v:=(.agg #[.string sw,.string sp])) opsC_9 HPan.out hS0 (fun y hy => ?_) ?_
 ·have q6:=(hy.cell (World.block_lt_of_cell? V _ c6)).trans c6;have q7:=(hy.cell (World.block_lt_of_cell? V _ c7)).trans c7;go_simp
 refine zaF [11,12,14] (i:=10) (v:=(.int .i64 ix)) opsC_10 HPan.out hS0 (fun y hy => ?_) ?_
 ·go_simp
 refine zaF [14] (i:=13) (v:=(.int .i64 at_)) opsC_13 HPan.out hS0 (fun y hy => ?_) ?_
 ·go_simp
 refine zbB (rs:=[11]) (by kernel_rfl) (by simp) fun j11 hj11 => ?_
 obtain rfl:j11=11:=by simpa using hj11
 refine zaN opsC_11 rfl fun K1 hK1 => ?_
 unfold Oper.wp
 go_simp
 refine Calls.mono (HC1.out V) ?_
 intro e W1 h1
 obtain ⟨rfl,hb1⟩:=h1
 refine hK1 _ _ ⟨fun _=>hb1,?_⟩
 clear hK1 K1
 refine zbB (rs:=[12]) (by kernel_rfl) (by simp) fun j12 hj12 => ?_
 obtain rfl:j12=12:=by simpa using hj12
 refine zaN opsC_12 rfl fun K1 hK1 => ?_
 unfold Oper.wp
 go_simp
 refine Calls.mono (HC2.out W1 hb1) ?_
 intro e W2 h2
 obtain ⟨rfl,hb2⟩:=h2
 refine hK1 _ _ ⟨fun _=>hb2,?_⟩
 clear hK1 K1
 refine zbN (by kernel_rfl) (by kernel_rfl) ?_ _
 refine zaN opsC_14 rfl fun K1 hK1 => ?_
 unfold Oper.wp
 go_simp
 refine Calls.mono (HC3.out W2 hb2) ?_
 intro e W3 h3
 rcases h3 with ⟨rfl,hb3,hr3⟩|⟨ch,rfl,hp⟩
 ·refine hK1 _ _ ?_
  exact HQ.out W3 _ _ _ _ _ _ _ _ _ _ _ _ _ _ _ hr3 hb3
 ·exact hp _ rfl
@[go_sem] def opsWrN:Nat→Oper
 | 0=>⟨some 98,.move (.tmp 10),158, "read.go:89",#[],none⟩
 | 1=>⟨some 99,.fieldAddr 170 (.tmp 12) 0,0, "read.go:89",#[],none⟩
 | 2=>⟨some 100,.load 9 (.tmp 99),9, "read.go:89",#[⟨1,.data⟩],none⟩
 | 3=>⟨some 101,.fieldAddr 170 (.tmp 12) 2,0, "read.go:89",#[],none⟩
 | 4=>⟨some 102,.load 4 (.tmp 101),4, "read.go:89",#[⟨3,.data⟩],none⟩
 | 5=>⟨some 103,.call ⟨.value (.func 184),#[.tmp 102],#[4]⟩,89, "read.go:89",#[⟨4,.data⟩],none⟩
 | 6=>⟨some 104,.build 190 #[(0,.tmp 98),(3,.tmp 100),(4,.tmp 103)],190, "read.go:89",#[⟨0,.data⟩,⟨2,.data⟩,⟨5,.data⟩],none⟩
 | _=>⟨none,.store 190 (.tmp 4) (.tmp 104),0, "read.go:89",#[⟨6,.data⟩,⟨5,.chain⟩,⟨0,.phase⟩,⟨1,.phase⟩,⟨2,.phase⟩,⟨3,.phase⟩,⟨4,.phase⟩,⟨5,.phase⟩,⟨6,.phase⟩],none⟩
def opsWr:Array Oper:=opsA opsWrN 7
theorem opsWr_0:opsWr[0]?=some (opsWrN 0):=zaA opsWrN 7 (by decide)
theorem opsWr_1:opsWr[1]?=some (opsWrN 1):=zaA opsWrN 7 (by decide)
theorem opsWr_2:opsWr[2]?=some (opsWrN 2):=zaA opsWrN 7 (by decide)
theorem opsWr_3:opsWr[3]?=some (opsWrN 3):=zaA opsWrN 7 (by decide)
theorem opsWr_4:opsWr[4]?=some (opsWrN 4):=zaA opsWrN 7 (by decide)
theorem opsWr_5:opsWr[5]?=some (opsWrN 5):=zaA opsWrN 7 (by decide)
theorem opsWr_6:opsWr[6]?=some (opsWrN 6):=zaA opsWrN 7 (by decide)
theorem opsWr_7:opsWr[7]?=some (opsWrN 7):=zaA opsWrN 7 (by decide)
set_option maxRecDepth 100000 in
set_option maxHeartbeats 2000000 in
theorem regWr {x0 x1 x2 x3 x5 x6 x7 x8 x9 x11 x13 x14 x15 x16 x17 x18 x19 x20 x21 x22 x23 x24 x25 x26 x27 x28 x29 x30 x31 x32 x33 x34 x35 x36 x37 x38 x39 x40 x41 x42 x43 x44 x45 x46 x47 x48 x49 x50 x51 x52 x53 x54 x55 x56 x57 x58 x59 x60 x61 x62 x63 x64 x65 x66 x67 x68 x69 x70 x71 x72 x73 x74 x75 x76 x77 x78 x79 x80 x81 x82 x83 x84 x85 x86 x87 x88 x89 x90 x91 x92 x93 x94 x95 x96 x97 x98 x99 x100 x101 x102 x103 x104:Value} {Q:Exit→Act→World→Prop} {V0:World} {rb cb:Nat} {s:ByteArray} {kd q:Int} {b:Bool} {v0 v1 v2 v3 v4 v5:Value}
  (c0:V0.drew.cell? ⟨cb,0,none⟩=some (.string s)) (c2:V0.drew.cell? ⟨cb,2,none⟩=some (.bool b)) (r0:V0.drew.cell? ⟨rb,0,none⟩=some v0) (z0:V0.drew.frozen? ⟨rb,0,none⟩=false) (r1:V0.drew.cell? ⟨rb,1,none⟩=some v1) (z1:V0.drew.frozen? ⟨rb,1,none⟩=false) (r2:V0.drew.cell? ⟨rb,2,none⟩=some v2) (z2:V0.drew.frozen? ⟨rb,2,none⟩=false) (r3:V0.drew.cell? ⟨rb,3,none⟩=some v3) (z3:V0.drew.frozen? ⟨rb,3,none⟩=false) (r4:V0.drew.cell? ⟨rb,4,none⟩=some v4) (z4:V0.drew.frozen? ⟨rb,4,none⟩=false) (r5:V0.drew.cell? ⟨rb,5,none⟩=some v5) (z5:V0.drew.frozen? ⟨rb,5,none⟩=false) (hS0:(V0.drew.heap[cb]?=V0.drew.heap[cb]?))
  (HC:Hid (∀ W,Calls Tryz.prog 184 #[.bool b] W fun e w'=>e=.returned (.int .i64 q)∧W=w'))
  (hpan:∀ c (a:Act) w (dd:Tmp) vv,Q (.panic c) (a.put (some dd) vv) w→Q (.panic c) a w)
  (HQ:Hid (∀ (t98 t99 t100 t101 t102 t103 t104:Value),Q .normal { tmps:=#[x0,x1,x2,x3,.pointer (some ⟨rb,0,none⟩),x5,x6,x7,x8,x9,.int .u8 kd,x11,.pointer (some ⟨cb,0,none⟩),x13,x14,x15,x16,x17,x18,x19,x20,x21,x22,x23,x24,x25,x26,x27,x28,x29,x30,x31,x32,x33,x34,x35,x36,x37,x38,x39,x40,x41,x42,x43,x44,x45,x46,x47,x48,x49,x50,x51,x52,x53,x54,x55,x56,x57,x58,x59,x60,x61,x62,x63,x64,x65,x66,x67,x68,x69,x70,x71,x72,x73,x74,x75,x76,x77,x78,x79,x80,x81,x82,x83,x84,x85,x86,x87,x88,x89,x90,x91,x92,x93,x94,x95,x96,x97,t98,t99,t100,t101,t102,t103,t104],defers:=[] } ((((((V0.drew.setCell ⟨rb,0,none⟩ (.int .u8 kd)).setCell ⟨rb,1,none⟩ (.int .u8 0)).setCell ⟨rb,2,none⟩ (.int .u8 0)).setCell ⟨rb,3,none⟩ (.string s)).setCell ⟨rb,4,none⟩ (.int .i64 q)).setCell ⟨rb,5,none⟩ (.slice none 0 0)))) :
  (Code.region 17 opsWr true).wp Tryz.prog Q { tmps:=#[x0,x1,x2,x3,.pointer (some ⟨rb,0,none⟩),x5,x6,x7,x8,x9,.int .u8 kd,x11,.pointer (some ⟨cb,0,none⟩),x13,x14,x15,x16,x17,x18,x19,x20,x21,x22,x23,x24,x25,x26,x27,x28,x29,x30,x31,x32,x33,x34,x35,x36,x37,x38,x39,x40,x41,x42,x43,x44,x45,x46,x47,x48,x49,x50,x51,x52,x53,x54,x55,x56,x57,x58,x59,x60,x61,x62,x63,x64,x65,x66,x67,x68,x69,x70,x71,x72,x73,x74,x75,x76,x77,x78,x79,x80,x81,x82,x83,x84,x85,x86,x87,x88,x89,x90,x91,x92,x93,x94,x95,x96,x97,x98,x99,x100,x101,x102,x103,x104],defers:=[] } V0:=by
 obtain ⟨V,hV⟩:∃ V,V0.drew=V:=⟨_,rfl⟩
 refine zbE (fun y=>(y.heap[cb]?=V0.drew.heap[cb]?)) 7 Tryz.mixed ?_
 rw [hV] at c0 c2 r0 z0 r1 z1 r2 z2 r3 z3 r4 z4 r5 z5 hS0 HQ ⊢
 clear hV
 have HPan:=hidI hpan
 clear hpan
 refine zaF [6,7] (i:=0) (v:=(.int .u8 kd)) opsWr_0 HPan.out hS0 (fun y hy => ?_) ?_
 ·go_simp
 refine zaF [2,6,7] (i:=1) (v:=(.pointer (some ⟨cb,0,none⟩))) opsWr_1 HPan.out hS0 (fun y hy => ?_) ?_
 ·go_simp
 refine zaF [6,7] (i:=2) (v:=(.string s)) opsWr_2 HPan.out hS0 (fun y hy => ?_) ?_
 ·have q0:=(World.cell?_of_block (w:=V) (a:=⟨cb,0,none⟩) hy).trans c0;go_simp
 refine zaF [4,5,6,7] (i:=3) (v:=(.pointer (some ⟨cb,2,none⟩))) opsWr_3 HPan.out hS0 (fun y hy => ?_) ?_
 ·go_simp
 refine zaF [5,6,7] (i:=4) (v:=(.bool b)) opsWr_4 HPan.out hS0 (fun y hy => ?_) ?_
 ·have q0:=(World.cell?_of_block (w:=V) (a:=⟨cb,2,none⟩) hy).trans c2;go_simp
 refine zbB (rs:=[5]) (by kernel_rfl) (by simp) fun j5 hj5 => ?_
 obtain rfl:j5=5:=by simpa using hj5
 refine zaN opsWr_5 rfl fun K1 hK1 => ?_
 unfold Oper.wp
 go_simp
 refine Calls.mono (HC.out V) ?_
 intro e W1 h1
 obtain ⟨rfl,rfl⟩:=h1
 refine hK1 _ _ ⟨fun _=>rfl,?_⟩
 clear hK1 K1
 refine zaF [7] (i:=6) (v:=(.agg #[.int .u8 kd,.int .u8 0,.int .u8 0,.string s,.int .i64 q,.slice none 0 0])) opsWr_6 HPan.out rfl (fun y hy => ?_) ?_
 ·go_simp
 refine zbN (by kernel_rfl) (by kernel_rfl) ?_ _
 refine zaN opsWr_7 rfl fun K1 hK1 => ?_
 unfold Oper.wp
 go_simp
 refine hK1 _ _ ?_
 exact HQ.out _ _ _ _ _ _ _
@[go_sem] def opsLN:Nat→Oper
 | 0=>⟨some 13,.move (.tmp 0),164, "read.go:118",#[],none⟩
 | 1=>⟨some 14,.nilCheck (.tmp 13),0, "read.go:118",#[⟨0,.data⟩],none⟩
 | 2=>⟨some 15,.fieldAddr 109 (.tmp 14) 0,0, "read.go:118",#[⟨1,.data⟩],none⟩
 | 3=>⟨some 16,.fieldAddr 106 (.tmp 15) 4,0, "read.go:118",#[⟨2,.data⟩],none⟩
 | 4=>⟨some 17,.load 104 (.tmp 16),104, "read.go:118",#[⟨3,.data⟩],none⟩
 | 5=>⟨some 18,.fieldAddr 115 (.tmp 4) 1,0, "read.go:118",#[],none⟩
 | 6=>⟨some 19,.load 9 (.tmp 18),9, "read.go:118",#[⟨5,.data⟩],none⟩
 | 7=>⟨some 20,.lookup 104 (.tmp 17) (.tmp 19) false,75, "read.go:118",#[⟨4,.data⟩,⟨6,.data⟩],none⟩
 | 8=>⟨some 21,.call ⟨.value (.func 146),#[.tmp 20],#[75]⟩,239, "read.go:118",#[⟨7,.data⟩],none⟩
 | 9=>⟨some 12,.move (.tmp 21),239, "read.go:118",#[⟨8,.data⟩],none⟩
 | 10=>⟨some 22,.extract (.tmp 12) 0,89, "read.go:118",#[⟨9,.data⟩],none⟩
 | 11=>⟨some 23,.extract (.tmp 12) 1,4, "read.go:118",#[⟨9,.data⟩,{ on:=12,ground:=Go.Ground.gcOnly Go.Departure.lateStores }],none⟩
 | 12=>⟨some 7,.assign (.tmp 22),89, "read.go:118",#[⟨10,.data⟩,⟨8,.chain⟩,⟨0,.phase⟩,⟨1,.phase⟩,⟨2,.phase⟩,⟨3,.phase⟩,⟨4,.phase⟩,⟨5,.phase⟩,⟨6,.phase⟩,⟨7,.phase⟩,⟨8,.phase⟩,⟨9,.phase⟩,⟨10,.phase⟩,{ on:=11,ground:=Go.Ground.textOnly Go.Departure.lateStores }],none⟩
 | _=>⟨some 8,.assign (.tmp 23),4, "read.go:118",#[⟨11,.data⟩,⟨12,.chain⟩,⟨0,.phase⟩,⟨1,.phase⟩,⟨2,.phase⟩,⟨3,.phase⟩,⟨4,.phase⟩,⟨5,.phase⟩,⟨6,.phase⟩,⟨7,.phase⟩,⟨8,.phase⟩,⟨9,.phase⟩,⟨10,.phase⟩,⟨11,.phase⟩,⟨12,.phase⟩],none⟩
def opsL:Array Oper:=opsA opsLN 13
theorem opsL_0:opsL[0]?=some (opsLN 0):=zaA opsLN 13 (by decide)
theorem opsL_1:opsL[1]?=some (opsLN 1):=zaA opsLN 13 (by decide)
theorem opsL_2:opsL[2]?=some (opsLN 2):=zaA opsLN 13 (by decide)
theorem opsL_3:opsL[3]?=some (opsLN 3):=zaA opsLN 13 (by decide)
theorem opsL_4:opsL[4]?=some (opsLN 4):=zaA opsLN 13 (by decide)
theorem opsL_5:opsL[5]?=some (opsLN 5):=zaA opsLN 13 (by decide)
theorem opsL_6:opsL[6]?=some (opsLN 6):=zaA opsLN 13 (by decide)
theorem opsL_7:opsL[7]?=some (opsLN 7):=zaA opsLN 13 (by decide)
theorem opsL_8:opsL[8]?=some (opsLN 8):=zaA opsLN 13 (by decide)
theorem opsL_9:opsL[9]?=some (opsLN 9):=zaA opsLN 13 (by decide)
theorem opsL_10:opsL[10]?=some (opsLN 10):=zaA opsLN 13 (by decide)
theorem opsL_11:opsL[11]?=some (opsLN 11):=zaA opsLN 13 (by decide)
theorem opsL_12:opsL[12]?=some (opsLN 12):=zaA opsLN 13 (by decide)
theorem opsL_13:opsL[13]?=some (opsLN 13):=zaA opsLN 13 (by decide)
set_option maxRecDepth 100000 in
set_option maxHeartbeats 2000000 in
theorem regL {x1 x2 x3 x5 x6 x7 x8 x9 x10 x11 x12 x13 x14 x15 x16 x17 x18 x19 x20 x21 x22 x23 x24 x25 x26 x27 x28 x29 x30 x31 x32 x33 x34 x35 x36 x37 x38 x39 x40:Value} {Q:Exit→Act→World→Prop} {V0:World} {B fb mo:Nat} {s:ByteArray} {o q:Int} {r:Bool}
  (hS0:(V0.drew.cell? ⟨B,4,none⟩=some (.map (some mo))∧V0.drew.cell? ⟨fb,1,none⟩=some (.string s)∧(Instr.lookup 104 (.map (some mo)) (.string s) false).run Tryz.prog V0.drew=.ok (.int .u8 o) V0.drew))
  (HC:Hid (∀ W,Calls Tryz.prog 146 #[.int .u8 o] W fun e w'=>e=.returned (.tuple #[.int .i64 q,.bool r])∧W=w'))
  (hpan:∀ c (a:Act) w (dd:Tmp) vv,Q (.panic c) (a.put (some dd) vv) w→Q (.panic c) a w)
  (HQ:Hid (∀ (t7 t8 t12 t13 t14 t15 t16 t17 t18 t19 t20 t21 t22 t23:Value),t8=.bool r→Q .normal { tmps:=#[.pointer (some ⟨B,0,none⟩),x1,x2,x3,.pointer (some ⟨fb,0,none⟩),x5,x6,t7,t8,x9,x10,x11,t12,t13,t14,t15,t16,t17,t18,t19,t20,t21,t22,t23,x24,x25,x26,x27,x28,x29,x30,x31,x32,x33,x34,x35,x36,x37,x38,x39,x40],defers:=[] } V0.drew)) :
  (Code.region 3 opsL true).wp Tryz.prog Q { tmps:=#[.pointer (some ⟨B,0,none⟩),x1,x2,x3,.pointer (some ⟨fb,0,none⟩),x5,x6,x7,x8,x9,x10,x11,x12,x13,x14,x15,x16,x17,x18,x19,x20,x21,x22,x23,x24,x25,x26,x27,x28,x29,x30,x31,x32,x33,x34,x35,x36,x37,x38,x39,x40],defers:=[] } V0:=by
 obtain ⟨V,hV⟩:∃ V,V0.drew=V:=⟨_,rfl⟩
 refine zbE (fun y=>(y.cell? ⟨B,4,none⟩=some (.map (some mo))∧y.cell? ⟨fb,1,none⟩=some (.string s)∧(Instr.lookup 104 (.map (some mo)) (.string s) false).run Tryz.prog y=.ok (.int .u8 o) y)) 13 Tryz.mixed ?_
 rw [hV] at hS0 HQ ⊢
 clear hV
 have HPan:=hidI hpan
 clear hpan
 refine zaF [1,2,3,4,7,8,9,10,11,12,13] (i:=0) (v:=(.pointer (some ⟨B,0,none⟩))) opsL_0 HPan.out hS0 (fun y hy => ?_) ?_
 ·go_simp
 refine zaF [2,3,4,7,8,9,10,11,12,13] (i:=1) (v:=(.pointer (some ⟨B,0,none⟩))) opsL_1 HPan.out hS0 (fun y hy => ?_) ?_
 ·go_simp
 refine zaF [3,4,7,8,9,10,11,12,13] (i:=2) (v:=(.pointer (some ⟨B,0,none⟩))) opsL_2 HPan.out hS0 (fun y hy => ?_) ?_
 ·go_simp
 refine zaF [4,7,8,9,10,11,12,13] (i:=3) (v:=(.pointer (some ⟨B,4,none⟩))) opsL_3 HPan.out hS0 (fun y hy => ?_) ?_
 ·go_simp
 refine zaF [7,8,9,10,11,12,13] (i:=4) (v:=(.map (some mo))) opsL_4 HPan.out hS0 (fun y hy => ?_) ?_
 ·obtain ⟨y0,y1,y2⟩:=hy;go_simp
 refine zaF [6,7,8,9,10,11,12,13] (i:=5) (v:=(.pointer (some ⟨fb,1,none⟩))) opsL_5 HPan.out hS0 (fun y hy => ?_) ?_
 ·go_simp
 refine zaF [7,8,9,10,11,12,13] (i:=6) (v:=(.string s)) opsL_6 HPan.out hS0 (fun y hy => ?_) ?_
 ·obtain ⟨y0,y1,y2⟩:=hy;go_simp
 refine zaF [8,9,10,11,12,13] (i:=7) (v:=(.int .u8 o)) opsL_7 HPan.out hS0 (fun y hy => ?_) ?_
 ·obtain ⟨y0,y1,y2⟩:=hy;go_simp
 refine zbB (rs:=[8]) (by kernel_rfl) (by simp) fun j8 hj8 => ?_
 obtain rfl:j8=8:=by simpa using hj8
 refine zaN opsL_8 rfl fun K1 hK1 => ?_
 unfold Oper.wp
 go_simp
 refine Calls.mono (HC.out V) ?_
 intro e W1 h1
 obtain ⟨rfl,rfl⟩:=h1
 refine hK1 _ _ ⟨fun _=>hS0,?_⟩
 clear hK1 K1
 refine zaF [10,11,12,13] (i:=9) (v:=(.tuple #[.int .i64 q,.bool r])) opsL_9 HPan.out hS0 (fun y hy => ?_) ?_
 ·go_simp
 refine zaF [12,13] (i:=10) (v:=(.int .i64 q)) opsL_10 HPan.out hS0 (fun y hy => ?_) ?_
 ·go_simp
 refine zbB (rs:=[11,12]) (by kernel_rfl) (by simp) fun j11 hj11 => ?_
 simp only [List.mem_cons,List.not_mem_nil,or_false] at hj11
 rcases hj11 with rfl|rfl
 ·refine zaN opsL_11 rfl fun K1 hK1 => ?_
  unfold Oper.wp
  go_simp
  refine hK1 _ _ ⟨fun _=>hS0,?_⟩
  clear hK1 K1
  refine zbB (rs:=[12]) (by kernel_rfl) (by simp) fun j12 hj12 => ?_
  obtain rfl:j12=12:=by simpa using hj12
  refine zaN opsL_12 rfl fun K1 hK1 => ?_
  unfold Oper.wp
  go_simp
  refine hK1 _ _ ⟨fun _=>hS0,?_⟩
  clear hK1 K1
  refine zbN (by kernel_rfl) (by kernel_rfl) ?_ _
  refine zaN opsL_13 rfl fun K1 hK1 => ?_
  unfold Oper.wp
  go_simp
  refine hK1 _ _ ?_
  exact HQ.out _ _ _ _ _ _ _ _ _ _ _ _ _ _ rfl
 ·refine zaN opsL_12 rfl fun K1 hK1 => ?_
  unfold Oper.wp
  go_simp
  refine hK1 _ _ ⟨fun _=>hS0,?_⟩
  clear hK1 K1
  refine zbB (rs:=[11]) (by kernel_rfl) (by simp) fun j12 hj12 => ?_
  obtain rfl:j12=11:=by simpa using hj12
  refine zaN opsL_11 rfl fun K1 hK1 => ?_
  unfold Oper.wp
  go_simp
  refine hK1 _ _ ⟨fun _=>hS0,?_⟩
  clear hK1 K1
  refine zbN (by kernel_rfl) (by kernel_rfl) ?_ _
  refine zaN opsL_13 rfl fun K1 hK1 => ?_
  unfold Oper.wp
  go_simp
  refine hK1 _ _ ?_
  exact HQ.out _ _ _ _ _ _ _ _ _ _ _ _ _ _ rfl
end Go.Proofs.YtmekkhfohmfjkaaGreatDoor
