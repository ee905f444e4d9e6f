/-
  Part 31 of the proof: PWalk, Reg12.
-/
import Derived.Test.YtmekkhfohmfjkaaGreatDoorSd06
import Derived.Sort.LoopGhostIn
import Derived.Test.YtmekkhfohmfjkaaGreatDoorSd01
import Derived.Test.YtmekkhfohmfjkaaGreatDoorSd05
namespace Go.Proofs.YtmekkhfohmfjkaaGreatDoor
open Go.RowKit Go.Shelf Go.Lib
attribute [local go_sem] Oper.semAt_some
abbrev encQ (x:Piece):Array Value:=#[.int .i64 (x.1:Int),.string (bytesOf x.2)]
theorem slice_to (s:ByteArray) (i j:Nat) (h:i≤j) (hj:j≤s.size) (w:World):(Instr.slice 9 (.string s) (some (.int .i64 (i:Int))) (some (.int .i64 (j:Int))) none).run Tryz.prog w=.ok (.string (bytesOf ((s.data.toList.drop i).take (j-i)))) w:=by
 have:=slice_at s i (j-i) (by omega) w
 rw [show (i:Int)+((j-i:Nat):Int)=(j:Int) by omega] at this
 exact this
theorem slice_from (s:ByteArray) (i:Nat) (h:i≤s.size) (w:World):(Instr.slice 9 (.string s) (some (.int .i64 (i:Int))) none none).run Tryz.prog w=.ok (.string (bytesOf ((s.data.toList.drop i).take (s.size-i)))) w:=by
 rw [run_slice_string_from_if w 9 s .i64 _ Tryz.underlying9,if_pos (by omega)]
 congr 2
 apply ByteArray.ext
 simp only [bytesOf,ByteArray.data_extract]
 apply Array.toList_inj.1
 rw [Array.toList_extract,List.extract_eq_take_drop,Int.toNat_natCast]
def PKeep (s:ByteArray) (T:Nat→Obj→Prop) (W:World) (J:List Piece→World→Prop) (pre:List Piece) (pos:Nat) (wx:World):Prop:=
 J pre wx∧Keeps T W wx∧wx.heap[W.heap.size]?=some (.stringIter s pos)
theorem PKeep.next {s:ByteArray} {T:Nat→Obj→Prop} {W:World} {J:List Piece→World→Prop} {pre:List Piece} {pos:Nat} {wx:World} (hJ:OwnFrom W.heap.size J) (hT:∀ k o,T k o→k<W.heap.size) (h:PKeep s T W J pre pos wx) (q:Nat):PKeep s T W J pre q (wx.iterAt W.heap.size s q):=by
 obtain ⟨h1,h2,h3⟩:=h
 refine ⟨hJ.putObj (.stringIter s q) h1 (Nat.le_refl _) h3 rfl,h2.trans (Keeps.grown (grownBy_putObj' wx W.heap.size (.stringIter s q)) fun k o e hk ht => ?_),iterAt_heap wx _ s pos q h3⟩
 cases e
 have:=hT _ _ ht
 omega
theorem PKeep.first {s:ByteArray} {T:Nat→Obj→Prop} {W:World} {J:List Piece→World→Prop} (hJ:OwnFrom W.heap.size J) (h:J [] W):PKeep s T W J [] 0 (W.alloc (.stringIter s 0)):=
 ⟨hJ.alloc _ h,Keeps.alloc _ _ _,World.alloc_heap_new W _⟩
theorem PKeep.yield {s:ByteArray} {T:Nat→Obj→Prop} {W:World} {J:List Piece→World→Prop} {pre pre':List Piece} {pos:Nat} {wx W3:World} (h:PKeep s T W J pre pos wx) (hkf:KeepsFrom W.heap.size wx W3) (hJ3:J pre' W3) (hk3:Keeps T wx W3):PKeep s T W J pre' pos W3:=
 ⟨hJ3,h.2.1.trans hk3,hkf.same _ _ (Nat.le_refl _) h.2.2 rfl⟩
theorem PKeep.text {s s':ByteArray} {T:Nat→Obj→Prop} {W:World} {J:List Piece→World→Prop} {pre:List Piece} {pos:Nat} {wx:World} {Bg:Nat} (h:PKeep s T W J pre pos wx) (hT:∀ o,T Bg o) (hc:W.cell? ⟨Bg,0,none⟩=some (.string s')):wx.cell? ⟨Bg,0,none⟩=some (.string s'):=h.2.1.cell (p:=⟨Bg,0,none⟩) hT hc
set_option maxRecDepth 100000 in
set_option maxHeartbeats 40000000 in
theorem walk_in (l Bg:Nat) (s:ByteArray) (T:Nat→Obj→Prop) (hTB:∀ o,T Bg o) (J Jx:List Piece→World→Prop) (W:World) (hT:∀ k o,T k o→k<W.heap.size) (hJ:OwnFrom W.heap.size J)
  (hY:∀ pre x W1,J pre W1→(pre++[x]) <+: pieces s.data.toList→YieldAt Fence.wide 0 Tryz.prog l (encQ x) W1 fun e W'=>
   KeepsFrom W.heap.size W1 W'∧((e=.returned (.bool true)∧J (pre++[x]) W'∧Keeps T W1 W')∨(e=.returned (.bool false)∧Jx (pre++[x]) W')))
  (hBg:W.cell? ⟨Bg,0,none⟩=some (.string s)) (h0:J [] W) :
  CallsIn Fence.wide 0 Tryz.prog 67 #[.func (.yield l) #[] #[],.pointer (some ⟨Bg,0,none⟩)] W fun e W'=>(∃ v,e=.returned v)∧
   ((∃ ys,ys=pieces s.data.toList∧J ys W')∨(∃ pre,Jx pre W')):=by
 have CB:=hidI bracket_any
 have CS:=hidI spaced_any
 have HY:=hidI hY
 have HT:=hidI hT
 have HTB:=hidI hTB
 have HJO:=hidI hJ
 have HBG:=hidI hBg
 have HST:=hidI (PKeep.first (s:=s) (T:=T) hJ h0)
 obtain ⟨n,hn⟩:∃ n,s.size=n:=⟨_,rfl⟩
 have HN:=hidI hn
 clear hY hT hTB hJ h0 hn
 refine callsIn_of_wp Tryz.func67 rfl trivial ?_ rfl
 simp only [Tryz.ntmps67,List.size_toArray,List.length_cons,List.length_nil,Nat.reduceAdd,Nat.reduceSub,Array.replicate_succ,Array.replicate_zero,List.push_toArray,List.append_toArray,List.nil_append,List.cons_append]
 gi_wp2
 gi_loopg [3,4] n (fun g s3 s4 wx=>∃ (pos:Nat) (b:Option Nat) (k:Bool) (pre:List Piece),pos+g=n∧((b=none∧s3=.int .i64 (-1))∨(k=false∧∃ b':Nat,b=some b'∧s3=.int .i64 b'∧b'<pos))∧s4=.bool k∧Hid (PKeep s T W J pre pos wx)∧Hid (pieces s.data.toList=pre++run s.data.toList pos b k (s.data.toList.drop pos)))
 case atStart=>exact ⟨0,none,false,[],by omega,.inl ⟨rfl,rfl⟩,rfl,HST.out,hidI rfl⟩
 case round=>
  obtain ⟨pos,b,k,pre,hpg,hb,rfl,HP,HR⟩:=hrel
  clear hBg
  cases gk with
  | zero=>
   obtain rfl:n=pos:=by omega
   have hit:=HP.out.2.2
   have qe:∀ ty,(Instr.next (.pointer (some ⟨W.heap.size,0,none⟩)) true ty).run Tryz.prog wr=.ok (.tuple #[.bool false]) wr:=fun ty=>run_next_end_at wr _ s n ty hit (by have:=HN.out;omega)
   have HD:Hid (s.data.toList.drop n=[]):=hidI (by
    apply List.drop_eq_nil_of_le
    rw [Array.length_toList]
    exact Nat.le_of_eq HN.out)
   rcases hb with ⟨rfl,rfl⟩|⟨rfl,b',rfl,rfl,hbp⟩
   ·gi_wp2
    go_end0
    refine ⟨⟨_,rfl⟩,.inl ⟨_,?_,HP.out.1⟩⟩
    have:=HR.out
    rw [HD.out] at this
    simp only [run,word,List.append_nil] at this
    exact this.symm
   ·have cb:=HP.out.text HTB.out HBG.out
    have q3:∀ w,(Instr.slice 9 (.string s) (some (.int .i64 (b':Int))) none none).run Tryz.prog w=.ok (.string (bytesOf ((s.data.toList.drop b').take (n-b')))) w:=fun w=>by
     have h:=slice_from s b' (by have:=HN.out;omega) w
     rw [HN.out] at h
     exact h
    have hrun:=HR.out
    rw [HD.out] at hrun
    simp only [run,word] at hrun
    obtain ⟨fn,tmps,assign,body,hy,hYR⟩:=HY.out pre (b',(s.data.toList.drop b').take (n-b')) wr HP.out.1 (by rw [hrun];exact List.prefix_refl _)
    dsimp only [encQ] at hy
    have HRUN:=hidI hrun
    have k1:((b':Int) == -1)=false:=by first|(simp;done)|(simp;omega)
    obtain ⟨tb,htb⟩:∃ tb,bytesOf ((s.data.toList.drop b').take (n-b'))=tb:=⟨_,rfl⟩
    rw [htb] at q3 hy
    clear hrun htb hit
    gi_wp2
    refine ⟨rfl,hYR.mono ?_⟩
    rintro e W3 ⟨hkf,⟨rfl,hJ3,hk3⟩|⟨rfl,hJx3⟩⟩
    ·have HJ3:=hidI hJ3
     clear hkf hJ3 hk3
     gi_wp2
     go_end0
     exact ⟨⟨_,rfl⟩,.inl ⟨_,HRUN.out.symm,HJ3.out⟩⟩
    ·have HJ3:=hidI hJx3
     clear hkf hJx3
     gi_wp2
     go_end0
     exact ⟨⟨_,rfl⟩,.inr ⟨_,HJ3.out⟩⟩
  | succ g=>
   have hlt:pos<n:=by omega
   have hlt':pos<s.size:=by have:=HN.out;omega
   have hit:=HP.out.2.2
   have qn:∀ ty,(Instr.next (.pointer (some ⟨W.heap.size,0,none⟩)) true ty).run Tryz.prog wr=.ok (.tuple #[.bool true,.int .i64 pos,.int .i32 (Utf8.decode s pos).1]) (wr.iterAt W.heap.size s (pos+(Utf8.decode s pos).2)):=fun ty=>run_next_any_at wr _ s pos ty hit hlt'
   have hget:s[pos]'hlt'=s.get! pos:=by
    simp [ByteArray.get!,getElem!_pos,hlt']
    rfl
   have hdr:=drop_byte s pos hlt'
   obtain ⟨c,hc⟩:∃ c,s.get! pos=c:=⟨_,rfl⟩
   by_cases ha:c.toNat<128
   ·have hd:=decode_ascii s pos hlt' (by rw [hget,hc];exact ha)
    rw [hget,hc] at hd
    rw [hc] at hdr
    rw [hd] at qn
    simp only at qn
    have HP1:=hidI (HP.out.next HJO.out HT.out (pos+1))
    obtain ⟨W1,hW1⟩:∃ W1,wr.iterAt W.heap.size s (pos+1)=W1:=⟨_,rfl⟩
    rw [hW1] at qn HP1
    have cb:=HP1.out.text HTB.out HBG.out
    have HDR:=hidI hdr
    clear hd hdr hget hW1 hit HP ha hc
    cases k with
    | true=>
     rcases hb with ⟨rfl,rfl⟩|⟨h,_⟩
     ·cases h10:(c==10) with
      | true=>
       have k10:((c.toNat:Int)==10)=true:=by rw [←h10];exact u8_eq c 10 (by decide)
       have HC:Hid (c=10):=hidI (by simpa using h10)
       clear h10
       gi_wp2
       go_roundg (n-(pos+1))
       case measure=>omega
       case rel=>
        exact ⟨pos+1,none,false,pre,by omega,.inl ⟨rfl,rfl⟩,by first|rfl|(rw [bne,k10];rfl),HP1,hidI (by rw [HR.out,HDR.out];simp [run,HC.out])⟩
      | false=>
       have k10:((c.toNat:Int)==10)=false:=by rw [←h10];exact u8_eq c 10 (by decide)
       have HC:Hid (¬ c=10):=hidI (by simpa using h10)
       clear h10
       gi_wp2
       go_roundg (n-(pos+1))
       case measure=>omega
       case rel=>
        exact ⟨pos+1,none,true,pre,by omega,.inl ⟨rfl,rfl⟩,by first|rfl|(rw [bne,k10];rfl),HP1,hidI (by rw [HR.out,HDR.out];simp [run,HC.out])⟩
     ·cases h
    | false=>
     cases h59:(c==59) with
     | true=>
      obtain rfl:c=59:=by simpa using h59
      have CB1:Hid (∀ w,Calls Tryz.prog 68 #[.int .i32 59] w fun e w'=>e=.returned (.bool false)∧w=w'):=hidI fun w=>CB.out 59 w
      have CS1:Hid (∀ w,Calls Tryz.prog 69 #[.int .i32 59] w fun e w'=>e=.returned (.bool false)∧w=w'):=hidI fun w=>CS.out 59 w
      clear h59
      rcases hb with ⟨rfl,rfl⟩|⟨_,b',rfl,rfl,hbp⟩
      ·gi_wp2_with (first|(refine ⟨trivial,rfl,?_⟩;gi_at_call 68;refine (callsIn_wide.2 (CB1.out _)).mono ?_;rintro e w' ⟨rfl,rfl⟩)|(refine ⟨trivial,rfl,?_⟩;gi_at_call 69;refine (callsIn_wide.2 (CS1.out _)).mono ?_;rintro e w' ⟨rfl,rfl⟩))
       refine ⟨fun f hf=>(by cases hf),?_⟩
       gi_wp2_with (first|(refine ⟨trivial,rfl,?_⟩;gi_at_call 68;refine (callsIn_wide.2 (CB1.out _)).mono ?_;rintro e w' ⟨rfl,rfl⟩)|(refine ⟨trivial,rfl,?_⟩;gi_at_call 69;refine (callsIn_wide.2 (CS1.out _)).mono ?_;rintro e w' ⟨rfl,rfl⟩))
       go_roundg (n-(pos+1))
       case measure=>omega
       case rel=>
        exact ⟨pos+1,none,true,pre,by omega,.inl ⟨rfl,rfl⟩,by first|rfl|(rw [bne,k10];rfl),HP1,hidI (by rw [HR.out,HDR.out];simp [run,word])⟩
      ·have HRX:Hid (pieces s.data.toList=pre++(b',(s.data.toList.drop b').take (pos-b'))::run s.data.toList (pos+1) none true (s.data.toList.drop (pos+1))):=hidI (by rw [HR.out,HDR.out];simp [run,word])
       have q3:=slice_to s b' pos (by omega) (by omega)
       obtain ⟨fn,tmps,assign,body,hy,hYR⟩:=HY.out pre (b',(s.data.toList.drop b').take (pos-b')) W1 HP1.out.1 (by rw [HRX.out];exact ⟨run s.data.toList (pos+1) none true (s.data.toList.drop (pos+1)),by simp⟩)
       dsimp only [encQ] at hy
       have k1:((b':Int) == -1)=false:=by first|(simp;done)|(simp;omega)
       obtain ⟨tb,htb⟩:∃ tb,bytesOf ((s.data.toList.drop b').take (pos-b'))=tb:=⟨_,rfl⟩
       rw [htb] at q3 hy
       clear htb
       gi_wp2_with (first|(refine ⟨trivial,rfl,?_⟩;gi_at_call 68;refine (callsIn_wide.2 (CB1.out _)).mono ?_;rintro e w' ⟨rfl,rfl⟩)|(refine ⟨trivial,rfl,?_⟩;gi_at_call 69;refine (callsIn_wide.2 (CS1.out _)).mono ?_;rintro e w' ⟨rfl,rfl⟩))
       refine ⟨rfl,hYR.mono ?_⟩
       rintro e W3 ⟨hkf,⟨rfl,hJ3,hk3⟩|⟨rfl,hJx3⟩⟩
       ·have HP3:=hidI (HP1.out.yield hkf hJ3 hk3)
        clear hkf hJ3 hk3
        gi_wp2_with (first|(refine ⟨trivial,rfl,?_⟩;gi_at_call 68;refine (callsIn_wide.2 (CB1.out _)).mono ?_;rintro e w' ⟨rfl,rfl⟩)|(refine ⟨trivial,rfl,?_⟩;gi_at_call 69;refine (callsIn_wide.2 (CS1.out _)).mono ?_;rintro e w' ⟨rfl,rfl⟩))
        refine ⟨fun f hf=>(by cases hf),?_⟩
        gi_wp2_with (first|(refine ⟨trivial,rfl,?_⟩;gi_at_call 68;refine (callsIn_wide.2 (CB1.out _)).mono ?_;rintro e w' ⟨rfl,rfl⟩)|(refine ⟨trivial,rfl,?_⟩;gi_at_call 69;refine (callsIn_wide.2 (CS1.out _)).mono ?_;rintro e w' ⟨rfl,rfl⟩))
        go_roundg (n-(pos+1))
        case measure=>omega
        case rel=>
         exact ⟨pos+1,none,true,pre++[(b',(s.data.toList.drop b').take (pos-b'))],by omega,.inl ⟨rfl,rfl⟩,by first|rfl|(rw [bne,k10];rfl),HP3,hidI (by rw [HRX.out];simp)⟩
       ·have HJ4:=hidI hJx3
        clear hkf hJx3
        gi_wp2_with (first|(refine ⟨trivial,rfl,?_⟩;gi_at_call 68;refine (callsIn_wide.2 (CB1.out _)).mono ?_;rintro e w' ⟨rfl,rfl⟩)|(refine ⟨trivial,rfl,?_⟩;gi_at_call 69;refine (callsIn_wide.2 (CS1.out _)).mono ?_;rintro e w' ⟨rfl,rfl⟩))
        refine bodyPost_ret (results_none rfl _ _ _) rfl ?_
        exact ⟨⟨_,rfl⟩,.inr ⟨_,HJ4.out⟩⟩
     | false=>
      cases h40:(c==40) with
      | true=>
       clear h59
       obtain rfl:c=40:=by simpa using h40
       have CB1:Hid (∀ w,Calls Tryz.prog 68 #[.int .i32 40] w fun e w'=>e=.returned (.bool true)∧w=w'):=hidI fun w=>CB.out 40 w
       have CS1:Hid (∀ w,Calls Tryz.prog 69 #[.int .i32 40] w fun e w'=>e=.returned (.bool false)∧w=w'):=hidI fun w=>CS.out 40 w
       clear h40
       have hue:Utf8.encode 40=(⟨#[40]⟩:ByteArray):=rfl
       rcases hb with ⟨rfl,rfl⟩|⟨_,b',rfl,rfl,hbp⟩
       ·have HRX:Hid (pieces s.data.toList=pre++(pos,[40])::run s.data.toList (pos+1) none false (s.data.toList.drop (pos+1))):=hidI (by rw [HR.out,HDR.out,run_bracket (by decide)])
        obtain ⟨fn2,tmps2,assign2,body2,hy2,hYR2⟩:=HY.out (pre) (pos,[40]) W1 HP1.out.1 (by rw [HRX.out];exact ⟨run s.data.toList (pos+1) none false (s.data.toList.drop (pos+1)),by simp⟩)
        dsimp only [encQ] at hy2
        rw [show bytesOf [40]=(⟨#[40]⟩:ByteArray) from rfl] at hy2
        gi_wp2_with (first|(refine ⟨trivial,rfl,?_⟩;gi_at_call 68;refine (callsIn_wide.2 (CB1.out _)).mono ?_;rintro e w' ⟨rfl,rfl⟩)|(refine ⟨trivial,rfl,?_⟩;gi_at_call 69;refine (callsIn_wide.2 (CS1.out _)).mono ?_;rintro e w' ⟨rfl,rfl⟩))
        refine ⟨fun f hf=>(by cases hf),?_⟩
        gi_wp2_with (first|(refine ⟨trivial,rfl,?_⟩;gi_at_call 68;refine (callsIn_wide.2 (CB1.out _)).mono ?_;rintro e w' ⟨rfl,rfl⟩)|(refine ⟨trivial,rfl,?_⟩;gi_at_call 69;refine (callsIn_wide.2 (CS1.out _)).mono ?_;rintro e w' ⟨rfl,rfl⟩))
        refine ⟨rfl,hYR2.mono ?_⟩
        rintro e W5 ⟨hkf,⟨rfl,hJ3,hk3⟩|⟨rfl,hJx3⟩⟩
        ·have HP5:=hidI (HP1.out.yield hkf hJ3 hk3)
         clear hkf hJ3 hk3
         gi_wp2_with (first|(refine ⟨trivial,rfl,?_⟩;gi_at_call 68;refine (callsIn_wide.2 (CB1.out _)).mono ?_;rintro e w' ⟨rfl,rfl⟩)|(refine ⟨trivial,rfl,?_⟩;gi_at_call 69;refine (callsIn_wide.2 (CS1.out _)).mono ?_;rintro e w' ⟨rfl,rfl⟩))
         go_roundg (n-(pos+1))
         case measure=>omega
         case rel=>
          exact ⟨pos+1,none,false,pre++[(pos,[40])],by omega,.inl ⟨rfl,rfl⟩,by first|rfl|(rw [bne,k10];rfl),HP5,hidI (by rw [HRX.out];simp)⟩
        ·have HJ4:=hidI hJx3
         clear hkf hJx3
         gi_wp2_with (first|(refine ⟨trivial,rfl,?_⟩;gi_at_call 68;refine (callsIn_wide.2 (CB1.out _)).mono ?_;rintro e w' ⟨rfl,rfl⟩)|(refine ⟨trivial,rfl,?_⟩;gi_at_call 69;refine (callsIn_wide.2 (CS1.out _)).mono ?_;rintro e w' ⟨rfl,rfl⟩))
         refine bodyPost_ret (results_none rfl _ _ _) rfl ?_
         exact ⟨⟨_,rfl⟩,.inr ⟨_,HJ4.out⟩⟩
       ·have HRX:Hid (pieces s.data.toList=pre++(b',(s.data.toList.drop b').take (pos-b'))::(pos,[40])::run s.data.toList (pos+1) none false (s.data.toList.drop (pos+1))):=hidI (by rw [HR.out,HDR.out];simp [run,word,bracket])
        have q3:=slice_to s b' pos (by omega) (by omega)
        obtain ⟨fn,tmps,assign,body,hy,hYR⟩:=HY.out pre (b',(s.data.toList.drop b').take (pos-b')) W1 HP1.out.1 (by rw [HRX.out];exact ⟨(pos,[40])::run s.data.toList (pos+1) none false (s.data.toList.drop (pos+1)),by simp⟩)
        dsimp only [encQ] at hy
        have k1:((b':Int) == -1)=false:=by first|(simp;done)|(simp;omega)
        obtain ⟨tb,htb⟩:∃ tb,bytesOf ((s.data.toList.drop b').take (pos-b'))=tb:=⟨_,rfl⟩
        rw [htb] at q3 hy
        clear htb
        gi_wp2_with (first|(refine ⟨trivial,rfl,?_⟩;gi_at_call 68;refine (callsIn_wide.2 (CB1.out _)).mono ?_;rintro e w' ⟨rfl,rfl⟩)|(refine ⟨trivial,rfl,?_⟩;gi_at_call 69;refine (callsIn_wide.2 (CS1.out _)).mono ?_;rintro e w' ⟨rfl,rfl⟩))
        refine ⟨rfl,hYR.mono ?_⟩
        rintro e W3 ⟨hkf,⟨rfl,hJ3,hk3⟩|⟨rfl,hJx3⟩⟩
        ·have HP3:=hidI (HP1.out.yield hkf hJ3 hk3)
         clear hkf hJ3 hk3
         have HRY:Hid (pieces s.data.toList=(pre++[(b',(s.data.toList.drop b').take (pos-b'))])++(pos,[40])::run s.data.toList (pos+1) none false (s.data.toList.drop (pos+1))):=hidI (by rw [HRX.out];simp)
         obtain ⟨fn2,tmps2,assign2,body2,hy2,hYR2⟩:=HY.out (pre++[(b',(s.data.toList.drop b').take (pos-b'))]) (pos,[40]) W3 HP3.out.1 (by rw [HRY.out];exact ⟨run s.data.toList (pos+1) none false (s.data.toList.drop (pos+1)),by simp⟩)
         dsimp only [encQ] at hy2
         rw [show bytesOf [40]=(⟨#[40]⟩:ByteArray) from rfl] at hy2
         gi_wp2_with (first|(refine ⟨trivial,rfl,?_⟩;gi_at_call 68;refine (callsIn_wide.2 (CB1.out _)).mono ?_;rintro e w' ⟨rfl,rfl⟩)|(refine ⟨trivial,rfl,?_⟩;gi_at_call 69;refine (callsIn_wide.2 (CS1.out _)).mono ?_;rintro e w' ⟨rfl,rfl⟩))
         refine ⟨rfl,hYR2.mono ?_⟩
         rintro e W5 ⟨hkf,⟨rfl,hJ3,hk3⟩|⟨rfl,hJx3⟩⟩
         ·have HP5:=hidI (HP3.out.yield hkf hJ3 hk3)
          clear hkf hJ3 hk3
          gi_wp2_with (first|(refine ⟨trivial,rfl,?_⟩;gi_at_call 68;refine (callsIn_wide.2 (CB1.out _)).mono ?_;rintro e w' ⟨rfl,rfl⟩)|(refine ⟨trivial,rfl,?_⟩;gi_at_call 69;refine (callsIn_wide.2 (CS1.out _)).mono ?_;rintro e w' ⟨rfl,rfl⟩))
          go_roundg (n-(pos+1))
          case measure=>omega
          case rel=>
           exact ⟨pos+1,none,false,pre++[(b',(s.data.toList.drop b').take (pos-b'))]++[(pos,[40])],by omega,.inl ⟨rfl,rfl⟩,by first|rfl|(rw [bne,k10];rfl),HP5,hidI (by rw [HRY.out];simp)⟩
         ·have HJ4:=hidI hJx3
          clear hkf hJx3
          gi_wp2_with (first|(refine ⟨trivial,rfl,?_⟩;gi_at_call 68;refine (callsIn_wide.2 (CB1.out _)).mono ?_;rintro e w' ⟨rfl,rfl⟩)|(refine ⟨trivial,rfl,?_⟩;gi_at_call 69;refine (callsIn_wide.2 (CS1.out _)).mono ?_;rintro e w' ⟨rfl,rfl⟩))
          refine bodyPost_ret (results_none rfl _ _ _) rfl ?_
          exact ⟨⟨_,rfl⟩,.inr ⟨_,HJ4.out⟩⟩
        ·have HJ4:=hidI hJx3
         clear hkf hJx3
         gi_wp2_with (first|(refine ⟨trivial,rfl,?_⟩;gi_at_call 68;refine (callsIn_wide.2 (CB1.out _)).mono ?_;rintro e w' ⟨rfl,rfl⟩)|(refine ⟨trivial,rfl,?_⟩;gi_at_call 69;refine (callsIn_wide.2 (CS1.out _)).mono ?_;rintro e w' ⟨rfl,rfl⟩))
         refine bodyPost_ret (results_none rfl _ _ _) rfl ?_
         exact ⟨⟨_,rfl⟩,.inr ⟨_,HJ4.out⟩⟩
      | false=>
       cases h41:(c==41) with
       | true=>
        clear h59 h40
        obtain rfl:c=41:=by simpa using h41
        have CB1:Hid (∀ w,Calls Tryz.prog 68 #[.int .i32 41] w fun e w'=>e=.returned (.bool true)∧w=w'):=hidI fun w=>CB.out 41 w
        have CS1:Hid (∀ w,Calls Tryz.prog 69 #[.int .i32 41] w fun e w'=>e=.returned (.bool false)∧w=w'):=hidI fun w=>CS.out 41 w
        clear h41
        have hue:Utf8.encode 41=(⟨#[41]⟩:ByteArray):=rfl
        rcases hb with ⟨rfl,rfl⟩|⟨_,b',rfl,rfl,hbp⟩
        ·have HRX:Hid (pieces s.data.toList=pre++(pos,[41])::run s.data.toList (pos+1) none false (s.data.toList.drop (pos+1))):=hidI (by rw [HR.out,HDR.out,run_bracket (by decide)])
         obtain ⟨fn2,tmps2,assign2,body2,hy2,hYR2⟩:=HY.out (pre) (pos,[41]) W1 HP1.out.1 (by rw [HRX.out];exact ⟨run s.data.toList (pos+1) none false (s.data.toList.drop (pos+1)),by simp⟩)
         dsimp only [encQ] at hy2
         rw [show bytesOf [41]=(⟨#[41]⟩:ByteArray) from rfl] at hy2
         gi_wp2_with (first|(refine ⟨trivial,rfl,?_⟩;gi_at_call 68;refine (callsIn_wide.2 (CB1.out _)).mono ?_;rintro e w' ⟨rfl,rfl⟩)|(refine ⟨trivial,rfl,?_⟩;gi_at_call 69;refine (callsIn_wide.2 (CS1.out _)).mono ?_;rintro e w' ⟨rfl,rfl⟩))
         refine ⟨fun f hf=>(by cases hf),?_⟩
         gi_wp2_with (first|(refine ⟨trivial,rfl,?_⟩;gi_at_call 68;refine (callsIn_wide.2 (CB1.out _)).mono ?_;rintro e w' ⟨rfl,rfl⟩)|(refine ⟨trivial,rfl,?_⟩;gi_at_call 69;refine (callsIn_wide.2 (CS1.out _)).mono ?_;rintro e w' ⟨rfl,rfl⟩))
         refine ⟨rfl,hYR2.mono ?_⟩
         rintro e W5 ⟨hkf,⟨rfl,hJ3,hk3⟩|⟨rfl,hJx3⟩⟩
         ·have HP5:=hidI (HP1.out.yield hkf hJ3 hk3)
          clear hkf hJ3 hk3
          gi_wp2_with (first|(refine ⟨trivial,rfl,?_⟩;gi_at_call 68;refine (callsIn_wide.2 (CB1.out _)).mono ?_;rintro e w' ⟨rfl,rfl⟩)|(refine ⟨trivial,rfl,?_⟩;gi_at_call 69;refine (callsIn_wide.2 (CS1.out _)).mono ?_;rintro e w' ⟨rfl,rfl⟩))
          go_roundg (n-(pos+1))
          case measure=>omega
          case rel=>
           exact ⟨pos+1,none,false,pre++[(pos,[41])],by omega,.inl ⟨rfl,rfl⟩,by first|rfl|(rw [bne,k10];rfl),HP5,hidI (by rw [HRX.out];simp)⟩
         ·have HJ4:=hidI hJx3
          clear hkf hJx3
          gi_wp2_with (first|(refine ⟨trivial,rfl,?_⟩;gi_at_call 68;refine (callsIn_wide.2 (CB1.out _)).mono ?_;rintro e w' ⟨rfl,rfl⟩)|(refine ⟨trivial,rfl,?_⟩;gi_at_call 69;refine (callsIn_wide.2 (CS1.out _)).mono ?_;rintro e w' ⟨rfl,rfl⟩))
          refine bodyPost_ret (results_none rfl _ _ _) rfl ?_
          exact ⟨⟨_,rfl⟩,.inr ⟨_,HJ4.out⟩⟩
        ·have HRX:Hid (pieces s.data.toList=pre++(b',(s.data.toList.drop b').take (pos-b'))::(pos,[41])::run s.data.toList (pos+1) none false (s.data.toList.drop (pos+1))):=hidI (by rw [HR.out,HDR.out];simp [run,word,bracket])
         have q3:=slice_to s b' pos (by omega) (by omega)
         obtain ⟨fn,tmps,assign,body,hy,hYR⟩:=HY.out pre (b',(s.data.toList.drop b').take (pos-b')) W1 HP1.out.1 (by rw [HRX.out];exact ⟨(pos,[41])::run s.data.toList (pos+1) none false (s.data.toList.drop (pos+1)),by simp⟩)
         dsimp only [encQ] at hy
         have k1:((b':Int) == -1)=false:=by first|(simp;done)|(simp;omega)
         obtain ⟨tb,htb⟩:∃ tb,bytesOf ((s.data.toList.drop b').take (pos-b'))=tb:=⟨_,rfl⟩
         rw [htb] at q3 hy
         clear htb
         gi_wp2_with (first|(refine ⟨trivial,rfl,?_⟩;gi_at_call 68;refine (callsIn_wide.2 (CB1.out _)).mono ?_;rintro e w' ⟨rfl,rfl⟩)|(refine ⟨trivial,rfl,?_⟩;gi_at_call 69;refine (callsIn_wide.2 (CS1.out _)).mono ?_;rintro e w' ⟨rfl,rfl⟩))
         refine ⟨rfl,hYR.mono ?_⟩
         rintro e W3 ⟨hkf,⟨rfl,hJ3,hk3⟩|⟨rfl,hJx3⟩⟩
         ·have HP3:=hidI (HP1.out.yield hkf hJ3 hk3)
          clear hkf hJ3 hk3
          have HRY:Hid (pieces s.data.toList=(pre++[(b',(s.data.toList.drop b').take (pos-b'))])++(pos,[41])::run s.data.toList (pos+1) none false (s.data.toList.drop (pos+1))):=hidI (by rw [HRX.out];simp)
          obtain ⟨fn2,tmps2,assign2,body2,hy2,hYR2⟩:=HY.out (pre++[(b',(s.data.toList.drop b').take (pos-b'))]) (pos,[41]) W3 HP3.out.1 (by rw [HRY.out];exact ⟨run s.data.toList (pos+1) none false (s.data.toList.drop (pos+1)),by simp⟩)
          dsimp only [encQ] at hy2
          rw [show bytesOf [41]=(⟨#[41]⟩:ByteArray) from rfl] at hy2
          gi_wp2_with (first|(refine ⟨trivial,rfl,?_⟩;gi_at_call 68;refine (callsIn_wide.2 (CB1.out _)).mono ?_;rintro e w' ⟨rfl,rfl⟩)|(refine ⟨trivial,rfl,?_⟩;gi_at_call 69;refine (callsIn_wide.2 (CS1.out _)).mono ?_;rintro e w' ⟨rfl,rfl⟩))
          refine ⟨rfl,hYR2.mono ?_⟩
          rintro e W5 ⟨hkf,⟨rfl,hJ3,hk3⟩|⟨rfl,hJx3⟩⟩
          ·have HP5:=hidI (HP3.out.yield hkf hJ3 hk3)
           clear hkf hJ3 hk3
           gi_wp2_with (first|(refine ⟨trivial,rfl,?_⟩;gi_at_call 68;refine (callsIn_wide.2 (CB1.out _)).mono ?_;rintro e w' ⟨rfl,rfl⟩)|(refine ⟨trivial,rfl,?_⟩;gi_at_call 69;refine (callsIn_wide.2 (CS1.out _)).mono ?_;rintro e w' ⟨rfl,rfl⟩))
           go_roundg (n-(pos+1))
           case measure=>omega
           case rel=>
            exact ⟨pos+1,none,false,pre++[(b',(s.data.toList.drop b').take (pos-b'))]++[(pos,[41])],by omega,.inl ⟨rfl,rfl⟩,by first|rfl|(rw [bne,k10];rfl),HP5,hidI (by rw [HRY.out];simp)⟩
          ·have HJ4:=hidI hJx3
           clear hkf hJx3
           gi_wp2_with (first|(refine ⟨trivial,rfl,?_⟩;gi_at_call 68;refine (callsIn_wide.2 (CB1.out _)).mono ?_;rintro e w' ⟨rfl,rfl⟩)|(refine ⟨trivial,rfl,?_⟩;gi_at_call 69;refine (callsIn_wide.2 (CS1.out _)).mono ?_;rintro e w' ⟨rfl,rfl⟩))
           refine bodyPost_ret (results_none rfl _ _ _) rfl ?_
           exact ⟨⟨_,rfl⟩,.inr ⟨_,HJ4.out⟩⟩
         ·have HJ4:=hidI hJx3
          clear hkf hJx3
          gi_wp2_with (first|(refine ⟨trivial,rfl,?_⟩;gi_at_call 68;refine (callsIn_wide.2 (CB1.out _)).mono ?_;rintro e w' ⟨rfl,rfl⟩)|(refine ⟨trivial,rfl,?_⟩;gi_at_call 69;refine (callsIn_wide.2 (CS1.out _)).mono ?_;rintro e w' ⟨rfl,rfl⟩))
          refine bodyPost_ret (results_none rfl _ _ _) rfl ?_
          exact ⟨⟨_,rfl⟩,.inr ⟨_,HJ4.out⟩⟩
       | false=>
        have hbr:bracket c=false:=by unfold bracket;rw [h40,h41];rfl
        clear h40 h41
        cases hsp:spaced c with
        | true=>
         have hbI:=brI_eq c
         have hsI:=spI_eq c
         rw [hbr] at hbI
         rw [hsp] at hsI
         have CB1:Hid (∀ w,Calls Tryz.prog 68 #[.int .i32 (c.toNat:Int)] w fun e w'=>e=.returned (.bool false)∧w=w'):=hidI fun w=>by rw [←hbI];exact CB.out _ w
         have CS1:Hid (∀ w,Calls Tryz.prog 69 #[.int .i32 (c.toNat:Int)] w fun e w'=>e=.returned (.bool true)∧w=w'):=hidI fun w=>by rw [←hsI];exact CS.out _ w
         have k59:((c.toNat:Int)==59)=false:=by rw [←h59];exact u8_eq c 59 (by decide)
         have HC59:Hid (¬ c=59):=hidI (by simpa using h59)
         clear hbI hsI h59
         rcases hb with ⟨rfl,rfl⟩|⟨_,b',rfl,rfl,hbp⟩
         ·gi_wp2_with (first|(refine ⟨trivial,rfl,?_⟩;gi_at_call 68;refine (callsIn_wide.2 (CB1.out _)).mono ?_;rintro e w' ⟨rfl,rfl⟩)|(refine ⟨trivial,rfl,?_⟩;gi_at_call 69;refine (callsIn_wide.2 (CS1.out _)).mono ?_;rintro e w' ⟨rfl,rfl⟩))
          refine ⟨fun f hf=>(by cases hf),?_⟩
          gi_wp2_with (first|(refine ⟨trivial,rfl,?_⟩;gi_at_call 68;refine (callsIn_wide.2 (CB1.out _)).mono ?_;rintro e w' ⟨rfl,rfl⟩)|(refine ⟨trivial,rfl,?_⟩;gi_at_call 69;refine (callsIn_wide.2 (CS1.out _)).mono ?_;rintro e w' ⟨rfl,rfl⟩))
          go_roundg (n-(pos+1))
          case measure=>omega
          case rel=>
           exact ⟨pos+1,none,false,pre,by omega,.inl ⟨rfl,rfl⟩,by first|rfl|(rw [bne,k10];rfl),HP1,hidI (by rw [HR.out,HDR.out];simp [run,word,HC59.out,hbr,hsp])⟩
         ·have HRX:Hid (pieces s.data.toList=pre++(b',(s.data.toList.drop b').take (pos-b'))::run s.data.toList (pos+1) none false (s.data.toList.drop (pos+1))):=hidI (by rw [HR.out,HDR.out];simp [run,word,HC59.out,hbr,hsp])
          have q3:=slice_to s b' pos (by omega) (by omega)
          obtain ⟨fn,tmps,assign,body,hy,hYR⟩:=HY.out pre (b',(s.data.toList.drop b').take (pos-b')) W1 HP1.out.1 (by rw [HRX.out];exact ⟨run s.data.toList (pos+1) none false (s.data.toList.drop (pos+1)),by simp⟩)
          dsimp only [encQ] at hy
          have k1:((b':Int) == -1)=false:=by first|(simp;done)|(simp;omega)
          obtain ⟨tb,htb⟩:∃ tb,bytesOf ((s.data.toList.drop b').take (pos-b'))=tb:=⟨_,rfl⟩
          rw [htb] at q3 hy
          clear htb
          gi_wp2_with (first|(refine ⟨trivial,rfl,?_⟩;gi_at_call 68;refine (callsIn_wide.2 (CB1.out _)).mono ?_;rintro e w' ⟨rfl,rfl⟩)|(refine ⟨trivial,rfl,?_⟩;gi_at_call 69;refine (callsIn_wide.2 (CS1.out _)).mono ?_;rintro e w' ⟨rfl,rfl⟩))
          refine ⟨rfl,hYR.mono ?_⟩
          rintro e W3 ⟨hkf,⟨rfl,hJ3,hk3⟩|⟨rfl,hJx3⟩⟩
          ·have HP3:=hidI (HP1.out.yield hkf hJ3 hk3)
           clear hkf hJ3 hk3
           gi_wp2_with (first|(refine ⟨trivial,rfl,?_⟩;gi_at_call 68;refine (callsIn_wide.2 (CB1.out _)).mono ?_;rintro e w' ⟨rfl,rfl⟩)|(refine ⟨trivial,rfl,?_⟩;gi_at_call 69;refine (callsIn_wide.2 (CS1.out _)).mono ?_;rintro e w' ⟨rfl,rfl⟩))
           refine ⟨fun f hf=>(by cases hf),?_⟩
           gi_wp2_with (first|(refine ⟨trivial,rfl,?_⟩;gi_at_call 68;refine (callsIn_wide.2 (CB1.out _)).mono ?_;rintro e w' ⟨rfl,rfl⟩)|(refine ⟨trivial,rfl,?_⟩;gi_at_call 69;refine (callsIn_wide.2 (CS1.out _)).mono ?_;rintro e w' ⟨rfl,rfl⟩))
           go_roundg (n-(pos+1))
           case measure=>omega
           case rel=>
            exact ⟨pos+1,none,false,pre++[(b',(s.data.toList.drop b').take (pos-b'))],by omega,.inl ⟨rfl,rfl⟩,by first|rfl|(rw [bne,k10];rfl),HP3,hidI (by rw [HRX.out];simp)⟩
          ·have HJ4:=hidI hJx3
           clear hkf hJx3
           gi_wp2_with (first|(refine ⟨trivial,rfl,?_⟩;gi_at_call 68;refine (callsIn_wide.2 (CB1.out _)).mono ?_;rintro e w' ⟨rfl,rfl⟩)|(refine ⟨trivial,rfl,?_⟩;gi_at_call 69;refine (callsIn_wide.2 (CS1.out _)).mono ?_;rintro e w' ⟨rfl,rfl⟩))
           refine bodyPost_ret (results_none rfl _ _ _) rfl ?_
           exact ⟨⟨_,rfl⟩,.inr ⟨_,HJ4.out⟩⟩
        | false=>
         have hbI:=brI_eq c
         have hsI:=spI_eq c
         rw [hbr] at hbI
         rw [hsp] at hsI
         have CB1:Hid (∀ w,Calls Tryz.prog 68 #[.int .i32 (c.toNat:Int)] w fun e w'=>e=.returned (.bool false)∧w=w'):=hidI fun w=>by rw [←hbI];exact CB.out _ w
         have CS1:Hid (∀ w,Calls Tryz.prog 69 #[.int .i32 (c.toNat:Int)] w fun e w'=>e=.returned (.bool false)∧w=w'):=hidI fun w=>by rw [←hsI];exact CS.out _ w
         have k59:((c.toNat:Int)==59)=false:=by rw [←h59];exact u8_eq c 59 (by decide)
         have HC59:Hid (¬ c=59):=hidI (by simpa using h59)
         clear hbI hsI h59
         rcases hb with ⟨rfl,rfl⟩|⟨_,b',rfl,rfl,hbp⟩
         ·gi_wp2_with (first|(refine ⟨trivial,rfl,?_⟩;gi_at_call 68;refine (callsIn_wide.2 (CB1.out _)).mono ?_;rintro e w' ⟨rfl,rfl⟩)|(refine ⟨trivial,rfl,?_⟩;gi_at_call 69;refine (callsIn_wide.2 (CS1.out _)).mono ?_;rintro e w' ⟨rfl,rfl⟩))
          go_roundg (n-(pos+1))
          case measure=>omega
          case rel=>
           exact ⟨pos+1,some pos,false,pre,by omega,.inr ⟨rfl,_,rfl,rfl,by omega⟩,by first|rfl|(rw [bne,k10];rfl),HP1,hidI (by rw [HR.out,HDR.out];simp [run,HC59.out,hbr,hsp])⟩
         ·have k1:((b':Int) == -1)=false:=by first|(simp;done)|(simp;omega)
          gi_wp2_with (first|(refine ⟨trivial,rfl,?_⟩;gi_at_call 68;refine (callsIn_wide.2 (CB1.out _)).mono ?_;rintro e w' ⟨rfl,rfl⟩)|(refine ⟨trivial,rfl,?_⟩;gi_at_call 69;refine (callsIn_wide.2 (CS1.out _)).mono ?_;rintro e w' ⟨rfl,rfl⟩))
          go_roundg (n-(pos+1))
          case measure=>omega
          case rel=>
           exact ⟨pos+1,some b',false,pre,by omega,.inr ⟨rfl,_,rfl,rfl,by omega⟩,by first|rfl|(rw [bne,k10];rfl),HP1,hidI (by rw [HR.out,HDR.out];simp [run,HC59.out,hbr,hsp])⟩
   ·have hd:=(decode_high s pos hlt' (by rw [hget,hc];omega)).1
    obtain ⟨hd1,hd2,_⟩:=decode_bytes s pos hlt' (by rw [hc];omega)
    have hrr:=fun (b:Option Nat) (k:Bool)=>run_rune (t:=s.data.toList) (b:=b) (k:=k) hlt' (by rw [hc];omega)
    obtain ⟨r,hr⟩:∃ r,(Utf8.decode s pos).1=r:=⟨_,rfl⟩
    obtain ⟨wd,hwd⟩:∃ wd,(Utf8.decode s pos).2=wd:=⟨_,rfl⟩
    rw [hr,hwd] at qn
    rw [hr] at hd
    rw [hwd] at hd1 hd2 hrr
    have HP1:=hidI (HP.out.next HJO.out HT.out (pos+wd))
    obtain ⟨W1,hW1⟩:∃ W1,wr.iterAt W.heap.size s (pos+wd)=W1:=⟨_,rfl⟩
    rw [hW1] at qn HP1
    have k10:((r:Int)==10)=false:=by simp;omega
    have k59:((r:Int)==59)=false:=by simp;omega
    have CB1:Hid (∀ w,Calls Tryz.prog 68 #[.int .i32 (r:Int)] w fun e w'=>e=.returned (.bool false)∧w=w'):=hidI (by
     have hb:brI (r:Int)=false:=by unfold brI;simp;omega
     rw [←hb];exact CB.out _)
    have CS1:Hid (∀ w,Calls Tryz.prog 69 #[.int .i32 (r:Int)] w fun e w'=>e=.returned (.bool false)∧w=w'):=hidI (by
     have hb:spI (r:Int)=false:=by unfold spI;simp;omega
     rw [←hb];exact CS.out _)
    have HRR:=hidI hrr
    have hpn:pos+wd≤n:=by have:=HN.out;omega
    clear hd hdr hget hW1 hit HP ha hc hr hwd hrr hd1
    rcases hb with ⟨rfl,rfl⟩|⟨rfl,b',rfl,rfl,hbp⟩
    ·cases k with
     | true=>
      gi_wp2
      go_roundg (n-(pos+wd))
      case measure=>omega
      case rel=>
       exact ⟨pos+wd,none,true,pre,by omega,.inl ⟨rfl,rfl⟩,by first|rfl|(rw [bne,k10];rfl),HP1,hidI (by rw [HR.out,HRR.out none true (by simp)];rfl)⟩
     | false=>
      gi_wp2_with (first|(refine ⟨trivial,rfl,?_⟩;gi_at_call 68;refine (callsIn_wide.2 (CB1.out _)).mono ?_;rintro e w' ⟨rfl,rfl⟩)|(refine ⟨trivial,rfl,?_⟩;gi_at_call 69;refine (callsIn_wide.2 (CS1.out _)).mono ?_;rintro e w' ⟨rfl,rfl⟩))
      go_roundg (n-(pos+wd))
      case measure=>omega
      case rel=>
       exact ⟨pos+wd,some pos,false,pre,by omega,.inr ⟨rfl,pos,rfl,rfl,by omega⟩,rfl,HP1,hidI (by rw [HR.out,HRR.out none false (by simp)];rfl)⟩
    ·have k1:((b':Int) == -1)=false:=by first|(simp;done)|(simp;omega)
     gi_wp2_with (first|(refine ⟨trivial,rfl,?_⟩;gi_at_call 68;refine (callsIn_wide.2 (CB1.out _)).mono ?_;rintro e w' ⟨rfl,rfl⟩)|(refine ⟨trivial,rfl,?_⟩;gi_at_call 69;refine (callsIn_wide.2 (CS1.out _)).mono ?_;rintro e w' ⟨rfl,rfl⟩))
     go_roundg (n-(pos+wd))
     case measure=>omega
     case rel=>
      exact ⟨pos+wd,some b',false,pre,by omega,.inr ⟨rfl,b',rfl,rfl,by omega⟩,rfl,HP1,hidI (by rw [HR.out,HRR.out (some b') false (by simp)];rfl)⟩
theorem pieces_seq (Bg:Nat) (s:ByteArray) (w:World) (hB:w.cell? ⟨Bg,0,none⟩=some (.string s)):Seq 67 #[.pointer (some ⟨Bg,0,none⟩)] encQ (fun k _=>k=Bg) (fun ys=>ys=pieces s.data.toList) (fun pre x=>(pre++[x]) <+: pieces s.data.toList) w:=by
 intro l J Jx W hW hJ _ hY h0
 have hlt:=World.block_lt_of_cell? w _ hB
 exact walk_in l Bg s (fun k _=>k=Bg) (fun o=>rfl) J Jx W (fun k o e=>by subst e;exact Nat.lt_of_lt_of_le hlt hW.size) hJ hY ((hW.cell (p:=⟨Bg,0,none⟩) hlt).trans hB) h0
open Go.RowKit Go.Deep Go.MapKept
theorem round_Z {l n id:Nat} {ops:Array Oper} {Q:Exit→Act→World→Prop} {a:Act} {w:World} (S:World→Prop) (z:Nat) (hd:noDefer ops=true)
  (h:wpZ Tryz.prog .any ops (Goes (Q .normal)) S z ops.size (Array.replicate ops.size false) a w.drew):(Code.region id ops true).wpIn (WR l) n Tryz.prog Q a w:=
 wpIn_mono (wpIn_region_any Tryz.mixed (wpAnyIn_of hd (goes_out _) _ _ _ _ (wpZ_any _ _ _ _ h))) (goes_imp fun _ _ h=>h)
@[go_sem] def ops12N:Nat→Oper
 | 0=>⟨some 25,.load 63 (.tmp 5),63, "lex.go:26",#[],none⟩
 | 1=>⟨some 26,.move (.tmp 8),87, "lex.go:26",#[],none⟩
 | 2=>⟨some 27,.move (.tmp 7),9, "lex.go:26",#[],none⟩
 | 3=>⟨some 28,.move (.tmp 6),3, "lex.go:26",#[],none⟩
 | 4=>⟨some 29,.call ⟨.value (.func 44),#[.tmp 26,.tmp 27,.tmp 28],#[87,9,3]⟩,91, "lex.go:26",#[⟨1,.data⟩,⟨2,.data⟩,⟨3,.data⟩],none⟩
 | 5=>⟨some 30,.buildSlice 63 1 #[(0,.tmp 29)],63, "lex.go:26",#[⟨4,.data⟩],none⟩
 | 6=>⟨some 31,.call ⟨.builtin .append,#[.tmp 25,.tmp 30],#[63,63]⟩,63, "lex.go:26",#[⟨0,.data⟩,⟨5,.data⟩,⟨4,.chain⟩],none⟩
 | _=>⟨none,.store 63 (.tmp 5) (.tmp 31),0, "lex.go:26",#[⟨6,.data⟩,⟨6,.chain⟩,⟨0,.phase⟩,⟨1,.phase⟩,⟨2,.phase⟩,⟨3,.phase⟩,⟨4,.phase⟩,⟨5,.phase⟩,⟨6,.phase⟩],none⟩
def ops12:Array Oper:=opsA ops12N 7
theorem ops12_0:ops12[0]?=some (ops12N 0):=zaA ops12N 7 (by decide)
theorem ops12_1:ops12[1]?=some (ops12N 1):=zaA ops12N 7 (by decide)
theorem ops12_2:ops12[2]?=some (ops12N 2):=zaA ops12N 7 (by decide)
theorem ops12_3:ops12[3]?=some (ops12N 3):=zaA ops12N 7 (by decide)
theorem ops12_4:ops12[4]?=some (ops12N 4):=zaA ops12N 7 (by decide)
theorem ops12_5:ops12[5]?=some (ops12N 5):=zaA ops12N 7 (by decide)
theorem ops12_6:ops12[6]?=some (ops12N 6):=zaA ops12N 7 (by decide)
theorem ops12_7:ops12[7]?=some (ops12N 7):=zaA ops12N 7 (by decide)
set_option maxRecDepth 100000 in
set_option maxHeartbeats 1500000 in
theorem reg12 {l n:Nat} {x0 x1 x2 x3 x4 x9 x10 x11 x12 x13 x14 x15 x16 x17 x18 x19 x20 x21 x22 x23 x24 x25 x26 x27 x28 x29 x30 x31 x32:Value} {Q:Exit→Act→World→Prop} {V0:World} {B5 base:Nat} {u:Value} {r:List Tok} {x:Tok}
  (hC:∀ w,Laid w→Calls Tryz.prog 44 #[.int .u8 x.k,.string x.s,.int .i64 x.p] w fun e w'=>e=.returned (.agg #[.int .u8 x.k,.string x.s,.int .i64 x.n,.int .i64 x.p])∧Below w.heap.size w w') (hL:Laid V0.drew)
  (hS0:V0.drew.cell? ⟨B5,0,none⟩=some u) (hfz:V0.drew.frozen? ⟨B5,0,none⟩=false) (hown:V0.drew.ownsRow base 91 4 u r.length (flatT r)) (hr:r.length≤600) (hbase:base≤V0.drew.heap.size)
  (hg:u.ownBlock≠some B5)
  (hQ:∀ (W1 W5:World) (u':Value) (t25 t26 t27 t28 t29 t30 t31:Value),Below V0.drew.heap.size V0.drew W1→(W1.alloc (.cells #[.int .u8 x.k,.string x.s,.int .i64 x.n,.int .i64 x.p] 91)).grownBy W5 u.ownBlock→W5.ownsRow base 91 4 u' (r.length+1) (flatT r++x.cells)→Q .normal { tmps:=#[x0,x1,x2,x3,x4,.pointer (some ⟨B5,0,none⟩),.int .i64 x.p,.string x.s,.int .u8 x.k,x9,x10,x11,x12,x13,x14,x15,x16,x17,x18,x19,x20,x21,x22,x23,x24,t25,t26,t27,t28,t29,t30,t31,x32],defers:=[] } (W5.setCell ⟨B5,0,none⟩ u')) :
  (Code.region 12 ops12 true).wpIn (WR l) n Tryz.prog Q { tmps:=#[x0,x1,x2,x3,x4,.pointer (some ⟨B5,0,none⟩),.int .i64 x.p,.string x.s,.int .u8 x.k,x9,x10,x11,x12,x13,x14,x15,x16,x17,x18,x19,x20,x21,x22,x23,x24,x25,x26,x27,x28,x29,x30,x31,x32],defers:=[] } V0:=by
 refine round_Z (fun y=>y.cell? ⟨B5,0,none⟩=some u) 7 (by kernel_rfl) ?_
 obtain ⟨V,hV⟩:∃ V,V0.drew=V:=⟨_,rfl⟩
 rw [hV] at hS0 hfz hown hbase hQ hL ⊢
 clear hV
 have HOwn:=hidI hown
 have HQ:=hidI hQ
 have HC:=hidI hC
 have HL:=hidI hL
 have HPan:Hid (∀ c (a:Act) w (dd:Tmp) vv,Goes (Q .normal) (.panic c) (a.put (some dd) vv) w→Goes (Q .normal) (.panic c) a w):=hidI fun _ _ _ _ _ h=>h
 have hgl:B5<V.heap.size:=World.block_lt_of_cell? V _ hS0
 have hu1:∃ ua ul uc,u=.slice ua ul uc:=by
  rcases hown.2 with ⟨rfl,_⟩|⟨_,_,_,rfl,_⟩<;>exact ⟨_,_,_,rfl⟩
 obtain ⟨ua,ul,uc,rfl⟩:=hu1
 clear hown hQ hC hL
 refine zaF [7] (i:=0) (v:=(.slice ua ul uc)) ops12_0 HPan.out hS0 (fun y hy => ?_) ?_
 ·go_simp
 refine zaF [7] (i:=1) (v:=(.int .u8 x.k)) ops12_1 HPan.out hS0 (fun y hy => ?_) ?_
 ·go_simp
 refine zaF [7] (i:=2) (v:=(.string x.s)) ops12_2 HPan.out hS0 (fun y hy => ?_) ?_
 ·go_simp
 refine zaF [7] (i:=3) (v:=(.int .i64 x.p)) ops12_3 HPan.out hS0 (fun y hy => ?_) ?_
 ·go_simp
 have HKS:Hid (∀ y:World,Below V.heap.size V y→y.cell? ⟨B5,0,none⟩=some (.slice ua ul uc)):=hidI fun y hy=>(hy.cell hgl).trans hS0
 refine zbB (rs:=[4]) (by kernel_rfl) (by simp) fun j4 hj4 => ?_
 obtain rfl:j4=4:=by simpa using hj4
 refine zaN ops12_4 rfl fun K1 hK1 => ?_
 unfold Oper.wp
 go_simp
 refine Calls.mono (HC.out _ HL.out) ?_
 rintro e W1 ⟨rfl,hb1⟩
 have H1:=hidI hb1
 have hS1:=HKS.out _ hb1
 have hf1:W1.frozen? ⟨B5,0,none⟩=false:=(hb1.frozen (p:=⟨B5,0,none⟩) hgl).trans hfz
 have HO1:=hidI (zbQ HOwn.out hb1 (Nat.le_refl _))
 have hz1:=hb1.size
 clear hb1
 refine hK1 _ _ ⟨fun _=>hS1,?_⟩
 clear hK1 K1
 refine zbB (rs:=[5]) (by kernel_rfl) (by simp) fun j5 hj5 => ?_
 obtain rfl:j5=5:=by simpa using hj5
 refine zaN ops12_5 rfl fun K1 hK1 => ?_
 unfold Oper.wp
 go_simp
 have hA:Below W1.heap.size W1 (W1.alloc (.cells #[.int .u8 x.k,.string x.s,.int .i64 x.n,.int .i64 x.p] 91)):=by exact belowT
 have hSA:(W1.alloc (.cells #[.int .u8 x.k,.string x.s,.int .i64 x.n,.int .i64 x.p] 91)).cell? ⟨B5,0,none⟩=some (.slice ua ul uc):=(hA.cell (Nat.lt_of_lt_of_le hgl hz1)).trans hS1
 refine hK1 _ _ ⟨fun _=>hSA,?_⟩
 clear hK1 K1
 have HO2:=hidI (HO1.out.alloc (.cells #[.int .u8 x.k,.string x.s,.int .i64 x.n,.int .i64 x.p] 91))
 have HV:=hidI (tok_seen (W:=W1) x)
 have hfA:(W1.alloc (.cells #[.int .u8 x.k,.string x.s,.int .i64 x.n,.int .i64 x.p] 91)).frozen? ⟨B5,0,none⟩=false:=(hA.frozen (p:=⟨B5,0,none⟩) (Nat.lt_of_lt_of_le hgl hz1)).trans hf1
 have hszA:(W1.alloc (.cells #[.int .u8 x.k,.string x.s,.int .i64 x.n,.int .i64 x.p] 91)).heap.size=W1.heap.size+1:=by simp
 obtain ⟨VA,hVA⟩:∃ VA,W1.alloc (.cells #[.int .u8 x.k,.string x.s,.int .i64 x.n,.int .i64 x.p] 91)=VA:=⟨_,rfl⟩
 rw [hVA] at HO2 HV hSA hfA hszA ⊢
 have HVA:=hidI hVA
 clear hVA hA
 refine zbB (rs:=[6]) (by kernel_rfl) (by simp) fun j6 hj6 => ?_
 obtain rfl:j6=6:=by simpa using hj6
 refine zaN ops12_6 rfl fun K1 hK1 => ?_
 refine zbK Tryz.underlying63 Tryz.info91 rfl (by decide) (by decide) _ _ rfl base _ r.length (flatT r) rfl HO2.out _ 1 x.cells rfl HV.out (tcells_one x) (by omega) (by omega) ?_
 intro u' W5 hown5 hgrow5 hat5
 have HO5:=hidI hown5
 have HG5:=hidI hgrow5
 have hS5:W5.cell? ⟨B5,0,none⟩=some (.slice ua ul uc):=hgrow5.cell hSA (fun e=>hg e.symm)
 have hf5:W5.frozen? ⟨B5,0,none⟩=false:=(World.frozen?_of_block (w:=VA) (a:=⟨B5,0,none⟩) (hgrow5.block B5 (by omega) (fun e=>hg e.symm))).trans hfA
 obtain ⟨a6,l6,c6,hv6⟩:∃ a6 l6 c6,u'=.slice a6 l6 c6:=by
  rcases hown5.2 with ⟨rfl,_⟩|⟨_,_,_,rfl,_⟩<;>exact ⟨_,_,_,rfl⟩
 subst hv6
 refine hK1 _ _ ⟨fun _=>hS5,?_⟩
 clear hK1 K1 hown5 hgrow5 hat5
 refine zbN (by kernel_rfl) (by kernel_rfl) ?_ _
 refine zaN ops12_7 rfl fun K1 hK1 => ?_
 unfold Oper.wp
 go_simp
 refine hK1 _ _ ?_
 exact HQ.out W1 W5 _ _ _ _ _ _ _ _ H1.out (by rw [HVA.out];exact HG5.out) HO5.out
end Go.Proofs.YtmekkhfohmfjkaaGreatDoor
