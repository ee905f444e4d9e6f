/-
  Part 25 of the proof: RToksD.
-/
import Derived.Test.YtfljimpgnlfipaaGreatDoorTE03
import Derived.Test.YtfljimpgnlfipaaGreatDoorTE23
import Derived.Test.YtfljimpgnlfipaaGreatDoorTE24
namespace Go.Proofs.YtfljimpgnlfipaaGreatDoor
open Go.RowKit Go.Deep Go.MapKept
set_option maxRecDepth 100000 in
set_option maxHeartbeats 40000000 in
theorem rtoks_in (s:ByteArray) (w:World) (hs:s.size≤3000):Calls Tryz.prog 24 #[.string s] w fun e w'=>∃ v,e=.returned v∧RTPost s w v w':=by
 obtain ⟨n,hn⟩:∃ n,s.size=n:=⟨_,rfl⟩;have ql:∀ w,(Builtin.len_ #[9] 3 #[.string s]).run Tryz.prog w=.ok (.int .i64 (n:Int)) w:=fun w=>by rw [run_len_string w 9 3 s Tryz.underlying9,hn];rfl
 have QI:=hidI (sign_at s);have HN:=hidI hn;rw [hn] at QI hs;have k0:decide (3000<(n:Int))=false:=by simp;omega
 have CS:=hidI rspaced_any;have CE:=hidI ends_any;clear hn;go_enter Tryz.func24,Tryz.ntmps24;go_wp2
 go_loopg [5,6] n (fun g v5 s6 wx=>∃ (i:Nat) (D:List Piece),i+g=n∧s6=.int .i64 i∧Hid (TInv s w i D v5 wx))
 case atStart=>exact ⟨0,[],by omega,rfl,hidI (TInv.zero s w)⟩
 case round=>
  obtain ⟨i,D,hig,rfl,HI⟩:=hrel;cases gk with
  | zero=>
   obtain rfl:n=i:=by omega
   go_wp2;go_ret3;have h:=HI.out;have e:=HN.out;rw [←e] at h;exact ⟨_,rfl,TInv.done (by omega) h⟩
  | succ g=>
   have him:i<n:=by omega
   have k3:(i:Int)<(n:Int):=by omega
   have q1:∀ w,(Instr.index 9 (.string s) (.int .i64 (i:Int))).run Tryz.prog w=.ok (.int .u8 (sign s i)) w:=QI.out i him;have hby:=sign_byte s i (by have:=HN.out;omega);have hdr:=drop_byte s i (by have:=HN.out;omega);obtain ⟨c,hc⟩:∃ c,s.get! i=c:=⟨_,rfl⟩;rw [hc] at hby hdr;rw [hby] at q1;have HDR:=hidI hdr;clear hby hdr;cases hsp:spaced c with
   | true=>
    have hsp':=spI_eq c;rw [hsp] at hsp';have CS1:Hid (∀ w,Calls Tryz.prog 49 #[.int .u8 (c.toNat:Int)] w fun e w'=>e=.returned (.bool true)∧w=w'):=hidI (by rw [←hsp'];exact CS.out _);clear hsp'
    go_wp2_with (go_at_call 49;refine Calls.mono (CS1.out _) ?_;rintro e w1 ⟨rfl,rfl⟩)
    go_roundg g
    case measure=>omega
    case rel=>
     refine ⟨i+1,D,by omega,by go_num,hidI (TInv.move HI.out ?_)⟩;rw [HDR.out,run_space hsp]
   | false=>
    have hsp':=spI_eq c;rw [hsp] at hsp';have CS1:Hid (∀ w,Calls Tryz.prog 49 #[.int .u8 (c.toNat:Int)] w fun e w'=>e=.returned (.bool false)∧w=w'):=hidI (by rw [←hsp'];exact CS.out _);clear hsp';by_cases h59:c=59
    ·subst h59
     go_wp2_with (go_at_call 49;refine Calls.mono (CS1.out _) ?_;rintro e w1 ⟨rfl,rfl⟩)
     go_loopg [6] (g+1) (fun g2 s6 wx=>∃ j:Nat,j+g2=n∧s6=.int .i64 j∧wr=wx∧Hid (i≤j∧run s.data.toList i none false (s.data.toList.drop i)=run s.data.toList j none true (s.data.toList.drop j)))
     case atStart=>exact ⟨i,by omega,rfl,rfl,hidI ⟨Nat.le_refl _,by rw [HDR.out,run_mark]⟩⟩
     case round=>
      obtain ⟨j,hjg,rfl,rfl,HJ⟩:=hrel;cases gk with
      | zero=>
       obtain rfl:n=j:=by omega
       have k5:decide ((n:Int)<(n:Int))=false:=by simp
       go_wp2;go_roundg 0
       case measure=>omega
       case rel=>
        refine ⟨n,D,by omega,rfl,hidI (TInv.move HI.out ?_)⟩;rw [HJ.out.2];refine run_out (.inl ?_);apply List.drop_eq_nil_of_le;rw [Array.length_toList];exact Nat.le_of_eq HN.out
      | succ g2=>
       have hjm:j<n:=by omega
       have k5:(j:Int)<(n:Int):=by omega
       have q2:∀ w,(Instr.index 9 (.string s) (.int .i64 (j:Int))).run Tryz.prog w=.ok (.int .u8 (sign s j)) w:=QI.out j hjm;have hby:=sign_byte s j (by have:=HN.out;omega);have hdr:=drop_byte s j (by have:=HN.out;omega);obtain ⟨d,hd⟩:∃ d,s.get! j=d:=⟨_,rfl⟩;rw [hd] at hby hdr;rw [hby] at q2;have HDS:=hidI hdr;clear hby hdr;cases hd10:(d==10) with
       | true=>
        have k10:((d.toNat:Int)==10)=true:=by rw [←hd10];exact u8_eq d 10 (by decide)
        have hij:i<j:=by
         rcases Nat.lt_or_eq_of_le HJ.out.1 with h|h
         ·exact h
         ·subst h;rw [hc] at hd;subst hd;exact absurd hd10 (by decide)
        go_wp2;go_roundg (g2+1)
        case measure=>omega
        case rel=>
         refine ⟨j,D,by omega,rfl,hidI (TInv.move HI.out ?_)⟩;rw [HJ.out.2];refine run_out (.inr ⟨s.data.toList.drop (j+1),?_⟩);rw [HDS.out,show d=10 by simpa using hd10]
       | false=>
        have k10:((d.toNat:Int)==10)=false:=by rw [←hd10];exact u8_eq d 10 (by decide)
        go_wp2;go_roundg g2
        case measure=>omega
        case rel=>
         refine ⟨j+1,by omega,by go_num,rfl,hidI ⟨by have:=HJ.out.1;omega,?_⟩⟩;rw [HJ.out.2,HDS.out,run_in (by simpa using hd10)]
    ·have k59:((c.toNat:Int)==59)=false:=by
      have:=u8_eq c 59 (by decide);rw [show (((59:Nat):Int))=59 from rfl] at this;rw [this];simpa using h59
     cases h40:(c==40) with
     | true=>
      obtain rfl:c=40:=by simpa using h40
      have TK:Hid ((s.data.toList.drop i).take 1=[40]):=hidI (by rw [HDR.out];rfl);have KP:Hid (tok (i,(s.data.toList.drop i).take 1)=⟨1,bytesOf ((s.data.toList.drop i).take 1),0,(i:Int)⟩):=hidI (by rw [TK.out];simp [tok,kindP,numP]);have HRUN:Hid (run s.data.toList i none false (s.data.toList.drop i)=(i,(s.data.toList.drop i).take 1)::run s.data.toList (i+1) none false (s.data.toList.drop (i+1))):=hidI (by rw [TK.out,HDR.out,run_bracket (by decide)]);have KN:Hid (kindP ((s.data.toList.drop i).take 1)≠0):=hidI (by rw [TK.out];simp [kindP]);have q2:∀ w,(Instr.slice 9 (.string s) (some (.int .i64 (i:Int))) (some (.int .i64 ((i:Int)+1))) none).run Tryz.prog w=.ok (.string (bytesOf ((s.data.toList.drop i).take 1))) w:=slice_at s i 1 (by have:=HN.out;omega);obtain ⟨tb,htb⟩:∃ tb,bytesOf ((s.data.toList.drop i).take 1)=tb:=⟨_,rfl⟩;rw [htb] at q2 KP;have HOW:=hidI HI.out.1;have HB:=hidI HI.out.2.1;obtain ⟨a5,c5,rfl⟩:=zaH HI.out.1;have h600:D.length≤600:=HI.out.2.2.2.2;obtain ⟨dl,hdl⟩:∃ dl,D.length=dl:=⟨_,rfl⟩;have HDL:=hidI hdl;rw [hdl] at HOW h600 ⊢;clear htb hdl hc hsp h40;rcases Nat.lt_or_eq_of_le h600 with hlt|rfl
      ·have k6:decide (600≤(dl:Int))=false:=by simp;omega
       go_wp2_with (first|(go_at_call 49;refine Calls.mono (CS1.out _) ?_;rintro e w1 ⟨rfl,rfl⟩)|(at_builtin;go_must (refine zaF Tryz.underlying53 Tryz.info92 rfl (by decide) (by decide) rfl _ _ rfl w.heap.size _ dl (flatT (D.map tok)) rfl (zcN HOW.out (by (repeat (first|exact Below.refl _ _|assumption|refine Below.drew ?_|refine Below.alloc ?_ (by first|omega|(simp;done)|(simp;omega)) _|refine Below.setCell ?_ (by first|omega|(simp;done)|(simp;omega)) _))) (Nat.le_refl _)) (.slice (some ⟨_,0,none⟩) 1 1) 1 _ rfl (tok_at ⟨1,tb,0,(i:Int)⟩ (by simp)) (zdU _) (by omega) (by have:=HB.out.size;simp;omega) ?_);intro v9 w9 hown9 hgrow9 hat9;refine Hid.out ?_))
       refine hidI ?_;have hb0:=HB.out;have hz:=hb0.size;have hB9:Below w.heap.size w w9:=Below.grown (by (repeat (first|exact Below.refl _ _|assumption|refine Below.drew ?_|refine Below.alloc ?_ (by first|omega|(simp;done)|(simp;omega)) _|refine Below.setCell ?_ (by first|omega|(simp;done)|(simp;omega)) _))) hgrow9 (by simp;omega) (fun k hk=>(HOW.out.lt k hk).1);have HB9:=hidI hB9;have HO9:=hidI hown9;clear hown9 hgrow9 hat9 hB9 hb0 hz;go_wp2;go_roundg (n-(i+1))
       case measure=>omega
       case rel=>
        refine ⟨i+1,D++[(i,(s.data.toList.drop i).take 1)],by omega,by go_num,hidI (TInv.more HI.out HRUN.out KN.out (by have:=HDL.out;omega) ?_ HB9.out)⟩;have h:=HO9.out;rw [KP.out,HDL.out];exact h
      ·go_wp2_with (go_at_call 49;refine Calls.mono (CS1.out _) ?_;rintro e w1 ⟨rfl,rfl⟩)
       go_ret3;have hb0:=HB.out;have hz:=hb0.size;exact ⟨_,rfl,zeH (by have:=HN.out;omega) HI.out HRUN.out (.inr ⟨KN.out,HDL.out,rfl⟩) (by (repeat (first|exact Below.refl _ _|assumption|refine Below.drew ?_|refine Below.alloc ?_ (by first|omega|(simp;done)|(simp;omega)) _|refine Below.setCell ?_ (by first|omega|(simp;done)|(simp;omega)) _)))⟩
     | false=>
      cases h41:(c==41) with
      | true=>
       obtain rfl:c=41:=by simpa using h41
       have TK:Hid ((s.data.toList.drop i).take 1=[41]):=hidI (by rw [HDR.out];rfl);have KP:Hid (tok (i,(s.data.toList.drop i).take 1)=⟨2,bytesOf ((s.data.toList.drop i).take 1),0,(i:Int)⟩):=hidI (by rw [TK.out];simp [tok,kindP,numP]);have HRUN:Hid (run s.data.toList i none false (s.data.toList.drop i)=(i,(s.data.toList.drop i).take 1)::run s.data.toList (i+1) none false (s.data.toList.drop (i+1))):=hidI (by rw [TK.out,HDR.out,run_bracket (by decide)]);have KN:Hid (kindP ((s.data.toList.drop i).take 1)≠0):=hidI (by rw [TK.out];simp [kindP]);have q2:∀ w,(Instr.slice 9 (.string s) (some (.int .i64 (i:Int))) (some (.int .i64 ((i:Int)+1))) none).run Tryz.prog w=.ok (.string (bytesOf ((s.data.toList.drop i).take 1))) w:=slice_at s i 1 (by have:=HN.out;omega);obtain ⟨tb,htb⟩:∃ tb,bytesOf ((s.data.toList.drop i).take 1)=tb:=⟨_,rfl⟩;rw [htb] at q2 KP;have HOW:=hidI HI.out.1;have HB:=hidI HI.out.2.1;obtain ⟨a5,c5,rfl⟩:=zaH HI.out.1;have h600:D.length≤600:=HI.out.2.2.2.2;obtain ⟨dl,hdl⟩:∃ dl,D.length=dl:=⟨_,rfl⟩;have HDL:=hidI hdl;rw [hdl] at HOW h600 ⊢;clear htb hdl hc hsp h41;rcases Nat.lt_or_eq_of_le h600 with hlt|rfl
       ·have k6:decide (600≤(dl:Int))=false:=by simp;omega
        go_wp2_with (first|(go_at_call 49;refine Calls.mono (CS1.out _) ?_;rintro e w1 ⟨rfl,rfl⟩)|(at_builtin;go_must (refine zaF Tryz.underlying53 Tryz.info92 rfl (by decide) (by decide) rfl _ _ rfl w.heap.size _ dl (flatT (D.map tok)) rfl (zcN HOW.out (by (repeat (first|exact Below.refl _ _|assumption|refine Below.drew ?_|refine Below.alloc ?_ (by first|omega|(simp;done)|(simp;omega)) _|refine Below.setCell ?_ (by first|omega|(simp;done)|(simp;omega)) _))) (Nat.le_refl _)) (.slice (some ⟨_,0,none⟩) 1 1) 1 _ rfl (tok_at ⟨2,tb,0,(i:Int)⟩ (by simp)) (zdU _) (by omega) (by have:=HB.out.size;simp;omega) ?_);intro v9 w9 hown9 hgrow9 hat9;refine Hid.out ?_))
        refine hidI ?_;have hb0:=HB.out;have hz:=hb0.size;have hB9:Below w.heap.size w w9:=Below.grown (by (repeat (first|exact Below.refl _ _|assumption|refine Below.drew ?_|refine Below.alloc ?_ (by first|omega|(simp;done)|(simp;omega)) _|refine Below.setCell ?_ (by first|omega|(simp;done)|(simp;omega)) _))) hgrow9 (by simp;omega) (fun k hk=>(HOW.out.lt k hk).1);have HB9:=hidI hB9;have HO9:=hidI hown9;clear hown9 hgrow9 hat9 hB9 hb0 hz;go_wp2;go_roundg (n-(i+1))
        case measure=>omega
        case rel=>
         refine ⟨i+1,D++[(i,(s.data.toList.drop i).take 1)],by omega,by go_num,hidI (TInv.more HI.out HRUN.out KN.out (by have:=HDL.out;omega) ?_ HB9.out)⟩;have h:=HO9.out;rw [KP.out,HDL.out];exact h
       ·go_wp2_with (go_at_call 49;refine Calls.mono (CS1.out _) ?_;rintro e w1 ⟨rfl,rfl⟩)
        go_ret3;have hb0:=HB.out;have hz:=hb0.size;exact ⟨_,rfl,zeH (by have:=HN.out;omega) HI.out HRUN.out (.inr ⟨KN.out,HDL.out,rfl⟩) (by (repeat (first|exact Below.refl _ _|assumption|refine Below.drew ?_|refine Below.alloc ?_ (by first|omega|(simp;done)|(simp;omega)) _|refine Below.setCell ?_ (by first|omega|(simp;done)|(simp;omega)) _)))⟩
      | false=>
       have k40:((c.toNat:Int)==40)=false:=by rw [←h40];exact u8_eq c 40 (by decide)
       have k41:((c.toNat:Int)==41)=false:=by rw [←h41];exact u8_eq c 41 (by decide)
       have hend:ends c=false:=by
        unfold ends bracket;simp [hsp,h40,h41,h59]
       have HOW:=hidI HI.out.1;have HB:=hidI HI.out.2.1;obtain ⟨a5,c5,rfl⟩:=zaH HI.out.1;have h600:D.length≤600:=HI.out.2.2.2.2;obtain ⟨dl,hdl⟩:∃ dl,D.length=dl:=⟨_,rfl⟩;have HDL:=hidI hdl;rw [hdl] at HOW h600 ⊢;have hcs0:=tok_cells0 wr i;obtain ⟨W,hW⟩:∃ W,wr.alloc (.cells #[.int .u8 0,.string ⟨#[]⟩,.int .i64 0,.int .i64 (i:Int)] 92)=W:=⟨_,rfl⟩;have HWB:Hid (Below wr.heap.size wr W):=hidI (by rw [←hW];(repeat (first|exact Below.refl _ _|assumption|refine Below.drew ?_|refine Below.alloc ?_ (by first|omega|(simp;done)|(simp;omega)) _|refine Below.setCell ?_ (by first|omega|(simp;done)|(simp;omega)) _)));have HWZ:Hid (wr.heap.size<W.heap.size):=hidI (by rw [←hW];simp);rw [hW] at hcs0;have HW0:=hidI hcs0.1;have HW1:=hidI hcs0.2.1;have HW2:=hidI hcs0.2.2.1;have HW3:=hidI hcs0.2.2.2;have HF:Hid (∀ k,W.frozen? ⟨wr.heap.size,k,none⟩=false):=hidI (by intro k;rw [←hW];exact tok_free wr i k);have hc40:Hid (c≠40):=hidI (by simpa using h40);have hc41:Hid (c≠41):=hidI (by simpa using h41);clear hdl hsp h59 h40 h41 hcs0
       go_wp2_with (go_at_call 49;refine Calls.mono (CS1.out _) ?_;rintro e w1 ⟨rfl,rfl⟩)
       clear hW
       go_loopg [7] g (fun g2 s7 wx=>∃ m:Nat,i+m+g2=n∧s7=.int .i64 m∧W=wx∧Hid (1≤m∧run s.data.toList i none false (s.data.toList.drop i)=run s.data.toList (i+m) (some i) false (s.data.toList.drop (i+m))))
       case atStart=>exact ⟨1,by omega,rfl,rfl,hidI ⟨Nat.le_refl _,by rw [HDR.out,run_word hend];rfl⟩⟩
       case round=>
        obtain ⟨m,hmg,rfl,rfl,HM⟩:=hrel;clear hend;cases gk with
        | zero=>
         have hmn:i+m=n:=by omega
         have k5:decide ((i:Int)+(m:Int)<(n:Int))=false:=by simp;omega
         have HE:Hid (s.data.toList.drop (i+m)=[]∨∃ c r',s.data.toList.drop (i+m)=c::r'∧ends c=true):=hidI (by
          refine .inl (List.drop_eq_nil_of_le ?_);rw [Array.length_toList,hmn];exact Nat.le_of_eq HN.out)
         have CE1:=CE;clear hmn;have hend2:=run_end (t:=s.data.toList) (p:=i+m) (b:=i) HE.out;rw [Nat.add_sub_cancel_left] at hend2;have HRUN:Hid (run s.data.toList i none false (s.data.toList.drop i)=(i,(s.data.toList.drop i).take m)::run s.data.toList (i+m) none false (s.data.toList.drop (i+m))):=hidI (by rw [HM.out.2,hend2]);have q3:∀ w,(Instr.slice 9 (.string s) (some (.int .i64 (i:Int))) (some (.int .i64 ((i:Int)+(m:Int)))) none).run Tryz.prog w=.ok (.string (bytesOf ((s.data.toList.drop i).take m))) w:=slice_at s i m (by have:=HN.out;omega);have hsz:(bytesOf ((s.data.toList.drop i).take m)).size≤140737488355328:=by
          rw [bytes_size,List.length_take];omega
         have hkk:kindP ((s.data.toList.drop i).take m)=kindW (bytesOf ((s.data.toList.drop i).take m)):=kind_word HDR.out HM.out.1 hc40.out hc41.out;have hnn:numP ((s.data.toList.drop i).take m)=if kindW (bytesOf ((s.data.toList.drop i).take m))=4 then numV (bytesOf ((s.data.toList.drop i).take m)) else 0:=by unfold numP;rw [hkk]
         obtain ⟨tb,htb⟩:∃ tb,bytesOf ((s.data.toList.drop i).take m)=tb:=⟨_,rfl⟩;rw [htb] at q3 hsz hkk hnn;have CK:=hidI (rkind_any tb hsz);have CP:=hidI (rparse_any tb hsz);have hcs:=kind_cases tb;have hne4:kindW tb=4→numE tb=0:=num_ok;obtain ⟨K,hK⟩:∃ K,kindW tb=K:=⟨_,rfl⟩;rw [hK] at CK hkk hcs hne4 hnn;have KK:=hidI hkk;have HTB:=hidI htb;have HNN:=hidI hnn;have HNE:=hidI hne4;clear hend2 hsz hkk htb hnn hne4 hK;rcases hcs with rfl|rfl|rfl
         ·go_wp2_with (first|(go_at_call 50;refine Calls.mono (CE1.out _) ?_;rintro e w1 ⟨rfl,rfl⟩)|(go_at_call 51;refine Calls.mono (CK.out _) ?_;rintro e w2 ⟨rfl,hb2⟩;have HB2:=hidI hb2;have f0:=(hb2.cell HWZ.out).trans HW0.out;have f1:=(hb2.cell HWZ.out).trans HW1.out;have f2:=(hb2.cell HWZ.out).trans HW2.out;have f3:=(hb2.cell HWZ.out).trans HW3.out;have f4:=(hb2.frozen HWZ.out).trans (HF.out 0);have f5:=(hb2.frozen HWZ.out).trans (HF.out 1);have f6:=(hb2.frozen HWZ.out).trans (HF.out 2);clear hb2)|(go_at_call 52;refine Calls.mono (CP.out _) ?_;rintro e w3 ⟨rfl,rfl⟩))
          go_ret3;have hb0:=HB.out;have hz:=hb0.size;have hzz:=HWZ.out;have h2:=HB2.out;have hz2:=h2.size;have h3:Below w.heap.size w w2:=(hb0.trans (HWB.out.mono hz)).trans (h2.mono (by omega));exact ⟨_,rfl,zeH (by have:=HN.out;omega) HI.out HRUN.out (.inl ⟨KK.out,rfl⟩) (by (repeat (first|exact Below.refl _ _|assumption|refine Below.drew ?_|refine Below.alloc ?_ (by first|omega|(simp;done)|(simp;omega)) _|refine Below.setCell ?_ (by first|omega|(simp;done)|(simp;omega)) _)))⟩
         ·have KP:Hid (tok (i,(s.data.toList.drop i).take m)=⟨3,tb,0,(i:Int)⟩):=hidI (by unfold tok;simp only [KK.out,HTB.out,HNN.out];simp);rcases Nat.lt_or_eq_of_le h600 with hlt|rfl
          ·have k6:decide (600≤(dl:Int))=false:=by simp;omega
           go_wp2_with (first|(go_at_call 50;refine Calls.mono (CE1.out _) ?_;rintro e w1 ⟨rfl,rfl⟩)|(go_at_call 51;refine Calls.mono (CK.out _) ?_;rintro e w2 ⟨rfl,hb2⟩;have HB2:=hidI hb2;have f0:=(hb2.cell HWZ.out).trans HW0.out;have f1:=(hb2.cell HWZ.out).trans HW1.out;have f2:=(hb2.cell HWZ.out).trans HW2.out;have f3:=(hb2.cell HWZ.out).trans HW3.out;have f4:=(hb2.frozen HWZ.out).trans (HF.out 0);have f5:=(hb2.frozen HWZ.out).trans (HF.out 1);have f6:=(hb2.frozen HWZ.out).trans (HF.out 2);clear hb2)|(go_at_call 52;refine Calls.mono (CP.out _) ?_;rintro e w3 ⟨rfl,rfl⟩)|(at_builtin;go_must (refine zaF Tryz.underlying53 Tryz.info92 rfl (by decide) (by decide) rfl _ _ rfl w.heap.size _ dl (flatT (D.map tok)) rfl (zcN HOW.out (by have hzz:=HWZ.out;have h1:=HWB.out;have h2:=HB2.out;have h3:=h1.trans (h2.mono (by omega));have h4:=h2.size;(repeat (first|exact Below.refl _ _|assumption|refine Below.drew ?_|refine Below.alloc ?_ (by first|omega|(simp;done)|(simp;omega)) _|refine Below.setCell ?_ (by first|omega|(simp;done)|(simp;omega)) _))) (Nat.le_refl _)) (.slice (some ⟨_,0,none⟩) 1 1) 1 _ rfl (tok_at ⟨3,tb,0,(i:Int)⟩ (by simp)) (zdU _) (by omega) (by have:=HB.out.size;have:=HWZ.out;have:=HB2.out.size;simp;omega) ?_);intro v9 w9 hown9 hgrow9 hat9;refine Hid.out ?_))
           refine hidI ?_;have hb0:=HB.out;have hz:=hb0.size;have hzz:=HWZ.out;have h2:=HB2.out;have hz2:=h2.size;have h3:Below w.heap.size w w2:=(hb0.trans (HWB.out.mono hz)).trans (h2.mono (by omega));have hB9:Below w.heap.size w w9:=Below.grown (by (repeat (first|exact Below.refl _ _|assumption|refine Below.drew ?_|refine Below.alloc ?_ (by first|omega|(simp;done)|(simp;omega)) _|refine Below.setCell ?_ (by first|omega|(simp;done)|(simp;omega)) _))) hgrow9 (by simp;omega) (fun k hk=>(HOW.out.lt k hk).1);have HB9:=hidI hB9;have HO9:=hidI hown9;clear hown9 hgrow9 hat9 hB9 hb0 hz hzz h2 hz2 h3;go_wp2;go_roundg (n-(i+m))
           case measure=>have:=HM.out.1;omega
           case rel=>
            refine ⟨i+m,D++[(i,(s.data.toList.drop i).take m)],by omega,by go_num,hidI (TInv.more HI.out HRUN.out (by rw [KK.out];decide) (by have:=HDL.out;omega) ?_ HB9.out)⟩;have h:=HO9.out;rw [KP.out,HDL.out];exact h
          ·go_wp2_with (first|(go_at_call 50;refine Calls.mono (CE1.out _) ?_;rintro e w1 ⟨rfl,rfl⟩)|(go_at_call 51;refine Calls.mono (CK.out _) ?_;rintro e w2 ⟨rfl,hb2⟩;have HB2:=hidI hb2;have f0:=(hb2.cell HWZ.out).trans HW0.out;have f1:=(hb2.cell HWZ.out).trans HW1.out;have f2:=(hb2.cell HWZ.out).trans HW2.out;have f3:=(hb2.cell HWZ.out).trans HW3.out;have f4:=(hb2.frozen HWZ.out).trans (HF.out 0);have f5:=(hb2.frozen HWZ.out).trans (HF.out 1);have f6:=(hb2.frozen HWZ.out).trans (HF.out 2);clear hb2)|(go_at_call 52;refine Calls.mono (CP.out _) ?_;rintro e w3 ⟨rfl,rfl⟩))
           go_ret3;have hb0:=HB.out;have hz:=hb0.size;have hzz:=HWZ.out;have h2:=HB2.out;have hz2:=h2.size;have h3:Below w.heap.size w w2:=(hb0.trans (HWB.out.mono hz)).trans (h2.mono (by omega));exact ⟨_,rfl,zeH (by have:=HN.out;omega) HI.out HRUN.out (.inr ⟨by rw [KK.out];decide,HDL.out,rfl⟩) (by (repeat (first|exact Below.refl _ _|assumption|refine Below.drew ?_|refine Below.alloc ?_ (by first|omega|(simp;done)|(simp;omega)) _|refine Below.setCell ?_ (by first|omega|(simp;done)|(simp;omega)) _)))⟩
         ·obtain ⟨nv,hnv⟩:∃ nv,numV tb=nv:=⟨_,rfl⟩;have hne:=HNE.out rfl;rw [hnv,hne] at CP;have KP:Hid (tok (i,(s.data.toList.drop i).take m)=⟨4,tb,nv,(i:Int)⟩):=hidI (by unfold tok;simp only [KK.out,HTB.out,HNN.out,hnv];simp);clear hnv hne;rcases Nat.lt_or_eq_of_le h600 with hlt|rfl
          ·have k6:decide (600≤(dl:Int))=false:=by simp;omega
           go_wp2_with (first|(go_at_call 50;refine Calls.mono (CE1.out _) ?_;rintro e w1 ⟨rfl,rfl⟩)|(go_at_call 51;refine Calls.mono (CK.out _) ?_;rintro e w2 ⟨rfl,hb2⟩;have HB2:=hidI hb2;have f0:=(hb2.cell HWZ.out).trans HW0.out;have f1:=(hb2.cell HWZ.out).trans HW1.out;have f2:=(hb2.cell HWZ.out).trans HW2.out;have f3:=(hb2.cell HWZ.out).trans HW3.out;have f4:=(hb2.frozen HWZ.out).trans (HF.out 0);have f5:=(hb2.frozen HWZ.out).trans (HF.out 1);have f6:=(hb2.frozen HWZ.out).trans (HF.out 2);clear hb2)|(go_at_call 52;refine Calls.mono (CP.out _) ?_;rintro e w3 ⟨rfl,rfl⟩)|(at_builtin;go_must (refine zaF Tryz.underlying53 Tryz.info92 rfl (by decide) (by decide) rfl _ _ rfl w.heap.size _ dl (flatT (D.map tok)) rfl (zcN HOW.out (by have hzz:=HWZ.out;have h1:=HWB.out;have h2:=HB2.out;have h3:=h1.trans (h2.mono (by omega));have h4:=h2.size;(repeat (first|exact Below.refl _ _|assumption|refine Below.drew ?_|refine Below.alloc ?_ (by first|omega|(simp;done)|(simp;omega)) _|refine Below.setCell ?_ (by first|omega|(simp;done)|(simp;omega)) _))) (Nat.le_refl _)) (.slice (some ⟨_,0,none⟩) 1 1) 1 _ rfl (tok_at ⟨4,tb,nv,(i:Int)⟩ (by simp)) (zdU _) (by omega) (by have:=HB.out.size;have:=HWZ.out;have:=HB2.out.size;simp;omega) ?_);intro v9 w9 hown9 hgrow9 hat9;refine Hid.out ?_))
           refine hidI ?_;have hb0:=HB.out;have hz:=hb0.size;have hzz:=HWZ.out;have h2:=HB2.out;have hz2:=h2.size;have h3:Below w.heap.size w w2:=(hb0.trans (HWB.out.mono hz)).trans (h2.mono (by omega));have hB9:Below w.heap.size w w9:=Below.grown (by (repeat (first|exact Below.refl _ _|assumption|refine Below.drew ?_|refine Below.alloc ?_ (by first|omega|(simp;done)|(simp;omega)) _|refine Below.setCell ?_ (by first|omega|(simp;done)|(simp;omega)) _))) hgrow9 (by simp;omega) (fun k hk=>(HOW.out.lt k hk).1);have HB9:=hidI hB9;have HO9:=hidI hown9;clear hown9 hgrow9 hat9 hB9 hb0 hz hzz h2 hz2 h3;go_wp2;go_roundg (n-(i+m))
           case measure=>have:=HM.out.1;omega
           case rel=>
            refine ⟨i+m,D++[(i,(s.data.toList.drop i).take m)],by omega,by go_num,hidI (TInv.more HI.out HRUN.out (by rw [KK.out];decide) (by have:=HDL.out;omega) ?_ HB9.out)⟩;have h:=HO9.out;rw [KP.out,HDL.out];exact h
          ·go_wp2_with (first|(go_at_call 50;refine Calls.mono (CE1.out _) ?_;rintro e w1 ⟨rfl,rfl⟩)|(go_at_call 51;refine Calls.mono (CK.out _) ?_;rintro e w2 ⟨rfl,hb2⟩;have HB2:=hidI hb2;have f0:=(hb2.cell HWZ.out).trans HW0.out;have f1:=(hb2.cell HWZ.out).trans HW1.out;have f2:=(hb2.cell HWZ.out).trans HW2.out;have f3:=(hb2.cell HWZ.out).trans HW3.out;have f4:=(hb2.frozen HWZ.out).trans (HF.out 0);have f5:=(hb2.frozen HWZ.out).trans (HF.out 1);have f6:=(hb2.frozen HWZ.out).trans (HF.out 2);clear hb2)|(go_at_call 52;refine Calls.mono (CP.out _) ?_;rintro e w3 ⟨rfl,rfl⟩))
           go_ret3;have hb0:=HB.out;have hz:=hb0.size;have hzz:=HWZ.out;have h2:=HB2.out;have hz2:=h2.size;have h3:Below w.heap.size w w2:=(hb0.trans (HWB.out.mono hz)).trans (h2.mono (by omega));exact ⟨_,rfl,zeH (by have:=HN.out;omega) HI.out HRUN.out (.inr ⟨by rw [KK.out];decide,HDL.out,rfl⟩) (by (repeat (first|exact Below.refl _ _|assumption|refine Below.drew ?_|refine Below.alloc ?_ (by first|omega|(simp;done)|(simp;omega)) _|refine Below.setCell ?_ (by first|omega|(simp;done)|(simp;omega)) _)))⟩
        | succ g2=>
         have hmn:i+m<n:=by omega
         have k5:(i:Int)+(m:Int)<(n:Int):=by omega
         have q2:∀ w,(Instr.index 9 (.string s) (.int .i64 ((i:Int)+(m:Int)))).run Tryz.prog w=.ok (.int .u8 (sign s (i+m))) w:=fun w=>by have h:=QI.out (i+m) hmn w;rw [Int.natCast_add] at h;exact h
         have hby:=sign_byte s (i+m) (by have:=HN.out;omega);have hdr:=drop_byte s (i+m) (by have:=HN.out;omega);obtain ⟨d,hd⟩:∃ d,s.get! (i+m)=d:=⟨_,rfl⟩;rw [hd] at hby hdr;rw [hby] at q2;have hen:=endI_eq d;obtain ⟨eb,heb⟩:∃ eb,ends d=eb:=⟨_,rfl⟩;rw [heb] at hen;have CE1:Hid (∀ w,Calls Tryz.prog 50 #[.int .u8 (d.toNat:Int)] w fun e w'=>e=.returned (.bool eb)∧w=w'):=hidI (by rw [←hen];exact CE.out _);cases eb with
         | false=>
          have HDS:=hidI hdr;clear hby hdr hen hd
          go_wp2_with (go_at_call 50;refine Calls.mono (CE1.out _) ?_;rintro e w1 ⟨rfl,rfl⟩)
          go_roundg g2
          case measure=>omega
          case rel=>
           refine ⟨m+1,by omega,by go_num,rfl,hidI ⟨by omega,?_⟩⟩;rw [HM.out.2,HDS.out,run_word heb];rfl
         | true=>
          have HE:Hid (s.data.toList.drop (i+m)=[]∨∃ c r',s.data.toList.drop (i+m)=c::r'∧ends c=true):=hidI (.inr ⟨_,_,hdr,heb⟩);clear hby hdr hen heb hd;have hend2:=run_end (t:=s.data.toList) (p:=i+m) (b:=i) HE.out;rw [Nat.add_sub_cancel_left] at hend2;have HRUN:Hid (run s.data.toList i none false (s.data.toList.drop i)=(i,(s.data.toList.drop i).take m)::run s.data.toList (i+m) none false (s.data.toList.drop (i+m))):=hidI (by rw [HM.out.2,hend2]);have q3:∀ w,(Instr.slice 9 (.string s) (some (.int .i64 (i:Int))) (some (.int .i64 ((i:Int)+(m:Int)))) none).run Tryz.prog w=.ok (.string (bytesOf ((s.data.toList.drop i).take m))) w:=slice_at s i m (by have:=HN.out;omega);have hsz:(bytesOf ((s.data.toList.drop i).take m)).size≤140737488355328:=by
           rw [bytes_size,List.length_take];omega
          have hkk:kindP ((s.data.toList.drop i).take m)=kindW (bytesOf ((s.data.toList.drop i).take m)):=kind_word HDR.out HM.out.1 hc40.out hc41.out;have hnn:numP ((s.data.toList.drop i).take m)=if kindW (bytesOf ((s.data.toList.drop i).take m))=4 then numV (bytesOf ((s.data.toList.drop i).take m)) else 0:=by unfold numP;rw [hkk]
          obtain ⟨tb,htb⟩:∃ tb,bytesOf ((s.data.toList.drop i).take m)=tb:=⟨_,rfl⟩;rw [htb] at q3 hsz hkk hnn;have CK:=hidI (rkind_any tb hsz);have CP:=hidI (rparse_any tb hsz);have hcs:=kind_cases tb;have hne4:kindW tb=4→numE tb=0:=num_ok;obtain ⟨K,hK⟩:∃ K,kindW tb=K:=⟨_,rfl⟩;rw [hK] at CK hkk hcs hne4 hnn;have KK:=hidI hkk;have HTB:=hidI htb;have HNN:=hidI hnn;have HNE:=hidI hne4;clear hend2 hsz hkk htb hnn hne4 hK;rcases hcs with rfl|rfl|rfl
          ·go_wp2_with (first|(go_at_call 50;refine Calls.mono (CE1.out _) ?_;rintro e w1 ⟨rfl,rfl⟩)|(go_at_call 51;refine Calls.mono (CK.out _) ?_;rintro e w2 ⟨rfl,hb2⟩;have HB2:=hidI hb2;have f0:=(hb2.cell HWZ.out).trans HW0.out;have f1:=(hb2.cell HWZ.out).trans HW1.out;have f2:=(hb2.cell HWZ.out).trans HW2.out;have f3:=(hb2.cell HWZ.out).trans HW3.out;have f4:=(hb2.frozen HWZ.out).trans (HF.out 0);have f5:=(hb2.frozen HWZ.out).trans (HF.out 1);have f6:=(hb2.frozen HWZ.out).trans (HF.out 2);clear hb2)|(go_at_call 52;refine Calls.mono (CP.out _) ?_;rintro e w3 ⟨rfl,rfl⟩))
           go_ret3;have hb0:=HB.out;have hz:=hb0.size;have hzz:=HWZ.out;have h2:=HB2.out;have hz2:=h2.size;have h3:Below w.heap.size w w2:=(hb0.trans (HWB.out.mono hz)).trans (h2.mono (by omega));exact ⟨_,rfl,zeH (by have:=HN.out;omega) HI.out HRUN.out (.inl ⟨KK.out,rfl⟩) (by (repeat (first|exact Below.refl _ _|assumption|refine Below.drew ?_|refine Below.alloc ?_ (by first|omega|(simp;done)|(simp;omega)) _|refine Below.setCell ?_ (by first|omega|(simp;done)|(simp;omega)) _)))⟩
          ·have KP:Hid (tok (i,(s.data.toList.drop i).take m)=⟨3,tb,0,(i:Int)⟩):=hidI (by unfold tok;simp only [KK.out,HTB.out,HNN.out];simp);rcases Nat.lt_or_eq_of_le h600 with hlt|rfl
           ·have k6:decide (600≤(dl:Int))=false:=by simp;omega
            go_wp2_with (first|(go_at_call 50;refine Calls.mono (CE1.out _) ?_;rintro e w1 ⟨rfl,rfl⟩)|(go_at_call 51;refine Calls.mono (CK.out _) ?_;rintro e w2 ⟨rfl,hb2⟩;have HB2:=hidI hb2;have f0:=(hb2.cell HWZ.out).trans HW0.out;have f1:=(hb2.cell HWZ.out).trans HW1.out;have f2:=(hb2.cell HWZ.out).trans HW2.out;have f3:=(hb2.cell HWZ.out).trans HW3.out;have f4:=(hb2.frozen HWZ.out).trans (HF.out 0);have f5:=(hb2.frozen HWZ.out).trans (HF.out 1);have f6:=(hb2.frozen HWZ.out).trans (HF.out 2);clear hb2)|(go_at_call 52;refine Calls.mono (CP.out _) ?_;rintro e w3 ⟨rfl,rfl⟩)|(at_builtin;go_must (refine zaF Tryz.underlying53 Tryz.info92 rfl (by decide) (by decide) rfl _ _ rfl w.heap.size _ dl (flatT (D.map tok)) rfl (zcN HOW.out (by have hzz:=HWZ.out;have h1:=HWB.out;have h2:=HB2.out;have h3:=h1.trans (h2.mono (by omega));have h4:=h2.size;(repeat (first|exact Below.refl _ _|assumption|refine Below.drew ?_|refine Below.alloc ?_ (by first|omega|(simp;done)|(simp;omega)) _|refine Below.setCell ?_ (by first|omega|(simp;done)|(simp;omega)) _))) (Nat.le_refl _)) (.slice (some ⟨_,0,none⟩) 1 1) 1 _ rfl (tok_at ⟨3,tb,0,(i:Int)⟩ (by simp)) (zdU _) (by omega) (by have:=HB.out.size;have:=HWZ.out;have:=HB2.out.size;simp;omega) ?_);intro v9 w9 hown9 hgrow9 hat9;refine Hid.out ?_))
            refine hidI ?_;have hb0:=HB.out;have hz:=hb0.size;have hzz:=HWZ.out;have h2:=HB2.out;have hz2:=h2.size;have h3:Below w.heap.size w w2:=(hb0.trans (HWB.out.mono hz)).trans (h2.mono (by omega));have hB9:Below w.heap.size w w9:=Below.grown (by (repeat (first|exact Below.refl _ _|assumption|refine Below.drew ?_|refine Below.alloc ?_ (by first|omega|(simp;done)|(simp;omega)) _|refine Below.setCell ?_ (by first|omega|(simp;done)|(simp;omega)) _))) hgrow9 (by simp;omega) (fun k hk=>(HOW.out.lt k hk).1);have HB9:=hidI hB9;have HO9:=hidI hown9;clear hown9 hgrow9 hat9 hB9 hb0 hz hzz h2 hz2 h3;go_wp2;go_roundg (n-(i+m))
            case measure=>have:=HM.out.1;omega
            case rel=>
             refine ⟨i+m,D++[(i,(s.data.toList.drop i).take m)],by omega,by go_num,hidI (TInv.more HI.out HRUN.out (by rw [KK.out];decide) (by have:=HDL.out;omega) ?_ HB9.out)⟩;have h:=HO9.out;rw [KP.out,HDL.out];exact h
           ·go_wp2_with (first|(go_at_call 50;refine Calls.mono (CE1.out _) ?_;rintro e w1 ⟨rfl,rfl⟩)|(go_at_call 51;refine Calls.mono (CK.out _) ?_;rintro e w2 ⟨rfl,hb2⟩;have HB2:=hidI hb2;have f0:=(hb2.cell HWZ.out).trans HW0.out;have f1:=(hb2.cell HWZ.out).trans HW1.out;have f2:=(hb2.cell HWZ.out).trans HW2.out;have f3:=(hb2.cell HWZ.out).trans HW3.out;have f4:=(hb2.frozen HWZ.out).trans (HF.out 0);have f5:=(hb2.frozen HWZ.out).trans (HF.out 1);have f6:=(hb2.frozen HWZ.out).trans (HF.out 2);clear hb2)|(go_at_call 52;refine Calls.mono (CP.out _) ?_;rintro e w3 ⟨rfl,rfl⟩))
            go_ret3;have hb0:=HB.out;have hz:=hb0.size;have hzz:=HWZ.out;have h2:=HB2.out;have hz2:=h2.size;have h3:Below w.heap.size w w2:=(hb0.trans (HWB.out.mono hz)).trans (h2.mono (by omega));exact ⟨_,rfl,zeH (by have:=HN.out;omega) HI.out HRUN.out (.inr ⟨by rw [KK.out];decide,HDL.out,rfl⟩) (by (repeat (first|exact Below.refl _ _|assumption|refine Below.drew ?_|refine Below.alloc ?_ (by first|omega|(simp;done)|(simp;omega)) _|refine Below.setCell ?_ (by first|omega|(simp;done)|(simp;omega)) _)))⟩
          ·obtain ⟨nv,hnv⟩:∃ nv,numV tb=nv:=⟨_,rfl⟩;have hne:=HNE.out rfl;rw [hnv,hne] at CP;have KP:Hid (tok (i,(s.data.toList.drop i).take m)=⟨4,tb,nv,(i:Int)⟩):=hidI (by unfold tok;simp only [KK.out,HTB.out,HNN.out,hnv];simp);clear hnv hne;rcases Nat.lt_or_eq_of_le h600 with hlt|rfl
           ·have k6:decide (600≤(dl:Int))=false:=by simp;omega
            go_wp2_with (first|(go_at_call 50;refine Calls.mono (CE1.out _) ?_;rintro e w1 ⟨rfl,rfl⟩)|(go_at_call 51;refine Calls.mono (CK.out _) ?_;rintro e w2 ⟨rfl,hb2⟩;have HB2:=hidI hb2;have f0:=(hb2.cell HWZ.out).trans HW0.out;have f1:=(hb2.cell HWZ.out).trans HW1.out;have f2:=(hb2.cell HWZ.out).trans HW2.out;have f3:=(hb2.cell HWZ.out).trans HW3.out;have f4:=(hb2.frozen HWZ.out).trans (HF.out 0);have f5:=(hb2.frozen HWZ.out).trans (HF.out 1);have f6:=(hb2.frozen HWZ.out).trans (HF.out 2);clear hb2)|(go_at_call 52;refine Calls.mono (CP.out _) ?_;rintro e w3 ⟨rfl,rfl⟩)|(at_builtin;go_must (refine zaF Tryz.underlying53 Tryz.info92 rfl (by decide) (by decide) rfl _ _ rfl w.heap.size _ dl (flatT (D.map tok)) rfl (zcN HOW.out (by have hzz:=HWZ.out;have h1:=HWB.out;have h2:=HB2.out;have h3:=h1.trans (h2.mono (by omega));have h4:=h2.size;(repeat (first|exact Below.refl _ _|assumption|refine Below.drew ?_|refine Below.alloc ?_ (by first|omega|(simp;done)|(simp;omega)) _|refine Below.setCell ?_ (by first|omega|(simp;done)|(simp;omega)) _))) (Nat.le_refl _)) (.slice (some ⟨_,0,none⟩) 1 1) 1 _ rfl (tok_at ⟨4,tb,nv,(i:Int)⟩ (by simp)) (zdU _) (by omega) (by have:=HB.out.size;have:=HWZ.out;have:=HB2.out.size;simp;omega) ?_);intro v9 w9 hown9 hgrow9 hat9;refine Hid.out ?_))
            refine hidI ?_;have hb0:=HB.out;have hz:=hb0.size;have hzz:=HWZ.out;have h2:=HB2.out;have hz2:=h2.size;have h3:Below w.heap.size w w2:=(hb0.trans (HWB.out.mono hz)).trans (h2.mono (by omega));have hB9:Below w.heap.size w w9:=Below.grown (by (repeat (first|exact Below.refl _ _|assumption|refine Below.drew ?_|refine Below.alloc ?_ (by first|omega|(simp;done)|(simp;omega)) _|refine Below.setCell ?_ (by first|omega|(simp;done)|(simp;omega)) _))) hgrow9 (by simp;omega) (fun k hk=>(HOW.out.lt k hk).1);have HB9:=hidI hB9;have HO9:=hidI hown9;clear hown9 hgrow9 hat9 hB9 hb0 hz hzz h2 hz2 h3;go_wp2;go_roundg (n-(i+m))
            case measure=>have:=HM.out.1;omega
            case rel=>
             refine ⟨i+m,D++[(i,(s.data.toList.drop i).take m)],by omega,by go_num,hidI (TInv.more HI.out HRUN.out (by rw [KK.out];decide) (by have:=HDL.out;omega) ?_ HB9.out)⟩;have h:=HO9.out;rw [KP.out,HDL.out];exact h
           ·go_wp2_with (first|(go_at_call 50;refine Calls.mono (CE1.out _) ?_;rintro e w1 ⟨rfl,rfl⟩)|(go_at_call 51;refine Calls.mono (CK.out _) ?_;rintro e w2 ⟨rfl,hb2⟩;have HB2:=hidI hb2;have f0:=(hb2.cell HWZ.out).trans HW0.out;have f1:=(hb2.cell HWZ.out).trans HW1.out;have f2:=(hb2.cell HWZ.out).trans HW2.out;have f3:=(hb2.cell HWZ.out).trans HW3.out;have f4:=(hb2.frozen HWZ.out).trans (HF.out 0);have f5:=(hb2.frozen HWZ.out).trans (HF.out 1);have f6:=(hb2.frozen HWZ.out).trans (HF.out 2);clear hb2)|(go_at_call 52;refine Calls.mono (CP.out _) ?_;rintro e w3 ⟨rfl,rfl⟩))
            go_ret3;have hb0:=HB.out;have hz:=hb0.size;have hzz:=HWZ.out;have h2:=HB2.out;have hz2:=h2.size;have h3:Below w.heap.size w w2:=(hb0.trans (HWB.out.mono hz)).trans (h2.mono (by omega));exact ⟨_,rfl,zeH (by have:=HN.out;omega) HI.out HRUN.out (.inr ⟨by rw [KK.out];decide,HDL.out,rfl⟩) (by (repeat (first|exact Below.refl _ _|assumption|refine Below.drew ?_|refine Below.alloc ?_ (by first|omega|(simp;done)|(simp;omega)) _|refine Below.setCell ?_ (by first|omega|(simp;done)|(simp;omega)) _)))⟩
set_option maxRecDepth 100000 in
theorem rtoks_out (s:ByteArray) (w:World) (hs:3000<s.size):Calls Tryz.prog 24 #[.string s] w fun e w'=>∃ v,e=.returned v∧RTPost s w v w':=by
 obtain ⟨n,hn⟩:∃ n,s.size=n:=⟨_,rfl⟩;have ql:∀ w,(Builtin.len_ #[9] 3 #[.string s]).run Tryz.prog w=.ok (.int .i64 (n:Int)) w:=fun w=>by rw [run_len_string w 9 3 s Tryz.underlying9,hn];rfl
 have k0:decide (3000<(n:Int))=true:=by simp;omega
 have hl:lexRes s=([],0,4):=by unfold lexRes;rw [if_pos hs]
 have HR:Hid (RTPost s w (.tuple #[.slice none 0 0,.int .i64 0,.int .i64 4]) w):=hidI ⟨_,by rw [hl],by rw [hl];exact ⟨rfl,none,0,rfl,.inl rfl⟩,Below.refl _ _⟩;clear hn hs hl;go_enter Tryz.func24,Tryz.ntmps24;go_wp2;go_ret3;exact ⟨_,rfl,HR.out⟩
theorem rtoks_any (s:ByteArray) (w:World):Calls Tryz.prog 24 #[.string s] w fun e w'=>∃ v,e=.returned v∧RTPost s w v w':=by
 rcases Nat.lt_or_ge 3000 s.size with h|h
 ·exact rtoks_out s w h
 ·exact rtoks_in s w h
end Go.Proofs.YtfljimpgnlfipaaGreatDoor
