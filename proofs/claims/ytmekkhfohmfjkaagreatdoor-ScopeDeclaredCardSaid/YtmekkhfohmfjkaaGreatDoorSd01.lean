/-
  Part 1 of the proof: Words, Kinds, LaidW, Zed, PShape.
-/
import Derived.Test.YtmekkhfohmfjkaaGreatDoorSd00
import Derived.Deep.LoopGhost
import Derived.Deep.OwnRows
import Derived.Deep.RegionHeld3
import Derived.WalkSpells
import Derived.Test.YtmekkhfohmfjkaaGreatDoorRows
import Derived.LaidSub
import Derived.Lib.LaidTab
import Derived.Stop.LaidErr
import Derived.ProofKit
import Derived.LaidLaws
import Derived.Test.YtmekkhfohmfjkaaGreatDoorProg
import Derived.OrdersHeld
import Derived.WalkKit
import Derived.Carry
import Derived.BigQuiet
import Derived.OneCell
import Derived.OwnWalk
import Derived.Deep.DeepMust
import Derived.Deep.AppendLies
import Derived.Laws.MakeOwn
import Derived.Laws.ResultCell
import Derived.Laws.StructEq
import Derived.Lib.SmallJoins
import Derived.Lib.SliceRun
import Derived.Lib.QuietBelow
import Derived.Maps.OwnRows
namespace Go.Proofs.YtmekkhfohmfjkaaGreatDoor
open Go.RowKit Go.Deep Go.MapKept
def letter (c:Int):Bool:=decide (97≤c) && decide (c≤122)
def digit (c:Int):Bool:=decide (48≤c) && decide (c≤57)
def sign (s:ByteArray) (i:Nat):Int:=(s.data.getD i 0).toNat
theorem sign_at (s:ByteArray) (i:Nat) (h:i<s.size) (w:World):(Instr.index 9 (.string s) (.int .i64 (i:Int))).run Tryz.prog w=.ok (.int .u8 (sign s i)) w:=by
 rw [run_index_string w 9 s .i64 _ Tryz.underlying9,dif_pos ⟨by omega,by omega⟩]
 congr 2
 unfold sign
 have h':i<s.data.size:=h
 simp only [Int.toNat_natCast]
 rw [Array.getD_eq_getD_getElem?,Array.getElem?_eq_getElem h']
 rfl
def goodAt (c:Int) (i:Nat):Bool:=letter c || (digit c && decide (i≠0))
set_option maxRecDepth 100000 in
set_option maxHeartbeats 4000000 in
theorem rname_in (s:ByteArray) (w:World) (h1:1≤s.size) (h8:s.size≤8) :
    Calls Tryz.prog 17 #[.string s] w fun e w'=>e=.returned (.bool ((List.range s.size).all fun i=>goodAt (sign s i) i))∧w=w':=by
  obtain ⟨m,hm⟩:∃ m,s.size=m:=⟨_,rfl⟩
  have ql:∀ w,(Builtin.len_ #[9] 3 #[.string s]).run Tryz.prog w=.ok (.int .i64 (m:Int)) w:=fun w=>by rw [run_len_string w 9 3 s Tryz.underlying9,hm];rfl
  have QI:=hidI (sign_at s)
  rw [hm] at QI h1 h8 ⊢
  have k1:decide ((m:Int)<1)=false:=by simp;omega
  have k2:decide (8<(m:Int))=false:=by simp;omega
  obtain ⟨f,hf⟩:∃ f:Nat→Int,∀ i,sign s i=f i:=⟨_,fun _=>rfl⟩
  simp only [hf] at QI ⊢
  go_enter Tryz.func17,Tryz.ntmps17
  go_wp2
  go_loopg [3] m (fun g s3 wx=>∃ i:Nat,i+g=m∧s3=.int .i64 i∧(∀ j,j<i→goodAt (f j) j=true)∧w=wx)
  case atStart=>exact ⟨0,by omega,rfl,by simp,rfl⟩
  case round=>
    obtain ⟨i,hig,rfl,hall,rfl⟩:=hrel
    cases gk with
    | zero=>
      have him:m=i:=by omega
      subst him
      go_wp2
      go_ret
      refine ⟨?_,rfl⟩
      have:(List.range m).all (fun i=>goodAt (f i) i)=true:=by rw [List.all_eq_true];intro j hj;exact hall j (List.mem_range.1 hj)
      rw [this];rfl
    | succ g=>
      have him:i<m:=by omega
      have k3:(i:Int)<(m:Int):=by omega
      have q1:∀ w,(Instr.index 9 (.string s) (.int .i64 (i:Int))).run Tryz.prog w=.ok (.int .u8 (f i)) w:=QI.out i him
      have A:=hidI hall
      clear hall
      obtain ⟨c,hc⟩:∃ c,f i=c:=⟨_,rfl⟩
      rw [hc] at q1
      have hgood:goodAt c i=(decide (97≤c) && decide (c≤122) || (decide (48≤c) && decide (c≤57) && decide (i≠0))):=rfl
      obtain ⟨b1,a1⟩:∃ b,decide (97≤c)=b:=⟨_,rfl⟩
      obtain ⟨b2,a2⟩:∃ b,decide (c≤122)=b:=⟨_,rfl⟩
      obtain ⟨b3,a3⟩:∃ b,decide (48≤c)=b:=⟨_,rfl⟩
      obtain ⟨b4,a4⟩:∃ b,decide (c≤57)=b:=⟨_,rfl⟩
      have a5:decide (i≠0) = !((i:Int)==0):=by
        by_cases h:i=0
        · subst h;rfl
        · rw [show ((i:Int)==0)=false by simpa using h];simpa using h
      obtain ⟨b5,a6⟩:∃ b,((i:Int)==0)=b:=⟨_,rfl⟩
      rw [a1,a2,a3,a4,a5,a6] at hgood
      clear a5
      cases b1<;>cases b2<;>cases b3<;>cases b4<;>cases b5
      all_goals first
        | (have hg:goodAt c i=true:=hgood
           go_wp2
           go_roundg g
           case measure=>omega
           case rel=>
             refine ⟨i+1,by omega,by go_num,fun j hj => ?_,rfl⟩
             rcases Nat.lt_succ_iff_lt_or_eq.1 hj with h|rfl
             · exact A.out j h
             · rw [hc];exact hg)
        | (have hg:goodAt c i=false:=hgood
           go_wp2
           go_ret
           refine ⟨?_,rfl⟩
           have:(List.range m).all (fun i=>goodAt (f i) i)=false:=by
             rw [List.all_eq_false]
             exact ⟨i,List.mem_range.2 him,by rw [hc,hg];simp⟩
           rw [this];rfl)
set_option maxRecDepth 100000 in
theorem rname_out (s:ByteArray) (w:World) (h:s.size<1∨8<s.size):Calls Tryz.prog 17 #[.string s] w fun e w'=>e=.returned (.bool false)∧w=w':=by
 obtain ⟨m,hm⟩:∃ m,s.size=m:=⟨_,rfl⟩
 have ql:∀ w,(Builtin.len_ #[9] 3 #[.string s]).run Tryz.prog w=.ok (.int .i64 (m:Int)) w:=fun w=>by rw [run_len_string w 9 3 s Tryz.underlying9,hm];rfl
 rw [hm] at h
 clear hm
 rcases h with h|h
 ·have k1:decide ((m:Int)<1)=true:=by simp;omega
  go_enter Tryz.func17,Tryz.ntmps17
  go_wp2
  go_ret
  exact ⟨rfl,rfl⟩
 ·have k1:decide ((m:Int)<1)=false:=by simp;omega
  have k2:decide (8<(m:Int))=true:=by simp;omega
  go_enter Tryz.func17,Tryz.ntmps17
  go_wp2
  go_ret
  exact ⟨rfl,rfl⟩
def nameB (s:ByteArray):Bool:=(List.range s.size).all (fun i=>goodAt (sign s i) i) && (decide (1≤s.size) && decide (s.size≤8))
theorem rname_any (s:ByteArray) (w:World):Calls Tryz.prog 17 #[.string s] w fun e w'=>e=.returned (.bool (nameB s))∧w=w':=by
 by_cases h:s.size<1∨8<s.size
 ·have:nameB s=false:=by
   unfold nameB
   have:(decide (1≤s.size) && decide (s.size≤8))=false:=by
    rcases h with h|h
    ·rw [decide_eq_false (by omega:¬ 1≤s.size)];rfl
    ·rw [decide_eq_false (by omega:¬ s.size≤8)];simp
   rw [this];simp
  rw [this]
  exact rname_out s w h
 ·have h1:1≤s.size:=by omega
  have h8:s.size≤8:=by omega
  have:nameB s=(List.range s.size).all (fun i=>goodAt (sign s i) i):=by unfold nameB;simp [h1,h8]
  rw [this]
  exact rname_in s w h1 h8
theorem sign_get (s:ByteArray) (i:Nat) (h:i<s.size):sign s i=((s[i]'h).toNat:Int):=by
 unfold sign
 have h':i<s.data.size:=h
 rw [Array.getD_eq_getD_getElem?,Array.getElem?_eq_getElem h']
 rfl
set_option maxRecDepth 100000 in
set_option maxHeartbeats 4000000 in
theorem name_any (s:ByteArray) (w:World):Calls Tryz.prog 102 #[.string s] w fun e w'=>e=.returned (.bool (nameB s))∧Below w.heap.size w w':=by
  obtain ⟨n,hn⟩:∃ n,s.size=n:=⟨_,rfl⟩
  have ql:∀ w,(Builtin.len_ #[9] 3 #[.string s]).run Tryz.prog w=.ok (.int .i64 (n:Int)) w:=fun w=>by rw [run_len_string w 9 3 s Tryz.underlying9,hn];rfl
  have HN:=hidI hn
  have QE:Hid (∀ ty,(Instr.next (.pointer (some ⟨w.heap.size,0,none⟩)) true ty).run Tryz.prog (w.iter s n)=.ok (.tuple #[.bool false]) (w.iter s n)):=hidI fun ty=>run_next_end w s n ty (by omega)
  have QN:Hid (∀ pos ty,pos<n→(Instr.next (.pointer (some ⟨w.heap.size,0,none⟩)) true ty).run Tryz.prog (w.iter s pos)=.ok (.tuple #[.bool true,.int .i64 pos,.int .i32 (Utf8.decode s pos).1]) (w.iter s (pos+(Utf8.decode s pos).2))):=hidI fun pos ty h=>run_next_any w s pos ty (by omega)
  have HB:Hid (∀ pos,Below w.heap.size w (w.iter s pos)):=hidI fun pos=>(Below.refl _ _).alloc (Nat.le_refl _) _
  obtain ⟨R,hR⟩:∃ R,nameB s=R:=⟨_,rfl⟩
  have HR:=hidI hR
  rw [hR]
  clear hn hR
  go_enter Tryz.func102,Tryz.ntmps102
  go_wp2
  go_loopg [3] n (fun g s3 wx=>∃ pos:Nat,pos+g=n∧w.iter s pos=wx∧Hid (∀ j,j<pos→goodAt (sign s j) j=true))
  case atStart=>exact ⟨0,by omega,rfl,hidI (by simp)⟩
  case round=>
    obtain ⟨pos,hpg,rfl,HA⟩:=hrel
    cases gk with
    | zero=>
      obtain rfl:n=pos:=by omega
      have qe:=QE.out
      have hres:nameB s=(decide (1≤n) && decide (n≤8)):=by
        unfold nameB
        rw [HN.out,List.all_eq_true.2 (fun j hj=>HA.out j (List.mem_range.1 hj)),Bool.true_and]
      rw [HR.out] at hres
      obtain ⟨b1,h1⟩:∃ b,decide (1≤n)=b:=⟨_,rfl⟩
      obtain ⟨b2,h2⟩:∃ b,decide (n≤8)=b:=⟨_,rfl⟩
      have h1':decide ((1:Int)≤(n:Int))=b1:=by rw [←h1];congr 1;simp;omega
      have h2':decide ((n:Int)≤8)=b2:=by rw [←h2];congr 1;simp;omega
      rw [h1,h2] at hres
      have HRES:=hidI hres
      clear h1 h2 hres
      cases b1<;>cases b2
      all_goals
        go_wp2
        go_ret
        exact ⟨by rw [HRES.out];rfl,HB.out _⟩
    | succ g=>
      have hlt:pos<n:=by omega
      have qn:=fun ty=>QN.out pos ty hlt
      have hlt':pos<s.size:=by have:=HN.out;omega
      by_cases ha:(s[pos]'hlt').toNat<128
      · have hd:=decode_ascii s pos hlt' ha
        rw [hd] at qn
        have hc:=sign_get s pos hlt'
        obtain ⟨c,hcc⟩:∃ c:Nat,(s[pos]'hlt').toNat=c:=⟨_,rfl⟩
        rw [hcc] at qn hc
        simp only at qn
        have hgood:goodAt (c:Int) pos=(decide ((97:Int)≤c) && decide ((c:Int)≤122) || (decide ((48:Int)≤c) && decide ((c:Int)≤57) && decide (pos≠0))):=rfl
        obtain ⟨b1,a1⟩:∃ b,decide ((97:Int)≤c)=b:=⟨_,rfl⟩
        obtain ⟨b2,a2⟩:∃ b,decide ((c:Int)≤122)=b:=⟨_,rfl⟩
        obtain ⟨b3,a3⟩:∃ b,decide ((48:Int)≤c)=b:=⟨_,rfl⟩
        obtain ⟨b4,a4⟩:∃ b,decide ((c:Int)≤57)=b:=⟨_,rfl⟩
        have a5:decide (pos≠0) = !((pos:Int)==0):=by
          by_cases h:pos=0
          · subst h;rfl
          · rw [show ((pos:Int)==0)=false by simpa using h];simpa using h
        obtain ⟨b5,a6⟩:∃ b,((pos:Int)==0)=b:=⟨_,rfl⟩
        rw [a1,a2,a3,a4,a5,a6] at hgood
        have HC:=hidI hc
        clear a5 hd hcc ha hc
        cases b1<;>cases b2<;>cases b3<;>cases b4<;>cases b5
        all_goals first
          | (have hg:goodAt (c:Int) pos=true:=hgood
             go_wp2
             go_roundg g
             case measure=>omega
             case rel=>
               refine ⟨pos+1,by omega,rfl,hidI fun j hj => ?_⟩
               rcases Nat.lt_succ_iff_lt_or_eq.1 hj with h|rfl
               · exact HA.out j h
               · rw [HC.out];exact hg)
          | (have hg:goodAt (c:Int) pos=false:=hgood
             go_wp2
             go_ret
             refine ⟨?_,HB.out _⟩
             have:(List.range s.size).all (fun i=>goodAt (sign s i) i)=false:=by
               rw [List.all_eq_false]
               exact ⟨pos,List.mem_range.2 hlt',by rw [HC.out,hg];simp⟩
             rw [←HR.out]
             unfold nameB
             rw [this];rfl)
      · have hd:=(decode_high s pos hlt' (by omega)).1
        obtain ⟨r,hr⟩:∃ r,(Utf8.decode s pos).1=r:=⟨_,rfl⟩
        rw [hr] at qn hd
        have k1:decide ((r:Int)≤122)=false:=by simp;omega
        have k2:decide ((r:Int)≤57)=false:=by simp;omega
        have k3:decide ((97:Int)≤(r:Int))=true:=by simp;omega
        have k4:decide ((48:Int)≤(r:Int))=true:=by simp;omega
        have hres:nameB s=false:=by
          have hg:goodAt (sign s pos) pos=false:=by
            rw [sign_get s pos hlt']
            unfold goodAt letter digit
            have h1:¬ ((s[pos]'hlt').toNat:Int)≤122:=by omega
            have h2:¬ ((s[pos]'hlt').toNat:Int)≤57:=by omega
            simp [h1,h2]
          have:(List.range s.size).all (fun i=>goodAt (sign s i) i)=false:=by
            rw [List.all_eq_false]
            exact ⟨pos,List.mem_range.2 hlt',by rw [hg];simp⟩
          unfold nameB
          rw [this];rfl
        rw [HR.out] at hres
        have HRES:=hidI hres
        clear ha hr hd hres
        go_wp2
        go_ret
        exact ⟨by rw [HRES.out];rfl,HB.out _⟩
def opc (i:Nat):UInt8:=([43,45,42,47,37,38,124,94,61,60]:List UInt8).getD i 0
def opB (s:ByteArray):Bool:=(List.range 10).any fun i=>s.toList==[opc i]
def isNum (s:ByteArray):Prop:=∃ v,In64 v∧s.data.toList=Lib.itoa v
open Classical in
noncomputable def numV (s:ByteArray):Int:=if h:isNum s then h.choose else 0
open Classical in
noncomputable def kindW (s:ByteArray):Int:=if isNum s then 4 else if opB s || nameB s then 3 else 0
theorem numV_in {s:ByteArray} (h:isNum s):In64 (numV s)∧s.data.toList=Lib.itoa (numV s):=by
 unfold numV
 rw [dif_pos h]
 exact h.choose_spec
theorem numV_no {s:ByteArray} (h:¬ isNum s):numV s=0:=by unfold numV;rw [dif_neg h]
open Classical in
noncomputable def numE (s:ByteArray):Int:=if isNum s then 0 else 3
structure Laid (w:World):Prop where
 tab:Tab w
 sent:Sent w
theorem Laid.on {w w':World} (h:Laid w) (hb:Below w.heap.size w w'):Laid w':=⟨h.tab.on hb,h.sent.on hb⟩
theorem parse_any (s:ByteArray) (hl:s.size≤140737488355328) (w:World) (h:Laid w):Calls Tryz.prog 70 #[.string s] w fun e w'=>e=.returned (.tuple #[.int .i64 (numV s),.int .i64 (numE s)])∧Below w.heap.size w w':=by
 by_cases hn:isNum s
 ·obtain ⟨h1,h2⟩:=numV_in hn
  have:=parse_yes s (by omega) (numV s) h1 h2 w h.tab
  unfold numE
  rw [if_pos hn]
  exact this
 ·have:=parse_no s (by omega) (fun v hv e=>hn ⟨v,hv,e⟩) w h.tab h.sent
  unfold numE
  rw [if_neg hn,numV_no hn]
  exact this
set_option maxRecDepth 100000 in
set_option maxHeartbeats 1000000 in
theorem op_any (s:ByteArray) (w:World):Calls Tryz.prog 101 #[.string s] w fun e w'=>e=.returned (.bool (opB s))∧w=w':=by
 cases h0:(s.toList==[43]) with
 | true=>
  have HRES:Hid (opB s=true):=hidI (by
   unfold opB
   rw [List.any_eq_true]
   exact ⟨0,by simp,by simpa [opc] using h0⟩)
  rw [HRES.out]
  go_enter Tryz.func101,Tryz.ntmps101
  go_wp2
  go_ret
  exact ⟨rfl,rfl⟩
 | false=>
  cases h1:(s.toList==[45]) with
  | true=>
   have HRES:Hid (opB s=true):=hidI (by
    unfold opB
    rw [List.any_eq_true]
    exact ⟨1,by simp,by simpa [opc] using h1⟩)
   rw [HRES.out]
   go_enter Tryz.func101,Tryz.ntmps101
   go_wp2
   go_ret
   exact ⟨rfl,rfl⟩
  | false=>
   cases h2:(s.toList==[42]) with
   | true=>
    have HRES:Hid (opB s=true):=hidI (by
     unfold opB
     rw [List.any_eq_true]
     exact ⟨2,by simp,by simpa [opc] using h2⟩)
    rw [HRES.out]
    go_enter Tryz.func101,Tryz.ntmps101
    go_wp2
    go_ret
    exact ⟨rfl,rfl⟩
   | false=>
    cases h3:(s.toList==[47]) with
    | true=>
     have HRES:Hid (opB s=true):=hidI (by
      unfold opB
      rw [List.any_eq_true]
      exact ⟨3,by simp,by simpa [opc] using h3⟩)
     rw [HRES.out]
     go_enter Tryz.func101,Tryz.ntmps101
     go_wp2
     go_ret
     exact ⟨rfl,rfl⟩
    | false=>
     cases h4:(s.toList==[37]) with
     | true=>
      have HRES:Hid (opB s=true):=hidI (by
       unfold opB
       rw [List.any_eq_true]
       exact ⟨4,by simp,by simpa [opc] using h4⟩)
      rw [HRES.out]
      go_enter Tryz.func101,Tryz.ntmps101
      go_wp2
      go_ret
      exact ⟨rfl,rfl⟩
     | false=>
      cases h5:(s.toList==[38]) with
      | true=>
       have HRES:Hid (opB s=true):=hidI (by
        unfold opB
        rw [List.any_eq_true]
        exact ⟨5,by simp,by simpa [opc] using h5⟩)
       rw [HRES.out]
       go_enter Tryz.func101,Tryz.ntmps101
       go_wp2
       go_ret
       exact ⟨rfl,rfl⟩
      | false=>
       cases h6:(s.toList==[124]) with
       | true=>
        have HRES:Hid (opB s=true):=hidI (by
         unfold opB
         rw [List.any_eq_true]
         exact ⟨6,by simp,by simpa [opc] using h6⟩)
        rw [HRES.out]
        go_enter Tryz.func101,Tryz.ntmps101
        go_wp2
        go_ret
        exact ⟨rfl,rfl⟩
       | false=>
        cases h7:(s.toList==[94]) with
        | true=>
         have HRES:Hid (opB s=true):=hidI (by
          unfold opB
          rw [List.any_eq_true]
          exact ⟨7,by simp,by simpa [opc] using h7⟩)
         rw [HRES.out]
         go_enter Tryz.func101,Tryz.ntmps101
         go_wp2
         go_ret
         exact ⟨rfl,rfl⟩
        | false=>
         cases h8:(s.toList==[61]) with
         | true=>
          have HRES:Hid (opB s=true):=hidI (by
           unfold opB
           rw [List.any_eq_true]
           exact ⟨8,by simp,by simpa [opc] using h8⟩)
          rw [HRES.out]
          go_enter Tryz.func101,Tryz.ntmps101
          go_wp2
          go_ret
          exact ⟨rfl,rfl⟩
         | false=>
          cases h9:(s.toList==[60]) with
          | true=>
           have HRES:Hid (opB s=true):=hidI (by
            unfold opB
            rw [List.any_eq_true]
            exact ⟨9,by simp,by simpa [opc] using h9⟩)
           rw [HRES.out]
           go_enter Tryz.func101,Tryz.ntmps101
           go_wp2
           go_ret
           exact ⟨rfl,rfl⟩
          | false=>
           have HRES:Hid (opB s=false):=hidI (by
            unfold opB
            rw [List.any_eq_false]
            intro i hi
            have hi':i<10:=List.mem_range.1 hi
            have hc:i=0∨i=1∨i=2∨i=3∨i=4∨i=5∨i=6∨i=7∨i=8∨i=9:=by omega
            rcases hc with rfl|rfl|rfl|rfl|rfl|rfl|rfl|rfl|rfl|rfl<;>simp [opc, *])
           rw [HRES.out]
           go_enter Tryz.func101,Tryz.ntmps101
           go_wp2
           go_ret
           exact ⟨rfl,rfl⟩
set_option maxHeartbeats 1000000 in
theorem kind_any (s:ByteArray) (hl:s.size≤140737488355328) (w:World) (h:Laid w):Calls Tryz.prog 57 #[.string s] w fun e w'=>e=.returned (.int .u8 (kindW s))∧Below w.heap.size w w':=by
 have C:=hidI (parse_any s hl w h)
 have CO:=hidI (op_any s)
 have CN:=hidI (name_any s)
 obtain ⟨v,hv⟩:∃ v,numV s=v:=⟨_,rfl⟩
 rw [hv] at C
 by_cases hn:isNum s
 ·have hk:kindW s=4:=by unfold kindW;rw [if_pos hn]
  have he:numE s=0:=by unfold numE;rw [if_pos hn]
  rw [hk]
  rw [he] at C
  clear hk he hn hv
  go_enter Tryz.func57,Tryz.ntmps57
  go_wp2_with (go_at_call 70;refine Calls.mono C.out ?_;rintro e w1 ⟨rfl,hb1⟩;have H1:=hidI hb1;clear hb1)
  go_ret
  exact ⟨rfl,H1.out⟩
 ·have hk:kindW s=if opB s || nameB s then 3 else 0:=by unfold kindW;rw [if_neg hn]
  have he:numE s=3:=by unfold numE;rw [if_neg hn]
  rw [hk]
  rw [he] at C
  clear hk he hn hv
  cases ho:opB s with
  | true=>
   rw [ho] at CO
   go_enter Tryz.func57,Tryz.ntmps57
   go_wp2_with (first|(go_at_call 70;refine Calls.mono C.out ?_;rintro e w1 ⟨rfl,hb1⟩;have H1:=hidI hb1;clear hb1)|(go_at_call 101;refine Calls.mono (CO.out _) ?_;rintro e w2 ⟨rfl,rfl⟩))
   go_ret
   exact ⟨by simp,H1.out⟩
  | false=>
   rw [ho] at CO
   cases hm:nameB s with
   | true=>
    rw [hm] at CN
    go_enter Tryz.func57,Tryz.ntmps57
    go_wp2_with (first|(go_at_call 70;refine Calls.mono C.out ?_;rintro e w1 ⟨rfl,hb1⟩;have H1:=hidI hb1;clear hb1)|(go_at_call 101;refine Calls.mono (CO.out _) ?_;rintro e w2 ⟨rfl,rfl⟩)|(go_at_call 102;refine Calls.mono (CN.out _) ?_;rintro e w3 ⟨rfl,hb3⟩;have H3:=hidI hb3;clear hb3))
    go_ret
    exact ⟨by simp,H1.out.trans (H3.out.mono H1.out.size)⟩
   | false=>
    rw [hm] at CN
    go_enter Tryz.func57,Tryz.ntmps57
    go_wp2_with (first|(go_at_call 70;refine Calls.mono C.out ?_;rintro e w1 ⟨rfl,hb1⟩;have H1:=hidI hb1;clear hb1)|(go_at_call 101;refine Calls.mono (CO.out _) ?_;rintro e w2 ⟨rfl,rfl⟩)|(go_at_call 102;refine Calls.mono (CN.out _) ?_;rintro e w3 ⟨rfl,hb3⟩;have H3:=hidI hb3;clear hb3))
    go_ret
    exact ⟨by simp,H1.out.trans (H3.out.mono H1.out.size)⟩
open Go.RowKit
abbrev laid5:List (String × DataW Unit):=Rows.topMeetsRow.laid
theorem gTabType:(Tryz.prog.globals[0]?).map (·.type)=some 235:=by kernel_rfl
theorem cells87:Tryz.prog.cellsOf 235=20:=by kernel_rfl
theorem cells52:Tryz.prog.cellsOf 192=1:=by kernel_rfl
theorem only_tab:laid5.filter (fun x=>x.1 == "internal/strconv.uint64pow10")=[("internal/strconv.uint64pow10",Lib.tabData .u64 Lib.pow10Tab)]:=by kernel_rfl
theorem tab_of {W:World} (h:laidMetH Tryz.prog laid5 W):Tab W:=by
 have h1:=laidMetH.filter (fun x=>x.1 == "internal/strconv.uint64pow10") h
 rw [only_tab] at h1
 exact Lib.tabIs_of_head (rest:=[]) gTab gTabType Tryz.underlying235 Tryz.underlying192 cells52 cells87 h1
theorem gES:Tryz.prog.globalNamed "strconv.ErrSyntax" = some 3:=by kernel_rfl
theorem gESType:(Tryz.prog.globals[3]?).map (·.type)=some 198:=by kernel_rfl
theorem gER:Tryz.prog.globalNamed "strconv.ErrRange" = some 4:=by kernel_rfl
theorem gERType:(Tryz.prog.globals[4]?).map (·.type)=some 198:=by kernel_rfl
theorem cells85:Tryz.prog.cellsOf 283=1:=by kernel_rfl
theorem cells9:Tryz.prog.cellsOf 9=1:=by kernel_rfl
abbrev synS:ByteArray:={ data:=#[105,110,118,97,108,105,100,32,115,121,110,116,97,120] }
abbrev rngS:ByteArray:={ data:=#[118,97,108,117,101,32,111,117,116,32,111,102,32,114,97,110,103,101] }
noncomputable def low:Nat:=(World.holding Tryz.prog default ⟨#[],#[],[]⟩).heap.size
def de32:List Int:=[0,1,28,2,29,14,24,3,30,22,20,15,25,17,4,8,31,27,13,23,21,19,16,7,26,12,18,6,11,5,10,9]
def de64:List Int:=[0,1,56,2,57,49,28,3,61,58,42,50,38,29,17,4,62,47,59,36,45,43,51,22,53,39,33,30,24,18,12,5,63,55,48,27,60,41,37,16,46,35,44,21,52,32,23,11,54,26,40,15,34,20,31,10,25,14,19,9,13,8,7,6]
def putAt (h:Array Obj) (g:Nat) (cs:Array Value):Array Obj:=h.modify g fun
 | .cells _ t frozen=>.cells cs t frozen
 | o=>o
noncomputable def laidWorld (os:Os):World:=
 let w0:=World.holding Tryz.prog os ⟨#[.cells #[.string synS] 283,.cells #[.string rngS] 283],#[],[]⟩
 { w0 with heap:=putAt (putAt (putAt (putAt (putAt w0.heap 3 #[.iface 281 (.pointer (some ⟨low,0,none⟩))]) 4 #[.iface 281 (.pointer (some ⟨low+1,0,none⟩))]) 0 (Lib.pow10Tab.map fun z=>Value.int .u64 z).toArray) 1 (de32.map fun z=>Value.int .u8 z).toArray) 2 (de64.map fun z=>Value.int .u8 z).toArray }
theorem laid_met (os:Os) (args:Array Value):laidMet Tryz.prog laid5 ((laidWorld os).forCall (fun _ _=>0) ⟨#[],args,[]⟩).memory:=
 laidMet_of_run' 8 (by kernel_rfl) (by kernel_rfl)
theorem star : "*" ++ "errors.errorString" = "*errors.errorString" := by decide
theorem row83 (u:TypeId) (h:Tryz.prog.typeName? 3 u=some "*errors.errorString"):u=281:=
 typeName_ptr_named (nm := "errors.errorString") (by rw [star];kernel_rfl) (by kernel_rfl) (by decide) u (by rw [star];exact h)
theorem only_syn:laid5.filter (fun x=>x.1 == "strconv.ErrSyntax")=[("strconv.ErrSyntax",Rows.laid_strconv_ErrSyntax)]:=by kernel_rfl
theorem only_rng:laid5.filter (fun x=>x.1 == "strconv.ErrRange")=[("strconv.ErrRange",Rows.laid_strconv_ErrRange)]:=by kernel_rfl
theorem sent_of {W:World} (h:laidMetH Tryz.prog laid5 W):Sent W:=by
 have h1:=laidMetH.filter (fun x=>x.1 == "strconv.ErrSyntax") h
 have h2:=laidMetH.filter (fun x=>x.1 == "strconv.ErrRange") h
 rw [only_syn] at h1
 rw [only_rng] at h2
 obtain ⟨a0,s0,hv0, -, -, -⟩:=laid_sentinel (r:=[]) h1 gES gESType Tryz.underlying198 row83 Tryz.underlying281 Tryz.underlying283 rfl rfl Tryz.underlying9 cells85 cells9
 obtain ⟨a1,s1,hv1, -, -, -⟩:=laid_sentinel (r:=[]) h2 gER gERType Tryz.underlying198 row83 Tryz.underlying281 Tryz.underlying283 rfl rfl Tryz.underlying9 cells85 cells9
 exact ⟨⟨_,_,hv0⟩,_,_,hv1⟩
theorem laid_of {W:World} (h:laidMetH Tryz.prog laid5 W):Laid W:=⟨tab_of h,sent_of h⟩
open Go
section
variable {P : Program} {ops : Array Oper} {Q : Exit → Act → World → Prop} {md : Region.Mode} {S : World → Prop} {z : Nat}
def wpZ (P:Program) (md:Region.Mode) (ops:Array Oper) (Q:Exit→Act→World→Prop) (S:World→Prop) (z:Nat):Nat→Array Bool→Act→World→Prop
 | 0=>fun l a w=>Region.ready md ops l=[]∧Q .normal a w
 | n+1=>fun l a w=>(Region.ready md ops l=[]→Q .normal a w)∧∀ i∈Region.ready md ops l,wpOp P ops Q i (fun b v=>(i≠z→S v)∧wpZ P md ops Q S z n (l.setIfInBounds i true) b v) a w
theorem wpZ_any:∀ (n:Nat) (l:Array Bool) (a:Act) (w:World),wpZ P md ops Q S z n l a w→wpAny P md ops Q n l a w:=by
 intro n
 induction n with
 | zero=>exact fun _ _ _ h=>h
 | succ n ih=>exact fun l a w h=>⟨h.1,fun i hi=>wpOp_mono (fun b v hb=>ih _ b v hb.2) (h.2 i hi)⟩
structure Behind (md:Region.Mode) (ops:Array Oper) (i z:Nat) (D:List Nat):Prop where
 has:z∈D
 free:i ∉ D
 waits:∀ d∈D,∃ o,ops[d]?=some o∧∃ e∈o.after,Region.binds md e=true∧(e.on=i∨e.on∈D)
theorem not_both {l:Array Bool} {j:Nat} (h0:l.getD j true=false) (h1:l.getD j false=true):False:=by
 rcases Nat.lt_or_ge j l.size with h|h
 ·simp [h] at h0 h1;rw [h0] at h1;cases h1
 ·simp [h] at h0
theorem wpZ_first {i:Nat} {o:Oper} {v:Value} {D:List Nat} (hi:ops[i]?=some o) (hsel:Region.noSelect ops=true) (hD:Behind md ops i z D) (hQ:∀ c a w,Q (.panic c) (a.put o.dst v) w→Q (.panic c) a w) :
  ∀ (n:Nat) (l:Array Bool) (a:Act) (w:World),(∀ j oj,ops[j]?=some oj→j≠i→l.getD j true=false→(∀ e∈oj.after,Region.binds md e=true→e.on≠i)→o.apart ops oj=true)→
   i∈Region.ready md ops l→(∀ d∈D,l.getD d true=false)→YieldsIf P ops S o v a→S w→wpZ P md ops Q S z n (l.setIfInBounds i true) (a.put o.dst v) w→wpZ P md ops Q S z (n+1) l a w:=by
 intro n
 induction n with
 | zero=>
  intro l a w _ hr _ hy hS H
  refine ⟨fun e=>absurd (e▸hr) (by simp),fun j hj => ?_⟩
  by_cases hji:j=i
  ·subst hji
   exact hy.wpOp hi hS ⟨fun _=>hS,H⟩
  ·have:=ready_mono hj hji
   rw [H.1] at this
   simp at this
 | succ n ih=>
  intro l a w hap hr hl hy hS H
  refine ⟨fun e=>absurd (e▸hr) (by simp),fun j hj => ?_⟩
  by_cases hji:j=i
  ·subst hji
   exact hy.wpOp hi hS ⟨fun _=>hS,H⟩
  ·obtain ⟨hun,oj,hoj,hall⟩:=mem_ready.1 hj
   have hri:=(mem_ready.1 hr).1
   have hjD:j ∉ D:=fun hm=>by
    obtain ⟨o',ho',e,he,hb,hon⟩:=hD.waits j hm
    obtain rfl:oj=o':=by rw [hoj] at ho';exact Option.some.inj ho'
    rcases hon with hon|hon
    ·exact not_both hri (hon▸hall e he hb)
    ·exact not_both (hl _ hon) (hall e he hb)
   have hjz:j≠z:=fun e=>hjD (e▸hD.has)
   have hstep:=wpOp_putIf hoj (hap j oj hoj hji hun fun e he hb hon=>not_both hri (hon▸hall e he hb)) (fun cs b=>Region.noSelect_spec hsel i o cs b hi) (fun cs b=>Region.noSelect_spec hsel j oj cs b hoj) hQ hy (H.2 j (ready_mono hj hji))
   refine wpOp_mono (fun b u hb => ?_) hstep
   obtain ⟨hyb,hSu,hrest⟩:=hb
   refine ⟨hSu,ih _ b u (fun k ok hok hki hkun hno=>hap k ok hok hki ?_ hno) (ready_mono hr (Ne.symm hji)) (fun d hd => ?_) hyb (hSu hjz) ?_⟩
   ·by_cases hjk:j=k
    ·exact hjk▸hun
    ·rwa [getD_set_ne true hjk] at hkun
   ·rw [getD_set_ne true (fun e:j=d=>hjD (by rw [e];exact hd))]
    exact hl d hd
   ·rwa [Array.setIfInBounds_comm _ _ hji]
def behindB (md:Region.Mode) (ops:Array Oper) (l:Array Bool) (i z:Nat) (D:List Nat):Bool:=
 D.contains z && !D.contains i && D.all fun d => !(l.getD d true) && match ops[d]? with|some o=>o.after.any fun e=>Region.binds md e && (e.on==i || D.contains e.on)|none=>false
theorem wpZ_take {i:Nat} {o:Oper} {v:Value} {n:Nat} {l:Array Bool} {a:Act} {w:World} (D:List Nat) (hi:ops[i]?=some o) (hsel:Region.noSelect ops=true) (hf:Region.free md ops l i=true) (hr:(Region.ready md ops l).contains i=true) (hD:behindB md ops l i z D=true)
  (hQ:∀ c a w,Q (.panic c) (a.put o.dst v) w→Q (.panic c) a w) (hy:YieldsIf P ops S o v a) (hS:S w) (h:wpZ P md ops Q S z n (l.setIfInBounds i true) (a.put o.dst v) w):wpZ P md ops Q S z (n+1) l a w:=by
 simp only [behindB,Bool.and_eq_true,List.all_eq_true,Bool.not_eq_true',List.contains_iff_mem] at hD
 obtain ⟨⟨h1,h2⟩,h3⟩:=hD
 refine wpZ_first (D:=D) hi hsel ⟨h1,by simpa using h2,fun d hd => ?_⟩ hQ n l a w (Region.free_spec hi hf) (by simpa using hr) (fun d hd=>(h3 d hd).1) hy hS h
 have:=(h3 d hd).2
 cases ho:ops[d]? with
 | none=>rw [ho] at this;simp at this
 | some o'=>
  rw [ho] at this
  obtain ⟨e,he,hb⟩:=Array.any_eq_true'.1 this
  simp only [Bool.and_eq_true,Bool.or_eq_true,beq_iff_eq,List.contains_iff_mem] at hb
  exact ⟨o',rfl,e,he,hb.1,hb.2⟩
theorem zaF {i:Nat} {o:Oper} {v:Value} {n:Nat} {l:Array Bool} {a:Act} {w:World} (D:List Nat) (hi:ops[i]?=some o) (hp:∀ c (a:Act) w d u,Q (.panic c) (a.put (some d) u) w→Q (.panic c) a w) (hS:S w) (hy:∀ y,S y→(execOp a.eval o).run P y=.ok (.value v) y)
  (h:wpZ P md ops Q S z n (l.setIfInBounds i true) (a.put o.dst v) w) (hw:Region.wanted o (yielded ops a.tmps)=true:=by rfl) (hsel:Region.noSelect ops=true:=by kernel_rfl) (hf:Region.free md ops l i=true:=by kernel_rfl) (hr:(Region.ready md ops l).contains i=true:=by kernel_rfl) (hD:behindB md ops l i z D=true:=by kernel_rfl):wpZ P md ops Q S z (n+1) l a w:=by
 refine wpZ_take D hi hsel hf hr hD (fun c a w h => ?_) (.inl ⟨hw,hy⟩) hS h
 cases ho:o.dst with
 | none=>rw [ho] at h;exact h
 | some d=>rw [ho] at h;exact hp c a w d v h
theorem zbB {rs:List Nat} {n:Nat} {l:Array Bool} {a:Act} {w:World} (hr:Region.ready md ops l=rs) (hne:rs≠[]) (h:∀ i∈rs,wpOp P ops Q i (fun b v=>(i≠z→S v)∧wpZ P md ops Q S z n (l.setIfInBounds i true) b v) a w):wpZ P md ops Q S z (n+1) l a w:=by
 subst hr
 exact ⟨fun e=>absurd e hne,h⟩
theorem wpZ_done {l:Array Bool} {a:Act} {w:World} (hr:Region.ready md ops l=[]) (h:Q .normal a w) (n:Nat):wpZ P md ops Q S z n l a w:=by
 cases n with
 | zero=>exact ⟨hr,h⟩
 | succ n=>exact ⟨fun _=>h,by simp [hr]⟩
theorem zbN {l:Array Bool} {a:Act} {w:World} (hr:Region.ready md ops l=[z]) (hd:Region.ready md ops (l.setIfInBounds z true)=[]) (h:wpOp P ops Q z (fun b v=>Q .normal b v) a w) (n:Nat):wpZ P md ops Q S z (n+1) l a w:=
 zbB hr (by simp) fun i hi=>by
  obtain rfl:i=z:=by simpa using hi
  exact wpOp_mono (fun b v hb=>⟨fun e=>absurd rfl e,wpZ_done hd hb _⟩) h
theorem zaN {i:Nat} {o:Oper} {K:Act→World→Prop} {a:Act} {w:World} (ho:ops[i]?=some o) (hg:o.guard=none) (h:∀ K':Act→World→Prop,(∀ a w,K a w→K' a w)→Oper.wp P o a w K' Q):wpOp P ops Q i K a w:=by
 refine wpOp_step ho fun K' hK => ?_
 rw [if_pos (by unfold Region.wanted;rw [hg])]
 exact h K' hK
theorem zbE {id:Nat} {a:Act} {w:World} (S:World→Prop) (z:Nat) (hm:P.follows .mixedOrders=true) (h:wpZ P .any ops Q S z ops.size (Array.replicate ops.size false) a w.drew):(Code.region id ops true).wp P Q a w:=
 wp_region_any hm (wpZ_any _ _ _ _ h)
end
def opsA (f:Nat→Oper) (z:Nat):Array Oper:=((List.range (z+1)).map f).toArray
theorem zaA (f:Nat→Oper) (z:Nat) {i:Nat} (h:i≤z):(opsA f z)[i]?=some (f i):=by
 have hi:i<z+1:=by omega
 simp [opsA,hi]
theorem zaC {fn:Func} {p:Tmp} {ty:TypeId} (h:fn.results=#[.cell p ty]) (tmps:Array Value) (P:Program) (w:World) :
  (results fn tmps).run P w=((asAddr (tmps.getD p undef)).run P w).andThen fun a w₁=>(loadVar ty a).run P w₁:=by
 simp only [results,h]
 simp [Sem.run_bind,Result.andThen]
def ShPost (w:World) (s p:ByteArray) (e:Ending) (w':World):Prop:=e=.returned (.agg #[.string s,.string p])∧Below w.heap.size w w'
theorem stmtSh1 (w:World):Calls Tryz.prog 79 #[.int .u8 1] w (ShPost w ⟨#[115,101,116]⟩ ⟨#[110,101]⟩):=by
 go_enter Tryz.func79,Tryz.ntmps79
 go_wp2
 (try simp only [Exit.inBlock,Exit.then])
 refine bodyPost_ret (v:=.agg #[.string ⟨#[115,101,116]⟩,.string ⟨#[110,101]⟩]) ?_ rfl ⟨by simp,?_⟩
 ·rw [zaC rfl]
  go_simp
 ·exact belowT
theorem stmtSh2 (w:World):Calls Tryz.prog 79 #[.int .u8 2] w (ShPost w ⟨#[102,111,108,100]⟩ ⟨#[110,111,101,99]⟩):=by
 go_enter Tryz.func79,Tryz.ntmps79
 go_wp2
 (try simp only [Exit.inBlock,Exit.then])
 refine bodyPost_ret (v:=.agg #[.string ⟨#[102,111,108,100]⟩,.string ⟨#[110,111,101,99]⟩]) ?_ rfl ⟨by simp,?_⟩
 ·rw [zaC rfl]
  go_simp
 ·exact belowT
theorem stmtSh3 (w:World):Calls Tryz.prog 79 #[.int .u8 3] w (ShPost w ⟨#[101,97,99,104]⟩ ⟨#[97]⟩):=by
 go_enter Tryz.func79,Tryz.ntmps79
 go_wp2
 (try simp only [Exit.inBlock,Exit.then])
 refine bodyPost_ret (v:=.agg #[.string ⟨#[101,97,99,104]⟩,.string ⟨#[97]⟩]) ?_ rfl ⟨by simp,?_⟩
 ·rw [zaC rfl]
  go_simp
 ·exact belowT
theorem stmtSh4 (w:World):Calls Tryz.prog 79 #[.int .u8 4] w (ShPost w ⟨#[105,102]⟩ ⟨#[101,116,102]⟩):=by
 go_enter Tryz.func79,Tryz.ntmps79
 go_wp2
 (try simp only [Exit.inBlock,Exit.then])
 refine bodyPost_ret (v:=.agg #[.string ⟨#[105,102]⟩,.string ⟨#[101,116,102]⟩]) ?_ rfl ⟨by simp,?_⟩
 ·rw [zaC rfl]
  go_simp
 ·exact belowT
theorem stmtSh5 (w:World):Calls Tryz.prog 79 #[.int .u8 5] w (ShPost w ⟨#[119,104,105,108,101]⟩ ⟨#[101,115]⟩):=by
 go_enter Tryz.func79,Tryz.ntmps79
 go_wp2
 (try simp only [Exit.inBlock,Exit.then])
 refine bodyPost_ret (v:=.agg #[.string ⟨#[119,104,105,108,101]⟩,.string ⟨#[101,115]⟩]) ?_ rfl ⟨by simp,?_⟩
 ·rw [zaC rfl]
  go_simp
 ·exact belowT
theorem stmtSh6 (w:World):Calls Tryz.prog 79 #[.int .u8 6] w (ShPost w ⟨#[108,111,111,112]⟩ ⟨#[101,115]⟩):=by
 go_enter Tryz.func79,Tryz.ntmps79
 go_wp2
 (try simp only [Exit.inBlock,Exit.then])
 refine bodyPost_ret (v:=.agg #[.string ⟨#[108,111,111,112]⟩,.string ⟨#[101,115]⟩]) ?_ rfl ⟨by simp,?_⟩
 ·rw [zaC rfl]
  go_simp
 ·exact belowT
theorem stmtSh7 (w:World):Calls Tryz.prog 79 #[.int .u8 7] w (ShPost w ⟨#[98,102,115]⟩ ⟨#[110,101,115]⟩):=by
 go_enter Tryz.func79,Tryz.ntmps79
 go_wp2
 (try simp only [Exit.inBlock,Exit.then])
 refine bodyPost_ret (v:=.agg #[.string ⟨#[98,102,115]⟩,.string ⟨#[110,101,115]⟩]) ?_ rfl ⟨by simp,?_⟩
 ·rw [zaC rfl]
  go_simp
 ·exact belowT
theorem actSh1 (w:World):Calls Tryz.prog 82 #[.int .u8 1] w (ShPost w ⟨#[112,117,116]⟩ ⟨#[110,101,99]⟩):=by
 go_enter Tryz.func82,Tryz.ntmps82
 go_wp2
 (try simp only [Exit.inBlock,Exit.then])
 refine bodyPost_ret (v:=.agg #[.string ⟨#[112,117,116]⟩,.string ⟨#[110,101,99]⟩]) ?_ rfl ⟨by simp,?_⟩
 ·rw [zaC rfl]
  go_simp
 ·exact belowT
theorem actSh2 (w:World):Calls Tryz.prog 82 #[.int .u8 2] w (ShPost w ⟨#[112,117,115,104]⟩ ⟨#[110,111,119,101,99]⟩):=by
 go_enter Tryz.func82,Tryz.ntmps82
 go_wp2
 (try simp only [Exit.inBlock,Exit.then])
 refine bodyPost_ret (v:=.agg #[.string ⟨#[112,117,115,104]⟩,.string ⟨#[110,111,119,101,99]⟩]) ?_ rfl ⟨by simp,?_⟩
 ·rw [zaC rfl]
  go_simp
 ·exact belowT
theorem actSh3 (w:World):Calls Tryz.prog 82 #[.int .u8 3] w (ShPost w ⟨#[112,117,108,108]⟩ ⟨#[110,111,119,101]⟩):=by
 go_enter Tryz.func82,Tryz.ntmps82
 go_wp2
 (try simp only [Exit.inBlock,Exit.then])
 refine bodyPost_ret (v:=.agg #[.string ⟨#[112,117,108,108]⟩,.string ⟨#[110,111,119,101]⟩]) ?_ rfl ⟨by simp,?_⟩
 ·rw [zaC rfl]
  go_simp
 ·exact belowT
theorem exprSh1 (w:World):Calls Tryz.prog 85 #[.int .u8 1] w (ShPost w ⟨#[]⟩ ⟨#[]⟩):=by
 go_enter Tryz.func85,Tryz.ntmps85
 go_wp2
 (try simp only [Exit.inBlock,Exit.then])
 refine bodyPost_ret (v:=.agg #[.string ⟨#[]⟩,.string ⟨#[]⟩]) ?_ rfl ⟨by simp,?_⟩
 ·rw [zaC rfl]
  go_simp
 ·exact belowT
theorem exprSh2 (w:World):Calls Tryz.prog 85 #[.int .u8 2] w (ShPost w ⟨#[]⟩ ⟨#[]⟩):=by
 go_enter Tryz.func85,Tryz.ntmps85
 go_wp2
 (try simp only [Exit.inBlock,Exit.then])
 refine bodyPost_ret (v:=.agg #[.string ⟨#[]⟩,.string ⟨#[]⟩]) ?_ rfl ⟨by simp,?_⟩
 ·rw [zaC rfl]
  go_simp
 ·exact belowT
theorem exprSh3 (w:World):Calls Tryz.prog 85 #[.int .u8 3] w (ShPost w ⟨#[111,119,110]⟩ ⟨#[110]⟩):=by
 go_enter Tryz.func85,Tryz.ntmps85
 go_wp2
 (try simp only [Exit.inBlock,Exit.then])
 refine bodyPost_ret (v:=.agg #[.string ⟨#[111,119,110]⟩,.string ⟨#[110]⟩]) ?_ rfl ⟨by simp,?_⟩
 ·rw [zaC rfl]
  go_simp
 ·exact belowT
theorem exprSh4 (w:World):Calls Tryz.prog 85 #[.int .u8 4] w (ShPost w ⟨#[102,97,114]⟩ ⟨#[110]⟩):=by
 go_enter Tryz.func85,Tryz.ntmps85
 go_wp2
 (try simp only [Exit.inBlock,Exit.then])
 refine bodyPost_ret (v:=.agg #[.string ⟨#[102,97,114]⟩,.string ⟨#[110]⟩]) ?_ rfl ⟨by simp,?_⟩
 ·rw [zaC rfl]
  go_simp
 ·exact belowT
theorem exprSh5 (w:World):Calls Tryz.prog 85 #[.int .u8 5] w (ShPost w ⟨#[118,105,97]⟩ ⟨#[110]⟩):=by
 go_enter Tryz.func85,Tryz.ntmps85
 go_wp2
 (try simp only [Exit.inBlock,Exit.then])
 refine bodyPost_ret (v:=.agg #[.string ⟨#[118,105,97]⟩,.string ⟨#[110]⟩]) ?_ rfl ⟨by simp,?_⟩
 ·rw [zaC rfl]
  go_simp
 ·exact belowT
theorem exprSh6 (w:World):Calls Tryz.prog 85 #[.int .u8 6] w (ShPost w ⟨#[105,100]⟩ ⟨#[]⟩):=by
 go_enter Tryz.func85,Tryz.ntmps85
 go_wp2
 (try simp only [Exit.inBlock,Exit.then])
 refine bodyPost_ret (v:=.agg #[.string ⟨#[105,100]⟩,.string ⟨#[]⟩]) ?_ rfl ⟨by simp,?_⟩
 ·rw [zaC rfl]
  go_simp
 ·exact belowT
theorem exprSh7 (w:World):Calls Tryz.prog 85 #[.int .u8 7] w (ShPost w ⟨#[102,97,114,105,100]⟩ ⟨#[]⟩):=by
 go_enter Tryz.func85,Tryz.ntmps85
 go_wp2
 (try simp only [Exit.inBlock,Exit.then])
 refine bodyPost_ret (v:=.agg #[.string ⟨#[102,97,114,105,100]⟩,.string ⟨#[]⟩]) ?_ rfl ⟨by simp,?_⟩
 ·rw [zaC rfl]
  go_simp
 ·exact belowT
theorem exprSh8 (w:World):Calls Tryz.prog 85 #[.int .u8 8] w (ShPost w ⟨#[100,101,103]⟩ ⟨#[119]⟩):=by
 go_enter Tryz.func85,Tryz.ntmps85
 go_wp2
 (try simp only [Exit.inBlock,Exit.then])
 refine bodyPost_ret (v:=.agg #[.string ⟨#[100,101,103]⟩,.string ⟨#[119]⟩]) ?_ rfl ⟨by simp,?_⟩
 ·rw [zaC rfl]
  go_simp
 ·exact belowT
theorem exprSh9 (w:World):Calls Tryz.prog 85 #[.int .u8 9] w (ShPost w ⟨#[99,111,117,110,116]⟩ ⟨#[]⟩):=by
 go_enter Tryz.func85,Tryz.ntmps85
 go_wp2
 (try simp only [Exit.inBlock,Exit.then])
 refine bodyPost_ret (v:=.agg #[.string ⟨#[99,111,117,110,116]⟩,.string ⟨#[]⟩]) ?_ rfl ⟨by simp,?_⟩
 ·rw [zaC rfl]
  go_simp
 ·exact belowT
theorem exprSh10 (w:World):Calls Tryz.prog 85 #[.int .u8 10] w (ShPost w ⟨#[]⟩ ⟨#[]⟩):=by
 go_enter Tryz.func85,Tryz.ntmps85
 go_wp2
 (try simp only [Exit.inBlock,Exit.then])
 refine bodyPost_ret (v:=.agg #[.string ⟨#[]⟩,.string ⟨#[]⟩]) ?_ rfl ⟨by simp,?_⟩
 ·rw [zaC rfl]
  go_simp
 ·exact belowT
end Go.Proofs.YtmekkhfohmfjkaaGreatDoor
