/-
  Part 1 of the proof: Words, Kinds, LaidW, TreeM, ProgM, RdM.
-/
import Derived.Test.YtfljimpgnlfipaaGreatDoorTE00
import Derived.Deep.LoopGhost
import Derived.Deep.OwnRows
import Derived.Deep.RegionHeld3
import Derived.WalkSpells
import Derived.Test.YtfljimpgnlfipaaGreatDoorRows
import Derived.LaidSub
import Derived.Lib.LaidTab
import Derived.Stop.LaidErr
import Derived.ProofKit
import Derived.LaidLaws
namespace Go.Proofs.YtfljimpgnlfipaaGreatDoor
open Go.RowKit Go.Deep Go.MapKept
def letter (c:Int):Bool:=decide (97≤c) && decide (c≤122)
def digit (c:Int):Bool:=decide (48≤c) && decide (c≤57)
def sign (s:ByteArray) (i:Nat):Int:=(s.data.getD i 0).toNat
theorem sign_at (s:ByteArray) (i:Nat) (h:i<s.size) (w:World):(Instr.index 9 (.string s) (.int .i64 (i:Int))).run Tryz.prog w=.ok (.int .u8 (sign s i)) w:=by
 rw [run_index_string w 9 s .i64 _ Tryz.underlying9,dif_pos ⟨by omega,by omega⟩];congr 2;unfold sign;have h':i<s.data.size:=h;simp only [Int.toNat_natCast];rw [Array.getD_eq_getD_getElem?,Array.getElem?_eq_getElem h'];rfl
def goodAt (c:Int) (i:Nat):Bool:=letter c || (digit c && decide (i≠0))
set_option maxRecDepth 100000 in
set_option maxHeartbeats 4000000 in
theorem rname_in (s:ByteArray) (w:World) (h1:1≤s.size) (h8:s.size≤8) :
    Calls Tryz.prog 65 #[.string s] w fun e w'=>e=.returned (.bool ((List.range s.size).all fun i=>goodAt (sign s i) i))∧w=w':=by
  obtain ⟨m,hm⟩:∃ m,s.size=m:=⟨_,rfl⟩;have ql:∀ w,(Builtin.len_ #[9] 3 #[.string s]).run Tryz.prog w=.ok (.int .i64 (m:Int)) w:=fun w=>by rw [run_len_string w 9 3 s Tryz.underlying9,hm];rfl
  have QI:=hidI (sign_at s);rw [hm] at QI h1 h8 ⊢;have k1:decide ((m:Int)<1)=false:=by simp;omega
  have k2:decide (8<(m:Int))=false:=by simp;omega
  obtain ⟨f,hf⟩:∃ f:Nat→Int,∀ i,sign s i=f i:=⟨_,fun _=>rfl⟩;simp only [hf] at QI ⊢;go_enter Tryz.func65,Tryz.ntmps65;go_wp2
  go_loopg [3] m (fun g s3 wx=>∃ i:Nat,i+g=m∧s3=.int .i64 i∧(∀ j,j<i→goodAt (f j) j=true)∧w=wx)
  case atStart=>exact ⟨0,by omega,rfl,by simp,rfl⟩
  case round=>
    obtain ⟨i,hig,rfl,hall,rfl⟩:=hrel;cases gk with
    | zero=>
      have him:m=i:=by omega
      subst him;go_wp2;go_ret;refine ⟨?_,rfl⟩;have:(List.range m).all (fun i=>goodAt (f i) i)=true:=by rw [List.all_eq_true];intro j hj;exact hall j (List.mem_range.1 hj)
      rw [this];rfl
    | succ g=>
      have him:i<m:=by omega
      have k3:(i:Int)<(m:Int):=by omega
      have q1:∀ w,(Instr.index 9 (.string s) (.int .i64 (i:Int))).run Tryz.prog w=.ok (.int .u8 (f i)) w:=QI.out i him;have A:=hidI hall;clear hall;obtain ⟨c,hc⟩:∃ c,f i=c:=⟨_,rfl⟩;rw [hc] at q1;have hgood:goodAt c i=(decide (97≤c) && decide (c≤122) || (decide (48≤c) && decide (c≤57) && decide (i≠0))):=rfl;obtain ⟨b1,a1⟩:∃ b,decide (97≤c)=b:=⟨_,rfl⟩;obtain ⟨b2,a2⟩:∃ b,decide (c≤122)=b:=⟨_,rfl⟩;obtain ⟨b3,a3⟩:∃ b,decide (48≤c)=b:=⟨_,rfl⟩;obtain ⟨b4,a4⟩:∃ b,decide (c≤57)=b:=⟨_,rfl⟩;have a5:decide (i≠0) = !((i:Int)==0):=by
        by_cases h:i=0
        · subst h;rfl
        · rw [show ((i:Int)==0)=false by simpa using h];simpa using h
      obtain ⟨b5,a6⟩:∃ b,((i:Int)==0)=b:=⟨_,rfl⟩;rw [a1,a2,a3,a4,a5,a6] at hgood;clear a5;cases b1<;>cases b2<;>cases b3<;>cases b4<;>cases b5;all_goals first
        | (have hg:goodAt c i=true:=hgood
           go_wp2;go_roundg g
           case measure=>omega
           case rel=>
             refine ⟨i+1,by omega,by go_num,fun j hj => ?_,rfl⟩;rcases Nat.lt_succ_iff_lt_or_eq.1 hj with h|rfl
             · exact A.out j h
             · rw [hc];exact hg)
        | (have hg:goodAt c i=false:=hgood
           go_wp2;go_ret;refine ⟨?_,rfl⟩;have:(List.range m).all (fun i=>goodAt (f i) i)=false:=by
             rw [List.all_eq_false];exact ⟨i,List.mem_range.2 him,by rw [hc,hg];simp⟩
           rw [this];rfl)
set_option maxRecDepth 100000 in
theorem rname_out (s:ByteArray) (w:World) (h:s.size<1∨8<s.size):Calls Tryz.prog 65 #[.string s] w fun e w'=>e=.returned (.bool false)∧w=w':=by
 obtain ⟨m,hm⟩:∃ m,s.size=m:=⟨_,rfl⟩;have ql:∀ w,(Builtin.len_ #[9] 3 #[.string s]).run Tryz.prog w=.ok (.int .i64 (m:Int)) w:=fun w=>by rw [run_len_string w 9 3 s Tryz.underlying9,hm];rfl
 rw [hm] at h;clear hm;rcases h with h|h
 ·have k1:decide ((m:Int)<1)=true:=by simp;omega
  go_enter Tryz.func65,Tryz.ntmps65;go_wp2;go_ret;exact ⟨rfl,rfl⟩
 ·have k1:decide ((m:Int)<1)=false:=by simp;omega
  have k2:decide (8<(m:Int))=true:=by simp;omega
  go_enter Tryz.func65,Tryz.ntmps65;go_wp2;go_ret;exact ⟨rfl,rfl⟩
def nameB (s:ByteArray):Bool:=(List.range s.size).all (fun i=>goodAt (sign s i) i) && (decide (1≤s.size) && decide (s.size≤8))
theorem rname_any (s:ByteArray) (w:World):Calls Tryz.prog 65 #[.string s] w fun e w'=>e=.returned (.bool (nameB s))∧w=w':=by
 by_cases h:s.size<1∨8<s.size
 ·have:nameB s=false:=by
   unfold nameB;have:(decide (1≤s.size) && decide (s.size≤8))=false:=by
    rcases h with h|h
    ·rw [decide_eq_false (by omega:¬ 1≤s.size)];rfl
    ·rw [decide_eq_false (by omega:¬ s.size≤8)];simp
   rw [this];simp
  rw [this];exact rname_out s w h
 ·have h1:1≤s.size:=by omega
  have h8:s.size≤8:=by omega
  have:nameB s=(List.range s.size).all (fun i=>goodAt (sign s i) i):=by unfold nameB;simp [h1,h8]
  rw [this];exact rname_in s w h1 h8
theorem sign_get (s:ByteArray) (i:Nat) (h:i<s.size):sign s i=((s[i]'h).toNat:Int):=by
 unfold sign;have h':i<s.data.size:=h;rw [Array.getD_eq_getD_getElem?,Array.getElem?_eq_getElem h'];rfl
set_option maxRecDepth 100000 in
set_option maxHeartbeats 4000000 in
theorem name_any (s:ByteArray) (w:World):Calls Tryz.prog 174 #[.string s] w fun e w'=>e=.returned (.bool (nameB s))∧Below w.heap.size w w':=by
  obtain ⟨n,hn⟩:∃ n,s.size=n:=⟨_,rfl⟩;have ql:∀ w,(Builtin.len_ #[9] 3 #[.string s]).run Tryz.prog w=.ok (.int .i64 (n:Int)) w:=fun w=>by rw [run_len_string w 9 3 s Tryz.underlying9,hn];rfl
  have HN:=hidI hn;have QE:Hid (∀ ty,(Instr.next (.pointer (some ⟨w.heap.size,0,none⟩)) true ty).run Tryz.prog (w.iter s n)=.ok (.tuple #[.bool false]) (w.iter s n)):=hidI fun ty=>run_next_end w s n ty (by omega)
  have QN:Hid (∀ pos ty,pos<n→(Instr.next (.pointer (some ⟨w.heap.size,0,none⟩)) true ty).run Tryz.prog (w.iter s pos)=.ok (.tuple #[.bool true,.int .i64 pos,.int .i32 (Utf8.decode s pos).1]) (w.iter s (pos+(Utf8.decode s pos).2))):=hidI fun pos ty h=>run_next_any w s pos ty (by omega)
  have HB:Hid (∀ pos,Below w.heap.size w (w.iter s pos)):=hidI fun pos=>(Below.refl _ _).alloc (Nat.le_refl _) _
  obtain ⟨R,hR⟩:∃ R,nameB s=R:=⟨_,rfl⟩;have HR:=hidI hR;rw [hR];clear hn hR;go_enter Tryz.func174,Tryz.ntmps174;go_wp2
  go_loopg [3] n (fun g s3 wx=>∃ pos:Nat,pos+g=n∧w.iter s pos=wx∧Hid (∀ j,j<pos→goodAt (sign s j) j=true))
  case atStart=>exact ⟨0,by omega,rfl,hidI (by simp)⟩
  case round=>
    obtain ⟨pos,hpg,rfl,HA⟩:=hrel;cases gk with
    | zero=>
      obtain rfl:n=pos:=by omega
      have qe:=QE.out;have hres:nameB s=(decide (1≤n) && decide (n≤8)):=by
        unfold nameB;rw [HN.out,List.all_eq_true.2 (fun j hj=>HA.out j (List.mem_range.1 hj)),Bool.true_and]
      rw [HR.out] at hres;obtain ⟨b1,h1⟩:∃ b,decide (1≤n)=b:=⟨_,rfl⟩;obtain ⟨b2,h2⟩:∃ b,decide (n≤8)=b:=⟨_,rfl⟩;have h1':decide ((1:Int)≤(n:Int))=b1:=by rw [←h1];congr 1;simp;omega
      have h2':decide ((n:Int)≤8)=b2:=by rw [←h2];congr 1;simp;omega
      rw [h1,h2] at hres;have HRES:=hidI hres;clear h1 h2 hres;cases b1<;>cases b2;all_goals
        go_wp2;go_ret;exact ⟨by rw [HRES.out];rfl,HB.out _⟩
    | succ g=>
      have hlt:pos<n:=by omega
      have qn:=fun ty=>QN.out pos ty hlt
      have hlt':pos<s.size:=by have:=HN.out;omega
      by_cases ha:(s[pos]'hlt').toNat<128
      · have hd:=decode_ascii s pos hlt' ha
        rw [hd] at qn;have hc:=sign_get s pos hlt';obtain ⟨c,hcc⟩:∃ c:Nat,(s[pos]'hlt').toNat=c:=⟨_,rfl⟩;rw [hcc] at qn hc;simp only at qn;have hgood:goodAt (c:Int) pos=(decide ((97:Int)≤c) && decide ((c:Int)≤122) || (decide ((48:Int)≤c) && decide ((c:Int)≤57) && decide (pos≠0))):=rfl;obtain ⟨b1,a1⟩:∃ b,decide ((97:Int)≤c)=b:=⟨_,rfl⟩;obtain ⟨b2,a2⟩:∃ b,decide ((c:Int)≤122)=b:=⟨_,rfl⟩;obtain ⟨b3,a3⟩:∃ b,decide ((48:Int)≤c)=b:=⟨_,rfl⟩;obtain ⟨b4,a4⟩:∃ b,decide ((c:Int)≤57)=b:=⟨_,rfl⟩;have a5:decide (pos≠0) = !((pos:Int)==0):=by
          by_cases h:pos=0
          · subst h;rfl
          · rw [show ((pos:Int)==0)=false by simpa using h];simpa using h
        obtain ⟨b5,a6⟩:∃ b,((pos:Int)==0)=b:=⟨_,rfl⟩;rw [a1,a2,a3,a4,a5,a6] at hgood;have HC:=hidI hc;clear a5 hd hcc ha hc;cases b1<;>cases b2<;>cases b3<;>cases b4<;>cases b5;all_goals first
          | (have hg:goodAt (c:Int) pos=true:=hgood
             go_wp2;go_roundg g
             case measure=>omega
             case rel=>
               refine ⟨pos+1,by omega,rfl,hidI fun j hj => ?_⟩;rcases Nat.lt_succ_iff_lt_or_eq.1 hj with h|rfl
               · exact HA.out j h
               · rw [HC.out];exact hg)
          | (have hg:goodAt (c:Int) pos=false:=hgood
             go_wp2;go_ret;refine ⟨?_,HB.out _⟩;have:(List.range s.size).all (fun i=>goodAt (sign s i) i)=false:=by
               rw [List.all_eq_false];exact ⟨pos,List.mem_range.2 hlt',by rw [HC.out,hg];simp⟩
             rw [←HR.out];unfold nameB;rw [this];rfl)
      · have hd:=(decode_high s pos hlt' (by omega)).1
        obtain ⟨r,hr⟩:∃ r,(Utf8.decode s pos).1=r:=⟨_,rfl⟩;rw [hr] at qn hd;have k1:decide ((r:Int)≤122)=false:=by simp;omega
        have k2:decide ((r:Int)≤57)=false:=by simp;omega
        have k3:decide ((97:Int)≤(r:Int))=true:=by simp;omega
        have k4:decide ((48:Int)≤(r:Int))=true:=by simp;omega
        have hres:nameB s=false:=by
          have hg:goodAt (sign s pos) pos=false:=by
            rw [sign_get s pos hlt'];unfold goodAt letter digit;have h1:¬ ((s[pos]'hlt').toNat:Int)≤122:=by omega
            have h2:¬ ((s[pos]'hlt').toNat:Int)≤57:=by omega
            simp [h1,h2]
          have:(List.range s.size).all (fun i=>goodAt (sign s i) i)=false:=by
            rw [List.all_eq_false];exact ⟨pos,List.mem_range.2 hlt',by rw [hg];simp⟩
          unfold nameB;rw [this];rfl
        rw [HR.out] at hres;have HRES:=hidI hres;clear ha hr hd hres;go_wp2;go_ret;exact ⟨by rw [HRES.out];rfl,HB.out _⟩
def opc (i:Nat):UInt8:=([43,45,42,47,37,38,124,94,61,60]:List UInt8).getD i 0
def opB (s:ByteArray):Bool:=(List.range 10).any fun i=>s.toList==[opc i]
def isNum (s:ByteArray):Prop:=∃ v,In64 v∧s.data.toList=Lib.itoa v
open Classical in
noncomputable def numV (s:ByteArray):Int:=if h:isNum s then h.choose else 0
open Classical in
noncomputable def kindW (s:ByteArray):Int:=if isNum s then 4 else if opB s || nameB s then 3 else 0
theorem numV_in {s:ByteArray} (h:isNum s):In64 (numV s)∧s.data.toList=Lib.itoa (numV s):=by
 unfold numV;rw [dif_pos h];exact h.choose_spec
theorem numV_no {s:ByteArray} (h:¬ isNum s):numV s=0:=by unfold numV;rw [dif_neg h]
open Classical in
noncomputable def numE (s:ByteArray):Int:=if isNum s then 0 else 3
structure Laid (w:World):Prop where
 tab:Tab w
 sent:Sent w
theorem Laid.on {w w':World} (h:Laid w) (hb:Below w.heap.size w w'):Laid w':=⟨h.tab.on hb,h.sent.on hb⟩
theorem parse_any (s:ByteArray) (hl:s.size≤140737488355328) (w:World) (h:Laid w):Calls Tryz.prog 127 #[.string s] w fun e w'=>e=.returned (.tuple #[.int .i64 (numV s),.int .i64 (numE s)])∧Below w.heap.size w w':=by
 by_cases hn:isNum s
 ·obtain ⟨h1,h2⟩:=numV_in hn;have:=parse_yes s (by omega) (numV s) h1 h2 w h.tab;unfold numE;rw [if_pos hn];exact this
 ·have:=parse_no s (by omega) (fun v hv e=>hn ⟨v,hv,e⟩) w h.tab h.sent;unfold numE;rw [if_neg hn,numV_no hn];exact this
set_option maxRecDepth 100000 in
set_option maxHeartbeats 1000000 in
theorem op_any (s:ByteArray) (w:World):Calls Tryz.prog 173 #[.string s] w fun e w'=>e=.returned (.bool (opB s))∧w=w':=by
 cases h0:(s.toList==[43]) with
 | true=>
  have HRES:Hid (opB s=true):=hidI (by
   unfold opB;rw [List.any_eq_true];exact ⟨0,by simp,by simpa [opc] using h0⟩)
  rw [HRES.out];go_enter Tryz.func173,Tryz.ntmps173;go_wp2;go_ret;exact ⟨rfl,rfl⟩
 | false=>
  cases h1:(s.toList==[45]) with
  | true=>
   have HRES:Hid (opB s=true):=hidI (by
    unfold opB;rw [List.any_eq_true];exact ⟨1,by simp,by simpa [opc] using h1⟩)
   rw [HRES.out];go_enter Tryz.func173,Tryz.ntmps173;go_wp2;go_ret;exact ⟨rfl,rfl⟩
  | false=>
   cases h2:(s.toList==[42]) with
   | true=>
    have HRES:Hid (opB s=true):=hidI (by
     unfold opB;rw [List.any_eq_true];exact ⟨2,by simp,by simpa [opc] using h2⟩)
    rw [HRES.out];go_enter Tryz.func173,Tryz.ntmps173;go_wp2;go_ret;exact ⟨rfl,rfl⟩
   | false=>
    cases h3:(s.toList==[47]) with
    | true=>
     have HRES:Hid (opB s=true):=hidI (by
      unfold opB;rw [List.any_eq_true];exact ⟨3,by simp,by simpa [opc] using h3⟩)
     rw [HRES.out];go_enter Tryz.func173,Tryz.ntmps173;go_wp2;go_ret;exact ⟨rfl,rfl⟩
    | false=>
     cases h4:(s.toList==[37]) with
     | true=>
      have HRES:Hid (opB s=true):=hidI (by
       unfold opB;rw [List.any_eq_true];exact ⟨4,by simp,by simpa [opc] using h4⟩)
      rw [HRES.out];go_enter Tryz.func173,Tryz.ntmps173;go_wp2;go_ret;exact ⟨rfl,rfl⟩
     | false=>
      cases h5:(s.toList==[38]) with
      | true=>
       have HRES:Hid (opB s=true):=hidI (by
        unfold opB;rw [List.any_eq_true];exact ⟨5,by simp,by simpa [opc] using h5⟩)
       rw [HRES.out];go_enter Tryz.func173,Tryz.ntmps173;go_wp2;go_ret;exact ⟨rfl,rfl⟩
      | false=>
       cases h6:(s.toList==[124]) with
       | true=>
        have HRES:Hid (opB s=true):=hidI (by
         unfold opB;rw [List.any_eq_true];exact ⟨6,by simp,by simpa [opc] using h6⟩)
        rw [HRES.out];go_enter Tryz.func173,Tryz.ntmps173;go_wp2;go_ret;exact ⟨rfl,rfl⟩
       | false=>
        cases h7:(s.toList==[94]) with
        | true=>
         have HRES:Hid (opB s=true):=hidI (by
          unfold opB;rw [List.any_eq_true];exact ⟨7,by simp,by simpa [opc] using h7⟩)
         rw [HRES.out];go_enter Tryz.func173,Tryz.ntmps173;go_wp2;go_ret;exact ⟨rfl,rfl⟩
        | false=>
         cases h8:(s.toList==[61]) with
         | true=>
          have HRES:Hid (opB s=true):=hidI (by
           unfold opB;rw [List.any_eq_true];exact ⟨8,by simp,by simpa [opc] using h8⟩)
          rw [HRES.out];go_enter Tryz.func173,Tryz.ntmps173;go_wp2;go_ret;exact ⟨rfl,rfl⟩
         | false=>
          cases h9:(s.toList==[60]) with
          | true=>
           have HRES:Hid (opB s=true):=hidI (by
            unfold opB;rw [List.any_eq_true];exact ⟨9,by simp,by simpa [opc] using h9⟩)
           rw [HRES.out];go_enter Tryz.func173,Tryz.ntmps173;go_wp2;go_ret;exact ⟨rfl,rfl⟩
          | false=>
           have HRES:Hid (opB s=false):=hidI (by
            unfold opB;rw [List.any_eq_false];intro i hi;have hi':i<10:=List.mem_range.1 hi;have hc:i=0∨i=1∨i=2∨i=3∨i=4∨i=5∨i=6∨i=7∨i=8∨i=9:=by omega
            rcases hc with rfl|rfl|rfl|rfl|rfl|rfl|rfl|rfl|rfl|rfl<;>simp [opc, *])
           rw [HRES.out];go_enter Tryz.func173,Tryz.ntmps173;go_wp2;go_ret;exact ⟨rfl,rfl⟩
set_option maxHeartbeats 1000000 in
theorem kind_any (s:ByteArray) (hl:s.size≤140737488355328) (w:World) (h:Laid w):Calls Tryz.prog 126 #[.string s] w fun e w'=>e=.returned (.int .u8 (kindW s))∧Below w.heap.size w w':=by
 have C:=hidI (parse_any s hl w h);have CO:=hidI (op_any s);have CN:=hidI (name_any s);obtain ⟨v,hv⟩:∃ v,numV s=v:=⟨_,rfl⟩;rw [hv] at C;by_cases hn:isNum s
 ·have hk:kindW s=4:=by unfold kindW;rw [if_pos hn]
  have he:numE s=0:=by unfold numE;rw [if_pos hn]
  rw [hk];rw [he] at C;clear hk he hn hv;go_enter Tryz.func126,Tryz.ntmps126
  go_wp2_with (go_at_call 127;refine Calls.mono C.out ?_;rintro e w1 ⟨rfl,hb1⟩;have H1:=hidI hb1;clear hb1)
  go_ret;exact ⟨rfl,H1.out⟩
 ·have hk:kindW s=if opB s || nameB s then 3 else 0:=by unfold kindW;rw [if_neg hn]
  have he:numE s=3:=by unfold numE;rw [if_neg hn]
  rw [hk];rw [he] at C;clear hk he hn hv;cases ho:opB s with
  | true=>
   rw [ho] at CO;go_enter Tryz.func126,Tryz.ntmps126
   go_wp2_with (first|(go_at_call 127;refine Calls.mono C.out ?_;rintro e w1 ⟨rfl,hb1⟩;have H1:=hidI hb1;clear hb1)|(go_at_call 173;refine Calls.mono (CO.out _) ?_;rintro e w2 ⟨rfl,rfl⟩))
   go_ret;exact ⟨by simp,H1.out⟩
  | false=>
   rw [ho] at CO;cases hm:nameB s with
   | true=>
    rw [hm] at CN;go_enter Tryz.func126,Tryz.ntmps126
    go_wp2_with (first|(go_at_call 127;refine Calls.mono C.out ?_;rintro e w1 ⟨rfl,hb1⟩;have H1:=hidI hb1;clear hb1)|(go_at_call 173;refine Calls.mono (CO.out _) ?_;rintro e w2 ⟨rfl,rfl⟩)|(go_at_call 174;refine Calls.mono (CN.out _) ?_;rintro e w3 ⟨rfl,hb3⟩;have H3:=hidI hb3;clear hb3))
    go_ret;exact ⟨by simp,H1.out.trans (H3.out.mono H1.out.size)⟩
   | false=>
    rw [hm] at CN;go_enter Tryz.func126,Tryz.ntmps126
    go_wp2_with (first|(go_at_call 127;refine Calls.mono C.out ?_;rintro e w1 ⟨rfl,hb1⟩;have H1:=hidI hb1;clear hb1)|(go_at_call 173;refine Calls.mono (CO.out _) ?_;rintro e w2 ⟨rfl,rfl⟩)|(go_at_call 174;refine Calls.mono (CN.out _) ?_;rintro e w3 ⟨rfl,hb3⟩;have H3:=hidI hb3;clear hb3))
    go_ret;exact ⟨by simp,H1.out.trans (H3.out.mono H1.out.size)⟩
theorem sign_cells (W:World):∀ i,i<10→(W.alloc (.cells #[.string ⟨#[43]⟩,.string ⟨#[45]⟩,.string ⟨#[42]⟩,.string ⟨#[47]⟩,.string ⟨#[37]⟩,.string ⟨#[38]⟩,.string ⟨#[124]⟩,.string ⟨#[94]⟩,.string ⟨#[61]⟩,.string ⟨#[60]⟩] 9)).cell? ⟨W.heap.size,i,none⟩=some (.string ⟨#[opc i]⟩):=by
 intro i hi;have hc:i=0∨i=1∨i=2∨i=3∨i=4∨i=5∨i=6∨i=7∨i=8∨i=9:=by omega
 rcases hc with rfl|rfl|rfl|rfl|rfl|rfl|rfl|rfl|rfl|rfl<;>go_simp<;>rfl
open Go.RowKit
abbrev laid5:List (String × DataW Unit):=Rows.typedChecksRow.laid
theorem gTabType:(Tryz.prog.globals[2]?).map (·.type)=some 315:=by kernel_rfl
theorem cells87:Tryz.prog.cellsOf 315=20:=by kernel_rfl
theorem cells52:Tryz.prog.cellsOf 175=1:=by kernel_rfl
theorem only_tab:laid5.filter (fun x=>x.1 == "internal/strconv.uint64pow10")=[("internal/strconv.uint64pow10",Lib.tabData .u64 Lib.pow10Tab)]:=by kernel_rfl
theorem tab_of {W:World} (h:laidMetH Tryz.prog laid5 W):Tab W:=by
 have h1:=laidMetH.filter (fun x=>x.1 == "internal/strconv.uint64pow10") h;rw [only_tab] at h1;exact Lib.tabIs_of_head (rest:=[]) gTab gTabType Tryz.underlying315 Tryz.underlying175 cells52 cells87 h1
theorem gES:Tryz.prog.globalNamed "strconv.ErrSyntax" = some 0:=by kernel_rfl
theorem gESType:(Tryz.prog.globals[0]?).map (·.type)=some 250:=by kernel_rfl
theorem gER:Tryz.prog.globalNamed "strconv.ErrRange" = some 1:=by kernel_rfl
theorem gERType:(Tryz.prog.globals[1]?).map (·.type)=some 250:=by kernel_rfl
theorem cells85:Tryz.prog.cellsOf 313=1:=by kernel_rfl
theorem cells9:Tryz.prog.cellsOf 9=1:=by kernel_rfl
abbrev synS:ByteArray:={ data:=#[105,110,118,97,108,105,100,32,115,121,110,116,97,120] }
abbrev rngS:ByteArray:={ data:=#[118,97,108,117,101,32,111,117,116,32,111,102,32,114,97,110,103,101] }
noncomputable def low:Nat:=(World.holding Tryz.prog default ⟨#[],#[],[]⟩).heap.size
def de32:List Int:=[0,1,28,2,29,14,24,3,30,22,20,15,25,17,4,8,31,27,13,23,21,19,16,7,26,12,18,6,11,5,10,9]
def de64:List Int:=[0,1,56,2,57,49,28,3,61,58,42,50,38,29,17,4,62,47,59,36,45,43,51,22,53,39,33,30,24,18,12,5,63,55,48,27,60,41,37,16,46,35,44,21,52,32,23,11,54,26,40,15,34,20,31,10,25,14,19,9,13,8,7,6]
def putAt (h:Array Obj) (g:Nat) (cs:Array Value):Array Obj:=h.modify g fun
 | .cells _ t frozen=>.cells cs t frozen
 | o=>o
noncomputable def laidWorld (os:Os):World:=
 let w0:=World.holding Tryz.prog os ⟨#[.cells #[.string synS] 313,.cells #[.string rngS] 313],#[],[]⟩
 { w0 with heap:=putAt (putAt (putAt (putAt (putAt w0.heap 0 #[.iface 311 (.pointer (some ⟨low,0,none⟩))]) 1 #[.iface 311 (.pointer (some ⟨low+1,0,none⟩))]) 2 (Lib.pow10Tab.map fun z=>Value.int .u64 z).toArray) 4 (de32.map fun z=>Value.int .u8 z).toArray) 5 (de64.map fun z=>Value.int .u8 z).toArray }
theorem laid_met (os:Os) (args:Array Value):laidMet Tryz.prog laid5 ((laidWorld os).forCall (fun _ _=>0) ⟨#[],args,[]⟩).memory:=
 laidMet_of_run' 8 (by kernel_rfl) (by kernel_rfl)
theorem star : "*" ++ "errors.errorString" = "*errors.errorString" := by decide
theorem row83 (u:TypeId) (h:Tryz.prog.typeName? 3 u=some "*errors.errorString"):u=311:=
 typeName_ptr_named (nm := "errors.errorString") (by rw [star];kernel_rfl) (by kernel_rfl) (by decide) u (by rw [star];exact h)
theorem only_syn:laid5.filter (fun x=>x.1 == "strconv.ErrSyntax")=[("strconv.ErrSyntax",Rows.laid_strconv_ErrSyntax)]:=by kernel_rfl
theorem only_rng:laid5.filter (fun x=>x.1 == "strconv.ErrRange")=[("strconv.ErrRange",Rows.laid_strconv_ErrRange)]:=by kernel_rfl
theorem sent_of {W:World} (h:laidMetH Tryz.prog laid5 W):Sent W:=by
 have h1:=laidMetH.filter (fun x=>x.1 == "strconv.ErrSyntax") h;have h2:=laidMetH.filter (fun x=>x.1 == "strconv.ErrRange") h;rw [only_syn] at h1;rw [only_rng] at h2;obtain ⟨a0,s0,hv0, -, -, -⟩:=laid_sentinel (r:=[]) h1 gES gESType Tryz.underlying250 row83 Tryz.underlying311 Tryz.underlying313 rfl rfl Tryz.underlying9 cells85 cells9;obtain ⟨a1,s1,hv1, -, -, -⟩:=laid_sentinel (r:=[]) h2 gER gERType Tryz.underlying250 row83 Tryz.underlying311 Tryz.underlying313 rfl rfl Tryz.underlying9 cells85 cells9;exact ⟨⟨_,_,hv0⟩,_,_,hv1⟩
theorem laid_of {W:World} (h:laidMetH Tryz.prog laid5 W):Laid W:=⟨tab_of h,sent_of h⟩
structure Frm where
 k:Int
 s:ByteArray
 n:Int
 kids:List Nat
 p:Int
structure St where
 forms:List Frm
 top:List Nat
 opn:List Nat
def emptyS:ByteArray:=⟨#[]⟩
def addKid (n:Nat) (g:Frm):Frm:={ g with kids:=g.kids++[n] }
def addF (f:Frm) (σ:St):St:=
 match σ.opn.getLast? with
 | none=>{ σ with forms:=σ.forms++[f],top:=σ.top++[σ.forms.length] }
 | some b=>{ σ with forms:=σ.forms.modify b (addKid σ.forms.length)++[f] }
def formOf (t:Tok):Frm:=if t.k=1 then ⟨1,emptyS,0,[],t.p⟩ else if t.k=3 then ⟨3,t.s,0,[],t.p⟩ else ⟨4,emptyS,t.n,[],t.p⟩
def step (σ:St) (t:Tok):Except (Int × Int) St:=
 if t.k=2 then (if σ.opn=[] then .error (t.p,8) else .ok { σ with opn:=σ.opn.dropLast })
 else if t.k=1 then (if σ.opn.length=12 then .error (t.p,4) else if σ.forms.length=400 then .error (t.p,4) else .ok { addF (formOf t) σ with opn:=σ.opn++[σ.forms.length] })
 else if t.k=3∨t.k=4 then (if σ.forms.length=400 then .error (t.p,4) else .ok (addF (formOf t) σ))
 else .ok σ
def steps:List Tok→St→Except (Int × Int) St
 | [],σ=>.ok σ
 | t::r,σ=>match step σ t with
  | .error e=>.error e
  | .ok σ'=>steps r σ'
def atOf (l:List Frm) (b:Nat):Int:=match l[b]? with|some f=>f.p|none=>0
def finish (σ:St):Except (Int × Int) St:=
 match σ.opn.getLast? with
 | none=>.ok σ
 | some b=>.error (atOf σ.forms b,8)
def begin0:St:=⟨[],[],[]⟩
def parse (l:List Tok):Except (Int × Int) St:=
 match steps l begin0 with
 | .error e=>.error e
 | .ok σ=>finish σ
structure Good (σ:St):Prop where
 open_lt:∀ b∈σ.opn,b<σ.forms.length
 open_len:σ.opn.length≤12
 len:σ.forms.length≤400
 top_len:σ.top.length≤σ.forms.length
 kid_len:∀ f∈σ.forms,f.kids.length≤σ.forms.length
theorem good_begin:Good begin0:=⟨by simp [begin0],by simp [begin0],by simp [begin0],by simp [begin0],by simp [begin0]⟩
theorem addF_opn (f:Frm) (σ:St):(addF f σ).opn=σ.opn:=by unfold addF;split<;>rfl
theorem addF_len (f:Frm) (σ:St):(addF f σ).forms.length=σ.forms.length+1:=by unfold addF;split<;>simp
theorem addF_top (f:Frm) (σ:St):(addF f σ).top.length≤σ.top.length+1:=by unfold addF;split<;>simp
theorem addF_good {f:Frm} {σ:St} (h:Good σ) (hf:f.kids=[]) (hl:σ.forms.length<400):Good (addF f σ):=by
 refine ⟨fun b hb => ?_,?_,?_,?_,?_⟩
 ·rw [addF_opn] at hb;rw [addF_len];have:=h.open_lt b hb;omega
 ·rw [addF_opn];exact h.open_len
 ·rw [addF_len];omega
 ·rw [addF_len];have:=addF_top f σ;have:=h.top_len;omega
 ·intro g hg;rw [addF_len];unfold addF at hg;split at hg
  ·simp only [List.mem_append,List.mem_singleton] at hg;rcases hg with hg|rfl
   ·have:=h.kid_len g hg;omega
   ·rw [hf];simp
  ·simp only [List.mem_append,List.mem_singleton] at hg;rcases hg with hg|rfl
   ·obtain ⟨i,hi⟩:=List.getElem?_of_mem hg;rw [List.getElem?_modify] at hi;cases hs:σ.forms[i]? with
    | none=>rw [hs] at hi;simp at hi
    | some q=>
     have hq:=h.kid_len q (List.mem_of_getElem? hs);rw [hs] at hi;simp only [Option.map_eq_map,Option.map_some,Option.some.injEq] at hi;subst hi;split
     ·simp only [addKid,List.length_append,List.length_cons,List.length_nil];omega
     ·omega
   ·rw [hf];simp
theorem zfF (t:Tok):(formOf t).kids=[]:=by unfold formOf;split;rfl;split<;>rfl
theorem step_good {σ σ':St} {t:Tok} (h:Good σ) (he:step σ t=.ok σ'):Good σ':=by
 unfold step at he;split at he
 ·split at he
  ·cases he
  ·cases he;exact ⟨fun b hb=>h.open_lt b ((List.dropLast_sublist _).mem hb),by have:=h.open_len;simp;omega,h.len,h.top_len,h.kid_len⟩
 ·split at he
  ·split at he
   ·cases he
   ·split at he
    ·cases he
    ·cases he;have hl:=h.len;have g:=addF_good (f:=formOf t) h (zfF t) (by omega);have ho:=h.open_len;refine ⟨fun b hb => ?_,by simp;omega,g.len,g.top_len,g.kid_len⟩;simp only [List.mem_append,List.mem_singleton] at hb;show b<(addF (formOf t) σ).forms.length;rw [addF_len];rcases hb with hb|rfl
     ·have:=h.open_lt b hb;omega
     ·omega
  ·split at he
   ·split at he
    ·cases he
    ·cases he;have hl:=h.len;exact addF_good h (zfF t) (by omega)
   ·cases he;exact h
structure Dcl where
 name:ByteArray
 side:Nat
 kind:Nat
structure Exp where
 k:Nat
 of:Nat
 op:Nat
 name:ByteArray
 num:Int
 kids:List Int
structure Actn where
 k:Nat
 name:ByteArray
 op:Nat
 inn:Bool
 e:Int
 cond:Int
structure Stm where
 k:Nat
 name:ByteArray
 op:Nat
 e:Int
 cond:Int
 acts:List Actn
 thn:List Int
 els:List Int
structure Prg where
 decls:List Dcl
 exprs:List Exp
 stmts:List Stm
 main:List Int
def nmOk (s:ByteArray):Bool:=nameB s
def opWs:List ByteArray:=[(⟨#[43]⟩:ByteArray),(⟨#[45]⟩:ByteArray),(⟨#[42]⟩:ByteArray),(⟨#[47]⟩:ByteArray),(⟨#[37]⟩:ByteArray),(⟨#[109,105,110]⟩:ByteArray),(⟨#[109,97,120]⟩:ByteArray),(⟨#[115,104,108]⟩:ByteArray),(⟨#[115,104,114]⟩:ByteArray),(⟨#[38]⟩:ByteArray),(⟨#[124]⟩:ByteArray),(⟨#[94]⟩:ByteArray),(⟨#[61]⟩:ByteArray),(⟨#[60]⟩:ByteArray),(⟨#[110,111,116]⟩:ByteArray),(⟨#[97,110,100]⟩:ByteArray),(⟨#[111,114]⟩:ByteArray),(⟨#[105,102]⟩:ByteArray),(⟨#[110,97,114,114,111,119]⟩:ByteArray)]
def opOf (s:ByteArray):Nat:=match opWs.findIdx? (fun x=>decide (s=x)) with|some i=>i+1|none=>0
def arityN (o:Nat):Nat:=if o=0∨19<o then 0 else if o=15 then 1 else if o=18 then 3 else 2
def redN (o:Nat):Bool:=decide (o=1∨o=6∨o=7∨o=16∨o=17)
def colOf (s:ByteArray):Nat:=if s=(⟨#[111,119,110]⟩:ByteArray) then 3 else if s=(⟨#[102,97,114]⟩:ByteArray) then 4 else if s=(⟨#[118,105,97]⟩:ByteArray) then 5 else 0
def bareOf (s:ByteArray):Nat:=if s=(⟨#[105,100]⟩:ByteArray) then 6 else if s=(⟨#[102,97,114,105,100]⟩:ByteArray) then 7 else if s=(⟨#[99,111,117,110,116]⟩:ByteArray) then 9 else 0
def declOf (s:ByteArray):Option (Nat × Nat):=
 if s=(⟨#[105,110,116]⟩:ByteArray) then some (1,1) else if s=(⟨#[98,111,111,108]⟩:ByteArray) then some (1,2) else if s=(⟨#[110,105,110,116]⟩:ByteArray) then some (2,1) else if s=(⟨#[110,98,111,111,108]⟩:ByteArray) then some (2,2) else if s=(⟨#[101,105,110,116]⟩:ByteArray) then some (3,1) else if s=(⟨#[101,98,111,111,108]⟩:ByteArray) then some (3,2) else none
def frm (l:List Frm) (n:Nat):Frm:=l.getD n ⟨0,emptyS,0,[],0⟩
def headF (l:List Frm) (n:Nat):Option (ByteArray × List Nat):=
 if (frm l n).k=1 then
  match (frm l n).kids with
  | []=>none
  | m::r=>if (frm l m).k=3 then some ((frm l m).s,r) else none
 else none
def wordF (l:List Frm) (n:Nat):ByteArray:=if (frm l n).k=3 then (frm l n).s else emptyS
def nameF (l:List Frm) (n:Nat):Except Int ByteArray:=if (frm l n).k=3∧nmOk (frm l n).s=true then .ok (frm l n).s else .error (frm l n).p
def addE (es:List Exp) (x:Exp):Except Int (Int × List Exp):=.ok ((es.length:Int),es++[x])
def rows {α:Type} (g:Nat→α→Except Int (Int × α)):List Nat→α→Except Int (List Int × α)
 | [],es=>.ok ([],es)
 | n::r,es=>match g n es with
  | .error p=>.error p
  | .ok (i,es')=>match rows g r es' with
   | .error p=>.error p
   | .ok (is,es'')=>.ok (i::is,es'')
def rdExpr (l:List Frm):Nat→Nat→List Exp→Except Int (Int × List Exp)
 | 0,n,_=>.error (frm l n).p
 | f+1,n,es=>
  if (frm l n).k=4 then addE es ⟨1,1,0,emptyS,(frm l n).n,[]⟩
  else if (frm l n).k=3 then
   if (frm l n).s=(⟨#[116,114,117,101]⟩:ByteArray) then addE es ⟨1,2,0,emptyS,1,[]⟩
   else if (frm l n).s=(⟨#[102,97,108,115,101]⟩:ByteArray) then addE es ⟨1,2,0,emptyS,0,[]⟩
   else match nameF l n with
    | .error p=>.error p
    | .ok s=>addE es ⟨2,0,0,s,0,[]⟩
  else match headF l n with
   | none=>.error (frm l n).p
   | some (w,kids)=>
    if colOf w≠0∧kids.length=1 then
     match nameF l (kids.headD 0) with
     | .error p=>.error p
     | .ok s=>addE es ⟨colOf w,0,0,s,0,[]⟩
    else if bareOf w≠0∧kids.length=0 then addE es ⟨bareOf w,0,0,emptyS,0,[]⟩
    else if w=(⟨#[100,101,103]⟩:ByteArray)∧kids.length=1∧wordF l (kids.headD 0)=(⟨#[111,117,116]⟩:ByteArray) then addE es ⟨8,0,0,emptyS,0,[]⟩
    else if w=(⟨#[100,101,103]⟩:ByteArray)∧kids.length=1∧wordF l (kids.headD 0)=(⟨#[105,110]⟩:ByteArray) then addE es ⟨8,0,0,emptyS,1,[]⟩
    else if opOf w=0∨kids.length≠arityN (opOf w) then .error (frm l n).p
    else match rows (rdExpr l f) kids es with
     | .error p=>.error p
     | .ok (is,es')=>addE es' ⟨10,0,opOf w,emptyS,0,is⟩
def big (l:List Frm):Nat:=l.length+1
def rdE (l:List Frm) (n:Nat) (es:List Exp):Except Int (Int × List Exp):=rdExpr l (big l) n es
def rdCond (l:List Frm) (kids:List Nat) (at_:Nat) (es:List Exp):Except Int (Int × List Exp):=if kids.length>at_ then rdE l (kids.getD at_ 0) es else .ok (-1,es)
def rdAct (l:List Frm) (n:Nat) (es:List Exp):Except Int (Actn × List Exp):=
 match headF l n with
 | none=>.error (frm l n).p
 | some (w,kids)=>
  let c:=kids.length
  if w=(⟨#[112,117,116]⟩:ByteArray)∧(c=2∨c=3) then
   match nameF l (kids.getD 0 0) with
   | .error p=>.error p
   | .ok s=>match rdE l (kids.getD 1 0) es with
    | .error p=>.error p
    | .ok (e,es1)=>match rdCond l kids 2 es1 with
     | .error p=>.error p
     | .ok (d,es2)=>.ok (⟨1,s,0,false,e,d⟩,es2)
  else if (w=(⟨#[112,117,115,104]⟩:ByteArray)∧(c=4∨c=5))∨(w=(⟨#[112,117,108,108]⟩:ByteArray)∧c=4) then
   let o:=opOf (wordF l (kids.getD 1 0))
   let d:=wordF l (kids.getD 2 0)
   if redN o=false∨¬ (d=(⟨#[111,117,116]⟩:ByteArray)∨d=(⟨#[105,110]⟩:ByteArray)) then .error (frm l n).p
   else match nameF l (kids.getD 0 0) with
   | .error p=>.error p
   | .ok s=>match rdE l (kids.getD 3 0) es with
    | .error p=>.error p
    | .ok (e,es1)=>match rdCond l kids 4 es1 with
     | .error p=>.error p
     | .ok (q,es2)=>.ok (⟨if w=(⟨#[112,117,108,108]⟩:ByteArray) then 3 else 2,s,o,decide (d=(⟨#[105,110]⟩:ByteArray)),e,q⟩,es2)
  else .error (frm l n).p
def rdActs (l:List Frm):List Nat→List Exp→Except Int (List Actn × List Exp)
 | [],es=>.ok ([],es)
 | n::r,es=>match rdAct l n es with
  | .error p=>.error p
  | .ok (a,es1)=>match rdActs l r es1 with
   | .error p=>.error p
   | .ok (as',es2)=>.ok (a::as',es2)
abbrev ES:=List Exp × List Stm
def addS (q:ES) (s:Stm):Except Int (Int × ES):=.ok ((q.2.length:Int),(q.1,q.2++[s]))
def rdStmt (l:List Frm):Nat→Nat→ES→Except Int (Int × ES)
 | 0,n,_=>.error (frm l n).p
 | f+1,n,q=>
  match headF l n with
  | none=>.error (frm l n).p
  | some (w,kids)=>
   let c:=kids.length
   if w=(⟨#[115,101,116]⟩:ByteArray)∧c=2 then
    match nameF l (kids.getD 0 0) with
    | .error p=>.error p
    | .ok s=>match rdE l (kids.getD 1 0) q.1 with
     | .error p=>.error p
     | .ok (e,es1)=>addS (es1,q.2) ⟨1,s,0,e, -1,[],[],[]⟩
   else if w=(⟨#[102,111,108,100]⟩:ByteArray)∧(c=3∨c=4) then
    let o:=opOf (wordF l (kids.getD 1 0))
    if redN o=false then .error (frm l n).p
    else match nameF l (kids.getD 0 0) with
    | .error p=>.error p
    | .ok s=>match rdE l (kids.getD 2 0) q.1 with
     | .error p=>.error p
     | .ok (e,es1)=>match rdCond l kids 3 es1 with
      | .error p=>.error p
      | .ok (d,es2)=>addS (es2,q.2) ⟨2,s,o,e,d,[],[],[]⟩
   else if w=(⟨#[101,97,99,104]⟩:ByteArray)∧1≤c∧c≤6 then
    match rdActs l kids q.1 with
    | .error p=>.error p
    | .ok (as',es1)=>addS (es1,q.2) ⟨3,emptyS,0, -1, -1,as',[],[]⟩
   else if w=(⟨#[105,102]⟩:ByteArray)∧c=3∧(frm l (kids.getD 1 0)).k=1∧(frm l (kids.getD 2 0)).k=1 then
    match rdE l (kids.getD 0 0) q.1 with
    | .error p=>.error p
    | .ok (e,es1)=>match rows (rdStmt l f) (frm l (kids.getD 1 0)).kids (es1,q.2) with
     | .error p=>.error p
     | .ok (t,q2)=>match rows (rdStmt l f) (frm l (kids.getD 2 0)).kids q2 with
      | .error p=>.error p
      | .ok (u,q3)=>addS q3 ⟨4,emptyS,0,e, -1,[],t,u⟩
   else if (w=(⟨#[119,104,105,108,101]⟩:ByteArray)∨w=(⟨#[108,111,111,112]⟩:ByteArray))∧1≤c then
    match rdE l (kids.getD 0 0) q.1 with
    | .error p=>.error p
    | .ok (e,es1)=>match rows (rdStmt l f) (kids.drop 1) (es1,q.2) with
     | .error p=>.error p
     | .ok (t,q2)=>addS q2 ⟨if w=(⟨#[108,111,111,112]⟩:ByteArray) then 6 else 5,emptyS,0,e, -1,[],t,[]⟩
   else if w=(⟨#[98,102,115]⟩:ByteArray)∧2≤c then
    match nameF l (kids.getD 0 0) with
    | .error p=>.error p
    | .ok s=>match rdE l (kids.getD 1 0) q.1 with
     | .error p=>.error p
     | .ok (e,es1)=>match rows (rdStmt l f) (kids.drop 2) (es1,q.2) with
      | .error p=>.error p
      | .ok (t,q2)=>addS q2 ⟨7,s,0,e, -1,[],t,[]⟩
   else .error (frm l n).p
def rdTop (l:List Frm):List Nat→Prg→Except (Int × Int) Prg
 | [],p=>.ok p
 | n::r,p=>
  match headF l n with
  | some (w,kids)=>
   match declOf w with
   | some (sd,kd)=>
    if kids.length≠1∨p.main≠[] then .error ((frm l n).p,8)
    else if 24≤p.decls.length then .error ((frm l n).p,4)
    else match nameF l (kids.headD 0) with
     | .error q=>.error (q,8)
     | .ok s=>rdTop l r { p with decls:=p.decls++[⟨s,sd,kd⟩] }
   | none=>match rdStmt l (big l) n (p.exprs,p.stmts) with
    | .error q=>.error (q,8)
    | .ok (i,q)=>rdTop l r { p with exprs:=q.1,stmts:=q.2,main:=p.main++[i] }
  | none=>match rdStmt l (big l) n (p.exprs,p.stmts) with
   | .error q=>.error (q,8)
   | .ok (i,q)=>rdTop l r { p with exprs:=q.1,stmts:=q.2,main:=p.main++[i] }
def stmtSh:Nat→List Nat
 | 1=>[110,101]|2=>[110,111,101,99]|3=>[97]|4=>[101,116,102]|5=>[101,115]|6=>[101,115]|7=>[110,101,115]|_=>[]
def actSh:Nat→List Nat
 | 1=>[110,101,99]|2=>[110,111,119,101,99]|3=>[110,111,119,101]|_=>[]
def exprSh:Nat→List Nat
 | 3=>[110]|4=>[110]|5=>[110]|8=>[119]|_=>[]
structure Ctn where
 name:ByteArray
 op:Nat
 inn:Bool
 e:Int
 cond:Int
 acts:List Actn
 thn:List Int
 els:List Int
def ctn0:Ctn:=⟨emptyS,0,false, -1, -1,[],[],[]⟩
end Go.Proofs.YtfljimpgnlfipaaGreatDoor
