/-
  Part 1 of the proof: Kinds, LaidW, TreeM, ProgM, RdM, TlM.
-/
import Derived.Test.YtmekkhfohmfjkaaGreatDoorTf00
import Derived.Test.YtmekkhfohmfjkaaGreatDoorRows
import Derived.LaidSub
import Derived.Lib.LaidTab
import Derived.Stop.LaidErr
import Derived.ProofKit
import Derived.LaidLaws
namespace Go.Proofs.YtmekkhfohmfjkaaGreatDoor
open Go.RowKit Go.Deep Go.MapKept
def opc (i:Nat):UInt8:=([43,45,42,47,37,38,124,94,61,60]:List UInt8).getD i 0
def opB (s:ByteArray):Bool:=(List.range 10).any fun i=>s.toList==[opc i]
def isNum (s:ByteArray):Prop:=∃ v,In64 v∧s.data.toList=Lib.itoa v
open Classical in
noncomputable def numV (s:ByteArray):Int:=if h:isNum s then h.choose else 0
open Classical in
noncomputable def kindW (s:ByteArray):Int:=if isNum s then 4 else if opB s || nameB s then 3 else 0
theorem numV_in {s:ByteArray} (h:isNum s):In64 (numV s)∧s.data.toList=Lib.itoa (numV s):=by
 unfold numV
 rw [dif_pos h]
 exact h.choose_spec
theorem numV_no {s:ByteArray} (h:¬ isNum s):numV s=0:=by unfold numV;rw [dif_neg h]
open Classical in
noncomputable def numE (s:ByteArray):Int:=if isNum s then 0 else 3
structure Laid (w:World):Prop where
 tab:Tab w
 sent:Sent w
theorem Laid.on {w w':World} (h:Laid w) (hb:Below w.heap.size w w'):Laid w':=⟨h.tab.on hb,h.sent.on hb⟩
theorem parse_any (s:ByteArray) (hl:s.size≤140737488355328) (w:World) (h:Laid w):Calls Tryz.prog 70 #[.string s] w fun e w'=>e=.returned (.tuple #[.int .i64 (numV s),.int .i64 (numE s)])∧Below w.heap.size w w':=by
 by_cases hn:isNum s
 ·obtain ⟨h1,h2⟩:=numV_in hn
  have:=parse_yes s (by omega) (numV s) h1 h2 w h.tab
  unfold numE
  rw [if_pos hn]
  exact this
 ·have:=parse_no s (by omega) (fun v hv e=>hn ⟨v,hv,e⟩) w h.tab h.sent
  unfold numE
  rw [if_neg hn,numV_no hn]
  exact this
set_option maxRecDepth 100000 in
set_option maxHeartbeats 1000000 in
theorem op_any (s:ByteArray) (w:World):Calls Tryz.prog 101 #[.string s] w fun e w'=>e=.returned (.bool (opB s))∧w=w':=by
 cases h0:(s.toList==[43]) with
 | true=>
  have HRES:Hid (opB s=true):=hidI (by
   unfold opB
   rw [List.any_eq_true]
   exact ⟨0,by simp,by simpa [opc] using h0⟩)
  rw [HRES.out]
  go_enter Tryz.func101,Tryz.ntmps101
  go_wp2
  go_ret
  exact ⟨rfl,rfl⟩
 | false=>
  cases h1:(s.toList==[45]) with
  | true=>
   have HRES:Hid (opB s=true):=hidI (by
    unfold opB
    rw [List.any_eq_true]
    exact ⟨1,by simp,by simpa [opc] using h1⟩)
   rw [HRES.out]
   go_enter Tryz.func101,Tryz.ntmps101
   go_wp2
   go_ret
   exact ⟨rfl,rfl⟩
  | false=>
   cases h2:(s.toList==[42]) with
   | true=>
    have HRES:Hid (opB s=true):=hidI (by
     unfold opB
     rw [List.any_eq_true]
     exact ⟨2,by simp,by simpa [opc] using h2⟩)
    rw [HRES.out]
    go_enter Tryz.func101,Tryz.ntmps101
    go_wp2
    go_ret
    exact ⟨rfl,rfl⟩
   | false=>
    cases h3:(s.toList==[47]) with
    | true=>
     have HRES:Hid (opB s=true):=hidI (by
      unfold opB
      rw [List.any_eq_true]
      exact ⟨3,by simp,by simpa [opc] using h3⟩)
     rw [HRES.out]
     go_enter Tryz.func101,Tryz.ntmps101
     go_wp2
     go_ret
     exact ⟨rfl,rfl⟩
    | false=>
     cases h4:(s.toList==[37]) with
     | true=>
      have HRES:Hid (opB s=true):=hidI (by
       unfold opB
       rw [List.any_eq_true]
       exact ⟨4,by simp,by simpa [opc] using h4⟩)
      rw [HRES.out]
      go_enter Tryz.func101,Tryz.ntmps101
      go_wp2
      go_ret
      exact ⟨rfl,rfl⟩
     | false=>
      cases h5:(s.toList==[38]) with
      | true=>
       have HRES:Hid (opB s=true):=hidI (by
        unfold opB
        rw [List.any_eq_true]
        exact ⟨5,by simp,by simpa [opc] using h5⟩)
       rw [HRES.out]
       go_enter Tryz.func101,Tryz.ntmps101
       go_wp2
       go_ret
       exact ⟨rfl,rfl⟩
      | false=>
       cases h6:(s.toList==[124]) with
       | true=>
        have HRES:Hid (opB s=true):=hidI (by
         unfold opB
         rw [List.any_eq_true]
         exact ⟨6,by simp,by simpa [opc] using h6⟩)
        rw [HRES.out]
        go_enter Tryz.func101,Tryz.ntmps101
        go_wp2
        go_ret
        exact ⟨rfl,rfl⟩
       | false=>
        cases h7:(s.toList==[94]) with
        | true=>
         have HRES:Hid (opB s=true):=hidI (by
          unfold opB
          rw [List.any_eq_true]
          exact ⟨7,by simp,by simpa [opc] using h7⟩)
         rw [HRES.out]
         go_enter Tryz.func101,Tryz.ntmps101
         go_wp2
         go_ret
         exact ⟨rfl,rfl⟩
        | false=>
         cases h8:(s.toList==[61]) with
         | true=>
          have HRES:Hid (opB s=true):=hidI (by
           unfold opB
           rw [List.any_eq_true]
           exact ⟨8,by simp,by simpa [opc] using h8⟩)
          rw [HRES.out]
          go_enter Tryz.func101,Tryz.ntmps101
          go_wp2
          go_ret
          exact ⟨rfl,rfl⟩
         | false=>
          cases h9:(s.toList==[60]) with
          | true=>
           have HRES:Hid (opB s=true):=hidI (by
            unfold opB
            rw [List.any_eq_true]
            exact ⟨9,by simp,by simpa [opc] using h9⟩)
           rw [HRES.out]
           go_enter Tryz.func101,Tryz.ntmps101
           go_wp2
           go_ret
           exact ⟨rfl,rfl⟩
          | false=>
           have HRES:Hid (opB s=false):=hidI (by
            unfold opB
            rw [List.any_eq_false]
            intro i hi
            have hi':i<10:=List.mem_range.1 hi
            have hc:i=0∨i=1∨i=2∨i=3∨i=4∨i=5∨i=6∨i=7∨i=8∨i=9:=by omega
            rcases hc with rfl|rfl|rfl|rfl|rfl|rfl|rfl|rfl|rfl|rfl<;>simp [opc, *])
           rw [HRES.out]
           go_enter Tryz.func101,Tryz.ntmps101
           go_wp2
           go_ret
           exact ⟨rfl,rfl⟩
set_option maxHeartbeats 1000000 in
theorem kind_any (s:ByteArray) (hl:s.size≤140737488355328) (w:World) (h:Laid w):Calls Tryz.prog 57 #[.string s] w fun e w'=>e=.returned (.int .u8 (kindW s))∧Below w.heap.size w w':=by
 have C:=hidI (parse_any s hl w h)
 have CO:=hidI (op_any s)
 have CN:=hidI (name_any s)
 obtain ⟨v,hv⟩:∃ v,numV s=v:=⟨_,rfl⟩
 rw [hv] at C
 by_cases hn:isNum s
 ·have hk:kindW s=4:=by unfold kindW;rw [if_pos hn]
  have he:numE s=0:=by unfold numE;rw [if_pos hn]
  rw [hk]
  rw [he] at C
  clear hk he hn hv
  go_enter Tryz.func57,Tryz.ntmps57
  go_wp2_with (go_at_call 70;refine Calls.mono C.out ?_;rintro e w1 ⟨rfl,hb1⟩;have H1:=hidI hb1;clear hb1)
  go_ret
  exact ⟨rfl,H1.out⟩
 ·have hk:kindW s=if opB s || nameB s then 3 else 0:=by unfold kindW;rw [if_neg hn]
  have he:numE s=3:=by unfold numE;rw [if_neg hn]
  rw [hk]
  rw [he] at C
  clear hk he hn hv
  cases ho:opB s with
  | true=>
   rw [ho] at CO
   go_enter Tryz.func57,Tryz.ntmps57
   go_wp2_with (first|(go_at_call 70;refine Calls.mono C.out ?_;rintro e w1 ⟨rfl,hb1⟩;have H1:=hidI hb1;clear hb1)|(go_at_call 101;refine Calls.mono (CO.out _) ?_;rintro e w2 ⟨rfl,rfl⟩))
   go_ret
   exact ⟨by simp,H1.out⟩
  | false=>
   rw [ho] at CO
   cases hm:nameB s with
   | true=>
    rw [hm] at CN
    go_enter Tryz.func57,Tryz.ntmps57
    go_wp2_with (first|(go_at_call 70;refine Calls.mono C.out ?_;rintro e w1 ⟨rfl,hb1⟩;have H1:=hidI hb1;clear hb1)|(go_at_call 101;refine Calls.mono (CO.out _) ?_;rintro e w2 ⟨rfl,rfl⟩)|(go_at_call 102;refine Calls.mono (CN.out _) ?_;rintro e w3 ⟨rfl,hb3⟩;have H3:=hidI hb3;clear hb3))
    go_ret
    exact ⟨by simp,H1.out.trans (H3.out.mono H1.out.size)⟩
   | false=>
    rw [hm] at CN
    go_enter Tryz.func57,Tryz.ntmps57
    go_wp2_with (first|(go_at_call 70;refine Calls.mono C.out ?_;rintro e w1 ⟨rfl,hb1⟩;have H1:=hidI hb1;clear hb1)|(go_at_call 101;refine Calls.mono (CO.out _) ?_;rintro e w2 ⟨rfl,rfl⟩)|(go_at_call 102;refine Calls.mono (CN.out _) ?_;rintro e w3 ⟨rfl,hb3⟩;have H3:=hidI hb3;clear hb3))
    go_ret
    exact ⟨by simp,H1.out.trans (H3.out.mono H1.out.size)⟩
open Go.RowKit
abbrev laid5:List (String × DataW Unit):=Rows.topMeetsRow.laid
theorem gTabType:(Tryz.prog.globals[0]?).map (·.type)=some 235:=by kernel_rfl
theorem cells87:Tryz.prog.cellsOf 235=20:=by kernel_rfl
theorem cells52:Tryz.prog.cellsOf 192=1:=by kernel_rfl
theorem only_tab:laid5.filter (fun x=>x.1 == "internal/strconv.uint64pow10")=[("internal/strconv.uint64pow10",Lib.tabData .u64 Lib.pow10Tab)]:=by kernel_rfl
theorem tab_of {W:World} (h:laidMetH Tryz.prog laid5 W):Tab W:=by
 have h1:=laidMetH.filter (fun x=>x.1 == "internal/strconv.uint64pow10") h
 rw [only_tab] at h1
 exact Lib.tabIs_of_head (rest:=[]) gTab gTabType Tryz.underlying235 Tryz.underlying192 cells52 cells87 h1
theorem gES:Tryz.prog.globalNamed "strconv.ErrSyntax" = some 3:=by kernel_rfl
theorem gESType:(Tryz.prog.globals[3]?).map (·.type)=some 198:=by kernel_rfl
theorem gER:Tryz.prog.globalNamed "strconv.ErrRange" = some 4:=by kernel_rfl
theorem gERType:(Tryz.prog.globals[4]?).map (·.type)=some 198:=by kernel_rfl
theorem cells85:Tryz.prog.cellsOf 283=1:=by kernel_rfl
theorem cells9:Tryz.prog.cellsOf 9=1:=by kernel_rfl
abbrev synS:ByteArray:={ data:=#[105,110,118,97,108,105,100,32,115,121,110,116,97,120] }
abbrev rngS:ByteArray:={ data:=#[118,97,108,117,101,32,111,117,116,32,111,102,32,114,97,110,103,101] }
noncomputable def low:Nat:=(World.holding Tryz.prog default ⟨#[],#[],[]⟩).heap.size
def de32:List Int:=[0,1,28,2,29,14,24,3,30,22,20,15,25,17,4,8,31,27,13,23,21,19,16,7,26,12,18,6,11,5,10,9]
def de64:List Int:=[0,1,56,2,57,49,28,3,61,58,42,50,38,29,17,4,62,47,59,36,45,43,51,22,53,39,33,30,24,18,12,5,63,55,48,27,60,41,37,16,46,35,44,21,52,32,23,11,54,26,40,15,34,20,31,10,25,14,19,9,13,8,7,6]
def putAt (h:Array Obj) (g:Nat) (cs:Array Value):Array Obj:=h.modify g fun
 | .cells _ t frozen=>.cells cs t frozen
 | o=>o
noncomputable def laidWorld (os:Os):World:=
 let w0:=World.holding Tryz.prog os ⟨#[.cells #[.string synS] 283,.cells #[.string rngS] 283],#[],[]⟩
 { w0 with heap:=putAt (putAt (putAt (putAt (putAt w0.heap 3 #[.iface 281 (.pointer (some ⟨low,0,none⟩))]) 4 #[.iface 281 (.pointer (some ⟨low+1,0,none⟩))]) 0 (Lib.pow10Tab.map fun z=>Value.int .u64 z).toArray) 1 (de32.map fun z=>Value.int .u8 z).toArray) 2 (de64.map fun z=>Value.int .u8 z).toArray }
theorem laid_met (os:Os) (args:Array Value):laidMet Tryz.prog laid5 ((laidWorld os).forCall (fun _ _=>0) ⟨#[],args,[]⟩).memory:=
 laidMet_of_run' 8 (by kernel_rfl) (by kernel_rfl)
theorem star : "*" ++ "errors.errorString" = "*errors.errorString" := by decide
theorem row83 (u:TypeId) (h:Tryz.prog.typeName? 3 u=some "*errors.errorString"):u=281:=
 typeName_ptr_named (nm := "errors.errorString") (by rw [star];kernel_rfl) (by kernel_rfl) (by decide) u (by rw [star];exact h)
theorem only_syn:laid5.filter (fun x=>x.1 == "strconv.ErrSyntax")=[("strconv.ErrSyntax",Rows.laid_strconv_ErrSyntax)]:=by kernel_rfl
theorem only_rng:laid5.filter (fun x=>x.1 == "strconv.ErrRange")=[("strconv.ErrRange",Rows.laid_strconv_ErrRange)]:=by kernel_rfl
theorem sent_of {W:World} (h:laidMetH Tryz.prog laid5 W):Sent W:=by
 have h1:=laidMetH.filter (fun x=>x.1 == "strconv.ErrSyntax") h
 have h2:=laidMetH.filter (fun x=>x.1 == "strconv.ErrRange") h
 rw [only_syn] at h1
 rw [only_rng] at h2
 obtain ⟨a0,s0,hv0, -, -, -⟩:=laid_sentinel (r:=[]) h1 gES gESType Tryz.underlying198 row83 Tryz.underlying281 Tryz.underlying283 rfl rfl Tryz.underlying9 cells85 cells9
 obtain ⟨a1,s1,hv1, -, -, -⟩:=laid_sentinel (r:=[]) h2 gER gERType Tryz.underlying198 row83 Tryz.underlying281 Tryz.underlying283 rfl rfl Tryz.underlying9 cells85 cells9
 exact ⟨⟨_,_,hv0⟩,_,_,hv1⟩
theorem laid_of {W:World} (h:laidMetH Tryz.prog laid5 W):Laid W:=⟨tab_of h,sent_of h⟩
structure Frm where
 k:Int
 s:ByteArray
 n:Int
 kids:List Nat
 p:Int
structure St where
 forms:List Frm
 top:List Nat
 opn:List Nat
def emptyS:ByteArray:=⟨#[]⟩
def addKid (n:Nat) (g:Frm):Frm:={ g with kids:=g.kids++[n] }
def addF (f:Frm) (σ:St):St:=
 match σ.opn.getLast? with
 | none=>{ σ with forms:=σ.forms++[f],top:=σ.top++[σ.forms.length] }
 | some b=>{ σ with forms:=σ.forms.modify b (addKid σ.forms.length)++[f] }
def formOf (t:Tok):Frm:=if t.k=1 then ⟨1,emptyS,0,[],t.p⟩ else if t.k=3 then ⟨3,t.s,0,[],t.p⟩ else ⟨4,emptyS,t.n,[],t.p⟩
def step (σ:St) (t:Tok):Except (Int × Int) St:=
 if t.k=2 then (if σ.opn=[] then .error (t.p,8) else .ok { σ with opn:=σ.opn.dropLast })
 else if t.k=1 then (if σ.opn.length=12 then .error (t.p,4) else if σ.forms.length=400 then .error (t.p,4) else .ok { addF (formOf t) σ with opn:=σ.opn++[σ.forms.length] })
 else if t.k=3∨t.k=4 then (if σ.forms.length=400 then .error (t.p,4) else .ok (addF (formOf t) σ))
 else .ok σ
def steps:List Tok→St→Except (Int × Int) St
 | [],σ=>.ok σ
 | t::r,σ=>match step σ t with
  | .error e=>.error e
  | .ok σ'=>steps r σ'
def atOf (l:List Frm) (b:Nat):Int:=match l[b]? with|some f=>f.p|none=>0
def finish (σ:St):Except (Int × Int) St:=
 match σ.opn.getLast? with
 | none=>.ok σ
 | some b=>.error (atOf σ.forms b,8)
def begin0:St:=⟨[],[],[]⟩
def parse (l:List Tok):Except (Int × Int) St:=
 match steps l begin0 with
 | .error e=>.error e
 | .ok σ=>finish σ
structure Good (σ:St):Prop where
 open_lt:∀ b∈σ.opn,b<σ.forms.length
 open_len:σ.opn.length≤12
 len:σ.forms.length≤400
 top_len:σ.top.length≤σ.forms.length
 kid_len:∀ f∈σ.forms,f.kids.length≤σ.forms.length
theorem good_begin:Good begin0:=⟨by simp [begin0],by simp [begin0],by simp [begin0],by simp [begin0],by simp [begin0]⟩
theorem addF_opn (f:Frm) (σ:St):(addF f σ).opn=σ.opn:=by unfold addF;split<;>rfl
theorem addF_len (f:Frm) (σ:St):(addF f σ).forms.length=σ.forms.length+1:=by unfold addF;split<;>simp
theorem addF_top (f:Frm) (σ:St):(addF f σ).top.length≤σ.top.length+1:=by unfold addF;split<;>simp
theorem addF_good {f:Frm} {σ:St} (h:Good σ) (hf:f.kids=[]) (hl:σ.forms.length<400):Good (addF f σ):=by
 refine ⟨fun b hb => ?_,?_,?_,?_,?_⟩
 ·rw [addF_opn] at hb;rw [addF_len];have:=h.open_lt b hb;omega
 ·rw [addF_opn];exact h.open_len
 ·rw [addF_len];omega
 ·rw [addF_len];have:=addF_top f σ;have:=h.top_len;omega
 ·intro g hg
  rw [addF_len]
  unfold addF at hg
  split at hg
  ·simp only [List.mem_append,List.mem_singleton] at hg
   rcases hg with hg|rfl
   ·have:=h.kid_len g hg;omega
   ·rw [hf];simp
  ·simp only [List.mem_append,List.mem_singleton] at hg
   rcases hg with hg|rfl
   ·obtain ⟨i,hi⟩:=List.getElem?_of_mem hg
    rw [List.getElem?_modify] at hi
    cases hs:σ.forms[i]? with
    | none=>rw [hs] at hi;simp at hi
    | some q=>
     have hq:=h.kid_len q (List.mem_of_getElem? hs)
     rw [hs] at hi
     simp only [Option.map_eq_map,Option.map_some,Option.some.injEq] at hi
     subst hi
     split
     ·simp only [addKid,List.length_append,List.length_cons,List.length_nil];omega
     ·omega
   ·rw [hf];simp
theorem zdW (t:Tok):(formOf t).kids=[]:=by unfold formOf;split;rfl;split<;>rfl
theorem step_good {σ σ':St} {t:Tok} (h:Good σ) (he:step σ t=.ok σ'):Good σ':=by
 unfold step at he
 split at he
 ·split at he
  ·cases he
  ·cases he
   exact ⟨fun b hb=>h.open_lt b ((List.dropLast_sublist _).mem hb),by have:=h.open_len;simp;omega,h.len,h.top_len,h.kid_len⟩
 ·split at he
  ·split at he
   ·cases he
   ·split at he
    ·cases he
    ·cases he
     have hl:=h.len
     have g:=addF_good (f:=formOf t) h (zdW t) (by omega)
     have ho:=h.open_len
     refine ⟨fun b hb => ?_,by simp;omega,g.len,g.top_len,g.kid_len⟩
     simp only [List.mem_append,List.mem_singleton] at hb
     show b<(addF (formOf t) σ).forms.length
     rw [addF_len]
     rcases hb with hb|rfl
     ·have:=h.open_lt b hb;omega
     ·omega
  ·split at he
   ·split at he
    ·cases he
    ·cases he
     have hl:=h.len
     exact addF_good h (zdW t) (by omega)
   ·cases he;exact h
structure Dcl where
 name:ByteArray
 side:Nat
 kind:Nat
structure Exp where
 k:Nat
 of:Nat
 op:Nat
 name:ByteArray
 num:Int
 kids:List Int
structure Actn where
 k:Nat
 name:ByteArray
 op:Nat
 inn:Bool
 e:Int
 cond:Int
structure Stm where
 k:Nat
 name:ByteArray
 op:Nat
 e:Int
 cond:Int
 acts:List Actn
 thn:List Int
 els:List Int
structure Prg where
 decls:List Dcl
 exprs:List Exp
 stmts:List Stm
 main:List Int
def nmOk (s:ByteArray):Bool:=nameB s
def opWs:List ByteArray:=[(⟨#[43]⟩:ByteArray),(⟨#[45]⟩:ByteArray),(⟨#[42]⟩:ByteArray),(⟨#[47]⟩:ByteArray),(⟨#[37]⟩:ByteArray),(⟨#[109,105,110]⟩:ByteArray),(⟨#[109,97,120]⟩:ByteArray),(⟨#[115,104,108]⟩:ByteArray),(⟨#[115,104,114]⟩:ByteArray),(⟨#[38]⟩:ByteArray),(⟨#[124]⟩:ByteArray),(⟨#[94]⟩:ByteArray),(⟨#[61]⟩:ByteArray),(⟨#[60]⟩:ByteArray),(⟨#[110,111,116]⟩:ByteArray),(⟨#[97,110,100]⟩:ByteArray),(⟨#[111,114]⟩:ByteArray),(⟨#[105,102]⟩:ByteArray),(⟨#[110,97,114,114,111,119]⟩:ByteArray)]
def opOf (s:ByteArray):Nat:=match opWs.findIdx? (fun x=>decide (s=x)) with|some i=>i+1|none=>0
def arityN (o:Nat):Nat:=if o=0∨19<o then 0 else if o=15 then 1 else if o=18 then 3 else 2
def redN (o:Nat):Bool:=decide (o=1∨o=6∨o=7∨o=16∨o=17)
def declOf (s:ByteArray):Option (Nat × Nat):=
 if s=(⟨#[105,110,116]⟩:ByteArray) then some (1,1) else if s=(⟨#[98,111,111,108]⟩:ByteArray) then some (1,2) else if s=(⟨#[110,105,110,116]⟩:ByteArray) then some (2,1) else if s=(⟨#[110,98,111,111,108]⟩:ByteArray) then some (2,2) else if s=(⟨#[101,105,110,116]⟩:ByteArray) then some (3,1) else if s=(⟨#[101,98,111,111,108]⟩:ByteArray) then some (3,2) else none
def frm (l:List Frm) (n:Nat):Frm:=l.getD n ⟨0,emptyS,0,[],0⟩
def rows {α:Type} (g:Nat→α→Except Int (Int × α)):List Nat→α→Except Int (List Int × α)
 | [],es=>.ok ([],es)
 | n::r,es=>match g n es with
  | .error p=>.error p
  | .ok (i,es')=>match rows g r es' with
   | .error p=>.error p
   | .ok (is,es'')=>.ok (i::is,es'')
def big (l:List Frm):Nat:=l.length+1
abbrev ES:=List Exp × List Stm
def addS (q:ES) (s:Stm):Except Int (Int × ES):=.ok ((q.2.length:Int),(q.1,q.2++[s]))
def brkW (l:List Frm) (n:Nat):ByteArray:=match (frm l n).kids with|[]=>emptyS|m::_=>(frm l m).s
def brkK (l:List Frm) (n:Nat):List Nat:=(frm l n).kids.tail
def stmtOf (s:ByteArray):Nat:=if s=(⟨#[115,101,116]⟩:ByteArray) then 1 else if s=(⟨#[102,111,108,100]⟩:ByteArray) then 2 else if s=(⟨#[101,97,99,104]⟩:ByteArray) then 3 else if s=(⟨#[105,102]⟩:ByteArray) then 4 else if s=(⟨#[119,104,105,108,101]⟩:ByteArray) then 5 else if s=(⟨#[108,111,111,112]⟩:ByteArray) then 6 else if s=(⟨#[98,102,115]⟩:ByteArray) then 7 else 0
def actOf (s:ByteArray):Nat:=if s=(⟨#[112,117,116]⟩:ByteArray) then 1 else if s=(⟨#[112,117,115,104]⟩:ByteArray) then 2 else if s=(⟨#[112,117,108,108]⟩:ByteArray) then 3 else 0
def exprOf (s:ByteArray):Nat:=if s=(⟨#[111,119,110]⟩:ByteArray) then 3 else if s=(⟨#[102,97,114]⟩:ByteArray) then 4 else if s=(⟨#[118,105,97]⟩:ByteArray) then 5 else if s=(⟨#[105,100]⟩:ByteArray) then 6 else if s=(⟨#[102,97,114,105,100]⟩:ByteArray) then 7 else if s=(⟨#[100,101,103]⟩:ByteArray) then 8 else if s=(⟨#[99,111,117,110,116]⟩:ByteArray) then 9 else 0
def stmtSh:Nat→List Nat
 | 1=>[110,101]|2=>[110,111,101,99]|3=>[97]|4=>[101,116,102]|5=>[101,115]|6=>[101,115]|7=>[110,101,115]|_=>[]
def actSh:Nat→List Nat
 | 1=>[110,101,99]|2=>[110,111,119,101,99]|3=>[110,111,119,101]|_=>[]
def exprSh:Nat→List Nat
 | 3=>[110]|4=>[110]|5=>[110]|8=>[119]|_=>[]
def leastP (ps:List Nat):Nat:=(ps.map fun c=>if c=99∨c=115 then 0 else 1).sum
def mostP (ps:List Nat):Nat:=(ps.map fun c=>if c=97 then 6 else if c=115 then 400 else 1).sum
def fitsP (ps:List Nat) (many:Nat):Bool:=decide (leastP ps≤many∧many≤mostP ps)
def nthP (ps:List Nat) (i:Nat):Nat:=ps.getD (min i (ps.length-1)) 0
def looksP (f:Frm) (c:Nat):Bool:=
 if c=111 then redN (opOf f.s) else if c=119 then decide (f.s=(⟨#[111,117,116]⟩:ByteArray)∨f.s=(⟨#[105,110]⟩:ByteArray)) else if c=116∨c=102 then f.k==1 else true
structure Ctn where
 name:ByteArray
 op:Nat
 inn:Bool
 e:Int
 cond:Int
 acts:List Actn
 thn:List Int
 els:List Int
def ctn0:Ctn:=⟨emptyS,0,false, -1, -1,[],[],[]⟩
abbrev RdE (α:Type):=Nat→ES→Except Int (α × ES)
def takeP (l:List Frm) (ex:RdE Int) (ac:RdE Actn) (st:RdE Int) (c:Ctn) (kid part:Nat) (q:ES):Except Int (Ctn × ES):=
 if part=110 then (if nmOk (frm l kid).s=true then .ok ({ c with name:=(frm l kid).s },q) else .error (frm l kid).p)
 else if part=111 then .ok ({ c with op:=opOf (frm l kid).s },q)
 else if part=119 then .ok ({ c with inn:=decide ((frm l kid).s=(⟨#[105,110]⟩:ByteArray)) },q)
 else if part=101 then (match ex kid q with|.error p=>.error p|.ok (i,q')=>.ok ({ c with e:=i },q'))
 else if part=99 then (match ex kid q with|.error p=>.error p|.ok (i,q')=>.ok ({ c with cond:=i },q'))
 else if part=97 then (match ac kid q with|.error p=>.error p|.ok (a,q')=>.ok ({ c with acts:=c.acts++[a] },q'))
 else if part=116 then (match rows st (frm l kid).kids q with|.error p=>.error p|.ok (is,q')=>.ok ({ c with thn:=is },q'))
 else if part=102 then (match rows st (frm l kid).kids q with|.error p=>.error p|.ok (is,q')=>.ok ({ c with els:=is },q'))
 else if part=115 then (match st kid q with|.error p=>.error p|.ok (i,q')=>.ok ({ c with thn:=c.thn++[i] },q'))
 else .ok (c,q)
def takesP (tk:Ctn→Nat→Nat→ES→Except Int (Ctn × ES)) (ps:List Nat):List Nat→Nat→Ctn→ES→Except Int (Ctn × ES)
 | [],_,c,q=>.ok (c,q)
 | kid::r,i,c,q=>match tk c kid (nthP ps i) q with
  | .error p=>.error p
  | .ok (c',q')=>takesP tk ps r (i+1) c' q'
def lookAll (l:List Frm) (ps:List Nat):List Nat→Nat→Bool
 | [],_=>true
 | kid::r,i=>looksP (frm l kid) (nthP ps i) && lookAll l ps r (i+1)
def contentP (l:List Frm) (tk:Ctn→Nat→Nat→ES→Except Int (Ctn × ES)) (ps:List Nat) (n:Nat) (kids:List Nat) (q:ES):Except Int (Ctn × ES):=
 if fitsP ps kids.length=true∧lookAll l ps kids 0=true then takesP tk ps kids 0 ctn0 q else .error (frm l n).p
def noE {α:Type} (l:List Frm):RdE α:=fun n _=>.error (frm l n).p
def addX (q:ES) (x:Exp):Except Int (Int × ES):=.ok ((q.1.length:Int),(q.1++[x],q.2))
def pExpr (l:List Frm):Nat→RdE Int
 | 0,n,_=>.error (frm l n).p
 | f+1,n,q=>
  if (frm l n).k=4 then addX q ⟨1,1,0,emptyS,(frm l n).n,[]⟩
  else if (frm l n).s=(⟨#[116,114,117,101]⟩:ByteArray) then addX q ⟨1,2,0,emptyS,1,[]⟩
  else if (frm l n).s=(⟨#[102,97,108,115,101]⟩:ByteArray) then addX q ⟨1,2,0,emptyS,0,[]⟩
  else if nmOk (frm l n).s=true then addX q ⟨2,0,0,(frm l n).s,0,[]⟩
  else if opOf (brkW l n)≠0 then
   if (brkK l n).length≠arityN (opOf (brkW l n)) then .error (frm l n).p
   else match rows (pExpr l f) (brkK l n) q with
    | .error p=>.error p
    | .ok (is,q')=>addX q' ⟨10,0,opOf (brkW l n),emptyS,0,is⟩
  else if exprOf (brkW l n)=0 then .error (frm l n).p
  else match contentP l (takeP l (noE l) (noE l) (noE l)) (exprSh (exprOf (brkW l n))) n (brkK l n) q with
   | .error p=>.error p
   | .ok (c,q')=>addX q' ⟨exprOf (brkW l n),0,0,c.name,if c.inn=true then 1 else 0,[]⟩
def pE (l:List Frm):RdE Int:=pExpr l (big l)
def pAct (l:List Frm):RdE Actn:=fun n q=>
 if actOf (brkW l n)=0 then .error (frm l n).p
 else match contentP l (takeP l (pE l) (noE l) (noE l)) (actSh (actOf (brkW l n))) n (brkK l n) q with
  | .error p=>.error p
  | .ok (c,q')=>.ok (⟨actOf (brkW l n),c.name,c.op,c.inn,c.e,c.cond⟩,q')
def pStmt (l:List Frm):Nat→RdE Int
 | 0,n,_=>.error (frm l n).p
 | f+1,n,q=>
  if stmtOf (brkW l n)=0 then .error (frm l n).p
  else match contentP l (takeP l (pE l) (pAct l) (pStmt l f)) (stmtSh (stmtOf (brkW l n))) n (brkK l n) q with
   | .error p=>.error p
   | .ok (c,q')=>addS q' ⟨stmtOf (brkW l n),c.name,c.op,c.e,c.cond,c.acts,c.thn,c.els⟩
def pTop (l:List Frm):List Nat→Prg→Except Int Prg
 | [],p=>.ok p
 | n::r,p=>
  match declOf (brkW l n) with
  | some (sd,kd)=>
   if p.main≠[] then .error (frm l n).p
   else match contentP l (takeP l (noE l) (noE l) (noE l)) [110] n (brkK l n) (p.exprs,p.stmts) with
    | .error e=>.error e
    | .ok (c,_)=>pTop l r { p with decls:=p.decls++[⟨c.name,sd,kd⟩] }
  | none=>match pStmt l (big l) n (p.exprs,p.stmts) with
   | .error e=>.error e
   | .ok (i,q)=>pTop l r { p with exprs:=q.1,stmts:=q.2,main:=p.main++[i] }
def prg0:Prg:=⟨[],[],[],[]⟩
structure TS where
 x:Nat
 s:Nat
 f:Nat
 d:Nat
 ts:List Tok
abbrev TM:=TS→Option TS
def opW (o:Nat):ByteArray:=if o=0 then emptyS else opWs.getD (o-1) emptyS
def stmtW:Nat→ByteArray
 | 1=>⟨#[115,101,116]⟩|2=>⟨#[102,111,108,100]⟩|3=>⟨#[101,97,99,104]⟩|4=>⟨#[105,102]⟩|5=>⟨#[119,104,105,108,101]⟩|6=>⟨#[108,111,111,112]⟩|7=>⟨#[98,102,115]⟩|_=>⟨#[]⟩
def actW:Nat→ByteArray
 | 1=>⟨#[112,117,116]⟩|2=>⟨#[112,117,115,104]⟩|3=>⟨#[112,117,108,108]⟩|_=>⟨#[]⟩
def exprW:Nat→ByteArray
 | 3=>⟨#[111,119,110]⟩|4=>⟨#[102,97,114]⟩|5=>⟨#[118,105,97]⟩|6=>⟨#[105,100]⟩|7=>⟨#[102,97,114,105,100]⟩|8=>⟨#[100,101,103]⟩|9=>⟨#[99,111,117,110,116]⟩|_=>⟨#[]⟩
def declW (sd kd:Nat):ByteArray:=
 if sd=1∧kd=1 then ⟨#[105,110,116]⟩ else if sd=1∧kd=2 then ⟨#[98,111,111,108]⟩ else if sd=2∧kd=1 then ⟨#[110,105,110,116]⟩ else if sd=2∧kd=2 then ⟨#[110,98,111,111,108]⟩ else if sd=3∧kd=1 then ⟨#[101,105,110,116]⟩ else if sd=3∧kd=2 then ⟨#[101,98,111,111,108]⟩ else ⟨#[]⟩
def declS (sd kd:Nat):List Nat:=if declW sd kd=(⟨#[]⟩:ByteArray) then [] else [110]
def wayW (b:Bool):ByteArray:=if b=true then ⟨#[105,110]⟩ else ⟨#[111,117,116]⟩
def tForm (t:Tok):TM:=fun σ=>if σ.f+1≤400 then some { σ with f:=σ.f+1,ts:=σ.ts++[t] } else none
def tWord (s:ByteArray):TM:=tForm ⟨3,s,0,0⟩
def tName (s:ByteArray):TM:=fun σ=>if nmOk s=true then tWord s σ else none
def tOpen:TM:=fun σ=>if σ.d+1≤12 then tForm ⟨1,emptyS,0,0⟩ { σ with d:=σ.d+1 } else none
def tClose (σ:TS):TS:={ σ with d:=σ.d-1,ts:=σ.ts++[⟨2,emptyS,0,0⟩] }
def tBrk (g:TM):TM:=fun σ=>match tOpen σ with
 | none=>none
 | some σ1=>match g σ1 with
  | none=>none
  | some σ2=>some (tClose σ2)
def tAll {α:Type} (g:α→TM):List α→TM
 | [],σ=>some σ
 | a::r,σ=>match g a σ with
  | none=>none
  | some σ1=>tAll g r σ1
def tSeq (g h:TM):TM:=fun σ=>match g σ with
 | none=>none
 | some σ1=>h σ1
def bareP (ps:List Nat) (c:Ctn):Bool:=
 (decide (c.name=(⟨#[]⟩:ByteArray)) || ps.contains 110) && (c.op==0 || ps.contains 111) && (!c.inn || ps.contains 119) &&
  (c.e == -1 || ps.contains 101) && (c.cond == -1 || ps.contains 99) && (c.acts.length==0 || ps.contains 97) &&
  (c.thn.length==0 || ps.contains 116 || ps.contains 115) && (c.els.length==0 || ps.contains 102)
def tShaped (wd:ByteArray) (ps:List Nat) (c:Ctn) (part:Nat→TM):TM:=fun σ=>
 if wd≠(⟨#[]⟩:ByteArray)∧bareP ps c=true then tBrk (tSeq (tWord wd) (tAll part ps)) σ else none
def tPart (ex:Int→TM) (ac:Actn→TM) (st:Int→TM) (c:Ctn) (part:Nat):TM:=fun σ=>
 if part=110 then tName c.name σ
 else if part=111 then (if redN c.op=true then tWord (opW c.op) σ else none)
 else if part=119 then tWord (wayW c.inn) σ
 else if part=101 then ex c.e σ
 else if part=99 then (if c.cond = -1 then some σ else ex c.cond σ)
 else if part=97 then (if 1≤c.acts.length∧c.acts.length≤6 then tAll ac c.acts σ else none)
 else if part=116 then tBrk (tAll st c.thn) σ
 else if part=102 then tBrk (tAll st c.els) σ
 else if part=115 then tAll st c.thn σ
 else some σ
def noT {α:Type}:α→TM:=fun _ _=>none
def tLit (of:Nat) (n:Int):TM:=fun σ=>
 if of=1 then tForm ⟨4,emptyS,n,0⟩ σ
 else if of=2∧n=1 then tWord ⟨#[116,114,117,101]⟩ σ
 else if of=2∧n=0 then tWord ⟨#[102,97,108,115,101]⟩ σ
 else none
def exp0:Exp:=⟨0,0,0,emptyS,0,[]⟩
def ctnX (e:Exp):Ctn:={ ctn0 with name:=e.name,inn:=decide (e.num=1) }
def tCall (ex:Int→TM) (o:Nat) (kids:List Int):TM:=fun σ=>
 if 0<arityN o∧kids.length=arityN o then tBrk (tSeq (tWord (opW o)) (tAll ex kids)) σ else none
def plainX (e:Exp):Exp:=
 if e.k=1 then ⟨1,e.of,0,emptyS,e.num,[]⟩ else if e.k=2 then ⟨2,0,0,e.name,0,[]⟩ else if e.k=10 then ⟨10,0,e.op,emptyS,0,e.kids⟩ else ⟨e.k,0,0,e.name,if e.num=1 then 1 else 0,[]⟩
def sameX (a b:Exp):Bool:=a.k==b.k && a.of==b.of && a.op==b.op && decide (a.name=b.name) && a.num==b.num && decide (a.kids=b.kids)
def tBody (ex:Int→TM) (e:Exp):TM:=
 if e.k=1 then tLit e.of e.num
 else if e.k=2 then fun σ=>if e.name≠(⟨#[116,114,117,101]⟩:ByteArray)∧e.name≠(⟨#[102,97,108,115,101]⟩:ByteArray) then tName e.name σ else none
 else if e.k=10 then tCall ex e.op e.kids
 else tShaped (exprW e.k) (exprSh e.k) (ctnX e) (tPart noT noT noT (ctnX e))
def tExpr (xs:List Exp):Nat→Int→TM
 | 0,_,_=>none
 | f+1,a,σ=>
  if 0≤a∧a<xs.length then
   match tBody (tExpr xs f) (xs.getD a.toNat exp0) σ with
   | none=>none
   | some σ1=>if sameX (xs.getD a.toNat exp0) (plainX (xs.getD a.toNat exp0))=true∧a=σ1.x then some { σ1 with x:=σ1.x+1 } else none
  else none
def ctnA (a:Actn):Ctn:=⟨a.name,a.op,a.inn,a.e,a.cond,[],[],[]⟩
def tAct (ex:Int→TM) (a:Actn):TM:=tShaped (actW a.k) (actSh a.k) (ctnA a) (tPart ex noT noT (ctnA a))
def ctnS (s:Stm):Ctn:=⟨s.name,s.op,false,s.e,s.cond,s.acts,s.thn,s.els⟩
def stm0:Stm:=⟨0,emptyS,0,0,0,[],[],[]⟩
def tStmt (ex:Int→TM) (ss:List Stm):Nat→Int→TM
 | 0,_,_=>none
 | f+1,a,σ=>
  if 0≤a∧a<ss.length then
   match tShaped (stmtW (ss.getD a.toNat stm0).k) (stmtSh (ss.getD a.toNat stm0).k) (ctnS (ss.getD a.toNat stm0)) (tPart ex (tAct ex) (tStmt ex ss f) (ctnS (ss.getD a.toNat stm0))) σ with
   | none=>none
   | some σ1=>if a=σ1.s then some { σ1 with s:=σ1.s+1 } else none
  else none
def ctnD (d:Dcl):Ctn:={ ctn0 with name:=d.name }
def tDecl (d:Dcl):TM:=tShaped (declW d.side d.kind) (declS d.side d.kind) (ctnD d) (tPart noT noT noT (ctnD d))
def tE (P:Prg):Int→TM:=tExpr P.exprs 401
def tProg (P:Prg):TM:=fun σ=>
 if P.decls.length≤24 then
  match tAll tDecl P.decls σ with
  | none=>none
  | some σ1=>match tAll (tStmt (tE P) P.stmts 401) P.main σ1 with
   | none=>none
   | some σ2=>if σ2.x=P.exprs.length∧σ2.s=P.stmts.length then some σ2 else none
 else none
def ts0:TS:=⟨0,0,0,0,[]⟩
def soundP (P:Prg):Bool:=(tProg P ts0).isSome
def Kp (r:TM):Prop:=∀ σ σ',r σ=some σ'→σ'.d=σ.d∧σ.f≤σ'.f∧(σ.f≤400→σ'.f≤400)
theorem kp_form (t:Tok):Kp (tForm t):=by
 intro σ σ' h
 unfold tForm at h
 split at h
 ·cases h;exact ⟨rfl,by simp,fun _=>by assumption⟩
 ·cases h
theorem zcW (s:ByteArray):Kp (tWord s):=kp_form _
theorem kp_name (s:ByteArray):Kp (tName s):=by
 intro σ σ' h
 unfold tName at h
 split at h
 ·exact zcW _ _ _ h
 ·cases h
theorem kp_seq {g h:TM} (hg:Kp g) (hh:Kp h):Kp (tSeq g h):=by
 intro σ σ' e
 unfold tSeq at e
 split at e
 ·cases e
 ·rename_i σ1 h1
  obtain ⟨a1,a2,a3⟩:=hg _ _ h1
  obtain ⟨b1,b2,b3⟩:=hh _ _ e
  exact ⟨b1.trans a1,Nat.le_trans a2 b2,fun x=>b3 (a3 x)⟩
theorem kp_all {α:Type} {g:α→TM} (hg:∀ a,Kp (g a)):∀ l:List α,Kp (tAll g l)
 | []=>by intro σ σ' h;cases h;exact ⟨rfl,Nat.le_refl _,fun x=>x⟩
 | a::r=>by
  intro σ σ' h
  unfold tAll at h
  split at h
  ·cases h
  ·rename_i σ1 h1
   obtain ⟨a1,a2,a3⟩:=hg a _ _ h1
   obtain ⟨b1,b2,b3⟩:=kp_all hg r _ _ h
   exact ⟨b1.trans a1,Nat.le_trans a2 b2,fun x=>b3 (a3 x)⟩
theorem kp_open {σ σ':TS} (h:tOpen σ=some σ'):σ'.d=σ.d+1∧σ'.f=σ.f+1∧σ'.f≤400∧σ.d+1≤12∧σ'.ts=σ.ts++[⟨1,emptyS,0,0⟩]∧σ'.x=σ.x∧σ'.s=σ.s:=by
 unfold tOpen at h
 split at h
 ·unfold tForm at h
  split at h
  ·cases h;exact ⟨rfl,rfl,by assumption,by assumption,rfl,rfl,rfl⟩
  ·cases h
 ·cases h
theorem kp_brk {g:TM} (hg:Kp g):Kp (tBrk g):=by
 intro σ σ' e
 unfold tBrk at e
 split at e
 ·cases e
 ·rename_i σ1 h1
  split at e
  ·cases e
  ·rename_i σ2 h2
   obtain ⟨a1,a2,a3,_⟩:=kp_open h1
   obtain ⟨b1,b2,b3⟩:=hg _ _ h2
   cases e
   refine ⟨?_,?_,fun _=>b3 a3⟩
   ·show σ2.d-1=σ.d
    omega
   ·show σ.f≤σ2.f
    omega
theorem kp_none:Kp (fun _=>none):=by intro σ σ' h;cases h
theorem zcG {c:Prop} [Decidable c] {g h:TM} (hg:Kp g) (hh:Kp h):Kp (fun σ=>if c then g σ else h σ):=by
 intro σ σ' e
 simp only at e
 split at e
 ·exact hg _ _ e
 ·exact hh _ _ e
theorem kp_ite2 {c:Prop} [Decidable c] {g h:TM} (hg:Kp g) (hh:Kp h):Kp (if c then g else h):=by
 split
 ·exact hg
 ·exact hh
theorem kp_id:Kp some:=by intro σ σ' h;cases h;exact ⟨rfl,Nat.le_refl _,fun x=>x⟩
theorem kp_shaped {wd:ByteArray} {ps:List Nat} {c:Ctn} {part:Nat→TM} (h:∀ a,Kp (part a)):Kp (tShaped wd ps c part):=
 zcG (kp_brk (kp_seq (zcW _) (kp_all h _))) kp_none
theorem kp_part {ex:Int→TM} {ac:Actn→TM} {st:Int→TM} {c:Ctn} (h1:∀ a,Kp (ex a)) (h2:∀ a,Kp (ac a)) (h3:∀ a,Kp (st a)) (part:Nat):Kp (tPart ex ac st c part):=
 zcG (kp_name _) (zcG (zcG (zcW _) kp_none) (zcG (zcW _) (zcG (h1 _) (zcG (zcG kp_id (h1 _)) (zcG (zcG (kp_all h2 _) kp_none) (zcG (kp_brk (kp_all h3 _)) (zcG (kp_brk (kp_all h3 _)) (zcG (kp_all h3 _) kp_id))))))))
theorem zdK {α:Type} (a:α):Kp (noT a):=kp_none
theorem kp_lit (of:Nat) (n:Int):Kp (tLit of n):=zcG (kp_form _) (zcG (zcW _) (zcG (zcW _) kp_none))
theorem kp_call {ex:Int→TM} (h1:∀ a,Kp (ex a)) (o:Nat) (kids:List Int):Kp (tCall ex o kids):=zcG (kp_brk (kp_seq (zcW _) (kp_all h1 _))) kp_none
theorem kp_body {ex:Int→TM} (h1:∀ a,Kp (ex a)) (e:Exp):Kp (tBody ex e):=
 kp_ite2 (kp_lit _ _) (kp_ite2 (zcG (kp_name _) kp_none) (kp_ite2 (kp_call h1 _ _) (kp_shaped (kp_part zdK zdK zdK))))
theorem kp_expr (xs:List Exp):∀ (f:Nat) (a:Int),Kp (tExpr xs f a)
 | 0,a=>by intro σ σ' h;cases h
 | f+1,a=>by
  intro σ σ' h
  unfold tExpr at h
  split at h
  ·split at h
   ·cases h
   ·rename_i σ1 h1
    split at h
    ·cases h
     have:=kp_body (kp_expr xs f) _ _ _ h1
     exact this
    ·cases h
  ·cases h
theorem kp_act {ex:Int→TM} (h1:∀ a,Kp (ex a)) (a:Actn):Kp (tAct ex a):=kp_shaped (kp_part h1 zdK zdK)
theorem kp_stmt {ex:Int→TM} (h1:∀ a,Kp (ex a)) (ss:List Stm):∀ (f:Nat) (a:Int),Kp (tStmt ex ss f a)
 | 0,a=>by intro σ σ' h;cases h
 | f+1,a=>by
  intro σ σ' h
  unfold tStmt at h
  split at h
  ·split at h
   ·cases h
   ·rename_i σ1 h2
    split at h
    ·cases h
     have:=kp_shaped (kp_part h1 (kp_act h1) (kp_stmt h1 ss f)) _ _ h2
     exact this
    ·cases h
  ·cases h
end Go.Proofs.YtmekkhfohmfjkaaGreatDoor
