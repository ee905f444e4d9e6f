/-
  Part 5 of the proof: TlBare.
-/
import Derived.Test.YtfljimpgnlfipaaGreatDoorTE04
namespace Go.Proofs.YtfljimpgnlfipaaGreatDoor
open Go.RowKit Go.Deep Go.MapKept
def bo0:Oper:=⟨some 5,.fieldAddr 226 (.tmp 3) 0,0, "tell.go:132",#[],none⟩
def bo1:Oper:=⟨some 6,.load 9 (.tmp 5),9, "tell.go:132",#[⟨0,.data⟩],none⟩
def bo2:Oper:=⟨some 7,.binOp .eql 9 (.tmp 6) (.const (.string ⟨#[]⟩)) 9,4, "tell.go:132",#[⟨1,.data⟩],none⟩
def bo3:Oper:=⟨some 8,.move (.tmp 7),4, "tell.go:132",#[⟨2,.data⟩],none⟩
def bo4:Oper:=⟨some 9,.load 210 (.tmp 2),210, "tell.go:132",#[⟨3,.guard⟩],some (3,false)⟩
def bo5:Oper:=⟨some 10,.call ⟨.value (.func 208),#[.tmp 9,.const (.int .i32 110)],#[210,21]⟩,4, "tell.go:132",#[⟨4,.data⟩,⟨3,.chain⟩,⟨3,.guard⟩],some (3,false)⟩
def bo6:Oper:=⟨some 11,.pick (.tmp 8) (.const (.bool true)) (.tmp 10),4, "tell.go:132",#[⟨3,.data⟩,⟨5,.data⟩],none⟩
def bo7:Oper:=⟨some 12,.move (.tmp 11),4, "tell.go:132",#[⟨6,.data⟩,⟨5,.chain⟩],none⟩
def bo8:Oper:=⟨some 13,.fieldAddr 226 (.tmp 3) 1,0, "tell.go:132",#[⟨7,.guard⟩],some (7,true)⟩
def bo9:Oper:=⟨some 14,.load 47 (.tmp 13),47, "tell.go:132",#[⟨8,.data⟩,⟨7,.guard⟩],some (7,true)⟩
def bo10:Oper:=⟨some 15,.binOp .eql 47 (.tmp 14) (.const (.int .u8 0)) 47,4, "tell.go:132",#[⟨9,.data⟩,⟨7,.guard⟩],some (7,true)⟩
def bo11:Oper:=⟨some 16,.move (.tmp 15),4, "tell.go:132",#[⟨10,.data⟩,⟨7,.chain⟩,⟨7,.guard⟩],some (7,true)⟩
def bo12:Oper:=⟨some 17,.load 210 (.tmp 2),210, "tell.go:132",#[⟨11,.guard⟩],some (11,false)⟩
def bo13:Oper:=⟨some 18,.call ⟨.value (.func 208),#[.tmp 17,.const (.int .i32 111)],#[210,21]⟩,4, "tell.go:132",#[⟨12,.data⟩,⟨11,.chain⟩,⟨11,.guard⟩],some (11,false)⟩
def bo14:Oper:=⟨some 19,.pick (.tmp 16) (.const (.bool true)) (.tmp 18),4, "tell.go:132",#[⟨11,.data⟩,⟨13,.data⟩,⟨7,.guard⟩],some (7,true)⟩
def bo15:Oper:=⟨some 20,.pick (.tmp 12) (.tmp 19) (.const (.bool false)),4, "tell.go:132",#[⟨7,.data⟩,⟨14,.data⟩],none⟩
def bo16:Oper:=⟨some 21,.move (.tmp 20),4, "tell.go:132",#[⟨15,.data⟩,⟨13,.chain⟩],none⟩
def bo17:Oper:=⟨some 22,.fieldAddr 226 (.tmp 3) 2,0, "tell.go:132",#[⟨16,.guard⟩],some (16,true)⟩
def bo18:Oper:=⟨some 23,.load 4 (.tmp 22),4, "tell.go:132",#[⟨17,.data⟩,⟨16,.guard⟩],some (16,true)⟩
def bo19:Oper:=⟨some 24,.unOp .not 4 (.tmp 23),4, "tell.go:132",#[⟨18,.data⟩,⟨16,.guard⟩],some (16,true)⟩
def bo20:Oper:=⟨some 25,.move (.tmp 24),4, "tell.go:132",#[⟨19,.data⟩,⟨16,.chain⟩,⟨16,.guard⟩],some (16,true)⟩
def bo21:Oper:=⟨some 26,.load 210 (.tmp 2),210, "tell.go:132",#[⟨20,.guard⟩],some (20,false)⟩
def bo22:Oper:=⟨some 27,.call ⟨.value (.func 208),#[.tmp 26,.const (.int .i32 119)],#[210,21]⟩,4, "tell.go:132",#[⟨21,.data⟩,⟨20,.chain⟩,⟨20,.guard⟩],some (20,false)⟩
def bo23:Oper:=⟨some 28,.pick (.tmp 25) (.const (.bool true)) (.tmp 27),4, "tell.go:132",#[⟨20,.data⟩,⟨22,.data⟩,⟨16,.guard⟩],some (16,true)⟩
def bo24:Oper:=⟨some 29,.pick (.tmp 21) (.tmp 28) (.const (.bool false)),4, "tell.go:132",#[⟨16,.data⟩,⟨23,.data⟩],none⟩
def bo25:Oper:=⟨some 30,.move (.tmp 29),4, "tell.go:132",#[⟨24,.data⟩,⟨22,.chain⟩],none⟩
def bo26:Oper:=⟨some 31,.fieldAddr 226 (.tmp 3) 3,0, "tell.go:132",#[⟨25,.guard⟩],some (25,true)⟩
def bo27:Oper:=⟨some 32,.load 3 (.tmp 31),3, "tell.go:132",#[⟨26,.data⟩,⟨25,.guard⟩],some (25,true)⟩
def bo28:Oper:=⟨some 33,.binOp .eql 3 (.tmp 32) (.const (.int .i64 (-1))) 3,4, "tell.go:132",#[⟨27,.data⟩,⟨25,.guard⟩],some (25,true)⟩
def bo29:Oper:=⟨some 34,.move (.tmp 33),4, "tell.go:132",#[⟨28,.data⟩,⟨25,.chain⟩,⟨25,.guard⟩],some (25,true)⟩
def bo30:Oper:=⟨some 35,.load 210 (.tmp 2),210, "tell.go:132",#[⟨29,.guard⟩],some (29,false)⟩
def bo31:Oper:=⟨some 36,.call ⟨.value (.func 208),#[.tmp 35,.const (.int .i32 101)],#[210,21]⟩,4, "tell.go:133",#[⟨30,.data⟩,⟨29,.chain⟩,⟨29,.guard⟩],some (29,false)⟩
def bo32:Oper:=⟨some 37,.pick (.tmp 34) (.const (.bool true)) (.tmp 36),4, "tell.go:132",#[⟨29,.data⟩,⟨31,.data⟩,⟨25,.guard⟩],some (25,true)⟩
def bo33:Oper:=⟨some 38,.pick (.tmp 30) (.tmp 37) (.const (.bool false)),4, "tell.go:132",#[⟨25,.data⟩,⟨32,.data⟩],none⟩
def bo34:Oper:=⟨some 39,.move (.tmp 38),4, "tell.go:132",#[⟨33,.data⟩,⟨31,.chain⟩],none⟩
def bo35:Oper:=⟨some 40,.fieldAddr 226 (.tmp 3) 4,0, "tell.go:132",#[⟨34,.guard⟩],some (34,true)⟩
def bo36:Oper:=⟨some 41,.load 3 (.tmp 40),3, "tell.go:132",#[⟨35,.data⟩,⟨34,.guard⟩],some (34,true)⟩
def bo37:Oper:=⟨some 42,.binOp .eql 3 (.tmp 41) (.const (.int .i64 (-1))) 3,4, "tell.go:132",#[⟨36,.data⟩,⟨34,.guard⟩],some (34,true)⟩
def bo38:Oper:=⟨some 43,.move (.tmp 42),4, "tell.go:132",#[⟨37,.data⟩,⟨34,.chain⟩,⟨34,.guard⟩],some (34,true)⟩
def bo39:Oper:=⟨some 44,.load 210 (.tmp 2),210, "tell.go:132",#[⟨38,.guard⟩],some (38,false)⟩
def bo40:Oper:=⟨some 45,.call ⟨.value (.func 208),#[.tmp 44,.const (.int .i32 99)],#[210,21]⟩,4, "tell.go:133",#[⟨39,.data⟩,⟨38,.chain⟩,⟨38,.guard⟩],some (38,false)⟩
def bo41:Oper:=⟨some 46,.pick (.tmp 43) (.const (.bool true)) (.tmp 45),4, "tell.go:132",#[⟨38,.data⟩,⟨40,.data⟩,⟨34,.guard⟩],some (34,true)⟩
def bo42:Oper:=⟨some 47,.pick (.tmp 39) (.tmp 46) (.const (.bool false)),4, "tell.go:132",#[⟨34,.data⟩,⟨41,.data⟩],none⟩
def bo43:Oper:=⟨some 48,.move (.tmp 47),4, "tell.go:132",#[⟨42,.data⟩,⟨40,.chain⟩],none⟩
def bo44:Oper:=⟨some 49,.fieldAddr 226 (.tmp 3) 5,0, "tell.go:132",#[⟨43,.guard⟩],some (43,true)⟩
def bo45:Oper:=⟨some 50,.load 42 (.tmp 49),42, "tell.go:132",#[⟨44,.data⟩,⟨43,.guard⟩],some (43,true)⟩
def bo46:Oper:=⟨some 51,.call ⟨.builtin .len,#[.tmp 50],#[42]⟩,3, "tell.go:132",#[⟨45,.data⟩,⟨43,.guard⟩],some (43,true)⟩
def bo47:Oper:=⟨some 52,.binOp .eql 3 (.tmp 51) (.const (.int .i64 0)) 3,4, "tell.go:132",#[⟨46,.data⟩,⟨43,.guard⟩],some (43,true)⟩
def bo48:Oper:=⟨some 53,.move (.tmp 52),4, "tell.go:132",#[⟨47,.data⟩,⟨43,.chain⟩,⟨43,.guard⟩],some (43,true)⟩
def bo49:Oper:=⟨some 54,.load 210 (.tmp 2),210, "tell.go:132",#[⟨48,.guard⟩],some (48,false)⟩
def bo50:Oper:=⟨some 55,.call ⟨.value (.func 208),#[.tmp 54,.const (.int .i32 97)],#[210,21]⟩,4, "tell.go:133",#[⟨49,.data⟩,⟨48,.chain⟩,⟨48,.guard⟩],some (48,false)⟩
def bo51:Oper:=⟨some 56,.pick (.tmp 53) (.const (.bool true)) (.tmp 55),4, "tell.go:132",#[⟨48,.data⟩,⟨50,.data⟩,⟨43,.guard⟩],some (43,true)⟩
def bo52:Oper:=⟨some 57,.pick (.tmp 48) (.tmp 56) (.const (.bool false)),4, "tell.go:132",#[⟨43,.data⟩,⟨51,.data⟩],none⟩
def bo53:Oper:=⟨some 58,.move (.tmp 57),4, "tell.go:132",#[⟨52,.data⟩,⟨50,.chain⟩],none⟩
def bo54:Oper:=⟨some 59,.fieldAddr 226 (.tmp 3) 6,0, "tell.go:132",#[⟨53,.guard⟩],some (53,true)⟩
def bo55:Oper:=⟨some 60,.load 25 (.tmp 59),25, "tell.go:132",#[⟨54,.data⟩,⟨53,.guard⟩],some (53,true)⟩
def bo56:Oper:=⟨some 61,.call ⟨.builtin .len,#[.tmp 60],#[25]⟩,3, "tell.go:132",#[⟨55,.data⟩,⟨53,.guard⟩],some (53,true)⟩
def bo57:Oper:=⟨some 62,.binOp .eql 3 (.tmp 61) (.const (.int .i64 0)) 3,4, "tell.go:132",#[⟨56,.data⟩,⟨53,.guard⟩],some (53,true)⟩
def bo58:Oper:=⟨some 63,.move (.tmp 62),4, "tell.go:132",#[⟨57,.data⟩,⟨53,.chain⟩,⟨53,.guard⟩],some (53,true)⟩
def bo59:Oper:=⟨some 64,.load 210 (.tmp 2),210, "tell.go:132",#[⟨58,.guard⟩],some (58,false)⟩
def bo60:Oper:=⟨some 65,.call ⟨.value (.func 208),#[.tmp 64,.const (.int .i32 116)],#[210,21]⟩,4, "tell.go:134",#[⟨59,.data⟩,⟨58,.chain⟩,⟨58,.guard⟩],some (58,false)⟩
def bo61:Oper:=⟨some 66,.pick (.tmp 63) (.const (.bool true)) (.tmp 65),4, "tell.go:132",#[⟨58,.data⟩,⟨60,.data⟩,⟨53,.guard⟩],some (53,true)⟩
def bo62:Oper:=⟨some 67,.move (.tmp 66),4, "tell.go:132",#[⟨61,.data⟩,⟨60,.chain⟩,⟨53,.guard⟩],some (53,true)⟩
def bo63:Oper:=⟨some 68,.load 210 (.tmp 2),210, "tell.go:132",#[⟨62,.guard⟩],some (62,false)⟩
def bo64:Oper:=⟨some 69,.call ⟨.value (.func 208),#[.tmp 68,.const (.int .i32 115)],#[210,21]⟩,4, "tell.go:134",#[⟨63,.data⟩,⟨62,.chain⟩,⟨62,.guard⟩],some (62,false)⟩
def bo65:Oper:=⟨some 70,.pick (.tmp 67) (.const (.bool true)) (.tmp 69),4, "tell.go:132",#[⟨62,.data⟩,⟨64,.data⟩,⟨53,.guard⟩],some (53,true)⟩
def bo66:Oper:=⟨some 71,.pick (.tmp 58) (.tmp 70) (.const (.bool false)),4, "tell.go:132",#[⟨53,.data⟩,⟨65,.data⟩],none⟩
def bo67:Oper:=⟨some 72,.move (.tmp 71),4, "tell.go:132",#[⟨66,.data⟩,⟨64,.chain⟩],none⟩
def bo68:Oper:=⟨some 73,.fieldAddr 226 (.tmp 3) 7,0, "tell.go:132",#[⟨67,.guard⟩],some (67,true)⟩
def bo69:Oper:=⟨some 74,.load 25 (.tmp 73),25, "tell.go:132",#[⟨68,.data⟩,⟨67,.guard⟩],some (67,true)⟩
def bo70:Oper:=⟨some 75,.call ⟨.builtin .len,#[.tmp 74],#[25]⟩,3, "tell.go:132",#[⟨69,.data⟩,⟨67,.guard⟩],some (67,true)⟩
def bo71:Oper:=⟨some 76,.binOp .eql 3 (.tmp 75) (.const (.int .i64 0)) 3,4, "tell.go:132",#[⟨70,.data⟩,⟨67,.guard⟩],some (67,true)⟩
def bo72:Oper:=⟨some 77,.move (.tmp 76),4, "tell.go:132",#[⟨71,.data⟩,⟨67,.chain⟩,⟨67,.guard⟩],some (67,true)⟩
def bo73:Oper:=⟨some 78,.load 210 (.tmp 2),210, "tell.go:132",#[⟨72,.guard⟩],some (72,false)⟩
def bo74:Oper:=⟨some 79,.call ⟨.value (.func 208),#[.tmp 78,.const (.int .i32 102)],#[210,21]⟩,4, "tell.go:134",#[⟨73,.data⟩,⟨72,.chain⟩,⟨72,.guard⟩],some (72,false)⟩
def bo75:Oper:=⟨some 80,.pick (.tmp 77) (.const (.bool true)) (.tmp 79),4, "tell.go:132",#[⟨72,.data⟩,⟨74,.data⟩,⟨67,.guard⟩],some (67,true)⟩
def bo76:Oper:=⟨some 81,.pick (.tmp 72) (.tmp 80) (.const (.bool false)),4, "tell.go:132",#[⟨67,.data⟩,⟨75,.data⟩],none⟩
def bo77:Oper:=⟨some 4,.assign (.tmp 81),4, "tell.go:132",([⟨76,.data⟩,⟨74,.chain⟩,⟨0,.phase⟩,⟨1,.phase⟩,⟨2,.phase⟩,⟨3,.phase⟩,⟨4,.phase⟩,⟨5,.phase⟩,⟨6,.phase⟩,⟨7,.phase⟩,⟨8,.phase⟩,⟨9,.phase⟩,⟨10,.phase⟩,⟨11,.phase⟩,⟨12,.phase⟩,⟨13,.phase⟩,⟨14,.phase⟩,⟨15,.phase⟩,⟨16,.phase⟩,⟨17,.phase⟩,⟨18,.phase⟩,⟨19,.phase⟩,⟨20,.phase⟩,⟨21,.phase⟩,⟨22,.phase⟩,⟨23,.phase⟩,⟨24,.phase⟩,⟨25,.phase⟩,⟨26,.phase⟩,⟨27,.phase⟩,⟨28,.phase⟩,⟨29,.phase⟩,⟨30,.phase⟩,⟨31,.phase⟩,⟨32,.phase⟩,⟨33,.phase⟩,⟨34,.phase⟩,⟨35,.phase⟩,⟨36,.phase⟩].append [⟨37,.phase⟩,⟨38,.phase⟩,⟨39,.phase⟩,⟨40,.phase⟩,⟨41,.phase⟩,⟨42,.phase⟩,⟨43,.phase⟩,⟨44,.phase⟩,⟨45,.phase⟩,⟨46,.phase⟩,⟨47,.phase⟩,⟨48,.phase⟩,⟨49,.phase⟩,⟨50,.phase⟩,⟨51,.phase⟩,⟨52,.phase⟩,⟨53,.phase⟩,⟨54,.phase⟩,⟨55,.phase⟩,⟨56,.phase⟩,⟨57,.phase⟩,⟨58,.phase⟩,⟨59,.phase⟩,⟨60,.phase⟩,⟨61,.phase⟩,⟨62,.phase⟩,⟨63,.phase⟩,⟨64,.phase⟩,⟨65,.phase⟩,⟨66,.phase⟩,⟨67,.phase⟩,⟨68,.phase⟩,⟨69,.phase⟩,⟨70,.phase⟩,⟨71,.phase⟩,⟨72,.phase⟩,⟨73,.phase⟩,⟨74,.phase⟩,⟨75,.phase⟩,⟨76,.phase⟩]).toArray,none⟩
def bareOps:Array Oper:=#[bo0,bo1,bo2,bo3,bo4,bo5,bo6,bo7,bo8,bo9,bo10,bo11,bo12,bo13,bo14,bo15,bo16,bo17,bo18,bo19,bo20,bo21,bo22,bo23,bo24,bo25,bo26,bo27,bo28,bo29,bo30,bo31,bo32,bo33,bo34,bo35,bo36,bo37,bo38,bo39,bo40,bo41,bo42,bo43,bo44,bo45,bo46,bo47,bo48,bo49,bo50,bo51,bo52,bo53,bo54,bo55,bo56,bo57,bo58,bo59,bo60,bo61,bo62,bo63,bo64,bo65,bo66,bo67,bo68,bo69,bo70,bo71,bo72,bo73,bo74,bo75,bo76,bo77]
theorem bd3:(bareOps[3]?).bind (·.dst)=some 8:=by kernel_rfl
theorem bd7:(bareOps[7]?).bind (·.dst)=some 12:=by kernel_rfl
theorem bd11:(bareOps[11]?).bind (·.dst)=some 16:=by kernel_rfl
theorem bd16:(bareOps[16]?).bind (·.dst)=some 21:=by kernel_rfl
theorem bd20:(bareOps[20]?).bind (·.dst)=some 25:=by kernel_rfl
theorem bd25:(bareOps[25]?).bind (·.dst)=some 30:=by kernel_rfl
theorem bd29:(bareOps[29]?).bind (·.dst)=some 34:=by kernel_rfl
theorem bd34:(bareOps[34]?).bind (·.dst)=some 39:=by kernel_rfl
theorem bd38:(bareOps[38]?).bind (·.dst)=some 43:=by kernel_rfl
theorem bd43:(bareOps[43]?).bind (·.dst)=some 48:=by kernel_rfl
theorem bd48:(bareOps[48]?).bind (·.dst)=some 53:=by kernel_rfl
theorem bd53:(bareOps[53]?).bind (·.dst)=some 58:=by kernel_rfl
theorem bd58:(bareOps[58]?).bind (·.dst)=some 63:=by kernel_rfl
theorem bd62:(bareOps[62]?).bind (·.dst)=some 67:=by kernel_rfl
theorem bd67:(bareOps[67]?).bind (·.dst)=some 72:=by kernel_rfl
theorem bd72:(bareOps[72]?).bind (·.dst)=some 77:=by kernel_rfl
structure KS (a:Act) (n:Nat) (L:List (Nat × Value)):Prop where
 size:a.tmps.size=n
 df:a.defers=[]
 all:∀ k v,L.lookup k=some v→a.tmps[k]?=some v
theorem KS.g {a:Act} {n:Nat} {L:List (Nat × Value)} (h:KS a n L) (k:Nat) {v:Value} (e:L.lookup k=some v):a.tmps[k]?=some v:=h.all k v e
def okS (n d:Nat) (L:List (Nat × Value)):Bool:=decide (d<n) && L.all fun p => !(p.1==d)
theorem KS.put {a a1:Act} {n d:Nat} {v:Value} {L:List (Nat × Value)} (h:KS a n L) (p:Put a a1 n d v) (hn:okS n d L=true):KS a1 n ((d,v)::L):=by
 simp only [okS,Bool.and_eq_true,decide_eq_true_eq] at hn;refine ⟨p.size,p.df.trans h.df,fun k u e => ?_⟩;rw [List.lookup_cons] at e;by_cases hk:k=d
 ·subst hk;simp at e;subst e;exact p.at_
 ·rw [show (k==d)=false by simpa using hk] at e;exact (p.far k (fun x=>hk x.symm)).trans (h.all k u e)
theorem KS.lt {n d:Nat} {L:List (Nat × Value)} (hn:okS n d L=true):d<n:=by
 simp only [okS,Bool.and_eq_true,decide_eq_true_eq] at hn;exact hn.1
theorem ks3 {a:Act} {n i j k:Nat} {u v x:Value} (h1:a.tmps.size=n) (h2:a.defers=[]) (hi:a.tmps[i]?=some u) (hj:a.tmps[j]?=some v) (hk:a.tmps[k]?=some x):KS a n [(i,u),(j,v),(k,x)]:=by
 refine ⟨h1,h2,fun m y e => ?_⟩;simp only [List.lookup] at e;split at e
 ·rename_i hm;cases e;rw [beq_iff_eq.1 hm];exact hi
 ·split at e
  ·rename_i hm;cases e;rw [beq_iff_eq.1 hm];exact hj
  ·split at e
   ·rename_i hm;cases e;rw [beq_iff_eq.1 hm];exact hk
   ·cases e
theorem KS.three {a:Act} {n:Nat} {L:List (Nat × Value)} (h:KS a n L) (i j k:Nat) {u v x:Value} (hi:L.lookup i=some u) (hj:L.lookup j=some v) (hk:L.lookup k=some x):KS a n [(i,u),(j,v),(k,x)]:=ks3 h.size h.df (h.g i hi) (h.g j hj) (h.g k hk)
section
variable {P : Program} {ops : Array Oper} {Q : Exit → Act → World → Prop} {rest : List Oper} {o : Oper} {a : Act} {w w' : World} {n d g gd : Nat} {b : Bool} {v : Value} {L : List (Nat × Value)}
theorem zbH (hy:(ops[g]?).bind (·.dst)=some gd) (hg:o.guard=some (g,b)) (hF:KS a n L) (e:L.lookup gd=some (.bool b)):Region.wanted o (yielded ops a.tmps)=true:=by
 unfold Region.wanted;rw [hg];show (yielded ops a.tmps g==some b)=true;rw [yl_of hy (hF.g gd e)];simp
theorem zaR (hy:(ops[g]?).bind (·.dst)=some gd) (hg:o.guard=some (g,b)) (e:L.lookup gd=some (.bool !b)∨L.lookup gd=some undef) (hd:o.dst=some d) (hF:KS a n L) (hn:okS n d L=true) (h:∀ a1,KS a1 n ((d,undef)::L)→wpList P ops Q rest a1 w):wpList P ops Q (o::rest) a w:=by
 refine wl_skip ?_ hd hF.size (KS.lt hn) fun a1 hp=>h a1 (hF.put hp hn)
 unfold Region.wanted;rw [hg];show (yielded ops a.tmps g==some b)=false;rcases e with e|e
 ·rw [yl_of hy (hF.g gd e)];cases b<;>rfl
 ·rw [yl_un hy (hF.g gd e)];rfl
theorem zbB (hw:Region.wanted o (yielded ops a.tmps)=true) (hd:o.dst=some d) (hF:KS a n L) (hn:okS n d L=true) (hr:(execOp a.eval o).run P w=.ok (.value v) w') (h:∀ a1,KS a1 n ((d,v)::L)→wpList P ops Q rest a1 w'):wpList P ops Q (o::rest) a w:=
 wl_op hw hd hF.size (KS.lt hn) hr fun a1 hp=>h a1 (hF.put hp hn)
theorem zfD {f:FuncId} {args:Array Value} {R:Ending→World→Prop} (hw:Region.wanted o (yielded ops a.tmps)=true) (hd:o.dst=some d) (hF:KS a n L) (hn:okS n d L=true) (hr:(execOp a.eval o).run P w=.ok (.enter f args) w) (hC:Calls P f args w R) (hR:∀ e w1,R e w1→∃ v,e=.returned v∧∀ a1,KS a1 n ((d,v)::L)→wpList P ops Q rest a1 w1):wpList P ops Q (o::rest) a w:=by
 refine wl_call hw hd hF.size (KS.lt hn) hr hC fun e w1 h1 => ?_
 obtain ⟨v,rfl,h2⟩:=hR e w1 h1;exact ⟨v,rfl,fun a1 hp=>h2 a1 (hF.put hp hn)⟩
end
structure BW (sb cb:Nat) (sw sp nm:ByteArray) (op:Nat) (inn:Bool) (e cd:Int) (v1 v2 v3:Value) (w:World):Prop where
 s0:w.cell? ⟨sb,0,none⟩=some (.string sw)
 s1:w.cell? ⟨sb,1,none⟩=some (.string sp)
 c0:w.cell? ⟨cb,0,none⟩=some (.string nm)
 c1:w.cell? ⟨cb,1,none⟩=some (.int .u8 (op:Int))
 c2:w.cell? ⟨cb,2,none⟩=some (.bool inn)
 c3:w.cell? ⟨cb,3,none⟩=some (.int .i64 e)
 c4:w.cell? ⟨cb,4,none⟩=some (.int .i64 cd)
 c5:w.cell? ⟨cb,5,none⟩=some v1
 c6:w.cell? ⟨cb,6,none⟩=some v2
 c7:w.cell? ⟨cb,7,none⟩=some v3
theorem zaJ {w w':World} (hb:Below w.heap.size w w') {p:Addr} {v:Value} (h:w.cell? p=some v):w'.cell? p=some v:=(hb.cell (World.block_lt_of_cell? _ _ h)).trans h
theorem BW.on {sb cb:Nat} {sw sp nm:ByteArray} {op:Nat} {inn:Bool} {e cd:Int} {v1 v2 v3:Value} {w w':World} (h:BW sb cb sw sp nm op inn e cd v1 v2 v3 w) (hb:Below w.heap.size w w'):BW sb cb sw sp nm op inn e cd v1 v2 v3 w':=
 ⟨zaJ hb h.s0,zaJ hb h.s1,zaJ hb h.c0,zaJ hb h.c1,zaJ hb h.c2,zaJ hb h.c3,zaJ hb h.c4,zaJ hb h.c5,zaJ hb h.c6,zaJ hb h.c7⟩
abbrev BF (sb cb A:Nat) (v:Bool) (a:Act):Prop:=KS a 82 [(2,.pointer (some ⟨sb,0,none⟩)),(3,.pointer (some ⟨cb,0,none⟩)),(A,.bool v)]
section
variable {a : Act} {sb cb : Nat} {sw sp nm : ByteArray} {op : Nat} {inn : Bool} {e cd : Int} {a1 a2 a3 : Option Addr} {l1 c1 l2 c2 l3 c3 : Nat} {w : World}
theorem rb0 (h:a.eval (.tmp 3)=.pointer (some ⟨cb,0,none⟩)):(execOp a.eval bo0).run Tryz.prog w=.ok (.value (.pointer (some ⟨cb,0,none⟩))) w:=by
 simp only [bo0,execOp,h];go_simp
theorem rb1 (h:a.eval (.tmp 5)=.pointer (some ⟨cb,0,none⟩)) (hc:w.cell? ⟨cb,0,none⟩=some (.string nm)):(execOp a.eval bo1).run Tryz.prog w=.ok (.value (.string nm)) w:=by
 simp only [bo1,execOp,h];go_simp
theorem rb2 (h:a.eval (.tmp 6)=.string nm):(execOp a.eval bo2).run Tryz.prog w=.ok (.value (.bool (nm.toList==[]))) w:=by
 simp only [bo2,execOp,h];go_simp
theorem rb4 (h:a.eval (.tmp 2)=.pointer (some ⟨sb,0,none⟩)) (s0:w.cell? ⟨sb,0,none⟩=some (.string sw)) (s1:w.cell? ⟨sb,1,none⟩=some (.string sp)):(execOp a.eval bo4).run Tryz.prog w=.ok (.value (.agg #[.string sw,.string sp])) w:=by
 simp only [bo4,execOp,h];go_simp
theorem rb5 (h:a.tmps[9]?=some (.agg #[.string sw,.string sp])):(execOp a.eval bo5).run Tryz.prog w=.ok (.enter 208 #[.agg #[.string sw,.string sp],.int .i32 110]) w:=by
 simp only [bo5,execOp];go_simp
theorem rb8 (h:a.eval (.tmp 3)=.pointer (some ⟨cb,0,none⟩)):(execOp a.eval bo8).run Tryz.prog w=.ok (.value (.pointer (some ⟨cb,1,none⟩))) w:=by
 simp only [bo8,execOp,h];go_simp
theorem rb9 (h:a.eval (.tmp 13)=.pointer (some ⟨cb,1,none⟩)) (hc:w.cell? ⟨cb,1,none⟩=some (.int .u8 (op:Int))):(execOp a.eval bo9).run Tryz.prog w=.ok (.value (.int .u8 (op:Int))) w:=by
 simp only [bo9,execOp,h];go_simp
theorem rb10 (h:a.eval (.tmp 14)=.int .u8 (op:Int)):(execOp a.eval bo10).run Tryz.prog w=.ok (.value (.bool ((op:Int)==0))) w:=by
 simp only [bo10,execOp,h];go_simp
theorem rb12 (h:a.eval (.tmp 2)=.pointer (some ⟨sb,0,none⟩)) (s0:w.cell? ⟨sb,0,none⟩=some (.string sw)) (s1:w.cell? ⟨sb,1,none⟩=some (.string sp)):(execOp a.eval bo12).run Tryz.prog w=.ok (.value (.agg #[.string sw,.string sp])) w:=by
 simp only [bo12,execOp,h];go_simp
theorem rb13 (h:a.tmps[17]?=some (.agg #[.string sw,.string sp])):(execOp a.eval bo13).run Tryz.prog w=.ok (.enter 208 #[.agg #[.string sw,.string sp],.int .i32 111]) w:=by
 simp only [bo13,execOp];go_simp
theorem rb17 (h:a.eval (.tmp 3)=.pointer (some ⟨cb,0,none⟩)):(execOp a.eval bo17).run Tryz.prog w=.ok (.value (.pointer (some ⟨cb,2,none⟩))) w:=by
 simp only [bo17,execOp,h];go_simp
theorem rb18 (h:a.eval (.tmp 22)=.pointer (some ⟨cb,2,none⟩)) (hc:w.cell? ⟨cb,2,none⟩=some (.bool inn)):(execOp a.eval bo18).run Tryz.prog w=.ok (.value (.bool inn)) w:=by
 simp only [bo18,execOp,h];go_simp
theorem rb19 (h:a.eval (.tmp 23)=.bool inn):(execOp a.eval bo19).run Tryz.prog w=.ok (.value (.bool (!inn))) w:=by
 simp only [bo19,execOp,h];go_simp
theorem rb21 (h:a.eval (.tmp 2)=.pointer (some ⟨sb,0,none⟩)) (s0:w.cell? ⟨sb,0,none⟩=some (.string sw)) (s1:w.cell? ⟨sb,1,none⟩=some (.string sp)):(execOp a.eval bo21).run Tryz.prog w=.ok (.value (.agg #[.string sw,.string sp])) w:=by
 simp only [bo21,execOp,h];go_simp
theorem rb22 (h:a.tmps[26]?=some (.agg #[.string sw,.string sp])):(execOp a.eval bo22).run Tryz.prog w=.ok (.enter 208 #[.agg #[.string sw,.string sp],.int .i32 119]) w:=by
 simp only [bo22,execOp];go_simp
theorem rb26 (h:a.eval (.tmp 3)=.pointer (some ⟨cb,0,none⟩)):(execOp a.eval bo26).run Tryz.prog w=.ok (.value (.pointer (some ⟨cb,3,none⟩))) w:=by
 simp only [bo26,execOp,h];go_simp
theorem rb27 (h:a.eval (.tmp 31)=.pointer (some ⟨cb,3,none⟩)) (hc:w.cell? ⟨cb,3,none⟩=some (.int .i64 e)):(execOp a.eval bo27).run Tryz.prog w=.ok (.value (.int .i64 e)) w:=by
 simp only [bo27,execOp,h];go_simp
theorem rb28 (h:a.eval (.tmp 32)=.int .i64 e):(execOp a.eval bo28).run Tryz.prog w=.ok (.value (.bool (e == -1))) w:=by
 simp only [bo28,execOp,h];go_simp
theorem rb30 (h:a.eval (.tmp 2)=.pointer (some ⟨sb,0,none⟩)) (s0:w.cell? ⟨sb,0,none⟩=some (.string sw)) (s1:w.cell? ⟨sb,1,none⟩=some (.string sp)):(execOp a.eval bo30).run Tryz.prog w=.ok (.value (.agg #[.string sw,.string sp])) w:=by
 simp only [bo30,execOp,h];go_simp
theorem rb31 (h:a.tmps[35]?=some (.agg #[.string sw,.string sp])):(execOp a.eval bo31).run Tryz.prog w=.ok (.enter 208 #[.agg #[.string sw,.string sp],.int .i32 101]) w:=by
 simp only [bo31,execOp];go_simp
theorem rb35 (h:a.eval (.tmp 3)=.pointer (some ⟨cb,0,none⟩)):(execOp a.eval bo35).run Tryz.prog w=.ok (.value (.pointer (some ⟨cb,4,none⟩))) w:=by
 simp only [bo35,execOp,h];go_simp
theorem rb36 (h:a.eval (.tmp 40)=.pointer (some ⟨cb,4,none⟩)) (hc:w.cell? ⟨cb,4,none⟩=some (.int .i64 cd)):(execOp a.eval bo36).run Tryz.prog w=.ok (.value (.int .i64 cd)) w:=by
 simp only [bo36,execOp,h];go_simp
theorem rb37 (h:a.eval (.tmp 41)=.int .i64 cd):(execOp a.eval bo37).run Tryz.prog w=.ok (.value (.bool (cd == -1))) w:=by
 simp only [bo37,execOp,h];go_simp
theorem rb39 (h:a.eval (.tmp 2)=.pointer (some ⟨sb,0,none⟩)) (s0:w.cell? ⟨sb,0,none⟩=some (.string sw)) (s1:w.cell? ⟨sb,1,none⟩=some (.string sp)):(execOp a.eval bo39).run Tryz.prog w=.ok (.value (.agg #[.string sw,.string sp])) w:=by
 simp only [bo39,execOp,h];go_simp
theorem rb40 (h:a.tmps[44]?=some (.agg #[.string sw,.string sp])):(execOp a.eval bo40).run Tryz.prog w=.ok (.enter 208 #[.agg #[.string sw,.string sp],.int .i32 99]) w:=by
 simp only [bo40,execOp];go_simp
theorem rb44 (h:a.eval (.tmp 3)=.pointer (some ⟨cb,0,none⟩)):(execOp a.eval bo44).run Tryz.prog w=.ok (.value (.pointer (some ⟨cb,5,none⟩))) w:=by
 simp only [bo44,execOp,h];go_simp
theorem rb45 (h:a.eval (.tmp 49)=.pointer (some ⟨cb,5,none⟩)) (hc:w.cell? ⟨cb,5,none⟩=some (.slice a1 l1 c1)):(execOp a.eval bo45).run Tryz.prog w=.ok (.value (.slice a1 l1 c1)) w:=by
 simp only [bo45,execOp,h];go_simp
theorem rb46 (h:a.tmps[50]?=some (.slice a1 l1 c1)):(execOp a.eval bo46).run Tryz.prog w=.ok (.value (.int .i64 (l1:Int))) w:=by
 simp only [bo46,execOp];go_simp
theorem rb47 (h:a.eval (.tmp 51)=.int .i64 (l1:Int)):(execOp a.eval bo47).run Tryz.prog w=.ok (.value (.bool ((l1:Int)==0))) w:=by
 simp only [bo47,execOp,h];go_simp
theorem rb49 (h:a.eval (.tmp 2)=.pointer (some ⟨sb,0,none⟩)) (s0:w.cell? ⟨sb,0,none⟩=some (.string sw)) (s1:w.cell? ⟨sb,1,none⟩=some (.string sp)):(execOp a.eval bo49).run Tryz.prog w=.ok (.value (.agg #[.string sw,.string sp])) w:=by
 simp only [bo49,execOp,h];go_simp
theorem rb50 (h:a.tmps[54]?=some (.agg #[.string sw,.string sp])):(execOp a.eval bo50).run Tryz.prog w=.ok (.enter 208 #[.agg #[.string sw,.string sp],.int .i32 97]) w:=by
 simp only [bo50,execOp];go_simp
theorem rb54 (h:a.eval (.tmp 3)=.pointer (some ⟨cb,0,none⟩)):(execOp a.eval bo54).run Tryz.prog w=.ok (.value (.pointer (some ⟨cb,6,none⟩))) w:=by
 simp only [bo54,execOp,h];go_simp
theorem rb55 (h:a.eval (.tmp 59)=.pointer (some ⟨cb,6,none⟩)) (hc:w.cell? ⟨cb,6,none⟩=some (.slice a2 l2 c2)):(execOp a.eval bo55).run Tryz.prog w=.ok (.value (.slice a2 l2 c2)) w:=by
 simp only [bo55,execOp,h];go_simp
theorem rb56 (h:a.tmps[60]?=some (.slice a2 l2 c2)):(execOp a.eval bo56).run Tryz.prog w=.ok (.value (.int .i64 (l2:Int))) w:=by
 simp only [bo56,execOp];go_simp
theorem rb57 (h:a.eval (.tmp 61)=.int .i64 (l2:Int)):(execOp a.eval bo57).run Tryz.prog w=.ok (.value (.bool ((l2:Int)==0))) w:=by
 simp only [bo57,execOp,h];go_simp
theorem rb59 (h:a.eval (.tmp 2)=.pointer (some ⟨sb,0,none⟩)) (s0:w.cell? ⟨sb,0,none⟩=some (.string sw)) (s1:w.cell? ⟨sb,1,none⟩=some (.string sp)):(execOp a.eval bo59).run Tryz.prog w=.ok (.value (.agg #[.string sw,.string sp])) w:=by
 simp only [bo59,execOp,h];go_simp
theorem rb60 (h:a.tmps[64]?=some (.agg #[.string sw,.string sp])):(execOp a.eval bo60).run Tryz.prog w=.ok (.enter 208 #[.agg #[.string sw,.string sp],.int .i32 116]) w:=by
 simp only [bo60,execOp];go_simp
theorem rb63 (h:a.eval (.tmp 2)=.pointer (some ⟨sb,0,none⟩)) (s0:w.cell? ⟨sb,0,none⟩=some (.string sw)) (s1:w.cell? ⟨sb,1,none⟩=some (.string sp)):(execOp a.eval bo63).run Tryz.prog w=.ok (.value (.agg #[.string sw,.string sp])) w:=by
 simp only [bo63,execOp,h];go_simp
theorem rb64 (h:a.tmps[68]?=some (.agg #[.string sw,.string sp])):(execOp a.eval bo64).run Tryz.prog w=.ok (.enter 208 #[.agg #[.string sw,.string sp],.int .i32 115]) w:=by
 simp only [bo64,execOp];go_simp
theorem rb68 (h:a.eval (.tmp 3)=.pointer (some ⟨cb,0,none⟩)):(execOp a.eval bo68).run Tryz.prog w=.ok (.value (.pointer (some ⟨cb,7,none⟩))) w:=by
 simp only [bo68,execOp,h];go_simp
theorem rb69 (h:a.eval (.tmp 73)=.pointer (some ⟨cb,7,none⟩)) (hc:w.cell? ⟨cb,7,none⟩=some (.slice a3 l3 c3)):(execOp a.eval bo69).run Tryz.prog w=.ok (.value (.slice a3 l3 c3)) w:=by
 simp only [bo69,execOp,h];go_simp
theorem rb70 (h:a.tmps[74]?=some (.slice a3 l3 c3)):(execOp a.eval bo70).run Tryz.prog w=.ok (.value (.int .i64 (l3:Int))) w:=by
 simp only [bo70,execOp];go_simp
theorem rb71 (h:a.eval (.tmp 75)=.int .i64 (l3:Int)):(execOp a.eval bo71).run Tryz.prog w=.ok (.value (.bool ((l3:Int)==0))) w:=by
 simp only [bo71,execOp,h];go_simp
theorem rb73 (h:a.eval (.tmp 2)=.pointer (some ⟨sb,0,none⟩)) (s0:w.cell? ⟨sb,0,none⟩=some (.string sw)) (s1:w.cell? ⟨sb,1,none⟩=some (.string sp)):(execOp a.eval bo73).run Tryz.prog w=.ok (.value (.agg #[.string sw,.string sp])) w:=by
 simp only [bo73,execOp,h];go_simp
theorem rb74 (h:a.tmps[78]?=some (.agg #[.string sw,.string sp])):(execOp a.eval bo74).run Tryz.prog w=.ok (.enter 208 #[.agg #[.string sw,.string sp],.int .i32 102]) w:=by
 simp only [bo74,execOp];go_simp
end
section
variable {sb cb : Nat} {sw sp nm : ByteArray} {op : Nat} {inn : Bool} {e cd : Int} {a1 a2 a3 : Option Addr} {l1 c1 l2 c2 l3 c3 : Nat} {v : Bool} {a : Act} {w : World} {Q : Exit → Act → World → Prop} {rest : List Oper}
set_option maxHeartbeats 1000000 in
theorem bc0 (hB:BW sb cb sw sp nm op inn e cd (.slice a1 l1 c1) (.slice a2 l2 c2) (.slice a3 l3 c3) w) (hF:BF sb cb 4 v a) (hk:∀ a' w',BF sb cb 12 ((nm.toList==[]) || (hasB sp 110)) a'→BW sb cb sw sp nm op inn e cd (.slice a1 l1 c1) (.slice a2 l2 c2) (.slice a3 l3 c3) w'→Below w.heap.size w w'→wpList Tryz.prog bareOps Q rest a' w'):wpList Tryz.prog bareOps Q (bo0::bo1::bo2::bo3::bo4::bo5::bo6::bo7::rest) a w:=by
 have C:=fun c hc W=>has_any sw sp c hc W
 have q0:=hB.c0;have s0:=hB.s0;have s1:=hB.s1;refine zbB (v:=.pointer (some ⟨cb,0,none⟩)) rfl rfl hF rfl (by exact rb0 (zaV (hF.g 3 rfl))) fun _ hF => ?_
 refine zbB (v:=.string nm) rfl rfl hF rfl (by exact rb1 (zaV (hF.g 5 rfl)) q0) fun _ hF => ?_
 refine zbB (v:=.bool (nm.toList==[])) rfl rfl hF rfl (by exact rb2 (zaV (hF.g 6 rfl))) fun _ hF => ?_
 refine zbB (v:=.bool (nm.toList==[])) rfl rfl hF rfl (by simp only [bo3,execOp,zaV (hF.g 7 rfl)];rfl) fun _ hF => ?_
 cases hq:(nm.toList==[]) with
 | true=>
  rw [hq] at hk hF;refine zaR bd3 rfl (.inl rfl) rfl hF rfl fun _ hF => ?_
  refine zaR bd3 rfl (.inl rfl) rfl hF rfl fun _ hF => ?_
  refine zbB (v:=.bool true) rfl rfl hF rfl (by simp only [bo6,execOp,zaV (hF.g 8 rfl)];rfl) fun _ hF => ?_
  refine zbB (v:=.bool true) rfl rfl hF rfl (by simp only [bo7,execOp,zaV (hF.g 11 rfl)];rfl) fun _ hF => ?_
  exact hk _ _ (hF.three 2 3 12 rfl rfl rfl) hB (Below.refl _ _)
 | false=>
  rw [hq] at hk;rw [hq] at hF;refine zbB (v:=.agg #[.string sw,.string sp]) (zbH bd3 rfl hF rfl) rfl hF rfl (by exact rb4 (zaV (hF.g 2 rfl)) s0 s1) fun _ hF => ?_
  refine zfD (zbH bd3 rfl hF rfl) rfl hF rfl (by exact rb5 (hF.g 9 rfl)) (C 110 (by decide) w) ?_;rintro e9 w1 ⟨rfl,hb⟩;refine ⟨_,rfl,fun _ hF => ?_⟩;have hbb:=hb;have hB:=hB.on hb;refine zbB (v:=.bool (hasB sp 110)) rfl rfl hF rfl (by simp only [bo6,execOp,zaV (hF.g 8 rfl),zaV (hF.g 10 rfl)];rfl) fun _ hF => ?_
  refine zbB (v:=.bool (hasB sp 110)) rfl rfl hF rfl (by simp only [bo7,execOp,zaV (hF.g 11 rfl)];rfl) fun _ hF => ?_
  exact hk _ _ (hF.three 2 3 12 rfl rfl rfl) hB hbb
set_option maxHeartbeats 1000000 in
theorem bc1 (hB:BW sb cb sw sp nm op inn e cd (.slice a1 l1 c1) (.slice a2 l2 c2) (.slice a3 l3 c3) w) (hF:BF sb cb 12 v a) (hk:∀ a' w',BF sb cb 21 (v && (((op:Int)==0) || (hasB sp 111))) a'→BW sb cb sw sp nm op inn e cd (.slice a1 l1 c1) (.slice a2 l2 c2) (.slice a3 l3 c3) w'→Below w.heap.size w w'→wpList Tryz.prog bareOps Q rest a' w'):wpList Tryz.prog bareOps Q (bo8::bo9::bo10::bo11::bo12::bo13::bo14::bo15::bo16::rest) a w:=by
 have C:=fun c hc W=>has_any sw sp c hc W
 have q0:=hB.c1;have s0:=hB.s0;have s1:=hB.s1;cases v with
 | false=>
  refine zaR bd7 rfl (.inl rfl) rfl hF rfl fun _ hF => ?_
  refine zaR bd7 rfl (.inl rfl) rfl hF rfl fun _ hF => ?_
  refine zaR bd7 rfl (.inl rfl) rfl hF rfl fun _ hF => ?_
  refine zaR bd7 rfl (.inl rfl) rfl hF rfl fun _ hF => ?_
  refine zaR bd11 rfl (.inr rfl) rfl hF rfl fun _ hF => ?_
  refine zaR bd11 rfl (.inr rfl) rfl hF rfl fun _ hF => ?_
  refine zaR bd7 rfl (.inl rfl) rfl hF rfl fun _ hF => ?_
  refine zbB (v:=.bool false) rfl rfl hF rfl (by simp only [bo15,execOp,zaV (hF.g 12 rfl)];rfl) fun _ hF => ?_
  refine zbB (v:=.bool false) rfl rfl hF rfl (by simp only [bo16,execOp,zaV (hF.g 20 rfl)];rfl) fun _ hF => ?_
  exact hk _ _ (hF.three 2 3 21 rfl rfl rfl) hB (Below.refl _ _)
 | true=>
  refine zbB (v:=.pointer (some ⟨cb,1,none⟩)) (zbH bd7 rfl hF rfl) rfl hF rfl (by exact rb8 (zaV (hF.g 3 rfl))) fun _ hF => ?_
  refine zbB (v:=.int .u8 (op:Int)) (zbH bd7 rfl hF rfl) rfl hF rfl (by exact rb9 (zaV (hF.g 13 rfl)) q0) fun _ hF => ?_
  refine zbB (v:=.bool ((op:Int)==0)) (zbH bd7 rfl hF rfl) rfl hF rfl (by exact rb10 (zaV (hF.g 14 rfl))) fun _ hF => ?_
  refine zbB (v:=.bool ((op:Int)==0)) (zbH bd7 rfl hF rfl) rfl hF rfl (by simp only [bo11,execOp,zaV (hF.g 15 rfl)];rfl) fun _ hF => ?_
  cases hq:((op:Int)==0) with
  | true=>
   rw [hq] at hk hF;refine zaR bd11 rfl (.inl rfl) rfl hF rfl fun _ hF => ?_
   refine zaR bd11 rfl (.inl rfl) rfl hF rfl fun _ hF => ?_
   refine zbB (v:=.bool true) (zbH bd7 rfl hF rfl) rfl hF rfl (by simp only [bo14,execOp,zaV (hF.g 16 rfl)];rfl) fun _ hF => ?_
   refine zbB (v:=.bool true) rfl rfl hF rfl (by simp only [bo15,execOp,zaV (hF.g 12 rfl),zaV (hF.g 19 rfl)];rfl) fun _ hF => ?_
   refine zbB (v:=.bool true) rfl rfl hF rfl (by simp only [bo16,execOp,zaV (hF.g 20 rfl)];rfl) fun _ hF => ?_
   exact hk _ _ (hF.three 2 3 21 rfl rfl rfl) hB (Below.refl _ _)
  | false=>
   rw [hq] at hk;rw [hq] at hF;refine zbB (v:=.agg #[.string sw,.string sp]) (zbH bd11 rfl hF rfl) rfl hF rfl (by exact rb12 (zaV (hF.g 2 rfl)) s0 s1) fun _ hF => ?_
   refine zfD (zbH bd11 rfl hF rfl) rfl hF rfl (by exact rb13 (hF.g 17 rfl)) (C 111 (by decide) w) ?_;rintro e9 w1 ⟨rfl,hb⟩;refine ⟨_,rfl,fun _ hF => ?_⟩;have hbb:=hb;have hB:=hB.on hb;refine zbB (v:=.bool (hasB sp 111)) (zbH bd7 rfl hF rfl) rfl hF rfl (by simp only [bo14,execOp,zaV (hF.g 16 rfl),zaV (hF.g 18 rfl)];rfl) fun _ hF => ?_
   refine zbB (v:=.bool (hasB sp 111)) rfl rfl hF rfl (by simp only [bo15,execOp,zaV (hF.g 12 rfl),zaV (hF.g 19 rfl)];rfl) fun _ hF => ?_
   refine zbB (v:=.bool (hasB sp 111)) rfl rfl hF rfl (by simp only [bo16,execOp,zaV (hF.g 20 rfl)];rfl) fun _ hF => ?_
   exact hk _ _ (hF.three 2 3 21 rfl rfl rfl) hB hbb
set_option maxHeartbeats 1000000 in
theorem bc2 (hB:BW sb cb sw sp nm op inn e cd (.slice a1 l1 c1) (.slice a2 l2 c2) (.slice a3 l3 c3) w) (hF:BF sb cb 21 v a) (hk:∀ a' w',BF sb cb 30 (v && ((!inn) || (hasB sp 119))) a'→BW sb cb sw sp nm op inn e cd (.slice a1 l1 c1) (.slice a2 l2 c2) (.slice a3 l3 c3) w'→Below w.heap.size w w'→wpList Tryz.prog bareOps Q rest a' w'):wpList Tryz.prog bareOps Q (bo17::bo18::bo19::bo20::bo21::bo22::bo23::bo24::bo25::rest) a w:=by
 have C:=fun c hc W=>has_any sw sp c hc W
 have q0:=hB.c2;have s0:=hB.s0;have s1:=hB.s1;cases v with
 | false=>
  refine zaR bd16 rfl (.inl rfl) rfl hF rfl fun _ hF => ?_
  refine zaR bd16 rfl (.inl rfl) rfl hF rfl fun _ hF => ?_
  refine zaR bd16 rfl (.inl rfl) rfl hF rfl fun _ hF => ?_
  refine zaR bd16 rfl (.inl rfl) rfl hF rfl fun _ hF => ?_
  refine zaR bd20 rfl (.inr rfl) rfl hF rfl fun _ hF => ?_
  refine zaR bd20 rfl (.inr rfl) rfl hF rfl fun _ hF => ?_
  refine zaR bd16 rfl (.inl rfl) rfl hF rfl fun _ hF => ?_
  refine zbB (v:=.bool false) rfl rfl hF rfl (by simp only [bo24,execOp,zaV (hF.g 21 rfl)];rfl) fun _ hF => ?_
  refine zbB (v:=.bool false) rfl rfl hF rfl (by simp only [bo25,execOp,zaV (hF.g 29 rfl)];rfl) fun _ hF => ?_
  exact hk _ _ (hF.three 2 3 30 rfl rfl rfl) hB (Below.refl _ _)
 | true=>
  refine zbB (v:=.pointer (some ⟨cb,2,none⟩)) (zbH bd16 rfl hF rfl) rfl hF rfl (by exact rb17 (zaV (hF.g 3 rfl))) fun _ hF => ?_
  refine zbB (v:=.bool inn) (zbH bd16 rfl hF rfl) rfl hF rfl (by exact rb18 (zaV (hF.g 22 rfl)) q0) fun _ hF => ?_
  refine zbB (v:=.bool (!inn)) (zbH bd16 rfl hF rfl) rfl hF rfl (by exact rb19 (zaV (hF.g 23 rfl))) fun _ hF => ?_
  refine zbB (v:=.bool (!inn)) (zbH bd16 rfl hF rfl) rfl hF rfl (by simp only [bo20,execOp,zaV (hF.g 24 rfl)];rfl) fun _ hF => ?_
  cases hq:(!inn) with
  | true=>
   rw [hq] at hk hF;refine zaR bd20 rfl (.inl rfl) rfl hF rfl fun _ hF => ?_
   refine zaR bd20 rfl (.inl rfl) rfl hF rfl fun _ hF => ?_
   refine zbB (v:=.bool true) (zbH bd16 rfl hF rfl) rfl hF rfl (by simp only [bo23,execOp,zaV (hF.g 25 rfl)];rfl) fun _ hF => ?_
   refine zbB (v:=.bool true) rfl rfl hF rfl (by simp only [bo24,execOp,zaV (hF.g 21 rfl),zaV (hF.g 28 rfl)];rfl) fun _ hF => ?_
   refine zbB (v:=.bool true) rfl rfl hF rfl (by simp only [bo25,execOp,zaV (hF.g 29 rfl)];rfl) fun _ hF => ?_
   exact hk _ _ (hF.three 2 3 30 rfl rfl rfl) hB (Below.refl _ _)
  | false=>
   rw [hq] at hk;rw [hq] at hF;refine zbB (v:=.agg #[.string sw,.string sp]) (zbH bd20 rfl hF rfl) rfl hF rfl (by exact rb21 (zaV (hF.g 2 rfl)) s0 s1) fun _ hF => ?_
   refine zfD (zbH bd20 rfl hF rfl) rfl hF rfl (by exact rb22 (hF.g 26 rfl)) (C 119 (by decide) w) ?_;rintro e9 w1 ⟨rfl,hb⟩;refine ⟨_,rfl,fun _ hF => ?_⟩;have hbb:=hb;have hB:=hB.on hb;refine zbB (v:=.bool (hasB sp 119)) (zbH bd16 rfl hF rfl) rfl hF rfl (by simp only [bo23,execOp,zaV (hF.g 25 rfl),zaV (hF.g 27 rfl)];rfl) fun _ hF => ?_
   refine zbB (v:=.bool (hasB sp 119)) rfl rfl hF rfl (by simp only [bo24,execOp,zaV (hF.g 21 rfl),zaV (hF.g 28 rfl)];rfl) fun _ hF => ?_
   refine zbB (v:=.bool (hasB sp 119)) rfl rfl hF rfl (by simp only [bo25,execOp,zaV (hF.g 29 rfl)];rfl) fun _ hF => ?_
   exact hk _ _ (hF.three 2 3 30 rfl rfl rfl) hB hbb
set_option maxHeartbeats 1000000 in
theorem bc3 (hB:BW sb cb sw sp nm op inn e cd (.slice a1 l1 c1) (.slice a2 l2 c2) (.slice a3 l3 c3) w) (hF:BF sb cb 30 v a) (hk:∀ a' w',BF sb cb 39 (v && ((e == -1) || (hasB sp 101))) a'→BW sb cb sw sp nm op inn e cd (.slice a1 l1 c1) (.slice a2 l2 c2) (.slice a3 l3 c3) w'→Below w.heap.size w w'→wpList Tryz.prog bareOps Q rest a' w'):wpList Tryz.prog bareOps Q (bo26::bo27::bo28::bo29::bo30::bo31::bo32::bo33::bo34::rest) a w:=by
 have C:=fun c hc W=>has_any sw sp c hc W
 have q0:=hB.c3;have s0:=hB.s0;have s1:=hB.s1;cases v with
 | false=>
  refine zaR bd25 rfl (.inl rfl) rfl hF rfl fun _ hF => ?_
  refine zaR bd25 rfl (.inl rfl) rfl hF rfl fun _ hF => ?_
  refine zaR bd25 rfl (.inl rfl) rfl hF rfl fun _ hF => ?_
  refine zaR bd25 rfl (.inl rfl) rfl hF rfl fun _ hF => ?_
  refine zaR bd29 rfl (.inr rfl) rfl hF rfl fun _ hF => ?_
  refine zaR bd29 rfl (.inr rfl) rfl hF rfl fun _ hF => ?_
  refine zaR bd25 rfl (.inl rfl) rfl hF rfl fun _ hF => ?_
  refine zbB (v:=.bool false) rfl rfl hF rfl (by simp only [bo33,execOp,zaV (hF.g 30 rfl)];rfl) fun _ hF => ?_
  refine zbB (v:=.bool false) rfl rfl hF rfl (by simp only [bo34,execOp,zaV (hF.g 38 rfl)];rfl) fun _ hF => ?_
  exact hk _ _ (hF.three 2 3 39 rfl rfl rfl) hB (Below.refl _ _)
 | true=>
  refine zbB (v:=.pointer (some ⟨cb,3,none⟩)) (zbH bd25 rfl hF rfl) rfl hF rfl (by exact rb26 (zaV (hF.g 3 rfl))) fun _ hF => ?_
  refine zbB (v:=.int .i64 e) (zbH bd25 rfl hF rfl) rfl hF rfl (by exact rb27 (zaV (hF.g 31 rfl)) q0) fun _ hF => ?_
  refine zbB (v:=.bool (e == -1)) (zbH bd25 rfl hF rfl) rfl hF rfl (by exact rb28 (zaV (hF.g 32 rfl))) fun _ hF => ?_
  refine zbB (v:=.bool (e == -1)) (zbH bd25 rfl hF rfl) rfl hF rfl (by simp only [bo29,execOp,zaV (hF.g 33 rfl)];rfl) fun _ hF => ?_
  cases hq:(e == -1) with
  | true=>
   rw [hq] at hk hF;refine zaR bd29 rfl (.inl rfl) rfl hF rfl fun _ hF => ?_
   refine zaR bd29 rfl (.inl rfl) rfl hF rfl fun _ hF => ?_
   refine zbB (v:=.bool true) (zbH bd25 rfl hF rfl) rfl hF rfl (by simp only [bo32,execOp,zaV (hF.g 34 rfl)];rfl) fun _ hF => ?_
   refine zbB (v:=.bool true) rfl rfl hF rfl (by simp only [bo33,execOp,zaV (hF.g 30 rfl),zaV (hF.g 37 rfl)];rfl) fun _ hF => ?_
   refine zbB (v:=.bool true) rfl rfl hF rfl (by simp only [bo34,execOp,zaV (hF.g 38 rfl)];rfl) fun _ hF => ?_
   exact hk _ _ (hF.three 2 3 39 rfl rfl rfl) hB (Below.refl _ _)
  | false=>
   rw [hq] at hk;rw [hq] at hF;refine zbB (v:=.agg #[.string sw,.string sp]) (zbH bd29 rfl hF rfl) rfl hF rfl (by exact rb30 (zaV (hF.g 2 rfl)) s0 s1) fun _ hF => ?_
   refine zfD (zbH bd29 rfl hF rfl) rfl hF rfl (by exact rb31 (hF.g 35 rfl)) (C 101 (by decide) w) ?_;rintro e9 w1 ⟨rfl,hb⟩;refine ⟨_,rfl,fun _ hF => ?_⟩;have hbb:=hb;have hB:=hB.on hb;refine zbB (v:=.bool (hasB sp 101)) (zbH bd25 rfl hF rfl) rfl hF rfl (by simp only [bo32,execOp,zaV (hF.g 34 rfl),zaV (hF.g 36 rfl)];rfl) fun _ hF => ?_
   refine zbB (v:=.bool (hasB sp 101)) rfl rfl hF rfl (by simp only [bo33,execOp,zaV (hF.g 30 rfl),zaV (hF.g 37 rfl)];rfl) fun _ hF => ?_
   refine zbB (v:=.bool (hasB sp 101)) rfl rfl hF rfl (by simp only [bo34,execOp,zaV (hF.g 38 rfl)];rfl) fun _ hF => ?_
   exact hk _ _ (hF.three 2 3 39 rfl rfl rfl) hB hbb
set_option maxHeartbeats 1000000 in
theorem bc4 (hB:BW sb cb sw sp nm op inn e cd (.slice a1 l1 c1) (.slice a2 l2 c2) (.slice a3 l3 c3) w) (hF:BF sb cb 39 v a) (hk:∀ a' w',BF sb cb 48 (v && ((cd == -1) || (hasB sp 99))) a'→BW sb cb sw sp nm op inn e cd (.slice a1 l1 c1) (.slice a2 l2 c2) (.slice a3 l3 c3) w'→Below w.heap.size w w'→wpList Tryz.prog bareOps Q rest a' w'):wpList Tryz.prog bareOps Q (bo35::bo36::bo37::bo38::bo39::bo40::bo41::bo42::bo43::rest) a w:=by
 have C:=fun c hc W=>has_any sw sp c hc W
 have q0:=hB.c4;have s0:=hB.s0;have s1:=hB.s1;cases v with
 | false=>
  refine zaR bd34 rfl (.inl rfl) rfl hF rfl fun _ hF => ?_
  refine zaR bd34 rfl (.inl rfl) rfl hF rfl fun _ hF => ?_
  refine zaR bd34 rfl (.inl rfl) rfl hF rfl fun _ hF => ?_
  refine zaR bd34 rfl (.inl rfl) rfl hF rfl fun _ hF => ?_
  refine zaR bd38 rfl (.inr rfl) rfl hF rfl fun _ hF => ?_
  refine zaR bd38 rfl (.inr rfl) rfl hF rfl fun _ hF => ?_
  refine zaR bd34 rfl (.inl rfl) rfl hF rfl fun _ hF => ?_
  refine zbB (v:=.bool false) rfl rfl hF rfl (by simp only [bo42,execOp,zaV (hF.g 39 rfl)];rfl) fun _ hF => ?_
  refine zbB (v:=.bool false) rfl rfl hF rfl (by simp only [bo43,execOp,zaV (hF.g 47 rfl)];rfl) fun _ hF => ?_
  exact hk _ _ (hF.three 2 3 48 rfl rfl rfl) hB (Below.refl _ _)
 | true=>
  refine zbB (v:=.pointer (some ⟨cb,4,none⟩)) (zbH bd34 rfl hF rfl) rfl hF rfl (by exact rb35 (zaV (hF.g 3 rfl))) fun _ hF => ?_
  refine zbB (v:=.int .i64 cd) (zbH bd34 rfl hF rfl) rfl hF rfl (by exact rb36 (zaV (hF.g 40 rfl)) q0) fun _ hF => ?_
  refine zbB (v:=.bool (cd == -1)) (zbH bd34 rfl hF rfl) rfl hF rfl (by exact rb37 (zaV (hF.g 41 rfl))) fun _ hF => ?_
  refine zbB (v:=.bool (cd == -1)) (zbH bd34 rfl hF rfl) rfl hF rfl (by simp only [bo38,execOp,zaV (hF.g 42 rfl)];rfl) fun _ hF => ?_
  cases hq:(cd == -1) with
  | true=>
   rw [hq] at hk hF;refine zaR bd38 rfl (.inl rfl) rfl hF rfl fun _ hF => ?_
   refine zaR bd38 rfl (.inl rfl) rfl hF rfl fun _ hF => ?_
   refine zbB (v:=.bool true) (zbH bd34 rfl hF rfl) rfl hF rfl (by simp only [bo41,execOp,zaV (hF.g 43 rfl)];rfl) fun _ hF => ?_
   refine zbB (v:=.bool true) rfl rfl hF rfl (by simp only [bo42,execOp,zaV (hF.g 39 rfl),zaV (hF.g 46 rfl)];rfl) fun _ hF => ?_
   refine zbB (v:=.bool true) rfl rfl hF rfl (by simp only [bo43,execOp,zaV (hF.g 47 rfl)];rfl) fun _ hF => ?_
   exact hk _ _ (hF.three 2 3 48 rfl rfl rfl) hB (Below.refl _ _)
  | false=>
   rw [hq] at hk;rw [hq] at hF;refine zbB (v:=.agg #[.string sw,.string sp]) (zbH bd38 rfl hF rfl) rfl hF rfl (by exact rb39 (zaV (hF.g 2 rfl)) s0 s1) fun _ hF => ?_
   refine zfD (zbH bd38 rfl hF rfl) rfl hF rfl (by exact rb40 (hF.g 44 rfl)) (C 99 (by decide) w) ?_;rintro e9 w1 ⟨rfl,hb⟩;refine ⟨_,rfl,fun _ hF => ?_⟩;have hbb:=hb;have hB:=hB.on hb;refine zbB (v:=.bool (hasB sp 99)) (zbH bd34 rfl hF rfl) rfl hF rfl (by simp only [bo41,execOp,zaV (hF.g 43 rfl),zaV (hF.g 45 rfl)];rfl) fun _ hF => ?_
   refine zbB (v:=.bool (hasB sp 99)) rfl rfl hF rfl (by simp only [bo42,execOp,zaV (hF.g 39 rfl),zaV (hF.g 46 rfl)];rfl) fun _ hF => ?_
   refine zbB (v:=.bool (hasB sp 99)) rfl rfl hF rfl (by simp only [bo43,execOp,zaV (hF.g 47 rfl)];rfl) fun _ hF => ?_
   exact hk _ _ (hF.three 2 3 48 rfl rfl rfl) hB hbb
set_option maxHeartbeats 1000000 in
theorem bc5 (hB:BW sb cb sw sp nm op inn e cd (.slice a1 l1 c1) (.slice a2 l2 c2) (.slice a3 l3 c3) w) (hF:BF sb cb 48 v a) (hk:∀ a' w',BF sb cb 58 (v && (((l1:Int)==0) || (hasB sp 97))) a'→BW sb cb sw sp nm op inn e cd (.slice a1 l1 c1) (.slice a2 l2 c2) (.slice a3 l3 c3) w'→Below w.heap.size w w'→wpList Tryz.prog bareOps Q rest a' w'):wpList Tryz.prog bareOps Q (bo44::bo45::bo46::bo47::bo48::bo49::bo50::bo51::bo52::bo53::rest) a w:=by
 have C:=fun c hc W=>has_any sw sp c hc W
 have q0:=hB.c5;have s0:=hB.s0;have s1:=hB.s1;cases v with
 | false=>
  refine zaR bd43 rfl (.inl rfl) rfl hF rfl fun _ hF => ?_
  refine zaR bd43 rfl (.inl rfl) rfl hF rfl fun _ hF => ?_
  refine zaR bd43 rfl (.inl rfl) rfl hF rfl fun _ hF => ?_
  refine zaR bd43 rfl (.inl rfl) rfl hF rfl fun _ hF => ?_
  refine zaR bd43 rfl (.inl rfl) rfl hF rfl fun _ hF => ?_
  refine zaR bd48 rfl (.inr rfl) rfl hF rfl fun _ hF => ?_
  refine zaR bd48 rfl (.inr rfl) rfl hF rfl fun _ hF => ?_
  refine zaR bd43 rfl (.inl rfl) rfl hF rfl fun _ hF => ?_
  refine zbB (v:=.bool false) rfl rfl hF rfl (by simp only [bo52,execOp,zaV (hF.g 48 rfl)];rfl) fun _ hF => ?_
  refine zbB (v:=.bool false) rfl rfl hF rfl (by simp only [bo53,execOp,zaV (hF.g 57 rfl)];rfl) fun _ hF => ?_
  exact hk _ _ (hF.three 2 3 58 rfl rfl rfl) hB (Below.refl _ _)
 | true=>
  refine zbB (v:=.pointer (some ⟨cb,5,none⟩)) (zbH bd43 rfl hF rfl) rfl hF rfl (by exact rb44 (zaV (hF.g 3 rfl))) fun _ hF => ?_
  refine zbB (v:=.slice a1 l1 c1) (zbH bd43 rfl hF rfl) rfl hF rfl (by exact rb45 (zaV (hF.g 49 rfl)) q0) fun _ hF => ?_
  refine zbB (v:=.int .i64 (l1:Int)) (zbH bd43 rfl hF rfl) rfl hF rfl (by exact rb46 (hF.g 50 rfl)) fun _ hF => ?_
  refine zbB (v:=.bool ((l1:Int)==0)) (zbH bd43 rfl hF rfl) rfl hF rfl (by exact rb47 (zaV (hF.g 51 rfl))) fun _ hF => ?_
  refine zbB (v:=.bool ((l1:Int)==0)) (zbH bd43 rfl hF rfl) rfl hF rfl (by simp only [bo48,execOp,zaV (hF.g 52 rfl)];rfl) fun _ hF => ?_
  cases hq:((l1:Int)==0) with
  | true=>
   rw [hq] at hk hF;refine zaR bd48 rfl (.inl rfl) rfl hF rfl fun _ hF => ?_
   refine zaR bd48 rfl (.inl rfl) rfl hF rfl fun _ hF => ?_
   refine zbB (v:=.bool true) (zbH bd43 rfl hF rfl) rfl hF rfl (by simp only [bo51,execOp,zaV (hF.g 53 rfl)];rfl) fun _ hF => ?_
   refine zbB (v:=.bool true) rfl rfl hF rfl (by simp only [bo52,execOp,zaV (hF.g 48 rfl),zaV (hF.g 56 rfl)];rfl) fun _ hF => ?_
   refine zbB (v:=.bool true) rfl rfl hF rfl (by simp only [bo53,execOp,zaV (hF.g 57 rfl)];rfl) fun _ hF => ?_
   exact hk _ _ (hF.three 2 3 58 rfl rfl rfl) hB (Below.refl _ _)
  | false=>
   rw [hq] at hk;rw [hq] at hF;refine zbB (v:=.agg #[.string sw,.string sp]) (zbH bd48 rfl hF rfl) rfl hF rfl (by exact rb49 (zaV (hF.g 2 rfl)) s0 s1) fun _ hF => ?_
   refine zfD (zbH bd48 rfl hF rfl) rfl hF rfl (by exact rb50 (hF.g 54 rfl)) (C 97 (by decide) w) ?_;rintro e9 w1 ⟨rfl,hb⟩;refine ⟨_,rfl,fun _ hF => ?_⟩;have hbb:=hb;have hB:=hB.on hb;refine zbB (v:=.bool (hasB sp 97)) (zbH bd43 rfl hF rfl) rfl hF rfl (by simp only [bo51,execOp,zaV (hF.g 53 rfl),zaV (hF.g 55 rfl)];rfl) fun _ hF => ?_
   refine zbB (v:=.bool (hasB sp 97)) rfl rfl hF rfl (by simp only [bo52,execOp,zaV (hF.g 48 rfl),zaV (hF.g 56 rfl)];rfl) fun _ hF => ?_
   refine zbB (v:=.bool (hasB sp 97)) rfl rfl hF rfl (by simp only [bo53,execOp,zaV (hF.g 57 rfl)];rfl) fun _ hF => ?_
   exact hk _ _ (hF.three 2 3 58 rfl rfl rfl) hB hbb
set_option maxHeartbeats 1000000 in
theorem bc6 (hB:BW sb cb sw sp nm op inn e cd (.slice a1 l1 c1) (.slice a2 l2 c2) (.slice a3 l3 c3) w) (hF:BF sb cb 58 v a) (hk:∀ a' w',BF sb cb 72 (v && (((l2:Int)==0) || (hasB sp 116 || hasB sp 115))) a'→BW sb cb sw sp nm op inn e cd (.slice a1 l1 c1) (.slice a2 l2 c2) (.slice a3 l3 c3) w'→Below w.heap.size w w'→wpList Tryz.prog bareOps Q rest a' w'):wpList Tryz.prog bareOps Q (bo54::bo55::bo56::bo57::bo58::bo59::bo60::bo61::bo62::bo63::bo64::bo65::bo66::bo67::rest) a w:=by
 have C:=fun c hc W=>has_any sw sp c hc W
 have q0:=hB.c6;have s0:=hB.s0;have s1:=hB.s1;cases v with
 | false=>
  refine zaR bd53 rfl (.inl rfl) rfl hF rfl fun _ hF => ?_
  refine zaR bd53 rfl (.inl rfl) rfl hF rfl fun _ hF => ?_
  refine zaR bd53 rfl (.inl rfl) rfl hF rfl fun _ hF => ?_
  refine zaR bd53 rfl (.inl rfl) rfl hF rfl fun _ hF => ?_
  refine zaR bd53 rfl (.inl rfl) rfl hF rfl fun _ hF => ?_
  refine zaR bd58 rfl (.inr rfl) rfl hF rfl fun _ hF => ?_
  refine zaR bd58 rfl (.inr rfl) rfl hF rfl fun _ hF => ?_
  refine zaR bd53 rfl (.inl rfl) rfl hF rfl fun _ hF => ?_
  refine zaR bd53 rfl (.inl rfl) rfl hF rfl fun _ hF => ?_
  refine zaR bd62 rfl (.inr rfl) rfl hF rfl fun _ hF => ?_
  refine zaR bd62 rfl (.inr rfl) rfl hF rfl fun _ hF => ?_
  refine zaR bd53 rfl (.inl rfl) rfl hF rfl fun _ hF => ?_
  refine zbB (v:=.bool false) rfl rfl hF rfl (by simp only [bo66,execOp,zaV (hF.g 58 rfl)];rfl) fun _ hF => ?_
  refine zbB (v:=.bool false) rfl rfl hF rfl (by simp only [bo67,execOp,zaV (hF.g 71 rfl)];rfl) fun _ hF => ?_
  exact hk _ _ (hF.three 2 3 72 rfl rfl rfl) hB (Below.refl _ _)
 | true=>
  refine zbB (v:=.pointer (some ⟨cb,6,none⟩)) (zbH bd53 rfl hF rfl) rfl hF rfl (by exact rb54 (zaV (hF.g 3 rfl))) fun _ hF => ?_
  refine zbB (v:=.slice a2 l2 c2) (zbH bd53 rfl hF rfl) rfl hF rfl (by exact rb55 (zaV (hF.g 59 rfl)) q0) fun _ hF => ?_
  refine zbB (v:=.int .i64 (l2:Int)) (zbH bd53 rfl hF rfl) rfl hF rfl (by exact rb56 (hF.g 60 rfl)) fun _ hF => ?_
  refine zbB (v:=.bool ((l2:Int)==0)) (zbH bd53 rfl hF rfl) rfl hF rfl (by exact rb57 (zaV (hF.g 61 rfl))) fun _ hF => ?_
  refine zbB (v:=.bool ((l2:Int)==0)) (zbH bd53 rfl hF rfl) rfl hF rfl (by simp only [bo58,execOp,zaV (hF.g 62 rfl)];rfl) fun _ hF => ?_
  cases hq:((l2:Int)==0) with
  | true=>
   rw [hq] at hk hF;refine zaR bd58 rfl (.inl rfl) rfl hF rfl fun _ hF => ?_
   refine zaR bd58 rfl (.inl rfl) rfl hF rfl fun _ hF => ?_
   refine zbB (v:=.bool true) (zbH bd53 rfl hF rfl) rfl hF rfl (by simp only [bo61,execOp,zaV (hF.g 63 rfl)];rfl) fun _ hF => ?_
   refine zbB (v:=.bool true) (zbH bd53 rfl hF rfl) rfl hF rfl (by simp only [bo62,execOp,zaV (hF.g 66 rfl)];rfl) fun _ hF => ?_
   refine zaR bd62 rfl (.inl rfl) rfl hF rfl fun _ hF => ?_
   refine zaR bd62 rfl (.inl rfl) rfl hF rfl fun _ hF => ?_
   refine zbB (v:=.bool true) (zbH bd53 rfl hF rfl) rfl hF rfl (by simp only [bo65,execOp,zaV (hF.g 67 rfl)];rfl) fun _ hF => ?_
   refine zbB (v:=.bool true) rfl rfl hF rfl (by simp only [bo66,execOp,zaV (hF.g 58 rfl),zaV (hF.g 70 rfl)];rfl) fun _ hF => ?_
   refine zbB (v:=.bool true) rfl rfl hF rfl (by simp only [bo67,execOp,zaV (hF.g 71 rfl)];rfl) fun _ hF => ?_
   exact hk _ _ (hF.three 2 3 72 rfl rfl rfl) hB (Below.refl _ _)
  | false=>
   rw [hq] at hk hF;refine zbB (v:=.agg #[.string sw,.string sp]) (zbH bd58 rfl hF rfl) rfl hF rfl (by exact rb59 (zaV (hF.g 2 rfl)) s0 s1) fun _ hF => ?_
   refine zfD (zbH bd58 rfl hF rfl) rfl hF rfl (by exact rb60 (hF.g 64 rfl)) (C 116 (by decide) w) ?_;rintro e9 w1 ⟨rfl,hb⟩;refine ⟨_,rfl,fun _ hF => ?_⟩;have hbb:=hb;have hB:=hB.on hb;have s0:=hB.s0;have s1:=hB.s1;refine zbB (v:=.bool (hasB sp 116)) (zbH bd53 rfl hF rfl) rfl hF rfl (by simp only [bo61,execOp,zaV (hF.g 63 rfl),zaV (hF.g 65 rfl)];rfl) fun _ hF => ?_
   refine zbB (v:=.bool (hasB sp 116)) (zbH bd53 rfl hF rfl) rfl hF rfl (by simp only [bo62,execOp,zaV (hF.g 66 rfl)];rfl) fun _ hF => ?_
   cases hh116:hasB sp 116 with
   | true=>
    rw [hh116] at hk hF;refine zaR bd62 rfl (.inl rfl) rfl hF rfl fun _ hF => ?_
    refine zaR bd62 rfl (.inl rfl) rfl hF rfl fun _ hF => ?_
    refine zbB (v:=.bool true) (zbH bd53 rfl hF rfl) rfl hF rfl (by simp only [bo65,execOp,zaV (hF.g 67 rfl)];rfl) fun _ hF => ?_
    refine zbB (v:=.bool true) rfl rfl hF rfl (by simp only [bo66,execOp,zaV (hF.g 58 rfl),zaV (hF.g 70 rfl)];rfl) fun _ hF => ?_
    refine zbB (v:=.bool true) rfl rfl hF rfl (by simp only [bo67,execOp,zaV (hF.g 71 rfl)];rfl) fun _ hF => ?_
    exact hk _ _ (hF.three 2 3 72 rfl rfl rfl) hB hbb
   | false=>
    rw [hh116] at hk hF;refine zbB (v:=.agg #[.string sw,.string sp]) (zbH bd62 rfl hF rfl) rfl hF rfl (by exact rb63 (zaV (hF.g 2 rfl)) s0 s1) fun _ hF => ?_
    refine zfD (zbH bd62 rfl hF rfl) rfl hF rfl (by exact rb64 (hF.g 68 rfl)) (C 115 (by decide) w1) ?_;rintro e9 w2 ⟨rfl,hb⟩;refine ⟨_,rfl,fun _ hF => ?_⟩;have hbb:=hbb.trans (hb.mono hbb.size);have hB:=hB.on hb;refine zbB (v:=.bool (hasB sp 115)) (zbH bd53 rfl hF rfl) rfl hF rfl (by simp only [bo65,execOp,zaV (hF.g 67 rfl),zaV (hF.g 69 rfl)];rfl) fun _ hF => ?_
    refine zbB (v:=.bool (hasB sp 115)) rfl rfl hF rfl (by simp only [bo66,execOp,zaV (hF.g 58 rfl),zaV (hF.g 70 rfl)];rfl) fun _ hF => ?_
    refine zbB (v:=.bool (hasB sp 115)) rfl rfl hF rfl (by simp only [bo67,execOp,zaV (hF.g 71 rfl)];rfl) fun _ hF => ?_
    exact hk _ _ (hF.three 2 3 72 rfl rfl rfl) hB hbb
set_option maxHeartbeats 1000000 in
theorem bc7 (hB:BW sb cb sw sp nm op inn e cd (.slice a1 l1 c1) (.slice a2 l2 c2) (.slice a3 l3 c3) w) (hF:BF sb cb 72 v a) (hk:∀ a' w',BF sb cb 81 (v && (((l3:Int)==0) || (hasB sp 102))) a'→BW sb cb sw sp nm op inn e cd (.slice a1 l1 c1) (.slice a2 l2 c2) (.slice a3 l3 c3) w'→Below w.heap.size w w'→wpList Tryz.prog bareOps Q rest a' w'):wpList Tryz.prog bareOps Q (bo68::bo69::bo70::bo71::bo72::bo73::bo74::bo75::bo76::rest) a w:=by
 have C:=fun c hc W=>has_any sw sp c hc W
 have q0:=hB.c7;have s0:=hB.s0;have s1:=hB.s1;cases v with
 | false=>
  refine zaR bd67 rfl (.inl rfl) rfl hF rfl fun _ hF => ?_
  refine zaR bd67 rfl (.inl rfl) rfl hF rfl fun _ hF => ?_
  refine zaR bd67 rfl (.inl rfl) rfl hF rfl fun _ hF => ?_
  refine zaR bd67 rfl (.inl rfl) rfl hF rfl fun _ hF => ?_
  refine zaR bd67 rfl (.inl rfl) rfl hF rfl fun _ hF => ?_
  refine zaR bd72 rfl (.inr rfl) rfl hF rfl fun _ hF => ?_
  refine zaR bd72 rfl (.inr rfl) rfl hF rfl fun _ hF => ?_
  refine zaR bd67 rfl (.inl rfl) rfl hF rfl fun _ hF => ?_
  refine zbB (v:=.bool false) rfl rfl hF rfl (by simp only [bo76,execOp,zaV (hF.g 72 rfl)];rfl) fun _ hF => ?_
  exact hk _ _ (hF.three 2 3 81 rfl rfl rfl) hB (Below.refl _ _)
 | true=>
  refine zbB (v:=.pointer (some ⟨cb,7,none⟩)) (zbH bd67 rfl hF rfl) rfl hF rfl (by exact rb68 (zaV (hF.g 3 rfl))) fun _ hF => ?_
  refine zbB (v:=.slice a3 l3 c3) (zbH bd67 rfl hF rfl) rfl hF rfl (by exact rb69 (zaV (hF.g 73 rfl)) q0) fun _ hF => ?_
  refine zbB (v:=.int .i64 (l3:Int)) (zbH bd67 rfl hF rfl) rfl hF rfl (by exact rb70 (hF.g 74 rfl)) fun _ hF => ?_
  refine zbB (v:=.bool ((l3:Int)==0)) (zbH bd67 rfl hF rfl) rfl hF rfl (by exact rb71 (zaV (hF.g 75 rfl))) fun _ hF => ?_
  refine zbB (v:=.bool ((l3:Int)==0)) (zbH bd67 rfl hF rfl) rfl hF rfl (by simp only [bo72,execOp,zaV (hF.g 76 rfl)];rfl) fun _ hF => ?_
  cases hq:((l3:Int)==0) with
  | true=>
   rw [hq] at hk hF;refine zaR bd72 rfl (.inl rfl) rfl hF rfl fun _ hF => ?_
   refine zaR bd72 rfl (.inl rfl) rfl hF rfl fun _ hF => ?_
   refine zbB (v:=.bool true) (zbH bd67 rfl hF rfl) rfl hF rfl (by simp only [bo75,execOp,zaV (hF.g 77 rfl)];rfl) fun _ hF => ?_
   refine zbB (v:=.bool true) rfl rfl hF rfl (by simp only [bo76,execOp,zaV (hF.g 72 rfl),zaV (hF.g 80 rfl)];rfl) fun _ hF => ?_
   exact hk _ _ (hF.three 2 3 81 rfl rfl rfl) hB (Below.refl _ _)
  | false=>
   rw [hq] at hk;rw [hq] at hF;refine zbB (v:=.agg #[.string sw,.string sp]) (zbH bd72 rfl hF rfl) rfl hF rfl (by exact rb73 (zaV (hF.g 2 rfl)) s0 s1) fun _ hF => ?_
   refine zfD (zbH bd72 rfl hF rfl) rfl hF rfl (by exact rb74 (hF.g 78 rfl)) (C 102 (by decide) w) ?_;rintro e9 w1 ⟨rfl,hb⟩;refine ⟨_,rfl,fun _ hF => ?_⟩;have hbb:=hb;have hB:=hB.on hb;refine zbB (v:=.bool (hasB sp 102)) (zbH bd67 rfl hF rfl) rfl hF rfl (by simp only [bo75,execOp,zaV (hF.g 77 rfl),zaV (hF.g 79 rfl)];rfl) fun _ hF => ?_
   refine zbB (v:=.bool (hasB sp 102)) rfl rfl hF rfl (by simp only [bo76,execOp,zaV (hF.g 72 rfl),zaV (hF.g 80 rfl)];rfl) fun _ hF => ?_
   exact hk _ _ (hF.three 2 3 81 rfl rfl rfl) hB hbb
end
def bareB (sp nm:ByteArray) (op:Nat) (inn:Bool) (e cd:Int) (l1 l2 l3:Nat):Bool:=(((((((((nm.toList==[]) || (hasB sp 110)) && (((op:Int)==0) || (hasB sp 111))) && ((!inn) || (hasB sp 119))) && ((e == -1) || (hasB sp 101))) && ((cd == -1) || (hasB sp 99))) && (((l1:Int)==0) || (hasB sp 97))) && (((l2:Int)==0) || (hasB sp 116 || hasB sp 115))) && (((l3:Int)==0) || (hasB sp 102)))
set_option maxRecDepth 100000 in
set_option maxHeartbeats 2000000 in
theorem bare_any (sw sp nm:ByteArray) (op:Nat) (inn:Bool) (e cd:Int) (a1 a2 a3:Option Addr) (l1 c1 l2 c2 l3 c3:Nat) (w:World):Calls Tryz.prog 188 #[.agg #[.string sw,.string sp],.agg #[.string nm,.int .u8 (op:Int),.bool inn,.int .i64 e,.int .i64 cd,.slice a1 l1 c1,.slice a2 l2 c2,.slice a3 l3 c3]] w fun e' w'=>e'=.returned (.bool (bareB sp nm op inn e cd l1 l2 l3))∧Below w.heap.size w w':=by
 go_enter Tryz.func188,Tryz.ntmps188;refine wp_seq ?_;refine wp_region_list ?_;refine wl_op (d:=2) (n:=82) (v:=.pointer (some ⟨w.heap.size,0,none⟩)) (w':=w.alloc (.cells #[.string sw,.string sp] 210)) rfl rfl rfl (by decide) (by simp only [execOp];go_simp) (fun x2 h => ?_);have f1:=(h.far 1 (by decide)).trans rfl;have f2:=h.at_;have hs:=h.size;have df:=h.df.trans rfl;clear h;refine wl_op (d:=3) (v:=.pointer (some ⟨w.heap.size+1,0,none⟩)) (w':=(w.alloc (.cells #[.string sw,.string sp] 210)).alloc (.cells #[.string nm,.int .u8 (op:Int),.bool inn,.int .i64 e,.int .i64 cd,.slice a1 l1 c1,.slice a2 l2 c2,.slice a3 l3 c3] 226)) rfl rfl hs (by decide) (by simp only [execOp,zaV f1];go_simp) (fun x3 h => ?_);replace f2:=(h.far 2 (by decide)).trans f2;have f3:=h.at_;replace hs:=h.size;replace df:=h.df.trans df;clear h;refine wl_op (d:=4) (v:=.bool false) (w':=(w.alloc (.cells #[.string sw,.string sp] 210)).alloc (.cells #[.string nm,.int .u8 (op:Int),.bool inn,.int .i64 e,.int .i64 cd,.slice a1 l1 c1,.slice a2 l2 c2,.slice a3 l3 c3] 226)) rfl rfl hs (by decide) rfl (fun x4 h => ?_);replace f2:=(h.far 2 (by decide)).trans f2;replace f3:=(h.far 3 (by decide)).trans f3;have f4:=h.at_;replace hs:=h.size;replace df:=h.df.trans df;clear h;refine wpList_nil ?_;simp only [Exit.then];obtain ⟨W,hW⟩:∃ W,(w.alloc (.cells #[.string sw,.string sp] 210)).alloc (.cells #[.string nm,.int .u8 (op:Int),.bool inn,.int .i64 e,.int .i64 cd,.slice a1 l1 c1,.slice a2 l2 c2,.slice a3 l3 c3] 226)=W:=⟨_,rfl⟩;have hb:Below w.heap.size w W:=by
  subst hW;exact belowT
 have hB:BW w.heap.size (w.heap.size+1) sw sp nm op inn e cd (.slice a1 l1 c1) (.slice a2 l2 c2) (.slice a3 l3 c3) W:=by
  subst hW;constructor<;>go_simp
 rw [hW];clear hW;refine wp_seq ?_;refine wp_region_list (ops:=bareOps) ?_;show wpList Tryz.prog bareOps _ (bo0::bo1::bo2::bo3::bo4::bo5::bo6::bo7::bo8::bo9::bo10::bo11::bo12::bo13::bo14::bo15::bo16::bo17::bo18::bo19::bo20::bo21::bo22::bo23::bo24::bo25::bo26::bo27::bo28::bo29::bo30::bo31::bo32::bo33::bo34::bo35::bo36::bo37::bo38::bo39::bo40::bo41::bo42::bo43::bo44::bo45::bo46::bo47::bo48::bo49::bo50::bo51::bo52::bo53::bo54::bo55::bo56::bo57::bo58::bo59::bo60::bo61::bo62::bo63::bo64::bo65::bo66::bo67::bo68::bo69::bo70::bo71::bo72::bo73::bo74::bo75::bo76::bo77::[]) _ _;refine bc0 hB (ks3 hs df f2 f3 f4) ?_;intro a10 w10 hF0 hB0 hb0;refine bc1 hB0 hF0 ?_;intro a11 w11 hF1 hB1 hb1;refine bc2 hB1 hF1 ?_;intro a12 w12 hF2 hB2 hb2;refine bc3 hB2 hF2 ?_;intro a13 w13 hF3 hB3 hb3;refine bc4 hB3 hF3 ?_;intro a14 w14 hF4 hB4 hb4;refine bc5 hB4 hF4 ?_;intro a15 w15 hF5 hB5 hb5;refine bc6 hB5 hF5 ?_;intro a16 w16 hF6 hB6 hb6;refine bc7 hB6 hF6 ?_;intro a17 w17 hF7 hB7 hb7;have hs:=hF7.size;have df:=hF7.df;have f81:=hF7.g 81 rfl;refine wl_op (d:=4) (w':=w17) rfl rfl hs (by decide) (by simp only [bo77,execOp,zaV f81];rfl) (fun a9 h => ?_);have f4:=h.at_;replace df:=h.df.trans df;refine wpList_nil ?_;simp only [Exit.then];refine wp_ret ?_;obtain ⟨tm,ds⟩:=a9;simp only at df f4;subst df;have b1:=hb0.trans (hb1.mono hb0.size);have b2:=b1.trans (hb2.mono b1.size);have b3:=b2.trans (hb3.mono b2.size);have b4:=b3.trans (hb4.mono b3.size);have b5:=b4.trans (hb5.mono b4.size);have b6:=b5.trans (hb6.mono b5.size)
 have b7:=b6.trans (hb7.mono b6.size);have hbb:=hb.trans (b7.mono hb.size);refine bodyPost_ret (v:=.bool (bareB sp nm op inn e cd l1 l2 l3)) ?_ rfl ⟨rfl,hbb⟩;simp [results,Tryz.results188,Array.getD_eq_getD_getElem?,f4,bareB]
end Go.Proofs.YtfljimpgnlfipaaGreatDoor
