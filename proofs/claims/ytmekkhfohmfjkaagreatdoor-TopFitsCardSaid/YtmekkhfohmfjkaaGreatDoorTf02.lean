/-
  Part 2 of the proof: Zed, Round, PShape, MapG, POpW, PDecl.
-/
import Derived.Test.YtmekkhfohmfjkaaGreatDoorProg
import Derived.OrdersHeld
import Derived.Deep.RegionHeld3
import Derived.Test.YtmekkhfohmfjkaaGreatDoorChecked
import Derived.RangeFuncNested
import Derived.RangeFuncBound
import Derived.RangeFuncCalls
import Derived.RangeFuncLeaves
import Derived.Shelf.Abstract
import Derived.Shelf.RegionOpen
import Derived.WalkKit
import Derived.OwnWalkIn
import Derived.TacticsInMore
import Derived.LoopNIn
import Derived.LoopIn
import Derived.BigQuiet
import Derived.Test.YtmekkhfohmfjkaaGreatDoorTf00
import Derived.Carry
import Derived.OneCell
import Derived.OwnWalk
import Derived.Deep.DeepMust
import Derived.Deep.LoopGhost
import Derived.Deep.OwnRows
import Derived.Deep.AppendLies
import Derived.Laws.MakeOwn
import Derived.Laws.ResultCell
import Derived.Laws.StructEq
import Derived.Lib.SmallJoins
import Derived.Lib.SliceRun
import Derived.Lib.QuietBelow
import Derived.Maps.OwnRows
import Derived.Maps.Own
import Derived.WideKeyEntry
import Derived.DeepKeys4
import Derived.StringKeys
import Derived.Deep.WholeRow
namespace Go.Proofs.YtmekkhfohmfjkaaGreatDoor
open Go
section
variable {P : Program} {ops : Array Oper} {Q : Exit → Act → World → Prop} {md : Region.Mode} {S : World → Prop} {z : Nat}
def wpZ (P:Program) (md:Region.Mode) (ops:Array Oper) (Q:Exit→Act→World→Prop) (S:World→Prop) (z:Nat):Nat→Array Bool→Act→World→Prop
 | 0=>fun l a w=>Region.ready md ops l=[]∧Q .normal a w
 | n+1=>fun l a w=>(Region.ready md ops l=[]→Q .normal a w)∧∀ i∈Region.ready md ops l,wpOp P ops Q i (fun b v=>(i≠z→S v)∧wpZ P md ops Q S z n (l.setIfInBounds i true) b v) a w
theorem wpZ_any:∀ (n:Nat) (l:Array Bool) (a:Act) (w:World),wpZ P md ops Q S z n l a w→wpAny P md ops Q n l a w:=by
 intro n
 induction n with
 | zero=>exact fun _ _ _ h=>h
 | succ n ih=>exact fun l a w h=>⟨h.1,fun i hi=>wpOp_mono (fun b v hb=>ih _ b v hb.2) (h.2 i hi)⟩
structure Behind (md:Region.Mode) (ops:Array Oper) (i z:Nat) (D:List Nat):Prop where
 has:z∈D
 free:i ∉ D
 waits:∀ d∈D,∃ o,ops[d]?=some o∧∃ e∈o.after,Region.binds md e=true∧(e.on=i∨e.on∈D)
theorem not_both {l:Array Bool} {j:Nat} (h0:l.getD j true=false) (h1:l.getD j false=true):False:=by
 rcases Nat.lt_or_ge j l.size with h|h
 ·simp [h] at h0 h1;rw [h0] at h1;cases h1
 ·simp [h] at h0
theorem wpZ_first {i:Nat} {o:Oper} {v:Value} {D:List Nat} (hi:ops[i]?=some o) (hsel:Region.noSelect ops=true) (hD:Behind md ops i z D) (hQ:∀ c a w,Q (.panic c) (a.put o.dst v) w→Q (.panic c) a w) :
  ∀ (n:Nat) (l:Array Bool) (a:Act) (w:World),(∀ j oj,ops[j]?=some oj→j≠i→l.getD j true=false→(∀ e∈oj.after,Region.binds md e=true→e.on≠i)→o.apart ops oj=true)→
   i∈Region.ready md ops l→(∀ d∈D,l.getD d true=false)→YieldsIf P ops S o v a→S w→wpZ P md ops Q S z n (l.setIfInBounds i true) (a.put o.dst v) w→wpZ P md ops Q S z (n+1) l a w:=by
 intro n
 induction n with
 | zero=>
  intro l a w _ hr _ hy hS H
  refine ⟨fun e=>absurd (e▸hr) (by simp),fun j hj => ?_⟩
  by_cases hji:j=i
  ·subst hji
   exact hy.wpOp hi hS ⟨fun _=>hS,H⟩
  ·have:=ready_mono hj hji
   rw [H.1] at this
   simp at this
 | succ n ih=>
  intro l a w hap hr hl hy hS H
  refine ⟨fun e=>absurd (e▸hr) (by simp),fun j hj => ?_⟩
  by_cases hji:j=i
  ·subst hji
   exact hy.wpOp hi hS ⟨fun _=>hS,H⟩
  ·obtain ⟨hun,oj,hoj,hall⟩:=mem_ready.1 hj
   have hri:=(mem_ready.1 hr).1
   have hjD:j ∉ D:=fun hm=>by
    obtain ⟨o',ho',e,he,hb,hon⟩:=hD.waits j hm
    obtain rfl:oj=o':=by rw [hoj] at ho';exact Option.some.inj ho'
    rcases hon with hon|hon
    ·exact not_both hri (hon▸hall e he hb)
    ·exact not_both (hl _ hon) (hall e he hb)
   have hjz:j≠z:=fun e=>hjD (e▸hD.has)
   have hstep:=wpOp_putIf hoj (hap j oj hoj hji hun fun e he hb hon=>not_both hri (hon▸hall e he hb)) (fun cs b=>Region.noSelect_spec hsel i o cs b hi) (fun cs b=>Region.noSelect_spec hsel j oj cs b hoj) hQ hy (H.2 j (ready_mono hj hji))
   refine wpOp_mono (fun b u hb => ?_) hstep
   obtain ⟨hyb,hSu,hrest⟩:=hb
   refine ⟨hSu,ih _ b u (fun k ok hok hki hkun hno=>hap k ok hok hki ?_ hno) (ready_mono hr (Ne.symm hji)) (fun d hd => ?_) hyb (hSu hjz) ?_⟩
   ·by_cases hjk:j=k
    ·exact hjk▸hun
    ·rwa [getD_set_ne true hjk] at hkun
   ·rw [getD_set_ne true (fun e:j=d=>hjD (by rw [e];exact hd))]
    exact hl d hd
   ·rwa [Array.setIfInBounds_comm _ _ hji]
def behindB (md:Region.Mode) (ops:Array Oper) (l:Array Bool) (i z:Nat) (D:List Nat):Bool:=
 D.contains z && !D.contains i && D.all fun d => !(l.getD d true) && match ops[d]? with|some o=>o.after.any fun e=>Region.binds md e && (e.on==i || D.contains e.on)|none=>false
theorem wpZ_take {i:Nat} {o:Oper} {v:Value} {n:Nat} {l:Array Bool} {a:Act} {w:World} (D:List Nat) (hi:ops[i]?=some o) (hsel:Region.noSelect ops=true) (hf:Region.free md ops l i=true) (hr:(Region.ready md ops l).contains i=true) (hD:behindB md ops l i z D=true)
  (hQ:∀ c a w,Q (.panic c) (a.put o.dst v) w→Q (.panic c) a w) (hy:YieldsIf P ops S o v a) (hS:S w) (h:wpZ P md ops Q S z n (l.setIfInBounds i true) (a.put o.dst v) w):wpZ P md ops Q S z (n+1) l a w:=by
 simp only [behindB,Bool.and_eq_true,List.all_eq_true,Bool.not_eq_true',List.contains_iff_mem] at hD
 obtain ⟨⟨h1,h2⟩,h3⟩:=hD
 refine wpZ_first (D:=D) hi hsel ⟨h1,by simpa using h2,fun d hd => ?_⟩ hQ n l a w (Region.free_spec hi hf) (by simpa using hr) (fun d hd=>(h3 d hd).1) hy hS h
 have:=(h3 d hd).2
 cases ho:ops[d]? with
 | none=>rw [ho] at this;simp at this
 | some o'=>
  rw [ho] at this
  obtain ⟨e,he,hb⟩:=Array.any_eq_true'.1 this
  simp only [Bool.and_eq_true,Bool.or_eq_true,beq_iff_eq,List.contains_iff_mem] at hb
  exact ⟨o',rfl,e,he,hb.1,hb.2⟩
theorem zaF {i:Nat} {o:Oper} {v:Value} {n:Nat} {l:Array Bool} {a:Act} {w:World} (D:List Nat) (hi:ops[i]?=some o) (hp:∀ c (a:Act) w d u,Q (.panic c) (a.put (some d) u) w→Q (.panic c) a w) (hS:S w) (hy:∀ y,S y→(execOp a.eval o).run P y=.ok (.value v) y)
  (h:wpZ P md ops Q S z n (l.setIfInBounds i true) (a.put o.dst v) w) (hw:Region.wanted o (yielded ops a.tmps)=true:=by rfl) (hsel:Region.noSelect ops=true:=by kernel_rfl) (hf:Region.free md ops l i=true:=by kernel_rfl) (hr:(Region.ready md ops l).contains i=true:=by kernel_rfl) (hD:behindB md ops l i z D=true:=by kernel_rfl):wpZ P md ops Q S z (n+1) l a w:=by
 refine wpZ_take D hi hsel hf hr hD (fun c a w h => ?_) (.inl ⟨hw,hy⟩) hS h
 cases ho:o.dst with
 | none=>rw [ho] at h;exact h
 | some d=>rw [ho] at h;exact hp c a w d v h
theorem zaW {rs:List Nat} {n:Nat} {l:Array Bool} {a:Act} {w:World} (hr:Region.ready md ops l=rs) (hne:rs≠[]) (h:∀ i∈rs,wpOp P ops Q i (fun b v=>(i≠z→S v)∧wpZ P md ops Q S z n (l.setIfInBounds i true) b v) a w):wpZ P md ops Q S z (n+1) l a w:=by
 subst hr
 exact ⟨fun e=>absurd e hne,h⟩
theorem wpZ_done {l:Array Bool} {a:Act} {w:World} (hr:Region.ready md ops l=[]) (h:Q .normal a w) (n:Nat):wpZ P md ops Q S z n l a w:=by
 cases n with
 | zero=>exact ⟨hr,h⟩
 | succ n=>exact ⟨fun _=>h,by simp [hr]⟩
theorem zbP {l:Array Bool} {a:Act} {w:World} (hr:Region.ready md ops l=[z]) (hd:Region.ready md ops (l.setIfInBounds z true)=[]) (h:wpOp P ops Q z (fun b v=>Q .normal b v) a w) (n:Nat):wpZ P md ops Q S z (n+1) l a w:=
 zaW hr (by simp) fun i hi=>by
  obtain rfl:i=z:=by simpa using hi
  exact wpOp_mono (fun b v hb=>⟨fun e=>absurd rfl e,wpZ_done hd hb _⟩) h
theorem zaN {i:Nat} {o:Oper} {K:Act→World→Prop} {a:Act} {w:World} (ho:ops[i]?=some o) (hg:o.guard=none) (h:∀ K':Act→World→Prop,(∀ a w,K a w→K' a w)→Oper.wp P o a w K' Q):wpOp P ops Q i K a w:=by
 refine wpOp_step ho fun K' hK => ?_
 rw [if_pos (by unfold Region.wanted;rw [hg])]
 exact h K' hK
theorem zbD {id:Nat} {a:Act} {w:World} (S:World→Prop) (z:Nat) (hm:P.follows .mixedOrders=true) (h:wpZ P .any ops Q S z ops.size (Array.replicate ops.size false) a w.drew):(Code.region id ops true).wp P Q a w:=
 wp_region_any hm (wpZ_any _ _ _ _ h)
end
def opsA (f:Nat→Oper) (z:Nat):Array Oper:=((List.range (z+1)).map f).toArray
theorem zaA (f:Nat→Oper) (z:Nat) {i:Nat} (h:i≤z):(opsA f z)[i]?=some (f i):=by
 have hi:i<z+1:=by omega
 simp [opsA,hi]
open Go.RowKit
abbrev WR (l:Nat):Fence:=Fence.wide.inRound l
def noDefer (ops:Array Oper):Bool:=ops.all fun o=>match o.op with|.defer _=>false|_=>true
theorem noDefer_spec {ops:Array Oper} (h:noDefer ops=true) {i:Nat} {o:Oper} (ho:ops[i]?=some o) (c:Call):o.op≠.defer c:=by
 intro e
 have hm:o∈ops:=Array.mem_of_getElem? ho
 have h1:=(Array.all_eq_true'.1 h) o hm
 rw [e] at h1
 cases h1
theorem rowsIn_wide {n l:Nat} {P:Program} {row:String} {args:Array Value} {w:World} {R:Value→World→Prop} (h:Rows P row args w R):RowsIn (WR l) n P row args w R:=by
 intro c cs _
 obtain ⟨v,w',hr,hs⟩:=h c cs
 exact ⟨v,w',hr,stepsIn_wide.2 hs⟩
theorem uponIn_of {l n:Nat} {P:Program} {o:Oper} {a:Act} {K:Act→World→Prop} {Q:Exit→Act→World→Prop} {r:Result Next} (h:o.upon P a K Q r):o.uponIn (WR l) n P a K Q r:=by
 cases r with
 | ok x w'=>
  cases x with
  | value v=>exact h
  | skip=>exact h
  | defer d=>exact h
  | enter f args=>exact ⟨fun hd=>(by cases hd),CallsIn.inRound l (callsIn_wide.2 h)⟩
  | row row args=>exact ⟨fun hd=>(by cases hd),rowsIn_wide h⟩
  | _=>exact h.elim
 | halt x w'=>cases x<;>first|exact h|exact h.elim
theorem opIn_of {l n:Nat} {P:Program} {o:Oper} {a:Act} {w:World} {K:Act→World→Prop} {Q:Exit→Act→World→Prop} (hd:∀ c,o.op≠.defer c) (h:o.wp P a w K Q):o.wpIn (WR l) n P a w K Q:=by
 refine ⟨fun _ _=>trivial,?_⟩
 rw [show (WR l).round=some l from rfl,Oper.semAt_some l _ _ hd]
 exact uponIn_of h
theorem wpOpIn_of {l n:Nat} {P:Program} {ops:Array Oper} {Q:Exit→Act→World→Prop} (hd:noDefer ops=true) (hQ:¬ LetsOut Q) {i:Nat} {K:Act→World→Prop} {a:Act} {w:World} (h:wpOp P ops Q i K a w) :
  wpOpIn (WR l) n P ops Q i K a w:=by
 unfold wpOp at h
 unfold wpOpIn
 cases ho:ops[i]? with
 | none=>rw [ho] at h;exact h
 | some o=>
  rw [ho] at h
  simp only at h ⊢
  split
  ·rename_i hw
   rw [if_pos hw] at h
   rcases h with h|⟨_,h⟩
   ·exact opIn_of (noDefer_spec hd ho) h
   ·exact absurd h hQ
  ·rename_i hw
   rw [if_neg hw] at h
   exact ⟨fun _ _=>trivial,h⟩
theorem wpAnyIn_of {l n:Nat} {P:Program} {md:Region.Mode} {ops:Array Oper} {Q:Exit→Act→World→Prop} (hd:noDefer ops=true) (hQ:¬ LetsOut Q) :
  ∀ (fuel:Nat) (listed:Array Bool) (a:Act) (w:World),wpAny P md ops Q fuel listed a w→wpAnyIn (WR l) n P md ops Q fuel listed a w
 | 0,_,_,_,h=>h
 | fuel+1,_,_,_,h=>⟨h.1,fun i hi=>wpOpIn_mono (fun a' w' h'=>wpAnyIn_of hd hQ fuel _ a' w' h') (wpOpIn_of hd hQ (h.2 i hi))⟩
def Goes (R:Act→World→Prop):Exit→Act→World→Prop
 | .normal,a,w=>R a w
 | _,_,_=>False
theorem goes_out (R:Act→World→Prop):¬ LetsOut (Goes R):=fun ⟨_,_,h⟩=>h
theorem goes_imp {R:Act→World→Prop} {Q:Exit→Act→World→Prop} (h:∀ a w,R a w→Q .normal a w):∀ e a w,Goes R e a w→Q e a w:=fun e a w hg=>by cases e<;>first|exact h a w hg|exact hg.elim
theorem Tryz.mixed:Tryz.prog.follows .mixedOrders=true:=by kernel_rfl
open Go.RowKit Go.Deep Go.MapKept
theorem zaC {fn:Func} {p:Tmp} {ty:TypeId} (h:fn.results=#[.cell p ty]) (tmps:Array Value) (P:Program) (w:World) :
  (results fn tmps).run P w=((asAddr (tmps.getD p undef)).run P w).andThen fun a w₁=>(loadVar ty a).run P w₁:=by
 simp only [results,h]
 simp [Sem.run_bind,Result.andThen]
def ShPost (w:World) (s p:ByteArray) (e:Ending) (w':World):Prop:=e=.returned (.agg #[.string s,.string p])∧Below w.heap.size w w'
theorem stmtSh1 (w:World):Calls Tryz.prog 79 #[.int .u8 1] w (ShPost w ⟨#[115,101,116]⟩ ⟨#[110,101]⟩):=by
 go_enter Tryz.func79,Tryz.ntmps79
 go_wp2
 (try simp only [Exit.inBlock,Exit.then])
 refine bodyPost_ret (v:=.agg #[.string ⟨#[115,101,116]⟩,.string ⟨#[110,101]⟩]) ?_ rfl ⟨by simp,?_⟩
 ·rw [zaC rfl]
  go_simp
 ·exact belowT
theorem stmtSh2 (w:World):Calls Tryz.prog 79 #[.int .u8 2] w (ShPost w ⟨#[102,111,108,100]⟩ ⟨#[110,111,101,99]⟩):=by
 go_enter Tryz.func79,Tryz.ntmps79
 go_wp2
 (try simp only [Exit.inBlock,Exit.then])
 refine bodyPost_ret (v:=.agg #[.string ⟨#[102,111,108,100]⟩,.string ⟨#[110,111,101,99]⟩]) ?_ rfl ⟨by simp,?_⟩
 ·rw [zaC rfl]
  go_simp
 ·exact belowT
theorem stmtSh3 (w:World):Calls Tryz.prog 79 #[.int .u8 3] w (ShPost w ⟨#[101,97,99,104]⟩ ⟨#[97]⟩):=by
 go_enter Tryz.func79,Tryz.ntmps79
 go_wp2
 (try simp only [Exit.inBlock,Exit.then])
 refine bodyPost_ret (v:=.agg #[.string ⟨#[101,97,99,104]⟩,.string ⟨#[97]⟩]) ?_ rfl ⟨by simp,?_⟩
 ·rw [zaC rfl]
  go_simp
 ·exact belowT
theorem stmtSh4 (w:World):Calls Tryz.prog 79 #[.int .u8 4] w (ShPost w ⟨#[105,102]⟩ ⟨#[101,116,102]⟩):=by
 go_enter Tryz.func79,Tryz.ntmps79
 go_wp2
 (try simp only [Exit.inBlock,Exit.then])
 refine bodyPost_ret (v:=.agg #[.string ⟨#[105,102]⟩,.string ⟨#[101,116,102]⟩]) ?_ rfl ⟨by simp,?_⟩
 ·rw [zaC rfl]
  go_simp
 ·exact belowT
theorem stmtSh5 (w:World):Calls Tryz.prog 79 #[.int .u8 5] w (ShPost w ⟨#[119,104,105,108,101]⟩ ⟨#[101,115]⟩):=by
 go_enter Tryz.func79,Tryz.ntmps79
 go_wp2
 (try simp only [Exit.inBlock,Exit.then])
 refine bodyPost_ret (v:=.agg #[.string ⟨#[119,104,105,108,101]⟩,.string ⟨#[101,115]⟩]) ?_ rfl ⟨by simp,?_⟩
 ·rw [zaC rfl]
  go_simp
 ·exact belowT
theorem stmtSh6 (w:World):Calls Tryz.prog 79 #[.int .u8 6] w (ShPost w ⟨#[108,111,111,112]⟩ ⟨#[101,115]⟩):=by
 go_enter Tryz.func79,Tryz.ntmps79
 go_wp2
 (try simp only [Exit.inBlock,Exit.then])
 refine bodyPost_ret (v:=.agg #[.string ⟨#[108,111,111,112]⟩,.string ⟨#[101,115]⟩]) ?_ rfl ⟨by simp,?_⟩
 ·rw [zaC rfl]
  go_simp
 ·exact belowT
theorem stmtSh7 (w:World):Calls Tryz.prog 79 #[.int .u8 7] w (ShPost w ⟨#[98,102,115]⟩ ⟨#[110,101,115]⟩):=by
 go_enter Tryz.func79,Tryz.ntmps79
 go_wp2
 (try simp only [Exit.inBlock,Exit.then])
 refine bodyPost_ret (v:=.agg #[.string ⟨#[98,102,115]⟩,.string ⟨#[110,101,115]⟩]) ?_ rfl ⟨by simp,?_⟩
 ·rw [zaC rfl]
  go_simp
 ·exact belowT
theorem actSh1 (w:World):Calls Tryz.prog 82 #[.int .u8 1] w (ShPost w ⟨#[112,117,116]⟩ ⟨#[110,101,99]⟩):=by
 go_enter Tryz.func82,Tryz.ntmps82
 go_wp2
 (try simp only [Exit.inBlock,Exit.then])
 refine bodyPost_ret (v:=.agg #[.string ⟨#[112,117,116]⟩,.string ⟨#[110,101,99]⟩]) ?_ rfl ⟨by simp,?_⟩
 ·rw [zaC rfl]
  go_simp
 ·exact belowT
theorem actSh2 (w:World):Calls Tryz.prog 82 #[.int .u8 2] w (ShPost w ⟨#[112,117,115,104]⟩ ⟨#[110,111,119,101,99]⟩):=by
 go_enter Tryz.func82,Tryz.ntmps82
 go_wp2
 (try simp only [Exit.inBlock,Exit.then])
 refine bodyPost_ret (v:=.agg #[.string ⟨#[112,117,115,104]⟩,.string ⟨#[110,111,119,101,99]⟩]) ?_ rfl ⟨by simp,?_⟩
 ·rw [zaC rfl]
  go_simp
 ·exact belowT
theorem actSh3 (w:World):Calls Tryz.prog 82 #[.int .u8 3] w (ShPost w ⟨#[112,117,108,108]⟩ ⟨#[110,111,119,101]⟩):=by
 go_enter Tryz.func82,Tryz.ntmps82
 go_wp2
 (try simp only [Exit.inBlock,Exit.then])
 refine bodyPost_ret (v:=.agg #[.string ⟨#[112,117,108,108]⟩,.string ⟨#[110,111,119,101]⟩]) ?_ rfl ⟨by simp,?_⟩
 ·rw [zaC rfl]
  go_simp
 ·exact belowT
theorem exprSh1 (w:World):Calls Tryz.prog 85 #[.int .u8 1] w (ShPost w ⟨#[]⟩ ⟨#[]⟩):=by
 go_enter Tryz.func85,Tryz.ntmps85
 go_wp2
 (try simp only [Exit.inBlock,Exit.then])
 refine bodyPost_ret (v:=.agg #[.string ⟨#[]⟩,.string ⟨#[]⟩]) ?_ rfl ⟨by simp,?_⟩
 ·rw [zaC rfl]
  go_simp
 ·exact belowT
theorem exprSh2 (w:World):Calls Tryz.prog 85 #[.int .u8 2] w (ShPost w ⟨#[]⟩ ⟨#[]⟩):=by
 go_enter Tryz.func85,Tryz.ntmps85
 go_wp2
 (try simp only [Exit.inBlock,Exit.then])
 refine bodyPost_ret (v:=.agg #[.string ⟨#[]⟩,.string ⟨#[]⟩]) ?_ rfl ⟨by simp,?_⟩
 ·rw [zaC rfl]
  go_simp
 ·exact belowT
theorem exprSh3 (w:World):Calls Tryz.prog 85 #[.int .u8 3] w (ShPost w ⟨#[111,119,110]⟩ ⟨#[110]⟩):=by
 go_enter Tryz.func85,Tryz.ntmps85
 go_wp2
 (try simp only [Exit.inBlock,Exit.then])
 refine bodyPost_ret (v:=.agg #[.string ⟨#[111,119,110]⟩,.string ⟨#[110]⟩]) ?_ rfl ⟨by simp,?_⟩
 ·rw [zaC rfl]
  go_simp
 ·exact belowT
theorem exprSh4 (w:World):Calls Tryz.prog 85 #[.int .u8 4] w (ShPost w ⟨#[102,97,114]⟩ ⟨#[110]⟩):=by
 go_enter Tryz.func85,Tryz.ntmps85
 go_wp2
 (try simp only [Exit.inBlock,Exit.then])
 refine bodyPost_ret (v:=.agg #[.string ⟨#[102,97,114]⟩,.string ⟨#[110]⟩]) ?_ rfl ⟨by simp,?_⟩
 ·rw [zaC rfl]
  go_simp
 ·exact belowT
theorem exprSh5 (w:World):Calls Tryz.prog 85 #[.int .u8 5] w (ShPost w ⟨#[118,105,97]⟩ ⟨#[110]⟩):=by
 go_enter Tryz.func85,Tryz.ntmps85
 go_wp2
 (try simp only [Exit.inBlock,Exit.then])
 refine bodyPost_ret (v:=.agg #[.string ⟨#[118,105,97]⟩,.string ⟨#[110]⟩]) ?_ rfl ⟨by simp,?_⟩
 ·rw [zaC rfl]
  go_simp
 ·exact belowT
theorem exprSh6 (w:World):Calls Tryz.prog 85 #[.int .u8 6] w (ShPost w ⟨#[105,100]⟩ ⟨#[]⟩):=by
 go_enter Tryz.func85,Tryz.ntmps85
 go_wp2
 (try simp only [Exit.inBlock,Exit.then])
 refine bodyPost_ret (v:=.agg #[.string ⟨#[105,100]⟩,.string ⟨#[]⟩]) ?_ rfl ⟨by simp,?_⟩
 ·rw [zaC rfl]
  go_simp
 ·exact belowT
theorem exprSh7 (w:World):Calls Tryz.prog 85 #[.int .u8 7] w (ShPost w ⟨#[102,97,114,105,100]⟩ ⟨#[]⟩):=by
 go_enter Tryz.func85,Tryz.ntmps85
 go_wp2
 (try simp only [Exit.inBlock,Exit.then])
 refine bodyPost_ret (v:=.agg #[.string ⟨#[102,97,114,105,100]⟩,.string ⟨#[]⟩]) ?_ rfl ⟨by simp,?_⟩
 ·rw [zaC rfl]
  go_simp
 ·exact belowT
theorem exprSh8 (w:World):Calls Tryz.prog 85 #[.int .u8 8] w (ShPost w ⟨#[100,101,103]⟩ ⟨#[119]⟩):=by
 go_enter Tryz.func85,Tryz.ntmps85
 go_wp2
 (try simp only [Exit.inBlock,Exit.then])
 refine bodyPost_ret (v:=.agg #[.string ⟨#[100,101,103]⟩,.string ⟨#[119]⟩]) ?_ rfl ⟨by simp,?_⟩
 ·rw [zaC rfl]
  go_simp
 ·exact belowT
theorem exprSh9 (w:World):Calls Tryz.prog 85 #[.int .u8 9] w (ShPost w ⟨#[99,111,117,110,116]⟩ ⟨#[]⟩):=by
 go_enter Tryz.func85,Tryz.ntmps85
 go_wp2
 (try simp only [Exit.inBlock,Exit.then])
 refine bodyPost_ret (v:=.agg #[.string ⟨#[99,111,117,110,116]⟩,.string ⟨#[]⟩]) ?_ rfl ⟨by simp,?_⟩
 ·rw [zaC rfl]
  go_simp
 ·exact belowT
theorem exprSh10 (w:World):Calls Tryz.prog 85 #[.int .u8 10] w (ShPost w ⟨#[]⟩ ⟨#[]⟩):=by
 go_enter Tryz.func85,Tryz.ntmps85
 go_wp2
 (try simp only [Exit.inBlock,Exit.then])
 refine bodyPost_ret (v:=.agg #[.string ⟨#[]⟩,.string ⟨#[]⟩]) ?_ rfl ⟨by simp,?_⟩
 ·rw [zaC rfl]
  go_simp
 ·exact belowT
open Go.RowKit Go.MapKept Go.WideMaps Go.WideShapes
open Go.ChangeMaps (setBlock heap_setBlock_same heap_setBlock_other)
theorem nodup_at {l:List MapEntry} (h:(l.map (·.key)).Nodup) {i j:Nat} {x y:MapEntry} (hi:l[i]?=some x) (hj:l[j]?=some y) (e:x.key=y.key):i=j:=by
 have hi':(l.map (·.key))[i]?=some x.key:=by simp [hi]
 have hj':(l.map (·.key))[j]?=some y.key:=by simp [hj]
 have li:i<(l.map (·.key)).length:=(List.getElem?_eq_some_iff.1 hi').1
 have lj:j<(l.map (·.key)).length:=(List.getElem?_eq_some_iff.1 hj').1
 have hne:=List.pairwise_iff_getElem.1 h
 have a1:=(List.getElem?_eq_some_iff.1 hi').2
 have a2:=(List.getElem?_eq_some_iff.1 hj').2
 rcases Nat.lt_trichotomy i j with h1|h1|h1
 ·exact absurd (a1.trans (e.trans a2.symm)) (hne i j li lj h1)
 ·exact h1
 ·exact absurd (a2.trans (e.symm.trans a1.symm)) (hne j i lj li h1)
abbrev Fn:=ByteArray→Option Value
def upd (f:Fn) (s:ByteArray) (d:Value):Fn:=fun t=>if t=s then some d else f t
def Says (es:Array MapEntry) (clock:Nat) (f:Fn):Prop:=
 Stamped es clock∧(∀ x∈es.toList,∃ s d,s.size≤maxLen∧x.key=.string s∧f s=some d∧x.val=d)∧(∀ s d,f s=some d→∃ x∈es.toList,x.key=.string s)
def MapG (w:World) (mb:Nat) (f:Fn):Prop:=∃ es clock,w.heap[mb]?=some (.map es clock)∧Says es clock f
theorem MapG.same {w w':World} {mb:Nat} {f:Fn} (h:MapG w mb f) (e:w'.heap[mb]?=w.heap[mb]?):MapG w' mb f:=by
 obtain ⟨es,clock,hb,hs⟩:=h
 exact ⟨es,clock,e.trans hb,hs⟩
theorem MapG.lt {w:World} {mb:Nat} {f:Fn} (h:MapG w mb f):mb<w.heap.size:=by
 obtain ⟨es,clock,hb,_⟩:=h
 exact (Array.getElem?_eq_some_iff.1 hb).1
theorem mapG_made (w:World):MapG (w.alloc (.map #[] 0)) w.heap.size (fun _=>none):=
 ⟨#[],0,(MapKept.heap_alloc w _).1,stamped_empty 0,by simp,by simp⟩
theorem Says.keyed {P:Program} {tk:TypeId} (h9:P.underlying tk=some .string) {es:Array MapEntry} {clock:Nat} {f:Fn} (h:Says es clock f):∀ e∈es.toList,∃ l,keyOf P tk e.key=some l:=by
 intro e he
 obtain ⟨s,d,hs,hk,_⟩:=h.2.1 e he
 exact ⟨_,hk▸keyOf_string_mk h9 hs⟩
theorem look {P:Program} {tm tk ev:TypeId} (ht:P.underlying tm=some (.map tk ev)) (h9:P.underlying tk=some .string) {z:Value} (hz:∀ u:World,(zeroValue ev).run P u=.ok z u) {w:World} {mb:Nat} {f:Fn} (h:MapG w mb f) {s:ByteArray} (hs:s.size≤maxLen) (c:Bool) :
  (Instr.lookup tm (.map (some mb)) (.string s) c).run P w=.ok (if c=true then .tuple #[(f s).getD z,.bool (f s).isSome] else (f s).getD z) w:=by
 obtain ⟨es,clock,hb,hS⟩:=h
 have hkey:=keyOf_string_mk h9 hs
 rcases (string_law h9).find w hkey es.toList (hS.keyed h9) with ⟨h1,h2⟩|⟨j,e,h1,h2,h3⟩
 ·have hn:f s=none:=by
   cases hf:f s with
   | none=>rfl
   | some d=>
    obtain ⟨x,hx,hk⟩:=hS.2.2 s d hf
    exact absurd hk (h2 x hx)
  rw [hn]
  simp [Instr.lookup,run_underlying ht,MapKept.run_getObj_map hb,(string_law h9).check w es.isEmpty hkey,h1,hz,Result.andThen]
 ·obtain ⟨s',d,_,hk,hf,hv⟩:=hS.2.1 e (List.mem_of_getElem? h2)
  obtain rfl:s=s':=by rw [hk] at h3;simpa using h3.symm
  rw [hf]
  simp [Instr.lookup,run_underlying ht,MapKept.run_getObj_map hb,(string_law h9).check w es.isEmpty hkey,h1,Result.andThen,hv]
theorem stamped_modify {es:Array MapEntry} {clock j:Nat} {e0:MapEntry} {v:Value} (h:Stamped es clock) (hj:es.toList[j]?=some e0):Stamped (es.modify j fun e=>{ key:=e0.key,val:=v,born:=e.born }) clock:=by
 have hm:(es.modify j fun e=>{ key:=e0.key,val:=v,born:=e.born }).toList=es.toList.set j { key:=e0.key,val:=v,born:=e0.born }:=by
  rw [Array.toList_modify,ChangeMaps.modify_eq_set _ _ _ _ hj]
 have hlt:=(List.getElem?_eq_some_iff.1 hj).1
 have heq:=(List.getElem?_eq_some_iff.1 hj).2
 refine ⟨fun x hx => ?_,?_,?_⟩
 ·rw [hm] at hx
  rcases List.mem_or_eq_of_mem_set hx with hx|rfl
  ·exact h.1 x hx
  ·exact h.1 e0 (List.mem_of_getElem? hj)
 ·rw [hm,List.map_set]
  have:(es.toList.map (·.born)).set j e0.born=es.toList.map (·.born):=by
   apply List.ext_getElem?
   intro i
   rw [List.getElem?_set]
   split
   ·rename_i hi;subst hi;simp [hj];simpa using hlt
   ·rfl
  simp only [this];exact h.2.1
 ·rw [hm,List.map_set]
  have:(es.toList.map (·.key)).set j e0.key=es.toList.map (·.key):=by
   apply List.ext_getElem?
   intro i
   rw [List.getElem?_set]
   split
   ·rename_i hi;subst hi;simp [hj];simpa using hlt
   ·rfl
  simp only [this];exact h.2.2
theorem stamped_push {es:Array MapEntry} {clock:Nat} {k v:Value} (h:Stamped es clock) (hne:∀ e∈es.toList,e.key≠k):Stamped (es.push { key:=k,val:=v,born:=clock }) (clock+1):=by
 refine ⟨fun x hx => ?_,?_,?_⟩
 ·rw [Array.toList_push,List.mem_append,List.mem_singleton] at hx
  rcases hx with hx|rfl
  ·have:=h.1 x hx;omega
  ·simp
 ·rw [Array.toList_push,List.map_append,List.nodup_append]
  refine ⟨h.2.1,by simp,fun a ha b hb => ?_⟩
  obtain ⟨x,hx,rfl⟩:=List.mem_map.1 ha
  obtain rfl:b=clock:=by simpa using hb
  have:=h.1 x hx
  omega
 ·rw [Array.toList_push,List.map_append,List.nodup_append]
  refine ⟨h.2.2,by simp,fun a ha b hb => ?_⟩
  obtain ⟨x,hx,rfl⟩:=List.mem_map.1 ha
  obtain rfl:b=k:=by simpa using hb
  exact hne x hx
theorem store_at {P:Program} {tm tk ev:TypeId} (ht:P.underlying tm=some (.map tk ev)) (h9:P.underlying tk=some .string) {u:World} {mb clock j:Nat} {es:Array MapEntry} {e0:MapEntry} {f:Fn} {s:ByteArray} (v:Value) (hb:u.heap[mb]?=some (.map es clock)) (hS:Says es clock f) (hs:s.size≤maxLen) (hj:es.toList[j]?=some e0) (he:e0.key=.string s) :
  (Instr.mapUpdate tm (.map (some mb)) (.string s) v).run P u=.ok () (setBlock u mb (.map (es.modify j fun e=>{ key:=e0.key,val:=v,born:=e.born }) clock)):=by
 have hkey:=keyOf_string_mk h9 hs
 rcases (string_law h9).find u hkey es.toList (hS.keyed h9) with ⟨_,h2⟩|⟨j',e',h1,h2,h3⟩
 ·exact absurd he (h2 e0 (List.mem_of_getElem? hj))
 ·obtain rfl:=nodup_at hS.1.2.2 h2 hj (h3.trans he.symm)
  have hj':es[j']?=some e0:=by rw [←Array.getElem?_toList];exact hj
  simp [Instr.mapUpdate,run_underlying ht,MapKept.run_getObj_map hb,(string_law h9).check u false hkey,h1,hj',he,(string_law h9).stays u hkey,MapKept.run_setObj_map _ hb,Result.andThen,setBlock]
theorem store_new {P:Program} {tm tk ev:TypeId} (ht:P.underlying tm=some (.map tk ev)) (h9:P.underlying tk=some .string) {u:World} {mb clock:Nat} {es:Array MapEntry} {f:Fn} {s:ByteArray} (v:Value) (hb:u.heap[mb]?=some (.map es clock)) (hS:Says es clock f) (hs:s.size≤maxLen) (hne:∀ e∈es.toList,e.key≠.string s) :
  (Instr.mapUpdate tm (.map (some mb)) (.string s) v).run P u=.ok () (setBlock u mb (.map (es.push { key:=.string s,val:=v,born:=clock }) (clock+1))):=by
 have hkey:=keyOf_string_mk h9 hs
 rcases (string_law h9).find u hkey es.toList (hS.keyed h9) with ⟨h1,_⟩|⟨j,e,h1,h2,h3⟩
 ·simp [Instr.mapUpdate,run_underlying ht,MapKept.run_getObj_map hb,(string_law h9).check u false hkey,h1,MapKept.run_setObj_map _ hb,Result.andThen,setBlock]
 ·exact absurd h3 (hne e (List.mem_of_getElem? h2))
theorem store {P:Program} {tm tk ev:TypeId} (ht:P.underlying tm=some (.map tk ev)) (h9:P.underlying tk=some .string) {w:World} {mb:Nat} {f:Fn} (h:MapG w mb f) {s:ByteArray} (hs:s.size≤maxLen) (d:Value) :
  ∃ o:Obj,(∀ u:World,u.heap[mb]?=w.heap[mb]?→(Instr.mapUpdate tm (.map (some mb)) (.string s) d).run P u=.ok () (setBlock u mb o))∧
   (∀ u:World,u.heap[mb]?=some o→(Instr.mapUpdate tm (.map (some mb)) (.string s) d).run P u=.ok () (setBlock u mb o))∧
   (∀ u:World,u.heap[mb]?=some o→MapG u mb (upd f s d)):=by
 obtain ⟨es,clock,hb,hS⟩:=h
 by_cases hin:∃ e0∈es.toList,e0.key=.string s
 ·obtain ⟨e0,hm,he⟩:=hin
  obtain ⟨j,hj⟩:=List.getElem?_of_mem hm
  have hlt:=(List.getElem?_eq_some_iff.1 hj).1
  have hm2:(es.modify j fun e=>{ key:=e0.key,val:=d,born:=e.born }).toList=es.toList.set j { key:=e0.key,val:=d,born:=e0.born }:=by
   rw [Array.toList_modify,ChangeMaps.modify_eq_set _ _ _ _ hj]
  have hS2:Says (es.modify j fun e=>{ key:=e0.key,val:=d,born:=e.born }) clock (upd f s d):=by
   refine ⟨stamped_modify hS.1 hj,fun x hx => ?_,fun t dt ht => ?_⟩
   ·rw [hm2] at hx
    obtain ⟨i,hi⟩:=List.getElem?_of_mem hx
    rw [List.getElem?_set] at hi
    by_cases hji:j=i
    ·rw [if_pos hji,if_pos hlt] at hi
     obtain rfl:=Option.some.inj hi
     exact ⟨s,d,hs,he,by simp [upd],rfl⟩
    ·rw [if_neg hji] at hi
     obtain ⟨t,dt,h1,h2,h3,h4⟩:=hS.2.1 x (List.mem_of_getElem? hi)
     refine ⟨t,dt,h1,h2,?_,h4⟩
     have:t≠s:=fun e=>hji (nodup_at hS.1.2.2 hj hi (by rw [he,h2,e]))
     simp [upd,this,h3]
   ·by_cases e:t=s
    ·subst e
     exact ⟨{ key:=e0.key,val:=d,born:=e0.born },by rw [hm2];exact List.mem_set hlt _,he⟩
    ·simp only [upd,e,if_false] at ht
     obtain ⟨x,hx,hk⟩:=hS.2.2 t dt ht
     obtain ⟨i,hi⟩:=List.getElem?_of_mem hx
     refine ⟨x,?_,hk⟩
     rw [hm2]
     apply List.mem_of_getElem? (i:=i)
     rw [List.getElem?_set,if_neg,hi]
     intro hji
     subst hji
     rw [hj] at hi
     obtain rfl:=Option.some.inj hi
     rw [he] at hk
     exact e (by simpa using hk.symm)
  refine ⟨.map (es.modify j fun e=>{ key:=e0.key,val:=d,born:=e.born }) clock,fun u hu=>store_at ht h9 _ (hu.trans hb) hS hs hj he,fun u hu => ?_,fun u hu=>⟨_,_,hu,hS2⟩⟩
  have hj2:(es.modify j fun e=>{ key:=e0.key,val:=d,born:=e.born }).toList[j]?=some { key:=e0.key,val:=d,born:=e0.born }:=by
   rw [hm2,List.getElem?_set,if_pos rfl,if_pos hlt]
  have:=store_at ht h9 d hu hS2 hs hj2 he
  rw [this]
  congr 2
  congr 1
  apply Array.ext'
  rw [Array.toList_modify,ChangeMaps.modify_eq_set _ _ _ _ hj2]
  exact WideElems.set_self _ _ _ hj2
 ·have hne:∀ e∈es.toList,e.key≠.string s:=fun e he hk=>hin ⟨e,he,hk⟩
  have hS2:Says (es.push { key:=.string s,val:=d,born:=clock }) (clock+1) (upd f s d):=by
   refine ⟨stamped_push hS.1 hne,fun x hx => ?_,fun t dt ht => ?_⟩
   ·rw [Array.toList_push,List.mem_append,List.mem_singleton] at hx
    rcases hx with hx|rfl
    ·obtain ⟨t,dt,h1,h2,h3,h4⟩:=hS.2.1 x hx
     refine ⟨t,dt,h1,h2,?_,h4⟩
     have:t≠s:=fun e=>hne x hx (by rw [h2,e])
     simp [upd,this,h3]
    ·exact ⟨s,d,hs,rfl,by simp [upd],rfl⟩
   ·by_cases e:t=s
    ·subst e
     exact ⟨{ key:=.string t,val:=d,born:=clock },by simp,rfl⟩
    ·simp only [upd,e,if_false] at ht
     obtain ⟨x,hx,hk⟩:=hS.2.2 t dt ht
     exact ⟨x,by simp [Array.mem_toList_iff.1 hx],hk⟩
  refine ⟨.map (es.push { key:=.string s,val:=d,born:=clock }) (clock+1),fun u hu=>store_new ht h9 _ (hu.trans hb) hS hs hne,fun u hu => ?_,fun u hu=>⟨_,_,hu,hS2⟩⟩
  have hj2:(es.push { key:=.string s,val:=d,born:=clock }).toList[es.size]?=some { key:=.string s,val:=d,born:=clock }:=by
   simp
  have:=store_at ht h9 d hu hS2 hs hj2 rfl
  rw [this]
  congr 2
  congr 1
  apply Array.ext'
  rw [Array.toList_modify,ChangeMaps.modify_eq_set _ _ _ _ hj2]
  exact WideElems.set_self _ _ _ hj2
def opVals:Array Value:=#[.string ⟨#[]⟩,.string ⟨#[43]⟩,.string ⟨#[45]⟩,.string ⟨#[42]⟩,.string ⟨#[47]⟩,.string ⟨#[37]⟩,.string ⟨#[109,105,110]⟩,.string ⟨#[109,97,120]⟩,.string ⟨#[115,104,108]⟩,.string ⟨#[115,104,114]⟩,.string ⟨#[38]⟩,.string ⟨#[124]⟩,.string ⟨#[94]⟩,.string ⟨#[61]⟩,.string ⟨#[60]⟩,.string ⟨#[110,111,116]⟩,.string ⟨#[97,110,100]⟩,.string ⟨#[111,114]⟩,.string ⟨#[105,102]⟩,.string ⟨#[110,97,114,114,111,119]⟩]
def opZeros:Array Value:=#[.string ⟨#[]⟩,.string ⟨#[]⟩,.string ⟨#[]⟩,.string ⟨#[]⟩,.string ⟨#[]⟩,.string ⟨#[]⟩,.string ⟨#[]⟩,.string ⟨#[]⟩,.string ⟨#[]⟩,.string ⟨#[]⟩,.string ⟨#[]⟩,.string ⟨#[]⟩,.string ⟨#[]⟩,.string ⟨#[]⟩,.string ⟨#[]⟩,.string ⟨#[]⟩,.string ⟨#[]⟩,.string ⟨#[]⟩,.string ⟨#[]⟩,.string ⟨#[]⟩]
theorem wpList_run {P:Program} {ops:Array Oper} {rest:List Oper} {o:Oper} {a:Act} {Q:Exit→Act→World→Prop} {w w':World} {v:Value} (hg:o.guard=none) (hr:(execOp a.eval o).run P w=.ok (.value v) w') (h:wpList P ops Q rest (a.put o.dst v) w'):wpList P ops Q (o::rest) a w:=
 wpList_plain hg fun _ hK=>by
  unfold Oper.wp
  rw [hr]
  exact hK _ _ h
theorem wpList_skip {P:Program} {ops:Array Oper} {rest:List Oper} {o:Oper} {a:Act} {Q:Exit→Act→World→Prop} {w w':World} (hg:o.guard=none) (hr:(execOp a.eval o).run P w=.ok .skip w') (h:wpList P ops Q rest (a.put o.dst undef) w'):wpList P ops Q (o::rest) a w:=
 wpList_plain hg fun _ hK=>by
  unfold Oper.wp
  rw [hr]
  exact hK _ _ h
theorem op_one:opVals.all (·.oneCell')=true:=by kernel_rfl
theorem op_size:(Tryz.prog.info? 209).map (·.size)=some opVals.size:=by kernel_rfl
theorem op_zero:(Tryz.prog.info? 209).map (fun i=>(i.zero,i.size))=some (some (.agg opZeros),20):=by kernel_rfl
theorem op_under:Tryz.prog.underlying 209=some (.array 20 9):=by kernel_rfl
set_option maxRecDepth 20000 in
theorem opWords_any (w:World):Calls Tryz.prog 119 #[] w fun e w'=>e=.returned (.agg opVals)∧w'=w.alloc (.cells opVals 209):=by
 go_enter Tryz.func119,Tryz.ntmps119
 refine wp_seq ?_
 refine wp_region_list ?_
 refine wpList_run (v:=.pointer (some ⟨w.heap.size,0,none⟩)) (w':=w.alloc (.cells opZeros 209)) rfl ?_ ?_
 ·have hz:=(zero_of_info op_zero).1
  simp [execOp,Instr.alloc,newVar,newRow,hz,Result.andThen,Value.cells]
 refine wpList_nil ?_
 simp only [Exit.then]
 refine wp_seq ?_
 refine wp_region_list ?_
 refine wpList_run (v:=.agg opVals) (w':=w.alloc (.cells opZeros 209)) rfl (by kernel_rfl) ?_
 refine wpList_skip (w':=w.alloc (.cells opVals 209)) rfl ?_ ?_
 ·have hs:=run_storeAt_new (P:=Tryz.prog) w 209 opZeros opVals op_size rfl op_one
  simp only [execOp,Sem.run_bind]
  show ((Sem.run Tryz.prog (Instr.storeAt 209 (.pointer (some ⟨w.heap.size,0,none⟩)) (.agg opVals)) (w.alloc (.cells opZeros 209))).andThen fun a w'=>Sem.run Tryz.prog (pure Next.skip) w')=_
  rw [hs]
  rfl
 refine wpList_nil ?_
 simp only [Exit.then]
 refine wp_ret ?_
 refine bodyPost_ret (v:=.agg opVals) ?_ rfl ⟨rfl,rfl⟩
 rw [zaC rfl]
 exact run_loadVar_new w 209 opVals 20 9 op_under op_size
def opWd (o:Nat):ByteArray:=match opVals[o]? with|some (.string s)=>s|_=>⟨#[]⟩
theorem opWord_any (o:Nat) (ho:o≤19) (w:World):Calls Tryz.prog 87 #[.int .u8 (o:Int)] w fun e w'=>e=.returned (.string (opWd o))∧Below w.heap.size w w':=by
 have C:=hidI (opWords_any w)
 have h1:((o:Int)>19)=False:=by simp;omega
 have hi:(Instr.index 209 (.agg opVals) (.int .u8 (o:Int))).run Tryz.prog (w.alloc (.cells opVals 209))=.ok (.string (opWd o)) (w.alloc (.cells opVals 209)):=by
  have hm:o=0∨o=1∨o=2∨o=3∨o=4∨o=5∨o=6∨o=7∨o=8∨o=9∨o=10∨o=11∨o=12∨o=13∨o=14∨o=15∨o=16∨o=17∨o=18∨o=19:=by omega
  rcases hm with rfl|rfl|rfl|rfl|rfl|rfl|rfl|rfl|rfl|rfl|rfl|rfl|rfl|rfl|rfl|rfl|rfl|rfl|rfl|rfl<;>(show _=_;kernel_rfl)
 generalize hov:opVals=ov at C hi
 clear hov
 go_enter Tryz.func87,Tryz.ntmps87
 go_wp2_with (go_at_call 119;refine C.out.mono ?_;rintro e w1 ⟨rfl,rfl⟩;clear C)
 go_ret
 exact ⟨rfl,by exact belowT⟩
theorem declSh11 (w:World):Calls Tryz.prog 88 #[.int .u8 1,.int .u8 1] w (ShPost w ⟨#[105,110,116]⟩ ⟨#[110]⟩):=by
 go_enter Tryz.func88,Tryz.ntmps88
 go_wp2
 go_region
 all_goals
  go_wp2
  (try simp only [Exit.inBlock,Exit.then])
  refine bodyPost_ret (v:=.agg #[.string ⟨#[105,110,116]⟩,.string ⟨#[110]⟩]) ?_ rfl ⟨by simp,?_⟩
  ·rw [zaC rfl]
   go_simp
   kernel_rfl
  ·exact belowT
theorem declSh12 (w:World):Calls Tryz.prog 88 #[.int .u8 1,.int .u8 2] w (ShPost w ⟨#[98,111,111,108]⟩ ⟨#[110]⟩):=by
 go_enter Tryz.func88,Tryz.ntmps88
 go_wp2
 go_region
 all_goals
  go_wp2
  (try simp only [Exit.inBlock,Exit.then])
  refine bodyPost_ret (v:=.agg #[.string ⟨#[98,111,111,108]⟩,.string ⟨#[110]⟩]) ?_ rfl ⟨by simp,?_⟩
  ·rw [zaC rfl]
   go_simp
   kernel_rfl
  ·exact belowT
theorem declSh21 (w:World):Calls Tryz.prog 88 #[.int .u8 2,.int .u8 1] w (ShPost w ⟨#[110,105,110,116]⟩ ⟨#[110]⟩):=by
 go_enter Tryz.func88,Tryz.ntmps88
 go_wp2
 go_region
 all_goals
  go_wp2
  (try simp only [Exit.inBlock,Exit.then])
  refine bodyPost_ret (v:=.agg #[.string ⟨#[110,105,110,116]⟩,.string ⟨#[110]⟩]) ?_ rfl ⟨by simp,?_⟩
  ·rw [zaC rfl]
   go_simp
   kernel_rfl
  ·exact belowT
theorem declSh22 (w:World):Calls Tryz.prog 88 #[.int .u8 2,.int .u8 2] w (ShPost w ⟨#[110,98,111,111,108]⟩ ⟨#[110]⟩):=by
 go_enter Tryz.func88,Tryz.ntmps88
 go_wp2
 go_region
 all_goals
  go_wp2
  (try simp only [Exit.inBlock,Exit.then])
  refine bodyPost_ret (v:=.agg #[.string ⟨#[110,98,111,111,108]⟩,.string ⟨#[110]⟩]) ?_ rfl ⟨by simp,?_⟩
  ·rw [zaC rfl]
   go_simp
   kernel_rfl
  ·exact belowT
theorem declSh31 (w:World):Calls Tryz.prog 88 #[.int .u8 3,.int .u8 1] w (ShPost w ⟨#[101,105,110,116]⟩ ⟨#[110]⟩):=by
 go_enter Tryz.func88,Tryz.ntmps88
 go_wp2
 go_region
 all_goals
  go_wp2
  (try simp only [Exit.inBlock,Exit.then])
  refine bodyPost_ret (v:=.agg #[.string ⟨#[101,105,110,116]⟩,.string ⟨#[110]⟩]) ?_ rfl ⟨by simp,?_⟩
  ·rw [zaC rfl]
   go_simp
   kernel_rfl
  ·exact belowT
theorem declSh32 (w:World):Calls Tryz.prog 88 #[.int .u8 3,.int .u8 2] w (ShPost w ⟨#[101,98,111,111,108]⟩ ⟨#[110]⟩):=by
 go_enter Tryz.func88,Tryz.ntmps88
 go_wp2
 go_region
 all_goals
  go_wp2
  (try simp only [Exit.inBlock,Exit.then])
  refine bodyPost_ret (v:=.agg #[.string ⟨#[101,98,111,111,108]⟩,.string ⟨#[110]⟩]) ?_ rfl ⟨by simp,?_⟩
  ·rw [zaC rfl]
   go_simp
   kernel_rfl
  ·exact belowT
end Go.Proofs.YtmekkhfohmfjkaaGreatDoor
