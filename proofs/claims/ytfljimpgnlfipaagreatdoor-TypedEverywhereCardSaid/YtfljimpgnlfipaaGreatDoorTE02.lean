/-
  Part 2 of the proof: Zed, Round, PShape, MapG, POpW, PDecl, PVoc, RegV, PWords, VocM, Rows2.
-/
import Derived.Test.YtfljimpgnlfipaaGreatDoorProg
import Derived.OrdersHeld
import Derived.Deep.RegionHeld3
import Derived.Test.YtfljimpgnlfipaaGreatDoorChecked
import Derived.RangeFuncNested
import Derived.RangeFuncBound
import Derived.RangeFuncCalls
import Derived.RangeFuncLeaves
import Derived.Shelf.Abstract
import Derived.Shelf.RegionOpen
import Derived.WalkKit
import Derived.OwnWalkIn
import Derived.TacticsInMore
import Derived.LoopNIn
import Derived.LoopIn
import Derived.BigQuiet
import Derived.Test.YtfljimpgnlfipaaGreatDoorTE00
import Derived.Carry
import Derived.OneCell
import Derived.OwnWalk
import Derived.Deep.DeepMust
import Derived.Deep.LoopGhost
import Derived.Deep.OwnRows
import Derived.Deep.AppendLies
import Derived.Laws.MakeOwn
import Derived.Laws.ResultCell
import Derived.Laws.StructEq
import Derived.Lib.SmallJoins
import Derived.Lib.SliceRun
import Derived.Lib.QuietBelow
import Derived.Maps.OwnRows
import Derived.Maps.Own
import Derived.WideKeyEntry
import Derived.DeepKeys4
import Derived.StringKeys
import Derived.Deep.WholeRow
import Derived.Test.YtfljimpgnlfipaaGreatDoorTE01
namespace Go.Proofs.YtfljimpgnlfipaaGreatDoor
open Go
section
variable {P : Program} {ops : Array Oper} {Q : Exit → Act → World → Prop} {md : Region.Mode} {S : World → Prop} {z : Nat}
def wpZ (P:Program) (md:Region.Mode) (ops:Array Oper) (Q:Exit→Act→World→Prop) (S:World→Prop) (z:Nat):Nat→Array Bool→Act→World→Prop
 | 0=>fun l a w=>Region.ready md ops l=[]∧Q .normal a w
 | n+1=>fun l a w=>(Region.ready md ops l=[]→Q .normal a w)∧∀ i∈Region.ready md ops l,wpOp P ops Q i (fun b v=>(i≠z→S v)∧wpZ P md ops Q S z n (l.setIfInBounds i true) b v) a w
theorem wpZ_any:∀ (n:Nat) (l:Array Bool) (a:Act) (w:World),wpZ P md ops Q S z n l a w→wpAny P md ops Q n l a w:=by
 intro n
 induction n with
 | zero=>exact fun _ _ _ h=>h
 | succ n ih=>exact fun l a w h=>⟨h.1,fun i hi=>wpOp_mono (fun b v hb=>ih _ b v hb.2) (h.2 i hi)⟩
structure Behind (md:Region.Mode) (ops:Array Oper) (i z:Nat) (D:List Nat):Prop where
 has:z∈D
 free:i ∉ D
 waits:∀ d∈D,∃ o,ops[d]?=some o∧∃ e∈o.after,Region.binds md e=true∧(e.on=i∨e.on∈D)
theorem not_both {l:Array Bool} {j:Nat} (h0:l.getD j true=false) (h1:l.getD j false=true):False:=by
 rcases Nat.lt_or_ge j l.size with h|h
 ·simp [h] at h0 h1;rw [h0] at h1;cases h1
 ·simp [h] at h0
theorem wpZ_first {i:Nat} {o:Oper} {v:Value} {D:List Nat} (hi:ops[i]?=some o) (hsel:Region.noSelect ops=true) (hD:Behind md ops i z D) (hQ:∀ c a w,Q (.panic c) (a.put o.dst v) w→Q (.panic c) a w) :
  ∀ (n:Nat) (l:Array Bool) (a:Act) (w:World),(∀ j oj,ops[j]?=some oj→j≠i→l.getD j true=false→(∀ e∈oj.after,Region.binds md e=true→e.on≠i)→o.apart ops oj=true)→
   i∈Region.ready md ops l→(∀ d∈D,l.getD d true=false)→YieldsIf P ops S o v a→S w→wpZ P md ops Q S z n (l.setIfInBounds i true) (a.put o.dst v) w→wpZ P md ops Q S z (n+1) l a w:=by
 intro n
 induction n with
 | zero=>
  intro l a w _ hr _ hy hS H;refine ⟨fun e=>absurd (e▸hr) (by simp),fun j hj => ?_⟩;by_cases hji:j=i
  ·subst hji;exact hy.wpOp hi hS ⟨fun _=>hS,H⟩
  ·have:=ready_mono hj hji;rw [H.1] at this;simp at this
 | succ n ih=>
  intro l a w hap hr hl hy hS H;refine ⟨fun e=>absurd (e▸hr) (by simp),fun j hj => ?_⟩;by_cases hji:j=i
  ·subst hji;exact hy.wpOp hi hS ⟨fun _=>hS,H⟩
  ·obtain ⟨hun,oj,hoj,hall⟩:=mem_ready.1 hj;have hri:=(mem_ready.1 hr).1;have hjD:j ∉ D:=fun hm=>by
    obtain ⟨o',ho',e,he,hb,hon⟩:=hD.waits j hm;obtain rfl:oj=o':=by rw [hoj] at ho';exact Option.some.inj ho'
    rcases hon with hon|hon
    ·exact not_both hri (hon▸hall e he hb)
    ·exact not_both (hl _ hon) (hall e he hb)
   have hjz:j≠z:=fun e=>hjD (e▸hD.has)
   have hstep:=wpOp_putIf hoj (hap j oj hoj hji hun fun e he hb hon=>not_both hri (hon▸hall e he hb)) (fun cs b=>Region.noSelect_spec hsel i o cs b hi) (fun cs b=>Region.noSelect_spec hsel j oj cs b hoj) hQ hy (H.2 j (ready_mono hj hji));refine wpOp_mono (fun b u hb => ?_) hstep;obtain ⟨hyb,hSu,hrest⟩:=hb;refine ⟨hSu,ih _ b u (fun k ok hok hki hkun hno=>hap k ok hok hki ?_ hno) (ready_mono hr (Ne.symm hji)) (fun d hd => ?_) hyb (hSu hjz) ?_⟩
   ·by_cases hjk:j=k
    ·exact hjk▸hun
    ·rwa [getD_set_ne true hjk] at hkun
   ·rw [getD_set_ne true (fun e:j=d=>hjD (by rw [e];exact hd))];exact hl d hd
   ·rwa [Array.setIfInBounds_comm _ _ hji]
def behindB (md:Region.Mode) (ops:Array Oper) (l:Array Bool) (i z:Nat) (D:List Nat):Bool:=
 D.contains z && !D.contains i && D.all fun d => !(l.getD d true) && match ops[d]? with|some o=>o.after.any fun e=>Region.binds md e && (e.on==i || D.contains e.on)|none=>false
theorem zaE {i:Nat} {o:Oper} {v:Value} {n:Nat} {l:Array Bool} {a:Act} {w:World} (D:List Nat) (hi:ops[i]?=some o) (hsel:Region.noSelect ops=true) (hf:Region.free md ops l i=true) (hr:(Region.ready md ops l).contains i=true) (hD:behindB md ops l i z D=true)
  (hQ:∀ c a w,Q (.panic c) (a.put o.dst v) w→Q (.panic c) a w) (hy:YieldsIf P ops S o v a) (hS:S w) (h:wpZ P md ops Q S z n (l.setIfInBounds i true) (a.put o.dst v) w):wpZ P md ops Q S z (n+1) l a w:=by
 simp only [behindB,Bool.and_eq_true,List.all_eq_true,Bool.not_eq_true',List.contains_iff_mem] at hD;obtain ⟨⟨h1,h2⟩,h3⟩:=hD;refine wpZ_first (D:=D) hi hsel ⟨h1,by simpa using h2,fun d hd => ?_⟩ hQ n l a w (Region.free_spec hi hf) (by simpa using hr) (fun d hd=>(h3 d hd).1) hy hS h;have:=(h3 d hd).2;cases ho:ops[d]? with
 | none=>rw [ho] at this;simp at this
 | some o'=>
  rw [ho] at this;obtain ⟨e,he,hb⟩:=Array.any_eq_true'.1 this;simp only [Bool.and_eq_true,Bool.or_eq_true,beq_iff_eq,List.contains_iff_mem] at hb;exact ⟨o',rfl,e,he,hb.1,hb.2⟩
theorem wpZ_t {i:Nat} {o:Oper} {v:Value} {n:Nat} {l:Array Bool} {a:Act} {w:World} (D:List Nat) (hi:ops[i]?=some o) (hp:∀ c (a:Act) w d u,Q (.panic c) (a.put (some d) u) w→Q (.panic c) a w) (hS:S w) (hy:∀ y,S y→(execOp a.eval o).run P y=.ok (.value v) y)
  (h:wpZ P md ops Q S z n (l.setIfInBounds i true) (a.put o.dst v) w) (hw:Region.wanted o (yielded ops a.tmps)=true:=by rfl) (hsel:Region.noSelect ops=true:=by kernel_rfl) (hf:Region.free md ops l i=true:=by kernel_rfl) (hr:(Region.ready md ops l).contains i=true:=by kernel_rfl) (hD:behindB md ops l i z D=true:=by kernel_rfl):wpZ P md ops Q S z (n+1) l a w:=by
 refine zaE D hi hsel hf hr hD (fun c a w h => ?_) (.inl ⟨hw,hy⟩) hS h;cases ho:o.dst with
 | none=>rw [ho] at h;exact h
 | some d=>rw [ho] at h;exact hp c a w d v h
theorem zcE {rs:List Nat} {n:Nat} {l:Array Bool} {a:Act} {w:World} (hr:Region.ready md ops l=rs) (hne:rs≠[]) (h:∀ i∈rs,wpOp P ops Q i (fun b v=>(i≠z→S v)∧wpZ P md ops Q S z n (l.setIfInBounds i true) b v) a w):wpZ P md ops Q S z (n+1) l a w:=by
 subst hr;exact ⟨fun e=>absurd e hne,h⟩
theorem wpZ_done {l:Array Bool} {a:Act} {w:World} (hr:Region.ready md ops l=[]) (h:Q .normal a w) (n:Nat):wpZ P md ops Q S z n l a w:=by
 cases n with
 | zero=>exact ⟨hr,h⟩
 | succ n=>exact ⟨fun _=>h,by simp [hr]⟩
theorem zdQ {l:Array Bool} {a:Act} {w:World} (hr:Region.ready md ops l=[z]) (hd:Region.ready md ops (l.setIfInBounds z true)=[]) (h:wpOp P ops Q z (fun b v=>Q .normal b v) a w) (n:Nat):wpZ P md ops Q S z (n+1) l a w:=
 zcE hr (by simp) fun i hi=>by
  obtain rfl:i=z:=by simpa using hi
  exact wpOp_mono (fun b v hb=>⟨fun e=>absurd rfl e,wpZ_done hd hb _⟩) h
theorem zbN {i:Nat} {o:Oper} {K:Act→World→Prop} {a:Act} {w:World} (ho:ops[i]?=some o) (hg:o.guard=none) (h:∀ K':Act→World→Prop,(∀ a w,K a w→K' a w)→Oper.wp P o a w K' Q):wpOp P ops Q i K a w:=by
 refine wpOp_step ho fun K' hK => ?_
 rw [if_pos (by unfold Region.wanted;rw [hg])];exact h K' hK
theorem zcC {id:Nat} {a:Act} {w:World} (S:World→Prop) (z:Nat) (hm:P.follows .mixedOrders=true) (h:wpZ P .any ops Q S z ops.size (Array.replicate ops.size false) a w.drew):(Code.region id ops true).wp P Q a w:=
 wp_region_any hm (wpZ_any _ _ _ _ h)
end
def opsA (f:Nat→Oper) (z:Nat):Array Oper:=((List.range (z+1)).map f).toArray
theorem zdA (f:Nat→Oper) (z:Nat) {i:Nat} (h:i≤z):(opsA f z)[i]?=some (f i):=by
 have hi:i<z+1:=by omega
 simp [opsA,hi]
open Go.RowKit
theorem Tryz.mixed:Tryz.prog.follows .mixedOrders=true:=by kernel_rfl
open Go.RowKit Go.Deep Go.MapKept
theorem zaC {fn:Func} {p:Tmp} {ty:TypeId} (h:fn.results=#[.cell p ty]) (tmps:Array Value) (P:Program) (w:World) :
  (results fn tmps).run P w=((asAddr (tmps.getD p undef)).run P w).andThen fun a w₁=>(loadVar ty a).run P w₁:=by
 simp only [results,h];simp [Sem.run_bind,Result.andThen]
def ShPost (w:World) (s p:ByteArray) (e:Ending) (w':World):Prop:=e=.returned (.agg #[.string s,.string p])∧Below w.heap.size w w'
theorem stmtSh1 (w:World):Calls Tryz.prog 136 #[.int .u8 1] w (ShPost w ⟨#[115,101,116]⟩ ⟨#[110,101]⟩):=by
 go_enter Tryz.func136,Tryz.ntmps136;go_wp2
 (try simp only [Exit.inBlock,Exit.then])
 refine bodyPost_ret (v:=.agg #[.string ⟨#[115,101,116]⟩,.string ⟨#[110,101]⟩]) ?_ rfl ⟨by simp,?_⟩
 ·rw [zaC rfl];go_simp
 ·exact belowT
theorem stmtSh2 (w:World):Calls Tryz.prog 136 #[.int .u8 2] w (ShPost w ⟨#[102,111,108,100]⟩ ⟨#[110,111,101,99]⟩):=by
 go_enter Tryz.func136,Tryz.ntmps136;go_wp2
 (try simp only [Exit.inBlock,Exit.then])
 refine bodyPost_ret (v:=.agg #[.string ⟨#[102,111,108,100]⟩,.string ⟨#[110,111,101,99]⟩]) ?_ rfl ⟨by simp,?_⟩
 ·rw [zaC rfl];go_simp
 ·exact belowT
theorem stmtSh3 (w:World):Calls Tryz.prog 136 #[.int .u8 3] w (ShPost w ⟨#[101,97,99,104]⟩ ⟨#[97]⟩):=by
 go_enter Tryz.func136,Tryz.ntmps136;go_wp2
 (try simp only [Exit.inBlock,Exit.then])
 refine bodyPost_ret (v:=.agg #[.string ⟨#[101,97,99,104]⟩,.string ⟨#[97]⟩]) ?_ rfl ⟨by simp,?_⟩
 ·rw [zaC rfl];go_simp
 ·exact belowT
theorem stmtSh4 (w:World):Calls Tryz.prog 136 #[.int .u8 4] w (ShPost w ⟨#[105,102]⟩ ⟨#[101,116,102]⟩):=by
 go_enter Tryz.func136,Tryz.ntmps136;go_wp2
 (try simp only [Exit.inBlock,Exit.then])
 refine bodyPost_ret (v:=.agg #[.string ⟨#[105,102]⟩,.string ⟨#[101,116,102]⟩]) ?_ rfl ⟨by simp,?_⟩
 ·rw [zaC rfl];go_simp
 ·exact belowT
theorem stmtSh5 (w:World):Calls Tryz.prog 136 #[.int .u8 5] w (ShPost w ⟨#[119,104,105,108,101]⟩ ⟨#[101,115]⟩):=by
 go_enter Tryz.func136,Tryz.ntmps136;go_wp2
 (try simp only [Exit.inBlock,Exit.then])
 refine bodyPost_ret (v:=.agg #[.string ⟨#[119,104,105,108,101]⟩,.string ⟨#[101,115]⟩]) ?_ rfl ⟨by simp,?_⟩
 ·rw [zaC rfl];go_simp
 ·exact belowT
theorem stmtSh6 (w:World):Calls Tryz.prog 136 #[.int .u8 6] w (ShPost w ⟨#[108,111,111,112]⟩ ⟨#[101,115]⟩):=by
 go_enter Tryz.func136,Tryz.ntmps136;go_wp2
 (try simp only [Exit.inBlock,Exit.then])
 refine bodyPost_ret (v:=.agg #[.string ⟨#[108,111,111,112]⟩,.string ⟨#[101,115]⟩]) ?_ rfl ⟨by simp,?_⟩
 ·rw [zaC rfl];go_simp
 ·exact belowT
theorem stmtSh7 (w:World):Calls Tryz.prog 136 #[.int .u8 7] w (ShPost w ⟨#[98,102,115]⟩ ⟨#[110,101,115]⟩):=by
 go_enter Tryz.func136,Tryz.ntmps136;go_wp2
 (try simp only [Exit.inBlock,Exit.then])
 refine bodyPost_ret (v:=.agg #[.string ⟨#[98,102,115]⟩,.string ⟨#[110,101,115]⟩]) ?_ rfl ⟨by simp,?_⟩
 ·rw [zaC rfl];go_simp
 ·exact belowT
theorem actSh1 (w:World):Calls Tryz.prog 139 #[.int .u8 1] w (ShPost w ⟨#[112,117,116]⟩ ⟨#[110,101,99]⟩):=by
 go_enter Tryz.func139,Tryz.ntmps139;go_wp2
 (try simp only [Exit.inBlock,Exit.then])
 refine bodyPost_ret (v:=.agg #[.string ⟨#[112,117,116]⟩,.string ⟨#[110,101,99]⟩]) ?_ rfl ⟨by simp,?_⟩
 ·rw [zaC rfl];go_simp
 ·exact belowT
theorem actSh2 (w:World):Calls Tryz.prog 139 #[.int .u8 2] w (ShPost w ⟨#[112,117,115,104]⟩ ⟨#[110,111,119,101,99]⟩):=by
 go_enter Tryz.func139,Tryz.ntmps139;go_wp2
 (try simp only [Exit.inBlock,Exit.then])
 refine bodyPost_ret (v:=.agg #[.string ⟨#[112,117,115,104]⟩,.string ⟨#[110,111,119,101,99]⟩]) ?_ rfl ⟨by simp,?_⟩
 ·rw [zaC rfl];go_simp
 ·exact belowT
theorem actSh3 (w:World):Calls Tryz.prog 139 #[.int .u8 3] w (ShPost w ⟨#[112,117,108,108]⟩ ⟨#[110,111,119,101]⟩):=by
 go_enter Tryz.func139,Tryz.ntmps139;go_wp2
 (try simp only [Exit.inBlock,Exit.then])
 refine bodyPost_ret (v:=.agg #[.string ⟨#[112,117,108,108]⟩,.string ⟨#[110,111,119,101]⟩]) ?_ rfl ⟨by simp,?_⟩
 ·rw [zaC rfl];go_simp
 ·exact belowT
theorem exprSh1 (w:World):Calls Tryz.prog 142 #[.int .u8 1] w (ShPost w ⟨#[]⟩ ⟨#[]⟩):=by
 go_enter Tryz.func142,Tryz.ntmps142;go_wp2
 (try simp only [Exit.inBlock,Exit.then])
 refine bodyPost_ret (v:=.agg #[.string ⟨#[]⟩,.string ⟨#[]⟩]) ?_ rfl ⟨by simp,?_⟩
 ·rw [zaC rfl];go_simp
 ·exact belowT
theorem exprSh2 (w:World):Calls Tryz.prog 142 #[.int .u8 2] w (ShPost w ⟨#[]⟩ ⟨#[]⟩):=by
 go_enter Tryz.func142,Tryz.ntmps142;go_wp2
 (try simp only [Exit.inBlock,Exit.then])
 refine bodyPost_ret (v:=.agg #[.string ⟨#[]⟩,.string ⟨#[]⟩]) ?_ rfl ⟨by simp,?_⟩
 ·rw [zaC rfl];go_simp
 ·exact belowT
theorem exprSh3 (w:World):Calls Tryz.prog 142 #[.int .u8 3] w (ShPost w ⟨#[111,119,110]⟩ ⟨#[110]⟩):=by
 go_enter Tryz.func142,Tryz.ntmps142;go_wp2
 (try simp only [Exit.inBlock,Exit.then])
 refine bodyPost_ret (v:=.agg #[.string ⟨#[111,119,110]⟩,.string ⟨#[110]⟩]) ?_ rfl ⟨by simp,?_⟩
 ·rw [zaC rfl];go_simp
 ·exact belowT
theorem exprSh4 (w:World):Calls Tryz.prog 142 #[.int .u8 4] w (ShPost w ⟨#[102,97,114]⟩ ⟨#[110]⟩):=by
 go_enter Tryz.func142,Tryz.ntmps142;go_wp2
 (try simp only [Exit.inBlock,Exit.then])
 refine bodyPost_ret (v:=.agg #[.string ⟨#[102,97,114]⟩,.string ⟨#[110]⟩]) ?_ rfl ⟨by simp,?_⟩
 ·rw [zaC rfl];go_simp
 ·exact belowT
theorem exprSh5 (w:World):Calls Tryz.prog 142 #[.int .u8 5] w (ShPost w ⟨#[118,105,97]⟩ ⟨#[110]⟩):=by
 go_enter Tryz.func142,Tryz.ntmps142;go_wp2
 (try simp only [Exit.inBlock,Exit.then])
 refine bodyPost_ret (v:=.agg #[.string ⟨#[118,105,97]⟩,.string ⟨#[110]⟩]) ?_ rfl ⟨by simp,?_⟩
 ·rw [zaC rfl];go_simp
 ·exact belowT
theorem exprSh6 (w:World):Calls Tryz.prog 142 #[.int .u8 6] w (ShPost w ⟨#[105,100]⟩ ⟨#[]⟩):=by
 go_enter Tryz.func142,Tryz.ntmps142;go_wp2
 (try simp only [Exit.inBlock,Exit.then])
 refine bodyPost_ret (v:=.agg #[.string ⟨#[105,100]⟩,.string ⟨#[]⟩]) ?_ rfl ⟨by simp,?_⟩
 ·rw [zaC rfl];go_simp
 ·exact belowT
theorem exprSh7 (w:World):Calls Tryz.prog 142 #[.int .u8 7] w (ShPost w ⟨#[102,97,114,105,100]⟩ ⟨#[]⟩):=by
 go_enter Tryz.func142,Tryz.ntmps142;go_wp2
 (try simp only [Exit.inBlock,Exit.then])
 refine bodyPost_ret (v:=.agg #[.string ⟨#[102,97,114,105,100]⟩,.string ⟨#[]⟩]) ?_ rfl ⟨by simp,?_⟩
 ·rw [zaC rfl];go_simp
 ·exact belowT
theorem exprSh8 (w:World):Calls Tryz.prog 142 #[.int .u8 8] w (ShPost w ⟨#[100,101,103]⟩ ⟨#[119]⟩):=by
 go_enter Tryz.func142,Tryz.ntmps142;go_wp2
 (try simp only [Exit.inBlock,Exit.then])
 refine bodyPost_ret (v:=.agg #[.string ⟨#[100,101,103]⟩,.string ⟨#[119]⟩]) ?_ rfl ⟨by simp,?_⟩
 ·rw [zaC rfl];go_simp
 ·exact belowT
theorem exprSh9 (w:World):Calls Tryz.prog 142 #[.int .u8 9] w (ShPost w ⟨#[99,111,117,110,116]⟩ ⟨#[]⟩):=by
 go_enter Tryz.func142,Tryz.ntmps142;go_wp2
 (try simp only [Exit.inBlock,Exit.then])
 refine bodyPost_ret (v:=.agg #[.string ⟨#[99,111,117,110,116]⟩,.string ⟨#[]⟩]) ?_ rfl ⟨by simp,?_⟩
 ·rw [zaC rfl];go_simp
 ·exact belowT
theorem exprSh10 (w:World):Calls Tryz.prog 142 #[.int .u8 10] w (ShPost w ⟨#[]⟩ ⟨#[]⟩):=by
 go_enter Tryz.func142,Tryz.ntmps142;go_wp2
 (try simp only [Exit.inBlock,Exit.then])
 refine bodyPost_ret (v:=.agg #[.string ⟨#[]⟩,.string ⟨#[]⟩]) ?_ rfl ⟨by simp,?_⟩
 ·rw [zaC rfl];go_simp
 ·exact belowT
open Go.RowKit Go.MapKept Go.WideMaps Go.WideShapes
open Go.ChangeMaps (setBlock heap_setBlock_same heap_setBlock_other)
theorem nodup_at {l:List MapEntry} (h:(l.map (·.key)).Nodup) {i j:Nat} {x y:MapEntry} (hi:l[i]?=some x) (hj:l[j]?=some y) (e:x.key=y.key):i=j:=by
 have hi':(l.map (·.key))[i]?=some x.key:=by simp [hi]
 have hj':(l.map (·.key))[j]?=some y.key:=by simp [hj]
 have li:i<(l.map (·.key)).length:=(List.getElem?_eq_some_iff.1 hi').1;have lj:j<(l.map (·.key)).length:=(List.getElem?_eq_some_iff.1 hj').1;have hne:=List.pairwise_iff_getElem.1 h;have a1:=(List.getElem?_eq_some_iff.1 hi').2;have a2:=(List.getElem?_eq_some_iff.1 hj').2;rcases Nat.lt_trichotomy i j with h1|h1|h1
 ·exact absurd (a1.trans (e.trans a2.symm)) (hne i j li lj h1)
 ·exact h1
 ·exact absurd (a2.trans (e.symm.trans a1.symm)) (hne j i lj li h1)
theorem stamped_modify {es:Array MapEntry} {clock j:Nat} {e0:MapEntry} {v:Value} (h:Stamped es clock) (hj:es.toList[j]?=some e0):Stamped (es.modify j fun e=>{ key:=e0.key,val:=v,born:=e.born }) clock:=by
 have hm:(es.modify j fun e=>{ key:=e0.key,val:=v,born:=e.born }).toList=es.toList.set j { key:=e0.key,val:=v,born:=e0.born }:=by
  rw [Array.toList_modify,ChangeMaps.modify_eq_set _ _ _ _ hj]
 have hlt:=(List.getElem?_eq_some_iff.1 hj).1;have heq:=(List.getElem?_eq_some_iff.1 hj).2;refine ⟨fun x hx => ?_,?_,?_⟩
 ·rw [hm] at hx;rcases List.mem_or_eq_of_mem_set hx with hx|rfl
  ·exact h.1 x hx
  ·exact h.1 e0 (List.mem_of_getElem? hj)
 ·rw [hm,List.map_set];have:(es.toList.map (·.born)).set j e0.born=es.toList.map (·.born):=by
   apply List.ext_getElem?;intro i;rw [List.getElem?_set];split
   ·rename_i hi;subst hi;simp [hj];simpa using hlt
   ·rfl
  simp only [this];exact h.2.1
 ·rw [hm,List.map_set];have:(es.toList.map (·.key)).set j e0.key=es.toList.map (·.key):=by
   apply List.ext_getElem?;intro i;rw [List.getElem?_set];split
   ·rename_i hi;subst hi;simp [hj];simpa using hlt
   ·rfl
  simp only [this];exact h.2.2
theorem stamped_push {es:Array MapEntry} {clock:Nat} {k v:Value} (h:Stamped es clock) (hne:∀ e∈es.toList,e.key≠k):Stamped (es.push { key:=k,val:=v,born:=clock }) (clock+1):=by
 refine ⟨fun x hx => ?_,?_,?_⟩
 ·rw [Array.toList_push,List.mem_append,List.mem_singleton] at hx;rcases hx with hx|rfl
  ·have:=h.1 x hx;omega
  ·simp
 ·rw [Array.toList_push,List.map_append,List.nodup_append];refine ⟨h.2.1,by simp,fun a ha b hb => ?_⟩;obtain ⟨x,hx,rfl⟩:=List.mem_map.1 ha;obtain rfl:b=clock:=by simpa using hb
  have:=h.1 x hx;omega
 ·rw [Array.toList_push,List.map_append,List.nodup_append];refine ⟨h.2.2,by simp,fun a ha b hb => ?_⟩;obtain ⟨x,hx,rfl⟩:=List.mem_map.1 ha;obtain rfl:b=k:=by simpa using hb
  exact hne x hx
open Go.RowKit Go.Deep Go.MapKept
def opVals:Array Value:=#[.string ⟨#[]⟩,.string ⟨#[43]⟩,.string ⟨#[45]⟩,.string ⟨#[42]⟩,.string ⟨#[47]⟩,.string ⟨#[37]⟩,.string ⟨#[109,105,110]⟩,.string ⟨#[109,97,120]⟩,.string ⟨#[115,104,108]⟩,.string ⟨#[115,104,114]⟩,.string ⟨#[38]⟩,.string ⟨#[124]⟩,.string ⟨#[94]⟩,.string ⟨#[61]⟩,.string ⟨#[60]⟩,.string ⟨#[110,111,116]⟩,.string ⟨#[97,110,100]⟩,.string ⟨#[111,114]⟩,.string ⟨#[105,102]⟩,.string ⟨#[110,97,114,114,111,119]⟩]
def opZeros:Array Value:=#[.string ⟨#[]⟩,.string ⟨#[]⟩,.string ⟨#[]⟩,.string ⟨#[]⟩,.string ⟨#[]⟩,.string ⟨#[]⟩,.string ⟨#[]⟩,.string ⟨#[]⟩,.string ⟨#[]⟩,.string ⟨#[]⟩,.string ⟨#[]⟩,.string ⟨#[]⟩,.string ⟨#[]⟩,.string ⟨#[]⟩,.string ⟨#[]⟩,.string ⟨#[]⟩,.string ⟨#[]⟩,.string ⟨#[]⟩,.string ⟨#[]⟩,.string ⟨#[]⟩]
theorem wpList_run {P:Program} {ops:Array Oper} {rest:List Oper} {o:Oper} {a:Act} {Q:Exit→Act→World→Prop} {w w':World} {v:Value} (hg:o.guard=none) (hr:(execOp a.eval o).run P w=.ok (.value v) w') (h:wpList P ops Q rest (a.put o.dst v) w'):wpList P ops Q (o::rest) a w:=
 wpList_plain hg fun _ hK=>by
  unfold Oper.wp;rw [hr];exact hK _ _ h
theorem wpList_skip {P:Program} {ops:Array Oper} {rest:List Oper} {o:Oper} {a:Act} {Q:Exit→Act→World→Prop} {w w':World} (hg:o.guard=none) (hr:(execOp a.eval o).run P w=.ok .skip w') (h:wpList P ops Q rest (a.put o.dst undef) w'):wpList P ops Q (o::rest) a w:=
 wpList_plain hg fun _ hK=>by
  unfold Oper.wp;rw [hr];exact hK _ _ h
theorem op_one:opVals.all (·.oneCell')=true:=by kernel_rfl
theorem op_size:(Tryz.prog.info? 260).map (·.size)=some opVals.size:=by kernel_rfl
theorem op_zero:(Tryz.prog.info? 260).map (fun i=>(i.zero,i.size))=some (some (.agg opZeros),20):=by kernel_rfl
theorem op_under:Tryz.prog.underlying 260=some (.array 20 9):=by kernel_rfl
set_option maxRecDepth 20000 in
theorem opWords_any (w:World):Calls Tryz.prog 183 #[] w fun e w'=>e=.returned (.agg opVals)∧w'=w.alloc (.cells opVals 260):=by
 go_enter Tryz.func183,Tryz.ntmps183;refine wp_seq ?_;refine wp_region_list ?_;refine wpList_run (v:=.pointer (some ⟨w.heap.size,0,none⟩)) (w':=w.alloc (.cells opZeros 260)) rfl ?_ ?_
 ·have hz:=(zero_of_info op_zero).1;simp [execOp,Instr.alloc,newVar,newRow,hz,Result.andThen,Value.cells]
 refine wpList_nil ?_;simp only [Exit.then];refine wp_seq ?_;refine wp_region_list ?_;refine wpList_run (v:=.agg opVals) (w':=w.alloc (.cells opZeros 260)) rfl (by kernel_rfl) ?_;refine wpList_skip (w':=w.alloc (.cells opVals 260)) rfl ?_ ?_
 ·have hs:=run_storeAt_new (P:=Tryz.prog) w 260 opZeros opVals op_size rfl op_one;simp only [execOp,Sem.run_bind];show ((Sem.run Tryz.prog (Instr.storeAt 260 (.pointer (some ⟨w.heap.size,0,none⟩)) (.agg opVals)) (w.alloc (.cells opZeros 260))).andThen fun a w'=>Sem.run Tryz.prog (pure Next.skip) w')=_;rw [hs];rfl
 refine wpList_nil ?_;simp only [Exit.then];refine wp_ret ?_;refine bodyPost_ret (v:=.agg opVals) ?_ rfl ⟨rfl,rfl⟩;rw [zaC rfl];exact run_loadVar_new w 260 opVals 20 9 op_under op_size
def opWd (o:Nat):ByteArray:=match opVals[o]? with|some (.string s)=>s|_=>⟨#[]⟩
theorem opWord_any (o:Nat) (ho:o≤19) (w:World):Calls Tryz.prog 144 #[.int .u8 (o:Int)] w fun e w'=>e=.returned (.string (opWd o))∧Below w.heap.size w w':=by
 have C:=hidI (opWords_any w);have h1:((o:Int)>19)=False:=by simp;omega
 have hi:(Instr.index 260 (.agg opVals) (.int .u8 (o:Int))).run Tryz.prog (w.alloc (.cells opVals 260))=.ok (.string (opWd o)) (w.alloc (.cells opVals 260)):=by
  have hm:o=0∨o=1∨o=2∨o=3∨o=4∨o=5∨o=6∨o=7∨o=8∨o=9∨o=10∨o=11∨o=12∨o=13∨o=14∨o=15∨o=16∨o=17∨o=18∨o=19:=by omega
  rcases hm with rfl|rfl|rfl|rfl|rfl|rfl|rfl|rfl|rfl|rfl|rfl|rfl|rfl|rfl|rfl|rfl|rfl|rfl|rfl|rfl<;>(show _=_;kernel_rfl)
 generalize hov:opVals=ov at C hi;clear hov;go_enter Tryz.func144,Tryz.ntmps144
 go_wp2_with (go_at_call 183;refine C.out.mono ?_;rintro e w1 ⟨rfl,rfl⟩;clear C)
 go_ret;exact ⟨rfl,by exact belowT⟩
open Go.RowKit Go.Deep Go.MapKept
theorem declSh11 (w:World):Calls Tryz.prog 145 #[.int .u8 1,.int .u8 1] w (ShPost w ⟨#[105,110,116]⟩ ⟨#[110]⟩):=by
 go_enter Tryz.func145,Tryz.ntmps145;go_wp2;go_region;all_goals
  go_wp2
  (try simp only [Exit.inBlock,Exit.then])
  refine bodyPost_ret (v:=.agg #[.string ⟨#[105,110,116]⟩,.string ⟨#[110]⟩]) ?_ rfl ⟨by simp,?_⟩
  ·rw [zaC rfl];go_simp;kernel_rfl
  ·exact belowT
theorem declSh12 (w:World):Calls Tryz.prog 145 #[.int .u8 1,.int .u8 2] w (ShPost w ⟨#[98,111,111,108]⟩ ⟨#[110]⟩):=by
 go_enter Tryz.func145,Tryz.ntmps145;go_wp2;go_region;all_goals
  go_wp2
  (try simp only [Exit.inBlock,Exit.then])
  refine bodyPost_ret (v:=.agg #[.string ⟨#[98,111,111,108]⟩,.string ⟨#[110]⟩]) ?_ rfl ⟨by simp,?_⟩
  ·rw [zaC rfl];go_simp;kernel_rfl
  ·exact belowT
theorem declSh21 (w:World):Calls Tryz.prog 145 #[.int .u8 2,.int .u8 1] w (ShPost w ⟨#[110,105,110,116]⟩ ⟨#[110]⟩):=by
 go_enter Tryz.func145,Tryz.ntmps145;go_wp2;go_region;all_goals
  go_wp2
  (try simp only [Exit.inBlock,Exit.then])
  refine bodyPost_ret (v:=.agg #[.string ⟨#[110,105,110,116]⟩,.string ⟨#[110]⟩]) ?_ rfl ⟨by simp,?_⟩
  ·rw [zaC rfl];go_simp;kernel_rfl
  ·exact belowT
theorem declSh22 (w:World):Calls Tryz.prog 145 #[.int .u8 2,.int .u8 2] w (ShPost w ⟨#[110,98,111,111,108]⟩ ⟨#[110]⟩):=by
 go_enter Tryz.func145,Tryz.ntmps145;go_wp2;go_region;all_goals
  go_wp2
  (try simp only [Exit.inBlock,Exit.then])
  refine bodyPost_ret (v:=.agg #[.string ⟨#[110,98,111,111,108]⟩,.string ⟨#[110]⟩]) ?_ rfl ⟨by simp,?_⟩
  ·rw [zaC rfl];go_simp;kernel_rfl
  ·exact belowT
theorem declSh31 (w:World):Calls Tryz.prog 145 #[.int .u8 3,.int .u8 1] w (ShPost w ⟨#[101,105,110,116]⟩ ⟨#[110]⟩):=by
 go_enter Tryz.func145,Tryz.ntmps145;go_wp2;go_region;all_goals
  go_wp2
  (try simp only [Exit.inBlock,Exit.then])
  refine bodyPost_ret (v:=.agg #[.string ⟨#[101,105,110,116]⟩,.string ⟨#[110]⟩]) ?_ rfl ⟨by simp,?_⟩
  ·rw [zaC rfl];go_simp;kernel_rfl
  ·exact belowT
theorem declSh32 (w:World):Calls Tryz.prog 145 #[.int .u8 3,.int .u8 2] w (ShPost w ⟨#[101,98,111,111,108]⟩ ⟨#[110]⟩):=by
 go_enter Tryz.func145,Tryz.ntmps145;go_wp2;go_region;all_goals
  go_wp2
  (try simp only [Exit.inBlock,Exit.then])
  refine bodyPost_ret (v:=.agg #[.string ⟨#[101,98,111,111,108]⟩,.string ⟨#[110]⟩]) ?_ rfl ⟨by simp,?_⟩
  ·rw [zaC rfl];go_simp;kernel_rfl
  ·exact belowT
open Go.RowKit Go.Deep Go.MapKept Go.WideMaps Go.WideShapes
open Go.ChangeMaps (setBlock)
def stmtWd:Nat→ByteArray
 | 1=>⟨#[115,101,116]⟩
 | 2=>⟨#[102,111,108,100]⟩
 | 3=>⟨#[101,97,99,104]⟩
 | 4=>⟨#[105,102]⟩
 | 5=>⟨#[119,104,105,108,101]⟩
 | 6=>⟨#[108,111,111,112]⟩
 | 7=>⟨#[98,102,115]⟩
 | _=>⟨#[]⟩
def stmtPt:Nat→ByteArray
 | 1=>⟨#[110,101]⟩
 | 2=>⟨#[110,111,101,99]⟩
 | 3=>⟨#[97]⟩
 | 4=>⟨#[101,116,102]⟩
 | 5=>⟨#[101,115]⟩
 | 6=>⟨#[101,115]⟩
 | 7=>⟨#[110,101,115]⟩
 | _=>⟨#[]⟩
def actWd:Nat→ByteArray
 | 1=>⟨#[112,117,116]⟩
 | 2=>⟨#[112,117,115,104]⟩
 | 3=>⟨#[112,117,108,108]⟩
 | _=>⟨#[]⟩
def actPt:Nat→ByteArray
 | 1=>⟨#[110,101,99]⟩
 | 2=>⟨#[110,111,119,101,99]⟩
 | 3=>⟨#[110,111,119,101]⟩
 | _=>⟨#[]⟩
def exprWd:Nat→ByteArray
 | 1=>⟨#[]⟩
 | 2=>⟨#[]⟩
 | 3=>⟨#[111,119,110]⟩
 | 4=>⟨#[102,97,114]⟩
 | 5=>⟨#[118,105,97]⟩
 | 6=>⟨#[105,100]⟩
 | 7=>⟨#[102,97,114,105,100]⟩
 | 8=>⟨#[100,101,103]⟩
 | 9=>⟨#[99,111,117,110,116]⟩
 | 10=>⟨#[]⟩
 | _=>⟨#[]⟩
def exprPt:Nat→ByteArray
 | 1=>⟨#[]⟩
 | 2=>⟨#[]⟩
 | 3=>⟨#[110]⟩
 | 4=>⟨#[110]⟩
 | 5=>⟨#[110]⟩
 | 6=>⟨#[]⟩
 | 7=>⟨#[]⟩
 | 8=>⟨#[119]⟩
 | 9=>⟨#[]⟩
 | 10=>⟨#[]⟩
 | _=>⟨#[]⟩
theorem stmtSh_any (k:Nat) (h1:1≤k) (h2:k≤7) (w:World):Calls Tryz.prog 136 #[.int .u8 (k:Int)] w (ShPost w (stmtWd k) (stmtPt k)):=by
 have hm:k=1∨k=2∨k=3∨k=4∨k=5∨k=6∨k=7:=by omega
 rcases hm with rfl|rfl|rfl|rfl|rfl|rfl|rfl
 ·exact stmtSh1 w
 ·exact stmtSh2 w
 ·exact stmtSh3 w
 ·exact stmtSh4 w
 ·exact stmtSh5 w
 ·exact stmtSh6 w
 ·exact stmtSh7 w
theorem actSh_any (k:Nat) (h1:1≤k) (h2:k≤3) (w:World):Calls Tryz.prog 139 #[.int .u8 (k:Int)] w (ShPost w (actWd k) (actPt k)):=by
 have hm:k=1∨k=2∨k=3:=by omega
 rcases hm with rfl|rfl|rfl
 ·exact actSh1 w
 ·exact actSh2 w
 ·exact actSh3 w
theorem exprSh_any (k:Nat) (h1:1≤k) (h2:k≤10) (w:World):Calls Tryz.prog 142 #[.int .u8 (k:Int)] w (ShPost w (exprWd k) (exprPt k)):=by
 have hm:k=1∨k=2∨k=3∨k=4∨k=5∨k=6∨k=7∨k=8∨k=9∨k=10:=by omega
 rcases hm with rfl|rfl|rfl|rfl|rfl|rfl|rfl|rfl|rfl|rfl
 ·exact exprSh1 w
 ·exact exprSh2 w
 ·exact exprSh3 w
 ·exact exprSh4 w
 ·exact exprSh5 w
 ·exact exprSh6 w
 ·exact exprSh7 w
 ·exact exprSh8 w
 ·exact exprSh9 w
 ·exact exprSh10 w
end Go.Proofs.YtfljimpgnlfipaaGreatDoor

namespace Go.Proofs.YtfljimpgnlfipaaGreatDoor
open Go.RowKit Go.Deep Go.MapKept Go.WideMaps Go.WideShapes
open Go.ChangeMaps (setBlock)
def dWd:Nat→ByteArray
 | 0=>⟨#[105,110,116]⟩
 | 1=>⟨#[98,111,111,108]⟩
 | 2=>⟨#[110,105,110,116]⟩
 | 3=>⟨#[110,98,111,111,108]⟩
 | 4=>⟨#[101,105,110,116]⟩
 | 5=>⟨#[101,98,111,111,108]⟩
 | _=>⟨#[]⟩
theorem declSh_any (j k:Nat) (h1:1≤j) (h2:j≤3) (h3:1≤k) (h4:k≤2) (w:World):Calls Tryz.prog 145 #[.int .u8 (j:Int),.int .u8 (k:Int)] w (ShPost w (dWd ((j-1)*2+(k-1))) ⟨#[110]⟩):=by
 have hj:j=1∨j=2∨j=3:=by omega
 have hk:k=1∨k=2:=by omega
 rcases hj with rfl|rfl|rfl<;>rcases hk with rfl|rfl
 ·exact declSh11 w
 ·exact declSh12 w
 ·exact declSh21 w
 ·exact declSh22 w
 ·exact declSh31 w
 ·exact declSh32 w
end Go.Proofs.YtfljimpgnlfipaaGreatDoor

namespace Go.Proofs.YtfljimpgnlfipaaGreatDoor
open Go.RowKit Go.Deep Go.MapKept
structure Rw where
 v:Value
 e:Nat
 size:Nat
 n:Nat
 xs:List Value
def Ap (a b:Value):Prop:=a.ownBlock=none∨a.ownBlock≠b.ownBlock
theorem Ap.symm {a b:Value} (h:Ap a b):Ap b a:=by
 rcases h with h|h
 ·cases hb:b.ownBlock with
  | none=>exact .inl hb
  | some k=>exact .inr (by rw [hb,h];simp)
 ·exact .inr (Ne.symm h)
def Own (w:World) (base:Nat) (r:Rw):Prop:=w.ownsRow base r.e r.size r.v r.n r.xs
structure RowsOk (w:World) (base:Nat) (l:List Rw):Prop where
 own:∀ r∈l,Own w base r
 apart:∀ (i j:Nat) (a b:Rw),l[i]?=some a→l[j]?=some b→i≠j→Ap a.v b.v
theorem RowsOk.at {w:World} {base:Nat} {l:List Rw} (h:RowsOk w base l) {i:Nat} {r:Rw} (hr:l[i]?=some r):w.ownsRow base r.e r.size r.v r.n r.xs:=h.own r (List.mem_of_getElem? hr)
theorem RowsOk.alloc {w:World} {base:Nat} {l:List Rw} (h:RowsOk w base l) (o:Obj):RowsOk (w.alloc o) base l:=
 ⟨fun r hr=>World.ownsRow.alloc (h.own r hr) o,h.apart⟩
theorem owns_drew {w:World} {base e size n:Nat} {v:Value} {xs:List Value} (h:w.ownsRow base e size v n xs):w.drew.ownsRow base e size v n xs:=h
theorem RowsOk.put {w w':World} {base:Nat} {l:List Rw} (h:RowsOk w base l) {i:Nat} {r r':Rw} (hr:l[i]?=some r) (hg:w.grownBy w' r.v.ownBlock) (ho:Own w' base r') (hb:r'.v.ownBlock=none∨r'.v.ownBlock=r.v.ownBlock∨r'.v.ownBlock=some w.heap.size):RowsOk w' base (l.set i r'):=by
 have hap:∀ j b,l[j]?=some b→i≠j→Ap r'.v b.v:=by
  intro j b hj hij;rcases hb with e|e|e
  ·exact .inl e
  ·have:=h.apart i j r b hr hj hij;unfold Ap at this ⊢;rw [e];exact this
  ·refine .inr ?_;rw [e];intro hk;have:=(h.at hj).lt _ hk.symm;omega
 constructor
 ·intro x hx;obtain ⟨j,hj⟩:=List.getElem?_of_mem hx;rw [List.getElem?_set] at hj;by_cases hij:i=j
  ·subst hij;have hlt:i<l.length:=(List.getElem?_eq_some_iff.1 hr).1;simp only [if_true,hlt] at hj;cases hj;exact ho
  ·simp only [hij,if_false] at hj;exact (h.at hj).kept hg ((h.apart i j r x hr hj hij).symm)
 ·intro a b x y hx hy hab;rw [List.getElem?_set] at hx hy;have hlt:i<l.length:=(List.getElem?_eq_some_iff.1 hr).1;by_cases ha:i=a
  ·subst ha;have hb':¬ i=b:=hab;simp only [if_true,hlt,Option.some.injEq] at hx;simp only [hb',if_false] at hy;subst hx;exact hap b y hy hab
  ·simp only [ha,if_false] at hx;by_cases hbb:i=b
   ·subst hbb;simp only [if_true,hlt,Option.some.injEq] at hy;subst hy;exact (hap a x hx ha).symm
   ·simp only [hbb,if_false] at hy;exact h.apart a b x y hx hy hab
theorem RowsOk.push {w:World} {base:Nat} {l:List Rw} (h:RowsOk w base l) (e size:Nat):RowsOk w base (l++[⟨.slice none 0 0,e,size,0,[]⟩]):=by
 constructor
 ·intro r hr;rcases List.mem_append.1 hr with hr|hr
  ·exact h.own r hr
  ·obtain rfl:r=_:=by simpa using hr
   exact World.ownsRow_nil _ _ _ _
 ·intro i j a b ha hb hij;have hn:Value.ownBlock (.slice none 0 0)=none:=rfl;by_cases hi:i<l.length
  ·rw [List.getElem?_append_left hi] at ha;by_cases hj:j<l.length
   ·rw [List.getElem?_append_left hj] at hb;exact h.apart i j a b ha hb hij
   ·rw [List.getElem?_append_right (by omega)] at hb;obtain ⟨k,hk⟩:∃ k,j-l.length=k:=⟨_,rfl⟩;rw [hk] at hb;cases k with
    | zero=>simp at hb;subst hb;exact Ap.symm (.inl hn)
    | succ k=>simp at hb
  ·rw [List.getElem?_append_right (by omega)] at ha;obtain ⟨k,hk⟩:∃ k,i-l.length=k:=⟨_,rfl⟩;rw [hk] at ha;cases k with
   | zero=>simp at ha;subst ha;exact .inl hn
   | succ k=>simp at ha
theorem own_setG {w:World} {base e size n g cap j:Nat} {xs:List Value} (h:w.ownsRow base e size (.slice (some ⟨g,0,none⟩) n cap) n xs) (u:Value):(w.setCell ⟨g,j,none⟩ u).ownsRow base e size (.slice (some ⟨g,0,none⟩) n cap) n (xs.set j u):=by
 refine ⟨by rw [List.length_set];exact h.1,?_⟩;rcases h.2 with ⟨h0,_⟩|⟨g',cap',cur,he,hb,hh,h1,h2,h3,h4⟩
 ·cases h0
 ·simp only [Value.slice.injEq,Option.some.injEq,Addr.mk.injEq,and_true,true_and] at he;obtain ⟨rfl,rfl⟩:=he;refine .inr ⟨g,cap,cur.setIfInBounds j u,rfl,hb,heap_setCell_same _ _ _ _ _ _ hh,h1,h2,by simpa using h3,?_⟩;rw [Array.toList_setIfInBounds,List.take_set,h4]
theorem grown_set (w:World) (g j:Nat) (u:Value):w.grownBy (w.setCell ⟨g,j,none⟩ u) (some g):=⟨rfl,rfl,rfl,(Below.setCell (Below.refl 0 w) (Nat.zero_le _) u).size,fun k _ hne=>Below.heap_setCell w ⟨g,j,none⟩ u k (fun e=>hne (by rw [e]))⟩
theorem RowsOk.setc {w:World} {base:Nat} {l:List Rw} (h:RowsOk w base l) {i g cap j:Nat} {r:Rw} (hr:l[i]?=some r) (hv:r.v=.slice (some ⟨g,0,none⟩) r.n cap) (u:Value):RowsOk (w.setCell ⟨g,j,none⟩ u) base (l.set i { r with xs:=r.xs.set j u }):=by
 have ho:=h.at hr;refine h.put hr (by rw [hv];exact grown_set w g j u) ?_ (.inr (.inl rfl));unfold Own;show (w.setCell ⟨g,j,none⟩ u).ownsRow base r.e r.size r.v r.n (r.xs.set j u);rw [hv] at ho ⊢;exact own_setG ho u
theorem own_cut {w:World} {base e size n m:Nat} {a:Option Addr} {cap:Nat} {xs:List Value} (h:w.ownsRow base e size (.slice a n cap) n xs) (hm:m≤n) (ha:a≠none):w.ownsRow base e size (.slice a m cap) m (xs.take (m*size)):=by
 have hmul:m*size≤n*size:=Nat.mul_le_mul hm (Nat.le_refl _);refine ⟨by rw [List.length_take,h.1];omega,?_⟩;rcases h.2 with ⟨h0,_⟩|⟨g',cap',cur,he,hb,hh,h1,h2,h3,h4⟩
 ·cases h0;exact absurd rfl ha
 ·cases he;refine .inr ⟨g',cap,cur,rfl,hb,hh,by omega,h2,h3,?_⟩;rw [←h4,List.take_take];congr 1;omega
open Go.RowKit Go.Deep Go.MapKept
abbrev FV:=Frm × Value
def fcells (x:FV):List Value:=[.int .u8 x.1.k,.string x.1.s,.int .i64 x.1.n,x.2,.int .i64 x.1.p]
def flatF (l:List FV):List Value:=l.flatMap fcells
theorem flatF_append (a b:List FV):flatF (a++b)=flatF a++flatF b:=by simp [flatF]
theorem flatF_one (x:FV):flatF [x]=fcells x:=by simp [flatF]
theorem zcV:∀ (l:List FV) (j i:Nat) (x:FV),l[j]?=some x→i<5→(flatF l)[j*5+i]?=(fcells x)[i]?
 | [],_,_,_,h,_=>by simp at h
 | y::r,0,i,x,h,hi=>by
  obtain rfl:y=x:=by simpa using h
  simp only [flatF,List.flatMap_cons,Nat.zero_mul,Nat.zero_add];rw [List.getElem?_append_left (by simpa [fcells] using hi)]
 | y::r,j+1,i,x,h,hi=>by
  have:=zcV r j i x (by simpa using h) hi;rw [←this];simp only [flatF,List.flatMap_cons];rw [List.getElem?_append_right (by simp [fcells];omega)];congr 1;simp [fcells];omega
theorem flatF_set:∀ (l:List FV) (b:Nat) (g:Frm) (kv kv':Value) (ks:List Nat),l[b]?=some (g,kv)→flatF (l.set b ({ g with kids:=ks },kv'))=(flatF l).set (b*5+3) kv'
 | [],_,_,_,_,_,h=>by simp at h
 | y::r,0,g,kv,kv',ks,h=>by
  obtain rfl:y=(g,kv):=by simpa using h
  simp [flatF,fcells]
 | y::r,b+1,g,kv,kv',ks,h=>by
  have ih:=flatF_set r b g kv kv' ks (by simpa using h);unfold flatF at ih ⊢;simp only [List.set_cons_succ,List.flatMap_cons];rw [ih];rw [show (b+1)*5+3=(fcells y).length+(b*5+3) by simp [fcells];omega];rw [List.set_append_right _ _ (by omega)];congr 2;omega
def ints (l:List Nat):List Value:=l.map fun (n:Nat)=>Value.int .i64 (n:Int)
theorem ints_get {l:List Nat} {j x:Nat} (h:l[j]?=some x):(ints l)[j]?=some (.int .i64 (x:Int)):=by simp [ints,h]
theorem zdH (a b:List Nat):ints (a++b)=ints a++ints b:=by simp [ints]
def bx (B:Nat):Value:=.slice (some ⟨B,0,none⟩) 1 1
def kidRow (x:FV):Rw:=⟨x.2,3,1,x.1.kids.length,ints x.1.kids⟩
def rrows (B:Nat) (fs:List FV) (top opn:List Nat) (fv tv ov:Value):List Rw:=
 ⟨bx B,156,3,1,[fv,tv,ov]⟩::⟨fv,97,5,fs.length,flatF fs⟩::⟨tv,3,1,top.length,ints top⟩::⟨ov,3,1,opn.length,ints opn⟩::⟨bx (B+1),158,2,1,[.int .i64 0,.int .i64 0]⟩::fs.map kidRow
def RD (w:World) (base B:Nat) (fs:List FV) (top opn:List Nat) (fv tv ov:Value):Prop:=RowsOk w base (rrows B fs top opn fv tv ov)
section
variable {w : World} {base B : Nat} {fs : List FV} {top opn : List Nat} {fv tv ov : Value}
theorem own_free {w:World} {base e size n g cap:Nat} {xs:List Value} (h:w.ownsRow base e size (.slice (some ⟨g,0,none⟩) n cap) n xs) (j:Nat):w.frozen? ⟨g,j,none⟩=false:=by
 rcases h.2 with ⟨h0,_⟩|⟨g',cap',cur,he,hb,hh,h1,h2,h3,h4⟩
 ·cases h0
 ·simp only [Value.slice.injEq,Option.some.injEq,Addr.mk.injEq,and_true,true_and] at he;obtain ⟨rfl,rfl⟩:=he;unfold World.frozen?;simp [hh]
end
open Go.RowKit Go.Deep Go.MapKept
section
variable {w : World} {base B : Nat} {fs : List FV} {top opn : List Nat} {fv tv ov : Value}
theorem zdS {w:World} {base e size n:Nat} {v:Value} {xs:List Value} (h:w.ownsRow base e size v n xs) (hn:0<n):∃ g cap,v=.slice (some ⟨g,0,none⟩) n cap∧base≤g∧g<w.heap.size:=by
 have hl:=h.lt;rcases h.2 with ⟨_,h0⟩|⟨g,cap,cur,rfl,_⟩
 ·omega
 ·have:=hl g rfl;exact ⟨g,cap,rfl,this.1,this.2⟩
theorem zcW {w:World} {base e size n g cap:Nat} {xs:List Value} (h:w.ownsRow base e size (.slice (some ⟨g,0,none⟩) n cap) n xs) {j:Nat} {u:Value} (hj:xs[j]?=some u):w.cell? ⟨g,j,none⟩=some u:=by
 have:=World.ownsRow.cells h (g:=g) rfl j u hj;rwa [show (⟨g,0,none⟩:Addr).add j=⟨g,0+j,none⟩ from Addr.add_lit ..,Nat.zero_add] at this
end
end Go.Proofs.YtfljimpgnlfipaaGreatDoor
