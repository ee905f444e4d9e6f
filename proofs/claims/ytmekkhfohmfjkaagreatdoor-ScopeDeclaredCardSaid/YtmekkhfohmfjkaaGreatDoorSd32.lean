/-
  Part 32 of the proof: PToks.
-/
import Derived.Test.YtmekkhfohmfjkaaGreatDoorSd31
namespace Go.Proofs.YtmekkhfohmfjkaaGreatDoor
open Go.RowKit Go.Shelf
attribute [local go_sem] Oper.semAt_some
theorem zcJ {W W2:World} {B:Nat} {t:TypeId} {v:Value} (h:Boxed W B t v) (hb:Below W.heap.size W W2):Boxed W2 B t v:=(hb.block B h.lt).trans h
theorem from_below {B:Nat} {W W2:World} (hb:Below W.heap.size W W2):KeepsFrom B W W2:=⟨hb.size,fun k _ _ hk _=>(hb.block k (Array.getElem?_eq_some_iff.1 hk).1).trans hk⟩
theorem owns_set {w:World} {base size n B j:Nat} {e:TypeId} {v u:Value} {xs:List Value} (h:w.ownsRow base e size v n xs) (hne:v.ownBlock≠some B):(w.setCell ⟨B,j,none⟩ u).ownsRow base e size v n xs:=by
 refine ⟨h.1,?_⟩
 rcases h.2 with h0|⟨g,cap,cur,rfl,hb,hgb,r⟩
 ·exact .inl h0
 ·exact .inr ⟨g,cap,cur,rfl,hb,(Below.heap_setCell w ⟨B,j,none⟩ _ g (fun e=>hne (by simp only at e;rw [e];rfl))).trans hgb,r⟩
structure TokI (s:ByteArray) (w:World) (b1 b2 b3 B:Nat) (pre:List Piece) (v:Value) (W:World):Prop where
 box:Boxed W b3 63 v
 own:W.ownsRow B 91 4 v pre.length (flatT (pre.map tok))
 r0:Boxed W w.heap.size 63 (.slice none 0 0)
 r1:Boxed W b1 3 (.int .i64 0)
 r2:Boxed W b2 28 (.int .i64 0)
 below:Below w.heap.size w W
 size:B≤W.heap.size
 good:bad 0 (pieces s.data.toList)=bad pre.length ((pieces s.data.toList).drop pre.length)
 len:pre.length≤600
structure TokX (s:ByteArray) (w:World) (b1 b2:Nat) (W:World):Prop where
 ex:∃ p e,lexRes s=([],p,e)∧Boxed W b1 3 (.int .i64 p)∧Boxed W b2 28 (.int .i64 e)
 r0:Boxed W w.heap.size 63 (.slice none 0 0)
 below:Below w.heap.size w W
theorem own_kept {W W':World} {row:Option Nat} {base e size n:Nat} {v:Value} {xs:List Value} (h:W.ownsRow base e size v n xs) (hg:W.grownBy W' row) (hr:∀ r,row=some r→∃ o:Obj,W.heap[r]?=some o∧o.isCells=false):W'.ownsRow base e size v n xs:=by
 refine ⟨h.1,?_⟩
 rcases h.2 with h0|⟨g,cap,cur,rfl,hb,hgb,r⟩
 ·exact .inl h0
 ·refine .inr ⟨g,cap,cur,rfl,hb,(hg.block g (Array.getElem?_eq_some_iff.1 hgb).1 fun e => ?_).trans hgb,r⟩
  obtain ⟨o,ho,hc⟩:=hr g e.symm
  rw [hgb] at ho
  cases ho
  cases hc
theorem TokI.kept {s:ByteArray} {w:World} {b1 b2 b3 B B':Nat} (hB:w.heap.size≤B'):OwnFrom B' (fun (pre:List Piece) W=>∃ v,TokI s w b1 b2 b3 B pre v W):=by
 rintro pre X Y row ⟨v,h⟩ hg hrow
 have hr':∀ r,row=some r→∃ o:Obj,X.heap[r]?=some o∧o.isCells=false:=fun r e=>(hrow r e).2
 exact ⟨v,⟨boxed_own _ 63 (fun (_:Unit)=>v) () X Y row h.box hg hr',own_kept h.own hg hr',boxed_own _ 63 (fun (_:Unit)=>Value.slice none 0 0) () X Y row h.r0 hg hr',boxed_own _ 3 (fun (_:Unit)=>Value.int .i64 0) () X Y row h.r1 hg hr',boxed_own _ 28 (fun (_:Unit)=>Value.int .i64 0) () X Y row h.r2 hg hr',
  (ownFrom_below (β:=Unit) (n₀:=w.heap.size) (B:=B') (w₀:=w) (Nat.le_refl _) hB) () X Y row h.below hg hrow,Nat.le_trans h.size hg.size,h.good,h.len⟩⟩
theorem TokX.kept {s:ByteArray} {w:World} {b1 b2 B':Nat} (hB:w.heap.size≤B'):OwnFrom B' (fun (_:List Piece) W=>TokX s w b1 b2 W):=by
 rintro pre X Y row ⟨⟨p,e,h0,h1,h2⟩,h3,h4⟩ hg hrow
 have hr':∀ r,row=some r→∃ o:Obj,X.heap[r]?=some o∧o.isCells=false:=fun r e=>(hrow r e).2
 exact ⟨⟨p,e,h0,boxed_own _ 3 (fun (_:Unit)=>Value.int .i64 p) () X Y row h1 hg hr',boxed_own _ 28 (fun (_:Unit)=>Value.int .i64 e) () X Y row h2 hg hr'⟩,boxed_own _ 63 (fun (_:Unit)=>Value.slice none 0 0) () X Y row h3 hg hr',
  (ownFrom_below (β:=Unit) (n₀:=w.heap.size) (B:=B') (w₀:=w) (Nat.le_refl _) hB) () X Y row h4 hg hrow⟩
theorem TokI.down {s:ByteArray} {w W W2:World} {b1 b2 b3 B:Nat} {pre:List Piece} {v:Value} (h:TokI s w b1 b2 b3 B pre v W) (hb:Below W.heap.size W W2):TokI s w b1 b2 b3 B pre v W2:=
 ⟨zcJ h.box hb,zbQ h.own hb (Nat.le_refl _),zcJ h.r0 hb,zcJ h.r1 hb,zcJ h.r2 hb,h.below.trans (hb.mono h.below.size),Nat.le_trans h.size hb.size,h.good,h.len⟩
theorem drop_prefix {α:Type} {pre ps:List α} {x:α} (h:(pre++[x]) <+: ps):∃ r,ps.drop pre.length=x::r∧ps.drop (pre.length+1)=r:=by
 obtain ⟨r,rfl⟩:=h
 refine ⟨r,by simp,?_⟩
 rw [←List.drop_drop]
 simp
theorem run_len (t:Txt):∀ (r:Txt) (p:Nat) (b:Option Nat) (k:Bool),∀ x∈run t p b k r,x.2.length≤t.length+1
 | [],p,b,k,x,hx=>by
  simp only [run] at hx
  exact word_len t p b x hx
 | c::r,p,b,true,x,hx=>by
  simp only [run] at hx
  split at hx
  ·exact run_len t r _ _ _ x hx
  ·exact run_len t r _ _ _ x hx
 | c::r,p,b,false,x,hx=>by
  simp only [run] at hx
  split at hx
  ·rcases List.mem_append.1 hx with h|h
   ·exact word_len t p b x h
   ·exact run_len t r _ _ _ x h
  ·split at hx
   ·rcases List.mem_append.1 hx with h|h
    ·exact word_len t p b x h
    ·rcases List.mem_cons.1 h with rfl|h
     ·simp
     ·exact run_len t r _ _ _ x h
   ·split at hx
    ·rcases List.mem_append.1 hx with h|h
     ·exact word_len t p b x h
     ·exact run_len t r _ _ _ x h
    ·exact run_len t r _ _ _ x hx
where
 word_len (t:Txt) (p:Nat) (b:Option Nat) (x:Piece) (hx:x∈word t p b):x.2.length≤t.length+1:=by
  cases b with
  | none=>simp [word] at hx
  | some b=>
   simp only [word,List.mem_singleton] at hx
   subst hx
   simp only [List.length_take,List.length_drop]
   omega
theorem TokI.wrong {s:ByteArray} {w W:World} {b1 b2 b3 B:Nat} {pre:List Piece} {v:Value} {i:Nat} {q:Txt} (hs:s.size≤3000) (h:TokI s w b1 b2 b3 B pre v W) (hR:(pre++[(i,q)]) <+: pieces s.data.toList) {p:Int} (hp:kindP q=0∧p=8∨kindP q≠0∧pre.length=600∧p=4) (h01:w.heap.size<b1) (h12:b1<b2) :
  TokX s w b1 b2 (((W.setCell ⟨w.heap.size,0,none⟩ (.slice none 0 0)).setCell ⟨b1,0,none⟩ (.int .i64 (i:Int))).setCell ⟨b2,0,none⟩ (.int .i64 p)):=by
 obtain ⟨r,hr,_⟩:=drop_prefix hR
 have hg:=h.good
 rw [hr] at hg
 refine ⟨⟨(i:Int),p,?_,(((h.r1.other (by omega) _).set _).other (by omega) _),((h.r2.other (by omega) _).other (by omega) _).set _⟩,(((h.r0.set _).other (by omega) _).other (by omega) _),?_⟩
 ·unfold lexRes
  rw [if_neg (by omega),hg]
  rcases hp with ⟨hk,rfl⟩|⟨hk,h6,rfl⟩
  ·simp [bad,hk]
  ·simp [bad,hk,h6]
 ·exact ((h.below.setCell (p:=⟨w.heap.size,0,none⟩) (Nat.le_refl _) _).setCell (p:=⟨b1,0,none⟩) (by simp only;omega) _).setCell (p:=⟨b2,0,none⟩) (by simp only;omega) _
theorem zdM {fn:Func} {p q r:Tmp} {tp tq tr:TypeId} (h:fn.results=#[.cell p tp,.cell q tq,.cell r tr]) (tmps:Array Value) (P:Program) (w:World) :
  (results fn tmps).run P w=((asAddr (tmps.getD p undef)).run P w).andThen fun a w₁=>((loadVar tp a).run P w₁).andThen fun u w₂=>((asAddr (tmps.getD q undef)).run P w₂).andThen fun b w₃=>((loadVar tq b).run P w₃).andThen fun v w₄=>
   ((asAddr (tmps.getD r undef)).run P w₄).andThen fun c w₅=>((loadVar tr c).run P w₅).andThen fun x w₆=>.ok (.tuple #[u,v,x]) w₆:=by
 simp only [results,h]
 simp [Sem.run_bind,Result.andThen]
theorem TokI.more {s:ByteArray} {w W W1 W5:World} {b1 b2 b3 B:Nat} {pre:List Piece} {v v':Value} {i:Nat} {q:Txt} (h:TokI s w b1 b2 b3 B pre v W) (hR:(pre++[(i,q)]) <+: pieces s.data.toList) (hk:kindP q≠0) (hlen:pre.length<600)
  (hb:Below W.drew.heap.size W.drew W1) {o:Obj} (hg:(W1.alloc o).grownBy W5 v.ownBlock) (ho:W5.ownsRow B 91 4 v' (pre.length+1) (flatT (pre.map tok)++(tok (i,q)).cells)) (h01:w.heap.size<b1) (h12:b1<b2) (h23:b2<b3) (h3:b3<B) :
  TokI s w b1 b2 b3 B (pre++[(i,q)]) v' (W5.setCell ⟨b3,0,none⟩ v'):=by
 have hb':Below W.heap.size W W1:=(Below.drew (Below.refl _ W)).trans hb
 have h1:=h.down hb'
 have hlt:∀ k,v.ownBlock=some k→B≤k:=fun k e=>(h.own.lt k e).1
 have hlt':∀ k,v'.ownBlock=some k→B≤k:=fun k e=>(ho.lt k e).1
 have kp:∀ {b:Nat} {t:TypeId} {u:Value},b<B→Boxed W1 b t u→Boxed W5 b t u:=fun {b t u} hbB hx=>(hx.alloc o).kept hg (fun e=>by have:=hlt _ e.symm;omega)
 obtain ⟨r,hr,hr2⟩:=drop_prefix hR
 refine ⟨(kp h3 h1.box).set _,owns_set ?_ (fun e=>by have:=hlt' _ e;omega),(kp (by omega) h1.r0).other (by omega) _,(kp (by omega) h1.r1).other (by omega) _,(kp (by omega) h1.r2).other (by omega) _,?_,?_,?_,?_⟩
 ·rw [List.length_append,List.map_append,flatT_append,List.map_singleton,flatT_one]
  exact ho
 ·have hz:=h1.size
  have hw:=h1.below
  refine Below.setCell (Below.grown (hw.alloc (by omega) o) hg (by rw [World.size_alloc];omega) (fun k e=>by have:=hlt k e;omega)) (by simp only;omega) _
 ·have hz:=h1.size
  have:=hg.size
  rw [World.size_alloc] at this
  rw [World.size_setCell]
  omega
 ·rw [h.good,hr,List.length_append,List.length_singleton,hr2]
  simp [bad,hk,Nat.ne_of_lt hlen]
 ·simp;omega
theorem more_from {W W1 W5:World} {B:Nat} {v v':Value} {o:Obj} {b3:Nat} (hb:Below W.drew.heap.size W.drew W1) (hg:(W1.alloc o).grownBy W5 v.ownBlock) {base e size n:Nat} {xs:List Value} (ho:W.ownsRow base e size v n xs):KeepsFrom B W (W5.setCell ⟨b3,0,none⟩ v'):=by
 have hb':Below W.heap.size W W1:=(Below.drew (Below.refl _ W)).trans hb
 refine (from_below hb').trans (((KeepsOthers.alloc W1 o).trans ((KeepsOthers.of_grownBy hg fun j o' ej hj => ?_).trans (KeepsOthers.setCell _ _ _))).from _)
 have h1:=((zbQ ho hb' (Nat.le_refl _)).alloc o).2
 rcases h1 with ⟨rfl,_⟩|⟨g,cap,cur,rfl,_,hgb,_⟩
 ·cases ej
 ·simp only [Value.ownBlock,Option.some.injEq] at ej
  subst ej
  rw [hgb] at hj
  cases hj
  rfl
theorem more_keeps {W W1 W5:World} {v v':Value} {o:Obj} {b3 b4 B:Nat} (hb:Below W.drew.heap.size W.drew W1) (hg:(W1.alloc o).grownBy W5 v.ownBlock) {e size n:Nat} {xs:List Value} (ho:W.ownsRow B e size v n xs) (h34:b3≠b4) (h4:b4<B):Keeps (fun k _=>k=b4) W (W5.setCell ⟨b3,0,none⟩ v'):=by
 have hb':Below W.heap.size W W1:=(Below.drew (Below.refl _ W)).trans hb
 refine (keeps_of_below hb' fun k o' _ hk=>(Array.getElem?_eq_some_iff.1 hk).1).trans ((Keeps.alloc _ W1 o).trans ((Keeps.grown hg fun k o' ek _ hk => ?_).trans (Keeps.grown (grownBy_setCell' W5 b3 v') fun k o' ek _ hk => ?_)))
 ·have:=(ho.lt k ek).1;omega
 ·cases ek;exact h34 hk
set_option maxRecDepth 100000 in
set_option maxHeartbeats 4000000 in
theorem toks_in (s:ByteArray) (hs:s.size≤3000) (w:World) (hL:Laid w):Calls Tryz.prog 28 #[.string s] w fun e w'=>∃ v,e=.returned v∧RTPost s w v w':=by
 obtain ⟨n,hn⟩:∃ n,s.size=n:=⟨_,rfl⟩
 have ql:∀ w,(Builtin.len_ #[9] 3 #[.string s]).run Tryz.prog w=.ok (.int .i64 (n:Int)) w:=fun w=>by rw [run_len_string w 9 3 s Tryz.underlying9,hn];rfl
 have HN:=hidI hn
 rw [hn] at hs
 have k0:decide (3000<(n:Int))=false:=by simp;omega
 have HL:=hidI hL
 clear hn hL
 refine (callsIn_wide (n:=0)).1 ?_
 refine callsIn_of_wp_marks Tryz.func28 rfl trivial ?_ rfl
 simp only [Tryz.ntmps28,List.size_toArray,List.length_cons,List.length_nil,Nat.reduceAdd,Nat.reduceSub,Array.replicate_succ,Array.replicate_zero,List.push_toArray,List.append_toArray,List.nil_append,List.cons_append]
 gi_wp2_with (refine ⟨trivial,rfl,?_⟩;gi_at_call 42;refine (callsIn_wide.2 (pieces_any _ _)).mono ?_;rintro e w' ⟨rfl,rfl⟩)
 have g0:=((((Boxed.new w 63 (.slice none 0 0)).alloc (.cells #[.int .i64 0] 3)).alloc (.cells #[.int .i64 0] 28)).alloc (.cells #[.slice none 0 0] 63)).alloc (.cells #[.string s] 9)
 have g1:=(((Boxed.new (w.alloc (.cells #[.slice none 0 0] 63)) 3 (.int .i64 0)).alloc (.cells #[.int .i64 0] 28)).alloc (.cells #[.slice none 0 0] 63)).alloc (.cells #[.string s] 9)
 have g2:=((Boxed.new ((w.alloc (.cells #[.slice none 0 0] 63)).alloc (.cells #[.int .i64 0] 3)) 28 (.int .i64 0)).alloc (.cells #[.slice none 0 0] 63)).alloc (.cells #[.string s] 9)
 have g3:=(Boxed.new (((w.alloc (.cells #[.slice none 0 0] 63)).alloc (.cells #[.int .i64 0] 3)).alloc (.cells #[.int .i64 0] 28)) 63 (.slice none 0 0)).alloc (.cells #[.string s] 9)
 have g4:=Boxed.new ((((w.alloc (.cells #[.slice none 0 0] 63)).alloc (.cells #[.int .i64 0] 3)).alloc (.cells #[.int .i64 0] 28)).alloc (.cells #[.slice none 0 0] 63)) 9 (.string s)
 simp only [World.size_alloc] at g1 g2 g3 g4
 have hB0:Below w.heap.size w (((((w.alloc (.cells #[.slice none 0 0] 63)).alloc (.cells #[.int .i64 0] 3)).alloc (.cells #[.int .i64 0] 28)).alloc (.cells #[.slice none 0 0] 63)).alloc (.cells #[.string s] 9)):=by exact belowT
 have hsz:(((((w.alloc (.cells #[.slice none 0 0] 63)).alloc (.cells #[.int .i64 0] 3)).alloc (.cells #[.int .i64 0] 28)).alloc (.cells #[.slice none 0 0] 63)).alloc (.cells #[.string s] 9)).heap.size=w.heap.size+1+1+1+1+1:=by simp
 obtain ⟨W0,hW0⟩:∃ W0,((((w.alloc (.cells #[.slice none 0 0] 63)).alloc (.cells #[.int .i64 0] 3)).alloc (.cells #[.int .i64 0] 28)).alloc (.cells #[.slice none 0 0] 63)).alloc (.cells #[.string s] 9)=W0:=⟨_,rfl⟩
 rw [hW0] at g0 g1 g2 g3 g4 hB0 hsz ⊢
 clear hW0
 obtain ⟨b1,h01⟩:∃ b1,w.heap.size+1=b1:=⟨_,rfl⟩
 rw [h01] at g1 g2 g3 g4 hsz ⊢
 obtain ⟨b2,h12⟩:∃ b2,b1+1=b2:=⟨_,rfl⟩
 rw [h12] at g2 g3 g4 hsz ⊢
 obtain ⟨b3,h23⟩:∃ b3,b2+1=b3:=⟨_,rfl⟩
 rw [h23] at g3 g4 hsz ⊢
 obtain ⟨b4,h34⟩:∃ b4,b3+1=b4:=⟨_,rfl⟩
 rw [h34] at g4 hsz ⊢
 have l01:w.heap.size<b1:=by omega
 have l12:b1<b2:=by omega
 have l23:b2<b3:=by omega
 have l34:b3<b4:=by omega
 clear h01 h12 h23 h34
 have n1:¬ b1=w.heap.size:=by omega
 have n2:¬ b2=w.heap.size:=by omega
 have n3:¬ b2=b1:=by omega
 have n4:¬ w.heap.size=b1:=by omega
 have n5:¬ w.heap.size=b2:=by omega
 have n6:¬ b1=b2:=by omega
 have n7:¬ b3=w.heap.size:=by omega
 have n8:¬ b3=b1:=by omega
 have n9:¬ b3=b2:=by omega
 refine range_law (gf:=67) (lb:=#[.pointer (some ⟨b4,0,none⟩)]) rfl (enters_of Tryz.func67 (by kernel_rfl) rfl)
  (T:=fun k _=>k=b4) (fun k _ hk ht=>by omega)
  (pieces_seq b4 s W0 g4.cell) (fun _=>rfl)
  (fun pre W=>∃ v,TokI s w b1 b2 b3 (b4+1) pre v W)
  (fun _ W=>TokX s w b1 b2 W)
  ?hI ?hIx ?h0
  (fun st W=>(∃ v,TokI s w b1 b2 b3 (b4+1) st.1 v W)∧st.2.2={ tmps:=#[.string s,undef,.pointer (some ⟨w.heap.size,0,none⟩),.pointer (some ⟨b1,0,none⟩),.pointer (some ⟨b2,0,none⟩),.pointer (some ⟨b3,0,none⟩),.int .i64 (st.2.1.1:Int),.string (bytesOf st.2.1.2),undef,.string s,.int .i64 (n:Int),.bool false,.string s,.func (.func 67) #[] #[.pointer (some ⟨b4,0,none⟩)],.int .i64 (st.2.1.1:Int),.string (bytesOf st.2.1.2),undef,undef,undef,undef,undef,undef,undef,undef,undef,undef,undef,undef,undef,undef,undef,undef,undef],defers:=[] })
  ?hAx ?assign ?body ?done ?stop
 case hI=>exact TokI.kept (by omega)
 case hIx=>exact TokX.kept (by omega)
 case h0=>
  refine ⟨.slice none 0 0,g3,World.ownsRow_nil _ _ _ _,g0,g1,g2,hB0,by omega,rfl,by simp⟩
 case hAx=>
  rintro st X Y row ⟨h1,ha⟩ hg hrow
  exact ⟨TokI.kept (B':=W0.heap.size) (by omega) st.1 X Y row h1 hg hrow,ha⟩
 case assign=>
  rintro l pre x W K hi hK
  dsimp only [encQ]
  gi_wp2
  exact hK _ _ (KeepsFrom.refl _ _) (Keeps.refl _ _) ⟨hi,rfl⟩
 case body=>
  rintro l pre ⟨i,q⟩ a' W hR ⟨⟨v,h⟩,ha⟩
  dsimp only at ha h
  subst ha
  have hmem:(i,q)∈pieces s.data.toList:=by
   obtain ⟨r,hr⟩:=hR
   rw [←hr];simp
  have hlen:=run_len s.data.toList _ _ _ _ (i,q) hmem
  have hsz2:(bytesOf q).size≤140737488355328:=by
   rw [bytes_size]
   have h1:s.data.toList.length=n:=by rw [Array.length_toList];exact HN.out
   simp only at hlen
   omega
  have hq:(bytesOf q).data.toList=q:=by simp [bytesOf]
  have CK:=hidI (pieceKind_any (bytesOf q) hsz2 W (HL.out.on h.below))
  rw [hq] at CK
  obtain ⟨bq,hbq⟩:∃ bq,bytesOf q=bq:=⟨_,rfl⟩
  obtain ⟨K,hK⟩:∃ K,kindP q=K:=⟨_,rfl⟩
  have CT:=hidI (token_any K bq (i:Int) (by rw [←hbq];exact hsz2))
  have HTK:Hid (tok (i,q)=⟨K,bq,(if K=4 then numV bq else 0),(i:Int)⟩):=hidI (by unfold tok numP;simp only [hK,hbq])
  rw [hbq,hK] at CK
  rw [hbq]
  have HK:=hidI hK
  have HH:=hidI h
  have HR:=hidI hR
  clear hq hlen hmem hsz2 h hR hbq hK g0 g1 g2 g3 g4
  gi_wp2_with (refine ⟨trivial,rfl,?_⟩;gi_at_call 43;refine (CallsIn.inRound l (callsIn_wide.2 CK.out)).mono ?_;rintro e W2 ⟨rfl,hb2⟩;refine Hid.out ?_)
  refine hidI ?_
  have h2:=HH.out.down hb2
  have H2:=hidI h2
  have c0:=h2.r0.cell
  have c1:=h2.r1.cell
  have c2:=h2.r2.cell
  have c3:=h2.box.cell
  have f0:=h2.r0.frozen
  have f1:=h2.r1.frozen
  have f2:=h2.r2.frozen
  have f3:=h2.box.frozen
  have HB2:=hidI hb2
  obtain ⟨a5,c5,rfl⟩:=zaE h2.own
  have hl6:=h2.len
  obtain ⟨dl,hdl⟩:∃ dl,pre.length=dl:=⟨_,rfl⟩
  have HDL:=hidI hdl
  rw [hdl] at c3 hl6
  clear hb2 h2 hdl
  by_cases hK0:K=0
  ·subst hK0
   gi_wp2
   exact ⟨(from_below HB2.out).trans (((KeepsOthers.setCell _ _ _).trans ((KeepsOthers.setCell _ _ _).trans (KeepsOthers.setCell _ _ _))).from _),H2.out.wrong (by have:=HN.out;omega) HR.out (.inl ⟨HK.out,rfl⟩) l01 l12⟩
  ·have k1:(K==0)=false:=by simpa using hK0
   have HK0:=hidI hK0
   clear hK0
   by_cases h6:dl=600
   ·subst h6
    gi_wp2
    exact ⟨(from_below HB2.out).trans (((KeepsOthers.setCell _ _ _).trans ((KeepsOthers.setCell _ _ _).trans (KeepsOthers.setCell _ _ _))).from _),H2.out.wrong (by have:=HN.out;omega) HR.out (.inr ⟨by rw [HK.out];exact HK0.out,HDL.out,rfl⟩) l01 l12⟩
   ·have k2:((dl:Int)==600)=false:=by simp;omega
    have H3:Hid (TokI s w b1 b2 b3 (b4+1) pre (.slice a5 dl c5) W2):=hidI (by have h:=H2.out;rw [HDL.out] at h;exact h)
    gi_wp2
    have hdr:Below W2.heap.size W2 W2.drew:=Below.drew (Below.refl _ W2)
    refine reg12 (x:=⟨K,bq,(if K=4 then numV bq else 0),(i:Int)⟩) (r:=pre.map tok) (B5:=b3) (base:=b4+1) (u:=.slice a5 dl c5) (fun w hw=>CT.out w hw) (HL.out.on (H3.out.below.drew)) c3 f3 ?hown ?hr H3.out.size ?hg ?hQ
    case hown=>
     have h:=zbQ H3.out.own hdr (Nat.le_refl _)
     rw [List.length_map]
     exact h
    case hr=>rw [List.length_map,HDL.out];omega
    case hg=>exact fun e=>by have:=(H3.out.own.lt _ e).1;omega
    case hQ=>
     intro W1 W5 u' t25 t26 t27 t28 t29 t30 t31 hb hg ho
     rw [List.length_map] at ho
     refine ⟨(from_below HB2.out).trans (more_from hb hg H3.out.own),(keeps_of_below HB2.out fun k o' _ hk=>(Array.getElem?_eq_some_iff.1 hk).1).trans (more_keeps hb hg H3.out.own (by omega) (by omega)),⟨u',H3.out.more HR.out (by rw [HK.out];exact HK0.out) (by have:=HDL.out;omega) hb hg ?_ l01 l12 l23 (by omega)⟩⟩
     rw [HTK.out]
     exact ho
 case done=>
  rintro D xs W hD rfl ⟨v,h⟩ hK
  have c0:=h.r0.cell
  have c1:=h.r1.cell
  have c2:=h.r2.cell
  have c3:=h.box.cell
  have f0:=h.r0.frozen
  have f1:=h.r1.frozen
  have f2:=h.r2.frozen
  have HH:=hidI h
  obtain ⟨a5,c5,hv⟩:=zaE h.own
  have hl:lexRes s=((pieces s.data.toList).map tok,0,0):=by
   unfold lexRes
   rw [if_neg (by have:=HN.out;omega),h.good,List.drop_length]
   rfl
  have HV:=hidI hv
  have HLR:=hidI hl
  clear hl h g0 g1 g2 g3 g4
  rw [hv] at c3
  clear hv
  gi_wp2
  obtain ⟨L,hLe⟩:∃ L,(pieces s.data.toList).length=L:=⟨_,rfl⟩
  have hh:=HH.out
  rw [HV.out] at hh
  have hown:=hh.own
  have HLE:=hidI hLe
  rw [hLe] at hown ⊢
  have hlt:∀ k,(Value.slice a5 L c5).ownBlock=some k→b4+1≤k:=fun k e=>(hown.lt k e).1
  have e0:Boxed (((W.setCell ⟨w.heap.size,0,none⟩ (.slice a5 L c5)).setCell ⟨b1,0,none⟩ (.int .i64 0)).setCell ⟨b2,0,none⟩ (.int .i64 0)) w.heap.size 63 (.slice a5 L c5):=((hh.r0.set _).other n4 _).other n5 _
  have e1:Boxed (((W.setCell ⟨w.heap.size,0,none⟩ (.slice a5 L c5)).setCell ⟨b1,0,none⟩ (.int .i64 0)).setCell ⟨b2,0,none⟩ (.int .i64 0)) b1 3 (.int .i64 0):=((hh.r1.other n1 _).set _).other n6 _
  have e2:Boxed (((W.setCell ⟨w.heap.size,0,none⟩ (.slice a5 L c5)).setCell ⟨b1,0,none⟩ (.int .i64 0)).setCell ⟨b2,0,none⟩ (.int .i64 0)) b2 28 (.int .i64 0):=((hh.r2.other n2 _).other n3 _).set _
  have o2:=owns_set (j:=0) (u:=.int .i64 0) (owns_set (j:=0) (u:=.int .i64 0) (owns_set (j:=0) (u:=.slice a5 L c5) hown (B:=w.heap.size) (fun e=>by have:=hlt _ e;omega)) (B:=b1) (fun e=>by have:=hlt _ e;omega)) (B:=b2) (fun e=>by have:=hlt _ e;omega)
  have hbl:=((hh.below.setCell (p:=⟨w.heap.size,0,none⟩) (Nat.le_refl _) (.slice a5 L c5)).setCell (p:=⟨b1,0,none⟩) (by simp only;omega) (.int .i64 0)).setCell (p:=⟨b2,0,none⟩) (by simp only;omega) (.int .i64 0)
  have hK':(((W.setCell ⟨w.heap.size,0,none⟩ (.slice a5 L c5)).setCell ⟨b1,0,none⟩ (.int .i64 0)).setCell ⟨b2,0,none⟩ (.int .i64 0)).heap[D]?=some (.deferred (some [])):=
   (Below.heap_setCell _ ⟨b2,0,none⟩ _ D (by simp only;omega)).trans ((Below.heap_setCell _ ⟨b1,0,none⟩ _ D (by simp only;omega)).trans ((Below.heap_setCell W ⟨w.heap.size,0,none⟩ _ D (by simp only;omega)).trans hK))
  obtain ⟨W2,hW2⟩:∃ W2,((W.setCell ⟨w.heap.size,0,none⟩ (.slice a5 L c5)).setCell ⟨b1,0,none⟩ (.int .i64 0)).setCell ⟨b2,0,none⟩ (.int .i64 0)=W2:=⟨_,rfl⟩
  rw [hW2] at e0 e1 e2 o2 hbl hK' ⊢
  have d0:Boxed (W2.putObj D (.deferred none)) w.heap.size 63 (.slice a5 L c5):=(World.putObj_heap_other (by omega)).trans e0
  have d1:Boxed (W2.putObj D (.deferred none)) b1 3 (.int .i64 0):=(World.putObj_heap_other (by omega)).trans e1
  have d2:Boxed (W2.putObj D (.deferred none)) b2 28 (.int .i64 0):=(World.putObj_heap_other (by omega)).trans e2
  have o3:=own_kept o2 (grownBy_putObj' W2 D (.deferred none)) (fun r e=>by cases e;exact ⟨_,hK',rfl⟩)
  have z0:=d0.cell
  have z1:=d1.cell
  have z2:=d2.cell
  have O3:=hidI o3
  have HBL:=hidI hbl
  clear hW2 c0 c1 c2 c3 f0 f1 f2 hh hown o2 o3 hbl e0 e1 e2 hLe
  refine ⟨by simp,.inl ⟨_,_,rfl,run_takeDeferred hK',?_⟩⟩
  refine ⟨.tuple #[.slice a5 L c5,.int .i64 0,.int .i64 0],?_,_,rfl,⟨.slice a5 L c5,by rw [HLR.out],?_,HBL.out.trans (belowK_b (w:=w) (Nat.le_refl _) W2 D _ _ (by omega) hK' rfl rfl)⟩⟩
  ·rw [zdM rfl]
   go_simp
  ·rw [HLR.out]
   have h:=zaS O3.out
   simp only [List.length_map]
   rw [HLE.out]
   exact h
 case stop=>
  rintro D pre W hD ⟨⟨p,e,hl,x1,x2⟩,r0,hbl⟩ hK
  have d0:Boxed (W.putObj D (.deferred none)) w.heap.size 63 (.slice none 0 0):=(World.putObj_heap_other (by omega)).trans r0
  have d1:Boxed (W.putObj D (.deferred none)) b1 3 (.int .i64 p):=(World.putObj_heap_other (by omega)).trans x1
  have d2:Boxed (W.putObj D (.deferred none)) b2 28 (.int .i64 e):=(World.putObj_heap_other (by omega)).trans x2
  have z0:=d0.cell
  have z1:=d1.cell
  have z2:=d2.cell
  have HBL:=hidI hbl
  have HLR:=hidI hl
  clear hl hbl g0 g1 g2 g3 g4
  gi_wp2
  refine ⟨by simp,.inl ⟨_,_,rfl,run_takeDeferred hK,?_⟩⟩
  refine ⟨.tuple #[.slice none 0 0,.int .i64 p,.int .i64 e],?_,_,rfl,⟨.slice none 0 0,by rw [HLR.out],?_,HBL.out.trans (belowK_b (w:=w) (Nat.le_refl _) W D _ _ (by omega) hK rfl rfl)⟩⟩
  ·rw [zdM rfl]
   go_simp
  ·rw [HLR.out]
   exact ⟨rfl,none,0,rfl,.inl rfl⟩
set_option maxRecDepth 100000 in
theorem toks_out (s:ByteArray) (w:World) (hs:3000<s.size):Calls Tryz.prog 28 #[.string s] w fun e w'=>∃ v,e=.returned v∧RTPost s w v w':=by
 obtain ⟨n,hn⟩:∃ n,s.size=n:=⟨_,rfl⟩
 have ql:∀ w,(Builtin.len_ #[9] 3 #[.string s]).run Tryz.prog w=.ok (.int .i64 (n:Int)) w:=fun w=>by rw [run_len_string w 9 3 s Tryz.underlying9,hn];rfl
 have k0:decide (3000<(n:Int))=true:=by simp;omega
 have hl:lexRes s=([],0,4):=by unfold lexRes;rw [if_pos hs]
 have HR:Hid (∀ w',Below w.heap.size w w'→RTPost s w (.tuple #[.slice none 0 0,.int .i64 0,.int .i64 4]) w'):=hidI fun w' h=>⟨_,by rw [hl],by rw [hl];exact ⟨rfl,none,0,rfl,.inl rfl⟩,h⟩
 clear hn hs hl
 go_enter Tryz.func28,Tryz.ntmps28
 go_wp2
 refine bodyPost_ret (v:=.tuple #[.slice none 0 0,.int .i64 0,.int .i64 4]) ?_ rfl ?_
 ·rw [zdM rfl]
  go_simp
 ·exact ⟨_,rfl,HR.out _ (by exact belowT)⟩
theorem toks_any (s:ByteArray) (w:World) (hL:Laid w):Calls Tryz.prog 28 #[.string s] w fun e w'=>∃ v,e=.returned v∧RTPost s w v w':=by
 rcases Nat.lt_or_ge 3000 s.size with h|h
 ·exact toks_out s w h
 ·exact toks_in s h w hL
end Go.Proofs.YtmekkhfohmfjkaaGreatDoor
