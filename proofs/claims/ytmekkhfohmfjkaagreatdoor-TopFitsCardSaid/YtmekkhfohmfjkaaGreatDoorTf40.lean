/-
  Part 40 of the proof: TfB.
-/
import Derived.Test.YtmekkhfohmfjkaaGreatDoorTf38
import Derived.Test.YtmekkhfohmfjkaaGreatDoorTf39
namespace Go.Proofs.YtmekkhfohmfjkaaGreatDoor
open Go.RowKit Go.Deep Go.MapKept
theorem zeC (B:Nat) (w:World):Below B w w.drew:=(Below.refl _ _).drew
def tf9N:Nat→Oper
 | 0=>⟨some 40,.move (.tmp 11),9, "top06.go:21",#[],none⟩
 | 1=>⟨some 41,.binOp .add 9 (.tmp 40) (.const (.string ⟨#[40,101,97,99,104,32,40,112,117,116,32,105,32,40,43,32]⟩)) 9,9, "top06.go:21",#[⟨0,.data⟩],none⟩
 | 2=>⟨some 42,.move (.tmp 5),36, "top06.go:21",#[],none⟩
 | 3=>⟨some 43,.move (.tmp 8),3, "top06.go:21",#[],none⟩
 | 4=>⟨some 44,.indexAddr 36 (.tmp 42) (.tmp 43),0, "top06.go:21",#[⟨2,.data⟩,⟨3,.data⟩],none⟩
 | 5=>⟨some 45,.load 9 (.tmp 44),9, "top06.go:21",#[⟨4,.data⟩],none⟩
 | 6=>⟨some 46,.binOp .add 9 (.tmp 41) (.tmp 45) 9,9, "top06.go:21",#[⟨1,.data⟩,⟨5,.data⟩],none⟩
 | 7=>⟨some 47,.binOp .add 9 (.tmp 46) (.const (.string ⟨#[32]⟩)) 9,9, "top06.go:21",#[⟨6,.data⟩],none⟩
 | 8=>⟨some 48,.move (.tmp 5),36, "top06.go:21",#[],none⟩
 | 9=>⟨some 49,.move (.tmp 9),3, "top06.go:21",#[],none⟩
 | 10=>⟨some 50,.indexAddr 36 (.tmp 48) (.tmp 49),0, "top06.go:21",#[⟨8,.data⟩,⟨9,.data⟩],none⟩
 | 11=>⟨some 51,.load 9 (.tmp 50),9, "top06.go:21",#[⟨10,.data⟩],none⟩
 | 12=>⟨some 52,.binOp .add 9 (.tmp 47) (.tmp 51) 9,9, "top06.go:21",#[⟨7,.data⟩,⟨11,.data⟩],none⟩
 | 13=>⟨some 53,.binOp .add 9 (.tmp 52) (.const (.string ⟨#[41,41,41]⟩)) 9,9, "top06.go:21",#[⟨12,.data⟩],none⟩
 | 14=>⟨some 54,.call ⟨.value (.func 18),#[.tmp 53],#[9]⟩,48, "top06.go:21",#[⟨13,.data⟩],none⟩
 | 15=>⟨some 39,.move (.tmp 54),48, "top06.go:21",#[⟨14,.data⟩],none⟩
 | 16=>⟨some 55,.extract (.tmp 39) 0,47, "top06.go:21",#[⟨15,.data⟩],none⟩
 | 17=>⟨some 56,.extract (.tmp 39) 1,3, "top06.go:21",#[⟨15,.data⟩,{ on:=20,ground:=Go.Ground.gcOnly Go.Departure.lateStores }],none⟩
 | 18=>⟨some 57,.extract (.tmp 39) 2,28, "top06.go:21",#[⟨15,.data⟩,{ on:=21,ground:=Go.Ground.gcOnly Go.Departure.lateStores }],none⟩
 | 19=>⟨some 12,.alloc 47,0, "top06.go:21",#[],none⟩
 | 20=>⟨none,.store 47 (.tmp 12) (.tmp 55),0, "top06.go:21",#[⟨19,.data⟩,⟨16,.data⟩,⟨14,.chain⟩,⟨0,.phase⟩,⟨1,.phase⟩,⟨2,.phase⟩,⟨3,.phase⟩,⟨4,.phase⟩,⟨5,.phase⟩,⟨6,.phase⟩,⟨7,.phase⟩,⟨8,.phase⟩,⟨9,.phase⟩,⟨10,.phase⟩,⟨11,.phase⟩,⟨12,.phase⟩,⟨13,.phase⟩,⟨14,.phase⟩,⟨15,.phase⟩,⟨16,.phase⟩,{ on:=17,ground:=Go.Ground.textOnly Go.Departure.lateStores },{ on:=18,ground:=Go.Ground.textOnly Go.Departure.lateStores },⟨19,.phase⟩],none⟩
 | 21=>⟨some 13,.assign (.tmp 56),3, "top06.go:21",#[⟨17,.data⟩,⟨20,.chain⟩,⟨0,.phase⟩,⟨1,.phase⟩,⟨2,.phase⟩,⟨3,.phase⟩,⟨4,.phase⟩,⟨5,.phase⟩,⟨6,.phase⟩,⟨7,.phase⟩,⟨8,.phase⟩,⟨9,.phase⟩,⟨10,.phase⟩,⟨11,.phase⟩,⟨12,.phase⟩,⟨13,.phase⟩,⟨14,.phase⟩,⟨15,.phase⟩,⟨16,.phase⟩,⟨17,.phase⟩,{ on:=18,ground:=Go.Ground.textOnly Go.Departure.lateStores },⟨19,.phase⟩,⟨20,.phase⟩],none⟩
 | _=>⟨some 14,.assign (.tmp 57),28, "top06.go:21",#[⟨18,.data⟩,⟨21,.chain⟩,⟨0,.phase⟩,⟨1,.phase⟩,⟨2,.phase⟩,⟨3,.phase⟩,⟨4,.phase⟩,⟨5,.phase⟩,⟨6,.phase⟩,⟨7,.phase⟩,⟨8,.phase⟩,⟨9,.phase⟩,⟨10,.phase⟩,⟨11,.phase⟩,⟨12,.phase⟩,⟨13,.phase⟩,⟨14,.phase⟩,⟨15,.phase⟩,⟨16,.phase⟩,⟨17,.phase⟩,⟨18,.phase⟩,⟨19,.phase⟩,⟨20,.phase⟩,⟨21,.phase⟩],none⟩
set_option maxRecDepth 100000 in
set_option maxHeartbeats 1600000 in
theorem topFits_law (x y:Int) (hx0:0≤x) (hx1:x≤255) (hy0:0≤y) (hy1:y≤255) (tr:Bool) (w:World) (hL:Laid w) :
    Calls Tryz.prog 5 #[.agg #[.int .u8 x,.int .u8 y],.bool tr] w fun e w'=>e=.returned (.bool true)∧Below w.heap.size w w':=by
  obtain ⟨a,rfl⟩:=Int.eq_ofNat_of_zero_le hx0
  obtain ⟨b,rfl⟩:=Int.eq_ofNat_of_zero_le hy0
  obtain ⟨i,r1,hi7⟩:∃ i:Nat,(a:Int).tmod 10=(i:Int)∧i<10:=⟨a % 10,rfl,by omega⟩
  obtain ⟨k,r2,hk7⟩:∃ k:Nat,(b:Int).tmod 10=(k:Int)∧k<10:=⟨b % 10,rfl,by omega⟩
  have HR1:=hidI r1
  have HR2:=hidI r2
  have HL:=hidI hL
  clear hL r1 r2
  go_enter Tryz.func5,Tryz.ntmps5
  go_wp2
  have hb0:Below w.heap.size w ((((w.alloc (.cells #[.int .u8 (a:Int),.int .u8 (b:Int)] 41)).alloc (.cells rowE 9)).alloc (.cells rowI 4)).alloc (.cells rowB 4)):=(((((Below.refl _ _).alloc (Nat.le_refl _) _).alloc (by simp) _).alloc (by simp;omega) _).alloc (by simp;omega) _)
  have a0:=AtBd.on (AtBd.on (AtBd.on (AtBd.new w 41 #[.int .u8 (a:Int),.int .u8 (b:Int)]) ((Below.refl _ _).alloc (Nat.le_refl _) (.cells rowE 9))) ((Below.refl _ _).alloc (Nat.le_refl _) (.cells rowI 4))) ((Below.refl _ _).alloc (Nat.le_refl _) (.cells rowB 4))
  have a1:=AtBd.on (AtBd.on (AtBd.new (w.alloc (.cells #[.int .u8 (a:Int),.int .u8 (b:Int)] 41)) 9 rowE) ((Below.refl _ _).alloc (Nat.le_refl _) (.cells rowI 4))) ((Below.refl _ _).alloc (Nat.le_refl _) (.cells rowB 4))
  have a2:=AtBd.on (AtBd.new ((w.alloc (.cells #[.int .u8 (a:Int),.int .u8 (b:Int)] 41)).alloc (.cells rowE 9)) 4 rowI) ((Below.refl _ _).alloc (Nat.le_refl _) (.cells rowB 4))
  have a3:=AtBd.new (((w.alloc (.cells #[.int .u8 (a:Int),.int .u8 (b:Int)] 41)).alloc (.cells rowE 9)).alloc (.cells rowI 4)) 4 rowB
  simp only [World.size_alloc,Nat.add_assoc,Nat.reduceAdd] at a1 a2 a3
  obtain ⟨WW,hWW⟩:∃ W,(((w.alloc (.cells #[.int .u8 (a:Int),.int .u8 (b:Int)] 41)).alloc (.cells rowE 9)).alloc (.cells rowI 4)).alloc (.cells rowB 4)=W:=⟨_,rfl⟩
  change Code.wp _ _ _ _ ((((w.alloc (.cells #[.int .u8 (a:Int),.int .u8 (b:Int)] 41)).alloc (.cells rowE 9)).alloc (.cells rowI 4)).alloc (.cells rowB 4))
  rw [hWW] at hb0 a0 a1 a2 a3 ⊢
  clear hWW
  have HAX:=hidI a0
  have HAE:=hidI a1
  have HAI:=hidI a2
  have HABo:=hidI a3
  have HL0:=hidI (HL.out.on hb0)
  have HBW:=hidI hb0
  clear a0 a1 a2 a3 hb0 HL
  have c0:∀ d os,(«Sort».grow (redrawn WW d) os).cell? ⟨w.heap.size,0,none⟩=some (.int .u8 (a:Int)):=fun d os=>zaJ (below_regrown WW d os) (HAX.out 0 _ rfl)
  have c1:∀ d os,(«Sort».grow (redrawn WW d) os).cell? ⟨w.heap.size,1,none⟩=some (.int .u8 (b:Int)):=fun d os=>zaJ (below_regrown WW d os) (HAX.out 1 _ rfl)
  have r1:=HR1.out
  have r2:=HR2.out
  refine wp_region_quiet_below (by kernel_rfl) (by kernel_rfl) ?_
  repeat (first|go_big_quiet_step (fail)|quiet_step (fail))
  refine wpQuiet_nil ?_
  intro _ hw'
  obtain ⟨⟨dq,osq⟩,hw''⟩:=hw'
  subst hw''
  obtain ⟨w9,hw9⟩:∃ w9,«Sort».grow (redrawn WW dq) osq=w9:=⟨_,rfl⟩
  have HB4:Hid (Below WW.heap.size WW w9):=hidI (hw9▸below_regrown WW dq osq)
  rw [hw9]
  clear hw9 c0 c1 r1 r2
  cases tr with
  | true=>
    obtain ⟨P1,HP1,HG1,hOk1,hD1,hW1,hF1⟩:=fit_facts (fitP_all i hi7 k hk7)
    obtain ⟨P2,HP2,HG2,hOk2,hD2,hW2,hF2⟩:=fit_facts (fitQ_all i hi7).2
    have HLn0:=And.intro (exs_len i) (exs_len k)
    obtain ⟨ti,hti⟩:∃ x,exsT.getD i []=x:=⟨_,rfl⟩
    obtain ⟨tk,htk⟩:∃ x,exsT.getD k []=x:=⟨_,rfl⟩
    rw [hti,htk] at HLn0
    obtain ⟨m1,h1⟩:∃ m,hdrF++[40,101,97,99,104,32,40,112,117,116,32,105,32,40,43,32]=m:=⟨_,rfl⟩
    obtain ⟨m6,h6⟩:∃ m,m1++ti=m:=⟨_,rfl⟩
    obtain ⟨m7,h7⟩:∃ m,m6++[32]=m:=⟨_,rfl⟩
    obtain ⟨m12,h12⟩:∃ m,m7++tk=m:=⟨_,rfl⟩
    obtain ⟨m13,h13⟩:∃ m,m12++[41,41,41]=m:=⟨_,rfl⟩
    obtain ⟨g1,k1⟩:∃ m,hdrF++[40,101,97,99,104,32,40,112,117,116,32]=m:=⟨_,rfl⟩
    obtain ⟨g2,k2⟩:∃ m,g1++[98]=m:=⟨_,rfl⟩
    obtain ⟨g3,k3⟩:∃ m,g2++[32]=m:=⟨_,rfl⟩
    obtain ⟨g4,k4⟩:∃ m,g3++ti=m:=⟨_,rfl⟩
    obtain ⟨g5,k5⟩:∃ m,g4++[41,41]=m:=⟨_,rfl⟩
    have e13:fitP i k=m13:=by rw [←h13,←h12,←h7,←h6,←h1,←hti,←htk];rfl
    have e5:fitQ 98 i=g5:=by rw [←k5,←k4,←k3,←k2,←k1,←hti];rfl
    rw [e13] at HP1 HG1
    rw [e5] at HP2 HG2
    have HLn:Hid (hdrF.length≤40∧ti.length≤20∧tk.length≤20∧m1.length≤60∧m6.length≤80∧m7.length≤90∧m12.length≤110∧g1.length≤60∧g2.length≤70∧g3.length≤80∧g4.length≤100):=hidI (by
      have l0:hdrF.length=36:=rfl
      have l1:=congrArg List.length h1
      have l6:=congrArg List.length h6
      have l7:=congrArg List.length h7
      have l12:=congrArg List.length h12
      have q1:=congrArg List.length k1
      have q2:=congrArg List.length k2
      have q3:=congrArg List.length k3
      have q4:=congrArg List.length k4
      simp only [List.length_append,List.length_cons,List.length_nil] at l1 l6 l7 l12 q1 q2 q3 q4
      omega)
    have HTI:=hidI hti
    have HTK:=hidI htk
    have H1:=hidI h1
    have H6:=hidI h6
    have H7:=hidI h7
    have H12:=hidI h12
    have H13:=hidI h13
    have G1:=hidI k1
    have G2:=hidI k2
    have G3:=hidI k3
    have G4:=hidI k4
    have G5:=hidI k5
    have HL3:=hidI (HL0.out.on (HB4.out.trans (zeC _ _)))
    replace HB4:=hidI (HB4.out.trans (zeC _ _))
    clear hti htk h1 h6 h7 h12 h13 k1 k2 k3 k4 k5 e13 e5 HLn0
    go_wp2
    refine wp_region_seq3A tf9N (fun (q:Nat × PV) j0=>match j0 with|0=>.string (bytesOf hdrF)|1=>.string (bytesOf m1)|2=>.slice (some ⟨w.heap.size+1,0,none⟩) 10 10|3=>.int .i64 (i:Int)|4=>.pointer (some ⟨w.heap.size+1,i,none⟩)|5=>.string (bytesOf ti)|6=>.string (bytesOf m6)|7=>.string (bytesOf m7)|8=>.slice (some ⟨w.heap.size+1,0,none⟩) 10 10|9=>.int .i64 (k:Int)|10=>.pointer (some ⟨w.heap.size+1,k,none⟩)|11=>.string (bytesOf tk)|12=>.string (bytesOf m12)|13=>.string (bytesOf m13)|14=>.tuple #[pval q.2,.int .i64 0,.int .i64 0]|15=>.tuple #[pval q.2,.int .i64 0,.int .i64 0]|16=>pval q.2|17=>.int .i64 0|18=>.int .i64 0|19=>.pointer (some ⟨q.1,0,none⟩)|20=>undef|21=>.int .i64 0|_=>undef) (SrcS P1 w9.drew 14 19 20) (0,pv0) 22 Tryz.mixed (by kernel_rfl) (by kernel_rfl) (SrcS.start _ _ _ _ _ _ _) ?_ ?_
    · intro i9 hi9 q9 a9 w9 l9 hF9 hL9 hl9 hA9 hC9 hS9 K9 hK9
      have hc9:i9=0∨i9=1∨i9=2∨i9=3∨i9=4∨i9=5∨i9=6∨i9=7∨i9=8∨i9=9∨i9=10∨i9=11∨i9=12∨i9=13∨i9=14∨i9=15∨i9=16∨i9=17∨i9=18∨i9=19∨i9=20∨i9=21:=by omega
      clear hi9
      rcases hc9 with rfl|rfl|rfl|rfl|rfl|rfl|rfl|rfl|rfl|rfl|rfl|rfl|rfl|rfl|rfl|rfl|rfl|rfl|rfl|rfl|rfl|rfl
      · have e11:=hF9.od 11 (v:=.string (bytesOf hdrF)) rfl
        refine zaS rfl ?_ (hK9 q9 w9 (fun _ _ _=>rfl) (hS9.pure (by decide) (by decide) (by decide)))
        clear hF9
        simp only [tf9N,execOp,e11]
        first|done|(go_simp<;>omega)
      · have e40:=hF9.ev 0 40
        have ha:(Op.stringOp .add (bytesOf hdrF) ⟨#[40,101,97,99,104,32,40,112,117,116,32,105,32,40,43,32]⟩).run Tryz.prog w9=.ok (.string (bytesOf m1)) w9:=by
          have h:=zbG Tryz.prog w9 hdrF [40,101,97,99,104,32,40,112,117,116,32,105,32,40,43,32] (by have:=HLn.out;first|omega|(simp;omega)|(simp;done)) (by have:=HLn.out;first|omega|(simp;done))
          rw [H1.out] at h
          exact h
        refine zaS rfl ?_ (hK9 q9 w9 (fun _ _ _=>rfl) (hS9.pure (by decide) (by decide) (by decide)))
        clear hF9
        simp only [tf9N,execOp,e40]
        first|done|(go_simp<;>omega)
      · have e5:=hF9.od 5 (v:=.slice (some ⟨w.heap.size+1,0,none⟩) 10 10) rfl
        refine zaS rfl ?_ (hK9 q9 w9 (fun _ _ _=>rfl) (hS9.pure (by decide) (by decide) (by decide)))
        clear hF9
        simp only [tf9N,execOp,e5]
        first|done|(go_simp<;>omega)
      · have e8:=hF9.od 8 (v:=.int .i64 (i:Int)) rfl
        refine zaS rfl ?_ (hK9 q9 w9 (fun _ _ _=>rfl) (hS9.pure (by decide) (by decide) (by decide)))
        clear hF9
        simp only [tf9N,execOp,e8]
        first|done|(go_simp<;>omega)
      · have e42:=hF9.ev 2 42
        have e43:=hF9.ev 3 43
        have u1:(i:Int)<10:=by omega
        refine zaS rfl ?_ (hK9 q9 w9 (fun _ _ _=>rfl) (hS9.pure (by decide) (by decide) (by decide)))
        clear hF9
        simp only [tf9N,execOp,e42,e43]
        first|done|(go_simp<;>omega)
      · have e44:=hF9.ev 4 44
        have q1:=HAE.out.on (HB4.out.trans (hS9.below.mono HB4.out.size)) _ _ (rowE_get hi7)
        rw [HTI.out] at q1
        refine zaS rfl ?_ (hK9 q9 w9 (fun _ _ _=>rfl) (hS9.pure (by decide) (by decide) (by decide)))
        clear hF9
        simp only [tf9N,execOp,e44]
        first|done|(go_simp<;>omega)
      · have e41:=hF9.ev 1 41
        have e45:=hF9.ev 5 45
        have ha:(Op.stringOp .add (bytesOf m1) (bytesOf ti)).run Tryz.prog w9=.ok (.string (bytesOf m6)) w9:=by
          have h:=zbG Tryz.prog w9 m1 ti (by have:=HLn.out;first|omega|(simp;omega)|(simp;done)) (by have:=HLn.out;first|omega|(simp;done))
          rw [H6.out] at h
          exact h
        refine zaS rfl ?_ (hK9 q9 w9 (fun _ _ _=>rfl) (hS9.pure (by decide) (by decide) (by decide)))
        clear hF9
        simp only [tf9N,execOp,e41,e45]
        first|done|(go_simp<;>omega)
      · have e46:=hF9.ev 6 46
        have ha:(Op.stringOp .add (bytesOf m6) ⟨#[32]⟩).run Tryz.prog w9=.ok (.string (bytesOf m7)) w9:=by
          have h:=zbG Tryz.prog w9 m6 [32] (by have:=HLn.out;first|omega|(simp;omega)|(simp;done)) (by have:=HLn.out;first|omega|(simp;done))
          rw [H7.out] at h
          exact h
        refine zaS rfl ?_ (hK9 q9 w9 (fun _ _ _=>rfl) (hS9.pure (by decide) (by decide) (by decide)))
        clear hF9
        simp only [tf9N,execOp,e46]
        first|done|(go_simp<;>omega)
      · have e5:=hF9.od 5 (v:=.slice (some ⟨w.heap.size+1,0,none⟩) 10 10) rfl
        refine zaS rfl ?_ (hK9 q9 w9 (fun _ _ _=>rfl) (hS9.pure (by decide) (by decide) (by decide)))
        clear hF9
        simp only [tf9N,execOp,e5]
        first|done|(go_simp<;>omega)
      · have e9:=hF9.od 9 (v:=.int .i64 (k:Int)) rfl
        refine zaS rfl ?_ (hK9 q9 w9 (fun _ _ _=>rfl) (hS9.pure (by decide) (by decide) (by decide)))
        clear hF9
        simp only [tf9N,execOp,e9]
        first|done|(go_simp<;>omega)
      · have e48:=hF9.ev 8 48
        have e49:=hF9.ev 9 49
        have u1:(k:Int)<10:=by omega
        refine zaS rfl ?_ (hK9 q9 w9 (fun _ _ _=>rfl) (hS9.pure (by decide) (by decide) (by decide)))
        clear hF9
        simp only [tf9N,execOp,e48,e49]
        first|done|(go_simp<;>omega)
      · have e50:=hF9.ev 10 50
        have q1:=HAE.out.on (HB4.out.trans (hS9.below.mono HB4.out.size)) _ _ (rowE_get hk7)
        rw [HTK.out] at q1
        refine zaS rfl ?_ (hK9 q9 w9 (fun _ _ _=>rfl) (hS9.pure (by decide) (by decide) (by decide)))
        clear hF9
        simp only [tf9N,execOp,e50]
        first|done|(go_simp<;>omega)
      · have e47:=hF9.ev 7 47
        have e51:=hF9.ev 11 51
        have ha:(Op.stringOp .add (bytesOf m7) (bytesOf tk)).run Tryz.prog w9=.ok (.string (bytesOf m12)) w9:=by
          have h:=zbG Tryz.prog w9 m7 tk (by have:=HLn.out;first|omega|(simp;omega)|(simp;done)) (by have:=HLn.out;first|omega|(simp;done))
          rw [H12.out] at h
          exact h
        refine zaS rfl ?_ (hK9 q9 w9 (fun _ _ _=>rfl) (hS9.pure (by decide) (by decide) (by decide)))
        clear hF9
        simp only [tf9N,execOp,e47,e51]
        first|done|(go_simp<;>omega)
      · have e52:=hF9.ev 12 52
        have ha:(Op.stringOp .add (bytesOf m12) ⟨#[41,41,41]⟩).run Tryz.prog w9=.ok (.string (bytesOf m13)) w9:=by
          have h:=zbG Tryz.prog w9 m12 [41,41,41] (by have:=HLn.out;first|omega|(simp;omega)|(simp;done)) (by have:=HLn.out;first|omega|(simp;done))
          rw [H13.out] at h
          exact h
        refine zaS rfl ?_ (hK9 q9 w9 (fun _ _ _=>rfl) (hS9.pure (by decide) (by decide) (by decide)))
        clear hF9
        simp only [tf9N,execOp,e52]
        first|done|(go_simp<;>omega)
      · rw [if_pos (zaD rfl)]
        unfold Oper.wp
        have f53:=hF9.nw 13 53
        have hs9:l9[20]?≠some true:=fun e=>by
          have h1:=hC9 20 (by decide) e 16 (List.contains_iff_mem.1 (by kernel_rfl))
          replace h1:=hC9 16 (by decide) h1 15 (List.contains_iff_mem.1 (by kernel_rfl))
          replace h1:=hC9 15 (by decide) h1 14 (List.contains_iff_mem.1 (by kernel_rfl))
          rw [hl9] at h1;cases h1
        have hn15:¬ l9[15]?=some true:=fun e=>by
          have h1:=hC9 15 (by decide) e 14 (List.contains_iff_mem.1 (by kernel_rfl))
          rw [hl9] at h1;cases h1
        have hn16:¬ l9[16]?=some true:=fun e=>by
          have h1:=hC9 16 (by decide) e 15 (List.contains_iff_mem.1 (by kernel_rfl))
          exact hn15 h1
        have hr9:(execOp a9.eval (tf9N 14)).run Tryz.prog w9=.ok (.enter 18 #[.string (bytesOf m13)]) w9:=by
          simp only [tf9N,execOp]
          go_simp
        rw [hr9,Oper.upon_enter]
        refine Calls.mono (zdE HG1 HP1 w9 (HL3.out.on hS9.below)) ?_
        rintro e9 w10 ⟨p9,hp9,rfl,ho9,hb9⟩
        refine hK9 (q9.1,p9) w10 ?_ (hS9.call (by decide) (by decide) hs9 hp9 ho9 hb9)
        intro j9 hj9 hd9
        have hjz:=(Array.getElem?_eq_some_iff.1 hd9).1
        rw [hL9] at hjz
        have hcj:j9=0∨j9=1∨j9=2∨j9=3∨j9=4∨j9=5∨j9=6∨j9=7∨j9=8∨j9=9∨j9=10∨j9=11∨j9=12∨j9=13∨j9=14∨j9=15∨j9=16∨j9=17∨j9=18∨j9=19∨j9=20∨j9=21∨j9=22:=by omega
        clear hjz
        rcases hcj with rfl|rfl|rfl|rfl|rfl|rfl|rfl|rfl|rfl|rfl|rfl|rfl|rfl|rfl|rfl|rfl|rfl|rfl|rfl|rfl|rfl|rfl|rfl
        all_goals first|rfl|exact absurd rfl hj9|exact absurd hd9 (by assumption)
      · have e54:=hF9.ev 14 54
        refine zaS rfl ?_ (hK9 q9 w9 (fun _ _ _=>rfl) (hS9.pure (by decide) (by decide) (by decide)))
        clear hF9
        simp only [tf9N,execOp,e54]
        first|done|(go_simp<;>omega)
      · have e39:=hF9.ev 15 39
        refine zaS rfl ?_ (hK9 q9 w9 (fun _ _ _=>rfl) (hS9.pure (by decide) (by decide) (by decide)))
        clear hF9
        simp only [tf9N,execOp,e39]
        first|done|(go_simp<;>omega)
      · have e39:=hF9.ev 15 39
        refine zaS rfl ?_ (hK9 q9 w9 (fun _ _ _=>rfl) (hS9.pure (by decide) (by decide) (by decide)))
        clear hF9
        simp only [tf9N,execOp,e39]
        first|done|(go_simp<;>omega)
      · have e39:=hF9.ev 15 39
        refine zaS rfl ?_ (hK9 q9 w9 (fun _ _ _=>rfl) (hS9.pure (by decide) (by decide) (by decide)))
        clear hF9
        simp only [tf9N,execOp,e39]
        first|done|(go_simp<;>omega)
      · rw [if_pos (zaD rfl)]
        unfold Oper.wp
        have hs9:l9[20]?≠some true:=fun e=>by
          have h1:=hC9 20 (by decide) e 19 (List.contains_iff_mem.1 (by kernel_rfl))
          rw [hl9] at h1;cases h1
        have hr9:(execOp a9.eval (tf9N 19)).run Tryz.prog w9=.ok (.value (.pointer (some ⟨w9.heap.size,0,none⟩))) (w9.alloc (.cells #[.slice none 0 0,.slice none 0 0,.slice none 0 0,.slice none 0 0] 47)):=by
          simp only [tf9N,execOp]
          go_simp
        rw [hr9,Oper.upon_value]
        refine hK9 (w9.heap.size,q9.2) _ ?_ (hS9.alloc (by decide) (by decide) hs9 _ rfl)
        intro j9 hj9 hd9
        have hjz:=(Array.getElem?_eq_some_iff.1 hd9).1
        rw [hL9] at hjz
        have hcj:j9=0∨j9=1∨j9=2∨j9=3∨j9=4∨j9=5∨j9=6∨j9=7∨j9=8∨j9=9∨j9=10∨j9=11∨j9=12∨j9=13∨j9=14∨j9=15∨j9=16∨j9=17∨j9=18∨j9=19∨j9=20∨j9=21∨j9=22:=by omega
        clear hjz
        rcases hcj with rfl|rfl|rfl|rfl|rfl|rfl|rfl|rfl|rfl|rfl|rfl|rfl|rfl|rfl|rfl|rfl|rfl|rfl|rfl|rfl|rfl|rfl|rfl
        all_goals first|rfl|exact absurd rfl hj9|exact absurd hd9 (by assumption)
      · have e12:=hF9.ev 19 12
        have e55:=hF9.ev 16 55
        rw [if_pos (zaD rfl)]
        have h1:=hA9 19 (List.contains_iff_mem.1 (by kernel_rfl))
        have h2:=hA9 16 (List.contains_iff_mem.1 (by kernel_rfl))
        replace h2:=hC9 16 (by decide) h2 15 (List.contains_iff_mem.1 (by kernel_rfl))
        replace h2:=hC9 15 (by decide) h2 14 (List.contains_iff_mem.1 (by kernel_rfl))
        obtain ⟨m1,⟨cs9,m2,m3,_⟩,_⟩:=hS9.made h1
        refine wp_store_row 47 _ _ rfl q9.1 (pcells q9.2) e12 e55 47 cs9 m2 (by rfl) m3 (pcells_one (hS9.read h2).2) ?_
        exact hK9 q9 _ (fun _ _ _=>rfl) (hS9.store (by decide) (by decide) h2 h1)
      · have e56:=hF9.ev 17 56
        refine zaS rfl ?_ (hK9 q9 w9 (fun _ _ _=>rfl) (hS9.pure (by decide) (by decide) (by decide)))
        clear hF9
        simp only [tf9N,execOp,e56]
        first|done|(go_simp<;>omega)
    · intro q9 w9 l9 hall9 hS9 K9 hK9
      obtain ⟨hp9,hv9,hb9,hq9,hz9,y0,y1,y2,y3⟩:=hS9.done (hall9 14 (by decide)) (hall9 19 (by decide)) (hall9 20 (by decide))
      clear hall9 hS9
      simp only [putA,tf9N]
      rw [if_pos (zaD rfl)]
      unfold Oper.wp
      go_simp
      refine hK9 _ _ ?_
      clear hK9 K9
      obtain ⟨n,p⟩:=q9
      simp only at hp9 hv9 hq9 hz9 y0 y1 y2 y3
      have HB:=hidI (HB4.out.trans (hb9.mono HB4.out.size))
      have HV:=hidI hv9
      have HPE:=hidI hp9
      obtain ⟨_,da,dc,hd,_⟩:=id hv9.d
      obtain ⟨_,xa,xc,hx,_⟩:=id hv9.x
      obtain ⟨_,sa,sc,hs,_⟩:=id hv9.s
      obtain ⟨_,ma,mc,hm,_⟩:=id hv9.m
      have HE:=hidI (And.intro hd (And.intro hx (And.intro hs hm)))
      rw [hd] at y0
      rw [hx] at y1
      rw [hs] at y2
      rw [hm] at y3
      have HY:=hidI (And.intro y0 (And.intro y1 (And.intro y2 y3)))
      have HZ:=hidI hz9
      have hLw:=HL3.out.on hb9
      have CS:=hidI (zdE HG2 HP2 w9 hLw)
      have xe:=HAE.out.on HB.out _ _ (rowE_get hi7)
      rw [HTI.out] at xe
      have u1:(i:Int)<10:=by omega
      have hag1:(Op.stringOp .add ⟨#[40,110,105,110,116,32,105,41,32,40,110,98,111,111,108,32,98,41,32,40,101,105,110,116,32,119,41,32,40,105,110,116,32,107,41,32]⟩ ⟨#[40,101,97,99,104,32,40,112,117,116,32]⟩).run Tryz.prog w9=.ok (.string (bytesOf g1)) w9:=by
        have h:=zbG Tryz.prog w9 hdrF [40,101,97,99,104,32,40,112,117,116,32] (by have:=HLn.out;first|omega|(simp;omega)|(simp;done)) (by have:=HLn.out;first|omega|(simp;done))
        rw [G1.out] at h
        exact h
      have hag2:(Op.stringOp .add (bytesOf g1) ⟨#[98]⟩).run Tryz.prog w9=.ok (.string (bytesOf g2)) w9:=by
        have h:=zbG Tryz.prog w9 g1 [98] (by have:=HLn.out;first|omega|(simp;omega)|(simp;done)) (by have:=HLn.out;first|omega|(simp;done))
        rw [G2.out] at h
        exact h
      have hag3:(Op.stringOp .add (bytesOf g2) ⟨#[32]⟩).run Tryz.prog w9=.ok (.string (bytesOf g3)) w9:=by
        have h:=zbG Tryz.prog w9 g2 [32] (by have:=HLn.out;first|omega|(simp;omega)|(simp;done)) (by have:=HLn.out;first|omega|(simp;done))
        rw [G3.out] at h
        exact h
      have hag4:(Op.stringOp .add (bytesOf g3) (bytesOf ti)).run Tryz.prog w9=.ok (.string (bytesOf g4)) w9:=by
        have h:=zbG Tryz.prog w9 g3 ti (by have:=HLn.out;first|omega|(simp;omega)|(simp;done)) (by have:=HLn.out;first|omega|(simp;done))
        rw [G4.out] at h
        exact h
      have hag5:(Op.stringOp .add (bytesOf g4) ⟨#[41,41]⟩).run Tryz.prog w9=.ok (.string (bytesOf g5)) w9:=by
        have h:=zbG Tryz.prog w9 g4 [41,41] (by have:=HLn.out;first|omega|(simp;omega)|(simp;done)) (by have:=HLn.out;first|omega|(simp;done))
        rw [G5.out] at h
        exact h
      clear hd hx hs hm hv9 hp9 hb9 hq9 hz9 y0 y1 y2 y3 hLw
      go_wp2_with (go_at_call 18;refine Calls.mono CS.out ?_;intro e w10 h10;obtain ⟨p2,hp2,rfl,ho2,hb10⟩:=h10;clear CS;refine Hid.out ?_)
      refine hidI ?_
      have hv2:=sees_own ho2
      obtain ⟨_,da2,dc2,hd2,_⟩:=id hv2.d
      obtain ⟨_,xa2,xc2,hx2,_⟩:=id hv2.x
      obtain ⟨_,sa2,sc2,hs2,_⟩:=id hv2.s
      obtain ⟨_,ma2,mc2,hm2,_⟩:=id hv2.m
      have hpv:pval p2=.agg #[.slice da2 p2.ds.length dc2,.slice xa2 p2.xs.length xc2,.slice sa2 p2.ss.length sc2,.slice ma2 p2.ms.length mc2]:=by
        unfold pval
        rw [hd2,hx2,hs2,hm2]
      rw [hpv]
      obtain ⟨y0,y1,y2,y3⟩:=HY.out
      have hV:Below w10.heap.size w10 (w10.alloc (.cells #[.slice da2 p2.ds.length dc2,.slice xa2 p2.xs.length xc2,.slice sa2 p2.ss.length sc2,.slice ma2 p2.ms.length mc2] 47)):=(Below.refl _ _).alloc (Nat.le_refl _) _
      obtain ⟨V,hVV⟩:∃ V,w10.alloc (.cells #[.slice da2 p2.ds.length dc2,.slice xa2 p2.xs.length xc2,.slice sa2 p2.ss.length sc2,.slice ma2 p2.ms.length mc2] 47)=V:=⟨_,rfl⟩
      have hAV:=AtBd.new w10 47 #[.slice da2 p2.ds.length dc2,.slice xa2 p2.xs.length xc2,.slice sa2 p2.ss.length sc2,.slice ma2 p2.ms.length mc2]
      rw [hVV] at hV hAV
      have hb9V:=hb10.trans (hV.mono hb10.size)
      have HBV:=hidI (HB.out.trans (hb9V.mono HB.out.size))
      have HLV:=hidI (HL0.out.on HBV.out)
      have C1:=tcheck_any p V HLV.out (HV.out.below hb9V) (HPE.out▸hOk1) (fun _=>by have:=hD1;rw [←HPE.out] at this;exact this) (fun _=>HPE.out▸hW1)
      rw [HPE.out,HE.out.1,HE.out.2.1,HE.out.2.2.1,HE.out.2.2.2] at C1
      have C2:=fun (u:World) (hu:Below V.heap.size V u)=>tcheck_any p2 u (HLV.out.on hu) ((hv2.below hV).below hu) (hp2▸hOk2) (fun _=>by have:=hD2;rw [←hp2] at this;exact this) (fun _=>hp2▸hW2)
      rw [hp2,hd2,hx2,hs2,hm2] at C2
      obtain ⟨g0,hg0⟩:∃ g,(tyCheck P1).2=g:=⟨_,rfl⟩
      obtain ⟨g1',hg1⟩:∃ g,(tyCheck P2).2=g:=⟨_,rfl⟩
      rw [hg0] at C1 hF1
      rw [hg1] at C2 hF2
      have HC1:=hidI C1
      have HC2:=hidI C2
      have HVV:=hidI hVV
      have HAV:=hidI hAV
      have hbi:=HAI.out.on HBV.out _ _ (rowI_get hi7)
      have hbk:=HAI.out.on HBV.out _ _ (rowI_get hk7)
      have hbb:=HABo.out.on HBV.out _ _ (rowB_get hi7)
      have z0:=zaJ hb9V y0
      have z1:=zaJ hb9V y1
      have z2:=zaJ hb9V y2
      have z3:=zaJ hb9V y3
      have w0':=zaJ hb10 y0
      have w1':=zaJ hb10 y1
      have w2':=zaJ hb10 y2
      have w3':=zaJ hb10 y3
      have hnn:n<w10.heap.size:=World.block_lt_of_cell? _ _ w0'
      have u2:(k:Int)<10:=by omega
      have HCI:=hidI (And.intro hbi (And.intro hbk hbb))
      have HF1:=hidI hF1
      have HF2:=hidI hF2
      clear hV hVV hAV hd2 hx2 hs2 hm2 hpv C1 C2 hv2 ho2 hp2 hb9V hg0 hg1 y0 y1 y2 y3 z0 z1 z2 z3 hbi hbk hbb hF1 hF2 hOk1 hOk2 hD1 hD2 hW1 hW2 HG1 HG2 HP1 HP2 hb10
      go_wp2_with (first
        | (go_at_call 19;rw [HVV.out];refine Calls.mono HC1.out ?_;intro e w12 h12;obtain ⟨rfl,hb12⟩:=h12;clear HC1;have HB12:=hidI hb12;have HAV2:=hidI (HAV.out.on hb12);have q0:=HAV2.out 0 _ rfl;have q1:=HAV2.out 1 _ rfl;have q2:=HAV2.out 2 _ rfl;have q3:=HAV2.out 3 _ rfl;clear hb12)
        | (go_at_call 19;refine Calls.mono (HC2.out _ HB12.out) ?_;intro e w14 h14;obtain ⟨rfl,hb14⟩:=h14;clear HC2;have HB14:=hidI (HB12.out.trans (hb14.mono HB12.out.size));clear hb14;refine Hid.out ?_))
      refine hidI ?_
      have ci:=zaJ HB14.out HCI.out.1
      have ck:=zaJ HB14.out HCI.out.2.1
      have cb:=zaJ HB14.out HCI.out.2.2
      have HFIN:=hidI (HBV.out.trans (HB14.out.mono HBV.out.size))
      obtain ⟨bi,hbi⟩:∃ x,intsL.getD i false=x:=⟨_,rfl⟩
      obtain ⟨bk,hbk⟩:∃ x,intsL.getD k false=x:=⟨_,rfl⟩
      obtain ⟨bb,hbb⟩:∃ x,boolsL.getD i false=x:=⟨_,rfl⟩
      have F1:=HF1.out
      have F2:=HF2.out
      rw [hbi] at ci
      rw [hbk] at ck
      rw [hbb] at cb
      rw [hbi,hbk] at F1
      rw [hbb] at F2
      have X1:=hidI F1
      have X2:=hidI F2
      clear F1 F2 hbi hbk hbb HF1 HF2 HCI q0 q1 q2 q3 w0' w1' w2' w3' hnn
      cases bi<;>cases bk<;>cases bb
      all_goals
        (by_cases e0:g0=0<;>by_cases e1:g1'=0)
      all_goals first
        | (exfalso;have h:=X1.out;simp [e0] at h;done)
        | (exfalso;have h:=X2.out;simp [e1] at h;done)
        | (have f0:(g0==0)=decide (g0=0):=by by_cases h:g0=0<;>simp [h]
           have f1:(g1'==0)=decide (g1'=0):=by by_cases h:g1'=0<;>simp [h]
           rw [X1.out] at f0
           rw [X2.out] at f1
           clear X1 X2 e0 e1
           go_wp2
           go_ret
           exact ⟨rfl,HBW.out.trans (HFIN.out.mono HBW.out.size)⟩)
  | false=>
    obtain ⟨P1,HP1,HG1,hOk1,hD1,hW1,hF1⟩:=fit_facts (fitP_all i hi7 k hk7)
    obtain ⟨P2,HP2,HG2,hOk2,hD2,hW2,hF2⟩:=fit_facts (fitQ_all i hi7).1
    have HLn0:=And.intro (exs_len i) (exs_len k)
    obtain ⟨ti,hti⟩:∃ x,exsT.getD i []=x:=⟨_,rfl⟩
    obtain ⟨tk,htk⟩:∃ x,exsT.getD k []=x:=⟨_,rfl⟩
    rw [hti,htk] at HLn0
    obtain ⟨m1,h1⟩:∃ m,hdrF++[40,101,97,99,104,32,40,112,117,116,32,105,32,40,43,32]=m:=⟨_,rfl⟩
    obtain ⟨m6,h6⟩:∃ m,m1++ti=m:=⟨_,rfl⟩
    obtain ⟨m7,h7⟩:∃ m,m6++[32]=m:=⟨_,rfl⟩
    obtain ⟨m12,h12⟩:∃ m,m7++tk=m:=⟨_,rfl⟩
    obtain ⟨m13,h13⟩:∃ m,m12++[41,41,41]=m:=⟨_,rfl⟩
    obtain ⟨g1,k1⟩:∃ m,hdrF++[40,101,97,99,104,32,40,112,117,116,32]=m:=⟨_,rfl⟩
    obtain ⟨g2,k2⟩:∃ m,g1++[105]=m:=⟨_,rfl⟩
    obtain ⟨g3,k3⟩:∃ m,g2++[32]=m:=⟨_,rfl⟩
    obtain ⟨g4,k4⟩:∃ m,g3++ti=m:=⟨_,rfl⟩
    obtain ⟨g5,k5⟩:∃ m,g4++[41,41]=m:=⟨_,rfl⟩
    have e13:fitP i k=m13:=by rw [←h13,←h12,←h7,←h6,←h1,←hti,←htk];rfl
    have e5:fitQ 105 i=g5:=by rw [←k5,←k4,←k3,←k2,←k1,←hti];rfl
    rw [e13] at HP1 HG1
    rw [e5] at HP2 HG2
    have HLn:Hid (hdrF.length≤40∧ti.length≤20∧tk.length≤20∧m1.length≤60∧m6.length≤80∧m7.length≤90∧m12.length≤110∧g1.length≤60∧g2.length≤70∧g3.length≤80∧g4.length≤100):=hidI (by
      have l0:hdrF.length=36:=rfl
      have l1:=congrArg List.length h1
      have l6:=congrArg List.length h6
      have l7:=congrArg List.length h7
      have l12:=congrArg List.length h12
      have q1:=congrArg List.length k1
      have q2:=congrArg List.length k2
      have q3:=congrArg List.length k3
      have q4:=congrArg List.length k4
      simp only [List.length_append,List.length_cons,List.length_nil] at l1 l6 l7 l12 q1 q2 q3 q4
      omega)
    have HTI:=hidI hti
    have HTK:=hidI htk
    have H1:=hidI h1
    have H6:=hidI h6
    have H7:=hidI h7
    have H12:=hidI h12
    have H13:=hidI h13
    have G1:=hidI k1
    have G2:=hidI k2
    have G3:=hidI k3
    have G4:=hidI k4
    have G5:=hidI k5
    have HL3:=hidI (HL0.out.on (HB4.out.trans (zeC _ _)))
    replace HB4:=hidI (HB4.out.trans (zeC _ _))
    clear hti htk h1 h6 h7 h12 h13 k1 k2 k3 k4 k5 e13 e5 HLn0
    go_wp2
    refine wp_region_seq3A tf9N (fun (q:Nat × PV) j0=>match j0 with|0=>.string (bytesOf hdrF)|1=>.string (bytesOf m1)|2=>.slice (some ⟨w.heap.size+1,0,none⟩) 10 10|3=>.int .i64 (i:Int)|4=>.pointer (some ⟨w.heap.size+1,i,none⟩)|5=>.string (bytesOf ti)|6=>.string (bytesOf m6)|7=>.string (bytesOf m7)|8=>.slice (some ⟨w.heap.size+1,0,none⟩) 10 10|9=>.int .i64 (k:Int)|10=>.pointer (some ⟨w.heap.size+1,k,none⟩)|11=>.string (bytesOf tk)|12=>.string (bytesOf m12)|13=>.string (bytesOf m13)|14=>.tuple #[pval q.2,.int .i64 0,.int .i64 0]|15=>.tuple #[pval q.2,.int .i64 0,.int .i64 0]|16=>pval q.2|17=>.int .i64 0|18=>.int .i64 0|19=>.pointer (some ⟨q.1,0,none⟩)|20=>undef|21=>.int .i64 0|_=>undef) (SrcS P1 w9.drew 14 19 20) (0,pv0) 22 Tryz.mixed (by kernel_rfl) (by kernel_rfl) (SrcS.start _ _ _ _ _ _ _) ?_ ?_
    · intro i9 hi9 q9 a9 w9 l9 hF9 hL9 hl9 hA9 hC9 hS9 K9 hK9
      have hc9:i9=0∨i9=1∨i9=2∨i9=3∨i9=4∨i9=5∨i9=6∨i9=7∨i9=8∨i9=9∨i9=10∨i9=11∨i9=12∨i9=13∨i9=14∨i9=15∨i9=16∨i9=17∨i9=18∨i9=19∨i9=20∨i9=21:=by omega
      clear hi9
      rcases hc9 with rfl|rfl|rfl|rfl|rfl|rfl|rfl|rfl|rfl|rfl|rfl|rfl|rfl|rfl|rfl|rfl|rfl|rfl|rfl|rfl|rfl|rfl
      · have e11:=hF9.od 11 (v:=.string (bytesOf hdrF)) rfl
        refine zaS rfl ?_ (hK9 q9 w9 (fun _ _ _=>rfl) (hS9.pure (by decide) (by decide) (by decide)))
        clear hF9
        simp only [tf9N,execOp,e11]
        first|done|(go_simp<;>omega)
      · have e40:=hF9.ev 0 40
        have ha:(Op.stringOp .add (bytesOf hdrF) ⟨#[40,101,97,99,104,32,40,112,117,116,32,105,32,40,43,32]⟩).run Tryz.prog w9=.ok (.string (bytesOf m1)) w9:=by
          have h:=zbG Tryz.prog w9 hdrF [40,101,97,99,104,32,40,112,117,116,32,105,32,40,43,32] (by have:=HLn.out;first|omega|(simp;omega)|(simp;done)) (by have:=HLn.out;first|omega|(simp;done))
          rw [H1.out] at h
          exact h
        refine zaS rfl ?_ (hK9 q9 w9 (fun _ _ _=>rfl) (hS9.pure (by decide) (by decide) (by decide)))
        clear hF9
        simp only [tf9N,execOp,e40]
        first|done|(go_simp<;>omega)
      · have e5:=hF9.od 5 (v:=.slice (some ⟨w.heap.size+1,0,none⟩) 10 10) rfl
        refine zaS rfl ?_ (hK9 q9 w9 (fun _ _ _=>rfl) (hS9.pure (by decide) (by decide) (by decide)))
        clear hF9
        simp only [tf9N,execOp,e5]
        first|done|(go_simp<;>omega)
      · have e8:=hF9.od 8 (v:=.int .i64 (i:Int)) rfl
        refine zaS rfl ?_ (hK9 q9 w9 (fun _ _ _=>rfl) (hS9.pure (by decide) (by decide) (by decide)))
        clear hF9
        simp only [tf9N,execOp,e8]
        first|done|(go_simp<;>omega)
      · have e42:=hF9.ev 2 42
        have e43:=hF9.ev 3 43
        have u1:(i:Int)<10:=by omega
        refine zaS rfl ?_ (hK9 q9 w9 (fun _ _ _=>rfl) (hS9.pure (by decide) (by decide) (by decide)))
        clear hF9
        simp only [tf9N,execOp,e42,e43]
        first|done|(go_simp<;>omega)
      · have e44:=hF9.ev 4 44
        have q1:=HAE.out.on (HB4.out.trans (hS9.below.mono HB4.out.size)) _ _ (rowE_get hi7)
        rw [HTI.out] at q1
        refine zaS rfl ?_ (hK9 q9 w9 (fun _ _ _=>rfl) (hS9.pure (by decide) (by decide) (by decide)))
        clear hF9
        simp only [tf9N,execOp,e44]
        first|done|(go_simp<;>omega)
      · have e41:=hF9.ev 1 41
        have e45:=hF9.ev 5 45
        have ha:(Op.stringOp .add (bytesOf m1) (bytesOf ti)).run Tryz.prog w9=.ok (.string (bytesOf m6)) w9:=by
          have h:=zbG Tryz.prog w9 m1 ti (by have:=HLn.out;first|omega|(simp;omega)|(simp;done)) (by have:=HLn.out;first|omega|(simp;done))
          rw [H6.out] at h
          exact h
        refine zaS rfl ?_ (hK9 q9 w9 (fun _ _ _=>rfl) (hS9.pure (by decide) (by decide) (by decide)))
        clear hF9
        simp only [tf9N,execOp,e41,e45]
        first|done|(go_simp<;>omega)
      · have e46:=hF9.ev 6 46
        have ha:(Op.stringOp .add (bytesOf m6) ⟨#[32]⟩).run Tryz.prog w9=.ok (.string (bytesOf m7)) w9:=by
          have h:=zbG Tryz.prog w9 m6 [32] (by have:=HLn.out;first|omega|(simp;omega)|(simp;done)) (by have:=HLn.out;first|omega|(simp;done))
          rw [H7.out] at h
          exact h
        refine zaS rfl ?_ (hK9 q9 w9 (fun _ _ _=>rfl) (hS9.pure (by decide) (by decide) (by decide)))
        clear hF9
        simp only [tf9N,execOp,e46]
        first|done|(go_simp<;>omega)
      · have e5:=hF9.od 5 (v:=.slice (some ⟨w.heap.size+1,0,none⟩) 10 10) rfl
        refine zaS rfl ?_ (hK9 q9 w9 (fun _ _ _=>rfl) (hS9.pure (by decide) (by decide) (by decide)))
        clear hF9
        simp only [tf9N,execOp,e5]
        first|done|(go_simp<;>omega)
      · have e9:=hF9.od 9 (v:=.int .i64 (k:Int)) rfl
        refine zaS rfl ?_ (hK9 q9 w9 (fun _ _ _=>rfl) (hS9.pure (by decide) (by decide) (by decide)))
        clear hF9
        simp only [tf9N,execOp,e9]
        first|done|(go_simp<;>omega)
      · have e48:=hF9.ev 8 48
        have e49:=hF9.ev 9 49
        have u1:(k:Int)<10:=by omega
        refine zaS rfl ?_ (hK9 q9 w9 (fun _ _ _=>rfl) (hS9.pure (by decide) (by decide) (by decide)))
        clear hF9
        simp only [tf9N,execOp,e48,e49]
        first|done|(go_simp<;>omega)
      · have e50:=hF9.ev 10 50
        have q1:=HAE.out.on (HB4.out.trans (hS9.below.mono HB4.out.size)) _ _ (rowE_get hk7)
        rw [HTK.out] at q1
        refine zaS rfl ?_ (hK9 q9 w9 (fun _ _ _=>rfl) (hS9.pure (by decide) (by decide) (by decide)))
        clear hF9
        simp only [tf9N,execOp,e50]
        first|done|(go_simp<;>omega)
      · have e47:=hF9.ev 7 47
        have e51:=hF9.ev 11 51
        have ha:(Op.stringOp .add (bytesOf m7) (bytesOf tk)).run Tryz.prog w9=.ok (.string (bytesOf m12)) w9:=by
          have h:=zbG Tryz.prog w9 m7 tk (by have:=HLn.out;first|omega|(simp;omega)|(simp;done)) (by have:=HLn.out;first|omega|(simp;done))
          rw [H12.out] at h
          exact h
        refine zaS rfl ?_ (hK9 q9 w9 (fun _ _ _=>rfl) (hS9.pure (by decide) (by decide) (by decide)))
        clear hF9
        simp only [tf9N,execOp,e47,e51]
        first|done|(go_simp<;>omega)
      · have e52:=hF9.ev 12 52
        have ha:(Op.stringOp .add (bytesOf m12) ⟨#[41,41,41]⟩).run Tryz.prog w9=.ok (.string (bytesOf m13)) w9:=by
          have h:=zbG Tryz.prog w9 m12 [41,41,41] (by have:=HLn.out;first|omega|(simp;omega)|(simp;done)) (by have:=HLn.out;first|omega|(simp;done))
          rw [H13.out] at h
          exact h
        refine zaS rfl ?_ (hK9 q9 w9 (fun _ _ _=>rfl) (hS9.pure (by decide) (by decide) (by decide)))
        clear hF9
        simp only [tf9N,execOp,e52]
        first|done|(go_simp<;>omega)
      · rw [if_pos (zaD rfl)]
        unfold Oper.wp
        have f53:=hF9.nw 13 53
        have hs9:l9[20]?≠some true:=fun e=>by
          have h1:=hC9 20 (by decide) e 16 (List.contains_iff_mem.1 (by kernel_rfl))
          replace h1:=hC9 16 (by decide) h1 15 (List.contains_iff_mem.1 (by kernel_rfl))
          replace h1:=hC9 15 (by decide) h1 14 (List.contains_iff_mem.1 (by kernel_rfl))
          rw [hl9] at h1;cases h1
        have hn15:¬ l9[15]?=some true:=fun e=>by
          have h1:=hC9 15 (by decide) e 14 (List.contains_iff_mem.1 (by kernel_rfl))
          rw [hl9] at h1;cases h1
        have hn16:¬ l9[16]?=some true:=fun e=>by
          have h1:=hC9 16 (by decide) e 15 (List.contains_iff_mem.1 (by kernel_rfl))
          exact hn15 h1
        have hr9:(execOp a9.eval (tf9N 14)).run Tryz.prog w9=.ok (.enter 18 #[.string (bytesOf m13)]) w9:=by
          simp only [tf9N,execOp]
          go_simp
        rw [hr9,Oper.upon_enter]
        refine Calls.mono (zdE HG1 HP1 w9 (HL3.out.on hS9.below)) ?_
        rintro e9 w10 ⟨p9,hp9,rfl,ho9,hb9⟩
        refine hK9 (q9.1,p9) w10 ?_ (hS9.call (by decide) (by decide) hs9 hp9 ho9 hb9)
        intro j9 hj9 hd9
        have hjz:=(Array.getElem?_eq_some_iff.1 hd9).1
        rw [hL9] at hjz
        have hcj:j9=0∨j9=1∨j9=2∨j9=3∨j9=4∨j9=5∨j9=6∨j9=7∨j9=8∨j9=9∨j9=10∨j9=11∨j9=12∨j9=13∨j9=14∨j9=15∨j9=16∨j9=17∨j9=18∨j9=19∨j9=20∨j9=21∨j9=22:=by omega
        clear hjz
        rcases hcj with rfl|rfl|rfl|rfl|rfl|rfl|rfl|rfl|rfl|rfl|rfl|rfl|rfl|rfl|rfl|rfl|rfl|rfl|rfl|rfl|rfl|rfl|rfl
        all_goals first|rfl|exact absurd rfl hj9|exact absurd hd9 (by assumption)
      · have e54:=hF9.ev 14 54
        refine zaS rfl ?_ (hK9 q9 w9 (fun _ _ _=>rfl) (hS9.pure (by decide) (by decide) (by decide)))
        clear hF9
        simp only [tf9N,execOp,e54]
        first|done|(go_simp<;>omega)
      · have e39:=hF9.ev 15 39
        refine zaS rfl ?_ (hK9 q9 w9 (fun _ _ _=>rfl) (hS9.pure (by decide) (by decide) (by decide)))
        clear hF9
        simp only [tf9N,execOp,e39]
        first|done|(go_simp<;>omega)
      · have e39:=hF9.ev 15 39
        refine zaS rfl ?_ (hK9 q9 w9 (fun _ _ _=>rfl) (hS9.pure (by decide) (by decide) (by decide)))
        clear hF9
        simp only [tf9N,execOp,e39]
        first|done|(go_simp<;>omega)
      · have e39:=hF9.ev 15 39
        refine zaS rfl ?_ (hK9 q9 w9 (fun _ _ _=>rfl) (hS9.pure (by decide) (by decide) (by decide)))
        clear hF9
        simp only [tf9N,execOp,e39]
        first|done|(go_simp<;>omega)
      · rw [if_pos (zaD rfl)]
        unfold Oper.wp
        have hs9:l9[20]?≠some true:=fun e=>by
          have h1:=hC9 20 (by decide) e 19 (List.contains_iff_mem.1 (by kernel_rfl))
          rw [hl9] at h1;cases h1
        have hr9:(execOp a9.eval (tf9N 19)).run Tryz.prog w9=.ok (.value (.pointer (some ⟨w9.heap.size,0,none⟩))) (w9.alloc (.cells #[.slice none 0 0,.slice none 0 0,.slice none 0 0,.slice none 0 0] 47)):=by
          simp only [tf9N,execOp]
          go_simp
        rw [hr9,Oper.upon_value]
        refine hK9 (w9.heap.size,q9.2) _ ?_ (hS9.alloc (by decide) (by decide) hs9 _ rfl)
        intro j9 hj9 hd9
        have hjz:=(Array.getElem?_eq_some_iff.1 hd9).1
        rw [hL9] at hjz
        have hcj:j9=0∨j9=1∨j9=2∨j9=3∨j9=4∨j9=5∨j9=6∨j9=7∨j9=8∨j9=9∨j9=10∨j9=11∨j9=12∨j9=13∨j9=14∨j9=15∨j9=16∨j9=17∨j9=18∨j9=19∨j9=20∨j9=21∨j9=22:=by omega
        clear hjz
        rcases hcj with rfl|rfl|rfl|rfl|rfl|rfl|rfl|rfl|rfl|rfl|rfl|rfl|rfl|rfl|rfl|rfl|rfl|rfl|rfl|rfl|rfl|rfl|rfl
        all_goals first|rfl|exact absurd rfl hj9|exact absurd hd9 (by assumption)
      · have e12:=hF9.ev 19 12
        have e55:=hF9.ev 16 55
        rw [if_pos (zaD rfl)]
        have h1:=hA9 19 (List.contains_iff_mem.1 (by kernel_rfl))
        have h2:=hA9 16 (List.contains_iff_mem.1 (by kernel_rfl))
        replace h2:=hC9 16 (by decide) h2 15 (List.contains_iff_mem.1 (by kernel_rfl))
        replace h2:=hC9 15 (by decide) h2 14 (List.contains_iff_mem.1 (by kernel_rfl))
        obtain ⟨m1,⟨cs9,m2,m3,_⟩,_⟩:=hS9.made h1
        refine wp_store_row 47 _ _ rfl q9.1 (pcells q9.2) e12 e55 47 cs9 m2 (by rfl) m3 (pcells_one (hS9.read h2).2) ?_
        exact hK9 q9 _ (fun _ _ _=>rfl) (hS9.store (by decide) (by decide) h2 h1)
      · have e56:=hF9.ev 17 56
        refine zaS rfl ?_ (hK9 q9 w9 (fun _ _ _=>rfl) (hS9.pure (by decide) (by decide) (by decide)))
        clear hF9
        simp only [tf9N,execOp,e56]
        first|done|(go_simp<;>omega)
    · intro q9 w9 l9 hall9 hS9 K9 hK9
      obtain ⟨hp9,hv9,hb9,hq9,hz9,y0,y1,y2,y3⟩:=hS9.done (hall9 14 (by decide)) (hall9 19 (by decide)) (hall9 20 (by decide))
      clear hall9 hS9
      simp only [putA,tf9N]
      rw [if_pos (zaD rfl)]
      unfold Oper.wp
      go_simp
      refine hK9 _ _ ?_
      clear hK9 K9
      obtain ⟨n,p⟩:=q9
      simp only at hp9 hv9 hq9 hz9 y0 y1 y2 y3
      have HB:=hidI (HB4.out.trans (hb9.mono HB4.out.size))
      have HV:=hidI hv9
      have HPE:=hidI hp9
      obtain ⟨_,da,dc,hd,_⟩:=id hv9.d
      obtain ⟨_,xa,xc,hx,_⟩:=id hv9.x
      obtain ⟨_,sa,sc,hs,_⟩:=id hv9.s
      obtain ⟨_,ma,mc,hm,_⟩:=id hv9.m
      have HE:=hidI (And.intro hd (And.intro hx (And.intro hs hm)))
      rw [hd] at y0
      rw [hx] at y1
      rw [hs] at y2
      rw [hm] at y3
      have HY:=hidI (And.intro y0 (And.intro y1 (And.intro y2 y3)))
      have HZ:=hidI hz9
      have hLw:=HL3.out.on hb9
      have CS:=hidI (zdE HG2 HP2 w9 hLw)
      have xe:=HAE.out.on HB.out _ _ (rowE_get hi7)
      rw [HTI.out] at xe
      have u1:(i:Int)<10:=by omega
      have hag1:(Op.stringOp .add ⟨#[40,110,105,110,116,32,105,41,32,40,110,98,111,111,108,32,98,41,32,40,101,105,110,116,32,119,41,32,40,105,110,116,32,107,41,32]⟩ ⟨#[40,101,97,99,104,32,40,112,117,116,32]⟩).run Tryz.prog w9=.ok (.string (bytesOf g1)) w9:=by
        have h:=zbG Tryz.prog w9 hdrF [40,101,97,99,104,32,40,112,117,116,32] (by have:=HLn.out;first|omega|(simp;omega)|(simp;done)) (by have:=HLn.out;first|omega|(simp;done))
        rw [G1.out] at h
        exact h
      have hag2:(Op.stringOp .add (bytesOf g1) ⟨#[105]⟩).run Tryz.prog w9=.ok (.string (bytesOf g2)) w9:=by
        have h:=zbG Tryz.prog w9 g1 [105] (by have:=HLn.out;first|omega|(simp;omega)|(simp;done)) (by have:=HLn.out;first|omega|(simp;done))
        rw [G2.out] at h
        exact h
      have hag3:(Op.stringOp .add (bytesOf g2) ⟨#[32]⟩).run Tryz.prog w9=.ok (.string (bytesOf g3)) w9:=by
        have h:=zbG Tryz.prog w9 g2 [32] (by have:=HLn.out;first|omega|(simp;omega)|(simp;done)) (by have:=HLn.out;first|omega|(simp;done))
        rw [G3.out] at h
        exact h
      have hag4:(Op.stringOp .add (bytesOf g3) (bytesOf ti)).run Tryz.prog w9=.ok (.string (bytesOf g4)) w9:=by
        have h:=zbG Tryz.prog w9 g3 ti (by have:=HLn.out;first|omega|(simp;omega)|(simp;done)) (by have:=HLn.out;first|omega|(simp;done))
        rw [G4.out] at h
        exact h
      have hag5:(Op.stringOp .add (bytesOf g4) ⟨#[41,41]⟩).run Tryz.prog w9=.ok (.string (bytesOf g5)) w9:=by
        have h:=zbG Tryz.prog w9 g4 [41,41] (by have:=HLn.out;first|omega|(simp;omega)|(simp;done)) (by have:=HLn.out;first|omega|(simp;done))
        rw [G5.out] at h
        exact h
      clear hd hx hs hm hv9 hp9 hb9 hq9 hz9 y0 y1 y2 y3 hLw
      go_wp2_with (go_at_call 18;refine Calls.mono CS.out ?_;intro e w10 h10;obtain ⟨p2,hp2,rfl,ho2,hb10⟩:=h10;clear CS;refine Hid.out ?_)
      refine hidI ?_
      have hv2:=sees_own ho2
      obtain ⟨_,da2,dc2,hd2,_⟩:=id hv2.d
      obtain ⟨_,xa2,xc2,hx2,_⟩:=id hv2.x
      obtain ⟨_,sa2,sc2,hs2,_⟩:=id hv2.s
      obtain ⟨_,ma2,mc2,hm2,_⟩:=id hv2.m
      have hpv:pval p2=.agg #[.slice da2 p2.ds.length dc2,.slice xa2 p2.xs.length xc2,.slice sa2 p2.ss.length sc2,.slice ma2 p2.ms.length mc2]:=by
        unfold pval
        rw [hd2,hx2,hs2,hm2]
      rw [hpv]
      obtain ⟨y0,y1,y2,y3⟩:=HY.out
      have hV:Below w10.heap.size w10 (w10.alloc (.cells #[.slice da2 p2.ds.length dc2,.slice xa2 p2.xs.length xc2,.slice sa2 p2.ss.length sc2,.slice ma2 p2.ms.length mc2] 47)):=(Below.refl _ _).alloc (Nat.le_refl _) _
      obtain ⟨V,hVV⟩:∃ V,w10.alloc (.cells #[.slice da2 p2.ds.length dc2,.slice xa2 p2.xs.length xc2,.slice sa2 p2.ss.length sc2,.slice ma2 p2.ms.length mc2] 47)=V:=⟨_,rfl⟩
      have hAV:=AtBd.new w10 47 #[.slice da2 p2.ds.length dc2,.slice xa2 p2.xs.length xc2,.slice sa2 p2.ss.length sc2,.slice ma2 p2.ms.length mc2]
      rw [hVV] at hV hAV
      have hb9V:=hb10.trans (hV.mono hb10.size)
      have HBV:=hidI (HB.out.trans (hb9V.mono HB.out.size))
      have HLV:=hidI (HL0.out.on HBV.out)
      have C1:=tcheck_any p V HLV.out (HV.out.below hb9V) (HPE.out▸hOk1) (fun _=>by have:=hD1;rw [←HPE.out] at this;exact this) (fun _=>HPE.out▸hW1)
      rw [HPE.out,HE.out.1,HE.out.2.1,HE.out.2.2.1,HE.out.2.2.2] at C1
      have C2:=fun (u:World) (hu:Below V.heap.size V u)=>tcheck_any p2 u (HLV.out.on hu) ((hv2.below hV).below hu) (hp2▸hOk2) (fun _=>by have:=hD2;rw [←hp2] at this;exact this) (fun _=>hp2▸hW2)
      rw [hp2,hd2,hx2,hs2,hm2] at C2
      obtain ⟨g0,hg0⟩:∃ g,(tyCheck P1).2=g:=⟨_,rfl⟩
      obtain ⟨g1',hg1⟩:∃ g,(tyCheck P2).2=g:=⟨_,rfl⟩
      rw [hg0] at C1 hF1
      rw [hg1] at C2 hF2
      have HC1:=hidI C1
      have HC2:=hidI C2
      have HVV:=hidI hVV
      have HAV:=hidI hAV
      have hbi:=HAI.out.on HBV.out _ _ (rowI_get hi7)
      have hbk:=HAI.out.on HBV.out _ _ (rowI_get hk7)
      have hbb:=HABo.out.on HBV.out _ _ (rowB_get hi7)
      have z0:=zaJ hb9V y0
      have z1:=zaJ hb9V y1
      have z2:=zaJ hb9V y2
      have z3:=zaJ hb9V y3
      have w0':=zaJ hb10 y0
      have w1':=zaJ hb10 y1
      have w2':=zaJ hb10 y2
      have w3':=zaJ hb10 y3
      have hnn:n<w10.heap.size:=World.block_lt_of_cell? _ _ w0'
      have u2:(k:Int)<10:=by omega
      have HCI:=hidI (And.intro hbi (And.intro hbk hbb))
      have HF1:=hidI hF1
      have HF2:=hidI hF2
      clear hV hVV hAV hd2 hx2 hs2 hm2 hpv C1 C2 hv2 ho2 hp2 hb9V hg0 hg1 y0 y1 y2 y3 z0 z1 z2 z3 hbi hbk hbb hF1 hF2 hOk1 hOk2 hD1 hD2 hW1 hW2 HG1 HG2 HP1 HP2 hb10
      go_wp2_with (first
        | (go_at_call 19;rw [HVV.out];refine Calls.mono HC1.out ?_;intro e w12 h12;obtain ⟨rfl,hb12⟩:=h12;clear HC1;have HB12:=hidI hb12;have HAV2:=hidI (HAV.out.on hb12);have q0:=HAV2.out 0 _ rfl;have q1:=HAV2.out 1 _ rfl;have q2:=HAV2.out 2 _ rfl;have q3:=HAV2.out 3 _ rfl;clear hb12)
        | (go_at_call 19;refine Calls.mono (HC2.out _ HB12.out) ?_;intro e w14 h14;obtain ⟨rfl,hb14⟩:=h14;clear HC2;have HB14:=hidI (HB12.out.trans (hb14.mono HB12.out.size));clear hb14;refine Hid.out ?_))
      refine hidI ?_
      have ci:=zaJ HB14.out HCI.out.1
      have ck:=zaJ HB14.out HCI.out.2.1
      have cb:=zaJ HB14.out HCI.out.2.2
      have HFIN:=hidI (HBV.out.trans (HB14.out.mono HBV.out.size))
      obtain ⟨bi,hbi⟩:∃ x,intsL.getD i false=x:=⟨_,rfl⟩
      obtain ⟨bk,hbk⟩:∃ x,intsL.getD k false=x:=⟨_,rfl⟩
      obtain ⟨bb,hbb⟩:∃ x,boolsL.getD i false=x:=⟨_,rfl⟩
      have F1:=HF1.out
      have F2:=HF2.out
      rw [hbi] at ci
      rw [hbk] at ck
      rw [hbb] at cb
      rw [hbi,hbk] at F1
      rw [hbi] at F2
      have X1:=hidI F1
      have X2:=hidI F2
      clear F1 F2 hbi hbk hbb HF1 HF2 HCI q0 q1 q2 q3 w0' w1' w2' w3' hnn
      cases bi<;>cases bk<;>cases bb
      all_goals
        (by_cases e0:g0=0<;>by_cases e1:g1'=0)
      all_goals first
        | (exfalso;have h:=X1.out;simp [e0] at h;done)
        | (exfalso;have h:=X2.out;simp [e1] at h;done)
        | (have f0:(g0==0)=decide (g0=0):=by by_cases h:g0=0<;>simp [h]
           have f1:(g1'==0)=decide (g1'=0):=by by_cases h:g1'=0<;>simp [h]
           rw [X1.out] at f0
           rw [X2.out] at f1
           clear X1 X2 e0 e1
           go_wp2
           go_ret
           exact ⟨rfl,HBW.out.trans (HFIN.out.mono HBW.out.size)⟩)
end Go.Proofs.YtmekkhfohmfjkaaGreatDoor
