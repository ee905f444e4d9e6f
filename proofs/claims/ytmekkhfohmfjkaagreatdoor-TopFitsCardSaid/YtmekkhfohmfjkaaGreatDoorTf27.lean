/-
  Part 27 of the proof: TyF, Catch2, TyG.
-/
import Derived.Test.YtmekkhfohmfjkaaGreatDoorTf26
import Derived.Test.YtmekkhfohmfjkaaGreatDoorTf23
import Derived.Test.YtmekkhfohmfjkaaGreatDoorTf22
import Derived.Test.YtmekkhfohmfjkaaGreatDoorTf07
namespace Go.Proofs.YtmekkhfohmfjkaaGreatDoor
open Go.RowKit Go.Deep Go.MapKept
def cs3N:Nat→Oper
 | 0=>⟨some 11,.move (.tmp 0),120, "checker.go:32",#[],none⟩
 | 1=>⟨some 12,.fieldAddr 78 (.tmp 3) 3,0, "checker.go:32",#[],none⟩
 | 2=>⟨some 13,.load 3 (.tmp 12),3, "checker.go:32",#[⟨1,.data⟩],none⟩
 | 3=>⟨some 14,.move (.tmp 0),120, "checker.go:32",#[],none⟩
 | 4=>⟨some 15,.fieldAddr 78 (.tmp 3) 1,0, "checker.go:32",#[],none⟩
 | 5=>⟨some 16,.load 9 (.tmp 15),9, "checker.go:32",#[⟨4,.data⟩],none⟩
 | 6=>⟨some 17,.call ⟨.value (.func 96),#[.tmp 14,.tmp 16,.const (.int .u8 1)],#[120,9,23]⟩,33, "checker.go:32",#[⟨3,.data⟩,⟨5,.data⟩],none⟩
 | _=>⟨some 18,.call ⟨.value (.func 95),#[.tmp 11,.tmp 13,.const (.int .u8 1),.tmp 17],#[120,3,176,33]⟩,0, "checker.go:32",#[⟨0,.data⟩,⟨2,.data⟩,⟨6,.data⟩,⟨6,.chain⟩],none⟩
set_option maxRecDepth 100000 in
set_option maxHeartbeats 2000000 in
theorem cst_2 {c:Nat} {i:Int} {p:PV} (hwf:WfX p.prg.exprs) (hd:p.ds.length≤24) {snm:ByteArray} {sop:Nat} {se scd:Int} {sacts:List Actn} {sthn sels:List Int} {sa ta ea:Option Addr} {sc tc ec:Nat} (hw:WfS p.prg ⟨2,snm,sop,se,scd,sacts,sthn,sels⟩) (w:World) (h:TyS c i p w) :
  Calls Tryz.prog 54 #[.pointer (some ⟨c,0,none⟩),.agg #[.int .u8 2,.string snm,.int .u8 (sop:Int),.int .i64 se,.int .i64 scd,.slice sa sacts.length sc,.slice ta sthn.length tc,.slice ea sels.length ec]] w fun e w'=>MPost i (stmtO p.prg ⟨2,snm,sop,se,scd,sacts,sthn,sels⟩) e∧Below w.heap.size w w':=by
 obtain ⟨R,hR⟩:∃ R,stmtO p.prg ⟨2,snm,sop,se,scd,sacts,sthn,sels⟩=R:=⟨_,rfl⟩
 rw [hR]
 have HR:=hidI hR.symm
 clear hR
 have hb:Below w.heap.size w (w.alloc (.cells #[.int .u8 2,.string snm,.int .u8 (sop:Int),.int .i64 se,.int .i64 scd,.slice sa sacts.length sc,.slice ta sthn.length tc,.slice ea sels.length ec] 78)):=(Below.refl _ _).alloc (Nat.le_refl _) _
 have HBc:=hidI hb
 have HTc:=hidI (h.on hb)
 have HAt:=hidI (AtB.new w 78 #[.int .u8 2,.string snm,.int .u8 (sop:Int),.int .i64 se,.int .i64 scd,.slice sa sacts.length sc,.slice ta sthn.length tc,.slice ea sels.length ec])
 have CD:=hidI (fun (u:World) (hu:TyS c i p u)=>zcA hu hd snm 1)
 have CI:=hidI (fun (k:Nat) (u:World) (hu:TyS c i p u)=>zdH hwf hd se (hw.1 (by simp)) 2 k u hu)
 have CT:=hidI (fun (k:Nat) (u:World) (hu:TyS c i p u)=>ctakes_any sop k (hw.2.1 rfl).2 u hu)
 have CC:=hidI (fun (u:World) (hu:TyS c i p u)=>ccond_any hwf hd scd (hw.2.1 rfl).1 u hu)
 have HS:=hidI (Lv.mk HTc.out HBc.out HAt.out)
 clear hb h hw hwf hd HTc HBc HAt
 cases hr0:declK p.ds snm 1 with
 | none=>
  rw [hr0] at CD
  have HR2:Hid (R=false):=hidI (by rw [HR.out];simp [stmtO,show declK p.prg.decls snm 1=_ from hr0])
  clear hr0 HR
  go_enter Tryz.func54,Tryz.ntmps54
  go_wp2_with (first|(go_at_call 96;refine Calls.mono (CD.out _ HS.out.t) ?_;rintro e w9 ⟨rfl,hb9⟩;clear CD;have HS:=hidI (HS.out.on hb9);obtain ⟨z0,z1,z2,z3,z4,z5,z6,z7⟩:=HS.out.a.z8;clear hb9))
  exact ⟨rfl,by rw [HR2.out];rfl,HS.out.b⟩
 | some k=>
  rw [hr0] at CD
  replace CI:=hidI (CI.out k)
  replace CT:=hidI (CT.out k)
  cases hr1:isO (kX p.prg 2 se) k with
  | false=>
   rw [hr1] at CI
   have HR2:Hid (R=false):=hidI (by rw [HR.out];simp [stmtO,show declK p.prg.decls snm 1=_ from hr0,hr1])
   clear hr0 hr1 HR
   go_enter Tryz.func54,Tryz.ntmps54
   go_wp2_with (first|(go_at_call 96;refine Calls.mono (CD.out _ HS.out.t) ?_;rintro e w9 ⟨rfl,hb9⟩;clear CD;have HS:=hidI (HS.out.on hb9);obtain ⟨z0,z1,z2,z3,z4,z5,z6,z7⟩:=HS.out.a.z8;clear hb9)|(go_at_call 95;refine Calls.mono (CI.out _ HS.out.t) ?_;rintro e w9 ⟨rfl,hb9⟩;clear CI;have HS:=hidI (HS.out.on hb9);obtain ⟨z0,z1,z2,z3,z4,z5,z6,z7⟩:=HS.out.a.z8;clear hb9))
   exact ⟨rfl,by rw [HR2.out];rfl,HS.out.b⟩
  | true=>
   rw [hr1] at CI
   cases hr2:takesO sop k with
   | false=>
    rw [hr2] at CT
    have HR2:Hid (R=false):=hidI (by rw [HR.out];simp [stmtO,show declK p.prg.decls snm 1=_ from hr0,hr1,hr2])
    clear hr0 hr1 hr2 HR
    go_enter Tryz.func54,Tryz.ntmps54
    go_wp2_with (first|(go_at_call 96;refine Calls.mono (CD.out _ HS.out.t) ?_;rintro e w9 ⟨rfl,hb9⟩;clear CD;have HS:=hidI (HS.out.on hb9);obtain ⟨z0,z1,z2,z3,z4,z5,z6,z7⟩:=HS.out.a.z8;clear hb9)|(go_at_call 95;refine Calls.mono (CI.out _ HS.out.t) ?_;rintro e w9 ⟨rfl,hb9⟩;clear CI;have HS:=hidI (HS.out.on hb9);obtain ⟨z0,z1,z2,z3,z4,z5,z6,z7⟩:=HS.out.a.z8;clear hb9)|(go_at_call 97;refine Calls.mono (CT.out _ HS.out.t) ?_;rintro e w9 ⟨rfl,hb9⟩;clear CT;have HS:=hidI (HS.out.on hb9);obtain ⟨z0,z1,z2,z3,z4,z5,z6,z7⟩:=HS.out.a.z8;clear hb9))
    exact ⟨rfl,by rw [HR2.out];rfl,HS.out.b⟩
   | true=>
    rw [hr2] at CT
    cases hr3:condO p.prg scd with
    | false=>
     rw [hr3] at CC
     have HR2:Hid (R=false):=hidI (by rw [HR.out];simp [stmtO,show declK p.prg.decls snm 1=_ from hr0,hr1,hr2,hr3])
     clear hr0 hr1 hr2 hr3 HR
     go_enter Tryz.func54,Tryz.ntmps54
     go_wp2_with (first|(go_at_call 96;refine Calls.mono (CD.out _ HS.out.t) ?_;rintro e w9 ⟨rfl,hb9⟩;clear CD;have HS:=hidI (HS.out.on hb9);obtain ⟨z0,z1,z2,z3,z4,z5,z6,z7⟩:=HS.out.a.z8;clear hb9)|(go_at_call 95;refine Calls.mono (CI.out _ HS.out.t) ?_;rintro e w9 ⟨rfl,hb9⟩;clear CI;have HS:=hidI (HS.out.on hb9);obtain ⟨z0,z1,z2,z3,z4,z5,z6,z7⟩:=HS.out.a.z8;clear hb9)|(go_at_call 97;refine Calls.mono (CT.out _ HS.out.t) ?_;rintro e w9 ⟨rfl,hb9⟩;clear CT;have HS:=hidI (HS.out.on hb9);obtain ⟨z0,z1,z2,z3,z4,z5,z6,z7⟩:=HS.out.a.z8;clear hb9)|(go_at_call 98;refine Calls.mono (CC.out _ HS.out.t) ?_;rintro e w9 ⟨rfl,hb9⟩;clear CC;have HS:=hidI (HS.out.on hb9);obtain ⟨z0,z1,z2,z3,z4,z5,z6,z7⟩:=HS.out.a.z8;clear hb9))
     exact ⟨rfl,by rw [HR2.out];rfl,HS.out.b⟩
    | true=>
     rw [hr3] at CC
     have HR2:Hid (R=true):=hidI (by rw [HR.out];simp [stmtO,show declK p.prg.decls snm 1=_ from hr0,hr1,hr2,hr3])
     clear hr0 hr1 hr2 hr3 HR
     go_enter Tryz.func54,Tryz.ntmps54
     go_wp2_with (first|(go_at_call 96;refine Calls.mono (CD.out _ HS.out.t) ?_;rintro e w9 ⟨rfl,hb9⟩;clear CD;have HS:=hidI (HS.out.on hb9);obtain ⟨z0,z1,z2,z3,z4,z5,z6,z7⟩:=HS.out.a.z8;clear hb9)|(go_at_call 95;refine Calls.mono (CI.out _ HS.out.t) ?_;rintro e w9 ⟨rfl,hb9⟩;clear CI;have HS:=hidI (HS.out.on hb9);obtain ⟨z0,z1,z2,z3,z4,z5,z6,z7⟩:=HS.out.a.z8;clear hb9)|(go_at_call 97;refine Calls.mono (CT.out _ HS.out.t) ?_;rintro e w9 ⟨rfl,hb9⟩;clear CT;have HS:=hidI (HS.out.on hb9);obtain ⟨z0,z1,z2,z3,z4,z5,z6,z7⟩:=HS.out.a.z8;clear hb9)|(go_at_call 98;refine Calls.mono (CC.out _ HS.out.t) ?_;rintro e w9 ⟨rfl,hb9⟩;clear CC;have HS:=hidI (HS.out.on hb9);obtain ⟨z0,z1,z2,z3,z4,z5,z6,z7⟩:=HS.out.a.z8;clear hb9))
     go_end0
     exact ⟨by rw [HR2.out];rfl,HS.out.b⟩
set_option maxRecDepth 100000 in
set_option maxHeartbeats 2000000 in
theorem cst_4 {c:Nat} {i:Int} {p:PV} (hwf:WfX p.prg.exprs) (hd:p.ds.length≤24) {snm:ByteArray} {sop:Nat} {se scd:Int} {sacts:List Actn} {sthn sels:List Int} {sa ta ea:Option Addr} {sc tc ec:Nat} (hw:WfS p.prg ⟨4,snm,sop,se,scd,sacts,sthn,sels⟩) (w:World) (h:TyS c i p w) :
  Calls Tryz.prog 54 #[.pointer (some ⟨c,0,none⟩),.agg #[.int .u8 4,.string snm,.int .u8 (sop:Int),.int .i64 se,.int .i64 scd,.slice sa sacts.length sc,.slice ta sthn.length tc,.slice ea sels.length ec]] w fun e w'=>MPost i (stmtO p.prg ⟨4,snm,sop,se,scd,sacts,sthn,sels⟩) e∧Below w.heap.size w w':=by
 obtain ⟨R,hR⟩:∃ R,stmtO p.prg ⟨4,snm,sop,se,scd,sacts,sthn,sels⟩=R:=⟨_,rfl⟩
 rw [hR]
 have HR:=hidI hR.symm
 clear hR
 have hb:Below w.heap.size w (w.alloc (.cells #[.int .u8 4,.string snm,.int .u8 (sop:Int),.int .i64 se,.int .i64 scd,.slice sa sacts.length sc,.slice ta sthn.length tc,.slice ea sels.length ec] 78)):=(Below.refl _ _).alloc (Nat.le_refl _) _
 have HBc:=hidI hb
 have HTc:=hidI (h.on hb)
 have HAt:=hidI (AtB.new w 78 #[.int .u8 4,.string snm,.int .u8 (sop:Int),.int .i64 se,.int .i64 scd,.slice sa sacts.length sc,.slice ta sthn.length tc,.slice ea sels.length ec])
 have CI:=hidI (fun (u:World) (hu:TyS c i p u)=>zdH hwf hd se (hw.1 (by simp)) 1 2 u hu)
 have HS:=hidI (Lv.mk HTc.out HBc.out HAt.out)
 clear hb h hw hwf hd HTc HBc HAt
 cases hr0:isO (kX p.prg 1 se) 2 with
 | false=>
  rw [hr0] at CI
  have HR2:Hid (R=false):=hidI (by rw [HR.out];simp [stmtO,hr0])
  clear hr0 HR
  go_enter Tryz.func54,Tryz.ntmps54
  go_wp2_with (first|(go_at_call 95;refine Calls.mono (CI.out _ HS.out.t) ?_;rintro e w9 ⟨rfl,hb9⟩;clear CI;have HS:=hidI (HS.out.on hb9);obtain ⟨z0,z1,z2,z3,z4,z5,z6,z7⟩:=HS.out.a.z8;clear hb9))
  exact ⟨rfl,by rw [HR2.out];rfl,HS.out.b⟩
 | true=>
  rw [hr0] at CI
  have HR2:Hid (R=true):=hidI (by rw [HR.out];simp [stmtO,hr0])
  clear hr0 HR
  go_enter Tryz.func54,Tryz.ntmps54
  go_wp2_with (first|(go_at_call 95;refine Calls.mono (CI.out _ HS.out.t) ?_;rintro e w9 ⟨rfl,hb9⟩;clear CI;have HS:=hidI (HS.out.on hb9);obtain ⟨z0,z1,z2,z3,z4,z5,z6,z7⟩:=HS.out.a.z8;clear hb9))
  go_end0
  exact ⟨by rw [HR2.out];rfl,HS.out.b⟩
set_option maxRecDepth 100000 in
set_option maxHeartbeats 2000000 in
theorem cst_5 {c:Nat} {i:Int} {p:PV} (hwf:WfX p.prg.exprs) (hd:p.ds.length≤24) {snm:ByteArray} {sop:Nat} {se scd:Int} {sacts:List Actn} {sthn sels:List Int} {sa ta ea:Option Addr} {sc tc ec:Nat} (hw:WfS p.prg ⟨5,snm,sop,se,scd,sacts,sthn,sels⟩) (w:World) (h:TyS c i p w) :
  Calls Tryz.prog 54 #[.pointer (some ⟨c,0,none⟩),.agg #[.int .u8 5,.string snm,.int .u8 (sop:Int),.int .i64 se,.int .i64 scd,.slice sa sacts.length sc,.slice ta sthn.length tc,.slice ea sels.length ec]] w fun e w'=>MPost i (stmtO p.prg ⟨5,snm,sop,se,scd,sacts,sthn,sels⟩) e∧Below w.heap.size w w':=by
 obtain ⟨R,hR⟩:∃ R,stmtO p.prg ⟨5,snm,sop,se,scd,sacts,sthn,sels⟩=R:=⟨_,rfl⟩
 rw [hR]
 have HR:=hidI hR.symm
 clear hR
 have hb:Below w.heap.size w (w.alloc (.cells #[.int .u8 5,.string snm,.int .u8 (sop:Int),.int .i64 se,.int .i64 scd,.slice sa sacts.length sc,.slice ta sthn.length tc,.slice ea sels.length ec] 78)):=(Below.refl _ _).alloc (Nat.le_refl _) _
 have HBc:=hidI hb
 have HTc:=hidI (h.on hb)
 have HAt:=hidI (AtB.new w 78 #[.int .u8 5,.string snm,.int .u8 (sop:Int),.int .i64 se,.int .i64 scd,.slice sa sacts.length sc,.slice ta sthn.length tc,.slice ea sels.length ec])
 have CI:=hidI (fun (u:World) (hu:TyS c i p u)=>zdH hwf hd se (hw.1 (by simp)) 1 2 u hu)
 have HS:=hidI (Lv.mk HTc.out HBc.out HAt.out)
 clear hb h hw hwf hd HTc HBc HAt
 cases hr0:isO (kX p.prg 1 se) 2 with
 | false=>
  rw [hr0] at CI
  have HR2:Hid (R=false):=hidI (by rw [HR.out];simp [stmtO,hr0])
  clear hr0 HR
  go_enter Tryz.func54,Tryz.ntmps54
  go_wp2_with (first|(go_at_call 95;refine Calls.mono (CI.out _ HS.out.t) ?_;rintro e w9 ⟨rfl,hb9⟩;clear CI;have HS:=hidI (HS.out.on hb9);obtain ⟨z0,z1,z2,z3,z4,z5,z6,z7⟩:=HS.out.a.z8;clear hb9))
  exact ⟨rfl,by rw [HR2.out];rfl,HS.out.b⟩
 | true=>
  rw [hr0] at CI
  have HR2:Hid (R=true):=hidI (by rw [HR.out];simp [stmtO,hr0])
  clear hr0 HR
  go_enter Tryz.func54,Tryz.ntmps54
  go_wp2_with (first|(go_at_call 95;refine Calls.mono (CI.out _ HS.out.t) ?_;rintro e w9 ⟨rfl,hb9⟩;clear CI;have HS:=hidI (HS.out.on hb9);obtain ⟨z0,z1,z2,z3,z4,z5,z6,z7⟩:=HS.out.a.z8;clear hb9))
  go_end0
  exact ⟨by rw [HR2.out];rfl,HS.out.b⟩
set_option maxRecDepth 100000 in
set_option maxHeartbeats 2000000 in
theorem cst_6 {c:Nat} {i:Int} {p:PV} (hwf:WfX p.prg.exprs) (hd:p.ds.length≤24) {snm:ByteArray} {sop:Nat} {se scd:Int} {sacts:List Actn} {sthn sels:List Int} {sa ta ea:Option Addr} {sc tc ec:Nat} (hw:WfS p.prg ⟨6,snm,sop,se,scd,sacts,sthn,sels⟩) (w:World) (h:TyS c i p w) :
  Calls Tryz.prog 54 #[.pointer (some ⟨c,0,none⟩),.agg #[.int .u8 6,.string snm,.int .u8 (sop:Int),.int .i64 se,.int .i64 scd,.slice sa sacts.length sc,.slice ta sthn.length tc,.slice ea sels.length ec]] w fun e w'=>MPost i (stmtO p.prg ⟨6,snm,sop,se,scd,sacts,sthn,sels⟩) e∧Below w.heap.size w w':=by
 obtain ⟨R,hR⟩:∃ R,stmtO p.prg ⟨6,snm,sop,se,scd,sacts,sthn,sels⟩=R:=⟨_,rfl⟩
 rw [hR]
 have HR:=hidI hR.symm
 clear hR
 have hb:Below w.heap.size w (w.alloc (.cells #[.int .u8 6,.string snm,.int .u8 (sop:Int),.int .i64 se,.int .i64 scd,.slice sa sacts.length sc,.slice ta sthn.length tc,.slice ea sels.length ec] 78)):=(Below.refl _ _).alloc (Nat.le_refl _) _
 have HBc:=hidI hb
 have HTc:=hidI (h.on hb)
 have HAt:=hidI (AtB.new w 78 #[.int .u8 6,.string snm,.int .u8 (sop:Int),.int .i64 se,.int .i64 scd,.slice sa sacts.length sc,.slice ta sthn.length tc,.slice ea sels.length ec])
 have CI:=hidI (fun (u:World) (hu:TyS c i p u)=>zdH hwf hd se (hw.1 (by simp)) 1 2 u hu)
 have HS:=hidI (Lv.mk HTc.out HBc.out HAt.out)
 clear hb h hw hwf hd HTc HBc HAt
 cases hr0:isO (kX p.prg 1 se) 2 with
 | false=>
  rw [hr0] at CI
  have HR2:Hid (R=false):=hidI (by rw [HR.out];simp [stmtO,hr0])
  clear hr0 HR
  go_enter Tryz.func54,Tryz.ntmps54
  go_wp2_with (first|(go_at_call 95;refine Calls.mono (CI.out _ HS.out.t) ?_;rintro e w9 ⟨rfl,hb9⟩;clear CI;have HS:=hidI (HS.out.on hb9);obtain ⟨z0,z1,z2,z3,z4,z5,z6,z7⟩:=HS.out.a.z8;clear hb9))
  exact ⟨rfl,by rw [HR2.out];rfl,HS.out.b⟩
 | true=>
  rw [hr0] at CI
  have HR2:Hid (R=true):=hidI (by rw [HR.out];simp [stmtO,hr0])
  clear hr0 HR
  go_enter Tryz.func54,Tryz.ntmps54
  go_wp2_with (first|(go_at_call 95;refine Calls.mono (CI.out _ HS.out.t) ?_;rintro e w9 ⟨rfl,hb9⟩;clear CI;have HS:=hidI (HS.out.on hb9);obtain ⟨z0,z1,z2,z3,z4,z5,z6,z7⟩:=HS.out.a.z8;clear hb9))
  go_end0
  exact ⟨by rw [HR2.out];rfl,HS.out.b⟩
set_option maxRecDepth 100000 in
set_option maxHeartbeats 2000000 in
theorem cst_x {c:Nat} {i:Int} {p:PV} {snm:ByteArray} {sop:Nat} {se scd:Int} {sacts:List Actn} {sthn sels:List Int} {sa ta ea:Option Addr} {sc tc ec:Nat} {sk:Nat} (hsk:sk≠1∧sk≠2∧sk≠3∧sk≠4∧sk≠5∧sk≠6∧sk≠7) (w:World) (h:TyS c i p w) :
  Calls Tryz.prog 54 #[.pointer (some ⟨c,0,none⟩),.agg #[.int .u8 (sk:Int),.string snm,.int .u8 (sop:Int),.int .i64 se,.int .i64 scd,.slice sa sacts.length sc,.slice ta sthn.length tc,.slice ea sels.length ec]] w fun e w'=>MPost i (stmtO p.prg ⟨sk,snm,sop,se,scd,sacts,sthn,sels⟩) e∧Below w.heap.size w w':=by
 obtain ⟨R,hR⟩:∃ R,stmtO p.prg ⟨sk,snm,sop,se,scd,sacts,sthn,sels⟩=R:=⟨_,rfl⟩
 rw [hR]
 have HR:=hidI hR.symm
 clear hR
 have hb:Below w.heap.size w (w.alloc (.cells #[.int .u8 (sk:Int),.string snm,.int .u8 (sop:Int),.int .i64 se,.int .i64 scd,.slice sa sacts.length sc,.slice ta sthn.length tc,.slice ea sels.length ec] 78)):=(Below.refl _ _).alloc (Nat.le_refl _) _
 have HBc:=hidI hb
 have HTc:=hidI (h.on hb)
 have HAt:=hidI (AtB.new w 78 #[.int .u8 (sk:Int),.string snm,.int .u8 (sop:Int),.int .i64 se,.int .i64 scd,.slice sa sacts.length sc,.slice ta sthn.length tc,.slice ea sels.length ec])
 have d1:((sk:Int)==1)=false:=by rw [beq_eq_false_iff_ne];omega
 have d2:((sk:Int)==2)=false:=by rw [beq_eq_false_iff_ne];omega
 have d3:((sk:Int)==3)=false:=by rw [beq_eq_false_iff_ne];omega
 have d4:((sk:Int)==4)=false:=by rw [beq_eq_false_iff_ne];omega
 have d5:((sk:Int)==5)=false:=by rw [beq_eq_false_iff_ne];omega
 have d6:((sk:Int)==6)=false:=by rw [beq_eq_false_iff_ne];omega
 have d7:((sk:Int)==7)=false:=by rw [beq_eq_false_iff_ne];omega
 have HR2:Hid (R=true):=hidI (by rw [HR.out];simp [stmtO,hsk])
 clear hb h HR hsk
 go_enter Tryz.func54,Tryz.ntmps54
 go_wp2
 go_end0
 exact ⟨by rw [HR2.out];rfl,HBc.out⟩
set_option maxRecDepth 100000 in
set_option maxHeartbeats 2000000 in
theorem cst_7 {c:Nat} {i:Int} {p:PV} (hwf:WfX p.prg.exprs) (hd:p.ds.length≤24) {snm:ByteArray} {sop:Nat} {se scd:Int} {sacts:List Actn} {sthn sels:List Int} {sa ta ea:Option Addr} {sc tc ec:Nat} (hw:WfS p.prg ⟨7,snm,sop,se,scd,sacts,sthn,sels⟩) (w:World) (h:TyS c i p w) :
  Calls Tryz.prog 54 #[.pointer (some ⟨c,0,none⟩),.agg #[.int .u8 7,.string snm,.int .u8 (sop:Int),.int .i64 se,.int .i64 scd,.slice sa sacts.length sc,.slice ta sthn.length tc,.slice ea sels.length ec]] w fun e w'=>MPost i (stmtO p.prg ⟨7,snm,sop,se,scd,sacts,sthn,sels⟩) e∧Below w.heap.size w w':=by
 obtain ⟨R,hR⟩:∃ R,stmtO p.prg ⟨7,snm,sop,se,scd,sacts,sthn,sels⟩=R:=⟨_,rfl⟩
 rw [hR]
 have HR:=hidI hR.symm
 clear hR
 have hb:Below w.heap.size w (w.alloc (.cells #[.int .u8 7,.string snm,.int .u8 (sop:Int),.int .i64 se,.int .i64 scd,.slice sa sacts.length sc,.slice ta sthn.length tc,.slice ea sels.length ec] 78)):=(Below.refl _ _).alloc (Nat.le_refl _) _
 have HBc:=hidI hb
 have HTc:=hidI (h.on hb)
 have HAt:=hidI (AtB.new w 78 #[.int .u8 7,.string snm,.int .u8 (sop:Int),.int .i64 se,.int .i64 scd,.slice sa sacts.length sc,.slice ta sthn.length tc,.slice ea sels.length ec])
 have CD:=hidI (fun (u:World) (hu:TyS c i p u)=>zcA hu hd snm 2)
 have CI:=hidI (fun (u:World) (hu:TyS c i p u)=>zdH hwf hd se (hw.1 (by simp)) 1 1 u hu)
 have HS:=hidI (Lv.mk HTc.out HBc.out HAt.out)
 clear hb h hw hwf hd HTc HBc HAt
 cases hr0:declK p.ds snm 2 with
 | none=>
  rw [hr0] at CD
  have HR2:Hid (R=false):=hidI (by rw [HR.out];simp [stmtO,show declK p.prg.decls snm 2=_ from hr0])
  clear hr0 HR
  go_enter Tryz.func54,Tryz.ntmps54
  go_wp2_with (first|(go_at_call 96;refine Calls.mono (CD.out _ HS.out.t) ?_;rintro e w9 ⟨rfl,hb9⟩;clear CD;have HS:=hidI (HS.out.on hb9);obtain ⟨z0,z1,z2,z3,z4,z5,z6,z7⟩:=HS.out.a.z8;clear hb9))
  exact ⟨rfl,by rw [HR2.out];rfl,HS.out.b⟩
 | some q=>
  rw [hr0] at CD
  by_cases hq:q=1
  ·subst hq
   cases hr1:isO (kX p.prg 1 se) 1 with
   | false=>
    rw [hr1] at CI
    have HR2:Hid (R=false):=hidI (by rw [HR.out];simp [stmtO,hr1])
    clear hr0 hr1 HR
    go_enter Tryz.func54,Tryz.ntmps54
    go_wp2_with (first|(go_at_call 96;refine Calls.mono (CD.out _ HS.out.t) ?_;rintro e w9 ⟨rfl,hb9⟩;clear CD;have HS:=hidI (HS.out.on hb9);obtain ⟨z0,z1,z2,z3,z4,z5,z6,z7⟩:=HS.out.a.z8;clear hb9)|(go_at_call 100;refine Calls.mono (zbS _ _) ?_;rintro e w9 ⟨rfl,rfl⟩)|(go_at_call 95;refine Calls.mono (CI.out _ HS.out.t) ?_;rintro e w9 ⟨rfl,hb9⟩;clear CI;have HS:=hidI (HS.out.on hb9);obtain ⟨z0,z1,z2,z3,z4,z5,z6,z7⟩:=HS.out.a.z8;clear hb9))
    exact ⟨rfl,by rw [HR2.out];rfl,HS.out.b⟩
   | true=>
    rw [hr1] at CI
    have HR2:Hid (R=true):=hidI (by rw [HR.out];simp [stmtO,hr1,show declK p.prg.decls snm 2=_ from hr0])
    clear hr0 hr1 HR
    go_enter Tryz.func54,Tryz.ntmps54
    go_wp2_with (first|(go_at_call 96;refine Calls.mono (CD.out _ HS.out.t) ?_;rintro e w9 ⟨rfl,hb9⟩;clear CD;have HS:=hidI (HS.out.on hb9);obtain ⟨z0,z1,z2,z3,z4,z5,z6,z7⟩:=HS.out.a.z8;clear hb9)|(go_at_call 100;refine Calls.mono (zbS _ _) ?_;rintro e w9 ⟨rfl,rfl⟩)|(go_at_call 95;refine Calls.mono (CI.out _ HS.out.t) ?_;rintro e w9 ⟨rfl,hb9⟩;clear CI;have HS:=hidI (HS.out.on hb9);obtain ⟨z0,z1,z2,z3,z4,z5,z6,z7⟩:=HS.out.a.z8;clear hb9))
    go_end0
    exact ⟨by rw [HR2.out];rfl,HS.out.b⟩
  ·have e1:((q:Int)==1)=false:=by rw [beq_eq_false_iff_ne];omega
   have HR2:Hid (R=false):=hidI (by rw [HR.out];simp [stmtO,show declK p.prg.decls snm 2=_ from hr0,hq])
   clear hr0 HR hq
   go_enter Tryz.func54,Tryz.ntmps54
   go_wp2_with (first|(go_at_call 96;refine Calls.mono (CD.out _ HS.out.t) ?_;rintro e w9 ⟨rfl,hb9⟩;clear CD;have HS:=hidI (HS.out.on hb9);obtain ⟨z0,z1,z2,z3,z4,z5,z6,z7⟩:=HS.out.a.z8;clear hb9)|(go_at_call 100;refine Calls.mono (zbN HS.out.t.c4) ?_;rintro e w9 ⟨rfl,rfl⟩))
   exact ⟨rfl,by rw [HR2.out];rfl,HS.out.b⟩
set_option maxRecDepth 100000 in
set_option maxHeartbeats 2000000 in
theorem cst_1 {c:Nat} {i:Int} {p:PV} (hwf:WfX p.prg.exprs) (hd:p.ds.length≤24) {snm:ByteArray} {sop:Nat} {se scd:Int} {sacts:List Actn} {sthn sels:List Int} {sa ta ea:Option Addr} {sc tc ec:Nat} (hw:WfS p.prg ⟨1,snm,sop,se,scd,sacts,sthn,sels⟩) (w:World) (h:TyS c i p w) :
  Calls Tryz.prog 54 #[.pointer (some ⟨c,0,none⟩),.agg #[.int .u8 1,.string snm,.int .u8 (sop:Int),.int .i64 se,.int .i64 scd,.slice sa sacts.length sc,.slice ta sthn.length tc,.slice ea sels.length ec]] w fun e w'=>MPost i (stmtO p.prg ⟨1,snm,sop,se,scd,sacts,sthn,sels⟩) e∧Below w.heap.size w w':=by
 obtain ⟨R,hR⟩:∃ R,stmtO p.prg ⟨1,snm,sop,se,scd,sacts,sthn,sels⟩=R:=⟨_,rfl⟩
 rw [hR]
 have HR:=hidI hR.symm
 clear hR
 have hb:Below w.heap.size w (w.alloc (.cells #[.int .u8 1,.string snm,.int .u8 (sop:Int),.int .i64 se,.int .i64 scd,.slice sa sacts.length sc,.slice ta sthn.length tc,.slice ea sels.length ec] 78)):=(Below.refl _ _).alloc (Nat.le_refl _) _
 have HBc:=hidI hb
 have HTc:=hidI (h.on hb)
 have HAt:=hidI (AtB.new w 78 #[.int .u8 1,.string snm,.int .u8 (sop:Int),.int .i64 se,.int .i64 scd,.slice sa sacts.length sc,.slice ta sthn.length tc,.slice ea sels.length ec])
 have CD:=hidI (fun (u:World) (hu:TyS c i p u)=>zcA hu hd snm 1)
 have CI:=hidI (fun (k:Nat) (u:World) (hu:TyS c i p u)=>zdH hwf hd se (hw.1 (by simp)) 1 k u hu)
 clear hb h hw hwf hd
 obtain ⟨W,hW⟩:∃ W,(w.alloc (.cells #[.int .u8 1,.string snm,.int .u8 (sop:Int),.int .i64 se,.int .i64 scd,.slice sa sacts.length sc,.slice ta sthn.length tc,.slice ea sels.length ec] 78))=W:=⟨_,rfl⟩
 rw [hW] at HBc HTc HAt
 have HW:=hidI hW
 clear hW
 cases hr0:declK p.ds snm 1 with
 | none=>
  rw [hr0] at CD
  have HR2:Hid (R=false):=hidI (by rw [HR.out];simp [stmtO,show declK p.prg.decls snm 1=_ from hr0])
  clear hr0 HR
  have hz0:=HAt.out 0 _ rfl
  go_enter Tryz.func54,Tryz.ntmps54
  go_wp2
  rw [HW.out]
  refine zcE cs3N (fun j0=>match j0 with|0=>.pointer (some ⟨c,0,none⟩)|1=>.pointer (some ⟨w.heap.size,3,none⟩)|2=>.int .i64 se|3=>.pointer (some ⟨c,0,none⟩)|4=>.pointer (some ⟨w.heap.size,1,none⟩)|5=>.string snm|6=>undef|_=>undef) (fun l9 y=>Below W.heap.size W y∧l9[6]?≠some true) 7 Tryz.mixed (by kernel_rfl) (by kernel_rfl) ⟨(Below.refl _ _).drew,by rw [Array.getElem?_replicate];split<;>simp⟩ ?_ ?_
  ·intro i9 hi9 a9 w9 l9 hF9 hL9 hl9 hA9 hS9 K9 hK9
   have hc9:i9=0∨i9=1∨i9=2∨i9=3∨i9=4∨i9=5∨i9=6:=by omega
   clear hi9
   rcases hc9 with rfl|rfl|rfl|rfl|rfl|rfl|rfl
   ·have e0:=hF9.od 0 (v:=.pointer (some ⟨c,0,none⟩)) rfl
    refine zaS rfl ?_ (hK9 _ ⟨hS9.1,by rw [zbJ (by decide)];exact hS9.2⟩)
    clear hF9 hA9
    simp only [cs3N,execOp,e0]
    first|done|(go_simp<;>omega)
   ·have e3:=hF9.od 3 (v:=.pointer (some ⟨w.heap.size,0,none⟩)) rfl
    refine zaS rfl ?_ (hK9 _ ⟨hS9.1,by rw [zbJ (by decide)];exact hS9.2⟩)
    clear hF9 hA9
    simp only [cs3N,execOp,e3]
    first|done|(go_simp<;>omega)
   ·have e12:=hF9.ev 1 12
    have q0:=HAt.out.on (hS9.1.mono (Nat.le_refl _)) 3 _ rfl
    refine zaS rfl ?_ (hK9 _ ⟨hS9.1,by rw [zbJ (by decide)];exact hS9.2⟩)
    clear hF9 hA9
    simp only [cs3N,execOp,e12]
    first|done|(go_simp<;>omega)
   ·have e0:=hF9.od 0 (v:=.pointer (some ⟨c,0,none⟩)) rfl
    refine zaS rfl ?_ (hK9 _ ⟨hS9.1,by rw [zbJ (by decide)];exact hS9.2⟩)
    clear hF9 hA9
    simp only [cs3N,execOp,e0]
    first|done|(go_simp<;>omega)
   ·have e3:=hF9.od 3 (v:=.pointer (some ⟨w.heap.size,0,none⟩)) rfl
    refine zaS rfl ?_ (hK9 _ ⟨hS9.1,by rw [zbJ (by decide)];exact hS9.2⟩)
    clear hF9 hA9
    simp only [cs3N,execOp,e3]
    first|done|(go_simp<;>omega)
   ·have e15:=hF9.ev 4 15
    have q0:=HAt.out.on (hS9.1.mono (Nat.le_refl _)) 1 _ rfl
    refine zaS rfl ?_ (hK9 _ ⟨hS9.1,by rw [zbJ (by decide)];exact hS9.2⟩)
    clear hF9 hA9
    simp only [cs3N,execOp,e15]
    first|done|(go_simp<;>omega)
   ·rw [if_pos (zaD rfl)]
    unfold Oper.wp
    have f14:=hF9.nw 3 14
    have f16:=hF9.nw 5 16
    have hr9:(execOp a9.eval (cs3N 6)).run Tryz.prog w9=.ok (.enter 96 #[.pointer (some ⟨c,0,none⟩),.string snm,.int .u8 1]) w9:=by
     simp only [cs3N,execOp]
     go_simp
    rw [hr9,Oper.upon_enter]
    refine Calls.mono (CD.out _ (HTc.out.on hS9.1)) ?_
    intro e w8 h9
    obtain ⟨h9,hb9⟩:=h9
    have h9:e=_:=h9
    subst h9
    exact ⟨hF9.df,by rw [HR2.out];rfl,HBc.out.trans ((hS9.1.trans (hb9.mono hS9.1.size)).mono HBc.out.size)⟩
  ·intro w9 l9 hall9 hS9 K9 hK9
   exact absurd (hall9 6 (by decide)) hS9.2
 | some k=>
  rw [hr0] at CD
  have HR:Hid (R=isO (kX p.prg 1 se) k):=hidI (by rw [HR.out];simp [stmtO,show declK p.prg.decls snm 1=_ from hr0])
  clear hr0
  go_enter Tryz.func54,Tryz.ntmps54
  go_wp2
  rw [HW.out]
  refine zaQ cs3N (fun i=>match i with|0=>.pointer (some ⟨c,0,none⟩)|1=>.pointer (some ⟨w.heap.size,3,none⟩)|2=>.int .i64 se|3=>.pointer (some ⟨c,0,none⟩)|4=>.pointer (some ⟨w.heap.size,1,none⟩)|5=>.string snm|6=>.int .u8 (k:Int)|_=>undef) (fun y=>Below W.heap.size W y) 7 Tryz.mixed (by kernel_rfl) (by kernel_rfl) (Below.refl _ _).drew ?_ ?_
  ·intro i9 hi9 a9 w9 hF9 hS9 K9 hK9
   have hc9:i9=0∨i9=1∨i9=2∨i9=3∨i9=4∨i9=5∨i9=6:=by omega
   clear hi9
   rcases hc9 with rfl|rfl|rfl|rfl|rfl|rfl|rfl
   ·have e0:=hF9.od 0 (v:=.pointer (some ⟨c,0,none⟩)) rfl
    refine zaS rfl ?_ (hK9 _ hS9)
    clear hF9
    simp only [cs3N,execOp,e0]
    first|done|(go_simp<;>omega)
   ·have e3:=hF9.od 3 (v:=.pointer (some ⟨w.heap.size,0,none⟩)) rfl
    refine zaS rfl ?_ (hK9 _ hS9)
    clear hF9
    simp only [cs3N,execOp,e3]
    first|done|(go_simp<;>omega)
   ·have e12:=hF9.ev 1 12
    have q0:=HAt.out.on (hS9.mono (Nat.le_refl _)) 3 _ rfl
    refine zaS rfl ?_ (hK9 _ hS9)
    clear hF9
    simp only [cs3N,execOp,e12]
    first|done|(go_simp<;>omega)
   ·have e0:=hF9.od 0 (v:=.pointer (some ⟨c,0,none⟩)) rfl
    refine zaS rfl ?_ (hK9 _ hS9)
    clear hF9
    simp only [cs3N,execOp,e0]
    first|done|(go_simp<;>omega)
   ·have e3:=hF9.od 3 (v:=.pointer (some ⟨w.heap.size,0,none⟩)) rfl
    refine zaS rfl ?_ (hK9 _ hS9)
    clear hF9
    simp only [cs3N,execOp,e3]
    first|done|(go_simp<;>omega)
   ·have e15:=hF9.ev 4 15
    have q0:=HAt.out.on (hS9.mono (Nat.le_refl _)) 1 _ rfl
    refine zaS rfl ?_ (hK9 _ hS9)
    clear hF9
    simp only [cs3N,execOp,e15]
    first|done|(go_simp<;>omega)
   ·rw [if_pos (zaD rfl)]
    unfold Oper.wp
    have f14:=hF9.nw 3 14
    have f16:=hF9.nw 5 16
    have hr9:(execOp a9.eval (cs3N 6)).run Tryz.prog w9=.ok (.enter 96 #[.pointer (some ⟨c,0,none⟩),.string snm,.int .u8 1]) w9:=by
     simp only [cs3N,execOp]
     go_simp
    rw [hr9,Oper.upon_enter]
    refine Calls.mono (CD.out _ (HTc.out.on hS9)) ?_
    intro e w8 h9
    obtain ⟨h9,hb9⟩:=h9
    have h9:e=_:=h9
    subst h9
    exact hK9 _ (hS9.trans (hb9.mono hS9.size))
  ·intro w9 hS9 K9 hK9
   simp only [putA,cs3N]
   rw [if_pos (zaD rfl)]
   unfold Oper.wp
   go_simp
   cases hr1:isO (kX p.prg 1 se) k with
   | false=>
    have HR2:Hid (R=false):=hidI (by rw [HR.out,hr1])
    have CX:=CI.out k w9 (HTc.out.on hS9)
    rw [hr1] at CX
    refine Calls.mono CX ?_
    rintro e w8 ⟨h9,hb9⟩
    have h9:e=_:=h9
    subst h9
    exact ⟨rfl,by rw [HR2.out];rfl,HBc.out.trans ((hS9.trans (hb9.mono hS9.size)).mono HBc.out.size)⟩
   | true=>
    have HR2:Hid (R=true):=hidI (by rw [HR.out,hr1])
    have CX:=CI.out k w9 (HTc.out.on hS9)
    rw [hr1] at CX
    refine Calls.mono CX ?_
    rintro e w8 ⟨h9,hb9⟩
    have h9:e=_:=h9
    subst h9
    refine hK9 _ _ ?_
    have HBc:=hidI (HBc.out.trans ((hS9.trans (hb9.mono hS9.size)).mono HBc.out.size))
    clear hK9 K9 hS9 hb9 hr1 CX
    go_wp2
    go_end0
    exact ⟨by rw [HR2.out];rfl,HBc.out⟩
theorem cact_all {c:Nat} {i:Int} {p:PV} (hwf:WfX p.prg.exprs) (hd:p.ds.length≤24) (a:Actn) (hw:WfA p.prg a) (u:World) (hu:TyS c i p u):Calls Tryz.prog 99 #[.pointer (some ⟨c,0,none⟩),.agg #[.int .u8 (a.k:Int),.string a.name,.int .u8 (a.op:Int),.bool a.inn,.int .i64 a.e,.int .i64 a.cond]] u fun e w'=>MPost i (actO p.prg a) e∧Below u.heap.size u w':=by
 obtain ⟨ak,anm,aop,ain,ae,acd⟩:=a
 have hm:ak=1∨ak=2∨ak=3∨(ak≠1∧ak≠2∧ak≠3):=by omega
 rcases hm with rfl|rfl|rfl|hak
 ·exact cact_1 hwf hd hw u hu
 ·exact cact_2 hwf hd hw (hw.2.2 (.inl rfl)) u hu
 ·exact cact_3 hwf hd hw (hw.2.2 (.inr rfl)) u hu
 ·exact cact_x hwf hd hak hw u hu
set_option maxRecDepth 100000 in
set_option maxHeartbeats 2000000 in
theorem cst_3 {c:Nat} {i:Int} {p:PV} (hwf:WfX p.prg.exprs) (hd:p.ds.length≤24) {snm:ByteArray} {sop:Nat} {se scd:Int} {sacts:List Actn} {sthn sels:List Int} {sa ta ea:Option Addr} {sc tc ec:Nat} (hw:WfS p.prg ⟨3,snm,sop,se,scd,sacts,sthn,sels⟩) (w:World) (h:TyS c i p w) (hv:SeesC w (.slice sa sacts.length sc) sacts.length 6 (flatAc sacts)) (hl:sacts.length≤1099511627776) :
  Calls Tryz.prog 54 #[.pointer (some ⟨c,0,none⟩),.agg #[.int .u8 3,.string snm,.int .u8 (sop:Int),.int .i64 se,.int .i64 scd,.slice sa sacts.length sc,.slice ta sthn.length tc,.slice ea sels.length ec]] w fun e w'=>MPost i (stmtO p.prg ⟨3,snm,sop,se,scd,sacts,sthn,sels⟩) e∧Below w.heap.size w w':=by
 obtain ⟨R,hR⟩:∃ R,stmtO p.prg ⟨3,snm,sop,se,scd,sacts,sthn,sels⟩=R:=⟨_,rfl⟩
 rw [hR]
 have HR:=hidI hR.symm
 clear hR
 have hb:Below w.heap.size w (w.alloc (.cells #[.int .u8 3,.string snm,.int .u8 (sop:Int),.int .i64 se,.int .i64 scd,.slice sa sacts.length sc,.slice ta sthn.length tc,.slice ea sels.length ec] 78)):=(Below.refl _ _).alloc (Nat.le_refl _) _
 have HBc:=hidI hb
 have HTc:=hidI (h.on hb)
 have HAt:=hidI (AtB.new w 78 #[.int .u8 3,.string snm,.int .u8 (sop:Int),.int .i64 se,.int .i64 scd,.slice sa sacts.length sc,.slice ta sthn.length tc,.slice ea sels.length ec])
 have CA:=hidI (fun (a:Actn) (ha:a∈sacts) (u:World) (hu:TyS c i p u)=>cact_all hwf hd a (hw.2.2 rfl a ha) u hu)
 have HR1:Hid (sacts.all (actO p.prg)=R):=hidI (by rw [HR.out];simp [stmtO])
 obtain ⟨W,hW⟩:∃ W,(w.alloc (.cells #[.int .u8 3,.string snm,.int .u8 (sop:Int),.int .i64 se,.int .i64 scd,.slice sa sacts.length sc,.slice ta sthn.length tc,.slice ea sels.length ec] 78))=W:=⟨_,rfl⟩
 have HSV:=hidI (hv.below hb (Nat.le_refl _))
 rw [hW] at HBc HTc HAt HSV
 obtain ⟨n,hn⟩:∃ n,sacts.length=n:=⟨_,rfl⟩
 rw [hn] at hW HAt HSV hl ⊢
 have HN:=hidI hn
 have HW:=hidI hW
 have z0:=HAt.out 0 _ rfl
 have z5:=HAt.out 5 _ rfl
 clear hW hb h hw hwf hd HR hv hn
 go_enter Tryz.func54,Tryz.ntmps54
 go_wp2
 rw [HW.out]
 go_loopg [44] n (fun g s44 wx=>∃ j:Nat,j+g=n∧s44=.int .i64 (j:Int)∧Hid ((sacts.drop j).all (actO p.prg)=R)∧Hid (Below W.heap.size W wx))
 case atStart=>exact ⟨0,by omega,rfl,hidI (by simpa using HR1.out),hidI (Below.refl _ _)⟩
 case round=>
  obtain ⟨j,hj,rfl,HX,HY⟩:=hrel
  cases gk with
  | zero=>
   obtain rfl:n=j:=by omega
   have k1:decide ((n:Int)<(n:Int))=false:=by simp
   have hX:=HX.out
   rw [List.drop_eq_nil_of_le (by have:=HN.out;omega)] at hX
   have hRt:R=true:=hX.symm
   subst hRt
   clear hX HX HR1
   go_wp2
   go_end0
   exact ⟨rfl,HBc.out.trans (HY.out.mono HBc.out.size)⟩
  | succ g=>
   have k1:(j:Int)<(n:Int):=by omega
   obtain ⟨x,hx⟩:∃ x,sacts[j]?=some x:=⟨_,List.getElem?_eq_getElem (by have:=HN.out;omega)⟩
   obtain ⟨_,a2,c2,hv2,hc2⟩:=id HSV.out
   obtain ⟨rfl,rfl⟩:a2=sa∧c2=sc:=by cases hv2;exact ⟨rfl,rfl⟩
   obtain ⟨ab,ao,rfl,hcell⟩:∃ b off,a2=some ⟨b,off,none⟩∧∀ (q:Nat) (z:Value),(flatAc sacts)[q]?=some z→W.cell? ⟨b,off+q,none⟩=some z:=by
    rcases hc2 with h|h
    ·omega
    ·exact h
   have gx:∀ (q:Nat) (z:Value),q<6→(acells x)[q]?=some z→wr.cell? ⟨ab,ao+(j*6+q),none⟩=some z:=fun q z hq hz=>zaJ HY.out (hcell _ _ (by unfold flatAc;rw [zbB acells 6 zcN sacts j q x hx hq];exact hz))
   have x0:=gx 0 _ (by omega) rfl
   have x1:=gx 1 _ (by omega) rfl
   have x2:=gx 2 _ (by omega) rfl
   have x3:=gx 3 _ (by omega) rfl
   have x4:=gx 4 _ (by omega) rfl
   have x5:=gx 5 _ (by omega) rfl
   simp only [←Nat.add_assoc,Nat.add_zero] at x0 x1 x2 x3 x4 x5
   obtain ⟨V,hV⟩:∃ V,wr.alloc (.cells #[.int .u8 (x.k:Int),.string x.name,.int .u8 (x.op:Int),.bool x.inn,.int .i64 x.e,.int .i64 x.cond] 126)=V:=⟨_,rfl⟩
   have hVb:Below W.heap.size W V:=HY.out.trans (hV▸(Below.refl _ _).alloc HY.out.size _)
   have HVb:=hidI hVb
   have CX:=hidI (CA.out x (List.mem_of_getElem? hx) V (HTc.out.on hVb))
   have hX:=HX.out
   rw [List.drop_eq_getElem_cons (by have:=HN.out;omega),show sacts[j]'(by have:=HN.out;omega)=x from Option.some.inj ((List.getElem?_eq_getElem _).symm.trans hx),List.all_cons] at hX
   have HXX:=hidI hX
   have HVV:=hidI hV
   clear hX HX hcell gx hx hv2 hc2 hV hVb
   cases hr:actO p.prg x with
   | false=>
    rw [hr] at CX HXX
    have HR2:Hid (R=false):=hidI (by rw [←HXX.out];rfl)
    clear hr HXX
    go_wp2_with (go_at_call 99;rw [HVV.out];refine Calls.mono CX.out ?_;intro e w9 h9;obtain ⟨h9,hb9⟩:=h9;have h9:e=_:=h9;subst h9;clear CX)
    exact ⟨rfl,by rw [HR2.out];rfl,HBc.out.trans ((HVb.out.trans (hb9.mono HVb.out.size)).mono HBc.out.size)⟩
   | true=>
    rw [hr,Bool.true_and] at HXX
    rw [hr] at CX
    clear hr
    go_wp2_with (go_at_call 99;rw [HVV.out];refine Calls.mono CX.out ?_;intro e w9 h9;obtain ⟨h9,hb9⟩:=h9;have h9:e=_:=h9;subst h9;clear CX;have HB9:=hidI (HVb.out.trans (hb9.mono HVb.out.size));clear hb9)
    go_roundg g
    case measure=>omega
    case rel=>exact ⟨j+1,by omega,by go_num,HXX,HB9⟩
theorem assert96 (v:Value) (w:World):(Instr.typeAssert (.iface 111 v) 20 111 false).run Tryz.prog w=.ok v w:=by kernel_rfl
theorem catch2_fault (E:Nat) (x y p er:Int) (older:List PanicEntry) (w:World) (h0:w.cell? ⟨E,0,none⟩=some (.int .i64 x)) (h1:w.cell? ⟨E,1,none⟩=some (.int .i64 y)) (hz:∀ j,w.frozen? ⟨E,j,none⟩=false) :
  CallsD Tryz.prog 89 #[.pointer (some ⟨E,0,none⟩)] (.panicking ({ v:=.iface 111 (.agg #[.int .i64 p,.int .i64 er]),recovered:=false }::older)) w fun e u' w'=>
   e=.returned (.tuple #[])∧u'=.panicking ({ v:=.iface 111 (.agg #[.int .i64 p,.int .i64 er]),recovered:=true }::older)∧w'=(w.setCell ⟨E,0,none⟩ (.int .i64 p)).setCell ⟨E,1,none⟩ (.int .i64 er):=by
 have hz0:=hz 0
 have hz1:=hz 1
 refine callsD_of_wpS Tryz.func89 rfl fun c₀ cs hu => ?_
 apply wpS_seq
 apply wpS_region
 simp [wpOpsS,go_sem,recoverD,hu,Tryz.ntmps89,Exit.thenS]
 apply wpS_seq
 apply wpS_region
 simp [wpOpsS,go_sem,Exit.thenS]
 refine wpS_cond (t:=true) (by simp [Act.eval,Array.replicate]) ?_
 simp only [if_true]
 apply wpS_region
 simp [wpOpsS,go_sem,assert96,h0,h1,hz0,hz1]
 simp [bodyPostS,results,Tryz.results89]
theorem catch2_idle (E:Nat) (w:World) :
  CallsD Tryz.prog 89 #[.pointer (some ⟨E,0,none⟩)] .returning w fun e u' w'=>e=.returned (.tuple #[])∧u'=.returning∧w'=w:=by
 refine callsD_of_wpS Tryz.func89 rfl fun c₀ cs hu => ?_
 apply wpS_seq
 apply wpS_region
 simp [wpOpsS,go_sem,recoverD,hu,Tryz.ntmps89,Exit.thenS]
 refine wpS_of_wp ?_
 go_wp2
 cases c₀
 simp_all [bodyPostS,results,Tryz.results89]
theorem assertM (v:Value) (w:World):(Instr.typeAssert (.iface 119 v) 20 119 true).run Tryz.prog w=.ok (.tuple #[v,.bool true]) w:=by kernel_rfl
set_option maxRecDepth 100000 in
set_option maxHeartbeats 2000000 in
theorem tcatch_fault (A B:Nat) (x y p:Int) (older:List PanicEntry) (w:World) (h0:w.cell? ⟨A,0,none⟩=some (.int .i64 x)) (h1:w.cell? ⟨B,0,none⟩=some (.int .i64 y)) (z0:w.frozen? ⟨A,0,none⟩=false) (z1:w.frozen? ⟨B,0,none⟩=false) (hAB:B≠A) :
  CallsD Tryz.prog 53 #[.pointer (some ⟨A,0,none⟩),.pointer (some ⟨B,0,none⟩)] (.panicking ({ v:=.iface 119 (.agg #[.int .i64 p]),recovered:=false }::older)) w fun e u' w'=>
   e=.returned (.tuple #[])∧u'=.panicking ({ v:=.iface 119 (.agg #[.int .i64 p]),recovered:=true }::older)∧w'=((w.setCell ⟨A,0,none⟩ (.int .i64 p)).setCell ⟨B,0,none⟩ (.int .i64 9)).alloc (.cells #[.int .i64 p] 119):=by
 have ha:(Instr.typeAssert (.iface 119 (.agg #[.int .i64 p])) 20 119 true).run Tryz.prog w=.ok (.tuple #[.agg #[.int .i64 p],.bool true]) w:=assertM _ w
 have hA:=World.block_lt_of_cell? w _ h0
 have hB:=World.block_lt_of_cell? w _ h1
 simp only at hA hB
 have a0:(w.alloc (.cells #[.int .i64 p] 119)).cell? ⟨A,0,none⟩=some (.int .i64 x):=zaJ ((Below.refl _ _).alloc (Nat.le_refl _) _) h0
 have b0:(w.alloc (.cells #[.int .i64 p] 119)).frozen? ⟨A,0,none⟩=false:=(Below.frozen ((Below.refl _ _).alloc (Nat.le_refl _) _) hA).trans z0
 have hb:Below w.heap.size w (w.alloc (.cells #[.int .i64 p] 119)):=(Below.refl _ _).alloc (Nat.le_refl _) _
 have g1:((w.alloc (.cells #[.int .i64 p] 119)).setCell ⟨A,0,none⟩ (.int .i64 p)).cell? ⟨B,0,none⟩=some (.int .i64 y):=(World.cell?_setCell_other _ _ _ _ (fun e=>hAB (congrArg Addr.block e).symm)).trans (zaJ hb h1)
 have g2:((w.alloc (.cells #[.int .i64 p] 119)).setCell ⟨A,0,none⟩ (.int .i64 p)).frozen? ⟨B,0,none⟩=false:=by
  rw [World.frozen?_setCell]
  exact (hb.frozen (World.block_lt_of_cell? w _ h1)).trans z1
 clear hb
 refine callsD_of_wpS Tryz.func53 rfl fun c₀ cs hu => ?_
 apply wpS_seq
 apply wpS_region
 simp [wpOpsS,go_sem,recoverD,hu,Tryz.ntmps53,Exit.thenS]
 refine wpS_of_wp ?_
 go_wp2
 cases c₀
 simp_all [bodyPostS,results,Tryz.results53]
theorem tcatch_idle (A B:Nat) (w:World) :
  CallsD Tryz.prog 53 #[.pointer (some ⟨A,0,none⟩),.pointer (some ⟨B,0,none⟩)] .returning w fun e u' w'=>e=.returned (.tuple #[])∧u'=.returning∧w'=w:=by
 refine callsD_of_wpS Tryz.func53 rfl fun c₀ cs hu => ?_
 apply wpS_seq
 apply wpS_region
 simp [wpOpsS,go_sem,recoverD,hu,Tryz.ntmps53,Exit.thenS]
 refine wpS_of_wp ?_
 go_wp2
 cases c₀
 simp_all [bodyPostS,results,Tryz.results53]
end Go.Proofs.YtmekkhfohmfjkaaGreatDoor
