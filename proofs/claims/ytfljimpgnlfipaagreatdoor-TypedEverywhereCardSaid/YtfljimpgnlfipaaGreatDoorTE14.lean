/-
  Part 14 of the proof: DrR, DrS1, DrR2.
-/
import Derived.Test.YtfljimpgnlfipaaGreatDoorTE13
import Derived.Test.YtfljimpgnlfipaaGreatDoorTE06
namespace Go.Proofs.YtfljimpgnlfipaaGreatDoor
open Go.RowKit Go.Deep Go.MapKept
def difN:Nat→Oper
 | 0=>⟨some 152,.move (.tmp 8),4, "ref.go:229",#[],none⟩
 | 1=>⟨some 153,.move (.tmp 152),4, "ref.go:229",#[⟨0,.data⟩],none⟩
 | 2=>⟨some 154,.move (.tmp 6),9, "ref.go:229",#[⟨1,.guard⟩],some (1,true)⟩
 | 3=>⟨some 155,.binOp .eql 9 (.tmp 154) (.const (.string ⟨#[105,102]⟩)) 9,4, "ref.go:229",#[⟨2,.data⟩,⟨1,.guard⟩],some (1,true)⟩
 | 4=>⟨some 156,.pick (.tmp 153) (.tmp 155) (.const (.bool false)),4, "ref.go:229",#[⟨1,.data⟩,⟨3,.data⟩],none⟩
 | 5=>⟨some 157,.move (.tmp 156),4, "ref.go:229",#[⟨4,.data⟩,⟨1,.chain⟩],none⟩
 | 6=>⟨some 158,.move (.tmp 9),3, "ref.go:229",#[⟨5,.guard⟩],some (5,true)⟩
 | 7=>⟨some 159,.binOp .eql 3 (.tmp 158) (.const (.int .i64 3)) 3,4, "ref.go:229",#[⟨6,.data⟩,⟨5,.guard⟩],some (5,true)⟩
 | 8=>⟨some 160,.pick (.tmp 157) (.tmp 159) (.const (.bool false)),4, "ref.go:229",#[⟨5,.data⟩,⟨7,.data⟩],none⟩
 | 9=>⟨some 161,.move (.tmp 160),4, "ref.go:229",#[⟨8,.data⟩,⟨5,.chain⟩],none⟩
 | 10=>⟨some 162,.move (.tmp 0),99, "ref.go:229",#[⟨9,.guard⟩],some (9,true)⟩
 | 11=>⟨some 163,.nilCheck (.tmp 162),0, "ref.go:229",#[⟨10,.data⟩,⟨9,.guard⟩],some (9,true)⟩
 | 12=>⟨some 164,.fieldAddr 101 (.tmp 163) 0,0, "ref.go:229",#[⟨11,.data⟩,⟨9,.guard⟩],some (9,true)⟩
 | 13=>⟨some 165,.load 56 (.tmp 164),56, "ref.go:229",#[⟨12,.data⟩,⟨9,.guard⟩],some (9,true)⟩
 | 14=>⟨some 166,.move (.tmp 7),25, "ref.go:229",#[⟨9,.guard⟩],some (9,true)⟩
 | 15=>⟨some 167,.indexAddr 25 (.tmp 166) (.const (.int .i64 1)),0, "ref.go:229",#[⟨14,.data⟩,⟨9,.guard⟩],some (9,true)⟩
 | 16=>⟨some 168,.load 3 (.tmp 167),3, "ref.go:229",#[⟨15,.data⟩,⟨9,.guard⟩],some (9,true)⟩
 | 17=>⟨some 169,.indexAddr 56 (.tmp 165) (.tmp 168),0, "ref.go:229",#[⟨13,.data⟩,⟨16,.data⟩,⟨9,.guard⟩],some (9,true)⟩
 | 18=>⟨some 170,.fieldAddr 97 (.tmp 169) 0,0, "ref.go:229",#[⟨17,.data⟩,⟨9,.guard⟩],some (9,true)⟩
 | 19=>⟨some 171,.load 90 (.tmp 170),90, "ref.go:229",#[⟨18,.data⟩,⟨9,.guard⟩],some (9,true)⟩
 | 20=>⟨some 172,.binOp .eql 90 (.tmp 171) (.const (.int .u8 1)) 90,4, "ref.go:229",#[⟨19,.data⟩,⟨9,.guard⟩],some (9,true)⟩
 | 21=>⟨some 173,.pick (.tmp 161) (.tmp 172) (.const (.bool false)),4, "ref.go:229",#[⟨9,.data⟩,⟨20,.data⟩],none⟩
 | 22=>⟨some 174,.move (.tmp 173),4, "ref.go:229",#[⟨21,.data⟩,⟨9,.chain⟩],none⟩
 | 23=>⟨some 175,.move (.tmp 0),99, "ref.go:229",#[⟨22,.guard⟩],some (22,true)⟩
 | 24=>⟨some 176,.nilCheck (.tmp 175),0, "ref.go:229",#[⟨23,.data⟩,⟨22,.guard⟩],some (22,true)⟩
 | 25=>⟨some 177,.fieldAddr 101 (.tmp 176) 0,0, "ref.go:229",#[⟨24,.data⟩,⟨22,.guard⟩],some (22,true)⟩
 | 26=>⟨some 178,.load 56 (.tmp 177),56, "ref.go:229",#[⟨25,.data⟩,⟨22,.guard⟩],some (22,true)⟩
 | 27=>⟨some 179,.move (.tmp 7),25, "ref.go:229",#[⟨22,.guard⟩],some (22,true)⟩
 | 28=>⟨some 180,.indexAddr 25 (.tmp 179) (.const (.int .i64 2)),0, "ref.go:229",#[⟨27,.data⟩,⟨22,.guard⟩],some (22,true)⟩
 | 29=>⟨some 181,.load 3 (.tmp 180),3, "ref.go:229",#[⟨28,.data⟩,⟨22,.guard⟩],some (22,true)⟩
 | 30=>⟨some 182,.indexAddr 56 (.tmp 178) (.tmp 181),0, "ref.go:229",#[⟨26,.data⟩,⟨29,.data⟩,⟨22,.guard⟩],some (22,true)⟩
 | 31=>⟨some 183,.fieldAddr 97 (.tmp 182) 0,0, "ref.go:229",#[⟨30,.data⟩,⟨22,.guard⟩],some (22,true)⟩
 | 32=>⟨some 184,.load 90 (.tmp 183),90, "ref.go:229",#[⟨31,.data⟩,⟨22,.guard⟩],some (22,true)⟩
 | 33=>⟨some 185,.binOp .eql 90 (.tmp 184) (.const (.int .u8 1)) 90,4, "ref.go:229",#[⟨32,.data⟩,⟨22,.guard⟩],some (22,true)⟩
 | 34=>⟨some 186,.pick (.tmp 174) (.tmp 185) (.const (.bool false)),4, "ref.go:229",#[⟨22,.data⟩,⟨33,.data⟩],none⟩
 | _=>⟨some 151,.assign (.tmp 186),4, "ref.go:229",#[⟨34,.data⟩,⟨22,.chain⟩],none⟩
set_option maxRecDepth 100000 in
set_option maxHeartbeats 8000000 in
theorem regIf0 (w:World)
  {Q:Exit→Act→World→Prop} {x0 x1 x2 x3 x4 x5 x6 x7 x9 bd dV aA dw d9 aR ec dW cY du a8 az cI b7 dI dE bx cy bE aM bZ bQ aP aQ de af cU ds ay db aq bz aK a6 ch d7 a7 dk bo ac bg dZ bn bk dX aN b2 dK c8 bt bR dL aC cz dU ba aX dY aD dF dx bV bb bf bC df d5 ce ed bM cM bu ca bT bA aB cH be dT bj bW dc ee b0 cs a3 b5 ae bY ci bm cf ck ap aY a2 c7 da cR dd bF c6 aE aa dA b1 dt ea b3 c3 cP cV ao cT ak bU ar a1 aS d6 aJ bB cZ dz dS aw ad cg ai bc dG cc d0 cW ax dr d1 dH cr cL bL eB eK ep eE eq eN ej eL et eA eC el eu eH ey eG eF eQ eo ei eD eh ez ew eM eI eR em ek eP eO er es en eJ ex dl dy dg cj cX c5 dh b6 cx c2 cF dv dq cQ cB bS dJ dj dQ eb aF dB aT cu cl aO cC d2 ah bv ef ag aL dC di bD bG dD a0 aG bN cd cp bw dM bI bO dN au b8 bh cO dO cm dR bH bJ d8 aH a4 cn cE d3 bp cD bX c1 b4 aI am a5 aj bi cK cG co br al dm aZ cw cS cA dP cq bl ab dn av dp b9 an ct aU bq cN c9 cb cJ c4 c0 bP d4 eg aV bs bK aW cv:Value} {ri:Nat}
  (h:∀ (y:World),Below w.heap.size w y→Q .normal ⟨#[x0,x1,x2,x3,x4,x5,x6,x7,.bool false,x9,bd,dV,aA,dw,d9,aR,ec,dW,cY,du,a8,az,cI,b7,dI,dE,bx,cy,bE,aM,bZ,bQ,aP,aQ,de,af,cU,ds,ay,db,aq,bz,aK,a6,ch,d7,a7,dk,bo,ac,bg,dZ,bn,bk,dX,aN,b2,dK,c8,bt,bR,dL,aC,cz,dU,ba,aX,dY,aD,dF,dx,bV,bb,bf,bC,df,d5,ce,ed,bM,cM,bu,ca,bT,bA,aB,cH,be,dT,bj,bW,dc,ee,b0,cs,a3,b5,ae,bY,ci,bm,cf,ck,ap,aY,a2,c7,da,cR,dd,bF,c6,aE,aa,dA,b1,dt,ea,b3,c3,cP,cV,ao,cT,ak,bU,ar,a1,aS,d6,aJ,bB,cZ,dz,dS,aw,ad,cg,ai,bc,dG,cc,d0,cW,ax,dr,d1,dH,cr,cL,bL,.bool false,.bool false,.bool false,undef,undef,.bool false,.bool false,undef,undef,.bool false,.bool false,undef,undef,undef,undef,undef,undef,undef,undef,undef,undef,undef,.bool false,.bool false,undef,undef,undef,undef,undef,undef,undef,undef,undef,undef,undef,.bool false,dl,dy,dg,cj,cX,c5,dh,b6,cx,c2,cF,dv,dq,cQ,cB,bS,dJ,dj,dQ,eb,aF,dB,aT,cu,cl,aO,cC,d2,ah,bv,ef,ag,aL,dC,di,bD,bG,dD,a0,aG,bN,cd,cp,bw,dM,bI,bO,dN,au,b8,bh,cO,dO,cm,dR,bH,bJ,d8,aH,a4,cn,cE,d3,bp,cD,bX,c1,b4,aI,am,a5,aj,bi,cK,cG,co,br,al,dm,aZ,cw,cS,cA,dP,cq,bl,ab,dn,av,dp,b9,an,ct,aU,bq,cN,c9,cb,cJ,c4,c0,bP,d4,eg,aV,bs,bK,aW,cv],[]⟩ y) :
  (Code.region ri (opsA difN 35) true).wp Tryz.prog Q ⟨#[x0,x1,x2,x3,x4,x5,x6,x7,.bool false,x9,bd,dV,aA,dw,d9,aR,ec,dW,cY,du,a8,az,cI,b7,dI,dE,bx,cy,bE,aM,bZ,bQ,aP,aQ,de,af,cU,ds,ay,db,aq,bz,aK,a6,ch,d7,a7,dk,bo,ac,bg,dZ,bn,bk,dX,aN,b2,dK,c8,bt,bR,dL,aC,cz,dU,ba,aX,dY,aD,dF,dx,bV,bb,bf,bC,df,d5,ce,ed,bM,cM,bu,ca,bT,bA,aB,cH,be,dT,bj,bW,dc,ee,b0,cs,a3,b5,ae,bY,ci,bm,cf,ck,ap,aY,a2,c7,da,cR,dd,bF,c6,aE,aa,dA,b1,dt,ea,b3,c3,cP,cV,ao,cT,ak,bU,ar,a1,aS,d6,aJ,bB,cZ,dz,dS,aw,ad,cg,ai,bc,dG,cc,d0,cW,ax,dr,d1,dH,cr,cL,bL,eB,eK,ep,eE,eq,eN,ej,eL,et,eA,eC,el,eu,eH,ey,eG,eF,eQ,eo,ei,eD,eh,ez,ew,eM,eI,eR,em,ek,eP,eO,er,es,en,eJ,ex,dl,dy,dg,cj,cX,c5,dh,b6,cx,c2,cF,dv,dq,cQ,cB,bS,dJ,dj,dQ,eb,aF,dB,aT,cu,cl,aO,cC,d2,ah,bv,ef,ag,aL,dC,di,bD,bG,dD,a0,aG,bN,cd,cp,bw,dM,bI,bO,dN,au,b8,bh,cO,dO,cm,dR,bH,bJ,d8,aH,a4,cn,cE,d3,bp,cD,bX,c1,b4,aI,am,a5,aj,bi,cK,cG,co,br,al,dm,aZ,cw,cS,cA,dP,cq,bl,ab,dn,av,dp,b9,an,ct,aU,bq,cN,c9,cb,cJ,c4,c0,bP,d4,eg,aV,bs,bK,aW,cv],[]⟩ w:=by
 refine zaQ difN (fun i=>match i with|0=>.bool false|1=>.bool false|2=>undef|3=>undef|4=>.bool false|5=>.bool false|6=>undef|7=>undef|8=>.bool false|9=>.bool false|10=>undef|11=>undef|12=>undef|13=>undef|14=>undef|15=>undef|16=>undef|17=>undef|18=>undef|19=>undef|20=>undef|21=>.bool false|22=>.bool false|23=>undef|24=>undef|25=>undef|26=>undef|27=>undef|28=>undef|29=>undef|30=>undef|31=>undef|32=>undef|33=>undef|34=>.bool false|_=>undef) (fun y=>Below w.heap.size w y) 35 Tryz.mixed (by kernel_rfl) (by kernel_rfl) (Below.refl _ _).drew ?_ ?_
 ·intro i9 hi9 a9 w9 hF9 hS9 K9 hK9;have hc9:i9=0∨i9=1∨i9=2∨i9=3∨i9=4∨i9=5∨i9=6∨i9=7∨i9=8∨i9=9∨i9=10∨i9=11∨i9=12∨i9=13∨i9=14∨i9=15∨i9=16∨i9=17∨i9=18∨i9=19∨i9=20∨i9=21∨i9=22∨i9=23∨i9=24∨i9=25∨i9=26∨i9=27∨i9=28∨i9=29∨i9=30∨i9=31∨i9=32∨i9=33∨i9=34:=by omega
  clear hi9;rcases hc9 with rfl|rfl|rfl|rfl|rfl|rfl|rfl|rfl|rfl|rfl|rfl|rfl|rfl|rfl|rfl|rfl|rfl|rfl|rfl|rfl|rfl|rfl|rfl|rfl|rfl|rfl|rfl|rfl|rfl|rfl|rfl|rfl|rfl|rfl|rfl
  ·have e8:=hF9.od 8 (v:=.bool false) rfl;refine zaU rfl ?_ (hK9 _ hS9);clear hF9;simp only [difN,execOp,e8];first|done|(go_simp<;>omega)
  ·have e152:=hF9.ev 0 152;refine zaU rfl ?_ (hK9 _ hS9);clear hF9;simp only [difN,execOp,e152];first|done|(go_simp<;>omega)
  iterate 2 exact zaK rfl (hF9.nw 1 153) (hK9 _ hS9)
  ·have e153:=hF9.ev 1 153;have e155:=hF9.ev 3 155;refine zaU rfl ?_ (hK9 _ hS9);clear hF9;simp only [difN,execOp,e153,e155];first|done|(go_simp<;>omega)
  ·have e156:=hF9.ev 4 156;refine zaU rfl ?_ (hK9 _ hS9);clear hF9;simp only [difN,execOp,e156];first|done|(go_simp<;>omega)
  iterate 2 exact zaK rfl (hF9.nw 5 157) (hK9 _ hS9)
  ·have e157:=hF9.ev 5 157;have e159:=hF9.ev 7 159;refine zaU rfl ?_ (hK9 _ hS9);clear hF9;simp only [difN,execOp,e157,e159];first|done|(go_simp<;>omega)
  ·have e160:=hF9.ev 8 160;refine zaU rfl ?_ (hK9 _ hS9);clear hF9;simp only [difN,execOp,e160];first|done|(go_simp<;>omega)
  iterate 11 exact zaK rfl (hF9.nw 9 161) (hK9 _ hS9)
  ·have e161:=hF9.ev 9 161;have e172:=hF9.ev 20 172;refine zaU rfl ?_ (hK9 _ hS9);clear hF9;simp only [difN,execOp,e161,e172];first|done|(go_simp<;>omega)
  ·have e173:=hF9.ev 21 173;refine zaU rfl ?_ (hK9 _ hS9);clear hF9;simp only [difN,execOp,e173];first|done|(go_simp<;>omega)
  iterate 11 exact zaK rfl (hF9.nw 22 174) (hK9 _ hS9)
  ·have e174:=hF9.ev 22 174;have e185:=hF9.ev 33 185;refine zaU rfl ?_ (hK9 _ hS9);clear hF9;simp only [difN,execOp,e174,e185];first|done|(go_simp<;>omega)
 ·intro w9 hS9 K9 hK9;simp only [putA,difN];rw [if_pos (zaG rfl)];unfold Oper.wp;go_simp;exact hK9 _ _ (h _ hS9)
set_option maxRecDepth 100000 in
set_option maxHeartbeats 8000000 in
theorem regIf1 (w:World) (wd:ByteArray) (hb:(wd.toList==[105,102])=false)
  {Q:Exit→Act→World→Prop} {x0 x1 x2 x3 x4 x5 x7 x9 bd dV aA dw d9 aR ec dW cY du a8 az cI b7 dI dE bx cy bE aM bZ bQ aP aQ de af cU ds ay db aq bz aK a6 ch d7 a7 dk bo ac bg dZ bn bk dX aN b2 dK c8 bt bR dL aC cz dU ba aX dY aD dF dx bV bb bf bC df d5 ce ed bM cM bu ca bT bA aB cH be dT bj bW dc ee b0 cs a3 b5 ae bY ci bm cf ck ap aY a2 c7 da cR dd bF c6 aE aa dA b1 dt ea b3 c3 cP cV ao cT ak bU ar a1 aS d6 aJ bB cZ dz dS aw ad cg ai bc dG cc d0 cW ax dr d1 dH cr cL bL eB eK ep eE eq eN ej eL et eA eC el eu eH ey eG eF eQ eo ei eD eh ez ew eM eI eR em ek eP eO er es en eJ ex dl dy dg cj cX c5 dh b6 cx c2 cF dv dq cQ cB bS dJ dj dQ eb aF dB aT cu cl aO cC d2 ah bv ef ag aL dC di bD bG dD a0 aG bN cd cp bw dM bI bO dN au b8 bh cO dO cm dR bH bJ d8 aH a4 cn cE d3 bp cD bX c1 b4 aI am a5 aj bi cK cG co br al dm aZ cw cS cA dP cq bl ab dn av dp b9 an ct aU bq cN c9 cb cJ c4 c0 bP d4 eg aV bs bK aW cv:Value} {ri:Nat}
  (h:∀ (y:World),Below w.heap.size w y→Q .normal ⟨#[x0,x1,x2,x3,x4,x5,.string wd,x7,.bool true,x9,bd,dV,aA,dw,d9,aR,ec,dW,cY,du,a8,az,cI,b7,dI,dE,bx,cy,bE,aM,bZ,bQ,aP,aQ,de,af,cU,ds,ay,db,aq,bz,aK,a6,ch,d7,a7,dk,bo,ac,bg,dZ,bn,bk,dX,aN,b2,dK,c8,bt,bR,dL,aC,cz,dU,ba,aX,dY,aD,dF,dx,bV,bb,bf,bC,df,d5,ce,ed,bM,cM,bu,ca,bT,bA,aB,cH,be,dT,bj,bW,dc,ee,b0,cs,a3,b5,ae,bY,ci,bm,cf,ck,ap,aY,a2,c7,da,cR,dd,bF,c6,aE,aa,dA,b1,dt,ea,b3,c3,cP,cV,ao,cT,ak,bU,ar,a1,aS,d6,aJ,bB,cZ,dz,dS,aw,ad,cg,ai,bc,dG,cc,d0,cW,ax,dr,d1,dH,cr,cL,bL,.bool false,.bool true,.bool true,.string wd,.bool false,.bool false,.bool false,undef,undef,.bool false,.bool false,undef,undef,undef,undef,undef,undef,undef,undef,undef,undef,undef,.bool false,.bool false,undef,undef,undef,undef,undef,undef,undef,undef,undef,undef,undef,.bool false,dl,dy,dg,cj,cX,c5,dh,b6,cx,c2,cF,dv,dq,cQ,cB,bS,dJ,dj,dQ,eb,aF,dB,aT,cu,cl,aO,cC,d2,ah,bv,ef,ag,aL,dC,di,bD,bG,dD,a0,aG,bN,cd,cp,bw,dM,bI,bO,dN,au,b8,bh,cO,dO,cm,dR,bH,bJ,d8,aH,a4,cn,cE,d3,bp,cD,bX,c1,b4,aI,am,a5,aj,bi,cK,cG,co,br,al,dm,aZ,cw,cS,cA,dP,cq,bl,ab,dn,av,dp,b9,an,ct,aU,bq,cN,c9,cb,cJ,c4,c0,bP,d4,eg,aV,bs,bK,aW,cv],[]⟩ y) :
  (Code.region ri (opsA difN 35) true).wp Tryz.prog Q ⟨#[x0,x1,x2,x3,x4,x5,.string wd,x7,.bool true,x9,bd,dV,aA,dw,d9,aR,ec,dW,cY,du,a8,az,cI,b7,dI,dE,bx,cy,bE,aM,bZ,bQ,aP,aQ,de,af,cU,ds,ay,db,aq,bz,aK,a6,ch,d7,a7,dk,bo,ac,bg,dZ,bn,bk,dX,aN,b2,dK,c8,bt,bR,dL,aC,cz,dU,ba,aX,dY,aD,dF,dx,bV,bb,bf,bC,df,d5,ce,ed,bM,cM,bu,ca,bT,bA,aB,cH,be,dT,bj,bW,dc,ee,b0,cs,a3,b5,ae,bY,ci,bm,cf,ck,ap,aY,a2,c7,da,cR,dd,bF,c6,aE,aa,dA,b1,dt,ea,b3,c3,cP,cV,ao,cT,ak,bU,ar,a1,aS,d6,aJ,bB,cZ,dz,dS,aw,ad,cg,ai,bc,dG,cc,d0,cW,ax,dr,d1,dH,cr,cL,bL,eB,eK,ep,eE,eq,eN,ej,eL,et,eA,eC,el,eu,eH,ey,eG,eF,eQ,eo,ei,eD,eh,ez,ew,eM,eI,eR,em,ek,eP,eO,er,es,en,eJ,ex,dl,dy,dg,cj,cX,c5,dh,b6,cx,c2,cF,dv,dq,cQ,cB,bS,dJ,dj,dQ,eb,aF,dB,aT,cu,cl,aO,cC,d2,ah,bv,ef,ag,aL,dC,di,bD,bG,dD,a0,aG,bN,cd,cp,bw,dM,bI,bO,dN,au,b8,bh,cO,dO,cm,dR,bH,bJ,d8,aH,a4,cn,cE,d3,bp,cD,bX,c1,b4,aI,am,a5,aj,bi,cK,cG,co,br,al,dm,aZ,cw,cS,cA,dP,cq,bl,ab,dn,av,dp,b9,an,ct,aU,bq,cN,c9,cb,cJ,c4,c0,bP,d4,eg,aV,bs,bK,aW,cv],[]⟩ w:=by
 refine zaQ difN (fun i=>match i with|0=>.bool true|1=>.bool true|2=>.string wd|3=>.bool false|4=>.bool false|5=>.bool false|6=>undef|7=>undef|8=>.bool false|9=>.bool false|10=>undef|11=>undef|12=>undef|13=>undef|14=>undef|15=>undef|16=>undef|17=>undef|18=>undef|19=>undef|20=>undef|21=>.bool false|22=>.bool false|23=>undef|24=>undef|25=>undef|26=>undef|27=>undef|28=>undef|29=>undef|30=>undef|31=>undef|32=>undef|33=>undef|34=>.bool false|_=>undef) (fun y=>Below w.heap.size w y) 35 Tryz.mixed (by kernel_rfl) (by kernel_rfl) (Below.refl _ _).drew ?_ ?_
 ·intro i9 hi9 a9 w9 hF9 hS9 K9 hK9;have hc9:i9=0∨i9=1∨i9=2∨i9=3∨i9=4∨i9=5∨i9=6∨i9=7∨i9=8∨i9=9∨i9=10∨i9=11∨i9=12∨i9=13∨i9=14∨i9=15∨i9=16∨i9=17∨i9=18∨i9=19∨i9=20∨i9=21∨i9=22∨i9=23∨i9=24∨i9=25∨i9=26∨i9=27∨i9=28∨i9=29∨i9=30∨i9=31∨i9=32∨i9=33∨i9=34:=by omega
  clear hi9;rcases hc9 with rfl|rfl|rfl|rfl|rfl|rfl|rfl|rfl|rfl|rfl|rfl|rfl|rfl|rfl|rfl|rfl|rfl|rfl|rfl|rfl|rfl|rfl|rfl|rfl|rfl|rfl|rfl|rfl|rfl|rfl|rfl|rfl|rfl|rfl|rfl
  ·have e8:=hF9.od 8 (v:=.bool true) rfl;refine zaU rfl ?_ (hK9 _ hS9);clear hF9;simp only [difN,execOp,e8];first|done|(go_simp<;>omega)
  ·have e152:=hF9.ev 0 152;refine zaU rfl ?_ (hK9 _ hS9);clear hF9;simp only [difN,execOp,e152];first|done|(go_simp<;>omega)
  ·have e6:=hF9.od 6 (v:=.string wd) rfl;refine zbA rfl (hF9.nw 1 153) ?_;refine zaP ?_ (hK9 _ hS9);clear hF9;simp only [difN,execOp,e6];first|done|(go_simp<;>omega)
  ·have e154:=hF9.ev 2 154;refine zbA rfl (hF9.nw 1 153) ?_;have q0:=hb;refine zaP ?_ (hK9 _ hS9);clear hF9;simp only [difN,execOp,e154];first|done|(go_simp<;>omega)
  ·have e153:=hF9.ev 1 153;have e155:=hF9.ev 3 155;refine zaU rfl ?_ (hK9 _ hS9);clear hF9;simp only [difN,execOp,e153,e155];first|done|(go_simp<;>omega)
  ·have e156:=hF9.ev 4 156;refine zaU rfl ?_ (hK9 _ hS9);clear hF9;simp only [difN,execOp,e156];first|done|(go_simp<;>omega)
  iterate 2 exact zaK rfl (hF9.nw 5 157) (hK9 _ hS9)
  ·have e157:=hF9.ev 5 157;have e159:=hF9.ev 7 159;refine zaU rfl ?_ (hK9 _ hS9);clear hF9;simp only [difN,execOp,e157,e159];first|done|(go_simp<;>omega)
  ·have e160:=hF9.ev 8 160;refine zaU rfl ?_ (hK9 _ hS9);clear hF9;simp only [difN,execOp,e160];first|done|(go_simp<;>omega)
  iterate 11 exact zaK rfl (hF9.nw 9 161) (hK9 _ hS9)
  ·have e161:=hF9.ev 9 161;have e172:=hF9.ev 20 172;refine zaU rfl ?_ (hK9 _ hS9);clear hF9;simp only [difN,execOp,e161,e172];first|done|(go_simp<;>omega)
  ·have e173:=hF9.ev 21 173;refine zaU rfl ?_ (hK9 _ hS9);clear hF9;simp only [difN,execOp,e173];first|done|(go_simp<;>omega)
  iterate 11 exact zaK rfl (hF9.nw 22 174) (hK9 _ hS9)
  ·have e174:=hF9.ev 22 174;have e185:=hF9.ev 33 185;refine zaU rfl ?_ (hK9 _ hS9);clear hF9;simp only [difN,execOp,e174,e185];first|done|(go_simp<;>omega)
 ·intro w9 hS9 K9 hK9;simp only [putA,difN];rw [if_pos (zaG rfl)];unfold Oper.wp;go_simp;exact hK9 _ _ (h _ hS9)
set_option maxRecDepth 100000 in
set_option maxHeartbeats 16000000 in
theorem dstmt_none {c:Dx} (hc:c.Ok) {f n:Nat} (hn:n<c.fs.length) {p:PV} {X:List Rw} {w:World} (h:DrS c p none X w) (hN:p.many+c.sz n≤999) (hh:headF c.l n=none) :
  Calls Tryz.prog 56 #[.pointer (some ⟨c.B,0,none⟩),.int .i64 (n:Int)] w (DsPost c p X (f+1) n):=by
 have HN:=hidI hN;have hz:=hc.kids_sz hn;have HZ:=hidI hz;have HZ1:Hid (1≤c.sz n):=hidI (by omega);have hkl:=hc.kids_lt hn;have e1:(n:Int)<(c.fs.length:Int):=by omega
 have e2:(0:Int)≤(n:Int):=by omega
 obtain ⟨g,o,cap,xp,W1,HFP,HC4,HFV,HW1,HS1,HKN⟩:=zeD hc hn h;have hv:=HFV.out;have hkn0:=HKN.out;have CH:=hidI (zbC hc HS1.out hn);have HR:Hid (rdStmt c.l (f+1) n p.es=.error xp):=hidI (by simp only [rdStmt,hh];rw [HFP.out]);have CH2:Hid (Calls Tryz.prog 54 #[.pointer (some ⟨c.B,0,none⟩),.int .i64 (n:Int)] W1 fun e w'=>e=.returned (.tuple #[.string ⟨#[]⟩,.slice none 0 0,.bool false])∧Below W1.heap.size W1 w'):=hidI (by have:=CH.out;unfold HdPost at this;rwa [hh] at this);clear hv h hn hN hz hkl hkn0 CH hh;go_enter Tryz.func56,Tryz.ntmps56
 go_wp2_with (go_at_call 54;rw [HW1.out];refine CH2.out.mono ?_;rintro e w2 ⟨rfl,hb2⟩;have HS2:=hidI (HS1.out.on hb2);clear hb2 CH2)
 refine regIf0 _ (fun y hy => ?_);have hs3:=HS2.out.on hy;have HS3:=hidI hs3;have b0:=hs3.cell (j:=0) (u:=c.fv) rfl;rw [HFV.out] at b0;have y4:=HC4.out _ hs3.below;clear hs3 hy
 go_wp2_with (go_at_call 57;refine Calls.mono (zbG HS3.out xp 8) ?_;rintro e w6 ⟨rfl,h6⟩;have H6:=hidI h6;clear h6;refine Hid.out ?_)
 have HMT:Hid (p.many+1≤p.many+c.sz n):=hidI (by have:=HZ1.out;omega);refine hidI ?_;go_wp2;have HTD:=hidI H6.out.drew;have HPL:Hid (p.ss.length≤999):=hidI (by have:=HMT.out;have:=HN.out;have:=HZ1.out;unfold PV.many at *;omega);refine drgS (B:=c.B) (eb:=w.heap.size) (base:=c.w0.heap.size) (n:=p.ss.length) (u:=p.sv) (xs:=flatS p.ss) (HTD.out.cell (j:=3) rfl) (HTD.out.vcell (j:=0) rfl) (HTD.out.vcell (j:=1) rfl) (HTD.out.vcell (j:=2) rfl) (HTD.out.vcell (j:=3) rfl) (HTD.out.vcell (j:=4) rfl) (HTD.out.vcell (j:=5) rfl) (HTD.out.vcell (j:=6) rfl) (HTD.out.vcell (j:=7) rfl) (HTD.out.free 3) HTD.out.sown.head (by have:=HPL.out;omega) HTD.out.size (zbJ HTD.out.sown) HTD.out.vfarS (by
  intro v hv;simp only [List.mem_cons,List.not_mem_nil,or_false] at hv;rcases hv with rfl|rfl|rfl|rfl|rfl|rfl|rfl|rfl<;>rfl) (fun _ _ _ _ _ h=>h) ?_
 intro W5 u' t277 t278 t279 t280 t281 t282 t283 t284 t285 t286 t287 t288 hg ho ha;have s5:=DrS.addS (s:=⟨⟨0,emptyS,0, -1, -1,[],[],[]⟩,.slice none 0 0,.slice none 0 0,.slice none 0 0⟩) (HTD.out.less.alloc (.cells #[.int .u8 0,.string ⟨#[]⟩,.int .u8 0,.int .i64 (-1),.int .i64 (-1),.slice none 0 0,.slice none 0 0,.slice none 0 0] 49)) ⟨by show 0<256;omega,by show 0<256;omega,(by unfold SmlN;decide:SmlN emptyS),by simp,by simp,by simp,by simp⟩ (by have:=HPL.out;omega) hg ho (by simpa using ha);have HS5:=hidI s5;obtain ⟨ml,hml⟩:∃ ml,p.ss.length=ml:=⟨_,rfl⟩;obtain ⟨ua,uc,hu⟩:∃ ua uc,u'=.slice ua (p.ss.length+1) uc:=zaH ho;rw [hml] at hu;subst hu;have c7:=s5.cell (j:=3) (u:=.slice ua (ml+1) uc) rfl;have hml2:ml≤999:=hml▸HPL.out;have e9:IntKind.i64.wrap (((ml+1:Nat):Int)-1)=(ml:Int):=by rw [show (((ml+1:Nat):Int)-1)=(ml:Int) by omega,IntKind.wrap_i64];omega
 obtain ⟨W6,hW6⟩:∃ W6,W5.setCell ⟨c.B,3,none⟩ (.slice ua (ml+1) uc)=W6:=⟨_,rfl⟩;rw [hW6] at HS5 c7 ⊢;have HML:=hidI hml;clear hg ho ha s5 HTD hW6 hml;go_wp2;go_ret;rw [←HML.out];exact DsPost.bad HR.out HS5.out rfl rfl (by have:=HZ1.out;simp [PV.many];omega)
set_option maxRecDepth 100000 in
set_option maxHeartbeats 8000000 in
theorem regIf2 (w:World) (wd:ByteArray) (kl:Nat) (hb:(wd.toList==[105,102])=true) (hk:((kl:Int)==3)=false)
  {Q:Exit→Act→World→Prop} {x0 x1 x2 x3 x4 x5 x7 bd dV aA dw d9 aR ec dW cY du a8 az cI b7 dI dE bx cy bE aM bZ bQ aP aQ de af cU ds ay db aq bz aK a6 ch d7 a7 dk bo ac bg dZ bn bk dX aN b2 dK c8 bt bR dL aC cz dU ba aX dY aD dF dx bV bb bf bC df d5 ce ed bM cM bu ca bT bA aB cH be dT bj bW dc ee b0 cs a3 b5 ae bY ci bm cf ck ap aY a2 c7 da cR dd bF c6 aE aa dA b1 dt ea b3 c3 cP cV ao cT ak bU ar a1 aS d6 aJ bB cZ dz dS aw ad cg ai bc dG cc d0 cW ax dr d1 dH cr cL bL eB eK ep eE eq eN ej eL et eA eC el eu eH ey eG eF eQ eo ei eD eh ez ew eM eI eR em ek eP eO er es en eJ ex dl dy dg cj cX c5 dh b6 cx c2 cF dv dq cQ cB bS dJ dj dQ eb aF dB aT cu cl aO cC d2 ah bv ef ag aL dC di bD bG dD a0 aG bN cd cp bw dM bI bO dN au b8 bh cO dO cm dR bH bJ d8 aH a4 cn cE d3 bp cD bX c1 b4 aI am a5 aj bi cK cG co br al dm aZ cw cS cA dP cq bl ab dn av dp b9 an ct aU bq cN c9 cb cJ c4 c0 bP d4 eg aV bs bK aW cv:Value} {ri:Nat}
  (h:∀ (y:World),Below w.heap.size w y→Q .normal ⟨#[x0,x1,x2,x3,x4,x5,.string wd,x7,.bool true,.int .i64 (kl:Int),bd,dV,aA,dw,d9,aR,ec,dW,cY,du,a8,az,cI,b7,dI,dE,bx,cy,bE,aM,bZ,bQ,aP,aQ,de,af,cU,ds,ay,db,aq,bz,aK,a6,ch,d7,a7,dk,bo,ac,bg,dZ,bn,bk,dX,aN,b2,dK,c8,bt,bR,dL,aC,cz,dU,ba,aX,dY,aD,dF,dx,bV,bb,bf,bC,df,d5,ce,ed,bM,cM,bu,ca,bT,bA,aB,cH,be,dT,bj,bW,dc,ee,b0,cs,a3,b5,ae,bY,ci,bm,cf,ck,ap,aY,a2,c7,da,cR,dd,bF,c6,aE,aa,dA,b1,dt,ea,b3,c3,cP,cV,ao,cT,ak,bU,ar,a1,aS,d6,aJ,bB,cZ,dz,dS,aw,ad,cg,ai,bc,dG,cc,d0,cW,ax,dr,d1,dH,cr,cL,bL,.bool false,.bool true,.bool true,.string wd,.bool true,.bool true,.bool true,.int .i64 (kl:Int),.bool false,.bool false,.bool false,undef,undef,undef,undef,undef,undef,undef,undef,undef,undef,undef,.bool false,.bool false,undef,undef,undef,undef,undef,undef,undef,undef,undef,undef,undef,.bool false,dl,dy,dg,cj,cX,c5,dh,b6,cx,c2,cF,dv,dq,cQ,cB,bS,dJ,dj,dQ,eb,aF,dB,aT,cu,cl,aO,cC,d2,ah,bv,ef,ag,aL,dC,di,bD,bG,dD,a0,aG,bN,cd,cp,bw,dM,bI,bO,dN,au,b8,bh,cO,dO,cm,dR,bH,bJ,d8,aH,a4,cn,cE,d3,bp,cD,bX,c1,b4,aI,am,a5,aj,bi,cK,cG,co,br,al,dm,aZ,cw,cS,cA,dP,cq,bl,ab,dn,av,dp,b9,an,ct,aU,bq,cN,c9,cb,cJ,c4,c0,bP,d4,eg,aV,bs,bK,aW,cv],[]⟩ y) :
  (Code.region ri (opsA difN 35) true).wp Tryz.prog Q ⟨#[x0,x1,x2,x3,x4,x5,.string wd,x7,.bool true,.int .i64 (kl:Int),bd,dV,aA,dw,d9,aR,ec,dW,cY,du,a8,az,cI,b7,dI,dE,bx,cy,bE,aM,bZ,bQ,aP,aQ,de,af,cU,ds,ay,db,aq,bz,aK,a6,ch,d7,a7,dk,bo,ac,bg,dZ,bn,bk,dX,aN,b2,dK,c8,bt,bR,dL,aC,cz,dU,ba,aX,dY,aD,dF,dx,bV,bb,bf,bC,df,d5,ce,ed,bM,cM,bu,ca,bT,bA,aB,cH,be,dT,bj,bW,dc,ee,b0,cs,a3,b5,ae,bY,ci,bm,cf,ck,ap,aY,a2,c7,da,cR,dd,bF,c6,aE,aa,dA,b1,dt,ea,b3,c3,cP,cV,ao,cT,ak,bU,ar,a1,aS,d6,aJ,bB,cZ,dz,dS,aw,ad,cg,ai,bc,dG,cc,d0,cW,ax,dr,d1,dH,cr,cL,bL,eB,eK,ep,eE,eq,eN,ej,eL,et,eA,eC,el,eu,eH,ey,eG,eF,eQ,eo,ei,eD,eh,ez,ew,eM,eI,eR,em,ek,eP,eO,er,es,en,eJ,ex,dl,dy,dg,cj,cX,c5,dh,b6,cx,c2,cF,dv,dq,cQ,cB,bS,dJ,dj,dQ,eb,aF,dB,aT,cu,cl,aO,cC,d2,ah,bv,ef,ag,aL,dC,di,bD,bG,dD,a0,aG,bN,cd,cp,bw,dM,bI,bO,dN,au,b8,bh,cO,dO,cm,dR,bH,bJ,d8,aH,a4,cn,cE,d3,bp,cD,bX,c1,b4,aI,am,a5,aj,bi,cK,cG,co,br,al,dm,aZ,cw,cS,cA,dP,cq,bl,ab,dn,av,dp,b9,an,ct,aU,bq,cN,c9,cb,cJ,c4,c0,bP,d4,eg,aV,bs,bK,aW,cv],[]⟩ w:=by
 refine zaQ difN (fun i=>match i with|0=>.bool true|1=>.bool true|2=>.string wd|3=>.bool true|4=>.bool true|5=>.bool true|6=>.int .i64 (kl:Int)|7=>.bool false|8=>.bool false|9=>.bool false|10=>undef|11=>undef|12=>undef|13=>undef|14=>undef|15=>undef|16=>undef|17=>undef|18=>undef|19=>undef|20=>undef|21=>.bool false|22=>.bool false|23=>undef|24=>undef|25=>undef|26=>undef|27=>undef|28=>undef|29=>undef|30=>undef|31=>undef|32=>undef|33=>undef|34=>.bool false|_=>undef) (fun y=>Below w.heap.size w y) 35 Tryz.mixed (by kernel_rfl) (by kernel_rfl) (Below.refl _ _).drew ?_ ?_
 ·intro i9 hi9 a9 w9 hF9 hS9 K9 hK9;have hc9:i9=0∨i9=1∨i9=2∨i9=3∨i9=4∨i9=5∨i9=6∨i9=7∨i9=8∨i9=9∨i9=10∨i9=11∨i9=12∨i9=13∨i9=14∨i9=15∨i9=16∨i9=17∨i9=18∨i9=19∨i9=20∨i9=21∨i9=22∨i9=23∨i9=24∨i9=25∨i9=26∨i9=27∨i9=28∨i9=29∨i9=30∨i9=31∨i9=32∨i9=33∨i9=34:=by omega
  clear hi9;rcases hc9 with rfl|rfl|rfl|rfl|rfl|rfl|rfl|rfl|rfl|rfl|rfl|rfl|rfl|rfl|rfl|rfl|rfl|rfl|rfl|rfl|rfl|rfl|rfl|rfl|rfl|rfl|rfl|rfl|rfl|rfl|rfl|rfl|rfl|rfl|rfl
  ·have e8:=hF9.od 8 (v:=.bool true) rfl;refine zaU rfl ?_ (hK9 _ hS9);clear hF9;simp only [difN,execOp,e8];first|done|(go_simp<;>omega)
  ·have e152:=hF9.ev 0 152;refine zaU rfl ?_ (hK9 _ hS9);clear hF9;simp only [difN,execOp,e152];first|done|(go_simp<;>omega)
  ·have e6:=hF9.od 6 (v:=.string wd) rfl;refine zbA rfl (hF9.nw 1 153) ?_;refine zaP ?_ (hK9 _ hS9);clear hF9;simp only [difN,execOp,e6];first|done|(go_simp<;>omega)
  ·have e154:=hF9.ev 2 154;refine zbA rfl (hF9.nw 1 153) ?_;have q0:=hb;refine zaP ?_ (hK9 _ hS9);clear hF9;simp only [difN,execOp,e154];first|done|(go_simp<;>omega)
  ·have e153:=hF9.ev 1 153;have e155:=hF9.ev 3 155;refine zaU rfl ?_ (hK9 _ hS9);clear hF9;simp only [difN,execOp,e153,e155];first|done|(go_simp<;>omega)
  ·have e156:=hF9.ev 4 156;refine zaU rfl ?_ (hK9 _ hS9);clear hF9;simp only [difN,execOp,e156];first|done|(go_simp<;>omega)
  ·have e9:=hF9.od 9 (v:=.int .i64 (kl:Int)) rfl;refine zbA rfl (hF9.nw 5 157) ?_;refine zaP ?_ (hK9 _ hS9);clear hF9;simp only [difN,execOp,e9];first|done|(go_simp<;>omega)
  ·have e158:=hF9.ev 6 158;refine zbA rfl (hF9.nw 5 157) ?_;have q0:=hk;refine zaP ?_ (hK9 _ hS9);clear hF9;simp only [difN,execOp,e158];first|done|(go_simp<;>omega)
  ·have e157:=hF9.ev 5 157;have e159:=hF9.ev 7 159;refine zaU rfl ?_ (hK9 _ hS9);clear hF9;simp only [difN,execOp,e157,e159];first|done|(go_simp<;>omega)
  ·have e160:=hF9.ev 8 160;refine zaU rfl ?_ (hK9 _ hS9);clear hF9;simp only [difN,execOp,e160];first|done|(go_simp<;>omega)
  iterate 11 exact zaK rfl (hF9.nw 9 161) (hK9 _ hS9)
  ·have e161:=hF9.ev 9 161;have e172:=hF9.ev 20 172;refine zaU rfl ?_ (hK9 _ hS9);clear hF9;simp only [difN,execOp,e161,e172];first|done|(go_simp<;>omega)
  ·have e173:=hF9.ev 21 173;refine zaU rfl ?_ (hK9 _ hS9);clear hF9;simp only [difN,execOp,e173];first|done|(go_simp<;>omega)
  iterate 11 exact zaK rfl (hF9.nw 22 174) (hK9 _ hS9)
  ·have e174:=hF9.ev 22 174;have e185:=hF9.ev 33 185;refine zaU rfl ?_ (hK9 _ hS9);clear hF9;simp only [difN,execOp,e174,e185];first|done|(go_simp<;>omega)
 ·intro w9 hS9 K9 hK9;simp only [putA,difN];rw [if_pos (zaG rfl)];unfold Oper.wp;go_simp;exact hK9 _ _ (h _ hS9)
end Go.Proofs.YtfljimpgnlfipaaGreatDoor
