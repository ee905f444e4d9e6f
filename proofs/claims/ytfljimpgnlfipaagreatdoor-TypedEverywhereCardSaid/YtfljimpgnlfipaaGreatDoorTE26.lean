/-
  Part 26 of the proof: RParse7D.
-/
import Derived.Test.YtfljimpgnlfipaaGreatDoorTE22
import Derived.Test.YtfljimpgnlfipaaGreatDoorTE21
namespace Go.Proofs.YtfljimpgnlfipaaGreatDoor
open Go.RowKit Go.Deep Go.MapKept
set_option maxRecDepth 100000 in
set_option maxHeartbeats 16000000 in
theorem rtparse_any (ts:List Tok) (v:Value) (w:World) (hv:SeesC w v ts.length 4 (flatT ts)) (hl:ts.length≤100000) :
  Calls Tryz.prog 25 #[v] w fun e w'=>PRes w (parse ts) e w':=by
 obtain ⟨_,a,cap,rfl,hc⟩:=hv;have HC:=hidI hc;clear hc;go_enter Tryz.func25,Tryz.ntmps25;go_wp2
 go_loopg [6,7,8,9] ts.length (fun gh s6 s7 s8 s9 wx=>∃ j:Nat,j+gh=ts.length∧s9=.int .i64 (j:Int)∧Hid (RJ ts w j s6 s7 s8 wx))
 case atStart=>exact ⟨0,by omega,rfl,hidI ⟨[],[],[],rfl,good_begin,rf_begin _ _,Below.refl _ _⟩⟩
 case round=>
  obtain ⟨j,hj,rfl,HRJ⟩:=hrel;obtain ⟨fs,top,opn,hst,hG,hRF,hbl⟩:=HRJ.out;obtain ⟨fa,fc,hfv⟩:=zaH hRF.fo;obtain ⟨ta,tc,htv⟩:=zaH hRF.to;obtain ⟨oa,oc,hov⟩:=zaH hRF.oo;subst hfv;subst htv;subst hov;have HG:=hidI hG;have HRF:=hidI hRF;have HBL:=hidI hbl;have HST:=hidI hst;have hlen:=hG.len;have hop:=hG.open_len;have htop:=hG.top_len;simp only [List.length_map] at hlen hop htop;clear HRJ hst hG hRF hbl;cases gk with
  | zero=>
   have hje:ts.length=j:=by omega
   have hst:=HST.out;rw [←hje,List.take_length] at hst;have HP:=hidI (parse_end hst);have e1:¬ ((j:Int)<(ts.length:Int)):=by omega
   subst hje;clear hst;by_cases hn:opn=[]
   ·subst hn;have HQ:Hid (parse ts=.ok ⟨fs.map Prod.fst,top,[]⟩):=hidI (by rw [HP.out];rfl);go_wp2;refine bodyPost_ret (zcK rfl _ _ _) rfl ?_;rw [HQ.out];exact ⟨_,_,rfl,HRF.out.sees,zbD HRF.out.to,HBL.out⟩
   ·have hol:0<opn.length:=List.length_pos_iff.2 hn;obtain ⟨og,oc',hov,_,_⟩:=zdS HRF.out.oo hol;cases hov;obtain ⟨m,hm⟩:∃ m,opn.length=m+1:=⟨opn.length-1,by omega⟩;obtain ⟨bb,hbb⟩:∃ bb,opn.getLast?=some bb:=by cases hq:opn.getLast? with|none=>exact absurd (List.getLast?_eq_none_iff.1 hq) hn|some bb=>exact ⟨bb,rfl⟩
    have hbl:bb<fs.length:=by have:=HG.out.open_lt bb (List.mem_of_getLast? hbb);simpa using this
    have hom:opn[m]?=some bb:=by rw [List.getLast?_eq_getElem?,hm] at hbb;exact hbb
    have hx:fs[bb]?=some fs[bb]:=List.getElem?_eq_getElem hbl;obtain ⟨fg,fc5,hfv5,_,_⟩:=zdS HRF.out.fo (by omega);cases hfv5;have co:wr.cell? ⟨og,m,none⟩=some (.int .i64 (bb:Int)):=zcW HRF.out.oo (ints_get hom);have cf:wr.cell? ⟨fg,bb*5+4,none⟩=some (.int .i64 fs[bb].1.p):=zcW HRF.out.fo (by rw [zcV _ bb 4 _ hx (by omega)];rfl);have HQ:Hid (parse ts=.error (fs[bb].1.p,8)):=hidI (by
     rw [HP.out];unfold finish;simp only [hbb];unfold atOf;rw [List.getElem?_map,hx];rfl)
    obtain ⟨pp,hpp⟩:∃ pp,fs[bb].1.p=pp:=⟨_,rfl⟩;rw [hpp] at cf HQ;rw [hm];have q0:(0:Int)<(m:Int)+1:=by omega
    have wm:IntKind.i64.wrap (((m+1:Nat):Int)-1)=(m:Int):=by rw [show (((m+1:Nat):Int)-1)=(m:Int) by omega,IntKind.wrap_i64];omega
    have wm2:IntKind.i64.wrap ((m:Int)+1-1)=(m:Int):=by rw [show ((m:Int)+1-1)=(m:Int) by omega,IntKind.wrap_i64];omega
    have m1:(0:Int)≤(m:Int):=by omega
    have m2:(m:Int)<((m+1:Nat):Int):=by omega
    have m3:((m:Int)).toNat=m:=by omega
    have b1:(0:Int)≤(bb:Int):=by omega
    have b2:(bb:Int)<(fs.length:Int):=by omega
    have b3:((bb:Int)).toNat=bb:=by omega
    have m8:IntKind.i64.wrap (m:Int)=(m:Int):=by rw [IntKind.wrap_i64];omega
    clear hpp hx hom hbb;go_wp2;go_quiet (fail);go_wp2;refine bodyPost_ret (zcK rfl _ _ _) rfl ?_;rw [HQ.out];exact ⟨rfl,zdJ HBL.out _⟩
  | succ g=>
   have hjl:j<ts.length:=by omega
   have hti:ts[j]?=some ts[j]:=List.getElem?_eq_getElem hjl;obtain ⟨t,ht⟩:∃ t,ts[j]=t:=⟨_,rfl⟩;rw [ht] at hti;rcases HC.out with h0|⟨b,off,rfl,hcs⟩
   ·omega
   have hcell:∀ i u,i<4→t.cells[i]?=some u→wr.cell? ⟨b,off+j*4+i,none⟩=some u:=fun i u hi hu=>by
    have:=hcs (j*4+i) u (by rw [flatT_get ts j i t hti hi];exact hu);rw [←Nat.add_assoc] at this;exact (HBL.out.cell (World.block_lt_of_cell? w _ this)).trans this
   have k0:=hcell 0 _ (by omega) rfl;have k1:=hcell 1 _ (by omega) rfl;have k2:=hcell 2 _ (by omega) rfl;have k3:=hcell 3 _ (by omega) rfl;simp only [Nat.add_zero] at k0;have e1:(j:Int)<(ts.length:Int):=by omega
   have e2:(0:Int)≤(j:Int):=by omega
   have e3:((j:Int)).toNat=j:=by omega
   have HTI:=hidI hti;obtain ⟨tk,tt,tn,tp⟩:=t;simp only at k0 k1 k2 k3;clear hcell hcs ht hti;obtain ⟨WA,hWA⟩:∃ WA,wr.alloc (.cells #[.int .u8 tk,.string tt,.int .i64 tn,.int .i64 tp] 92)=WA:=⟨_,rfl⟩;have HB1:Hid (Below w.heap.size w WA):=hidI (by rw [←hWA];exact HBL.out.alloc HBL.out.size _);have HR1:Hid (RF WA w.heap.size fs top opn (.slice fa fs.length fc) (.slice ta top.length tc) (.slice oa opn.length oc)):=hidI (by rw [←hWA];exact HRF.out.alloc _);have hszW:=HB1.out.size;have hTB:wr.heap.size<WA.heap.size:=by rw [←hWA];simp
   have t0:WA.cell? ⟨wr.heap.size,0,none⟩=some (.int .u8 tk):=by rw [←hWA];exact cell_new wr _ 92 0 _ rfl
   have t1:WA.cell? ⟨wr.heap.size,1,none⟩=some (.string tt):=by rw [←hWA];exact cell_new wr _ 92 1 _ rfl
   have t2:WA.cell? ⟨wr.heap.size,2,none⟩=some (.int .i64 tn):=by rw [←hWA];exact cell_new wr _ 92 2 _ rfl
   have t3:WA.cell? ⟨wr.heap.size,3,none⟩=some (.int .i64 tp):=by rw [←hWA];exact cell_new wr _ 92 3 _ rfl
   by_cases h2:tk=2
   ·subst h2;by_cases hn:opn=[]
    ·subst hn;have HP:=hidI (parse_stop (q:=(tp,8)) HTI.out HST.out (by simp [step]));go_wp2;go_quiet (fail);go_wp2;refine bodyPost_ret (zcK rfl _ _ _) rfl ?_;rw [HP.out];exact ⟨rfl,zdJ HB1.out _⟩
    ·have hol:0<opn.length:=List.length_pos_iff.2 hn;obtain ⟨og,oc',hov,_,_⟩:=zdS HR1.out.oo hol;cases hov;obtain ⟨m,hm⟩:∃ m,opn.length=m+1:=⟨opn.length-1,by omega⟩;have hcut:=own_cut HR1.out.oo (m:=m) (by omega) (by simp);have hcap:m+1≤oc:=by
      rcases HR1.out.oo.2 with ⟨h0,_⟩|⟨_,_,_,e,_,_,h1,_⟩
      ·cases h0
      ·cases e;omega
     rw [Nat.mul_one] at hcut;have ed:opn.dropLast=opn.take m:=by rw [List.dropLast_eq_take,hm];rfl
     have HN:=hidI (zcP HTI.out HST.out);have hstp:step ⟨fs.map Prod.fst,top,opn⟩ ⟨2,tt,tn,tp⟩=.ok ⟨fs.map Prod.fst,top,opn.take m⟩:=by simp [step,hn,ed]
     have HGN:=hidI (step_good HG.out hstp);rw [hstp] at HN;have HE:=hidI (zeS WA w.heap.size hszW);have HV:Hid (SeesC (WA.alloc (.cells #[] 3)) (.slice (some ⟨og,0,none⟩) m oc) m 1 (ints (opn.take m))):=hidI (by
      rw [ints_take];exact zbD (hcut.alloc _))
     rw [hm];have q1:(((m+1:Nat):Int)==0)=false:=by rw [beq_eq_false_iff_ne];omega
     have w1:IntKind.i64.wrap (((m+1:Nat):Int)-1)=(m:Int):=by rw [show (((m+1:Nat):Int)-1)=(m:Int) by omega,IntKind.wrap_i64];omega
     have e5:(0:Int)≤(m:Int):=by omega
     have e6:((m:Int)).toNat=m:=by omega
     have e7:(m:Int)≤(oc:Int):=by omega
     have e8:IntKind.i64.wrap (m:Int)=(m:Int):=by rw [IntKind.wrap_i64];omega
     clear hcut hcap ed hstp
     go_wp2_with (at_builtin;go_must (refine zaF Tryz.underlying25 Tryz.info3x rfl (by decide) (by decide) rfl _ _ rfl w.heap.size (.slice (some ⟨WA.heap.size,0,none⟩) 0 0) 0 [] rfl HE.out _ m (ints (opn.take m)) rfl HV.out (ints_one _) (by omega) (by simp;omega) ?_);intro ov' w4 hown4 hgrow4 hat4;refine Hid.out ?_)
     have hgW:=zeQ hgrow4;have hB4:Below w.heap.size w w4:=HB1.out.grown hgW hszW (fun _ e=>by cases e);have hR4:=HR1.out.newO (ov':=ov') (opn':=opn.take m) hgW (by rw [Nat.zero_add,List.nil_append] at hown4;rw [List.length_take,show min m opn.length=m by omega];exact hown4) (fun k hk=>by
      rcases hat4 with e|e
      ·rw [e] at hk;cases hk;exact Nat.le_refl _
      ·rw [e] at hk;cases hk;simp)
     obtain ⟨oa4,oc4,rfl⟩:=zaH hown4;have H4:=hidI hR4;have HB4:=hidI hB4;refine hidI ?_;clear hgW hB4 hR4 hown4 hgrow4 hat4;go_wp2;go_roundg g
     case measure=>omega
     case rel=>exact ⟨j+1,by omega,by go_num,hidI ⟨fs,top,opn.take m,HN.out,HGN.out,H4.out,HB4.out⟩⟩
   by_cases hkk:tk=1∨tk=3∨tk=4
   ·by_cases hsp:(tk=1∧opn.length=12)∨fs.length=400
    ·have hstp:step ⟨fs.map Prod.fst,top,opn⟩ ⟨tk,tt,tn,tp⟩=.error (tp,4):=by
      unfold step;simp only [if_neg h2,List.length_map];rcases hkk with rfl|rfl|rfl
      ·rw [if_pos rfl];by_cases h12:opn.length=12
       ·rw [if_pos h12]
       ·rw [if_neg h12,if_pos (by rcases hsp with ⟨_,h⟩|h;exact absurd h h12;exact h)]
      ·rw [if_neg (by decide),if_pos (by decide),if_pos (by rcases hsp with ⟨h,_⟩|h;exact absurd h (by decide);exact h)]
      ·rw [if_neg (by decide),if_pos (by decide),if_pos (by rcases hsp with ⟨h,_⟩|h;exact absurd h (by decide);exact h)]
     have HP:=hidI (parse_stop HTI.out HST.out hstp);clear hstp;rcases hkk with rfl|rfl|rfl
     ·by_cases h12:opn.length=12
      ·have p1:(12:Int)≤(opn.length:Int):=by omega
       clear hsp;go_wp2;go_quiet (fail);go_wp2;refine bodyPost_ret (zcK rfl _ _ _) rfl ?_;rw [HP.out];exact ⟨rfl,zdJ HB1.out _⟩
      ·have hf:fs.length=400:=by rcases hsp with ⟨_,h⟩|h;exact absurd h h12;exact h
       have p1:¬ ((12:Int)≤(opn.length:Int)):=by omega
       have p2:(400:Int)≤(fs.length:Int):=by omega
       clear hsp;go_wp2;go_quiet (fail);go_wp2;refine bodyPost_ret (zcK rfl _ _ _) rfl ?_;rw [HP.out];exact ⟨rfl,zdJ HB1.out _⟩
     ·have hf:fs.length=400:=by rcases hsp with ⟨h,_⟩|h;exact absurd h (by decide);exact h
      have p2:(400:Int)≤(fs.length:Int):=by omega
      clear hsp;go_wp2;go_quiet (fail);go_wp2;refine bodyPost_ret (zcK rfl _ _ _) rfl ?_;rw [HP.out];exact ⟨rfl,zdJ HB1.out _⟩
     ·have hf:fs.length=400:=by rcases hsp with ⟨h,_⟩|h;exact absurd h (by decide);exact h
      have p2:(400:Int)≤(fs.length:Int):=by omega
      clear hsp;go_wp2;go_quiet (fail);go_wp2;refine bodyPost_ret (zcK rfl _ _ _) rfl ?_;rw [HP.out];exact ⟨rfl,zdJ HB1.out _⟩
    ·rcases hkk with rfl|rfl|rfl
     ·by_cases hn:opn=[]
      ·subst hn;have HN:=hidI (zcP HTI.out HST.out);rw [zeM (by simp) (by simpa using hsp)] at HN;have q12:decide (400≤(fs.length:Int))=false:=by simp;omega
       have q13:¬ ((400:Int)≤(fs.length:Int)):=by omega
       have hf400:fs.length<400:=by omega
       have ho12:([]:List Nat).length<12:=by have:=hop;have:¬ ([]:List Nat).length=12:=fun e=>hsp (.inl ⟨rfl,e⟩);omega
       have q14:¬ ((12:Int)≤(([]:List Nat).length:Int)):=by omega
       have HOf:=hidI (((HR1.out.alloc (.cells #[.int .u8 1,.string ⟨#[]⟩,.int .i64 0,.slice none 0 0,.int .i64 tp] 97)).alloc (.cells #[.int .u8 1,.string ⟨#[]⟩,.int .i64 0,.slice none 0 0,.int .i64 tp] 97)).fo);have HVf:=hidI (form_at (W:=WA.alloc (.cells #[.int .u8 1,.string ⟨#[]⟩,.int .i64 0,.slice none 0 0,.int .i64 tp] 97)) (b:=WA.heap.size+1) (⟨1,⟨#[]⟩,0,[],tp⟩:Frm) (by simp))
       go_wp2_with (at_builtin;go_must (refine zaF Tryz.underlying56 Tryz.info97x rfl (by decide) (by decide) rfl _ _ rfl w.heap.size (.slice fa fs.length fc) fs.length (flatF fs) rfl HOf.out _ 1 (fcells ((⟨1,⟨#[]⟩,0,[],tp⟩:Frm),.slice none 0 0)) rfl HVf.out (zdV _) (by omega) (by simp;omega) ?_);intro fv' w4 hown4 hgrow4 hat4;refine Hid.out ?_)
       have hR4:=((HR1.out.alloc (.cells #[.int .u8 1,.string ⟨#[]⟩,.int .i64 0,.slice none 0 0,.int .i64 tp] 97)).alloc (.cells #[.int .u8 1,.string ⟨#[]⟩,.int .i64 0,.slice none 0 0,.int .i64 tp] 97)).putF (f:=(⟨1,⟨#[]⟩,0,[],tp⟩:Frm)) rfl hgrow4 hown4 hat4;have hB4:Below w.heap.size w w4:=((HB1.out.alloc hszW (.cells #[.int .u8 1,.string ⟨#[]⟩,.int .i64 0,.slice none 0 0,.int .i64 tp] 97)).alloc (by simp;omega) (.cells #[.int .u8 1,.string ⟨#[]⟩,.int .i64 0,.slice none 0 0,.int .i64 tp] 97)).grown hgrow4 (by simp;omega) (fun k e=>(HR1.out.fo.lt k e).1);have t4:w4.cell? ⟨wr.heap.size,0,none⟩=some (.int .u8 1):=hgrow4.cell (zcH _ (zcH _ t0)) (fun e=>Nat.lt_irrefl _ (HRF.out.fo.lt _ e.symm).2);have hT4:wr.heap.size<w4.heap.size:=by have:=hgrow4.size;simp at this;omega
       have hs4:=hB4.size;obtain ⟨fa4,fc4,hfv4⟩:=zaH hown4;subst hfv4;have H4:=hidI hR4;have HB4:=hidI hB4;have HOt:=hidI ((hR4.alloc (.cells #[.int .i64 (fs.length:Int)] 3)).to);have HVt:=hidI (int_at (W:=w4) (b:=w4.heap.size) (fs.length:Int) rfl);refine hidI ?_;clear hown4 hgrow4 hat4 hR4 hB4 HOf HVf
       go_wp2_with (at_builtin;go_must (refine zaF Tryz.underlying25 Tryz.info3x rfl (by decide) (by decide) rfl _ _ rfl w.heap.size (.slice ta top.length tc) top.length (ints top) rfl HOt.out _ 1 [.int .i64 (fs.length:Int)] rfl HVt.out (by simp [Value.oneCell']) (by omega) (by simp;omega) ?_);intro tv' w5 hown5 hgrow5 hat5;refine Hid.out ?_)
       have hR5:=(H4.out.alloc (.cells #[.int .i64 (fs.length:Int)] 3)).putT (tv':=tv') (top':=top++[fs.length]) hgrow5 (by rw [zdH,List.length_append];exact hown5) hat5;have hB5:Below w.heap.size w w5:=(HB4.out.alloc hs4 _).grown hgrow5 (by simp;omega) (fun k e=>(H4.out.to.lt k e).1);have t5:w5.cell? ⟨wr.heap.size,0,none⟩=some (.int .u8 1):=hgrow5.cell (zcH _ t4) (fun e=>Nat.lt_irrefl _ (HRF.out.to.lt _ e.symm).2);obtain ⟨ta5,tc5,htv5⟩:=zaH hown5;subst htv5;have H5:=hidI hR5;have HB5:=hidI hB5;refine hidI ?_;clear hown5 hgrow5 hat5 hR5 hB5 HOt HVt t4;have hadd:addF (formOf ⟨1,tt,tn,tp⟩) ⟨fs.map Prod.fst,top,[]⟩=⟨(fs++[((⟨1,⟨#[]⟩,0,[],tp⟩:Frm),Value.slice none 0 0)]).map Prod.fst,top++[fs.length],[]⟩:=by simp [addF,formOf,emptyS]
       have HN2:=hidI HN.out;rw [if_pos (by first|trivial|rfl),hadd] at HN2;simp only [List.length_map] at HN2;have HGN:=hidI (zcF HN2.out);obtain ⟨W5,hW5⟩:∃ W5,w5=W5:=⟨_,rfl⟩;rw [hW5] at H5 HB5 t5;have hs5:=HB5.out.size;have HE5:=hidI (zeS W5 w.heap.size hs5);have HVo:Hid (SeesC (W5.alloc (.cells #[] 3)) (.slice oa ([]:List Nat).length oc) 0 1 (ints ([]:List Nat))):=hidI (zbD (H5.out.oo.alloc _))
       go_wp2_with (at_builtin;go_must (refine zaF Tryz.underlying25 Tryz.info3x rfl (by decide) (by decide) rfl _ _ rfl w.heap.size (.slice (some ⟨W5.heap.size,0,none⟩) 0 0) 0 [] rfl HE5.out _ 0 (ints ([]:List Nat)) rfl HVo.out (ints_one _) (by omega) (by simp;omega) ?_);intro v8 w8 hown8 hgrow8 hat8;refine Hid.out ?_)
       have hg8:=zeQ hgrow8;have hv8:∀ k,v8.ownBlock=some k→W5.heap.size≤k:=fun k hk=>by
        rcases hat8 with e|e
        ·rw [e] at hk;cases hk;exact Nat.le_refl _
        ·rw [e] at hk;cases hk;simp
       rw [Nat.zero_add,List.nil_append] at hown8;have HG8:=hidI hg8;have HV8:=hidI hv8;have hs8:w.heap.size≤w8.heap.size:=Nat.le_trans hs5 hg8.size;obtain ⟨a8,c8,hv8e⟩:=zaH hown8;subst hv8e;have HO8:=hidI (hown8.alloc (.cells #[.int .i64 (fs.length:Int)] 3));have HV9:=hidI (int_at (W:=w8) (b:=w8.heap.size) (fs.length:Int) rfl);refine hidI ?_;clear hown8 hgrow8 hat8 hg8 hv8 HE5 HVo
       go_wp2_with (at_builtin;go_must (refine zaF Tryz.underlying25 Tryz.info3x rfl (by decide) (by decide) rfl _ _ rfl w.heap.size (.slice a8 0 c8) 0 (ints ([]:List Nat)) rfl HO8.out _ 1 [.int .i64 (fs.length:Int)] rfl HV9.out (by simp [Value.oneCell']) (by omega) (by simp;omega) ?_);intro ov9 w9 hown9 hgrow9 hat9;refine Hid.out ?_)
       have hg9:=zeR HG8.out hgrow9 (fun k e=>HV8.out k e);have hR9:=H5.out.newO (ov':=ov9) (opn':=([]:List Nat)++[fs.length]) hg9 (by rw [zdH,List.length_append];exact hown9) (fun k hk=>by
        rcases hat9 with e|e
        ·rw [e] at hk;exact HV8.out k hk
        ·rw [e] at hk;cases hk;have:=HG8.out.size;simp;omega)
       have hB9:Below w.heap.size w w9:=HB5.out.grown hg9 hs5 (fun _ e=>by cases e);obtain ⟨oa9,oc9,rfl⟩:=zaH hown9;have H9:=hidI hR9;have HB9:=hidI hB9;refine hidI ?_;clear hown9 hgrow9 hat9 hR9 hB9 HO8 HV9 hg9;go_wp2;go_roundg g
       case measure=>omega
       case rel=>exact ⟨j+1,by omega,by go_num,hidI ⟨(fs++[((⟨1,⟨#[]⟩,0,[],tp⟩:Frm),Value.slice none 0 0)]),(top++[fs.length]),([]:List Nat)++[fs.length],HN2.out,HGN.out,H9.out,HB9.out⟩⟩
      ·have HN:=hidI (zcP HTI.out HST.out);rw [zeM (by simp) (by simpa using hsp)] at HN;have q12:decide (400≤(fs.length:Int))=false:=by simp;omega
       have q13:¬ ((400:Int)≤(fs.length:Int)):=by omega
       have hf400:fs.length<400:=by omega
       have ho12:(opn:List Nat).length<12:=by have:=hop;have:¬ (opn:List Nat).length=12:=fun e=>hsp (.inl ⟨rfl,e⟩);omega
       have q14:¬ ((12:Int)≤((opn:List Nat).length:Int)):=by omega
       have hol:0<opn.length:=List.length_pos_iff.2 hn;obtain ⟨og,oc',hov,_,_⟩:=zdS HR1.out.oo hol;cases hov;obtain ⟨m,hm⟩:∃ m,opn.length=m+1:=⟨opn.length-1,by omega⟩;obtain ⟨bb,hbb⟩:∃ bb,opn.getLast?=some bb:=by cases hq:opn.getLast? with|none=>exact absurd (List.getLast?_eq_none_iff.1 hq) hn|some bb=>exact ⟨bb,rfl⟩
       have hbl:bb<fs.length:=by have:=HG.out.open_lt bb (List.mem_of_getLast? hbb);simpa using this
       have hom:opn[m]?=some bb:=by rw [List.getLast?_eq_getElem?,hm] at hbb;exact hbb
       obtain ⟨x,hx⟩:∃ x,fs[bb]?=some x:=⟨fs[bb],List.getElem?_eq_getElem hbl⟩;have hkx:x.1.kids.length≤400:=by have:=HG.out.kid_len x.1 (List.mem_map.2 ⟨x,List.mem_of_getElem? hx,rfl⟩);simp at this;omega
       have hne0:(((m:Int)+1)==0)=false:=by rw [beq_eq_false_iff_ne];omega
       have wm:IntKind.i64.wrap (((m+1:Nat):Int)-1)=(m:Int):=by rw [show (((m+1:Nat):Int)-1)=(m:Int) by omega,IntKind.wrap_i64];omega
       have wm2:IntKind.i64.wrap ((m:Int)+1-1)=(m:Int):=by rw [show ((m:Int)+1-1)=(m:Int) by omega,IntKind.wrap_i64];omega
       have m1:(0:Int)≤(m:Int):=by omega
       have m2:(m:Int)<((m+1:Nat):Int):=by omega
       have m3:((m:Int)).toNat=m:=by omega
       have b1:(0:Int)≤(bb:Int):=by omega
       have b2:(bb:Int)<((fs.length+1:Nat):Int):=by omega
       have b3:((bb:Int)).toNat=bb:=by omega
       have HOf:=hidI (((HR1.out.alloc (.cells #[.int .u8 1,.string ⟨#[]⟩,.int .i64 0,.slice none 0 0,.int .i64 tp] 97)).alloc (.cells #[.int .u8 1,.string ⟨#[]⟩,.int .i64 0,.slice none 0 0,.int .i64 tp] 97)).fo);have HVf:=hidI (form_at (W:=WA.alloc (.cells #[.int .u8 1,.string ⟨#[]⟩,.int .i64 0,.slice none 0 0,.int .i64 tp] 97)) (b:=WA.heap.size+1) (⟨1,⟨#[]⟩,0,[],tp⟩:Frm) (by simp));rw [hm]
       go_wp2_with (at_builtin;go_must (refine zaF Tryz.underlying56 Tryz.info97x rfl (by decide) (by decide) rfl _ _ rfl w.heap.size (.slice fa fs.length fc) fs.length (flatF fs) rfl HOf.out _ 1 (fcells ((⟨1,⟨#[]⟩,0,[],tp⟩:Frm),.slice none 0 0)) rfl HVf.out (zdV _) (by omega) (by simp;omega) ?_);intro fv' w4 hown4 hgrow4 hat4;refine Hid.out ?_)
       have hR4:=((HR1.out.alloc (.cells #[.int .u8 1,.string ⟨#[]⟩,.int .i64 0,.slice none 0 0,.int .i64 tp] 97)).alloc (.cells #[.int .u8 1,.string ⟨#[]⟩,.int .i64 0,.slice none 0 0,.int .i64 tp] 97)).putF (f:=(⟨1,⟨#[]⟩,0,[],tp⟩:Frm)) rfl hgrow4 hown4 hat4;have hB4:Below w.heap.size w w4:=((HB1.out.alloc hszW (.cells #[.int .u8 1,.string ⟨#[]⟩,.int .i64 0,.slice none 0 0,.int .i64 tp] 97)).alloc (by simp;omega) (.cells #[.int .u8 1,.string ⟨#[]⟩,.int .i64 0,.slice none 0 0,.int .i64 tp] 97)).grown hgrow4 (by simp;omega) (fun k e=>(HR1.out.fo.lt k e).1);have t4:w4.cell? ⟨wr.heap.size,0,none⟩=some (.int .u8 1):=hgrow4.cell (zcH _ (zcH _ t0)) (fun e=>Nat.lt_irrefl _ (HRF.out.fo.lt _ e.symm).2);have hT4:wr.heap.size<w4.heap.size:=by have:=hgrow4.size;simp at this;omega
       have hs4:=hB4.size;obtain ⟨fa4,fc4,hfv4⟩:=zaH hown4;subst hfv4;have H4:=hidI hR4;have HB4:=hidI hB4;obtain ⟨fg,fc5,hfv5,hfg1,hfg2⟩:=zdS hown4 (by omega);cases hfv5;have hx4:(fs++[((⟨1,⟨#[]⟩,0,[],tp⟩:Frm),Value.slice none 0 0)])[bb]?=some x:=by rw [List.getElem?_append_left hbl];exact hx
       obtain ⟨ka,kc,hkv⟩:=zaH (hR4.ko hx4);have hfo4:w4.ownsRow w.heap.size 97 5 (.slice (some ⟨fg,0,none⟩) (fs.length+1) fc4) (fs.length+1) (flatF (fs++[((⟨1,⟨#[]⟩,0,[],tp⟩:Frm),Value.slice none 0 0)])):=by have:=hR4.fo;rw [List.length_append] at this;exact this
       have hfgne:fg≠wr.heap.size:=by
        rcases hat4 with e|e
        ·have:=(HRF.out.fo.lt fg e.symm).2;omega
        ·have e2:fg=WA.heap.size+2:=by simpa [Value.ownBlock] using e
         omega
       have HFO4:=hidI hfo4;have ck:w4.cell? ⟨fg,bb*5+3,none⟩=some (.slice ka x.1.kids.length kc):=by rw [←hkv];exact zcW hfo4 (by rw [zcV _ bb 3 x hx4 (by omega)];rfl)
       have co:w4.cell? ⟨og,m,none⟩=some (.int .i64 (bb:Int)):=zcW hR4.oo (ints_get hom);have HE4:=hidI (zeS w4 w.heap.size hs4);have HV4:Hid (SeesC (w4.alloc (.cells #[] 3)) (.slice ka x.1.kids.length kc) x.1.kids.length 1 (ints x.1.kids)):=hidI (by have:=zbD ((hR4.ko hx4).alloc (.cells #[] 3));rwa [hkv] at this);have ck1:=zcH (.cells #[] 3) ck;refine hidI ?_;clear hown4 hgrow4 hat4 hR4 hB4 HOf HVf hfo4
       go_wp2_with (at_builtin;go_must (refine zaF Tryz.underlying25 Tryz.info3x rfl (by decide) (by decide) rfl _ _ rfl w.heap.size (.slice (some ⟨w4.heap.size,0,none⟩) 0 0) 0 [] rfl HE4.out _ x.1.kids.length (ints x.1.kids) rfl HV4.out (ints_one _) (by omega) (by simp;omega) ?_);intro v6 w6 hown6 hgrow6 hat6;refine Hid.out ?_)
       have hg6:=zeQ hgrow6;have hv6:∀ k,v6.ownBlock=some k→w4.heap.size≤k:=fun k hk=>by
        rcases hat6 with e|e
        ·rw [e] at hk;cases hk;exact Nat.le_refl _
        ·rw [e] at hk;cases hk;simp
       rw [Nat.zero_add,List.nil_append] at hown6;have HG6:=hidI hg6;have HV6:=hidI hv6;have ck6:=hg6.cell ck (by simp);have hs6:w.heap.size≤w6.heap.size:=Nat.le_trans hs4 hg6.size;obtain ⟨a6,c6,hv6e⟩:=zaH hown6;subst hv6e;have HO6:=hidI (hown6.alloc (.cells #[.int .i64 (fs.length:Int)] 3));have HVi:=hidI (int_at (W:=w6) (b:=w6.heap.size) (fs.length:Int) rfl);refine hidI ?_;clear hown6 hgrow6 hat6 hg6 hv6 HE4 HV4
       go_wp2_with (at_builtin;go_must (refine zaF Tryz.underlying25 Tryz.info3x rfl (by decide) (by decide) rfl _ _ rfl w.heap.size (.slice a6 x.1.kids.length c6) x.1.kids.length (ints x.1.kids) rfl HO6.out _ 1 [.int .i64 (fs.length:Int)] rfl HVi.out (by simp [Value.oneCell']) (by omega) (by simp;omega) ?_);intro kv' w7 hown7 hgrow7 hat7;refine Hid.out ?_)
       have hg7:=zeR HG6.out hgrow7 (fun k e=>HV6.out k e);have hk7:∀ k,kv'.ownBlock=some k→w4.heap.size≤k:=fun k hk=>by
        rcases hat7 with e|e
        ·rw [e] at hk;exact HV6.out k hk
        ·rw [e] at hk;cases hk;have:=HG6.out.size;simp;omega
       have hR5:=H4.out.newK (n:=fs.length) hx4 (by rw [List.length_append];rfl) hg7 hown7 hk7;have ck7:=hg7.cell ck (by simp);have cf7:w7.frozen? ⟨fg,bb*5+3,none⟩=false:=(World.frozen?_of_block (w:=w4) (a:=⟨fg,bb*5+3,none⟩) (hg7.block fg hfg2 (by simp))).trans (own_free HFO4.out _);have hB5:Below w.heap.size w (w7.setCell ⟨fg,bb*5+3,none⟩ kv'):=(HB4.out.grown hg7 hs4 (fun _ e=>by cases e)).setCell hfg1 _;have t5:(w7.setCell ⟨fg,bb*5+3,none⟩ kv').cell? ⟨wr.heap.size,0,none⟩=some (.int .u8 1):=(World.cell?_of_block (w:=w7) (Below.heap_setCell w7 ⟨fg,bb*5+3,none⟩ _ wr.heap.size (by simp;omega))).trans (hg7.cell t4 (by simp));obtain ⟨ka7,kc7,hkv7⟩:=zaH hown7;subst hkv7;have H5:=hidI hR5;have HB5:=hidI hB5;refine hidI ?_;clear hown7 hgrow7 hat7 hR5 hB5 HO6 HVi hg7 hk7 t4;have hadd:addF (formOf ⟨1,tt,tn,tp⟩) ⟨fs.map Prod.fst,top,opn⟩=⟨((fs++[((⟨1,⟨#[]⟩,0,[],tp⟩:Frm),Value.slice none 0 0)]).set bb (addKid fs.length x.1,.slice ka7 (x.1.kids.length+1) kc7)).map Prod.fst,top,opn⟩:=by
        rw [List.set_append_left _ _ hbl];exact addF_last (formOf ⟨1,tt,tn,tp⟩) hbb hx
       have HN2:=hidI HN.out;rw [if_pos (by first|trivial|rfl),hadd] at HN2;simp only [List.length_map] at HN2;have HGN:=hidI (zcF HN2.out);obtain ⟨W5,hW5⟩:∃ W5,(w7.setCell ⟨fg,bb*5+3,none⟩ (.slice ka7 (x.1.kids.length+1) kc7))=W5:=⟨_,rfl⟩;rw [hW5] at H5 HB5 t5;have hs5:=HB5.out.size;have HE5:=hidI (zeS W5 w.heap.size hs5);have HVo:Hid (SeesC (W5.alloc (.cells #[] 3)) (.slice (some ⟨og,0,none⟩) (m+1) oc) opn.length 1 (ints opn)):=hidI (by have:=zbD (H5.out.oo.alloc (.cells #[] 3));rwa [hm] at this ⊢)
       go_wp2_with (at_builtin;go_must (refine zaF Tryz.underlying25 Tryz.info3x rfl (by decide) (by decide) rfl _ _ rfl w.heap.size (.slice (some ⟨W5.heap.size,0,none⟩) 0 0) 0 [] rfl HE5.out _ opn.length (ints opn) rfl HVo.out (ints_one _) (by omega) (by simp;omega) ?_);intro v8 w8 hown8 hgrow8 hat8;refine Hid.out ?_)
       have hg8:=zeQ hgrow8;have hv8:∀ k,v8.ownBlock=some k→W5.heap.size≤k:=fun k hk=>by
        rcases hat8 with e|e
        ·rw [e] at hk;cases hk;exact Nat.le_refl _
        ·rw [e] at hk;cases hk;simp
       rw [Nat.zero_add,List.nil_append] at hown8;have HG8:=hidI hg8;have HV8:=hidI hv8;have hs8:w.heap.size≤w8.heap.size:=Nat.le_trans hs5 hg8.size;obtain ⟨a8,c8,hv8e⟩:=zaH hown8;subst hv8e;have HO8:=hidI (hown8.alloc (.cells #[.int .i64 (fs.length:Int)] 3));have HV9:=hidI (int_at (W:=w8) (b:=w8.heap.size) (fs.length:Int) rfl);refine hidI ?_;clear hown8 hgrow8 hat8 hg8 hv8 HE5 HVo
       go_wp2_with (at_builtin;go_must (refine zaF Tryz.underlying25 Tryz.info3x rfl (by decide) (by decide) rfl _ _ rfl w.heap.size (.slice a8 opn.length c8) opn.length (ints opn) rfl HO8.out _ 1 [.int .i64 (fs.length:Int)] rfl HV9.out (by simp [Value.oneCell']) (by omega) (by simp;omega) ?_);intro ov9 w9 hown9 hgrow9 hat9;refine Hid.out ?_)
       have hg9:=zeR HG8.out hgrow9 (fun k e=>HV8.out k e);have hR9:=H5.out.newO (ov':=ov9) (opn':=opn++[fs.length]) hg9 (by rw [zdH,List.length_append];exact hown9) (fun k hk=>by
        rcases hat9 with e|e
        ·rw [e] at hk;exact HV8.out k hk
        ·rw [e] at hk;cases hk;have:=HG8.out.size;simp;omega)
       have hB9:Below w.heap.size w w9:=HB5.out.grown hg9 hs5 (fun _ e=>by cases e);obtain ⟨oa9,oc9,rfl⟩:=zaH hown9;have H9:=hidI hR9;have HB9:=hidI hB9;refine hidI ?_;clear hown9 hgrow9 hat9 hR9 hB9 HO8 HV9 hg9;go_wp2;go_roundg g
       case measure=>omega
       case rel=>exact ⟨j+1,by omega,by go_num,hidI ⟨((fs++[((⟨1,⟨#[]⟩,0,[],tp⟩:Frm),Value.slice none 0 0)]).set bb (addKid fs.length x.1,.slice ka7 (x.1.kids.length+1) kc7)),top,opn++[fs.length],HN2.out,HGN.out,H9.out,HB9.out⟩⟩
     ·by_cases hn:opn=[]
      ·subst hn;have HN:=hidI (zcP HTI.out HST.out);rw [zeM (by simp) (by simpa using hsp)] at HN;have q12:decide (400≤(fs.length:Int))=false:=by simp;omega
       have q13:¬ ((400:Int)≤(fs.length:Int)):=by omega
       have hf400:fs.length<400:=by omega
       have HOf:=hidI (((HR1.out.alloc (.cells #[.int .u8 3,.string tt,.int .i64 0,.slice none 0 0,.int .i64 tp] 97)).alloc (.cells #[.int .u8 3,.string tt,.int .i64 0,.slice none 0 0,.int .i64 tp] 97)).fo);have HVf:=hidI (form_at (W:=WA.alloc (.cells #[.int .u8 3,.string tt,.int .i64 0,.slice none 0 0,.int .i64 tp] 97)) (b:=WA.heap.size+1) (⟨3,tt,0,[],tp⟩:Frm) (by simp))
       go_wp2_with (at_builtin;go_must (refine zaF Tryz.underlying56 Tryz.info97x rfl (by decide) (by decide) rfl _ _ rfl w.heap.size (.slice fa fs.length fc) fs.length (flatF fs) rfl HOf.out _ 1 (fcells ((⟨3,tt,0,[],tp⟩:Frm),.slice none 0 0)) rfl HVf.out (zdV _) (by omega) (by simp;omega) ?_);intro fv' w4 hown4 hgrow4 hat4;refine Hid.out ?_)
       have hR4:=((HR1.out.alloc (.cells #[.int .u8 3,.string tt,.int .i64 0,.slice none 0 0,.int .i64 tp] 97)).alloc (.cells #[.int .u8 3,.string tt,.int .i64 0,.slice none 0 0,.int .i64 tp] 97)).putF (f:=(⟨3,tt,0,[],tp⟩:Frm)) rfl hgrow4 hown4 hat4;have hB4:Below w.heap.size w w4:=((HB1.out.alloc hszW (.cells #[.int .u8 3,.string tt,.int .i64 0,.slice none 0 0,.int .i64 tp] 97)).alloc (by simp;omega) (.cells #[.int .u8 3,.string tt,.int .i64 0,.slice none 0 0,.int .i64 tp] 97)).grown hgrow4 (by simp;omega) (fun k e=>(HR1.out.fo.lt k e).1);have t4:w4.cell? ⟨wr.heap.size,0,none⟩=some (.int .u8 3):=hgrow4.cell (zcH _ (zcH _ t0)) (fun e=>Nat.lt_irrefl _ (HRF.out.fo.lt _ e.symm).2);have hT4:wr.heap.size<w4.heap.size:=by have:=hgrow4.size;simp at this;omega
       have hs4:=hB4.size;obtain ⟨fa4,fc4,hfv4⟩:=zaH hown4;subst hfv4;have H4:=hidI hR4;have HB4:=hidI hB4;have HOt:=hidI ((hR4.alloc (.cells #[.int .i64 (fs.length:Int)] 3)).to);have HVt:=hidI (int_at (W:=w4) (b:=w4.heap.size) (fs.length:Int) rfl);refine hidI ?_;clear hown4 hgrow4 hat4 hR4 hB4 HOf HVf
       go_wp2_with (at_builtin;go_must (refine zaF Tryz.underlying25 Tryz.info3x rfl (by decide) (by decide) rfl _ _ rfl w.heap.size (.slice ta top.length tc) top.length (ints top) rfl HOt.out _ 1 [.int .i64 (fs.length:Int)] rfl HVt.out (by simp [Value.oneCell']) (by omega) (by simp;omega) ?_);intro tv' w5 hown5 hgrow5 hat5;refine Hid.out ?_)
       have hR5:=(H4.out.alloc (.cells #[.int .i64 (fs.length:Int)] 3)).putT (tv':=tv') (top':=top++[fs.length]) hgrow5 (by rw [zdH,List.length_append];exact hown5) hat5;have hB5:Below w.heap.size w w5:=(HB4.out.alloc hs4 _).grown hgrow5 (by simp;omega) (fun k e=>(H4.out.to.lt k e).1);have t5:w5.cell? ⟨wr.heap.size,0,none⟩=some (.int .u8 3):=hgrow5.cell (zcH _ t4) (fun e=>Nat.lt_irrefl _ (HRF.out.to.lt _ e.symm).2);obtain ⟨ta5,tc5,htv5⟩:=zaH hown5;subst htv5;have H5:=hidI hR5;have HB5:=hidI hB5;refine hidI ?_;clear hown5 hgrow5 hat5 hR5 hB5 HOt HVt t4;have hadd:addF (formOf ⟨3,tt,tn,tp⟩) ⟨fs.map Prod.fst,top,[]⟩=⟨(fs++[((⟨3,tt,0,[],tp⟩:Frm),Value.slice none 0 0)]).map Prod.fst,top++[fs.length],[]⟩:=by simp [addF,formOf]
       have HN2:=hidI HN.out;rw [if_neg (by decide),hadd] at HN2;have HGN:=hidI (zcF HN2.out);go_wp2;go_roundg g
       case measure=>omega
       case rel=>exact ⟨j+1,by omega,by go_num,hidI ⟨(fs++[((⟨3,tt,0,[],tp⟩:Frm),Value.slice none 0 0)]),(top++[fs.length]),[],HN2.out,HGN.out,H5.out,HB5.out⟩⟩
      ·have HN:=hidI (zcP HTI.out HST.out);rw [zeM (by simp) (by simpa using hsp)] at HN;have q12:decide (400≤(fs.length:Int))=false:=by simp;omega
       have q13:¬ ((400:Int)≤(fs.length:Int)):=by omega
       have hf400:fs.length<400:=by omega
       have hol:0<opn.length:=List.length_pos_iff.2 hn;obtain ⟨og,oc',hov,_,_⟩:=zdS HR1.out.oo hol;cases hov;obtain ⟨m,hm⟩:∃ m,opn.length=m+1:=⟨opn.length-1,by omega⟩;obtain ⟨bb,hbb⟩:∃ bb,opn.getLast?=some bb:=by cases hq:opn.getLast? with|none=>exact absurd (List.getLast?_eq_none_iff.1 hq) hn|some bb=>exact ⟨bb,rfl⟩
       have hbl:bb<fs.length:=by have:=HG.out.open_lt bb (List.mem_of_getLast? hbb);simpa using this
       have hom:opn[m]?=some bb:=by rw [List.getLast?_eq_getElem?,hm] at hbb;exact hbb
       obtain ⟨x,hx⟩:∃ x,fs[bb]?=some x:=⟨fs[bb],List.getElem?_eq_getElem hbl⟩;have hkx:x.1.kids.length≤400:=by have:=HG.out.kid_len x.1 (List.mem_map.2 ⟨x,List.mem_of_getElem? hx,rfl⟩);simp at this;omega
       have hne0:(((m:Int)+1)==0)=false:=by rw [beq_eq_false_iff_ne];omega
       have wm:IntKind.i64.wrap (((m+1:Nat):Int)-1)=(m:Int):=by rw [show (((m+1:Nat):Int)-1)=(m:Int) by omega,IntKind.wrap_i64];omega
       have wm2:IntKind.i64.wrap ((m:Int)+1-1)=(m:Int):=by rw [show ((m:Int)+1-1)=(m:Int) by omega,IntKind.wrap_i64];omega
       have m1:(0:Int)≤(m:Int):=by omega
       have m2:(m:Int)<((m+1:Nat):Int):=by omega
       have m3:((m:Int)).toNat=m:=by omega
       have b1:(0:Int)≤(bb:Int):=by omega
       have b2:(bb:Int)<((fs.length+1:Nat):Int):=by omega
       have b3:((bb:Int)).toNat=bb:=by omega
       have HOf:=hidI (((HR1.out.alloc (.cells #[.int .u8 3,.string tt,.int .i64 0,.slice none 0 0,.int .i64 tp] 97)).alloc (.cells #[.int .u8 3,.string tt,.int .i64 0,.slice none 0 0,.int .i64 tp] 97)).fo);have HVf:=hidI (form_at (W:=WA.alloc (.cells #[.int .u8 3,.string tt,.int .i64 0,.slice none 0 0,.int .i64 tp] 97)) (b:=WA.heap.size+1) (⟨3,tt,0,[],tp⟩:Frm) (by simp));rw [hm]
       go_wp2_with (at_builtin;go_must (refine zaF Tryz.underlying56 Tryz.info97x rfl (by decide) (by decide) rfl _ _ rfl w.heap.size (.slice fa fs.length fc) fs.length (flatF fs) rfl HOf.out _ 1 (fcells ((⟨3,tt,0,[],tp⟩:Frm),.slice none 0 0)) rfl HVf.out (zdV _) (by omega) (by simp;omega) ?_);intro fv' w4 hown4 hgrow4 hat4;refine Hid.out ?_)
       have hR4:=((HR1.out.alloc (.cells #[.int .u8 3,.string tt,.int .i64 0,.slice none 0 0,.int .i64 tp] 97)).alloc (.cells #[.int .u8 3,.string tt,.int .i64 0,.slice none 0 0,.int .i64 tp] 97)).putF (f:=(⟨3,tt,0,[],tp⟩:Frm)) rfl hgrow4 hown4 hat4;have hB4:Below w.heap.size w w4:=((HB1.out.alloc hszW (.cells #[.int .u8 3,.string tt,.int .i64 0,.slice none 0 0,.int .i64 tp] 97)).alloc (by simp;omega) (.cells #[.int .u8 3,.string tt,.int .i64 0,.slice none 0 0,.int .i64 tp] 97)).grown hgrow4 (by simp;omega) (fun k e=>(HR1.out.fo.lt k e).1);have t4:w4.cell? ⟨wr.heap.size,0,none⟩=some (.int .u8 3):=hgrow4.cell (zcH _ (zcH _ t0)) (fun e=>Nat.lt_irrefl _ (HRF.out.fo.lt _ e.symm).2);have hT4:wr.heap.size<w4.heap.size:=by have:=hgrow4.size;simp at this;omega
       have hs4:=hB4.size;obtain ⟨fa4,fc4,hfv4⟩:=zaH hown4;subst hfv4;have H4:=hidI hR4;have HB4:=hidI hB4;obtain ⟨fg,fc5,hfv5,hfg1,hfg2⟩:=zdS hown4 (by omega);cases hfv5;have hx4:(fs++[((⟨3,tt,0,[],tp⟩:Frm),Value.slice none 0 0)])[bb]?=some x:=by rw [List.getElem?_append_left hbl];exact hx
       obtain ⟨ka,kc,hkv⟩:=zaH (hR4.ko hx4);have hfo4:w4.ownsRow w.heap.size 97 5 (.slice (some ⟨fg,0,none⟩) (fs.length+1) fc4) (fs.length+1) (flatF (fs++[((⟨3,tt,0,[],tp⟩:Frm),Value.slice none 0 0)])):=by have:=hR4.fo;rw [List.length_append] at this;exact this
       have hfgne:fg≠wr.heap.size:=by
        rcases hat4 with e|e
        ·have:=(HRF.out.fo.lt fg e.symm).2;omega
        ·have e2:fg=WA.heap.size+2:=by simpa [Value.ownBlock] using e
         omega
       have HFO4:=hidI hfo4;have ck:w4.cell? ⟨fg,bb*5+3,none⟩=some (.slice ka x.1.kids.length kc):=by rw [←hkv];exact zcW hfo4 (by rw [zcV _ bb 3 x hx4 (by omega)];rfl)
       have co:w4.cell? ⟨og,m,none⟩=some (.int .i64 (bb:Int)):=zcW hR4.oo (ints_get hom);have HE4:=hidI (zeS w4 w.heap.size hs4);have HV4:Hid (SeesC (w4.alloc (.cells #[] 3)) (.slice ka x.1.kids.length kc) x.1.kids.length 1 (ints x.1.kids)):=hidI (by have:=zbD ((hR4.ko hx4).alloc (.cells #[] 3));rwa [hkv] at this);have ck1:=zcH (.cells #[] 3) ck;refine hidI ?_;clear hown4 hgrow4 hat4 hR4 hB4 HOf HVf hfo4
       go_wp2_with (at_builtin;go_must (refine zaF Tryz.underlying25 Tryz.info3x rfl (by decide) (by decide) rfl _ _ rfl w.heap.size (.slice (some ⟨w4.heap.size,0,none⟩) 0 0) 0 [] rfl HE4.out _ x.1.kids.length (ints x.1.kids) rfl HV4.out (ints_one _) (by omega) (by simp;omega) ?_);intro v6 w6 hown6 hgrow6 hat6;refine Hid.out ?_)
       have hg6:=zeQ hgrow6;have hv6:∀ k,v6.ownBlock=some k→w4.heap.size≤k:=fun k hk=>by
        rcases hat6 with e|e
        ·rw [e] at hk;cases hk;exact Nat.le_refl _
        ·rw [e] at hk;cases hk;simp
       rw [Nat.zero_add,List.nil_append] at hown6;have HG6:=hidI hg6;have HV6:=hidI hv6;have ck6:=hg6.cell ck (by simp);have hs6:w.heap.size≤w6.heap.size:=Nat.le_trans hs4 hg6.size;obtain ⟨a6,c6,hv6e⟩:=zaH hown6;subst hv6e;have HO6:=hidI (hown6.alloc (.cells #[.int .i64 (fs.length:Int)] 3));have HVi:=hidI (int_at (W:=w6) (b:=w6.heap.size) (fs.length:Int) rfl);refine hidI ?_;clear hown6 hgrow6 hat6 hg6 hv6 HE4 HV4
       go_wp2_with (at_builtin;go_must (refine zaF Tryz.underlying25 Tryz.info3x rfl (by decide) (by decide) rfl _ _ rfl w.heap.size (.slice a6 x.1.kids.length c6) x.1.kids.length (ints x.1.kids) rfl HO6.out _ 1 [.int .i64 (fs.length:Int)] rfl HVi.out (by simp [Value.oneCell']) (by omega) (by simp;omega) ?_);intro kv' w7 hown7 hgrow7 hat7;refine Hid.out ?_)
       have hg7:=zeR HG6.out hgrow7 (fun k e=>HV6.out k e);have hk7:∀ k,kv'.ownBlock=some k→w4.heap.size≤k:=fun k hk=>by
        rcases hat7 with e|e
        ·rw [e] at hk;exact HV6.out k hk
        ·rw [e] at hk;cases hk;have:=HG6.out.size;simp;omega
       have hR5:=H4.out.newK (n:=fs.length) hx4 (by rw [List.length_append];rfl) hg7 hown7 hk7;have ck7:=hg7.cell ck (by simp);have cf7:w7.frozen? ⟨fg,bb*5+3,none⟩=false:=(World.frozen?_of_block (w:=w4) (a:=⟨fg,bb*5+3,none⟩) (hg7.block fg hfg2 (by simp))).trans (own_free HFO4.out _);have hB5:Below w.heap.size w (w7.setCell ⟨fg,bb*5+3,none⟩ kv'):=(HB4.out.grown hg7 hs4 (fun _ e=>by cases e)).setCell hfg1 _;have t5:(w7.setCell ⟨fg,bb*5+3,none⟩ kv').cell? ⟨wr.heap.size,0,none⟩=some (.int .u8 3):=(World.cell?_of_block (w:=w7) (Below.heap_setCell w7 ⟨fg,bb*5+3,none⟩ _ wr.heap.size (by simp;omega))).trans (hg7.cell t4 (by simp));obtain ⟨ka7,kc7,hkv7⟩:=zaH hown7;subst hkv7;have H5:=hidI hR5;have HB5:=hidI hB5;refine hidI ?_;clear hown7 hgrow7 hat7 hR5 hB5 HO6 HVi hg7 hk7 t4;have hadd:addF (formOf ⟨3,tt,tn,tp⟩) ⟨fs.map Prod.fst,top,opn⟩=⟨((fs++[((⟨3,tt,0,[],tp⟩:Frm),Value.slice none 0 0)]).set bb (addKid fs.length x.1,.slice ka7 (x.1.kids.length+1) kc7)).map Prod.fst,top,opn⟩:=by
        rw [List.set_append_left _ _ hbl];exact addF_last (formOf ⟨3,tt,tn,tp⟩) hbb hx
       have HN2:=hidI HN.out;rw [if_neg (by decide),hadd] at HN2;have HGN:=hidI (zcF HN2.out);go_wp2;go_roundg g
       case measure=>omega
       case rel=>exact ⟨j+1,by omega,by go_num,hidI ⟨((fs++[((⟨3,tt,0,[],tp⟩:Frm),Value.slice none 0 0)]).set bb (addKid fs.length x.1,.slice ka7 (x.1.kids.length+1) kc7)),top,opn,HN2.out,HGN.out,(by have h5:=H5.out;rwa [hm] at h5),HB5.out⟩⟩
     ·by_cases hn:opn=[]
      ·subst hn;have HN:=hidI (zcP HTI.out HST.out);rw [zeM (by simp) (by simpa using hsp)] at HN;have q12:decide (400≤(fs.length:Int))=false:=by simp;omega
       have q13:¬ ((400:Int)≤(fs.length:Int)):=by omega
       have hf400:fs.length<400:=by omega
       have HOf:=hidI (((HR1.out.alloc (.cells #[.int .u8 4,.string ⟨#[]⟩,.int .i64 tn,.slice none 0 0,.int .i64 tp] 97)).alloc (.cells #[.int .u8 4,.string ⟨#[]⟩,.int .i64 tn,.slice none 0 0,.int .i64 tp] 97)).fo);have HVf:=hidI (form_at (W:=WA.alloc (.cells #[.int .u8 4,.string ⟨#[]⟩,.int .i64 tn,.slice none 0 0,.int .i64 tp] 97)) (b:=WA.heap.size+1) (⟨4,⟨#[]⟩,tn,[],tp⟩:Frm) (by simp))
       go_wp2_with (at_builtin;go_must (refine zaF Tryz.underlying56 Tryz.info97x rfl (by decide) (by decide) rfl _ _ rfl w.heap.size (.slice fa fs.length fc) fs.length (flatF fs) rfl HOf.out _ 1 (fcells ((⟨4,⟨#[]⟩,tn,[],tp⟩:Frm),.slice none 0 0)) rfl HVf.out (zdV _) (by omega) (by simp;omega) ?_);intro fv' w4 hown4 hgrow4 hat4;refine Hid.out ?_)
       have hR4:=((HR1.out.alloc (.cells #[.int .u8 4,.string ⟨#[]⟩,.int .i64 tn,.slice none 0 0,.int .i64 tp] 97)).alloc (.cells #[.int .u8 4,.string ⟨#[]⟩,.int .i64 tn,.slice none 0 0,.int .i64 tp] 97)).putF (f:=(⟨4,⟨#[]⟩,tn,[],tp⟩:Frm)) rfl hgrow4 hown4 hat4;have hB4:Below w.heap.size w w4:=((HB1.out.alloc hszW (.cells #[.int .u8 4,.string ⟨#[]⟩,.int .i64 tn,.slice none 0 0,.int .i64 tp] 97)).alloc (by simp;omega) (.cells #[.int .u8 4,.string ⟨#[]⟩,.int .i64 tn,.slice none 0 0,.int .i64 tp] 97)).grown hgrow4 (by simp;omega) (fun k e=>(HR1.out.fo.lt k e).1);have t4:w4.cell? ⟨wr.heap.size,0,none⟩=some (.int .u8 4):=hgrow4.cell (zcH _ (zcH _ t0)) (fun e=>Nat.lt_irrefl _ (HRF.out.fo.lt _ e.symm).2);have hT4:wr.heap.size<w4.heap.size:=by have:=hgrow4.size;simp at this;omega
       have hs4:=hB4.size;obtain ⟨fa4,fc4,hfv4⟩:=zaH hown4;subst hfv4;have H4:=hidI hR4;have HB4:=hidI hB4;have HOt:=hidI ((hR4.alloc (.cells #[.int .i64 (fs.length:Int)] 3)).to);have HVt:=hidI (int_at (W:=w4) (b:=w4.heap.size) (fs.length:Int) rfl);refine hidI ?_;clear hown4 hgrow4 hat4 hR4 hB4 HOf HVf
       go_wp2_with (at_builtin;go_must (refine zaF Tryz.underlying25 Tryz.info3x rfl (by decide) (by decide) rfl _ _ rfl w.heap.size (.slice ta top.length tc) top.length (ints top) rfl HOt.out _ 1 [.int .i64 (fs.length:Int)] rfl HVt.out (by simp [Value.oneCell']) (by omega) (by simp;omega) ?_);intro tv' w5 hown5 hgrow5 hat5;refine Hid.out ?_)
       have hR5:=(H4.out.alloc (.cells #[.int .i64 (fs.length:Int)] 3)).putT (tv':=tv') (top':=top++[fs.length]) hgrow5 (by rw [zdH,List.length_append];exact hown5) hat5;have hB5:Below w.heap.size w w5:=(HB4.out.alloc hs4 _).grown hgrow5 (by simp;omega) (fun k e=>(H4.out.to.lt k e).1);have t5:w5.cell? ⟨wr.heap.size,0,none⟩=some (.int .u8 4):=hgrow5.cell (zcH _ t4) (fun e=>Nat.lt_irrefl _ (HRF.out.to.lt _ e.symm).2);obtain ⟨ta5,tc5,htv5⟩:=zaH hown5;subst htv5;have H5:=hidI hR5;have HB5:=hidI hB5;refine hidI ?_;clear hown5 hgrow5 hat5 hR5 hB5 HOt HVt t4;have hadd:addF (formOf ⟨4,tt,tn,tp⟩) ⟨fs.map Prod.fst,top,[]⟩=⟨(fs++[((⟨4,⟨#[]⟩,tn,[],tp⟩:Frm),Value.slice none 0 0)]).map Prod.fst,top++[fs.length],[]⟩:=by simp [addF,formOf,emptyS]
       have HN2:=hidI HN.out;rw [if_neg (by decide),hadd] at HN2;have HGN:=hidI (zcF HN2.out);go_wp2;go_roundg g
       case measure=>omega
       case rel=>exact ⟨j+1,by omega,by go_num,hidI ⟨(fs++[((⟨4,⟨#[]⟩,tn,[],tp⟩:Frm),Value.slice none 0 0)]),(top++[fs.length]),[],HN2.out,HGN.out,H5.out,HB5.out⟩⟩
      ·have HN:=hidI (zcP HTI.out HST.out);rw [zeM (by simp) (by simpa using hsp)] at HN;have q12:decide (400≤(fs.length:Int))=false:=by simp;omega
       have q13:¬ ((400:Int)≤(fs.length:Int)):=by omega
       have hf400:fs.length<400:=by omega
       have hol:0<opn.length:=List.length_pos_iff.2 hn;obtain ⟨og,oc',hov,_,_⟩:=zdS HR1.out.oo hol;cases hov;obtain ⟨m,hm⟩:∃ m,opn.length=m+1:=⟨opn.length-1,by omega⟩;obtain ⟨bb,hbb⟩:∃ bb,opn.getLast?=some bb:=by cases hq:opn.getLast? with|none=>exact absurd (List.getLast?_eq_none_iff.1 hq) hn|some bb=>exact ⟨bb,rfl⟩
       have hbl:bb<fs.length:=by have:=HG.out.open_lt bb (List.mem_of_getLast? hbb);simpa using this
       have hom:opn[m]?=some bb:=by rw [List.getLast?_eq_getElem?,hm] at hbb;exact hbb
       obtain ⟨x,hx⟩:∃ x,fs[bb]?=some x:=⟨fs[bb],List.getElem?_eq_getElem hbl⟩;have hkx:x.1.kids.length≤400:=by have:=HG.out.kid_len x.1 (List.mem_map.2 ⟨x,List.mem_of_getElem? hx,rfl⟩);simp at this;omega
       have hne0:(((m:Int)+1)==0)=false:=by rw [beq_eq_false_iff_ne];omega
       have wm:IntKind.i64.wrap (((m+1:Nat):Int)-1)=(m:Int):=by rw [show (((m+1:Nat):Int)-1)=(m:Int) by omega,IntKind.wrap_i64];omega
       have wm2:IntKind.i64.wrap ((m:Int)+1-1)=(m:Int):=by rw [show ((m:Int)+1-1)=(m:Int) by omega,IntKind.wrap_i64];omega
       have m1:(0:Int)≤(m:Int):=by omega
       have m2:(m:Int)<((m+1:Nat):Int):=by omega
       have m3:((m:Int)).toNat=m:=by omega
       have b1:(0:Int)≤(bb:Int):=by omega
       have b2:(bb:Int)<((fs.length+1:Nat):Int):=by omega
       have b3:((bb:Int)).toNat=bb:=by omega
       have HOf:=hidI (((HR1.out.alloc (.cells #[.int .u8 4,.string ⟨#[]⟩,.int .i64 tn,.slice none 0 0,.int .i64 tp] 97)).alloc (.cells #[.int .u8 4,.string ⟨#[]⟩,.int .i64 tn,.slice none 0 0,.int .i64 tp] 97)).fo);have HVf:=hidI (form_at (W:=WA.alloc (.cells #[.int .u8 4,.string ⟨#[]⟩,.int .i64 tn,.slice none 0 0,.int .i64 tp] 97)) (b:=WA.heap.size+1) (⟨4,⟨#[]⟩,tn,[],tp⟩:Frm) (by simp));rw [hm]
       go_wp2_with (at_builtin;go_must (refine zaF Tryz.underlying56 Tryz.info97x rfl (by decide) (by decide) rfl _ _ rfl w.heap.size (.slice fa fs.length fc) fs.length (flatF fs) rfl HOf.out _ 1 (fcells ((⟨4,⟨#[]⟩,tn,[],tp⟩:Frm),.slice none 0 0)) rfl HVf.out (zdV _) (by omega) (by simp;omega) ?_);intro fv' w4 hown4 hgrow4 hat4;refine Hid.out ?_)
       have hR4:=((HR1.out.alloc (.cells #[.int .u8 4,.string ⟨#[]⟩,.int .i64 tn,.slice none 0 0,.int .i64 tp] 97)).alloc (.cells #[.int .u8 4,.string ⟨#[]⟩,.int .i64 tn,.slice none 0 0,.int .i64 tp] 97)).putF (f:=(⟨4,⟨#[]⟩,tn,[],tp⟩:Frm)) rfl hgrow4 hown4 hat4;have hB4:Below w.heap.size w w4:=((HB1.out.alloc hszW (.cells #[.int .u8 4,.string ⟨#[]⟩,.int .i64 tn,.slice none 0 0,.int .i64 tp] 97)).alloc (by simp;omega) (.cells #[.int .u8 4,.string ⟨#[]⟩,.int .i64 tn,.slice none 0 0,.int .i64 tp] 97)).grown hgrow4 (by simp;omega) (fun k e=>(HR1.out.fo.lt k e).1);have t4:w4.cell? ⟨wr.heap.size,0,none⟩=some (.int .u8 4):=hgrow4.cell (zcH _ (zcH _ t0)) (fun e=>Nat.lt_irrefl _ (HRF.out.fo.lt _ e.symm).2);have hT4:wr.heap.size<w4.heap.size:=by have:=hgrow4.size;simp at this;omega
       have hs4:=hB4.size;obtain ⟨fa4,fc4,hfv4⟩:=zaH hown4;subst hfv4;have H4:=hidI hR4;have HB4:=hidI hB4;obtain ⟨fg,fc5,hfv5,hfg1,hfg2⟩:=zdS hown4 (by omega);cases hfv5;have hx4:(fs++[((⟨4,⟨#[]⟩,tn,[],tp⟩:Frm),Value.slice none 0 0)])[bb]?=some x:=by rw [List.getElem?_append_left hbl];exact hx
       obtain ⟨ka,kc,hkv⟩:=zaH (hR4.ko hx4);have hfo4:w4.ownsRow w.heap.size 97 5 (.slice (some ⟨fg,0,none⟩) (fs.length+1) fc4) (fs.length+1) (flatF (fs++[((⟨4,⟨#[]⟩,tn,[],tp⟩:Frm),Value.slice none 0 0)])):=by have:=hR4.fo;rw [List.length_append] at this;exact this
       have hfgne:fg≠wr.heap.size:=by
        rcases hat4 with e|e
        ·have:=(HRF.out.fo.lt fg e.symm).2;omega
        ·have e2:fg=WA.heap.size+2:=by simpa [Value.ownBlock] using e
         omega
       have HFO4:=hidI hfo4;have ck:w4.cell? ⟨fg,bb*5+3,none⟩=some (.slice ka x.1.kids.length kc):=by rw [←hkv];exact zcW hfo4 (by rw [zcV _ bb 3 x hx4 (by omega)];rfl)
       have co:w4.cell? ⟨og,m,none⟩=some (.int .i64 (bb:Int)):=zcW hR4.oo (ints_get hom);have HE4:=hidI (zeS w4 w.heap.size hs4);have HV4:Hid (SeesC (w4.alloc (.cells #[] 3)) (.slice ka x.1.kids.length kc) x.1.kids.length 1 (ints x.1.kids)):=hidI (by have:=zbD ((hR4.ko hx4).alloc (.cells #[] 3));rwa [hkv] at this);have ck1:=zcH (.cells #[] 3) ck;refine hidI ?_;clear hown4 hgrow4 hat4 hR4 hB4 HOf HVf hfo4
       go_wp2_with (at_builtin;go_must (refine zaF Tryz.underlying25 Tryz.info3x rfl (by decide) (by decide) rfl _ _ rfl w.heap.size (.slice (some ⟨w4.heap.size,0,none⟩) 0 0) 0 [] rfl HE4.out _ x.1.kids.length (ints x.1.kids) rfl HV4.out (ints_one _) (by omega) (by simp;omega) ?_);intro v6 w6 hown6 hgrow6 hat6;refine Hid.out ?_)
       have hg6:=zeQ hgrow6;have hv6:∀ k,v6.ownBlock=some k→w4.heap.size≤k:=fun k hk=>by
        rcases hat6 with e|e
        ·rw [e] at hk;cases hk;exact Nat.le_refl _
        ·rw [e] at hk;cases hk;simp
       rw [Nat.zero_add,List.nil_append] at hown6;have HG6:=hidI hg6;have HV6:=hidI hv6;have ck6:=hg6.cell ck (by simp);have hs6:w.heap.size≤w6.heap.size:=Nat.le_trans hs4 hg6.size;obtain ⟨a6,c6,hv6e⟩:=zaH hown6;subst hv6e;have HO6:=hidI (hown6.alloc (.cells #[.int .i64 (fs.length:Int)] 3));have HVi:=hidI (int_at (W:=w6) (b:=w6.heap.size) (fs.length:Int) rfl);refine hidI ?_;clear hown6 hgrow6 hat6 hg6 hv6 HE4 HV4
       go_wp2_with (at_builtin;go_must (refine zaF Tryz.underlying25 Tryz.info3x rfl (by decide) (by decide) rfl _ _ rfl w.heap.size (.slice a6 x.1.kids.length c6) x.1.kids.length (ints x.1.kids) rfl HO6.out _ 1 [.int .i64 (fs.length:Int)] rfl HVi.out (by simp [Value.oneCell']) (by omega) (by simp;omega) ?_);intro kv' w7 hown7 hgrow7 hat7;refine Hid.out ?_)
       have hg7:=zeR HG6.out hgrow7 (fun k e=>HV6.out k e);have hk7:∀ k,kv'.ownBlock=some k→w4.heap.size≤k:=fun k hk=>by
        rcases hat7 with e|e
        ·rw [e] at hk;exact HV6.out k hk
        ·rw [e] at hk;cases hk;have:=HG6.out.size;simp;omega
       have hR5:=H4.out.newK (n:=fs.length) hx4 (by rw [List.length_append];rfl) hg7 hown7 hk7;have ck7:=hg7.cell ck (by simp);have cf7:w7.frozen? ⟨fg,bb*5+3,none⟩=false:=(World.frozen?_of_block (w:=w4) (a:=⟨fg,bb*5+3,none⟩) (hg7.block fg hfg2 (by simp))).trans (own_free HFO4.out _);have hB5:Below w.heap.size w (w7.setCell ⟨fg,bb*5+3,none⟩ kv'):=(HB4.out.grown hg7 hs4 (fun _ e=>by cases e)).setCell hfg1 _;have t5:(w7.setCell ⟨fg,bb*5+3,none⟩ kv').cell? ⟨wr.heap.size,0,none⟩=some (.int .u8 4):=(World.cell?_of_block (w:=w7) (Below.heap_setCell w7 ⟨fg,bb*5+3,none⟩ _ wr.heap.size (by simp;omega))).trans (hg7.cell t4 (by simp));obtain ⟨ka7,kc7,hkv7⟩:=zaH hown7;subst hkv7;have H5:=hidI hR5;have HB5:=hidI hB5;refine hidI ?_;clear hown7 hgrow7 hat7 hR5 hB5 HO6 HVi hg7 hk7 t4;have hadd:addF (formOf ⟨4,tt,tn,tp⟩) ⟨fs.map Prod.fst,top,opn⟩=⟨((fs++[((⟨4,⟨#[]⟩,tn,[],tp⟩:Frm),Value.slice none 0 0)]).set bb (addKid fs.length x.1,.slice ka7 (x.1.kids.length+1) kc7)).map Prod.fst,top,opn⟩:=by
        rw [List.set_append_left _ _ hbl];exact addF_last (formOf ⟨4,tt,tn,tp⟩) hbb hx
       have HN2:=hidI HN.out;rw [if_neg (by decide),hadd] at HN2;have HGN:=hidI (zcF HN2.out);go_wp2;go_roundg g
       case measure=>omega
       case rel=>exact ⟨j+1,by omega,by go_num,hidI ⟨((fs++[((⟨4,⟨#[]⟩,tn,[],tp⟩:Frm),Value.slice none 0 0)]).set bb (addKid fs.length x.1,.slice ka7 (x.1.kids.length+1) kc7)),top,opn,HN2.out,HGN.out,(by have h5:=H5.out;rwa [hm] at h5),HB5.out⟩⟩
   ·have n1:¬ tk=1:=fun e=>hkk (.inl e)
    have n3:¬ tk=3:=fun e=>hkk (.inr (.inl e))
    have n4:¬ tk=4:=fun e=>hkk (.inr (.inr e))
    have q1:(tk==1)=false:=by simp [n1]
    have q2:(tk==2)=false:=by simp [h2]
    have q3:(tk==3)=false:=by simp [n3]
    have q4:(tk==4)=false:=by simp [n4]
    have r1:(tk != 1)=true:=by simp [n1]
    have r3:(tk != 3)=true:=by simp [n3]
    have r4:(tk != 4)=true:=by simp [n4]
    clear hkk;have HN:=hidI (zcP HTI.out HST.out);have hstp:step ⟨fs.map Prod.fst,top,opn⟩ ⟨tk,tt,tn,tp⟩=.ok ⟨fs.map Prod.fst,top,opn⟩:=by simp [step,n1,h2,n3,n4]
    rw [hstp] at HN;clear hstp;go_wp2;go_roundg g
    case measure=>omega
    case rel=>exact ⟨j+1,by omega,by go_num,hidI ⟨fs,top,opn,HN.out,HG.out,HR1.out,HB1.out⟩⟩
end Go.Proofs.YtfljimpgnlfipaaGreatDoor
