import Derived.Deep.CutRange
import Derived.Test.YtiogibfhafoapaaGreatAbZ
import Derived.Test.YtiogibfhafoapaaGreatGdC
import Derived.Test.YtiogibfhafoapaaGreatCfB
import Derived.Test.YtiogibfhafoapaaGreatFsB
import Derived.Test.YtiogibfhafoapaaGreatBhB
import Derived.Test.YtiogibfhafoapaaGreatWkF
set_option maxRecDepth 100000
set_option maxHeartbeats 8000000
set_option linter.unusedSimpArgs false
set_option linter.unusedVariables false
namespace Go.Proofs.YtiogibfhafoapaaGreat
open Go.RowKit Go.Sort
open Z (Sli SlOk SlOwn Elt Acd AcdOk AcOwn Ctr ctc CtrB PrcB CfgMade)
theorem guards_all (w:World) (d:Scd) (hctr:SlOk w 3 tric d.p.ctr) (hprc:SlOk w 1 (fun n:Int=>[Value.int .i64 n]) d.p.prc) (hst:SlOk w 20 Stp.list d.st) (hact:∀o∈d.st.xs,AcdOk w o.ac) :
  Calls Tryz.prog 7 #[.agg d.arr] w fun e w'=>e=.returned (.bool true)∧Below w.heap.size w w':=by
 obtain⟨P,hP⟩:∃P:Array Value,d.arr=P:=⟨_,rfl⟩;rw[hP];obtain⟨w0,hw0⟩:∃W,w.alloc (.cells P 28)=W:=⟨_,rfl⟩;have hb0:Below w.heap.size w w0:=by rw[←hw0];exact(Below.refl _ w).alloc (Nat.le_refl _) _
 have hbox:w0.heap[w.heap.size]?=some (.cells P 28 (0,0)):=by rw[←hw0];exact heap_alloc_new _ _
 have HPc:Hid (∀W:World,W.heap[w.heap.size]?=some (.cells P 28 (0,0))→W.cell? ⟨w.heap.size,9,none⟩=some (.slice d.st.p d.st.n d.st.c)):=fun W h=>by
  rw[cell_of_row _ _ _ _ _ _ h,←hP];rfl
 obtain⟨PC,hPC⟩:∃X,d.p.arr=X:=⟨_,rfl⟩
 have HLc:Hid ((Instr.loadAt 25 (.pointer (some ⟨w.heap.size,0,none⟩))).run Tryz.prog w0=.ok (.agg PC) w0):=by
  show _=_
  have h:=run_loadAt_mid (P:=Tryz.prog) w0 w.heap.size 0 25 d.p.arr.toList _ (fun j v hv=>by
   rw[cell_of_row _ _ _ _ _ _ hbox,←hP];have hj:=(List.getElem?_eq_some_iff.1 hv).1;rw[←Array.getElem?_toList];show (d.p.arr.toList++[Value.slice d.st.p d.st.n d.st.c])[0+j]?=_;rw[Nat.zero_add,List.getElem?_append_left hj];exact hv) Tryz.underlying25 rfl (by kernel_rfl)
  rw[←hPC];simpa using h
 have HCf:=hide (Z.config_any w0 d.p (⟨hctr.len,hctr.most,hctr.cel.below hb0⟩:SlOk w0 3 tric d.p.ctr) (⟨hprc.len,hprc.most,hprc.cel.below hb0⟩:SlOk w0 1 (fun n:Int=>[Value.int .i64 n]) d.p.prc) PC hPC);have HSt:=hide hst;have HAc:=hide hact;have hstl:d.st.n≤4194304:=hst.most;have hstx:d.st.xs.length=d.st.n:=hst.len;have HW0:=hide hw0;have HB0:=hide hb0;have HBx:=hide hbox;clear hw0 hb0 hbox hP hPC hctr hprc hst hact;go_enter Tryz.func7,Tryz.ntmps7;go_upto_region 1 with (fail);rw[HW0.out]
 go_upto_region 2 with (
   first
   | ((with_reducible show wpList _ _ _ (⟨_,.load 25 (.tmp 18),_,_,_,_⟩ :: _) _ _);refine Z.lp_load w.heap.size 0 PC rfl HLc.out ?_)
   | (go_at_call 10;refine HCf.out.mono ?_;rintro e w1 ⟨c,rfl,hc1,hc2,hc3,hcm,hb1⟩;have HB1:=hide hb1;have Hc1:=hide hc1;have Hc2:=hide hc2;have HCm:=hide hcm;obtain⟨D,hD⟩:∃D,c.arr=D:=⟨_,rfl⟩;have HDs:Hid (D.size=9):=(by show _=_;rw[←hD];rfl);have HDo:Hid (D.all (·.oneCell')=true):=(by show _=_;rw[←hD];exact Z.cfg_ones c);rw[show c.v=Value.agg D from by rw[←hD];rfl];have HD:=hide hD;clear hc1 hc2 hc3 hcm hb1 hD)
   | ((with_reducible show wpList _ _ _ (⟨_,.store 34 (.tmp 3) _,_,_,_,_⟩ :: _) _ _);refine Z.lp_store (t:=34) (x:=.tmp 3) (some ⟨w1.heap.size,0,none⟩) (.agg D) rfl rfl (run_storeAt_new w1 _ _ D (by rw[HDs.out];exact Tryz.sizeC) (by rw[HDs.out];rfl) HDo.out) ?_)
   | fail)
 try dsimp only[Act.put]
 have hk2:=heap_alloc_new w1 (.cells D 34);have hb2:Below w1.heap.size w1 (w1.alloc (.cells D 34)):=(Below.refl _ _).alloc (Nat.le_refl _) _;obtain⟨w2,hw2⟩:∃W,w1.alloc (.cells D 34)=W:=⟨_,rfl⟩;rw[hw2]at hk2 hb2 ⊢;obtain⟨cb,hcb⟩:∃k,w1.heap.size=k:=⟨_,rfl⟩;rw[hcb]at hk2 ⊢;have HKb:=hide hk2;have HB12:=hide hb2;clear hw2 hk2 hb2 HLc HCf;obtain⟨ht1,hpl,⟨cs,cs1,cs2,cs3⟩,⟨ps,ps1,ps2,ps3⟩⟩:=HCm.out;have ht2:=Int.emod_nonneg d.p.tills (show (8:Int)≠0 by omega);have ht3:=Int.emod_lt_of_pos d.p.tills (show (0:Int)<8 by omega);obtain⟨T,hT⟩:∃T:Nat,c.tills=(T:Int):=⟨c.tills.toNat,by omega⟩;have HCfg:Hid (CfgOk w1 c cs):=⟨cs1,cs2,by have:=Hc2.out;omega,by omega,by omega,cs3⟩;have HFi:Hid (Calls Tryz.prog 11 #[.agg c.arr] w2 fun e w'=>∃S:Sta,e=.returned (.agg S.arr)∧S.d=firD T c.cl c.pl T cs ps∧StaOw w2.heap.size w' S∧Below w2.heap.size w2 w'):=rfirst_any w2 c cs ps Hc2.out hpl T hT (by omega) cs1 (cs2.below HB12.out) cs3 ps1 (ps2.below HB12.out);rw[HD.out]at HFi;have HLd:=hide (Z.loadAt_row (P:=Tryz.prog) (ty:=34) HKb.out Tryz.underlying34 rfl (by rw[HDs.out];exact Tryz.sizeC));have H1t:Hid (1≤c.tills):=by show _≤_;omega
 have HTl:Hid (c.tills=(T:Int)):=hT;have HPs:=hide ps1;have HCs:=hide (And.intro cs1 cs3);clear ht1 hpl ht2 ht3 cs1 cs2 cs3 ps1 ps2 ps3 hT HCm
 go_upto_region 3 with (
   first
   | ((with_reducible show wpList _ _ _ (⟨_,.load 34 (.tmp 3),_,_,_,_⟩ :: _) _ _);refine Z.lp_load cb 0 D rfl HLd.out ?_)
   | (go_at_call 11;refine HFi.out.mono ?_;rintro e w3 ⟨S0,rfl,hsd,hso,hb3⟩;have HSd:=hide hsd;have HSo:=hide hso;have HB3:=hide hb3;obtain⟨SA,hSA⟩:∃X,S0.arr=X:=⟨_,rfl⟩;have HSA:=hide hSA;have HSz:Hid (SA.size=6):=(by show _=_;rw[←hSA];rfl);have HSn:Hid (SA.all (·.oneCell')=true):=(by show _=_;rw[←hSA];simp[Sta.arr,Value.oneCell']);rw[hSA];clear hsd hso hb3 hSA)
   | ((with_reducible show wpList _ _ _ (⟨_,.store 42 (.tmp 4) _,_,_,_,_⟩ :: _) _ _);refine Z.lp_store (t:=42) (x:=.tmp 4) (some ⟨w3.heap.size,0,none⟩) (.agg SA) rfl rfl (run_storeAt_new w3 _ qs SA (by rw[HSz.out];exact Tryz.sizeS) (by rw[HSz.out];rfl) HSn.out) ?_)
   | fail)
 try dsimp only[Act.put]
 have hk4:=heap_alloc_new w3 (.cells SA 42);have hb4:Below w3.heap.size w3 (w3.alloc (.cells SA 42)):=(Below.refl _ _).alloc (Nat.le_refl _) _;obtain⟨w4,hw4⟩:∃W,w3.alloc (.cells SA 42)=W:=⟨_,rfl⟩;rw[hw4]at hk4 hb4 ⊢;obtain⟨sb,hsb⟩:∃k,w3.heap.size=k:=⟨_,rfl⟩;have hlt:w1.heap.size≤sb:=by rw[←hsb];have h1:=HB12.out.size;have h2:=HB3.out.size;omega
 rw[hsb]at hk4 ⊢;have HB14:Below w1.heap.size w1 w4:=HB12.out.trans ((HB3.out.trans (hb4.mono HB3.out.size)).mono HB12.out.size);have HB24:Below w2.heap.size w2 w4:=HB3.out.trans (hb4.mono HB3.out.size);have HB04:Below w0.heap.size w0 w4:=HB1.out.trans (HB14.mono HB1.out.size);have HI0:Hid (Gs w w4 P D cb sb c cs S0):=⟨(HB04.block _ (ac_lt HBx.out)).trans HBx.out,(HB24.block _ (ac_lt HKb.out)).trans HKb.out,by rw[HSA.out];exact hk4,⟨w1,HCfg.out,HB14,hlt⟩,⟨(HSo.out.below hb4).ok,fir_shp HSo.out HSd.out HCs.out.1 HPs.out HTl.out,fir_frw HSd.out HCs.out.2⟩,⟨_,HSo.out.below hb4⟩,by have h1:=HB0.out.size;have h2:=HB1.out.size;omega,HB0.out.trans (HB04.mono HB0.out.size)⟩;clear hw4 hsb hk4 hb4 hlt HB14 HB24 HB04 HFi HLd HB3 HSo HSd HKb HB12 HB1 HBx HSA HSz HSn HCs HPs HCfg;go_wp2;go_loopw [5] (fun iv wr=>∃(i:Nat) (s:Sta),i≤d.st.n∧iv=.int .i64 i∧Hid (Gs w wr P D cb sb c cs s)) (fun iv _=>d.st.n - (intOf iv).toNat);case atStart=>exact⟨0,S0,Nat.zero_le _,rfl,HI0⟩
 case round =>
  clear HI0 S0;obtain⟨i,s,hi,rfl,HI⟩:=hrel;have p9:=HPc.out wr HI.out.lb;obtain⟨B,hB⟩:∃B:Bool,B=(decide (i<d.st.n) && decide (i<300)):=⟨_,rfl⟩;go_upto_region 4 with (fail);go_cut [31] from 1 to 0 (fun sv wc=>sv=.bool B∧Hid (wc=wr))
  case first =>
   by_cases h1:i<d.st.n
   ·have h1i:(i:Int)<(d.st.n:Int):=by omega
    by_cases h2:i<300
    ·have h2i:(i:Int)<300:=by omega
     have hBt:B=true:=by rw[hB];simp[h1,h2]
     clear hB;go_wp2;go_meet;case rel=>exact⟨by rw[hBt],rfl⟩
    ·have h2i:¬(i:Int)<300:=by omega
     have hBt:B=false:=by rw[hB];simp[h2]
     clear hB;go_wp2;go_meet;case rel=>exact⟨by rw[hBt],rfl⟩
   ·have h1i:¬(i:Int)<(d.st.n:Int):=by omega
    have hBt:B=false:=by rw[hB];simp[h1]
    clear hB;go_wp2;go_meet;case rel=>exact⟨by rw[hBt],rfl⟩
  case rest =>
   obtain⟨rfl,hwc⟩:=hcut;rw[show wc=wr from hwc.out];clear hwc wc;by_cases hgo:i<d.st.n∧i<300
   ·obtain⟨h1,h2⟩:=hgo
    have hBt:B=true:=by rw[hB];simp[h1,h2]
    subst hBt;clear hB;have h1i:(i:Int)<(d.st.n:Int):=by omega
    have i0:(0:Int)≤(i:Int):=by omega
    obtain⟨x,hx⟩:∃x,d.st.xs[i]?=some x:=⟨_,List.getElem?_eq_getElem (by omega)⟩;obtain⟨gb,go,eg,hgb,hgc⟩:=HSt.out.cel.get (i:=i) (r:=Stp.list x) (by rw[List.getElem?_map,hx];rfl);obtain⟨O,hO⟩:∃O,x.arr=O:=⟨_,rfl⟩;have HOz:Hid (O.size=20):=by show _=_;rw[←hO];rfl
    have HOn:Hid (O.all (·.oneCell')=true):=by show _=_;rw[←hO];simp[Stp.arr,Value.oneCell']
    have HLo:Hid ((Instr.loadAt 57 (.pointer (some ⟨gb,go+i*20,none⟩))).run Tryz.prog wr=.ok (.agg O) wr):=by
     have h:=run_loadAt_mid (P:=Tryz.prog) wr gb (go+i*20) 57 x.list _ (fun j v hv=>(HI.out.bel.cell (p:=⟨gb,go+i*20+j,none⟩) hgb).trans (hgc j v hv)) Tryz.underlying57 rfl (by kernel_rfl);show _=_;rw[←hO];exact h
    rw[eg]at p9;have HOe:=hide hO;have HXk:=hide ((HAc.out x (List.mem_of_getElem? hx)).below HI.out.bel);clear hx eg hgb hgc hO
    go_upto_region 7 with (
      first
      | ((with_reducible show wpList _ _ _ (⟨_,.load 57 (.tmp 37),_,_,_,_⟩ :: _) _ _);refine Z.lp_load gb (go+i*20) O rfl HLo.out ?_)
      | ((with_reducible show wpList _ _ _ (⟨_,.store 57 (.tmp 6) _,_,_,_,_⟩ :: _) _ _);refine Z.lp_store (t:=57) (x:=.tmp 6) (some ⟨wr.heap.size,0,none⟩) (.agg O) rfl rfl (run_storeAt_new wr _ _ O (by rw[HOz.out];exact Tryz.sizeO) (by rw[HOz.out];rfl) HOn.out) ?_)
      | fail)
    try dsimp only[Act.put]
    have ho5:=heap_alloc_new wr (.cells O 57);have hb5:Below wr.heap.size wr (wr.alloc (.cells O 57)):=(Below.refl _ _).alloc (Nat.le_refl _) _;obtain⟨w5,hw5⟩:∃W,wr.alloc (.cells O 57)=W:=⟨_,rfl⟩;rw[hw5]at ho5 hb5 ⊢;obtain⟨ob,hob⟩:∃k,wr.heap.size=k:=⟨_,rfl⟩;rw[hob]at ho5 ⊢;have HI5:=hide (HI.out.below hb5);have HX5:=hide (HXk.out.below hb5);have HOb:=hide ho5;obtain⟨SA,hSA⟩:∃X,s.arr=X:=⟨_,rfl⟩;have HSe:=hide hSA;have HSz:Hid (SA.size=6):=by show _=_;rw[←hSA];rfl
    have HZ5:Hid (w5.heap[sb]?=some (.cells SA 42 (0,0))):=by show _=_;rw[←hSA];exact HI5.out.zb
    clear hw5 hob ho5 hb5 HLo HXk hSA p9 HI;have HA5:Hid (Calls Tryz.prog 12 #[.agg c.arr,.agg s.arr,.agg x.arr] w5 fun e w'=>∃b:Acd,e=.returned (.agg b.arr)∧b.d=actD s c.tills x.ac.d∧AcOwn w5.heap.size w' b∧Below w5.heap.size w5 w'):=act_any w5 c s HI5.out.st.ok (by have:=HI5.out.st.shp.ln;omega) ⟨H1t.out,HI5.out.cfg.tills.2⟩ x HX5.out;rw[HD.out,HSe.out,HOe.out]at HA5;have HLd5:=hide (Z.loadAt_row (P:=Tryz.prog) (ty:=34) HI5.out.kb Tryz.underlying34 rfl (by rw[HDs.out];exact Tryz.sizeC));have HLs5:=hide (Z.loadAt_row (P:=Tryz.prog) (ty:=42) HZ5.out Tryz.underlying42 rfl (by rw[HSz.out];exact Tryz.sizeS));have HLo5:=hide (Z.loadAt_row (P:=Tryz.prog) (ty:=57) HOb.out Tryz.underlying57 rfl (by rw[HOz.out];exact Tryz.sizeO))
    go_upto_region 8 with (
      first
      | ((with_reducible show wpList _ _ _ (⟨_,.load 34 (.tmp 3),_,_,_,_⟩ :: _) _ _);refine Z.lp_load cb 0 D rfl HLd5.out ?_)
      | ((with_reducible show wpList _ _ _ (⟨_,.load 42 (.tmp 4),_,_,_,_⟩ :: _) _ _);refine Z.lp_load sb 0 SA rfl HLs5.out ?_)
      | ((with_reducible show wpList _ _ _ (⟨_,.load 57 (.tmp 6),_,_,_,_⟩ :: _) _ _);refine Z.lp_load ob 0 O rfl HLo5.out ?_)
      | (go_at_call 12;refine HA5.out.mono ?_;rintro e w6 ⟨b,rfl,hbd,hbo,hb6⟩;have HBd:=hide hbd;have HBo:=hide hbo;have HB6:=hide hb6;obtain⟨A,hA⟩:∃X,b.arr=X:=⟨_,rfl⟩;have HAe:=hide hA;have HAz:Hid (A.size=15):=(by show _=_;rw[←hA];rfl);have HAn:Hid (A.all (·.oneCell')=true):=(by show _=_;rw[←hA];exact b.ones);rw[hA];clear hbd hbo hb6 hA)
      | ((with_reducible show wpList _ _ _ (⟨_,.store 55 (.tmp 7) _,_,_,_,_⟩ :: _) _ _);refine Z.lp_store (t:=55) (x:=.tmp 7) (some ⟨w6.heap.size,0,none⟩) (.agg A) rfl rfl (run_storeAt_new w6 _ _ A (by rw[HAz.out];exact Z.Tryz.sizeA) (by rw[HAz.out];rfl) HAn.out) ?_)
      | fail)
    try dsimp only[Act.put]
    have ha7:=heap_alloc_new w6 (.cells A 55);have hb7:Below w6.heap.size w6 (w6.alloc (.cells A 55)):=(Below.refl _ _).alloc (Nat.le_refl _) _;obtain⟨w7,hw7⟩:∃W,w6.alloc (.cells A 55)=W:=⟨_,rfl⟩;rw[hw7]at ha7 hb7 ⊢;obtain⟨ab,hab⟩:∃k,w6.heap.size=k:=⟨_,rfl⟩;rw[hab]at ha7 ⊢;have HB57:Hid (Below w5.heap.size w5 w7):=HB6.out.trans (hb7.mono HB6.out.size);have HI7:=hide (HI5.out.below HB57.out);have HX7:=hide (HX5.out.below HB57.out);have HO7:Hid (w7.heap[ob]?=some (.cells O 57 (0,0))):=(HB57.out.block _ (ac_lt HOb.out)).trans HOb.out;have HZ7:Hid (w7.heap[sb]?=some (.cells SA 42 (0,0))):=(HB57.out.block _ (ac_lt HZ5.out)).trans HZ5.out;have HAb:=hide ha7;have HBo7:=hide (HBo.out.below hb7);clear hw7 hab hb7 ha7 HB6 HA5 HLd5 HLs5 HLo5 HI5 HX5 HZ5 HOb HBo;have o0:w7.cell? ⟨ob,0,none⟩=some (.int .i64 x.do_):=by rw[cell_of_row _ _ _ _ _ _ HO7.out,←HOe.out];rfl
    have a2:w7.cell? ⟨ab,2,none⟩=some (.int .i64 b.kind):=by rw[cell_of_row _ _ _ _ _ _ HAb.out,←HAe.out];rfl
    have a3:w7.cell? ⟨ab,3,none⟩=some (.bool b.sure):=by rw[cell_of_row _ _ _ _ _ _ HAb.out,←HAe.out];rfl
    have HCk:Hid (Calls Tryz.prog 13 #[.agg c.arr,.agg b.arr] w7 fun e w'=>∃V,e=.returned (.int .i64 V)∧ChkV c b V∧Below w7.heap.size w7 w'):=rcheck_any w7 c b HBo7.out.ok HI7.out.cfg.cl HI7.out.cfg.pl HI7.out.cfg.tills;rw[HD.out,HAe.out]at HCk;have HLd7:=hide (Z.loadAt_row (P:=Tryz.prog) (ty:=34) HI7.out.kb Tryz.underlying34 rfl (by rw[HDs.out];exact Tryz.sizeC));have HLa7:=hide (Z.loadAt_row (P:=Tryz.prog) (ty:=55) HAb.out Tryz.underlying55 rfl (by rw[HAz.out];exact Z.Tryz.sizeA));obtain⟨b1,hb1⟩:∃z,(x.do_ == 1)=z:=⟨_,rfl⟩;obtain⟨b2,hb2⟩:∃z,(x.do_ == 2)=z:=⟨_,rfl⟩;obtain⟨b3,hb3⟩:∃z,(b.kind == 1)=z:=⟨_,rfl⟩;obtain⟨b4,hb4⟩:∃z,b.sure=z:=⟨_,rfl⟩;rw[hb4]at a3;have H3:=hide hb3;have H4:=hide hb4;clear hb4;have HBr:Hid (Below w7.heap.size w7 w7):=Below.refl _ _;go_cut [66] from 1 to 0 (fun sv wc=>∃B,sv=.bool B∧Hid (Below w7.heap.size w7 wc)∧Hid (B=true→b.kind=1∧b.sure=false∧ChkV c b 0))
    case first =>
     have key:(b1=false∧b2=false)∨((b1=true∨(b1=false∧b2=true))∧(b3=false∨(b3=true∧(b4=true∨b4=false)))):=by cases b1 <;> cases b2 <;> cases b3 <;> cases b4 <;> simp
     rcases key with ⟨rfl,rfl⟩ | ⟨rfl | ⟨rfl,rfl⟩,rfl | ⟨rfl,rfl | rfl⟩⟩
     all_goals (go_wp2_with (first | ((with_reducible show wpList _ _ _ (⟨_,.load 34 (.tmp 3),_,_,_,_⟩ :: _) _ _);refine lp_loadw cb 0 D (by exact rfl) rfl HLd7.out ?_) | ((with_reducible show wpList _ _ _ (⟨_,.load 55 (.tmp 7),_,_,_,_⟩ :: _) _ _);refine lp_loadw ab 0 A (by exact rfl) rfl HLa7.out ?_) | (go_at_call 13;refine HCk.out.mono ?_;rintro e w9 ⟨V,rfl,hV,hb9⟩;obtain⟨z,hz⟩:∃z,(V == 0)=z:=⟨_,rfl⟩;have HV:=hide (And.intro hV hz);have HB9:=hide hb9;clear hV hb9) | fail);go_meet;case rel=>first | exact⟨z,rfl,HB9,fun h=>⟨by simpa using H3.out,H4.out,by have h1:=HV.out.2;rw[h]at h1;have e:V=0:=(by simpa using h1);rw[←e];exact HV.out.1⟩⟩ | exact⟨false,rfl,HBr,fun h=>by cases h⟩)
    case rest =>
     obtain⟨B,rfl,HBc,HCn⟩:=hcut;clear HCk HLd7 HLa7 o0 a2 a3 hb1 hb2 hb3 H3 H4 HBr b1 b2 b3 b4;go_upto_if 66 with (fail);go_cut [] from 1 to 0 (fun wz=>Hid (Below w7.heap.size w7 wz))
     case first =>
      cases B with
      | false =>
       go_wp2;go_meet;case rel=>exact HBc
      | true =>
       obtain⟨hk1,hsu,hck⟩:=HCn.out rfl;have HKs:=hide (And.intro hk1 hsu);have HRg:=hide (chk_rg hck HI7.out.st.shp HI7.out.cfg.cl);have HGo:=hide (chk_guards hck hk1);have HPn:Hid (s.pools.length=c.cl):=by show _=_;rw[HI7.out.st.ok.pn,HI7.out.st.shp.pn]
       clear hk1 hsu hck HCn
       have HGu:Hid (∀(W:World) (k z n:Int),Below w7.heap.size w7 W→Calls Tryz.prog 24 #[.agg SA,.slice (some ⟨W.heap.size,0,none⟩) 1 1] (W.alloc (.cells #[.int .i64 k,.int .i64 z,.int .i64 n] 73)) fun e w'=>e=.returned (.bool (s.guard k z n))∧Below W.heap.size W w'):=fun W k z n hW=>by
        have hb:Below W.heap.size W (W.alloc (.cells #[.int .i64 k,.int .i64 z,.int .i64 n] 73)):=(Below.refl _ _).alloc (Nat.le_refl _) _;have h:=guarded_gen (W.alloc (.cells #[.int .i64 k,.int .i64 z,.int .i64 n] 73)) s ((HI7.out.st.ok.below hW).below hb) (some ⟨W.heap.size,0,none⟩) 1 1 [⟨k,z,n⟩] rfl (by omega) (Z.cel_one rfl);rw[HSe.out]at h;exact h.mono fun e w' ⟨h1,h2⟩=>⟨by rw[h1];simp,hb.trans (h2.mono hb.size)⟩
       go_wp2;go_loopw [8] (fun kv wr=>∃k:Nat,k≤b.guards.n∧kv=.int .i64 (k:Int)∧Hid (Below w7.heap.size w7 wr)) (fun kv _=>b.guards.n - (intOf kv).toNat);case atStart=>exact⟨0,Nat.zero_le _,rfl,HBc⟩
       case round =>
        obtain⟨k,hk,rfl,HBr⟩:=hrel;have HAr:Hid (wr.heap[ab]?=some (.cells A 55 (0,0))):=(HBr.out.block _ (ac_lt HAb.out)).trans HAb.out;have a5:wr.cell? ⟨ab,5,none⟩=some (.slice b.guards.p b.guards.n b.guards.c):=by rw[cell_of_row _ _ _ _ _ _ HAr.out,←HAe.out];rfl
        have hgm:b.guards.n≤4194304:=HBo7.out.guards.2.2;by_cases hkn:k<b.guards.n
        ·have hki:(k:Int)<(b.guards.n:Int):=by omega
         have k0:(0:Int)≤(k:Int):=by omega
         obtain⟨g,hg⟩:∃g,b.guards.xs[k]?=some g:=⟨_,List.getElem?_eq_getElem (by rw[HBo7.out.guards.2.1];exact hkn)⟩;have HGm:=hide (fun h=>guard_num HGo.out (List.mem_of_getElem? hg) h);obtain⟨gg,gq,eg,hgb,hgc⟩:=HBo7.out.ok.guards.cel.get (i:=k) (r:=tric g) (by rw[List.getElem?_map,hg];rfl);obtain⟨xa,xb,xn⟩:=g;have g0:=(HBr.out.cell (p:=⟨gg,gq+k*3+0,none⟩) hgb).trans (hgc 0 _ rfl);have g1:=(HBr.out.cell (p:=⟨gg,gq+k*3+1,none⟩) hgb).trans (hgc 1 _ rfl);have g2:=(HBr.out.cell (p:=⟨gg,gq+k*3+2,none⟩) hgb).trans (hgc 2 _ rfl);rw[Nat.add_zero]at g0;rw[eg]at a5;clear hg eg hgb hgc
         ·skip
          go_upto_region 14 with (fail);obtain⟨w10,hw10,hb10,hx10,hy10⟩:=box_two wr #[.int .i64 xa,.int .i64 xb,.int .i64 xn] 73 73 #[.int .i64 xa,.int .i64 xb,.int .i64 xn];rw[hw10];obtain⟨gb,hgb⟩:∃n,wr.heap.size=n:=⟨_,rfl⟩;have HB10:Hid (Below w7.heap.size w7 w10):=HBr.out.trans (hb10.mono HBr.out.size);have hgl:w7.heap.size≤gb:=by rw[←hgb];exact HBr.out.size
          rw[hgb]at hx10 hy10 ⊢;have HX10:=hide hx10;have HY10:=hide hy10;clear hw10 hb10 hgb a5 g0 g1 g2;obtain⟨y0,y1,y2⟩:=ac3 hx10;clear hx10 hy10;obtain⟨q1,hq1⟩:∃z,(xa == 1)=z:=⟨_,rfl⟩;go_upto_if 82 with (fail);go_cut [] from 1 to 0 (fun wc=>Hid (∃h1 h3:Int,wc.heap[gb]?=some (.cells #[.int .i64 xa,.int .i64 xb,.int .i64 xn] 73 (0,0))∧wc.heap[gb+1]?=some (.cells #[.int .i64 h1,.int .i64 xb,.int .i64 h3] 73 (0,0))∧Below w7.heap.size w7 wc∧((xa=1∧h1=2∧h3=xn - 1)∨(xa≠1∧h1=xa∧h3=xn))))
          case first =>
           cases q1 with
           | false =>
            go_wp2;go_meet;case rel=>exact⟨xa,xn,HX10.out,HY10.out,HB10.out,Or.inr ⟨by simpa using hq1,rfl,rfl⟩⟩
           | true =>
            have e1:xa=1:=by simpa using hq1
            obtain⟨kk,-,-,hn1,hn2⟩:=HGm.out (Or.inl e1);dsimp only at hn1 hn2;have HE1:=hide e1;clear e1;go_wp2_with (first | ((with_reducible show wpList _ _ _ (⟨_,.store 73 (.tmp 10) _,_,_,_,_⟩ :: _) _ _);refine Z.lp_store (t:=73) (x:=.tmp 10) (some ⟨(gb+1),0,none⟩) (.agg #[.int .i64 2,.int .i64 xb,.int .i64 (xn - 1)]) rfl rfl (Z.storeAt_row HY10.out (by kernel_rfl) rfl (by simp[Value.oneCell'])) ?_) | fail)
            go_meet;case rel=>exact⟨2,xn - 1,by rw[setRow_other _ _ _ _ (by omega)];exact HX10.out,setRow_heap _ _ _ _ _ _ HY10.out,below_setRow HB10.out (by omega) _,Or.inl ⟨HE1.out,rfl,rfl⟩⟩
          case rest =>
           obtain⟨h1,h3,hx11,hy11,hb11,hR⟩:=hcut.out;obtain⟨w11,hw11⟩:∃W,wc=W:=⟨_,rfl⟩;rw[hw11]at hx11 hy11 hb11 ⊢;clear hw11 hcut wc y0 y1 y2 hq1 HX10 HY10 HB10;have HR:=hide hR;have HX11:=hide hx11;have HY11:=hide hy11;have HB11:=hide hb11;obtain⟨y0,y1,y2⟩:=ac3 hx11;clear hx11 hy11 hb11 hR;obtain⟨q2,hq2⟩:∃z,(xa == 2)=z:=⟨_,rfl⟩;go_upto_if 91 with (fail);go_cut [] from 1 to 0 (fun wc=>Hid (∃h1 h3:Int,wc.heap[gb]?=some (.cells #[.int .i64 xa,.int .i64 xb,.int .i64 xn] 73 (0,0))∧wc.heap[gb+1]?=some (.cells #[.int .i64 h1,.int .i64 xb,.int .i64 h3] 73 (0,0))∧Below w7.heap.size w7 wc∧((xa=1∧h1=2∧h3=xn - 1)∨(xa=2∧h1=1∧h3=xn+1)∨(xa≠1∧xa≠2∧h1=xa∧h3=xn))))
           case first =>
            cases q2 with
            | false =>
             go_wp2;go_meet;case rel=>exact⟨h1,h3,HX11.out,HY11.out,HB11.out,by rcases HR.out with h | h;exact Or.inl h;exact Or.inr (Or.inr ⟨h.1,by simpa using hq2,h.2.1,h.2.2⟩)⟩
            | true =>
             have e1:xa=2:=by simpa using hq2
             obtain⟨kk,-,-,hn1,hn2⟩:=HGm.out (Or.inr e1);dsimp only at hn1 hn2;have HE1:=hide e1;clear e1;go_wp2_with (first | ((with_reducible show wpList _ _ _ (⟨_,.store 73 (.tmp 10) _,_,_,_,_⟩ :: _) _ _);refine Z.lp_store (t:=73) (x:=.tmp 10) (some ⟨(gb+1),0,none⟩) (.agg #[.int .i64 1,.int .i64 xb,.int .i64 (xn+1)]) rfl rfl (Z.storeAt_row HY11.out (by kernel_rfl) rfl (by simp[Value.oneCell'])) ?_) | fail)
             go_meet;case rel=>exact⟨1,xn+1,by rw[setRow_other _ _ _ _ (by omega)];exact HX11.out,setRow_heap _ _ _ _ _ _ HY11.out,below_setRow HB11.out (by omega) _,Or.inr (Or.inl ⟨HE1.out,rfl,rfl⟩)⟩
           case rest =>
            clear HR;obtain⟨h1,h3,hx12,hy12,hb12,hR⟩:=hcut.out;obtain⟨w12,hw12⟩:∃W,wc=W:=⟨_,rfl⟩;rw[hw12]at hx12 hy12 hb12 ⊢;clear hw12 hcut wc y0 y1 y2 hq2 HX11 HY11 HB11;have HR:=hide hR;have HX12:=hide hx12;have HY12:=hide hy12;have HB12:=hide hb12;obtain⟨y0,y1,y2⟩:=ac3 hx12;clear hx12 hy12 hb12 hR;obtain⟨o1,ho1⟩:∃z,s.guard xa xb xn=z:=⟨_,rfl⟩;have HO1:=hide ho1;have HG1:=hide (HGu.out w12 xa xb xn HB12.out);rw[ho1]at HG1;clear ho1;have HLs12:=hide (Z.loadAt_row (P:=Tryz.prog) (ty:=42) ((HB12.out.block _ (ac_lt HZ7.out)).trans HZ7.out) Tryz.underlying42 rfl (by rw[HSz.out];exact Tryz.sizeS))
            go_upto_region 19 with (
              first
              | ((with_reducible show wpList _ _ _ (⟨_,.load 42 (.tmp 4),_,_,_,_⟩ :: _) _ _);refine Z.lp_load sb 0 SA rfl HLs12.out ?_)
              | (go_at_call 24;refine HG1.out.mono ?_;rintro e w13 ⟨rfl,hb13⟩;have HB13:=hide hb13;clear hb13)
              | fail)
            have HB713:Hid (Below w7.heap.size w7 w13):=HB12.out.trans (HB13.out.mono HB12.out.size);clear y0 y1 y2 HG1 HLs12;obtain⟨y0,y1,y2⟩:=ac3 ((HB13.out.block _ (ac_lt HX12.out)).trans HX12.out);obtain⟨v0,v1,v2⟩:=ac3 ((HB13.out.block _ (ac_lt HY12.out)).trans HY12.out);clear HX12 HY12;have HLs13:=hide (Z.loadAt_row (P:=Tryz.prog) (ty:=42) ((HB713.out.block _ (ac_lt HZ7.out)).trans HZ7.out) Tryz.underlying42 rfl (by rw[HSz.out];exact Tryz.sizeS));have ne:((!o1) == o1)=false:=by cases o1 <;> rfl
            go_cut [122] from 1 to 0 (fun sv wd=>sv=.bool false∧Hid (Below w7.heap.size w7 wd))
            case first =>
             rcases HR.out with ⟨rfl,rfl,rfl⟩ | ⟨rfl,rfl,rfl⟩ | ⟨f1,f2,rfl,rfl⟩
             ·obtain⟨kk,hkk,hkc,hn1,hn2⟩:=HGm.out (Or.inl rfl)
              try dsimp only at hkk
              try dsimp only at hn1 hn2
              subst hkk;have HG2:=hide (HGu.out w13 2 (kk:Int) (xn - 1) HB713.out);rw[show s.guard 2 (kk:Int) (xn - 1) = !o1 from by rw[←HO1.out];exact guard_less (by rw[HPn.out];exact hkc) xn]at HG2;have hm:xn - 1≤9007199254740992:=by omega
              by_cases hl : -9007199254740992≤xn - 1;all_goals (go_wp2_with (first | ((with_reducible show wpList _ _ _ (⟨_,.load 42 (.tmp 4),_,_,_,_⟩ :: _) _ _);refine lp_loadw sb 0 SA (by exact rfl) rfl HLs13.out ?_) | (go_at_call 24;refine HG2.out.mono ?_;rintro e w14 ⟨rfl,hb14⟩;have HB14:=hide hb14;clear hb14) | fail);go_meet;(case rel=>first | exact⟨rfl,HB713.out.trans (HB14.out.mono HB713.out.size)⟩ | exact⟨rfl,HB713⟩))
             ·obtain⟨kk,hkk,hkc,hn1,hn2⟩:=HGm.out (Or.inr rfl)
              try dsimp only at hkk
              try dsimp only at hn1 hn2
              subst hkk;have HG2:=hide (HGu.out w13 1 (kk:Int) (xn+1) HB713.out);rw[show s.guard 1 (kk:Int) (xn+1) = !o1 from by rw[←HO1.out];exact guard_more (by rw[HPn.out];exact hkc) xn]at HG2;have hm : -9007199254740992≤xn+1:=by omega
              by_cases hl:xn+1≤9007199254740992;all_goals (go_wp2_with (first | ((with_reducible show wpList _ _ _ (⟨_,.load 42 (.tmp 4),_,_,_,_⟩ :: _) _ _);refine lp_loadw sb 0 SA (by exact rfl) rfl HLs13.out ?_) | (go_at_call 24;refine HG2.out.mono ?_;rintro e w14 ⟨rfl,hb14⟩;have HB14:=hide hb14;clear hb14) | fail);go_meet;(case rel=>first | exact⟨rfl,HB713.out.trans (HB14.out.mono HB713.out.size)⟩ | exact⟨rfl,HB713⟩))
             ·go_wp2
              go_meet;case rel=>exact⟨rfl,HB713⟩
            case rest =>
             obtain⟨rfl,HBd⟩:=hcut;clear HR HO1 ne;go_wp2;go_roundw;case rel=>exact⟨k+1,by omega,by go_num,HBd⟩
             case measure=>simp[intOf];omega
        ·have hki:¬(k:Int)<(b.guards.n:Int):=by omega
         have hB77:w7.heap.size≤wr.heap.size:=HBr.out.size;have HCp:=hide (Z.copyAct_any wr b (HBo7.out.ok.below (HBr.out)) A HAe.out);have HLa:=hide (Z.loadAt_row (P:=Tryz.prog) (ty:=55) HAr.out Tryz.underlying55 rfl (by rw[HAz.out];exact Z.Tryz.sizeA))
         go_upto_region 22 with (
           first
           | ((with_reducible show wpList _ _ _ (⟨_,.load 55 (.tmp 7),_,_,_,_⟩ :: _) _ _);refine Z.lp_load ab 0 A rfl HLa.out ?_)
           | (go_at_call 16;refine HCp.out.mono ?_;rintro e w9 ⟨q,rfl,hqd,hqo,hb9⟩;have HQd:=hide hqd;have HQo:=hide hqo;have HB9:=hide hb9;obtain⟨Q,hQ⟩:∃X,q.arr=X:=⟨_,rfl⟩;have HQe:=hide hQ;have HQz:Hid (Q.size=15):=(by show _=_;rw[←hQ];rfl);have HQn:Hid (Q.all (·.oneCell')=true):=(by show _=_;rw[←hQ];exact q.ones);rw[hQ];clear hqd hqo hb9 hQ)
           | ((with_reducible show wpList _ _ _ (⟨_,.store 55 (.tmp 12) _,_,_,_,_⟩ :: _) _ _);refine Z.lp_store (t:=55) (x:=.tmp 12) (some ⟨w9.heap.size,0,none⟩) (.agg Q) rfl rfl (run_storeAt_new w9 _ _ Q (by rw[HQz.out];exact Z.Tryz.sizeA) (by rw[HQz.out];rfl) HQn.out) ?_)
           | fail)
         try dsimp only[Act.put]
         have hq10:=heap_alloc_new w9 (.cells Q 55);have hb10:Below w9.heap.size w9 (w9.alloc (.cells Q 55)):=(Below.refl _ _).alloc (Nat.le_refl _) _;obtain⟨w10,hw10⟩:∃W,w9.alloc (.cells Q 55)=W:=⟨_,rfl⟩;rw[hw10]at hq10 hb10 ⊢;obtain⟨bb,hbb⟩:∃k,w9.heap.size=k:=⟨_,rfl⟩;have hbl:w7.heap.size≤bb:=by have:=HB9.out.size;omega
         have hqo:=HQo.out.below hb10;have HB10:Hid (Below w7.heap.size w7 w10):=HBr.out.trans ((HB9.out.trans (hb10.mono HB9.out.size)).mono hB77);rw[hbb]at hq10 ⊢;have HG0:Hid (Gb w7.heap.size w7 (w10.setRow bb (plainA q q.sets nilT 0).arr) q q.sets nilT 0 bb):=⟨setRow_heap _ _ _ _ _ _ hq10,hbl,below_setRow HB10.out hbl _,sl_row (hqo.lines.le hB77) hq10 (by decide) _,sl_row (hqo.sets.le hB77) hq10 (by decide) _,sl_row (hqo.rights.le hB77) hq10 (by decide) _⟩
         have HRw:Hid (((w10.setCell ⟨bb,5,none⟩ (.slice none 0 0)).setCell ⟨bb,7,none⟩ (.int .i64 0)).setCell ⟨bb,8,none⟩ (.slice none 0 0)=w10.setRow bb (plainA q q.sets nilT 0).arr):=by
          show _=_;rw[setCell_eq_setRow _ _ _ _ _ _ _ hq10,setCell_eq_setRow _ _ _ _ _ _ _ (setRow_heap _ _ _ _ _ _ hq10),setRow_setRow,setCell_eq_setRow _ _ _ _ _ _ _ (setRow_heap _ _ _ _ _ _ hq10),setRow_setRow,←HQe.out];rfl
         have q5:w10.cell? ⟨bb,5,none⟩=some (.slice q.guards.p q.guards.n q.guards.c):=by rw[cell_of_row _ _ _ _ _ _ hq10,←HQe.out];rfl
         have fz5:=frozen_of_row w10 bb 5 _ _ hq10;have q7:w10.cell? ⟨bb,7,none⟩=some (.int .i64 q.mg):=by rw[cell_of_row _ _ _ _ _ _ hq10,←HQe.out];rfl
         have fz7:=frozen_of_row w10 bb 7 _ _ hq10;have q8:w10.cell? ⟨bb,8,none⟩=some (.slice q.other.p q.other.n q.other.c):=by rw[cell_of_row _ _ _ _ _ _ hq10,←HQe.out];rfl
         have fz8:=frozen_of_row w10 bb 8 _ _ hq10;have HQl:Hid (q.kind=1∧q.sure=false∧q.lines.xs=b.lines.xs):=⟨(congrArg Z.AcP.kind HQd.out).trans HKs.out.1,(congrArg Z.AcP.sure HQd.out).trans HKs.out.2,congrArg Z.AcP.lines HQd.out⟩;clear hw10 hbb hq10 hb10 hqo HLa HCp a5 hkn hki hk;go_upto_region 24 with (fail);rw[HRw.out];obtain⟨w11,hw11⟩:∃W,w10.setRow bb (plainA q q.sets nilT 0).arr=W:=⟨_,rfl⟩;rw[hw11]at HG0 ⊢;clear hw11 HRw q5 q7 q8 fz5 fz7 fz8 HB10
         have HG1:Hid (Gb w7.heap.size w7 w11 q ⟨q.sets.p,q.sets.n,q.sets.c,verR 0 q.sets.xs⟩ nilT 0 bb):=by
          have e:(⟨q.sets.p,q.sets.n,q.sets.c,verR 0 q.sets.xs⟩:Sli Tri)=q.sets:=by simp[verR]
          show Gb _ _ _ _ _ _ _ _;rw[e];exact HG0.out
         clear HG0;go_wp2;go_loopw [13] (fun kv wr=>∃k:Nat,k≤q.sets.n∧kv=.int .i64 (k:Int)∧Hid (Gb w7.heap.size w7 wr q ⟨q.sets.p,q.sets.n,q.sets.c,verR k q.sets.xs⟩ nilT 0 bb)) (fun kv _=>q.sets.n - (intOf kv).toNat);case atStart=>exact⟨0,Nat.zero_le _,rfl,HG1⟩
         case round =>
          clear HG1 HBr HAr hB77;obtain⟨j,hj,rfl,HG⟩:=hrel;have q6:wr.cell? ⟨bb,6,none⟩=some (.slice q.sets.p q.sets.n q.sets.c):=by rw[cell_of_row _ _ _ _ _ _ HG.out.bx];rfl
          have hqm:q.sets.n≤4194304:=HG.out.st.2.2;have HLn:=hide (show q.sets.xs.length=q.sets.n by have h:=HG.out.st.2.1;rw[←h];exact(verR_len _ _).symm);by_cases hjn:j<q.sets.n
          ·have hji:(j:Int)<(q.sets.n:Int):=by omega
           have j0:(0:Int)≤(j:Int):=by omega
           obtain⟨y,hy⟩:∃y,q.sets.xs[j]?=some y:=⟨_,List.getElem?_eq_getElem (by rw[HLn.out];exact hjn)⟩;obtain⟨sk,hsk,hf,hcc,hG2⟩:=HG.out.setV (verR_get hy);dsimp only at hsk hG2;rw[verR_set hy]at hG2;have HG2:=hide hG2;rw[hsk]at q6;clear hG2 hy hsk;go_wp2;go_roundw;case rel=>exact⟨j+1,by omega,by go_num,HG2⟩
           case measure=>simp[intOf];omega
          ·have hji:¬(j:Int)<(q.sets.n:Int):=by omega
           go_upto_region 28 with (fail);have ej:j=q.sets.n:=by omega
           subst ej;obtain⟨st,hst⟩:∃S:Sli Tri,(⟨q.sets.p,q.sets.n,q.sets.c,verR q.sets.n q.sets.xs⟩:Sli Tri)=S:=⟨_,rfl⟩;rw[hst]at HG;have HBw:=hide HG.out.bel;have HGk:=hide (HBo7.out.ok.guards);clear hst hji hj hjn q6 HLn;obtain⟨F,hF⟩:∃z,(s.fits q.lines.xs && s.opens st.xs)=z:=⟨_,rfl⟩;obtain⟨G,hG⟩:∃z,s.guards b.guards.xs=z:=⟨_,rfl⟩;obtain⟨oT,oU,oV,tl,vl,ts,vs,ht,hu,hv,e1,e2,e3,e4,l1,l2⟩:=three_rules s q st b.guards HQl.out.1 HQl.out.2.1 F G hF hG;have HT:=hide ht;have HU:=hide hu;have HV:=hide hv;have HG0:=hide hG;have HE:=hide (And.intro e1 (And.intro e2 (And.intro e3 e4)));have HL12:Hid (tl.length≤4194304∧ts.length≤4194304):=⟨Nat.le_trans l1 (by rw[HG.out.ln.2.1];exact HG.out.ln.2.2),Nat.le_trans l2 (by rw[HG.out.st.2.1];exact HG.out.st.2.2)⟩;have HWf:Hid (∀g m,AcWf (plainA q st g m)):=fun g m=>⟨fun y hy=>HRg.out.act.lwf y (by have h:y∈q.lines.xs:=hy;rw[HQl.out.2.2]at h;exact h),fun y hy=>by cases hy⟩
           clear hF hG ht hu hv e1 e2 e3 e4 l1 l2;have HZt:Hid (wr.heap[sb]?=some (.cells SA 42 (0,0))):=(HBw.out.block _ (ac_lt HZ7.out)).trans HZ7.out;obtain⟨QA,hQA⟩:∃X,(plainA q st nilT 0).arr=X:=⟨_,rfl⟩;have HQAz:Hid (QA.size=15):=by show _=_;rw[←hQA];rfl
           have HQb:Hid (wr.heap[bb]?=some (.cells QA 55 (0,0))):=by show _=_;rw[←hQA];exact HG.out.bx
           have HJt:=hide (judge9_any wr s (HI7.out.st.ok.below HBw.out) (plainA q st nilT 0) (HG.out.ok ⟨rfl,Nat.zero_le _,Or.inl rfl⟩) (HWf.out nilT 0));rw[HSe.out,hQA,HT.out]at HJt;have HLst:=hide (Z.loadAt_row (P:=Tryz.prog) (ty:=42) HZt.out Tryz.underlying42 rfl (by rw[HSz.out];exact Tryz.sizeS));have HLqt:=hide (Z.loadAt_row (P:=Tryz.prog) (ty:=55) HQb.out Tryz.underlying55 rfl (by rw[HQAz.out];exact Z.Tryz.sizeA));clear hQA
           go_upto_region 29 with (
             first
             | ((with_reducible show wpList _ _ _ (⟨_,.load 42 (.tmp 4),_,_,_,_⟩ :: _) _ _);refine Z.lp_load sb 0 SA rfl HLst.out ?_)
             | ((with_reducible show wpList _ _ _ (⟨_,.load 55 (.tmp 12),_,_,_,_⟩ :: _) _ _);refine Z.lp_load bb 0 QA rfl HLqt.out ?_)
             | (go_at_call 14;refine HJt.out.mono ?_;rintro e yt ⟨tp,tn,tc,tq,tm,td,rfl,h7,h8,h9,hby⟩;(try dsimp only at h7 h8 h9);have HRt:=hide h9;have HNt:=hide (And.intro h7 h8);have HBy:=hide hby;clear h7 h8 h9 hby)
             | fail)
           have hnt:=heap_alloc_new yt (.cells #[.int .i64 oT,.slice tp tn tc,.slice tq tm td,.int .i64 0] 61);have hbn:Below yt.heap.size yt (yt.alloc (.cells #[.int .i64 oT,.slice tp tn tc,.slice tq tm td,.int .i64 0] 61)):=(Below.refl _ _).alloc (Nat.le_refl _) _;obtain⟨zt,hzt⟩:∃W,yt.alloc (.cells #[.int .i64 oT,.slice tp tn tc,.slice tq tm td,.int .i64 0] 61)=W:=⟨_,rfl⟩;rw[hzt]at hnt hbn ⊢;have HBn:Hid (Below wr.heap.size wr zt):=HBy.out.trans (hbn.mono HBy.out.size);have hr1:=own_below HRt.out.1 hbn;have hr2:=own_below HRt.out.2 hbn;obtain⟨bt,hbt⟩:∃k,yt.heap.size=k:=⟨_,rfl⟩;rw[hbt]at hnt ⊢;have HXt:=hide hnt;have HPt:=hide (And.intro hr1 hr2);clear hzt hnt hbn hr1 hr2 HBy HRt hbt HJt HLst HLqt HZt HQb HQAz;have HG3:=hide (HG.out.below HBw.out.size HBn.out);have HA3:Hid (zt.heap[ab]?=some (.cells A 55 (0,0))):=(HG3.out.bel.block _ (ac_lt HAb.out)).trans HAb.out;have a5:zt.cell? ⟨ab,5,none⟩=some (.slice b.guards.p b.guards.n b.guards.c):=by rw[cell_of_row _ _ _ _ _ _ HA3.out,←HAe.out];rfl
           have q5:zt.cell? ⟨bb,5,none⟩=some (.slice none 0 0):=by rw[cell_of_row _ _ _ _ _ _ HG3.out.bx];rfl
           have q7:zt.cell? ⟨bb,7,none⟩=some (.int .i64 0):=by rw[cell_of_row _ _ _ _ _ _ HG3.out.bx];rfl
           have fz5:=frozen_of_row zt bb 5 _ _ HG3.out.bx;have fz7:=frozen_of_row zt bb 7 _ _ HG3.out.bx
           have HRw:Hid ((zt.setCell ⟨bb,5,none⟩ (.slice b.guards.p b.guards.n b.guards.c)).setCell ⟨bb,7,none⟩ (.int .i64 3)=zt.setRow bb (plainA q st b.guards 3).arr):=by
            show _=_;rw[setCell_eq_setRow _ _ _ _ _ _ _ HG3.out.bx,setCell_eq_setRow _ _ _ _ _ _ _ (setRow_heap _ _ _ _ _ _ HG3.out.bx),setRow_setRow];rfl
           have HG4:=hide (HG3.out.put b.guards 3);have HP4:=hide (And.intro (own_row HPt.out.1 HG3.out.bx (by decide) (plainA q st b.guards 3).arr) (own_row HPt.out.2 HG3.out.bx (by decide) (plainA q st b.guards 3).arr));have hx4:=(setRow_other zt bb bt (plainA q st b.guards 3).arr (by rintro rfl;have h:=HXt.out;rw[HG3.out.bx]at h;cases h)).trans HXt.out;have HX4:=hide hx4;clear hx4 HPt HXt HBn;go_upto_region 31 with (fail);rw[HRw.out];obtain⟨w4,hw4⟩:∃W,zt.setRow bb (plainA q st b.guards 3).arr=W:=⟨_,rfl⟩;rw[hw4]at HG4 HP4 HX4 ⊢;clear hw4 HRw a5 q5 q7 fz5 fz7 HA3 HG3 HBw HG;have HG:=hide HG4.out;have HBw:=hide HG.out.bel;clear HG4;have HZu:Hid (w4.heap[sb]?=some (.cells SA 42 (0,0))):=(HBw.out.block _ (ac_lt HZ7.out)).trans HZ7.out;obtain⟨QA,hQA⟩:∃X,(plainA q st b.guards 3).arr=X:=⟨_,rfl⟩;have HQAz:Hid (QA.size=15):=by show _=_;rw[←hQA];rfl
           have HQb:Hid (w4.heap[bb]?=some (.cells QA 55 (0,0))):=by show _=_;rw[←hQA];exact HG.out.bx
           have HJu:=hide (judge9_any w4 s (HI7.out.st.ok.below HBw.out) (plainA q st b.guards 3) (HG.out.ok (HGk.out.below HBw.out)) (HWf.out b.guards 3));rw[HSe.out,hQA,HU.out]at HJu;have HLsu:=hide (Z.loadAt_row (P:=Tryz.prog) (ty:=42) HZu.out Tryz.underlying42 rfl (by rw[HSz.out];exact Tryz.sizeS));have HLqu:=hide (Z.loadAt_row (P:=Tryz.prog) (ty:=55) HQb.out Tryz.underlying55 rfl (by rw[HQAz.out];exact Z.Tryz.sizeA));clear hQA
           go_upto_region 32 with (
             first
             | ((with_reducible show wpList _ _ _ (⟨_,.load 42 (.tmp 4),_,_,_,_⟩ :: _) _ _);refine Z.lp_load sb 0 SA rfl HLsu.out ?_)
             | ((with_reducible show wpList _ _ _ (⟨_,.load 55 (.tmp 12),_,_,_,_⟩ :: _) _ _);refine Z.lp_load bb 0 QA rfl HLqu.out ?_)
             | (go_at_call 14;refine HJu.out.mono ?_;rintro e yu ⟨up,un,uc,uq,um,ud,rfl,h7,h8,h9,hby⟩;(try dsimp only at h7 h8 h9);have HRu:=hide h9;have HNu:=hide (And.intro h7 h8);have HBy:=hide hby;clear h7 h8 h9 hby)
             | fail)
           have hnu:=heap_alloc_new yu (.cells #[.int .i64 oU,.slice up un uc,.slice uq um ud,.int .i64 0] 61);have hbn:Below yu.heap.size yu (yu.alloc (.cells #[.int .i64 oU,.slice up un uc,.slice uq um ud,.int .i64 0] 61)):=(Below.refl _ _).alloc (Nat.le_refl _) _;obtain⟨zu,hzu⟩:∃W,yu.alloc (.cells #[.int .i64 oU,.slice up un uc,.slice uq um ud,.int .i64 0] 61)=W:=⟨_,rfl⟩;rw[hzu]at hnu hbn ⊢;have HBn:Hid (Below w4.heap.size w4 zu):=HBy.out.trans (hbn.mono HBy.out.size);have hr1:=own_below HRu.out.1 hbn;have hr2:=own_below HRu.out.2 hbn;obtain⟨bu,hbu⟩:∃k,yu.heap.size=k:=⟨_,rfl⟩;rw[hbu]at hnu ⊢;have HXu:=hide hnu;have HPu:=hide (And.intro hr1 hr2);clear hzu hnu hbn hr1 hr2 HBy HRu hbu HJu HLsu HLqu HZu HQb HQAz;have HG3:=hide (HG.out.below HBw.out.size HBn.out);have hx5:=(HBn.out.block _ (ac_lt HX4.out)).trans HX4.out;have HP5:=hide (And.intro (own_below HP4.out.1 HBn.out) (own_below HP4.out.2 HBn.out));have q7:zu.cell? ⟨bb,7,none⟩=some (.int .i64 3):=by rw[cell_of_row _ _ _ _ _ _ HG3.out.bx];rfl
           have fz7:=frozen_of_row zu bb 7 _ _ HG3.out.bx
           have HRw:Hid (zu.setCell ⟨bb,7,none⟩ (.int .i64 0)=zu.setRow bb (plainA q st b.guards 0).arr):=by
            show _=_;rw[setCell_eq_setRow _ _ _ _ _ _ _ HG3.out.bx];rfl
           have HG4:=hide (HG3.out.put b.guards 0);have HP6:=hide (And.intro (own_row HP5.out.1 HG3.out.bx (by decide) (plainA q st b.guards 0).arr) (own_row HP5.out.2 HG3.out.bx (by decide) (plainA q st b.guards 0).arr));have hx6:=(setRow_other zu bb _ (plainA q st b.guards 0).arr (by rintro rfl;have h:=hx5;rw[HG3.out.bx]at h;cases h)).trans hx5;have HX6:=hide hx6;have HP7:=hide (And.intro (own_row HPu.out.1 HG3.out.bx (by decide) (plainA q st b.guards 0).arr) (own_row HPu.out.2 HG3.out.bx (by decide) (plainA q st b.guards 0).arr));have hx7:=(setRow_other zu bb _ (plainA q st b.guards 0).arr (by rintro rfl;have h:=HXu.out;rw[HG3.out.bx]at h;cases h)).trans HXu.out;have HX7:=hide hx7;clear hx5 hx6 hx7 HP4 HX4 HP5 HPu HXu HBn;go_upto_region 33 with (fail);rw[HRw.out];obtain⟨w5b,hw5⟩:∃W,zu.setRow bb (plainA q st b.guards 0).arr=W:=⟨_,rfl⟩;rw[hw5]at HG4 HP6 HX6 HP7 HX7 ⊢;clear hw5 HRw q7 fz7 HG3 HBw HG;have HG:=hide HG4.out;have HBw:=hide HG.out.bel;clear HG4;have HZv:Hid (w5b.heap[sb]?=some (.cells SA 42 (0,0))):=(HBw.out.block _ (ac_lt HZ7.out)).trans HZ7.out;obtain⟨QA,hQA⟩:∃X,(plainA q st b.guards 0).arr=X:=⟨_,rfl⟩;have HQAz:Hid (QA.size=15):=by show _=_;rw[←hQA];rfl
           have HQb:Hid (w5b.heap[bb]?=some (.cells QA 55 (0,0))):=by show _=_;rw[←hQA];exact HG.out.bx
           have HJv:=hide (judge9_any w5b s (HI7.out.st.ok.below HBw.out) (plainA q st b.guards 0) (HG.out.ok (HGk.out.below HBw.out)) (HWf.out b.guards 0));rw[HSe.out,hQA,HV.out]at HJv;have HLsv:=hide (Z.loadAt_row (P:=Tryz.prog) (ty:=42) HZv.out Tryz.underlying42 rfl (by rw[HSz.out];exact Tryz.sizeS));have HLqv:=hide (Z.loadAt_row (P:=Tryz.prog) (ty:=55) HQb.out Tryz.underlying55 rfl (by rw[HQAz.out];exact Z.Tryz.sizeA));clear hQA
           go_upto_region 34 with (
             first
             | ((with_reducible show wpList _ _ _ (⟨_,.load 42 (.tmp 4),_,_,_,_⟩ :: _) _ _);refine Z.lp_load sb 0 SA rfl HLsv.out ?_)
             | ((with_reducible show wpList _ _ _ (⟨_,.load 55 (.tmp 12),_,_,_,_⟩ :: _) _ _);refine Z.lp_load bb 0 QA rfl HLqv.out ?_)
             | (go_at_call 14;refine HJv.out.mono ?_;rintro e yv ⟨vp,vn,vc,vq,vm,vd,rfl,h7,h8,h9,hby⟩;(try dsimp only at h7 h8 h9);have HRv:=hide h9;have HNv:=hide (And.intro h7 h8);have HBy:=hide hby;clear h7 h8 h9 hby)
             | fail)
           have hnv:=heap_alloc_new yv (.cells #[.int .i64 oV,.slice vp vn vc,.slice vq vm vd,.int .i64 0] 61);have hbn:Below yv.heap.size yv (yv.alloc (.cells #[.int .i64 oV,.slice vp vn vc,.slice vq vm vd,.int .i64 0] 61)):=(Below.refl _ _).alloc (Nat.le_refl _) _;obtain⟨zv,hzv⟩:∃W,yv.alloc (.cells #[.int .i64 oV,.slice vp vn vc,.slice vq vm vd,.int .i64 0] 61)=W:=⟨_,rfl⟩;rw[hzv]at hnv hbn ⊢;have HBn:Hid (Below w5b.heap.size w5b zv):=HBy.out.trans (hbn.mono HBy.out.size);have hr1:=own_below HRv.out.1 hbn;have hr2:=own_below HRv.out.2 hbn;obtain⟨bv,hbv⟩:∃k,yv.heap.size=k:=⟨_,rfl⟩;rw[hbv]at hnv ⊢;have HXv:=hide hnv;have HPv:=hide (And.intro hr1 hr2);clear hzv hnv hbn hr1 hr2 HBy HRv hbv HJv HLsv HLqv HZv HQb HQAz;have HBz:Hid (Below w7.heap.size w7 zv):=HBw.out.trans (HBn.out.mono HBw.out.size);have HA3:Hid (zv.heap[ab]?=some (.cells A 55 (0,0))):=(HBz.out.block _ (ac_lt HAb.out)).trans HAb.out;have a5:zv.cell? ⟨ab,5,none⟩=some (.slice b.guards.p b.guards.n b.guards.c):=by rw[cell_of_row _ _ _ _ _ _ HA3.out,←HAe.out];rfl
           have HGd:=hide (guarded_gen zv s (HI7.out.st.ok.below HBz.out) b.guards.p b.guards.n b.guards.c b.guards.xs HGk.out.len (by have:=HGk.out.most;omega) (HGk.out.below HBz.out).cel);rw[HSe.out,show (b.guards.xs.all fun x=>s.guard x.a x.b x.n)=G from HG0.out]at HGd;have HLsz:=hide (Z.loadAt_row (P:=Tryz.prog) (ty:=42) ((HBz.out.block _ (ac_lt HZ7.out)).trans HZ7.out) Tryz.underlying42 rfl (by rw[HSz.out];exact Tryz.sizeS))
           go_upto_region 35 with (
             first
             | ((with_reducible show wpList _ _ _ (⟨_,.load 42 (.tmp 4),_,_,_,_⟩ :: _) _ _);refine Z.lp_load sb 0 SA rfl HLsz.out ?_)
             | (go_at_call 24;refine HGd.out.mono ?_;rintro e w8 ⟨rfl,hb8⟩;have HB8:=hide hb8;clear hb8)
             | fail)
           have HBz8:Hid (Below w7.heap.size w7 w8):=HBz.out.trans (HB8.out.mono HBz.out.size);have HBn8:=hide (HBn.out.trans (HB8.out.mono HBn.out.size));obtain⟨c0,c1,c2,-⟩:=cells4 ((HBn8.out.block _ (ac_lt HX6.out)).trans HX6.out);obtain⟨d0,d1,d2,-⟩:=cells4 ((HBn8.out.block _ (ac_lt HX7.out)).trans HX7.out);obtain⟨v0,-,-,-⟩:=cells4 ((HB8.out.block _ (ac_lt HXv.out)).trans HXv.out);have HEl:=hide (fun (W:World) (hW:Below w8.heap.size w8 W)=>eqLines_any W tp up tn un tc uc tl tl HNt.out.1.symm HNu.out.1.symm (by rw[HNt.out.1];have:=HL12.out.1;omega) (Z.cel_row (f:=linc) (sz:=2) (fun _=>rfl) (by rw[←lcells_flat];exact own_len (own_below (own_below HP6.out.1 HBn8.out) hW) HNt.out.1) HNt.out.1.symm) (Z.cel_row (f:=linc) (sz:=2) (fun _=>rfl) (by rw[←lcells_flat];exact own_len (own_below (own_below HP7.out.1 HBn8.out) hW) HNu.out.1) HNu.out.1.symm) true (by simp));have HEs:=hide (fun (W:World) (hW:Below w8.heap.size w8 W)=>eqSets_x W tq uq tm um td ud ts ts HNt.out.2.symm HNu.out.2.symm (by rw[HNt.out.2];have:=HL12.out.2;omega) (Z.cel_row (f:=tric) (sz:=3) (fun _=>rfl) (by rw[←rcells_flat];exact own_len (own_below (own_below HP6.out.2 HBn8.out) hW) HNt.out.2) HNt.out.2.symm) (Z.cel_row (f:=tric) (sz:=3) (fun _=>rfl) (by rw[←rcells_flat];exact own_len (own_below (own_below HP7.out.2 HBn8.out) hW) HNu.out.2) HNu.out.2.symm) true (by simp));obtain⟨e1,e2,e3,e4⟩:=HE.out;have HKc:=hide (fun (W:World) (hW:Below w8.heap.size w8 W)=>And.intro (cells4 ((hW.block _ (ac_lt ((HBn8.out.block _ (ac_lt HX6.out)).trans HX6.out))).trans ((HBn8.out.block _ (ac_lt HX6.out)).trans HX6.out))) (And.intro (cells4 ((hW.block _ (ac_lt ((HBn8.out.block _ (ac_lt HX7.out)).trans HX7.out))).trans ((HBn8.out.block _ (ac_lt HX7.out)).trans HX7.out))) (cells4 ((hW.block _ (ac_lt ((HB8.out.block _ (ac_lt HXv.out)).trans HXv.out))).trans ((HB8.out.block _ (ac_lt HXv.out)).trans HXv.out)))));clear HGd HLsz a5 HA3;cases F <;> cases G;all_goals (go_wp2_with (first | (go_at_call 26;refine(HEs.out _ HB10.out).mono ?_;rintro e w11 ⟨rfl,hb11⟩;have HB11:=hide (HB10.out.trans (hb11.mono HB10.out.size));obtain⟨⟨c0,c1,c2,-⟩,⟨d0,d1,d2,-⟩,⟨v0,-,-,-⟩⟩:=HKc.out _ HB11.out;clear hb11) | (go_at_call 25;refine(HEl.out w8 (Below.refl _ _)).mono ?_;rintro e w10 ⟨rfl,hb10⟩;have HB10:=hide hb10;obtain⟨⟨c0,c1,c2,-⟩,⟨d0,d1,d2,-⟩,⟨v0,-,-,-⟩⟩:=HKc.out _ hb10;clear hb10) | fail);go_meet;case rel=>exact HBz8.out.trans (HB11.out.mono HBz8.out.size))
     case rest =>
      obtain⟨w8,hw8⟩:∃W,wc=W:=⟨_,rfl⟩;rw[hw8]at hcut ⊢;have HB78:Hid (Below w7.heap.size w7 w8):=hcut;clear hcut hw8 wc;have HI8:=hide (HI7.out.below HB78.out);have HX8:=hide (HX7.out.below HB78.out);have HO8:Hid (w8.heap[ob]?=some (.cells O 57 (0,0))):=(HB78.out.block _ (ac_lt HO7.out)).trans HO7.out;have HZ8:Hid (w8.heap[sb]?=some (.cells SA 42 (0,0))):=(HB78.out.block _ (ac_lt HZ7.out)).trans HZ7.out;clear HI7 HX7 HO7 HZ7 HB78 HAb HBo7 HBc HCn HB57;have HBh:Hid (Calls Tryz.prog 19 #[.agg c.arr,.agg s.arr,.agg x.arr] w8 (BehP w8 c s)):=behind_any w8 c cs HI8.out.cfg H1t.out Hc1.out s HI8.out.st x HX8.out;rw[HD.out,HSe.out,HOe.out]at HBh;have HLd8:=hide (Z.loadAt_row (P:=Tryz.prog) (ty:=34) HI8.out.kb Tryz.underlying34 rfl (by rw[HDs.out];exact Tryz.sizeC));have HLs8:=hide (Z.loadAt_row (P:=Tryz.prog) (ty:=42) HZ8.out Tryz.underlying42 rfl (by rw[HSz.out];exact Tryz.sizeS));have HLo8:=hide (Z.loadAt_row (P:=Tryz.prog) (ty:=57) HO8.out Tryz.underlying57 rfl (by rw[HOz.out];exact Tryz.sizeO))
      go_upto_region 5 with (
        first
        | ((with_reducible show wpList _ _ _ (⟨_,.load 34 (.tmp 3),_,_,_,_⟩ :: _) _ _);refine Z.lp_load cb 0 D rfl HLd8.out ?_)
        | ((with_reducible show wpList _ _ _ (⟨_,.load 42 (.tmp 4),_,_,_,_⟩ :: _) _ _);refine Z.lp_load sb 0 SA rfl HLs8.out ?_)
        | ((with_reducible show wpList _ _ _ (⟨_,.load 57 (.tmp 6),_,_,_,_⟩ :: _) _ _);refine Z.lp_load ob 0 O rfl HLo8.out ?_)
        | (go_at_call 19;refine HBh.out.mono ?_;rintro e w9 ⟨r,rfl,hrg,hro,hb9⟩;have HI9:Hid (Gs w (w9.setRow sb r.arr) P D cb sb c cs r):=(HI8.out.below hb9).put hrg hro;have HZ9:Hid (w9.heap[sb]?=some (.cells SA 42 (0,0))):=((hb9.block _ (ac_lt HZ8.out)).trans HZ8.out);obtain⟨RA,hRA⟩:∃X,r.arr=X:=⟨_,rfl⟩;have HRz:Hid (RA.size=6):=(by show _=_;rw[←hRA];rfl);have HRn:Hid (RA.all (·.oneCell')=true):=(by show _=_;rw[←hRA];simp[Sta.arr,Value.oneCell']);rw[hRA]at HI9;rw[hRA];clear hrg hro hb9 hRA)
        | ((with_reducible show wpList _ _ _ (⟨_,.store 42 (.tmp 4) _,_,_,_,_⟩ :: _) _ _);refine Z.lp_store (t:=42) (x:=.tmp 4) (some ⟨sb,0,none⟩) (.agg RA) rfl rfl (Z.storeAt_row HZ9.out (by rw[HRz.out];exact Tryz.sizeS) (by rw[HSz.out,HRz.out]) HRn.out) ?_)
        | fail)
      go_wp2;go_roundw;case rel=>exact⟨i+1,r,by omega,by go_num,HI9⟩
      case measure=>simp[intOf];omega
   ·have hBf:B=false:=by rw[hB];simp only[Bool.and_eq_false_iff,decide_eq_false_iff_not];omega
    subst hBf;clear hB p9;have HWk:=hide (wakes_any wr);have HBe:Hid (Below w.heap.size w wr):=HI.out.bel;clear HI;go_wp2_with (first | (go_at_call 20;refine HWk.out.mono ?_;rintro e w9 ⟨rfl,hb⟩;have HB9:=hide (HBe.out.trans (hb.mono HBe.out.size));clear hb) | fail)
    go_ret;exact⟨rfl,HB9.out⟩
end Go.Proofs.YtiogibfhafoapaaGreat
