import Derived.Deep.CutRange
import Derived.Test.YtiogibfhafoapaaGreatAbZ
import Derived.Test.YtiogibfhafoapaaGreatScO
import Derived.Test.YtiogibfhafoapaaGreatCfB
import Derived.Test.YtiogibfhafoapaaGreatBhB
import Derived.Test.YtiogibfhafoapaaGreatWkF
import Derived.ProofKit
import Derived.SizedLaws
import Derived.Test.YtiogibfhafoapaaGreatRows
set_option maxRecDepth 100000
set_option maxHeartbeats 8000000
set_option linter.unusedSimpArgs false
set_option linter.unusedVariables false
namespace Go.Proofs.YtiogibfhafoapaaGreat
open Go.RowKit Go.Sort
open Z (Sli SlOk SlOwn Elt Acd AcdOk AcOwn Ctr ctc CtrB PrcB CfgMade)
structure Gf (w1 w W:World) (P D:Array Value) (cb sb:Nat) (c:Cfg) (cs:List Ctr) (s:Sta):Prop extends Gs w W P D cb sb c cs s where
 b1:Below w1.heap.size w1 W
 l1:w1.heap.size≤sb
theorem Gf.below {w1 w W W':World} {P D:Array Value} {cb sb:Nat} {c:Cfg} {cs:List Ctr} {s:Sta} (h:Gf w1 w W P D cb sb c cs s) (hb:Below W.heap.size W W'):Gf w1 w W' P D cb sb c cs s :=
 ⟨h.toGs.below hb,h.b1.trans (hb.mono h.b1.size),h.l1⟩
theorem Gf.put {w1 w W:World} {P D:Array Value} {cb sb:Nat} {c:Cfg} {cs:List Ctr} {s r:Sta} (h:Gf w1 w W P D cb sb c cs s) (hr:StG W c r) (ho:(∃B,StaOw B W r)∨r=s):Gf w1 w (W.setRow sb r.arr) P D cb sb c cs r :=
 ⟨h.toGs.put hr ho,below_setRow h.b1 h.l1 _,h.l1⟩
theorem filter_len {α:Type} (p:α→Bool) (xs:List α):(xs.filter p).length≤xs.length:=List.length_filter_le _ _
theorem judge_len (s:Sta) (a:Acd) (n:Nat) (h1:a.lines.xs.length≤n) (h2:a.other.xs.length≤n) (h3:a.sets.xs.length≤n):(judgeT s a).2.1.length≤n∧(judgeT s a).2.2.1.length≤n:=by
 have hc:(cutT s (a.lines.xs.map triOf)).2.length≤n:=Nat.le_trans (cutT_len s _) (by rw[List.length_map];exact h1);have hf:((a.sets.xs.filter s.want).map s.raise).length≤n:=by rw[List.length_map];exact Nat.le_trans (filter_len _ _) h3
 have hm:(a.sets.xs.map s.raise).length≤n:=by rw[List.length_map];exact h3
 unfold judgeT writeT mergeT clampT;repeat' split
 all_goals first | exact⟨Nat.zero_le _,Nat.zero_le _⟩ | exact⟨h1,hm⟩ | exact⟨h1,Nat.zero_le _⟩ | exact⟨hc,hf⟩ | exact⟨h2,Nat.zero_le _⟩
theorem own_len2 {W:World} {B k n m:Nat} {e:TypeId} {v:Value} {xs:List Value} (h:W.ownsRow B e k v n xs) (hn:m=n):W.ownsRow B e k v m xs:=by rw[hn];exact h
theorem only_all (w:World) (d:Scd) (hctr:SlOk w 3 tric d.p.ctr) (hprc:SlOk w 1 (fun n:Int=>[Value.int .i64 n]) d.p.prc) (hst:SlOk w 20 Stp.list d.st) (hact:∀o∈d.st.xs,AcdOk w o.ac) :
  Calls Tryz.prog 6 #[.agg d.arr] w fun e w'=>e=.returned (.bool true)∧Below w.heap.size w w':=by
 obtain⟨P,hP⟩:∃P:Array Value,d.arr=P:=⟨_,rfl⟩;rw[hP];obtain⟨w0,hw0⟩:∃W,w.alloc (.cells P 28)=W:=⟨_,rfl⟩;have hb0:Below w.heap.size w w0:=by rw[←hw0];exact(Below.refl _ w).alloc (Nat.le_refl _) _
 have hbox:w0.heap[w.heap.size]?=some (.cells P 28 (0,0)):=by rw[←hw0];exact heap_alloc_new _ _
 have HPc:Hid (∀W:World,W.heap[w.heap.size]?=some (.cells P 28 (0,0))→W.cell? ⟨w.heap.size,9,none⟩=some (.slice d.st.p d.st.n d.st.c)):=fun W h=>by
  rw[cell_of_row _ _ _ _ _ _ h,←hP];rfl
 obtain⟨PC,hPC⟩:∃X,d.p.arr=X:=⟨_,rfl⟩
 have HLc:Hid ((Instr.loadAt 25 (.pointer (some ⟨w.heap.size,0,none⟩))).run Tryz.prog w0=.ok (.agg PC) w0):=by
  show _=_
  have h:=run_loadAt_mid (P:=Tryz.prog) w0 w.heap.size 0 25 d.p.arr.toList _ (fun j v hv=>by
   rw[cell_of_row _ _ _ _ _ _ hbox,←hP];have hj:=(List.getElem?_eq_some_iff.1 hv).1;rw[←Array.getElem?_toList];show (d.p.arr.toList++[Value.slice d.st.p d.st.n d.st.c])[0+j]?=_;rw[Nat.zero_add,List.getElem?_append_left hj];exact hv) Tryz.underlying25 rfl (by kernel_rfl)
  rw[←hPC];simpa using h
 have HCf:=hide (Z.config_any w0 d.p (⟨hctr.len,hctr.most,hctr.cel.below hb0⟩:SlOk w0 3 tric d.p.ctr) (⟨hprc.len,hprc.most,hprc.cel.below hb0⟩:SlOk w0 1 (fun n:Int=>[Value.int .i64 n]) d.p.prc) PC hPC);have HSt:=hide hst;have HAc:=hide hact;have hstl:d.st.n≤4194304:=hst.most;have hstx:d.st.xs.length=d.st.n:=hst.len;have HW0:=hide hw0;have HB0:=hide hb0;have HBx:=hide hbox;clear hw0 hb0 hbox hP hPC hctr hprc hst hact;go_enter Tryz.func6,Tryz.ntmps6;go_upto_region 1 with (fail);rw[HW0.out]
 go_upto_region 2 with (
   first
   | ((with_reducible show wpList _ _ _ (⟨_,.load 25 (.tmp 10),_,_,_,_⟩ :: _) _ _);refine Z.lp_load w.heap.size 0 PC rfl HLc.out ?_)
   | (go_at_call 10;refine HCf.out.mono ?_;rintro e w1 ⟨c,rfl,hc1,hc2,hc3,hcm,hb1⟩;have HB1:=hide hb1;have Hc1:=hide hc1;have Hc2:=hide hc2;have HCm:=hide hcm;obtain⟨D,hD⟩:∃D,c.arr=D:=⟨_,rfl⟩;have HDs:Hid (D.size=9):=(by show _=_;rw[←hD];rfl);have HDo:Hid (D.all (·.oneCell')=true):=(by show _=_;rw[←hD];exact Z.cfg_ones c);rw[show c.v=Value.agg D from by rw[←hD];rfl];have HD:=hide hD;clear hc1 hc2 hc3 hcm hb1 hD)
   | ((with_reducible show wpList _ _ _ (⟨_,.store 34 (.tmp 3) _,_,_,_,_⟩ :: _) _ _);refine Z.lp_store (t:=34) (x:=.tmp 3) (some ⟨w1.heap.size,0,none⟩) (.agg D) rfl rfl (run_storeAt_new w1 _ _ D (by rw[HDs.out];exact Tryz.sizeC) (by rw[HDs.out];rfl) HDo.out) ?_)
   | fail)
 try dsimp only[Act.put]
 have hk2:=heap_alloc_new w1 (.cells D 34);have hb2:Below w1.heap.size w1 (w1.alloc (.cells D 34)):=(Below.refl _ _).alloc (Nat.le_refl _) _;obtain⟨w2,hw2⟩:∃W,w1.alloc (.cells D 34)=W:=⟨_,rfl⟩;rw[hw2]at hk2 hb2 ⊢;obtain⟨cb,hcb⟩:∃k,w1.heap.size=k:=⟨_,rfl⟩;rw[hcb]at hk2 ⊢;have HKb:=hide hk2;have HB12:=hide hb2;clear hw2 hk2 hb2 HLc HCf;obtain⟨ht1,hpl,⟨cs,cs1,cs2,cs3⟩,⟨ps,ps1,ps2,ps3⟩⟩:=HCm.out;have ht2:=Int.emod_nonneg d.p.tills (show (8:Int)≠0 by omega);have ht3:=Int.emod_lt_of_pos d.p.tills (show (0:Int)<8 by omega);obtain⟨T,hT⟩:∃T:Nat,c.tills=(T:Int):=⟨c.tills.toNat,by omega⟩;have HCfg:Hid (CfgOk w1 c cs):=⟨cs1,cs2,by have:=Hc2.out;omega,by omega,by omega,cs3⟩;have HFi:Hid (Calls Tryz.prog 11 #[.agg c.arr] w2 fun e w'=>∃S:Sta,e=.returned (.agg S.arr)∧S.d=firD T c.cl c.pl T cs ps∧StaOw w2.heap.size w' S∧Below w2.heap.size w2 w'):=rfirst_any w2 c cs ps Hc2.out hpl T hT (by omega) cs1 (cs2.below HB12.out) cs3 ps1 (ps2.below HB12.out);rw[HD.out]at HFi;have HFa:Hid (∀W,Below w1.heap.size w1 W→Calls Tryz.prog 11 #[.agg c.arr] W fun e w'=>∃S:Sta,e=.returned (.agg S.arr)∧S.d=firD T c.cl c.pl T cs ps∧StaOw W.heap.size w' S∧Below W.heap.size W w'):=fun W h=>rfirst_any W c cs ps Hc2.out hpl T hT (by omega) cs1 (cs2.below h) cs3 ps1 (ps2.below h)
 have HLd:=hide (Z.loadAt_row (P:=Tryz.prog) (ty:=34) HKb.out Tryz.underlying34 rfl (by rw[HDs.out];exact Tryz.sizeC));have H1t:Hid (1≤c.tills):=by show _≤_;omega
 have HTl:Hid (c.tills=(T:Int)):=hT;have HPs:=hide ps1;have HCs:=hide (And.intro cs1 cs3);clear ht1 hpl ht2 ht3 cs1 cs2 cs3 ps1 ps2 ps3 hT HCm
 go_upto_region 3 with (
   first
   | ((with_reducible show wpList _ _ _ (⟨_,.load 34 (.tmp 3),_,_,_,_⟩ :: _) _ _);refine Z.lp_load cb 0 D rfl HLd.out ?_)
   | (go_at_call 11;refine HFi.out.mono ?_;rintro e w3 ⟨S0,rfl,hsd,hso,hb3⟩;have HSd:=hide hsd;have HSo:=hide hso;have HB3:=hide hb3;obtain⟨SA,hSA⟩:∃X,S0.arr=X:=⟨_,rfl⟩;have HSA:=hide hSA;have HSz:Hid (SA.size=6):=(by show _=_;rw[←hSA];rfl);have HSn:Hid (SA.all (·.oneCell')=true):=(by show _=_;rw[←hSA];simp[Sta.arr,Value.oneCell']);rw[hSA];clear hsd hso hb3 hSA)
   | ((with_reducible show wpList _ _ _ (⟨_,.store 42 (.tmp 4) _,_,_,_,_⟩ :: _) _ _);refine Z.lp_store (t:=42) (x:=.tmp 4) (some ⟨w3.heap.size,0,none⟩) (.agg SA) rfl rfl (run_storeAt_new w3 _ qs SA (by rw[HSz.out];exact Tryz.sizeS) (by rw[HSz.out];rfl) HSn.out) ?_)
   | fail)
 try dsimp only[Act.put]
 have hk4:=heap_alloc_new w3 (.cells SA 42);have hb4:Below w3.heap.size w3 (w3.alloc (.cells SA 42)):=(Below.refl _ _).alloc (Nat.le_refl _) _;obtain⟨w4,hw4⟩:∃W,w3.alloc (.cells SA 42)=W:=⟨_,rfl⟩;rw[hw4]at hk4 hb4 ⊢;obtain⟨sb,hsb⟩:∃k,w3.heap.size=k:=⟨_,rfl⟩;have hlt:w1.heap.size≤sb:=by rw[←hsb];have h1:=HB12.out.size;have h2:=HB3.out.size;omega
 rw[hsb]at hk4 ⊢;have HB14:Below w1.heap.size w1 w4:=HB12.out.trans ((HB3.out.trans (hb4.mono HB3.out.size)).mono HB12.out.size);have HB24:Below w2.heap.size w2 w4:=HB3.out.trans (hb4.mono HB3.out.size);have HB04:Below w0.heap.size w0 w4:=HB1.out.trans (HB14.mono HB1.out.size);have HI0:Hid (Gf w1 w w4 P D cb sb c cs S0):=⟨⟨(HB04.block _ (ac_lt HBx.out)).trans HBx.out,(HB24.block _ (ac_lt HKb.out)).trans HKb.out,by rw[HSA.out];exact hk4,⟨w1,HCfg.out,HB14,hlt⟩,⟨(HSo.out.below hb4).ok,fir_shp HSo.out HSd.out HCs.out.1 HPs.out HTl.out,fir_frw HSd.out HCs.out.2⟩,⟨_,HSo.out.below hb4⟩,by have h1:=HB0.out.size;have h2:=HB1.out.size;omega,HB0.out.trans (HB04.mono HB0.out.size)⟩,HB14,hlt⟩;clear hw4 hsb hk4 hb4 hlt HB14 HB24 HB04 HFi HLd HB3 HSo HSd HKb HB12 HB1 HBx HSA HSz HSn;go_wp2;go_loopw [5] (fun iv wr=>∃(i:Nat) (s:Sta),i≤d.st.n∧iv=.int .i64 i∧Hid (Gf w1 w wr P D cb sb c cs s)) (fun iv _=>d.st.n - (intOf iv).toNat);case atStart=>exact⟨0,S0,Nat.zero_le _,rfl,HI0⟩
 case round =>
  clear HI0 S0;obtain⟨i,s,hi,rfl,HI⟩:=hrel;have p9:=HPc.out wr HI.out.lb;obtain⟨B,hB⟩:∃B:Bool,B=(decide (i<d.st.n) && decide (i<300)):=⟨_,rfl⟩;go_upto_region 4 with (fail);go_cut [23] from 1 to 0 (fun sv wc=>sv=.bool B∧Hid (wc=wr))
  case first =>
   by_cases h1:i<d.st.n
   ·have h1i:(i:Int)<(d.st.n:Int):=by omega
    by_cases h2:i<300
    ·have h2i:(i:Int)<300:=by omega
     have hBt:B=true:=by rw[hB];simp[h1,h2]
     clear hB;go_wp2;go_meet;case rel=>exact⟨by rw[hBt],rfl⟩
    ·have h2i:¬(i:Int)<300:=by omega
     have hBt:B=false:=by rw[hB];simp[h2]
     clear hB;go_wp2;go_meet;case rel=>exact⟨by rw[hBt],rfl⟩
   ·have h1i:¬(i:Int)<(d.st.n:Int):=by omega
    have hBt:B=false:=by rw[hB];simp[h1]
    clear hB;go_wp2;go_meet;case rel=>exact⟨by rw[hBt],rfl⟩
  case rest =>
   obtain⟨rfl,hwc⟩:=hcut;rw[show wc=wr from hwc.out];clear hwc wc;by_cases hgo:i<d.st.n∧i<300
   ·obtain⟨h1,h2⟩:=hgo
    have hBt:B=true:=by rw[hB];simp[h1,h2]
    subst hBt;clear hB;have h1i:(i:Int)<(d.st.n:Int):=by omega
    have i0:(0:Int)≤(i:Int):=by omega
    obtain⟨x,hx⟩:∃x,d.st.xs[i]?=some x:=⟨_,List.getElem?_eq_getElem (by omega)⟩;obtain⟨gb,go,eg,hgb,hgc⟩:=HSt.out.cel.get (i:=i) (r:=Stp.list x) (by rw[List.getElem?_map,hx];rfl);obtain⟨O,hO⟩:∃O,x.arr=O:=⟨_,rfl⟩;have HOz:Hid (O.size=20):=by show _=_;rw[←hO];rfl
    have HOn:Hid (O.all (·.oneCell')=true):=by show _=_;rw[←hO];simp[Stp.arr,Value.oneCell']
    have HLo:Hid ((Instr.loadAt 57 (.pointer (some ⟨gb,go+i*20,none⟩))).run Tryz.prog wr=.ok (.agg O) wr):=by
     have h:=run_loadAt_mid (P:=Tryz.prog) wr gb (go+i*20) 57 x.list _ (fun j v hv=>(HI.out.bel.cell (p:=⟨gb,go+i*20+j,none⟩) hgb).trans (hgc j v hv)) Tryz.underlying57 rfl (by kernel_rfl);show _=_;rw[←hO];exact h
    rw[eg]at p9;have HOe:=hide hO;have HXk:=hide ((HAc.out x (List.mem_of_getElem? hx)).below HI.out.bel);clear hx eg hgb hgc hO
    go_upto_region 7 with (
      first
      | ((with_reducible show wpList _ _ _ (⟨_,.load 57 (.tmp 29),_,_,_,_⟩ :: _) _ _);refine Z.lp_load gb (go+i*20) O rfl HLo.out ?_)
      | ((with_reducible show wpList _ _ _ (⟨_,.store 57 (.tmp 6) _,_,_,_,_⟩ :: _) _ _);refine Z.lp_store (t:=57) (x:=.tmp 6) (some ⟨wr.heap.size,0,none⟩) (.agg O) rfl rfl (run_storeAt_new wr _ _ O (by rw[HOz.out];exact Tryz.sizeO) (by rw[HOz.out];rfl) HOn.out) ?_)
      | fail)
    try dsimp only[Act.put]
    have ho5:=heap_alloc_new wr (.cells O 57);have hb5:Below wr.heap.size wr (wr.alloc (.cells O 57)):=(Below.refl _ _).alloc (Nat.le_refl _) _;obtain⟨w5,hw5⟩:∃W,wr.alloc (.cells O 57)=W:=⟨_,rfl⟩;rw[hw5]at ho5 hb5 ⊢;obtain⟨ob,hob⟩:∃k,wr.heap.size=k:=⟨_,rfl⟩;rw[hob]at ho5 ⊢;have HI5:=hide (HI.out.below hb5);have HX5:=hide (HXk.out.below hb5);have HOb:=hide ho5;obtain⟨SA,hSA⟩:∃X,s.arr=X:=⟨_,rfl⟩;have HSe:=hide hSA;have HSz:Hid (SA.size=6):=by show _=_;rw[←hSA];rfl
    have HZ5:Hid (w5.heap[sb]?=some (.cells SA 42 (0,0))):=by show _=_;rw[←hSA];exact HI5.out.zb
    clear hw5 hob ho5 hb5 HLo HXk hSA p9 HI;have o0:w5.cell? ⟨ob,0,none⟩=some (.int .i64 x.do_):=by rw[cell_of_row _ _ _ _ _ _ HOb.out,←HOe.out];rfl
    obtain⟨b1,hb1⟩:∃z,(x.do_ == 1)=z:=⟨_,rfl⟩;obtain⟨b2,hb2⟩:∃z,(x.do_ == 2)=z:=⟨_,rfl⟩;go_cut [38] from 1 to 0 (fun sv wc=>∃B,sv=.bool B∧Hid (wc=w5))
    case first =>
     cases b1 <;> cases b2;all_goals (go_wp2;go_meet;case rel=>exact⟨_,rfl,rfl⟩)
    case rest =>
     obtain⟨B,rfl,hwc⟩:=hcut;rw[show wc=w5 from hwc.out];clear hwc wc o0 hb1 hb2 b1 b2;go_upto_if 38 with (fail);go_cut [] from 1 to 0 (fun wz=>Hid (Below w5.heap.size w5 wz))
     case first =>
      have HBr:Hid (Below w5.heap.size w5 w5):=Below.refl _ _
      cases B with
      | false =>
       go_wp2;go_meet;case rel=>exact HBr
      | true =>
       have HA5:Hid (Calls Tryz.prog 12 #[.agg c.arr,.agg s.arr,.agg x.arr] w5 fun e w'=>∃b:Acd,e=.returned (.agg b.arr)∧b.d=actD s c.tills x.ac.d∧AcOwn w5.heap.size w' b∧Below w5.heap.size w5 w'):=act_any w5 c s HI5.out.st.ok (by have:=HI5.out.st.shp.ln;omega) ⟨H1t.out,HI5.out.cfg.tills.2⟩ x HX5.out;rw[HD.out,HSe.out,HOe.out]at HA5;have HLd5:=hide (Z.loadAt_row (P:=Tryz.prog) (ty:=34) HI5.out.kb Tryz.underlying34 rfl (by rw[HDs.out];exact Tryz.sizeC));have HLs5:=hide (Z.loadAt_row (P:=Tryz.prog) (ty:=42) HZ5.out Tryz.underlying42 rfl (by rw[HSz.out];exact Tryz.sizeS));have HLo5:=hide (Z.loadAt_row (P:=Tryz.prog) (ty:=57) HOb.out Tryz.underlying57 rfl (by rw[HOz.out];exact Tryz.sizeO))
       go_upto_region 9 with (
         first
         | ((with_reducible show wpList _ _ _ (⟨_,.load 34 (.tmp 3),_,_,_,_⟩ :: _) _ _);refine Z.lp_load cb 0 D rfl HLd5.out ?_)
         | ((with_reducible show wpList _ _ _ (⟨_,.load 42 (.tmp 4),_,_,_,_⟩ :: _) _ _);refine Z.lp_load sb 0 SA rfl HLs5.out ?_)
         | ((with_reducible show wpList _ _ _ (⟨_,.load 57 (.tmp 6),_,_,_,_⟩ :: _) _ _);refine Z.lp_load ob 0 O rfl HLo5.out ?_)
         | (go_at_call 12;refine HA5.out.mono ?_;rintro e w6 ⟨b,rfl,hbd,hbo,hb6⟩;have HBd:=hide hbd;have HBo:=hide hbo;have HB6:=hide hb6;obtain⟨A,hA⟩:∃X,b.arr=X:=⟨_,rfl⟩;have HAe:=hide hA;have HAz:Hid (A.size=15):=(by show _=_;rw[←hA];rfl);have HAn:Hid (A.all (·.oneCell')=true):=(by show _=_;rw[←hA];exact b.ones);rw[hA];clear hbd hbo hb6 hA)
         | ((with_reducible show wpList _ _ _ (⟨_,.store 55 (.tmp 7) _,_,_,_,_⟩ :: _) _ _);refine Z.lp_store (t:=55) (x:=.tmp 7) (some ⟨w6.heap.size,0,none⟩) (.agg A) rfl rfl (run_storeAt_new w6 _ _ A (by rw[HAz.out];exact Z.Tryz.sizeA) (by rw[HAz.out];rfl) HAn.out) ?_)
         | fail)
       try dsimp only[Act.put]
       have ha7:=heap_alloc_new w6 (.cells A 55);have hb7:Below w6.heap.size w6 (w6.alloc (.cells A 55)):=(Below.refl _ _).alloc (Nat.le_refl _) _;obtain⟨w7,hw7⟩:∃W,w6.alloc (.cells A 55)=W:=⟨_,rfl⟩;rw[hw7]at ha7 hb7 ⊢;obtain⟨ab,hab⟩:∃k,w6.heap.size=k:=⟨_,rfl⟩;rw[hab]at ha7 ⊢;have HB57:Hid (Below w5.heap.size w5 w7):=HB6.out.trans (hb7.mono HB6.out.size);have HI7:=hide (HI5.out.below HB57.out);have HX7:=hide (HX5.out.below HB57.out);have HO7:Hid (w7.heap[ob]?=some (.cells O 57 (0,0))):=(HB57.out.block _ (ac_lt HOb.out)).trans HOb.out;have HZ7:Hid (w7.heap[sb]?=some (.cells SA 42 (0,0))):=(HB57.out.block _ (ac_lt HZ5.out)).trans HZ5.out;have HAb:=hide ha7;have HBo7:=hide (HBo.out.below hb7);clear hw7 hab hb7 ha7 HB6 HA5 HLd5 HLs5 HLo5 HI5 HX5 HZ5 HOb HBo;have HCk:Hid (Calls Tryz.prog 13 #[.agg c.arr,.agg b.arr] w7 fun e w'=>∃V,e=.returned (.int .i64 V)∧ChkV c b V∧Below w7.heap.size w7 w'):=rcheck_any w7 c b HBo7.out.ok HI7.out.cfg.cl HI7.out.cfg.pl HI7.out.cfg.tills;rw[HD.out,HAe.out]at HCk;have HLd7:=hide (Z.loadAt_row (P:=Tryz.prog) (ty:=34) HI7.out.kb Tryz.underlying34 rfl (by rw[HDs.out];exact Tryz.sizeC));have HLa7:=hide (Z.loadAt_row (P:=Tryz.prog) (ty:=55) HAb.out Tryz.underlying55 rfl (by rw[HAz.out];exact Z.Tryz.sizeA))
       go_upto_if 46 with (
         first
         | ((with_reducible show wpList _ _ _ (⟨_,.load 34 (.tmp 3),_,_,_,_⟩ :: _) _ _);refine Z.lp_load cb 0 D rfl HLd7.out ?_)
         | ((with_reducible show wpList _ _ _ (⟨_,.load 55 (.tmp 7),_,_,_,_⟩ :: _) _ _);refine Z.lp_load ab 0 A rfl HLa7.out ?_)
         | (go_at_call 13;refine HCk.out.mono ?_;rintro e w9 ⟨V,rfl,hV,hb9⟩;obtain⟨z,hz⟩:∃z,(V == 0)=z:=⟨_,rfl⟩;have HV:=hide (And.intro hV hz);have HB9:=hide hb9;clear hV hb9)
         | fail)
       clear HCk HLd7 HLa7 hz
       cases z with
       | false =>
        have HBz:Hid (Below w5.heap.size w5 w9):=HB57.out.trans (HB9.out.mono HB57.out.size);go_wp2;go_meet;case rel=>exact HBz
       | true =>
        have hck:ChkV c b 0:=by have h1:=HV.out.2;have e:V=0:=(by simpa using h1);rw[←e];exact HV.out.1
        have HRg:=hide (chk_rg hck HI7.out.st.shp HI7.out.cfg.cl);have HI9:=hide (HI7.out.below HB9.out);have HBo9:=hide (HBo7.out.below HB9.out);have HA9:Hid (w9.heap[ab]?=some (.cells A 55 (0,0))):=(HB9.out.block _ (ac_lt HAb.out)).trans HAb.out;have HZ9:Hid (w9.heap[sb]?=some (.cells SA 42 (0,0))):=(HB9.out.block _ (ac_lt HZ7.out)).trans HZ7.out;have HB59:Hid (Below w5.heap.size w5 w9):=HB57.out.trans (HB9.out.mono HB57.out.size);clear hck HV HI7 HBo7 HAb HX7 HB9 HB57 HZ7 HBr HO7;have HWf:Hid (AcWf b):=⟨HRg.out.act.lwf,HRg.out.act.owf⟩;obtain⟨J,hJ⟩:∃J,judgeT s b=J:=⟨_,rfl⟩;have HJe:=hide hJ;have HJl:=hide (judge_len s b 4194304 (by rw[HBo9.out.lines.2.1];exact HBo9.out.lines.2.2) (by rw[HBo9.out.other.2.1];exact HBo9.out.other.2.2) (by rw[HBo9.out.sets.2.1];exact HBo9.out.sets.2.2));rw[hJ]at HJl
        have HJu:Hid (∀(W:World) (X:Sta) (XA:Array Value),Below w9.heap.size w9 W→StaOk W X→judgeT X b=J→X.arr=XA→Calls Tryz.prog 14 #[.agg XA,.agg A] W fun e w'=>∃vp vn vc up un uc,e=.returned (.agg #[.int .i64 J.1,.slice vp vn vc,.slice up un uc,.int .i64 J.2.2.2])∧vn=J.2.1.length∧un=J.2.2.1.length∧TwoRows W.heap.size w' (.slice vp vn vc) (.slice up un uc) J.2.1 J.2.2.1∧Below W.heap.size W w'):=fun W X XA hW hX he hx=>by
         have h:=judge9_any W X hX b (HBo9.out.ok.below hW) HWf.out;rw[hx,HAe.out,he]at h;exact h
        clear hJ;obtain⟨r1,L,M,r4⟩:=J;dsimp only at HJu HJl;have HLst:=hide (Z.loadAt_row (P:=Tryz.prog) (ty:=42) HZ9.out Tryz.underlying42 rfl (by rw[HSz.out];exact Tryz.sizeS));have HLat:=hide (Z.loadAt_row (P:=Tryz.prog) (ty:=55) HA9.out Tryz.underlying55 rfl (by rw[HAz.out];exact Z.Tryz.sizeA));have HJt:=hide (HJu.out w9 s SA (Below.refl _ _) HI9.out.st.ok HJe.out HSe.out)
        go_upto_region 11 with (
          first
          | ((with_reducible show wpList _ _ _ (⟨_,.load 42 (.tmp 4),_,_,_,_⟩ :: _) _ _);refine Z.lp_load sb 0 SA rfl HLst.out ?_)
          | ((with_reducible show wpList _ _ _ (⟨_,.load 55 (.tmp 7),_,_,_,_⟩ :: _) _ _);refine Z.lp_load ab 0 A rfl HLat.out ?_)
          | (go_at_call 14;refine HJt.out.mono ?_;rintro e yt ⟨tp,tn,tc,tq,tm,td,rfl,h7,h8,h9,hby⟩;(try dsimp only at h7 h8 h9);have HRt:=hide h9;have HNt:=hide (And.intro h7 h8);have HBy:=hide hby;clear h7 h8 h9 hby)
          | fail)
        have hnt:=heap_alloc_new yt (.cells #[.int .i64 r1,.slice tp tn tc,.slice tq tm td,.int .i64 r4] 61);have hbn:Below yt.heap.size yt (yt.alloc (.cells #[.int .i64 r1,.slice tp tn tc,.slice tq tm td,.int .i64 r4] 61)):=(Below.refl _ _).alloc (Nat.le_refl _) _;obtain⟨zt,hzt⟩:∃W,yt.alloc (.cells #[.int .i64 r1,.slice tp tn tc,.slice tq tm td,.int .i64 r4] 61)=W:=⟨_,rfl⟩;rw[hzt]at hnt hbn ⊢;have HBt:Hid (Below w9.heap.size w9 zt):=HBy.out.trans (hbn.mono HBy.out.size);have hr1:=own_below HRt.out.1 hbn;have hr2:=own_below HRt.out.2 hbn;obtain⟨bt,hbt⟩:∃k,yt.heap.size=k:=⟨_,rfl⟩;rw[hbt]at hnt ⊢;have HXt:=hide hnt;have HPt:=hide (And.intro hr1 hr2);clear hzt hnt hbn hr1 hr2 HBy HRt hbt HLst HLat HJt;have HIz:=hide (HI9.out.below HBt.out);have HAz2:Hid (∀W,Below zt.heap.size zt W→W.heap[ab]?=some (.cells A 55 (0,0))):=fun W h=>(h.block _ (ac_lt ((HBt.out.block _ (ac_lt HA9.out)).trans HA9.out))).trans ((HBt.out.block _ (ac_lt HA9.out)).trans HA9.out)
        have HZz2:Hid (∀W,Below zt.heap.size zt W→W.heap[sb]?=some (.cells SA 42 (0,0))):=fun W h=>(h.block _ (ac_lt ((HBt.out.block _ (ac_lt HZ9.out)).trans HZ9.out))).trans ((HBt.out.block _ (ac_lt HZ9.out)).trans HZ9.out)
        have HKz2:Hid (∀W,Below zt.heap.size zt W→W.heap[cb]?=some (.cells D 34 (0,0))):=fun W h=>(h.block _ (ac_lt HIz.out.kb)).trans HIz.out.kb
        have HTz2:Hid (∀W,Below zt.heap.size zt W→W.heap[bt]?=some (.cells #[.int .i64 r1,.slice tp tn tc,.slice tq tm td,.int .i64 r4] 61 (0,0))):=fun W h=>(h.block _ (ac_lt HXt.out)).trans HXt.out
        have HEl:Hid (∀W,Below zt.heap.size zt W→Calls Tryz.prog 21 #[.agg D,.agg SA,.agg A] W fun e w'=>∃X:Sta,e=.returned (.agg X.arr)∧StaOk w' X∧judgeT X b=(r1,L,M,r4)∧Below W.heap.size W w'):=fun W hW=>by
         have hI:=HIz.out.below hW;have h:=elsewhere_any W c cs ps s b hI.cfg hI.st.ok hI.st.shp ((HBo9.out.ok.below HBt.out).below hW) T HTl.out HPs.out (fun W' h'=>HFa.out W' (hI.b1.trans (h'.mono hI.b1.size)));rw[HD.out,HSe.out,HAe.out]at h;refine h.mono ?_;rintro e w' ⟨X,h1,h2,h3,h4⟩;exact⟨X,h1,h2,by rw[←judge_same h3];exact HJe.out,h4⟩
        go_upto_region 11 with (fail);go_cut [9] from 1 to 0 (fun pv wc=>∃(bu:Nat) (up:Option Addr) (un uc:Nat) (uq:Option Addr) (um ud:Nat),pv=.pointer (some ⟨bu,0,none⟩)∧un=L.length∧um=M.length∧wc.heap[bu]?=some (.cells #[.int .i64 r1,.slice up un uc,.slice uq um ud,.int .i64 r4] 61 (0,0))∧(wc.ownsRow zt.heap.size 132 2 (.slice up un uc) L.length (lcells L)∧wc.ownsRow zt.heap.size 76 3 (.slice uq um ud) M.length (rcells M))∧Below zt.heap.size zt wc)
        case first =>
         refine wp_region_noPanic ?_;refine wp_region_held_drew (S:=(fun W=>Below zt.heap.size zt W)) (by kernel_rfl) ((Below.refl _ _).drew) (fun hHeld=>?_);refine tkg 0 (v:=.agg D) (hy:=fun W hW=>ex_loadw W 34 (.tmp 3) rfl cb D rfl (Z.loadAt_row (P:=Tryz.prog) (ty:=34) (HKz2.out W hW) Tryz.underlying34 rfl (by rw[HDs.out];exact Tryz.sizeC))) ?_;refine tkg 1 (v:=.agg SA) (hy:=fun W hW=>ex_loadw W 42 (.tmp 4) rfl sb SA rfl (Z.loadAt_row (P:=Tryz.prog) (ty:=42) (HZz2.out W hW) Tryz.underlying42 rfl (by rw[HSz.out];exact Tryz.sizeS))) ?_;refine tkg 2 (v:=.agg A) (hy:=fun W hW=>ex_loadw W 55 (.tmp 7) rfl ab A rfl (Z.loadAt_row (P:=Tryz.prog) (ty:=55) (HAz2.out W hW) Tryz.underlying55 rfl (by rw[HAz.out];exact Z.Tryz.sizeA))) ?_;refine tkg 4 (v:=.agg A) (hy:=fun W hW=>ex_loadw W 55 (.tmp 7) rfl ab A rfl (Z.loadAt_row (P:=Tryz.prog) (ty:=55) (HAz2.out W hW) Tryz.underlying55 rfl (by rw[HAz.out];exact Z.Tryz.sizeA))) ?_;obtain⟨v0,hv0⟩:∃W,zt.drew=W:=⟨_,rfl⟩;rw[hv0]at hHeld ⊢;clear hv0;refine wpAnyH_ready (rs:=[3,6]) (by kernel_rfl) (by simp) ?_;refine AllReadyH.cons (o:=_) rfl (fun KK hKK=>?_) (AllReadyH.cons (o:=_) rfl (fun KK hKK=>?_) AllReadyH.nil)
         ·go_simp
          refine(HEl.out _ hHeld).mono ?_;rintro e v3 ⟨X,rfl,hX,hJX,hb⟩;obtain⟨XA,hXA⟩:∃Y,X.arr=Y:=⟨_,rfl⟩;have HXX:=hide (And.intro hX (And.intro hJX hXA));rw[hXA];clear hX hJX hXA;have HSn:=hide (hHeld.trans (hb.mono hHeld.size));clear hb;refine hKK.out _ _ HSn.out (fun hHeld'=>?_);clear hKK KK hHeld HSn;have hHeld:=hHeld';clear hHeld';try simp only[Act.put,qzg,qzh,qzi,qzs,qz0,qz1]
          refine wpAnyH_ready (rs:=[5,6]) (by kernel_rfl) (by simp) ?_;refine AllReadyH.cons (o:=_) rfl (fun KK hKK=>?_) (AllReadyH.cons (o:=_) rfl (fun KK hKK=>?_) AllReadyH.nil)
          ·go_simp
           refine(HJu.out _ X XA (HBt.out.trans (hHeld.mono HBt.out.size)) HXX.out.1 HXX.out.2.1 HXX.out.2.2).mono ?_;rintro e v35 ⟨up,un,uc,uq,um,ud,rfl,h7,h8,h9,hb⟩;(try dsimp only at h7 h8 h9);have HRu:=hide (And.intro (Z.owns_le h9.1 hHeld.size) (Z.owns_le h9.2 hHeld.size));have HNu:=hide (And.intro h7 h8);clear h7 h8 h9;have HSn:=hide (hHeld.trans (hb.mono hHeld.size));clear hb;refine hKK.out _ _ HSn.out (fun hHeld'=>?_);clear hKK KK hHeld HSn;have hHeld:=hHeld';clear hHeld';try simp only[Act.put,qzg,qzh,qzi,qzs,qz0,qz1]
           refine rdy 6 (fun KK hKK=>?_);go_simp;have hba:Below v35.heap.size v35 (v35.alloc (.cells #[.int .i64 0,.slice none 0 0,.slice none 0 0,.int .i64 0] 61)):=(Below.refl _ _).alloc (Nat.le_refl _) _;have hza:=heap_alloc_new v35 (.cells #[.int .i64 0,.slice none 0 0,.slice none 0 0,.int .i64 0] 61);have hbl:zt.heap.size≤v35.heap.size:=hHeld.size;have HRu:=hide (And.intro (own_below HRu.out.1 hba) (own_below HRu.out.2 hba));have HSn:=hide (hHeld.trans (hba.mono hHeld.size));refine hKK.out _ _ HSn.out (fun hHeld'=>?_);clear hKK KK hHeld HSn;have hHeld:=hHeld';clear hHeld';try simp only[Act.put,qzg,qzh,qzi,qzs,qz0,qz1]
           obtain⟨v356,hv356⟩:∃W,v35.alloc (.cells #[.int .i64 0,.slice none 0 0,.slice none 0 0,.int .i64 0] 61)=W:=⟨_,rfl⟩;rw[hv356]at hza hHeld ⊢;rw[hv356]at HRu;clear hv356 hba;obtain⟨bu,hbu⟩:∃k,v35.heap.size=k:=⟨_,rfl⟩;rw[hbu]at hza hbl ⊢;clear hbu;have HAl:=hide hza;clear hza;refine rdy 7 (fun KK hKK=>?_);rw[if_pos (by kernel_rfl)];refine wp_store_row 61 (.tmp 9) (.tmp 55) rfl bu #[.int .i64 r1,.slice up un uc,.slice uq um ud,.int .i64 r4] rfl rfl 61 #[.int .i64 0,.slice none 0 0,.slice none 0 0,.int .i64 0] HAl.out Tryz.sizeW rfl (by simp[Value.oneCell']) ?_;have hxu:(v356.setRow bu #[.int .i64 r1,.slice up un uc,.slice uq um ud,.int .i64 r4]).heap[bu]?=some (.cells #[.int .i64 r1,.slice up un uc,.slice uq um ud,.int .i64 r4] 61 (0,0)):=setRow_heap _ _ _ _ _ _ HAl.out;have HRr:=hide (And.intro (own_row HRu.out.1 HAl.out (by decide) #[.int .i64 r1,.slice up un uc,.slice uq um ud,.int .i64 r4]) (own_row HRu.out.2 HAl.out (by decide) #[.int .i64 r1,.slice up un uc,.slice uq um ud,.int .i64 r4]));have hS9:=below_setRow hHeld hbl #[.int .i64 r1,.slice up un uc,.slice uq um ud,.int .i64 r4];refine hKK.out _ _ hS9 (fun hHeld'=>?_);clear hKK KK;try simp only[Act.put,qzg,qzh,qzi,qzs,qz0,qz1]
           refine wpAnyH_done (by kernel_rfl) (NoPanic.normal ?_) _;go_wp2;go_meet;case rel=>exact⟨bu,up,un,uc,uq,um,ud,rfl,HNu.out.1,HNu.out.2,hxu,HRr.out,hS9⟩
          ·go_simp
           have hba:Below v3.heap.size v3 (v3.alloc (.cells #[.int .i64 0,.slice none 0 0,.slice none 0 0,.int .i64 0] 61)):=(Below.refl _ _).alloc (Nat.le_refl _) _;have hza:=heap_alloc_new v3 (.cells #[.int .i64 0,.slice none 0 0,.slice none 0 0,.int .i64 0] 61);have hbl:zt.heap.size≤v3.heap.size:=hHeld.size;have HXX:=hide (And.intro (HXX.out.1.below hba) HXX.out.2);have HSn:=hide (hHeld.trans (hba.mono hHeld.size));refine hKK.out _ _ HSn.out (fun hHeld'=>?_);clear hKK KK hHeld HSn;have hHeld:=hHeld';clear hHeld';try simp only[Act.put,qzg,qzh,qzi,qzs,qz0,qz1]
           obtain⟨v36,hv36⟩:∃W,v3.alloc (.cells #[.int .i64 0,.slice none 0 0,.slice none 0 0,.int .i64 0] 61)=W:=⟨_,rfl⟩;rw[hv36]at hza hHeld ⊢;rw[hv36]at HXX;clear hv36 hba;obtain⟨bu,hbu⟩:∃k,v3.heap.size=k:=⟨_,rfl⟩;rw[hbu]at hza hbl ⊢;clear hbu;have HAl:=hide hza;clear hza;refine rdy 5 (fun KK hKK=>?_);go_simp;refine(HJu.out _ X XA (HBt.out.trans (hHeld.mono HBt.out.size)) HXX.out.1 HXX.out.2.1 HXX.out.2.2).mono ?_;rintro e v365 ⟨up,un,uc,uq,um,ud,rfl,h7,h8,h9,hb⟩;(try dsimp only at h7 h8 h9);have HRu:=hide (And.intro (Z.owns_le h9.1 hHeld.size) (Z.owns_le h9.2 hHeld.size));have HNu:=hide (And.intro h7 h8);clear h7 h8 h9;have HSn:=hide (hHeld.trans (hb.mono hHeld.size));have HAl:=hide ((hb.block _ (ac_lt HAl.out)).trans HAl.out);clear hb;refine hKK.out _ _ HSn.out (fun hHeld'=>?_);clear hKK KK hHeld HSn;have hHeld:=hHeld';clear hHeld';try simp only[Act.put,qzg,qzh,qzi,qzs,qz0,qz1]
           refine rdy 7 (fun KK hKK=>?_);rw[if_pos (by kernel_rfl)];refine wp_store_row 61 (.tmp 9) (.tmp 55) rfl bu #[.int .i64 r1,.slice up un uc,.slice uq um ud,.int .i64 r4] rfl rfl 61 #[.int .i64 0,.slice none 0 0,.slice none 0 0,.int .i64 0] HAl.out Tryz.sizeW rfl (by simp[Value.oneCell']) ?_;have hxu:(v365.setRow bu #[.int .i64 r1,.slice up un uc,.slice uq um ud,.int .i64 r4]).heap[bu]?=some (.cells #[.int .i64 r1,.slice up un uc,.slice uq um ud,.int .i64 r4] 61 (0,0)):=setRow_heap _ _ _ _ _ _ HAl.out;have HRr:=hide (And.intro (own_row HRu.out.1 HAl.out (by decide) #[.int .i64 r1,.slice up un uc,.slice uq um ud,.int .i64 r4]) (own_row HRu.out.2 HAl.out (by decide) #[.int .i64 r1,.slice up un uc,.slice uq um ud,.int .i64 r4]));have hS9:=below_setRow hHeld hbl #[.int .i64 r1,.slice up un uc,.slice uq um ud,.int .i64 r4];refine hKK.out _ _ hS9 (fun hHeld'=>?_);clear hKK KK;try simp only[Act.put,qzg,qzh,qzi,qzs,qz0,qz1]
           refine wpAnyH_done (by kernel_rfl) (NoPanic.normal ?_) _;go_wp2;go_meet;case rel=>exact⟨bu,up,un,uc,uq,um,ud,rfl,HNu.out.1,HNu.out.2,hxu,HRr.out,hS9⟩
         ·go_simp
          have hba:Below v0.heap.size v0 (v0.alloc (.cells #[.int .i64 0,.slice none 0 0,.slice none 0 0,.int .i64 0] 61)):=(Below.refl _ _).alloc (Nat.le_refl _) _;have hza:=heap_alloc_new v0 (.cells #[.int .i64 0,.slice none 0 0,.slice none 0 0,.int .i64 0] 61);have hbl:zt.heap.size≤v0.heap.size:=hHeld.size;have HSn:=hide (hHeld.trans (hba.mono hHeld.size));refine hKK.out _ _ HSn.out (fun hHeld'=>?_);clear hKK KK hHeld HSn;have hHeld:=hHeld';clear hHeld';try simp only[Act.put,qzg,qzh,qzi,qzs,qz0,qz1]
          obtain⟨v6,hv6⟩:∃W,v0.alloc (.cells #[.int .i64 0,.slice none 0 0,.slice none 0 0,.int .i64 0] 61)=W:=⟨_,rfl⟩;rw[hv6]at hza hHeld ⊢;clear hv6 hba;obtain⟨bu,hbu⟩:∃k,v0.heap.size=k:=⟨_,rfl⟩;rw[hbu]at hza hbl ⊢;clear hbu;have HAl:=hide hza;clear hza;refine rdy 3 (fun KK hKK=>?_);go_simp;refine(HEl.out _ hHeld).mono ?_;rintro e v63 ⟨X,rfl,hX,hJX,hb⟩;obtain⟨XA,hXA⟩:∃Y,X.arr=Y:=⟨_,rfl⟩;have HXX:=hide (And.intro hX (And.intro hJX hXA));rw[hXA];clear hX hJX hXA;have HSn:=hide (hHeld.trans (hb.mono hHeld.size));have HAl:=hide ((hb.block _ (ac_lt HAl.out)).trans HAl.out);clear hb;refine hKK.out _ _ HSn.out (fun hHeld'=>?_);clear hKK KK hHeld HSn;have hHeld:=hHeld';clear hHeld';try simp only[Act.put,qzg,qzh,qzi,qzs,qz0,qz1]
          refine rdy 5 (fun KK hKK=>?_);go_simp;refine(HJu.out _ X XA (HBt.out.trans (hHeld.mono HBt.out.size)) HXX.out.1 HXX.out.2.1 HXX.out.2.2).mono ?_;rintro e v635 ⟨up,un,uc,uq,um,ud,rfl,h7,h8,h9,hb⟩;(try dsimp only at h7 h8 h9);have HRu:=hide (And.intro (Z.owns_le h9.1 hHeld.size) (Z.owns_le h9.2 hHeld.size));have HNu:=hide (And.intro h7 h8);clear h7 h8 h9;have HSn:=hide (hHeld.trans (hb.mono hHeld.size));have HAl:=hide ((hb.block _ (ac_lt HAl.out)).trans HAl.out);clear hb;refine hKK.out _ _ HSn.out (fun hHeld'=>?_);clear hKK KK hHeld HSn;have hHeld:=hHeld';clear hHeld';try simp only[Act.put,qzg,qzh,qzi,qzs,qz0,qz1]
          refine rdy 7 (fun KK hKK=>?_);rw[if_pos (by kernel_rfl)];refine wp_store_row 61 (.tmp 9) (.tmp 55) rfl bu #[.int .i64 r1,.slice up un uc,.slice uq um ud,.int .i64 r4] rfl rfl 61 #[.int .i64 0,.slice none 0 0,.slice none 0 0,.int .i64 0] HAl.out Tryz.sizeW rfl (by simp[Value.oneCell']) ?_;have hxu:(v635.setRow bu #[.int .i64 r1,.slice up un uc,.slice uq um ud,.int .i64 r4]).heap[bu]?=some (.cells #[.int .i64 r1,.slice up un uc,.slice uq um ud,.int .i64 r4] 61 (0,0)):=setRow_heap _ _ _ _ _ _ HAl.out;have HRr:=hide (And.intro (own_row HRu.out.1 HAl.out (by decide) #[.int .i64 r1,.slice up un uc,.slice uq um ud,.int .i64 r4]) (own_row HRu.out.2 HAl.out (by decide) #[.int .i64 r1,.slice up un uc,.slice uq um ud,.int .i64 r4]));have hS9:=below_setRow hHeld hbl #[.int .i64 r1,.slice up un uc,.slice uq um ud,.int .i64 r4];refine hKK.out _ _ hS9 (fun hHeld'=>?_);clear hKK KK;try simp only[Act.put,qzg,qzh,qzi,qzs,qz0,qz1]
          refine wpAnyH_done (by kernel_rfl) (NoPanic.normal ?_) _;go_wp2;go_meet;case rel=>exact⟨bu,up,un,uc,uq,um,ud,rfl,HNu.out.1,HNu.out.2,hxu,HRr.out,hS9⟩
        case rest =>
         obtain⟨bu,up,un,uc,uq,um,ud,rfl,hn1,hn2,hxu,hru,hHeld⟩:=hcut;have HNu:=hide (And.intro hn1 hn2);obtain⟨zu,hzu⟩:∃W,wc=W:=⟨_,rfl⟩;rw[hzu]at hxu hru hHeld ⊢;have HXu:=hide hxu;have HPu:=hide hru;have HBu:=hide hHeld;clear hzu wc hxu hru hHeld hn1 hn2 HEl HKz2;have hA14:=(HAz2.out _ HBu.out);have k1:∀W,Below zu.heap.size zu W→W.cell? ⟨ab,1,none⟩=some (.int .i64 0)→True:=fun _ _ _=>trivial
         clear k1
         have HKu:Hid (∀W,Below zu.heap.size zu W→Below zt.heap.size zt W∧W.cell? ⟨ab,2,none⟩=some (.int .i64 b.kind)∧W.cell? ⟨ab,3,none⟩=some (.bool b.sure)):=fun W h=>by
          have h1:=HBu.out.trans (h.mono HBu.out.size);have h2:=HAz2.out W h1;refine⟨h1,?_,?_⟩ <;> rw[cell_of_row _ _ _ _ _ _ h2,←HAe.out] <;> rfl
         have HTu:Hid (∀W,Below zu.heap.size zu W→W.heap[bt]?=some (.cells #[.int .i64 r1,.slice tp tn tc,.slice tq tm td,.int .i64 r4] 61 (0,0))):=fun W h=>HTz2.out W (HKu.out W h).1
         have HUu:Hid (∀W,Below zu.heap.size zu W→W.heap[bu]?=some (.cells #[.int .i64 r1,.slice up un uc,.slice uq um ud,.int .i64 r4] 61 (0,0))):=fun W h=>(h.block _ (ac_lt HXu.out)).trans HXu.out
         have HSu:Hid (∀W,Below zu.heap.size zu W→W.heap[sb]?=some (.cells SA 42 (0,0))):=fun W h=>HZz2.out W (HKu.out W h).1
         have HAu:Hid (∀W,Below zu.heap.size zu W→W.heap[ab]?=some (.cells A 55 (0,0))):=fun W h=>HAz2.out W (HKu.out W h).1
         have HCt:Hid (∀W,Below zt.heap.size zt W→Cel W tp 2 (L.map linc)∧Cel W tq 3 (M.map tric)):=fun W h=>⟨Z.cel_row (f:=linc) (sz:=2) (fun _=>rfl) (by rw[←lcells_flat];exact own_len2 (own_below HPt.out.1 h) HNt.out.1) HNt.out.1.symm,Z.cel_row (f:=tric) (sz:=3) (fun _=>rfl) (by rw[←rcells_flat];exact own_len2 (own_below HPt.out.2 h) HNt.out.2) HNt.out.2.symm⟩
         have HAl:Hid (∀(W:World) (xp xq:Option Addr) (xn xc xm xd:Nat),Below zu.heap.size zu W→xn=L.length→xm=M.length→Cel W xp 2 (L.map linc)→Cel W xq 3 (M.map tric)→Calls Tryz.prog 22 #[.agg #[.int .i64 r1,.slice tp tn tc,.slice tq tm td,.int .i64 r4],.agg #[.int .i64 r1,.slice xp xn xc,.slice xq xm xd,.int .i64 r4]] W fun e w'=>e=.returned (.bool true)∧Below W.heap.size W w'):=fun W xp xq xn xc xm xd h e1 e2 h1 h2=>by
          obtain⟨t1,t2⟩:=HCt.out W (HKu.out W h).1;have e3:tn=L.length:=HNt.out.1;have e4:tm=M.length:=HNt.out.2;have l1:=HJl.out;subst e1 e2 e3 e4;exact alike_same W r1 r4 tp xp tq xq _ tc xc _ td xd L M rfl rfl (by simpa using l1.1) (by simpa using l1.2) t1 h1 t2 h2
         have HAu1:Hid (∀W,Below zu.heap.size zu W→Calls Tryz.prog 22 #[.agg #[.int .i64 r1,.slice tp tn tc,.slice tq tm td,.int .i64 r4],.agg #[.int .i64 r1,.slice up un uc,.slice uq um ud,.int .i64 r4]] W fun e w'=>e=.returned (.bool true)∧Below W.heap.size W w'):=fun W h=>HAl.out W up uq un uc um ud h HNu.out.1 HNu.out.2 (Z.cel_row (f:=linc) (sz:=2) (fun _=>rfl) (by rw[←lcells_flat];exact own_len2 (own_below HPu.out.1 h) HNu.out.1) HNu.out.1.symm) (Z.cel_row (f:=tric) (sz:=3) (fun _=>rfl) (by rw[←rcells_flat];exact own_len2 (own_below HPu.out.2 h) HNu.out.2) HNu.out.2.symm)
         have HBz9:Hid (∀W,Below zu.heap.size zu W→Below w5.heap.size w5 W):=fun W h=>HB59.out.trans ((HBt.out.trans ((HKu.out W h).1.mono HBt.out.size)).mono HB59.out.size)
         clear hA14 HPu HNu HAz2 HZz2 HTz2;go_upto_region 12 with (fail);obtain⟨kb,hkb⟩:∃z,(b.kind == 1)=z:=⟨_,rfl⟩;obtain⟨su,hsu⟩:∃z,b.sure=z:=⟨_,rfl⟩;have HKb2:=hide hkb;have HSb2:=hide hsu;rw[hsu]at HKu;clear hsu
         cases kb with
         | false =>
          refine wp_region_noPanic ?_;refine wp_region_held_drew (S:=(fun W=>Below zu.heap.size zu W)) (by kernel_rfl) ((Below.refl _ _).drew) (fun hHeld=>?_);refine tkg 0 (v:=.agg #[.int .i64 r1,.slice tp tn tc,.slice tq tm td,.int .i64 r4]) (hy:=fun W hW=>ex_loadw W 61 (.tmp 8) rfl bt #[.int .i64 r1,.slice tp tn tc,.slice tq tm td,.int .i64 r4] rfl (Z.loadAt_row (P:=Tryz.prog) (ty:=61) (HTu.out W hW) Tryz.underlying61 rfl Tryz.sizeW)) ?_;refine tkg 1 (v:=.agg #[.int .i64 r1,.slice up un uc,.slice uq um ud,.int .i64 r4]) (hy:=fun W hW=>ex_loadw W 61 (.tmp 9) rfl bu #[.int .i64 r1,.slice up un uc,.slice uq um ud,.int .i64 r4] rfl (Z.loadAt_row (P:=Tryz.prog) (ty:=61) (HUu.out W hW) Tryz.underlying61 rfl Tryz.sizeW)) ?_;refine rdy 2 (fun KK hKK=>?_);go_simp;refine(HAu1.out _ hHeld).mono ?_;rintro e w12 ⟨rfl,hb⟩;have HSn:=hide (hHeld.trans (hb.mono hHeld.size));clear hb;refine hKK.out _ _ HSn.out (fun hHeld'=>?_);clear hKK KK hHeld HSn;have hHeld:=hHeld';clear hHeld';try simp only[Act.put,qzg,qzh,qzi,qzs,qz0,qz1]
          refine tkg 3 ?_;refine tkg 4 ?_;refine tkg 5 ?_;refine tkg 6 (hy:=by intro W hSw;obtain⟨-,e2,e3⟩:=HKu.out W hSw;go_simp;try with_reducible rfl) ?_;refine tkg 7 ?_;refine tkg 8 ?_;refine tkv 9 ?_;refine tkv 10 ?_;refine tkg 11 ?_;refine tkg 12 ?_;refine tkv 13 ?_;refine tkv 14 ?_;refine tkv 15 ?_;refine tkv 16 ?_;refine tkv 17 ?_;refine tkv 18 ?_;refine tkv 19 ?_;refine tkv 20 ?_;refine tkg 21 ?_;refine tkg 22 ?_;try simp only[Act.put,qzg,qzh,qzi,qzs,qz0,qz1]
          refine wpAnyH_done (by kernel_rfl) (NoPanic.normal ?_) _;have HFi:=hide (HBz9.out _ hHeld);go_wp2;go_meet;case rel=>exact HFi
         | true =>
          cases su with
          | false =>
           refine wp_region_noPanic ?_;refine wp_region_held_drew (S:=(fun W=>Below zu.heap.size zu W)) (by kernel_rfl) ((Below.refl _ _).drew) (fun hHeld=>?_);refine tkg 0 (v:=.agg #[.int .i64 r1,.slice tp tn tc,.slice tq tm td,.int .i64 r4]) (hy:=fun W hW=>ex_loadw W 61 (.tmp 8) rfl bt #[.int .i64 r1,.slice tp tn tc,.slice tq tm td,.int .i64 r4] rfl (Z.loadAt_row (P:=Tryz.prog) (ty:=61) (HTu.out W hW) Tryz.underlying61 rfl Tryz.sizeW)) ?_;refine tkg 1 (v:=.agg #[.int .i64 r1,.slice up un uc,.slice uq um ud,.int .i64 r4]) (hy:=fun W hW=>ex_loadw W 61 (.tmp 9) rfl bu #[.int .i64 r1,.slice up un uc,.slice uq um ud,.int .i64 r4] rfl (Z.loadAt_row (P:=Tryz.prog) (ty:=61) (HUu.out W hW) Tryz.underlying61 rfl Tryz.sizeW)) ?_;refine rdy 2 (fun KK hKK=>?_);go_simp;refine(HAu1.out _ hHeld).mono ?_;rintro e w12 ⟨rfl,hb⟩;have HSn:=hide (hHeld.trans (hb.mono hHeld.size));clear hb;refine hKK.out _ _ HSn.out (fun hHeld'=>?_);clear hKK KK hHeld HSn;have hHeld:=hHeld';clear hHeld';try simp only[Act.put,qzg,qzh,qzi,qzs,qz0,qz1]
           refine tkg 3 ?_;refine tkg 4 ?_;refine tkg 5 ?_;refine tkg 6 (hy:=by intro W hSw;obtain⟨-,e2,e3⟩:=HKu.out W hSw;go_simp;try with_reducible rfl) ?_;refine tkg 7 ?_;refine tkg 8 ?_;refine tkg 9 ?_;refine tkg 10 (hy:=by intro W hSw;obtain⟨-,e2,e3⟩:=HKu.out W hSw;go_simp;try with_reducible rfl) ?_;refine tkg 11 ?_;refine tkg 12 ?_;refine tkv 13 ?_;refine tkv 14 ?_;refine tkv 15 ?_;refine tkv 16 ?_;refine tkv 17 ?_;refine tkv 18 ?_;refine tkv 19 ?_;refine tkv 20 ?_;refine tkg 21 ?_;refine tkg 22 ?_;try simp only[Act.put,qzg,qzh,qzi,qzs,qz0,qz1]
           refine wpAnyH_done (by kernel_rfl) (NoPanic.normal ?_) _;have HFi:=hide (HBz9.out _ hHeld);go_wp2;go_meet;case rel=>exact HFi
          | true =>
           have HSpt:Hid (∀W,Below zu.heap.size zu W→Calls Tryz.prog 23 #[.agg SA,.agg A] W fun e w'=>∃X:Sta,e=.returned (.agg X.arr)∧StaOk w' X∧judgeT X b=(r1,L,M,r4)∧Below W.heap.size W w'):=fun W hW=>by
            have hI:=HIz.out.below (HKu.out W hW).1;obtain⟨t,ht,-,htg,-⟩:=HRg.out.till;have htl:(t:Int)<c.tills:=by have h1:=hI.st.shp.gn;omega
            have h:=spent_any W c cs s b hI.cfg hI.st.ok hI.st.shp t ht htl;rw[HSe.out,HAe.out]at h;refine h.mono ?_;rintro e w' ⟨X,h1,h2,h3,h4⟩;have hk:b.kind=1:=by have:=HKb2.out;simpa using this
            exact⟨X,h1,h2,by rw[←judge_sure h3 hk HSb2.out];exact HJe.out,h4⟩
           refine wp_region_noPanic ?_;refine wp_region_held_drew (S:=(fun W=>Below zu.heap.size zu W)) (by kernel_rfl) ((Below.refl _ _).drew) (fun hHeld=>?_);refine tkg 0 (v:=.agg #[.int .i64 r1,.slice tp tn tc,.slice tq tm td,.int .i64 r4]) (hy:=fun W hW=>ex_loadw W 61 (.tmp 8) rfl bt #[.int .i64 r1,.slice tp tn tc,.slice tq tm td,.int .i64 r4] rfl (Z.loadAt_row (P:=Tryz.prog) (ty:=61) (HTu.out W hW) Tryz.underlying61 rfl Tryz.sizeW)) ?_;refine tkg 1 (v:=.agg #[.int .i64 r1,.slice up un uc,.slice uq um ud,.int .i64 r4]) (hy:=fun W hW=>ex_loadw W 61 (.tmp 9) rfl bu #[.int .i64 r1,.slice up un uc,.slice uq um ud,.int .i64 r4] rfl (Z.loadAt_row (P:=Tryz.prog) (ty:=61) (HUu.out W hW) Tryz.underlying61 rfl Tryz.sizeW)) ?_;refine rdy 2 (fun KK hKK=>?_);go_simp;refine(HAu1.out _ hHeld).mono ?_;rintro e w12 ⟨rfl,hb⟩;have HSn:=hide (hHeld.trans (hb.mono hHeld.size));clear hb;refine hKK.out _ _ HSn.out (fun hHeld'=>?_);clear hKK KK hHeld HSn;have hHeld:=hHeld';clear hHeld';try simp only[Act.put,qzg,qzh,qzi,qzs,qz0,qz1]
           refine tkg 3 ?_;refine tkg 4 ?_;refine tkg 5 ?_;refine tkg 6 (hy:=by intro W hSw;obtain⟨-,e2,e3⟩:=HKu.out W hSw;go_simp;try with_reducible rfl) ?_;refine tkg 7 ?_;refine tkg 8 ?_;refine tkg 9 ?_;refine tkg 10 (hy:=by intro W hSw;obtain⟨-,e2,e3⟩:=HKu.out W hSw;go_simp;try with_reducible rfl) ?_;refine tkg 11 ?_;refine tkg 12 ?_;refine tkg 13 (v:=.agg #[.int .i64 r1,.slice tp tn tc,.slice tq tm td,.int .i64 r4]) (hy:=fun W hW=>ex_loadw W 61 (.tmp 8) rfl bt #[.int .i64 r1,.slice tp tn tc,.slice tq tm td,.int .i64 r4] rfl (Z.loadAt_row (P:=Tryz.prog) (ty:=61) (HTu.out W hW) Tryz.underlying61 rfl Tryz.sizeW)) ?_;refine tkg 14 (v:=.agg SA) (hy:=fun W hW=>ex_loadw W 42 (.tmp 4) rfl sb SA rfl (Z.loadAt_row (P:=Tryz.prog) (ty:=42) (HSu.out W hW) Tryz.underlying42 rfl (by rw[HSz.out];exact Tryz.sizeS))) ?_;refine tkg 15 (v:=.agg A) (hy:=fun W hW=>ex_loadw W 55 (.tmp 7) rfl ab A rfl (Z.loadAt_row (P:=Tryz.prog) (ty:=55) (HAu.out W hW) Tryz.underlying55 rfl (by rw[HAz.out];exact Z.Tryz.sizeA))) ?_;refine tkg 17 (v:=.agg A) (hy:=fun W hW=>ex_loadw W 55 (.tmp 7) rfl ab A rfl (Z.loadAt_row (P:=Tryz.prog) (ty:=55) (HAu.out W hW) Tryz.underlying55 rfl (by rw[HAz.out];exact Z.Tryz.sizeA))) ?_;refine rdy 16 (fun KK hKK=>?_);go_simp;refine(HSpt.out _ hHeld).mono ?_;rintro e w13 ⟨X,rfl,hX,hJX,hb10⟩;obtain⟨XA,hXA⟩:∃Y,X.arr=Y:=⟨_,rfl⟩;have HXX:=hide (And.intro hX (And.intro hJX hXA));rw[hXA];clear hX hJX hXA;have HSn:=hide (hHeld.trans (hb10.mono hHeld.size));clear hb10;refine hKK.out _ _ HSn.out (fun hHeld'=>?_);clear hKK KK hHeld HSn;have hHeld:=hHeld';clear hHeld';try simp only[Act.put,qzg,qzh,qzi,qzs,qz0,qz1]
           refine rdy 18 (fun KK hKK=>?_);go_simp;refine(HJu.out _ X XA (HBt.out.trans ((HKu.out _ hHeld).1.mono HBt.out.size)) HXX.out.1 HXX.out.2.1 HXX.out.2.2).mono ?_;rintro e w14 ⟨xp,xn,xc,xq,xm,xd,rfl,h7,h8,h9,hb11⟩;(try dsimp only at h7 h8 h9);have HAx:=hide (HAl.out w14 xp xq xn xc xm xd (hHeld.trans (hb11.mono hHeld.size)) h7 h8 (Z.cel_row (f:=linc) (sz:=2) (fun _=>rfl) (by rw[←lcells_flat];exact own_len2 h9.1 h7) h7.symm) (Z.cel_row (f:=tric) (sz:=3) (fun _=>rfl) (by rw[←rcells_flat];exact own_len2 h9.2 h8) h8.symm));clear h7 h8 h9;have HSn:=hide (hHeld.trans (hb11.mono hHeld.size));clear hb11;refine hKK.out _ _ HSn.out (fun hHeld'=>?_);clear hKK KK hHeld HSn;have hHeld:=hHeld';clear hHeld';try simp only[Act.put,qzg,qzh,qzi,qzs,qz0,qz1]
           refine rdy 19 (fun KK hKK=>?_);go_simp;refine(HAx.out).mono ?_;rintro e w15 ⟨rfl,hb⟩;have HSn:=hide (hHeld.trans (hb.mono hHeld.size));clear hb;refine hKK.out _ _ HSn.out (fun hHeld'=>?_);clear hKK KK hHeld HSn;have hHeld:=hHeld';clear hHeld';try simp only[Act.put,qzg,qzh,qzi,qzs,qz0,qz1]
           refine tkg 20 ?_;refine tkg 21 ?_;refine tkg 22 ?_;try simp only[Act.put,qzg,qzh,qzi,qzs,qz0,qz1]
           refine wpAnyH_done (by kernel_rfl) (NoPanic.normal ?_) _;have HFi:=hide (HBz9.out _ hHeld);go_wp2;go_meet;case rel=>exact HFi
     case rest =>
      obtain⟨w8,hw8⟩:∃W,wc=W:=⟨_,rfl⟩;rw[hw8]at hcut ⊢;have HB58:Hid (Below w5.heap.size w5 w8):=hcut;clear hcut hw8 wc;have HI8:=hide (HI5.out.below HB58.out);have HX8:=hide (HX5.out.below HB58.out);have HO8:Hid (w8.heap[ob]?=some (.cells O 57 (0,0))):=(HB58.out.block _ (ac_lt HOb.out)).trans HOb.out;have HZ8:Hid (w8.heap[sb]?=some (.cells SA 42 (0,0))):=(HB58.out.block _ (ac_lt HZ5.out)).trans HZ5.out;clear HI5 HX5 HOb HZ5 HB58;have HBh:Hid (Calls Tryz.prog 19 #[.agg c.arr,.agg s.arr,.agg x.arr] w8 (BehP w8 c s)):=behind_any w8 c cs HI8.out.cfg H1t.out Hc1.out s HI8.out.st x HX8.out;rw[HD.out,HSe.out,HOe.out]at HBh;have HLd8:=hide (Z.loadAt_row (P:=Tryz.prog) (ty:=34) HI8.out.kb Tryz.underlying34 rfl (by rw[HDs.out];exact Tryz.sizeC));have HLs8:=hide (Z.loadAt_row (P:=Tryz.prog) (ty:=42) HZ8.out Tryz.underlying42 rfl (by rw[HSz.out];exact Tryz.sizeS));have HLo8:=hide (Z.loadAt_row (P:=Tryz.prog) (ty:=57) HO8.out Tryz.underlying57 rfl (by rw[HOz.out];exact Tryz.sizeO))
      go_upto_region 5 with (
        first
        | ((with_reducible show wpList _ _ _ (⟨_,.load 34 (.tmp 3),_,_,_,_⟩ :: _) _ _);refine Z.lp_load cb 0 D rfl HLd8.out ?_)
        | ((with_reducible show wpList _ _ _ (⟨_,.load 42 (.tmp 4),_,_,_,_⟩ :: _) _ _);refine Z.lp_load sb 0 SA rfl HLs8.out ?_)
        | ((with_reducible show wpList _ _ _ (⟨_,.load 57 (.tmp 6),_,_,_,_⟩ :: _) _ _);refine Z.lp_load ob 0 O rfl HLo8.out ?_)
        | (go_at_call 19;refine HBh.out.mono ?_;rintro e w9 ⟨r,rfl,hrg,hro,hb9⟩;have HI9:Hid (Gf w1 w (w9.setRow sb r.arr) P D cb sb c cs r):=(HI8.out.below hb9).put hrg hro;have HZ9:Hid (w9.heap[sb]?=some (.cells SA 42 (0,0))):=((hb9.block _ (ac_lt HZ8.out)).trans HZ8.out);obtain⟨RA,hRA⟩:∃X,r.arr=X:=⟨_,rfl⟩;have HRz:Hid (RA.size=6):=(by show _=_;rw[←hRA];rfl);have HRn:Hid (RA.all (·.oneCell')=true):=(by show _=_;rw[←hRA];simp[Sta.arr,Value.oneCell']);rw[hRA]at HI9;rw[hRA];clear hrg hro hb9 hRA)
        | ((with_reducible show wpList _ _ _ (⟨_,.store 42 (.tmp 4) _,_,_,_,_⟩ :: _) _ _);refine Z.lp_store (t:=42) (x:=.tmp 4) (some ⟨sb,0,none⟩) (.agg RA) rfl rfl (Z.storeAt_row HZ9.out (by rw[HRz.out];exact Tryz.sizeS) (by rw[HSz.out,HRz.out]) HRn.out) ?_)
        | fail)
      go_wp2;go_roundw;case rel=>exact⟨i+1,r,by omega,by go_num,HI9⟩
      case measure=>simp[intOf];omega
   ·have hBf:B=false:=by rw[hB];simp only[Bool.and_eq_false_iff,decide_eq_false_iff_not];omega
    subst hBf;clear hB p9;have HWk:=hide (wakes_any wr);have HBe:Hid (Below w.heap.size w wr):=HI.out.bel;clear HI;go_wp2_with (first | (go_at_call 20;refine HWk.out.mono ?_;rintro e w9 ⟨rfl,hb⟩;have HB9:=hide (HBe.out.trans (hb.mono HBe.out.size));clear hb) | fail)
    go_ret;exact⟨rfl,HB9.out⟩
end Go.Proofs.YtiogibfhafoapaaGreat
namespace Go.Proofs.YtiogibfhafoapaaGreat
open Go.RowKit Go.ChangeShapes Go.WideShapes Go.ChangeAt
theorem Tryz.own:ownKnob Tryz.prog.godebug=none:=by kernel_rfl
theorem Tryz.laidOut:laidOutB Tryz.prog=true:=by kernel_rfl
theorem only_contract (H:Type) (enc:TypeId × Value→H) (W:World) (base:Nat) (args:Array Value) (ds gs:List (DataW H)) (before:List MemPlace)
  (hval0:∀(j:Nat) t v,Tryz.f6.params[j]?=some t→args[j]?=some v→Value.okWide Tryz.prog W .any base t v)
  (hW:DataW.Whole enc Tryz.prog Tryz.f6.params.toList Rows.ruleOnlySpec.vars false W args.toList ds gs before) (hk:Rows.uptoSmall H (ds++gs)=true) :
  Calls Tryz.prog 6 args W fun e W'=>∃v,e=.returned v∧Rows.ruleOnlySpec.post enc Tryz.prog Tryz.f6 false true false false W args v W':=by
 have hval:∀(j:Nat) t v,Tryz.f6.params[j]?=some t→args[j]?=some v→Value.okWide Tryz.prog W .any base t v:=hval0;have hW':=hW;obtain⟨p,q,hA0,hV,rfl,hfz,hnd⟩:=hW;have hA:DataW.TrodAll enc Tryz.prog W 0 (fun _=>true) true Tryz.f6.params.toList args.toList ds p:=hA0;rw[Tryz.params6]at hA hval;obtain⟨v0,d0,rfl,rfl,h0⟩:=trodAll_one hA;obtain⟨rfl,rfl⟩:=trodVars_none hV
 have hbk:Rows.uptoBulk d0≤1048576:=by
  have h:Rows.uptoBulkAll ([d0]++[])≤1048576:=of_decide_eq_true hk;simp only[List.append_nil,Rows.uptoBulkAll]at h;omega
 obtain⟨cs,rfl,hsz⟩:=okWide_struct Tryz.underlying28 (hval 0 28 v0 rfl rfl);obtain⟨fuel,hf0⟩:=h0;obtain⟨p1,s1,hcs,k1,k2,k3,k4⟩:=Z.script_open hf0 hbk;have hcs':cs=(Scd.mk p1 s1).arr:=Array.toList_inj.1 hcs;subst hcs';have h0:DataW.Trod enc Tryz.prog W 0 (fun _=>true) true 28 (.agg (Scd.mk p1 s1).arr) d0 p:=⟨fuel,hf0⟩;clear hA0 hval0;simp only[List.append_nil]at hW';refine(only_all W ⟨p1,s1⟩ k1 k2 k3 k4).mono fun e W' ⟨he,hb⟩=>?_
 subst he;have hlt:∀x∈p,x.block<W.heap.size:=fun x hx=>by simpa using hW'.lt x hx
 exact⟨_,rfl,_,_,_,[],p,[],hW',trodAll_mk1 (shut_bool Tryz.underlying4 true),trodAll_mk1 (Below.trod Tryz.laidOut (by kernel_rfl) (of_decide_eq_true (by kernel_rfl)) h0 hb hlt),rfl,hb.frame _,fun h=>by cases h⟩
theorem only_lifted (os:Go.Os) (started:os.Started) (H:Type) (enc:TypeId × Value→H) (F:Stop.Interp) :
  ReturnsInHanded {} Tryz.checked os 6 .any ((Rows.OpenSpec.upto Rows.ruleOnlySpec).pre6 enc Tryz.prog Tryz.f6 Rows.ruleOnlyUptoRow.domain false) (((Rows.OpenSpec.upto Rows.ruleOnlySpec).at F).post enc Tryz.prog Tryz.f6 false true false false):=by
 refine returnsInHanded_of_cond (C:=Tryz.checked) (s:=Rows.OpenSpec.upto Rows.ruleOnlySpec) (k:=Rows.uptoSmall) rfl Tryz.own started (by kernel_rfl) Tryz.func6
  (OpenSpec.witness (enc:=enc) (C:=Tryz.checked) (s:=Rows.OpenSpec.upto Rows.ruleOnlySpec) (k:=Rows.uptoSmall) rfl false ⟨#[],#[.agg #[.int .i64 0,.slice none 0 0,.slice none 0 0,.int .i64 0,.int .i64 0,.int .i64 0,.int .i64 0,.int .i64 0,.int .i64 0,.slice none 0 0]],[]⟩ 8 (by kernel_rfl) (by kernel_rfl) (by kernel_rfl)
   (x:=([.agg [.agg [.lit (.int .i64 0),.nil,.nil,.lit (.int .i64 0),.lit (.int .i64 0),.lit (.int .i64 0),.lit (.int .i64 0),.lit (.int .i64 0),.lit (.int .i64 0)],.nil]],[],[])) (by kernel_rfl) rfl (by kernel_rfl)) ?_
 intro W base args ds gs before hval hW _ hk _;exact only_contract H enc W base args ds gs before hval hW hk
theorem only_holds:Rows.RuleOnlyUptoSaid :=
 OpenClaim.holds_of_cond 6 Tryz.f6 rfl rfl rfl rfl rfl rfl rfl ⟨rfl,rfl,rfl,rfl,rfl⟩ rfl rfl rfl rfl rfl (by kernel_rfl) Tryz.func6 (by kernel_rfl)
  (of_decide_eq_true (by kernel_rfl)) (by unfold Func.isWrapper;first | (rw[if_pos (by decide +kernel)];kernel_rfl) | (rw[if_neg (by decide +kernel)];exact⟨rfl,rfl⟩))
  (fun os started H enc _ F=>only_lifted os started H enc F)
end Go.Proofs.YtiogibfhafoapaaGreat
