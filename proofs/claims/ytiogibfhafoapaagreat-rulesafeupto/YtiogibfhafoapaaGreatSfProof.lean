import Derived.Deep.CutRange
import Derived.Test.YtiogibfhafoapaaGreatRwK
import Derived.Test.YtiogibfhafoapaaGreatAbZ
import Derived.Test.YtiogibfhafoapaaGreatSfJ
import Derived.Test.YtiogibfhafoapaaGreatScO
import Derived.Test.YtiogibfhafoapaaGreatCfB
import Derived.Test.YtiogibfhafoapaaGreatBhB
import Derived.Test.YtiogibfhafoapaaGreatWkF
import Derived.ProofKit
import Derived.SizedLaws
import Derived.Test.YtiogibfhafoapaaGreatRows
set_option maxRecDepth 100000
set_option maxHeartbeats 8000000
set_option linter.unusedSimpArgs false
set_option linter.unusedVariables false
namespace Go.Proofs.YtiogibfhafoapaaGreat
open Go.RowKit Go.Sort
open Z (Sli QaE SlOwn Elt Acd Qad AcOwn Ctr ctc Qh4 QjU QfZ)
theorem Qkc (w:World) (d:Scd) (hctr:QaE w 3 Qar d.p.ctr) (hprc:QaE w 1 (fun n:Int=>[Value.int .i64 n]) d.p.prc) (hst:QaE w 20 Stp.list d.st) (hact:∀o∈d.st.xs,Qad w o.ac) :
  Calls Tryz.prog 5 #[.agg d.arr] w fun e w'=>e=.returned (.bool true)∧Below w.heap.size w w':=by
 obtain⟨P,hP⟩:=exq d.arr;rw[hP];obtain⟨w0,hw0⟩:=exq (w.alloc (.cells P 28));have hb0:Below w.heap.size w w0:=by rw[←hw0];exact(Below.refl _ w).alloc (Va _) _
 have hbox:w0.heap[w.heap.size]?=some (.cells P 28 (0,0)):=by rw[←hw0];exact hNq _ _
 have HPc:Hid (∀W:World,W.heap[w.heap.size]?=some (.cells P 28 (0,0))→W.cell? ⟨w.heap.size,9,none⟩=some (.slice d.st.p d.st.n d.st.c)):=fun W h=>by
  rw[cRq h,←hP];rfl
 obtain⟨PC,hPC⟩:=exq d.p.arr
 have HLc:Hid ((Instr.loadAt 25 (.pointer (some ⟨w.heap.size,0,none⟩))).run Tryz.prog w0=.ok (.agg PC) w0):=by
  show _=_
  have h:=VX (P:=Tryz.prog) w0 w.heap.size 0 25 d.p.arr.toList _ (fun j v hv=>by
   rw[cRq hbox,←hP];have hj:=(Vd.1 hv).1;rw[←Array.getElem?_toList];show (d.p.arr.toList++[Value.slice d.st.p d.st.n d.st.c])[0+j]?=_;rw[Nat.zero_add,List.getElem?_append_left hj];exact hv) Tryz.underlying25 rfl (by kernel_rfl)
  rw[←hPC];simpa using h
 have HCf:=Qaa (Z.config_any w0 d.p (⟨hctr.len,hctr.most,hctr.cel.below hb0⟩:QaE w0 3 Qar d.p.ctr) (⟨hprc.len,hprc.most,hprc.cel.below hb0⟩:QaE w0 1 (fun n:Int=>[Value.int .i64 n]) d.p.prc) PC hPC);obtain⟨HSt,HAc⟩:=Qmj hst hact;have hstl:d.st.n≤4194304:=hst.most;have hstx:d.st.xs.length=d.st.n:=hst.len;obtain⟨HW0,HB0,HBx⟩:=Qmk hw0 hb0 hbox;clear hw0 hb0 hbox hP hPC hctr hprc hst hact;go_enter Tryz.func5,Tryz.ntmps5;go_upto_region 1 with (fail);rw[HW0.out]
 go_upto_region 2 with (
   first
   | ((with_reducible refine glq 25 9 ?_);refine Z.lp_load w.heap.size 0 PC rfl HLc.out ?_)
   | (go_at_call 10;refine HCf.out.mono ?_;rintro e w1 ⟨c,rfl,hc1,hc2,hc3,hcm,hb1⟩;obtain⟨HB1,Hc1,Hc2,HCm⟩:=hd4 hb1 hc1 hc2 hcm;obtain⟨D,hD⟩:=exq c.arr;have HDs:Hid (D.size=9):=(by show _=_;rw[←hD];rfl);have HDo:Hid (D.all (·.oneCell')=true):=(by show _=_;rw[←hD];exact Z.cfg_ones c);rw[show c.v=Value.agg D from by rw[←hD];rfl];have HD:=Qaa hD;clear hc1 hc2 hc3 hcm hb1 hD)
   | ((with_reducible refine gsq 34 3 ?_);refine Z.lp_store (t:=34) (x:=.tmp 3) (some ⟨w1.heap.size,0,none⟩) (.agg D) rfl rfl (run_storeAt_new w1 _ _ D (by rw[HDs.out];exact Tryz.sizeC) (by rw[HDs.out];rfl) HDo.out) ?_)
   | fail)
 try dsimp only[Act.put]
 have hk2:=hNq w1 (.cells D 34);have hb2:Below w1.heap.size w1 (w1.alloc (.cells D 34)):=bR.alloc (Va _) _;obtain⟨w2,hw2⟩:=exq (w1.alloc (.cells D 34));rw[hw2]at hk2 hb2 ⊢;obtain⟨cb,hcb⟩:=exq w1.heap.size;rw[hcb]at hk2 ⊢;obtain⟨HKb,HB12⟩:=Qmj hk2 hb2;clear hw2 hk2 hb2 HLc HCf;obtain⟨ht1,hpl,⟨cs,cs1,cs2,cs3⟩,⟨ps,ps1,ps2,ps3⟩⟩:=HCm.out;have ht2:=VK d.p.tills (show (8:Int)≠0 by omega);have ht3:=VE d.p.tills (show (0:Int)<8 by omega);obtain⟨T,hT⟩:∃T:Nat,c.tills=(T:Int):=⟨c.tills.toNat,by omega⟩;have HCfg:Hid (Qbp w1 c cs):=⟨cs1,cs2,by have:=Hc2.out;omega,by omega,by omega,cs3⟩;have HFi:Hid (Calls Tryz.prog 11 #[.agg c.arr] w2 fun e w'=>∃S:Sta,e=.returned (.agg S.arr)∧S.d=QfB T c.cl c.pl T cs ps∧Qac w2.heap.size w' S∧Below w2.heap.size w2 w'):=QhZ w2 c cs ps Hc2.out hpl T hT (by omega) cs1 (cs2.below HB12.out) cs3 ps1 (ps2.below HB12.out);rw[HD.out]at HFi;have HPs3:=Qaa ps3;have HLd:=Qaa (lr34 HKb.out (by rw[HDs.out];exact Tryz.sizeC));have H1t:Hid (1≤c.tills):=by show _≤_;omega
 have HTl:Hid (c.tills=(T:Int)):=hT;have HPs:=Qaa ps1;have HCs:=Qaa (And.intro cs1 cs3);clear ht1 hpl ht2 ht3 cs1 cs2 cs3 ps1 ps2 ps3 hT HCm
 go_upto_region 3 with (
   first
   | ((with_reducible refine glq 34 3 ?_);refine Z.lp_load cb 0 D rfl HLd.out ?_)
   | (go_at_call 11;refine HFi.out.mono ?_;rintro e w3 ⟨S0,rfl,hsd,hso,hb3⟩;obtain⟨HSd,HSo,HB3⟩:=Qmk hsd hso hb3;obtain⟨SA,hSA⟩:=exq S0.arr;have HSA:=Qaa hSA;have HSz:Hid (SA.size=6):=(by show _=_;rw[←hSA];rfl);have HSn:Hid (SA.all (·.oneCell')=true):=(by show _=_;rw[←hSA];simp[Sta.arr,Value.oneCell']);rw[hSA];clear hsd hso hb3 hSA)
   | ((with_reducible refine gsq 42 4 ?_);refine Z.lp_store (t:=42) (x:=.tmp 4) (some ⟨w3.heap.size,0,none⟩) (.agg SA) rfl rfl (run_storeAt_new w3 _ qs SA (by rw[HSz.out];exact Tryz.sizeS) (by rw[HSz.out];rfl) HSn.out) ?_)
   | fail)
 try dsimp only[Act.put]
 have hk4:=hNq w3 (.cells SA 42);have hb4:Below w3.heap.size w3 (w3.alloc (.cells SA 42)):=bR.alloc (Va _) _;obtain⟨w4,hw4⟩:=exq (w3.alloc (.cells SA 42));rw[hw4]at hk4 hb4 ⊢;obtain⟨sb,hsb⟩:=exq w3.heap.size;have hlt:w1.heap.size≤sb:=by rw[←hsb];have h1:=HB12.out.size;have h2:=HB3.out.size;omega
 rw[hsb]at hk4 ⊢;have HB14:Below w1.heap.size w1 w4:=HB12.out.trans ((HB3.out.trans (hb4.mono HB3.out.size)).mono HB12.out.size);have HB24:Below w2.heap.size w2 w4:=HB3.out.trans (hb4.mono HB3.out.size);have HB04:Below w0.heap.size w0 w4:=HB1.out.trans (HB14.mono HB1.out.size);have HI0:Hid (Gr w w4 P D cb sb c cs T S0):=⟨⟨(HB04.block _ (Qab HBx.out)).trans HBx.out,(HB24.block _ (Qab HKb.out)).trans HKb.out,by rw[HSA.out];exact hk4,⟨w1,HCfg.out,HB14,hlt⟩,⟨(HSo.out.below hb4).ok,Qlv HSo.out HSd.out HCs.out.1 HPs.out HTl.out,Qlw HSd.out HCs.out.2⟩,⟨_,HSo.out.below hb4⟩,by have h1:=HB0.out.size;have h2:=HB1.out.size;omega,HB0.out.trans (HB04.mono HB0.out.size)⟩,(by have h:=HSd.out;rw[←HCs.out.1]at h;exact Qjh h HCs.out.2 HPs3.out)⟩;clear hw4 hsb hk4 hb4 hlt HB14 HB24 HB04 HFi HLd HB3 HSo HSd HKb HB12 HB1 HBx HSA HSz HSn HCs HPs HCfg;go_wp2;go_loopw [5] (fun iv wr=>∃(i:Nat) (s:Sta),i≤d.st.n∧iv=.int .i64 i∧Hid (Gr w wr P D cb sb c cs T s)) (fun iv _=>d.st.n - (intOf iv).toNat);case atStart=>exact⟨0,S0,Vo _,rfl,HI0⟩
 case round =>
  clear HI0 S0;obtain⟨i,s,hi,rfl,HI⟩:=hrel;have p9:=HPc.out wr HI.out.lb;obtain⟨B,hB⟩:∃B:Bool,B=(decide (i<d.st.n) && decide (i<300)):=⟨_,rfl⟩;go_upto_region 4 with (fail);go_cut [22] from 1 to 0 (fun sv wc=>sv=.bool B∧Hid (wc=wr))
  case first =>
   by_cases h1:i<d.st.n
   ·have h1i:(i:Int)<(d.st.n:Int):=by omega
    by_cases h2:i<300
    ·have h2i:(i:Int)<300:=by omega
     have hBt:B=true:=by rw[hB];simp[h1,h2]
     clear hB;go_wp2;go_meet;case rel=>exact⟨by rw[hBt],rfl⟩
    ·have h2i:¬(i:Int)<300:=by omega
     have hBt:B=false:=by rw[hB];simp[h2]
     clear hB;go_wp2;go_meet;case rel=>exact⟨by rw[hBt],rfl⟩
   ·have h1i:¬(i:Int)<(d.st.n:Int):=by omega
    have hBt:B=false:=by rw[hB];simp[h1]
    clear hB;go_wp2;go_meet;case rel=>exact⟨by rw[hBt],rfl⟩
  case rest =>
   obtain⟨rfl,hwc⟩:=hcut;rw[show wc=wr from hwc.out];clear hwc wc;by_cases hgo:i<d.st.n∧i<300
   ·obtain⟨h1,h2⟩:=hgo
    have hBt:B=true:=by rw[hB];simp[h1,h2]
    subst hBt;clear hB;have h1i:(i:Int)<(d.st.n:Int):=by omega
    have i0:(0:Int)≤(i:Int):=by omega
    obtain⟨x,hx⟩:∃x,d.st.xs[i]?=some x:=⟨_,gE (by omega)⟩;obtain⟨gb,go,eg,hgb,hgc⟩:=HSt.out.cel.get (i:=i) (r:=Stp.list x) (by rw[Vb,hx];rfl);obtain⟨O,hO⟩:=exq x.arr;have HOz:Hid (O.size=20):=by show _=_;rw[←hO];rfl
    have HOn:Hid (O.all (·.oneCell')=true):=by show _=_;rw[←hO];simp[Stp.arr,Value.oneCell']
    have HLo:Hid ((Instr.loadAt 57 (.pointer (some ⟨gb,go+i*20,none⟩))).run Tryz.prog wr=.ok (.agg O) wr):=by
     have h:=VX (P:=Tryz.prog) wr gb (go+i*20) 57 x.list _ (fun j v hv=>(HI.out.bel.cell (p:=⟨gb,go+i*20+j,none⟩) hgb).trans (hgc j v hv)) Tryz.underlying57 rfl (by kernel_rfl);show _=_;rw[←hO];exact h
    rw[eg]at p9;have HOe:=Qaa hO;have HXk:=Qaa ((HAc.out x (mG hx)).below HI.out.bel);clear hx eg hgb hgc hO
    go_upto_region 7 with (
      first
      | ((with_reducible refine glq 57 28 ?_);refine Z.lp_load gb (go+i*20) O rfl HLo.out ?_)
      | ((with_reducible refine gsq 57 6 ?_);refine Z.lp_store (t:=57) (x:=.tmp 6) (some ⟨wr.heap.size,0,none⟩) (.agg O) rfl rfl (run_storeAt_new wr _ _ O (by rw[HOz.out];exact Tryz.sizeO) (by rw[HOz.out];rfl) HOn.out) ?_)
      | fail)
    try dsimp only[Act.put]
    have ho5:=hNq wr (.cells O 57);have hb5:Below wr.heap.size wr (wr.alloc (.cells O 57)):=bR.alloc (Va _) _;obtain⟨w5,hw5⟩:=exq (wr.alloc (.cells O 57));rw[hw5]at ho5 hb5 ⊢;obtain⟨ob,hob⟩:=exq wr.heap.size;rw[hob]at ho5 ⊢;have HI5:=Qaa (HI.out.below hb5);have HX5:=Qaa (HXk.out.below hb5);have HOb:=Qaa ho5;obtain⟨SA,hSA⟩:=exq s.arr;have HSe:=Qaa hSA;have HSz:Hid (SA.size=6):=by show _=_;rw[←hSA];rfl
    have HZ5:Hid (w5.heap[sb]?=some (.cells SA 42 (0,0))):=by show _=_;rw[←hSA];exact HI5.out.zb
    clear hw5 hob ho5 hb5 HLo HXk hSA p9 HI;have o0:w5.cell? ⟨ob,0,none⟩=some (.int .i64 x.do_):=by rw[cRq HOb.out,←HOe.out];rfl
    obtain⟨b1,hb1⟩:=exq (x.do_ == 1);obtain⟨b2,hb2⟩:=exq (x.do_ == 2);go_cut [37] from 1 to 0 (fun sv wc=>∃B,sv=.bool B∧Hid (wc=w5))
    case first =>
     cases b1 <;> cases b2;all_goals (go_wp2;go_meet;case rel=>exact⟨_,rfl,rfl⟩)
    case rest =>
     obtain⟨B,rfl,hwc⟩:=hcut;rw[show wc=w5 from hwc.out];clear hwc wc o0 hb1 hb2 b1 b2;go_upto_if 37 with (fail);go_cut [] from 1 to 0 (fun wz=>Hid (Below w5.heap.size w5 wz))
     case first =>
      have HBr:Hid (Below w5.heap.size w5 w5):=bR
      cases B with
      | false =>
       go_wp2;go_meet;case rel=>exact HBr
      | true =>
       have HA5:Hid (Calls Tryz.prog 12 #[.agg c.arr,.agg s.arr,.agg x.arr] w5 fun e w'=>∃b:Acd,e=.returned (.agg b.arr)∧b.d=Qmh s c.tills x.ac.d∧AcOwn w5.heap.size w' b∧Below w5.heap.size w5 w'):=QiB w5 c s HI5.out.st.ok (by have:=HI5.out.st.shp.ln;omega) ⟨H1t.out,HI5.out.cfg.tills.2⟩ x HX5.out;rw[HD.out,HSe.out,HOe.out]at HA5;have HLd5:=Qaa (lr34 HI5.out.kb (by rw[HDs.out];exact Tryz.sizeC));have HLs5:=Qaa (lr42 HZ5.out (by rw[HSz.out];exact Tryz.sizeS));have HLo5:=Qaa (lr57 HOb.out (by rw[HOz.out];exact Tryz.sizeO))
       go_upto_region 9 with (
         first
         | ((with_reducible refine glq 34 3 ?_);refine Z.lp_load cb 0 D rfl HLd5.out ?_)
         | ((with_reducible refine glq 42 4 ?_);refine Z.lp_load sb 0 SA rfl HLs5.out ?_)
         | ((with_reducible refine glq 57 6 ?_);refine Z.lp_load ob 0 O rfl HLo5.out ?_)
         | (go_at_call 12;refine HA5.out.mono ?_;rintro e w6 ⟨b,rfl,hbd,hbo,hb6⟩;obtain⟨HBd,HBo,HB6⟩:=Qmk hbd hbo hb6;obtain⟨A,hA⟩:=exq b.arr;have HAe:=Qaa hA;have HAz:Hid (A.size=15):=(by show _=_;rw[←hA];rfl);have HAn:Hid (A.all (·.oneCell')=true):=(by show _=_;rw[←hA];exact b.ones);rw[hA];clear hbd hbo hb6 hA)
         | ((with_reducible refine gsq 55 7 ?_);refine Z.lp_store (t:=55) (x:=.tmp 7) (some ⟨w6.heap.size,0,none⟩) (.agg A) rfl rfl (run_storeAt_new w6 _ _ A (by rw[HAz.out];exact Z.Tryz.sizeA) (by rw[HAz.out];rfl) HAn.out) ?_)
         | fail)
       try dsimp only[Act.put]
       have ha7:=hNq w6 (.cells A 55);have hb7:Below w6.heap.size w6 (w6.alloc (.cells A 55)):=bR.alloc (Va _) _;obtain⟨w7,hw7⟩:=exq (w6.alloc (.cells A 55));rw[hw7]at ha7 hb7 ⊢;obtain⟨ab,hab⟩:=exq w6.heap.size;rw[hab]at ha7 ⊢;have HB57:Hid (Below w5.heap.size w5 w7):=HB6.out.trans (hb7.mono HB6.out.size);have HI7:=Qaa (HI5.out.below HB57.out);have HX7:=Qaa (HX5.out.below HB57.out);have HO7:Hid (w7.heap[ob]?=some (.cells O 57 (0,0))):=(HB57.out.block _ (Qab HOb.out)).trans HOb.out;have HZ7:Hid (w7.heap[sb]?=some (.cells SA 42 (0,0))):=(HB57.out.block _ (Qab HZ5.out)).trans HZ5.out;have HAb:=Qaa ha7;have HBo7:=Qaa (HBo.out.below hb7);clear hw7 hab hb7 ha7 HB6 HA5 HLd5 HLs5 HLo5 HI5 HX5 HZ5 HOb HBo;have HCk:Hid (Calls Tryz.prog 13 #[.agg c.arr,.agg b.arr] w7 fun e w'=>∃V,e=.returned (.int .i64 V)∧QcR c b V∧Below w7.heap.size w7 w'):=Qb3 w7 c b HBo7.out.ok HI7.out.cfg.cl HI7.out.cfg.pl HI7.out.cfg.tills;rw[HD.out,HAe.out]at HCk;have HLd7:=Qaa (lr34 HI7.out.kb (by rw[HDs.out];exact Tryz.sizeC));have HLa7:=Qaa (lr55 HAb.out (by rw[HAz.out];exact Z.Tryz.sizeA))
       go_upto_if 45 with (
         first
         | ((with_reducible refine glq 34 3 ?_);refine Z.lp_load cb 0 D rfl HLd7.out ?_)
         | ((with_reducible refine glq 55 7 ?_);refine Z.lp_load ab 0 A rfl HLa7.out ?_)
         | (go_at_call 13;refine HCk.out.mono ?_;rintro e w9 ⟨V,rfl,hV,hb9⟩;obtain⟨z,hz⟩:=exq (V == 0);have HV:=Qaa (And.intro hV hz);have HB9:=Qaa hb9;clear hV hb9)
         | fail)
       clear HCk HLd7 HLa7 hz
       cases z with
       | false =>
        have HBz:Hid (Below w5.heap.size w5 w9):=HB57.out.trans (HB9.out.mono HB57.out.size);go_wp2;go_meet;case rel=>exact HBz
       | true =>
        have hck:QcR c b 0:=by have h1:=HV.out.2;have e:V=0:=(by simpa using h1);rw[←e];exact HV.out.1
        have HRg:=Qaa (QgA hck HI7.out.st.shp HI7.out.cfg.cl);have HI9:=Qaa (HI7.out.below HB9.out);have HBo9:=Qaa (HBo7.out.below HB9.out);have HA9:Hid (w9.heap[ab]?=some (.cells A 55 (0,0))):=(HB9.out.block _ (Qab HAb.out)).trans HAb.out;have HZ9:Hid (w9.heap[sb]?=some (.cells SA 42 (0,0))):=(HB9.out.block _ (Qab HZ7.out)).trans HZ7.out;have HB59:Hid (Below w5.heap.size w5 w9):=HB57.out.trans (HB9.out.mono HB57.out.size);obtain⟨t,htl,hth,htg,-⟩:=HRg.out.till;have HSf:=Qaa (QlX HI7.out.rt HI7.out.cfg HTl.out hck htl);have HTt:Hid (b.till=(t:Int)∧t<T):=⟨htl,by have h1:=HI7.out.st.shp.gn;have h2:=HTl.out;omega⟩;clear hck HV HI7 HBo7 HAb HX7 HB9 HB57 HZ7 HBr HO7 htl hth htg;have HWf:Hid (∀y:Acd,y.d=b.d→Qfe y):=fun y e=>⟨fun z hz=>HRg.out.act.lwf z (by have h:y.lines.xs=b.lines.xs:=Vl Z.AcP.lines e;rw[←h];exact hz),fun z hz=>HRg.out.act.owf z (by have h:y.other.xs=b.other.xs:=Vl Z.AcP.other e;rw[←h];exact hz)⟩
        obtain⟨J,hJ⟩:=exq (Qan s b);have HJl:=Qaa (Qju s b 4194304 (by rw[HBo9.out.lines.2.1];exact HBo9.out.lines.2.2) (by rw[HBo9.out.other.2.1];exact HBo9.out.other.2.2) (by rw[HBo9.out.sets.2.1];exact HBo9.out.sets.2.2));rw[hJ]at HJl HSf
        have HJu:Hid (∀(W:World) (X:Sta) (y:Acd) (XA YA:Array Value),Qae W X→Qad W y→X.d=s.d→y.d=b.d→X.arr=XA→y.arr=YA→Calls Tryz.prog 14 #[.agg XA,.agg YA] W fun e w'=>∃vp vn vc up un uc,e=.returned (.agg #[.int .i64 J.1,.slice vp vn vc,.slice up un uc,.int .i64 J.2.2.2])∧vn=J.2.1.length∧un=J.2.2.1.length∧QcS W.heap.size w' (.slice vp vn vc) (.slice up un uc) J.2.1 J.2.2.1∧Below W.heap.size W w'):=fun W X y XA YA hX hy e1 e2 hx hya=>by
         have h:=QhR W X hX y hy (HWf.out y e2);rw[hx,hya,Qk4 e1 e2,hJ]at h;exact h
        clear hJ HWf;obtain⟨r1,L,M,r4⟩:=J;dsimp only at HJu HJl
        have HCs9:Hid (∀W,Below w9.heap.size w9 W→Calls Tryz.prog 15 #[.agg SA] W fun e w'=>∃X:Sta,e=.returned (.agg X.arr)∧X.d=s.d∧Qae w' X∧Below W.heap.size W w'):=fun W hW=>by
         have hI:=HI9.out.below hW;have h:=Qat W s hI.st.ok (Qi0 hI.cfg hI.st.shp);rw[show (qS s)=SA from HSe.out]at h;exact h.mono fun e w' ⟨X,h1,h2,h3,h4⟩=>⟨X,h1,h2,h3.ok,h4⟩
        have HCa9:Hid (∀W,Below w9.heap.size w9 W→Calls Tryz.prog 16 #[.agg A] W fun e w'=>∃y:Acd,e=.returned (.agg y.arr)∧y.d=b.d∧Qad w' y∧Below W.heap.size W w'):=fun W hW=>(Z.copyAct_any W b (HBo9.out.ok.below hW) A HAe.out).mono fun e w' ⟨y,h1,h2,h3,h4⟩=>⟨y,h1,h2,h3.ok,h4⟩
        have HAz2:Hid (∀W,Below w9.heap.size w9 W→W.heap[ab]?=some (.cells A 55 (0,0))):=fun W h=>(h.block _ (Qab HA9.out)).trans HA9.out
        have HZz2:Hid (∀W,Below w9.heap.size w9 W→W.heap[sb]?=some (.cells SA 42 (0,0))):=fun W h=>(h.block _ (Qab HZ9.out)).trans HZ9.out
        have HKz2:Hid (∀W,Below w9.heap.size w9 W→W.heap[cb]?=some (.cells D 34 (0,0))):=fun W h=>(h.block _ (Qab HI9.out.kb)).trans HI9.out.kb
        go_upto_region 10 with (fail);go_cut [8] from 1 to 0 (fun pv wc=>∃(bu:Nat) (up:Option Addr) (un uc:Nat) (uq:Option Addr) (um ud:Nat),pv=.pointer (some ⟨bu,0,none⟩)∧un=L.length∧um=M.length∧wc.heap[bu]?=some (.cells #[.int .i64 r1,.slice up un uc,.slice uq um ud,.int .i64 r4] 61 (0,0))∧(wc.ownsRow w9.heap.size 132 2 (.slice up un uc) L.length (QaI L)∧wc.ownsRow w9.heap.size 76 3 (.slice uq um ud) M.length (Qav M))∧Below w9.heap.size w9 wc)
        case first =>
         refine Vi ?_;refine Vf (S:=(fun W=>Below w9.heap.size w9 W)) (by kernel_rfl) (bR.drew) (fun hHeld=>?_);refine tkg 0 (v:=.agg SA) (hy:=fun W hW=>Qap W 42 (.tmp 4) rfl sb SA rfl (lr42 (HZz2.out W hW) (by rw[HSz.out];exact Tryz.sizeS))) ?_;refine tkg 2 (v:=.agg A) (hy:=fun W hW=>Qap W 55 (.tmp 7) rfl ab A rfl (lr55 (HAz2.out W hW) (by rw[HAz.out];exact Z.Tryz.sizeA))) ?_;obtain⟨v0,hv0⟩:=exq w9.drew;rw[hv0]at hHeld ⊢;clear hv0;refine VW (rs:=[1,5]) (by kernel_rfl) (by simp) ?_;refine AllReadyH.cons (o:=_) rfl (fun KK hKK=>?_) (AllReadyH.cons (o:=_) rfl (fun KK hKK=>?_) AllReadyH.nil)
         ·go_simp
          refine(HCs9.out _ hHeld).mono ?_;rintro e v1 ⟨X,rfl,hXd,hX,hb⟩;obtain⟨XA,hXA⟩:=exq X.arr;have HXX:=Qaa (And.intro hX (And.intro hXd hXA));rw[hXA];clear hX hXd hXA;have HSn:=Qaa (hHeld.trans (hb.mono hHeld.size));clear hb;refine hKK.out _ _ HSn.out (fun hHeld'=>?_);clear hKK KK hHeld HSn;have hHeld:=hHeld';clear hHeld';try simp only[Act.put,qzg,qzh,qzi,qzs,qz0,qz1]
          refine VW (rs:=[3,5]) (by kernel_rfl) (by simp) ?_;refine AllReadyH.cons (o:=_) rfl (fun KK hKK=>?_) (AllReadyH.cons (o:=_) rfl (fun KK hKK=>?_) AllReadyH.nil)
          ·go_simp
           refine(HCa9.out _ hHeld).mono ?_;rintro e v13 ⟨y,rfl,hyd,hy,hb⟩;obtain⟨YA,hYA⟩:=exq y.arr;have HYY:=Qaa (And.intro hy (And.intro hyd hYA));rw[hYA];clear hy hyd hYA;have HSn:=Qaa (hHeld.trans (hb.mono hHeld.size));have HXX:=Qaa (And.intro (HXX.out.1.below hb) HXX.out.2);clear hb;refine hKK.out _ _ HSn.out (fun hHeld'=>?_);clear hKK KK hHeld HSn;have hHeld:=hHeld';clear hHeld';try simp only[Act.put,qzg,qzh,qzi,qzs,qz0,qz1]
           refine VW (rs:=[4,5]) (by kernel_rfl) (by simp) ?_;refine AllReadyH.cons (o:=_) rfl (fun KK hKK=>?_) (AllReadyH.cons (o:=_) rfl (fun KK hKK=>?_) AllReadyH.nil)
           ·go_simp
            refine(HJu.out _ X y XA YA HXX.out.1 HYY.out.1 HXX.out.2.1 HYY.out.2.1 HXX.out.2.2 HYY.out.2.2).mono ?_;rintro e v134 ⟨up,un,uc,uq,um,ud,rfl,h7,h8,h9,hb⟩;(try dsimp only at h7 h8 h9);have HRu:=Qaa (And.intro (Z.owns_le h9.1 hHeld.size) (Z.owns_le h9.2 hHeld.size));have HNu:=Qaa (And.intro h7 h8);clear h7 h8 h9;have HSn:=Qaa (hHeld.trans (hb.mono hHeld.size));clear hb HXX HYY;refine hKK.out _ _ HSn.out (fun hHeld'=>?_);clear hKK KK hHeld HSn;have hHeld:=hHeld';clear hHeld';try simp only[Act.put,qzg,qzh,qzi,qzs,qz0,qz1]
            refine rdy 5 (fun KK hKK=>?_);go_simp;have hba:Below v134.heap.size v134 (v134.alloc (.cells #[.int .i64 0,.slice none 0 0,.slice none 0 0,.int .i64 0] 61)):=bR.alloc (Va _) _;have hza:=hNq v134 (.cells #[.int .i64 0,.slice none 0 0,.slice none 0 0,.int .i64 0] 61);have hbl:w9.heap.size≤v134.heap.size:=hHeld.size;have HRu:=Qaa (And.intro (Qbn HRu.out.1 hba) (Qbn HRu.out.2 hba));have HSn:=Qaa (hHeld.trans (hba.mono hHeld.size));refine hKK.out _ _ HSn.out (fun hHeld'=>?_);clear hKK KK hHeld HSn;have hHeld:=hHeld';clear hHeld';try simp only[Act.put,qzg,qzh,qzi,qzs,qz0,qz1]
            obtain⟨v1345,hv1345⟩:=exq (v134.alloc (.cells #[.int .i64 0,.slice none 0 0,.slice none 0 0,.int .i64 0] 61));rw[hv1345]at hza hHeld ⊢;rw[hv1345]at HRu;clear hv1345 hba;obtain⟨bu,hbu⟩:=exq v134.heap.size;rw[hbu]at hza hbl ⊢;clear hbu;have HAl:=Qaa hza;clear hza;refine rdy 6 (fun KK hKK=>?_);rw[if_pos (by kernel_rfl)];refine wp_store_row 61 (.tmp 8) (.tmp 50) rfl bu #[.int .i64 r1,.slice up un uc,.slice uq um ud,.int .i64 r4] rfl rfl 61 #[.int .i64 0,.slice none 0 0,.slice none 0 0,.int .i64 0] HAl.out Tryz.sizeW rfl (by simp[Value.oneCell']) ?_;have hxu:(v1345.setRow bu #[.int .i64 r1,.slice up un uc,.slice uq um ud,.int .i64 r4]).heap[bu]?=some (.cells #[.int .i64 r1,.slice up un uc,.slice uq um ud,.int .i64 r4] 61 (0,0)):=VB _ _ _ _ _ _ HAl.out;have HRr:=Qaa (And.intro (QbW HRu.out.1 HAl.out (by decide) #[.int .i64 r1,.slice up un uc,.slice uq um ud,.int .i64 r4]) (QbW HRu.out.2 HAl.out (by decide) #[.int .i64 r1,.slice up un uc,.slice uq um ud,.int .i64 r4]));have hS9:=VA hHeld hbl #[.int .i64 r1,.slice up un uc,.slice uq um ud,.int .i64 r4];refine hKK.out _ _ hS9 (fun hHeld'=>?_);clear hKK KK;try simp only[Act.put,qzg,qzh,qzi,qzs,qz0,qz1]
            refine Vp (by kernel_rfl) (Vj ?_) _;go_wp2;go_meet;case rel=>exact⟨bu,up,un,uc,uq,um,ud,rfl,HNu.out.1,HNu.out.2,hxu,HRr.out,hS9⟩
           ·go_simp
            have hba:Below v13.heap.size v13 (v13.alloc (.cells #[.int .i64 0,.slice none 0 0,.slice none 0 0,.int .i64 0] 61)):=bR.alloc (Va _) _;have hza:=hNq v13 (.cells #[.int .i64 0,.slice none 0 0,.slice none 0 0,.int .i64 0] 61);have hbl:w9.heap.size≤v13.heap.size:=hHeld.size;have HXX:=Qaa (And.intro (HXX.out.1.below hba) HXX.out.2);have HYY:=Qaa (And.intro (HYY.out.1.below hba) HYY.out.2);have HSn:=Qaa (hHeld.trans (hba.mono hHeld.size));refine hKK.out _ _ HSn.out (fun hHeld'=>?_);clear hKK KK hHeld HSn;have hHeld:=hHeld';clear hHeld';try simp only[Act.put,qzg,qzh,qzi,qzs,qz0,qz1]
            obtain⟨v135,hv135⟩:=exq (v13.alloc (.cells #[.int .i64 0,.slice none 0 0,.slice none 0 0,.int .i64 0] 61));rw[hv135]at hza hHeld ⊢;rw[hv135]at HXX;rw[hv135]at HYY;clear hv135 hba;obtain⟨bu,hbu⟩:=exq v13.heap.size;rw[hbu]at hza hbl ⊢;clear hbu;have HAl:=Qaa hza;clear hza;refine rdy 4 (fun KK hKK=>?_);go_simp;refine(HJu.out _ X y XA YA HXX.out.1 HYY.out.1 HXX.out.2.1 HYY.out.2.1 HXX.out.2.2 HYY.out.2.2).mono ?_;rintro e v1354 ⟨up,un,uc,uq,um,ud,rfl,h7,h8,h9,hb⟩;(try dsimp only at h7 h8 h9);have HRu:=Qaa (And.intro (Z.owns_le h9.1 hHeld.size) (Z.owns_le h9.2 hHeld.size));have HNu:=Qaa (And.intro h7 h8);clear h7 h8 h9;have HSn:=Qaa (hHeld.trans (hb.mono hHeld.size));have HAl:=Qaa ((hb.block _ (Qab HAl.out)).trans HAl.out);clear hb HXX HYY;refine hKK.out _ _ HSn.out (fun hHeld'=>?_);clear hKK KK hHeld HSn;have hHeld:=hHeld';clear hHeld';try simp only[Act.put,qzg,qzh,qzi,qzs,qz0,qz1]
            refine rdy 6 (fun KK hKK=>?_);rw[if_pos (by kernel_rfl)];refine wp_store_row 61 (.tmp 8) (.tmp 50) rfl bu #[.int .i64 r1,.slice up un uc,.slice uq um ud,.int .i64 r4] rfl rfl 61 #[.int .i64 0,.slice none 0 0,.slice none 0 0,.int .i64 0] HAl.out Tryz.sizeW rfl (by simp[Value.oneCell']) ?_;have hxu:(v1354.setRow bu #[.int .i64 r1,.slice up un uc,.slice uq um ud,.int .i64 r4]).heap[bu]?=some (.cells #[.int .i64 r1,.slice up un uc,.slice uq um ud,.int .i64 r4] 61 (0,0)):=VB _ _ _ _ _ _ HAl.out;have HRr:=Qaa (And.intro (QbW HRu.out.1 HAl.out (by decide) #[.int .i64 r1,.slice up un uc,.slice uq um ud,.int .i64 r4]) (QbW HRu.out.2 HAl.out (by decide) #[.int .i64 r1,.slice up un uc,.slice uq um ud,.int .i64 r4]));have hS9:=VA hHeld hbl #[.int .i64 r1,.slice up un uc,.slice uq um ud,.int .i64 r4];refine hKK.out _ _ hS9 (fun hHeld'=>?_);clear hKK KK;try simp only[Act.put,qzg,qzh,qzi,qzs,qz0,qz1]
            refine Vp (by kernel_rfl) (Vj ?_) _;go_wp2;go_meet;case rel=>exact⟨bu,up,un,uc,uq,um,ud,rfl,HNu.out.1,HNu.out.2,hxu,HRr.out,hS9⟩
          ·go_simp
           have hba:Below v1.heap.size v1 (v1.alloc (.cells #[.int .i64 0,.slice none 0 0,.slice none 0 0,.int .i64 0] 61)):=bR.alloc (Va _) _;have hza:=hNq v1 (.cells #[.int .i64 0,.slice none 0 0,.slice none 0 0,.int .i64 0] 61);have hbl:w9.heap.size≤v1.heap.size:=hHeld.size;have HXX:=Qaa (And.intro (HXX.out.1.below hba) HXX.out.2);have HSn:=Qaa (hHeld.trans (hba.mono hHeld.size));refine hKK.out _ _ HSn.out (fun hHeld'=>?_);clear hKK KK hHeld HSn;have hHeld:=hHeld';clear hHeld';try simp only[Act.put,qzg,qzh,qzi,qzs,qz0,qz1]
           obtain⟨v15,hv15⟩:=exq (v1.alloc (.cells #[.int .i64 0,.slice none 0 0,.slice none 0 0,.int .i64 0] 61));rw[hv15]at hza hHeld ⊢;rw[hv15]at HXX;clear hv15 hba;obtain⟨bu,hbu⟩:=exq v1.heap.size;rw[hbu]at hza hbl ⊢;clear hbu;have HAl:=Qaa hza;clear hza;refine rdy 3 (fun KK hKK=>?_);go_simp;refine(HCa9.out _ hHeld).mono ?_;rintro e v153 ⟨y,rfl,hyd,hy,hb⟩;obtain⟨YA,hYA⟩:=exq y.arr;have HYY:=Qaa (And.intro hy (And.intro hyd hYA));rw[hYA];clear hy hyd hYA;have HSn:=Qaa (hHeld.trans (hb.mono hHeld.size));have HXX:=Qaa (And.intro (HXX.out.1.below hb) HXX.out.2);have HAl:=Qaa ((hb.block _ (Qab HAl.out)).trans HAl.out);clear hb;refine hKK.out _ _ HSn.out (fun hHeld'=>?_);clear hKK KK hHeld HSn;have hHeld:=hHeld';clear hHeld';try simp only[Act.put,qzg,qzh,qzi,qzs,qz0,qz1]
           refine rdy 4 (fun KK hKK=>?_);go_simp;refine(HJu.out _ X y XA YA HXX.out.1 HYY.out.1 HXX.out.2.1 HYY.out.2.1 HXX.out.2.2 HYY.out.2.2).mono ?_;rintro e v1534 ⟨up,un,uc,uq,um,ud,rfl,h7,h8,h9,hb⟩;(try dsimp only at h7 h8 h9);have HRu:=Qaa (And.intro (Z.owns_le h9.1 hHeld.size) (Z.owns_le h9.2 hHeld.size));have HNu:=Qaa (And.intro h7 h8);clear h7 h8 h9;have HSn:=Qaa (hHeld.trans (hb.mono hHeld.size));have HAl:=Qaa ((hb.block _ (Qab HAl.out)).trans HAl.out);clear hb HXX HYY;refine hKK.out _ _ HSn.out (fun hHeld'=>?_);clear hKK KK hHeld HSn;have hHeld:=hHeld';clear hHeld';try simp only[Act.put,qzg,qzh,qzi,qzs,qz0,qz1]
           refine rdy 6 (fun KK hKK=>?_);rw[if_pos (by kernel_rfl)];refine wp_store_row 61 (.tmp 8) (.tmp 50) rfl bu #[.int .i64 r1,.slice up un uc,.slice uq um ud,.int .i64 r4] rfl rfl 61 #[.int .i64 0,.slice none 0 0,.slice none 0 0,.int .i64 0] HAl.out Tryz.sizeW rfl (by simp[Value.oneCell']) ?_;have hxu:(v1534.setRow bu #[.int .i64 r1,.slice up un uc,.slice uq um ud,.int .i64 r4]).heap[bu]?=some (.cells #[.int .i64 r1,.slice up un uc,.slice uq um ud,.int .i64 r4] 61 (0,0)):=VB _ _ _ _ _ _ HAl.out;have HRr:=Qaa (And.intro (QbW HRu.out.1 HAl.out (by decide) #[.int .i64 r1,.slice up un uc,.slice uq um ud,.int .i64 r4]) (QbW HRu.out.2 HAl.out (by decide) #[.int .i64 r1,.slice up un uc,.slice uq um ud,.int .i64 r4]));have hS9:=VA hHeld hbl #[.int .i64 r1,.slice up un uc,.slice uq um ud,.int .i64 r4];refine hKK.out _ _ hS9 (fun hHeld'=>?_);clear hKK KK;try simp only[Act.put,qzg,qzh,qzi,qzs,qz0,qz1]
           refine Vp (by kernel_rfl) (Vj ?_) _;go_wp2;go_meet;case rel=>exact⟨bu,up,un,uc,uq,um,ud,rfl,HNu.out.1,HNu.out.2,hxu,HRr.out,hS9⟩
         ·go_simp
          have hba:Below v0.heap.size v0 (v0.alloc (.cells #[.int .i64 0,.slice none 0 0,.slice none 0 0,.int .i64 0] 61)):=bR.alloc (Va _) _;have hza:=hNq v0 (.cells #[.int .i64 0,.slice none 0 0,.slice none 0 0,.int .i64 0] 61);have hbl:w9.heap.size≤v0.heap.size:=hHeld.size;have HSn:=Qaa (hHeld.trans (hba.mono hHeld.size));refine hKK.out _ _ HSn.out (fun hHeld'=>?_);clear hKK KK hHeld HSn;have hHeld:=hHeld';clear hHeld';try simp only[Act.put,qzg,qzh,qzi,qzs,qz0,qz1]
          obtain⟨v5,hv5⟩:=exq (v0.alloc (.cells #[.int .i64 0,.slice none 0 0,.slice none 0 0,.int .i64 0] 61));rw[hv5]at hza hHeld ⊢;clear hv5 hba;obtain⟨bu,hbu⟩:=exq v0.heap.size;rw[hbu]at hza hbl ⊢;clear hbu;have HAl:=Qaa hza;clear hza;refine rdy 1 (fun KK hKK=>?_);go_simp;refine(HCs9.out _ hHeld).mono ?_;rintro e v51 ⟨X,rfl,hXd,hX,hb⟩;obtain⟨XA,hXA⟩:=exq X.arr;have HXX:=Qaa (And.intro hX (And.intro hXd hXA));rw[hXA];clear hX hXd hXA;have HSn:=Qaa (hHeld.trans (hb.mono hHeld.size));have HAl:=Qaa ((hb.block _ (Qab HAl.out)).trans HAl.out);clear hb;refine hKK.out _ _ HSn.out (fun hHeld'=>?_);clear hKK KK hHeld HSn;have hHeld:=hHeld';clear hHeld';try simp only[Act.put,qzg,qzh,qzi,qzs,qz0,qz1]
          refine rdy 3 (fun KK hKK=>?_);go_simp;refine(HCa9.out _ hHeld).mono ?_;rintro e v513 ⟨y,rfl,hyd,hy,hb⟩;obtain⟨YA,hYA⟩:=exq y.arr;have HYY:=Qaa (And.intro hy (And.intro hyd hYA));rw[hYA];clear hy hyd hYA;have HSn:=Qaa (hHeld.trans (hb.mono hHeld.size));have HXX:=Qaa (And.intro (HXX.out.1.below hb) HXX.out.2);have HAl:=Qaa ((hb.block _ (Qab HAl.out)).trans HAl.out);clear hb;refine hKK.out _ _ HSn.out (fun hHeld'=>?_);clear hKK KK hHeld HSn;have hHeld:=hHeld';clear hHeld';try simp only[Act.put,qzg,qzh,qzi,qzs,qz0,qz1]
          refine rdy 4 (fun KK hKK=>?_);go_simp;refine(HJu.out _ X y XA YA HXX.out.1 HYY.out.1 HXX.out.2.1 HYY.out.2.1 HXX.out.2.2 HYY.out.2.2).mono ?_;rintro e v5134 ⟨up,un,uc,uq,um,ud,rfl,h7,h8,h9,hb⟩;(try dsimp only at h7 h8 h9);have HRu:=Qaa (And.intro (Z.owns_le h9.1 hHeld.size) (Z.owns_le h9.2 hHeld.size));have HNu:=Qaa (And.intro h7 h8);clear h7 h8 h9;have HSn:=Qaa (hHeld.trans (hb.mono hHeld.size));have HAl:=Qaa ((hb.block _ (Qab HAl.out)).trans HAl.out);clear hb HXX HYY;refine hKK.out _ _ HSn.out (fun hHeld'=>?_);clear hKK KK hHeld HSn;have hHeld:=hHeld';clear hHeld';try simp only[Act.put,qzg,qzh,qzi,qzs,qz0,qz1]
          refine rdy 6 (fun KK hKK=>?_);rw[if_pos (by kernel_rfl)];refine wp_store_row 61 (.tmp 8) (.tmp 50) rfl bu #[.int .i64 r1,.slice up un uc,.slice uq um ud,.int .i64 r4] rfl rfl 61 #[.int .i64 0,.slice none 0 0,.slice none 0 0,.int .i64 0] HAl.out Tryz.sizeW rfl (by simp[Value.oneCell']) ?_;have hxu:(v5134.setRow bu #[.int .i64 r1,.slice up un uc,.slice uq um ud,.int .i64 r4]).heap[bu]?=some (.cells #[.int .i64 r1,.slice up un uc,.slice uq um ud,.int .i64 r4] 61 (0,0)):=VB _ _ _ _ _ _ HAl.out;have HRr:=Qaa (And.intro (QbW HRu.out.1 HAl.out (by decide) #[.int .i64 r1,.slice up un uc,.slice uq um ud,.int .i64 r4]) (QbW HRu.out.2 HAl.out (by decide) #[.int .i64 r1,.slice up un uc,.slice uq um ud,.int .i64 r4]));have hS9:=VA hHeld hbl #[.int .i64 r1,.slice up un uc,.slice uq um ud,.int .i64 r4];refine hKK.out _ _ hS9 (fun hHeld'=>?_);clear hKK KK;try simp only[Act.put,qzg,qzh,qzi,qzs,qz0,qz1]
          refine Vp (by kernel_rfl) (Vj ?_) _;go_wp2;go_meet;case rel=>exact⟨bu,up,un,uc,uq,um,ud,rfl,HNu.out.1,HNu.out.2,hxu,HRr.out,hS9⟩
        case rest =>
         obtain⟨bu,up,un,uc,uq,um,ud,rfl,hn1,hn2,hxu,hru,hHeld⟩:=hcut;have HNu:=Qaa (And.intro hn1 hn2);obtain⟨zu,hzu⟩:=exq wc;rw[hzu]at hxu hru hHeld ⊢;obtain⟨HXu,HPu,HBu⟩:=Qmk hxu hru hHeld;clear hzu wc hxu hru hHeld hn1 hn2 HCs9 HCa9 HJu;have HW9:Hid (∀W,Below zu.heap.size zu W→Below w9.heap.size w9 W):=fun W h=>HBu.out.trans (h.mono HBu.out.size)
         have HCu:Hid (∀W,Below zu.heap.size zu W→Cel W up 2 (L.map Qal)∧Cel W uq 3 (M.map Qar)):=fun W h=>⟨Z.cel_row (f:=Qal) (sz:=2) (fun _=>rfl) (by rw[←QfY];exact QgQ (Qbn HPu.out.1 h) HNu.out.1) HNu.out.1.symm,Z.cel_row (f:=Qar) (sz:=3) (fun _=>rfl) (by rw[←Qci];exact QgQ (Qbn HPu.out.2 h) HNu.out.2) HNu.out.2.symm⟩
         have HSh:Hid (∀W,Below zu.heap.size zu W→Calls Tryz.prog 17 #[.agg SA,.agg A,.agg #[.int .i64 r1,.slice up un uc,.slice uq um ud,.int .i64 r4]] W fun e w'=>e=.returned (.bool true)∧Below W.heap.size W w'):=fun W h=>by
          have hI:=HI9.out.below (HW9.out W h);have l1:=HJl.out;have h1:=HNu.out;have h3:=Qgl W s hI.st.ok (by have h2:=hI.cfg.pl;have h3:=hI.st.shp.rn;omega) b (HBo9.out.ok.below (HW9.out W h)) HRg.out r1 r4 up uq un um uc ud L M h1.1.symm h1.2.symm (by omega) (by omega) (HCu.out W h).1 (HCu.out W h).2 HSf.out.sh;rw[HSe.out,HAe.out]at h3;exact h3
         have HCd:Hid (∀W,Below zu.heap.size zu W→Calls Tryz.prog 18 #[.agg D,.agg SA,.agg A,.slice up un uc] W fun e w'=>e=.returned (.bool true)∧Below W.heap.size W w'):=fun W h=>by
          have hI:=HI9.out.below (HW9.out W h);have l1:=HJl.out;have h1:=HNu.out;have h3:=QfI W c cs T hI.cfg HTl.out s hI.st.ok hI.st.shp b t HTt.out.1 HTt.out.2 up un uc L h1.1.symm (by omega) (HCu.out W h).1 HSf.out.all HSf.out.made;rw[HD.out,HSe.out,HAe.out]at h3;exact h3
         have HLk:Hid (∀W,Below zu.heap.size zu W→(Instr.loadAt 34 (.pointer (some ⟨cb,0,none⟩))).run Tryz.prog W=.ok (.agg D) W):=fun W h=>lr34 (HKz2.out W (HW9.out W h)) (by rw[HDs.out];exact Tryz.sizeC)
         have HLz:Hid (∀W,Below zu.heap.size zu W→(Instr.loadAt 42 (.pointer (some ⟨sb,0,none⟩))).run Tryz.prog W=.ok (.agg SA) W):=fun W h=>lr42 (HZz2.out W (HW9.out W h)) (by rw[HSz.out];exact Tryz.sizeS)
         have HLa:Hid (∀W,Below zu.heap.size zu W→(Instr.loadAt 55 (.pointer (some ⟨ab,0,none⟩))).run Tryz.prog W=.ok (.agg A) W):=fun W h=>lr55 (HAz2.out W (HW9.out W h)) (by rw[HAz.out];exact Z.Tryz.sizeA)
         have HLu:Hid (∀W,Below zu.heap.size zu W→(Instr.loadAt 61 (.pointer (some ⟨bu,0,none⟩))).run Tryz.prog W=.ok (.agg #[.int .i64 r1,.slice up un uc,.slice uq um ud,.int .i64 r4]) W):=fun W h=>lr61 ((h.block _ (Qab HXu.out)).trans HXu.out) Tryz.sizeW
         have HU1:Hid (∀W,Below zu.heap.size zu W→W.cell? ⟨bu,1,none⟩=some (.slice up un uc)):=fun W h=>by rw[cRq ((h.block _ (Qab HXu.out)).trans HXu.out)];rfl
         have HBz:Hid (∀W,Below zu.heap.size zu W→Below w5.heap.size w5 W):=fun W h=>HB59.out.trans ((HW9.out W h).mono HB59.out.size)
         have HIz:Hid (Below zu.heap.size zu zu):=bR;clear HPu HCu HXu HNu HJl HSf HRg HTt HA9 HZ9 HAz2 HZz2 HKz2 HW9
         go_upto_if 64 with (
           first
           | ((with_reducible refine glq 34 3 ?_);first | refine Qak cb 0 D (by exact rfl) rfl (HLk.out _ HIz.out) ?_ | refine Qak cb 0 D (by exact rfl) rfl (HLk.out _ HB13.out) ?_)
           | ((with_reducible refine glq 42 4 ?_);first | refine Qak sb 0 SA (by exact rfl) rfl (HLz.out _ HIz.out) ?_ | refine Qak sb 0 SA (by exact rfl) rfl (HLz.out _ HB13.out) ?_)
           | ((with_reducible refine glq 55 7 ?_);first | refine Qak ab 0 A (by exact rfl) rfl (HLa.out _ HIz.out) ?_ | refine Qak ab 0 A (by exact rfl) rfl (HLa.out _ HB13.out) ?_)
           | ((with_reducible refine glq 61 8 ?_);first | refine Qak bu 0 #[.int .i64 r1,.slice up un uc,.slice uq um ud,.int .i64 r4] (by exact rfl) rfl (HLu.out _ HIz.out) ?_ | refine Qak bu 0 #[.int .i64 r1,.slice up un uc,.slice uq um ud,.int .i64 r4] (by exact rfl) rfl (HLu.out _ HB13.out) ?_)
           | (go_at_call 17;refine(HSh.out _ HIz.out).mono ?_;rintro e w13 ⟨rfl,hb13⟩;have HB13:Hid (Below zu.heap.size zu w13):=hb13;have u1:=HU1.out w13 hb13;clear hb13)
           | (go_at_call 18;refine(HCd.out _ HB13.out).mono ?_;rintro e w14 ⟨rfl,hb14⟩;have HB14:Hid (Below zu.heap.size zu w14):=HB13.out.trans (hb14.mono HB13.out.size);clear hb14)
           | fail)
         have HFi:=Qaa (HBz.out _ HB14.out);go_wp2;go_meet;case rel=>exact HFi
     case rest =>
      obtain⟨w8,hw8⟩:=exq wc;rw[hw8]at hcut ⊢;have HB58:Hid (Below w5.heap.size w5 w8):=hcut;clear hcut hw8 wc;have HI8:=Qaa (HI5.out.below HB58.out);have HX8:=Qaa (HX5.out.below HB58.out);have HO8:Hid (w8.heap[ob]?=some (.cells O 57 (0,0))):=(HB58.out.block _ (Qab HOb.out)).trans HOb.out;have HZ8:Hid (w8.heap[sb]?=some (.cells SA 42 (0,0))):=(HB58.out.block _ (Qab HZ5.out)).trans HZ5.out;clear HI5 HX5 HOb HZ5 HB58;have HBh:Hid (Calls Tryz.prog 19 #[.agg c.arr,.agg s.arr,.agg x.arr] w8 (QlK w8 c cs s)):=Qf3 w8 c cs HI8.out.cfg H1t.out Hc1.out s HI8.out.st x HX8.out;rw[HD.out,HSe.out,HOe.out]at HBh;have HLd8:=Qaa (lr34 HI8.out.kb (by rw[HDs.out];exact Tryz.sizeC));have HLs8:=Qaa (lr42 HZ8.out (by rw[HSz.out];exact Tryz.sizeS));have HLo8:=Qaa (lr57 HO8.out (by rw[HOz.out];exact Tryz.sizeO))
      go_upto_region 5 with (
        first
        | ((with_reducible refine glq 34 3 ?_);refine Z.lp_load cb 0 D rfl HLd8.out ?_)
        | ((with_reducible refine glq 42 4 ?_);refine Z.lp_load sb 0 SA rfl HLs8.out ?_)
        | ((with_reducible refine glq 57 6 ?_);refine Z.lp_load ob 0 O rfl HLo8.out ?_)
        | (go_at_call 19;refine HBh.out.mono ?_;rintro e w9 ⟨r,rfl,hkp,hrg,hro,hb9⟩;have HI9:Hid (Gr w (w9.setRow sb r.arr) P D cb sb c cs T r):=(HI8.out.below hb9).put hrg hro (hkp T HTl.out HI8.out.rt);have HZ9:Hid (w9.heap[sb]?=some (.cells SA 42 (0,0))):=((hb9.block _ (Qab HZ8.out)).trans HZ8.out);obtain⟨RA,hRA⟩:=exq r.arr;have HRz:Hid (RA.size=6):=(by show _=_;rw[←hRA];rfl);have HRn:Hid (RA.all (·.oneCell')=true):=(by show _=_;rw[←hRA];simp[Sta.arr,Value.oneCell']);rw[hRA]at HI9;rw[hRA];clear hkp hrg hro hb9 hRA)
        | ((with_reducible refine gsq 42 4 ?_);refine Z.lp_store (t:=42) (x:=.tmp 4) (some ⟨sb,0,none⟩) (.agg RA) rfl rfl (Z.storeAt_row HZ9.out (by rw[HRz.out];exact Tryz.sizeS) (by rw[HSz.out,HRz.out]) HRn.out) ?_)
        | fail)
      go_wp2;go_roundw;case rel=>exact⟨i+1,r,by omega,by go_num,HI9⟩
      case measure=>simp[intOf];omega
   ·have hBf:B=false:=by rw[hB];simp only[Bool.and_eq_false_iff,decide_eq_false_iff_not];omega
    subst hBf;clear hB p9;have HWk:=Qaa (QiR wr);have HBe:Hid (Below w.heap.size w wr):=HI.out.bel;clear HI;go_wp2_with (first | (go_at_call 20;refine HWk.out.mono ?_;rintro e w9 ⟨rfl,hb⟩;have HB9:=Qaa (HBe.out.trans (hb.mono HBe.out.size));clear hb) | fail)
    go_ret;exact⟨rfl,HB9.out⟩
end Go.Proofs.YtiogibfhafoapaaGreat
namespace Go.Proofs.YtiogibfhafoapaaGreat
open Go.RowKit Go.ChangeShapes Go.WideShapes Go.ChangeAt
theorem Tryz.own:ownKnob Tryz.prog.godebug=none:=by kernel_rfl
theorem Tryz.laidOut:laidOutB Tryz.prog=true:=by kernel_rfl
theorem QeO (H:Type) (enc:TypeId × Value→H) (W:World) (base:Nat) (args:Array Value) (ds gs:List (DataW H)) (before:List MemPlace)
  (hval0:∀(j:Nat) t v,Tryz.f5.params[j]?=some t→args[j]?=some v→Value.okWide Tryz.prog W .any base t v)
  (hW:DataW.Whole enc Tryz.prog Tryz.f5.params.toList Rows.ruleSafeSpec.vars false W args.toList ds gs before) (hk:Rows.uptoSmall H (ds++gs)=true) :
  Calls Tryz.prog 5 args W fun e W'=>∃v,e=.returned v∧Rows.ruleSafeSpec.post enc Tryz.prog Tryz.f5 false true false false W args v W':=by
 have hval:∀(j:Nat) t v,Tryz.f5.params[j]?=some t→args[j]?=some v→Value.okWide Tryz.prog W .any base t v:=hval0;have hW':=hW;obtain⟨p,q,hA0,hV,rfl,hfz,hnd⟩:=hW;have hA:DataW.TrodAll enc Tryz.prog W 0 (fun _=>true) true Tryz.f5.params.toList args.toList ds p:=hA0;rw[Tryz.params5]at hA hval;obtain⟨v0,d0,rfl,rfl,h0⟩:=trodAll_one hA;obtain⟨rfl,rfl⟩:=trodVars_none hV
 have hbk:Rows.uptoBulk d0≤1048576:=by
  have h:Rows.uptoBulkAll ([d0]++[])≤1048576:=of_decide_eq_true hk;simp only[List.append_nil,Rows.uptoBulkAll]at h;omega
 obtain⟨cs,rfl,hsz⟩:=okWide_struct Tryz.underlying28 (hval 0 28 v0 rfl rfl);obtain⟨fuel,hf0⟩:=h0;obtain⟨p1,s1,hcs,k1,k2,k3,k4⟩:=Z.script_open hf0 hbk;have hcs':cs=(Scd.mk p1 s1).arr:=Array.toList_inj.1 hcs;subst hcs';have h0:DataW.Trod enc Tryz.prog W 0 (fun _=>true) true 28 (.agg (Scd.mk p1 s1).arr) d0 p:=⟨fuel,hf0⟩;clear hA0 hval0;simp only[List.append_nil]at hW';refine(Qkc W ⟨p1,s1⟩ k1 k2 k3 k4).mono fun e W' ⟨he,hb⟩=>?_
 subst he;have hlt:∀x∈p,x.block<W.heap.size:=fun x hx=>by simpa using hW'.lt x hx
 exact⟨_,rfl,_,_,_,[],p,[],hW',trodAll_mk1 (shut_bool Tryz.underlying4 true),trodAll_mk1 (Below.trod Tryz.laidOut (by kernel_rfl) (of_decide_eq_true (by kernel_rfl)) h0 hb hlt),rfl,hb.frame _,fun h=>by cases h⟩
theorem Qf8 (os:Go.Os) (started:os.Started) (H:Type) (enc:TypeId × Value→H) (F:Stop.Interp) :
  ReturnsInHanded {} Tryz.checked os 5 .any ((Rows.OpenSpec.upto Rows.ruleSafeSpec).pre6 enc Tryz.prog Tryz.f5 Rows.ruleSafeUptoRow.domain false) (((Rows.OpenSpec.upto Rows.ruleSafeSpec).at F).post enc Tryz.prog Tryz.f5 false true false false):=by
 refine returnsInHanded_of_cond (C:=Tryz.checked) (s:=Rows.OpenSpec.upto Rows.ruleSafeSpec) (k:=Rows.uptoSmall) rfl Tryz.own started (by kernel_rfl) Tryz.func5
  (OpenSpec.witness (enc:=enc) (C:=Tryz.checked) (s:=Rows.OpenSpec.upto Rows.ruleSafeSpec) (k:=Rows.uptoSmall) rfl false ⟨#[],#[.agg #[.int .i64 0,.slice none 0 0,.slice none 0 0,.int .i64 0,.int .i64 0,.int .i64 0,.int .i64 0,.int .i64 0,.int .i64 0,.slice none 0 0]],[]⟩ 8 (by kernel_rfl) (by kernel_rfl) (by kernel_rfl)
   (x:=([.agg [.agg [.lit (.int .i64 0),.nil,.nil,.lit (.int .i64 0),.lit (.int .i64 0),.lit (.int .i64 0),.lit (.int .i64 0),.lit (.int .i64 0),.lit (.int .i64 0)],.nil]],[],[])) (by kernel_rfl) rfl (by kernel_rfl)) ?_
 intro W base args ds gs before hval hW _ hk _;exact QeO H enc W base args ds gs before hval hW hk
theorem safe_holds:Rows.RuleSafeUptoSaid :=
 OpenClaim.holds_of_cond 5 Tryz.f5 rfl rfl rfl rfl rfl rfl rfl ⟨rfl,rfl,rfl,rfl,rfl⟩ rfl rfl rfl rfl rfl (by kernel_rfl) Tryz.func5 (by kernel_rfl)
  (of_decide_eq_true (by kernel_rfl)) (by unfold Func.isWrapper;first | (rw[if_pos (by decide +kernel)];kernel_rfl) | (rw[if_neg (by decide +kernel)];exact⟨rfl,rfl⟩))
  (fun os started H enc _ F=>Qf8 os started H enc F)
end Go.Proofs.YtiogibfhafoapaaGreat
