import Derived.Test.YtiogibfhafoapaaGreatDcJ
import Derived.Test.YtiogibfhafoapaaGreatAbS
import Derived.Test.YtiogibfhafoapaaGreatMv0
import Derived.Test.YtiogibfhafoapaaGreatMv1
import Derived.Test.YtiogibfhafoapaaGreatMv2p
import Derived.Test.YtiogibfhafoapaaGreatMv3
import Derived.Test.YtiogibfhafoapaaGreatAbZ
import Derived.Test.YtiogibfhafoapaaGreatBh0
import Derived.Test.YtiogibfhafoapaaGreatScO
import Derived.Test.YtiogibfhafoapaaGreatBh3
set_option maxRecDepth 100000
set_option maxHeartbeats 8000000
set_option linter.unusedSimpArgs false
set_option linter.unusedVariables false
namespace Go.Proofs.YtiogibfhafoapaaGreat
open Go.RowKit
open Z (Sli SlOk Acd AcdOk AcOwn Ctr ctc)
theorem moved_any (w:World) (c:Cfg) (cs:List Ctr) (hcf:CfgOk w c cs) (h1t:1≤c.tills) (hcl1:1≤c.cl) (s:Sta) (hs:StaOk w s) (hsh:Shp c s) (o:Stp) :
  Calls Tryz.prog 47 #[.agg (qC c),.agg (qS s),.agg o.arr] w (MovP w c cs):=by
 have h1:0≤o.way % 4:=Int.emod_nonneg _ (by omega);have h2:o.way % 4<4:=Int.emod_lt_of_pos _ (by omega);have h3:o.way % 4=0∨o.way % 4=1∨o.way % 4=2∨o.way % 4=3:=by omega
 rcases h3 with h | h | h | h
 ·exact moved_0 w c cs hcf h1t hcl1 s hs hsh o h
 ·exact moved_1 w c cs hcf h1t hcl1 s hs hsh o h
 ·by_cases hr:s.rn=0
  ·exact moved_2n w c cs hcf h1t hcl1 s hs hsh o h hr
  ·exact moved_2p w c cs hcf h1t hcl1 s hs hsh o h (by omega)
 ·exact moved_3 w c cs hcf h1t hcl1 s hs hsh o h
end Go.Proofs.YtiogibfhafoapaaGreat
namespace Go.Proofs.YtiogibfhafoapaaGreat
open Go.RowKit Go.Sort
open Z (Sli SlOk Acd AcdOk Eda EdaOk AcOwn Ctr ctc)
theorem behind_4 (w:World) (c:Cfg) (cs:List Ctr) (hcf:CfgOk w c cs) (h1t:1≤c.tills) (hcl1:1≤c.cl) (s:Sta) (hg:StG w c s) (o:Stp) (hok:AcdOk w o.ac) (h4:o.do_=4) :
  Calls Tryz.prog 19 #[.agg (qC c),.agg (qS s),.agg o.arr] w (BehP w c s):=by
 obtain⟨O,hO⟩:∃O:Array Value,o.arr=O:=⟨_,rfl⟩;have hOz:O.size=20:=by rw[←hO];rfl
 obtain⟨w2,hw2,hb2,hc2,hs2,ho2,hr2,hsz2⟩:=step_boxes w (qC c) (qS s) O qs 42;have HW2:=hide hw2;have HM:Hid (Bhd w w2 (qC c) (qS s) O):=⟨hc2,hs2,ho2,hr2,hb2⟩;have HS0:=hide hg.ok;have HG:=hide (hg.below hb2);have HCf:=hide (hcf.below hb2);have HOk:=hide (hok.below hb2)
 have HOc:Hid (∀W:World,W.heap[w.heap.size+1+1]?=some (.cells O 57 (0,0))→W.cell? ⟨w.heap.size+1+1,0,none⟩=some (.int .i64 o.do_)∧W.cell? ⟨w.heap.size+1+1,18,none⟩=some (.int .i64 o.till)):=fun W h=>by
  refine⟨?_,?_⟩ <;> · rw[cell_of_row _ _ _ _ _ _ h,←hO];rfl
 have HLO:Hid (∀W:World,W.heap[w.heap.size+1+1]?=some (.cells O 57 (0,0))→(Instr.loadAt 57 (.pointer (some ⟨w.heap.size+1+1,0,none⟩))).run Tryz.prog W=.ok (.agg O) W):=fun W h=>Z.loadAt_row (P:=Tryz.prog) (ty:=57) h Tryz.underlying57 rfl (by rw[hOz];kernel_rfl)
 obtain⟨o0,o18⟩:=HOc.out w2 ho2;obtain⟨c0,c1,c2,c3,c4,c5⟩:=ac6 hs2;obtain⟨d0,d1,d2,d3,d4,d5,d6,d7,d8⟩:=ac9 hc2;rw[h4]at o0;have HMv:=hide (moved_any w2 c cs HCf.out h1t hcl1 s HG.out.ok HG.out.shp o);rw[hO]at HMv;have HOe:=hide hO;rw[hO];clear hO hOz hw2 hb2 hc2 hs2 ho2 hr2 hsz2 hg hcf hok;go_enter Tryz.func19,Tryz.ntmps19;go_upto_region 1 with (fail);rw[HW2.out];go_upto_region 16 with (first | (go_at_call 47;refine HMv.out.mono ?_;rintro e1 w3 ⟨RA,b,rfl,hRz,hRo,hbr,hb3⟩;have HRz:=hide hRz;have HRo:=hide hRo;have Hbr:=hide hbr;have HB3:=hide hb3;clear hRz hRo hbr hb3 c0 c1 c2 c3 c4 c5 d0 d1 d2 d3 d4 d5 d6 d7 d8) | ((with_reducible show wpList _ _ _ (⟨_,.load 57 (.tmp 5),_,_,_,_⟩ :: _) _ _);refine Z.lp_load (w.heap.size+1+1) 0 O rfl (HLO.out w2 HM.out.ob) ?_) | ((with_reducible show wpList _ _ _ (⟨_,.store 42 (.tmp 14) _,_,_,_,_⟩ :: _) _ _);refine Z.lp_store (t:=42) (x:=.tmp 14) (some ⟨w3.heap.size,0,none⟩) (.agg RA) rfl rfl (run_storeAt_new (P:=Tryz.prog) w3 42 qs RA (by rw[HRz.out];exact Tryz.sizeS) (by rw[HRz.out];rfl) HRo.out) ?_) | fail);have hbx:=heap_alloc_new w3 (.cells RA 42);have hb4:Below w3.heap.size w3 (w3.alloc (.cells RA 42)):=(Below.refl _ _).alloc (Nat.le_refl _) _;obtain⟨w4,hw4⟩:∃W,w3.alloc (.cells RA 42)=W:=⟨_,rfl⟩;rw[hw4]at hbx hb4 ⊢;obtain⟨tb,htb⟩:∃k,w3.heap.size=k:=⟨_,rfl⟩;rw[htb]at hbx ⊢;clear hw4;have HBx:=hide hbx;have HM4:Hid (Bhd w w4 (qC c) (qS s) O):=HM.out.below (HB3.out.trans (hb4.mono HB3.out.size));have HB34:=hide hb4;clear hb4 hbx
 cases b with
 | false =>
  have HGW:Hid (StG w4 c s):=HG.out.below (HB3.out.trans (HB34.out.mono HB3.out.size));obtain⟨c0,c1,c2,c3,c4,c5⟩:=ac6 HM4.out.sb;obtain⟨d0,d1,d2,d3,d4,d5,d6,d7,d8⟩:=ac9 HM4.out.cb;have HSt8:=hide (Z.storeAt_row (P:=Tryz.prog) (c':=(qS s)) HM4.out.rb Tryz.sizeS rfl (by simp[Value.oneCell']));go_wp2_with (first | ((with_reducible show wpList _ _ _ (⟨_,.store 42 (.tmp 6) _,_,_,_,_⟩ :: _) _ _);refine Z.lp_store (t:=42) (x:=.tmp 6) (some ⟨w.heap.size+1+1+1,0,none⟩) (.agg (qS s)) rfl rfl HSt8.out ?_) | fail)
  refine bodyPost_ret (results_cell_row rfl _ _ (w.heap.size+1+1+1) 42 (qS s) (0,0) _ rfl (HM4.out.told (s:=s) HGW.out (Or.inr ⟨rfl,HS0.out⟩) _).1 Tryz.underlying42 rfl Tryz.sizeS) rfl ?_;exact⟨s,rfl,(HM4.out.told HGW.out (Or.inr ⟨rfl,HS0.out⟩) _).2⟩
 | true =>
  obtain⟨r,hr1,hr2,hr3⟩:=Hbr.out rfl;have HOw:Hid (StaOw w2.heap.size w4 r):=hr2.below HB34.out;have HGr:Hid (StG w4 c r):=⟨HOw.out.ok,hr3.shp,frw_right HCf.out HOw.out.pn hr3⟩;rw[hr1]at HBx;clear hr1 hr2 hr3 Hbr;obtain⟨RA,hRA⟩:∃R:Array Value,r.arr=R:=⟨_,rfl⟩;have hRz:RA.size=6:=by rw[←hRA];rfl
  have hRo:RA.all (·.oneCell')=true:=by rw[←hRA];simp[Sta.arr,Value.oneCell']
  rw[hRA]at HBx;have HLr:=hide (Z.loadAt_row (P:=Tryz.prog) (ty:=42) HBx.out Tryz.underlying42 rfl (by rw[hRz];exact Tryz.sizeS));have HSr:=hide (Z.storeAt_row (P:=Tryz.prog) (c':=RA) HM4.out.rb (by rw[hRz];exact Tryz.sizeS) (by rw[hRz];rfl) hRo);have HRz:=hide hRz;have HRe:=hide hRA;clear hRz hRo hRA;go_wp2_with (first | ((with_reducible show wpList _ _ _ (⟨_,.load 42 (.tmp 14),_,_,_,_⟩ :: _) _ _);refine Z.lp_load tb 0 RA rfl HLr.out ?_) | ((with_reducible show wpList _ _ _ (⟨_,.store 42 (.tmp 6) _,_,_,_,_⟩ :: _) _ _);refine Z.lp_store (t:=42) (x:=.tmp 6) (some ⟨w.heap.size+1+1+1,0,none⟩) (.agg RA) rfl rfl HSr.out ?_) | fail)
  refine bodyPost_ret (results_cell_row rfl _ _ (w.heap.size+1+1+1) 42 RA (0,0) _ rfl (HM4.out.told (s:=s) HGr.out (Or.inl ⟨_,HOw.out⟩) _).1 Tryz.underlying42 rfl (by rw[HRz.out];exact Tryz.sizeS)) rfl ?_;exact⟨r,by rw[HRe.out],(HM4.out.told HGr.out (Or.inl ⟨_,HOw.out⟩) _).2⟩
end Go.Proofs.YtiogibfhafoapaaGreat
namespace Go.Proofs.YtiogibfhafoapaaGreat
open Go.RowKit
open Z (Sli SlOk Acd AcdOk AcOwn Ctr ctc)
theorem behind_any (w:World) (c:Cfg) (cs:List Ctr) (hcf:CfgOk w c cs) (h1t:1≤c.tills) (hcl1:1≤c.cl) (s:Sta) (hg:StG w c s) (o:Stp) (hok:AcdOk w o.ac) :
  Calls Tryz.prog 19 #[.agg (qC c),.agg (qS s),.agg o.arr] w (BehP w c s):=by
 by_cases h1:o.do_=1
 ·exact behind_1 w c cs hcf h1t hcl1 s hg o hok h1
 by_cases h3:o.do_=3
 ·exact behind_3 w c cs hcf h1t hcl1 s hg o hok h3
 by_cases h4:o.do_=4
 ·exact behind_4 w c cs hcf h1t hcl1 s hg o hok h4
 exact behind_0 w c cs hcf h1t hcl1 s hg o hok h1 h3 h4
end Go.Proofs.YtiogibfhafoapaaGreat
