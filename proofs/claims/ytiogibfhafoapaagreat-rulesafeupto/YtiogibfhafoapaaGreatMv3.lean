import Derived.Test.YtiogibfhafoapaaGreatDcI
import Derived.Test.YtiogibfhafoapaaGreatRwK
import Derived.Test.YtiogibfhafoapaaGreatAbZ
import Derived.Test.YtiogibfhafoapaaGreatTk
import Derived.Test.YtiogibfhafoapaaGreatMv0
set_option maxRecDepth 100000
set_option maxHeartbeats 8000000
set_option linter.unusedSimpArgs false
set_option linter.unusedVariables false
namespace Go.Proofs.YtiogibfhafoapaaGreat
open Go.RowKit Go.Sort
open Z (Sli QaE Acd Qad AcOwn Ctr ctc)
theorem Qlx (w:World) (c:Cfg) (cs:List Ctr) (hcf:Qbp w c cs) (h1t:1≤c.tills) (hcl1:1≤c.cl) (s:Sta) (hs:Qae w s) (hsh:Shp c s) (o:Stp) (hwy:o.way % 4=3) :
  Calls Tryz.prog 47 #[.agg (qC c),.agg (qS s),.agg o.arr] w (QlM w c cs s):=by
 obtain⟨O,hO⟩:=exq o.arr;obtain⟨w2,hw2,hb2,hc2,hs2,ho2,hr2,hsz2⟩:=QaV w (qC c) (qS s) O qs 42;obtain⟨HW2,HCf,HSh⟩:=Qmk hw2 hcf hsh;have HSm:=Qaa (Qbr hcf hsh);have h0:(0:Int)<c.tills:=by omega
 have ht0:0≤o.till % c.tills∧o.till % c.tills<c.tills:=⟨VK _ (by omega),VE _ h0⟩;obtain⟨t,ht⟩:∃t:Nat,o.till % c.tills=(t:Int):=⟨(o.till % c.tills).toNat,by omega⟩;rw[ht]at ht0;have h0c:(0:Int)<(c.cl:Int):=by omega
 have hi0:0≤o.what % (c.cl:Int)∧o.what % (c.cl:Int)<(c.cl:Int):=⟨VK _ (by omega),VE _ h0c⟩;obtain⟨k,hk⟩:∃t:Nat,o.what % (c.cl:Int)=(t:Int):=⟨(o.what % (c.cl:Int)).toNat,by omega⟩;rw[hk]at hi0;have htm:=hcf.tills;have hcm:=hcf.cl
 have HWt:Hid (∀W,Calls Tryz.prog 33 #[.int .i64 o.till,.int .i64 c.tills] W fun e w'=>e=.returned (.int .i64 (t:Int))∧w'=W):=fun W=>by
  have h:=Z.within_any W (o.till) (c.tills) (by omega) (by omega);rw[ht]at h;exact h
 have HWi:Hid (∀W,Calls Tryz.prog 33 #[.int .i64 o.what,.int .i64 (c.cl:Int)] W fun e w'=>e=.returned (.int .i64 (k:Int))∧w'=W):=fun W=>by
  have h:=Z.within_any W (o.what) ((c.cl:Int)) (by omega) (by omega);rw[hk]at h;exact h
 have HWw:Hid (∀W,Calls Tryz.prog 33 #[.int .i64 o.way,.int .i64 4] W fun e w'=>e=.returned (.int .i64 3)∧w'=W):=fun W=>by
  have h:=Z.within_any W (o.way) (4) (by omega) (by omega);rw[hwy]at h;exact h
 have HCs:=Qaa (Qat w2 s (hs.below hb2) (Qbr hcf hsh))
 have HOc:Hid (∀W:World,W.heap[w.heap.size+1+1]?=some (.cells O 57 (0,0))→W.cell? ⟨w.heap.size+1+1,16,none⟩=some (.int .i64 o.what)∧W.cell? ⟨w.heap.size+1+1,17,none⟩=some (.int .i64 o.way)∧W.cell? ⟨w.heap.size+1+1,18,none⟩=some (.int .i64 o.till)∧W.cell? ⟨w.heap.size+1+1,19,none⟩=some (.int .i64 o.n)):=fun W h=>by
  refine⟨?_,?_,?_,?_⟩ <;> · rw[cRq h,←hO];rfl
 have HB2:=Qaa hb2;obtain⟨c0,c1,c2,c3,c4,c5⟩:=ac6 hs2;have HPre:Hid (∀w4 tb (r0:Sta),Below w2.heap.size w2 w4→w4.heap[tb]?=some (.cells r0.arr 42 (0,0))→w2.heap.size≤tb→Qac w2.heap.size w4 r0→Mvd w w4 (qC c) (qS s) O tb r0):=fun w4 tb r0 hb ht hlt ho=>⟨(hb.block _ (Qab hc2)).trans hc2,(hb.block _ (Qab hs2)).trans hs2,(hb.block _ (Qab ho2)).trans ho2,(hb.block _ (Qab hr2)).trans hr2,ht,by omega,by rw[←hsz2];exact ho,hb2.trans (hb.mono hb2.size)⟩
 have HSk:=Qaa (hs.below hb2);obtain⟨HT,HK⟩:=Qmj ht hk;rw[hO];clear hO hw2 hb2 hc2 hs2 ho2 hr2 hs hcf h0 h0c ht hk hwy;go_enter Tryz.func47,Tryz.ntmps47;go_upto_region 1 with (fail);rw[HW2.out];go_upto_region 2 with (first | (go_at_call 15;refine HCs.out.mono ?_;rintro e1 w3 ⟨r0,rfl,hd0,ho0,hb3⟩;obtain⟨HD0,HO0,HB3⟩:=Qmk hd0 ho0 hb3;have HSt:=Qaa (run_storeAt_new (P:=Tryz.prog) w3 42 qs r0.arr Tryz.sizeS rfl (by simp[Sta.arr,Value.oneCell']));clear hd0 ho0 hb3 c0 c1 c2 c3 c4 c5) | ((with_reducible refine gsq 42 8 ?_);refine Z.lp_store (t:=42) (x:=.tmp 8) (some ⟨w3.heap.size,0,none⟩) (.agg r0.arr) rfl rfl HSt.out ?_));have hT4:=hNq w3 (.cells r0.arr 42);have hb4:Below w3.heap.size w3 (w3.alloc (.cells r0.arr 42)):=bR.alloc (Va _) _;have HSr:Hid (Shp c r0):=Qc2 HSh.out HSk.out HO0.out HD0.out;have HGn:Hid (QcX s→QcX r0):=QbJ (Vl StP.gen HD0.out);have HM4:=Qaa (HPre.out _ _ r0 (HB3.out.trans (hb4.mono HB3.out.size)) hT4 HB3.out.size (HO0.out.below hb4));obtain⟨w4,hw4⟩:=exq (w3.alloc (.cells r0.arr 42));rw[hw4]at HM4 ⊢;obtain⟨tb,htb⟩:=exq w3.heap.size;rw[htb]at HM4 ⊢;clear hw4 htb hT4 hb4 HPre HSt;obtain⟨t0,t1,t2,t3,t4,t5⟩:=ac6 HM4.out.xb;obtain⟨d0,d1,-,-,-,-,-,-,-⟩:=ac9 HM4.out.cb;obtain⟨o0,o1,o2,o3⟩:=HOc.out w4 HM4.out.ob;go_upto_region 3 with (first | (go_at_call 33;refine(HWt.out _).mono ?_;rintro e w9 ⟨rfl,h9⟩;rw[h9];clear h9 w9) | fail);go_upto_region 4 with (first | (go_at_call 33;refine(HWi.out _).mono ?_;rintro e w9 ⟨rfl,h9⟩;rw[h9];clear h9 w9) | fail);obtain⟨q,hq⟩:∃q,r0.gen[t]?=some q:=⟨_,gE (by rw[HM4.out.own.gn];have:=HSr.out.gn;omega)⟩;obtain⟨g,eg,hgB,⟨G,hG⟩,hfz,hcg,hst⟩:=HM4.out.own.setG hq;have fz:=hfz t;rw[eg]at t4;obtain⟨gv,hgv⟩:=exq (IntKind.u64.wrap o.n);have HGv:Hid (0≤gv):=by show 0≤gv;rw[←hgv];exact(Qf5 o.n)
 have HM5:Hid (Mvd w (w4.setCell ⟨g,t,none⟩ (.int .u64 gv)) (qC c) (qS s) O tb (r0.setGen t gv)):=HM4.out.set hG (Or.inr (Or.inr (Or.inr (Or.inl rfl)))) hgB _ _ rfl (hst gv);have HS5:Hid (Shp c (r0.setGen t gv)):=by have h:=HSr.out;exact⟨h.pn,h.rn,h.ln,h.gn,h.on,h.hl⟩
 have k0:(0:Int)≤(t:Int):=by omega
 have k1:(t:Int)<(r0.gn:Int):=by have:=HSr.out.gn;omega
 have k2:(t:Int)<(r0.on:Int):=by have:=HSr.out.on;omega
 clear hq hG hfz hst eg;go_upto_region 16 with (first | (go_at_call 33;refine(HWw.out _).mono ?_;rintro e w9 ⟨rfl,h9⟩;rw[h9];clear h9 w9) | fail);obtain⟨w5,hw5⟩:=exq (w4.setCell ⟨g,t,none⟩ (.int .u64 gv));rw[hw5]at HM5 ⊢;clear hw5 hgv hcg fz hgB t0 t1 t2 t3 t4 t5 d0 d1 o0 o1 o2 o3;obtain⟨r1,hr1⟩:=exq (r0.setGen t gv);have e1:r1.on=r0.on:=by rw[←hr1];rfl
 have HG5:Hid (QcX s→QcX (r0.setGen t gv)):=fun h=>QjY HGv.out (HGn.out h)
 rw[hr1]at HM5 HS5 HG5;rw[←e1]at k2;clear hr1 e1;obtain⟨q,hq⟩:∃q,r1.owed[t]?=some q:=⟨_,gE (by rw[HM5.out.own.on];omega)⟩;obtain⟨g,eg,hgB,⟨G,hG⟩,hfz,hcg,hst⟩:=HM5.out.own.setO hq;have fz:=hfz t;obtain⟨t0,t1,t2,t3,t4,t5⟩:=ac6 HM5.out.xb;obtain⟨o0,o1,o2,o3⟩:=HOc.out w5 HM5.out.ob;rw[eg]at t5;have HMx:Hid (∀b:Bool,Mvd w (w5.setCell ⟨g,t,none⟩ (.bool b)) (qC c) (qS s) O tb (r1.setOw t b)):=fun b=>HM5.out.set hG (Or.inr (Or.inr (Or.inr (Or.inr rfl)))) hgB _ _ rfl (hst b)
 have HSx:Hid (∀b:Bool,Shp c (r1.setOw t b)):=fun b=>by have h:=HS5.out;exact⟨h.pn,h.rn,h.ln,h.gn,h.on,h.hl⟩
 clear hq hG hfz hst eg;by_cases q1:o.n=0;have q2:((o.n:Int) != 0)=false:=by simp[q1]
 clear q1
 focus go_upto_region 17 with (fail)
 obtain⟨w6,hw6⟩:=exq (w5.setCell ⟨g,t,none⟩ (.bool false));have HMe:=Qaa (HMx.out false);have HShe:=Qaa (HSx.out false);obtain⟨r2,hr2⟩:=exq (r1.setOw t false);have HGe:Hid (QcX s→QcX (r1.setOw t false)):=fun h=>QbJ rfl (HG5.out h)
 rotate_left;have q2:((o.n:Int) != 0)=true:=by simp[q1]
 clear q1;by_cases q3:o.what.tmod 2=0;have q4:((o.what.tmod 2:Int) == 0)=true:=by simp[q3]
 clear q3
 focus go_upto_region 17 with (fail)
 obtain⟨w6,hw6⟩:=exq (w5.setCell ⟨g,t,none⟩ (.bool true));have HMe:=Qaa (HMx.out true);have HShe:=Qaa (HSx.out true);obtain⟨r2,hr2⟩:=exq (r1.setOw t true);have HGe:Hid (QcX s→QcX (r1.setOw t true)):=fun h=>QbJ rfl (HG5.out h)
 rotate_left;have q4:((o.what.tmod 2:Int) == 0)=false:=by simp[q3]
 clear q3
 focus go_upto_region 17 with (fail)
 obtain⟨w6,hw6⟩:=exq (w5.setCell ⟨g,t,none⟩ (.bool false));have HMe:=Qaa (HMx.out false);have HShe:=Qaa (HSx.out false);obtain⟨r2,hr2⟩:=exq (r1.setOw t false);have HGe:Hid (QcX s→QcX (r1.setOw t false)):=fun h=>QbJ rfl (HG5.out h)
 all_goals
  rw[hr2]at HMe HShe HGe;rw[hw6]at HMe ⊢;clear hw6 hr2 hcg fz t0 t1 t2 t3 t4 t5 o0 o1 o2 o3;have HMd:Hid (Mvd w w6.drew (qC c) (qS s) O tb r2):=HMe.out.below (bR.drew);have HRt:=Qaa (Qbq w6.drew c cs r2 (HCf.out.below HMd.out.bel) HMd.out.own.ok (Qbr HCf.out HShe.out));refine Vi ?_;refine Vf (S:=(fun W=>W.heap[tb]?=some (.cells (qS r2) 42 (0,0))∧W.heap[w.heap.size]?=some (.cells (qC c) 34 (0,0)))) (by kernel_rfl) ⟨HMd.out.xb,HMd.out.cb⟩ (fun hHeld=>?_);refine VM (i:=0) (oi:=_) (v:=.agg (qS r2)) rfl (by kernel_rfl) (by kernel_rfl) (by kernel_rfl) (fun _ _ _ h=>h) (Or.inl ⟨by kernel_rfl,fun W hW=>Qap W 42 (.tmp 8) rfl (tb) (qS r2) rfl (lr42 hW.1 Tryz.sizeS)⟩) hHeld ?_;try simp only[Act.put,qzg,qzh,qzi,qzs,qz0,qz1]
  refine VM (i:=1) (oi:=_) (v:=.agg (qC c)) rfl (by kernel_rfl) (by kernel_rfl) (by kernel_rfl) (fun _ _ _ h=>h) (Or.inl ⟨by kernel_rfl,fun W hW=>Qap W 34 (.tmp 3) rfl (w.heap.size) (qC c) rfl (lr34 hW.2 Tryz.sizeC)⟩) hHeld ?_;try simp only[Act.put,qzg,qzh,qzi,qzs,qz0,qz1]
  refine VM (i:=2) (oi:=_) (v:=.agg (qS r2)) rfl (by kernel_rfl) (by kernel_rfl) (by kernel_rfl) (fun _ _ _ h=>h) (Or.inl ⟨by kernel_rfl,fun W hW=>Qap W 42 (.tmp 8) rfl (tb) (qS r2) rfl (lr42 hW.1 Tryz.sizeS)⟩) hHeld ?_;try simp only[Act.put,qzg,qzh,qzi,qzs,qz0,qz1]
  refine rdy 3 (fun KK hKK=>?_);go_simp
  (go_at_call 99;refine HRt.out.mono ?_;rintro e1 w8 ⟨⟨b,rfl,hbI⟩,hb8⟩;have HM8:Hid (Mvd w w8 (qC c) (qS s) O tb r2):=HMd.out.below hb8;have HbI:=Qaa hbI;clear hb8 hbI)
  refine hKK.out _ _ (by(try dsimp only);exact⟨HM8.out.xb,HM8.out.cb⟩) (fun hHeld=>?_);clear hKK KK;try simp only[Act.put,qzg,qzh,qzi,qzs,qz0,qz1]
  refine rdy 4 (fun KK hKK=>?_);rw[if_pos (by kernel_rfl)];refine wp_store_row 42 (.tmp 6) (.tmp 130) rfl (w.heap.size+1+1+1) (qS r2) rfl rfl 42 qs HM8.out.rb Tryz.sizeS rfl (by simp[Value.oneCell']) ?_;refine hKK.out _ _ (by(try dsimp only);exact⟨(Vz _ _ _ _ (by have:=HM8.out.tlt;omega)).trans HM8.out.xb,(Vz _ _ _ _ (by omega)).trans HM8.out.cb⟩) (fun hHeld=>?_);clear hKK KK;try simp only[Act.put,qzg,qzh,qzi,qzs,qz0,qz1]
  refine rdy 5 (fun KK hKK=>?_);go_simp;refine hKK.out _ _ (by(try dsimp only);exact⟨(Vz _ _ _ _ (by have:=HM8.out.tlt;omega)).trans HM8.out.xb,(Vz _ _ _ _ (by omega)).trans HM8.out.cb⟩) (fun hHeld=>?_);clear hKK KK;try simp only[Act.put,qzg,qzh,qzi,qzs,qz0,qz1]
  refine Vp (by kernel_rfl) (Vj ?_) _;go_wp2;refine Vg (QaY rfl rfl (HM8.out.told _).1 Tryz.underlying42 rfl Tryz.sizeS) rfl ?_;exact⟨_,b,rfl,rfl,by simp[Value.oneCell'],fun h=>⟨r2,rfl,(HM8.out.told _).2.1,HbI.out.1 h,HGe.out⟩,(HM8.out.told _).2.2⟩
end Go.Proofs.YtiogibfhafoapaaGreat
