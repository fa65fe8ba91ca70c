import Derived.Test.YtiogibfhafoapaaGreatSfG0
import Derived.Test.YtiogibfhafoapaaGreatDdB
import Derived.Test.YtiogibfhafoapaaGreatScO
import Derived.Test.YtiogibfhafoapaaGreatTk
import Derived.Test.YtiogibfhafoapaaGreatDcW
import Derived.Test.YtiogibfhafoapaaGreatWkE
set_option maxRecDepth 100000
set_option maxHeartbeats 8000000
set_option linter.unusedSimpArgs false
set_option linter.unusedVariables false
namespace Go.Proofs.YtiogibfhafoapaaGreat
open Go.RowKit
open Z (Sli QaE Acd Qad)
theorem Qfk (w:World) (s:Sta) (hs:Qae w s) (a:Acd) (ha:Qad w a) (hrn:s.rn≤4194304) (hpr:∀x∈a.sets.xs,0≤x.a∧x.a<(s.rn:Int)) (oc:Int) (p q:Option Addr) (n m cap cap':Nat) (L:List Lin) (Ss:List Tri) (hn:L.length=n) (hm:Ss.length=m) (hnl:n≤140737488355328) (hml:m≤140737488355328) (hc:Cel w p 2 (L.map Qal)) (hd:Cel w q 3 (Ss.map Qar)) (hk:a.kind=1) (hw:WrT s a oc L Ss) :
  Calls Tryz.prog 17 #[.agg s.arr,.agg a.arr,.agg #[.int .i64 oc,.slice p n cap,.slice q m cap',.int .i64 0]] w fun e w'=>e=.returned (.bool true)∧Below w.heap.size w w':=by
 obtain⟨S,hS⟩:=exq s.arr;obtain⟨AA,hA⟩:=exq a.arr;obtain⟨TT,hT⟩:∃T:Array Value,#[.int .i64 oc,.slice p n cap,.slice q m cap',.int .i64 0]=T:=⟨_,rfl⟩;obtain⟨w2,hw2,hb2,hx2,hy2,hz2,hsz⟩:=QcL w S AA TT 42 55 61;obtain⟨HB2,HW2⟩:=Qmj hb2 hw2;have HI2:Hid (Below w2.heap.size w2 w2):=bR;have hSz:S.size=6:=by rw[←hS];rfl
 have hAz:AA.size=15:=by rw[←hA];rfl
 have hTz:TT.size=4:=by rw[←hT];rfl
 have T1H:Hid (∀W,Below w2.heap.size w2 W→W.cell? ⟨w.heap.size+1+1,1,none⟩=some (.slice p n cap)):=fun W h=>by
  rw[cRq ((h.block _ (Qab hz2)).trans hz2),←hT];rfl
 have T2H:Hid (∀W,Below w2.heap.size w2 W→W.cell? ⟨w.heap.size+1+1,2,none⟩=some (.slice q m cap')):=fun W h=>by
  rw[cRq ((h.block _ (Qab hz2)).trans hz2),←hT];rfl
 have T3H:Hid (∀W,Below w2.heap.size w2 W→W.cell? ⟨w.heap.size+1+1,3,none⟩=some (.int .i64 0)):=fun W h=>by
  rw[cRq ((h.block _ (Qab hz2)).trans hz2),←hT];rfl
 have A2H:Hid (∀W,Below w2.heap.size w2 W→W.cell? ⟨w.heap.size+1,2,none⟩=some (.int .i64 1)):=fun W h=>by
  rw[cRq ((h.block _ (Qab hy2)).trans hy2),←hA];simp[Acd.arr,hk]
 have HLS:Hid ((Instr.loadAt 42 (.pointer (some ⟨w.heap.size,0,none⟩))).run Tryz.prog w2=.ok (.agg S) w2):=lr42 hx2 (by rw[hSz];exact Tryz.sizeS);have HLA:Hid ((Instr.loadAt 55 (.pointer (some ⟨w.heap.size+1,0,none⟩))).run Tryz.prog w2=.ok (.agg AA) w2):=lr55 hy2 (by rw[hAz];exact Z.Tryz.sizeA);have HLT:Hid ((Instr.loadAt 61 (.pointer (some ⟨w.heap.size+1+1,0,none⟩))).run Tryz.prog w2=.ok (.agg TT) w2):=lr61 hz2 (by rw[hTz];exact Tryz.sizeW)
 have HWr:Hid (Calls Tryz.prog 43 #[.agg S,.agg AA,.agg TT,.bool (decide (n=0) && decide (m=0))] w2 fun e w'=>e=.returned (.bool true)∧Below w2.heap.size w2 w'):=by
  have h:=Qfr w2 s (hs.below hb2) hrn a (ha.below hb2) hpr oc 0 p q n m cap cap' L Ss hn hm hnl hml (hc.below hb2) (hd.below hb2) hw;rw[hS,hA,hT]at h;exact h
 have t1:=T1H.out w2 HI2.out;have t2:=T2H.out w2 HI2.out;have t3:=T3H.out w2 HI2.out;have a2:=A2H.out w2 HI2.out;rw[hS,hA,hT];clear hw2 hb2 hx2 hy2 hz2 hsz hs ha hpr hS hA hT hSz hAz hTz hc hd hn hm hnl hml hrn hw hk;go_enter Tryz.func17,Tryz.ntmps17;go_upto_region 1 with (fail);rw[HW2.out];by_cases n0:n=0
 ·have n1:(n:Int)=0:=by omega
  by_cases m0:m=0
  ·have m1:(m:Int)=0:=by omega
   rw[show (decide (n=0) && decide (m=0))=true by simp[n0,m0]]at HWr;clear n0 m0
   go_wp2_with (
     first
     | ((with_reducible refine glq 42 3 ?_);refine Qak w.heap.size 0 S (by exact rfl) rfl HLS.out ?_)
     | ((with_reducible refine glq 55 4 ?_);refine Qak (w.heap.size+1) 0 AA (by exact rfl) rfl HLA.out ?_)
     | ((with_reducible refine glq 61 5 ?_);refine Qak (w.heap.size+1+1) 0 TT (by exact rfl) rfl HLT.out ?_)
     | (go_at_call 43;refine HWr.out.mono ?_;rintro e3 w3 ⟨rfl,h3⟩;have HB3:Hid (Below w.heap.size w w3):=HB2.out.trans (h3.mono HB2.out.size);clear h3 t1 t2 t3 a2)
     | fail)
   go_ret;exact⟨rfl,HB3.out⟩
  ·have m1:((m:Int) == 0)=false:=by simp[m0]
   rw[show (decide (n=0) && decide (m=0))=false by simp[m0]]at HWr;clear n0 m0
   go_wp2_with (
     first
     | ((with_reducible refine glq 42 3 ?_);refine Qak w.heap.size 0 S (by exact rfl) rfl HLS.out ?_)
     | ((with_reducible refine glq 55 4 ?_);refine Qak (w.heap.size+1) 0 AA (by exact rfl) rfl HLA.out ?_)
     | ((with_reducible refine glq 61 5 ?_);refine Qak (w.heap.size+1+1) 0 TT (by exact rfl) rfl HLT.out ?_)
     | (go_at_call 43;refine HWr.out.mono ?_;rintro e3 w3 ⟨rfl,h3⟩;have HB3:Hid (Below w.heap.size w w3):=HB2.out.trans (h3.mono HB2.out.size);clear h3 t1 t2 t3 a2)
     | fail)
   go_ret;exact⟨rfl,HB3.out⟩
 ·have n1:((n:Int) == 0)=false:=by simp[n0]
  rw[show (decide (n=0) && decide (m=0))=false by simp[n0]]at HWr;clear n0
  go_wp2_with (
    first
    | ((with_reducible refine glq 42 3 ?_);refine Qak w.heap.size 0 S (by exact rfl) rfl HLS.out ?_)
    | ((with_reducible refine glq 55 4 ?_);refine Qak (w.heap.size+1) 0 AA (by exact rfl) rfl HLA.out ?_)
    | ((with_reducible refine glq 61 5 ?_);refine Qak (w.heap.size+1+1) 0 TT (by exact rfl) rfl HLT.out ?_)
    | (go_at_call 43;refine HWr.out.mono ?_;rintro e3 w3 ⟨rfl,h3⟩;have HB3:Hid (Below w.heap.size w w3):=HB2.out.trans (h3.mono HB2.out.size);clear h3 t1 t2 t3 a2)
    | fail)
  go_ret;exact⟨rfl,HB3.out⟩
theorem QhA (w:World) (s:Sta) (hs:Qae w s) (a:Acd) (ha:Qad w a) (t k:Nat) (rd:Int) (p q:Option Addr) (cap cap':Nat) (nv:Int) (hk:a.kind=2) (hat:a.till=(t:Int)) (hra:a.ra=(k:Int)) (hrw:a.rb=0∨a.rb=1) (hrd:a.rd=rd) (hkn:k<s.pn) (hth:RgH s t) (v1:0≤nv) (v2:nv≤rd) (v3:nv≤s.free a.ra a.rb) (v4:nv=rd∨nv=s.free a.ra a.rb∨nv+s.held a.till a.ra a.rb=18014398509481984) :
  Calls Tryz.prog 17 #[.agg s.arr,.agg a.arr,.agg #[.int .i64 4,.slice p 0 cap,.slice q 0 cap',.int .i64 nv]] w fun e w'=>e=.returned (.bool true)∧Below w.heap.size w w':=by
 obtain⟨S,hS⟩:=exq s.arr;obtain⟨AA,hA⟩:=exq a.arr;obtain⟨TT,hT⟩:∃T:Array Value,#[.int .i64 4,.slice p 0 cap,.slice q 0 cap',.int .i64 nv]=T:=⟨_,rfl⟩;obtain⟨w2,hw2,hb2,hx2,hy2,hz2,hsz⟩:=QcL w S AA TT 42 55 61;obtain⟨HB2,HW2⟩:=Qmj hb2 hw2;have HI2:Hid (Below w2.heap.size w2 w2):=bR;obtain⟨P,l,pb,po,hb,ho,hPA⟩:=Qgk hs hkn hth;obtain⟨bw,hrb,hbw⟩:∃bw:Nat,a.rb=(bw:Int)∧(bw=0∨bw=1):=by rcases hrw with h | h;exact⟨0,h,Or.inl rfl⟩;exact⟨1,h,Or.inr rfl⟩
 rw[hra,hrb]at v3 v4;rw[hat]at v4;rw[Qb9 hPA.at_ (by omega) t]at v3 v4;rw[QcO hPA.at_ (by omega) t]at v4;obtain⟨f,hf⟩:=exq (avP P false t (bw:Int));obtain⟨h,hh⟩:=exq (avP P true t (bw:Int));rw[hf]at v3 v4;rw[hh]at v4;obtain⟨p0,p1,p2,p3,-,-⟩:=hPA.cells w2 hb2;have k1:(k:Int)<(s.pn:Int):=hPA.kn;have t1':=hPA.tn;have k0:(0:Int)≤(k:Int):=by omega
 have t0':(0:Int)≤(t:Int):=by omega
 have b0:(0:Int)≤(bw:Int):=by omega
 have b1:(bw:Int)<2:=by omega
 have HQC:Hid (∀W,Below w2.heap.size w2 W→W.cell? ⟨hb,ho+t*2+bw,none⟩=some (.int .i64 h)):=fun W hW=>by
  obtain⟨-,-,-,-,q0,q1⟩:=hPA.cells W (hb2.trans (hW.mono hb2.size));rw[←hh];unfold avP;rw[hPA.pair];rcases hbw with rfl | rfl
  ·exact q0
  ·exact q1
 obtain⟨pv,hpv⟩:=exq P.v;obtain⟨f0,hf0⟩:=exq P.f0;obtain⟨f1,hf1⟩:=exq P.f1;obtain⟨hl2,hhl2⟩:=exq P.hl;obtain⟨hc2,hhc2⟩:=exq P.hc;rw[hpv]at p0;rw[hf0]at p1;rw[hf1]at p2;rw[hhl2,hhc2]at p3;rw[hhl2]at t1';obtain⟨w3,hw3,hb3,hx3⟩:=Qag w2 #[.int .i64 pv,.int .i64 f0,.int .i64 f1,.slice (some ⟨hb,ho,none⟩) hl2 hc2] 121
 have HX3:Hid (∀W,Below w3.heap.size w3 W→W.cell? ⟨w2.heap.size,1+bw,none⟩=some (.int .i64 f)∧W.cell? ⟨w2.heap.size,3,none⟩=some (.slice (some ⟨hb,ho,none⟩) hl2 hc2)):=fun W hW=>by
  have h1:=(hW.block _ (Qab hx3)).trans hx3;rw[cRq h1,cRq h1];refine⟨?_,rfl⟩;rw[←hf];unfold avP;rcases hbw with rfl | rfl
  ·rw[←hf0];rfl
  ·rw[←hf1];rfl
 have HW3:=Qaa hw3;have HB3:Hid (Below w2.heap.size w2 w3):=hb3
 have T0H:Hid (∀W,Below w2.heap.size w2 W→W.cell? ⟨w.heap.size+1+1,0,none⟩=some (.int .i64 4)):=fun W h=>by
  rw[cRq ((h.block _ (Qab hz2)).trans hz2),←hT];rfl
 have T1H:Hid (∀W,Below w2.heap.size w2 W→W.cell? ⟨w.heap.size+1+1,1,none⟩=some (.slice p 0 cap)):=fun W h=>by
  rw[cRq ((h.block _ (Qab hz2)).trans hz2),←hT];rfl
 have T2H:Hid (∀W,Below w2.heap.size w2 W→W.cell? ⟨w.heap.size+1+1,2,none⟩=some (.slice q 0 cap')):=fun W h=>by
  rw[cRq ((h.block _ (Qab hz2)).trans hz2),←hT];rfl
 have T3H:Hid (∀W,Below w2.heap.size w2 W→W.cell? ⟨w.heap.size+1+1,3,none⟩=some (.int .i64 nv)):=fun W h=>by
  rw[cRq ((h.block _ (Qab hz2)).trans hz2),←hT];rfl
 have A0H:Hid (∀W,Below w2.heap.size w2 W→W.cell? ⟨w.heap.size+1,0,none⟩=some (.int .i64 (t:Int))):=fun W h=>by
  rw[cRq ((h.block _ (Qab hy2)).trans hy2),←hA];simp[Acd.arr,hat]
 have A2H:Hid (∀W,Below w2.heap.size w2 W→W.cell? ⟨w.heap.size+1,2,none⟩=some (.int .i64 2)):=fun W h=>by
  rw[cRq ((h.block _ (Qab hy2)).trans hy2),←hA];simp[Acd.arr,hk]
 have A9H:Hid (∀W,Below w2.heap.size w2 W→W.cell? ⟨w.heap.size+1,9,none⟩=some (.int .i64 (k:Int))):=fun W h=>by
  rw[cRq ((h.block _ (Qab hy2)).trans hy2),←hA];simp[Acd.arr,hra]
 have AAH:Hid (∀W,Below w2.heap.size w2 W→W.cell? ⟨w.heap.size+1,10,none⟩=some (.int .i64 (bw:Int))):=fun W h=>by
  rw[cRq ((h.block _ (Qab hy2)).trans hy2),←hA];simp[Acd.arr,hrb]
 have ABH:Hid (∀W,Below w2.heap.size w2 W→W.cell? ⟨w.heap.size+1,11,none⟩=some (.int .i64 rd)):=fun W h=>by
  rw[cRq ((h.block _ (Qab hy2)).trans hy2),←hA];simp[Acd.arr,hrd]
 have S1H:Hid (∀W,Below w2.heap.size w2 W→W.cell? ⟨w.heap.size,1,none⟩=some (.slice (some ⟨pb,po,none⟩) s.pn s.pc)):=fun W h=>by
  rw[cRq ((h.block _ (Qab hx2)).trans hx2),←hS,←hPA.pp];rfl
 have t0:=T0H.out w2 HI2.out;have t1:=T1H.out w2 HI2.out;have t2:=T2H.out w2 HI2.out;have t3:=T3H.out w2 HI2.out;have a0:=A0H.out w2 HI2.out;have a2:=A2H.out w2 HI2.out;have a9:=A9H.out w2 HI2.out;have aa:=AAH.out w2 HI2.out;have ab:=ABH.out w2 HI2.out;have s1:=S1H.out w2 HI2.out;rw[hS,hA,hT];clear hw2 hb2 hx2 hy2 hz2 hsz hs ha hS hA hT hk hat hra hrd hkn hth hf hh hpv hf0 hf1 hhl2 hhc2 hPA hw3 hb3 hx3 hrb hrw hbw;go_enter Tryz.func17,Tryz.ntmps17;go_upto_region 1 with (fail);rw[HW2.out];go_upto_region 7 with (fail);rw[HW3.out];clear t0 t1 t2 t3 a0 a2 a9 aa ab s1 p0 p1 p2 p3;by_cases e1:nv=rd
 ·subst e1
  clear v4;have t0:=T0H.out w3 HB3.out;have t1:=T1H.out w3 HB3.out;have t2:=T2H.out w3 HB3.out;have t3:=T3H.out w3 HB3.out;have a0:=A0H.out w3 HB3.out;have a2:=A2H.out w3 HB3.out;have a9:=A9H.out w3 HB3.out;have aa:=AAH.out w3 HB3.out;have ab:=ABH.out w3 HB3.out;have s1:=S1H.out w3 HB3.out;have q0:=HQC.out w3 HB3.out;obtain⟨x1,x3⟩:=HX3.out w3 bR;refine Vi ?_;refine Vf (S:=(fun w'=>w'.cell? ⟨w.heap.size+1+1,3,none⟩=some (.int .i64 nv)∧w'.cell? ⟨w.heap.size+1,11,none⟩=some (.int .i64 nv)∧w'.cell? ⟨w.heap.size+1,10,none⟩=some (.int .i64 (bw:Int))∧w'.cell? ⟨w2.heap.size,1+bw,none⟩=some (.int .i64 f)∧w'.cell? ⟨w.heap.size+1,0,none⟩=some (.int .i64 (t:Int))∧w'.cell? ⟨w2.heap.size,3,none⟩=some (.slice (some ⟨hb,ho,none⟩) hl2 hc2)∧w'.cell? ⟨hb,ho+t*2+bw,none⟩=some (.int .i64 h))) (by kernel_rfl) (by go_keep) (fun hHeld=>?_);refine tkg 0 ?_;refine tkg 1 ?_;refine tkg 2 ?_;refine tkg 3 ?_;refine tkg 4 ?_;refine tkg 5 ?_;refine tkg 6 ?_;refine tkv 7 ?_;refine tkv 8 ?_;refine tkv 9 ?_;refine tkv 10 ?_;refine tkv 11 ?_;refine tkv 12 ?_;refine tkv 13 ?_;refine tkv 14 ?_;refine tkv 15 ?_;refine tkg 16 ?_;refine tkg 17 ?_;refine tkv 18 ?_;refine tkv 19 ?_;refine tkv 20 ?_;refine tkv 21 ?_;refine tkv 22 ?_;refine tkv 23 ?_;refine tkv 24 ?_;refine tkv 25 ?_;refine tkv 26 ?_;refine tkv 27 ?_;refine tkv 28 ?_;refine tkv 29 ?_;refine tkv 30 ?_;refine tkv 31 ?_;refine tkv 32 ?_;refine tkg 33 ?_;refine tkg 34 ?_;try simp only[Act.put,qzg,qzh,qzi,qzs,qz0,qz1]
  refine Vp (by kernel_rfl) (Vj ?_) _;clear t0 t1 t2 t3 a0 a2 a9 aa ab s1 q0 x1 x3;have HB4:Hid (Below w3.heap.size w3 w3.drew):=bR.drew;obtain⟨w4,hw4⟩:=exq w3.drew;rw[hw4]at HB4 ⊢;clear hw4;have HB5:Hid (Below w2.heap.size w2 w4):=HB3.out.trans (HB4.out.mono HB3.out.size);have t0:=T0H.out w4 HB5.out;have t1:=T1H.out w4 HB5.out;have t2:=T2H.out w4 HB5.out;have t3:=T3H.out w4 HB5.out;have a0:=A0H.out w4 HB5.out;have a2:=A2H.out w4 HB5.out;have a9:=A9H.out w4 HB5.out;have aa:=AAH.out w4 HB5.out;have ab:=ABH.out w4 HB5.out;have s1:=S1H.out w4 HB5.out;have q0:=HQC.out w4 HB5.out;obtain⟨x1,x3⟩:=HX3.out w4 HB4.out;go_upto_region 8 with (fail);refine Vi ?_;refine Vf (S:=(fun w'=>w'.cell? ⟨w.heap.size+1+1,0,none⟩=some (.int .i64 4)∧w'.cell? ⟨w.heap.size+1+1,3,none⟩=some (.int .i64 nv)∧w'.cell? ⟨w.heap.size+1,11,none⟩=some (.int .i64 nv)∧w'.cell? ⟨w.heap.size+1,10,none⟩=some (.int .i64 (bw:Int))∧w'.cell? ⟨w2.heap.size,1+bw,none⟩=some (.int .i64 f))) (by kernel_rfl) (by go_keep) (fun hHeld=>?_);refine tkg 0 ?_;refine tkg 1 ?_;refine tkg 2 ?_;refine tkg 3 ?_;refine tkg 4 ?_;refine tkg 5 ?_;refine tkg 6 ?_;refine tkg 7 ?_;refine tkg 8 ?_;refine tkg 9 ?_;refine tkg 10 ?_;refine tkg 11 ?_;refine tkg 12 ?_;refine tkg 13 ?_;refine tkg 14 ?_;refine tkg 15 ?_;refine tkg 16 ?_;refine tkg 17 ?_;refine tkg 18 ?_;refine tkg 19 ?_;refine tkg 20 ?_;refine tkg 21 ?_;refine tkg 22 ?_;refine tkg 23 ?_;refine tkg 24 ?_;refine tkg 25 ?_;refine tkg 26 ?_;refine tkg 27 ?_;refine tkg 28 ?_;refine tkg 29 ?_;refine tkg 30 ?_;refine tkg 31 ?_;refine tkg 32 ?_;refine tkg 33 ?_;try simp only[Act.put,qzg,qzh,qzi,qzs,qz0,qz1]
  refine Vp (by kernel_rfl) (Vj ?_) _;go_wp2;go_ret;exact⟨rfl,HB2.out.trans ((HB5.out.drew).mono HB2.out.size)⟩
 ·have g1:(nv == rd)=false:=by simp[e1]
  by_cases e2:nv=f
  ·subst e2
   clear v4;have t0:=T0H.out w3 HB3.out;have t1:=T1H.out w3 HB3.out;have t2:=T2H.out w3 HB3.out;have t3:=T3H.out w3 HB3.out;have a0:=A0H.out w3 HB3.out;have a2:=A2H.out w3 HB3.out;have a9:=A9H.out w3 HB3.out;have aa:=AAH.out w3 HB3.out;have ab:=ABH.out w3 HB3.out;have s1:=S1H.out w3 HB3.out;have q0:=HQC.out w3 HB3.out;obtain⟨x1,x3⟩:=HX3.out w3 bR;refine Vi ?_;refine Vf (S:=(fun w'=>w'.cell? ⟨w.heap.size+1+1,3,none⟩=some (.int .i64 nv)∧w'.cell? ⟨w.heap.size+1,11,none⟩=some (.int .i64 rd)∧w'.cell? ⟨w.heap.size+1,10,none⟩=some (.int .i64 (bw:Int))∧w'.cell? ⟨w2.heap.size,1+bw,none⟩=some (.int .i64 nv)∧w'.cell? ⟨w.heap.size+1,0,none⟩=some (.int .i64 (t:Int))∧w'.cell? ⟨w2.heap.size,3,none⟩=some (.slice (some ⟨hb,ho,none⟩) hl2 hc2)∧w'.cell? ⟨hb,ho+t*2+bw,none⟩=some (.int .i64 h))) (by kernel_rfl) (by go_keep) (fun hHeld=>?_);refine tkg 0 ?_;refine tkg 1 ?_;refine tkg 2 ?_;refine tkg 3 ?_;refine tkg 4 ?_;refine tkg 5 ?_;refine tkg 6 ?_;refine tkg 7 ?_;refine tkg 8 ?_;refine tkg 9 ?_;refine tkg 10 ?_;refine tkg 11 ?_;refine tkg 12 ?_;refine tkg 13 ?_;refine tkg 14 ?_;refine tkg 15 ?_;refine tkg 16 ?_;refine tkg 17 ?_;refine tkv 18 ?_;refine tkv 19 ?_;refine tkv 20 ?_;refine tkv 21 ?_;refine tkv 22 ?_;refine tkv 23 ?_;refine tkv 24 ?_;refine tkv 25 ?_;refine tkv 26 ?_;refine tkv 27 ?_;refine tkv 28 ?_;refine tkv 29 ?_;refine tkv 30 ?_;refine tkv 31 ?_;refine tkv 32 ?_;refine tkg 33 ?_;refine tkg 34 ?_;try simp only[Act.put,qzg,qzh,qzi,qzs,qz0,qz1]
   refine Vp (by kernel_rfl) (Vj ?_) _;clear t0 t1 t2 t3 a0 a2 a9 aa ab s1 q0 x1 x3;have HB4:Hid (Below w3.heap.size w3 w3.drew):=bR.drew;obtain⟨w4,hw4⟩:=exq w3.drew;rw[hw4]at HB4 ⊢;clear hw4;have HB5:Hid (Below w2.heap.size w2 w4):=HB3.out.trans (HB4.out.mono HB3.out.size);have t0:=T0H.out w4 HB5.out;have t1:=T1H.out w4 HB5.out;have t2:=T2H.out w4 HB5.out;have t3:=T3H.out w4 HB5.out;have a0:=A0H.out w4 HB5.out;have a2:=A2H.out w4 HB5.out;have a9:=A9H.out w4 HB5.out;have aa:=AAH.out w4 HB5.out;have ab:=ABH.out w4 HB5.out;have s1:=S1H.out w4 HB5.out;have q0:=HQC.out w4 HB5.out;obtain⟨x1,x3⟩:=HX3.out w4 HB4.out;go_upto_region 8 with (fail);refine Vi ?_;refine Vf (S:=(fun w'=>w'.cell? ⟨w.heap.size+1+1,0,none⟩=some (.int .i64 4)∧w'.cell? ⟨w.heap.size+1+1,3,none⟩=some (.int .i64 nv)∧w'.cell? ⟨w.heap.size+1,11,none⟩=some (.int .i64 rd)∧w'.cell? ⟨w.heap.size+1,10,none⟩=some (.int .i64 (bw:Int))∧w'.cell? ⟨w2.heap.size,1+bw,none⟩=some (.int .i64 nv))) (by kernel_rfl) (by go_keep) (fun hHeld=>?_);refine tkg 0 ?_;refine tkg 1 ?_;refine tkg 2 ?_;refine tkg 3 ?_;refine tkg 4 ?_;refine tkg 5 ?_;refine tkg 6 ?_;refine tkg 7 ?_;refine tkg 8 ?_;refine tkg 9 ?_;refine tkg 10 ?_;refine tkg 11 ?_;refine tkg 12 ?_;refine tkg 13 ?_;refine tkg 14 ?_;refine tkg 15 ?_;refine tkg 16 ?_;refine tkg 17 ?_;refine tkg 18 ?_;refine tkg 19 ?_;refine tkg 20 ?_;refine tkg 21 ?_;refine tkg 22 ?_;refine tkg 23 ?_;refine tkg 24 ?_;refine tkg 25 ?_;refine tkg 26 ?_;refine tkg 27 ?_;refine tkg 28 ?_;refine tkg 29 ?_;refine tkg 30 ?_;refine tkg 31 ?_;refine tkg 32 ?_;refine tkg 33 ?_;try simp only[Act.put,qzg,qzh,qzi,qzs,qz0,qz1]
   refine Vp (by kernel_rfl) (Vj ?_) _;go_wp2;go_ret;exact⟨rfl,HB2.out.trans ((HB5.out.drew).mono HB2.out.size)⟩
  ·have g2:(nv == f)=false:=by simp[e2]
   have e3:nv+h=18014398509481984:=by omega
   have g3:IntKind.i64.wrap (nv+h)=18014398509481984:=by rw[e3];rfl
   clear v4 e3;have t0:=T0H.out w3 HB3.out;have t1:=T1H.out w3 HB3.out;have t2:=T2H.out w3 HB3.out;have t3:=T3H.out w3 HB3.out;have a0:=A0H.out w3 HB3.out;have a2:=A2H.out w3 HB3.out;have a9:=A9H.out w3 HB3.out;have aa:=AAH.out w3 HB3.out;have ab:=ABH.out w3 HB3.out;have s1:=S1H.out w3 HB3.out;have q0:=HQC.out w3 HB3.out;obtain⟨x1,x3⟩:=HX3.out w3 bR;refine Vi ?_;refine Vf (S:=(fun w'=>w'.cell? ⟨w.heap.size+1+1,3,none⟩=some (.int .i64 nv)∧w'.cell? ⟨w.heap.size+1,11,none⟩=some (.int .i64 rd)∧w'.cell? ⟨w.heap.size+1,10,none⟩=some (.int .i64 (bw:Int))∧w'.cell? ⟨w2.heap.size,1+bw,none⟩=some (.int .i64 f)∧w'.cell? ⟨w.heap.size+1,0,none⟩=some (.int .i64 (t:Int))∧w'.cell? ⟨w2.heap.size,3,none⟩=some (.slice (some ⟨hb,ho,none⟩) hl2 hc2)∧w'.cell? ⟨hb,ho+t*2+bw,none⟩=some (.int .i64 h))) (by kernel_rfl) (by go_keep) (fun hHeld=>?_);refine tkg 0 ?_;refine tkg 1 ?_;refine tkg 2 ?_;refine tkg 3 ?_;refine tkg 4 ?_;refine tkg 5 ?_;refine tkg 6 ?_;refine tkg 7 ?_;refine tkg 8 ?_;refine tkg 9 ?_;refine tkg 10 ?_;refine tkg 11 ?_;refine tkg 12 ?_;refine tkg 13 ?_;refine tkg 14 ?_;refine tkg 15 ?_;refine tkg 16 ?_;refine tkg 17 ?_;refine tkg 18 ?_;refine tkg 19 ?_;refine tkg 20 ?_;refine tkg 21 ?_;refine tkg 22 ?_;refine tkg 23 ?_;refine tkg 24 ?_;refine tkg 25 ?_;refine tkg 26 ?_;refine tkg 27 ?_;refine tkg 28 ?_;refine tkg 29 ?_;refine tkg 30 ?_;refine tkg 31 ?_;refine tkg 32 ?_;refine tkg 33 ?_;refine tkg 34 ?_;try simp only[Act.put,qzg,qzh,qzi,qzs,qz0,qz1]
   refine Vp (by kernel_rfl) (Vj ?_) _;clear t0 t1 t2 t3 a0 a2 a9 aa ab s1 q0 x1 x3;have HB4:Hid (Below w3.heap.size w3 w3.drew):=bR.drew;obtain⟨w4,hw4⟩:=exq w3.drew;rw[hw4]at HB4 ⊢;clear hw4;have HB5:Hid (Below w2.heap.size w2 w4):=HB3.out.trans (HB4.out.mono HB3.out.size);have t0:=T0H.out w4 HB5.out;have t1:=T1H.out w4 HB5.out;have t2:=T2H.out w4 HB5.out;have t3:=T3H.out w4 HB5.out;have a0:=A0H.out w4 HB5.out;have a2:=A2H.out w4 HB5.out;have a9:=A9H.out w4 HB5.out;have aa:=AAH.out w4 HB5.out;have ab:=ABH.out w4 HB5.out;have s1:=S1H.out w4 HB5.out;have q0:=HQC.out w4 HB5.out;obtain⟨x1,x3⟩:=HX3.out w4 HB4.out;go_upto_region 8 with (fail);refine Vi ?_;refine Vf (S:=(fun w'=>w'.cell? ⟨w.heap.size+1+1,0,none⟩=some (.int .i64 4)∧w'.cell? ⟨w.heap.size+1+1,3,none⟩=some (.int .i64 nv)∧w'.cell? ⟨w.heap.size+1,11,none⟩=some (.int .i64 rd)∧w'.cell? ⟨w.heap.size+1,10,none⟩=some (.int .i64 (bw:Int))∧w'.cell? ⟨w2.heap.size,1+bw,none⟩=some (.int .i64 f))) (by kernel_rfl) (by go_keep) (fun hHeld=>?_);refine tkg 0 ?_;refine tkg 1 ?_;refine tkg 2 ?_;refine tkg 3 ?_;refine tkg 4 ?_;refine tkg 5 ?_;refine tkg 6 ?_;refine tkg 7 ?_;refine tkg 8 ?_;refine tkg 9 ?_;refine tkg 10 ?_;refine tkg 11 ?_;refine tkg 12 ?_;refine tkg 13 ?_;refine tkg 14 ?_;refine tkg 15 ?_;refine tkg 16 ?_;refine tkg 17 ?_;refine tkg 18 ?_;refine tkg 19 ?_;refine tkg 20 ?_;refine tkg 21 ?_;refine tkg 22 ?_;refine tkg 23 ?_;refine tkg 24 ?_;refine tkg 25 ?_;refine tkg 26 ?_;refine tkg 27 ?_;refine tkg 28 ?_;refine tkg 29 ?_;refine tkg 30 ?_;refine tkg 31 ?_;refine tkg 32 ?_;refine tkg 33 ?_;try simp only[Act.put,qzg,qzh,qzi,qzs,qz0,qz1]
   refine Vp (by kernel_rfl) (Vj ?_) _;go_wp2;go_ret;exact⟨rfl,HB2.out.trans ((HB5.out.drew).mono HB2.out.size)⟩
theorem QfW (w:World) (s:Sta) (hs:Qae w s) (a:Acd) (ha:Qad w a) (oc:Int) (p q:Option Addr) (cap cap':Nat) (k1:¬a.kind=1) (k2:¬a.kind=2) (ho:oc=5∨oc=3) :
  Calls Tryz.prog 17 #[.agg s.arr,.agg a.arr,.agg #[.int .i64 oc,.slice p 0 cap,.slice q 0 cap',.int .i64 0]] w fun e w'=>e=.returned (.bool true)∧Below w.heap.size w w':=by
 obtain⟨S,hS⟩:=exq s.arr;obtain⟨AA,hA⟩:=exq a.arr;obtain⟨TT,hT⟩:∃T:Array Value,#[.int .i64 oc,.slice p 0 cap,.slice q 0 cap',.int .i64 0]=T:=⟨_,rfl⟩;obtain⟨w2,hw2,hb2,hx2,hy2,hz2,hsz⟩:=QcL w S AA TT 42 55 61;obtain⟨HB2,HW2⟩:=Qmj hb2 hw2;have HI2:Hid (Below w2.heap.size w2 w2):=bR;obtain⟨kd,hk⟩:=exq a.kind;have g1:(kd == 1)=false:=by rw[←hk];simp[k1]
 have g2:(kd == 2)=false:=by rw[←hk];simp[k2]
 have T0H:Hid (∀W,Below w2.heap.size w2 W→W.cell? ⟨w.heap.size+1+1,0,none⟩=some (.int .i64 oc)):=fun W h=>by
  rw[cRq ((h.block _ (Qab hz2)).trans hz2),←hT];rfl
 have T1H:Hid (∀W,Below w2.heap.size w2 W→W.cell? ⟨w.heap.size+1+1,1,none⟩=some (.slice p 0 cap)):=fun W h=>by
  rw[cRq ((h.block _ (Qab hz2)).trans hz2),←hT];rfl
 have T2H:Hid (∀W,Below w2.heap.size w2 W→W.cell? ⟨w.heap.size+1+1,2,none⟩=some (.slice q 0 cap')):=fun W h=>by
  rw[cRq ((h.block _ (Qab hz2)).trans hz2),←hT];rfl
 have T3H:Hid (∀W,Below w2.heap.size w2 W→W.cell? ⟨w.heap.size+1+1,3,none⟩=some (.int .i64 0)):=fun W h=>by
  rw[cRq ((h.block _ (Qab hz2)).trans hz2),←hT];rfl
 have A2H:Hid (∀W,Below w2.heap.size w2 W→W.cell? ⟨w.heap.size+1,2,none⟩=some (.int .i64 kd)):=fun W h=>by
  rw[cRq ((h.block _ (Qab hy2)).trans hy2),←hA];simp[Acd.arr,hk]
 have t0:=T0H.out w2 HI2.out;have t1:=T1H.out w2 HI2.out;have t2:=T2H.out w2 HI2.out;have t3:=T3H.out w2 HI2.out;have a2:=A2H.out w2 HI2.out;rw[hS,hA,hT];clear hw2 hb2 hx2 hy2 hz2 hsz hs ha hS hA hT hk k1 k2;go_enter Tryz.func17,Tryz.ntmps17;go_upto_region 1 with (fail);rw[HW2.out];rcases ho with rfl | rfl
 ·go_wp2
  go_ret;exact⟨rfl,HB2.out⟩
 ·go_wp2
  go_ret;exact⟨rfl,HB2.out⟩
end Go.Proofs.YtiogibfhafoapaaGreat
namespace Go.Proofs.YtiogibfhafoapaaGreat
open Go.RowKit
theorem QiR (w:World) :
  Calls Tryz.prog 20 #[] w fun e w'=>e=.returned (.bool true)∧Below w.heap.size w w':=by
 obtain⟨n,hn⟩:=exq w.heap.size;obtain⟨w1,hw1⟩:=exq (w.alloc (.cells #[.int .i64 1,.int .i64 0] 118));have z1:w1.heap.size=n+1:=by rw[←hw1];simp[hn]
 have b1:Below n w w1:=by rw[←hw1];exact bR.alloc (by omega) _
 have x1:w1.heap[n]?=some (.cells #[.int .i64 1,.int .i64 0] 118 (0,0)):=by rw[←hw1,←hn];exact hNq _ _
 obtain⟨w2,hw2⟩:=exq (w1.alloc (.cells #[.int .i64 6,.int .i64 5,.int .i64 4,.slice (some ⟨n,0,none⟩) 1 1] 121));have z2:w2.heap.size=n+1+1:=by rw[←hw2];simp[z1]
 have b2:Below (n+1) w1 w2:=by rw[←hw2];exact bR.alloc (by omega) _
 have x2:w2.heap[n+1]?=some (.cells #[.int .i64 6,.int .i64 5,.int .i64 4,.slice (some ⟨n,0,none⟩) 1 1] 121 (0,0)):=by rw[←hw2,←z1];exact hNq _ _
 have s2:Sok w2 (n+1) n:=⟨x2,(b2.block n (by omega)).trans x1⟩;obtain⟨w5,hw5⟩:=exq (((w2.alloc (.cells #[.int .u64 0] 36)).alloc (.cells #[.int .u64 0] 36)).alloc (.cells #[.bool false] 4));have z5:w5.heap.size=n+1+1+1+1+1:=by rw[←hw5];simp[z2]
 have b5:Below (n+1+1) w2 w5:=by rw[←hw5];exact((bR.alloc (by omega) _).alloc (by simp;omega) _).alloc (by simp;omega) _
 have s5:Sok w5 (n+1) n:=s2.below b5 (by omega);obtain⟨w6,hw6⟩:=exq (w5.alloc (.cells #[.int .u64 0,.slice (some ⟨n+1,0,none⟩) 1 1,.slice none 0 0,.slice (some ⟨n+1+1,0,none⟩) 1 1,.slice (some ⟨n+1+1+1,0,none⟩) 1 1,.slice (some ⟨n+1+1+1+1,0,none⟩) 1 1] 42));have z6:w6.heap.size=n+1+1+1+1+1+1:=by rw[←hw6];simp[z5]
 have b6:Below (n+1+1+1+1+1) w5 w6:=by rw[←hw6];exact bR.alloc (by omega) _
 have x6:w6.heap[n+1+1+1+1+1]?=some (.cells #[.int .u64 0,.slice (some ⟨n+1,0,none⟩) 1 1,.slice none 0 0,.slice (some ⟨n+1+1,0,none⟩) 1 1,.slice (some ⟨n+1+1+1,0,none⟩) 1 1,.slice (some ⟨n+1+1+1+1,0,none⟩) 1 1] 42 (0,0)):=by rw[←hw6,←z5];exact hNq _ _
 have s6:Sok w6 (n+1) n:=s5.below b6 (by omega);obtain⟨w7,hw7⟩:=exq (w6.alloc (.cells #[.int .i64 0,.int .i64 (-1)] 132));have z7:w7.heap.size=n+1+1+1+1+1+1+1:=by rw[←hw7];simp[z6]
 have b7:Below (n+1+1+1+1+1+1) w6 w7:=by rw[←hw7];exact bR.alloc (by omega) _
 have x7:w7.heap[n+1+1+1+1+1+1]?=some (.cells #[.int .i64 0,.int .i64 (-1)] 132 (0,0)):=by rw[←hw7,←z6];exact hNq _ _
 obtain⟨w8,hw8⟩:=exq (w7.alloc (.cells #[.int .i64 0,.int .u64 1,.int .i64 1,.bool true,.slice (some ⟨n+1+1+1+1+1+1,0,none⟩) 1 1,.slice none 0 0,.slice none 0 0,.int .i64 0,.slice none 0 0,.int .i64 0,.int .i64 0,.int .i64 0,.int .i64 0,.int .u64 0,.slice none 0 0] 55));have z8:w8.heap.size=n+1+1+1+1+1+1+1+1:=by rw[←hw8];simp[z7]
 have b8:Below (n+1+1+1+1+1+1+1) w7 w8:=by rw[←hw8];exact bR.alloc (by omega) _
 have x8:w8.heap[n+1+1+1+1+1+1+1]?=some (.cells #[.int .i64 0,.int .u64 1,.int .i64 1,.bool true,.slice (some ⟨n+1+1+1+1+1+1,0,none⟩) 1 1,.slice none 0 0,.slice none 0 0,.int .i64 0,.slice none 0 0,.int .i64 0,.int .i64 0,.int .i64 0,.int .i64 0,.int .u64 0,.slice none 0 0] 55 (0,0)):=by rw[←hw8,←z7];exact hNq _ _
 have y8:w8.heap[n+1+1+1+1+1+1]?=some (.cells #[.int .i64 0,.int .i64 (-1)] 132 (0,0)):=(b8.block _ (by omega)).trans x7;have t8:w8.heap[n+1+1+1+1+1]?=some (.cells #[.int .u64 0,.slice (some ⟨n+1,0,none⟩) 1 1,.slice none 0 0,.slice (some ⟨n+1+1,0,none⟩) 1 1,.slice (some ⟨n+1+1+1,0,none⟩) 1 1,.slice (some ⟨n+1+1+1+1,0,none⟩) 1 1] 42 (0,0)):=(b8.block _ (by omega)).trans ((b7.block _ (by omega)).trans x6);have s8:Sok w8 (n+1) n:=(s6.below b7 (by omega)).below b8 (by omega);have B8:Below n w w8:=b1.trans ((b2.mono (by omega)).trans ((b5.mono (by omega)).trans ((b6.mono (by omega)).trans ((b7.mono (by omega)).trans (b8.mono (by omega))))));have HN:=Qaa hn;have HW6:Hid ((((((w.alloc (.cells #[.int .i64 1,.int .i64 0] 118)).alloc (.cells #[.int .i64 6,.int .i64 5,.int .i64 4,.slice (some ⟨n,0,none⟩) 1 1] 121)).alloc (.cells #[.int .u64 0] 36)).alloc (.cells #[.int .u64 0] 36)).alloc (.cells #[.bool false] 4)).alloc (.cells #[.int .u64 0,.slice (some ⟨n+1,0,none⟩) 1 1,.slice none 0 0,.slice (some ⟨n+1+1,0,none⟩) 1 1,.slice (some ⟨n+1+1+1,0,none⟩) 1 1,.slice (some ⟨n+1+1+1+1,0,none⟩) 1 1] 42)=w6):=by show _=_;rw[hw1,hw2,hw5,hw6]
 have HW8:Hid ((w6.alloc (.cells #[.int .i64 0,.int .i64 (-1)] 132)).alloc (.cells #[.int .i64 0,.int .u64 1,.int .i64 1,.bool true,.slice (some ⟨n+1+1+1+1+1+1,0,none⟩) 1 1,.slice none 0 0,.slice none 0 0,.int .i64 0,.slice none 0 0,.int .i64 0,.int .i64 0,.int .i64 0,.int .i64 0,.int .u64 0,.slice none 0 0] 55)=w8):=by show _=_;rw[hw7,hw8]
 obtain⟨HZ6,HZ8,HX8,HT8,HS8,HB8⟩:=hd6 z6 z8 x8 t8 s8 B8;obtain⟨c0,c1,c2,c3,c4,c5⟩:=ac6 t8;obtain⟨k0,k1,k2,k3,k4,k5,k6,k7,k8,k9,k10,k11,k12,k13,k14⟩:=QaA x8;have HJ:=Qaa (QfC w8 (n+1) n (n+1+1) (n+1+1+1) (n+1+1+1+1) (n+1+1+1+1+1+1) 1 (Or.inl rfl) s8 y8);clear hw1 z1 b1 x1 hw2 z2 b2 x2 s2 hw5 z5 b5 s5 hw6 z6 b6 x6 s6 hw7 z7 b7 x7 hw8 z8 b8 x8 y8 t8 s8 B8 hn;go_enter Tryz.func20,Tryz.ntmps20;go_upto_region 2 with (fail);rw[HN.out];rw[HW6.out];go_upto_region 3 with (fail);rw[HZ6.out];rw[HW8.out];clear HW6 HW8 HZ6;go_upto_region 4 with (go_at_call 14;refine HJ.out.mono ?_;rintro e w9 ⟨o,v,rfl,hm,hb9⟩;obtain⟨-,rfl,q,c,rfl,hq0,hq,hc⟩ | ⟨h,-⟩:=hm;rotate_left;exact absurd h (by decide);have HQ:=Qaa (And.intro hq0 (And.intro hq hc));have HB9:=Qaa hb9;clear hq0 hq hc hb9);obtain⟨w10,hw10⟩:=exq (w9.alloc (.cells #[.int .i64 1,.slice (some ⟨q,0,none⟩) 1 c,.slice none 0 0,.int .i64 0] 61));rw[hw10];obtain⟨T,hT⟩:=exq w9.heap.size;rw[hT];have z10:w10.heap.size=T+1:=by rw[←hw10];simp[hT]
 have b10:Below T w9 w10:=by rw[←hw10];exact bR.alloc (by omega) _
 have x10:w10.heap[T]?=some (.cells #[.int .i64 1,.slice (some ⟨q,0,none⟩) 1 c,.slice none 0 0,.int .i64 0] 61 (0,0)):=by rw[←hw10,←hT];exact hNq _ _
 have g9:n+1+1+1+1+1+1+1+1≤T:=by have h1:=HB9.out.size;have h2:=HZ8.out;omega
 have b810:Below (n+1+1+1+1+1+1+1+1) w8 w10:=by have h:=HB9.out;rw[HZ8.out]at h;exact h.trans (b10.mono g9)
 have xa10:=(b810.block (n+1+1+1+1+1+1+1) (by omega)).trans HX8.out;have xs10:=(b810.block (n+1+1+1+1+1) (by omega)).trans HT8.out;have s10:Sok w10 (n+1) n:=HS8.out.below b810 (by have h:=HZ8.out;omega)
 have q10:w10.cell? ⟨q,1,none⟩=some (.int .i64 (-1)):=by
  have h:=HQ.out.2.2;have e:=b10.block q (by have h:=HQ.out.2.1;omega);unfold World.cell? at h ⊢;simp only[e];exact h
 obtain⟨w11,hw11⟩:=exq (w10.alloc (.cells #[.int .i64 0,.int .i64 (-2)] 132));have z11:w11.heap.size=T+1+1:=by rw[←hw11];simp[z10]
 have b11:Below (T+1) w10 w11:=by rw[←hw11];exact bR.alloc (by omega) _
 have x11:w11.heap[T+1]?=some (.cells #[.int .i64 0,.int .i64 (-2)] 132 (0,0)):=by rw[←hw11,←z10];exact hNq _ _
 have xa11:=(b11.block (n+1+1+1+1+1+1+1) (by omega)).trans xa10;obtain⟨w12,hw12⟩:=exq (w11.setCell ⟨n+1+1+1+1+1+1+1,4,none⟩ (.slice (some ⟨T+1,0,none⟩) 1 1));have xa12:w12.heap[n+1+1+1+1+1+1+1]?=some (.cells #[.int .i64 0,.int .u64 1,.int .i64 1,.bool true,.slice (some ⟨T+1,0,none⟩) 1 1,.slice none 0 0,.slice none 0 0,.int .i64 0,.slice none 0 0,.int .i64 0,.int .i64 0,.int .i64 0,.int .i64 0,.int .u64 0,.slice none 0 0] 55 (0,0)):=by rw[←hw12];exact RB.block_set xa11 _
 have u12:∀k,k≠n+1+1+1+1+1+1+1→w12.heap[k]?=w11.heap[k]?:=fun k hk=>by rw[←hw12];exact Below.heap_setCell _ _ _ _ hk
 have z12:w12.heap.size=T+1+1:=by rw[←hw12];simp[z11]
 have x12:w12.heap[T+1]?=some (.cells #[.int .i64 0,.int .i64 (-2)] 132 (0,0)):=(u12 _ (by omega)).trans x11;have xs12:=(u12 (n+1+1+1+1+1) (by omega)).trans ((b11.block _ (by omega)).trans xs10);have xt12:=(u12 T (by omega)).trans ((b11.block _ (by omega)).trans x10)
 have s12:Sok w12 (n+1) n:=by
  have h:=s10.below b11 (by omega);exact⟨(u12 _ (by omega)).trans h.pool,(u12 _ (by omega)).trans h.held⟩
 have q12:w12.cell? ⟨q,1,none⟩=some (.int .i64 (-1))∧q<T:=by
  have hq1:=HQ.out.2.1;refine⟨?_,by omega⟩;have hq2:=HQ.out.1;have e:=(u12 q (by have h:=HZ8.out;omega)).trans (b11.block q (by omega));have h:=q10;unfold World.cell? at h ⊢;simp only[e];exact h
 have B12:Below n w w12:=by
  rw[←hw12];exact(HB8.out.trans ((b810.mono (by omega)).trans (b11.mono (by omega)))).setCell (by show n≤n+1+1+1+1+1+1+1;omega) _
 have HW12:Hid ((w10.alloc (.cells #[.int .i64 0,.int .i64 (-2)] 132)).setCell ⟨n+1+1+1+1+1+1+1,4,none⟩ (.slice (some ⟨T+1,0,none⟩) 1 1)=w12):=by show _=_;rw[hw11,hw12]
 obtain⟨HZ10,HS12,HXT,HQ12,HB12,HZ12⟩:=hd6 z10 s12 xt12 q12 B12 z12;obtain⟨c0,c1,c2,c3,c4,c5⟩:=ac6 xs12;obtain⟨d0,d1,d2,d3,d4,d5,d6,d7,d8,d9,d10,d11,d12,d13,d14⟩:=QaA xa12;have ct:=RB.bk_thaw xa11;have ca:=(QaA xa11).2.2.2.2.1;rw[←hw11]at ct ca;have HJ2:=Qaa (QfC w12 (n+1) n (n+1+1) (n+1+1+1) (n+1+1+1+1) (T+1) 2 (Or.inr rfl) s12 x12);clear hw10 hT b10 x10 g9 b810 xa10 xs10 s10 q10 hw11 z11 b11 x11 xa11 hw12 xa12 u12 z12 x12 xs12 xt12 s12 q12 B12 HJ HX8 HT8 HS8 HB8 HQ HB9 k0 k1 k2 k3 k4 k5 k6 k7 k8 k9 k10 k11 k12 k13 k14 z10;go_upto_region 5 with (fail);rw[HZ10.out,HW12.out];clear HW12 HZ10 ct ca;go_upto_region 6 with (go_at_call 14;refine HJ2.out.mono ?_;rintro e w13 ⟨o,v,rfl,hm,hb13⟩;obtain⟨h,-⟩ | ⟨-,rfl,rfl⟩:=hm;exact absurd h (by decide);have HB13:=Qaa hb13;clear hb13);obtain⟨w14,hw14⟩:=exq (w13.alloc (.cells #[.int .i64 3,.slice none 0 0,.slice none 0 0,.int .i64 0] 61));rw[hw14];have b14:Below (T+1+1) w12 w14:=by have h:=HB13.out;rw[HZ12.out]at h;rw[←hw14];exact h.alloc (by rw[←HZ12.out];exact HB13.out.size) _
 have x14:w14.heap[w13.heap.size]?=some (.cells #[.int .i64 3,.slice none 0 0,.slice none 0 0,.int .i64 0] 61 (0,0)):=by rw[←hw14];exact hNq _ _
 have xt14:=(b14.block T (by omega)).trans HXT.out
 have q14:w14.cell? ⟨q,1,none⟩=some (.int .i64 (-1)):=by
  have h:=HQ12.out.1;have e:=b14.block q (by have h:=HQ12.out.2;omega);unfold World.cell? at h ⊢;simp only[e];exact h
 have HB14:=Qaa (HB12.out.trans (b14.mono (by have h:=HB12.out.size;rw[HZ12.out,HN.out]at h;omega)));obtain⟨m0,m1,m2,m3⟩:=ac4 xt14;obtain⟨n0,n1,n2,n3⟩:=ac4 x14;clear hw14 b14 x14 xt14 HJ2 HXT HQ12 HB12 HB13 HS12 HZ12 HZ8 c0 c1 c2 c3 c4 c5 d0 d1 d2 d3 d4 d5 d6 d7 d8 d9 d10 d11 d12 d13 d14;go_wp2;go_ret;rw[HN.out];exact⟨rfl,HB14.out⟩
end Go.Proofs.YtiogibfhafoapaaGreat
