import Derived.Test.YtiogibfhafoapaaGreatRwK
import Derived.Test.YtiogibfhafoapaaGreatNdU
import Derived.Test.YtiogibfhafoapaaGreatZXc
set_option maxRecDepth 100000
set_option maxHeartbeats 8000000
set_option linter.unusedSimpArgs false
set_option linter.unusedVariables false
namespace Go.Proofs.YtiogibfhafoapaaGreat
open Go.RowKit
def RgT (s:Sta) (x:Tri):Prop:=(∃k:Nat,x.a=(k:Int)∧k<s.pn)∧(x.b=0∨x.b=1)
def RgL (s:Sta) (x:Lin):Prop:=∃k:Nat,x.c=(k:Int)∧k<s.pn
def RgH (s:Sta) (t:Nat):Prop:=∀p∈s.pools,t<p.hl
theorem Qkf (n:Int):Qam n=0∨Qam n=1:=by unfold Qam;split <;> simp
theorem Qjw {l:List Tri} {q r:Tri} (h:r∈Qby l q):(∃y∈l,r.a=y.a∧r.b=y.b)∨(r.a=q.a∧r.b=q.b):=by
 induction l with
 | nil=>simp[Qby]at h;subst h;exact Or.inr ⟨rfl,rfl⟩
 | cons x l ih =>
  unfold Qby at h;split at h
  ·rcases List.mem_cons.1 h with rfl | h
   ·exact Or.inl ⟨x,VH ..,rfl,rfl⟩
   ·exact Or.inl ⟨r,Vy _ h,rfl,rfl⟩
  ·split at h
   ·rcases List.mem_cons.1 h with rfl | h
    ·exact Or.inr ⟨rfl,rfl⟩
    ·exact Or.inl ⟨r,h,rfl,rfl⟩
   ·rcases List.mem_cons.1 h with rfl | h
    ·exact Or.inl ⟨r,VH ..,rfl,rfl⟩
    ·rcases ih h with ⟨y,hy,e⟩ | e
     ·exact Or.inl ⟨y,Vy _ hy,e⟩
     ·exact Or.inr e
theorem Qhs {xs:List Lin} : ∀{l:List Tri} {r:Tri},r∈xs.foldl (fun l x=>Qby l (QaL x)) l→(∃y∈l,r.a=y.a∧r.b=y.b)∨∃x∈xs,r.a=x.c∧r.b=Qam x.n:=by
 induction xs with
 | nil=>intro l r h;exact Or.inl ⟨r,h,rfl,rfl⟩
 | cons x xs ih =>
  intro l r h;rcases ih h with ⟨y,hy,e⟩ | ⟨z,hz,e⟩
  ·rcases Qjw hy with ⟨u,hu,e2⟩ | e2
   ·exact Or.inl ⟨u,hu,e.1.trans e2.1,e.2.trans e2.2⟩
   ·exact Or.inr ⟨x,VH ..,e.1.trans e2.1,e.2.trans e2.2⟩
  ·exact Or.inr ⟨z,Vy _ hz,e⟩
theorem Qdc {xs:List Lin} {r:Tri} (h:r∈QaD xs):∃x∈xs,r.a=x.c∧r.b=Qam x.n:=by
 rcases Qhs h with ⟨y,hy,_⟩ | h
 ·cases hy
 ·exact h
theorem Qg7 {s:Sta} {xs:List Lin} (h:∀x∈xs,RgL s x):∀r∈QaD xs,RgT s r:=fun r hr=>by
 obtain⟨x,hx,e1,e2⟩:=Qdc hr;exact⟨by rw[e1];exact h x hx,by rw[e2];exact Qkf _⟩
theorem Qd2 {s:Sta} {k:Nat} {P:Pl} (h:s.pools[k]?=some P):s.free k 0=P.f0∧s.free k 1=P.f1:=by
 unfold Sta.free;rw[(Qbe (z:=pl0) h).2];exact⟨rfl,rfl⟩
theorem QcQ {s:Sta} {k t:Nat} {P:Pl} {l:Lin} (h:s.pools[k]?=some P) (hl:P.hs[t]?=some l):s.held t k 0=l.c∧s.held t k 1=l.n:=by
 unfold Sta.held;rw[(Qbe (z:=pl0) h).2,(Qbe (z:=(⟨0,0⟩:Lin)) hl).2];exact⟨rfl,rfl⟩
theorem QgV (w:World) (s:Sta) (hs:Qae w s) (t:Nat) (ht:RgH s t) (p:Option Addr) (n c:Nat) (xs:List Tri) (hn:xs.length=n) (hnl:n≤140737488355328) (hx:Cel w p 3 (xs.map Qar)) (hr:∀x∈xs,RgT s x) :
  Calls Tryz.prog 114 #[.agg s.arr,.int .i64 t,.slice p n c] w fun e w'=>e=.returned (.bool (xs.all (fun x=>decide (x.n≤s.held t x.a x.b))))∧Below w.heap.size w w':=by
 obtain⟨w2,hw2,hb2,hx2⟩:=Qag w s.arr 42;have HS:=Qaa hs;have HX:=Qaa (hx.below hb2);obtain⟨HN,HW2,HB2,HX2,HR,HT⟩:=hd6 hn hw2 hb2 hx2 hr ht;clear hw2 hb2 hx2 hs hx hn hr ht;obtain⟨f,hf⟩:∃f:Tri→Bool,(fun x:Tri=>decide (x.n≤s.held t x.a x.b))=f:=⟨_,rfl⟩;have HF:Hid (∀x:Tri,f x=decide (x.n≤s.held t x.a x.b)):=fun x=>by rw[←hf]
 rw[hf];clear hf;go_enter Tryz.func114,Tryz.ntmps114;go_upto_region 1 with (fail);rw[HW2.out];go_wp2_with fail
 go_loopw [7] (fun i wr=>∃j:Nat,j≤n∧i=.int .i64 j∧Hid ((xs.take j).all f=true)∧Hid (Below w2.heap.size w2 wr)) (fun i _=>n - (intOf i).toNat);case atStart=>exact⟨0,Vo _,rfl,rfl,bR⟩
 case round =>
  obtain⟨j,hj,rfl,HA,HB⟩:=hrel;by_cases hlt:j<n
  ·have hlt':(j:Int)<(n:Int):=by omega
   have j0':(0:Int)≤(j:Int):=by omega
   obtain⟨x,hx⟩:∃x,xs[j]?=some x:=⟨_,gE (by rw[HN.out];exact hlt)⟩;obtain⟨b,o,rfl,hbl,hcl⟩:=(HX.out.below HB.out).get (i:=j) (r:=Qar x) (by rw[Vb,hx];rfl);have hrx:=HR.out x (mG hx);have HI:=Qaa (show f x=false→xs.all f=false from fun h=>by rw[List.all_eq_false];exact⟨_,mG hx,by simp[h]⟩);have HTk:=Qaa (show (xs.take (j+1)).all f=((xs.take j).all f && f x) by rw[take_snoc hx,List.all_append];simp);obtain⟨xa,xb,xd⟩:=x;obtain⟨⟨k,rfl,hk⟩,hq⟩:=hrx;have hB:Below w.heap.size w wr:=HB2.out.trans (HB.out.mono HB2.out.size);have hOk:=HS.out.below hB;obtain⟨P,hP⟩:∃P,s.pools[k]?=some P:=⟨_,gE (by rw[hOk.pn];exact hk)⟩;obtain⟨pb,po,ep,hpb,hpc⟩:=hOk.pools.get (i:=k) (r:=plc P) (by rw[Vb,hP];rfl);have hth:=HT.out P (mG hP);have hPk:=hOk.held P (mG hP);obtain⟨l,hl⟩:∃l,P.hs[t]?=some l:=⟨_,gE (by rw[hPk.len];exact hth)⟩;obtain⟨hb',ho',eh,hhb,hhc⟩:=hPk.cel.get (i:=t) (r:=Qal l) (by rw[Vb,hl];rfl);obtain⟨v0,v1⟩:=QcQ hP hl;have a0:=hcl 0 _ rfl;have a1:=hcl 1 _ rfl;have a2:=hcl 2 _ rfl;rw[Vr]at a0;have b3:=hpc 3 _ rfl;have d0:=hhc 0 _ rfl;have d1:=hhc 1 _ rfl;rw[Vr]at d0;simp only[eh]at b3;obtain⟨-,c1,-,-,-,-⟩:=ac6 ((HB.out.block _ (Qab HX2.out)).trans HX2.out);rw[ep]at c1;obtain⟨lc,ln⟩:=l;have k1:(k:Int)<(s.pn:Int):=by omega
   have k0:(0:Int)≤(k:Int):=by omega
   have t1:(t:Int)<(P.hl:Int):=by omega
   have t0:(0:Int)≤(t:Int):=by omega
   obtain⟨pn,hpn⟩:=exq s.pn;obtain⟨hln,hhl⟩:=exq P.hl;rw[hpn]at c1 k1;rw[hhl]at b3 t1;have HBd:Hid (Below w2.heap.size w2 wr.drew):=HB.out.drew;have HfA:=HF.out ⟨k,xb,xd⟩;simp only at b3 d0 d1 v0 v1 HfA;clear hcl hpc hhc hx hP hl hPk hOk hB hpn hhl hth eh ep hk;rcases hq with rfl | rfl
   ·rw[v0]at HfA
    clear v0 v1 d1;by_cases hv:xd≤lc
    ·rw[Vq hv]at HfA
     have HFv:=Qaa HfA;have hv':¬lc<xd:=by omega
     clear HfA;go_upto_region 4 with (fail);go_region_held3 (fun w'=>w'.cell? ⟨w.heap.size,1,none⟩=some (.slice (some ⟨pb,po,none⟩) pn s.pc)∧w'.cell? ⟨b,o+j*3,none⟩=some (.int .i64 k)∧w'.cell? ⟨b,o+j*3+1,none⟩=some (.int .i64 0)∧w'.cell? ⟨b,o+j*3+2,none⟩=some (.int .i64 xd)∧w'.cell? ⟨pb,po+k*4+3,none⟩=some (.slice (some ⟨hb',ho',none⟩) hln P.hc)∧w'.cell? ⟨hb',ho'+t*2,none⟩=some (.int .i64 lc)) (go_keep) (first | fail);go_wp2;go_roundw;case rel=>exact⟨j+1,by omega,by go_num,by show _=_;rw[HTk.out,HA.out,HFv.out];rfl,HBd⟩
     case measure=>simp[intOf];omega
    ·rw[Vk hv]at HfA
     have HV:=Qaa (HI.out HfA);have hv':lc<xd:=by omega
     clear HfA hv;go_upto_region 4 with (fail);go_region_held3 (fun w'=>w'.cell? ⟨w.heap.size,1,none⟩=some (.slice (some ⟨pb,po,none⟩) pn s.pc)∧w'.cell? ⟨b,o+j*3,none⟩=some (.int .i64 k)∧w'.cell? ⟨b,o+j*3+1,none⟩=some (.int .i64 0)∧w'.cell? ⟨b,o+j*3+2,none⟩=some (.int .i64 xd)∧w'.cell? ⟨pb,po+k*4+3,none⟩=some (.slice (some ⟨hb',ho',none⟩) hln P.hc)∧w'.cell? ⟨hb',ho'+t*2,none⟩=some (.int .i64 lc)) (go_keep) (first | fail);go_wp2;go_ret;rw[HV.out];exact⟨rfl,HB2.out.trans (HBd.out.mono HB2.out.size)⟩
   ·rw[v1]at HfA
    clear v0 v1 d0;by_cases hv:xd≤ln
    ·rw[Vq hv]at HfA
     have HFv:=Qaa HfA;have hv':¬ln<xd:=by omega
     clear HfA;go_upto_region 4 with (fail);go_region_held3 (fun w'=>w'.cell? ⟨w.heap.size,1,none⟩=some (.slice (some ⟨pb,po,none⟩) pn s.pc)∧w'.cell? ⟨b,o+j*3,none⟩=some (.int .i64 k)∧w'.cell? ⟨b,o+j*3+1,none⟩=some (.int .i64 1)∧w'.cell? ⟨b,o+j*3+2,none⟩=some (.int .i64 xd)∧w'.cell? ⟨pb,po+k*4+3,none⟩=some (.slice (some ⟨hb',ho',none⟩) hln P.hc)∧w'.cell? ⟨hb',ho'+t*2+1,none⟩=some (.int .i64 ln)) (go_keep) (first | fail);go_wp2;go_roundw;case rel=>exact⟨j+1,by omega,by go_num,by show _=_;rw[HTk.out,HA.out,HFv.out];rfl,HBd⟩
     case measure=>simp[intOf];omega
    ·rw[Vk hv]at HfA
     have HV:=Qaa (HI.out HfA);have hv':ln<xd:=by omega
     clear HfA hv;go_upto_region 4 with (fail);go_region_held3 (fun w'=>w'.cell? ⟨w.heap.size,1,none⟩=some (.slice (some ⟨pb,po,none⟩) pn s.pc)∧w'.cell? ⟨b,o+j*3,none⟩=some (.int .i64 k)∧w'.cell? ⟨b,o+j*3+1,none⟩=some (.int .i64 1)∧w'.cell? ⟨b,o+j*3+2,none⟩=some (.int .i64 xd)∧w'.cell? ⟨pb,po+k*4+3,none⟩=some (.slice (some ⟨hb',ho',none⟩) hln P.hc)∧w'.cell? ⟨hb',ho'+t*2+1,none⟩=some (.int .i64 ln)) (go_keep) (first | fail);go_wp2;go_ret;rw[HV.out];exact⟨rfl,HB2.out.trans (HBd.out.mono HB2.out.size)⟩
  ·have hlt':¬(j:Int)<(n:Int):=by omega
   have HV:xs.all f=true:=by have h:=HA.out;rw[Vh (by rw[HN.out];omega)]at h;exact h
   go_wp2;go_ret;try rw[HV]
   exact⟨rfl,HB2.out.trans (HB.out.mono HB2.out.size)⟩
def RgG (s:Sta) (x:Tri):Prop:=((x.a=1∨x.a=2∨x.a=3)∧∃k:Nat,x.b=(k:Int)∧k<s.pn)∨(x.a=4∧∃k:Nat,x.b=(k:Int)∧k<s.rn)
def RgP (s:Sta) (x:Tri):Prop:=∃k:Nat,x.a=(k:Int)∧k<s.rn
theorem Qhf (w:World) (s:Sta) (hs:Qae w s) (x:Tri) (hx:RgG s x) :
  Calls Tryz.prog 115 #[.agg s.arr,.agg #[.int .i64 x.a,.int .i64 x.b,.int .i64 x.n]] w fun e w'=>e=.returned (.bool (s.guard x.a x.b x.n))∧Below w.heap.size w w':=by
 obtain⟨xa,xb,xn⟩:=x;obtain⟨w2,hw2,hb2,hx2,hy2⟩:=QaQ w s.arr 42 73 #[.int .i64 xa,.int .i64 xb,.int .i64 xn];obtain⟨HW2,HB2⟩:=Qmj hw2 hb2;have HBd:Hid (Below w.heap.size w w2.drew):=hb2.drew;have hOk:=hs.below hb2;obtain⟨-,c1,c2,-,-,-⟩:=ac6 hx2;obtain⟨g0,g1,g2⟩:=ac3 hy2;rcases hx with ⟨ha,k,hk,hkn⟩ | ⟨ha,k,hk,hkn⟩
 ·simp only at hk ha
  subst hk;obtain⟨P,hP⟩:∃P,s.pools[k]?=some P:=⟨_,gE (by rw[hOk.pn];exact hkn)⟩;obtain⟨pb,po,ep,hpb,hpc⟩:=hOk.pools.get (i:=k) (r:=plc P) (by rw[Vb,hP];rfl);have b0:=hpc 0 _ rfl;rw[Vr]at b0;rw[ep]at c1;obtain⟨hh,hg⟩:=Qbe (z:=pl0) hP;have HG1:Hid (s.guard 1 k xn=decide (xn≤P.v)):=by show _=_;unfold Sta.guard;rw[hh,hg];rfl
  have HG2:Hid (s.guard 2 k xn=decide (P.v≤xn)):=by show _=_;unfold Sta.guard;rw[hh,hg];rfl
  have HG3:Hid (s.guard 3 k xn=decide (P.v=xn)):=by show _=_;unfold Sta.guard;rw[hh,hg];rfl
  have k1:(k:Int)<(s.pn:Int):=by omega
  have k0:(0:Int)≤(k:Int):=by omega
  obtain⟨pn,hpn⟩:=exq s.pn;rw[hpn]at c1 k1;obtain⟨pv,hpv⟩:=exq P.v;rw[hpv]at b0 HG1 HG2 HG3;clear hP hpc hh hg hpn hpv hOk hw2 hb2 hx2 hy2 hs ep hkn c2;rcases ha with rfl | rfl | rfl
  ·rw[HG1.out]
   go_enter Tryz.func115,Tryz.ntmps115;go_upto_region 1 with (fail);rw[HW2.out];go_upto_region 3 with (fail);go_region_held3 (fun w'=>w'.cell? ⟨w.heap.size,1,none⟩=some (.slice (some ⟨pb,po,none⟩) pn s.pc)∧w'.cell? ⟨w.heap.size+1,1,none⟩=some (.int .i64 k)∧w'.cell? ⟨w.heap.size+1,2,none⟩=some (.int .i64 xn)∧w'.cell? ⟨pb,po+k*4,none⟩=some (.int .i64 pv)) (go_keep) (first | fail);go_wp2;go_ret;exact⟨rfl,HBd.out⟩
  ·rw[HG2.out]
   go_enter Tryz.func115,Tryz.ntmps115;go_upto_region 1 with (fail);rw[HW2.out];go_upto_region 5 with (fail);go_region_held3 (fun w'=>w'.cell? ⟨w.heap.size,1,none⟩=some (.slice (some ⟨pb,po,none⟩) pn s.pc)∧w'.cell? ⟨w.heap.size+1,1,none⟩=some (.int .i64 k)∧w'.cell? ⟨w.heap.size+1,2,none⟩=some (.int .i64 xn)∧w'.cell? ⟨pb,po+k*4,none⟩=some (.int .i64 pv)) (go_keep) (first | fail);go_wp2;go_ret;exact⟨rfl,HBd.out⟩
  ·rw[HG3.out]
   go_enter Tryz.func115,Tryz.ntmps115;go_upto_region 1 with (fail);rw[HW2.out];go_upto_region 7 with (fail);go_region_held3 (fun w'=>w'.cell? ⟨w.heap.size,1,none⟩=some (.slice (some ⟨pb,po,none⟩) pn s.pc)∧w'.cell? ⟨w.heap.size+1,1,none⟩=some (.int .i64 k)∧w'.cell? ⟨w.heap.size+1,2,none⟩=some (.int .i64 xn)∧w'.cell? ⟨pb,po+k*4,none⟩=some (.int .i64 pv)) (go_keep) (first | fail);go_wp2;go_ret;exact⟨rfl,HBd.out⟩
 ·simp only at hk ha
  subst hk ha;obtain⟨P,hP⟩:∃P,s.prices[k]?=some P:=⟨_,gE (by rw[hOk.rn];exact hkn)⟩;obtain⟨pb,po,ep,hpb,hpc⟩:=hOk.prices.get (i:=k) (r:=Qal P) (by rw[Vb,hP];rfl);have b0:=hpc 1 _ rfl;rw[ep]at c2;obtain⟨hh,hg⟩:=Qbe (z:=(⟨0,0⟩:Lin)) hP;have HG4:Hid (s.guard 4 k xn=decide (P.n=xn)):=by show _=_;unfold Sta.guard;rw[hh,hg];rfl
  have k1:(k:Int)<(s.rn:Int):=by omega
  have k0:(0:Int)≤(k:Int):=by omega
  obtain⟨rn,hrn⟩:=exq s.rn;rw[hrn]at c2 k1;obtain⟨pv,hpv⟩:=exq P.n;rw[hpv]at b0 HG4;clear hP hpc hh hg hrn hpv hOk hw2 hb2 hx2 hy2 hs ep hkn c1;rw[HG4.out];go_enter Tryz.func115,Tryz.ntmps115;go_upto_region 1 with (fail);rw[HW2.out];go_upto_region 8 with (fail);go_region_held3 (fun w'=>w'.cell? ⟨w.heap.size,2,none⟩=some (.slice (some ⟨pb,po,none⟩) rn s.rc)∧w'.cell? ⟨w.heap.size+1,1,none⟩=some (.int .i64 k)∧w'.cell? ⟨w.heap.size+1,2,none⟩=some (.int .i64 xn)∧w'.cell? ⟨pb,po+k*2+1,none⟩=some (.int .i64 pv)) (go_keep) (first | fail);go_wp2;go_ret;exact⟨rfl,HBd.out⟩
theorem Qfi (w:World) (s:Sta) (hs:Qae w s) (p:Option Addr) (n c:Nat) (xs:List Tri) (hn:xs.length=n) (hnl:n≤140737488355328) (hx:Cel w p 3 (xs.map Qar)) (hr:∀x∈xs,RgG s x) :
  Calls Tryz.prog 58 #[.agg s.arr,.slice p n c] w fun e w'=>e=.returned (.bool (xs.all (fun x=>s.guard x.a x.b x.n)))∧Below w.heap.size w w':=by
 obtain⟨w2,hw2,hb2,hx2⟩:=Qag w s.arr 42;have HS:=Qaa (hs.below hb2);have HX:=Qaa (hx.below hb2);obtain⟨HN,HW2,HB2,HX2,HR⟩:=Qml hn hw2 hb2 hx2 hr;have HC:=Qaa (fun (W:World) (hb:Below w2.heap.size w2 W) (x:Tri) (h:RgG s x)=>Qhf W s (HS.out.below hb) x h);clear hw2 hb2 hx2 hs hx hn hr;obtain⟨f,hf⟩:∃f:Tri→Bool,(fun x:Tri=>s.guard x.a x.b x.n)=f:=⟨_,rfl⟩;have HF:Hid (∀x:Tri,s.guard x.a x.b x.n=f x):=fun x=>by rw[←hf]
 rw[hf];clear hf;go_enter Tryz.func58,Tryz.ntmps58;go_upto_region 1 with (fail);rw[HW2.out];go_wp2_with fail
 go_loopw [5] (fun i wr=>∃j:Nat,j≤n∧i=.int .i64 j∧Hid ((xs.take j).all f=true)∧Hid (Below w2.heap.size w2 wr)) (fun i _=>n - (intOf i).toNat);case atStart=>exact⟨0,Vo _,rfl,rfl,bR⟩
 case round =>
  obtain⟨j,hj,rfl,HA,HB⟩:=hrel;by_cases hlt:j<n
  ·have hlt':(j:Int)<(n:Int):=by omega
   have j0':(0:Int)≤(j:Int):=by omega
   obtain⟨x,hx⟩:∃x,xs[j]?=some x:=⟨_,gE (by rw[HN.out];exact hlt)⟩;obtain⟨b,o,rfl,hbl,hcl⟩:=(HX.out.below HB.out).get (i:=j) (r:=Qar x) (by rw[Vb,hx];rfl);have hrx:=HR.out x (mG hx);have HI:=Qaa (show f x=false→xs.all f=false from fun h=>by rw[List.all_eq_false];exact⟨_,mG hx,by simp[h]⟩);have HTk:=Qaa (show (xs.take (j+1)).all f=((xs.take j).all f && f x) by rw[take_snoc hx,List.all_append];simp);have HQ:=Qaa (HC.out wr.drew HB.out.drew x hrx);rw[HF.out x]at HQ;obtain⟨xa,xb,xd⟩:=x;have a0:=hcl 0 _ rfl;have a1:=hcl 1 _ rfl;have a2:=hcl 2 _ rfl;rw[Vr]at a0;obtain⟨c0,c1,c2,c3,c4,c5⟩:=ac6 ((HB.out.block _ (Qab HX2.out)).trans HX2.out);simp only at HQ;clear hcl hx hrx
   cases hv:f ⟨xa,xb,xd⟩ with
   | true =>
    rw[hv]at HQ HTk;clear hv HI;go_upto_region 4 with (fail);go_region_held3 (fun w'=>w'.cell? ⟨w.heap.size,0,none⟩=some (.int .u64 s.pos)∧w'.cell? ⟨w.heap.size,1,none⟩=some (.slice s.pp s.pn s.pc)∧w'.cell? ⟨w.heap.size,2,none⟩=some (.slice s.rp s.rn s.rc)∧w'.cell? ⟨w.heap.size,3,none⟩=some (.slice s.lp s.ln s.lc)∧w'.cell? ⟨w.heap.size,4,none⟩=some (.slice s.gp s.gn s.gc)∧w'.cell? ⟨w.heap.size,5,none⟩=some (.slice s.op s.on s.oc)∧w'.cell? ⟨b,o+j*3,none⟩=some (.int .i64 xa)∧w'.cell? ⟨b,o+j*3+1,none⟩=some (.int .i64 xb)∧w'.cell? ⟨b,o+j*3+2,none⟩=some (.int .i64 xd)) (go_keep) (first | (go_at_call 115;refine HQ.out.mono ?_;rintro e w7 ⟨rfl,hb7⟩;have HB7:Hid (Below w2.heap.size w2 w7):=HB.out.drew.trans (hb7.mono HB.out.drew.size);obtain⟨e0,e1,e2,e3,e4,e5⟩:=ac6 ((HB7.out.block _ (Qab HX2.out)).trans HX2.out);have f0:=(hb7.cell (p:=⟨b,o+j*3,none⟩) hbl).trans a0;have f1:=(hb7.cell (p:=⟨b,o+j*3+1,none⟩) hbl).trans a1;have f2:=(hb7.cell (p:=⟨b,o+j*3+2,none⟩) hbl).trans a2;clear hb7) | fail);go_wp2;go_roundw;case rel=>exact⟨j+1,by omega,by go_num,by show _=_;rw[HTk.out,HA.out];rfl,HB7⟩
    case measure=>simp[intOf];omega
   | false =>
    rw[hv]at HQ;have HV:=Qaa (HI.out hv);clear hv HI HTk;go_upto_region 4 with (fail);go_region_held3 (fun w'=>w'.cell? ⟨w.heap.size,0,none⟩=some (.int .u64 s.pos)∧w'.cell? ⟨w.heap.size,1,none⟩=some (.slice s.pp s.pn s.pc)∧w'.cell? ⟨w.heap.size,2,none⟩=some (.slice s.rp s.rn s.rc)∧w'.cell? ⟨w.heap.size,3,none⟩=some (.slice s.lp s.ln s.lc)∧w'.cell? ⟨w.heap.size,4,none⟩=some (.slice s.gp s.gn s.gc)∧w'.cell? ⟨w.heap.size,5,none⟩=some (.slice s.op s.on s.oc)∧w'.cell? ⟨b,o+j*3,none⟩=some (.int .i64 xa)∧w'.cell? ⟨b,o+j*3+1,none⟩=some (.int .i64 xb)∧w'.cell? ⟨b,o+j*3+2,none⟩=some (.int .i64 xd)) (go_keep) (first | (go_at_call 115;refine HQ.out.mono ?_;rintro e w7 ⟨rfl,hb7⟩;have HB7:Hid (Below w2.heap.size w2 w7):=HB.out.drew.trans (hb7.mono HB.out.drew.size);obtain⟨e0,e1,e2,e3,e4,e5⟩:=ac6 ((HB7.out.block _ (Qab HX2.out)).trans HX2.out);have f0:=(hb7.cell (p:=⟨b,o+j*3,none⟩) hbl).trans a0;have f1:=(hb7.cell (p:=⟨b,o+j*3+1,none⟩) hbl).trans a1;have f2:=(hb7.cell (p:=⟨b,o+j*3+2,none⟩) hbl).trans a2;clear hb7) | fail);go_wp2;go_ret;rw[HV.out];exact⟨rfl,HB2.out.trans (HB7.out.mono HB2.out.size)⟩
  ·have hlt':¬(j:Int)<(n:Int):=by omega
   have HV:xs.all f=true:=by have h:=HA.out;rw[Vh (by rw[HN.out];omega)]at h;exact h
   go_wp2;go_ret;try rw[HV]
   exact⟨rfl,HB2.out.trans (HB.out.mono HB2.out.size)⟩
theorem Qjy (w:World) (s:Sta) (hs:Qae w s) (p:Option Addr) (n c:Nat) (xs:List Tri) (hn:xs.length=n) (hnl:n≤140737488355328) (hx:Cel w p 3 (xs.map Qar)) (hr:∀x∈xs,RgP s x) :
  Calls Tryz.prog 60 #[.agg s.arr,.slice p n c] w fun e w'=>e=.returned (.bool (xs.all (fun x=>s.isOpen x.a)))∧Below w.heap.size w w':=by
 obtain⟨w2,hw2,hb2,hx2⟩:=Qag w s.arr 42;have HS:=Qaa (hs.below hb2);have HX:=Qaa (hx.below hb2);obtain⟨HN,HW2,HB2,HX2,HR⟩:=Qml hn hw2 hb2 hx2 hr;clear hw2 hb2 hx2 hs hx hn hr;obtain⟨f,hf⟩:∃f:Tri→Bool,(fun x:Tri=>s.isOpen x.a)=f:=⟨_,rfl⟩;have HF:Hid (∀x:Tri,f x=s.isOpen x.a):=fun x=>by rw[←hf]
 rw[hf];clear hf;go_enter Tryz.func60,Tryz.ntmps60;go_upto_region 1 with (fail);rw[HW2.out];go_wp2_with fail
 go_loopw [5] (fun i wr=>∃j:Nat,j≤n∧i=.int .i64 j∧Hid ((xs.take j).all f=true)∧Hid (Below w2.heap.size w2 wr)) (fun i _=>n - (intOf i).toNat);case atStart=>exact⟨0,Vo _,rfl,rfl,bR⟩
 case round =>
  obtain⟨j,hj,rfl,HA,HB⟩:=hrel;by_cases hlt:j<n
  ·have hlt':(j:Int)<(n:Int):=by omega
   have j0':(0:Int)≤(j:Int):=by omega
   obtain⟨x,hx⟩:∃x,xs[j]?=some x:=⟨_,gE (by rw[HN.out];exact hlt)⟩;obtain⟨b,o,rfl,hbl,hcl⟩:=(HX.out.below HB.out).get (i:=j) (r:=Qar x) (by rw[Vb,hx];rfl);have hrx:=HR.out x (mG hx);have HI:=Qaa (show f x=false→xs.all f=false from fun h=>by rw[List.all_eq_false];exact⟨_,mG hx,by simp[h]⟩);have HTk:=Qaa (show (xs.take (j+1)).all f=((xs.take j).all f && f x) by rw[take_snoc hx,List.all_append];simp);have HfA:=HF.out x;obtain⟨xa,xb,xd⟩:=x;obtain⟨k,hk,hkn⟩:=hrx;simp only at hk;subst hk;have hOk:=HS.out.below HB.out;obtain⟨P,hP⟩:∃P,s.prices[k]?=some P:=⟨_,gE (by rw[hOk.rn];exact hkn)⟩;obtain⟨pb,po,ep,hpb,hpc⟩:=hOk.prices.get (i:=k) (r:=Qal P) (by rw[Vb,hP];rfl);have b1:=hpc 1 _ rfl;obtain⟨hh,hg⟩:=Qbe (z:=(⟨0,0⟩:Lin)) hP;have hfv:f ⟨k,xb,xd⟩=decide (P.n<1099511627776):=by rw[HfA];unfold Sta.isOpen;simp only;rw[hh,hg];rfl
   have a0:=hcl 0 _ rfl;rw[Vr]at a0;obtain⟨-,-,c2,-,-,-⟩:=ac6 ((HB.out.block _ (Qab HX2.out)).trans HX2.out);rw[ep]at c2;have k1:(k:Int)<(s.rn:Int):=by omega
   have k0:(0:Int)≤(k:Int):=by omega
   obtain⟨rn,hrn⟩:=exq s.rn;rw[hrn]at c2 k1;obtain⟨pv,hpv⟩:=exq P.n;rw[hpv]at b1 hfv;have HBd:Hid (Below w2.heap.size w2 wr.drew):=HB.out.drew;clear hcl hpc hx hP hOk hrn hpv ep hkn hh hg HfA;by_cases hv:pv<1099511627776
   ·rw[Vq hv]at hfv
    have HFv:=Qaa hfv;have hv':¬1099511627776≤pv:=by omega
    clear hfv hv;go_upto_region 4 with (fail);go_region_held3 (fun w'=>w'.cell? ⟨w.heap.size,2,none⟩=some (.slice (some ⟨pb,po,none⟩) rn s.rc)∧w'.cell? ⟨b,o+j*3,none⟩=some (.int .i64 k)∧w'.cell? ⟨pb,po+k*2+1,none⟩=some (.int .i64 pv)) (go_keep) (first | fail);go_wp2;go_roundw;case rel=>exact⟨j+1,by omega,by go_num,by show _=_;rw[HTk.out,HA.out,HFv.out];rfl,HBd⟩
    case measure=>simp[intOf];omega
   ·rw[Vk hv]at hfv
    have HV:=Qaa (HI.out hfv);have hv':1099511627776≤pv:=by omega
    clear hfv hv;go_upto_region 4 with (fail);go_region_held3 (fun w'=>w'.cell? ⟨w.heap.size,2,none⟩=some (.slice (some ⟨pb,po,none⟩) rn s.rc)∧w'.cell? ⟨b,o+j*3,none⟩=some (.int .i64 k)∧w'.cell? ⟨pb,po+k*2+1,none⟩=some (.int .i64 pv)) (go_keep) (first | fail);go_wp2;go_ret;rw[HV.out];exact⟨rfl,HB2.out.trans (HBd.out.mono HB2.out.size)⟩
  ·have hlt':¬(j:Int)<(n:Int):=by omega
   have HV:xs.all f=true:=by have h:=HA.out;rw[Vh (by rw[HN.out];omega)]at h;exact h
   go_wp2;go_ret;try rw[HV]
   exact⟨rfl,HB2.out.trans (HB.out.mono HB2.out.size)⟩
theorem Qfh (w:World) (s:Sta) (hs:Qae w s) (p:Option Addr) (n c:Nat) (xs:List Lin) (hn:xs.length=n) (hnl:n≤1099511627776) (hwf:∀x∈xs,Qaw x) (hx:Cel w p 2 (xs.map Qal)) (hr:∀x∈xs,RgL s x) :
  Calls Tryz.prog 55 #[.agg s.arr,.slice p n c] w fun e w'=>e=.returned (.bool ((QaD xs).all (fun x=>decide (x.n≤s.free x.a x.b))))∧Below w.heap.size w w':=by
 obtain⟨w2,hw2,hb2,hx2⟩:=Qag w s.arr 42;obtain⟨HS,HW2,HB2,HX2⟩:=hd4 hs hw2 hb2 hx2;have HR:=Qaa (Qg7 hr);have HNe:=Qaa (Qej w2 p n c xs hn (by omega) hwf (QcZ (hx.below hb2)));have hln:(QaD xs).length≤1099511627776:=Vt (Qcx xs) (by omega);clear hw2 hb2 hx2 hs hx hn hr hwf;obtain⟨f,hf⟩:∃f:Tri→Bool,(fun x:Tri=>decide (x.n≤s.free x.a x.b))=f:=⟨_,rfl⟩;have HF:Hid (∀x:Tri,f x=decide (x.n≤s.free x.a x.b)):=fun x=>by rw[←hf]
 rw[hf];clear hf;generalize QaD xs=ys at *;obtain⟨m,hm⟩:=exq ys.length;rw[hm]at hln;have HM:=Qaa hm;rw[hm]at HNe;clear hm;go_enter Tryz.func55,Tryz.ntmps55;go_upto_region 1 with (fail);rw[HW2.out];go_upto_region 2 with (first | (go_at_call 53;refine HNe.out.mono ?_;rintro e w3 ⟨v,rfl,hr3,hb3⟩;obtain⟨q,cq,rfl⟩:=slice_form hr3;have HX:=Qaa (cel_row hr3);have HB3:=Qaa hb3;clear hr3 hb3) | fail);go_wp2_with fail
 go_loopw [6] (fun i wr=>∃j:Nat,j≤m∧i=.int .i64 j∧Hid ((ys.take j).all f=true)∧Hid (Below w3.heap.size w3 wr)) (fun i _=>m - (intOf i).toNat);case atStart=>exact⟨0,Vo _,rfl,rfl,bR⟩
 case round =>
  obtain⟨j,hj,rfl,HA,HB⟩:=hrel;by_cases hlt:j<m
  ·have hlt':(j:Int)<(m:Int):=by omega
   have j0':(0:Int)≤(j:Int):=by omega
   obtain⟨x,hx⟩:∃x,ys[j]?=some x:=⟨_,gE (by rw[HM.out];exact hlt)⟩;obtain⟨b,o,rfl,hbl,hcl⟩:=(HX.out.below HB.out).get (i:=j) (r:=Qar x) (by rw[Vb,hx];rfl);have hrx:=HR.out x (mG hx);have HI:=Qaa (show f x=false→ys.all f=false from fun h=>by rw[List.all_eq_false];exact⟨_,mG hx,by simp[h]⟩);have HTk:=Qaa (show (ys.take (j+1)).all f=((ys.take j).all f && f x) by rw[take_snoc hx,List.all_append];simp);obtain⟨xa,xb,xd⟩:=x;obtain⟨⟨k,rfl,hk⟩,hq⟩:=hrx;have hB3:Below w2.heap.size w2 wr:=HB3.out.trans (HB.out.mono HB3.out.size);have hB:Below w.heap.size w wr:=HB2.out.trans (hB3.mono HB2.out.size);have hOk:=HS.out.below hB;obtain⟨P,hP⟩:∃P,s.pools[k]?=some P:=⟨_,gE (by rw[hOk.pn];exact hk)⟩;obtain⟨pb,po,ep,hpb,hpc⟩:=hOk.pools.get (i:=k) (r:=plc P) (by rw[Vb,hP];rfl);obtain⟨v0,v1⟩:=Qd2 hP;have a0:=hcl 0 _ rfl;have a1:=hcl 1 _ rfl;have a2:=hcl 2 _ rfl;rw[Vr]at a0;have d0:=hpc 1 _ rfl;have d1:=hpc 2 _ rfl;obtain⟨-,c1,-,-,-,-⟩:=ac6 ((hB3.block _ (Qab HX2.out)).trans HX2.out);rw[ep]at c1;have k1:(k:Int)<(s.pn:Int):=by omega
   have k0:(0:Int)≤(k:Int):=by omega
   obtain⟨pn,hpn⟩:=exq s.pn;rw[hpn]at c1 k1;obtain⟨lc,hlc⟩:=exq P.f0;obtain⟨ln,hln'⟩:∃ln,P.f1=ln:=⟨_,rfl⟩;rw[hlc]at d0 v0;rw[hln']at d1 v1;have HBd:Hid (Below w3.heap.size w3 wr.drew):=HB.out.drew;have HfA:=HF.out ⟨k,xb,xd⟩;simp only at d0 d1 v0 v1 HfA;clear hcl hpc hx hP hOk hB hB3 hpn hlc hln' ep hk;rcases hq with rfl | rfl
   ·rw[v0]at HfA
    clear v0 v1 d1;by_cases hv:xd≤lc
    ·rw[Vq hv]at HfA
     have HFv:=Qaa HfA;have hv':¬lc<xd:=by omega
     clear HfA;go_upto_region 5 with (fail);go_region_held3 (fun w'=>w'.cell? ⟨w.heap.size,1,none⟩=some (.slice (some ⟨pb,po,none⟩) pn s.pc)∧w'.cell? ⟨b,o+j*3,none⟩=some (.int .i64 k)∧w'.cell? ⟨b,o+j*3+1,none⟩=some (.int .i64 0)∧w'.cell? ⟨b,o+j*3+2,none⟩=some (.int .i64 xd)∧w'.cell? ⟨pb,po+k*4+1,none⟩=some (.int .i64 lc)) (go_keep) (first | fail);go_wp2;go_roundw;case rel=>exact⟨j+1,by omega,by go_num,by show _=_;rw[HTk.out,HA.out,HFv.out];rfl,HBd⟩
     case measure=>simp[intOf];omega
    ·rw[Vk hv]at HfA
     have HV:=Qaa (HI.out HfA);have hv':lc<xd:=by omega
     clear HfA hv;go_upto_region 5 with (fail);go_region_held3 (fun w'=>w'.cell? ⟨w.heap.size,1,none⟩=some (.slice (some ⟨pb,po,none⟩) pn s.pc)∧w'.cell? ⟨b,o+j*3,none⟩=some (.int .i64 k)∧w'.cell? ⟨b,o+j*3+1,none⟩=some (.int .i64 0)∧w'.cell? ⟨b,o+j*3+2,none⟩=some (.int .i64 xd)∧w'.cell? ⟨pb,po+k*4+1,none⟩=some (.int .i64 lc)) (go_keep) (first | fail);go_wp2;go_ret;rw[HV.out];exact⟨rfl,HB2.out.trans ((HB3.out.trans (HBd.out.mono HB3.out.size)).mono HB2.out.size)⟩
   ·rw[v1]at HfA
    clear v0 v1 d0;by_cases hv:xd≤ln
    ·rw[Vq hv]at HfA
     have HFv:=Qaa HfA;have hv':¬ln<xd:=by omega
     clear HfA;go_upto_region 5 with (fail);go_region_held3 (fun w'=>w'.cell? ⟨w.heap.size,1,none⟩=some (.slice (some ⟨pb,po,none⟩) pn s.pc)∧w'.cell? ⟨b,o+j*3,none⟩=some (.int .i64 k)∧w'.cell? ⟨b,o+j*3+1,none⟩=some (.int .i64 1)∧w'.cell? ⟨b,o+j*3+2,none⟩=some (.int .i64 xd)∧w'.cell? ⟨pb,po+k*4+2,none⟩=some (.int .i64 ln)) (go_keep) (first | fail);go_wp2;go_roundw;case rel=>exact⟨j+1,by omega,by go_num,by show _=_;rw[HTk.out,HA.out,HFv.out];rfl,HBd⟩
     case measure=>simp[intOf];omega
    ·rw[Vk hv]at HfA
     have HV:=Qaa (HI.out HfA);have hv':ln<xd:=by omega
     clear HfA hv;go_upto_region 5 with (fail);go_region_held3 (fun w'=>w'.cell? ⟨w.heap.size,1,none⟩=some (.slice (some ⟨pb,po,none⟩) pn s.pc)∧w'.cell? ⟨b,o+j*3,none⟩=some (.int .i64 k)∧w'.cell? ⟨b,o+j*3+1,none⟩=some (.int .i64 1)∧w'.cell? ⟨b,o+j*3+2,none⟩=some (.int .i64 xd)∧w'.cell? ⟨pb,po+k*4+2,none⟩=some (.int .i64 ln)) (go_keep) (first | fail);go_wp2;go_ret;rw[HV.out];exact⟨rfl,HB2.out.trans ((HB3.out.trans (HBd.out.mono HB3.out.size)).mono HB2.out.size)⟩
  ·have hlt':¬(j:Int)<(m:Int):=by omega
   have HV:ys.all f=true:=by have h:=HA.out;rw[Vh (by rw[HM.out];omega)]at h;exact h
   go_wp2;go_ret;try rw[HV]
   exact⟨rfl,HB2.out.trans ((HB3.out.trans (HB.out.mono HB3.out.size)).mono HB2.out.size)⟩
theorem Qgt (w:World) (s:Sta) (hs:Qae w s) (t:Nat) (ht:RgH s t) (p:Option Addr) (n c:Nat) (xs:List Lin) (hn:xs.length=n) (hnl:n≤1099511627776) (hwf:∀x∈xs,Qaw x) (hx:Cel w p 2 (xs.map Qal)) (hr:∀x∈xs,RgL s x) :
  Calls Tryz.prog 57 #[.agg s.arr,.int .i64 t,.slice p n c] w fun e w'=>e=.returned (.bool ((QaD xs).all (fun x=>decide (x.n≤s.held t x.a x.b))))∧Below w.heap.size w w':=by
 obtain⟨w2,hw2,hb2,hx2⟩:=Qag w s.arr 42;obtain⟨HS,HW2,HB2,HX2⟩:=hd4 hs hw2 hb2 hx2;have HR:=Qaa (Qg7 hr);have HT:=Qaa ht;have HNe:=Qaa (Qej w2.drew p n c xs hn (by omega) hwf (QcZ (hx.below hb2.drew)));have hln:(QaD xs).length≤1099511627776:=Vt (Qcx xs) (by omega);have HBd:Hid (Below w.heap.size w w2.drew):=hb2.drew;obtain⟨c0,c1,c2,c3,c4,c5⟩:=ac6 hx2;clear hw2 hb2 hx2 hs hx hn hr hwf ht;generalize QaD xs=ys at *;obtain⟨m,hm⟩:=exq ys.length;rw[hm]at hln;have HM:=Qaa hm;rw[hm]at HNe;clear hm;have HH:=Qaa (fun (W:World) (hb:Below w.heap.size w W) (q:Option Addr) (cq:Nat) (hc:Cel W q 3 (ys.map Qar))=>QgV W s (HS.out.below hb) t HT.out q m cq ys HM.out (by omega) hc HR.out);go_enter Tryz.func57,Tryz.ntmps57;go_upto_region 1 with (fail);rw[HW2.out]
 go_region_held3 (fun w'=>w'.cell? ⟨w.heap.size,0,none⟩=some (.int .u64 s.pos)∧w'.cell? ⟨w.heap.size,1,none⟩=some (.slice s.pp s.pn s.pc)∧w'.cell? ⟨w.heap.size,2,none⟩=some (.slice s.rp s.rn s.rc)∧w'.cell? ⟨w.heap.size,3,none⟩=some (.slice s.lp s.ln s.lc)∧w'.cell? ⟨w.heap.size,4,none⟩=some (.slice s.gp s.gn s.gc)∧w'.cell? ⟨w.heap.size,5,none⟩=some (.slice s.op s.on s.oc)) (go_keep) (first
  | (go_at_call 114;refine(HH.out w3 HB3.out q cq HX.out).mono ?_;rintro e w4 ⟨rfl,hb4⟩;have HB4:Hid (Below w.heap.size w w4):=HB3.out.trans (hb4.mono HB3.out.size);obtain⟨y0,y1,y2,y3,y4,y5⟩:=ac6 ((hb4.block _ (Qab HX3.out)).trans HX3.out);clear hb4)
  | (go_at_call 53;refine HNe.out.mono ?_;rintro e w3 ⟨v,rfl,hr3,hb3⟩;obtain⟨q,cq,rfl⟩:=slice_form hr3;have HX:=Qaa (cel_row hr3);have HB3:Hid (Below w.heap.size w w3):=HBd.out.trans (hb3.mono HBd.out.size);have HX3:=Qaa ((hb3.block _ (Qab HX2.out)).trans HX2.out);obtain⟨z0,z1,z2,z3,z4,z5⟩:=ac6 HX3.out;clear hr3 hb3)
  | fail)
 go_wp2;go_ret;exact⟨rfl,HB4.out⟩
end Go.Proofs.YtiogibfhafoapaaGreat
