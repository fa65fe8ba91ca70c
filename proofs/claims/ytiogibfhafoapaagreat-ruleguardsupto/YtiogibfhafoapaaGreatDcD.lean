import Derived.Test.YtiogibfhafoapaaGreatRwI
import Derived.Test.YtiogibfhafoapaaGreatNdU
import Derived.Test.YtiogibfhafoapaaGreatZM
set_option maxRecDepth 100000
set_option maxHeartbeats 8000000
set_option linter.unusedSimpArgs false
set_option linter.unusedVariables false
namespace Go.Proofs.YtiogibfhafoapaaGreat
open Go.RowKit
def RgT (s:Sta) (x:Tri):Prop:=(∃k:Nat,x.a=(k:Int)∧k<s.pn)∧(x.b=0∨x.b=1)
def RgL (s:Sta) (x:Lin):Prop:=∃k:Nat,x.c=(k:Int)∧k<s.pn
def RgH (s:Sta) (t:Nat):Prop:=∀p∈s.pools,t<p.hl
theorem way01 (n:Int):wayOf n=0∨wayOf n=1:=by unfold wayOf;split <;> simp
theorem putT_keys {l:List Tri} {q r:Tri} (h:r∈putT l q):(∃y∈l,r.a=y.a∧r.b=y.b)∨(r.a=q.a∧r.b=q.b):=by
 induction l with
 | nil=>simp[putT]at h;subst h;exact Or.inr ⟨rfl,rfl⟩
 | cons x l ih =>
  unfold putT at h;split at h
  ·rcases List.mem_cons.1 h with rfl | h
   ·exact Or.inl ⟨x,List.mem_cons_self ..,rfl,rfl⟩
   ·exact Or.inl ⟨r,List.mem_cons_of_mem _ h,rfl,rfl⟩
  ·split at h
   ·rcases List.mem_cons.1 h with rfl | h
    ·exact Or.inr ⟨rfl,rfl⟩
    ·exact Or.inl ⟨r,h,rfl,rfl⟩
   ·rcases List.mem_cons.1 h with rfl | h
    ·exact Or.inl ⟨r,List.mem_cons_self ..,rfl,rfl⟩
    ·rcases ih h with ⟨y,hy,e⟩ | e
     ·exact Or.inl ⟨y,List.mem_cons_of_mem _ hy,e⟩
     ·exact Or.inr e
theorem foldT_keys {xs:List Lin} : ∀{l:List Tri} {r:Tri},r∈xs.foldl (fun l x=>putT l (triOf x)) l→(∃y∈l,r.a=y.a∧r.b=y.b)∨∃x∈xs,r.a=x.c∧r.b=wayOf x.n:=by
 induction xs with
 | nil=>intro l r h;exact Or.inl ⟨r,h,rfl,rfl⟩
 | cons x xs ih =>
  intro l r h;rcases ih h with ⟨y,hy,e⟩ | ⟨z,hz,e⟩
  ·rcases putT_keys hy with ⟨u,hu,e2⟩ | e2
   ·exact Or.inl ⟨u,hu,e.1.trans e2.1,e.2.trans e2.2⟩
   ·exact Or.inr ⟨x,List.mem_cons_self ..,e.1.trans e2.1,e.2.trans e2.2⟩
  ·exact Or.inr ⟨z,List.mem_cons_of_mem _ hz,e⟩
theorem needT_keys {xs:List Lin} {r:Tri} (h:r∈needT xs):∃x∈xs,r.a=x.c∧r.b=wayOf x.n:=by
 rcases foldT_keys h with ⟨y,hy,_⟩ | h
 ·cases hy
 ·exact h
theorem needT_rg {s:Sta} {xs:List Lin} (h:∀x∈xs,RgL s x):∀r∈needT xs,RgT s r:=fun r hr=>by
 obtain⟨x,hx,e1,e2⟩:=needT_keys hr;exact⟨by rw[e1];exact h x hx,by rw[e2];exact way01 _⟩
theorem free_at {s:Sta} {k:Nat} {P:Pl} (h:s.pools[k]?=some P):s.free k 0=P.f0∧s.free k 1=P.f1:=by
 unfold Sta.free;rw[(at_in (z:=pl0) h).2];exact⟨rfl,rfl⟩
theorem held_at {s:Sta} {k t:Nat} {P:Pl} {l:Lin} (h:s.pools[k]?=some P) (hl:P.hs[t]?=some l):s.held t k 0=l.c∧s.held t k 1=l.n:=by
 unfold Sta.held;rw[(at_in (z:=pl0) h).2,(at_in (z:=(⟨0,0⟩:Lin)) hl).2];exact⟨rfl,rfl⟩
theorem rhas_any (w:World) (s:Sta) (hs:StaOk w s) (t:Nat) (ht:RgH s t) (p:Option Addr) (n c:Nat) (xs:List Tri) (hn:xs.length=n) (hnl:n≤140737488355328) (hx:Cel w p 3 (xs.map tric)) (hr:∀x∈xs,RgT s x) :
  Calls Tryz.prog 114 #[.agg s.arr,.int .i64 t,.slice p n c] w fun e w'=>e=.returned (.bool (xs.all (fun x=>decide (x.n≤s.held t x.a x.b))))∧Below w.heap.size w w':=by
 obtain⟨w2,hw2,hb2,hx2⟩:=box_one w s.arr 42;have HS:=hide hs;have HX:=hide (hx.below hb2);have HN:=hide hn;have HW2:=hide hw2;have HB2:=hide hb2;have HX2:=hide hx2;have HR:=hide hr;have HT:=hide ht;clear hw2 hb2 hx2 hs hx hn hr ht;obtain⟨f,hf⟩:∃f:Tri→Bool,(fun x:Tri=>decide (x.n≤s.held t x.a x.b))=f:=⟨_,rfl⟩;have HF:Hid (∀x:Tri,f x=decide (x.n≤s.held t x.a x.b)):=fun x=>by rw[←hf]
 rw[hf];clear hf;go_enter Tryz.func114,Tryz.ntmps114;go_upto_region 1 with (fail);rw[HW2.out];go_wp2_with fail
 go_loopw [7] (fun i wr=>∃j:Nat,j≤n∧i=.int .i64 j∧Hid ((xs.take j).all f=true)∧Hid (Below w2.heap.size w2 wr)) (fun i _=>n - (intOf i).toNat);case atStart=>exact⟨0,Nat.zero_le _,rfl,rfl,Below.refl _ _⟩
 case round =>
  obtain⟨j,hj,rfl,HA,HB⟩:=hrel;by_cases hlt:j<n
  ·have hlt':(j:Int)<(n:Int):=by omega
   have j0':(0:Int)≤(j:Int):=by omega
   obtain⟨x,hx⟩:∃x,xs[j]?=some x:=⟨_,List.getElem?_eq_getElem (by rw[HN.out];exact hlt)⟩;obtain⟨b,o,rfl,hbl,hcl⟩:=(HX.out.below HB.out).get (i:=j) (r:=tric x) (by rw[List.getElem?_map,hx];rfl);have hrx:=HR.out x (List.mem_of_getElem? hx);have HI:=hide (show f x=false→xs.all f=false from fun h=>by rw[List.all_eq_false];exact⟨_,List.mem_of_getElem? hx,by simp[h]⟩);have HTk:=hide (show (xs.take (j+1)).all f=((xs.take j).all f && f x) by rw[take_snoc hx,List.all_append];simp);obtain⟨xa,xb,xd⟩:=x;obtain⟨⟨k,rfl,hk⟩,hq⟩:=hrx;have hB:Below w.heap.size w wr:=HB2.out.trans (HB.out.mono HB2.out.size);have hOk:=HS.out.below hB;obtain⟨P,hP⟩:∃P,s.pools[k]?=some P:=⟨_,List.getElem?_eq_getElem (by rw[hOk.pn];exact hk)⟩;obtain⟨pb,po,ep,hpb,hpc⟩:=hOk.pools.get (i:=k) (r:=plc P) (by rw[List.getElem?_map,hP];rfl);have hth:=HT.out P (List.mem_of_getElem? hP);have hPk:=hOk.held P (List.mem_of_getElem? hP);obtain⟨l,hl⟩:∃l,P.hs[t]?=some l:=⟨_,List.getElem?_eq_getElem (by rw[hPk.len];exact hth)⟩;obtain⟨hb',ho',eh,hhb,hhc⟩:=hPk.cel.get (i:=t) (r:=linc l) (by rw[List.getElem?_map,hl];rfl);obtain⟨v0,v1⟩:=held_at hP hl;have a0:=hcl 0 _ rfl;have a1:=hcl 1 _ rfl;have a2:=hcl 2 _ rfl;rw[Nat.add_zero]at a0;have b3:=hpc 3 _ rfl;have d0:=hhc 0 _ rfl;have d1:=hhc 1 _ rfl;rw[Nat.add_zero]at d0;simp only[eh]at b3;obtain⟨-,c1,-,-,-,-⟩:=ac6 ((HB.out.block _ (ac_lt HX2.out)).trans HX2.out);rw[ep]at c1;obtain⟨lc,ln⟩:=l;have k1:(k:Int)<(s.pn:Int):=by omega
   have k0:(0:Int)≤(k:Int):=by omega
   have t1:(t:Int)<(P.hl:Int):=by omega
   have t0:(0:Int)≤(t:Int):=by omega
   obtain⟨pn,hpn⟩:∃pn,s.pn=pn:=⟨_,rfl⟩;obtain⟨hln,hhl⟩:∃hln,P.hl=hln:=⟨_,rfl⟩;rw[hpn]at c1 k1;rw[hhl]at b3 t1;have HBd:Hid (Below w2.heap.size w2 wr.drew):=HB.out.drew;have HfA:=HF.out ⟨k,xb,xd⟩;simp only at b3 d0 d1 v0 v1 HfA;clear hcl hpc hhc hx hP hl hPk hOk hB hpn hhl hth eh ep hk;rcases hq with rfl | rfl
   ·rw[v0]at HfA
    clear v0 v1 d1;by_cases hv:xd≤lc
    ·rw[decide_eq_true hv]at HfA
     have HFv:=hide HfA;have hv':¬lc<xd:=by omega
     clear HfA;go_upto_region 4 with (fail);go_region_held3 (fun w'=>w'.cell? ⟨w.heap.size,1,none⟩=some (.slice (some ⟨pb,po,none⟩) pn s.pc)∧w'.cell? ⟨b,o+j*3,none⟩=some (.int .i64 k)∧w'.cell? ⟨b,o+j*3+1,none⟩=some (.int .i64 0)∧w'.cell? ⟨b,o+j*3+2,none⟩=some (.int .i64 xd)∧w'.cell? ⟨pb,po+k*4+3,none⟩=some (.slice (some ⟨hb',ho',none⟩) hln P.hc)∧w'.cell? ⟨hb',ho'+t*2,none⟩=some (.int .i64 lc)) (go_keep) (first | fail);go_wp2;go_roundw;case rel=>exact⟨j+1,by omega,by go_num,by show _=_;rw[HTk.out,HA.out,HFv.out];rfl,HBd⟩
     case measure=>simp[intOf];omega
    ·rw[decide_eq_false hv]at HfA
     have HV:=hide (HI.out HfA);have hv':lc<xd:=by omega
     clear HfA hv;go_upto_region 4 with (fail);go_region_held3 (fun w'=>w'.cell? ⟨w.heap.size,1,none⟩=some (.slice (some ⟨pb,po,none⟩) pn s.pc)∧w'.cell? ⟨b,o+j*3,none⟩=some (.int .i64 k)∧w'.cell? ⟨b,o+j*3+1,none⟩=some (.int .i64 0)∧w'.cell? ⟨b,o+j*3+2,none⟩=some (.int .i64 xd)∧w'.cell? ⟨pb,po+k*4+3,none⟩=some (.slice (some ⟨hb',ho',none⟩) hln P.hc)∧w'.cell? ⟨hb',ho'+t*2,none⟩=some (.int .i64 lc)) (go_keep) (first | fail);go_wp2;go_ret;rw[HV.out];exact⟨rfl,HB2.out.trans (HBd.out.mono HB2.out.size)⟩
   ·rw[v1]at HfA
    clear v0 v1 d0;by_cases hv:xd≤ln
    ·rw[decide_eq_true hv]at HfA
     have HFv:=hide HfA;have hv':¬ln<xd:=by omega
     clear HfA;go_upto_region 4 with (fail);go_region_held3 (fun w'=>w'.cell? ⟨w.heap.size,1,none⟩=some (.slice (some ⟨pb,po,none⟩) pn s.pc)∧w'.cell? ⟨b,o+j*3,none⟩=some (.int .i64 k)∧w'.cell? ⟨b,o+j*3+1,none⟩=some (.int .i64 1)∧w'.cell? ⟨b,o+j*3+2,none⟩=some (.int .i64 xd)∧w'.cell? ⟨pb,po+k*4+3,none⟩=some (.slice (some ⟨hb',ho',none⟩) hln P.hc)∧w'.cell? ⟨hb',ho'+t*2+1,none⟩=some (.int .i64 ln)) (go_keep) (first | fail);go_wp2;go_roundw;case rel=>exact⟨j+1,by omega,by go_num,by show _=_;rw[HTk.out,HA.out,HFv.out];rfl,HBd⟩
     case measure=>simp[intOf];omega
    ·rw[decide_eq_false hv]at HfA
     have HV:=hide (HI.out HfA);have hv':ln<xd:=by omega
     clear HfA hv;go_upto_region 4 with (fail);go_region_held3 (fun w'=>w'.cell? ⟨w.heap.size,1,none⟩=some (.slice (some ⟨pb,po,none⟩) pn s.pc)∧w'.cell? ⟨b,o+j*3,none⟩=some (.int .i64 k)∧w'.cell? ⟨b,o+j*3+1,none⟩=some (.int .i64 1)∧w'.cell? ⟨b,o+j*3+2,none⟩=some (.int .i64 xd)∧w'.cell? ⟨pb,po+k*4+3,none⟩=some (.slice (some ⟨hb',ho',none⟩) hln P.hc)∧w'.cell? ⟨hb',ho'+t*2+1,none⟩=some (.int .i64 ln)) (go_keep) (first | fail);go_wp2;go_ret;rw[HV.out];exact⟨rfl,HB2.out.trans (HBd.out.mono HB2.out.size)⟩
  ·have hlt':¬(j:Int)<(n:Int):=by omega
   have HV:xs.all f=true:=by have h:=HA.out;rw[List.take_of_length_le (by rw[HN.out];omega)]at h;exact h
   go_wp2;go_ret;try rw[HV]
   exact⟨rfl,HB2.out.trans (HB.out.mono HB2.out.size)⟩
def RgG (s:Sta) (x:Tri):Prop:=((x.a=1∨x.a=2∨x.a=3)∧∃k:Nat,x.b=(k:Int)∧k<s.pn)∨(x.a=4∧∃k:Nat,x.b=(k:Int)∧k<s.rn)
def RgP (s:Sta) (x:Tri):Prop:=∃k:Nat,x.a=(k:Int)∧k<s.rn
theorem rholds_any (w:World) (s:Sta) (hs:StaOk w s) (x:Tri) (hx:RgG s x) :
  Calls Tryz.prog 115 #[.agg s.arr,.agg #[.int .i64 x.a,.int .i64 x.b,.int .i64 x.n]] w fun e w'=>e=.returned (.bool (s.guard x.a x.b x.n))∧Below w.heap.size w w':=by
 obtain⟨xa,xb,xn⟩:=x;obtain⟨w2,hw2,hb2,hx2,hy2⟩:=box_two w s.arr 42 73 #[.int .i64 xa,.int .i64 xb,.int .i64 xn];have HW2:=hide hw2;have HB2:=hide hb2;have HBd:Hid (Below w.heap.size w w2.drew):=hb2.drew;have hOk:=hs.below hb2;obtain⟨-,c1,c2,-,-,-⟩:=ac6 hx2;obtain⟨g0,g1,g2⟩:=ac3 hy2;rcases hx with ⟨ha,k,hk,hkn⟩ | ⟨ha,k,hk,hkn⟩
 ·simp only at hk ha
  subst hk;obtain⟨P,hP⟩:∃P,s.pools[k]?=some P:=⟨_,List.getElem?_eq_getElem (by rw[hOk.pn];exact hkn)⟩;obtain⟨pb,po,ep,hpb,hpc⟩:=hOk.pools.get (i:=k) (r:=plc P) (by rw[List.getElem?_map,hP];rfl);have b0:=hpc 0 _ rfl;rw[Nat.add_zero]at b0;rw[ep]at c1;obtain⟨hh,hg⟩:=at_in (z:=pl0) hP;have HG1:Hid (s.guard 1 k xn=decide (xn≤P.v)):=by show _=_;unfold Sta.guard;rw[hh,hg];rfl
  have HG2:Hid (s.guard 2 k xn=decide (P.v≤xn)):=by show _=_;unfold Sta.guard;rw[hh,hg];rfl
  have HG3:Hid (s.guard 3 k xn=decide (P.v=xn)):=by show _=_;unfold Sta.guard;rw[hh,hg];rfl
  have k1:(k:Int)<(s.pn:Int):=by omega
  have k0:(0:Int)≤(k:Int):=by omega
  obtain⟨pn,hpn⟩:∃pn,s.pn=pn:=⟨_,rfl⟩;rw[hpn]at c1 k1;obtain⟨pv,hpv⟩:∃pv,P.v=pv:=⟨_,rfl⟩;rw[hpv]at b0 HG1 HG2 HG3;clear hP hpc hh hg hpn hpv hOk hw2 hb2 hx2 hy2 hs ep hkn c2;rcases ha with rfl | rfl | rfl
  ·rw[HG1.out]
   go_enter Tryz.func115,Tryz.ntmps115;go_upto_region 1 with (fail);rw[HW2.out];go_upto_region 3 with (fail);go_region_held3 (fun w'=>w'.cell? ⟨w.heap.size,1,none⟩=some (.slice (some ⟨pb,po,none⟩) pn s.pc)∧w'.cell? ⟨w.heap.size+1,1,none⟩=some (.int .i64 k)∧w'.cell? ⟨w.heap.size+1,2,none⟩=some (.int .i64 xn)∧w'.cell? ⟨pb,po+k*4,none⟩=some (.int .i64 pv)) (go_keep) (first | fail);go_wp2;go_ret;exact⟨rfl,HBd.out⟩
  ·rw[HG2.out]
   go_enter Tryz.func115,Tryz.ntmps115;go_upto_region 1 with (fail);rw[HW2.out];go_upto_region 5 with (fail);go_region_held3 (fun w'=>w'.cell? ⟨w.heap.size,1,none⟩=some (.slice (some ⟨pb,po,none⟩) pn s.pc)∧w'.cell? ⟨w.heap.size+1,1,none⟩=some (.int .i64 k)∧w'.cell? ⟨w.heap.size+1,2,none⟩=some (.int .i64 xn)∧w'.cell? ⟨pb,po+k*4,none⟩=some (.int .i64 pv)) (go_keep) (first | fail);go_wp2;go_ret;exact⟨rfl,HBd.out⟩
  ·rw[HG3.out]
   go_enter Tryz.func115,Tryz.ntmps115;go_upto_region 1 with (fail);rw[HW2.out];go_upto_region 7 with (fail);go_region_held3 (fun w'=>w'.cell? ⟨w.heap.size,1,none⟩=some (.slice (some ⟨pb,po,none⟩) pn s.pc)∧w'.cell? ⟨w.heap.size+1,1,none⟩=some (.int .i64 k)∧w'.cell? ⟨w.heap.size+1,2,none⟩=some (.int .i64 xn)∧w'.cell? ⟨pb,po+k*4,none⟩=some (.int .i64 pv)) (go_keep) (first | fail);go_wp2;go_ret;exact⟨rfl,HBd.out⟩
 ·simp only at hk ha
  subst hk ha;obtain⟨P,hP⟩:∃P,s.prices[k]?=some P:=⟨_,List.getElem?_eq_getElem (by rw[hOk.rn];exact hkn)⟩;obtain⟨pb,po,ep,hpb,hpc⟩:=hOk.prices.get (i:=k) (r:=linc P) (by rw[List.getElem?_map,hP];rfl);have b0:=hpc 1 _ rfl;rw[ep]at c2;obtain⟨hh,hg⟩:=at_in (z:=(⟨0,0⟩:Lin)) hP;have HG4:Hid (s.guard 4 k xn=decide (P.n=xn)):=by show _=_;unfold Sta.guard;rw[hh,hg];rfl
  have k1:(k:Int)<(s.rn:Int):=by omega
  have k0:(0:Int)≤(k:Int):=by omega
  obtain⟨rn,hrn⟩:∃rn,s.rn=rn:=⟨_,rfl⟩;rw[hrn]at c2 k1;obtain⟨pv,hpv⟩:∃pv,P.n=pv:=⟨_,rfl⟩;rw[hpv]at b0 HG4;clear hP hpc hh hg hrn hpv hOk hw2 hb2 hx2 hy2 hs ep hkn c1;rw[HG4.out];go_enter Tryz.func115,Tryz.ntmps115;go_upto_region 1 with (fail);rw[HW2.out];go_upto_region 8 with (fail);go_region_held3 (fun w'=>w'.cell? ⟨w.heap.size,2,none⟩=some (.slice (some ⟨pb,po,none⟩) rn s.rc)∧w'.cell? ⟨w.heap.size+1,1,none⟩=some (.int .i64 k)∧w'.cell? ⟨w.heap.size+1,2,none⟩=some (.int .i64 xn)∧w'.cell? ⟨pb,po+k*2+1,none⟩=some (.int .i64 pv)) (go_keep) (first | fail);go_wp2;go_ret;exact⟨rfl,HBd.out⟩
theorem rguarded_any (w:World) (s:Sta) (hs:StaOk w s) (p:Option Addr) (n c:Nat) (xs:List Tri) (hn:xs.length=n) (hnl:n≤140737488355328) (hx:Cel w p 3 (xs.map tric)) (hr:∀x∈xs,RgG s x) :
  Calls Tryz.prog 58 #[.agg s.arr,.slice p n c] w fun e w'=>e=.returned (.bool (xs.all (fun x=>s.guard x.a x.b x.n)))∧Below w.heap.size w w':=by
 obtain⟨w2,hw2,hb2,hx2⟩:=box_one w s.arr 42;have HS:=hide (hs.below hb2);have HX:=hide (hx.below hb2);have HN:=hide hn;have HW2:=hide hw2;have HB2:=hide hb2;have HX2:=hide hx2;have HR:=hide hr;have HC:=hide (fun (W:World) (hb:Below w2.heap.size w2 W) (x:Tri) (h:RgG s x)=>rholds_any W s (HS.out.below hb) x h);clear hw2 hb2 hx2 hs hx hn hr;obtain⟨f,hf⟩:∃f:Tri→Bool,(fun x:Tri=>s.guard x.a x.b x.n)=f:=⟨_,rfl⟩;have HF:Hid (∀x:Tri,s.guard x.a x.b x.n=f x):=fun x=>by rw[←hf]
 rw[hf];clear hf;go_enter Tryz.func58,Tryz.ntmps58;go_upto_region 1 with (fail);rw[HW2.out];go_wp2_with fail
 go_loopw [5] (fun i wr=>∃j:Nat,j≤n∧i=.int .i64 j∧Hid ((xs.take j).all f=true)∧Hid (Below w2.heap.size w2 wr)) (fun i _=>n - (intOf i).toNat);case atStart=>exact⟨0,Nat.zero_le _,rfl,rfl,Below.refl _ _⟩
 case round =>
  obtain⟨j,hj,rfl,HA,HB⟩:=hrel;by_cases hlt:j<n
  ·have hlt':(j:Int)<(n:Int):=by omega
   have j0':(0:Int)≤(j:Int):=by omega
   obtain⟨x,hx⟩:∃x,xs[j]?=some x:=⟨_,List.getElem?_eq_getElem (by rw[HN.out];exact hlt)⟩;obtain⟨b,o,rfl,hbl,hcl⟩:=(HX.out.below HB.out).get (i:=j) (r:=tric x) (by rw[List.getElem?_map,hx];rfl);have hrx:=HR.out x (List.mem_of_getElem? hx);have HI:=hide (show f x=false→xs.all f=false from fun h=>by rw[List.all_eq_false];exact⟨_,List.mem_of_getElem? hx,by simp[h]⟩);have HTk:=hide (show (xs.take (j+1)).all f=((xs.take j).all f && f x) by rw[take_snoc hx,List.all_append];simp);have HQ:=hide (HC.out wr.drew HB.out.drew x hrx);rw[HF.out x]at HQ;obtain⟨xa,xb,xd⟩:=x;have a0:=hcl 0 _ rfl;have a1:=hcl 1 _ rfl;have a2:=hcl 2 _ rfl;rw[Nat.add_zero]at a0;obtain⟨c0,c1,c2,c3,c4,c5⟩:=ac6 ((HB.out.block _ (ac_lt HX2.out)).trans HX2.out);simp only at HQ;clear hcl hx hrx
   cases hv:f ⟨xa,xb,xd⟩ with
   | true =>
    rw[hv]at HQ HTk;clear hv HI;go_upto_region 4 with (fail);go_region_held3 (fun w'=>w'.cell? ⟨w.heap.size,0,none⟩=some (.int .u64 s.pos)∧w'.cell? ⟨w.heap.size,1,none⟩=some (.slice s.pp s.pn s.pc)∧w'.cell? ⟨w.heap.size,2,none⟩=some (.slice s.rp s.rn s.rc)∧w'.cell? ⟨w.heap.size,3,none⟩=some (.slice s.lp s.ln s.lc)∧w'.cell? ⟨w.heap.size,4,none⟩=some (.slice s.gp s.gn s.gc)∧w'.cell? ⟨w.heap.size,5,none⟩=some (.slice s.op s.on s.oc)∧w'.cell? ⟨b,o+j*3,none⟩=some (.int .i64 xa)∧w'.cell? ⟨b,o+j*3+1,none⟩=some (.int .i64 xb)∧w'.cell? ⟨b,o+j*3+2,none⟩=some (.int .i64 xd)) (go_keep) (first | (go_at_call 115;refine HQ.out.mono ?_;rintro e w7 ⟨rfl,hb7⟩;have HB7:Hid (Below w2.heap.size w2 w7):=HB.out.drew.trans (hb7.mono HB.out.drew.size);obtain⟨e0,e1,e2,e3,e4,e5⟩:=ac6 ((HB7.out.block _ (ac_lt HX2.out)).trans HX2.out);have f0:=(hb7.cell (p:=⟨b,o+j*3,none⟩) hbl).trans a0;have f1:=(hb7.cell (p:=⟨b,o+j*3+1,none⟩) hbl).trans a1;have f2:=(hb7.cell (p:=⟨b,o+j*3+2,none⟩) hbl).trans a2;clear hb7) | fail);go_wp2;go_roundw;case rel=>exact⟨j+1,by omega,by go_num,by show _=_;rw[HTk.out,HA.out];rfl,HB7⟩
    case measure=>simp[intOf];omega
   | false =>
    rw[hv]at HQ;have HV:=hide (HI.out hv);clear hv HI HTk;go_upto_region 4 with (fail);go_region_held3 (fun w'=>w'.cell? ⟨w.heap.size,0,none⟩=some (.int .u64 s.pos)∧w'.cell? ⟨w.heap.size,1,none⟩=some (.slice s.pp s.pn s.pc)∧w'.cell? ⟨w.heap.size,2,none⟩=some (.slice s.rp s.rn s.rc)∧w'.cell? ⟨w.heap.size,3,none⟩=some (.slice s.lp s.ln s.lc)∧w'.cell? ⟨w.heap.size,4,none⟩=some (.slice s.gp s.gn s.gc)∧w'.cell? ⟨w.heap.size,5,none⟩=some (.slice s.op s.on s.oc)∧w'.cell? ⟨b,o+j*3,none⟩=some (.int .i64 xa)∧w'.cell? ⟨b,o+j*3+1,none⟩=some (.int .i64 xb)∧w'.cell? ⟨b,o+j*3+2,none⟩=some (.int .i64 xd)) (go_keep) (first | (go_at_call 115;refine HQ.out.mono ?_;rintro e w7 ⟨rfl,hb7⟩;have HB7:Hid (Below w2.heap.size w2 w7):=HB.out.drew.trans (hb7.mono HB.out.drew.size);obtain⟨e0,e1,e2,e3,e4,e5⟩:=ac6 ((HB7.out.block _ (ac_lt HX2.out)).trans HX2.out);have f0:=(hb7.cell (p:=⟨b,o+j*3,none⟩) hbl).trans a0;have f1:=(hb7.cell (p:=⟨b,o+j*3+1,none⟩) hbl).trans a1;have f2:=(hb7.cell (p:=⟨b,o+j*3+2,none⟩) hbl).trans a2;clear hb7) | fail);go_wp2;go_ret;rw[HV.out];exact⟨rfl,HB2.out.trans (HB7.out.mono HB2.out.size)⟩
  ·have hlt':¬(j:Int)<(n:Int):=by omega
   have HV:xs.all f=true:=by have h:=HA.out;rw[List.take_of_length_le (by rw[HN.out];omega)]at h;exact h
   go_wp2;go_ret;try rw[HV]
   exact⟨rfl,HB2.out.trans (HB.out.mono HB2.out.size)⟩
theorem ropen_any (w:World) (s:Sta) (hs:StaOk w s) (p:Option Addr) (n c:Nat) (xs:List Tri) (hn:xs.length=n) (hnl:n≤140737488355328) (hx:Cel w p 3 (xs.map tric)) (hr:∀x∈xs,RgP s x) :
  Calls Tryz.prog 60 #[.agg s.arr,.slice p n c] w fun e w'=>e=.returned (.bool (xs.all (fun x=>s.isOpen x.a)))∧Below w.heap.size w w':=by
 obtain⟨w2,hw2,hb2,hx2⟩:=box_one w s.arr 42;have HS:=hide (hs.below hb2);have HX:=hide (hx.below hb2);have HN:=hide hn;have HW2:=hide hw2;have HB2:=hide hb2;have HX2:=hide hx2;have HR:=hide hr;clear hw2 hb2 hx2 hs hx hn hr;obtain⟨f,hf⟩:∃f:Tri→Bool,(fun x:Tri=>s.isOpen x.a)=f:=⟨_,rfl⟩;have HF:Hid (∀x:Tri,f x=s.isOpen x.a):=fun x=>by rw[←hf]
 rw[hf];clear hf;go_enter Tryz.func60,Tryz.ntmps60;go_upto_region 1 with (fail);rw[HW2.out];go_wp2_with fail
 go_loopw [5] (fun i wr=>∃j:Nat,j≤n∧i=.int .i64 j∧Hid ((xs.take j).all f=true)∧Hid (Below w2.heap.size w2 wr)) (fun i _=>n - (intOf i).toNat);case atStart=>exact⟨0,Nat.zero_le _,rfl,rfl,Below.refl _ _⟩
 case round =>
  obtain⟨j,hj,rfl,HA,HB⟩:=hrel;by_cases hlt:j<n
  ·have hlt':(j:Int)<(n:Int):=by omega
   have j0':(0:Int)≤(j:Int):=by omega
   obtain⟨x,hx⟩:∃x,xs[j]?=some x:=⟨_,List.getElem?_eq_getElem (by rw[HN.out];exact hlt)⟩;obtain⟨b,o,rfl,hbl,hcl⟩:=(HX.out.below HB.out).get (i:=j) (r:=tric x) (by rw[List.getElem?_map,hx];rfl);have hrx:=HR.out x (List.mem_of_getElem? hx);have HI:=hide (show f x=false→xs.all f=false from fun h=>by rw[List.all_eq_false];exact⟨_,List.mem_of_getElem? hx,by simp[h]⟩);have HTk:=hide (show (xs.take (j+1)).all f=((xs.take j).all f && f x) by rw[take_snoc hx,List.all_append];simp);have HfA:=HF.out x;obtain⟨xa,xb,xd⟩:=x;obtain⟨k,hk,hkn⟩:=hrx;simp only at hk;subst hk;have hOk:=HS.out.below HB.out;obtain⟨P,hP⟩:∃P,s.prices[k]?=some P:=⟨_,List.getElem?_eq_getElem (by rw[hOk.rn];exact hkn)⟩;obtain⟨pb,po,ep,hpb,hpc⟩:=hOk.prices.get (i:=k) (r:=linc P) (by rw[List.getElem?_map,hP];rfl);have b1:=hpc 1 _ rfl;obtain⟨hh,hg⟩:=at_in (z:=(⟨0,0⟩:Lin)) hP;have hfv:f ⟨k,xb,xd⟩=decide (P.n<1099511627776):=by rw[HfA];unfold Sta.isOpen;simp only;rw[hh,hg];rfl
   have a0:=hcl 0 _ rfl;rw[Nat.add_zero]at a0;obtain⟨-,-,c2,-,-,-⟩:=ac6 ((HB.out.block _ (ac_lt HX2.out)).trans HX2.out);rw[ep]at c2;have k1:(k:Int)<(s.rn:Int):=by omega
   have k0:(0:Int)≤(k:Int):=by omega
   obtain⟨rn,hrn⟩:∃rn,s.rn=rn:=⟨_,rfl⟩;rw[hrn]at c2 k1;obtain⟨pv,hpv⟩:∃pv,P.n=pv:=⟨_,rfl⟩;rw[hpv]at b1 hfv;have HBd:Hid (Below w2.heap.size w2 wr.drew):=HB.out.drew;clear hcl hpc hx hP hOk hrn hpv ep hkn hh hg HfA;by_cases hv:pv<1099511627776
   ·rw[decide_eq_true hv]at hfv
    have HFv:=hide hfv;have hv':¬1099511627776≤pv:=by omega
    clear hfv hv;go_upto_region 4 with (fail);go_region_held3 (fun w'=>w'.cell? ⟨w.heap.size,2,none⟩=some (.slice (some ⟨pb,po,none⟩) rn s.rc)∧w'.cell? ⟨b,o+j*3,none⟩=some (.int .i64 k)∧w'.cell? ⟨pb,po+k*2+1,none⟩=some (.int .i64 pv)) (go_keep) (first | fail);go_wp2;go_roundw;case rel=>exact⟨j+1,by omega,by go_num,by show _=_;rw[HTk.out,HA.out,HFv.out];rfl,HBd⟩
    case measure=>simp[intOf];omega
   ·rw[decide_eq_false hv]at hfv
    have HV:=hide (HI.out hfv);have hv':1099511627776≤pv:=by omega
    clear hfv hv;go_upto_region 4 with (fail);go_region_held3 (fun w'=>w'.cell? ⟨w.heap.size,2,none⟩=some (.slice (some ⟨pb,po,none⟩) rn s.rc)∧w'.cell? ⟨b,o+j*3,none⟩=some (.int .i64 k)∧w'.cell? ⟨pb,po+k*2+1,none⟩=some (.int .i64 pv)) (go_keep) (first | fail);go_wp2;go_ret;rw[HV.out];exact⟨rfl,HB2.out.trans (HBd.out.mono HB2.out.size)⟩
  ·have hlt':¬(j:Int)<(n:Int):=by omega
   have HV:xs.all f=true:=by have h:=HA.out;rw[List.take_of_length_le (by rw[HN.out];omega)]at h;exact h
   go_wp2;go_ret;try rw[HV]
   exact⟨rfl,HB2.out.trans (HB.out.mono HB2.out.size)⟩
theorem rfree_any (w:World) (s:Sta) (hs:StaOk w s) (p:Option Addr) (n c:Nat) (xs:List Lin) (hn:xs.length=n) (hnl:n≤1099511627776) (hwf:∀x∈xs,LinWf x) (hx:Cel w p 2 (xs.map linc)) (hr:∀x∈xs,RgL s x) :
  Calls Tryz.prog 55 #[.agg s.arr,.slice p n c] w fun e w'=>e=.returned (.bool ((needT xs).all (fun x=>decide (x.n≤s.free x.a x.b))))∧Below w.heap.size w w':=by
 obtain⟨w2,hw2,hb2,hx2⟩:=box_one w s.arr 42;have HS:=hide hs;have HW2:=hide hw2;have HB2:=hide hb2;have HX2:=hide hx2;have HR:=hide (needT_rg hr);have HNe:=hide (rneeds_any w2 p n c xs hn (by omega) hwf (cel_lins (hx.below hb2)));have hln:(needT xs).length≤1099511627776:=Nat.le_trans (needT_len xs) (by omega);clear hw2 hb2 hx2 hs hx hn hr hwf;obtain⟨f,hf⟩:∃f:Tri→Bool,(fun x:Tri=>decide (x.n≤s.free x.a x.b))=f:=⟨_,rfl⟩;have HF:Hid (∀x:Tri,f x=decide (x.n≤s.free x.a x.b)):=fun x=>by rw[←hf]
 rw[hf];clear hf;generalize needT xs=ys at *;obtain⟨m,hm⟩:∃m,ys.length=m:=⟨_,rfl⟩;rw[hm]at hln;have HM:=hide hm;rw[hm]at HNe;clear hm;go_enter Tryz.func55,Tryz.ntmps55;go_upto_region 1 with (fail);rw[HW2.out];go_upto_region 2 with (first | (go_at_call 53;refine HNe.out.mono ?_;rintro e w3 ⟨v,rfl,hr3,hb3⟩;obtain⟨q,cq,rfl⟩:=slice_form hr3;have HX:=hide (cel_row hr3);have HB3:=hide hb3;clear hr3 hb3) | fail);go_wp2_with fail
 go_loopw [6] (fun i wr=>∃j:Nat,j≤m∧i=.int .i64 j∧Hid ((ys.take j).all f=true)∧Hid (Below w3.heap.size w3 wr)) (fun i _=>m - (intOf i).toNat);case atStart=>exact⟨0,Nat.zero_le _,rfl,rfl,Below.refl _ _⟩
 case round =>
  obtain⟨j,hj,rfl,HA,HB⟩:=hrel;by_cases hlt:j<m
  ·have hlt':(j:Int)<(m:Int):=by omega
   have j0':(0:Int)≤(j:Int):=by omega
   obtain⟨x,hx⟩:∃x,ys[j]?=some x:=⟨_,List.getElem?_eq_getElem (by rw[HM.out];exact hlt)⟩;obtain⟨b,o,rfl,hbl,hcl⟩:=(HX.out.below HB.out).get (i:=j) (r:=tric x) (by rw[List.getElem?_map,hx];rfl);have hrx:=HR.out x (List.mem_of_getElem? hx);have HI:=hide (show f x=false→ys.all f=false from fun h=>by rw[List.all_eq_false];exact⟨_,List.mem_of_getElem? hx,by simp[h]⟩);have HTk:=hide (show (ys.take (j+1)).all f=((ys.take j).all f && f x) by rw[take_snoc hx,List.all_append];simp);obtain⟨xa,xb,xd⟩:=x;obtain⟨⟨k,rfl,hk⟩,hq⟩:=hrx;have hB3:Below w2.heap.size w2 wr:=HB3.out.trans (HB.out.mono HB3.out.size);have hB:Below w.heap.size w wr:=HB2.out.trans (hB3.mono HB2.out.size);have hOk:=HS.out.below hB;obtain⟨P,hP⟩:∃P,s.pools[k]?=some P:=⟨_,List.getElem?_eq_getElem (by rw[hOk.pn];exact hk)⟩;obtain⟨pb,po,ep,hpb,hpc⟩:=hOk.pools.get (i:=k) (r:=plc P) (by rw[List.getElem?_map,hP];rfl);obtain⟨v0,v1⟩:=free_at hP;have a0:=hcl 0 _ rfl;have a1:=hcl 1 _ rfl;have a2:=hcl 2 _ rfl;rw[Nat.add_zero]at a0;have d0:=hpc 1 _ rfl;have d1:=hpc 2 _ rfl;obtain⟨-,c1,-,-,-,-⟩:=ac6 ((hB3.block _ (ac_lt HX2.out)).trans HX2.out);rw[ep]at c1;have k1:(k:Int)<(s.pn:Int):=by omega
   have k0:(0:Int)≤(k:Int):=by omega
   obtain⟨pn,hpn⟩:∃pn,s.pn=pn:=⟨_,rfl⟩;rw[hpn]at c1 k1;obtain⟨lc,hlc⟩:∃lc,P.f0=lc:=⟨_,rfl⟩;obtain⟨ln,hln'⟩:∃ln,P.f1=ln:=⟨_,rfl⟩;rw[hlc]at d0 v0;rw[hln']at d1 v1;have HBd:Hid (Below w3.heap.size w3 wr.drew):=HB.out.drew;have HfA:=HF.out ⟨k,xb,xd⟩;simp only at d0 d1 v0 v1 HfA;clear hcl hpc hx hP hOk hB hB3 hpn hlc hln' ep hk;rcases hq with rfl | rfl
   ·rw[v0]at HfA
    clear v0 v1 d1;by_cases hv:xd≤lc
    ·rw[decide_eq_true hv]at HfA
     have HFv:=hide HfA;have hv':¬lc<xd:=by omega
     clear HfA;go_upto_region 5 with (fail);go_region_held3 (fun w'=>w'.cell? ⟨w.heap.size,1,none⟩=some (.slice (some ⟨pb,po,none⟩) pn s.pc)∧w'.cell? ⟨b,o+j*3,none⟩=some (.int .i64 k)∧w'.cell? ⟨b,o+j*3+1,none⟩=some (.int .i64 0)∧w'.cell? ⟨b,o+j*3+2,none⟩=some (.int .i64 xd)∧w'.cell? ⟨pb,po+k*4+1,none⟩=some (.int .i64 lc)) (go_keep) (first | fail);go_wp2;go_roundw;case rel=>exact⟨j+1,by omega,by go_num,by show _=_;rw[HTk.out,HA.out,HFv.out];rfl,HBd⟩
     case measure=>simp[intOf];omega
    ·rw[decide_eq_false hv]at HfA
     have HV:=hide (HI.out HfA);have hv':lc<xd:=by omega
     clear HfA hv;go_upto_region 5 with (fail);go_region_held3 (fun w'=>w'.cell? ⟨w.heap.size,1,none⟩=some (.slice (some ⟨pb,po,none⟩) pn s.pc)∧w'.cell? ⟨b,o+j*3,none⟩=some (.int .i64 k)∧w'.cell? ⟨b,o+j*3+1,none⟩=some (.int .i64 0)∧w'.cell? ⟨b,o+j*3+2,none⟩=some (.int .i64 xd)∧w'.cell? ⟨pb,po+k*4+1,none⟩=some (.int .i64 lc)) (go_keep) (first | fail);go_wp2;go_ret;rw[HV.out];exact⟨rfl,HB2.out.trans ((HB3.out.trans (HBd.out.mono HB3.out.size)).mono HB2.out.size)⟩
   ·rw[v1]at HfA
    clear v0 v1 d0;by_cases hv:xd≤ln
    ·rw[decide_eq_true hv]at HfA
     have HFv:=hide HfA;have hv':¬ln<xd:=by omega
     clear HfA;go_upto_region 5 with (fail);go_region_held3 (fun w'=>w'.cell? ⟨w.heap.size,1,none⟩=some (.slice (some ⟨pb,po,none⟩) pn s.pc)∧w'.cell? ⟨b,o+j*3,none⟩=some (.int .i64 k)∧w'.cell? ⟨b,o+j*3+1,none⟩=some (.int .i64 1)∧w'.cell? ⟨b,o+j*3+2,none⟩=some (.int .i64 xd)∧w'.cell? ⟨pb,po+k*4+2,none⟩=some (.int .i64 ln)) (go_keep) (first | fail);go_wp2;go_roundw;case rel=>exact⟨j+1,by omega,by go_num,by show _=_;rw[HTk.out,HA.out,HFv.out];rfl,HBd⟩
     case measure=>simp[intOf];omega
    ·rw[decide_eq_false hv]at HfA
     have HV:=hide (HI.out HfA);have hv':ln<xd:=by omega
     clear HfA hv;go_upto_region 5 with (fail);go_region_held3 (fun w'=>w'.cell? ⟨w.heap.size,1,none⟩=some (.slice (some ⟨pb,po,none⟩) pn s.pc)∧w'.cell? ⟨b,o+j*3,none⟩=some (.int .i64 k)∧w'.cell? ⟨b,o+j*3+1,none⟩=some (.int .i64 1)∧w'.cell? ⟨b,o+j*3+2,none⟩=some (.int .i64 xd)∧w'.cell? ⟨pb,po+k*4+2,none⟩=some (.int .i64 ln)) (go_keep) (first | fail);go_wp2;go_ret;rw[HV.out];exact⟨rfl,HB2.out.trans ((HB3.out.trans (HBd.out.mono HB3.out.size)).mono HB2.out.size)⟩
  ·have hlt':¬(j:Int)<(m:Int):=by omega
   have HV:ys.all f=true:=by have h:=HA.out;rw[List.take_of_length_le (by rw[HM.out];omega)]at h;exact h
   go_wp2;go_ret;try rw[HV]
   exact⟨rfl,HB2.out.trans ((HB3.out.trans (HB.out.mono HB3.out.size)).mono HB2.out.size)⟩
theorem rholdsL_any (w:World) (s:Sta) (hs:StaOk w s) (t:Nat) (ht:RgH s t) (p:Option Addr) (n c:Nat) (xs:List Lin) (hn:xs.length=n) (hnl:n≤1099511627776) (hwf:∀x∈xs,LinWf x) (hx:Cel w p 2 (xs.map linc)) (hr:∀x∈xs,RgL s x) :
  Calls Tryz.prog 57 #[.agg s.arr,.int .i64 t,.slice p n c] w fun e w'=>e=.returned (.bool ((needT xs).all (fun x=>decide (x.n≤s.held t x.a x.b))))∧Below w.heap.size w w':=by
 obtain⟨w2,hw2,hb2,hx2⟩:=box_one w s.arr 42;have HS:=hide hs;have HW2:=hide hw2;have HB2:=hide hb2;have HX2:=hide hx2;have HR:=hide (needT_rg hr);have HT:=hide ht;have HNe:=hide (rneeds_any w2.drew p n c xs hn (by omega) hwf (cel_lins (hx.below hb2.drew)));have hln:(needT xs).length≤1099511627776:=Nat.le_trans (needT_len xs) (by omega);have HBd:Hid (Below w.heap.size w w2.drew):=hb2.drew;obtain⟨c0,c1,c2,c3,c4,c5⟩:=ac6 hx2;clear hw2 hb2 hx2 hs hx hn hr hwf ht;generalize needT xs=ys at *;obtain⟨m,hm⟩:∃m,ys.length=m:=⟨_,rfl⟩;rw[hm]at hln;have HM:=hide hm;rw[hm]at HNe;clear hm;have HH:=hide (fun (W:World) (hb:Below w.heap.size w W) (q:Option Addr) (cq:Nat) (hc:Cel W q 3 (ys.map tric))=>rhas_any W s (HS.out.below hb) t HT.out q m cq ys HM.out (by omega) hc HR.out);go_enter Tryz.func57,Tryz.ntmps57;go_upto_region 1 with (fail);rw[HW2.out]
 go_region_held3 (fun w'=>w'.cell? ⟨w.heap.size,0,none⟩=some (.int .u64 s.pos)∧w'.cell? ⟨w.heap.size,1,none⟩=some (.slice s.pp s.pn s.pc)∧w'.cell? ⟨w.heap.size,2,none⟩=some (.slice s.rp s.rn s.rc)∧w'.cell? ⟨w.heap.size,3,none⟩=some (.slice s.lp s.ln s.lc)∧w'.cell? ⟨w.heap.size,4,none⟩=some (.slice s.gp s.gn s.gc)∧w'.cell? ⟨w.heap.size,5,none⟩=some (.slice s.op s.on s.oc)) (go_keep) (first
  | (go_at_call 114;refine(HH.out w3 HB3.out q cq HX.out).mono ?_;rintro e w4 ⟨rfl,hb4⟩;have HB4:Hid (Below w.heap.size w w4):=HB3.out.trans (hb4.mono HB3.out.size);obtain⟨y0,y1,y2,y3,y4,y5⟩:=ac6 ((hb4.block _ (ac_lt HX3.out)).trans HX3.out);clear hb4)
  | (go_at_call 53;refine HNe.out.mono ?_;rintro e w3 ⟨v,rfl,hr3,hb3⟩;obtain⟨q,cq,rfl⟩:=slice_form hr3;have HX:=hide (cel_row hr3);have HB3:Hid (Below w.heap.size w w3):=HBd.out.trans (hb3.mono HBd.out.size);have HX3:=hide ((hb3.block _ (ac_lt HX2.out)).trans HX2.out);obtain⟨z0,z1,z2,z3,z4,z5⟩:=ac6 HX3.out;clear hr3 hb3)
  | fail)
 go_wp2;go_ret;exact⟨rfl,HB4.out⟩
end Go.Proofs.YtiogibfhafoapaaGreat
namespace Go.Proofs.YtiogibfhafoapaaGreat
open Go.RowKit Go.Sort
open Z (Sli SlOk Acd AcdOk)
structure Tld where
 out:Int
 made:Sli Lin
 sets:Sli Tri
 n:Int
def Tld.arr (t:Tld):Array Value:=#[.int .i64 t.out,.slice t.made.p t.made.n t.made.c,.slice t.sets.p t.sets.n t.sets.c,.int .i64 t.n]
structure TldOk (w:World) (t:Tld):Prop where
 made:SlOk w 2 linc t.made
 sets:SlOk w 3 tric t.sets
theorem TldOk.below {w w':World} {t:Tld} (h:TldOk w t) (hb:Below w.heap.size w w'):TldOk w' t:=⟨h.made.below hb,h.sets.below hb⟩
def Tld.d (t:Tld):Int × List Lin × List Tri × Int:=(t.out,t.made.xs,t.sets.xs,t.n)
theorem Tld.ones (t:Tld):t.arr.all (·.oneCell')=true:=by simp[Tld.arr,Value.oneCell']
def tld0 (o n:Int):Tld:=⟨o,⟨none,0,0,[]⟩,⟨none,0,0,[]⟩,n⟩
theorem sl_nil {α:Type} (w:World) (sz:Nat) (f:α→List Value):SlOk w sz f ⟨none,0,0,[]⟩:=⟨rfl,Nat.zero_le _,Or.inl rfl⟩
theorem tld0_ok (w:World) (o n:Int):TldOk w (tld0 o n):=⟨sl_nil _ _ _,sl_nil _ _ _⟩
theorem rdone_any (w:World) (b:Bool):Calls Tryz.prog 119 #[.bool b] w fun e w'=>e=.returned (.agg (tld0 (if b then 5 else 3) 0).arr)∧Below w.heap.size w w':=by
 have hA:Hid (Below w.heap.size w (w.alloc (.cells (tld0 (if b then 5 else 3) 0).arr 151))):=(Below.refl _ _).alloc (Nat.le_refl _) _
 cases b with
 | true =>
  go_enter Tryz.func119,Tryz.ntmps119;go_wp2;refine bodyPost_ret (results_cell_row rfl _ _ w.heap.size 151 _ (0,0) _ rfl (heap_alloc_new _ _) Tryz.underlying151 rfl (by kernel_rfl)) rfl ?_;exact⟨rfl,hA.out⟩
 | false =>
  go_enter Tryz.func119,Tryz.ntmps119;go_wp2;refine bodyPost_ret (results_cell_row rfl _ _ w.heap.size 151 _ (0,0) _ rfl (heap_alloc_new _ _) Tryz.underlying151 rfl (by kernel_rfl)) rfl ?_;exact⟨rfl,hA.out⟩
theorem rmade_any (w:World) (s:Sta) (hs:StaOk w s) (p:Option Addr) (n c:Nat) (xs:List Tri) (hn:xs.length=n) (hnl:n≤1099511627 - 1) (hx:Cel w p 3 (xs.map tric)) (hr:∀x∈xs,RgP s x) :
  Calls Tryz.prog 179 #[.agg s.arr,.slice p n c] w fun e w'=>∃v,e=.returned v∧w'.ownsRow w.heap.size 76 3 v n (rcells (xs.map s.raise))∧Below w.heap.size w w':=by
 obtain⟨i0,hi,hz0,hz1,hz2⟩:=info_parts set_info3;obtain⟨w2,hw2,hb2,hx2⟩:=box_one w s.arr 42;have HS:=hide (hs.below hb2);have HX:=hide (hx.below hb2);have HN:=hide hn;have HW2:=hide hw2;have HB2:=hide hb2;have HX2:=hide hx2;have HR:=hide hr;clear hw2 hb2 hx2 hs hx hn hr;go_enter Tryz.func179,Tryz.ntmps179;go_upto_region 1 with (fail);rw[HW2.out];go_wp2_with fail
 go_loopw [5,6] (fun ov i wr=>∃j:Nat,j≤n∧i=.int .i64 j∧Hid (wr.ownsRow w2.heap.size 76 3 ov j (rcells ((xs.take j).map s.raise)))∧Hid (Below w2.heap.size w2 wr)) (fun _ i _=>n - (intOf i).toNat);case atStart=>exact⟨0,Nat.zero_le _,rfl,World.ownsRow_nil _ _ _ _,Below.refl _ _⟩
 case round =>
  obtain⟨j,hj,rfl,HO,HB⟩:=hrel;obtain⟨oa,oc,rfl⟩:=slice_form HO.out;by_cases hlt:j<n
  ·have hlt':(j:Int)<(n:Int):=by omega
   have j0':(0:Int)≤(j:Int):=by omega
   obtain⟨x,hx⟩:∃x,xs[j]?=some x:=⟨_,List.getElem?_eq_getElem (by rw[HN.out];exact hlt)⟩;obtain⟨b,o,rfl,hbl,hcl⟩:=HX.out.get (i:=j) (r:=tric x) (by rw[List.getElem?_map,hx];rfl);have hrx:=HR.out x (List.mem_of_getElem? hx);have HT:=hide (show (xs.take (j+1)).map s.raise=(xs.take j).map s.raise++[s.raise x] by rw[take_snoc hx];simp);obtain⟨xa,xb,xd⟩:=x;obtain⟨k,hk,hkn⟩:=hrx;simp only at hk;subst hk;obtain⟨P,hP⟩:∃P,s.prices[k]?=some P:=⟨_,List.getElem?_eq_getElem (by rw[HS.out.rn];exact hkn)⟩;obtain⟨pb,po,ep,hpb,hpc⟩:=HS.out.prices.get (i:=k) (r:=linc P) (by rw[List.getElem?_map,hP];rfl);have HV:Hid (s.raise ⟨k,xb,xd⟩=⟨k,wrap64 (P.n+1),xd⟩):=by show _=_;unfold Sta.raise;simp only;rw[(at_in (z:=(⟨0,0⟩:Lin)) hP).2]
   have k1:(k:Int)<(s.rn:Int):=by omega
   have k0:(0:Int)≤(k:Int):=by omega
   obtain⟨rn,hrn⟩:∃rn,s.rn=rn:=⟨_,rfl⟩;obtain⟨pv,hpv⟩:∃pv,P.n=pv:=⟨_,rfl⟩;rw[hpv]at HV;rw[hrn]at k1
   have HZ:Hid (∀W,Below w2.heap.size w2 W→W.cell? ⟨w.heap.size,2,none⟩=some (.slice (some ⟨pb,po,none⟩) rn s.rc)∧W.cell? ⟨b,o+j*3,none⟩=some (.int .i64 k)∧W.cell? ⟨b,o+j*3+2,none⟩=some (.int .i64 xd)∧W.cell? ⟨pb,po+k*2+1,none⟩=some (.int .i64 pv)):=fun W hb=>by
    have h:=(hb.block _ (ac_lt HX2.out)).trans HX2.out;have h2:=(ac6 h).2.2.1;rw[ep,hrn]at h2;refine⟨h2,(hb.cell (p:=⟨b,o+j*3,none⟩) hbl).trans (hcl 0 _ rfl),(hb.cell (p:=⟨b,o+j*3+2,none⟩) hbl).trans (hcl 2 _ rfl),?_⟩;rw[←hpv];exact(hb.cell (p:=⟨pb,po+k*2+1,none⟩) hpb).trans (hpc 1 _ rfl)
   obtain⟨c2,a0,a2,b1⟩:=HZ.out wr HB.out;have hn1:=World.new_ne wr _ c2;have hn2:=World.new_ne wr _ a0;have hn3:=World.new_ne wr _ a2;have hn4:=World.new_ne wr _ b1;obtain⟨pw,hpw⟩:∃pw,wrap64 (pv+1)=pw:=⟨_,rfl⟩;have hpw2:IntKind.i64.wrap (pv+1)=pw:=by rw[←hpw];simp[IntKind.wrap,IntKind.bits,IntKind.signed,wrap64];split <;> omega
   rw[hpw]at HV;have HRow:Hid (rcells ((xs.take j).map s.raise)++[.int .i64 k,.int .i64 pw,.int .i64 xd]=rcells ((xs.take (j+1)).map s.raise)):=by show _=_;rw[HT.out,HV.out,rcells_snoc];rfl
   have hlen:((xs.take j).map s.raise).length=j:=by rw[List.length_map,List.length_take,HN.out];omega
   generalize (xs.take j).map s.raise=R at HO HRow hlen;clear hcl hpc hx hP hpv hrn ep hkn hpw HT HV;have HRg:=hide hlen;clear hlen;go_upto_region 5 with (fail);go_region_held3 (fun w'=>w'.cell? ⟨w.heap.size,2,none⟩=some (.slice (some ⟨pb,po,none⟩) rn s.rc)∧w'.cell? ⟨b,o+j*3,none⟩=some (.int .i64 k)∧w'.cell? ⟨b,o+j*3+2,none⟩=some (.int .i64 xd)∧w'.cell? ⟨pb,po+k*2+1,none⟩=some (.int .i64 pv)) (go_keep) (first | (refine step_append_lies _ (by rfl) (.tmp 13) (.tmp 36) 48 (by rfl) w2.heap.size 76 i0 (.agg #[.int .i64 0,.int .i64 0,.int .i64 0]) 3 24 Tryz.underlying48 hi hz0 hz1 hz2 rfl (by omega) (.slice oa j oc) j (rcells R) (by rfl) (by first | exact HO.out.alloc _ | exact RB.owns_kept' (HO.out.alloc _) (fun _ _=>rfl)) ⟨wr.heap.size,0,none⟩ 1 1 [.int .i64 k,.int .i64 pw,.int .i64 xd] (by rfl) rfl (World.news_of_block (heap_alloc_new wr (.cells #[.int .i64 k,.int .i64 pw,.int .i64 xd] 76))) (by simp[Value.oneCell']) (by omega) (by unfold maxLen;omega) (by omega) (by have:=HB.out.size;simp;omega) _ rfl ?_;intro g' cap' w7 hown7 hgrow7 hat7 hlt7;have HO7:=hide hown7;have HB7:Hid (Below w2.heap.size w2 w7):=(HB.out.alloc HB.out.size _).drew.grown hgrow7 (by have:=HB.out.size;simp;omega) (fun k e=>RB.owns_low HO.out k e);obtain⟨z0,z1,z2,z3⟩:=HZ.out w7 HB7.out;clear hown7 hgrow7 hat7 hlt7) | fail);rw[HRow.out]at HO7;go_wp2;go_roundw;case rel=>exact⟨j+1,by omega,by go_num,HO7,HB7⟩
   case measure=>simp[intOf];omega
  ·have hlt':¬(j:Int)<(n:Int):=by omega
   obtain rfl:j=n:=by omega
   have HV:=hide HO.out;rw[List.take_of_length_le (by rw[HN.out];omega)]at HV;go_wp2;go_ret;exact⟨_,rfl,owns_mono HV.out HB2.out.size,HB2.out.trans (HB.out.mono HB2.out.size)⟩
end Go.Proofs.YtiogibfhafoapaaGreat
