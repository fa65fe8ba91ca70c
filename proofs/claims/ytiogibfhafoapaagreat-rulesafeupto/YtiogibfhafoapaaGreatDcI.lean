import Derived.Test.YtiogibfhafoapaaGreatDcC
import Derived.Test.YtiogibfhafoapaaGreatRwK
import Derived.Lib.QuietBelow
import Derived.Lib.SmallJoins
import Derived.Test.YtiogibfhafoapaaGreatZXc
set_option maxRecDepth 100000
set_option maxHeartbeats 8000000
set_option linter.unusedSimpArgs false
set_option linter.unusedVariables false
namespace Go.Proofs.YtiogibfhafoapaaGreat
open Go.RowKit Go.Sort
open Z (Sli QaE Acd Qad)
structure Tld where
 out:Int
 made:Sli Lin
 sets:Sli Tri
 n:Int
def Tld.arr (t:Tld):Array Value:=#[.int .i64 t.out,.slice t.made.p t.made.n t.made.c,.slice t.sets.p t.sets.n t.sets.c,.int .i64 t.n]
structure QcB (w:World) (t:Tld):Prop where
 made:QaE w 2 Qal t.made
 sets:QaE w 3 Qar t.sets
theorem QcB.below {w w':World} {t:Tld} (h:QcB w t) (hb:Below w.heap.size w w'):QcB w' t:=⟨h.made.below hb,h.sets.below hb⟩
def Tld.d (t:Tld):Int × List Lin × List Tri × Int:=(t.out,t.made.xs,t.sets.xs,t.n)
theorem Tld.ones (t:Tld):t.arr.all (·.oneCell')=true:=by simp[Tld.arr,Value.oneCell']
def QaJ (o n:Int):Tld:=⟨o,⟨none,0,0,[]⟩,⟨none,0,0,[]⟩,n⟩
theorem QaM {α:Type} (w:World) (sz:Nat) (f:α→List Value):QaE w sz f ⟨none,0,0,[]⟩:=⟨rfl,Vo _,Or.inl rfl⟩
theorem Qau (w:World) (o n:Int):QcB w (QaJ o n):=⟨QaM _ _ _,QaM _ _ _⟩
theorem QjE (w:World) (b:Bool):Calls Tryz.prog 119 #[.bool b] w fun e w'=>e=.returned (.agg (QaJ (if b then 5 else 3) 0).arr)∧Below w.heap.size w w':=by
 have hA:Hid (Below w.heap.size w (w.alloc (.cells (QaJ (if b then 5 else 3) 0).arr 151))):=bR.alloc (Va _) _
 cases b with
 | true =>
  go_enter Tryz.func119,Tryz.ntmps119;go_wp2;refine Vg (VF rfl _ _ w.heap.size 151 _ (0,0) _ rfl (hNq _ _) Tryz.underlying151 rfl (by kernel_rfl)) rfl ?_;exact⟨rfl,hA.out⟩
 | false =>
  go_enter Tryz.func119,Tryz.ntmps119;go_wp2;refine Vg (VF rfl _ _ w.heap.size 151 _ (0,0) _ rfl (hNq _ _) Tryz.underlying151 rfl (by kernel_rfl)) rfl ?_;exact⟨rfl,hA.out⟩
theorem Qfv (w:World) (s:Sta) (hs:Qae w s) (p:Option Addr) (n c:Nat) (xs:List Tri) (hn:xs.length=n) (hnl:n≤1099511627 - 1) (hx:Cel w p 3 (xs.map Qar)) (hr:∀x∈xs,RgP s x) :
  Calls Tryz.prog 179 #[.agg s.arr,.slice p n c] w fun e w'=>∃v,e=.returned v∧w'.ownsRow w.heap.size 76 3 v n (Qav (xs.map s.raise))∧Below w.heap.size w w':=by
 obtain⟨i0,hi,hz0,hz1,hz2⟩:=info_parts QdN;obtain⟨w2,hw2,hb2,hx2⟩:=Qag w s.arr 42;have HS:=Qaa (hs.below hb2);have HX:=Qaa (hx.below hb2);obtain⟨HN,HW2,HB2,HX2,HR⟩:=Qml hn hw2 hb2 hx2 hr;clear hw2 hb2 hx2 hs hx hn hr;go_enter Tryz.func179,Tryz.ntmps179;go_upto_region 1 with (fail);rw[HW2.out];go_wp2_with fail
 go_loopw [5,6] (fun ov i wr=>∃j:Nat,j≤n∧i=.int .i64 j∧Hid (wr.ownsRow w2.heap.size 76 3 ov j (Qav ((xs.take j).map s.raise)))∧Hid (Below w2.heap.size w2 wr)) (fun _ i _=>n - (intOf i).toNat);case atStart=>exact⟨0,Vo _,rfl,VQ _ _ _ _,bR⟩
 case round =>
  obtain⟨j,hj,rfl,HO,HB⟩:=hrel;obtain⟨oa,oc,rfl⟩:=slice_form HO.out;by_cases hlt:j<n
  ·have hlt':(j:Int)<(n:Int):=by omega
   have j0':(0:Int)≤(j:Int):=by omega
   obtain⟨x,hx⟩:∃x,xs[j]?=some x:=⟨_,gE (by rw[HN.out];exact hlt)⟩;obtain⟨b,o,rfl,hbl,hcl⟩:=HX.out.get (i:=j) (r:=Qar x) (by rw[Vb,hx];rfl);have hrx:=HR.out x (mG hx);have HT:=Qaa (show (xs.take (j+1)).map s.raise=(xs.take j).map s.raise++[s.raise x] by rw[take_snoc hx];simp);obtain⟨xa,xb,xd⟩:=x;obtain⟨k,hk,hkn⟩:=hrx;simp only at hk;subst hk;obtain⟨P,hP⟩:∃P,s.prices[k]?=some P:=⟨_,gE (by rw[HS.out.rn];exact hkn)⟩;obtain⟨pb,po,ep,hpb,hpc⟩:=HS.out.prices.get (i:=k) (r:=Qal P) (by rw[Vb,hP];rfl);have HV:Hid (s.raise ⟨k,xb,xd⟩=⟨k,wrap64 (P.n+1),xd⟩):=by show _=_;unfold Sta.raise;simp only;rw[(Qbe (z:=(⟨0,0⟩:Lin)) hP).2]
   have k1:(k:Int)<(s.rn:Int):=by omega
   have k0:(0:Int)≤(k:Int):=by omega
   obtain⟨rn,hrn⟩:=exq s.rn;obtain⟨pv,hpv⟩:=exq P.n;rw[hpv]at HV;rw[hrn]at k1
   have HZ:Hid (∀W,Below w2.heap.size w2 W→W.cell? ⟨w.heap.size,2,none⟩=some (.slice (some ⟨pb,po,none⟩) rn s.rc)∧W.cell? ⟨b,o+j*3,none⟩=some (.int .i64 k)∧W.cell? ⟨b,o+j*3+2,none⟩=some (.int .i64 xd)∧W.cell? ⟨pb,po+k*2+1,none⟩=some (.int .i64 pv)):=fun W hb=>by
    have h:=(hb.block _ (Qab HX2.out)).trans HX2.out;have h2:=(ac6 h).2.2.1;rw[ep,hrn]at h2;refine⟨h2,(hb.cell (p:=⟨b,o+j*3,none⟩) hbl).trans (hcl 0 _ rfl),(hb.cell (p:=⟨b,o+j*3+2,none⟩) hbl).trans (hcl 2 _ rfl),?_⟩;rw[←hpv];exact(hb.cell (p:=⟨pb,po+k*2+1,none⟩) hpb).trans (hpc 1 _ rfl)
   obtain⟨c2,a0,a2,b1⟩:=HZ.out wr HB.out;have hn1:=World.new_ne wr _ c2;have hn2:=World.new_ne wr _ a0;have hn3:=World.new_ne wr _ a2;have hn4:=World.new_ne wr _ b1;obtain⟨pw,hpw⟩:=exq (wrap64 (pv+1));have hpw2:IntKind.i64.wrap (pv+1)=pw:=by rw[←hpw];simp[IntKind.wrap,IntKind.bits,IntKind.signed,wrap64];split <;> omega
   rw[hpw]at HV;have HRow:Hid (Qav ((xs.take j).map s.raise)++[.int .i64 k,.int .i64 pw,.int .i64 xd]=Qav ((xs.take (j+1)).map s.raise)):=by show _=_;rw[HT.out,HV.out,Qbf];rfl
   have hlen:((xs.take j).map s.raise).length=j:=by rw[VG,List.length_take,HN.out];omega
   generalize (xs.take j).map s.raise=R at HO HRow hlen;clear hcl hpc hx hP hpv hrn ep hkn hpw HT HV;have HRg:=Qaa hlen;clear hlen;go_upto_region 5 with (fail);go_region_held3 (fun w'=>w'.cell? ⟨w.heap.size,2,none⟩=some (.slice (some ⟨pb,po,none⟩) rn s.rc)∧w'.cell? ⟨b,o+j*3,none⟩=some (.int .i64 k)∧w'.cell? ⟨b,o+j*3+2,none⟩=some (.int .i64 xd)∧w'.cell? ⟨pb,po+k*2+1,none⟩=some (.int .i64 pv)) (go_keep) (first | (refine step_append_lies _ (by rfl) (.tmp 13) (.tmp 36) 48 (by rfl) w2.heap.size 76 i0 (.agg #[.int .i64 0,.int .i64 0,.int .i64 0]) 3 24 Tryz.underlying48 hi hz0 hz1 hz2 rfl (by omega) (.slice oa j oc) j (Qav R) (by rfl) (by first | exact HO.out.alloc _ | exact RB.owns_kept' (HO.out.alloc _) (fun _ _=>rfl)) ⟨wr.heap.size,0,none⟩ 1 1 [.int .i64 k,.int .i64 pw,.int .i64 xd] (by rfl) rfl (World.news_of_block (hNq wr (.cells #[.int .i64 k,.int .i64 pw,.int .i64 xd] 76))) (by simp[Value.oneCell']) (by omega) (by unfold maxLen;omega) (by omega) (by have:=HB.out.size;simp;omega) _ rfl ?_;intro g' cap' w7 hown7 hgrow7 hat7 hlt7;have HO7:=Qaa hown7;have HB7:Hid (Below w2.heap.size w2 w7):=(HB.out.alloc HB.out.size _).drew.grown hgrow7 (by have:=HB.out.size;simp;omega) (fun k e=>RB.owns_low HO.out k e);obtain⟨z0,z1,z2,z3⟩:=HZ.out w7 HB7.out;clear hown7 hgrow7 hat7 hlt7) | fail);rw[HRow.out]at HO7;go_wp2;go_roundw;case rel=>exact⟨j+1,by omega,by go_num,HO7,HB7⟩
   case measure=>simp[intOf];omega
  ·have hlt':¬(j:Int)<(n:Int):=by omega
   obtain rfl:j=n:=by omega
   have HV:=Qaa HO.out;rw[Vh (by rw[HN.out];omega)]at HV;go_wp2;go_ret;exact⟨_,rfl,Qah HV.out HB2.out.size,HB2.out.trans (HB.out.mono HB2.out.size)⟩
end Go.Proofs.YtiogibfhafoapaaGreat
namespace Go.Proofs.YtiogibfhafoapaaGreat
open Go.RowKit Go.Sort
theorem Qa5 (w:World) (n lo hi:Int):Calls Tryz.prog 38 #[.int .i64 n,.int .i64 lo,.int .i64 hi] w fun e w'=>e=.returned (.bool (decide (lo≤n∧n≤hi)))∧w'=w:=by
 by_cases h1:lo≤n
 ·by_cases h2:n≤hi
  ·rw[Vq ⟨h1,h2⟩]
   go_enter Tryz.func38,Tryz.ntmps38;go_wp2;go_ret;exact⟨rfl,rfl⟩
  ·rw[Vk (fun h=>h2 h.2)]
   go_enter Tryz.func38,Tryz.ntmps38;go_wp2;go_ret;exact⟨rfl,rfl⟩
 ·rw[Vk (fun h=>h1 h.1)]
  go_enter Tryz.func38,Tryz.ntmps38;go_wp2;go_ret;exact⟨rfl,rfl⟩
theorem Qez (w:World) (n lo hi:Int):∀d os,Calls Tryz.prog 38 #[.int .i64 n,.int .i64 lo,.int .i64 hi] (grow (redrawn w d) os) fun e w''=>e=.returned (.bool (decide (lo≤n∧n≤hi)))∧∃p:Regrown,w''=grow (redrawn w p.d) p.os:=fun d os=>Calls.regrown_of ((Qa5 _ n lo hi).mono (fun _ _ ⟨a,b⟩=>⟨a,by rw[b];exact bR⟩))
theorem Qa3 (w:World):∀dq osq,∃w3,grow (redrawn w dq) osq=w3∧Below w.heap.size w w3:=fun dq osq=>⟨_,rfl,below_regrown w dq osq⟩
def Qcn (n:Nat) (x:Lin):Bool:=decide (0≤x.c∧x.c≤(n:Int) - 1) && !decide (x.n=0) && !decide (x.n < -1099511627776) && !decide (1099511627776<x.n)
def QaK (n:Nat) (xs:List Lin):Bool:=decide (xs.length≤8) && xs.all (Qcn n)
theorem Qel (w:World) (c:Cfg) (p:Option Addr) (n cap:Nat) (xs:List Lin) (hn:xs.length=n) (hcl:c.cl≤4194304) (hx:Cel w p 2 (xs.map Qal)) :
  Calls Tryz.prog 83 #[c.v,.slice p n cap] w fun e w'=>e=.returned (.bool (QaK c.cl xs))∧Below w.heap.size w w':=by
 unfold Cfg.v;obtain⟨w2,hw2,hb2,hx2⟩:=Qag w #[.int .i64 c.tills,.slice c.cp c.cl c.cc,.slice c.pp c.pl c.pc,.int .i64 c.lease,.int .i64 c.watch,.int .i64 c.beat,.int .i64 c.window,.int .i64 c.cap,.int .i64 c.flight] 34;have HX:=Qaa (hx.below hb2);obtain⟨HN,HW2,HB2,HX2⟩:=hd4 hn hw2 hb2 hx2;clear hw2 hb2 hx2 hx hn;by_cases h8:n≤8
 ·have h8':¬(8:Int)<(n:Int):=by omega
  have HR:Hid (QaK c.cl xs=xs.all (Qcn c.cl)):=by show _=_;unfold QaK;rw[HN.out,Vq h8];rfl
  rw[HR.out];obtain⟨f,hf⟩:=exq (Qcn c.cl);have HF:Hid (∀x,f x=Qcn c.cl x):=fun x=>by rw[←hf]
  rw[hf];clear hf HR;go_enter Tryz.func83,Tryz.ntmps83;go_upto_region 1 with (fail);rw[HW2.out];go_wp2_with fail
  go_loopw [5] (fun i wr=>∃j:Nat,j≤n∧i=.int .i64 j∧Hid ((xs.take j).all f=true)∧Hid (Below w2.heap.size w2 wr)) (fun i _=>n - (intOf i).toNat);case atStart=>exact⟨0,Vo _,rfl,rfl,bR⟩
  case round =>
   obtain⟨j,hj,rfl,HA,HB⟩:=hrel;by_cases hlt:j<n
   ·have hlt':(j:Int)<(n:Int):=by omega
    have j0':(0:Int)≤(j:Int):=by omega
    obtain⟨x,hx⟩:∃x,xs[j]?=some x:=⟨_,gE (by rw[HN.out];exact hlt)⟩;obtain⟨b,o,rfl,hbl,hcl'⟩:=(HX.out.below HB.out).get (i:=j) (r:=Qal x) (by rw[Vb,hx];rfl);have HI:=Qaa (show f x=false→xs.all f=false from fun h=>by rw[List.all_eq_false];exact⟨_,mG hx,by simp[h]⟩);have HTk:=Qaa (show (xs.take (j+1)).all f=((xs.take j).all f && f x) by rw[take_snoc hx,List.all_append];simp);have HfA:=Qaa (HF.out x);obtain⟨xc,xn⟩:=x;have a0:=hcl' 0 _ rfl;have a1:=hcl' 1 _ rfl;rw[Vr]at a0;obtain⟨-,c1,-,-,-,-,-,-,-⟩:=ac9 ((HB.out.block _ (Qab HX2.out)).trans HX2.out);have HWi:=Qaa (Qez wr xc 0 ((c.cl:Int) - 1));have HEnd:=Qaa (Qa3 wr);have e0:=cell_regrown a0;have e1:=cell_regrown a1;have e2:=cell_regrown c1;clear hcl' hx a0 a1 c1;obtain⟨m,hm⟩:=exq c.cl;rw[hm]at HWi e2 HfA hcl;have hcl2:m≤4194304:=hcl;clear hm;by_cases g1:0≤xc∧xc≤(m:Int) - 1
    ·rw[Vq g1]at HWi
     by_cases g2:xn=0
     ·have HFv:Hid (f ⟨xc,xn⟩=false):=by show _=_;rw[HfA.out];unfold Qcn;simp[g2]
      have g2':((xn:Int) == 0)=true:=by simp[g2]
      clear HfA g1 g2;go_upto_region 6 with (fail);refine wp_region_quiet_below (by kernel_rfl) (by kernel_rfl) ?_;repeat (go_big_quiet_step (first | (go_at_call 38;exact HWi.out _ _)))
      refine VT ?_;intro w3 hw';obtain⟨⟨dq,osq⟩,hw''⟩:=hw';obtain⟨wq,hwq,hb3⟩:=HEnd.out dq osq;rw[hwq]at hw'';rw[←hw'']at hb3;have HB3:=Qaa hb3;clear hwq hb3 hw'' wq;have HBq:Hid (Below w2.heap.size w2 w3):=HB.out.trans (HB3.out.mono HB.out.size);go_wp2;go_ret;rw[HI.out HFv.out];exact⟨rfl,HB2.out.trans (HBq.out.mono HB2.out.size)⟩
     ·have g2':((xn:Int) == 0)=false:=by simp[g2]
      by_cases g3:xn < -1099511627776
      ·have HFv:Hid (f ⟨xc,xn⟩=false):=by show _=_;rw[HfA.out];unfold Qcn;simp[g3]
       clear HfA g1 g2;go_upto_region 6 with (fail);refine wp_region_quiet_below (by kernel_rfl) (by kernel_rfl) ?_;repeat (go_big_quiet_step (first | (go_at_call 38;exact HWi.out _ _)))
       refine VT ?_;intro w3 hw';obtain⟨⟨dq,osq⟩,hw''⟩:=hw';obtain⟨wq,hwq,hb3⟩:=HEnd.out dq osq;rw[hwq]at hw'';rw[←hw'']at hb3;have HB3:=Qaa hb3;clear hwq hb3 hw'' wq;have HBq:Hid (Below w2.heap.size w2 w3):=HB.out.trans (HB3.out.mono HB.out.size);go_wp2;go_ret;rw[HI.out HFv.out];exact⟨rfl,HB2.out.trans (HBq.out.mono HB2.out.size)⟩
      ·by_cases g4:1099511627776<xn
       ·have HFv:Hid (f ⟨xc,xn⟩=false):=by show _=_;rw[HfA.out];unfold Qcn;simp[g4]
        clear HfA g1 g2;go_upto_region 6 with (fail);refine wp_region_quiet_below (by kernel_rfl) (by kernel_rfl) ?_;repeat (go_big_quiet_step (first | (go_at_call 38;exact HWi.out _ _)))
        refine VT ?_;intro w3 hw';obtain⟨⟨dq,osq⟩,hw''⟩:=hw';obtain⟨wq,hwq,hb3⟩:=HEnd.out dq osq;rw[hwq]at hw'';rw[←hw'']at hb3;have HB3:=Qaa hb3;clear hwq hb3 hw'' wq;have HBq:Hid (Below w2.heap.size w2 w3):=HB.out.trans (HB3.out.mono HB.out.size);go_wp2;go_ret;rw[HI.out HFv.out];exact⟨rfl,HB2.out.trans (HBq.out.mono HB2.out.size)⟩
       ·have HFv:Hid (f ⟨xc,xn⟩=true):=by show _=_;rw[HfA.out];unfold Qcn;simp[g1,g2,g3,g4]
        clear HfA g1 g2;go_upto_region 6 with (fail);refine wp_region_quiet_below (by kernel_rfl) (by kernel_rfl) ?_;repeat (go_big_quiet_step (first | (go_at_call 38;exact HWi.out _ _)))
        refine VT ?_;intro w3 hw';obtain⟨⟨dq,osq⟩,hw''⟩:=hw';obtain⟨wq,hwq,hb3⟩:=HEnd.out dq osq;rw[hwq]at hw'';rw[←hw'']at hb3;have HB3:=Qaa hb3;clear hwq hb3 hw'' wq;have HBq:Hid (Below w2.heap.size w2 w3):=HB.out.trans (HB3.out.mono HB.out.size);go_wp2;go_roundw;case rel=>exact⟨j+1,by omega,by go_num,by show _=_;rw[HTk.out,HA.out,HFv.out];rfl,HBq⟩
        case measure=>simp[intOf];omega
    ·rw[Vk g1]at HWi
     have HFv:Hid (f ⟨xc,xn⟩=false):=by show _=_;rw[HfA.out];unfold Qcn;rw[Vk g1];rfl
     clear HfA g1;go_upto_region 6 with (fail);refine wp_region_quiet_below (by kernel_rfl) (by kernel_rfl) ?_;repeat (go_big_quiet_step (first | (go_at_call 38;exact HWi.out _ _)))
     refine VT ?_;intro w3 hw';obtain⟨⟨dq,osq⟩,hw''⟩:=hw';obtain⟨wq,hwq,hb3⟩:=HEnd.out dq osq;rw[hwq]at hw'';rw[←hw'']at hb3;have HB3:=Qaa hb3;clear hwq hb3 hw'' wq;have HBq:Hid (Below w2.heap.size w2 w3):=HB.out.trans (HB3.out.mono HB.out.size);go_wp2;go_ret;rw[HI.out HFv.out];exact⟨rfl,HB2.out.trans (HBq.out.mono HB2.out.size)⟩
   ·have hlt':¬(j:Int)<(n:Int):=by omega
    have HV:xs.all f=true:=by have h:=HA.out;rw[Vh (by rw[HN.out];omega)]at h;exact h
    go_wp2;go_ret;try rw[HV]
    exact⟨rfl,HB2.out.trans (HB.out.mono HB2.out.size)⟩
 ·have h8':(8:Int)<(n:Int):=by omega
  have HR:Hid (QaK c.cl xs=false):=by show _=_;unfold QaK;rw[HN.out,Vk h8];rfl
  rw[HR.out];go_enter Tryz.func83,Tryz.ntmps83;go_upto_region 1 with (fail);rw[HW2.out];go_wp2;go_ret;exact⟨rfl,HB2.out⟩
end Go.Proofs.YtiogibfhafoapaaGreat
namespace Go.Proofs.YtiogibfhafoapaaGreat
open Go.RowKit
abbrev qC (c:Cfg):Array Value:=#[.int .i64 c.tills,.slice c.cp c.cl c.cc,.slice c.pp c.pl c.pc,.int .i64 c.lease,.int .i64 c.watch,.int .i64 c.beat,.int .i64 c.window,.int .i64 c.cap,.int .i64 c.flight]
end Go.Proofs.YtiogibfhafoapaaGreat
namespace Go.Proofs.YtiogibfhafoapaaGreat
open Go.RowKit Go.Sort
def Qdb (cn pn:Nat) (x:Tri):Bool :=
 if x.a=1∨x.a=2∨x.a=3 then decide (0≤x.b∧x.b≤(cn:Int) - 1) && !decide (x.n < -9007199254740992) && !decide (9007199254740992<x.n)
 else if x.a=4 then decide (0≤x.b∧x.b≤(pn:Int) - 1) && !decide (x.n<0) && !decide (1099511627776<x.n)
 else false
def QbB (cn pn:Nat) (xs:List Tri):Bool:=decide (xs.length≤4) && xs.all (Qdb cn pn)
theorem Qgn (w:World) (c:Cfg) (p:Option Addr) (n cap:Nat) (xs:List Tri) (hn:xs.length=n) (hcl:c.cl≤4194304) (hpl:c.pl≤4194304) (hx:Cel w p 3 (xs.map Qar)) :
  Calls Tryz.prog 84 #[c.v,.slice p n cap] w fun e w'=>e=.returned (.bool (QbB c.cl c.pl xs))∧Below w.heap.size w w':=by
 unfold Cfg.v;obtain⟨w2,hw2,hb2,hx2⟩:=Qag w (qC c) 34;have HX:=Qaa (hx.below hb2);obtain⟨HN,HW2,HB2,HX2⟩:=hd4 hn hw2 hb2 hx2;clear hw2 hb2 hx2 hx hn;by_cases h8:n≤4
 ·have h8':¬(4:Int)<(n:Int):=by omega
  have HR:Hid (QbB c.cl c.pl xs=xs.all (Qdb c.cl c.pl)):=by show _=_;unfold QbB;rw[HN.out,Vq h8];rfl
  rw[HR.out];obtain⟨f,hf⟩:=exq (Qdb c.cl c.pl);have HF:Hid (∀x,f x=Qdb c.cl c.pl x):=fun x=>by rw[←hf]
  rw[hf];clear hf HR;go_enter Tryz.func84,Tryz.ntmps84;go_upto_region 1 with (fail);rw[HW2.out];go_wp2_with fail
  go_loopw [5] (fun i wr=>∃j:Nat,j≤n∧i=.int .i64 j∧Hid ((xs.take j).all f=true)∧Hid (Below w2.heap.size w2 wr)) (fun i _=>n - (intOf i).toNat);case atStart=>exact⟨0,Vo _,rfl,rfl,bR⟩
  case round =>
   obtain⟨j,hj,rfl,HA,HB⟩:=hrel;by_cases hlt:j<n
   ·have hlt':(j:Int)<(n:Int):=by omega
    have j0':(0:Int)≤(j:Int):=by omega
    obtain⟨x,hx⟩:∃x,xs[j]?=some x:=⟨_,gE (by rw[HN.out];exact hlt)⟩;obtain⟨b,o,rfl,hbl,hcl'⟩:=(HX.out.below HB.out).get (i:=j) (r:=Qar x) (by rw[Vb,hx];rfl);have HI:=Qaa (show f x=false→xs.all f=false from fun h=>by rw[List.all_eq_false];exact⟨_,mG hx,by simp[h]⟩);have HTk:=Qaa (show (xs.take (j+1)).all f=((xs.take j).all f && f x) by rw[take_snoc hx,List.all_append];simp);have HfA:=Qaa (HF.out x);obtain⟨xa,xb,xn⟩:=x;have a0:=hcl' 0 _ rfl;have a1:=hcl' 1 _ rfl;have a2:=hcl' 2 _ rfl;rw[Vr]at a0;obtain⟨w6,hw6,hb6,hx6⟩:=Qag wr #[.int .i64 xa,.int .i64 xb,.int .i64 xn] 73;have HB6:=Qaa (HB.out.trans (hb6.mono HB.out.size));obtain⟨y0,y1,y2⟩:=ac3 hx6;obtain⟨-,c1,c2,-,-,-,-,-,-⟩:=ac9 ((HB6.out.block _ (Qab HX2.out)).trans HX2.out);have HWc:=Qaa (fun W=>Qa5 W xb 0 ((c.cl:Int) - 1));have HWp:=Qaa (fun W=>Qa5 W xb 0 ((c.pl:Int) - 1));have HW6:=Qaa hw6;clear hcl' hx hw6 hb6 hx6;obtain⟨m,hm⟩:=exq c.cl;obtain⟨q,hq⟩:=exq c.pl;rw[hm]at HWc c1 HfA;rw[hq]at HWp c2 HfA;have hcl2:m≤4194304:=by rw[←hm];exact hcl
    have hpl2:q≤4194304:=by rw[←hq];exact hpl
    clear hm hq;go_upto_region 7 with (fail);rw[HW6.out];clear HW6 a0 a1 a2;by_cases k1:xa=1
    ·subst k1
     have HfB:Hid (f ⟨1,xb,xn⟩=(decide (0≤xb∧xb≤(m:Int) - 1) && !decide (xn < -9007199254740992) && !decide (9007199254740992<xn))):=by show _=_;rw[HfA.out];rfl
     by_cases g1:0≤xb∧xb≤(m:Int) - 1
     ·rw[Vq g1]at HWc HfB
      by_cases g3:xn < -9007199254740992
      ·have HFv:=Qaa HfB.out
       rw[Vq g3]at HFv;clear HfA HfB g1;go_wp2_with (first | (go_at_call 38;refine(HWc.out _).mono ?_;rintro e w9 ⟨rfl,h9⟩;rw[h9];clear h9 w9) | fail)
       go_ret;rw[HI.out HFv.out];exact⟨rfl,HB2.out.trans (HB6.out.mono HB2.out.size)⟩
      ·by_cases g4:9007199254740992<xn
       ·have HFv:=Qaa HfB.out
        rw[Vk g3,Vq g4]at HFv;clear HfA HfB g1;go_wp2_with (first | (go_at_call 38;refine(HWc.out _).mono ?_;rintro e w9 ⟨rfl,h9⟩;rw[h9];clear h9 w9) | fail)
        go_ret;rw[HI.out HFv.out];exact⟨rfl,HB2.out.trans (HB6.out.mono HB2.out.size)⟩
       ·have HFv:=Qaa HfB.out
        rw[Vk g3,Vk g4]at HFv;clear HfA HfB g1;go_wp2_with (first | (go_at_call 38;refine(HWc.out _).mono ?_;rintro e w9 ⟨rfl,h9⟩;rw[h9];clear h9 w9) | fail)
        go_roundw;case rel=>exact⟨j+1,by omega,by go_num,by show _=_;rw[HTk.out,HA.out,HFv.out];rfl,HB6⟩
        case measure=>simp[intOf];omega
     ·rw[Vk g1]at HWc HfB
      have HFv:=Qaa HfB.out;clear HfA HfB g1;go_wp2_with (first | (go_at_call 38;refine(HWc.out _).mono ?_;rintro e w9 ⟨rfl,h9⟩;rw[h9];clear h9 w9) | fail)
      go_ret;rw[HI.out HFv.out];exact⟨rfl,HB2.out.trans (HB6.out.mono HB2.out.size)⟩
    ·have k1':((xa:Int) == 1)=false:=by simp[k1]
     by_cases k2:xa=2
     ·subst k2
      have HfB:Hid (f ⟨2,xb,xn⟩=(decide (0≤xb∧xb≤(m:Int) - 1) && !decide (xn < -9007199254740992) && !decide (9007199254740992<xn))):=by show _=_;rw[HfA.out];rfl
      by_cases g1:0≤xb∧xb≤(m:Int) - 1
      ·rw[Vq g1]at HWc HfB
       by_cases g3:xn < -9007199254740992
       ·have HFv:=Qaa HfB.out
        rw[Vq g3]at HFv;clear HfA HfB g1;go_wp2_with (first | (go_at_call 38;refine(HWc.out _).mono ?_;rintro e w9 ⟨rfl,h9⟩;rw[h9];clear h9 w9) | fail)
        go_ret;rw[HI.out HFv.out];exact⟨rfl,HB2.out.trans (HB6.out.mono HB2.out.size)⟩
       ·by_cases g4:9007199254740992<xn
        ·have HFv:=Qaa HfB.out
         rw[Vk g3,Vq g4]at HFv;clear HfA HfB g1;go_wp2_with (first | (go_at_call 38;refine(HWc.out _).mono ?_;rintro e w9 ⟨rfl,h9⟩;rw[h9];clear h9 w9) | fail)
         go_ret;rw[HI.out HFv.out];exact⟨rfl,HB2.out.trans (HB6.out.mono HB2.out.size)⟩
        ·have HFv:=Qaa HfB.out
         rw[Vk g3,Vk g4]at HFv;clear HfA HfB g1;go_wp2_with (first | (go_at_call 38;refine(HWc.out _).mono ?_;rintro e w9 ⟨rfl,h9⟩;rw[h9];clear h9 w9) | fail)
         go_roundw;case rel=>exact⟨j+1,by omega,by go_num,by show _=_;rw[HTk.out,HA.out,HFv.out];rfl,HB6⟩
         case measure=>simp[intOf];omega
      ·rw[Vk g1]at HWc HfB
       have HFv:=Qaa HfB.out;clear HfA HfB g1;go_wp2_with (first | (go_at_call 38;refine(HWc.out _).mono ?_;rintro e w9 ⟨rfl,h9⟩;rw[h9];clear h9 w9) | fail)
       go_ret;rw[HI.out HFv.out];exact⟨rfl,HB2.out.trans (HB6.out.mono HB2.out.size)⟩
     ·have k2':((xa:Int) == 2)=false:=by simp[k2]
      by_cases k3:xa=3
      ·subst k3
       have HfB:Hid (f ⟨3,xb,xn⟩=(decide (0≤xb∧xb≤(m:Int) - 1) && !decide (xn < -9007199254740992) && !decide (9007199254740992<xn))):=by show _=_;rw[HfA.out];rfl
       by_cases g1:0≤xb∧xb≤(m:Int) - 1
       ·rw[Vq g1]at HWc HfB
        by_cases g3:xn < -9007199254740992
        ·have HFv:=Qaa HfB.out
         rw[Vq g3]at HFv;clear HfA HfB g1;go_wp2_with (first | (go_at_call 38;refine(HWc.out _).mono ?_;rintro e w9 ⟨rfl,h9⟩;rw[h9];clear h9 w9) | fail)
         go_ret;rw[HI.out HFv.out];exact⟨rfl,HB2.out.trans (HB6.out.mono HB2.out.size)⟩
        ·by_cases g4:9007199254740992<xn
         ·have HFv:=Qaa HfB.out
          rw[Vk g3,Vq g4]at HFv;clear HfA HfB g1;go_wp2_with (first | (go_at_call 38;refine(HWc.out _).mono ?_;rintro e w9 ⟨rfl,h9⟩;rw[h9];clear h9 w9) | fail)
          go_ret;rw[HI.out HFv.out];exact⟨rfl,HB2.out.trans (HB6.out.mono HB2.out.size)⟩
         ·have HFv:=Qaa HfB.out
          rw[Vk g3,Vk g4]at HFv;clear HfA HfB g1;go_wp2_with (first | (go_at_call 38;refine(HWc.out _).mono ?_;rintro e w9 ⟨rfl,h9⟩;rw[h9];clear h9 w9) | fail)
          go_roundw;case rel=>exact⟨j+1,by omega,by go_num,by show _=_;rw[HTk.out,HA.out,HFv.out];rfl,HB6⟩
          case measure=>simp[intOf];omega
       ·rw[Vk g1]at HWc HfB
        have HFv:=Qaa HfB.out;clear HfA HfB g1;go_wp2_with (first | (go_at_call 38;refine(HWc.out _).mono ?_;rintro e w9 ⟨rfl,h9⟩;rw[h9];clear h9 w9) | fail)
        go_ret;rw[HI.out HFv.out];exact⟨rfl,HB2.out.trans (HB6.out.mono HB2.out.size)⟩
      ·have k3':((xa:Int) == 3)=false:=by simp[k3]
       by_cases k4:xa=4
       ·subst k4
        have HfB:Hid (f ⟨4,xb,xn⟩=(decide (0≤xb∧xb≤(q:Int) - 1) && !decide (xn<0) && !decide (1099511627776<xn))):=by show _=_;rw[HfA.out];rfl
        by_cases g1:0≤xb∧xb≤(q:Int) - 1
        ·rw[Vq g1]at HWp HfB
         by_cases g3:xn<0
         ·have HFv:=Qaa HfB.out
          rw[Vq g3]at HFv;clear HfA HfB g1;go_wp2_with (first | (go_at_call 38;refine(HWp.out _).mono ?_;rintro e w9 ⟨rfl,h9⟩;rw[h9];clear h9 w9) | fail)
          go_ret;rw[HI.out HFv.out];exact⟨rfl,HB2.out.trans (HB6.out.mono HB2.out.size)⟩
         ·by_cases g4:1099511627776<xn
          ·have HFv:=Qaa HfB.out
           rw[Vk g3,Vq g4]at HFv;clear HfA HfB g1;go_wp2_with (first | (go_at_call 38;refine(HWp.out _).mono ?_;rintro e w9 ⟨rfl,h9⟩;rw[h9];clear h9 w9) | fail)
           go_ret;rw[HI.out HFv.out];exact⟨rfl,HB2.out.trans (HB6.out.mono HB2.out.size)⟩
          ·have HFv:=Qaa HfB.out
           rw[Vk g3,Vk g4]at HFv;clear HfA HfB g1;go_wp2_with (first | (go_at_call 38;refine(HWp.out _).mono ?_;rintro e w9 ⟨rfl,h9⟩;rw[h9];clear h9 w9) | fail)
           go_roundw;case rel=>exact⟨j+1,by omega,by go_num,by show _=_;rw[HTk.out,HA.out,HFv.out];rfl,HB6⟩
           case measure=>simp[intOf];omega
        ·rw[Vk g1]at HWp HfB
         have HFv:=Qaa HfB.out;clear HfA HfB g1;go_wp2_with (first | (go_at_call 38;refine(HWp.out _).mono ?_;rintro e w9 ⟨rfl,h9⟩;rw[h9];clear h9 w9) | fail)
         go_ret;rw[HI.out HFv.out];exact⟨rfl,HB2.out.trans (HB6.out.mono HB2.out.size)⟩
       ·have k4':((xa:Int) == 4)=false:=by simp[k4]
        have HFv:Hid (f ⟨xa,xb,xn⟩=false):=by show _=_;rw[HfA.out];unfold Qdb;simp[k1,k2,k3,k4]
        clear HfA k1 k2 k3 k4;go_wp2;go_ret;rw[HI.out HFv.out];exact⟨rfl,HB2.out.trans (HB6.out.mono HB2.out.size)⟩
   ·have hlt':¬(j:Int)<(n:Int):=by omega
    have HV:xs.all f=true:=by have h:=HA.out;rw[Vh (by rw[HN.out];omega)]at h;exact h
    go_wp2;go_ret;try rw[HV]
    exact⟨rfl,HB2.out.trans (HB.out.mono HB2.out.size)⟩
 ·have h8':(4:Int)<(n:Int):=by omega
  have HR:Hid (QbB c.cl c.pl xs=false):=by show _=_;unfold QbB;rw[HN.out,Vk h8];rfl
  rw[HR.out];go_enter Tryz.func84,Tryz.ntmps84;go_upto_region 1 with (fail);rw[HW2.out];go_wp2;go_ret;exact⟨rfl,HB2.out⟩
def Qc5 {α:Type} (ok:List α→α→Bool) (l:List α):Bool:=(l.foldl (fun (p:List α × Bool) x=>(p.1++[x],p.2 && ok p.1 x)) ([],true)).2
theorem QgN {α:Type} (ok:List α→α→Bool):∀(l:List α) (p:List α × Bool),(l.foldl (fun (p:List α × Bool) x=>(p.1++[x],p.2 && ok p.1 x)) p).1=p.1++l
 | [],p=>by simp
 | x :: l,p=>by rw[VI,QgN ok l];simp
theorem Qct {α:Type} (ok:List α→α→Bool) (l:List α) (x:α):Qc5 ok (l++[x])=(Qc5 ok l && ok l x):=by
 unfold Qc5;rw[List.foldl_append];simp only[VI,List.foldl_nil];rw[QgN];rfl
theorem Qe5 {α:Type} (ok:List α→α→Bool):∀(l:List α) (p:List α × Bool),p.2=false→(l.foldl (fun (p:List α × Bool) x=>(p.1++[x],p.2 && ok p.1 x)) p).2=false
 | [],p,h=>h
 | x :: l,p,h=>by rw[VI];exact Qe5 ok l _ (by simp[h])
theorem Qhb {α:Type} (ok:List α→α→Bool) (l m:List α) (h:Qc5 ok l=false):Qc5 ok (l++m)=false:=by
 unfold Qc5 at h ⊢;rw[List.foldl_append];exact Qe5 ok m _ h
theorem QeI {α:Type} {ok:List α→α→Bool} {xs:List α} {j:Nat} {x:α} (hx:xs[j]?=some x) (h:ok (xs.take j) x=false):Qc5 ok xs=false:=by
 have e:Qc5 ok (xs.take (j+1))=false:=by rw[take_snoc hx,Qct,h,Bool.and_false]
 have:=Qhb ok _ (xs.drop (j+1)) e;rwa [List.take_append_drop]at this
theorem QjV {α:Type} {ok:List α→α→Bool} {xs:List α} (h:Qc5 ok xs=true) {j:Nat} {x:α} (hx:xs[j]?=some x):ok (xs.take j) x=true:=by
 cases hk:ok (xs.take j) x with
 | true=>rfl
 | false=>rw[QeI hx hk]at h;cases h
def QjA (pn:Nat) (lo hi:Int) (x:Tri):Bool:=decide (0≤x.a∧x.a≤(pn:Int) - 1) && !decide (x.n<0) && !decide (1099511627776<x.n) && decide (lo≤x.b∧x.b≤hi)
def QcW (l:List Tri) (x:Tri):Bool:=l.all (fun y=>!decide (y.a=x.a))
def QbP (pn:Nat) (lo hi:Int) (xs:List Tri):Bool:=decide (xs.length≤4) && Qc5 (fun l x=>QjA pn lo hi x && QcW l x) xs
theorem QeS (w:World) (c:Cfg) (p:Option Addr) (n cap:Nat) (xs:List Tri) (lo hi:Int) (hn:xs.length=n) (hpl:c.pl≤4194304) (hx:Cel w p 3 (xs.map Qar)) :
  Calls Tryz.prog 85 #[c.v,.slice p n cap,.int .i64 lo,.int .i64 hi] w fun e w'=>e=.returned (.bool (QbP c.pl lo hi xs))∧Below w.heap.size w w':=by
 unfold Cfg.v;obtain⟨w2,hw2,hb2,hx2⟩:=Qag w (qC c) 34;have HX:=Qaa (hx.below hb2);obtain⟨HN,HW2,HB2,HX2⟩:=hd4 hn hw2 hb2 hx2;clear hw2 hb2 hx2 hx hn;by_cases h8:n≤4
 ·have h8':¬(4:Int)<(n:Int):=by omega
  obtain⟨ok,hok⟩:∃ok:List Tri→Tri→Bool,(fun l x=>QjA c.pl lo hi x && QcW l x)=ok:=⟨_,rfl⟩;have HOk:Hid (∀l x,ok l x=(QjA c.pl lo hi x && QcW l x)):=fun l x=>by rw[←hok]
  have HR:Hid (QbP c.pl lo hi xs=Qc5 ok xs):=by show _=_;unfold QbP;rw[HN.out,Vq h8,hok];rfl
  rw[HR.out];clear hok HR;go_enter Tryz.func85,Tryz.ntmps85;go_upto_region 1 with (fail);rw[HW2.out];go_wp2_with fail
  go_loopw [9] (fun i wr=>∃j:Nat,j≤n∧i=.int .i64 j∧Hid (Qc5 ok (xs.take j)=true)∧Hid (Below w2.heap.size w2 wr)) (fun i _=>n - (intOf i).toNat);case atStart=>exact⟨0,Vo _,rfl,rfl,bR⟩
  case round =>
   obtain⟨j,hj,rfl,HA,HB⟩:=hrel;by_cases hlt:j<n
   ·have hlt':(j:Int)<(n:Int):=by omega
    have j0':(0:Int)≤(j:Int):=by omega
    obtain⟨x,hx⟩:∃x,xs[j]?=some x:=⟨_,gE (by rw[HN.out];exact hlt)⟩;obtain⟨b,o,rfl,hbl,hcl'⟩:=HX.out.get (i:=j) (r:=Qar x) (by rw[Vb,hx];rfl);have HI:=Qaa (show ok (xs.take j) x=false→Qc5 ok xs=false from fun h=>QeI hx h);have HTk:=Qaa (show Qc5 ok (xs.take (j+1))=(Qc5 ok (xs.take j) && ok (xs.take j) x) by rw[take_snoc hx,Qct]);have HfA:=Qaa (HOk.out (xs.take j) x);have HXx:=Qaa hx;obtain⟨xa,xb,xn⟩:=x;have HZ:Hid (∀W,Below w2.heap.size w2 W→W.cell? ⟨b,o+j*3,none⟩=some (.int .i64 xa)∧W.cell? ⟨b,o+j*3+1,none⟩=some (.int .i64 xb)∧W.cell? ⟨b,o+j*3+2,none⟩=some (.int .i64 xn)):=fun W hb=>⟨(hb.cell (p:=⟨b,o+j*3,none⟩) hbl).trans (hcl' 0 _ rfl),(hb.cell (p:=⟨b,o+j*3+1,none⟩) hbl).trans (hcl' 1 _ rfl),(hb.cell (p:=⟨b,o+j*3+2,none⟩) hbl).trans (hcl' 2 _ rfl)⟩
    obtain⟨a0,a1,a2⟩:=HZ.out wr HB.out;obtain⟨-,-,c2,-,-,-,-,-,-⟩:=ac9 ((HB.out.block _ (Qab HX2.out)).trans HX2.out);have HEnd:=Qaa (Qa3 wr);have e0:=cell_regrown a0;have e1:=cell_regrown a1;have e2:=cell_regrown a2;have e3:=cell_regrown c2;obtain⟨q,hq⟩:=exq c.pl;have HWa:=Qaa (Qez wr xa 0 ((q:Int) - 1));have HWb:=Qaa (Qez wr xb lo hi);rw[hq]at e3 HfA;have hpl2:q≤4194304:=by rw[←hq];exact hpl
    have HfB:Hid (ok (xs.take j) ⟨xa,xb,xn⟩=(decide (0≤xa∧xa≤(q:Int) - 1) && !decide (xn<0) && !decide (1099511627776<xn) && decide (lo≤xb∧xb≤hi) && QcW (xs.take j) ⟨xa,xb,xn⟩)):=HfA.out;clear hcl' hx a0 a1 a2 c2 hq HfA;by_cases g1:0≤xa∧xa≤(q:Int) - 1
    ·rw[Vq g1]at HWa HfB
     by_cases g2:xn<0
     ·have HFv:=Qaa HfB.out
      rw[Vq g2]at HFv;simp only[Bool.not_true,Bool.and_false,Bool.false_and]at HFv;clear HfB g1;go_upto_region 6 with (fail);refine wp_region_quiet_below (by kernel_rfl) (by kernel_rfl) ?_;repeat (go_big_quiet_step (first | (go_at_call 38;first | (with_reducible exact HWa.out _ _) | exact HWb.out _ _)))
      refine VT ?_;intro w3 hw';obtain⟨⟨dq,osq⟩,hw''⟩:=hw';obtain⟨wq,hwq,hb3⟩:=HEnd.out dq osq;rw[hwq]at hw'';rw[←hw'']at hb3;have HB3:=Qaa hb3;clear hwq hb3 hw'' wq;have HBq:Hid (Below w2.heap.size w2 w3):=HB.out.trans (HB3.out.mono HB.out.size);go_wp2;go_ret;rw[HI.out HFv.out];exact⟨rfl,HB2.out.trans (HBq.out.mono HB2.out.size)⟩
     ·by_cases g3:1099511627776<xn
      ·have HFv:=Qaa HfB.out
       rw[Vk g2,Vq g3]at HFv;simp only[Bool.not_true,Bool.not_false,Bool.and_true,Bool.and_false,Bool.false_and]at HFv;clear HfB g1;go_upto_region 6 with (fail);refine wp_region_quiet_below (by kernel_rfl) (by kernel_rfl) ?_;repeat (go_big_quiet_step (first | (go_at_call 38;first | (with_reducible exact HWa.out _ _) | exact HWb.out _ _)))
       refine VT ?_;intro w3 hw';obtain⟨⟨dq,osq⟩,hw''⟩:=hw';obtain⟨wq,hwq,hb3⟩:=HEnd.out dq osq;rw[hwq]at hw'';rw[←hw'']at hb3;have HB3:=Qaa hb3;clear hwq hb3 hw'' wq;have HBq:Hid (Below w2.heap.size w2 w3):=HB.out.trans (HB3.out.mono HB.out.size);go_wp2;go_ret;rw[HI.out HFv.out];exact⟨rfl,HB2.out.trans (HBq.out.mono HB2.out.size)⟩
      ·by_cases g4:lo≤xb∧xb≤hi
       ·rw[Vq g4]at HWb HfB
        have HFv:Hid (ok (xs.take j) ⟨xa,xb,xn⟩=QcW (xs.take j) ⟨xa,xb,xn⟩):=by show _=_;rw[HfB.out,Vk g2,Vk g3];simp
        clear HfB g1 g4;go_upto_region 6 with (fail);refine wp_region_quiet_below (by kernel_rfl) (by kernel_rfl) ?_;repeat (go_big_quiet_step (first | (go_at_call 38;first | (with_reducible exact HWa.out _ _) | exact HWb.out _ _)))
        refine VT ?_;intro w3 hw';obtain⟨⟨dq,osq⟩,hw''⟩:=hw';obtain⟨wq,hwq,hb3⟩:=HEnd.out dq osq;rw[hwq]at hw'';rw[←hw'']at hb3;have HB3:=Qaa hb3;clear hwq hb3 hw'' wq;have HBq:Hid (Below w2.heap.size w2 w3):=HB.out.trans (HB3.out.mono HB.out.size);obtain⟨f,hf⟩:∃f:Tri→Bool,(fun y:Tri=>!decide (y.a=xa))=f:=⟨_,rfl⟩;have HFf:Hid (∀y,f y = !decide (y.a=xa)):=fun y=>by rw[←hf]
        have HFr:Hid (QcW (xs.take j) ⟨xa,xb,xn⟩=(xs.take j).all f):=by show _=_;unfold QcW;rw[←hf]
        clear hf e0 e1 e2 e3;go_upto_region 8 with (fail);go_wp2_with fail
        go_loopw [10] (fun i wr=>∃k:Nat,k≤j∧i=.int .i64 k∧Hid ((xs.take k).all f=true)∧Hid (Below w2.heap.size w2 wr)) (fun i _=>j - (intOf i).toNat);case atStart=>exact⟨0,Vo _,rfl,rfl,HBq⟩
        case round =>
         obtain⟨k,hk,rfl,HAk,HBk⟩:=hrel;by_cases hkj:k<j
         ·have hkj':(k:Int)<(j:Int):=by omega
          have hkn':(k:Int)<(n:Int):=by omega
          have k0':(0:Int)≤(k:Int):=by omega
          obtain⟨y,hy⟩:∃y,xs[k]?=some y:=⟨_,gE (by rw[HN.out];omega)⟩;obtain⟨b',o',eb,hbl',hcy⟩:=HX.out.get (i:=k) (r:=Qar y) (by rw[Vb,hy];rfl);cases eb;have d0:wr.cell? ⟨b,o+k*3,none⟩=some (.int .i64 y.a):=(HBk.out.cell (p:=⟨b,o+k*3,none⟩) hbl).trans (hcy 0 _ rfl);obtain⟨a0,-,-⟩:=HZ.out wr HBk.out;have HBd:Hid (Below w2.heap.size w2 wr.drew):=HBk.out.drew;have HTy:=Qaa (show (xs.take (k+1)).all f=((xs.take k).all f && f y) by rw[take_snoc hy,List.all_append];simp);have HIy:=Qaa (show f y=false→(xs.take j).all f=false from fun h=>by rw[List.all_eq_false];exact⟨y,mG (i:=k) (by rw[List.getElem?_take_of_lt hkj];exact hy),by simp[h]⟩);have HFy:=Qaa (HFf.out y);obtain⟨ya,yb,yn⟩:=y;simp only at d0 HFy;clear hcy hy;by_cases hv:ya=xa
          ·have hv':((ya:Int) == xa)=true:=by simp[hv]
           have hfy:f ⟨ya,yb,yn⟩=false:=by rw[HFy.out,Vq hv];rfl
           have HV:=Qaa (HI.out (by rw[HFv.out,HFr.out];exact HIy.out hfy));clear hfy hv HFy;go_upto_region 11 with (fail);go_region_held3 (fun w'=>w'.cell? ⟨b,o+j*3,none⟩=some (.int .i64 xa)∧w'.cell? ⟨b,o+k*3,none⟩=some (.int .i64 ya)) (go_keep) (first | fail);go_wp2;go_ret;rw[HV.out];exact⟨rfl,HB2.out.trans (HBd.out.mono HB2.out.size)⟩
          ·have hv':((ya:Int) == xa)=false:=by simp[hv]
           have hfy:f ⟨ya,yb,yn⟩=true:=by rw[HFy.out,Vk hv];rfl
           have HV:=Qaa hfy;clear hfy HFy;go_upto_region 11 with (fail);go_region_held3 (fun w'=>w'.cell? ⟨b,o+j*3,none⟩=some (.int .i64 xa)∧w'.cell? ⟨b,o+k*3,none⟩=some (.int .i64 ya)) (go_keep) (first | fail);go_wp2;go_roundw;case rel=>exact⟨k+1,by omega,by go_num,by show _=_;rw[HTy.out,HAk.out,HV.out];rfl,HBd⟩
           case measure=>simp[intOf];omega
         ·have hkj':¬(k:Int)<(j:Int):=by omega
          obtain rfl:k=j:=by omega
          have HV:Hid (Qc5 ok (xs.take (k+1))=true):=by show _=_;rw[HTk.out,HA.out,HFv.out,HFr.out,HAk.out];rfl
          go_wp2;go_roundw;case rel=>exact⟨k+1,by omega,by go_num,HV,HBk⟩
          case measure=>simp[intOf];omega
       ·rw[Vk g4]at HWb
        have HFv:=Qaa HfB.out;rw[Vk g4]at HFv;simp only[Bool.and_false,Bool.false_and]at HFv;clear HfB g1 g4;go_upto_region 6 with (fail);refine wp_region_quiet_below (by kernel_rfl) (by kernel_rfl) ?_;repeat (go_big_quiet_step (first | (go_at_call 38;first | (with_reducible exact HWa.out _ _) | exact HWb.out _ _)))
        refine VT ?_;intro w3 hw';obtain⟨⟨dq,osq⟩,hw''⟩:=hw';obtain⟨wq,hwq,hb3⟩:=HEnd.out dq osq;rw[hwq]at hw'';rw[←hw'']at hb3;have HB3:=Qaa hb3;clear hwq hb3 hw'' wq;have HBq:Hid (Below w2.heap.size w2 w3):=HB.out.trans (HB3.out.mono HB.out.size);go_wp2;go_ret;rw[HI.out HFv.out];exact⟨rfl,HB2.out.trans (HBq.out.mono HB2.out.size)⟩
    ·rw[Vk g1]at HWa
     have HFv:=Qaa HfB.out;rw[Vk g1]at HFv;simp only[Bool.false_and]at HFv;clear HfB g1;go_upto_region 6 with (fail);refine wp_region_quiet_below (by kernel_rfl) (by kernel_rfl) ?_;repeat (go_big_quiet_step (first | (go_at_call 38;first | (with_reducible exact HWa.out _ _) | exact HWb.out _ _)))
     refine VT ?_;intro w3 hw';obtain⟨⟨dq,osq⟩,hw''⟩:=hw';obtain⟨wq,hwq,hb3⟩:=HEnd.out dq osq;rw[hwq]at hw'';rw[←hw'']at hb3;have HB3:=Qaa hb3;clear hwq hb3 hw'' wq;have HBq:Hid (Below w2.heap.size w2 w3):=HB.out.trans (HB3.out.mono HB.out.size);go_wp2;go_ret;rw[HI.out HFv.out];exact⟨rfl,HB2.out.trans (HBq.out.mono HB2.out.size)⟩
   ·have hlt':¬(j:Int)<(n:Int):=by omega
    have HV:Qc5 ok xs=true:=by have h:=HA.out;rw[Vh (by rw[HN.out];omega)]at h;exact h
    go_wp2;go_ret;try rw[HV]
    exact⟨rfl,HB2.out.trans (HB.out.mono HB2.out.size)⟩
 ·have h8':(4:Int)<(n:Int):=by omega
  have HR:Hid (QbP c.pl lo hi xs=false):=by show _=_;unfold QbP;rw[HN.out,Vk h8];rfl
  rw[HR.out];go_enter Tryz.func85,Tryz.ntmps85;go_upto_region 1 with (fail);rw[HW2.out];go_wp2;go_ret;exact⟨rfl,HB2.out⟩
def QaX (cn:Nat) (most:Int) (x:Tri):Bool:=decide (0≤x.a∧x.a≤(cn:Int) - 1) && decide (0≤x.b∧x.b≤1) && decide (1≤x.n) && decide (x.n≤most)
def QkU (l:List Tri) (x:Tri):Bool:=match l.getLast? with
 | none=>true
 | some y=>!decide (2*x.a+x.b≤2*y.a+y.b)
def Qcg (cn:Nat) (xs:List Tri):Bool:=Qc5 (fun l x=>QaX cn 18014398509481984 x && QkU l x) xs
theorem Qeu (w:World) (c:Cfg) (x:Tri) (most:Int) (hcl:c.cl≤4194304) :
  Calls Tryz.prog 40 #[c.v,.agg #[.int .i64 x.a,.int .i64 x.b,.int .i64 x.n],.int .i64 most] w fun e w'=>e=.returned (.bool (QaX c.cl most x))∧Below w.heap.size w w':=by
 unfold Cfg.v;obtain⟨xa,xb,xn⟩:=x;obtain⟨w2,hw2,hb2,hx2,hy2⟩:=QaQ w #[.int .i64 c.tills,.slice c.cp c.cl c.cc,.slice c.pp c.pl c.pc,.int .i64 c.lease,.int .i64 c.watch,.int .i64 c.beat,.int .i64 c.window,.int .i64 c.cap,.int .i64 c.flight] 34 52 #[.int .i64 xa,.int .i64 xb,.int .i64 xn];obtain⟨HW2,HB2⟩:=Qmj hw2 hb2;obtain⟨-,c1,-,-,-,-,-,-,-⟩:=ac9 hx2;obtain⟨g0,g1,g2⟩:=ac3 hy2;have HWc:=Qaa (fun W=>Qa5 W xa 0 ((c.cl:Int) - 1));have HWw:=Qaa (fun W=>Qa5 W xb 0 1);have HR:Hid (QaX c.cl most ⟨xa,xb,xn⟩=(decide (0≤xa∧xa≤(c.cl:Int) - 1) && decide (0≤xb∧xb≤1) && decide (1≤xn) && decide (xn≤most))):=rfl;rw[HR.out];obtain⟨m,hm⟩:=exq c.cl;rw[hm]at HWc c1 hcl HW2 ⊢;clear hm hw2 hb2 hx2 hy2 HR;by_cases q1:0≤xa∧xa≤(m:Int) - 1;rw[Vq q1]at HWc ⊢;by_cases q2:0≤xb∧xb≤1;rw[Vq q2]at HWw ⊢;by_cases q3:1≤xn;rw[Vq q3];clear q1 q2;rotate_left;rw[Vk q3];clear q1 q2;rotate_left;rw[Vk q2]at HWw ⊢;clear q1 q2;rotate_left;rw[Vk q1]at HWc ⊢;clear q1
 all_goals
  go_enter Tryz.func40,Tryz.ntmps40;go_upto_region 1 with (fail);rw[HW2.out];go_wp2_with (first | (go_at_call 38;with_reducible refine(HWc.out _).mono ?_;rintro e w9 ⟨rfl,h9⟩;rw[h9];clear h9 w9) | (go_at_call 38;refine(HWw.out _).mono ?_;rintro e w9 ⟨rfl,h9⟩;rw[h9];clear h9 w9) | fail)
  go_ret;exact⟨rfl,HB2.out⟩
theorem QlG (w:World) (c:Cfg) (x:Tri) (most:Int) (hcl:c.cl≤4194304):∀d os,Calls Tryz.prog 40 #[c.v,.agg #[.int .i64 x.a,.int .i64 x.b,.int .i64 x.n],.int .i64 most] (grow (redrawn w d) os) fun e w''=>e=.returned (.bool (QaX c.cl most x))∧∃p:Regrown,w''=grow (redrawn w p.d) p.os:=fun _ _=>Calls.regrown_of (Qeu _ c x most hcl)
theorem Qgd (w:World) (c:Cfg) (p:Option Addr) (n cap:Nat) (xs:List Tri) (hn:xs.length=n) (hnl:n≤140737488355328) (hcl:c.cl≤4194304) (hx:Cel w p 3 (xs.map Qar)) :
  Calls Tryz.prog 41 #[c.v,.slice p n cap] w fun e w'=>e=.returned (.bool (Qcg c.cl xs))∧Below w.heap.size w w':=by
 unfold Cfg.v;obtain⟨w2,hw2,hb2,hx2⟩:=Qag w #[.int .i64 c.tills,.slice c.cp c.cl c.cc,.slice c.pp c.pl c.pc,.int .i64 c.lease,.int .i64 c.watch,.int .i64 c.beat,.int .i64 c.window,.int .i64 c.cap,.int .i64 c.flight] 34;have HX:=Qaa (hx.below hb2);obtain⟨HN,HW2,HB2,HX2⟩:=hd4 hn hw2 hb2 hx2;clear hw2 hb2 hx2 hx hn;obtain⟨ok,hok⟩:∃ok:List Tri→Tri→Bool,(fun l x=>QaX c.cl 18014398509481984 x && QkU l x)=ok:=⟨_,rfl⟩;have HOk:Hid (∀l x,ok l x=(QaX c.cl 18014398509481984 x && QkU l x)):=fun l x=>by rw[←hok]
 have HR:Hid (Qcg c.cl xs=Qc5 ok xs):=by show _=_;unfold Qcg;rw[hok]
 rw[HR.out];clear hok HR;go_enter Tryz.func41,Tryz.ntmps41;go_upto_region 1 with (fail);rw[HW2.out];go_wp2_with fail
 go_loopw [5] (fun i wr=>∃j:Nat,j≤n∧i=.int .i64 j∧Hid (Qc5 ok (xs.take j)=true)∧Hid (Below w2.heap.size w2 wr)) (fun i _=>n - (intOf i).toNat);case atStart=>exact⟨0,Vo _,rfl,rfl,bR⟩
 case round =>
  obtain⟨j,hj,rfl,HA,HB⟩:=hrel;by_cases hlt:j<n
  ·have hlt':(j:Int)<(n:Int):=by omega
   have j0':(0:Int)≤(j:Int):=by omega
   obtain⟨x,hx⟩:∃x,xs[j]?=some x:=⟨_,gE (by rw[HN.out];exact hlt)⟩;obtain⟨b,o,rfl,hbl,hcl'⟩:=HX.out.get (i:=j) (r:=Qar x) (by rw[Vb,hx];rfl);have HI:=Qaa (show ok (xs.take j) x=false→Qc5 ok xs=false from fun h=>QeI hx h);have HTk:=Qaa (show Qc5 ok (xs.take (j+1))=(Qc5 ok (xs.take j) && ok (xs.take j) x) by rw[take_snoc hx,Qct]);have HfA:=Qaa (HOk.out (xs.take j) x);have HRq:=Qaa (QlG wr c x 18014398509481984 hcl);unfold Cfg.v at HRq;obtain⟨xa,xb,xn⟩:=x;simp only at HRq;have HZ:Hid (∀W,Below w2.heap.size w2 W→W.cell? ⟨b,o+j*3,none⟩=some (.int .i64 xa)∧W.cell? ⟨b,o+j*3+1,none⟩=some (.int .i64 xb)∧W.cell? ⟨b,o+j*3+2,none⟩=some (.int .i64 xn)):=fun W hb=>⟨(hb.cell (p:=⟨b,o+j*3,none⟩) hbl).trans (hcl' 0 _ rfl),(hb.cell (p:=⟨b,o+j*3+1,none⟩) hbl).trans (hcl' 1 _ rfl),(hb.cell (p:=⟨b,o+j*3+2,none⟩) hbl).trans (hcl' 2 _ rfl)⟩
   obtain⟨a0,a1,a2⟩:=HZ.out wr HB.out;obtain⟨c0,c1,c2,c3,c4,c5,c6,c7,c8⟩:=ac9 ((HB.out.block _ (Qab HX2.out)).trans HX2.out);have HEnd:=Qaa (Qa3 wr);have e0:=cell_regrown a0;have e1:=cell_regrown a1;have e2:=cell_regrown a2;have d0:=cell_regrown c0;have d1:=cell_regrown c1;have d2:=cell_regrown c2;have d3:=cell_regrown c3;have d4:=cell_regrown c4;have d5:=cell_regrown c5;have d6:=cell_regrown c6;have d7:=cell_regrown c7;have d8:=cell_regrown c8;clear hcl' a0 a1 a2 c0 c1 c2 c3 c4 c5 c6 c7 c8
   cases hr:QaX c.cl 18014398509481984 ⟨xa,xb,xn⟩ with
   | false =>
    rw[hr]at HRq;have HFv:Hid (ok (xs.take j) ⟨xa,xb,xn⟩=false):=by show _=_;rw[HfA.out,hr];rfl
    clear hr hx HfA;go_upto_region 4 with (fail);refine wp_region_quiet_below (by kernel_rfl) (by kernel_rfl) ?_;repeat (go_big_quiet_step (first | (go_at_call 40;exact HRq.out _ _)))
    refine VT ?_;intro w3 hw';obtain⟨⟨dq,osq⟩,hw''⟩:=hw';obtain⟨wq,hwq,hb3⟩:=HEnd.out dq osq;rw[hwq]at hw'';rw[←hw'']at hb3;have HB3:=Qaa hb3;clear hwq hb3 hw'' wq;have HBq:Hid (Below w2.heap.size w2 w3):=HB.out.trans (HB3.out.mono HB.out.size);go_wp2;go_ret;rw[HI.out HFv.out];exact⟨rfl,HB2.out.trans (HBq.out.mono HB2.out.size)⟩
   | true =>
    rw[hr]at HRq;have HFv:Hid (ok (xs.take j) ⟨xa,xb,xn⟩=QkU (xs.take j) ⟨xa,xb,xn⟩):=by show _=_;rw[HfA.out,hr];rfl
    have hbx:0≤xa∧xa≤4194304∧0≤xb∧xb≤1:=by
     unfold QaX at hr;simp only[Vs,decide_eq_true_eq]at hr;omega
    clear hr;go_upto_region 4 with (fail);refine wp_region_quiet_below (by kernel_rfl) (by kernel_rfl) ?_;repeat (go_big_quiet_step (first | (go_at_call 40;exact HRq.out _ _)))
    refine VT ?_;intro w3 hw';obtain⟨⟨dq,osq⟩,hw''⟩:=hw';obtain⟨wq,hwq,hb3⟩:=HEnd.out dq osq;rw[hwq]at hw'';rw[←hw'']at hb3;have HB3:=Qaa hb3;clear hwq hb3 hw'' wq;have HBq:Hid (Below w2.heap.size w2 w3):=HB.out.trans (HB3.out.mono HB.out.size);clear e0 e1 e2 d0 d1 d2 d3 d4 d5 d6 d7 d8 HRq HEnd HfA;by_cases hj0:j=0
    ·subst hj0
     have HV:Hid (Qc5 ok (xs.take (0+1))=true):=by show _=_;rw[HTk.out,HA.out,HFv.out];rfl
     clear hx;have HEnd:=Qaa (Qa3 w3);go_upto_region 6 with (fail);refine wp_region_quiet_below (by kernel_rfl) (by kernel_rfl) ?_;repeat (go_big_quiet_step (first | fail))
     refine VT ?_;intro w4 hw';obtain⟨⟨dq,osq⟩,hw''⟩:=hw';obtain⟨wq,hwq,hb4⟩:=HEnd.out dq osq;rw[hwq]at hw'';rw[←hw'']at hb4;have HB4:=Qaa hb4;clear hwq hb4 hw'' wq;have HBr:Hid (Below w2.heap.size w2 w4):=HBq.out.trans (HB4.out.mono HBq.out.size);go_wp2;go_roundw;case rel=>exact⟨1,by omega,rfl,HV,HBr⟩
     case measure=>simp[intOf];omega
    ·obtain⟨i,rfl⟩:∃i,j=i+1:=⟨j - 1,by omega⟩
     obtain⟨y,hy⟩:∃y,xs[i]?=some y:=⟨_,gE (by rw[HN.out];omega)⟩;have hin:QkU (xs.take (i+1)) ⟨xa,xb,xn⟩ = !decide (2*xa+xb≤2*y.a+y.b):=by unfold QkU;rw[take_snoc hy];simp
     have hoy:=QjV HA.out (j:=i) (x:=y) (by rw[List.getElem?_take_of_lt (by omega)];exact hy);rw[HOk.out]at hoy
     have hby:0≤y.a∧y.a≤4194304∧0≤y.b∧y.b≤1:=by
      unfold QaX at hoy;simp only[Vs,decide_eq_true_eq]at hoy;omega
     obtain⟨b',o',eb,hbl',hcy⟩:=HX.out.get (i:=i) (r:=Qar y) (by rw[Vb,hy];rfl);cases eb;obtain⟨ya,yb,yn⟩:=y;simp only at hin hby;have y0:=cell_regrown ((HBq.out.cell (p:=⟨b,o+i*3,none⟩) hbl).trans (by simpa using hcy 0 _ rfl));have y1:=cell_regrown ((HBq.out.cell (p:=⟨b,o+i*3+1,none⟩) hbl).trans (hcy 1 _ rfl));obtain⟨a0,a1,-⟩:=HZ.out w3 HBq.out;have x0:=cell_regrown a0;have x1:=cell_regrown a1;rw[hin]at HFv;clear hin hoy hcy hy hx a0 a1;have hi1:((i+1:Nat):Int) - 1=(i:Int):=by omega
     have hi0:(0:Int)<((i+1:Nat):Int):=by omega
     have hin':(i:Int)<(n:Int):=by omega
     have i0':(0:Int)≤(i:Int):=by omega
     have hw1:IntKind.i64.wrap ((i:Int))=(i:Int):=by simp[IntKind.wrap,IntKind.bits,IntKind.signed];omega
     have HEnd:=Qaa (Qa3 w3);by_cases hv:2*xa+xb≤2*ya+yb
     ·rw[Vq hv]at HFv
      have HFw:Hid (ok (xs.take (i+1)) ⟨xa,xb,xn⟩=false):=HFv.out;go_upto_region 6 with (fail);refine wp_region_quiet_below (by kernel_rfl) (by kernel_rfl) ?_;repeat (go_big_quiet_step (first | fail))
      refine VT ?_;intro w4 hw';obtain⟨⟨dq,osq⟩,hw''⟩:=hw';obtain⟨wq,hwq,hb4⟩:=HEnd.out dq osq;rw[hwq]at hw'';rw[←hw'']at hb4;have HB4:=Qaa hb4;clear hwq hb4 hw'' wq;have HBr:Hid (Below w2.heap.size w2 w4):=HBq.out.trans (HB4.out.mono HBq.out.size);go_wp2;go_ret;rw[HI.out HFw.out];exact⟨rfl,HB2.out.trans (HBr.out.mono HB2.out.size)⟩
     ·rw[Vk hv]at HFv
      have HV:Hid (Qc5 ok (xs.take (i+1+1))=true):=by show _=_;rw[HTk.out,HA.out,HFv.out];rfl
      go_upto_region 6 with (fail);refine wp_region_quiet_below (by kernel_rfl) (by kernel_rfl) ?_;repeat (go_big_quiet_step (first | fail))
      refine VT ?_;intro w4 hw';obtain⟨⟨dq,osq⟩,hw''⟩:=hw';obtain⟨wq,hwq,hb4⟩:=HEnd.out dq osq;rw[hwq]at hw'';rw[←hw'']at hb4;have HB4:=Qaa hb4;clear hwq hb4 hw'' wq;have HBr:Hid (Below w2.heap.size w2 w4):=HBq.out.trans (HB4.out.mono HBq.out.size);go_wp2;go_roundw;case rel=>exact⟨i+1+1,by omega,by go_num,HV,HBr⟩
      case measure=>simp[intOf];omega
  ·have hlt':¬(j:Int)<(n:Int):=by omega
   have HV:Qc5 ok xs=true:=by have h:=HA.out;rw[Vh (by rw[HN.out];omega)]at h;exact h
   go_wp2;go_ret;try rw[HV]
   exact⟨rfl,HB2.out.trans (HB.out.mono HB2.out.size)⟩
end Go.Proofs.YtiogibfhafoapaaGreat
namespace Go.Proofs.YtiogibfhafoapaaGreat
open Go.RowKit Go.Sort
open Z (Sli QaE Acd Qad)
def Qce (cn:Nat) (a:Acd):Bool :=
 (if a.mg=0∨a.mg=1∨a.mg=3 then decide (a.other.xs.length=0) else if a.mg=2 then !decide (a.other.xs.length=0) && QaK cn a.other.xs else false) &&
 (!a.sure || (decide (a.mg=0) && decide (a.guards.xs.length=0) && decide (a.sets.xs.length=0)))
def QbT (cn pn:Nat) (a:Acd):Int :=
 if (!QaK cn a.lines.xs || decide (a.lines.xs.length+a.sets.xs.length=0))=true then 83
 else if (!QbB cn pn a.guards.xs)=true then 84
 else if (!QbP pn (-1) (if a.mg=1 then 1099511627776 else -1) a.sets.xs)=true then 85
 else if (!Qce cn a)=true then 86
 else 0
theorem Qhu (w:World) (c:Cfg) (a:Acd) (hok:Qad w a) (hcl:c.cl≤4194304) (A:Bool) (hA:Qce c.cl a=A) :
  Calls Tryz.prog 86 #[c.v,.agg #[.int .i64 a.till,.int .u64 a.num,.int .i64 a.kind,.bool a.sure,.slice a.lines.p a.lines.n a.lines.c,.slice a.guards.p a.guards.n a.guards.c,.slice a.sets.p a.sets.n a.sets.c,.int .i64 a.mg,.slice a.other.p a.other.n a.other.c,.int .i64 a.ra,.int .i64 a.rb,.int .i64 a.rd,.int .i64 a.to,.int .u64 a.gen,.slice a.rights.p a.rights.n a.rights.c]] w fun e w'=>e=.returned (.bool A)∧Below w.heap.size w w':=by
 unfold Cfg.v;obtain⟨w2,hw2,hb2,hx2,hy2⟩:=QaQ w (qC c) 34 55 #[.int .i64 a.till,.int .u64 a.num,.int .i64 a.kind,.bool a.sure,.slice a.lines.p a.lines.n a.lines.c,.slice a.guards.p a.guards.n a.guards.c,.slice a.sets.p a.sets.n a.sets.c,.int .i64 a.mg,.slice a.other.p a.other.n a.other.c,.int .i64 a.ra,.int .i64 a.rb,.int .i64 a.rd,.int .i64 a.to,.int .u64 a.gen,.slice a.rights.p a.rights.n a.rights.c];obtain⟨HW2,HB2,HY2⟩:=Qmk hw2 hb2 hy2;obtain⟨c0,c1,c2,c3,c4,c5,c6,c7,c8⟩:=ac9 hx2;obtain⟨-,-,-,a3,-,a5,a6,a7,a8,-,-,-,-,-,-⟩:=QaA hy2;have HLo:=Qaa (fun (W:World) (hb:Below w2.heap.size w2 W)=>Qel W c a.other.p a.other.n a.other.c a.other.xs hok.other.len hcl ((hok.other.cel.below hb2).below hb));unfold Cfg.v at HLo;obtain⟨HOn,HGn,HSn⟩:=Qmk hok.other.len hok.guards.len hok.sets.len;have HR2:Hid (Below w2.heap.size w2 w2):=bR;have HA:=Qaa hA;obtain⟨lo,hlo⟩:=exq (QaK c.cl a.other.xs);rw[hlo]at HLo
 have HM:Hid (A=((if a.mg=0∨a.mg=1∨a.mg=3 then decide (a.other.n=0) else if a.mg=2 then !decide (a.other.n=0) && lo else false) && (!a.sure || (decide (a.mg=0) && decide (a.guards.n=0) && decide (a.sets.n=0))))):=by
  show _=_;rw[←hA,←hlo,←HOn.out,←HGn.out,←HSn.out];rfl
 obtain⟨on,hon⟩:=exq a.other.n;obtain⟨gn,hgn⟩:=exq a.guards.n;obtain⟨sn,hsn⟩:=exq a.sets.n;obtain⟨mg,hmg⟩:=exq a.mg;obtain⟨su,hsu⟩:=exq a.sure;rw[hon]at HY2 HM a8 HLo HW2 ⊢;rw[hgn]at HY2 HM a5 HW2 ⊢;rw[hsn]at HY2 HM a6 HW2 ⊢;rw[hmg]at HY2 HM a7 HW2 ⊢;rw[hsu]at HY2 HM a3 HW2 ⊢;clear hw2 hb2 hx2 hy2 hok hon hgn hsn hmg hsu hlo hA HOn HGn HSn HA;by_cases m0:mg=0;subst m0;by_cases o0:on=0;subst o0;cases su;have hA:A=true:=by rw[HM.out];simp
 rotate_left;by_cases g0:gn=0;subst g0;have hA:A=decide (sn=0):=by rw[HM.out];simp
 by_cases s0:sn=0;subst s0;rw[Vq rfl]at hA;rotate_left;rw[Vk s0]at hA;have s0':((sn:Int) == 0)=false:=by simp;omega
 have s0'':¬(sn:Int)=0:=by omega
 rotate_left;have hA:A=false:=by rw[HM.out];simp[g0]
 have g0':((gn:Int) == 0)=false:=by simp;omega
 have g0'':¬(gn:Int)=0:=by omega
 rotate_left;have hA:A=false:=by rw[HM.out];simp[o0]
 have o0':(0:Int)<(on:Int):=by omega
 rotate_left;have m0':((mg:Int) == 0)=false:=by simp[m0]
 by_cases m1:mg=1;subst m1;by_cases o0:on=0;subst o0;have hA:A = !su:=by rw[HM.out];simp
 cases su;rotate_left;rotate_left;have hA:A=false:=by rw[HM.out];simp[o0]
 have o0':(0:Int)<(on:Int):=by omega
 rotate_left;have m1':((mg:Int) == 1)=false:=by simp[m1]
 by_cases m3:mg=3;subst m3;by_cases o0:on=0;subst o0;have hA:A = !su:=by rw[HM.out];simp
 cases su;rotate_left;rotate_left;have hA:A=false:=by rw[HM.out];simp[o0]
 have o0':(0:Int)<(on:Int):=by omega
 rotate_left;have m3':((mg:Int) == 3)=false:=by simp[m3]
 by_cases m2:mg=2;subst m2;by_cases o0:on=0;subst o0;have hA:A=false:=by rw[HM.out];simp
 rotate_left;have o0':((on:Int) == 0)=false:=by simp;omega
 have o0'':¬(on:Int)=0:=by omega
 have hA:A=(lo && !su):=by rw[HM.out];simp[o0]
 cases lo;rotate_left;cases su;rotate_left;rotate_left;have m2':((mg:Int) == 2)=false:=by simp[m2]
 have hA:A=false:=by rw[HM.out];simp[m0,m1,m2,m3]
 all_goals
  rw[hA];clear HM hA;go_enter Tryz.func86,Tryz.ntmps86;go_upto_region 1 with (fail);rw[HW2.out];go_wp2_with (first | (go_at_call 83;refine(HLo.out w2 HR2.out).mono ?_;rintro e w3 ⟨rfl,hb⟩;have HB3:=Qaa hb;obtain⟨-,-,-,a3,-,a5,a6,a7,a8,-,-,-,-,-,-⟩:=QaA ((hb.block _ (Qab HY2.out)).trans HY2.out);clear hb) | fail)
  go_ret;first | exact⟨rfl,HB2.out⟩ | exact⟨rfl,HB2.out.trans (HB3.out.mono HB2.out.size)⟩
theorem QhM (w:World) (c:Cfg) (a:Acd) (hok:Qad w a) (hcl:c.cl≤4194304) (hpl:c.pl≤4194304) :
  Calls Tryz.prog 39 #[c.v,.agg #[.int .i64 a.till,.int .u64 a.num,.int .i64 a.kind,.bool a.sure,.slice a.lines.p a.lines.n a.lines.c,.slice a.guards.p a.guards.n a.guards.c,.slice a.sets.p a.sets.n a.sets.c,.int .i64 a.mg,.slice a.other.p a.other.n a.other.c,.int .i64 a.ra,.int .i64 a.rb,.int .i64 a.rd,.int .i64 a.to,.int .u64 a.gen,.slice a.rights.p a.rights.n a.rights.c]] w fun e w'=>e=.returned (.int .i64 (QbT c.cl c.pl a))∧Below w.heap.size w w':=by
 obtain⟨w2,hw2,hb2,hx2,hy2⟩:=QaQ w (qC c) 34 55 #[.int .i64 a.till,.int .u64 a.num,.int .i64 a.kind,.bool a.sure,.slice a.lines.p a.lines.n a.lines.c,.slice a.guards.p a.guards.n a.guards.c,.slice a.sets.p a.sets.n a.sets.c,.int .i64 a.mg,.slice a.other.p a.other.n a.other.c,.int .i64 a.ra,.int .i64 a.rb,.int .i64 a.rd,.int .i64 a.to,.int .u64 a.gen,.slice a.rights.p a.rights.n a.rights.c];obtain⟨HW2,HB2,HX2,HY2⟩:=hd4 hw2 hb2 hx2 hy2;have HLi:=Qaa (fun (W:World) (hb:Below w2.heap.size w2 W)=>Qel W c a.lines.p a.lines.n a.lines.c a.lines.xs hok.lines.len hcl ((hok.lines.cel.below hb2).below hb));have HGu:=Qaa (fun (W:World) (hb:Below w2.heap.size w2 W)=>Qgn W c a.guards.p a.guards.n a.guards.c a.guards.xs hok.guards.len hcl hpl ((hok.guards.cel.below hb2).below hb));have HSe:=Qaa (fun (W:World) (hb:Below w2.heap.size w2 W) (hi:Int)=>QeS W c a.sets.p a.sets.n a.sets.c a.sets.xs (-1) hi hok.sets.len hpl ((hok.sets.cel.below hb2).below hb));have HMe:=Qaa (fun (W:World) (hb:Below w2.heap.size w2 W)=>Qhu W c a ((hok.below hb2).below hb) hcl _ rfl);unfold Cfg.v at HLi HGu HSe HMe ⊢;obtain⟨li,hli⟩:=exq (QaK c.cl a.lines.xs);obtain⟨gu,hgu⟩:=exq (QbB c.cl c.pl a.guards.xs);obtain⟨me,hme⟩:=exq (Qce c.cl a);have hln:a.lines.n≤4194304:=hok.lines.most;have hsn:a.sets.n≤4194304:=hok.sets.most
 have HV:Hid (QbT c.cl c.pl a=if (!li || decide (a.lines.n+a.sets.n=0))=true then 83 else if (!gu)=true then 84 else if (!QbP c.pl (-1) (if a.mg=1 then 1099511627776 else -1) a.sets.xs)=true then 85 else if (!me)=true then 86 else 0):=by
  show _=_;rw[←hli,←hgu,←hme,←hok.lines.len,←hok.sets.len];rfl
 rw[hli]at HLi;rw[hgu]at HGu;rw[hme]at HMe;obtain⟨V,hV⟩:=exq (QbT c.cl c.pl a);rw[hV]at HV ⊢;have HZ:Hid (∀W,Below w2.heap.size w2 W→(W.cell? ⟨w.heap.size,0,none⟩=some (.int .i64 c.tills)∧W.cell? ⟨w.heap.size,1,none⟩=some (.slice c.cp c.cl c.cc)∧W.cell? ⟨w.heap.size,2,none⟩=some (.slice c.pp c.pl c.pc)∧W.cell? ⟨w.heap.size,3,none⟩=some (.int .i64 c.lease)∧W.cell? ⟨w.heap.size,4,none⟩=some (.int .i64 c.watch)∧W.cell? ⟨w.heap.size,5,none⟩=some (.int .i64 c.beat)∧W.cell? ⟨w.heap.size,6,none⟩=some (.int .i64 c.window)∧W.cell? ⟨w.heap.size,7,none⟩=some (.int .i64 c.cap)∧W.cell? ⟨w.heap.size,8,none⟩=some (.int .i64 c.flight))∧(W.cell? ⟨w.heap.size+1,0,none⟩=some (.int .i64 a.till)∧W.cell? ⟨w.heap.size+1,1,none⟩=some (.int .u64 a.num)∧W.cell? ⟨w.heap.size+1,2,none⟩=some (.int .i64 a.kind)∧W.cell? ⟨w.heap.size+1,3,none⟩=some (.bool a.sure)∧W.cell? ⟨w.heap.size+1,4,none⟩=some (.slice a.lines.p a.lines.n a.lines.c)∧W.cell? ⟨w.heap.size+1,5,none⟩=some (.slice a.guards.p a.guards.n a.guards.c)∧W.cell? ⟨w.heap.size+1,6,none⟩=some (.slice a.sets.p a.sets.n a.sets.c)∧W.cell? ⟨w.heap.size+1,7,none⟩=some (.int .i64 a.mg)∧W.cell? ⟨w.heap.size+1,8,none⟩=some (.slice a.other.p a.other.n a.other.c)∧W.cell? ⟨w.heap.size+1,9,none⟩=some (.int .i64 a.ra)∧W.cell? ⟨w.heap.size+1,10,none⟩=some (.int .i64 a.rb)∧W.cell? ⟨w.heap.size+1,11,none⟩=some (.int .i64 a.rd)∧W.cell? ⟨w.heap.size+1,12,none⟩=some (.int .i64 a.to)∧W.cell? ⟨w.heap.size+1,13,none⟩=some (.int .u64 a.gen)∧W.cell? ⟨w.heap.size+1,14,none⟩=some (.slice a.rights.p a.rights.n a.rights.c))):=fun W hb=>⟨ac9 ((hb.block _ (Qab HX2.out)).trans HX2.out),QaA ((hb.block _ (Qab HY2.out)).trans HY2.out)⟩
 have HR2:Hid (Below w2.heap.size w2 w2):=bR;clear hw2 hb2 hx2 hy2 hok hli hgu hme hV;obtain⟨⟨c0,c1,c2,c3,c4,c5,c6,c7,c8⟩,⟨a0,a1,a2,a3,a4,a5,a6,a7,a8,a9,a10,a11,a12,a13,a14⟩⟩:=HZ.out w2 HR2.out;by_cases hmg:a.mg=1;rw[if_pos hmg]at HV;obtain⟨se,hse⟩:=exq (QbP c.pl (-1) 1099511627776 a.sets.xs);have HS1:=Qaa (fun W hb=>HSe.out W hb 1099511627776);rw[hse]at HV HS1;have hmg':((a.mg:Int) == 1)=true:=by simp[hmg]
 clear HSe hse hmg;obtain⟨v0,hv0⟩:∃v0,v0=w2:=⟨_,rfl⟩;rw[←hv0]at c0 c1 c2 c3 c4 c5 c6 c7 c8 a0 a1 a2 a3 a4 a5 a6 a7 a8 a9 a10 a11 a12 a13 a14;have HBv0:Hid (Below w2.heap.size w2 v0):=by rw[hv0];exact HR2
 cases li;have hVv:V=83:=by rw[HV.out];simp
 rotate_left;by_cases z0:a.lines.n+a.sets.n=0;have hVv:V=83:=by rw[HV.out];simp[z0]
 have z1:((a.lines.n:Int)+(a.sets.n:Int) == 0)=true:=by simp;omega
 have z2:(a.lines.n:Int)+(a.sets.n:Int)=0:=by omega
 clear z0;rotate_left;have z1:((a.lines.n:Int)+(a.sets.n:Int) == 0)=false:=by simp;omega
 have z2:¬(a.lines.n:Int)+(a.sets.n:Int)=0:=by omega
 have HV2:Hid (V=if (!gu)=true then 84 else if (!se)=true then 85 else if (!me)=true then 86 else 0):=by show _=_;rw[HV.out,Vk z0];rfl
 clear HV z0;cases gu;have hVv:V=84:=HV2.out;rotate_left;cases se;have hVv:V=85:=HV2.out;rotate_left;cases me;have hVv:V=86:=HV2.out;rotate_left;have hVv:V=0:=HV2.out;rotate_left;rw[if_neg hmg]at HV;obtain⟨se,hse⟩:=exq (QbP c.pl (-1) (-1) a.sets.xs);have HS1:=Qaa (fun W hb=>HSe.out W hb (-1));rw[hse]at HV HS1;have hmg':((a.mg:Int) == 1)=false:=by simp[hmg]
 clear HSe hse;obtain⟨v0,hv0⟩:∃v0,v0=w2:=⟨_,rfl⟩;rw[←hv0]at c0 c1 c2 c3 c4 c5 c6 c7 c8 a0 a1 a2 a3 a4 a5 a6 a7 a8 a9 a10 a11 a12 a13 a14;have HBv0:Hid (Below w2.heap.size w2 v0):=by rw[hv0];exact HR2
 cases li;have hVv:V=83:=by rw[HV.out];simp
 rotate_left;by_cases z0:a.lines.n+a.sets.n=0;have hVv:V=83:=by rw[HV.out];simp[z0]
 have z1:((a.lines.n:Int)+(a.sets.n:Int) == 0)=true:=by simp;omega
 have z2:(a.lines.n:Int)+(a.sets.n:Int)=0:=by omega
 clear z0;rotate_left;have z1:((a.lines.n:Int)+(a.sets.n:Int) == 0)=false:=by simp;omega
 have z2:¬(a.lines.n:Int)+(a.sets.n:Int)=0:=by omega
 have HV2:Hid (V=if (!gu)=true then 84 else if (!se)=true then 85 else if (!me)=true then 86 else 0):=by show _=_;rw[HV.out,Vk z0];rfl
 clear HV z0;cases gu;have hVv:V=84:=HV2.out;rotate_left;cases se;have hVv:V=85:=HV2.out;rotate_left;cases me;have hVv:V=86:=HV2.out;rotate_left;have hVv:V=0:=HV2.out
 all_goals
  go_enter Tryz.func39,Tryz.ntmps39;go_upto_region 1 with (fail);rw[HW2.out,←hv0];clear hv0;go_wp2_with (first | (go_at_call 86;refine(HMe.out v3 HBv3.out).mono ?_;rintro e v4 ⟨rfl,hb⟩;have HBv4:Hid (Below w2.heap.size w2 v4):=HBv3.out.trans (hb.mono HBv3.out.size);clear hb;clear c0 c1 c2 c3 c4 c5 c6 c7 c8 a0 a1 a2 a3 a4 a5 a6 a7 a8 a9 a10 a11 a12 a13 a14;obtain⟨⟨c0,c1,c2,c3,c4,c5,c6,c7,c8⟩,⟨a0,a1,a2,a3,a4,a5,a6,a7,a8,a9,a10,a11,a12,a13,a14⟩⟩:=HZ.out v4 HBv4.out) | (go_at_call 85;refine(HS1.out v2 HBv2.out).mono ?_;rintro e v3 ⟨rfl,hb⟩;have HBv3:Hid (Below w2.heap.size w2 v3):=HBv2.out.trans (hb.mono HBv2.out.size);clear hb;clear c0 c1 c2 c3 c4 c5 c6 c7 c8 a0 a1 a2 a3 a4 a5 a6 a7 a8 a9 a10 a11 a12 a13 a14;obtain⟨⟨c0,c1,c2,c3,c4,c5,c6,c7,c8⟩,⟨a0,a1,a2,a3,a4,a5,a6,a7,a8,a9,a10,a11,a12,a13,a14⟩⟩:=HZ.out v3 HBv3.out) | (go_at_call 84;refine(HGu.out v1 HBv1.out).mono ?_;rintro e v2 ⟨rfl,hb⟩;have HBv2:Hid (Below w2.heap.size w2 v2):=HBv1.out.trans (hb.mono HBv1.out.size);clear hb;clear c0 c1 c2 c3 c4 c5 c6 c7 c8 a0 a1 a2 a3 a4 a5 a6 a7 a8 a9 a10 a11 a12 a13 a14;obtain⟨⟨c0,c1,c2,c3,c4,c5,c6,c7,c8⟩,⟨a0,a1,a2,a3,a4,a5,a6,a7,a8,a9,a10,a11,a12,a13,a14⟩⟩:=HZ.out v2 HBv2.out) | (go_at_call 83;refine(HLi.out v0 HBv0.out).mono ?_;rintro e v1 ⟨rfl,hb⟩;have HBv1:Hid (Below w2.heap.size w2 v1):=HBv0.out.trans (hb.mono HBv0.out.size);clear hb;clear c0 c1 c2 c3 c4 c5 c6 c7 c8 a0 a1 a2 a3 a4 a5 a6 a7 a8 a9 a10 a11 a12 a13 a14;obtain⟨⟨c0,c1,c2,c3,c4,c5,c6,c7,c8⟩,⟨a0,a1,a2,a3,a4,a5,a6,a7,a8,a9,a10,a11,a12,a13,a14⟩⟩:=HZ.out v1 HBv1.out) | fail)
  go_ret;rw[hVv];first | exact⟨rfl,HB2.out.trans (HBv1.out.mono HB2.out.size)⟩ | exact⟨rfl,HB2.out.trans (HBv2.out.mono HB2.out.size)⟩ | exact⟨rfl,HB2.out.trans (HBv3.out.mono HB2.out.size)⟩ | exact⟨rfl,HB2.out.trans (HBv4.out.mono HB2.out.size)⟩
end Go.Proofs.YtiogibfhafoapaaGreat
