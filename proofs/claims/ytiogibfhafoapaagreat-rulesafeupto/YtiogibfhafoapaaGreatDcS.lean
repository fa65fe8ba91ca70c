import Derived.Test.YtiogibfhafoapaaGreatDcI
import Derived.Test.YtiogibfhafoapaaGreatRwK
import Derived.Test.YtiogibfhafoapaaGreatDcR
import Derived.Test.YtiogibfhafoapaaGreatZXc
set_option maxRecDepth 100000
set_option maxHeartbeats 8000000
set_option linter.unusedSimpArgs false
set_option linter.unusedVariables false
namespace Go.Proofs.YtiogibfhafoapaaGreat
open Go.RowKit Go.Sort
open Z (Ctr ctc)
structure Qbp (w:World) (c:Cfg) (cs:List Ctr):Prop where
 len:cs.length=c.cl
 cel:Cel w c.cp 4 (cs.map ctc)
 cl:c.cl≤4194304
 pl:c.pl≤4194304
 tills:0≤c.tills∧c.tills≤1000000
 bnd:∀x∈cs,-9007199254740992≤x.lo∧x.lo≤x.st∧x.st≤x.hi∧x.hi≤9007199254740992
theorem Qbp.below {w w':World} {c:Cfg} {cs:List Ctr} (h:Qbp w c cs) (hb:Below w.heap.size w w'):Qbp w' c cs:=⟨h.len,h.cel.below hb,h.cl,h.pl,h.tills,h.bnd⟩
structure QjI (s:Sta):Prop where
 pn:s.pn≤4194304
 rn:s.rn≤4194304
 ln:s.ln≤4194304
 gn:s.gn≤4194304
 on:s.on≤4194304
 hl:∀p∈s.pools,p.hl≤4194304
def QdS (s:Sta) (t:Nat):Prop:=∀l g o,s.last[t]?=some l→s.gen[t]?=some g→s.owed[t]?=some o→l≤1099511627776∧g≤1099511627776∧¬(o=true∧g=0)
def Qbz (q:Lin):Prop:=(0≤q.c∧q.c≤1099511627776)∧(0≤q.n∧q.n≤1099511627776)
structure Qdt (c:Cfg) (cs:List Ctr) (s:Sta):Prop where
 shp:Shp c s
 pos:s.pos≤1099511627776
 pools:∀(i:Nat) (x:Ctr) (p:Pl),cs[i]?=some x→s.pools[i]?=some p→Qa1 x.lo x.hi p
 prices:∀q∈s.prices,Qbz q
 tills:∀t:Nat,(t:Int)<c.tills→QdS s t
def Qgw (c:Cfg) (cs:List Ctr) (s:Sta) (e:Ending):Prop:=∃b:Bool,e=.returned (.bool b)∧(b=true↔Qdt c cs s)
theorem QgS {p:Prop} {b b':Bool} (h:b=true↔p) (h':b'=true↔p):b=b':=by rw[Bool.eq_iff_iff,h,h']
theorem Qk1 (w:World) (x:Ctr) (p:Pl) (hp:Qmb w p) (hx : -9007199254740992≤x.lo∧x.lo≤x.st∧x.st≤x.hi∧x.hi≤9007199254740992) (hl:p.hl≤140737488355328) (b:Bool) (hb:b=true↔Qa1 x.lo x.hi p):∀d os,Calls Tryz.prog 168 #[.agg #[.string x.name,.int .i64 x.lo,.int .i64 x.hi,.int .i64 x.st],.agg #[.int .i64 p.v,.int .i64 p.f0,.int .i64 p.f1,.slice p.hp p.hl p.hc]] (grow (redrawn w d) os) fun e w''=>e=.returned (.bool b)∧∃q:Regrown,w''=grow (redrawn w q.d) q.os:=fun d os=>Calls.regrown_of ((Qjm _ x.name x.lo x.hi x.st p ⟨hp.len,hp.cel.below (below_regrown w d os)⟩ hx.1 hx.2.2.2 hl).mono (fun _ _ ⟨⟨b',he,hb'⟩,h⟩=>⟨by rw[he,QgS hb hb'],h⟩))
theorem Qbq (w:World) (c:Cfg) (cs:List Ctr) (s:Sta) (hc:Qbp w c cs) (hs:Qae w s) (hsm:QjI s) :
  Calls Tryz.prog 99 #[c.v,.agg (qS s)] w fun e w'=>Qgw c cs s e∧Below w.heap.size w w':=by
 obtain⟨w2,hw2,hb2,hx2,hy2⟩:=QaQ w (qC c) 34 42 (qS s);obtain⟨HW2,HB2,HX2,HY2⟩:=hd4 hw2 hb2 hx2 hy2;have HS:=Qaa (hs.below hb2);have HC:=Qaa (hc.below hb2);have HSm:=Qaa hsm;have HZ:Hid (∀W,Below w2.heap.size w2 W→(W.cell? ⟨w.heap.size,0,none⟩=some (.int .i64 c.tills)∧W.cell? ⟨w.heap.size,1,none⟩=some (.slice c.cp c.cl c.cc)∧W.cell? ⟨w.heap.size,2,none⟩=some (.slice c.pp c.pl c.pc)∧W.cell? ⟨w.heap.size,3,none⟩=some (.int .i64 c.lease)∧W.cell? ⟨w.heap.size,4,none⟩=some (.int .i64 c.watch)∧W.cell? ⟨w.heap.size,5,none⟩=some (.int .i64 c.beat)∧W.cell? ⟨w.heap.size,6,none⟩=some (.int .i64 c.window)∧W.cell? ⟨w.heap.size,7,none⟩=some (.int .i64 c.cap)∧W.cell? ⟨w.heap.size,8,none⟩=some (.int .i64 c.flight))∧(W.cell? ⟨w.heap.size+1,0,none⟩=some (.int .u64 s.pos)∧W.cell? ⟨w.heap.size+1,1,none⟩=some (.slice s.pp s.pn s.pc)∧W.cell? ⟨w.heap.size+1,2,none⟩=some (.slice s.rp s.rn s.rc)∧W.cell? ⟨w.heap.size+1,3,none⟩=some (.slice s.lp s.ln s.lc)∧W.cell? ⟨w.heap.size+1,4,none⟩=some (.slice s.gp s.gn s.gc)∧W.cell? ⟨w.heap.size+1,5,none⟩=some (.slice s.op s.on s.oc))):=fun W hb=>⟨ac9 ((hb.block _ (Qab HX2.out)).trans HX2.out),ac6 ((hb.block _ (Qab HY2.out)).trans HY2.out)⟩
 have bad:Hid (¬Qdt c cs s→Qgw c cs s (.returned (.bool false))):=fun h=>⟨false,rfl,fun k=>(by cases k),fun k=>absurd k h⟩
 obtain⟨sb,hsb⟩:=Qbj (Shp c s);have HSb:=Qaa hsb;have HSh:Hid (Calls Tryz.prog 167 #[c.v,.agg (qS s)] w2 fun e w'=>e=.returned (.bool sb)∧Below w2.heap.size w2 w'):=(Qf0 w2 c s HS.out (Vt hsm.pn (by omega))).mono (fun _ _ ⟨⟨b',he,hb'⟩,h⟩=>⟨by rw[he,QgS HSb.out hb'],h⟩);unfold Cfg.v at HSh ⊢;have HR2:Hid (Below w2.heap.size w2 w2):=bR;obtain⟨⟨c0,c1,c2,c3,c4,c5,c6,c7,c8⟩,⟨s0,s1,s2,s3,s4,s5⟩⟩:=HZ.out w2 HR2.out;clear hw2 hb2 hx2 hy2 hs hc hsb hsm
 cases hsv:sb with
 | false =>
  rw[hsv]at HSh;have HX:=Qaa (bad.out (fun h=>by have:=HSb.out.2 h.shp;rw[hsv]at this;cases this));clear hsv;go_enter Tryz.func99,Tryz.ntmps99;go_upto_region 1 with (fail);rw[HW2.out];go_wp2_with (first | (go_at_call 167;refine HSh.out.mono ?_;rintro e w3 ⟨rfl,hb⟩;have HB3:=Qaa hb;clear hb) | fail)
  go_ret;exact⟨HX.out,HB2.out.trans (HB3.out.mono HB2.out.size)⟩
 | true =>
  rw[hsv]at HSh;have HSp:=Qaa (HSb.out.1 hsv);clear hsv;by_cases q1:1099511627776<s.pos
  ·have HX:=Qaa (bad.out (fun h=>by have:=h.pos;omega))
   go_enter Tryz.func99,Tryz.ntmps99;go_upto_region 1 with (fail);rw[HW2.out];go_wp2_with (first | (go_at_call 167;refine HSh.out.mono ?_;rintro e w3 ⟨rfl,hb⟩;have HB3:=Qaa hb;clear c0 c1 c2 c3 c4 c5 c6 c7 c8 s0 s1 s2 s3 s4 s5;obtain⟨⟨c0,c1,c2,c3,c4,c5,c6,c7,c8⟩,⟨s0,s1,s2,s3,s4,s5⟩⟩:=HZ.out w3 hb;clear hb) | fail)
   go_ret;exact⟨HX.out,HB2.out.trans (HB3.out.mono HB2.out.size)⟩
  ·have HPo:Hid (s.pos≤1099511627776):=by show _≤_;omega
   go_enter Tryz.func99,Tryz.ntmps99;go_upto_region 1 with (fail);rw[HW2.out];go_upto_region 3 with (first | (go_at_call 167;refine HSh.out.mono ?_;rintro e w3 ⟨rfl,hb⟩;have HB3:=Qaa hb;clear c0 c1 c2 c3 c4 c5 c6 c7 c8 s0 s1 s2 s3 s4 s5;obtain⟨⟨c0,c1,c2,c3,c4,c5,c6,c7,c8⟩,⟨s0,s1,s2,s3,s4,s5⟩⟩:=HZ.out w3 hb;clear hb) | fail);go_wp2_with fail
   go_loopw [5] (fun i wr=>∃j:Nat,j≤s.pn∧i=.int .i64 j∧Hid (∀(i:Nat) (x:Ctr) (p:Pl),i<j→cs[i]?=some x→s.pools[i]?=some p→Qa1 x.lo x.hi p)∧Hid (Below w2.heap.size w2 wr)) (fun i _=>s.pn - (intOf i).toNat);case atStart=>exact⟨0,Vo _,rfl,fun i x p h=>by omega,HB3⟩
   case round =>
    clear c0 c1 c2 c3 c4 c5 c6 c7 c8 s0 s1 s2 s3 s4 s5 HB3 q1;obtain⟨j,hj,rfl,HA,HB⟩:=hrel;obtain⟨⟨c0,c1,c2,c3,c4,c5,c6,c7,c8⟩,⟨s0,s1,s2,s3,s4,s5⟩⟩:=HZ.out wr HB.out;have hpm:=HSm.out.pn;by_cases hlt:j<s.pn
    ·have hlt':(j:Int)<(s.pn:Int):=by omega
     have hlc':(j:Int)<(c.cl:Int):=by have:=HSp.out.pn;omega
     have j0':(0:Int)≤(j:Int):=by omega
     obtain⟨P,hP⟩:∃P,s.pools[j]?=some P:=⟨_,gE (by rw[HS.out.pn];exact hlt)⟩;obtain⟨x,hx⟩:∃x,cs[j]?=some x:=⟨_,gE (by rw[HC.out.len];have:=HSp.out.pn;omega)⟩;obtain⟨pb,po,ep,hpb,hpc⟩:=(HS.out.pools.below HB.out).get (i:=j) (r:=plc P) (by rw[Vb,hP];rfl);obtain⟨xb,xo,ex,hxb,hxc⟩:=(HC.out.cel.below HB.out).get (i:=j) (r:=ctc x) (by rw[Vb,hx];rfl);obtain⟨ob,hob⟩:=Qbj (Qa1 x.lo x.hi P);have HOb:=Qaa hob;have hPk:=(HS.out.below HB.out).held P (mG hP);have HPq:=Qaa (Qk1 wr x P hPk (HC.out.bnd x (mG hx)) (Vt (HSm.out.hl P (mG hP)) (by omega)) ob hob);have HNx:=Qaa (show ∀(x':Ctr) (p':Pl),cs[j]?=some x'→s.pools[j]?=some p'→x'=x∧p'=P from fun x' p' h1 h2=>by rw[hx]at h1;rw[hP]at h2;cases h1;cases h2;exact⟨rfl,rfl⟩);have HPx:=Qaa (show Qdt c cs s→Qa1 x.lo x.hi P from fun h=>h.pools j x P hx hP);have b0:=cell_regrown (hpc 0 _ rfl);have b1:=cell_regrown (hpc 1 _ rfl);have b2:=cell_regrown (hpc 2 _ rfl);have b3:=cell_regrown (hpc 3 _ rfl);have d0:=cell_regrown (hxc 0 _ rfl);have d1:=cell_regrown (hxc 1 _ rfl);have d2:=cell_regrown (hxc 2 _ rfl);have d3:=cell_regrown (hxc 3 _ rfl);simp only[Vr]at b0 d0;rw[ep]at s1;rw[ex]at c1;have r1:=cell_regrown s1;have r2:=cell_regrown c1;have HEnd:=Qaa (Qa3 wr);obtain⟨x0,x1,x2,x3⟩:=x;simp only at HPq d0 d1 d2 d3 HPx HOb HNx;clear hpc hxc hP hx ep ex hob hPk
     cases hov:ob with
     | false =>
      rw[hov]at HPq;have HX:=Qaa (bad.out (fun h=>by have:=HOb.out.2 (HPx.out h);rw[hov]at this;cases this));clear hov;go_upto_region 6 with (fail);refine wp_region_quiet_below (by kernel_rfl) (by kernel_rfl) ?_;repeat (go_big_quiet_step (first | (go_at_call 168;exact HPq.out _ _)))
      refine VT ?_;intro w3 hw';obtain⟨⟨dq,osq⟩,hw''⟩:=hw';obtain⟨wq,hwq,hb3⟩:=HEnd.out dq osq;rw[hwq]at hw'';rw[←hw'']at hb3;have HB3:=Qaa hb3;clear hwq hb3 hw'' wq;go_wp2;go_ret;exact⟨HX.out,HB2.out.trans ((HB.out.trans (HB3.out.mono HB.out.size)).mono HB2.out.size)⟩
     | true =>
      rw[hov]at HPq;have HOk:=Qaa (HOb.out.1 hov);clear hov;go_upto_region 6 with (fail);refine wp_region_quiet_below (by kernel_rfl) (by kernel_rfl) ?_;repeat (go_big_quiet_step (first | (go_at_call 168;exact HPq.out _ _)))
      refine VT ?_;intro w3 hw';obtain⟨⟨dq,osq⟩,hw''⟩:=hw';obtain⟨wq,hwq,hb3⟩:=HEnd.out dq osq;rw[hwq]at hw'';rw[←hw'']at hb3;have HB3:=Qaa hb3;clear hwq hb3 hw'' wq;go_wp2;go_roundw
      case rel =>
       refine⟨j+1,by omega,by go_num,?_,HB.out.trans (HB3.out.mono HB.out.size)⟩;show ∀_,_;intro i x' p' hi h1 h2;rcases Nat.lt_or_ge i j with hij | hij
       ·exact HA.out i x' p' hij h1 h2
       ·obtain rfl:i=j:=by omega
        obtain⟨rfl,rfl⟩:=HNx.out x' p' h1 h2;exact HOk.out
      case measure=>simp[intOf];omega
    ·have hlt':¬(j:Int)<(s.pn:Int):=by omega
     have HPl:Hid (∀(i:Nat) (x:Ctr) (p:Pl),cs[i]?=some x→s.pools[i]?=some p→Qa1 x.lo x.hi p):=fun i x p h1 h2=>HA.out i x p (by have:=(Vd.1 h2).1;rw[HS.out.pn]at this;omega) h1 h2
     clear HA;have hrm:=HSm.out.rn;go_wp2_with fail
     go_loopw [6] (fun i wr=>∃j:Nat,j≤s.rn∧i=.int .i64 j∧Hid (∀q∈s.prices.take j,Qbz q)∧Hid (Below w2.heap.size w2 wr)) (fun i _=>s.rn - (intOf i).toNat);case atStart=>exact⟨0,Vo _,rfl,by intro q hq;simp at hq,HB⟩
     case round =>
      clear c0 c1 c2 c3 c4 c5 c6 c7 c8 s0 s1 s2 s3 s4 s5 HB hlt hlt' hj;obtain⟨k,hk,rfl,HAq,HB⟩:=hrel;obtain⟨⟨c0,c1,c2,c3,c4,c5,c6,c7,c8⟩,⟨s0,s1,s2,s3,s4,s5⟩⟩:=HZ.out wr HB.out;by_cases hkn:k<s.rn
      ·have hkn':(k:Int)<(s.rn:Int):=by omega
       have k0':(0:Int)≤(k:Int):=by omega
       obtain⟨Q,hQ⟩:∃Q,s.prices[k]?=some Q:=⟨_,gE (by rw[HS.out.rn];exact hkn)⟩;obtain⟨pb,po,ep,hpb,hpc⟩:=(HS.out.prices.below HB.out).get (i:=k) (r:=Qal Q) (by rw[Vb,hQ];rfl);have b0:=hpc 0 _ rfl;have b1:=hpc 1 _ rfl;rw[Vr]at b0;rw[ep]at s2;have HQm:=Qaa (mG hQ);have HT:=Qaa (show s.prices.take (k+1)=s.prices.take k++[Q] from take_snoc hQ);obtain⟨qc,qn⟩:=Q;have HBc:=Qaa (fun W=>Qa9 W qc 0 1099511627776);have HBn:=Qaa (fun W=>Qa9 W qn 0 1099511627776);simp only at b0 b1;clear hpc hQ ep;by_cases g1:0≤qc∧qc≤1099511627776
       ·rw[Vq g1]at HBc
        by_cases g2:0≤qn∧qn≤1099511627776
        ·rw[Vq g2]at HBn
         have HOk:Hid (Qbz ⟨qc,qn⟩):=⟨g1,g2⟩;clear g1 g2;go_wp2_with (first | (go_at_call_of 169 (Value.int .i64 qc);with_reducible refine(HBc.out _).mono ?_;rintro e w9 ⟨rfl,h9⟩;rw[h9];clear h9 w9) | (go_at_call 169;refine(HBn.out _).mono ?_;rintro e w9 ⟨rfl,h9⟩;rw[h9];clear h9 w9) | fail)
         go_roundw;case rel=>exact⟨k+1,by omega,by go_num,by show ∀_,_;rw[HT.out];intro q hq;rcases List.mem_append.1 hq with h | h;exact HAq.out q h;simp at h;rw[h];exact HOk.out,HB⟩
         case measure=>simp[intOf];omega
        ·rw[Vk g2]at HBn
         have HX:=Qaa (bad.out (fun h=>g2 (h.prices _ HQm.out).2));clear g1 g2;go_wp2_with (first | (go_at_call_of 169 (Value.int .i64 qc);with_reducible refine(HBc.out _).mono ?_;rintro e w9 ⟨rfl,h9⟩;rw[h9];clear h9 w9) | (go_at_call 169;refine(HBn.out _).mono ?_;rintro e w9 ⟨rfl,h9⟩;rw[h9];clear h9 w9) | fail)
         go_ret;exact⟨HX.out,HB2.out.trans (HB.out.mono HB2.out.size)⟩
       ·rw[Vk g1]at HBc
        have HX:=Qaa (bad.out (fun h=>g1 (h.prices _ HQm.out).1));clear g1;go_wp2_with (first | (go_at_call 169;refine(HBc.out _).mono ?_;rintro e w9 ⟨rfl,h9⟩;rw[h9];clear h9 w9) | fail)
        go_ret;exact⟨HX.out,HB2.out.trans (HB.out.mono HB2.out.size)⟩
      ·have hkn':¬(k:Int)<(s.rn:Int):=by omega
       have HQs:Hid (∀q∈s.prices,Qbz q):=by have:=HAq.out;rw[Vh (by rw[HS.out.rn];omega)]at this;exact this
       clear HAq;have htl:=HC.out.tills;have htn:c.tills=((c.tills.toNat:Nat):Int):=by omega
       obtain⟨N,hN⟩:=exq c.tills.toNat;rw[hN]at htn;have HNl:=Qaa (show s.ln=N∧s.gn=N∧s.on=N by have h1:=HSp.out.ln;have h2:=HSp.out.gn;have h3:=HSp.out.on;omega);have hNb:N≤1000000:=by omega
       have HTn:=Qaa htn;clear hN htl;rw[htn]at c0;go_wp2_with fail
       go_loopw [7] (fun i wr=>∃t:Nat,t≤N∧i=.int .i64 t∧Hid (∀u:Nat,u<t→QdS s u)∧Hid (Below w2.heap.size w2 wr)) (fun i _=>N - (intOf i).toNat);case atStart=>exact⟨0,Vo _,rfl,fun u h=>by omega,HB⟩
       case round =>
        clear c0 c1 c2 c3 c4 c5 c6 c7 c8 s0 s1 s2 s3 s4 s5 HB hkn hkn' hk;obtain⟨t,ht,rfl,HAt,HB⟩:=hrel;obtain⟨⟨c0,c1,c2,c3,c4,c5,c6,c7,c8⟩,⟨s0,s1,s2,s3,s4,s5⟩⟩:=HZ.out wr HB.out;rw[HTn.out]at c0;obtain⟨e3,e4,e5⟩:=HNl.out;rw[e3]at s3;rw[e4]at s4;rw[e5]at s5;by_cases htN:t<N
        ·have htN':(t:Int)<(N:Int):=by omega
         have t0':(0:Int)≤(t:Int):=by omega
         obtain⟨l,hl⟩:∃l,s.last[t]?=some l:=⟨_,gE (by rw[HS.out.ln,e3];exact htN)⟩;obtain⟨g,hg⟩:∃g,s.gen[t]?=some g:=⟨_,gE (by rw[HS.out.gn,e4];exact htN)⟩;obtain⟨o,ho⟩:∃o,s.owed[t]?=some o:=⟨_,gE (by rw[HS.out.on,e5];exact htN)⟩;obtain⟨lb,lo',el,hlb,hlc⟩:=(HS.out.last.below HB.out).get (i:=t) (r:=uc l) (by rw[Vb,hl];rfl);obtain⟨gb,go',eg,hgb,hgc⟩:=(HS.out.gen.below HB.out).get (i:=t) (r:=uc g) (by rw[Vb,hg];rfl);obtain⟨ob,oo',eo,hob,hoc⟩:=(HS.out.owed.below HB.out).get (i:=t) (r:=QdE o) (by rw[Vb,ho];rfl);have b0:=hlc 0 _ rfl;have b1:=hgc 0 _ rfl;have b2:=hoc 0 _ rfl;rw[Vr,Nat.mul_one]at b0 b1 b2;rw[el]at s3;rw[eg]at s4;rw[eo]at s5;have HTo:Hid (QdS s t↔(l≤1099511627776∧g≤1099511627776∧¬(o=true∧g=0))):=⟨fun h=>h l g o hl hg ho,fun h l' g' o' h1 h2 h3=>by rw[hl]at h1;rw[hg]at h2;rw[ho]at h3;cases h1;cases h2;cases h3;exact h⟩;have HTb:Hid (¬QdS s t→Qgw c cs s (.returned (.bool false))):=fun h=>bad.out (fun k=>h (k.tills t (by rw[HTn.out];exact htN')))
         clear hlc hgc hoc hl hg ho el eg eo e3 e4 e5;by_cases g1:1099511627776<l
         ·have HX:=Qaa (HTb.out (fun h=>by have:=HTo.out.1 h;omega))
          go_wp2_with fail
          go_ret;exact⟨HX.out,HB2.out.trans (HB.out.mono HB2.out.size)⟩
         ·by_cases g2:1099511627776<g
          ·have HX:=Qaa (HTb.out (fun h=>by have:=HTo.out.1 h;omega))
           go_wp2_with fail
           go_ret;exact⟨HX.out,HB2.out.trans (HB.out.mono HB2.out.size)⟩
          ·cases o with
           | true =>
            by_cases g3:g=0
            ·have g3':((g:Int) == 0)=true:=by simp[g3]
             have HX:=Qaa (HTb.out (fun h=>(HTo.out.1 h).2.2 ⟨rfl,g3⟩));clear g3;go_wp2_with fail
             go_ret;exact⟨HX.out,HB2.out.trans (HB.out.mono HB2.out.size)⟩
            ·have g3':((g:Int) == 0)=false:=by simp[g3]
             have HOk:=Qaa (HTo.out.2 ⟨by omega,by omega,fun h=>g3 h.2⟩);clear g3
             have HNx:Hid (∀u:Nat,u<t+1→QdS s u):=fun u hu=>by
              rcases Nat.lt_or_ge u t with q | q
              ·exact HAt.out u q
              ·obtain rfl:u=t:=by omega
               exact HOk.out
             go_wp2_with fail
             go_roundw;case rel=>exact⟨t+1,by omega,by go_num,HNx,HB⟩
             case measure=>simp[intOf];omega
           | false =>
            have HOk:=Qaa (HTo.out.2 ⟨by omega,by omega,fun h=>by cases h.1⟩)
            have HNx:Hid (∀u:Nat,u<t+1→QdS s u):=fun u hu=>by
             rcases Nat.lt_or_ge u t with q | q
             ·exact HAt.out u q
             ·obtain rfl:u=t:=by omega
              exact HOk.out
            go_wp2_with fail
            go_roundw;case rel=>exact⟨t+1,by omega,by go_num,HNx,HB⟩
            case measure=>simp[intOf];omega
        ·have htN':¬(t:Int)<(N:Int):=by omega
         have HX:Hid (Qgw c cs s (.returned (.bool true))):=⟨true,rfl,fun _=>⟨HSp.out,HPo.out,HPl.out,HQs.out,fun u hu=>HAt.out u (by rw[HTn.out]at hu;omega)⟩,fun _=>rfl⟩;go_wp2;go_ret;exact⟨HX.out,HB2.out.trans (HB.out.mono HB2.out.size)⟩
end Go.Proofs.YtiogibfhafoapaaGreat
