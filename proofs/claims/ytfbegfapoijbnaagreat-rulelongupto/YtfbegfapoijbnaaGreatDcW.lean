import Derived.Test.YtfbegfapoijbnaaGreatDcR
import Derived.Test.YtfbegfapoijbnaaGreatZXc
set_option maxRecDepth 100000
namespace Go.Proofs.YtfbegfapoijbnaaGreat
open Go.RowKit Go.Sort
open Z (Ctr ctc)
structure CfgOk (w:World) (c:Cfg) (cs:List Ctr):Prop where
 len:cs.length=c.cl
 cel:Cel w c.cp 4 (cs.map ctc)
 cl:c.cl≤4194304
 pl:c.pl≤4194304
 tills:0≤c.tills∧c.tills≤1000000
 bnd:∀x∈cs,-9007199254740992≤x.lo∧x.lo≤x.st∧x.st≤x.hi∧x.hi≤9007199254740992
theorem CfgOk.below {w w':World} {c:Cfg} {cs:List Ctr} (h:CfgOk w c cs) (hb:Below w.heap.size w w'):CfgOk w' c cs:=⟨h.len,h.cel.below hb,h.cl,h.pl,h.tills,h.bnd⟩
structure StSm (s:Sta):Prop where
 pn:s.pn≤4194304
 rn:s.rn≤4194304
 ln:s.ln≤4194304
 gn:s.gn≤4194304
 on:s.on≤4194304
 hl:∀p∈s.pools,p.hl≤4194304
def TillOk (s:Sta) (t:Nat):Prop:=∀l g o,s.last[t]?=some l→s.gen[t]?=some g→s.owed[t]?=some o→l≤1099511627776∧g≤1099511627776∧¬(o=true∧g=0)
def PricedOk (q:Lin):Prop:=(0≤q.c∧q.c≤1099511627776)∧(0≤q.n∧q.n≤1099511627776)
structure RightOk (c:Cfg) (cs:List Ctr) (s:Sta):Prop where
 shp:Shp c s
 pos:s.pos≤1099511627776
 pools:∀(i:Nat) (x:Ctr) (p:Pl),cs[i]?=some x→s.pools[i]?=some p→PoolOk x.lo x.hi p
 prices:∀q∈s.prices,PricedOk q
 tills:∀t:Nat,(t:Int)<c.tills→TillOk s t
def RightE (c:Cfg) (cs:List Ctr) (s:Sta) (e:Ending):Prop:=∃b:Bool,e=.returned (.bool b)∧(b=true↔RightOk c cs s)
theorem bool_one {p:Prop} {b b':Bool} (h:b=true↔p) (h':b'=true↔p):b=b':=by rw[Bool.eq_iff_iff,h,h']
theorem rpool_q (w:World) (x:Ctr) (p:Pl) (hp:PlOk w p) (hx : -9007199254740992≤x.lo∧x.lo≤x.st∧x.st≤x.hi∧x.hi≤9007199254740992) (hl:p.hl≤140737488355328) (b:Bool) (hb:b=true↔PoolOk x.lo x.hi p):∀d os,Calls Tryz.prog 86 #[.agg #[.string x.name,.int .i64 x.lo,.int .i64 x.hi,.int .i64 x.st],.agg #[.int .i64 p.v,.int .i64 p.f0,.int .i64 p.f1,.slice p.hp p.hl p.hc]] (grow (redrawn w d) os) fun e w''=>e=.returned (.bool b)∧∃q:Regrown,w''=grow (redrawn w q.d) q.os:=fun d os=>Calls.regrown_of ((rpool_any _ x.name x.lo x.hi x.st p ⟨hp.len,hp.cel.below (below_regrown w d os)⟩ hx.1 hx.2.2.2 hl).mono (fun _ _ ⟨⟨b',he,hb'⟩,h⟩=>⟨by rw[he,bool_one hb hb'],h⟩))
set_option maxHeartbeats 4000000 in
theorem rright_state (w:World) (c:Cfg) (cs:List Ctr) (s:Sta) (hc:CfgOk w c cs) (hs:StaOk w s) (hsm:StSm s) :
  Calls Tryz.prog 59 #[c.v,.agg #[.int .u64 s.pos,.slice s.pp s.pn s.pc,.slice s.rp s.rn s.rc,.slice s.lp s.ln s.lc,.slice s.gp s.gn s.gc,.slice s.op s.on s.oc]] w fun e w'=>RightE c cs s e∧Below w.heap.size w w':=by
 obtain⟨w2,hw2,hb2,hx2,hy2⟩:=box_two w #[.int .i64 c.tills,.slice c.cp c.cl c.cc,.slice c.pp c.pl c.pc,.int .i64 c.lease,.int .i64 c.watch,.int .i64 c.beat,.int .i64 c.window,.int .i64 c.cap,.int .i64 c.flight] 37 45 #[.int .u64 s.pos,.slice s.pp s.pn s.pc,.slice s.rp s.rn s.rc,.slice s.lp s.ln s.lc,.slice s.gp s.gn s.gc,.slice s.op s.on s.oc]
 have HW2:=hide hw2
 have HB2:=hide hb2
 have HX2:=hide hx2
 have HY2:=hide hy2
 have HS:=hide (hs.below hb2)
 have HC:=hide (hc.below hb2)
 have HSm:=hide hsm
 have HZ:Hid (∀W,Below w2.heap.size w2 W→(W.cell? ⟨w.heap.size,0,none⟩=some (.int .i64 c.tills)∧W.cell? ⟨w.heap.size,1,none⟩=some (.slice c.cp c.cl c.cc)∧W.cell? ⟨w.heap.size,2,none⟩=some (.slice c.pp c.pl c.pc)∧W.cell? ⟨w.heap.size,3,none⟩=some (.int .i64 c.lease)∧W.cell? ⟨w.heap.size,4,none⟩=some (.int .i64 c.watch)∧W.cell? ⟨w.heap.size,5,none⟩=some (.int .i64 c.beat)∧W.cell? ⟨w.heap.size,6,none⟩=some (.int .i64 c.window)∧W.cell? ⟨w.heap.size,7,none⟩=some (.int .i64 c.cap)∧W.cell? ⟨w.heap.size,8,none⟩=some (.int .i64 c.flight))∧(W.cell? ⟨w.heap.size+1,0,none⟩=some (.int .u64 s.pos)∧W.cell? ⟨w.heap.size+1,1,none⟩=some (.slice s.pp s.pn s.pc)∧W.cell? ⟨w.heap.size+1,2,none⟩=some (.slice s.rp s.rn s.rc)∧W.cell? ⟨w.heap.size+1,3,none⟩=some (.slice s.lp s.ln s.lc)∧W.cell? ⟨w.heap.size+1,4,none⟩=some (.slice s.gp s.gn s.gc)∧W.cell? ⟨w.heap.size+1,5,none⟩=some (.slice s.op s.on s.oc))):=fun W hb=>⟨ac9 ((hb.block _ (ac_lt HX2.out)).trans HX2.out),ac6 ((hb.block _ (ac_lt HY2.out)).trans HY2.out)⟩
 have bad:Hid (¬RightOk c cs s→RightE c cs s (.returned (.bool false))):=fun h=>⟨false,rfl,fun k=>(by cases k),fun k=>absurd k h⟩
 obtain⟨sb,hsb⟩:=bool_of (Shp c s)
 have HSb:=hide hsb
 have HSh:Hid (Calls Tryz.prog 85 #[c.v,.agg #[.int .u64 s.pos,.slice s.pp s.pn s.pc,.slice s.rp s.rn s.rc,.slice s.lp s.ln s.lc,.slice s.gp s.gn s.gc,.slice s.op s.on s.oc]] w2 fun e w'=>e=.returned (.bool sb)∧Below w2.heap.size w2 w'):=(rshaped_any w2 c s HS.out (Nat.le_trans hsm.pn (by omega))).mono (fun _ _ ⟨⟨b',he,hb'⟩,h⟩=>⟨by rw[he,bool_one HSb.out hb'],h⟩)
 unfold Cfg.v at HSh ⊢
 have HR2:Hid (Below w2.heap.size w2 w2):=Below.refl _ _
 obtain⟨⟨c0,c1,c2,c3,c4,c5,c6,c7,c8⟩,⟨s0,s1,s2,s3,s4,s5⟩⟩:=HZ.out w2 HR2.out
 clear hw2 hb2 hx2 hy2 hs hc hsb hsm
 cases hsv:sb with
 | false =>
  rw[hsv]at HSh
  have HX:=hide (bad.out (fun h=>by have:=HSb.out.2 h.shp;rw[hsv]at this;cases this))
  clear hsv
  go_enter Tryz.func59,Tryz.ntmps59
  go_upto_region 1 with (fail)
  rw[HW2.out]
  go_wp2_with (first | (go_at_call 85;refine HSh.out.mono ?_;rintro e w3 ⟨rfl,hb⟩;have HB3:=hide hb;clear hb) | fail)
  go_ret
  exact⟨HX.out,HB2.out.trans (HB3.out.mono HB2.out.size)⟩
 | true =>
  rw[hsv]at HSh
  have HSp:=hide (HSb.out.1 hsv)
  clear hsv
  by_cases q1:1099511627776<s.pos
  ·have HX:=hide (bad.out (fun h=>by have:=h.pos;omega))
   go_enter Tryz.func59,Tryz.ntmps59
   go_upto_region 1 with (fail)
   rw[HW2.out]
   go_wp2_with (first | (go_at_call 85;refine HSh.out.mono ?_;rintro e w3 ⟨rfl,hb⟩;have HB3:=hide hb;clear c0 c1 c2 c3 c4 c5 c6 c7 c8 s0 s1 s2 s3 s4 s5;obtain⟨⟨c0,c1,c2,c3,c4,c5,c6,c7,c8⟩,⟨s0,s1,s2,s3,s4,s5⟩⟩:=HZ.out w3 hb;clear hb) | fail)
   go_ret
   exact⟨HX.out,HB2.out.trans (HB3.out.mono HB2.out.size)⟩
  ·have HPo:Hid (s.pos≤1099511627776):=by show _≤_;omega
   go_enter Tryz.func59,Tryz.ntmps59
   go_upto_region 1 with (fail)
   rw[HW2.out]
   go_upto_region 3 with (first | (go_at_call 85;refine HSh.out.mono ?_;rintro e w3 ⟨rfl,hb⟩;have HB3:=hide hb;clear c0 c1 c2 c3 c4 c5 c6 c7 c8 s0 s1 s2 s3 s4 s5;obtain⟨⟨c0,c1,c2,c3,c4,c5,c6,c7,c8⟩,⟨s0,s1,s2,s3,s4,s5⟩⟩:=HZ.out w3 hb;clear hb) | fail)
   go_wp2_with fail
   go_loopw [5] (fun i wr=>∃j:Nat,j≤s.pn∧i=.int .i64 j∧Hid (∀(i:Nat) (x:Ctr) (p:Pl),i<j→cs[i]?=some x→s.pools[i]?=some p→PoolOk x.lo x.hi p)∧Hid (Below w2.heap.size w2 wr)) (fun i _=>s.pn - (intOf i).toNat)
   case atStart=>exact⟨0,Nat.zero_le _,rfl,fun i x p h=>by omega,HB3⟩
   case round =>
    clear c0 c1 c2 c3 c4 c5 c6 c7 c8 s0 s1 s2 s3 s4 s5 HB3 q1
    obtain⟨j,hj,rfl,HA,HB⟩:=hrel
    obtain⟨⟨c0,c1,c2,c3,c4,c5,c6,c7,c8⟩,⟨s0,s1,s2,s3,s4,s5⟩⟩:=HZ.out wr HB.out
    have hpm:=HSm.out.pn
    by_cases hlt:j<s.pn
    ·have hlt':(j:Int)<(s.pn:Int):=by omega
     have hlc':(j:Int)<(c.cl:Int):=by have:=HSp.out.pn;omega
     have j0':(0:Int)≤(j:Int):=by omega
     obtain⟨P,hP⟩:∃P,s.pools[j]?=some P:=⟨_,List.getElem?_eq_getElem (by rw[HS.out.pn];exact hlt)⟩
     obtain⟨x,hx⟩:∃x,cs[j]?=some x:=⟨_,List.getElem?_eq_getElem (by rw[HC.out.len];have:=HSp.out.pn;omega)⟩
     obtain⟨pb,po,ep,hpb,hpc⟩:=(HS.out.pools.below HB.out).get (i:=j) (r:=plc P) (by rw[List.getElem?_map,hP];rfl)
     obtain⟨xb,xo,ex,hxb,hxc⟩:=(HC.out.cel.below HB.out).get (i:=j) (r:=ctc x) (by rw[List.getElem?_map,hx];rfl)
     obtain⟨ob,hob⟩:=bool_of (PoolOk x.lo x.hi P)
     have HOb:=hide hob
     have hPk:=(HS.out.below HB.out).held P (List.mem_of_getElem? hP)
     have HPq:=hide (rpool_q wr x P hPk (HC.out.bnd x (List.mem_of_getElem? hx)) (Nat.le_trans (HSm.out.hl P (List.mem_of_getElem? hP)) (by omega)) ob hob)
     have HNx:=hide (show ∀(x':Ctr) (p':Pl),cs[j]?=some x'→s.pools[j]?=some p'→x'=x∧p'=P from fun x' p' h1 h2=>by rw[hx]at h1;rw[hP]at h2;cases h1;cases h2;exact⟨rfl,rfl⟩)
     have HPx:=hide (show RightOk c cs s→PoolOk x.lo x.hi P from fun h=>h.pools j x P hx hP)
     have b0:=cell_regrown (hpc 0 _ rfl)
     have b1:=cell_regrown (hpc 1 _ rfl)
     have b2:=cell_regrown (hpc 2 _ rfl)
     have b3:=cell_regrown (hpc 3 _ rfl)
     have d0:=cell_regrown (hxc 0 _ rfl)
     have d1:=cell_regrown (hxc 1 _ rfl)
     have d2:=cell_regrown (hxc 2 _ rfl)
     have d3:=cell_regrown (hxc 3 _ rfl)
     simp only[Nat.add_zero]at b0 d0
     rw[ep]at s1
     rw[ex]at c1
     have r1:=cell_regrown s1
     have r2:=cell_regrown c1
     have HEnd:=hide (regrown_end wr)
     obtain⟨x0,x1,x2,x3⟩:=x
     simp only at HPq d0 d1 d2 d3 HPx HOb HNx
     clear hpc hxc hP hx ep ex hob hPk
     cases hov:ob with
     | false =>
      rw[hov]at HPq
      have HX:=hide (bad.out (fun h=>by have:=HOb.out.2 (HPx.out h);rw[hov]at this;cases this))
      clear hov
      go_upto_region 6 with (fail)
      refine wp_region_quiet_below (by kernel_rfl) (by kernel_rfl) ?_
      repeat (go_big_quiet_step (first | (go_at_call 86;exact HPq.out _ _)))
      refine wpQuiet_nil ?_
      intro w3 hw'
      obtain⟨⟨dq,osq⟩,hw''⟩:=hw'
      obtain⟨wq,hwq,hb3⟩:=HEnd.out dq osq
      rw[hwq]at hw''
      rw[←hw'']at hb3
      have HB3:=hide hb3
      clear hwq hb3 hw'' wq
      go_wp2
      go_ret
      exact⟨HX.out,HB2.out.trans ((HB.out.trans (HB3.out.mono HB.out.size)).mono HB2.out.size)⟩
     | true =>
      rw[hov]at HPq
      have HOk:=hide (HOb.out.1 hov)
      clear hov
      go_upto_region 6 with (fail)
      refine wp_region_quiet_below (by kernel_rfl) (by kernel_rfl) ?_
      repeat (go_big_quiet_step (first | (go_at_call 86;exact HPq.out _ _)))
      refine wpQuiet_nil ?_
      intro w3 hw'
      obtain⟨⟨dq,osq⟩,hw''⟩:=hw'
      obtain⟨wq,hwq,hb3⟩:=HEnd.out dq osq
      rw[hwq]at hw''
      rw[←hw'']at hb3
      have HB3:=hide hb3
      clear hwq hb3 hw'' wq
      go_wp2
      go_roundw
      case rel =>
       refine⟨j+1,by omega,by go_num,?_,HB.out.trans (HB3.out.mono HB.out.size)⟩
       show ∀_,_
       intro i x' p' hi h1 h2
       rcases Nat.lt_or_ge i j with hij | hij
       ·exact HA.out i x' p' hij h1 h2
       ·obtain rfl:i=j:=by omega
        obtain⟨rfl,rfl⟩:=HNx.out x' p' h1 h2
        exact HOk.out
      case measure=>simp[intOf];omega
    ·have hlt':¬(j:Int)<(s.pn:Int):=by omega
     have HPl:Hid (∀(i:Nat) (x:Ctr) (p:Pl),cs[i]?=some x→s.pools[i]?=some p→PoolOk x.lo x.hi p):=fun i x p h1 h2=>HA.out i x p (by have:=(List.getElem?_eq_some_iff.1 h2).1;rw[HS.out.pn]at this;omega) h1 h2
     clear HA
     have hrm:=HSm.out.rn
     go_wp2_with fail
     go_loopw [6] (fun i wr=>∃j:Nat,j≤s.rn∧i=.int .i64 j∧Hid (∀q∈s.prices.take j,PricedOk q)∧Hid (Below w2.heap.size w2 wr)) (fun i _=>s.rn - (intOf i).toNat)
     case atStart=>exact⟨0,Nat.zero_le _,rfl,by intro q hq;simp at hq,HB⟩
     case round =>
      clear c0 c1 c2 c3 c4 c5 c6 c7 c8 s0 s1 s2 s3 s4 s5 HB hlt hlt' hj
      obtain⟨k,hk,rfl,HAq,HB⟩:=hrel
      obtain⟨⟨c0,c1,c2,c3,c4,c5,c6,c7,c8⟩,⟨s0,s1,s2,s3,s4,s5⟩⟩:=HZ.out wr HB.out
      by_cases hkn:k<s.rn
      ·have hkn':(k:Int)<(s.rn:Int):=by omega
       have k0':(0:Int)≤(k:Int):=by omega
       obtain⟨Q,hQ⟩:∃Q,s.prices[k]?=some Q:=⟨_,List.getElem?_eq_getElem (by rw[HS.out.rn];exact hkn)⟩
       obtain⟨pb,po,ep,hpb,hpc⟩:=(HS.out.prices.below HB.out).get (i:=k) (r:=linc Q) (by rw[List.getElem?_map,hQ];rfl)
       have b0:=hpc 0 _ rfl
       have b1:=hpc 1 _ rfl
       rw[Nat.add_zero]at b0
       rw[ep]at s2
       have HQm:=hide (List.mem_of_getElem? hQ)
       have HT:=hide (show s.prices.take (k+1)=s.prices.take k++[Q] from take_snoc hQ)
       obtain⟨qc,qn⟩:=Q
       have HBc:=hide (fun W=>rbetween_any W qc 0 1099511627776)
       have HBn:=hide (fun W=>rbetween_any W qn 0 1099511627776)
       simp only at b0 b1
       clear hpc hQ ep
       by_cases g1:0≤qc∧qc≤1099511627776
       ·rw[decide_eq_true g1]at HBc
        by_cases g2:0≤qn∧qn≤1099511627776
        ·rw[decide_eq_true g2]at HBn
         have HOk:Hid (PricedOk ⟨qc,qn⟩):=⟨g1,g2⟩
         clear g1 g2
         go_wp2_with (first | (go_at_call_of 87 (Value.int .i64 qc);with_reducible refine(HBc.out _).mono ?_;rintro e w9 ⟨rfl,h9⟩;rw[h9];clear h9 w9) | (go_at_call 87;refine(HBn.out _).mono ?_;rintro e w9 ⟨rfl,h9⟩;rw[h9];clear h9 w9) | fail)
         go_roundw
         case rel=>exact⟨k+1,by omega,by go_num,by show ∀_,_;rw[HT.out];intro q hq;rcases List.mem_append.1 hq with h | h;exact HAq.out q h;simp at h;rw[h];exact HOk.out,HB⟩
         case measure=>simp[intOf];omega
        ·rw[decide_eq_false g2]at HBn
         have HX:=hide (bad.out (fun h=>g2 (h.prices _ HQm.out).2))
         clear g1 g2
         go_wp2_with (first | (go_at_call_of 87 (Value.int .i64 qc);with_reducible refine(HBc.out _).mono ?_;rintro e w9 ⟨rfl,h9⟩;rw[h9];clear h9 w9) | (go_at_call 87;refine(HBn.out _).mono ?_;rintro e w9 ⟨rfl,h9⟩;rw[h9];clear h9 w9) | fail)
         go_ret
         exact⟨HX.out,HB2.out.trans (HB.out.mono HB2.out.size)⟩
       ·rw[decide_eq_false g1]at HBc
        have HX:=hide (bad.out (fun h=>g1 (h.prices _ HQm.out).1))
        clear g1
        go_wp2_with (first | (go_at_call 87;refine(HBc.out _).mono ?_;rintro e w9 ⟨rfl,h9⟩;rw[h9];clear h9 w9) | fail)
        go_ret
        exact⟨HX.out,HB2.out.trans (HB.out.mono HB2.out.size)⟩
      ·have hkn':¬(k:Int)<(s.rn:Int):=by omega
       have HQs:Hid (∀q∈s.prices,PricedOk q):=by have:=HAq.out;rw[List.take_of_length_le (by rw[HS.out.rn];omega)]at this;exact this
       clear HAq
       have htl:=HC.out.tills
       have htn:c.tills=((c.tills.toNat:Nat):Int):=by omega
       obtain⟨N,hN⟩:∃N:Nat,c.tills.toNat=N:=⟨_,rfl⟩
       rw[hN]at htn
       have HNl:=hide (show s.ln=N∧s.gn=N∧s.on=N by have h1:=HSp.out.ln;have h2:=HSp.out.gn;have h3:=HSp.out.on;omega)
       have hNb:N≤1000000:=by omega
       have HTn:=hide htn
       clear hN htl
       rw[htn]at c0
       go_wp2_with fail
       go_loopw [7] (fun i wr=>∃t:Nat,t≤N∧i=.int .i64 t∧Hid (∀u:Nat,u<t→TillOk s u)∧Hid (Below w2.heap.size w2 wr)) (fun i _=>N - (intOf i).toNat)
       case atStart=>exact⟨0,Nat.zero_le _,rfl,fun u h=>by omega,HB⟩
       case round =>
        clear c0 c1 c2 c3 c4 c5 c6 c7 c8 s0 s1 s2 s3 s4 s5 HB hkn hkn' hk
        obtain⟨t,ht,rfl,HAt,HB⟩:=hrel
        obtain⟨⟨c0,c1,c2,c3,c4,c5,c6,c7,c8⟩,⟨s0,s1,s2,s3,s4,s5⟩⟩:=HZ.out wr HB.out
        rw[HTn.out]at c0
        obtain⟨e3,e4,e5⟩:=HNl.out
        rw[e3]at s3
        rw[e4]at s4
        rw[e5]at s5
        by_cases htN:t<N
        ·have htN':(t:Int)<(N:Int):=by omega
         have t0':(0:Int)≤(t:Int):=by omega
         obtain⟨l,hl⟩:∃l,s.last[t]?=some l:=⟨_,List.getElem?_eq_getElem (by rw[HS.out.ln,e3];exact htN)⟩
         obtain⟨g,hg⟩:∃g,s.gen[t]?=some g:=⟨_,List.getElem?_eq_getElem (by rw[HS.out.gn,e4];exact htN)⟩
         obtain⟨o,ho⟩:∃o,s.owed[t]?=some o:=⟨_,List.getElem?_eq_getElem (by rw[HS.out.on,e5];exact htN)⟩
         obtain⟨lb,lo',el,hlb,hlc⟩:=(HS.out.last.below HB.out).get (i:=t) (r:=uc l) (by rw[List.getElem?_map,hl];rfl)
         obtain⟨gb,go',eg,hgb,hgc⟩:=(HS.out.gen.below HB.out).get (i:=t) (r:=uc g) (by rw[List.getElem?_map,hg];rfl)
         obtain⟨ob,oo',eo,hob,hoc⟩:=(HS.out.owed.below HB.out).get (i:=t) (r:=boolc o) (by rw[List.getElem?_map,ho];rfl)
         have b0:=hlc 0 _ rfl
         have b1:=hgc 0 _ rfl
         have b2:=hoc 0 _ rfl
         rw[Nat.add_zero,Nat.mul_one]at b0 b1 b2
         rw[el]at s3
         rw[eg]at s4
         rw[eo]at s5
         have HTo:Hid (TillOk s t↔(l≤1099511627776∧g≤1099511627776∧¬(o=true∧g=0))):=⟨fun h=>h l g o hl hg ho,fun h l' g' o' h1 h2 h3=>by rw[hl]at h1;rw[hg]at h2;rw[ho]at h3;cases h1;cases h2;cases h3;exact h⟩
         have HTb:Hid (¬TillOk s t→RightE c cs s (.returned (.bool false))):=fun h=>bad.out (fun k=>h (k.tills t (by rw[HTn.out];exact htN')))
         clear hlc hgc hoc hl hg ho el eg eo e3 e4 e5
         by_cases g1:1099511627776<l
         ·have HX:=hide (HTb.out (fun h=>by have:=HTo.out.1 h;omega))
          go_wp2_with fail
          go_ret
          exact⟨HX.out,HB2.out.trans (HB.out.mono HB2.out.size)⟩
         ·by_cases g2:1099511627776<g
          ·have HX:=hide (HTb.out (fun h=>by have:=HTo.out.1 h;omega))
           go_wp2_with fail
           go_ret
           exact⟨HX.out,HB2.out.trans (HB.out.mono HB2.out.size)⟩
          ·cases o with
           | true =>
            by_cases g3:g=0
            ·have g3':((g:Int) == 0)=true:=by simp[g3]
             have HX:=hide (HTb.out (fun h=>(HTo.out.1 h).2.2 ⟨rfl,g3⟩))
             clear g3
             go_wp2_with fail
             go_ret
             exact⟨HX.out,HB2.out.trans (HB.out.mono HB2.out.size)⟩
            ·have g3':((g:Int) == 0)=false:=by simp[g3]
             have HOk:=hide (HTo.out.2 ⟨by omega,by omega,fun h=>g3 h.2⟩)
             clear g3
             have HNx:Hid (∀u:Nat,u<t+1→TillOk s u):=fun u hu=>by
              rcases Nat.lt_or_ge u t with q | q
              ·exact HAt.out u q
              ·obtain rfl:u=t:=by omega
               exact HOk.out
             go_wp2_with fail
             go_roundw
             case rel=>exact⟨t+1,by omega,by go_num,HNx,HB⟩
             case measure=>simp[intOf];omega
           | false =>
            have HOk:=hide (HTo.out.2 ⟨by omega,by omega,fun h=>by cases h.1⟩)
            have HNx:Hid (∀u:Nat,u<t+1→TillOk s u):=fun u hu=>by
             rcases Nat.lt_or_ge u t with q | q
             ·exact HAt.out u q
             ·obtain rfl:u=t:=by omega
              exact HOk.out
            go_wp2_with fail
            go_roundw
            case rel=>exact⟨t+1,by omega,by go_num,HNx,HB⟩
            case measure=>simp[intOf];omega
        ·have htN':¬(t:Int)<(N:Int):=by omega
         have HX:Hid (RightE c cs s (.returned (.bool true))):=⟨true,rfl,fun _=>⟨HSp.out,HPo.out,HPl.out,HQs.out,fun u hu=>HAt.out u (by rw[HTn.out]at hu;omega)⟩,fun _=>rfl⟩
         go_wp2
         go_ret
         exact⟨HX.out,HB2.out.trans (HB.out.mono HB2.out.size)⟩
end Go.Proofs.YtfbegfapoijbnaaGreat
namespace Go.Proofs.YtfbegfapoijbnaaGreat
open Go.RowKit
open Z (Sli SlOk Elt)
theorem elt_pool:Elt plc 4 48 40 81:=⟨fun _=>rfl,fun x u hu=>by simp[plc]at hu;rcases hu with rfl | rfl | rfl | rfl <;> rfl,by omega,Tryz.underlying40,by
 obtain⟨i,h⟩:=info_parts (show (Tryz.prog.info? 81).map (fun i=>(i.zero,i.size,i.bytes))=some (some (.agg #[.int .i64 0,.int .i64 0,.int .i64 0,.slice none 0 0]),4,48) by kernel_rfl)
 exact⟨i,_,h.1,h.2.1,h.2.2.1,h.2.2.2,rfl⟩,by omega⟩
theorem elt_two:Elt linc 2 16 79 78:=⟨fun _=>rfl,fun x u hu=>by simp[linc]at hu;rcases hu with rfl | rfl <;> rfl,by omega,Tryz.underlying79,by
 obtain⟨i,h⟩:=info_parts (show (Tryz.prog.info? 78).map (fun i=>(i.zero,i.size,i.bytes))=some (some (.agg #[.int .i64 0,.int .i64 0]),2,16) by kernel_rfl)
 exact⟨i,_,h.1,h.2.1,h.2.2.1,h.2.2.2,rfl⟩,by omega⟩
theorem elt_priced:Elt linc 2 16 41 83:=⟨fun _=>rfl,fun x u hu=>by simp[linc]at hu;rcases hu with rfl | rfl <;> rfl,by omega,Tryz.underlying41,by
 obtain⟨i,h⟩:=info_parts (show (Tryz.prog.info? 83).map (fun i=>(i.zero,i.size,i.bytes))=some (some (.agg #[.int .i64 0,.int .i64 0]),2,16) by kernel_rfl)
 exact⟨i,_,h.1,h.2.1,h.2.2.1,h.2.2.2,rfl⟩,by omega⟩
theorem elt_u64:Elt uc 1 8 42 39:=⟨fun _=>rfl,fun x u hu=>by simp[uc]at hu;subst hu;rfl,by omega,Tryz.underlying42,by
 obtain⟨i,h⟩:=info_parts (show (Tryz.prog.info? 39).map (fun i=>(i.zero,i.size,i.bytes))=some (some (.int .u64 0),1,8) by kernel_rfl)
 exact⟨i,_,h.1,h.2.1,h.2.2.1,h.2.2.2,rfl⟩,by omega⟩
theorem elt_flag:Elt boolc 1 1 43 4:=⟨fun _=>rfl,fun x u hu=>by simp[boolc]at hu;subst hu;rfl,by omega,Tryz.underlying43,by
 obtain⟨i,h⟩:=info_parts (show (Tryz.prog.info? 4).map (fun i=>(i.zero,i.size,i.bytes))=some (some (.bool false),1,1) by kernel_rfl)
 exact⟨i,_,h.1,h.2.1,h.2.2.1,h.2.2.2,rfl⟩,by omega⟩
structure PlP where
 v:Int
 f0:Int
 f1:Int
 hs:List Lin
structure StP where
 pos:Int
 pools:List PlP
 prices:List Lin
 last:List Int
 gen:List Int
 owed:List Bool
def Pl.d (x:Pl):PlP:=⟨x.v,x.f0,x.f1,x.hs⟩
def Sta.d (s:Sta):StP:=⟨s.pos,s.pools.map Pl.d,s.prices,s.last,s.gen,s.owed⟩
def Pl.hv (x:Pl):Value:=.slice x.hp x.hl x.hc
structure StaOw (B:Nat) (w:World) (s:Sta):Prop where
 pn:s.pools.length=s.pn
 pools:w.ownsRow B 81 4 (.slice s.pp s.pn s.pc) s.pn (Z.flat plc s.pools)
 hlen:∀x∈s.pools,x.hs.length=x.hl
 held:∀x∈s.pools,w.ownsRow B 78 2 x.hv x.hl (Z.flat linc x.hs)
 apart:∀(i j:Nat) (x y:Pl),s.pools[i]?=some x→s.pools[j]?=some y→i≠j→∀g,x.hv.ownBlock=some g→y.hv.ownBlock≠some g
 rn:s.prices.length=s.rn
 prices:w.ownsRow B 83 2 (.slice s.rp s.rn s.rc) s.rn (Z.flat linc s.prices)
 ln:s.last.length=s.ln
 last:w.ownsRow B 39 1 (.slice s.lp s.ln s.lc) s.ln (Z.flat uc s.last)
 gn:s.gen.length=s.gn
 gen:w.ownsRow B 39 1 (.slice s.gp s.gn s.gc) s.gn (Z.flat uc s.gen)
 on:s.owed.length=s.on
 owed:w.ownsRow B 4 1 (.slice s.op s.on s.oc) s.on (Z.flat boolc s.owed)
 lg:∀g,(Value.slice s.lp s.ln s.lc).ownBlock=some g→(Value.slice s.gp s.gn s.gc).ownBlock≠some g
theorem StaOw.ok {B:Nat} {w:World} {s:Sta} (h:StaOw B w s):StaOk w s :=
 ⟨h.pn,Z.cel_row (f:=plc) (sz:=4) (fun _=>rfl) h.pools h.pn,fun x hx=>⟨h.hlen x hx,Z.cel_row (f:=linc) (sz:=2) (fun _=>rfl) (h.held x hx) (h.hlen x hx)⟩,h.rn,Z.cel_row (f:=linc) (sz:=2) (fun _=>rfl) h.prices h.rn,h.ln,Z.cel_row (f:=uc) (sz:=1) (fun _=>rfl) h.last h.ln,h.gn,Z.cel_row (f:=uc) (sz:=1) (fun _=>rfl) h.gen h.gn,h.on,Z.cel_row (f:=boolc) (sz:=1) (fun _=>rfl) h.owed h.on⟩
theorem StaOw.by {B B':Nat} {w w':World} {s:Sta} (h:StaOw B w s) (hk:∀e' sz' v n xs,w.ownsRow B e' sz' v n xs→w'.ownsRow B' e' sz' v n xs):StaOw B' w' s :=
 ⟨h.pn,hk _ _ _ _ _ h.pools,h.hlen,fun x hx=>hk _ _ _ _ _ (h.held x hx),h.apart,h.rn,hk _ _ _ _ _ h.prices,h.ln,hk _ _ _ _ _ h.last,h.gn,hk _ _ _ _ _ h.gen,h.on,hk _ _ _ _ _ h.owed,h.lg⟩
theorem StaOw.below {B:Nat} {w w':World} {s:Sta} (h:StaOw B w s) (hb:Below w.heap.size w w'):StaOw B w' s:=h.by (fun _ _ _ _ _ hr=>Z.owns_keep hr hb)
theorem StaOw.le {B B':Nat} {w:World} {s:Sta} (h:StaOw B w s) (hb:B'≤B):StaOw B' w s:=h.by (fun _ _ _ _ _ hr=>Z.owns_le hr hb)
end Go.Proofs.YtfbegfapoijbnaaGreat
namespace Go.Proofs.YtfbegfapoijbnaaGreat
open Go.RowKit
open Z (Sli SlOk Elt)
def frL (p:Pl):Lin:=⟨p.f0,p.f1⟩
def frW (f:Lin) (n:Int):Int:=if n<0 then f.c else f.n
def frMv (f:Lin) (n k:Int):Lin:=if n<0 then ⟨wrap64 (f.c - k),wrap64 (f.n+k)⟩ else ⟨wrap64 (f.c+k),wrap64 (f.n - k)⟩
def clCut (F:List Lin) (x:Lin):Int:=cutR x.n (frW (F.getD x.c.toNat ⟨0,0⟩) x.n)
def clStep (p:List Lin × List Lin) (x:Lin):List Lin × List Lin :=
 if clCut p.1 x=0 then p else (p.1.set x.c.toNat (frMv (p.1.getD x.c.toNat ⟨0,0⟩) x.n (amtOf (clCut p.1 x))),p.2++[⟨x.c,clCut p.1 x⟩])
def clampF (s:Sta) (xs:List Lin):List Lin × List Lin:=xs.foldl clStep (s.pools.map frL,[])
def clampD (s:Sta) (xs:List Lin) (qs:List Tri):Int × List Lin × List Tri × Int :=
 if (clampF s xs).2.length=0∧(qs.filter s.want).length=0 then (3,[],[],0) else (2,(clampF s xs).2,(qs.filter s.want).map s.raise,0)
theorem clampF_snoc (s:Sta) (xs:List Lin) (x:Lin):clampF s (xs++[x])=clStep (clampF s xs) x:=by simp[clampF]
theorem clStep_len (p:List Lin × List Lin) (x:Lin):(clStep p x).1.length=p.1.length∧(clStep p x).2.length≤p.2.length+1:=by
 unfold clStep
 split
 ·exact⟨rfl,by omega⟩
 ·exact⟨by simp,by simp⟩
theorem clFold_len (xs:List Lin):∀p:List Lin × List Lin,(xs.foldl clStep p).1.length=p.1.length∧(xs.foldl clStep p).2.length≤p.2.length+xs.length:=by
 induction xs with
 | nil=>intro p;exact⟨rfl,by simp⟩
 | cons x xs ih =>
  intro p
  obtain⟨h1,h2⟩:=ih (clStep p x)
  obtain⟨h3,h4⟩:=clStep_len p x
  exact⟨by simp only[List.foldl_cons];rw[h1,h3],by simp only[List.foldl_cons,List.length_cons];omega⟩
theorem clampF_len (s:Sta) (xs:List Lin):(clampF s xs).1.length=s.pools.length∧(clampF s xs).2.length≤xs.length:=by
 obtain⟨h1,h2⟩:=clFold_len xs (s.pools.map frL,[])
 exact⟨by unfold clampF;rw[h1];simp,by unfold clampF;simpa using h2⟩
theorem wrap_i64 (n:Int):IntKind.i64.wrap n=wrap64 n:=by simp[IntKind.wrap,IntKind.bits,IntKind.signed,wrap64];split <;> omega
theorem wf_wrap64 (n:Int):(Lit.int .i64 (wrap64 n)).wf=true:=wf_wrap n
theorem wf_of_rng {n:Int} (h1 : -9223372036854775808≤n) (h2:n≤9223372036854775807):(Lit.int .i64 n).wf=true:=by
 simp[Lit.wf,IntKind.min,IntKind.max,IntKind.signed,IntKind.bits]
 omega
theorem rng_of_wf {n:Int} (h:(Lit.int .i64 n).wf=true) : -9223372036854775808≤n∧n≤9223372036854775807:=by
 simp[Lit.wf,IntKind.min,IntKind.max,IntKind.signed,IntKind.bits]at h
 omega
theorem cutR_wf {n f:Int} (hn:(Lit.int .i64 n).wf=true) (hf:(Lit.int .i64 f).wf=true):(Lit.int .i64 (cutR n f)).wf=true:=by
 have h1:=rng_of_wf hn
 have h2:=rng_of_wf hf
 unfold cutR
 split
 ·exact wf_of_rng (by omega) (by omega)
 ·split
  ·exact hn
  ·split
   ·exact wf_of_rng (by omega) (by omega)
   ·exact hf
theorem frMv_wf (f:Lin) (n k:Int):LinWf (frMv f n k):=by
 unfold frMv
 split
 ·exact⟨wf_wrap64 _,wf_wrap64 _⟩
 ·exact⟨wf_wrap64 _,wf_wrap64 _⟩
theorem clStep_wf {p:List Lin × List Lin} (x:Lin) (h:∀f∈p.1,LinWf f):∀f∈(clStep p x).1,LinWf f:=by
 unfold clStep
 split
 ·exact h
 ·intro f hf
  rcases List.mem_or_eq_of_mem_set hf with h1 | h1
  ·exact h f h1
  ·rw[h1];exact frMv_wf _ _ _
theorem clampF_wf {s:Sta} (hw:∀p∈s.pools,LinWf (frL p)) (xs:List Lin):∀f∈(clampF s xs).1,LinWf f:=by
 unfold clampF
 have:∀p:List Lin × List Lin,(∀f∈p.1,LinWf f)→∀f∈(xs.foldl clStep p).1,LinWf f:=by
  induction xs with
  | nil=>intro p h;exact h
  | cons x xs ih=>intro p h;exact ih _ (clStep_wf x h)
 exact this _ (fun f hf=>by obtain⟨p,hp,rfl⟩:=List.mem_map.1 hf;exact hw p hp)
theorem rcells_flat (xs:List Tri):rcells xs=Z.flat tric xs:=by
 induction xs with
 | nil=>rfl
 | cons x xs ih=>rw[show Z.flat tric (x :: xs)=tric x++Z.flat tric xs from rfl,←ih];rfl
theorem flat_rep (n:Nat):Z.flat linc (List.replicate n ⟨0,0⟩)=List.replicate (n*2) (.int .i64 0):=by
 induction n with
 | zero=>rfl
 | succ n ih=>rw[List.replicate_succ,show Z.flat linc (⟨0,0⟩ :: List.replicate n ⟨0,0⟩)=linc ⟨0,0⟩++Z.flat linc (List.replicate n ⟨0,0⟩) from rfl,ih,show (n+1)*2=n*2+1+1 by omega,List.replicate_succ,List.replicate_succ];rfl
def frRow (s:Sta) (j:Nat):List Lin:=(s.pools.take j).map frL++List.replicate (s.pn - j) ⟨0,0⟩
theorem frRow_set {s:Sta} (h:s.pools.length=s.pn) {j:Nat} {P:Pl} (hP:s.pools[j]?=some P):(frRow s j).set j (frL P)=frRow s (j+1)∧(frRow s j)[j]?=some ⟨0,0⟩:=by
 have hj:j<s.pn:=by rw[←h];exact(List.getElem?_eq_some_iff.1 hP).1
 have hl:((s.pools.take j).map frL).length=j:=by simp;omega
 have e:s.pn - j=(s.pn - (j+1))+1:=by omega
 unfold frRow
 refine⟨?_,?_⟩
 ·rw[List.set_append_right _ _ (by omega),hl,Nat.sub_self,e,List.replicate_succ,List.set_cons_zero,Z.take_snoc hP,List.map_append,List.append_assoc]
  rfl
 ·rw[List.getElem?_append_right (by omega),hl,Nat.sub_self,e,List.replicate_succ]
  rfl
end Go.Proofs.YtfbegfapoijbnaaGreat
