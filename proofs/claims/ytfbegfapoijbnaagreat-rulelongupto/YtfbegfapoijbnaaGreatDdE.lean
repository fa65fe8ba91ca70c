import Derived.Test.YtfbegfapoijbnaaGreatTk
import Derived.Test.YtfbegfapoijbnaaGreatDcV
set_option maxRecDepth 100000
namespace Go.Proofs.YtfbegfapoijbnaaGreat
open Go.RowKit
open Z (Sli SlOk Acd AcdOk Elt)
set_option linter.unusedSimpArgs false in
set_option maxHeartbeats 4000000 in
theorem rjudge_41 (w:World) (s:Sta) (hs:StaOk w s) (_hpm:s.pn≤4194304) (_hpw:∀p∈s.pools,LinWf (frL p)) (a:Acd) (_hok:AcdOk w a) (hrg:JudgeRg s a) (hk1:a.kind=4) (hway:a.rb=1) :
  Calls Tryz.prog 58 #[.agg #[.int .u64 s.pos,.slice s.pp s.pn s.pc,.slice s.rp s.rn s.rc,.slice s.lp s.ln s.lc,.slice s.gp s.gn s.gc,.slice s.op s.on s.oc],.agg #[.int .i64 a.till,.int .u64 a.num,.int .i64 a.kind,.bool a.sure,.slice a.lines.p a.lines.n a.lines.c,.slice a.guards.p a.guards.n a.guards.c,.slice a.sets.p a.sets.n a.sets.c,.int .i64 a.mg,.slice a.other.p a.other.n a.other.c,.int .i64 a.ra,.int .i64 a.rb,.int .i64 a.rd,.int .i64 a.to,.int .u64 a.gen,.slice a.rights.p a.rights.n a.rights.c]] w fun e w'=>∃T:Tld,e=.returned (.agg T.arr)∧T.d=judgeD s a∧TldOk w' T∧T.far w.heap.size a∧Below w.heap.size w w':=by
 have e1:(a.kind == 1)=false:=by simp[hk1]
 have e2:(a.kind == 2)=false:=by simp[hk1]
 have e3:(a.kind == 3)=false:=by simp[hk1]
 have e4:(a.kind == 4)=true:=by simp[hk1]
 obtain⟨w2,hw2,hJ⟩:=jb_new w s a
 have HW2:=hide hw2
 have HJ:=hide hJ
 obtain⟨t,ht,hth,-,-⟩:=hrg.till
 obtain⟨⟨k,hka,hkn⟩,hq⟩:=hrg.right (by omega) (by omega)
 simp only at hka hq
 obtain⟨P,l,pb,po,hb,ho,hPA⟩:=pl_at hs hkn hth
 obtain⟨v0,v1⟩:=free_at hPA.at_
 obtain⟨u0,u1⟩:=held_at hPA.at_ hPA.pair
 have HZ:=hide hPA.cells
 have k1:=hPA.kn
 have t1:=hPA.tn
 have k0:(0:Int)≤(k:Int):=by omega
 have t0:(0:Int)≤(t:Int):=by omega
 obtain⟨t2,ht2,hth2⟩:=hrg.dest hk1
 obtain⟨P2,l2,pb2,po2,hb2,ho2,hPB⟩:=pl_at hs hkn hth2
 obtain rfl:P=P2:=by have h1:=hPB.at_;rw[hPA.at_]at h1;exact Option.some.inj h1
 obtain⟨rfl,rfl⟩:hb=hb2∧ho=ho2:=by have h1:=hPB.hp;rw[hPA.hp]at h1;simp at h1;exact h1
 obtain⟨y0,y1⟩:=held_at hPB.at_ hPB.pair
 have HZ2:Hid (∀W,Below w.heap.size w W→W.cell? ⟨hb,ho+t2*2,none⟩=some (.int .i64 l2.c)∧W.cell? ⟨hb,ho+t2*2+1,none⟩=some (.int .i64 l2.n)):=fun W hW=>(hPB.cells W hW).2.2.2.2
 have t3:=hPB.tn
 have t4:(0:Int)≤(t2:Int):=by omega
 have HD:Hid (judgeD s a=(doneD (decide (a.rd≤s.held t k a.rb) && decide (s.held t2 k a.rb≤wrap64 (18014398509481984 - a.rd))),[],[],0)):=by show _=_;unfold judgeD;rw[if_neg (by omega),if_neg (by omega),if_neg (by omega),if_pos hk1,ht,hka,ht2]
 obtain⟨rd,hrd⟩:∃r,a.rd=r:=⟨_,rfl⟩
 rw[hrd]at HD
 have HJa:Hid (∀W,Jb w s a W→W.cell? ⟨w.heap.size,1,none⟩=some (.slice (some ⟨pb,po,none⟩) s.pn s.pc)∧W.cell? ⟨w.heap.size+1,0,none⟩=some (.int .i64 t)∧W.cell? ⟨w.heap.size+1,9,none⟩=some (.int .i64 k)∧W.cell? ⟨w.heap.size+1,10,none⟩=some (.int .i64 a.rb)∧W.cell? ⟨w.heap.size+1,11,none⟩=some (.int .i64 rd)∧W.cell? ⟨w.heap.size+1,2,none⟩=some (.int .i64 a.kind)∧W.cell? ⟨w.heap.size+1,12,none⟩=some (.int .i64 t2)):=fun W hW=>by
  obtain⟨⟨c0,c1,c2,c3,c4,c5⟩,⟨a0,a1,a2,a3,a4,a5,a6,a7,a8,a9,a10,a11,a12,a13,a14⟩⟩:=hW.cells
  rw[hPA.pp]at c1
  rw[ht]at a0
  rw[hka]at a9
  rw[hrd]at a11
  rw[ht2]at a12
  exact⟨c1,a0,a9,a10,a11,a2,a12⟩
 obtain⟨rb,hrb⟩:∃r,a.rb=r:=⟨_,rfl⟩
 rw[hrb]at HD HJa hq
 obtain⟨hl,hhl⟩:∃r,P.hl=r:=⟨_,rfl⟩
 obtain⟨hc,hhc⟩:∃r,P.hc=r:=⟨_,rfl⟩
 obtain⟨pv,hpv⟩:∃r,P.v=r:=⟨_,rfl⟩
 obtain⟨f0,hf0⟩:∃r,P.f0=r:=⟨_,rfl⟩
 obtain⟨f1,hf1⟩:∃r,P.f1=r:=⟨_,rfl⟩
 obtain⟨lc,hlc⟩:∃r,l.c=r:=⟨_,rfl⟩
 obtain⟨ln,hln⟩:∃r,l.n=r:=⟨_,rfl⟩
 rw[hhl,hhc,hpv,hf0,hf1,hlc,hln]at HZ
 rw[hhl]at t1
 rw[hlc]at u0
 rw[hln]at u1
 have hn1:¬w.heap.size+1+1=pb:=by have:=hPA.pl;omega
 have hn2:¬w.heap.size+1+1=hb:=by have:=hPA.hl;omega
 have hn3:¬w.heap.size+1+1=w.heap.size:=by omega
 have hn4:¬w.heap.size+1+1=w.heap.size+1:=by omega
 have HDt:=hide (fun W=>show Calls Tryz.prog 84 #[.bool true] W fun e w'=>e=.returned (.agg #[.int .i64 5,.slice none 0 0,.slice none 0 0,.int .i64 0])∧Below W.heap.size W w' from rdone_lit W true)
 have HDf:=hide (fun W=>show Calls Tryz.prog 84 #[.bool false] W fun e w'=>e=.returned (.agg #[.int .i64 3,.slice none 0 0,.slice none 0 0,.int .i64 0])∧Below W.heap.size W w' from rdone_lit W false)
 rw[hrb]at hway
 obtain⟨mc,hmc⟩:∃r,l2.c=r:=⟨_,rfl⟩
 obtain⟨mn,hmn⟩:∃r,l2.n=r:=⟨_,rfl⟩
 rw[hmc,hmn]at HZ2
 rw[hmc]at y0
 rw[hmn]at y1
 rw[hhl]at t3
 obtain⟨rm,hrm⟩:∃r,wrap64 (18014398509481984 - rd)=r:=⟨_,rfl⟩
 have hrw:IntKind.i64.wrap (18014398509481984 - rd)=rm:=by rw[←hrm];exact wrap_i64 _
 rw[hrm]at HD
 obtain⟨w3,hw3,hb3,hx3⟩:=box_one w2 #[.int .i64 pv,.int .i64 f0,.int .i64 f1,.slice (some ⟨hb,ho,none⟩) hl hc] 81
 have HW3:=hide hw3
 have HJ3:=hide (hJ.below hb3)
 have HX3:=hide hx3
 have hn5:¬w.heap.size+1+1=w2.heap.size:=by have:=ac_lt hJ.tl;omega
 have HJd:Hid (Jb w s a w3.drew):=HJ3.out.below ((Below.refl _ w3).drew)
 obtain⟨c1,a0,a9,a10,a11,a2,a12⟩:=HJa.out w2 hJ
 obtain⟨z0,z1,z2,z3,z4,z5⟩:=HZ.out w2 hJ.bel
 obtain⟨m0,m1⟩:=HZ2.out w2 hJ.bel
 have HP3:Hid (∀W,Below w3.heap.size w3 W→W.cell? ⟨w2.heap.size,3,none⟩=some (.slice (some ⟨hb,ho,none⟩) hl hc)):=fun W hb=>by rw[cell_of_row _ _ _ _ _ _ ((hb.block _ (ac_lt HX3.out)).trans HX3.out)];rfl
 clear hw2 hJ hs _hok hrg _hpw hth hth2 ht ht2 hka hkn hPA hPB hrd hrb hhl hhc hpv hf0 hf1 hlc hln hmc hmn hk1 v0 v1 hrm hw3 hb3 hx3
 subst hway
 clear hq
 ·rw[u1,y1]at HD
  clear u0 u1 y0 y1
  by_cases hv:rd≤ln
  ·by_cases h2:mn≤rm
   ·have HD2:Hid (judgeD s a=(5,[],[],0)):=by show _=_;rw[HD.out,decide_eq_true hv,decide_eq_true h2];rfl
    go_enter Tryz.func58,Tryz.ntmps58
    go_upto_region 1 with (fail)
    rw[HW2.out]
    go_upto_region 19 with (fail)
    rw[HW3.out]
    clear c1 a0 a9 a10 a11 a2 a12 z0 z1 z2 z3 z4 z5 m0 m1
    obtain⟨c1,a0,a9,a10,a11,a2,a12⟩:=HJa.out w3 HJ3.out
    obtain⟨z0,z1,z2,z3,z4,z5⟩:=HZ.out w3 HJ3.out.bel
    obtain⟨m0,m1⟩:=HZ2.out w3 HJ3.out.bel
    have p3:=HP3.out w3 (Below.refl _ _)
    refine wp_region_noPanic ?_
    refine wp_region_held_drew (S:=(fun w'=>w'.cell? ⟨w2.heap.size,3,none⟩=some (.slice (some ⟨hb,ho,none⟩) hl hc)∧w'.cell? ⟨w.heap.size+1,0,none⟩=some (.int .i64 t)∧w'.cell? ⟨w.heap.size+1,12,none⟩=some (.int .i64 t2)∧w'.cell? ⟨w.heap.size+1,10,none⟩=some (.int .i64 1)∧w'.cell? ⟨w.heap.size+1,11,none⟩=some (.int .i64 rd)∧w'.cell? ⟨hb,ho+t*2+1,none⟩=some (.int .i64 ln)∧w'.cell? ⟨hb,ho+t2*2+1,none⟩=some (.int .i64 mn))) (by kernel_rfl) (by go_keep) (fun hHeld=>?_)
    refine tkk 0 ?_
    refine tkk 1 ?_
    refine tkk 2 ?_
    refine tkk 3 ?_
    refine tkk 4 ?_
    refine tkk 5 ?_
    refine tkk 6 ?_
    refine tkk 7 ?_
    refine tkk 8 ?_
    refine tkk 9 ?_
    refine tkk 10 ?_
    refine tkk 11 ?_
    refine tkk 12 ?_
    refine tkk 13 ?_
    refine tkk 14 ?_
    refine tkk 15 ?_
    refine tkk 16 ?_
    refine tkk 17 ?_
    refine tkk 18 ?_
    refine tkk 19 ?_
    refine tkk 20 ?_
    refine tkk 21 ?_
    refine tkk 22 ?_
    refine tkk 23 ?_
    refine tkk 24 ?_
    refine tkk 25 ?_
    refine tkk 26 ?_
    refine tkk 27 ?_
    refine tkk 28 ?_
    refine tkk 29 ?_
    refine tkk 30 ?_
    refine tkk 31 ?_
    refine rdy 32 (fun KK hKK=>?_)
    go_simp
    (go_at_call 84;refine(HDt.out _).mono ?_;rintro e w6 ⟨rfl,hb6⟩;have HJ6:=hide (HJd.out.below hb6);clear c1 a0 a9 a10 a11 a2 a12 z0 z1 z2 z3 z4 z5 m0 m1 p3;obtain⟨c1,a0,a9,a10,a11,a2,a12⟩:=HJa.out w6 HJ6.out;obtain⟨z0,z1,z2,z3,z4,z5⟩:=HZ.out w6 HJ6.out.bel;obtain⟨m0,m1⟩:=HZ2.out w6 HJ6.out.bel;have p3:=HP3.out w6 ((Below.refl _ w3).drew.trans hb6);clear hb6;obtain⟨x0,x1,x2,x3⟩:=told4 HJ6.out;have ct:=RB.bk_thaw HJ6.out.tl)
    refine hKK.out _ _ (by(try dsimp only);go_keep) (fun hHeld=>?_)
    clear hKK KK
    try simp only[Act.put,qzs,qz0,qz1]
    refine rdy 33 (fun KK hKK=>?_)
    go_simp
    refine hKK.out _ _ (by(try dsimp only);go_keep) (fun hHeld=>?_)
    clear hKK KK
    try simp only[Act.put,qzs,qz0,qz1]
    refine wpAnyH_done (by kernel_rfl) (NoPanic.normal ?_) _
    rw[four_set HJ6.out.tl]
    obtain⟨hS,hE,hB,hT⟩:=HJ6.out.store (tld0 5 0)
    have HE:=hide hE
    have HBe:=hide hB
    have HT:=hide (hT (tld0_ok _ _ _) (fun h=>absurd rfl h) (fun h=>absurd rfl h))
    clear hS hE hB hT
    clear ct x0 x1 x2 x3
    go_wp2
    refine bodyPost_ret (results_cell_row rfl _ _ (w.heap.size+1+1) 137 _ (0,0) _ rfl HE.out Tryz.underlying137 rfl Tryz.sizeT) rfl ?_
    exact⟨(tld0 5 0),rfl,by rw[HD2.out];rfl,HT.out,tld0_far _ _ _ _,HBe.out⟩
   ·have HD2:Hid (judgeD s a=(3,[],[],0)):=by show _=_;rw[HD.out,decide_eq_true hv,decide_eq_false h2];rfl
    go_enter Tryz.func58,Tryz.ntmps58
    go_upto_region 1 with (fail)
    rw[HW2.out]
    go_upto_region 19 with (fail)
    rw[HW3.out]
    clear c1 a0 a9 a10 a11 a2 a12 z0 z1 z2 z3 z4 z5 m0 m1
    obtain⟨c1,a0,a9,a10,a11,a2,a12⟩:=HJa.out w3 HJ3.out
    obtain⟨z0,z1,z2,z3,z4,z5⟩:=HZ.out w3 HJ3.out.bel
    obtain⟨m0,m1⟩:=HZ2.out w3 HJ3.out.bel
    have p3:=HP3.out w3 (Below.refl _ _)
    refine wp_region_noPanic ?_
    refine wp_region_held_drew (S:=(fun w'=>w'.cell? ⟨w2.heap.size,3,none⟩=some (.slice (some ⟨hb,ho,none⟩) hl hc)∧w'.cell? ⟨w.heap.size+1,0,none⟩=some (.int .i64 t)∧w'.cell? ⟨w.heap.size+1,12,none⟩=some (.int .i64 t2)∧w'.cell? ⟨w.heap.size+1,10,none⟩=some (.int .i64 1)∧w'.cell? ⟨w.heap.size+1,11,none⟩=some (.int .i64 rd)∧w'.cell? ⟨hb,ho+t*2+1,none⟩=some (.int .i64 ln)∧w'.cell? ⟨hb,ho+t2*2+1,none⟩=some (.int .i64 mn))) (by kernel_rfl) (by go_keep) (fun hHeld=>?_)
    refine tkk 0 ?_
    refine tkk 1 ?_
    refine tkk 2 ?_
    refine tkk 3 ?_
    refine tkk 4 ?_
    refine tkk 5 ?_
    refine tkk 6 ?_
    refine tkk 7 ?_
    refine tkk 8 ?_
    refine tkk 9 ?_
    refine tkk 10 ?_
    refine tkk 11 ?_
    refine tkk 12 ?_
    refine tkk 13 ?_
    refine tkk 14 ?_
    refine tkk 15 ?_
    refine tkk 16 ?_
    refine tkk 17 ?_
    refine tkk 18 ?_
    refine tkk 19 ?_
    refine tkk 20 ?_
    refine tkk 21 ?_
    refine tkk 22 ?_
    refine tkk 23 ?_
    refine tkk 24 ?_
    refine tkk 25 ?_
    refine tkk 26 ?_
    refine tkk 27 ?_
    refine tkk 28 ?_
    refine tkk 29 ?_
    refine tkk 30 ?_
    refine tkk 31 ?_
    refine rdy 32 (fun KK hKK=>?_)
    go_simp
    (go_at_call 84;refine(HDf.out _).mono ?_;rintro e w6 ⟨rfl,hb6⟩;have HJ6:=hide (HJd.out.below hb6);clear c1 a0 a9 a10 a11 a2 a12 z0 z1 z2 z3 z4 z5 m0 m1 p3;obtain⟨c1,a0,a9,a10,a11,a2,a12⟩:=HJa.out w6 HJ6.out;obtain⟨z0,z1,z2,z3,z4,z5⟩:=HZ.out w6 HJ6.out.bel;obtain⟨m0,m1⟩:=HZ2.out w6 HJ6.out.bel;have p3:=HP3.out w6 ((Below.refl _ w3).drew.trans hb6);clear hb6;obtain⟨x0,x1,x2,x3⟩:=told4 HJ6.out;have ct:=RB.bk_thaw HJ6.out.tl)
    refine hKK.out _ _ (by(try dsimp only);go_keep) (fun hHeld=>?_)
    clear hKK KK
    try simp only[Act.put,qzs,qz0,qz1]
    refine rdy 33 (fun KK hKK=>?_)
    go_simp
    refine hKK.out _ _ (by(try dsimp only);go_keep) (fun hHeld=>?_)
    clear hKK KK
    try simp only[Act.put,qzs,qz0,qz1]
    refine wpAnyH_done (by kernel_rfl) (NoPanic.normal ?_) _
    rw[four_set HJ6.out.tl]
    obtain⟨hS,hE,hB,hT⟩:=HJ6.out.store (tld0 3 0)
    have HE:=hide hE
    have HBe:=hide hB
    have HT:=hide (hT (tld0_ok _ _ _) (fun h=>absurd rfl h) (fun h=>absurd rfl h))
    clear hS hE hB hT
    clear ct x0 x1 x2 x3
    go_wp2
    refine bodyPost_ret (results_cell_row rfl _ _ (w.heap.size+1+1) 137 _ (0,0) _ rfl HE.out Tryz.underlying137 rfl Tryz.sizeT) rfl ?_
    exact⟨(tld0 3 0),rfl,by rw[HD2.out];rfl,HT.out,tld0_far _ _ _ _,HBe.out⟩
  ·have HD2:Hid (judgeD s a=(3,[],[],0)):=by show _=_;rw[HD.out,decide_eq_false hv];rfl
   go_enter Tryz.func58,Tryz.ntmps58
   go_upto_region 1 with (fail)
   rw[HW2.out]
   go_upto_region 19 with (fail)
   rw[HW3.out]
   clear c1 a0 a9 a10 a11 a2 a12 z0 z1 z2 z3 z4 z5 m0 m1
   obtain⟨c1,a0,a9,a10,a11,a2,a12⟩:=HJa.out w3 HJ3.out
   obtain⟨z0,z1,z2,z3,z4,z5⟩:=HZ.out w3 HJ3.out.bel
   obtain⟨m0,m1⟩:=HZ2.out w3 HJ3.out.bel
   have p3:=HP3.out w3 (Below.refl _ _)
   refine wp_region_noPanic ?_
   refine wp_region_held_drew (S:=(fun w'=>w'.cell? ⟨w2.heap.size,3,none⟩=some (.slice (some ⟨hb,ho,none⟩) hl hc)∧w'.cell? ⟨w.heap.size+1,0,none⟩=some (.int .i64 t)∧w'.cell? ⟨w.heap.size+1,12,none⟩=some (.int .i64 t2)∧w'.cell? ⟨w.heap.size+1,10,none⟩=some (.int .i64 1)∧w'.cell? ⟨w.heap.size+1,11,none⟩=some (.int .i64 rd)∧w'.cell? ⟨hb,ho+t*2+1,none⟩=some (.int .i64 ln)∧w'.cell? ⟨hb,ho+t2*2+1,none⟩=some (.int .i64 mn))) (by kernel_rfl) (by go_keep) (fun hHeld=>?_)
   refine tkk 0 ?_
   refine tkk 1 ?_
   refine tkk 2 ?_
   refine tkk 3 ?_
   refine tkk 4 ?_
   refine tkk 5 ?_
   refine tkk 6 ?_
   refine tkk 7 ?_
   refine tkk 8 ?_
   refine tkk 9 ?_
   refine tkk 10 ?_
   refine tkk 11 ?_
   refine tkk 12 ?_
   refine tkk 13 ?_
   refine tkk 14 ?_
   refine tkk 15 ?_
   refine tku 16 ?_
   refine tku 17 ?_
   refine tku 18 ?_
   refine tku 19 ?_
   refine tku 20 ?_
   refine tku 21 ?_
   refine tku 22 ?_
   refine tku 23 ?_
   refine tku 24 ?_
   refine tku 25 ?_
   refine tku 26 ?_
   refine tku 27 ?_
   refine tku 28 ?_
   refine tku 29 ?_
   refine tku 30 ?_
   refine tkk 31 ?_
   refine rdy 32 (fun KK hKK=>?_)
   go_simp
   (go_at_call 84;refine(HDf.out _).mono ?_;rintro e w6 ⟨rfl,hb6⟩;have HJ6:=hide (HJd.out.below hb6);clear c1 a0 a9 a10 a11 a2 a12 z0 z1 z2 z3 z4 z5 m0 m1 p3;obtain⟨c1,a0,a9,a10,a11,a2,a12⟩:=HJa.out w6 HJ6.out;obtain⟨z0,z1,z2,z3,z4,z5⟩:=HZ.out w6 HJ6.out.bel;obtain⟨m0,m1⟩:=HZ2.out w6 HJ6.out.bel;have p3:=HP3.out w6 ((Below.refl _ w3).drew.trans hb6);clear hb6;obtain⟨x0,x1,x2,x3⟩:=told4 HJ6.out;have ct:=RB.bk_thaw HJ6.out.tl)
   refine hKK.out _ _ (by(try dsimp only);go_keep) (fun hHeld=>?_)
   clear hKK KK
   try simp only[Act.put,qzs,qz0,qz1]
   refine rdy 33 (fun KK hKK=>?_)
   go_simp
   refine hKK.out _ _ (by(try dsimp only);go_keep) (fun hHeld=>?_)
   clear hKK KK
   try simp only[Act.put,qzs,qz0,qz1]
   refine wpAnyH_done (by kernel_rfl) (NoPanic.normal ?_) _
   rw[four_set HJ6.out.tl]
   obtain⟨hS,hE,hB,hT⟩:=HJ6.out.store (tld0 3 0)
   have HE:=hide hE
   have HBe:=hide hB
   have HT:=hide (hT (tld0_ok _ _ _) (fun h=>absurd rfl h) (fun h=>absurd rfl h))
   clear hS hE hB hT
   clear ct x0 x1 x2 x3
   go_wp2
   refine bodyPost_ret (results_cell_row rfl _ _ (w.heap.size+1+1) 137 _ (0,0) _ rfl HE.out Tryz.underlying137 rfl Tryz.sizeT) rfl ?_
   exact⟨(tld0 3 0),rfl,by rw[HD2.out];rfl,HT.out,tld0_far _ _ _ _,HBe.out⟩
end Go.Proofs.YtfbegfapoijbnaaGreat
