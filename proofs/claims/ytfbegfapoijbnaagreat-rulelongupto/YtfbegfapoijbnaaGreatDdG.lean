import Derived.Test.YtfbegfapoijbnaaGreatTk
import Derived.Test.YtfbegfapoijbnaaGreatDcV
set_option maxRecDepth 100000
namespace Go.Proofs.YtfbegfapoijbnaaGreat
open Go.RowKit
open Z (Sli SlOk Acd AcdOk Elt)
set_option linter.unusedSimpArgs false in
set_option maxHeartbeats 4000000 in
theorem rjudge_5 (w:World) (s:Sta) (hs:StaOk w s) (_hpm:s.pn≤4194304) (_hpw:∀p∈s.pools,LinWf (frL p)) (a:Acd) (hok:AcdOk w a) (hrg:JudgeRg s a) (hk1:a.kind=5) :
  Calls Tryz.prog 58 #[.agg #[.int .u64 s.pos,.slice s.pp s.pn s.pc,.slice s.rp s.rn s.rc,.slice s.lp s.ln s.lc,.slice s.gp s.gn s.gc,.slice s.op s.on s.oc],.agg #[.int .i64 a.till,.int .u64 a.num,.int .i64 a.kind,.bool a.sure,.slice a.lines.p a.lines.n a.lines.c,.slice a.guards.p a.guards.n a.guards.c,.slice a.sets.p a.sets.n a.sets.c,.int .i64 a.mg,.slice a.other.p a.other.n a.other.c,.int .i64 a.ra,.int .i64 a.rb,.int .i64 a.rd,.int .i64 a.to,.int .u64 a.gen,.slice a.rights.p a.rights.n a.rights.c]] w fun e w'=>∃T:Tld,e=.returned (.agg T.arr)∧T.d=judgeD s a∧TldOk w' T∧T.far w.heap.size a∧Below w.heap.size w w':=by
 have e1:(a.kind == 1)=false:=by simp[hk1]
 have e2:(a.kind == 2)=false:=by simp[hk1]
 have e3:(a.kind == 3)=false:=by simp[hk1]
 have e4:(a.kind == 4)=false:=by simp[hk1]
 obtain⟨w2,hw2,hJ⟩:=jb_new w s a
 have HW2:=hide hw2
 have HJ:=hide hJ
 obtain⟨t,ht,hth,htg,hto⟩:=hrg.till
 have HD:Hid (judgeD s a=(doneD (s.owes t a.gen && s.hasAll t a.rights.xs),[],[],0)):=by show _=_;unfold judgeD;rw[if_neg (by omega),if_neg (by omega),if_neg (by omega),if_neg (by omega),ht]
 obtain⟨g,hg⟩:∃g,s.gen[t]?=some g:=⟨_,List.getElem?_eq_getElem (by rw[hs.gn];exact htg)⟩
 obtain⟨ow,how⟩:∃g,s.owed[t]?=some g:=⟨_,List.getElem?_eq_getElem (by rw[hs.on];exact hto)⟩
 obtain⟨gb,go,eg,hgb,hgc⟩:=hs.gen.get (i:=t) (r:=uc g) (by rw[List.getElem?_map,hg];rfl)
 obtain⟨ob,oo,eo,hob,hoc⟩:=hs.owed.get (i:=t) (r:=boolc ow) (by rw[List.getElem?_map,how];rfl)
 have hOw:s.owes t a.gen=(decide (g=a.gen) && ow):=by unfold Sta.owes;rw[(at_in (z:=(0:Int)) hg).1,(at_in (z:=(0:Int)) hg).2,(at_in (z:=false) how).2];rfl
 rw[hOw]at HD
 have HZ:Hid (∀W,Below w.heap.size w W→W.cell? ⟨gb,go+t,none⟩=some (.int .u64 g)∧W.cell? ⟨ob,oo+t,none⟩=some (.bool ow)):=fun W hW=>by
  have h1:=(hW.cell (p:=⟨gb,go+t*1,none⟩) hgb).trans (hgc 0 _ rfl)
  have h2:=(hW.cell (p:=⟨ob,oo+t*1,none⟩) hob).trans (hoc 0 _ rfl)
  rw[Nat.mul_one]at h1 h2
  exact⟨h1,h2⟩
 have k1:(t:Int)<(s.gn:Int):=by omega
 have k2:(t:Int)<(s.on:Int):=by omega
 have t0:(0:Int)≤(t:Int):=by omega
 obtain⟨gn,hgn⟩:∃r,s.gn=r:=⟨_,rfl⟩
 obtain⟨on,hon⟩:∃r,s.on=r:=⟨_,rfl⟩
 rw[hgn]at k1
 rw[hon]at k2
 obtain⟨ag,hag⟩:∃r,a.gen=r:=⟨_,rfl⟩
 rw[hag]at HD
 have HJa:Hid (∀W,Jb w s a W→(W.cell? ⟨w.heap.size,0,none⟩=some (.int .u64 s.pos)∧W.cell? ⟨w.heap.size,1,none⟩=some (.slice s.pp s.pn s.pc)∧W.cell? ⟨w.heap.size,2,none⟩=some (.slice s.rp s.rn s.rc)∧W.cell? ⟨w.heap.size,3,none⟩=some (.slice s.lp s.ln s.lc)∧W.cell? ⟨w.heap.size,4,none⟩=some (.slice (some ⟨gb,go,none⟩) gn s.gc)∧W.cell? ⟨w.heap.size,5,none⟩=some (.slice (some ⟨ob,oo,none⟩) on s.oc)∧W.cell? ⟨w.heap.size+1,0,none⟩=some (.int .i64 t)∧W.cell? ⟨w.heap.size+1,13,none⟩=some (.int .u64 ag)∧W.cell? ⟨w.heap.size+1,14,none⟩=some (.slice a.rights.p a.rights.n a.rights.c))∧W.cell? ⟨w.heap.size+1,2,none⟩=some (.int .i64 a.kind)):=fun W hW=>by
  obtain⟨⟨c0,c1,c2,c3,c4,c5⟩,⟨a0,a1,a2,a3,a4,a5,a6,a7,a8,a9,a10,a11,a12,a13,a14⟩⟩:=hW.cells
  rw[ht]at a0
  rw[hag]at a13
  rw[eg,hgn]at c4
  rw[eo,hon]at c5
  exact⟨⟨c0,c1,c2,c3,c4,c5,a0,a13,a14⟩,a2⟩
 obtain⟨bh,hbh⟩:∃b,s.hasAll t a.rights.xs=b:=⟨_,rfl⟩
 rw[hbh]at HD
 have HHa:=hide (fun (W:World) (hb:Below w.heap.size w W)=>rhas_any W s (hs.below hb) t hth a.rights.p a.rights.n a.rights.c a.rights.xs hok.rights.len (by have:=hok.rights.most;omega) (hok.rights.below hb).cel (hrg.rights hk1))
 have HHa:Hid (∀W,Below w.heap.size w W→Calls Tryz.prog 36 #[.agg #[.int .u64 s.pos,.slice s.pp s.pn s.pc,.slice s.rp s.rn s.rc,.slice s.lp s.ln s.lc,.slice (some ⟨gb,go,none⟩) gn s.gc,.slice (some ⟨ob,oo,none⟩) on s.oc],.int .i64 t,.slice a.rights.p a.rights.n a.rights.c] W fun e w'=>e=.returned (.bool bh)∧Below W.heap.size W w'):=fun W hb=>by have h:=HHa.out W hb;rw[show (a.rights.xs.all fun x=>decide (x.n≤s.held t x.a x.b))=bh from hbh]at h;unfold Sta.arr at h;rw[eg,eo,hgn,hon]at h;exact h
 have hn1:¬w.heap.size+1+1=gb:=by omega
 have hn2:¬w.heap.size+1+1=ob:=by omega
 have hn3:¬w.heap.size+1+1=w.heap.size:=by omega
 have hn4:¬w.heap.size+1+1=w.heap.size+1:=by omega
 have HDt:=hide (fun W=>show Calls Tryz.prog 84 #[.bool true] W fun e w'=>e=.returned (.agg #[.int .i64 5,.slice none 0 0,.slice none 0 0,.int .i64 0])∧Below W.heap.size W w' from rdone_lit W true)
 have HDf:=hide (fun W=>show Calls Tryz.prog 84 #[.bool false] W fun e w'=>e=.returned (.agg #[.int .i64 3,.slice none 0 0,.slice none 0 0,.int .i64 0])∧Below W.heap.size W w' from rdone_lit W false)
 have HJd:Hid (Jb w s a w2.drew):=hJ.below ((Below.refl _ w2).drew)
 obtain⟨⟨c0,c1,c2,c3,c4,c5,a0,a13,a14⟩,a2⟩:=HJa.out w2 hJ
 obtain⟨z0,z1⟩:=HZ.out w2 hJ.bel
 clear hw2 hJ hs hok hrg _hpw hth htg hto ht hg how hgb hgc hob hoc eg eo hOw hgn hon hag hbh hk1
 by_cases hge:g=ag
 ·subst hge
  have hge:((g:Int) == g)=true:=by simp
  cases ow with
  | false =>
   have HD2:Hid (judgeD s a=(3,[],[],0)):=by show _=_;rw[HD.out];simp[doneD]
   go_enter Tryz.func58,Tryz.ntmps58
   go_upto_region 1 with (fail)
   rw[HW2.out]
   go_upto_region 20 with (fail)
   refine wp_region_noPanic ?_
   refine wp_region_held_drew (S:=(fun W=>(W.cell? ⟨w.heap.size,0,none⟩=some (.int .u64 s.pos)∧W.cell? ⟨w.heap.size,1,none⟩=some (.slice s.pp s.pn s.pc)∧W.cell? ⟨w.heap.size,2,none⟩=some (.slice s.rp s.rn s.rc)∧W.cell? ⟨w.heap.size,3,none⟩=some (.slice s.lp s.ln s.lc)∧W.cell? ⟨w.heap.size,4,none⟩=some (.slice (some ⟨gb,go,none⟩) gn s.gc)∧W.cell? ⟨w.heap.size,5,none⟩=some (.slice (some ⟨ob,oo,none⟩) on s.oc)∧W.cell? ⟨w.heap.size+1,0,none⟩=some (.int .i64 t)∧W.cell? ⟨w.heap.size+1,13,none⟩=some (.int .u64 g)∧W.cell? ⟨w.heap.size+1,14,none⟩=some (.slice a.rights.p a.rights.n a.rights.c))∧W.cell? ⟨gb,go+t,none⟩=some (.int .u64 g)∧W.cell? ⟨ob,oo+t,none⟩=some (.bool false))) (by kernel_rfl) (by go_keep) (fun hHeld=>?_)
   refine tkk 0 ?_
   refine tkk 1 ?_
   refine tkk 2 ?_
   refine tkk 3 ?_
   refine tkk 4 ?_
   refine tkk 5 ?_
   refine tkk 6 ?_
   refine tkk 7 ?_
   refine tkk 8 ?_
   refine tkk 9 ?_
   refine tkk 10 ?_
   refine tkk 11 ?_
   refine tkk 12 ?_
   refine tkk 13 ?_
   refine tkk 14 ?_
   refine tkk 15 ?_
   refine tkk 16 ?_
   refine tkk 17 ?_
   refine tkk 18 ?_
   refine tkk 19 ?_
   refine tku 20 ?_
   refine tku 21 ?_
   refine tku 22 ?_
   refine tku 23 ?_
   refine tku 24 ?_
   refine tku 25 ?_
   refine tku 26 ?_
   refine tkk 27 ?_
   refine rdy 28 (fun KK hKK=>?_)
   go_simp
   (go_at_call 84;refine(HDf.out _).mono ?_;rintro e w6 ⟨rfl,hb6⟩;have HJ6:=hide (HJd.out.below hb6);clear c0 c1 c2 c3 c4 c5 a0 a13 a14 a2 z0 z1 hb6;obtain⟨⟨c0,c1,c2,c3,c4,c5,a0,a13,a14⟩,a2⟩:=HJa.out w6 HJ6.out;obtain⟨z0,z1⟩:=HZ.out w6 HJ6.out.bel;obtain⟨x0,x1,x2,x3⟩:=told4 HJ6.out;have ct:=RB.bk_thaw HJ6.out.tl)
   refine hKK.out _ _ (by(try dsimp only);go_keep) (fun hHeld=>?_)
   clear hKK KK
   try simp only[Act.put,qzs,qz0,qz1]
   refine rdy 29 (fun KK hKK=>?_)
   go_simp
   refine hKK.out _ _ (by(try dsimp only);go_keep) (fun hHeld=>?_)
   clear hKK KK
   try simp only[Act.put,qzs,qz0,qz1]
   refine wpAnyH_done (by kernel_rfl) (NoPanic.normal ?_) _
   rw[four_set HJ6.out.tl]
   obtain⟨hS,hE,hB,hT⟩:=HJ6.out.store (tld0 3 0)
   have HE:=hide hE
   have HBe:=hide hB
   have HT:=hide (hT (tld0_ok _ _ _) (fun h=>absurd rfl h) (fun h=>absurd rfl h))
   clear hS hE hB hT
   clear ct x0 x1 x2 x3
   go_wp2
   refine bodyPost_ret (results_cell_row rfl _ _ (w.heap.size+1+1) 137 _ (0,0) _ rfl HE.out Tryz.underlying137 rfl Tryz.sizeT) rfl ?_
   exact⟨(tld0 3 0),rfl,by rw[HD2.out];rfl,HT.out,tld0_far _ _ _ _,HBe.out⟩
  | true =>
   cases bh with
   | false =>
    have HD2:Hid (judgeD s a=(3,[],[],0)):=by show _=_;rw[HD.out];simp[doneD]
    go_enter Tryz.func58,Tryz.ntmps58
    go_upto_region 1 with (fail)
    rw[HW2.out]
    go_upto_region 20 with (fail)
    refine wp_region_noPanic ?_
    refine wp_region_held_drew (S:=(fun W=>(W.cell? ⟨w.heap.size,0,none⟩=some (.int .u64 s.pos)∧W.cell? ⟨w.heap.size,1,none⟩=some (.slice s.pp s.pn s.pc)∧W.cell? ⟨w.heap.size,2,none⟩=some (.slice s.rp s.rn s.rc)∧W.cell? ⟨w.heap.size,3,none⟩=some (.slice s.lp s.ln s.lc)∧W.cell? ⟨w.heap.size,4,none⟩=some (.slice (some ⟨gb,go,none⟩) gn s.gc)∧W.cell? ⟨w.heap.size,5,none⟩=some (.slice (some ⟨ob,oo,none⟩) on s.oc)∧W.cell? ⟨w.heap.size+1,0,none⟩=some (.int .i64 t)∧W.cell? ⟨w.heap.size+1,13,none⟩=some (.int .u64 g)∧W.cell? ⟨w.heap.size+1,14,none⟩=some (.slice a.rights.p a.rights.n a.rights.c))∧W.cell? ⟨gb,go+t,none⟩=some (.int .u64 g)∧W.cell? ⟨ob,oo+t,none⟩=some (.bool true))) (by kernel_rfl) (by go_keep) (fun hHeld=>?_)
    refine tkk 0 ?_
    refine tkk 1 ?_
    refine tkk 2 ?_
    refine tkk 3 ?_
    refine tkk 4 ?_
    refine tkk 5 ?_
    refine tkk 6 ?_
    refine tkk 7 ?_
    refine tkk 8 ?_
    refine tkk 9 ?_
    refine tkk 10 ?_
    refine tkk 11 ?_
    refine tkk 12 ?_
    refine tkk 13 ?_
    refine tkk 14 ?_
    refine tkk 15 ?_
    refine tkk 16 ?_
    refine tkk 17 ?_
    refine tkk 18 ?_
    refine tkk 19 ?_
    refine tkk 20 ?_
    refine tkk 21 ?_
    refine tkk 22 ?_
    refine tkk 23 ?_
    refine tkk 24 ?_
    refine tkk 25 ?_
    refine rdy 26 (fun KK hKK=>?_)
    go_simp
    (go_at_call 36;refine(HHa.out _ HJd.out.bel).mono ?_;rintro e w5 ⟨rfl,hb5⟩;have HJ5:=hide (HJd.out.below hb5);clear c0 c1 c2 c3 c4 c5 a0 a13 a14 a2 z0 z1 hb5;obtain⟨⟨c0,c1,c2,c3,c4,c5,a0,a13,a14⟩,a2⟩:=HJa.out w5 HJ5.out;obtain⟨z0,z1⟩:=HZ.out w5 HJ5.out.bel)
    refine hKK.out _ _ (by(try dsimp only);go_keep) (fun hHeld=>?_)
    clear hKK KK
    try simp only[Act.put,qzs,qz0,qz1]
    refine tkk 27 ?_
    refine rdy 28 (fun KK hKK=>?_)
    go_simp
    (go_at_call 84;refine(HDf.out _).mono ?_;rintro e w6 ⟨rfl,hb6⟩;have HJ6:=hide (HJ5.out.below hb6);clear c0 c1 c2 c3 c4 c5 a0 a13 a14 a2 z0 z1 hb6;obtain⟨⟨c0,c1,c2,c3,c4,c5,a0,a13,a14⟩,a2⟩:=HJa.out w6 HJ6.out;obtain⟨z0,z1⟩:=HZ.out w6 HJ6.out.bel;obtain⟨x0,x1,x2,x3⟩:=told4 HJ6.out;have ct:=RB.bk_thaw HJ6.out.tl)
    refine hKK.out _ _ (by(try dsimp only);go_keep) (fun hHeld=>?_)
    clear hKK KK
    try simp only[Act.put,qzs,qz0,qz1]
    refine rdy 29 (fun KK hKK=>?_)
    go_simp
    refine hKK.out _ _ (by(try dsimp only);go_keep) (fun hHeld=>?_)
    clear hKK KK
    try simp only[Act.put,qzs,qz0,qz1]
    refine wpAnyH_done (by kernel_rfl) (NoPanic.normal ?_) _
    rw[four_set HJ6.out.tl]
    obtain⟨hS,hE,hB,hT⟩:=HJ6.out.store (tld0 3 0)
    have HE:=hide hE
    have HBe:=hide hB
    have HT:=hide (hT (tld0_ok _ _ _) (fun h=>absurd rfl h) (fun h=>absurd rfl h))
    clear hS hE hB hT
    clear ct x0 x1 x2 x3
    go_wp2
    refine bodyPost_ret (results_cell_row rfl _ _ (w.heap.size+1+1) 137 _ (0,0) _ rfl HE.out Tryz.underlying137 rfl Tryz.sizeT) rfl ?_
    exact⟨(tld0 3 0),rfl,by rw[HD2.out];rfl,HT.out,tld0_far _ _ _ _,HBe.out⟩
   | true =>
    have HD2:Hid (judgeD s a=(5,[],[],0)):=by show _=_;rw[HD.out];simp[doneD]
    go_enter Tryz.func58,Tryz.ntmps58
    go_upto_region 1 with (fail)
    rw[HW2.out]
    go_upto_region 20 with (fail)
    refine wp_region_noPanic ?_
    refine wp_region_held_drew (S:=(fun W=>(W.cell? ⟨w.heap.size,0,none⟩=some (.int .u64 s.pos)∧W.cell? ⟨w.heap.size,1,none⟩=some (.slice s.pp s.pn s.pc)∧W.cell? ⟨w.heap.size,2,none⟩=some (.slice s.rp s.rn s.rc)∧W.cell? ⟨w.heap.size,3,none⟩=some (.slice s.lp s.ln s.lc)∧W.cell? ⟨w.heap.size,4,none⟩=some (.slice (some ⟨gb,go,none⟩) gn s.gc)∧W.cell? ⟨w.heap.size,5,none⟩=some (.slice (some ⟨ob,oo,none⟩) on s.oc)∧W.cell? ⟨w.heap.size+1,0,none⟩=some (.int .i64 t)∧W.cell? ⟨w.heap.size+1,13,none⟩=some (.int .u64 g)∧W.cell? ⟨w.heap.size+1,14,none⟩=some (.slice a.rights.p a.rights.n a.rights.c))∧W.cell? ⟨gb,go+t,none⟩=some (.int .u64 g)∧W.cell? ⟨ob,oo+t,none⟩=some (.bool true))) (by kernel_rfl) (by go_keep) (fun hHeld=>?_)
    refine tkk 0 ?_
    refine tkk 1 ?_
    refine tkk 2 ?_
    refine tkk 3 ?_
    refine tkk 4 ?_
    refine tkk 5 ?_
    refine tkk 6 ?_
    refine tkk 7 ?_
    refine tkk 8 ?_
    refine tkk 9 ?_
    refine tkk 10 ?_
    refine tkk 11 ?_
    refine tkk 12 ?_
    refine tkk 13 ?_
    refine tkk 14 ?_
    refine tkk 15 ?_
    refine tkk 16 ?_
    refine tkk 17 ?_
    refine tkk 18 ?_
    refine tkk 19 ?_
    refine tkk 20 ?_
    refine tkk 21 ?_
    refine tkk 22 ?_
    refine tkk 23 ?_
    refine tkk 24 ?_
    refine tkk 25 ?_
    refine rdy 26 (fun KK hKK=>?_)
    go_simp
    (go_at_call 36;refine(HHa.out _ HJd.out.bel).mono ?_;rintro e w5 ⟨rfl,hb5⟩;have HJ5:=hide (HJd.out.below hb5);clear c0 c1 c2 c3 c4 c5 a0 a13 a14 a2 z0 z1 hb5;obtain⟨⟨c0,c1,c2,c3,c4,c5,a0,a13,a14⟩,a2⟩:=HJa.out w5 HJ5.out;obtain⟨z0,z1⟩:=HZ.out w5 HJ5.out.bel)
    refine hKK.out _ _ (by(try dsimp only);go_keep) (fun hHeld=>?_)
    clear hKK KK
    try simp only[Act.put,qzs,qz0,qz1]
    refine tkk 27 ?_
    refine rdy 28 (fun KK hKK=>?_)
    go_simp
    (go_at_call 84;refine(HDt.out _).mono ?_;rintro e w6 ⟨rfl,hb6⟩;have HJ6:=hide (HJ5.out.below hb6);clear c0 c1 c2 c3 c4 c5 a0 a13 a14 a2 z0 z1 hb6;obtain⟨⟨c0,c1,c2,c3,c4,c5,a0,a13,a14⟩,a2⟩:=HJa.out w6 HJ6.out;obtain⟨z0,z1⟩:=HZ.out w6 HJ6.out.bel;obtain⟨x0,x1,x2,x3⟩:=told4 HJ6.out;have ct:=RB.bk_thaw HJ6.out.tl)
    refine hKK.out _ _ (by(try dsimp only);go_keep) (fun hHeld=>?_)
    clear hKK KK
    try simp only[Act.put,qzs,qz0,qz1]
    refine rdy 29 (fun KK hKK=>?_)
    go_simp
    refine hKK.out _ _ (by(try dsimp only);go_keep) (fun hHeld=>?_)
    clear hKK KK
    try simp only[Act.put,qzs,qz0,qz1]
    refine wpAnyH_done (by kernel_rfl) (NoPanic.normal ?_) _
    rw[four_set HJ6.out.tl]
    obtain⟨hS,hE,hB,hT⟩:=HJ6.out.store (tld0 5 0)
    have HE:=hide hE
    have HBe:=hide hB
    have HT:=hide (hT (tld0_ok _ _ _) (fun h=>absurd rfl h) (fun h=>absurd rfl h))
    clear hS hE hB hT
    clear ct x0 x1 x2 x3
    go_wp2
    refine bodyPost_ret (results_cell_row rfl _ _ (w.heap.size+1+1) 137 _ (0,0) _ rfl HE.out Tryz.underlying137 rfl Tryz.sizeT) rfl ?_
    exact⟨(tld0 5 0),rfl,by rw[HD2.out];rfl,HT.out,tld0_far _ _ _ _,HBe.out⟩
 ·have hge':((ag:Int) == g)=false:=by simp;exact fun h=>hge h.symm
  have HD2:Hid (judgeD s a=(3,[],[],0)):=by show _=_;rw[HD.out,decide_eq_false hge];simp[doneD]
  clear hge
  go_enter Tryz.func58,Tryz.ntmps58
  go_upto_region 1 with (fail)
  rw[HW2.out]
  go_upto_region 20 with (fail)
  refine wp_region_noPanic ?_
  refine wp_region_held_drew (S:=(fun W=>(W.cell? ⟨w.heap.size,0,none⟩=some (.int .u64 s.pos)∧W.cell? ⟨w.heap.size,1,none⟩=some (.slice s.pp s.pn s.pc)∧W.cell? ⟨w.heap.size,2,none⟩=some (.slice s.rp s.rn s.rc)∧W.cell? ⟨w.heap.size,3,none⟩=some (.slice s.lp s.ln s.lc)∧W.cell? ⟨w.heap.size,4,none⟩=some (.slice (some ⟨gb,go,none⟩) gn s.gc)∧W.cell? ⟨w.heap.size,5,none⟩=some (.slice (some ⟨ob,oo,none⟩) on s.oc)∧W.cell? ⟨w.heap.size+1,0,none⟩=some (.int .i64 t)∧W.cell? ⟨w.heap.size+1,13,none⟩=some (.int .u64 ag)∧W.cell? ⟨w.heap.size+1,14,none⟩=some (.slice a.rights.p a.rights.n a.rights.c))∧W.cell? ⟨gb,go+t,none⟩=some (.int .u64 g)∧W.cell? ⟨ob,oo+t,none⟩=some (.bool ow))) (by kernel_rfl) (by go_keep) (fun hHeld=>?_)
  refine tkk 0 ?_
  refine tkk 1 ?_
  refine tkk 2 ?_
  refine tkk 3 ?_
  refine tkk 4 ?_
  refine tkk 5 ?_
  refine tkk 6 ?_
  refine tkk 7 ?_
  refine tkk 8 ?_
  refine tkk 9 ?_
  refine tkk 10 ?_
  refine tku 11 ?_
  refine tku 12 ?_
  refine tku 13 ?_
  refine tku 14 ?_
  refine tku 15 ?_
  refine tku 16 ?_
  refine tku 17 ?_
  refine tkk 18 ?_
  refine tkk 19 ?_
  refine tku 20 ?_
  refine tku 21 ?_
  refine tku 22 ?_
  refine tku 23 ?_
  refine tku 24 ?_
  refine tku 25 ?_
  refine tku 26 ?_
  refine tkk 27 ?_
  refine rdy 28 (fun KK hKK=>?_)
  go_simp
  (go_at_call 84;refine(HDf.out _).mono ?_;rintro e w6 ⟨rfl,hb6⟩;have HJ6:=hide (HJd.out.below hb6);clear c0 c1 c2 c3 c4 c5 a0 a13 a14 a2 z0 z1 hb6;obtain⟨⟨c0,c1,c2,c3,c4,c5,a0,a13,a14⟩,a2⟩:=HJa.out w6 HJ6.out;obtain⟨z0,z1⟩:=HZ.out w6 HJ6.out.bel;obtain⟨x0,x1,x2,x3⟩:=told4 HJ6.out;have ct:=RB.bk_thaw HJ6.out.tl)
  refine hKK.out _ _ (by(try dsimp only);go_keep) (fun hHeld=>?_)
  clear hKK KK
  try simp only[Act.put,qzs,qz0,qz1]
  refine rdy 29 (fun KK hKK=>?_)
  go_simp
  refine hKK.out _ _ (by(try dsimp only);go_keep) (fun hHeld=>?_)
  clear hKK KK
  try simp only[Act.put,qzs,qz0,qz1]
  refine wpAnyH_done (by kernel_rfl) (NoPanic.normal ?_) _
  rw[four_set HJ6.out.tl]
  obtain⟨hS,hE,hB,hT⟩:=HJ6.out.store (tld0 3 0)
  have HE:=hide hE
  have HBe:=hide hB
  have HT:=hide (hT (tld0_ok _ _ _) (fun h=>absurd rfl h) (fun h=>absurd rfl h))
  clear hS hE hB hT
  clear ct x0 x1 x2 x3
  go_wp2
  refine bodyPost_ret (results_cell_row rfl _ _ (w.heap.size+1+1) 137 _ (0,0) _ rfl HE.out Tryz.underlying137 rfl Tryz.sizeT) rfl ?_
  exact⟨(tld0 3 0),rfl,by rw[HD2.out];rfl,HT.out,tld0_far _ _ _ _,HBe.out⟩
end Go.Proofs.YtfbegfapoijbnaaGreat
