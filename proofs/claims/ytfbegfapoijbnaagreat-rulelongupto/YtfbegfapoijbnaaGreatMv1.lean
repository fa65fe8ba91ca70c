import Derived.Test.YtfbegfapoijbnaaGreatTk
import Derived.Test.YtfbegfapoijbnaaGreatMv2n
set_option maxRecDepth 100000
namespace Go.Proofs.YtfbegfapoijbnaaGreat
open Go.RowKit Go.Sort
open Z (Sli SlOk Acd AcdOk AcOwn Ctr ctc)
set_option linter.unusedSimpArgs false in
set_option linter.unusedVariables false in
set_option maxHeartbeats 4000000 in
theorem moved_1 (w:World) (c:Cfg) (cs:List Ctr) (hcf:CfgOk w c cs) (h1t:1≤c.tills) (hcl1:1≤c.cl) (s:Sta) (hs:StaOk w s) (hsh:Shp c s) (o:Stp) (hwy:o.way % 4=1) :
  Calls Tryz.prog 29 #[.agg #[.int .i64 c.tills,.slice c.cp c.cl c.cc,.slice c.pp c.pl c.pc,.int .i64 c.lease,.int .i64 c.watch,.int .i64 c.beat,.int .i64 c.window,.int .i64 c.cap,.int .i64 c.flight],.agg #[.int .u64 s.pos,.slice s.pp s.pn s.pc,.slice s.rp s.rn s.rc,.slice s.lp s.ln s.lc,.slice s.gp s.gn s.gc,.slice s.op s.on s.oc],.agg o.arr] w (MovP w c cs):=by
 obtain⟨O,hO⟩:∃O:Array Value,o.arr=O:=⟨_,rfl⟩
 obtain⟨w2,hw2,hb2,hc2,hs2,ho2,hr2,hsz2⟩:=step_boxes w #[.int .i64 c.tills,.slice c.cp c.cl c.cc,.slice c.pp c.pl c.pc,.int .i64 c.lease,.int .i64 c.watch,.int .i64 c.beat,.int .i64 c.window,.int .i64 c.cap,.int .i64 c.flight] #[.int .u64 s.pos,.slice s.pp s.pn s.pc,.slice s.rp s.rn s.rc,.slice s.lp s.ln s.lc,.slice s.gp s.gn s.gc,.slice s.op s.on s.oc] O #[.int .u64 0,.slice none 0 0,.slice none 0 0,.slice none 0 0,.slice none 0 0,.slice none 0 0] 45
 have HW2:=hide hw2
 have HCf:=hide hcf
 have HSh:=hide hsh
 have HSm:=hide (shp_sm hcf hsh)
 have h0:(0:Int)<c.tills:=by omega
 have ht0:0≤o.till % c.tills∧o.till % c.tills<c.tills:=⟨Int.emod_nonneg _ (by omega),Int.emod_lt_of_pos _ h0⟩
 obtain⟨t,ht⟩:∃t:Nat,o.till % c.tills=(t:Int):=⟨(o.till % c.tills).toNat,by omega⟩
 rw[ht]at ht0
 have h0c:(0:Int)<(c.cl:Int):=by omega
 have hi0:0≤o.what % (c.cl:Int)∧o.what % (c.cl:Int)<(c.cl:Int):=⟨Int.emod_nonneg _ (by omega),Int.emod_lt_of_pos _ h0c⟩
 obtain⟨k,hk⟩:∃t:Nat,o.what % (c.cl:Int)=(t:Int):=⟨(o.what % (c.cl:Int)).toNat,by omega⟩
 rw[hk]at hi0
 have htm:=hcf.tills
 have hcm:=hcf.cl
 have HWt:Hid (∀W,Calls Tryz.prog 7 #[.int .i64 o.till,.int .i64 c.tills] W fun e w'=>e=.returned (.int .i64 (t:Int))∧w'=W):=fun W=>by
  have h:=Z.within_any W (o.till) (c.tills) (by omega) (by omega)
  rw[ht]at h
  exact h
 have HWi:Hid (∀W,Calls Tryz.prog 7 #[.int .i64 o.what,.int .i64 (c.cl:Int)] W fun e w'=>e=.returned (.int .i64 (k:Int))∧w'=W):=fun W=>by
  have h:=Z.within_any W (o.what) ((c.cl:Int)) (by omega) (by omega)
  rw[hk]at h
  exact h
 have HWw:Hid (∀W,Calls Tryz.prog 7 #[.int .i64 o.way,.int .i64 4] W fun e w'=>e=.returned (.int .i64 1)∧w'=W):=fun W=>by
  have h:=Z.within_any W (o.way) (4) (by omega) (by omega)
  rw[hwy]at h
  exact h
 have HCs:=hide (copyState_any w2 s (hs.below hb2) (shp_sm hcf hsh))
 have HOc:Hid (∀W:World,W.heap[w.heap.size+1+1]?=some (.cells O 58 (0,0))→W.cell? ⟨w.heap.size+1+1,16,none⟩=some (.int .i64 o.what)∧W.cell? ⟨w.heap.size+1+1,17,none⟩=some (.int .i64 o.way)∧W.cell? ⟨w.heap.size+1+1,18,none⟩=some (.int .i64 o.till)∧W.cell? ⟨w.heap.size+1+1,19,none⟩=some (.int .i64 o.n)):=fun W h=>by
  refine⟨?_,?_,?_,?_⟩ <;> · rw[cell_of_row _ _ _ _ _ _ h,←hO];rfl
 have HB2:=hide hb2
 obtain⟨c0,c1,c2,c3,c4,c5⟩:=ac6 hs2
 have HPre:Hid (∀w4 tb (r0:Sta),Below w2.heap.size w2 w4→w4.heap[tb]?=some (.cells r0.arr 45 (0,0))→w2.heap.size≤tb→StaOw w2.heap.size w4 r0→Mvd w w4 #[.int .i64 c.tills,.slice c.cp c.cl c.cc,.slice c.pp c.pl c.pc,.int .i64 c.lease,.int .i64 c.watch,.int .i64 c.beat,.int .i64 c.window,.int .i64 c.cap,.int .i64 c.flight] #[.int .u64 s.pos,.slice s.pp s.pn s.pc,.slice s.rp s.rn s.rc,.slice s.lp s.ln s.lc,.slice s.gp s.gn s.gc,.slice s.op s.on s.oc] O tb r0):=fun w4 tb r0 hb ht hlt ho=>⟨(hb.block _ (ac_lt hc2)).trans hc2,(hb.block _ (ac_lt hs2)).trans hs2,(hb.block _ (ac_lt ho2)).trans ho2,(hb.block _ (ac_lt hr2)).trans hr2,ht,by omega,by rw[←hsz2];exact ho,hb2.trans (hb.mono hb2.size)⟩
 have HSk:=hide (hs.below hb2)
 have HT:=hide ht
 have HK:=hide hk
 rw[hO]
 clear hO hw2 hb2 hc2 hs2 ho2 hr2 hs hcf h0 h0c ht hk hwy
 go_enter Tryz.func29,Tryz.ntmps29
 go_upto_region 1 with (fail)
 rw[HW2.out]
 go_upto_region 2 with (first | (go_at_call 55;refine HCs.out.mono ?_;rintro e1 w3 ⟨r0,rfl,hd0,ho0,hb3⟩;have HD0:=hide hd0;have HO0:=hide ho0;have HB3:=hide hb3;have HSt:=hide (run_storeAt_new (P:=Tryz.prog) w3 45 #[.int .u64 0,.slice none 0 0,.slice none 0 0,.slice none 0 0,.slice none 0 0,.slice none 0 0] r0.arr Tryz.sizeS rfl (by simp[Sta.arr,Value.oneCell']));clear hd0 ho0 hb3 c0 c1 c2 c3 c4 c5) | ((with_reducible show wpList _ _ _ (⟨_,.store 45 (.tmp 8) _,_,_,_,_⟩ :: _) _ _);refine Z.lp_store (t:=45) (x:=.tmp 8) (some ⟨w3.heap.size,0,none⟩) (.agg r0.arr) rfl rfl HSt.out ?_))
 have hT4:=heap_alloc_new w3 (.cells r0.arr 45)
 have hb4:Below w3.heap.size w3 (w3.alloc (.cells r0.arr 45)):=(Below.refl _ _).alloc (Nat.le_refl _) _
 have HSr:Hid (Shp c r0):=shp_of HSh.out HSk.out HO0.out HD0.out
 have HM4:=hide (HPre.out _ _ r0 (HB3.out.trans (hb4.mono HB3.out.size)) hT4 HB3.out.size (HO0.out.below hb4))
 obtain⟨w4,hw4⟩:∃W,w3.alloc (.cells r0.arr 45)=W:=⟨_,rfl⟩
 rw[hw4]at HM4 ⊢
 obtain⟨tb,htb⟩:∃k,w3.heap.size=k:=⟨_,rfl⟩
 rw[htb]at HM4 ⊢
 clear hw4 htb hT4 hb4 HPre HSt
 obtain⟨t0,t1,t2,t3,t4,t5⟩:=ac6 HM4.out.xb
 obtain⟨d0,d1,-,-,-,-,-,-,-⟩:=ac9 HM4.out.cb
 obtain⟨o0,o1,o2,o3⟩:=HOc.out w4 HM4.out.ob
 go_upto_region 3 with (first | (go_at_call 7;refine(HWt.out _).mono ?_;rintro e w9 ⟨rfl,h9⟩;rw[h9];clear h9 w9) | fail)
 go_upto_region 4 with (first | (go_at_call 7;refine(HWi.out _).mono ?_;rintro e w9 ⟨rfl,h9⟩;rw[h9];clear h9 w9) | fail)
 obtain⟨P,hP⟩:∃P,r0.pools[k]?=some P:=⟨_,List.getElem?_eq_getElem (by rw[HM4.out.own.pn];have:=HSr.out.pn;omega)⟩
 obtain⟨l,hl⟩:∃l,P.hs[t]?=some l:=⟨_,List.getElem?_eq_getElem (by rw[HM4.out.own.hlen P (List.mem_of_getElem? hP)];have:=HSr.out.hl P (List.mem_of_getElem? hP);omega)⟩
 obtain⟨g,eg,hgB,⟨G,hG⟩,hfz,hcg,hst⟩:=HM4.out.own.setP hP
 obtain⟨gh,egh,hghB,⟨Gh,hGh⟩,hfh,hch,-⟩:=HM4.out.own.setH hP hl
 have p0:=hcg 0 _ rfl
 have p1:=hcg 1 _ rfl
 have p2:=hcg 2 _ rfl
 have p3:=hcg 3 _ rfl
 rw[Nat.add_zero]at p0
 rw[egh]at p3
 rw[eg]at t1
 have k0:(0:Int)≤(k:Int):=by omega
 have k1:(k:Int)<(r0.pn:Int):=by have:=HSr.out.pn;omega
 have u0:(0:Int)≤(t:Int):=by omega
 have u1:(t:Int)<(P.hl:Int):=by have:=HSr.out.hl P (List.mem_of_getElem? hP);omega
 have g1:¬g=tb:=by rintro rfl;have h1:=HM4.out.xb;rw[hG]at h1;cases h1
 have g2:¬tb=g:=fun e=>g1 e.symm
 have g3:¬g=w.heap.size+1+1:=by omega
 have g4:¬w.heap.size+1+1=g:=by omega
 have j1:¬gh=tb:=by rintro rfl;have h1:=HM4.out.xb;rw[hGh]at h1;cases h1
 have j2:¬tb=gh:=fun e=>j1 e.symm
 have j3:¬gh=w.heap.size+1+1:=by omega
 have j4:¬w.heap.size+1+1=gh:=by omega
 have j5:¬gh=g:=by rintro rfl;rw[hG]at hGh;cases hGh
 have j6:¬g=gh:=fun e=>j5 e.symm
 have b1:¬g=w4.heap.size:=by have:=ac_lt hG;omega
 have b2:¬w4.heap.size=g:=fun e=>b1 e.symm
 have b3:¬gh=w4.heap.size:=by have:=ac_lt hGh;omega
 have b4:¬w4.heap.size=gh:=fun e=>b3 e.symm
 have b5:¬tb=w4.heap.size:=by have:=ac_lt HM4.out.xb;omega
 have b6:¬w.heap.size+1+1=w4.heap.size:=by have:=ac_lt HM4.out.ob;omega
 obtain⟨pv,f0,f1,php,phl,phc,phs⟩:=P
 obtain⟨l0,l1⟩:=l
 dsimp only at p0 p1 p2 p3 u1 egh
 have HPg:=hide hP
 have HLg:=hide hl
 have HEg:=hide eg
 have HEgh:=hide egh
 clear hP hl hfz hst hfh hcg hch eg egh hG hGh
 go_upto_region 7 with (first | (go_at_call 7;refine(HWw.out _).mono ?_;rintro e w9 ⟨rfl,h9⟩;rw[h9];clear h9 w9) | fail)
 obtain⟨w5,hw5⟩:∃W,w4.alloc (.cells #[.int .i64 pv,.int .i64 f0,.int .i64 f1,.slice (some ⟨gh,0,none⟩) phl phc] 81)=W:=⟨_,rfl⟩
 have HPb:Hid (w5.heap[w4.heap.size]?=some (.cells #[.int .i64 pv,.int .i64 f0,.int .i64 f1,.slice (some ⟨gh,0,none⟩) phl phc] 81 (0,0))):=by show _=_;rw[←hw5];exact heap_alloc_new _ _
 have HM5:Hid (Mvd w w5 #[.int .i64 c.tills,.slice c.cp c.cl c.cc,.slice c.pp c.pl c.pc,.int .i64 c.lease,.int .i64 c.watch,.int .i64 c.beat,.int .i64 c.window,.int .i64 c.cap,.int .i64 c.flight] #[.int .u64 s.pos,.slice s.pp s.pn s.pc,.slice s.rp s.rn s.rc,.slice s.lp s.ln s.lc,.slice s.gp s.gn s.gc,.slice s.op s.on s.oc] O tb r0):=by show Mvd _ _ _ _ _ _ _;rw[←hw5];exact HM4.out.below ((Below.refl _ _).alloc (Nat.le_refl _) _)
 rw[hw5]
 obtain⟨pb,hpb⟩:∃k,w4.heap.size=k:=⟨_,rfl⟩
 rw[hpb]at HPb b1 b2 b3 b4 b5 b6 ⊢
 clear hw5 hpb p0 p1 p2 p3 t0 t1 t2 t3 t4 t5 d0 d1 o0 o1 o2 o3
 obtain⟨t0,t1,t2,t3,t4,t5⟩:=ac6 HM5.out.xb
 obtain⟨o0,o1,o2,o3⟩:=HOc.out w5 HM5.out.ob
 obtain⟨r0b,r1b,r2b,r3b⟩:=ac4 HPb.out
 obtain⟨g_,eg_,hgB_,⟨G,hG⟩,hfz,hcg,hst⟩:=HM5.out.own.setP HPg.out
 obtain rfl:g=g_:=by have h1:=eg_;have h2:=HEg.out;rw[h2]at h1;cases h1;rfl
 obtain⟨gh_,egh_,hghB_,⟨Gh,hGh⟩,hfh,hch,hsth⟩:=HM5.out.own.setH HPg.out HLg.out
 obtain rfl:gh=gh_:=by have h1:=egh_;have h2:=HEgh.out;dsimp only at h1;rw[h2]at h1;cases h1;rfl
 rw[HEg.out]at t1
 have q0:=hch 1 _ rfl
 have qz:=hfh (t*2+1)
 have fz:=hfz (k*4+2)
 have f_:=hcg 2 _ rfl
 obtain⟨ng,hng⟩:∃v,IntKind.i64.wrap (-l1)=v:=⟨_,rfl⟩
 obtain⟨v0,hv0⟩:∃v,IntKind.i64.wrap (f1 - o.n)=v:=⟨_,rfl⟩
 obtain⟨v1,hv1⟩:∃v,IntKind.i64.wrap (l1+o.n)=v:=⟨_,rfl⟩
 by_cases qa:f1<o.n
 ·skip
  refine wp_region_noPanic ?_
  refine wp_region_held_drew (S:=(fun w'=>w'.cell? ⟨w.heap.size+1+1,19,none⟩=some (.int .i64 o.n)∧w'.cell? ⟨pb,2,none⟩=some (.int .i64 f1)∧w'.cell? ⟨pb,3,none⟩=some (.slice (some ⟨gh,0,none⟩) phl phc)∧w'.cell? ⟨gh,t*2+1,none⟩=some (.int .i64 l1))) (by kernel_rfl) (by go_keep) (fun hHeld=>?_)
  refine tkk 0 ?_
  refine tkk 1 ?_
  refine tkk 2 ?_
  refine tkk 3 ?_
  refine tkk 4 ?_
  refine tkk 5 ?_
  refine tkk 6 ?_
  refine tkk 7 ?_
  refine tku 8 ?_
  refine tku 9 ?_
  refine tku 10 ?_
  refine tku 11 ?_
  refine tku 12 ?_
  refine tku 13 ?_
  refine tku 14 ?_
  refine tku 15 ?_
  refine tku 16 ?_
  refine tku 17 ?_
  refine tku 18 ?_
  refine rdy 19 (fun KK hKK=>?_)
  go_simp
  refine hKK.out _ _ (by(try dsimp only);go_keep) (fun hHeld=>?_)
  clear hKK KK
  try simp only[Act.put,qzs,qz0,qz1]
  refine wpAnyH_done (by kernel_rfl) (NoPanic.normal ?_) _
  obtain⟨w6,hw6⟩:∃W,w5.drew=W:=⟨_,rfl⟩
  have HMe:Hid (Mvd w w6 #[.int .i64 c.tills,.slice c.cp c.cl c.cc,.slice c.pp c.pl c.pc,.int .i64 c.lease,.int .i64 c.watch,.int .i64 c.beat,.int .i64 c.window,.int .i64 c.cap,.int .i64 c.flight] #[.int .u64 s.pos,.slice s.pp s.pn s.pc,.slice s.rp s.rn s.rc,.slice s.lp s.ln s.lc,.slice s.gp s.gn s.gc,.slice s.op s.on s.oc] O tb r0):=by show Mvd _ _ _ _ _ _ _;rw[←hw6];exact HM5.out.below ((Below.refl _ _).drew)
  rw[hw6]
  clear hw6 t0 t1 t2 t3 t4 t5 o0 o1 o2 o3 r0b r1b r2b r3b q0 qz fz f_ hG hGh hfz hcg hst hfh hch hsth eg_ egh_ hgB_ hghB_
  have HSt8:=hide (Z.storeAt_row (P:=Tryz.prog) (c':=#[.int .u64 s.pos,.slice s.pp s.pn s.pc,.slice s.rp s.rn s.rc,.slice s.lp s.ln s.lc,.slice s.gp s.gn s.gc,.slice s.op s.on s.oc]) HMe.out.rb Tryz.sizeS rfl (by simp[Value.oneCell']))
  obtain⟨c0,c1,c2,c3,c4,c5⟩:=ac6 HMe.out.sb
  go_wp2_with (first | ((with_reducible show wpList _ _ _ (⟨_,.store 45 (.tmp 6) _,_,_,_,_⟩ :: _) _ _);refine Z.lp_store (t:=45) (x:=.tmp 6) (some ⟨w.heap.size+1+1+1,0,none⟩) (.agg #[.int .u64 s.pos,.slice s.pp s.pn s.pc,.slice s.rp s.rn s.rc,.slice s.lp s.ln s.lc,.slice s.gp s.gn s.gc,.slice s.op s.on s.oc]) rfl rfl HSt8.out ?_) | fail)
  refine bodyPost_ret (res_et rfl rfl (HMe.out.told _).1 Tryz.underlying45 rfl Tryz.sizeS) rfl ?_
  exact⟨_,false,rfl,rfl,by simp[Value.oneCell'],fun h=>(by cases h),(HMe.out.told _).2.2⟩
 by_cases qb:o.n<ng
 ·skip
  refine wp_region_noPanic ?_
  refine wp_region_held_drew (S:=(fun w'=>w'.cell? ⟨w.heap.size+1+1,19,none⟩=some (.int .i64 o.n)∧w'.cell? ⟨pb,2,none⟩=some (.int .i64 f1)∧w'.cell? ⟨pb,3,none⟩=some (.slice (some ⟨gh,0,none⟩) phl phc)∧w'.cell? ⟨gh,t*2+1,none⟩=some (.int .i64 l1))) (by kernel_rfl) (by go_keep) (fun hHeld=>?_)
  refine tkk 0 ?_
  refine tkk 1 ?_
  refine tkk 2 ?_
  refine tkk 3 ?_
  refine tkk 4 ?_
  refine tkk 5 ?_
  refine tkk 6 ?_
  refine tkk 7 ?_
  refine tkk 8 ?_
  refine tkk 9 ?_
  refine tkk 10 ?_
  refine tkk 11 ?_
  refine tkk 12 ?_
  refine tkk 13 ?_
  refine tkk 14 ?_
  refine tkk 15 ?_
  refine tkk 16 ?_
  refine tkk 17 ?_
  refine tkk 18 ?_
  refine rdy 19 (fun KK hKK=>?_)
  go_simp
  refine hKK.out _ _ (by(try dsimp only);go_keep) (fun hHeld=>?_)
  clear hKK KK
  try simp only[Act.put,qzs,qz0,qz1]
  refine wpAnyH_done (by kernel_rfl) (NoPanic.normal ?_) _
  obtain⟨w6,hw6⟩:∃W,w5.drew=W:=⟨_,rfl⟩
  have HMe:Hid (Mvd w w6 #[.int .i64 c.tills,.slice c.cp c.cl c.cc,.slice c.pp c.pl c.pc,.int .i64 c.lease,.int .i64 c.watch,.int .i64 c.beat,.int .i64 c.window,.int .i64 c.cap,.int .i64 c.flight] #[.int .u64 s.pos,.slice s.pp s.pn s.pc,.slice s.rp s.rn s.rc,.slice s.lp s.ln s.lc,.slice s.gp s.gn s.gc,.slice s.op s.on s.oc] O tb r0):=by show Mvd _ _ _ _ _ _ _;rw[←hw6];exact HM5.out.below ((Below.refl _ _).drew)
  rw[hw6]
  clear hw6 t0 t1 t2 t3 t4 t5 o0 o1 o2 o3 r0b r1b r2b r3b q0 qz fz f_ hG hGh hfz hcg hst hfh hch hsth eg_ egh_ hgB_ hghB_
  have HSt8:=hide (Z.storeAt_row (P:=Tryz.prog) (c':=#[.int .u64 s.pos,.slice s.pp s.pn s.pc,.slice s.rp s.rn s.rc,.slice s.lp s.ln s.lc,.slice s.gp s.gn s.gc,.slice s.op s.on s.oc]) HMe.out.rb Tryz.sizeS rfl (by simp[Value.oneCell']))
  obtain⟨c0,c1,c2,c3,c4,c5⟩:=ac6 HMe.out.sb
  go_wp2_with (first | ((with_reducible show wpList _ _ _ (⟨_,.store 45 (.tmp 6) _,_,_,_,_⟩ :: _) _ _);refine Z.lp_store (t:=45) (x:=.tmp 6) (some ⟨w.heap.size+1+1+1,0,none⟩) (.agg #[.int .u64 s.pos,.slice s.pp s.pn s.pc,.slice s.rp s.rn s.rc,.slice s.lp s.ln s.lc,.slice s.gp s.gn s.gc,.slice s.op s.on s.oc]) rfl rfl HSt8.out ?_) | fail)
  refine bodyPost_ret (res_et rfl rfl (HMe.out.told _).1 Tryz.underlying45 rfl Tryz.sizeS) rfl ?_
  exact⟨_,false,rfl,rfl,by simp[Value.oneCell'],fun h=>(by cases h),(HMe.out.told _).2.2⟩
 refine wp_region_noPanic ?_
 refine wp_region_held_drew (S:=(fun w'=>w'.cell? ⟨w.heap.size+1+1,19,none⟩=some (.int .i64 o.n)∧w'.cell? ⟨pb,2,none⟩=some (.int .i64 f1)∧w'.cell? ⟨pb,3,none⟩=some (.slice (some ⟨gh,0,none⟩) phl phc)∧w'.cell? ⟨gh,t*2+1,none⟩=some (.int .i64 l1))) (by kernel_rfl) (by go_keep) (fun hHeld=>?_)
 refine tkk 0 ?_
 refine tkk 1 ?_
 refine tkk 2 ?_
 refine tkk 3 ?_
 refine tkk 4 ?_
 refine tkk 5 ?_
 refine tkk 6 ?_
 refine tkk 7 ?_
 refine tkk 8 ?_
 refine tkk 9 ?_
 refine tkk 10 ?_
 refine tkk 11 ?_
 refine tkk 12 ?_
 refine tkk 13 ?_
 refine tkk 14 ?_
 refine tkk 15 ?_
 refine tkk 16 ?_
 refine tkk 17 ?_
 refine tkk 18 ?_
 refine rdy 19 (fun KK hKK=>?_)
 go_simp
 refine hKK.out _ _ (by(try dsimp only);go_keep) (fun hHeld=>?_)
 clear hKK KK
 try simp only[Act.put,qzs,qz0,qz1]
 refine wpAnyH_done (by kernel_rfl) (NoPanic.normal ?_) _
 go_upto_region 9 with (fail)
 obtain⟨w6,hw6⟩:∃W,w5.drew=W:=⟨_,rfl⟩
 have HM6:Hid (Mvd w w6 #[.int .i64 c.tills,.slice c.cp c.cl c.cc,.slice c.pp c.pl c.pc,.int .i64 c.lease,.int .i64 c.watch,.int .i64 c.beat,.int .i64 c.window,.int .i64 c.cap,.int .i64 c.flight] #[.int .u64 s.pos,.slice s.pp s.pn s.pc,.slice s.rp s.rn s.rc,.slice s.lp s.ln s.lc,.slice s.gp s.gn s.gc,.slice s.op s.on s.oc] O tb r0):=by show Mvd _ _ _ _ _ _ _;rw[←hw6];exact HM5.out.below ((Below.refl _ _).drew)
 have HPb6:Hid (w6.heap[pb]?=some (.cells #[.int .i64 pv,.int .i64 f0,.int .i64 f1,.slice (some ⟨gh,0,none⟩) phl phc] 81 (0,0))):=by show _=_;rw[←hw6];exact HPb.out
 rw[hw6]
 clear hw6 qa qb t0 t1 t2 t3 t4 t5 o0 o1 o2 o3 r0b r1b r2b r3b q0 qz fz f_ hG hGh hfz hcg hst hfh hch hsth eg_ egh_ hgB_ hghB_
 obtain⟨t0,t1,t2,t3,t4,t5⟩:=ac6 HM6.out.xb
 obtain⟨o0,o1,o2,o3⟩:=HOc.out w6 HM6.out.ob
 obtain⟨r0b,r1b,r2b,r3b⟩:=ac4 HPb6.out
 obtain⟨g_,eg_,hgB_,⟨G,hG⟩,hfz,hcg,hst⟩:=HM6.out.own.setP HPg.out
 obtain rfl:g=g_:=by have h1:=eg_;have h2:=HEg.out;rw[h2]at h1;cases h1;rfl
 obtain⟨gh_,egh_,hghB_,⟨Gh,hGh⟩,hfh,hch,hsth⟩:=HM6.out.own.setH HPg.out HLg.out
 obtain rfl:gh=gh_:=by have h1:=egh_;have h2:=HEgh.out;dsimp only at h1;rw[h2]at h1;cases h1;rfl
 rw[HEg.out]at t1
 have q0:=hch 1 _ rfl
 have qz:=hfh (t*2+1)
 have fz:=hfz (k*4+2)
 have f_:=hcg 2 _ rfl
 have HM7:Hid (Mvd w (w6.setCell ⟨g,k*4+2,none⟩ (.int .i64 v0)).drew #[.int .i64 c.tills,.slice c.cp c.cl c.cc,.slice c.pp c.pl c.pc,.int .i64 c.lease,.int .i64 c.watch,.int .i64 c.beat,.int .i64 c.window,.int .i64 c.cap,.int .i64 c.flight] #[.int .u64 s.pos,.slice s.pp s.pn s.pc,.slice s.rp s.rn s.rc,.slice s.lp s.ln s.lc,.slice s.gp s.gn s.gc,.slice s.op s.on s.oc] O tb (r0.upP k (⟨pv,f0,v0,php,phl,phc,phs⟩:Pl))):=(HM6.out.set (r':=r0.upP k (⟨pv,f0,v0,php,phl,phc,phs⟩:Pl)) hG (Or.inl rfl) hgB_ _ _ rfl (hst 2 (⟨pv,f0,v0,php,phl,phc,phs⟩:Pl) (.int .i64 v0) (by omega) rfl rfl rfl rfl rfl)).below ((Below.refl _ _).drew)
 have HPb7:Hid ((w6.setCell ⟨g,k*4+2,none⟩ (.int .i64 v0)).drew.heap[pb]?=some (.cells #[.int .i64 pv,.int .i64 f0,.int .i64 f1,.slice (some ⟨gh,0,none⟩) phl phc] 81 (0,0))):=by show (w6.setCell _ _).heap[pb]?=_;rw[heap_setCell_other _ _ _ _ (by show pb≠g;exact b2)];exact HPb6.out
 have hP1:Hid ((r0.upP k (⟨pv,f0,v0,php,phl,phc,phs⟩:Pl)).pools[k]?=some (⟨pv,f0,v0,php,phl,phc,phs⟩:Pl)):=List.getElem?_set_self (List.getElem?_eq_some_iff.1 HPg.out).1
 refine wp_region_noPanic ?_
 refine wp_region_held_drew (S:=(fun w'=>w'.cell? ⟨tb,1,none⟩=some (.slice (some ⟨g,0,none⟩) r0.pn r0.pc)∧w'.cell? ⟨pb,2,none⟩=some (.int .i64 f1)∧w'.cell? ⟨w.heap.size+1+1,19,none⟩=some (.int .i64 o.n))) (by kernel_rfl) (by go_keep) (fun hHeld=>?_)
 refine tkk 0 ?_
 refine tkk 1 ?_
 refine tkk 2 ?_
 refine tkk 3 ?_
 refine tkk 4 ?_
 refine tkk 5 ?_
 refine tkk 6 ?_
 refine tkk 7 ?_
 refine tkk 8 ?_
 refine tkk 9 ?_
 refine tkk 10 ?_
 refine tkk 11 ?_
 refine tkk 12 ?_
 refine tkk 13 ?_
 refine rdy 14 (fun KK hKK=>?_)
 go_simp
 refine hKK.out _ _ (by(try dsimp only);go_keep) (fun hHeld=>?_)
 clear hKK KK
 try simp only[Act.put,qzs,qz0,qz1]
 refine wpAnyH_done (by kernel_rfl) (NoPanic.normal ?_) _
 go_upto_region 10 with (fail)
 obtain⟨w7,hw7⟩:∃W,(w6.setCell ⟨g,k*4+2,none⟩ (.int .i64 v0)).drew=W:=⟨_,rfl⟩
 rw[hw7]at HM7 HPb7 ⊢
 clear hw7 t0 t1 t2 t3 t4 t5 o0 o1 o2 o3 r0b r1b r2b r3b q0 qz fz f_ hG hGh hfz hcg hst hfh hch hsth eg_ egh_ hgB_ hghB_
 obtain⟨t0,t1,t2,t3,t4,t5⟩:=ac6 HM7.out.xb
 obtain⟨o0,o1,o2,o3⟩:=HOc.out w7 HM7.out.ob
 obtain⟨r0b,r1b,r2b,r3b⟩:=ac4 HPb7.out
 obtain⟨g_,eg_,hgB_,⟨G,hG⟩,hfz,hcg,hst⟩:=HM7.out.own.setP hP1.out
 obtain rfl:g=g_:=by have h1:=eg_;have h2:=HEg.out;change r0.pp=_ at h1;rw[h2]at h1;cases h1;rfl
 obtain⟨gh_,egh_,hghB_,⟨Gh,hGh⟩,hfh,hch,hsth⟩:=HM7.out.own.setH hP1.out HLg.out
 obtain rfl:gh=gh_:=by have h1:=egh_;have h2:=HEgh.out;dsimp only at h1;rw[h2]at h1;cases h1;rfl
 rw[show (r0.upP k (⟨pv,f0,v0,php,phl,phc,phs⟩:Pl)).pp=r0.pp from rfl,HEg.out]at t1
 have q0:=hch 1 _ rfl
 have qz:=hfh (t*2+1)
 have fz:=hfz (k*4+2)
 have f_:=hcg 2 _ rfl
 have p3:=hcg 3 _ rfl
 dsimp only at p3
 rw[HEgh.out]at p3
 have HM8:Hid (Mvd w (w7.setCell ⟨gh,t*2+1,none⟩ (.int .i64 v1)).drew #[.int .i64 c.tills,.slice c.cp c.cl c.cc,.slice c.pp c.pl c.pc,.int .i64 c.lease,.int .i64 c.watch,.int .i64 c.beat,.int .i64 c.window,.int .i64 c.cap,.int .i64 c.flight] #[.int .u64 s.pos,.slice s.pp s.pn s.pc,.slice s.rp s.rn s.rc,.slice s.lp s.ln s.lc,.slice s.gp s.gn s.gc,.slice s.op s.on s.oc] O tb ((r0.upP k (⟨pv,f0,v0,php,phl,phc,phs⟩:Pl)).upP k ({ (⟨pv,f0,v0,php,phl,phc,phs⟩:Pl) with hs:=phs.set t ⟨l0,v1⟩ } : Pl))):=(HM7.out.set (r':=(r0.upP k (⟨pv,f0,v0,php,phl,phc,phs⟩:Pl)).upP k ({ (⟨pv,f0,v0,php,phl,phc,phs⟩:Pl) with hs:=phs.set t ⟨l0,v1⟩ } : Pl)) hGh (Or.inr (Or.inl rfl)) hghB_ _ _ rfl (hsth 1 ⟨l0,v1⟩ (.int .i64 v1) (by omega) rfl)).below ((Below.refl _ _).drew)
 have HShe:Hid (Shp c ((r0.upP k (⟨pv,f0,v0,php,phl,phc,phs⟩:Pl)).upP k ({ (⟨pv,f0,v0,php,phl,phc,phs⟩:Pl) with hs:=phs.set t ⟨l0,v1⟩ } : Pl))):=shp_up (shp_up HSr.out HPg.out rfl) hP1.out rfl
 have k1:(k:Int)<((r0.upP k (⟨pv,f0,v0,php,phl,phc,phs⟩:Pl)).pn:Int):=k1
 refine wp_region_noPanic ?_
 refine wp_region_held_drew (S:=(fun w'=>w'.cell? ⟨tb,1,none⟩=some (.slice (some ⟨g,0,none⟩) (r0.upP k (⟨pv,f0,v0,php,phl,phc,phs⟩:Pl)).pn (r0.upP k (⟨pv,f0,v0,php,phl,phc,phs⟩:Pl)).pc)∧w'.cell? ⟨g,k*4+3,none⟩=some (.slice (some ⟨gh,0,none⟩) phl phc)∧w'.cell? ⟨pb,3,none⟩=some (.slice (some ⟨gh,0,none⟩) phl phc)∧w'.cell? ⟨w.heap.size+1+1,19,none⟩=some (.int .i64 o.n))) (by kernel_rfl) (by go_keep) (fun hHeld=>?_)
 refine tkk 0 ?_
 refine tkk 1 ?_
 refine tkk 2 ?_
 refine tkk 3 ?_
 refine tkk 4 ?_
 refine tkk 5 ?_
 refine tkk 6 ?_
 refine tkk 7 ?_
 refine tkk 8 ?_
 refine tkk 9 ?_
 refine tkk 10 ?_
 refine tkk 11 ?_
 refine tkk 12 ?_
 refine tkk 13 ?_
 refine tkk 15 ?_
 refine tkk 16 ?_
 refine tkk 18 ?_
 refine rdy 14 (fun KK hKK=>?_)
 go_simp
 refine hKK.out _ _ (by(try dsimp only);go_keep) (fun hHeld=>?_)
 clear hKK KK
 try simp only[Act.put,qzs,qz0,qz1]
 refine tkk 17 ?_
 refine tkk 19 ?_
 refine rdy 20 (fun KK hKK=>?_)
 go_simp
 refine hKK.out _ _ (by(try dsimp only);go_keep) (fun hHeld=>?_)
 clear hKK KK
 try simp only[Act.put,qzs,qz0,qz1]
 refine wpAnyH_done (by kernel_rfl) (NoPanic.normal ?_) _
 go_upto_region 17 with (fail)
 obtain⟨w9,hw9⟩:∃W,(w7.setCell ⟨gh,t*2+1,none⟩ (.int .i64 v1)).drew=W:=⟨_,rfl⟩
 obtain⟨r2,hr2⟩:∃r,(r0.upP k (⟨pv,f0,v0,php,phl,phc,phs⟩:Pl)).upP k ({ (⟨pv,f0,v0,php,phl,phc,phs⟩:Pl) with hs:=phs.set t ⟨l0,v1⟩ } : Pl)=r:=⟨_,rfl⟩
 rw[hr2]at HM8 HShe
 rw[hw9]at HM8 ⊢
 have HMe:=HM8
 clear hw9 hr2 p3 t0 t1 t2 t3 t4 t5 o0 o1 o2 o3 r0b r1b r2b r3b q0 qz fz f_ hG hGh hfz hcg hst hfh hch hsth eg_ egh_ hgB_ hghB_
 have HMd:Hid (Mvd w w9.drew #[.int .i64 c.tills,.slice c.cp c.cl c.cc,.slice c.pp c.pl c.pc,.int .i64 c.lease,.int .i64 c.watch,.int .i64 c.beat,.int .i64 c.window,.int .i64 c.cap,.int .i64 c.flight] #[.int .u64 s.pos,.slice s.pp s.pn s.pc,.slice s.rp s.rn s.rc,.slice s.lp s.ln s.lc,.slice s.gp s.gn s.gc,.slice s.op s.on s.oc] O tb r2):=HMe.out.below ((Below.refl _ _).drew)
 have HRt:=hide (rright_state w9.drew c cs r2 (HCf.out.below HMd.out.bel) HMd.out.own.ok (shp_sm HCf.out HShe.out))
 refine wp_region_noPanic ?_
 refine wp_region_held_drew (S:=(fun W=>W.heap[tb]?=some (.cells #[.int .u64 r2.pos,.slice r2.pp r2.pn r2.pc,.slice r2.rp r2.rn r2.rc,.slice r2.lp r2.ln r2.lc,.slice r2.gp r2.gn r2.gc,.slice r2.op r2.on r2.oc] 45 (0,0))∧W.heap[w.heap.size]?=some (.cells #[.int .i64 c.tills,.slice c.cp c.cl c.cc,.slice c.pp c.pl c.pc,.int .i64 c.lease,.int .i64 c.watch,.int .i64 c.beat,.int .i64 c.window,.int .i64 c.cap,.int .i64 c.flight] 37 (0,0)))) (by kernel_rfl) ⟨HMd.out.xb,HMd.out.cb⟩ (fun hHeld=>?_)
 refine wpAnyH_take (i:=0) (oi:=_) (v:=.agg #[.int .u64 r2.pos,.slice r2.pp r2.pn r2.pc,.slice r2.rp r2.rn r2.rc,.slice r2.lp r2.ln r2.lc,.slice r2.gp r2.gn r2.gc,.slice r2.op r2.on r2.oc]) rfl (by kernel_rfl) (by kernel_rfl) (by kernel_rfl) (fun _ _ _ h=>h) (Or.inl ⟨by kernel_rfl,fun W hW=>ex_loadw W 45 (.tmp 8) rfl (tb) #[.int .u64 r2.pos,.slice r2.pp r2.pn r2.pc,.slice r2.rp r2.rn r2.rc,.slice r2.lp r2.ln r2.lc,.slice r2.gp r2.gn r2.gc,.slice r2.op r2.on r2.oc] rfl (Z.loadAt_row (P:=Tryz.prog) (ty:=45) hW.1 Tryz.underlying45 rfl Tryz.sizeS)⟩) hHeld ?_
 try simp only[Act.put,qzg,qzh,qzi,qzs,qz0,qz1]
 refine wpAnyH_take (i:=1) (oi:=_) (v:=.agg #[.int .i64 c.tills,.slice c.cp c.cl c.cc,.slice c.pp c.pl c.pc,.int .i64 c.lease,.int .i64 c.watch,.int .i64 c.beat,.int .i64 c.window,.int .i64 c.cap,.int .i64 c.flight]) rfl (by kernel_rfl) (by kernel_rfl) (by kernel_rfl) (fun _ _ _ h=>h) (Or.inl ⟨by kernel_rfl,fun W hW=>ex_loadw W 37 (.tmp 3) rfl (w.heap.size) #[.int .i64 c.tills,.slice c.cp c.cl c.cc,.slice c.pp c.pl c.pc,.int .i64 c.lease,.int .i64 c.watch,.int .i64 c.beat,.int .i64 c.window,.int .i64 c.cap,.int .i64 c.flight] rfl (Z.loadAt_row (P:=Tryz.prog) (ty:=37) hW.2 Tryz.underlying37 rfl Tryz.sizeC)⟩) hHeld ?_
 try simp only[Act.put,qzg,qzh,qzi,qzs,qz0,qz1]
 refine wpAnyH_take (i:=2) (oi:=_) (v:=.agg #[.int .u64 r2.pos,.slice r2.pp r2.pn r2.pc,.slice r2.rp r2.rn r2.rc,.slice r2.lp r2.ln r2.lc,.slice r2.gp r2.gn r2.gc,.slice r2.op r2.on r2.oc]) rfl (by kernel_rfl) (by kernel_rfl) (by kernel_rfl) (fun _ _ _ h=>h) (Or.inl ⟨by kernel_rfl,fun W hW=>ex_loadw W 45 (.tmp 8) rfl (tb) #[.int .u64 r2.pos,.slice r2.pp r2.pn r2.pc,.slice r2.rp r2.rn r2.rc,.slice r2.lp r2.ln r2.lc,.slice r2.gp r2.gn r2.gc,.slice r2.op r2.on r2.oc] rfl (Z.loadAt_row (P:=Tryz.prog) (ty:=45) hW.1 Tryz.underlying45 rfl Tryz.sizeS)⟩) hHeld ?_
 try simp only[Act.put,qzg,qzh,qzi,qzs,qz0,qz1]
 refine rdy 3 (fun KK hKK=>?_)
 go_simp
 (go_at_call 59;refine HRt.out.mono ?_;rintro e1 w8 ⟨⟨b,rfl,hbI⟩,hb8⟩;have HM8:Hid (Mvd w w8 #[.int .i64 c.tills,.slice c.cp c.cl c.cc,.slice c.pp c.pl c.pc,.int .i64 c.lease,.int .i64 c.watch,.int .i64 c.beat,.int .i64 c.window,.int .i64 c.cap,.int .i64 c.flight] #[.int .u64 s.pos,.slice s.pp s.pn s.pc,.slice s.rp s.rn s.rc,.slice s.lp s.ln s.lc,.slice s.gp s.gn s.gc,.slice s.op s.on s.oc] O tb r2):=HMd.out.below hb8;have HbI:=hide hbI;clear hb8 hbI)
 refine hKK.out _ _ (by(try dsimp only);exact⟨HM8.out.xb,HM8.out.cb⟩) (fun hHeld=>?_)
 clear hKK KK
 try simp only[Act.put,qzg,qzh,qzi,qzs,qz0,qz1]
 refine rdy 4 (fun KK hKK=>?_)
 rw[if_pos (by kernel_rfl)]
 refine wp_store_row 45 (.tmp 6) (.tmp 130) rfl (w.heap.size+1+1+1) #[.int .u64 r2.pos,.slice r2.pp r2.pn r2.pc,.slice r2.rp r2.rn r2.rc,.slice r2.lp r2.ln r2.lc,.slice r2.gp r2.gn r2.gc,.slice r2.op r2.on r2.oc] rfl rfl 45 #[.int .u64 0,.slice none 0 0,.slice none 0 0,.slice none 0 0,.slice none 0 0,.slice none 0 0] HM8.out.rb Tryz.sizeS rfl (by simp[Value.oneCell']) ?_
 refine hKK.out _ _ (by(try dsimp only);exact⟨(setRow_other _ _ _ _ (by have:=HM8.out.tlt;omega)).trans HM8.out.xb,(setRow_other _ _ _ _ (by omega)).trans HM8.out.cb⟩) (fun hHeld=>?_)
 clear hKK KK
 try simp only[Act.put,qzg,qzh,qzi,qzs,qz0,qz1]
 refine rdy 5 (fun KK hKK=>?_)
 go_simp
 refine hKK.out _ _ (by(try dsimp only);exact⟨(setRow_other _ _ _ _ (by have:=HM8.out.tlt;omega)).trans HM8.out.xb,(setRow_other _ _ _ _ (by omega)).trans HM8.out.cb⟩) (fun hHeld=>?_)
 clear hKK KK
 try simp only[Act.put,qzg,qzh,qzi,qzs,qz0,qz1]
 refine wpAnyH_done (by kernel_rfl) (NoPanic.normal ?_) _
 go_wp2
 refine bodyPost_ret (res_et rfl rfl (HM8.out.told _).1 Tryz.underlying45 rfl Tryz.sizeS) rfl ?_
 exact⟨_,b,rfl,rfl,by simp[Value.oneCell'],fun h=>⟨r2,rfl,(HM8.out.told _).2.1,HbI.out.1 h⟩,(HM8.out.told _).2.2⟩
end Go.Proofs.YtfbegfapoijbnaaGreat
