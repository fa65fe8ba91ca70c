import Derived.Test.YtiogibfhafoapaaGreatJgE
import Derived.Test.YtiogibfhafoapaaGreatBh0
import Derived.Test.YtiogibfhafoapaaGreatDcJ
import Derived.Test.YtiogibfhafoapaaGreatFoH
import Derived.Test.YtiogibfhafoapaaGreatAbS
import Derived.Test.YtiogibfhafoapaaGreatAbZ
import Derived.Test.YtiogibfhafoapaaGreatTk
import Derived.Test.YtiogibfhafoapaaGreatMv0
set_option maxRecDepth 100000
set_option maxHeartbeats 8000000
set_option linter.unusedSimpArgs false
set_option linter.unusedVariables false
namespace Go.Proofs.YtiogibfhafoapaaGreat
open Go.RowKit
open Z (Sli SlOk SlOwn Elt Acd AcdOk AcOwn Ctr ctc CtrB)
theorem Tryz.sizeO:(Tryz.prog.info? 57).map (·.size)=some 20:=by kernel_rfl
theorem Tryz.sizeW:(Tryz.prog.info? 61).map (·.size)=some 4:=by kernel_rfl
structure Scd where
 p:Z.Cnf
 st:Sli Stp
def Scd.arr (d:Scd):Array Value:=#[.int .i64 d.p.tills,.slice d.p.ctr.p d.p.ctr.n d.p.ctr.c,.slice d.p.prc.p d.p.prc.n d.p.prc.c,.int .i64 d.p.lease,.int .i64 d.p.watch,.int .i64 d.p.beat,.int .i64 d.p.window,.int .i64 d.p.cap,.int .i64 d.p.flight,.slice d.st.p d.st.n d.st.c]
structure Gs (w W:World) (P D:Array Value) (cb sb:Nat) (c:Cfg) (cs:List Ctr) (s:Sta):Prop where
 lb:W.heap[w.heap.size]?=some (.cells P 28 (0,0))
 kb:W.heap[cb]?=some (.cells D 34 (0,0))
 zb:W.heap[sb]?=some (.cells s.arr 42 (0,0))
 cf:∃w1,CfgOk w1 c cs∧Below w1.heap.size w1 W∧w1.heap.size≤sb
 st:StG W c s
 ow:∃B,StaOw B W s
 lt:w.heap.size≤sb
 bel:Below w.heap.size w W
theorem Gs.below {w W W':World} {P D:Array Value} {cb sb:Nat} {c:Cfg} {cs:List Ctr} {s:Sta} (h:Gs w W P D cb sb c cs s) (hb:Below W.heap.size W W'):Gs w W' P D cb sb c cs s:=by
 obtain⟨w1,h1,h2,h3⟩:=h.cf;obtain⟨B,h4⟩:=h.ow;exact⟨(hb.block _ (ac_lt h.lb)).trans h.lb,(hb.block _ (ac_lt h.kb)).trans h.kb,(hb.block _ (ac_lt h.zb)).trans h.zb,⟨w1,h1,h2.trans (hb.mono h2.size),h3⟩,h.st.below hb,⟨B,h4.below hb⟩,h.lt,h.bel.trans (hb.mono h.bel.size)⟩
theorem Gs.cfg {w W:World} {P D:Array Value} {cb sb:Nat} {c:Cfg} {cs:List Ctr} {s:Sta} (h:Gs w W P D cb sb c cs s):CfgOk W c cs:=by
 obtain⟨w1,h1,h2,_⟩:=h.cf;exact h1.below h2
theorem Gs.put {w W:World} {P D:Array Value} {cb sb:Nat} {c:Cfg} {cs:List Ctr} {s r:Sta} (h:Gs w W P D cb sb c cs s) (hr:StG W c r) (ho:(∃B,StaOw B W r)∨r=s):Gs w (W.setRow sb r.arr) P D cb sb c cs r:=by
 obtain⟨w1,h1,h2,h3⟩:=h.cf;obtain⟨B,h4⟩:∃B,StaOw B W r:=by rcases ho with ho | rfl;exact ho;exact h.ow
 have h5:=h4.far (W':=W.setRow sb r.arr) (fun g C t hg ht=>setRow_other _ _ _ _ (by rintro rfl;rw[h.zb]at hg;cases hg;exact not_mut rfl ht));refine⟨?_,?_,setRow_heap _ _ _ _ _ _ h.zb,⟨w1,h1,below_setRow h2 h3 _,h3⟩,⟨h5.ok,hr.shp,hr.wf⟩,⟨B,h5⟩,h.lt,below_setRow h.bel h.lt _⟩
 ·rw[setRow_other _ _ _ _ (by rintro rfl;have h6:=h.lb;rw[h.zb]at h6;cases h6)];exact h.lb
 ·rw[setRow_other _ _ _ _ (by rintro rfl;have h6:=h.kb;rw[h.zb]at h6;cases h6)];exact h.kb
theorem own_row {W:World} {B k n g:Nat} {e t:TypeId} {v:Value} {xs:List Value} {C:Array Value} (h:W.ownsRow B e k v n xs) (hg:W.heap[g]?=some (.cells C t (0,0))) (ht:t≠e) (E:Array Value):(W.setRow g E).ownsRow B e k v n xs :=
 owns_same h (fun g2 e2=>setRow_other _ _ _ _ (by rintro rfl;exact Z.owns_ne h hg ht e2.symm))
theorem judge9_any (w:World) (s:Sta) (hs:StaOk w s) (a:Acd) (ha:AcdOk w a) (hz:AcWf a) :
  Calls Tryz.prog 14 #[.agg s.arr,.agg a.arr] w fun e w'=>∃vp vn vc up un uc,e=.returned (.agg #[.int .i64 (judgeT s a).1,.slice vp vn vc,.slice up un uc,.int .i64 (judgeT s a).2.2.2])∧vn=(judgeT s a).2.1.length∧un=(judgeT s a).2.2.1.length∧TwoRows w.heap.size w' (.slice vp vn vc) (.slice up un uc) (judgeT s a).2.1 (judgeT s a).2.2.1∧Below w.heap.size w w':=by
 obtain⟨S,hS⟩:∃S,s.arr=S:=⟨_,rfl⟩;obtain⟨A,hA⟩:∃A,a.arr=A:=⟨_,rfl⟩;obtain⟨r,hr⟩:∃r,judgeT s a=r:=⟨_,rfl⟩;have HSz:Hid (S.size=6):=by show _=_;rw[←hS];rfl
 have HAz:Hid (A.size=15):=by show _=_;rw[←hA];rfl
 obtain⟨w2,hw2⟩:∃W,((w.alloc (.cells S 42)).alloc (.cells A 55)).alloc (.cells #[.int .i64 0,.slice none 0 0,.slice none 0 0,.int .i64 0] 61)=W:=⟨_,rfl⟩;have hb2:Below w.heap.size w w2:=by rw[←hw2];exact(((Below.refl _ w).alloc (Nat.le_refl _) _).alloc (by simp) _).alloc (by simp;omega) _
 have hx2:w2.heap[w.heap.size]?=some (.cells S 42 (0,0)):=by rw[←hw2,Below.heap_alloc _ _ _ (by simp only[World.size_alloc];omega),Below.heap_alloc _ _ _ (by simp)];exact heap_alloc_new _ _
 have hy2:w2.heap[w.heap.size+1]?=some (.cells A 55 (0,0)):=by rw[←hw2,Below.heap_alloc _ _ _ (by simp)];exact heap_alloc2_new _ _ _
 have hz2:w2.heap[w.heap.size+1+1]?=some (.cells #[.int .i64 0,.slice none 0 0,.slice none 0 0,.int .i64 0] 61 (0,0)):=by
  have h:=heap_alloc_new ((w.alloc (.cells S 42)).alloc (.cells A 55)) (.cells #[.int .i64 0,.slice none 0 0,.slice none 0 0,.int .i64 0] 61);rw[hw2]at h;simp only[World.size_alloc]at h;exact h
 have HJ:=hide (judge_any w2 s (hs.below hb2) a (ha.below hb2) hz);rw[hS,hA,hr]at HJ;have HLs:=hide (Z.loadAt_row (P:=Tryz.prog) (ty:=42) hx2 Tryz.underlying42 rfl (by rw[HSz.out];exact Tryz.sizeS));have HLa:=hide (Z.loadAt_row (P:=Tryz.prog) (ty:=55) hy2 Tryz.underlying55 rfl (by rw[HAz.out];exact Z.Tryz.sizeA));have HW2:=hide hw2;have HB2:=hide hb2;have HZ2:=hide hz2;rw[hr,hS,hA];clear hr hS hA hs ha hz hw2 hb2 hx2 hy2 hz2;obtain⟨r1,L,M,r4⟩:=r;go_enter Tryz.func14,Tryz.ntmps14;go_upto_region 1 with (fail);rw[HW2.out]
 go_wp2_with (
  first
  | ((with_reducible show wpList _ _ _ (⟨_,.load 42 (.tmp 2),_,_,_,_⟩ :: _) _ _);refine Z.lp_load w.heap.size 0 S rfl HLs.out ?_)
  | ((with_reducible show wpList _ _ _ (⟨_,.load 55 (.tmp 3),_,_,_,_⟩ :: _) _ _);refine Z.lp_load (w.heap.size+1) 0 A rfl HLa.out ?_)
  | (go_at_call 42;refine HJ.out.mono ?_;rintro e w3 ⟨v,u,rfl,ht,hb3⟩;obtain⟨vp,vc,rfl⟩:=own_form ht.1;obtain⟨up,uc,rfl⟩:=own_form ht.2;have HT:=hide ht;have HB3:=hide hb3;have HZ3:Hid (w3.heap[w.heap.size+1+1]?=some (.cells #[.int .i64 0,.slice none 0 0,.slice none 0 0,.int .i64 0] 61 (0,0))):=((hb3.block _ (ac_lt HZ2.out)).trans HZ2.out);have HSt:=hide (Z.storeAt_row (P:=Tryz.prog) (c':=#[.int .i64 r1,.slice vp L.length vc,.slice up M.length uc,.int .i64 r4]) HZ3.out Tryz.sizeW rfl (by simp[Value.oneCell']));clear ht hb3)
  | ((with_reducible show wpList _ _ _ (⟨_,.store 61 (.tmp 4) _,_,_,_,_⟩ :: _) _ _);refine Z.lp_store (t:=61) (x:=.tmp 4) (some ⟨w.heap.size+1+1,0,none⟩) (.agg #[.int .i64 r1,.slice vp L.length vc,.slice up M.length uc,.int .i64 r4]) rfl rfl HSt.out ?_)
  | fail)
 refine bodyPost_ret (results_cell_row rfl _ _ (w.heap.size+1+1) 61 #[.int .i64 r1,.slice vp L.length vc,.slice up M.length uc,.int .i64 r4] (0,0) _ rfl (setRow_heap _ _ _ _ _ _ HZ3.out) Tryz.underlying61 rfl Tryz.sizeW) rfl ?_;exact⟨vp,_,vc,up,_,uc,rfl,rfl,rfl,⟨Z.owns_le (own_row HT.out.1 HZ3.out (by decide) _) HB2.out.size,Z.owns_le (own_row HT.out.2 HZ3.out (by decide) _) HB2.out.size⟩,below_setRow (HB2.out.trans (HB3.out.mono HB2.out.size)) (by omega) _⟩
theorem fir_shp {c:Cfg} {S:Sta} {B T:Nat} {W:World} {cs:List Ctr} {ps:List (ByteArray × Int)} (ho:StaOw B W S) (hd:S.d=firD T c.cl c.pl T cs ps) (hc:cs.length=c.cl) (hp:ps.length=c.pl) (ht:c.tills=(T:Int)):Shp c S:=by
 have h1:S.pools.map Pl.d=(cs.take c.cl).map (firPl T):=congrArg StP.pools hd;have h2:S.prices=(ps.take c.pl).map firPr:=congrArg StP.prices hd;have h3:S.last=List.replicate T 0:=congrArg StP.last hd;have h4:S.gen=List.replicate T 0:=congrArg StP.gen hd;have h5:S.owed=List.replicate T false:=congrArg StP.owed hd;refine⟨?_,?_,?_,?_,?_,fun p hp'=>?_⟩
 ·have h:=congrArg List.length h1
  rw[List.length_map,List.length_map,List.length_take,hc]at h;have:=ho.pn;omega
 ·have h:=congrArg List.length h2
  rw[List.length_map,List.length_take,hp]at h;have:=ho.rn;omega
 ·have h:=congrArg List.length h3
  rw[List.length_replicate]at h;have:=ho.ln;omega
 ·have h:=congrArg List.length h4
  rw[List.length_replicate]at h;have:=ho.gn;omega
 ·have h:=congrArg List.length h5
  rw[List.length_replicate]at h;have:=ho.on;omega
 ·have h6:p.d∈(cs.take c.cl).map (firPl T):=by rw[←h1];exact List.mem_map.2 ⟨p,hp',rfl⟩
  obtain⟨x,_,e⟩:=List.mem_map.1 h6;have h7:p.hs=List.replicate T ⟨0,0⟩:=(congrArg PlP.hs e).symm;have h8:=ho.hlen p hp';rw[h7,List.length_replicate]at h8;omega
theorem fir_frw {S:Sta} {T k m j:Nat} {cs:List Ctr} {ps:List (ByteArray × Int)} (hd:S.d=firD T k m j cs ps) (hb:∀x∈cs,CtrB x):FrWf S.pools:=fun p hp=>by
 have h1:S.pools.map Pl.d=(cs.take k).map (firPl T):=congrArg StP.pools hd;have h6:p.d∈(cs.take k).map (firPl T):=by rw[←h1];exact List.mem_map.2 ⟨p,hp,rfl⟩
 obtain⟨x,hx,e⟩:=List.mem_map.1 h6;obtain⟨b1,b2,b3,b4⟩:=hb x (List.mem_of_mem_take hx);have e1:x.st - x.lo=p.f0:=congrArg PlP.f0 e;have e2:x.hi - x.st=p.f1:=congrArg PlP.f1 e;exact⟨lwf_of (by show _≤p.f0∧p.f0≤_;omega),lwf_of (by show _≤p.f1∧p.f1≤_;omega)⟩
end Go.Proofs.YtiogibfhafoapaaGreat
namespace Go.Proofs.YtiogibfhafoapaaGreat
open Go.RowKit Go.Sort
open Z (Sli SlOk Acd AcdOk AcOwn Ctr ctc)
theorem moved_3 (w:World) (c:Cfg) (cs:List Ctr) (hcf:CfgOk w c cs) (h1t:1≤c.tills) (hcl1:1≤c.cl) (s:Sta) (hs:StaOk w s) (hsh:Shp c s) (o:Stp) (hwy:o.way % 4=3) :
  Calls Tryz.prog 47 #[.agg (qC c),.agg (qS s),.agg o.arr] w (MovP w c cs):=by
 obtain⟨O,hO⟩:∃O:Array Value,o.arr=O:=⟨_,rfl⟩;obtain⟨w2,hw2,hb2,hc2,hs2,ho2,hr2,hsz2⟩:=step_boxes w (qC c) (qS s) O qs 42;have HW2:=hide hw2;have HCf:=hide hcf;have HSh:=hide hsh;have HSm:=hide (shp_sm hcf hsh);have h0:(0:Int)<c.tills:=by omega
 have ht0:0≤o.till % c.tills∧o.till % c.tills<c.tills:=⟨Int.emod_nonneg _ (by omega),Int.emod_lt_of_pos _ h0⟩;obtain⟨t,ht⟩:∃t:Nat,o.till % c.tills=(t:Int):=⟨(o.till % c.tills).toNat,by omega⟩;rw[ht]at ht0;have h0c:(0:Int)<(c.cl:Int):=by omega
 have hi0:0≤o.what % (c.cl:Int)∧o.what % (c.cl:Int)<(c.cl:Int):=⟨Int.emod_nonneg _ (by omega),Int.emod_lt_of_pos _ h0c⟩;obtain⟨k,hk⟩:∃t:Nat,o.what % (c.cl:Int)=(t:Int):=⟨(o.what % (c.cl:Int)).toNat,by omega⟩;rw[hk]at hi0;have htm:=hcf.tills;have hcm:=hcf.cl
 have HWt:Hid (∀W,Calls Tryz.prog 33 #[.int .i64 o.till,.int .i64 c.tills] W fun e w'=>e=.returned (.int .i64 (t:Int))∧w'=W):=fun W=>by
  have h:=Z.within_any W (o.till) (c.tills) (by omega) (by omega);rw[ht]at h;exact h
 have HWi:Hid (∀W,Calls Tryz.prog 33 #[.int .i64 o.what,.int .i64 (c.cl:Int)] W fun e w'=>e=.returned (.int .i64 (k:Int))∧w'=W):=fun W=>by
  have h:=Z.within_any W (o.what) ((c.cl:Int)) (by omega) (by omega);rw[hk]at h;exact h
 have HWw:Hid (∀W,Calls Tryz.prog 33 #[.int .i64 o.way,.int .i64 4] W fun e w'=>e=.returned (.int .i64 3)∧w'=W):=fun W=>by
  have h:=Z.within_any W (o.way) (4) (by omega) (by omega);rw[hwy]at h;exact h
 have HCs:=hide (copyState_any w2 s (hs.below hb2) (shp_sm hcf hsh))
 have HOc:Hid (∀W:World,W.heap[w.heap.size+1+1]?=some (.cells O 57 (0,0))→W.cell? ⟨w.heap.size+1+1,16,none⟩=some (.int .i64 o.what)∧W.cell? ⟨w.heap.size+1+1,17,none⟩=some (.int .i64 o.way)∧W.cell? ⟨w.heap.size+1+1,18,none⟩=some (.int .i64 o.till)∧W.cell? ⟨w.heap.size+1+1,19,none⟩=some (.int .i64 o.n)):=fun W h=>by
  refine⟨?_,?_,?_,?_⟩ <;> · rw[cell_of_row _ _ _ _ _ _ h,←hO];rfl
 have HB2:=hide hb2;obtain⟨c0,c1,c2,c3,c4,c5⟩:=ac6 hs2;have HPre:Hid (∀w4 tb (r0:Sta),Below w2.heap.size w2 w4→w4.heap[tb]?=some (.cells r0.arr 42 (0,0))→w2.heap.size≤tb→StaOw w2.heap.size w4 r0→Mvd w w4 (qC c) (qS s) O tb r0):=fun w4 tb r0 hb ht hlt ho=>⟨(hb.block _ (ac_lt hc2)).trans hc2,(hb.block _ (ac_lt hs2)).trans hs2,(hb.block _ (ac_lt ho2)).trans ho2,(hb.block _ (ac_lt hr2)).trans hr2,ht,by omega,by rw[←hsz2];exact ho,hb2.trans (hb.mono hb2.size)⟩
 have HSk:=hide (hs.below hb2);have HT:=hide ht;have HK:=hide hk;rw[hO];clear hO hw2 hb2 hc2 hs2 ho2 hr2 hs hcf h0 h0c ht hk hwy;go_enter Tryz.func47,Tryz.ntmps47;go_upto_region 1 with (fail);rw[HW2.out];go_upto_region 2 with (first | (go_at_call 15;refine HCs.out.mono ?_;rintro e1 w3 ⟨r0,rfl,hd0,ho0,hb3⟩;have HD0:=hide hd0;have HO0:=hide ho0;have HB3:=hide hb3;have HSt:=hide (run_storeAt_new (P:=Tryz.prog) w3 42 qs r0.arr Tryz.sizeS rfl (by simp[Sta.arr,Value.oneCell']));clear hd0 ho0 hb3 c0 c1 c2 c3 c4 c5) | ((with_reducible show wpList _ _ _ (⟨_,.store 42 (.tmp 8) _,_,_,_,_⟩ :: _) _ _);refine Z.lp_store (t:=42) (x:=.tmp 8) (some ⟨w3.heap.size,0,none⟩) (.agg r0.arr) rfl rfl HSt.out ?_));have hT4:=heap_alloc_new w3 (.cells r0.arr 42);have hb4:Below w3.heap.size w3 (w3.alloc (.cells r0.arr 42)):=(Below.refl _ _).alloc (Nat.le_refl _) _;have HSr:Hid (Shp c r0):=shp_of HSh.out HSk.out HO0.out HD0.out;have HM4:=hide (HPre.out _ _ r0 (HB3.out.trans (hb4.mono HB3.out.size)) hT4 HB3.out.size (HO0.out.below hb4));obtain⟨w4,hw4⟩:∃W,w3.alloc (.cells r0.arr 42)=W:=⟨_,rfl⟩;rw[hw4]at HM4 ⊢;obtain⟨tb,htb⟩:∃k,w3.heap.size=k:=⟨_,rfl⟩;rw[htb]at HM4 ⊢;clear hw4 htb hT4 hb4 HPre HSt;obtain⟨t0,t1,t2,t3,t4,t5⟩:=ac6 HM4.out.xb;obtain⟨d0,d1,-,-,-,-,-,-,-⟩:=ac9 HM4.out.cb;obtain⟨o0,o1,o2,o3⟩:=HOc.out w4 HM4.out.ob;go_upto_region 3 with (first | (go_at_call 33;refine(HWt.out _).mono ?_;rintro e w9 ⟨rfl,h9⟩;rw[h9];clear h9 w9) | fail);go_upto_region 4 with (first | (go_at_call 33;refine(HWi.out _).mono ?_;rintro e w9 ⟨rfl,h9⟩;rw[h9];clear h9 w9) | fail);obtain⟨q,hq⟩:∃q,r0.gen[t]?=some q:=⟨_,List.getElem?_eq_getElem (by rw[HM4.out.own.gn];have:=HSr.out.gn;omega)⟩;obtain⟨g,eg,hgB,⟨G,hG⟩,hfz,hcg,hst⟩:=HM4.out.own.setG hq;have fz:=hfz t;rw[eg]at t4;obtain⟨gv,hgv⟩:∃v,IntKind.u64.wrap o.n=v:=⟨_,rfl⟩;have HM5:Hid (Mvd w (w4.setCell ⟨g,t,none⟩ (.int .u64 gv)) (qC c) (qS s) O tb (r0.setGen t gv)):=HM4.out.set hG (Or.inr (Or.inr (Or.inr (Or.inl rfl)))) hgB _ _ rfl (hst gv);have HS5:Hid (Shp c (r0.setGen t gv)):=by have h:=HSr.out;exact⟨h.pn,h.rn,h.ln,h.gn,h.on,h.hl⟩
 have k0:(0:Int)≤(t:Int):=by omega
 have k1:(t:Int)<(r0.gn:Int):=by have:=HSr.out.gn;omega
 have k2:(t:Int)<(r0.on:Int):=by have:=HSr.out.on;omega
 clear hq hG hfz hst eg;go_upto_region 16 with (first | (go_at_call 33;refine(HWw.out _).mono ?_;rintro e w9 ⟨rfl,h9⟩;rw[h9];clear h9 w9) | fail);obtain⟨w5,hw5⟩:∃W,w4.setCell ⟨g,t,none⟩ (.int .u64 gv)=W:=⟨_,rfl⟩;rw[hw5]at HM5 ⊢;clear hw5 hgv hcg fz hgB t0 t1 t2 t3 t4 t5 d0 d1 o0 o1 o2 o3;obtain⟨r1,hr1⟩:∃r,r0.setGen t gv=r:=⟨_,rfl⟩;have e1:r1.on=r0.on:=by rw[←hr1];rfl
 rw[hr1]at HM5 HS5;rw[←e1]at k2;clear hr1 e1;obtain⟨q,hq⟩:∃q,r1.owed[t]?=some q:=⟨_,List.getElem?_eq_getElem (by rw[HM5.out.own.on];omega)⟩;obtain⟨g,eg,hgB,⟨G,hG⟩,hfz,hcg,hst⟩:=HM5.out.own.setO hq;have fz:=hfz t;obtain⟨t0,t1,t2,t3,t4,t5⟩:=ac6 HM5.out.xb;obtain⟨o0,o1,o2,o3⟩:=HOc.out w5 HM5.out.ob;rw[eg]at t5;have HMx:Hid (∀b:Bool,Mvd w (w5.setCell ⟨g,t,none⟩ (.bool b)) (qC c) (qS s) O tb (r1.setOw t b)):=fun b=>HM5.out.set hG (Or.inr (Or.inr (Or.inr (Or.inr rfl)))) hgB _ _ rfl (hst b)
 have HSx:Hid (∀b:Bool,Shp c (r1.setOw t b)):=fun b=>by have h:=HS5.out;exact⟨h.pn,h.rn,h.ln,h.gn,h.on,h.hl⟩
 clear hq hG hfz hst eg;by_cases q1:o.n=0;have q2:((o.n:Int) != 0)=false:=by simp[q1]
 clear q1
 focus go_upto_region 17 with (fail)
 obtain⟨w6,hw6⟩:∃W,w5.setCell ⟨g,t,none⟩ (.bool false)=W:=⟨_,rfl⟩;have HMe:=hide (HMx.out false);have HShe:=hide (HSx.out false);obtain⟨r2,hr2⟩:∃r,r1.setOw t false=r:=⟨_,rfl⟩;rotate_left;have q2:((o.n:Int) != 0)=true:=by simp[q1]
 clear q1;by_cases q3:o.what.tmod 2=0;have q4:((o.what.tmod 2:Int) == 0)=true:=by simp[q3]
 clear q3
 focus go_upto_region 17 with (fail)
 obtain⟨w6,hw6⟩:∃W,w5.setCell ⟨g,t,none⟩ (.bool true)=W:=⟨_,rfl⟩;have HMe:=hide (HMx.out true);have HShe:=hide (HSx.out true);obtain⟨r2,hr2⟩:∃r,r1.setOw t true=r:=⟨_,rfl⟩;rotate_left;have q4:((o.what.tmod 2:Int) == 0)=false:=by simp[q3]
 clear q3
 focus go_upto_region 17 with (fail)
 obtain⟨w6,hw6⟩:∃W,w5.setCell ⟨g,t,none⟩ (.bool false)=W:=⟨_,rfl⟩;have HMe:=hide (HMx.out false);have HShe:=hide (HSx.out false);obtain⟨r2,hr2⟩:∃r,r1.setOw t false=r:=⟨_,rfl⟩
 all_goals
  rw[hr2]at HMe HShe;rw[hw6]at HMe ⊢;clear hw6 hr2 hcg fz t0 t1 t2 t3 t4 t5 o0 o1 o2 o3;have HMd:Hid (Mvd w w6.drew (qC c) (qS s) O tb r2):=HMe.out.below ((Below.refl _ _).drew);have HRt:=hide (rright_state w6.drew c cs r2 (HCf.out.below HMd.out.bel) HMd.out.own.ok (shp_sm HCf.out HShe.out));refine wp_region_noPanic ?_;refine wp_region_held_drew (S:=(fun W=>W.heap[tb]?=some (.cells (qS r2) 42 (0,0))∧W.heap[w.heap.size]?=some (.cells (qC c) 34 (0,0)))) (by kernel_rfl) ⟨HMd.out.xb,HMd.out.cb⟩ (fun hHeld=>?_);refine wpAnyH_take (i:=0) (oi:=_) (v:=.agg (qS r2)) rfl (by kernel_rfl) (by kernel_rfl) (by kernel_rfl) (fun _ _ _ h=>h) (Or.inl ⟨by kernel_rfl,fun W hW=>ex_loadw W 42 (.tmp 8) rfl (tb) (qS r2) rfl (Z.loadAt_row (P:=Tryz.prog) (ty:=42) hW.1 Tryz.underlying42 rfl Tryz.sizeS)⟩) hHeld ?_;try simp only[Act.put,qzg,qzh,qzi,qzs,qz0,qz1]
  refine wpAnyH_take (i:=1) (oi:=_) (v:=.agg (qC c)) rfl (by kernel_rfl) (by kernel_rfl) (by kernel_rfl) (fun _ _ _ h=>h) (Or.inl ⟨by kernel_rfl,fun W hW=>ex_loadw W 34 (.tmp 3) rfl (w.heap.size) (qC c) rfl (Z.loadAt_row (P:=Tryz.prog) (ty:=34) hW.2 Tryz.underlying34 rfl Tryz.sizeC)⟩) hHeld ?_;try simp only[Act.put,qzg,qzh,qzi,qzs,qz0,qz1]
  refine wpAnyH_take (i:=2) (oi:=_) (v:=.agg (qS r2)) rfl (by kernel_rfl) (by kernel_rfl) (by kernel_rfl) (fun _ _ _ h=>h) (Or.inl ⟨by kernel_rfl,fun W hW=>ex_loadw W 42 (.tmp 8) rfl (tb) (qS r2) rfl (Z.loadAt_row (P:=Tryz.prog) (ty:=42) hW.1 Tryz.underlying42 rfl Tryz.sizeS)⟩) hHeld ?_;try simp only[Act.put,qzg,qzh,qzi,qzs,qz0,qz1]
  refine rdy 3 (fun KK hKK=>?_);go_simp
  (go_at_call 99;refine HRt.out.mono ?_;rintro e1 w8 ⟨⟨b,rfl,hbI⟩,hb8⟩;have HM8:Hid (Mvd w w8 (qC c) (qS s) O tb r2):=HMd.out.below hb8;have HbI:=hide hbI;clear hb8 hbI)
  refine hKK.out _ _ (by(try dsimp only);exact⟨HM8.out.xb,HM8.out.cb⟩) (fun hHeld=>?_);clear hKK KK;try simp only[Act.put,qzg,qzh,qzi,qzs,qz0,qz1]
  refine rdy 4 (fun KK hKK=>?_);rw[if_pos (by kernel_rfl)];refine wp_store_row 42 (.tmp 6) (.tmp 130) rfl (w.heap.size+1+1+1) (qS r2) rfl rfl 42 qs HM8.out.rb Tryz.sizeS rfl (by simp[Value.oneCell']) ?_;refine hKK.out _ _ (by(try dsimp only);exact⟨(setRow_other _ _ _ _ (by have:=HM8.out.tlt;omega)).trans HM8.out.xb,(setRow_other _ _ _ _ (by omega)).trans HM8.out.cb⟩) (fun hHeld=>?_);clear hKK KK;try simp only[Act.put,qzg,qzh,qzi,qzs,qz0,qz1]
  refine rdy 5 (fun KK hKK=>?_);go_simp;refine hKK.out _ _ (by(try dsimp only);exact⟨(setRow_other _ _ _ _ (by have:=HM8.out.tlt;omega)).trans HM8.out.xb,(setRow_other _ _ _ _ (by omega)).trans HM8.out.cb⟩) (fun hHeld=>?_);clear hKK KK;try simp only[Act.put,qzg,qzh,qzi,qzs,qz0,qz1]
  refine wpAnyH_done (by kernel_rfl) (NoPanic.normal ?_) _;go_wp2;refine bodyPost_ret (res_et rfl rfl (HM8.out.told _).1 Tryz.underlying42 rfl Tryz.sizeS) rfl ?_;exact⟨_,b,rfl,rfl,by simp[Value.oneCell'],fun h=>⟨r2,rfl,(HM8.out.told _).2.1,HbI.out.1 h⟩,(HM8.out.told _).2.2⟩
end Go.Proofs.YtiogibfhafoapaaGreat
